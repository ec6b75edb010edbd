/- Contracts of the functions of chapter 1 that count and make sketches. No statement is proved here. -/
import Derived.Test.YtgnkidmljcpheacSk
namespace Go.Proofs.Ytgnkidmljcpheac
open Go.RowKit

def mn (x y : Int) : Int := if y < x then y else x
theorem mn_min (x y : Int) : mn x y = min x y := by unfold mn; omega
def cnt (l : List Int) (key : Int) : Nat → Int
  | 0 => 15
  | k + 1 => mn (cnt l key k) (gi l (cellN k key))
def countL (l : List Int) (key : Int) : Int := if vsk l && inR 0 31 key then cnt l key 3 else -1
/-- A counter more. -/
def bump (l : List Int) (c : Nat) : List Int := l.set c (mn (gi l c + 1) 15)
def addN (l : List Int) (key : Int) : Nat → List Int
  | 0 => l
  | k + 1 => bump (addN l key k) (cellN k key)
theorem bump_len (l : List Int) (c : Nat) : (bump l c).length = l.length := by simp [bump]
theorem addN_len (l : List Int) (key : Int) : ∀ k, (addN l key k).length = l.length
  | 0 => rfl
  | k + 1 => by rw [addN, bump_len, addN_len l key k]
theorem bump_vsk {l : List Int} {c : Nat} (h : vsk l = true) : vsk (bump l c) = true := by
  have hl := vsk_len h
  refine vsk_of (by rw [bump_len, hl]) fun k hk => ?_
  have hk' := vsk_gi h hk
  rcases Nat.lt_or_ge c l.length with hc | hc
  · have hc' := vsk_gi h (show c < 24 by omega)
    unfold bump; rw [gi_set _ hc]; split
    · unfold mn; split <;> omega
    · exact hk'
  · rw [bump, List.set_eq_of_length_le hc]; exact hk'
theorem addN_vsk {l : List Int} {key : Int} (h : vsk l = true) : ∀ k, vsk (addN l key k) = true
  | 0 => h
  | k + 1 => bump_vsk (addN_vsk h k)
def addL (l : List Int) (key : Int) : List Int := if vsk l && inR 0 31 key then addN l key 3 else []
def emptyL : List Int := List.replicate 24 0
theorem emptyL_vsk : vsk emptyL = true := by decide

theorem count_c (A : Option Addr) (n c : Nat) (l : List Int) (key : Int) (w : World) (B : Nat) (h : SI w B A n c l) (hn : 24 ≤ n) (h2 : 0 ≤ key) (h3 : key ≤ 31) :
    Calls Try.prog 57 #[.slice A n c, .int .i64 key] w fun e w' => e = .returned (.int .i64 (cnt l key 3)) ∧ w = w' := by
  have hc := h.le
  have hm := h.max
  go_enter Try.func57, Try.ntmps57
  go_wp2
  go_loop [5, 6] (fun v i => ∃ k : Nat, k ≤ 3 ∧ i = .int .i64 k ∧ v = .int .i64 (cnt l key k)) (fun _ i => 3 - (intOf i).toNat)
  case atStart => exact ⟨0, Nat.zero_le _, rfl, rfl⟩
  case round =>
    obtain ⟨k, hk, rfl, rfl⟩ := hrel
    by_cases hlt : k < 3
    · have hcl := cellN_lt (key := key) hlt
      obtain ⟨b, o, rfl, hb, hcell⟩ := h.at_ (k := cellN k key) (by omega)
      have hbd := cellI_bd k key
      have HC : w.cell? ⟨b, o + (cellI k key).toNat, none⟩ = some (.int .i64 (gi l (cellN k key))) := hcell
      go_wp2_with (go_at_call 56; refine (cell_c _ _ _ (by omega) (by omega) h2 h3).mono ?_; rintro e w' ⟨rfl, rfl⟩)
      go_round
      case rel => exact ⟨k + 1, by omega, by go_num, rfl⟩
      case measure => simp [intOf]; omega
    · obtain rfl : k = 3 := by omega
      go_wp2
      go_ret
      exact ⟨rfl, rfl⟩

theorem specCountOf_c (A : Option Addr) (n c : Nat) (l : List Int) (key : Int) (w : World) (B : Nat) (h : SI w B A n c l) :
    Calls Try.prog 33 #[.slice A n c, .int .i64 key] w fun e w' => e = .returned (.int .i64 (countL l key)) ∧ w = w' := by
  rcases Bool.eq_false_or_eq_true (vsk l) with hv | hv
  · rcases Bool.eq_false_or_eq_true (inR 0 31 key) with hk | hk
    · have hk' := inR_true.1 hk
      have hn : 24 ≤ n := by rw [h.len, vsk_len hv]; exact Nat.le_refl _
      go_enter Try.func33, Try.ntmps33
      go_wp2_with (first | (go_at_call 55; refine (validSketch_c _ _ _ l _ _ h).mono ?_; rintro e w' ⟨rfl, rfl⟩) | (go_at_call 52; refine (inRange_c _ _ _ _).mono ?_; rintro e w' ⟨rfl, rfl⟩) | (go_at_call 57; refine (count_c _ _ _ l _ _ _ h hn hk'.1 hk'.2).mono ?_; rintro e w' ⟨rfl, rfl⟩))
      go_ret
      exact ⟨ret_int (by simp [countL, hv, hk]), rfl⟩
    · go_enter Try.func33, Try.ntmps33
      go_wp2_with (first | (go_at_call 55; refine (validSketch_c _ _ _ l _ _ h).mono ?_; rintro e w' ⟨rfl, rfl⟩) | (go_at_call 52; refine (inRange_c _ _ _ _).mono ?_; rintro e w' ⟨rfl, rfl⟩))
      go_ret
      exact ⟨ret_int (by simp [countL, hk]), rfl⟩
  · go_enter Try.func33, Try.ntmps33
    go_wp2_with (go_at_call 55; refine (validSketch_c _ _ _ l _ _ h).mono ?_; rintro e w' ⟨rfl, rfl⟩)
    go_ret
    exact ⟨ret_int (by simp [countL, hv]), rfl⟩

theorem implCountOf_c (A : Option Addr) (n c : Nat) (l : List Int) (key : Int) (w : World) (B : Nat) (h : SI w B A n c l) :
    Calls Try.prog 34 #[.slice A n c, .int .i64 key] w fun e w' => e = .returned (.int .i64 (countL l key)) ∧ w = w' := by
  have hc := h.le
  have hm := h.max
  rcases Bool.eq_false_or_eq_true (vsk l) with hv | hv
  · rcases Bool.eq_false_or_eq_true (inR 0 31 key) with hk | hk
    · have hk' := inR_true.1 hk
      have hn : 24 ≤ n := by rw [h.len, vsk_len hv]; exact Nat.le_refl _
      go_enter Try.func34, Try.ntmps34
      go_wp2_with (first | (go_at_call 25; refine (implValidSketch_c _ _ _ l _ _ h).mono ?_; rintro e w' ⟨rfl, rfl⟩) | (go_at_call 49; refine (validKey_c _ _).mono ?_; rintro e w' ⟨rfl, rfl⟩))
      go_loop [5, 15] (fun v i => ∃ k : Nat, k ≤ 3 ∧ i = .int .i64 k ∧ v = .int .i64 (cnt l key k)) (fun _ i => 3 - (intOf i).toNat)
      case atStart => exact ⟨0, Nat.zero_le _, rfl, rfl⟩
      case round =>
        obtain ⟨k, hk2, rfl, rfl⟩ := hrel
        by_cases hlt : k < 3
        · have hcl := cellN_lt (key := key) hlt
          obtain ⟨b, o, rfl, hb, hcell⟩ := h.at_ (k := cellN k key) (by omega)
          have hbd := cellI_bd k key
          have HC : w.cell? ⟨b, o + (cellI k key).toNat, none⟩ = some (.int .i64 (gi l (cellN k key))) := hcell
          have he : cellOfL k key = cellI k key := by rw [cellOfL, if_pos (by omega)]
          go_wp2_with (go_at_call 32; refine (implCellOf_c _ _ _).mono ?_; rintro e w' ⟨rfl, rfl⟩)
          go_round
          case rel => exact ⟨k + 1, by omega, by go_num, rfl⟩
          case measure => simp [intOf]; omega
        · obtain rfl : k = 3 := by omega
          go_wp2
          go_ret
          exact ⟨ret_int (by simp [countL, hv, hk]), rfl⟩
    · go_enter Try.func34, Try.ntmps34
      go_wp2_with (first | (go_at_call 25; refine (implValidSketch_c _ _ _ l _ _ h).mono ?_; rintro e w' ⟨rfl, rfl⟩) | (go_at_call 49; refine (validKey_c _ _).mono ?_; rintro e w' ⟨rfl, rfl⟩))
      go_ret
      exact ⟨ret_int (by simp [countL, hk]), rfl⟩
  · go_enter Try.func34, Try.ntmps34
    go_wp2_with (go_at_call 25; refine (implValidSketch_c _ _ _ l _ _ h).mono ?_; rintro e w' ⟨rfl, rfl⟩)
    go_ret
    exact ⟨ret_int (by simp [countL, hv]), rfl⟩

/-! What a call leaves that gives back a list in new memory. -/
def Gives (w : World) (l : List Int) (e : Ending) (w' : World) : Prop := ∃ A n c, e = .returned (.slice A n c) ∧ OI w' w.heap.size A n c l ∧ Below w.heap.size w w'

theorem specEmpty_c (w : World) : Calls Try.prog 27 #[] w (Gives w emptyL) := by
  go_enter Try.func27, Try.ntmps27
  go_wp2_with (at_make; refine wpList_mk rfl _ _ _ rfl Try.underlying23 24 rfl rfl (by omega) (Nat.le_refl _) ?_; intro w1 hO hg)
  go_ret
  exact ⟨_, _, _, rfl, hO, (Below.refl _ _).grown hg (Nat.le_refl _) (by simp)⟩
theorem implEmpty_c (w : World) : Calls Try.prog 28 #[] w (Gives w emptyL) := by
  go_enter Try.func28, Try.ntmps28
  go_wp2_with (at_make; refine wpList_mk rfl _ _ _ rfl Try.underlying23 24 rfl rfl (by omega) (Nat.le_refl _) ?_; intro w1 hO hg)
  go_ret
  exact ⟨_, _, _, rfl, hO, (Below.refl _ _).grown hg (Nat.le_refl _) (by simp)⟩

theorem copyInts_c (A : Option Addr) (n c : Nat) (l : List Int) (w : World) (h : SI w w.heap.size A n c l) (hsz : n ≤ 1000000000) :
    Calls Try.prog 71 #[.slice A n c] w (Gives w l) := by
  go_enter Try.func71, Try.ntmps71
  go_wp2_with (at_builtin; refine wpList_app rfl _ _ _ rfl Try.underlying23 rfl rfl (OI.lit w w.heap.size [] 0 rfl (Nat.le_refl _) (by simp) _ rfl) (h.alloc (Nat.le_refl _) _) (by omega) (by simp) ?_; intro A1 c1 w1 hO hg hat)
  go_ret
  refine ⟨_, _, _, rfl, by simpa using hO, ((Below.refl _ _).alloc (Nat.le_refl _) _).grown hg (by simp) (by simp [blk])⟩

theorem addKey_c (A : Option Addr) (n c : Nat) (l : List Int) (key : Int) (w : World) (h : SI w w.heap.size A n c l) (hv : vsk l = true) (h2 : 0 ≤ key) (h3 : key ≤ 31) :
    Calls Try.prog 58 #[.slice A n c, .int .i64 key] w (Gives w (addN l key 3)) := by
  have hn : n = 24 := by rw [h.len, vsk_len hv]
  subst hn
  go_enter Try.func58, Try.ntmps58
  go_wp2_with (go_at_call 71; refine (copyInts_c _ _ _ l _ h (by omega)).mono ?_; rintro e w1 ⟨A1, n1, c1, rfl, hO1, hb1⟩)
  obtain rfl : n1 = 24 := by rw [hO1.len, vsk_len hv]
  go_loopw [6] (fun i wr => ∃ k : Nat, k ≤ 3 ∧ i = .int .i64 k ∧ OI wr w.heap.size A1 24 c1 (addN l key k) ∧ Below w.heap.size w wr) (fun i _ => 3 - (intOf i).toNat)
  case atStart => exact ⟨0, Nat.zero_le _, rfl, hO1, hb1⟩
  case round =>
    obtain ⟨k, hk, rfl, hO, hb⟩ := hrel
    by_cases hlt : k < 3
    · have hcl := cellN_lt (key := key) hlt
      obtain ⟨g, o, rfl, hg, hcell, hfr⟩ := hO.at_ (k := cellN k key) (by omega)
      have hbd := cellI_bd k key
      have hgk := vsk_gi (addN_vsk (key := key) hv k) hcl
      have HC : wr.cell? ⟨g, o + (cellI k key).toNat, none⟩ = some (.int .i64 (gi (addN l key k) (cellN k key))) := hcell
      have HF : wr.frozen? ⟨g, o + (cellI k key).toNat, none⟩ = false := hfr
      have hlen := hO.le
      go_wp2_with (go_at_call 56; refine (cell_c _ _ _ (by omega) (by omega) h2 h3).mono ?_; rintro e w' ⟨rfl, rfl⟩)
      go_roundw
      case rel => exact ⟨k + 1, by omega, by go_num, hO.store hcl _, hb.setCell hg _⟩
      case measure => simp [intOf]; omega
    · obtain rfl : k = 3 := by omega
      go_wp2
      go_ret
      exact ⟨_, _, _, rfl, hO, hb⟩

theorem specAddKey_c (A : Option Addr) (n c : Nat) (l : List Int) (key : Int) (w : World) (h : SI w w.heap.size A n c l) :
    Calls Try.prog 35 #[.slice A n c, .int .i64 key] w (Gives w (addL l key)) := by
  rcases Bool.eq_false_or_eq_true (vsk l) with hv | hv
  · rcases Bool.eq_false_or_eq_true (inR 0 31 key) with hk | hk
    · have hk' := inR_true.1 hk
      go_enter Try.func35, Try.ntmps35
      go_wp2_with (first | (go_at_call 55; refine (validSketch_c _ _ _ l _ _ h).mono ?_; rintro e w' ⟨rfl, rfl⟩) | (go_at_call 52; refine (inRange_c _ _ _ _).mono ?_; rintro e w' ⟨rfl, rfl⟩) | (go_at_call 58; refine (addKey_c _ _ _ l _ _ h hv hk'.1 hk'.2).mono ?_; rintro e w1 ⟨A1, n1, c1, rfl, hO1, hb1⟩))
      go_ret
      exact ⟨_, _, _, rfl, by simpa [addL, hv, hk] using hO1, hb1⟩
    · go_enter Try.func35, Try.ntmps35
      go_wp2_with (first | (go_at_call 55; refine (validSketch_c _ _ _ l _ _ h).mono ?_; rintro e w' ⟨rfl, rfl⟩) | (go_at_call 52; refine (inRange_c _ _ _ _).mono ?_; rintro e w' ⟨rfl, rfl⟩))
      go_ret
      exact ⟨_, _, _, rfl, by simpa [addL, hk] using OI.nil_ w w.heap.size, Below.refl _ _⟩
  · go_enter Try.func35, Try.ntmps35
    go_wp2_with (go_at_call 55; refine (validSketch_c _ _ _ l _ _ h).mono ?_; rintro e w' ⟨rfl, rfl⟩)
    go_ret
    exact ⟨_, _, _, rfl, by simpa [addL, hv] using OI.nil_ w w.heap.size, Below.refl _ _⟩

theorem implAddKey_c (A : Option Addr) (n c : Nat) (l : List Int) (key : Int) (w : World) (h : SI w w.heap.size A n c l) :
    Calls Try.prog 36 #[.slice A n c, .int .i64 key] w (Gives w (addL l key)) := by
  have hc := h.le
  have hm := h.max
  rcases Bool.eq_false_or_eq_true (vsk l) with hv | hv
  · rcases Bool.eq_false_or_eq_true (inR 0 31 key) with hk | hk
    · have hk' := inR_true.1 hk
      obtain rfl : n = 24 := by rw [h.len, vsk_len hv]
      go_enter Try.func36, Try.ntmps36
      go_wp2_with (first | (go_at_call 25; refine (implValidSketch_c _ _ _ l _ _ h).mono ?_; rintro e w' ⟨rfl, rfl⟩) | (go_at_call 49; refine (validKey_c _ _).mono ?_; rintro e w' ⟨rfl, rfl⟩) | (at_make; refine wpList_mk rfl _ _ _ rfl Try.underlying23 24 rfl rfl (by omega) (Nat.le_refl _) ?_; intro w1 hO1 hg1) | (with_reducible refine wpList_cp (B2 := w.heap.size) (r := l) rfl (.tmp 19) (.tmp 20) _ rfl Try.underlying23 rfl rfl hO1 (h.grown hg1 (Nat.le_refl _) (by simp)) ?_; intro w2 hO2 hg2))
      have hb2 : Below w.heap.size w w2 := ((Below.refl _ _).grown hg1 (Nat.le_refl _) (by simp)).grown hg2 hg1.size (by simp [blk])
      clear hg1 hg2 hO1
      go_loopw [22] (fun i wr => ∃ k : Nat, k ≤ 3 ∧ i = .int .i64 k ∧ OI wr w.heap.size (some ⟨w.heap.size, 0, none⟩) 24 24 (addN l key k) ∧ Below w.heap.size w wr) (fun i _ => 3 - (intOf i).toNat)
      case atStart => exact ⟨0, Nat.zero_le _, rfl, hO2, hb2⟩
      case round =>
        obtain ⟨k, hk2, rfl, hO, hb⟩ := hrel
        by_cases hlt : k < 3
        · have hcl := cellN_lt (key := key) hlt
          obtain ⟨g, o, he, hg, hcell, hfr⟩ := hO.at_ (k := cellN k key) (by omega)
          injection he with he; injection he with he1 he2
          subst he1; subst he2
          have hbd := cellI_bd k key
          have hgk := vsk_gi (addN_vsk (key := key) hv k) hcl
          have HC : wr.cell? ⟨w.heap.size, (cellI k key).toNat, none⟩ = some (.int .i64 (gi (addN l key k) (cellN k key))) := by rw [Nat.zero_add] at hcell; exact hcell
          have HF : wr.frozen? ⟨w.heap.size, (cellI k key).toNat, none⟩ = false := by rw [Nat.zero_add] at hfr; exact hfr
          have he : cellOfL k key = cellI k key := by rw [cellOfL, if_pos (by omega)]
          go_wp2_with (go_at_call 32; refine (implCellOf_c _ _ _).mono ?_; rintro e w' ⟨rfl, rfl⟩)
          go_roundw
          case rel => exact ⟨k + 1, by omega, by go_num, by have := hO.store hcl (mn (gi (addN l key k) (cellN k key) + 1) 15); rw [Nat.zero_add] at this; exact this, hb.setCell hg _⟩
          case measure => simp [intOf]; omega
        · obtain rfl : k = 3 := by omega
          go_wp2
          go_ret
          exact ⟨_, _, _, rfl, by simpa [addL, hv, hk] using hO, hb⟩
    · go_enter Try.func36, Try.ntmps36
      go_wp2_with (first | (go_at_call 25; refine (implValidSketch_c _ _ _ l _ _ h).mono ?_; rintro e w' ⟨rfl, rfl⟩) | (go_at_call 49; refine (validKey_c _ _).mono ?_; rintro e w' ⟨rfl, rfl⟩))
      go_ret
      exact ⟨_, _, _, rfl, by simpa [addL, hk] using OI.nil_ w w.heap.size, Below.refl _ _⟩
  · go_enter Try.func36, Try.ntmps36
    go_wp2_with (go_at_call 25; refine (implValidSketch_c _ _ _ l _ _ h).mono ?_; rintro e w' ⟨rfl, rfl⟩)
    go_ret
    exact ⟨_, _, _, rfl, by simpa [addL, hv] using OI.nil_ w w.heap.size, Below.refl _ _⟩
end Go.Proofs.Ytgnkidmljcpheac
