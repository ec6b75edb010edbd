/- Contracts: toInt, runTrace, RunRecent, RunFirst (chapter 2). No statement is proved here. -/
import Derived.Test.YtgnkidmljcpheabRcC
namespace Go.Proofs.Ytgnkidmljcpheab
open Go.RowKit

/-- The cache after the first k keys of a trace, and how many of them were there. -/
def rnL (st : List Int → Nat → Int → List Int) (t : List Int) (room : Nat) : Nat → List Int
  | 0 => []
  | k + 1 => st (rnL st t room k) room (gi t k)
def bit (b : Bool) : Int := if b then 1 else 0
def rnN (st : List Int → Nat → Int → List Int) (t : List Int) (room : Nat) : Nat → Int
  | 0 => 0
  | k + 1 => rnN st t room k + bit (hasL (rnL st t room k) (gi t k))
theorem bit_bd (b : Bool) : 0 ≤ bit b ∧ bit b ≤ 1 := by cases b <;> decide
theorem rnN_bd (st : List Int → Nat → Int → List Int) (t : List Int) (room : Nat) : ∀ k : Nat, 0 ≤ rnN st t room k ∧ rnN st t room k ≤ (k : Int)
  | 0 => ⟨Int.le_refl _, Int.le_refl _⟩
  | k + 1 => by
    have ih := rnN_bd st t room k
    have := bit_bd (hasL (rnL st t room k) (gi t k))
    simp only [rnN]; omega
theorem vks_nil {rm : Nat} (h1 : 1 ≤ rm) (h2 : rm ≤ 8) : vks [] (rm : Int) = true := vks_yes (by omega) (by omega) (by simp) rfl (decide_eq_true List.nodup_nil)
theorem rnL_vks {st : List Int → Nat → Int → List Int} (hst : ∀ (l : List Int) (rm : Nat) (key : Int), vks l (rm : Int) = true → inR 0 31 key = true → vks (st l rm key) (rm : Int) = true)
    {t : List Int} {rm : Nat} (ht : vtr t = true) (h1 : 1 ≤ rm) (h2 : rm ≤ 8) : ∀ k, k ≤ t.length → vks (rnL st t rm k) (rm : Int) = true
  | 0, _ => vks_nil h1 h2
  | k + 1, h => hst _ _ _ (rnL_vks hst ht h1 h2 k (by omega)) (inR_true.2 (allR_gi (vtr_all ht) (by omega)))
/-- What RunRecent, RunFirst answer. -/
def runL (st : List Int → Nat → Int → List Int) (t : List Int) (room : Int) : List Int := if vtr t && inR 1 8 room then rnL st t room.toNat t.length else []
def runN (st : List Int → Nat → Int → List Int) (t : List Int) (room : Int) : Int := if vtr t && inR 1 8 room then rnN st t room.toNat t.length else -1
theorem run_yes {st : List Int → Nat → Int → List Int} {t : List Int} {room : Int} (h1 : vtr t = true) (h2 : inR 1 8 room = true) : runL st t room = rnL st t room.toNat t.length ∧ runN st t room = rnN st t room.toNat t.length := by
  simp [runL, runN, h1, h2]
theorem run_no1 {st : List Int → Nat → Int → List Int} {t : List Int} {room : Int} (h1 : vtr t = false) : runL st t room = [] ∧ runN st t room = -1 := by simp [runL, runN, h1]
theorem run_no2 {st : List Int → Nat → Int → List Int} {t : List Int} {room : Int} (h2 : inR 1 8 room = false) : runL st t room = [] ∧ runN st t room = -1 := by simp [runL, runN, h2]
def GivesN (w : World) (l : List Int) (x : Int) (e : Ending) (w' : World) : Prop := ∃ A n c, e = .returned (.tuple #[.slice A n c, .int .i64 x]) ∧ OI w' w.heap.size A n c l ∧ Below w.heap.size w w'

theorem specToInt_c (b : Bool) (w : World) : Calls Try.prog 58 #[.bool b] w fun e w' => e = .returned (.int .i64 (bit b)) ∧ w = w' := by
  cases b
  all_goals
    go_enter Try.func58, Try.ntmps58
    go_wp2
    go_ret
    exact ⟨rfl, rfl⟩

set_option maxRecDepth 100000 in
set_option maxHeartbeats 1000000 in
theorem runTraceRecent_c (A : Option Addr) (n c : Nat) (t : List Int) (room : Int) (w : World) (h : SI w w.heap.size A n c t) :
    Calls Try.prog 56 #[.slice A n c, .int .i64 room, .func (.func 16) #[] #[]] w (GivesN w (runL recL t room) (runN recL t room)) := by
  have hc := h.le
  have hm := h.max
  rcases Bool.eq_false_or_eq_true (vtr t) with hv | hv
  · rcases Bool.eq_false_or_eq_true (inR 1 8 room) with hk | hk
    · obtain ⟨e1, e2⟩ := run_yes (st := recL) hv hk
      rw [e1, e2, ← h.len]
      clear e1 e2
      have hrr := inR_true.1 hk
      obtain ⟨rm, rfl⟩ := Int.eq_ofNat_of_zero_le (show 0 ≤ room by omega)
      rw [Int.toNat_natCast]
      have hlen := Lib.hid h.len
      have hn24 : n ≤ 24 := by rw [h.len]; exact vtr_len hv
      go_enter Try.func56, Try.ntmps56
      go_wp2_with (first | (go_at_call 74; refine (implValidTrace_c _ _ _ t _ _ h).mono ?_; rintro e w' ⟨rfl, rfl⟩) | (go_at_call 60; refine (validRoom_c _ _).mono ?_; rintro e w' ⟨rfl, rfl⟩))
      have hO0 := OI.lit w w.heap.size [] 0 rfl (Nat.le_refl _) (by simp) #[] rfl
      have hb0 : Below w.heap.size w (w.alloc (.cells #[] 3)) := (Below.refl _ _).alloc (Nat.le_refl _) _
      go_loopw [8, 9, 11, 12, 13, 25] (fun v x _ _ _ i wr => ∃ (k : Nat) (A' : Option Addr) (m c' : Nat), k ≤ n ∧ i = .int .i64 k ∧ x = .int .i64 (rnN recL t rm k) ∧ v = .slice A' m c' ∧ OI wr w.heap.size A' m c' (rnL recL t rm k) ∧ Below w.heap.size w wr) (fun _ _ _ _ _ i _ => n - (intOf i).toNat)
      case atStart => exact ⟨0, _, 0, 0, Nat.zero_le _, rfl, rfl, rfl, hO0, hb0⟩
      case round =>
        obtain ⟨k, A', m, c', hk2, rfl, rfl, rfl, hO, hb⟩ := hrel
        have hsz := hb.size
        have hbd := rnN_bd recL t rm k
        by_cases hlt : k < n
        · have hkt : k < t.length := by rw [← hlen.out]; exact hlt
          have hkey := inR_true.2 (allR_gi (vtr_all hv) hkt)
          have hvk := rnL_vks (st := recL) (rm := rm) (fun _ _ _ h1 h2 => recL_vks h1 h2) hv (by omega) (by omega) k (by omega)
          obtain ⟨b, o, rfl, hbB, hcell⟩ := h.at_ hlt
          have HC : wr.cell? ⟨b, o + k, none⟩ = some (.int .i64 (gi t k)) := (hb.cell (p := ⟨b, o + k, none⟩) hbB).trans hcell
          obtain ⟨u1, u2⟩ := useR_yes hvk hkey
          rw [Int.toNat_natCast] at u1
          have U1 := Lib.hid u1
          clear u1
          rcases Bool.eq_false_or_eq_true (hasL (rnL recL t rm k) (gi t k)) with hh | hh
          all_goals
            rw [hh] at u2
            go_wp2_with (go_at_call 16; refine (implUseRecent_c _ _ _ (rnL recL t rm k) _ _ wr hO.si).mono ?_; rintro e w3 ⟨A3, n3, c3, rfl, hO3, hb3⟩)
            go_roundw
            case rel => exact ⟨k + 1, A3, n3, c3, by omega, by go_num, by simp [rnN, hh, bit], rfl, by rw [U1.out] at hO3; exact hO3.less hsz, hb.trans (hb3.mono hsz)⟩
            case measure => simp [intOf]; omega
        · obtain rfl : k = n := by omega
          go_wp2
          go_ret2
          exact ⟨_, _, _, rfl, hO, hb⟩
    · obtain ⟨e1, e2⟩ := run_no2 (st := recL) (t := t) hk
      rw [e1, e2]
      clear e1 e2
      go_enter Try.func56, Try.ntmps56
      go_wp2_with (first | (go_at_call 74; refine (implValidTrace_c _ _ _ t _ _ h).mono ?_; rintro e w' ⟨rfl, rfl⟩) | (go_at_call 60; refine (validRoom_c _ _).mono ?_; rintro e w' ⟨rfl, rfl⟩))
      go_ret2
      exact ⟨_, _, _, rfl, OI.nil_ _ _, Below.refl _ _⟩
  · obtain ⟨e1, e2⟩ := run_no1 (st := recL) (room := room) hv
    rw [e1, e2]
    clear e1 e2
    go_enter Try.func56, Try.ntmps56
    go_wp2_with (go_at_call 74; refine (implValidTrace_c _ _ _ t _ _ h).mono ?_; rintro e w' ⟨rfl, rfl⟩)
    go_ret2
    exact ⟨_, _, _, rfl, OI.nil_ _ _, Below.refl _ _⟩
set_option maxHeartbeats 1000000 in
theorem implRunRecent_c (A : Option Addr) (n c : Nat) (t : List Int) (room : Int) (w : World) (h : SI w w.heap.size A n c t) :
    Calls Try.prog 21 #[.slice A n c, .int .i64 room] w (GivesN w (runL recL t room) (runN recL t room)) := by
  go_enter Try.func21, Try.ntmps21
  go_wp2_with fail
  refine (runTraceRecent_c _ _ _ t room w h).mono ?_
  rintro e w1 ⟨A1, n1, c1, rfl, hO1, hb1⟩
  go_wp2
  go_ret2
  exact ⟨_, _, _, rfl, hO1, hb1⟩

set_option maxRecDepth 100000 in
set_option maxHeartbeats 1000000 in
theorem specRunRecent_c (A : Option Addr) (n c : Nat) (t : List Int) (room : Int) (w : World) (h : SI w w.heap.size A n c t) :
    Calls Try.prog 22 #[.slice A n c, .int .i64 room] w (GivesN w (runL recL t room) (runN recL t room)) := by
  have hc := h.le
  have hm := h.max
  rcases Bool.eq_false_or_eq_true (vtr t) with hv | hv
  · rcases Bool.eq_false_or_eq_true (inR 1 8 room) with hk | hk
    · obtain ⟨e1, e2⟩ := run_yes (st := recL) hv hk
      rw [e1, e2, ← h.len]
      clear e1 e2
      have hrr := inR_true.1 hk
      obtain ⟨rm, rfl⟩ := Int.eq_ofNat_of_zero_le (show 0 ≤ room by omega)
      rw [Int.toNat_natCast]
      have hlen := Lib.hid h.len
      have hn24 : n ≤ 24 := by rw [h.len]; exact vtr_len hv
      go_enter Try.func22, Try.ntmps22
      go_wp2_with (first | (go_at_call 57; refine (validTrace_c _ _ _ t _ _ h).mono ?_; rintro e w' ⟨rfl, rfl⟩) | (go_at_call 52; refine (inRange_c _ _ _ _).mono ?_; rintro e w' ⟨rfl, rfl⟩))
      have hS0 : SI (w.alloc (.cells #[] 3)) (w.alloc (.cells #[] 3)).heap.size (some ⟨w.heap.size, 0, none⟩) 0 0 [] := (OI.lit w w.heap.size [] 0 rfl (Nat.le_refl _) (by simp) #[] rfl).si
      have hb0 : Below w.heap.size w (w.alloc (.cells #[] 3)) := (Below.refl _ _).alloc (Nat.le_refl _) _
      go_loopw [6, 7, 8, 9] (fun v x i _ wr => ∃ (k : Nat) (A' : Option Addr) (m c' : Nat), k ≤ n ∧ i = .int .i64 k ∧ x = .int .i64 (rnN recL t rm k) ∧ v = .slice A' m c' ∧ SI wr wr.heap.size A' m c' (rnL recL t rm k) ∧ Below w.heap.size w wr) (fun _ _ i _ _ => n - (intOf i).toNat)
      case atStart => exact ⟨0, _, 0, 0, Nat.zero_le _, rfl, rfl, rfl, hS0, hb0⟩
      case round =>
        obtain ⟨k, A', m, c', hk2, rfl, rfl, rfl, hO, hb⟩ := hrel
        have hsz := hb.size
        have hbd := rnN_bd recL t rm k
        have hvk := rnL_vks (st := recL) (rm := rm) (fun _ _ _ h1 h2 => recL_vks h1 h2) hv (by omega) (by omega) k (by rw [← hlen.out]; omega)
        have hm8 : m ≤ rm := by have := (vks_iff.1 hvk).2.1; rw [hO.len]; omega
        by_cases hlt : k < n
        · have hkt : k < t.length := by rw [← hlen.out]; exact hlt
          obtain ⟨b, o, rfl, hbB, hcell⟩ := h.at_ hlt
          have HC : wr.cell? ⟨b, o + k, none⟩ = some (.int .i64 (gi t k)) := (hb.cell (p := ⟨b, o + k, none⟩) hbB).trans hcell
          go_wp2_with fail
          refine (recent_c _ _ _ (rnL recL t rm k) rm (gi t k) wr hO (vks_distL hvk) (by omega) (by omega) hm8).mono ?_
          rintro e w3 ⟨A3, n3, c3, rfl, hO3, hb3⟩
          have hbt := bit_bd (hasL (rnL recL t rm k) (gi t k))
          go_wp2_with (go_at_call 58; refine (specToInt_c _ _).mono ?_; rintro e w' ⟨rfl, rfl⟩)
          go_roundw
          case rel => exact ⟨k + 1, A3, n3, c3, by omega, by go_num, rfl, rfl, hO3.si, hb.trans (hb3.mono hsz)⟩
          case measure => simp [intOf]; omega
        · obtain rfl : k = n := by omega
          go_wp2_with (at_builtin; refine wpList_app rfl _ _ _ rfl Try.underlying23 rfl rfl (OI.lit wr w.heap.size [] 0 rfl hsz (by simp) _ rfl) (hO.alloc (Nat.le_refl _) _) (by omega) (by simp; omega) ?_; intro A2 c2 w2 hO2 hg2 hat2; rw [Nat.zero_add, List.nil_append] at hO2)
          go_ret2
          exact ⟨_, _, _, rfl, hO2, (hb.alloc hsz _).grown hg2 (by simp; omega) (by simp [blk]; omega)⟩
    · obtain ⟨e1, e2⟩ := run_no2 (st := recL) (t := t) hk
      rw [e1, e2]
      clear e1 e2
      go_enter Try.func22, Try.ntmps22
      go_wp2_with (first | (go_at_call 57; refine (validTrace_c _ _ _ t _ _ h).mono ?_; rintro e w' ⟨rfl, rfl⟩) | (go_at_call 52; refine (inRange_c _ _ _ _).mono ?_; rintro e w' ⟨rfl, rfl⟩))
      go_ret2
      exact ⟨_, _, _, rfl, OI.nil_ _ _, Below.refl _ _⟩
  · obtain ⟨e1, e2⟩ := run_no1 (st := recL) (room := room) hv
    rw [e1, e2]
    clear e1 e2
    go_enter Try.func22, Try.ntmps22
    go_wp2_with (go_at_call 57; refine (validTrace_c _ _ _ t _ _ h).mono ?_; rintro e w' ⟨rfl, rfl⟩)
    go_ret2
    exact ⟨_, _, _, rfl, OI.nil_ _ _, Below.refl _ _⟩

set_option maxRecDepth 100000 in
set_option maxHeartbeats 1000000 in
theorem runTraceFirst_c (A : Option Addr) (n c : Nat) (t : List Int) (room : Int) (w : World) (h : SI w w.heap.size A n c t) :
    Calls Try.prog 56 #[.slice A n c, .int .i64 room, .func (.func 25) #[] #[]] w (GivesN w (runL firL t room) (runN firL t room)) := by
  have hc := h.le
  have hm := h.max
  rcases Bool.eq_false_or_eq_true (vtr t) with hv | hv
  · rcases Bool.eq_false_or_eq_true (inR 1 8 room) with hk | hk
    · obtain ⟨e1, e2⟩ := run_yes (st := firL) hv hk
      rw [e1, e2, ← h.len]
      clear e1 e2
      have hrr := inR_true.1 hk
      obtain ⟨rm, rfl⟩ := Int.eq_ofNat_of_zero_le (show 0 ≤ room by omega)
      rw [Int.toNat_natCast]
      have hlen := Lib.hid h.len
      have hn24 : n ≤ 24 := by rw [h.len]; exact vtr_len hv
      go_enter Try.func56, Try.ntmps56
      go_wp2_with (first | (go_at_call 74; refine (implValidTrace_c _ _ _ t _ _ h).mono ?_; rintro e w' ⟨rfl, rfl⟩) | (go_at_call 60; refine (validRoom_c _ _).mono ?_; rintro e w' ⟨rfl, rfl⟩))
      have hO0 := OI.lit w w.heap.size [] 0 rfl (Nat.le_refl _) (by simp) #[] rfl
      have hb0 : Below w.heap.size w (w.alloc (.cells #[] 3)) := (Below.refl _ _).alloc (Nat.le_refl _) _
      go_loopw [8, 9, 11, 12, 13, 25] (fun v x _ _ _ i wr => ∃ (k : Nat) (A' : Option Addr) (m c' : Nat), k ≤ n ∧ i = .int .i64 k ∧ x = .int .i64 (rnN firL t rm k) ∧ v = .slice A' m c' ∧ OI wr w.heap.size A' m c' (rnL firL t rm k) ∧ Below w.heap.size w wr) (fun _ _ _ _ _ i _ => n - (intOf i).toNat)
      case atStart => exact ⟨0, _, 0, 0, Nat.zero_le _, rfl, rfl, rfl, hO0, hb0⟩
      case round =>
        obtain ⟨k, A', m, c', hk2, rfl, rfl, rfl, hO, hb⟩ := hrel
        have hsz := hb.size
        have hbd := rnN_bd firL t rm k
        by_cases hlt : k < n
        · have hkt : k < t.length := by rw [← hlen.out]; exact hlt
          have hkey := inR_true.2 (allR_gi (vtr_all hv) hkt)
          have hvk := rnL_vks (st := firL) (rm := rm) (fun _ _ _ h1 h2 => firL_vks h1 h2) hv (by omega) (by omega) k (by omega)
          obtain ⟨b, o, rfl, hbB, hcell⟩ := h.at_ hlt
          have HC : wr.cell? ⟨b, o + k, none⟩ = some (.int .i64 (gi t k)) := (hb.cell (p := ⟨b, o + k, none⟩) hbB).trans hcell
          obtain ⟨u1, u2⟩ := useF_yes hvk hkey
          rw [Int.toNat_natCast] at u1
          have U1 := Lib.hid u1
          clear u1
          rcases Bool.eq_false_or_eq_true (hasL (rnL firL t rm k) (gi t k)) with hh | hh
          all_goals
            rw [hh] at u2
            go_wp2_with (go_at_call 25; refine (implUseFirst_c _ _ _ (rnL firL t rm k) _ _ wr hO.si).mono ?_; rintro e w3 ⟨A3, n3, c3, rfl, hO3, hb3⟩)
            go_roundw
            case rel => exact ⟨k + 1, A3, n3, c3, by omega, by go_num, by simp [rnN, hh, bit], rfl, by rw [U1.out] at hO3; exact hO3.less hsz, hb.trans (hb3.mono hsz)⟩
            case measure => simp [intOf]; omega
        · obtain rfl : k = n := by omega
          go_wp2
          go_ret2
          exact ⟨_, _, _, rfl, hO, hb⟩
    · obtain ⟨e1, e2⟩ := run_no2 (st := firL) (t := t) hk
      rw [e1, e2]
      clear e1 e2
      go_enter Try.func56, Try.ntmps56
      go_wp2_with (first | (go_at_call 74; refine (implValidTrace_c _ _ _ t _ _ h).mono ?_; rintro e w' ⟨rfl, rfl⟩) | (go_at_call 60; refine (validRoom_c _ _).mono ?_; rintro e w' ⟨rfl, rfl⟩))
      go_ret2
      exact ⟨_, _, _, rfl, OI.nil_ _ _, Below.refl _ _⟩
  · obtain ⟨e1, e2⟩ := run_no1 (st := firL) (room := room) hv
    rw [e1, e2]
    clear e1 e2
    go_enter Try.func56, Try.ntmps56
    go_wp2_with (go_at_call 74; refine (implValidTrace_c _ _ _ t _ _ h).mono ?_; rintro e w' ⟨rfl, rfl⟩)
    go_ret2
    exact ⟨_, _, _, rfl, OI.nil_ _ _, Below.refl _ _⟩
set_option maxHeartbeats 1000000 in
theorem implRunFirst_c (A : Option Addr) (n c : Nat) (t : List Int) (room : Int) (w : World) (h : SI w w.heap.size A n c t) :
    Calls Try.prog 29 #[.slice A n c, .int .i64 room] w (GivesN w (runL firL t room) (runN firL t room)) := by
  go_enter Try.func29, Try.ntmps29
  go_wp2_with fail
  refine (runTraceFirst_c _ _ _ t room w h).mono ?_
  rintro e w1 ⟨A1, n1, c1, rfl, hO1, hb1⟩
  go_wp2
  go_ret2
  exact ⟨_, _, _, rfl, hO1, hb1⟩

set_option maxRecDepth 100000 in
set_option maxHeartbeats 1000000 in
theorem specRunFirst_c (A : Option Addr) (n c : Nat) (t : List Int) (room : Int) (w : World) (h : SI w w.heap.size A n c t) :
    Calls Try.prog 30 #[.slice A n c, .int .i64 room] w (GivesN w (runL firL t room) (runN firL t room)) := by
  have hc := h.le
  have hm := h.max
  rcases Bool.eq_false_or_eq_true (vtr t) with hv | hv
  · rcases Bool.eq_false_or_eq_true (inR 1 8 room) with hk | hk
    · obtain ⟨e1, e2⟩ := run_yes (st := firL) hv hk
      rw [e1, e2, ← h.len]
      clear e1 e2
      have hrr := inR_true.1 hk
      obtain ⟨rm, rfl⟩ := Int.eq_ofNat_of_zero_le (show 0 ≤ room by omega)
      rw [Int.toNat_natCast]
      have hlen := Lib.hid h.len
      have hn24 : n ≤ 24 := by rw [h.len]; exact vtr_len hv
      go_enter Try.func30, Try.ntmps30
      go_wp2_with (first | (go_at_call 57; refine (validTrace_c _ _ _ t _ _ h).mono ?_; rintro e w' ⟨rfl, rfl⟩) | (go_at_call 52; refine (inRange_c _ _ _ _).mono ?_; rintro e w' ⟨rfl, rfl⟩))
      have hS0 : SI (w.alloc (.cells #[] 3)) (w.alloc (.cells #[] 3)).heap.size (some ⟨w.heap.size, 0, none⟩) 0 0 [] := (OI.lit w w.heap.size [] 0 rfl (Nat.le_refl _) (by simp) #[] rfl).si
      have hb0 : Below w.heap.size w (w.alloc (.cells #[] 3)) := (Below.refl _ _).alloc (Nat.le_refl _) _
      go_loopw [6, 7, 8, 9] (fun v x i _ wr => ∃ (k : Nat) (A' : Option Addr) (m c' : Nat), k ≤ n ∧ i = .int .i64 k ∧ x = .int .i64 (rnN firL t rm k) ∧ v = .slice A' m c' ∧ SI wr wr.heap.size A' m c' (rnL firL t rm k) ∧ Below w.heap.size w wr) (fun _ _ i _ _ => n - (intOf i).toNat)
      case atStart => exact ⟨0, _, 0, 0, Nat.zero_le _, rfl, rfl, rfl, hS0, hb0⟩
      case round =>
        obtain ⟨k, A', m, c', hk2, rfl, rfl, rfl, hO, hb⟩ := hrel
        have hsz := hb.size
        have hbd := rnN_bd firL t rm k
        have hvk := rnL_vks (st := firL) (rm := rm) (fun _ _ _ h1 h2 => firL_vks h1 h2) hv (by omega) (by omega) k (by rw [← hlen.out]; omega)
        have hm8 : m ≤ rm := by have := (vks_iff.1 hvk).2.1; rw [hO.len]; omega
        by_cases hlt : k < n
        · have hkt : k < t.length := by rw [← hlen.out]; exact hlt
          obtain ⟨b, o, rfl, hbB, hcell⟩ := h.at_ hlt
          have HC : wr.cell? ⟨b, o + k, none⟩ = some (.int .i64 (gi t k)) := (hb.cell (p := ⟨b, o + k, none⟩) hbB).trans hcell
          go_wp2_with fail
          refine (first_c _ _ _ (rnL firL t rm k) rm (gi t k) wr hO (by omega) (by omega) hm8).mono ?_
          rintro e w3 ⟨A3, n3, c3, rfl, hO3, hb3⟩
          have hbt := bit_bd (hasL (rnL firL t rm k) (gi t k))
          go_wp2_with (go_at_call 58; refine (specToInt_c _ _).mono ?_; rintro e w' ⟨rfl, rfl⟩)
          go_roundw
          case rel => exact ⟨k + 1, A3, n3, c3, by omega, by go_num, rfl, rfl, hO3, hb.trans (hb3.mono hsz)⟩
          case measure => simp [intOf]; omega
        · obtain rfl : k = n := by omega
          go_wp2_with (at_builtin; refine wpList_app rfl _ _ _ rfl Try.underlying23 rfl rfl (OI.lit wr w.heap.size [] 0 rfl hsz (by simp) _ rfl) (hO.alloc (Nat.le_refl _) _) (by omega) (by simp; omega) ?_; intro A2 c2 w2 hO2 hg2 hat2; rw [Nat.zero_add, List.nil_append] at hO2)
          go_ret2
          exact ⟨_, _, _, rfl, hO2, (hb.alloc hsz _).grown hg2 (by simp; omega) (by simp [blk]; omega)⟩
    · obtain ⟨e1, e2⟩ := run_no2 (st := firL) (t := t) hk
      rw [e1, e2]
      clear e1 e2
      go_enter Try.func30, Try.ntmps30
      go_wp2_with (first | (go_at_call 57; refine (validTrace_c _ _ _ t _ _ h).mono ?_; rintro e w' ⟨rfl, rfl⟩) | (go_at_call 52; refine (inRange_c _ _ _ _).mono ?_; rintro e w' ⟨rfl, rfl⟩))
      go_ret2
      exact ⟨_, _, _, rfl, OI.nil_ _ _, Below.refl _ _⟩
  · obtain ⟨e1, e2⟩ := run_no1 (st := firL) (room := room) hv
    rw [e1, e2]
    clear e1 e2
    go_enter Try.func30, Try.ntmps30
    go_wp2_with (go_at_call 57; refine (validTrace_c _ _ _ t _ _ h).mono ?_; rintro e w' ⟨rfl, rfl⟩)
    go_ret2
    exact ⟨_, _, _, rfl, OI.nil_ _ _, Below.refl _ _⟩

end Go.Proofs.Ytgnkidmljcpheab
