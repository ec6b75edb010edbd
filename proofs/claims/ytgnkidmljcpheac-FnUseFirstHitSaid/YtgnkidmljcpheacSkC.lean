/- Contracts of HalveSketch and JoinSketches, the program's and the model's. No statement is proved here. -/
import Derived.Test.YtgnkidmljcpheacSkB
namespace Go.Proofs.Ytgnkidmljcpheac
open Go.RowKit

def halveF (l : List Int) : List Int := l.map (· / 2)
def halveL (l : List Int) : List Int := if vsk l then halveF l else []
theorem halveF_len (l : List Int) : (halveF l).length = l.length := by simp [halveF]
theorem gi_halveF (l : List Int) (k : Nat) : gi (halveF l) k = gi l k / 2 := by
  simp only [gi, halveF, List.getD, List.getElem?_map]
  cases l[k]? <;> rfl
theorem take_halve {l : List Int} {k : Nat} (h : k < l.length) : halveF (l.take (k + 1)) = halveF (l.take k) ++ [gi l k / 2] := by
  rw [take_succ_gi h]; simp [halveF]
/-- What stands in the new list after k rounds: the first k done, zeros behind. -/
def part (l : List Int) (n k : Nat) : List Int := l.take k ++ List.replicate (n - k) 0
theorem part_len {l : List Int} {n k : Nat} (hl : l.length = n) (hk : k ≤ n) : (part l n k).length = n := by simp [part]; omega
theorem part_zero (l : List Int) (n : Nat) : part l n 0 = List.replicate n 0 := by simp [part]
theorem part_full {l : List Int} {n : Nat} (hl : l.length = n) : part l n n = l := by simp [part, ← hl]
theorem part_set {l : List Int} {n k : Nat} (hl : l.length = n) (hk : k < n) : (part l n k).set k (gi l k) = part l n (k + 1) := by
  refine ext_gi (by rw [List.length_set, part_len hl (by omega), part_len hl (by omega)]) fun i hi => ?_
  rw [List.length_set, part_len hl (by omega)] at hi
  rw [gi_set _ (by rw [part_len hl (by omega)]; exact hk)]
  have hlk : (l.take k).length = k := by simp; omega
  have hlk1 : (l.take (k + 1)).length = k + 1 := by simp; omega
  by_cases e : i = k
  · subst e
    rw [if_pos rfl, part, gi_append_left (by omega), gi_take (by omega)]
  · rw [if_neg e]
    unfold part
    rcases Nat.lt_or_ge i k with h1 | h1
    · rw [gi_append_left (by omega), gi_append_left (by omega), gi_take h1, gi_take (by omega)]
    · rw [gi_append_right (by omega), gi_append_right (by omega), hlk, hlk1]
      simp only [gi, List.getD]
      rw [List.getElem?_replicate, List.getElem?_replicate, if_pos (by omega), if_pos (by omega)]

theorem implHalve_c (A : Option Addr) (n c : Nat) (l : List Int) (w : World) (h : SI w w.heap.size A n c l) :
    Calls Try.prog 38 #[.slice A n c] w (Gives w (halveL l)) := by
  have hc := h.le
  have hm := h.max
  rcases Bool.eq_false_or_eq_true (vsk l) with hv | hv
  · have hl := vsk_len hv
    obtain rfl : n = 24 := by rw [h.len, hl]
    have hlf : (halveF l).length = 24 := by rw [halveF_len, hl]
    have HL := Lib.hid hl
    have HLF := Lib.hid hlf
    clear hl hlf
    go_enter Try.func38, Try.ntmps38
    go_wp2_with (first | (go_at_call 25; refine (implValidSketch_c _ _ _ l _ _ h).mono ?_; rintro e w' ⟨rfl, rfl⟩) | (at_make; refine wpList_mk rfl _ _ _ rfl Try.underlying23 24 rfl rfl (by omega) (Nat.le_refl _) ?_; intro w1 hO1 hg1))
    have hb1 : Below w.heap.size w w1 := (Below.refl _ _).grown hg1 (Nat.le_refl _) (by simp)
    clear hg1
    go_loopw [14] (fun i wr => ∃ k : Nat, k ≤ 24 ∧ i = .int .i64 k ∧ OI wr w.heap.size (some ⟨w.heap.size, 0, none⟩) 24 24 (part (halveF l) 24 k) ∧ Below w.heap.size w wr) (fun i _ => 24 - (intOf i).toNat)
    case atStart => exact ⟨0, Nat.zero_le _, rfl, by rw [part_zero]; exact hO1, hb1⟩
    case round =>
      obtain ⟨k, hk2, rfl, hO, hb⟩ := hrel
      by_cases hlt : k < 24
      · obtain ⟨b, o, rfl, hbB, hcell⟩ := h.at_ hlt
        obtain ⟨g, o2, he, hg, hcell2, hfr⟩ := hO.at_ hlt
        injection he with he; injection he with he1 he2
        subst he1; subst he2
        rw [Nat.zero_add] at hcell2 hfr
        have hx := vsk_gi hv hlt
        have HC : wr.cell? ⟨b, o + k, none⟩ = some (.int .i64 (gi l k)) := (hb.cell (p := ⟨b, o + k, none⟩) hbB).trans hcell
        go_wp2
        go_roundw
        case rel => exact ⟨k + 1, by omega, by go_num, by have := hO.store hlt (gi l k / 2); rw [Nat.zero_add, ← gi_halveF, part_set HLF.out hlt, gi_halveF] at this; exact this, hb.setCell hg _⟩
        case measure => simp [intOf]; omega
      · obtain rfl : k = 24 := by omega
        go_wp2
        go_ret
        exact ⟨_, _, _, rfl, by rw [part_full HLF.out] at hO; simpa [halveL, hv] using hO, hb⟩
  · go_enter Try.func38, Try.ntmps38
    go_wp2_with (go_at_call 25; refine (implValidSketch_c _ _ _ l _ _ h).mono ?_; rintro e w' ⟨rfl, rfl⟩)
    go_ret
    exact ⟨_, _, _, rfl, by simpa [halveL, hv] using OI.nil_ w w.heap.size, Below.refl _ _⟩

theorem specHalve_c (A : Option Addr) (n c : Nat) (l : List Int) (w : World) (h : SI w w.heap.size A n c l) :
    Calls Try.prog 37 #[.slice A n c] w (Gives w (halveL l)) := by
  have hc := h.le
  have hm := h.max
  have hal := h.alloc (Nat.le_refl _) (.cells #[] 3)
  rcases Bool.eq_false_or_eq_true (vsk l) with hv | hv
  · have hl := vsk_len hv
    obtain rfl : n = 24 := by rw [h.len, hl]
    have HL := Lib.hid hl
    clear hl
    go_enter Try.func37, Try.ntmps37
    go_wp2_with (go_at_call 55; refine (validSketch_c _ _ _ l _ _ hal).mono ?_; rintro e w' ⟨rfl, rfl⟩)
    have hO0 := OI.lit w w.heap.size [] 0 rfl (Nat.le_refl _) (by simp) #[] rfl
    have hb0 : Below w.heap.size w (w.alloc (.cells #[] 3)) := (Below.refl _ _).alloc (Nat.le_refl _) _
    go_loopw [3, 4] (fun v i wr => ∃ (k : Nat) (A' : Option Addr) (c' : Nat), k ≤ 24 ∧ i = .int .i64 k ∧ v = .slice A' k c' ∧ OI wr w.heap.size A' k c' (halveF (l.take k)) ∧ Below w.heap.size w wr) (fun _ i _ => 24 - (intOf i).toNat)
    case atStart => exact ⟨0, _, _, Nat.zero_le _, rfl, rfl, hO0, hb0⟩
    case round =>
      obtain ⟨k, A', c', hk2, rfl, rfl, hO, hb⟩ := hrel
      by_cases hlt : k < 24
      · obtain ⟨b, o, rfl, hbB, hcell⟩ := h.at_ hlt
        have hx := vsk_gi hv hlt
        have HC : wr.cell? ⟨b, o + k, none⟩ = some (.int .i64 (gi l k)) := (hb.cell (p := ⟨b, o + k, none⟩) hbB).trans hcell
        have hsz := hb.size
        go_wp2_with (at_builtin; refine wpList_app rfl _ _ _ rfl Try.underlying23 rfl rfl (hO.alloc _) (SI.one _ _) (by omega) (by simp; omega) ?_; intro A2 c2 w2 hO2 hg2 hat2)
        go_roundw
        case rel =>
          refine ⟨k + 1, _, _, by omega, by go_num, rfl, by rw [take_halve (by rw [HL.out]; exact hlt)]; exact hO2, (hb.alloc hsz _).grown hg2 (by simp; omega) fun q hq => (hO.lt q hq).1⟩
        case measure => simp [intOf]; omega
      · obtain rfl : k = 24 := by omega
        go_wp2
        go_ret
        exact ⟨_, _, _, rfl, by rw [List.take_of_length_le (by rw [HL.out]; exact Nat.le_refl _)] at hO; simpa [halveL, hv] using hO, hb⟩
  · go_enter Try.func37, Try.ntmps37
    go_wp2_with (go_at_call 55; refine (validSketch_c _ _ _ l _ _ hal).mono ?_; rintro e w' ⟨rfl, rfl⟩)
    go_ret
    exact ⟨_, _, _, rfl, by simpa [halveL, hv] using OI.nil_ _ _, (Below.refl _ _).alloc (Nat.le_refl _) _⟩

def joinF (l r : List Int) : List Int := List.zipWith (fun x y => mn (x + y) 15) l r
def joinL (l r : List Int) : List Int := if vsk l && vsk r then joinF l r else []
theorem joinF_len {l r : List Int} (hl : l.length = 24) (hr : r.length = 24) : (joinF l r).length = 24 := by simp [joinF, hl, hr]
theorem gi_joinF {l r : List Int} (hl : l.length = 24) (hr : r.length = 24) {k : Nat} (hk : k < 24) : gi (joinF l r) k = mn (gi l k + gi r k) 15 := by
  simp only [gi, joinF, List.getD, List.getElem?_zipWith]
  rw [List.getElem?_eq_getElem (show k < l.length by omega), List.getElem?_eq_getElem (show k < r.length by omega)]; rfl
theorem take_join {l r : List Int} (hl : l.length = 24) (hr : r.length = 24) {k : Nat} (h : k < 24) : (joinF l r).take (k + 1) = (joinF l r).take k ++ [mn (gi l k + gi r k) 15] := by
  rw [take_succ_gi (by rw [joinF_len hl hr]; exact h), gi_joinF hl hr h]

theorem implJoin_c (A A' : Option Addr) (n c n' c' : Nat) (l r : List Int) (w : World) (h : SI w w.heap.size A n c l) (h' : SI w w.heap.size A' n' c' r) :
    Calls Try.prog 40 #[.slice A n c, .slice A' n' c'] w (Gives w (joinL l r)) := by
  have hc := h.le
  have hm := h.max
  have hc' := h'.le
  have hm' := h'.max
  rcases Bool.eq_false_or_eq_true (vsk l) with hv | hv
  · rcases Bool.eq_false_or_eq_true (vsk r) with hv' | hv'
    · have hl := vsk_len hv
      have hr := vsk_len hv'
      obtain rfl : n = 24 := by rw [h.len, hl]
      obtain rfl : n' = 24 := by rw [h'.len, hr]
      have hlf : (joinF l r).length = 24 := joinF_len hl hr
      have HL := Lib.hid hl
      have HR := Lib.hid hr
      have HLF := Lib.hid hlf
      clear hl hr hlf
      go_enter Try.func40, Try.ntmps40
      go_wp2_with (first | (go_at_call 25; refine (by first | exact implValidSketch_c _ _ _ l _ _ h | exact implValidSketch_c _ _ _ r _ _ h' : Calls _ _ _ _ _).mono ?_; rintro e w' ⟨rfl, rfl⟩) | (at_make; refine wpList_mk rfl _ _ _ rfl Try.underlying23 24 rfl rfl (by omega) (Nat.le_refl _) ?_; intro w1 hO1 hg1))
      have hb1 : Below w.heap.size w w1 := (Below.refl _ _).grown hg1 (Nat.le_refl _) (by simp)
      clear hg1
      go_loopw [20] (fun i wr => ∃ k : Nat, k ≤ 24 ∧ i = .int .i64 k ∧ OI wr w.heap.size (some ⟨w.heap.size, 0, none⟩) 24 24 (part (joinF l r) 24 k) ∧ Below w.heap.size w wr) (fun i _ => 24 - (intOf i).toNat)
      case atStart => exact ⟨0, Nat.zero_le _, rfl, by rw [part_zero]; exact hO1, hb1⟩
      case round =>
        obtain ⟨k, hk2, rfl, hO, hb⟩ := hrel
        by_cases hlt : k < 24
        · obtain ⟨b, o, rfl, hbB, hcell⟩ := h.at_ hlt
          obtain ⟨b', o', rfl, hbB', hcell'⟩ := h'.at_ hlt
          obtain ⟨g, o2, he, hg, hcell2, hfr⟩ := hO.at_ hlt
          injection he with he; injection he with he1 he2
          subst he1; subst he2
          rw [Nat.zero_add] at hcell2 hfr
          have hx := vsk_gi hv hlt
          have hx' := vsk_gi hv' hlt
          have HC : wr.cell? ⟨b, o + k, none⟩ = some (.int .i64 (gi l k)) := (hb.cell (p := ⟨b, o + k, none⟩) hbB).trans hcell
          have HC' : wr.cell? ⟨b', o' + k, none⟩ = some (.int .i64 (gi r k)) := (hb.cell (p := ⟨b', o' + k, none⟩) hbB').trans hcell'
          go_wp2
          go_region
          all_goals
            go_wp2
            go_roundw
            case rel => exact ⟨k + 1, by omega, by go_num, by have := hO.store hlt (mn (gi l k + gi r k) 15); rw [Nat.zero_add, ← gi_joinF HL.out HR.out hlt, part_set HLF.out hlt, gi_joinF HL.out HR.out hlt] at this; exact this, (hb.setCell hg _).drew⟩
            case measure => simp [intOf]; omega
        · obtain rfl : k = 24 := by omega
          go_wp2
          go_ret
          exact ⟨_, _, _, rfl, by rw [part_full HLF.out] at hO; simpa [joinL, hv, hv'] using hO, hb⟩
    · go_enter Try.func40, Try.ntmps40
      go_wp2_with (go_at_call 25; refine (by first | exact implValidSketch_c _ _ _ l _ _ h | exact implValidSketch_c _ _ _ r _ _ h' : Calls _ _ _ _ _).mono ?_; rintro e w' ⟨rfl, rfl⟩)
      go_ret
      exact ⟨_, _, _, rfl, by simpa [joinL, hv'] using OI.nil_ w w.heap.size, Below.refl _ _⟩
  · go_enter Try.func40, Try.ntmps40
    go_wp2_with (go_at_call 25; refine (implValidSketch_c _ _ _ l _ _ h).mono ?_; rintro e w' ⟨rfl, rfl⟩)
    go_ret
    exact ⟨_, _, _, rfl, by simpa [joinL, hv] using OI.nil_ w w.heap.size, Below.refl _ _⟩

theorem specJoin_c (A A' : Option Addr) (n c n' c' : Nat) (l r : List Int) (w : World) (h : SI w w.heap.size A n c l) (h' : SI w w.heap.size A' n' c' r) :
    Calls Try.prog 39 #[.slice A n c, .slice A' n' c'] w (Gives w (joinL l r)) := by
  have hc := h.le
  have hm := h.max
  have hc' := h'.le
  have hm' := h'.max
  have hal := h.alloc (Nat.le_refl _) (.cells #[] 3)
  have hal' := h'.alloc (Nat.le_refl _) (.cells #[] 3)
  rcases Bool.eq_false_or_eq_true (vsk l) with hv | hv
  · rcases Bool.eq_false_or_eq_true (vsk r) with hv' | hv'
    · have hl := vsk_len hv
      have hr := vsk_len hv'
      obtain rfl : n = 24 := by rw [h.len, hl]
      obtain rfl : n' = 24 := by rw [h'.len, hr]
      have HL := Lib.hid hl
      have HR := Lib.hid hr
      clear hl hr
      go_enter Try.func39, Try.ntmps39
      go_wp2_with (go_at_call 55; refine (by first | exact validSketch_c _ _ _ l _ _ hal | exact validSketch_c _ _ _ r _ _ hal' : Calls _ _ _ _ _).mono ?_; rintro e w' ⟨rfl, rfl⟩)
      have hO0 := OI.lit w w.heap.size [] 0 rfl (Nat.le_refl _) (by simp) #[] rfl
      have hb0 : Below w.heap.size w (w.alloc (.cells #[] 3)) := (Below.refl _ _).alloc (Nat.le_refl _) _
      go_loopw [5, 6] (fun v i wr => ∃ (k : Nat) (A1 : Option Addr) (c1 : Nat), k ≤ 24 ∧ i = .int .i64 k ∧ v = .slice A1 k c1 ∧ OI wr w.heap.size A1 k c1 ((joinF l r).take k) ∧ Below w.heap.size w wr) (fun _ i _ => 24 - (intOf i).toNat)
      case atStart => exact ⟨0, _, _, Nat.zero_le _, rfl, rfl, hO0, hb0⟩
      case round =>
        obtain ⟨k, A1, c1, hk2, rfl, rfl, hO, hb⟩ := hrel
        by_cases hlt : k < 24
        · obtain ⟨b, o, rfl, hbB, hcell⟩ := h.at_ hlt
          obtain ⟨b', o', rfl, hbB', hcell'⟩ := h'.at_ hlt
          have hx := vsk_gi hv hlt
          have hx' := vsk_gi hv' hlt
          have HC : wr.cell? ⟨b, o + k, none⟩ = some (.int .i64 (gi l k)) := (hb.cell (p := ⟨b, o + k, none⟩) hbB).trans hcell
          have HC' : wr.cell? ⟨b', o' + k, none⟩ = some (.int .i64 (gi r k)) := (hb.cell (p := ⟨b', o' + k, none⟩) hbB').trans hcell'
          have hsz := hb.size
          have hw : IntKind.i64.wrap (gi l k + gi r k) = gi l k + gi r k := IntWalk.i64_in _ ⟨by omega, by omega⟩
          go_wp2
          go_region_law (refine step_app rfl _ _ _ rfl Try.underlying23 rfl rfl (hO.drewN 1 |>.alloc _) (SI.one _ _) (by omega) (by simp; omega) ?_; intro A2 c2 w2 hO2 hg2 hat2)
          all_goals
            go_wp2
            go_roundw
            case rel => exact ⟨k + 1, _, _, by omega, by go_num, rfl, by rw [take_join HL.out HR.out hlt]; exact hO2, ((hb.alloc hsz _).drew).grown hg2 (by simp; omega) fun q hq => (hO.lt q hq).1⟩
            case measure => simp [intOf]; omega
        · obtain rfl : k = 24 := by omega
          go_wp2
          go_ret
          exact ⟨_, _, _, rfl, by rw [List.take_of_length_le (by rw [joinF_len HL.out HR.out]; exact Nat.le_refl _)] at hO; simpa [joinL, hv, hv'] using hO, hb⟩
    · go_enter Try.func39, Try.ntmps39
      go_wp2_with (go_at_call 55; refine (by first | exact validSketch_c _ _ _ l _ _ hal | exact validSketch_c _ _ _ r _ _ hal' : Calls _ _ _ _ _).mono ?_; rintro e w' ⟨rfl, rfl⟩)
      go_ret
      exact ⟨_, _, _, rfl, by simpa [joinL, hv'] using OI.nil_ _ _, (Below.refl _ _).alloc (Nat.le_refl _) _⟩
  · go_enter Try.func39, Try.ntmps39
    go_wp2_with (go_at_call 55; refine (validSketch_c _ _ _ l _ _ hal).mono ?_; rintro e w' ⟨rfl, rfl⟩)
    go_ret
    exact ⟨_, _, _, rfl, by simpa [joinL, hv] using OI.nil_ _ _, (Below.refl _ _).alloc (Nat.le_refl _) _⟩
end Go.Proofs.Ytgnkidmljcpheac
