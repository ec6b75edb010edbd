/- Contracts of the small functions that only read: ranges, places, equality of lists, sketches' cells. No statement is proved here. -/
import Derived.Test.YtgnkidmljcpheacBase
namespace Go.Proofs.Ytgnkidmljcpheac
open Go.RowKit

theorem ret_bool {a b : Bool} (h : a = b) : Ending.returned (.bool a) = .returned (.bool b) := by rw [h]
theorem ret_int {a b : Int} (h : a = b) : Ending.returned (.int .i64 a) = .returned (.int .i64 b) := by rw [h]

def inR (low high x : Int) : Bool := decide (low ≤ x) && decide (x ≤ high)
theorem inR_true {low high x : Int} : inR low high x = true ↔ low ≤ x ∧ x ≤ high := by simp [inR]
theorem inR_false {low high x : Int} : inR low high x = false ↔ x < low ∨ high < x := by simp [inR]; omega
def allR (low high : Int) (l : List Int) : Bool := l.all (inR low high)
theorem allR_mem {low high : Int} {l : List Int} (h : allR low high l = true) {x : Int} (hx : x ∈ l) : low ≤ x ∧ x ≤ high := inR_true.1 (List.all_eq_true.1 h x hx)
theorem allR_gi {low high : Int} {l : List Int} (h : allR low high l = true) {k : Nat} (hk : k < l.length) : low ≤ gi l k ∧ gi l k ≤ high := allR_mem h (gi_mem hk)
theorem allR_take_succ {low high : Int} {l : List Int} {k : Nat} (hk : k < l.length) (h : allR low high (l.take k) = true) (hx : inR low high (gi l k) = true) : allR low high (l.take (k + 1)) = true := by
  rw [take_succ_gi hk]; simp only [allR, List.all_append, List.all_cons, List.all_nil, Bool.and_true, Bool.and_eq_true]; exact ⟨h, hx⟩
theorem allR_stop {low high : Int} {l : List Int} {k : Nat} (hk : k < l.length) (hx : inR low high (gi l k) = false) : allR low high l = false := by
  cases h : allR low high l with
  | false => rfl
  | true => have := List.all_eq_true.1 h _ (gi_mem hk); rw [hx] at this; cases this
theorem allR_of {low high : Int} {l : List Int} (h : ∀ x ∈ l, low ≤ x ∧ x ≤ high) : allR low high l = true := List.all_eq_true.2 fun x hx => inR_true.2 (h x hx)

/-- Nothing was written: at most orders were drawn. -/
def Quiet (w w' : World) : Prop := ∃ q, w' = w.drewN q
theorem Quiet.refl (w : World) : Quiet w w := ⟨0, rfl⟩
theorem Quiet.of_drewN (w : World) (q : Nat) : Quiet w (w.drewN q) := ⟨q, rfl⟩

theorem inRange_c (n low high : Int) (w : World) :
    Calls Try.prog 52 #[.int .i64 n, .int .i64 low, .int .i64 high] w fun e w' => e = .returned (.bool (inR low high n)) ∧ w = w' := by
  by_cases h1 : low ≤ n
  · have hd : decide (low ≤ n) = true := by simpa using h1
    go_enter Try.func52, Try.ntmps52
    go_wp2
    go_ret
    exact ⟨by simp [inR, *], rfl⟩
  · have hd : decide (low ≤ n) = false := by simpa using h1
    go_enter Try.func52, Try.ntmps52
    go_wp2
    go_ret
    exact ⟨by simp [inR, *], rfl⟩

theorem allIn_c (A : Option Addr) (n c : Nat) (l : List Int) (low high : Int) (w : World) (B : Nat) (h : SI w B A n c l) :
    Calls Try.prog 66 #[.slice A n c, .int .i64 low, .int .i64 high] w fun e w' => e = .returned (.bool (allR low high l)) ∧ w = w' := by
  have hc := h.le
  have hm := h.max
  go_enter Try.func66, Try.ntmps66
  go_wp2
  go_loop [7] (fun i => ∃ k : Nat, k ≤ n ∧ i = .int .i64 k ∧ allR low high (l.take k) = true) (fun i => n - (intOf i).toNat)
  case atStart => exact ⟨0, Nat.zero_le _, rfl, rfl⟩
  case round =>
    obtain ⟨k, hk, rfl, hr⟩ := hrel
    have HR := Lib.hid hr
    clear hr
    by_cases hlt : k < n
    · obtain ⟨b, o, rfl, hb, hcell⟩ := h.at_ hlt
      rcases Bool.eq_false_or_eq_true (inR low high (gi l k)) with hx | hx
      all_goals go_wp2_with (go_at_call 52; refine (inRange_c _ _ _ _).mono ?_; rintro e w' ⟨rfl, rfl⟩)
      · go_round
        case rel => exact ⟨k + 1, by omega, by go_num, allR_take_succ (by rw [← h.len]; exact hlt) HR.out hx⟩
        case measure => simp [intOf]; omega
      · go_ret
        exact ⟨ret_bool (allR_stop (by rw [← h.len]; exact hlt) hx).symm, rfl⟩
    · go_wp2
      go_ret
      have hk' : k = n := by omega
      exact ⟨ret_bool (by rw [← HR.out, List.take_of_length_le (by rw [← h.len]; omega)]), rfl⟩

/-! Places of a number in a list. -/
/-- The first place of x from the head on, as a number; the length if there is none. -/
def plc (l : List Int) (x : Int) : Nat := l.findIdx (fun y => decide (y = x))
def placeL (l : List Int) (x : Int) : Int := if x ∈ l then (plc l x : Int) else -1
def hasL (l : List Int) (x : Int) : Bool := decide (x ∈ l)
theorem plc_lt {l : List Int} {x : Int} (h : x ∈ l) : plc l x < l.length := List.findIdx_lt_length_of_exists ⟨x, h, by simp⟩
theorem gi_plc {l : List Int} {x : Int} (h : x ∈ l) : gi l (plc l x) = x := by
  have hl := plc_lt h
  have := of_decide_eq_true (List.findIdx_getElem (p := fun y => decide (y = x)) (w := hl))
  simp only [gi, List.getD, List.getElem?_eq_getElem hl, Option.getD_some]
  exact this
theorem plc_eq {l : List Int} {x : Int} {k : Nat} (hk : k < l.length) (hx : gi l k = x) (hb : ∀ j, j < k → gi l j ≠ x) : plc l x = k := by
  have hm : x ∈ l := hx ▸ gi_mem hk
  rcases Nat.lt_trichotomy (plc l x) k with h | h | h
  · exact absurd (gi_plc hm) (hb _ h)
  · exact h
  · exfalso
    have := List.not_of_lt_findIdx (p := fun y => decide (y = x)) (xs := l) (i := k) h
    simp only [gi, List.getD, List.getElem?_eq_getElem hk, Option.getD_some] at hx
    simp [hx] at this
theorem placeL_found {l : List Int} {x : Int} {k : Nat} (hk : k < l.length) (hx : gi l k = x) (hb : ∀ j, j < k → gi l j ≠ x) : placeL l x = k := by
  rw [placeL, if_pos (hx ▸ gi_mem hk), plc_eq hk hx hb]
theorem placeL_none {l : List Int} {x : Int} (h : ∀ j, j < l.length → gi l j ≠ x) : placeL l x = -1 := by
  rw [placeL, if_neg]; intro hm; obtain ⟨k, hk, e⟩ := mem_gi hm; exact h k hk e
theorem placeL_nonneg (l : List Int) (x : Int) : (0 ≤ placeL l x) ↔ x ∈ l := by
  unfold placeL; split <;> simp_all <;> omega
theorem placeL_ge (l : List Int) (x : Int) : -1 ≤ placeL l x := by unfold placeL; split <;> omega
theorem placeL_lt (l : List Int) (x : Int) : placeL l x < l.length := by
  unfold placeL; split
  · have := plc_lt ‹_›; omega
  · omega

theorem placeOf_c (A : Option Addr) (n c : Nat) (l : List Int) (x : Int) (w : World) (B : Nat) (h : SI w B A n c l) :
    Calls Try.prog 68 #[.slice A n c, .int .i64 x] w fun e w' => e = .returned (.int .i64 (placeL l x)) ∧ w = w' := by
  have hc := h.le
  have hm := h.max
  go_enter Try.func68, Try.ntmps68
  go_wp2
  go_loop [5] (fun i => ∃ k : Nat, k ≤ n ∧ i = .int .i64 k ∧ ∀ j, j < k → gi l j ≠ x) (fun i => n - (intOf i).toNat)
  case atStart => exact ⟨0, Nat.zero_le _, rfl, fun j hj => by omega⟩
  case round =>
    obtain ⟨k, hk, rfl, hr⟩ := hrel
    have HR := Lib.hid hr
    clear hr
    by_cases hlt : k < n
    · obtain ⟨b, o, rfl, hb, hcell⟩ := h.at_ hlt
      rcases Bool.eq_false_or_eq_true (gi l k == x) with hx | hx
      all_goals go_wp2
      · go_ret
        exact ⟨ret_int (placeL_found (by rw [← h.len]; exact hlt) (by simpa using hx) HR.out).symm, rfl⟩
      · go_round
        case rel =>
          refine ⟨k + 1, by omega, by go_num, fun j hj => ?_⟩
          rcases Nat.lt_or_ge j k with hjk | hjk
          · exact HR.out j hjk
          · obtain rfl : j = k := by omega
            simpa using hx
        case measure => simp [intOf]; omega
    · go_wp2
      go_ret
      have hk' : k = n := by omega
      exact ⟨ret_int (placeL_none fun j hj => HR.out j (by rw [← h.len] at hj; omega)).symm, rfl⟩

theorem isIn_c (A : Option Addr) (n c : Nat) (l : List Int) (x : Int) (w : World) (B : Nat) (h : SI w B A n c l) :
    Calls Try.prog 70 #[.slice A n c, .int .i64 x] w fun e w' => e = .returned (.bool (hasL l x)) ∧ w = w' := by
  go_enter Try.func70, Try.ntmps70
  go_wp2_with (go_at_call 68; refine (placeOf_c _ _ _ l _ _ _ h).mono ?_; rintro e w' ⟨rfl, rfl⟩)
  go_ret
  exact ⟨ret_bool (by simp [hasL, placeL_nonneg]), rfl⟩

theorem lawsIsIn_c (A : Option Addr) (n c : Nat) (l : List Int) (x : Int) (w : World) (B : Nat) (h : SI w B A n c l) :
    Calls Try.prog 19 #[.slice A n c, .int .i64 x] w fun e w' => e = .returned (.bool (hasL l x)) ∧ w = w' := by
  have hc := h.le
  have hm := h.max
  go_enter Try.func19, Try.ntmps19
  go_wp2
  go_loop [5] (fun i => ∃ k : Nat, k ≤ n ∧ i = .int .i64 k ∧ ∀ j, j < k → gi l j ≠ x) (fun i => n - (intOf i).toNat)
  case atStart => exact ⟨0, Nat.zero_le _, rfl, fun j hj => by omega⟩
  case round =>
    obtain ⟨k, hk, rfl, hr⟩ := hrel
    have HR := Lib.hid hr
    clear hr
    by_cases hlt : k < n
    · obtain ⟨b, o, rfl, hb, hcell⟩ := h.at_ hlt
      rcases Bool.eq_false_or_eq_true (gi l k == x) with hx | hx
      all_goals go_wp2
      · go_ret
        refine ⟨ret_bool ?_, rfl⟩
        have hx' : gi l k = x := by simpa using hx
        simp only [hasL]; exact (decide_eq_true (hx' ▸ gi_mem (by rw [← h.len]; exact hlt))).symm
      · go_round
        case rel =>
          refine ⟨k + 1, by omega, by go_num, fun j hj => ?_⟩
          rcases Nat.lt_or_ge j k with hjk | hjk
          · exact HR.out j hjk
          · obtain rfl : j = k := by omega
            simpa using hx
        case measure => simp [intOf]; omega
    · go_wp2
      go_ret
      refine ⟨ret_bool ?_, rfl⟩
      refine (decide_eq_false fun hm => ?_).symm
      obtain ⟨j, hj, e⟩ := mem_gi hm
      exact HR.out j (by rw [← h.len] at hj; omega) e

/-- Equality of two lists. -/
def eqL (a b : List Int) : Bool := decide (a = b)
theorem eqL_self (a : List Int) : eqL a a = true := by simp [eqL]
theorem eqL_true {a b : List Int} : eqL a b = true ↔ a = b := by simp [eqL]
theorem take_ext {l r : List Int} {k : Nat} (h : ∀ j, j < k → gi l j = gi r j) (h1 : k = l.length) (h2 : k = r.length) : l = r :=
  ext_gi (by omega) fun i hi => h i (by omega)

theorem equalInts_c (A A2 : Option Addr) (n c n2 c2 : Nat) (l r : List Int) (w : World) (B B2 : Nat) (h : SI w B A n c l) (h2 : SI w B2 A2 n2 c2 r) :
    Calls Try.prog 18 #[.slice A n c, .slice A2 n2 c2] w fun e w' => e = .returned (.bool (eqL l r)) ∧ Quiet w w' := by
  have hc := h.le
  have hm := h.max
  have hc2 := h2.le
  have hm2 := h2.max
  by_cases hn : n = n2
  · subst hn
    go_enter Try.func18, Try.ntmps18
    go_wp2
    go_loopw [5] (fun i wr => ∃ k : Nat, k ≤ n ∧ i = .int .i64 k ∧ (∀ j, j < k → gi l j = gi r j) ∧ ∃ q, wr = w.drewN q) (fun i _ => n - (intOf i).toNat)
    case atStart => exact ⟨0, Nat.zero_le _, rfl, fun j hj => by omega, 0, rfl⟩
    case round =>
      obtain ⟨k, hk, rfl, hr, q, rfl⟩ := hrel
      have HR := Lib.hid hr
      clear hr
      by_cases hlt : k < n
      · obtain ⟨b, o, rfl, hb, hcell⟩ := h.at_ hlt
        obtain ⟨b2, o2, rfl, hb2, hcell2⟩ := h2.at_ hlt
        rcases Bool.eq_false_or_eq_true (gi l k != gi r k) with hx | hx
        all_goals
          go_wp2
          go_quiet (fail)
          go_wp2
        · go_ret
          refine ⟨ret_bool ?_, ⟨_, World.drewN_drewN _ _ _⟩⟩
          refine (decide_eq_false fun e => ?_).symm
          subst e; simp at hx
        · go_roundw
          case rel =>
            refine ⟨k + 1, by omega, by go_num, fun j hj => ?_, ⟨_, rfl⟩⟩
            rcases Nat.lt_or_ge j k with hjk | hjk
            · exact HR.out j hjk
            · obtain rfl : j = k := by omega
              simpa using hx
          case measure => simp [intOf]; omega
      · go_wp2
        go_ret
        have hk' : k = n := by omega
        exact ⟨ret_bool (eqL_true.2 (take_ext HR.out (by rw [← h.len]; exact hk') (by rw [← h2.len]; exact hk'))).symm, ⟨_, rfl⟩⟩
  · have hne : ((n : Int) != (n2 : Int)) = true := by simp; omega
    go_enter Try.func18, Try.ntmps18
    go_wp2
    go_ret
    refine ⟨ret_bool ?_, Quiet.refl _⟩
    refine (decide_eq_false fun e => hn ?_).symm
    rw [h.len, h2.len, e]
end Go.Proofs.Ytgnkidmljcpheac
