/- What the functions that the law reaches do, written as plain Lean. No statement is proved here. -/
import Derived.Test.YtlobdkcjlpifjabFnWorkingSetMoreP0
namespace Go.Ev
set_option linter.unusedVariables false
open Go
def F_spec_inRange (n low high : Int) (k : Bool → Prop) : Prop := k (decide (low ≤ n ∧ n ≤ high))
theorem F_spec_inRange_S {n low high : Int} {k : Bool → Prop} (h : F_spec_inRange n low high k) : S_spec_inRange n low high k := by
  unfold F_spec_inRange at h
  simp only [S_spec_inRange, G_spec_inRange, br_dec]
  refine ⟨fun h1 => ?_, fun h1 => ?_⟩
  · simpa [h1] using h
  · simpa [h1] using h
-- spec.allIn
def T0_spec_allIn (high2 : Int) (list0 : List Int) (low1 : Int) (xi7 : Int) (k : Bool → Prop) (B0 : Int → Prop) : Prop :=
  br (decide (xi7 < (list0.length : Int)))
  ((0 ≤ xi7 ∧ xi7 < (list0.length : Int)) ∧
    F_spec_inRange (List.getD list0 (Int.toNat xi7) (0 : Int)) low1 high2 fun inRange20 =>
    br (!inRange20)
    (k false)
    (InR (xi7 + 1) ∧
      B0 (xi7 + 1)))
  (k true)
def L0_spec_allIn (high2 : Int) (list0 : List Int) (low1 : Int) (k : Bool → Prop) : Nat → Int → Prop
  | 0, _ => False
  | n + 1, xi7 => T0_spec_allIn high2 list0 low1 xi7 k (L0_spec_allIn high2 list0 low1 k n)
def G_spec_allIn (list0 : List Int) (low1 : Int) (high2 : Int) (I0 : Int → List Int → Int → Int → Prop) : Prop :=
  I0 high2 list0 low1 0
def S_spec_allIn (list0 : List Int) (low1 : Int) (high2 : Int) (k : Bool → Prop) : Prop := G_spec_allIn list0 low1 high2 (fun high2 list0 low1 xi7 => ∃ j, L0_spec_allIn high2 list0 low1 k j xi7)
def F_spec_allIn (l : List Int) (low high : Int) (k : Bool → Prop) : Prop := l.length ≤ 1000000000 ∧ k (decide (∀ x ∈ l, low ≤ x ∧ x ≤ high))
theorem F_spec_allIn_S {l : List Int} {low high : Int} {k : Bool → Prop} (h : F_spec_allIn l low high k) : S_spec_allIn l low high k := by
  obtain ⟨hl, hk⟩ := h
  have key : ∀ (r : List Int) (i : Nat), l.drop i = r → ((∀ x ∈ r, low ≤ x ∧ x ≤ high) ↔ (∀ x ∈ l, low ≤ x ∧ x ≤ high)) → L0_spec_allIn high l low k (r.length + 1) (i : Int) := by
    intro r
    induction r with
    | nil =>
      intro i hd he
      have := drop_nil' hd
      rw [L0_spec_allIn, T0_spec_allIn]
      simp only [br_dec]
      refine ⟨fun h => by omega, fun _ => ?_⟩
      rwa [decide_eq_true (he.1 (by simp))] at hk
    | cons x r ih =>
      intro i hd he
      obtain ⟨h1, h2, _, h3, _⟩ := drop_cons' hd
      rw [List.length_cons, L0_spec_allIn, T0_spec_allIn]
      simp only [br_dec, F_spec_inRange, br_not, Int.toNat_natCast, h2]
      refine ⟨fun _ => ⟨⟨by omega, by omega⟩, fun hx => ⟨inR (by omega) (by omega), ?_⟩, fun hx => ?_⟩, fun h => by omega⟩
      · refine ih (i + 1) h3 (Iff.trans ?_ he)
        simp only [List.mem_cons, forall_eq_or_imp]
        exact ⟨fun h => ⟨hx, h⟩, fun h => h.2⟩
      · rwa [decide_eq_false (fun h => hx (he.2 h x (by simp)))] at hk
  exact ⟨_, key l 0 rfl Iff.rfl⟩
-- spec.validTrace
def G_spec_validTrace (t0 : List Int) (k : Bool → Prop) : Prop :=
  br (decide ((t0.length : Int) ≤ 24))
  (F_spec_allIn t0 (0 : Int) (31 : Int) fun allIn8 =>
    k allIn8)
  (k false)
def S_spec_validTrace (t0 : List Int) (k : Bool → Prop) : Prop := G_spec_validTrace t0 k
def F_spec_validTrace (t : List Int) (k : Bool → Prop) : Prop := ∀ b : Bool, (b = true ↔ VTrace t) → k b
theorem F_spec_validTrace_S {t : List Int} {k : Bool → Prop} (h : F_spec_validTrace t k) : S_spec_validTrace t k :=
  br_dec.2 ⟨fun h1 => ⟨by omega, h _ (by simp only [decide_eq_true_eq]; exact ⟨fun h2 => ⟨by omega, h2⟩, fun v => v.2⟩)⟩, fun h1 => h false (by simp only [Bool.false_eq_true, false_iff]; exact fun v => h1 (by have := v.1; omega))⟩
-- spec.placeOf
def T0_spec_placeOf (list0 : List Int) (n1 : Int) (xi5 : Int) (k : Int → Prop) (B0 : Int → Prop) : Prop :=
  br (decide (xi5 < (list0.length : Int)))
  ((0 ≤ xi5 ∧ xi5 < (list0.length : Int)) ∧
    br ((List.getD list0 (Int.toNat xi5) (0 : Int)) == n1)
    (k xi5)
    (InR (xi5 + 1) ∧
      B0 (xi5 + 1)))
  (k (-1))
def L0_spec_placeOf (list0 : List Int) (n1 : Int) (k : Int → Prop) : Nat → Int → Prop
  | 0, _ => False
  | n + 1, xi5 => T0_spec_placeOf list0 n1 xi5 k (L0_spec_placeOf list0 n1 k n)
def G_spec_placeOf (list0 : List Int) (n1 : Int) (I0 : List Int → Int → Int → Prop) : Prop :=
  I0 list0 n1 0
def S_spec_placeOf (list0 : List Int) (n1 : Int) (k : Int → Prop) : Prop := G_spec_placeOf list0 n1 (fun list0 n1 xi5 => ∃ j, L0_spec_placeOf list0 n1 k j xi5)
def F_spec_placeOf (l : List Int) (n : Int) (k : Int → Prop) : Prop := l.length ≤ 1000000000 ∧ k (plc l n)
theorem F_spec_placeOf_S {l : List Int} {n : Int} {k : Int → Prop} (h : F_spec_placeOf l n k) : S_spec_placeOf l n k := by
  obtain ⟨hl, hk⟩ := h
  have key : ∀ (r : List Int) (i : Nat), l.drop i = r → plcF r n i = plc l n → L0_spec_placeOf l n k (r.length + 1) (i : Int) := by
    intro r
    induction r with
    | nil =>
      intro i hd he
      have := drop_nil' hd
      rw [L0_spec_placeOf, T0_spec_placeOf]
      simp only [br_dec]
      exact ⟨fun h => by omega, fun _ => by rw [show (-1 : Int) = plc l n from he]; exact hk⟩
    | cons x r ih =>
      intro i hd he
      obtain ⟨h1, h2, _, h3, _⟩ := drop_cons' hd
      rw [List.length_cons, L0_spec_placeOf, T0_spec_placeOf]
      simp only [br_dec, br_beq, Int.toNat_natCast, h2]
      refine ⟨fun _ => ⟨⟨by omega, by omega⟩, fun hx => ?_, fun hx => ⟨inR (by omega) (by omega), ?_⟩⟩, fun h => by omega⟩
      · simp only [plcF, if_pos hx] at he; rw [he]; exact hk
      · simp only [plcF, if_neg hx] at he; exact ih (i + 1) h3 he
  exact ⟨_, key l 0 rfl rfl⟩
-- spec.toInt
def G_spec_toInt (b0 : Bool) (k : Int → Prop) : Prop :=
  br b0
  (k 1)
  (k 0)
def S_spec_toInt (b0 : Bool) (k : Int → Prop) : Prop := G_spec_toInt b0 k
def F_spec_toInt (b : Bool) (k : Int → Prop) : Prop := k (toI b)
theorem F_spec_toInt_S {b : Bool} {k : Int → Prop} (h : F_spec_toInt b k) : S_spec_toInt b k := by
  cases b <;> exact h
-- spec.WorkingSet
def T0_spec_WorkingSet (xpart8 : List Int) (xn7 : Int) (xi9 : Int) (k : Int → Prop) (B0 : Int → Int → Prop) : Prop :=
  br (decide (xi9 < (xpart8.length : Int)))
  ((0 ≤ xi9 ∧ xi9 < (xpart8.length : Int)) ∧
    F_spec_placeOf xpart8 (List.getD xpart8 (Int.toNat xi9) (0 : Int)) fun placeOf44 =>
    F_spec_toInt (placeOf44 == xi9) fun toInt47 =>
    InR (xn7 + toInt47) ∧
    InR (xi9 + 1) ∧
    B0 (xn7 + toInt47) (xi9 + 1))
  (k xn7)
def L0_spec_WorkingSet (xpart8 : List Int) (k : Int → Prop) : Nat → Int → Int → Prop
  | 0, _, _ => False
  | n + 1, xn7, xi9 => T0_spec_WorkingSet xpart8 xn7 xi9 k (L0_spec_WorkingSet xpart8 k n)
def G_spec_WorkingSet (t0 : List Int) (at1 : Int) (span2 : Int) (k : Int → Prop) (I0 : List Int → Int → Int → Prop) : Prop :=
  F_spec_validTrace t0 fun validTrace11 =>
  br (!validTrace11)
  (k (-1))
  (F_spec_inRange at1 (0 : Int) (t0.length : Int) fun inRange17 =>
    br (!inRange17)
    (k (-1))
    (F_spec_inRange span2 (1 : Int) (24 : Int) fun inRange22 =>
      br (!inRange22)
      (k (-1))
      (InR (at1 - span2) ∧
        (0 ≤ (if 0 < (at1 - span2) then (at1 - span2) else 0) ∧ (if 0 < (at1 - span2) then (at1 - span2) else 0) ≤ at1 ∧ at1 ≤ (t0.length : Int)) ∧
        I0 (List.take ((Int.toNat at1) - (Int.toNat (if 0 < (at1 - span2) then (at1 - span2) else 0))) (List.drop (Int.toNat (if 0 < (at1 - span2) then (at1 - span2) else 0)) t0)) 0 0)))
def S_spec_WorkingSet (t0 : List Int) (at1 : Int) (span2 : Int) (k : Int → Prop) : Prop := G_spec_WorkingSet t0 at1 span2 k (fun xpart8 xn7 xi9 => ∃ j, L0_spec_WorkingSet xpart8 k j xn7 xi9)
def F_spec_WorkingSet (t : List Int) (i span : Int) (k : Int → Prop) : Prop := (VTrace t ∧ (0 ≤ i ∧ i ≤ t.length) ∧ 1 ≤ span ∧ span ≤ 24 → k (workM t i span)) ∧ (¬ (VTrace t ∧ (0 ≤ i ∧ i ≤ t.length) ∧ 1 ≤ span ∧ span ≤ 24) → k (-1))
theorem F_spec_WorkingSet_S {t : List Int} {i span : Int} {k : Int → Prop} (h : F_spec_WorkingSet t i span k) : S_spec_WorkingSet t i span k := by
  obtain ⟨hyes, hno⟩ := h
  intro b hb
  refine br_not.2 (br_iff.2 ⟨fun e => ?_, fun e => hno fun w => by rw [hb.2 w.1] at e; cases e⟩)
  have v := hb.1 e
  have hl := v.1
  refine br_not.2 (br_dec.2 ⟨fun hi => br_not.2 (br_dec.2 ⟨fun hs => ?_, fun hs => hno fun w => hs w.2.2⟩), fun hi => hno fun w => hi w.2.1⟩)
  have hk := hyes ⟨v, hi, hs⟩
  have e : (if 0 < i - span then i - span else (0 : Int)) = ((i - span).toNat : Int) := by split <;> omega
  rw [e, Int.toNat_natCast, drop_take']
  refine ⟨inR (by omega) (by omega), ⟨by omega, by omega, by omega⟩, ?_⟩
  unfold workM at hk
  have hp : ((t.take i.toNat).drop (i - span).toNat).length ≤ 24 := by rw [List.length_drop, List.length_take]; omega
  generalize (t.take i.toNat).drop (i - span).toNat = p at *
  have go : ∀ (m i : Nat), i + m = p.length → L0_spec_WorkingSet p k (m + 1) (nk (p.take i) : Int) (i : Int) := by
    intro m
    induction m with
    | zero =>
      intro i hi
      rw [L0_spec_WorkingSet, T0_spec_WorkingSet, List.take_of_length_le (by omega)]
      exact br_nd (by omega) hk
    | succ m ih =>
      intro i hi
      have := nk_le (p.take i)
      rw [List.length_take] at this
      have h1 := toI_01 (plc p (p.getD i 0) == (i : Int))
      have next := ih (i + 1) (by omega)
      rw [nk_take (by omega)] at next
      rw [L0_spec_WorkingSet, T0_spec_WorkingSet]
      simp only [Int.toNat_natCast]
      exact br_yd (by omega) ⟨⟨by omega, by omega⟩, by omega, inR (by omega) (by omega), inR (by omega) (by omega), next⟩
  exact ⟨_, go p.length 0 (by omega)⟩
-- laws.FnWorkingSetMore
def G_laws_FnWorkingSetMore (code0 : List Int) (k : Bool → Prop) : Prop :=
  br (decide ((code0.length : Int) > 1048576))
  (k true)
  (F_spec_DrawWorkingSet code0 fun drawWorkingSet13r0 drawWorkingSet13r1 drawWorkingSet13r2 =>
    F_impl_WorkingSet drawWorkingSet13r0 drawWorkingSet13r1 drawWorkingSet13r2 fun workingSet20 =>
    F_spec_WorkingSet drawWorkingSet13r0 drawWorkingSet13r1 drawWorkingSet13r2 fun workingSet25 =>
    br (workingSet20 != workingSet25)
    (F_spec_WorkingSet drawWorkingSet13r0 drawWorkingSet13r1 drawWorkingSet13r2 fun workingSet39 =>
      k (workingSet20 == workingSet39))
    (br (decide (workingSet20 < 0))
      (F_spec_WorkingSet drawWorkingSet13r0 drawWorkingSet13r1 drawWorkingSet13r2 fun workingSet39 =>
        k (workingSet20 == workingSet39))
      (br (drawWorkingSet13r2 == 24)
        (F_spec_WorkingSet drawWorkingSet13r0 drawWorkingSet13r1 drawWorkingSet13r2 fun workingSet39 =>
          k (workingSet20 == workingSet39))
        (InR (drawWorkingSet13r2 + 1) ∧
          F_impl_WorkingSet drawWorkingSet13r0 drawWorkingSet13r1 (drawWorkingSet13r2 + 1) fun workingSet45 =>
          br (workingSet45 == workingSet20)
          (k true)
          (InR (workingSet20 + 1) ∧
            k (workingSet45 == (workingSet20 + 1)))))))
def S_laws_FnWorkingSetMore (code0 : List Int) (k : Bool → Prop) : Prop := G_laws_FnWorkingSetMore code0 k
abbrev F_laws_FnWorkingSetMore (code0 : List Int) (k : Bool → Prop) : Prop := S_laws_FnWorkingSetMore code0 k
theorem F_laws_FnWorkingSetMore_S {code0 : List Int} {k : Bool → Prop} (h : F_laws_FnWorkingSetMore code0 k) : S_laws_FnWorkingSetMore code0 k := h
theorem law_FnWorkingSetMore (code : List Int) (hb : ∀ x ∈ code, 0 ≤ x ∧ x ≤ 255) : F_laws_FnWorkingSetMore code (fun r => r = true) := by
  refine br_dec.2 ⟨fun _ => rfl, fun hlen => ⟨hb, fun t i span l1 => ?_⟩⟩
  by_cases v : VTrace t ∧ (0 ≤ i ∧ i ≤ t.length) ∧ 1 ≤ span ∧ span ≤ 24
  · have h0 : 0 ≤ workM t i span := by unfold workM; omega
    have hm := workM_more v.2.1.1 v.2.1.2 v.2.2.1
    have h1 := workM_le v.2.1.1 v.2.1.2 v.2.2.1
    refine yes v (yes v (br_same' (br_nd (by omega) (br_beq.2 ⟨fun _ => yes v (beq_t rfl), fun h24 => ⟨inR (by omega) (by omega), yes ⟨v.1, v.2.1, by omega, by omega⟩ ?_⟩⟩))))
    exact br_beq.2 ⟨fun _ => rfl, fun hne => ⟨inR (by omega) (by omega), beq_t (hm.resolve_left hne)⟩⟩
  · exact nay v (nay v (br_same' (br_yd (by omega) (nay v rfl))))
end Go.Ev
