/- What the functions that the law reaches do, written as plain Lean. No statement is proved here. -/
import Derived.Test.YtlobdkcjlpifjadFnExactWorkingSetP0
namespace Go.Ev
set_option linter.unusedVariables false
open Go
def F_spec_placeOf (l : List Int) (n : Int) (k : Int → Prop) : Prop := l.length ≤ 1000000000 ∧ k (plc l n)
theorem F_spec_placeOf_S {l : List Int} {n : Int} {k : Int → Prop} (h : F_spec_placeOf l n k) : S_spec_placeOf l n k := by
  obtain ⟨hl, hk⟩ := h
  have key : ∀ (r : List Int) (i : Nat), l.drop i = r → plcF r n i = plc l n → L0_spec_placeOf l n k (r.length + 1) (i : Int) := by
    intro r
    induction r with
    | nil =>
      intro i hd he
      have := drop_nil' hd
      rw [L0_spec_placeOf, T0_spec_placeOf]
      simp only [br_dec]
      exact ⟨fun h => by omega, fun _ => by rw [show (-1 : Int) = plc l n from he]; exact hk⟩
    | cons x r ih =>
      intro i hd he
      obtain ⟨h1, h2, _, h3, _⟩ := drop_cons' hd
      rw [List.length_cons, L0_spec_placeOf, T0_spec_placeOf]
      simp only [br_dec, br_beq, Int.toNat_natCast, h2]
      refine ⟨fun _ => ⟨⟨by omega, by omega⟩, fun hx => ?_, fun hx => ⟨inR (by omega) (by omega), ?_⟩⟩, fun h => by omega⟩
      · simp only [plcF, if_pos hx] at he; rw [he]; exact hk
      · simp only [plcF, if_neg hx] at he; exact ih (i + 1) h3 he
  exact ⟨_, key l 0 rfl rfl⟩
-- spec.toInt
def G_spec_toInt (b0 : Bool) (k : Int → Prop) : Prop :=
  br b0
  (k 1)
  (k 0)
def S_spec_toInt (b0 : Bool) (k : Int → Prop) : Prop := G_spec_toInt b0 k
def F_spec_toInt (b : Bool) (k : Int → Prop) : Prop := k (toI b)
theorem F_spec_toInt_S {b : Bool} {k : Int → Prop} (h : F_spec_toInt b k) : S_spec_toInt b k := by
  cases b <;> exact h
-- spec.WorkingSet
def T0_spec_WorkingSet (xpart8 : List Int) (xn7 : Int) (xi9 : Int) (k : Int → Prop) (B0 : Int → Int → Prop) : Prop :=
  br (decide (xi9 < (xpart8.length : Int)))
  ((0 ≤ xi9 ∧ xi9 < (xpart8.length : Int)) ∧
    F_spec_placeOf xpart8 (List.getD xpart8 (Int.toNat xi9) (0 : Int)) fun placeOf44 =>
    F_spec_toInt (placeOf44 == xi9) fun toInt47 =>
    InR (xn7 + toInt47) ∧
    InR (xi9 + 1) ∧
    B0 (xn7 + toInt47) (xi9 + 1))
  (k xn7)
def L0_spec_WorkingSet (xpart8 : List Int) (k : Int → Prop) : Nat → Int → Int → Prop
  | 0, _, _ => False
  | n + 1, xn7, xi9 => T0_spec_WorkingSet xpart8 xn7 xi9 k (L0_spec_WorkingSet xpart8 k n)
def G_spec_WorkingSet (t0 : List Int) (at1 : Int) (span2 : Int) (k : Int → Prop) (I0 : List Int → Int → Int → Prop) : Prop :=
  F_spec_validTrace t0 fun validTrace11 =>
  br (!validTrace11)
  (k (-1))
  (F_spec_inRange at1 (0 : Int) (t0.length : Int) fun inRange17 =>
    br (!inRange17)
    (k (-1))
    (F_spec_inRange span2 (1 : Int) (24 : Int) fun inRange22 =>
      br (!inRange22)
      (k (-1))
      (InR (at1 - span2) ∧
        (0 ≤ (if 0 < (at1 - span2) then (at1 - span2) else 0) ∧ (if 0 < (at1 - span2) then (at1 - span2) else 0) ≤ at1 ∧ at1 ≤ (t0.length : Int)) ∧
        I0 (List.take ((Int.toNat at1) - (Int.toNat (if 0 < (at1 - span2) then (at1 - span2) else 0))) (List.drop (Int.toNat (if 0 < (at1 - span2) then (at1 - span2) else 0)) t0)) 0 0)))
def S_spec_WorkingSet (t0 : List Int) (at1 : Int) (span2 : Int) (k : Int → Prop) : Prop := G_spec_WorkingSet t0 at1 span2 k (fun xpart8 xn7 xi9 => ∃ j, L0_spec_WorkingSet xpart8 k j xn7 xi9)
def F_spec_WorkingSet (t : List Int) (i span : Int) (k : Int → Prop) : Prop := (VTrace t ∧ (0 ≤ i ∧ i ≤ t.length) ∧ 1 ≤ span ∧ span ≤ 24 → k (workM t i span)) ∧ (¬ (VTrace t ∧ (0 ≤ i ∧ i ≤ t.length) ∧ 1 ≤ span ∧ span ≤ 24) → k (-1))
theorem F_spec_WorkingSet_S {t : List Int} {i span : Int} {k : Int → Prop} (h : F_spec_WorkingSet t i span k) : S_spec_WorkingSet t i span k := by
  obtain ⟨hyes, hno⟩ := h
  intro b hb
  refine br_not.2 (br_iff.2 ⟨fun e => ?_, fun e => hno fun w => by rw [hb.2 w.1] at e; cases e⟩)
  have v := hb.1 e
  have hl := v.1
  refine br_not.2 (br_dec.2 ⟨fun hi => br_not.2 (br_dec.2 ⟨fun hs => ?_, fun hs => hno fun w => hs w.2.2⟩), fun hi => hno fun w => hi w.2.1⟩)
  have hk := hyes ⟨v, hi, hs⟩
  have e : (if 0 < i - span then i - span else (0 : Int)) = ((i - span).toNat : Int) := by split <;> omega
  rw [e, Int.toNat_natCast, drop_take']
  refine ⟨inR (by omega) (by omega), ⟨by omega, by omega, by omega⟩, ?_⟩
  unfold workM at hk
  have hp : ((t.take i.toNat).drop (i - span).toNat).length ≤ 24 := by rw [List.length_drop, List.length_take]; omega
  generalize (t.take i.toNat).drop (i - span).toNat = p at *
  have go : ∀ (m i : Nat), i + m = p.length → L0_spec_WorkingSet p k (m + 1) (nk (p.take i) : Int) (i : Int) := by
    intro m
    induction m with
    | zero =>
      intro i hi
      rw [L0_spec_WorkingSet, T0_spec_WorkingSet, List.take_of_length_le (by omega)]
      exact br_nd (by omega) hk
    | succ m ih =>
      intro i hi
      have := nk_le (p.take i)
      rw [List.length_take] at this
      have h1 := toI_01 (plc p (p.getD i 0) == (i : Int))
      have next := ih (i + 1) (by omega)
      rw [nk_take (by omega)] at next
      rw [L0_spec_WorkingSet, T0_spec_WorkingSet]
      simp only [Int.toNat_natCast]
      exact br_yd (by omega) ⟨⟨by omega, by omega⟩, by omega, inR (by omega) (by omega), inR (by omega) (by omega), next⟩
  exact ⟨_, go p.length 0 (by omega)⟩
-- impl.validKey
def G_impl_validKey (key0 : Int) (k : Bool → Prop) : Prop :=
  br (decide (0 ≤ key0))
  (k (decide (key0 ≤ 31)))
  (k false)
def S_impl_validKey (key0 : Int) (k : Bool → Prop) : Prop := G_impl_validKey key0 k
def F_impl_validKey (n : Int) (k : Bool → Prop) : Prop := k (decide (0 ≤ n ∧ n ≤ 31))
theorem F_impl_validKey_S {n : Int} {k : Bool → Prop} (h : F_impl_validKey n k) : S_impl_validKey n k := by
  unfold F_impl_validKey at h
  simp only [S_impl_validKey, G_impl_validKey, br_dec]
  refine ⟨fun h1 => ?_, fun h1 => ?_⟩
  · simpa [h1] using h
  · simpa [h1] using h
-- impl.ValidTrace
def T0_impl_ValidTrace (t0 : List Int) (xt9 : Int) (xt10 : Int) (k : Bool → Prop) (B0 : Int → Prop) : Prop :=
  br (decide (xt10 < xt9))
  ((0 ≤ xt10 ∧ xt10 < (t0.length : Int)) ∧
    F_impl_validKey (List.getD t0 (Int.toNat xt10) (0 : Int)) fun validKey15 =>
    br (!validKey15)
    (k false)
    (InR (xt10 + 1) ∧
      B0 (xt10 + 1)))
  (k true)
def L0_impl_ValidTrace (t0 : List Int) (xt9 : Int) (k : Bool → Prop) : Nat → Int → Prop
  | 0, _ => False
  | n + 1, xt10 => T0_impl_ValidTrace t0 xt9 xt10 k (L0_impl_ValidTrace t0 xt9 k n)
def G_impl_ValidTrace (t0 : List Int) (k : Bool → Prop) (I0 : List Int → Int → Int → Prop) : Prop :=
  br (decide ((t0.length : Int) > 24))
  (k false)
  (I0 t0 (t0.length : Int) 0)
def S_impl_ValidTrace (t0 : List Int) (k : Bool → Prop) : Prop := G_impl_ValidTrace t0 k (fun t0 xt9 xt10 => ∃ j, L0_impl_ValidTrace t0 xt9 k j xt10)
def F_impl_ValidTrace (t : List Int) (k : Bool → Prop) : Prop := ∀ b : Bool, (b = true ↔ VTrace t) → k b
theorem F_impl_ValidTrace_S {t : List Int} {k : Bool → Prop} (h : F_impl_ValidTrace t k) : S_impl_ValidTrace t k := by
  have hno : ¬ VTrace t → k false := fun hv => h false (by simp [hv])
  have key : t.length ≤ 24 → ∀ (r : List Int) (i : Nat), t.drop i = r → (∀ x ∈ t.take i, 0 ≤ x ∧ x ≤ 31) → L0_impl_ValidTrace t (t.length : Int) k (r.length + 1) (i : Int) := by
    intro hl r
    induction r with
    | nil =>
      intro i hd he
      have := drop_nil' hd
      rw [List.take_of_length_le this] at he
      rw [L0_impl_ValidTrace, T0_impl_ValidTrace]
      simp only [br_dec]
      exact ⟨fun h => by omega, fun _ => h true (by simp only [true_iff]; exact ⟨hl, he⟩)⟩
    | cons x r ih =>
      intro i hd he
      obtain ⟨h1, h2, h5, h3, h4⟩ := drop_cons' hd
      rw [List.length_cons, L0_impl_ValidTrace, T0_impl_ValidTrace]
      simp only [br_dec, F_impl_validKey, Int.toNat_natCast, h2, br_not]
      refine ⟨fun _ => ⟨⟨by omega, by omega⟩, fun hx => ⟨inR (by omega) (by omega), ih (i + 1) h3 ?_⟩, fun hx => hno fun v => hx (v.2 x (List.mem_of_getElem? h5))⟩, fun h => by omega⟩
      rw [h4]; intro y hy
      rcases List.mem_append.1 hy with hy | hy
      · exact he y hy
      · simp at hy; subst hy; exact hx
  exact br_dec.2 ⟨fun h3 => hno fun v => by have := v.1; omega, fun h3 => ⟨_, key (by omega) t 0 rfl (by simp)⟩⟩
-- impl.validPlace
def G_impl_validPlace (t0 : List Int) (place1 : Int) (k : Bool → Prop) : Prop :=
  br (decide (0 ≤ place1))
  (k (decide (place1 ≤ (t0.length : Int))))
  (k false)
def S_impl_validPlace (t0 : List Int) (place1 : Int) (k : Bool → Prop) : Prop := G_impl_validPlace t0 place1 k
def F_impl_validPlace (t : List Int) (p : Int) (k : Bool → Prop) : Prop := k (decide (0 ≤ p ∧ p ≤ t.length))
theorem F_impl_validPlace_S {t : List Int} {p : Int} {k : Bool → Prop} (h : F_impl_validPlace t p k) : S_impl_validPlace t p k := by
  unfold F_impl_validPlace at h
  simp only [S_impl_validPlace, G_impl_validPlace, br_dec]
  refine ⟨fun h1 => ?_, fun h1 => ?_⟩
  · simpa [h1] using h
  · simpa [h1] using h
-- slices.Index[[]int,int]
def T0_slices_Index_sint_int (s0 : List Int) (v1 : Int) (xt7 : Int) (xt8 : Int) (k : Int → Prop) (B0 : Int → Prop) : Prop :=
  br (decide (xt8 < xt7))
  ((0 ≤ xt8 ∧ xt8 < (s0.length : Int)) ∧
    br (v1 == (List.getD s0 (Int.toNat xt8) (0 : Int)))
    (k xt8)
    (InR (xt8 + 1) ∧
      B0 (xt8 + 1)))
  (k (-1))
def L0_slices_Index_sint_int (s0 : List Int) (v1 : Int) (xt7 : Int) (k : Int → Prop) : Nat → Int → Prop
  | 0, _ => False
  | n + 1, xt8 => T0_slices_Index_sint_int s0 v1 xt7 xt8 k (L0_slices_Index_sint_int s0 v1 xt7 k n)
def G_slices_Index_sint_int (s0 : List Int) (v1 : Int) (I0 : List Int → Int → Int → Int → Prop) : Prop :=
  I0 s0 v1 (s0.length : Int) 0
def S_slices_Index_sint_int (s0 : List Int) (v1 : Int) (k : Int → Prop) : Prop := G_slices_Index_sint_int s0 v1 (fun s0 v1 xt7 xt8 => ∃ j, L0_slices_Index_sint_int s0 v1 xt7 k j xt8)
def F_slices_Index_sint_int (l : List Int) (n : Int) (k : Int → Prop) : Prop := l.length ≤ 1000000000 ∧ k (plc l n)
theorem F_slices_Index_sint_int_S {l : List Int} {n : Int} {k : Int → Prop} (h : F_slices_Index_sint_int l n k) : S_slices_Index_sint_int l n k := by
  obtain ⟨hl, hk⟩ := h
  have key : ∀ (r : List Int) (i : Nat), l.drop i = r → plcF r n i = plc l n → L0_slices_Index_sint_int l n (l.length : Int) k (r.length + 1) (i : Int) := by
    intro r
    induction r with
    | nil =>
      intro i hd he
      have := drop_nil' hd
      rw [L0_slices_Index_sint_int, T0_slices_Index_sint_int]
      simp only [br_dec]
      exact ⟨fun h => by omega, fun _ => by rw [show (-1 : Int) = plc l n from he]; exact hk⟩
    | cons x r ih =>
      intro i hd he
      obtain ⟨h1, h2, _, h3, _⟩ := drop_cons' hd
      rw [List.length_cons, L0_slices_Index_sint_int, T0_slices_Index_sint_int]
      simp only [br_dec, br_beq, Int.toNat_natCast, h2]
      refine ⟨fun _ => ⟨⟨by omega, by omega⟩, fun hx => ?_, fun hx => ⟨inR (by omega) (by omega), ?_⟩⟩, fun h => by omega⟩
      · simp only [plcF, if_pos hx.symm] at he; rw [he]; exact hk
      · simp only [plcF, if_neg (Ne.symm hx)] at he; exact ih (i + 1) h3 he
  exact ⟨_, key l 0 rfl rfl⟩
-- slices.Contains[[]int,int]
def G_slices_Contains_sint_int (s0 : List Int) (v1 : Int) (k : Bool → Prop) : Prop :=
  F_slices_Index_sint_int s0 v1 fun index7 =>
  k (decide (index7 ≥ 0))
def S_slices_Contains_sint_int (s0 : List Int) (v1 : Int) (k : Bool → Prop) : Prop := G_slices_Contains_sint_int s0 v1 k
def F_slices_Contains_sint_int (l : List Int) (n : Int) (k : Bool → Prop) : Prop := l.length ≤ 1000000000 ∧ k (decide (n ∈ l))
theorem F_slices_Contains_sint_int_S {l : List Int} {n : Int} {k : Bool → Prop} (h : F_slices_Contains_sint_int l n k) : S_slices_Contains_sint_int l n k := by
  refine ⟨h.1, ?_⟩
  have : decide (plc l n ≥ 0) = decide (n ∈ l) := decide_eq_decide.2 plc_ge
  show k (decide (plc l n ≥ 0))
  rw [this]; exact h.2
-- impl.NewKeys
def T0_impl_NewKeys (t0 : List Int) (xt10 : Int) (xcount3 : Int) (xt11 : Int) (k : Int → Prop) (B0 : Int → Int → Prop) : Prop :=
  br (decide (xt11 < xt10))
  ((0 ≤ xt11 ∧ xt11 < (t0.length : Int)) ∧
    (0 ≤ xt11 ∧ xt11 ≤ (t0.length : Int)) ∧
    F_slices_Contains_sint_int (List.take (Int.toNat xt11) t0) (List.getD t0 (Int.toNat xt11) (0 : Int)) fun contains20 =>
    br (!contains20)
    (InR (xcount3 + 1) ∧
      InR (xt11 + 1) ∧
      B0 (xcount3 + 1) (xt11 + 1))
    (InR (xt11 + 1) ∧
      B0 xcount3 (xt11 + 1)))
  (k xcount3)
def L0_impl_NewKeys (t0 : List Int) (xt10 : Int) (k : Int → Prop) : Nat → Int → Int → Prop
  | 0, _, _ => False
  | n + 1, xcount3, xt11 => T0_impl_NewKeys t0 xt10 xcount3 xt11 k (L0_impl_NewKeys t0 xt10 k n)
def G_impl_NewKeys (t0 : List Int) (k : Int → Prop) (I0 : List Int → Int → Int → Int → Prop) : Prop :=
  F_impl_ValidTrace t0 fun validTrace7 =>
  br (!validTrace7)
  (k (-1))
  (I0 t0 (t0.length : Int) 0 0)
def S_impl_NewKeys (t0 : List Int) (k : Int → Prop) : Prop := G_impl_NewKeys t0 k (fun t0 xt10 xcount3 xt11 => ∃ j, L0_impl_NewKeys t0 xt10 k j xcount3 xt11)
def F_impl_NewKeys (t : List Int) (k : Int → Prop) : Prop := (VTrace t → k (nk t : Int)) ∧ (¬ (VTrace t) → k (-1))
theorem F_impl_NewKeys_S {t : List Int} {k : Int → Prop} (h : F_impl_NewKeys t k) : S_impl_NewKeys t k := by
  obtain ⟨hyes, hno⟩ := h
  intro b hb
  refine br_not.2 (br_iff.2 ⟨fun e => ?_, fun e => hno fun w => by rw [hb.2 w] at e; cases e⟩)
  have v := hb.1 e
  have hk := hyes v
  have hl := v.1
  have go : ∀ (m i : Nat), i + m = t.length → L0_impl_NewKeys t (t.length : Int) k (m + 1) (nk (t.take i) : Int) (i : Int) := by
    intro m
    induction m with
    | zero =>
      intro i hi
      rw [show t.take i = t from List.take_of_length_le (by omega), L0_impl_NewKeys, T0_impl_NewKeys]
      exact br_dec.2 ⟨fun h => by omega, fun _ => hk⟩
    | succ m ih =>
      intro i hi
      have := nk_le (t.take i)
      rw [List.length_take] at this
      have next := ih (i + 1) (by omega)
      rw [take_get (by omega), nk_snoc] at next
      rw [L0_impl_NewKeys, T0_impl_NewKeys]
      simp only [Int.toNat_natCast]
      refine br_yd (by omega) ⟨⟨by omega, by omega⟩, ⟨by omega, by omega⟩, by rw [List.length_take]; omega, br_not.2 (br_dec.2 ⟨fun hm => ?_, fun hm => ?_⟩)⟩
      · rw [if_pos hm] at next; exact ⟨inR (by omega) (by omega), next⟩
      · rw [if_neg hm] at next; exact ⟨inR (by omega) (by omega), inR (by omega) (by omega), next⟩
  exact ⟨_, go t.length 0 (by omega)⟩
-- impl.WorkingSet
def G_impl_WorkingSet (t0 : List Int) (at1 : Int) (span2 : Int) (k : Int → Prop) : Prop :=
  F_impl_ValidTrace t0 fun validTrace8 =>
  br (!validTrace8)
  (k (-1))
  (F_impl_validPlace t0 at1 fun validPlace13 =>
    br (!validPlace13)
    (k (-1))
    (br (decide (span2 < 1))
      (k (-1))
      (br (decide (span2 > 24))
        (k (-1))
        (InR (at1 - span2) ∧
          (0 ≤ (if (at1 - span2) < 0 then (0 : Int) else (at1 - span2)) ∧ (if (at1 - span2) < 0 then (0 : Int) else (at1 - span2)) ≤ at1 ∧ at1 ≤ (t0.length : Int)) ∧
          F_impl_NewKeys (List.take ((Int.toNat at1) - (Int.toNat (if (at1 - span2) < 0 then (0 : Int) else (at1 - span2)))) (List.drop (Int.toNat (if (at1 - span2) < 0 then (0 : Int) else (at1 - span2))) t0)) fun newKeys31 =>
          k newKeys31))))
def S_impl_WorkingSet (t0 : List Int) (at1 : Int) (span2 : Int) (k : Int → Prop) : Prop := G_impl_WorkingSet t0 at1 span2 k
def F_impl_WorkingSet (t : List Int) (i span : Int) (k : Int → Prop) : Prop := (VTrace t ∧ (0 ≤ i ∧ i ≤ t.length) ∧ 1 ≤ span ∧ span ≤ 24 → k (workM t i span)) ∧ (¬ (VTrace t ∧ (0 ≤ i ∧ i ≤ t.length) ∧ 1 ≤ span ∧ span ≤ 24) → k (-1))
theorem F_impl_WorkingSet_S {t : List Int} {i span : Int} {k : Int → Prop} (h : F_impl_WorkingSet t i span k) : S_impl_WorkingSet t i span k := by
  obtain ⟨hyes, hno⟩ := h
  intro b hb
  refine br_not.2 (br_iff.2 ⟨fun e => ?_, fun e => hno fun w => by rw [hb.2 w.1] at e; cases e⟩)
  have v := hb.1 e
  have hl := v.1
  refine br_not.2 (br_dec.2 ⟨fun hi => br_dec.2 ⟨fun h => hno fun w => by omega, fun h1 => br_dec.2 ⟨fun h => hno fun w => by omega, fun h2 => ?_⟩⟩, fun hi => hno fun w => hi w.2.1⟩)
  have hk := hyes ⟨v, hi, by omega, by omega⟩
  have e : (if i - span < 0 then (0 : Int) else i - span) = ((i - span).toNat : Int) := by split <;> omega
  rw [e, Int.toNat_natCast, drop_take']
  exact ⟨inR (by omega) (by omega), ⟨by omega, by omega, by omega⟩, yes (vtrace_drop (vtrace_take v _) _) hk⟩
-- laws.eqIntS
def T0_laws_eqIntS (a0 : List Int) (b1 : List Int) (xi5 : Int) (k : Bool → Prop) (B0 : Int → Prop) : Prop :=
  br (decide (xi5 < (a0.length : Int)))
  ((0 ≤ xi5 ∧ xi5 < (a0.length : Int)) ∧
    (0 ≤ xi5 ∧ xi5 < (b1.length : Int)) ∧
    br ((List.getD a0 (Int.toNat xi5) (0 : Int)) != (List.getD b1 (Int.toNat xi5) (0 : Int)))
    (k false)
    (InR (xi5 + 1) ∧
      B0 (xi5 + 1)))
  (k true)
def L0_laws_eqIntS (a0 : List Int) (b1 : List Int) (k : Bool → Prop) : Nat → Int → Prop
  | 0, _ => False
  | n + 1, xi5 => T0_laws_eqIntS a0 b1 xi5 k (L0_laws_eqIntS a0 b1 k n)
def G_laws_eqIntS (a0 : List Int) (b1 : List Int) (k : Bool → Prop) (I0 : List Int → List Int → Int → Prop) : Prop :=
  br ((a0.length : Int) != (b1.length : Int))
  (k false)
  (I0 a0 b1 0)
def S_laws_eqIntS (a0 : List Int) (b1 : List Int) (k : Bool → Prop) : Prop := G_laws_eqIntS a0 b1 k (fun a0 b1 xi5 => ∃ j, L0_laws_eqIntS a0 b1 k j xi5)
def F_laws_eqIntS (a b : List Int) (k : Bool → Prop) : Prop := a.length ≤ 1000000000 ∧ k (decide (a = b))
theorem F_laws_eqIntS_S {a b : List Int} {k : Bool → Prop} (h : F_laws_eqIntS a b k) : S_laws_eqIntS a b k := by
  obtain ⟨hl, hk⟩ := h
  refine br_bne.2 ⟨fun he => by rwa [decide_eq_false (fun e => he (by rw [e]))] at hk, fun he => ?_⟩
  have he : a.length = b.length := by omega
  have key : ∀ (r : List Int) (i : Nat), a.drop i = r → (r = b.drop i ↔ a = b) → L0_laws_eqIntS a b k (r.length + 1) (i : Int) := by
    intro r
    induction r with
    | nil =>
      intro i hd hi
      have := drop_nil' hd
      rw [L0_laws_eqIntS, T0_laws_eqIntS]
      simp only [br_dec]
      exact ⟨fun h => by omega, fun _ => by rwa [decide_eq_true (hi.1 (List.drop_eq_nil_of_le (by omega)).symm)] at hk⟩
    | cons x r ih =>
      intro i hd hi
      obtain ⟨h1, h2, _, h3, _⟩ := drop_cons' hd
      obtain ⟨y, s, hs⟩ : ∃ y s, b.drop i = y :: s := by
        cases e : b.drop i with
        | nil => have := drop_nil' e; omega
        | cons y s => exact ⟨y, s, rfl⟩
      obtain ⟨g1, g2, _, g3, _⟩ := drop_cons' hs
      rw [List.length_cons, L0_laws_eqIntS, T0_laws_eqIntS]
      simp only [br_dec, br_bne, Int.toNat_natCast, h2, g2]
      rw [hs] at hi
      refine ⟨fun _ => ⟨⟨by omega, by omega⟩, ⟨by omega, by omega⟩, ?_⟩, fun h => by omega⟩
      have go : x = y → L0_laws_eqIntS a b k (r.length + 1) ((i : Int) + 1) := fun hx => ih (i + 1) h3 (by rw [g3, ← hi, hx]; simp)
      have no : x ≠ y → k false := fun hx => by rwa [decide_eq_false (fun e => hx (List.cons.inj (hi.2 e)).1)] at hk
      exact ⟨no, fun hx => ⟨inR (by omega) (by omega), go hx⟩⟩
  exact ⟨_, key a 0 rfl (by simp)⟩
-- laws.FnExactWorkingSet
def G_laws_FnExactWorkingSet (aT0 : List Int) (aAt1 : Int) (aSpan2 : Int) (k : Bool → Prop) : Prop :=
  br (decide ((aT0.length : Int) > 1048576))
  (k true)
  (F_laws_toIntS aT0 fun toIntS14 =>
    F_spec_WorkingSet toIntS14 aAt1 aSpan2 fun workingSet17 =>
    F_laws_toIntS aT0 fun toIntS19 =>
    F_impl_WorkingSet toIntS19 aAt1 aSpan2 fun workingSet23 =>
    br (workingSet23 != workingSet17)
    (k false)
    (F_laws_toIntS aT0 fun toIntS29 =>
      F_laws_eqIntS toIntS19 toIntS29 fun eqIntS30 =>
      br (!eqIntS30)
      (k false)
      (k true)))
def S_laws_FnExactWorkingSet (aT0 : List Int) (aAt1 : Int) (aSpan2 : Int) (k : Bool → Prop) : Prop := G_laws_FnExactWorkingSet aT0 aAt1 aSpan2 k
abbrev F_laws_FnExactWorkingSet (aT0 : List Int) (aAt1 : Int) (aSpan2 : Int) (k : Bool → Prop) : Prop := S_laws_FnExactWorkingSet aT0 aAt1 aSpan2 k
theorem F_laws_FnExactWorkingSet_S {aT0 : List Int} {aAt1 : Int} {aSpan2 : Int} {k : Bool → Prop} (h : F_laws_FnExactWorkingSet aT0 aAt1 aSpan2 k) : S_laws_FnExactWorkingSet aT0 aAt1 aSpan2 k := h
theorem law_FnExactWorkingSet (t : List Int) (lt : t.length ≤ maxLen) (rt : ∀ x ∈ t, InR x) (at_ : Int) (rat_ : InR at_) (span : Int) (rspan : InR span) :
    F_laws_FnExactWorkingSet t at_ span (fun r => r = true) := by
  refine br_dec.2 ⟨fun _ => rfl, fun t0 => ?_⟩
  have mt : t.length ≤ 1000000000 := by omega
  by_cases v : VTrace t ∧ (0 ≤ at_ ∧ at_ ≤ t.length) ∧ 1 ≤ span ∧ span ≤ 24
  · exact ⟨mt, ⟨fun _ => ⟨mt, ⟨fun _ => br_same' (⟨mt, mt, br_de (rfl)⟩), fun h => absurd v h⟩⟩, fun h => absurd v h⟩⟩
  · exact ⟨mt, ⟨fun h => absurd h v, fun _ => ⟨mt, ⟨fun h => absurd h v, fun _ => br_same' (⟨mt, mt, br_de (rfl)⟩)⟩⟩⟩⟩
end Go.Ev
