/- What the functions that the law reaches do, written as plain Lean. No statement is proved here. -/
import Derived.Test.YtlobdkcjlpifjacFnNewKeysPartsP0
namespace Go.Ev
set_option linter.unusedVariables false
open Go
def F_spec_validTrace (t : List Int) (k : Bool → Prop) : Prop := ∀ b : Bool, (b = true ↔ VTrace t) → k b
theorem F_spec_validTrace_S {t : List Int} {k : Bool → Prop} (h : F_spec_validTrace t k) : S_spec_validTrace t k :=
  br_dec.2 ⟨fun h1 => ⟨by omega, h _ (by simp only [decide_eq_true_eq]; exact ⟨fun h2 => ⟨by omega, h2⟩, fun v => v.2⟩)⟩, fun h1 => h false (by simp only [Bool.false_eq_true, false_iff]; exact fun v => h1 (by have := v.1; omega))⟩
-- spec.placeOf
def T0_spec_placeOf (list0 : List Int) (n1 : Int) (xi5 : Int) (k : Int → Prop) (B0 : Int → Prop) : Prop :=
  br (decide (xi5 < (list0.length : Int)))
  ((0 ≤ xi5 ∧ xi5 < (list0.length : Int)) ∧
    br ((List.getD list0 (Int.toNat xi5) (0 : Int)) == n1)
    (k xi5)
    (InR (xi5 + 1) ∧
      B0 (xi5 + 1)))
  (k (-1))
def L0_spec_placeOf (list0 : List Int) (n1 : Int) (k : Int → Prop) : Nat → Int → Prop
  | 0, _ => False
  | n + 1, xi5 => T0_spec_placeOf list0 n1 xi5 k (L0_spec_placeOf list0 n1 k n)
def G_spec_placeOf (list0 : List Int) (n1 : Int) (I0 : List Int → Int → Int → Prop) : Prop :=
  I0 list0 n1 0
def S_spec_placeOf (list0 : List Int) (n1 : Int) (k : Int → Prop) : Prop := G_spec_placeOf list0 n1 (fun list0 n1 xi5 => ∃ j, L0_spec_placeOf list0 n1 k j xi5)
def F_spec_placeOf (l : List Int) (n : Int) (k : Int → Prop) : Prop := l.length ≤ 1000000000 ∧ k (plc l n)
theorem F_spec_placeOf_S {l : List Int} {n : Int} {k : Int → Prop} (h : F_spec_placeOf l n k) : S_spec_placeOf l n k := by
  obtain ⟨hl, hk⟩ := h
  have key : ∀ (r : List Int) (i : Nat), l.drop i = r → plcF r n i = plc l n → L0_spec_placeOf l n k (r.length + 1) (i : Int) := by
    intro r
    induction r with
    | nil =>
      intro i hd he
      have := drop_nil' hd
      rw [L0_spec_placeOf, T0_spec_placeOf]
      simp only [br_dec]
      exact ⟨fun h => by omega, fun _ => by rw [show (-1 : Int) = plc l n from he]; exact hk⟩
    | cons x r ih =>
      intro i hd he
      obtain ⟨h1, h2, _, h3, _⟩ := drop_cons' hd
      rw [List.length_cons, L0_spec_placeOf, T0_spec_placeOf]
      simp only [br_dec, br_beq, Int.toNat_natCast, h2]
      refine ⟨fun _ => ⟨⟨by omega, by omega⟩, fun hx => ?_, fun hx => ⟨inR (by omega) (by omega), ?_⟩⟩, fun h => by omega⟩
      · simp only [plcF, if_pos hx] at he; rw [he]; exact hk
      · simp only [plcF, if_neg hx] at he; exact ih (i + 1) h3 he
  exact ⟨_, key l 0 rfl rfl⟩
-- spec.toInt
def G_spec_toInt (b0 : Bool) (k : Int → Prop) : Prop :=
  br b0
  (k 1)
  (k 0)
def S_spec_toInt (b0 : Bool) (k : Int → Prop) : Prop := G_spec_toInt b0 k
def F_spec_toInt (b : Bool) (k : Int → Prop) : Prop := k (toI b)
theorem F_spec_toInt_S {b : Bool} {k : Int → Prop} (h : F_spec_toInt b k) : S_spec_toInt b k := by
  cases b <;> exact h
-- spec.NewKeys
def T0_spec_NewKeys (t0 : List Int) (xn3 : Int) (xi4 : Int) (k : Int → Prop) (B0 : Int → Int → Prop) : Prop :=
  br (decide (xi4 < (t0.length : Int)))
  ((0 ≤ xi4 ∧ xi4 < (t0.length : Int)) ∧
    F_spec_placeOf t0 (List.getD t0 (Int.toNat xi4) (0 : Int)) fun placeOf20 =>
    F_spec_toInt (placeOf20 == xi4) fun toInt23 =>
    InR (xn3 + toInt23) ∧
    InR (xi4 + 1) ∧
    B0 (xn3 + toInt23) (xi4 + 1))
  (k xn3)
def L0_spec_NewKeys (t0 : List Int) (k : Int → Prop) : Nat → Int → Int → Prop
  | 0, _, _ => False
  | n + 1, xn3, xi4 => T0_spec_NewKeys t0 xn3 xi4 k (L0_spec_NewKeys t0 k n)
def G_spec_NewKeys (t0 : List Int) (k : Int → Prop) (I0 : List Int → Int → Int → Prop) : Prop :=
  F_spec_validTrace t0 fun validTrace6 =>
  br (!validTrace6)
  (k (-1))
  (I0 t0 0 0)
def S_spec_NewKeys (t0 : List Int) (k : Int → Prop) : Prop := G_spec_NewKeys t0 k (fun t0 xn3 xi4 => ∃ j, L0_spec_NewKeys t0 k j xn3 xi4)
def F_spec_NewKeys (t : List Int) (k : Int → Prop) : Prop := (VTrace t → k (nk t : Int)) ∧ (¬ (VTrace t) → k (-1))
theorem F_spec_NewKeys_S {t : List Int} {k : Int → Prop} (h : F_spec_NewKeys t k) : S_spec_NewKeys t k := by
  obtain ⟨hyes, hno⟩ := h
  intro b hb
  refine br_not.2 (br_iff.2 ⟨fun e => ?_, fun e => hno fun w => by rw [hb.2 w] at e; cases e⟩)
  have v := hb.1 e
  have hk := hyes v
  have hl := v.1
  have go : ∀ (m i : Nat), i + m = t.length → L0_spec_NewKeys t k (m + 1) (nk (t.take i) : Int) (i : Int) := by
    intro m
    induction m with
    | zero =>
      intro i hi
      rw [L0_spec_NewKeys, T0_spec_NewKeys, List.take_of_length_le (by omega)]
      exact br_dec.2 ⟨fun h => by omega, fun _ => hk⟩
    | succ m ih =>
      intro i hi
      have := nk_le (t.take i)
      rw [List.length_take] at this
      have h1 := toI_01 (plc t (t.getD i 0) == (i : Int))
      have next := ih (i + 1) (by omega)
      rw [nk_take (by omega)] at next
      rw [L0_spec_NewKeys, T0_spec_NewKeys]
      simp only [Int.toNat_natCast]
      exact br_dec.2 ⟨fun _ => ⟨⟨by omega, by omega⟩, by omega, inR (by omega) (by omega), inR (by omega) (by omega), next⟩, fun h => by omega⟩
  exact ⟨_, go t.length 0 (by omega)⟩
-- laws.FnNewKeysParts
def G_laws_FnNewKeysParts (code0 : List Int) (k : Bool → Prop) : Prop :=
  br (decide ((code0.length : Int) > 1048576))
  (k true)
  (F_spec_DrawNewKeys code0 fun drawNewKeys12 =>
    F_impl_NewKeys drawNewKeys12 fun newKeys14 =>
    F_spec_NewKeys drawNewKeys12 fun newKeys17 =>
    br (newKeys14 != newKeys17)
    (F_spec_NewKeys drawNewKeys12 fun newKeys25 =>
      k (newKeys14 == newKeys25))
    (br (decide (newKeys14 < 0))
      (F_spec_NewKeys drawNewKeys12 fun newKeys25 =>
        k (newKeys14 == newKeys25))
      (((2 : Int) ≠ 0 ∧ InR (Int.tdiv (drawNewKeys12.length : Int) 2)) ∧
        (0 ≤ (Int.tdiv (drawNewKeys12.length : Int) 2) ∧ (Int.tdiv (drawNewKeys12.length : Int) 2) ≤ (drawNewKeys12.length : Int)) ∧
        F_impl_NewKeys (List.take (Int.toNat (Int.tdiv (drawNewKeys12.length : Int) 2)) (List.drop 0 drawNewKeys12)) fun newKeys33 =>
        (0 ≤ (Int.tdiv (drawNewKeys12.length : Int) 2) ∧ (Int.tdiv (drawNewKeys12.length : Int) 2) ≤ (drawNewKeys12.length : Int)) ∧
        F_impl_NewKeys (List.take (drawNewKeys12.length - (Int.toNat (Int.tdiv (drawNewKeys12.length : Int) 2))) (List.drop (Int.toNat (Int.tdiv (drawNewKeys12.length : Int) 2)) drawNewKeys12)) fun newKeys37 =>
        InR (newKeys33 + newKeys37) ∧
        br (decide (newKeys14 ≤ (newKeys33 + newKeys37)))
        (br (decide (newKeys14 ≥ newKeys33))
          (k (decide (newKeys14 ≥ newKeys37)))
          (k false))
        (k false))))
def S_laws_FnNewKeysParts (code0 : List Int) (k : Bool → Prop) : Prop := G_laws_FnNewKeysParts code0 k
abbrev F_laws_FnNewKeysParts (code0 : List Int) (k : Bool → Prop) : Prop := S_laws_FnNewKeysParts code0 k
theorem F_laws_FnNewKeysParts_S {code0 : List Int} {k : Bool → Prop} (h : F_laws_FnNewKeysParts code0 k) : S_laws_FnNewKeysParts code0 k := h
theorem law_FnNewKeysParts (code : List Int) (hb : ∀ x ∈ code, 0 ≤ x ∧ x ≤ 255) : F_laws_FnNewKeysParts code (fun r => r = true) := by
  refine br_dec.2 ⟨fun _ => rfl, fun hlen => ⟨hb, fun t l1 => ?_⟩⟩
  by_cases v : VTrace t
  · have hl := v.1
    have e : Int.tdiv (t.length : Int) 2 = ((t.length / 2 : Nat) : Int) := rfl
    refine yes v (yes v (br_same' (br_nd (by omega) ?_)))
    rw [e, Int.toNat_natCast, List.drop_zero, List.take_of_length_le (l := t.drop (t.length / 2)) (by rw [List.length_drop]; omega)]
    have h1 := nk_append (t.take (t.length / 2)) (t.drop (t.length / 2))
    rw [List.take_append_drop] at h1
    have h2 : nk (t.take (t.length / 2)) ≤ nk t := nk_sub fun x hx => List.mem_of_mem_take hx
    have h3 : nk (t.drop (t.length / 2)) ≤ nk t := nk_sub fun x hx => List.mem_of_mem_drop hx
    have h4 := nk_le t
    exact ⟨⟨by omega, inR (by omega) (by omega)⟩, ⟨by omega, by omega⟩, yes (vtrace_take v _) ⟨⟨by omega, by omega⟩, yes (vtrace_drop v _) ⟨inR (by omega) (by omega), br_yd (by omega) (br_yd (by omega) (decide_eq_true (by omega)))⟩⟩⟩
  · exact nay v (nay v (br_same' (br_yd (by omega) (nay v rfl))))
end Go.Ev
