/- What the functions that the law reaches do, written as plain Lean. No statement is proved here. -/
import Derived.Test.YtlobdkcjlpifjaaFnNewKeysP0
namespace Go.Ev
set_option linter.unusedVariables false
open Go
def F_spec_validTrace (t : List Int) (k : Bool → Prop) : Prop := ∀ b : Bool, (b = true ↔ VTrace t) → k b
theorem F_spec_validTrace_S {t : List Int} {k : Bool → Prop} (h : F_spec_validTrace t k) : S_spec_validTrace t k :=
  br_dec.2 ⟨fun h1 => ⟨by omega, h _ (by simp only [decide_eq_true_eq]; exact ⟨fun h2 => ⟨by omega, h2⟩, fun v => v.2⟩)⟩, fun h1 => h false (by simp only [Bool.false_eq_true, false_iff]; exact fun v => h1 (by have := v.1; omega))⟩
-- spec.placeOf
def T0_spec_placeOf (list0 : List Int) (n1 : Int) (xi5 : Int) (k : Int → Prop) (B0 : Int → Prop) : Prop :=
  br (decide (xi5 < (list0.length : Int)))
  ((0 ≤ xi5 ∧ xi5 < (list0.length : Int)) ∧
    br ((List.getD list0 (Int.toNat xi5) (0 : Int)) == n1)
    (k xi5)
    (InR (xi5 + 1) ∧
      B0 (xi5 + 1)))
  (k (-1))
def L0_spec_placeOf (list0 : List Int) (n1 : Int) (k : Int → Prop) : Nat → Int → Prop
  | 0, _ => False
  | n + 1, xi5 => T0_spec_placeOf list0 n1 xi5 k (L0_spec_placeOf list0 n1 k n)
def G_spec_placeOf (list0 : List Int) (n1 : Int) (I0 : List Int → Int → Int → Prop) : Prop :=
  I0 list0 n1 0
def S_spec_placeOf (list0 : List Int) (n1 : Int) (k : Int → Prop) : Prop := G_spec_placeOf list0 n1 (fun list0 n1 xi5 => ∃ j, L0_spec_placeOf list0 n1 k j xi5)
def F_spec_placeOf (l : List Int) (n : Int) (k : Int → Prop) : Prop := l.length ≤ 1000000000 ∧ k (plc l n)
theorem F_spec_placeOf_S {l : List Int} {n : Int} {k : Int → Prop} (h : F_spec_placeOf l n k) : S_spec_placeOf l n k := by
  obtain ⟨hl, hk⟩ := h
  have key : ∀ (r : List Int) (i : Nat), l.drop i = r → plcF r n i = plc l n → L0_spec_placeOf l n k (r.length + 1) (i : Int) := by
    intro r
    induction r with
    | nil =>
      intro i hd he
      have := drop_nil' hd
      rw [L0_spec_placeOf, T0_spec_placeOf]
      simp only [br_dec]
      exact ⟨fun h => by omega, fun _ => by rw [show (-1 : Int) = plc l n from he]; exact hk⟩
    | cons x r ih =>
      intro i hd he
      obtain ⟨h1, h2, _, h3, _⟩ := drop_cons' hd
      rw [List.length_cons, L0_spec_placeOf, T0_spec_placeOf]
      simp only [br_dec, br_beq, Int.toNat_natCast, h2]
      refine ⟨fun _ => ⟨⟨by omega, by omega⟩, fun hx => ?_, fun hx => ⟨inR (by omega) (by omega), ?_⟩⟩, fun h => by omega⟩
      · simp only [plcF, if_pos hx] at he; rw [he]; exact hk
      · simp only [plcF, if_neg hx] at he; exact ih (i + 1) h3 he
  exact ⟨_, key l 0 rfl rfl⟩
-- spec.toInt
def G_spec_toInt (b0 : Bool) (k : Int → Prop) : Prop :=
  br b0
  (k 1)
  (k 0)
def S_spec_toInt (b0 : Bool) (k : Int → Prop) : Prop := G_spec_toInt b0 k
def F_spec_toInt (b : Bool) (k : Int → Prop) : Prop := k (toI b)
theorem F_spec_toInt_S {b : Bool} {k : Int → Prop} (h : F_spec_toInt b k) : S_spec_toInt b k := by
  cases b <;> exact h
-- spec.NewKeys
def T0_spec_NewKeys (t0 : List Int) (xn3 : Int) (xi4 : Int) (k : Int → Prop) (B0 : Int → Int → Prop) : Prop :=
  br (decide (xi4 < (t0.length : Int)))
  ((0 ≤ xi4 ∧ xi4 < (t0.length : Int)) ∧
    F_spec_placeOf t0 (List.getD t0 (Int.toNat xi4) (0 : Int)) fun placeOf20 =>
    F_spec_toInt (placeOf20 == xi4) fun toInt23 =>
    InR (xn3 + toInt23) ∧
    InR (xi4 + 1) ∧
    B0 (xn3 + toInt23) (xi4 + 1))
  (k xn3)
def L0_spec_NewKeys (t0 : List Int) (k : Int → Prop) : Nat → Int → Int → Prop
  | 0, _, _ => False
  | n + 1, xn3, xi4 => T0_spec_NewKeys t0 xn3 xi4 k (L0_spec_NewKeys t0 k n)
def G_spec_NewKeys (t0 : List Int) (k : Int → Prop) (I0 : List Int → Int → Int → Prop) : Prop :=
  F_spec_validTrace t0 fun validTrace6 =>
  br (!validTrace6)
  (k (-1))
  (I0 t0 0 0)
def S_spec_NewKeys (t0 : List Int) (k : Int → Prop) : Prop := G_spec_NewKeys t0 k (fun t0 xn3 xi4 => ∃ j, L0_spec_NewKeys t0 k j xn3 xi4)
def F_spec_NewKeys (t : List Int) (k : Int → Prop) : Prop := (VTrace t → k (nk t : Int)) ∧ (¬ (VTrace t) → k (-1))
theorem F_spec_NewKeys_S {t : List Int} {k : Int → Prop} (h : F_spec_NewKeys t k) : S_spec_NewKeys t k := by
  obtain ⟨hyes, hno⟩ := h
  intro b hb
  refine br_not.2 (br_iff.2 ⟨fun e => ?_, fun e => hno fun w => by rw [hb.2 w] at e; cases e⟩)
  have v := hb.1 e
  have hk := hyes v
  have hl := v.1
  have go : ∀ (m i : Nat), i + m = t.length → L0_spec_NewKeys t k (m + 1) (nk (t.take i) : Int) (i : Int) := by
    intro m
    induction m with
    | zero =>
      intro i hi
      rw [L0_spec_NewKeys, T0_spec_NewKeys, List.take_of_length_le (by omega)]
      exact br_dec.2 ⟨fun h => by omega, fun _ => hk⟩
    | succ m ih =>
      intro i hi
      have := nk_le (t.take i)
      rw [List.length_take] at this
      have h1 := toI_01 (plc t (t.getD i 0) == (i : Int))
      have next := ih (i + 1) (by omega)
      rw [nk_take (by omega)] at next
      rw [L0_spec_NewKeys, T0_spec_NewKeys]
      simp only [Int.toNat_natCast]
      exact br_dec.2 ⟨fun _ => ⟨⟨by omega, by omega⟩, by omega, inR (by omega) (by omega), inR (by omega) (by omega), next⟩, fun h => by omega⟩
  exact ⟨_, go t.length 0 (by omega)⟩
-- laws.isIn
def T0_laws_isIn (list0 : List Int) (n1 : Int) (xi5 : Int) (k : Bool → Prop) (B0 : Int → Prop) : Prop :=
  br (decide (xi5 < (list0.length : Int)))
  ((0 ≤ xi5 ∧ xi5 < (list0.length : Int)) ∧
    br ((List.getD list0 (Int.toNat xi5) (0 : Int)) == n1)
    (k true)
    (InR (xi5 + 1) ∧
      B0 (xi5 + 1)))
  (k false)
def L0_laws_isIn (list0 : List Int) (n1 : Int) (k : Bool → Prop) : Nat → Int → Prop
  | 0, _ => False
  | n + 1, xi5 => T0_laws_isIn list0 n1 xi5 k (L0_laws_isIn list0 n1 k n)
def G_laws_isIn (list0 : List Int) (n1 : Int) (I0 : List Int → Int → Int → Prop) : Prop :=
  I0 list0 n1 0
def S_laws_isIn (list0 : List Int) (n1 : Int) (k : Bool → Prop) : Prop := G_laws_isIn list0 n1 (fun list0 n1 xi5 => ∃ j, L0_laws_isIn list0 n1 k j xi5)
def F_laws_isIn (l : List Int) (n : Int) (k : Bool → Prop) : Prop := l.length ≤ 1000000000 ∧ k (decide (n ∈ l))
theorem F_laws_isIn_S {l : List Int} {n : Int} {k : Bool → Prop} (h : F_laws_isIn l n k) : S_laws_isIn l n k := by
  obtain ⟨hl, hk⟩ := h
  have key : ∀ (r : List Int) (i : Nat), l.drop i = r → (n ∈ r ↔ n ∈ l) → L0_laws_isIn l n k (r.length + 1) (i : Int) := by
    intro r
    induction r with
    | nil =>
      intro i hd he
      have := drop_nil' hd
      rw [L0_laws_isIn, T0_laws_isIn]
      simp only [br_dec]
      exact ⟨fun h => by omega, fun _ => by rwa [decide_eq_false (fun h => absurd (he.2 h) (by simp))] at hk⟩
    | cons x r ih =>
      intro i hd he
      obtain ⟨h1, h2, h5, h3, _⟩ := drop_cons' hd
      rw [List.length_cons, L0_laws_isIn, T0_laws_isIn]
      simp only [br_dec, br_beq, Int.toNat_natCast, h2]
      refine ⟨fun _ => ⟨⟨by omega, by omega⟩, fun hx => ?_, fun hx => ⟨inR (by omega) (by omega), ih (i + 1) h3 (Iff.trans ?_ he)⟩⟩, fun h => by omega⟩
      · rwa [decide_eq_true (he.1 (by simp [hx]))] at hk
      · simp [Ne.symm hx]
  exact ⟨_, key l 0 rfl Iff.rfl⟩
-- laws.FnNewKeys
def T0_laws_FnNewKeys (drawNewKeys11 : List Int) (newKeys13 : Int) (newKeys44 : Int) (xfresh6 : Int) (k : Bool → Prop) (B0 : Int → Prop) : Prop :=
  F_laws_isIn drawNewKeys11 xfresh6 fun isIn47 =>
  br isIn47
  (InR (xfresh6 + 1) ∧
    B0 (xfresh6 + 1))
  (br (newKeys44 == newKeys13)
    (br (decide (newKeys13 ≤ (drawNewKeys11.length : Int)))
      ((0 + drawNewKeys11.length ≤ 1000000000) ∧
        (drawNewKeys11.length + 1 ≤ 1000000000) ∧
        F_impl_NewKeys (drawNewKeys11 ++ ([xfresh6] : List Int)) fun newKeys66 =>
        InR (newKeys13 + 1) ∧
        k (newKeys66 == (newKeys13 + 1)))
      (k false))
    (k false))
def L0_laws_FnNewKeys (drawNewKeys11 : List Int) (newKeys13 : Int) (newKeys44 : Int) (k : Bool → Prop) : Nat → Int → Prop
  | 0, _ => False
  | n + 1, xfresh6 => T0_laws_FnNewKeys drawNewKeys11 newKeys13 newKeys44 xfresh6 k (L0_laws_FnNewKeys drawNewKeys11 newKeys13 newKeys44 k n)
def G_laws_FnNewKeys_j0 (drawNewKeys11 : List Int) (newKeys13 : Int) (I0 : List Int → Int → Int → Int → Prop) : Prop :=
  ((drawNewKeys11.length + 1 ≤ 1000000000) ∧
    (F_impl_NewKeys (drawNewKeys11 ++ ([(List.getD drawNewKeys11 0 (0 : Int))] : List Int)) fun newKeys44 =>
      I0 drawNewKeys11 newKeys13 newKeys44 0) ∧
    (True)) ∧
  (True)
def G_laws_FnNewKeys_j1 (drawNewKeys11 : List Int) (newKeys13 : Int) (I0 : List Int → Int → Int → Int → Prop) : Prop :=
  (((0 + drawNewKeys11.length ≤ 1000000000) ∧
      G_laws_FnNewKeys_j0 drawNewKeys11 newKeys13 I0) ∧
    (True)) ∧
  (True)
def G_laws_FnNewKeys (code0 : List Int) (k : Bool → Prop) (I0 : List Int → Int → Int → Int → Prop) : Prop :=
  br (decide ((code0.length : Int) > 1048576))
  (k true)
  (F_spec_DrawNewKeys code0 fun drawNewKeys11 =>
    F_impl_NewKeys drawNewKeys11 fun newKeys13 =>
    F_spec_NewKeys drawNewKeys11 fun newKeys16 =>
    br (newKeys13 != newKeys16)
    (F_spec_NewKeys drawNewKeys11 fun newKeys34 =>
      k (newKeys13 == newKeys34))
    (br (decide (newKeys13 < 0))
      (F_spec_NewKeys drawNewKeys11 fun newKeys34 =>
        k (newKeys13 == newKeys34))
      (br ((drawNewKeys11.length : Int) == 0)
        (F_spec_NewKeys drawNewKeys11 fun newKeys34 =>
          k (newKeys13 == newKeys34))
        (br ((drawNewKeys11.length : Int) == 24)
          (F_spec_NewKeys drawNewKeys11 fun newKeys34 =>
            k (newKeys13 == newKeys34))
          ((0 ≤ (0 : Int) ∧ 0 < (drawNewKeys11.length : Int)) ∧
            (((0 + drawNewKeys11.length ≤ 1000000000) ∧
                (G_laws_FnNewKeys_j0 drawNewKeys11 newKeys13 I0) ∧
                (True)) ∧
              (G_laws_FnNewKeys_j1 drawNewKeys11 newKeys13 I0)) ∧
            ((G_laws_FnNewKeys_j1 drawNewKeys11 newKeys13 I0) ∧
              (True)))))))
def H_laws_FnNewKeys (code0 : List Int) (k : Bool → Prop) (I0 : List Int → Int → Int → Int → Prop) : Prop :=
  br (decide ((code0.length : Int) > 1048576))
  (k true)
  (F_spec_DrawNewKeys code0 fun drawNewKeys11 =>
    F_impl_NewKeys drawNewKeys11 fun newKeys13 =>
    F_spec_NewKeys drawNewKeys11 fun newKeys16 =>
    br (newKeys13 != newKeys16)
    (F_spec_NewKeys drawNewKeys11 fun newKeys34 =>
      k (newKeys13 == newKeys34))
    (br (decide (newKeys13 < 0))
      (F_spec_NewKeys drawNewKeys11 fun newKeys34 =>
        k (newKeys13 == newKeys34))
      (br ((drawNewKeys11.length : Int) == 0)
        (F_spec_NewKeys drawNewKeys11 fun newKeys34 =>
          k (newKeys13 == newKeys34))
        (br ((drawNewKeys11.length : Int) == 24)
          (F_spec_NewKeys drawNewKeys11 fun newKeys34 =>
            k (newKeys13 == newKeys34))
          ((0 ≤ (0 : Int) ∧ 0 < (drawNewKeys11.length : Int)) ∧
            (0 + drawNewKeys11.length ≤ 1000000000) ∧
            (drawNewKeys11.length + 1 ≤ 1000000000) ∧
            F_impl_NewKeys (drawNewKeys11 ++ ([(List.getD drawNewKeys11 0 (0 : Int))] : List Int)) fun newKeys44 =>
            I0 drawNewKeys11 newKeys13 newKeys44 0)))))
theorem G_laws_FnNewKeys_eq (code0 : List Int) (k : Bool → Prop) (I0 : List Int → Int → Int → Int → Prop) : G_laws_FnNewKeys code0 k I0 = H_laws_FnNewKeys code0 k I0 := by
  simp only [G_laws_FnNewKeys, H_laws_FnNewKeys, G_laws_FnNewKeys_j0, G_laws_FnNewKeys_j1, and_self, and_true]
def S_laws_FnNewKeys (code0 : List Int) (k : Bool → Prop) : Prop := H_laws_FnNewKeys code0 k (fun drawNewKeys11 newKeys13 newKeys44 xfresh6 => ∃ j, L0_laws_FnNewKeys drawNewKeys11 newKeys13 newKeys44 k j xfresh6)
abbrev F_laws_FnNewKeys (code0 : List Int) (k : Bool → Prop) : Prop := S_laws_FnNewKeys code0 k
theorem F_laws_FnNewKeys_S {code0 : List Int} {k : Bool → Prop} (h : F_laws_FnNewKeys code0 k) : S_laws_FnNewKeys code0 k := h
theorem law_FnNewKeys (code : List Int) (hb : ∀ x ∈ code, 0 ≤ x ∧ x ≤ 255) : F_laws_FnNewKeys code (fun r => r = true) := by
  refine br_dec.2 ⟨fun _ => rfl, fun hlen => ⟨hb, fun t l1 => ?_⟩⟩
  by_cases v : VTrace t
  · have hl := v.1
    refine yes v (yes v (br_same' (br_nd (by omega) (br_beq.2 ⟨fun _ => yes v (beq_t rfl), fun h0 => br_beq.2 ⟨fun _ => yes v (beq_t rfl), fun h24 => ?_⟩⟩))))
    have hm : t.getD 0 0 ∈ t := mem_getD (by omega)
    have vs : ∀ x, 0 ≤ x ∧ x ≤ 31 → VTrace (t ++ [x]) := fun x hx => ⟨by simp; omega, fun y hy => by
      rcases List.mem_append.1 hy with h | h
      · exact v.2 y h
      · rw [List.mem_singleton.1 h]; exact hx⟩
    refine ⟨⟨by omega, by omega⟩, by omega, by omega, yes (vs _ (v.2 _ hm)) ?_⟩
    rw [nk_snoc, if_pos hm]
    have hk := nk_le t
    have go : ∀ (m i : Nat), i + m = 25 → (∀ j : Nat, j < i → (j : Int) ∈ t) → L0_laws_FnNewKeys t (nk t : Int) (nk t : Int) (fun r => r = true) (m + 1) (i : Int) := by
      intro m
      induction m with
      | zero =>
        intro i hi hall
        exfalso
        have : ((List.range i).map (fun (j : Nat) => (j : Int))).length ≤ t.length := nodup_le (List.Pairwise.map _ (fun a b h => by omega) List.nodup_range) fun x hx => by
          obtain ⟨j, hj, e⟩ := List.mem_map.1 hx
          rw [← e]; exact hall j (List.mem_range.1 hj)
        rw [List.length_map, List.length_range] at this
        omega
      | succ m ih =>
        intro i hi hall
        rw [L0_laws_FnNewKeys, T0_laws_FnNewKeys]
        refine ⟨by omega, br_dec.2 ⟨fun hin => ⟨inR (by omega) (by omega), ih (i + 1) (by omega) fun j hj => ?_⟩, fun hin => ?_⟩⟩
        · by_cases e : j = i
          · rw [e]; exact hin
          · exact hall j (by omega)
        · refine br_ye rfl (br_yd (by omega) ⟨by omega, by omega, yes (vs _ (by omega)) ⟨inR (by omega) (by omega), beq_t ?_⟩⟩)
          rw [nk_snoc, if_neg hin]; omega
    exact ⟨_, go 25 0 rfl fun j hj => by omega⟩
  · exact nay v (nay v (br_same' (br_yd (by omega) (nay v rfl))))
end Go.Ev
