/- What the functions that the law reaches do, written as plain Lean. No statement is proved here. -/
import Derived.Test.YtlobdkcjlpifjaaFnReuseDistancesOneP0
namespace Go.Ev
set_option linter.unusedVariables false
open Go
def S_spec_inRange (n0 : Int) (low1 : Int) (high2 : Int) (k : Bool → Prop) : Prop := G_spec_inRange n0 low1 high2 k
def F_spec_inRange (n low high : Int) (k : Bool → Prop) : Prop := k (decide (low ≤ n ∧ n ≤ high))
theorem F_spec_inRange_S {n low high : Int} {k : Bool → Prop} (h : F_spec_inRange n low high k) : S_spec_inRange n low high k := by
  unfold F_spec_inRange at h
  simp only [S_spec_inRange, G_spec_inRange, br_dec]
  refine ⟨fun h1 => ?_, fun h1 => ?_⟩
  · simpa [h1] using h
  · simpa [h1] using h
-- spec.allIn
def T0_spec_allIn (high2 : Int) (list0 : List Int) (low1 : Int) (xi7 : Int) (k : Bool → Prop) (B0 : Int → Prop) : Prop :=
  br (decide (xi7 < (list0.length : Int)))
  ((0 ≤ xi7 ∧ xi7 < (list0.length : Int)) ∧
    F_spec_inRange (List.getD list0 (Int.toNat xi7) (0 : Int)) low1 high2 fun inRange20 =>
    br (!inRange20)
    (k false)
    (InR (xi7 + 1) ∧
      B0 (xi7 + 1)))
  (k true)
def L0_spec_allIn (high2 : Int) (list0 : List Int) (low1 : Int) (k : Bool → Prop) : Nat → Int → Prop
  | 0, _ => False
  | n + 1, xi7 => T0_spec_allIn high2 list0 low1 xi7 k (L0_spec_allIn high2 list0 low1 k n)
def G_spec_allIn (list0 : List Int) (low1 : Int) (high2 : Int) (I0 : Int → List Int → Int → Int → Prop) : Prop :=
  I0 high2 list0 low1 0
def S_spec_allIn (list0 : List Int) (low1 : Int) (high2 : Int) (k : Bool → Prop) : Prop := G_spec_allIn list0 low1 high2 (fun high2 list0 low1 xi7 => ∃ j, L0_spec_allIn high2 list0 low1 k j xi7)
def F_spec_allIn (l : List Int) (low high : Int) (k : Bool → Prop) : Prop := l.length ≤ 1000000000 ∧ k (decide (∀ x ∈ l, low ≤ x ∧ x ≤ high))
theorem F_spec_allIn_S {l : List Int} {low high : Int} {k : Bool → Prop} (h : F_spec_allIn l low high k) : S_spec_allIn l low high k := by
  obtain ⟨hl, hk⟩ := h
  have key : ∀ (r : List Int) (i : Nat), l.drop i = r → ((∀ x ∈ r, low ≤ x ∧ x ≤ high) ↔ (∀ x ∈ l, low ≤ x ∧ x ≤ high)) → L0_spec_allIn high l low k (r.length + 1) (i : Int) := by
    intro r
    induction r with
    | nil =>
      intro i hd he
      have := drop_nil' hd
      rw [L0_spec_allIn, T0_spec_allIn]
      simp only [br_dec]
      refine ⟨fun h => by omega, fun _ => ?_⟩
      rwa [decide_eq_true (he.1 (by simp))] at hk
    | cons x r ih =>
      intro i hd he
      obtain ⟨h1, h2, _, h3, _⟩ := drop_cons' hd
      rw [List.length_cons, L0_spec_allIn, T0_spec_allIn]
      simp only [br_dec, F_spec_inRange, br_not, Int.toNat_natCast, h2]
      refine ⟨fun _ => ⟨⟨by omega, by omega⟩, fun hx => ⟨inR (by omega) (by omega), ?_⟩, fun hx => ?_⟩, fun h => by omega⟩
      · refine ih (i + 1) h3 (Iff.trans ?_ he)
        simp only [List.mem_cons, forall_eq_or_imp]
        exact ⟨fun h => ⟨hx, h⟩, fun h => h.2⟩
      · rwa [decide_eq_false (fun h => hx (he.2 h x (by simp)))] at hk
  exact ⟨_, key l 0 rfl Iff.rfl⟩
-- spec.validTrace
def G_spec_validTrace (t0 : List Int) (k : Bool → Prop) : Prop :=
  br (decide ((t0.length : Int) ≤ 24))
  (F_spec_allIn t0 (0 : Int) (31 : Int) fun allIn8 =>
    k allIn8)
  (k false)
def S_spec_validTrace (t0 : List Int) (k : Bool → Prop) : Prop := G_spec_validTrace t0 k
def F_spec_validTrace (t : List Int) (k : Bool → Prop) : Prop := ∀ b : Bool, (b = true ↔ VTrace t) → k b
theorem F_spec_validTrace_S {t : List Int} {k : Bool → Prop} (h : F_spec_validTrace t k) : S_spec_validTrace t k :=
  br_dec.2 ⟨fun h1 => ⟨by omega, h _ (by simp only [decide_eq_true_eq]; exact ⟨fun h2 => ⟨by omega, h2⟩, fun v => v.2⟩)⟩, fun h1 => h false (by simp only [Bool.false_eq_true, false_iff]; exact fun v => h1 (by have := v.1; omega))⟩
-- spec.placeOf
def T0_spec_placeOf (list0 : List Int) (n1 : Int) (xi5 : Int) (k : Int → Prop) (B0 : Int → Prop) : Prop :=
  br (decide (xi5 < (list0.length : Int)))
  ((0 ≤ xi5 ∧ xi5 < (list0.length : Int)) ∧
    br ((List.getD list0 (Int.toNat xi5) (0 : Int)) == n1)
    (k xi5)
    (InR (xi5 + 1) ∧
      B0 (xi5 + 1)))
  (k (-1))
def L0_spec_placeOf (list0 : List Int) (n1 : Int) (k : Int → Prop) : Nat → Int → Prop
  | 0, _ => False
  | n + 1, xi5 => T0_spec_placeOf list0 n1 xi5 k (L0_spec_placeOf list0 n1 k n)
def G_spec_placeOf (list0 : List Int) (n1 : Int) (I0 : List Int → Int → Int → Prop) : Prop :=
  I0 list0 n1 0
def S_spec_placeOf (list0 : List Int) (n1 : Int) (k : Int → Prop) : Prop := G_spec_placeOf list0 n1 (fun list0 n1 xi5 => ∃ j, L0_spec_placeOf list0 n1 k j xi5)
def F_spec_placeOf (l : List Int) (n : Int) (k : Int → Prop) : Prop := l.length ≤ 1000000000 ∧ k (plc l n)
theorem F_spec_placeOf_S {l : List Int} {n : Int} {k : Int → Prop} (h : F_spec_placeOf l n k) : S_spec_placeOf l n k := by
  obtain ⟨hl, hk⟩ := h
  have key : ∀ (r : List Int) (i : Nat), l.drop i = r → plcF r n i = plc l n → L0_spec_placeOf l n k (r.length + 1) (i : Int) := by
    intro r
    induction r with
    | nil =>
      intro i hd he
      have := drop_nil' hd
      rw [L0_spec_placeOf, T0_spec_placeOf]
      simp only [br_dec]
      exact ⟨fun h => by omega, fun _ => by rw [show (-1 : Int) = plc l n from he]; exact hk⟩
    | cons x r ih =>
      intro i hd he
      obtain ⟨h1, h2, _, h3, _⟩ := drop_cons' hd
      rw [List.length_cons, L0_spec_placeOf, T0_spec_placeOf]
      simp only [br_dec, br_beq, Int.toNat_natCast, h2]
      refine ⟨fun _ => ⟨⟨by omega, by omega⟩, fun hx => ?_, fun hx => ⟨inR (by omega) (by omega), ?_⟩⟩, fun h => by omega⟩
      · simp only [plcF, if_pos hx] at he; rw [he]; exact hk
      · simp only [plcF, if_neg hx] at he; exact ih (i + 1) h3 he
  exact ⟨_, key l 0 rfl rfl⟩
-- spec.isIn
def G_spec_isIn (list0 : List Int) (n1 : Int) (k : Bool → Prop) : Prop :=
  F_spec_placeOf list0 n1 fun placeOf7 =>
  k (decide (placeOf7 ≥ 0))
def S_spec_isIn (list0 : List Int) (n1 : Int) (k : Bool → Prop) : Prop := G_spec_isIn list0 n1 k
def F_spec_isIn (l : List Int) (n : Int) (k : Bool → Prop) : Prop := l.length ≤ 1000000000 ∧ k (decide (n ∈ l))
theorem F_spec_isIn_S {l : List Int} {n : Int} {k : Bool → Prop} (h : F_spec_isIn l n k) : S_spec_isIn l n k := by
  refine ⟨h.1, ?_⟩
  have : decide (plc l n ≥ 0) = decide (n ∈ l) := decide_eq_decide.2 plc_ge
  show k (decide (plc l n ≥ 0))
  rw [this]; exact h.2
-- spec.distance
def T0_spec_distance (at1 : Int) (t0 : List Int) (xi6 : Int) (xseen5 : List Int) (k : Int → Prop) (B0 : Int → List Int → Prop) : Prop :=
  br (decide (xi6 ≥ 0))
  ((0 ≤ xi6 ∧ xi6 < (t0.length : Int)) ∧
    (0 ≤ at1 ∧ at1 < (t0.length : Int)) ∧
    br ((List.getD t0 (Int.toNat xi6) (0 : Int)) == (List.getD t0 (Int.toNat at1) (0 : Int)))
    (InR ((xseen5.length : Int) + 1) ∧
      k ((xseen5.length : Int) + 1))
    ((0 ≤ xi6 ∧ xi6 < (t0.length : Int)) ∧
      F_spec_isIn xseen5 (List.getD t0 (Int.toNat xi6) (0 : Int)) fun isIn31 =>
      br (!isIn31)
      ((0 ≤ xi6 ∧ xi6 < (t0.length : Int)) ∧
        (xseen5.length + 1 ≤ 1000000000) ∧
        InR (xi6 - 1) ∧
        B0 (xi6 - 1) (xseen5 ++ ([(List.getD t0 (Int.toNat xi6) (0 : Int))] : List Int)))
      (InR (xi6 - 1) ∧
        B0 (xi6 - 1) xseen5)))
  (k 0)
def L0_spec_distance (at1 : Int) (t0 : List Int) (k : Int → Prop) : Nat → Int → List Int → Prop
  | 0, _, _ => False
  | n + 1, xi6, xseen5 => T0_spec_distance at1 t0 xi6 xseen5 k (L0_spec_distance at1 t0 k n)
def G_spec_distance (t0 : List Int) (at1 : Int) (I0 : Int → List Int → Int → List Int → Prop) : Prop :=
  InR (at1 - 1) ∧
  I0 at1 t0 (at1 - 1) ([] : List Int)
def S_spec_distance (t0 : List Int) (at1 : Int) (k : Int → Prop) : Prop := G_spec_distance t0 at1 (fun at1 t0 xi6 xseen5 => ∃ j, L0_spec_distance at1 t0 k j xi6 xseen5)
def F_spec_distance (t : List Int) (i : Int) (k : Int → Prop) : Prop := (0 ≤ i ∧ i < t.length ∧ t.length ≤ 1000000) ∧ k (dst (usedR [] (t.take i.toNat)) (t.getD i.toNat 0))
theorem F_spec_distance_S {t : List Int} {i : Int} {k : Int → Prop} (h : F_spec_distance t i k) : S_spec_distance t i k := by
  obtain ⟨⟨h0, h1, h2⟩, hk⟩ := h
  have hsl : (t.take i.toNat).reverse.length = i.toNat := by rw [List.length_reverse, List.length_take]; omega
  have hsg : ∀ q : Nat, q < i.toNat → (t.take i.toNat).reverse[q]? = some (t.getD (i.toNat - 1 - q) 0) := fun q hq => by
    rw [List.getElem?_reverse (by rw [List.length_take]; omega), List.length_take, List.getElem?_take, if_pos (by omega), show min i.toNat t.length - 1 - q = i.toNat - 1 - q by omega]
    exact some_of (by omega)
  rw [usedR_ded] at hk
  have go : ∀ (m q : Nat), q + m = i.toNat → t.getD i.toNat 0 ∉ (t.take i.toNat).reverse.take q → L0_spec_distance i t k (m + 1) (i - 1 - q) (ded ((t.take i.toNat).reverse.take q)) := by
    intro m
    induction m with
    | zero =>
      intro q hq hn
      rw [List.take_of_length_le (by omega)] at hn
      rw [L0_spec_distance, T0_spec_distance, List.take_of_length_le (by omega)]
      refine br_dec.2 ⟨fun h => by omega, fun _ => ?_⟩
      rw [dst_zero.2 (fun c => hn (mem_ded.1 c))] at hk
      exact hk
    | succ m ih =>
      intro q hq hn
      have hq1 : (i - 1 - (q : Int)).toNat = i.toNat - 1 - q := by omega
      have hg := hsg q (by omega)
      have hlen : (ded ((t.take i.toNat).reverse.take q)).length ≤ i.toNat := by
        have := nodup_le (ded_nodup ((t.take i.toNat).reverse.take q)) fun x hx => mem_ded.1 hx
        rw [List.length_take] at this; omega
      have e : (t.take i.toNat).reverse.take (q + 1) = (t.take i.toNat).reverse.take q ++ [t.getD (i.toNat - 1 - q) 0] := by
        rw [List.take_add_one, hg]; rfl
      rw [L0_spec_distance, T0_spec_distance]
      rw [hq1]
      refine br_dec.2 ⟨fun _ => ⟨⟨by omega, by omega⟩, ⟨by omega, by omega⟩, br_beq.2 ⟨fun he => ⟨inR (by omega) (by omega), ?_⟩, fun he => ⟨⟨by omega, by omega⟩, by omega, br_not.2 (br_dec.2 ⟨fun hm => ⟨inR (by omega) (by omega), ?_⟩, fun hm => ⟨⟨by omega, by omega⟩, by omega, inR (by omega) (by omega), ?_⟩⟩)⟩⟩⟩, fun h => by omega⟩
      · rw [he] at hg
        rw [ded_first hg hn] at hk
        exact hk
      · have next := ih (q + 1) (by omega) (by
          rw [e, List.mem_append, List.mem_singleton]
          rintro (c | c)
          · exact hn c
          · exact he c.symm)
        rw [e, ded_snoc, if_pos hm] at next
        rw [show i - 1 - (q : Int) - 1 = i - 1 - ((q + 1 : Nat) : Int) by omega]
        exact next
      · have next := ih (q + 1) (by omega) (by
          rw [e, List.mem_append, List.mem_singleton]
          rintro (c | c)
          · exact hn c
          · exact he c.symm)
        rw [e, ded_snoc, if_neg hm] at next
        rw [show i - 1 - (q : Int) - 1 = i - 1 - ((q + 1 : Nat) : Int) by omega]
        exact next
  have := go i.toNat 0 (by omega) (by simp)
  exact ⟨inR (by omega) (by omega), _, by simpa [ded] using this⟩
-- spec.ReuseDistances
def T0_spec_ReuseDistances (t0 : List Int) (xi4 : Int) (xout3 : List Int) (k : List Int → Prop) (B0 : Int → List Int → Prop) : Prop :=
  br (decide (xi4 < (t0.length : Int)))
  (F_spec_distance t0 xi4 fun distance18 =>
    (xout3.length + 1 ≤ 1000000000) ∧
    InR (xi4 + 1) ∧
    B0 (xi4 + 1) (xout3 ++ ([distance18] : List Int)))
  (k xout3)
def L0_spec_ReuseDistances (t0 : List Int) (k : List Int → Prop) : Nat → Int → List Int → Prop
  | 0, _, _ => False
  | n + 1, xi4, xout3 => T0_spec_ReuseDistances t0 xi4 xout3 k (L0_spec_ReuseDistances t0 k n)
def G_spec_ReuseDistances (t0 : List Int) (k : List Int → Prop) (I0 : List Int → Int → List Int → Prop) : Prop :=
  F_spec_validTrace t0 fun validTrace7 =>
  br (!validTrace7)
  (k ([] : List Int))
  (I0 t0 0 ([] : List Int))
def S_spec_ReuseDistances (t0 : List Int) (k : List Int → Prop) : Prop := G_spec_ReuseDistances t0 k (fun t0 xi4 xout3 => ∃ j, L0_spec_ReuseDistances t0 k j xi4 xout3)
def F_spec_ReuseDistances (t : List Int) (k : List Int → Prop) : Prop := (VTrace t → k (distM [] t)) ∧ (¬ (VTrace t) → k [])
theorem F_spec_ReuseDistances_S {t : List Int} {k : List Int → Prop} (h : F_spec_ReuseDistances t k) : S_spec_ReuseDistances t k := by
  obtain ⟨hyes, hno⟩ := h
  intro b hb
  refine br_not.2 (br_iff.2 ⟨fun e => ?_, fun e => hno fun w => by rw [hb.2 w] at e; cases e⟩)
  have v := hb.1 e
  have hk := hyes v
  have hl := v.1
  have go : ∀ (m i : Nat), i + m = t.length → L0_spec_ReuseDistances t k (m + 1) (i : Int) (distM [] (t.take i)) := by
    intro m
    induction m with
    | zero =>
      intro i hi
      rw [L0_spec_ReuseDistances, T0_spec_ReuseDistances, List.take_of_length_le (by omega)]
      exact br_dec.2 ⟨fun h => by omega, fun _ => hk⟩
    | succ m ih =>
      intro i hi
      have next := ih (i + 1) (by omega)
      have e : t.take (i + 1) = t.take i ++ [t.getD i 0] := by
        rw [List.take_add_one, some_of (l := t) (d := 0) (by omega)]; rfl
      rw [e, distM_append] at next
      rw [L0_spec_ReuseDistances, T0_spec_ReuseDistances]
      refine br_dec.2 ⟨fun _ => ⟨⟨by omega, by omega, by omega⟩, ?_, inR (by omega) (by omega), ?_⟩, fun h => by omega⟩
      · rw [distM_len, List.length_take]; omega
      · rw [Int.toNat_natCast]; exact next
  exact ⟨_, go t.length 0 (by omega)⟩
-- laws.equalInts
def T0_laws_equalInts (a0 : List Int) (b1 : List Int) (xi5 : Int) (k : Bool → Prop) (B0 : Int → Prop) : Prop :=
  br (decide (xi5 < (a0.length : Int)))
  ((0 ≤ xi5 ∧ xi5 < (a0.length : Int)) ∧
    (0 ≤ xi5 ∧ xi5 < (b1.length : Int)) ∧
    br ((List.getD a0 (Int.toNat xi5) (0 : Int)) != (List.getD b1 (Int.toNat xi5) (0 : Int)))
    (k false)
    (InR (xi5 + 1) ∧
      B0 (xi5 + 1)))
  (k true)
def L0_laws_equalInts (a0 : List Int) (b1 : List Int) (k : Bool → Prop) : Nat → Int → Prop
  | 0, _ => False
  | n + 1, xi5 => T0_laws_equalInts a0 b1 xi5 k (L0_laws_equalInts a0 b1 k n)
def G_laws_equalInts (a0 : List Int) (b1 : List Int) (k : Bool → Prop) (I0 : List Int → List Int → Int → Prop) : Prop :=
  br ((a0.length : Int) != (b1.length : Int))
  (k false)
  (I0 a0 b1 0)
def S_laws_equalInts (a0 : List Int) (b1 : List Int) (k : Bool → Prop) : Prop := G_laws_equalInts a0 b1 k (fun a0 b1 xi5 => ∃ j, L0_laws_equalInts a0 b1 k j xi5)
def F_laws_equalInts (a b : List Int) (k : Bool → Prop) : Prop := a.length ≤ 1000000000 ∧ k (decide (a = b))
theorem F_laws_equalInts_S {a b : List Int} {k : Bool → Prop} (h : F_laws_equalInts a b k) : S_laws_equalInts a b k := by
  obtain ⟨hl, hk⟩ := h
  refine br_bne.2 ⟨fun he => by rwa [decide_eq_false (fun e => he (by rw [e]))] at hk, fun he => ?_⟩
  have he : a.length = b.length := by omega
  have key : ∀ (r : List Int) (i : Nat), a.drop i = r → (r = b.drop i ↔ a = b) → L0_laws_equalInts a b k (r.length + 1) (i : Int) := by
    intro r
    induction r with
    | nil =>
      intro i hd hi
      have := drop_nil' hd
      rw [L0_laws_equalInts, T0_laws_equalInts]
      simp only [br_dec]
      exact ⟨fun h => by omega, fun _ => by rwa [decide_eq_true (hi.1 (List.drop_eq_nil_of_le (by omega)).symm)] at hk⟩
    | cons x r ih =>
      intro i hd hi
      obtain ⟨h1, h2, _, h3, _⟩ := drop_cons' hd
      obtain ⟨y, s, hs⟩ : ∃ y s, b.drop i = y :: s := by
        cases e : b.drop i with
        | nil => have := drop_nil' e; omega
        | cons y s => exact ⟨y, s, rfl⟩
      obtain ⟨g1, g2, _, g3, _⟩ := drop_cons' hs
      rw [List.length_cons, L0_laws_equalInts, T0_laws_equalInts]
      simp only [br_dec, br_bne, Int.toNat_natCast, h2, g2]
      rw [hs] at hi
      refine ⟨fun _ => ⟨⟨by omega, by omega⟩, ⟨by omega, by omega⟩, ?_⟩, fun h => by omega⟩
      have go : x = y → L0_laws_equalInts a b k (r.length + 1) ((i : Int) + 1) := fun hx => ih (i + 1) h3 (by rw [g3, ← hi, hx]; simp)
      have no : x ≠ y → k false := fun hx => by rwa [decide_eq_false (fun e => hx (List.cons.inj (hi.2 e)).1)] at hk
      exact ⟨no, fun hx => ⟨inR (by omega) (by omega), go hx⟩⟩
  exact ⟨_, key a 0 rfl (by simp)⟩
-- laws.FnReuseDistancesOne
def T0_laws_FnReuseDistancesOne (drawReuseDistances10 : List Int) (reuseDistances12 : List Int) (xi5 : Int) (k : Bool → Prop) (B0 : Int → Prop) : Prop :=
  br (decide (xi5 < (reuseDistances12.length : Int)))
  (br (decide (xi5 < (drawReuseDistances10.length : Int)))
    ((0 ≤ xi5 ∧ xi5 < (reuseDistances12.length : Int)) ∧
      (0 ≤ xi5 ∧ xi5 < (drawReuseDistances10.length : Int)) ∧
      InR (xi5 - 1) ∧
      (0 ≤ (xi5 - 1) ∧ (xi5 - 1) < (drawReuseDistances10.length : Int)) ∧
      br (!(((List.getD reuseDistances12 (Int.toNat xi5) (0 : Int)) == 1) == ((List.getD drawReuseDistances10 (Int.toNat xi5) (0 : Int)) == (List.getD drawReuseDistances10 (Int.toNat (xi5 - 1)) (0 : Int)))))
      (k false)
      (InR (xi5 + 1) ∧
        B0 (xi5 + 1)))
    (k true))
  (k true)
def L0_laws_FnReuseDistancesOne (drawReuseDistances10 : List Int) (reuseDistances12 : List Int) (k : Bool → Prop) : Nat → Int → Prop
  | 0, _ => False
  | n + 1, xi5 => T0_laws_FnReuseDistancesOne drawReuseDistances10 reuseDistances12 xi5 k (L0_laws_FnReuseDistancesOne drawReuseDistances10 reuseDistances12 k n)
def G_laws_FnReuseDistancesOne (code0 : List Int) (k : Bool → Prop) (I0 : List Int → List Int → Int → Prop) : Prop :=
  br (decide ((code0.length : Int) > 1048576))
  (k true)
  (F_spec_DrawReuseDistances code0 fun drawReuseDistances10 =>
    F_impl_ReuseDistances drawReuseDistances10 fun reuseDistances12 =>
    F_spec_ReuseDistances drawReuseDistances10 fun reuseDistances15 =>
    F_laws_equalInts reuseDistances12 reuseDistances15 fun equalInts16 =>
    br (!equalInts16)
    (k false)
    (I0 drawReuseDistances10 reuseDistances12 1))
def S_laws_FnReuseDistancesOne (code0 : List Int) (k : Bool → Prop) : Prop := G_laws_FnReuseDistancesOne code0 k (fun drawReuseDistances10 reuseDistances12 xi5 => ∃ j, L0_laws_FnReuseDistancesOne drawReuseDistances10 reuseDistances12 k j xi5)
abbrev F_laws_FnReuseDistancesOne (code0 : List Int) (k : Bool → Prop) : Prop := S_laws_FnReuseDistancesOne code0 k
theorem F_laws_FnReuseDistancesOne_S {code0 : List Int} {k : Bool → Prop} (h : F_laws_FnReuseDistancesOne code0 k) : S_laws_FnReuseDistancesOne code0 k := h
theorem law_FnReuseDistancesOne (code : List Int) (hb : ∀ x ∈ code, 0 ≤ x ∧ x ≤ 255) : F_laws_FnReuseDistancesOne code (fun r => r = true) := by
  refine br_dec.2 ⟨fun _ => rfl, fun hlen => ⟨hb, fun t l1 => ?_⟩⟩
  by_cases v : VTrace t
  · have hl := v.1
    have hd := distM_len t []
    refine yes v (yes v ⟨by omega, br_de ?_⟩)
    have go : ∀ (m i : Nat), 0 < i → i + m = t.length + 1 → L0_laws_FnReuseDistancesOne t (distM [] t) (fun r => r = true) (m + 1) (i : Int) := by
      intro m
      induction m with
      | zero =>
        intro i hp hi
        rw [L0_laws_FnReuseDistancesOne, T0_laws_FnReuseDistancesOne]
        exact br_nd (by omega) rfl
      | succ m ih =>
        intro i hp hi
        rw [L0_laws_FnReuseDistancesOne, T0_laws_FnReuseDistancesOne]
        refine br_dec.2 ⟨fun hlt => ?_, fun _ => rfl⟩
        rw [hd] at hlt
        have e1 : ((i : Int) - 1).toNat = i - 1 := by omega
        rw [e1]
        simp only [Int.toNat_natCast]
        have hg := distM_get t [] i 0 (by omega)
        simp only [hg]
        have e2 : t.take i = t.take (i - 1) ++ [t.getD (i - 1) 0] := by
          have := take_get (t := t) (i := i - 1) (by omega)
          rwa [show i - 1 + 1 = i by omega] at this
        have h1 := @dst_one (rmK (usedR [] (t.take (i - 1))) (t.getD (i - 1) 0)) (t.getD i 0) (t.getD (i - 1) 0)
        rw [e2, usedR_append]
        have he : ((dst (t.getD (i - 1) 0 :: rmK (usedR [] (t.take (i - 1))) (t.getD (i - 1) 0)) (t.getD i 0) == 1) == (t.getD i 0 == t.getD (i - 1) 0)) = true := by
          by_cases c : t.getD i 0 = t.getD (i - 1) 0
          · rw [beq_t c, beq_t (h1.2 c)]; rfl
          · rw [beq_eq_false_iff_ne.2 c, beq_eq_false_iff_ne.2 (fun g => c (h1.1 g))]; rfl
        rw [he]
        exact br_yd (by omega) ⟨⟨by omega, by omega⟩, ⟨by omega, by omega⟩, inR (by omega) (by omega), ⟨by omega, by omega⟩, br_nt ⟨inR (by omega) (by omega), ih (i + 1) (by omega) (by omega)⟩⟩
    exact ⟨_, go t.length 1 (by omega) (by omega)⟩
  · refine nay v (nay v ⟨by simp, br_de ⟨1, ?_⟩⟩)
    rw [L0_laws_FnReuseDistancesOne, T0_laws_FnReuseDistancesOne]
    exact br_nd (by simp) rfl
end Go.Ev
