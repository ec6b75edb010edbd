/- What the functions that the law reaches do, written as plain Lean. No statement is proved here. -/
import Derived.Test.YtlobdkcjlpifjacFnHitCurveEndP0
namespace Go.Ev
set_option linter.unusedVariables false
open Go
def T1_impl_HitCurve (reuseDistances12 : List Int) (xt13 : Int) (xt14 : Int) (xroom6 : Int) (xy10' : List Int) (B0 : Int → List Int → Prop) (B1 : Int → List Int → Prop) : Prop :=
  br (decide (xroom6 ≤ 8))
  (InR (xroom6 - 1) ∧
    (0 ≤ (xroom6 - 1) ∧ (xroom6 - 1) < (xy10'.length : Int)) ∧
    InR ((List.getD xy10' (Int.toNat (xroom6 - 1)) (0 : Int)) + 1) ∧
    (0 ≤ (xroom6 - 1) ∧ (xroom6 - 1) < (xy10'.length : Int)) ∧
    InR (xroom6 + 1) ∧
    B1 (xroom6 + 1) (List.set xy10' (Int.toNat (xroom6 - 1)) ((List.getD xy10' (Int.toNat (xroom6 - 1)) (0 : Int)) + 1)))
  (InR (xt14 + 1) ∧
    B0 (xt14 + 1) xy10')
def L1_impl_HitCurve (reuseDistances12 : List Int) (xt13 : Int) (xt14 : Int) (k : List Int → Prop) (B0 : Int → List Int → Prop) : Nat → Int → List Int → Prop
  | 0, _, _ => False
  | n + 1, xroom6, xy10' => T1_impl_HitCurve reuseDistances12 xt13 xt14 xroom6 xy10' B0 (L1_impl_HitCurve reuseDistances12 xt13 xt14 k B0 n)
def T0_impl_HitCurve (reuseDistances12 : List Int) (xt13 : Int) (xt14 : Int) (xy10 : List Int) (k : List Int → Prop) (B0 : Int → List Int → Prop) (I1 : List Int → Int → Int → Int → List Int → Prop) : Prop :=
  br (decide (xt14 < xt13))
  ((0 ≤ xt14 ∧ xt14 < (reuseDistances12.length : Int)) ∧
    br ((List.getD reuseDistances12 (Int.toNat xt14) (0 : Int)) == 0)
    (InR (xt14 + 1) ∧
      B0 (xt14 + 1) xy10)
    (I1 reuseDistances12 xt13 xt14 (List.getD reuseDistances12 (Int.toNat xt14) (0 : Int)) xy10))
  (k xy10)
def L0_impl_HitCurve (reuseDistances12 : List Int) (xt13 : Int) (k : List Int → Prop) : Nat → Int → List Int → Prop
  | 0, _, _ => False
  | n + 1, xt14, xy10 => T0_impl_HitCurve reuseDistances12 xt13 xt14 xy10 k (L0_impl_HitCurve reuseDistances12 xt13 k n) (fun reuseDistances12 xt13 xt14 xroom6 xy10' => ∃ j, L1_impl_HitCurve reuseDistances12 xt13 xt14 k (L0_impl_HitCurve reuseDistances12 xt13 k n) j xroom6 xy10')
def G_impl_HitCurve (t0 : List Int) (k : List Int → Prop) (I0 : List Int → Int → Int → List Int → Prop) : Prop :=
  F_impl_ValidTrace t0 fun validTrace8 =>
  br (!validTrace8)
  (k ([] : List Int))
  (((8 : Int) = 8 ∧ 0 ≤ (8 : Int) ∧ (8 : Int) ≤ 1000000000) ∧
    F_impl_ReuseDistances t0 fun reuseDistances12 =>
    I0 reuseDistances12 (reuseDistances12.length : Int) 0 (List.replicate 8 (0 : Int)))
def S_impl_HitCurve (t0 : List Int) (k : List Int → Prop) : Prop := G_impl_HitCurve t0 k (fun reuseDistances12 xt13 xt14 xy10 => ∃ j, L0_impl_HitCurve reuseDistances12 xt13 k j xt14 xy10)
def F_impl_HitCurve (t : List Int) (k : List Int → Prop) : Prop := (VTrace t → k (curveM t)) ∧ (¬ VTrace t → k [])
theorem F_impl_HitCurve_S {t : List Int} {k : List Int → Prop} (h : F_impl_HitCurve t k) : S_impl_HitCurve t k := by
  obtain ⟨hyes, hno⟩ := h
  intro b hb
  refine br_not.2 (br_iff.2 ⟨fun e => ?_, fun e => hno fun w => by rw [hb.2 w] at e; cases e⟩)
  have v := hb.1 e
  have hk := hyes v
  have hl := v.1
  have hd := distM_len t []
  rw [curveM_D] at hk
  have inner : ∀ (l : List Int) (d : Int) (i : Int) (B : Int → List Int → Prop), 0 ≤ i → i ≤ 100 → l.length ≤ 100 → 1 ≤ d → B (i + 1) (curveD (l ++ [d])) →
      ∀ (m : Nat) (room : Int), d ≤ room → 9 ≤ room + (m : Int) → L1_impl_HitCurve (distM [] t) ((distM [] t).length : Int) i k B (m + 1) room (midC l d room) := by
    intro l d i B i0 i1 l1 d1 hB m
    induction m with
    | zero =>
      intro room h1 h2
      rw [L1_impl_HitCurve, T1_impl_HitCurve]
      refine br_nd (by omega) ⟨inR (by omega) (by omega), ?_⟩
      rw [midC_end d1 (by omega)]; exact hB
    | succ m ih =>
      intro room h1 h2
      rw [L1_impl_HitCurve, T1_impl_HitCurve, midC_len]
      refine br_dec.2 ⟨fun h8 => ?_, fun h8 => ⟨inR (by omega) (by omega), ?_⟩⟩
      · have := @midC_range l d room (room - 1).toNat (by omega)
        rw [midC_step h1 (by omega) h8]
        exact ⟨inR (by omega) (by omega), ⟨by omega, by omega⟩, inR (by omega) (by omega), ⟨by omega, by omega⟩, inR (by omega) (by omega), ih (room + 1) (by omega) (by omega)⟩
      · rw [midC_end d1 (by omega)]; exact hB
  have go : ∀ (m i : Nat), i + m = t.length → L0_impl_HitCurve (distM [] t) ((distM [] t).length : Int) k (m + 1) (i : Int) (curveD ((distM [] t).take i)) := by
    intro m
    induction m with
    | zero =>
      intro i hi
      rw [L0_impl_HitCurve, T0_impl_HitCurve, List.take_of_length_le (by omega)]
      exact br_nd (by omega) hk
    | succ m ih =>
      intro i hi
      have next := ih (i + 1) (by omega)
      rw [take_get (by omega)] at next
      have hr := @distM_range t i (by omega)
      rw [L0_impl_HitCurve, T0_impl_HitCurve]
      simp only [Int.toNat_natCast]
      refine br_yd (by omega) ⟨⟨by omega, by omega⟩, br_beq.2 ⟨fun hz => ⟨inR (by omega) (by omega), ?_⟩, fun hz => ⟨9, ?_⟩⟩⟩
      · rw [hz, curveD_zero] at next; exact next
      · rw [← midC_start ((distM [] t).take i) ((distM [] t).getD i 0)]
        exact inner _ _ (i : Int) _ (by omega) (by omega) (by rw [List.length_take]; omega) (by omega) next 8 _ (Int.le_refl _) (by omega)
  exact ⟨⟨rfl, by omega, by omega⟩, yes v ⟨_, go t.length 0 (by omega)⟩⟩
-- spec.inRange
def G_spec_inRange (n0 : Int) (low1 : Int) (high2 : Int) (k : Bool → Prop) : Prop :=
  br (decide (low1 ≤ n0))
  (k (decide (n0 ≤ high2)))
  (k false)
def S_spec_inRange (n0 : Int) (low1 : Int) (high2 : Int) (k : Bool → Prop) : Prop := G_spec_inRange n0 low1 high2 k
def F_spec_inRange (n low high : Int) (k : Bool → Prop) : Prop := k (decide (low ≤ n ∧ n ≤ high))
theorem F_spec_inRange_S {n low high : Int} {k : Bool → Prop} (h : F_spec_inRange n low high k) : S_spec_inRange n low high k := by
  unfold F_spec_inRange at h
  simp only [S_spec_inRange, G_spec_inRange, br_dec]
  refine ⟨fun h1 => ?_, fun h1 => ?_⟩
  · simpa [h1] using h
  · simpa [h1] using h
-- spec.allIn
def T0_spec_allIn (high2 : Int) (list0 : List Int) (low1 : Int) (xi7 : Int) (k : Bool → Prop) (B0 : Int → Prop) : Prop :=
  br (decide (xi7 < (list0.length : Int)))
  ((0 ≤ xi7 ∧ xi7 < (list0.length : Int)) ∧
    F_spec_inRange (List.getD list0 (Int.toNat xi7) (0 : Int)) low1 high2 fun inRange20 =>
    br (!inRange20)
    (k false)
    (InR (xi7 + 1) ∧
      B0 (xi7 + 1)))
  (k true)
def L0_spec_allIn (high2 : Int) (list0 : List Int) (low1 : Int) (k : Bool → Prop) : Nat → Int → Prop
  | 0, _ => False
  | n + 1, xi7 => T0_spec_allIn high2 list0 low1 xi7 k (L0_spec_allIn high2 list0 low1 k n)
def G_spec_allIn (list0 : List Int) (low1 : Int) (high2 : Int) (I0 : Int → List Int → Int → Int → Prop) : Prop :=
  I0 high2 list0 low1 0
def S_spec_allIn (list0 : List Int) (low1 : Int) (high2 : Int) (k : Bool → Prop) : Prop := G_spec_allIn list0 low1 high2 (fun high2 list0 low1 xi7 => ∃ j, L0_spec_allIn high2 list0 low1 k j xi7)
def F_spec_allIn (l : List Int) (low high : Int) (k : Bool → Prop) : Prop := l.length ≤ 1000000000 ∧ k (decide (∀ x ∈ l, low ≤ x ∧ x ≤ high))
theorem F_spec_allIn_S {l : List Int} {low high : Int} {k : Bool → Prop} (h : F_spec_allIn l low high k) : S_spec_allIn l low high k := by
  obtain ⟨hl, hk⟩ := h
  have key : ∀ (r : List Int) (i : Nat), l.drop i = r → ((∀ x ∈ r, low ≤ x ∧ x ≤ high) ↔ (∀ x ∈ l, low ≤ x ∧ x ≤ high)) → L0_spec_allIn high l low k (r.length + 1) (i : Int) := by
    intro r
    induction r with
    | nil =>
      intro i hd he
      have := drop_nil' hd
      rw [L0_spec_allIn, T0_spec_allIn]
      simp only [br_dec]
      refine ⟨fun h => by omega, fun _ => ?_⟩
      rwa [decide_eq_true (he.1 (by simp))] at hk
    | cons x r ih =>
      intro i hd he
      obtain ⟨h1, h2, _, h3, _⟩ := drop_cons' hd
      rw [List.length_cons, L0_spec_allIn, T0_spec_allIn]
      simp only [br_dec, F_spec_inRange, br_not, Int.toNat_natCast, h2]
      refine ⟨fun _ => ⟨⟨by omega, by omega⟩, fun hx => ⟨inR (by omega) (by omega), ?_⟩, fun hx => ?_⟩, fun h => by omega⟩
      · refine ih (i + 1) h3 (Iff.trans ?_ he)
        simp only [List.mem_cons, forall_eq_or_imp]
        exact ⟨fun h => ⟨hx, h⟩, fun h => h.2⟩
      · rwa [decide_eq_false (fun h => hx (he.2 h x (by simp)))] at hk
  exact ⟨_, key l 0 rfl Iff.rfl⟩
-- spec.validTrace
def G_spec_validTrace (t0 : List Int) (k : Bool → Prop) : Prop :=
  br (decide ((t0.length : Int) ≤ 24))
  (F_spec_allIn t0 (0 : Int) (31 : Int) fun allIn8 =>
    k allIn8)
  (k false)
def S_spec_validTrace (t0 : List Int) (k : Bool → Prop) : Prop := G_spec_validTrace t0 k
def F_spec_validTrace (t : List Int) (k : Bool → Prop) : Prop := ∀ b : Bool, (b = true ↔ VTrace t) → k b
theorem F_spec_validTrace_S {t : List Int} {k : Bool → Prop} (h : F_spec_validTrace t k) : S_spec_validTrace t k :=
  br_dec.2 ⟨fun h1 => ⟨by omega, h _ (by simp only [decide_eq_true_eq]; exact ⟨fun h2 => ⟨by omega, h2⟩, fun v => v.2⟩)⟩, fun h1 => h false (by simp only [Bool.false_eq_true, false_iff]; exact fun v => h1 (by have := v.1; omega))⟩
-- spec.placeOf
def T0_spec_placeOf (list0 : List Int) (n1 : Int) (xi5 : Int) (k : Int → Prop) (B0 : Int → Prop) : Prop :=
  br (decide (xi5 < (list0.length : Int)))
  ((0 ≤ xi5 ∧ xi5 < (list0.length : Int)) ∧
    br ((List.getD list0 (Int.toNat xi5) (0 : Int)) == n1)
    (k xi5)
    (InR (xi5 + 1) ∧
      B0 (xi5 + 1)))
  (k (-1))
def L0_spec_placeOf (list0 : List Int) (n1 : Int) (k : Int → Prop) : Nat → Int → Prop
  | 0, _ => False
  | n + 1, xi5 => T0_spec_placeOf list0 n1 xi5 k (L0_spec_placeOf list0 n1 k n)
def G_spec_placeOf (list0 : List Int) (n1 : Int) (I0 : List Int → Int → Int → Prop) : Prop :=
  I0 list0 n1 0
def S_spec_placeOf (list0 : List Int) (n1 : Int) (k : Int → Prop) : Prop := G_spec_placeOf list0 n1 (fun list0 n1 xi5 => ∃ j, L0_spec_placeOf list0 n1 k j xi5)
def F_spec_placeOf (l : List Int) (n : Int) (k : Int → Prop) : Prop := l.length ≤ 1000000000 ∧ k (plc l n)
theorem F_spec_placeOf_S {l : List Int} {n : Int} {k : Int → Prop} (h : F_spec_placeOf l n k) : S_spec_placeOf l n k := by
  obtain ⟨hl, hk⟩ := h
  have key : ∀ (r : List Int) (i : Nat), l.drop i = r → plcF r n i = plc l n → L0_spec_placeOf l n k (r.length + 1) (i : Int) := by
    intro r
    induction r with
    | nil =>
      intro i hd he
      have := drop_nil' hd
      rw [L0_spec_placeOf, T0_spec_placeOf]
      simp only [br_dec]
      exact ⟨fun h => by omega, fun _ => by rw [show (-1 : Int) = plc l n from he]; exact hk⟩
    | cons x r ih =>
      intro i hd he
      obtain ⟨h1, h2, _, h3, _⟩ := drop_cons' hd
      rw [List.length_cons, L0_spec_placeOf, T0_spec_placeOf]
      simp only [br_dec, br_beq, Int.toNat_natCast, h2]
      refine ⟨fun _ => ⟨⟨by omega, by omega⟩, fun hx => ?_, fun hx => ⟨inR (by omega) (by omega), ?_⟩⟩, fun h => by omega⟩
      · simp only [plcF, if_pos hx] at he; rw [he]; exact hk
      · simp only [plcF, if_neg hx] at he; exact ih (i + 1) h3 he
  exact ⟨_, key l 0 rfl rfl⟩
-- spec.isIn
def G_spec_isIn (list0 : List Int) (n1 : Int) (k : Bool → Prop) : Prop :=
  F_spec_placeOf list0 n1 fun placeOf7 =>
  k (decide (placeOf7 ≥ 0))
def S_spec_isIn (list0 : List Int) (n1 : Int) (k : Bool → Prop) : Prop := G_spec_isIn list0 n1 k
def F_spec_isIn (l : List Int) (n : Int) (k : Bool → Prop) : Prop := l.length ≤ 1000000000 ∧ k (decide (n ∈ l))
theorem F_spec_isIn_S {l : List Int} {n : Int} {k : Bool → Prop} (h : F_spec_isIn l n k) : S_spec_isIn l n k := by
  refine ⟨h.1, ?_⟩
  have : decide (plc l n ≥ 0) = decide (n ∈ l) := decide_eq_decide.2 plc_ge
  show k (decide (plc l n ≥ 0))
  rw [this]; exact h.2
-- spec.distance
def T0_spec_distance (at1 : Int) (t0 : List Int) (xi6 : Int) (xseen5 : List Int) (k : Int → Prop) (B0 : Int → List Int → Prop) : Prop :=
  br (decide (xi6 ≥ 0))
  ((0 ≤ xi6 ∧ xi6 < (t0.length : Int)) ∧
    (0 ≤ at1 ∧ at1 < (t0.length : Int)) ∧
    br ((List.getD t0 (Int.toNat xi6) (0 : Int)) == (List.getD t0 (Int.toNat at1) (0 : Int)))
    (InR ((xseen5.length : Int) + 1) ∧
      k ((xseen5.length : Int) + 1))
    ((0 ≤ xi6 ∧ xi6 < (t0.length : Int)) ∧
      F_spec_isIn xseen5 (List.getD t0 (Int.toNat xi6) (0 : Int)) fun isIn31 =>
      br (!isIn31)
      ((0 ≤ xi6 ∧ xi6 < (t0.length : Int)) ∧
        (xseen5.length + 1 ≤ 1000000000) ∧
        InR (xi6 - 1) ∧
        B0 (xi6 - 1) (xseen5 ++ ([(List.getD t0 (Int.toNat xi6) (0 : Int))] : List Int)))
      (InR (xi6 - 1) ∧
        B0 (xi6 - 1) xseen5)))
  (k 0)
def L0_spec_distance (at1 : Int) (t0 : List Int) (k : Int → Prop) : Nat → Int → List Int → Prop
  | 0, _, _ => False
  | n + 1, xi6, xseen5 => T0_spec_distance at1 t0 xi6 xseen5 k (L0_spec_distance at1 t0 k n)
def G_spec_distance (t0 : List Int) (at1 : Int) (I0 : Int → List Int → Int → List Int → Prop) : Prop :=
  InR (at1 - 1) ∧
  I0 at1 t0 (at1 - 1) ([] : List Int)
def S_spec_distance (t0 : List Int) (at1 : Int) (k : Int → Prop) : Prop := G_spec_distance t0 at1 (fun at1 t0 xi6 xseen5 => ∃ j, L0_spec_distance at1 t0 k j xi6 xseen5)
def F_spec_distance (t : List Int) (i : Int) (k : Int → Prop) : Prop := (0 ≤ i ∧ i < t.length ∧ t.length ≤ 1000000) ∧ k (dst (usedR [] (t.take i.toNat)) (t.getD i.toNat 0))
theorem F_spec_distance_S {t : List Int} {i : Int} {k : Int → Prop} (h : F_spec_distance t i k) : S_spec_distance t i k := by
  obtain ⟨⟨h0, h1, h2⟩, hk⟩ := h
  have hsl : (t.take i.toNat).reverse.length = i.toNat := by rw [List.length_reverse, List.length_take]; omega
  have hsg : ∀ q : Nat, q < i.toNat → (t.take i.toNat).reverse[q]? = some (t.getD (i.toNat - 1 - q) 0) := fun q hq => by
    rw [List.getElem?_reverse (by rw [List.length_take]; omega), List.length_take, List.getElem?_take, if_pos (by omega), show min i.toNat t.length - 1 - q = i.toNat - 1 - q by omega]
    exact some_of (by omega)
  rw [usedR_ded] at hk
  have go : ∀ (m q : Nat), q + m = i.toNat → t.getD i.toNat 0 ∉ (t.take i.toNat).reverse.take q → L0_spec_distance i t k (m + 1) (i - 1 - q) (ded ((t.take i.toNat).reverse.take q)) := by
    intro m
    induction m with
    | zero =>
      intro q hq hn
      rw [List.take_of_length_le (by omega)] at hn
      rw [L0_spec_distance, T0_spec_distance, List.take_of_length_le (by omega)]
      refine br_dec.2 ⟨fun h => by omega, fun _ => ?_⟩
      rw [dst_zero.2 (fun c => hn (mem_ded.1 c))] at hk
      exact hk
    | succ m ih =>
      intro q hq hn
      have hq1 : (i - 1 - (q : Int)).toNat = i.toNat - 1 - q := by omega
      have hg := hsg q (by omega)
      have hlen : (ded ((t.take i.toNat).reverse.take q)).length ≤ i.toNat := by
        have := nodup_le (ded_nodup ((t.take i.toNat).reverse.take q)) fun x hx => mem_ded.1 hx
        rw [List.length_take] at this; omega
      have e : (t.take i.toNat).reverse.take (q + 1) = (t.take i.toNat).reverse.take q ++ [t.getD (i.toNat - 1 - q) 0] := by
        rw [List.take_add_one, hg]; rfl
      rw [L0_spec_distance, T0_spec_distance]
      rw [hq1]
      refine br_dec.2 ⟨fun _ => ⟨⟨by omega, by omega⟩, ⟨by omega, by omega⟩, br_beq.2 ⟨fun he => ⟨inR (by omega) (by omega), ?_⟩, fun he => ⟨⟨by omega, by omega⟩, by omega, br_not.2 (br_dec.2 ⟨fun hm => ⟨inR (by omega) (by omega), ?_⟩, fun hm => ⟨⟨by omega, by omega⟩, by omega, inR (by omega) (by omega), ?_⟩⟩)⟩⟩⟩, fun h => by omega⟩
      · rw [he] at hg
        rw [ded_first hg hn] at hk
        exact hk
      · have next := ih (q + 1) (by omega) (by
          rw [e, List.mem_append, List.mem_singleton]
          rintro (c | c)
          · exact hn c
          · exact he c.symm)
        rw [e, ded_snoc, if_pos hm] at next
        rw [show i - 1 - (q : Int) - 1 = i - 1 - ((q + 1 : Nat) : Int) by omega]
        exact next
      · have next := ih (q + 1) (by omega) (by
          rw [e, List.mem_append, List.mem_singleton]
          rintro (c | c)
          · exact hn c
          · exact he c.symm)
        rw [e, ded_snoc, if_neg hm] at next
        rw [show i - 1 - (q : Int) - 1 = i - 1 - ((q + 1 : Nat) : Int) by omega]
        exact next
  have := go i.toNat 0 (by omega) (by simp)
  exact ⟨inR (by omega) (by omega), _, by simpa [ded] using this⟩
-- spec.HitCurve
def T1_spec_HitCurve (t0 : List Int) (xi4 : Int) (xroom6 : Int) (xy7' : List Int) (B0 : Int → List Int → Prop) (B1 : Int → List Int → Prop) : Prop :=
  br (decide (xroom6 ≥ 1))
  (br (decide (xroom6 ≤ 8))
    (InR (xroom6 - 1) ∧
      InR (xroom6 - 1) ∧
      (0 ≤ (xroom6 - 1) ∧ (xroom6 - 1) < (xy7'.length : Int)) ∧
      InR ((List.getD xy7' (Int.toNat (xroom6 - 1)) (0 : Int)) + 1) ∧
      (0 ≤ (xroom6 - 1) ∧ (xroom6 - 1) < (xy7'.length : Int)) ∧
      InR (xroom6 + 1) ∧
      B1 (xroom6 + 1) (List.set xy7' (Int.toNat (xroom6 - 1)) ((List.getD xy7' (Int.toNat (xroom6 - 1)) (0 : Int)) + 1)))
    (InR (xi4 + 1) ∧
      B0 (xi4 + 1) xy7'))
  (InR (xi4 + 1) ∧
    B0 (xi4 + 1) xy7')
def L1_spec_HitCurve (t0 : List Int) (xi4 : Int) (k : List Int → Prop) (B0 : Int → List Int → Prop) : Nat → Int → List Int → Prop
  | 0, _, _ => False
  | n + 1, xroom6, xy7' => T1_spec_HitCurve t0 xi4 xroom6 xy7' B0 (L1_spec_HitCurve t0 xi4 k B0 n)
def T0_spec_HitCurve (t0 : List Int) (xi4 : Int) (xy7 : List Int) (k : List Int → Prop) (I1 : List Int → Int → Int → List Int → Prop) : Prop :=
  br (decide (xi4 < (t0.length : Int)))
  (F_spec_distance t0 xi4 fun distance19 =>
    I1 t0 xi4 distance19 xy7)
  (k xy7)
def L0_spec_HitCurve (t0 : List Int) (k : List Int → Prop) : Nat → Int → List Int → Prop
  | 0, _, _ => False
  | n + 1, xi4, xy7 => T0_spec_HitCurve t0 xi4 xy7 k (fun t0 xi4 xroom6 xy7' => ∃ j, L1_spec_HitCurve t0 xi4 k (L0_spec_HitCurve t0 k n) j xroom6 xy7')
def G_spec_HitCurve (t0 : List Int) (k : List Int → Prop) (I0 : List Int → Int → List Int → Prop) : Prop :=
  ((8 : Int) = 8 ∧ 0 ≤ (8 : Int) ∧ (8 : Int) ≤ 1000000000) ∧
  F_spec_validTrace t0 fun validTrace9 =>
  br (!validTrace9)
  (k ([] : List Int))
  (I0 t0 0 (List.replicate 8 (0 : Int)))
def S_spec_HitCurve (t0 : List Int) (k : List Int → Prop) : Prop := G_spec_HitCurve t0 k (fun t0 xi4 xy7 => ∃ j, L0_spec_HitCurve t0 k j xi4 xy7)
def F_spec_HitCurve (t : List Int) (k : List Int → Prop) : Prop := (VTrace t → k (curveM t)) ∧ (¬ VTrace t → k [])
theorem F_spec_HitCurve_S {t : List Int} {k : List Int → Prop} (h : F_spec_HitCurve t k) : S_spec_HitCurve t k := by
  obtain ⟨hyes, hno⟩ := h
  refine ⟨⟨rfl, by omega, by omega⟩, ?_⟩
  intro b hb
  refine br_not.2 (br_iff.2 ⟨fun e => ?_, fun e => hno fun w => by rw [hb.2 w] at e; cases e⟩)
  have v := hb.1 e
  have hk := hyes v
  have hl := v.1
  rw [curveM_D] at hk
  have inner : ∀ (l : List Int) (d : Int) (i : Int) (B : Int → List Int → Prop), 0 ≤ i → i ≤ 100 → l.length ≤ 100 → 1 ≤ d → B (i + 1) (curveD (l ++ [d])) →
      ∀ (m : Nat) (room : Int), d ≤ room → 9 ≤ room + (m : Int) → L1_spec_HitCurve t i k B (m + 1) room (midC l d room) := by
    intro l d i B i0 i1 l1 d1 hB m
    induction m with
    | zero =>
      intro room h1 h2
      rw [L1_spec_HitCurve, T1_spec_HitCurve]
      refine br_yd (by omega) (br_nd (by omega) ⟨inR (by omega) (by omega), ?_⟩)
      rw [midC_end d1 (by omega)]; exact hB
    | succ m ih =>
      intro room h1 h2
      rw [L1_spec_HitCurve, T1_spec_HitCurve, midC_len]
      refine br_yd (by omega) (br_dec.2 ⟨fun h8 => ?_, fun h8 => ⟨inR (by omega) (by omega), ?_⟩⟩)
      · have := @midC_range l d room (room - 1).toNat (by omega)
        rw [midC_step h1 (by omega) h8]
        exact ⟨inR (by omega) (by omega), inR (by omega) (by omega), ⟨by omega, by omega⟩, inR (by omega) (by omega), ⟨by omega, by omega⟩, inR (by omega) (by omega), ih (room + 1) (by omega) (by omega)⟩
      · rw [midC_end d1 (by omega)]; exact hB
  have go : ∀ (m i : Nat), i + m = t.length → L0_spec_HitCurve t k (m + 1) (i : Int) (curveD (distM [] (t.take i))) := by
    intro m
    induction m with
    | zero =>
      intro i hi
      rw [L0_spec_HitCurve, T0_spec_HitCurve, List.take_of_length_le (by omega)]
      exact br_nd (by omega) hk
    | succ m ih =>
      intro i hi
      have next := ih (i + 1) (by omega)
      rw [take_get (by omega), distM_append] at next
      have hr := dst_range (usedR [] (t.take i)) (t.getD i 0)
      rw [L0_spec_HitCurve, T0_spec_HitCurve]
      refine br_yd (by omega) ⟨⟨by omega, by omega, by omega⟩, 10, ?_⟩
      rw [Int.toNat_natCast]
      by_cases hz : dst (usedR [] (t.take i)) (t.getD i 0) = 0
      · rw [hz] at next ⊢
        rw [curveD_zero] at next
        rw [L1_spec_HitCurve, T1_spec_HitCurve]
        exact br_nd (by omega) ⟨inR (by omega) (by omega), next⟩
      · rw [← midC_start (distM [] (t.take i)) (dst (usedR [] (t.take i)) (t.getD i 0))]
        exact inner _ _ (i : Int) _ (by omega) (by omega) (by rw [distM_len, List.length_take]; omega) (by omega) next 9 _ (Int.le_refl _) (by omega)
  exact ⟨_, go t.length 0 (by omega)⟩
-- laws.equalInts
def T0_laws_equalInts (a0 : List Int) (b1 : List Int) (xi5 : Int) (k : Bool → Prop) (B0 : Int → Prop) : Prop :=
  br (decide (xi5 < (a0.length : Int)))
  ((0 ≤ xi5 ∧ xi5 < (a0.length : Int)) ∧
    (0 ≤ xi5 ∧ xi5 < (b1.length : Int)) ∧
    br ((List.getD a0 (Int.toNat xi5) (0 : Int)) != (List.getD b1 (Int.toNat xi5) (0 : Int)))
    (k false)
    (InR (xi5 + 1) ∧
      B0 (xi5 + 1)))
  (k true)
def L0_laws_equalInts (a0 : List Int) (b1 : List Int) (k : Bool → Prop) : Nat → Int → Prop
  | 0, _ => False
  | n + 1, xi5 => T0_laws_equalInts a0 b1 xi5 k (L0_laws_equalInts a0 b1 k n)
def G_laws_equalInts (a0 : List Int) (b1 : List Int) (k : Bool → Prop) (I0 : List Int → List Int → Int → Prop) : Prop :=
  br ((a0.length : Int) != (b1.length : Int))
  (k false)
  (I0 a0 b1 0)
def S_laws_equalInts (a0 : List Int) (b1 : List Int) (k : Bool → Prop) : Prop := G_laws_equalInts a0 b1 k (fun a0 b1 xi5 => ∃ j, L0_laws_equalInts a0 b1 k j xi5)
def F_laws_equalInts (a b : List Int) (k : Bool → Prop) : Prop := a.length ≤ 1000000000 ∧ k (decide (a = b))
theorem F_laws_equalInts_S {a b : List Int} {k : Bool → Prop} (h : F_laws_equalInts a b k) : S_laws_equalInts a b k := by
  obtain ⟨hl, hk⟩ := h
  refine br_bne.2 ⟨fun he => by rwa [decide_eq_false (fun e => he (by rw [e]))] at hk, fun he => ?_⟩
  have he : a.length = b.length := by omega
  have key : ∀ (r : List Int) (i : Nat), a.drop i = r → (r = b.drop i ↔ a = b) → L0_laws_equalInts a b k (r.length + 1) (i : Int) := by
    intro r
    induction r with
    | nil =>
      intro i hd hi
      have := drop_nil' hd
      rw [L0_laws_equalInts, T0_laws_equalInts]
      simp only [br_dec]
      exact ⟨fun h => by omega, fun _ => by rwa [decide_eq_true (hi.1 (List.drop_eq_nil_of_le (by omega)).symm)] at hk⟩
    | cons x r ih =>
      intro i hd hi
      obtain ⟨h1, h2, _, h3, _⟩ := drop_cons' hd
      obtain ⟨y, s, hs⟩ : ∃ y s, b.drop i = y :: s := by
        cases e : b.drop i with
        | nil => have := drop_nil' e; omega
        | cons y s => exact ⟨y, s, rfl⟩
      obtain ⟨g1, g2, _, g3, _⟩ := drop_cons' hs
      rw [List.length_cons, L0_laws_equalInts, T0_laws_equalInts]
      simp only [br_dec, br_bne, Int.toNat_natCast, h2, g2]
      rw [hs] at hi
      refine ⟨fun _ => ⟨⟨by omega, by omega⟩, ⟨by omega, by omega⟩, ?_⟩, fun h => by omega⟩
      have go : x = y → L0_laws_equalInts a b k (r.length + 1) ((i : Int) + 1) := fun hx => ih (i + 1) h3 (by rw [g3, ← hi, hx]; simp)
      have no : x ≠ y → k false := fun hx => by rwa [decide_eq_false (fun e => hx (List.cons.inj (hi.2 e)).1)] at hk
      exact ⟨no, fun hx => ⟨inR (by omega) (by omega), go hx⟩⟩
  exact ⟨_, key a 0 rfl (by simp)⟩
-- slices.Contains[[]int,int]
def G_slices_Contains_sint_int (s0 : List Int) (v1 : Int) (k : Bool → Prop) : Prop :=
  F_slices_Index_sint_int s0 v1 fun index7 =>
  k (decide (index7 ≥ 0))
def S_slices_Contains_sint_int (s0 : List Int) (v1 : Int) (k : Bool → Prop) : Prop := G_slices_Contains_sint_int s0 v1 k
def F_slices_Contains_sint_int (l : List Int) (n : Int) (k : Bool → Prop) : Prop := l.length ≤ 1000000000 ∧ k (decide (n ∈ l))
theorem F_slices_Contains_sint_int_S {l : List Int} {n : Int} {k : Bool → Prop} (h : F_slices_Contains_sint_int l n k) : S_slices_Contains_sint_int l n k := by
  refine ⟨h.1, ?_⟩
  have : decide (plc l n ≥ 0) = decide (n ∈ l) := decide_eq_decide.2 plc_ge
  show k (decide (plc l n ≥ 0))
  rw [this]; exact h.2
-- impl.NewKeys
def T0_impl_NewKeys (t0 : List Int) (xt10 : Int) (xcount3 : Int) (xt11 : Int) (k : Int → Prop) (B0 : Int → Int → Prop) : Prop :=
  br (decide (xt11 < xt10))
  ((0 ≤ xt11 ∧ xt11 < (t0.length : Int)) ∧
    (0 ≤ xt11 ∧ xt11 ≤ (t0.length : Int)) ∧
    F_slices_Contains_sint_int (List.take (Int.toNat xt11) t0) (List.getD t0 (Int.toNat xt11) (0 : Int)) fun contains20 =>
    br (!contains20)
    (InR (xcount3 + 1) ∧
      InR (xt11 + 1) ∧
      B0 (xcount3 + 1) (xt11 + 1))
    (InR (xt11 + 1) ∧
      B0 xcount3 (xt11 + 1)))
  (k xcount3)
def L0_impl_NewKeys (t0 : List Int) (xt10 : Int) (k : Int → Prop) : Nat → Int → Int → Prop
  | 0, _, _ => False
  | n + 1, xcount3, xt11 => T0_impl_NewKeys t0 xt10 xcount3 xt11 k (L0_impl_NewKeys t0 xt10 k n)
def G_impl_NewKeys (t0 : List Int) (k : Int → Prop) (I0 : List Int → Int → Int → Int → Prop) : Prop :=
  F_impl_ValidTrace t0 fun validTrace7 =>
  br (!validTrace7)
  (k (-1))
  (I0 t0 (t0.length : Int) 0 0)
def S_impl_NewKeys (t0 : List Int) (k : Int → Prop) : Prop := G_impl_NewKeys t0 k (fun t0 xt10 xcount3 xt11 => ∃ j, L0_impl_NewKeys t0 xt10 k j xcount3 xt11)
def F_impl_NewKeys (t : List Int) (k : Int → Prop) : Prop := (VTrace t → k (nk t : Int)) ∧ (¬ (VTrace t) → k (-1))
theorem F_impl_NewKeys_S {t : List Int} {k : Int → Prop} (h : F_impl_NewKeys t k) : S_impl_NewKeys t k := by
  obtain ⟨hyes, hno⟩ := h
  intro b hb
  refine br_not.2 (br_iff.2 ⟨fun e => ?_, fun e => hno fun w => by rw [hb.2 w] at e; cases e⟩)
  have v := hb.1 e
  have hk := hyes v
  have hl := v.1
  have go : ∀ (m i : Nat), i + m = t.length → L0_impl_NewKeys t (t.length : Int) k (m + 1) (nk (t.take i) : Int) (i : Int) := by
    intro m
    induction m with
    | zero =>
      intro i hi
      rw [show t.take i = t from List.take_of_length_le (by omega), L0_impl_NewKeys, T0_impl_NewKeys]
      exact br_dec.2 ⟨fun h => by omega, fun _ => hk⟩
    | succ m ih =>
      intro i hi
      have := nk_le (t.take i)
      rw [List.length_take] at this
      have next := ih (i + 1) (by omega)
      rw [take_get (by omega), nk_snoc] at next
      rw [L0_impl_NewKeys, T0_impl_NewKeys]
      simp only [Int.toNat_natCast]
      refine br_yd (by omega) ⟨⟨by omega, by omega⟩, ⟨by omega, by omega⟩, by rw [List.length_take]; omega, br_not.2 (br_dec.2 ⟨fun hm => ?_, fun hm => ?_⟩)⟩
      · rw [if_pos hm] at next; exact ⟨inR (by omega) (by omega), next⟩
      · rw [if_neg hm] at next; exact ⟨inR (by omega) (by omega), inR (by omega) (by omega), next⟩
  exact ⟨_, go t.length 0 (by omega)⟩
-- laws.FnHitCurveEnd
def G_laws_FnHitCurveEnd_j0 (drawHitCurve11 : List Int) (hitCurve13 : List Int) (k : Bool → Prop) : Prop :=
  F_spec_HitCurve drawHitCurve11 fun hitCurve26 =>
  F_laws_equalInts hitCurve13 hitCurve26 fun equalInts27 =>
  k equalInts27
def G_laws_FnHitCurveEnd (code0 : List Int) (k : Bool → Prop) : Prop :=
  br (decide ((code0.length : Int) > 1048576))
  (k true)
  (F_spec_DrawHitCurve code0 fun drawHitCurve11 =>
    F_impl_HitCurve drawHitCurve11 fun hitCurve13 =>
    F_spec_HitCurve drawHitCurve11 fun hitCurve16 =>
    F_laws_equalInts hitCurve13 hitCurve16 fun equalInts17 =>
    br (!equalInts17)
    (G_laws_FnHitCurveEnd_j0 drawHitCurve11 hitCurve13 k)
    (br ((hitCurve13.length : Int) == 0)
      (G_laws_FnHitCurveEnd_j0 drawHitCurve11 hitCurve13 k)
      (F_impl_NewKeys drawHitCurve11 fun newKeys31 =>
        InR ((drawHitCurve11.length : Int) - newKeys31) ∧
        InR ((hitCurve13.length : Int) - 1) ∧
        (0 ≤ ((hitCurve13.length : Int) - 1) ∧ ((hitCurve13.length : Int) - 1) < (hitCurve13.length : Int)) ∧
        br (decide ((List.getD hitCurve13 (Int.toNat ((hitCurve13.length : Int) - 1)) (0 : Int)) ≤ ((drawHitCurve11.length : Int) - newKeys31)))
        (F_impl_NewKeys drawHitCurve11 fun newKeys44 =>
          br (decide (newKeys44 > 8))
          (k true)
          (k ((List.getD hitCurve13 (Int.toNat ((hitCurve13.length : Int) - 1)) (0 : Int)) == ((drawHitCurve11.length : Int) - newKeys31))))
        (k false))))
def S_laws_FnHitCurveEnd (code0 : List Int) (k : Bool → Prop) : Prop := G_laws_FnHitCurveEnd code0 k
abbrev F_laws_FnHitCurveEnd (code0 : List Int) (k : Bool → Prop) : Prop := S_laws_FnHitCurveEnd code0 k
theorem F_laws_FnHitCurveEnd_S {code0 : List Int} {k : Bool → Prop} (h : F_laws_FnHitCurveEnd code0 k) : S_laws_FnHitCurveEnd code0 k := h
theorem law_FnHitCurveEnd (code : List Int) (hb : ∀ x ∈ code, 0 ≤ x ∧ x ≤ 255) : F_laws_FnHitCurveEnd code (fun r => r = true) := by
  refine br_dec.2 ⟨fun _ => rfl, fun hlen => ⟨hb, fun t l1 => ?_⟩⟩
  by_cases v : VTrace t
  · have hc := curveM_len t
    have hl := v.1
    have hk := nk_le t
    have a := runR_facts v (room := 8) (by omega)
    refine yes v (yes v ⟨by omega, br_de (br_ne (by omega) (yes v ⟨inR (by omega) (by omega), inR (by omega) (by omega), ⟨by omega, by omega⟩, ?_⟩))⟩)
    rw [hc, show (((8 : Nat) : Int) - 1).toNat = 7 from rfl, curveM_run (by omega), show (((7 : Nat) : Int) + 1) = 8 from rfl]
    have h1 := a.new
    refine br_yd (by omega) (yes v (br_dec.2 ⟨fun _ => rfl, fun h => beq_t ?_⟩))
    have := a.fit (by omega); omega
  · exact nay v (nay v ⟨by simp, br_de (br_ye rfl (nay v ⟨by simp, decide_eq_true rfl⟩))⟩)
end Go.Ev
