/- What the functions that the law reaches do, written as plain Lean. No statement is proved here. -/
import Derived.Test.YtlobdkcjlpifjabFnRoomForNoneP0
namespace Go.Ev
set_option linter.unusedVariables false
open Go
def F_impl_ReuseDistances (t : List Int) (k : List Int → Prop) : Prop := (VTrace t → k (distM [] t)) ∧ (¬ (VTrace t) → k [])
theorem F_impl_ReuseDistances_S {t : List Int} {k : List Int → Prop} (h : F_impl_ReuseDistances t k) : S_impl_ReuseDistances t k := by
  obtain ⟨hyes, hno⟩ := h
  intro b hb
  refine br_not.2 (br_iff.2 ⟨fun e => ?_, fun e => hno fun w => by rw [hb.2 w] at e; cases e⟩)
  have v := hb.1 e
  have hk := hyes v
  have hl := v.1
  have go : ∀ (m i : Nat), i + m = t.length → L0_impl_ReuseDistances t (t.length : Int) k (m + 1) (i : Int) (distM [] (t.take i) ++ List.replicate m 0) (usedR [] (t.take i)) := by
    intro m
    induction m with
    | zero =>
      intro i hi
      rw [L0_impl_ReuseDistances, T0_impl_ReuseDistances, List.take_of_length_le (by omega)]
      refine br_dec.2 ⟨fun h => by omega, fun _ => ?_⟩
      rw [List.replicate_zero, List.append_nil]; exact hk
    | succ m ih =>
      intro i hi
      have next := ih (i + 1) (by omega)
      rw [take_get (by omega), distM_append, usedR_append] at next
      have hd : (distM [] (t.take i)).length = i := by rw [distM_len, List.length_take]; omega
      have hu : (usedR [] (t.take i)).length ≤ i := by
        have := nk_le (t.take i)
        rw [List.length_take] at this
        rw [usedR_len]; omega
      have hp := @plc_lt (usedR [] (t.take i)) (t.getD i 0)
      have hg := plc_ge1 (usedR [] (t.take i)) (t.getD i 0)
      have hr := @rmK_le (usedR [] (t.take i)) (t.getD i 0)
      rw [L0_impl_ReuseDistances, T0_impl_ReuseDistances]
      simp only [Int.toNat_natCast]
      refine br_yd (by omega) ⟨⟨by omega, by omega⟩, by omega, inR (by omega) (by omega), ⟨by omega, ?_⟩, by omega, by omega, inR (by omega) (by omega), ?_⟩
      · rw [List.length_append, hd, List.length_replicate]; omega
      · rw [List.replicate_succ, set_mid hd]
        rw [List.append_assoc] at next
        exact next
  refine ⟨⟨rfl, by omega, by omega⟩, ?_⟩
  exact ⟨_, go t.length 0 (by omega)⟩
-- impl.HitCurve
def T1_impl_HitCurve (reuseDistances12 : List Int) (xt13 : Int) (xt14 : Int) (xroom6 : Int) (xy10' : List Int) (B0 : Int → List Int → Prop) (B1 : Int → List Int → Prop) : Prop :=
  br (decide (xroom6 ≤ 8))
  (InR (xroom6 - 1) ∧
    (0 ≤ (xroom6 - 1) ∧ (xroom6 - 1) < (xy10'.length : Int)) ∧
    InR ((List.getD xy10' (Int.toNat (xroom6 - 1)) (0 : Int)) + 1) ∧
    (0 ≤ (xroom6 - 1) ∧ (xroom6 - 1) < (xy10'.length : Int)) ∧
    InR (xroom6 + 1) ∧
    B1 (xroom6 + 1) (List.set xy10' (Int.toNat (xroom6 - 1)) ((List.getD xy10' (Int.toNat (xroom6 - 1)) (0 : Int)) + 1)))
  (InR (xt14 + 1) ∧
    B0 (xt14 + 1) xy10')
def L1_impl_HitCurve (reuseDistances12 : List Int) (xt13 : Int) (xt14 : Int) (k : List Int → Prop) (B0 : Int → List Int → Prop) : Nat → Int → List Int → Prop
  | 0, _, _ => False
  | n + 1, xroom6, xy10' => T1_impl_HitCurve reuseDistances12 xt13 xt14 xroom6 xy10' B0 (L1_impl_HitCurve reuseDistances12 xt13 xt14 k B0 n)
def T0_impl_HitCurve (reuseDistances12 : List Int) (xt13 : Int) (xt14 : Int) (xy10 : List Int) (k : List Int → Prop) (B0 : Int → List Int → Prop) (I1 : List Int → Int → Int → Int → List Int → Prop) : Prop :=
  br (decide (xt14 < xt13))
  ((0 ≤ xt14 ∧ xt14 < (reuseDistances12.length : Int)) ∧
    br ((List.getD reuseDistances12 (Int.toNat xt14) (0 : Int)) == 0)
    (InR (xt14 + 1) ∧
      B0 (xt14 + 1) xy10)
    (I1 reuseDistances12 xt13 xt14 (List.getD reuseDistances12 (Int.toNat xt14) (0 : Int)) xy10))
  (k xy10)
def L0_impl_HitCurve (reuseDistances12 : List Int) (xt13 : Int) (k : List Int → Prop) : Nat → Int → List Int → Prop
  | 0, _, _ => False
  | n + 1, xt14, xy10 => T0_impl_HitCurve reuseDistances12 xt13 xt14 xy10 k (L0_impl_HitCurve reuseDistances12 xt13 k n) (fun reuseDistances12 xt13 xt14 xroom6 xy10' => ∃ j, L1_impl_HitCurve reuseDistances12 xt13 xt14 k (L0_impl_HitCurve reuseDistances12 xt13 k n) j xroom6 xy10')
def G_impl_HitCurve (t0 : List Int) (k : List Int → Prop) (I0 : List Int → Int → Int → List Int → Prop) : Prop :=
  F_impl_ValidTrace t0 fun validTrace8 =>
  br (!validTrace8)
  (k ([] : List Int))
  (((8 : Int) = 8 ∧ 0 ≤ (8 : Int) ∧ (8 : Int) ≤ 1000000000) ∧
    F_impl_ReuseDistances t0 fun reuseDistances12 =>
    I0 reuseDistances12 (reuseDistances12.length : Int) 0 (List.replicate 8 (0 : Int)))
def S_impl_HitCurve (t0 : List Int) (k : List Int → Prop) : Prop := G_impl_HitCurve t0 k (fun reuseDistances12 xt13 xt14 xy10 => ∃ j, L0_impl_HitCurve reuseDistances12 xt13 k j xt14 xy10)
def F_impl_HitCurve (t : List Int) (k : List Int → Prop) : Prop := (VTrace t → k (curveM t)) ∧ (¬ VTrace t → k [])
theorem F_impl_HitCurve_S {t : List Int} {k : List Int → Prop} (h : F_impl_HitCurve t k) : S_impl_HitCurve t k := by
  obtain ⟨hyes, hno⟩ := h
  intro b hb
  refine br_not.2 (br_iff.2 ⟨fun e => ?_, fun e => hno fun w => by rw [hb.2 w] at e; cases e⟩)
  have v := hb.1 e
  have hk := hyes v
  have hl := v.1
  have hd := distM_len t []
  rw [curveM_D] at hk
  have inner : ∀ (l : List Int) (d : Int) (i : Int) (B : Int → List Int → Prop), 0 ≤ i → i ≤ 100 → l.length ≤ 100 → 1 ≤ d → B (i + 1) (curveD (l ++ [d])) →
      ∀ (m : Nat) (room : Int), d ≤ room → 9 ≤ room + (m : Int) → L1_impl_HitCurve (distM [] t) ((distM [] t).length : Int) i k B (m + 1) room (midC l d room) := by
    intro l d i B i0 i1 l1 d1 hB m
    induction m with
    | zero =>
      intro room h1 h2
      rw [L1_impl_HitCurve, T1_impl_HitCurve]
      refine br_nd (by omega) ⟨inR (by omega) (by omega), ?_⟩
      rw [midC_end d1 (by omega)]; exact hB
    | succ m ih =>
      intro room h1 h2
      rw [L1_impl_HitCurve, T1_impl_HitCurve, midC_len]
      refine br_dec.2 ⟨fun h8 => ?_, fun h8 => ⟨inR (by omega) (by omega), ?_⟩⟩
      · have := @midC_range l d room (room - 1).toNat (by omega)
        rw [midC_step h1 (by omega) h8]
        exact ⟨inR (by omega) (by omega), ⟨by omega, by omega⟩, inR (by omega) (by omega), ⟨by omega, by omega⟩, inR (by omega) (by omega), ih (room + 1) (by omega) (by omega)⟩
      · rw [midC_end d1 (by omega)]; exact hB
  have go : ∀ (m i : Nat), i + m = t.length → L0_impl_HitCurve (distM [] t) ((distM [] t).length : Int) k (m + 1) (i : Int) (curveD ((distM [] t).take i)) := by
    intro m
    induction m with
    | zero =>
      intro i hi
      rw [L0_impl_HitCurve, T0_impl_HitCurve, List.take_of_length_le (by omega)]
      exact br_nd (by omega) hk
    | succ m ih =>
      intro i hi
      have next := ih (i + 1) (by omega)
      rw [take_get (by omega)] at next
      have hr := @distM_range t i (by omega)
      rw [L0_impl_HitCurve, T0_impl_HitCurve]
      simp only [Int.toNat_natCast]
      refine br_yd (by omega) ⟨⟨by omega, by omega⟩, br_beq.2 ⟨fun hz => ⟨inR (by omega) (by omega), ?_⟩, fun hz => ⟨9, ?_⟩⟩⟩
      · rw [hz, curveD_zero] at next; exact next
      · rw [← midC_start ((distM [] t).take i) ((distM [] t).getD i 0)]
        exact inner _ _ (i : Int) _ (by omega) (by omega) (by rw [List.length_take]; omega) (by omega) next 8 _ (Int.le_refl _) (by omega)
  exact ⟨⟨rfl, by omega, by omega⟩, yes v ⟨_, go t.length 0 (by omega)⟩⟩
-- impl.RoomFor
def T0_impl_RoomFor (hitCurve15 : List Int) (hits1 : Int) (xt16 : Int) (xt17 : Int) (k : Int → Prop) (B0 : Int → Prop) : Prop :=
  br (decide (xt17 < xt16))
  ((0 ≤ xt17 ∧ xt17 < (hitCurve15.length : Int)) ∧
    br (decide ((List.getD hitCurve15 (Int.toNat xt17) (0 : Int)) ≥ hits1))
    (InR (xt17 + 1) ∧
      k (xt17 + 1))
    (InR (xt17 + 1) ∧
      B0 (xt17 + 1)))
  (k (-1))
def L0_impl_RoomFor (hitCurve15 : List Int) (hits1 : Int) (xt16 : Int) (k : Int → Prop) : Nat → Int → Prop
  | 0, _ => False
  | n + 1, xt17 => T0_impl_RoomFor hitCurve15 hits1 xt16 xt17 k (L0_impl_RoomFor hitCurve15 hits1 xt16 k n)
def G_impl_RoomFor (t0 : List Int) (hits1 : Int) (k : Int → Prop) (I0 : List Int → Int → Int → Int → Prop) : Prop :=
  F_impl_ValidTrace t0 fun validTrace8 =>
  br (!validTrace8)
  (k (-1))
  (br (decide (hits1 < 0))
    (k (-1))
    (F_impl_HitCurve t0 fun hitCurve15 =>
      I0 hitCurve15 hits1 (hitCurve15.length : Int) 0))
def S_impl_RoomFor (t0 : List Int) (hits1 : Int) (k : Int → Prop) : Prop := G_impl_RoomFor t0 hits1 k (fun hitCurve15 hits1 xt16 xt17 => ∃ j, L0_impl_RoomFor hitCurve15 hits1 xt16 k j xt17)
def F_impl_RoomFor (t : List Int) (hits : Int) (k : Int → Prop) : Prop := (VTrace t ∧ 0 ≤ hits → k (roomM t hits)) ∧ (¬ (VTrace t ∧ 0 ≤ hits) → k (-1))
theorem F_impl_RoomFor_S {t : List Int} {hits : Int} {k : Int → Prop} (h : F_impl_RoomFor t hits k) : S_impl_RoomFor t hits k := by
  obtain ⟨hyes, hno⟩ := h
  intro b hb
  refine br_not.2 (br_iff.2 ⟨fun e => ?_, fun e => hno fun w => by rw [hb.2 w.1] at e; cases e⟩)
  have v := hb.1 e
  refine br_dec.2 ⟨fun hn => hno fun w => by omega, fun hn => yes v ?_⟩
  have hk := hyes ⟨v, by omega⟩
  have hc := curveM_len t
  have go : ∀ (r : List Int) (i : Nat), (curveM t).drop i = r → firstGe r hits ((i : Int) + 1) = roomM t hits → L0_impl_RoomFor (curveM t) hits ((curveM t).length : Int) k (r.length + 1) (i : Int) := by
    intro r
    induction r with
    | nil =>
      intro i hd he
      have := drop_nil' hd
      rw [L0_impl_RoomFor, T0_impl_RoomFor]
      refine br_nd (by omega) ?_
      rw [show (-1 : Int) = roomM t hits from he]; exact hk
    | cons x r ih =>
      intro i hd he
      obtain ⟨g1, g2, g5, g3, g4⟩ := drop_cons' hd
      rw [List.length_cons, L0_impl_RoomFor, T0_impl_RoomFor]
      simp only [Int.toNat_natCast, g2]
      rw [firstGe] at he
      refine br_yd (by omega) ⟨⟨by omega, by omega⟩, br_dec.2 ⟨fun h => ⟨inR (by omega) (by omega), ?_⟩, fun h => ⟨inR (by omega) (by omega), ?_⟩⟩⟩
      · rw [if_pos (by omega)] at he; rw [he]; exact hk
      · rw [if_neg (by omega)] at he; exact ih (i + 1) g3 he
  exact ⟨_, go (curveM t) 0 rfl rfl⟩
-- spec.inRange
def G_spec_inRange (n0 : Int) (low1 : Int) (high2 : Int) (k : Bool → Prop) : Prop :=
  br (decide (low1 ≤ n0))
  (k (decide (n0 ≤ high2)))
  (k false)
def S_spec_inRange (n0 : Int) (low1 : Int) (high2 : Int) (k : Bool → Prop) : Prop := G_spec_inRange n0 low1 high2 k
def F_spec_inRange (n low high : Int) (k : Bool → Prop) : Prop := k (decide (low ≤ n ∧ n ≤ high))
theorem F_spec_inRange_S {n low high : Int} {k : Bool → Prop} (h : F_spec_inRange n low high k) : S_spec_inRange n low high k := by
  unfold F_spec_inRange at h
  simp only [S_spec_inRange, G_spec_inRange, br_dec]
  refine ⟨fun h1 => ?_, fun h1 => ?_⟩
  · simpa [h1] using h
  · simpa [h1] using h
-- spec.allIn
def T0_spec_allIn (high2 : Int) (list0 : List Int) (low1 : Int) (xi7 : Int) (k : Bool → Prop) (B0 : Int → Prop) : Prop :=
  br (decide (xi7 < (list0.length : Int)))
  ((0 ≤ xi7 ∧ xi7 < (list0.length : Int)) ∧
    F_spec_inRange (List.getD list0 (Int.toNat xi7) (0 : Int)) low1 high2 fun inRange20 =>
    br (!inRange20)
    (k false)
    (InR (xi7 + 1) ∧
      B0 (xi7 + 1)))
  (k true)
def L0_spec_allIn (high2 : Int) (list0 : List Int) (low1 : Int) (k : Bool → Prop) : Nat → Int → Prop
  | 0, _ => False
  | n + 1, xi7 => T0_spec_allIn high2 list0 low1 xi7 k (L0_spec_allIn high2 list0 low1 k n)
def G_spec_allIn (list0 : List Int) (low1 : Int) (high2 : Int) (I0 : Int → List Int → Int → Int → Prop) : Prop :=
  I0 high2 list0 low1 0
def S_spec_allIn (list0 : List Int) (low1 : Int) (high2 : Int) (k : Bool → Prop) : Prop := G_spec_allIn list0 low1 high2 (fun high2 list0 low1 xi7 => ∃ j, L0_spec_allIn high2 list0 low1 k j xi7)
def F_spec_allIn (l : List Int) (low high : Int) (k : Bool → Prop) : Prop := l.length ≤ 1000000000 ∧ k (decide (∀ x ∈ l, low ≤ x ∧ x ≤ high))
theorem F_spec_allIn_S {l : List Int} {low high : Int} {k : Bool → Prop} (h : F_spec_allIn l low high k) : S_spec_allIn l low high k := by
  obtain ⟨hl, hk⟩ := h
  have key : ∀ (r : List Int) (i : Nat), l.drop i = r → ((∀ x ∈ r, low ≤ x ∧ x ≤ high) ↔ (∀ x ∈ l, low ≤ x ∧ x ≤ high)) → L0_spec_allIn high l low k (r.length + 1) (i : Int) := by
    intro r
    induction r with
    | nil =>
      intro i hd he
      have := drop_nil' hd
      rw [L0_spec_allIn, T0_spec_allIn]
      simp only [br_dec]
      refine ⟨fun h => by omega, fun _ => ?_⟩
      rwa [decide_eq_true (he.1 (by simp))] at hk
    | cons x r ih =>
      intro i hd he
      obtain ⟨h1, h2, _, h3, _⟩ := drop_cons' hd
      rw [List.length_cons, L0_spec_allIn, T0_spec_allIn]
      simp only [br_dec, F_spec_inRange, br_not, Int.toNat_natCast, h2]
      refine ⟨fun _ => ⟨⟨by omega, by omega⟩, fun hx => ⟨inR (by omega) (by omega), ?_⟩, fun hx => ?_⟩, fun h => by omega⟩
      · refine ih (i + 1) h3 (Iff.trans ?_ he)
        simp only [List.mem_cons, forall_eq_or_imp]
        exact ⟨fun h => ⟨hx, h⟩, fun h => h.2⟩
      · rwa [decide_eq_false (fun h => hx (he.2 h x (by simp)))] at hk
  exact ⟨_, key l 0 rfl Iff.rfl⟩
-- spec.validTrace
def G_spec_validTrace (t0 : List Int) (k : Bool → Prop) : Prop :=
  br (decide ((t0.length : Int) ≤ 24))
  (F_spec_allIn t0 (0 : Int) (31 : Int) fun allIn8 =>
    k allIn8)
  (k false)
def S_spec_validTrace (t0 : List Int) (k : Bool → Prop) : Prop := G_spec_validTrace t0 k
def F_spec_validTrace (t : List Int) (k : Bool → Prop) : Prop := ∀ b : Bool, (b = true ↔ VTrace t) → k b
theorem F_spec_validTrace_S {t : List Int} {k : Bool → Prop} (h : F_spec_validTrace t k) : S_spec_validTrace t k :=
  br_dec.2 ⟨fun h1 => ⟨by omega, h _ (by simp only [decide_eq_true_eq]; exact ⟨fun h2 => ⟨by omega, h2⟩, fun v => v.2⟩)⟩, fun h1 => h false (by simp only [Bool.false_eq_true, false_iff]; exact fun v => h1 (by have := v.1; omega))⟩
-- spec.placeOf
def T0_spec_placeOf (list0 : List Int) (n1 : Int) (xi5 : Int) (k : Int → Prop) (B0 : Int → Prop) : Prop :=
  br (decide (xi5 < (list0.length : Int)))
  ((0 ≤ xi5 ∧ xi5 < (list0.length : Int)) ∧
    br ((List.getD list0 (Int.toNat xi5) (0 : Int)) == n1)
    (k xi5)
    (InR (xi5 + 1) ∧
      B0 (xi5 + 1)))
  (k (-1))
def L0_spec_placeOf (list0 : List Int) (n1 : Int) (k : Int → Prop) : Nat → Int → Prop
  | 0, _ => False
  | n + 1, xi5 => T0_spec_placeOf list0 n1 xi5 k (L0_spec_placeOf list0 n1 k n)
def G_spec_placeOf (list0 : List Int) (n1 : Int) (I0 : List Int → Int → Int → Prop) : Prop :=
  I0 list0 n1 0
def S_spec_placeOf (list0 : List Int) (n1 : Int) (k : Int → Prop) : Prop := G_spec_placeOf list0 n1 (fun list0 n1 xi5 => ∃ j, L0_spec_placeOf list0 n1 k j xi5)
def F_spec_placeOf (l : List Int) (n : Int) (k : Int → Prop) : Prop := l.length ≤ 1000000000 ∧ k (plc l n)
theorem F_spec_placeOf_S {l : List Int} {n : Int} {k : Int → Prop} (h : F_spec_placeOf l n k) : S_spec_placeOf l n k := by
  obtain ⟨hl, hk⟩ := h
  have key : ∀ (r : List Int) (i : Nat), l.drop i = r → plcF r n i = plc l n → L0_spec_placeOf l n k (r.length + 1) (i : Int) := by
    intro r
    induction r with
    | nil =>
      intro i hd he
      have := drop_nil' hd
      rw [L0_spec_placeOf, T0_spec_placeOf]
      simp only [br_dec]
      exact ⟨fun h => by omega, fun _ => by rw [show (-1 : Int) = plc l n from he]; exact hk⟩
    | cons x r ih =>
      intro i hd he
      obtain ⟨h1, h2, _, h3, _⟩ := drop_cons' hd
      rw [List.length_cons, L0_spec_placeOf, T0_spec_placeOf]
      simp only [br_dec, br_beq, Int.toNat_natCast, h2]
      refine ⟨fun _ => ⟨⟨by omega, by omega⟩, fun hx => ?_, fun hx => ⟨inR (by omega) (by omega), ?_⟩⟩, fun h => by omega⟩
      · simp only [plcF, if_pos hx] at he; rw [he]; exact hk
      · simp only [plcF, if_neg hx] at he; exact ih (i + 1) h3 he
  exact ⟨_, key l 0 rfl rfl⟩
-- spec.isIn
def G_spec_isIn (list0 : List Int) (n1 : Int) (k : Bool → Prop) : Prop :=
  F_spec_placeOf list0 n1 fun placeOf7 =>
  k (decide (placeOf7 ≥ 0))
def S_spec_isIn (list0 : List Int) (n1 : Int) (k : Bool → Prop) : Prop := G_spec_isIn list0 n1 k
def F_spec_isIn (l : List Int) (n : Int) (k : Bool → Prop) : Prop := l.length ≤ 1000000000 ∧ k (decide (n ∈ l))
theorem F_spec_isIn_S {l : List Int} {n : Int} {k : Bool → Prop} (h : F_spec_isIn l n k) : S_spec_isIn l n k := by
  refine ⟨h.1, ?_⟩
  have : decide (plc l n ≥ 0) = decide (n ∈ l) := decide_eq_decide.2 plc_ge
  show k (decide (plc l n ≥ 0))
  rw [this]; exact h.2
-- spec.distance
def T0_spec_distance (at1 : Int) (t0 : List Int) (xi6 : Int) (xseen5 : List Int) (k : Int → Prop) (B0 : Int → List Int → Prop) : Prop :=
  br (decide (xi6 ≥ 0))
  ((0 ≤ xi6 ∧ xi6 < (t0.length : Int)) ∧
    (0 ≤ at1 ∧ at1 < (t0.length : Int)) ∧
    br ((List.getD t0 (Int.toNat xi6) (0 : Int)) == (List.getD t0 (Int.toNat at1) (0 : Int)))
    (InR ((xseen5.length : Int) + 1) ∧
      k ((xseen5.length : Int) + 1))
    ((0 ≤ xi6 ∧ xi6 < (t0.length : Int)) ∧
      F_spec_isIn xseen5 (List.getD t0 (Int.toNat xi6) (0 : Int)) fun isIn31 =>
      br (!isIn31)
      ((0 ≤ xi6 ∧ xi6 < (t0.length : Int)) ∧
        (xseen5.length + 1 ≤ 1000000000) ∧
        InR (xi6 - 1) ∧
        B0 (xi6 - 1) (xseen5 ++ ([(List.getD t0 (Int.toNat xi6) (0 : Int))] : List Int)))
      (InR (xi6 - 1) ∧
        B0 (xi6 - 1) xseen5)))
  (k 0)
def L0_spec_distance (at1 : Int) (t0 : List Int) (k : Int → Prop) : Nat → Int → List Int → Prop
  | 0, _, _ => False
  | n + 1, xi6, xseen5 => T0_spec_distance at1 t0 xi6 xseen5 k (L0_spec_distance at1 t0 k n)
def G_spec_distance (t0 : List Int) (at1 : Int) (I0 : Int → List Int → Int → List Int → Prop) : Prop :=
  InR (at1 - 1) ∧
  I0 at1 t0 (at1 - 1) ([] : List Int)
def S_spec_distance (t0 : List Int) (at1 : Int) (k : Int → Prop) : Prop := G_spec_distance t0 at1 (fun at1 t0 xi6 xseen5 => ∃ j, L0_spec_distance at1 t0 k j xi6 xseen5)
def F_spec_distance (t : List Int) (i : Int) (k : Int → Prop) : Prop := (0 ≤ i ∧ i < t.length ∧ t.length ≤ 1000000) ∧ k (dst (usedR [] (t.take i.toNat)) (t.getD i.toNat 0))
theorem F_spec_distance_S {t : List Int} {i : Int} {k : Int → Prop} (h : F_spec_distance t i k) : S_spec_distance t i k := by
  obtain ⟨⟨h0, h1, h2⟩, hk⟩ := h
  have hsl : (t.take i.toNat).reverse.length = i.toNat := by rw [List.length_reverse, List.length_take]; omega
  have hsg : ∀ q : Nat, q < i.toNat → (t.take i.toNat).reverse[q]? = some (t.getD (i.toNat - 1 - q) 0) := fun q hq => by
    rw [List.getElem?_reverse (by rw [List.length_take]; omega), List.length_take, List.getElem?_take, if_pos (by omega), show min i.toNat t.length - 1 - q = i.toNat - 1 - q by omega]
    exact some_of (by omega)
  rw [usedR_ded] at hk
  have go : ∀ (m q : Nat), q + m = i.toNat → t.getD i.toNat 0 ∉ (t.take i.toNat).reverse.take q → L0_spec_distance i t k (m + 1) (i - 1 - q) (ded ((t.take i.toNat).reverse.take q)) := by
    intro m
    induction m with
    | zero =>
      intro q hq hn
      rw [List.take_of_length_le (by omega)] at hn
      rw [L0_spec_distance, T0_spec_distance, List.take_of_length_le (by omega)]
      refine br_dec.2 ⟨fun h => by omega, fun _ => ?_⟩
      rw [dst_zero.2 (fun c => hn (mem_ded.1 c))] at hk
      exact hk
    | succ m ih =>
      intro q hq hn
      have hq1 : (i - 1 - (q : Int)).toNat = i.toNat - 1 - q := by omega
      have hg := hsg q (by omega)
      have hlen : (ded ((t.take i.toNat).reverse.take q)).length ≤ i.toNat := by
        have := nodup_le (ded_nodup ((t.take i.toNat).reverse.take q)) fun x hx => mem_ded.1 hx
        rw [List.length_take] at this; omega
      have e : (t.take i.toNat).reverse.take (q + 1) = (t.take i.toNat).reverse.take q ++ [t.getD (i.toNat - 1 - q) 0] := by
        rw [List.take_add_one, hg]; rfl
      rw [L0_spec_distance, T0_spec_distance]
      rw [hq1]
      refine br_dec.2 ⟨fun _ => ⟨⟨by omega, by omega⟩, ⟨by omega, by omega⟩, br_beq.2 ⟨fun he => ⟨inR (by omega) (by omega), ?_⟩, fun he => ⟨⟨by omega, by omega⟩, by omega, br_not.2 (br_dec.2 ⟨fun hm => ⟨inR (by omega) (by omega), ?_⟩, fun hm => ⟨⟨by omega, by omega⟩, by omega, inR (by omega) (by omega), ?_⟩⟩)⟩⟩⟩, fun h => by omega⟩
      · rw [he] at hg
        rw [ded_first hg hn] at hk
        exact hk
      · have next := ih (q + 1) (by omega) (by
          rw [e, List.mem_append, List.mem_singleton]
          rintro (c | c)
          · exact hn c
          · exact he c.symm)
        rw [e, ded_snoc, if_pos hm] at next
        rw [show i - 1 - (q : Int) - 1 = i - 1 - ((q + 1 : Nat) : Int) by omega]
        exact next
      · have next := ih (q + 1) (by omega) (by
          rw [e, List.mem_append, List.mem_singleton]
          rintro (c | c)
          · exact hn c
          · exact he c.symm)
        rw [e, ded_snoc, if_neg hm] at next
        rw [show i - 1 - (q : Int) - 1 = i - 1 - ((q + 1 : Nat) : Int) by omega]
        exact next
  have := go i.toNat 0 (by omega) (by simp)
  exact ⟨inR (by omega) (by omega), _, by simpa [ded] using this⟩
-- spec.HitCurve
def T1_spec_HitCurve (t0 : List Int) (xi4 : Int) (xroom6 : Int) (xy7' : List Int) (B0 : Int → List Int → Prop) (B1 : Int → List Int → Prop) : Prop :=
  br (decide (xroom6 ≥ 1))
  (br (decide (xroom6 ≤ 8))
    (InR (xroom6 - 1) ∧
      InR (xroom6 - 1) ∧
      (0 ≤ (xroom6 - 1) ∧ (xroom6 - 1) < (xy7'.length : Int)) ∧
      InR ((List.getD xy7' (Int.toNat (xroom6 - 1)) (0 : Int)) + 1) ∧
      (0 ≤ (xroom6 - 1) ∧ (xroom6 - 1) < (xy7'.length : Int)) ∧
      InR (xroom6 + 1) ∧
      B1 (xroom6 + 1) (List.set xy7' (Int.toNat (xroom6 - 1)) ((List.getD xy7' (Int.toNat (xroom6 - 1)) (0 : Int)) + 1)))
    (InR (xi4 + 1) ∧
      B0 (xi4 + 1) xy7'))
  (InR (xi4 + 1) ∧
    B0 (xi4 + 1) xy7')
def L1_spec_HitCurve (t0 : List Int) (xi4 : Int) (k : List Int → Prop) (B0 : Int → List Int → Prop) : Nat → Int → List Int → Prop
  | 0, _, _ => False
  | n + 1, xroom6, xy7' => T1_spec_HitCurve t0 xi4 xroom6 xy7' B0 (L1_spec_HitCurve t0 xi4 k B0 n)
def T0_spec_HitCurve (t0 : List Int) (xi4 : Int) (xy7 : List Int) (k : List Int → Prop) (I1 : List Int → Int → Int → List Int → Prop) : Prop :=
  br (decide (xi4 < (t0.length : Int)))
  (F_spec_distance t0 xi4 fun distance19 =>
    I1 t0 xi4 distance19 xy7)
  (k xy7)
def L0_spec_HitCurve (t0 : List Int) (k : List Int → Prop) : Nat → Int → List Int → Prop
  | 0, _, _ => False
  | n + 1, xi4, xy7 => T0_spec_HitCurve t0 xi4 xy7 k (fun t0 xi4 xroom6 xy7' => ∃ j, L1_spec_HitCurve t0 xi4 k (L0_spec_HitCurve t0 k n) j xroom6 xy7')
def G_spec_HitCurve (t0 : List Int) (k : List Int → Prop) (I0 : List Int → Int → List Int → Prop) : Prop :=
  ((8 : Int) = 8 ∧ 0 ≤ (8 : Int) ∧ (8 : Int) ≤ 1000000000) ∧
  F_spec_validTrace t0 fun validTrace9 =>
  br (!validTrace9)
  (k ([] : List Int))
  (I0 t0 0 (List.replicate 8 (0 : Int)))
def S_spec_HitCurve (t0 : List Int) (k : List Int → Prop) : Prop := G_spec_HitCurve t0 k (fun t0 xi4 xy7 => ∃ j, L0_spec_HitCurve t0 k j xi4 xy7)
def F_spec_HitCurve (t : List Int) (k : List Int → Prop) : Prop := (VTrace t → k (curveM t)) ∧ (¬ VTrace t → k [])
theorem F_spec_HitCurve_S {t : List Int} {k : List Int → Prop} (h : F_spec_HitCurve t k) : S_spec_HitCurve t k := by
  obtain ⟨hyes, hno⟩ := h
  refine ⟨⟨rfl, by omega, by omega⟩, ?_⟩
  intro b hb
  refine br_not.2 (br_iff.2 ⟨fun e => ?_, fun e => hno fun w => by rw [hb.2 w] at e; cases e⟩)
  have v := hb.1 e
  have hk := hyes v
  have hl := v.1
  rw [curveM_D] at hk
  have inner : ∀ (l : List Int) (d : Int) (i : Int) (B : Int → List Int → Prop), 0 ≤ i → i ≤ 100 → l.length ≤ 100 → 1 ≤ d → B (i + 1) (curveD (l ++ [d])) →
      ∀ (m : Nat) (room : Int), d ≤ room → 9 ≤ room + (m : Int) → L1_spec_HitCurve t i k B (m + 1) room (midC l d room) := by
    intro l d i B i0 i1 l1 d1 hB m
    induction m with
    | zero =>
      intro room h1 h2
      rw [L1_spec_HitCurve, T1_spec_HitCurve]
      refine br_yd (by omega) (br_nd (by omega) ⟨inR (by omega) (by omega), ?_⟩)
      rw [midC_end d1 (by omega)]; exact hB
    | succ m ih =>
      intro room h1 h2
      rw [L1_spec_HitCurve, T1_spec_HitCurve, midC_len]
      refine br_yd (by omega) (br_dec.2 ⟨fun h8 => ?_, fun h8 => ⟨inR (by omega) (by omega), ?_⟩⟩)
      · have := @midC_range l d room (room - 1).toNat (by omega)
        rw [midC_step h1 (by omega) h8]
        exact ⟨inR (by omega) (by omega), inR (by omega) (by omega), ⟨by omega, by omega⟩, inR (by omega) (by omega), ⟨by omega, by omega⟩, inR (by omega) (by omega), ih (room + 1) (by omega) (by omega)⟩
      · rw [midC_end d1 (by omega)]; exact hB
  have go : ∀ (m i : Nat), i + m = t.length → L0_spec_HitCurve t k (m + 1) (i : Int) (curveD (distM [] (t.take i))) := by
    intro m
    induction m with
    | zero =>
      intro i hi
      rw [L0_spec_HitCurve, T0_spec_HitCurve, List.take_of_length_le (by omega)]
      exact br_nd (by omega) hk
    | succ m ih =>
      intro i hi
      have next := ih (i + 1) (by omega)
      rw [take_get (by omega), distM_append] at next
      have hr := dst_range (usedR [] (t.take i)) (t.getD i 0)
      rw [L0_spec_HitCurve, T0_spec_HitCurve]
      refine br_yd (by omega) ⟨⟨by omega, by omega, by omega⟩, 10, ?_⟩
      rw [Int.toNat_natCast]
      by_cases hz : dst (usedR [] (t.take i)) (t.getD i 0) = 0
      · rw [hz] at next ⊢
        rw [curveD_zero] at next
        rw [L1_spec_HitCurve, T1_spec_HitCurve]
        exact br_nd (by omega) ⟨inR (by omega) (by omega), next⟩
      · rw [← midC_start (distM [] (t.take i)) (dst (usedR [] (t.take i)) (t.getD i 0))]
        exact inner _ _ (i : Int) _ (by omega) (by omega) (by rw [distM_len, List.length_take]; omega) (by omega) next 9 _ (Int.le_refl _) (by omega)
  exact ⟨_, go t.length 0 (by omega)⟩
-- spec.RoomFor
def T0_spec_RoomFor (hitCurve15 : List Int) (hits1 : Int) (xi6 : Int) (k : Int → Prop) (B0 : Int → Prop) : Prop :=
  br (decide (xi6 < (hitCurve15.length : Int)))
  ((0 ≤ xi6 ∧ xi6 < (hitCurve15.length : Int)) ∧
    br (decide ((List.getD hitCurve15 (Int.toNat xi6) (0 : Int)) ≥ hits1))
    (InR (xi6 + 1) ∧
      k (xi6 + 1))
    (InR (xi6 + 1) ∧
      B0 (xi6 + 1)))
  (k (-1))
def L0_spec_RoomFor (hitCurve15 : List Int) (hits1 : Int) (k : Int → Prop) : Nat → Int → Prop
  | 0, _ => False
  | n + 1, xi6 => T0_spec_RoomFor hitCurve15 hits1 xi6 k (L0_spec_RoomFor hitCurve15 hits1 k n)
def G_spec_RoomFor (t0 : List Int) (hits1 : Int) (k : Int → Prop) (I0 : List Int → Int → Int → Prop) : Prop :=
  F_spec_validTrace t0 fun validTrace8 =>
  br (!validTrace8)
  (k (-1))
  (br (decide (hits1 < 0))
    (k (-1))
    (F_spec_HitCurve t0 fun hitCurve15 =>
      I0 hitCurve15 hits1 0))
def S_spec_RoomFor (t0 : List Int) (hits1 : Int) (k : Int → Prop) : Prop := G_spec_RoomFor t0 hits1 k (fun hitCurve15 hits1 xi6 => ∃ j, L0_spec_RoomFor hitCurve15 hits1 k j xi6)
def F_spec_RoomFor (t : List Int) (hits : Int) (k : Int → Prop) : Prop := (VTrace t ∧ 0 ≤ hits → k (roomM t hits)) ∧ (¬ (VTrace t ∧ 0 ≤ hits) → k (-1))
theorem F_spec_RoomFor_S {t : List Int} {hits : Int} {k : Int → Prop} (h : F_spec_RoomFor t hits k) : S_spec_RoomFor t hits k := by
  obtain ⟨hyes, hno⟩ := h
  intro b hb
  refine br_not.2 (br_iff.2 ⟨fun e => ?_, fun e => hno fun w => by rw [hb.2 w.1] at e; cases e⟩)
  have v := hb.1 e
  refine br_dec.2 ⟨fun hn => hno fun w => by omega, fun hn => yes v ?_⟩
  have hk := hyes ⟨v, by omega⟩
  have hc := curveM_len t
  have go : ∀ (r : List Int) (i : Nat), (curveM t).drop i = r → firstGe r hits ((i : Int) + 1) = roomM t hits → L0_spec_RoomFor (curveM t) hits k (r.length + 1) (i : Int) := by
    intro r
    induction r with
    | nil =>
      intro i hd he
      have := drop_nil' hd
      rw [L0_spec_RoomFor, T0_spec_RoomFor]
      refine br_nd (by omega) ?_
      rw [show (-1 : Int) = roomM t hits from he]; exact hk
    | cons x r ih =>
      intro i hd he
      obtain ⟨g1, g2, g5, g3, g4⟩ := drop_cons' hd
      rw [List.length_cons, L0_spec_RoomFor, T0_spec_RoomFor]
      simp only [Int.toNat_natCast, g2]
      rw [firstGe] at he
      refine br_yd (by omega) ⟨⟨by omega, by omega⟩, br_dec.2 ⟨fun h => ⟨inR (by omega) (by omega), ?_⟩, fun h => ⟨inR (by omega) (by omega), ?_⟩⟩⟩
      · rw [if_pos (by omega)] at he; rw [he]; exact hk
      · rw [if_neg (by omega)] at he; exact ih (i + 1) g3 he
  exact ⟨_, go (curveM t) 0 rfl rfl⟩
-- impl.validRoom
def G_impl_validRoom (room0 : Int) (k : Bool → Prop) : Prop :=
  br (decide (1 ≤ room0))
  (k (decide (room0 ≤ 8)))
  (k false)
def S_impl_validRoom (room0 : Int) (k : Bool → Prop) : Prop := G_impl_validRoom room0 k
def F_impl_validRoom (n : Int) (k : Bool → Prop) : Prop := k (decide (1 ≤ n ∧ n ≤ 8))
theorem F_impl_validRoom_S {n : Int} {k : Bool → Prop} (h : F_impl_validRoom n k) : S_impl_validRoom n k := by
  unfold F_impl_validRoom at h
  simp only [S_impl_validRoom, G_impl_validRoom, br_dec]
  refine ⟨fun h1 => ?_, fun h1 => ?_⟩
  · simpa [h1] using h
  · simpa [h1] using h
-- slices.Contains[[]int,int]
def G_slices_Contains_sint_int (s0 : List Int) (v1 : Int) (k : Bool → Prop) : Prop :=
  F_slices_Index_sint_int s0 v1 fun index7 =>
  k (decide (index7 ≥ 0))
def S_slices_Contains_sint_int (s0 : List Int) (v1 : Int) (k : Bool → Prop) : Prop := G_slices_Contains_sint_int s0 v1 k
def F_slices_Contains_sint_int (l : List Int) (n : Int) (k : Bool → Prop) : Prop := l.length ≤ 1000000000 ∧ k (decide (n ∈ l))
theorem F_slices_Contains_sint_int_S {l : List Int} {n : Int} {k : Bool → Prop} (h : F_slices_Contains_sint_int l n k) : S_slices_Contains_sint_int l n k := by
  refine ⟨h.1, ?_⟩
  have : decide (plc l n ≥ 0) = decide (n ∈ l) := decide_eq_decide.2 plc_ge
  show k (decide (plc l n ≥ 0))
  rw [this]; exact h.2
-- impl.differentKeys
def T0_impl_differentKeys (list0 : List Int) (xt6 : Int) (xt7 : Int) (k : Bool → Prop) (B0 : Int → Prop) : Prop :=
  br (decide (xt7 < xt6))
  ((0 ≤ xt7 ∧ xt7 < (list0.length : Int)) ∧
    F_impl_validKey (List.getD list0 (Int.toNat xt7) (0 : Int)) fun validKey13 =>
    br (!validKey13)
    (k false)
    ((0 ≤ xt7 ∧ xt7 ≤ (list0.length : Int)) ∧
      F_slices_Contains_sint_int (List.take (Int.toNat xt7) list0) (List.getD list0 (Int.toNat xt7) (0 : Int)) fun contains20 =>
      br contains20
      (k false)
      (InR (xt7 + 1) ∧
        B0 (xt7 + 1))))
  (k true)
def L0_impl_differentKeys (list0 : List Int) (xt6 : Int) (k : Bool → Prop) : Nat → Int → Prop
  | 0, _ => False
  | n + 1, xt7 => T0_impl_differentKeys list0 xt6 xt7 k (L0_impl_differentKeys list0 xt6 k n)
def G_impl_differentKeys (list0 : List Int) (I0 : List Int → Int → Int → Prop) : Prop :=
  I0 list0 (list0.length : Int) 0
def S_impl_differentKeys (list0 : List Int) (k : Bool → Prop) : Prop := G_impl_differentKeys list0 (fun list0 xt6 xt7 => ∃ j, L0_impl_differentKeys list0 xt6 k j xt7)
def F_impl_differentKeys (l : List Int) (k : Bool → Prop) : Prop := l.length ≤ 1000000000 ∧ ∀ b : Bool, (b = true ↔ (∀ x ∈ l, 0 ≤ x ∧ x ≤ 31) ∧ l.Nodup) → k b
theorem F_impl_differentKeys_S {l : List Int} {k : Bool → Prop} (h : F_impl_differentKeys l k) : S_impl_differentKeys l k := by
  obtain ⟨hl, h⟩ := h
  have hno : ¬ ((∀ x ∈ l, 0 ≤ x ∧ x ≤ 31) ∧ l.Nodup) → k false := fun hv => h false (by simp only [Bool.false_eq_true, false_iff]; exact hv)
  have key : ∀ (r : List Int) (i : Nat), l.drop i = r → (∀ x ∈ l.take i, 0 ≤ x ∧ x ≤ 31) → (l.take i).Nodup → L0_impl_differentKeys l (l.length : Int) k (r.length + 1) (i : Int) := by
    intro r
    induction r with
    | nil =>
      intro i hd he hn
      have := drop_nil' hd
      rw [List.take_of_length_le this] at he hn
      rw [L0_impl_differentKeys, T0_impl_differentKeys]
      simp only [br_dec]
      exact ⟨fun h => by omega, fun _ => h true (by simp only [true_iff]; exact ⟨he, hn⟩)⟩
    | cons x r ih =>
      intro i hd he hn
      obtain ⟨h1, h2, h5, h3, h4⟩ := drop_cons' hd
      rw [List.length_cons, L0_impl_differentKeys, T0_impl_differentKeys]
      simp only [br_dec, F_impl_validKey, F_slices_Contains_sint_int, Int.toNat_natCast, h2, br_not]
      have hxl : x ∈ l := List.mem_of_getElem? h5
      refine ⟨fun _ => ⟨⟨by omega, by omega⟩, fun hx => ⟨⟨by omega, by omega⟩, by simp; omega, fun hc => ?_, fun hc => ⟨inR (by omega) (by omega), ?_⟩⟩, fun hx => hno fun v => hx (v.1 x hxl)⟩, fun h => by omega⟩
      · refine hno fun v => ?_
        have hn2 := v.2
        rw [← List.take_append_drop i l, hd] at hn2
        exact (List.nodup_append.1 hn2).2.2 x hc x (by simp) rfl
      · refine ih (i + 1) h3 ?_ ?_
        · rw [h4]; intro y hy
          rcases List.mem_append.1 hy with hy | hy
          · exact he y hy
          · simp at hy; subst hy; exact hx
        · rw [h4, List.nodup_append]
          refine ⟨hn, by simp, fun a ha b hb e => ?_⟩
          simp at hb; subst hb; subst e; exact hc ha
  exact ⟨_, key l 0 rfl (by simp) (by simp)⟩
-- impl.ValidKeys
def G_impl_ValidKeys (list0 : List Int) (room1 : Int) (k : Bool → Prop) : Prop :=
  F_impl_validRoom room1 fun validRoom6 =>
  br validRoom6
  (br (decide ((list0.length : Int) ≤ room1))
    (F_impl_differentKeys list0 fun differentKeys15 =>
      k differentKeys15)
    (k false))
  (k false)
def S_impl_ValidKeys (list0 : List Int) (room1 : Int) (k : Bool → Prop) : Prop := G_impl_ValidKeys list0 room1 k
def F_impl_ValidKeys (l : List Int) (room : Int) (k : Bool → Prop) : Prop := ∀ b : Bool, (b = true ↔ VKeys l room) → k b
theorem F_impl_ValidKeys_S {l : List Int} {room : Int} {k : Bool → Prop} (h : F_impl_ValidKeys l room k) : S_impl_ValidKeys l room k := by
  have hno : ¬ VKeys l room → k false := fun hv => h false (by simp [hv])
  refine br_dec.2 ⟨fun h1 => br_dec.2 ⟨fun h3 => ⟨by omega, fun b hb => h b ?_⟩, fun h3 => hno fun v => by have := v.2.2.1; omega⟩, fun h1 => hno fun v => h1 ⟨v.1, v.2.1⟩⟩
  rw [hb]
  exact ⟨fun g => ⟨h1.1, h1.2, h3, g.1, g.2⟩, fun v => v.2.2.2⟩
-- impl.UseRecent
def G_impl_UseRecent (list0 : List Int) (room1 : Int) (key2 : Int) (k : List Int → Bool → Prop) : Prop :=
  F_impl_ValidKeys list0 room1 fun validKeys11 =>
  br (!validKeys11)
  (k ([] : List Int) false)
  (F_impl_validKey key2 fun validKey15 =>
    br (!validKey15)
    (k ([] : List Int) false)
    (F_impl_withoutKey list0 key2 fun withoutKey20 =>
      F_impl_putFirst withoutKey20 key2 fun putFirst22 =>
      (0 ≤ (if room1 < (putFirst22.length : Int) then room1 else (putFirst22.length : Int)) ∧ (if room1 < (putFirst22.length : Int) then room1 else (putFirst22.length : Int)) ≤ (putFirst22.length : Int)) ∧
      (F_slices_Contains_sint_int list0 key2 fun contains31 =>
        k (List.take (Int.toNat (if room1 < (putFirst22.length : Int) then room1 else (putFirst22.length : Int))) (List.drop 0 putFirst22)) contains31) ∧
      (True)))
def H_impl_UseRecent (list0 : List Int) (room1 : Int) (key2 : Int) (k : List Int → Bool → Prop) : Prop :=
  F_impl_ValidKeys list0 room1 fun validKeys11 =>
  br (!validKeys11)
  (k ([] : List Int) false)
  (F_impl_validKey key2 fun validKey15 =>
    br (!validKey15)
    (k ([] : List Int) false)
    (F_impl_withoutKey list0 key2 fun withoutKey20 =>
      F_impl_putFirst withoutKey20 key2 fun putFirst22 =>
      (0 ≤ (if room1 < (putFirst22.length : Int) then room1 else (putFirst22.length : Int)) ∧ (if room1 < (putFirst22.length : Int) then room1 else (putFirst22.length : Int)) ≤ (putFirst22.length : Int)) ∧
      F_slices_Contains_sint_int list0 key2 fun contains31 =>
      k (List.take (Int.toNat (if room1 < (putFirst22.length : Int) then room1 else (putFirst22.length : Int))) (List.drop 0 putFirst22)) contains31))
theorem G_impl_UseRecent_eq (list0 : List Int) (room1 : Int) (key2 : Int) (k : List Int → Bool → Prop) : G_impl_UseRecent list0 room1 key2 k = H_impl_UseRecent list0 room1 key2 k := by
  simp only [G_impl_UseRecent, H_impl_UseRecent, and_self, and_true]
def S_impl_UseRecent (list0 : List Int) (room1 : Int) (key2 : Int) (k : List Int → Bool → Prop) : Prop := H_impl_UseRecent list0 room1 key2 k
def F_impl_UseRecent (l : List Int) (room key : Int) (k : List Int → Bool → Prop) : Prop :=
  (VKeys l room ∧ 0 ≤ key ∧ key ≤ 31 → k (recM l room key) (decide (key ∈ l))) ∧ (¬ (VKeys l room ∧ 0 ≤ key ∧ key ≤ 31) → k [] false)
theorem F_impl_UseRecent_S {l : List Int} {room key : Int} {k : List Int → Bool → Prop} (h : F_impl_UseRecent l room key k) : S_impl_UseRecent l room key k := by
  obtain ⟨hyes, hno⟩ := h
  intro b hb
  refine br_not.2 (br_iff.2 ⟨fun e => br_not.2 (br_dec.2 ⟨fun hkey => ?_, fun hkey => hno fun w => hkey w.2⟩), fun e => hno fun w => by rw [hb.2 w.1] at e; cases e⟩)
  have v := hb.1 e
  have hk := hyes ⟨v, hkey⟩
  obtain ⟨v1, v2, v3, v4, v5⟩ := v
  have := @rmK_le l key
  refine ⟨by omega, by omega, ⟨?_, ?_⟩, by omega, ?_⟩
  · split <;> omega
  · split <;> omega
  · show k (List.take (if room < (([key] ++ rmK l key).length : Int) then room else (([key] ++ rmK l key).length : Int)).toNat ([key] ++ rmK l key)) (decide (key ∈ l))
    rw [take_min2]; exact hk
-- impl.runTrace$1
def G_impl_runTrace_1_UseRecent (list0 : List Int) (key1 : Int) (cap1 : Int) (k : List Int → Bool → Prop) : Prop :=
  F_impl_UseRecent list0 cap1 key1 fun useRecent12r0 useRecent12r1 =>
  k useRecent12r0 useRecent12r1
def S_impl_runTrace_1_UseRecent (list0 : List Int) (key1 : Int) (cap1 : Int) (k : List Int → Bool → Prop) : Prop := G_impl_runTrace_1_UseRecent list0 key1 cap1 k
abbrev F_impl_runTrace_1_UseRecent (list0 : List Int) (key1 : Int) (cap1 : Int) (k : List Int → Bool → Prop) : Prop := S_impl_runTrace_1_UseRecent list0 key1 cap1 k
theorem F_impl_runTrace_1_UseRecent_S {list0 : List Int} {key1 : Int} {cap1 : Int} {k : List Int → Bool → Prop} (h : F_impl_runTrace_1_UseRecent list0 key1 cap1 k) : S_impl_runTrace_1_UseRecent list0 key1 cap1 k := h
-- impl.useAll[[]int]
def T0_impl_useAll_sint_runTrace_1_UseRecent (t0 : List Int) (use2c1 : Int) (xt14 : Int) (xhits8 : Int) (xt15 : Int) (xcache1 : List Int) (k : List Int → Int → Prop) (B0 : Int → Int → List Int → Prop) : Prop :=
  br (decide (xt15 < xt14))
  ((0 ≤ xt15 ∧ xt15 < (t0.length : Int)) ∧
    F_impl_runTrace_1_UseRecent xcache1 (List.getD t0 (Int.toNat xt15) (0 : Int)) use2c1 fun runTrace123r0 runTrace123r1 =>
    br runTrace123r1
    (InR (xhits8 + 1) ∧
      InR (xt15 + 1) ∧
      B0 (xhits8 + 1) (xt15 + 1) runTrace123r0)
    (InR (xt15 + 1) ∧
      B0 xhits8 (xt15 + 1) runTrace123r0))
  (k xcache1 xhits8)
def L0_impl_useAll_sint_runTrace_1_UseRecent (t0 : List Int) (use2c1 : Int) (xt14 : Int) (k : List Int → Int → Prop) : Nat → Int → Int → List Int → Prop
  | 0, _, _, _ => False
  | n + 1, xhits8, xt15, xcache1 => T0_impl_useAll_sint_runTrace_1_UseRecent t0 use2c1 xt14 xhits8 xt15 xcache1 k (L0_impl_useAll_sint_runTrace_1_UseRecent t0 use2c1 xt14 k n)
def G_impl_useAll_sint_runTrace_1_UseRecent (t0 : List Int) (cache1 : List Int) (use2c1 : Int) (I0 : List Int → Int → Int → Int → Int → List Int → Prop) : Prop :=
  I0 t0 use2c1 (t0.length : Int) 0 0 cache1
def S_impl_useAll_sint_runTrace_1_UseRecent (t0 : List Int) (cache1 : List Int) (use2c1 : Int) (k : List Int → Int → Prop) : Prop := G_impl_useAll_sint_runTrace_1_UseRecent t0 cache1 use2c1 (fun t0 use2c1 xt14 xhits8 xt15 xcache1 => ∃ j, L0_impl_useAll_sint_runTrace_1_UseRecent t0 use2c1 xt14 k j xhits8 xt15 xcache1)
def F_impl_useAll_sint_runTrace_1_UseRecent (t l : List Int) (room : Int) (k : List Int → Int → Prop) : Prop := (VTrace t ∧ VKeys l room) ∧ k (runR room t l 0).1 (runR room t l 0).2
theorem F_impl_useAll_sint_runTrace_1_UseRecent_S {t l : List Int} {room : Int} {k : List Int → Int → Prop} (h : F_impl_useAll_sint_runTrace_1_UseRecent t l room k) : S_impl_useAll_sint_runTrace_1_UseRecent t l room k := by
  obtain ⟨⟨⟨t1, t2⟩, v⟩, hk⟩ := h
  have key : ∀ (r : List Int) (i : Nat) (l : List Int) (n : Int), t.drop i = r → VKeys l room → 0 ≤ n → n ≤ i → k (runR room r l n).1 (runR room r l n).2 → L0_impl_useAll_sint_runTrace_1_UseRecent t room (t.length : Int) k (r.length + 1) n (i : Int) l := by
    intro r
    induction r with
    | nil =>
      intro i l n hdr v n0 n1 hk
      have := drop_nil' hdr
      rw [L0_impl_useAll_sint_runTrace_1_UseRecent, T0_impl_useAll_sint_runTrace_1_UseRecent]
      simp only [br_dec]
      exact ⟨fun h => by omega, fun _ => hk⟩
    | cons x r ih =>
      intro i l n hdr v n0 n1 hk
      obtain ⟨h1, h2, h5, h3, h4⟩ := drop_cons' hdr
      have hx := t2 x (List.mem_of_getElem? h5)
      rw [List.length_cons, L0_impl_useAll_sint_runTrace_1_UseRecent, T0_impl_useAll_sint_runTrace_1_UseRecent]
      simp only [br_dec, Int.toNat_natCast, h2]
      refine ⟨fun _ => ⟨⟨by omega, by omega⟩, fun _ => ?_, fun hv => absurd ⟨v, hx⟩ hv⟩, fun h => by omega⟩
      rw [runR] at hk
      show br (decide (x ∈ l)) _ _
      rw [br_iff]
      refine ⟨fun e => ⟨inR (by omega) (by omega), inR (by omega) (by omega), ?_⟩, fun e => ⟨inR (by omega) (by omega), ?_⟩⟩
      · rw [e] at hk
        exact ih (i + 1) _ _ h3 (recM_valid v hx) (by omega) (by omega) hk
      · rw [e] at hk
        rw [show n + toI false = n by simp [toI]] at hk
        exact ih (i + 1) _ _ h3 (recM_valid v hx) (by omega) (by omega) hk
  exact ⟨_, key t 0 l 0 rfl v (by omega) (by omega) hk⟩
-- impl.runTrace
def G_impl_runTrace_UseRecent (t0 : List Int) (room1 : Int) (k : List Int → Int → Prop) : Prop :=
  F_impl_ValidTrace t0 fun validTrace9 =>
  br (!validTrace9)
  (k ([] : List Int) (-1))
  (F_impl_validRoom room1 fun validRoom13 =>
    br (!validRoom13)
    (k ([] : List Int) (-1))
    (F_impl_useAll_sint_runTrace_1_UseRecent t0 ([] : List Int) room1 fun useAll19r0 useAll19r1 =>
      k useAll19r0 useAll19r1))
def S_impl_runTrace_UseRecent (t0 : List Int) (room1 : Int) (k : List Int → Int → Prop) : Prop := G_impl_runTrace_UseRecent t0 room1 k
def F_impl_runTrace_UseRecent (t : List Int) (room : Int) (k : List Int → Int → Prop) : Prop :=
  ((VTrace t ∧ 1 ≤ room ∧ room ≤ 8) → k (runR room t [] 0).1 (runR room t [] 0).2) ∧ (¬ (VTrace t ∧ 1 ≤ room ∧ room ≤ 8) → k [] (-1))
theorem F_impl_runTrace_UseRecent_S {t : List Int} {room : Int} {k : List Int → Int → Prop} (h : F_impl_runTrace_UseRecent t room k) : S_impl_runTrace_UseRecent t room k := by
  obtain ⟨hyes, hno⟩ := h
  intro b hb
  rw [br_not, br_iff]
  refine ⟨fun e => br_not.2 (br_dec.2 ⟨fun hr => ?_, fun hr => hno fun w => hr w.2⟩), fun e => hno fun v => by rw [hb.2 v.1] at e; cases e⟩
  have v := hb.1 e
  exact ⟨⟨v, keys0 hr⟩, hyes ⟨v, hr⟩⟩
-- impl.RunRecent
def G_impl_RunRecent (t0 : List Int) (room1 : Int) (k : List Int → Int → Prop) : Prop :=
  F_impl_runTrace_UseRecent t0 room1 fun runTrace8r0 runTrace8r1 =>
  k runTrace8r0 runTrace8r1
def S_impl_RunRecent (t0 : List Int) (room1 : Int) (k : List Int → Int → Prop) : Prop := G_impl_RunRecent t0 room1 k
def F_impl_RunRecent (t : List Int) (room : Int) (k : List Int → Int → Prop) : Prop :=
  ((VTrace t ∧ 1 ≤ room ∧ room ≤ 8) → k (runR room t [] 0).1 (runR room t [] 0).2) ∧ (¬ (VTrace t ∧ 1 ≤ room ∧ room ≤ 8) → k [] (-1))
theorem F_impl_RunRecent_S {t : List Int} {room : Int} {k : List Int → Int → Prop} (h : F_impl_RunRecent t room k) : S_impl_RunRecent t room k := h
-- laws.FnRoomForNone
def G_laws_FnRoomForNone (code0 : List Int) (k : Bool → Prop) : Prop :=
  br (decide ((code0.length : Int) > 1048576))
  (k true)
  (F_spec_DrawRoomFor code0 fun drawRoomFor13r0 drawRoomFor13r1 =>
    F_impl_RoomFor drawRoomFor13r0 drawRoomFor13r1 fun roomFor18 =>
    F_spec_RoomFor drawRoomFor13r0 drawRoomFor13r1 fun roomFor22 =>
    br (roomFor18 != roomFor22)
    (F_spec_RoomFor drawRoomFor13r0 drawRoomFor13r1 fun roomFor36 =>
      k (roomFor18 == roomFor36))
    (F_impl_ValidTrace drawRoomFor13r0 fun validTrace26 =>
      br (!validTrace26)
      (F_spec_RoomFor drawRoomFor13r0 drawRoomFor13r1 fun roomFor36 =>
        k (roomFor18 == roomFor36))
      (br (decide (drawRoomFor13r1 < 0))
        (F_spec_RoomFor drawRoomFor13r0 drawRoomFor13r1 fun roomFor36 =>
          k (roomFor18 == roomFor36))
        (F_impl_RunRecent drawRoomFor13r0 (8 : Int) fun runRecent40r0 runRecent40r1 =>
          br ((roomFor18 == (-1)) == (decide (runRecent40r1 < drawRoomFor13r1)))
          (F_impl_RoomFor drawRoomFor13r0 (0 : Int) fun roomFor51 =>
            k (roomFor51 == 1))
          (k false)))))
def S_laws_FnRoomForNone (code0 : List Int) (k : Bool → Prop) : Prop := G_laws_FnRoomForNone code0 k
abbrev F_laws_FnRoomForNone (code0 : List Int) (k : Bool → Prop) : Prop := S_laws_FnRoomForNone code0 k
theorem F_laws_FnRoomForNone_S {code0 : List Int} {k : Bool → Prop} (h : F_laws_FnRoomForNone code0 k) : S_laws_FnRoomForNone code0 k := h
theorem law_FnRoomForNone (code : List Int) (hb : ∀ x ∈ code, 0 ≤ x ∧ x ≤ 255) : F_laws_FnRoomForNone code (fun r => r = true) := by
  refine br_dec.2 ⟨fun _ => rfl, fun hlen => ⟨hb, fun t hits l1 _ _ => ?_⟩⟩
  by_cases v : VTrace t ∧ 0 ≤ hits
  · refine yes v (yes v (br_same' (all_t v.1 (br_nt (br_nd (by omega) (yes ⟨v.1, by omega, by omega⟩ ?_))))))
    have hz : roomM t 0 = 1 := by
      rcases roomM_spec t 0 with ⟨_, g2⟩ | ⟨g1, g2, g3, g4⟩
      · have := g2 1 (by omega) (by omega)
        have := (runR_facts v.1 (room := 1) (by omega)).pos
        omega
      · refine Classical.byContradiction fun c => ?_
        have := g4 1 (by omega) (by omega)
        have := (runR_facts v.1 (room := 1) (by omega)).pos
        omega
    refine br_bb.2 ⟨fun _ => yes ⟨v.1, by omega⟩ (beq_t hz), fun h => absurd ?_ h⟩
    rcases roomM_spec t hits with ⟨g1, g2⟩ | ⟨g1, g2, g3, g4⟩
    · rw [beq_t g1, decide_eq_true (g2 8 (by omega) (by omega))]
    · rw [beq_eq_false_iff_ne.2 (by omega : roomM t hits ≠ -1), decide_eq_false]
      have h8 : (runR (roomM t hits) t [] 0).2 ≤ (runR 8 t [] 0).2 := by
        rw [runR_within (by omega), runR_within (by omega)]
        have := within_mono g2 (distM [] t)
        omega
      omega
  · refine nay v (nay v (br_same' ?_))
    by_cases w : VTrace t
    · exact all_t w (br_nt (br_yd (by have : ¬ 0 ≤ hits := fun c => v ⟨w, c⟩; omega) (nay v rfl)))
    · exact all_f w (br_nf (nay v rfl))
end Go.Ev
