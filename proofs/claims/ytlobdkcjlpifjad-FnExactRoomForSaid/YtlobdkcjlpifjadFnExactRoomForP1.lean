/- What the functions that the law reaches do, written as plain Lean. No statement is proved here. -/
import Derived.Test.YtlobdkcjlpifjadFnExactRoomForP0
namespace Go.Ev
set_option linter.unusedVariables false
open Go
def F_spec_placeOf (l : List Int) (n : Int) (k : Int → Prop) : Prop := l.length ≤ 1000000000 ∧ k (plc l n)
theorem F_spec_placeOf_S {l : List Int} {n : Int} {k : Int → Prop} (h : F_spec_placeOf l n k) : S_spec_placeOf l n k := by
  obtain ⟨hl, hk⟩ := h
  have key : ∀ (r : List Int) (i : Nat), l.drop i = r → plcF r n i = plc l n → L0_spec_placeOf l n k (r.length + 1) (i : Int) := by
    intro r
    induction r with
    | nil =>
      intro i hd he
      have := drop_nil' hd
      rw [L0_spec_placeOf, T0_spec_placeOf]
      simp only [br_dec]
      exact ⟨fun h => by omega, fun _ => by rw [show (-1 : Int) = plc l n from he]; exact hk⟩
    | cons x r ih =>
      intro i hd he
      obtain ⟨h1, h2, _, h3, _⟩ := drop_cons' hd
      rw [List.length_cons, L0_spec_placeOf, T0_spec_placeOf]
      simp only [br_dec, br_beq, Int.toNat_natCast, h2]
      refine ⟨fun _ => ⟨⟨by omega, by omega⟩, fun hx => ?_, fun hx => ⟨inR (by omega) (by omega), ?_⟩⟩, fun h => by omega⟩
      · simp only [plcF, if_pos hx] at he; rw [he]; exact hk
      · simp only [plcF, if_neg hx] at he; exact ih (i + 1) h3 he
  exact ⟨_, key l 0 rfl rfl⟩
-- spec.isIn
def G_spec_isIn (list0 : List Int) (n1 : Int) (k : Bool → Prop) : Prop :=
  F_spec_placeOf list0 n1 fun placeOf7 =>
  k (decide (placeOf7 ≥ 0))
def S_spec_isIn (list0 : List Int) (n1 : Int) (k : Bool → Prop) : Prop := G_spec_isIn list0 n1 k
def F_spec_isIn (l : List Int) (n : Int) (k : Bool → Prop) : Prop := l.length ≤ 1000000000 ∧ k (decide (n ∈ l))
theorem F_spec_isIn_S {l : List Int} {n : Int} {k : Bool → Prop} (h : F_spec_isIn l n k) : S_spec_isIn l n k := by
  refine ⟨h.1, ?_⟩
  have : decide (plc l n ≥ 0) = decide (n ∈ l) := decide_eq_decide.2 plc_ge
  show k (decide (plc l n ≥ 0))
  rw [this]; exact h.2
-- spec.distance
def T0_spec_distance (at1 : Int) (t0 : List Int) (xi6 : Int) (xseen5 : List Int) (k : Int → Prop) (B0 : Int → List Int → Prop) : Prop :=
  br (decide (xi6 ≥ 0))
  ((0 ≤ xi6 ∧ xi6 < (t0.length : Int)) ∧
    (0 ≤ at1 ∧ at1 < (t0.length : Int)) ∧
    br ((List.getD t0 (Int.toNat xi6) (0 : Int)) == (List.getD t0 (Int.toNat at1) (0 : Int)))
    (InR ((xseen5.length : Int) + 1) ∧
      k ((xseen5.length : Int) + 1))
    ((0 ≤ xi6 ∧ xi6 < (t0.length : Int)) ∧
      F_spec_isIn xseen5 (List.getD t0 (Int.toNat xi6) (0 : Int)) fun isIn31 =>
      br (!isIn31)
      ((0 ≤ xi6 ∧ xi6 < (t0.length : Int)) ∧
        (xseen5.length + 1 ≤ 1000000000) ∧
        InR (xi6 - 1) ∧
        B0 (xi6 - 1) (xseen5 ++ ([(List.getD t0 (Int.toNat xi6) (0 : Int))] : List Int)))
      (InR (xi6 - 1) ∧
        B0 (xi6 - 1) xseen5)))
  (k 0)
def L0_spec_distance (at1 : Int) (t0 : List Int) (k : Int → Prop) : Nat → Int → List Int → Prop
  | 0, _, _ => False
  | n + 1, xi6, xseen5 => T0_spec_distance at1 t0 xi6 xseen5 k (L0_spec_distance at1 t0 k n)
def G_spec_distance (t0 : List Int) (at1 : Int) (I0 : Int → List Int → Int → List Int → Prop) : Prop :=
  InR (at1 - 1) ∧
  I0 at1 t0 (at1 - 1) ([] : List Int)
def S_spec_distance (t0 : List Int) (at1 : Int) (k : Int → Prop) : Prop := G_spec_distance t0 at1 (fun at1 t0 xi6 xseen5 => ∃ j, L0_spec_distance at1 t0 k j xi6 xseen5)
def F_spec_distance (t : List Int) (i : Int) (k : Int → Prop) : Prop := (0 ≤ i ∧ i < t.length ∧ t.length ≤ 1000000) ∧ k (dst (usedR [] (t.take i.toNat)) (t.getD i.toNat 0))
theorem F_spec_distance_S {t : List Int} {i : Int} {k : Int → Prop} (h : F_spec_distance t i k) : S_spec_distance t i k := by
  obtain ⟨⟨h0, h1, h2⟩, hk⟩ := h
  have hsl : (t.take i.toNat).reverse.length = i.toNat := by rw [List.length_reverse, List.length_take]; omega
  have hsg : ∀ q : Nat, q < i.toNat → (t.take i.toNat).reverse[q]? = some (t.getD (i.toNat - 1 - q) 0) := fun q hq => by
    rw [List.getElem?_reverse (by rw [List.length_take]; omega), List.length_take, List.getElem?_take, if_pos (by omega), show min i.toNat t.length - 1 - q = i.toNat - 1 - q by omega]
    exact some_of (by omega)
  rw [usedR_ded] at hk
  have go : ∀ (m q : Nat), q + m = i.toNat → t.getD i.toNat 0 ∉ (t.take i.toNat).reverse.take q → L0_spec_distance i t k (m + 1) (i - 1 - q) (ded ((t.take i.toNat).reverse.take q)) := by
    intro m
    induction m with
    | zero =>
      intro q hq hn
      rw [List.take_of_length_le (by omega)] at hn
      rw [L0_spec_distance, T0_spec_distance, List.take_of_length_le (by omega)]
      refine br_dec.2 ⟨fun h => by omega, fun _ => ?_⟩
      rw [dst_zero.2 (fun c => hn (mem_ded.1 c))] at hk
      exact hk
    | succ m ih =>
      intro q hq hn
      have hq1 : (i - 1 - (q : Int)).toNat = i.toNat - 1 - q := by omega
      have hg := hsg q (by omega)
      have hlen : (ded ((t.take i.toNat).reverse.take q)).length ≤ i.toNat := by
        have := nodup_le (ded_nodup ((t.take i.toNat).reverse.take q)) fun x hx => mem_ded.1 hx
        rw [List.length_take] at this; omega
      have e : (t.take i.toNat).reverse.take (q + 1) = (t.take i.toNat).reverse.take q ++ [t.getD (i.toNat - 1 - q) 0] := by
        rw [List.take_add_one, hg]; rfl
      rw [L0_spec_distance, T0_spec_distance]
      rw [hq1]
      refine br_dec.2 ⟨fun _ => ⟨⟨by omega, by omega⟩, ⟨by omega, by omega⟩, br_beq.2 ⟨fun he => ⟨inR (by omega) (by omega), ?_⟩, fun he => ⟨⟨by omega, by omega⟩, by omega, br_not.2 (br_dec.2 ⟨fun hm => ⟨inR (by omega) (by omega), ?_⟩, fun hm => ⟨⟨by omega, by omega⟩, by omega, inR (by omega) (by omega), ?_⟩⟩)⟩⟩⟩, fun h => by omega⟩
      · rw [he] at hg
        rw [ded_first hg hn] at hk
        exact hk
      · have next := ih (q + 1) (by omega) (by
          rw [e, List.mem_append, List.mem_singleton]
          rintro (c | c)
          · exact hn c
          · exact he c.symm)
        rw [e, ded_snoc, if_pos hm] at next
        rw [show i - 1 - (q : Int) - 1 = i - 1 - ((q + 1 : Nat) : Int) by omega]
        exact next
      · have next := ih (q + 1) (by omega) (by
          rw [e, List.mem_append, List.mem_singleton]
          rintro (c | c)
          · exact hn c
          · exact he c.symm)
        rw [e, ded_snoc, if_neg hm] at next
        rw [show i - 1 - (q : Int) - 1 = i - 1 - ((q + 1 : Nat) : Int) by omega]
        exact next
  have := go i.toNat 0 (by omega) (by simp)
  exact ⟨inR (by omega) (by omega), _, by simpa [ded] using this⟩
-- spec.HitCurve
def T1_spec_HitCurve (t0 : List Int) (xi4 : Int) (xroom6 : Int) (xy7' : List Int) (B0 : Int → List Int → Prop) (B1 : Int → List Int → Prop) : Prop :=
  br (decide (xroom6 ≥ 1))
  (br (decide (xroom6 ≤ 8))
    (InR (xroom6 - 1) ∧
      InR (xroom6 - 1) ∧
      (0 ≤ (xroom6 - 1) ∧ (xroom6 - 1) < (xy7'.length : Int)) ∧
      InR ((List.getD xy7' (Int.toNat (xroom6 - 1)) (0 : Int)) + 1) ∧
      (0 ≤ (xroom6 - 1) ∧ (xroom6 - 1) < (xy7'.length : Int)) ∧
      InR (xroom6 + 1) ∧
      B1 (xroom6 + 1) (List.set xy7' (Int.toNat (xroom6 - 1)) ((List.getD xy7' (Int.toNat (xroom6 - 1)) (0 : Int)) + 1)))
    (InR (xi4 + 1) ∧
      B0 (xi4 + 1) xy7'))
  (InR (xi4 + 1) ∧
    B0 (xi4 + 1) xy7')
def L1_spec_HitCurve (t0 : List Int) (xi4 : Int) (k : List Int → Prop) (B0 : Int → List Int → Prop) : Nat → Int → List Int → Prop
  | 0, _, _ => False
  | n + 1, xroom6, xy7' => T1_spec_HitCurve t0 xi4 xroom6 xy7' B0 (L1_spec_HitCurve t0 xi4 k B0 n)
def T0_spec_HitCurve (t0 : List Int) (xi4 : Int) (xy7 : List Int) (k : List Int → Prop) (I1 : List Int → Int → Int → List Int → Prop) : Prop :=
  br (decide (xi4 < (t0.length : Int)))
  (F_spec_distance t0 xi4 fun distance19 =>
    I1 t0 xi4 distance19 xy7)
  (k xy7)
def L0_spec_HitCurve (t0 : List Int) (k : List Int → Prop) : Nat → Int → List Int → Prop
  | 0, _, _ => False
  | n + 1, xi4, xy7 => T0_spec_HitCurve t0 xi4 xy7 k (fun t0 xi4 xroom6 xy7' => ∃ j, L1_spec_HitCurve t0 xi4 k (L0_spec_HitCurve t0 k n) j xroom6 xy7')
def G_spec_HitCurve (t0 : List Int) (k : List Int → Prop) (I0 : List Int → Int → List Int → Prop) : Prop :=
  ((8 : Int) = 8 ∧ 0 ≤ (8 : Int) ∧ (8 : Int) ≤ 1000000000) ∧
  F_spec_validTrace t0 fun validTrace9 =>
  br (!validTrace9)
  (k ([] : List Int))
  (I0 t0 0 (List.replicate 8 (0 : Int)))
def S_spec_HitCurve (t0 : List Int) (k : List Int → Prop) : Prop := G_spec_HitCurve t0 k (fun t0 xi4 xy7 => ∃ j, L0_spec_HitCurve t0 k j xi4 xy7)
def F_spec_HitCurve (t : List Int) (k : List Int → Prop) : Prop := (VTrace t → k (curveM t)) ∧ (¬ VTrace t → k [])
theorem F_spec_HitCurve_S {t : List Int} {k : List Int → Prop} (h : F_spec_HitCurve t k) : S_spec_HitCurve t k := by
  obtain ⟨hyes, hno⟩ := h
  refine ⟨⟨rfl, by omega, by omega⟩, ?_⟩
  intro b hb
  refine br_not.2 (br_iff.2 ⟨fun e => ?_, fun e => hno fun w => by rw [hb.2 w] at e; cases e⟩)
  have v := hb.1 e
  have hk := hyes v
  have hl := v.1
  rw [curveM_D] at hk
  have inner : ∀ (l : List Int) (d : Int) (i : Int) (B : Int → List Int → Prop), 0 ≤ i → i ≤ 100 → l.length ≤ 100 → 1 ≤ d → B (i + 1) (curveD (l ++ [d])) →
      ∀ (m : Nat) (room : Int), d ≤ room → 9 ≤ room + (m : Int) → L1_spec_HitCurve t i k B (m + 1) room (midC l d room) := by
    intro l d i B i0 i1 l1 d1 hB m
    induction m with
    | zero =>
      intro room h1 h2
      rw [L1_spec_HitCurve, T1_spec_HitCurve]
      refine br_yd (by omega) (br_nd (by omega) ⟨inR (by omega) (by omega), ?_⟩)
      rw [midC_end d1 (by omega)]; exact hB
    | succ m ih =>
      intro room h1 h2
      rw [L1_spec_HitCurve, T1_spec_HitCurve, midC_len]
      refine br_yd (by omega) (br_dec.2 ⟨fun h8 => ?_, fun h8 => ⟨inR (by omega) (by omega), ?_⟩⟩)
      · have := @midC_range l d room (room - 1).toNat (by omega)
        rw [midC_step h1 (by omega) h8]
        exact ⟨inR (by omega) (by omega), inR (by omega) (by omega), ⟨by omega, by omega⟩, inR (by omega) (by omega), ⟨by omega, by omega⟩, inR (by omega) (by omega), ih (room + 1) (by omega) (by omega)⟩
      · rw [midC_end d1 (by omega)]; exact hB
  have go : ∀ (m i : Nat), i + m = t.length → L0_spec_HitCurve t k (m + 1) (i : Int) (curveD (distM [] (t.take i))) := by
    intro m
    induction m with
    | zero =>
      intro i hi
      rw [L0_spec_HitCurve, T0_spec_HitCurve, List.take_of_length_le (by omega)]
      exact br_nd (by omega) hk
    | succ m ih =>
      intro i hi
      have next := ih (i + 1) (by omega)
      rw [take_get (by omega), distM_append] at next
      have hr := dst_range (usedR [] (t.take i)) (t.getD i 0)
      rw [L0_spec_HitCurve, T0_spec_HitCurve]
      refine br_yd (by omega) ⟨⟨by omega, by omega, by omega⟩, 10, ?_⟩
      rw [Int.toNat_natCast]
      by_cases hz : dst (usedR [] (t.take i)) (t.getD i 0) = 0
      · rw [hz] at next ⊢
        rw [curveD_zero] at next
        rw [L1_spec_HitCurve, T1_spec_HitCurve]
        exact br_nd (by omega) ⟨inR (by omega) (by omega), next⟩
      · rw [← midC_start (distM [] (t.take i)) (dst (usedR [] (t.take i)) (t.getD i 0))]
        exact inner _ _ (i : Int) _ (by omega) (by omega) (by rw [distM_len, List.length_take]; omega) (by omega) next 9 _ (Int.le_refl _) (by omega)
  exact ⟨_, go t.length 0 (by omega)⟩
-- spec.RoomFor
def T0_spec_RoomFor (hitCurve15 : List Int) (hits1 : Int) (xi6 : Int) (k : Int → Prop) (B0 : Int → Prop) : Prop :=
  br (decide (xi6 < (hitCurve15.length : Int)))
  ((0 ≤ xi6 ∧ xi6 < (hitCurve15.length : Int)) ∧
    br (decide ((List.getD hitCurve15 (Int.toNat xi6) (0 : Int)) ≥ hits1))
    (InR (xi6 + 1) ∧
      k (xi6 + 1))
    (InR (xi6 + 1) ∧
      B0 (xi6 + 1)))
  (k (-1))
def L0_spec_RoomFor (hitCurve15 : List Int) (hits1 : Int) (k : Int → Prop) : Nat → Int → Prop
  | 0, _ => False
  | n + 1, xi6 => T0_spec_RoomFor hitCurve15 hits1 xi6 k (L0_spec_RoomFor hitCurve15 hits1 k n)
def G_spec_RoomFor (t0 : List Int) (hits1 : Int) (k : Int → Prop) (I0 : List Int → Int → Int → Prop) : Prop :=
  F_spec_validTrace t0 fun validTrace8 =>
  br (!validTrace8)
  (k (-1))
  (br (decide (hits1 < 0))
    (k (-1))
    (F_spec_HitCurve t0 fun hitCurve15 =>
      I0 hitCurve15 hits1 0))
def S_spec_RoomFor (t0 : List Int) (hits1 : Int) (k : Int → Prop) : Prop := G_spec_RoomFor t0 hits1 k (fun hitCurve15 hits1 xi6 => ∃ j, L0_spec_RoomFor hitCurve15 hits1 k j xi6)
def F_spec_RoomFor (t : List Int) (hits : Int) (k : Int → Prop) : Prop := (VTrace t ∧ 0 ≤ hits → k (roomM t hits)) ∧ (¬ (VTrace t ∧ 0 ≤ hits) → k (-1))
theorem F_spec_RoomFor_S {t : List Int} {hits : Int} {k : Int → Prop} (h : F_spec_RoomFor t hits k) : S_spec_RoomFor t hits k := by
  obtain ⟨hyes, hno⟩ := h
  intro b hb
  refine br_not.2 (br_iff.2 ⟨fun e => ?_, fun e => hno fun w => by rw [hb.2 w.1] at e; cases e⟩)
  have v := hb.1 e
  refine br_dec.2 ⟨fun hn => hno fun w => by omega, fun hn => yes v ?_⟩
  have hk := hyes ⟨v, by omega⟩
  have hc := curveM_len t
  have go : ∀ (r : List Int) (i : Nat), (curveM t).drop i = r → firstGe r hits ((i : Int) + 1) = roomM t hits → L0_spec_RoomFor (curveM t) hits k (r.length + 1) (i : Int) := by
    intro r
    induction r with
    | nil =>
      intro i hd he
      have := drop_nil' hd
      rw [L0_spec_RoomFor, T0_spec_RoomFor]
      refine br_nd (by omega) ?_
      rw [show (-1 : Int) = roomM t hits from he]; exact hk
    | cons x r ih =>
      intro i hd he
      obtain ⟨g1, g2, g5, g3, g4⟩ := drop_cons' hd
      rw [List.length_cons, L0_spec_RoomFor, T0_spec_RoomFor]
      simp only [Int.toNat_natCast, g2]
      rw [firstGe] at he
      refine br_yd (by omega) ⟨⟨by omega, by omega⟩, br_dec.2 ⟨fun h => ⟨inR (by omega) (by omega), ?_⟩, fun h => ⟨inR (by omega) (by omega), ?_⟩⟩⟩
      · rw [if_pos (by omega)] at he; rw [he]; exact hk
      · rw [if_neg (by omega)] at he; exact ih (i + 1) g3 he
  exact ⟨_, go (curveM t) 0 rfl rfl⟩
-- impl.validKey
def G_impl_validKey (key0 : Int) (k : Bool → Prop) : Prop :=
  br (decide (0 ≤ key0))
  (k (decide (key0 ≤ 31)))
  (k false)
def S_impl_validKey (key0 : Int) (k : Bool → Prop) : Prop := G_impl_validKey key0 k
def F_impl_validKey (n : Int) (k : Bool → Prop) : Prop := k (decide (0 ≤ n ∧ n ≤ 31))
theorem F_impl_validKey_S {n : Int} {k : Bool → Prop} (h : F_impl_validKey n k) : S_impl_validKey n k := by
  unfold F_impl_validKey at h
  simp only [S_impl_validKey, G_impl_validKey, br_dec]
  refine ⟨fun h1 => ?_, fun h1 => ?_⟩
  · simpa [h1] using h
  · simpa [h1] using h
-- impl.ValidTrace
def T0_impl_ValidTrace (t0 : List Int) (xt9 : Int) (xt10 : Int) (k : Bool → Prop) (B0 : Int → Prop) : Prop :=
  br (decide (xt10 < xt9))
  ((0 ≤ xt10 ∧ xt10 < (t0.length : Int)) ∧
    F_impl_validKey (List.getD t0 (Int.toNat xt10) (0 : Int)) fun validKey15 =>
    br (!validKey15)
    (k false)
    (InR (xt10 + 1) ∧
      B0 (xt10 + 1)))
  (k true)
def L0_impl_ValidTrace (t0 : List Int) (xt9 : Int) (k : Bool → Prop) : Nat → Int → Prop
  | 0, _ => False
  | n + 1, xt10 => T0_impl_ValidTrace t0 xt9 xt10 k (L0_impl_ValidTrace t0 xt9 k n)
def G_impl_ValidTrace (t0 : List Int) (k : Bool → Prop) (I0 : List Int → Int → Int → Prop) : Prop :=
  br (decide ((t0.length : Int) > 24))
  (k false)
  (I0 t0 (t0.length : Int) 0)
def S_impl_ValidTrace (t0 : List Int) (k : Bool → Prop) : Prop := G_impl_ValidTrace t0 k (fun t0 xt9 xt10 => ∃ j, L0_impl_ValidTrace t0 xt9 k j xt10)
def F_impl_ValidTrace (t : List Int) (k : Bool → Prop) : Prop := ∀ b : Bool, (b = true ↔ VTrace t) → k b
theorem F_impl_ValidTrace_S {t : List Int} {k : Bool → Prop} (h : F_impl_ValidTrace t k) : S_impl_ValidTrace t k := by
  have hno : ¬ VTrace t → k false := fun hv => h false (by simp [hv])
  have key : t.length ≤ 24 → ∀ (r : List Int) (i : Nat), t.drop i = r → (∀ x ∈ t.take i, 0 ≤ x ∧ x ≤ 31) → L0_impl_ValidTrace t (t.length : Int) k (r.length + 1) (i : Int) := by
    intro hl r
    induction r with
    | nil =>
      intro i hd he
      have := drop_nil' hd
      rw [List.take_of_length_le this] at he
      rw [L0_impl_ValidTrace, T0_impl_ValidTrace]
      simp only [br_dec]
      exact ⟨fun h => by omega, fun _ => h true (by simp only [true_iff]; exact ⟨hl, he⟩)⟩
    | cons x r ih =>
      intro i hd he
      obtain ⟨h1, h2, h5, h3, h4⟩ := drop_cons' hd
      rw [List.length_cons, L0_impl_ValidTrace, T0_impl_ValidTrace]
      simp only [br_dec, F_impl_validKey, Int.toNat_natCast, h2, br_not]
      refine ⟨fun _ => ⟨⟨by omega, by omega⟩, fun hx => ⟨inR (by omega) (by omega), ih (i + 1) h3 ?_⟩, fun hx => hno fun v => hx (v.2 x (List.mem_of_getElem? h5))⟩, fun h => by omega⟩
      rw [h4]; intro y hy
      rcases List.mem_append.1 hy with hy | hy
      · exact he y hy
      · simp at hy; subst hy; exact hx
  exact br_dec.2 ⟨fun h3 => hno fun v => by have := v.1; omega, fun h3 => ⟨_, key (by omega) t 0 rfl (by simp)⟩⟩
-- slices.Index[[]int,int]
def T0_slices_Index_sint_int (s0 : List Int) (v1 : Int) (xt7 : Int) (xt8 : Int) (k : Int → Prop) (B0 : Int → Prop) : Prop :=
  br (decide (xt8 < xt7))
  ((0 ≤ xt8 ∧ xt8 < (s0.length : Int)) ∧
    br (v1 == (List.getD s0 (Int.toNat xt8) (0 : Int)))
    (k xt8)
    (InR (xt8 + 1) ∧
      B0 (xt8 + 1)))
  (k (-1))
def L0_slices_Index_sint_int (s0 : List Int) (v1 : Int) (xt7 : Int) (k : Int → Prop) : Nat → Int → Prop
  | 0, _ => False
  | n + 1, xt8 => T0_slices_Index_sint_int s0 v1 xt7 xt8 k (L0_slices_Index_sint_int s0 v1 xt7 k n)
def G_slices_Index_sint_int (s0 : List Int) (v1 : Int) (I0 : List Int → Int → Int → Int → Prop) : Prop :=
  I0 s0 v1 (s0.length : Int) 0
def S_slices_Index_sint_int (s0 : List Int) (v1 : Int) (k : Int → Prop) : Prop := G_slices_Index_sint_int s0 v1 (fun s0 v1 xt7 xt8 => ∃ j, L0_slices_Index_sint_int s0 v1 xt7 k j xt8)
def F_slices_Index_sint_int (l : List Int) (n : Int) (k : Int → Prop) : Prop := l.length ≤ 1000000000 ∧ k (plc l n)
theorem F_slices_Index_sint_int_S {l : List Int} {n : Int} {k : Int → Prop} (h : F_slices_Index_sint_int l n k) : S_slices_Index_sint_int l n k := by
  obtain ⟨hl, hk⟩ := h
  have key : ∀ (r : List Int) (i : Nat), l.drop i = r → plcF r n i = plc l n → L0_slices_Index_sint_int l n (l.length : Int) k (r.length + 1) (i : Int) := by
    intro r
    induction r with
    | nil =>
      intro i hd he
      have := drop_nil' hd
      rw [L0_slices_Index_sint_int, T0_slices_Index_sint_int]
      simp only [br_dec]
      exact ⟨fun h => by omega, fun _ => by rw [show (-1 : Int) = plc l n from he]; exact hk⟩
    | cons x r ih =>
      intro i hd he
      obtain ⟨h1, h2, _, h3, _⟩ := drop_cons' hd
      rw [List.length_cons, L0_slices_Index_sint_int, T0_slices_Index_sint_int]
      simp only [br_dec, br_beq, Int.toNat_natCast, h2]
      refine ⟨fun _ => ⟨⟨by omega, by omega⟩, fun hx => ?_, fun hx => ⟨inR (by omega) (by omega), ?_⟩⟩, fun h => by omega⟩
      · simp only [plcF, if_pos hx.symm] at he; rw [he]; exact hk
      · simp only [plcF, if_neg (Ne.symm hx)] at he; exact ih (i + 1) h3 he
  exact ⟨_, key l 0 rfl rfl⟩
-- impl.withoutKey
def T0_impl_withoutKey (key1 : Int) (list0 : List Int) (xt10 : Int) (xt11 : Int) (xout5 : List Int) (k : List Int → Prop) (B0 : Int → List Int → Prop) : Prop :=
  br (decide (xt11 < xt10))
  ((0 ≤ xt11 ∧ xt11 < (list0.length : Int)) ∧
    br ((List.getD list0 (Int.toNat xt11) (0 : Int)) != key1)
    ((xout5.length + 1 ≤ 1000000000) ∧
      InR (xt11 + 1) ∧
      B0 (xt11 + 1) (xout5 ++ ([(List.getD list0 (Int.toNat xt11) (0 : Int))] : List Int)))
    (InR (xt11 + 1) ∧
      B0 (xt11 + 1) xout5))
  (k xout5)
def L0_impl_withoutKey (key1 : Int) (list0 : List Int) (xt10 : Int) (k : List Int → Prop) : Nat → Int → List Int → Prop
  | 0, _, _ => False
  | n + 1, xt11, xout5 => T0_impl_withoutKey key1 list0 xt10 xt11 xout5 k (L0_impl_withoutKey key1 list0 xt10 k n)
def G_impl_withoutKey (list0 : List Int) (key1 : Int) (I0 : Int → List Int → Int → Int → List Int → Prop) : Prop :=
  I0 key1 list0 (list0.length : Int) 0 ([] : List Int)
def S_impl_withoutKey (list0 : List Int) (key1 : Int) (k : List Int → Prop) : Prop := G_impl_withoutKey list0 key1 (fun key1 list0 xt10 xt11 xout5 => ∃ j, L0_impl_withoutKey key1 list0 xt10 k j xt11 xout5)
def F_impl_withoutKey (l : List Int) (key : Int) (k : List Int → Prop) : Prop := l.length ≤ 1000000000 ∧ k (rmK l key)
theorem F_impl_withoutKey_S {l : List Int} {key : Int} {k : List Int → Prop} (h : F_impl_withoutKey l key k) : S_impl_withoutKey l key k := by
  obtain ⟨hl, hk⟩ := h
  have key1 : ∀ (r : List Int) (i : Nat) (out : List Int), l.drop i = r → out.length ≤ i → out ++ rmK r key = rmK l key → L0_impl_withoutKey key l (l.length : Int) k (r.length + 1) (i : Int) out := by
    intro r
    induction r with
    | nil =>
      intro i out hd ho he
      have := drop_nil' hd
      rw [L0_impl_withoutKey, T0_impl_withoutKey]
      simp only [br_dec]
      refine ⟨fun h => by omega, fun _ => ?_⟩
      have : out = rmK l key := by simpa [rmK] using he
      rw [this]; exact hk
    | cons x r ih =>
      intro i out hd ho he
      obtain ⟨h1, h2, _, h3, _⟩ := drop_cons' hd
      rw [List.length_cons, L0_impl_withoutKey, T0_impl_withoutKey]
      simp only [br_dec, br_bne, Int.toNat_natCast, h2]
      refine ⟨fun _ => ⟨⟨by omega, by omega⟩, fun hx => ⟨by omega, inR (by omega) (by omega), ?_⟩, fun hx => ⟨inR (by omega) (by omega), ?_⟩⟩, fun h => by omega⟩
      · exact ih (i + 1) (out ++ [x]) h3 (by simp; omega) (by rw [← he, rmK_cons_ne hx]; simp)
      · exact ih (i + 1) out h3 (by omega) (by rw [← he, hx, rmK_cons_eq])
  exact ⟨_, key1 l 0 [] rfl (by simp) rfl⟩
-- impl.putFirst
def G_impl_putFirst (list0 : List Int) (key1 : Int) (k : List Int → Prop) : Prop :=
  (1 + list0.length ≤ 1000000000) ∧
  k (([key1] : List Int) ++ list0)
def S_impl_putFirst (list0 : List Int) (key1 : Int) (k : List Int → Prop) : Prop := G_impl_putFirst list0 key1 k
def F_impl_putFirst (l : List Int) (x : Int) (k : List Int → Prop) : Prop := l.length ≤ 999999999 ∧ k (x :: l)
theorem F_impl_putFirst_S {l : List Int} {x : Int} {k : List Int → Prop} (h : F_impl_putFirst l x k) : S_impl_putFirst l x k := ⟨by have := h.1; omega, h.2⟩
-- impl.ReuseDistances
def T0_impl_ReuseDistances (t0 : List Int) (xt15 : Int) (xt16 : Int) (xy12 : List Int) (xrecent4 : List Int) (k : List Int → Prop) (B0 : Int → List Int → List Int → Prop) : Prop :=
  br (decide (xt16 < xt15))
  ((0 ≤ xt16 ∧ xt16 < (t0.length : Int)) ∧
    F_slices_Index_sint_int xrecent4 (List.getD t0 (Int.toNat xt16) (0 : Int)) fun index25 =>
    InR (index25 + 1) ∧
    (0 ≤ xt16 ∧ xt16 < (xy12.length : Int)) ∧
    F_impl_withoutKey xrecent4 (List.getD t0 (Int.toNat xt16) (0 : Int)) fun withoutKey30 =>
    F_impl_putFirst withoutKey30 (List.getD t0 (Int.toNat xt16) (0 : Int)) fun putFirst32 =>
    InR (xt16 + 1) ∧
    B0 (xt16 + 1) (List.set xy12 (Int.toNat xt16) (index25 + 1)) putFirst32)
  (k xy12)
def L0_impl_ReuseDistances (t0 : List Int) (xt15 : Int) (k : List Int → Prop) : Nat → Int → List Int → List Int → Prop
  | 0, _, _, _ => False
  | n + 1, xt16, xy12, xrecent4 => T0_impl_ReuseDistances t0 xt15 xt16 xy12 xrecent4 k (L0_impl_ReuseDistances t0 xt15 k n)
def G_impl_ReuseDistances (t0 : List Int) (k : List Int → Prop) (I0 : List Int → Int → Int → List Int → List Int → Prop) : Prop :=
  F_impl_ValidTrace t0 fun validTrace8 =>
  br (!validTrace8)
  (k ([] : List Int))
  (((t0.length : Int) = (t0.length : Int) ∧ 0 ≤ (t0.length : Int) ∧ (t0.length : Int) ≤ 1000000000) ∧
    I0 t0 (t0.length : Int) 0 (List.replicate (Int.toNat (t0.length : Int)) (0 : Int)) ([] : List Int))
def S_impl_ReuseDistances (t0 : List Int) (k : List Int → Prop) : Prop := G_impl_ReuseDistances t0 k (fun t0 xt15 xt16 xy12 xrecent4 => ∃ j, L0_impl_ReuseDistances t0 xt15 k j xt16 xy12 xrecent4)
def F_impl_ReuseDistances (t : List Int) (k : List Int → Prop) : Prop := (VTrace t → k (distM [] t)) ∧ (¬ (VTrace t) → k [])
theorem F_impl_ReuseDistances_S {t : List Int} {k : List Int → Prop} (h : F_impl_ReuseDistances t k) : S_impl_ReuseDistances t k := by
  obtain ⟨hyes, hno⟩ := h
  intro b hb
  refine br_not.2 (br_iff.2 ⟨fun e => ?_, fun e => hno fun w => by rw [hb.2 w] at e; cases e⟩)
  have v := hb.1 e
  have hk := hyes v
  have hl := v.1
  have go : ∀ (m i : Nat), i + m = t.length → L0_impl_ReuseDistances t (t.length : Int) k (m + 1) (i : Int) (distM [] (t.take i) ++ List.replicate m 0) (usedR [] (t.take i)) := by
    intro m
    induction m with
    | zero =>
      intro i hi
      rw [L0_impl_ReuseDistances, T0_impl_ReuseDistances, List.take_of_length_le (by omega)]
      refine br_dec.2 ⟨fun h => by omega, fun _ => ?_⟩
      rw [List.replicate_zero, List.append_nil]; exact hk
    | succ m ih =>
      intro i hi
      have next := ih (i + 1) (by omega)
      rw [take_get (by omega), distM_append, usedR_append] at next
      have hd : (distM [] (t.take i)).length = i := by rw [distM_len, List.length_take]; omega
      have hu : (usedR [] (t.take i)).length ≤ i := by
        have := nk_le (t.take i)
        rw [List.length_take] at this
        rw [usedR_len]; omega
      have hp := @plc_lt (usedR [] (t.take i)) (t.getD i 0)
      have hg := plc_ge1 (usedR [] (t.take i)) (t.getD i 0)
      have hr := @rmK_le (usedR [] (t.take i)) (t.getD i 0)
      rw [L0_impl_ReuseDistances, T0_impl_ReuseDistances]
      simp only [Int.toNat_natCast]
      refine br_yd (by omega) ⟨⟨by omega, by omega⟩, by omega, inR (by omega) (by omega), ⟨by omega, ?_⟩, by omega, by omega, inR (by omega) (by omega), ?_⟩
      · rw [List.length_append, hd, List.length_replicate]; omega
      · rw [List.replicate_succ, set_mid hd]
        rw [List.append_assoc] at next
        exact next
  refine ⟨⟨rfl, by omega, by omega⟩, ?_⟩
  exact ⟨_, go t.length 0 (by omega)⟩
-- impl.HitCurve
def T1_impl_HitCurve (reuseDistances12 : List Int) (xt13 : Int) (xt14 : Int) (xroom6 : Int) (xy10' : List Int) (B0 : Int → List Int → Prop) (B1 : Int → List Int → Prop) : Prop :=
  br (decide (xroom6 ≤ 8))
  (InR (xroom6 - 1) ∧
    (0 ≤ (xroom6 - 1) ∧ (xroom6 - 1) < (xy10'.length : Int)) ∧
    InR ((List.getD xy10' (Int.toNat (xroom6 - 1)) (0 : Int)) + 1) ∧
    (0 ≤ (xroom6 - 1) ∧ (xroom6 - 1) < (xy10'.length : Int)) ∧
    InR (xroom6 + 1) ∧
    B1 (xroom6 + 1) (List.set xy10' (Int.toNat (xroom6 - 1)) ((List.getD xy10' (Int.toNat (xroom6 - 1)) (0 : Int)) + 1)))
  (InR (xt14 + 1) ∧
    B0 (xt14 + 1) xy10')
def L1_impl_HitCurve (reuseDistances12 : List Int) (xt13 : Int) (xt14 : Int) (k : List Int → Prop) (B0 : Int → List Int → Prop) : Nat → Int → List Int → Prop
  | 0, _, _ => False
  | n + 1, xroom6, xy10' => T1_impl_HitCurve reuseDistances12 xt13 xt14 xroom6 xy10' B0 (L1_impl_HitCurve reuseDistances12 xt13 xt14 k B0 n)
def T0_impl_HitCurve (reuseDistances12 : List Int) (xt13 : Int) (xt14 : Int) (xy10 : List Int) (k : List Int → Prop) (B0 : Int → List Int → Prop) (I1 : List Int → Int → Int → Int → List Int → Prop) : Prop :=
  br (decide (xt14 < xt13))
  ((0 ≤ xt14 ∧ xt14 < (reuseDistances12.length : Int)) ∧
    br ((List.getD reuseDistances12 (Int.toNat xt14) (0 : Int)) == 0)
    (InR (xt14 + 1) ∧
      B0 (xt14 + 1) xy10)
    (I1 reuseDistances12 xt13 xt14 (List.getD reuseDistances12 (Int.toNat xt14) (0 : Int)) xy10))
  (k xy10)
def L0_impl_HitCurve (reuseDistances12 : List Int) (xt13 : Int) (k : List Int → Prop) : Nat → Int → List Int → Prop
  | 0, _, _ => False
  | n + 1, xt14, xy10 => T0_impl_HitCurve reuseDistances12 xt13 xt14 xy10 k (L0_impl_HitCurve reuseDistances12 xt13 k n) (fun reuseDistances12 xt13 xt14 xroom6 xy10' => ∃ j, L1_impl_HitCurve reuseDistances12 xt13 xt14 k (L0_impl_HitCurve reuseDistances12 xt13 k n) j xroom6 xy10')
def G_impl_HitCurve (t0 : List Int) (k : List Int → Prop) (I0 : List Int → Int → Int → List Int → Prop) : Prop :=
  F_impl_ValidTrace t0 fun validTrace8 =>
  br (!validTrace8)
  (k ([] : List Int))
  (((8 : Int) = 8 ∧ 0 ≤ (8 : Int) ∧ (8 : Int) ≤ 1000000000) ∧
    F_impl_ReuseDistances t0 fun reuseDistances12 =>
    I0 reuseDistances12 (reuseDistances12.length : Int) 0 (List.replicate 8 (0 : Int)))
def S_impl_HitCurve (t0 : List Int) (k : List Int → Prop) : Prop := G_impl_HitCurve t0 k (fun reuseDistances12 xt13 xt14 xy10 => ∃ j, L0_impl_HitCurve reuseDistances12 xt13 k j xt14 xy10)
def F_impl_HitCurve (t : List Int) (k : List Int → Prop) : Prop := (VTrace t → k (curveM t)) ∧ (¬ VTrace t → k [])
theorem F_impl_HitCurve_S {t : List Int} {k : List Int → Prop} (h : F_impl_HitCurve t k) : S_impl_HitCurve t k := by
  obtain ⟨hyes, hno⟩ := h
  intro b hb
  refine br_not.2 (br_iff.2 ⟨fun e => ?_, fun e => hno fun w => by rw [hb.2 w] at e; cases e⟩)
  have v := hb.1 e
  have hk := hyes v
  have hl := v.1
  have hd := distM_len t []
  rw [curveM_D] at hk
  have inner : ∀ (l : List Int) (d : Int) (i : Int) (B : Int → List Int → Prop), 0 ≤ i → i ≤ 100 → l.length ≤ 100 → 1 ≤ d → B (i + 1) (curveD (l ++ [d])) →
      ∀ (m : Nat) (room : Int), d ≤ room → 9 ≤ room + (m : Int) → L1_impl_HitCurve (distM [] t) ((distM [] t).length : Int) i k B (m + 1) room (midC l d room) := by
    intro l d i B i0 i1 l1 d1 hB m
    induction m with
    | zero =>
      intro room h1 h2
      rw [L1_impl_HitCurve, T1_impl_HitCurve]
      refine br_nd (by omega) ⟨inR (by omega) (by omega), ?_⟩
      rw [midC_end d1 (by omega)]; exact hB
    | succ m ih =>
      intro room h1 h2
      rw [L1_impl_HitCurve, T1_impl_HitCurve, midC_len]
      refine br_dec.2 ⟨fun h8 => ?_, fun h8 => ⟨inR (by omega) (by omega), ?_⟩⟩
      · have := @midC_range l d room (room - 1).toNat (by omega)
        rw [midC_step h1 (by omega) h8]
        exact ⟨inR (by omega) (by omega), ⟨by omega, by omega⟩, inR (by omega) (by omega), ⟨by omega, by omega⟩, inR (by omega) (by omega), ih (room + 1) (by omega) (by omega)⟩
      · rw [midC_end d1 (by omega)]; exact hB
  have go : ∀ (m i : Nat), i + m = t.length → L0_impl_HitCurve (distM [] t) ((distM [] t).length : Int) k (m + 1) (i : Int) (curveD ((distM [] t).take i)) := by
    intro m
    induction m with
    | zero =>
      intro i hi
      rw [L0_impl_HitCurve, T0_impl_HitCurve, List.take_of_length_le (by omega)]
      exact br_nd (by omega) hk
    | succ m ih =>
      intro i hi
      have next := ih (i + 1) (by omega)
      rw [take_get (by omega)] at next
      have hr := @distM_range t i (by omega)
      rw [L0_impl_HitCurve, T0_impl_HitCurve]
      simp only [Int.toNat_natCast]
      refine br_yd (by omega) ⟨⟨by omega, by omega⟩, br_beq.2 ⟨fun hz => ⟨inR (by omega) (by omega), ?_⟩, fun hz => ⟨9, ?_⟩⟩⟩
      · rw [hz, curveD_zero] at next; exact next
      · rw [← midC_start ((distM [] t).take i) ((distM [] t).getD i 0)]
        exact inner _ _ (i : Int) _ (by omega) (by omega) (by rw [List.length_take]; omega) (by omega) next 8 _ (Int.le_refl _) (by omega)
  exact ⟨⟨rfl, by omega, by omega⟩, yes v ⟨_, go t.length 0 (by omega)⟩⟩
-- impl.RoomFor
def T0_impl_RoomFor (hitCurve15 : List Int) (hits1 : Int) (xt16 : Int) (xt17 : Int) (k : Int → Prop) (B0 : Int → Prop) : Prop :=
  br (decide (xt17 < xt16))
  ((0 ≤ xt17 ∧ xt17 < (hitCurve15.length : Int)) ∧
    br (decide ((List.getD hitCurve15 (Int.toNat xt17) (0 : Int)) ≥ hits1))
    (InR (xt17 + 1) ∧
      k (xt17 + 1))
    (InR (xt17 + 1) ∧
      B0 (xt17 + 1)))
  (k (-1))
def L0_impl_RoomFor (hitCurve15 : List Int) (hits1 : Int) (xt16 : Int) (k : Int → Prop) : Nat → Int → Prop
  | 0, _ => False
  | n + 1, xt17 => T0_impl_RoomFor hitCurve15 hits1 xt16 xt17 k (L0_impl_RoomFor hitCurve15 hits1 xt16 k n)
def G_impl_RoomFor (t0 : List Int) (hits1 : Int) (k : Int → Prop) (I0 : List Int → Int → Int → Int → Prop) : Prop :=
  F_impl_ValidTrace t0 fun validTrace8 =>
  br (!validTrace8)
  (k (-1))
  (br (decide (hits1 < 0))
    (k (-1))
    (F_impl_HitCurve t0 fun hitCurve15 =>
      I0 hitCurve15 hits1 (hitCurve15.length : Int) 0))
def S_impl_RoomFor (t0 : List Int) (hits1 : Int) (k : Int → Prop) : Prop := G_impl_RoomFor t0 hits1 k (fun hitCurve15 hits1 xt16 xt17 => ∃ j, L0_impl_RoomFor hitCurve15 hits1 xt16 k j xt17)
def F_impl_RoomFor (t : List Int) (hits : Int) (k : Int → Prop) : Prop := (VTrace t ∧ 0 ≤ hits → k (roomM t hits)) ∧ (¬ (VTrace t ∧ 0 ≤ hits) → k (-1))
theorem F_impl_RoomFor_S {t : List Int} {hits : Int} {k : Int → Prop} (h : F_impl_RoomFor t hits k) : S_impl_RoomFor t hits k := by
  obtain ⟨hyes, hno⟩ := h
  intro b hb
  refine br_not.2 (br_iff.2 ⟨fun e => ?_, fun e => hno fun w => by rw [hb.2 w.1] at e; cases e⟩)
  have v := hb.1 e
  refine br_dec.2 ⟨fun hn => hno fun w => by omega, fun hn => yes v ?_⟩
  have hk := hyes ⟨v, by omega⟩
  have hc := curveM_len t
  have go : ∀ (r : List Int) (i : Nat), (curveM t).drop i = r → firstGe r hits ((i : Int) + 1) = roomM t hits → L0_impl_RoomFor (curveM t) hits ((curveM t).length : Int) k (r.length + 1) (i : Int) := by
    intro r
    induction r with
    | nil =>
      intro i hd he
      have := drop_nil' hd
      rw [L0_impl_RoomFor, T0_impl_RoomFor]
      refine br_nd (by omega) ?_
      rw [show (-1 : Int) = roomM t hits from he]; exact hk
    | cons x r ih =>
      intro i hd he
      obtain ⟨g1, g2, g5, g3, g4⟩ := drop_cons' hd
      rw [List.length_cons, L0_impl_RoomFor, T0_impl_RoomFor]
      simp only [Int.toNat_natCast, g2]
      rw [firstGe] at he
      refine br_yd (by omega) ⟨⟨by omega, by omega⟩, br_dec.2 ⟨fun h => ⟨inR (by omega) (by omega), ?_⟩, fun h => ⟨inR (by omega) (by omega), ?_⟩⟩⟩
      · rw [if_pos (by omega)] at he; rw [he]; exact hk
      · rw [if_neg (by omega)] at he; exact ih (i + 1) g3 he
  exact ⟨_, go (curveM t) 0 rfl rfl⟩
-- laws.eqIntS
def T0_laws_eqIntS (a0 : List Int) (b1 : List Int) (xi5 : Int) (k : Bool → Prop) (B0 : Int → Prop) : Prop :=
  br (decide (xi5 < (a0.length : Int)))
  ((0 ≤ xi5 ∧ xi5 < (a0.length : Int)) ∧
    (0 ≤ xi5 ∧ xi5 < (b1.length : Int)) ∧
    br ((List.getD a0 (Int.toNat xi5) (0 : Int)) != (List.getD b1 (Int.toNat xi5) (0 : Int)))
    (k false)
    (InR (xi5 + 1) ∧
      B0 (xi5 + 1)))
  (k true)
def L0_laws_eqIntS (a0 : List Int) (b1 : List Int) (k : Bool → Prop) : Nat → Int → Prop
  | 0, _ => False
  | n + 1, xi5 => T0_laws_eqIntS a0 b1 xi5 k (L0_laws_eqIntS a0 b1 k n)
def G_laws_eqIntS (a0 : List Int) (b1 : List Int) (k : Bool → Prop) (I0 : List Int → List Int → Int → Prop) : Prop :=
  br ((a0.length : Int) != (b1.length : Int))
  (k false)
  (I0 a0 b1 0)
def S_laws_eqIntS (a0 : List Int) (b1 : List Int) (k : Bool → Prop) : Prop := G_laws_eqIntS a0 b1 k (fun a0 b1 xi5 => ∃ j, L0_laws_eqIntS a0 b1 k j xi5)
def F_laws_eqIntS (a b : List Int) (k : Bool → Prop) : Prop := a.length ≤ 1000000000 ∧ k (decide (a = b))
theorem F_laws_eqIntS_S {a b : List Int} {k : Bool → Prop} (h : F_laws_eqIntS a b k) : S_laws_eqIntS a b k := by
  obtain ⟨hl, hk⟩ := h
  refine br_bne.2 ⟨fun he => by rwa [decide_eq_false (fun e => he (by rw [e]))] at hk, fun he => ?_⟩
  have he : a.length = b.length := by omega
  have key : ∀ (r : List Int) (i : Nat), a.drop i = r → (r = b.drop i ↔ a = b) → L0_laws_eqIntS a b k (r.length + 1) (i : Int) := by
    intro r
    induction r with
    | nil =>
      intro i hd hi
      have := drop_nil' hd
      rw [L0_laws_eqIntS, T0_laws_eqIntS]
      simp only [br_dec]
      exact ⟨fun h => by omega, fun _ => by rwa [decide_eq_true (hi.1 (List.drop_eq_nil_of_le (by omega)).symm)] at hk⟩
    | cons x r ih =>
      intro i hd hi
      obtain ⟨h1, h2, _, h3, _⟩ := drop_cons' hd
      obtain ⟨y, s, hs⟩ : ∃ y s, b.drop i = y :: s := by
        cases e : b.drop i with
        | nil => have := drop_nil' e; omega
        | cons y s => exact ⟨y, s, rfl⟩
      obtain ⟨g1, g2, _, g3, _⟩ := drop_cons' hs
      rw [List.length_cons, L0_laws_eqIntS, T0_laws_eqIntS]
      simp only [br_dec, br_bne, Int.toNat_natCast, h2, g2]
      rw [hs] at hi
      refine ⟨fun _ => ⟨⟨by omega, by omega⟩, ⟨by omega, by omega⟩, ?_⟩, fun h => by omega⟩
      have go : x = y → L0_laws_eqIntS a b k (r.length + 1) ((i : Int) + 1) := fun hx => ih (i + 1) h3 (by rw [g3, ← hi, hx]; simp)
      have no : x ≠ y → k false := fun hx => by rwa [decide_eq_false (fun e => hx (List.cons.inj (hi.2 e)).1)] at hk
      exact ⟨no, fun hx => ⟨inR (by omega) (by omega), go hx⟩⟩
  exact ⟨_, key a 0 rfl (by simp)⟩
-- laws.FnExactRoomFor
def G_laws_FnExactRoomFor (aT0 : List Int) (aHits1 : Int) (k : Bool → Prop) : Prop :=
  br (decide ((aT0.length : Int) > 1048576))
  (k true)
  (F_laws_toIntS aT0 fun toIntS12 =>
    F_spec_RoomFor toIntS12 aHits1 fun roomFor14 =>
    F_laws_toIntS aT0 fun toIntS16 =>
    F_impl_RoomFor toIntS16 aHits1 fun roomFor19 =>
    br (roomFor19 != roomFor14)
    (k false)
    (F_laws_toIntS aT0 fun toIntS25 =>
      F_laws_eqIntS toIntS16 toIntS25 fun eqIntS26 =>
      br (!eqIntS26)
      (k false)
      (k true)))
def S_laws_FnExactRoomFor (aT0 : List Int) (aHits1 : Int) (k : Bool → Prop) : Prop := G_laws_FnExactRoomFor aT0 aHits1 k
abbrev F_laws_FnExactRoomFor (aT0 : List Int) (aHits1 : Int) (k : Bool → Prop) : Prop := S_laws_FnExactRoomFor aT0 aHits1 k
theorem F_laws_FnExactRoomFor_S {aT0 : List Int} {aHits1 : Int} {k : Bool → Prop} (h : F_laws_FnExactRoomFor aT0 aHits1 k) : S_laws_FnExactRoomFor aT0 aHits1 k := h
theorem law_FnExactRoomFor (t : List Int) (lt : t.length ≤ maxLen) (rt : ∀ x ∈ t, InR x) (hits : Int) (rhits : InR hits) :
    F_laws_FnExactRoomFor t hits (fun r => r = true) := by
  refine br_dec.2 ⟨fun _ => rfl, fun t0 => ?_⟩
  have mt : t.length ≤ 1000000000 := by omega
  by_cases v : VTrace t ∧ 0 ≤ hits
  · exact ⟨mt, ⟨fun _ => ⟨mt, ⟨fun _ => br_same' (⟨mt, mt, br_de (rfl)⟩), fun h => absurd v h⟩⟩, fun h => absurd v h⟩⟩
  · exact ⟨mt, ⟨fun h => absurd h v, fun _ => ⟨mt, ⟨fun h => absurd h v, fun _ => br_same' (⟨mt, mt, br_de (rfl)⟩)⟩⟩⟩⟩
end Go.Ev
