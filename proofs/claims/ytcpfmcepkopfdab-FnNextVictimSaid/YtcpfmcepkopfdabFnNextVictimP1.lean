/- What the functions that the law reaches do, written as plain Lean. No statement is proved here. -/
import Derived.Test.YtcpfmcepkopfdabFnNextVictimP0
namespace Go.Ev
set_option linter.unusedVariables false
open Go
def F_impl_NextVictim (room : Int) (keys : List Int) (used : List Bool) (hand : Int) (k : Int → Prop) : Prop :=
  (VClock room keys used hand ∧ (keys.length : Int) = room → k (keys.getD (vicM used hand.toNat) 0)) ∧ (¬ (VClock room keys used hand ∧ (keys.length : Int) = room) → k (-1))
theorem F_impl_NextVictim_S {room : Int} {keys : List Int} {used : List Bool} {hand : Int} {k : Int → Prop} (h : F_impl_NextVictim room keys used hand k) : S_impl_NextVictim room keys used hand k := by
  obtain ⟨hyes, hno⟩ := h
  intro b hb
  rw [br_not, br_iff]
  refine ⟨fun e => br_dec.2 ⟨fun h => hno fun w => by omega, fun hl => ?_⟩, fun e => hno fun v => by rw [hb.2 v.1] at e; cases e⟩
  have v := hb.1 e
  have hfull : (keys.length : Int) = room := by have := v.1.2.2.1; omega
  have hk := hyes ⟨v, hfull⟩
  obtain ⟨w1, w2⟩ := v.2.2.2 hfull
  have hu := v.2.1
  have h8 := v.1.2.1
  have key : ∀ (d h i : Nat), i + d = keys.length → h < keys.length → k (keys.getD (scanM d used h) 0) → L0_impl_NextVictim keys room used (keys.length : Int) k (d + 1) (i : Int) (h : Int) := by
    intro d
    induction d with
    | zero =>
      intro h i hd hh hk
      rw [L0_impl_NextVictim, T0_impl_NextVictim]
      simp only [br_dec, Int.toNat_natCast]
      exact ⟨fun h => by omega, fun _ => ⟨⟨by omega, by omega⟩, hk⟩⟩
    | succ d ih =>
      intro h i hd hh hk
      rw [L0_impl_NextVictim, T0_impl_NextVictim]
      simp only [br_dec, Int.toNat_natCast, br_not]
      refine ⟨fun _ => ⟨⟨by omega, by omega⟩, ?_⟩, fun h => by omega⟩
      rw [scanM] at hk
      rw [br_iff]
      refine ⟨fun e => ⟨inR (by omega) (by omega), by omega, inR (by omega) (by omega), ?_⟩, fun e => ⟨⟨by omega, by omega⟩, ?_⟩⟩
      · rw [if_pos e] at hk
        rw [tmod_next, ← hu]
        rw [hu] at hk ⊢
        exact ih _ (i + 1) (by omega) (Nat.mod_lt _ (by omega)) hk
      · rw [e, if_neg (by simp)] at hk; exact hk
  refine ⟨keys.length + 1, ?_⟩
  have := key keys.length hand.toNat 0 (by omega) (by omega) (by rw [← hu, vic_scan (by omega)]; exact hk)
  rwa [Int.toNat_of_nonneg w1] at this
-- spec.inRange
def G_spec_inRange (n0 : Int) (low1 : Int) (high2 : Int) (k : Bool → Prop) : Prop :=
  br (decide (low1 ≤ n0))
  (k (decide (n0 ≤ high2)))
  (k false)
def S_spec_inRange (n0 : Int) (low1 : Int) (high2 : Int) (k : Bool → Prop) : Prop := G_spec_inRange n0 low1 high2 k
def F_spec_inRange (n low high : Int) (k : Bool → Prop) : Prop := k (decide (low ≤ n ∧ n ≤ high))
theorem F_spec_inRange_S {n low high : Int} {k : Bool → Prop} (h : F_spec_inRange n low high k) : S_spec_inRange n low high k := by
  unfold F_spec_inRange at h
  simp only [S_spec_inRange, G_spec_inRange, br_dec]
  refine ⟨fun h1 => ?_, fun h1 => ?_⟩
  · simpa [h1] using h
  · simpa [h1] using h
-- spec.allIn
def T0_spec_allIn (high2 : Int) (list0 : List Int) (low1 : Int) (xi7 : Int) (k : Bool → Prop) (B0 : Int → Prop) : Prop :=
  br (decide (xi7 < (list0.length : Int)))
  ((0 ≤ xi7 ∧ xi7 < (list0.length : Int)) ∧
    F_spec_inRange (List.getD list0 (Int.toNat xi7) (0 : Int)) low1 high2 fun inRange20 =>
    br (!inRange20)
    (k false)
    (InR (xi7 + 1) ∧
      B0 (xi7 + 1)))
  (k true)
def L0_spec_allIn (high2 : Int) (list0 : List Int) (low1 : Int) (k : Bool → Prop) : Nat → Int → Prop
  | 0, _ => False
  | n + 1, xi7 => T0_spec_allIn high2 list0 low1 xi7 k (L0_spec_allIn high2 list0 low1 k n)
def G_spec_allIn (list0 : List Int) (low1 : Int) (high2 : Int) (I0 : Int → List Int → Int → Int → Prop) : Prop :=
  I0 high2 list0 low1 0
def S_spec_allIn (list0 : List Int) (low1 : Int) (high2 : Int) (k : Bool → Prop) : Prop := G_spec_allIn list0 low1 high2 (fun high2 list0 low1 xi7 => ∃ j, L0_spec_allIn high2 list0 low1 k j xi7)
def F_spec_allIn (l : List Int) (low high : Int) (k : Bool → Prop) : Prop := l.length ≤ 1000000000 ∧ k (decide (∀ x ∈ l, low ≤ x ∧ x ≤ high))
theorem F_spec_allIn_S {l : List Int} {low high : Int} {k : Bool → Prop} (h : F_spec_allIn l low high k) : S_spec_allIn l low high k := by
  obtain ⟨hl, hk⟩ := h
  have key : ∀ (r : List Int) (i : Nat), l.drop i = r → ((∀ x ∈ r, low ≤ x ∧ x ≤ high) ↔ (∀ x ∈ l, low ≤ x ∧ x ≤ high)) → L0_spec_allIn high l low k (r.length + 1) (i : Int) := by
    intro r
    induction r with
    | nil =>
      intro i hd he
      have := drop_nil' hd
      rw [L0_spec_allIn, T0_spec_allIn]
      simp only [br_dec]
      refine ⟨fun h => by omega, fun _ => ?_⟩
      rwa [decide_eq_true (he.1 (by simp))] at hk
    | cons x r ih =>
      intro i hd he
      obtain ⟨h1, h2, _, h3, _⟩ := drop_cons' hd
      rw [List.length_cons, L0_spec_allIn, T0_spec_allIn]
      simp only [br_dec, F_spec_inRange, br_not, Int.toNat_natCast, h2]
      refine ⟨fun _ => ⟨⟨by omega, by omega⟩, fun hx => ⟨inR (by omega) (by omega), ?_⟩, fun hx => ?_⟩, fun h => by omega⟩
      · refine ih (i + 1) h3 (Iff.trans ?_ he)
        simp only [List.mem_cons, forall_eq_or_imp]
        exact ⟨fun h => ⟨hx, h⟩, fun h => h.2⟩
      · rwa [decide_eq_false (fun h => hx (he.2 h x (by simp)))] at hk
  exact ⟨_, key l 0 rfl Iff.rfl⟩
-- spec.distinct
def T0_spec_distinct (list0 : List Int) (xi3 : Int) (k : Bool → Prop) (B0 : Int → Prop) : Prop :=
  br (decide (xi3 < (list0.length : Int)))
  ((0 ≤ xi3 ∧ xi3 < (list0.length : Int)) ∧
    F_spec_placeOf list0 (List.getD list0 (Int.toNat xi3) (0 : Int)) fun placeOf15 =>
    br (placeOf15 != xi3)
    (k false)
    (InR (xi3 + 1) ∧
      B0 (xi3 + 1)))
  (k true)
def L0_spec_distinct (list0 : List Int) (k : Bool → Prop) : Nat → Int → Prop
  | 0, _ => False
  | n + 1, xi3 => T0_spec_distinct list0 xi3 k (L0_spec_distinct list0 k n)
def G_spec_distinct (list0 : List Int) (I0 : List Int → Int → Prop) : Prop :=
  I0 list0 0
def S_spec_distinct (list0 : List Int) (k : Bool → Prop) : Prop := G_spec_distinct list0 (fun list0 xi3 => ∃ j, L0_spec_distinct list0 k j xi3)
def F_spec_distinct (l : List Int) (k : Bool → Prop) : Prop := l.length ≤ 1000000000 ∧ k (decide l.Nodup)
theorem F_spec_distinct_S {l : List Int} {k : Bool → Prop} (h : F_spec_distinct l k) : S_spec_distinct l k := by
  obtain ⟨hl, hk⟩ := h
  have key : ∀ (r : List Int) (i : Nat), l.drop i = r → (∀ q : Nat, q < i → plc l (l.getD q 0) = (q : Int)) → L0_spec_distinct l k (r.length + 1) (i : Int) := by
    intro r
    induction r with
    | nil =>
      intro i hd he
      have := drop_nil' hd
      rw [L0_spec_distinct, T0_spec_distinct]
      simp only [br_dec]
      refine ⟨fun h => by omega, fun _ => ?_⟩
      rwa [decide_eq_true (nodup_plc.1 fun q hq => he q (by omega))] at hk
    | cons x r ih =>
      intro i hd he
      obtain ⟨h1, h2, _, h3, _⟩ := drop_cons' hd
      rw [List.length_cons, L0_spec_distinct, T0_spec_distinct]
      simp only [br_dec, F_spec_placeOf, br_bne, Int.toNat_natCast]
      refine ⟨fun _ => ⟨⟨by omega, by omega⟩, hl, fun hx => ?_, fun hx => ⟨inR (by omega) (by omega), ?_⟩⟩, fun h => by omega⟩
      · rwa [decide_eq_false (fun h => hx (nodup_plc.2 h i h1))] at hk
      · refine ih (i + 1) h3 fun q hq => ?_
        by_cases e : q = i
        · subst e; exact hx
        · exact he q (by omega)
  exact ⟨_, key l 0 rfl (fun q hq => by omega)⟩
-- spec.validKeys
def G_spec_validKeys (list0 : List Int) (room1 : Int) (k : Bool → Prop) : Prop :=
  F_spec_inRange room1 (1 : Int) (8 : Int) fun inRange6 =>
  br inRange6
  (br (decide ((list0.length : Int) ≤ room1))
    (F_spec_allIn list0 (0 : Int) (31 : Int) fun allIn15 =>
      br allIn15
      (F_spec_distinct list0 fun distinct19 =>
        k distinct19)
      (k false))
    (k false))
  (k false)
def S_spec_validKeys (list0 : List Int) (room1 : Int) (k : Bool → Prop) : Prop := G_spec_validKeys list0 room1 k
def F_spec_validKeys (l : List Int) (room : Int) (k : Bool → Prop) : Prop := ∀ b : Bool, (b = true ↔ VKeys l room) → k b
theorem F_spec_validKeys_S {l : List Int} {room : Int} {k : Bool → Prop} (h : F_spec_validKeys l room k) : S_spec_validKeys l room k := by
  have hno : ¬ VKeys l room → k false := fun hv => h false (by simp [hv])
  show br (decide (1 ≤ room ∧ room ≤ 8)) _ _
  refine br_dec.2 ⟨fun h1 => br_dec.2 ⟨fun h3 => ?_, fun h3 => hno fun v => h3 v.2.2.1⟩, fun h1 => hno fun v => h1 ⟨v.1, v.2.1⟩⟩
  refine ⟨by omega, br_dec.2 ⟨fun h4 => ⟨by omega, h _ ?_⟩, fun h4 => hno fun v => h4 v.2.2.2.1⟩⟩
  simp only [decide_eq_true_eq]
  exact ⟨fun hn => ⟨h1.1, h1.2, h3, h4, hn⟩, fun v => v.2.2.2.2⟩
-- spec.validClock
def G_spec_validClock (c0Room : Int) (c0Keys : List Int) (c0Used : List Bool) (c0Hand : Int) (k : Bool → Prop) : Prop :=
  F_spec_inRange c0Room (1 : Int) (8 : Int) fun inRange9 =>
  br inRange9
  (F_spec_validKeys c0Keys c0Room fun validKeys15 =>
    br validKeys15
    (br ((c0Used.length : Int) == (c0Keys.length : Int))
      (InR ((c0Keys.length : Int) - 1) ∧
        F_spec_inRange c0Hand (0 : Int) (if 0 < ((c0Keys.length : Int) - 1) then ((c0Keys.length : Int) - 1) else 0) fun inRange30 =>
        br inRange30
        (br ((c0Keys.length : Int) == c0Room)
          (k true)
          (k (c0Hand == 0)))
        (k false))
      (k false))
    (k false))
  (k false)
def S_spec_validClock (c0Room : Int) (c0Keys : List Int) (c0Used : List Bool) (c0Hand : Int) (k : Bool → Prop) : Prop := G_spec_validClock c0Room c0Keys c0Used c0Hand k
def F_spec_validClock (room : Int) (keys : List Int) (used : List Bool) (hand : Int) (k : Bool → Prop) : Prop := ∀ b : Bool, (b = true ↔ VClock room keys used hand) → k b
theorem F_spec_validClock_S {room : Int} {keys : List Int} {used : List Bool} {hand : Int} {k : Bool → Prop} (h : F_spec_validClock room keys used hand k) : S_spec_validClock room keys used hand k := by
  have hno : ¬ VClock room keys used hand → k false := fun hv => h false (by simp [hv])
  show br (decide (1 ≤ room ∧ room ≤ 8)) _ _
  refine br_dec.2 ⟨fun h1 => ?_, fun h1 => hno fun v => h1 ⟨v.1.1, v.1.2.1⟩⟩
  intro b hb
  rw [br_iff]
  refine ⟨fun e => ?_, fun e => hno fun v => by rw [hb.2 v.1] at e; cases e⟩
  have hv := hb.1 e
  have hlen := hv.2.2.1
  refine br_beq.2 ⟨fun h3 => ⟨inR (by omega) (by omega), br_dec.2 ⟨fun h4 => br_beq.2 ⟨fun h6 => h true ?_, fun h6 => h _ ?_⟩, fun h4 => hno fun v => h4 ?_⟩⟩, fun h3 => hno fun v => h3 (by rw [v.2.1])⟩
  · simp only [true_iff]
    obtain ⟨h4, h5⟩ := h4
    refine ⟨hv, by omega, fun h => by omega, fun _ => ⟨h4, ?_⟩⟩
    split at h5 <;> omega
  · simp only [beq_iff_eq]
    exact ⟨fun e => ⟨hv, by omega, fun _ => e, fun h => absurd h h6⟩, fun v => v.2.2.1 (by omega)⟩
  · by_cases h6 : (keys.length : Int) = room
    · have := v.2.2.2 h6
      constructor
      · omega
      · split <;> omega
    · rw [v.2.2.1 (by omega)]
      constructor
      · omega
      · split <;> omega
-- spec.NextVictim
def T0_spec_NextVictim (c0Hand : Int) (c0Keys : List Int) (c0Room : Int) (c0Used : List Bool) (xi3 : Int) (k : Int → Prop) (B0 : Int → Prop) : Prop :=
  br (decide (xi3 < c0Room))
  (InR (c0Hand + xi3) ∧
    (c0Room ≠ 0) ∧
    (0 ≤ (Int.tmod (c0Hand + xi3) c0Room) ∧ (Int.tmod (c0Hand + xi3) c0Room) < (c0Used.length : Int)) ∧
    br (!(List.getD c0Used (Int.toNat (Int.tmod (c0Hand + xi3) c0Room)) false))
    ((0 ≤ (Int.tmod (c0Hand + xi3) c0Room) ∧ (Int.tmod (c0Hand + xi3) c0Room) < (c0Keys.length : Int)) ∧
      k (List.getD c0Keys (Int.toNat (Int.tmod (c0Hand + xi3) c0Room)) (0 : Int)))
    (InR (xi3 + 1) ∧
      B0 (xi3 + 1)))
  ((0 ≤ c0Hand ∧ c0Hand < (c0Keys.length : Int)) ∧
    k (List.getD c0Keys (Int.toNat c0Hand) (0 : Int)))
def L0_spec_NextVictim (c0Hand : Int) (c0Keys : List Int) (c0Room : Int) (c0Used : List Bool) (k : Int → Prop) : Nat → Int → Prop
  | 0, _ => False
  | n + 1, xi3 => T0_spec_NextVictim c0Hand c0Keys c0Room c0Used xi3 k (L0_spec_NextVictim c0Hand c0Keys c0Room c0Used k n)
def G_spec_NextVictim (c0Room : Int) (c0Keys : List Int) (c0Used : List Bool) (c0Hand : Int) (k : Int → Prop) (I0 : Int → List Int → Int → List Bool → Int → Prop) : Prop :=
  F_spec_validClock c0Room c0Keys c0Used c0Hand fun validClock6 =>
  br (!validClock6)
  (k (-1))
  (br (decide ((c0Keys.length : Int) < c0Room))
    (k (-1))
    (I0 c0Hand c0Keys c0Room c0Used 0))
def S_spec_NextVictim (c0Room : Int) (c0Keys : List Int) (c0Used : List Bool) (c0Hand : Int) (k : Int → Prop) : Prop := G_spec_NextVictim c0Room c0Keys c0Used c0Hand k (fun c0Hand c0Keys c0Room c0Used xi3 => ∃ j, L0_spec_NextVictim c0Hand c0Keys c0Room c0Used k j xi3)
def F_spec_NextVictim (room : Int) (keys : List Int) (used : List Bool) (hand : Int) (k : Int → Prop) : Prop :=
  (VClock room keys used hand ∧ (keys.length : Int) = room → k (keys.getD (vicM used hand.toNat) 0)) ∧ (¬ (VClock room keys used hand ∧ (keys.length : Int) = room) → k (-1))
theorem F_spec_NextVictim_S {room : Int} {keys : List Int} {used : List Bool} {hand : Int} {k : Int → Prop} (h : F_spec_NextVictim room keys used hand k) : S_spec_NextVictim room keys used hand k := by
  obtain ⟨hyes, hno⟩ := h
  intro b hb
  rw [br_not, br_iff]
  refine ⟨fun e => br_dec.2 ⟨fun h => hno fun w => by omega, fun hl => ?_⟩, fun e => hno fun v => by rw [hb.2 v.1] at e; cases e⟩
  have v := hb.1 e
  have hfull : (keys.length : Int) = room := by have := v.1.2.2.1; omega
  have hk := hyes ⟨v, hfull⟩
  obtain ⟨w1, w2⟩ := v.2.2.2 hfull
  have hu := v.2.1
  have h8 := v.1.2.1
  obtain ⟨h, rfl⟩ := Int.eq_ofNat_of_zero_le w1
  rw [Int.toNat_natCast] at hk
  have key : ∀ (d i : Nat), i + d = keys.length → (∀ j, j < i → used.getD ((h + j) % used.length) false = true) → L0_spec_NextVictim (h : Int) keys room used k (d + 1) (i : Int) := by
    intro d
    induction d with
    | zero =>
      intro i hd ha
      rw [L0_spec_NextVictim, T0_spec_NextVictim]
      simp only [br_dec, Int.toNat_natCast]
      refine ⟨fun h => by omega, fun _ => ⟨⟨by omega, by omega⟩, ?_⟩⟩
      rwa [vicM, sweep_all (by omega) (fun j hj => ha j (by omega)) (by omega)] at hk
    | succ d ih =>
      intro i hd ha
      rw [L0_spec_NextVictim, T0_spec_NextVictim]
      have e1 : Int.tmod ((h : Int) + (i : Int)) room = (((h + i) % used.length : Nat) : Int) := by rw [← hfull, ← Int.natCast_add, tmod_nat, hu]
      have hm := Nat.mod_lt (h + i) (show used.length > 0 by omega)
      simp only [br_dec, e1, Int.toNat_natCast, br_not]
      refine ⟨fun _ => ⟨inR (by omega) (by omega), by omega, ⟨by omega, by omega⟩, ?_⟩, fun h => by omega⟩
      rw [br_iff]
      refine ⟨fun e => ⟨inR (by omega) (by omega), ih (i + 1) (by omega) fun j hj => ?_⟩, fun e => ⟨⟨by omega, by omega⟩, ?_⟩⟩
      · by_cases ej : j = i
        · rw [ej]; exact e
        · exact ha j (by omega)
      · rwa [vicM, sweep_first i _ h used (by omega) (by omega) ha e (by omega)] at hk
  exact ⟨_, key keys.length 0 (by omega) (fun j hj => by omega)⟩
-- laws.isIn
def T0_laws_isIn (list0 : List Int) (n1 : Int) (xi5 : Int) (k : Bool → Prop) (B0 : Int → Prop) : Prop :=
  br (decide (xi5 < (list0.length : Int)))
  ((0 ≤ xi5 ∧ xi5 < (list0.length : Int)) ∧
    br ((List.getD list0 (Int.toNat xi5) (0 : Int)) == n1)
    (k true)
    (InR (xi5 + 1) ∧
      B0 (xi5 + 1)))
  (k false)
def L0_laws_isIn (list0 : List Int) (n1 : Int) (k : Bool → Prop) : Nat → Int → Prop
  | 0, _ => False
  | n + 1, xi5 => T0_laws_isIn list0 n1 xi5 k (L0_laws_isIn list0 n1 k n)
def G_laws_isIn (list0 : List Int) (n1 : Int) (I0 : List Int → Int → Int → Prop) : Prop :=
  I0 list0 n1 0
def S_laws_isIn (list0 : List Int) (n1 : Int) (k : Bool → Prop) : Prop := G_laws_isIn list0 n1 (fun list0 n1 xi5 => ∃ j, L0_laws_isIn list0 n1 k j xi5)
def F_laws_isIn (l : List Int) (n : Int) (k : Bool → Prop) : Prop := l.length ≤ 1000000000 ∧ k (decide (n ∈ l))
theorem F_laws_isIn_S {l : List Int} {n : Int} {k : Bool → Prop} (h : F_laws_isIn l n k) : S_laws_isIn l n k := by
  obtain ⟨hl, hk⟩ := h
  have key : ∀ (r : List Int) (i : Nat), l.drop i = r → (n ∈ r ↔ n ∈ l) → L0_laws_isIn l n k (r.length + 1) (i : Int) := by
    intro r
    induction r with
    | nil =>
      intro i hd he
      have := drop_nil' hd
      rw [L0_laws_isIn, T0_laws_isIn]
      simp only [br_dec]
      exact ⟨fun h => by omega, fun _ => by rwa [decide_eq_false (fun h => absurd (he.2 h) (by simp))] at hk⟩
    | cons x r ih =>
      intro i hd he
      obtain ⟨h1, h2, h5, h3, _⟩ := drop_cons' hd
      rw [List.length_cons, L0_laws_isIn, T0_laws_isIn]
      simp only [br_dec, br_beq, Int.toNat_natCast, h2]
      refine ⟨fun _ => ⟨⟨by omega, by omega⟩, fun hx => ?_, fun hx => ⟨inR (by omega) (by omega), ih (i + 1) h3 (Iff.trans ?_ he)⟩⟩, fun h => by omega⟩
      · rwa [decide_eq_true (he.1 (by simp [hx]))] at hk
      · simp [Ne.symm hx]
  exact ⟨_, key l 0 rfl Iff.rfl⟩
-- impl.UseClock
def T0_impl_UseClock (c0Keys : List Int) (c0Room : Int) (key1 : Int) (xb6c3 : Int) (xy26 : List Bool) (k : Int → List Int → List Bool → Int → Bool → Prop) (B0 : Int → List Bool → Prop) : Prop :=
  (0 ≤ xb6c3 ∧ xb6c3 < (xy26.length : Int)) ∧
  br (List.getD xy26 (Int.toNat xb6c3) false)
  ((0 ≤ xb6c3 ∧ xb6c3 < (xy26.length : Int)) ∧
    F_impl_nextPlace c0Room c0Keys (List.set xy26 (Int.toNat xb6c3) false) xb6c3 fun nextPlace71 =>
    B0 nextPlace71 (List.set xy26 (Int.toNat xb6c3) false))
  ((0 ≤ xb6c3 ∧ xb6c3 < (c0Keys.length : Int)) ∧
    F_impl_nextPlace c0Room (List.set c0Keys (Int.toNat xb6c3) key1) xy26 xb6c3 fun nextPlace80 =>
    k c0Room (List.set c0Keys (Int.toNat xb6c3) key1) xy26 nextPlace80 false)
def L0_impl_UseClock (c0Keys : List Int) (c0Room : Int) (key1 : Int) (k : Int → List Int → List Bool → Int → Bool → Prop) : Nat → Int → List Bool → Prop
  | 0, _, _ => False
  | n + 1, xb6c3, xy26 => T0_impl_UseClock c0Keys c0Room key1 xb6c3 xy26 k (L0_impl_UseClock c0Keys c0Room key1 k n)
def G_impl_UseClock_j0 (c0Hand : Int) (c0Keys : List Int) (c0Room : Int) (c0Used : List Bool) (key1 : Int) (k : Int → List Int → List Bool → Int → Bool → Prop) (I0 : List Int → Int → Int → Int → List Bool → Prop) : Prop :=
  (F_slices_Index_sint_int c0Keys key1 fun index33 =>
    br (decide (index33 ≥ 0))
    ((0 ≤ index33 ∧ index33 < (c0Used.length : Int)) ∧
      k c0Room c0Keys (List.set c0Used (Int.toNat index33) true) c0Hand true)
    (br (decide ((c0Keys.length : Int) < c0Room))
      ((c0Keys.length + 1 ≤ 1000000000) ∧
        (c0Used.length + 1 ≤ 1000000000) ∧
        k c0Room (c0Keys ++ ([key1] : List Int)) (c0Used ++ ([false] : List Bool)) c0Hand false)
      (I0 c0Keys c0Room key1 c0Hand c0Used))) ∧
  (True)
def G_impl_UseClock_j1 (c0Hand : Int) (c0Keys : List Int) (c0Room : Int) (c0Used : List Bool) (key1 : Int) (k : Int → List Int → List Bool → Int → Bool → Prop) (I0 : List Int → Int → Int → Int → List Bool → Prop) : Prop :=
  ((0 + c0Used.length ≤ 1000000000) ∧
    G_impl_UseClock_j0 c0Hand c0Keys c0Room c0Used key1 k I0) ∧
  (True)
def G_impl_UseClock_j2 (c0Hand : Int) (c0Keys : List Int) (c0Room : Int) (c0Used : List Bool) (key1 : Int) (k : Int → List Int → List Bool → Int → Bool → Prop) (I0 : List Int → Int → Int → Int → List Bool → Prop) : Prop :=
  (G_impl_UseClock_j1 c0Hand c0Keys c0Room c0Used key1 k I0) ∧
  (True)
def G_impl_UseClock_j3 (c0Hand : Int) (c0Keys : List Int) (c0Room : Int) (c0Used : List Bool) (key1 : Int) (k : Int → List Int → List Bool → Int → Bool → Prop) (I0 : List Int → Int → Int → Int → List Bool → Prop) : Prop :=
  ((0 + c0Used.length ≤ 1000000000) ∧
    (G_impl_UseClock_j0 c0Hand c0Keys c0Room c0Used key1 k I0) ∧
    (True)) ∧
  (G_impl_UseClock_j2 c0Hand c0Keys c0Room c0Used key1 k I0)
def G_impl_UseClock_j4 (c0Hand : Int) (c0Keys : List Int) (c0Room : Int) (c0Used : List Bool) (key1 : Int) (k : Int → List Int → List Bool → Int → Bool → Prop) (I0 : List Int → Int → Int → Int → List Bool → Prop) : Prop :=
  (((0 + c0Keys.length ≤ 1000000000) ∧
      G_impl_UseClock_j1 c0Hand c0Keys c0Room c0Used key1 k I0) ∧
    (True)) ∧
  (True)
def G_impl_UseClock_j5 (c0Hand : Int) (c0Keys : List Int) (c0Room : Int) (c0Used : List Bool) (key1 : Int) (k : Int → List Int → List Bool → Int → Bool → Prop) (I0 : List Int → Int → Int → Int → List Bool → Prop) : Prop :=
  ((0 + c0Keys.length ≤ 1000000000) ∧
    G_impl_UseClock_j3 c0Hand c0Keys c0Room c0Used key1 k I0) ∧
  (G_impl_UseClock_j4 c0Hand c0Keys c0Room c0Used key1 k I0)
def G_impl_UseClock_j6 (c0Hand : Int) (c0Keys : List Int) (c0Room : Int) (c0Used : List Bool) (key1 : Int) (k : Int → List Int → List Bool → Int → Bool → Prop) (I0 : List Int → Int → Int → Int → List Bool → Prop) : Prop :=
  ((0 + c0Keys.length ≤ 1000000000) ∧
    G_impl_UseClock_j2 c0Hand c0Keys c0Room c0Used key1 k I0) ∧
  (G_impl_UseClock_j4 c0Hand c0Keys c0Room c0Used key1 k I0)
def G_impl_UseClock_j7 (c0Hand : Int) (c0Keys : List Int) (c0Room : Int) (c0Used : List Bool) (key1 : Int) (k : Int → List Int → List Bool → Int → Bool → Prop) (I0 : List Int → Int → Int → Int → List Bool → Prop) : Prop :=
  (G_impl_UseClock_j4 c0Hand c0Keys c0Room c0Used key1 k I0) ∧
  (True)
def G_impl_UseClock (c0Room : Int) (c0Keys : List Int) (c0Used : List Bool) (c0Hand : Int) (key1 : Int) (k : Int → List Int → List Bool → Int → Bool → Prop) (I0 : List Int → Int → Int → Int → List Bool → Prop) : Prop :=
  F_impl_ValidClock c0Room c0Keys c0Used c0Hand fun validClock9 =>
  br (!validClock9)
  (k 0 ([] : List Int) ([] : List Bool) 0 false)
  (F_impl_validKey key1 fun validKey13 =>
    br (!validKey13)
    (k 0 ([] : List Int) ([] : List Bool) 0 false)
    ((((0 + c0Keys.length ≤ 1000000000) ∧
          (G_impl_UseClock_j3 c0Hand c0Keys c0Room c0Used key1 k I0) ∧
          ((G_impl_UseClock_j2 c0Hand c0Keys c0Room c0Used key1 k I0) ∧
            (True))) ∧
        ((G_impl_UseClock_j5 c0Hand c0Keys c0Room c0Used key1 k I0) ∧
          ((G_impl_UseClock_j6 c0Hand c0Keys c0Room c0Used key1 k I0) ∧
            (True)))) ∧
      (((G_impl_UseClock_j5 c0Hand c0Keys c0Room c0Used key1 k I0) ∧
          (G_impl_UseClock_j7 c0Hand c0Keys c0Room c0Used key1 k I0)) ∧
        (((G_impl_UseClock_j6 c0Hand c0Keys c0Room c0Used key1 k I0) ∧
            (G_impl_UseClock_j7 c0Hand c0Keys c0Room c0Used key1 k I0)) ∧
          (True)))))
def H_impl_UseClock (c0Room : Int) (c0Keys : List Int) (c0Used : List Bool) (c0Hand : Int) (key1 : Int) (k : Int → List Int → List Bool → Int → Bool → Prop) (I0 : List Int → Int → Int → Int → List Bool → Prop) : Prop :=
  F_impl_ValidClock c0Room c0Keys c0Used c0Hand fun validClock9 =>
  br (!validClock9)
  (k 0 ([] : List Int) ([] : List Bool) 0 false)
  (F_impl_validKey key1 fun validKey13 =>
    br (!validKey13)
    (k 0 ([] : List Int) ([] : List Bool) 0 false)
    ((0 + c0Keys.length ≤ 1000000000) ∧
      (0 + c0Used.length ≤ 1000000000) ∧
      F_slices_Index_sint_int c0Keys key1 fun index33 =>
      br (decide (index33 ≥ 0))
      ((0 ≤ index33 ∧ index33 < (c0Used.length : Int)) ∧
        k c0Room c0Keys (List.set c0Used (Int.toNat index33) true) c0Hand true)
      (br (decide ((c0Keys.length : Int) < c0Room))
        ((c0Keys.length + 1 ≤ 1000000000) ∧
          (c0Used.length + 1 ≤ 1000000000) ∧
          k c0Room (c0Keys ++ ([key1] : List Int)) (c0Used ++ ([false] : List Bool)) c0Hand false)
        (I0 c0Keys c0Room key1 c0Hand c0Used))))
theorem G_impl_UseClock_eq (c0Room : Int) (c0Keys : List Int) (c0Used : List Bool) (c0Hand : Int) (key1 : Int) (k : Int → List Int → List Bool → Int → Bool → Prop) (I0 : List Int → Int → Int → Int → List Bool → Prop) : G_impl_UseClock c0Room c0Keys c0Used c0Hand key1 k I0 = H_impl_UseClock c0Room c0Keys c0Used c0Hand key1 k I0 := by
  simp only [G_impl_UseClock, H_impl_UseClock, G_impl_UseClock_j0, G_impl_UseClock_j1, G_impl_UseClock_j2, G_impl_UseClock_j3, G_impl_UseClock_j4, G_impl_UseClock_j5, G_impl_UseClock_j6, G_impl_UseClock_j7, and_self, and_true]
def S_impl_UseClock (c0Room : Int) (c0Keys : List Int) (c0Used : List Bool) (c0Hand : Int) (key1 : Int) (k : Int → List Int → List Bool → Int → Bool → Prop) : Prop := H_impl_UseClock c0Room c0Keys c0Used c0Hand key1 k (fun c0Keys c0Room key1 xb6c3 xy26 => ∃ j, L0_impl_UseClock c0Keys c0Room key1 k j xb6c3 xy26)
def F_impl_UseClock (room : Int) (keys : List Int) (used : List Bool) (hand key : Int) (k : Int → List Int → List Bool → Int → Bool → Prop) : Prop :=
  ((VClock room keys used hand ∧ 0 ≤ key ∧ key ≤ 31) → k room (tickM room keys used hand key).1 (tickM room keys used hand key).2.1 (tickM room keys used hand key).2.2.1 (tickM room keys used hand key).2.2.2) ∧
  (¬ (VClock room keys used hand ∧ 0 ≤ key ∧ key ≤ 31) → k 0 [] [] 0 false)
theorem F_impl_UseClock_S {room : Int} {keys : List Int} {used : List Bool} {hand key : Int} {k : Int → List Int → List Bool → Int → Bool → Prop} (h : F_impl_UseClock room keys used hand key k) : S_impl_UseClock room keys used hand key k := by
  obtain ⟨hyes, hno⟩ := h
  intro b hb
  rw [br_not, br_iff]
  refine ⟨fun e => br_not.2 (br_dec.2 ⟨fun hkey => ?_, fun hkey => hno fun w => hkey w.2⟩), fun e => hno fun w => by rw [hb.2 w.1] at e; cases e⟩
  have v := hb.1 e
  have hk := hyes ⟨v, hkey⟩
  obtain ⟨⟨v1, v2, v3, v4, v5⟩, v6, v7, v8⟩ := v
  have key1 : (keys.length : Int) = room → ∀ (f : Nat) (u : List Bool) (h : Nat), u.length = keys.length → h < u.length → u.count true < f →
      k room (keys.set (sweep f u h).2 key) (sweep f u h).1 (((sweep f u h).2 + 1) % keys.length : Nat) false → L0_impl_UseClock keys room key k f (h : Int) u := by
    intro hr f
    induction f with
    | zero => intro u h _ _ h3; omega
    | succ f ih =>
      intro u h h1 h2 h3 h4
      unfold sweep at h4
      rw [L0_impl_UseClock, T0_impl_UseClock]
      simp only [br_iff, Int.toNat_natCast]
      refine ⟨⟨by omega, by omega⟩, fun hu => ⟨⟨by omega, by omega⟩, inR (by omega) (by omega), by omega, ?_⟩, fun hu => ⟨⟨by omega, by omega⟩, inR (by omega) (by omega), by rw [List.length_set]; omega, ?_⟩⟩
      · rw [if_pos hu] at h4
        rw [tmod_next, ← h1]
        have := count_clear hu
        refine ih _ _ (by simp [h1]) (by rw [List.length_set]; exact Nat.mod_lt _ (by omega)) (by omega) h4
      · rw [if_neg (by rw [hu]; simp)] at h4
        rw [List.length_set, tmod_next]
        exact h4
  refine ⟨by omega, by omega, by omega, br_dec.2 ⟨fun hp => ?_, fun hp => br_dec.2 ⟨fun hl => ?_, fun hl => ?_⟩⟩⟩
  · have hm := plc_ge.1 hp
    unfold tickM at hk
    rw [if_pos hm] at hk
    obtain ⟨j, j1, _, _, j2⟩ := plc_pos hm
    exact ⟨⟨by omega, by omega⟩, hk⟩
  · have hm : key ∉ keys := fun e => hp (plc_ge.2 e)
    unfold tickM at hk
    rw [if_neg hm, if_pos hl] at hk
    exact ⟨by omega, by omega, hk⟩
  · have hm : key ∉ keys := fun e => hp (plc_ge.2 e)
    unfold tickM at hk
    rw [if_neg hm, if_neg hl] at hk
    obtain ⟨w1, w2⟩ := v8 (by omega)
    refine ⟨used.length + 1, ?_⟩
    have := key1 (by omega) (used.length + 1) used hand.toNat v6 (by omega) (Nat.lt_succ_of_le List.count_le_length) hk
    rwa [Int.toNat_of_nonneg w1] at this
-- laws.FnNextVictim
def T1_laws_FnNextVictim (drawNextVictim13Hand : Int) (drawNextVictim13Keys : List Int) (drawNextVictim13Room : Int) (drawNextVictim13Used : List Bool) (nextVictim15 : Int) (useClock37Hand : Int) (useClock37Keys : List Int) (useClock37Room : Int) (useClock37Used : List Bool) (useClock37r1 : Bool) (xi8 : Int) (k : Bool → Prop) (B1 : Int → Prop) : Prop :=
  br (decide (xi8 < (drawNextVictim13Keys.length : Int)))
  ((0 ≤ xi8 ∧ xi8 < (drawNextVictim13Keys.length : Int)) ∧
    (0 ≤ xi8 ∧ xi8 < (drawNextVictim13Keys.length : Int)) ∧
    (F_laws_isIn useClock37Keys (List.getD drawNextVictim13Keys (Int.toNat xi8) (0 : Int)) fun isIn54 =>
      br (isIn54 == ((List.getD drawNextVictim13Keys (Int.toNat xi8) (0 : Int)) == nextVictim15))
      (k false)
      (InR (xi8 + 1) ∧
        B1 (xi8 + 1))) ∧
    (True))
  (k (!useClock37r1))
def U1_laws_FnNextVictim (drawNextVictim13Hand : Int) (drawNextVictim13Keys : List Int) (drawNextVictim13Room : Int) (drawNextVictim13Used : List Bool) (nextVictim15 : Int) (useClock37Hand : Int) (useClock37Keys : List Int) (useClock37Room : Int) (useClock37Used : List Bool) (useClock37r1 : Bool) (xi8 : Int) (k : Bool → Prop) (B1 : Int → Prop) : Prop :=
  br (decide (xi8 < (drawNextVictim13Keys.length : Int)))
  ((0 ≤ xi8 ∧ xi8 < (drawNextVictim13Keys.length : Int)) ∧
    (0 ≤ xi8 ∧ xi8 < (drawNextVictim13Keys.length : Int)) ∧
    F_laws_isIn useClock37Keys (List.getD drawNextVictim13Keys (Int.toNat xi8) (0 : Int)) fun isIn54 =>
    br (isIn54 == ((List.getD drawNextVictim13Keys (Int.toNat xi8) (0 : Int)) == nextVictim15))
    (k false)
    (InR (xi8 + 1) ∧
      B1 (xi8 + 1)))
  (k (!useClock37r1))
theorem T1_laws_FnNextVictim_eq (drawNextVictim13Hand : Int) (drawNextVictim13Keys : List Int) (drawNextVictim13Room : Int) (drawNextVictim13Used : List Bool) (nextVictim15 : Int) (useClock37Hand : Int) (useClock37Keys : List Int) (useClock37Room : Int) (useClock37Used : List Bool) (useClock37r1 : Bool) (xi8 : Int) (k : Bool → Prop) (B1 : Int → Prop) : T1_laws_FnNextVictim drawNextVictim13Hand drawNextVictim13Keys drawNextVictim13Room drawNextVictim13Used nextVictim15 useClock37Hand useClock37Keys useClock37Room useClock37Used useClock37r1 xi8 k B1 = U1_laws_FnNextVictim drawNextVictim13Hand drawNextVictim13Keys drawNextVictim13Room drawNextVictim13Used nextVictim15 useClock37Hand useClock37Keys useClock37Room useClock37Used useClock37r1 xi8 k B1 := by
  simp only [T1_laws_FnNextVictim, U1_laws_FnNextVictim, and_self, and_true]
def L1_laws_FnNextVictim (drawNextVictim13Hand : Int) (drawNextVictim13Keys : List Int) (drawNextVictim13Room : Int) (drawNextVictim13Used : List Bool) (nextVictim15 : Int) (useClock37Hand : Int) (useClock37Keys : List Int) (useClock37Room : Int) (useClock37Used : List Bool) (useClock37r1 : Bool) (k : Bool → Prop) : Nat → Int → Prop
  | 0, _ => False
  | n + 1, xi8 => U1_laws_FnNextVictim drawNextVictim13Hand drawNextVictim13Keys drawNextVictim13Room drawNextVictim13Used nextVictim15 useClock37Hand useClock37Keys useClock37Room useClock37Used useClock37r1 xi8 k (L1_laws_FnNextVictim drawNextVictim13Hand drawNextVictim13Keys drawNextVictim13Room drawNextVictim13Used nextVictim15 useClock37Hand useClock37Keys useClock37Room useClock37Used useClock37r1 k n)
def T0_laws_FnNextVictim (drawNextVictim13Hand : Int) (drawNextVictim13Keys : List Int) (drawNextVictim13Room : Int) (drawNextVictim13Used : List Bool) (nextVictim15 : Int) (xkey5 : Int) (B0 : Int → Prop) (I1 : Int → List Int → Int → List Bool → Int → Int → List Int → Int → List Bool → Bool → Int → Prop) : Prop :=
  F_laws_isIn drawNextVictim13Keys xkey5 fun isIn31 =>
  br isIn31
  (InR (xkey5 + 1) ∧
    B0 (xkey5 + 1))
  (F_impl_UseClock drawNextVictim13Room drawNextVictim13Keys drawNextVictim13Used drawNextVictim13Hand xkey5 fun useClock37Room useClock37Keys useClock37Used useClock37Hand useClock37r1 =>
    I1 drawNextVictim13Hand drawNextVictim13Keys drawNextVictim13Room drawNextVictim13Used nextVictim15 useClock37Hand useClock37Keys useClock37Room useClock37Used useClock37r1 0)
def L0_laws_FnNextVictim (drawNextVictim13Hand : Int) (drawNextVictim13Keys : List Int) (drawNextVictim13Room : Int) (drawNextVictim13Used : List Bool) (nextVictim15 : Int) (k : Bool → Prop) : Nat → Int → Prop
  | 0, _ => False
  | n + 1, xkey5 => T0_laws_FnNextVictim drawNextVictim13Hand drawNextVictim13Keys drawNextVictim13Room drawNextVictim13Used nextVictim15 xkey5 (L0_laws_FnNextVictim drawNextVictim13Hand drawNextVictim13Keys drawNextVictim13Room drawNextVictim13Used nextVictim15 k n) (fun drawNextVictim13Hand drawNextVictim13Keys drawNextVictim13Room drawNextVictim13Used nextVictim15 useClock37Hand useClock37Keys useClock37Room useClock37Used useClock37r1 xi8 => ∃ j, L1_laws_FnNextVictim drawNextVictim13Hand drawNextVictim13Keys drawNextVictim13Room drawNextVictim13Used nextVictim15 useClock37Hand useClock37Keys useClock37Room useClock37Used useClock37r1 k j xi8)
def G_laws_FnNextVictim (code0 : List Int) (k : Bool → Prop) (I0 : Int → List Int → Int → List Bool → Int → Int → Prop) : Prop :=
  br (decide ((code0.length : Int) > 1048576))
  (k true)
  (F_spec_DrawNextVictim code0 fun drawNextVictim13Room drawNextVictim13Keys drawNextVictim13Used drawNextVictim13Hand =>
    F_impl_NextVictim drawNextVictim13Room drawNextVictim13Keys drawNextVictim13Used drawNextVictim13Hand fun nextVictim15 =>
    F_spec_NextVictim drawNextVictim13Room drawNextVictim13Keys drawNextVictim13Used drawNextVictim13Hand fun nextVictim18 =>
    br (nextVictim15 != nextVictim18)
    (F_spec_NextVictim drawNextVictim13Room drawNextVictim13Keys drawNextVictim13Used drawNextVictim13Hand fun nextVictim26 =>
      k (nextVictim15 == nextVictim26))
    (br (decide (nextVictim15 < 0))
      (F_spec_NextVictim drawNextVictim13Room drawNextVictim13Keys drawNextVictim13Used drawNextVictim13Hand fun nextVictim26 =>
        k (nextVictim15 == nextVictim26))
      (I0 drawNextVictim13Hand drawNextVictim13Keys drawNextVictim13Room drawNextVictim13Used nextVictim15 0)))
def S_laws_FnNextVictim (code0 : List Int) (k : Bool → Prop) : Prop := G_laws_FnNextVictim code0 k (fun drawNextVictim13Hand drawNextVictim13Keys drawNextVictim13Room drawNextVictim13Used nextVictim15 xkey5 => ∃ j, L0_laws_FnNextVictim drawNextVictim13Hand drawNextVictim13Keys drawNextVictim13Room drawNextVictim13Used nextVictim15 k j xkey5)
abbrev F_laws_FnNextVictim (code0 : List Int) (k : Bool → Prop) : Prop := S_laws_FnNextVictim code0 k
theorem F_laws_FnNextVictim_S {code0 : List Int} {k : Bool → Prop} (h : F_laws_FnNextVictim code0 k) : S_laws_FnNextVictim code0 k := h
theorem law_FnNextVictim (code : List Int) (hb : ∀ x ∈ code, 0 ≤ x ∧ x ≤ 255) : F_laws_FnNextVictim code (fun r => r = true) := by
  refine br_dec.2 ⟨fun _ => rfl, fun hlen => ⟨hb, fun room keys used hand l1 l2 => ?_⟩⟩
  by_cases v : VClock room keys used hand ∧ (keys.length : Int) = room
  · refine ⟨fun _ => ⟨fun _ => br_same' ?_, fun h => absurd v h⟩, fun h => absurd v h⟩
    have v0 := v.1
    have hfull := v.2
    obtain ⟨⟨v1, v2, v3, v4, v5⟩, v6, v7, v8⟩ := v.1
    obtain ⟨w1, w2⟩ := v8 hfull
    have hp : vicM used hand.toNat < keys.length := by rw [← v6]; exact vic_lt (by omega)
    have hvr := v4 _ (mem_getD hp)
    refine br_dec.2 ⟨fun h => by omega, fun _ => ?_⟩
    obtain ⟨m, m1, m2, m3⟩ := first_out keys
    have hend : F_impl_UseClock room keys used hand (m : Int) fun r' ks us hd hit => ∃ n, L1_laws_FnNextVictim hand keys room used (keys.getD (vicM used hand.toNat) 0) hd ks r' us hit (fun r => r = true) n 0 := by
      refine ⟨fun _ => ?_, fun h => absurd ⟨v0, by omega, by omega⟩ h⟩
      have et : tickM room keys used hand (m : Int) = (keys.set (vicM used hand.toNat) (m : Int), (sweep (used.length + 1) used hand.toNat).1, ((((vicM used hand.toNat) + 1) % keys.length : Nat) : Int), false) := by
        unfold tickM vicM
        rw [if_neg m2, if_neg (by omega)]
      rw [et]
      have key1 : ∀ (r : List Int) (i : Nat), keys.drop i = r → L1_laws_FnNextVictim hand keys room used (keys.getD (vicM used hand.toNat) 0) ((((vicM used hand.toNat) + 1) % keys.length : Nat) : Int) (keys.set (vicM used hand.toNat) (m : Int)) room (sweep (used.length + 1) used hand.toNat).1 false (fun r => r = true) (r.length + 1) (i : Int) := by
        intro r
        induction r with
        | nil =>
          intro i hd
          have := drop_nil' hd
          rw [L1_laws_FnNextVictim, U1_laws_FnNextVictim]
          exact br_dec.2 ⟨fun h => by omega, fun _ => rfl⟩
        | cons x r ih =>
          intro i hd
          obtain ⟨h1, h2, h5, h3, _⟩ := drop_cons' hd
          rw [List.length_cons, L1_laws_FnNextVictim, U1_laws_FnNextVictim]
          simp only [br_dec, Int.toNat_natCast, h2]
          refine ⟨fun _ => ⟨⟨by omega, by omega⟩, ⟨by omega, by omega⟩, by simp; omega, br_bb.2 ⟨fun e => ?_, fun _ => ⟨inR (by omega) (by omega), ih (i + 1) h3⟩⟩⟩, fun h => by omega⟩
          have hm := mem_set_iff v5 hp m2 (List.mem_of_getElem? h5)
          by_cases c : x = keys.getD (vicM used hand.toNat) 0
          · rw [decide_eq_false (fun h => hm.1 h c), c, beq_self_eq_true] at e; cases e
          · rw [decide_eq_true (hm.2 c), beq_eq_false_iff_ne.2 c] at e; cases e
      exact ⟨_, key1 keys 0 rfl⟩
    have key0 : ∀ (d j : Nat), j + d = m → L0_laws_FnNextVictim hand keys room used (keys.getD (vicM used hand.toNat) 0) (fun r => r = true) (d + 1) (j : Int) := by
      intro d
      induction d with
      | zero =>
        intro j hj
        have : j = m := by omega
        subst this
        rw [L0_laws_FnNextVictim, T0_laws_FnNextVictim]
        exact ⟨by omega, br_dec.2 ⟨fun h => absurd h m2, fun _ => hend⟩⟩
      | succ d ih =>
        intro j hj
        rw [L0_laws_FnNextVictim, T0_laws_FnNextVictim]
        exact ⟨by omega, br_dec.2 ⟨fun _ => ⟨inR (by omega) (by omega), ih (j + 1) (by omega)⟩, fun h => absurd (m3 j (by omega)) h⟩⟩
    exact ⟨_, key0 m 0 (by omega)⟩
  · refine ⟨fun h => absurd h v, fun _ => ⟨fun h => absurd h v, fun _ => br_same' (br_dec.2 ⟨fun _ => ⟨fun h => absurd h v, fun _ => rfl⟩, fun h => by omega⟩)⟩⟩
end Go.Ev
