/- What the functions that the law reaches do, written as plain Lean. No statement is proved here. -/
import Derived.Test.YtcpfmcepkopfdabFnNextVictimUsedP0
namespace Go.Ev
set_option linter.unusedVariables false
open Go
def F_impl_NextVictim (room : Int) (keys : List Int) (used : List Bool) (hand : Int) (k : Int → Prop) : Prop :=
  (VClock room keys used hand ∧ (keys.length : Int) = room → k (keys.getD (vicM used hand.toNat) 0)) ∧ (¬ (VClock room keys used hand ∧ (keys.length : Int) = room) → k (-1))
theorem F_impl_NextVictim_S {room : Int} {keys : List Int} {used : List Bool} {hand : Int} {k : Int → Prop} (h : F_impl_NextVictim room keys used hand k) : S_impl_NextVictim room keys used hand k := by
  obtain ⟨hyes, hno⟩ := h
  intro b hb
  rw [br_not, br_iff]
  refine ⟨fun e => br_dec.2 ⟨fun h => hno fun w => by omega, fun hl => ?_⟩, fun e => hno fun v => by rw [hb.2 v.1] at e; cases e⟩
  have v := hb.1 e
  have hfull : (keys.length : Int) = room := by have := v.1.2.2.1; omega
  have hk := hyes ⟨v, hfull⟩
  obtain ⟨w1, w2⟩ := v.2.2.2 hfull
  have hu := v.2.1
  have h8 := v.1.2.1
  have key : ∀ (d h i : Nat), i + d = keys.length → h < keys.length → k (keys.getD (scanM d used h) 0) → L0_impl_NextVictim keys room used (keys.length : Int) k (d + 1) (i : Int) (h : Int) := by
    intro d
    induction d with
    | zero =>
      intro h i hd hh hk
      rw [L0_impl_NextVictim, T0_impl_NextVictim]
      simp only [br_dec, Int.toNat_natCast]
      exact ⟨fun h => by omega, fun _ => ⟨⟨by omega, by omega⟩, hk⟩⟩
    | succ d ih =>
      intro h i hd hh hk
      rw [L0_impl_NextVictim, T0_impl_NextVictim]
      simp only [br_dec, Int.toNat_natCast, br_not]
      refine ⟨fun _ => ⟨⟨by omega, by omega⟩, ?_⟩, fun h => by omega⟩
      rw [scanM] at hk
      rw [br_iff]
      refine ⟨fun e => ⟨inR (by omega) (by omega), by omega, inR (by omega) (by omega), ?_⟩, fun e => ⟨⟨by omega, by omega⟩, ?_⟩⟩
      · rw [if_pos e] at hk
        rw [tmod_next, ← hu]
        rw [hu] at hk ⊢
        exact ih _ (i + 1) (by omega) (Nat.mod_lt _ (by omega)) hk
      · rw [e, if_neg (by simp)] at hk; exact hk
  refine ⟨keys.length + 1, ?_⟩
  have := key keys.length hand.toNat 0 (by omega) (by omega) (by rw [← hu, vic_scan (by omega)]; exact hk)
  rwa [Int.toNat_of_nonneg w1] at this
-- spec.inRange
def G_spec_inRange (n0 : Int) (low1 : Int) (high2 : Int) (k : Bool → Prop) : Prop :=
  br (decide (low1 ≤ n0))
  (k (decide (n0 ≤ high2)))
  (k false)
def S_spec_inRange (n0 : Int) (low1 : Int) (high2 : Int) (k : Bool → Prop) : Prop := G_spec_inRange n0 low1 high2 k
def F_spec_inRange (n low high : Int) (k : Bool → Prop) : Prop := k (decide (low ≤ n ∧ n ≤ high))
theorem F_spec_inRange_S {n low high : Int} {k : Bool → Prop} (h : F_spec_inRange n low high k) : S_spec_inRange n low high k := by
  unfold F_spec_inRange at h
  simp only [S_spec_inRange, G_spec_inRange, br_dec]
  refine ⟨fun h1 => ?_, fun h1 => ?_⟩
  · simpa [h1] using h
  · simpa [h1] using h
-- spec.allIn
def T0_spec_allIn (high2 : Int) (list0 : List Int) (low1 : Int) (xi7 : Int) (k : Bool → Prop) (B0 : Int → Prop) : Prop :=
  br (decide (xi7 < (list0.length : Int)))
  ((0 ≤ xi7 ∧ xi7 < (list0.length : Int)) ∧
    F_spec_inRange (List.getD list0 (Int.toNat xi7) (0 : Int)) low1 high2 fun inRange20 =>
    br (!inRange20)
    (k false)
    (InR (xi7 + 1) ∧
      B0 (xi7 + 1)))
  (k true)
def L0_spec_allIn (high2 : Int) (list0 : List Int) (low1 : Int) (k : Bool → Prop) : Nat → Int → Prop
  | 0, _ => False
  | n + 1, xi7 => T0_spec_allIn high2 list0 low1 xi7 k (L0_spec_allIn high2 list0 low1 k n)
def G_spec_allIn (list0 : List Int) (low1 : Int) (high2 : Int) (I0 : Int → List Int → Int → Int → Prop) : Prop :=
  I0 high2 list0 low1 0
def S_spec_allIn (list0 : List Int) (low1 : Int) (high2 : Int) (k : Bool → Prop) : Prop := G_spec_allIn list0 low1 high2 (fun high2 list0 low1 xi7 => ∃ j, L0_spec_allIn high2 list0 low1 k j xi7)
def F_spec_allIn (l : List Int) (low high : Int) (k : Bool → Prop) : Prop := l.length ≤ 1000000000 ∧ k (decide (∀ x ∈ l, low ≤ x ∧ x ≤ high))
theorem F_spec_allIn_S {l : List Int} {low high : Int} {k : Bool → Prop} (h : F_spec_allIn l low high k) : S_spec_allIn l low high k := by
  obtain ⟨hl, hk⟩ := h
  have key : ∀ (r : List Int) (i : Nat), l.drop i = r → ((∀ x ∈ r, low ≤ x ∧ x ≤ high) ↔ (∀ x ∈ l, low ≤ x ∧ x ≤ high)) → L0_spec_allIn high l low k (r.length + 1) (i : Int) := by
    intro r
    induction r with
    | nil =>
      intro i hd he
      have := drop_nil' hd
      rw [L0_spec_allIn, T0_spec_allIn]
      simp only [br_dec]
      refine ⟨fun h => by omega, fun _ => ?_⟩
      rwa [decide_eq_true (he.1 (by simp))] at hk
    | cons x r ih =>
      intro i hd he
      obtain ⟨h1, h2, _, h3, _⟩ := drop_cons' hd
      rw [List.length_cons, L0_spec_allIn, T0_spec_allIn]
      simp only [br_dec, F_spec_inRange, br_not, Int.toNat_natCast, h2]
      refine ⟨fun _ => ⟨⟨by omega, by omega⟩, fun hx => ⟨inR (by omega) (by omega), ?_⟩, fun hx => ?_⟩, fun h => by omega⟩
      · refine ih (i + 1) h3 (Iff.trans ?_ he)
        simp only [List.mem_cons, forall_eq_or_imp]
        exact ⟨fun h => ⟨hx, h⟩, fun h => h.2⟩
      · rwa [decide_eq_false (fun h => hx (he.2 h x (by simp)))] at hk
  exact ⟨_, key l 0 rfl Iff.rfl⟩
-- spec.distinct
def T0_spec_distinct (list0 : List Int) (xi3 : Int) (k : Bool → Prop) (B0 : Int → Prop) : Prop :=
  br (decide (xi3 < (list0.length : Int)))
  ((0 ≤ xi3 ∧ xi3 < (list0.length : Int)) ∧
    F_spec_placeOf list0 (List.getD list0 (Int.toNat xi3) (0 : Int)) fun placeOf15 =>
    br (placeOf15 != xi3)
    (k false)
    (InR (xi3 + 1) ∧
      B0 (xi3 + 1)))
  (k true)
def L0_spec_distinct (list0 : List Int) (k : Bool → Prop) : Nat → Int → Prop
  | 0, _ => False
  | n + 1, xi3 => T0_spec_distinct list0 xi3 k (L0_spec_distinct list0 k n)
def G_spec_distinct (list0 : List Int) (I0 : List Int → Int → Prop) : Prop :=
  I0 list0 0
def S_spec_distinct (list0 : List Int) (k : Bool → Prop) : Prop := G_spec_distinct list0 (fun list0 xi3 => ∃ j, L0_spec_distinct list0 k j xi3)
def F_spec_distinct (l : List Int) (k : Bool → Prop) : Prop := l.length ≤ 1000000000 ∧ k (decide l.Nodup)
theorem F_spec_distinct_S {l : List Int} {k : Bool → Prop} (h : F_spec_distinct l k) : S_spec_distinct l k := by
  obtain ⟨hl, hk⟩ := h
  have key : ∀ (r : List Int) (i : Nat), l.drop i = r → (∀ q : Nat, q < i → plc l (l.getD q 0) = (q : Int)) → L0_spec_distinct l k (r.length + 1) (i : Int) := by
    intro r
    induction r with
    | nil =>
      intro i hd he
      have := drop_nil' hd
      rw [L0_spec_distinct, T0_spec_distinct]
      simp only [br_dec]
      refine ⟨fun h => by omega, fun _ => ?_⟩
      rwa [decide_eq_true (nodup_plc.1 fun q hq => he q (by omega))] at hk
    | cons x r ih =>
      intro i hd he
      obtain ⟨h1, h2, _, h3, _⟩ := drop_cons' hd
      rw [List.length_cons, L0_spec_distinct, T0_spec_distinct]
      simp only [br_dec, F_spec_placeOf, br_bne, Int.toNat_natCast]
      refine ⟨fun _ => ⟨⟨by omega, by omega⟩, hl, fun hx => ?_, fun hx => ⟨inR (by omega) (by omega), ?_⟩⟩, fun h => by omega⟩
      · rwa [decide_eq_false (fun h => hx (nodup_plc.2 h i h1))] at hk
      · refine ih (i + 1) h3 fun q hq => ?_
        by_cases e : q = i
        · subst e; exact hx
        · exact he q (by omega)
  exact ⟨_, key l 0 rfl (fun q hq => by omega)⟩
-- spec.validKeys
def G_spec_validKeys (list0 : List Int) (room1 : Int) (k : Bool → Prop) : Prop :=
  F_spec_inRange room1 (1 : Int) (8 : Int) fun inRange6 =>
  br inRange6
  (br (decide ((list0.length : Int) ≤ room1))
    (F_spec_allIn list0 (0 : Int) (31 : Int) fun allIn15 =>
      br allIn15
      (F_spec_distinct list0 fun distinct19 =>
        k distinct19)
      (k false))
    (k false))
  (k false)
def S_spec_validKeys (list0 : List Int) (room1 : Int) (k : Bool → Prop) : Prop := G_spec_validKeys list0 room1 k
def F_spec_validKeys (l : List Int) (room : Int) (k : Bool → Prop) : Prop := ∀ b : Bool, (b = true ↔ VKeys l room) → k b
theorem F_spec_validKeys_S {l : List Int} {room : Int} {k : Bool → Prop} (h : F_spec_validKeys l room k) : S_spec_validKeys l room k := by
  have hno : ¬ VKeys l room → k false := fun hv => h false (by simp [hv])
  show br (decide (1 ≤ room ∧ room ≤ 8)) _ _
  refine br_dec.2 ⟨fun h1 => br_dec.2 ⟨fun h3 => ?_, fun h3 => hno fun v => h3 v.2.2.1⟩, fun h1 => hno fun v => h1 ⟨v.1, v.2.1⟩⟩
  refine ⟨by omega, br_dec.2 ⟨fun h4 => ⟨by omega, h _ ?_⟩, fun h4 => hno fun v => h4 v.2.2.2.1⟩⟩
  simp only [decide_eq_true_eq]
  exact ⟨fun hn => ⟨h1.1, h1.2, h3, h4, hn⟩, fun v => v.2.2.2.2⟩
-- spec.validClock
def G_spec_validClock (c0Room : Int) (c0Keys : List Int) (c0Used : List Bool) (c0Hand : Int) (k : Bool → Prop) : Prop :=
  F_spec_inRange c0Room (1 : Int) (8 : Int) fun inRange9 =>
  br inRange9
  (F_spec_validKeys c0Keys c0Room fun validKeys15 =>
    br validKeys15
    (br ((c0Used.length : Int) == (c0Keys.length : Int))
      (InR ((c0Keys.length : Int) - 1) ∧
        F_spec_inRange c0Hand (0 : Int) (if 0 < ((c0Keys.length : Int) - 1) then ((c0Keys.length : Int) - 1) else 0) fun inRange30 =>
        br inRange30
        (br ((c0Keys.length : Int) == c0Room)
          (k true)
          (k (c0Hand == 0)))
        (k false))
      (k false))
    (k false))
  (k false)
def S_spec_validClock (c0Room : Int) (c0Keys : List Int) (c0Used : List Bool) (c0Hand : Int) (k : Bool → Prop) : Prop := G_spec_validClock c0Room c0Keys c0Used c0Hand k
def F_spec_validClock (room : Int) (keys : List Int) (used : List Bool) (hand : Int) (k : Bool → Prop) : Prop := ∀ b : Bool, (b = true ↔ VClock room keys used hand) → k b
theorem F_spec_validClock_S {room : Int} {keys : List Int} {used : List Bool} {hand : Int} {k : Bool → Prop} (h : F_spec_validClock room keys used hand k) : S_spec_validClock room keys used hand k := by
  have hno : ¬ VClock room keys used hand → k false := fun hv => h false (by simp [hv])
  show br (decide (1 ≤ room ∧ room ≤ 8)) _ _
  refine br_dec.2 ⟨fun h1 => ?_, fun h1 => hno fun v => h1 ⟨v.1.1, v.1.2.1⟩⟩
  intro b hb
  rw [br_iff]
  refine ⟨fun e => ?_, fun e => hno fun v => by rw [hb.2 v.1] at e; cases e⟩
  have hv := hb.1 e
  have hlen := hv.2.2.1
  refine br_beq.2 ⟨fun h3 => ⟨inR (by omega) (by omega), br_dec.2 ⟨fun h4 => br_beq.2 ⟨fun h6 => h true ?_, fun h6 => h _ ?_⟩, fun h4 => hno fun v => h4 ?_⟩⟩, fun h3 => hno fun v => h3 (by rw [v.2.1])⟩
  · simp only [true_iff]
    obtain ⟨h4, h5⟩ := h4
    refine ⟨hv, by omega, fun h => by omega, fun _ => ⟨h4, ?_⟩⟩
    split at h5 <;> omega
  · simp only [beq_iff_eq]
    exact ⟨fun e => ⟨hv, by omega, fun _ => e, fun h => absurd h h6⟩, fun v => v.2.2.1 (by omega)⟩
  · by_cases h6 : (keys.length : Int) = room
    · have := v.2.2.2 h6
      constructor
      · omega
      · split <;> omega
    · rw [v.2.2.1 (by omega)]
      constructor
      · omega
      · split <;> omega
-- spec.NextVictim
def T0_spec_NextVictim (c0Hand : Int) (c0Keys : List Int) (c0Room : Int) (c0Used : List Bool) (xi3 : Int) (k : Int → Prop) (B0 : Int → Prop) : Prop :=
  br (decide (xi3 < c0Room))
  (InR (c0Hand + xi3) ∧
    (c0Room ≠ 0) ∧
    (0 ≤ (Int.tmod (c0Hand + xi3) c0Room) ∧ (Int.tmod (c0Hand + xi3) c0Room) < (c0Used.length : Int)) ∧
    br (!(List.getD c0Used (Int.toNat (Int.tmod (c0Hand + xi3) c0Room)) false))
    ((0 ≤ (Int.tmod (c0Hand + xi3) c0Room) ∧ (Int.tmod (c0Hand + xi3) c0Room) < (c0Keys.length : Int)) ∧
      k (List.getD c0Keys (Int.toNat (Int.tmod (c0Hand + xi3) c0Room)) (0 : Int)))
    (InR (xi3 + 1) ∧
      B0 (xi3 + 1)))
  ((0 ≤ c0Hand ∧ c0Hand < (c0Keys.length : Int)) ∧
    k (List.getD c0Keys (Int.toNat c0Hand) (0 : Int)))
def L0_spec_NextVictim (c0Hand : Int) (c0Keys : List Int) (c0Room : Int) (c0Used : List Bool) (k : Int → Prop) : Nat → Int → Prop
  | 0, _ => False
  | n + 1, xi3 => T0_spec_NextVictim c0Hand c0Keys c0Room c0Used xi3 k (L0_spec_NextVictim c0Hand c0Keys c0Room c0Used k n)
def G_spec_NextVictim (c0Room : Int) (c0Keys : List Int) (c0Used : List Bool) (c0Hand : Int) (k : Int → Prop) (I0 : Int → List Int → Int → List Bool → Int → Prop) : Prop :=
  F_spec_validClock c0Room c0Keys c0Used c0Hand fun validClock6 =>
  br (!validClock6)
  (k (-1))
  (br (decide ((c0Keys.length : Int) < c0Room))
    (k (-1))
    (I0 c0Hand c0Keys c0Room c0Used 0))
def S_spec_NextVictim (c0Room : Int) (c0Keys : List Int) (c0Used : List Bool) (c0Hand : Int) (k : Int → Prop) : Prop := G_spec_NextVictim c0Room c0Keys c0Used c0Hand k (fun c0Hand c0Keys c0Room c0Used xi3 => ∃ j, L0_spec_NextVictim c0Hand c0Keys c0Room c0Used k j xi3)
def F_spec_NextVictim (room : Int) (keys : List Int) (used : List Bool) (hand : Int) (k : Int → Prop) : Prop :=
  (VClock room keys used hand ∧ (keys.length : Int) = room → k (keys.getD (vicM used hand.toNat) 0)) ∧ (¬ (VClock room keys used hand ∧ (keys.length : Int) = room) → k (-1))
theorem F_spec_NextVictim_S {room : Int} {keys : List Int} {used : List Bool} {hand : Int} {k : Int → Prop} (h : F_spec_NextVictim room keys used hand k) : S_spec_NextVictim room keys used hand k := by
  obtain ⟨hyes, hno⟩ := h
  intro b hb
  rw [br_not, br_iff]
  refine ⟨fun e => br_dec.2 ⟨fun h => hno fun w => by omega, fun hl => ?_⟩, fun e => hno fun v => by rw [hb.2 v.1] at e; cases e⟩
  have v := hb.1 e
  have hfull : (keys.length : Int) = room := by have := v.1.2.2.1; omega
  have hk := hyes ⟨v, hfull⟩
  obtain ⟨w1, w2⟩ := v.2.2.2 hfull
  have hu := v.2.1
  have h8 := v.1.2.1
  obtain ⟨h, rfl⟩ := Int.eq_ofNat_of_zero_le w1
  rw [Int.toNat_natCast] at hk
  have key : ∀ (d i : Nat), i + d = keys.length → (∀ j, j < i → used.getD ((h + j) % used.length) false = true) → L0_spec_NextVictim (h : Int) keys room used k (d + 1) (i : Int) := by
    intro d
    induction d with
    | zero =>
      intro i hd ha
      rw [L0_spec_NextVictim, T0_spec_NextVictim]
      simp only [br_dec, Int.toNat_natCast]
      refine ⟨fun h => by omega, fun _ => ⟨⟨by omega, by omega⟩, ?_⟩⟩
      rwa [vicM, sweep_all (by omega) (fun j hj => ha j (by omega)) (by omega)] at hk
    | succ d ih =>
      intro i hd ha
      rw [L0_spec_NextVictim, T0_spec_NextVictim]
      have e1 : Int.tmod ((h : Int) + (i : Int)) room = (((h + i) % used.length : Nat) : Int) := by rw [← hfull, ← Int.natCast_add, tmod_nat, hu]
      have hm := Nat.mod_lt (h + i) (show used.length > 0 by omega)
      simp only [br_dec, e1, Int.toNat_natCast, br_not]
      refine ⟨fun _ => ⟨inR (by omega) (by omega), by omega, ⟨by omega, by omega⟩, ?_⟩, fun h => by omega⟩
      rw [br_iff]
      refine ⟨fun e => ⟨inR (by omega) (by omega), ih (i + 1) (by omega) fun j hj => ?_⟩, fun e => ⟨⟨by omega, by omega⟩, ?_⟩⟩
      · by_cases ej : j = i
        · rw [ej]; exact e
        · exact ha j (by omega)
      · rwa [vicM, sweep_first i _ h used (by omega) (by omega) ha e (by omega)] at hk
  exact ⟨_, key keys.length 0 (by omega) (fun j hj => by omega)⟩
-- impl.UsedKeys
def T0_impl_UsedKeys (c0Hand : Int) (c0Keys : List Int) (c0Room : Int) (c0Used : List Bool) (xt12 : Int) (xt13 : Int) (xout3 : List Int) (k : List Int → Prop) (B0 : Int → List Int → Prop) : Prop :=
  br (decide (xt13 < xt12))
  ((0 ≤ xt13 ∧ xt13 < (c0Keys.length : Int)) ∧
    (0 ≤ xt13 ∧ xt13 < (c0Used.length : Int)) ∧
    br (List.getD c0Used (Int.toNat xt13) false)
    ((xout3.length + 1 ≤ 1000000000) ∧
      InR (xt13 + 1) ∧
      B0 (xt13 + 1) (xout3 ++ ([(List.getD c0Keys (Int.toNat xt13) (0 : Int))] : List Int)))
    (InR (xt13 + 1) ∧
      B0 (xt13 + 1) xout3))
  (k xout3)
def L0_impl_UsedKeys (c0Hand : Int) (c0Keys : List Int) (c0Room : Int) (c0Used : List Bool) (xt12 : Int) (k : List Int → Prop) : Nat → Int → List Int → Prop
  | 0, _, _ => False
  | n + 1, xt13, xout3 => T0_impl_UsedKeys c0Hand c0Keys c0Room c0Used xt12 xt13 xout3 k (L0_impl_UsedKeys c0Hand c0Keys c0Room c0Used xt12 k n)
def G_impl_UsedKeys (c0Room : Int) (c0Keys : List Int) (c0Used : List Bool) (c0Hand : Int) (k : List Int → Prop) (I0 : Int → List Int → Int → List Bool → Int → Int → List Int → Prop) : Prop :=
  F_impl_ValidClock c0Room c0Keys c0Used c0Hand fun validClock7 =>
  br (!validClock7)
  (k ([] : List Int))
  (I0 c0Hand c0Keys c0Room c0Used (c0Keys.length : Int) 0 ([] : List Int))
def S_impl_UsedKeys (c0Room : Int) (c0Keys : List Int) (c0Used : List Bool) (c0Hand : Int) (k : List Int → Prop) : Prop := G_impl_UsedKeys c0Room c0Keys c0Used c0Hand k (fun c0Hand c0Keys c0Room c0Used xt12 xt13 xout3 => ∃ j, L0_impl_UsedKeys c0Hand c0Keys c0Room c0Used xt12 k j xt13 xout3)
def F_impl_UsedKeys (room : Int) (keys : List Int) (used : List Bool) (hand : Int) (k : List Int → Prop) : Prop :=
  (VClock room keys used hand → k (marked keys used)) ∧ (¬ VClock room keys used hand → k [])
theorem F_impl_UsedKeys_S {room : Int} {keys : List Int} {used : List Bool} {hand : Int} {k : List Int → Prop} (h : F_impl_UsedKeys room keys used hand k) : S_impl_UsedKeys room keys used hand k := by
  obtain ⟨hyes, hno⟩ := h
  intro b hb
  rw [br_not, br_iff]
  refine ⟨fun e => ?_, fun e => hno fun v => by rw [hb.2 v] at e; cases e⟩
  have v := hb.1 e
  have hk := hyes v
  have hlen : (keys.length : Int) ≤ 8 := by have := v.1.2.2.1; have := v.1.2.1; omega
  have hu := v.2.1
  have key : ∀ (r : List Int) (m : List Bool) (i : Nat) (out : List Int), keys.drop i = r → used.drop i = m → out.length ≤ i → out ++ marked r m = marked keys used → L0_impl_UsedKeys hand keys room used (keys.length : Int) k (r.length + 1) (i : Int) out := by
    intro r
    induction r with
    | nil =>
      intro m i out hd hm ho he
      have := drop_nil' hd
      rw [L0_impl_UsedKeys, T0_impl_UsedKeys]
      simp only [br_dec]
      refine ⟨fun h => by omega, fun _ => ?_⟩
      rw [show marked [] m = [] by cases m <;> rfl, List.append_nil] at he
      rw [he]; exact hk
    | cons x r ih =>
      intro m i out hd hm ho he
      obtain ⟨h1, h2, _, h3, _⟩ := drop_cons' hd
      cases m with
      | nil => have := drop_nil' hm; omega
      | cons y m =>
        obtain ⟨g1, g2, _, g3, _⟩ := drop_cons' hm
        rw [List.length_cons, L0_impl_UsedKeys, T0_impl_UsedKeys]
        simp only [br_dec, Int.toNat_natCast, h2, g2]
        refine ⟨fun _ => ⟨⟨by omega, by omega⟩, ⟨by omega, by omega⟩, ?_⟩, fun h => by omega⟩
        rw [br_iff]
        refine ⟨fun hu => ⟨by omega, inR (by omega) (by omega), ?_⟩, fun hu => ⟨inR (by omega) (by omega), ?_⟩⟩
        · exact ih m (i + 1) (out ++ [x]) h3 g3 (by simp; omega) (by rw [← he, hu]; simp [marked])
        · exact ih m (i + 1) out h3 g3 (by omega) (by rw [← he, hu]; simp [marked])
  exact ⟨_, key keys used 0 [] rfl rfl (by simp) rfl⟩
-- laws.isIn
def T0_laws_isIn (list0 : List Int) (n1 : Int) (xi5 : Int) (k : Bool → Prop) (B0 : Int → Prop) : Prop :=
  br (decide (xi5 < (list0.length : Int)))
  ((0 ≤ xi5 ∧ xi5 < (list0.length : Int)) ∧
    br ((List.getD list0 (Int.toNat xi5) (0 : Int)) == n1)
    (k true)
    (InR (xi5 + 1) ∧
      B0 (xi5 + 1)))
  (k false)
def L0_laws_isIn (list0 : List Int) (n1 : Int) (k : Bool → Prop) : Nat → Int → Prop
  | 0, _ => False
  | n + 1, xi5 => T0_laws_isIn list0 n1 xi5 k (L0_laws_isIn list0 n1 k n)
def G_laws_isIn (list0 : List Int) (n1 : Int) (I0 : List Int → Int → Int → Prop) : Prop :=
  I0 list0 n1 0
def S_laws_isIn (list0 : List Int) (n1 : Int) (k : Bool → Prop) : Prop := G_laws_isIn list0 n1 (fun list0 n1 xi5 => ∃ j, L0_laws_isIn list0 n1 k j xi5)
def F_laws_isIn (l : List Int) (n : Int) (k : Bool → Prop) : Prop := l.length ≤ 1000000000 ∧ k (decide (n ∈ l))
theorem F_laws_isIn_S {l : List Int} {n : Int} {k : Bool → Prop} (h : F_laws_isIn l n k) : S_laws_isIn l n k := by
  obtain ⟨hl, hk⟩ := h
  have key : ∀ (r : List Int) (i : Nat), l.drop i = r → (n ∈ r ↔ n ∈ l) → L0_laws_isIn l n k (r.length + 1) (i : Int) := by
    intro r
    induction r with
    | nil =>
      intro i hd he
      have := drop_nil' hd
      rw [L0_laws_isIn, T0_laws_isIn]
      simp only [br_dec]
      exact ⟨fun h => by omega, fun _ => by rwa [decide_eq_false (fun h => absurd (he.2 h) (by simp))] at hk⟩
    | cons x r ih =>
      intro i hd he
      obtain ⟨h1, h2, h5, h3, _⟩ := drop_cons' hd
      rw [List.length_cons, L0_laws_isIn, T0_laws_isIn]
      simp only [br_dec, br_beq, Int.toNat_natCast, h2]
      refine ⟨fun _ => ⟨⟨by omega, by omega⟩, fun hx => ?_, fun hx => ⟨inR (by omega) (by omega), ih (i + 1) h3 (Iff.trans ?_ he)⟩⟩, fun h => by omega⟩
      · rwa [decide_eq_true (he.1 (by simp [hx]))] at hk
      · simp [Ne.symm hx]
  exact ⟨_, key l 0 rfl Iff.rfl⟩
-- laws.FnNextVictimUsed
def G_laws_FnNextVictimUsed (code0 : List Int) (k : Bool → Prop) : Prop :=
  br (decide ((code0.length : Int) > 1048576))
  (k true)
  (F_spec_DrawNextVictim code0 fun drawNextVictim10Room drawNextVictim10Keys drawNextVictim10Used drawNextVictim10Hand =>
    F_impl_NextVictim drawNextVictim10Room drawNextVictim10Keys drawNextVictim10Used drawNextVictim10Hand fun nextVictim12 =>
    F_spec_NextVictim drawNextVictim10Room drawNextVictim10Keys drawNextVictim10Used drawNextVictim10Hand fun nextVictim15 =>
    br (nextVictim12 != nextVictim15)
    (F_spec_NextVictim drawNextVictim10Room drawNextVictim10Keys drawNextVictim10Used drawNextVictim10Hand fun nextVictim23 =>
      k (nextVictim12 == nextVictim23))
    (br (decide (nextVictim12 < 0))
      (F_spec_NextVictim drawNextVictim10Room drawNextVictim10Keys drawNextVictim10Used drawNextVictim10Hand fun nextVictim23 =>
        k (nextVictim12 == nextVictim23))
      (F_impl_UsedKeys drawNextVictim10Room drawNextVictim10Keys drawNextVictim10Used drawNextVictim10Hand fun usedKeys26 =>
        (F_laws_isIn drawNextVictim10Keys nextVictim12 fun isIn30 =>
          br isIn30
          ((F_laws_isIn usedKeys26 nextVictim12 fun isIn34 =>
              k (isIn34 == ((usedKeys26.length : Int) == drawNextVictim10Room))) ∧
            (True))
          ((k false) ∧
            (True))) ∧
        (True))))
def H_laws_FnNextVictimUsed (code0 : List Int) (k : Bool → Prop) : Prop :=
  br (decide ((code0.length : Int) > 1048576))
  (k true)
  (F_spec_DrawNextVictim code0 fun drawNextVictim10Room drawNextVictim10Keys drawNextVictim10Used drawNextVictim10Hand =>
    F_impl_NextVictim drawNextVictim10Room drawNextVictim10Keys drawNextVictim10Used drawNextVictim10Hand fun nextVictim12 =>
    F_spec_NextVictim drawNextVictim10Room drawNextVictim10Keys drawNextVictim10Used drawNextVictim10Hand fun nextVictim15 =>
    br (nextVictim12 != nextVictim15)
    (F_spec_NextVictim drawNextVictim10Room drawNextVictim10Keys drawNextVictim10Used drawNextVictim10Hand fun nextVictim23 =>
      k (nextVictim12 == nextVictim23))
    (br (decide (nextVictim12 < 0))
      (F_spec_NextVictim drawNextVictim10Room drawNextVictim10Keys drawNextVictim10Used drawNextVictim10Hand fun nextVictim23 =>
        k (nextVictim12 == nextVictim23))
      (F_impl_UsedKeys drawNextVictim10Room drawNextVictim10Keys drawNextVictim10Used drawNextVictim10Hand fun usedKeys26 =>
        F_laws_isIn drawNextVictim10Keys nextVictim12 fun isIn30 =>
        br isIn30
        (F_laws_isIn usedKeys26 nextVictim12 fun isIn34 =>
          k (isIn34 == ((usedKeys26.length : Int) == drawNextVictim10Room)))
        (k false))))
theorem G_laws_FnNextVictimUsed_eq (code0 : List Int) (k : Bool → Prop) : G_laws_FnNextVictimUsed code0 k = H_laws_FnNextVictimUsed code0 k := by
  simp only [G_laws_FnNextVictimUsed, H_laws_FnNextVictimUsed, and_self, and_true]
def S_laws_FnNextVictimUsed (code0 : List Int) (k : Bool → Prop) : Prop := H_laws_FnNextVictimUsed code0 k
abbrev F_laws_FnNextVictimUsed (code0 : List Int) (k : Bool → Prop) : Prop := S_laws_FnNextVictimUsed code0 k
theorem F_laws_FnNextVictimUsed_S {code0 : List Int} {k : Bool → Prop} (h : F_laws_FnNextVictimUsed code0 k) : S_laws_FnNextVictimUsed code0 k := h
theorem law_FnNextVictimUsed (code : List Int) (hb : ∀ x ∈ code, 0 ≤ x ∧ x ≤ 255) : F_laws_FnNextVictimUsed code (fun r => r = true) := by
  refine br_dec.2 ⟨fun _ => rfl, fun hlen => ⟨hb, fun room keys used hand l1 l2 => ?_⟩⟩
  by_cases v : VClock room keys used hand ∧ (keys.length : Int) = room
  · refine ⟨fun _ => ⟨fun _ => br_same' ?_, fun h => absurd v h⟩, fun h => absurd v h⟩
    have v0 := v.1
    have hfull := v.2
    obtain ⟨⟨v1, v2, v3, v4, v5⟩, v6, v7, v8⟩ := v.1
    obtain ⟨w1, w2⟩ := v8 hfull
    have hp : vicM used hand.toNat < keys.length := by rw [← v6]; exact vic_lt (by omega)
    have hin := mem_getD hp
    have hvr := v4 _ hin
    have hml := marked_le keys used v6
    refine br_dec.2 ⟨fun h => by omega, fun _ => ⟨fun _ => ⟨by omega, br_dec.2 ⟨fun _ => ⟨by omega, ?_⟩, fun h => absurd hin h⟩⟩, fun h => absurd v0 h⟩⟩
    have h1 := marked_mem (u := used) v5 v6 hp
    have h2 := vic_mark (u := used) (h := hand.toNat) (by omega)
    have h3 := marked_all v6
    have h4 : keys.getD (vicM used hand.toNat) 0 ∈ marked keys used ↔ ((marked keys used).length : Int) = room := by
      rw [h1, h2, ← h3]; omega
    by_cases c : keys.getD (vicM used hand.toNat) 0 ∈ marked keys used
    · rw [decide_eq_true c, h4.1 c, beq_self_eq_true]; rfl
    · rw [decide_eq_false c, beq_eq_false_iff_ne.2 (fun e => c (h4.2 e))]; rfl
  · refine ⟨fun h => absurd h v, fun _ => ⟨fun h => absurd h v, fun _ => br_same' (br_dec.2 ⟨fun _ => ⟨fun h => absurd h v, fun _ => rfl⟩, fun h => by omega⟩)⟩⟩
end Go.Ev
