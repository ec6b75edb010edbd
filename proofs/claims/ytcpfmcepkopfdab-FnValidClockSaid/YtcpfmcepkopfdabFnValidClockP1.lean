/- What the functions that the law reaches do, written as plain Lean. No statement is proved here. -/
import Derived.Test.YtcpfmcepkopfdabFnValidClockP0
namespace Go.Ev
set_option linter.unusedVariables false
open Go
-- impl.ValidKeys
def G_impl_ValidKeys (list0 : List Int) (room1 : Int) (k : Bool → Prop) : Prop :=
  F_impl_validRoom room1 fun validRoom6 =>
  br validRoom6
  (br (decide ((list0.length : Int) ≤ room1))
    (F_impl_differentKeys list0 fun differentKeys15 =>
      k differentKeys15)
    (k false))
  (k false)
def S_impl_ValidKeys (list0 : List Int) (room1 : Int) (k : Bool → Prop) : Prop := G_impl_ValidKeys list0 room1 k
def F_impl_ValidKeys (l : List Int) (room : Int) (k : Bool → Prop) : Prop := ∀ b : Bool, (b = true ↔ VKeys l room) → k b
theorem F_impl_ValidKeys_S {l : List Int} {room : Int} {k : Bool → Prop} (h : F_impl_ValidKeys l room k) : S_impl_ValidKeys l room k := by
  have hno : ¬ VKeys l room → k false := fun hv => h false (by simp [hv])
  refine br_dec.2 ⟨fun h1 => br_dec.2 ⟨fun h3 => ⟨by omega, fun b hb => h b ?_⟩, fun h3 => hno fun v => by have := v.2.2.1; omega⟩, fun h1 => hno fun v => h1 ⟨v.1, v.2.1⟩⟩
  rw [hb]
  exact ⟨fun g => ⟨h1.1, h1.2, h3, g.1, g.2⟩, fun v => v.2.2.2⟩
-- impl.ValidClock
def G_impl_ValidClock (c0Room : Int) (c0Keys : List Int) (c0Used : List Bool) (c0Hand : Int) (k : Bool → Prop) : Prop :=
  F_impl_ValidKeys c0Keys c0Room fun validKeys7 =>
  br (!validKeys7)
  (k false)
  (br ((c0Used.length : Int) != (c0Keys.length : Int))
    (k false)
    (br (decide ((c0Keys.length : Int) < c0Room))
      (k (c0Hand == 0))
      (br (decide (0 ≤ c0Hand))
        (k (decide (c0Hand < (c0Keys.length : Int))))
        (k false))))
def S_impl_ValidClock (c0Room : Int) (c0Keys : List Int) (c0Used : List Bool) (c0Hand : Int) (k : Bool → Prop) : Prop := G_impl_ValidClock c0Room c0Keys c0Used c0Hand k
def F_impl_ValidClock (room : Int) (keys : List Int) (used : List Bool) (hand : Int) (k : Bool → Prop) : Prop := ∀ b : Bool, (b = true ↔ VClock room keys used hand) → k b
theorem F_impl_ValidClock_S {room : Int} {keys : List Int} {used : List Bool} {hand : Int} {k : Bool → Prop} (h : F_impl_ValidClock room keys used hand k) : S_impl_ValidClock room keys used hand k := by
  have hno : ¬ VClock room keys used hand → k false := fun hv => h false (by simp [hv])
  simp only [S_impl_ValidClock, G_impl_ValidClock, F_impl_ValidKeys]
  intro b hb
  rw [br_not, br_iff]
  refine ⟨fun e => ?_, fun e => hno fun v => by rw [hb.2 v.1] at e; cases e⟩
  have hv := hb.1 e
  refine br_bne.2 ⟨fun h2 => hno fun v => h2 (by rw [v.2.1]), fun h2 => br_dec.2 ⟨fun h3 => h _ ?_, fun h3 => br_dec.2 ⟨fun h4 => h _ ?_, fun h4 => hno fun v => h4 ?_⟩⟩⟩
  · simp only [beq_iff_eq]
    exact ⟨fun e => ⟨hv, by omega, fun _ => e, fun h => by omega⟩, fun v => v.2.2.1 h3⟩
  · simp only [decide_eq_true_eq]
    have := hv.2.2.1
    exact ⟨fun e => ⟨hv, by omega, fun h => absurd h h3, fun _ => ⟨h4, e⟩⟩, fun v => (v.2.2.2 (by omega)).2⟩
  · have := hv.2.2.1
    exact (v.2.2.2 (by omega)).1
-- spec.inRange
def G_spec_inRange (n0 : Int) (low1 : Int) (high2 : Int) (k : Bool → Prop) : Prop :=
  br (decide (low1 ≤ n0))
  (k (decide (n0 ≤ high2)))
  (k false)
def S_spec_inRange (n0 : Int) (low1 : Int) (high2 : Int) (k : Bool → Prop) : Prop := G_spec_inRange n0 low1 high2 k
def F_spec_inRange (n low high : Int) (k : Bool → Prop) : Prop := k (decide (low ≤ n ∧ n ≤ high))
theorem F_spec_inRange_S {n low high : Int} {k : Bool → Prop} (h : F_spec_inRange n low high k) : S_spec_inRange n low high k := by
  unfold F_spec_inRange at h
  simp only [S_spec_inRange, G_spec_inRange, br_dec]
  refine ⟨fun h1 => ?_, fun h1 => ?_⟩
  · simpa [h1] using h
  · simpa [h1] using h
-- spec.allIn
def T0_spec_allIn (high2 : Int) (list0 : List Int) (low1 : Int) (xi7 : Int) (k : Bool → Prop) (B0 : Int → Prop) : Prop :=
  br (decide (xi7 < (list0.length : Int)))
  ((0 ≤ xi7 ∧ xi7 < (list0.length : Int)) ∧
    F_spec_inRange (List.getD list0 (Int.toNat xi7) (0 : Int)) low1 high2 fun inRange20 =>
    br (!inRange20)
    (k false)
    (InR (xi7 + 1) ∧
      B0 (xi7 + 1)))
  (k true)
def L0_spec_allIn (high2 : Int) (list0 : List Int) (low1 : Int) (k : Bool → Prop) : Nat → Int → Prop
  | 0, _ => False
  | n + 1, xi7 => T0_spec_allIn high2 list0 low1 xi7 k (L0_spec_allIn high2 list0 low1 k n)
def G_spec_allIn (list0 : List Int) (low1 : Int) (high2 : Int) (I0 : Int → List Int → Int → Int → Prop) : Prop :=
  I0 high2 list0 low1 0
def S_spec_allIn (list0 : List Int) (low1 : Int) (high2 : Int) (k : Bool → Prop) : Prop := G_spec_allIn list0 low1 high2 (fun high2 list0 low1 xi7 => ∃ j, L0_spec_allIn high2 list0 low1 k j xi7)
def F_spec_allIn (l : List Int) (low high : Int) (k : Bool → Prop) : Prop := l.length ≤ 1000000000 ∧ k (decide (∀ x ∈ l, low ≤ x ∧ x ≤ high))
theorem F_spec_allIn_S {l : List Int} {low high : Int} {k : Bool → Prop} (h : F_spec_allIn l low high k) : S_spec_allIn l low high k := by
  obtain ⟨hl, hk⟩ := h
  have key : ∀ (r : List Int) (i : Nat), l.drop i = r → ((∀ x ∈ r, low ≤ x ∧ x ≤ high) ↔ (∀ x ∈ l, low ≤ x ∧ x ≤ high)) → L0_spec_allIn high l low k (r.length + 1) (i : Int) := by
    intro r
    induction r with
    | nil =>
      intro i hd he
      have := drop_nil' hd
      rw [L0_spec_allIn, T0_spec_allIn]
      simp only [br_dec]
      refine ⟨fun h => by omega, fun _ => ?_⟩
      rwa [decide_eq_true (he.1 (by simp))] at hk
    | cons x r ih =>
      intro i hd he
      obtain ⟨h1, h2, _, h3, _⟩ := drop_cons' hd
      rw [List.length_cons, L0_spec_allIn, T0_spec_allIn]
      simp only [br_dec, F_spec_inRange, br_not, Int.toNat_natCast, h2]
      refine ⟨fun _ => ⟨⟨by omega, by omega⟩, fun hx => ⟨inR (by omega) (by omega), ?_⟩, fun hx => ?_⟩, fun h => by omega⟩
      · refine ih (i + 1) h3 (Iff.trans ?_ he)
        simp only [List.mem_cons, forall_eq_or_imp]
        exact ⟨fun h => ⟨hx, h⟩, fun h => h.2⟩
      · rwa [decide_eq_false (fun h => hx (he.2 h x (by simp)))] at hk
  exact ⟨_, key l 0 rfl Iff.rfl⟩
-- spec.distinct
def T0_spec_distinct (list0 : List Int) (xi3 : Int) (k : Bool → Prop) (B0 : Int → Prop) : Prop :=
  br (decide (xi3 < (list0.length : Int)))
  ((0 ≤ xi3 ∧ xi3 < (list0.length : Int)) ∧
    F_spec_placeOf list0 (List.getD list0 (Int.toNat xi3) (0 : Int)) fun placeOf15 =>
    br (placeOf15 != xi3)
    (k false)
    (InR (xi3 + 1) ∧
      B0 (xi3 + 1)))
  (k true)
def L0_spec_distinct (list0 : List Int) (k : Bool → Prop) : Nat → Int → Prop
  | 0, _ => False
  | n + 1, xi3 => T0_spec_distinct list0 xi3 k (L0_spec_distinct list0 k n)
def G_spec_distinct (list0 : List Int) (I0 : List Int → Int → Prop) : Prop :=
  I0 list0 0
def S_spec_distinct (list0 : List Int) (k : Bool → Prop) : Prop := G_spec_distinct list0 (fun list0 xi3 => ∃ j, L0_spec_distinct list0 k j xi3)
def F_spec_distinct (l : List Int) (k : Bool → Prop) : Prop := l.length ≤ 1000000000 ∧ k (decide l.Nodup)
theorem F_spec_distinct_S {l : List Int} {k : Bool → Prop} (h : F_spec_distinct l k) : S_spec_distinct l k := by
  obtain ⟨hl, hk⟩ := h
  have key : ∀ (r : List Int) (i : Nat), l.drop i = r → (∀ q : Nat, q < i → plc l (l.getD q 0) = (q : Int)) → L0_spec_distinct l k (r.length + 1) (i : Int) := by
    intro r
    induction r with
    | nil =>
      intro i hd he
      have := drop_nil' hd
      rw [L0_spec_distinct, T0_spec_distinct]
      simp only [br_dec]
      refine ⟨fun h => by omega, fun _ => ?_⟩
      rwa [decide_eq_true (nodup_plc.1 fun q hq => he q (by omega))] at hk
    | cons x r ih =>
      intro i hd he
      obtain ⟨h1, h2, _, h3, _⟩ := drop_cons' hd
      rw [List.length_cons, L0_spec_distinct, T0_spec_distinct]
      simp only [br_dec, F_spec_placeOf, br_bne, Int.toNat_natCast]
      refine ⟨fun _ => ⟨⟨by omega, by omega⟩, hl, fun hx => ?_, fun hx => ⟨inR (by omega) (by omega), ?_⟩⟩, fun h => by omega⟩
      · rwa [decide_eq_false (fun h => hx (nodup_plc.2 h i h1))] at hk
      · refine ih (i + 1) h3 fun q hq => ?_
        by_cases e : q = i
        · subst e; exact hx
        · exact he q (by omega)
  exact ⟨_, key l 0 rfl (fun q hq => by omega)⟩
-- spec.validKeys
def G_spec_validKeys (list0 : List Int) (room1 : Int) (k : Bool → Prop) : Prop :=
  F_spec_inRange room1 (1 : Int) (8 : Int) fun inRange6 =>
  br inRange6
  (br (decide ((list0.length : Int) ≤ room1))
    (F_spec_allIn list0 (0 : Int) (31 : Int) fun allIn15 =>
      br allIn15
      (F_spec_distinct list0 fun distinct19 =>
        k distinct19)
      (k false))
    (k false))
  (k false)
def S_spec_validKeys (list0 : List Int) (room1 : Int) (k : Bool → Prop) : Prop := G_spec_validKeys list0 room1 k
def F_spec_validKeys (l : List Int) (room : Int) (k : Bool → Prop) : Prop := ∀ b : Bool, (b = true ↔ VKeys l room) → k b
theorem F_spec_validKeys_S {l : List Int} {room : Int} {k : Bool → Prop} (h : F_spec_validKeys l room k) : S_spec_validKeys l room k := by
  have hno : ¬ VKeys l room → k false := fun hv => h false (by simp [hv])
  show br (decide (1 ≤ room ∧ room ≤ 8)) _ _
  refine br_dec.2 ⟨fun h1 => br_dec.2 ⟨fun h3 => ?_, fun h3 => hno fun v => h3 v.2.2.1⟩, fun h1 => hno fun v => h1 ⟨v.1, v.2.1⟩⟩
  refine ⟨by omega, br_dec.2 ⟨fun h4 => ⟨by omega, h _ ?_⟩, fun h4 => hno fun v => h4 v.2.2.2.1⟩⟩
  simp only [decide_eq_true_eq]
  exact ⟨fun hn => ⟨h1.1, h1.2, h3, h4, hn⟩, fun v => v.2.2.2.2⟩
-- spec.validClock
def G_spec_validClock (c0Room : Int) (c0Keys : List Int) (c0Used : List Bool) (c0Hand : Int) (k : Bool → Prop) : Prop :=
  F_spec_inRange c0Room (1 : Int) (8 : Int) fun inRange9 =>
  br inRange9
  (F_spec_validKeys c0Keys c0Room fun validKeys15 =>
    br validKeys15
    (br ((c0Used.length : Int) == (c0Keys.length : Int))
      (InR ((c0Keys.length : Int) - 1) ∧
        F_spec_inRange c0Hand (0 : Int) (if 0 < ((c0Keys.length : Int) - 1) then ((c0Keys.length : Int) - 1) else 0) fun inRange30 =>
        br inRange30
        (br ((c0Keys.length : Int) == c0Room)
          (k true)
          (k (c0Hand == 0)))
        (k false))
      (k false))
    (k false))
  (k false)
def S_spec_validClock (c0Room : Int) (c0Keys : List Int) (c0Used : List Bool) (c0Hand : Int) (k : Bool → Prop) : Prop := G_spec_validClock c0Room c0Keys c0Used c0Hand k
def F_spec_validClock (room : Int) (keys : List Int) (used : List Bool) (hand : Int) (k : Bool → Prop) : Prop := ∀ b : Bool, (b = true ↔ VClock room keys used hand) → k b
theorem F_spec_validClock_S {room : Int} {keys : List Int} {used : List Bool} {hand : Int} {k : Bool → Prop} (h : F_spec_validClock room keys used hand k) : S_spec_validClock room keys used hand k := by
  have hno : ¬ VClock room keys used hand → k false := fun hv => h false (by simp [hv])
  show br (decide (1 ≤ room ∧ room ≤ 8)) _ _
  refine br_dec.2 ⟨fun h1 => ?_, fun h1 => hno fun v => h1 ⟨v.1.1, v.1.2.1⟩⟩
  intro b hb
  rw [br_iff]
  refine ⟨fun e => ?_, fun e => hno fun v => by rw [hb.2 v.1] at e; cases e⟩
  have hv := hb.1 e
  have hlen := hv.2.2.1
  refine br_beq.2 ⟨fun h3 => ⟨inR (by omega) (by omega), br_dec.2 ⟨fun h4 => br_beq.2 ⟨fun h6 => h true ?_, fun h6 => h _ ?_⟩, fun h4 => hno fun v => h4 ?_⟩⟩, fun h3 => hno fun v => h3 (by rw [v.2.1])⟩
  · simp only [true_iff]
    obtain ⟨h4, h5⟩ := h4
    refine ⟨hv, by omega, fun h => by omega, fun _ => ⟨h4, ?_⟩⟩
    split at h5 <;> omega
  · simp only [beq_iff_eq]
    exact ⟨fun e => ⟨hv, by omega, fun _ => e, fun h => absurd h h6⟩, fun v => v.2.2.1 (by omega)⟩
  · by_cases h6 : (keys.length : Int) = room
    · have := v.2.2.2 h6
      constructor
      · omega
      · split <;> omega
    · rw [v.2.2.1 (by omega)]
      constructor
      · omega
      · split <;> omega
-- spec.ValidClock
def G_spec_ValidClock (c0Room : Int) (c0Keys : List Int) (c0Used : List Bool) (c0Hand : Int) (k : Bool → Prop) : Prop :=
  F_spec_validClock c0Room c0Keys c0Used c0Hand fun validClock4 =>
  k validClock4
def S_spec_ValidClock (c0Room : Int) (c0Keys : List Int) (c0Used : List Bool) (c0Hand : Int) (k : Bool → Prop) : Prop := G_spec_ValidClock c0Room c0Keys c0Used c0Hand k
abbrev F_spec_ValidClock (c0Room : Int) (c0Keys : List Int) (c0Used : List Bool) (c0Hand : Int) (k : Bool → Prop) : Prop := S_spec_ValidClock c0Room c0Keys c0Used c0Hand k
theorem F_spec_ValidClock_S {c0Room : Int} {c0Keys : List Int} {c0Used : List Bool} {c0Hand : Int} {k : Bool → Prop} (h : F_spec_ValidClock c0Room c0Keys c0Used c0Hand k) : S_spec_ValidClock c0Room c0Keys c0Used c0Hand k := h
-- laws.FnValidClock
def G_laws_FnValidClock (code0 : List Int) (k : Bool → Prop) : Prop :=
  br (decide ((code0.length : Int) > 1048576))
  (k true)
  (F_spec_DrawValidClock code0 fun drawValidClock9Room drawValidClock9Keys drawValidClock9Used drawValidClock9Hand =>
    F_impl_ValidClock drawValidClock9Room drawValidClock9Keys drawValidClock9Used drawValidClock9Hand fun validClock11 =>
    F_spec_ValidClock drawValidClock9Room drawValidClock9Keys drawValidClock9Used drawValidClock9Hand fun validClock14 =>
    br (!(validClock11 == validClock14))
    (k false)
    (((8 : Int) ≠ 0) ∧
      InR (1 + (Int.tmod (code0.length : Int) 8)) ∧
      F_impl_ValidClock (1 + (Int.tmod (code0.length : Int) 8)) ([] : List Int) ([] : List Bool) (0 : Int) fun validClock21 =>
      br validClock21
      (F_impl_ValidClock (3 : Int) ([] : List Int) ([] : List Bool) (1 : Int) fun validClock24 =>
        br (!validClock24)
        (br (!validClock11)
          (k true)
          (k (decide ((drawValidClock9Keys.length : Int) ≤ drawValidClock9Room))))
        (k false))
      (k false)))
def S_laws_FnValidClock (code0 : List Int) (k : Bool → Prop) : Prop := G_laws_FnValidClock code0 k
abbrev F_laws_FnValidClock (code0 : List Int) (k : Bool → Prop) : Prop := S_laws_FnValidClock code0 k
theorem F_laws_FnValidClock_S {code0 : List Int} {k : Bool → Prop} (h : F_laws_FnValidClock code0 k) : S_laws_FnValidClock code0 k := h
theorem law_FnValidClock (code : List Int) (hb : ∀ x ∈ code, 0 ≤ x ∧ x ≤ 255) : F_laws_FnValidClock code (fun r => r = true) := by
  refine br_dec.2 ⟨fun _ => rfl, fun hlen => ⟨hb, fun b hbs => ⟨⟨hbs, by omega, by omega⟩, fun room keys used hand p' _ _ _ _ => ?_⟩⟩⟩
  intro v1 h1 v2 h2
  have e : v1 = v2 := by
    cases v1 <;> cases v2 <;> first | rfl | (simp at h1 h2; first | exact absurd h2 h1 | exact absurd h1 h2)
  subst e
  have g1 := Int.tmod_nonneg 8 (show (0 : Int) ≤ code.length by omega)
  have g2 := Int.tmod_lt_of_pos (code.length : Int) (show (0 : Int) < 8 by omega)
  refine br_not.2 (br_bb.2 ⟨fun _ => ⟨by omega, inR (by omega) (by omega), ?_⟩, fun h => absurd rfl h⟩)
  intro v3 h3
  have e3 : v3 = true := h3.2 ⟨⟨by omega, by omega, by simp; omega, by simp, by simp⟩, rfl, fun _ => rfl, fun h => by simp at h; omega⟩
  subst e3
  rw [br_t]
  intro v4 h4
  have e4 : v4 = false := by
    cases v4 with
    | false => rfl
    | true => have := (h4.1 rfl).2.2.1 (by simp); omega
  subst e4
  show br (!v1) _ _
  rw [br_not, br_iff]
  refine ⟨fun e => ?_, fun _ => rfl⟩
  exact decide_eq_true (h1.1 e).1.2.2.1
end Go.Ev
