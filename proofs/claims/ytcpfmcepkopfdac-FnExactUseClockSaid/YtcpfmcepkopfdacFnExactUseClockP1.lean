/- What the functions that the law reaches do, written as plain Lean. No statement is proved here. -/
import Derived.Test.YtcpfmcepkopfdacFnExactUseClockP0
namespace Go.Ev
set_option linter.unusedVariables false
open Go
def G_impl_ValidKeys (list0 : List Int) (room1 : Int) (k : Bool → Prop) : Prop :=
  F_impl_validRoom room1 fun validRoom6 =>
  br validRoom6
  (br (decide ((list0.length : Int) ≤ room1))
    (F_impl_differentKeys list0 fun differentKeys15 =>
      k differentKeys15)
    (k false))
  (k false)
def S_impl_ValidKeys (list0 : List Int) (room1 : Int) (k : Bool → Prop) : Prop := G_impl_ValidKeys list0 room1 k
def F_impl_ValidKeys (l : List Int) (room : Int) (k : Bool → Prop) : Prop := ∀ b : Bool, (b = true ↔ VKeys l room) → k b
theorem F_impl_ValidKeys_S {l : List Int} {room : Int} {k : Bool → Prop} (h : F_impl_ValidKeys l room k) : S_impl_ValidKeys l room k := by
  have hno : ¬ VKeys l room → k false := fun hv => h false (by simp [hv])
  refine br_dec.2 ⟨fun h1 => br_dec.2 ⟨fun h3 => ⟨by omega, fun b hb => h b ?_⟩, fun h3 => hno fun v => by have := v.2.2.1; omega⟩, fun h1 => hno fun v => h1 ⟨v.1, v.2.1⟩⟩
  rw [hb]
  exact ⟨fun g => ⟨h1.1, h1.2, h3, g.1, g.2⟩, fun v => v.2.2.2⟩
-- impl.ValidClock
def G_impl_ValidClock (c0Room : Int) (c0Keys : List Int) (c0Used : List Bool) (c0Hand : Int) (k : Bool → Prop) : Prop :=
  F_impl_ValidKeys c0Keys c0Room fun validKeys7 =>
  br (!validKeys7)
  (k false)
  (br ((c0Used.length : Int) != (c0Keys.length : Int))
    (k false)
    (br (decide ((c0Keys.length : Int) < c0Room))
      (k (c0Hand == 0))
      (br (decide (0 ≤ c0Hand))
        (k (decide (c0Hand < (c0Keys.length : Int))))
        (k false))))
def S_impl_ValidClock (c0Room : Int) (c0Keys : List Int) (c0Used : List Bool) (c0Hand : Int) (k : Bool → Prop) : Prop := G_impl_ValidClock c0Room c0Keys c0Used c0Hand k
def F_impl_ValidClock (room : Int) (keys : List Int) (used : List Bool) (hand : Int) (k : Bool → Prop) : Prop := ∀ b : Bool, (b = true ↔ VClock room keys used hand) → k b
theorem F_impl_ValidClock_S {room : Int} {keys : List Int} {used : List Bool} {hand : Int} {k : Bool → Prop} (h : F_impl_ValidClock room keys used hand k) : S_impl_ValidClock room keys used hand k := by
  have hno : ¬ VClock room keys used hand → k false := fun hv => h false (by simp [hv])
  simp only [S_impl_ValidClock, G_impl_ValidClock, F_impl_ValidKeys]
  intro b hb
  rw [br_not, br_iff]
  refine ⟨fun e => ?_, fun e => hno fun v => by rw [hb.2 v.1] at e; cases e⟩
  have hv := hb.1 e
  refine br_bne.2 ⟨fun h2 => hno fun v => h2 (by rw [v.2.1]), fun h2 => br_dec.2 ⟨fun h3 => h _ ?_, fun h3 => br_dec.2 ⟨fun h4 => h _ ?_, fun h4 => hno fun v => h4 ?_⟩⟩⟩
  · simp only [beq_iff_eq]
    exact ⟨fun e => ⟨hv, by omega, fun _ => e, fun h => by omega⟩, fun v => v.2.2.1 h3⟩
  · simp only [decide_eq_true_eq]
    have := hv.2.2.1
    exact ⟨fun e => ⟨hv, by omega, fun h => absurd h h3, fun _ => ⟨h4, e⟩⟩, fun v => (v.2.2.2 (by omega)).2⟩
  · have := hv.2.2.1
    exact (v.2.2.2 (by omega)).1
-- impl.nextPlace
def G_impl_nextPlace (c0Room : Int) (c0Keys : List Int) (c0Used : List Bool) (c0Hand : Int) (k : Int → Prop) : Prop :=
  InR (c0Hand + 1) ∧
  ((c0Keys.length : Int) ≠ 0) ∧
  k (Int.tmod (c0Hand + 1) (c0Keys.length : Int))
def S_impl_nextPlace (c0Room : Int) (c0Keys : List Int) (c0Used : List Bool) (c0Hand : Int) (k : Int → Prop) : Prop := G_impl_nextPlace c0Room c0Keys c0Used c0Hand k
abbrev F_impl_nextPlace (c0Room : Int) (c0Keys : List Int) (c0Used : List Bool) (c0Hand : Int) (k : Int → Prop) : Prop := S_impl_nextPlace c0Room c0Keys c0Used c0Hand k
theorem F_impl_nextPlace_S {c0Room : Int} {c0Keys : List Int} {c0Used : List Bool} {c0Hand : Int} {k : Int → Prop} (h : F_impl_nextPlace c0Room c0Keys c0Used c0Hand k) : S_impl_nextPlace c0Room c0Keys c0Used c0Hand k := h
-- impl.UseClock
def T0_impl_UseClock (c0Keys : List Int) (c0Room : Int) (key1 : Int) (xb6c3 : Int) (xy26 : List Bool) (k : Int → List Int → List Bool → Int → Bool → Prop) (B0 : Int → List Bool → Prop) : Prop :=
  (0 ≤ xb6c3 ∧ xb6c3 < (xy26.length : Int)) ∧
  br (List.getD xy26 (Int.toNat xb6c3) false)
  ((0 ≤ xb6c3 ∧ xb6c3 < (xy26.length : Int)) ∧
    F_impl_nextPlace c0Room c0Keys (List.set xy26 (Int.toNat xb6c3) false) xb6c3 fun nextPlace71 =>
    B0 nextPlace71 (List.set xy26 (Int.toNat xb6c3) false))
  ((0 ≤ xb6c3 ∧ xb6c3 < (c0Keys.length : Int)) ∧
    F_impl_nextPlace c0Room (List.set c0Keys (Int.toNat xb6c3) key1) xy26 xb6c3 fun nextPlace80 =>
    k c0Room (List.set c0Keys (Int.toNat xb6c3) key1) xy26 nextPlace80 false)
def L0_impl_UseClock (c0Keys : List Int) (c0Room : Int) (key1 : Int) (k : Int → List Int → List Bool → Int → Bool → Prop) : Nat → Int → List Bool → Prop
  | 0, _, _ => False
  | n + 1, xb6c3, xy26 => T0_impl_UseClock c0Keys c0Room key1 xb6c3 xy26 k (L0_impl_UseClock c0Keys c0Room key1 k n)
def G_impl_UseClock_j0 (c0Hand : Int) (c0Keys : List Int) (c0Room : Int) (c0Used : List Bool) (key1 : Int) (k : Int → List Int → List Bool → Int → Bool → Prop) (I0 : List Int → Int → Int → Int → List Bool → Prop) : Prop :=
  (F_slices_Index_sint_int c0Keys key1 fun index33 =>
    br (decide (index33 ≥ 0))
    ((0 ≤ index33 ∧ index33 < (c0Used.length : Int)) ∧
      k c0Room c0Keys (List.set c0Used (Int.toNat index33) true) c0Hand true)
    (br (decide ((c0Keys.length : Int) < c0Room))
      ((c0Keys.length + 1 ≤ 1000000000) ∧
        (c0Used.length + 1 ≤ 1000000000) ∧
        k c0Room (c0Keys ++ ([key1] : List Int)) (c0Used ++ ([false] : List Bool)) c0Hand false)
      (I0 c0Keys c0Room key1 c0Hand c0Used))) ∧
  (True)
def G_impl_UseClock_j1 (c0Hand : Int) (c0Keys : List Int) (c0Room : Int) (c0Used : List Bool) (key1 : Int) (k : Int → List Int → List Bool → Int → Bool → Prop) (I0 : List Int → Int → Int → Int → List Bool → Prop) : Prop :=
  ((0 + c0Used.length ≤ 1000000000) ∧
    G_impl_UseClock_j0 c0Hand c0Keys c0Room c0Used key1 k I0) ∧
  (True)
def G_impl_UseClock_j2 (c0Hand : Int) (c0Keys : List Int) (c0Room : Int) (c0Used : List Bool) (key1 : Int) (k : Int → List Int → List Bool → Int → Bool → Prop) (I0 : List Int → Int → Int → Int → List Bool → Prop) : Prop :=
  (G_impl_UseClock_j1 c0Hand c0Keys c0Room c0Used key1 k I0) ∧
  (True)
def G_impl_UseClock_j3 (c0Hand : Int) (c0Keys : List Int) (c0Room : Int) (c0Used : List Bool) (key1 : Int) (k : Int → List Int → List Bool → Int → Bool → Prop) (I0 : List Int → Int → Int → Int → List Bool → Prop) : Prop :=
  ((0 + c0Used.length ≤ 1000000000) ∧
    (G_impl_UseClock_j0 c0Hand c0Keys c0Room c0Used key1 k I0) ∧
    (True)) ∧
  (G_impl_UseClock_j2 c0Hand c0Keys c0Room c0Used key1 k I0)
def G_impl_UseClock_j4 (c0Hand : Int) (c0Keys : List Int) (c0Room : Int) (c0Used : List Bool) (key1 : Int) (k : Int → List Int → List Bool → Int → Bool → Prop) (I0 : List Int → Int → Int → Int → List Bool → Prop) : Prop :=
  (((0 + c0Keys.length ≤ 1000000000) ∧
      G_impl_UseClock_j1 c0Hand c0Keys c0Room c0Used key1 k I0) ∧
    (True)) ∧
  (True)
def G_impl_UseClock_j5 (c0Hand : Int) (c0Keys : List Int) (c0Room : Int) (c0Used : List Bool) (key1 : Int) (k : Int → List Int → List Bool → Int → Bool → Prop) (I0 : List Int → Int → Int → Int → List Bool → Prop) : Prop :=
  ((0 + c0Keys.length ≤ 1000000000) ∧
    G_impl_UseClock_j3 c0Hand c0Keys c0Room c0Used key1 k I0) ∧
  (G_impl_UseClock_j4 c0Hand c0Keys c0Room c0Used key1 k I0)
def G_impl_UseClock_j6 (c0Hand : Int) (c0Keys : List Int) (c0Room : Int) (c0Used : List Bool) (key1 : Int) (k : Int → List Int → List Bool → Int → Bool → Prop) (I0 : List Int → Int → Int → Int → List Bool → Prop) : Prop :=
  ((0 + c0Keys.length ≤ 1000000000) ∧
    G_impl_UseClock_j2 c0Hand c0Keys c0Room c0Used key1 k I0) ∧
  (G_impl_UseClock_j4 c0Hand c0Keys c0Room c0Used key1 k I0)
def G_impl_UseClock_j7 (c0Hand : Int) (c0Keys : List Int) (c0Room : Int) (c0Used : List Bool) (key1 : Int) (k : Int → List Int → List Bool → Int → Bool → Prop) (I0 : List Int → Int → Int → Int → List Bool → Prop) : Prop :=
  (G_impl_UseClock_j4 c0Hand c0Keys c0Room c0Used key1 k I0) ∧
  (True)
def G_impl_UseClock (c0Room : Int) (c0Keys : List Int) (c0Used : List Bool) (c0Hand : Int) (key1 : Int) (k : Int → List Int → List Bool → Int → Bool → Prop) (I0 : List Int → Int → Int → Int → List Bool → Prop) : Prop :=
  F_impl_ValidClock c0Room c0Keys c0Used c0Hand fun validClock9 =>
  br (!validClock9)
  (k 0 ([] : List Int) ([] : List Bool) 0 false)
  (F_impl_validKey key1 fun validKey13 =>
    br (!validKey13)
    (k 0 ([] : List Int) ([] : List Bool) 0 false)
    ((((0 + c0Keys.length ≤ 1000000000) ∧
          (G_impl_UseClock_j3 c0Hand c0Keys c0Room c0Used key1 k I0) ∧
          ((G_impl_UseClock_j2 c0Hand c0Keys c0Room c0Used key1 k I0) ∧
            (True))) ∧
        ((G_impl_UseClock_j5 c0Hand c0Keys c0Room c0Used key1 k I0) ∧
          ((G_impl_UseClock_j6 c0Hand c0Keys c0Room c0Used key1 k I0) ∧
            (True)))) ∧
      (((G_impl_UseClock_j5 c0Hand c0Keys c0Room c0Used key1 k I0) ∧
          (G_impl_UseClock_j7 c0Hand c0Keys c0Room c0Used key1 k I0)) ∧
        (((G_impl_UseClock_j6 c0Hand c0Keys c0Room c0Used key1 k I0) ∧
            (G_impl_UseClock_j7 c0Hand c0Keys c0Room c0Used key1 k I0)) ∧
          (True)))))
def H_impl_UseClock (c0Room : Int) (c0Keys : List Int) (c0Used : List Bool) (c0Hand : Int) (key1 : Int) (k : Int → List Int → List Bool → Int → Bool → Prop) (I0 : List Int → Int → Int → Int → List Bool → Prop) : Prop :=
  F_impl_ValidClock c0Room c0Keys c0Used c0Hand fun validClock9 =>
  br (!validClock9)
  (k 0 ([] : List Int) ([] : List Bool) 0 false)
  (F_impl_validKey key1 fun validKey13 =>
    br (!validKey13)
    (k 0 ([] : List Int) ([] : List Bool) 0 false)
    ((0 + c0Keys.length ≤ 1000000000) ∧
      (0 + c0Used.length ≤ 1000000000) ∧
      F_slices_Index_sint_int c0Keys key1 fun index33 =>
      br (decide (index33 ≥ 0))
      ((0 ≤ index33 ∧ index33 < (c0Used.length : Int)) ∧
        k c0Room c0Keys (List.set c0Used (Int.toNat index33) true) c0Hand true)
      (br (decide ((c0Keys.length : Int) < c0Room))
        ((c0Keys.length + 1 ≤ 1000000000) ∧
          (c0Used.length + 1 ≤ 1000000000) ∧
          k c0Room (c0Keys ++ ([key1] : List Int)) (c0Used ++ ([false] : List Bool)) c0Hand false)
        (I0 c0Keys c0Room key1 c0Hand c0Used))))
theorem G_impl_UseClock_eq (c0Room : Int) (c0Keys : List Int) (c0Used : List Bool) (c0Hand : Int) (key1 : Int) (k : Int → List Int → List Bool → Int → Bool → Prop) (I0 : List Int → Int → Int → Int → List Bool → Prop) : G_impl_UseClock c0Room c0Keys c0Used c0Hand key1 k I0 = H_impl_UseClock c0Room c0Keys c0Used c0Hand key1 k I0 := by
  simp only [G_impl_UseClock, H_impl_UseClock, G_impl_UseClock_j0, G_impl_UseClock_j1, G_impl_UseClock_j2, G_impl_UseClock_j3, G_impl_UseClock_j4, G_impl_UseClock_j5, G_impl_UseClock_j6, G_impl_UseClock_j7, and_self, and_true]
def S_impl_UseClock (c0Room : Int) (c0Keys : List Int) (c0Used : List Bool) (c0Hand : Int) (key1 : Int) (k : Int → List Int → List Bool → Int → Bool → Prop) : Prop := H_impl_UseClock c0Room c0Keys c0Used c0Hand key1 k (fun c0Keys c0Room key1 xb6c3 xy26 => ∃ j, L0_impl_UseClock c0Keys c0Room key1 k j xb6c3 xy26)
def F_impl_UseClock (room : Int) (keys : List Int) (used : List Bool) (hand key : Int) (k : Int → List Int → List Bool → Int → Bool → Prop) : Prop :=
  ((VClock room keys used hand ∧ 0 ≤ key ∧ key ≤ 31) → k room (tickM room keys used hand key).1 (tickM room keys used hand key).2.1 (tickM room keys used hand key).2.2.1 (tickM room keys used hand key).2.2.2) ∧
  (¬ (VClock room keys used hand ∧ 0 ≤ key ∧ key ≤ 31) → k 0 [] [] 0 false)
theorem F_impl_UseClock_S {room : Int} {keys : List Int} {used : List Bool} {hand key : Int} {k : Int → List Int → List Bool → Int → Bool → Prop} (h : F_impl_UseClock room keys used hand key k) : S_impl_UseClock room keys used hand key k := by
  obtain ⟨hyes, hno⟩ := h
  intro b hb
  rw [br_not, br_iff]
  refine ⟨fun e => br_not.2 (br_dec.2 ⟨fun hkey => ?_, fun hkey => hno fun w => hkey w.2⟩), fun e => hno fun w => by rw [hb.2 w.1] at e; cases e⟩
  have v := hb.1 e
  have hk := hyes ⟨v, hkey⟩
  obtain ⟨⟨v1, v2, v3, v4, v5⟩, v6, v7, v8⟩ := v
  have key1 : (keys.length : Int) = room → ∀ (f : Nat) (u : List Bool) (h : Nat), u.length = keys.length → h < u.length → u.count true < f →
      k room (keys.set (sweep f u h).2 key) (sweep f u h).1 (((sweep f u h).2 + 1) % keys.length : Nat) false → L0_impl_UseClock keys room key k f (h : Int) u := by
    intro hr f
    induction f with
    | zero => intro u h _ _ h3; omega
    | succ f ih =>
      intro u h h1 h2 h3 h4
      unfold sweep at h4
      rw [L0_impl_UseClock, T0_impl_UseClock]
      simp only [br_iff, Int.toNat_natCast]
      refine ⟨⟨by omega, by omega⟩, fun hu => ⟨⟨by omega, by omega⟩, inR (by omega) (by omega), by omega, ?_⟩, fun hu => ⟨⟨by omega, by omega⟩, inR (by omega) (by omega), by rw [List.length_set]; omega, ?_⟩⟩
      · rw [if_pos hu] at h4
        rw [tmod_next, ← h1]
        have := count_clear hu
        refine ih _ _ (by simp [h1]) (by rw [List.length_set]; exact Nat.mod_lt _ (by omega)) (by omega) h4
      · rw [if_neg (by rw [hu]; simp)] at h4
        rw [List.length_set, tmod_next]
        exact h4
  refine ⟨by omega, by omega, by omega, br_dec.2 ⟨fun hp => ?_, fun hp => br_dec.2 ⟨fun hl => ?_, fun hl => ?_⟩⟩⟩
  · have hm := plc_ge.1 hp
    unfold tickM at hk
    rw [if_pos hm] at hk
    obtain ⟨j, j1, _, _, j2⟩ := plc_pos hm
    exact ⟨⟨by omega, by omega⟩, hk⟩
  · have hm : key ∉ keys := fun e => hp (plc_ge.2 e)
    unfold tickM at hk
    rw [if_neg hm, if_pos hl] at hk
    exact ⟨by omega, by omega, hk⟩
  · have hm : key ∉ keys := fun e => hp (plc_ge.2 e)
    unfold tickM at hk
    rw [if_neg hm, if_neg hl] at hk
    obtain ⟨w1, w2⟩ := v8 (by omega)
    refine ⟨used.length + 1, ?_⟩
    have := key1 (by omega) (used.length + 1) used hand.toNat v6 (by omega) (Nat.lt_succ_of_le List.count_le_length) hk
    rwa [Int.toNat_of_nonneg w1] at this
-- laws.eqIntS
def T0_laws_eqIntS (a0 : List Int) (b1 : List Int) (xi5 : Int) (k : Bool → Prop) (B0 : Int → Prop) : Prop :=
  br (decide (xi5 < (a0.length : Int)))
  ((0 ≤ xi5 ∧ xi5 < (a0.length : Int)) ∧
    (0 ≤ xi5 ∧ xi5 < (b1.length : Int)) ∧
    br ((List.getD a0 (Int.toNat xi5) (0 : Int)) != (List.getD b1 (Int.toNat xi5) (0 : Int)))
    (k false)
    (InR (xi5 + 1) ∧
      B0 (xi5 + 1)))
  (k true)
def L0_laws_eqIntS (a0 : List Int) (b1 : List Int) (k : Bool → Prop) : Nat → Int → Prop
  | 0, _ => False
  | n + 1, xi5 => T0_laws_eqIntS a0 b1 xi5 k (L0_laws_eqIntS a0 b1 k n)
def G_laws_eqIntS (a0 : List Int) (b1 : List Int) (k : Bool → Prop) (I0 : List Int → List Int → Int → Prop) : Prop :=
  br ((a0.length : Int) != (b1.length : Int))
  (k false)
  (I0 a0 b1 0)
def S_laws_eqIntS (a0 : List Int) (b1 : List Int) (k : Bool → Prop) : Prop := G_laws_eqIntS a0 b1 k (fun a0 b1 xi5 => ∃ j, L0_laws_eqIntS a0 b1 k j xi5)
def F_laws_eqIntS (a b : List Int) (k : Bool → Prop) : Prop := a.length ≤ 1000000000 ∧ k (decide (a = b))
theorem F_laws_eqIntS_S {a b : List Int} {k : Bool → Prop} (h : F_laws_eqIntS a b k) : S_laws_eqIntS a b k := by
  obtain ⟨hl, hk⟩ := h
  refine br_bne.2 ⟨fun he => by rwa [decide_eq_false (fun e => he (by rw [e]))] at hk, fun he => ?_⟩
  have he : a.length = b.length := by omega
  have key : ∀ (r : List Int) (i : Nat), a.drop i = r → (r = b.drop i ↔ a = b) → L0_laws_eqIntS a b k (r.length + 1) (i : Int) := by
    intro r
    induction r with
    | nil =>
      intro i hd hi
      have := drop_nil' hd
      rw [L0_laws_eqIntS, T0_laws_eqIntS]
      simp only [br_dec]
      exact ⟨fun h => by omega, fun _ => by rwa [decide_eq_true (hi.1 (List.drop_eq_nil_of_le (by omega)).symm)] at hk⟩
    | cons x r ih =>
      intro i hd hi
      obtain ⟨h1, h2, _, h3, _⟩ := drop_cons' hd
      obtain ⟨y, s, hs⟩ : ∃ y s, b.drop i = y :: s := by
        cases e : b.drop i with
        | nil => have := drop_nil' e; omega
        | cons y s => exact ⟨y, s, rfl⟩
      obtain ⟨g1, g2, _, g3, _⟩ := drop_cons' hs
      rw [List.length_cons, L0_laws_eqIntS, T0_laws_eqIntS]
      simp only [br_dec, br_bne, Int.toNat_natCast, h2, g2]
      rw [hs] at hi
      refine ⟨fun _ => ⟨⟨by omega, by omega⟩, ⟨by omega, by omega⟩, ?_⟩, fun h => by omega⟩
      have go : x = y → L0_laws_eqIntS a b k (r.length + 1) ((i : Int) + 1) := fun hx => ih (i + 1) h3 (by rw [g3, ← hi, hx]; simp)
      have no : x ≠ y → k false := fun hx => by rwa [decide_eq_false (fun e => hx (List.cons.inj (hi.2 e)).1)] at hk
      exact ⟨no, fun hx => ⟨inR (by omega) (by omega), go hx⟩⟩
  exact ⟨_, key a 0 rfl (by simp)⟩
-- laws.eqBoolS
def T0_laws_eqBoolS (a0 : List Bool) (b1 : List Bool) (xi5 : Int) (k : Bool → Prop) (B0 : Int → Prop) : Prop :=
  br (decide (xi5 < (a0.length : Int)))
  ((0 ≤ xi5 ∧ xi5 < (a0.length : Int)) ∧
    (0 ≤ xi5 ∧ xi5 < (b1.length : Int)) ∧
    br (!((List.getD a0 (Int.toNat xi5) false) == (List.getD b1 (Int.toNat xi5) false)))
    (k false)
    (InR (xi5 + 1) ∧
      B0 (xi5 + 1)))
  (k true)
def L0_laws_eqBoolS (a0 : List Bool) (b1 : List Bool) (k : Bool → Prop) : Nat → Int → Prop
  | 0, _ => False
  | n + 1, xi5 => T0_laws_eqBoolS a0 b1 xi5 k (L0_laws_eqBoolS a0 b1 k n)
def G_laws_eqBoolS (a0 : List Bool) (b1 : List Bool) (k : Bool → Prop) (I0 : List Bool → List Bool → Int → Prop) : Prop :=
  br ((a0.length : Int) != (b1.length : Int))
  (k false)
  (I0 a0 b1 0)
def S_laws_eqBoolS (a0 : List Bool) (b1 : List Bool) (k : Bool → Prop) : Prop := G_laws_eqBoolS a0 b1 k (fun a0 b1 xi5 => ∃ j, L0_laws_eqBoolS a0 b1 k j xi5)
def F_laws_eqBoolS (a b : List Bool) (k : Bool → Prop) : Prop := a.length ≤ 1000000000 ∧ k (decide (a = b))
theorem F_laws_eqBoolS_S {a b : List Bool} {k : Bool → Prop} (h : F_laws_eqBoolS a b k) : S_laws_eqBoolS a b k := by
  obtain ⟨hl, hk⟩ := h
  refine br_bne.2 ⟨fun he => by rwa [decide_eq_false (fun e => he (by rw [e]))] at hk, fun he => ?_⟩
  have he : a.length = b.length := by omega
  have key : ∀ (r : List Bool) (i : Nat), a.drop i = r → (r = b.drop i ↔ a = b) → L0_laws_eqBoolS a b k (r.length + 1) (i : Int) := by
    intro r
    induction r with
    | nil =>
      intro i hd hi
      have := drop_nil' hd
      rw [L0_laws_eqBoolS, T0_laws_eqBoolS]
      simp only [br_dec]
      exact ⟨fun h => by omega, fun _ => by rwa [decide_eq_true (hi.1 (List.drop_eq_nil_of_le (by omega)).symm)] at hk⟩
    | cons x r ih =>
      intro i hd hi
      obtain ⟨h1, h2, _, h3, _⟩ := drop_cons' hd
      obtain ⟨y, s, hs⟩ : ∃ y s, b.drop i = y :: s := by
        cases e : b.drop i with
        | nil => have := drop_nil' e; omega
        | cons y s => exact ⟨y, s, rfl⟩
      obtain ⟨g1, g2, _, g3, _⟩ := drop_cons' hs
      rw [List.length_cons, L0_laws_eqBoolS, T0_laws_eqBoolS]
      simp only [br_dec, br_not, br_bb, Int.toNat_natCast, h2, g2]
      rw [hs] at hi
      refine ⟨fun _ => ⟨⟨by omega, by omega⟩, ⟨by omega, by omega⟩, ?_⟩, fun h => by omega⟩
      have go : x = y → L0_laws_eqBoolS a b k (r.length + 1) ((i : Int) + 1) := fun hx => ih (i + 1) h3 (by rw [g3, ← hi, hx]; simp)
      have no : x ≠ y → k false := fun hx => by rwa [decide_eq_false (fun e => hx (List.cons.inj (hi.2 e)).1)] at hk
      exact ⟨fun hx => ⟨inR (by omega) (by omega), go hx⟩, no⟩
  exact ⟨_, key a 0 rfl (by simp)⟩
-- laws.eqClock
def G_laws_eqClock (a0Room : Int) (a0Keys : List Int) (a0Used : List Bool) (a0Hand : Int) (b1Room : Int) (b1Keys : List Int) (b1Used : List Bool) (b1Hand : Int) (k : Bool → Prop) : Prop :=
  br (a0Room != b1Room)
  (k false)
  (F_laws_eqIntS a0Keys b1Keys fun eqIntS14 =>
    br (!eqIntS14)
    (k false)
    (F_laws_eqBoolS a0Used b1Used fun eqBoolS20 =>
      br (!eqBoolS20)
      (k false)
      (br (a0Hand != b1Hand)
        (k false)
        (k true))))
def S_laws_eqClock (a0Room : Int) (a0Keys : List Int) (a0Used : List Bool) (a0Hand : Int) (b1Room : Int) (b1Keys : List Int) (b1Used : List Bool) (b1Hand : Int) (k : Bool → Prop) : Prop := G_laws_eqClock a0Room a0Keys a0Used a0Hand b1Room b1Keys b1Used b1Hand k
def F_laws_eqClock (room : Int) (keys : List Int) (used : List Bool) (hand : Int) (room' : Int) (keys' : List Int) (used' : List Bool) (hand' : Int) (k : Bool → Prop) : Prop := (keys.length ≤ 1000000000 ∧ used.length ≤ 1000000000) ∧ ∀ b : Bool, (b = true ↔ room = room' ∧ keys = keys' ∧ used = used' ∧ hand = hand') → k b
theorem F_laws_eqClock_S {room : Int} {keys : List Int} {used : List Bool} {hand : Int} {room' : Int} {keys' : List Int} {used' : List Bool} {hand' : Int} {k : Bool → Prop} (h : F_laws_eqClock room keys used hand room' keys' used' hand' k) : S_laws_eqClock room keys used hand room' keys' used' hand' k := by
  obtain ⟨⟨lKeys, lUsed⟩, hk⟩ := h
  exact br_bne.2 ⟨fun eRoom => hk false (by simp [eRoom]), fun eRoom => ⟨lKeys, br_not.2 (br_dec.2 ⟨fun eKeys => ⟨lUsed, br_not.2 (br_dec.2 ⟨fun eUsed => br_bne.2 ⟨fun eHand => hk false (by simp [eHand]), fun eHand => hk true (by simp [eRoom, eKeys, eUsed, eHand])⟩, fun eUsed => hk false (by simp [eUsed])⟩)⟩, fun eKeys => hk false (by simp [eKeys])⟩)⟩⟩
theorem eqClock_same {room : Int} {keys : List Int} {used : List Bool} {hand : Int} {k : Bool → Prop} (hl : keys.length ≤ 1000000000 ∧ used.length ≤ 1000000000) (h : k true) : F_laws_eqClock room keys used hand room keys used hand k := ⟨hl, all_t ⟨rfl, rfl, rfl, rfl⟩ h⟩
-- laws.markIntS
def T0_laws_markIntS (xk1 : Int) (xi5 : Int) (xy100000 : List Int) (k : Int → List Int → Prop) (B0 : Int → Int → List Int → Prop) : Prop :=
  br (decide (xi5 < (xy100000.length : Int)))
  ((0 ≤ xi5 ∧ xi5 < (xy100000.length : Int)) ∧
    InR (xk1 + 1) ∧
    InR (xi5 + 1) ∧
    B0 (xk1 + 1) (xi5 + 1) (List.set xy100000 (Int.toNat xi5) xk1))
  (k xk1 xy100000)
def L0_laws_markIntS (k : Int → List Int → Prop) : Nat → Int → Int → List Int → Prop
  | 0, _, _, _ => False
  | n + 1, xk1, xi5, xy100000 => T0_laws_markIntS xk1 xi5 xy100000 k (L0_laws_markIntS k n)
def G_laws_markIntS (a0 : List Int) (k1 : Int) (I0 : Int → Int → List Int → Prop) : Prop :=
  I0 k1 0 a0
def S_laws_markIntS (a0 : List Int) (k1 : Int) (k : Int → List Int → Prop) : Prop := G_laws_markIntS a0 k1 (fun xk1 xi5 xy100000 => ∃ j, L0_laws_markIntS k j xk1 xi5 xy100000)
def F_laws_markIntS (a : List Int) (k0 : Int) (k : Int → List Int → Prop) : Prop :=
  (a.length ≤ 1000000000 ∧ 0 ≤ k0 ∧ k0 ≤ 100000000000) ∧ k (k0 + a.length) (seqI k0 a.length)
theorem F_laws_markIntS_S {a : List Int} {k0 : Int} {k : Int → List Int → Prop} (h : F_laws_markIntS a k0 k) : S_laws_markIntS a k0 k := by
  obtain ⟨⟨h1, h2, h3⟩, hk⟩ := h
  have key : ∀ (d i : Nat) (out : List Int), i + d = a.length → out.length = a.length → out.take i = seqI k0 i → L0_laws_markIntS k (d + 1) (k0 + (i : Int)) (i : Int) out := by
    intro d
    induction d with
    | zero =>
      intro i out hi ho he
      rw [L0_laws_markIntS, T0_laws_markIntS]
      refine br_dec.2 ⟨fun h => by omega, fun _ => ?_⟩
      rw [List.take_of_length_le (by omega)] at he
      have : i = a.length := by omega
      rw [he, this]; exact hk
    | succ d ih =>
      intro i out hi ho he
      rw [L0_laws_markIntS, T0_laws_markIntS]
      rw [Int.toNat_natCast]
      refine br_dec.2 ⟨fun _ => ⟨⟨by omega, by omega⟩, inR (by omega) (by omega), inR (by omega) (by omega), ?_⟩, fun h => by omega⟩
      rw [show k0 + (i : Int) + 1 = k0 + ((i + 1 : Nat) : Int) by omega]
      exact ih (i + 1) _ (by omega) (by simpa using ho) (by rw [take_set_succ (by omega), he, seqI_snoc])
  have := key a.length 0 a (by omega) rfl (by simp [seqI])
  rw [show k0 + ((0 : Nat) : Int) = k0 by omega] at this
  exact ⟨_, this⟩
-- laws.markBoolS
def T0_laws_markBoolS (xk1 : Int) (xi5 : Int) (xy100000 : List Bool) (k : Int → List Bool → Prop) (B0 : Int → Int → List Bool → Prop) : Prop :=
  br (decide (xi5 < (xy100000.length : Int)))
  (((3 : Int) ≠ 0) ∧
    (0 ≤ xi5 ∧ xi5 < (xy100000.length : Int)) ∧
    InR (xk1 + 1) ∧
    InR (xi5 + 1) ∧
    B0 (xk1 + 1) (xi5 + 1) (List.set xy100000 (Int.toNat xi5) ((Int.tmod xk1 3) == 0)))
  (k xk1 xy100000)
def L0_laws_markBoolS (k : Int → List Bool → Prop) : Nat → Int → Int → List Bool → Prop
  | 0, _, _, _ => False
  | n + 1, xk1, xi5, xy100000 => T0_laws_markBoolS xk1 xi5 xy100000 k (L0_laws_markBoolS k n)
def G_laws_markBoolS (a0 : List Bool) (k1 : Int) (I0 : Int → Int → List Bool → Prop) : Prop :=
  I0 k1 0 a0
def S_laws_markBoolS (a0 : List Bool) (k1 : Int) (k : Int → List Bool → Prop) : Prop := G_laws_markBoolS a0 k1 (fun xk1 xi5 xy100000 => ∃ j, L0_laws_markBoolS k j xk1 xi5 xy100000)
def F_laws_markBoolS (a : List Bool) (k0 : Int) (k : Int → List Bool → Prop) : Prop :=
  (a.length ≤ 1000000000 ∧ 0 ≤ k0 ∧ k0 ≤ 100000000000) ∧ k (k0 + a.length) (seqB k0 a.length)
theorem F_laws_markBoolS_S {a : List Bool} {k0 : Int} {k : Int → List Bool → Prop} (h : F_laws_markBoolS a k0 k) : S_laws_markBoolS a k0 k := by
  obtain ⟨⟨h1, h2, h3⟩, hk⟩ := h
  have key : ∀ (d i : Nat) (out : List Bool), i + d = a.length → out.length = a.length → out.take i = seqB k0 i → L0_laws_markBoolS k (d + 1) (k0 + (i : Int)) (i : Int) out := by
    intro d
    induction d with
    | zero =>
      intro i out hi ho he
      rw [L0_laws_markBoolS, T0_laws_markBoolS]
      refine br_dec.2 ⟨fun h => by omega, fun _ => ?_⟩
      rw [List.take_of_length_le (by omega)] at he
      have : i = a.length := by omega
      rw [he, this]; exact hk
    | succ d ih =>
      intro i out hi ho he
      rw [L0_laws_markBoolS, T0_laws_markBoolS]
      rw [Int.toNat_natCast]
      refine br_dec.2 ⟨fun _ => ⟨by omega, ⟨by omega, by omega⟩, inR (by omega) (by omega), inR (by omega) (by omega), ?_⟩, fun h => by omega⟩
      rw [show k0 + (i : Int) + 1 = k0 + ((i + 1 : Nat) : Int) by omega]
      exact ih (i + 1) _ (by omega) (by simpa using ho) (by rw [take_set_succ (by omega), he, seqB_snoc])
  have := key a.length 0 a (by omega) rfl (by simp [seqB])
  rw [show k0 + ((0 : Nat) : Int) = k0 by omega] at this
  exact ⟨_, this⟩
-- laws.markClock
def G_laws_markClock (a0Room : Int) (a0Keys : List Int) (a0Used : List Bool) (a0Hand : Int) (k1 : Int) (k : Int → List Int → List Bool → Prop) : Prop :=
  F_laws_markIntS a0Keys k1 fun markIntS8 omarkIntS8 =>
  F_laws_markBoolS a0Used markIntS8 fun markBoolS12 omarkBoolS12 =>
  k markBoolS12 omarkIntS8 omarkBoolS12
def S_laws_markClock (a0Room : Int) (a0Keys : List Int) (a0Used : List Bool) (a0Hand : Int) (k1 : Int) (k : Int → List Int → List Bool → Prop) : Prop := G_laws_markClock a0Room a0Keys a0Used a0Hand k1 k
def F_laws_markClock (room : Int) (keys : List Int) (used : List Bool) (hand : Int) (k0 : Int) (k : Int → List Int → List Bool → Prop) : Prop := (keys.length ≤ 1000000000 ∧ used.length ≤ 1000000000 ∧ 0 ≤ k0 ∧ k0 ≤ 100000000) ∧ k (k0 + (keys.length : Int) + (used.length : Int)) (seqI (k0) keys.length) (seqB (k0 + (keys.length : Int)) used.length)
theorem F_laws_markClock_S {room : Int} {keys : List Int} {used : List Bool} {hand : Int} {k0 : Int} {k : Int → List Int → List Bool → Prop} (h : F_laws_markClock room keys used hand k0 k) : S_laws_markClock room keys used hand k0 k := by
  obtain ⟨⟨lKeys, lUsed, g1, g2⟩, hk⟩ := h
  exact ⟨⟨by omega, by omega, by omega⟩, ⟨⟨by omega, by omega, by omega⟩, hk⟩⟩
-- laws.heldIntS
def T0_laws_heldIntS (a0 : List Int) (xk1 : Int) (xi5 : Int) (k : Int → Prop) (B0 : Int → Int → Prop) : Prop :=
  br (decide (xi5 < (a0.length : Int)))
  ((0 ≤ xi5 ∧ xi5 < (a0.length : Int)) ∧
    br ((List.getD a0 (Int.toNat xi5) (0 : Int)) != xk1)
    (k (-1))
    (InR (xk1 + 1) ∧
      InR (xi5 + 1) ∧
      B0 (xk1 + 1) (xi5 + 1)))
  (k xk1)
def L0_laws_heldIntS (a0 : List Int) (k : Int → Prop) : Nat → Int → Int → Prop
  | 0, _, _ => False
  | n + 1, xk1, xi5 => T0_laws_heldIntS a0 xk1 xi5 k (L0_laws_heldIntS a0 k n)
def G_laws_heldIntS (a0 : List Int) (k1 : Int) (I0 : List Int → Int → Int → Prop) : Prop :=
  I0 a0 k1 0
def S_laws_heldIntS (a0 : List Int) (k1 : Int) (k : Int → Prop) : Prop := G_laws_heldIntS a0 k1 (fun a0 xk1 xi5 => ∃ j, L0_laws_heldIntS a0 k j xk1 xi5)
def F_laws_heldIntS (a : List Int) (k0 : Int) (k : Int → Prop) : Prop :=
  ∃ n : Nat, (n ≤ 1000000000 ∧ 0 ≤ k0 ∧ k0 ≤ 100000000000) ∧ a = seqI k0 n ∧ k (k0 + (n : Int))
theorem F_laws_heldIntS_S {a : List Int} {k0 : Int} {k : Int → Prop} (h : F_laws_heldIntS a k0 k) : S_laws_heldIntS a k0 k := by
  obtain ⟨n, ⟨h1, h2, h3⟩, rfl, hk⟩ := h
  have key : ∀ (d i : Nat), i + d = n → L0_laws_heldIntS (seqI k0 n) k (d + 1) (k0 + (i : Int)) (i : Int) := by
    intro d
    induction d with
    | zero =>
      intro i hi
      rw [L0_laws_heldIntS, T0_laws_heldIntS]
      rw [seqI_len]
      refine br_dec.2 ⟨fun h => by omega, fun _ => ?_⟩
      have : i = n := by omega
      rw [this]; exact hk
    | succ d ih =>
      intro i hi
      have hi2 : i < n := by omega
      rw [L0_laws_heldIntS, T0_laws_heldIntS]
      rw [Int.toNat_natCast, seqI_len]
      refine br_dec.2 ⟨fun _ => ⟨⟨by omega, by omega⟩, br_bne.2 ⟨fun h => absurd (seqI_get hi2) h, fun _ => ⟨inR (by omega) (by omega), inR (by omega) (by omega), ?_⟩⟩⟩, fun h => by omega⟩
      rw [show k0 + (i : Int) + 1 = k0 + ((i + 1 : Nat) : Int) by omega]
      exact ih (i + 1) (by omega)
  have := key n 0 (by omega)
  rw [show k0 + ((0 : Nat) : Int) = k0 by omega] at this
  exact ⟨_, this⟩
-- laws.heldBoolS
def T0_laws_heldBoolS (a0 : List Bool) (xk1 : Int) (xi5 : Int) (k : Int → Prop) (B0 : Int → Int → Prop) : Prop :=
  br (decide (xi5 < (a0.length : Int)))
  ((0 ≤ xi5 ∧ xi5 < (a0.length : Int)) ∧
    ((3 : Int) ≠ 0) ∧
    br (!((List.getD a0 (Int.toNat xi5) false) == ((Int.tmod xk1 3) == 0)))
    (k (-1))
    (InR (xk1 + 1) ∧
      InR (xi5 + 1) ∧
      B0 (xk1 + 1) (xi5 + 1)))
  (k xk1)
def L0_laws_heldBoolS (a0 : List Bool) (k : Int → Prop) : Nat → Int → Int → Prop
  | 0, _, _ => False
  | n + 1, xk1, xi5 => T0_laws_heldBoolS a0 xk1 xi5 k (L0_laws_heldBoolS a0 k n)
def G_laws_heldBoolS (a0 : List Bool) (k1 : Int) (I0 : List Bool → Int → Int → Prop) : Prop :=
  I0 a0 k1 0
def S_laws_heldBoolS (a0 : List Bool) (k1 : Int) (k : Int → Prop) : Prop := G_laws_heldBoolS a0 k1 (fun a0 xk1 xi5 => ∃ j, L0_laws_heldBoolS a0 k j xk1 xi5)
def F_laws_heldBoolS (a : List Bool) (k0 : Int) (k : Int → Prop) : Prop :=
  ∃ n : Nat, (n ≤ 1000000000 ∧ 0 ≤ k0 ∧ k0 ≤ 100000000000) ∧ a = seqB k0 n ∧ k (k0 + (n : Int))
theorem F_laws_heldBoolS_S {a : List Bool} {k0 : Int} {k : Int → Prop} (h : F_laws_heldBoolS a k0 k) : S_laws_heldBoolS a k0 k := by
  obtain ⟨n, ⟨h1, h2, h3⟩, rfl, hk⟩ := h
  have key : ∀ (d i : Nat), i + d = n → L0_laws_heldBoolS (seqB k0 n) k (d + 1) (k0 + (i : Int)) (i : Int) := by
    intro d
    induction d with
    | zero =>
      intro i hi
      rw [L0_laws_heldBoolS, T0_laws_heldBoolS]
      rw [seqB_len]
      refine br_dec.2 ⟨fun h => by omega, fun _ => ?_⟩
      have : i = n := by omega
      rw [this]; exact hk
    | succ d ih =>
      intro i hi
      have hi2 : i < n := by omega
      rw [L0_laws_heldBoolS, T0_laws_heldBoolS]
      rw [Int.toNat_natCast, seqB_len]
      refine br_dec.2 ⟨fun _ => ⟨⟨by omega, by omega⟩, ⟨by omega, br_not.2 (br_bb.2 ⟨fun _ => ⟨inR (by omega) (by omega), inR (by omega) (by omega), ?_⟩, fun h => absurd (seqB_get hi2) h⟩)⟩⟩, fun h => by omega⟩
      rw [show k0 + (i : Int) + 1 = k0 + ((i + 1 : Nat) : Int) by omega]
      exact ih (i + 1) (by omega)
  have := key n 0 (by omega)
  rw [show k0 + ((0 : Nat) : Int) = k0 by omega] at this
  exact ⟨_, this⟩
-- laws.heldClock
def G_laws_heldClock (a0Room : Int) (a0Keys : List Int) (a0Used : List Bool) (a0Hand : Int) (k1 : Int) (k : Int → Prop) : Prop :=
  F_laws_heldIntS a0Keys k1 fun heldIntS8 =>
  br (decide (heldIntS8 < 0))
  (k (-1))
  (F_laws_heldBoolS a0Used heldIntS8 fun heldBoolS14 =>
    br (decide (heldBoolS14 < 0))
    (k (-1))
    (k heldBoolS14))
def S_laws_heldClock (a0Room : Int) (a0Keys : List Int) (a0Used : List Bool) (a0Hand : Int) (k1 : Int) (k : Int → Prop) : Prop := G_laws_heldClock a0Room a0Keys a0Used a0Hand k1 k
def F_laws_heldClock (room : Int) (keys : List Int) (used : List Bool) (hand : Int) (k0 : Int) (k : Int → Prop) : Prop :=
  ∃ nKeys nUsed : Nat, (nKeys ≤ 1000000000 ∧ nUsed ≤ 1000000000 ∧ 0 ≤ k0 ∧ k0 ≤ 100000000) ∧ keys = seqI (k0) nKeys ∧ used = seqB (k0 + (nKeys : Int)) nUsed ∧ k (k0 + (nKeys : Int) + (nUsed : Int))
theorem F_laws_heldClock_S {room : Int} {keys : List Int} {used : List Bool} {hand : Int} {k0 : Int} {k : Int → Prop} (h : F_laws_heldClock room keys used hand k0 k) : S_laws_heldClock room keys used hand k0 k := by
  obtain ⟨nKeys, nUsed, ⟨lKeys, lUsed, g1, g2⟩, rfl, rfl, hk⟩ := h
  refine ⟨nKeys, ⟨lKeys, by omega, by omega⟩, rfl, ?_⟩
  refine br_dec.2 ⟨fun h => by omega, fun _ => ?_⟩
  refine ⟨nUsed, ⟨lUsed, by omega, by omega⟩, rfl, ?_⟩
  refine br_dec.2 ⟨fun h => by omega, fun _ => ?_⟩
  exact hk
-- laws.FnExactUseClock
def G_laws_FnExactUseClock (aC0Room : Int) (aC0Keys : List Int) (aC0Used : List Bool) (aC0Hand : Int) (aKey1 : Int) (k : Bool → Prop) : Prop :=
  F_laws_szClock aC0Room aC0Keys aC0Used aC0Hand (1048576 : Int) fun szClock18 =>
  br (decide (szClock18 < 0))
  (k true)
  (F_laws_toClock aC0Room aC0Keys aC0Used aC0Hand fun toClock23Room toClock23Keys toClock23Used toClock23Hand =>
    F_spec_UseClock toClock23Room toClock23Keys toClock23Used toClock23Hand aKey1 fun useClock25Room useClock25Keys useClock25Used useClock25Hand useClock25r1 =>
    F_laws_toClock aC0Room aC0Keys aC0Used aC0Hand fun toClock29Room toClock29Keys toClock29Used toClock29Hand =>
    F_impl_UseClock toClock29Room toClock29Keys toClock29Used toClock29Hand aKey1 fun useClock33Room useClock33Keys useClock33Used useClock33Hand useClock33r1 =>
    F_laws_eqClock useClock33Room useClock33Keys useClock33Used useClock33Hand useClock25Room useClock25Keys useClock25Used useClock25Hand fun eqClock38 =>
    br (!eqClock38)
    (k false)
    (br (!(useClock33r1 == useClock25r1))
      (k false)
      ((F_laws_toClock aC0Room aC0Keys aC0Used aC0Hand fun toClock47Room toClock47Keys toClock47Used toClock47Hand =>
          (F_laws_eqClock toClock29Room toClock29Keys toClock29Used toClock29Hand toClock47Room toClock47Keys toClock47Used toClock47Hand fun eqClock48 =>
            br (!eqClock48)
            (k false)
            (F_laws_markClock toClock29Room toClock29Keys toClock29Used toClock29Hand (1 : Int) fun markClock52 omarkClock52Keys omarkClock52Used =>
              br (decide (markClock52 < 0))
              (k false)
              (F_laws_eqClock useClock33Room useClock33Keys useClock33Used useClock33Hand useClock25Room useClock25Keys useClock25Used useClock25Hand fun eqClock58 =>
                br (!eqClock58)
                (k false)
                (br (!(useClock33r1 == useClock25r1))
                  (k false)
                  (F_laws_markClock useClock33Room useClock33Keys useClock33Used useClock33Hand (1 : Int) fun markClock68 omarkClock68Keys omarkClock68Used =>
                    F_laws_heldClock useClock33Room omarkClock68Keys omarkClock68Used useClock33Hand (1 : Int) fun heldClock71 =>
                    br (decide (heldClock71 < 0))
                    (k false)
                    (br (heldClock71 != markClock68)
                      (k false)
                      (F_laws_toClock aC0Room aC0Keys aC0Used aC0Hand fun toClock79Room toClock79Keys toClock79Used toClock79Hand =>
                        F_impl_UseClock toClock79Room toClock79Keys toClock79Used toClock79Hand aKey1 fun useClock81Room useClock81Keys useClock81Used useClock81Hand useClock81r1 =>
                        F_laws_eqClock useClock81Room useClock81Keys useClock81Used useClock81Hand useClock25Room useClock25Keys useClock25Used useClock25Hand fun eqClock86 =>
                        br (!eqClock86)
                        (k false)
                        (br (!(useClock81r1 == useClock25r1))
                          (k false)
                          (F_laws_heldClock useClock33Room omarkClock68Keys omarkClock68Used useClock33Hand (1 : Int) fun heldClock95 =>
                            br (decide (heldClock95 < 0))
                            (k false)
                            (br (heldClock95 != markClock68)
                              (k false)
                              (k true))))))))))) ∧
          (True)) ∧
        (True))))
def H_laws_FnExactUseClock (aC0Room : Int) (aC0Keys : List Int) (aC0Used : List Bool) (aC0Hand : Int) (aKey1 : Int) (k : Bool → Prop) : Prop :=
  F_laws_szClock aC0Room aC0Keys aC0Used aC0Hand (1048576 : Int) fun szClock18 =>
  br (decide (szClock18 < 0))
  (k true)
  (F_laws_toClock aC0Room aC0Keys aC0Used aC0Hand fun toClock23Room toClock23Keys toClock23Used toClock23Hand =>
    F_spec_UseClock toClock23Room toClock23Keys toClock23Used toClock23Hand aKey1 fun useClock25Room useClock25Keys useClock25Used useClock25Hand useClock25r1 =>
    F_laws_toClock aC0Room aC0Keys aC0Used aC0Hand fun toClock29Room toClock29Keys toClock29Used toClock29Hand =>
    F_impl_UseClock toClock29Room toClock29Keys toClock29Used toClock29Hand aKey1 fun useClock33Room useClock33Keys useClock33Used useClock33Hand useClock33r1 =>
    F_laws_eqClock useClock33Room useClock33Keys useClock33Used useClock33Hand useClock25Room useClock25Keys useClock25Used useClock25Hand fun eqClock38 =>
    br (!eqClock38)
    (k false)
    (br (!(useClock33r1 == useClock25r1))
      (k false)
      (F_laws_toClock aC0Room aC0Keys aC0Used aC0Hand fun toClock47Room toClock47Keys toClock47Used toClock47Hand =>
        F_laws_eqClock toClock29Room toClock29Keys toClock29Used toClock29Hand toClock47Room toClock47Keys toClock47Used toClock47Hand fun eqClock48 =>
        br (!eqClock48)
        (k false)
        (F_laws_markClock toClock29Room toClock29Keys toClock29Used toClock29Hand (1 : Int) fun markClock52 omarkClock52Keys omarkClock52Used =>
          br (decide (markClock52 < 0))
          (k false)
          (F_laws_eqClock useClock33Room useClock33Keys useClock33Used useClock33Hand useClock25Room useClock25Keys useClock25Used useClock25Hand fun eqClock58 =>
            br (!eqClock58)
            (k false)
            (br (!(useClock33r1 == useClock25r1))
              (k false)
              (F_laws_markClock useClock33Room useClock33Keys useClock33Used useClock33Hand (1 : Int) fun markClock68 omarkClock68Keys omarkClock68Used =>
                F_laws_heldClock useClock33Room omarkClock68Keys omarkClock68Used useClock33Hand (1 : Int) fun heldClock71 =>
                br (decide (heldClock71 < 0))
                (k false)
                (br (heldClock71 != markClock68)
                  (k false)
                  (F_laws_toClock aC0Room aC0Keys aC0Used aC0Hand fun toClock79Room toClock79Keys toClock79Used toClock79Hand =>
                    F_impl_UseClock toClock79Room toClock79Keys toClock79Used toClock79Hand aKey1 fun useClock81Room useClock81Keys useClock81Used useClock81Hand useClock81r1 =>
                    F_laws_eqClock useClock81Room useClock81Keys useClock81Used useClock81Hand useClock25Room useClock25Keys useClock25Used useClock25Hand fun eqClock86 =>
                    br (!eqClock86)
                    (k false)
                    (br (!(useClock81r1 == useClock25r1))
                      (k false)
                      (F_laws_heldClock useClock33Room omarkClock68Keys omarkClock68Used useClock33Hand (1 : Int) fun heldClock95 =>
                        br (decide (heldClock95 < 0))
                        (k false)
                        (br (heldClock95 != markClock68)
                          (k false)
                          (k true)))))))))))))
theorem G_laws_FnExactUseClock_eq (aC0Room : Int) (aC0Keys : List Int) (aC0Used : List Bool) (aC0Hand : Int) (aKey1 : Int) (k : Bool → Prop) : G_laws_FnExactUseClock aC0Room aC0Keys aC0Used aC0Hand aKey1 k = H_laws_FnExactUseClock aC0Room aC0Keys aC0Used aC0Hand aKey1 k := by
  simp only [G_laws_FnExactUseClock, H_laws_FnExactUseClock, and_self, and_true]
def S_laws_FnExactUseClock (aC0Room : Int) (aC0Keys : List Int) (aC0Used : List Bool) (aC0Hand : Int) (aKey1 : Int) (k : Bool → Prop) : Prop := H_laws_FnExactUseClock aC0Room aC0Keys aC0Used aC0Hand aKey1 k
abbrev F_laws_FnExactUseClock (aC0Room : Int) (aC0Keys : List Int) (aC0Used : List Bool) (aC0Hand : Int) (aKey1 : Int) (k : Bool → Prop) : Prop := S_laws_FnExactUseClock aC0Room aC0Keys aC0Used aC0Hand aKey1 k
theorem F_laws_FnExactUseClock_S {aC0Room : Int} {aC0Keys : List Int} {aC0Used : List Bool} {aC0Hand : Int} {aKey1 : Int} {k : Bool → Prop} (h : F_laws_FnExactUseClock aC0Room aC0Keys aC0Used aC0Hand aKey1 k) : S_laws_FnExactUseClock aC0Room aC0Keys aC0Used aC0Hand aKey1 k := h
theorem law_FnExactUseClock (cRoom : Int) (rcRoom : InR cRoom) (cKeys : List Int) (lcKeys : cKeys.length ≤ maxLen) (rcKeys : ∀ x ∈ cKeys, InR x) (cUsed : List Bool) (lcUsed : cUsed.length ≤ maxLen) (cHand : Int) (rcHand : InR cHand) (key : Int) (rkey : InR key) :
    F_laws_FnExactUseClock cRoom cKeys cUsed cHand key (fun r => r = true) := by
  refine ⟨⟨lcKeys, lcUsed, by omega, by omega⟩, fun z0 _ _ s0 => br_dec.2 ⟨fun _ => rfl, fun t0 => ?_⟩⟩
  have u0 := s0 (by omega)
  have mc : cKeys.length ≤ 1000000000 ∧ cUsed.length ≤ 1000000000 := ⟨by omega, by omega⟩
  by_cases v : VClock cRoom cKeys cUsed cHand ∧ 0 ≤ key ∧ key ≤ 31
  · have m2 := (by have := tick_len (key := key) v.1 v.2; exact ⟨Nat.le_trans this.1 (by omega), by omega⟩ : (tickM cRoom cKeys cUsed cHand key).1.length ≤ 1000000000 ∧ (tickM cRoom cKeys cUsed cHand key).2.1.length ≤ 1000000000)
    exact ⟨mc, ⟨fun _ => ⟨mc, ⟨fun _ => eqClock_same m2 (br_nt (br_same (⟨mc, eqClock_same mc (br_nt (⟨⟨mc.1, mc.2, by omega, by omega⟩, br_lt0 (by omega) (eqClock_same m2 (br_nt (br_same (⟨⟨m2.1, m2.2, by omega, by omega⟩, ⟨_, _, ⟨m2.1, m2.2, by omega, by omega⟩, rfl, rfl, br_lt0 (by omega) (br_same' (⟨mc, ⟨fun _ => eqClock_same m2 (br_nt (br_same (⟨_, _, ⟨m2.1, m2.2, by omega, by omega⟩, rfl, rfl, br_lt0 (by omega) (br_same' rfl)⟩))), fun h => absurd v h⟩⟩))⟩⟩))))⟩))⟩))), fun h => absurd v h⟩⟩, fun h => absurd v h⟩⟩
  · have m2 : ([] : List Int).length ≤ 1000000000 ∧ ([] : List Bool).length ≤ 1000000000 := by simp
    exact ⟨mc, ⟨fun h => absurd h v, fun _ => ⟨mc, ⟨fun h => absurd h v, fun _ => eqClock_same m2 (br_nt (br_same (⟨mc, eqClock_same mc (br_nt (⟨⟨mc.1, mc.2, by omega, by omega⟩, br_lt0 (by omega) (eqClock_same m2 (br_nt (br_same (⟨⟨m2.1, m2.2, by omega, by omega⟩, ⟨_, _, ⟨m2.1, m2.2, by omega, by omega⟩, rfl, rfl, br_lt0 (by omega) (br_same' (⟨mc, ⟨fun h => absurd h v, fun _ => eqClock_same m2 (br_nt (br_same (⟨_, _, ⟨m2.1, m2.2, by omega, by omega⟩, rfl, rfl, br_lt0 (by omega) (br_same' rfl)⟩)))⟩⟩))⟩⟩))))⟩))⟩)))⟩⟩⟩⟩
end Go.Ev
