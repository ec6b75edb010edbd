/- What the functions that the law reaches do, written as plain Lean. No statement is proved here. -/
import Derived.Test.YtcpfmcepkopfdabFnRunClockP0
namespace Go.Ev
set_option linter.unusedVariables false
open Go
def T0_impl_useAll_Clock_UseClock (t0 : List Int) (xt14 : Int) (xhits8 : Int) (xt15 : Int) (xb4c0 : Int) (xb4c3 : Int) (xb4c1 : List Int) (xb4c2 : List Bool) (k : Int → List Int → List Bool → Int → Int → Prop) (B0 : Int → Int → Int → Int → List Int → List Bool → Prop) : Prop :=
  br (decide (xt15 < xt14))
  ((0 ≤ xt15 ∧ xt15 < (t0.length : Int)) ∧
    F_impl_UseClock xb4c0 xb4c1 xb4c2 xb4c3 (List.getD t0 (Int.toNat xt15) (0 : Int)) fun useClock23Room useClock23Keys useClock23Used useClock23Hand useClock23r1 =>
    br useClock23r1
    (InR (xhits8 + 1) ∧
      InR (xt15 + 1) ∧
      B0 (xhits8 + 1) (xt15 + 1) useClock23Room useClock23Hand useClock23Keys useClock23Used)
    (InR (xt15 + 1) ∧
      B0 xhits8 (xt15 + 1) useClock23Room useClock23Hand useClock23Keys useClock23Used))
  (k xb4c0 xb4c1 xb4c2 xb4c3 xhits8)
def L0_impl_useAll_Clock_UseClock (t0 : List Int) (xt14 : Int) (k : Int → List Int → List Bool → Int → Int → Prop) : Nat → Int → Int → Int → Int → List Int → List Bool → Prop
  | 0, _, _, _, _, _, _ => False
  | n + 1, xhits8, xt15, xb4c0, xb4c3, xb4c1, xb4c2 => T0_impl_useAll_Clock_UseClock t0 xt14 xhits8 xt15 xb4c0 xb4c3 xb4c1 xb4c2 k (L0_impl_useAll_Clock_UseClock t0 xt14 k n)
def G_impl_useAll_Clock_UseClock (t0 : List Int) (cache1Room : Int) (cache1Keys : List Int) (cache1Used : List Bool) (cache1Hand : Int) (I0 : List Int → Int → Int → Int → Int → Int → List Int → List Bool → Prop) : Prop :=
  I0 t0 (t0.length : Int) 0 0 cache1Room cache1Hand cache1Keys cache1Used
def S_impl_useAll_Clock_UseClock (t0 : List Int) (cache1Room : Int) (cache1Keys : List Int) (cache1Used : List Bool) (cache1Hand : Int) (k : Int → List Int → List Bool → Int → Int → Prop) : Prop := G_impl_useAll_Clock_UseClock t0 cache1Room cache1Keys cache1Used cache1Hand (fun t0 xt14 xhits8 xt15 xb4c0 xb4c3 xb4c1 xb4c2 => ∃ j, L0_impl_useAll_Clock_UseClock t0 xt14 k j xhits8 xt15 xb4c0 xb4c3 xb4c1 xb4c2)
def F_impl_useAll_Clock_UseClock (t : List Int) (room : Int) (keys : List Int) (used : List Bool) (hand : Int) (k : Int → List Int → List Bool → Int → Int → Prop) : Prop :=
  (VTrace t ∧ VClock room keys used hand) ∧ k room (runC room t keys used hand 0).1 (runC room t keys used hand 0).2.1 (runC room t keys used hand 0).2.2.1 (runC room t keys used hand 0).2.2.2
theorem F_impl_useAll_Clock_UseClock_S {t : List Int} {room : Int} {keys : List Int} {used : List Bool} {hand : Int} {k : Int → List Int → List Bool → Int → Int → Prop} (h : F_impl_useAll_Clock_UseClock t room keys used hand k) : S_impl_useAll_Clock_UseClock t room keys used hand k := by
  obtain ⟨⟨⟨t1, t2⟩, v⟩, hk⟩ := h
  have key : ∀ (r : List Int) (i : Nat) (ks : List Int) (us : List Bool) (hd n : Int), t.drop i = r → VClock room ks us hd → 0 ≤ n → n ≤ i →
      k room (runC room r ks us hd n).1 (runC room r ks us hd n).2.1 (runC room r ks us hd n).2.2.1 (runC room r ks us hd n).2.2.2 → L0_impl_useAll_Clock_UseClock t (t.length : Int) k (r.length + 1) n (i : Int) room hd ks us := by
    intro r
    induction r with
    | nil =>
      intro i ks us hd n hdr v n0 n1 hk
      have := drop_nil' hdr
      rw [L0_impl_useAll_Clock_UseClock, T0_impl_useAll_Clock_UseClock]
      simp only [br_dec]
      exact ⟨fun h => by omega, fun _ => hk⟩
    | cons x r ih =>
      intro i ks us hd n hdr v n0 n1 hk
      obtain ⟨h1, h2, h5, h3, h4⟩ := drop_cons' hdr
      have hx := t2 x (List.mem_of_getElem? h5)
      rw [List.length_cons, L0_impl_useAll_Clock_UseClock, T0_impl_useAll_Clock_UseClock]
      simp only [br_dec, Int.toNat_natCast, h2]
      refine ⟨fun _ => ⟨⟨by omega, by omega⟩, fun _ => ?_, fun hv => absurd ⟨v, hx⟩ hv⟩, fun h => by omega⟩
      rw [runC] at hk
      rw [br_iff]
      refine ⟨fun e => ⟨inR (by omega) (by omega), inR (by omega) (by omega), ?_⟩, fun e => ⟨inR (by omega) (by omega), ?_⟩⟩
      · rw [e] at hk
        exact ih (i + 1) _ _ _ _ h3 (tick_valid v hx) (by omega) (by omega) hk
      · rw [e] at hk
        rw [show n + toI false = n by simp [toI]] at hk
        exact ih (i + 1) _ _ _ _ h3 (tick_valid v hx) (by omega) (by omega) hk
  exact ⟨_, key t 0 keys used hand 0 rfl v (by omega) (by omega) hk⟩
-- impl.RunClock
def G_impl_RunClock (t0 : List Int) (room1 : Int) (k : Int → List Int → List Bool → Int → Int → Prop) : Prop :=
  F_impl_ValidTrace t0 fun validTrace7 =>
  br (!validTrace7)
  (k 0 ([] : List Int) ([] : List Bool) 0 (-1))
  (F_impl_validRoom room1 fun validRoom11 =>
    br (!validRoom11)
    (k 0 ([] : List Int) ([] : List Bool) 0 (-1))
    (F_impl_useAll_Clock_UseClock t0 room1 ([] : List Int) ([] : List Bool) (0 : Int) fun useAll18Room useAll18Keys useAll18Used useAll18Hand useAll18r1 =>
      k useAll18Room useAll18Keys useAll18Used useAll18Hand useAll18r1))
def S_impl_RunClock (t0 : List Int) (room1 : Int) (k : Int → List Int → List Bool → Int → Int → Prop) : Prop := G_impl_RunClock t0 room1 k
def F_impl_RunClock (t : List Int) (room : Int) (k : Int → List Int → List Bool → Int → Int → Prop) : Prop :=
  ((VTrace t ∧ 1 ≤ room ∧ room ≤ 8) → k room (runC room t [] [] 0 0).1 (runC room t [] [] 0 0).2.1 (runC room t [] [] 0 0).2.2.1 (runC room t [] [] 0 0).2.2.2) ∧
  (¬ (VTrace t ∧ 1 ≤ room ∧ room ≤ 8) → k 0 [] [] 0 (-1))
theorem F_impl_RunClock_S {t : List Int} {room : Int} {k : Int → List Int → List Bool → Int → Int → Prop} (h : F_impl_RunClock t room k) : S_impl_RunClock t room k := by
  obtain ⟨hyes, hno⟩ := h
  intro b hb
  rw [br_not, br_iff]
  refine ⟨fun e => br_not.2 (br_dec.2 ⟨fun hr => ?_, fun hr => hno fun w => hr w.2⟩), fun e => hno fun v => by rw [hb.2 v.1] at e; cases e⟩
  have v := hb.1 e
  exact ⟨⟨v, clock0 hr⟩, hyes ⟨v, hr⟩⟩
-- spec.inRange
def G_spec_inRange (n0 : Int) (low1 : Int) (high2 : Int) (k : Bool → Prop) : Prop :=
  br (decide (low1 ≤ n0))
  (k (decide (n0 ≤ high2)))
  (k false)
def S_spec_inRange (n0 : Int) (low1 : Int) (high2 : Int) (k : Bool → Prop) : Prop := G_spec_inRange n0 low1 high2 k
def F_spec_inRange (n low high : Int) (k : Bool → Prop) : Prop := k (decide (low ≤ n ∧ n ≤ high))
theorem F_spec_inRange_S {n low high : Int} {k : Bool → Prop} (h : F_spec_inRange n low high k) : S_spec_inRange n low high k := by
  unfold F_spec_inRange at h
  simp only [S_spec_inRange, G_spec_inRange, br_dec]
  refine ⟨fun h1 => ?_, fun h1 => ?_⟩
  · simpa [h1] using h
  · simpa [h1] using h
-- spec.allIn
def T0_spec_allIn (high2 : Int) (list0 : List Int) (low1 : Int) (xi7 : Int) (k : Bool → Prop) (B0 : Int → Prop) : Prop :=
  br (decide (xi7 < (list0.length : Int)))
  ((0 ≤ xi7 ∧ xi7 < (list0.length : Int)) ∧
    F_spec_inRange (List.getD list0 (Int.toNat xi7) (0 : Int)) low1 high2 fun inRange20 =>
    br (!inRange20)
    (k false)
    (InR (xi7 + 1) ∧
      B0 (xi7 + 1)))
  (k true)
def L0_spec_allIn (high2 : Int) (list0 : List Int) (low1 : Int) (k : Bool → Prop) : Nat → Int → Prop
  | 0, _ => False
  | n + 1, xi7 => T0_spec_allIn high2 list0 low1 xi7 k (L0_spec_allIn high2 list0 low1 k n)
def G_spec_allIn (list0 : List Int) (low1 : Int) (high2 : Int) (I0 : Int → List Int → Int → Int → Prop) : Prop :=
  I0 high2 list0 low1 0
def S_spec_allIn (list0 : List Int) (low1 : Int) (high2 : Int) (k : Bool → Prop) : Prop := G_spec_allIn list0 low1 high2 (fun high2 list0 low1 xi7 => ∃ j, L0_spec_allIn high2 list0 low1 k j xi7)
def F_spec_allIn (l : List Int) (low high : Int) (k : Bool → Prop) : Prop := l.length ≤ 1000000000 ∧ k (decide (∀ x ∈ l, low ≤ x ∧ x ≤ high))
theorem F_spec_allIn_S {l : List Int} {low high : Int} {k : Bool → Prop} (h : F_spec_allIn l low high k) : S_spec_allIn l low high k := by
  obtain ⟨hl, hk⟩ := h
  have key : ∀ (r : List Int) (i : Nat), l.drop i = r → ((∀ x ∈ r, low ≤ x ∧ x ≤ high) ↔ (∀ x ∈ l, low ≤ x ∧ x ≤ high)) → L0_spec_allIn high l low k (r.length + 1) (i : Int) := by
    intro r
    induction r with
    | nil =>
      intro i hd he
      have := drop_nil' hd
      rw [L0_spec_allIn, T0_spec_allIn]
      simp only [br_dec]
      refine ⟨fun h => by omega, fun _ => ?_⟩
      rwa [decide_eq_true (he.1 (by simp))] at hk
    | cons x r ih =>
      intro i hd he
      obtain ⟨h1, h2, _, h3, _⟩ := drop_cons' hd
      rw [List.length_cons, L0_spec_allIn, T0_spec_allIn]
      simp only [br_dec, F_spec_inRange, br_not, Int.toNat_natCast, h2]
      refine ⟨fun _ => ⟨⟨by omega, by omega⟩, fun hx => ⟨inR (by omega) (by omega), ?_⟩, fun hx => ?_⟩, fun h => by omega⟩
      · refine ih (i + 1) h3 (Iff.trans ?_ he)
        simp only [List.mem_cons, forall_eq_or_imp]
        exact ⟨fun h => ⟨hx, h⟩, fun h => h.2⟩
      · rwa [decide_eq_false (fun h => hx (he.2 h x (by simp)))] at hk
  exact ⟨_, key l 0 rfl Iff.rfl⟩
-- spec.validTrace
def G_spec_validTrace (t0 : List Int) (k : Bool → Prop) : Prop :=
  br (decide ((t0.length : Int) ≤ 24))
  (F_spec_allIn t0 (0 : Int) (31 : Int) fun allIn8 =>
    k allIn8)
  (k false)
def S_spec_validTrace (t0 : List Int) (k : Bool → Prop) : Prop := G_spec_validTrace t0 k
def F_spec_validTrace (t : List Int) (k : Bool → Prop) : Prop := ∀ b : Bool, (b = true ↔ VTrace t) → k b
theorem F_spec_validTrace_S {t : List Int} {k : Bool → Prop} (h : F_spec_validTrace t k) : S_spec_validTrace t k :=
  br_dec.2 ⟨fun h1 => ⟨by omega, h _ (by simp only [decide_eq_true_eq]; exact ⟨fun h2 => ⟨by omega, h2⟩, fun v => v.2⟩)⟩, fun h1 => h false (by simp only [Bool.false_eq_true, false_iff]; exact fun v => h1 (by have := v.1; omega))⟩
-- spec.copyClock
def G_spec_copyClock_j0 (c0Hand : Int) (c0Room : Int) (c0Used : List Bool) (copyInts7 : List Int) (k : Int → List Int → List Bool → Int → Prop) : Prop :=
  ((0 + c0Used.length ≤ 1000000000) ∧
    (k c0Room copyInts7 c0Used c0Hand) ∧
    (True)) ∧
  (True)
def G_spec_copyClock (c0Room : Int) (c0Keys : List Int) (c0Used : List Bool) (c0Hand : Int) (k : Int → List Int → List Bool → Int → Prop) : Prop :=
  (F_spec_copyInts c0Keys fun copyInts7 =>
    (G_spec_copyClock_j0 c0Hand c0Room c0Used copyInts7 k) ∧
    (True)) ∧
  (((F_spec_copyInts c0Keys fun copyInts7 =>
        G_spec_copyClock_j0 c0Hand c0Room c0Used copyInts7 k) ∧
      (True)) ∧
    (True))
def H_spec_copyClock (c0Room : Int) (c0Keys : List Int) (c0Used : List Bool) (c0Hand : Int) (k : Int → List Int → List Bool → Int → Prop) : Prop :=
  F_spec_copyInts c0Keys fun copyInts7 =>
  (0 + c0Used.length ≤ 1000000000) ∧
  k c0Room copyInts7 c0Used c0Hand
theorem G_spec_copyClock_eq (c0Room : Int) (c0Keys : List Int) (c0Used : List Bool) (c0Hand : Int) (k : Int → List Int → List Bool → Int → Prop) : G_spec_copyClock c0Room c0Keys c0Used c0Hand k = H_spec_copyClock c0Room c0Keys c0Used c0Hand k := by
  simp only [G_spec_copyClock, H_spec_copyClock, G_spec_copyClock_j0, and_self, and_true]
def S_spec_copyClock (c0Room : Int) (c0Keys : List Int) (c0Used : List Bool) (c0Hand : Int) (k : Int → List Int → List Bool → Int → Prop) : Prop := H_spec_copyClock c0Room c0Keys c0Used c0Hand k
def F_spec_copyClock (room : Int) (keys : List Int) (used : List Bool) (hand : Int) (k : Int → List Int → List Bool → Int → Prop) : Prop := (keys.length ≤ 1000000000 ∧ used.length ≤ 1000000000) ∧ k room keys used hand
theorem F_spec_copyClock_S {room : Int} {keys : List Int} {used : List Bool} {hand : Int} {k : Int → List Int → List Bool → Int → Prop} (h : F_spec_copyClock room keys used hand k) : S_spec_copyClock room keys used hand k :=
  ⟨h.1.1, by have := h.1.2; omega, h.2⟩
-- spec.placeOf
def T0_spec_placeOf (list0 : List Int) (n1 : Int) (xi5 : Int) (k : Int → Prop) (B0 : Int → Prop) : Prop :=
  br (decide (xi5 < (list0.length : Int)))
  ((0 ≤ xi5 ∧ xi5 < (list0.length : Int)) ∧
    br ((List.getD list0 (Int.toNat xi5) (0 : Int)) == n1)
    (k xi5)
    (InR (xi5 + 1) ∧
      B0 (xi5 + 1)))
  (k (-1))
def L0_spec_placeOf (list0 : List Int) (n1 : Int) (k : Int → Prop) : Nat → Int → Prop
  | 0, _ => False
  | n + 1, xi5 => T0_spec_placeOf list0 n1 xi5 k (L0_spec_placeOf list0 n1 k n)
def G_spec_placeOf (list0 : List Int) (n1 : Int) (I0 : List Int → Int → Int → Prop) : Prop :=
  I0 list0 n1 0
def S_spec_placeOf (list0 : List Int) (n1 : Int) (k : Int → Prop) : Prop := G_spec_placeOf list0 n1 (fun list0 n1 xi5 => ∃ j, L0_spec_placeOf list0 n1 k j xi5)
def F_spec_placeOf (l : List Int) (n : Int) (k : Int → Prop) : Prop := l.length ≤ 1000000000 ∧ k (plc l n)
theorem F_spec_placeOf_S {l : List Int} {n : Int} {k : Int → Prop} (h : F_spec_placeOf l n k) : S_spec_placeOf l n k := by
  obtain ⟨hl, hk⟩ := h
  have key : ∀ (r : List Int) (i : Nat), l.drop i = r → plcF r n i = plc l n → L0_spec_placeOf l n k (r.length + 1) (i : Int) := by
    intro r
    induction r with
    | nil =>
      intro i hd he
      have := drop_nil' hd
      rw [L0_spec_placeOf, T0_spec_placeOf]
      simp only [br_dec]
      exact ⟨fun h => by omega, fun _ => by rw [show (-1 : Int) = plc l n from he]; exact hk⟩
    | cons x r ih =>
      intro i hd he
      obtain ⟨h1, h2, _, h3, _⟩ := drop_cons' hd
      rw [List.length_cons, L0_spec_placeOf, T0_spec_placeOf]
      simp only [br_dec, br_beq, Int.toNat_natCast, h2]
      refine ⟨fun _ => ⟨⟨by omega, by omega⟩, fun hx => ?_, fun hx => ⟨inR (by omega) (by omega), ?_⟩⟩, fun h => by omega⟩
      · simp only [plcF, if_pos hx] at he; rw [he]; exact hk
      · simp only [plcF, if_neg hx] at he; exact ih (i + 1) h3 he
  exact ⟨_, key l 0 rfl rfl⟩
-- spec.tick
def T0_spec_tick (copyClock9Keys : List Int) (copyClock9Room : Int) (key1 : Int) (xb6c3 : Int) (xy9 : List Bool) (k : Int → List Int → List Bool → Int → Bool → Prop) (B0 : Int → List Bool → Prop) : Prop :=
  (0 ≤ xb6c3 ∧ xb6c3 < (xy9.length : Int)) ∧
  br (List.getD xy9 (Int.toNat xb6c3) false)
  ((0 ≤ xb6c3 ∧ xb6c3 < (xy9.length : Int)) ∧
    InR (xb6c3 + 1) ∧
    (copyClock9Room ≠ 0) ∧
    B0 (Int.tmod (xb6c3 + 1) copyClock9Room) (List.set xy9 (Int.toNat xb6c3) false))
  ((0 ≤ xb6c3 ∧ xb6c3 < (copyClock9Keys.length : Int)) ∧
    InR (xb6c3 + 1) ∧
    (copyClock9Room ≠ 0) ∧
    k copyClock9Room (List.set copyClock9Keys (Int.toNat xb6c3) key1) xy9 (Int.tmod (xb6c3 + 1) copyClock9Room) false)
def L0_spec_tick (copyClock9Keys : List Int) (copyClock9Room : Int) (key1 : Int) (k : Int → List Int → List Bool → Int → Bool → Prop) : Nat → Int → List Bool → Prop
  | 0, _, _ => False
  | n + 1, xb6c3, xy9 => T0_spec_tick copyClock9Keys copyClock9Room key1 xb6c3 xy9 k (L0_spec_tick copyClock9Keys copyClock9Room key1 k n)
def G_spec_tick (c0Room : Int) (c0Keys : List Int) (c0Used : List Bool) (c0Hand : Int) (key1 : Int) (k : Int → List Int → List Bool → Int → Bool → Prop) (I0 : List Int → Int → Int → Int → List Bool → Prop) : Prop :=
  F_spec_copyClock c0Room c0Keys c0Used c0Hand fun copyClock9Room copyClock9Keys copyClock9Used copyClock9Hand =>
  F_spec_placeOf copyClock9Keys key1 fun placeOf13 =>
  br (decide (placeOf13 ≥ 0))
  ((0 ≤ placeOf13 ∧ placeOf13 < (copyClock9Used.length : Int)) ∧
    k copyClock9Room copyClock9Keys (List.set copyClock9Used (Int.toNat placeOf13) true) copyClock9Hand true)
  (br (decide ((copyClock9Keys.length : Int) < copyClock9Room))
    (F_spec_copyInts c0Keys fun copyInts29 =>
      (copyInts29.length + 1 ≤ 1000000000) ∧
      (0 + c0Used.length ≤ 1000000000) ∧
      (c0Used.length + 1 ≤ 1000000000) ∧
      k copyClock9Room (copyInts29 ++ ([key1] : List Int)) (c0Used ++ ([false] : List Bool)) copyClock9Hand false)
    (I0 copyClock9Keys copyClock9Room key1 copyClock9Hand copyClock9Used))
def S_spec_tick (c0Room : Int) (c0Keys : List Int) (c0Used : List Bool) (c0Hand : Int) (key1 : Int) (k : Int → List Int → List Bool → Int → Bool → Prop) : Prop := G_spec_tick c0Room c0Keys c0Used c0Hand key1 k (fun copyClock9Keys copyClock9Room key1 xb6c3 xy9 => ∃ j, L0_spec_tick copyClock9Keys copyClock9Room key1 k j xb6c3 xy9)
def F_spec_tick (room : Int) (keys : List Int) (used : List Bool) (hand key : Int) (k : Int → List Int → List Bool → Int → Bool → Prop) : Prop :=
  VClock room keys used hand ∧ k room (tickM room keys used hand key).1 (tickM room keys used hand key).2.1 (tickM room keys used hand key).2.2.1 (tickM room keys used hand key).2.2.2
theorem F_spec_tick_S {room : Int} {keys : List Int} {used : List Bool} {hand key : Int} {k : Int → List Int → List Bool → Int → Bool → Prop} (h : F_spec_tick room keys used hand key k) : S_spec_tick room keys used hand key k := by
  obtain ⟨v, hk⟩ := h
  have hv := v
  obtain ⟨⟨v1, v2, v3, v4, v5⟩, v6, v7, v8⟩ := v
  have key1 : (keys.length : Int) = room → ∀ (f : Nat) (u : List Bool) (h : Nat), u.length = keys.length → h < u.length → u.count true < f →
      k room (keys.set (sweep f u h).2 key) (sweep f u h).1 (((sweep f u h).2 + 1) % keys.length : Nat) false → L0_spec_tick keys room key k f (h : Int) u := by
    intro hr f
    induction f with
    | zero => intro u h _ _ h3; omega
    | succ f ih =>
      intro u h h1 h2 h3 h4
      unfold sweep at h4
      rw [L0_spec_tick, T0_spec_tick]
      simp only [br_iff, Int.toNat_natCast]
      refine ⟨⟨by omega, by omega⟩, fun hu => ⟨⟨by omega, by omega⟩, inR (by omega) (by omega), by omega, ?_⟩, fun hu => ⟨⟨by omega, by omega⟩, inR (by omega) (by omega), by omega, ?_⟩⟩
      · rw [if_pos hu] at h4
        have e : Int.tmod ((h : Int) + 1) room = (((h + 1) % u.length : Nat) : Int) := by rw [← hr, tmod_next, h1]
        rw [e]
        have := count_clear hu
        refine ih _ _ (by simp [h1]) (by rw [List.length_set]; exact Nat.mod_lt _ (by omega)) (by omega) h4
      · rw [if_neg (by rw [hu]; simp)] at h4
        have e : Int.tmod ((h : Int) + 1) room = (((h + 1) % keys.length : Nat) : Int) := by rw [← hr, tmod_next]
        rw [e]; exact h4
  refine ⟨⟨by omega, by omega⟩, by omega, br_dec.2 ⟨fun hp => ?_, fun hp => br_dec.2 ⟨fun hl => ?_, fun hl => ?_⟩⟩⟩
  · have hm := plc_ge.1 hp
    unfold tickM at hk
    rw [if_pos hm] at hk
    obtain ⟨j, j1, _, _, j2⟩ := plc_pos hm
    exact ⟨⟨by omega, by omega⟩, hk⟩
  · have hm : key ∉ keys := fun e => hp (plc_ge.2 e)
    unfold tickM at hk
    rw [if_neg hm, if_pos hl] at hk
    exact ⟨by omega, by omega, by omega, by omega, hk⟩
  · have hm : key ∉ keys := fun e => hp (plc_ge.2 e)
    unfold tickM at hk
    rw [if_neg hm, if_neg hl] at hk
    obtain ⟨w1, w2⟩ := v8 (by omega)
    refine ⟨used.length + 1, ?_⟩
    have := key1 (by omega) (used.length + 1) used hand.toNat v6 (by omega) (Nat.lt_succ_of_le List.count_le_length) hk
    rwa [Int.toNat_of_nonneg w1] at this
-- spec.toInt
def G_spec_toInt (b0 : Bool) (k : Int → Prop) : Prop :=
  br b0
  (k 1)
  (k 0)
def S_spec_toInt (b0 : Bool) (k : Int → Prop) : Prop := G_spec_toInt b0 k
def F_spec_toInt (b : Bool) (k : Int → Prop) : Prop := k (toI b)
theorem F_spec_toInt_S {b : Bool} {k : Int → Prop} (h : F_spec_toInt b k) : S_spec_toInt b k := by
  cases b <;> exact h
-- spec.RunClock
def T0_spec_RunClock (t0 : List Int) (xn7 : Int) (xi8 : Int) (xb6c0 : Int) (xb6c3 : Int) (xb6c1 : List Int) (xb6c2 : List Bool) (k : Int → List Int → List Bool → Int → Int → Prop) (B0 : Int → Int → Int → Int → List Int → List Bool → Prop) : Prop :=
  br (decide (xi8 < (t0.length : Int)))
  ((0 ≤ xi8 ∧ xi8 < (t0.length : Int)) ∧
    ((F_spec_tick xb6c0 xb6c1 xb6c2 xb6c3 (List.getD t0 (Int.toNat xi8) (0 : Int)) fun tick35Room tick35Keys tick35Used tick35Hand tick35r1 =>
        (F_spec_toInt tick35r1 fun toInt40 =>
          InR (xn7 + toInt40) ∧
          InR (xi8 + 1) ∧
          B0 (xn7 + toInt40) (xi8 + 1) tick35Room tick35Hand tick35Keys tick35Used) ∧
        (True)) ∧
      (True)) ∧
    (True))
  (k xb6c0 xb6c1 xb6c2 xb6c3 xn7)
def U0_spec_RunClock (t0 : List Int) (xn7 : Int) (xi8 : Int) (xb6c0 : Int) (xb6c3 : Int) (xb6c1 : List Int) (xb6c2 : List Bool) (k : Int → List Int → List Bool → Int → Int → Prop) (B0 : Int → Int → Int → Int → List Int → List Bool → Prop) : Prop :=
  br (decide (xi8 < (t0.length : Int)))
  ((0 ≤ xi8 ∧ xi8 < (t0.length : Int)) ∧
    F_spec_tick xb6c0 xb6c1 xb6c2 xb6c3 (List.getD t0 (Int.toNat xi8) (0 : Int)) fun tick35Room tick35Keys tick35Used tick35Hand tick35r1 =>
    F_spec_toInt tick35r1 fun toInt40 =>
    InR (xn7 + toInt40) ∧
    InR (xi8 + 1) ∧
    B0 (xn7 + toInt40) (xi8 + 1) tick35Room tick35Hand tick35Keys tick35Used)
  (k xb6c0 xb6c1 xb6c2 xb6c3 xn7)
theorem T0_spec_RunClock_eq (t0 : List Int) (xn7 : Int) (xi8 : Int) (xb6c0 : Int) (xb6c3 : Int) (xb6c1 : List Int) (xb6c2 : List Bool) (k : Int → List Int → List Bool → Int → Int → Prop) (B0 : Int → Int → Int → Int → List Int → List Bool → Prop) : T0_spec_RunClock t0 xn7 xi8 xb6c0 xb6c3 xb6c1 xb6c2 k B0 = U0_spec_RunClock t0 xn7 xi8 xb6c0 xb6c3 xb6c1 xb6c2 k B0 := by
  simp only [T0_spec_RunClock, U0_spec_RunClock, and_self, and_true]
def L0_spec_RunClock (t0 : List Int) (k : Int → List Int → List Bool → Int → Int → Prop) : Nat → Int → Int → Int → Int → List Int → List Bool → Prop
  | 0, _, _, _, _, _, _ => False
  | n + 1, xn7, xi8, xb6c0, xb6c3, xb6c1, xb6c2 => U0_spec_RunClock t0 xn7 xi8 xb6c0 xb6c3 xb6c1 xb6c2 k (L0_spec_RunClock t0 k n)
def G_spec_RunClock (t0 : List Int) (room1 : Int) (k : Int → List Int → List Bool → Int → Int → Prop) (I0 : List Int → Int → Int → Int → Int → List Int → List Bool → Prop) : Prop :=
  F_spec_validTrace t0 fun validTrace11 =>
  br (!validTrace11)
  (k 0 ([] : List Int) ([] : List Bool) 0 (-1))
  (F_spec_inRange room1 (1 : Int) (8 : Int) fun inRange15 =>
    br (!inRange15)
    (k 0 ([] : List Int) ([] : List Bool) 0 (-1))
    (I0 t0 0 0 room1 0 ([] : List Int) ([] : List Bool)))
def S_spec_RunClock (t0 : List Int) (room1 : Int) (k : Int → List Int → List Bool → Int → Int → Prop) : Prop := G_spec_RunClock t0 room1 k (fun t0 xn7 xi8 xb6c0 xb6c3 xb6c1 xb6c2 => ∃ j, L0_spec_RunClock t0 k j xn7 xi8 xb6c0 xb6c3 xb6c1 xb6c2)
def F_spec_RunClock (t : List Int) (room : Int) (k : Int → List Int → List Bool → Int → Int → Prop) : Prop :=
  ((VTrace t ∧ 1 ≤ room ∧ room ≤ 8) → k room (runC room t [] [] 0 0).1 (runC room t [] [] 0 0).2.1 (runC room t [] [] 0 0).2.2.1 (runC room t [] [] 0 0).2.2.2) ∧
  (¬ (VTrace t ∧ 1 ≤ room ∧ room ≤ 8) → k 0 [] [] 0 (-1))
theorem F_spec_RunClock_S {t : List Int} {room : Int} {k : Int → List Int → List Bool → Int → Int → Prop} (h : F_spec_RunClock t room k) : S_spec_RunClock t room k := by
  obtain ⟨hyes, hno⟩ := h
  intro b hb
  rw [br_not, br_iff]
  refine ⟨fun e => br_not.2 (br_dec.2 ⟨fun hr => ?_, fun hr => hno fun w => hr w.2⟩), fun e => hno fun v => by rw [hb.2 v.1] at e; cases e⟩
  have v := hb.1 e
  have hk := hyes ⟨v, hr⟩
  have t2 := v.2
  have t1 := v.1
  have key : ∀ (r : List Int) (i : Nat) (ks : List Int) (us : List Bool) (hd n : Int), t.drop i = r → VClock room ks us hd → 0 ≤ n → n ≤ i →
      k room (runC room r ks us hd n).1 (runC room r ks us hd n).2.1 (runC room r ks us hd n).2.2.1 (runC room r ks us hd n).2.2.2 → L0_spec_RunClock t k (r.length + 1) n (i : Int) room hd ks us := by
    intro r
    induction r with
    | nil =>
      intro i ks us hd n hdr v n0 n1 hk
      have := drop_nil' hdr
      rw [L0_spec_RunClock, U0_spec_RunClock]
      simp only [br_dec]
      exact ⟨fun h => by omega, fun _ => hk⟩
    | cons x r ih =>
      intro i ks us hd n hdr v n0 n1 hk
      obtain ⟨h1, h2, h5, h3, h4⟩ := drop_cons' hdr
      have hx := t2 x (List.mem_of_getElem? h5)
      rw [List.length_cons, L0_spec_RunClock, U0_spec_RunClock]
      simp only [br_dec, Int.toNat_natCast, h2]
      have := toI_01 (tickM room ks us hd x).2.2.2
      exact ⟨fun _ => ⟨⟨by omega, by omega⟩, v, inR (by omega) (by omega), inR (by omega) (by omega), ih (i + 1) _ _ _ _ h3 (tick_valid v hx) (by omega) (by omega) hk⟩, fun h => by omega⟩
  exact ⟨_, key t 0 [] [] 0 0 rfl (clock0 hr) (by omega) (by omega) hk⟩
-- laws.equalInts
def T0_laws_equalInts (a0 : List Int) (b1 : List Int) (xi5 : Int) (k : Bool → Prop) (B0 : Int → Prop) : Prop :=
  br (decide (xi5 < (a0.length : Int)))
  ((0 ≤ xi5 ∧ xi5 < (a0.length : Int)) ∧
    (0 ≤ xi5 ∧ xi5 < (b1.length : Int)) ∧
    br ((List.getD a0 (Int.toNat xi5) (0 : Int)) != (List.getD b1 (Int.toNat xi5) (0 : Int)))
    (k false)
    (InR (xi5 + 1) ∧
      B0 (xi5 + 1)))
  (k true)
def L0_laws_equalInts (a0 : List Int) (b1 : List Int) (k : Bool → Prop) : Nat → Int → Prop
  | 0, _ => False
  | n + 1, xi5 => T0_laws_equalInts a0 b1 xi5 k (L0_laws_equalInts a0 b1 k n)
def G_laws_equalInts (a0 : List Int) (b1 : List Int) (k : Bool → Prop) (I0 : List Int → List Int → Int → Prop) : Prop :=
  br ((a0.length : Int) != (b1.length : Int))
  (k false)
  (I0 a0 b1 0)
def S_laws_equalInts (a0 : List Int) (b1 : List Int) (k : Bool → Prop) : Prop := G_laws_equalInts a0 b1 k (fun a0 b1 xi5 => ∃ j, L0_laws_equalInts a0 b1 k j xi5)
def F_laws_equalInts (a b : List Int) (k : Bool → Prop) : Prop := a.length ≤ 1000000000 ∧ k (decide (a = b))
theorem F_laws_equalInts_S {a b : List Int} {k : Bool → Prop} (h : F_laws_equalInts a b k) : S_laws_equalInts a b k := by
  obtain ⟨hl, hk⟩ := h
  refine br_bne.2 ⟨fun he => by rwa [decide_eq_false (fun e => he (by rw [e]))] at hk, fun he => ?_⟩
  have he : a.length = b.length := by omega
  have key : ∀ (r : List Int) (i : Nat), a.drop i = r → (r = b.drop i ↔ a = b) → L0_laws_equalInts a b k (r.length + 1) (i : Int) := by
    intro r
    induction r with
    | nil =>
      intro i hd hi
      have := drop_nil' hd
      rw [L0_laws_equalInts, T0_laws_equalInts]
      simp only [br_dec]
      exact ⟨fun h => by omega, fun _ => by rwa [decide_eq_true (hi.1 (List.drop_eq_nil_of_le (by omega)).symm)] at hk⟩
    | cons x r ih =>
      intro i hd hi
      obtain ⟨h1, h2, _, h3, _⟩ := drop_cons' hd
      obtain ⟨y, s, hs⟩ : ∃ y s, b.drop i = y :: s := by
        cases e : b.drop i with
        | nil => have := drop_nil' e; omega
        | cons y s => exact ⟨y, s, rfl⟩
      obtain ⟨g1, g2, _, g3, _⟩ := drop_cons' hs
      rw [List.length_cons, L0_laws_equalInts, T0_laws_equalInts]
      simp only [br_dec, br_bne, Int.toNat_natCast, h2, g2]
      rw [hs] at hi
      refine ⟨fun _ => ⟨⟨by omega, by omega⟩, ⟨by omega, by omega⟩, ?_⟩, fun h => by omega⟩
      have go : x = y → L0_laws_equalInts a b k (r.length + 1) ((i : Int) + 1) := fun hx => ih (i + 1) h3 (by rw [g3, ← hi, hx]; simp)
      have no : x ≠ y → k false := fun hx => by rwa [decide_eq_false (fun e => hx (List.cons.inj (hi.2 e)).1)] at hk
      exact ⟨no, fun hx => ⟨inR (by omega) (by omega), go hx⟩⟩
  exact ⟨_, key a 0 rfl (by simp)⟩
-- laws.equalBools
def T0_laws_equalBools (a0 : List Bool) (b1 : List Bool) (xi5 : Int) (k : Bool → Prop) (B0 : Int → Prop) : Prop :=
  br (decide (xi5 < (a0.length : Int)))
  ((0 ≤ xi5 ∧ xi5 < (a0.length : Int)) ∧
    (0 ≤ xi5 ∧ xi5 < (b1.length : Int)) ∧
    br (!((List.getD a0 (Int.toNat xi5) false) == (List.getD b1 (Int.toNat xi5) false)))
    (k false)
    (InR (xi5 + 1) ∧
      B0 (xi5 + 1)))
  (k true)
def L0_laws_equalBools (a0 : List Bool) (b1 : List Bool) (k : Bool → Prop) : Nat → Int → Prop
  | 0, _ => False
  | n + 1, xi5 => T0_laws_equalBools a0 b1 xi5 k (L0_laws_equalBools a0 b1 k n)
def G_laws_equalBools (a0 : List Bool) (b1 : List Bool) (k : Bool → Prop) (I0 : List Bool → List Bool → Int → Prop) : Prop :=
  br ((a0.length : Int) != (b1.length : Int))
  (k false)
  (I0 a0 b1 0)
def S_laws_equalBools (a0 : List Bool) (b1 : List Bool) (k : Bool → Prop) : Prop := G_laws_equalBools a0 b1 k (fun a0 b1 xi5 => ∃ j, L0_laws_equalBools a0 b1 k j xi5)
def F_laws_equalBools (a b : List Bool) (k : Bool → Prop) : Prop := a.length ≤ 1000000000 ∧ k (decide (a = b))
theorem F_laws_equalBools_S {a b : List Bool} {k : Bool → Prop} (h : F_laws_equalBools a b k) : S_laws_equalBools a b k := by
  obtain ⟨hl, hk⟩ := h
  refine br_bne.2 ⟨fun he => by rwa [decide_eq_false (fun e => he (by rw [e]))] at hk, fun he => ?_⟩
  have he : a.length = b.length := by omega
  have key : ∀ (r : List Bool) (i : Nat), a.drop i = r → (r = b.drop i ↔ a = b) → L0_laws_equalBools a b k (r.length + 1) (i : Int) := by
    intro r
    induction r with
    | nil =>
      intro i hd hi
      have := drop_nil' hd
      rw [L0_laws_equalBools, T0_laws_equalBools]
      simp only [br_dec]
      exact ⟨fun h => by omega, fun _ => by rwa [decide_eq_true (hi.1 (List.drop_eq_nil_of_le (by omega)).symm)] at hk⟩
    | cons x r ih =>
      intro i hd hi
      obtain ⟨h1, h2, _, h3, _⟩ := drop_cons' hd
      obtain ⟨y, s, hs⟩ : ∃ y s, b.drop i = y :: s := by
        cases e : b.drop i with
        | nil => have := drop_nil' e; omega
        | cons y s => exact ⟨y, s, rfl⟩
      obtain ⟨g1, g2, _, g3, _⟩ := drop_cons' hs
      rw [List.length_cons, L0_laws_equalBools, T0_laws_equalBools]
      simp only [br_dec, br_not, br_bb, Int.toNat_natCast, h2, g2]
      rw [hs] at hi
      refine ⟨fun _ => ⟨⟨by omega, by omega⟩, ⟨by omega, by omega⟩, ?_⟩, fun h => by omega⟩
      have go : x = y → L0_laws_equalBools a b k (r.length + 1) ((i : Int) + 1) := fun hx => ih (i + 1) h3 (by rw [g3, ← hi, hx]; simp)
      have no : x ≠ y → k false := fun hx => by rwa [decide_eq_false (fun e => hx (List.cons.inj (hi.2 e)).1)] at hk
      exact ⟨fun hx => ⟨inR (by omega) (by omega), go hx⟩, no⟩
  exact ⟨_, key a 0 rfl (by simp)⟩
-- laws.equalClock
def G_laws_equalClock (a0Room : Int) (a0Keys : List Int) (a0Used : List Bool) (a0Hand : Int) (b1Room : Int) (b1Keys : List Int) (b1Used : List Bool) (b1Hand : Int) (k : Bool → Prop) : Prop :=
  br (a0Room == b1Room)
  (F_laws_equalInts a0Keys b1Keys fun equalInts15 =>
    br equalInts15
    (F_laws_equalBools a0Used b1Used fun equalBools22 =>
      br equalBools22
      (k (a0Hand == b1Hand))
      (k false))
    (k false))
  (k false)
def S_laws_equalClock (a0Room : Int) (a0Keys : List Int) (a0Used : List Bool) (a0Hand : Int) (b1Room : Int) (b1Keys : List Int) (b1Used : List Bool) (b1Hand : Int) (k : Bool → Prop) : Prop := G_laws_equalClock a0Room a0Keys a0Used a0Hand b1Room b1Keys b1Used b1Hand k
def F_laws_equalClock (r1 : Int) (k1 : List Int) (u1 : List Bool) (h1 r2 : Int) (k2 : List Int) (u2 : List Bool) (h2 : Int) (k : Bool → Prop) : Prop :=
  (k1.length ≤ 1000000000 ∧ u1.length ≤ 1000000000) ∧ ∀ b : Bool, (b = true ↔ r1 = r2 ∧ k1 = k2 ∧ u1 = u2 ∧ h1 = h2) → k b
theorem F_laws_equalClock_S {r1 : Int} {k1 : List Int} {u1 : List Bool} {h1 r2 : Int} {k2 : List Int} {u2 : List Bool} {h2 : Int} {k : Bool → Prop} (h : F_laws_equalClock r1 k1 u1 h1 r2 k2 u2 h2 k) : S_laws_equalClock r1 k1 u1 h1 r2 k2 u2 h2 k := by
  obtain ⟨⟨l1, l2⟩, hk⟩ := h
  refine br_beq.2 ⟨fun e1 => ⟨l1, br_dec.2 ⟨fun e2 => ⟨l2, br_dec.2 ⟨fun e3 => hk _ (by simp [e1, e2, e3]), fun e3 => hk _ (by simp [e3])⟩⟩, fun e2 => hk _ (by simp [e2])⟩⟩, fun e1 => hk _ (by simp [e1])⟩
theorem equalClock_same {r1 : Int} {k1 : List Int} {u1 : List Bool} {h1 : Int} {k : Bool → Prop} (l1 : k1.length ≤ 1000000000) (l2 : u1.length ≤ 1000000000) (h : k true) : F_laws_equalClock r1 k1 u1 h1 r1 k1 u1 h1 k :=
  ⟨⟨l1, l2⟩, all_t ⟨rfl, rfl, rfl, rfl⟩ h⟩
-- laws.FnRunClock
def G_laws_FnRunClock_j0 (runClock24Hand : Int) (runClock24Keys : List Int) (runClock24Room : Int) (runClock24Used : List Bool) (runClock24r1 : Int) (runClock30Hand : Int) (runClock30Keys : List Int) (runClock30Room : Int) (runClock30Used : List Bool) (runClock30r1 : Int) (k : Bool → Prop) : Prop :=
  F_laws_equalClock runClock24Room runClock24Keys runClock24Used runClock24Hand runClock30Room runClock30Keys runClock30Used runClock30Hand fun equalClock53 =>
  br equalClock53
  (k (runClock24r1 == runClock30r1))
  (k false)
def G_laws_FnRunClock_j1 (runClock24r1 : Int) (runClock66r1 : Int) (useClock77r1 : Bool) (k : Bool → Prop) : Prop :=
  br (!useClock77r1)
  (k (runClock24r1 == runClock66r1))
  (k false)
def G_laws_FnRunClock_j2 (runClock24Hand : Int) (runClock24Keys : List Int) (runClock24Room : Int) (runClock24Used : List Bool) (runClock24r1 : Int) (runClock66r1 : Int) (useClock77Hand : Int) (useClock77Keys : List Int) (useClock77Room : Int) (useClock77Used : List Bool) (useClock77r1 : Bool) (k : Bool → Prop) : Prop :=
  (F_laws_equalClock useClock77Room useClock77Keys useClock77Used useClock77Hand runClock24Room runClock24Keys runClock24Used runClock24Hand fun equalClock82 =>
    br equalClock82
    (br useClock77r1
      (InR (runClock66r1 + 1) ∧
        br (runClock24r1 == (runClock66r1 + 1))
        (k true)
        (G_laws_FnRunClock_j1 runClock24r1 runClock66r1 useClock77r1 k))
      (G_laws_FnRunClock_j1 runClock24r1 runClock66r1 useClock77r1 k))
    (k false)) ∧
  (True)
def G_laws_FnRunClock (code0 : List Int) (k : Bool → Prop) : Prop :=
  br (decide ((code0.length : Int) > 1048576))
  (k true)
  (F_spec_DrawRunClock code0 fun drawRunClock18r0 drawRunClock18r1 =>
    F_impl_RunClock drawRunClock18r0 drawRunClock18r1 fun runClock24Room runClock24Keys runClock24Used runClock24Hand runClock24r1 =>
    F_spec_RunClock drawRunClock18r0 drawRunClock18r1 fun runClock30Room runClock30Keys runClock30Used runClock30Hand runClock30r1 =>
    F_laws_equalClock runClock24Room runClock24Keys runClock24Used runClock24Hand runClock30Room runClock30Keys runClock30Used runClock30Hand fun equalClock35 =>
    br (!equalClock35)
    (G_laws_FnRunClock_j0 runClock24Hand runClock24Keys runClock24Room runClock24Used runClock24r1 runClock30Hand runClock30Keys runClock30Room runClock30Used runClock30r1 k)
    (br (runClock24r1 != runClock30r1)
      (G_laws_FnRunClock_j0 runClock24Hand runClock24Keys runClock24Room runClock24Used runClock24r1 runClock30Hand runClock30Keys runClock30Room runClock30Used runClock30r1 k)
      (br (decide (runClock24r1 < 0))
        (G_laws_FnRunClock_j0 runClock24Hand runClock24Keys runClock24Room runClock24Used runClock24r1 runClock30Hand runClock30Keys runClock30Room runClock30Used runClock30r1 k)
        (br ((drawRunClock18r0.length : Int) == 0)
          (G_laws_FnRunClock_j0 runClock24Hand runClock24Keys runClock24Room runClock24Used runClock24r1 runClock30Hand runClock30Keys runClock30Room runClock30Used runClock30r1 k)
          (InR ((drawRunClock18r0.length : Int) - 1) ∧
            (0 ≤ ((drawRunClock18r0.length : Int) - 1) ∧ ((drawRunClock18r0.length : Int) - 1) ≤ (drawRunClock18r0.length : Int)) ∧
            F_impl_RunClock (List.take (Int.toNat ((drawRunClock18r0.length : Int) - 1)) (List.drop 0 drawRunClock18r0)) drawRunClock18r1 fun runClock66Room runClock66Keys runClock66Used runClock66Hand runClock66r1 =>
            InR ((drawRunClock18r0.length : Int) - 1) ∧
            (0 ≤ ((drawRunClock18r0.length : Int) - 1) ∧ ((drawRunClock18r0.length : Int) - 1) < (drawRunClock18r0.length : Int)) ∧
            (F_impl_UseClock runClock66Room runClock66Keys runClock66Used runClock66Hand (List.getD drawRunClock18r0 (Int.toNat ((drawRunClock18r0.length : Int) - 1)) (0 : Int)) fun useClock77Room useClock77Keys useClock77Used useClock77Hand useClock77r1 =>
              (G_laws_FnRunClock_j2 runClock24Hand runClock24Keys runClock24Room runClock24Used runClock24r1 runClock66r1 useClock77Hand useClock77Keys useClock77Room useClock77Used useClock77r1 k) ∧
              (True)) ∧
            (((F_impl_UseClock runClock66Room runClock66Keys runClock66Used runClock66Hand (List.getD drawRunClock18r0 (Int.toNat ((drawRunClock18r0.length : Int) - 1)) (0 : Int)) fun useClock77Room useClock77Keys useClock77Used useClock77Hand useClock77r1 =>
                  G_laws_FnRunClock_j2 runClock24Hand runClock24Keys runClock24Room runClock24Used runClock24r1 runClock66r1 useClock77Hand useClock77Keys useClock77Room useClock77Used useClock77r1 k) ∧
                (True)) ∧
              (True)))))))
def H_laws_FnRunClock_j0 (runClock24Hand : Int) (runClock24Keys : List Int) (runClock24Room : Int) (runClock24Used : List Bool) (runClock24r1 : Int) (runClock30Hand : Int) (runClock30Keys : List Int) (runClock30Room : Int) (runClock30Used : List Bool) (runClock30r1 : Int) (k : Bool → Prop) : Prop :=
  F_laws_equalClock runClock24Room runClock24Keys runClock24Used runClock24Hand runClock30Room runClock30Keys runClock30Used runClock30Hand fun equalClock53 =>
  br equalClock53
  (k (runClock24r1 == runClock30r1))
  (k false)
def H_laws_FnRunClock_j1 (runClock24r1 : Int) (runClock66r1 : Int) (useClock77r1 : Bool) (k : Bool → Prop) : Prop :=
  br (!useClock77r1)
  (k (runClock24r1 == runClock66r1))
  (k false)
def H_laws_FnRunClock (code0 : List Int) (k : Bool → Prop) : Prop :=
  br (decide ((code0.length : Int) > 1048576))
  (k true)
  (F_spec_DrawRunClock code0 fun drawRunClock18r0 drawRunClock18r1 =>
    F_impl_RunClock drawRunClock18r0 drawRunClock18r1 fun runClock24Room runClock24Keys runClock24Used runClock24Hand runClock24r1 =>
    F_spec_RunClock drawRunClock18r0 drawRunClock18r1 fun runClock30Room runClock30Keys runClock30Used runClock30Hand runClock30r1 =>
    F_laws_equalClock runClock24Room runClock24Keys runClock24Used runClock24Hand runClock30Room runClock30Keys runClock30Used runClock30Hand fun equalClock35 =>
    br (!equalClock35)
    (H_laws_FnRunClock_j0 runClock24Hand runClock24Keys runClock24Room runClock24Used runClock24r1 runClock30Hand runClock30Keys runClock30Room runClock30Used runClock30r1 k)
    (br (runClock24r1 != runClock30r1)
      (H_laws_FnRunClock_j0 runClock24Hand runClock24Keys runClock24Room runClock24Used runClock24r1 runClock30Hand runClock30Keys runClock30Room runClock30Used runClock30r1 k)
      (br (decide (runClock24r1 < 0))
        (H_laws_FnRunClock_j0 runClock24Hand runClock24Keys runClock24Room runClock24Used runClock24r1 runClock30Hand runClock30Keys runClock30Room runClock30Used runClock30r1 k)
        (br ((drawRunClock18r0.length : Int) == 0)
          (H_laws_FnRunClock_j0 runClock24Hand runClock24Keys runClock24Room runClock24Used runClock24r1 runClock30Hand runClock30Keys runClock30Room runClock30Used runClock30r1 k)
          (InR ((drawRunClock18r0.length : Int) - 1) ∧
            (0 ≤ ((drawRunClock18r0.length : Int) - 1) ∧ ((drawRunClock18r0.length : Int) - 1) ≤ (drawRunClock18r0.length : Int)) ∧
            F_impl_RunClock (List.take (Int.toNat ((drawRunClock18r0.length : Int) - 1)) (List.drop 0 drawRunClock18r0)) drawRunClock18r1 fun runClock66Room runClock66Keys runClock66Used runClock66Hand runClock66r1 =>
            InR ((drawRunClock18r0.length : Int) - 1) ∧
            (0 ≤ ((drawRunClock18r0.length : Int) - 1) ∧ ((drawRunClock18r0.length : Int) - 1) < (drawRunClock18r0.length : Int)) ∧
            F_impl_UseClock runClock66Room runClock66Keys runClock66Used runClock66Hand (List.getD drawRunClock18r0 (Int.toNat ((drawRunClock18r0.length : Int) - 1)) (0 : Int)) fun useClock77Room useClock77Keys useClock77Used useClock77Hand useClock77r1 =>
            F_laws_equalClock useClock77Room useClock77Keys useClock77Used useClock77Hand runClock24Room runClock24Keys runClock24Used runClock24Hand fun equalClock82 =>
            br equalClock82
            (br useClock77r1
              (InR (runClock66r1 + 1) ∧
                br (runClock24r1 == (runClock66r1 + 1))
                (k true)
                (H_laws_FnRunClock_j1 runClock24r1 runClock66r1 useClock77r1 k))
              (H_laws_FnRunClock_j1 runClock24r1 runClock66r1 useClock77r1 k))
            (k false))))))
theorem G_laws_FnRunClock_eq (code0 : List Int) (k : Bool → Prop) : G_laws_FnRunClock code0 k = H_laws_FnRunClock code0 k := by
  simp only [G_laws_FnRunClock, H_laws_FnRunClock, G_laws_FnRunClock_j0, G_laws_FnRunClock_j1, G_laws_FnRunClock_j2, H_laws_FnRunClock_j0, H_laws_FnRunClock_j1, and_self, and_true]
def S_laws_FnRunClock (code0 : List Int) (k : Bool → Prop) : Prop := H_laws_FnRunClock code0 k
abbrev F_laws_FnRunClock (code0 : List Int) (k : Bool → Prop) : Prop := S_laws_FnRunClock code0 k
theorem F_laws_FnRunClock_S {code0 : List Int} {k : Bool → Prop} (h : F_laws_FnRunClock code0 k) : S_laws_FnRunClock code0 k := h
theorem law_FnRunClock (code : List Int) (hb : ∀ x ∈ code, 0 ≤ x ∧ x ≤ 255) : F_laws_FnRunClock code (fun r => r = true) := by
  refine br_dec.2 ⟨fun _ => rfl, fun hlen => ⟨hb, fun t room l1 => ?_⟩⟩
  by_cases v : VTrace t ∧ 1 ≤ room ∧ room ≤ 8
  · refine ⟨fun _ => ⟨fun _ => ?_, fun h => absurd v h⟩, fun h => absurd v h⟩
    have hv := runC_valid t [] [] 0 0 (clock0 v.2) v.1.2
    obtain ⟨r1, r2, r3⟩ := id hv
    have hl : (runC room t [] [] 0 0).1.length ≤ 1000000000 ∧ (runC room t [] [] 0 0).2.1.length ≤ 1000000000 := by
      have := r1.1.2.1; have := r1.1.2.2.1; have := r1.2.1
      omega
    refine equalClock_same hl.1 hl.2 (br_nt (br_same' (br_dec.2 ⟨fun h => by omega, fun _ => br_beq.2 ⟨fun h => equalClock_same hl.1 hl.2 (beq_self_eq_true _), fun h => ?_⟩⟩)))
    have hs := split_last (t := t) (by omega)
    have hlt : t.length ≤ 24 := v.1.1
    refine ⟨inR (by omega) (by omega), ⟨by omega, by omega⟩, ?_⟩
    try rw [List.drop_zero]
    generalize hx : t.getD ((t.length : Int) - 1).toNat 0 = x at hs ⊢
    generalize hu : t.take ((t.length : Int) - 1).toNat = u at hs ⊢
    have hut : VTrace u := by
      rw [← hu]
      exact ⟨by simp; omega, fun y hy => v.1.2 y (List.mem_of_mem_take hy)⟩
    have hxr : 0 ≤ x ∧ x ≤ 31 := v.1.2 x (by rw [← hs]; simp)
    obtain ⟨s1, s2, s3⟩ := runC_valid u [] [] 0 0 (clock0 v.2) hut.2
    refine ⟨fun _ => ⟨inR (by omega) (by omega), ⟨by omega, by omega⟩, fun _ => ?_, fun h => absurd ⟨s1, hxr⟩ h⟩, fun h => absurd ⟨hut, v.2⟩ h⟩
    have happ := runC_append room x u [] [] 0 0
    rw [hs] at happ
    simp only [runC] at happ
    have hut1 := hut.1
    rw [happ] at hl ⊢
    refine equalClock_same hl.1 hl.2 ?_
    generalize (runC room u [] [] 0 0).2.2.2 = m at *
    generalize (tickM room _ _ _ x).2.2.2 = hit
    show br hit _ _
    cases hit with
    | true => exact ⟨inR (by omega) (by omega), br_beq.2 ⟨fun _ => rfl, fun h => absurd rfl h⟩⟩
    | false => exact (show (m + 0 == m) = true by simp)
  · refine ⟨fun h => absurd h v, fun _ => ⟨fun h => absurd h v, fun _ => ?_⟩⟩
    exact equalClock_same (by simp) (by simp) (br_nt (br_same' (br_dec.2 ⟨fun _ => equalClock_same (by simp) (by simp) rfl, fun h => by omega⟩)))
end Go.Ev
