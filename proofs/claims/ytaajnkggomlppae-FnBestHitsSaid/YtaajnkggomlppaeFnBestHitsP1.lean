/- What the functions that the law reaches do, written as plain Lean. No statement is proved here. -/
import Derived.Test.YtaajnkggomlppaeFnBestHitsP0
namespace Go.Ev
set_option linter.unusedVariables false
open Go
def F_impl_UseFirst (l : List Int) (room key : Int) (k : List Int → Bool → Prop) : Prop :=
  (VKeys l room ∧ 0 ≤ key ∧ key ≤ 31 → k (firM l room key) (decide (key ∈ l))) ∧ (¬ (VKeys l room ∧ 0 ≤ key ∧ key ≤ 31) → k [] false)
theorem F_impl_UseFirst_S {l : List Int} {room key : Int} {k : List Int → Bool → Prop} (h : F_impl_UseFirst l room key k) : S_impl_UseFirst l room key k := by
  obtain ⟨hyes, hno⟩ := h
  intro b hb
  rw [br_not, br_iff]
  refine ⟨fun e => br_not.2 (br_dec.2 ⟨fun hkey => ?_, fun hkey => hno fun w => hkey w.2⟩), fun e => hno fun w => by rw [hb.2 w.1] at e; cases e⟩
  have v := hb.1 e
  have hk := hyes ⟨v, hkey⟩
  obtain ⟨v1, v2, v3, v4, v5⟩ := v
  unfold firM at hk
  refine ⟨by omega, by omega, br_dec.2 ⟨fun hm => ?_, fun hm => ?_⟩⟩
  · rw [if_pos hm, decide_eq_true hm] at hk; exact hk
  · rw [if_neg hm, decide_eq_false hm] at hk
    have hlen : (l ++ [key]).length = l.length + 1 := by simp
    have hX : (if (((List.length (l ++ ([key] : List Int))) : Int) - room) < 0 then (0 : Int) else (((List.length (l ++ ([key] : List Int))) : Int) - room)).toNat = l.length + 1 - room.toNat := by
      rw [hlen]; split <;> omega
    refine ⟨by omega, inR (by omega) (by omega), ⟨?_, ?_⟩, ?_⟩
    · split <;> omega
    · split <;> omega
    · rw [hX, List.take_of_length_le (by simp)]; exact hk
-- impl.runTrace$1
def G_impl_runTrace_1_UseFirst (list0 : List Int) (key1 : Int) (cap1 : Int) (k : List Int → Bool → Prop) : Prop :=
  F_impl_UseFirst list0 cap1 key1 fun useFirst12r0 useFirst12r1 =>
  k useFirst12r0 useFirst12r1
def S_impl_runTrace_1_UseFirst (list0 : List Int) (key1 : Int) (cap1 : Int) (k : List Int → Bool → Prop) : Prop := G_impl_runTrace_1_UseFirst list0 key1 cap1 k
abbrev F_impl_runTrace_1_UseFirst (list0 : List Int) (key1 : Int) (cap1 : Int) (k : List Int → Bool → Prop) : Prop := S_impl_runTrace_1_UseFirst list0 key1 cap1 k
theorem F_impl_runTrace_1_UseFirst_S {list0 : List Int} {key1 : Int} {cap1 : Int} {k : List Int → Bool → Prop} (h : F_impl_runTrace_1_UseFirst list0 key1 cap1 k) : S_impl_runTrace_1_UseFirst list0 key1 cap1 k := h
-- impl.useAll[[]int]
def T0_impl_useAll_sint_runTrace_1_UseFirst (t0 : List Int) (use2c1 : Int) (xt14 : Int) (xhits8 : Int) (xt15 : Int) (xcache1 : List Int) (k : List Int → Int → Prop) (B0 : Int → Int → List Int → Prop) : Prop :=
  br (decide (xt15 < xt14))
  ((0 ≤ xt15 ∧ xt15 < (t0.length : Int)) ∧
    F_impl_runTrace_1_UseFirst xcache1 (List.getD t0 (Int.toNat xt15) (0 : Int)) use2c1 fun runTrace123r0 runTrace123r1 =>
    br runTrace123r1
    (InR (xhits8 + 1) ∧
      InR (xt15 + 1) ∧
      B0 (xhits8 + 1) (xt15 + 1) runTrace123r0)
    (InR (xt15 + 1) ∧
      B0 xhits8 (xt15 + 1) runTrace123r0))
  (k xcache1 xhits8)
def L0_impl_useAll_sint_runTrace_1_UseFirst (t0 : List Int) (use2c1 : Int) (xt14 : Int) (k : List Int → Int → Prop) : Nat → Int → Int → List Int → Prop
  | 0, _, _, _ => False
  | n + 1, xhits8, xt15, xcache1 => T0_impl_useAll_sint_runTrace_1_UseFirst t0 use2c1 xt14 xhits8 xt15 xcache1 k (L0_impl_useAll_sint_runTrace_1_UseFirst t0 use2c1 xt14 k n)
def G_impl_useAll_sint_runTrace_1_UseFirst (t0 : List Int) (cache1 : List Int) (use2c1 : Int) (I0 : List Int → Int → Int → Int → Int → List Int → Prop) : Prop :=
  I0 t0 use2c1 (t0.length : Int) 0 0 cache1
def S_impl_useAll_sint_runTrace_1_UseFirst (t0 : List Int) (cache1 : List Int) (use2c1 : Int) (k : List Int → Int → Prop) : Prop := G_impl_useAll_sint_runTrace_1_UseFirst t0 cache1 use2c1 (fun t0 use2c1 xt14 xhits8 xt15 xcache1 => ∃ j, L0_impl_useAll_sint_runTrace_1_UseFirst t0 use2c1 xt14 k j xhits8 xt15 xcache1)
def F_impl_useAll_sint_runTrace_1_UseFirst (t l : List Int) (room : Int) (k : List Int → Int → Prop) : Prop := (VTrace t ∧ VKeys l room) ∧ k (runF room t l 0).1 (runF room t l 0).2
theorem F_impl_useAll_sint_runTrace_1_UseFirst_S {t l : List Int} {room : Int} {k : List Int → Int → Prop} (h : F_impl_useAll_sint_runTrace_1_UseFirst t l room k) : S_impl_useAll_sint_runTrace_1_UseFirst t l room k := by
  obtain ⟨⟨⟨t1, t2⟩, v⟩, hk⟩ := h
  have key : ∀ (r : List Int) (i : Nat) (l : List Int) (n : Int), t.drop i = r → VKeys l room → 0 ≤ n → n ≤ i → k (runF room r l n).1 (runF room r l n).2 → L0_impl_useAll_sint_runTrace_1_UseFirst t room (t.length : Int) k (r.length + 1) n (i : Int) l := by
    intro r
    induction r with
    | nil =>
      intro i l n hdr v n0 n1 hk
      have := drop_nil' hdr
      rw [L0_impl_useAll_sint_runTrace_1_UseFirst, T0_impl_useAll_sint_runTrace_1_UseFirst]
      simp only [br_dec]
      exact ⟨fun h => by omega, fun _ => hk⟩
    | cons x r ih =>
      intro i l n hdr v n0 n1 hk
      obtain ⟨h1, h2, h5, h3, h4⟩ := drop_cons' hdr
      have hx := t2 x (List.mem_of_getElem? h5)
      rw [List.length_cons, L0_impl_useAll_sint_runTrace_1_UseFirst, T0_impl_useAll_sint_runTrace_1_UseFirst]
      simp only [br_dec, Int.toNat_natCast, h2]
      refine ⟨fun _ => ⟨⟨by omega, by omega⟩, fun _ => ?_, fun hv => absurd ⟨v, hx⟩ hv⟩, fun h => by omega⟩
      rw [runF] at hk
      show br (decide (x ∈ l)) _ _
      rw [br_iff]
      refine ⟨fun e => ⟨inR (by omega) (by omega), inR (by omega) (by omega), ?_⟩, fun e => ⟨inR (by omega) (by omega), ?_⟩⟩
      · rw [e] at hk
        exact ih (i + 1) _ _ h3 (firM_valid v hx) (by omega) (by omega) hk
      · rw [e] at hk
        rw [show n + toI false = n by simp [toI]] at hk
        exact ih (i + 1) _ _ h3 (firM_valid v hx) (by omega) (by omega) hk
  exact ⟨_, key t 0 l 0 rfl v (by omega) (by omega) hk⟩
-- impl.runTrace
def G_impl_runTrace_UseFirst (t0 : List Int) (room1 : Int) (k : List Int → Int → Prop) : Prop :=
  F_impl_ValidTrace t0 fun validTrace9 =>
  br (!validTrace9)
  (k ([] : List Int) (-1))
  (F_impl_validRoom room1 fun validRoom13 =>
    br (!validRoom13)
    (k ([] : List Int) (-1))
    (F_impl_useAll_sint_runTrace_1_UseFirst t0 ([] : List Int) room1 fun useAll19r0 useAll19r1 =>
      k useAll19r0 useAll19r1))
def S_impl_runTrace_UseFirst (t0 : List Int) (room1 : Int) (k : List Int → Int → Prop) : Prop := G_impl_runTrace_UseFirst t0 room1 k
def F_impl_runTrace_UseFirst (t : List Int) (room : Int) (k : List Int → Int → Prop) : Prop :=
  ((VTrace t ∧ 1 ≤ room ∧ room ≤ 8) → k (runF room t [] 0).1 (runF room t [] 0).2) ∧ (¬ (VTrace t ∧ 1 ≤ room ∧ room ≤ 8) → k [] (-1))
theorem F_impl_runTrace_UseFirst_S {t : List Int} {room : Int} {k : List Int → Int → Prop} (h : F_impl_runTrace_UseFirst t room k) : S_impl_runTrace_UseFirst t room k := by
  obtain ⟨hyes, hno⟩ := h
  intro b hb
  rw [br_not, br_iff]
  refine ⟨fun e => br_not.2 (br_dec.2 ⟨fun hr => ?_, fun hr => hno fun w => hr w.2⟩), fun e => hno fun v => by rw [hb.2 v.1] at e; cases e⟩
  have v := hb.1 e
  exact ⟨⟨v, keys0 hr⟩, hyes ⟨v, hr⟩⟩
-- impl.RunFirst
def G_impl_RunFirst (t0 : List Int) (room1 : Int) (k : List Int → Int → Prop) : Prop :=
  F_impl_runTrace_UseFirst t0 room1 fun runTrace8r0 runTrace8r1 =>
  k runTrace8r0 runTrace8r1
def S_impl_RunFirst (t0 : List Int) (room1 : Int) (k : List Int → Int → Prop) : Prop := G_impl_RunFirst t0 room1 k
def F_impl_RunFirst (t : List Int) (room : Int) (k : List Int → Int → Prop) : Prop :=
  ((VTrace t ∧ 1 ≤ room ∧ room ≤ 8) → k (runF room t [] 0).1 (runF room t [] 0).2) ∧ (¬ (VTrace t ∧ 1 ≤ room ∧ room ≤ 8) → k [] (-1))
theorem F_impl_RunFirst_S {t : List Int} {room : Int} {k : List Int → Int → Prop} (h : F_impl_RunFirst t room k) : S_impl_RunFirst t room k := h
-- impl.ValidClock
def G_impl_ValidClock (c0Room : Int) (c0Keys : List Int) (c0Used : List Bool) (c0Hand : Int) (k : Bool → Prop) : Prop :=
  F_impl_ValidKeys c0Keys c0Room fun validKeys7 =>
  br (!validKeys7)
  (k false)
  (br ((c0Used.length : Int) != (c0Keys.length : Int))
    (k false)
    (br (decide ((c0Keys.length : Int) < c0Room))
      (k (c0Hand == 0))
      (br (decide (0 ≤ c0Hand))
        (k (decide (c0Hand < (c0Keys.length : Int))))
        (k false))))
def S_impl_ValidClock (c0Room : Int) (c0Keys : List Int) (c0Used : List Bool) (c0Hand : Int) (k : Bool → Prop) : Prop := G_impl_ValidClock c0Room c0Keys c0Used c0Hand k
def F_impl_ValidClock (room : Int) (keys : List Int) (used : List Bool) (hand : Int) (k : Bool → Prop) : Prop := ∀ b : Bool, (b = true ↔ VClock room keys used hand) → k b
theorem F_impl_ValidClock_S {room : Int} {keys : List Int} {used : List Bool} {hand : Int} {k : Bool → Prop} (h : F_impl_ValidClock room keys used hand k) : S_impl_ValidClock room keys used hand k := by
  have hno : ¬ VClock room keys used hand → k false := fun hv => h false (by simp [hv])
  simp only [S_impl_ValidClock, G_impl_ValidClock, F_impl_ValidKeys]
  intro b hb
  rw [br_not, br_iff]
  refine ⟨fun e => ?_, fun e => hno fun v => by rw [hb.2 v.1] at e; cases e⟩
  have hv := hb.1 e
  refine br_bne.2 ⟨fun h2 => hno fun v => h2 (by rw [v.2.1]), fun h2 => br_dec.2 ⟨fun h3 => h _ ?_, fun h3 => br_dec.2 ⟨fun h4 => h _ ?_, fun h4 => hno fun v => h4 ?_⟩⟩⟩
  · simp only [beq_iff_eq]
    exact ⟨fun e => ⟨hv, by omega, fun _ => e, fun h => by omega⟩, fun v => v.2.2.1 h3⟩
  · simp only [decide_eq_true_eq]
    have := hv.2.2.1
    exact ⟨fun e => ⟨hv, by omega, fun h => absurd h h3, fun _ => ⟨h4, e⟩⟩, fun v => (v.2.2.2 (by omega)).2⟩
  · have := hv.2.2.1
    exact (v.2.2.2 (by omega)).1
-- impl.nextPlace
def G_impl_nextPlace (c0Room : Int) (c0Keys : List Int) (c0Used : List Bool) (c0Hand : Int) (k : Int → Prop) : Prop :=
  InR (c0Hand + 1) ∧
  ((c0Keys.length : Int) ≠ 0) ∧
  k (Int.tmod (c0Hand + 1) (c0Keys.length : Int))
def S_impl_nextPlace (c0Room : Int) (c0Keys : List Int) (c0Used : List Bool) (c0Hand : Int) (k : Int → Prop) : Prop := G_impl_nextPlace c0Room c0Keys c0Used c0Hand k
abbrev F_impl_nextPlace (c0Room : Int) (c0Keys : List Int) (c0Used : List Bool) (c0Hand : Int) (k : Int → Prop) : Prop := S_impl_nextPlace c0Room c0Keys c0Used c0Hand k
theorem F_impl_nextPlace_S {c0Room : Int} {c0Keys : List Int} {c0Used : List Bool} {c0Hand : Int} {k : Int → Prop} (h : F_impl_nextPlace c0Room c0Keys c0Used c0Hand k) : S_impl_nextPlace c0Room c0Keys c0Used c0Hand k := h
-- impl.UseClock
def T0_impl_UseClock (c0Keys : List Int) (c0Room : Int) (key1 : Int) (xb6c3 : Int) (xy26 : List Bool) (k : Int → List Int → List Bool → Int → Bool → Prop) (B0 : Int → List Bool → Prop) : Prop :=
  (0 ≤ xb6c3 ∧ xb6c3 < (xy26.length : Int)) ∧
  br (List.getD xy26 (Int.toNat xb6c3) false)
  ((0 ≤ xb6c3 ∧ xb6c3 < (xy26.length : Int)) ∧
    F_impl_nextPlace c0Room c0Keys (List.set xy26 (Int.toNat xb6c3) false) xb6c3 fun nextPlace71 =>
    B0 nextPlace71 (List.set xy26 (Int.toNat xb6c3) false))
  ((0 ≤ xb6c3 ∧ xb6c3 < (c0Keys.length : Int)) ∧
    F_impl_nextPlace c0Room (List.set c0Keys (Int.toNat xb6c3) key1) xy26 xb6c3 fun nextPlace80 =>
    k c0Room (List.set c0Keys (Int.toNat xb6c3) key1) xy26 nextPlace80 false)
def L0_impl_UseClock (c0Keys : List Int) (c0Room : Int) (key1 : Int) (k : Int → List Int → List Bool → Int → Bool → Prop) : Nat → Int → List Bool → Prop
  | 0, _, _ => False
  | n + 1, xb6c3, xy26 => T0_impl_UseClock c0Keys c0Room key1 xb6c3 xy26 k (L0_impl_UseClock c0Keys c0Room key1 k n)
def G_impl_UseClock_j0 (c0Hand : Int) (c0Keys : List Int) (c0Room : Int) (c0Used : List Bool) (key1 : Int) (k : Int → List Int → List Bool → Int → Bool → Prop) (I0 : List Int → Int → Int → Int → List Bool → Prop) : Prop :=
  (F_slices_Index_sint_int c0Keys key1 fun index33 =>
    br (decide (index33 ≥ 0))
    ((0 ≤ index33 ∧ index33 < (c0Used.length : Int)) ∧
      k c0Room c0Keys (List.set c0Used (Int.toNat index33) true) c0Hand true)
    (br (decide ((c0Keys.length : Int) < c0Room))
      ((c0Keys.length + 1 ≤ 1000000000) ∧
        (c0Used.length + 1 ≤ 1000000000) ∧
        k c0Room (c0Keys ++ ([key1] : List Int)) (c0Used ++ ([false] : List Bool)) c0Hand false)
      (I0 c0Keys c0Room key1 c0Hand c0Used))) ∧
  (True)
def G_impl_UseClock_j1 (c0Hand : Int) (c0Keys : List Int) (c0Room : Int) (c0Used : List Bool) (key1 : Int) (k : Int → List Int → List Bool → Int → Bool → Prop) (I0 : List Int → Int → Int → Int → List Bool → Prop) : Prop :=
  ((0 + c0Used.length ≤ 1000000000) ∧
    G_impl_UseClock_j0 c0Hand c0Keys c0Room c0Used key1 k I0) ∧
  (True)
def G_impl_UseClock_j2 (c0Hand : Int) (c0Keys : List Int) (c0Room : Int) (c0Used : List Bool) (key1 : Int) (k : Int → List Int → List Bool → Int → Bool → Prop) (I0 : List Int → Int → Int → Int → List Bool → Prop) : Prop :=
  (G_impl_UseClock_j1 c0Hand c0Keys c0Room c0Used key1 k I0) ∧
  (True)
def G_impl_UseClock_j3 (c0Hand : Int) (c0Keys : List Int) (c0Room : Int) (c0Used : List Bool) (key1 : Int) (k : Int → List Int → List Bool → Int → Bool → Prop) (I0 : List Int → Int → Int → Int → List Bool → Prop) : Prop :=
  ((0 + c0Used.length ≤ 1000000000) ∧
    (G_impl_UseClock_j0 c0Hand c0Keys c0Room c0Used key1 k I0) ∧
    (True)) ∧
  (G_impl_UseClock_j2 c0Hand c0Keys c0Room c0Used key1 k I0)
def G_impl_UseClock_j4 (c0Hand : Int) (c0Keys : List Int) (c0Room : Int) (c0Used : List Bool) (key1 : Int) (k : Int → List Int → List Bool → Int → Bool → Prop) (I0 : List Int → Int → Int → Int → List Bool → Prop) : Prop :=
  (((0 + c0Keys.length ≤ 1000000000) ∧
      G_impl_UseClock_j1 c0Hand c0Keys c0Room c0Used key1 k I0) ∧
    (True)) ∧
  (True)
def G_impl_UseClock_j5 (c0Hand : Int) (c0Keys : List Int) (c0Room : Int) (c0Used : List Bool) (key1 : Int) (k : Int → List Int → List Bool → Int → Bool → Prop) (I0 : List Int → Int → Int → Int → List Bool → Prop) : Prop :=
  ((0 + c0Keys.length ≤ 1000000000) ∧
    G_impl_UseClock_j3 c0Hand c0Keys c0Room c0Used key1 k I0) ∧
  (G_impl_UseClock_j4 c0Hand c0Keys c0Room c0Used key1 k I0)
def G_impl_UseClock_j6 (c0Hand : Int) (c0Keys : List Int) (c0Room : Int) (c0Used : List Bool) (key1 : Int) (k : Int → List Int → List Bool → Int → Bool → Prop) (I0 : List Int → Int → Int → Int → List Bool → Prop) : Prop :=
  ((0 + c0Keys.length ≤ 1000000000) ∧
    G_impl_UseClock_j2 c0Hand c0Keys c0Room c0Used key1 k I0) ∧
  (G_impl_UseClock_j4 c0Hand c0Keys c0Room c0Used key1 k I0)
def G_impl_UseClock_j7 (c0Hand : Int) (c0Keys : List Int) (c0Room : Int) (c0Used : List Bool) (key1 : Int) (k : Int → List Int → List Bool → Int → Bool → Prop) (I0 : List Int → Int → Int → Int → List Bool → Prop) : Prop :=
  (G_impl_UseClock_j4 c0Hand c0Keys c0Room c0Used key1 k I0) ∧
  (True)
def G_impl_UseClock (c0Room : Int) (c0Keys : List Int) (c0Used : List Bool) (c0Hand : Int) (key1 : Int) (k : Int → List Int → List Bool → Int → Bool → Prop) (I0 : List Int → Int → Int → Int → List Bool → Prop) : Prop :=
  F_impl_ValidClock c0Room c0Keys c0Used c0Hand fun validClock9 =>
  br (!validClock9)
  (k 0 ([] : List Int) ([] : List Bool) 0 false)
  (F_impl_validKey key1 fun validKey13 =>
    br (!validKey13)
    (k 0 ([] : List Int) ([] : List Bool) 0 false)
    ((((0 + c0Keys.length ≤ 1000000000) ∧
          (G_impl_UseClock_j3 c0Hand c0Keys c0Room c0Used key1 k I0) ∧
          ((G_impl_UseClock_j2 c0Hand c0Keys c0Room c0Used key1 k I0) ∧
            (True))) ∧
        ((G_impl_UseClock_j5 c0Hand c0Keys c0Room c0Used key1 k I0) ∧
          ((G_impl_UseClock_j6 c0Hand c0Keys c0Room c0Used key1 k I0) ∧
            (True)))) ∧
      (((G_impl_UseClock_j5 c0Hand c0Keys c0Room c0Used key1 k I0) ∧
          (G_impl_UseClock_j7 c0Hand c0Keys c0Room c0Used key1 k I0)) ∧
        (((G_impl_UseClock_j6 c0Hand c0Keys c0Room c0Used key1 k I0) ∧
            (G_impl_UseClock_j7 c0Hand c0Keys c0Room c0Used key1 k I0)) ∧
          (True)))))
def H_impl_UseClock (c0Room : Int) (c0Keys : List Int) (c0Used : List Bool) (c0Hand : Int) (key1 : Int) (k : Int → List Int → List Bool → Int → Bool → Prop) (I0 : List Int → Int → Int → Int → List Bool → Prop) : Prop :=
  F_impl_ValidClock c0Room c0Keys c0Used c0Hand fun validClock9 =>
  br (!validClock9)
  (k 0 ([] : List Int) ([] : List Bool) 0 false)
  (F_impl_validKey key1 fun validKey13 =>
    br (!validKey13)
    (k 0 ([] : List Int) ([] : List Bool) 0 false)
    ((0 + c0Keys.length ≤ 1000000000) ∧
      (0 + c0Used.length ≤ 1000000000) ∧
      F_slices_Index_sint_int c0Keys key1 fun index33 =>
      br (decide (index33 ≥ 0))
      ((0 ≤ index33 ∧ index33 < (c0Used.length : Int)) ∧
        k c0Room c0Keys (List.set c0Used (Int.toNat index33) true) c0Hand true)
      (br (decide ((c0Keys.length : Int) < c0Room))
        ((c0Keys.length + 1 ≤ 1000000000) ∧
          (c0Used.length + 1 ≤ 1000000000) ∧
          k c0Room (c0Keys ++ ([key1] : List Int)) (c0Used ++ ([false] : List Bool)) c0Hand false)
        (I0 c0Keys c0Room key1 c0Hand c0Used))))
theorem G_impl_UseClock_eq (c0Room : Int) (c0Keys : List Int) (c0Used : List Bool) (c0Hand : Int) (key1 : Int) (k : Int → List Int → List Bool → Int → Bool → Prop) (I0 : List Int → Int → Int → Int → List Bool → Prop) : G_impl_UseClock c0Room c0Keys c0Used c0Hand key1 k I0 = H_impl_UseClock c0Room c0Keys c0Used c0Hand key1 k I0 := by
  first
  | (simp only [G_impl_UseClock, H_impl_UseClock, G_impl_UseClock_j0, G_impl_UseClock_j1, G_impl_UseClock_j2, G_impl_UseClock_j3, G_impl_UseClock_j4, G_impl_UseClock_j5, G_impl_UseClock_j6, G_impl_UseClock_j7, and_self, and_true]; done)
  | (simp only [G_impl_UseClock, H_impl_UseClock, G_impl_UseClock_j0, G_impl_UseClock_j1, G_impl_UseClock_j2, G_impl_UseClock_j3, G_impl_UseClock_j4, G_impl_UseClock_j5, G_impl_UseClock_j6, G_impl_UseClock_j7, and_self, and_true, and_self_left, and_assoc]; refine propext ⟨fun h => ?_, fun h => ?_⟩ <;> (repeat (cases ‹_ ∧ _›)) <;> (repeat' (apply And.intro)) <;> assumption)
def S_impl_UseClock (c0Room : Int) (c0Keys : List Int) (c0Used : List Bool) (c0Hand : Int) (key1 : Int) (k : Int → List Int → List Bool → Int → Bool → Prop) : Prop := H_impl_UseClock c0Room c0Keys c0Used c0Hand key1 k (fun c0Keys c0Room key1 xb6c3 xy26 => ∃ j, L0_impl_UseClock c0Keys c0Room key1 k j xb6c3 xy26)
def F_impl_UseClock (room : Int) (keys : List Int) (used : List Bool) (hand key : Int) (k : Int → List Int → List Bool → Int → Bool → Prop) : Prop :=
  ((VClock room keys used hand ∧ 0 ≤ key ∧ key ≤ 31) → k room (tickM room keys used hand key).1 (tickM room keys used hand key).2.1 (tickM room keys used hand key).2.2.1 (tickM room keys used hand key).2.2.2) ∧
  (¬ (VClock room keys used hand ∧ 0 ≤ key ∧ key ≤ 31) → k 0 [] [] 0 false)
theorem F_impl_UseClock_S {room : Int} {keys : List Int} {used : List Bool} {hand key : Int} {k : Int → List Int → List Bool → Int → Bool → Prop} (h : F_impl_UseClock room keys used hand key k) : S_impl_UseClock room keys used hand key k := by
  obtain ⟨hyes, hno⟩ := h
  intro b hb
  rw [br_not, br_iff]
  refine ⟨fun e => br_not.2 (br_dec.2 ⟨fun hkey => ?_, fun hkey => hno fun w => hkey w.2⟩), fun e => hno fun w => by rw [hb.2 w.1] at e; cases e⟩
  have v := hb.1 e
  have hk := hyes ⟨v, hkey⟩
  obtain ⟨⟨v1, v2, v3, v4, v5⟩, v6, v7, v8⟩ := v
  have key1 : (keys.length : Int) = room → ∀ (f : Nat) (u : List Bool) (h : Nat), u.length = keys.length → h < u.length → u.count true < f →
      k room (keys.set (sweep f u h).2 key) (sweep f u h).1 (((sweep f u h).2 + 1) % keys.length : Nat) false → L0_impl_UseClock keys room key k f (h : Int) u := by
    intro hr f
    induction f with
    | zero => intro u h _ _ h3; omega
    | succ f ih =>
      intro u h h1 h2 h3 h4
      unfold sweep at h4
      rw [L0_impl_UseClock, T0_impl_UseClock]
      simp only [br_iff, Int.toNat_natCast]
      refine ⟨⟨by omega, by omega⟩, fun hu => ⟨⟨by omega, by omega⟩, inR (by omega) (by omega), by omega, ?_⟩, fun hu => ⟨⟨by omega, by omega⟩, inR (by omega) (by omega), by rw [List.length_set]; omega, ?_⟩⟩
      · rw [if_pos hu] at h4
        rw [tmod_next, ← h1]
        have := count_clear hu
        refine ih _ _ (by simp [h1]) (by rw [List.length_set]; exact Nat.mod_lt _ (by omega)) (by omega) h4
      · rw [if_neg (by rw [hu]; simp)] at h4
        rw [List.length_set, tmod_next]
        exact h4
  refine ⟨by omega, by omega, by omega, br_dec.2 ⟨fun hp => ?_, fun hp => br_dec.2 ⟨fun hl => ?_, fun hl => ?_⟩⟩⟩
  · have hm := plc_ge.1 hp
    unfold tickM at hk
    rw [if_pos hm] at hk
    obtain ⟨j, j1, _, _, j2⟩ := plc_pos hm
    exact ⟨⟨by omega, by omega⟩, hk⟩
  · have hm : key ∉ keys := fun e => hp (plc_ge.2 e)
    unfold tickM at hk
    rw [if_neg hm, if_pos hl] at hk
    exact ⟨by omega, by omega, hk⟩
  · have hm : key ∉ keys := fun e => hp (plc_ge.2 e)
    unfold tickM at hk
    rw [if_neg hm, if_neg hl] at hk
    obtain ⟨w1, w2⟩ := v8 (by omega)
    refine ⟨used.length + 1, ?_⟩
    have := key1 (by omega) (used.length + 1) used hand.toNat v6 (by omega) (Nat.lt_succ_of_le List.count_le_length) hk
    rwa [Int.toNat_of_nonneg w1] at this
-- impl.useAll[impl.Clock]
def T0_impl_useAll_Clock_UseClock (t0 : List Int) (xt14 : Int) (xhits8 : Int) (xt15 : Int) (xb4c0 : Int) (xb4c3 : Int) (xb4c1 : List Int) (xb4c2 : List Bool) (k : Int → List Int → List Bool → Int → Int → Prop) (B0 : Int → Int → Int → Int → List Int → List Bool → Prop) : Prop :=
  br (decide (xt15 < xt14))
  ((0 ≤ xt15 ∧ xt15 < (t0.length : Int)) ∧
    F_impl_UseClock xb4c0 xb4c1 xb4c2 xb4c3 (List.getD t0 (Int.toNat xt15) (0 : Int)) fun useClock23Room useClock23Keys useClock23Used useClock23Hand useClock23r1 =>
    br useClock23r1
    (InR (xhits8 + 1) ∧
      InR (xt15 + 1) ∧
      B0 (xhits8 + 1) (xt15 + 1) useClock23Room useClock23Hand useClock23Keys useClock23Used)
    (InR (xt15 + 1) ∧
      B0 xhits8 (xt15 + 1) useClock23Room useClock23Hand useClock23Keys useClock23Used))
  (k xb4c0 xb4c1 xb4c2 xb4c3 xhits8)
def L0_impl_useAll_Clock_UseClock (t0 : List Int) (xt14 : Int) (k : Int → List Int → List Bool → Int → Int → Prop) : Nat → Int → Int → Int → Int → List Int → List Bool → Prop
  | 0, _, _, _, _, _, _ => False
  | n + 1, xhits8, xt15, xb4c0, xb4c3, xb4c1, xb4c2 => T0_impl_useAll_Clock_UseClock t0 xt14 xhits8 xt15 xb4c0 xb4c3 xb4c1 xb4c2 k (L0_impl_useAll_Clock_UseClock t0 xt14 k n)
def G_impl_useAll_Clock_UseClock (t0 : List Int) (cache1Room : Int) (cache1Keys : List Int) (cache1Used : List Bool) (cache1Hand : Int) (I0 : List Int → Int → Int → Int → Int → Int → List Int → List Bool → Prop) : Prop :=
  I0 t0 (t0.length : Int) 0 0 cache1Room cache1Hand cache1Keys cache1Used
def S_impl_useAll_Clock_UseClock (t0 : List Int) (cache1Room : Int) (cache1Keys : List Int) (cache1Used : List Bool) (cache1Hand : Int) (k : Int → List Int → List Bool → Int → Int → Prop) : Prop := G_impl_useAll_Clock_UseClock t0 cache1Room cache1Keys cache1Used cache1Hand (fun t0 xt14 xhits8 xt15 xb4c0 xb4c3 xb4c1 xb4c2 => ∃ j, L0_impl_useAll_Clock_UseClock t0 xt14 k j xhits8 xt15 xb4c0 xb4c3 xb4c1 xb4c2)
def F_impl_useAll_Clock_UseClock (t : List Int) (room : Int) (keys : List Int) (used : List Bool) (hand : Int) (k : Int → List Int → List Bool → Int → Int → Prop) : Prop :=
  (VTrace t ∧ VClock room keys used hand) ∧ k room (runC room t keys used hand 0).1 (runC room t keys used hand 0).2.1 (runC room t keys used hand 0).2.2.1 (runC room t keys used hand 0).2.2.2
theorem F_impl_useAll_Clock_UseClock_S {t : List Int} {room : Int} {keys : List Int} {used : List Bool} {hand : Int} {k : Int → List Int → List Bool → Int → Int → Prop} (h : F_impl_useAll_Clock_UseClock t room keys used hand k) : S_impl_useAll_Clock_UseClock t room keys used hand k := by
  obtain ⟨⟨⟨t1, t2⟩, v⟩, hk⟩ := h
  have key : ∀ (r : List Int) (i : Nat) (ks : List Int) (us : List Bool) (hd n : Int), t.drop i = r → VClock room ks us hd → 0 ≤ n → n ≤ i →
      k room (runC room r ks us hd n).1 (runC room r ks us hd n).2.1 (runC room r ks us hd n).2.2.1 (runC room r ks us hd n).2.2.2 → L0_impl_useAll_Clock_UseClock t (t.length : Int) k (r.length + 1) n (i : Int) room hd ks us := by
    intro r
    induction r with
    | nil =>
      intro i ks us hd n hdr v n0 n1 hk
      have := drop_nil' hdr
      rw [L0_impl_useAll_Clock_UseClock, T0_impl_useAll_Clock_UseClock]
      simp only [br_dec]
      exact ⟨fun h => by omega, fun _ => hk⟩
    | cons x r ih =>
      intro i ks us hd n hdr v n0 n1 hk
      obtain ⟨h1, h2, h5, h3, h4⟩ := drop_cons' hdr
      have hx := t2 x (List.mem_of_getElem? h5)
      rw [List.length_cons, L0_impl_useAll_Clock_UseClock, T0_impl_useAll_Clock_UseClock]
      simp only [br_dec, Int.toNat_natCast, h2]
      refine ⟨fun _ => ⟨⟨by omega, by omega⟩, fun _ => ?_, fun hv => absurd ⟨v, hx⟩ hv⟩, fun h => by omega⟩
      rw [runC] at hk
      rw [br_iff]
      refine ⟨fun e => ⟨inR (by omega) (by omega), inR (by omega) (by omega), ?_⟩, fun e => ⟨inR (by omega) (by omega), ?_⟩⟩
      · rw [e] at hk
        exact ih (i + 1) _ _ _ _ h3 (tick_valid v hx) (by omega) (by omega) hk
      · rw [e] at hk
        rw [show n + toI false = n by simp [toI]] at hk
        exact ih (i + 1) _ _ _ _ h3 (tick_valid v hx) (by omega) (by omega) hk
  exact ⟨_, key t 0 keys used hand 0 rfl v (by omega) (by omega) hk⟩
-- impl.RunClock
def G_impl_RunClock (t0 : List Int) (room1 : Int) (k : Int → List Int → List Bool → Int → Int → Prop) : Prop :=
  F_impl_ValidTrace t0 fun validTrace7 =>
  br (!validTrace7)
  (k 0 ([] : List Int) ([] : List Bool) 0 (-1))
  (F_impl_validRoom room1 fun validRoom11 =>
    br (!validRoom11)
    (k 0 ([] : List Int) ([] : List Bool) 0 (-1))
    (F_impl_useAll_Clock_UseClock t0 room1 ([] : List Int) ([] : List Bool) (0 : Int) fun useAll18Room useAll18Keys useAll18Used useAll18Hand useAll18r1 =>
      k useAll18Room useAll18Keys useAll18Used useAll18Hand useAll18r1))
def S_impl_RunClock (t0 : List Int) (room1 : Int) (k : Int → List Int → List Bool → Int → Int → Prop) : Prop := G_impl_RunClock t0 room1 k
def F_impl_RunClock (t : List Int) (room : Int) (k : Int → List Int → List Bool → Int → Int → Prop) : Prop :=
  ((VTrace t ∧ 1 ≤ room ∧ room ≤ 8) → k room (runC room t [] [] 0 0).1 (runC room t [] [] 0 0).2.1 (runC room t [] [] 0 0).2.2.1 (runC room t [] [] 0 0).2.2.2) ∧
  (¬ (VTrace t ∧ 1 ≤ room ∧ room ≤ 8) → k 0 [] [] 0 (-1))
theorem F_impl_RunClock_S {t : List Int} {room : Int} {k : Int → List Int → List Bool → Int → Int → Prop} (h : F_impl_RunClock t room k) : S_impl_RunClock t room k := by
  obtain ⟨hyes, hno⟩ := h
  intro b hb
  rw [br_not, br_iff]
  refine ⟨fun e => br_not.2 (br_dec.2 ⟨fun hr => ?_, fun hr => hno fun w => hr w.2⟩), fun e => hno fun v => by rw [hb.2 v.1] at e; cases e⟩
  have v := hb.1 e
  exact ⟨⟨v, clock0 hr⟩, hyes ⟨v, hr⟩⟩
-- impl.validTime
def G_impl_validTime (time0 : Int) (k : Bool → Prop) : Prop :=
  br (decide (0 ≤ time0))
  (k (decide (time0 ≤ 1000)))
  (k false)
def S_impl_validTime (time0 : Int) (k : Bool → Prop) : Prop := G_impl_validTime time0 k
def F_impl_validTime (n : Int) (k : Bool → Prop) : Prop := k (decide (0 ≤ n ∧ n ≤ 1000))
theorem F_impl_validTime_S {n : Int} {k : Bool → Prop} (h : F_impl_validTime n k) : S_impl_validTime n k := by
  unfold F_impl_validTime at h
  simp only [S_impl_validTime, G_impl_validTime, br_dec]
  refine ⟨fun h1 => ?_, fun h1 => ?_⟩
  · simpa [h1] using h
  · simpa [h1] using h
-- impl.validEntry
def G_impl_validEntry (e0Key : Int) (e0Count : Int) (e0Last : Int) (k : Bool → Prop) : Prop :=
  F_impl_validKey e0Key fun validKey5 =>
  br validKey5
  (br (decide (1 ≤ e0Count))
    (br (decide (e0Count ≤ 100))
      (F_impl_validTime e0Last fun validTime19 =>
        k validTime19)
      (k false))
    (k false))
  (k false)
def S_impl_validEntry (e0Key : Int) (e0Count : Int) (e0Last : Int) (k : Bool → Prop) : Prop := G_impl_validEntry e0Key e0Count e0Last k
def F_impl_validEntry (a b c : Int) (k : Bool → Prop) : Prop := ∀ r : Bool, (r = true ↔ EntR (a, b, c)) → k r
theorem F_impl_validEntry_S {a b c : Int} {k : Bool → Prop} (h : F_impl_validEntry a b c k) : S_impl_validEntry a b c k := by
  have hno : ¬ EntR (a, b, c) → k false := fun hv => h false (by simp [hv])
  refine br_dec.2 ⟨fun h1 => br_dec.2 ⟨fun h2 => br_dec.2 ⟨fun h3 => ?_, fun h3 => hno fun v => h3 v.2.1.2⟩, fun h2 => hno fun v => h2 v.2.1.1⟩, fun h1 => hno fun v => h1 v.1⟩
  refine h _ ⟨fun e => ?_, fun e => ?_⟩
  · have := of_decide_eq_true e
    exact ⟨h1, ⟨h2, h3⟩, this.1, this.2⟩
  · exact decide_eq_true ⟨e.2.2.1, e.2.2.2⟩
-- (impl.Entry).collides
def G_impl_Entry_collides (e0Key : Int) (e0Count : Int) (e0Last : Int) (other1Key : Int) (other1Count : Int) (other1Last : Int) (k : Bool → Prop) : Prop :=
  br (e0Key == other1Key)
  (k true)
  (k (e0Last == other1Last))
def S_impl_Entry_collides (e0Key : Int) (e0Count : Int) (e0Last : Int) (other1Key : Int) (other1Count : Int) (other1Last : Int) (k : Bool → Prop) : Prop := G_impl_Entry_collides e0Key e0Count e0Last other1Key other1Count other1Last k
def F_impl_Entry_collides (a1 a2 a3 b1 b2 b3 : Int) (k : Bool → Prop) : Prop := k (decide (a1 = b1 ∨ a3 = b3))
theorem F_impl_Entry_collides_S {a1 a2 a3 b1 b2 b3 : Int} {k : Bool → Prop} (h : F_impl_Entry_collides a1 a2 a3 b1 b2 b3 k) : S_impl_Entry_collides a1 a2 a3 b1 b2 b3 k := by
  unfold F_impl_Entry_collides at h
  refine br_beq.2 ⟨fun h1 => ?_, fun h1 => ?_⟩
  · simpa [h1] using h
  · have : (a3 == b3) = decide (a1 = b1 ∨ a3 = b3) := by simp [h1]; rfl
    rw [this]; exact h
-- slices.IndexFunc[[]impl.Entry,impl.Entry]
def T0_slices_IndexFunc_Entry_Entry_Entry_collides (f1fa00 : Int) (f1fa01 : Int) (f1fa02 : Int) (s0 : List (Int × Int × Int)) (xt7 : Int) (xt8 : Int) (k : Int → Prop) (B0 : Int → Prop) : Prop :=
  br (decide (xt8 < xt7))
  ((0 ≤ xt8 ∧ xt8 < (s0.length : Int)) ∧
    F_impl_Entry_collides f1fa00 f1fa01 f1fa02 (List.getD s0 (Int.toNat xt8) ((0 : Int), (0 : Int), (0 : Int))).1 (List.getD s0 (Int.toNat xt8) ((0 : Int), (0 : Int), (0 : Int))).2.1 (List.getD s0 (Int.toNat xt8) ((0 : Int), (0 : Int), (0 : Int))).2.2 fun collides16 =>
    br collides16
    (k xt8)
    (InR (xt8 + 1) ∧
      B0 (xt8 + 1)))
  (k (-1))
def L0_slices_IndexFunc_Entry_Entry_Entry_collides (f1fa00 : Int) (f1fa01 : Int) (f1fa02 : Int) (s0 : List (Int × Int × Int)) (xt7 : Int) (k : Int → Prop) : Nat → Int → Prop
  | 0, _ => False
  | n + 1, xt8 => T0_slices_IndexFunc_Entry_Entry_Entry_collides f1fa00 f1fa01 f1fa02 s0 xt7 xt8 k (L0_slices_IndexFunc_Entry_Entry_Entry_collides f1fa00 f1fa01 f1fa02 s0 xt7 k n)
def G_slices_IndexFunc_Entry_Entry_Entry_collides (s0 : List (Int × Int × Int)) (f1fa00 : Int) (f1fa01 : Int) (f1fa02 : Int) (I0 : Int → Int → Int → List (Int × Int × Int) → Int → Int → Prop) : Prop :=
  I0 f1fa00 f1fa01 f1fa02 s0 (s0.length : Int) 0
def S_slices_IndexFunc_Entry_Entry_Entry_collides (s0 : List (Int × Int × Int)) (f1fa00 : Int) (f1fa01 : Int) (f1fa02 : Int) (k : Int → Prop) : Prop := G_slices_IndexFunc_Entry_Entry_Entry_collides s0 f1fa00 f1fa01 f1fa02 (fun f1fa00 f1fa01 f1fa02 s0 xt7 xt8 => ∃ j, L0_slices_IndexFunc_Entry_Entry_Entry_collides f1fa00 f1fa01 f1fa02 s0 xt7 k j xt8)
def F_slices_IndexFunc_Entry_Entry_Entry_collides (l : List Ent) (a b c : Int) (k : Int → Prop) : Prop := l.length ≤ 1000000000 ∧ ∀ r : Int, (0 ≤ r ↔ ∃ e ∈ l, a = e.1 ∨ c = e.2.2) → k r
theorem F_slices_IndexFunc_Entry_Entry_Entry_collides_S {l : List Ent} {a b c : Int} {k : Int → Prop} (h : F_slices_IndexFunc_Entry_Entry_Entry_collides l a b c k) : S_slices_IndexFunc_Entry_Entry_Entry_collides l a b c k := by
  obtain ⟨hl, hk⟩ := h
  have key : ∀ (r : List Ent) (i : Nat), l.drop i = r → (∀ e ∈ l.take i, ¬ (a = e.1 ∨ c = e.2.2)) → L0_slices_IndexFunc_Entry_Entry_Entry_collides a b c l (l.length : Int) k (r.length + 1) (i : Int) := by
    intro r
    induction r with
    | nil =>
      intro i hd hn
      have hi := drop_nil' hd
      rw [List.take_of_length_le hi] at hn
      rw [L0_slices_IndexFunc_Entry_Entry_Entry_collides, T0_slices_IndexFunc_Entry_Entry_Entry_collides]
      simp only [br_dec]
      exact ⟨fun h => by omega, fun _ => hk _ ⟨fun h => by omega, fun ⟨e, h1, h2⟩ => absurd h2 (hn e h1)⟩⟩
    | cons x r ih =>
      intro i hd hn
      obtain ⟨h1, h2, h5, h3, h4⟩ := drop_cons' hd
      rw [List.length_cons, L0_slices_IndexFunc_Entry_Entry_Entry_collides, T0_slices_IndexFunc_Entry_Entry_Entry_collides]
      simp only [br_dec, F_impl_Entry_collides, Int.toNat_natCast, h2]
      refine ⟨fun _ => ⟨⟨by omega, by omega⟩, fun hc => hk _ ⟨fun _ => ⟨x, List.mem_of_getElem? h5, hc⟩, fun _ => by omega⟩, fun hc => ⟨inR (by omega) (by omega), ih (i + 1) h3 fun e he => ?_⟩⟩, fun h => by omega⟩
      rw [h4] at he
      rcases List.mem_append.1 he with h | h
      · exact hn e h
      · rw [List.mem_singleton.1 h]; exact hc
  exact ⟨_, key l 0 rfl (by simp)⟩
-- slices.ContainsFunc[[]impl.Entry,impl.Entry]
def G_slices_ContainsFunc_Entry_Entry_Entry_collides (s0 : List (Int × Int × Int)) (f1fa00 : Int) (f1fa01 : Int) (f1fa02 : Int) (k : Bool → Prop) : Prop :=
  F_slices_IndexFunc_Entry_Entry_Entry_collides s0 f1fa00 f1fa01 f1fa02 fun indexFunc7 =>
  k (decide (indexFunc7 ≥ 0))
def S_slices_ContainsFunc_Entry_Entry_Entry_collides (s0 : List (Int × Int × Int)) (f1fa00 : Int) (f1fa01 : Int) (f1fa02 : Int) (k : Bool → Prop) : Prop := G_slices_ContainsFunc_Entry_Entry_Entry_collides s0 f1fa00 f1fa01 f1fa02 k
def F_slices_ContainsFunc_Entry_Entry_Entry_collides (l : List Ent) (a b c : Int) (k : Bool → Prop) : Prop := l.length ≤ 1000000000 ∧ ∀ r : Bool, (r = true ↔ ∃ e ∈ l, a = e.1 ∨ c = e.2.2) → k r
theorem F_slices_ContainsFunc_Entry_Entry_Entry_collides_S {l : List Ent} {a b c : Int} {k : Bool → Prop} (h : F_slices_ContainsFunc_Entry_Entry_Entry_collides l a b c k) : S_slices_ContainsFunc_Entry_Entry_Entry_collides l a b c k :=
  ⟨h.1, fun r hr => h.2 _ (by simpa using hr)⟩
-- impl.ValidEntries
def T0_impl_ValidEntries (list0 : List (Int × Int × Int)) (xt17 : Int) (xt18 : Int) (k : Bool → Prop) (B0 : Int → Prop) : Prop :=
  br (decide (xt18 < xt17))
  ((0 ≤ xt18 ∧ xt18 < (list0.length : Int)) ∧
    (F_impl_validEntry (List.getD list0 (Int.toNat xt18) ((0 : Int), (0 : Int), (0 : Int))).1 (List.getD list0 (Int.toNat xt18) ((0 : Int), (0 : Int), (0 : Int))).2.1 (List.getD list0 (Int.toNat xt18) ((0 : Int), (0 : Int), (0 : Int))).2.2 fun validEntry24 =>
      br (!validEntry24)
      ((k false) ∧
        (True))
      ((0 ≤ xt18 ∧ xt18 ≤ (list0.length : Int)) ∧
        (F_slices_ContainsFunc_Entry_Entry_Entry_collides (List.take (Int.toNat xt18) list0) (List.getD list0 (Int.toNat xt18) ((0 : Int), (0 : Int), (0 : Int))).1 (List.getD list0 (Int.toNat xt18) ((0 : Int), (0 : Int), (0 : Int))).2.1 (List.getD list0 (Int.toNat xt18) ((0 : Int), (0 : Int), (0 : Int))).2.2 fun containsFunc32 =>
          br containsFunc32
          (k false)
          (InR (xt18 + 1) ∧
            B0 (xt18 + 1))) ∧
        (True))) ∧
    (True))
  (k true)
def U0_impl_ValidEntries (list0 : List (Int × Int × Int)) (xt17 : Int) (xt18 : Int) (k : Bool → Prop) (B0 : Int → Prop) : Prop :=
  br (decide (xt18 < xt17))
  ((0 ≤ xt18 ∧ xt18 < (list0.length : Int)) ∧
    F_impl_validEntry (List.getD list0 (Int.toNat xt18) ((0 : Int), (0 : Int), (0 : Int))).1 (List.getD list0 (Int.toNat xt18) ((0 : Int), (0 : Int), (0 : Int))).2.1 (List.getD list0 (Int.toNat xt18) ((0 : Int), (0 : Int), (0 : Int))).2.2 fun validEntry24 =>
    br (!validEntry24)
    (k false)
    ((0 ≤ xt18 ∧ xt18 ≤ (list0.length : Int)) ∧
      F_slices_ContainsFunc_Entry_Entry_Entry_collides (List.take (Int.toNat xt18) list0) (List.getD list0 (Int.toNat xt18) ((0 : Int), (0 : Int), (0 : Int))).1 (List.getD list0 (Int.toNat xt18) ((0 : Int), (0 : Int), (0 : Int))).2.1 (List.getD list0 (Int.toNat xt18) ((0 : Int), (0 : Int), (0 : Int))).2.2 fun containsFunc32 =>
      br containsFunc32
      (k false)
      (InR (xt18 + 1) ∧
        B0 (xt18 + 1))))
  (k true)
theorem T0_impl_ValidEntries_eq (list0 : List (Int × Int × Int)) (xt17 : Int) (xt18 : Int) (k : Bool → Prop) (B0 : Int → Prop) : T0_impl_ValidEntries list0 xt17 xt18 k B0 = U0_impl_ValidEntries list0 xt17 xt18 k B0 := by
  first
  | (simp only [T0_impl_ValidEntries, U0_impl_ValidEntries, and_self, and_true]; done)
  | (simp only [T0_impl_ValidEntries, U0_impl_ValidEntries, and_self, and_true, and_self_left, and_assoc]; refine propext ⟨fun h => ?_, fun h => ?_⟩ <;> (repeat (cases ‹_ ∧ _›)) <;> (repeat' (apply And.intro)) <;> assumption)
def L0_impl_ValidEntries (list0 : List (Int × Int × Int)) (xt17 : Int) (k : Bool → Prop) : Nat → Int → Prop
  | 0, _ => False
  | n + 1, xt18 => U0_impl_ValidEntries list0 xt17 xt18 k (L0_impl_ValidEntries list0 xt17 k n)
def G_impl_ValidEntries (list0 : List (Int × Int × Int)) (room1 : Int) (k : Bool → Prop) (I0 : List (Int × Int × Int) → Int → Int → Prop) : Prop :=
  F_impl_validRoom room1 fun validRoom8 =>
  br (!validRoom8)
  (k false)
  (br (decide ((list0.length : Int) > room1))
    (k false)
    (I0 list0 (list0.length : Int) 0))
def S_impl_ValidEntries (list0 : List (Int × Int × Int)) (room1 : Int) (k : Bool → Prop) : Prop := G_impl_ValidEntries list0 room1 k (fun list0 xt17 xt18 => ∃ j, L0_impl_ValidEntries list0 xt17 k j xt18)
def F_impl_ValidEntries (l : List Ent) (room : Int) (k : Bool → Prop) : Prop := l.length ≤ 1000000000 ∧ ∀ b : Bool, (b = true ↔ VEnt l room) → k b
theorem F_impl_ValidEntries_S {l : List Ent} {room : Int} {k : Bool → Prop} (h : F_impl_ValidEntries l room k) : S_impl_ValidEntries l room k := by
  obtain ⟨hl, h⟩ := h
  have hno : ¬ VEnt l room → k false := fun hv => h false (by simp [hv])
  have key : (1 ≤ room ∧ room ≤ 8) → (l.length : Int) ≤ room → ∀ (r : List Ent) (i : Nat), l.drop i = r → PEnt (l.take i) → L0_impl_ValidEntries l (l.length : Int) k (r.length + 1) (i : Int) := by
    intro g1 g3 r
    induction r with
    | nil =>
      intro i hd hp
      have hi := drop_nil' hd
      rw [List.take_of_length_le hi] at hp
      rw [L0_impl_ValidEntries, U0_impl_ValidEntries]
      simp only [br_dec]
      exact ⟨fun h => by omega, fun _ => h true (by simp only [true_iff]; exact ⟨g1, g3, hp⟩)⟩
    | cons x r ih =>
      intro i hd hp
      obtain ⟨h1, h2, h5, h3, h4⟩ := drop_cons' hd
      have hxl : x ∈ l := List.mem_of_getElem? h5
      rw [List.length_cons, L0_impl_ValidEntries, U0_impl_ValidEntries]
      simp only [br_dec, Int.toNat_natCast, h2]
      refine ⟨fun _ => ⟨⟨by omega, by omega⟩, fun b hb => ?_⟩, fun h => by omega⟩
      refine br_not.2 (br_iff.2 ⟨fun e => ⟨⟨by omega, by omega⟩, by simp; omega, fun c hc => ?_⟩, fun e => hno fun v => by rw [hb.2 (v.2.2.1 x hxl)] at e; cases e⟩)
      refine br_iff.2 ⟨fun ec => hno fun v => ?_, fun ec => ⟨inR (by omega) (by omega), ih (i + 1) h3 ?_⟩⟩
      · obtain ⟨y, hy, hyx⟩ := hc.1 ec
        have hsplit : l = l.take i ++ x :: r := by rw [← hd, List.take_append_drop]
        have hn1 := v.2.2.2.1
        have hn2 := v.2.2.2.2
        rw [hsplit, List.map_append, List.nodup_append] at hn1 hn2
        rcases hyx with e1 | e1
        · exact hn1.2.2 _ (List.mem_map.2 ⟨y, hy, rfl⟩) x.1 (by simp) e1.symm
        · exact hn2.2.2 _ (List.mem_map.2 ⟨y, hy, rfl⟩) x.2.2 (by simp) e1.symm
      · rw [h4]
        refine hp.snoc (hb.1 e) fun y hy => ⟨fun c => ?_, fun c => ?_⟩
        · rw [hc.2 ⟨y, hy, .inl c.symm⟩] at ec; cases ec
        · rw [hc.2 ⟨y, hy, .inr c.symm⟩] at ec; cases ec
  show br (!decide (1 ≤ room ∧ room ≤ 8)) _ _
  rw [br_not]
  refine br_dec.2 ⟨fun h1 => br_dec.2 ⟨fun h3 => hno fun v => by have := v.2.1; omega, fun h3 => ?_⟩, fun h1 => hno fun v => h1 v.1⟩
  exact ⟨_, key h1 (by omega) l 0 rfl ⟨by simp, by simp, by simp⟩⟩
-- cmp.isNaN[int]
def G_cmp_isNaN_int (x0 : Int) (k : Bool → Prop) : Prop :=
  k (x0 != x0)
def S_cmp_isNaN_int (x0 : Int) (k : Bool → Prop) : Prop := G_cmp_isNaN_int x0 k
abbrev F_cmp_isNaN_int (x0 : Int) (k : Bool → Prop) : Prop := S_cmp_isNaN_int x0 k
theorem F_cmp_isNaN_int_S {x0 : Int} {k : Bool → Prop} (h : F_cmp_isNaN_int x0 k) : S_cmp_isNaN_int x0 k := h
-- cmp.Compare[int]
def G_cmp_Compare_int (x0 : Int) (y1 : Int) (k : Int → Prop) : Prop :=
  F_cmp_isNaN_int x0 fun isNaN8 =>
  F_cmp_isNaN_int y1 fun isNaN10 =>
  br isNaN8
  (br isNaN10
    (k 0)
    (k (-1)))
  (br isNaN10
    (k 1)
    (br (decide (x0 < y1))
      (k (-1))
      (br (decide (x0 > y1))
        (k 1)
        (k 0))))
def S_cmp_Compare_int (x0 : Int) (y1 : Int) (k : Int → Prop) : Prop := G_cmp_Compare_int x0 y1 k
def F_cmp_Compare_int (x y : Int) (k : Int → Prop) : Prop := k (cmpI x y)
theorem F_cmp_Compare_int_S {x y : Int} {k : Int → Prop} (h : F_cmp_Compare_int x y k) : S_cmp_Compare_int x y k := by
  unfold F_cmp_Compare_int cmpI at h
  show br (x != x) (br (y != y) _ _) (br (y != y) _ _)
  rw [bne_self_eq_false, bne_self_eq_false, br_f, br_f]
  refine br_dec.2 ⟨fun h1 => ?_, fun h1 => br_dec.2 ⟨fun h2 => ?_, fun h2 => ?_⟩⟩
  · rwa [if_pos h1] at h
  · rwa [if_neg h1, if_pos (show y < x from h2)] at h
  · rwa [if_neg h1, if_neg (show ¬ y < x from h2)] at h
-- cmp.Or[int]
def T0_cmp_Or_int (vals0 : List Int) (xt7 : Int) (xt8 : Int) (k : Int → Prop) (B0 : Int → Prop) : Prop :=
  br (decide (xt8 < xt7))
  ((0 ≤ xt8 ∧ xt8 < (vals0.length : Int)) ∧
    br ((List.getD vals0 (Int.toNat xt8) (0 : Int)) != 0)
    (k (List.getD vals0 (Int.toNat xt8) (0 : Int)))
    (InR (xt8 + 1) ∧
      B0 (xt8 + 1)))
  (k 0)
def L0_cmp_Or_int (vals0 : List Int) (xt7 : Int) (k : Int → Prop) : Nat → Int → Prop
  | 0, _ => False
  | n + 1, xt8 => T0_cmp_Or_int vals0 xt7 xt8 k (L0_cmp_Or_int vals0 xt7 k n)
def G_cmp_Or_int (vals0 : List Int) (I0 : List Int → Int → Int → Prop) : Prop :=
  I0 vals0 (vals0.length : Int) 0
def S_cmp_Or_int (vals0 : List Int) (k : Int → Prop) : Prop := G_cmp_Or_int vals0 (fun vals0 xt7 xt8 => ∃ j, L0_cmp_Or_int vals0 xt7 k j xt8)
def F_cmp_Or_int (l : List Int) (k : Int → Prop) : Prop := l.length ≤ 1000000000 ∧ k (orI l)
theorem F_cmp_Or_int_S {l : List Int} {k : Int → Prop} (h : F_cmp_Or_int l k) : S_cmp_Or_int l k := by
  obtain ⟨hl, hk⟩ := h
  have key : ∀ (r : List Int) (i : Nat), l.drop i = r → orI r = orI l → L0_cmp_Or_int l (l.length : Int) k (r.length + 1) (i : Int) := by
    intro r
    induction r with
    | nil =>
      intro i hd he
      have := drop_nil' hd
      rw [L0_cmp_Or_int, T0_cmp_Or_int]
      simp only [br_dec]
      exact ⟨fun h => by omega, fun _ => by rw [show (0 : Int) = orI l from he]; exact hk⟩
    | cons x r ih =>
      intro i hd he
      obtain ⟨h1, h2, _, h3, _⟩ := drop_cons' hd
      rw [List.length_cons, L0_cmp_Or_int, T0_cmp_Or_int]
      simp only [br_dec, br_bne, Int.toNat_natCast, h2]
      refine ⟨fun _ => ⟨⟨by omega, by omega⟩, fun hx => ?_, fun hx => ⟨inR (by omega) (by omega), ?_⟩⟩, fun h => by omega⟩
      · simp only [orI, if_pos hx] at he; rw [he]; exact hk
      · rw [orI, if_neg (by simpa using hx)] at he; exact ih (i + 1) h3 he
  exact ⟨_, key l 0 rfl rfl⟩
-- impl.rarestEntry$1
def G_impl_rarestEntry_1 (a0Key : Int) (a0Count : Int) (a0Last : Int) (b1Key : Int) (b1Count : Int) (b1Last : Int) (k : Int → Prop) : Prop :=
  (F_cmp_Compare_int a0Count b1Count fun compare9 =>
    (F_cmp_Compare_int a0Last b1Last fun compare14 =>
      ((F_cmp_Or_int ([compare9, compare14] : List Int) fun or16 =>
          k or16) ∧
        (True)) ∧
      (True)) ∧
    (True)) ∧
  (True)
def H_impl_rarestEntry_1 (a0Key : Int) (a0Count : Int) (a0Last : Int) (b1Key : Int) (b1Count : Int) (b1Last : Int) (k : Int → Prop) : Prop :=
  F_cmp_Compare_int a0Count b1Count fun compare9 =>
  F_cmp_Compare_int a0Last b1Last fun compare14 =>
  F_cmp_Or_int ([compare9, compare14] : List Int) fun or16 =>
  k or16
theorem G_impl_rarestEntry_1_eq (a0Key : Int) (a0Count : Int) (a0Last : Int) (b1Key : Int) (b1Count : Int) (b1Last : Int) (k : Int → Prop) : G_impl_rarestEntry_1 a0Key a0Count a0Last b1Key b1Count b1Last k = H_impl_rarestEntry_1 a0Key a0Count a0Last b1Key b1Count b1Last k := by
  first
  | (simp only [G_impl_rarestEntry_1, H_impl_rarestEntry_1, and_self, and_true]; done)
  | (simp only [G_impl_rarestEntry_1, H_impl_rarestEntry_1, and_self, and_true, and_self_left, and_assoc]; refine propext ⟨fun h => ?_, fun h => ?_⟩ <;> (repeat (cases ‹_ ∧ _›)) <;> (repeat' (apply And.intro)) <;> assumption)
def S_impl_rarestEntry_1 (a0Key : Int) (a0Count : Int) (a0Last : Int) (b1Key : Int) (b1Count : Int) (b1Last : Int) (k : Int → Prop) : Prop := H_impl_rarestEntry_1 a0Key a0Count a0Last b1Key b1Count b1Last k
def F_impl_rarestEntry_1 (a1 a2 a3 b1 b2 b3 : Int) (k : Int → Prop) : Prop := ∀ n : Int, (n < 0 ↔ Rar (a1, a2, a3) (b1, b2, b3)) → k n
theorem F_impl_rarestEntry_1_S {a1 a2 a3 b1 b2 b3 : Int} {k : Int → Prop} (h : F_impl_rarestEntry_1 a1 a2 a3 b1 b2 b3 k) : S_impl_rarestEntry_1 a1 a2 a3 b1 b2 b3 k := by
  refine ⟨by simp, h _ ?_⟩
  rw [← cmpI_rar (a1 := a1) (a3 := a3) (b1 := b1)]
  simp only [orI]
  by_cases h1 : cmpI a2 b2 ≠ 0
  · rw [if_pos h1, if_pos h1]
  · rw [if_neg h1, if_neg h1]
    by_cases h2 : cmpI a3 b3 ≠ 0
    · rw [if_pos h2]
    · rw [if_neg h2]; simp only [ne_eq, Decidable.not_not] at h2; rw [h2]
-- slices.MinFunc[[]impl.Entry,impl.Entry]
def T0_slices_MinFunc_Entry_Entry_rarestEntry_1 (x0 : List (Int × Int × Int)) (xi6 : Int) (xb5c0 : Int) (xb5c1 : Int) (xb5c2 : Int) (k : Int → Int → Int → Prop) (B0 : Int → Int → Int → Int → Prop) : Prop :=
  br (decide (xi6 < (x0.length : Int)))
  ((0 ≤ xi6 ∧ xi6 < (x0.length : Int)) ∧
    (F_impl_rarestEntry_1 (List.getD x0 (Int.toNat xi6) ((0 : Int), (0 : Int), (0 : Int))).1 (List.getD x0 (Int.toNat xi6) ((0 : Int), (0 : Int), (0 : Int))).2.1 (List.getD x0 (Int.toNat xi6) ((0 : Int), (0 : Int), (0 : Int))).2.2 xb5c0 xb5c1 xb5c2 fun rarestEntry126 =>
      br (decide (rarestEntry126 < 0))
      ((0 ≤ xi6 ∧ xi6 < (x0.length : Int)) ∧
        InR (xi6 + 1) ∧
        B0 (xi6 + 1) (List.getD x0 (Int.toNat xi6) ((0 : Int), (0 : Int), (0 : Int))).1 (List.getD x0 (Int.toNat xi6) ((0 : Int), (0 : Int), (0 : Int))).2.1 (List.getD x0 (Int.toNat xi6) ((0 : Int), (0 : Int), (0 : Int))).2.2)
      (InR (xi6 + 1) ∧
        B0 (xi6 + 1) xb5c0 xb5c1 xb5c2)) ∧
    (True))
  (k xb5c0 xb5c1 xb5c2)
def U0_slices_MinFunc_Entry_Entry_rarestEntry_1 (x0 : List (Int × Int × Int)) (xi6 : Int) (xb5c0 : Int) (xb5c1 : Int) (xb5c2 : Int) (k : Int → Int → Int → Prop) (B0 : Int → Int → Int → Int → Prop) : Prop :=
  br (decide (xi6 < (x0.length : Int)))
  ((0 ≤ xi6 ∧ xi6 < (x0.length : Int)) ∧
    F_impl_rarestEntry_1 (List.getD x0 (Int.toNat xi6) ((0 : Int), (0 : Int), (0 : Int))).1 (List.getD x0 (Int.toNat xi6) ((0 : Int), (0 : Int), (0 : Int))).2.1 (List.getD x0 (Int.toNat xi6) ((0 : Int), (0 : Int), (0 : Int))).2.2 xb5c0 xb5c1 xb5c2 fun rarestEntry126 =>
    br (decide (rarestEntry126 < 0))
    ((0 ≤ xi6 ∧ xi6 < (x0.length : Int)) ∧
      InR (xi6 + 1) ∧
      B0 (xi6 + 1) (List.getD x0 (Int.toNat xi6) ((0 : Int), (0 : Int), (0 : Int))).1 (List.getD x0 (Int.toNat xi6) ((0 : Int), (0 : Int), (0 : Int))).2.1 (List.getD x0 (Int.toNat xi6) ((0 : Int), (0 : Int), (0 : Int))).2.2)
    (InR (xi6 + 1) ∧
      B0 (xi6 + 1) xb5c0 xb5c1 xb5c2))
  (k xb5c0 xb5c1 xb5c2)
theorem T0_slices_MinFunc_Entry_Entry_rarestEntry_1_eq (x0 : List (Int × Int × Int)) (xi6 : Int) (xb5c0 : Int) (xb5c1 : Int) (xb5c2 : Int) (k : Int → Int → Int → Prop) (B0 : Int → Int → Int → Int → Prop) : T0_slices_MinFunc_Entry_Entry_rarestEntry_1 x0 xi6 xb5c0 xb5c1 xb5c2 k B0 = U0_slices_MinFunc_Entry_Entry_rarestEntry_1 x0 xi6 xb5c0 xb5c1 xb5c2 k B0 := by
  first
  | (simp only [T0_slices_MinFunc_Entry_Entry_rarestEntry_1, U0_slices_MinFunc_Entry_Entry_rarestEntry_1, and_self, and_true]; done)
  | (simp only [T0_slices_MinFunc_Entry_Entry_rarestEntry_1, U0_slices_MinFunc_Entry_Entry_rarestEntry_1, and_self, and_true, and_self_left, and_assoc]; refine propext ⟨fun h => ?_, fun h => ?_⟩ <;> (repeat (cases ‹_ ∧ _›)) <;> (repeat' (apply And.intro)) <;> assumption)
def L0_slices_MinFunc_Entry_Entry_rarestEntry_1 (x0 : List (Int × Int × Int)) (k : Int → Int → Int → Prop) : Nat → Int → Int → Int → Int → Prop
  | 0, _, _, _, _ => False
  | n + 1, xi6, xb5c0, xb5c1, xb5c2 => U0_slices_MinFunc_Entry_Entry_rarestEntry_1 x0 xi6 xb5c0 xb5c1 xb5c2 k (L0_slices_MinFunc_Entry_Entry_rarestEntry_1 x0 k n)
def G_slices_MinFunc_Entry_Entry_rarestEntry_1 (x0 : List (Int × Int × Int)) (I0 : List (Int × Int × Int) → Int → Int → Int → Int → Prop) : Prop :=
  br (decide ((x0.length : Int) < 1))
  (False)
  ((0 ≤ (0 : Int) ∧ 0 < (x0.length : Int)) ∧
    I0 x0 1 (List.getD x0 0 ((0 : Int), (0 : Int), (0 : Int))).1 (List.getD x0 0 ((0 : Int), (0 : Int), (0 : Int))).2.1 (List.getD x0 0 ((0 : Int), (0 : Int), (0 : Int))).2.2)
def S_slices_MinFunc_Entry_Entry_rarestEntry_1 (x0 : List (Int × Int × Int)) (k : Int → Int → Int → Prop) : Prop := G_slices_MinFunc_Entry_Entry_rarestEntry_1 x0 (fun x0 xi6 xb5c0 xb5c1 xb5c2 => ∃ j, L0_slices_MinFunc_Entry_Entry_rarestEntry_1 x0 k j xi6 xb5c0 xb5c1 xb5c2)
def F_slices_MinFunc_Entry_Entry_rarestEntry_1 (l : List Ent) (k : Int → Int → Int → Prop) : Prop := (0 < l.length ∧ l.length ≤ 1000000000) ∧ k (l.getD (rareM l) ent0).1 (l.getD (rareM l) ent0).2.1 (l.getD (rareM l) ent0).2.2
theorem F_slices_MinFunc_Entry_Entry_rarestEntry_1_S {l : List Ent} {k : Int → Int → Int → Prop} (h : F_slices_MinFunc_Entry_Entry_rarestEntry_1 l k) : S_slices_MinFunc_Entry_Entry_rarestEntry_1 l k := by
  obtain ⟨⟨h0, h1⟩, hk⟩ := h
  have key : ∀ (r : List Ent) (i p : Nat), l.drop i = r → p < i → i ≤ l.length → rareS l r i p = rareM l → L0_slices_MinFunc_Entry_Entry_rarestEntry_1 l k (r.length + 1) (i : Int) (l.getD p ent0).1 (l.getD p ent0).2.1 (l.getD p ent0).2.2 := by
    intro r
    induction r with
    | nil =>
      intro i p hd hp hi he
      have := drop_nil' hd
      rw [L0_slices_MinFunc_Entry_Entry_rarestEntry_1, U0_slices_MinFunc_Entry_Entry_rarestEntry_1]
      simp only [br_dec]
      exact ⟨fun h => by omega, fun _ => by rw [show p = rareM l from he]; exact hk⟩
    | cons x r ih =>
      intro i p hd hp hi he
      obtain ⟨g1, g2, _, g3, _⟩ := drop_cons' hd
      rw [rareS] at he
      rw [List.length_cons, L0_slices_MinFunc_Entry_Entry_rarestEntry_1, U0_slices_MinFunc_Entry_Entry_rarestEntry_1]
      simp only [br_dec, Int.toNat_natCast, g2]
      refine ⟨fun _ => ⟨⟨by omega, by omega⟩, fun n hn => ⟨fun hr => ⟨⟨by omega, by omega⟩, inR (by omega) (by omega), ?_⟩, fun hr => ⟨inR (by omega) (by omega), ?_⟩⟩⟩, fun h => by omega⟩
      · rw [if_pos (hn.1 hr)] at he
        have := ih (i + 1) i g3 (by omega) (by omega) he
        rwa [g2] at this
      · rw [if_neg fun c => hr (hn.2 c)] at he
        exact ih (i + 1) p g3 (by omega) (by omega) he
  refine br_dec.2 ⟨fun h => by omega, fun _ => ⟨⟨by omega, by omega⟩, _, key (l.drop 1) 1 0 rfl (by omega) (by omega) rfl⟩⟩
-- impl.rarestEntry
def G_impl_rarestEntry (list0 : List (Int × Int × Int)) (k : Int → Int → Int → Prop) : Prop :=
  F_slices_MinFunc_Entry_Entry_rarestEntry_1 list0 fun minFunc4Key minFunc4Count minFunc4Last =>
  k minFunc4Key minFunc4Count minFunc4Last
def S_impl_rarestEntry (list0 : List (Int × Int × Int)) (k : Int → Int → Int → Prop) : Prop := G_impl_rarestEntry list0 k
def F_impl_rarestEntry (l : List Ent) (k : Int → Int → Int → Prop) : Prop := (0 < l.length ∧ l.length ≤ 1000000000) ∧ k (l.getD (rareM l) ent0).1 (l.getD (rareM l) ent0).2.1 (l.getD (rareM l) ent0).2.2
theorem F_impl_rarestEntry_S {l : List Ent} {k : Int → Int → Int → Prop} (h : F_impl_rarestEntry l k) : S_impl_rarestEntry l k := h
-- slices.Index[[]impl.Entry,impl.Entry]
def T0_slices_Index_Entry_Entry (s0 : List (Int × Int × Int)) (v1Count : Int) (v1Key : Int) (v1Last : Int) (xt7 : Int) (xt8 : Int) (k : Int → Prop) (B0 : Int → Prop) : Prop :=
  br (decide (xt8 < xt7))
  ((0 ≤ xt8 ∧ xt8 < (s0.length : Int)) ∧
    br ((v1Key == (List.getD s0 (Int.toNat xt8) ((0 : Int), (0 : Int), (0 : Int))).1) && ((v1Count == (List.getD s0 (Int.toNat xt8) ((0 : Int), (0 : Int), (0 : Int))).2.1) && (v1Last == (List.getD s0 (Int.toNat xt8) ((0 : Int), (0 : Int), (0 : Int))).2.2)))
    (k xt8)
    (InR (xt8 + 1) ∧
      B0 (xt8 + 1)))
  (k (-1))
def L0_slices_Index_Entry_Entry (s0 : List (Int × Int × Int)) (v1Count : Int) (v1Key : Int) (v1Last : Int) (xt7 : Int) (k : Int → Prop) : Nat → Int → Prop
  | 0, _ => False
  | n + 1, xt8 => T0_slices_Index_Entry_Entry s0 v1Count v1Key v1Last xt7 xt8 k (L0_slices_Index_Entry_Entry s0 v1Count v1Key v1Last xt7 k n)
def G_slices_Index_Entry_Entry (s0 : List (Int × Int × Int)) (v1Key : Int) (v1Count : Int) (v1Last : Int) (I0 : List (Int × Int × Int) → Int → Int → Int → Int → Int → Prop) : Prop :=
  I0 s0 v1Count v1Key v1Last (s0.length : Int) 0
def S_slices_Index_Entry_Entry (s0 : List (Int × Int × Int)) (v1Key : Int) (v1Count : Int) (v1Last : Int) (k : Int → Prop) : Prop := G_slices_Index_Entry_Entry s0 v1Key v1Count v1Last (fun s0 v1Count v1Key v1Last xt7 xt8 => ∃ j, L0_slices_Index_Entry_Entry s0 v1Count v1Key v1Last xt7 k j xt8)
def F_slices_Index_Entry_Entry (l : List Ent) (a b c : Int) (k : Int → Prop) : Prop := l.length ≤ 1000000000 ∧ ∀ r : Int, FirstAt l (a, b, c) r → k r
theorem F_slices_Index_Entry_Entry_S {l : List Ent} {a b c : Int} {k : Int → Prop} (h : F_slices_Index_Entry_Entry l a b c k) : S_slices_Index_Entry_Entry l a b c k := by
  obtain ⟨hl, hk⟩ := h
  have key : ∀ (r : List Ent) (i : Nat), l.drop i = r → (∀ q, q < i → l[q]? ≠ some (a, b, c)) → L0_slices_Index_Entry_Entry l b a c (l.length : Int) k (r.length + 1) (i : Int) := by
    intro r
    induction r with
    | nil =>
      intro i hd hn
      have hi := drop_nil' hd
      rw [L0_slices_Index_Entry_Entry, T0_slices_Index_Entry_Entry]
      simp only [br_dec]
      refine ⟨fun h => by omega, fun _ => hk _ (.inr ⟨rfl, fun hm => ?_⟩)⟩
      obtain ⟨q, hq, e⟩ := List.getElem_of_mem hm
      exact hn q (by omega) (by rw [List.getElem?_eq_getElem hq, e])
    | cons x r ih =>
      intro i hd hn
      obtain ⟨h1, h2, h5, h3, h4⟩ := drop_cons' hd
      rw [List.length_cons, L0_slices_Index_Entry_Entry, T0_slices_Index_Entry_Entry]
      simp only [br_dec, Int.toNat_natCast, h2]
      refine ⟨fun _ => ⟨⟨by omega, by omega⟩, ?_⟩, fun h => by omega⟩
      rw [show ((a == x.1) && ((b == x.2.1) && (c == x.2.2))) = decide ((a, b, c) = x) from eq3 (x := (a, b, c)) (y := x)]
      refine br_dec.2 ⟨fun e => hk _ (.inl ⟨i, rfl, h1, by rw [h5, e], hn⟩), fun e => ⟨inR (by omega) (by omega), ih (i + 1) h3 fun q hq => ?_⟩⟩
      by_cases eq : q = i
      · subst eq; rw [h5]; intro c; injection c with c; exact e c.symm
      · exact hn q (by omega)
  exact ⟨_, key l 0 rfl (by simp)⟩
-- slices.Delete[[]impl.Entry,impl.Entry]
def G_slices_Delete_Entry_Entry (s0 : List (Int × Int × Int)) (i1 : Int) (j2 : Int) (k : List (Int × Int × Int) → Prop) : Prop :=
  (0 ≤ i1 ∧ i1 ≤ j2 ∧ j2 ≤ (s0.length : Int) ∧ (s0.length : Int) ≤ (s0.length : Int)) ∧
  br (i1 == j2)
  (k s0)
  ((0 ≤ i1 ∧ i1 ≤ (s0.length : Int)) ∧
    (0 ≤ j2 ∧ j2 ≤ (s0.length : Int)) ∧
    ((((0 + (Int.toNat i1)) + (List.length (List.take (s0.length - (Int.toNat j2)) (List.drop (Int.toNat j2) s0)))) ≤ s0.length) ∧
      (0 ≤ (((Int.toNat i1) + (List.length (List.take (s0.length - (Int.toNat j2)) (List.drop (Int.toNat j2) s0)))) : Int) ∧ (((Int.toNat i1) + (List.length (List.take (s0.length - (Int.toNat j2)) (List.drop (Int.toNat j2) s0)))) : Int) ≤ (s0.length : Int) ∧ (0 : Int) + (s0.length : Int) ≤ ((List.length (midA s0 (0 + (Int.toNat i1)) (List.take (s0.length - (Int.toNat j2)) (List.drop (Int.toNat j2) s0)))) : Int)) ∧
      k (List.take ((Int.toNat i1) + (List.length (List.take (s0.length - (Int.toNat j2)) (List.drop (Int.toNat j2) s0)))) (List.drop 0 (midA (midA s0 (0 + (Int.toNat i1)) (List.take (s0.length - (Int.toNat j2)) (List.drop (Int.toNat j2) s0))) (0 + (Int.toNat (((Int.toNat i1) + (List.length (List.take (s0.length - (Int.toNat j2)) (List.drop (Int.toNat j2) s0)))) : Int))) (List.replicate ((Int.toNat (s0.length : Int)) - (Int.toNat (((Int.toNat i1) + (List.length (List.take (s0.length - (Int.toNat j2)) (List.drop (Int.toNat j2) s0)))) : Int))) ((0 : Int), (0 : Int), (0 : Int))))))) ∧
    (True))
def H_slices_Delete_Entry_Entry (s0 : List (Int × Int × Int)) (i1 : Int) (j2 : Int) (k : List (Int × Int × Int) → Prop) : Prop :=
  (0 ≤ i1 ∧ i1 ≤ j2 ∧ j2 ≤ (s0.length : Int) ∧ (s0.length : Int) ≤ (s0.length : Int)) ∧
  br (i1 == j2)
  (k s0)
  ((0 ≤ i1 ∧ i1 ≤ (s0.length : Int)) ∧
    (0 ≤ j2 ∧ j2 ≤ (s0.length : Int)) ∧
    (((0 + (Int.toNat i1)) + (List.length (List.take (s0.length - (Int.toNat j2)) (List.drop (Int.toNat j2) s0)))) ≤ s0.length) ∧
    (0 ≤ (((Int.toNat i1) + (List.length (List.take (s0.length - (Int.toNat j2)) (List.drop (Int.toNat j2) s0)))) : Int) ∧ (((Int.toNat i1) + (List.length (List.take (s0.length - (Int.toNat j2)) (List.drop (Int.toNat j2) s0)))) : Int) ≤ (s0.length : Int) ∧ (0 : Int) + (s0.length : Int) ≤ ((List.length (midA s0 (0 + (Int.toNat i1)) (List.take (s0.length - (Int.toNat j2)) (List.drop (Int.toNat j2) s0)))) : Int)) ∧
    k (List.take ((Int.toNat i1) + (List.length (List.take (s0.length - (Int.toNat j2)) (List.drop (Int.toNat j2) s0)))) (List.drop 0 (midA (midA s0 (0 + (Int.toNat i1)) (List.take (s0.length - (Int.toNat j2)) (List.drop (Int.toNat j2) s0))) (0 + (Int.toNat (((Int.toNat i1) + (List.length (List.take (s0.length - (Int.toNat j2)) (List.drop (Int.toNat j2) s0)))) : Int))) (List.replicate ((Int.toNat (s0.length : Int)) - (Int.toNat (((Int.toNat i1) + (List.length (List.take (s0.length - (Int.toNat j2)) (List.drop (Int.toNat j2) s0)))) : Int))) ((0 : Int), (0 : Int), (0 : Int)))))))
theorem G_slices_Delete_Entry_Entry_eq (s0 : List (Int × Int × Int)) (i1 : Int) (j2 : Int) (k : List (Int × Int × Int) → Prop) : G_slices_Delete_Entry_Entry s0 i1 j2 k = H_slices_Delete_Entry_Entry s0 i1 j2 k := by
  first
  | (simp only [G_slices_Delete_Entry_Entry, H_slices_Delete_Entry_Entry, and_self, and_true]; done)
  | (simp only [G_slices_Delete_Entry_Entry, H_slices_Delete_Entry_Entry, and_self, and_true, and_self_left, and_assoc]; refine propext ⟨fun h => ?_, fun h => ?_⟩ <;> (repeat (cases ‹_ ∧ _›)) <;> (repeat' (apply And.intro)) <;> assumption)
def S_slices_Delete_Entry_Entry (s0 : List (Int × Int × Int)) (i1 : Int) (j2 : Int) (k : List (Int × Int × Int) → Prop) : Prop := H_slices_Delete_Entry_Entry s0 i1 j2 k
def F_slices_Delete_Entry_Entry (l : List Ent) (i j : Int) (k : List Ent → Prop) : Prop := (0 ≤ i ∧ i ≤ j ∧ j ≤ l.length ∧ l.length ≤ 1000000000) ∧ k (l.take i.toNat ++ l.drop j.toNat)
theorem F_slices_Delete_Entry_Entry_S {l : List Ent} {i j : Int} {k : List Ent → Prop} (h : F_slices_Delete_Entry_Entry l i j k) : S_slices_Delete_Entry_Entry l i j k := by
  obtain ⟨⟨h1, h2, h3, h4⟩, hk⟩ := h
  refine ⟨⟨h1, h2, h3, Int.le_refl _⟩, br_beq.2 ⟨fun e => ?_, fun e => ?_⟩⟩
  · rw [← e, List.take_append_drop] at hk; exact hk
  · have hD : List.take (l.length - j.toNat) (l.drop j.toNat) = l.drop j.toNat := List.take_of_length_le (by simp)
    rw [hD]
    have hDl : (l.drop j.toNat).length = l.length - j.toNat := by simp
    have hm : (midA l (0 + i.toNat) (l.drop j.toNat)).length = l.length := by simp only [midA, List.length_append, List.length_take, List.length_drop]; omega
    refine ⟨⟨h1, by omega⟩, ⟨by omega, h3⟩, by omega, ⟨by omega, by omega, by omega⟩, ?_⟩
    rw [List.drop_zero]
    have e0 : ((i.toNat : Int) + ((l.drop j.toNat).length : Int)).toNat = i.toNat + (l.drop j.toNat).length := by omega
    have e2 := fun Z : List Ent => mid_take0 (l := midA l (0 + i.toNat) (l.drop j.toNat)) (r := Z) (i := 0 + (i.toNat + (l.drop j.toNat).length)) (by rw [hm]; omega)
    have e3 := mid_take1 (l := l) (r := l.drop j.toNat) (i := 0 + i.toNat) (n := 0 + (i.toNat + (l.drop j.toNat).length)) (by omega) (by omega)
    have e4 := fun Z => (e2 Z).trans e3
    simp only [Nat.zero_add] at e4
    rw [e0]
    simp only [Nat.zero_add]
    rw [e4]; exact hk
-- impl.UseOften
def T0_impl_UseOften (key2 : Int) (list0 : List (Int × Int × Int)) (now3 : Int) (room1 : Int) (xt31 : Int) (xthere11 : Bool) (xt32 : Int) (xout10 : List (Int × Int × Int)) (k : List (Int × Int × Int) → Bool → Prop) (B0 : Bool → Int → List (Int × Int × Int) → Prop) : Prop :=
  br (decide (xt32 < xt31))
  ((0 ≤ xt32 ∧ xt32 < (list0.length : Int)) ∧
    br (decide ((List.getD list0 (Int.toNat xt32) ((0 : Int), (0 : Int), (0 : Int))).2.2 ≥ now3))
    (k ([] : List (Int × Int × Int)) false)
    (br ((List.getD list0 (Int.toNat xt32) ((0 : Int), (0 : Int), (0 : Int))).1 == key2)
      (InR ((List.getD list0 (Int.toNat xt32) ((0 : Int), (0 : Int), (0 : Int))).2.1 + 1) ∧
        (xout10.length + 1 ≤ 1000000000) ∧
        InR (xt32 + 1) ∧
        B0 true (xt32 + 1) (xout10 ++ ([((List.getD list0 (Int.toNat xt32) ((0 : Int), (0 : Int), (0 : Int))).1, (if 100 < ((List.getD list0 (Int.toNat xt32) ((0 : Int), (0 : Int), (0 : Int))).2.1 + 1) then (100 : Int) else ((List.getD list0 (Int.toNat xt32) ((0 : Int), (0 : Int), (0 : Int))).2.1 + 1)), now3)] : List (Int × Int × Int))))
      ((xout10.length + 1 ≤ 1000000000) ∧
        InR (xt32 + 1) ∧
        B0 xthere11 (xt32 + 1) (xout10 ++ ([((List.getD list0 (Int.toNat xt32) ((0 : Int), (0 : Int), (0 : Int))).1, (List.getD list0 (Int.toNat xt32) ((0 : Int), (0 : Int), (0 : Int))).2.1, (List.getD list0 (Int.toNat xt32) ((0 : Int), (0 : Int), (0 : Int))).2.2)] : List (Int × Int × Int))))))
  (br xthere11
    (k xout10 true)
    (br ((xout10.length : Int) == room1)
      (F_impl_rarestEntry xout10 fun rarestEntry64Key rarestEntry64Count rarestEntry64Last =>
        F_slices_Index_Entry_Entry xout10 rarestEntry64Key rarestEntry64Count rarestEntry64Last fun index65 =>
        InR (index65 + 1) ∧
        F_slices_Delete_Entry_Entry xout10 index65 (index65 + 1) fun delete70 =>
        (delete70.length + 1 ≤ 1000000000) ∧
        k (delete70 ++ ([(key2, (1 : Int), now3)] : List (Int × Int × Int))) false)
      ((xout10.length + 1 ≤ 1000000000) ∧
        k (xout10 ++ ([(key2, (1 : Int), now3)] : List (Int × Int × Int))) false)))
def L0_impl_UseOften (key2 : Int) (list0 : List (Int × Int × Int)) (now3 : Int) (room1 : Int) (xt31 : Int) (k : List (Int × Int × Int) → Bool → Prop) : Nat → Bool → Int → List (Int × Int × Int) → Prop
  | 0, _, _, _ => False
  | n + 1, xthere11, xt32, xout10 => T0_impl_UseOften key2 list0 now3 room1 xt31 xthere11 xt32 xout10 k (L0_impl_UseOften key2 list0 now3 room1 xt31 k n)
def G_impl_UseOften (list0 : List (Int × Int × Int)) (room1 : Int) (key2 : Int) (now3 : Int) (k : List (Int × Int × Int) → Bool → Prop) (I0 : Int → List (Int × Int × Int) → Int → Int → Int → Bool → Int → List (Int × Int × Int) → Prop) : Prop :=
  F_impl_ValidEntries list0 room1 fun validEntries17 =>
  br (!validEntries17)
  (k ([] : List (Int × Int × Int)) false)
  (F_impl_validKey key2 fun validKey21 =>
    br (!validKey21)
    (k ([] : List (Int × Int × Int)) false)
    (F_impl_validTime now3 fun validTime26 =>
      br (!validTime26)
      (k ([] : List (Int × Int × Int)) false)
      (I0 key2 list0 now3 room1 (list0.length : Int) false 0 ([] : List (Int × Int × Int)))))
def S_impl_UseOften (list0 : List (Int × Int × Int)) (room1 : Int) (key2 : Int) (now3 : Int) (k : List (Int × Int × Int) → Bool → Prop) : Prop := G_impl_UseOften list0 room1 key2 now3 k (fun key2 list0 now3 room1 xt31 xthere11 xt32 xout10 => ∃ j, L0_impl_UseOften key2 list0 now3 room1 xt31 k j xthere11 xt32 xout10)
def F_impl_UseOften (l : List Ent) (room key now : Int) (k : List Ent → Bool → Prop) : Prop :=
  l.length ≤ 1000000000 ∧ (VUse l room key now → k (oftM l room key now).1 (oftM l room key now).2) ∧ (¬ VUse l room key now → k [] false)
theorem F_impl_UseOften_S {l : List Ent} {room key now : Int} {k : List Ent → Bool → Prop} (h : F_impl_UseOften l room key now k) : S_impl_UseOften l room key now k := by
  obtain ⟨hl, hyes, hno⟩ := h
  refine ⟨hl, ?_⟩; intro b hb
  refine br_not.2 (br_iff.2 ⟨fun e => br_not.2 (br_dec.2 ⟨fun hkey => br_not.2 (br_dec.2 ⟨fun hnow => ?_, fun hnow => hno fun w => hnow w.2.2.2⟩), fun hkey => hno fun w => hkey w.2.1⟩), fun e => hno fun w => by rw [hb.2 w.1] at e; cases e⟩)
  have v := hb.1 e
  have v1 := v.1
  have v2 := v.2.1
  have key1 : ∀ (r : List Ent) (i : Nat), l.drop i = r → (∀ e ∈ l.take i, e.2.2 < now) → L0_impl_UseOften key l now room (l.length : Int) k (r.length + 1) (decide (key ∈ (l.take i).map (·.1))) (i : Int) ((l.take i).map (upE key now)) := by
    intro r
    induction r with
    | nil =>
      intro i hd hn
      have hi := drop_nil' hd
      rw [List.take_of_length_le hi] at hn ⊢
      have hu : VUse l room key now := ⟨v, hkey, hn, hnow⟩
      have hk := hyes hu
      rw [L0_impl_UseOften, T0_impl_UseOften]
      refine br_dec.2 ⟨fun h => by omega, fun _ => br_dec.2 ⟨fun hm => ?_, fun hm => ?_⟩⟩
      · rw [oftM_map v.2.2.2.1 hm] at hk; exact hk
      · rw [upE_not hm]
        unfold oftM at hk
        rw [if_neg hm] at hk
        refine br_beq.2 ⟨fun hf => ?_, fun hf => ?_⟩
        · have hne : l ≠ [] := fun e => by rw [e] at hf; simp at hf; omega
          have hp := List.length_pos_iff.2 hne
          have hlt := (rareM_ok hne).1
          refine ⟨⟨hp, hl⟩, hl, fun q hq => ?_⟩
          have hq := firstAt_rare v.2.2.2.1 hne hq
          subst hq
          refine ⟨inR (by omega) (by omega), ⟨by omega, by omega, by omega, hl⟩, ?_⟩
          rw [Int.toNat_natCast, show ((rareM l : Int) + 1).toNat = rareM l + 1 by omega, ← List.eraseIdx_eq_take_drop_succ]
          rw [if_pos hf] at hk
          exact ⟨by have := List.length_eraseIdx_le l (rareM l); omega, hk⟩
        · rw [if_neg hf] at hk
          exact ⟨by omega, hk⟩
    | cons x r ih =>
      intro i hd hn
      obtain ⟨h1, h2, h5, h3, h4⟩ := drop_cons' hd
      have hxl : x ∈ l := List.mem_of_getElem? h5
      have hr := v.2.2.1 x hxl
      have hlen : ((l.take i).map (upE key now)).length ≤ 8 := by simp; omega
      rw [List.length_cons, L0_impl_UseOften, T0_impl_UseOften]
      simp only [br_dec, br_beq, Int.toNat_natCast, h2]
      refine ⟨fun _ => ⟨⟨by omega, by omega⟩, fun hge => hno fun w => ?_, fun hlt => ?_⟩, fun h => by omega⟩
      · have := w.2.2.1 x hxl; omega
      · have hn' : ∀ e ∈ l.take (i + 1), e.2.2 < now := by
          rw [h4]; intro e he
          rcases List.mem_append.1 he with h | h
          · exact hn e h
          · rw [List.mem_singleton.1 h]; omega
        have := ih (i + 1) h3 hn'
        rw [h4, List.map_append, List.map_append, List.map_singleton, List.map_singleton] at this
        refine ⟨fun hx => ⟨inR (by have := hr.2.1; omega) (by have := hr.2.1; omega), by omega, inR (by omega) (by omega), ?_⟩, fun hx => ⟨by omega, inR (by omega) (by omega), ?_⟩⟩
        · rw [upE, if_pos hx] at this
          have hd2 : decide (key ∈ (l.take i).map (·.1) ++ [x.1]) = true := by simp [hx]
          rw [hd2] at this; exact this
        · rw [upE, if_neg hx] at this
          have hd2 : decide (key ∈ (l.take i).map (·.1) ++ [x.1]) = decide (key ∈ (l.take i).map (·.1)) := by
            refine decide_eq_decide.2 ⟨fun h => ?_, fun h => List.mem_append_left _ h⟩
            rcases List.mem_append.1 h with h | h
            · exact h
            · exact absurd (List.mem_singleton.1 h).symm hx
          rw [hd2] at this; exact this
  exact ⟨_, by simpa using key1 l 0 rfl (by simp)⟩
-- impl.RunOften
def T0_impl_RunOften (room1 : Int) (t0 : List Int) (xt14i1 : Int) (xhits8i1 : Int) (xt15i1 : Int) (xcache1 : List (Int × Int × Int)) (xb6c0 : Int) (k : List (Int × Int × Int) → Int → Prop) (B0 : Int → Int → List (Int × Int × Int) → Int → Prop) : Prop :=
  br (decide (xt15i1 < xt14i1))
  ((0 ≤ xt15i1 ∧ xt15i1 < (t0.length : Int)) ∧
    F_impl_UseOften xcache1 room1 (List.getD t0 (Int.toNat xt15i1) (0 : Int)) xb6c0 fun useOften15r0 useOften15r1 =>
    InR (xb6c0 + 1) ∧
    br useOften15r1
    (InR (xhits8i1 + 1) ∧
      InR (xt15i1 + 1) ∧
      B0 (xhits8i1 + 1) (xt15i1 + 1) useOften15r0 (xb6c0 + 1))
    (InR (xt15i1 + 1) ∧
      B0 xhits8i1 (xt15i1 + 1) useOften15r0 (xb6c0 + 1)))
  (k xcache1 xhits8i1)
def L0_impl_RunOften (room1 : Int) (t0 : List Int) (xt14i1 : Int) (k : List (Int × Int × Int) → Int → Prop) : Nat → Int → Int → List (Int × Int × Int) → Int → Prop
  | 0, _, _, _, _ => False
  | n + 1, xhits8i1, xt15i1, xcache1, xb6c0 => T0_impl_RunOften room1 t0 xt14i1 xhits8i1 xt15i1 xcache1 xb6c0 k (L0_impl_RunOften room1 t0 xt14i1 k n)
def G_impl_RunOften (t0 : List Int) (room1 : Int) (k : List (Int × Int × Int) → Int → Prop) (I0 : Int → List Int → Int → Int → Int → List (Int × Int × Int) → Int → Prop) : Prop :=
  F_impl_ValidTrace t0 fun validTrace8 =>
  br (!validTrace8)
  (k ([] : List (Int × Int × Int)) (-1))
  (F_impl_validRoom room1 fun validRoom12 =>
    br (!validRoom12)
    (k ([] : List (Int × Int × Int)) (-1))
    (I0 room1 t0 (t0.length : Int) 0 0 ([] : List (Int × Int × Int)) 0))
def S_impl_RunOften (t0 : List Int) (room1 : Int) (k : List (Int × Int × Int) → Int → Prop) : Prop := G_impl_RunOften t0 room1 k (fun room1 t0 xt14i1 xhits8i1 xt15i1 xcache1 xb6c0 => ∃ j, L0_impl_RunOften room1 t0 xt14i1 k j xhits8i1 xt15i1 xcache1 xb6c0)
def F_impl_RunOften (t : List Int) (room : Int) (k : List Ent → Int → Prop) : Prop :=
  ((VTrace t ∧ 1 ≤ room ∧ room ≤ 8) → k (runO room t [] 0 0).1 (runO room t [] 0 0).2) ∧ (¬ (VTrace t ∧ 1 ≤ room ∧ room ≤ 8) → k [] (-1))
theorem F_impl_RunOften_S {t : List Int} {room : Int} {k : List Ent → Int → Prop} (h : F_impl_RunOften t room k) : S_impl_RunOften t room k := by
  obtain ⟨hyes, hno⟩ := h
  intro b hb
  refine br_not.2 (br_iff.2 ⟨fun e => br_not.2 (br_dec.2 ⟨fun hr => ?_, fun hr => hno fun w => hr w.2⟩), fun e => hno fun v => by rw [hb.2 v.1] at e; cases e⟩)
  have v := hb.1 e
  have hk := hyes ⟨v, hr⟩
  have t1 := v.1
  have t2 := v.2
  have key : ∀ (r : List Int) (i : Nat) (l : List Ent) (n : Int), t.drop i = r → VEnt l room → (∀ e ∈ l, e.2.2 < (i : Int)) → 0 ≤ n → n ≤ i → k (runO room r l i n).1 (runO room r l i n).2 → L0_impl_RunOften room t (t.length : Int) k (r.length + 1) n (i : Int) l (i : Int) := by
    intro r
    induction r with
    | nil =>
      intro i l n hdr v hl n0 n1 hk
      have := drop_nil' hdr
      rw [L0_impl_RunOften, T0_impl_RunOften]
      simp only [br_dec]
      exact ⟨fun h => by omega, fun _ => hk⟩
    | cons x r ih =>
      intro i l n hdr v hl n0 n1 hk
      obtain ⟨h1, h2, h5, h3, h4⟩ := drop_cons' hdr
      have hx := t2 x (List.mem_of_getElem? h5)
      rw [List.length_cons, L0_impl_RunOften, T0_impl_RunOften]
      simp only [br_dec, Int.toNat_natCast, h2]
      have hu : VUse l room x i := ⟨v, hx, hl, by omega, by omega⟩
      refine ⟨fun _ => ⟨⟨by omega, by omega⟩, by have := v.2.1; omega, fun _ => ⟨inR (by omega) (by omega), br_iff.2 ⟨fun e => ⟨inR (by omega) (by omega), inR (by omega) (by omega), ?_⟩, fun e => ⟨inR (by omega) (by omega), ?_⟩⟩⟩, fun hv => absurd hu hv⟩, fun h => by omega⟩
      · have := ih (i + 1) (oftM l room x i).1 (n + 1) h3 (oftM_valid v hx hl (by omega)) (by have := oftM_last (room := room) (key := x) hl; simpa using this) (by omega) (by omega) (by rw [runO, e] at hk; simpa [toI] using hk)
        simpa using this
      · have := ih (i + 1) (oftM l room x i).1 n h3 (oftM_valid v hx hl (by omega)) (by have := oftM_last (room := room) (key := x) hl; simpa using this) (by omega) (by omega) (by rw [runO, e] at hk; simpa [toI] using hk)
        simpa using this
  exact ⟨_, key t 0 [] 0 rfl (ent_nil hr) (by simp) (by omega) (by omega) (by simpa using hk)⟩
-- slices.Concat[[]int,int]
def T1_slices_Concat_sint_int (slices0 : List (List Int)) (xt26 : Int) (xt27 : Int) (xnewslice6 : List Int) (k : List Int → Prop) (B1 : Int → Int → List Int → Prop) : Prop :=
  br (decide (xt27 < xt26))
  ((0 ≤ xt27 ∧ xt27 < (slices0.length : Int)) ∧
    (xnewslice6.length + (List.length (List.getD slices0 (Int.toNat xt27) [])) ≤ 1000000000) ∧
    InR (xt27 + 1) ∧
    B1 xt26 (xt27 + 1) (xnewslice6 ++ (List.getD slices0 (Int.toNat xt27) [])))
  (k xnewslice6)
def L1_slices_Concat_sint_int (slices0 : List (List Int)) (k : List Int → Prop) : Nat → Int → Int → List Int → Prop
  | 0, _, _, _ => False
  | n + 1, xt26, xt27, xnewslice6 => T1_slices_Concat_sint_int slices0 xt26 xt27 xnewslice6 k (L1_slices_Concat_sint_int slices0 k n)
def T0_slices_Concat_sint_int (slices0 : List (List Int)) (xt10 : Int) (xsize3 : Int) (xt11 : Int) (B0 : Int → Int → Prop) (I1 : List (List Int) → Int → Int → List Int → Prop) : Prop :=
  br (decide (xt11 < xt10))
  ((0 ≤ xt11 ∧ xt11 < (slices0.length : Int)) ∧
    InR (xsize3 + ((List.length (List.getD slices0 (Int.toNat xt11) [])) : Int)) ∧
    br (decide ((xsize3 + ((List.length (List.getD slices0 (Int.toNat xt11) [])) : Int)) < 0))
    (False)
    (InR (xt11 + 1) ∧
      B0 (xsize3 + ((List.length (List.getD slices0 (Int.toNat xt11) [])) : Int)) (xt11 + 1)))
  (br (decide (xsize3 < 0))
    (False)
    (InR ((0 : Int) - 0) ∧
      InR (xsize3 - 0) ∧
      br (decide ((xsize3 - 0) > 0))
      (((0 : Int) = 0) ∧
        (0 ≤ (xsize3 - 0) ∧ (xsize3 - 0) ≤ 1000000000) ∧
        (0 ≤ (0 : Int) ∧ 0 ≤ ((List.length (List.replicate (Int.toNat (xsize3 - 0)) (0 : Int))) : Int)) ∧
        I1 slices0 (slices0.length : Int) 0 (List.take 0 (List.drop 0 (List.replicate (Int.toNat (xsize3 - 0)) (0 : Int)))))
      (I1 slices0 (slices0.length : Int) 0 ([] : List Int))))
def L0_slices_Concat_sint_int (slices0 : List (List Int)) (xt10 : Int) (k : List Int → Prop) : Nat → Int → Int → Prop
  | 0, _, _ => False
  | n + 1, xsize3, xt11 => T0_slices_Concat_sint_int slices0 xt10 xsize3 xt11 (L0_slices_Concat_sint_int slices0 xt10 k n) (fun slices0 xt26 xt27 xnewslice6 => ∃ j, L1_slices_Concat_sint_int slices0 k j xt26 xt27 xnewslice6)
def G_slices_Concat_sint_int (slices0 : List (List Int)) (I0 : List (List Int) → Int → Int → Int → Prop) : Prop :=
  I0 slices0 (slices0.length : Int) 0 0
def S_slices_Concat_sint_int (slices0 : List (List Int)) (k : List Int → Prop) : Prop := G_slices_Concat_sint_int slices0 (fun slices0 xt10 xsize3 xt11 => ∃ j, L0_slices_Concat_sint_int slices0 xt10 k j xsize3 xt11)
def F_slices_Concat_sint_int (ls : List (List Int)) (k : List Int → Prop) : Prop := (ls.length ≤ 1000000000 ∧ ls.flatten.length ≤ 1000000000) ∧ k ls.flatten
theorem F_slices_Concat_sint_int_S {ls : List (List Int)} {k : List Int → Prop} (h : F_slices_Concat_sint_int ls k) : S_slices_Concat_sint_int ls k := by
  obtain ⟨⟨hl, ht⟩, hk⟩ := h
  have le : ∀ i, (ls.take i).flatten.length ≤ ls.flatten.length := fun i => by
    have := congrArg List.length (congrArg List.flatten (List.take_append_drop i ls))
    rw [List.flatten_append, List.length_append] at this
    omega
  have key1 : ∀ (r : List (List Int)) (i : Nat), ls.drop i = r → L1_slices_Concat_sint_int ls k (r.length + 1) (ls.length : Int) (i : Int) (ls.take i).flatten := by
    intro r
    induction r with
    | nil =>
      intro i hd
      have := drop_nil' hd
      rw [List.take_of_length_le this, L1_slices_Concat_sint_int, T1_slices_Concat_sint_int]
      exact br_dec.2 ⟨fun h => by omega, fun _ => hk⟩
    | cons x r ih =>
      intro i hd
      obtain ⟨h1, h2, h5, h3, h4⟩ := drop_cons' hd
      have hle := le (i + 1)
      have he : (ls.take (i + 1)).flatten = (ls.take i).flatten ++ x := by rw [h4]; simp
      have := ih (i + 1) h3
      rw [he] at this hle
      rw [List.length_append] at hle
      rw [List.length_cons, L1_slices_Concat_sint_int, T1_slices_Concat_sint_int]
      simp only [br_dec, Int.toNat_natCast, h2]
      exact ⟨fun _ => ⟨⟨by omega, by omega⟩, by omega, inR (by omega) (by omega), this⟩, fun h => by omega⟩
  have key : ∀ (r : List (List Int)) (i : Nat), ls.drop i = r → L0_slices_Concat_sint_int ls (ls.length : Int) k (r.length + 1) ((ls.take i).flatten.length : Int) (i : Int) := by
    intro r
    induction r with
    | nil =>
      intro i hd
      have := drop_nil' hd
      rw [List.take_of_length_le this, L0_slices_Concat_sint_int, T0_slices_Concat_sint_int]
      refine br_dec.2 ⟨fun h => by omega, fun _ => br_dec.2 ⟨fun h => by omega, fun _ => ⟨inR (by omega) (by omega), inR (by omega) (by omega), br_dec.2 ⟨fun h => ⟨rfl, ⟨by omega, by omega⟩, ⟨by omega, by omega⟩, ⟨_, key1 ls 0 rfl⟩⟩, fun h => ⟨_, key1 ls 0 rfl⟩⟩⟩⟩⟩
    | cons x r ih =>
      intro i hd
      obtain ⟨h1, h2, h5, h3, h4⟩ := drop_cons' hd
      have hle := le (i + 1)
      have he : (ls.take (i + 1)).flatten = (ls.take i).flatten ++ x := by rw [h4]; simp
      have := ih (i + 1) h3
      rw [he, List.length_append] at this hle
      rw [List.length_cons, L0_slices_Concat_sint_int, T0_slices_Concat_sint_int]
      simp only [br_dec, Int.toNat_natCast, h2]
      have e2 : (((ls.take i).flatten.length + x.length : Nat) : Int) = ((ls.take i).flatten.length : Int) + (x.length : Int) := by omega
      rw [e2] at this
      refine ⟨fun _ => ⟨⟨by omega, by omega⟩, inR (by omega) (by omega), fun h => by omega, fun _ => ⟨inR (by omega) (by omega), this⟩⟩, fun h => by omega⟩
  exact ⟨_, key ls 0 rfl⟩
-- impl.ValidLists
def G_impl_ValidLists (a0Room : Int) (a0Target : Int) (a0Once : List Int) (a0Often : List Int) (a0WasOnce : List Int) (a0WasOften : List Int) (k : Bool → Prop) : Prop :=
  F_impl_validRoom a0Room fun validRoom7 =>
  br (!validRoom7)
  (k false)
  (br (decide (a0Target < 0))
    (k false)
    (br (decide (a0Target > a0Room))
      (k false)
      (InR ((a0Once.length : Int) + (a0WasOnce.length : Int)) ∧
        InR ((a0Often.length : Int) + (a0WasOften.length : Int)) ∧
        InR ((a0Once.length : Int) + (a0Often.length : Int)) ∧
        br (decide (((a0Once.length : Int) + (a0Often.length : Int)) > a0Room))
        (k false)
        (br (decide (((a0Once.length : Int) + (a0WasOnce.length : Int)) > a0Room))
          (k false)
          (InR (((a0Once.length : Int) + (a0WasOnce.length : Int)) + ((a0Often.length : Int) + (a0WasOften.length : Int))) ∧
            InR (2 * a0Room) ∧
            br (decide ((((a0Once.length : Int) + (a0WasOnce.length : Int)) + ((a0Often.length : Int) + (a0WasOften.length : Int))) > (2 * a0Room)))
            (k false)
            (F_slices_Concat_sint_int ([a0Once, a0Often, a0WasOnce, a0WasOften] : List (List Int)) fun concat69 =>
              F_impl_differentKeys concat69 fun differentKeys70 =>
              k differentKeys70))))))
def S_impl_ValidLists (a0Room : Int) (a0Target : Int) (a0Once : List Int) (a0Often : List Int) (a0WasOnce : List Int) (a0WasOften : List Int) (k : Bool → Prop) : Prop := G_impl_ValidLists a0Room a0Target a0Once a0Often a0WasOnce a0WasOften k
def F_impl_ValidLists (r t : Int) (o f wo wf : List Int) (k : Bool → Prop) : Prop :=
  (o.length ≤ 100000000 ∧ f.length ≤ 100000000 ∧ wo.length ≤ 100000000 ∧ wf.length ≤ 100000000) ∧ ∀ b : Bool, (b = true ↔ VLists r ⟨t, o, f, wo, wf⟩) → k b
theorem F_impl_ValidLists_S {r t : Int} {o f wo wf : List Int} {k : Bool → Prop} (h : F_impl_ValidLists r t o f wo wf k) : S_impl_ValidLists r t o f wo wf k := by
  obtain ⟨⟨h1, h2, h3, h4⟩, hk⟩ := h
  have no : ¬ VLists r ⟨t, o, f, wo, wf⟩ → k false := fun hv => hk false (by simp [hv])
  refine br_not.2 (br_dec.2 ⟨fun g1 => ?_, fun g1 => no fun v => g1 v.room1⟩)
  refine br_dec.2 ⟨fun g => no fun v => by have := v.tgt; simp only at this; omega, fun g2 => br_dec.2 ⟨fun g => no fun v => by have := v.tgt; simp only at this; omega, fun g3 => ?_⟩⟩
  refine ⟨inR (by omega) (by omega), inR (by omega) (by omega), inR (by omega) (by omega), ?_⟩
  refine br_dec.2 ⟨fun g => no fun v => by have := v.inc; simp only at this; omega, fun g4 => br_dec.2 ⟨fun g => no fun v => by have := v.onc; simp only at this; omega, fun g5 => ?_⟩⟩
  refine ⟨inR (by omega) (by omega), inR (by omega) (by omega), ?_⟩
  refine br_dec.2 ⟨fun g => no fun v => by have := v.tot; simp only at this; omega, fun g6 => ?_⟩
  have e : ([o, f, wo, wf] : List (List Int)).flatten = ((o ++ f) ++ wo) ++ wf := by simp
  refine ⟨⟨by simp, by rw [e]; simp; omega⟩, ?_⟩
  rw [e]
  refine ⟨by simp; omega, fun b hb => hk b ?_⟩
  rw [hb]
  have e2 : ∀ x, x ∈ ((o ++ f) ++ wo) ++ wf ↔ (x ∈ o ∨ x ∈ f ∨ x ∈ wo ∨ x ∈ wf) := fun x => by simp [List.mem_append, or_assoc]
  exact ⟨fun ⟨h5, h6⟩ => ⟨g1, ⟨by simp only; omega, by simp only; omega⟩, by simp only; omega, by simp only; omega, by simp only; omega, D4_nodup.1 h6, fun x hx => h5 x ((e2 x).2 hx)⟩, fun v => ⟨fun x hx => v.rng x ((e2 x).1 hx), D4_nodup.2 v.dis⟩⟩
-- impl.nextTarget
def G_impl_nextTarget (a0Room : Int) (a0Target : Int) (a0Once : List Int) (a0Often : List Int) (a0WasOnce : List Int) (a0WasOften : List Int) (key1 : Int) (k : Int → Prop) : Prop :=
  F_slices_Contains_sint_int a0WasOnce key1 fun contains8 =>
  br contains8
  (((a0WasOnce.length : Int) ≠ 0 ∧ InR (Int.tdiv (a0WasOften.length : Int) (a0WasOnce.length : Int))) ∧
    InR (a0Target + (if (Int.tdiv (a0WasOften.length : Int) (a0WasOnce.length : Int)) < 1 then (1 : Int) else (Int.tdiv (a0WasOften.length : Int) (a0WasOnce.length : Int)))) ∧
    k (if a0Room < (a0Target + (if (Int.tdiv (a0WasOften.length : Int) (a0WasOnce.length : Int)) < 1 then (1 : Int) else (Int.tdiv (a0WasOften.length : Int) (a0WasOnce.length : Int)))) then a0Room else (a0Target + (if (Int.tdiv (a0WasOften.length : Int) (a0WasOnce.length : Int)) < 1 then (1 : Int) else (Int.tdiv (a0WasOften.length : Int) (a0WasOnce.length : Int))))))
  (F_slices_Contains_sint_int a0WasOften key1 fun contains26 =>
    br contains26
    (((a0WasOften.length : Int) ≠ 0 ∧ InR (Int.tdiv (a0WasOnce.length : Int) (a0WasOften.length : Int))) ∧
      InR (a0Target - (if (Int.tdiv (a0WasOnce.length : Int) (a0WasOften.length : Int)) < 1 then (1 : Int) else (Int.tdiv (a0WasOnce.length : Int) (a0WasOften.length : Int)))) ∧
      k (if (a0Target - (if (Int.tdiv (a0WasOnce.length : Int) (a0WasOften.length : Int)) < 1 then (1 : Int) else (Int.tdiv (a0WasOnce.length : Int) (a0WasOften.length : Int)))) < 0 then (0 : Int) else (a0Target - (if (Int.tdiv (a0WasOnce.length : Int) (a0WasOften.length : Int)) < 1 then (1 : Int) else (Int.tdiv (a0WasOnce.length : Int) (a0WasOften.length : Int))))))
    (k a0Target))
def S_impl_nextTarget (a0Room : Int) (a0Target : Int) (a0Once : List Int) (a0Often : List Int) (a0WasOnce : List Int) (a0WasOften : List Int) (key1 : Int) (k : Int → Prop) : Prop := G_impl_nextTarget a0Room a0Target a0Once a0Often a0WasOnce a0WasOften key1 k
def F_impl_nextTarget (r t : Int) (o f wo wf : List Int) (key : Int) (k : Int → Prop) : Prop := VLists r ⟨t, o, f, wo, wf⟩ ∧ k (nextT r ⟨t, o, f, wo, wf⟩ key)
theorem F_impl_nextTarget_S {r t : Int} {o f wo wf : List Int} {key : Int} {k : Int → Prop} (h : F_impl_nextTarget r t o f wo wf key k) : S_impl_nextTarget r t o f wo wf key k := by
  obtain ⟨v, hk⟩ := h
  obtain ⟨l1, l2, l3, l4⟩ := lists_len v
  have r1 := v.room1
  have tg := v.tgt
  simp only at l1 l2 l3 l4 tg
  have mx : ∀ x : Int, (if x < 1 then (1 : Int) else x) = max1 x := fun x => by unfold max1; split <;> split <;> omega
  unfold nextT at hk
  refine ⟨by omega, br_dec.2 ⟨fun m3 => ?_, fun m3 => ⟨by omega, br_dec.2 ⟨fun m4 => ?_, fun m4 => ?_⟩⟩⟩⟩
  · rw [if_pos m3] at hk
    have hp : 0 < wo.length := List.length_pos_of_mem m3
    have q1 : 0 ≤ Int.tdiv (wf.length : Int) wo.length := Int.tdiv_nonneg (by omega) (by omega)
    have q2 : Int.tdiv (wf.length : Int) wo.length ≤ wf.length := Int.tdiv_le_self _ (by omega)
    have q3 : 1 ≤ max1 (Int.tdiv (wf.length : Int) wo.length) ∧ max1 (Int.tdiv (wf.length : Int) wo.length) ≤ 16 := ⟨max1_pos _, by unfold max1; split <;> omega⟩
    rw [mx]
    refine ⟨⟨by omega, inR (by omega) (by omega)⟩, inR (by omega) (by omega), ?_⟩
    have e : (if r < t + max1 (Int.tdiv (wf.length : Int) wo.length) then r else t + max1 (Int.tdiv (wf.length : Int) wo.length)) = (if t + max1 (Int.tdiv (wf.length : Int) wo.length) < r then t + max1 (Int.tdiv (wf.length : Int) wo.length) else r) := by split <;> split <;> omega
    rw [e]; exact hk
  · rw [if_neg m3, if_pos m4] at hk
    have hp : 0 < wf.length := List.length_pos_of_mem m4
    have q1 : 0 ≤ Int.tdiv (wo.length : Int) wf.length := Int.tdiv_nonneg (by omega) (by omega)
    have q2 : Int.tdiv (wo.length : Int) wf.length ≤ wo.length := Int.tdiv_le_self _ (by omega)
    have q3 : 1 ≤ max1 (Int.tdiv (wo.length : Int) wf.length) ∧ max1 (Int.tdiv (wo.length : Int) wf.length) ≤ 16 := ⟨max1_pos _, by unfold max1; split <;> omega⟩
    rw [mx]
    refine ⟨⟨by omega, inR (by omega) (by omega)⟩, inR (by omega) (by omega), ?_⟩
    have e : (if t - max1 (Int.tdiv (wo.length : Int) wf.length) < 0 then (0 : Int) else t - max1 (Int.tdiv (wo.length : Int) wf.length)) = (if 0 < t - max1 (Int.tdiv (wo.length : Int) wf.length) then t - max1 (Int.tdiv (wo.length : Int) wf.length) else 0) := by split <;> split <;> omega
    rw [e]; exact hk
  · rw [if_neg m3, if_neg m4] at hk
    exact hk
-- impl.UseLists
def T5_impl_UseLists_j0 (a0Room : Int) (key1 : Int) (nextTarget23 : Int) (withoutKey31 : List Int) (xb6c2 : List Int) (xb6c4 : List Int) (xb6c5 : List Int) (xhit7 : Bool) (xknown9 : Bool) (k : Int → Int → List Int → List Int → List Int → List Int → Bool → Prop) : Prop :=
  (F_impl_putFirst xb6c4 (List.getD xb6c2 (Int.toNat ((xb6c2.length : Int) - 1)) (0 : Int)) fun putFirst15 =>
    ((br xknown9
        (F_impl_putFirst withoutKey31 key1 fun putFirst84 =>
          k a0Room nextTarget23 (List.take (Int.toNat ((xb6c2.length : Int) - 1)) (List.drop 0 xb6c2)) putFirst84 putFirst15 xb6c5 xhit7)
        (F_impl_putFirst (List.take (Int.toNat ((xb6c2.length : Int) - 1)) (List.drop 0 xb6c2)) key1 fun putFirst89 =>
          k a0Room nextTarget23 putFirst89 withoutKey31 putFirst15 xb6c5 xhit7)) ∧
      (True)) ∧
    (True)) ∧
  (True)
def T5_impl_UseLists_j1 (a0Room : Int) (key1 : Int) (nextTarget23 : Int) (withoutKey31 : List Int) (xb6c2 : List Int) (xb6c4 : List Int) (xb6c5 : List Int) (xhit7 : Bool) (xknown9 : Bool) (k : Int → Int → List Int → List Int → List Int → List Int → Bool → Prop) : Prop :=
  ((InR ((xb6c2.length : Int) - 1) ∧
      (0 ≤ ((xb6c2.length : Int) - 1) ∧ ((xb6c2.length : Int) - 1) < (xb6c2.length : Int)) ∧
      (InR ((xb6c2.length : Int) - 1) ∧
        (0 ≤ ((xb6c2.length : Int) - 1) ∧ ((xb6c2.length : Int) - 1) ≤ (xb6c2.length : Int)) ∧
        (T5_impl_UseLists_j0 a0Room key1 nextTarget23 withoutKey31 xb6c2 xb6c4 xb6c5 xhit7 xknown9 k) ∧
        (True)) ∧
      (((InR ((xb6c2.length : Int) - 1) ∧
            (0 ≤ ((xb6c2.length : Int) - 1) ∧ ((xb6c2.length : Int) - 1) ≤ (xb6c2.length : Int)) ∧
            T5_impl_UseLists_j0 a0Room key1 nextTarget23 withoutKey31 xb6c2 xb6c4 xb6c5 xhit7 xknown9 k) ∧
          (True)) ∧
        (True))) ∧
    (True)) ∧
  (True)
def T5_impl_UseLists (a0Room : Int) (key1 : Int) (nextTarget23 : Int) (withoutKey31 : List Int) (xb6c2 : List Int) (xb6c4 : List Int) (xb6c5 : List Int) (xhit7 : Bool) (xknown9 : Bool) (k : Int → Int → List Int → List Int → List Int → List Int → Bool → Prop) : Prop :=
  (T5_impl_UseLists_j1 a0Room key1 nextTarget23 withoutKey31 xb6c2 xb6c4 xb6c5 xhit7 xknown9 k) ∧
  ((T5_impl_UseLists_j1 a0Room key1 nextTarget23 withoutKey31 xb6c2 xb6c4 xb6c5 xhit7 xknown9 k) ∧
    (True))
def U5_impl_UseLists (a0Room : Int) (key1 : Int) (nextTarget23 : Int) (withoutKey31 : List Int) (xb6c2 : List Int) (xb6c4 : List Int) (xb6c5 : List Int) (xhit7 : Bool) (xknown9 : Bool) (k : Int → Int → List Int → List Int → List Int → List Int → Bool → Prop) : Prop :=
  InR ((xb6c2.length : Int) - 1) ∧
  (0 ≤ ((xb6c2.length : Int) - 1) ∧ ((xb6c2.length : Int) - 1) < (xb6c2.length : Int)) ∧
  InR ((xb6c2.length : Int) - 1) ∧
  (0 ≤ ((xb6c2.length : Int) - 1) ∧ ((xb6c2.length : Int) - 1) ≤ (xb6c2.length : Int)) ∧
  F_impl_putFirst xb6c4 (List.getD xb6c2 (Int.toNat ((xb6c2.length : Int) - 1)) (0 : Int)) fun putFirst15 =>
  br xknown9
  (F_impl_putFirst withoutKey31 key1 fun putFirst84 =>
    k a0Room nextTarget23 (List.take (Int.toNat ((xb6c2.length : Int) - 1)) (List.drop 0 xb6c2)) putFirst84 putFirst15 xb6c5 xhit7)
  (F_impl_putFirst (List.take (Int.toNat ((xb6c2.length : Int) - 1)) (List.drop 0 xb6c2)) key1 fun putFirst89 =>
    k a0Room nextTarget23 putFirst89 withoutKey31 putFirst15 xb6c5 xhit7)
theorem T5_impl_UseLists_eq (a0Room : Int) (key1 : Int) (nextTarget23 : Int) (withoutKey31 : List Int) (xb6c2 : List Int) (xb6c4 : List Int) (xb6c5 : List Int) (xhit7 : Bool) (xknown9 : Bool) (k : Int → Int → List Int → List Int → List Int → List Int → Bool → Prop) : T5_impl_UseLists a0Room key1 nextTarget23 withoutKey31 xb6c2 xb6c4 xb6c5 xhit7 xknown9 k = U5_impl_UseLists a0Room key1 nextTarget23 withoutKey31 xb6c2 xb6c4 xb6c5 xhit7 xknown9 k := by
  first
  | (simp only [T5_impl_UseLists, U5_impl_UseLists, T5_impl_UseLists_j0, T5_impl_UseLists_j1, and_self, and_true]; done)
  | (simp only [T5_impl_UseLists, U5_impl_UseLists, T5_impl_UseLists_j0, T5_impl_UseLists_j1, and_self, and_true, and_self_left, and_assoc]; refine propext ⟨fun h => ?_, fun h => ?_⟩ <;> (repeat (cases ‹_ ∧ _›)) <;> (repeat' (apply And.intro)) <;> assumption)
def L5_impl_UseLists (a0Room : Int) (key1 : Int) (nextTarget23 : Int) (withoutKey31 : List Int) (xb6c2 : List Int) (xb6c4 : List Int) (xb6c5 : List Int) (xhit7 : Bool) (xknown9 : Bool) (k : Int → Int → List Int → List Int → List Int → List Int → Bool → Prop) : Prop := U5_impl_UseLists a0Room key1 nextTarget23 withoutKey31 xb6c2 xb6c4 xb6c5 xhit7 xknown9 k
def T4_impl_UseLists_j0 (a0Room : Int) (key1 : Int) (nextTarget23 : Int) (withoutKey31 : List Int) (xb6c2 : List Int) (xb6c4 : List Int) (xb6c5 : List Int) (xhit7 : Bool) (xknown9 : Bool) (k : Int → Int → List Int → List Int → List Int → List Int → Bool → Prop) : Prop :=
  (F_impl_putFirst xb6c5 (List.getD withoutKey31 (Int.toNat ((withoutKey31.length : Int) - 1)) (0 : Int)) fun putFirst15 =>
    ((br xknown9
        (F_impl_putFirst (List.take (Int.toNat ((withoutKey31.length : Int) - 1)) (List.drop 0 withoutKey31)) key1 fun putFirst84 =>
          k a0Room nextTarget23 xb6c2 putFirst84 xb6c4 putFirst15 xhit7)
        (F_impl_putFirst xb6c2 key1 fun putFirst89 =>
          k a0Room nextTarget23 putFirst89 (List.take (Int.toNat ((withoutKey31.length : Int) - 1)) (List.drop 0 withoutKey31)) xb6c4 putFirst15 xhit7)) ∧
      (True)) ∧
    (True)) ∧
  (True)
def T4_impl_UseLists_j1 (a0Room : Int) (key1 : Int) (nextTarget23 : Int) (withoutKey31 : List Int) (xb6c2 : List Int) (xb6c4 : List Int) (xb6c5 : List Int) (xhit7 : Bool) (xknown9 : Bool) (k : Int → Int → List Int → List Int → List Int → List Int → Bool → Prop) : Prop :=
  ((InR ((withoutKey31.length : Int) - 1) ∧
      (0 ≤ ((withoutKey31.length : Int) - 1) ∧ ((withoutKey31.length : Int) - 1) < (withoutKey31.length : Int)) ∧
      (InR ((withoutKey31.length : Int) - 1) ∧
        (0 ≤ ((withoutKey31.length : Int) - 1) ∧ ((withoutKey31.length : Int) - 1) ≤ (withoutKey31.length : Int)) ∧
        (T4_impl_UseLists_j0 a0Room key1 nextTarget23 withoutKey31 xb6c2 xb6c4 xb6c5 xhit7 xknown9 k) ∧
        (True)) ∧
      (((InR ((withoutKey31.length : Int) - 1) ∧
            (0 ≤ ((withoutKey31.length : Int) - 1) ∧ ((withoutKey31.length : Int) - 1) ≤ (withoutKey31.length : Int)) ∧
            T4_impl_UseLists_j0 a0Room key1 nextTarget23 withoutKey31 xb6c2 xb6c4 xb6c5 xhit7 xknown9 k) ∧
          (True)) ∧
        (True))) ∧
    (True)) ∧
  (True)
def T4_impl_UseLists (a0Room : Int) (key1 : Int) (nextTarget23 : Int) (withoutKey31 : List Int) (xb6c2 : List Int) (xb6c4 : List Int) (xb6c5 : List Int) (xhit7 : Bool) (xknown9 : Bool) (xmany4i1 : Bool) (xenough5i1 : Bool) (k : Int → Int → List Int → List Int → List Int → List Int → Bool → Prop) (I5 : Int → Int → Int → List Int → List Int → List Int → List Int → Bool → Bool → Prop) : Prop :=
  br xmany4i1
  (I5 a0Room key1 nextTarget23 withoutKey31 xb6c2 xb6c4 xb6c5 xhit7 xknown9)
  (br xenough5i1
    (I5 a0Room key1 nextTarget23 withoutKey31 xb6c2 xb6c4 xb6c5 xhit7 xknown9)
    (br ((withoutKey31.length : Int) == 0)
      (I5 a0Room key1 nextTarget23 withoutKey31 xb6c2 xb6c4 xb6c5 xhit7 xknown9)
      ((T4_impl_UseLists_j1 a0Room key1 nextTarget23 withoutKey31 xb6c2 xb6c4 xb6c5 xhit7 xknown9 k) ∧
        ((T4_impl_UseLists_j1 a0Room key1 nextTarget23 withoutKey31 xb6c2 xb6c4 xb6c5 xhit7 xknown9 k) ∧
          (True)))))
def U4_impl_UseLists (a0Room : Int) (key1 : Int) (nextTarget23 : Int) (withoutKey31 : List Int) (xb6c2 : List Int) (xb6c4 : List Int) (xb6c5 : List Int) (xhit7 : Bool) (xknown9 : Bool) (xmany4i1 : Bool) (xenough5i1 : Bool) (k : Int → Int → List Int → List Int → List Int → List Int → Bool → Prop) (I5 : Int → Int → Int → List Int → List Int → List Int → List Int → Bool → Bool → Prop) : Prop :=
  br xmany4i1
  (I5 a0Room key1 nextTarget23 withoutKey31 xb6c2 xb6c4 xb6c5 xhit7 xknown9)
  (br xenough5i1
    (I5 a0Room key1 nextTarget23 withoutKey31 xb6c2 xb6c4 xb6c5 xhit7 xknown9)
    (br ((withoutKey31.length : Int) == 0)
      (I5 a0Room key1 nextTarget23 withoutKey31 xb6c2 xb6c4 xb6c5 xhit7 xknown9)
      (InR ((withoutKey31.length : Int) - 1) ∧
        (0 ≤ ((withoutKey31.length : Int) - 1) ∧ ((withoutKey31.length : Int) - 1) < (withoutKey31.length : Int)) ∧
        InR ((withoutKey31.length : Int) - 1) ∧
        (0 ≤ ((withoutKey31.length : Int) - 1) ∧ ((withoutKey31.length : Int) - 1) ≤ (withoutKey31.length : Int)) ∧
        F_impl_putFirst xb6c5 (List.getD withoutKey31 (Int.toNat ((withoutKey31.length : Int) - 1)) (0 : Int)) fun putFirst15 =>
        br xknown9
        (F_impl_putFirst (List.take (Int.toNat ((withoutKey31.length : Int) - 1)) (List.drop 0 withoutKey31)) key1 fun putFirst84 =>
          k a0Room nextTarget23 xb6c2 putFirst84 xb6c4 putFirst15 xhit7)
        (F_impl_putFirst xb6c2 key1 fun putFirst89 =>
          k a0Room nextTarget23 putFirst89 (List.take (Int.toNat ((withoutKey31.length : Int) - 1)) (List.drop 0 withoutKey31)) xb6c4 putFirst15 xhit7))))
theorem T4_impl_UseLists_eq (a0Room : Int) (key1 : Int) (nextTarget23 : Int) (withoutKey31 : List Int) (xb6c2 : List Int) (xb6c4 : List Int) (xb6c5 : List Int) (xhit7 : Bool) (xknown9 : Bool) (xmany4i1 : Bool) (xenough5i1 : Bool) (k : Int → Int → List Int → List Int → List Int → List Int → Bool → Prop) (I5 : Int → Int → Int → List Int → List Int → List Int → List Int → Bool → Bool → Prop) : T4_impl_UseLists a0Room key1 nextTarget23 withoutKey31 xb6c2 xb6c4 xb6c5 xhit7 xknown9 xmany4i1 xenough5i1 k I5 = U4_impl_UseLists a0Room key1 nextTarget23 withoutKey31 xb6c2 xb6c4 xb6c5 xhit7 xknown9 xmany4i1 xenough5i1 k I5 := by
  first
  | (simp only [T4_impl_UseLists, U4_impl_UseLists, T4_impl_UseLists_j0, T4_impl_UseLists_j1, and_self, and_true]; done)
  | (simp only [T4_impl_UseLists, U4_impl_UseLists, T4_impl_UseLists_j0, T4_impl_UseLists_j1, and_self, and_true, and_self_left, and_assoc]; refine propext ⟨fun h => ?_, fun h => ?_⟩ <;> (repeat (cases ‹_ ∧ _›)) <;> (repeat' (apply And.intro)) <;> assumption)
def L4_impl_UseLists (a0Room : Int) (key1 : Int) (nextTarget23 : Int) (withoutKey31 : List Int) (xb6c2 : List Int) (xb6c4 : List Int) (xb6c5 : List Int) (xhit7 : Bool) (xknown9 : Bool) (k : Int → Int → List Int → List Int → List Int → List Int → Bool → Prop) (xmany4i1 : Bool) (xenough5i1 : Bool) : Prop := U4_impl_UseLists a0Room key1 nextTarget23 withoutKey31 xb6c2 xb6c4 xb6c5 xhit7 xknown9 xmany4i1 xenough5i1 k (fun a0Room key1 nextTarget23 withoutKey31 xb6c2 xb6c4 xb6c5 xhit7 xknown9 => L5_impl_UseLists a0Room key1 nextTarget23 withoutKey31 xb6c2 xb6c4 xb6c5 xhit7 xknown9 k)
def T3_impl_UseLists (a0Room : Int) (contains54 : Bool) (key1 : Int) (nextTarget23 : Int) (withoutKey31 : List Int) (xhit7 : Bool) (xknown9 : Bool) (xb6c2 : List Int) (xb6c4 : List Int) (xb6c5 : List Int) (k : Int → Int → List Int → List Int → List Int → List Int → Bool → Prop) (I4 : Int → Int → Int → List Int → List Int → List Int → List Int → Bool → Bool → Bool → Bool → Prop) : Prop :=
  InR ((xb6c2.length : Int) + (withoutKey31.length : Int)) ∧
  br (((xb6c2.length : Int) + (withoutKey31.length : Int)) == a0Room)
  (br contains54
    (br (decide ((xb6c2.length : Int) > 0))
      (I4 a0Room key1 nextTarget23 withoutKey31 xb6c2 xb6c4 xb6c5 xhit7 xknown9 (decide ((xb6c2.length : Int) > nextTarget23)) ((xb6c2.length : Int) == nextTarget23))
      (I4 a0Room key1 nextTarget23 withoutKey31 xb6c2 xb6c4 xb6c5 xhit7 xknown9 (decide ((xb6c2.length : Int) > nextTarget23)) false))
    (I4 a0Room key1 nextTarget23 withoutKey31 xb6c2 xb6c4 xb6c5 xhit7 xknown9 (decide ((xb6c2.length : Int) > nextTarget23)) false))
  (br xknown9
    (F_impl_putFirst withoutKey31 key1 fun putFirst84 =>
      k a0Room nextTarget23 xb6c2 putFirst84 xb6c4 xb6c5 xhit7)
    (F_impl_putFirst xb6c2 key1 fun putFirst89 =>
      k a0Room nextTarget23 putFirst89 withoutKey31 xb6c4 xb6c5 xhit7))
def L3_impl_UseLists (a0Room : Int) (contains54 : Bool) (key1 : Int) (nextTarget23 : Int) (withoutKey31 : List Int) (xhit7 : Bool) (xknown9 : Bool) (k : Int → Int → List Int → List Int → List Int → List Int → Bool → Prop) (xb6c2 : List Int) (xb6c4 : List Int) (xb6c5 : List Int) : Prop := T3_impl_UseLists a0Room contains54 key1 nextTarget23 withoutKey31 xhit7 xknown9 xb6c2 xb6c4 xb6c5 k (fun a0Room key1 nextTarget23 withoutKey31 xb6c2 xb6c4 xb6c5 xhit7 xknown9 xmany4i1 xenough5i1 => L4_impl_UseLists a0Room key1 nextTarget23 withoutKey31 xb6c2 xb6c4 xb6c5 xhit7 xknown9 k xmany4i1 xenough5i1)
def T2_impl_UseLists_j0 (a0Room : Int) (contains54 : Bool) (key1 : Int) (nextTarget23 : Int) (withoutKey27 : List Int) (withoutKey31 : List Int) (withoutKey35 : List Int) (withoutKey39 : List Int) (xhit7 : Bool) (xknown9 : Bool) (I3 : Int → Bool → Int → Int → List Int → Bool → Bool → List Int → List Int → List Int → Prop) : Prop :=
  br (((withoutKey27.length : Int) + (withoutKey35.length : Int)) == a0Room)
  (InR ((withoutKey27.length : Int) - 1) ∧
    (0 ≤ ((withoutKey27.length : Int) - 1) ∧ ((withoutKey27.length : Int) - 1) ≤ (withoutKey27.length : Int)) ∧
    I3 a0Room contains54 key1 nextTarget23 withoutKey31 xhit7 xknown9 (List.take (Int.toNat ((withoutKey27.length : Int) - 1)) (List.drop 0 withoutKey27)) withoutKey35 withoutKey39)
  (InR (((withoutKey27.length : Int) + (withoutKey35.length : Int)) + ((withoutKey31.length : Int) + (withoutKey39.length : Int))) ∧
    InR (2 * a0Room) ∧
    br ((((withoutKey27.length : Int) + (withoutKey35.length : Int)) + ((withoutKey31.length : Int) + (withoutKey39.length : Int))) == (2 * a0Room))
    (InR ((withoutKey39.length : Int) - 1) ∧
      (0 ≤ ((withoutKey39.length : Int) - 1) ∧ ((withoutKey39.length : Int) - 1) ≤ (withoutKey39.length : Int)) ∧
      I3 a0Room contains54 key1 nextTarget23 withoutKey31 xhit7 xknown9 withoutKey27 withoutKey35 (List.take (Int.toNat ((withoutKey39.length : Int) - 1)) (List.drop 0 withoutKey39)))
    (I3 a0Room contains54 key1 nextTarget23 withoutKey31 xhit7 xknown9 withoutKey27 withoutKey35 withoutKey39))
def T2_impl_UseLists (a0Room : Int) (contains54 : Bool) (key1 : Int) (nextTarget23 : Int) (withoutKey27 : List Int) (withoutKey31 : List Int) (withoutKey35 : List Int) (withoutKey39 : List Int) (xhit7 : Bool) (xknown9 : Bool) (I3 : Int → Bool → Int → Int → List Int → Bool → Bool → List Int → List Int → List Int → Prop) : Prop :=
  br (!xknown9)
  (InR ((withoutKey27.length : Int) + (withoutKey35.length : Int)) ∧
    InR ((withoutKey31.length : Int) + (withoutKey39.length : Int)) ∧
    br (((withoutKey27.length : Int) + (withoutKey35.length : Int)) == a0Room)
    (br (decide ((withoutKey35.length : Int) > 0))
      (InR ((withoutKey35.length : Int) - 1) ∧
        (0 ≤ ((withoutKey35.length : Int) - 1) ∧ ((withoutKey35.length : Int) - 1) ≤ (withoutKey35.length : Int)) ∧
        I3 a0Room contains54 key1 nextTarget23 withoutKey31 xhit7 xknown9 withoutKey27 (List.take (Int.toNat ((withoutKey35.length : Int) - 1)) (List.drop 0 withoutKey35)) withoutKey39)
      (T2_impl_UseLists_j0 a0Room contains54 key1 nextTarget23 withoutKey27 withoutKey31 withoutKey35 withoutKey39 xhit7 xknown9 I3))
    (T2_impl_UseLists_j0 a0Room contains54 key1 nextTarget23 withoutKey27 withoutKey31 withoutKey35 withoutKey39 xhit7 xknown9 I3))
  (I3 a0Room contains54 key1 nextTarget23 withoutKey31 xhit7 xknown9 withoutKey27 withoutKey35 withoutKey39)
def L2_impl_UseLists (a0Room : Int) (contains54 : Bool) (key1 : Int) (nextTarget23 : Int) (withoutKey27 : List Int) (withoutKey31 : List Int) (withoutKey35 : List Int) (withoutKey39 : List Int) (xhit7 : Bool) (k : Int → Int → List Int → List Int → List Int → List Int → Bool → Prop) (xknown9 : Bool) : Prop := T2_impl_UseLists a0Room contains54 key1 nextTarget23 withoutKey27 withoutKey31 withoutKey35 withoutKey39 xhit7 xknown9 (fun a0Room contains54 key1 nextTarget23 withoutKey31 xhit7 xknown9 xb6c2 xb6c4 xb6c5 => L3_impl_UseLists a0Room contains54 key1 nextTarget23 withoutKey31 xhit7 xknown9 k xb6c2 xb6c4 xb6c5)
def T1_impl_UseLists (a0Often : List Int) (a0Once : List Int) (a0Room : Int) (a0Target : Int) (a0WasOften : List Int) (a0WasOnce : List Int) (key1 : Int) (nextTarget23 : Int) (withoutKey27 : List Int) (withoutKey31 : List Int) (withoutKey35 : List Int) (withoutKey39 : List Int) (xhit7 : Bool) (I2 : Int → Bool → Int → Int → List Int → List Int → List Int → List Int → Bool → Bool → Prop) : Prop :=
  F_slices_Contains_sint_int a0WasOften key1 fun contains54 =>
  br xhit7
  (I2 a0Room contains54 key1 nextTarget23 withoutKey27 withoutKey31 withoutKey35 withoutKey39 xhit7 true)
  (br contains54
    (I2 a0Room contains54 key1 nextTarget23 withoutKey27 withoutKey31 withoutKey35 withoutKey39 xhit7 true)
    (F_slices_Contains_sint_int a0WasOnce key1 fun contains63 =>
      I2 a0Room contains54 key1 nextTarget23 withoutKey27 withoutKey31 withoutKey35 withoutKey39 xhit7 contains63))
def L1_impl_UseLists (a0Often : List Int) (a0Once : List Int) (a0Room : Int) (a0Target : Int) (a0WasOften : List Int) (a0WasOnce : List Int) (key1 : Int) (nextTarget23 : Int) (withoutKey27 : List Int) (withoutKey31 : List Int) (withoutKey35 : List Int) (withoutKey39 : List Int) (k : Int → Int → List Int → List Int → List Int → List Int → Bool → Prop) (xhit7 : Bool) : Prop := T1_impl_UseLists a0Often a0Once a0Room a0Target a0WasOften a0WasOnce key1 nextTarget23 withoutKey27 withoutKey31 withoutKey35 withoutKey39 xhit7 (fun a0Room contains54 key1 nextTarget23 withoutKey27 withoutKey31 withoutKey35 withoutKey39 xhit7 xknown9 => L2_impl_UseLists a0Room contains54 key1 nextTarget23 withoutKey27 withoutKey31 withoutKey35 withoutKey39 xhit7 k xknown9)
def T0_impl_UseLists (a0Often : List Int) (a0Once : List Int) (a0Room : Int) (a0Target : Int) (a0WasOften : List Int) (a0WasOnce : List Int) (key1 : Int) (nextTarget23 : Int) (withoutKey27 : List Int) (withoutKey31 : List Int) (withoutKey35 : List Int) (withoutKey39 : List Int) (I1 : List Int → List Int → Int → Int → List Int → List Int → Int → Int → List Int → List Int → List Int → List Int → Bool → Prop) : Prop :=
  F_slices_Contains_sint_int a0Once key1 fun contains44 =>
  br contains44
  (I1 a0Often a0Once a0Room a0Target a0WasOften a0WasOnce key1 nextTarget23 withoutKey27 withoutKey31 withoutKey35 withoutKey39 true)
  (F_slices_Contains_sint_int a0Often key1 fun contains49 =>
    I1 a0Often a0Once a0Room a0Target a0WasOften a0WasOnce key1 nextTarget23 withoutKey27 withoutKey31 withoutKey35 withoutKey39 contains49)
def L0_impl_UseLists (a0Often : List Int) (a0Once : List Int) (a0Room : Int) (a0Target : Int) (a0WasOften : List Int) (a0WasOnce : List Int) (key1 : Int) (nextTarget23 : Int) (withoutKey27 : List Int) (withoutKey31 : List Int) (withoutKey35 : List Int) (withoutKey39 : List Int) (k : Int → Int → List Int → List Int → List Int → List Int → Bool → Prop) : Prop := T0_impl_UseLists a0Often a0Once a0Room a0Target a0WasOften a0WasOnce key1 nextTarget23 withoutKey27 withoutKey31 withoutKey35 withoutKey39 (fun a0Often a0Once a0Room a0Target a0WasOften a0WasOnce key1 nextTarget23 withoutKey27 withoutKey31 withoutKey35 withoutKey39 xhit7 => L1_impl_UseLists a0Often a0Once a0Room a0Target a0WasOften a0WasOnce key1 nextTarget23 withoutKey27 withoutKey31 withoutKey35 withoutKey39 k xhit7)
def G_impl_UseLists_j0 (a0Often : List Int) (a0Once : List Int) (a0Room : Int) (a0Target : Int) (a0WasOften : List Int) (a0WasOnce : List Int) (key1 : Int) (nextTarget23 : Int) (withoutKey27 : List Int) (withoutKey31 : List Int) (withoutKey35 : List Int) (withoutKey39 : List Int) (I0 : List Int → List Int → Int → Int → List Int → List Int → Int → Int → List Int → List Int → List Int → List Int → Prop) : Prop :=
  (I0 a0Often a0Once a0Room a0Target a0WasOften a0WasOnce key1 nextTarget23 withoutKey27 withoutKey31 withoutKey35 withoutKey39) ∧
  (True)
def G_impl_UseLists_j1 (a0Often : List Int) (a0Once : List Int) (a0Room : Int) (a0Target : Int) (a0WasOften : List Int) (a0WasOnce : List Int) (key1 : Int) (nextTarget23 : Int) (withoutKey27 : List Int) (withoutKey31 : List Int) (withoutKey35 : List Int) (I0 : List Int → List Int → Int → Int → List Int → List Int → Int → Int → List Int → List Int → List Int → List Int → Prop) : Prop :=
  (F_impl_withoutKey a0WasOften key1 fun withoutKey39 =>
    G_impl_UseLists_j0 a0Often a0Once a0Room a0Target a0WasOften a0WasOnce key1 nextTarget23 withoutKey27 withoutKey31 withoutKey35 withoutKey39 I0) ∧
  (True)
def G_impl_UseLists_j2 (a0Often : List Int) (a0Once : List Int) (a0Room : Int) (a0Target : Int) (a0WasOften : List Int) (a0WasOnce : List Int) (key1 : Int) (nextTarget23 : Int) (withoutKey27 : List Int) (withoutKey31 : List Int) (I0 : List Int → List Int → Int → Int → List Int → List Int → Int → Int → List Int → List Int → List Int → List Int → Prop) : Prop :=
  (F_impl_withoutKey a0WasOnce key1 fun withoutKey35 =>
    G_impl_UseLists_j1 a0Often a0Once a0Room a0Target a0WasOften a0WasOnce key1 nextTarget23 withoutKey27 withoutKey31 withoutKey35 I0) ∧
  (True)
def G_impl_UseLists_j3 (a0Often : List Int) (a0Once : List Int) (a0Room : Int) (a0Target : Int) (a0WasOften : List Int) (a0WasOnce : List Int) (key1 : Int) (nextTarget23 : Int) (withoutKey27 : List Int) (I0 : List Int → List Int → Int → Int → List Int → List Int → Int → Int → List Int → List Int → List Int → List Int → Prop) : Prop :=
  (F_impl_withoutKey a0Often key1 fun withoutKey31 =>
    G_impl_UseLists_j2 a0Often a0Once a0Room a0Target a0WasOften a0WasOnce key1 nextTarget23 withoutKey27 withoutKey31 I0) ∧
  (True)
def G_impl_UseLists_j4 (a0Often : List Int) (a0Once : List Int) (a0Room : Int) (a0Target : Int) (a0WasOften : List Int) (a0WasOnce : List Int) (key1 : Int) (nextTarget23 : Int) (I0 : List Int → List Int → Int → Int → List Int → List Int → Int → Int → List Int → List Int → List Int → List Int → Prop) : Prop :=
  (F_impl_withoutKey a0Once key1 fun withoutKey27 =>
    G_impl_UseLists_j3 a0Often a0Once a0Room a0Target a0WasOften a0WasOnce key1 nextTarget23 withoutKey27 I0) ∧
  (True)
def G_impl_UseLists (a0Room : Int) (a0Target : Int) (a0Once : List Int) (a0Often : List Int) (a0WasOnce : List Int) (a0WasOften : List Int) (key1 : Int) (k : Int → Int → List Int → List Int → List Int → List Int → Bool → Prop) (I0 : List Int → List Int → Int → Int → List Int → List Int → Int → Int → List Int → List Int → List Int → List Int → Prop) : Prop :=
  F_impl_ValidLists a0Room a0Target a0Once a0Often a0WasOnce a0WasOften fun validLists11 =>
  br (!validLists11)
  (k 0 0 ([] : List Int) ([] : List Int) ([] : List Int) ([] : List Int) false)
  (F_impl_validKey key1 fun validKey15 =>
    br (!validKey15)
    (k 0 0 ([] : List Int) ([] : List Int) ([] : List Int) ([] : List Int) false)
    ((F_impl_nextTarget a0Room a0Target a0Once a0Often a0WasOnce a0WasOften key1 fun nextTarget23 =>
        (F_impl_withoutKey a0Once key1 fun withoutKey27 =>
          (F_impl_withoutKey a0Often key1 fun withoutKey31 =>
            (F_impl_withoutKey a0WasOnce key1 fun withoutKey35 =>
              (F_impl_withoutKey a0WasOften key1 fun withoutKey39 =>
                (G_impl_UseLists_j0 a0Often a0Once a0Room a0Target a0WasOften a0WasOnce key1 nextTarget23 withoutKey27 withoutKey31 withoutKey35 withoutKey39 I0) ∧
                (True)) ∧
              ((G_impl_UseLists_j1 a0Often a0Once a0Room a0Target a0WasOften a0WasOnce key1 nextTarget23 withoutKey27 withoutKey31 withoutKey35 I0) ∧
                (True))) ∧
            ((G_impl_UseLists_j2 a0Often a0Once a0Room a0Target a0WasOften a0WasOnce key1 nextTarget23 withoutKey27 withoutKey31 I0) ∧
              (True))) ∧
          ((G_impl_UseLists_j3 a0Often a0Once a0Room a0Target a0WasOften a0WasOnce key1 nextTarget23 withoutKey27 I0) ∧
            (True))) ∧
        ((G_impl_UseLists_j4 a0Often a0Once a0Room a0Target a0WasOften a0WasOnce key1 nextTarget23 I0) ∧
          (True))) ∧
      (((F_impl_nextTarget a0Room a0Target a0Once a0Often a0WasOnce a0WasOften key1 fun nextTarget23 =>
            G_impl_UseLists_j4 a0Often a0Once a0Room a0Target a0WasOften a0WasOnce key1 nextTarget23 I0) ∧
          (True)) ∧
        (True))))
def H_impl_UseLists (a0Room : Int) (a0Target : Int) (a0Once : List Int) (a0Often : List Int) (a0WasOnce : List Int) (a0WasOften : List Int) (key1 : Int) (k : Int → Int → List Int → List Int → List Int → List Int → Bool → Prop) (I0 : List Int → List Int → Int → Int → List Int → List Int → Int → Int → List Int → List Int → List Int → List Int → Prop) : Prop :=
  F_impl_ValidLists a0Room a0Target a0Once a0Often a0WasOnce a0WasOften fun validLists11 =>
  br (!validLists11)
  (k 0 0 ([] : List Int) ([] : List Int) ([] : List Int) ([] : List Int) false)
  (F_impl_validKey key1 fun validKey15 =>
    br (!validKey15)
    (k 0 0 ([] : List Int) ([] : List Int) ([] : List Int) ([] : List Int) false)
    (F_impl_nextTarget a0Room a0Target a0Once a0Often a0WasOnce a0WasOften key1 fun nextTarget23 =>
      F_impl_withoutKey a0Once key1 fun withoutKey27 =>
      F_impl_withoutKey a0Often key1 fun withoutKey31 =>
      F_impl_withoutKey a0WasOnce key1 fun withoutKey35 =>
      F_impl_withoutKey a0WasOften key1 fun withoutKey39 =>
      I0 a0Often a0Once a0Room a0Target a0WasOften a0WasOnce key1 nextTarget23 withoutKey27 withoutKey31 withoutKey35 withoutKey39))
theorem G_impl_UseLists_eq (a0Room : Int) (a0Target : Int) (a0Once : List Int) (a0Often : List Int) (a0WasOnce : List Int) (a0WasOften : List Int) (key1 : Int) (k : Int → Int → List Int → List Int → List Int → List Int → Bool → Prop) (I0 : List Int → List Int → Int → Int → List Int → List Int → Int → Int → List Int → List Int → List Int → List Int → Prop) : G_impl_UseLists a0Room a0Target a0Once a0Often a0WasOnce a0WasOften key1 k I0 = H_impl_UseLists a0Room a0Target a0Once a0Often a0WasOnce a0WasOften key1 k I0 := by
  first
  | (simp only [G_impl_UseLists, H_impl_UseLists, G_impl_UseLists_j0, G_impl_UseLists_j1, G_impl_UseLists_j2, G_impl_UseLists_j3, G_impl_UseLists_j4, and_self, and_true]; done)
  | (simp only [G_impl_UseLists, H_impl_UseLists, G_impl_UseLists_j0, G_impl_UseLists_j1, G_impl_UseLists_j2, G_impl_UseLists_j3, G_impl_UseLists_j4, and_self, and_true, and_self_left, and_assoc]; refine propext ⟨fun h => ?_, fun h => ?_⟩ <;> (repeat (cases ‹_ ∧ _›)) <;> (repeat' (apply And.intro)) <;> assumption)
def S_impl_UseLists (a0Room : Int) (a0Target : Int) (a0Once : List Int) (a0Often : List Int) (a0WasOnce : List Int) (a0WasOften : List Int) (key1 : Int) (k : Int → Int → List Int → List Int → List Int → List Int → Bool → Prop) : Prop := H_impl_UseLists a0Room a0Target a0Once a0Often a0WasOnce a0WasOften key1 k (fun a0Often a0Once a0Room a0Target a0WasOften a0WasOnce key1 nextTarget23 withoutKey27 withoutKey31 withoutKey35 withoutKey39 => L0_impl_UseLists a0Often a0Once a0Room a0Target a0WasOften a0WasOnce key1 nextTarget23 withoutKey27 withoutKey31 withoutKey35 withoutKey39 k)
def F_impl_UseLists (r t : Int) (o f wo wf : List Int) (key : Int) (k : Int → Int → List Int → List Int → List Int → List Int → Bool → Prop) : Prop :=
  (o.length ≤ 100000000 ∧ f.length ≤ 100000000 ∧ wo.length ≤ 100000000 ∧ wf.length ≤ 100000000) ∧
  ((VLists r ⟨t, o, f, wo, wf⟩ ∧ 0 ≤ key ∧ key ≤ 31) → k r (adM r ⟨t, o, f, wo, wf⟩ key).1.t (adM r ⟨t, o, f, wo, wf⟩ key).1.o (adM r ⟨t, o, f, wo, wf⟩ key).1.f (adM r ⟨t, o, f, wo, wf⟩ key).1.wo (adM r ⟨t, o, f, wo, wf⟩ key).1.wf (adM r ⟨t, o, f, wo, wf⟩ key).2) ∧
  (¬ (VLists r ⟨t, o, f, wo, wf⟩ ∧ 0 ≤ key ∧ key ≤ 31) → k 0 0 [] [] [] [] false)
theorem F_impl_UseLists_S {r t : Int} {o f wo wf : List Int} {key : Int} {k : Int → Int → List Int → List Int → List Int → List Int → Bool → Prop} (h : F_impl_UseLists r t o f wo wf key k) : S_impl_UseLists r t o f wo wf key k := by
  obtain ⟨hl, hyes, hno⟩ := h
  refine ⟨hl, ?_⟩
  intro b hb
  refine br_not.2 (br_iff.2 ⟨fun e => ?_, fun e => hno fun w => by rw [hb.2 w.1] at e; cases e⟩)
  refine br_not.2 (br_dec.2 ⟨fun hkey => ?_, fun hkey => hno fun w => hkey w.2⟩)
  have v := hb.1 e
  have hk := hyes ⟨v, hkey⟩
  simp only [useL_adM v] at hk
  obtain ⟨l1, l2, l3, l4⟩ := lists_len v
  have r1 := v.room1
  have tg := v.tgt
  have hinc := v.inc
  have honc := v.onc
  have htot := v.tot
  simp only at l1 l2 l3 l4 tg hinc honc htot
  let K : Bool → Bool → AL → Prop := fun kn hit b => k r (inL (kn = true) key b).t (inL (kn = true) key b).o (inL (kn = true) key b).f (inL (kn = true) key b).wo (inL (kn = true) key b).wf hit
  have put : ∀ (kn hit : Bool) (b : AL), b.f.length ≤ 100 → b.o.length ≤ 100 → K kn hit b →
      br kn (F_impl_putFirst b.f key fun p => k r b.t b.o p b.wo b.wf hit) (F_impl_putFirst b.o key fun p => k r b.t p b.f b.wo b.wf hit) := by
    intro kn hit b g1 g2 hK
    cases kn
    · exact ⟨by omega, hK⟩
    · exact ⟨by omega, hK⟩
  have cut : ∀ l : List Int, 0 < l.length → l.length ≤ 100 → (((l.length : Int) - 1).toNat = l.length - 1) := fun l _ _ => by omega
  -- room is made
  have s5 : ∀ (t' : Int) (f o wo wf : List Int) (hit kn : Bool), 0 < o.length → o.length ≤ 50 → f.length ≤ 50 → wo.length ≤ 50 → wf.length ≤ 50 →
      K kn hit ⟨t', o.take (o.length - 1), f, lastI o :: wo, wf⟩ → L5_impl_UseLists r key t' f o wo wf hit kn k := by
    intro t' f o wo wf hit kn g1 g2 g3 g4 g5 hK
    refine ⟨inR (by omega) (by omega), ⟨by omega, by omega⟩, inR (by omega) (by omega), ⟨by omega, by omega⟩, by omega, ?_⟩
    rw [cut o g1 (by omega)]
    exact put kn hit ⟨t', o.take (o.length - 1), f, lastI o :: wo, wf⟩ (by simp only; omega) (by simp only [List.length_take]; omega) hK
  have s4 : ∀ (t' : Int) (f o wo wf : List Int) (hit kn was en : Bool), 0 ≤ t' → 0 < o.length + f.length → o.length ≤ 50 → f.length ≤ 50 → wo.length ≤ 50 → wf.length ≤ 50 →
      (en = true ↔ was = true ∧ 0 < o.length ∧ (o.length : Int) = t') →
      K kn hit (mkRoom was ⟨t', o, f, wo, wf⟩) → L4_impl_UseLists r key t' f o wo wf hit kn k (decide ((o.length : Int) > t')) en := by
    intro t' f o wo wf hit kn was en g0 g1 g2 g3 g4 g5 hen hK
    unfold mkRoom at hK
    have yes : ((0 < o.length ∧ ((o.length : Int) > t' ∨ was = true ∧ (o.length : Int) = t')) ∨ f.length = 0) → L5_impl_UseLists r key t' f o wo wf hit kn k := by
      intro c
      rw [if_pos c] at hK
      exact s5 t' f o wo wf hit kn (by omega) g2 g3 g4 g5 hK
    refine br_dec.2 ⟨fun c => yes (.inl ⟨by omega, .inl c⟩), fun c1 => br_iff.2 ⟨fun c => yes (.inl ⟨(hen.1 c).2.1, .inr ⟨(hen.1 c).1, (hen.1 c).2.2⟩⟩), fun c2 => br_beq.2 ⟨fun c => yes (.inr (by omega)), fun c3 => ?_⟩⟩⟩
    have hf : 0 < f.length := by omega
    rw [if_neg (fun c => by
      rcases c with ⟨c4, c5 | c5⟩ | c
      · exact c1 c5
      · rw [hen.2 ⟨c5.1, c4, c5.2⟩] at c2; cases c2
      · simp only at c; omega)] at hK
    refine ⟨inR (by omega) (by omega), ⟨by omega, by omega⟩, inR (by omega) (by omega), ⟨by omega, by omega⟩, by omega, ?_⟩
    rw [cut f hf (by omega)]
    exact put kn hit ⟨t', o, f.take (f.length - 1), wo, lastI f :: wf⟩ (by simp only [List.length_take]; omega) (by simp only; omega) hK
  have s3 : ∀ (t' : Int) (f o wo wf : List Int) (hit kn was : Bool), 0 ≤ t' → o.length ≤ 50 → f.length ≤ 50 → wo.length ≤ 50 → wf.length ≤ 50 →
      K kn hit (fitL r was ⟨t', o, f, wo, wf⟩) → L3_impl_UseLists r was key t' f hit kn k o wo wf := by
    intro t' f o wo wf hit kn was g0 g2 g3 g4 g5 hK
    refine ⟨inR (by omega) (by omega), br_beq.2 ⟨fun c => ?_, fun c => ?_⟩⟩
    · rw [fitL, if_pos c] at hK
      refine br_iff.2 ⟨fun hw => br_dec.2 ⟨fun ho => ?_, fun ho => ?_⟩, fun hw => ?_⟩
      · exact s4 t' f o wo wf hit kn was _ g0 (by omega) g2 g3 g4 g5 (by simp only [beq_iff_eq]; exact ⟨fun h => ⟨hw, by omega, h⟩, fun h => h.2.2⟩) hK
      · exact s4 t' f o wo wf hit kn was _ g0 (by omega) g2 g3 g4 g5 (by simp only [Bool.false_eq_true, false_iff]; intro h; omega) hK
      · exact s4 t' f o wo wf hit kn was _ g0 (by omega) g2 g3 g4 g5 (by rw [hw]; simp) hK
    · rw [fitL, if_neg c] at hK
      exact put kn hit ⟨t', o, f, wo, wf⟩ (by simp only; omega) (by simp only; omega) hK
  have s2 : ∀ (t' : Int) (f o wo wf : List Int) (hit kn was : Bool), 0 ≤ t' → o.length ≤ 50 → f.length ≤ 50 → wo.length ≤ 50 → wf.length ≤ 50 →
      (kn = false → (o.length : Int) + f.length ≤ r ∧ (o.length : Int) + wo.length ≤ r) →
      K kn hit (fitL r was (if kn = true then ⟨t', o, f, wo, wf⟩ else forgetL r ⟨t', o, f, wo, wf⟩)) → L2_impl_UseLists r was key t' o f wo wf hit k kn := by
    intro t' f o wo wf hit kn was g0 g2 g3 g4 g5 g6 hK
    refine br_not.2 (br_iff.2 ⟨fun c => ?_, fun c => ?_⟩)
    · rw [if_pos c] at hK
      exact s3 t' f o wo wf hit kn was g0 g2 g3 g4 g5 hK
    · obtain ⟨g7, g8⟩ := g6 c
      rw [if_neg (by rw [c]; simp)] at hK
      unfold forgetL at hK
      have tail : ¬ ((o.length : Int) + wo.length = r ∧ 0 < wo.length) → T2_impl_UseLists_j0 r was key t' o f wo wf hit kn (fun a0Room contains54 key1 nextTarget23 withoutKey31 xhit7 xknown9 xb6c2 xb6c4 xb6c5 => L3_impl_UseLists a0Room contains54 key1 nextTarget23 withoutKey31 xhit7 xknown9 k xb6c2 xb6c4 xb6c5) := by
        intro n1
        rw [if_neg n1] at hK
        refine br_beq.2 ⟨fun c => ?_, fun c => ⟨inR (by omega) (by omega), inR (by omega) (by omega), br_beq.2 ⟨fun c2 => ?_, fun c2 => ?_⟩⟩⟩
        · rw [if_pos c] at hK
          refine ⟨inR (by omega) (by omega), ⟨by omega, by omega⟩, ?_⟩
          rw [cut o (by omega) (by omega)]
          exact s3 t' f _ wo wf hit kn was g0 (by simp [List.length_take]; omega) g3 g4 g5 hK
        · rw [if_neg c, if_pos (show (o.length : Int) + wo.length + f.length + wf.length = 2 * r by omega)] at hK
          refine ⟨inR (by omega) (by omega), ⟨by omega, by omega⟩, ?_⟩
          rw [cut wf (by omega) (by omega)]
          exact s3 t' f o wo _ hit kn was g0 g2 g3 g4 (by simp [List.length_take]; omega) hK
        · rw [if_neg c, if_neg (show ¬ ((o.length : Int) + wo.length + f.length + wf.length = 2 * r) by omega)] at hK
          exact s3 t' f o wo wf hit kn was g0 g2 g3 g4 g5 hK
      refine ⟨inR (by omega) (by omega), inR (by omega) (by omega), br_beq.2 ⟨fun c1 => br_dec.2 ⟨fun c2 => ?_, fun c2 => tail (by omega)⟩, fun c1 => tail (by omega)⟩⟩
      rw [if_pos (show (o.length : Int) + wo.length = r ∧ 0 < wo.length from ⟨c1, by omega⟩)] at hK
      refine ⟨inR (by omega) (by omega), ⟨by omega, by omega⟩, ?_⟩
      rw [cut wo (by omega) (by omega)]
      exact s3 t' f o _ wf hit kn was g0 g2 g3 (by simp [List.length_take]; omega) g5 hK
  have b1 := @rmK_le o key
  have b2 := @rmK_le f key
  have b3 := @rmK_le wo key
  have b4 := @rmK_le wf key
  have nt : 0 ≤ nextT r ⟨t, o, f, wo, wf⟩ key := by
    unfold nextT
    have := max1_pos (Int.tdiv (wf.length : Int) wo.length)
    split
    · simp only; split <;> omega
    · split
      · simp only; split <;> omega
      · exact tg.1
  have fin : ∀ (kn hit : Bool), (kn = true ↔ knownL ⟨t, o, f, wo, wf⟩ key) → hit = decide (key ∈ o ∨ key ∈ f) →
      L2_impl_UseLists r (decide (key ∈ wf)) key (nextT r ⟨t, o, f, wo, wf⟩ key) (rmK o key) (rmK f key) (rmK wo key) (rmK wf key) hit k kn := by
    intro kn hit h1 h2
    refine s2 _ _ _ _ _ hit kn _ nt (by omega) (by omega) (by omega) (by omega) (fun _ => by omega) ?_
    show k r _ _ _ _ _ hit
    rw [h2]
    have e1 : ∀ b, inL (kn = true) key b = inL (knownL ⟨t, o, f, wo, wf⟩ key) key b := fun b => by unfold inL; simp only [h1]
    simp only [e1, h1]
    exact hk
  refine ⟨v, by omega, by omega, by omega, by omega, by omega, br_dec.2 ⟨fun m1 => ?_, fun m1 => ⟨by omega, ?_⟩⟩⟩
  · refine ⟨by omega, ?_⟩
    exact fin true true (by simp [knownL, m1]) (by simp [m1])
  · refine ⟨by omega, br_dec.2 ⟨fun m2 => ?_, fun m2 => br_dec.2 ⟨fun m4 => ?_, fun m4 => ⟨by omega, ?_⟩⟩⟩⟩
    · exact fin true _ (by simp [knownL, m2]) (by simp [m1])
    · exact fin true _ (by simp [knownL, m4]) (by simp [m1])
    · exact fin _ _ (by simp [knownL, m1, m2, m4]) (by simp [m1])
-- impl.useAll[impl.Lists]
def T0_impl_useAll_Lists_UseLists (t0 : List Int) (xt14 : Int) (xhits8 : Int) (xt15 : Int) (xb4c0 : Int) (xb4c1 : Int) (xb4c2 : List Int) (xb4c3 : List Int) (xb4c4 : List Int) (xb4c5 : List Int) (k : Int → Int → List Int → List Int → List Int → List Int → Int → Prop) (B0 : Int → Int → Int → Int → List Int → List Int → List Int → List Int → Prop) : Prop :=
  br (decide (xt15 < xt14))
  ((0 ≤ xt15 ∧ xt15 < (t0.length : Int)) ∧
    F_impl_UseLists xb4c0 xb4c1 xb4c2 xb4c3 xb4c4 xb4c5 (List.getD t0 (Int.toNat xt15) (0 : Int)) fun useLists23Room useLists23Target useLists23Once useLists23Often useLists23WasOnce useLists23WasOften useLists23r1 =>
    br useLists23r1
    (InR (xhits8 + 1) ∧
      InR (xt15 + 1) ∧
      B0 (xhits8 + 1) (xt15 + 1) useLists23Room useLists23Target useLists23Once useLists23Often useLists23WasOnce useLists23WasOften)
    (InR (xt15 + 1) ∧
      B0 xhits8 (xt15 + 1) useLists23Room useLists23Target useLists23Once useLists23Often useLists23WasOnce useLists23WasOften))
  (k xb4c0 xb4c1 xb4c2 xb4c3 xb4c4 xb4c5 xhits8)
def L0_impl_useAll_Lists_UseLists (t0 : List Int) (xt14 : Int) (k : Int → Int → List Int → List Int → List Int → List Int → Int → Prop) : Nat → Int → Int → Int → Int → List Int → List Int → List Int → List Int → Prop
  | 0, _, _, _, _, _, _, _, _ => False
  | n + 1, xhits8, xt15, xb4c0, xb4c1, xb4c2, xb4c3, xb4c4, xb4c5 => T0_impl_useAll_Lists_UseLists t0 xt14 xhits8 xt15 xb4c0 xb4c1 xb4c2 xb4c3 xb4c4 xb4c5 k (L0_impl_useAll_Lists_UseLists t0 xt14 k n)
def G_impl_useAll_Lists_UseLists (t0 : List Int) (cache1Room : Int) (cache1Target : Int) (cache1Once : List Int) (cache1Often : List Int) (cache1WasOnce : List Int) (cache1WasOften : List Int) (I0 : List Int → Int → Int → Int → Int → Int → List Int → List Int → List Int → List Int → Prop) : Prop :=
  I0 t0 (t0.length : Int) 0 0 cache1Room cache1Target cache1Once cache1Often cache1WasOnce cache1WasOften
def S_impl_useAll_Lists_UseLists (t0 : List Int) (cache1Room : Int) (cache1Target : Int) (cache1Once : List Int) (cache1Often : List Int) (cache1WasOnce : List Int) (cache1WasOften : List Int) (k : Int → Int → List Int → List Int → List Int → List Int → Int → Prop) : Prop := G_impl_useAll_Lists_UseLists t0 cache1Room cache1Target cache1Once cache1Often cache1WasOnce cache1WasOften (fun t0 xt14 xhits8 xt15 xb4c0 xb4c1 xb4c2 xb4c3 xb4c4 xb4c5 => ∃ j, L0_impl_useAll_Lists_UseLists t0 xt14 k j xhits8 xt15 xb4c0 xb4c1 xb4c2 xb4c3 xb4c4 xb4c5)
def F_impl_useAll_Lists_UseLists (t : List Int) (room tg : Int) (o f wo wf : List Int) (k : Int → Int → List Int → List Int → List Int → List Int → Int → Prop) : Prop :=
  (VTrace t ∧ VLists room ⟨tg, o, f, wo, wf⟩) ∧ k room (runL room t ⟨tg, o, f, wo, wf⟩ 0).1.t (runL room t ⟨tg, o, f, wo, wf⟩ 0).1.o (runL room t ⟨tg, o, f, wo, wf⟩ 0).1.f (runL room t ⟨tg, o, f, wo, wf⟩ 0).1.wo (runL room t ⟨tg, o, f, wo, wf⟩ 0).1.wf (runL room t ⟨tg, o, f, wo, wf⟩ 0).2
theorem F_impl_useAll_Lists_UseLists_S {t : List Int} {room tg : Int} {o f wo wf : List Int} {k : Int → Int → List Int → List Int → List Int → List Int → Int → Prop} (h : F_impl_useAll_Lists_UseLists t room tg o f wo wf k) : S_impl_useAll_Lists_UseLists t room tg o f wo wf k := by
  obtain ⟨⟨⟨t1, t2⟩, v⟩, hk⟩ := h
  have key : ∀ (r : List Int) (i : Nat) (a : AL) (n : Int), t.drop i = r → VLists room a → 0 ≤ n → n ≤ i → (let q := runL room r a n; k room q.1.t q.1.o q.1.f q.1.wo q.1.wf q.2) → L0_impl_useAll_Lists_UseLists t (t.length : Int) k (r.length + 1) n (i : Int) room a.t a.o a.f a.wo a.wf := by
    intro r
    induction r with
    | nil =>
      intro i a n hdr v n0 n1 hk
      have := drop_nil' hdr
      rw [L0_impl_useAll_Lists_UseLists, T0_impl_useAll_Lists_UseLists]
      exact br_dec.2 ⟨fun h => by omega, fun _ => hk⟩
    | cons x r ih =>
      intro i a n hdr v n0 n1 hk
      obtain ⟨h1, h2, h5, h3, h4⟩ := drop_cons' hdr
      have hx := t2 x (List.mem_of_getElem? h5)
      obtain ⟨l1, l2, l3, l4⟩ := lists_len v
      rw [List.length_cons, L0_impl_useAll_Lists_UseLists, T0_impl_useAll_Lists_UseLists]
      simp only [br_dec, Int.toNat_natCast, h2]
      refine ⟨fun _ => ⟨⟨by omega, by omega⟩, by omega, fun _ => ?_, fun hv => absurd ⟨v, hx⟩ hv⟩, fun h => by omega⟩
      change (let q := runL room r (adM room a x).1 (n + toI (adM room a x).2); k room q.1.t q.1.o q.1.f q.1.wo q.1.wf q.2) at hk
      refine br_iff.2 ⟨fun e => ⟨inR (by omega) (by omega), inR (by omega) (by omega), ?_⟩, fun e => ⟨inR (by omega) (by omega), ?_⟩⟩
      · rw [show (adM room a x).2 = true from e] at hk
        exact ih (i + 1) _ _ h3 (adM_valid v hx) (by omega) (by omega) hk
      · rw [show (adM room a x).2 = false from e, show n + toI false = n by simp [toI]] at hk
        exact ih (i + 1) _ _ h3 (adM_valid v hx) (by omega) (by omega) hk
  exact ⟨_, key t 0 ⟨tg, o, f, wo, wf⟩ 0 rfl v (by omega) (by omega) hk⟩
-- impl.RunLists
def G_impl_RunLists (t0 : List Int) (room1 : Int) (k : Int → Int → List Int → List Int → List Int → List Int → Int → Prop) : Prop :=
  F_impl_ValidTrace t0 fun validTrace7 =>
  br (!validTrace7)
  (k 0 0 ([] : List Int) ([] : List Int) ([] : List Int) ([] : List Int) (-1))
  (F_impl_validRoom room1 fun validRoom11 =>
    br (!validRoom11)
    (k 0 0 ([] : List Int) ([] : List Int) ([] : List Int) ([] : List Int) (-1))
    (F_impl_useAll_Lists_UseLists t0 room1 (0 : Int) ([] : List Int) ([] : List Int) ([] : List Int) ([] : List Int) fun useAll18Room useAll18Target useAll18Once useAll18Often useAll18WasOnce useAll18WasOften useAll18r1 =>
      k useAll18Room useAll18Target useAll18Once useAll18Often useAll18WasOnce useAll18WasOften useAll18r1))
def S_impl_RunLists (t0 : List Int) (room1 : Int) (k : Int → Int → List Int → List Int → List Int → List Int → Int → Prop) : Prop := G_impl_RunLists t0 room1 k
def F_impl_RunLists (t : List Int) (room : Int) (k : Int → Int → List Int → List Int → List Int → List Int → Int → Prop) : Prop :=
  ((VTrace t ∧ 1 ≤ room ∧ room ≤ 8) → k room (runL room t ⟨0, [], [], [], []⟩ 0).1.t (runL room t ⟨0, [], [], [], []⟩ 0).1.o (runL room t ⟨0, [], [], [], []⟩ 0).1.f (runL room t ⟨0, [], [], [], []⟩ 0).1.wo (runL room t ⟨0, [], [], [], []⟩ 0).1.wf (runL room t ⟨0, [], [], [], []⟩ 0).2) ∧
  (¬ (VTrace t ∧ 1 ≤ room ∧ room ≤ 8) → k 0 0 [] [] [] [] (-1))
theorem F_impl_RunLists_S {t : List Int} {room : Int} {k : Int → Int → List Int → List Int → List Int → List Int → Int → Prop} (h : F_impl_RunLists t room k) : S_impl_RunLists t room k := by
  obtain ⟨hyes, hno⟩ := h
  intro b hb
  refine br_not.2 (br_iff.2 ⟨fun e => br_not.2 (br_dec.2 ⟨fun hr => ?_, fun hr => hno fun w => hr w.2⟩), fun e => hno fun v => by rw [hb.2 v.1] at e; cases e⟩)
  have v := hb.1 e
  exact ⟨⟨v, lists0 hr (by omega)⟩, hyes ⟨v, hr⟩⟩
-- laws.FnBestHits
def G_laws_FnBestHits (code0 : List Int) (k : Bool → Prop) : Prop :=
  br (decide ((code0.length : Int) > 1048576))
  (k true)
  (F_spec_DrawBestHits code0 fun drawBestHits21r0 drawBestHits21r1 =>
    F_impl_BestHits drawBestHits21r0 drawBestHits21r1 fun bestHits26 =>
    F_spec_BestHits drawBestHits21r0 drawBestHits21r1 fun bestHits30 =>
    br (bestHits26 != bestHits30)
    (F_spec_BestHits drawBestHits21r0 drawBestHits21r1 fun bestHits39 =>
      k (bestHits26 == bestHits39))
    (br (decide (bestHits26 < 0))
      (F_spec_BestHits drawBestHits21r0 drawBestHits21r1 fun bestHits39 =>
        k (bestHits26 == bestHits39))
      (F_impl_RunRecent drawBestHits21r0 drawBestHits21r1 fun runRecent44r0 runRecent44r1 =>
        F_impl_RunFirst drawBestHits21r0 drawBestHits21r1 fun runFirst50r0 runFirst50r1 =>
        F_impl_RunClock drawBestHits21r0 drawBestHits21r1 fun runClock56Room runClock56Keys runClock56Used runClock56Hand runClock56r1 =>
        F_impl_RunOften drawBestHits21r0 drawBestHits21r1 fun runOften62r0 runOften62r1 =>
        F_impl_RunLists drawBestHits21r0 drawBestHits21r1 fun runLists68Room runLists68Target runLists68Once runLists68Often runLists68WasOnce runLists68WasOften runLists68r1 =>
        br (decide (runRecent44r1 ≤ bestHits26))
        (br (decide (runFirst50r1 ≤ bestHits26))
          (br (decide (runClock56r1 ≤ bestHits26))
            (br (decide (runOften62r1 ≤ bestHits26))
              (k (decide (runLists68r1 ≤ bestHits26)))
              (k false))
            (k false))
          (k false))
        (k false))))
def S_laws_FnBestHits (code0 : List Int) (k : Bool → Prop) : Prop := G_laws_FnBestHits code0 k
abbrev F_laws_FnBestHits (code0 : List Int) (k : Bool → Prop) : Prop := S_laws_FnBestHits code0 k
theorem F_laws_FnBestHits_S {code0 : List Int} {k : Bool → Prop} (h : F_laws_FnBestHits code0 k) : S_laws_FnBestHits code0 k := h
theorem law_FnBestHits (code : List Int) (hb : ∀ x ∈ code, 0 ≤ x ∧ x ≤ 255) : F_laws_FnBestHits code (fun r => r = true) := by
  refine br_dec.2 ⟨fun _ => rfl, fun hlen => ⟨hb, fun t room l1 => ?_⟩⟩
  by_cases v : VTrace t ∧ 1 ≤ room ∧ room ≤ 8
  · have a := runR_facts v.1 v.2
    have b := runF_facts v.1 v.2
    have c := runC_facts v.1 v.2
    have d := runO_facts v.1 v.2
    have e := runL_facts v.1 v.2
    refine yes v (yes v (br_same' (br_nd (by omega) (yes v (yes v (yes v (yes v (yes v ?_))))))))
    exact br_yd a.best (br_yd b.best (br_yd c.best (br_yd d.best (decide_eq_true e.best))))
  · exact nay v (nay v (br_same' (br_yd (by omega) (nay v rfl))))
end Go.Ev
