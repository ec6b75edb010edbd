/- What the functions that the law reaches do, written as plain Lean. No statement is proved here. -/
import Derived.Test.YtaajnkggomlppadFnUseListsTwiceP0
namespace Go.Ev
set_option linter.unusedVariables false
open Go
def T1_impl_UseLists (a0Often : List Int) (a0Once : List Int) (a0Room : Int) (a0Target : Int) (a0WasOften : List Int) (a0WasOnce : List Int) (key1 : Int) (nextTarget23 : Int) (withoutKey27 : List Int) (withoutKey31 : List Int) (withoutKey35 : List Int) (withoutKey39 : List Int) (xhit7 : Bool) (I2 : Int → Bool → Int → Int → List Int → List Int → List Int → List Int → Bool → Bool → Prop) : Prop :=
  F_slices_Contains_sint_int a0WasOften key1 fun contains54 =>
  br xhit7
  (I2 a0Room contains54 key1 nextTarget23 withoutKey27 withoutKey31 withoutKey35 withoutKey39 xhit7 true)
  (br contains54
    (I2 a0Room contains54 key1 nextTarget23 withoutKey27 withoutKey31 withoutKey35 withoutKey39 xhit7 true)
    (F_slices_Contains_sint_int a0WasOnce key1 fun contains63 =>
      I2 a0Room contains54 key1 nextTarget23 withoutKey27 withoutKey31 withoutKey35 withoutKey39 xhit7 contains63))
def L1_impl_UseLists (a0Often : List Int) (a0Once : List Int) (a0Room : Int) (a0Target : Int) (a0WasOften : List Int) (a0WasOnce : List Int) (key1 : Int) (nextTarget23 : Int) (withoutKey27 : List Int) (withoutKey31 : List Int) (withoutKey35 : List Int) (withoutKey39 : List Int) (k : Int → Int → List Int → List Int → List Int → List Int → Bool → Prop) (xhit7 : Bool) : Prop := T1_impl_UseLists a0Often a0Once a0Room a0Target a0WasOften a0WasOnce key1 nextTarget23 withoutKey27 withoutKey31 withoutKey35 withoutKey39 xhit7 (fun a0Room contains54 key1 nextTarget23 withoutKey27 withoutKey31 withoutKey35 withoutKey39 xhit7 xknown9 => L2_impl_UseLists a0Room contains54 key1 nextTarget23 withoutKey27 withoutKey31 withoutKey35 withoutKey39 xhit7 k xknown9)
def T0_impl_UseLists (a0Often : List Int) (a0Once : List Int) (a0Room : Int) (a0Target : Int) (a0WasOften : List Int) (a0WasOnce : List Int) (key1 : Int) (nextTarget23 : Int) (withoutKey27 : List Int) (withoutKey31 : List Int) (withoutKey35 : List Int) (withoutKey39 : List Int) (I1 : List Int → List Int → Int → Int → List Int → List Int → Int → Int → List Int → List Int → List Int → List Int → Bool → Prop) : Prop :=
  F_slices_Contains_sint_int a0Once key1 fun contains44 =>
  br contains44
  (I1 a0Often a0Once a0Room a0Target a0WasOften a0WasOnce key1 nextTarget23 withoutKey27 withoutKey31 withoutKey35 withoutKey39 true)
  (F_slices_Contains_sint_int a0Often key1 fun contains49 =>
    I1 a0Often a0Once a0Room a0Target a0WasOften a0WasOnce key1 nextTarget23 withoutKey27 withoutKey31 withoutKey35 withoutKey39 contains49)
def L0_impl_UseLists (a0Often : List Int) (a0Once : List Int) (a0Room : Int) (a0Target : Int) (a0WasOften : List Int) (a0WasOnce : List Int) (key1 : Int) (nextTarget23 : Int) (withoutKey27 : List Int) (withoutKey31 : List Int) (withoutKey35 : List Int) (withoutKey39 : List Int) (k : Int → Int → List Int → List Int → List Int → List Int → Bool → Prop) : Prop := T0_impl_UseLists a0Often a0Once a0Room a0Target a0WasOften a0WasOnce key1 nextTarget23 withoutKey27 withoutKey31 withoutKey35 withoutKey39 (fun a0Often a0Once a0Room a0Target a0WasOften a0WasOnce key1 nextTarget23 withoutKey27 withoutKey31 withoutKey35 withoutKey39 xhit7 => L1_impl_UseLists a0Often a0Once a0Room a0Target a0WasOften a0WasOnce key1 nextTarget23 withoutKey27 withoutKey31 withoutKey35 withoutKey39 k xhit7)
def G_impl_UseLists_j0 (a0Often : List Int) (a0Once : List Int) (a0Room : Int) (a0Target : Int) (a0WasOften : List Int) (a0WasOnce : List Int) (key1 : Int) (nextTarget23 : Int) (withoutKey27 : List Int) (withoutKey31 : List Int) (withoutKey35 : List Int) (withoutKey39 : List Int) (I0 : List Int → List Int → Int → Int → List Int → List Int → Int → Int → List Int → List Int → List Int → List Int → Prop) : Prop :=
  (I0 a0Often a0Once a0Room a0Target a0WasOften a0WasOnce key1 nextTarget23 withoutKey27 withoutKey31 withoutKey35 withoutKey39) ∧
  (True)
def G_impl_UseLists_j1 (a0Often : List Int) (a0Once : List Int) (a0Room : Int) (a0Target : Int) (a0WasOften : List Int) (a0WasOnce : List Int) (key1 : Int) (nextTarget23 : Int) (withoutKey27 : List Int) (withoutKey31 : List Int) (withoutKey35 : List Int) (I0 : List Int → List Int → Int → Int → List Int → List Int → Int → Int → List Int → List Int → List Int → List Int → Prop) : Prop :=
  (F_impl_withoutKey a0WasOften key1 fun withoutKey39 =>
    G_impl_UseLists_j0 a0Often a0Once a0Room a0Target a0WasOften a0WasOnce key1 nextTarget23 withoutKey27 withoutKey31 withoutKey35 withoutKey39 I0) ∧
  (True)
def G_impl_UseLists_j2 (a0Often : List Int) (a0Once : List Int) (a0Room : Int) (a0Target : Int) (a0WasOften : List Int) (a0WasOnce : List Int) (key1 : Int) (nextTarget23 : Int) (withoutKey27 : List Int) (withoutKey31 : List Int) (I0 : List Int → List Int → Int → Int → List Int → List Int → Int → Int → List Int → List Int → List Int → List Int → Prop) : Prop :=
  (F_impl_withoutKey a0WasOnce key1 fun withoutKey35 =>
    G_impl_UseLists_j1 a0Often a0Once a0Room a0Target a0WasOften a0WasOnce key1 nextTarget23 withoutKey27 withoutKey31 withoutKey35 I0) ∧
  (True)
def G_impl_UseLists_j3 (a0Often : List Int) (a0Once : List Int) (a0Room : Int) (a0Target : Int) (a0WasOften : List Int) (a0WasOnce : List Int) (key1 : Int) (nextTarget23 : Int) (withoutKey27 : List Int) (I0 : List Int → List Int → Int → Int → List Int → List Int → Int → Int → List Int → List Int → List Int → List Int → Prop) : Prop :=
  (F_impl_withoutKey a0Often key1 fun withoutKey31 =>
    G_impl_UseLists_j2 a0Often a0Once a0Room a0Target a0WasOften a0WasOnce key1 nextTarget23 withoutKey27 withoutKey31 I0) ∧
  (True)
def G_impl_UseLists_j4 (a0Often : List Int) (a0Once : List Int) (a0Room : Int) (a0Target : Int) (a0WasOften : List Int) (a0WasOnce : List Int) (key1 : Int) (nextTarget23 : Int) (I0 : List Int → List Int → Int → Int → List Int → List Int → Int → Int → List Int → List Int → List Int → List Int → Prop) : Prop :=
  (F_impl_withoutKey a0Once key1 fun withoutKey27 =>
    G_impl_UseLists_j3 a0Often a0Once a0Room a0Target a0WasOften a0WasOnce key1 nextTarget23 withoutKey27 I0) ∧
  (True)
def G_impl_UseLists (a0Room : Int) (a0Target : Int) (a0Once : List Int) (a0Often : List Int) (a0WasOnce : List Int) (a0WasOften : List Int) (key1 : Int) (k : Int → Int → List Int → List Int → List Int → List Int → Bool → Prop) (I0 : List Int → List Int → Int → Int → List Int → List Int → Int → Int → List Int → List Int → List Int → List Int → Prop) : Prop :=
  F_impl_ValidLists a0Room a0Target a0Once a0Often a0WasOnce a0WasOften fun validLists11 =>
  br (!validLists11)
  (k 0 0 ([] : List Int) ([] : List Int) ([] : List Int) ([] : List Int) false)
  (F_impl_validKey key1 fun validKey15 =>
    br (!validKey15)
    (k 0 0 ([] : List Int) ([] : List Int) ([] : List Int) ([] : List Int) false)
    ((F_impl_nextTarget a0Room a0Target a0Once a0Often a0WasOnce a0WasOften key1 fun nextTarget23 =>
        (F_impl_withoutKey a0Once key1 fun withoutKey27 =>
          (F_impl_withoutKey a0Often key1 fun withoutKey31 =>
            (F_impl_withoutKey a0WasOnce key1 fun withoutKey35 =>
              (F_impl_withoutKey a0WasOften key1 fun withoutKey39 =>
                (G_impl_UseLists_j0 a0Often a0Once a0Room a0Target a0WasOften a0WasOnce key1 nextTarget23 withoutKey27 withoutKey31 withoutKey35 withoutKey39 I0) ∧
                (True)) ∧
              ((G_impl_UseLists_j1 a0Often a0Once a0Room a0Target a0WasOften a0WasOnce key1 nextTarget23 withoutKey27 withoutKey31 withoutKey35 I0) ∧
                (True))) ∧
            ((G_impl_UseLists_j2 a0Often a0Once a0Room a0Target a0WasOften a0WasOnce key1 nextTarget23 withoutKey27 withoutKey31 I0) ∧
              (True))) ∧
          ((G_impl_UseLists_j3 a0Often a0Once a0Room a0Target a0WasOften a0WasOnce key1 nextTarget23 withoutKey27 I0) ∧
            (True))) ∧
        ((G_impl_UseLists_j4 a0Often a0Once a0Room a0Target a0WasOften a0WasOnce key1 nextTarget23 I0) ∧
          (True))) ∧
      (((F_impl_nextTarget a0Room a0Target a0Once a0Often a0WasOnce a0WasOften key1 fun nextTarget23 =>
            G_impl_UseLists_j4 a0Often a0Once a0Room a0Target a0WasOften a0WasOnce key1 nextTarget23 I0) ∧
          (True)) ∧
        (True))))
def H_impl_UseLists (a0Room : Int) (a0Target : Int) (a0Once : List Int) (a0Often : List Int) (a0WasOnce : List Int) (a0WasOften : List Int) (key1 : Int) (k : Int → Int → List Int → List Int → List Int → List Int → Bool → Prop) (I0 : List Int → List Int → Int → Int → List Int → List Int → Int → Int → List Int → List Int → List Int → List Int → Prop) : Prop :=
  F_impl_ValidLists a0Room a0Target a0Once a0Often a0WasOnce a0WasOften fun validLists11 =>
  br (!validLists11)
  (k 0 0 ([] : List Int) ([] : List Int) ([] : List Int) ([] : List Int) false)
  (F_impl_validKey key1 fun validKey15 =>
    br (!validKey15)
    (k 0 0 ([] : List Int) ([] : List Int) ([] : List Int) ([] : List Int) false)
    (F_impl_nextTarget a0Room a0Target a0Once a0Often a0WasOnce a0WasOften key1 fun nextTarget23 =>
      F_impl_withoutKey a0Once key1 fun withoutKey27 =>
      F_impl_withoutKey a0Often key1 fun withoutKey31 =>
      F_impl_withoutKey a0WasOnce key1 fun withoutKey35 =>
      F_impl_withoutKey a0WasOften key1 fun withoutKey39 =>
      I0 a0Often a0Once a0Room a0Target a0WasOften a0WasOnce key1 nextTarget23 withoutKey27 withoutKey31 withoutKey35 withoutKey39))
theorem G_impl_UseLists_eq (a0Room : Int) (a0Target : Int) (a0Once : List Int) (a0Often : List Int) (a0WasOnce : List Int) (a0WasOften : List Int) (key1 : Int) (k : Int → Int → List Int → List Int → List Int → List Int → Bool → Prop) (I0 : List Int → List Int → Int → Int → List Int → List Int → Int → Int → List Int → List Int → List Int → List Int → Prop) : G_impl_UseLists a0Room a0Target a0Once a0Often a0WasOnce a0WasOften key1 k I0 = H_impl_UseLists a0Room a0Target a0Once a0Often a0WasOnce a0WasOften key1 k I0 := by
  first
  | (simp only [G_impl_UseLists, H_impl_UseLists, G_impl_UseLists_j0, G_impl_UseLists_j1, G_impl_UseLists_j2, G_impl_UseLists_j3, G_impl_UseLists_j4, and_self, and_true]; done)
  | (simp only [G_impl_UseLists, H_impl_UseLists, G_impl_UseLists_j0, G_impl_UseLists_j1, G_impl_UseLists_j2, G_impl_UseLists_j3, G_impl_UseLists_j4, and_self, and_true, and_self_left, and_assoc]; refine propext ⟨fun h => ?_, fun h => ?_⟩ <;> (repeat (cases ‹_ ∧ _›)) <;> (repeat' (apply And.intro)) <;> assumption)
def S_impl_UseLists (a0Room : Int) (a0Target : Int) (a0Once : List Int) (a0Often : List Int) (a0WasOnce : List Int) (a0WasOften : List Int) (key1 : Int) (k : Int → Int → List Int → List Int → List Int → List Int → Bool → Prop) : Prop := H_impl_UseLists a0Room a0Target a0Once a0Often a0WasOnce a0WasOften key1 k (fun a0Often a0Once a0Room a0Target a0WasOften a0WasOnce key1 nextTarget23 withoutKey27 withoutKey31 withoutKey35 withoutKey39 => L0_impl_UseLists a0Often a0Once a0Room a0Target a0WasOften a0WasOnce key1 nextTarget23 withoutKey27 withoutKey31 withoutKey35 withoutKey39 k)
def F_impl_UseLists (r t : Int) (o f wo wf : List Int) (key : Int) (k : Int → Int → List Int → List Int → List Int → List Int → Bool → Prop) : Prop :=
  (o.length ≤ 100000000 ∧ f.length ≤ 100000000 ∧ wo.length ≤ 100000000 ∧ wf.length ≤ 100000000) ∧
  ((VLists r ⟨t, o, f, wo, wf⟩ ∧ 0 ≤ key ∧ key ≤ 31) → k r (adM r ⟨t, o, f, wo, wf⟩ key).1.t (adM r ⟨t, o, f, wo, wf⟩ key).1.o (adM r ⟨t, o, f, wo, wf⟩ key).1.f (adM r ⟨t, o, f, wo, wf⟩ key).1.wo (adM r ⟨t, o, f, wo, wf⟩ key).1.wf (adM r ⟨t, o, f, wo, wf⟩ key).2) ∧
  (¬ (VLists r ⟨t, o, f, wo, wf⟩ ∧ 0 ≤ key ∧ key ≤ 31) → k 0 0 [] [] [] [] false)
theorem F_impl_UseLists_S {r t : Int} {o f wo wf : List Int} {key : Int} {k : Int → Int → List Int → List Int → List Int → List Int → Bool → Prop} (h : F_impl_UseLists r t o f wo wf key k) : S_impl_UseLists r t o f wo wf key k := by
  obtain ⟨hl, hyes, hno⟩ := h
  refine ⟨hl, ?_⟩
  intro b hb
  refine br_not.2 (br_iff.2 ⟨fun e => ?_, fun e => hno fun w => by rw [hb.2 w.1] at e; cases e⟩)
  refine br_not.2 (br_dec.2 ⟨fun hkey => ?_, fun hkey => hno fun w => hkey w.2⟩)
  have v := hb.1 e
  have hk := hyes ⟨v, hkey⟩
  simp only [useL_adM v] at hk
  obtain ⟨l1, l2, l3, l4⟩ := lists_len v
  have r1 := v.room1
  have tg := v.tgt
  have hinc := v.inc
  have honc := v.onc
  have htot := v.tot
  simp only at l1 l2 l3 l4 tg hinc honc htot
  let K : Bool → Bool → AL → Prop := fun kn hit b => k r (inL (kn = true) key b).t (inL (kn = true) key b).o (inL (kn = true) key b).f (inL (kn = true) key b).wo (inL (kn = true) key b).wf hit
  have put : ∀ (kn hit : Bool) (b : AL), b.f.length ≤ 100 → b.o.length ≤ 100 → K kn hit b →
      br kn (F_impl_putFirst b.f key fun p => k r b.t b.o p b.wo b.wf hit) (F_impl_putFirst b.o key fun p => k r b.t p b.f b.wo b.wf hit) := by
    intro kn hit b g1 g2 hK
    cases kn
    · exact ⟨by omega, hK⟩
    · exact ⟨by omega, hK⟩
  have cut : ∀ l : List Int, 0 < l.length → l.length ≤ 100 → (((l.length : Int) - 1).toNat = l.length - 1) := fun l _ _ => by omega
  -- room is made
  have s5 : ∀ (t' : Int) (f o wo wf : List Int) (hit kn : Bool), 0 < o.length → o.length ≤ 50 → f.length ≤ 50 → wo.length ≤ 50 → wf.length ≤ 50 →
      K kn hit ⟨t', o.take (o.length - 1), f, lastI o :: wo, wf⟩ → L5_impl_UseLists r key t' f o wo wf hit kn k := by
    intro t' f o wo wf hit kn g1 g2 g3 g4 g5 hK
    refine ⟨inR (by omega) (by omega), ⟨by omega, by omega⟩, inR (by omega) (by omega), ⟨by omega, by omega⟩, by omega, ?_⟩
    rw [cut o g1 (by omega)]
    exact put kn hit ⟨t', o.take (o.length - 1), f, lastI o :: wo, wf⟩ (by simp only; omega) (by simp only [List.length_take]; omega) hK
  have s4 : ∀ (t' : Int) (f o wo wf : List Int) (hit kn was en : Bool), 0 ≤ t' → 0 < o.length + f.length → o.length ≤ 50 → f.length ≤ 50 → wo.length ≤ 50 → wf.length ≤ 50 →
      (en = true ↔ was = true ∧ 0 < o.length ∧ (o.length : Int) = t') →
      K kn hit (mkRoom was ⟨t', o, f, wo, wf⟩) → L4_impl_UseLists r key t' f o wo wf hit kn k (decide ((o.length : Int) > t')) en := by
    intro t' f o wo wf hit kn was en g0 g1 g2 g3 g4 g5 hen hK
    unfold mkRoom at hK
    have yes : ((0 < o.length ∧ ((o.length : Int) > t' ∨ was = true ∧ (o.length : Int) = t')) ∨ f.length = 0) → L5_impl_UseLists r key t' f o wo wf hit kn k := by
      intro c
      rw [if_pos c] at hK
      exact s5 t' f o wo wf hit kn (by omega) g2 g3 g4 g5 hK
    refine br_dec.2 ⟨fun c => yes (.inl ⟨by omega, .inl c⟩), fun c1 => br_iff.2 ⟨fun c => yes (.inl ⟨(hen.1 c).2.1, .inr ⟨(hen.1 c).1, (hen.1 c).2.2⟩⟩), fun c2 => br_beq.2 ⟨fun c => yes (.inr (by omega)), fun c3 => ?_⟩⟩⟩
    have hf : 0 < f.length := by omega
    rw [if_neg (fun c => by
      rcases c with ⟨c4, c5 | c5⟩ | c
      · exact c1 c5
      · rw [hen.2 ⟨c5.1, c4, c5.2⟩] at c2; cases c2
      · simp only at c; omega)] at hK
    refine ⟨inR (by omega) (by omega), ⟨by omega, by omega⟩, inR (by omega) (by omega), ⟨by omega, by omega⟩, by omega, ?_⟩
    rw [cut f hf (by omega)]
    exact put kn hit ⟨t', o, f.take (f.length - 1), wo, lastI f :: wf⟩ (by simp only [List.length_take]; omega) (by simp only; omega) hK
  have s3 : ∀ (t' : Int) (f o wo wf : List Int) (hit kn was : Bool), 0 ≤ t' → o.length ≤ 50 → f.length ≤ 50 → wo.length ≤ 50 → wf.length ≤ 50 →
      K kn hit (fitL r was ⟨t', o, f, wo, wf⟩) → L3_impl_UseLists r was key t' f hit kn k o wo wf := by
    intro t' f o wo wf hit kn was g0 g2 g3 g4 g5 hK
    refine ⟨inR (by omega) (by omega), br_beq.2 ⟨fun c => ?_, fun c => ?_⟩⟩
    · rw [fitL, if_pos c] at hK
      refine br_iff.2 ⟨fun hw => br_dec.2 ⟨fun ho => ?_, fun ho => ?_⟩, fun hw => ?_⟩
      · exact s4 t' f o wo wf hit kn was _ g0 (by omega) g2 g3 g4 g5 (by simp only [beq_iff_eq]; exact ⟨fun h => ⟨hw, by omega, h⟩, fun h => h.2.2⟩) hK
      · exact s4 t' f o wo wf hit kn was _ g0 (by omega) g2 g3 g4 g5 (by simp only [Bool.false_eq_true, false_iff]; intro h; omega) hK
      · exact s4 t' f o wo wf hit kn was _ g0 (by omega) g2 g3 g4 g5 (by rw [hw]; simp) hK
    · rw [fitL, if_neg c] at hK
      exact put kn hit ⟨t', o, f, wo, wf⟩ (by simp only; omega) (by simp only; omega) hK
  have s2 : ∀ (t' : Int) (f o wo wf : List Int) (hit kn was : Bool), 0 ≤ t' → o.length ≤ 50 → f.length ≤ 50 → wo.length ≤ 50 → wf.length ≤ 50 →
      (kn = false → (o.length : Int) + f.length ≤ r ∧ (o.length : Int) + wo.length ≤ r) →
      K kn hit (fitL r was (if kn = true then ⟨t', o, f, wo, wf⟩ else forgetL r ⟨t', o, f, wo, wf⟩)) → L2_impl_UseLists r was key t' o f wo wf hit k kn := by
    intro t' f o wo wf hit kn was g0 g2 g3 g4 g5 g6 hK
    refine br_not.2 (br_iff.2 ⟨fun c => ?_, fun c => ?_⟩)
    · rw [if_pos c] at hK
      exact s3 t' f o wo wf hit kn was g0 g2 g3 g4 g5 hK
    · obtain ⟨g7, g8⟩ := g6 c
      rw [if_neg (by rw [c]; simp)] at hK
      unfold forgetL at hK
      have tail : ¬ ((o.length : Int) + wo.length = r ∧ 0 < wo.length) → T2_impl_UseLists_j0 r was key t' o f wo wf hit kn (fun a0Room contains54 key1 nextTarget23 withoutKey31 xhit7 xknown9 xb6c2 xb6c4 xb6c5 => L3_impl_UseLists a0Room contains54 key1 nextTarget23 withoutKey31 xhit7 xknown9 k xb6c2 xb6c4 xb6c5) := by
        intro n1
        rw [if_neg n1] at hK
        refine br_beq.2 ⟨fun c => ?_, fun c => ⟨inR (by omega) (by omega), inR (by omega) (by omega), br_beq.2 ⟨fun c2 => ?_, fun c2 => ?_⟩⟩⟩
        · rw [if_pos c] at hK
          refine ⟨inR (by omega) (by omega), ⟨by omega, by omega⟩, ?_⟩
          rw [cut o (by omega) (by omega)]
          exact s3 t' f _ wo wf hit kn was g0 (by simp [List.length_take]; omega) g3 g4 g5 hK
        · rw [if_neg c, if_pos (show (o.length : Int) + wo.length + f.length + wf.length = 2 * r by omega)] at hK
          refine ⟨inR (by omega) (by omega), ⟨by omega, by omega⟩, ?_⟩
          rw [cut wf (by omega) (by omega)]
          exact s3 t' f o wo _ hit kn was g0 g2 g3 g4 (by simp [List.length_take]; omega) hK
        · rw [if_neg c, if_neg (show ¬ ((o.length : Int) + wo.length + f.length + wf.length = 2 * r) by omega)] at hK
          exact s3 t' f o wo wf hit kn was g0 g2 g3 g4 g5 hK
      refine ⟨inR (by omega) (by omega), inR (by omega) (by omega), br_beq.2 ⟨fun c1 => br_dec.2 ⟨fun c2 => ?_, fun c2 => tail (by omega)⟩, fun c1 => tail (by omega)⟩⟩
      rw [if_pos (show (o.length : Int) + wo.length = r ∧ 0 < wo.length from ⟨c1, by omega⟩)] at hK
      refine ⟨inR (by omega) (by omega), ⟨by omega, by omega⟩, ?_⟩
      rw [cut wo (by omega) (by omega)]
      exact s3 t' f o _ wf hit kn was g0 g2 g3 (by simp [List.length_take]; omega) g5 hK
  have b1 := @rmK_le o key
  have b2 := @rmK_le f key
  have b3 := @rmK_le wo key
  have b4 := @rmK_le wf key
  have nt : 0 ≤ nextT r ⟨t, o, f, wo, wf⟩ key := by
    unfold nextT
    have := max1_pos (Int.tdiv (wf.length : Int) wo.length)
    split
    · simp only; split <;> omega
    · split
      · simp only; split <;> omega
      · exact tg.1
  have fin : ∀ (kn hit : Bool), (kn = true ↔ knownL ⟨t, o, f, wo, wf⟩ key) → hit = decide (key ∈ o ∨ key ∈ f) →
      L2_impl_UseLists r (decide (key ∈ wf)) key (nextT r ⟨t, o, f, wo, wf⟩ key) (rmK o key) (rmK f key) (rmK wo key) (rmK wf key) hit k kn := by
    intro kn hit h1 h2
    refine s2 _ _ _ _ _ hit kn _ nt (by omega) (by omega) (by omega) (by omega) (fun _ => by omega) ?_
    show k r _ _ _ _ _ hit
    rw [h2]
    have e1 : ∀ b, inL (kn = true) key b = inL (knownL ⟨t, o, f, wo, wf⟩ key) key b := fun b => by unfold inL; simp only [h1]
    simp only [e1, h1]
    exact hk
  refine ⟨v, by omega, by omega, by omega, by omega, by omega, br_dec.2 ⟨fun m1 => ?_, fun m1 => ⟨by omega, ?_⟩⟩⟩
  · refine ⟨by omega, ?_⟩
    exact fin true true (by simp [knownL, m1]) (by simp [m1])
  · refine ⟨by omega, br_dec.2 ⟨fun m2 => ?_, fun m2 => br_dec.2 ⟨fun m4 => ?_, fun m4 => ⟨by omega, ?_⟩⟩⟩⟩
    · exact fin true _ (by simp [knownL, m2]) (by simp [m1])
    · exact fin true _ (by simp [knownL, m4]) (by simp [m1])
    · exact fin _ _ (by simp [knownL, m1, m2, m4]) (by simp [m1])
-- spec.inRange
def G_spec_inRange (n0 : Int) (low1 : Int) (high2 : Int) (k : Bool → Prop) : Prop :=
  br (decide (low1 ≤ n0))
  (k (decide (n0 ≤ high2)))
  (k false)
def S_spec_inRange (n0 : Int) (low1 : Int) (high2 : Int) (k : Bool → Prop) : Prop := G_spec_inRange n0 low1 high2 k
def F_spec_inRange (n low high : Int) (k : Bool → Prop) : Prop := k (decide (low ≤ n ∧ n ≤ high))
theorem F_spec_inRange_S {n low high : Int} {k : Bool → Prop} (h : F_spec_inRange n low high k) : S_spec_inRange n low high k := by
  unfold F_spec_inRange at h
  simp only [S_spec_inRange, G_spec_inRange, br_dec]
  refine ⟨fun h1 => ?_, fun h1 => ?_⟩
  · simpa [h1] using h
  · simpa [h1] using h
-- spec.validParts
def G_spec_validParts (a0Room : Int) (a0Target : Int) (a0Once : List Int) (a0Often : List Int) (a0WasOnce : List Int) (a0WasOften : List Int) (k : Bool → Prop) : Prop :=
  InR ((a0Once.length : Int) + (a0WasOnce.length : Int)) ∧
  InR ((a0Once.length : Int) + (a0Often.length : Int)) ∧
  br (decide (((a0Once.length : Int) + (a0Often.length : Int)) ≤ a0Room))
  (br (decide (((a0Once.length : Int) + (a0WasOnce.length : Int)) ≤ a0Room))
    (InR (((a0Once.length : Int) + (a0WasOnce.length : Int)) + (a0Often.length : Int)) ∧
      InR ((((a0Once.length : Int) + (a0WasOnce.length : Int)) + (a0Often.length : Int)) + (a0WasOften.length : Int)) ∧
      InR (2 * a0Room) ∧
      k (decide (((((a0Once.length : Int) + (a0WasOnce.length : Int)) + (a0Often.length : Int)) + (a0WasOften.length : Int)) ≤ (2 * a0Room))))
    (k false))
  (k false)
def S_spec_validParts (a0Room : Int) (a0Target : Int) (a0Once : List Int) (a0Often : List Int) (a0WasOnce : List Int) (a0WasOften : List Int) (k : Bool → Prop) : Prop := G_spec_validParts a0Room a0Target a0Once a0Often a0WasOnce a0WasOften k
def F_spec_validParts (r t : Int) (o f wo wf : List Int) (k : Bool → Prop) : Prop :=
  ((o.length ≤ 100000000 ∧ f.length ≤ 100000000 ∧ wo.length ≤ 100000000 ∧ wf.length ≤ 100000000) ∧ 1 ≤ r ∧ r ≤ 8) ∧
  k (decide ((o.length : Int) + f.length ≤ r ∧ (o.length : Int) + wo.length ≤ r ∧ (o.length : Int) + wo.length + f.length + wf.length ≤ 2 * r))
theorem F_spec_validParts_S {r t : Int} {o f wo wf : List Int} {k : Bool → Prop} (h : F_spec_validParts r t o f wo wf k) : S_spec_validParts r t o f wo wf k := by
  obtain ⟨⟨⟨h1, h2, h3, h4⟩, r1, r2⟩, hk⟩ := h
  refine ⟨inR (by omega) (by omega), inR (by omega) (by omega), br_dec.2 ⟨fun g1 => br_dec.2 ⟨fun g2 => ⟨inR (by omega) (by omega), inR (by omega) (by omega), inR (by omega) (by omega), ?_⟩, fun g2 => ?_⟩, fun g1 => ?_⟩⟩
  · rwa [decide_eq_decide.2 (show _ ↔ ((o.length : Int) + wo.length + f.length + wf.length ≤ 2 * r) from ⟨fun h => h.2.2, fun h => ⟨g1, g2, h⟩⟩)] at hk
  · rwa [decide_eq_false (fun h => g2 h.2.1)] at hk
  · rwa [decide_eq_false (fun h => g1 h.1)] at hk
-- spec.distinct
def T0_spec_distinct (list0 : List Int) (xi3 : Int) (k : Bool → Prop) (B0 : Int → Prop) : Prop :=
  br (decide (xi3 < (list0.length : Int)))
  ((0 ≤ xi3 ∧ xi3 < (list0.length : Int)) ∧
    F_spec_placeOf list0 (List.getD list0 (Int.toNat xi3) (0 : Int)) fun placeOf15 =>
    br (placeOf15 != xi3)
    (k false)
    (InR (xi3 + 1) ∧
      B0 (xi3 + 1)))
  (k true)
def L0_spec_distinct (list0 : List Int) (k : Bool → Prop) : Nat → Int → Prop
  | 0, _ => False
  | n + 1, xi3 => T0_spec_distinct list0 xi3 k (L0_spec_distinct list0 k n)
def G_spec_distinct (list0 : List Int) (I0 : List Int → Int → Prop) : Prop :=
  I0 list0 0
def S_spec_distinct (list0 : List Int) (k : Bool → Prop) : Prop := G_spec_distinct list0 (fun list0 xi3 => ∃ j, L0_spec_distinct list0 k j xi3)
def F_spec_distinct (l : List Int) (k : Bool → Prop) : Prop := l.length ≤ 1000000000 ∧ k (decide l.Nodup)
theorem F_spec_distinct_S {l : List Int} {k : Bool → Prop} (h : F_spec_distinct l k) : S_spec_distinct l k := by
  obtain ⟨hl, hk⟩ := h
  have key : ∀ (r : List Int) (i : Nat), l.drop i = r → (∀ q : Nat, q < i → plc l (l.getD q 0) = (q : Int)) → L0_spec_distinct l k (r.length + 1) (i : Int) := by
    intro r
    induction r with
    | nil =>
      intro i hd he
      have := drop_nil' hd
      rw [L0_spec_distinct, T0_spec_distinct]
      simp only [br_dec]
      refine ⟨fun h => by omega, fun _ => ?_⟩
      rwa [decide_eq_true (nodup_plc.1 fun q hq => he q (by omega))] at hk
    | cons x r ih =>
      intro i hd he
      obtain ⟨h1, h2, _, h3, _⟩ := drop_cons' hd
      rw [List.length_cons, L0_spec_distinct, T0_spec_distinct]
      simp only [br_dec, F_spec_placeOf, br_bne, Int.toNat_natCast]
      refine ⟨fun _ => ⟨⟨by omega, by omega⟩, hl, fun hx => ?_, fun hx => ⟨inR (by omega) (by omega), ?_⟩⟩, fun h => by omega⟩
      · rwa [decide_eq_false (fun h => hx (nodup_plc.2 h i h1))] at hk
      · refine ih (i + 1) h3 fun q hq => ?_
        by_cases e : q = i
        · subst e; exact hx
        · exact he q (by omega)
  exact ⟨_, key l 0 rfl (fun q hq => by omega)⟩
-- spec.allIn
def T0_spec_allIn (high2 : Int) (list0 : List Int) (low1 : Int) (xi7 : Int) (k : Bool → Prop) (B0 : Int → Prop) : Prop :=
  br (decide (xi7 < (list0.length : Int)))
  ((0 ≤ xi7 ∧ xi7 < (list0.length : Int)) ∧
    F_spec_inRange (List.getD list0 (Int.toNat xi7) (0 : Int)) low1 high2 fun inRange20 =>
    br (!inRange20)
    (k false)
    (InR (xi7 + 1) ∧
      B0 (xi7 + 1)))
  (k true)
def L0_spec_allIn (high2 : Int) (list0 : List Int) (low1 : Int) (k : Bool → Prop) : Nat → Int → Prop
  | 0, _ => False
  | n + 1, xi7 => T0_spec_allIn high2 list0 low1 xi7 k (L0_spec_allIn high2 list0 low1 k n)
def G_spec_allIn (list0 : List Int) (low1 : Int) (high2 : Int) (I0 : Int → List Int → Int → Int → Prop) : Prop :=
  I0 high2 list0 low1 0
def S_spec_allIn (list0 : List Int) (low1 : Int) (high2 : Int) (k : Bool → Prop) : Prop := G_spec_allIn list0 low1 high2 (fun high2 list0 low1 xi7 => ∃ j, L0_spec_allIn high2 list0 low1 k j xi7)
def F_spec_allIn (l : List Int) (low high : Int) (k : Bool → Prop) : Prop := l.length ≤ 1000000000 ∧ k (decide (∀ x ∈ l, low ≤ x ∧ x ≤ high))
theorem F_spec_allIn_S {l : List Int} {low high : Int} {k : Bool → Prop} (h : F_spec_allIn l low high k) : S_spec_allIn l low high k := by
  obtain ⟨hl, hk⟩ := h
  have key : ∀ (r : List Int) (i : Nat), l.drop i = r → ((∀ x ∈ r, low ≤ x ∧ x ≤ high) ↔ (∀ x ∈ l, low ≤ x ∧ x ≤ high)) → L0_spec_allIn high l low k (r.length + 1) (i : Int) := by
    intro r
    induction r with
    | nil =>
      intro i hd he
      have := drop_nil' hd
      rw [L0_spec_allIn, T0_spec_allIn]
      simp only [br_dec]
      refine ⟨fun h => by omega, fun _ => ?_⟩
      rwa [decide_eq_true (he.1 (by simp))] at hk
    | cons x r ih =>
      intro i hd he
      obtain ⟨h1, h2, _, h3, _⟩ := drop_cons' hd
      rw [List.length_cons, L0_spec_allIn, T0_spec_allIn]
      simp only [br_dec, F_spec_inRange, br_not, Int.toNat_natCast, h2]
      refine ⟨fun _ => ⟨⟨by omega, by omega⟩, fun hx => ⟨inR (by omega) (by omega), ?_⟩, fun hx => ?_⟩, fun h => by omega⟩
      · refine ih (i + 1) h3 (Iff.trans ?_ he)
        simp only [List.mem_cons, forall_eq_or_imp]
        exact ⟨fun h => ⟨hx, h⟩, fun h => h.2⟩
      · rwa [decide_eq_false (fun h => hx (he.2 h x (by simp)))] at hk
  exact ⟨_, key l 0 rfl Iff.rfl⟩
-- spec.validLists
def G_spec_validLists (a0Room : Int) (a0Target : Int) (a0Once : List Int) (a0Often : List Int) (a0WasOnce : List Int) (a0WasOften : List Int) (k : Bool → Prop) : Prop :=
  F_spec_inRange a0Room (1 : Int) (8 : Int) fun inRange6 =>
  br (!inRange6)
  (k false)
  (F_spec_inRange a0Target (0 : Int) a0Room fun inRange13 =>
    br (!inRange13)
    (k false)
    (F_spec_validParts a0Room a0Target a0Once a0Often a0WasOnce a0WasOften fun validParts18 =>
      br (!validParts18)
      (k false)
      ((F_spec_copyInts a0Once fun copyInts23 =>
          ((copyInts23.length + a0Often.length ≤ 1000000000) ∧
            (((List.length (copyInts23 ++ a0Often)) + a0WasOnce.length ≤ 1000000000) ∧
              (((List.length ((copyInts23 ++ a0Often) ++ a0WasOnce)) + a0WasOften.length ≤ 1000000000) ∧
                F_spec_distinct (((copyInts23 ++ a0Often) ++ a0WasOnce) ++ a0WasOften) fun distinct34 =>
                br distinct34
                (F_spec_allIn (((copyInts23 ++ a0Often) ++ a0WasOnce) ++ a0WasOften) (0 : Int) (31 : Int) fun allIn37 =>
                  k allIn37)
                (k false)) ∧
              (True)) ∧
            (True)) ∧
          (True)) ∧
        (True))))
def H_spec_validLists (a0Room : Int) (a0Target : Int) (a0Once : List Int) (a0Often : List Int) (a0WasOnce : List Int) (a0WasOften : List Int) (k : Bool → Prop) : Prop :=
  F_spec_inRange a0Room (1 : Int) (8 : Int) fun inRange6 =>
  br (!inRange6)
  (k false)
  (F_spec_inRange a0Target (0 : Int) a0Room fun inRange13 =>
    br (!inRange13)
    (k false)
    (F_spec_validParts a0Room a0Target a0Once a0Often a0WasOnce a0WasOften fun validParts18 =>
      br (!validParts18)
      (k false)
      (F_spec_copyInts a0Once fun copyInts23 =>
        (copyInts23.length + a0Often.length ≤ 1000000000) ∧
        ((List.length (copyInts23 ++ a0Often)) + a0WasOnce.length ≤ 1000000000) ∧
        ((List.length ((copyInts23 ++ a0Often) ++ a0WasOnce)) + a0WasOften.length ≤ 1000000000) ∧
        F_spec_distinct (((copyInts23 ++ a0Often) ++ a0WasOnce) ++ a0WasOften) fun distinct34 =>
        br distinct34
        (F_spec_allIn (((copyInts23 ++ a0Often) ++ a0WasOnce) ++ a0WasOften) (0 : Int) (31 : Int) fun allIn37 =>
          k allIn37)
        (k false))))
theorem G_spec_validLists_eq (a0Room : Int) (a0Target : Int) (a0Once : List Int) (a0Often : List Int) (a0WasOnce : List Int) (a0WasOften : List Int) (k : Bool → Prop) : G_spec_validLists a0Room a0Target a0Once a0Often a0WasOnce a0WasOften k = H_spec_validLists a0Room a0Target a0Once a0Often a0WasOnce a0WasOften k := by
  first
  | (simp only [G_spec_validLists, H_spec_validLists, and_self, and_true]; done)
  | (simp only [G_spec_validLists, H_spec_validLists, and_self, and_true, and_self_left, and_assoc]; refine propext ⟨fun h => ?_, fun h => ?_⟩ <;> (repeat (cases ‹_ ∧ _›)) <;> (repeat' (apply And.intro)) <;> assumption)
def S_spec_validLists (a0Room : Int) (a0Target : Int) (a0Once : List Int) (a0Often : List Int) (a0WasOnce : List Int) (a0WasOften : List Int) (k : Bool → Prop) : Prop := H_spec_validLists a0Room a0Target a0Once a0Often a0WasOnce a0WasOften k
def F_spec_validLists (r t : Int) (o f wo wf : List Int) (k : Bool → Prop) : Prop :=
  (o.length ≤ 100000000 ∧ f.length ≤ 100000000 ∧ wo.length ≤ 100000000 ∧ wf.length ≤ 100000000) ∧ ∀ b : Bool, (b = true ↔ VLists r ⟨t, o, f, wo, wf⟩) → k b
theorem F_spec_validLists_S {r t : Int} {o f wo wf : List Int} {k : Bool → Prop} (h : F_spec_validLists r t o f wo wf k) : S_spec_validLists r t o f wo wf k := by
  obtain ⟨⟨h1, h2, h3, h4⟩, hk⟩ := h
  have no : ¬ VLists r ⟨t, o, f, wo, wf⟩ → k false := fun hv => hk false (by simp [hv])
  refine br_not.2 (br_dec.2 ⟨fun g1 => br_not.2 (br_dec.2 ⟨fun g2 => ⟨⟨⟨h1, h2, h3, h4⟩, g1⟩, br_not.2 (br_dec.2 ⟨fun g3 => ⟨by omega, by omega, by simp; omega, by simp; omega, by simp; omega, br_dec.2 ⟨fun g4 => ⟨by simp; omega, hk _ ?_⟩, fun g4 => no fun v => g4 (D4_nodup.2 v.dis)⟩⟩, fun g3 => no fun v => g3 ⟨v.inc, v.onc, v.tot⟩⟩)⟩, fun g2 => no fun v => g2 v.tgt⟩), fun g1 => no fun v => g1 v.room1⟩)
  rw [decide_eq_true_iff]
  have e : ∀ x, x ∈ ((o ++ f) ++ wo) ++ wf ↔ (x ∈ o ∨ x ∈ f ∨ x ∈ wo ∨ x ∈ wf) := fun x => by simp [List.mem_append, or_assoc]
  exact ⟨fun h => ⟨g1, g2, g3.1, g3.2.1, g3.2.2, D4_nodup.1 g4, fun x hx => h x ((e x).2 hx)⟩, fun v x hx => v.rng x ((e x).1 hx)⟩
-- spec.UseLists
def G_spec_UseLists (a0Room : Int) (a0Target : Int) (a0Once : List Int) (a0Often : List Int) (a0WasOnce : List Int) (a0WasOften : List Int) (key1 : Int) (k : Int → Int → List Int → List Int → List Int → List Int → Bool → Prop) : Prop :=
  F_spec_validLists a0Room a0Target a0Once a0Often a0WasOnce a0WasOften fun validLists7 =>
  br (!validLists7)
  (k 0 0 ([] : List Int) ([] : List Int) ([] : List Int) ([] : List Int) false)
  (F_spec_inRange key1 (0 : Int) (31 : Int) fun inRange11 =>
    br (!inRange11)
    (k 0 0 ([] : List Int) ([] : List Int) ([] : List Int) ([] : List Int) false)
    (F_spec_adapt a0Room a0Target a0Once a0Often a0WasOnce a0WasOften key1 fun adapt17Room adapt17Target adapt17Once adapt17Often adapt17WasOnce adapt17WasOften adapt17r1 =>
      k adapt17Room adapt17Target adapt17Once adapt17Often adapt17WasOnce adapt17WasOften adapt17r1))
def S_spec_UseLists (a0Room : Int) (a0Target : Int) (a0Once : List Int) (a0Often : List Int) (a0WasOnce : List Int) (a0WasOften : List Int) (key1 : Int) (k : Int → Int → List Int → List Int → List Int → List Int → Bool → Prop) : Prop := G_spec_UseLists a0Room a0Target a0Once a0Often a0WasOnce a0WasOften key1 k
def F_spec_UseLists (r t : Int) (o f wo wf : List Int) (key : Int) (k : Int → Int → List Int → List Int → List Int → List Int → Bool → Prop) : Prop :=
  (o.length ≤ 100000000 ∧ f.length ≤ 100000000 ∧ wo.length ≤ 100000000 ∧ wf.length ≤ 100000000) ∧
  ((VLists r ⟨t, o, f, wo, wf⟩ ∧ 0 ≤ key ∧ key ≤ 31) → k r (adM r ⟨t, o, f, wo, wf⟩ key).1.t (adM r ⟨t, o, f, wo, wf⟩ key).1.o (adM r ⟨t, o, f, wo, wf⟩ key).1.f (adM r ⟨t, o, f, wo, wf⟩ key).1.wo (adM r ⟨t, o, f, wo, wf⟩ key).1.wf (adM r ⟨t, o, f, wo, wf⟩ key).2) ∧
  (¬ (VLists r ⟨t, o, f, wo, wf⟩ ∧ 0 ≤ key ∧ key ≤ 31) → k 0 0 [] [] [] [] false)
theorem F_spec_UseLists_S {r t : Int} {o f wo wf : List Int} {key : Int} {k : Int → Int → List Int → List Int → List Int → List Int → Bool → Prop} (h : F_spec_UseLists r t o f wo wf key k) : S_spec_UseLists r t o f wo wf key k := by
  obtain ⟨hl, hyes, hno⟩ := h
  refine ⟨hl, ?_⟩
  intro b hb
  rw [br_not, br_iff]
  exact ⟨fun e => br_not.2 (br_dec.2 ⟨fun hkey => ⟨hb.1 e, hyes ⟨hb.1 e, hkey⟩⟩, fun hkey => hno fun w => hkey w.2⟩), fun e => hno fun w => by rw [hb.2 w.1] at e; cases e⟩
-- laws.equalInts
def T0_laws_equalInts (a0 : List Int) (b1 : List Int) (xi5 : Int) (k : Bool → Prop) (B0 : Int → Prop) : Prop :=
  br (decide (xi5 < (a0.length : Int)))
  ((0 ≤ xi5 ∧ xi5 < (a0.length : Int)) ∧
    (0 ≤ xi5 ∧ xi5 < (b1.length : Int)) ∧
    br ((List.getD a0 (Int.toNat xi5) (0 : Int)) != (List.getD b1 (Int.toNat xi5) (0 : Int)))
    (k false)
    (InR (xi5 + 1) ∧
      B0 (xi5 + 1)))
  (k true)
def L0_laws_equalInts (a0 : List Int) (b1 : List Int) (k : Bool → Prop) : Nat → Int → Prop
  | 0, _ => False
  | n + 1, xi5 => T0_laws_equalInts a0 b1 xi5 k (L0_laws_equalInts a0 b1 k n)
def G_laws_equalInts (a0 : List Int) (b1 : List Int) (k : Bool → Prop) (I0 : List Int → List Int → Int → Prop) : Prop :=
  br ((a0.length : Int) != (b1.length : Int))
  (k false)
  (I0 a0 b1 0)
def S_laws_equalInts (a0 : List Int) (b1 : List Int) (k : Bool → Prop) : Prop := G_laws_equalInts a0 b1 k (fun a0 b1 xi5 => ∃ j, L0_laws_equalInts a0 b1 k j xi5)
def F_laws_equalInts (a b : List Int) (k : Bool → Prop) : Prop := a.length ≤ 1000000000 ∧ k (decide (a = b))
theorem F_laws_equalInts_S {a b : List Int} {k : Bool → Prop} (h : F_laws_equalInts a b k) : S_laws_equalInts a b k := by
  obtain ⟨hl, hk⟩ := h
  refine br_bne.2 ⟨fun he => by rwa [decide_eq_false (fun e => he (by rw [e]))] at hk, fun he => ?_⟩
  have he : a.length = b.length := by omega
  have key : ∀ (r : List Int) (i : Nat), a.drop i = r → (r = b.drop i ↔ a = b) → L0_laws_equalInts a b k (r.length + 1) (i : Int) := by
    intro r
    induction r with
    | nil =>
      intro i hd hi
      have := drop_nil' hd
      rw [L0_laws_equalInts, T0_laws_equalInts]
      simp only [br_dec]
      exact ⟨fun h => by omega, fun _ => by rwa [decide_eq_true (hi.1 (List.drop_eq_nil_of_le (by omega)).symm)] at hk⟩
    | cons x r ih =>
      intro i hd hi
      obtain ⟨h1, h2, _, h3, _⟩ := drop_cons' hd
      obtain ⟨y, s, hs⟩ : ∃ y s, b.drop i = y :: s := by
        cases e : b.drop i with
        | nil => have := drop_nil' e; omega
        | cons y s => exact ⟨y, s, rfl⟩
      obtain ⟨g1, g2, _, g3, _⟩ := drop_cons' hs
      rw [List.length_cons, L0_laws_equalInts, T0_laws_equalInts]
      simp only [br_dec, br_bne, Int.toNat_natCast, h2, g2]
      rw [hs] at hi
      refine ⟨fun _ => ⟨⟨by omega, by omega⟩, ⟨by omega, by omega⟩, ?_⟩, fun h => by omega⟩
      have go : x = y → L0_laws_equalInts a b k (r.length + 1) ((i : Int) + 1) := fun hx => ih (i + 1) h3 (by rw [g3, ← hi, hx]; simp)
      have no : x ≠ y → k false := fun hx => by rwa [decide_eq_false (fun e => hx (List.cons.inj (hi.2 e)).1)] at hk
      exact ⟨no, fun hx => ⟨inR (by omega) (by omega), go hx⟩⟩
  exact ⟨_, key a 0 rfl (by simp)⟩
-- laws.equalAdaptive
def G_laws_equalAdaptive (a0Room : Int) (a0Target : Int) (a0Once : List Int) (a0Often : List Int) (a0WasOnce : List Int) (a0WasOften : List Int) (b1Room : Int) (b1Target : Int) (b1Once : List Int) (b1Often : List Int) (b1WasOnce : List Int) (b1WasOften : List Int) (k : Bool → Prop) : Prop :=
  br (a0Room == b1Room)
  (br (a0Target == b1Target)
    (F_laws_equalInts a0Once b1Once fun equalInts22 =>
      br equalInts22
      (F_laws_equalInts a0Often b1Often fun equalInts29 =>
        br equalInts29
        (F_laws_equalInts a0WasOnce b1WasOnce fun equalInts36 =>
          br equalInts36
          (F_laws_equalInts a0WasOften b1WasOften fun equalInts43 =>
            k equalInts43)
          (k false))
        (k false))
      (k false))
    (k false))
  (k false)
def S_laws_equalAdaptive (a0Room : Int) (a0Target : Int) (a0Once : List Int) (a0Often : List Int) (a0WasOnce : List Int) (a0WasOften : List Int) (b1Room : Int) (b1Target : Int) (b1Once : List Int) (b1Often : List Int) (b1WasOnce : List Int) (b1WasOften : List Int) (k : Bool → Prop) : Prop := G_laws_equalAdaptive a0Room a0Target a0Once a0Often a0WasOnce a0WasOften b1Room b1Target b1Once b1Often b1WasOnce b1WasOften k
def F_laws_equalAdaptive (r t : Int) (o f wo wf : List Int) (r' t' : Int) (o' f' wo' wf' : List Int) (k : Bool → Prop) : Prop :=
  (o.length ≤ 1000000000 ∧ f.length ≤ 1000000000 ∧ wo.length ≤ 1000000000 ∧ wf.length ≤ 1000000000) ∧ ∀ b : Bool, (b = true ↔ r = r' ∧ t = t' ∧ o = o' ∧ f = f' ∧ wo = wo' ∧ wf = wf') → k b
theorem F_laws_equalAdaptive_S {r t : Int} {o f wo wf : List Int} {r' t' : Int} {o' f' wo' wf' : List Int} {k : Bool → Prop} (h : F_laws_equalAdaptive r t o f wo wf r' t' o' f' wo' wf' k) : S_laws_equalAdaptive r t o f wo wf r' t' o' f' wo' wf' k := by
  obtain ⟨⟨l1, l2, l3, l4⟩, hk⟩ := h
  refine br_beq.2 ⟨fun e1 => br_beq.2 ⟨fun e2 => ⟨l1, br_dec.2 ⟨fun e3 => ⟨l2, br_dec.2 ⟨fun e4 => ⟨l3, br_dec.2 ⟨fun e5 => ⟨l4, hk _ (by simp [e1, e2, e3, e4, e5])⟩, fun e5 => hk _ (by simp [e5])⟩⟩, fun e4 => hk _ (by simp [e4])⟩⟩, fun e3 => hk _ (by simp [e3])⟩⟩, fun e2 => hk _ (by simp [e2])⟩, fun e1 => hk _ (by simp [e1])⟩
theorem equalAdaptive_same {r t : Int} {o f wo wf : List Int} {k : Bool → Prop} (l : o.length ≤ 1000000000 ∧ f.length ≤ 1000000000 ∧ wo.length ≤ 1000000000 ∧ wf.length ≤ 1000000000) (h : k true) : F_laws_equalAdaptive r t o f wo wf r t o f wo wf k :=
  ⟨l, all_t ⟨rfl, rfl, rfl, rfl, rfl, rfl⟩ h⟩
-- laws.FnUseListsTwice
def G_laws_FnUseListsTwice_j0 (useLists22Often : List Int) (useLists22Once : List Int) (useLists22Room : Int) (useLists22Target : Int) (useLists22WasOften : List Int) (useLists22WasOnce : List Int) (useLists22r1 : Bool) (useLists28Often : List Int) (useLists28Once : List Int) (useLists28Room : Int) (useLists28Target : Int) (useLists28WasOften : List Int) (useLists28WasOnce : List Int) (useLists28r1 : Bool) (k : Bool → Prop) : Prop :=
  F_laws_equalAdaptive useLists22Room useLists22Target useLists22Once useLists22Often useLists22WasOnce useLists22WasOften useLists28Room useLists28Target useLists28Once useLists28Often useLists28WasOnce useLists28WasOften fun equalAdaptive47 =>
  br equalAdaptive47
  (k (useLists22r1 == useLists28r1))
  (k false)
def G_laws_FnUseListsTwice (code0 : List Int) (k : Bool → Prop) : Prop :=
  br (decide ((code0.length : Int) > 1048576))
  (k true)
  (F_spec_DrawUseLists code0 fun drawUseLists16Room drawUseLists16Target drawUseLists16Once drawUseLists16Often drawUseLists16WasOnce drawUseLists16WasOften drawUseLists16r1 =>
    F_impl_UseLists drawUseLists16Room drawUseLists16Target drawUseLists16Once drawUseLists16Often drawUseLists16WasOnce drawUseLists16WasOften drawUseLists16r1 fun useLists22Room useLists22Target useLists22Once useLists22Often useLists22WasOnce useLists22WasOften useLists22r1 =>
    F_spec_UseLists drawUseLists16Room drawUseLists16Target drawUseLists16Once drawUseLists16Often drawUseLists16WasOnce drawUseLists16WasOften drawUseLists16r1 fun useLists28Room useLists28Target useLists28Once useLists28Often useLists28WasOnce useLists28WasOften useLists28r1 =>
    F_laws_equalAdaptive useLists22Room useLists22Target useLists22Once useLists22Often useLists22WasOnce useLists22WasOften useLists28Room useLists28Target useLists28Once useLists28Often useLists28WasOnce useLists28WasOften fun equalAdaptive33 =>
    br (!equalAdaptive33)
    (G_laws_FnUseListsTwice_j0 useLists22Often useLists22Once useLists22Room useLists22Target useLists22WasOften useLists22WasOnce useLists22r1 useLists28Often useLists28Once useLists28Room useLists28Target useLists28WasOften useLists28WasOnce useLists28r1 k)
    (br (!(useLists22r1 == useLists28r1))
      (G_laws_FnUseListsTwice_j0 useLists22Often useLists22Once useLists22Room useLists22Target useLists22WasOften useLists22WasOnce useLists22r1 useLists28Often useLists28Once useLists28Room useLists28Target useLists28WasOften useLists28WasOnce useLists28r1 k)
      (br (useLists22Room == 0)
        (G_laws_FnUseListsTwice_j0 useLists22Often useLists22Once useLists22Room useLists22Target useLists22WasOften useLists22WasOnce useLists22r1 useLists28Often useLists28Once useLists28Room useLists28Target useLists28WasOften useLists28WasOnce useLists28r1 k)
        (F_impl_UseLists useLists22Room useLists22Target useLists22Once useLists22Often useLists22WasOnce useLists22WasOften drawUseLists16r1 fun useLists56Room useLists56Target useLists56Once useLists56Often useLists56WasOnce useLists56WasOften useLists56r1 =>
          br useLists56r1
          (br (decide ((useLists56Often.length : Int) > 0))
            ((0 ≤ (0 : Int) ∧ 0 < (useLists56Often.length : Int)) ∧
              br ((List.getD useLists56Often 0 (0 : Int)) == drawUseLists16r1)
              (k (useLists56Target == useLists22Target))
              (k false))
            (k false))
          (k false)))))
def S_laws_FnUseListsTwice (code0 : List Int) (k : Bool → Prop) : Prop := G_laws_FnUseListsTwice code0 k
abbrev F_laws_FnUseListsTwice (code0 : List Int) (k : Bool → Prop) : Prop := S_laws_FnUseListsTwice code0 k
theorem F_laws_FnUseListsTwice_S {code0 : List Int} {k : Bool → Prop} (h : F_laws_FnUseListsTwice code0 k) : S_laws_FnUseListsTwice code0 k := h
theorem law_FnUseListsTwice (code : List Int) (hb : ∀ x ∈ code, 0 ≤ x ∧ x ≤ 255) : F_laws_FnUseListsTwice code (fun r => r = true) := by
  refine br_dec.2 ⟨fun _ => rfl, fun hlen => ⟨hb, fun r t o f wo wf key l => ⟨by omega, ?_⟩⟩⟩
  by_cases v : VLists r ⟨t, o, f, wo, wf⟩ ∧ 0 ≤ key ∧ key ≤ 31
  · refine ⟨fun _ => ⟨by omega, fun _ => ?_, fun h => absurd v h⟩, fun h => absurd v h⟩
    have hval := adM_valid v.1 v.2
    have hl := lists_len hval
    have hin := adM_in (room := r) (a := ⟨t, o, f, wo, wf⟩) (key := key)
    have r1 := v.1.room1
    generalize adM r ⟨t, o, f, wo, wf⟩ key = q at *
    obtain ⟨⟨t', o', f', wo', wf'⟩, hit⟩ := q
    simp only at hval hl hin ⊢
    refine equalAdaptive_same (by omega) (br_nt (br_same (br_beq.2 ⟨fun h => by omega, fun _ => ⟨by omega, fun _ => ?_, fun h => absurd ⟨hval, v.2⟩ h⟩⟩)))
    obtain ⟨g1, ⟨s, g2⟩, g3⟩ := adM_again hval hin
    rw [g1, g2, g3]
    exact br_dec.2 ⟨fun _ => ⟨⟨by omega, by simp⟩, br_beq.2 ⟨fun _ => beq_self_eq_true _, fun h => absurd rfl h⟩⟩, fun h => absurd (by simp) h⟩
  · refine ⟨fun h => absurd h v, fun _ => ⟨by omega, fun h => absurd h v, fun _ => ?_⟩⟩
    exact equalAdaptive_same (by simp) (br_nt (br_same (br_beq.2 ⟨fun _ => equalAdaptive_same (by simp) rfl, fun h => absurd rfl h⟩)))
end Go.Ev
