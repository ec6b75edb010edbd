/- What the functions that the law reaches do, written as plain Lean. No statement is proved here. -/
import Derived.Test.YtaajnkggomlppadFnExactUseListsP0
namespace Go.Ev
set_option linter.unusedVariables false
open Go
def F_impl_UseLists (r t : Int) (o f wo wf : List Int) (key : Int) (k : Int → Int → List Int → List Int → List Int → List Int → Bool → Prop) : Prop :=
  (o.length ≤ 100000000 ∧ f.length ≤ 100000000 ∧ wo.length ≤ 100000000 ∧ wf.length ≤ 100000000) ∧
  ((VLists r ⟨t, o, f, wo, wf⟩ ∧ 0 ≤ key ∧ key ≤ 31) → k r (adM r ⟨t, o, f, wo, wf⟩ key).1.t (adM r ⟨t, o, f, wo, wf⟩ key).1.o (adM r ⟨t, o, f, wo, wf⟩ key).1.f (adM r ⟨t, o, f, wo, wf⟩ key).1.wo (adM r ⟨t, o, f, wo, wf⟩ key).1.wf (adM r ⟨t, o, f, wo, wf⟩ key).2) ∧
  (¬ (VLists r ⟨t, o, f, wo, wf⟩ ∧ 0 ≤ key ∧ key ≤ 31) → k 0 0 [] [] [] [] false)
theorem F_impl_UseLists_S {r t : Int} {o f wo wf : List Int} {key : Int} {k : Int → Int → List Int → List Int → List Int → List Int → Bool → Prop} (h : F_impl_UseLists r t o f wo wf key k) : S_impl_UseLists r t o f wo wf key k := by
  obtain ⟨hl, hyes, hno⟩ := h
  refine ⟨hl, ?_⟩
  intro b hb
  refine br_not.2 (br_iff.2 ⟨fun e => ?_, fun e => hno fun w => by rw [hb.2 w.1] at e; cases e⟩)
  refine br_not.2 (br_dec.2 ⟨fun hkey => ?_, fun hkey => hno fun w => hkey w.2⟩)
  have v := hb.1 e
  have hk := hyes ⟨v, hkey⟩
  simp only [useL_adM v] at hk
  obtain ⟨l1, l2, l3, l4⟩ := lists_len v
  have r1 := v.room1
  have tg := v.tgt
  have hinc := v.inc
  have honc := v.onc
  have htot := v.tot
  simp only at l1 l2 l3 l4 tg hinc honc htot
  let K : Bool → Bool → AL → Prop := fun kn hit b => k r (inL (kn = true) key b).t (inL (kn = true) key b).o (inL (kn = true) key b).f (inL (kn = true) key b).wo (inL (kn = true) key b).wf hit
  have put : ∀ (kn hit : Bool) (b : AL), b.f.length ≤ 100 → b.o.length ≤ 100 → K kn hit b →
      br kn (F_impl_putFirst b.f key fun p => k r b.t b.o p b.wo b.wf hit) (F_impl_putFirst b.o key fun p => k r b.t p b.f b.wo b.wf hit) := by
    intro kn hit b g1 g2 hK
    cases kn
    · exact ⟨by omega, hK⟩
    · exact ⟨by omega, hK⟩
  have cut : ∀ l : List Int, 0 < l.length → l.length ≤ 100 → (((l.length : Int) - 1).toNat = l.length - 1) := fun l _ _ => by omega
  -- room is made
  have s5 : ∀ (t' : Int) (f o wo wf : List Int) (hit kn : Bool), 0 < o.length → o.length ≤ 50 → f.length ≤ 50 → wo.length ≤ 50 → wf.length ≤ 50 →
      K kn hit ⟨t', o.take (o.length - 1), f, lastI o :: wo, wf⟩ → L5_impl_UseLists r key t' f o wo wf hit kn k := by
    intro t' f o wo wf hit kn g1 g2 g3 g4 g5 hK
    refine ⟨inR (by omega) (by omega), ⟨by omega, by omega⟩, inR (by omega) (by omega), ⟨by omega, by omega⟩, by omega, ?_⟩
    rw [cut o g1 (by omega)]
    exact put kn hit ⟨t', o.take (o.length - 1), f, lastI o :: wo, wf⟩ (by simp only; omega) (by simp only [List.length_take]; omega) hK
  have s4 : ∀ (t' : Int) (f o wo wf : List Int) (hit kn was en : Bool), 0 ≤ t' → 0 < o.length + f.length → o.length ≤ 50 → f.length ≤ 50 → wo.length ≤ 50 → wf.length ≤ 50 →
      (en = true ↔ was = true ∧ 0 < o.length ∧ (o.length : Int) = t') →
      K kn hit (mkRoom was ⟨t', o, f, wo, wf⟩) → L4_impl_UseLists r key t' f o wo wf hit kn k (decide ((o.length : Int) > t')) en := by
    intro t' f o wo wf hit kn was en g0 g1 g2 g3 g4 g5 hen hK
    unfold mkRoom at hK
    have yes : ((0 < o.length ∧ ((o.length : Int) > t' ∨ was = true ∧ (o.length : Int) = t')) ∨ f.length = 0) → L5_impl_UseLists r key t' f o wo wf hit kn k := by
      intro c
      rw [if_pos c] at hK
      exact s5 t' f o wo wf hit kn (by omega) g2 g3 g4 g5 hK
    refine br_dec.2 ⟨fun c => yes (.inl ⟨by omega, .inl c⟩), fun c1 => br_iff.2 ⟨fun c => yes (.inl ⟨(hen.1 c).2.1, .inr ⟨(hen.1 c).1, (hen.1 c).2.2⟩⟩), fun c2 => br_beq.2 ⟨fun c => yes (.inr (by omega)), fun c3 => ?_⟩⟩⟩
    have hf : 0 < f.length := by omega
    rw [if_neg (fun c => by
      rcases c with ⟨c4, c5 | c5⟩ | c
      · exact c1 c5
      · rw [hen.2 ⟨c5.1, c4, c5.2⟩] at c2; cases c2
      · simp only at c; omega)] at hK
    refine ⟨inR (by omega) (by omega), ⟨by omega, by omega⟩, inR (by omega) (by omega), ⟨by omega, by omega⟩, by omega, ?_⟩
    rw [cut f hf (by omega)]
    exact put kn hit ⟨t', o, f.take (f.length - 1), wo, lastI f :: wf⟩ (by simp only [List.length_take]; omega) (by simp only; omega) hK
  have s3 : ∀ (t' : Int) (f o wo wf : List Int) (hit kn was : Bool), 0 ≤ t' → o.length ≤ 50 → f.length ≤ 50 → wo.length ≤ 50 → wf.length ≤ 50 →
      K kn hit (fitL r was ⟨t', o, f, wo, wf⟩) → L3_impl_UseLists r was key t' f hit kn k o wo wf := by
    intro t' f o wo wf hit kn was g0 g2 g3 g4 g5 hK
    refine ⟨inR (by omega) (by omega), br_beq.2 ⟨fun c => ?_, fun c => ?_⟩⟩
    · rw [fitL, if_pos c] at hK
      refine br_iff.2 ⟨fun hw => br_dec.2 ⟨fun ho => ?_, fun ho => ?_⟩, fun hw => ?_⟩
      · exact s4 t' f o wo wf hit kn was _ g0 (by omega) g2 g3 g4 g5 (by simp only [beq_iff_eq]; exact ⟨fun h => ⟨hw, by omega, h⟩, fun h => h.2.2⟩) hK
      · exact s4 t' f o wo wf hit kn was _ g0 (by omega) g2 g3 g4 g5 (by simp only [Bool.false_eq_true, false_iff]; intro h; omega) hK
      · exact s4 t' f o wo wf hit kn was _ g0 (by omega) g2 g3 g4 g5 (by rw [hw]; simp) hK
    · rw [fitL, if_neg c] at hK
      exact put kn hit ⟨t', o, f, wo, wf⟩ (by simp only; omega) (by simp only; omega) hK
  have s2 : ∀ (t' : Int) (f o wo wf : List Int) (hit kn was : Bool), 0 ≤ t' → o.length ≤ 50 → f.length ≤ 50 → wo.length ≤ 50 → wf.length ≤ 50 →
      (kn = false → (o.length : Int) + f.length ≤ r ∧ (o.length : Int) + wo.length ≤ r) →
      K kn hit (fitL r was (if kn = true then ⟨t', o, f, wo, wf⟩ else forgetL r ⟨t', o, f, wo, wf⟩)) → L2_impl_UseLists r was key t' o f wo wf hit k kn := by
    intro t' f o wo wf hit kn was g0 g2 g3 g4 g5 g6 hK
    refine br_not.2 (br_iff.2 ⟨fun c => ?_, fun c => ?_⟩)
    · rw [if_pos c] at hK
      exact s3 t' f o wo wf hit kn was g0 g2 g3 g4 g5 hK
    · obtain ⟨g7, g8⟩ := g6 c
      rw [if_neg (by rw [c]; simp)] at hK
      unfold forgetL at hK
      have tail : ¬ ((o.length : Int) + wo.length = r ∧ 0 < wo.length) → T2_impl_UseLists_j0 r was key t' o f wo wf hit kn (fun a0Room contains54 key1 nextTarget23 withoutKey31 xhit7 xknown9 xb6c2 xb6c4 xb6c5 => L3_impl_UseLists a0Room contains54 key1 nextTarget23 withoutKey31 xhit7 xknown9 k xb6c2 xb6c4 xb6c5) := by
        intro n1
        rw [if_neg n1] at hK
        refine br_beq.2 ⟨fun c => ?_, fun c => ⟨inR (by omega) (by omega), inR (by omega) (by omega), br_beq.2 ⟨fun c2 => ?_, fun c2 => ?_⟩⟩⟩
        · rw [if_pos c] at hK
          refine ⟨inR (by omega) (by omega), ⟨by omega, by omega⟩, ?_⟩
          rw [cut o (by omega) (by omega)]
          exact s3 t' f _ wo wf hit kn was g0 (by simp [List.length_take]; omega) g3 g4 g5 hK
        · rw [if_neg c, if_pos (show (o.length : Int) + wo.length + f.length + wf.length = 2 * r by omega)] at hK
          refine ⟨inR (by omega) (by omega), ⟨by omega, by omega⟩, ?_⟩
          rw [cut wf (by omega) (by omega)]
          exact s3 t' f o wo _ hit kn was g0 g2 g3 g4 (by simp [List.length_take]; omega) hK
        · rw [if_neg c, if_neg (show ¬ ((o.length : Int) + wo.length + f.length + wf.length = 2 * r) by omega)] at hK
          exact s3 t' f o wo wf hit kn was g0 g2 g3 g4 g5 hK
      refine ⟨inR (by omega) (by omega), inR (by omega) (by omega), br_beq.2 ⟨fun c1 => br_dec.2 ⟨fun c2 => ?_, fun c2 => tail (by omega)⟩, fun c1 => tail (by omega)⟩⟩
      rw [if_pos (show (o.length : Int) + wo.length = r ∧ 0 < wo.length from ⟨c1, by omega⟩)] at hK
      refine ⟨inR (by omega) (by omega), ⟨by omega, by omega⟩, ?_⟩
      rw [cut wo (by omega) (by omega)]
      exact s3 t' f o _ wf hit kn was g0 g2 g3 (by simp [List.length_take]; omega) g5 hK
  have b1 := @rmK_le o key
  have b2 := @rmK_le f key
  have b3 := @rmK_le wo key
  have b4 := @rmK_le wf key
  have nt : 0 ≤ nextT r ⟨t, o, f, wo, wf⟩ key := by
    unfold nextT
    have := max1_pos (Int.tdiv (wf.length : Int) wo.length)
    split
    · simp only; split <;> omega
    · split
      · simp only; split <;> omega
      · exact tg.1
  have fin : ∀ (kn hit : Bool), (kn = true ↔ knownL ⟨t, o, f, wo, wf⟩ key) → hit = decide (key ∈ o ∨ key ∈ f) →
      L2_impl_UseLists r (decide (key ∈ wf)) key (nextT r ⟨t, o, f, wo, wf⟩ key) (rmK o key) (rmK f key) (rmK wo key) (rmK wf key) hit k kn := by
    intro kn hit h1 h2
    refine s2 _ _ _ _ _ hit kn _ nt (by omega) (by omega) (by omega) (by omega) (fun _ => by omega) ?_
    show k r _ _ _ _ _ hit
    rw [h2]
    have e1 : ∀ b, inL (kn = true) key b = inL (knownL ⟨t, o, f, wo, wf⟩ key) key b := fun b => by unfold inL; simp only [h1]
    simp only [e1, h1]
    exact hk
  refine ⟨v, by omega, by omega, by omega, by omega, by omega, br_dec.2 ⟨fun m1 => ?_, fun m1 => ⟨by omega, ?_⟩⟩⟩
  · refine ⟨by omega, ?_⟩
    exact fin true true (by simp [knownL, m1]) (by simp [m1])
  · refine ⟨by omega, br_dec.2 ⟨fun m2 => ?_, fun m2 => br_dec.2 ⟨fun m4 => ?_, fun m4 => ⟨by omega, ?_⟩⟩⟩⟩
    · exact fin true _ (by simp [knownL, m2]) (by simp [m1])
    · exact fin true _ (by simp [knownL, m4]) (by simp [m1])
    · exact fin _ _ (by simp [knownL, m1, m2, m4]) (by simp [m1])
-- laws.eqIntS
def T0_laws_eqIntS (a0 : List Int) (b1 : List Int) (xi5 : Int) (k : Bool → Prop) (B0 : Int → Prop) : Prop :=
  br (decide (xi5 < (a0.length : Int)))
  ((0 ≤ xi5 ∧ xi5 < (a0.length : Int)) ∧
    (0 ≤ xi5 ∧ xi5 < (b1.length : Int)) ∧
    br ((List.getD a0 (Int.toNat xi5) (0 : Int)) != (List.getD b1 (Int.toNat xi5) (0 : Int)))
    (k false)
    (InR (xi5 + 1) ∧
      B0 (xi5 + 1)))
  (k true)
def L0_laws_eqIntS (a0 : List Int) (b1 : List Int) (k : Bool → Prop) : Nat → Int → Prop
  | 0, _ => False
  | n + 1, xi5 => T0_laws_eqIntS a0 b1 xi5 k (L0_laws_eqIntS a0 b1 k n)
def G_laws_eqIntS (a0 : List Int) (b1 : List Int) (k : Bool → Prop) (I0 : List Int → List Int → Int → Prop) : Prop :=
  br ((a0.length : Int) != (b1.length : Int))
  (k false)
  (I0 a0 b1 0)
def S_laws_eqIntS (a0 : List Int) (b1 : List Int) (k : Bool → Prop) : Prop := G_laws_eqIntS a0 b1 k (fun a0 b1 xi5 => ∃ j, L0_laws_eqIntS a0 b1 k j xi5)
def F_laws_eqIntS (a b : List Int) (k : Bool → Prop) : Prop := a.length ≤ 1000000000 ∧ k (decide (a = b))
theorem F_laws_eqIntS_S {a b : List Int} {k : Bool → Prop} (h : F_laws_eqIntS a b k) : S_laws_eqIntS a b k := by
  obtain ⟨hl, hk⟩ := h
  refine br_bne.2 ⟨fun he => by rwa [decide_eq_false (fun e => he (by rw [e]))] at hk, fun he => ?_⟩
  have he : a.length = b.length := by omega
  have key : ∀ (r : List Int) (i : Nat), a.drop i = r → (r = b.drop i ↔ a = b) → L0_laws_eqIntS a b k (r.length + 1) (i : Int) := by
    intro r
    induction r with
    | nil =>
      intro i hd hi
      have := drop_nil' hd
      rw [L0_laws_eqIntS, T0_laws_eqIntS]
      simp only [br_dec]
      exact ⟨fun h => by omega, fun _ => by rwa [decide_eq_true (hi.1 (List.drop_eq_nil_of_le (by omega)).symm)] at hk⟩
    | cons x r ih =>
      intro i hd hi
      obtain ⟨h1, h2, _, h3, _⟩ := drop_cons' hd
      obtain ⟨y, s, hs⟩ : ∃ y s, b.drop i = y :: s := by
        cases e : b.drop i with
        | nil => have := drop_nil' e; omega
        | cons y s => exact ⟨y, s, rfl⟩
      obtain ⟨g1, g2, _, g3, _⟩ := drop_cons' hs
      rw [List.length_cons, L0_laws_eqIntS, T0_laws_eqIntS]
      simp only [br_dec, br_bne, Int.toNat_natCast, h2, g2]
      rw [hs] at hi
      refine ⟨fun _ => ⟨⟨by omega, by omega⟩, ⟨by omega, by omega⟩, ?_⟩, fun h => by omega⟩
      have go : x = y → L0_laws_eqIntS a b k (r.length + 1) ((i : Int) + 1) := fun hx => ih (i + 1) h3 (by rw [g3, ← hi, hx]; simp)
      have no : x ≠ y → k false := fun hx => by rwa [decide_eq_false (fun e => hx (List.cons.inj (hi.2 e)).1)] at hk
      exact ⟨no, fun hx => ⟨inR (by omega) (by omega), go hx⟩⟩
  exact ⟨_, key a 0 rfl (by simp)⟩
-- laws.eqLists
def G_laws_eqLists (a0Room : Int) (a0Target : Int) (a0Once : List Int) (a0Often : List Int) (a0WasOnce : List Int) (a0WasOften : List Int) (b1Room : Int) (b1Target : Int) (b1Once : List Int) (b1Often : List Int) (b1WasOnce : List Int) (b1WasOften : List Int) (k : Bool → Prop) : Prop :=
  br (a0Room != b1Room)
  (k false)
  (br (a0Target != b1Target)
    (k false)
    (F_laws_eqIntS a0Once b1Once fun eqIntS19 =>
      br (!eqIntS19)
      (k false)
      (F_laws_eqIntS a0Often b1Often fun eqIntS25 =>
        br (!eqIntS25)
        (k false)
        (F_laws_eqIntS a0WasOnce b1WasOnce fun eqIntS31 =>
          br (!eqIntS31)
          (k false)
          (F_laws_eqIntS a0WasOften b1WasOften fun eqIntS37 =>
            br (!eqIntS37)
            (k false)
            (k true))))))
def S_laws_eqLists (a0Room : Int) (a0Target : Int) (a0Once : List Int) (a0Often : List Int) (a0WasOnce : List Int) (a0WasOften : List Int) (b1Room : Int) (b1Target : Int) (b1Once : List Int) (b1Often : List Int) (b1WasOnce : List Int) (b1WasOften : List Int) (k : Bool → Prop) : Prop := G_laws_eqLists a0Room a0Target a0Once a0Often a0WasOnce a0WasOften b1Room b1Target b1Once b1Often b1WasOnce b1WasOften k
def F_laws_eqLists (room : Int) (target : Int) (once : List Int) (often : List Int) (wasOnce : List Int) (wasOften : List Int) (room' : Int) (target' : Int) (once' : List Int) (often' : List Int) (wasOnce' : List Int) (wasOften' : List Int) (k : Bool → Prop) : Prop := (once.length ≤ 1000000000 ∧ often.length ≤ 1000000000 ∧ wasOnce.length ≤ 1000000000 ∧ wasOften.length ≤ 1000000000) ∧ ∀ b : Bool, (b = true ↔ room = room' ∧ target = target' ∧ once = once' ∧ often = often' ∧ wasOnce = wasOnce' ∧ wasOften = wasOften') → k b
theorem F_laws_eqLists_S {room : Int} {target : Int} {once : List Int} {often : List Int} {wasOnce : List Int} {wasOften : List Int} {room' : Int} {target' : Int} {once' : List Int} {often' : List Int} {wasOnce' : List Int} {wasOften' : List Int} {k : Bool → Prop} (h : F_laws_eqLists room target once often wasOnce wasOften room' target' once' often' wasOnce' wasOften' k) : S_laws_eqLists room target once often wasOnce wasOften room' target' once' often' wasOnce' wasOften' k := by
  obtain ⟨⟨lOnce, lOften, lWasOnce, lWasOften⟩, hk⟩ := h
  exact br_bne.2 ⟨fun eRoom => hk false (by simp [eRoom]), fun eRoom => br_bne.2 ⟨fun eTarget => hk false (by simp [eTarget]), fun eTarget => ⟨lOnce, br_not.2 (br_dec.2 ⟨fun eOnce => ⟨lOften, br_not.2 (br_dec.2 ⟨fun eOften => ⟨lWasOnce, br_not.2 (br_dec.2 ⟨fun eWasOnce => ⟨lWasOften, br_not.2 (br_dec.2 ⟨fun eWasOften => hk true (by simp [eRoom, eTarget, eOnce, eOften, eWasOnce, eWasOften]), fun eWasOften => hk false (by simp [eWasOften])⟩)⟩, fun eWasOnce => hk false (by simp [eWasOnce])⟩)⟩, fun eOften => hk false (by simp [eOften])⟩)⟩, fun eOnce => hk false (by simp [eOnce])⟩)⟩⟩⟩
theorem eqLists_same {room : Int} {target : Int} {once : List Int} {often : List Int} {wasOnce : List Int} {wasOften : List Int} {k : Bool → Prop} (hl : once.length ≤ 1000000000 ∧ often.length ≤ 1000000000 ∧ wasOnce.length ≤ 1000000000 ∧ wasOften.length ≤ 1000000000) (h : k true) : F_laws_eqLists room target once often wasOnce wasOften room target once often wasOnce wasOften k := ⟨hl, all_t ⟨rfl, rfl, rfl, rfl, rfl, rfl⟩ h⟩
-- laws.markIntS
def T0_laws_markIntS (xk1 : Int) (xi5 : Int) (xy100000 : List Int) (k : Int → List Int → Prop) (B0 : Int → Int → List Int → Prop) : Prop :=
  br (decide (xi5 < (xy100000.length : Int)))
  ((0 ≤ xi5 ∧ xi5 < (xy100000.length : Int)) ∧
    InR (xk1 + 1) ∧
    InR (xi5 + 1) ∧
    B0 (xk1 + 1) (xi5 + 1) (List.set xy100000 (Int.toNat xi5) xk1))
  (k xk1 xy100000)
def L0_laws_markIntS (k : Int → List Int → Prop) : Nat → Int → Int → List Int → Prop
  | 0, _, _, _ => False
  | n + 1, xk1, xi5, xy100000 => T0_laws_markIntS xk1 xi5 xy100000 k (L0_laws_markIntS k n)
def G_laws_markIntS (a0 : List Int) (k1 : Int) (I0 : Int → Int → List Int → Prop) : Prop :=
  I0 k1 0 a0
def S_laws_markIntS (a0 : List Int) (k1 : Int) (k : Int → List Int → Prop) : Prop := G_laws_markIntS a0 k1 (fun xk1 xi5 xy100000 => ∃ j, L0_laws_markIntS k j xk1 xi5 xy100000)
def F_laws_markIntS (a : List Int) (k0 : Int) (k : Int → List Int → Prop) : Prop :=
  (a.length ≤ 1000000000 ∧ 0 ≤ k0 ∧ k0 ≤ 100000000000) ∧ k (k0 + a.length) (seqI k0 a.length)
theorem F_laws_markIntS_S {a : List Int} {k0 : Int} {k : Int → List Int → Prop} (h : F_laws_markIntS a k0 k) : S_laws_markIntS a k0 k := by
  obtain ⟨⟨h1, h2, h3⟩, hk⟩ := h
  have key : ∀ (d i : Nat) (out : List Int), i + d = a.length → out.length = a.length → out.take i = seqI k0 i → L0_laws_markIntS k (d + 1) (k0 + (i : Int)) (i : Int) out := by
    intro d
    induction d with
    | zero =>
      intro i out hi ho he
      rw [L0_laws_markIntS, T0_laws_markIntS]
      refine br_dec.2 ⟨fun h => by omega, fun _ => ?_⟩
      rw [List.take_of_length_le (by omega)] at he
      have : i = a.length := by omega
      rw [he, this]; exact hk
    | succ d ih =>
      intro i out hi ho he
      rw [L0_laws_markIntS, T0_laws_markIntS]
      rw [Int.toNat_natCast]
      refine br_dec.2 ⟨fun _ => ⟨⟨by omega, by omega⟩, inR (by omega) (by omega), inR (by omega) (by omega), ?_⟩, fun h => by omega⟩
      rw [show k0 + (i : Int) + 1 = k0 + ((i + 1 : Nat) : Int) by omega]
      exact ih (i + 1) _ (by omega) (by simpa using ho) (by rw [take_set_succ (by omega), he, seqI_snoc])
  have := key a.length 0 a (by omega) rfl (by simp [seqI])
  rw [show k0 + ((0 : Nat) : Int) = k0 by omega] at this
  exact ⟨_, this⟩
-- laws.markLists
def G_laws_markLists (a0Room : Int) (a0Target : Int) (a0Once : List Int) (a0Often : List Int) (a0WasOnce : List Int) (a0WasOften : List Int) (k1 : Int) (k : Int → List Int → List Int → List Int → List Int → Prop) : Prop :=
  F_laws_markIntS a0Once k1 fun markIntS8 omarkIntS8 =>
  F_laws_markIntS a0Often markIntS8 fun markIntS12 omarkIntS12 =>
  F_laws_markIntS a0WasOnce markIntS12 fun markIntS16 omarkIntS16 =>
  F_laws_markIntS a0WasOften markIntS16 fun markIntS20 omarkIntS20 =>
  k markIntS20 omarkIntS8 omarkIntS12 omarkIntS16 omarkIntS20
def S_laws_markLists (a0Room : Int) (a0Target : Int) (a0Once : List Int) (a0Often : List Int) (a0WasOnce : List Int) (a0WasOften : List Int) (k1 : Int) (k : Int → List Int → List Int → List Int → List Int → Prop) : Prop := G_laws_markLists a0Room a0Target a0Once a0Often a0WasOnce a0WasOften k1 k
def F_laws_markLists (room : Int) (target : Int) (once : List Int) (often : List Int) (wasOnce : List Int) (wasOften : List Int) (k0 : Int) (k : Int → List Int → List Int → List Int → List Int → Prop) : Prop := (once.length ≤ 1000000000 ∧ often.length ≤ 1000000000 ∧ wasOnce.length ≤ 1000000000 ∧ wasOften.length ≤ 1000000000 ∧ 0 ≤ k0 ∧ k0 ≤ 100000000) ∧ k (k0 + (once.length : Int) + (often.length : Int) + (wasOnce.length : Int) + (wasOften.length : Int)) (seqI (k0) once.length) (seqI (k0 + (once.length : Int)) often.length) (seqI (k0 + (once.length : Int) + (often.length : Int)) wasOnce.length) (seqI (k0 + (once.length : Int) + (often.length : Int) + (wasOnce.length : Int)) wasOften.length)
theorem F_laws_markLists_S {room : Int} {target : Int} {once : List Int} {often : List Int} {wasOnce : List Int} {wasOften : List Int} {k0 : Int} {k : Int → List Int → List Int → List Int → List Int → Prop} (h : F_laws_markLists room target once often wasOnce wasOften k0 k) : S_laws_markLists room target once often wasOnce wasOften k0 k := by
  obtain ⟨⟨lOnce, lOften, lWasOnce, lWasOften, g1, g2⟩, hk⟩ := h
  exact ⟨⟨by omega, by omega, by omega⟩, ⟨⟨by omega, by omega, by omega⟩, ⟨⟨by omega, by omega, by omega⟩, ⟨⟨by omega, by omega, by omega⟩, hk⟩⟩⟩⟩
-- laws.heldIntS
def T0_laws_heldIntS (a0 : List Int) (xk1 : Int) (xi5 : Int) (k : Int → Prop) (B0 : Int → Int → Prop) : Prop :=
  br (decide (xi5 < (a0.length : Int)))
  ((0 ≤ xi5 ∧ xi5 < (a0.length : Int)) ∧
    br ((List.getD a0 (Int.toNat xi5) (0 : Int)) != xk1)
    (k (-1))
    (InR (xk1 + 1) ∧
      InR (xi5 + 1) ∧
      B0 (xk1 + 1) (xi5 + 1)))
  (k xk1)
def L0_laws_heldIntS (a0 : List Int) (k : Int → Prop) : Nat → Int → Int → Prop
  | 0, _, _ => False
  | n + 1, xk1, xi5 => T0_laws_heldIntS a0 xk1 xi5 k (L0_laws_heldIntS a0 k n)
def G_laws_heldIntS (a0 : List Int) (k1 : Int) (I0 : List Int → Int → Int → Prop) : Prop :=
  I0 a0 k1 0
def S_laws_heldIntS (a0 : List Int) (k1 : Int) (k : Int → Prop) : Prop := G_laws_heldIntS a0 k1 (fun a0 xk1 xi5 => ∃ j, L0_laws_heldIntS a0 k j xk1 xi5)
def F_laws_heldIntS (a : List Int) (k0 : Int) (k : Int → Prop) : Prop :=
  ∃ n : Nat, (n ≤ 1000000000 ∧ 0 ≤ k0 ∧ k0 ≤ 100000000000) ∧ a = seqI k0 n ∧ k (k0 + (n : Int))
theorem F_laws_heldIntS_S {a : List Int} {k0 : Int} {k : Int → Prop} (h : F_laws_heldIntS a k0 k) : S_laws_heldIntS a k0 k := by
  obtain ⟨n, ⟨h1, h2, h3⟩, rfl, hk⟩ := h
  have key : ∀ (d i : Nat), i + d = n → L0_laws_heldIntS (seqI k0 n) k (d + 1) (k0 + (i : Int)) (i : Int) := by
    intro d
    induction d with
    | zero =>
      intro i hi
      rw [L0_laws_heldIntS, T0_laws_heldIntS]
      rw [seqI_len]
      refine br_dec.2 ⟨fun h => by omega, fun _ => ?_⟩
      have : i = n := by omega
      rw [this]; exact hk
    | succ d ih =>
      intro i hi
      have hi2 : i < n := by omega
      rw [L0_laws_heldIntS, T0_laws_heldIntS]
      rw [Int.toNat_natCast, seqI_len]
      refine br_dec.2 ⟨fun _ => ⟨⟨by omega, by omega⟩, br_bne.2 ⟨fun h => absurd (seqI_get hi2) h, fun _ => ⟨inR (by omega) (by omega), inR (by omega) (by omega), ?_⟩⟩⟩, fun h => by omega⟩
      rw [show k0 + (i : Int) + 1 = k0 + ((i + 1 : Nat) : Int) by omega]
      exact ih (i + 1) (by omega)
  have := key n 0 (by omega)
  rw [show k0 + ((0 : Nat) : Int) = k0 by omega] at this
  exact ⟨_, this⟩
-- laws.heldLists
def G_laws_heldLists (a0Room : Int) (a0Target : Int) (a0Once : List Int) (a0Often : List Int) (a0WasOnce : List Int) (a0WasOften : List Int) (k1 : Int) (k : Int → Prop) : Prop :=
  F_laws_heldIntS a0Once k1 fun heldIntS8 =>
  br (decide (heldIntS8 < 0))
  (k (-1))
  (F_laws_heldIntS a0Often heldIntS8 fun heldIntS14 =>
    br (decide (heldIntS14 < 0))
    (k (-1))
    (F_laws_heldIntS a0WasOnce heldIntS14 fun heldIntS20 =>
      br (decide (heldIntS20 < 0))
      (k (-1))
      (F_laws_heldIntS a0WasOften heldIntS20 fun heldIntS26 =>
        br (decide (heldIntS26 < 0))
        (k (-1))
        (k heldIntS26))))
def S_laws_heldLists (a0Room : Int) (a0Target : Int) (a0Once : List Int) (a0Often : List Int) (a0WasOnce : List Int) (a0WasOften : List Int) (k1 : Int) (k : Int → Prop) : Prop := G_laws_heldLists a0Room a0Target a0Once a0Often a0WasOnce a0WasOften k1 k
def F_laws_heldLists (room : Int) (target : Int) (once : List Int) (often : List Int) (wasOnce : List Int) (wasOften : List Int) (k0 : Int) (k : Int → Prop) : Prop :=
  ∃ nOnce nOften nWasOnce nWasOften : Nat, (nOnce ≤ 1000000000 ∧ nOften ≤ 1000000000 ∧ nWasOnce ≤ 1000000000 ∧ nWasOften ≤ 1000000000 ∧ 0 ≤ k0 ∧ k0 ≤ 100000000) ∧ once = seqI (k0) nOnce ∧ often = seqI (k0 + (nOnce : Int)) nOften ∧ wasOnce = seqI (k0 + (nOnce : Int) + (nOften : Int)) nWasOnce ∧ wasOften = seqI (k0 + (nOnce : Int) + (nOften : Int) + (nWasOnce : Int)) nWasOften ∧ k (k0 + (nOnce : Int) + (nOften : Int) + (nWasOnce : Int) + (nWasOften : Int))
theorem F_laws_heldLists_S {room : Int} {target : Int} {once : List Int} {often : List Int} {wasOnce : List Int} {wasOften : List Int} {k0 : Int} {k : Int → Prop} (h : F_laws_heldLists room target once often wasOnce wasOften k0 k) : S_laws_heldLists room target once often wasOnce wasOften k0 k := by
  obtain ⟨nOnce, nOften, nWasOnce, nWasOften, ⟨lOnce, lOften, lWasOnce, lWasOften, g1, g2⟩, rfl, rfl, rfl, rfl, hk⟩ := h
  refine ⟨nOnce, ⟨lOnce, by omega, by omega⟩, rfl, ?_⟩
  refine br_dec.2 ⟨fun h => by omega, fun _ => ?_⟩
  refine ⟨nOften, ⟨lOften, by omega, by omega⟩, rfl, ?_⟩
  refine br_dec.2 ⟨fun h => by omega, fun _ => ?_⟩
  refine ⟨nWasOnce, ⟨lWasOnce, by omega, by omega⟩, rfl, ?_⟩
  refine br_dec.2 ⟨fun h => by omega, fun _ => ?_⟩
  refine ⟨nWasOften, ⟨lWasOften, by omega, by omega⟩, rfl, ?_⟩
  refine br_dec.2 ⟨fun h => by omega, fun _ => ?_⟩
  exact hk
-- laws.FnExactUseLists
def G_laws_FnExactUseLists (aA0Room : Int) (aA0Target : Int) (aA0Once : List Int) (aA0Often : List Int) (aA0WasOnce : List Int) (aA0WasOften : List Int) (aKey1 : Int) (k : Bool → Prop) : Prop :=
  F_laws_szLists aA0Room aA0Target aA0Once aA0Often aA0WasOnce aA0WasOften (1048576 : Int) fun szLists18 =>
  br (decide (szLists18 < 0))
  (k true)
  (F_laws_toLists aA0Room aA0Target aA0Once aA0Often aA0WasOnce aA0WasOften fun toLists23Room toLists23Target toLists23Once toLists23Often toLists23WasOnce toLists23WasOften =>
    F_spec_UseLists toLists23Room toLists23Target toLists23Once toLists23Often toLists23WasOnce toLists23WasOften aKey1 fun useLists25Room useLists25Target useLists25Once useLists25Often useLists25WasOnce useLists25WasOften useLists25r1 =>
    F_laws_toLists aA0Room aA0Target aA0Once aA0Often aA0WasOnce aA0WasOften fun toLists29Room toLists29Target toLists29Once toLists29Often toLists29WasOnce toLists29WasOften =>
    F_impl_UseLists toLists29Room toLists29Target toLists29Once toLists29Often toLists29WasOnce toLists29WasOften aKey1 fun useLists33Room useLists33Target useLists33Once useLists33Often useLists33WasOnce useLists33WasOften useLists33r1 =>
    F_laws_eqLists useLists33Room useLists33Target useLists33Once useLists33Often useLists33WasOnce useLists33WasOften useLists25Room useLists25Target useLists25Once useLists25Often useLists25WasOnce useLists25WasOften fun eqLists38 =>
    br (!eqLists38)
    (k false)
    (br (!(useLists33r1 == useLists25r1))
      (k false)
      ((F_laws_toLists aA0Room aA0Target aA0Once aA0Often aA0WasOnce aA0WasOften fun toLists47Room toLists47Target toLists47Once toLists47Often toLists47WasOnce toLists47WasOften =>
          (F_laws_eqLists toLists29Room toLists29Target toLists29Once toLists29Often toLists29WasOnce toLists29WasOften toLists47Room toLists47Target toLists47Once toLists47Often toLists47WasOnce toLists47WasOften fun eqLists48 =>
            br (!eqLists48)
            (k false)
            (F_laws_markLists toLists29Room toLists29Target toLists29Once toLists29Often toLists29WasOnce toLists29WasOften (1 : Int) fun markLists52 omarkLists52Once omarkLists52Often omarkLists52WasOnce omarkLists52WasOften =>
              br (decide (markLists52 < 0))
              (k false)
              (F_laws_eqLists useLists33Room useLists33Target useLists33Once useLists33Often useLists33WasOnce useLists33WasOften useLists25Room useLists25Target useLists25Once useLists25Often useLists25WasOnce useLists25WasOften fun eqLists58 =>
                br (!eqLists58)
                (k false)
                (br (!(useLists33r1 == useLists25r1))
                  (k false)
                  (F_laws_markLists useLists33Room useLists33Target useLists33Once useLists33Often useLists33WasOnce useLists33WasOften (1 : Int) fun markLists68 omarkLists68Once omarkLists68Often omarkLists68WasOnce omarkLists68WasOften =>
                    F_laws_heldLists useLists33Room useLists33Target omarkLists68Once omarkLists68Often omarkLists68WasOnce omarkLists68WasOften (1 : Int) fun heldLists71 =>
                    br (decide (heldLists71 < 0))
                    (k false)
                    (br (heldLists71 != markLists68)
                      (k false)
                      (F_laws_toLists aA0Room aA0Target aA0Once aA0Often aA0WasOnce aA0WasOften fun toLists79Room toLists79Target toLists79Once toLists79Often toLists79WasOnce toLists79WasOften =>
                        F_impl_UseLists toLists79Room toLists79Target toLists79Once toLists79Often toLists79WasOnce toLists79WasOften aKey1 fun useLists81Room useLists81Target useLists81Once useLists81Often useLists81WasOnce useLists81WasOften useLists81r1 =>
                        F_laws_eqLists useLists81Room useLists81Target useLists81Once useLists81Often useLists81WasOnce useLists81WasOften useLists25Room useLists25Target useLists25Once useLists25Often useLists25WasOnce useLists25WasOften fun eqLists86 =>
                        br (!eqLists86)
                        (k false)
                        (br (!(useLists81r1 == useLists25r1))
                          (k false)
                          (F_laws_heldLists useLists33Room useLists33Target omarkLists68Once omarkLists68Often omarkLists68WasOnce omarkLists68WasOften (1 : Int) fun heldLists95 =>
                            br (decide (heldLists95 < 0))
                            (k false)
                            (br (heldLists95 != markLists68)
                              (k false)
                              (k true))))))))))) ∧
          (True)) ∧
        (True))))
def H_laws_FnExactUseLists (aA0Room : Int) (aA0Target : Int) (aA0Once : List Int) (aA0Often : List Int) (aA0WasOnce : List Int) (aA0WasOften : List Int) (aKey1 : Int) (k : Bool → Prop) : Prop :=
  F_laws_szLists aA0Room aA0Target aA0Once aA0Often aA0WasOnce aA0WasOften (1048576 : Int) fun szLists18 =>
  br (decide (szLists18 < 0))
  (k true)
  (F_laws_toLists aA0Room aA0Target aA0Once aA0Often aA0WasOnce aA0WasOften fun toLists23Room toLists23Target toLists23Once toLists23Often toLists23WasOnce toLists23WasOften =>
    F_spec_UseLists toLists23Room toLists23Target toLists23Once toLists23Often toLists23WasOnce toLists23WasOften aKey1 fun useLists25Room useLists25Target useLists25Once useLists25Often useLists25WasOnce useLists25WasOften useLists25r1 =>
    F_laws_toLists aA0Room aA0Target aA0Once aA0Often aA0WasOnce aA0WasOften fun toLists29Room toLists29Target toLists29Once toLists29Often toLists29WasOnce toLists29WasOften =>
    F_impl_UseLists toLists29Room toLists29Target toLists29Once toLists29Often toLists29WasOnce toLists29WasOften aKey1 fun useLists33Room useLists33Target useLists33Once useLists33Often useLists33WasOnce useLists33WasOften useLists33r1 =>
    F_laws_eqLists useLists33Room useLists33Target useLists33Once useLists33Often useLists33WasOnce useLists33WasOften useLists25Room useLists25Target useLists25Once useLists25Often useLists25WasOnce useLists25WasOften fun eqLists38 =>
    br (!eqLists38)
    (k false)
    (br (!(useLists33r1 == useLists25r1))
      (k false)
      (F_laws_toLists aA0Room aA0Target aA0Once aA0Often aA0WasOnce aA0WasOften fun toLists47Room toLists47Target toLists47Once toLists47Often toLists47WasOnce toLists47WasOften =>
        F_laws_eqLists toLists29Room toLists29Target toLists29Once toLists29Often toLists29WasOnce toLists29WasOften toLists47Room toLists47Target toLists47Once toLists47Often toLists47WasOnce toLists47WasOften fun eqLists48 =>
        br (!eqLists48)
        (k false)
        (F_laws_markLists toLists29Room toLists29Target toLists29Once toLists29Often toLists29WasOnce toLists29WasOften (1 : Int) fun markLists52 omarkLists52Once omarkLists52Often omarkLists52WasOnce omarkLists52WasOften =>
          br (decide (markLists52 < 0))
          (k false)
          (F_laws_eqLists useLists33Room useLists33Target useLists33Once useLists33Often useLists33WasOnce useLists33WasOften useLists25Room useLists25Target useLists25Once useLists25Often useLists25WasOnce useLists25WasOften fun eqLists58 =>
            br (!eqLists58)
            (k false)
            (br (!(useLists33r1 == useLists25r1))
              (k false)
              (F_laws_markLists useLists33Room useLists33Target useLists33Once useLists33Often useLists33WasOnce useLists33WasOften (1 : Int) fun markLists68 omarkLists68Once omarkLists68Often omarkLists68WasOnce omarkLists68WasOften =>
                F_laws_heldLists useLists33Room useLists33Target omarkLists68Once omarkLists68Often omarkLists68WasOnce omarkLists68WasOften (1 : Int) fun heldLists71 =>
                br (decide (heldLists71 < 0))
                (k false)
                (br (heldLists71 != markLists68)
                  (k false)
                  (F_laws_toLists aA0Room aA0Target aA0Once aA0Often aA0WasOnce aA0WasOften fun toLists79Room toLists79Target toLists79Once toLists79Often toLists79WasOnce toLists79WasOften =>
                    F_impl_UseLists toLists79Room toLists79Target toLists79Once toLists79Often toLists79WasOnce toLists79WasOften aKey1 fun useLists81Room useLists81Target useLists81Once useLists81Often useLists81WasOnce useLists81WasOften useLists81r1 =>
                    F_laws_eqLists useLists81Room useLists81Target useLists81Once useLists81Often useLists81WasOnce useLists81WasOften useLists25Room useLists25Target useLists25Once useLists25Often useLists25WasOnce useLists25WasOften fun eqLists86 =>
                    br (!eqLists86)
                    (k false)
                    (br (!(useLists81r1 == useLists25r1))
                      (k false)
                      (F_laws_heldLists useLists33Room useLists33Target omarkLists68Once omarkLists68Often omarkLists68WasOnce omarkLists68WasOften (1 : Int) fun heldLists95 =>
                        br (decide (heldLists95 < 0))
                        (k false)
                        (br (heldLists95 != markLists68)
                          (k false)
                          (k true)))))))))))))
theorem G_laws_FnExactUseLists_eq (aA0Room : Int) (aA0Target : Int) (aA0Once : List Int) (aA0Often : List Int) (aA0WasOnce : List Int) (aA0WasOften : List Int) (aKey1 : Int) (k : Bool → Prop) : G_laws_FnExactUseLists aA0Room aA0Target aA0Once aA0Often aA0WasOnce aA0WasOften aKey1 k = H_laws_FnExactUseLists aA0Room aA0Target aA0Once aA0Often aA0WasOnce aA0WasOften aKey1 k := by
  first
  | (simp only [G_laws_FnExactUseLists, H_laws_FnExactUseLists, and_self, and_true]; done)
  | (simp only [G_laws_FnExactUseLists, H_laws_FnExactUseLists, and_self, and_true, and_self_left, and_assoc]; refine propext ⟨fun h => ?_, fun h => ?_⟩ <;> (repeat (cases ‹_ ∧ _›)) <;> (repeat' (apply And.intro)) <;> assumption)
def S_laws_FnExactUseLists (aA0Room : Int) (aA0Target : Int) (aA0Once : List Int) (aA0Often : List Int) (aA0WasOnce : List Int) (aA0WasOften : List Int) (aKey1 : Int) (k : Bool → Prop) : Prop := H_laws_FnExactUseLists aA0Room aA0Target aA0Once aA0Often aA0WasOnce aA0WasOften aKey1 k
abbrev F_laws_FnExactUseLists (aA0Room : Int) (aA0Target : Int) (aA0Once : List Int) (aA0Often : List Int) (aA0WasOnce : List Int) (aA0WasOften : List Int) (aKey1 : Int) (k : Bool → Prop) : Prop := S_laws_FnExactUseLists aA0Room aA0Target aA0Once aA0Often aA0WasOnce aA0WasOften aKey1 k
theorem F_laws_FnExactUseLists_S {aA0Room : Int} {aA0Target : Int} {aA0Once : List Int} {aA0Often : List Int} {aA0WasOnce : List Int} {aA0WasOften : List Int} {aKey1 : Int} {k : Bool → Prop} (h : F_laws_FnExactUseLists aA0Room aA0Target aA0Once aA0Often aA0WasOnce aA0WasOften aKey1 k) : S_laws_FnExactUseLists aA0Room aA0Target aA0Once aA0Often aA0WasOnce aA0WasOften aKey1 k := h
theorem law_FnExactUseLists (aRoom : Int) (raRoom : InR aRoom) (aTarget : Int) (raTarget : InR aTarget) (aOnce : List Int) (laOnce : aOnce.length ≤ maxLen) (raOnce : ∀ x ∈ aOnce, InR x) (aOften : List Int) (laOften : aOften.length ≤ maxLen) (raOften : ∀ x ∈ aOften, InR x) (aWasOnce : List Int) (laWasOnce : aWasOnce.length ≤ maxLen) (raWasOnce : ∀ x ∈ aWasOnce, InR x) (aWasOften : List Int) (laWasOften : aWasOften.length ≤ maxLen) (raWasOften : ∀ x ∈ aWasOften, InR x) (key : Int) (rkey : InR key) :
    F_laws_FnExactUseLists aRoom aTarget aOnce aOften aWasOnce aWasOften key (fun r => r = true) := by
  refine ⟨⟨laOnce, laOften, laWasOnce, laWasOften, by omega, by omega⟩, fun z0 _ _ s0 => br_dec.2 ⟨fun _ => rfl, fun t0 => ?_⟩⟩
  have u0 := s0 (by omega)
  have ma : aOnce.length ≤ 1000000000 ∧ aOften.length ≤ 1000000000 ∧ aWasOnce.length ≤ 1000000000 ∧ aWasOften.length ≤ 1000000000 := ⟨by omega, by omega, by omega, by omega⟩
  by_cases v : VLists aRoom ⟨aTarget, aOnce, aOften, aWasOnce, aWasOften⟩ ∧ 0 ≤ key ∧ key ≤ 31
  · have m2 := (by have := lists_len (adM_valid v.1 v.2); exact ⟨by omega, by omega, by omega, by omega⟩ : (adM aRoom ⟨aTarget, aOnce, aOften, aWasOnce, aWasOften⟩ key).1.o.length ≤ 1000000000 ∧ (adM aRoom ⟨aTarget, aOnce, aOften, aWasOnce, aWasOften⟩ key).1.f.length ≤ 1000000000 ∧ (adM aRoom ⟨aTarget, aOnce, aOften, aWasOnce, aWasOften⟩ key).1.wo.length ≤ 1000000000 ∧ (adM aRoom ⟨aTarget, aOnce, aOften, aWasOnce, aWasOften⟩ key).1.wf.length ≤ 1000000000)
    exact ⟨ma, ⟨by omega, fun _ => ⟨ma, ⟨by omega, fun _ => eqLists_same m2 (br_nt (br_same (⟨ma, eqLists_same ma (br_nt (⟨⟨ma.1, ma.2.1, ma.2.2.1, ma.2.2.2, by omega, by omega⟩, br_lt0 (by omega) (eqLists_same m2 (br_nt (br_same (⟨⟨m2.1, m2.2.1, m2.2.2.1, m2.2.2.2, by omega, by omega⟩, ⟨_, _, _, _, ⟨m2.1, m2.2.1, m2.2.2.1, m2.2.2.2, by omega, by omega⟩, rfl, rfl, rfl, rfl, br_lt0 (by omega) (br_same' (⟨ma, ⟨by omega, fun _ => eqLists_same m2 (br_nt (br_same (⟨_, _, _, _, ⟨m2.1, m2.2.1, m2.2.2.1, m2.2.2.2, by omega, by omega⟩, rfl, rfl, rfl, rfl, br_lt0 (by omega) (br_same' rfl)⟩))), fun h => absurd v h⟩⟩))⟩⟩))))⟩))⟩))), fun h => absurd v h⟩⟩, fun h => absurd v h⟩⟩
  · have m2 : ([] : List Int).length ≤ 1000000000 ∧ ([] : List Int).length ≤ 1000000000 ∧ ([] : List Int).length ≤ 1000000000 ∧ ([] : List Int).length ≤ 1000000000 := by simp
    exact ⟨ma, ⟨by omega, fun h => absurd h v, fun _ => ⟨ma, ⟨by omega, fun h => absurd h v, fun _ => eqLists_same m2 (br_nt (br_same (⟨ma, eqLists_same ma (br_nt (⟨⟨ma.1, ma.2.1, ma.2.2.1, ma.2.2.2, by omega, by omega⟩, br_lt0 (by omega) (eqLists_same m2 (br_nt (br_same (⟨⟨m2.1, m2.2.1, m2.2.2.1, m2.2.2.2, by omega, by omega⟩, ⟨_, _, _, _, ⟨m2.1, m2.2.1, m2.2.2.1, m2.2.2.2, by omega, by omega⟩, rfl, rfl, rfl, rfl, br_lt0 (by omega) (br_same' (⟨ma, ⟨by omega, fun h => absurd h v, fun _ => eqLists_same m2 (br_nt (br_same (⟨_, _, _, _, ⟨m2.1, m2.2.1, m2.2.2.1, m2.2.2.2, by omega, by omega⟩, rfl, rfl, rfl, rfl, br_lt0 (by omega) (br_same' rfl)⟩)))⟩⟩))⟩⟩))))⟩))⟩)))⟩⟩⟩⟩
end Go.Ev
