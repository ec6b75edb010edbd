/- What the functions that the law reaches do, written as plain Lean. No statement is proved here. -/
import Derived.Test.YthdedjemjjcjhacFnExactCachedKeysP0
namespace Go.Ev
set_option linter.unusedVariables false
open Go
def F_impl_CachedKeys (r t : Int) (o f wo wf : List Int) (k : List Int → Prop) : Prop :=
  (o.length ≤ 100000000 ∧ f.length ≤ 100000000 ∧ wo.length ≤ 100000000 ∧ wf.length ≤ 100000000) ∧
  (VLists r ⟨t, o, f, wo, wf⟩ → k (o ++ f)) ∧ (¬ VLists r ⟨t, o, f, wo, wf⟩ → k [])
theorem F_impl_CachedKeys_S {r t : Int} {o f wo wf : List Int} {k : List Int → Prop} (h : F_impl_CachedKeys r t o f wo wf k) : S_impl_CachedKeys r t o f wo wf k := by
  obtain ⟨hl, hyes, hno⟩ := h
  refine ⟨hl, ?_⟩
  intro b hb
  refine br_not.2 (br_iff.2 ⟨fun e => ?_, fun e => hno fun w => by rw [hb.2 w] at e; cases e⟩)
  have e1 : ([o, f] : List (List Int)).flatten = o ++ f := by simp
  refine ⟨⟨by simp, by rw [e1]; simp; omega⟩, ?_⟩
  rw [e1]
  exact hyes (hb.1 e)
-- laws.eqIntS
def T0_laws_eqIntS (a0 : List Int) (b1 : List Int) (xi5 : Int) (k : Bool → Prop) (B0 : Int → Prop) : Prop :=
  br (decide (xi5 < (a0.length : Int)))
  ((0 ≤ xi5 ∧ xi5 < (a0.length : Int)) ∧
    (0 ≤ xi5 ∧ xi5 < (b1.length : Int)) ∧
    br ((List.getD a0 (Int.toNat xi5) (0 : Int)) != (List.getD b1 (Int.toNat xi5) (0 : Int)))
    (k false)
    (InR (xi5 + 1) ∧
      B0 (xi5 + 1)))
  (k true)
def L0_laws_eqIntS (a0 : List Int) (b1 : List Int) (k : Bool → Prop) : Nat → Int → Prop
  | 0, _ => False
  | n + 1, xi5 => T0_laws_eqIntS a0 b1 xi5 k (L0_laws_eqIntS a0 b1 k n)
def G_laws_eqIntS (a0 : List Int) (b1 : List Int) (k : Bool → Prop) (I0 : List Int → List Int → Int → Prop) : Prop :=
  br ((a0.length : Int) != (b1.length : Int))
  (k false)
  (I0 a0 b1 0)
def S_laws_eqIntS (a0 : List Int) (b1 : List Int) (k : Bool → Prop) : Prop := G_laws_eqIntS a0 b1 k (fun a0 b1 xi5 => ∃ j, L0_laws_eqIntS a0 b1 k j xi5)
def F_laws_eqIntS (a b : List Int) (k : Bool → Prop) : Prop := a.length ≤ 1000000000 ∧ k (decide (a = b))
theorem F_laws_eqIntS_S {a b : List Int} {k : Bool → Prop} (h : F_laws_eqIntS a b k) : S_laws_eqIntS a b k := by
  obtain ⟨hl, hk⟩ := h
  refine br_bne.2 ⟨fun he => by rwa [decide_eq_false (fun e => he (by rw [e]))] at hk, fun he => ?_⟩
  have he : a.length = b.length := by omega
  have key : ∀ (r : List Int) (i : Nat), a.drop i = r → (r = b.drop i ↔ a = b) → L0_laws_eqIntS a b k (r.length + 1) (i : Int) := by
    intro r
    induction r with
    | nil =>
      intro i hd hi
      have := drop_nil' hd
      rw [L0_laws_eqIntS, T0_laws_eqIntS]
      simp only [br_dec]
      exact ⟨fun h => by omega, fun _ => by rwa [decide_eq_true (hi.1 (List.drop_eq_nil_of_le (by omega)).symm)] at hk⟩
    | cons x r ih =>
      intro i hd hi
      obtain ⟨h1, h2, _, h3, _⟩ := drop_cons' hd
      obtain ⟨y, s, hs⟩ : ∃ y s, b.drop i = y :: s := by
        cases e : b.drop i with
        | nil => have := drop_nil' e; omega
        | cons y s => exact ⟨y, s, rfl⟩
      obtain ⟨g1, g2, _, g3, _⟩ := drop_cons' hs
      rw [List.length_cons, L0_laws_eqIntS, T0_laws_eqIntS]
      simp only [br_dec, br_bne, Int.toNat_natCast, h2, g2]
      rw [hs] at hi
      refine ⟨fun _ => ⟨⟨by omega, by omega⟩, ⟨by omega, by omega⟩, ?_⟩, fun h => by omega⟩
      have go : x = y → L0_laws_eqIntS a b k (r.length + 1) ((i : Int) + 1) := fun hx => ih (i + 1) h3 (by rw [g3, ← hi, hx]; simp)
      have no : x ≠ y → k false := fun hx => by rwa [decide_eq_false (fun e => hx (List.cons.inj (hi.2 e)).1)] at hk
      exact ⟨no, fun hx => ⟨inR (by omega) (by omega), go hx⟩⟩
  exact ⟨_, key a 0 rfl (by simp)⟩
-- laws.eqLists
def G_laws_eqLists (a0Room : Int) (a0Target : Int) (a0Once : List Int) (a0Often : List Int) (a0WasOnce : List Int) (a0WasOften : List Int) (b1Room : Int) (b1Target : Int) (b1Once : List Int) (b1Often : List Int) (b1WasOnce : List Int) (b1WasOften : List Int) (k : Bool → Prop) : Prop :=
  br (a0Room != b1Room)
  (k false)
  (br (a0Target != b1Target)
    (k false)
    (F_laws_eqIntS a0Once b1Once fun eqIntS19 =>
      br (!eqIntS19)
      (k false)
      (F_laws_eqIntS a0Often b1Often fun eqIntS25 =>
        br (!eqIntS25)
        (k false)
        (F_laws_eqIntS a0WasOnce b1WasOnce fun eqIntS31 =>
          br (!eqIntS31)
          (k false)
          (F_laws_eqIntS a0WasOften b1WasOften fun eqIntS37 =>
            br (!eqIntS37)
            (k false)
            (k true))))))
def S_laws_eqLists (a0Room : Int) (a0Target : Int) (a0Once : List Int) (a0Often : List Int) (a0WasOnce : List Int) (a0WasOften : List Int) (b1Room : Int) (b1Target : Int) (b1Once : List Int) (b1Often : List Int) (b1WasOnce : List Int) (b1WasOften : List Int) (k : Bool → Prop) : Prop := G_laws_eqLists a0Room a0Target a0Once a0Often a0WasOnce a0WasOften b1Room b1Target b1Once b1Often b1WasOnce b1WasOften k
def F_laws_eqLists (room : Int) (target : Int) (once : List Int) (often : List Int) (wasOnce : List Int) (wasOften : List Int) (room' : Int) (target' : Int) (once' : List Int) (often' : List Int) (wasOnce' : List Int) (wasOften' : List Int) (k : Bool → Prop) : Prop := (once.length ≤ 1000000000 ∧ often.length ≤ 1000000000 ∧ wasOnce.length ≤ 1000000000 ∧ wasOften.length ≤ 1000000000) ∧ ∀ b : Bool, (b = true ↔ room = room' ∧ target = target' ∧ once = once' ∧ often = often' ∧ wasOnce = wasOnce' ∧ wasOften = wasOften') → k b
theorem F_laws_eqLists_S {room : Int} {target : Int} {once : List Int} {often : List Int} {wasOnce : List Int} {wasOften : List Int} {room' : Int} {target' : Int} {once' : List Int} {often' : List Int} {wasOnce' : List Int} {wasOften' : List Int} {k : Bool → Prop} (h : F_laws_eqLists room target once often wasOnce wasOften room' target' once' often' wasOnce' wasOften' k) : S_laws_eqLists room target once often wasOnce wasOften room' target' once' often' wasOnce' wasOften' k := by
  obtain ⟨⟨lOnce, lOften, lWasOnce, lWasOften⟩, hk⟩ := h
  exact br_bne.2 ⟨fun eRoom => hk false (by simp [eRoom]), fun eRoom => br_bne.2 ⟨fun eTarget => hk false (by simp [eTarget]), fun eTarget => ⟨lOnce, br_not.2 (br_dec.2 ⟨fun eOnce => ⟨lOften, br_not.2 (br_dec.2 ⟨fun eOften => ⟨lWasOnce, br_not.2 (br_dec.2 ⟨fun eWasOnce => ⟨lWasOften, br_not.2 (br_dec.2 ⟨fun eWasOften => hk true (by simp [eRoom, eTarget, eOnce, eOften, eWasOnce, eWasOften]), fun eWasOften => hk false (by simp [eWasOften])⟩)⟩, fun eWasOnce => hk false (by simp [eWasOnce])⟩)⟩, fun eOften => hk false (by simp [eOften])⟩)⟩, fun eOnce => hk false (by simp [eOnce])⟩)⟩⟩⟩
theorem eqLists_same {room : Int} {target : Int} {once : List Int} {often : List Int} {wasOnce : List Int} {wasOften : List Int} {k : Bool → Prop} (hl : once.length ≤ 1000000000 ∧ often.length ≤ 1000000000 ∧ wasOnce.length ≤ 1000000000 ∧ wasOften.length ≤ 1000000000) (h : k true) : F_laws_eqLists room target once often wasOnce wasOften room target once often wasOnce wasOften k := ⟨hl, all_t ⟨rfl, rfl, rfl, rfl, rfl, rfl⟩ h⟩
-- laws.markIntS
def T0_laws_markIntS (xk1 : Int) (xi5 : Int) (xy100000 : List Int) (k : Int → List Int → Prop) (B0 : Int → Int → List Int → Prop) : Prop :=
  br (decide (xi5 < (xy100000.length : Int)))
  ((0 ≤ xi5 ∧ xi5 < (xy100000.length : Int)) ∧
    InR (xk1 + 1) ∧
    InR (xi5 + 1) ∧
    B0 (xk1 + 1) (xi5 + 1) (List.set xy100000 (Int.toNat xi5) xk1))
  (k xk1 xy100000)
def L0_laws_markIntS (k : Int → List Int → Prop) : Nat → Int → Int → List Int → Prop
  | 0, _, _, _ => False
  | n + 1, xk1, xi5, xy100000 => T0_laws_markIntS xk1 xi5 xy100000 k (L0_laws_markIntS k n)
def G_laws_markIntS (a0 : List Int) (k1 : Int) (I0 : Int → Int → List Int → Prop) : Prop :=
  I0 k1 0 a0
def S_laws_markIntS (a0 : List Int) (k1 : Int) (k : Int → List Int → Prop) : Prop := G_laws_markIntS a0 k1 (fun xk1 xi5 xy100000 => ∃ j, L0_laws_markIntS k j xk1 xi5 xy100000)
def F_laws_markIntS (a : List Int) (k0 : Int) (k : Int → List Int → Prop) : Prop :=
  (a.length ≤ 1000000000 ∧ 0 ≤ k0 ∧ k0 ≤ 100000000000) ∧ k (k0 + a.length) (seqI k0 a.length)
theorem F_laws_markIntS_S {a : List Int} {k0 : Int} {k : Int → List Int → Prop} (h : F_laws_markIntS a k0 k) : S_laws_markIntS a k0 k := by
  obtain ⟨⟨h1, h2, h3⟩, hk⟩ := h
  have key : ∀ (d i : Nat) (out : List Int), i + d = a.length → out.length = a.length → out.take i = seqI k0 i → L0_laws_markIntS k (d + 1) (k0 + (i : Int)) (i : Int) out := by
    intro d
    induction d with
    | zero =>
      intro i out hi ho he
      rw [L0_laws_markIntS, T0_laws_markIntS]
      refine br_dec.2 ⟨fun h => by omega, fun _ => ?_⟩
      rw [List.take_of_length_le (by omega)] at he
      have : i = a.length := by omega
      rw [he, this]; exact hk
    | succ d ih =>
      intro i out hi ho he
      rw [L0_laws_markIntS, T0_laws_markIntS]
      rw [Int.toNat_natCast]
      refine br_dec.2 ⟨fun _ => ⟨⟨by omega, by omega⟩, inR (by omega) (by omega), inR (by omega) (by omega), ?_⟩, fun h => by omega⟩
      rw [show k0 + (i : Int) + 1 = k0 + ((i + 1 : Nat) : Int) by omega]
      exact ih (i + 1) _ (by omega) (by simpa using ho) (by rw [take_set_succ (by omega), he, seqI_snoc])
  have := key a.length 0 a (by omega) rfl (by simp [seqI])
  rw [show k0 + ((0 : Nat) : Int) = k0 by omega] at this
  exact ⟨_, this⟩
-- laws.markLists
def G_laws_markLists (a0Room : Int) (a0Target : Int) (a0Once : List Int) (a0Often : List Int) (a0WasOnce : List Int) (a0WasOften : List Int) (k1 : Int) (k : Int → List Int → List Int → List Int → List Int → Prop) : Prop :=
  F_laws_markIntS a0Once k1 fun markIntS8 omarkIntS8 =>
  F_laws_markIntS a0Often markIntS8 fun markIntS12 omarkIntS12 =>
  F_laws_markIntS a0WasOnce markIntS12 fun markIntS16 omarkIntS16 =>
  F_laws_markIntS a0WasOften markIntS16 fun markIntS20 omarkIntS20 =>
  k markIntS20 omarkIntS8 omarkIntS12 omarkIntS16 omarkIntS20
def S_laws_markLists (a0Room : Int) (a0Target : Int) (a0Once : List Int) (a0Often : List Int) (a0WasOnce : List Int) (a0WasOften : List Int) (k1 : Int) (k : Int → List Int → List Int → List Int → List Int → Prop) : Prop := G_laws_markLists a0Room a0Target a0Once a0Often a0WasOnce a0WasOften k1 k
def F_laws_markLists (room : Int) (target : Int) (once : List Int) (often : List Int) (wasOnce : List Int) (wasOften : List Int) (k0 : Int) (k : Int → List Int → List Int → List Int → List Int → Prop) : Prop := (once.length ≤ 1000000000 ∧ often.length ≤ 1000000000 ∧ wasOnce.length ≤ 1000000000 ∧ wasOften.length ≤ 1000000000 ∧ 0 ≤ k0 ∧ k0 ≤ 100000000) ∧ k (k0 + (once.length : Int) + (often.length : Int) + (wasOnce.length : Int) + (wasOften.length : Int)) (seqI (k0) once.length) (seqI (k0 + (once.length : Int)) often.length) (seqI (k0 + (once.length : Int) + (often.length : Int)) wasOnce.length) (seqI (k0 + (once.length : Int) + (often.length : Int) + (wasOnce.length : Int)) wasOften.length)
theorem F_laws_markLists_S {room : Int} {target : Int} {once : List Int} {often : List Int} {wasOnce : List Int} {wasOften : List Int} {k0 : Int} {k : Int → List Int → List Int → List Int → List Int → Prop} (h : F_laws_markLists room target once often wasOnce wasOften k0 k) : S_laws_markLists room target once often wasOnce wasOften k0 k := by
  obtain ⟨⟨lOnce, lOften, lWasOnce, lWasOften, g1, g2⟩, hk⟩ := h
  exact ⟨⟨by omega, by omega, by omega⟩, ⟨⟨by omega, by omega, by omega⟩, ⟨⟨by omega, by omega, by omega⟩, ⟨⟨by omega, by omega, by omega⟩, hk⟩⟩⟩⟩
-- laws.heldIntS
def T0_laws_heldIntS (a0 : List Int) (xk1 : Int) (xi5 : Int) (k : Int → Prop) (B0 : Int → Int → Prop) : Prop :=
  br (decide (xi5 < (a0.length : Int)))
  ((0 ≤ xi5 ∧ xi5 < (a0.length : Int)) ∧
    br ((List.getD a0 (Int.toNat xi5) (0 : Int)) != xk1)
    (k (-1))
    (InR (xk1 + 1) ∧
      InR (xi5 + 1) ∧
      B0 (xk1 + 1) (xi5 + 1)))
  (k xk1)
def L0_laws_heldIntS (a0 : List Int) (k : Int → Prop) : Nat → Int → Int → Prop
  | 0, _, _ => False
  | n + 1, xk1, xi5 => T0_laws_heldIntS a0 xk1 xi5 k (L0_laws_heldIntS a0 k n)
def G_laws_heldIntS (a0 : List Int) (k1 : Int) (I0 : List Int → Int → Int → Prop) : Prop :=
  I0 a0 k1 0
def S_laws_heldIntS (a0 : List Int) (k1 : Int) (k : Int → Prop) : Prop := G_laws_heldIntS a0 k1 (fun a0 xk1 xi5 => ∃ j, L0_laws_heldIntS a0 k j xk1 xi5)
def F_laws_heldIntS (a : List Int) (k0 : Int) (k : Int → Prop) : Prop :=
  ∃ n : Nat, (n ≤ 1000000000 ∧ 0 ≤ k0 ∧ k0 ≤ 100000000000) ∧ a = seqI k0 n ∧ k (k0 + (n : Int))
theorem F_laws_heldIntS_S {a : List Int} {k0 : Int} {k : Int → Prop} (h : F_laws_heldIntS a k0 k) : S_laws_heldIntS a k0 k := by
  obtain ⟨n, ⟨h1, h2, h3⟩, rfl, hk⟩ := h
  have key : ∀ (d i : Nat), i + d = n → L0_laws_heldIntS (seqI k0 n) k (d + 1) (k0 + (i : Int)) (i : Int) := by
    intro d
    induction d with
    | zero =>
      intro i hi
      rw [L0_laws_heldIntS, T0_laws_heldIntS]
      rw [seqI_len]
      refine br_dec.2 ⟨fun h => by omega, fun _ => ?_⟩
      have : i = n := by omega
      rw [this]; exact hk
    | succ d ih =>
      intro i hi
      have hi2 : i < n := by omega
      rw [L0_laws_heldIntS, T0_laws_heldIntS]
      rw [Int.toNat_natCast, seqI_len]
      refine br_dec.2 ⟨fun _ => ⟨⟨by omega, by omega⟩, br_bne.2 ⟨fun h => absurd (seqI_get hi2) h, fun _ => ⟨inR (by omega) (by omega), inR (by omega) (by omega), ?_⟩⟩⟩, fun h => by omega⟩
      rw [show k0 + (i : Int) + 1 = k0 + ((i + 1 : Nat) : Int) by omega]
      exact ih (i + 1) (by omega)
  have := key n 0 (by omega)
  rw [show k0 + ((0 : Nat) : Int) = k0 by omega] at this
  exact ⟨_, this⟩
-- laws.FnExactCachedKeys
def G_laws_FnExactCachedKeys (aA0Room : Int) (aA0Target : Int) (aA0Once : List Int) (aA0Often : List Int) (aA0WasOnce : List Int) (aA0WasOften : List Int) (k : Bool → Prop) : Prop :=
  F_laws_szLists aA0Room aA0Target aA0Once aA0Often aA0WasOnce aA0WasOften (1048576 : Int) fun szLists13 =>
  br (decide (szLists13 < 0))
  (k true)
  (F_laws_toLists aA0Room aA0Target aA0Once aA0Often aA0WasOnce aA0WasOften fun toLists17Room toLists17Target toLists17Once toLists17Often toLists17WasOnce toLists17WasOften =>
    F_spec_CachedKeys toLists17Room toLists17Target toLists17Once toLists17Often toLists17WasOnce toLists17WasOften fun cachedKeys18 =>
    F_laws_toLists aA0Room aA0Target aA0Once aA0Often aA0WasOnce aA0WasOften fun toLists20Room toLists20Target toLists20Once toLists20Often toLists20WasOnce toLists20WasOften =>
    F_impl_CachedKeys toLists20Room toLists20Target toLists20Once toLists20Often toLists20WasOnce toLists20WasOften fun cachedKeys22 =>
    F_laws_eqIntS cachedKeys22 cachedKeys18 fun eqIntS25 =>
    br (!eqIntS25)
    (k false)
    ((F_laws_toLists aA0Room aA0Target aA0Once aA0Often aA0WasOnce aA0WasOften fun toLists29Room toLists29Target toLists29Once toLists29Often toLists29WasOnce toLists29WasOften =>
        (F_laws_eqLists toLists20Room toLists20Target toLists20Once toLists20Often toLists20WasOnce toLists20WasOften toLists29Room toLists29Target toLists29Once toLists29Often toLists29WasOnce toLists29WasOften fun eqLists30 =>
          br (!eqLists30)
          (k false)
          (F_laws_markLists toLists20Room toLists20Target toLists20Once toLists20Often toLists20WasOnce toLists20WasOften (1 : Int) fun markLists34 omarkLists34Once omarkLists34Often omarkLists34WasOnce omarkLists34WasOften =>
            br (decide (markLists34 < 0))
            (k false)
            (F_laws_eqIntS cachedKeys22 cachedKeys18 fun eqIntS40 =>
              br (!eqIntS40)
              (k false)
              (F_laws_markIntS cachedKeys22 (1 : Int) fun markIntS45 omarkIntS45 =>
                F_laws_heldIntS omarkIntS45 (1 : Int) fun heldIntS48 =>
                br (decide (heldIntS48 < 0))
                (k false)
                (br (heldIntS48 != markIntS45)
                  (k false)
                  (F_laws_toLists aA0Room aA0Target aA0Once aA0Often aA0WasOnce aA0WasOften fun toLists55Room toLists55Target toLists55Once toLists55Often toLists55WasOnce toLists55WasOften =>
                    F_impl_CachedKeys toLists55Room toLists55Target toLists55Once toLists55Often toLists55WasOnce toLists55WasOften fun cachedKeys56 =>
                    F_laws_eqIntS cachedKeys56 cachedKeys18 fun eqIntS59 =>
                    br (!eqIntS59)
                    (k false)
                    (F_laws_heldIntS omarkIntS45 (1 : Int) fun heldIntS63 =>
                      br (decide (heldIntS63 < 0))
                      (k false)
                      (br (heldIntS63 != markIntS45)
                        (k false)
                        (k true))))))))) ∧
        (True)) ∧
      (True)))
def H_laws_FnExactCachedKeys (aA0Room : Int) (aA0Target : Int) (aA0Once : List Int) (aA0Often : List Int) (aA0WasOnce : List Int) (aA0WasOften : List Int) (k : Bool → Prop) : Prop :=
  F_laws_szLists aA0Room aA0Target aA0Once aA0Often aA0WasOnce aA0WasOften (1048576 : Int) fun szLists13 =>
  br (decide (szLists13 < 0))
  (k true)
  (F_laws_toLists aA0Room aA0Target aA0Once aA0Often aA0WasOnce aA0WasOften fun toLists17Room toLists17Target toLists17Once toLists17Often toLists17WasOnce toLists17WasOften =>
    F_spec_CachedKeys toLists17Room toLists17Target toLists17Once toLists17Often toLists17WasOnce toLists17WasOften fun cachedKeys18 =>
    F_laws_toLists aA0Room aA0Target aA0Once aA0Often aA0WasOnce aA0WasOften fun toLists20Room toLists20Target toLists20Once toLists20Often toLists20WasOnce toLists20WasOften =>
    F_impl_CachedKeys toLists20Room toLists20Target toLists20Once toLists20Often toLists20WasOnce toLists20WasOften fun cachedKeys22 =>
    F_laws_eqIntS cachedKeys22 cachedKeys18 fun eqIntS25 =>
    br (!eqIntS25)
    (k false)
    (F_laws_toLists aA0Room aA0Target aA0Once aA0Often aA0WasOnce aA0WasOften fun toLists29Room toLists29Target toLists29Once toLists29Often toLists29WasOnce toLists29WasOften =>
      F_laws_eqLists toLists20Room toLists20Target toLists20Once toLists20Often toLists20WasOnce toLists20WasOften toLists29Room toLists29Target toLists29Once toLists29Often toLists29WasOnce toLists29WasOften fun eqLists30 =>
      br (!eqLists30)
      (k false)
      (F_laws_markLists toLists20Room toLists20Target toLists20Once toLists20Often toLists20WasOnce toLists20WasOften (1 : Int) fun markLists34 omarkLists34Once omarkLists34Often omarkLists34WasOnce omarkLists34WasOften =>
        br (decide (markLists34 < 0))
        (k false)
        (F_laws_eqIntS cachedKeys22 cachedKeys18 fun eqIntS40 =>
          br (!eqIntS40)
          (k false)
          (F_laws_markIntS cachedKeys22 (1 : Int) fun markIntS45 omarkIntS45 =>
            F_laws_heldIntS omarkIntS45 (1 : Int) fun heldIntS48 =>
            br (decide (heldIntS48 < 0))
            (k false)
            (br (heldIntS48 != markIntS45)
              (k false)
              (F_laws_toLists aA0Room aA0Target aA0Once aA0Often aA0WasOnce aA0WasOften fun toLists55Room toLists55Target toLists55Once toLists55Often toLists55WasOnce toLists55WasOften =>
                F_impl_CachedKeys toLists55Room toLists55Target toLists55Once toLists55Often toLists55WasOnce toLists55WasOften fun cachedKeys56 =>
                F_laws_eqIntS cachedKeys56 cachedKeys18 fun eqIntS59 =>
                br (!eqIntS59)
                (k false)
                (F_laws_heldIntS omarkIntS45 (1 : Int) fun heldIntS63 =>
                  br (decide (heldIntS63 < 0))
                  (k false)
                  (br (heldIntS63 != markIntS45)
                    (k false)
                    (k true))))))))))
theorem G_laws_FnExactCachedKeys_eq (aA0Room : Int) (aA0Target : Int) (aA0Once : List Int) (aA0Often : List Int) (aA0WasOnce : List Int) (aA0WasOften : List Int) (k : Bool → Prop) : G_laws_FnExactCachedKeys aA0Room aA0Target aA0Once aA0Often aA0WasOnce aA0WasOften k = H_laws_FnExactCachedKeys aA0Room aA0Target aA0Once aA0Often aA0WasOnce aA0WasOften k := by
  simp only [G_laws_FnExactCachedKeys, H_laws_FnExactCachedKeys, and_self, and_true]
def S_laws_FnExactCachedKeys (aA0Room : Int) (aA0Target : Int) (aA0Once : List Int) (aA0Often : List Int) (aA0WasOnce : List Int) (aA0WasOften : List Int) (k : Bool → Prop) : Prop := H_laws_FnExactCachedKeys aA0Room aA0Target aA0Once aA0Often aA0WasOnce aA0WasOften k
abbrev F_laws_FnExactCachedKeys (aA0Room : Int) (aA0Target : Int) (aA0Once : List Int) (aA0Often : List Int) (aA0WasOnce : List Int) (aA0WasOften : List Int) (k : Bool → Prop) : Prop := S_laws_FnExactCachedKeys aA0Room aA0Target aA0Once aA0Often aA0WasOnce aA0WasOften k
theorem F_laws_FnExactCachedKeys_S {aA0Room : Int} {aA0Target : Int} {aA0Once : List Int} {aA0Often : List Int} {aA0WasOnce : List Int} {aA0WasOften : List Int} {k : Bool → Prop} (h : F_laws_FnExactCachedKeys aA0Room aA0Target aA0Once aA0Often aA0WasOnce aA0WasOften k) : S_laws_FnExactCachedKeys aA0Room aA0Target aA0Once aA0Often aA0WasOnce aA0WasOften k := h
theorem law_FnExactCachedKeys (aRoom : Int) (raRoom : InR aRoom) (aTarget : Int) (raTarget : InR aTarget) (aOnce : List Int) (laOnce : aOnce.length ≤ maxLen) (raOnce : ∀ x ∈ aOnce, InR x) (aOften : List Int) (laOften : aOften.length ≤ maxLen) (raOften : ∀ x ∈ aOften, InR x) (aWasOnce : List Int) (laWasOnce : aWasOnce.length ≤ maxLen) (raWasOnce : ∀ x ∈ aWasOnce, InR x) (aWasOften : List Int) (laWasOften : aWasOften.length ≤ maxLen) (raWasOften : ∀ x ∈ aWasOften, InR x) :
    F_laws_FnExactCachedKeys aRoom aTarget aOnce aOften aWasOnce aWasOften (fun r => r = true) := by
  refine ⟨⟨laOnce, laOften, laWasOnce, laWasOften, by omega, by omega⟩, fun z0 _ _ s0 => br_dec.2 ⟨fun _ => rfl, fun t0 => ?_⟩⟩
  have u0 := s0 (by omega)
  have ma : aOnce.length ≤ 1000000000 ∧ aOften.length ≤ 1000000000 ∧ aWasOnce.length ≤ 1000000000 ∧ aWasOften.length ≤ 1000000000 := ⟨by omega, by omega, by omega, by omega⟩
  by_cases v : VLists aRoom ⟨aTarget, aOnce, aOften, aWasOnce, aWasOften⟩
  · have m2 := (by have := lists_len v; simp only [] at this; simp; omega : (aOnce ++ aOften).length ≤ 1000000000)
    exact ⟨ma, ⟨by omega, fun _ => ⟨ma, ⟨by omega, fun _ => ⟨m2, br_de (⟨ma, eqLists_same ma (br_nt (⟨⟨ma.1, ma.2.1, ma.2.2.1, ma.2.2.2, by omega, by omega⟩, br_lt0 (by omega) (⟨m2, br_de (⟨⟨m2, by omega, by omega⟩, ⟨_, ⟨m2, by omega, by omega⟩, rfl, br_lt0 (by omega) (br_same' (⟨ma, ⟨by omega, fun _ => ⟨m2, br_de (⟨_, ⟨m2, by omega, by omega⟩, rfl, br_lt0 (by omega) (br_same' rfl)⟩)⟩, fun h => absurd v h⟩⟩))⟩⟩)⟩)⟩))⟩)⟩, fun h => absurd v h⟩⟩, fun h => absurd v h⟩⟩
  · have m2 : ([] : List Int).length ≤ 1000000000 := by simp
    exact ⟨ma, ⟨by omega, fun h => absurd h v, fun _ => ⟨ma, ⟨by omega, fun h => absurd h v, fun _ => ⟨m2, br_de (⟨ma, eqLists_same ma (br_nt (⟨⟨ma.1, ma.2.1, ma.2.2.1, ma.2.2.2, by omega, by omega⟩, br_lt0 (by omega) (⟨m2, br_de (⟨⟨m2, by omega, by omega⟩, ⟨_, ⟨m2, by omega, by omega⟩, rfl, br_lt0 (by omega) (br_same' (⟨ma, ⟨by omega, fun h => absurd h v, fun _ => ⟨m2, br_de (⟨_, ⟨m2, by omega, by omega⟩, rfl, br_lt0 (by omega) (br_same' rfl)⟩)⟩⟩⟩))⟩⟩)⟩)⟩))⟩)⟩⟩⟩⟩⟩
end Go.Ev
