/- What the functions that the law reaches do, written as plain Lean. No statement is proved here. -/
import Derived.Test.YtlobdkcjlpifjaaFnNextUseP0
namespace Go.Ev
set_option linter.unusedVariables false
open Go
def F_spec_nextUse (t : List Int) (i key : Int) (k : Int → Prop) : Prop := (0 ≤ i ∧ i ≤ t.length ∧ t.length ≤ 1000000000) ∧ k (nextM t i key)
theorem F_spec_nextUse_S {t : List Int} {i key : Int} {k : Int → Prop} (h : F_spec_nextUse t i key k) : S_spec_nextUse t i key k := by
  obtain ⟨⟨h0, h1, h2⟩, hk⟩ := h
  have go : ∀ (m j : Nat), j + m = t.length → (j : Int) + (nxt key (t.drop j) : Int) = nextM t i key → L0_spec_nextUse key t k (m + 1) (j : Int) := by
    intro m
    induction m with
    | zero =>
      intro j hj he
      rw [L0_spec_nextUse, T0_spec_nextUse]
      refine br_dec.2 ⟨fun h => by omega, fun _ => ?_⟩
      rw [List.drop_of_length_le (by omega)] at he
      simp only [nxt] at he
      rw [show (t.length : Int) = nextM t i key by omega]; exact hk
    | succ m ih =>
      intro j hj he
      rw [nxt_drop (by omega)] at he
      rw [L0_spec_nextUse, T0_spec_nextUse]
      simp only [br_dec, br_beq, Int.toNat_natCast]
      refine ⟨fun _ => ⟨⟨by omega, by omega⟩, fun e => ?_, fun e => ⟨inR (by omega) (by omega), ?_⟩⟩, fun h => by omega⟩
      · rw [if_pos e] at he
        rw [show (j : Int) = nextM t i key by omega]; exact hk
      · rw [if_neg e] at he
        exact ih (j + 1) (by omega) (by omega)
  have := go (t.length - i.toNat) i.toNat (by omega) (by unfold nextM; omega)
  rw [Int.toNat_of_nonneg h0] at this
  exact ⟨_, this⟩
-- spec.NextUse
def G_spec_NextUse (t0 : List Int) (from1 : Int) (key2 : Int) (k : Int → Prop) : Prop :=
  F_spec_validTrace t0 fun validTrace8 =>
  br (!validTrace8)
  (k (-1))
  (F_spec_inRange from1 (0 : Int) (t0.length : Int) fun inRange14 =>
    br (!inRange14)
    (k (-1))
    (F_spec_inRange key2 (0 : Int) (31 : Int) fun inRange19 =>
      br (!inRange19)
      (k (-1))
      (F_spec_nextUse t0 from1 key2 fun nextUse25 =>
        k nextUse25)))
def S_spec_NextUse (t0 : List Int) (from1 : Int) (key2 : Int) (k : Int → Prop) : Prop := G_spec_NextUse t0 from1 key2 k
def F_spec_NextUse (t : List Int) (i : Int) (key : Int) (k : Int → Prop) : Prop := (VTrace t ∧ (0 ≤ i ∧ i ≤ t.length) ∧ 0 ≤ key ∧ key ≤ 31 → k (nextM t i key)) ∧ (¬ (VTrace t ∧ (0 ≤ i ∧ i ≤ t.length) ∧ 0 ≤ key ∧ key ≤ 31) → k (-1))
theorem F_spec_NextUse_S {t : List Int} {i : Int} {key : Int} {k : Int → Prop} (h : F_spec_NextUse t i key k) : S_spec_NextUse t i key k := by
  obtain ⟨hyes, hno⟩ := h
  intro b hb
  refine br_not.2 (br_iff.2 ⟨fun e => ?_, fun e => hno fun w => by rw [hb.2 w.1] at e; cases e⟩)
  have v := hb.1 e
  refine br_not.2 (br_dec.2 ⟨fun hi => br_not.2 (br_dec.2 ⟨fun hkey => ⟨⟨by omega, by omega, by have := v.1; omega⟩, hyes ⟨v, hi, hkey⟩⟩, fun hkey => hno fun w => hkey w.2.2⟩), fun hi => hno fun w => hi w.2.1⟩)
-- laws.FnNextUse
def T0_laws_FnNextUse_j0 (drawNextUse13r0 : List Int) (drawNextUse13r1 : Int) (drawNextUse13r2 : Int) (nextUse20 : Int) (k : Bool → Prop) : Prop :=
  br (decide (nextUse20 ≥ drawNextUse13r1))
  (br (decide (nextUse20 ≤ (drawNextUse13r0.length : Int)))
    (br (nextUse20 == (drawNextUse13r0.length : Int))
      (k true)
      ((0 ≤ nextUse20 ∧ nextUse20 < (drawNextUse13r0.length : Int)) ∧
        k ((List.getD drawNextUse13r0 (Int.toNat nextUse20) (0 : Int)) == drawNextUse13r2)))
    (k false))
  (k false)
def T0_laws_FnNextUse (drawNextUse13r0 : List Int) (drawNextUse13r1 : Int) (drawNextUse13r2 : Int) (nextUse20 : Int) (xi7 : Int) (k : Bool → Prop) (B0 : Int → Prop) : Prop :=
  br (decide (xi7 < nextUse20))
  (br (decide (xi7 < (drawNextUse13r0.length : Int)))
    ((0 ≤ xi7 ∧ xi7 < (drawNextUse13r0.length : Int)) ∧
      br ((List.getD drawNextUse13r0 (Int.toNat xi7) (0 : Int)) == drawNextUse13r2)
      (k false)
      (InR (xi7 + 1) ∧
        B0 (xi7 + 1)))
    (T0_laws_FnNextUse_j0 drawNextUse13r0 drawNextUse13r1 drawNextUse13r2 nextUse20 k))
  (T0_laws_FnNextUse_j0 drawNextUse13r0 drawNextUse13r1 drawNextUse13r2 nextUse20 k)
def L0_laws_FnNextUse (drawNextUse13r0 : List Int) (drawNextUse13r1 : Int) (drawNextUse13r2 : Int) (nextUse20 : Int) (k : Bool → Prop) : Nat → Int → Prop
  | 0, _ => False
  | n + 1, xi7 => T0_laws_FnNextUse drawNextUse13r0 drawNextUse13r1 drawNextUse13r2 nextUse20 xi7 k (L0_laws_FnNextUse drawNextUse13r0 drawNextUse13r1 drawNextUse13r2 nextUse20 k n)
def G_laws_FnNextUse (code0 : List Int) (k : Bool → Prop) (I0 : List Int → Int → Int → Int → Int → Prop) : Prop :=
  br (decide ((code0.length : Int) > 1048576))
  (k true)
  (F_spec_DrawNextUse code0 fun drawNextUse13r0 drawNextUse13r1 drawNextUse13r2 =>
    F_impl_NextUse drawNextUse13r0 drawNextUse13r1 drawNextUse13r2 fun nextUse20 =>
    F_spec_NextUse drawNextUse13r0 drawNextUse13r1 drawNextUse13r2 fun nextUse25 =>
    br (nextUse20 != nextUse25)
    (F_spec_NextUse drawNextUse13r0 drawNextUse13r1 drawNextUse13r2 fun nextUse35 =>
      k (nextUse20 == nextUse35))
    (br (decide (nextUse20 < 0))
      (F_spec_NextUse drawNextUse13r0 drawNextUse13r1 drawNextUse13r2 fun nextUse35 =>
        k (nextUse20 == nextUse35))
      (I0 drawNextUse13r0 drawNextUse13r1 drawNextUse13r2 nextUse20 drawNextUse13r1)))
def S_laws_FnNextUse (code0 : List Int) (k : Bool → Prop) : Prop := G_laws_FnNextUse code0 k (fun drawNextUse13r0 drawNextUse13r1 drawNextUse13r2 nextUse20 xi7 => ∃ j, L0_laws_FnNextUse drawNextUse13r0 drawNextUse13r1 drawNextUse13r2 nextUse20 k j xi7)
abbrev F_laws_FnNextUse (code0 : List Int) (k : Bool → Prop) : Prop := S_laws_FnNextUse code0 k
theorem F_laws_FnNextUse_S {code0 : List Int} {k : Bool → Prop} (h : F_laws_FnNextUse code0 k) : S_laws_FnNextUse code0 k := h
theorem law_FnNextUse (code : List Int) (hb : ∀ x ∈ code, 0 ≤ x ∧ x ≤ 255) : F_laws_FnNextUse code (fun r => r = true) := by
  refine br_dec.2 ⟨fun _ => rfl, fun hlen => ⟨hb, fun t i key l1 i1 i2 => ?_⟩⟩
  by_cases v : VTrace t ∧ (0 ≤ i ∧ i ≤ t.length) ∧ 0 ≤ key ∧ key ≤ 31
  · obtain ⟨s1, s2, s3⟩ := nxt_spec key (t.drop i.toNat)
    have hi := v.2.1
    have hl : (t.drop i.toNat).length = t.length - i.toNat := List.length_drop
    have hle := nxt_le key (t.drop i.toNat)
    have hg : ∀ q : Nat, (t.drop i.toNat).getD q 0 = t.getD (i.toNat + q) 0 := fun q => by
      rw [List.getD_eq_getElem?_getD, List.getElem?_drop, List.getD_eq_getElem?_getD]
    have hn : nextM t i key = i + (nxt key (t.drop i.toNat) : Int) := rfl
    refine yes v (yes v (br_same' (br_nd (by omega) ?_)))
    have fin : T0_laws_FnNextUse_j0 t i key (nextM t i key) (fun r => r = true) := by
      refine br_yd (by omega) (br_yd (by omega) (br_beq.2 ⟨fun _ => rfl, fun h => ⟨⟨by omega, by omega⟩, beq_t ?_⟩⟩))
      have := s2 (by omega)
      rw [hg] at this
      rw [show (nextM t i key).toNat = i.toNat + nxt key (t.drop i.toNat) by omega]
      exact this
    have go : ∀ (m q : Nat), q + m = nxt key (t.drop i.toNat) → L0_laws_FnNextUse t i key (nextM t i key) (fun r => r = true) (m + 1) (i + (q : Int)) := by
      intro m
      induction m with
      | zero =>
        intro q hq
        rw [L0_laws_FnNextUse, T0_laws_FnNextUse]
        exact br_nd (by omega) fin
      | succ m ih =>
        intro q hq
        have := s1 q (by omega)
        rw [hg] at this
        rw [L0_laws_FnNextUse, T0_laws_FnNextUse]
        refine br_yd (by omega) (br_yd (by omega) ⟨⟨by omega, by omega⟩, br_ne ?_ ⟨inR (by omega) (by omega), ?_⟩⟩)
        · rw [show (i + (q : Int)).toNat = i.toNat + q by omega]; exact this
        · have := ih (q + 1) (by omega)
          rw [show i + (((q + 1 : Nat) : Int)) = i + (q : Int) + 1 by omega] at this
          exact this
    have := go (nxt key (t.drop i.toNat)) 0 (by omega)
    rw [show i + ((0 : Nat) : Int) = i by omega] at this
    exact ⟨_, this⟩
  · exact nay v (nay v (br_same' (br_yd (by omega) (nay v rfl))))
end Go.Ev
