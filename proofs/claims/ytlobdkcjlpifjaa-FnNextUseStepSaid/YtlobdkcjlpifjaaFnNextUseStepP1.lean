/- What the functions that the law reaches do, written as plain Lean. No statement is proved here. -/
import Derived.Test.YtlobdkcjlpifjaaFnNextUseStepP0
namespace Go.Ev
set_option linter.unusedVariables false
open Go
def F_spec_nextUse (t : List Int) (i key : Int) (k : Int → Prop) : Prop := (0 ≤ i ∧ i ≤ t.length ∧ t.length ≤ 1000000000) ∧ k (nextM t i key)
theorem F_spec_nextUse_S {t : List Int} {i key : Int} {k : Int → Prop} (h : F_spec_nextUse t i key k) : S_spec_nextUse t i key k := by
  obtain ⟨⟨h0, h1, h2⟩, hk⟩ := h
  have go : ∀ (m j : Nat), j + m = t.length → (j : Int) + (nxt key (t.drop j) : Int) = nextM t i key → L0_spec_nextUse key t k (m + 1) (j : Int) := by
    intro m
    induction m with
    | zero =>
      intro j hj he
      rw [L0_spec_nextUse, T0_spec_nextUse]
      refine br_dec.2 ⟨fun h => by omega, fun _ => ?_⟩
      rw [List.drop_of_length_le (by omega)] at he
      simp only [nxt] at he
      rw [show (t.length : Int) = nextM t i key by omega]; exact hk
    | succ m ih =>
      intro j hj he
      rw [nxt_drop (by omega)] at he
      rw [L0_spec_nextUse, T0_spec_nextUse]
      simp only [br_dec, br_beq, Int.toNat_natCast]
      refine ⟨fun _ => ⟨⟨by omega, by omega⟩, fun e => ?_, fun e => ⟨inR (by omega) (by omega), ?_⟩⟩, fun h => by omega⟩
      · rw [if_pos e] at he
        rw [show (j : Int) = nextM t i key by omega]; exact hk
      · rw [if_neg e] at he
        exact ih (j + 1) (by omega) (by omega)
  have := go (t.length - i.toNat) i.toNat (by omega) (by unfold nextM; omega)
  rw [Int.toNat_of_nonneg h0] at this
  exact ⟨_, this⟩
-- spec.NextUse
def G_spec_NextUse (t0 : List Int) (from1 : Int) (key2 : Int) (k : Int → Prop) : Prop :=
  F_spec_validTrace t0 fun validTrace8 =>
  br (!validTrace8)
  (k (-1))
  (F_spec_inRange from1 (0 : Int) (t0.length : Int) fun inRange14 =>
    br (!inRange14)
    (k (-1))
    (F_spec_inRange key2 (0 : Int) (31 : Int) fun inRange19 =>
      br (!inRange19)
      (k (-1))
      (F_spec_nextUse t0 from1 key2 fun nextUse25 =>
        k nextUse25)))
def S_spec_NextUse (t0 : List Int) (from1 : Int) (key2 : Int) (k : Int → Prop) : Prop := G_spec_NextUse t0 from1 key2 k
def F_spec_NextUse (t : List Int) (i : Int) (key : Int) (k : Int → Prop) : Prop := (VTrace t ∧ (0 ≤ i ∧ i ≤ t.length) ∧ 0 ≤ key ∧ key ≤ 31 → k (nextM t i key)) ∧ (¬ (VTrace t ∧ (0 ≤ i ∧ i ≤ t.length) ∧ 0 ≤ key ∧ key ≤ 31) → k (-1))
theorem F_spec_NextUse_S {t : List Int} {i : Int} {key : Int} {k : Int → Prop} (h : F_spec_NextUse t i key k) : S_spec_NextUse t i key k := by
  obtain ⟨hyes, hno⟩ := h
  intro b hb
  refine br_not.2 (br_iff.2 ⟨fun e => ?_, fun e => hno fun w => by rw [hb.2 w.1] at e; cases e⟩)
  have v := hb.1 e
  refine br_not.2 (br_dec.2 ⟨fun hi => br_not.2 (br_dec.2 ⟨fun hkey => ⟨⟨by omega, by omega, by have := v.1; omega⟩, hyes ⟨v, hi, hkey⟩⟩, fun hkey => hno fun w => hkey w.2.2⟩), fun hi => hno fun w => hi w.2.1⟩)
-- laws.FnNextUseStep
def G_laws_FnNextUseStep_j0 (drawNextUse13r1 : Int) (nextUse20 : Int) (nextUse47 : Int) (k : Bool → Prop) : Prop :=
  br (decide (nextUse20 > drawNextUse13r1))
  (k (nextUse47 == nextUse20))
  (k false)
def G_laws_FnNextUseStep (code0 : List Int) (k : Bool → Prop) : Prop :=
  br (decide ((code0.length : Int) > 1048576))
  (k true)
  (F_spec_DrawNextUse code0 fun drawNextUse13r0 drawNextUse13r1 drawNextUse13r2 =>
    F_impl_NextUse drawNextUse13r0 drawNextUse13r1 drawNextUse13r2 fun nextUse20 =>
    F_spec_NextUse drawNextUse13r0 drawNextUse13r1 drawNextUse13r2 fun nextUse25 =>
    br (nextUse20 != nextUse25)
    (F_spec_NextUse drawNextUse13r0 drawNextUse13r1 drawNextUse13r2 fun nextUse41 =>
      k (nextUse20 == nextUse41))
    (br (decide (nextUse20 < 0))
      (F_spec_NextUse drawNextUse13r0 drawNextUse13r1 drawNextUse13r2 fun nextUse41 =>
        k (nextUse20 == nextUse41))
      (br (drawNextUse13r1 == (drawNextUse13r0.length : Int))
        (F_spec_NextUse drawNextUse13r0 drawNextUse13r1 drawNextUse13r2 fun nextUse41 =>
          k (nextUse20 == nextUse41))
        (InR (drawNextUse13r1 + 1) ∧
          F_impl_NextUse drawNextUse13r0 (drawNextUse13r1 + 1) drawNextUse13r2 fun nextUse47 =>
          br (nextUse20 == drawNextUse13r1)
          (br (decide (nextUse47 > nextUse20))
            (k true)
            (G_laws_FnNextUseStep_j0 drawNextUse13r1 nextUse20 nextUse47 k))
          (G_laws_FnNextUseStep_j0 drawNextUse13r1 nextUse20 nextUse47 k)))))
def S_laws_FnNextUseStep (code0 : List Int) (k : Bool → Prop) : Prop := G_laws_FnNextUseStep code0 k
abbrev F_laws_FnNextUseStep (code0 : List Int) (k : Bool → Prop) : Prop := S_laws_FnNextUseStep code0 k
theorem F_laws_FnNextUseStep_S {code0 : List Int} {k : Bool → Prop} (h : F_laws_FnNextUseStep code0 k) : S_laws_FnNextUseStep code0 k := h
theorem law_FnNextUseStep (code : List Int) (hb : ∀ x ∈ code, 0 ≤ x ∧ x ≤ 255) : F_laws_FnNextUseStep code (fun r => r = true) := by
  refine br_dec.2 ⟨fun _ => rfl, fun hlen => ⟨hb, fun t i key l1 i1 i2 => ?_⟩⟩
  by_cases v : VTrace t ∧ (0 ≤ i ∧ i ≤ t.length) ∧ 0 ≤ key ∧ key ≤ 31
  · have hi := v.2.1
    have hle := nxt_le key (t.drop i.toNat)
    rw [List.length_drop] at hle
    have hn : nextM t i key = i + (nxt key (t.drop i.toNat) : Int) := rfl
    refine yes v (yes v (br_same' (br_nd (by omega) (br_beq.2 ⟨fun _ => yes v (beq_t rfl), fun h => ⟨inR (by omega) (by omega), yes ⟨v.1, by omega, v.2.2⟩ ?_⟩⟩))))
    have hd := nxt_drop (t := t) (i := i.toNat) (key := key) (by omega)
    have hn2 : nextM t (i + 1) key = i + 1 + (nxt key (t.drop (i.toNat + 1)) : Int) := by
      unfold nextM; rw [show (i + 1).toNat = i.toNat + 1 by omega]
    by_cases e : t.getD i.toNat 0 = key
    · rw [if_pos e] at hd
      exact br_ye (by omega) (br_yd (by omega) rfl)
    · rw [if_neg e] at hd
      exact br_ne (by omega) (br_yd (by omega) (beq_t (by omega)))
  · exact nay v (nay v (br_same' (br_yd (by omega) (nay v rfl))))
end Go.Ev
