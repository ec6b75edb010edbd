/- What the functions that the law reaches do, written as plain Lean. No statement is proved here. -/
import Derived.Test.YtaajnkggomlppaeFnUseGateHitP0
namespace Go.Ev
set_option linter.unusedVariables false
open Go
def G_laws_FnUseGateHit (code0 : List Int) (k : Bool → Prop) (I0 : Int → List Int → List Int → Int → List Int → Int → Int → List Int → List Int → Int → List Int → Int → Int → Prop) : Prop :=
  br (decide ((code0.length : Int) > 1048576))
  (k true)
  (F_spec_DrawUseGate code0 fun drawUseGate16Window drawUseGate16Room drawUseGate16New drawUseGate16Main drawUseGate16Sketch drawUseGate16Added drawUseGate16r1 =>
    F_impl_UseGate drawUseGate16Window drawUseGate16Room drawUseGate16New drawUseGate16Main drawUseGate16Sketch drawUseGate16Added drawUseGate16r1 fun useGate22Window useGate22Room useGate22New useGate22Main useGate22Sketch useGate22Added useGate22r1 =>
    F_spec_UseGate drawUseGate16Window drawUseGate16Room drawUseGate16New drawUseGate16Main drawUseGate16Sketch drawUseGate16Added drawUseGate16r1 fun useGate28Window useGate28Room useGate28New useGate28Main useGate28Sketch useGate28Added useGate28r1 =>
    F_laws_equalGate useGate22Window useGate22Room useGate22New useGate22Main useGate22Sketch useGate22Added useGate28Window useGate28Room useGate28New useGate28Main useGate28Sketch useGate28Added fun equalGate33 =>
    br (!equalGate33)
    (G_laws_FnUseGateHit_j0 useGate22Added useGate22Main useGate22New useGate22Room useGate22Sketch useGate22Window useGate22r1 useGate28Added useGate28Main useGate28New useGate28Room useGate28Sketch useGate28Window useGate28r1 k)
    (br (!(useGate22r1 == useGate28r1))
      (G_laws_FnUseGateHit_j0 useGate22Added useGate22Main useGate22New useGate22Room useGate22Sketch useGate22Window useGate22r1 useGate28Added useGate28Main useGate28New useGate28Room useGate28Sketch useGate28Window useGate28r1 k)
      (br (!useGate22r1)
        (G_laws_FnUseGateHit_j0 useGate22Added useGate22Main useGate22New useGate22Room useGate22Sketch useGate22Window useGate22r1 useGate28Added useGate28Main useGate28New useGate28Room useGate28Sketch useGate28Window useGate28r1 k)
        (I0 drawUseGate16Added drawUseGate16Main drawUseGate16New drawUseGate16Room drawUseGate16Sketch drawUseGate16Window useGate22Added useGate22Main useGate22New useGate22Room useGate22Sketch useGate22Window 0))))
def S_laws_FnUseGateHit (code0 : List Int) (k : Bool → Prop) : Prop := G_laws_FnUseGateHit code0 k (fun drawUseGate16Added drawUseGate16Main drawUseGate16New drawUseGate16Room drawUseGate16Sketch drawUseGate16Window useGate22Added useGate22Main useGate22New useGate22Room useGate22Sketch useGate22Window xi9 => ∃ j, L0_laws_FnUseGateHit drawUseGate16Added drawUseGate16Main drawUseGate16New drawUseGate16Room drawUseGate16Sketch drawUseGate16Window useGate22Added useGate22Main useGate22New useGate22Room useGate22Sketch useGate22Window k j xi9)
abbrev F_laws_FnUseGateHit (code0 : List Int) (k : Bool → Prop) : Prop := S_laws_FnUseGateHit code0 k
theorem F_laws_FnUseGateHit_S {code0 : List Int} {k : Bool → Prop} (h : F_laws_FnUseGateHit code0 k) : S_laws_FnUseGateHit code0 k := h
theorem law_FnUseGateHit (code : List Int) (hb : ∀ x ∈ code, 0 ≤ x ∧ x ≤ 255) : F_laws_FnUseGateHit code (fun r => r = true) := by
  refine br_dec.2 ⟨fun _ => rfl, fun hlen => ⟨hb, fun w r n m s a key l1 l2 l3 a1 a2 => ?_⟩⟩
  by_cases v : VGate w r ⟨n, m, s, a⟩ ∧ 0 ≤ key ∧ key ≤ 31
  · have hr := v.1.1.2.1.1
    have vq := gateM_valid v.1 v.2
    have hl := gate_len vq
    have hq := gateM_hit (w := w) (r := r) (g := ⟨n, m, s, a⟩) (key := key)
    have hs : (key ∈ n ∨ key ∈ m) → (∀ y ∈ n, y ∈ (gateM w r ⟨n, m, s, a⟩ key).1.n) ∧ (∀ y ∈ m, y ∈ (gateM w r ⟨n, m, s, a⟩ key).1.m) ∧ (gateM w r ⟨n, m, s, a⟩ key).1.n.length = n.length ∧ (gateM w r ⟨n, m, s, a⟩ key).1.m.length = m.length := fun h => passM_stay v.1.1 h
    refine yes v (yes v ?_)
    generalize gateM w r ⟨n, m, s, a⟩ key = q at *
    refine equalGate_same (by omega) (by omega) (by omega) (br_nt (br_same (br_not.2 (br_iff.2 ⟨fun e => ?_, fun e => equalGate_same (by omega) (by omega) (by omega) (beq_self_eq_true _)⟩))))
    obtain ⟨s1, s2, s3, s4⟩ := hs (by rw [hq] at e; exact of_decide_eq_true e)
    have second : ∀ (d i : Nat), i + d = m.length → L1_laws_FnUseGateHit a m n r s w q.1.a q.1.m q.1.n r q.1.s w (fun r => r = true) (d + 1) (i : Int) := by
      intro d
      induction d with
      | zero =>
        intro i hi
        rw [L1_laws_FnUseGateHit, U1_laws_FnUseGateHit]
        exact br_nd (by omega) (br_ye (by omega) (beq_t (by omega)))
      | succ d ih =>
        intro i hi
        rw [L1_laws_FnUseGateHit, U1_laws_FnUseGateHit]
        simp only [Int.toNat_natCast]
        exact br_yd (by omega) ⟨⟨by omega, by omega⟩, by omega, br_not.2 (br_yd (s2 _ (mem_getD (by omega))) ⟨inR (by omega) (by omega), ih (i + 1) (by omega)⟩)⟩
    have first : ∀ (d i : Nat), i + d = n.length → L0_laws_FnUseGateHit a m n r s w q.1.a q.1.m q.1.n r q.1.s w (fun r => r = true) (d + 1) (i : Int) := by
      intro d
      induction d with
      | zero =>
        intro i hi
        rw [L0_laws_FnUseGateHit, U0_laws_FnUseGateHit]
        exact br_nd (by omega) ⟨_, second m.length 0 (by omega)⟩
      | succ d ih =>
        intro i hi
        rw [L0_laws_FnUseGateHit, U0_laws_FnUseGateHit]
        simp only [Int.toNat_natCast]
        exact br_yd (by omega) ⟨⟨by omega, by omega⟩, by omega, br_not.2 (br_yd (s1 _ (mem_getD (by omega))) ⟨inR (by omega) (by omega), ih (i + 1) (by omega)⟩)⟩
    exact ⟨_, first n.length 0 (by omega)⟩
  · exact nay v (nay v (equalGate_same (by simp) (by simp) (by simp) (br_nt (br_same (br_nf (equalGate_same (by simp) (by simp) (by simp) rfl))))))
end Go.Ev
