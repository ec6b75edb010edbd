/- What the functions that the law reaches do, written as plain Lean. No statement is proved here. -/
import Derived.Test.YtaajnkggomlppaeFnRunGateBoundP0
namespace Go.Ev
set_option linter.unusedVariables false
open Go
def G_laws_FnRunGateBound (code0 : List Int) (k : Bool → Prop) : Prop :=
  br (decide ((code0.length : Int) > 1048576))
  (k true)
  (F_spec_DrawRunGate code0 fun drawRunGate15r0 drawRunGate15r1 drawRunGate15r2 =>
    F_impl_RunGate drawRunGate15r0 drawRunGate15r1 drawRunGate15r2 fun runGate23Window runGate23Room runGate23New runGate23Main runGate23Sketch runGate23Added runGate23r1 =>
    F_spec_RunGate drawRunGate15r0 drawRunGate15r1 drawRunGate15r2 fun runGate30Window runGate30Room runGate30New runGate30Main runGate30Sketch runGate30Added runGate30r1 =>
    F_laws_equalGate runGate23Window runGate23Room runGate23New runGate23Main runGate23Sketch runGate23Added runGate30Window runGate30Room runGate30New runGate30Main runGate30Sketch runGate30Added fun equalGate35 =>
    br (!equalGate35)
    (G_laws_FnRunGateBound_j0 runGate23Added runGate23Main runGate23New runGate23Room runGate23Sketch runGate23Window runGate23r1 runGate30Added runGate30Main runGate30New runGate30Room runGate30Sketch runGate30Window runGate30r1 k)
    (br (runGate23r1 != runGate30r1)
      (G_laws_FnRunGateBound_j0 runGate23Added runGate23Main runGate23New runGate23Room runGate23Sketch runGate23Window runGate23r1 runGate30Added runGate30Main runGate30New runGate30Room runGate30Sketch runGate30Window runGate30r1 k)
      (br (decide (runGate23r1 < 0))
        (G_laws_FnRunGateBound_j0 runGate23Added runGate23Main runGate23New runGate23Room runGate23Sketch runGate23Window runGate23r1 runGate30Added runGate30Main runGate30New runGate30Room runGate30Sketch runGate30Window runGate30r1 k)
        (F_impl_NewKeys drawRunGate15r0 fun newKeys58 =>
          InR ((drawRunGate15r0.length : Int) - newKeys58) ∧
          br (decide (runGate23r1 ≤ ((drawRunGate15r0.length : Int) - newKeys58)))
          (((16 : Int) ≠ 0) ∧
            br (runGate23Added == (Int.tmod (drawRunGate15r0.length : Int) 16))
            (F_impl_ValidGate runGate23Window runGate23Room runGate23New runGate23Main runGate23Sketch runGate23Added fun validGate71 =>
              k validGate71)
            (k false))
          (k false)))))
def S_laws_FnRunGateBound (code0 : List Int) (k : Bool → Prop) : Prop := G_laws_FnRunGateBound code0 k
abbrev F_laws_FnRunGateBound (code0 : List Int) (k : Bool → Prop) : Prop := S_laws_FnRunGateBound code0 k
theorem F_laws_FnRunGateBound_S {code0 : List Int} {k : Bool → Prop} (h : F_laws_FnRunGateBound code0 k) : S_laws_FnRunGateBound code0 k := h
theorem law_FnRunGateBound (code : List Int) (hb : ∀ x ∈ code, 0 ≤ x ∧ x ≤ 255) : F_laws_FnRunGateBound code (fun r => r = true) := by
  refine br_dec.2 ⟨fun _ => rfl, fun hlen => ⟨hb, fun t w r l1 => ?_⟩⟩
  by_cases v : VTrace t ∧ (1 ≤ w ∧ w ≤ 8) ∧ 1 ≤ r ∧ r ≤ 8
  · have f := runG_facts v.1 v.2.1 v.2.2
    obtain ⟨r1, r2, r3⟩ := runG_valid t ⟨[], [], emptyM, 0⟩ 0 (gate0 v.2.1 v.2.2) v.1.2
    have ha : (runG w r t ⟨[], [], emptyM, 0⟩ 0).1.a = ((0 : Int) + t.length) % 16 := runG_added t ⟨[], [], emptyM, 0⟩ 0 (by simp) (by simp)
    have hl := gate_len r1
    have h1 := f.new
    have ht := v.1.1
    refine yes v (yes v ?_)
    generalize runG w r t ⟨[], [], emptyM, 0⟩ 0 = q at *
    refine equalGate_same (by omega) (by omega) (by omega) (br_nt (br_same' (br_nd (by omega) (yes v.1 ⟨inR (by omega) (by omega), br_yd (by omega) ⟨by omega, br_ye ?_ (all_t r1 rfl)⟩⟩))))
    have e : Int.tmod (t.length : Int) 16 = ((t.length % 16 : Nat) : Int) := rfl
    rw [e, ha]; omega
  · exact nay v (nay v (equalGate_same (by simp) (by simp) (by simp) (br_nt (br_same' (br_yd (by omega) (equalGate_same (by simp) (by simp) (by simp) rfl))))))
end Go.Ev
