/- What the functions that the law reaches do, written as plain Lean. No statement is proved here. -/
import Derived.Test.YtaajnkggomlppaeFnRunGateSmallP0
namespace Go.Ev
set_option linter.unusedVariables false
open Go
def G_laws_FnRunGateSmall (code0 : List Int) (k : Bool → Prop) : Prop :=
  br (decide ((code0.length : Int) > 1048576))
  (k true)
  (F_spec_DrawRunGate code0 fun drawRunGate15r0 drawRunGate15r1 drawRunGate15r2 =>
    F_impl_RunGate drawRunGate15r0 drawRunGate15r1 drawRunGate15r2 fun runGate23Window runGate23Room runGate23New runGate23Main runGate23Sketch runGate23Added runGate23r1 =>
    F_spec_RunGate drawRunGate15r0 drawRunGate15r1 drawRunGate15r2 fun runGate30Window runGate30Room runGate30New runGate30Main runGate30Sketch runGate30Added runGate30r1 =>
    F_laws_equalGate runGate23Window runGate23Room runGate23New runGate23Main runGate23Sketch runGate23Added runGate30Window runGate30Room runGate30New runGate30Main runGate30Sketch runGate30Added fun equalGate35 =>
    br (!equalGate35)
    (G_laws_FnRunGateSmall_j0 runGate23Added runGate23Main runGate23New runGate23Room runGate23Sketch runGate23Window runGate23r1 runGate30Added runGate30Main runGate30New runGate30Room runGate30Sketch runGate30Window runGate30r1 k)
    (br (runGate23r1 != runGate30r1)
      (G_laws_FnRunGateSmall_j0 runGate23Added runGate23Main runGate23New runGate23Room runGate23Sketch runGate23Window runGate23r1 runGate30Added runGate30Main runGate30New runGate30Room runGate30Sketch runGate30Window runGate30r1 k)
      (br (decide (runGate23r1 < 0))
        (G_laws_FnRunGateSmall_j0 runGate23Added runGate23Main runGate23New runGate23Room runGate23Sketch runGate23Window runGate23r1 runGate30Added runGate30Main runGate30New runGate30Room runGate30Sketch runGate30Window runGate30r1 k)
        (F_impl_NewKeys drawRunGate15r0 fun newKeys48 =>
          InR (drawRunGate15r1 + drawRunGate15r2) ∧
          br (decide (newKeys48 > (drawRunGate15r1 + drawRunGate15r2)))
          (G_laws_FnRunGateSmall_j0 runGate23Added runGate23Main runGate23New runGate23Room runGate23Sketch runGate23Window runGate23r1 runGate30Added runGate30Main runGate30New runGate30Room runGate30Sketch runGate30Window runGate30r1 k)
          ((F_impl_NewKeys drawRunGate15r0 fun newKeys66 =>
              InR ((drawRunGate15r0.length : Int) - newKeys66) ∧
              br (runGate23r1 == ((drawRunGate15r0.length : Int) - newKeys66))
              (InR ((runGate23New.length : Int) + (runGate23Main.length : Int)) ∧
                (F_impl_NewKeys drawRunGate15r0 fun newKeys78 =>
                  k (((runGate23New.length : Int) + (runGate23Main.length : Int)) == newKeys78)) ∧
                (True))
              ((k false) ∧
                (True))) ∧
            (True))))))
def H_laws_FnRunGateSmall_j0 (runGate23Added : Int) (runGate23Main : List Int) (runGate23New : List Int) (runGate23Room : Int) (runGate23Sketch : List Int) (runGate23Window : Int) (runGate23r1 : Int) (runGate30Added : Int) (runGate30Main : List Int) (runGate30New : List Int) (runGate30Room : Int) (runGate30Sketch : List Int) (runGate30Window : Int) (runGate30r1 : Int) (k : Bool → Prop) : Prop :=
  F_laws_equalGate runGate23Window runGate23Room runGate23New runGate23Main runGate23Sketch runGate23Added runGate30Window runGate30Room runGate30New runGate30Main runGate30Sketch runGate30Added fun equalGate56 =>
  br equalGate56
  (k (runGate23r1 == runGate30r1))
  (k false)
def H_laws_FnRunGateSmall (code0 : List Int) (k : Bool → Prop) : Prop :=
  br (decide ((code0.length : Int) > 1048576))
  (k true)
  (F_spec_DrawRunGate code0 fun drawRunGate15r0 drawRunGate15r1 drawRunGate15r2 =>
    F_impl_RunGate drawRunGate15r0 drawRunGate15r1 drawRunGate15r2 fun runGate23Window runGate23Room runGate23New runGate23Main runGate23Sketch runGate23Added runGate23r1 =>
    F_spec_RunGate drawRunGate15r0 drawRunGate15r1 drawRunGate15r2 fun runGate30Window runGate30Room runGate30New runGate30Main runGate30Sketch runGate30Added runGate30r1 =>
    F_laws_equalGate runGate23Window runGate23Room runGate23New runGate23Main runGate23Sketch runGate23Added runGate30Window runGate30Room runGate30New runGate30Main runGate30Sketch runGate30Added fun equalGate35 =>
    br (!equalGate35)
    (H_laws_FnRunGateSmall_j0 runGate23Added runGate23Main runGate23New runGate23Room runGate23Sketch runGate23Window runGate23r1 runGate30Added runGate30Main runGate30New runGate30Room runGate30Sketch runGate30Window runGate30r1 k)
    (br (runGate23r1 != runGate30r1)
      (H_laws_FnRunGateSmall_j0 runGate23Added runGate23Main runGate23New runGate23Room runGate23Sketch runGate23Window runGate23r1 runGate30Added runGate30Main runGate30New runGate30Room runGate30Sketch runGate30Window runGate30r1 k)
      (br (decide (runGate23r1 < 0))
        (H_laws_FnRunGateSmall_j0 runGate23Added runGate23Main runGate23New runGate23Room runGate23Sketch runGate23Window runGate23r1 runGate30Added runGate30Main runGate30New runGate30Room runGate30Sketch runGate30Window runGate30r1 k)
        (F_impl_NewKeys drawRunGate15r0 fun newKeys48 =>
          InR (drawRunGate15r1 + drawRunGate15r2) ∧
          br (decide (newKeys48 > (drawRunGate15r1 + drawRunGate15r2)))
          (H_laws_FnRunGateSmall_j0 runGate23Added runGate23Main runGate23New runGate23Room runGate23Sketch runGate23Window runGate23r1 runGate30Added runGate30Main runGate30New runGate30Room runGate30Sketch runGate30Window runGate30r1 k)
          (F_impl_NewKeys drawRunGate15r0 fun newKeys66 =>
            InR ((drawRunGate15r0.length : Int) - newKeys66) ∧
            br (runGate23r1 == ((drawRunGate15r0.length : Int) - newKeys66))
            (InR ((runGate23New.length : Int) + (runGate23Main.length : Int)) ∧
              F_impl_NewKeys drawRunGate15r0 fun newKeys78 =>
              k (((runGate23New.length : Int) + (runGate23Main.length : Int)) == newKeys78))
            (k false))))))
theorem G_laws_FnRunGateSmall_eq (code0 : List Int) (k : Bool → Prop) : G_laws_FnRunGateSmall code0 k = H_laws_FnRunGateSmall code0 k := by
  first
  | (simp only [G_laws_FnRunGateSmall, H_laws_FnRunGateSmall, G_laws_FnRunGateSmall_j0, H_laws_FnRunGateSmall_j0, and_self, and_true]; done)
  | (simp only [G_laws_FnRunGateSmall, H_laws_FnRunGateSmall, G_laws_FnRunGateSmall_j0, H_laws_FnRunGateSmall_j0, and_self, and_true, and_self_left, and_assoc]; refine propext ⟨fun h => ?_, fun h => ?_⟩ <;> (repeat (cases ‹_ ∧ _›)) <;> (repeat' (apply And.intro)) <;> assumption)
def S_laws_FnRunGateSmall (code0 : List Int) (k : Bool → Prop) : Prop := H_laws_FnRunGateSmall code0 k
abbrev F_laws_FnRunGateSmall (code0 : List Int) (k : Bool → Prop) : Prop := S_laws_FnRunGateSmall code0 k
theorem F_laws_FnRunGateSmall_S {code0 : List Int} {k : Bool → Prop} (h : F_laws_FnRunGateSmall code0 k) : S_laws_FnRunGateSmall code0 k := h
theorem law_FnRunGateSmall (code : List Int) (hb : ∀ x ∈ code, 0 ≤ x ∧ x ≤ 255) : F_laws_FnRunGateSmall code (fun r => r = true) := by
  refine br_dec.2 ⟨fun _ => rfl, fun hlen => ⟨hb, fun t w r l1 => ?_⟩⟩
  by_cases v : VTrace t ∧ (1 ≤ w ∧ w ≤ 8) ∧ 1 ≤ r ∧ r ≤ 8
  · have f := runG_facts v.1 v.2.1 v.2.2
    obtain ⟨r1, r2, r3⟩ := runG_valid t ⟨[], [], emptyM, 0⟩ 0 (gate0 v.2.1 v.2.2) v.1.2
    have hl := gate_len r1
    have hk := nk_le t
    have ht := v.1.1
    refine yes v (yes v ?_)
    generalize runG w r t ⟨[], [], emptyM, 0⟩ 0 = q at *
    refine equalGate_same (by omega) (by omega) (by omega) (br_nt (br_same' (br_nd (by omega) (yes v.1 ⟨inR (by omega) (by omega), br_dec.2 ⟨fun _ => equalGate_same (by omega) (by omega) (by omega) (beq_t rfl), fun h => ?_⟩⟩))))
    have h1 := f.fit (by omega)
    have h2 := f.full
    have h3 := f.keys
    rw [List.length_append] at h2 h3
    exact yes v.1 ⟨inR (by omega) (by omega), br_ye (by omega) ⟨inR (by omega) (by omega), yes v.1 (beq_t (by omega))⟩⟩
  · exact nay v (nay v (equalGate_same (by simp) (by simp) (by simp) (br_nt (br_same' (br_yd (by omega) (equalGate_same (by simp) (by simp) (by simp) rfl))))))
end Go.Ev
