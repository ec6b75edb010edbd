/- What the evaluator gives for these functions: their contracts. No statement is proved here. -/
import Derived.Test.YtaajnkggomlppaeFnRunGateBoundE0
namespace Go.Ev
set_option linter.unusedVariables false
set_option maxRecDepth 100000
open Go Go.Proofs
theorem g_laws_FnRunGateBound (code0 : List Int) (kk : AV → List A1 → Prop) :
    ev TT cs_laws_FnRunGateBound 73 an_laws_FnRunGateBound (Try.f11.body.getD .skip) (st0 con_laws_FnRunGateBound [.c (.ro .u8 code0)]) (fin TT con_laws_FnRunGateBound Try.f11.results.toList [.c .sc] [.c (.ro .u8 code0)] kk) = G_laws_FnRunGateBound code0 (fun r0 => kk (.one (.c (.v (.bool r0)))) []) := by kernel_rfl
theorem e_laws_FnRunGateBound (code0 : List Int) (kk : AV → List A1 → Prop) :
    ev TT cs_laws_FnRunGateBound 73 an_laws_FnRunGateBound (Try.f11.body.getD .skip) (st0 con_laws_FnRunGateBound [.c (.ro .u8 code0)]) (fin TT con_laws_FnRunGateBound Try.f11.results.toList [.c .sc] [.c (.ro .u8 code0)] kk) = S_laws_FnRunGateBound code0 (fun r0 => kk (.one (.c (.v (.bool r0)))) []) := by
  rw [g_laws_FnRunGateBound]
  rfl
theorem clok_laws_FnRunGateBound : ConOK Try.prog cl_laws_FnRunGateBound := consCons h_laws_equalGate ⟨Try.f24, Try.func24, by kernel_rfl, ne_of_beq (by kernel_rfl)⟩ (consCons h_impl_ValidGate ⟨Try.f25, Try.func25, by kernel_rfl, ne_of_beq (by kernel_rfl)⟩ (consCons h_spec_DrawRunGate ⟨Try.f31, Try.func31, by kernel_rfl, ne_of_beq (by kernel_rfl)⟩ (consCons h_impl_RunGate ⟨Try.f32, Try.func32, by kernel_rfl, ne_of_beq (by kernel_rfl)⟩ (consCons h_spec_RunGate ⟨Try.f33, Try.func33, by kernel_rfl, ne_of_beq (by kernel_rfl)⟩ (consCons h_impl_NewKeys ⟨Try.f34, Try.func34, by kernel_rfl, ne_of_beq (by kernel_rfl)⟩ (consNil))))))
theorem cok_laws_FnRunGateBound : ConsOK Try.prog 73 cs_laws_FnRunGateBound := ⟨clok_laws_FnRunGateBound, inlNil, ovNil⟩
theorem i_laws_FnRunGateBound {vs : List A1} {kk : AV → List A1 → Prop} {motive : List A1 → Prop} (h : con_laws_FnRunGateBound.F vs kk) (H : ∀ (code0 : List Int), F_laws_FnRunGateBound code0 (fun r0 => kk (.one (.c (.v (.bool r0)))) []) → motive [.c (.ro .u8 code0)]) : motive vs := by
  unfold con_laws_FnRunGateBound at h
  dsimp only at h
  split at h
  · exact H _ h
  · exact h.elim
theorem h_laws_FnRunGateBound : Holds Try.prog 11 con_laws_FnRunGateBound := by
  refine holds_of_ev (rt := [.c .sc]) (T := TT) (Γ := cs_laws_FnRunGateBound) (an := an_laws_FnRunGateBound) (N := 73) (c := Try.f11.body.getD .skip) Try.func11 (by kernel_rfl) Try.ntmps11 (by decide) (by decide) mixed tabOK cok_laws_FnRunGateBound (by kernel_rfl) ?_
  intro vs kk _ hF
  exact i_laws_FnRunGateBound (motive := fun vs => Goes (ev TT cs_laws_FnRunGateBound 73 an_laws_FnRunGateBound (Try.f11.body.getD .skip) (st0 con_laws_FnRunGateBound vs) (fin TT con_laws_FnRunGateBound Try.f11.results.toList [.c .sc] vs kk))) hF (fun code0 hF => goes_of (e_laws_FnRunGateBound code0 kk) (F_laws_FnRunGateBound_S hF))
end Go.Ev
