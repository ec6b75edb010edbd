/- What the evaluator gives for these functions: their contracts. No statement is proved here. -/
import Derived.Test.YtaajnkggomlppaeFnRunGateSmallE0
namespace Go.Ev
set_option linter.unusedVariables false
set_option maxRecDepth 100000
open Go Go.Proofs
def fin_laws_FnRunGateSmall (code0 : List Int) (kk : AV → List A1 → Prop) : Kt := fin TT con_laws_FnRunGateSmall Try.f8.results.toList [.c .sc] [.c (.ro .u8 code0)] kk
theorem g_laws_FnRunGateSmall (code0 : List Int) (kk : AV → List A1 → Prop) :
    ev TT cs_laws_FnRunGateSmall 81 an_laws_FnRunGateSmall (Try.f8.body.getD .skip) (st0 con_laws_FnRunGateSmall [.c (.ro .u8 code0)]) (fin TT con_laws_FnRunGateSmall Try.f8.results.toList [.c .sc] [.c (.ro .u8 code0)] kk) = G_laws_FnRunGateSmall code0 (fun r0 => kk (.one (.c (.v (.bool r0)))) []) := by kernel_rfl
theorem e_laws_FnRunGateSmall (code0 : List Int) (kk : AV → List A1 → Prop) :
    ev TT cs_laws_FnRunGateSmall 81 an_laws_FnRunGateSmall (Try.f8.body.getD .skip) (st0 con_laws_FnRunGateSmall [.c (.ro .u8 code0)]) (fin TT con_laws_FnRunGateSmall Try.f8.results.toList [.c .sc] [.c (.ro .u8 code0)] kk) = S_laws_FnRunGateSmall code0 (fun r0 => kk (.one (.c (.v (.bool r0)))) []) := by
  rw [g_laws_FnRunGateSmall]
  rw [G_laws_FnRunGateSmall_eq]
  rfl
theorem clok_laws_FnRunGateSmall : ConOK Try.prog cl_laws_FnRunGateSmall := consCons h_laws_equalGate ⟨Try.f24, Try.func24, by kernel_rfl, ne_of_beq (by kernel_rfl)⟩ (consCons h_spec_DrawRunGate ⟨Try.f31, Try.func31, by kernel_rfl, ne_of_beq (by kernel_rfl)⟩ (consCons h_impl_RunGate ⟨Try.f32, Try.func32, by kernel_rfl, ne_of_beq (by kernel_rfl)⟩ (consCons h_spec_RunGate ⟨Try.f33, Try.func33, by kernel_rfl, ne_of_beq (by kernel_rfl)⟩ (consCons h_impl_NewKeys ⟨Try.f34, Try.func34, by kernel_rfl, ne_of_beq (by kernel_rfl)⟩ (consNil)))))
theorem cok_laws_FnRunGateSmall : ConsOK Try.prog 81 cs_laws_FnRunGateSmall := ⟨clok_laws_FnRunGateSmall, inlNil, ovNil⟩
theorem i_laws_FnRunGateSmall {vs : List A1} {kk : AV → List A1 → Prop} {motive : List A1 → Prop} (h : con_laws_FnRunGateSmall.F vs kk) (H : ∀ (code0 : List Int), F_laws_FnRunGateSmall code0 (fun r0 => kk (.one (.c (.v (.bool r0)))) []) → motive [.c (.ro .u8 code0)]) : motive vs := by
  unfold con_laws_FnRunGateSmall at h
  dsimp only at h
  split at h
  · exact H _ h
  · exact h.elim
theorem h_laws_FnRunGateSmall : Holds Try.prog 8 con_laws_FnRunGateSmall := by
  refine holds_of_ev (rt := [.c .sc]) (T := TT) (Γ := cs_laws_FnRunGateSmall) (an := an_laws_FnRunGateSmall) (N := 81) (c := Try.f8.body.getD .skip) Try.func8 (by kernel_rfl) Try.ntmps8 (by decide) (by decide) mixed tabOK cok_laws_FnRunGateSmall (by kernel_rfl) ?_
  intro vs kk _ hF
  exact i_laws_FnRunGateSmall (motive := fun vs => Goes (ev TT cs_laws_FnRunGateSmall 81 an_laws_FnRunGateSmall (Try.f8.body.getD .skip) (st0 con_laws_FnRunGateSmall vs) (fin TT con_laws_FnRunGateSmall Try.f8.results.toList [.c .sc] vs kk))) hF (fun code0 hF => goes_of (e_laws_FnRunGateSmall code0 kk) (F_laws_FnRunGateSmall_S hF))
end Go.Ev
