/- What the evaluator gives for these functions: their contracts. No statement is proved here. -/
import Derived.Test.YtaajnkggomlppadFnRunListsSmallE0
namespace Go.Ev
set_option linter.unusedVariables false
set_option maxRecDepth 100000
open Go Go.Proofs
theorem i_impl_CachedKeys {vs : List A1} {kk : AV → List A1 → Prop} {motive : List A1 → Prop} (h : con_impl_CachedKeys.F vs kk) (H : ∀ (a0Room : Int) (a0Target : Int) (a0Once : List Int) (a0Often : List Int) (a0WasOnce : List Int) (a0WasOften : List Int), F_impl_CachedKeys a0Room a0Target a0Once a0Often a0WasOnce a0WasOften (fun r0 => kk (.one (.c (.ro .int r0))) []) → motive [.agg [.v (.int .i64 a0Room), .v (.int .i64 a0Target), .ro .int a0Once, .ro .int a0Often, .ro .int a0WasOnce, .ro .int a0WasOften]]) : motive vs := by
  unfold con_impl_CachedKeys at h
  dsimp only at h
  split at h
  · exact H _ _ _ _ _ _ h
  · exact h.elim
theorem h_impl_CachedKeys : Holds Try.prog 19 con_impl_CachedKeys := by
  refine holds_of_ev (rt := [.c (.sl .int)]) (T := TT) (Γ := cs_impl_CachedKeys) (an := an_impl_CachedKeys) (N := 12) (c := Try.f19.body.getD .skip) Try.func19 (by kernel_rfl) Try.ntmps19 (by decide) (by decide) mixed tabOK cok_impl_CachedKeys (by kernel_rfl) ?_
  intro vs kk _ hF
  exact i_impl_CachedKeys (motive := fun vs => Goes (ev TT cs_impl_CachedKeys 12 an_impl_CachedKeys (Try.f19.body.getD .skip) (st0 con_impl_CachedKeys vs) (fin TT con_impl_CachedKeys Try.f19.results.toList [.c (.sl .int)] vs kk))) hF (fun a0Room a0Target a0Once a0Often a0WasOnce a0WasOften hF => goes_of (e_impl_CachedKeys a0Room a0Target a0Once a0Often a0WasOnce a0WasOften kk) (F_impl_CachedKeys_S hF))
def con_laws_FnRunListsSmall : Con := ⟨[.rd], true, [.c (.sl .u8)], fun vs k => match vs with
    | [.c (.ro .u8 code0)] => F_laws_FnRunListsSmall code0 (fun r0 => k (.one (.c (.v (.bool r0)))) [])
    | _ => False, false⟩
def cl_laws_FnRunListsSmall : List (FuncId × Con) := [(16, con_laws_equalAdaptive), (19, con_impl_CachedKeys), (20, con_spec_DrawRunLists), (21, con_impl_RunLists), (22, con_spec_RunLists), (23, con_impl_NewKeys)]
def an_laws_FnRunListsSmall : Ann := ⟨[], [], [], []⟩
def cs_laws_FnRunListsSmall : Cons := ⟨cl_laws_FnRunListsSmall, [], 0, [], [], []⟩
def fin_laws_FnRunListsSmall (code0 : List Int) (kk : AV → List A1 → Prop) : Kt := fin TT con_laws_FnRunListsSmall Try.f7.results.toList [.c .sc] [.c (.ro .u8 code0)] kk
theorem g_laws_FnRunListsSmall (code0 : List Int) (kk : AV → List A1 → Prop) :
    ev TT cs_laws_FnRunListsSmall 76 an_laws_FnRunListsSmall (Try.f7.body.getD .skip) (st0 con_laws_FnRunListsSmall [.c (.ro .u8 code0)]) (fin TT con_laws_FnRunListsSmall Try.f7.results.toList [.c .sc] [.c (.ro .u8 code0)] kk) = G_laws_FnRunListsSmall code0 (fun r0 => kk (.one (.c (.v (.bool r0)))) []) := by kernel_rfl
theorem e_laws_FnRunListsSmall (code0 : List Int) (kk : AV → List A1 → Prop) :
    ev TT cs_laws_FnRunListsSmall 76 an_laws_FnRunListsSmall (Try.f7.body.getD .skip) (st0 con_laws_FnRunListsSmall [.c (.ro .u8 code0)]) (fin TT con_laws_FnRunListsSmall Try.f7.results.toList [.c .sc] [.c (.ro .u8 code0)] kk) = S_laws_FnRunListsSmall code0 (fun r0 => kk (.one (.c (.v (.bool r0)))) []) := by
  rw [g_laws_FnRunListsSmall]
  rfl
theorem clok_laws_FnRunListsSmall : ConOK Try.prog cl_laws_FnRunListsSmall := consCons h_laws_equalAdaptive ⟨Try.f16, Try.func16, by kernel_rfl, ne_of_beq (by kernel_rfl)⟩ (consCons h_impl_CachedKeys ⟨Try.f19, Try.func19, by kernel_rfl, ne_of_beq (by kernel_rfl)⟩ (consCons h_spec_DrawRunLists ⟨Try.f20, Try.func20, by kernel_rfl, ne_of_beq (by kernel_rfl)⟩ (consCons h_impl_RunLists ⟨Try.f21, Try.func21, by kernel_rfl, ne_of_beq (by kernel_rfl)⟩ (consCons h_spec_RunLists ⟨Try.f22, Try.func22, by kernel_rfl, ne_of_beq (by kernel_rfl)⟩ (consCons h_impl_NewKeys ⟨Try.f23, Try.func23, by kernel_rfl, ne_of_beq (by kernel_rfl)⟩ (consNil))))))
theorem cok_laws_FnRunListsSmall : ConsOK Try.prog 76 cs_laws_FnRunListsSmall := ⟨clok_laws_FnRunListsSmall, inlNil, ovNil⟩
theorem i_laws_FnRunListsSmall {vs : List A1} {kk : AV → List A1 → Prop} {motive : List A1 → Prop} (h : con_laws_FnRunListsSmall.F vs kk) (H : ∀ (code0 : List Int), F_laws_FnRunListsSmall code0 (fun r0 => kk (.one (.c (.v (.bool r0)))) []) → motive [.c (.ro .u8 code0)]) : motive vs := by
  unfold con_laws_FnRunListsSmall at h
  dsimp only at h
  split at h
  · exact H _ h
  · exact h.elim
theorem h_laws_FnRunListsSmall : Holds Try.prog 7 con_laws_FnRunListsSmall := by
  refine holds_of_ev (rt := [.c .sc]) (T := TT) (Γ := cs_laws_FnRunListsSmall) (an := an_laws_FnRunListsSmall) (N := 76) (c := Try.f7.body.getD .skip) Try.func7 (by kernel_rfl) Try.ntmps7 (by decide) (by decide) mixed tabOK cok_laws_FnRunListsSmall (by kernel_rfl) ?_
  intro vs kk _ hF
  exact i_laws_FnRunListsSmall (motive := fun vs => Goes (ev TT cs_laws_FnRunListsSmall 76 an_laws_FnRunListsSmall (Try.f7.body.getD .skip) (st0 con_laws_FnRunListsSmall vs) (fin TT con_laws_FnRunListsSmall Try.f7.results.toList [.c .sc] vs kk))) hF (fun code0 hF => goes_of (e_laws_FnRunListsSmall code0 kk) (F_laws_FnRunListsSmall_S hF))
end Go.Ev
