/- What the evaluator gives for these functions: their contracts. No statement is proved here. -/
import Derived.Test.YtacohagnclnkdadFnExactSmoothRatioP0
import Derived.Test.YtacohagnclnkdadTt
namespace Go.Ev
set_option linter.unusedVariables false
set_option linter.unusedSimpArgs false
set_option maxRecDepth 100000
open Go Go.Proofs
def con_spec_inRange : Con := ⟨[.rd, .rd, .rd], true, [.c (.sc), .c (.sc), .c (.sc)], fun vs k => match vs with
    | [.c (.v (.int .i64 n0)), .c (.v (.int .i64 low1)), .c (.v (.int .i64 high2))] => F_spec_inRange n0 low1 high2 (fun r0 => k (.one (.c (.v (.bool r0)))) [])
    | _ => False, false⟩
def cl_spec_inRange : List (FuncId × Con) := []
def an_spec_inRange : Ann := ⟨[], [], [], []⟩
def cs_spec_inRange : Cons := ⟨cl_spec_inRange, [], 0, [], [], []⟩
def fin_spec_inRange (n0 : Int) (low1 : Int) (high2 : Int) (kk : AV → List A1 → Prop) : Kt := fin TT con_spec_inRange Try.f29.results.toList [.c .sc] [.c (.v (.int .i64 n0)), .c (.v (.int .i64 low1)), .c (.v (.int .i64 high2))] kk
theorem g_spec_inRange (n0 : Int) (low1 : Int) (high2 : Int) (kk : AV → List A1 → Prop) :
    ev TT cs_spec_inRange 15 an_spec_inRange (Try.f29.body.getD .skip) (st0 con_spec_inRange [.c (.v (.int .i64 n0)), .c (.v (.int .i64 low1)), .c (.v (.int .i64 high2))]) (fin TT con_spec_inRange Try.f29.results.toList [.c .sc] [.c (.v (.int .i64 n0)), .c (.v (.int .i64 low1)), .c (.v (.int .i64 high2))] kk) = G_spec_inRange n0 low1 high2 (fun r0 => kk (.one (.c (.v (.bool r0)))) []) := by kernel_rfl
theorem e_spec_inRange (n0 : Int) (low1 : Int) (high2 : Int) (kk : AV → List A1 → Prop) :
    ev TT cs_spec_inRange 15 an_spec_inRange (Try.f29.body.getD .skip) (st0 con_spec_inRange [.c (.v (.int .i64 n0)), .c (.v (.int .i64 low1)), .c (.v (.int .i64 high2))]) (fin TT con_spec_inRange Try.f29.results.toList [.c .sc] [.c (.v (.int .i64 n0)), .c (.v (.int .i64 low1)), .c (.v (.int .i64 high2))] kk) = S_spec_inRange n0 low1 high2 (fun r0 => kk (.one (.c (.v (.bool r0)))) []) := by
  rw [g_spec_inRange]
  rfl
theorem clok_spec_inRange : ConOK Try.prog cl_spec_inRange := consNil
theorem cok_spec_inRange : ConsOK Try.prog 15 cs_spec_inRange := ⟨clok_spec_inRange, inlNil, ovNil⟩
theorem i_spec_inRange {vs : List A1} {kk : AV → List A1 → Prop} {motive : List A1 → Prop} (h : con_spec_inRange.F vs kk) (H : ∀ (n0 : Int) (low1 : Int) (high2 : Int), F_spec_inRange n0 low1 high2 (fun r0 => kk (.one (.c (.v (.bool r0)))) []) → motive [.c (.v (.int .i64 n0)), .c (.v (.int .i64 low1)), .c (.v (.int .i64 high2))]) : motive vs := by
  unfold con_spec_inRange at h
  dsimp only at h
  split at h
  · exact H _ _ _ h
  · exact h.elim
theorem h_spec_inRange : Holds Try.prog 29 con_spec_inRange := by
  refine holds_of_ev (rt := [.c .sc]) (T := TT) (Γ := cs_spec_inRange) (an := an_spec_inRange) (N := 15) (c := Try.f29.body.getD .skip) Try.func29 (by kernel_rfl) Try.ntmps29 (by decide) (by decide) mixed tabOK cok_spec_inRange (by kernel_rfl) ?_
  intro vs kk _ hF
  exact i_spec_inRange (motive := fun vs => Goes (ev TT cs_spec_inRange 15 an_spec_inRange (Try.f29.body.getD .skip) (st0 con_spec_inRange vs) (fin TT con_spec_inRange Try.f29.results.toList [.c .sc] vs kk))) hF (fun n0 low1 high2 hF => goes_of (e_spec_inRange n0 low1 high2 kk) (F_spec_inRange_S hF))
def con_spec_SmoothRatio : Con := ⟨[.rd, .rd], true, [.c (.sc), .c (.sc)], fun vs k => match vs with
    | [.c (.v (.int .i64 old0)), .c (.v (.int .i64 now1))] => F_spec_SmoothRatio old0 now1 (fun r0 => k (.one (.c (.v (.int .i64 r0)))) [])
    | _ => False, false⟩
def cl_spec_SmoothRatio : List (FuncId × Con) := [(29, con_spec_inRange)]
def an_spec_SmoothRatio : Ann := ⟨[], [], [], []⟩
def cs_spec_SmoothRatio : Cons := ⟨cl_spec_SmoothRatio, [], 0, [], [], []⟩
def fin_spec_SmoothRatio (old0 : Int) (now1 : Int) (kk : AV → List A1 → Prop) : Kt := fin TT con_spec_SmoothRatio Try.f8.results.toList [.c .sc] [.c (.v (.int .i64 old0)), .c (.v (.int .i64 now1))] kk
theorem g_spec_SmoothRatio (old0 : Int) (now1 : Int) (kk : AV → List A1 → Prop) :
    ev TT cs_spec_SmoothRatio 19 an_spec_SmoothRatio (Try.f8.body.getD .skip) (st0 con_spec_SmoothRatio [.c (.v (.int .i64 old0)), .c (.v (.int .i64 now1))]) (fin TT con_spec_SmoothRatio Try.f8.results.toList [.c .sc] [.c (.v (.int .i64 old0)), .c (.v (.int .i64 now1))] kk) = G_spec_SmoothRatio old0 now1 (fun r0 => kk (.one (.c (.v (.int .i64 r0)))) []) := by kernel_rfl
theorem e_spec_SmoothRatio (old0 : Int) (now1 : Int) (kk : AV → List A1 → Prop) :
    ev TT cs_spec_SmoothRatio 19 an_spec_SmoothRatio (Try.f8.body.getD .skip) (st0 con_spec_SmoothRatio [.c (.v (.int .i64 old0)), .c (.v (.int .i64 now1))]) (fin TT con_spec_SmoothRatio Try.f8.results.toList [.c .sc] [.c (.v (.int .i64 old0)), .c (.v (.int .i64 now1))] kk) = S_spec_SmoothRatio old0 now1 (fun r0 => kk (.one (.c (.v (.int .i64 r0)))) []) := by
  rw [g_spec_SmoothRatio]
  rfl
theorem clok_spec_SmoothRatio : ConOK Try.prog cl_spec_SmoothRatio := consCons h_spec_inRange ⟨Try.f29, Try.func29, by kernel_rfl, ne_of_beq (by kernel_rfl)⟩ (consNil)
theorem cok_spec_SmoothRatio : ConsOK Try.prog 19 cs_spec_SmoothRatio := ⟨clok_spec_SmoothRatio, inlNil, ovNil⟩
theorem i_spec_SmoothRatio {vs : List A1} {kk : AV → List A1 → Prop} {motive : List A1 → Prop} (h : con_spec_SmoothRatio.F vs kk) (H : ∀ (old0 : Int) (now1 : Int), F_spec_SmoothRatio old0 now1 (fun r0 => kk (.one (.c (.v (.int .i64 r0)))) []) → motive [.c (.v (.int .i64 old0)), .c (.v (.int .i64 now1))]) : motive vs := by
  unfold con_spec_SmoothRatio at h
  dsimp only at h
  split at h
  · exact H _ _ h
  · exact h.elim
theorem h_spec_SmoothRatio : Holds Try.prog 8 con_spec_SmoothRatio := by
  refine holds_of_ev (rt := [.c .sc]) (T := TT) (Γ := cs_spec_SmoothRatio) (an := an_spec_SmoothRatio) (N := 19) (c := Try.f8.body.getD .skip) Try.func8 (by kernel_rfl) Try.ntmps8 (by decide) (by decide) mixed tabOK cok_spec_SmoothRatio (by kernel_rfl) ?_
  intro vs kk _ hF
  exact i_spec_SmoothRatio (motive := fun vs => Goes (ev TT cs_spec_SmoothRatio 19 an_spec_SmoothRatio (Try.f8.body.getD .skip) (st0 con_spec_SmoothRatio vs) (fin TT con_spec_SmoothRatio Try.f8.results.toList [.c .sc] vs kk))) hF (fun old0 now1 hF => goes_of (e_spec_SmoothRatio old0 now1 kk) (F_spec_SmoothRatio_S hF))
def con_impl_validRatio : Con := ⟨[.rd], true, [.c (.sc)], fun vs k => match vs with
    | [.c (.v (.int .i64 ratio0))] => F_impl_validRatio ratio0 (fun r0 => k (.one (.c (.v (.bool r0)))) [])
    | _ => False, false⟩
def cl_impl_validRatio : List (FuncId × Con) := []
def an_impl_validRatio : Ann := ⟨[], [], [], []⟩
def cs_impl_validRatio : Cons := ⟨cl_impl_validRatio, [], 0, [], [], []⟩
def fin_impl_validRatio (ratio0 : Int) (kk : AV → List A1 → Prop) : Kt := fin TT con_impl_validRatio Try.f30.results.toList [.c .sc] [.c (.v (.int .i64 ratio0))] kk
theorem g_impl_validRatio (ratio0 : Int) (kk : AV → List A1 → Prop) :
    ev TT cs_impl_validRatio 9 an_impl_validRatio (Try.f30.body.getD .skip) (st0 con_impl_validRatio [.c (.v (.int .i64 ratio0))]) (fin TT con_impl_validRatio Try.f30.results.toList [.c .sc] [.c (.v (.int .i64 ratio0))] kk) = G_impl_validRatio ratio0 (fun r0 => kk (.one (.c (.v (.bool r0)))) []) := by kernel_rfl
theorem e_impl_validRatio (ratio0 : Int) (kk : AV → List A1 → Prop) :
    ev TT cs_impl_validRatio 9 an_impl_validRatio (Try.f30.body.getD .skip) (st0 con_impl_validRatio [.c (.v (.int .i64 ratio0))]) (fin TT con_impl_validRatio Try.f30.results.toList [.c .sc] [.c (.v (.int .i64 ratio0))] kk) = S_impl_validRatio ratio0 (fun r0 => kk (.one (.c (.v (.bool r0)))) []) := by
  rw [g_impl_validRatio]
  rfl
theorem clok_impl_validRatio : ConOK Try.prog cl_impl_validRatio := consNil
theorem cok_impl_validRatio : ConsOK Try.prog 9 cs_impl_validRatio := ⟨clok_impl_validRatio, inlNil, ovNil⟩
theorem i_impl_validRatio {vs : List A1} {kk : AV → List A1 → Prop} {motive : List A1 → Prop} (h : con_impl_validRatio.F vs kk) (H : ∀ (ratio0 : Int), F_impl_validRatio ratio0 (fun r0 => kk (.one (.c (.v (.bool r0)))) []) → motive [.c (.v (.int .i64 ratio0))]) : motive vs := by
  unfold con_impl_validRatio at h
  dsimp only at h
  split at h
  · exact H _ h
  · exact h.elim
theorem h_impl_validRatio : Holds Try.prog 30 con_impl_validRatio := by
  refine holds_of_ev (rt := [.c .sc]) (T := TT) (Γ := cs_impl_validRatio) (an := an_impl_validRatio) (N := 9) (c := Try.f30.body.getD .skip) Try.func30 (by kernel_rfl) Try.ntmps30 (by decide) (by decide) mixed tabOK cok_impl_validRatio (by kernel_rfl) ?_
  intro vs kk _ hF
  exact i_impl_validRatio (motive := fun vs => Goes (ev TT cs_impl_validRatio 9 an_impl_validRatio (Try.f30.body.getD .skip) (st0 con_impl_validRatio vs) (fin TT con_impl_validRatio Try.f30.results.toList [.c .sc] vs kk))) hF (fun ratio0 hF => goes_of (e_impl_validRatio ratio0 kk) (F_impl_validRatio_S hF))
def con_impl_SmoothRatio : Con := ⟨[.rd, .rd], true, [.c (.sc), .c (.sc)], fun vs k => match vs with
    | [.c (.v (.int .i64 old0)), .c (.v (.int .i64 now1))] => F_impl_SmoothRatio old0 now1 (fun r0 => k (.one (.c (.v (.int .i64 r0)))) [])
    | _ => False, false⟩
def cl_impl_SmoothRatio : List (FuncId × Con) := [(30, con_impl_validRatio)]
def an_impl_SmoothRatio : Ann := ⟨[], [], [], []⟩
def cs_impl_SmoothRatio : Cons := ⟨cl_impl_SmoothRatio, [], 0, [], [], []⟩
def fin_impl_SmoothRatio (old0 : Int) (now1 : Int) (kk : AV → List A1 → Prop) : Kt := fin TT con_impl_SmoothRatio Try.f9.results.toList [.c .sc] [.c (.v (.int .i64 old0)), .c (.v (.int .i64 now1))] kk
theorem g_impl_SmoothRatio (old0 : Int) (now1 : Int) (kk : AV → List A1 → Prop) :
    ev TT cs_impl_SmoothRatio 19 an_impl_SmoothRatio (Try.f9.body.getD .skip) (st0 con_impl_SmoothRatio [.c (.v (.int .i64 old0)), .c (.v (.int .i64 now1))]) (fin TT con_impl_SmoothRatio Try.f9.results.toList [.c .sc] [.c (.v (.int .i64 old0)), .c (.v (.int .i64 now1))] kk) = G_impl_SmoothRatio old0 now1 (fun r0 => kk (.one (.c (.v (.int .i64 r0)))) []) := by kernel_rfl
theorem e_impl_SmoothRatio (old0 : Int) (now1 : Int) (kk : AV → List A1 → Prop) :
    ev TT cs_impl_SmoothRatio 19 an_impl_SmoothRatio (Try.f9.body.getD .skip) (st0 con_impl_SmoothRatio [.c (.v (.int .i64 old0)), .c (.v (.int .i64 now1))]) (fin TT con_impl_SmoothRatio Try.f9.results.toList [.c .sc] [.c (.v (.int .i64 old0)), .c (.v (.int .i64 now1))] kk) = S_impl_SmoothRatio old0 now1 (fun r0 => kk (.one (.c (.v (.int .i64 r0)))) []) := by
  rw [g_impl_SmoothRatio]
  rfl
theorem clok_impl_SmoothRatio : ConOK Try.prog cl_impl_SmoothRatio := consCons h_impl_validRatio ⟨Try.f30, Try.func30, by kernel_rfl, ne_of_beq (by kernel_rfl)⟩ (consNil)
theorem cok_impl_SmoothRatio : ConsOK Try.prog 19 cs_impl_SmoothRatio := ⟨clok_impl_SmoothRatio, inlNil, ovNil⟩
theorem i_impl_SmoothRatio {vs : List A1} {kk : AV → List A1 → Prop} {motive : List A1 → Prop} (h : con_impl_SmoothRatio.F vs kk) (H : ∀ (old0 : Int) (now1 : Int), F_impl_SmoothRatio old0 now1 (fun r0 => kk (.one (.c (.v (.int .i64 r0)))) []) → motive [.c (.v (.int .i64 old0)), .c (.v (.int .i64 now1))]) : motive vs := by
  unfold con_impl_SmoothRatio at h
  dsimp only at h
  split at h
  · exact H _ _ h
  · exact h.elim
theorem h_impl_SmoothRatio : Holds Try.prog 9 con_impl_SmoothRatio := by
  refine holds_of_ev (rt := [.c .sc]) (T := TT) (Γ := cs_impl_SmoothRatio) (an := an_impl_SmoothRatio) (N := 19) (c := Try.f9.body.getD .skip) Try.func9 (by kernel_rfl) Try.ntmps9 (by decide) (by decide) mixed tabOK cok_impl_SmoothRatio (by kernel_rfl) ?_
  intro vs kk _ hF
  exact i_impl_SmoothRatio (motive := fun vs => Goes (ev TT cs_impl_SmoothRatio 19 an_impl_SmoothRatio (Try.f9.body.getD .skip) (st0 con_impl_SmoothRatio vs) (fin TT con_impl_SmoothRatio Try.f9.results.toList [.c .sc] vs kk))) hF (fun old0 now1 hF => goes_of (e_impl_SmoothRatio old0 now1 kk) (F_impl_SmoothRatio_S hF))
def con_laws_FnExactSmoothRatio : Con := ⟨[.rd, .rd], true, [.c (.sc), .c (.sc)], fun vs k => match vs with
    | [.c (.v (.int .i64 aOld0)), .c (.v (.int .i64 aNow1))] => F_laws_FnExactSmoothRatio aOld0 aNow1 (fun r0 => k (.one (.c (.v (.bool r0)))) [])
    | _ => False, false⟩
def cl_laws_FnExactSmoothRatio : List (FuncId × Con) := [(8, con_spec_SmoothRatio), (9, con_impl_SmoothRatio)]
def an_laws_FnExactSmoothRatio : Ann := ⟨[], [], [], []⟩
def cs_laws_FnExactSmoothRatio : Cons := ⟨cl_laws_FnExactSmoothRatio, [], 0, [], [], []⟩
def fin_laws_FnExactSmoothRatio (aOld0 : Int) (aNow1 : Int) (kk : AV → List A1 → Prop) : Kt := fin TT con_laws_FnExactSmoothRatio Try.f3.results.toList [.c .sc] [.c (.v (.int .i64 aOld0)), .c (.v (.int .i64 aNow1))] kk
theorem g_laws_FnExactSmoothRatio (aOld0 : Int) (aNow1 : Int) (kk : AV → List A1 → Prop) :
    ev TT cs_laws_FnExactSmoothRatio 16 an_laws_FnExactSmoothRatio (Try.f3.body.getD .skip) (st0 con_laws_FnExactSmoothRatio [.c (.v (.int .i64 aOld0)), .c (.v (.int .i64 aNow1))]) (fin TT con_laws_FnExactSmoothRatio Try.f3.results.toList [.c .sc] [.c (.v (.int .i64 aOld0)), .c (.v (.int .i64 aNow1))] kk) = G_laws_FnExactSmoothRatio aOld0 aNow1 (fun r0 => kk (.one (.c (.v (.bool r0)))) []) := by kernel_rfl
theorem e_laws_FnExactSmoothRatio (aOld0 : Int) (aNow1 : Int) (kk : AV → List A1 → Prop) :
    ev TT cs_laws_FnExactSmoothRatio 16 an_laws_FnExactSmoothRatio (Try.f3.body.getD .skip) (st0 con_laws_FnExactSmoothRatio [.c (.v (.int .i64 aOld0)), .c (.v (.int .i64 aNow1))]) (fin TT con_laws_FnExactSmoothRatio Try.f3.results.toList [.c .sc] [.c (.v (.int .i64 aOld0)), .c (.v (.int .i64 aNow1))] kk) = S_laws_FnExactSmoothRatio aOld0 aNow1 (fun r0 => kk (.one (.c (.v (.bool r0)))) []) := by
  rw [g_laws_FnExactSmoothRatio]
  rfl
theorem clok_laws_FnExactSmoothRatio : ConOK Try.prog cl_laws_FnExactSmoothRatio := consCons h_spec_SmoothRatio ⟨Try.f8, Try.func8, by kernel_rfl, ne_of_beq (by kernel_rfl)⟩ (consCons h_impl_SmoothRatio ⟨Try.f9, Try.func9, by kernel_rfl, ne_of_beq (by kernel_rfl)⟩ (consNil))
theorem cok_laws_FnExactSmoothRatio : ConsOK Try.prog 16 cs_laws_FnExactSmoothRatio := ⟨clok_laws_FnExactSmoothRatio, inlNil, ovNil⟩
theorem i_laws_FnExactSmoothRatio {vs : List A1} {kk : AV → List A1 → Prop} {motive : List A1 → Prop} (h : con_laws_FnExactSmoothRatio.F vs kk) (H : ∀ (aOld0 : Int) (aNow1 : Int), F_laws_FnExactSmoothRatio aOld0 aNow1 (fun r0 => kk (.one (.c (.v (.bool r0)))) []) → motive [.c (.v (.int .i64 aOld0)), .c (.v (.int .i64 aNow1))]) : motive vs := by
  unfold con_laws_FnExactSmoothRatio at h
  dsimp only at h
  split at h
  · exact H _ _ h
  · exact h.elim
theorem h_laws_FnExactSmoothRatio : Holds Try.prog 3 con_laws_FnExactSmoothRatio := by
  refine holds_of_ev (rt := [.c .sc]) (T := TT) (Γ := cs_laws_FnExactSmoothRatio) (an := an_laws_FnExactSmoothRatio) (N := 16) (c := Try.f3.body.getD .skip) Try.func3 (by kernel_rfl) Try.ntmps3 (by decide) (by decide) mixed tabOK cok_laws_FnExactSmoothRatio (by kernel_rfl) ?_
  intro vs kk _ hF
  exact i_laws_FnExactSmoothRatio (motive := fun vs => Goes (ev TT cs_laws_FnExactSmoothRatio 16 an_laws_FnExactSmoothRatio (Try.f3.body.getD .skip) (st0 con_laws_FnExactSmoothRatio vs) (fin TT con_laws_FnExactSmoothRatio Try.f3.results.toList [.c .sc] vs kk))) hF (fun aOld0 aNow1 hF => goes_of (e_laws_FnExactSmoothRatio aOld0 aNow1 kk) (F_laws_FnExactSmoothRatio_S hF))
end Go.Ev
