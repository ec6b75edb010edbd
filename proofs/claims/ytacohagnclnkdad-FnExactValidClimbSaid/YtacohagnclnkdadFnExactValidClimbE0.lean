/- What the evaluator gives for these functions: their contracts. No statement is proved here. -/
import Derived.Test.YtacohagnclnkdadFnExactValidClimbP0
import Derived.Test.YtacohagnclnkdadTt
namespace Go.Ev
set_option linter.unusedVariables false
set_option linter.unusedSimpArgs false
set_option maxRecDepth 100000
open Go Go.Proofs
def con_laws_toClimb : Con := ⟨[.rd], true, [.agg [.sc, .sc, .sc]], fun vs k => match vs with
    | [.agg [.v (.int .i64 a0At), .v (.int .i64 a0Step), .v (.int .i64 a0Ratio)]] => F_laws_toClimb a0At a0Step a0Ratio (fun r0 r1 r2 => k (.one (.agg [.v (.int .i64 r0), .v (.int .i64 r1), .v (.int .i64 r2)])) [])
    | _ => False, false⟩
def cl_laws_toClimb : List (FuncId × Con) := []
def an_laws_toClimb : Ann := ⟨[], [], [], []⟩
def cs_laws_toClimb : Cons := ⟨cl_laws_toClimb, [], 0, [], [], []⟩
def fin_laws_toClimb (a0At : Int) (a0Step : Int) (a0Ratio : Int) (kk : AV → List A1 → Prop) : Kt := fin TT con_laws_toClimb Try.f11.results.toList [.agg [.sc, .sc, .sc]] [.agg [.v (.int .i64 a0At), .v (.int .i64 a0Step), .v (.int .i64 a0Ratio)]] kk
theorem g_laws_toClimb (a0At : Int) (a0Step : Int) (a0Ratio : Int) (kk : AV → List A1 → Prop) :
    ev TT cs_laws_toClimb 14 an_laws_toClimb (Try.f11.body.getD .skip) (st0 con_laws_toClimb [.agg [.v (.int .i64 a0At), .v (.int .i64 a0Step), .v (.int .i64 a0Ratio)]]) (fin TT con_laws_toClimb Try.f11.results.toList [.agg [.sc, .sc, .sc]] [.agg [.v (.int .i64 a0At), .v (.int .i64 a0Step), .v (.int .i64 a0Ratio)]] kk) = G_laws_toClimb a0At a0Step a0Ratio (fun r0 r1 r2 => kk (.one (.agg [.v (.int .i64 r0), .v (.int .i64 r1), .v (.int .i64 r2)])) []) := by kernel_rfl
theorem e_laws_toClimb (a0At : Int) (a0Step : Int) (a0Ratio : Int) (kk : AV → List A1 → Prop) :
    ev TT cs_laws_toClimb 14 an_laws_toClimb (Try.f11.body.getD .skip) (st0 con_laws_toClimb [.agg [.v (.int .i64 a0At), .v (.int .i64 a0Step), .v (.int .i64 a0Ratio)]]) (fin TT con_laws_toClimb Try.f11.results.toList [.agg [.sc, .sc, .sc]] [.agg [.v (.int .i64 a0At), .v (.int .i64 a0Step), .v (.int .i64 a0Ratio)]] kk) = S_laws_toClimb a0At a0Step a0Ratio (fun r0 r1 r2 => kk (.one (.agg [.v (.int .i64 r0), .v (.int .i64 r1), .v (.int .i64 r2)])) []) := by
  rw [g_laws_toClimb]
  rfl
theorem clok_laws_toClimb : ConOK Try.prog cl_laws_toClimb := consNil
theorem cok_laws_toClimb : ConsOK Try.prog 14 cs_laws_toClimb := ⟨clok_laws_toClimb, inlNil, ovNil⟩
theorem i_laws_toClimb {vs : List A1} {kk : AV → List A1 → Prop} {motive : List A1 → Prop} (h : con_laws_toClimb.F vs kk) (H : ∀ (a0At : Int) (a0Step : Int) (a0Ratio : Int), F_laws_toClimb a0At a0Step a0Ratio (fun r0 r1 r2 => kk (.one (.agg [.v (.int .i64 r0), .v (.int .i64 r1), .v (.int .i64 r2)])) []) → motive [.agg [.v (.int .i64 a0At), .v (.int .i64 a0Step), .v (.int .i64 a0Ratio)]]) : motive vs := by
  unfold con_laws_toClimb at h
  dsimp only at h
  split at h
  · exact H _ _ _ h
  · exact h.elim
theorem h_laws_toClimb : Holds Try.prog 11 con_laws_toClimb := by
  refine holds_of_ev (rt := [.agg [.sc, .sc, .sc]]) (T := TT) (Γ := cs_laws_toClimb) (an := an_laws_toClimb) (N := 14) (c := Try.f11.body.getD .skip) Try.func11 (by kernel_rfl) Try.ntmps11 (by decide) (by decide) mixed tabOK cok_laws_toClimb (by kernel_rfl) ?_
  intro vs kk _ hF
  exact i_laws_toClimb (motive := fun vs => Goes (ev TT cs_laws_toClimb 14 an_laws_toClimb (Try.f11.body.getD .skip) (st0 con_laws_toClimb vs) (fin TT con_laws_toClimb Try.f11.results.toList [.agg [.sc, .sc, .sc]] vs kk))) hF (fun a0At a0Step a0Ratio hF => goes_of (e_laws_toClimb a0At a0Step a0Ratio kk) (F_laws_toClimb_S hF))
def con_spec_inRange : Con := ⟨[.rd, .rd, .rd], true, [.c (.sc), .c (.sc), .c (.sc)], fun vs k => match vs with
    | [.c (.v (.int .i64 n0)), .c (.v (.int .i64 low1)), .c (.v (.int .i64 high2))] => F_spec_inRange n0 low1 high2 (fun r0 => k (.one (.c (.v (.bool r0)))) [])
    | _ => False, false⟩
def cl_spec_inRange : List (FuncId × Con) := []
def an_spec_inRange : Ann := ⟨[], [], [], []⟩
def cs_spec_inRange : Cons := ⟨cl_spec_inRange, [], 0, [], [], []⟩
def fin_spec_inRange (n0 : Int) (low1 : Int) (high2 : Int) (kk : AV → List A1 → Prop) : Kt := fin TT con_spec_inRange Try.f29.results.toList [.c .sc] [.c (.v (.int .i64 n0)), .c (.v (.int .i64 low1)), .c (.v (.int .i64 high2))] kk
theorem g_spec_inRange (n0 : Int) (low1 : Int) (high2 : Int) (kk : AV → List A1 → Prop) :
    ev TT cs_spec_inRange 15 an_spec_inRange (Try.f29.body.getD .skip) (st0 con_spec_inRange [.c (.v (.int .i64 n0)), .c (.v (.int .i64 low1)), .c (.v (.int .i64 high2))]) (fin TT con_spec_inRange Try.f29.results.toList [.c .sc] [.c (.v (.int .i64 n0)), .c (.v (.int .i64 low1)), .c (.v (.int .i64 high2))] kk) = G_spec_inRange n0 low1 high2 (fun r0 => kk (.one (.c (.v (.bool r0)))) []) := by kernel_rfl
theorem e_spec_inRange (n0 : Int) (low1 : Int) (high2 : Int) (kk : AV → List A1 → Prop) :
    ev TT cs_spec_inRange 15 an_spec_inRange (Try.f29.body.getD .skip) (st0 con_spec_inRange [.c (.v (.int .i64 n0)), .c (.v (.int .i64 low1)), .c (.v (.int .i64 high2))]) (fin TT con_spec_inRange Try.f29.results.toList [.c .sc] [.c (.v (.int .i64 n0)), .c (.v (.int .i64 low1)), .c (.v (.int .i64 high2))] kk) = S_spec_inRange n0 low1 high2 (fun r0 => kk (.one (.c (.v (.bool r0)))) []) := by
  rw [g_spec_inRange]
  rfl
theorem clok_spec_inRange : ConOK Try.prog cl_spec_inRange := consNil
theorem cok_spec_inRange : ConsOK Try.prog 15 cs_spec_inRange := ⟨clok_spec_inRange, inlNil, ovNil⟩
theorem i_spec_inRange {vs : List A1} {kk : AV → List A1 → Prop} {motive : List A1 → Prop} (h : con_spec_inRange.F vs kk) (H : ∀ (n0 : Int) (low1 : Int) (high2 : Int), F_spec_inRange n0 low1 high2 (fun r0 => kk (.one (.c (.v (.bool r0)))) []) → motive [.c (.v (.int .i64 n0)), .c (.v (.int .i64 low1)), .c (.v (.int .i64 high2))]) : motive vs := by
  unfold con_spec_inRange at h
  dsimp only at h
  split at h
  · exact H _ _ _ h
  · exact h.elim
theorem h_spec_inRange : Holds Try.prog 29 con_spec_inRange := by
  refine holds_of_ev (rt := [.c .sc]) (T := TT) (Γ := cs_spec_inRange) (an := an_spec_inRange) (N := 15) (c := Try.f29.body.getD .skip) Try.func29 (by kernel_rfl) Try.ntmps29 (by decide) (by decide) mixed tabOK cok_spec_inRange (by kernel_rfl) ?_
  intro vs kk _ hF
  exact i_spec_inRange (motive := fun vs => Goes (ev TT cs_spec_inRange 15 an_spec_inRange (Try.f29.body.getD .skip) (st0 con_spec_inRange vs) (fin TT con_spec_inRange Try.f29.results.toList [.c .sc] vs kk))) hF (fun n0 low1 high2 hF => goes_of (e_spec_inRange n0 low1 high2 kk) (F_spec_inRange_S hF))
def con_spec_validClimb : Con := ⟨[.rd], true, [.agg [.sc, .sc, .sc]], fun vs k => match vs with
    | [.agg [.v (.int .i64 c0At), .v (.int .i64 c0Step), .v (.int .i64 c0Ratio)]] => F_spec_validClimb c0At c0Step c0Ratio (fun r0 => k (.one (.c (.v (.bool r0)))) [])
    | _ => False, false⟩
def cl_spec_validClimb : List (FuncId × Con) := [(29, con_spec_inRange)]
def an_spec_validClimb : Ann := ⟨[], [], [], []⟩
def cs_spec_validClimb : Cons := ⟨cl_spec_validClimb, [], 0, [], [], []⟩
def fin_spec_validClimb (c0At : Int) (c0Step : Int) (c0Ratio : Int) (kk : AV → List A1 → Prop) : Kt := fin TT con_spec_validClimb Try.f31.results.toList [.c .sc] [.agg [.v (.int .i64 c0At), .v (.int .i64 c0Step), .v (.int .i64 c0Ratio)]] kk
theorem g_spec_validClimb (c0At : Int) (c0Step : Int) (c0Ratio : Int) (kk : AV → List A1 → Prop) :
    ev TT cs_spec_validClimb 21 an_spec_validClimb (Try.f31.body.getD .skip) (st0 con_spec_validClimb [.agg [.v (.int .i64 c0At), .v (.int .i64 c0Step), .v (.int .i64 c0Ratio)]]) (fin TT con_spec_validClimb Try.f31.results.toList [.c .sc] [.agg [.v (.int .i64 c0At), .v (.int .i64 c0Step), .v (.int .i64 c0Ratio)]] kk) = G_spec_validClimb c0At c0Step c0Ratio (fun r0 => kk (.one (.c (.v (.bool r0)))) []) := by kernel_rfl
theorem e_spec_validClimb (c0At : Int) (c0Step : Int) (c0Ratio : Int) (kk : AV → List A1 → Prop) :
    ev TT cs_spec_validClimb 21 an_spec_validClimb (Try.f31.body.getD .skip) (st0 con_spec_validClimb [.agg [.v (.int .i64 c0At), .v (.int .i64 c0Step), .v (.int .i64 c0Ratio)]]) (fin TT con_spec_validClimb Try.f31.results.toList [.c .sc] [.agg [.v (.int .i64 c0At), .v (.int .i64 c0Step), .v (.int .i64 c0Ratio)]] kk) = S_spec_validClimb c0At c0Step c0Ratio (fun r0 => kk (.one (.c (.v (.bool r0)))) []) := by
  rw [g_spec_validClimb]
  rfl
theorem clok_spec_validClimb : ConOK Try.prog cl_spec_validClimb := consCons h_spec_inRange ⟨Try.f29, Try.func29, by kernel_rfl, ne_of_beq (by kernel_rfl)⟩ (consNil)
theorem cok_spec_validClimb : ConsOK Try.prog 21 cs_spec_validClimb := ⟨clok_spec_validClimb, inlNil, ovNil⟩
theorem i_spec_validClimb {vs : List A1} {kk : AV → List A1 → Prop} {motive : List A1 → Prop} (h : con_spec_validClimb.F vs kk) (H : ∀ (c0At : Int) (c0Step : Int) (c0Ratio : Int), F_spec_validClimb c0At c0Step c0Ratio (fun r0 => kk (.one (.c (.v (.bool r0)))) []) → motive [.agg [.v (.int .i64 c0At), .v (.int .i64 c0Step), .v (.int .i64 c0Ratio)]]) : motive vs := by
  unfold con_spec_validClimb at h
  dsimp only at h
  split at h
  · exact H _ _ _ h
  · exact h.elim
theorem h_spec_validClimb : Holds Try.prog 31 con_spec_validClimb := by
  refine holds_of_ev (rt := [.c .sc]) (T := TT) (Γ := cs_spec_validClimb) (an := an_spec_validClimb) (N := 21) (c := Try.f31.body.getD .skip) Try.func31 (by kernel_rfl) Try.ntmps31 (by decide) (by decide) mixed tabOK cok_spec_validClimb (by kernel_rfl) ?_
  intro vs kk _ hF
  exact i_spec_validClimb (motive := fun vs => Goes (ev TT cs_spec_validClimb 21 an_spec_validClimb (Try.f31.body.getD .skip) (st0 con_spec_validClimb vs) (fin TT con_spec_validClimb Try.f31.results.toList [.c .sc] vs kk))) hF (fun c0At c0Step c0Ratio hF => goes_of (e_spec_validClimb c0At c0Step c0Ratio kk) (F_spec_validClimb_S hF))
def con_spec_ValidClimb : Con := ⟨[.rd], true, [.agg [.sc, .sc, .sc]], fun vs k => match vs with
    | [.agg [.v (.int .i64 c0At), .v (.int .i64 c0Step), .v (.int .i64 c0Ratio)]] => F_spec_ValidClimb c0At c0Step c0Ratio (fun r0 => k (.one (.c (.v (.bool r0)))) [])
    | _ => False, false⟩
def cl_spec_ValidClimb : List (FuncId × Con) := [(31, con_spec_validClimb)]
def an_spec_ValidClimb : Ann := ⟨[], [], [], []⟩
def cs_spec_ValidClimb : Cons := ⟨cl_spec_ValidClimb, [], 0, [], [], []⟩
def fin_spec_ValidClimb (c0At : Int) (c0Step : Int) (c0Ratio : Int) (kk : AV → List A1 → Prop) : Kt := fin TT con_spec_ValidClimb Try.f10.results.toList [.c .sc] [.agg [.v (.int .i64 c0At), .v (.int .i64 c0Step), .v (.int .i64 c0Ratio)]] kk
theorem g_spec_ValidClimb (c0At : Int) (c0Step : Int) (c0Ratio : Int) (kk : AV → List A1 → Prop) :
    ev TT cs_spec_ValidClimb 5 an_spec_ValidClimb (Try.f10.body.getD .skip) (st0 con_spec_ValidClimb [.agg [.v (.int .i64 c0At), .v (.int .i64 c0Step), .v (.int .i64 c0Ratio)]]) (fin TT con_spec_ValidClimb Try.f10.results.toList [.c .sc] [.agg [.v (.int .i64 c0At), .v (.int .i64 c0Step), .v (.int .i64 c0Ratio)]] kk) = G_spec_ValidClimb c0At c0Step c0Ratio (fun r0 => kk (.one (.c (.v (.bool r0)))) []) := by kernel_rfl
theorem e_spec_ValidClimb (c0At : Int) (c0Step : Int) (c0Ratio : Int) (kk : AV → List A1 → Prop) :
    ev TT cs_spec_ValidClimb 5 an_spec_ValidClimb (Try.f10.body.getD .skip) (st0 con_spec_ValidClimb [.agg [.v (.int .i64 c0At), .v (.int .i64 c0Step), .v (.int .i64 c0Ratio)]]) (fin TT con_spec_ValidClimb Try.f10.results.toList [.c .sc] [.agg [.v (.int .i64 c0At), .v (.int .i64 c0Step), .v (.int .i64 c0Ratio)]] kk) = S_spec_ValidClimb c0At c0Step c0Ratio (fun r0 => kk (.one (.c (.v (.bool r0)))) []) := by
  rw [g_spec_ValidClimb]
  rfl
theorem clok_spec_ValidClimb : ConOK Try.prog cl_spec_ValidClimb := consCons h_spec_validClimb ⟨Try.f31, Try.func31, by kernel_rfl, ne_of_beq (by kernel_rfl)⟩ (consNil)
theorem cok_spec_ValidClimb : ConsOK Try.prog 5 cs_spec_ValidClimb := ⟨clok_spec_ValidClimb, inlNil, ovNil⟩
theorem i_spec_ValidClimb {vs : List A1} {kk : AV → List A1 → Prop} {motive : List A1 → Prop} (h : con_spec_ValidClimb.F vs kk) (H : ∀ (c0At : Int) (c0Step : Int) (c0Ratio : Int), F_spec_ValidClimb c0At c0Step c0Ratio (fun r0 => kk (.one (.c (.v (.bool r0)))) []) → motive [.agg [.v (.int .i64 c0At), .v (.int .i64 c0Step), .v (.int .i64 c0Ratio)]]) : motive vs := by
  unfold con_spec_ValidClimb at h
  dsimp only at h
  split at h
  · exact H _ _ _ h
  · exact h.elim
theorem h_spec_ValidClimb : Holds Try.prog 10 con_spec_ValidClimb := by
  refine holds_of_ev (rt := [.c .sc]) (T := TT) (Γ := cs_spec_ValidClimb) (an := an_spec_ValidClimb) (N := 5) (c := Try.f10.body.getD .skip) Try.func10 (by kernel_rfl) Try.ntmps10 (by decide) (by decide) mixed tabOK cok_spec_ValidClimb (by kernel_rfl) ?_
  intro vs kk _ hF
  exact i_spec_ValidClimb (motive := fun vs => Goes (ev TT cs_spec_ValidClimb 5 an_spec_ValidClimb (Try.f10.body.getD .skip) (st0 con_spec_ValidClimb vs) (fin TT con_spec_ValidClimb Try.f10.results.toList [.c .sc] vs kk))) hF (fun c0At c0Step c0Ratio hF => goes_of (e_spec_ValidClimb c0At c0Step c0Ratio kk) (F_spec_ValidClimb_S hF))
def con_impl_validRatio : Con := ⟨[.rd], true, [.c (.sc)], fun vs k => match vs with
    | [.c (.v (.int .i64 ratio0))] => F_impl_validRatio ratio0 (fun r0 => k (.one (.c (.v (.bool r0)))) [])
    | _ => False, false⟩
def cl_impl_validRatio : List (FuncId × Con) := []
def an_impl_validRatio : Ann := ⟨[], [], [], []⟩
def cs_impl_validRatio : Cons := ⟨cl_impl_validRatio, [], 0, [], [], []⟩
def fin_impl_validRatio (ratio0 : Int) (kk : AV → List A1 → Prop) : Kt := fin TT con_impl_validRatio Try.f30.results.toList [.c .sc] [.c (.v (.int .i64 ratio0))] kk
theorem g_impl_validRatio (ratio0 : Int) (kk : AV → List A1 → Prop) :
    ev TT cs_impl_validRatio 9 an_impl_validRatio (Try.f30.body.getD .skip) (st0 con_impl_validRatio [.c (.v (.int .i64 ratio0))]) (fin TT con_impl_validRatio Try.f30.results.toList [.c .sc] [.c (.v (.int .i64 ratio0))] kk) = G_impl_validRatio ratio0 (fun r0 => kk (.one (.c (.v (.bool r0)))) []) := by kernel_rfl
theorem e_impl_validRatio (ratio0 : Int) (kk : AV → List A1 → Prop) :
    ev TT cs_impl_validRatio 9 an_impl_validRatio (Try.f30.body.getD .skip) (st0 con_impl_validRatio [.c (.v (.int .i64 ratio0))]) (fin TT con_impl_validRatio Try.f30.results.toList [.c .sc] [.c (.v (.int .i64 ratio0))] kk) = S_impl_validRatio ratio0 (fun r0 => kk (.one (.c (.v (.bool r0)))) []) := by
  rw [g_impl_validRatio]
  rfl
theorem clok_impl_validRatio : ConOK Try.prog cl_impl_validRatio := consNil
theorem cok_impl_validRatio : ConsOK Try.prog 9 cs_impl_validRatio := ⟨clok_impl_validRatio, inlNil, ovNil⟩
theorem i_impl_validRatio {vs : List A1} {kk : AV → List A1 → Prop} {motive : List A1 → Prop} (h : con_impl_validRatio.F vs kk) (H : ∀ (ratio0 : Int), F_impl_validRatio ratio0 (fun r0 => kk (.one (.c (.v (.bool r0)))) []) → motive [.c (.v (.int .i64 ratio0))]) : motive vs := by
  unfold con_impl_validRatio at h
  dsimp only at h
  split at h
  · exact H _ h
  · exact h.elim
theorem h_impl_validRatio : Holds Try.prog 30 con_impl_validRatio := by
  refine holds_of_ev (rt := [.c .sc]) (T := TT) (Γ := cs_impl_validRatio) (an := an_impl_validRatio) (N := 9) (c := Try.f30.body.getD .skip) Try.func30 (by kernel_rfl) Try.ntmps30 (by decide) (by decide) mixed tabOK cok_impl_validRatio (by kernel_rfl) ?_
  intro vs kk _ hF
  exact i_impl_validRatio (motive := fun vs => Goes (ev TT cs_impl_validRatio 9 an_impl_validRatio (Try.f30.body.getD .skip) (st0 con_impl_validRatio vs) (fin TT con_impl_validRatio Try.f30.results.toList [.c .sc] vs kk))) hF (fun ratio0 hF => goes_of (e_impl_validRatio ratio0 kk) (F_impl_validRatio_S hF))
def con_impl_ValidClimb : Con := ⟨[.rd], true, [.agg [.sc, .sc, .sc]], fun vs k => match vs with
    | [.agg [.v (.int .i64 c0At), .v (.int .i64 c0Step), .v (.int .i64 c0Ratio)]] => F_impl_ValidClimb c0At c0Step c0Ratio (fun r0 => k (.one (.c (.v (.bool r0)))) [])
    | _ => False, false⟩
def cl_impl_ValidClimb : List (FuncId × Con) := [(30, con_impl_validRatio)]
def an_impl_ValidClimb : Ann := ⟨[], [], [], []⟩
def cs_impl_ValidClimb : Cons := ⟨cl_impl_ValidClimb, [], 0, [], [], []⟩
def fin_impl_ValidClimb (c0At : Int) (c0Step : Int) (c0Ratio : Int) (kk : AV → List A1 → Prop) : Kt := fin TT con_impl_ValidClimb Try.f12.results.toList [.c .sc] [.agg [.v (.int .i64 c0At), .v (.int .i64 c0Step), .v (.int .i64 c0Ratio)]] kk
theorem g_impl_ValidClimb (c0At : Int) (c0Step : Int) (c0Ratio : Int) (kk : AV → List A1 → Prop) :
    ev TT cs_impl_ValidClimb 35 an_impl_ValidClimb (Try.f12.body.getD .skip) (st0 con_impl_ValidClimb [.agg [.v (.int .i64 c0At), .v (.int .i64 c0Step), .v (.int .i64 c0Ratio)]]) (fin TT con_impl_ValidClimb Try.f12.results.toList [.c .sc] [.agg [.v (.int .i64 c0At), .v (.int .i64 c0Step), .v (.int .i64 c0Ratio)]] kk) = G_impl_ValidClimb c0At c0Step c0Ratio (fun r0 => kk (.one (.c (.v (.bool r0)))) []) := by kernel_rfl
theorem e_impl_ValidClimb (c0At : Int) (c0Step : Int) (c0Ratio : Int) (kk : AV → List A1 → Prop) :
    ev TT cs_impl_ValidClimb 35 an_impl_ValidClimb (Try.f12.body.getD .skip) (st0 con_impl_ValidClimb [.agg [.v (.int .i64 c0At), .v (.int .i64 c0Step), .v (.int .i64 c0Ratio)]]) (fin TT con_impl_ValidClimb Try.f12.results.toList [.c .sc] [.agg [.v (.int .i64 c0At), .v (.int .i64 c0Step), .v (.int .i64 c0Ratio)]] kk) = S_impl_ValidClimb c0At c0Step c0Ratio (fun r0 => kk (.one (.c (.v (.bool r0)))) []) := by
  rw [g_impl_ValidClimb]
  rfl
theorem clok_impl_ValidClimb : ConOK Try.prog cl_impl_ValidClimb := consCons h_impl_validRatio ⟨Try.f30, Try.func30, by kernel_rfl, ne_of_beq (by kernel_rfl)⟩ (consNil)
theorem cok_impl_ValidClimb : ConsOK Try.prog 35 cs_impl_ValidClimb := ⟨clok_impl_ValidClimb, inlNil, ovNil⟩
theorem i_impl_ValidClimb {vs : List A1} {kk : AV → List A1 → Prop} {motive : List A1 → Prop} (h : con_impl_ValidClimb.F vs kk) (H : ∀ (c0At : Int) (c0Step : Int) (c0Ratio : Int), F_impl_ValidClimb c0At c0Step c0Ratio (fun r0 => kk (.one (.c (.v (.bool r0)))) []) → motive [.agg [.v (.int .i64 c0At), .v (.int .i64 c0Step), .v (.int .i64 c0Ratio)]]) : motive vs := by
  unfold con_impl_ValidClimb at h
  dsimp only at h
  split at h
  · exact H _ _ _ h
  · exact h.elim
theorem h_impl_ValidClimb : Holds Try.prog 12 con_impl_ValidClimb := by
  refine holds_of_ev (rt := [.c .sc]) (T := TT) (Γ := cs_impl_ValidClimb) (an := an_impl_ValidClimb) (N := 35) (c := Try.f12.body.getD .skip) Try.func12 (by kernel_rfl) Try.ntmps12 (by decide) (by decide) mixed tabOK cok_impl_ValidClimb (by kernel_rfl) ?_
  intro vs kk _ hF
  exact i_impl_ValidClimb (motive := fun vs => Goes (ev TT cs_impl_ValidClimb 35 an_impl_ValidClimb (Try.f12.body.getD .skip) (st0 con_impl_ValidClimb vs) (fin TT con_impl_ValidClimb Try.f12.results.toList [.c .sc] vs kk))) hF (fun c0At c0Step c0Ratio hF => goes_of (e_impl_ValidClimb c0At c0Step c0Ratio kk) (F_impl_ValidClimb_S hF))
def con_laws_FnExactValidClimb : Con := ⟨[.rd], true, [.agg [.sc, .sc, .sc]], fun vs k => match vs with
    | [.agg [.v (.int .i64 aC0At), .v (.int .i64 aC0Step), .v (.int .i64 aC0Ratio)]] => F_laws_FnExactValidClimb aC0At aC0Step aC0Ratio (fun r0 => k (.one (.c (.v (.bool r0)))) [])
    | _ => False, false⟩
def cl_laws_FnExactValidClimb : List (FuncId × Con) := [(10, con_spec_ValidClimb), (11, con_laws_toClimb), (12, con_impl_ValidClimb)]
def an_laws_FnExactValidClimb : Ann := ⟨[], [], [], []⟩
def cs_laws_FnExactValidClimb : Cons := ⟨cl_laws_FnExactValidClimb, [], 0, [], [], []⟩
def fin_laws_FnExactValidClimb (aC0At : Int) (aC0Step : Int) (aC0Ratio : Int) (kk : AV → List A1 → Prop) : Kt := fin TT con_laws_FnExactValidClimb Try.f4.results.toList [.c .sc] [.agg [.v (.int .i64 aC0At), .v (.int .i64 aC0Step), .v (.int .i64 aC0Ratio)]] kk
theorem g_laws_FnExactValidClimb (aC0At : Int) (aC0Step : Int) (aC0Ratio : Int) (kk : AV → List A1 → Prop) :
    ev TT cs_laws_FnExactValidClimb 14 an_laws_FnExactValidClimb (Try.f4.body.getD .skip) (st0 con_laws_FnExactValidClimb [.agg [.v (.int .i64 aC0At), .v (.int .i64 aC0Step), .v (.int .i64 aC0Ratio)]]) (fin TT con_laws_FnExactValidClimb Try.f4.results.toList [.c .sc] [.agg [.v (.int .i64 aC0At), .v (.int .i64 aC0Step), .v (.int .i64 aC0Ratio)]] kk) = G_laws_FnExactValidClimb aC0At aC0Step aC0Ratio (fun r0 => kk (.one (.c (.v (.bool r0)))) []) := by kernel_rfl
theorem e_laws_FnExactValidClimb (aC0At : Int) (aC0Step : Int) (aC0Ratio : Int) (kk : AV → List A1 → Prop) :
    ev TT cs_laws_FnExactValidClimb 14 an_laws_FnExactValidClimb (Try.f4.body.getD .skip) (st0 con_laws_FnExactValidClimb [.agg [.v (.int .i64 aC0At), .v (.int .i64 aC0Step), .v (.int .i64 aC0Ratio)]]) (fin TT con_laws_FnExactValidClimb Try.f4.results.toList [.c .sc] [.agg [.v (.int .i64 aC0At), .v (.int .i64 aC0Step), .v (.int .i64 aC0Ratio)]] kk) = S_laws_FnExactValidClimb aC0At aC0Step aC0Ratio (fun r0 => kk (.one (.c (.v (.bool r0)))) []) := by
  rw [g_laws_FnExactValidClimb]
  rfl
theorem clok_laws_FnExactValidClimb : ConOK Try.prog cl_laws_FnExactValidClimb := consCons h_spec_ValidClimb ⟨Try.f10, Try.func10, by kernel_rfl, ne_of_beq (by kernel_rfl)⟩ (consCons h_laws_toClimb ⟨Try.f11, Try.func11, by kernel_rfl, ne_of_beq (by kernel_rfl)⟩ (consCons h_impl_ValidClimb ⟨Try.f12, Try.func12, by kernel_rfl, ne_of_beq (by kernel_rfl)⟩ (consNil)))
theorem cok_laws_FnExactValidClimb : ConsOK Try.prog 14 cs_laws_FnExactValidClimb := ⟨clok_laws_FnExactValidClimb, inlNil, ovNil⟩
theorem i_laws_FnExactValidClimb {vs : List A1} {kk : AV → List A1 → Prop} {motive : List A1 → Prop} (h : con_laws_FnExactValidClimb.F vs kk) (H : ∀ (aC0At : Int) (aC0Step : Int) (aC0Ratio : Int), F_laws_FnExactValidClimb aC0At aC0Step aC0Ratio (fun r0 => kk (.one (.c (.v (.bool r0)))) []) → motive [.agg [.v (.int .i64 aC0At), .v (.int .i64 aC0Step), .v (.int .i64 aC0Ratio)]]) : motive vs := by
  unfold con_laws_FnExactValidClimb at h
  dsimp only at h
  split at h
  · exact H _ _ _ h
  · exact h.elim
theorem h_laws_FnExactValidClimb : Holds Try.prog 4 con_laws_FnExactValidClimb := by
  refine holds_of_ev (rt := [.c .sc]) (T := TT) (Γ := cs_laws_FnExactValidClimb) (an := an_laws_FnExactValidClimb) (N := 14) (c := Try.f4.body.getD .skip) Try.func4 (by kernel_rfl) Try.ntmps4 (by decide) (by decide) mixed tabOK cok_laws_FnExactValidClimb (by kernel_rfl) ?_
  intro vs kk _ hF
  exact i_laws_FnExactValidClimb (motive := fun vs => Goes (ev TT cs_laws_FnExactValidClimb 14 an_laws_FnExactValidClimb (Try.f4.body.getD .skip) (st0 con_laws_FnExactValidClimb vs) (fin TT con_laws_FnExactValidClimb Try.f4.results.toList [.c .sc] vs kk))) hF (fun aC0At aC0Step aC0Ratio hF => goes_of (e_laws_FnExactValidClimb aC0At aC0Step aC0Ratio kk) (F_laws_FnExactValidClimb_S hF))
end Go.Ev
