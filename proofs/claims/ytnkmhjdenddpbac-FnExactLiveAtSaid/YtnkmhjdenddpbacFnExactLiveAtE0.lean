/- What the evaluator gives for these functions: their contracts. No statement is proved here. -/
import Derived.Test.YtnkmhjdenddpbacFnExactLiveAtP0
import Derived.Test.YtnkmhjdenddpbacTt
namespace Go.Ev
set_option linter.unusedVariables false
set_option maxRecDepth 100000
open Go Go.Proofs
def con_laws_szTimedS : Con := ⟨[.rd, .rd], true, [.c (.sl .ii), .c (.sc)], fun vs k => match vs with
    | [.c (.ro .ii a0), .c (.v (.int .i64 left1))] => F_laws_szTimedS a0 left1 (fun r0 => k (.one (.c (.v (.int .i64 r0)))) [])
    | _ => False, false⟩
def cl_laws_szTimedS : List (FuncId × Con) := []
def an_laws_szTimedS : Ann := ⟨[], [], [], []⟩
def cs_laws_szTimedS : Cons := ⟨cl_laws_szTimedS, [], 0, [], [], []⟩
def fin_laws_szTimedS (a0 : List (Int × Int)) (left1 : Int) (kk : AV → List A1 → Prop) : Kt := fin TT con_laws_szTimedS Try.f20.results.toList [.c .sc] [.c (.ro .ii a0), .c (.v (.int .i64 left1))] kk
theorem g_laws_szTimedS (a0 : List (Int × Int)) (left1 : Int) (kk : AV → List A1 → Prop) :
    ev TT cs_laws_szTimedS 12 an_laws_szTimedS (Try.f20.body.getD .skip) (st0 con_laws_szTimedS [.c (.ro .ii a0), .c (.v (.int .i64 left1))]) (fin TT con_laws_szTimedS Try.f20.results.toList [.c .sc] [.c (.ro .ii a0), .c (.v (.int .i64 left1))] kk) = G_laws_szTimedS a0 left1 (fun r0 => kk (.one (.c (.v (.int .i64 r0)))) []) := by kernel_rfl
theorem e_laws_szTimedS (a0 : List (Int × Int)) (left1 : Int) (kk : AV → List A1 → Prop) :
    ev TT cs_laws_szTimedS 12 an_laws_szTimedS (Try.f20.body.getD .skip) (st0 con_laws_szTimedS [.c (.ro .ii a0), .c (.v (.int .i64 left1))]) (fin TT con_laws_szTimedS Try.f20.results.toList [.c .sc] [.c (.ro .ii a0), .c (.v (.int .i64 left1))] kk) = S_laws_szTimedS a0 left1 (fun r0 => kk (.one (.c (.v (.int .i64 r0)))) []) := by
  rw [g_laws_szTimedS]
  rfl
theorem clok_laws_szTimedS : ConOK Try.prog cl_laws_szTimedS := consNil
theorem cok_laws_szTimedS : ConsOK Try.prog 12 cs_laws_szTimedS := ⟨clok_laws_szTimedS, inlNil, ovNil⟩
theorem i_laws_szTimedS {vs : List A1} {kk : AV → List A1 → Prop} {motive : List A1 → Prop} (h : con_laws_szTimedS.F vs kk) (H : ∀ (a0 : List (Int × Int)) (left1 : Int), F_laws_szTimedS a0 left1 (fun r0 => kk (.one (.c (.v (.int .i64 r0)))) []) → motive [.c (.ro .ii a0), .c (.v (.int .i64 left1))]) : motive vs := by
  unfold con_laws_szTimedS at h
  dsimp only at h
  split at h
  · exact H _ _ h
  · exact h.elim
theorem h_laws_szTimedS : Holds Try.prog 20 con_laws_szTimedS := by
  refine holds_of_ev (rt := [.c .sc]) (T := TT) (Γ := cs_laws_szTimedS) (an := an_laws_szTimedS) (N := 12) (c := Try.f20.body.getD .skip) Try.func20 (by kernel_rfl) Try.ntmps20 (by decide) (by decide) mixed tabOK cok_laws_szTimedS (by kernel_rfl) ?_
  intro vs kk _ hF
  exact i_laws_szTimedS (motive := fun vs => Goes (ev TT cs_laws_szTimedS 12 an_laws_szTimedS (Try.f20.body.getD .skip) (st0 con_laws_szTimedS vs) (fin TT con_laws_szTimedS Try.f20.results.toList [.c .sc] vs kk))) hF (fun a0 left1 hF => goes_of (e_laws_szTimedS a0 left1 kk) (F_laws_szTimedS_S hF))
def con_laws_toTimed : Con := ⟨[.rd], true, [.agg [.sc, .sc]], fun vs k => match vs with
    | [.agg [.v (.int .i64 a0Key), .v (.int .i64 a0Until)]] => F_laws_toTimed a0Key a0Until (fun r0 r1 => k (.one (.agg [.v (.int .i64 r0), .v (.int .i64 r1)])) [])
    | _ => False, false⟩
def cl_laws_toTimed : List (FuncId × Con) := []
def an_laws_toTimed : Ann := ⟨[], [], [], []⟩
def cs_laws_toTimed : Cons := ⟨cl_laws_toTimed, [], 0, [], [], []⟩
def fin_laws_toTimed (a0Key : Int) (a0Until : Int) (kk : AV → List A1 → Prop) : Kt := fin TT con_laws_toTimed Try.f57.results.toList [.agg [.sc, .sc]] [.agg [.v (.int .i64 a0Key), .v (.int .i64 a0Until)]] kk
theorem g_laws_toTimed (a0Key : Int) (a0Until : Int) (kk : AV → List A1 → Prop) :
    ev TT cs_laws_toTimed 11 an_laws_toTimed (Try.f57.body.getD .skip) (st0 con_laws_toTimed [.agg [.v (.int .i64 a0Key), .v (.int .i64 a0Until)]]) (fin TT con_laws_toTimed Try.f57.results.toList [.agg [.sc, .sc]] [.agg [.v (.int .i64 a0Key), .v (.int .i64 a0Until)]] kk) = G_laws_toTimed a0Key a0Until (fun r0 r1 => kk (.one (.agg [.v (.int .i64 r0), .v (.int .i64 r1)])) []) := by kernel_rfl
theorem e_laws_toTimed (a0Key : Int) (a0Until : Int) (kk : AV → List A1 → Prop) :
    ev TT cs_laws_toTimed 11 an_laws_toTimed (Try.f57.body.getD .skip) (st0 con_laws_toTimed [.agg [.v (.int .i64 a0Key), .v (.int .i64 a0Until)]]) (fin TT con_laws_toTimed Try.f57.results.toList [.agg [.sc, .sc]] [.agg [.v (.int .i64 a0Key), .v (.int .i64 a0Until)]] kk) = S_laws_toTimed a0Key a0Until (fun r0 r1 => kk (.one (.agg [.v (.int .i64 r0), .v (.int .i64 r1)])) []) := by
  rw [g_laws_toTimed]
  rfl
theorem clok_laws_toTimed : ConOK Try.prog cl_laws_toTimed := consNil
theorem cok_laws_toTimed : ConsOK Try.prog 11 cs_laws_toTimed := ⟨clok_laws_toTimed, inlNil, ovNil⟩
theorem i_laws_toTimed {vs : List A1} {kk : AV → List A1 → Prop} {motive : List A1 → Prop} (h : con_laws_toTimed.F vs kk) (H : ∀ (a0Key : Int) (a0Until : Int), F_laws_toTimed a0Key a0Until (fun r0 r1 => kk (.one (.agg [.v (.int .i64 r0), .v (.int .i64 r1)])) []) → motive [.agg [.v (.int .i64 a0Key), .v (.int .i64 a0Until)]]) : motive vs := by
  unfold con_laws_toTimed at h
  dsimp only at h
  split at h
  · exact H _ _ h
  · exact h.elim
theorem h_laws_toTimed : Holds Try.prog 57 con_laws_toTimed := by
  refine holds_of_ev (rt := [.agg [.sc, .sc]]) (T := TT) (Γ := cs_laws_toTimed) (an := an_laws_toTimed) (N := 11) (c := Try.f57.body.getD .skip) Try.func57 (by kernel_rfl) Try.ntmps57 (by decide) (by decide) mixed tabOK cok_laws_toTimed (by kernel_rfl) ?_
  intro vs kk _ hF
  exact i_laws_toTimed (motive := fun vs => Goes (ev TT cs_laws_toTimed 11 an_laws_toTimed (Try.f57.body.getD .skip) (st0 con_laws_toTimed vs) (fin TT con_laws_toTimed Try.f57.results.toList [.agg [.sc, .sc]] vs kk))) hF (fun a0Key a0Until hF => goes_of (e_laws_toTimed a0Key a0Until kk) (F_laws_toTimed_S hF))
def con_laws_toTimedS : Con := ⟨[.rd], true, [.c (.sl .ii)], fun vs k => match vs with
    | [.c (.ro .ii a0)] => F_laws_toTimedS a0 (fun r0 => k (.one (.c (.ro .ii r0))) [])
    | _ => False, false⟩
def cl_laws_toTimedS : List (FuncId × Con) := [(57, con_laws_toTimed)]
def nm0_laws_toTimedS : List NStep := [.keep [0, 3, 4] [112]]
def an_laws_toTimedS : Ann := ⟨[], [(3, nm0_laws_toTimedS)], [], []⟩
def cs_laws_toTimedS : Cons := ⟨cl_laws_toTimedS, [], 0, [], [], []⟩
def can0_laws_toTimedS (a0 : List (Int × Int)) (xi4 : Int) (xy7 : List (Int × Int)) : St := ⟨[(0, .one (.c (.ro .ii a0))), (3, .one (.c (.ow 112))), (4, .one (.c (.v (.int .i64 xi4))))], [(112, .row .ii xy7)]⟩
def fin_laws_toTimedS (a0 : List (Int × Int)) (kk : AV → List A1 → Prop) : Kt := fin TT con_laws_toTimedS Try.f22.results.toList [.c (.sl .ii)] [.c (.ro .ii a0)] kk
def kt0_laws_toTimedS (kf : Kt) : Kt := blockK 0 (seqK (evF TT cs_laws_toTimedS 23 an_laws_toTimedS Try.f22 [1, 1, 1]) (kf))
theorem r0_laws_toTimedS (a0 : List (Int × Int)) (kk : AV → List A1 → Prop) (n : Nat) (xi4 : Int) (xy7 : List (Int × Int)) :
    iter (evF TT cs_laws_toTimedS 23 an_laws_toTimedS Try.f22 [1, 1, 0, 1, 0, 0]) nm0_laws_toTimedS (kt0_laws_toTimedS (fin_laws_toTimedS a0 kk)) (n + 1) (can0_laws_toTimedS a0 xi4 xy7) = T0_laws_toTimedS a0 xi4 xy7 (fun r0 => kk (.one (.c (.ro .ii r0))) []) (fun xi4 xy7 => iter (evF TT cs_laws_toTimedS 23 an_laws_toTimedS Try.f22 [1, 1, 0, 1, 0, 0]) nm0_laws_toTimedS (kt0_laws_toTimedS (fin_laws_toTimedS a0 kk)) n (can0_laws_toTimedS a0 xi4 xy7)) := by kernel_rfl
theorem l0_laws_toTimedS (a0 : List (Int × Int)) (kk : AV → List A1 → Prop) : ∀ (n : Nat) (xi4 : Int) (xy7 : List (Int × Int)), iter (evF TT cs_laws_toTimedS 23 an_laws_toTimedS Try.f22 [1, 1, 0, 1, 0, 0]) nm0_laws_toTimedS (kt0_laws_toTimedS (fin_laws_toTimedS a0 kk)) n (can0_laws_toTimedS a0 xi4 xy7) = L0_laws_toTimedS a0 (fun r0 => kk (.one (.c (.ro .ii r0))) []) n xi4 xy7 := by
  intro n
  induction n with
  | zero => intros; rfl
  | succ n ih =>
    intro xi4 xy7
    rw [r0_laws_toTimedS a0 kk n xi4 xy7]
    have hb : (fun xi4 xy7 => iter (evF TT cs_laws_toTimedS 23 an_laws_toTimedS Try.f22 [1, 1, 0, 1, 0, 0]) nm0_laws_toTimedS (kt0_laws_toTimedS (fin_laws_toTimedS a0 kk)) n (can0_laws_toTimedS a0 xi4 xy7)) = L0_laws_toTimedS a0 (fun r0 => kk (.one (.c (.ro .ii r0))) []) n := by
      funext xi4 xy7; exact ih xi4 xy7
    rw [hb]
    rfl
theorem g_laws_toTimedS (a0 : List (Int × Int)) (kk : AV → List A1 → Prop) :
    ev TT cs_laws_toTimedS 23 an_laws_toTimedS (Try.f22.body.getD .skip) (st0 con_laws_toTimedS [.c (.ro .ii a0)]) (fin TT con_laws_toTimedS Try.f22.results.toList [.c (.sl .ii)] [.c (.ro .ii a0)] kk) = G_laws_toTimedS a0 (fun a0 xi4 xy7 => ∃ j, iter (evF TT cs_laws_toTimedS 23 an_laws_toTimedS Try.f22 [1, 1, 0, 1, 0, 0]) nm0_laws_toTimedS (kt0_laws_toTimedS (fin_laws_toTimedS a0 kk)) j (can0_laws_toTimedS a0 xi4 xy7)) := by kernel_rfl
theorem e_laws_toTimedS (a0 : List (Int × Int)) (kk : AV → List A1 → Prop) :
    ev TT cs_laws_toTimedS 23 an_laws_toTimedS (Try.f22.body.getD .skip) (st0 con_laws_toTimedS [.c (.ro .ii a0)]) (fin TT con_laws_toTimedS Try.f22.results.toList [.c (.sl .ii)] [.c (.ro .ii a0)] kk) = S_laws_toTimedS a0 (fun r0 => kk (.one (.c (.ro .ii r0))) []) := by
  rw [g_laws_toTimedS]
  have hi0 : (fun a0 xi4 xy7 => ∃ j, iter (evF TT cs_laws_toTimedS 23 an_laws_toTimedS Try.f22 [1, 1, 0, 1, 0, 0]) nm0_laws_toTimedS (kt0_laws_toTimedS (fin_laws_toTimedS a0 kk)) j (can0_laws_toTimedS a0 xi4 xy7)) = (fun a0 xi4 xy7 => ∃ j, L0_laws_toTimedS a0 (fun r0 => kk (.one (.c (.ro .ii r0))) []) j xi4 xy7) := by
    funext a0 xi4 xy7
    refine congrArg Exists (funext fun j => ?_)
    rw [l0_laws_toTimedS a0 kk j xi4 xy7]
  rw [hi0]
  rfl
theorem clok_laws_toTimedS : ConOK Try.prog cl_laws_toTimedS := consCons h_laws_toTimed ⟨Try.f57, Try.func57, by kernel_rfl, ne_of_beq (by kernel_rfl)⟩ (consNil)
theorem cok_laws_toTimedS : ConsOK Try.prog 23 cs_laws_toTimedS := ⟨clok_laws_toTimedS, inlNil, ovNil⟩
theorem i_laws_toTimedS {vs : List A1} {kk : AV → List A1 → Prop} {motive : List A1 → Prop} (h : con_laws_toTimedS.F vs kk) (H : ∀ (a0 : List (Int × Int)), F_laws_toTimedS a0 (fun r0 => kk (.one (.c (.ro .ii r0))) []) → motive [.c (.ro .ii a0)]) : motive vs := by
  unfold con_laws_toTimedS at h
  dsimp only at h
  split at h
  · exact H _ h
  · exact h.elim
theorem h_laws_toTimedS : Holds Try.prog 22 con_laws_toTimedS := by
  refine holds_of_ev (rt := [.c (.sl .ii)]) (T := TT) (Γ := cs_laws_toTimedS) (an := an_laws_toTimedS) (N := 23) (c := Try.f22.body.getD .skip) Try.func22 (by kernel_rfl) Try.ntmps22 (by decide) (by decide) mixed tabOK cok_laws_toTimedS (by kernel_rfl) ?_
  intro vs kk _ hF
  exact i_laws_toTimedS (motive := fun vs => Goes (ev TT cs_laws_toTimedS 23 an_laws_toTimedS (Try.f22.body.getD .skip) (st0 con_laws_toTimedS vs) (fin TT con_laws_toTimedS Try.f22.results.toList [.c (.sl .ii)] vs kk))) hF (fun a0 hF => goes_of (e_laws_toTimedS a0 kk) (F_laws_toTimedS_S hF))
def con_spec_inRange : Con := ⟨[.rd, .rd, .rd], true, [.c (.sc), .c (.sc), .c (.sc)], fun vs k => match vs with
    | [.c (.v (.int .i64 n0)), .c (.v (.int .i64 low1)), .c (.v (.int .i64 high2))] => F_spec_inRange n0 low1 high2 (fun r0 => k (.one (.c (.v (.bool r0)))) [])
    | _ => False, false⟩
def cl_spec_inRange : List (FuncId × Con) := []
def an_spec_inRange : Ann := ⟨[], [], [], []⟩
def cs_spec_inRange : Cons := ⟨cl_spec_inRange, [], 0, [], [], []⟩
def fin_spec_inRange (n0 : Int) (low1 : Int) (high2 : Int) (kk : AV → List A1 → Prop) : Kt := fin TT con_spec_inRange Try.f61.results.toList [.c .sc] [.c (.v (.int .i64 n0)), .c (.v (.int .i64 low1)), .c (.v (.int .i64 high2))] kk
theorem g_spec_inRange (n0 : Int) (low1 : Int) (high2 : Int) (kk : AV → List A1 → Prop) :
    ev TT cs_spec_inRange 15 an_spec_inRange (Try.f61.body.getD .skip) (st0 con_spec_inRange [.c (.v (.int .i64 n0)), .c (.v (.int .i64 low1)), .c (.v (.int .i64 high2))]) (fin TT con_spec_inRange Try.f61.results.toList [.c .sc] [.c (.v (.int .i64 n0)), .c (.v (.int .i64 low1)), .c (.v (.int .i64 high2))] kk) = G_spec_inRange n0 low1 high2 (fun r0 => kk (.one (.c (.v (.bool r0)))) []) := by kernel_rfl
theorem e_spec_inRange (n0 : Int) (low1 : Int) (high2 : Int) (kk : AV → List A1 → Prop) :
    ev TT cs_spec_inRange 15 an_spec_inRange (Try.f61.body.getD .skip) (st0 con_spec_inRange [.c (.v (.int .i64 n0)), .c (.v (.int .i64 low1)), .c (.v (.int .i64 high2))]) (fin TT con_spec_inRange Try.f61.results.toList [.c .sc] [.c (.v (.int .i64 n0)), .c (.v (.int .i64 low1)), .c (.v (.int .i64 high2))] kk) = S_spec_inRange n0 low1 high2 (fun r0 => kk (.one (.c (.v (.bool r0)))) []) := by
  rw [g_spec_inRange]
  rfl
theorem clok_spec_inRange : ConOK Try.prog cl_spec_inRange := consNil
theorem cok_spec_inRange : ConsOK Try.prog 15 cs_spec_inRange := ⟨clok_spec_inRange, inlNil, ovNil⟩
theorem i_spec_inRange {vs : List A1} {kk : AV → List A1 → Prop} {motive : List A1 → Prop} (h : con_spec_inRange.F vs kk) (H : ∀ (n0 : Int) (low1 : Int) (high2 : Int), F_spec_inRange n0 low1 high2 (fun r0 => kk (.one (.c (.v (.bool r0)))) []) → motive [.c (.v (.int .i64 n0)), .c (.v (.int .i64 low1)), .c (.v (.int .i64 high2))]) : motive vs := by
  unfold con_spec_inRange at h
  dsimp only at h
  split at h
  · exact H _ _ _ h
  · exact h.elim
theorem h_spec_inRange : Holds Try.prog 61 con_spec_inRange := by
  refine holds_of_ev (rt := [.c .sc]) (T := TT) (Γ := cs_spec_inRange) (an := an_spec_inRange) (N := 15) (c := Try.f61.body.getD .skip) Try.func61 (by kernel_rfl) Try.ntmps61 (by decide) (by decide) mixed tabOK cok_spec_inRange (by kernel_rfl) ?_
  intro vs kk _ hF
  exact i_spec_inRange (motive := fun vs => Goes (ev TT cs_spec_inRange 15 an_spec_inRange (Try.f61.body.getD .skip) (st0 con_spec_inRange vs) (fin TT con_spec_inRange Try.f61.results.toList [.c .sc] vs kk))) hF (fun n0 low1 high2 hF => goes_of (e_spec_inRange n0 low1 high2 kk) (F_spec_inRange_S hF))
def con_spec_validTimed : Con := ⟨[.rd], true, [.c (.sl .ii)], fun vs k => match vs with
    | [.c (.ro .ii list0)] => F_spec_validTimed list0 (fun r0 => k (.one (.c (.v (.bool r0)))) [])
    | _ => False, false⟩
def cl_spec_validTimed : List (FuncId × Con) := [(61, con_spec_inRange)]
def nm0_spec_validTimed : List NStep := [.keep [0, 3] []]
def an_spec_validTimed : Ann := ⟨[(4, .take 0 (.take 1 (.take 2 (.take 3 (.take 4 (.alt 5 (.take 6 (.take 7 (.take 8 (.take 9 (.take 10 (.take 11 (.take 12 (.alt 13 (.take 14 (.take 15 (.take 16 (.take 17 (.take 18 (.take 19 (.take 20 (.take 21 (.take 22 (.take 23 (.take 24 (.take 25 (.take 26 (.take 27 (.take 28 (.take 29 (.take 30 (.take 31 (.take 32 (.take 33 (.done))))))))))))))))))))) (.none))))))))) (.none)))))), [])], [(2, nm0_spec_validTimed)], [], []⟩
def cs_spec_validTimed : Cons := ⟨cl_spec_validTimed, [], 0, [], [], []⟩
def can0_spec_validTimed (list0 : List (Int × Int)) (xi3 : Int) : St := ⟨[(0, .one (.c (.ro .ii list0))), (3, .one (.c (.v (.int .i64 xi3))))], []⟩
def fin_spec_validTimed (list0 : List (Int × Int)) (kk : AV → List A1 → Prop) : Kt := fin TT con_spec_validTimed Try.f56.results.toList [.c .sc] [.c (.ro .ii list0)] kk
def kt0_spec_validTimed (kf : Kt) : Kt := blockK 0 (seqK (evF TT cs_spec_validTimed 47 an_spec_validTimed Try.f56 [1, 1]) (kf))
theorem r0_spec_validTimed (list0 : List (Int × Int)) (kk : AV → List A1 → Prop) (n : Nat) (xi3 : Int) :
    iter (evF TT cs_spec_validTimed 47 an_spec_validTimed Try.f56 [1, 0, 1, 0, 0]) nm0_spec_validTimed (kt0_spec_validTimed (fin_spec_validTimed list0 kk)) (n + 1) (can0_spec_validTimed list0 xi3) = T0_spec_validTimed list0 xi3 (fun r0 => kk (.one (.c (.v (.bool r0)))) []) (fun xi3 => iter (evF TT cs_spec_validTimed 47 an_spec_validTimed Try.f56 [1, 0, 1, 0, 0]) nm0_spec_validTimed (kt0_spec_validTimed (fin_spec_validTimed list0 kk)) n (can0_spec_validTimed list0 xi3)) := by kernel_rfl
theorem l0_spec_validTimed (list0 : List (Int × Int)) (kk : AV → List A1 → Prop) : ∀ (n : Nat) (xi3 : Int), iter (evF TT cs_spec_validTimed 47 an_spec_validTimed Try.f56 [1, 0, 1, 0, 0]) nm0_spec_validTimed (kt0_spec_validTimed (fin_spec_validTimed list0 kk)) n (can0_spec_validTimed list0 xi3) = L0_spec_validTimed list0 (fun r0 => kk (.one (.c (.v (.bool r0)))) []) n xi3 := by
  intro n
  induction n with
  | zero => intros; rfl
  | succ n ih =>
    intro xi3
    rw [r0_spec_validTimed list0 kk n xi3]
    have hb : (fun xi3 => iter (evF TT cs_spec_validTimed 47 an_spec_validTimed Try.f56 [1, 0, 1, 0, 0]) nm0_spec_validTimed (kt0_spec_validTimed (fin_spec_validTimed list0 kk)) n (can0_spec_validTimed list0 xi3)) = L0_spec_validTimed list0 (fun r0 => kk (.one (.c (.v (.bool r0)))) []) n := by
      funext xi3; exact ih xi3
    rw [hb]
    rw [T0_spec_validTimed_eq]
    rfl
theorem g_spec_validTimed (list0 : List (Int × Int)) (kk : AV → List A1 → Prop) :
    ev TT cs_spec_validTimed 47 an_spec_validTimed (Try.f56.body.getD .skip) (st0 con_spec_validTimed [.c (.ro .ii list0)]) (fin TT con_spec_validTimed Try.f56.results.toList [.c .sc] [.c (.ro .ii list0)] kk) = G_spec_validTimed list0 (fun list0 xi3 => ∃ j, iter (evF TT cs_spec_validTimed 47 an_spec_validTimed Try.f56 [1, 0, 1, 0, 0]) nm0_spec_validTimed (kt0_spec_validTimed (fin_spec_validTimed list0 kk)) j (can0_spec_validTimed list0 xi3)) := by kernel_rfl
theorem e_spec_validTimed (list0 : List (Int × Int)) (kk : AV → List A1 → Prop) :
    ev TT cs_spec_validTimed 47 an_spec_validTimed (Try.f56.body.getD .skip) (st0 con_spec_validTimed [.c (.ro .ii list0)]) (fin TT con_spec_validTimed Try.f56.results.toList [.c .sc] [.c (.ro .ii list0)] kk) = S_spec_validTimed list0 (fun r0 => kk (.one (.c (.v (.bool r0)))) []) := by
  rw [g_spec_validTimed]
  have hi0 : (fun list0 xi3 => ∃ j, iter (evF TT cs_spec_validTimed 47 an_spec_validTimed Try.f56 [1, 0, 1, 0, 0]) nm0_spec_validTimed (kt0_spec_validTimed (fin_spec_validTimed list0 kk)) j (can0_spec_validTimed list0 xi3)) = (fun list0 xi3 => ∃ j, L0_spec_validTimed list0 (fun r0 => kk (.one (.c (.v (.bool r0)))) []) j xi3) := by
    funext list0 xi3
    refine congrArg Exists (funext fun j => ?_)
    rw [l0_spec_validTimed list0 kk j xi3]
  rw [hi0]
  rfl
theorem clok_spec_validTimed : ConOK Try.prog cl_spec_validTimed := consCons h_spec_inRange ⟨Try.f61, Try.func61, by kernel_rfl, ne_of_beq (by kernel_rfl)⟩ (consNil)
theorem cok_spec_validTimed : ConsOK Try.prog 47 cs_spec_validTimed := ⟨clok_spec_validTimed, inlNil, ovNil⟩
theorem i_spec_validTimed {vs : List A1} {kk : AV → List A1 → Prop} {motive : List A1 → Prop} (h : con_spec_validTimed.F vs kk) (H : ∀ (list0 : List (Int × Int)), F_spec_validTimed list0 (fun r0 => kk (.one (.c (.v (.bool r0)))) []) → motive [.c (.ro .ii list0)]) : motive vs := by
  unfold con_spec_validTimed at h
  dsimp only at h
  split at h
  · exact H _ h
  · exact h.elim
theorem h_spec_validTimed : Holds Try.prog 56 con_spec_validTimed := by
  refine holds_of_ev (rt := [.c .sc]) (T := TT) (Γ := cs_spec_validTimed) (an := an_spec_validTimed) (N := 47) (c := Try.f56.body.getD .skip) Try.func56 (by kernel_rfl) Try.ntmps56 (by decide) (by decide) mixed tabOK cok_spec_validTimed (by kernel_rfl) ?_
  intro vs kk _ hF
  exact i_spec_validTimed (motive := fun vs => Goes (ev TT cs_spec_validTimed 47 an_spec_validTimed (Try.f56.body.getD .skip) (st0 con_spec_validTimed vs) (fin TT con_spec_validTimed Try.f56.results.toList [.c .sc] vs kk))) hF (fun list0 hF => goes_of (e_spec_validTimed list0 kk) (F_spec_validTimed_S hF))
def con_spec_LiveAt : Con := ⟨[.rd, .rd, .rd], true, [.c (.sl .ii), .c (.sc), .c (.sc)], fun vs k => match vs with
    | [.c (.ro .ii list0), .c (.v (.int .i64 key1)), .c (.v (.int .i64 now2))] => F_spec_LiveAt list0 key1 now2 (fun r0 => k (.one (.c (.v (.bool r0)))) [])
    | _ => False, false⟩
def cl_spec_LiveAt : List (FuncId × Con) := [(56, con_spec_validTimed)]
def nm0_spec_LiveAt : List NStep := [.keep [0, 1, 2, 7] []]
def an_spec_LiveAt : Ann := ⟨[], [(4, nm0_spec_LiveAt)], [], []⟩
def cs_spec_LiveAt : Cons := ⟨cl_spec_LiveAt, [], 0, [], [], []⟩
def can0_spec_LiveAt (key1 : Int) (list0 : List (Int × Int)) (now2 : Int) (xi7 : Int) : St := ⟨[(0, .one (.c (.ro .ii list0))), (1, .one (.c (.v (.int .i64 key1)))), (2, .one (.c (.v (.int .i64 now2)))), (7, .one (.c (.v (.int .i64 xi7))))], []⟩
def fin_spec_LiveAt (list0 : List (Int × Int)) (key1 : Int) (now2 : Int) (kk : AV → List A1 → Prop) : Kt := fin TT con_spec_LiveAt Try.f29.results.toList [.c .sc] [.c (.ro .ii list0), .c (.v (.int .i64 key1)), .c (.v (.int .i64 now2))] kk
def kt0_spec_LiveAt (kf : Kt) : Kt := blockK 0 (seqK (evF TT cs_spec_LiveAt 31 an_spec_LiveAt Try.f29 [1, 1, 1]) (kf))
theorem r0_spec_LiveAt (list0 : List (Int × Int)) (key1 : Int) (now2 : Int) (kk : AV → List A1 → Prop) (n : Nat) (xi7 : Int) :
    iter (evF TT cs_spec_LiveAt 31 an_spec_LiveAt Try.f29 [1, 1, 0, 1, 0, 0]) nm0_spec_LiveAt (kt0_spec_LiveAt (fin_spec_LiveAt list0 key1 now2 kk)) (n + 1) (can0_spec_LiveAt key1 list0 now2 xi7) = T0_spec_LiveAt key1 list0 now2 xi7 (fun r0 => kk (.one (.c (.v (.bool r0)))) []) (fun xi7 => iter (evF TT cs_spec_LiveAt 31 an_spec_LiveAt Try.f29 [1, 1, 0, 1, 0, 0]) nm0_spec_LiveAt (kt0_spec_LiveAt (fin_spec_LiveAt list0 key1 now2 kk)) n (can0_spec_LiveAt key1 list0 now2 xi7)) := by kernel_rfl
theorem l0_spec_LiveAt (list0 : List (Int × Int)) (key1 : Int) (now2 : Int) (kk : AV → List A1 → Prop) : ∀ (n : Nat) (xi7 : Int), iter (evF TT cs_spec_LiveAt 31 an_spec_LiveAt Try.f29 [1, 1, 0, 1, 0, 0]) nm0_spec_LiveAt (kt0_spec_LiveAt (fin_spec_LiveAt list0 key1 now2 kk)) n (can0_spec_LiveAt key1 list0 now2 xi7) = L0_spec_LiveAt key1 list0 now2 (fun r0 => kk (.one (.c (.v (.bool r0)))) []) n xi7 := by
  intro n
  induction n with
  | zero => intros; rfl
  | succ n ih =>
    intro xi7
    rw [r0_spec_LiveAt list0 key1 now2 kk n xi7]
    have hb : (fun xi7 => iter (evF TT cs_spec_LiveAt 31 an_spec_LiveAt Try.f29 [1, 1, 0, 1, 0, 0]) nm0_spec_LiveAt (kt0_spec_LiveAt (fin_spec_LiveAt list0 key1 now2 kk)) n (can0_spec_LiveAt key1 list0 now2 xi7)) = L0_spec_LiveAt key1 list0 now2 (fun r0 => kk (.one (.c (.v (.bool r0)))) []) n := by
      funext xi7; exact ih xi7
    rw [hb]
    rfl
theorem g_spec_LiveAt (list0 : List (Int × Int)) (key1 : Int) (now2 : Int) (kk : AV → List A1 → Prop) :
    ev TT cs_spec_LiveAt 31 an_spec_LiveAt (Try.f29.body.getD .skip) (st0 con_spec_LiveAt [.c (.ro .ii list0), .c (.v (.int .i64 key1)), .c (.v (.int .i64 now2))]) (fin TT con_spec_LiveAt Try.f29.results.toList [.c .sc] [.c (.ro .ii list0), .c (.v (.int .i64 key1)), .c (.v (.int .i64 now2))] kk) = G_spec_LiveAt list0 key1 now2 (fun r0 => kk (.one (.c (.v (.bool r0)))) []) (fun key1 list0 now2 xi7 => ∃ j, iter (evF TT cs_spec_LiveAt 31 an_spec_LiveAt Try.f29 [1, 1, 0, 1, 0, 0]) nm0_spec_LiveAt (kt0_spec_LiveAt (fin_spec_LiveAt list0 key1 now2 kk)) j (can0_spec_LiveAt key1 list0 now2 xi7)) := by kernel_rfl
theorem e_spec_LiveAt (list0 : List (Int × Int)) (key1 : Int) (now2 : Int) (kk : AV → List A1 → Prop) :
    ev TT cs_spec_LiveAt 31 an_spec_LiveAt (Try.f29.body.getD .skip) (st0 con_spec_LiveAt [.c (.ro .ii list0), .c (.v (.int .i64 key1)), .c (.v (.int .i64 now2))]) (fin TT con_spec_LiveAt Try.f29.results.toList [.c .sc] [.c (.ro .ii list0), .c (.v (.int .i64 key1)), .c (.v (.int .i64 now2))] kk) = S_spec_LiveAt list0 key1 now2 (fun r0 => kk (.one (.c (.v (.bool r0)))) []) := by
  rw [g_spec_LiveAt]
  have hi0 : (fun key1 list0 now2 xi7 => ∃ j, iter (evF TT cs_spec_LiveAt 31 an_spec_LiveAt Try.f29 [1, 1, 0, 1, 0, 0]) nm0_spec_LiveAt (kt0_spec_LiveAt (fin_spec_LiveAt list0 key1 now2 kk)) j (can0_spec_LiveAt key1 list0 now2 xi7)) = (fun key1 list0 now2 xi7 => ∃ j, L0_spec_LiveAt key1 list0 now2 (fun r0 => kk (.one (.c (.v (.bool r0)))) []) j xi7) := by
    funext key1 list0 now2 xi7
    refine congrArg Exists (funext fun j => ?_)
    rw [l0_spec_LiveAt list0 key1 now2 kk j xi7]
  rw [hi0]
  rfl
theorem clok_spec_LiveAt : ConOK Try.prog cl_spec_LiveAt := consCons h_spec_validTimed ⟨Try.f56, Try.func56, by kernel_rfl, ne_of_beq (by kernel_rfl)⟩ (consNil)
theorem cok_spec_LiveAt : ConsOK Try.prog 31 cs_spec_LiveAt := ⟨clok_spec_LiveAt, inlNil, ovNil⟩
theorem i_spec_LiveAt {vs : List A1} {kk : AV → List A1 → Prop} {motive : List A1 → Prop} (h : con_spec_LiveAt.F vs kk) (H : ∀ (list0 : List (Int × Int)) (key1 : Int) (now2 : Int), F_spec_LiveAt list0 key1 now2 (fun r0 => kk (.one (.c (.v (.bool r0)))) []) → motive [.c (.ro .ii list0), .c (.v (.int .i64 key1)), .c (.v (.int .i64 now2))]) : motive vs := by
  unfold con_spec_LiveAt at h
  dsimp only at h
  split at h
  · exact H _ _ _ h
  · exact h.elim
theorem h_spec_LiveAt : Holds Try.prog 29 con_spec_LiveAt := by
  refine holds_of_ev (rt := [.c .sc]) (T := TT) (Γ := cs_spec_LiveAt) (an := an_spec_LiveAt) (N := 31) (c := Try.f29.body.getD .skip) Try.func29 (by kernel_rfl) Try.ntmps29 (by decide) (by decide) mixed tabOK cok_spec_LiveAt (by kernel_rfl) ?_
  intro vs kk _ hF
  exact i_spec_LiveAt (motive := fun vs => Goes (ev TT cs_spec_LiveAt 31 an_spec_LiveAt (Try.f29.body.getD .skip) (st0 con_spec_LiveAt vs) (fin TT con_spec_LiveAt Try.f29.results.toList [.c .sc] vs kk))) hF (fun list0 key1 now2 hF => goes_of (e_spec_LiveAt list0 key1 now2 kk) (F_spec_LiveAt_S hF))
def con_impl_validKey : Con := ⟨[.rd], true, [.c (.sc)], fun vs k => match vs with
    | [.c (.v (.int .i64 key0))] => F_impl_validKey key0 (fun r0 => k (.one (.c (.v (.bool r0)))) [])
    | _ => False, false⟩
def cl_impl_validKey : List (FuncId × Con) := []
def an_impl_validKey : Ann := ⟨[], [], [], []⟩
def cs_impl_validKey : Cons := ⟨cl_impl_validKey, [], 0, [], [], []⟩
def fin_impl_validKey (key0 : Int) (kk : AV → List A1 → Prop) : Kt := fin TT con_impl_validKey Try.f58.results.toList [.c .sc] [.c (.v (.int .i64 key0))] kk
theorem g_impl_validKey (key0 : Int) (kk : AV → List A1 → Prop) :
    ev TT cs_impl_validKey 9 an_impl_validKey (Try.f58.body.getD .skip) (st0 con_impl_validKey [.c (.v (.int .i64 key0))]) (fin TT con_impl_validKey Try.f58.results.toList [.c .sc] [.c (.v (.int .i64 key0))] kk) = G_impl_validKey key0 (fun r0 => kk (.one (.c (.v (.bool r0)))) []) := by kernel_rfl
theorem e_impl_validKey (key0 : Int) (kk : AV → List A1 → Prop) :
    ev TT cs_impl_validKey 9 an_impl_validKey (Try.f58.body.getD .skip) (st0 con_impl_validKey [.c (.v (.int .i64 key0))]) (fin TT con_impl_validKey Try.f58.results.toList [.c .sc] [.c (.v (.int .i64 key0))] kk) = S_impl_validKey key0 (fun r0 => kk (.one (.c (.v (.bool r0)))) []) := by
  rw [g_impl_validKey]
  rfl
theorem clok_impl_validKey : ConOK Try.prog cl_impl_validKey := consNil
theorem cok_impl_validKey : ConsOK Try.prog 9 cs_impl_validKey := ⟨clok_impl_validKey, inlNil, ovNil⟩
theorem i_impl_validKey {vs : List A1} {kk : AV → List A1 → Prop} {motive : List A1 → Prop} (h : con_impl_validKey.F vs kk) (H : ∀ (key0 : Int), F_impl_validKey key0 (fun r0 => kk (.one (.c (.v (.bool r0)))) []) → motive [.c (.v (.int .i64 key0))]) : motive vs := by
  unfold con_impl_validKey at h
  dsimp only at h
  split at h
  · exact H _ h
  · exact h.elim
theorem h_impl_validKey : Holds Try.prog 58 con_impl_validKey := by
  refine holds_of_ev (rt := [.c .sc]) (T := TT) (Γ := cs_impl_validKey) (an := an_impl_validKey) (N := 9) (c := Try.f58.body.getD .skip) Try.func58 (by kernel_rfl) Try.ntmps58 (by decide) (by decide) mixed tabOK cok_impl_validKey (by kernel_rfl) ?_
  intro vs kk _ hF
  exact i_impl_validKey (motive := fun vs => Goes (ev TT cs_impl_validKey 9 an_impl_validKey (Try.f58.body.getD .skip) (st0 con_impl_validKey vs) (fin TT con_impl_validKey Try.f58.results.toList [.c .sc] vs kk))) hF (fun key0 hF => goes_of (e_impl_validKey key0 kk) (F_impl_validKey_S hF))
def con_impl_validTime : Con := ⟨[.rd], true, [.c (.sc)], fun vs k => match vs with
    | [.c (.v (.int .i64 time0))] => F_impl_validTime time0 (fun r0 => k (.one (.c (.v (.bool r0)))) [])
    | _ => False, false⟩
def cl_impl_validTime : List (FuncId × Con) := []
def an_impl_validTime : Ann := ⟨[], [], [], []⟩
def cs_impl_validTime : Cons := ⟨cl_impl_validTime, [], 0, [], [], []⟩
def fin_impl_validTime (time0 : Int) (kk : AV → List A1 → Prop) : Kt := fin TT con_impl_validTime Try.f59.results.toList [.c .sc] [.c (.v (.int .i64 time0))] kk
theorem g_impl_validTime (time0 : Int) (kk : AV → List A1 → Prop) :
    ev TT cs_impl_validTime 9 an_impl_validTime (Try.f59.body.getD .skip) (st0 con_impl_validTime [.c (.v (.int .i64 time0))]) (fin TT con_impl_validTime Try.f59.results.toList [.c .sc] [.c (.v (.int .i64 time0))] kk) = G_impl_validTime time0 (fun r0 => kk (.one (.c (.v (.bool r0)))) []) := by kernel_rfl
theorem e_impl_validTime (time0 : Int) (kk : AV → List A1 → Prop) :
    ev TT cs_impl_validTime 9 an_impl_validTime (Try.f59.body.getD .skip) (st0 con_impl_validTime [.c (.v (.int .i64 time0))]) (fin TT con_impl_validTime Try.f59.results.toList [.c .sc] [.c (.v (.int .i64 time0))] kk) = S_impl_validTime time0 (fun r0 => kk (.one (.c (.v (.bool r0)))) []) := by
  rw [g_impl_validTime]
  rfl
theorem clok_impl_validTime : ConOK Try.prog cl_impl_validTime := consNil
theorem cok_impl_validTime : ConsOK Try.prog 9 cs_impl_validTime := ⟨clok_impl_validTime, inlNil, ovNil⟩
theorem i_impl_validTime {vs : List A1} {kk : AV → List A1 → Prop} {motive : List A1 → Prop} (h : con_impl_validTime.F vs kk) (H : ∀ (time0 : Int), F_impl_validTime time0 (fun r0 => kk (.one (.c (.v (.bool r0)))) []) → motive [.c (.v (.int .i64 time0))]) : motive vs := by
  unfold con_impl_validTime at h
  dsimp only at h
  split at h
  · exact H _ h
  · exact h.elim
theorem h_impl_validTime : Holds Try.prog 59 con_impl_validTime := by
  refine holds_of_ev (rt := [.c .sc]) (T := TT) (Γ := cs_impl_validTime) (an := an_impl_validTime) (N := 9) (c := Try.f59.body.getD .skip) Try.func59 (by kernel_rfl) Try.ntmps59 (by decide) (by decide) mixed tabOK cok_impl_validTime (by kernel_rfl) ?_
  intro vs kk _ hF
  exact i_impl_validTime (motive := fun vs => Goes (ev TT cs_impl_validTime 9 an_impl_validTime (Try.f59.body.getD .skip) (st0 con_impl_validTime vs) (fin TT con_impl_validTime Try.f59.results.toList [.c .sc] vs kk))) hF (fun time0 hF => goes_of (e_impl_validTime time0 kk) (F_impl_validTime_S hF))
def con_impl_ValidTimed : Con := ⟨[.rd], true, [.c (.sl .ii)], fun vs k => match vs with
    | [.c (.ro .ii list0)] => F_impl_ValidTimed list0 (fun r0 => k (.one (.c (.v (.bool r0)))) [])
    | _ => False, false⟩
def cl_impl_ValidTimed : List (FuncId × Con) := [(58, con_impl_validKey), (59, con_impl_validTime)]
def nm0_impl_ValidTimed : List NStep := [.keep [0, 8, 9, 10] []]
def an_impl_ValidTimed : Ann := ⟨[(8, .take 0 (.take 1 (.take 2 (.take 3 (.take 4 (.take 5 (.take 6 (.take 7 (.take 8 (.take 9 (.take 10 (.take 11 (.take 12 (.done))))))))))))), [64])], [(4, nm0_impl_ValidTimed)], [], []⟩
def cs_impl_ValidTimed : Cons := ⟨cl_impl_ValidTimed, [], 0, [], [], []⟩
def can0_impl_ValidTimed (list0 : List (Int × Int)) (xt9 : Int) (xt10 : Int) : St := ⟨[(0, .one (.c (.ro .ii list0))), (8, .one (.c (.ro .ii list0))), (9, .one (.c (.v (.int .i64 xt9)))), (10, .one (.c (.v (.int .i64 xt10))))], []⟩
def fin_impl_ValidTimed (list0 : List (Int × Int)) (kk : AV → List A1 → Prop) : Kt := fin TT con_impl_ValidTimed Try.f23.results.toList [.c .sc] [.c (.ro .ii list0)] kk
def kt0_impl_ValidTimed (kf : Kt) : Kt := blockK 0 (seqK (evF TT cs_impl_ValidTimed 39 an_impl_ValidTimed Try.f23 [1, 1, 1]) (kf))
theorem r0_impl_ValidTimed (list0 : List (Int × Int)) (xt9 : Int) (kk : AV → List A1 → Prop) (n : Nat) (xt10 : Int) :
    iter (evF TT cs_impl_ValidTimed 39 an_impl_ValidTimed Try.f23 [1, 1, 0, 1, 0, 0]) nm0_impl_ValidTimed (kt0_impl_ValidTimed (fin_impl_ValidTimed list0 kk)) (n + 1) (can0_impl_ValidTimed list0 xt9 xt10) = T0_impl_ValidTimed list0 xt9 xt10 (fun r0 => kk (.one (.c (.v (.bool r0)))) []) (fun xt10 => iter (evF TT cs_impl_ValidTimed 39 an_impl_ValidTimed Try.f23 [1, 1, 0, 1, 0, 0]) nm0_impl_ValidTimed (kt0_impl_ValidTimed (fin_impl_ValidTimed list0 kk)) n (can0_impl_ValidTimed list0 xt9 xt10)) := by kernel_rfl
theorem l0_impl_ValidTimed (list0 : List (Int × Int)) (xt9 : Int) (kk : AV → List A1 → Prop) : ∀ (n : Nat) (xt10 : Int), iter (evF TT cs_impl_ValidTimed 39 an_impl_ValidTimed Try.f23 [1, 1, 0, 1, 0, 0]) nm0_impl_ValidTimed (kt0_impl_ValidTimed (fin_impl_ValidTimed list0 kk)) n (can0_impl_ValidTimed list0 xt9 xt10) = L0_impl_ValidTimed list0 xt9 (fun r0 => kk (.one (.c (.v (.bool r0)))) []) n xt10 := by
  intro n
  induction n with
  | zero => intros; rfl
  | succ n ih =>
    intro xt10
    rw [r0_impl_ValidTimed list0 xt9 kk n xt10]
    have hb : (fun xt10 => iter (evF TT cs_impl_ValidTimed 39 an_impl_ValidTimed Try.f23 [1, 1, 0, 1, 0, 0]) nm0_impl_ValidTimed (kt0_impl_ValidTimed (fin_impl_ValidTimed list0 kk)) n (can0_impl_ValidTimed list0 xt9 xt10)) = L0_impl_ValidTimed list0 xt9 (fun r0 => kk (.one (.c (.v (.bool r0)))) []) n := by
      funext xt10; exact ih xt10
    rw [hb]
    rfl
theorem g_impl_ValidTimed (list0 : List (Int × Int)) (kk : AV → List A1 → Prop) :
    ev TT cs_impl_ValidTimed 39 an_impl_ValidTimed (Try.f23.body.getD .skip) (st0 con_impl_ValidTimed [.c (.ro .ii list0)]) (fin TT con_impl_ValidTimed Try.f23.results.toList [.c .sc] [.c (.ro .ii list0)] kk) = G_impl_ValidTimed list0 (fun r0 => kk (.one (.c (.v (.bool r0)))) []) (fun list0 xt9 xt10 => ∃ j, iter (evF TT cs_impl_ValidTimed 39 an_impl_ValidTimed Try.f23 [1, 1, 0, 1, 0, 0]) nm0_impl_ValidTimed (kt0_impl_ValidTimed (fin_impl_ValidTimed list0 kk)) j (can0_impl_ValidTimed list0 xt9 xt10)) := by kernel_rfl
theorem e_impl_ValidTimed (list0 : List (Int × Int)) (kk : AV → List A1 → Prop) :
    ev TT cs_impl_ValidTimed 39 an_impl_ValidTimed (Try.f23.body.getD .skip) (st0 con_impl_ValidTimed [.c (.ro .ii list0)]) (fin TT con_impl_ValidTimed Try.f23.results.toList [.c .sc] [.c (.ro .ii list0)] kk) = S_impl_ValidTimed list0 (fun r0 => kk (.one (.c (.v (.bool r0)))) []) := by
  rw [g_impl_ValidTimed]
  have hi0 : (fun list0 xt9 xt10 => ∃ j, iter (evF TT cs_impl_ValidTimed 39 an_impl_ValidTimed Try.f23 [1, 1, 0, 1, 0, 0]) nm0_impl_ValidTimed (kt0_impl_ValidTimed (fin_impl_ValidTimed list0 kk)) j (can0_impl_ValidTimed list0 xt9 xt10)) = (fun list0 xt9 xt10 => ∃ j, L0_impl_ValidTimed list0 xt9 (fun r0 => kk (.one (.c (.v (.bool r0)))) []) j xt10) := by
    funext list0 xt9 xt10
    refine congrArg Exists (funext fun j => ?_)
    rw [l0_impl_ValidTimed list0 xt9 kk j xt10]
  rw [hi0]
  rfl
theorem clok_impl_ValidTimed : ConOK Try.prog cl_impl_ValidTimed := consCons h_impl_validKey ⟨Try.f58, Try.func58, by kernel_rfl, ne_of_beq (by kernel_rfl)⟩ (consCons h_impl_validTime ⟨Try.f59, Try.func59, by kernel_rfl, ne_of_beq (by kernel_rfl)⟩ (consNil))
theorem cok_impl_ValidTimed : ConsOK Try.prog 39 cs_impl_ValidTimed := ⟨clok_impl_ValidTimed, inlNil, ovNil⟩
theorem i_impl_ValidTimed {vs : List A1} {kk : AV → List A1 → Prop} {motive : List A1 → Prop} (h : con_impl_ValidTimed.F vs kk) (H : ∀ (list0 : List (Int × Int)), F_impl_ValidTimed list0 (fun r0 => kk (.one (.c (.v (.bool r0)))) []) → motive [.c (.ro .ii list0)]) : motive vs := by
  unfold con_impl_ValidTimed at h
  dsimp only at h
  split at h
  · exact H _ h
  · exact h.elim
theorem h_impl_ValidTimed : Holds Try.prog 23 con_impl_ValidTimed := by
  refine holds_of_ev (rt := [.c .sc]) (T := TT) (Γ := cs_impl_ValidTimed) (an := an_impl_ValidTimed) (N := 39) (c := Try.f23.body.getD .skip) Try.func23 (by kernel_rfl) Try.ntmps23 (by decide) (by decide) mixed tabOK cok_impl_ValidTimed (by kernel_rfl) ?_
  intro vs kk _ hF
  exact i_impl_ValidTimed (motive := fun vs => Goes (ev TT cs_impl_ValidTimed 39 an_impl_ValidTimed (Try.f23.body.getD .skip) (st0 con_impl_ValidTimed vs) (fin TT con_impl_ValidTimed Try.f23.results.toList [.c .sc] vs kk))) hF (fun list0 hF => goes_of (e_impl_ValidTimed list0 kk) (F_impl_ValidTimed_S hF))
def con_cmp_isNaN_int : Con := ⟨[.rd], true, [.c (.sc)], fun vs k => match vs with
    | [.c (.v (.int .i64 x0))] => F_cmp_isNaN_int x0 (fun r0 => k (.one (.c (.v (.bool r0)))) [])
    | _ => False, false⟩
def cl_cmp_isNaN_int : List (FuncId × Con) := []
def an_cmp_isNaN_int : Ann := ⟨[], [], [], []⟩
def cs_cmp_isNaN_int : Cons := ⟨cl_cmp_isNaN_int, [], 0, [], [], []⟩
def fin_cmp_isNaN_int (x0 : Int) (kk : AV → List A1 → Prop) : Kt := fin TT con_cmp_isNaN_int Try.f111.results.toList [.c .sc] [.c (.v (.int .i64 x0))] kk
theorem g_cmp_isNaN_int (x0 : Int) (kk : AV → List A1 → Prop) :
    ev TT cs_cmp_isNaN_int 6 an_cmp_isNaN_int (Try.f111.body.getD .skip) (st0 con_cmp_isNaN_int [.c (.v (.int .i64 x0))]) (fin TT con_cmp_isNaN_int Try.f111.results.toList [.c .sc] [.c (.v (.int .i64 x0))] kk) = G_cmp_isNaN_int x0 (fun r0 => kk (.one (.c (.v (.bool r0)))) []) := by kernel_rfl
theorem e_cmp_isNaN_int (x0 : Int) (kk : AV → List A1 → Prop) :
    ev TT cs_cmp_isNaN_int 6 an_cmp_isNaN_int (Try.f111.body.getD .skip) (st0 con_cmp_isNaN_int [.c (.v (.int .i64 x0))]) (fin TT con_cmp_isNaN_int Try.f111.results.toList [.c .sc] [.c (.v (.int .i64 x0))] kk) = S_cmp_isNaN_int x0 (fun r0 => kk (.one (.c (.v (.bool r0)))) []) := by
  rw [g_cmp_isNaN_int]
  rfl
theorem clok_cmp_isNaN_int : ConOK Try.prog cl_cmp_isNaN_int := consNil
theorem cok_cmp_isNaN_int : ConsOK Try.prog 6 cs_cmp_isNaN_int := ⟨clok_cmp_isNaN_int, inlNil, ovNil⟩
theorem i_cmp_isNaN_int {vs : List A1} {kk : AV → List A1 → Prop} {motive : List A1 → Prop} (h : con_cmp_isNaN_int.F vs kk) (H : ∀ (x0 : Int), F_cmp_isNaN_int x0 (fun r0 => kk (.one (.c (.v (.bool r0)))) []) → motive [.c (.v (.int .i64 x0))]) : motive vs := by
  unfold con_cmp_isNaN_int at h
  dsimp only at h
  split at h
  · exact H _ h
  · exact h.elim
theorem h_cmp_isNaN_int : Holds Try.prog 111 con_cmp_isNaN_int := by
  refine holds_of_ev (rt := [.c .sc]) (T := TT) (Γ := cs_cmp_isNaN_int) (an := an_cmp_isNaN_int) (N := 6) (c := Try.f111.body.getD .skip) Try.func111 (by kernel_rfl) Try.ntmps111 (by decide) (by decide) mixed tabOK cok_cmp_isNaN_int (by kernel_rfl) ?_
  intro vs kk _ hF
  exact i_cmp_isNaN_int (motive := fun vs => Goes (ev TT cs_cmp_isNaN_int 6 an_cmp_isNaN_int (Try.f111.body.getD .skip) (st0 con_cmp_isNaN_int vs) (fin TT con_cmp_isNaN_int Try.f111.results.toList [.c .sc] vs kk))) hF (fun x0 hF => goes_of (e_cmp_isNaN_int x0 kk) (F_cmp_isNaN_int_S hF))
def con_cmp_Compare_int : Con := ⟨[.rd, .rd], true, [.c (.sc), .c (.sc)], fun vs k => match vs with
    | [.c (.v (.int .i64 x0)), .c (.v (.int .i64 y1))] => F_cmp_Compare_int x0 y1 (fun r0 => k (.one (.c (.v (.int .i64 r0)))) [])
    | _ => False, false⟩
def cl_cmp_Compare_int : List (FuncId × Con) := [(111, con_cmp_isNaN_int)]
def an_cmp_Compare_int : Ann := ⟨[], [], [], []⟩
def cs_cmp_Compare_int : Cons := ⟨cl_cmp_Compare_int, [], 0, [], [], []⟩
def fin_cmp_Compare_int (x0 : Int) (y1 : Int) (kk : AV → List A1 → Prop) : Kt := fin TT con_cmp_Compare_int Try.f96.results.toList [.c .sc] [.c (.v (.int .i64 x0)), .c (.v (.int .i64 y1))] kk
theorem g_cmp_Compare_int (x0 : Int) (y1 : Int) (kk : AV → List A1 → Prop) :
    ev TT cs_cmp_Compare_int 20 an_cmp_Compare_int (Try.f96.body.getD .skip) (st0 con_cmp_Compare_int [.c (.v (.int .i64 x0)), .c (.v (.int .i64 y1))]) (fin TT con_cmp_Compare_int Try.f96.results.toList [.c .sc] [.c (.v (.int .i64 x0)), .c (.v (.int .i64 y1))] kk) = G_cmp_Compare_int x0 y1 (fun r0 => kk (.one (.c (.v (.int .i64 r0)))) []) := by kernel_rfl
theorem e_cmp_Compare_int (x0 : Int) (y1 : Int) (kk : AV → List A1 → Prop) :
    ev TT cs_cmp_Compare_int 20 an_cmp_Compare_int (Try.f96.body.getD .skip) (st0 con_cmp_Compare_int [.c (.v (.int .i64 x0)), .c (.v (.int .i64 y1))]) (fin TT con_cmp_Compare_int Try.f96.results.toList [.c .sc] [.c (.v (.int .i64 x0)), .c (.v (.int .i64 y1))] kk) = S_cmp_Compare_int x0 y1 (fun r0 => kk (.one (.c (.v (.int .i64 r0)))) []) := by
  rw [g_cmp_Compare_int]
  rfl
theorem clok_cmp_Compare_int : ConOK Try.prog cl_cmp_Compare_int := consCons h_cmp_isNaN_int ⟨Try.f111, Try.func111, by kernel_rfl, ne_of_beq (by kernel_rfl)⟩ (consNil)
theorem cok_cmp_Compare_int : ConsOK Try.prog 20 cs_cmp_Compare_int := ⟨clok_cmp_Compare_int, inlNil, ovNil⟩
theorem i_cmp_Compare_int {vs : List A1} {kk : AV → List A1 → Prop} {motive : List A1 → Prop} (h : con_cmp_Compare_int.F vs kk) (H : ∀ (x0 : Int) (y1 : Int), F_cmp_Compare_int x0 y1 (fun r0 => kk (.one (.c (.v (.int .i64 r0)))) []) → motive [.c (.v (.int .i64 x0)), .c (.v (.int .i64 y1))]) : motive vs := by
  unfold con_cmp_Compare_int at h
  dsimp only at h
  split at h
  · exact H _ _ h
  · exact h.elim
theorem h_cmp_Compare_int : Holds Try.prog 96 con_cmp_Compare_int := by
  refine holds_of_ev (rt := [.c .sc]) (T := TT) (Γ := cs_cmp_Compare_int) (an := an_cmp_Compare_int) (N := 20) (c := Try.f96.body.getD .skip) Try.func96 (by kernel_rfl) Try.ntmps96 (by decide) (by decide) mixed tabOK cok_cmp_Compare_int (by kernel_rfl) ?_
  intro vs kk _ hF
  exact i_cmp_Compare_int (motive := fun vs => Goes (ev TT cs_cmp_Compare_int 20 an_cmp_Compare_int (Try.f96.body.getD .skip) (st0 con_cmp_Compare_int vs) (fin TT con_cmp_Compare_int Try.f96.results.toList [.c .sc] vs kk))) hF (fun x0 y1 hF => goes_of (e_cmp_Compare_int x0 y1 kk) (F_cmp_Compare_int_S hF))
def con_impl_placeOf_1 : Con := ⟨[.rd, .rd], true, [.agg [.sc, .sc], .c (.sc)], fun vs k => match vs with
    | [.agg [.v (.int .i64 timed0Key), .v (.int .i64 timed0Until)], .c (.v (.int .i64 key1))] => F_impl_placeOf_1 timed0Key timed0Until key1 (fun r0 => k (.one (.c (.v (.int .i64 r0)))) [])
    | _ => False, false⟩
def cl_impl_placeOf_1 : List (FuncId × Con) := [(96, con_cmp_Compare_int)]
def an_impl_placeOf_1 : Ann := ⟨[], [], [], []⟩
def cs_impl_placeOf_1 : Cons := ⟨cl_impl_placeOf_1, [], 0, [], [], []⟩
def fin_impl_placeOf_1 (timed0Key : Int) (timed0Until : Int) (key1 : Int) (kk : AV → List A1 → Prop) : Kt := fin TT con_impl_placeOf_1 Try.f95.results.toList [.c .sc] [.agg [.v (.int .i64 timed0Key), .v (.int .i64 timed0Until)], .c (.v (.int .i64 key1))] kk
theorem g_impl_placeOf_1 (timed0Key : Int) (timed0Until : Int) (key1 : Int) (kk : AV → List A1 → Prop) :
    ev TT cs_impl_placeOf_1 9 an_impl_placeOf_1 (Try.f95.body.getD .skip) (st0 con_impl_placeOf_1 [.agg [.v (.int .i64 timed0Key), .v (.int .i64 timed0Until)], .c (.v (.int .i64 key1))]) (fin TT con_impl_placeOf_1 Try.f95.results.toList [.c .sc] [.agg [.v (.int .i64 timed0Key), .v (.int .i64 timed0Until)], .c (.v (.int .i64 key1))] kk) = G_impl_placeOf_1 timed0Key timed0Until key1 (fun r0 => kk (.one (.c (.v (.int .i64 r0)))) []) := by kernel_rfl
theorem e_impl_placeOf_1 (timed0Key : Int) (timed0Until : Int) (key1 : Int) (kk : AV → List A1 → Prop) :
    ev TT cs_impl_placeOf_1 9 an_impl_placeOf_1 (Try.f95.body.getD .skip) (st0 con_impl_placeOf_1 [.agg [.v (.int .i64 timed0Key), .v (.int .i64 timed0Until)], .c (.v (.int .i64 key1))]) (fin TT con_impl_placeOf_1 Try.f95.results.toList [.c .sc] [.agg [.v (.int .i64 timed0Key), .v (.int .i64 timed0Until)], .c (.v (.int .i64 key1))] kk) = S_impl_placeOf_1 timed0Key timed0Until key1 (fun r0 => kk (.one (.c (.v (.int .i64 r0)))) []) := by
  rw [g_impl_placeOf_1]
  rfl
theorem clok_impl_placeOf_1 : ConOK Try.prog cl_impl_placeOf_1 := consCons h_cmp_Compare_int ⟨Try.f96, Try.func96, by kernel_rfl, ne_of_beq (by kernel_rfl)⟩ (consNil)
theorem cok_impl_placeOf_1 : ConsOK Try.prog 9 cs_impl_placeOf_1 := ⟨clok_impl_placeOf_1, inlNil, ovNil⟩
theorem i_impl_placeOf_1 {vs : List A1} {kk : AV → List A1 → Prop} {motive : List A1 → Prop} (h : con_impl_placeOf_1.F vs kk) (H : ∀ (timed0Key : Int) (timed0Until : Int) (key1 : Int), F_impl_placeOf_1 timed0Key timed0Until key1 (fun r0 => kk (.one (.c (.v (.int .i64 r0)))) []) → motive [.agg [.v (.int .i64 timed0Key), .v (.int .i64 timed0Until)], .c (.v (.int .i64 key1))]) : motive vs := by
  unfold con_impl_placeOf_1 at h
  dsimp only at h
  split at h
  · exact H _ _ _ h
  · exact h.elim
theorem h_impl_placeOf_1 : Holds Try.prog 95 con_impl_placeOf_1 := by
  refine holds_of_ev (rt := [.c .sc]) (T := TT) (Γ := cs_impl_placeOf_1) (an := an_impl_placeOf_1) (N := 9) (c := Try.f95.body.getD .skip) Try.func95 (by kernel_rfl) Try.ntmps95 (by decide) (by decide) mixed tabOK cok_impl_placeOf_1 (by kernel_rfl) ?_
  intro vs kk _ hF
  exact i_impl_placeOf_1 (motive := fun vs => Goes (ev TT cs_impl_placeOf_1 9 an_impl_placeOf_1 (Try.f95.body.getD .skip) (st0 con_impl_placeOf_1 vs) (fin TT con_impl_placeOf_1 Try.f95.results.toList [.c .sc] vs kk))) hF (fun timed0Key timed0Until key1 hF => goes_of (e_impl_placeOf_1 timed0Key timed0Until key1 kk) (F_impl_placeOf_1_S hF))
def con_slices_BinarySearchFunc_Timed_Timed_int : Con := ⟨[.rd, .rd, .rd], true, [.c (.sl .ii), .c (.sc), .c (.fn)], fun vs k => match vs with
    | [.c (.ro .ii x0), .c (.v (.int .i64 target1)), .c (.v (.func (.func 95) ⟨[]⟩ ⟨[]⟩))] => F_slices_BinarySearchFunc_Timed_Timed_int_placeOf_1 x0 target1 (fun r0 r1 => k (.tup [.c (.v (.int .i64 r0)), .c (.v (.bool r1))]) [])
    | _ => False, false⟩
def cl_slices_BinarySearchFunc_Timed_Timed_int_placeOf_1 : List (FuncId × Con) := [(95, con_impl_placeOf_1)]
def nm0_slices_BinarySearchFunc_Timed_Timed_int_placeOf_1 : List NStep := [.keep [0, 1, 2, 8, 9, 10] []]
def an_slices_BinarySearchFunc_Timed_Timed_int_placeOf_1 : Ann := ⟨[], [(3, nm0_slices_BinarySearchFunc_Timed_Timed_int_placeOf_1)], [], []⟩
def cs_slices_BinarySearchFunc_Timed_Timed_int_placeOf_1 : Cons := ⟨cl_slices_BinarySearchFunc_Timed_Timed_int_placeOf_1, [], 0, [], [], []⟩
def can0_slices_BinarySearchFunc_Timed_Timed_int_placeOf_1 (target1 : Int) (x0 : List (Int × Int)) (xn8 : Int) (xi9 : Int) (xj10 : Int) : St := ⟨[(0, .one (.c (.ro .ii x0))), (1, .one (.c (.v (.int .i64 target1)))), (2, .one (.c (.v (.func (.func 95) ⟨[]⟩ ⟨[]⟩)))), (8, .one (.c (.v (.int .i64 xn8)))), (9, .one (.c (.v (.int .i64 xi9)))), (10, .one (.c (.v (.int .i64 xj10))))], []⟩
def fin_slices_BinarySearchFunc_Timed_Timed_int_placeOf_1 (x0 : List (Int × Int)) (target1 : Int) (kk : AV → List A1 → Prop) : Kt := fin TT con_slices_BinarySearchFunc_Timed_Timed_int Try.f94.results.toList [.c .sc, .c .sc] [.c (.ro .ii x0), .c (.v (.int .i64 target1)), .c (.v (.func (.func 95) ⟨[]⟩ ⟨[]⟩))] kk
def kt0_slices_BinarySearchFunc_Timed_Timed_int_placeOf_1 (kf : Kt) : Kt := blockK 0 (seqK (evF TT cs_slices_BinarySearchFunc_Timed_Timed_int_placeOf_1 49 an_slices_BinarySearchFunc_Timed_Timed_int_placeOf_1 Try.f94 [1, 1, 1, 1]) (kf))
theorem r0_slices_BinarySearchFunc_Timed_Timed_int_placeOf_1 (x0 : List (Int × Int)) (target1 : Int) (xn8 : Int) (kk : AV → List A1 → Prop) (n : Nat) (xi9 : Int) (xj10 : Int) :
    iter (evF TT cs_slices_BinarySearchFunc_Timed_Timed_int_placeOf_1 49 an_slices_BinarySearchFunc_Timed_Timed_int_placeOf_1 Try.f94 [1, 1, 1, 0, 0, 0]) nm0_slices_BinarySearchFunc_Timed_Timed_int_placeOf_1 (kt0_slices_BinarySearchFunc_Timed_Timed_int_placeOf_1 (fin_slices_BinarySearchFunc_Timed_Timed_int_placeOf_1 x0 target1 kk)) (n + 1) (can0_slices_BinarySearchFunc_Timed_Timed_int_placeOf_1 target1 x0 xn8 xi9 xj10) = T0_slices_BinarySearchFunc_Timed_Timed_int_placeOf_1 target1 x0 xn8 xi9 xj10 (fun r0 r1 => kk (.tup [.c (.v (.int .i64 r0)), .c (.v (.bool r1))]) []) (fun xi9 xj10 => iter (evF TT cs_slices_BinarySearchFunc_Timed_Timed_int_placeOf_1 49 an_slices_BinarySearchFunc_Timed_Timed_int_placeOf_1 Try.f94 [1, 1, 1, 0, 0, 0]) nm0_slices_BinarySearchFunc_Timed_Timed_int_placeOf_1 (kt0_slices_BinarySearchFunc_Timed_Timed_int_placeOf_1 (fin_slices_BinarySearchFunc_Timed_Timed_int_placeOf_1 x0 target1 kk)) n (can0_slices_BinarySearchFunc_Timed_Timed_int_placeOf_1 target1 x0 xn8 xi9 xj10)) := by kernel_rfl
theorem l0_slices_BinarySearchFunc_Timed_Timed_int_placeOf_1 (x0 : List (Int × Int)) (target1 : Int) (xn8 : Int) (kk : AV → List A1 → Prop) : ∀ (n : Nat) (xi9 : Int) (xj10 : Int), iter (evF TT cs_slices_BinarySearchFunc_Timed_Timed_int_placeOf_1 49 an_slices_BinarySearchFunc_Timed_Timed_int_placeOf_1 Try.f94 [1, 1, 1, 0, 0, 0]) nm0_slices_BinarySearchFunc_Timed_Timed_int_placeOf_1 (kt0_slices_BinarySearchFunc_Timed_Timed_int_placeOf_1 (fin_slices_BinarySearchFunc_Timed_Timed_int_placeOf_1 x0 target1 kk)) n (can0_slices_BinarySearchFunc_Timed_Timed_int_placeOf_1 target1 x0 xn8 xi9 xj10) = L0_slices_BinarySearchFunc_Timed_Timed_int_placeOf_1 target1 x0 xn8 (fun r0 r1 => kk (.tup [.c (.v (.int .i64 r0)), .c (.v (.bool r1))]) []) n xi9 xj10 := by
  intro n
  induction n with
  | zero => intros; rfl
  | succ n ih =>
    intro xi9 xj10
    rw [r0_slices_BinarySearchFunc_Timed_Timed_int_placeOf_1 x0 target1 xn8 kk n xi9 xj10]
    have hb : (fun xi9 xj10 => iter (evF TT cs_slices_BinarySearchFunc_Timed_Timed_int_placeOf_1 49 an_slices_BinarySearchFunc_Timed_Timed_int_placeOf_1 Try.f94 [1, 1, 1, 0, 0, 0]) nm0_slices_BinarySearchFunc_Timed_Timed_int_placeOf_1 (kt0_slices_BinarySearchFunc_Timed_Timed_int_placeOf_1 (fin_slices_BinarySearchFunc_Timed_Timed_int_placeOf_1 x0 target1 kk)) n (can0_slices_BinarySearchFunc_Timed_Timed_int_placeOf_1 target1 x0 xn8 xi9 xj10)) = L0_slices_BinarySearchFunc_Timed_Timed_int_placeOf_1 target1 x0 xn8 (fun r0 r1 => kk (.tup [.c (.v (.int .i64 r0)), .c (.v (.bool r1))]) []) n := by
      funext xi9 xj10; exact ih xi9 xj10
    rw [hb]
    rfl
theorem g_slices_BinarySearchFunc_Timed_Timed_int_placeOf_1 (x0 : List (Int × Int)) (target1 : Int) (kk : AV → List A1 → Prop) :
    ev TT cs_slices_BinarySearchFunc_Timed_Timed_int_placeOf_1 49 an_slices_BinarySearchFunc_Timed_Timed_int_placeOf_1 (Try.f94.body.getD .skip) (st0 con_slices_BinarySearchFunc_Timed_Timed_int [.c (.ro .ii x0), .c (.v (.int .i64 target1)), .c (.v (.func (.func 95) ⟨[]⟩ ⟨[]⟩))]) (fin TT con_slices_BinarySearchFunc_Timed_Timed_int Try.f94.results.toList [.c .sc, .c .sc] [.c (.ro .ii x0), .c (.v (.int .i64 target1)), .c (.v (.func (.func 95) ⟨[]⟩ ⟨[]⟩))] kk) = G_slices_BinarySearchFunc_Timed_Timed_int_placeOf_1 x0 target1 (fun target1 x0 xn8 xi9 xj10 => ∃ j, iter (evF TT cs_slices_BinarySearchFunc_Timed_Timed_int_placeOf_1 49 an_slices_BinarySearchFunc_Timed_Timed_int_placeOf_1 Try.f94 [1, 1, 1, 0, 0, 0]) nm0_slices_BinarySearchFunc_Timed_Timed_int_placeOf_1 (kt0_slices_BinarySearchFunc_Timed_Timed_int_placeOf_1 (fin_slices_BinarySearchFunc_Timed_Timed_int_placeOf_1 x0 target1 kk)) j (can0_slices_BinarySearchFunc_Timed_Timed_int_placeOf_1 target1 x0 xn8 xi9 xj10)) := by kernel_rfl
theorem e_slices_BinarySearchFunc_Timed_Timed_int_placeOf_1 (x0 : List (Int × Int)) (target1 : Int) (kk : AV → List A1 → Prop) :
    ev TT cs_slices_BinarySearchFunc_Timed_Timed_int_placeOf_1 49 an_slices_BinarySearchFunc_Timed_Timed_int_placeOf_1 (Try.f94.body.getD .skip) (st0 con_slices_BinarySearchFunc_Timed_Timed_int [.c (.ro .ii x0), .c (.v (.int .i64 target1)), .c (.v (.func (.func 95) ⟨[]⟩ ⟨[]⟩))]) (fin TT con_slices_BinarySearchFunc_Timed_Timed_int Try.f94.results.toList [.c .sc, .c .sc] [.c (.ro .ii x0), .c (.v (.int .i64 target1)), .c (.v (.func (.func 95) ⟨[]⟩ ⟨[]⟩))] kk) = S_slices_BinarySearchFunc_Timed_Timed_int_placeOf_1 x0 target1 (fun r0 r1 => kk (.tup [.c (.v (.int .i64 r0)), .c (.v (.bool r1))]) []) := by
  rw [g_slices_BinarySearchFunc_Timed_Timed_int_placeOf_1]
  have hi0 : (fun target1 x0 xn8 xi9 xj10 => ∃ j, iter (evF TT cs_slices_BinarySearchFunc_Timed_Timed_int_placeOf_1 49 an_slices_BinarySearchFunc_Timed_Timed_int_placeOf_1 Try.f94 [1, 1, 1, 0, 0, 0]) nm0_slices_BinarySearchFunc_Timed_Timed_int_placeOf_1 (kt0_slices_BinarySearchFunc_Timed_Timed_int_placeOf_1 (fin_slices_BinarySearchFunc_Timed_Timed_int_placeOf_1 x0 target1 kk)) j (can0_slices_BinarySearchFunc_Timed_Timed_int_placeOf_1 target1 x0 xn8 xi9 xj10)) = (fun target1 x0 xn8 xi9 xj10 => ∃ j, L0_slices_BinarySearchFunc_Timed_Timed_int_placeOf_1 target1 x0 xn8 (fun r0 r1 => kk (.tup [.c (.v (.int .i64 r0)), .c (.v (.bool r1))]) []) j xi9 xj10) := by
    funext target1 x0 xn8 xi9 xj10
    refine congrArg Exists (funext fun j => ?_)
    rw [l0_slices_BinarySearchFunc_Timed_Timed_int_placeOf_1 x0 target1 xn8 kk j xi9 xj10]
  rw [hi0]
  rfl
theorem clok_slices_BinarySearchFunc_Timed_Timed_int_placeOf_1 : ConOK Try.prog cl_slices_BinarySearchFunc_Timed_Timed_int_placeOf_1 := consCons h_impl_placeOf_1 ⟨Try.f95, Try.func95, by kernel_rfl, ne_of_beq (by kernel_rfl)⟩ (consNil)
theorem cok_slices_BinarySearchFunc_Timed_Timed_int_placeOf_1 : ConsOK Try.prog 49 cs_slices_BinarySearchFunc_Timed_Timed_int_placeOf_1 := ⟨clok_slices_BinarySearchFunc_Timed_Timed_int_placeOf_1, inlNil, ovNil⟩
theorem i_slices_BinarySearchFunc_Timed_Timed_int_placeOf_1 {vs : List A1} {kk : AV → List A1 → Prop} {motive : List A1 → Prop} (h : con_slices_BinarySearchFunc_Timed_Timed_int.F vs kk) (H : ∀ (x0 : List (Int × Int)) (target1 : Int), F_slices_BinarySearchFunc_Timed_Timed_int_placeOf_1 x0 target1 (fun r0 r1 => kk (.tup [.c (.v (.int .i64 r0)), .c (.v (.bool r1))]) []) → motive [.c (.ro .ii x0), .c (.v (.int .i64 target1)), .c (.v (.func (.func 95) ⟨[]⟩ ⟨[]⟩))]) : motive vs := by
  unfold con_slices_BinarySearchFunc_Timed_Timed_int at h
  dsimp only at h
  split at h
  · exact H _ _ h
  · exact h.elim
theorem h_slices_BinarySearchFunc_Timed_Timed_int : Holds Try.prog 94 con_slices_BinarySearchFunc_Timed_Timed_int := by
  refine holds_of_ev (rt := [.c .sc, .c .sc]) (T := TT) (Γ := cs_slices_BinarySearchFunc_Timed_Timed_int_placeOf_1) (an := an_slices_BinarySearchFunc_Timed_Timed_int_placeOf_1) (N := 49) (c := Try.f94.body.getD .skip) Try.func94 (by kernel_rfl) Try.ntmps94 (by decide) (by decide) mixed tabOK cok_slices_BinarySearchFunc_Timed_Timed_int_placeOf_1 (by kernel_rfl) ?_
  intro vs kk _ hF
  exact i_slices_BinarySearchFunc_Timed_Timed_int_placeOf_1 (motive := fun vs => Goes (ev TT cs_slices_BinarySearchFunc_Timed_Timed_int_placeOf_1 49 an_slices_BinarySearchFunc_Timed_Timed_int_placeOf_1 (Try.f94.body.getD .skip) (st0 con_slices_BinarySearchFunc_Timed_Timed_int vs) (fin TT con_slices_BinarySearchFunc_Timed_Timed_int Try.f94.results.toList [.c .sc, .c .sc] vs kk))) hF (fun x0 target1 hF => goes_of (e_slices_BinarySearchFunc_Timed_Timed_int_placeOf_1 x0 target1 kk) (F_slices_BinarySearchFunc_Timed_Timed_int_placeOf_1_S hF))
def con_impl_placeOf : Con := ⟨[.rd, .rd], true, [.c (.sl .ii), .c (.sc)], fun vs k => match vs with
    | [.c (.ro .ii list0), .c (.v (.int .i64 key1))] => F_impl_placeOf list0 key1 (fun r0 r1 => k (.tup [.c (.v (.int .i64 r0)), .c (.v (.bool r1))]) [])
    | _ => False, false⟩
def cl_impl_placeOf : List (FuncId × Con) := [(94, con_slices_BinarySearchFunc_Timed_Timed_int)]
def an_impl_placeOf : Ann := ⟨[], [], [], []⟩
def cs_impl_placeOf : Cons := ⟨cl_impl_placeOf, [], 0, [], [], []⟩
def fin_impl_placeOf (list0 : List (Int × Int)) (key1 : Int) (kk : AV → List A1 → Prop) : Kt := fin TT con_impl_placeOf Try.f62.results.toList [.c .sc, .c .sc] [.c (.ro .ii list0), .c (.v (.int .i64 key1))] kk
theorem g_impl_placeOf (list0 : List (Int × Int)) (key1 : Int) (kk : AV → List A1 → Prop) :
    ev TT cs_impl_placeOf 11 an_impl_placeOf (Try.f62.body.getD .skip) (st0 con_impl_placeOf [.c (.ro .ii list0), .c (.v (.int .i64 key1))]) (fin TT con_impl_placeOf Try.f62.results.toList [.c .sc, .c .sc] [.c (.ro .ii list0), .c (.v (.int .i64 key1))] kk) = G_impl_placeOf list0 key1 (fun r0 r1 => kk (.tup [.c (.v (.int .i64 r0)), .c (.v (.bool r1))]) []) := by kernel_rfl
theorem e_impl_placeOf (list0 : List (Int × Int)) (key1 : Int) (kk : AV → List A1 → Prop) :
    ev TT cs_impl_placeOf 11 an_impl_placeOf (Try.f62.body.getD .skip) (st0 con_impl_placeOf [.c (.ro .ii list0), .c (.v (.int .i64 key1))]) (fin TT con_impl_placeOf Try.f62.results.toList [.c .sc, .c .sc] [.c (.ro .ii list0), .c (.v (.int .i64 key1))] kk) = S_impl_placeOf list0 key1 (fun r0 r1 => kk (.tup [.c (.v (.int .i64 r0)), .c (.v (.bool r1))]) []) := by
  rw [g_impl_placeOf]
  rfl
theorem clok_impl_placeOf : ConOK Try.prog cl_impl_placeOf := consCons h_slices_BinarySearchFunc_Timed_Timed_int ⟨Try.f94, Try.func94, by kernel_rfl, ne_of_beq (by kernel_rfl)⟩ (consNil)
theorem cok_impl_placeOf : ConsOK Try.prog 11 cs_impl_placeOf := ⟨clok_impl_placeOf, inlNil, ovNil⟩
theorem i_impl_placeOf {vs : List A1} {kk : AV → List A1 → Prop} {motive : List A1 → Prop} (h : con_impl_placeOf.F vs kk) (H : ∀ (list0 : List (Int × Int)) (key1 : Int), F_impl_placeOf list0 key1 (fun r0 r1 => kk (.tup [.c (.v (.int .i64 r0)), .c (.v (.bool r1))]) []) → motive [.c (.ro .ii list0), .c (.v (.int .i64 key1))]) : motive vs := by
  unfold con_impl_placeOf at h
  dsimp only at h
  split at h
  · exact H _ _ h
  · exact h.elim
theorem h_impl_placeOf : Holds Try.prog 62 con_impl_placeOf := by
  refine holds_of_ev (rt := [.c .sc, .c .sc]) (T := TT) (Γ := cs_impl_placeOf) (an := an_impl_placeOf) (N := 11) (c := Try.f62.body.getD .skip) Try.func62 (by kernel_rfl) Try.ntmps62 (by decide) (by decide) mixed tabOK cok_impl_placeOf (by kernel_rfl) ?_
  intro vs kk _ hF
  exact i_impl_placeOf (motive := fun vs => Goes (ev TT cs_impl_placeOf 11 an_impl_placeOf (Try.f62.body.getD .skip) (st0 con_impl_placeOf vs) (fin TT con_impl_placeOf Try.f62.results.toList [.c .sc, .c .sc] vs kk))) hF (fun list0 key1 hF => goes_of (e_impl_placeOf list0 key1 kk) (F_impl_placeOf_S hF))
def con_impl_Timed_counts : Con := ⟨[.rd, .rd], true, [.agg [.sc, .sc], .c (.sc)], fun vs k => match vs with
    | [.agg [.v (.int .i64 timed0Key), .v (.int .i64 timed0Until)], .c (.v (.int .i64 now1))] => F_impl_Timed_counts timed0Key timed0Until now1 (fun r0 => k (.one (.c (.v (.bool r0)))) [])
    | _ => False, false⟩
def cl_impl_Timed_counts : List (FuncId × Con) := []
def an_impl_Timed_counts : Ann := ⟨[], [], [], []⟩
def cs_impl_Timed_counts : Cons := ⟨cl_impl_Timed_counts, [], 0, [], [], []⟩
def fin_impl_Timed_counts (timed0Key : Int) (timed0Until : Int) (now1 : Int) (kk : AV → List A1 → Prop) : Kt := fin TT con_impl_Timed_counts Try.f64.results.toList [.c .sc] [.agg [.v (.int .i64 timed0Key), .v (.int .i64 timed0Until)], .c (.v (.int .i64 now1))] kk
theorem g_impl_Timed_counts (timed0Key : Int) (timed0Until : Int) (now1 : Int) (kk : AV → List A1 → Prop) :
    ev TT cs_impl_Timed_counts 9 an_impl_Timed_counts (Try.f64.body.getD .skip) (st0 con_impl_Timed_counts [.agg [.v (.int .i64 timed0Key), .v (.int .i64 timed0Until)], .c (.v (.int .i64 now1))]) (fin TT con_impl_Timed_counts Try.f64.results.toList [.c .sc] [.agg [.v (.int .i64 timed0Key), .v (.int .i64 timed0Until)], .c (.v (.int .i64 now1))] kk) = G_impl_Timed_counts timed0Key timed0Until now1 (fun r0 => kk (.one (.c (.v (.bool r0)))) []) := by kernel_rfl
theorem e_impl_Timed_counts (timed0Key : Int) (timed0Until : Int) (now1 : Int) (kk : AV → List A1 → Prop) :
    ev TT cs_impl_Timed_counts 9 an_impl_Timed_counts (Try.f64.body.getD .skip) (st0 con_impl_Timed_counts [.agg [.v (.int .i64 timed0Key), .v (.int .i64 timed0Until)], .c (.v (.int .i64 now1))]) (fin TT con_impl_Timed_counts Try.f64.results.toList [.c .sc] [.agg [.v (.int .i64 timed0Key), .v (.int .i64 timed0Until)], .c (.v (.int .i64 now1))] kk) = S_impl_Timed_counts timed0Key timed0Until now1 (fun r0 => kk (.one (.c (.v (.bool r0)))) []) := by
  rw [g_impl_Timed_counts]
  rfl
theorem clok_impl_Timed_counts : ConOK Try.prog cl_impl_Timed_counts := consNil
theorem cok_impl_Timed_counts : ConsOK Try.prog 9 cs_impl_Timed_counts := ⟨clok_impl_Timed_counts, inlNil, ovNil⟩
theorem i_impl_Timed_counts {vs : List A1} {kk : AV → List A1 → Prop} {motive : List A1 → Prop} (h : con_impl_Timed_counts.F vs kk) (H : ∀ (timed0Key : Int) (timed0Until : Int) (now1 : Int), F_impl_Timed_counts timed0Key timed0Until now1 (fun r0 => kk (.one (.c (.v (.bool r0)))) []) → motive [.agg [.v (.int .i64 timed0Key), .v (.int .i64 timed0Until)], .c (.v (.int .i64 now1))]) : motive vs := by
  unfold con_impl_Timed_counts at h
  dsimp only at h
  split at h
  · exact H _ _ _ h
  · exact h.elim
theorem h_impl_Timed_counts : Holds Try.prog 64 con_impl_Timed_counts := by
  refine holds_of_ev (rt := [.c .sc]) (T := TT) (Γ := cs_impl_Timed_counts) (an := an_impl_Timed_counts) (N := 9) (c := Try.f64.body.getD .skip) Try.func64 (by kernel_rfl) Try.ntmps64 (by decide) (by decide) mixed tabOK cok_impl_Timed_counts (by kernel_rfl) ?_
  intro vs kk _ hF
  exact i_impl_Timed_counts (motive := fun vs => Goes (ev TT cs_impl_Timed_counts 9 an_impl_Timed_counts (Try.f64.body.getD .skip) (st0 con_impl_Timed_counts vs) (fin TT con_impl_Timed_counts Try.f64.results.toList [.c .sc] vs kk))) hF (fun timed0Key timed0Until now1 hF => goes_of (e_impl_Timed_counts timed0Key timed0Until now1 kk) (F_impl_Timed_counts_S hF))
def con_impl_LiveAt : Con := ⟨[.rd, .rd, .rd], true, [.c (.sl .ii), .c (.sc), .c (.sc)], fun vs k => match vs with
    | [.c (.ro .ii list0), .c (.v (.int .i64 key1)), .c (.v (.int .i64 now2))] => F_impl_LiveAt list0 key1 now2 (fun r0 => k (.one (.c (.v (.bool r0)))) [])
    | _ => False, false⟩
def cl_impl_LiveAt : List (FuncId × Con) := [(23, con_impl_ValidTimed), (62, con_impl_placeOf), (64, con_impl_Timed_counts)]
def an_impl_LiveAt : Ann := ⟨[], [], [], []⟩
def cs_impl_LiveAt : Cons := ⟨cl_impl_LiveAt, [], 0, [], [], []⟩
def fin_impl_LiveAt (list0 : List (Int × Int)) (key1 : Int) (now2 : Int) (kk : AV → List A1 → Prop) : Kt := fin TT con_impl_LiveAt Try.f30.results.toList [.c .sc] [.c (.ro .ii list0), .c (.v (.int .i64 key1)), .c (.v (.int .i64 now2))] kk
theorem g_impl_LiveAt (list0 : List (Int × Int)) (key1 : Int) (now2 : Int) (kk : AV → List A1 → Prop) :
    ev TT cs_impl_LiveAt 27 an_impl_LiveAt (Try.f30.body.getD .skip) (st0 con_impl_LiveAt [.c (.ro .ii list0), .c (.v (.int .i64 key1)), .c (.v (.int .i64 now2))]) (fin TT con_impl_LiveAt Try.f30.results.toList [.c .sc] [.c (.ro .ii list0), .c (.v (.int .i64 key1)), .c (.v (.int .i64 now2))] kk) = G_impl_LiveAt list0 key1 now2 (fun r0 => kk (.one (.c (.v (.bool r0)))) []) := by kernel_rfl
theorem e_impl_LiveAt (list0 : List (Int × Int)) (key1 : Int) (now2 : Int) (kk : AV → List A1 → Prop) :
    ev TT cs_impl_LiveAt 27 an_impl_LiveAt (Try.f30.body.getD .skip) (st0 con_impl_LiveAt [.c (.ro .ii list0), .c (.v (.int .i64 key1)), .c (.v (.int .i64 now2))]) (fin TT con_impl_LiveAt Try.f30.results.toList [.c .sc] [.c (.ro .ii list0), .c (.v (.int .i64 key1)), .c (.v (.int .i64 now2))] kk) = S_impl_LiveAt list0 key1 now2 (fun r0 => kk (.one (.c (.v (.bool r0)))) []) := by
  rw [g_impl_LiveAt]
  rfl
theorem clok_impl_LiveAt : ConOK Try.prog cl_impl_LiveAt := consCons h_impl_ValidTimed ⟨Try.f23, Try.func23, by kernel_rfl, ne_of_beq (by kernel_rfl)⟩ (consCons h_impl_placeOf ⟨Try.f62, Try.func62, by kernel_rfl, ne_of_beq (by kernel_rfl)⟩ (consCons h_impl_Timed_counts ⟨Try.f64, Try.func64, by kernel_rfl, ne_of_beq (by kernel_rfl)⟩ (consNil)))
theorem cok_impl_LiveAt : ConsOK Try.prog 27 cs_impl_LiveAt := ⟨clok_impl_LiveAt, inlNil, ovNil⟩
theorem i_impl_LiveAt {vs : List A1} {kk : AV → List A1 → Prop} {motive : List A1 → Prop} (h : con_impl_LiveAt.F vs kk) (H : ∀ (list0 : List (Int × Int)) (key1 : Int) (now2 : Int), F_impl_LiveAt list0 key1 now2 (fun r0 => kk (.one (.c (.v (.bool r0)))) []) → motive [.c (.ro .ii list0), .c (.v (.int .i64 key1)), .c (.v (.int .i64 now2))]) : motive vs := by
  unfold con_impl_LiveAt at h
  dsimp only at h
  split at h
  · exact H _ _ _ h
  · exact h.elim
theorem h_impl_LiveAt : Holds Try.prog 30 con_impl_LiveAt := by
  refine holds_of_ev (rt := [.c .sc]) (T := TT) (Γ := cs_impl_LiveAt) (an := an_impl_LiveAt) (N := 27) (c := Try.f30.body.getD .skip) Try.func30 (by kernel_rfl) Try.ntmps30 (by decide) (by decide) mixed tabOK cok_impl_LiveAt (by kernel_rfl) ?_
  intro vs kk _ hF
  exact i_impl_LiveAt (motive := fun vs => Goes (ev TT cs_impl_LiveAt 27 an_impl_LiveAt (Try.f30.body.getD .skip) (st0 con_impl_LiveAt vs) (fin TT con_impl_LiveAt Try.f30.results.toList [.c .sc] vs kk))) hF (fun list0 key1 now2 hF => goes_of (e_impl_LiveAt list0 key1 now2 kk) (F_impl_LiveAt_S hF))
def con_laws_eqTimed : Con := ⟨[.rd, .rd], true, [.agg [.sc, .sc], .agg [.sc, .sc]], fun vs k => match vs with
    | [.agg [.v (.int .i64 a0Key), .v (.int .i64 a0Until)], .agg [.v (.int .i64 b1Key), .v (.int .i64 b1Until)]] => F_laws_eqTimed a0Key a0Until b1Key b1Until (fun r0 => k (.one (.c (.v (.bool r0)))) [])
    | _ => False, false⟩
def cl_laws_eqTimed : List (FuncId × Con) := []
def an_laws_eqTimed : Ann := ⟨[], [], [], []⟩
def cs_laws_eqTimed : Cons := ⟨cl_laws_eqTimed, [], 0, [], [], []⟩
def fin_laws_eqTimed (a0Key : Int) (a0Until : Int) (b1Key : Int) (b1Until : Int) (kk : AV → List A1 → Prop) : Kt := fin TT con_laws_eqTimed Try.f60.results.toList [.c .sc] [.agg [.v (.int .i64 a0Key), .v (.int .i64 a0Until)], .agg [.v (.int .i64 b1Key), .v (.int .i64 b1Until)]] kk
theorem g_laws_eqTimed (a0Key : Int) (a0Until : Int) (b1Key : Int) (b1Until : Int) (kk : AV → List A1 → Prop) :
    ev TT cs_laws_eqTimed 15 an_laws_eqTimed (Try.f60.body.getD .skip) (st0 con_laws_eqTimed [.agg [.v (.int .i64 a0Key), .v (.int .i64 a0Until)], .agg [.v (.int .i64 b1Key), .v (.int .i64 b1Until)]]) (fin TT con_laws_eqTimed Try.f60.results.toList [.c .sc] [.agg [.v (.int .i64 a0Key), .v (.int .i64 a0Until)], .agg [.v (.int .i64 b1Key), .v (.int .i64 b1Until)]] kk) = G_laws_eqTimed a0Key a0Until b1Key b1Until (fun r0 => kk (.one (.c (.v (.bool r0)))) []) := by kernel_rfl
theorem e_laws_eqTimed (a0Key : Int) (a0Until : Int) (b1Key : Int) (b1Until : Int) (kk : AV → List A1 → Prop) :
    ev TT cs_laws_eqTimed 15 an_laws_eqTimed (Try.f60.body.getD .skip) (st0 con_laws_eqTimed [.agg [.v (.int .i64 a0Key), .v (.int .i64 a0Until)], .agg [.v (.int .i64 b1Key), .v (.int .i64 b1Until)]]) (fin TT con_laws_eqTimed Try.f60.results.toList [.c .sc] [.agg [.v (.int .i64 a0Key), .v (.int .i64 a0Until)], .agg [.v (.int .i64 b1Key), .v (.int .i64 b1Until)]] kk) = S_laws_eqTimed a0Key a0Until b1Key b1Until (fun r0 => kk (.one (.c (.v (.bool r0)))) []) := by
  rw [g_laws_eqTimed]
  rfl
theorem clok_laws_eqTimed : ConOK Try.prog cl_laws_eqTimed := consNil
theorem cok_laws_eqTimed : ConsOK Try.prog 15 cs_laws_eqTimed := ⟨clok_laws_eqTimed, inlNil, ovNil⟩
theorem i_laws_eqTimed {vs : List A1} {kk : AV → List A1 → Prop} {motive : List A1 → Prop} (h : con_laws_eqTimed.F vs kk) (H : ∀ (a0Key : Int) (a0Until : Int) (b1Key : Int) (b1Until : Int), F_laws_eqTimed a0Key a0Until b1Key b1Until (fun r0 => kk (.one (.c (.v (.bool r0)))) []) → motive [.agg [.v (.int .i64 a0Key), .v (.int .i64 a0Until)], .agg [.v (.int .i64 b1Key), .v (.int .i64 b1Until)]]) : motive vs := by
  unfold con_laws_eqTimed at h
  dsimp only at h
  split at h
  · exact H _ _ _ _ h
  · exact h.elim
theorem h_laws_eqTimed : Holds Try.prog 60 con_laws_eqTimed := by
  refine holds_of_ev (rt := [.c .sc]) (T := TT) (Γ := cs_laws_eqTimed) (an := an_laws_eqTimed) (N := 15) (c := Try.f60.body.getD .skip) Try.func60 (by kernel_rfl) Try.ntmps60 (by decide) (by decide) mixed tabOK cok_laws_eqTimed (by kernel_rfl) ?_
  intro vs kk _ hF
  exact i_laws_eqTimed (motive := fun vs => Goes (ev TT cs_laws_eqTimed 15 an_laws_eqTimed (Try.f60.body.getD .skip) (st0 con_laws_eqTimed vs) (fin TT con_laws_eqTimed Try.f60.results.toList [.c .sc] vs kk))) hF (fun a0Key a0Until b1Key b1Until hF => goes_of (e_laws_eqTimed a0Key a0Until b1Key b1Until kk) (F_laws_eqTimed_S hF))
def con_laws_eqTimedS : Con := ⟨[.rd, .rd], true, [.c (.sl .ii), .c (.sl .ii)], fun vs k => match vs with
    | [.c (.ro .ii a0), .c (.ro .ii b1)] => F_laws_eqTimedS a0 b1 (fun r0 => k (.one (.c (.v (.bool r0)))) [])
    | _ => False, false⟩
def cl_laws_eqTimedS : List (FuncId × Con) := [(60, con_laws_eqTimed)]
def nm0_laws_eqTimedS : List NStep := [.keep [0, 1, 5] []]
def an_laws_eqTimedS : Ann := ⟨[(6, .take 0 (.take 1 (.take 2 (.take 3 (.take 4 (.take 5 (.take 6 (.take 7 (.alt 8 (.take 9 (.done)) (.none))))))))), [])], [(4, nm0_laws_eqTimedS)], [], []⟩
def cs_laws_eqTimedS : Cons := ⟨cl_laws_eqTimedS, [], 0, [], [], []⟩
def can0_laws_eqTimedS (a0 : List (Int × Int)) (b1 : List (Int × Int)) (xi5 : Int) : St := ⟨[(0, .one (.c (.ro .ii a0))), (1, .one (.c (.ro .ii b1))), (5, .one (.c (.v (.int .i64 xi5))))], []⟩
def fin_laws_eqTimedS (a0 : List (Int × Int)) (b1 : List (Int × Int)) (kk : AV → List A1 → Prop) : Kt := fin TT con_laws_eqTimedS Try.f24.results.toList [.c .sc] [.c (.ro .ii a0), .c (.ro .ii b1)] kk
def kt0_laws_eqTimedS (kf : Kt) : Kt := blockK 0 (seqK (evF TT cs_laws_eqTimedS 27 an_laws_eqTimedS Try.f24 [1, 1, 1]) (kf))
theorem r0_laws_eqTimedS (a0 : List (Int × Int)) (b1 : List (Int × Int)) (kk : AV → List A1 → Prop) (n : Nat) (xi5 : Int) :
    iter (evF TT cs_laws_eqTimedS 27 an_laws_eqTimedS Try.f24 [1, 1, 0, 1, 0, 0]) nm0_laws_eqTimedS (kt0_laws_eqTimedS (fin_laws_eqTimedS a0 b1 kk)) (n + 1) (can0_laws_eqTimedS a0 b1 xi5) = T0_laws_eqTimedS a0 b1 xi5 (fun r0 => kk (.one (.c (.v (.bool r0)))) []) (fun xi5 => iter (evF TT cs_laws_eqTimedS 27 an_laws_eqTimedS Try.f24 [1, 1, 0, 1, 0, 0]) nm0_laws_eqTimedS (kt0_laws_eqTimedS (fin_laws_eqTimedS a0 b1 kk)) n (can0_laws_eqTimedS a0 b1 xi5)) := by kernel_rfl
theorem l0_laws_eqTimedS (a0 : List (Int × Int)) (b1 : List (Int × Int)) (kk : AV → List A1 → Prop) : ∀ (n : Nat) (xi5 : Int), iter (evF TT cs_laws_eqTimedS 27 an_laws_eqTimedS Try.f24 [1, 1, 0, 1, 0, 0]) nm0_laws_eqTimedS (kt0_laws_eqTimedS (fin_laws_eqTimedS a0 b1 kk)) n (can0_laws_eqTimedS a0 b1 xi5) = L0_laws_eqTimedS a0 b1 (fun r0 => kk (.one (.c (.v (.bool r0)))) []) n xi5 := by
  intro n
  induction n with
  | zero => intros; rfl
  | succ n ih =>
    intro xi5
    rw [r0_laws_eqTimedS a0 b1 kk n xi5]
    have hb : (fun xi5 => iter (evF TT cs_laws_eqTimedS 27 an_laws_eqTimedS Try.f24 [1, 1, 0, 1, 0, 0]) nm0_laws_eqTimedS (kt0_laws_eqTimedS (fin_laws_eqTimedS a0 b1 kk)) n (can0_laws_eqTimedS a0 b1 xi5)) = L0_laws_eqTimedS a0 b1 (fun r0 => kk (.one (.c (.v (.bool r0)))) []) n := by
      funext xi5; exact ih xi5
    rw [hb]
    rw [T0_laws_eqTimedS_eq]
    rfl
theorem g_laws_eqTimedS (a0 : List (Int × Int)) (b1 : List (Int × Int)) (kk : AV → List A1 → Prop) :
    ev TT cs_laws_eqTimedS 27 an_laws_eqTimedS (Try.f24.body.getD .skip) (st0 con_laws_eqTimedS [.c (.ro .ii a0), .c (.ro .ii b1)]) (fin TT con_laws_eqTimedS Try.f24.results.toList [.c .sc] [.c (.ro .ii a0), .c (.ro .ii b1)] kk) = G_laws_eqTimedS a0 b1 (fun r0 => kk (.one (.c (.v (.bool r0)))) []) (fun a0 b1 xi5 => ∃ j, iter (evF TT cs_laws_eqTimedS 27 an_laws_eqTimedS Try.f24 [1, 1, 0, 1, 0, 0]) nm0_laws_eqTimedS (kt0_laws_eqTimedS (fin_laws_eqTimedS a0 b1 kk)) j (can0_laws_eqTimedS a0 b1 xi5)) := by kernel_rfl
theorem e_laws_eqTimedS (a0 : List (Int × Int)) (b1 : List (Int × Int)) (kk : AV → List A1 → Prop) :
    ev TT cs_laws_eqTimedS 27 an_laws_eqTimedS (Try.f24.body.getD .skip) (st0 con_laws_eqTimedS [.c (.ro .ii a0), .c (.ro .ii b1)]) (fin TT con_laws_eqTimedS Try.f24.results.toList [.c .sc] [.c (.ro .ii a0), .c (.ro .ii b1)] kk) = S_laws_eqTimedS a0 b1 (fun r0 => kk (.one (.c (.v (.bool r0)))) []) := by
  rw [g_laws_eqTimedS]
  have hi0 : (fun a0 b1 xi5 => ∃ j, iter (evF TT cs_laws_eqTimedS 27 an_laws_eqTimedS Try.f24 [1, 1, 0, 1, 0, 0]) nm0_laws_eqTimedS (kt0_laws_eqTimedS (fin_laws_eqTimedS a0 b1 kk)) j (can0_laws_eqTimedS a0 b1 xi5)) = (fun a0 b1 xi5 => ∃ j, L0_laws_eqTimedS a0 b1 (fun r0 => kk (.one (.c (.v (.bool r0)))) []) j xi5) := by
    funext a0 b1 xi5
    refine congrArg Exists (funext fun j => ?_)
    rw [l0_laws_eqTimedS a0 b1 kk j xi5]
  rw [hi0]
  rfl
theorem clok_laws_eqTimedS : ConOK Try.prog cl_laws_eqTimedS := consCons h_laws_eqTimed ⟨Try.f60, Try.func60, by kernel_rfl, ne_of_beq (by kernel_rfl)⟩ (consNil)
theorem cok_laws_eqTimedS : ConsOK Try.prog 27 cs_laws_eqTimedS := ⟨clok_laws_eqTimedS, inlNil, ovNil⟩
theorem i_laws_eqTimedS {vs : List A1} {kk : AV → List A1 → Prop} {motive : List A1 → Prop} (h : con_laws_eqTimedS.F vs kk) (H : ∀ (a0 : List (Int × Int)) (b1 : List (Int × Int)), F_laws_eqTimedS a0 b1 (fun r0 => kk (.one (.c (.v (.bool r0)))) []) → motive [.c (.ro .ii a0), .c (.ro .ii b1)]) : motive vs := by
  unfold con_laws_eqTimedS at h
  dsimp only at h
  split at h
  · exact H _ _ h
  · exact h.elim
theorem h_laws_eqTimedS : Holds Try.prog 24 con_laws_eqTimedS := by
  refine holds_of_ev (rt := [.c .sc]) (T := TT) (Γ := cs_laws_eqTimedS) (an := an_laws_eqTimedS) (N := 27) (c := Try.f24.body.getD .skip) Try.func24 (by kernel_rfl) Try.ntmps24 (by decide) (by decide) mixed tabOK cok_laws_eqTimedS (by kernel_rfl) ?_
  intro vs kk _ hF
  exact i_laws_eqTimedS (motive := fun vs => Goes (ev TT cs_laws_eqTimedS 27 an_laws_eqTimedS (Try.f24.body.getD .skip) (st0 con_laws_eqTimedS vs) (fin TT con_laws_eqTimedS Try.f24.results.toList [.c .sc] vs kk))) hF (fun a0 b1 hF => goes_of (e_laws_eqTimedS a0 b1 kk) (F_laws_eqTimedS_S hF))
def con_laws_FnExactLiveAt : Con := ⟨[.rd, .rd, .rd], true, [.c (.sl .ii), .c (.sc), .c (.sc)], fun vs k => match vs with
    | [.c (.ro .ii aList0), .c (.v (.int .i64 aKey1)), .c (.v (.int .i64 aNow2))] => F_laws_FnExactLiveAt aList0 aKey1 aNow2 (fun r0 => k (.one (.c (.v (.bool r0)))) [])
    | _ => False, false⟩
def cl_laws_FnExactLiveAt : List (FuncId × Con) := [(20, con_laws_szTimedS), (22, con_laws_toTimedS), (24, con_laws_eqTimedS), (29, con_spec_LiveAt), (30, con_impl_LiveAt)]
def an_laws_FnExactLiveAt : Ann := ⟨[], [], [], []⟩
def cs_laws_FnExactLiveAt : Cons := ⟨cl_laws_FnExactLiveAt, [], 0, [], [], []⟩
def fin_laws_FnExactLiveAt (aList0 : List (Int × Int)) (aKey1 : Int) (aNow2 : Int) (kk : AV → List A1 → Prop) : Kt := fin TT con_laws_FnExactLiveAt Try.f6.results.toList [.c .sc] [.c (.ro .ii aList0), .c (.v (.int .i64 aKey1)), .c (.v (.int .i64 aNow2))] kk
theorem g_laws_FnExactLiveAt (aList0 : List (Int × Int)) (aKey1 : Int) (aNow2 : Int) (kk : AV → List A1 → Prop) :
    ev TT cs_laws_FnExactLiveAt 35 an_laws_FnExactLiveAt (Try.f6.body.getD .skip) (st0 con_laws_FnExactLiveAt [.c (.ro .ii aList0), .c (.v (.int .i64 aKey1)), .c (.v (.int .i64 aNow2))]) (fin TT con_laws_FnExactLiveAt Try.f6.results.toList [.c .sc] [.c (.ro .ii aList0), .c (.v (.int .i64 aKey1)), .c (.v (.int .i64 aNow2))] kk) = G_laws_FnExactLiveAt aList0 aKey1 aNow2 (fun r0 => kk (.one (.c (.v (.bool r0)))) []) := by kernel_rfl
theorem e_laws_FnExactLiveAt (aList0 : List (Int × Int)) (aKey1 : Int) (aNow2 : Int) (kk : AV → List A1 → Prop) :
    ev TT cs_laws_FnExactLiveAt 35 an_laws_FnExactLiveAt (Try.f6.body.getD .skip) (st0 con_laws_FnExactLiveAt [.c (.ro .ii aList0), .c (.v (.int .i64 aKey1)), .c (.v (.int .i64 aNow2))]) (fin TT con_laws_FnExactLiveAt Try.f6.results.toList [.c .sc] [.c (.ro .ii aList0), .c (.v (.int .i64 aKey1)), .c (.v (.int .i64 aNow2))] kk) = S_laws_FnExactLiveAt aList0 aKey1 aNow2 (fun r0 => kk (.one (.c (.v (.bool r0)))) []) := by
  rw [g_laws_FnExactLiveAt]
  rfl
theorem clok_laws_FnExactLiveAt : ConOK Try.prog cl_laws_FnExactLiveAt := consCons h_laws_szTimedS ⟨Try.f20, Try.func20, by kernel_rfl, ne_of_beq (by kernel_rfl)⟩ (consCons h_laws_toTimedS ⟨Try.f22, Try.func22, by kernel_rfl, ne_of_beq (by kernel_rfl)⟩ (consCons h_laws_eqTimedS ⟨Try.f24, Try.func24, by kernel_rfl, ne_of_beq (by kernel_rfl)⟩ (consCons h_spec_LiveAt ⟨Try.f29, Try.func29, by kernel_rfl, ne_of_beq (by kernel_rfl)⟩ (consCons h_impl_LiveAt ⟨Try.f30, Try.func30, by kernel_rfl, ne_of_beq (by kernel_rfl)⟩ (consNil)))))
theorem cok_laws_FnExactLiveAt : ConsOK Try.prog 35 cs_laws_FnExactLiveAt := ⟨clok_laws_FnExactLiveAt, inlNil, ovNil⟩
theorem i_laws_FnExactLiveAt {vs : List A1} {kk : AV → List A1 → Prop} {motive : List A1 → Prop} (h : con_laws_FnExactLiveAt.F vs kk) (H : ∀ (aList0 : List (Int × Int)) (aKey1 : Int) (aNow2 : Int), F_laws_FnExactLiveAt aList0 aKey1 aNow2 (fun r0 => kk (.one (.c (.v (.bool r0)))) []) → motive [.c (.ro .ii aList0), .c (.v (.int .i64 aKey1)), .c (.v (.int .i64 aNow2))]) : motive vs := by
  unfold con_laws_FnExactLiveAt at h
  dsimp only at h
  split at h
  · exact H _ _ _ h
  · exact h.elim
theorem h_laws_FnExactLiveAt : Holds Try.prog 6 con_laws_FnExactLiveAt := by
  refine holds_of_ev (rt := [.c .sc]) (T := TT) (Γ := cs_laws_FnExactLiveAt) (an := an_laws_FnExactLiveAt) (N := 35) (c := Try.f6.body.getD .skip) Try.func6 (by kernel_rfl) Try.ntmps6 (by decide) (by decide) mixed tabOK cok_laws_FnExactLiveAt (by kernel_rfl) ?_
  intro vs kk _ hF
  exact i_laws_FnExactLiveAt (motive := fun vs => Goes (ev TT cs_laws_FnExactLiveAt 35 an_laws_FnExactLiveAt (Try.f6.body.getD .skip) (st0 con_laws_FnExactLiveAt vs) (fin TT con_laws_FnExactLiveAt Try.f6.results.toList [.c .sc] vs kk))) hF (fun aList0 aKey1 aNow2 hF => goes_of (e_laws_FnExactLiveAt aList0 aKey1 aNow2 kk) (F_laws_FnExactLiveAt_S hF))
end Go.Ev
