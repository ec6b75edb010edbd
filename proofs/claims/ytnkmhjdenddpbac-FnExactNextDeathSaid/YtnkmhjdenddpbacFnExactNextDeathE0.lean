/- What the evaluator gives for these functions: their contracts. No statement is proved here. -/
import Derived.Test.YtnkmhjdenddpbacFnExactNextDeathP0
import Derived.Test.YtnkmhjdenddpbacTt
namespace Go.Ev
set_option linter.unusedVariables false
set_option maxRecDepth 100000
open Go Go.Proofs
def con_laws_szTimedS : Con := ⟨[.rd, .rd], true, [.c (.sl .ii), .c (.sc)], fun vs k => match vs with
    | [.c (.ro .ii a0), .c (.v (.int .i64 left1))] => F_laws_szTimedS a0 left1 (fun r0 => k (.one (.c (.v (.int .i64 r0)))) [])
    | _ => False, false⟩
def cl_laws_szTimedS : List (FuncId × Con) := []
def an_laws_szTimedS : Ann := ⟨[], [], []⟩
def cs_laws_szTimedS : Cons := ⟨cl_laws_szTimedS, [], 0, [], []⟩
def fin_laws_szTimedS (a0 : List (Int × Int)) (left1 : Int) (kk : AV → List A1 → Prop) : Kt := fin TT con_laws_szTimedS Try.f20.results.toList [.c .sc] [.c (.ro .ii a0), .c (.v (.int .i64 left1))] kk
theorem g_laws_szTimedS (a0 : List (Int × Int)) (left1 : Int) (kk : AV → List A1 → Prop) :
    ev TT cs_laws_szTimedS 12 an_laws_szTimedS (Try.f20.body.getD .skip) (st0 con_laws_szTimedS [.c (.ro .ii a0), .c (.v (.int .i64 left1))]) (fin TT con_laws_szTimedS Try.f20.results.toList [.c .sc] [.c (.ro .ii a0), .c (.v (.int .i64 left1))] kk) = G_laws_szTimedS a0 left1 (fun r0 => kk (.one (.c (.v (.int .i64 r0)))) []) := by kernel_rfl
theorem e_laws_szTimedS (a0 : List (Int × Int)) (left1 : Int) (kk : AV → List A1 → Prop) :
    ev TT cs_laws_szTimedS 12 an_laws_szTimedS (Try.f20.body.getD .skip) (st0 con_laws_szTimedS [.c (.ro .ii a0), .c (.v (.int .i64 left1))]) (fin TT con_laws_szTimedS Try.f20.results.toList [.c .sc] [.c (.ro .ii a0), .c (.v (.int .i64 left1))] kk) = S_laws_szTimedS a0 left1 (fun r0 => kk (.one (.c (.v (.int .i64 r0)))) []) := by
  rw [g_laws_szTimedS]
  rfl
theorem clok_laws_szTimedS : ConOK Try.prog cl_laws_szTimedS := consNil
theorem cok_laws_szTimedS : ConsOK Try.prog 12 cs_laws_szTimedS := ⟨clok_laws_szTimedS, inlNil⟩
theorem i_laws_szTimedS {vs : List A1} {kk : AV → List A1 → Prop} {motive : List A1 → Prop} (h : con_laws_szTimedS.F vs kk) (H : ∀ (a0 : List (Int × Int)) (left1 : Int), F_laws_szTimedS a0 left1 (fun r0 => kk (.one (.c (.v (.int .i64 r0)))) []) → motive [.c (.ro .ii a0), .c (.v (.int .i64 left1))]) : motive vs := by
  unfold con_laws_szTimedS at h
  dsimp only at h
  split at h
  · exact H _ _ h
  · exact h.elim
theorem h_laws_szTimedS : Holds Try.prog 20 con_laws_szTimedS := by
  refine holds_of_ev (rt := [.c .sc]) (T := TT) (Γ := cs_laws_szTimedS) (an := an_laws_szTimedS) (N := 12) (c := Try.f20.body.getD .skip) Try.func20 (by kernel_rfl) Try.ntmps20 (by decide) (by decide) mixed tabOK cok_laws_szTimedS (by kernel_rfl) ?_
  intro vs kk _ hF
  exact i_laws_szTimedS (motive := fun vs => Goes (ev TT cs_laws_szTimedS 12 an_laws_szTimedS (Try.f20.body.getD .skip) (st0 con_laws_szTimedS vs) (fin TT con_laws_szTimedS Try.f20.results.toList [.c .sc] vs kk))) hF (fun a0 left1 hF => goes_of (e_laws_szTimedS a0 left1 kk) (F_laws_szTimedS_S hF))
def con_laws_toTimed : Con := ⟨[.rd], true, [.agg [.sc, .sc]], fun vs k => match vs with
    | [.agg [.v (.int .i64 a0Key), .v (.int .i64 a0Until)]] => F_laws_toTimed a0Key a0Until (fun r0 r1 => k (.one (.agg [.v (.int .i64 r0), .v (.int .i64 r1)])) [])
    | _ => False, false⟩
def cl_laws_toTimed : List (FuncId × Con) := []
def an_laws_toTimed : Ann := ⟨[], [], []⟩
def cs_laws_toTimed : Cons := ⟨cl_laws_toTimed, [], 0, [], []⟩
def fin_laws_toTimed (a0Key : Int) (a0Until : Int) (kk : AV → List A1 → Prop) : Kt := fin TT con_laws_toTimed Try.f57.results.toList [.agg [.sc, .sc]] [.agg [.v (.int .i64 a0Key), .v (.int .i64 a0Until)]] kk
theorem g_laws_toTimed (a0Key : Int) (a0Until : Int) (kk : AV → List A1 → Prop) :
    ev TT cs_laws_toTimed 11 an_laws_toTimed (Try.f57.body.getD .skip) (st0 con_laws_toTimed [.agg [.v (.int .i64 a0Key), .v (.int .i64 a0Until)]]) (fin TT con_laws_toTimed Try.f57.results.toList [.agg [.sc, .sc]] [.agg [.v (.int .i64 a0Key), .v (.int .i64 a0Until)]] kk) = G_laws_toTimed a0Key a0Until (fun r0 r1 => kk (.one (.agg [.v (.int .i64 r0), .v (.int .i64 r1)])) []) := by kernel_rfl
theorem e_laws_toTimed (a0Key : Int) (a0Until : Int) (kk : AV → List A1 → Prop) :
    ev TT cs_laws_toTimed 11 an_laws_toTimed (Try.f57.body.getD .skip) (st0 con_laws_toTimed [.agg [.v (.int .i64 a0Key), .v (.int .i64 a0Until)]]) (fin TT con_laws_toTimed Try.f57.results.toList [.agg [.sc, .sc]] [.agg [.v (.int .i64 a0Key), .v (.int .i64 a0Until)]] kk) = S_laws_toTimed a0Key a0Until (fun r0 r1 => kk (.one (.agg [.v (.int .i64 r0), .v (.int .i64 r1)])) []) := by
  rw [g_laws_toTimed]
  rfl
theorem clok_laws_toTimed : ConOK Try.prog cl_laws_toTimed := consNil
theorem cok_laws_toTimed : ConsOK Try.prog 11 cs_laws_toTimed := ⟨clok_laws_toTimed, inlNil⟩
theorem i_laws_toTimed {vs : List A1} {kk : AV → List A1 → Prop} {motive : List A1 → Prop} (h : con_laws_toTimed.F vs kk) (H : ∀ (a0Key : Int) (a0Until : Int), F_laws_toTimed a0Key a0Until (fun r0 r1 => kk (.one (.agg [.v (.int .i64 r0), .v (.int .i64 r1)])) []) → motive [.agg [.v (.int .i64 a0Key), .v (.int .i64 a0Until)]]) : motive vs := by
  unfold con_laws_toTimed at h
  dsimp only at h
  split at h
  · exact H _ _ h
  · exact h.elim
theorem h_laws_toTimed : Holds Try.prog 57 con_laws_toTimed := by
  refine holds_of_ev (rt := [.agg [.sc, .sc]]) (T := TT) (Γ := cs_laws_toTimed) (an := an_laws_toTimed) (N := 11) (c := Try.f57.body.getD .skip) Try.func57 (by kernel_rfl) Try.ntmps57 (by decide) (by decide) mixed tabOK cok_laws_toTimed (by kernel_rfl) ?_
  intro vs kk _ hF
  exact i_laws_toTimed (motive := fun vs => Goes (ev TT cs_laws_toTimed 11 an_laws_toTimed (Try.f57.body.getD .skip) (st0 con_laws_toTimed vs) (fin TT con_laws_toTimed Try.f57.results.toList [.agg [.sc, .sc]] vs kk))) hF (fun a0Key a0Until hF => goes_of (e_laws_toTimed a0Key a0Until kk) (F_laws_toTimed_S hF))
def con_laws_toTimedS : Con := ⟨[.rd], true, [.c (.sl .ii)], fun vs k => match vs with
    | [.c (.ro .ii a0)] => F_laws_toTimedS a0 (fun r0 => k (.one (.c (.ro .ii r0))) [])
    | _ => False, false⟩
def cl_laws_toTimedS : List (FuncId × Con) := [(57, con_laws_toTimed)]
def nm0_laws_toTimedS : List NStep := [.keep [0, 3, 4] [112]]
def an_laws_toTimedS : Ann := ⟨[], [(3, nm0_laws_toTimedS)], []⟩
def cs_laws_toTimedS : Cons := ⟨cl_laws_toTimedS, [], 0, [], []⟩
def can0_laws_toTimedS (a0 : List (Int × Int)) (xi4 : Int) (xy7 : List (Int × Int)) : St := ⟨[(0, .one (.c (.ro .ii a0))), (3, .one (.c (.ow 112))), (4, .one (.c (.v (.int .i64 xi4))))], [(112, .row .ii xy7)]⟩
def fin_laws_toTimedS (a0 : List (Int × Int)) (kk : AV → List A1 → Prop) : Kt := fin TT con_laws_toTimedS Try.f22.results.toList [.c (.sl .ii)] [.c (.ro .ii a0)] kk
def kt0_laws_toTimedS (kf : Kt) : Kt := blockK 0 (seqK (evF TT cs_laws_toTimedS 23 an_laws_toTimedS Try.f22 [1, 1, 1]) (kf))
theorem r0_laws_toTimedS (a0 : List (Int × Int)) (kk : AV → List A1 → Prop) (n : Nat) (xi4 : Int) (xy7 : List (Int × Int)) :
    iter (evF TT cs_laws_toTimedS 23 an_laws_toTimedS Try.f22 [1, 1, 0, 1, 0, 0]) nm0_laws_toTimedS (kt0_laws_toTimedS (fin_laws_toTimedS a0 kk)) (n + 1) (can0_laws_toTimedS a0 xi4 xy7) = T0_laws_toTimedS a0 xi4 xy7 (fun r0 => kk (.one (.c (.ro .ii r0))) []) (fun xi4 xy7 => iter (evF TT cs_laws_toTimedS 23 an_laws_toTimedS Try.f22 [1, 1, 0, 1, 0, 0]) nm0_laws_toTimedS (kt0_laws_toTimedS (fin_laws_toTimedS a0 kk)) n (can0_laws_toTimedS a0 xi4 xy7)) := by kernel_rfl
theorem l0_laws_toTimedS (a0 : List (Int × Int)) (kk : AV → List A1 → Prop) : ∀ (n : Nat) (xi4 : Int) (xy7 : List (Int × Int)), iter (evF TT cs_laws_toTimedS 23 an_laws_toTimedS Try.f22 [1, 1, 0, 1, 0, 0]) nm0_laws_toTimedS (kt0_laws_toTimedS (fin_laws_toTimedS a0 kk)) n (can0_laws_toTimedS a0 xi4 xy7) = L0_laws_toTimedS a0 (fun r0 => kk (.one (.c (.ro .ii r0))) []) n xi4 xy7 := by
  intro n
  induction n with
  | zero => intros; rfl
  | succ n ih =>
    intro xi4 xy7
    rw [r0_laws_toTimedS a0 kk n xi4 xy7]
    have hb : (fun xi4 xy7 => iter (evF TT cs_laws_toTimedS 23 an_laws_toTimedS Try.f22 [1, 1, 0, 1, 0, 0]) nm0_laws_toTimedS (kt0_laws_toTimedS (fin_laws_toTimedS a0 kk)) n (can0_laws_toTimedS a0 xi4 xy7)) = L0_laws_toTimedS a0 (fun r0 => kk (.one (.c (.ro .ii r0))) []) n := by
      funext xi4 xy7; exact ih xi4 xy7
    rw [hb]
    rfl
theorem g_laws_toTimedS (a0 : List (Int × Int)) (kk : AV → List A1 → Prop) :
    ev TT cs_laws_toTimedS 23 an_laws_toTimedS (Try.f22.body.getD .skip) (st0 con_laws_toTimedS [.c (.ro .ii a0)]) (fin TT con_laws_toTimedS Try.f22.results.toList [.c (.sl .ii)] [.c (.ro .ii a0)] kk) = G_laws_toTimedS a0 (fun a0 xi4 xy7 => ∃ j, iter (evF TT cs_laws_toTimedS 23 an_laws_toTimedS Try.f22 [1, 1, 0, 1, 0, 0]) nm0_laws_toTimedS (kt0_laws_toTimedS (fin_laws_toTimedS a0 kk)) j (can0_laws_toTimedS a0 xi4 xy7)) := by kernel_rfl
theorem e_laws_toTimedS (a0 : List (Int × Int)) (kk : AV → List A1 → Prop) :
    ev TT cs_laws_toTimedS 23 an_laws_toTimedS (Try.f22.body.getD .skip) (st0 con_laws_toTimedS [.c (.ro .ii a0)]) (fin TT con_laws_toTimedS Try.f22.results.toList [.c (.sl .ii)] [.c (.ro .ii a0)] kk) = S_laws_toTimedS a0 (fun r0 => kk (.one (.c (.ro .ii r0))) []) := by
  rw [g_laws_toTimedS]
  have hi0 : (fun a0 xi4 xy7 => ∃ j, iter (evF TT cs_laws_toTimedS 23 an_laws_toTimedS Try.f22 [1, 1, 0, 1, 0, 0]) nm0_laws_toTimedS (kt0_laws_toTimedS (fin_laws_toTimedS a0 kk)) j (can0_laws_toTimedS a0 xi4 xy7)) = (fun a0 xi4 xy7 => ∃ j, L0_laws_toTimedS a0 (fun r0 => kk (.one (.c (.ro .ii r0))) []) j xi4 xy7) := by
    funext a0 xi4 xy7
    refine congrArg Exists (funext fun j => ?_)
    rw [l0_laws_toTimedS a0 kk j xi4 xy7]
  rw [hi0]
  rfl
theorem clok_laws_toTimedS : ConOK Try.prog cl_laws_toTimedS := consCons h_laws_toTimed ⟨Try.f57, Try.func57, by kernel_rfl, ne_of_beq (by kernel_rfl)⟩ (consNil)
theorem cok_laws_toTimedS : ConsOK Try.prog 23 cs_laws_toTimedS := ⟨clok_laws_toTimedS, inlNil⟩
theorem i_laws_toTimedS {vs : List A1} {kk : AV → List A1 → Prop} {motive : List A1 → Prop} (h : con_laws_toTimedS.F vs kk) (H : ∀ (a0 : List (Int × Int)), F_laws_toTimedS a0 (fun r0 => kk (.one (.c (.ro .ii r0))) []) → motive [.c (.ro .ii a0)]) : motive vs := by
  unfold con_laws_toTimedS at h
  dsimp only at h
  split at h
  · exact H _ h
  · exact h.elim
theorem h_laws_toTimedS : Holds Try.prog 22 con_laws_toTimedS := by
  refine holds_of_ev (rt := [.c (.sl .ii)]) (T := TT) (Γ := cs_laws_toTimedS) (an := an_laws_toTimedS) (N := 23) (c := Try.f22.body.getD .skip) Try.func22 (by kernel_rfl) Try.ntmps22 (by decide) (by decide) mixed tabOK cok_laws_toTimedS (by kernel_rfl) ?_
  intro vs kk _ hF
  exact i_laws_toTimedS (motive := fun vs => Goes (ev TT cs_laws_toTimedS 23 an_laws_toTimedS (Try.f22.body.getD .skip) (st0 con_laws_toTimedS vs) (fin TT con_laws_toTimedS Try.f22.results.toList [.c (.sl .ii)] vs kk))) hF (fun a0 hF => goes_of (e_laws_toTimedS a0 kk) (F_laws_toTimedS_S hF))
def con_spec_inRange : Con := ⟨[.rd, .rd, .rd], true, [.c (.sc), .c (.sc), .c (.sc)], fun vs k => match vs with
    | [.c (.v (.int .i64 n0)), .c (.v (.int .i64 low1)), .c (.v (.int .i64 high2))] => F_spec_inRange n0 low1 high2 (fun r0 => k (.one (.c (.v (.bool r0)))) [])
    | _ => False, false⟩
def cl_spec_inRange : List (FuncId × Con) := []
def an_spec_inRange : Ann := ⟨[], [], []⟩
def cs_spec_inRange : Cons := ⟨cl_spec_inRange, [], 0, [], []⟩
def fin_spec_inRange (n0 : Int) (low1 : Int) (high2 : Int) (kk : AV → List A1 → Prop) : Kt := fin TT con_spec_inRange Try.f61.results.toList [.c .sc] [.c (.v (.int .i64 n0)), .c (.v (.int .i64 low1)), .c (.v (.int .i64 high2))] kk
theorem g_spec_inRange (n0 : Int) (low1 : Int) (high2 : Int) (kk : AV → List A1 → Prop) :
    ev TT cs_spec_inRange 15 an_spec_inRange (Try.f61.body.getD .skip) (st0 con_spec_inRange [.c (.v (.int .i64 n0)), .c (.v (.int .i64 low1)), .c (.v (.int .i64 high2))]) (fin TT con_spec_inRange Try.f61.results.toList [.c .sc] [.c (.v (.int .i64 n0)), .c (.v (.int .i64 low1)), .c (.v (.int .i64 high2))] kk) = G_spec_inRange n0 low1 high2 (fun r0 => kk (.one (.c (.v (.bool r0)))) []) := by kernel_rfl
theorem e_spec_inRange (n0 : Int) (low1 : Int) (high2 : Int) (kk : AV → List A1 → Prop) :
    ev TT cs_spec_inRange 15 an_spec_inRange (Try.f61.body.getD .skip) (st0 con_spec_inRange [.c (.v (.int .i64 n0)), .c (.v (.int .i64 low1)), .c (.v (.int .i64 high2))]) (fin TT con_spec_inRange Try.f61.results.toList [.c .sc] [.c (.v (.int .i64 n0)), .c (.v (.int .i64 low1)), .c (.v (.int .i64 high2))] kk) = S_spec_inRange n0 low1 high2 (fun r0 => kk (.one (.c (.v (.bool r0)))) []) := by
  rw [g_spec_inRange]
  rfl
theorem clok_spec_inRange : ConOK Try.prog cl_spec_inRange := consNil
theorem cok_spec_inRange : ConsOK Try.prog 15 cs_spec_inRange := ⟨clok_spec_inRange, inlNil⟩
theorem i_spec_inRange {vs : List A1} {kk : AV → List A1 → Prop} {motive : List A1 → Prop} (h : con_spec_inRange.F vs kk) (H : ∀ (n0 : Int) (low1 : Int) (high2 : Int), F_spec_inRange n0 low1 high2 (fun r0 => kk (.one (.c (.v (.bool r0)))) []) → motive [.c (.v (.int .i64 n0)), .c (.v (.int .i64 low1)), .c (.v (.int .i64 high2))]) : motive vs := by
  unfold con_spec_inRange at h
  dsimp only at h
  split at h
  · exact H _ _ _ h
  · exact h.elim
theorem h_spec_inRange : Holds Try.prog 61 con_spec_inRange := by
  refine holds_of_ev (rt := [.c .sc]) (T := TT) (Γ := cs_spec_inRange) (an := an_spec_inRange) (N := 15) (c := Try.f61.body.getD .skip) Try.func61 (by kernel_rfl) Try.ntmps61 (by decide) (by decide) mixed tabOK cok_spec_inRange (by kernel_rfl) ?_
  intro vs kk _ hF
  exact i_spec_inRange (motive := fun vs => Goes (ev TT cs_spec_inRange 15 an_spec_inRange (Try.f61.body.getD .skip) (st0 con_spec_inRange vs) (fin TT con_spec_inRange Try.f61.results.toList [.c .sc] vs kk))) hF (fun n0 low1 high2 hF => goes_of (e_spec_inRange n0 low1 high2 kk) (F_spec_inRange_S hF))
def con_spec_validTimed : Con := ⟨[.rd], true, [.c (.sl .ii)], fun vs k => match vs with
    | [.c (.ro .ii list0)] => F_spec_validTimed list0 (fun r0 => k (.one (.c (.v (.bool r0)))) [])
    | _ => False, false⟩
def cl_spec_validTimed : List (FuncId × Con) := [(61, con_spec_inRange)]
def nm0_spec_validTimed : List NStep := [.keep [0, 3] []]
def an_spec_validTimed : Ann := ⟨[(4, .take 0 (.take 1 (.take 2 (.take 3 (.take 4 (.alt 5 (.take 6 (.take 7 (.take 8 (.take 9 (.take 10 (.take 11 (.take 12 (.alt 13 (.take 14 (.take 15 (.take 16 (.take 17 (.take 18 (.take 19 (.take 20 (.take 21 (.take 22 (.take 23 (.take 24 (.take 25 (.take 26 (.take 27 (.take 28 (.take 29 (.take 30 (.take 31 (.take 32 (.take 33 (.done))))))))))))))))))))) (.none))))))))) (.none)))))), [])], [(2, nm0_spec_validTimed)], []⟩
def cs_spec_validTimed : Cons := ⟨cl_spec_validTimed, [], 0, [], []⟩
def can0_spec_validTimed (list0 : List (Int × Int)) (xi3 : Int) : St := ⟨[(0, .one (.c (.ro .ii list0))), (3, .one (.c (.v (.int .i64 xi3))))], []⟩
def fin_spec_validTimed (list0 : List (Int × Int)) (kk : AV → List A1 → Prop) : Kt := fin TT con_spec_validTimed Try.f56.results.toList [.c .sc] [.c (.ro .ii list0)] kk
def kt0_spec_validTimed (kf : Kt) : Kt := blockK 0 (seqK (evF TT cs_spec_validTimed 47 an_spec_validTimed Try.f56 [1, 1]) (kf))
theorem r0_spec_validTimed (list0 : List (Int × Int)) (kk : AV → List A1 → Prop) (n : Nat) (xi3 : Int) :
    iter (evF TT cs_spec_validTimed 47 an_spec_validTimed Try.f56 [1, 0, 1, 0, 0]) nm0_spec_validTimed (kt0_spec_validTimed (fin_spec_validTimed list0 kk)) (n + 1) (can0_spec_validTimed list0 xi3) = T0_spec_validTimed list0 xi3 (fun r0 => kk (.one (.c (.v (.bool r0)))) []) (fun xi3 => iter (evF TT cs_spec_validTimed 47 an_spec_validTimed Try.f56 [1, 0, 1, 0, 0]) nm0_spec_validTimed (kt0_spec_validTimed (fin_spec_validTimed list0 kk)) n (can0_spec_validTimed list0 xi3)) := by kernel_rfl
theorem l0_spec_validTimed (list0 : List (Int × Int)) (kk : AV → List A1 → Prop) : ∀ (n : Nat) (xi3 : Int), iter (evF TT cs_spec_validTimed 47 an_spec_validTimed Try.f56 [1, 0, 1, 0, 0]) nm0_spec_validTimed (kt0_spec_validTimed (fin_spec_validTimed list0 kk)) n (can0_spec_validTimed list0 xi3) = L0_spec_validTimed list0 (fun r0 => kk (.one (.c (.v (.bool r0)))) []) n xi3 := by
  intro n
  induction n with
  | zero => intros; rfl
  | succ n ih =>
    intro xi3
    rw [r0_spec_validTimed list0 kk n xi3]
    have hb : (fun xi3 => iter (evF TT cs_spec_validTimed 47 an_spec_validTimed Try.f56 [1, 0, 1, 0, 0]) nm0_spec_validTimed (kt0_spec_validTimed (fin_spec_validTimed list0 kk)) n (can0_spec_validTimed list0 xi3)) = L0_spec_validTimed list0 (fun r0 => kk (.one (.c (.v (.bool r0)))) []) n := by
      funext xi3; exact ih xi3
    rw [hb]
    rw [T0_spec_validTimed_eq]
    rfl
theorem g_spec_validTimed (list0 : List (Int × Int)) (kk : AV → List A1 → Prop) :
    ev TT cs_spec_validTimed 47 an_spec_validTimed (Try.f56.body.getD .skip) (st0 con_spec_validTimed [.c (.ro .ii list0)]) (fin TT con_spec_validTimed Try.f56.results.toList [.c .sc] [.c (.ro .ii list0)] kk) = G_spec_validTimed list0 (fun list0 xi3 => ∃ j, iter (evF TT cs_spec_validTimed 47 an_spec_validTimed Try.f56 [1, 0, 1, 0, 0]) nm0_spec_validTimed (kt0_spec_validTimed (fin_spec_validTimed list0 kk)) j (can0_spec_validTimed list0 xi3)) := by kernel_rfl
theorem e_spec_validTimed (list0 : List (Int × Int)) (kk : AV → List A1 → Prop) :
    ev TT cs_spec_validTimed 47 an_spec_validTimed (Try.f56.body.getD .skip) (st0 con_spec_validTimed [.c (.ro .ii list0)]) (fin TT con_spec_validTimed Try.f56.results.toList [.c .sc] [.c (.ro .ii list0)] kk) = S_spec_validTimed list0 (fun r0 => kk (.one (.c (.v (.bool r0)))) []) := by
  rw [g_spec_validTimed]
  have hi0 : (fun list0 xi3 => ∃ j, iter (evF TT cs_spec_validTimed 47 an_spec_validTimed Try.f56 [1, 0, 1, 0, 0]) nm0_spec_validTimed (kt0_spec_validTimed (fin_spec_validTimed list0 kk)) j (can0_spec_validTimed list0 xi3)) = (fun list0 xi3 => ∃ j, L0_spec_validTimed list0 (fun r0 => kk (.one (.c (.v (.bool r0)))) []) j xi3) := by
    funext list0 xi3
    refine congrArg Exists (funext fun j => ?_)
    rw [l0_spec_validTimed list0 kk j xi3]
  rw [hi0]
  rfl
theorem clok_spec_validTimed : ConOK Try.prog cl_spec_validTimed := consCons h_spec_inRange ⟨Try.f61, Try.func61, by kernel_rfl, ne_of_beq (by kernel_rfl)⟩ (consNil)
theorem cok_spec_validTimed : ConsOK Try.prog 47 cs_spec_validTimed := ⟨clok_spec_validTimed, inlNil⟩
theorem i_spec_validTimed {vs : List A1} {kk : AV → List A1 → Prop} {motive : List A1 → Prop} (h : con_spec_validTimed.F vs kk) (H : ∀ (list0 : List (Int × Int)), F_spec_validTimed list0 (fun r0 => kk (.one (.c (.v (.bool r0)))) []) → motive [.c (.ro .ii list0)]) : motive vs := by
  unfold con_spec_validTimed at h
  dsimp only at h
  split at h
  · exact H _ h
  · exact h.elim
theorem h_spec_validTimed : Holds Try.prog 56 con_spec_validTimed := by
  refine holds_of_ev (rt := [.c .sc]) (T := TT) (Γ := cs_spec_validTimed) (an := an_spec_validTimed) (N := 47) (c := Try.f56.body.getD .skip) Try.func56 (by kernel_rfl) Try.ntmps56 (by decide) (by decide) mixed tabOK cok_spec_validTimed (by kernel_rfl) ?_
  intro vs kk _ hF
  exact i_spec_validTimed (motive := fun vs => Goes (ev TT cs_spec_validTimed 47 an_spec_validTimed (Try.f56.body.getD .skip) (st0 con_spec_validTimed vs) (fin TT con_spec_validTimed Try.f56.results.toList [.c .sc] vs kk))) hF (fun list0 hF => goes_of (e_spec_validTimed list0 kk) (F_spec_validTimed_S hF))
def con_spec_NextDeath : Con := ⟨[.rd], true, [.c (.sl .ii)], fun vs k => match vs with
    | [.c (.ro .ii list0)] => F_spec_NextDeath list0 (fun r0 => k (.one (.c (.v (.int .i64 r0)))) [])
    | _ => False, false⟩
def cl_spec_NextDeath : List (FuncId × Con) := [(56, con_spec_validTimed)]
def nm0_spec_NextDeath : List NStep := [.keep [0, 3, 4] []]
def an_spec_NextDeath : Ann := ⟨[], [(5, nm0_spec_NextDeath)], []⟩
def cs_spec_NextDeath : Cons := ⟨cl_spec_NextDeath, [], 0, [], []⟩
def can0_spec_NextDeath (list0 : List (Int × Int)) (xn3 : Int) (xi4 : Int) : St := ⟨[(0, .one (.c (.ro .ii list0))), (3, .one (.c (.v (.int .i64 xn3)))), (4, .one (.c (.v (.int .i64 xi4))))], []⟩
def fin_spec_NextDeath (list0 : List (Int × Int)) (kk : AV → List A1 → Prop) : Kt := fin TT con_spec_NextDeath Try.f33.results.toList [.c .sc] [.c (.ro .ii list0)] kk
def kt0_spec_NextDeath (kf : Kt) : Kt := blockK 0 (seqK (evF TT cs_spec_NextDeath 31 an_spec_NextDeath Try.f33 [1, 1, 1, 1]) (kf))
theorem r0_spec_NextDeath (list0 : List (Int × Int)) (kk : AV → List A1 → Prop) (n : Nat) (xn3 : Int) (xi4 : Int) :
    iter (evF TT cs_spec_NextDeath 31 an_spec_NextDeath Try.f33 [1, 1, 1, 0, 1, 0, 0]) nm0_spec_NextDeath (kt0_spec_NextDeath (fin_spec_NextDeath list0 kk)) (n + 1) (can0_spec_NextDeath list0 xn3 xi4) = T0_spec_NextDeath list0 xn3 xi4 (fun r0 => kk (.one (.c (.v (.int .i64 r0)))) []) (fun xn3 xi4 => iter (evF TT cs_spec_NextDeath 31 an_spec_NextDeath Try.f33 [1, 1, 1, 0, 1, 0, 0]) nm0_spec_NextDeath (kt0_spec_NextDeath (fin_spec_NextDeath list0 kk)) n (can0_spec_NextDeath list0 xn3 xi4)) := by kernel_rfl
theorem l0_spec_NextDeath (list0 : List (Int × Int)) (kk : AV → List A1 → Prop) : ∀ (n : Nat) (xn3 : Int) (xi4 : Int), iter (evF TT cs_spec_NextDeath 31 an_spec_NextDeath Try.f33 [1, 1, 1, 0, 1, 0, 0]) nm0_spec_NextDeath (kt0_spec_NextDeath (fin_spec_NextDeath list0 kk)) n (can0_spec_NextDeath list0 xn3 xi4) = L0_spec_NextDeath list0 (fun r0 => kk (.one (.c (.v (.int .i64 r0)))) []) n xn3 xi4 := by
  intro n
  induction n with
  | zero => intros; rfl
  | succ n ih =>
    intro xn3 xi4
    rw [r0_spec_NextDeath list0 kk n xn3 xi4]
    have hb : (fun xn3 xi4 => iter (evF TT cs_spec_NextDeath 31 an_spec_NextDeath Try.f33 [1, 1, 1, 0, 1, 0, 0]) nm0_spec_NextDeath (kt0_spec_NextDeath (fin_spec_NextDeath list0 kk)) n (can0_spec_NextDeath list0 xn3 xi4)) = L0_spec_NextDeath list0 (fun r0 => kk (.one (.c (.v (.int .i64 r0)))) []) n := by
      funext xn3 xi4; exact ih xn3 xi4
    rw [hb]
    rfl
theorem g_spec_NextDeath (list0 : List (Int × Int)) (kk : AV → List A1 → Prop) :
    ev TT cs_spec_NextDeath 31 an_spec_NextDeath (Try.f33.body.getD .skip) (st0 con_spec_NextDeath [.c (.ro .ii list0)]) (fin TT con_spec_NextDeath Try.f33.results.toList [.c .sc] [.c (.ro .ii list0)] kk) = G_spec_NextDeath list0 (fun r0 => kk (.one (.c (.v (.int .i64 r0)))) []) (fun list0 xn3 xi4 => ∃ j, iter (evF TT cs_spec_NextDeath 31 an_spec_NextDeath Try.f33 [1, 1, 1, 0, 1, 0, 0]) nm0_spec_NextDeath (kt0_spec_NextDeath (fin_spec_NextDeath list0 kk)) j (can0_spec_NextDeath list0 xn3 xi4)) := by kernel_rfl
theorem e_spec_NextDeath (list0 : List (Int × Int)) (kk : AV → List A1 → Prop) :
    ev TT cs_spec_NextDeath 31 an_spec_NextDeath (Try.f33.body.getD .skip) (st0 con_spec_NextDeath [.c (.ro .ii list0)]) (fin TT con_spec_NextDeath Try.f33.results.toList [.c .sc] [.c (.ro .ii list0)] kk) = S_spec_NextDeath list0 (fun r0 => kk (.one (.c (.v (.int .i64 r0)))) []) := by
  rw [g_spec_NextDeath]
  have hi0 : (fun list0 xn3 xi4 => ∃ j, iter (evF TT cs_spec_NextDeath 31 an_spec_NextDeath Try.f33 [1, 1, 1, 0, 1, 0, 0]) nm0_spec_NextDeath (kt0_spec_NextDeath (fin_spec_NextDeath list0 kk)) j (can0_spec_NextDeath list0 xn3 xi4)) = (fun list0 xn3 xi4 => ∃ j, L0_spec_NextDeath list0 (fun r0 => kk (.one (.c (.v (.int .i64 r0)))) []) j xn3 xi4) := by
    funext list0 xn3 xi4
    refine congrArg Exists (funext fun j => ?_)
    rw [l0_spec_NextDeath list0 kk j xn3 xi4]
  rw [hi0]
  rfl
theorem clok_spec_NextDeath : ConOK Try.prog cl_spec_NextDeath := consCons h_spec_validTimed ⟨Try.f56, Try.func56, by kernel_rfl, ne_of_beq (by kernel_rfl)⟩ (consNil)
theorem cok_spec_NextDeath : ConsOK Try.prog 31 cs_spec_NextDeath := ⟨clok_spec_NextDeath, inlNil⟩
theorem i_spec_NextDeath {vs : List A1} {kk : AV → List A1 → Prop} {motive : List A1 → Prop} (h : con_spec_NextDeath.F vs kk) (H : ∀ (list0 : List (Int × Int)), F_spec_NextDeath list0 (fun r0 => kk (.one (.c (.v (.int .i64 r0)))) []) → motive [.c (.ro .ii list0)]) : motive vs := by
  unfold con_spec_NextDeath at h
  dsimp only at h
  split at h
  · exact H _ h
  · exact h.elim
theorem h_spec_NextDeath : Holds Try.prog 33 con_spec_NextDeath := by
  refine holds_of_ev (rt := [.c .sc]) (T := TT) (Γ := cs_spec_NextDeath) (an := an_spec_NextDeath) (N := 31) (c := Try.f33.body.getD .skip) Try.func33 (by kernel_rfl) Try.ntmps33 (by decide) (by decide) mixed tabOK cok_spec_NextDeath (by kernel_rfl) ?_
  intro vs kk _ hF
  exact i_spec_NextDeath (motive := fun vs => Goes (ev TT cs_spec_NextDeath 31 an_spec_NextDeath (Try.f33.body.getD .skip) (st0 con_spec_NextDeath vs) (fin TT con_spec_NextDeath Try.f33.results.toList [.c .sc] vs kk))) hF (fun list0 hF => goes_of (e_spec_NextDeath list0 kk) (F_spec_NextDeath_S hF))
def con_impl_validKey : Con := ⟨[.rd], true, [.c (.sc)], fun vs k => match vs with
    | [.c (.v (.int .i64 key0))] => F_impl_validKey key0 (fun r0 => k (.one (.c (.v (.bool r0)))) [])
    | _ => False, false⟩
def cl_impl_validKey : List (FuncId × Con) := []
def an_impl_validKey : Ann := ⟨[], [], []⟩
def cs_impl_validKey : Cons := ⟨cl_impl_validKey, [], 0, [], []⟩
def fin_impl_validKey (key0 : Int) (kk : AV → List A1 → Prop) : Kt := fin TT con_impl_validKey Try.f58.results.toList [.c .sc] [.c (.v (.int .i64 key0))] kk
theorem g_impl_validKey (key0 : Int) (kk : AV → List A1 → Prop) :
    ev TT cs_impl_validKey 9 an_impl_validKey (Try.f58.body.getD .skip) (st0 con_impl_validKey [.c (.v (.int .i64 key0))]) (fin TT con_impl_validKey Try.f58.results.toList [.c .sc] [.c (.v (.int .i64 key0))] kk) = G_impl_validKey key0 (fun r0 => kk (.one (.c (.v (.bool r0)))) []) := by kernel_rfl
theorem e_impl_validKey (key0 : Int) (kk : AV → List A1 → Prop) :
    ev TT cs_impl_validKey 9 an_impl_validKey (Try.f58.body.getD .skip) (st0 con_impl_validKey [.c (.v (.int .i64 key0))]) (fin TT con_impl_validKey Try.f58.results.toList [.c .sc] [.c (.v (.int .i64 key0))] kk) = S_impl_validKey key0 (fun r0 => kk (.one (.c (.v (.bool r0)))) []) := by
  rw [g_impl_validKey]
  rfl
theorem clok_impl_validKey : ConOK Try.prog cl_impl_validKey := consNil
theorem cok_impl_validKey : ConsOK Try.prog 9 cs_impl_validKey := ⟨clok_impl_validKey, inlNil⟩
theorem i_impl_validKey {vs : List A1} {kk : AV → List A1 → Prop} {motive : List A1 → Prop} (h : con_impl_validKey.F vs kk) (H : ∀ (key0 : Int), F_impl_validKey key0 (fun r0 => kk (.one (.c (.v (.bool r0)))) []) → motive [.c (.v (.int .i64 key0))]) : motive vs := by
  unfold con_impl_validKey at h
  dsimp only at h
  split at h
  · exact H _ h
  · exact h.elim
theorem h_impl_validKey : Holds Try.prog 58 con_impl_validKey := by
  refine holds_of_ev (rt := [.c .sc]) (T := TT) (Γ := cs_impl_validKey) (an := an_impl_validKey) (N := 9) (c := Try.f58.body.getD .skip) Try.func58 (by kernel_rfl) Try.ntmps58 (by decide) (by decide) mixed tabOK cok_impl_validKey (by kernel_rfl) ?_
  intro vs kk _ hF
  exact i_impl_validKey (motive := fun vs => Goes (ev TT cs_impl_validKey 9 an_impl_validKey (Try.f58.body.getD .skip) (st0 con_impl_validKey vs) (fin TT con_impl_validKey Try.f58.results.toList [.c .sc] vs kk))) hF (fun key0 hF => goes_of (e_impl_validKey key0 kk) (F_impl_validKey_S hF))
def con_impl_validTime : Con := ⟨[.rd], true, [.c (.sc)], fun vs k => match vs with
    | [.c (.v (.int .i64 time0))] => F_impl_validTime time0 (fun r0 => k (.one (.c (.v (.bool r0)))) [])
    | _ => False, false⟩
def cl_impl_validTime : List (FuncId × Con) := []
def an_impl_validTime : Ann := ⟨[], [], []⟩
def cs_impl_validTime : Cons := ⟨cl_impl_validTime, [], 0, [], []⟩
def fin_impl_validTime (time0 : Int) (kk : AV → List A1 → Prop) : Kt := fin TT con_impl_validTime Try.f59.results.toList [.c .sc] [.c (.v (.int .i64 time0))] kk
theorem g_impl_validTime (time0 : Int) (kk : AV → List A1 → Prop) :
    ev TT cs_impl_validTime 9 an_impl_validTime (Try.f59.body.getD .skip) (st0 con_impl_validTime [.c (.v (.int .i64 time0))]) (fin TT con_impl_validTime Try.f59.results.toList [.c .sc] [.c (.v (.int .i64 time0))] kk) = G_impl_validTime time0 (fun r0 => kk (.one (.c (.v (.bool r0)))) []) := by kernel_rfl
theorem e_impl_validTime (time0 : Int) (kk : AV → List A1 → Prop) :
    ev TT cs_impl_validTime 9 an_impl_validTime (Try.f59.body.getD .skip) (st0 con_impl_validTime [.c (.v (.int .i64 time0))]) (fin TT con_impl_validTime Try.f59.results.toList [.c .sc] [.c (.v (.int .i64 time0))] kk) = S_impl_validTime time0 (fun r0 => kk (.one (.c (.v (.bool r0)))) []) := by
  rw [g_impl_validTime]
  rfl
theorem clok_impl_validTime : ConOK Try.prog cl_impl_validTime := consNil
theorem cok_impl_validTime : ConsOK Try.prog 9 cs_impl_validTime := ⟨clok_impl_validTime, inlNil⟩
theorem i_impl_validTime {vs : List A1} {kk : AV → List A1 → Prop} {motive : List A1 → Prop} (h : con_impl_validTime.F vs kk) (H : ∀ (time0 : Int), F_impl_validTime time0 (fun r0 => kk (.one (.c (.v (.bool r0)))) []) → motive [.c (.v (.int .i64 time0))]) : motive vs := by
  unfold con_impl_validTime at h
  dsimp only at h
  split at h
  · exact H _ h
  · exact h.elim
theorem h_impl_validTime : Holds Try.prog 59 con_impl_validTime := by
  refine holds_of_ev (rt := [.c .sc]) (T := TT) (Γ := cs_impl_validTime) (an := an_impl_validTime) (N := 9) (c := Try.f59.body.getD .skip) Try.func59 (by kernel_rfl) Try.ntmps59 (by decide) (by decide) mixed tabOK cok_impl_validTime (by kernel_rfl) ?_
  intro vs kk _ hF
  exact i_impl_validTime (motive := fun vs => Goes (ev TT cs_impl_validTime 9 an_impl_validTime (Try.f59.body.getD .skip) (st0 con_impl_validTime vs) (fin TT con_impl_validTime Try.f59.results.toList [.c .sc] vs kk))) hF (fun time0 hF => goes_of (e_impl_validTime time0 kk) (F_impl_validTime_S hF))
def con_impl_ValidTimed : Con := ⟨[.rd], true, [.c (.sl .ii)], fun vs k => match vs with
    | [.c (.ro .ii list0)] => F_impl_ValidTimed list0 (fun r0 => k (.one (.c (.v (.bool r0)))) [])
    | _ => False, false⟩
def cl_impl_ValidTimed : List (FuncId × Con) := [(58, con_impl_validKey), (59, con_impl_validTime)]
def nm0_impl_ValidTimed : List NStep := [.keep [0, 8, 9, 10] []]
def an_impl_ValidTimed : Ann := ⟨[(8, .take 0 (.take 1 (.take 2 (.take 3 (.take 4 (.take 5 (.take 6 (.take 7 (.take 8 (.take 9 (.take 10 (.take 11 (.take 12 (.done))))))))))))), [64])], [(4, nm0_impl_ValidTimed)], []⟩
def cs_impl_ValidTimed : Cons := ⟨cl_impl_ValidTimed, [], 0, [], []⟩
def can0_impl_ValidTimed (list0 : List (Int × Int)) (xt9 : Int) (xt10 : Int) : St := ⟨[(0, .one (.c (.ro .ii list0))), (8, .one (.c (.ro .ii list0))), (9, .one (.c (.v (.int .i64 xt9)))), (10, .one (.c (.v (.int .i64 xt10))))], []⟩
def fin_impl_ValidTimed (list0 : List (Int × Int)) (kk : AV → List A1 → Prop) : Kt := fin TT con_impl_ValidTimed Try.f23.results.toList [.c .sc] [.c (.ro .ii list0)] kk
def kt0_impl_ValidTimed (kf : Kt) : Kt := blockK 0 (seqK (evF TT cs_impl_ValidTimed 39 an_impl_ValidTimed Try.f23 [1, 1, 1]) (kf))
theorem r0_impl_ValidTimed (list0 : List (Int × Int)) (xt9 : Int) (kk : AV → List A1 → Prop) (n : Nat) (xt10 : Int) :
    iter (evF TT cs_impl_ValidTimed 39 an_impl_ValidTimed Try.f23 [1, 1, 0, 1, 0, 0]) nm0_impl_ValidTimed (kt0_impl_ValidTimed (fin_impl_ValidTimed list0 kk)) (n + 1) (can0_impl_ValidTimed list0 xt9 xt10) = T0_impl_ValidTimed list0 xt9 xt10 (fun r0 => kk (.one (.c (.v (.bool r0)))) []) (fun xt10 => iter (evF TT cs_impl_ValidTimed 39 an_impl_ValidTimed Try.f23 [1, 1, 0, 1, 0, 0]) nm0_impl_ValidTimed (kt0_impl_ValidTimed (fin_impl_ValidTimed list0 kk)) n (can0_impl_ValidTimed list0 xt9 xt10)) := by kernel_rfl
theorem l0_impl_ValidTimed (list0 : List (Int × Int)) (xt9 : Int) (kk : AV → List A1 → Prop) : ∀ (n : Nat) (xt10 : Int), iter (evF TT cs_impl_ValidTimed 39 an_impl_ValidTimed Try.f23 [1, 1, 0, 1, 0, 0]) nm0_impl_ValidTimed (kt0_impl_ValidTimed (fin_impl_ValidTimed list0 kk)) n (can0_impl_ValidTimed list0 xt9 xt10) = L0_impl_ValidTimed list0 xt9 (fun r0 => kk (.one (.c (.v (.bool r0)))) []) n xt10 := by
  intro n
  induction n with
  | zero => intros; rfl
  | succ n ih =>
    intro xt10
    rw [r0_impl_ValidTimed list0 xt9 kk n xt10]
    have hb : (fun xt10 => iter (evF TT cs_impl_ValidTimed 39 an_impl_ValidTimed Try.f23 [1, 1, 0, 1, 0, 0]) nm0_impl_ValidTimed (kt0_impl_ValidTimed (fin_impl_ValidTimed list0 kk)) n (can0_impl_ValidTimed list0 xt9 xt10)) = L0_impl_ValidTimed list0 xt9 (fun r0 => kk (.one (.c (.v (.bool r0)))) []) n := by
      funext xt10; exact ih xt10
    rw [hb]
    rfl
theorem g_impl_ValidTimed (list0 : List (Int × Int)) (kk : AV → List A1 → Prop) :
    ev TT cs_impl_ValidTimed 39 an_impl_ValidTimed (Try.f23.body.getD .skip) (st0 con_impl_ValidTimed [.c (.ro .ii list0)]) (fin TT con_impl_ValidTimed Try.f23.results.toList [.c .sc] [.c (.ro .ii list0)] kk) = G_impl_ValidTimed list0 (fun r0 => kk (.one (.c (.v (.bool r0)))) []) (fun list0 xt9 xt10 => ∃ j, iter (evF TT cs_impl_ValidTimed 39 an_impl_ValidTimed Try.f23 [1, 1, 0, 1, 0, 0]) nm0_impl_ValidTimed (kt0_impl_ValidTimed (fin_impl_ValidTimed list0 kk)) j (can0_impl_ValidTimed list0 xt9 xt10)) := by kernel_rfl
theorem e_impl_ValidTimed (list0 : List (Int × Int)) (kk : AV → List A1 → Prop) :
    ev TT cs_impl_ValidTimed 39 an_impl_ValidTimed (Try.f23.body.getD .skip) (st0 con_impl_ValidTimed [.c (.ro .ii list0)]) (fin TT con_impl_ValidTimed Try.f23.results.toList [.c .sc] [.c (.ro .ii list0)] kk) = S_impl_ValidTimed list0 (fun r0 => kk (.one (.c (.v (.bool r0)))) []) := by
  rw [g_impl_ValidTimed]
  have hi0 : (fun list0 xt9 xt10 => ∃ j, iter (evF TT cs_impl_ValidTimed 39 an_impl_ValidTimed Try.f23 [1, 1, 0, 1, 0, 0]) nm0_impl_ValidTimed (kt0_impl_ValidTimed (fin_impl_ValidTimed list0 kk)) j (can0_impl_ValidTimed list0 xt9 xt10)) = (fun list0 xt9 xt10 => ∃ j, L0_impl_ValidTimed list0 xt9 (fun r0 => kk (.one (.c (.v (.bool r0)))) []) j xt10) := by
    funext list0 xt9 xt10
    refine congrArg Exists (funext fun j => ?_)
    rw [l0_impl_ValidTimed list0 xt9 kk j xt10]
  rw [hi0]
  rfl
theorem clok_impl_ValidTimed : ConOK Try.prog cl_impl_ValidTimed := consCons h_impl_validKey ⟨Try.f58, Try.func58, by kernel_rfl, ne_of_beq (by kernel_rfl)⟩ (consCons h_impl_validTime ⟨Try.f59, Try.func59, by kernel_rfl, ne_of_beq (by kernel_rfl)⟩ (consNil))
theorem cok_impl_ValidTimed : ConsOK Try.prog 39 cs_impl_ValidTimed := ⟨clok_impl_ValidTimed, inlNil⟩
theorem i_impl_ValidTimed {vs : List A1} {kk : AV → List A1 → Prop} {motive : List A1 → Prop} (h : con_impl_ValidTimed.F vs kk) (H : ∀ (list0 : List (Int × Int)), F_impl_ValidTimed list0 (fun r0 => kk (.one (.c (.v (.bool r0)))) []) → motive [.c (.ro .ii list0)]) : motive vs := by
  unfold con_impl_ValidTimed at h
  dsimp only at h
  split at h
  · exact H _ h
  · exact h.elim
theorem h_impl_ValidTimed : Holds Try.prog 23 con_impl_ValidTimed := by
  refine holds_of_ev (rt := [.c .sc]) (T := TT) (Γ := cs_impl_ValidTimed) (an := an_impl_ValidTimed) (N := 39) (c := Try.f23.body.getD .skip) Try.func23 (by kernel_rfl) Try.ntmps23 (by decide) (by decide) mixed tabOK cok_impl_ValidTimed (by kernel_rfl) ?_
  intro vs kk _ hF
  exact i_impl_ValidTimed (motive := fun vs => Goes (ev TT cs_impl_ValidTimed 39 an_impl_ValidTimed (Try.f23.body.getD .skip) (st0 con_impl_ValidTimed vs) (fin TT con_impl_ValidTimed Try.f23.results.toList [.c .sc] vs kk))) hF (fun list0 hF => goes_of (e_impl_ValidTimed list0 kk) (F_impl_ValidTimed_S hF))
def con_impl_NextDeath : Con := ⟨[.rd], true, [.c (.sl .ii)], fun vs k => match vs with
    | [.c (.ro .ii list0)] => F_impl_NextDeath list0 (fun r0 => k (.one (.c (.v (.int .i64 r0)))) [])
    | _ => False, false⟩
def cl_impl_NextDeath : List (FuncId × Con) := [(23, con_impl_ValidTimed)]
def nm0_impl_NextDeath : List NStep := [.keep [3, 14, 15, 16] []]
def an_impl_NextDeath : Ann := ⟨[], [(5, nm0_impl_NextDeath)], []⟩
def cs_impl_NextDeath : Cons := ⟨cl_impl_NextDeath, [], 0, [], []⟩
def can0_impl_NextDeath (list0 : List (Int × Int)) (xt15 : Int) (xnext3 : Int) (xt16 : Int) : St := ⟨[(3, .one (.c (.v (.int .i64 xnext3)))), (14, .one (.c (.ro .ii list0))), (15, .one (.c (.v (.int .i64 xt15)))), (16, .one (.c (.v (.int .i64 xt16))))], []⟩
def fin_impl_NextDeath (list0 : List (Int × Int)) (kk : AV → List A1 → Prop) : Kt := fin TT con_impl_NextDeath Try.f16.results.toList [.c .sc] [.c (.ro .ii list0)] kk
def kt0_impl_NextDeath (kf : Kt) : Kt := blockK 0 (seqK (evF TT cs_impl_NextDeath 26 an_impl_NextDeath Try.f16 [1, 1, 1, 1]) (kf))
theorem r0_impl_NextDeath (list0 : List (Int × Int)) (xt15 : Int) (kk : AV → List A1 → Prop) (n : Nat) (xnext3 : Int) (xt16 : Int) :
    iter (evF TT cs_impl_NextDeath 26 an_impl_NextDeath Try.f16 [1, 1, 1, 0, 1, 0, 0]) nm0_impl_NextDeath (kt0_impl_NextDeath (fin_impl_NextDeath list0 kk)) (n + 1) (can0_impl_NextDeath list0 xt15 xnext3 xt16) = T0_impl_NextDeath list0 xt15 xnext3 xt16 (fun r0 => kk (.one (.c (.v (.int .i64 r0)))) []) (fun xnext3 xt16 => iter (evF TT cs_impl_NextDeath 26 an_impl_NextDeath Try.f16 [1, 1, 1, 0, 1, 0, 0]) nm0_impl_NextDeath (kt0_impl_NextDeath (fin_impl_NextDeath list0 kk)) n (can0_impl_NextDeath list0 xt15 xnext3 xt16)) := by kernel_rfl
theorem l0_impl_NextDeath (list0 : List (Int × Int)) (xt15 : Int) (kk : AV → List A1 → Prop) : ∀ (n : Nat) (xnext3 : Int) (xt16 : Int), iter (evF TT cs_impl_NextDeath 26 an_impl_NextDeath Try.f16 [1, 1, 1, 0, 1, 0, 0]) nm0_impl_NextDeath (kt0_impl_NextDeath (fin_impl_NextDeath list0 kk)) n (can0_impl_NextDeath list0 xt15 xnext3 xt16) = L0_impl_NextDeath list0 xt15 (fun r0 => kk (.one (.c (.v (.int .i64 r0)))) []) n xnext3 xt16 := by
  intro n
  induction n with
  | zero => intros; rfl
  | succ n ih =>
    intro xnext3 xt16
    rw [r0_impl_NextDeath list0 xt15 kk n xnext3 xt16]
    have hb : (fun xnext3 xt16 => iter (evF TT cs_impl_NextDeath 26 an_impl_NextDeath Try.f16 [1, 1, 1, 0, 1, 0, 0]) nm0_impl_NextDeath (kt0_impl_NextDeath (fin_impl_NextDeath list0 kk)) n (can0_impl_NextDeath list0 xt15 xnext3 xt16)) = L0_impl_NextDeath list0 xt15 (fun r0 => kk (.one (.c (.v (.int .i64 r0)))) []) n := by
      funext xnext3 xt16; exact ih xnext3 xt16
    rw [hb]
    rfl
theorem g_impl_NextDeath (list0 : List (Int × Int)) (kk : AV → List A1 → Prop) :
    ev TT cs_impl_NextDeath 26 an_impl_NextDeath (Try.f16.body.getD .skip) (st0 con_impl_NextDeath [.c (.ro .ii list0)]) (fin TT con_impl_NextDeath Try.f16.results.toList [.c .sc] [.c (.ro .ii list0)] kk) = G_impl_NextDeath list0 (fun r0 => kk (.one (.c (.v (.int .i64 r0)))) []) (fun list0 xt15 xnext3 xt16 => ∃ j, iter (evF TT cs_impl_NextDeath 26 an_impl_NextDeath Try.f16 [1, 1, 1, 0, 1, 0, 0]) nm0_impl_NextDeath (kt0_impl_NextDeath (fin_impl_NextDeath list0 kk)) j (can0_impl_NextDeath list0 xt15 xnext3 xt16)) := by kernel_rfl
theorem e_impl_NextDeath (list0 : List (Int × Int)) (kk : AV → List A1 → Prop) :
    ev TT cs_impl_NextDeath 26 an_impl_NextDeath (Try.f16.body.getD .skip) (st0 con_impl_NextDeath [.c (.ro .ii list0)]) (fin TT con_impl_NextDeath Try.f16.results.toList [.c .sc] [.c (.ro .ii list0)] kk) = S_impl_NextDeath list0 (fun r0 => kk (.one (.c (.v (.int .i64 r0)))) []) := by
  rw [g_impl_NextDeath]
  have hi0 : (fun list0 xt15 xnext3 xt16 => ∃ j, iter (evF TT cs_impl_NextDeath 26 an_impl_NextDeath Try.f16 [1, 1, 1, 0, 1, 0, 0]) nm0_impl_NextDeath (kt0_impl_NextDeath (fin_impl_NextDeath list0 kk)) j (can0_impl_NextDeath list0 xt15 xnext3 xt16)) = (fun list0 xt15 xnext3 xt16 => ∃ j, L0_impl_NextDeath list0 xt15 (fun r0 => kk (.one (.c (.v (.int .i64 r0)))) []) j xnext3 xt16) := by
    funext list0 xt15 xnext3 xt16
    refine congrArg Exists (funext fun j => ?_)
    rw [l0_impl_NextDeath list0 xt15 kk j xnext3 xt16]
  rw [hi0]
  rfl
theorem clok_impl_NextDeath : ConOK Try.prog cl_impl_NextDeath := consCons h_impl_ValidTimed ⟨Try.f23, Try.func23, by kernel_rfl, ne_of_beq (by kernel_rfl)⟩ (consNil)
theorem cok_impl_NextDeath : ConsOK Try.prog 26 cs_impl_NextDeath := ⟨clok_impl_NextDeath, inlNil⟩
theorem i_impl_NextDeath {vs : List A1} {kk : AV → List A1 → Prop} {motive : List A1 → Prop} (h : con_impl_NextDeath.F vs kk) (H : ∀ (list0 : List (Int × Int)), F_impl_NextDeath list0 (fun r0 => kk (.one (.c (.v (.int .i64 r0)))) []) → motive [.c (.ro .ii list0)]) : motive vs := by
  unfold con_impl_NextDeath at h
  dsimp only at h
  split at h
  · exact H _ h
  · exact h.elim
theorem h_impl_NextDeath : Holds Try.prog 16 con_impl_NextDeath := by
  refine holds_of_ev (rt := [.c .sc]) (T := TT) (Γ := cs_impl_NextDeath) (an := an_impl_NextDeath) (N := 26) (c := Try.f16.body.getD .skip) Try.func16 (by kernel_rfl) Try.ntmps16 (by decide) (by decide) mixed tabOK cok_impl_NextDeath (by kernel_rfl) ?_
  intro vs kk _ hF
  exact i_impl_NextDeath (motive := fun vs => Goes (ev TT cs_impl_NextDeath 26 an_impl_NextDeath (Try.f16.body.getD .skip) (st0 con_impl_NextDeath vs) (fin TT con_impl_NextDeath Try.f16.results.toList [.c .sc] vs kk))) hF (fun list0 hF => goes_of (e_impl_NextDeath list0 kk) (F_impl_NextDeath_S hF))
def con_laws_eqTimed : Con := ⟨[.rd, .rd], true, [.agg [.sc, .sc], .agg [.sc, .sc]], fun vs k => match vs with
    | [.agg [.v (.int .i64 a0Key), .v (.int .i64 a0Until)], .agg [.v (.int .i64 b1Key), .v (.int .i64 b1Until)]] => F_laws_eqTimed a0Key a0Until b1Key b1Until (fun r0 => k (.one (.c (.v (.bool r0)))) [])
    | _ => False, false⟩
def cl_laws_eqTimed : List (FuncId × Con) := []
def an_laws_eqTimed : Ann := ⟨[], [], []⟩
def cs_laws_eqTimed : Cons := ⟨cl_laws_eqTimed, [], 0, [], []⟩
def fin_laws_eqTimed (a0Key : Int) (a0Until : Int) (b1Key : Int) (b1Until : Int) (kk : AV → List A1 → Prop) : Kt := fin TT con_laws_eqTimed Try.f60.results.toList [.c .sc] [.agg [.v (.int .i64 a0Key), .v (.int .i64 a0Until)], .agg [.v (.int .i64 b1Key), .v (.int .i64 b1Until)]] kk
theorem g_laws_eqTimed (a0Key : Int) (a0Until : Int) (b1Key : Int) (b1Until : Int) (kk : AV → List A1 → Prop) :
    ev TT cs_laws_eqTimed 15 an_laws_eqTimed (Try.f60.body.getD .skip) (st0 con_laws_eqTimed [.agg [.v (.int .i64 a0Key), .v (.int .i64 a0Until)], .agg [.v (.int .i64 b1Key), .v (.int .i64 b1Until)]]) (fin TT con_laws_eqTimed Try.f60.results.toList [.c .sc] [.agg [.v (.int .i64 a0Key), .v (.int .i64 a0Until)], .agg [.v (.int .i64 b1Key), .v (.int .i64 b1Until)]] kk) = G_laws_eqTimed a0Key a0Until b1Key b1Until (fun r0 => kk (.one (.c (.v (.bool r0)))) []) := by kernel_rfl
theorem e_laws_eqTimed (a0Key : Int) (a0Until : Int) (b1Key : Int) (b1Until : Int) (kk : AV → List A1 → Prop) :
    ev TT cs_laws_eqTimed 15 an_laws_eqTimed (Try.f60.body.getD .skip) (st0 con_laws_eqTimed [.agg [.v (.int .i64 a0Key), .v (.int .i64 a0Until)], .agg [.v (.int .i64 b1Key), .v (.int .i64 b1Until)]]) (fin TT con_laws_eqTimed Try.f60.results.toList [.c .sc] [.agg [.v (.int .i64 a0Key), .v (.int .i64 a0Until)], .agg [.v (.int .i64 b1Key), .v (.int .i64 b1Until)]] kk) = S_laws_eqTimed a0Key a0Until b1Key b1Until (fun r0 => kk (.one (.c (.v (.bool r0)))) []) := by
  rw [g_laws_eqTimed]
  rfl
theorem clok_laws_eqTimed : ConOK Try.prog cl_laws_eqTimed := consNil
theorem cok_laws_eqTimed : ConsOK Try.prog 15 cs_laws_eqTimed := ⟨clok_laws_eqTimed, inlNil⟩
theorem i_laws_eqTimed {vs : List A1} {kk : AV → List A1 → Prop} {motive : List A1 → Prop} (h : con_laws_eqTimed.F vs kk) (H : ∀ (a0Key : Int) (a0Until : Int) (b1Key : Int) (b1Until : Int), F_laws_eqTimed a0Key a0Until b1Key b1Until (fun r0 => kk (.one (.c (.v (.bool r0)))) []) → motive [.agg [.v (.int .i64 a0Key), .v (.int .i64 a0Until)], .agg [.v (.int .i64 b1Key), .v (.int .i64 b1Until)]]) : motive vs := by
  unfold con_laws_eqTimed at h
  dsimp only at h
  split at h
  · exact H _ _ _ _ h
  · exact h.elim
theorem h_laws_eqTimed : Holds Try.prog 60 con_laws_eqTimed := by
  refine holds_of_ev (rt := [.c .sc]) (T := TT) (Γ := cs_laws_eqTimed) (an := an_laws_eqTimed) (N := 15) (c := Try.f60.body.getD .skip) Try.func60 (by kernel_rfl) Try.ntmps60 (by decide) (by decide) mixed tabOK cok_laws_eqTimed (by kernel_rfl) ?_
  intro vs kk _ hF
  exact i_laws_eqTimed (motive := fun vs => Goes (ev TT cs_laws_eqTimed 15 an_laws_eqTimed (Try.f60.body.getD .skip) (st0 con_laws_eqTimed vs) (fin TT con_laws_eqTimed Try.f60.results.toList [.c .sc] vs kk))) hF (fun a0Key a0Until b1Key b1Until hF => goes_of (e_laws_eqTimed a0Key a0Until b1Key b1Until kk) (F_laws_eqTimed_S hF))
def con_laws_eqTimedS : Con := ⟨[.rd, .rd], true, [.c (.sl .ii), .c (.sl .ii)], fun vs k => match vs with
    | [.c (.ro .ii a0), .c (.ro .ii b1)] => F_laws_eqTimedS a0 b1 (fun r0 => k (.one (.c (.v (.bool r0)))) [])
    | _ => False, false⟩
def cl_laws_eqTimedS : List (FuncId × Con) := [(60, con_laws_eqTimed)]
def nm0_laws_eqTimedS : List NStep := [.keep [0, 1, 5] []]
def an_laws_eqTimedS : Ann := ⟨[(6, .take 0 (.take 1 (.take 2 (.take 3 (.take 4 (.take 5 (.take 6 (.take 7 (.alt 8 (.take 9 (.done)) (.none))))))))), [])], [(4, nm0_laws_eqTimedS)], []⟩
def cs_laws_eqTimedS : Cons := ⟨cl_laws_eqTimedS, [], 0, [], []⟩
def can0_laws_eqTimedS (a0 : List (Int × Int)) (b1 : List (Int × Int)) (xi5 : Int) : St := ⟨[(0, .one (.c (.ro .ii a0))), (1, .one (.c (.ro .ii b1))), (5, .one (.c (.v (.int .i64 xi5))))], []⟩
def fin_laws_eqTimedS (a0 : List (Int × Int)) (b1 : List (Int × Int)) (kk : AV → List A1 → Prop) : Kt := fin TT con_laws_eqTimedS Try.f24.results.toList [.c .sc] [.c (.ro .ii a0), .c (.ro .ii b1)] kk
def kt0_laws_eqTimedS (kf : Kt) : Kt := blockK 0 (seqK (evF TT cs_laws_eqTimedS 27 an_laws_eqTimedS Try.f24 [1, 1, 1]) (kf))
theorem r0_laws_eqTimedS (a0 : List (Int × Int)) (b1 : List (Int × Int)) (kk : AV → List A1 → Prop) (n : Nat) (xi5 : Int) :
    iter (evF TT cs_laws_eqTimedS 27 an_laws_eqTimedS Try.f24 [1, 1, 0, 1, 0, 0]) nm0_laws_eqTimedS (kt0_laws_eqTimedS (fin_laws_eqTimedS a0 b1 kk)) (n + 1) (can0_laws_eqTimedS a0 b1 xi5) = T0_laws_eqTimedS a0 b1 xi5 (fun r0 => kk (.one (.c (.v (.bool r0)))) []) (fun xi5 => iter (evF TT cs_laws_eqTimedS 27 an_laws_eqTimedS Try.f24 [1, 1, 0, 1, 0, 0]) nm0_laws_eqTimedS (kt0_laws_eqTimedS (fin_laws_eqTimedS a0 b1 kk)) n (can0_laws_eqTimedS a0 b1 xi5)) := by kernel_rfl
theorem l0_laws_eqTimedS (a0 : List (Int × Int)) (b1 : List (Int × Int)) (kk : AV → List A1 → Prop) : ∀ (n : Nat) (xi5 : Int), iter (evF TT cs_laws_eqTimedS 27 an_laws_eqTimedS Try.f24 [1, 1, 0, 1, 0, 0]) nm0_laws_eqTimedS (kt0_laws_eqTimedS (fin_laws_eqTimedS a0 b1 kk)) n (can0_laws_eqTimedS a0 b1 xi5) = L0_laws_eqTimedS a0 b1 (fun r0 => kk (.one (.c (.v (.bool r0)))) []) n xi5 := by
  intro n
  induction n with
  | zero => intros; rfl
  | succ n ih =>
    intro xi5
    rw [r0_laws_eqTimedS a0 b1 kk n xi5]
    have hb : (fun xi5 => iter (evF TT cs_laws_eqTimedS 27 an_laws_eqTimedS Try.f24 [1, 1, 0, 1, 0, 0]) nm0_laws_eqTimedS (kt0_laws_eqTimedS (fin_laws_eqTimedS a0 b1 kk)) n (can0_laws_eqTimedS a0 b1 xi5)) = L0_laws_eqTimedS a0 b1 (fun r0 => kk (.one (.c (.v (.bool r0)))) []) n := by
      funext xi5; exact ih xi5
    rw [hb]
    rw [T0_laws_eqTimedS_eq]
    rfl
theorem g_laws_eqTimedS (a0 : List (Int × Int)) (b1 : List (Int × Int)) (kk : AV → List A1 → Prop) :
    ev TT cs_laws_eqTimedS 27 an_laws_eqTimedS (Try.f24.body.getD .skip) (st0 con_laws_eqTimedS [.c (.ro .ii a0), .c (.ro .ii b1)]) (fin TT con_laws_eqTimedS Try.f24.results.toList [.c .sc] [.c (.ro .ii a0), .c (.ro .ii b1)] kk) = G_laws_eqTimedS a0 b1 (fun r0 => kk (.one (.c (.v (.bool r0)))) []) (fun a0 b1 xi5 => ∃ j, iter (evF TT cs_laws_eqTimedS 27 an_laws_eqTimedS Try.f24 [1, 1, 0, 1, 0, 0]) nm0_laws_eqTimedS (kt0_laws_eqTimedS (fin_laws_eqTimedS a0 b1 kk)) j (can0_laws_eqTimedS a0 b1 xi5)) := by kernel_rfl
theorem e_laws_eqTimedS (a0 : List (Int × Int)) (b1 : List (Int × Int)) (kk : AV → List A1 → Prop) :
    ev TT cs_laws_eqTimedS 27 an_laws_eqTimedS (Try.f24.body.getD .skip) (st0 con_laws_eqTimedS [.c (.ro .ii a0), .c (.ro .ii b1)]) (fin TT con_laws_eqTimedS Try.f24.results.toList [.c .sc] [.c (.ro .ii a0), .c (.ro .ii b1)] kk) = S_laws_eqTimedS a0 b1 (fun r0 => kk (.one (.c (.v (.bool r0)))) []) := by
  rw [g_laws_eqTimedS]
  have hi0 : (fun a0 b1 xi5 => ∃ j, iter (evF TT cs_laws_eqTimedS 27 an_laws_eqTimedS Try.f24 [1, 1, 0, 1, 0, 0]) nm0_laws_eqTimedS (kt0_laws_eqTimedS (fin_laws_eqTimedS a0 b1 kk)) j (can0_laws_eqTimedS a0 b1 xi5)) = (fun a0 b1 xi5 => ∃ j, L0_laws_eqTimedS a0 b1 (fun r0 => kk (.one (.c (.v (.bool r0)))) []) j xi5) := by
    funext a0 b1 xi5
    refine congrArg Exists (funext fun j => ?_)
    rw [l0_laws_eqTimedS a0 b1 kk j xi5]
  rw [hi0]
  rfl
theorem clok_laws_eqTimedS : ConOK Try.prog cl_laws_eqTimedS := consCons h_laws_eqTimed ⟨Try.f60, Try.func60, by kernel_rfl, ne_of_beq (by kernel_rfl)⟩ (consNil)
theorem cok_laws_eqTimedS : ConsOK Try.prog 27 cs_laws_eqTimedS := ⟨clok_laws_eqTimedS, inlNil⟩
theorem i_laws_eqTimedS {vs : List A1} {kk : AV → List A1 → Prop} {motive : List A1 → Prop} (h : con_laws_eqTimedS.F vs kk) (H : ∀ (a0 : List (Int × Int)) (b1 : List (Int × Int)), F_laws_eqTimedS a0 b1 (fun r0 => kk (.one (.c (.v (.bool r0)))) []) → motive [.c (.ro .ii a0), .c (.ro .ii b1)]) : motive vs := by
  unfold con_laws_eqTimedS at h
  dsimp only at h
  split at h
  · exact H _ _ h
  · exact h.elim
theorem h_laws_eqTimedS : Holds Try.prog 24 con_laws_eqTimedS := by
  refine holds_of_ev (rt := [.c .sc]) (T := TT) (Γ := cs_laws_eqTimedS) (an := an_laws_eqTimedS) (N := 27) (c := Try.f24.body.getD .skip) Try.func24 (by kernel_rfl) Try.ntmps24 (by decide) (by decide) mixed tabOK cok_laws_eqTimedS (by kernel_rfl) ?_
  intro vs kk _ hF
  exact i_laws_eqTimedS (motive := fun vs => Goes (ev TT cs_laws_eqTimedS 27 an_laws_eqTimedS (Try.f24.body.getD .skip) (st0 con_laws_eqTimedS vs) (fin TT con_laws_eqTimedS Try.f24.results.toList [.c .sc] vs kk))) hF (fun a0 b1 hF => goes_of (e_laws_eqTimedS a0 b1 kk) (F_laws_eqTimedS_S hF))
def con_laws_FnExactNextDeath : Con := ⟨[.rd], true, [.c (.sl .ii)], fun vs k => match vs with
    | [.c (.ro .ii aList0)] => F_laws_FnExactNextDeath aList0 (fun r0 => k (.one (.c (.v (.bool r0)))) [])
    | _ => False, false⟩
def cl_laws_FnExactNextDeath : List (FuncId × Con) := [(16, con_impl_NextDeath), (20, con_laws_szTimedS), (22, con_laws_toTimedS), (24, con_laws_eqTimedS), (33, con_spec_NextDeath)]
def an_laws_FnExactNextDeath : Ann := ⟨[], [], []⟩
def cs_laws_FnExactNextDeath : Cons := ⟨cl_laws_FnExactNextDeath, [], 0, [], []⟩
def fin_laws_FnExactNextDeath (aList0 : List (Int × Int)) (kk : AV → List A1 → Prop) : Kt := fin TT con_laws_FnExactNextDeath Try.f8.results.toList [.c .sc] [.c (.ro .ii aList0)] kk
theorem g_laws_FnExactNextDeath (aList0 : List (Int × Int)) (kk : AV → List A1 → Prop) :
    ev TT cs_laws_FnExactNextDeath 27 an_laws_FnExactNextDeath (Try.f8.body.getD .skip) (st0 con_laws_FnExactNextDeath [.c (.ro .ii aList0)]) (fin TT con_laws_FnExactNextDeath Try.f8.results.toList [.c .sc] [.c (.ro .ii aList0)] kk) = G_laws_FnExactNextDeath aList0 (fun r0 => kk (.one (.c (.v (.bool r0)))) []) := by kernel_rfl
theorem e_laws_FnExactNextDeath (aList0 : List (Int × Int)) (kk : AV → List A1 → Prop) :
    ev TT cs_laws_FnExactNextDeath 27 an_laws_FnExactNextDeath (Try.f8.body.getD .skip) (st0 con_laws_FnExactNextDeath [.c (.ro .ii aList0)]) (fin TT con_laws_FnExactNextDeath Try.f8.results.toList [.c .sc] [.c (.ro .ii aList0)] kk) = S_laws_FnExactNextDeath aList0 (fun r0 => kk (.one (.c (.v (.bool r0)))) []) := by
  rw [g_laws_FnExactNextDeath]
  rfl
theorem clok_laws_FnExactNextDeath : ConOK Try.prog cl_laws_FnExactNextDeath := consCons h_impl_NextDeath ⟨Try.f16, Try.func16, by kernel_rfl, ne_of_beq (by kernel_rfl)⟩ (consCons h_laws_szTimedS ⟨Try.f20, Try.func20, by kernel_rfl, ne_of_beq (by kernel_rfl)⟩ (consCons h_laws_toTimedS ⟨Try.f22, Try.func22, by kernel_rfl, ne_of_beq (by kernel_rfl)⟩ (consCons h_laws_eqTimedS ⟨Try.f24, Try.func24, by kernel_rfl, ne_of_beq (by kernel_rfl)⟩ (consCons h_spec_NextDeath ⟨Try.f33, Try.func33, by kernel_rfl, ne_of_beq (by kernel_rfl)⟩ (consNil)))))
theorem cok_laws_FnExactNextDeath : ConsOK Try.prog 27 cs_laws_FnExactNextDeath := ⟨clok_laws_FnExactNextDeath, inlNil⟩
theorem i_laws_FnExactNextDeath {vs : List A1} {kk : AV → List A1 → Prop} {motive : List A1 → Prop} (h : con_laws_FnExactNextDeath.F vs kk) (H : ∀ (aList0 : List (Int × Int)), F_laws_FnExactNextDeath aList0 (fun r0 => kk (.one (.c (.v (.bool r0)))) []) → motive [.c (.ro .ii aList0)]) : motive vs := by
  unfold con_laws_FnExactNextDeath at h
  dsimp only at h
  split at h
  · exact H _ h
  · exact h.elim
theorem h_laws_FnExactNextDeath : Holds Try.prog 8 con_laws_FnExactNextDeath := by
  refine holds_of_ev (rt := [.c .sc]) (T := TT) (Γ := cs_laws_FnExactNextDeath) (an := an_laws_FnExactNextDeath) (N := 27) (c := Try.f8.body.getD .skip) Try.func8 (by kernel_rfl) Try.ntmps8 (by decide) (by decide) mixed tabOK cok_laws_FnExactNextDeath (by kernel_rfl) ?_
  intro vs kk _ hF
  exact i_laws_FnExactNextDeath (motive := fun vs => Goes (ev TT cs_laws_FnExactNextDeath 27 an_laws_FnExactNextDeath (Try.f8.body.getD .skip) (st0 con_laws_FnExactNextDeath vs) (fin TT con_laws_FnExactNextDeath Try.f8.results.toList [.c .sc] vs kk))) hF (fun aList0 hF => goes_of (e_laws_FnExactNextDeath aList0 kk) (F_laws_FnExactNextDeath_S hF))
end Go.Ev
