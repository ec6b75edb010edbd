/- What the evaluator gives for these functions: their contracts. No statement is proved here. -/
import Derived.Test.YtacohagnclnkdadFnExactWheelOfP1
import Derived.Test.YtacohagnclnkdadTt
namespace Go.Ev
set_option linter.unusedVariables false
set_option linter.unusedSimpArgs false
set_option maxRecDepth 100000
open Go Go.Proofs
def con_laws_szTimedS : Con := ⟨[.rd, .rd], true, [.c (.sl .ii), .c (.sc)], fun vs k => match vs with
    | [.c (.ro .ii a0), .c (.v (.int .i64 left1))] => F_laws_szTimedS a0 left1 (fun r0 => k (.one (.c (.v (.int .i64 r0)))) [])
    | _ => False, false⟩
def cl_laws_szTimedS : List (FuncId × Con) := []
def an_laws_szTimedS : Ann := ⟨[], [], [], []⟩
def cs_laws_szTimedS : Cons := ⟨cl_laws_szTimedS, [], 0, [], [], []⟩
def fin_laws_szTimedS (a0 : List (Int × Int)) (left1 : Int) (kk : AV → List A1 → Prop) : Kt := fin TT con_laws_szTimedS Try.f20.results.toList [.c .sc] [.c (.ro .ii a0), .c (.v (.int .i64 left1))] kk
theorem g_laws_szTimedS (a0 : List (Int × Int)) (left1 : Int) (kk : AV → List A1 → Prop) :
    ev TT cs_laws_szTimedS 12 an_laws_szTimedS (Try.f20.body.getD .skip) (st0 con_laws_szTimedS [.c (.ro .ii a0), .c (.v (.int .i64 left1))]) (fin TT con_laws_szTimedS Try.f20.results.toList [.c .sc] [.c (.ro .ii a0), .c (.v (.int .i64 left1))] kk) = G_laws_szTimedS a0 left1 (fun r0 => kk (.one (.c (.v (.int .i64 r0)))) []) := by kernel_rfl
theorem e_laws_szTimedS (a0 : List (Int × Int)) (left1 : Int) (kk : AV → List A1 → Prop) :
    ev TT cs_laws_szTimedS 12 an_laws_szTimedS (Try.f20.body.getD .skip) (st0 con_laws_szTimedS [.c (.ro .ii a0), .c (.v (.int .i64 left1))]) (fin TT con_laws_szTimedS Try.f20.results.toList [.c .sc] [.c (.ro .ii a0), .c (.v (.int .i64 left1))] kk) = S_laws_szTimedS a0 left1 (fun r0 => kk (.one (.c (.v (.int .i64 r0)))) []) := by
  rw [g_laws_szTimedS]
  rfl
theorem clok_laws_szTimedS : ConOK Try.prog cl_laws_szTimedS := consNil
theorem cok_laws_szTimedS : ConsOK Try.prog 12 cs_laws_szTimedS := ⟨clok_laws_szTimedS, inlNil, ovNil⟩
theorem i_laws_szTimedS {vs : List A1} {kk : AV → List A1 → Prop} {motive : List A1 → Prop} (h : con_laws_szTimedS.F vs kk) (H : ∀ (a0 : List (Int × Int)) (left1 : Int), F_laws_szTimedS a0 left1 (fun r0 => kk (.one (.c (.v (.int .i64 r0)))) []) → motive [.c (.ro .ii a0), .c (.v (.int .i64 left1))]) : motive vs := by
  unfold con_laws_szTimedS at h
  dsimp only at h
  split at h
  · exact H _ _ h
  · exact h.elim
theorem h_laws_szTimedS : Holds Try.prog 20 con_laws_szTimedS := by
  refine holds_of_ev (rt := [.c .sc]) (T := TT) (Γ := cs_laws_szTimedS) (an := an_laws_szTimedS) (N := 12) (c := Try.f20.body.getD .skip) Try.func20 (by kernel_rfl) Try.ntmps20 (by decide) (by decide) mixed tabOK cok_laws_szTimedS (by kernel_rfl) ?_
  intro vs kk _ hF
  exact i_laws_szTimedS (motive := fun vs => Goes (ev TT cs_laws_szTimedS 12 an_laws_szTimedS (Try.f20.body.getD .skip) (st0 con_laws_szTimedS vs) (fin TT con_laws_szTimedS Try.f20.results.toList [.c .sc] vs kk))) hF (fun a0 left1 hF => goes_of (e_laws_szTimedS a0 left1 kk) (F_laws_szTimedS_S hF))
def con_laws_toTimed : Con := ⟨[.rd], true, [.agg [.sc, .sc]], fun vs k => match vs with
    | [.agg [.v (.int .i64 a0Key), .v (.int .i64 a0Until)]] => F_laws_toTimed a0Key a0Until (fun r0 r1 => k (.one (.agg [.v (.int .i64 r0), .v (.int .i64 r1)])) [])
    | _ => False, false⟩
def cl_laws_toTimed : List (FuncId × Con) := []
def an_laws_toTimed : Ann := ⟨[], [], [], []⟩
def cs_laws_toTimed : Cons := ⟨cl_laws_toTimed, [], 0, [], [], []⟩
def fin_laws_toTimed (a0Key : Int) (a0Until : Int) (kk : AV → List A1 → Prop) : Kt := fin TT con_laws_toTimed Try.f41.results.toList [.agg [.sc, .sc]] [.agg [.v (.int .i64 a0Key), .v (.int .i64 a0Until)]] kk
theorem g_laws_toTimed (a0Key : Int) (a0Until : Int) (kk : AV → List A1 → Prop) :
    ev TT cs_laws_toTimed 11 an_laws_toTimed (Try.f41.body.getD .skip) (st0 con_laws_toTimed [.agg [.v (.int .i64 a0Key), .v (.int .i64 a0Until)]]) (fin TT con_laws_toTimed Try.f41.results.toList [.agg [.sc, .sc]] [.agg [.v (.int .i64 a0Key), .v (.int .i64 a0Until)]] kk) = G_laws_toTimed a0Key a0Until (fun r0 r1 => kk (.one (.agg [.v (.int .i64 r0), .v (.int .i64 r1)])) []) := by kernel_rfl
theorem e_laws_toTimed (a0Key : Int) (a0Until : Int) (kk : AV → List A1 → Prop) :
    ev TT cs_laws_toTimed 11 an_laws_toTimed (Try.f41.body.getD .skip) (st0 con_laws_toTimed [.agg [.v (.int .i64 a0Key), .v (.int .i64 a0Until)]]) (fin TT con_laws_toTimed Try.f41.results.toList [.agg [.sc, .sc]] [.agg [.v (.int .i64 a0Key), .v (.int .i64 a0Until)]] kk) = S_laws_toTimed a0Key a0Until (fun r0 r1 => kk (.one (.agg [.v (.int .i64 r0), .v (.int .i64 r1)])) []) := by
  rw [g_laws_toTimed]
  rfl
theorem clok_laws_toTimed : ConOK Try.prog cl_laws_toTimed := consNil
theorem cok_laws_toTimed : ConsOK Try.prog 11 cs_laws_toTimed := ⟨clok_laws_toTimed, inlNil, ovNil⟩
theorem i_laws_toTimed {vs : List A1} {kk : AV → List A1 → Prop} {motive : List A1 → Prop} (h : con_laws_toTimed.F vs kk) (H : ∀ (a0Key : Int) (a0Until : Int), F_laws_toTimed a0Key a0Until (fun r0 r1 => kk (.one (.agg [.v (.int .i64 r0), .v (.int .i64 r1)])) []) → motive [.agg [.v (.int .i64 a0Key), .v (.int .i64 a0Until)]]) : motive vs := by
  unfold con_laws_toTimed at h
  dsimp only at h
  split at h
  · exact H _ _ h
  · exact h.elim
theorem h_laws_toTimed : Holds Try.prog 41 con_laws_toTimed := by
  refine holds_of_ev (rt := [.agg [.sc, .sc]]) (T := TT) (Γ := cs_laws_toTimed) (an := an_laws_toTimed) (N := 11) (c := Try.f41.body.getD .skip) Try.func41 (by kernel_rfl) Try.ntmps41 (by decide) (by decide) mixed tabOK cok_laws_toTimed (by kernel_rfl) ?_
  intro vs kk _ hF
  exact i_laws_toTimed (motive := fun vs => Goes (ev TT cs_laws_toTimed 11 an_laws_toTimed (Try.f41.body.getD .skip) (st0 con_laws_toTimed vs) (fin TT con_laws_toTimed Try.f41.results.toList [.agg [.sc, .sc]] vs kk))) hF (fun a0Key a0Until hF => goes_of (e_laws_toTimed a0Key a0Until kk) (F_laws_toTimed_S hF))
def con_laws_toTimedS : Con := ⟨[.rd], true, [.c (.sl .ii)], fun vs k => match vs with
    | [.c (.ro .ii a0)] => F_laws_toTimedS a0 (fun r0 => k (.one (.c (.ro .ii r0))) [])
    | _ => False, false⟩
def cl_laws_toTimedS : List (FuncId × Con) := [(41, con_laws_toTimed)]
def nm0_laws_toTimedS : List NStep := [.keep [0, 3, 4] [112]]
def an_laws_toTimedS : Ann := ⟨[], [(3, nm0_laws_toTimedS)], [], []⟩
def cs_laws_toTimedS : Cons := ⟨cl_laws_toTimedS, [], 0, [], [], []⟩
def can0_laws_toTimedS (a0 : List (Int × Int)) (xi4 : Int) (xy7 : List (Int × Int)) : St := ⟨[(0, .one (.c (.ro .ii a0))), (3, .one (.c (.ow 112))), (4, .one (.c (.v (.int .i64 xi4))))], [(112, .row .ii xy7)]⟩
def fin_laws_toTimedS (a0 : List (Int × Int)) (kk : AV → List A1 → Prop) : Kt := fin TT con_laws_toTimedS Try.f22.results.toList [.c (.sl .ii)] [.c (.ro .ii a0)] kk
def kt0_laws_toTimedS (kf : Kt) : Kt := blockK 0 (seqK (evF TT cs_laws_toTimedS 23 an_laws_toTimedS Try.f22 [1, 1, 1]) (kf))
theorem r0_laws_toTimedS (a0 : List (Int × Int)) (kk : AV → List A1 → Prop) (n : Nat) (xi4 : Int) (xy7 : List (Int × Int)) :
    iter (evF TT cs_laws_toTimedS 23 an_laws_toTimedS Try.f22 [1, 1, 0, 1, 0, 0]) nm0_laws_toTimedS (kt0_laws_toTimedS (fin_laws_toTimedS a0 kk)) (n + 1) (can0_laws_toTimedS a0 xi4 xy7) = T0_laws_toTimedS a0 xi4 xy7 (fun r0 => kk (.one (.c (.ro .ii r0))) []) (fun xi4 xy7 => iter (evF TT cs_laws_toTimedS 23 an_laws_toTimedS Try.f22 [1, 1, 0, 1, 0, 0]) nm0_laws_toTimedS (kt0_laws_toTimedS (fin_laws_toTimedS a0 kk)) n (can0_laws_toTimedS a0 xi4 xy7)) := by kernel_rfl
theorem l0_laws_toTimedS (a0 : List (Int × Int)) (kk : AV → List A1 → Prop) : ∀ (n : Nat) (xi4 : Int) (xy7 : List (Int × Int)), iter (evF TT cs_laws_toTimedS 23 an_laws_toTimedS Try.f22 [1, 1, 0, 1, 0, 0]) nm0_laws_toTimedS (kt0_laws_toTimedS (fin_laws_toTimedS a0 kk)) n (can0_laws_toTimedS a0 xi4 xy7) = L0_laws_toTimedS a0 (fun r0 => kk (.one (.c (.ro .ii r0))) []) n xi4 xy7 := by
  intro n
  induction n with
  | zero => intros; rfl
  | succ n ih =>
    intro xi4 xy7
    rw [r0_laws_toTimedS a0 kk n xi4 xy7]
    have hb : (fun xi4 xy7 => iter (evF TT cs_laws_toTimedS 23 an_laws_toTimedS Try.f22 [1, 1, 0, 1, 0, 0]) nm0_laws_toTimedS (kt0_laws_toTimedS (fin_laws_toTimedS a0 kk)) n (can0_laws_toTimedS a0 xi4 xy7)) = L0_laws_toTimedS a0 (fun r0 => kk (.one (.c (.ro .ii r0))) []) n := by
      funext xi4 xy7; exact ih xi4 xy7
    rw [hb]
    rfl
theorem g_laws_toTimedS (a0 : List (Int × Int)) (kk : AV → List A1 → Prop) :
    ev TT cs_laws_toTimedS 23 an_laws_toTimedS (Try.f22.body.getD .skip) (st0 con_laws_toTimedS [.c (.ro .ii a0)]) (fin TT con_laws_toTimedS Try.f22.results.toList [.c (.sl .ii)] [.c (.ro .ii a0)] kk) = G_laws_toTimedS a0 (fun a0 xi4 xy7 => ∃ j, iter (evF TT cs_laws_toTimedS 23 an_laws_toTimedS Try.f22 [1, 1, 0, 1, 0, 0]) nm0_laws_toTimedS (kt0_laws_toTimedS (fin_laws_toTimedS a0 kk)) j (can0_laws_toTimedS a0 xi4 xy7)) := by kernel_rfl
theorem e_laws_toTimedS (a0 : List (Int × Int)) (kk : AV → List A1 → Prop) :
    ev TT cs_laws_toTimedS 23 an_laws_toTimedS (Try.f22.body.getD .skip) (st0 con_laws_toTimedS [.c (.ro .ii a0)]) (fin TT con_laws_toTimedS Try.f22.results.toList [.c (.sl .ii)] [.c (.ro .ii a0)] kk) = S_laws_toTimedS a0 (fun r0 => kk (.one (.c (.ro .ii r0))) []) := by
  rw [g_laws_toTimedS]
  have hi0 : (fun a0 xi4 xy7 => ∃ j, iter (evF TT cs_laws_toTimedS 23 an_laws_toTimedS Try.f22 [1, 1, 0, 1, 0, 0]) nm0_laws_toTimedS (kt0_laws_toTimedS (fin_laws_toTimedS a0 kk)) j (can0_laws_toTimedS a0 xi4 xy7)) = (fun a0 xi4 xy7 => ∃ j, L0_laws_toTimedS a0 (fun r0 => kk (.one (.c (.ro .ii r0))) []) j xi4 xy7) := by
    funext a0 xi4 xy7
    refine congrArg Exists (funext fun j => ?_)
    rw [l0_laws_toTimedS a0 kk j xi4 xy7]
  rw [hi0]
  rfl
theorem clok_laws_toTimedS : ConOK Try.prog cl_laws_toTimedS := consCons h_laws_toTimed ⟨Try.f41, Try.func41, by kernel_rfl, ne_of_beq (by kernel_rfl)⟩ (consNil)
theorem cok_laws_toTimedS : ConsOK Try.prog 23 cs_laws_toTimedS := ⟨clok_laws_toTimedS, inlNil, ovNil⟩
theorem i_laws_toTimedS {vs : List A1} {kk : AV → List A1 → Prop} {motive : List A1 → Prop} (h : con_laws_toTimedS.F vs kk) (H : ∀ (a0 : List (Int × Int)), F_laws_toTimedS a0 (fun r0 => kk (.one (.c (.ro .ii r0))) []) → motive [.c (.ro .ii a0)]) : motive vs := by
  unfold con_laws_toTimedS at h
  dsimp only at h
  split at h
  · exact H _ h
  · exact h.elim
theorem h_laws_toTimedS : Holds Try.prog 22 con_laws_toTimedS := by
  refine holds_of_ev (rt := [.c (.sl .ii)]) (T := TT) (Γ := cs_laws_toTimedS) (an := an_laws_toTimedS) (N := 23) (c := Try.f22.body.getD .skip) Try.func22 (by kernel_rfl) Try.ntmps22 (by decide) (by decide) mixed tabOK cok_laws_toTimedS (by kernel_rfl) ?_
  intro vs kk _ hF
  exact i_laws_toTimedS (motive := fun vs => Goes (ev TT cs_laws_toTimedS 23 an_laws_toTimedS (Try.f22.body.getD .skip) (st0 con_laws_toTimedS vs) (fin TT con_laws_toTimedS Try.f22.results.toList [.c (.sl .ii)] vs kk))) hF (fun a0 hF => goes_of (e_laws_toTimedS a0 kk) (F_laws_toTimedS_S hF))
def con_spec_inRange : Con := ⟨[.rd, .rd, .rd], true, [.c (.sc), .c (.sc), .c (.sc)], fun vs k => match vs with
    | [.c (.v (.int .i64 n0)), .c (.v (.int .i64 low1)), .c (.v (.int .i64 high2))] => F_spec_inRange n0 low1 high2 (fun r0 => k (.one (.c (.v (.bool r0)))) [])
    | _ => False, false⟩
def cl_spec_inRange : List (FuncId × Con) := []
def an_spec_inRange : Ann := ⟨[], [], [], []⟩
def cs_spec_inRange : Cons := ⟨cl_spec_inRange, [], 0, [], [], []⟩
def fin_spec_inRange (n0 : Int) (low1 : Int) (high2 : Int) (kk : AV → List A1 → Prop) : Kt := fin TT con_spec_inRange Try.f29.results.toList [.c .sc] [.c (.v (.int .i64 n0)), .c (.v (.int .i64 low1)), .c (.v (.int .i64 high2))] kk
theorem g_spec_inRange (n0 : Int) (low1 : Int) (high2 : Int) (kk : AV → List A1 → Prop) :
    ev TT cs_spec_inRange 15 an_spec_inRange (Try.f29.body.getD .skip) (st0 con_spec_inRange [.c (.v (.int .i64 n0)), .c (.v (.int .i64 low1)), .c (.v (.int .i64 high2))]) (fin TT con_spec_inRange Try.f29.results.toList [.c .sc] [.c (.v (.int .i64 n0)), .c (.v (.int .i64 low1)), .c (.v (.int .i64 high2))] kk) = G_spec_inRange n0 low1 high2 (fun r0 => kk (.one (.c (.v (.bool r0)))) []) := by kernel_rfl
theorem e_spec_inRange (n0 : Int) (low1 : Int) (high2 : Int) (kk : AV → List A1 → Prop) :
    ev TT cs_spec_inRange 15 an_spec_inRange (Try.f29.body.getD .skip) (st0 con_spec_inRange [.c (.v (.int .i64 n0)), .c (.v (.int .i64 low1)), .c (.v (.int .i64 high2))]) (fin TT con_spec_inRange Try.f29.results.toList [.c .sc] [.c (.v (.int .i64 n0)), .c (.v (.int .i64 low1)), .c (.v (.int .i64 high2))] kk) = S_spec_inRange n0 low1 high2 (fun r0 => kk (.one (.c (.v (.bool r0)))) []) := by
  rw [g_spec_inRange]
  rfl
theorem clok_spec_inRange : ConOK Try.prog cl_spec_inRange := consNil
theorem cok_spec_inRange : ConsOK Try.prog 15 cs_spec_inRange := ⟨clok_spec_inRange, inlNil, ovNil⟩
theorem i_spec_inRange {vs : List A1} {kk : AV → List A1 → Prop} {motive : List A1 → Prop} (h : con_spec_inRange.F vs kk) (H : ∀ (n0 : Int) (low1 : Int) (high2 : Int), F_spec_inRange n0 low1 high2 (fun r0 => kk (.one (.c (.v (.bool r0)))) []) → motive [.c (.v (.int .i64 n0)), .c (.v (.int .i64 low1)), .c (.v (.int .i64 high2))]) : motive vs := by
  unfold con_spec_inRange at h
  dsimp only at h
  split at h
  · exact H _ _ _ h
  · exact h.elim
theorem h_spec_inRange : Holds Try.prog 29 con_spec_inRange := by
  refine holds_of_ev (rt := [.c .sc]) (T := TT) (Γ := cs_spec_inRange) (an := an_spec_inRange) (N := 15) (c := Try.f29.body.getD .skip) Try.func29 (by kernel_rfl) Try.ntmps29 (by decide) (by decide) mixed tabOK cok_spec_inRange (by kernel_rfl) ?_
  intro vs kk _ hF
  exact i_spec_inRange (motive := fun vs => Goes (ev TT cs_spec_inRange 15 an_spec_inRange (Try.f29.body.getD .skip) (st0 con_spec_inRange vs) (fin TT con_spec_inRange Try.f29.results.toList [.c .sc] vs kk))) hF (fun n0 low1 high2 hF => goes_of (e_spec_inRange n0 low1 high2 kk) (F_spec_inRange_S hF))
def con_spec_validTimed : Con := ⟨[.rd], true, [.c (.sl .ii)], fun vs k => match vs with
    | [.c (.ro .ii list0)] => F_spec_validTimed list0 (fun r0 => k (.one (.c (.v (.bool r0)))) [])
    | _ => False, false⟩
def cl_spec_validTimed : List (FuncId × Con) := [(29, con_spec_inRange)]
def nm0_spec_validTimed : List NStep := [.keep [0, 3] []]
def an_spec_validTimed : Ann := ⟨[(4, .take 0 (.take 1 (.take 2 (.take 3 (.take 4 (.alt 5 (.take 6 (.take 7 (.take 8 (.take 9 (.take 10 (.take 11 (.take 12 (.alt 13 (.take 14 (.take 15 (.take 16 (.take 17 (.take 18 (.take 19 (.take 20 (.take 21 (.take 22 (.take 23 (.take 24 (.take 25 (.take 26 (.take 27 (.take 28 (.take 29 (.take 30 (.take 31 (.take 32 (.take 33 (.done))))))))))))))))))))) (.none))))))))) (.none)))))), [])], [(2, nm0_spec_validTimed)], [], []⟩
def cs_spec_validTimed : Cons := ⟨cl_spec_validTimed, [], 0, [], [], []⟩
def can0_spec_validTimed (list0 : List (Int × Int)) (xi3 : Int) : St := ⟨[(0, .one (.c (.ro .ii list0))), (3, .one (.c (.v (.int .i64 xi3))))], []⟩
def fin_spec_validTimed (list0 : List (Int × Int)) (kk : AV → List A1 → Prop) : Kt := fin TT con_spec_validTimed Try.f40.results.toList [.c .sc] [.c (.ro .ii list0)] kk
def kt0_spec_validTimed (kf : Kt) : Kt := blockK 0 (seqK (evF TT cs_spec_validTimed 47 an_spec_validTimed Try.f40 [1, 1]) (kf))
theorem r0_spec_validTimed (list0 : List (Int × Int)) (kk : AV → List A1 → Prop) (n : Nat) (xi3 : Int) :
    iter (evF TT cs_spec_validTimed 47 an_spec_validTimed Try.f40 [1, 0, 1, 0, 0]) nm0_spec_validTimed (kt0_spec_validTimed (fin_spec_validTimed list0 kk)) (n + 1) (can0_spec_validTimed list0 xi3) = T0_spec_validTimed list0 xi3 (fun r0 => kk (.one (.c (.v (.bool r0)))) []) (fun xi3 => iter (evF TT cs_spec_validTimed 47 an_spec_validTimed Try.f40 [1, 0, 1, 0, 0]) nm0_spec_validTimed (kt0_spec_validTimed (fin_spec_validTimed list0 kk)) n (can0_spec_validTimed list0 xi3)) := by kernel_rfl
theorem l0_spec_validTimed (list0 : List (Int × Int)) (kk : AV → List A1 → Prop) : ∀ (n : Nat) (xi3 : Int), iter (evF TT cs_spec_validTimed 47 an_spec_validTimed Try.f40 [1, 0, 1, 0, 0]) nm0_spec_validTimed (kt0_spec_validTimed (fin_spec_validTimed list0 kk)) n (can0_spec_validTimed list0 xi3) = L0_spec_validTimed list0 (fun r0 => kk (.one (.c (.v (.bool r0)))) []) n xi3 := by
  intro n
  induction n with
  | zero => intros; rfl
  | succ n ih =>
    intro xi3
    rw [r0_spec_validTimed list0 kk n xi3]
    have hb : (fun xi3 => iter (evF TT cs_spec_validTimed 47 an_spec_validTimed Try.f40 [1, 0, 1, 0, 0]) nm0_spec_validTimed (kt0_spec_validTimed (fin_spec_validTimed list0 kk)) n (can0_spec_validTimed list0 xi3)) = L0_spec_validTimed list0 (fun r0 => kk (.one (.c (.v (.bool r0)))) []) n := by
      funext xi3; exact ih xi3
    rw [hb]
    rw [T0_spec_validTimed_eq]
    rfl
theorem g_spec_validTimed (list0 : List (Int × Int)) (kk : AV → List A1 → Prop) :
    ev TT cs_spec_validTimed 47 an_spec_validTimed (Try.f40.body.getD .skip) (st0 con_spec_validTimed [.c (.ro .ii list0)]) (fin TT con_spec_validTimed Try.f40.results.toList [.c .sc] [.c (.ro .ii list0)] kk) = G_spec_validTimed list0 (fun list0 xi3 => ∃ j, iter (evF TT cs_spec_validTimed 47 an_spec_validTimed Try.f40 [1, 0, 1, 0, 0]) nm0_spec_validTimed (kt0_spec_validTimed (fin_spec_validTimed list0 kk)) j (can0_spec_validTimed list0 xi3)) := by kernel_rfl
theorem e_spec_validTimed (list0 : List (Int × Int)) (kk : AV → List A1 → Prop) :
    ev TT cs_spec_validTimed 47 an_spec_validTimed (Try.f40.body.getD .skip) (st0 con_spec_validTimed [.c (.ro .ii list0)]) (fin TT con_spec_validTimed Try.f40.results.toList [.c .sc] [.c (.ro .ii list0)] kk) = S_spec_validTimed list0 (fun r0 => kk (.one (.c (.v (.bool r0)))) []) := by
  rw [g_spec_validTimed]
  have hi0 : (fun list0 xi3 => ∃ j, iter (evF TT cs_spec_validTimed 47 an_spec_validTimed Try.f40 [1, 0, 1, 0, 0]) nm0_spec_validTimed (kt0_spec_validTimed (fin_spec_validTimed list0 kk)) j (can0_spec_validTimed list0 xi3)) = (fun list0 xi3 => ∃ j, L0_spec_validTimed list0 (fun r0 => kk (.one (.c (.v (.bool r0)))) []) j xi3) := by
    funext list0 xi3
    refine congrArg Exists (funext fun j => ?_)
    rw [l0_spec_validTimed list0 kk j xi3]
  rw [hi0]
  rfl
theorem clok_spec_validTimed : ConOK Try.prog cl_spec_validTimed := consCons h_spec_inRange ⟨Try.f29, Try.func29, by kernel_rfl, ne_of_beq (by kernel_rfl)⟩ (consNil)
theorem cok_spec_validTimed : ConsOK Try.prog 47 cs_spec_validTimed := ⟨clok_spec_validTimed, inlNil, ovNil⟩
theorem i_spec_validTimed {vs : List A1} {kk : AV → List A1 → Prop} {motive : List A1 → Prop} (h : con_spec_validTimed.F vs kk) (H : ∀ (list0 : List (Int × Int)), F_spec_validTimed list0 (fun r0 => kk (.one (.c (.v (.bool r0)))) []) → motive [.c (.ro .ii list0)]) : motive vs := by
  unfold con_spec_validTimed at h
  dsimp only at h
  split at h
  · exact H _ h
  · exact h.elim
theorem h_spec_validTimed : Holds Try.prog 40 con_spec_validTimed := by
  refine holds_of_ev (rt := [.c .sc]) (T := TT) (Γ := cs_spec_validTimed) (an := an_spec_validTimed) (N := 47) (c := Try.f40.body.getD .skip) Try.func40 (by kernel_rfl) Try.ntmps40 (by decide) (by decide) mixed tabOK cok_spec_validTimed (by kernel_rfl) ?_
  intro vs kk _ hF
  exact i_spec_validTimed (motive := fun vs => Goes (ev TT cs_spec_validTimed 47 an_spec_validTimed (Try.f40.body.getD .skip) (st0 con_spec_validTimed vs) (fin TT con_spec_validTimed Try.f40.results.toList [.c .sc] vs kk))) hF (fun list0 hF => goes_of (e_spec_validTimed list0 kk) (F_spec_validTimed_S hF))
def con_spec_WheelOf : Con := ⟨[.rd], false, [.c (.sl .ii)], fun vs k => match vs with
    | [.c (.ro .ii list0)] => F_spec_WheelOf list0 (fun r0 => k (.one (.c (.rol .int r0))) [])
    | _ => False, false⟩
def cl_spec_WheelOf : List (FuncId × Con) := [(40, con_spec_validTimed)]
def nm7_spec_WheelOf : List NStep := [.own 3 .int 95003, .own 5 .int 90001, .keep [0, 3, 4, 5, 6] [95003, 90001]]
def nm6_spec_WheelOf : List NStep := [.own 3 .int 95003, .own 5 .int 90001, .keep [0, 3, 4, 5, 6] [95003, 90001]]
def nm5_spec_WheelOf : List NStep := [.own 3 .int 95003, .own 5 .int 90001, .keep [0, 3, 4, 5, 6] [95003, 90001]]
def nm4_spec_WheelOf : List NStep := [.own 3 .int 95003, .own 5 .int 90001, .keep [0, 3, 4, 5, 6] [95003, 90001]]
def nm3_spec_WheelOf : List NStep := [.own 3 .int 95003, .own 5 .int 90001, .keep [0, 3, 4, 5, 6] [95003, 90001]]
def nm2_spec_WheelOf : List NStep := [.own 3 .int 95003, .own 5 .int 90001, .keep [0, 3, 4, 5, 6] [95003, 90001]]
def nm1_spec_WheelOf : List NStep := [.own 3 .int 95003, .own 5 .int 90001, .keep [0, 3, 4, 5, 6] [95003, 90001]]
def nm0_spec_WheelOf : List NStep := [.own 3 .int 95003, .own 5 .int 90001, .keep [0, 3, 4, 5, 6] [95003, 90001]]
def an_spec_WheelOf : Ann := ⟨[], [(9, nm0_spec_WheelOf), (5, [.unr 9])], [], [(14, .fz 3)]⟩
def cs_spec_WheelOf : Cons := ⟨cl_spec_WheelOf, [], 0, [], [], []⟩
def can7_spec_WheelOf (list0 : List (Int × Int)) (xkeys5 : List Int) (xkeys5' : List Int) (xkeys5'' : List Int) (xkeys5''' : List Int) (xkeys5'''' : List Int) (xkeys5''''' : List Int) (xkeys5'''''' : List Int) (xi6''''''' : Int) (xkeys5''''''' : List Int) : St := ⟨[(0, .one (.c (.ro .ii list0))), (3, .one (.c (.sb 95003 7))), (4, .one (.c (.v (.int .i64 7)))), (5, .one (.c (.ow 90001))), (6, .one (.c (.v (.int .i64 xi6'''''''))))], [(95003, .box [.ro .int xkeys5, .ro .int xkeys5', .ro .int xkeys5'', .ro .int xkeys5''', .ro .int xkeys5'''', .ro .int xkeys5''''', .ro .int xkeys5'''''']), (90001, .row .int xkeys5''''''')]⟩
def can6_spec_WheelOf (list0 : List (Int × Int)) (xkeys5 : List Int) (xkeys5' : List Int) (xkeys5'' : List Int) (xkeys5''' : List Int) (xkeys5'''' : List Int) (xkeys5''''' : List Int) (xi6'''''' : Int) (xkeys5'''''' : List Int) : St := ⟨[(0, .one (.c (.ro .ii list0))), (3, .one (.c (.sb 95003 6))), (4, .one (.c (.v (.int .i64 6)))), (5, .one (.c (.ow 90001))), (6, .one (.c (.v (.int .i64 xi6''''''))))], [(95003, .box [.ro .int xkeys5, .ro .int xkeys5', .ro .int xkeys5'', .ro .int xkeys5''', .ro .int xkeys5'''', .ro .int xkeys5''''']), (90001, .row .int xkeys5'''''')]⟩
def can5_spec_WheelOf (list0 : List (Int × Int)) (xkeys5 : List Int) (xkeys5' : List Int) (xkeys5'' : List Int) (xkeys5''' : List Int) (xkeys5'''' : List Int) (xi6''''' : Int) (xkeys5''''' : List Int) : St := ⟨[(0, .one (.c (.ro .ii list0))), (3, .one (.c (.sb 95003 5))), (4, .one (.c (.v (.int .i64 5)))), (5, .one (.c (.ow 90001))), (6, .one (.c (.v (.int .i64 xi6'''''))))], [(95003, .box [.ro .int xkeys5, .ro .int xkeys5', .ro .int xkeys5'', .ro .int xkeys5''', .ro .int xkeys5'''']), (90001, .row .int xkeys5''''')]⟩
def can4_spec_WheelOf (list0 : List (Int × Int)) (xkeys5 : List Int) (xkeys5' : List Int) (xkeys5'' : List Int) (xkeys5''' : List Int) (xi6'''' : Int) (xkeys5'''' : List Int) : St := ⟨[(0, .one (.c (.ro .ii list0))), (3, .one (.c (.sb 95003 4))), (4, .one (.c (.v (.int .i64 4)))), (5, .one (.c (.ow 90001))), (6, .one (.c (.v (.int .i64 xi6''''))))], [(95003, .box [.ro .int xkeys5, .ro .int xkeys5', .ro .int xkeys5'', .ro .int xkeys5''']), (90001, .row .int xkeys5'''')]⟩
def can3_spec_WheelOf (list0 : List (Int × Int)) (xkeys5 : List Int) (xkeys5' : List Int) (xkeys5'' : List Int) (xi6''' : Int) (xkeys5''' : List Int) : St := ⟨[(0, .one (.c (.ro .ii list0))), (3, .one (.c (.sb 95003 3))), (4, .one (.c (.v (.int .i64 3)))), (5, .one (.c (.ow 90001))), (6, .one (.c (.v (.int .i64 xi6'''))))], [(95003, .box [.ro .int xkeys5, .ro .int xkeys5', .ro .int xkeys5'']), (90001, .row .int xkeys5''')]⟩
def can2_spec_WheelOf (list0 : List (Int × Int)) (xkeys5 : List Int) (xkeys5' : List Int) (xi6'' : Int) (xkeys5'' : List Int) : St := ⟨[(0, .one (.c (.ro .ii list0))), (3, .one (.c (.sb 95003 2))), (4, .one (.c (.v (.int .i64 2)))), (5, .one (.c (.ow 90001))), (6, .one (.c (.v (.int .i64 xi6''))))], [(95003, .box [.ro .int xkeys5, .ro .int xkeys5']), (90001, .row .int xkeys5'')]⟩
def can1_spec_WheelOf (list0 : List (Int × Int)) (xkeys5 : List Int) (xi6' : Int) (xkeys5' : List Int) : St := ⟨[(0, .one (.c (.ro .ii list0))), (3, .one (.c (.sb 95003 1))), (4, .one (.c (.v (.int .i64 1)))), (5, .one (.c (.ow 90001))), (6, .one (.c (.v (.int .i64 xi6'))))], [(95003, .box [.ro .int xkeys5]), (90001, .row .int xkeys5')]⟩
def can0_spec_WheelOf (list0 : List (Int × Int)) (xi6 : Int) (xkeys5 : List Int) : St := ⟨[(0, .one (.c (.ro .ii list0))), (3, .one (.c (.sb 95003 0))), (4, .one (.c (.v (.int .i64 0)))), (5, .one (.c (.ow 90001))), (6, .one (.c (.v (.int .i64 xi6))))], [(95003, .box []), (90001, .row .int xkeys5)]⟩
def fin_spec_WheelOf (list0 : List (Int × Int)) (kk : AV → List A1 → Prop) : Kt := fin TT con_spec_WheelOf Try.f21.results.toList [.c (.sll .int)] [.c (.ro .ii list0)] kk
def kt7_spec_WheelOf (kf : Kt) : Kt := blockK 2 (seqK (evF TT cs_spec_WheelOf 44 an_spec_WheelOf Try.f21 [1, 1, 1, 0, 1, 0, 0, 1, 0, 0, 1, 1]) (blockK 1 (seqK (evF TT cs_spec_WheelOf 44 an_spec_WheelOf Try.f21 [1, 1, 1, 0, 1, 0, 0, 1, 1]) (backK [] (iter (evF TT cs_spec_WheelOf 44 an_spec_WheelOf Try.f21 [1, 1, 1, 0, 1, 0, 0]) [] (blockK 0 (seqK (evF TT cs_spec_WheelOf 44 an_spec_WheelOf Try.f21 [1, 1, 1, 1]) (kf))) 1) (blockK 0 (seqK (evF TT cs_spec_WheelOf 44 an_spec_WheelOf Try.f21 [1, 1, 1, 1]) (kf)))))))
def kt6_spec_WheelOf (kf : Kt) : Kt := blockK 2 (seqK (evF TT cs_spec_WheelOf 44 an_spec_WheelOf Try.f21 [1, 1, 1, 0, 1, 0, 0, 1, 0, 0, 1, 1]) (blockK 1 (seqK (evF TT cs_spec_WheelOf 44 an_spec_WheelOf Try.f21 [1, 1, 1, 0, 1, 0, 0, 1, 1]) (backK [] (iter (evF TT cs_spec_WheelOf 44 an_spec_WheelOf Try.f21 [1, 1, 1, 0, 1, 0, 0]) [] (blockK 0 (seqK (evF TT cs_spec_WheelOf 44 an_spec_WheelOf Try.f21 [1, 1, 1, 1]) (kf))) 2) (blockK 0 (seqK (evF TT cs_spec_WheelOf 44 an_spec_WheelOf Try.f21 [1, 1, 1, 1]) (kf)))))))
def kt5_spec_WheelOf (kf : Kt) : Kt := blockK 2 (seqK (evF TT cs_spec_WheelOf 44 an_spec_WheelOf Try.f21 [1, 1, 1, 0, 1, 0, 0, 1, 0, 0, 1, 1]) (blockK 1 (seqK (evF TT cs_spec_WheelOf 44 an_spec_WheelOf Try.f21 [1, 1, 1, 0, 1, 0, 0, 1, 1]) (backK [] (iter (evF TT cs_spec_WheelOf 44 an_spec_WheelOf Try.f21 [1, 1, 1, 0, 1, 0, 0]) [] (blockK 0 (seqK (evF TT cs_spec_WheelOf 44 an_spec_WheelOf Try.f21 [1, 1, 1, 1]) (kf))) 3) (blockK 0 (seqK (evF TT cs_spec_WheelOf 44 an_spec_WheelOf Try.f21 [1, 1, 1, 1]) (kf)))))))
def kt4_spec_WheelOf (kf : Kt) : Kt := blockK 2 (seqK (evF TT cs_spec_WheelOf 44 an_spec_WheelOf Try.f21 [1, 1, 1, 0, 1, 0, 0, 1, 0, 0, 1, 1]) (blockK 1 (seqK (evF TT cs_spec_WheelOf 44 an_spec_WheelOf Try.f21 [1, 1, 1, 0, 1, 0, 0, 1, 1]) (backK [] (iter (evF TT cs_spec_WheelOf 44 an_spec_WheelOf Try.f21 [1, 1, 1, 0, 1, 0, 0]) [] (blockK 0 (seqK (evF TT cs_spec_WheelOf 44 an_spec_WheelOf Try.f21 [1, 1, 1, 1]) (kf))) 4) (blockK 0 (seqK (evF TT cs_spec_WheelOf 44 an_spec_WheelOf Try.f21 [1, 1, 1, 1]) (kf)))))))
def kt3_spec_WheelOf (kf : Kt) : Kt := blockK 2 (seqK (evF TT cs_spec_WheelOf 44 an_spec_WheelOf Try.f21 [1, 1, 1, 0, 1, 0, 0, 1, 0, 0, 1, 1]) (blockK 1 (seqK (evF TT cs_spec_WheelOf 44 an_spec_WheelOf Try.f21 [1, 1, 1, 0, 1, 0, 0, 1, 1]) (backK [] (iter (evF TT cs_spec_WheelOf 44 an_spec_WheelOf Try.f21 [1, 1, 1, 0, 1, 0, 0]) [] (blockK 0 (seqK (evF TT cs_spec_WheelOf 44 an_spec_WheelOf Try.f21 [1, 1, 1, 1]) (kf))) 5) (blockK 0 (seqK (evF TT cs_spec_WheelOf 44 an_spec_WheelOf Try.f21 [1, 1, 1, 1]) (kf)))))))
def kt2_spec_WheelOf (kf : Kt) : Kt := blockK 2 (seqK (evF TT cs_spec_WheelOf 44 an_spec_WheelOf Try.f21 [1, 1, 1, 0, 1, 0, 0, 1, 0, 0, 1, 1]) (blockK 1 (seqK (evF TT cs_spec_WheelOf 44 an_spec_WheelOf Try.f21 [1, 1, 1, 0, 1, 0, 0, 1, 1]) (backK [] (iter (evF TT cs_spec_WheelOf 44 an_spec_WheelOf Try.f21 [1, 1, 1, 0, 1, 0, 0]) [] (blockK 0 (seqK (evF TT cs_spec_WheelOf 44 an_spec_WheelOf Try.f21 [1, 1, 1, 1]) (kf))) 6) (blockK 0 (seqK (evF TT cs_spec_WheelOf 44 an_spec_WheelOf Try.f21 [1, 1, 1, 1]) (kf)))))))
def kt1_spec_WheelOf (kf : Kt) : Kt := blockK 2 (seqK (evF TT cs_spec_WheelOf 44 an_spec_WheelOf Try.f21 [1, 1, 1, 0, 1, 0, 0, 1, 0, 0, 1, 1]) (blockK 1 (seqK (evF TT cs_spec_WheelOf 44 an_spec_WheelOf Try.f21 [1, 1, 1, 0, 1, 0, 0, 1, 1]) (backK [] (iter (evF TT cs_spec_WheelOf 44 an_spec_WheelOf Try.f21 [1, 1, 1, 0, 1, 0, 0]) [] (blockK 0 (seqK (evF TT cs_spec_WheelOf 44 an_spec_WheelOf Try.f21 [1, 1, 1, 1]) (kf))) 7) (blockK 0 (seqK (evF TT cs_spec_WheelOf 44 an_spec_WheelOf Try.f21 [1, 1, 1, 1]) (kf)))))))
def kt0_spec_WheelOf (kf : Kt) : Kt := blockK 2 (seqK (evF TT cs_spec_WheelOf 44 an_spec_WheelOf Try.f21 [1, 1, 1, 0, 1, 0, 0, 1, 0, 0, 1, 1]) (blockK 1 (seqK (evF TT cs_spec_WheelOf 44 an_spec_WheelOf Try.f21 [1, 1, 1, 0, 1, 0, 0, 1, 1]) (backK [] (iter (evF TT cs_spec_WheelOf 44 an_spec_WheelOf Try.f21 [1, 1, 1, 0, 1, 0, 0]) [] (blockK 0 (seqK (evF TT cs_spec_WheelOf 44 an_spec_WheelOf Try.f21 [1, 1, 1, 1]) (kf))) 8) (blockK 0 (seqK (evF TT cs_spec_WheelOf 44 an_spec_WheelOf Try.f21 [1, 1, 1, 1]) (kf)))))))
theorem r7_spec_WheelOf (list0 : List (Int × Int)) (xkeys5 : List Int) (xkeys5' : List Int) (xkeys5'' : List Int) (xkeys5''' : List Int) (xkeys5'''' : List Int) (xkeys5''''' : List Int) (xkeys5'''''' : List Int) (kk : AV → List A1 → Prop) (n : Nat) (xi6''''''' : Int) (xkeys5''''''' : List Int) :
    iter (evF TT cs_spec_WheelOf 44 an_spec_WheelOf Try.f21 [1, 1, 1, 0, 1, 0, 0, 1, 0, 0, 1, 0, 1, 0, 0]) nm7_spec_WheelOf (kt7_spec_WheelOf (fin_spec_WheelOf list0 kk)) (n + 1) (can7_spec_WheelOf list0 xkeys5 xkeys5' xkeys5'' xkeys5''' xkeys5'''' xkeys5''''' xkeys5'''''' xi6''''''' xkeys5''''''') = T7_spec_WheelOf list0 xkeys5 xkeys5' xkeys5'' xkeys5''' xkeys5'''' xkeys5''''' xkeys5'''''' xi6''''''' xkeys5''''''' (fun r0 => kk (.one (.c (.rol .int r0))) []) (fun xi6''''''' xkeys5''''''' => iter (evF TT cs_spec_WheelOf 44 an_spec_WheelOf Try.f21 [1, 1, 1, 0, 1, 0, 0, 1, 0, 0, 1, 0, 1, 0, 0]) nm7_spec_WheelOf (kt7_spec_WheelOf (fin_spec_WheelOf list0 kk)) n (can7_spec_WheelOf list0 xkeys5 xkeys5' xkeys5'' xkeys5''' xkeys5'''' xkeys5''''' xkeys5'''''' xi6''''''' xkeys5''''''')) := by kernel_rfl
theorem l7_spec_WheelOf (list0 : List (Int × Int)) (xkeys5 : List Int) (xkeys5' : List Int) (xkeys5'' : List Int) (xkeys5''' : List Int) (xkeys5'''' : List Int) (xkeys5''''' : List Int) (xkeys5'''''' : List Int) (kk : AV → List A1 → Prop) : ∀ (n : Nat) (xi6''''''' : Int) (xkeys5''''''' : List Int), iter (evF TT cs_spec_WheelOf 44 an_spec_WheelOf Try.f21 [1, 1, 1, 0, 1, 0, 0, 1, 0, 0, 1, 0, 1, 0, 0]) nm7_spec_WheelOf (kt7_spec_WheelOf (fin_spec_WheelOf list0 kk)) n (can7_spec_WheelOf list0 xkeys5 xkeys5' xkeys5'' xkeys5''' xkeys5'''' xkeys5''''' xkeys5'''''' xi6''''''' xkeys5''''''') = L7_spec_WheelOf list0 xkeys5 xkeys5' xkeys5'' xkeys5''' xkeys5'''' xkeys5''''' xkeys5'''''' (fun r0 => kk (.one (.c (.rol .int r0))) []) n xi6''''''' xkeys5''''''' := by
  intro n
  induction n with
  | zero => intros; rfl
  | succ n ih =>
    intro xi6''''''' xkeys5'''''''
    rw [r7_spec_WheelOf list0 xkeys5 xkeys5' xkeys5'' xkeys5''' xkeys5'''' xkeys5''''' xkeys5'''''' kk n xi6''''''' xkeys5''''''']
    have hb : (fun xi6''''''' xkeys5''''''' => iter (evF TT cs_spec_WheelOf 44 an_spec_WheelOf Try.f21 [1, 1, 1, 0, 1, 0, 0, 1, 0, 0, 1, 0, 1, 0, 0]) nm7_spec_WheelOf (kt7_spec_WheelOf (fin_spec_WheelOf list0 kk)) n (can7_spec_WheelOf list0 xkeys5 xkeys5' xkeys5'' xkeys5''' xkeys5'''' xkeys5''''' xkeys5'''''' xi6''''''' xkeys5''''''')) = L7_spec_WheelOf list0 xkeys5 xkeys5' xkeys5'' xkeys5''' xkeys5'''' xkeys5''''' xkeys5'''''' (fun r0 => kk (.one (.c (.rol .int r0))) []) n := by
      funext xi6''''''' xkeys5'''''''; exact ih xi6''''''' xkeys5'''''''
    rw [hb]
    rfl
theorem r6_spec_WheelOf (list0 : List (Int × Int)) (xkeys5 : List Int) (xkeys5' : List Int) (xkeys5'' : List Int) (xkeys5''' : List Int) (xkeys5'''' : List Int) (xkeys5''''' : List Int) (kk : AV → List A1 → Prop) (n : Nat) (xi6'''''' : Int) (xkeys5'''''' : List Int) :
    iter (evF TT cs_spec_WheelOf 44 an_spec_WheelOf Try.f21 [1, 1, 1, 0, 1, 0, 0, 1, 0, 0, 1, 0, 1, 0, 0]) nm6_spec_WheelOf (kt6_spec_WheelOf (fin_spec_WheelOf list0 kk)) (n + 1) (can6_spec_WheelOf list0 xkeys5 xkeys5' xkeys5'' xkeys5''' xkeys5'''' xkeys5''''' xi6'''''' xkeys5'''''') = T6_spec_WheelOf list0 xkeys5 xkeys5' xkeys5'' xkeys5''' xkeys5'''' xkeys5''''' xi6'''''' xkeys5'''''' (fun xi6'''''' xkeys5'''''' => iter (evF TT cs_spec_WheelOf 44 an_spec_WheelOf Try.f21 [1, 1, 1, 0, 1, 0, 0, 1, 0, 0, 1, 0, 1, 0, 0]) nm6_spec_WheelOf (kt6_spec_WheelOf (fin_spec_WheelOf list0 kk)) n (can6_spec_WheelOf list0 xkeys5 xkeys5' xkeys5'' xkeys5''' xkeys5'''' xkeys5''''' xi6'''''' xkeys5'''''')) (fun list0 xkeys5 xkeys5' xkeys5'' xkeys5''' xkeys5'''' xkeys5''''' xkeys5'''''' xi6''''''' xkeys5''''''' => ∃ j, iter (evF TT cs_spec_WheelOf 44 an_spec_WheelOf Try.f21 [1, 1, 1, 0, 1, 0, 0, 1, 0, 0, 1, 0, 1, 0, 0]) nm7_spec_WheelOf (kt7_spec_WheelOf (fin_spec_WheelOf list0 kk)) j (can7_spec_WheelOf list0 xkeys5 xkeys5' xkeys5'' xkeys5''' xkeys5'''' xkeys5''''' xkeys5'''''' xi6''''''' xkeys5''''''')) := by kernel_rfl
theorem l6_spec_WheelOf (list0 : List (Int × Int)) (xkeys5 : List Int) (xkeys5' : List Int) (xkeys5'' : List Int) (xkeys5''' : List Int) (xkeys5'''' : List Int) (xkeys5''''' : List Int) (kk : AV → List A1 → Prop) : ∀ (n : Nat) (xi6'''''' : Int) (xkeys5'''''' : List Int), iter (evF TT cs_spec_WheelOf 44 an_spec_WheelOf Try.f21 [1, 1, 1, 0, 1, 0, 0, 1, 0, 0, 1, 0, 1, 0, 0]) nm6_spec_WheelOf (kt6_spec_WheelOf (fin_spec_WheelOf list0 kk)) n (can6_spec_WheelOf list0 xkeys5 xkeys5' xkeys5'' xkeys5''' xkeys5'''' xkeys5''''' xi6'''''' xkeys5'''''') = L6_spec_WheelOf list0 xkeys5 xkeys5' xkeys5'' xkeys5''' xkeys5'''' xkeys5''''' (fun r0 => kk (.one (.c (.rol .int r0))) []) n xi6'''''' xkeys5'''''' := by
  intro n
  induction n generalizing list0 xkeys5 xkeys5' xkeys5'' xkeys5''' xkeys5'''' xkeys5''''' with
  | zero => intros; rfl
  | succ n ih =>
    intro xi6'''''' xkeys5''''''
    rw [r6_spec_WheelOf list0 xkeys5 xkeys5' xkeys5'' xkeys5''' xkeys5'''' xkeys5''''' kk n xi6'''''' xkeys5'''''']
    have hb : ∀ (list0 : List (Int × Int)) (xkeys5 : List Int) (xkeys5' : List Int) (xkeys5'' : List Int) (xkeys5''' : List Int) (xkeys5'''' : List Int) (xkeys5''''' : List Int), (fun xi6'''''' xkeys5'''''' => iter (evF TT cs_spec_WheelOf 44 an_spec_WheelOf Try.f21 [1, 1, 1, 0, 1, 0, 0, 1, 0, 0, 1, 0, 1, 0, 0]) nm6_spec_WheelOf (kt6_spec_WheelOf (fin_spec_WheelOf list0 kk)) n (can6_spec_WheelOf list0 xkeys5 xkeys5' xkeys5'' xkeys5''' xkeys5'''' xkeys5''''' xi6'''''' xkeys5'''''')) = L6_spec_WheelOf list0 xkeys5 xkeys5' xkeys5'' xkeys5''' xkeys5'''' xkeys5''''' (fun r0 => kk (.one (.c (.rol .int r0))) []) n := by
      intro list0 xkeys5 xkeys5' xkeys5'' xkeys5''' xkeys5'''' xkeys5'''''
      funext xi6'''''' xkeys5''''''; exact ih list0 xkeys5 xkeys5' xkeys5'' xkeys5''' xkeys5'''' xkeys5''''' xi6'''''' xkeys5''''''
    have hi7 : (fun list0 xkeys5 xkeys5' xkeys5'' xkeys5''' xkeys5'''' xkeys5''''' xkeys5'''''' xi6''''''' xkeys5''''''' => ∃ j, iter (evF TT cs_spec_WheelOf 44 an_spec_WheelOf Try.f21 [1, 1, 1, 0, 1, 0, 0, 1, 0, 0, 1, 0, 1, 0, 0]) nm7_spec_WheelOf (kt7_spec_WheelOf (fin_spec_WheelOf list0 kk)) j (can7_spec_WheelOf list0 xkeys5 xkeys5' xkeys5'' xkeys5''' xkeys5'''' xkeys5''''' xkeys5'''''' xi6''''''' xkeys5''''''')) = (fun list0 xkeys5 xkeys5' xkeys5'' xkeys5''' xkeys5'''' xkeys5''''' xkeys5'''''' xi6''''''' xkeys5''''''' => ∃ j, L7_spec_WheelOf list0 xkeys5 xkeys5' xkeys5'' xkeys5''' xkeys5'''' xkeys5''''' xkeys5'''''' (fun r0 => kk (.one (.c (.rol .int r0))) []) j xi6''''''' xkeys5''''''') := by
      funext list0 xkeys5 xkeys5' xkeys5'' xkeys5''' xkeys5'''' xkeys5''''' xkeys5'''''' xi6''''''' xkeys5'''''''
      refine congrArg Exists (funext fun j => ?_)
      rw [l7_spec_WheelOf list0 xkeys5 xkeys5' xkeys5'' xkeys5''' xkeys5'''' xkeys5''''' xkeys5'''''' kk j xi6''''''' xkeys5''''''']
    rw [hb, hi7]
    rfl
theorem r5_spec_WheelOf (list0 : List (Int × Int)) (xkeys5 : List Int) (xkeys5' : List Int) (xkeys5'' : List Int) (xkeys5''' : List Int) (xkeys5'''' : List Int) (kk : AV → List A1 → Prop) (n : Nat) (xi6''''' : Int) (xkeys5''''' : List Int) :
    iter (evF TT cs_spec_WheelOf 44 an_spec_WheelOf Try.f21 [1, 1, 1, 0, 1, 0, 0, 1, 0, 0, 1, 0, 1, 0, 0]) nm5_spec_WheelOf (kt5_spec_WheelOf (fin_spec_WheelOf list0 kk)) (n + 1) (can5_spec_WheelOf list0 xkeys5 xkeys5' xkeys5'' xkeys5''' xkeys5'''' xi6''''' xkeys5''''') = T5_spec_WheelOf list0 xkeys5 xkeys5' xkeys5'' xkeys5''' xkeys5'''' xi6''''' xkeys5''''' (fun xi6''''' xkeys5''''' => iter (evF TT cs_spec_WheelOf 44 an_spec_WheelOf Try.f21 [1, 1, 1, 0, 1, 0, 0, 1, 0, 0, 1, 0, 1, 0, 0]) nm5_spec_WheelOf (kt5_spec_WheelOf (fin_spec_WheelOf list0 kk)) n (can5_spec_WheelOf list0 xkeys5 xkeys5' xkeys5'' xkeys5''' xkeys5'''' xi6''''' xkeys5''''')) (fun list0 xkeys5 xkeys5' xkeys5'' xkeys5''' xkeys5'''' xkeys5''''' xi6'''''' xkeys5'''''' => ∃ j, iter (evF TT cs_spec_WheelOf 44 an_spec_WheelOf Try.f21 [1, 1, 1, 0, 1, 0, 0, 1, 0, 0, 1, 0, 1, 0, 0]) nm6_spec_WheelOf (kt6_spec_WheelOf (fin_spec_WheelOf list0 kk)) j (can6_spec_WheelOf list0 xkeys5 xkeys5' xkeys5'' xkeys5''' xkeys5'''' xkeys5''''' xi6'''''' xkeys5'''''')) := by kernel_rfl
theorem l5_spec_WheelOf (list0 : List (Int × Int)) (xkeys5 : List Int) (xkeys5' : List Int) (xkeys5'' : List Int) (xkeys5''' : List Int) (xkeys5'''' : List Int) (kk : AV → List A1 → Prop) : ∀ (n : Nat) (xi6''''' : Int) (xkeys5''''' : List Int), iter (evF TT cs_spec_WheelOf 44 an_spec_WheelOf Try.f21 [1, 1, 1, 0, 1, 0, 0, 1, 0, 0, 1, 0, 1, 0, 0]) nm5_spec_WheelOf (kt5_spec_WheelOf (fin_spec_WheelOf list0 kk)) n (can5_spec_WheelOf list0 xkeys5 xkeys5' xkeys5'' xkeys5''' xkeys5'''' xi6''''' xkeys5''''') = L5_spec_WheelOf list0 xkeys5 xkeys5' xkeys5'' xkeys5''' xkeys5'''' (fun r0 => kk (.one (.c (.rol .int r0))) []) n xi6''''' xkeys5''''' := by
  intro n
  induction n generalizing list0 xkeys5 xkeys5' xkeys5'' xkeys5''' xkeys5'''' with
  | zero => intros; rfl
  | succ n ih =>
    intro xi6''''' xkeys5'''''
    rw [r5_spec_WheelOf list0 xkeys5 xkeys5' xkeys5'' xkeys5''' xkeys5'''' kk n xi6''''' xkeys5''''']
    have hb : ∀ (list0 : List (Int × Int)) (xkeys5 : List Int) (xkeys5' : List Int) (xkeys5'' : List Int) (xkeys5''' : List Int) (xkeys5'''' : List Int), (fun xi6''''' xkeys5''''' => iter (evF TT cs_spec_WheelOf 44 an_spec_WheelOf Try.f21 [1, 1, 1, 0, 1, 0, 0, 1, 0, 0, 1, 0, 1, 0, 0]) nm5_spec_WheelOf (kt5_spec_WheelOf (fin_spec_WheelOf list0 kk)) n (can5_spec_WheelOf list0 xkeys5 xkeys5' xkeys5'' xkeys5''' xkeys5'''' xi6''''' xkeys5''''')) = L5_spec_WheelOf list0 xkeys5 xkeys5' xkeys5'' xkeys5''' xkeys5'''' (fun r0 => kk (.one (.c (.rol .int r0))) []) n := by
      intro list0 xkeys5 xkeys5' xkeys5'' xkeys5''' xkeys5''''
      funext xi6''''' xkeys5'''''; exact ih list0 xkeys5 xkeys5' xkeys5'' xkeys5''' xkeys5'''' xi6''''' xkeys5'''''
    have hi6 : (fun list0 xkeys5 xkeys5' xkeys5'' xkeys5''' xkeys5'''' xkeys5''''' xi6'''''' xkeys5'''''' => ∃ j, iter (evF TT cs_spec_WheelOf 44 an_spec_WheelOf Try.f21 [1, 1, 1, 0, 1, 0, 0, 1, 0, 0, 1, 0, 1, 0, 0]) nm6_spec_WheelOf (kt6_spec_WheelOf (fin_spec_WheelOf list0 kk)) j (can6_spec_WheelOf list0 xkeys5 xkeys5' xkeys5'' xkeys5''' xkeys5'''' xkeys5''''' xi6'''''' xkeys5'''''')) = (fun list0 xkeys5 xkeys5' xkeys5'' xkeys5''' xkeys5'''' xkeys5''''' xi6'''''' xkeys5'''''' => ∃ j, L6_spec_WheelOf list0 xkeys5 xkeys5' xkeys5'' xkeys5''' xkeys5'''' xkeys5''''' (fun r0 => kk (.one (.c (.rol .int r0))) []) j xi6'''''' xkeys5'''''') := by
      funext list0 xkeys5 xkeys5' xkeys5'' xkeys5''' xkeys5'''' xkeys5''''' xi6'''''' xkeys5''''''
      refine congrArg Exists (funext fun j => ?_)
      rw [l6_spec_WheelOf list0 xkeys5 xkeys5' xkeys5'' xkeys5''' xkeys5'''' xkeys5''''' kk j xi6'''''' xkeys5'''''']
    rw [hb, hi6]
    rfl
theorem r4_spec_WheelOf (list0 : List (Int × Int)) (xkeys5 : List Int) (xkeys5' : List Int) (xkeys5'' : List Int) (xkeys5''' : List Int) (kk : AV → List A1 → Prop) (n : Nat) (xi6'''' : Int) (xkeys5'''' : List Int) :
    iter (evF TT cs_spec_WheelOf 44 an_spec_WheelOf Try.f21 [1, 1, 1, 0, 1, 0, 0, 1, 0, 0, 1, 0, 1, 0, 0]) nm4_spec_WheelOf (kt4_spec_WheelOf (fin_spec_WheelOf list0 kk)) (n + 1) (can4_spec_WheelOf list0 xkeys5 xkeys5' xkeys5'' xkeys5''' xi6'''' xkeys5'''') = T4_spec_WheelOf list0 xkeys5 xkeys5' xkeys5'' xkeys5''' xi6'''' xkeys5'''' (fun xi6'''' xkeys5'''' => iter (evF TT cs_spec_WheelOf 44 an_spec_WheelOf Try.f21 [1, 1, 1, 0, 1, 0, 0, 1, 0, 0, 1, 0, 1, 0, 0]) nm4_spec_WheelOf (kt4_spec_WheelOf (fin_spec_WheelOf list0 kk)) n (can4_spec_WheelOf list0 xkeys5 xkeys5' xkeys5'' xkeys5''' xi6'''' xkeys5'''')) (fun list0 xkeys5 xkeys5' xkeys5'' xkeys5''' xkeys5'''' xi6''''' xkeys5''''' => ∃ j, iter (evF TT cs_spec_WheelOf 44 an_spec_WheelOf Try.f21 [1, 1, 1, 0, 1, 0, 0, 1, 0, 0, 1, 0, 1, 0, 0]) nm5_spec_WheelOf (kt5_spec_WheelOf (fin_spec_WheelOf list0 kk)) j (can5_spec_WheelOf list0 xkeys5 xkeys5' xkeys5'' xkeys5''' xkeys5'''' xi6''''' xkeys5''''')) := by kernel_rfl
theorem l4_spec_WheelOf (list0 : List (Int × Int)) (xkeys5 : List Int) (xkeys5' : List Int) (xkeys5'' : List Int) (xkeys5''' : List Int) (kk : AV → List A1 → Prop) : ∀ (n : Nat) (xi6'''' : Int) (xkeys5'''' : List Int), iter (evF TT cs_spec_WheelOf 44 an_spec_WheelOf Try.f21 [1, 1, 1, 0, 1, 0, 0, 1, 0, 0, 1, 0, 1, 0, 0]) nm4_spec_WheelOf (kt4_spec_WheelOf (fin_spec_WheelOf list0 kk)) n (can4_spec_WheelOf list0 xkeys5 xkeys5' xkeys5'' xkeys5''' xi6'''' xkeys5'''') = L4_spec_WheelOf list0 xkeys5 xkeys5' xkeys5'' xkeys5''' (fun r0 => kk (.one (.c (.rol .int r0))) []) n xi6'''' xkeys5'''' := by
  intro n
  induction n generalizing list0 xkeys5 xkeys5' xkeys5'' xkeys5''' with
  | zero => intros; rfl
  | succ n ih =>
    intro xi6'''' xkeys5''''
    rw [r4_spec_WheelOf list0 xkeys5 xkeys5' xkeys5'' xkeys5''' kk n xi6'''' xkeys5'''']
    have hb : ∀ (list0 : List (Int × Int)) (xkeys5 : List Int) (xkeys5' : List Int) (xkeys5'' : List Int) (xkeys5''' : List Int), (fun xi6'''' xkeys5'''' => iter (evF TT cs_spec_WheelOf 44 an_spec_WheelOf Try.f21 [1, 1, 1, 0, 1, 0, 0, 1, 0, 0, 1, 0, 1, 0, 0]) nm4_spec_WheelOf (kt4_spec_WheelOf (fin_spec_WheelOf list0 kk)) n (can4_spec_WheelOf list0 xkeys5 xkeys5' xkeys5'' xkeys5''' xi6'''' xkeys5'''')) = L4_spec_WheelOf list0 xkeys5 xkeys5' xkeys5'' xkeys5''' (fun r0 => kk (.one (.c (.rol .int r0))) []) n := by
      intro list0 xkeys5 xkeys5' xkeys5'' xkeys5'''
      funext xi6'''' xkeys5''''; exact ih list0 xkeys5 xkeys5' xkeys5'' xkeys5''' xi6'''' xkeys5''''
    have hi5 : (fun list0 xkeys5 xkeys5' xkeys5'' xkeys5''' xkeys5'''' xi6''''' xkeys5''''' => ∃ j, iter (evF TT cs_spec_WheelOf 44 an_spec_WheelOf Try.f21 [1, 1, 1, 0, 1, 0, 0, 1, 0, 0, 1, 0, 1, 0, 0]) nm5_spec_WheelOf (kt5_spec_WheelOf (fin_spec_WheelOf list0 kk)) j (can5_spec_WheelOf list0 xkeys5 xkeys5' xkeys5'' xkeys5''' xkeys5'''' xi6''''' xkeys5''''')) = (fun list0 xkeys5 xkeys5' xkeys5'' xkeys5''' xkeys5'''' xi6''''' xkeys5''''' => ∃ j, L5_spec_WheelOf list0 xkeys5 xkeys5' xkeys5'' xkeys5''' xkeys5'''' (fun r0 => kk (.one (.c (.rol .int r0))) []) j xi6''''' xkeys5''''') := by
      funext list0 xkeys5 xkeys5' xkeys5'' xkeys5''' xkeys5'''' xi6''''' xkeys5'''''
      refine congrArg Exists (funext fun j => ?_)
      rw [l5_spec_WheelOf list0 xkeys5 xkeys5' xkeys5'' xkeys5''' xkeys5'''' kk j xi6''''' xkeys5''''']
    rw [hb, hi5]
    rfl
theorem r3_spec_WheelOf (list0 : List (Int × Int)) (xkeys5 : List Int) (xkeys5' : List Int) (xkeys5'' : List Int) (kk : AV → List A1 → Prop) (n : Nat) (xi6''' : Int) (xkeys5''' : List Int) :
    iter (evF TT cs_spec_WheelOf 44 an_spec_WheelOf Try.f21 [1, 1, 1, 0, 1, 0, 0, 1, 0, 0, 1, 0, 1, 0, 0]) nm3_spec_WheelOf (kt3_spec_WheelOf (fin_spec_WheelOf list0 kk)) (n + 1) (can3_spec_WheelOf list0 xkeys5 xkeys5' xkeys5'' xi6''' xkeys5''') = T3_spec_WheelOf list0 xkeys5 xkeys5' xkeys5'' xi6''' xkeys5''' (fun xi6''' xkeys5''' => iter (evF TT cs_spec_WheelOf 44 an_spec_WheelOf Try.f21 [1, 1, 1, 0, 1, 0, 0, 1, 0, 0, 1, 0, 1, 0, 0]) nm3_spec_WheelOf (kt3_spec_WheelOf (fin_spec_WheelOf list0 kk)) n (can3_spec_WheelOf list0 xkeys5 xkeys5' xkeys5'' xi6''' xkeys5''')) (fun list0 xkeys5 xkeys5' xkeys5'' xkeys5''' xi6'''' xkeys5'''' => ∃ j, iter (evF TT cs_spec_WheelOf 44 an_spec_WheelOf Try.f21 [1, 1, 1, 0, 1, 0, 0, 1, 0, 0, 1, 0, 1, 0, 0]) nm4_spec_WheelOf (kt4_spec_WheelOf (fin_spec_WheelOf list0 kk)) j (can4_spec_WheelOf list0 xkeys5 xkeys5' xkeys5'' xkeys5''' xi6'''' xkeys5'''')) := by kernel_rfl
theorem l3_spec_WheelOf (list0 : List (Int × Int)) (xkeys5 : List Int) (xkeys5' : List Int) (xkeys5'' : List Int) (kk : AV → List A1 → Prop) : ∀ (n : Nat) (xi6''' : Int) (xkeys5''' : List Int), iter (evF TT cs_spec_WheelOf 44 an_spec_WheelOf Try.f21 [1, 1, 1, 0, 1, 0, 0, 1, 0, 0, 1, 0, 1, 0, 0]) nm3_spec_WheelOf (kt3_spec_WheelOf (fin_spec_WheelOf list0 kk)) n (can3_spec_WheelOf list0 xkeys5 xkeys5' xkeys5'' xi6''' xkeys5''') = L3_spec_WheelOf list0 xkeys5 xkeys5' xkeys5'' (fun r0 => kk (.one (.c (.rol .int r0))) []) n xi6''' xkeys5''' := by
  intro n
  induction n generalizing list0 xkeys5 xkeys5' xkeys5'' with
  | zero => intros; rfl
  | succ n ih =>
    intro xi6''' xkeys5'''
    rw [r3_spec_WheelOf list0 xkeys5 xkeys5' xkeys5'' kk n xi6''' xkeys5''']
    have hb : ∀ (list0 : List (Int × Int)) (xkeys5 : List Int) (xkeys5' : List Int) (xkeys5'' : List Int), (fun xi6''' xkeys5''' => iter (evF TT cs_spec_WheelOf 44 an_spec_WheelOf Try.f21 [1, 1, 1, 0, 1, 0, 0, 1, 0, 0, 1, 0, 1, 0, 0]) nm3_spec_WheelOf (kt3_spec_WheelOf (fin_spec_WheelOf list0 kk)) n (can3_spec_WheelOf list0 xkeys5 xkeys5' xkeys5'' xi6''' xkeys5''')) = L3_spec_WheelOf list0 xkeys5 xkeys5' xkeys5'' (fun r0 => kk (.one (.c (.rol .int r0))) []) n := by
      intro list0 xkeys5 xkeys5' xkeys5''
      funext xi6''' xkeys5'''; exact ih list0 xkeys5 xkeys5' xkeys5'' xi6''' xkeys5'''
    have hi4 : (fun list0 xkeys5 xkeys5' xkeys5'' xkeys5''' xi6'''' xkeys5'''' => ∃ j, iter (evF TT cs_spec_WheelOf 44 an_spec_WheelOf Try.f21 [1, 1, 1, 0, 1, 0, 0, 1, 0, 0, 1, 0, 1, 0, 0]) nm4_spec_WheelOf (kt4_spec_WheelOf (fin_spec_WheelOf list0 kk)) j (can4_spec_WheelOf list0 xkeys5 xkeys5' xkeys5'' xkeys5''' xi6'''' xkeys5'''')) = (fun list0 xkeys5 xkeys5' xkeys5'' xkeys5''' xi6'''' xkeys5'''' => ∃ j, L4_spec_WheelOf list0 xkeys5 xkeys5' xkeys5'' xkeys5''' (fun r0 => kk (.one (.c (.rol .int r0))) []) j xi6'''' xkeys5'''') := by
      funext list0 xkeys5 xkeys5' xkeys5'' xkeys5''' xi6'''' xkeys5''''
      refine congrArg Exists (funext fun j => ?_)
      rw [l4_spec_WheelOf list0 xkeys5 xkeys5' xkeys5'' xkeys5''' kk j xi6'''' xkeys5'''']
    rw [hb, hi4]
    rfl
theorem r2_spec_WheelOf (list0 : List (Int × Int)) (xkeys5 : List Int) (xkeys5' : List Int) (kk : AV → List A1 → Prop) (n : Nat) (xi6'' : Int) (xkeys5'' : List Int) :
    iter (evF TT cs_spec_WheelOf 44 an_spec_WheelOf Try.f21 [1, 1, 1, 0, 1, 0, 0, 1, 0, 0, 1, 0, 1, 0, 0]) nm2_spec_WheelOf (kt2_spec_WheelOf (fin_spec_WheelOf list0 kk)) (n + 1) (can2_spec_WheelOf list0 xkeys5 xkeys5' xi6'' xkeys5'') = T2_spec_WheelOf list0 xkeys5 xkeys5' xi6'' xkeys5'' (fun xi6'' xkeys5'' => iter (evF TT cs_spec_WheelOf 44 an_spec_WheelOf Try.f21 [1, 1, 1, 0, 1, 0, 0, 1, 0, 0, 1, 0, 1, 0, 0]) nm2_spec_WheelOf (kt2_spec_WheelOf (fin_spec_WheelOf list0 kk)) n (can2_spec_WheelOf list0 xkeys5 xkeys5' xi6'' xkeys5'')) (fun list0 xkeys5 xkeys5' xkeys5'' xi6''' xkeys5''' => ∃ j, iter (evF TT cs_spec_WheelOf 44 an_spec_WheelOf Try.f21 [1, 1, 1, 0, 1, 0, 0, 1, 0, 0, 1, 0, 1, 0, 0]) nm3_spec_WheelOf (kt3_spec_WheelOf (fin_spec_WheelOf list0 kk)) j (can3_spec_WheelOf list0 xkeys5 xkeys5' xkeys5'' xi6''' xkeys5''')) := by kernel_rfl
theorem l2_spec_WheelOf (list0 : List (Int × Int)) (xkeys5 : List Int) (xkeys5' : List Int) (kk : AV → List A1 → Prop) : ∀ (n : Nat) (xi6'' : Int) (xkeys5'' : List Int), iter (evF TT cs_spec_WheelOf 44 an_spec_WheelOf Try.f21 [1, 1, 1, 0, 1, 0, 0, 1, 0, 0, 1, 0, 1, 0, 0]) nm2_spec_WheelOf (kt2_spec_WheelOf (fin_spec_WheelOf list0 kk)) n (can2_spec_WheelOf list0 xkeys5 xkeys5' xi6'' xkeys5'') = L2_spec_WheelOf list0 xkeys5 xkeys5' (fun r0 => kk (.one (.c (.rol .int r0))) []) n xi6'' xkeys5'' := by
  intro n
  induction n generalizing list0 xkeys5 xkeys5' with
  | zero => intros; rfl
  | succ n ih =>
    intro xi6'' xkeys5''
    rw [r2_spec_WheelOf list0 xkeys5 xkeys5' kk n xi6'' xkeys5'']
    have hb : ∀ (list0 : List (Int × Int)) (xkeys5 : List Int) (xkeys5' : List Int), (fun xi6'' xkeys5'' => iter (evF TT cs_spec_WheelOf 44 an_spec_WheelOf Try.f21 [1, 1, 1, 0, 1, 0, 0, 1, 0, 0, 1, 0, 1, 0, 0]) nm2_spec_WheelOf (kt2_spec_WheelOf (fin_spec_WheelOf list0 kk)) n (can2_spec_WheelOf list0 xkeys5 xkeys5' xi6'' xkeys5'')) = L2_spec_WheelOf list0 xkeys5 xkeys5' (fun r0 => kk (.one (.c (.rol .int r0))) []) n := by
      intro list0 xkeys5 xkeys5'
      funext xi6'' xkeys5''; exact ih list0 xkeys5 xkeys5' xi6'' xkeys5''
    have hi3 : (fun list0 xkeys5 xkeys5' xkeys5'' xi6''' xkeys5''' => ∃ j, iter (evF TT cs_spec_WheelOf 44 an_spec_WheelOf Try.f21 [1, 1, 1, 0, 1, 0, 0, 1, 0, 0, 1, 0, 1, 0, 0]) nm3_spec_WheelOf (kt3_spec_WheelOf (fin_spec_WheelOf list0 kk)) j (can3_spec_WheelOf list0 xkeys5 xkeys5' xkeys5'' xi6''' xkeys5''')) = (fun list0 xkeys5 xkeys5' xkeys5'' xi6''' xkeys5''' => ∃ j, L3_spec_WheelOf list0 xkeys5 xkeys5' xkeys5'' (fun r0 => kk (.one (.c (.rol .int r0))) []) j xi6''' xkeys5''') := by
      funext list0 xkeys5 xkeys5' xkeys5'' xi6''' xkeys5'''
      refine congrArg Exists (funext fun j => ?_)
      rw [l3_spec_WheelOf list0 xkeys5 xkeys5' xkeys5'' kk j xi6''' xkeys5''']
    rw [hb, hi3]
    rfl
theorem r1_spec_WheelOf (list0 : List (Int × Int)) (xkeys5 : List Int) (kk : AV → List A1 → Prop) (n : Nat) (xi6' : Int) (xkeys5' : List Int) :
    iter (evF TT cs_spec_WheelOf 44 an_spec_WheelOf Try.f21 [1, 1, 1, 0, 1, 0, 0, 1, 0, 0, 1, 0, 1, 0, 0]) nm1_spec_WheelOf (kt1_spec_WheelOf (fin_spec_WheelOf list0 kk)) (n + 1) (can1_spec_WheelOf list0 xkeys5 xi6' xkeys5') = T1_spec_WheelOf list0 xkeys5 xi6' xkeys5' (fun xi6' xkeys5' => iter (evF TT cs_spec_WheelOf 44 an_spec_WheelOf Try.f21 [1, 1, 1, 0, 1, 0, 0, 1, 0, 0, 1, 0, 1, 0, 0]) nm1_spec_WheelOf (kt1_spec_WheelOf (fin_spec_WheelOf list0 kk)) n (can1_spec_WheelOf list0 xkeys5 xi6' xkeys5')) (fun list0 xkeys5 xkeys5' xi6'' xkeys5'' => ∃ j, iter (evF TT cs_spec_WheelOf 44 an_spec_WheelOf Try.f21 [1, 1, 1, 0, 1, 0, 0, 1, 0, 0, 1, 0, 1, 0, 0]) nm2_spec_WheelOf (kt2_spec_WheelOf (fin_spec_WheelOf list0 kk)) j (can2_spec_WheelOf list0 xkeys5 xkeys5' xi6'' xkeys5'')) := by kernel_rfl
theorem l1_spec_WheelOf (list0 : List (Int × Int)) (xkeys5 : List Int) (kk : AV → List A1 → Prop) : ∀ (n : Nat) (xi6' : Int) (xkeys5' : List Int), iter (evF TT cs_spec_WheelOf 44 an_spec_WheelOf Try.f21 [1, 1, 1, 0, 1, 0, 0, 1, 0, 0, 1, 0, 1, 0, 0]) nm1_spec_WheelOf (kt1_spec_WheelOf (fin_spec_WheelOf list0 kk)) n (can1_spec_WheelOf list0 xkeys5 xi6' xkeys5') = L1_spec_WheelOf list0 xkeys5 (fun r0 => kk (.one (.c (.rol .int r0))) []) n xi6' xkeys5' := by
  intro n
  induction n generalizing list0 xkeys5 with
  | zero => intros; rfl
  | succ n ih =>
    intro xi6' xkeys5'
    rw [r1_spec_WheelOf list0 xkeys5 kk n xi6' xkeys5']
    have hb : ∀ (list0 : List (Int × Int)) (xkeys5 : List Int), (fun xi6' xkeys5' => iter (evF TT cs_spec_WheelOf 44 an_spec_WheelOf Try.f21 [1, 1, 1, 0, 1, 0, 0, 1, 0, 0, 1, 0, 1, 0, 0]) nm1_spec_WheelOf (kt1_spec_WheelOf (fin_spec_WheelOf list0 kk)) n (can1_spec_WheelOf list0 xkeys5 xi6' xkeys5')) = L1_spec_WheelOf list0 xkeys5 (fun r0 => kk (.one (.c (.rol .int r0))) []) n := by
      intro list0 xkeys5
      funext xi6' xkeys5'; exact ih list0 xkeys5 xi6' xkeys5'
    have hi2 : (fun list0 xkeys5 xkeys5' xi6'' xkeys5'' => ∃ j, iter (evF TT cs_spec_WheelOf 44 an_spec_WheelOf Try.f21 [1, 1, 1, 0, 1, 0, 0, 1, 0, 0, 1, 0, 1, 0, 0]) nm2_spec_WheelOf (kt2_spec_WheelOf (fin_spec_WheelOf list0 kk)) j (can2_spec_WheelOf list0 xkeys5 xkeys5' xi6'' xkeys5'')) = (fun list0 xkeys5 xkeys5' xi6'' xkeys5'' => ∃ j, L2_spec_WheelOf list0 xkeys5 xkeys5' (fun r0 => kk (.one (.c (.rol .int r0))) []) j xi6'' xkeys5'') := by
      funext list0 xkeys5 xkeys5' xi6'' xkeys5''
      refine congrArg Exists (funext fun j => ?_)
      rw [l2_spec_WheelOf list0 xkeys5 xkeys5' kk j xi6'' xkeys5'']
    rw [hb, hi2]
    rfl
theorem r0_spec_WheelOf (list0 : List (Int × Int)) (kk : AV → List A1 → Prop) (n : Nat) (xi6 : Int) (xkeys5 : List Int) :
    iter (evF TT cs_spec_WheelOf 44 an_spec_WheelOf Try.f21 [1, 1, 1, 0, 1, 0, 0, 1, 0, 0, 1, 0, 1, 0, 0]) nm0_spec_WheelOf (kt0_spec_WheelOf (fin_spec_WheelOf list0 kk)) (n + 1) (can0_spec_WheelOf list0 xi6 xkeys5) = T0_spec_WheelOf list0 xi6 xkeys5 (fun xi6 xkeys5 => iter (evF TT cs_spec_WheelOf 44 an_spec_WheelOf Try.f21 [1, 1, 1, 0, 1, 0, 0, 1, 0, 0, 1, 0, 1, 0, 0]) nm0_spec_WheelOf (kt0_spec_WheelOf (fin_spec_WheelOf list0 kk)) n (can0_spec_WheelOf list0 xi6 xkeys5)) (fun list0 xkeys5 xi6' xkeys5' => ∃ j, iter (evF TT cs_spec_WheelOf 44 an_spec_WheelOf Try.f21 [1, 1, 1, 0, 1, 0, 0, 1, 0, 0, 1, 0, 1, 0, 0]) nm1_spec_WheelOf (kt1_spec_WheelOf (fin_spec_WheelOf list0 kk)) j (can1_spec_WheelOf list0 xkeys5 xi6' xkeys5')) := by kernel_rfl
theorem l0_spec_WheelOf (list0 : List (Int × Int)) (kk : AV → List A1 → Prop) : ∀ (n : Nat) (xi6 : Int) (xkeys5 : List Int), iter (evF TT cs_spec_WheelOf 44 an_spec_WheelOf Try.f21 [1, 1, 1, 0, 1, 0, 0, 1, 0, 0, 1, 0, 1, 0, 0]) nm0_spec_WheelOf (kt0_spec_WheelOf (fin_spec_WheelOf list0 kk)) n (can0_spec_WheelOf list0 xi6 xkeys5) = L0_spec_WheelOf list0 (fun r0 => kk (.one (.c (.rol .int r0))) []) n xi6 xkeys5 := by
  intro n
  induction n generalizing list0 with
  | zero => intros; rfl
  | succ n ih =>
    intro xi6 xkeys5
    rw [r0_spec_WheelOf list0 kk n xi6 xkeys5]
    have hb : ∀ (list0 : List (Int × Int)), (fun xi6 xkeys5 => iter (evF TT cs_spec_WheelOf 44 an_spec_WheelOf Try.f21 [1, 1, 1, 0, 1, 0, 0, 1, 0, 0, 1, 0, 1, 0, 0]) nm0_spec_WheelOf (kt0_spec_WheelOf (fin_spec_WheelOf list0 kk)) n (can0_spec_WheelOf list0 xi6 xkeys5)) = L0_spec_WheelOf list0 (fun r0 => kk (.one (.c (.rol .int r0))) []) n := by
      intro list0
      funext xi6 xkeys5; exact ih list0 xi6 xkeys5
    have hi1 : (fun list0 xkeys5 xi6' xkeys5' => ∃ j, iter (evF TT cs_spec_WheelOf 44 an_spec_WheelOf Try.f21 [1, 1, 1, 0, 1, 0, 0, 1, 0, 0, 1, 0, 1, 0, 0]) nm1_spec_WheelOf (kt1_spec_WheelOf (fin_spec_WheelOf list0 kk)) j (can1_spec_WheelOf list0 xkeys5 xi6' xkeys5')) = (fun list0 xkeys5 xi6' xkeys5' => ∃ j, L1_spec_WheelOf list0 xkeys5 (fun r0 => kk (.one (.c (.rol .int r0))) []) j xi6' xkeys5') := by
      funext list0 xkeys5 xi6' xkeys5'
      refine congrArg Exists (funext fun j => ?_)
      rw [l1_spec_WheelOf list0 xkeys5 kk j xi6' xkeys5']
    rw [hb, hi1]
    rfl
theorem g_spec_WheelOf (list0 : List (Int × Int)) (kk : AV → List A1 → Prop) :
    ev TT cs_spec_WheelOf 44 an_spec_WheelOf (Try.f21.body.getD .skip) (st0 con_spec_WheelOf [.c (.ro .ii list0)]) (fin TT con_spec_WheelOf Try.f21.results.toList [.c (.sll .int)] [.c (.ro .ii list0)] kk) = G_spec_WheelOf list0 (fun r0 => kk (.one (.c (.rol .int r0))) []) (fun list0 xi6 xkeys5 => ∃ j, iter (evF TT cs_spec_WheelOf 44 an_spec_WheelOf Try.f21 [1, 1, 1, 0, 1, 0, 0, 1, 0, 0, 1, 0, 1, 0, 0]) nm0_spec_WheelOf (kt0_spec_WheelOf (fin_spec_WheelOf list0 kk)) j (can0_spec_WheelOf list0 xi6 xkeys5)) := by kernel_rfl
theorem e_spec_WheelOf (list0 : List (Int × Int)) (kk : AV → List A1 → Prop) :
    ev TT cs_spec_WheelOf 44 an_spec_WheelOf (Try.f21.body.getD .skip) (st0 con_spec_WheelOf [.c (.ro .ii list0)]) (fin TT con_spec_WheelOf Try.f21.results.toList [.c (.sll .int)] [.c (.ro .ii list0)] kk) = S_spec_WheelOf list0 (fun r0 => kk (.one (.c (.rol .int r0))) []) := by
  rw [g_spec_WheelOf]
  have hi0 : (fun list0 xi6 xkeys5 => ∃ j, iter (evF TT cs_spec_WheelOf 44 an_spec_WheelOf Try.f21 [1, 1, 1, 0, 1, 0, 0, 1, 0, 0, 1, 0, 1, 0, 0]) nm0_spec_WheelOf (kt0_spec_WheelOf (fin_spec_WheelOf list0 kk)) j (can0_spec_WheelOf list0 xi6 xkeys5)) = (fun list0 xi6 xkeys5 => ∃ j, L0_spec_WheelOf list0 (fun r0 => kk (.one (.c (.rol .int r0))) []) j xi6 xkeys5) := by
    funext list0 xi6 xkeys5
    refine congrArg Exists (funext fun j => ?_)
    rw [l0_spec_WheelOf list0 kk j xi6 xkeys5]
  rw [hi0]
  rfl
theorem clok_spec_WheelOf : ConOK Try.prog cl_spec_WheelOf := consCons h_spec_validTimed ⟨Try.f40, Try.func40, by kernel_rfl, ne_of_beq (by kernel_rfl)⟩ (consNil)
theorem cok_spec_WheelOf : ConsOK Try.prog 44 cs_spec_WheelOf := ⟨clok_spec_WheelOf, inlNil, ovNil⟩
theorem i_spec_WheelOf {vs : List A1} {kk : AV → List A1 → Prop} {motive : List A1 → Prop} (h : con_spec_WheelOf.F vs kk) (H : ∀ (list0 : List (Int × Int)), F_spec_WheelOf list0 (fun r0 => kk (.one (.c (.rol .int r0))) []) → motive [.c (.ro .ii list0)]) : motive vs := by
  unfold con_spec_WheelOf at h
  dsimp only at h
  split at h
  · exact H _ h
  · exact h.elim
theorem h_spec_WheelOf : Holds Try.prog 21 con_spec_WheelOf := by
  refine holds_of_ev (rt := [.c (.sll .int)]) (T := TT) (Γ := cs_spec_WheelOf) (an := an_spec_WheelOf) (N := 44) (c := Try.f21.body.getD .skip) Try.func21 (by kernel_rfl) Try.ntmps21 (by decide) (by decide) mixed tabOK cok_spec_WheelOf (by kernel_rfl) ?_
  intro vs kk _ hF
  exact i_spec_WheelOf (motive := fun vs => Goes (ev TT cs_spec_WheelOf 44 an_spec_WheelOf (Try.f21.body.getD .skip) (st0 con_spec_WheelOf vs) (fin TT con_spec_WheelOf Try.f21.results.toList [.c (.sll .int)] vs kk))) hF (fun list0 hF => goes_of (e_spec_WheelOf list0 kk) (F_spec_WheelOf_S hF))
def con_impl_validKey : Con := ⟨[.rd], true, [.c (.sc)], fun vs k => match vs with
    | [.c (.v (.int .i64 key0))] => F_impl_validKey key0 (fun r0 => k (.one (.c (.v (.bool r0)))) [])
    | _ => False, false⟩
def cl_impl_validKey : List (FuncId × Con) := []
def an_impl_validKey : Ann := ⟨[], [], [], []⟩
def cs_impl_validKey : Cons := ⟨cl_impl_validKey, [], 0, [], [], []⟩
def fin_impl_validKey (key0 : Int) (kk : AV → List A1 → Prop) : Kt := fin TT con_impl_validKey Try.f49.results.toList [.c .sc] [.c (.v (.int .i64 key0))] kk
theorem g_impl_validKey (key0 : Int) (kk : AV → List A1 → Prop) :
    ev TT cs_impl_validKey 9 an_impl_validKey (Try.f49.body.getD .skip) (st0 con_impl_validKey [.c (.v (.int .i64 key0))]) (fin TT con_impl_validKey Try.f49.results.toList [.c .sc] [.c (.v (.int .i64 key0))] kk) = G_impl_validKey key0 (fun r0 => kk (.one (.c (.v (.bool r0)))) []) := by kernel_rfl
theorem e_impl_validKey (key0 : Int) (kk : AV → List A1 → Prop) :
    ev TT cs_impl_validKey 9 an_impl_validKey (Try.f49.body.getD .skip) (st0 con_impl_validKey [.c (.v (.int .i64 key0))]) (fin TT con_impl_validKey Try.f49.results.toList [.c .sc] [.c (.v (.int .i64 key0))] kk) = S_impl_validKey key0 (fun r0 => kk (.one (.c (.v (.bool r0)))) []) := by
  rw [g_impl_validKey]
  rfl
theorem clok_impl_validKey : ConOK Try.prog cl_impl_validKey := consNil
theorem cok_impl_validKey : ConsOK Try.prog 9 cs_impl_validKey := ⟨clok_impl_validKey, inlNil, ovNil⟩
theorem i_impl_validKey {vs : List A1} {kk : AV → List A1 → Prop} {motive : List A1 → Prop} (h : con_impl_validKey.F vs kk) (H : ∀ (key0 : Int), F_impl_validKey key0 (fun r0 => kk (.one (.c (.v (.bool r0)))) []) → motive [.c (.v (.int .i64 key0))]) : motive vs := by
  unfold con_impl_validKey at h
  dsimp only at h
  split at h
  · exact H _ h
  · exact h.elim
theorem h_impl_validKey : Holds Try.prog 49 con_impl_validKey := by
  refine holds_of_ev (rt := [.c .sc]) (T := TT) (Γ := cs_impl_validKey) (an := an_impl_validKey) (N := 9) (c := Try.f49.body.getD .skip) Try.func49 (by kernel_rfl) Try.ntmps49 (by decide) (by decide) mixed tabOK cok_impl_validKey (by kernel_rfl) ?_
  intro vs kk _ hF
  exact i_impl_validKey (motive := fun vs => Goes (ev TT cs_impl_validKey 9 an_impl_validKey (Try.f49.body.getD .skip) (st0 con_impl_validKey vs) (fin TT con_impl_validKey Try.f49.results.toList [.c .sc] vs kk))) hF (fun key0 hF => goes_of (e_impl_validKey key0 kk) (F_impl_validKey_S hF))
def con_impl_validTime : Con := ⟨[.rd], true, [.c (.sc)], fun vs k => match vs with
    | [.c (.v (.int .i64 time0))] => F_impl_validTime time0 (fun r0 => k (.one (.c (.v (.bool r0)))) [])
    | _ => False, false⟩
def cl_impl_validTime : List (FuncId × Con) := []
def an_impl_validTime : Ann := ⟨[], [], [], []⟩
def cs_impl_validTime : Cons := ⟨cl_impl_validTime, [], 0, [], [], []⟩
def fin_impl_validTime (time0 : Int) (kk : AV → List A1 → Prop) : Kt := fin TT con_impl_validTime Try.f52.results.toList [.c .sc] [.c (.v (.int .i64 time0))] kk
theorem g_impl_validTime (time0 : Int) (kk : AV → List A1 → Prop) :
    ev TT cs_impl_validTime 9 an_impl_validTime (Try.f52.body.getD .skip) (st0 con_impl_validTime [.c (.v (.int .i64 time0))]) (fin TT con_impl_validTime Try.f52.results.toList [.c .sc] [.c (.v (.int .i64 time0))] kk) = G_impl_validTime time0 (fun r0 => kk (.one (.c (.v (.bool r0)))) []) := by kernel_rfl
theorem e_impl_validTime (time0 : Int) (kk : AV → List A1 → Prop) :
    ev TT cs_impl_validTime 9 an_impl_validTime (Try.f52.body.getD .skip) (st0 con_impl_validTime [.c (.v (.int .i64 time0))]) (fin TT con_impl_validTime Try.f52.results.toList [.c .sc] [.c (.v (.int .i64 time0))] kk) = S_impl_validTime time0 (fun r0 => kk (.one (.c (.v (.bool r0)))) []) := by
  rw [g_impl_validTime]
  rfl
theorem clok_impl_validTime : ConOK Try.prog cl_impl_validTime := consNil
theorem cok_impl_validTime : ConsOK Try.prog 9 cs_impl_validTime := ⟨clok_impl_validTime, inlNil, ovNil⟩
theorem i_impl_validTime {vs : List A1} {kk : AV → List A1 → Prop} {motive : List A1 → Prop} (h : con_impl_validTime.F vs kk) (H : ∀ (time0 : Int), F_impl_validTime time0 (fun r0 => kk (.one (.c (.v (.bool r0)))) []) → motive [.c (.v (.int .i64 time0))]) : motive vs := by
  unfold con_impl_validTime at h
  dsimp only at h
  split at h
  · exact H _ h
  · exact h.elim
theorem h_impl_validTime : Holds Try.prog 52 con_impl_validTime := by
  refine holds_of_ev (rt := [.c .sc]) (T := TT) (Γ := cs_impl_validTime) (an := an_impl_validTime) (N := 9) (c := Try.f52.body.getD .skip) Try.func52 (by kernel_rfl) Try.ntmps52 (by decide) (by decide) mixed tabOK cok_impl_validTime (by kernel_rfl) ?_
  intro vs kk _ hF
  exact i_impl_validTime (motive := fun vs => Goes (ev TT cs_impl_validTime 9 an_impl_validTime (Try.f52.body.getD .skip) (st0 con_impl_validTime vs) (fin TT con_impl_validTime Try.f52.results.toList [.c .sc] vs kk))) hF (fun time0 hF => goes_of (e_impl_validTime time0 kk) (F_impl_validTime_S hF))
def con_impl_ValidTimed : Con := ⟨[.rd], true, [.c (.sl .ii)], fun vs k => match vs with
    | [.c (.ro .ii list0)] => F_impl_ValidTimed list0 (fun r0 => k (.one (.c (.v (.bool r0)))) [])
    | _ => False, false⟩
def cl_impl_ValidTimed : List (FuncId × Con) := [(49, con_impl_validKey), (52, con_impl_validTime)]
def nm0_impl_ValidTimed : List NStep := [.keep [0, 8, 9, 10] []]
def an_impl_ValidTimed : Ann := ⟨[(8, .take 0 (.take 1 (.take 2 (.take 3 (.take 4 (.take 5 (.take 6 (.take 7 (.take 8 (.take 9 (.take 10 (.take 11 (.take 12 (.done))))))))))))), [64])], [(4, nm0_impl_ValidTimed)], [], []⟩
def cs_impl_ValidTimed : Cons := ⟨cl_impl_ValidTimed, [], 0, [], [], []⟩
def can0_impl_ValidTimed (list0 : List (Int × Int)) (xt9 : Int) (xt10 : Int) : St := ⟨[(0, .one (.c (.ro .ii list0))), (8, .one (.c (.ro .ii list0))), (9, .one (.c (.v (.int .i64 xt9)))), (10, .one (.c (.v (.int .i64 xt10))))], []⟩
def fin_impl_ValidTimed (list0 : List (Int × Int)) (kk : AV → List A1 → Prop) : Kt := fin TT con_impl_ValidTimed Try.f42.results.toList [.c .sc] [.c (.ro .ii list0)] kk
def kt0_impl_ValidTimed (kf : Kt) : Kt := blockK 0 (seqK (evF TT cs_impl_ValidTimed 39 an_impl_ValidTimed Try.f42 [1, 1, 1]) (kf))
theorem r0_impl_ValidTimed (list0 : List (Int × Int)) (xt9 : Int) (kk : AV → List A1 → Prop) (n : Nat) (xt10 : Int) :
    iter (evF TT cs_impl_ValidTimed 39 an_impl_ValidTimed Try.f42 [1, 1, 0, 1, 0, 0]) nm0_impl_ValidTimed (kt0_impl_ValidTimed (fin_impl_ValidTimed list0 kk)) (n + 1) (can0_impl_ValidTimed list0 xt9 xt10) = T0_impl_ValidTimed list0 xt9 xt10 (fun r0 => kk (.one (.c (.v (.bool r0)))) []) (fun xt10 => iter (evF TT cs_impl_ValidTimed 39 an_impl_ValidTimed Try.f42 [1, 1, 0, 1, 0, 0]) nm0_impl_ValidTimed (kt0_impl_ValidTimed (fin_impl_ValidTimed list0 kk)) n (can0_impl_ValidTimed list0 xt9 xt10)) := by kernel_rfl
theorem l0_impl_ValidTimed (list0 : List (Int × Int)) (xt9 : Int) (kk : AV → List A1 → Prop) : ∀ (n : Nat) (xt10 : Int), iter (evF TT cs_impl_ValidTimed 39 an_impl_ValidTimed Try.f42 [1, 1, 0, 1, 0, 0]) nm0_impl_ValidTimed (kt0_impl_ValidTimed (fin_impl_ValidTimed list0 kk)) n (can0_impl_ValidTimed list0 xt9 xt10) = L0_impl_ValidTimed list0 xt9 (fun r0 => kk (.one (.c (.v (.bool r0)))) []) n xt10 := by
  intro n
  induction n with
  | zero => intros; rfl
  | succ n ih =>
    intro xt10
    rw [r0_impl_ValidTimed list0 xt9 kk n xt10]
    have hb : (fun xt10 => iter (evF TT cs_impl_ValidTimed 39 an_impl_ValidTimed Try.f42 [1, 1, 0, 1, 0, 0]) nm0_impl_ValidTimed (kt0_impl_ValidTimed (fin_impl_ValidTimed list0 kk)) n (can0_impl_ValidTimed list0 xt9 xt10)) = L0_impl_ValidTimed list0 xt9 (fun r0 => kk (.one (.c (.v (.bool r0)))) []) n := by
      funext xt10; exact ih xt10
    rw [hb]
    rfl
theorem g_impl_ValidTimed (list0 : List (Int × Int)) (kk : AV → List A1 → Prop) :
    ev TT cs_impl_ValidTimed 39 an_impl_ValidTimed (Try.f42.body.getD .skip) (st0 con_impl_ValidTimed [.c (.ro .ii list0)]) (fin TT con_impl_ValidTimed Try.f42.results.toList [.c .sc] [.c (.ro .ii list0)] kk) = G_impl_ValidTimed list0 (fun r0 => kk (.one (.c (.v (.bool r0)))) []) (fun list0 xt9 xt10 => ∃ j, iter (evF TT cs_impl_ValidTimed 39 an_impl_ValidTimed Try.f42 [1, 1, 0, 1, 0, 0]) nm0_impl_ValidTimed (kt0_impl_ValidTimed (fin_impl_ValidTimed list0 kk)) j (can0_impl_ValidTimed list0 xt9 xt10)) := by kernel_rfl
theorem e_impl_ValidTimed (list0 : List (Int × Int)) (kk : AV → List A1 → Prop) :
    ev TT cs_impl_ValidTimed 39 an_impl_ValidTimed (Try.f42.body.getD .skip) (st0 con_impl_ValidTimed [.c (.ro .ii list0)]) (fin TT con_impl_ValidTimed Try.f42.results.toList [.c .sc] [.c (.ro .ii list0)] kk) = S_impl_ValidTimed list0 (fun r0 => kk (.one (.c (.v (.bool r0)))) []) := by
  rw [g_impl_ValidTimed]
  have hi0 : (fun list0 xt9 xt10 => ∃ j, iter (evF TT cs_impl_ValidTimed 39 an_impl_ValidTimed Try.f42 [1, 1, 0, 1, 0, 0]) nm0_impl_ValidTimed (kt0_impl_ValidTimed (fin_impl_ValidTimed list0 kk)) j (can0_impl_ValidTimed list0 xt9 xt10)) = (fun list0 xt9 xt10 => ∃ j, L0_impl_ValidTimed list0 xt9 (fun r0 => kk (.one (.c (.v (.bool r0)))) []) j xt10) := by
    funext list0 xt9 xt10
    refine congrArg Exists (funext fun j => ?_)
    rw [l0_impl_ValidTimed list0 xt9 kk j xt10]
  rw [hi0]
  rfl
theorem clok_impl_ValidTimed : ConOK Try.prog cl_impl_ValidTimed := consCons h_impl_validKey ⟨Try.f49, Try.func49, by kernel_rfl, ne_of_beq (by kernel_rfl)⟩ (consCons h_impl_validTime ⟨Try.f52, Try.func52, by kernel_rfl, ne_of_beq (by kernel_rfl)⟩ (consNil))
theorem cok_impl_ValidTimed : ConsOK Try.prog 39 cs_impl_ValidTimed := ⟨clok_impl_ValidTimed, inlNil, ovNil⟩
theorem i_impl_ValidTimed {vs : List A1} {kk : AV → List A1 → Prop} {motive : List A1 → Prop} (h : con_impl_ValidTimed.F vs kk) (H : ∀ (list0 : List (Int × Int)), F_impl_ValidTimed list0 (fun r0 => kk (.one (.c (.v (.bool r0)))) []) → motive [.c (.ro .ii list0)]) : motive vs := by
  unfold con_impl_ValidTimed at h
  dsimp only at h
  split at h
  · exact H _ h
  · exact h.elim
theorem h_impl_ValidTimed : Holds Try.prog 42 con_impl_ValidTimed := by
  refine holds_of_ev (rt := [.c .sc]) (T := TT) (Γ := cs_impl_ValidTimed) (an := an_impl_ValidTimed) (N := 39) (c := Try.f42.body.getD .skip) Try.func42 (by kernel_rfl) Try.ntmps42 (by decide) (by decide) mixed tabOK cok_impl_ValidTimed (by kernel_rfl) ?_
  intro vs kk _ hF
  exact i_impl_ValidTimed (motive := fun vs => Goes (ev TT cs_impl_ValidTimed 39 an_impl_ValidTimed (Try.f42.body.getD .skip) (st0 con_impl_ValidTimed vs) (fin TT con_impl_ValidTimed Try.f42.results.toList [.c .sc] vs kk))) hF (fun list0 hF => goes_of (e_impl_ValidTimed list0 kk) (F_impl_ValidTimed_S hF))
def con_laws_eqTimed : Con := ⟨[.rd, .rd], true, [.agg [.sc, .sc], .agg [.sc, .sc]], fun vs k => match vs with
    | [.agg [.v (.int .i64 a0Key), .v (.int .i64 a0Until)], .agg [.v (.int .i64 b1Key), .v (.int .i64 b1Until)]] => F_laws_eqTimed a0Key a0Until b1Key b1Until (fun r0 => k (.one (.c (.v (.bool r0)))) [])
    | _ => False, false⟩
def cl_laws_eqTimed : List (FuncId × Con) := []
def an_laws_eqTimed : Ann := ⟨[], [], [], []⟩
def cs_laws_eqTimed : Cons := ⟨cl_laws_eqTimed, [], 0, [], [], []⟩
def fin_laws_eqTimed (a0Key : Int) (a0Until : Int) (b1Key : Int) (b1Until : Int) (kk : AV → List A1 → Prop) : Kt := fin TT con_laws_eqTimed Try.f43.results.toList [.c .sc] [.agg [.v (.int .i64 a0Key), .v (.int .i64 a0Until)], .agg [.v (.int .i64 b1Key), .v (.int .i64 b1Until)]] kk
theorem g_laws_eqTimed (a0Key : Int) (a0Until : Int) (b1Key : Int) (b1Until : Int) (kk : AV → List A1 → Prop) :
    ev TT cs_laws_eqTimed 15 an_laws_eqTimed (Try.f43.body.getD .skip) (st0 con_laws_eqTimed [.agg [.v (.int .i64 a0Key), .v (.int .i64 a0Until)], .agg [.v (.int .i64 b1Key), .v (.int .i64 b1Until)]]) (fin TT con_laws_eqTimed Try.f43.results.toList [.c .sc] [.agg [.v (.int .i64 a0Key), .v (.int .i64 a0Until)], .agg [.v (.int .i64 b1Key), .v (.int .i64 b1Until)]] kk) = G_laws_eqTimed a0Key a0Until b1Key b1Until (fun r0 => kk (.one (.c (.v (.bool r0)))) []) := by kernel_rfl
theorem e_laws_eqTimed (a0Key : Int) (a0Until : Int) (b1Key : Int) (b1Until : Int) (kk : AV → List A1 → Prop) :
    ev TT cs_laws_eqTimed 15 an_laws_eqTimed (Try.f43.body.getD .skip) (st0 con_laws_eqTimed [.agg [.v (.int .i64 a0Key), .v (.int .i64 a0Until)], .agg [.v (.int .i64 b1Key), .v (.int .i64 b1Until)]]) (fin TT con_laws_eqTimed Try.f43.results.toList [.c .sc] [.agg [.v (.int .i64 a0Key), .v (.int .i64 a0Until)], .agg [.v (.int .i64 b1Key), .v (.int .i64 b1Until)]] kk) = S_laws_eqTimed a0Key a0Until b1Key b1Until (fun r0 => kk (.one (.c (.v (.bool r0)))) []) := by
  rw [g_laws_eqTimed]
  rfl
theorem clok_laws_eqTimed : ConOK Try.prog cl_laws_eqTimed := consNil
theorem cok_laws_eqTimed : ConsOK Try.prog 15 cs_laws_eqTimed := ⟨clok_laws_eqTimed, inlNil, ovNil⟩
theorem i_laws_eqTimed {vs : List A1} {kk : AV → List A1 → Prop} {motive : List A1 → Prop} (h : con_laws_eqTimed.F vs kk) (H : ∀ (a0Key : Int) (a0Until : Int) (b1Key : Int) (b1Until : Int), F_laws_eqTimed a0Key a0Until b1Key b1Until (fun r0 => kk (.one (.c (.v (.bool r0)))) []) → motive [.agg [.v (.int .i64 a0Key), .v (.int .i64 a0Until)], .agg [.v (.int .i64 b1Key), .v (.int .i64 b1Until)]]) : motive vs := by
  unfold con_laws_eqTimed at h
  dsimp only at h
  split at h
  · exact H _ _ _ _ h
  · exact h.elim
theorem h_laws_eqTimed : Holds Try.prog 43 con_laws_eqTimed := by
  refine holds_of_ev (rt := [.c .sc]) (T := TT) (Γ := cs_laws_eqTimed) (an := an_laws_eqTimed) (N := 15) (c := Try.f43.body.getD .skip) Try.func43 (by kernel_rfl) Try.ntmps43 (by decide) (by decide) mixed tabOK cok_laws_eqTimed (by kernel_rfl) ?_
  intro vs kk _ hF
  exact i_laws_eqTimed (motive := fun vs => Goes (ev TT cs_laws_eqTimed 15 an_laws_eqTimed (Try.f43.body.getD .skip) (st0 con_laws_eqTimed vs) (fin TT con_laws_eqTimed Try.f43.results.toList [.c .sc] vs kk))) hF (fun a0Key a0Until b1Key b1Until hF => goes_of (e_laws_eqTimed a0Key a0Until b1Key b1Until kk) (F_laws_eqTimed_S hF))
def con_laws_eqTimedS : Con := ⟨[.rd, .rd], true, [.c (.sl .ii), .c (.sl .ii)], fun vs k => match vs with
    | [.c (.ro .ii a0), .c (.ro .ii b1)] => F_laws_eqTimedS a0 b1 (fun r0 => k (.one (.c (.v (.bool r0)))) [])
    | _ => False, false⟩
def cl_laws_eqTimedS : List (FuncId × Con) := [(43, con_laws_eqTimed)]
def nm0_laws_eqTimedS : List NStep := [.keep [0, 1, 5] []]
def an_laws_eqTimedS : Ann := ⟨[(6, .take 0 (.take 1 (.take 2 (.take 3 (.take 4 (.take 5 (.take 6 (.take 7 (.alt 8 (.take 9 (.done)) (.none))))))))), [])], [(4, nm0_laws_eqTimedS)], [], []⟩
def cs_laws_eqTimedS : Cons := ⟨cl_laws_eqTimedS, [], 0, [], [], []⟩
def can0_laws_eqTimedS (a0 : List (Int × Int)) (b1 : List (Int × Int)) (xi5 : Int) : St := ⟨[(0, .one (.c (.ro .ii a0))), (1, .one (.c (.ro .ii b1))), (5, .one (.c (.v (.int .i64 xi5))))], []⟩
def fin_laws_eqTimedS (a0 : List (Int × Int)) (b1 : List (Int × Int)) (kk : AV → List A1 → Prop) : Kt := fin TT con_laws_eqTimedS Try.f25.results.toList [.c .sc] [.c (.ro .ii a0), .c (.ro .ii b1)] kk
def kt0_laws_eqTimedS (kf : Kt) : Kt := blockK 0 (seqK (evF TT cs_laws_eqTimedS 27 an_laws_eqTimedS Try.f25 [1, 1, 1]) (kf))
theorem r0_laws_eqTimedS (a0 : List (Int × Int)) (b1 : List (Int × Int)) (kk : AV → List A1 → Prop) (n : Nat) (xi5 : Int) :
    iter (evF TT cs_laws_eqTimedS 27 an_laws_eqTimedS Try.f25 [1, 1, 0, 1, 0, 0]) nm0_laws_eqTimedS (kt0_laws_eqTimedS (fin_laws_eqTimedS a0 b1 kk)) (n + 1) (can0_laws_eqTimedS a0 b1 xi5) = T0_laws_eqTimedS a0 b1 xi5 (fun r0 => kk (.one (.c (.v (.bool r0)))) []) (fun xi5 => iter (evF TT cs_laws_eqTimedS 27 an_laws_eqTimedS Try.f25 [1, 1, 0, 1, 0, 0]) nm0_laws_eqTimedS (kt0_laws_eqTimedS (fin_laws_eqTimedS a0 b1 kk)) n (can0_laws_eqTimedS a0 b1 xi5)) := by kernel_rfl
theorem l0_laws_eqTimedS (a0 : List (Int × Int)) (b1 : List (Int × Int)) (kk : AV → List A1 → Prop) : ∀ (n : Nat) (xi5 : Int), iter (evF TT cs_laws_eqTimedS 27 an_laws_eqTimedS Try.f25 [1, 1, 0, 1, 0, 0]) nm0_laws_eqTimedS (kt0_laws_eqTimedS (fin_laws_eqTimedS a0 b1 kk)) n (can0_laws_eqTimedS a0 b1 xi5) = L0_laws_eqTimedS a0 b1 (fun r0 => kk (.one (.c (.v (.bool r0)))) []) n xi5 := by
  intro n
  induction n with
  | zero => intros; rfl
  | succ n ih =>
    intro xi5
    rw [r0_laws_eqTimedS a0 b1 kk n xi5]
    have hb : (fun xi5 => iter (evF TT cs_laws_eqTimedS 27 an_laws_eqTimedS Try.f25 [1, 1, 0, 1, 0, 0]) nm0_laws_eqTimedS (kt0_laws_eqTimedS (fin_laws_eqTimedS a0 b1 kk)) n (can0_laws_eqTimedS a0 b1 xi5)) = L0_laws_eqTimedS a0 b1 (fun r0 => kk (.one (.c (.v (.bool r0)))) []) n := by
      funext xi5; exact ih xi5
    rw [hb]
    rw [T0_laws_eqTimedS_eq]
    rfl
theorem g_laws_eqTimedS (a0 : List (Int × Int)) (b1 : List (Int × Int)) (kk : AV → List A1 → Prop) :
    ev TT cs_laws_eqTimedS 27 an_laws_eqTimedS (Try.f25.body.getD .skip) (st0 con_laws_eqTimedS [.c (.ro .ii a0), .c (.ro .ii b1)]) (fin TT con_laws_eqTimedS Try.f25.results.toList [.c .sc] [.c (.ro .ii a0), .c (.ro .ii b1)] kk) = G_laws_eqTimedS a0 b1 (fun r0 => kk (.one (.c (.v (.bool r0)))) []) (fun a0 b1 xi5 => ∃ j, iter (evF TT cs_laws_eqTimedS 27 an_laws_eqTimedS Try.f25 [1, 1, 0, 1, 0, 0]) nm0_laws_eqTimedS (kt0_laws_eqTimedS (fin_laws_eqTimedS a0 b1 kk)) j (can0_laws_eqTimedS a0 b1 xi5)) := by kernel_rfl
theorem e_laws_eqTimedS (a0 : List (Int × Int)) (b1 : List (Int × Int)) (kk : AV → List A1 → Prop) :
    ev TT cs_laws_eqTimedS 27 an_laws_eqTimedS (Try.f25.body.getD .skip) (st0 con_laws_eqTimedS [.c (.ro .ii a0), .c (.ro .ii b1)]) (fin TT con_laws_eqTimedS Try.f25.results.toList [.c .sc] [.c (.ro .ii a0), .c (.ro .ii b1)] kk) = S_laws_eqTimedS a0 b1 (fun r0 => kk (.one (.c (.v (.bool r0)))) []) := by
  rw [g_laws_eqTimedS]
  have hi0 : (fun a0 b1 xi5 => ∃ j, iter (evF TT cs_laws_eqTimedS 27 an_laws_eqTimedS Try.f25 [1, 1, 0, 1, 0, 0]) nm0_laws_eqTimedS (kt0_laws_eqTimedS (fin_laws_eqTimedS a0 b1 kk)) j (can0_laws_eqTimedS a0 b1 xi5)) = (fun a0 b1 xi5 => ∃ j, L0_laws_eqTimedS a0 b1 (fun r0 => kk (.one (.c (.v (.bool r0)))) []) j xi5) := by
    funext a0 b1 xi5
    refine congrArg Exists (funext fun j => ?_)
    rw [l0_laws_eqTimedS a0 b1 kk j xi5]
  rw [hi0]
  rfl
theorem clok_laws_eqTimedS : ConOK Try.prog cl_laws_eqTimedS := consCons h_laws_eqTimed ⟨Try.f43, Try.func43, by kernel_rfl, ne_of_beq (by kernel_rfl)⟩ (consNil)
theorem cok_laws_eqTimedS : ConsOK Try.prog 27 cs_laws_eqTimedS := ⟨clok_laws_eqTimedS, inlNil, ovNil⟩
theorem i_laws_eqTimedS {vs : List A1} {kk : AV → List A1 → Prop} {motive : List A1 → Prop} (h : con_laws_eqTimedS.F vs kk) (H : ∀ (a0 : List (Int × Int)) (b1 : List (Int × Int)), F_laws_eqTimedS a0 b1 (fun r0 => kk (.one (.c (.v (.bool r0)))) []) → motive [.c (.ro .ii a0), .c (.ro .ii b1)]) : motive vs := by
  unfold con_laws_eqTimedS at h
  dsimp only at h
  split at h
  · exact H _ _ h
  · exact h.elim
theorem h_laws_eqTimedS : Holds Try.prog 25 con_laws_eqTimedS := by
  refine holds_of_ev (rt := [.c .sc]) (T := TT) (Γ := cs_laws_eqTimedS) (an := an_laws_eqTimedS) (N := 27) (c := Try.f25.body.getD .skip) Try.func25 (by kernel_rfl) Try.ntmps25 (by decide) (by decide) mixed tabOK cok_laws_eqTimedS (by kernel_rfl) ?_
  intro vs kk _ hF
  exact i_laws_eqTimedS (motive := fun vs => Goes (ev TT cs_laws_eqTimedS 27 an_laws_eqTimedS (Try.f25.body.getD .skip) (st0 con_laws_eqTimedS vs) (fin TT con_laws_eqTimedS Try.f25.results.toList [.c .sc] vs kk))) hF (fun a0 b1 hF => goes_of (e_laws_eqTimedS a0 b1 kk) (F_laws_eqTimedS_S hF))
def con_laws_markTimedS : Con := ⟨[.mu, .rd], true, [.c (.sl .ii), .c (.sc)], fun vs k => match vs with
    | [.c (.ro .ii a0), .c (.v (.int .i64 k1))] => F_laws_markTimedS a0 k1 (fun r0 r1 => k (.one (.c (.v (.int .i64 r0)))) [.c (.ro .ii r1)])
    | _ => False, false⟩
def cl_laws_markTimedS : List (FuncId × Con) := []
def nm0_laws_markTimedS : List NStep := [.keep [0, 1, 5] [100000]]
def an_laws_markTimedS : Ann := ⟨[], [(2, nm0_laws_markTimedS)], [], []⟩
def cs_laws_markTimedS : Cons := ⟨cl_laws_markTimedS, [], 0, [], [], []⟩
def can0_laws_markTimedS (xk1 : Int) (xi5 : Int) (xy100000 : List (Int × Int)) : St := ⟨[(0, .one (.c (.ow 100000))), (1, .one (.c (.v (.int .i64 xk1)))), (5, .one (.c (.v (.int .i64 xi5))))], [(100000, .row .ii xy100000)]⟩
def fin_laws_markTimedS (a0 : List (Int × Int)) (k1 : Int) (kk : AV → List A1 → Prop) : Kt := fin TT con_laws_markTimedS Try.f26.results.toList [.c .sc] [.c (.ro .ii a0), .c (.v (.int .i64 k1))] kk
def kt0_laws_markTimedS (kf : Kt) : Kt := blockK 0 (seqK (evF TT cs_laws_markTimedS 27 an_laws_markTimedS Try.f26 [1, 1]) (kf))
theorem r0_laws_markTimedS (a0 : List (Int × Int)) (k1 : Int) (kk : AV → List A1 → Prop) (n : Nat) (xk1 : Int) (xi5 : Int) (xy100000 : List (Int × Int)) :
    iter (evF TT cs_laws_markTimedS 27 an_laws_markTimedS Try.f26 [1, 0, 1, 0, 0]) nm0_laws_markTimedS (kt0_laws_markTimedS (fin_laws_markTimedS a0 k1 kk)) (n + 1) (can0_laws_markTimedS xk1 xi5 xy100000) = T0_laws_markTimedS xk1 xi5 xy100000 (fun r0 r1 => kk (.one (.c (.v (.int .i64 r0)))) [.c (.ro .ii r1)]) (fun xk1 xi5 xy100000 => iter (evF TT cs_laws_markTimedS 27 an_laws_markTimedS Try.f26 [1, 0, 1, 0, 0]) nm0_laws_markTimedS (kt0_laws_markTimedS (fin_laws_markTimedS a0 k1 kk)) n (can0_laws_markTimedS xk1 xi5 xy100000)) := by kernel_rfl
theorem l0_laws_markTimedS (a0 : List (Int × Int)) (k1 : Int) (kk : AV → List A1 → Prop) : ∀ (n : Nat) (xk1 : Int) (xi5 : Int) (xy100000 : List (Int × Int)), iter (evF TT cs_laws_markTimedS 27 an_laws_markTimedS Try.f26 [1, 0, 1, 0, 0]) nm0_laws_markTimedS (kt0_laws_markTimedS (fin_laws_markTimedS a0 k1 kk)) n (can0_laws_markTimedS xk1 xi5 xy100000) = L0_laws_markTimedS (fun r0 r1 => kk (.one (.c (.v (.int .i64 r0)))) [.c (.ro .ii r1)]) n xk1 xi5 xy100000 := by
  intro n
  induction n with
  | zero => intros; rfl
  | succ n ih =>
    intro xk1 xi5 xy100000
    rw [r0_laws_markTimedS a0 k1 kk n xk1 xi5 xy100000]
    have hb : (fun xk1 xi5 xy100000 => iter (evF TT cs_laws_markTimedS 27 an_laws_markTimedS Try.f26 [1, 0, 1, 0, 0]) nm0_laws_markTimedS (kt0_laws_markTimedS (fin_laws_markTimedS a0 k1 kk)) n (can0_laws_markTimedS xk1 xi5 xy100000)) = L0_laws_markTimedS (fun r0 r1 => kk (.one (.c (.v (.int .i64 r0)))) [.c (.ro .ii r1)]) n := by
      funext xk1 xi5 xy100000; exact ih xk1 xi5 xy100000
    rw [hb]
    rfl
theorem g_laws_markTimedS (a0 : List (Int × Int)) (k1 : Int) (kk : AV → List A1 → Prop) :
    ev TT cs_laws_markTimedS 27 an_laws_markTimedS (Try.f26.body.getD .skip) (st0 con_laws_markTimedS [.c (.ro .ii a0), .c (.v (.int .i64 k1))]) (fin TT con_laws_markTimedS Try.f26.results.toList [.c .sc] [.c (.ro .ii a0), .c (.v (.int .i64 k1))] kk) = G_laws_markTimedS a0 k1 (fun xk1 xi5 xy100000 => ∃ j, iter (evF TT cs_laws_markTimedS 27 an_laws_markTimedS Try.f26 [1, 0, 1, 0, 0]) nm0_laws_markTimedS (kt0_laws_markTimedS (fin_laws_markTimedS a0 k1 kk)) j (can0_laws_markTimedS xk1 xi5 xy100000)) := by kernel_rfl
theorem e_laws_markTimedS (a0 : List (Int × Int)) (k1 : Int) (kk : AV → List A1 → Prop) :
    ev TT cs_laws_markTimedS 27 an_laws_markTimedS (Try.f26.body.getD .skip) (st0 con_laws_markTimedS [.c (.ro .ii a0), .c (.v (.int .i64 k1))]) (fin TT con_laws_markTimedS Try.f26.results.toList [.c .sc] [.c (.ro .ii a0), .c (.v (.int .i64 k1))] kk) = S_laws_markTimedS a0 k1 (fun r0 r1 => kk (.one (.c (.v (.int .i64 r0)))) [.c (.ro .ii r1)]) := by
  rw [g_laws_markTimedS]
  have hi0 : (fun xk1 xi5 xy100000 => ∃ j, iter (evF TT cs_laws_markTimedS 27 an_laws_markTimedS Try.f26 [1, 0, 1, 0, 0]) nm0_laws_markTimedS (kt0_laws_markTimedS (fin_laws_markTimedS a0 k1 kk)) j (can0_laws_markTimedS xk1 xi5 xy100000)) = (fun xk1 xi5 xy100000 => ∃ j, L0_laws_markTimedS (fun r0 r1 => kk (.one (.c (.v (.int .i64 r0)))) [.c (.ro .ii r1)]) j xk1 xi5 xy100000) := by
    funext xk1 xi5 xy100000
    refine congrArg Exists (funext fun j => ?_)
    rw [l0_laws_markTimedS a0 k1 kk j xk1 xi5 xy100000]
  rw [hi0]
  rfl
theorem clok_laws_markTimedS : ConOK Try.prog cl_laws_markTimedS := consNil
theorem cok_laws_markTimedS : ConsOK Try.prog 27 cs_laws_markTimedS := ⟨clok_laws_markTimedS, inlNil, ovNil⟩
theorem i_laws_markTimedS {vs : List A1} {kk : AV → List A1 → Prop} {motive : List A1 → Prop} (h : con_laws_markTimedS.F vs kk) (H : ∀ (a0 : List (Int × Int)) (k1 : Int), F_laws_markTimedS a0 k1 (fun r0 r1 => kk (.one (.c (.v (.int .i64 r0)))) [.c (.ro .ii r1)]) → motive [.c (.ro .ii a0), .c (.v (.int .i64 k1))]) : motive vs := by
  unfold con_laws_markTimedS at h
  dsimp only at h
  split at h
  · exact H _ _ h
  · exact h.elim
theorem h_laws_markTimedS : Holds Try.prog 26 con_laws_markTimedS := by
  refine holds_of_ev (rt := [.c .sc]) (T := TT) (Γ := cs_laws_markTimedS) (an := an_laws_markTimedS) (N := 27) (c := Try.f26.body.getD .skip) Try.func26 (by kernel_rfl) Try.ntmps26 (by decide) (by decide) mixed tabOK cok_laws_markTimedS (by kernel_rfl) ?_
  intro vs kk _ hF
  exact i_laws_markTimedS (motive := fun vs => Goes (ev TT cs_laws_markTimedS 27 an_laws_markTimedS (Try.f26.body.getD .skip) (st0 con_laws_markTimedS vs) (fin TT con_laws_markTimedS Try.f26.results.toList [.c .sc] vs kk))) hF (fun a0 k1 hF => goes_of (e_laws_markTimedS a0 k1 kk) (F_laws_markTimedS_S hF))
def con_impl_WheelOf : Con := ⟨[.rd], false, [.c (.sl .ii)], fun vs k => match vs with
    | [.c (.ro .ii list0)] => F_impl_WheelOf list0 (fun r0 => k (.one (.c (.rol .int r0))) [])
    | _ => False, false⟩
def cl_impl_WheelOf : List (FuncId × Con) := [(42, con_impl_ValidTimed)]
def nm0_impl_WheelOf : List NStep := [.ownc 160 0 .int 90000, .ownc 160 1 .int 90001, .ownc 160 2 .int 90002, .ownc 160 3 .int 90003, .ownc 160 4 .int 90004, .ownc 160 5 .int 90005, .ownc 160 6 .int 90006, .ownc 160 7 .int 90007, .keep [3, 11, 12, 13] [160, 90000, 90001, 90002, 90003, 90004, 90005, 90006, 90007]]
def an_impl_WheelOf : Ann := ⟨[(8, .take 0 (.take 1 (.take 2 (.take 3 (.take 4 (.take 6 (.take 7 (.alt 5 (.alt 8 (.alt 9 (.take 10 (.alt 11 (.done) (.none))) (.none)) (.none)) (.alt 8 (.alt 5 (.alt 9 (.take 10 (.alt 11 (.done) (.none))) (.none)) (.none)) (.none))))))))), [80])], [(5, nm0_impl_WheelOf)], [], [(8, .sp 6 8), (10, .fz 3)]⟩
def cs_impl_WheelOf : Cons := ⟨cl_impl_WheelOf, [], 0, [], [], []⟩
def can0_impl_WheelOf (list0 : List (Int × Int)) (xt12 : Int) (xt13 : Int) (xb10c0 : List Int) (xb10c1 : List Int) (xb10c2 : List Int) (xb10c3 : List Int) (xb10c4 : List Int) (xb10c5 : List Int) (xb10c6 : List Int) (xb10c7 : List Int) : St := ⟨[(3, .one (.c (.sb 160 8))), (11, .one (.c (.ro .ii list0))), (12, .one (.c (.v (.int .i64 xt12)))), (13, .one (.c (.v (.int .i64 xt13))))], [(160, .box [.ow 90000, .ow 90001, .ow 90002, .ow 90003, .ow 90004, .ow 90005, .ow 90006, .ow 90007]), (90000, .row .int xb10c0), (90001, .row .int xb10c1), (90002, .row .int xb10c2), (90003, .row .int xb10c3), (90004, .row .int xb10c4), (90005, .row .int xb10c5), (90006, .row .int xb10c6), (90007, .row .int xb10c7)]⟩
def fin_impl_WheelOf (list0 : List (Int × Int)) (kk : AV → List A1 → Prop) : Kt := fin TT con_impl_WheelOf Try.f23.results.toList [.c (.sll .int)] [.c (.ro .ii list0)] kk
def kt0_impl_WheelOf (kf : Kt) : Kt := blockK 0 (seqK (evF TT cs_impl_WheelOf 34 an_impl_WheelOf Try.f23 [1, 1, 1, 1]) (kf))
theorem r0_impl_WheelOf (list0 : List (Int × Int)) (xt12 : Int) (kk : AV → List A1 → Prop) (n : Nat) (xt13 : Int) (xb10c0 : List Int) (xb10c1 : List Int) (xb10c2 : List Int) (xb10c3 : List Int) (xb10c4 : List Int) (xb10c5 : List Int) (xb10c6 : List Int) (xb10c7 : List Int) :
    iter (evF TT cs_impl_WheelOf 34 an_impl_WheelOf Try.f23 [1, 1, 1, 0, 1, 0, 0]) nm0_impl_WheelOf (kt0_impl_WheelOf (fin_impl_WheelOf list0 kk)) (n + 1) (can0_impl_WheelOf list0 xt12 xt13 xb10c0 xb10c1 xb10c2 xb10c3 xb10c4 xb10c5 xb10c6 xb10c7) = T0_impl_WheelOf list0 xt12 xt13 xb10c0 xb10c1 xb10c2 xb10c3 xb10c4 xb10c5 xb10c6 xb10c7 (fun r0 => kk (.one (.c (.rol .int r0))) []) (fun xt13 xb10c0 xb10c1 xb10c2 xb10c3 xb10c4 xb10c5 xb10c6 xb10c7 => iter (evF TT cs_impl_WheelOf 34 an_impl_WheelOf Try.f23 [1, 1, 1, 0, 1, 0, 0]) nm0_impl_WheelOf (kt0_impl_WheelOf (fin_impl_WheelOf list0 kk)) n (can0_impl_WheelOf list0 xt12 xt13 xb10c0 xb10c1 xb10c2 xb10c3 xb10c4 xb10c5 xb10c6 xb10c7)) := by kernel_rfl
theorem l0_impl_WheelOf (list0 : List (Int × Int)) (xt12 : Int) (kk : AV → List A1 → Prop) : ∀ (n : Nat) (xt13 : Int) (xb10c0 : List Int) (xb10c1 : List Int) (xb10c2 : List Int) (xb10c3 : List Int) (xb10c4 : List Int) (xb10c5 : List Int) (xb10c6 : List Int) (xb10c7 : List Int), iter (evF TT cs_impl_WheelOf 34 an_impl_WheelOf Try.f23 [1, 1, 1, 0, 1, 0, 0]) nm0_impl_WheelOf (kt0_impl_WheelOf (fin_impl_WheelOf list0 kk)) n (can0_impl_WheelOf list0 xt12 xt13 xb10c0 xb10c1 xb10c2 xb10c3 xb10c4 xb10c5 xb10c6 xb10c7) = L0_impl_WheelOf list0 xt12 (fun r0 => kk (.one (.c (.rol .int r0))) []) n xt13 xb10c0 xb10c1 xb10c2 xb10c3 xb10c4 xb10c5 xb10c6 xb10c7 := by
  intro n
  induction n with
  | zero => intros; rfl
  | succ n ih =>
    intro xt13 xb10c0 xb10c1 xb10c2 xb10c3 xb10c4 xb10c5 xb10c6 xb10c7
    rw [r0_impl_WheelOf list0 xt12 kk n xt13 xb10c0 xb10c1 xb10c2 xb10c3 xb10c4 xb10c5 xb10c6 xb10c7]
    have hb : (fun xt13 xb10c0 xb10c1 xb10c2 xb10c3 xb10c4 xb10c5 xb10c6 xb10c7 => iter (evF TT cs_impl_WheelOf 34 an_impl_WheelOf Try.f23 [1, 1, 1, 0, 1, 0, 0]) nm0_impl_WheelOf (kt0_impl_WheelOf (fin_impl_WheelOf list0 kk)) n (can0_impl_WheelOf list0 xt12 xt13 xb10c0 xb10c1 xb10c2 xb10c3 xb10c4 xb10c5 xb10c6 xb10c7)) = L0_impl_WheelOf list0 xt12 (fun r0 => kk (.one (.c (.rol .int r0))) []) n := by
      funext xt13 xb10c0 xb10c1 xb10c2 xb10c3 xb10c4 xb10c5 xb10c6 xb10c7; exact ih xt13 xb10c0 xb10c1 xb10c2 xb10c3 xb10c4 xb10c5 xb10c6 xb10c7
    rw [hb]
    rw [T0_impl_WheelOf_eq]
    rfl
theorem g_impl_WheelOf (list0 : List (Int × Int)) (kk : AV → List A1 → Prop) :
    ev TT cs_impl_WheelOf 34 an_impl_WheelOf (Try.f23.body.getD .skip) (st0 con_impl_WheelOf [.c (.ro .ii list0)]) (fin TT con_impl_WheelOf Try.f23.results.toList [.c (.sll .int)] [.c (.ro .ii list0)] kk) = G_impl_WheelOf list0 (fun r0 => kk (.one (.c (.rol .int r0))) []) (fun list0 xt12 xt13 xb10c0 xb10c1 xb10c2 xb10c3 xb10c4 xb10c5 xb10c6 xb10c7 => ∃ j, iter (evF TT cs_impl_WheelOf 34 an_impl_WheelOf Try.f23 [1, 1, 1, 0, 1, 0, 0]) nm0_impl_WheelOf (kt0_impl_WheelOf (fin_impl_WheelOf list0 kk)) j (can0_impl_WheelOf list0 xt12 xt13 xb10c0 xb10c1 xb10c2 xb10c3 xb10c4 xb10c5 xb10c6 xb10c7)) := by kernel_rfl
theorem e_impl_WheelOf (list0 : List (Int × Int)) (kk : AV → List A1 → Prop) :
    ev TT cs_impl_WheelOf 34 an_impl_WheelOf (Try.f23.body.getD .skip) (st0 con_impl_WheelOf [.c (.ro .ii list0)]) (fin TT con_impl_WheelOf Try.f23.results.toList [.c (.sll .int)] [.c (.ro .ii list0)] kk) = S_impl_WheelOf list0 (fun r0 => kk (.one (.c (.rol .int r0))) []) := by
  rw [g_impl_WheelOf]
  have hi0 : (fun list0 xt12 xt13 xb10c0 xb10c1 xb10c2 xb10c3 xb10c4 xb10c5 xb10c6 xb10c7 => ∃ j, iter (evF TT cs_impl_WheelOf 34 an_impl_WheelOf Try.f23 [1, 1, 1, 0, 1, 0, 0]) nm0_impl_WheelOf (kt0_impl_WheelOf (fin_impl_WheelOf list0 kk)) j (can0_impl_WheelOf list0 xt12 xt13 xb10c0 xb10c1 xb10c2 xb10c3 xb10c4 xb10c5 xb10c6 xb10c7)) = (fun list0 xt12 xt13 xb10c0 xb10c1 xb10c2 xb10c3 xb10c4 xb10c5 xb10c6 xb10c7 => ∃ j, L0_impl_WheelOf list0 xt12 (fun r0 => kk (.one (.c (.rol .int r0))) []) j xt13 xb10c0 xb10c1 xb10c2 xb10c3 xb10c4 xb10c5 xb10c6 xb10c7) := by
    funext list0 xt12 xt13 xb10c0 xb10c1 xb10c2 xb10c3 xb10c4 xb10c5 xb10c6 xb10c7
    refine congrArg Exists (funext fun j => ?_)
    rw [l0_impl_WheelOf list0 xt12 kk j xt13 xb10c0 xb10c1 xb10c2 xb10c3 xb10c4 xb10c5 xb10c6 xb10c7]
  rw [hi0]
  rfl
theorem clok_impl_WheelOf : ConOK Try.prog cl_impl_WheelOf := consCons h_impl_ValidTimed ⟨Try.f42, Try.func42, by kernel_rfl, ne_of_beq (by kernel_rfl)⟩ (consNil)
theorem cok_impl_WheelOf : ConsOK Try.prog 34 cs_impl_WheelOf := ⟨clok_impl_WheelOf, inlNil, ovNil⟩
theorem i_impl_WheelOf {vs : List A1} {kk : AV → List A1 → Prop} {motive : List A1 → Prop} (h : con_impl_WheelOf.F vs kk) (H : ∀ (list0 : List (Int × Int)), F_impl_WheelOf list0 (fun r0 => kk (.one (.c (.rol .int r0))) []) → motive [.c (.ro .ii list0)]) : motive vs := by
  unfold con_impl_WheelOf at h
  dsimp only at h
  split at h
  · exact H _ h
  · exact h.elim
theorem h_impl_WheelOf : Holds Try.prog 23 con_impl_WheelOf := by
  refine holds_of_ev (rt := [.c (.sll .int)]) (T := TT) (Γ := cs_impl_WheelOf) (an := an_impl_WheelOf) (N := 34) (c := Try.f23.body.getD .skip) Try.func23 (by kernel_rfl) Try.ntmps23 (by decide) (by decide) mixed tabOK cok_impl_WheelOf (by kernel_rfl) ?_
  intro vs kk _ hF
  exact i_impl_WheelOf (motive := fun vs => Goes (ev TT cs_impl_WheelOf 34 an_impl_WheelOf (Try.f23.body.getD .skip) (st0 con_impl_WheelOf vs) (fin TT con_impl_WheelOf Try.f23.results.toList [.c (.sll .int)] vs kk))) hF (fun list0 hF => goes_of (e_impl_WheelOf list0 kk) (F_impl_WheelOf_S hF))
def con_laws_eqIntS : Con := ⟨[.rd, .rd], true, [.c (.sl .int), .c (.sl .int)], fun vs k => match vs with
    | [.c (.ro .int a0), .c (.ro .int b1)] => F_laws_eqIntS a0 b1 (fun r0 => k (.one (.c (.v (.bool r0)))) [])
    | _ => False, false⟩
def cl_laws_eqIntS : List (FuncId × Con) := []
def nm0_laws_eqIntS : List NStep := [.keep [0, 1, 5] []]
def an_laws_eqIntS : Ann := ⟨[(6, .take 0 (.take 1 (.take 2 (.take 3 (.take 4 (.take 5 (.take 6 (.take 7 (.take 8 (.done))))))))), [])], [(4, nm0_laws_eqIntS)], [], []⟩
def cs_laws_eqIntS : Cons := ⟨cl_laws_eqIntS, [], 0, [], [], []⟩
def can0_laws_eqIntS (a0 : List Int) (b1 : List Int) (xi5 : Int) : St := ⟨[(0, .one (.c (.ro .int a0))), (1, .one (.c (.ro .int b1))), (5, .one (.c (.v (.int .i64 xi5))))], []⟩
def fin_laws_eqIntS (a0 : List Int) (b1 : List Int) (kk : AV → List A1 → Prop) : Kt := fin TT con_laws_eqIntS Try.f19.results.toList [.c .sc] [.c (.ro .int a0), .c (.ro .int b1)] kk
def kt0_laws_eqIntS (kf : Kt) : Kt := blockK 0 (seqK (evF TT cs_laws_eqIntS 26 an_laws_eqIntS Try.f19 [1, 1, 1]) (kf))
theorem r0_laws_eqIntS (a0 : List Int) (b1 : List Int) (kk : AV → List A1 → Prop) (n : Nat) (xi5 : Int) :
    iter (evF TT cs_laws_eqIntS 26 an_laws_eqIntS Try.f19 [1, 1, 0, 1, 0, 0]) nm0_laws_eqIntS (kt0_laws_eqIntS (fin_laws_eqIntS a0 b1 kk)) (n + 1) (can0_laws_eqIntS a0 b1 xi5) = T0_laws_eqIntS a0 b1 xi5 (fun r0 => kk (.one (.c (.v (.bool r0)))) []) (fun xi5 => iter (evF TT cs_laws_eqIntS 26 an_laws_eqIntS Try.f19 [1, 1, 0, 1, 0, 0]) nm0_laws_eqIntS (kt0_laws_eqIntS (fin_laws_eqIntS a0 b1 kk)) n (can0_laws_eqIntS a0 b1 xi5)) := by kernel_rfl
theorem l0_laws_eqIntS (a0 : List Int) (b1 : List Int) (kk : AV → List A1 → Prop) : ∀ (n : Nat) (xi5 : Int), iter (evF TT cs_laws_eqIntS 26 an_laws_eqIntS Try.f19 [1, 1, 0, 1, 0, 0]) nm0_laws_eqIntS (kt0_laws_eqIntS (fin_laws_eqIntS a0 b1 kk)) n (can0_laws_eqIntS a0 b1 xi5) = L0_laws_eqIntS a0 b1 (fun r0 => kk (.one (.c (.v (.bool r0)))) []) n xi5 := by
  intro n
  induction n with
  | zero => intros; rfl
  | succ n ih =>
    intro xi5
    rw [r0_laws_eqIntS a0 b1 kk n xi5]
    have hb : (fun xi5 => iter (evF TT cs_laws_eqIntS 26 an_laws_eqIntS Try.f19 [1, 1, 0, 1, 0, 0]) nm0_laws_eqIntS (kt0_laws_eqIntS (fin_laws_eqIntS a0 b1 kk)) n (can0_laws_eqIntS a0 b1 xi5)) = L0_laws_eqIntS a0 b1 (fun r0 => kk (.one (.c (.v (.bool r0)))) []) n := by
      funext xi5; exact ih xi5
    rw [hb]
    rfl
theorem g_laws_eqIntS (a0 : List Int) (b1 : List Int) (kk : AV → List A1 → Prop) :
    ev TT cs_laws_eqIntS 26 an_laws_eqIntS (Try.f19.body.getD .skip) (st0 con_laws_eqIntS [.c (.ro .int a0), .c (.ro .int b1)]) (fin TT con_laws_eqIntS Try.f19.results.toList [.c .sc] [.c (.ro .int a0), .c (.ro .int b1)] kk) = G_laws_eqIntS a0 b1 (fun r0 => kk (.one (.c (.v (.bool r0)))) []) (fun a0 b1 xi5 => ∃ j, iter (evF TT cs_laws_eqIntS 26 an_laws_eqIntS Try.f19 [1, 1, 0, 1, 0, 0]) nm0_laws_eqIntS (kt0_laws_eqIntS (fin_laws_eqIntS a0 b1 kk)) j (can0_laws_eqIntS a0 b1 xi5)) := by kernel_rfl
theorem e_laws_eqIntS (a0 : List Int) (b1 : List Int) (kk : AV → List A1 → Prop) :
    ev TT cs_laws_eqIntS 26 an_laws_eqIntS (Try.f19.body.getD .skip) (st0 con_laws_eqIntS [.c (.ro .int a0), .c (.ro .int b1)]) (fin TT con_laws_eqIntS Try.f19.results.toList [.c .sc] [.c (.ro .int a0), .c (.ro .int b1)] kk) = S_laws_eqIntS a0 b1 (fun r0 => kk (.one (.c (.v (.bool r0)))) []) := by
  rw [g_laws_eqIntS]
  have hi0 : (fun a0 b1 xi5 => ∃ j, iter (evF TT cs_laws_eqIntS 26 an_laws_eqIntS Try.f19 [1, 1, 0, 1, 0, 0]) nm0_laws_eqIntS (kt0_laws_eqIntS (fin_laws_eqIntS a0 b1 kk)) j (can0_laws_eqIntS a0 b1 xi5)) = (fun a0 b1 xi5 => ∃ j, L0_laws_eqIntS a0 b1 (fun r0 => kk (.one (.c (.v (.bool r0)))) []) j xi5) := by
    funext a0 b1 xi5
    refine congrArg Exists (funext fun j => ?_)
    rw [l0_laws_eqIntS a0 b1 kk j xi5]
  rw [hi0]
  rfl
theorem clok_laws_eqIntS : ConOK Try.prog cl_laws_eqIntS := consNil
theorem cok_laws_eqIntS : ConsOK Try.prog 26 cs_laws_eqIntS := ⟨clok_laws_eqIntS, inlNil, ovNil⟩
theorem i_laws_eqIntS {vs : List A1} {kk : AV → List A1 → Prop} {motive : List A1 → Prop} (h : con_laws_eqIntS.F vs kk) (H : ∀ (a0 : List Int) (b1 : List Int), F_laws_eqIntS a0 b1 (fun r0 => kk (.one (.c (.v (.bool r0)))) []) → motive [.c (.ro .int a0), .c (.ro .int b1)]) : motive vs := by
  unfold con_laws_eqIntS at h
  dsimp only at h
  split at h
  · exact H _ _ h
  · exact h.elim
theorem h_laws_eqIntS : Holds Try.prog 19 con_laws_eqIntS := by
  refine holds_of_ev (rt := [.c .sc]) (T := TT) (Γ := cs_laws_eqIntS) (an := an_laws_eqIntS) (N := 26) (c := Try.f19.body.getD .skip) Try.func19 (by kernel_rfl) Try.ntmps19 (by decide) (by decide) mixed tabOK cok_laws_eqIntS (by kernel_rfl) ?_
  intro vs kk _ hF
  exact i_laws_eqIntS (motive := fun vs => Goes (ev TT cs_laws_eqIntS 26 an_laws_eqIntS (Try.f19.body.getD .skip) (st0 con_laws_eqIntS vs) (fin TT con_laws_eqIntS Try.f19.results.toList [.c .sc] vs kk))) hF (fun a0 b1 hF => goes_of (e_laws_eqIntS a0 b1 kk) (F_laws_eqIntS_S hF))
def con_laws_eqIntSS : Con := ⟨[.rd, .rd], true, [.c (.sll .int), .c (.sll .int)], fun vs k => match vs with
    | [.c (.rol .int a0), .c (.rol .int b1)] => F_laws_eqIntSS a0 b1 (fun r0 => k (.one (.c (.v (.bool r0)))) [])
    | _ => False, false⟩
def cl_laws_eqIntSS : List (FuncId × Con) := [(19, con_laws_eqIntS)]
def nm0_laws_eqIntSS : List NStep := [.keep [0, 1, 5] []]
def an_laws_eqIntSS : Ann := ⟨[(6, .take 0 (.take 1 (.take 2 (.take 3 (.take 4 (.take 5 (.take 6 (.take 7 (.alt 8 (.take 9 (.done)) (.none))))))))), [])], [(4, nm0_laws_eqIntSS)], [], []⟩
def cs_laws_eqIntSS : Cons := ⟨cl_laws_eqIntSS, [], 0, [], [], []⟩
def can0_laws_eqIntSS (a0 : List (List Int)) (b1 : List (List Int)) (xi5 : Int) : St := ⟨[(0, .one (.c (.rol .int a0))), (1, .one (.c (.rol .int b1))), (5, .one (.c (.v (.int .i64 xi5))))], []⟩
def fin_laws_eqIntSS (a0 : List (List Int)) (b1 : List (List Int)) (kk : AV → List A1 → Prop) : Kt := fin TT con_laws_eqIntSS Try.f24.results.toList [.c .sc] [.c (.rol .int a0), .c (.rol .int b1)] kk
def kt0_laws_eqIntSS (kf : Kt) : Kt := blockK 0 (seqK (evF TT cs_laws_eqIntSS 27 an_laws_eqIntSS Try.f24 [1, 1, 1]) (kf))
theorem r0_laws_eqIntSS (a0 : List (List Int)) (b1 : List (List Int)) (kk : AV → List A1 → Prop) (n : Nat) (xi5 : Int) :
    iter (evF TT cs_laws_eqIntSS 27 an_laws_eqIntSS Try.f24 [1, 1, 0, 1, 0, 0]) nm0_laws_eqIntSS (kt0_laws_eqIntSS (fin_laws_eqIntSS a0 b1 kk)) (n + 1) (can0_laws_eqIntSS a0 b1 xi5) = T0_laws_eqIntSS a0 b1 xi5 (fun r0 => kk (.one (.c (.v (.bool r0)))) []) (fun xi5 => iter (evF TT cs_laws_eqIntSS 27 an_laws_eqIntSS Try.f24 [1, 1, 0, 1, 0, 0]) nm0_laws_eqIntSS (kt0_laws_eqIntSS (fin_laws_eqIntSS a0 b1 kk)) n (can0_laws_eqIntSS a0 b1 xi5)) := by kernel_rfl
theorem l0_laws_eqIntSS (a0 : List (List Int)) (b1 : List (List Int)) (kk : AV → List A1 → Prop) : ∀ (n : Nat) (xi5 : Int), iter (evF TT cs_laws_eqIntSS 27 an_laws_eqIntSS Try.f24 [1, 1, 0, 1, 0, 0]) nm0_laws_eqIntSS (kt0_laws_eqIntSS (fin_laws_eqIntSS a0 b1 kk)) n (can0_laws_eqIntSS a0 b1 xi5) = L0_laws_eqIntSS a0 b1 (fun r0 => kk (.one (.c (.v (.bool r0)))) []) n xi5 := by
  intro n
  induction n with
  | zero => intros; rfl
  | succ n ih =>
    intro xi5
    rw [r0_laws_eqIntSS a0 b1 kk n xi5]
    have hb : (fun xi5 => iter (evF TT cs_laws_eqIntSS 27 an_laws_eqIntSS Try.f24 [1, 1, 0, 1, 0, 0]) nm0_laws_eqIntSS (kt0_laws_eqIntSS (fin_laws_eqIntSS a0 b1 kk)) n (can0_laws_eqIntSS a0 b1 xi5)) = L0_laws_eqIntSS a0 b1 (fun r0 => kk (.one (.c (.v (.bool r0)))) []) n := by
      funext xi5; exact ih xi5
    rw [hb]
    rw [T0_laws_eqIntSS_eq]
    rfl
theorem g_laws_eqIntSS (a0 : List (List Int)) (b1 : List (List Int)) (kk : AV → List A1 → Prop) :
    ev TT cs_laws_eqIntSS 27 an_laws_eqIntSS (Try.f24.body.getD .skip) (st0 con_laws_eqIntSS [.c (.rol .int a0), .c (.rol .int b1)]) (fin TT con_laws_eqIntSS Try.f24.results.toList [.c .sc] [.c (.rol .int a0), .c (.rol .int b1)] kk) = G_laws_eqIntSS a0 b1 (fun r0 => kk (.one (.c (.v (.bool r0)))) []) (fun a0 b1 xi5 => ∃ j, iter (evF TT cs_laws_eqIntSS 27 an_laws_eqIntSS Try.f24 [1, 1, 0, 1, 0, 0]) nm0_laws_eqIntSS (kt0_laws_eqIntSS (fin_laws_eqIntSS a0 b1 kk)) j (can0_laws_eqIntSS a0 b1 xi5)) := by kernel_rfl
theorem e_laws_eqIntSS (a0 : List (List Int)) (b1 : List (List Int)) (kk : AV → List A1 → Prop) :
    ev TT cs_laws_eqIntSS 27 an_laws_eqIntSS (Try.f24.body.getD .skip) (st0 con_laws_eqIntSS [.c (.rol .int a0), .c (.rol .int b1)]) (fin TT con_laws_eqIntSS Try.f24.results.toList [.c .sc] [.c (.rol .int a0), .c (.rol .int b1)] kk) = S_laws_eqIntSS a0 b1 (fun r0 => kk (.one (.c (.v (.bool r0)))) []) := by
  rw [g_laws_eqIntSS]
  have hi0 : (fun a0 b1 xi5 => ∃ j, iter (evF TT cs_laws_eqIntSS 27 an_laws_eqIntSS Try.f24 [1, 1, 0, 1, 0, 0]) nm0_laws_eqIntSS (kt0_laws_eqIntSS (fin_laws_eqIntSS a0 b1 kk)) j (can0_laws_eqIntSS a0 b1 xi5)) = (fun a0 b1 xi5 => ∃ j, L0_laws_eqIntSS a0 b1 (fun r0 => kk (.one (.c (.v (.bool r0)))) []) j xi5) := by
    funext a0 b1 xi5
    refine congrArg Exists (funext fun j => ?_)
    rw [l0_laws_eqIntSS a0 b1 kk j xi5]
  rw [hi0]
  rfl
theorem clok_laws_eqIntSS : ConOK Try.prog cl_laws_eqIntSS := consCons h_laws_eqIntS ⟨Try.f19, Try.func19, by kernel_rfl, ne_of_beq (by kernel_rfl)⟩ (consNil)
theorem cok_laws_eqIntSS : ConsOK Try.prog 27 cs_laws_eqIntSS := ⟨clok_laws_eqIntSS, inlNil, ovNil⟩
theorem i_laws_eqIntSS {vs : List A1} {kk : AV → List A1 → Prop} {motive : List A1 → Prop} (h : con_laws_eqIntSS.F vs kk) (H : ∀ (a0 : List (List Int)) (b1 : List (List Int)), F_laws_eqIntSS a0 b1 (fun r0 => kk (.one (.c (.v (.bool r0)))) []) → motive [.c (.rol .int a0), .c (.rol .int b1)]) : motive vs := by
  unfold con_laws_eqIntSS at h
  dsimp only at h
  split at h
  · exact H _ _ h
  · exact h.elim
theorem h_laws_eqIntSS : Holds Try.prog 24 con_laws_eqIntSS := by
  refine holds_of_ev (rt := [.c .sc]) (T := TT) (Γ := cs_laws_eqIntSS) (an := an_laws_eqIntSS) (N := 27) (c := Try.f24.body.getD .skip) Try.func24 (by kernel_rfl) Try.ntmps24 (by decide) (by decide) mixed tabOK cok_laws_eqIntSS (by kernel_rfl) ?_
  intro vs kk _ hF
  exact i_laws_eqIntSS (motive := fun vs => Goes (ev TT cs_laws_eqIntSS 27 an_laws_eqIntSS (Try.f24.body.getD .skip) (st0 con_laws_eqIntSS vs) (fin TT con_laws_eqIntSS Try.f24.results.toList [.c .sc] vs kk))) hF (fun a0 b1 hF => goes_of (e_laws_eqIntSS a0 b1 kk) (F_laws_eqIntSS_S hF))
def con_laws_markIntS : Con := ⟨[.mu, .rd], true, [.c (.sl .int), .c (.sc)], fun vs k => match vs with
    | [.c (.ro .int a0), .c (.v (.int .i64 k1))] => F_laws_markIntS a0 k1 (fun r0 r1 => k (.one (.c (.v (.int .i64 r0)))) [.c (.ro .int r1)])
    | _ => False, false⟩
def cl_laws_markIntS : List (FuncId × Con) := []
def nm0_laws_markIntS : List NStep := [.keep [0, 1, 5] [100000]]
def an_laws_markIntS : Ann := ⟨[], [(2, nm0_laws_markIntS)], [], []⟩
def cs_laws_markIntS : Cons := ⟨cl_laws_markIntS, [], 0, [], [], []⟩
def can0_laws_markIntS (xk1 : Int) (xi5 : Int) (xy100000 : List Int) : St := ⟨[(0, .one (.c (.ow 100000))), (1, .one (.c (.v (.int .i64 xk1)))), (5, .one (.c (.v (.int .i64 xi5))))], [(100000, .row .int xy100000)]⟩
def fin_laws_markIntS (a0 : List Int) (k1 : Int) (kk : AV → List A1 → Prop) : Kt := fin TT con_laws_markIntS Try.f44.results.toList [.c .sc] [.c (.ro .int a0), .c (.v (.int .i64 k1))] kk
def kt0_laws_markIntS (kf : Kt) : Kt := blockK 0 (seqK (evF TT cs_laws_markIntS 19 an_laws_markIntS Try.f44 [1, 1]) (kf))
theorem r0_laws_markIntS (a0 : List Int) (k1 : Int) (kk : AV → List A1 → Prop) (n : Nat) (xk1 : Int) (xi5 : Int) (xy100000 : List Int) :
    iter (evF TT cs_laws_markIntS 19 an_laws_markIntS Try.f44 [1, 0, 1, 0, 0]) nm0_laws_markIntS (kt0_laws_markIntS (fin_laws_markIntS a0 k1 kk)) (n + 1) (can0_laws_markIntS xk1 xi5 xy100000) = T0_laws_markIntS xk1 xi5 xy100000 (fun r0 r1 => kk (.one (.c (.v (.int .i64 r0)))) [.c (.ro .int r1)]) (fun xk1 xi5 xy100000 => iter (evF TT cs_laws_markIntS 19 an_laws_markIntS Try.f44 [1, 0, 1, 0, 0]) nm0_laws_markIntS (kt0_laws_markIntS (fin_laws_markIntS a0 k1 kk)) n (can0_laws_markIntS xk1 xi5 xy100000)) := by kernel_rfl
theorem l0_laws_markIntS (a0 : List Int) (k1 : Int) (kk : AV → List A1 → Prop) : ∀ (n : Nat) (xk1 : Int) (xi5 : Int) (xy100000 : List Int), iter (evF TT cs_laws_markIntS 19 an_laws_markIntS Try.f44 [1, 0, 1, 0, 0]) nm0_laws_markIntS (kt0_laws_markIntS (fin_laws_markIntS a0 k1 kk)) n (can0_laws_markIntS xk1 xi5 xy100000) = L0_laws_markIntS (fun r0 r1 => kk (.one (.c (.v (.int .i64 r0)))) [.c (.ro .int r1)]) n xk1 xi5 xy100000 := by
  intro n
  induction n with
  | zero => intros; rfl
  | succ n ih =>
    intro xk1 xi5 xy100000
    rw [r0_laws_markIntS a0 k1 kk n xk1 xi5 xy100000]
    have hb : (fun xk1 xi5 xy100000 => iter (evF TT cs_laws_markIntS 19 an_laws_markIntS Try.f44 [1, 0, 1, 0, 0]) nm0_laws_markIntS (kt0_laws_markIntS (fin_laws_markIntS a0 k1 kk)) n (can0_laws_markIntS xk1 xi5 xy100000)) = L0_laws_markIntS (fun r0 r1 => kk (.one (.c (.v (.int .i64 r0)))) [.c (.ro .int r1)]) n := by
      funext xk1 xi5 xy100000; exact ih xk1 xi5 xy100000
    rw [hb]
    rfl
theorem g_laws_markIntS (a0 : List Int) (k1 : Int) (kk : AV → List A1 → Prop) :
    ev TT cs_laws_markIntS 19 an_laws_markIntS (Try.f44.body.getD .skip) (st0 con_laws_markIntS [.c (.ro .int a0), .c (.v (.int .i64 k1))]) (fin TT con_laws_markIntS Try.f44.results.toList [.c .sc] [.c (.ro .int a0), .c (.v (.int .i64 k1))] kk) = G_laws_markIntS a0 k1 (fun xk1 xi5 xy100000 => ∃ j, iter (evF TT cs_laws_markIntS 19 an_laws_markIntS Try.f44 [1, 0, 1, 0, 0]) nm0_laws_markIntS (kt0_laws_markIntS (fin_laws_markIntS a0 k1 kk)) j (can0_laws_markIntS xk1 xi5 xy100000)) := by kernel_rfl
theorem e_laws_markIntS (a0 : List Int) (k1 : Int) (kk : AV → List A1 → Prop) :
    ev TT cs_laws_markIntS 19 an_laws_markIntS (Try.f44.body.getD .skip) (st0 con_laws_markIntS [.c (.ro .int a0), .c (.v (.int .i64 k1))]) (fin TT con_laws_markIntS Try.f44.results.toList [.c .sc] [.c (.ro .int a0), .c (.v (.int .i64 k1))] kk) = S_laws_markIntS a0 k1 (fun r0 r1 => kk (.one (.c (.v (.int .i64 r0)))) [.c (.ro .int r1)]) := by
  rw [g_laws_markIntS]
  have hi0 : (fun xk1 xi5 xy100000 => ∃ j, iter (evF TT cs_laws_markIntS 19 an_laws_markIntS Try.f44 [1, 0, 1, 0, 0]) nm0_laws_markIntS (kt0_laws_markIntS (fin_laws_markIntS a0 k1 kk)) j (can0_laws_markIntS xk1 xi5 xy100000)) = (fun xk1 xi5 xy100000 => ∃ j, L0_laws_markIntS (fun r0 r1 => kk (.one (.c (.v (.int .i64 r0)))) [.c (.ro .int r1)]) j xk1 xi5 xy100000) := by
    funext xk1 xi5 xy100000
    refine congrArg Exists (funext fun j => ?_)
    rw [l0_laws_markIntS a0 k1 kk j xk1 xi5 xy100000]
  rw [hi0]
  rfl
theorem clok_laws_markIntS : ConOK Try.prog cl_laws_markIntS := consNil
theorem cok_laws_markIntS : ConsOK Try.prog 19 cs_laws_markIntS := ⟨clok_laws_markIntS, inlNil, ovNil⟩
theorem i_laws_markIntS {vs : List A1} {kk : AV → List A1 → Prop} {motive : List A1 → Prop} (h : con_laws_markIntS.F vs kk) (H : ∀ (a0 : List Int) (k1 : Int), F_laws_markIntS a0 k1 (fun r0 r1 => kk (.one (.c (.v (.int .i64 r0)))) [.c (.ro .int r1)]) → motive [.c (.ro .int a0), .c (.v (.int .i64 k1))]) : motive vs := by
  unfold con_laws_markIntS at h
  dsimp only at h
  split at h
  · exact H _ _ h
  · exact h.elim
theorem h_laws_markIntS : Holds Try.prog 44 con_laws_markIntS := by
  refine holds_of_ev (rt := [.c .sc]) (T := TT) (Γ := cs_laws_markIntS) (an := an_laws_markIntS) (N := 19) (c := Try.f44.body.getD .skip) Try.func44 (by kernel_rfl) Try.ntmps44 (by decide) (by decide) mixed tabOK cok_laws_markIntS (by kernel_rfl) ?_
  intro vs kk _ hF
  exact i_laws_markIntS (motive := fun vs => Goes (ev TT cs_laws_markIntS 19 an_laws_markIntS (Try.f44.body.getD .skip) (st0 con_laws_markIntS vs) (fin TT con_laws_markIntS Try.f44.results.toList [.c .sc] vs kk))) hF (fun a0 k1 hF => goes_of (e_laws_markIntS a0 k1 kk) (F_laws_markIntS_S hF))
def con_laws_heldIntS : Con := ⟨[.rd, .rd], true, [.c (.sl .int), .c (.sc)], fun vs k => match vs with
    | [.c (.ro .int a0), .c (.v (.int .i64 k1))] => F_laws_heldIntS a0 k1 (fun r0 => k (.one (.c (.v (.int .i64 r0)))) [])
    | _ => False, false⟩
def cl_laws_heldIntS : List (FuncId × Con) := []
def nm0_laws_heldIntS : List NStep := [.keep [0, 1, 5] []]
def an_laws_heldIntS : Ann := ⟨[], [(2, nm0_laws_heldIntS)], [], []⟩
def cs_laws_heldIntS : Cons := ⟨cl_laws_heldIntS, [], 0, [], [], []⟩
def can0_laws_heldIntS (a0 : List Int) (xk1 : Int) (xi5 : Int) : St := ⟨[(0, .one (.c (.ro .int a0))), (1, .one (.c (.v (.int .i64 xk1)))), (5, .one (.c (.v (.int .i64 xi5))))], []⟩
def fin_laws_heldIntS (a0 : List Int) (k1 : Int) (kk : AV → List A1 → Prop) : Kt := fin TT con_laws_heldIntS Try.f45.results.toList [.c .sc] [.c (.ro .int a0), .c (.v (.int .i64 k1))] kk
def kt0_laws_heldIntS (kf : Kt) : Kt := blockK 0 (seqK (evF TT cs_laws_heldIntS 21 an_laws_heldIntS Try.f45 [1, 1]) (kf))
theorem r0_laws_heldIntS (a0 : List Int) (k1 : Int) (kk : AV → List A1 → Prop) (n : Nat) (xk1 : Int) (xi5 : Int) :
    iter (evF TT cs_laws_heldIntS 21 an_laws_heldIntS Try.f45 [1, 0, 1, 0, 0]) nm0_laws_heldIntS (kt0_laws_heldIntS (fin_laws_heldIntS a0 k1 kk)) (n + 1) (can0_laws_heldIntS a0 xk1 xi5) = T0_laws_heldIntS a0 xk1 xi5 (fun r0 => kk (.one (.c (.v (.int .i64 r0)))) []) (fun xk1 xi5 => iter (evF TT cs_laws_heldIntS 21 an_laws_heldIntS Try.f45 [1, 0, 1, 0, 0]) nm0_laws_heldIntS (kt0_laws_heldIntS (fin_laws_heldIntS a0 k1 kk)) n (can0_laws_heldIntS a0 xk1 xi5)) := by kernel_rfl
theorem l0_laws_heldIntS (a0 : List Int) (k1 : Int) (kk : AV → List A1 → Prop) : ∀ (n : Nat) (xk1 : Int) (xi5 : Int), iter (evF TT cs_laws_heldIntS 21 an_laws_heldIntS Try.f45 [1, 0, 1, 0, 0]) nm0_laws_heldIntS (kt0_laws_heldIntS (fin_laws_heldIntS a0 k1 kk)) n (can0_laws_heldIntS a0 xk1 xi5) = L0_laws_heldIntS a0 (fun r0 => kk (.one (.c (.v (.int .i64 r0)))) []) n xk1 xi5 := by
  intro n
  induction n with
  | zero => intros; rfl
  | succ n ih =>
    intro xk1 xi5
    rw [r0_laws_heldIntS a0 k1 kk n xk1 xi5]
    have hb : (fun xk1 xi5 => iter (evF TT cs_laws_heldIntS 21 an_laws_heldIntS Try.f45 [1, 0, 1, 0, 0]) nm0_laws_heldIntS (kt0_laws_heldIntS (fin_laws_heldIntS a0 k1 kk)) n (can0_laws_heldIntS a0 xk1 xi5)) = L0_laws_heldIntS a0 (fun r0 => kk (.one (.c (.v (.int .i64 r0)))) []) n := by
      funext xk1 xi5; exact ih xk1 xi5
    rw [hb]
    rfl
theorem g_laws_heldIntS (a0 : List Int) (k1 : Int) (kk : AV → List A1 → Prop) :
    ev TT cs_laws_heldIntS 21 an_laws_heldIntS (Try.f45.body.getD .skip) (st0 con_laws_heldIntS [.c (.ro .int a0), .c (.v (.int .i64 k1))]) (fin TT con_laws_heldIntS Try.f45.results.toList [.c .sc] [.c (.ro .int a0), .c (.v (.int .i64 k1))] kk) = G_laws_heldIntS a0 k1 (fun a0 xk1 xi5 => ∃ j, iter (evF TT cs_laws_heldIntS 21 an_laws_heldIntS Try.f45 [1, 0, 1, 0, 0]) nm0_laws_heldIntS (kt0_laws_heldIntS (fin_laws_heldIntS a0 k1 kk)) j (can0_laws_heldIntS a0 xk1 xi5)) := by kernel_rfl
theorem e_laws_heldIntS (a0 : List Int) (k1 : Int) (kk : AV → List A1 → Prop) :
    ev TT cs_laws_heldIntS 21 an_laws_heldIntS (Try.f45.body.getD .skip) (st0 con_laws_heldIntS [.c (.ro .int a0), .c (.v (.int .i64 k1))]) (fin TT con_laws_heldIntS Try.f45.results.toList [.c .sc] [.c (.ro .int a0), .c (.v (.int .i64 k1))] kk) = S_laws_heldIntS a0 k1 (fun r0 => kk (.one (.c (.v (.int .i64 r0)))) []) := by
  rw [g_laws_heldIntS]
  have hi0 : (fun a0 xk1 xi5 => ∃ j, iter (evF TT cs_laws_heldIntS 21 an_laws_heldIntS Try.f45 [1, 0, 1, 0, 0]) nm0_laws_heldIntS (kt0_laws_heldIntS (fin_laws_heldIntS a0 k1 kk)) j (can0_laws_heldIntS a0 xk1 xi5)) = (fun a0 xk1 xi5 => ∃ j, L0_laws_heldIntS a0 (fun r0 => kk (.one (.c (.v (.int .i64 r0)))) []) j xk1 xi5) := by
    funext a0 xk1 xi5
    refine congrArg Exists (funext fun j => ?_)
    rw [l0_laws_heldIntS a0 k1 kk j xk1 xi5]
  rw [hi0]
  rfl
theorem clok_laws_heldIntS : ConOK Try.prog cl_laws_heldIntS := consNil
theorem cok_laws_heldIntS : ConsOK Try.prog 21 cs_laws_heldIntS := ⟨clok_laws_heldIntS, inlNil, ovNil⟩
theorem i_laws_heldIntS {vs : List A1} {kk : AV → List A1 → Prop} {motive : List A1 → Prop} (h : con_laws_heldIntS.F vs kk) (H : ∀ (a0 : List Int) (k1 : Int), F_laws_heldIntS a0 k1 (fun r0 => kk (.one (.c (.v (.int .i64 r0)))) []) → motive [.c (.ro .int a0), .c (.v (.int .i64 k1))]) : motive vs := by
  unfold con_laws_heldIntS at h
  dsimp only at h
  split at h
  · exact H _ _ h
  · exact h.elim
theorem h_laws_heldIntS : Holds Try.prog 45 con_laws_heldIntS := by
  refine holds_of_ev (rt := [.c .sc]) (T := TT) (Γ := cs_laws_heldIntS) (an := an_laws_heldIntS) (N := 21) (c := Try.f45.body.getD .skip) Try.func45 (by kernel_rfl) Try.ntmps45 (by decide) (by decide) mixed tabOK cok_laws_heldIntS (by kernel_rfl) ?_
  intro vs kk _ hF
  exact i_laws_heldIntS (motive := fun vs => Goes (ev TT cs_laws_heldIntS 21 an_laws_heldIntS (Try.f45.body.getD .skip) (st0 con_laws_heldIntS vs) (fin TT con_laws_heldIntS Try.f45.results.toList [.c .sc] vs kk))) hF (fun a0 k1 hF => goes_of (e_laws_heldIntS a0 k1 kk) (F_laws_heldIntS_S hF))
def con_laws_FnExactWheelOf : Con := ⟨[.rd], true, [.c (.sl .ii)], fun vs k => match vs with
    | [.c (.ro .ii aList0)] => F_laws_FnExactWheelOf aList0 (fun r0 => k (.one (.c (.v (.bool r0)))) [])
    | _ => False, false⟩
def cl_laws_FnExactWheelOf : List (FuncId × Con) := [(19, con_laws_eqIntS), (20, con_laws_szTimedS), (21, con_spec_WheelOf), (22, con_laws_toTimedS), (23, con_impl_WheelOf), (24, con_laws_eqIntSS), (25, con_laws_eqTimedS), (26, con_laws_markTimedS), (42, con_impl_ValidTimed), (44, con_laws_markIntS), (45, con_laws_heldIntS)]
def nm0_laws_FnExactWheelOf : List NStep := [.ownc 1280 0 .int 90000, .ownc 1280 1 .int 90001, .ownc 1280 2 .int 90002, .ownc 1280 3 .int 90003, .ownc 1280 4 .int 90004, .ownc 1280 5 .int 90005, .ownc 1280 6 .int 90006, .ownc 1280 7 .int 90007, .keep [3, 11, 12, 13, 1000000, 1000004, 1000005] [1280, 90000, 90001, 90002, 90003, 90004, 90005, 90006, 90007, 320]]
def an_laws_FnExactWheelOf_i6 : Ann := ⟨[], [(2, [.unr 9])], [], []⟩
def cs_laws_FnExactWheelOf_i6 : Cons := ⟨cl_laws_FnExactWheelOf, [], 3248, [], [], []⟩
def an_laws_FnExactWheelOf_i5 : Ann := ⟨[], [(2, [.unr 9])], [], []⟩
def cs_laws_FnExactWheelOf_i5 : Cons := ⟨cl_laws_FnExactWheelOf, [], 2896, [], [], []⟩
def an_laws_FnExactWheelOf_i4 : Ann := ⟨[], [(2, [.unr 9])], [], []⟩
def cs_laws_FnExactWheelOf_i4 : Cons := ⟨cl_laws_FnExactWheelOf, [], 2576, [], [], []⟩
def an_laws_FnExactWheelOf_i3 : Ann := ⟨[(6, .take 0 (.take 1 (.take 2 (.take 3 (.take 4 (.take 5 (.take 6 (.take 7 (.alt 8 (.take 9 (.done)) (.none))))))))), [1280])], [(4, [.unr 9])], [], []⟩
def cs_laws_FnExactWheelOf_i3 : Cons := ⟨cl_laws_FnExactWheelOf, [], 2128, [], [], []⟩
def an_laws_FnExactWheelOf_i2 : Ann := ⟨[(6, .take 0 (.take 1 (.take 2 (.take 3 (.take 4 (.take 5 (.take 6 (.take 7 (.alt 8 (.take 9 (.done)) (.none))))))))), [1280])], [(4, [.unr 9])], [], []⟩
def cs_laws_FnExactWheelOf_i2 : Cons := ⟨cl_laws_FnExactWheelOf, [], 1680, [], [], []⟩
def an_laws_FnExactWheelOf_i1 : Ann := ⟨[(8, .take 0 (.take 1 (.take 2 (.take 3 (.take 4 (.take 6 (.take 7 (.alt 5 (.alt 8 (.alt 9 (.take 10 (.alt 11 (.done) (.none))) (.none)) (.none)) (.alt 8 (.alt 5 (.alt 9 (.take 10 (.alt 11 (.done) (.none))) (.none)) (.none)) (.none))))))))), [1200])], [(5, nm0_laws_FnExactWheelOf)], [], [(8, .sp 6 8)]⟩
def cs_laws_FnExactWheelOf_i1 : Cons := ⟨cl_laws_FnExactWheelOf, [], 1120, [], [], []⟩
def an_laws_FnExactWheelOf : Ann := ⟨[], [], [], []⟩
def cs_laws_FnExactWheelOf : Cons := ⟨cl_laws_FnExactWheelOf, [(22, ⟨23, inlG TT cs_laws_FnExactWheelOf_i1 69 34 an_laws_FnExactWheelOf_i1 (Try.f23.body.getD .skip) Try.f23.results.toList⟩), (25, ⟨24, inlG TT cs_laws_FnExactWheelOf_i2 69 27 an_laws_FnExactWheelOf_i2 (Try.f24.body.getD .skip) Try.f24.results.toList⟩), (40, ⟨24, inlG TT cs_laws_FnExactWheelOf_i3 69 27 an_laws_FnExactWheelOf_i3 (Try.f24.body.getD .skip) Try.f24.results.toList⟩), (45, ⟨27, inlG TT cs_laws_FnExactWheelOf_i4 69 19 an_laws_FnExactWheelOf_i4 (Try.f27.body.getD .skip) Try.f27.results.toList⟩), (48, ⟨28, inlG TT cs_laws_FnExactWheelOf_i5 69 21 an_laws_FnExactWheelOf_i5 (Try.f28.body.getD .skip) Try.f28.results.toList⟩), (63, ⟨28, inlG TT cs_laws_FnExactWheelOf_i6 69 21 an_laws_FnExactWheelOf_i6 (Try.f28.body.getD .skip) Try.f28.results.toList⟩)], 0, [], [], []⟩
def can0_laws_FnExactWheelOf (aList0 : List (Int × Int)) (toTimedS20 : List (Int × Int)) (wheelOf18 : List (List Int)) (xt12i1 : Int) (xt13i1 : Int) (xb80c0 : List Int) (xb80c1 : List Int) (xb80c2 : List Int) (xb80c3 : List Int) (xb80c4 : List Int) (xb80c5 : List Int) (xb80c6 : List Int) (xb80c7 : List Int) : St := ⟨[(3, .one (.c (.sb 1280 8))), (11, .one (.c (.ow 320))), (12, .one (.c (.v (.int .i64 xt12i1)))), (13, .one (.c (.v (.int .i64 xt13i1)))), (1000000, .one (.c (.ro .ii aList0))), (1000004, .one (.c (.rol .int wheelOf18))), (1000005, .one (.c (.ow 320)))], [(1280, .box [.ow 90000, .ow 90001, .ow 90002, .ow 90003, .ow 90004, .ow 90005, .ow 90006, .ow 90007]), (90000, .row .int xb80c0), (90001, .row .int xb80c1), (90002, .row .int xb80c2), (90003, .row .int xb80c3), (90004, .row .int xb80c4), (90005, .row .int xb80c5), (90006, .row .int xb80c6), (90007, .row .int xb80c7), (320, .row .ii toTimedS20)]⟩
def fin_laws_FnExactWheelOf (aList0 : List (Int × Int)) (kk : AV → List A1 → Prop) : Kt := fin TT con_laws_FnExactWheelOf Try.f7.results.toList [.c .sc] [.c (.ro .ii aList0)] kk
def kt0_laws_FnExactWheelOf (kf : Kt) : Kt := blockK 0 (seqK (evF TT cs_laws_FnExactWheelOf_i1 34 an_laws_FnExactWheelOf_i1 Try.f23 [1, 1, 1, 1]) (inlK TT 69 Try.f23 (some 22) (regK TT cs_laws_FnExactWheelOf 69 1 (seqK (evF TT cs_laws_FnExactWheelOf 69 an_laws_FnExactWheelOf Try.f7 [1, 1, 1, 1, 1, 1, 1]) (kf)) (subc [1, 1, 1, 1, 1, 1, 0] (Try.f7.body.getD .skip)))))
theorem r0_laws_FnExactWheelOf (aList0 : List (Int × Int)) (toTimedS20 : List (Int × Int)) (wheelOf18 : List (List Int)) (xt12i1 : Int) (kk : AV → List A1 → Prop) (n : Nat) (xt13i1 : Int) (xb80c0 : List Int) (xb80c1 : List Int) (xb80c2 : List Int) (xb80c3 : List Int) (xb80c4 : List Int) (xb80c5 : List Int) (xb80c6 : List Int) (xb80c7 : List Int) :
    iter (evF TT cs_laws_FnExactWheelOf_i1 34 an_laws_FnExactWheelOf_i1 Try.f23 [1, 1, 1, 0, 1, 0, 0]) nm0_laws_FnExactWheelOf (kt0_laws_FnExactWheelOf (fin_laws_FnExactWheelOf aList0 kk)) (n + 1) (can0_laws_FnExactWheelOf aList0 toTimedS20 wheelOf18 xt12i1 xt13i1 xb80c0 xb80c1 xb80c2 xb80c3 xb80c4 xb80c5 xb80c6 xb80c7) = T0_laws_FnExactWheelOf aList0 toTimedS20 wheelOf18 xt12i1 xt13i1 xb80c0 xb80c1 xb80c2 xb80c3 xb80c4 xb80c5 xb80c6 xb80c7 (fun r0 => kk (.one (.c (.v (.bool r0)))) []) (fun xt13i1 xb80c0 xb80c1 xb80c2 xb80c3 xb80c4 xb80c5 xb80c6 xb80c7 => iter (evF TT cs_laws_FnExactWheelOf_i1 34 an_laws_FnExactWheelOf_i1 Try.f23 [1, 1, 1, 0, 1, 0, 0]) nm0_laws_FnExactWheelOf (kt0_laws_FnExactWheelOf (fin_laws_FnExactWheelOf aList0 kk)) n (can0_laws_FnExactWheelOf aList0 toTimedS20 wheelOf18 xt12i1 xt13i1 xb80c0 xb80c1 xb80c2 xb80c3 xb80c4 xb80c5 xb80c6 xb80c7)) := by kernel_rfl
theorem l0_laws_FnExactWheelOf (aList0 : List (Int × Int)) (toTimedS20 : List (Int × Int)) (wheelOf18 : List (List Int)) (xt12i1 : Int) (kk : AV → List A1 → Prop) : ∀ (n : Nat) (xt13i1 : Int) (xb80c0 : List Int) (xb80c1 : List Int) (xb80c2 : List Int) (xb80c3 : List Int) (xb80c4 : List Int) (xb80c5 : List Int) (xb80c6 : List Int) (xb80c7 : List Int), iter (evF TT cs_laws_FnExactWheelOf_i1 34 an_laws_FnExactWheelOf_i1 Try.f23 [1, 1, 1, 0, 1, 0, 0]) nm0_laws_FnExactWheelOf (kt0_laws_FnExactWheelOf (fin_laws_FnExactWheelOf aList0 kk)) n (can0_laws_FnExactWheelOf aList0 toTimedS20 wheelOf18 xt12i1 xt13i1 xb80c0 xb80c1 xb80c2 xb80c3 xb80c4 xb80c5 xb80c6 xb80c7) = L0_laws_FnExactWheelOf aList0 toTimedS20 wheelOf18 xt12i1 (fun r0 => kk (.one (.c (.v (.bool r0)))) []) n xt13i1 xb80c0 xb80c1 xb80c2 xb80c3 xb80c4 xb80c5 xb80c6 xb80c7 := by
  intro n
  induction n with
  | zero => intros; rfl
  | succ n ih =>
    intro xt13i1 xb80c0 xb80c1 xb80c2 xb80c3 xb80c4 xb80c5 xb80c6 xb80c7
    rw [r0_laws_FnExactWheelOf aList0 toTimedS20 wheelOf18 xt12i1 kk n xt13i1 xb80c0 xb80c1 xb80c2 xb80c3 xb80c4 xb80c5 xb80c6 xb80c7]
    have hb : (fun xt13i1 xb80c0 xb80c1 xb80c2 xb80c3 xb80c4 xb80c5 xb80c6 xb80c7 => iter (evF TT cs_laws_FnExactWheelOf_i1 34 an_laws_FnExactWheelOf_i1 Try.f23 [1, 1, 1, 0, 1, 0, 0]) nm0_laws_FnExactWheelOf (kt0_laws_FnExactWheelOf (fin_laws_FnExactWheelOf aList0 kk)) n (can0_laws_FnExactWheelOf aList0 toTimedS20 wheelOf18 xt12i1 xt13i1 xb80c0 xb80c1 xb80c2 xb80c3 xb80c4 xb80c5 xb80c6 xb80c7)) = L0_laws_FnExactWheelOf aList0 toTimedS20 wheelOf18 xt12i1 (fun r0 => kk (.one (.c (.v (.bool r0)))) []) n := by
      funext xt13i1 xb80c0 xb80c1 xb80c2 xb80c3 xb80c4 xb80c5 xb80c6 xb80c7; exact ih xt13i1 xb80c0 xb80c1 xb80c2 xb80c3 xb80c4 xb80c5 xb80c6 xb80c7
    rw [hb]
    rw [T0_laws_FnExactWheelOf_eq]
    rfl
theorem g_laws_FnExactWheelOf (aList0 : List (Int × Int)) (kk : AV → List A1 → Prop) :
    ev TT cs_laws_FnExactWheelOf 69 an_laws_FnExactWheelOf (Try.f7.body.getD .skip) (st0 con_laws_FnExactWheelOf [.c (.ro .ii aList0)]) (fin TT con_laws_FnExactWheelOf Try.f7.results.toList [.c .sc] [.c (.ro .ii aList0)] kk) = G_laws_FnExactWheelOf aList0 (fun r0 => kk (.one (.c (.v (.bool r0)))) []) (fun aList0 toTimedS20 wheelOf18 xt12i1 xt13i1 xb80c0 xb80c1 xb80c2 xb80c3 xb80c4 xb80c5 xb80c6 xb80c7 => ∃ j, iter (evF TT cs_laws_FnExactWheelOf_i1 34 an_laws_FnExactWheelOf_i1 Try.f23 [1, 1, 1, 0, 1, 0, 0]) nm0_laws_FnExactWheelOf (kt0_laws_FnExactWheelOf (fin_laws_FnExactWheelOf aList0 kk)) j (can0_laws_FnExactWheelOf aList0 toTimedS20 wheelOf18 xt12i1 xt13i1 xb80c0 xb80c1 xb80c2 xb80c3 xb80c4 xb80c5 xb80c6 xb80c7)) := by kernel_rfl
theorem e_laws_FnExactWheelOf (aList0 : List (Int × Int)) (kk : AV → List A1 → Prop) :
    ev TT cs_laws_FnExactWheelOf 69 an_laws_FnExactWheelOf (Try.f7.body.getD .skip) (st0 con_laws_FnExactWheelOf [.c (.ro .ii aList0)]) (fin TT con_laws_FnExactWheelOf Try.f7.results.toList [.c .sc] [.c (.ro .ii aList0)] kk) = S_laws_FnExactWheelOf aList0 (fun r0 => kk (.one (.c (.v (.bool r0)))) []) := by
  rw [g_laws_FnExactWheelOf]
  have hi0 : (fun aList0 toTimedS20 wheelOf18 xt12i1 xt13i1 xb80c0 xb80c1 xb80c2 xb80c3 xb80c4 xb80c5 xb80c6 xb80c7 => ∃ j, iter (evF TT cs_laws_FnExactWheelOf_i1 34 an_laws_FnExactWheelOf_i1 Try.f23 [1, 1, 1, 0, 1, 0, 0]) nm0_laws_FnExactWheelOf (kt0_laws_FnExactWheelOf (fin_laws_FnExactWheelOf aList0 kk)) j (can0_laws_FnExactWheelOf aList0 toTimedS20 wheelOf18 xt12i1 xt13i1 xb80c0 xb80c1 xb80c2 xb80c3 xb80c4 xb80c5 xb80c6 xb80c7)) = (fun aList0 toTimedS20 wheelOf18 xt12i1 xt13i1 xb80c0 xb80c1 xb80c2 xb80c3 xb80c4 xb80c5 xb80c6 xb80c7 => ∃ j, L0_laws_FnExactWheelOf aList0 toTimedS20 wheelOf18 xt12i1 (fun r0 => kk (.one (.c (.v (.bool r0)))) []) j xt13i1 xb80c0 xb80c1 xb80c2 xb80c3 xb80c4 xb80c5 xb80c6 xb80c7) := by
    funext aList0 toTimedS20 wheelOf18 xt12i1 xt13i1 xb80c0 xb80c1 xb80c2 xb80c3 xb80c4 xb80c5 xb80c6 xb80c7
    refine congrArg Exists (funext fun j => ?_)
    rw [l0_laws_FnExactWheelOf aList0 toTimedS20 wheelOf18 xt12i1 kk j xt13i1 xb80c0 xb80c1 xb80c2 xb80c3 xb80c4 xb80c5 xb80c6 xb80c7]
  rw [hi0]
  rfl
theorem clok_laws_FnExactWheelOf : ConOK Try.prog cl_laws_FnExactWheelOf := consCons h_laws_eqIntS ⟨Try.f19, Try.func19, by kernel_rfl, ne_of_beq (by kernel_rfl)⟩ (consCons h_laws_szTimedS ⟨Try.f20, Try.func20, by kernel_rfl, ne_of_beq (by kernel_rfl)⟩ (consCons h_spec_WheelOf ⟨Try.f21, Try.func21, by kernel_rfl, ne_of_beq (by kernel_rfl)⟩ (consCons h_laws_toTimedS ⟨Try.f22, Try.func22, by kernel_rfl, ne_of_beq (by kernel_rfl)⟩ (consCons h_impl_WheelOf ⟨Try.f23, Try.func23, by kernel_rfl, ne_of_beq (by kernel_rfl)⟩ (consCons h_laws_eqIntSS ⟨Try.f24, Try.func24, by kernel_rfl, ne_of_beq (by kernel_rfl)⟩ (consCons h_laws_eqTimedS ⟨Try.f25, Try.func25, by kernel_rfl, ne_of_beq (by kernel_rfl)⟩ (consCons h_laws_markTimedS ⟨Try.f26, Try.func26, by kernel_rfl, ne_of_beq (by kernel_rfl)⟩ (consCons h_impl_ValidTimed ⟨Try.f42, Try.func42, by kernel_rfl, ne_of_beq (by kernel_rfl)⟩ (consCons h_laws_markIntS ⟨Try.f44, Try.func44, by kernel_rfl, ne_of_beq (by kernel_rfl)⟩ (consCons h_laws_heldIntS ⟨Try.f45, Try.func45, by kernel_rfl, ne_of_beq (by kernel_rfl)⟩ (consNil)))))))))))
theorem cok_laws_FnExactWheelOf_i6 : ConsOK Try.prog 21 cs_laws_FnExactWheelOf_i6 := ⟨clok_laws_FnExactWheelOf, inlNil, ovNil⟩
theorem cok_laws_FnExactWheelOf_i5 : ConsOK Try.prog 21 cs_laws_FnExactWheelOf_i5 := ⟨clok_laws_FnExactWheelOf, inlNil, ovNil⟩
theorem cok_laws_FnExactWheelOf_i4 : ConsOK Try.prog 19 cs_laws_FnExactWheelOf_i4 := ⟨clok_laws_FnExactWheelOf, inlNil, ovNil⟩
theorem cok_laws_FnExactWheelOf_i3 : ConsOK Try.prog 27 cs_laws_FnExactWheelOf_i3 := ⟨clok_laws_FnExactWheelOf, inlNil, ovNil⟩
theorem cok_laws_FnExactWheelOf_i2 : ConsOK Try.prog 27 cs_laws_FnExactWheelOf_i2 := ⟨clok_laws_FnExactWheelOf, inlNil, ovNil⟩
theorem cok_laws_FnExactWheelOf_i1 : ConsOK Try.prog 34 cs_laws_FnExactWheelOf_i1 := ⟨clok_laws_FnExactWheelOf, inlNil, ovNil⟩
theorem cok_laws_FnExactWheelOf : ConsOK Try.prog 69 cs_laws_FnExactWheelOf := ⟨clok_laws_FnExactWheelOf, inlCons (inl_ok Try.func23 (by kernel_rfl) (ne_of_beq (by kernel_rfl)) Try.ntmps23 (by decide) mixed tabOK cok_laws_FnExactWheelOf_i1 (by kernel_rfl)) (inlCons (inl_ok Try.func24 (by kernel_rfl) (ne_of_beq (by kernel_rfl)) Try.ntmps24 (by decide) mixed tabOK cok_laws_FnExactWheelOf_i2 (by kernel_rfl)) (inlCons (inl_ok Try.func24 (by kernel_rfl) (ne_of_beq (by kernel_rfl)) Try.ntmps24 (by decide) mixed tabOK cok_laws_FnExactWheelOf_i3 (by kernel_rfl)) (inlCons (inl_ok Try.func27 (by kernel_rfl) (ne_of_beq (by kernel_rfl)) Try.ntmps27 (by decide) mixed tabOK cok_laws_FnExactWheelOf_i4 (by kernel_rfl)) (inlCons (inl_ok Try.func28 (by kernel_rfl) (ne_of_beq (by kernel_rfl)) Try.ntmps28 (by decide) mixed tabOK cok_laws_FnExactWheelOf_i5 (by kernel_rfl)) (inlCons (inl_ok Try.func28 (by kernel_rfl) (ne_of_beq (by kernel_rfl)) Try.ntmps28 (by decide) mixed tabOK cok_laws_FnExactWheelOf_i6 (by kernel_rfl)) (inlNil)))))), ovNil⟩
theorem i_laws_FnExactWheelOf {vs : List A1} {kk : AV → List A1 → Prop} {motive : List A1 → Prop} (h : con_laws_FnExactWheelOf.F vs kk) (H : ∀ (aList0 : List (Int × Int)), F_laws_FnExactWheelOf aList0 (fun r0 => kk (.one (.c (.v (.bool r0)))) []) → motive [.c (.ro .ii aList0)]) : motive vs := by
  unfold con_laws_FnExactWheelOf at h
  dsimp only at h
  split at h
  · exact H _ h
  · exact h.elim
theorem h_laws_FnExactWheelOf : Holds Try.prog 7 con_laws_FnExactWheelOf := by
  refine holds_of_ev (rt := [.c .sc]) (T := TT) (Γ := cs_laws_FnExactWheelOf) (an := an_laws_FnExactWheelOf) (N := 69) (c := Try.f7.body.getD .skip) Try.func7 (by kernel_rfl) Try.ntmps7 (by decide) (by decide) mixed tabOK cok_laws_FnExactWheelOf (by kernel_rfl) ?_
  intro vs kk _ hF
  exact i_laws_FnExactWheelOf (motive := fun vs => Goes (ev TT cs_laws_FnExactWheelOf 69 an_laws_FnExactWheelOf (Try.f7.body.getD .skip) (st0 con_laws_FnExactWheelOf vs) (fin TT con_laws_FnExactWheelOf Try.f7.results.toList [.c .sc] vs kk))) hF (fun aList0 hF => goes_of (e_laws_FnExactWheelOf aList0 kk) (F_laws_FnExactWheelOf_S hF))
end Go.Ev
