/- What the evaluator gives for these functions: their contracts. No statement is proved here. -/
import Derived.Test.YtnkmhjdenddpbacFnExactValidGateP0
import Derived.Test.YtnkmhjdenddpbacTt
namespace Go.Ev
set_option linter.unusedVariables false
set_option maxRecDepth 100000
open Go Go.Proofs
def con_laws_szIntS : Con := ⟨[.rd, .rd], true, [.c (.sl .int), .c (.sc)], fun vs k => match vs with
    | [.c (.ro .int a0), .c (.v (.int .i64 left1))] => F_laws_szIntS a0 left1 (fun r0 => k (.one (.c (.v (.int .i64 r0)))) [])
    | _ => False, false⟩
def cl_laws_szIntS : List (FuncId × Con) := []
def an_laws_szIntS : Ann := ⟨[], [], []⟩
def cs_laws_szIntS : Cons := ⟨cl_laws_szIntS, [], 0, [], []⟩
def fin_laws_szIntS (a0 : List Int) (left1 : Int) (kk : AV → List A1 → Prop) : Kt := fin TT con_laws_szIntS Try.f66.results.toList [.c .sc] [.c (.ro .int a0), .c (.v (.int .i64 left1))] kk
theorem g_laws_szIntS (a0 : List Int) (left1 : Int) (kk : AV → List A1 → Prop) :
    ev TT cs_laws_szIntS 12 an_laws_szIntS (Try.f66.body.getD .skip) (st0 con_laws_szIntS [.c (.ro .int a0), .c (.v (.int .i64 left1))]) (fin TT con_laws_szIntS Try.f66.results.toList [.c .sc] [.c (.ro .int a0), .c (.v (.int .i64 left1))] kk) = G_laws_szIntS a0 left1 (fun r0 => kk (.one (.c (.v (.int .i64 r0)))) []) := by kernel_rfl
theorem e_laws_szIntS (a0 : List Int) (left1 : Int) (kk : AV → List A1 → Prop) :
    ev TT cs_laws_szIntS 12 an_laws_szIntS (Try.f66.body.getD .skip) (st0 con_laws_szIntS [.c (.ro .int a0), .c (.v (.int .i64 left1))]) (fin TT con_laws_szIntS Try.f66.results.toList [.c .sc] [.c (.ro .int a0), .c (.v (.int .i64 left1))] kk) = S_laws_szIntS a0 left1 (fun r0 => kk (.one (.c (.v (.int .i64 r0)))) []) := by
  rw [g_laws_szIntS]
  rfl
theorem clok_laws_szIntS : ConOK Try.prog cl_laws_szIntS := consNil
theorem cok_laws_szIntS : ConsOK Try.prog 12 cs_laws_szIntS := ⟨clok_laws_szIntS, inlNil⟩
theorem i_laws_szIntS {vs : List A1} {kk : AV → List A1 → Prop} {motive : List A1 → Prop} (h : con_laws_szIntS.F vs kk) (H : ∀ (a0 : List Int) (left1 : Int), F_laws_szIntS a0 left1 (fun r0 => kk (.one (.c (.v (.int .i64 r0)))) []) → motive [.c (.ro .int a0), .c (.v (.int .i64 left1))]) : motive vs := by
  unfold con_laws_szIntS at h
  dsimp only at h
  split at h
  · exact H _ _ h
  · exact h.elim
theorem h_laws_szIntS : Holds Try.prog 66 con_laws_szIntS := by
  refine holds_of_ev (rt := [.c .sc]) (T := TT) (Γ := cs_laws_szIntS) (an := an_laws_szIntS) (N := 12) (c := Try.f66.body.getD .skip) Try.func66 (by kernel_rfl) Try.ntmps66 (by decide) (by decide) mixed tabOK cok_laws_szIntS (by kernel_rfl) ?_
  intro vs kk _ hF
  exact i_laws_szIntS (motive := fun vs => Goes (ev TT cs_laws_szIntS 12 an_laws_szIntS (Try.f66.body.getD .skip) (st0 con_laws_szIntS vs) (fin TT con_laws_szIntS Try.f66.results.toList [.c .sc] vs kk))) hF (fun a0 left1 hF => goes_of (e_laws_szIntS a0 left1 kk) (F_laws_szIntS_S hF))
def con_laws_szGate : Con := ⟨[.rd, .rd], true, [.agg [.sc, .sc, .sl .int, .sl .int, .sl .int, .sc], .c (.sc)], fun vs k => match vs with
    | [.agg [.v (.int .i64 a0Window), .v (.int .i64 a0Room), .ro .int a0New, .ro .int a0Main, .ro .int a0Sketch, .v (.int .i64 a0Added)], .c (.v (.int .i64 left1))] => F_laws_szGate a0Window a0Room a0New a0Main a0Sketch a0Added left1 (fun r0 => k (.one (.c (.v (.int .i64 r0)))) [])
    | _ => False, false⟩
def cl_laws_szGate : List (FuncId × Con) := [(66, con_laws_szIntS)]
def an_laws_szGate : Ann := ⟨[], [], []⟩
def cs_laws_szGate : Cons := ⟨cl_laws_szGate, [], 0, [], []⟩
def fin_laws_szGate (a0Window : Int) (a0Room : Int) (a0New : List Int) (a0Main : List Int) (a0Sketch : List Int) (a0Added : Int) (left1 : Int) (kk : AV → List A1 → Prop) : Kt := fin TT con_laws_szGate Try.f37.results.toList [.c .sc] [.agg [.v (.int .i64 a0Window), .v (.int .i64 a0Room), .ro .int a0New, .ro .int a0Main, .ro .int a0Sketch, .v (.int .i64 a0Added)], .c (.v (.int .i64 left1))] kk
theorem g_laws_szGate (a0Window : Int) (a0Room : Int) (a0New : List Int) (a0Main : List Int) (a0Sketch : List Int) (a0Added : Int) (left1 : Int) (kk : AV → List A1 → Prop) :
    ev TT cs_laws_szGate 24 an_laws_szGate (Try.f37.body.getD .skip) (st0 con_laws_szGate [.agg [.v (.int .i64 a0Window), .v (.int .i64 a0Room), .ro .int a0New, .ro .int a0Main, .ro .int a0Sketch, .v (.int .i64 a0Added)], .c (.v (.int .i64 left1))]) (fin TT con_laws_szGate Try.f37.results.toList [.c .sc] [.agg [.v (.int .i64 a0Window), .v (.int .i64 a0Room), .ro .int a0New, .ro .int a0Main, .ro .int a0Sketch, .v (.int .i64 a0Added)], .c (.v (.int .i64 left1))] kk) = G_laws_szGate a0Window a0Room a0New a0Main a0Sketch a0Added left1 (fun r0 => kk (.one (.c (.v (.int .i64 r0)))) []) := by kernel_rfl
theorem e_laws_szGate (a0Window : Int) (a0Room : Int) (a0New : List Int) (a0Main : List Int) (a0Sketch : List Int) (a0Added : Int) (left1 : Int) (kk : AV → List A1 → Prop) :
    ev TT cs_laws_szGate 24 an_laws_szGate (Try.f37.body.getD .skip) (st0 con_laws_szGate [.agg [.v (.int .i64 a0Window), .v (.int .i64 a0Room), .ro .int a0New, .ro .int a0Main, .ro .int a0Sketch, .v (.int .i64 a0Added)], .c (.v (.int .i64 left1))]) (fin TT con_laws_szGate Try.f37.results.toList [.c .sc] [.agg [.v (.int .i64 a0Window), .v (.int .i64 a0Room), .ro .int a0New, .ro .int a0Main, .ro .int a0Sketch, .v (.int .i64 a0Added)], .c (.v (.int .i64 left1))] kk) = S_laws_szGate a0Window a0Room a0New a0Main a0Sketch a0Added left1 (fun r0 => kk (.one (.c (.v (.int .i64 r0)))) []) := by
  rw [g_laws_szGate]
  rfl
theorem clok_laws_szGate : ConOK Try.prog cl_laws_szGate := consCons h_laws_szIntS ⟨Try.f66, Try.func66, by kernel_rfl, ne_of_beq (by kernel_rfl)⟩ (consNil)
theorem cok_laws_szGate : ConsOK Try.prog 24 cs_laws_szGate := ⟨clok_laws_szGate, inlNil⟩
theorem i_laws_szGate {vs : List A1} {kk : AV → List A1 → Prop} {motive : List A1 → Prop} (h : con_laws_szGate.F vs kk) (H : ∀ (a0Window : Int) (a0Room : Int) (a0New : List Int) (a0Main : List Int) (a0Sketch : List Int) (a0Added : Int) (left1 : Int), F_laws_szGate a0Window a0Room a0New a0Main a0Sketch a0Added left1 (fun r0 => kk (.one (.c (.v (.int .i64 r0)))) []) → motive [.agg [.v (.int .i64 a0Window), .v (.int .i64 a0Room), .ro .int a0New, .ro .int a0Main, .ro .int a0Sketch, .v (.int .i64 a0Added)], .c (.v (.int .i64 left1))]) : motive vs := by
  unfold con_laws_szGate at h
  dsimp only at h
  split at h
  · exact H _ _ _ _ _ _ _ h
  · exact h.elim
theorem h_laws_szGate : Holds Try.prog 37 con_laws_szGate := by
  refine holds_of_ev (rt := [.c .sc]) (T := TT) (Γ := cs_laws_szGate) (an := an_laws_szGate) (N := 24) (c := Try.f37.body.getD .skip) Try.func37 (by kernel_rfl) Try.ntmps37 (by decide) (by decide) mixed tabOK cok_laws_szGate (by kernel_rfl) ?_
  intro vs kk _ hF
  exact i_laws_szGate (motive := fun vs => Goes (ev TT cs_laws_szGate 24 an_laws_szGate (Try.f37.body.getD .skip) (st0 con_laws_szGate vs) (fin TT con_laws_szGate Try.f37.results.toList [.c .sc] vs kk))) hF (fun a0Window a0Room a0New a0Main a0Sketch a0Added left1 hF => goes_of (e_laws_szGate a0Window a0Room a0New a0Main a0Sketch a0Added left1 kk) (F_laws_szGate_S hF))
def con_laws_toIntS : Con := ⟨[.rd], true, [.c (.sl .int)], fun vs k => match vs with
    | [.c (.ro .int a0)] => F_laws_toIntS a0 (fun r0 => k (.one (.c (.ro .int r0))) [])
    | _ => False, false⟩
def cl_laws_toIntS : List (FuncId × Con) := []
def nm0_laws_toIntS : List NStep := [.keep [0, 3, 4] [112]]
def an_laws_toIntS : Ann := ⟨[], [(3, nm0_laws_toIntS)], []⟩
def cs_laws_toIntS : Cons := ⟨cl_laws_toIntS, [], 0, [], []⟩
def can0_laws_toIntS (a0 : List Int) (xi4 : Int) (xy7 : List Int) : St := ⟨[(0, .one (.c (.ro .int a0))), (3, .one (.c (.ow 112))), (4, .one (.c (.v (.int .i64 xi4))))], [(112, .row .int xy7)]⟩
def fin_laws_toIntS (a0 : List Int) (kk : AV → List A1 → Prop) : Kt := fin TT con_laws_toIntS Try.f47.results.toList [.c (.sl .int)] [.c (.ro .int a0)] kk
def kt0_laws_toIntS (kf : Kt) : Kt := blockK 0 (seqK (evF TT cs_laws_toIntS 22 an_laws_toIntS Try.f47 [1, 1, 1]) (kf))
theorem r0_laws_toIntS (a0 : List Int) (kk : AV → List A1 → Prop) (n : Nat) (xi4 : Int) (xy7 : List Int) :
    iter (evF TT cs_laws_toIntS 22 an_laws_toIntS Try.f47 [1, 1, 0, 1, 0, 0]) nm0_laws_toIntS (kt0_laws_toIntS (fin_laws_toIntS a0 kk)) (n + 1) (can0_laws_toIntS a0 xi4 xy7) = T0_laws_toIntS a0 xi4 xy7 (fun r0 => kk (.one (.c (.ro .int r0))) []) (fun xi4 xy7 => iter (evF TT cs_laws_toIntS 22 an_laws_toIntS Try.f47 [1, 1, 0, 1, 0, 0]) nm0_laws_toIntS (kt0_laws_toIntS (fin_laws_toIntS a0 kk)) n (can0_laws_toIntS a0 xi4 xy7)) := by kernel_rfl
theorem l0_laws_toIntS (a0 : List Int) (kk : AV → List A1 → Prop) : ∀ (n : Nat) (xi4 : Int) (xy7 : List Int), iter (evF TT cs_laws_toIntS 22 an_laws_toIntS Try.f47 [1, 1, 0, 1, 0, 0]) nm0_laws_toIntS (kt0_laws_toIntS (fin_laws_toIntS a0 kk)) n (can0_laws_toIntS a0 xi4 xy7) = L0_laws_toIntS a0 (fun r0 => kk (.one (.c (.ro .int r0))) []) n xi4 xy7 := by
  intro n
  induction n with
  | zero => intros; rfl
  | succ n ih =>
    intro xi4 xy7
    rw [r0_laws_toIntS a0 kk n xi4 xy7]
    have hb : (fun xi4 xy7 => iter (evF TT cs_laws_toIntS 22 an_laws_toIntS Try.f47 [1, 1, 0, 1, 0, 0]) nm0_laws_toIntS (kt0_laws_toIntS (fin_laws_toIntS a0 kk)) n (can0_laws_toIntS a0 xi4 xy7)) = L0_laws_toIntS a0 (fun r0 => kk (.one (.c (.ro .int r0))) []) n := by
      funext xi4 xy7; exact ih xi4 xy7
    rw [hb]
    rfl
theorem g_laws_toIntS (a0 : List Int) (kk : AV → List A1 → Prop) :
    ev TT cs_laws_toIntS 22 an_laws_toIntS (Try.f47.body.getD .skip) (st0 con_laws_toIntS [.c (.ro .int a0)]) (fin TT con_laws_toIntS Try.f47.results.toList [.c (.sl .int)] [.c (.ro .int a0)] kk) = G_laws_toIntS a0 (fun a0 xi4 xy7 => ∃ j, iter (evF TT cs_laws_toIntS 22 an_laws_toIntS Try.f47 [1, 1, 0, 1, 0, 0]) nm0_laws_toIntS (kt0_laws_toIntS (fin_laws_toIntS a0 kk)) j (can0_laws_toIntS a0 xi4 xy7)) := by kernel_rfl
theorem e_laws_toIntS (a0 : List Int) (kk : AV → List A1 → Prop) :
    ev TT cs_laws_toIntS 22 an_laws_toIntS (Try.f47.body.getD .skip) (st0 con_laws_toIntS [.c (.ro .int a0)]) (fin TT con_laws_toIntS Try.f47.results.toList [.c (.sl .int)] [.c (.ro .int a0)] kk) = S_laws_toIntS a0 (fun r0 => kk (.one (.c (.ro .int r0))) []) := by
  rw [g_laws_toIntS]
  have hi0 : (fun a0 xi4 xy7 => ∃ j, iter (evF TT cs_laws_toIntS 22 an_laws_toIntS Try.f47 [1, 1, 0, 1, 0, 0]) nm0_laws_toIntS (kt0_laws_toIntS (fin_laws_toIntS a0 kk)) j (can0_laws_toIntS a0 xi4 xy7)) = (fun a0 xi4 xy7 => ∃ j, L0_laws_toIntS a0 (fun r0 => kk (.one (.c (.ro .int r0))) []) j xi4 xy7) := by
    funext a0 xi4 xy7
    refine congrArg Exists (funext fun j => ?_)
    rw [l0_laws_toIntS a0 kk j xi4 xy7]
  rw [hi0]
  rfl
theorem clok_laws_toIntS : ConOK Try.prog cl_laws_toIntS := consNil
theorem cok_laws_toIntS : ConsOK Try.prog 22 cs_laws_toIntS := ⟨clok_laws_toIntS, inlNil⟩
theorem i_laws_toIntS {vs : List A1} {kk : AV → List A1 → Prop} {motive : List A1 → Prop} (h : con_laws_toIntS.F vs kk) (H : ∀ (a0 : List Int), F_laws_toIntS a0 (fun r0 => kk (.one (.c (.ro .int r0))) []) → motive [.c (.ro .int a0)]) : motive vs := by
  unfold con_laws_toIntS at h
  dsimp only at h
  split at h
  · exact H _ h
  · exact h.elim
theorem h_laws_toIntS : Holds Try.prog 47 con_laws_toIntS := by
  refine holds_of_ev (rt := [.c (.sl .int)]) (T := TT) (Γ := cs_laws_toIntS) (an := an_laws_toIntS) (N := 22) (c := Try.f47.body.getD .skip) Try.func47 (by kernel_rfl) Try.ntmps47 (by decide) (by decide) mixed tabOK cok_laws_toIntS (by kernel_rfl) ?_
  intro vs kk _ hF
  exact i_laws_toIntS (motive := fun vs => Goes (ev TT cs_laws_toIntS 22 an_laws_toIntS (Try.f47.body.getD .skip) (st0 con_laws_toIntS vs) (fin TT con_laws_toIntS Try.f47.results.toList [.c (.sl .int)] vs kk))) hF (fun a0 hF => goes_of (e_laws_toIntS a0 kk) (F_laws_toIntS_S hF))
def con_laws_toGate : Con := ⟨[.rd], true, [.agg [.sc, .sc, .sl .int, .sl .int, .sl .int, .sc]], fun vs k => match vs with
    | [.agg [.v (.int .i64 a0Window), .v (.int .i64 a0Room), .ro .int a0New, .ro .int a0Main, .ro .int a0Sketch, .v (.int .i64 a0Added)]] => F_laws_toGate a0Window a0Room a0New a0Main a0Sketch a0Added (fun r0 r1 r2 r3 r4 r5 => k (.one (.agg [.v (.int .i64 r0), .v (.int .i64 r1), .ro .int r2, .ro .int r3, .ro .int r4, .v (.int .i64 r5)])) [])
    | _ => False, false⟩
def cl_laws_toGate : List (FuncId × Con) := [(47, con_laws_toIntS)]
def an_laws_toGate : Ann := ⟨[], [], []⟩
def cs_laws_toGate : Cons := ⟨cl_laws_toGate, [], 0, [], []⟩
def fin_laws_toGate (a0Window : Int) (a0Room : Int) (a0New : List Int) (a0Main : List Int) (a0Sketch : List Int) (a0Added : Int) (kk : AV → List A1 → Prop) : Kt := fin TT con_laws_toGate Try.f39.results.toList [.agg [.sc, .sc, .sl .int, .sl .int, .sl .int, .sc]] [.agg [.v (.int .i64 a0Window), .v (.int .i64 a0Room), .ro .int a0New, .ro .int a0Main, .ro .int a0Sketch, .v (.int .i64 a0Added)]] kk
theorem g_laws_toGate (a0Window : Int) (a0Room : Int) (a0New : List Int) (a0Main : List Int) (a0Sketch : List Int) (a0Added : Int) (kk : AV → List A1 → Prop) :
    ev TT cs_laws_toGate 26 an_laws_toGate (Try.f39.body.getD .skip) (st0 con_laws_toGate [.agg [.v (.int .i64 a0Window), .v (.int .i64 a0Room), .ro .int a0New, .ro .int a0Main, .ro .int a0Sketch, .v (.int .i64 a0Added)]]) (fin TT con_laws_toGate Try.f39.results.toList [.agg [.sc, .sc, .sl .int, .sl .int, .sl .int, .sc]] [.agg [.v (.int .i64 a0Window), .v (.int .i64 a0Room), .ro .int a0New, .ro .int a0Main, .ro .int a0Sketch, .v (.int .i64 a0Added)]] kk) = G_laws_toGate a0Window a0Room a0New a0Main a0Sketch a0Added (fun r0 r1 r2 r3 r4 r5 => kk (.one (.agg [.v (.int .i64 r0), .v (.int .i64 r1), .ro .int r2, .ro .int r3, .ro .int r4, .v (.int .i64 r5)])) []) := by kernel_rfl
theorem e_laws_toGate (a0Window : Int) (a0Room : Int) (a0New : List Int) (a0Main : List Int) (a0Sketch : List Int) (a0Added : Int) (kk : AV → List A1 → Prop) :
    ev TT cs_laws_toGate 26 an_laws_toGate (Try.f39.body.getD .skip) (st0 con_laws_toGate [.agg [.v (.int .i64 a0Window), .v (.int .i64 a0Room), .ro .int a0New, .ro .int a0Main, .ro .int a0Sketch, .v (.int .i64 a0Added)]]) (fin TT con_laws_toGate Try.f39.results.toList [.agg [.sc, .sc, .sl .int, .sl .int, .sl .int, .sc]] [.agg [.v (.int .i64 a0Window), .v (.int .i64 a0Room), .ro .int a0New, .ro .int a0Main, .ro .int a0Sketch, .v (.int .i64 a0Added)]] kk) = S_laws_toGate a0Window a0Room a0New a0Main a0Sketch a0Added (fun r0 r1 r2 r3 r4 r5 => kk (.one (.agg [.v (.int .i64 r0), .v (.int .i64 r1), .ro .int r2, .ro .int r3, .ro .int r4, .v (.int .i64 r5)])) []) := by
  rw [g_laws_toGate]
  rfl
theorem clok_laws_toGate : ConOK Try.prog cl_laws_toGate := consCons h_laws_toIntS ⟨Try.f47, Try.func47, by kernel_rfl, ne_of_beq (by kernel_rfl)⟩ (consNil)
theorem cok_laws_toGate : ConsOK Try.prog 26 cs_laws_toGate := ⟨clok_laws_toGate, inlNil⟩
theorem i_laws_toGate {vs : List A1} {kk : AV → List A1 → Prop} {motive : List A1 → Prop} (h : con_laws_toGate.F vs kk) (H : ∀ (a0Window : Int) (a0Room : Int) (a0New : List Int) (a0Main : List Int) (a0Sketch : List Int) (a0Added : Int), F_laws_toGate a0Window a0Room a0New a0Main a0Sketch a0Added (fun r0 r1 r2 r3 r4 r5 => kk (.one (.agg [.v (.int .i64 r0), .v (.int .i64 r1), .ro .int r2, .ro .int r3, .ro .int r4, .v (.int .i64 r5)])) []) → motive [.agg [.v (.int .i64 a0Window), .v (.int .i64 a0Room), .ro .int a0New, .ro .int a0Main, .ro .int a0Sketch, .v (.int .i64 a0Added)]]) : motive vs := by
  unfold con_laws_toGate at h
  dsimp only at h
  split at h
  · exact H _ _ _ _ _ _ h
  · exact h.elim
theorem h_laws_toGate : Holds Try.prog 39 con_laws_toGate := by
  refine holds_of_ev (rt := [.agg [.sc, .sc, .sl .int, .sl .int, .sl .int, .sc]]) (T := TT) (Γ := cs_laws_toGate) (an := an_laws_toGate) (N := 26) (c := Try.f39.body.getD .skip) Try.func39 (by kernel_rfl) Try.ntmps39 (by decide) (by decide) mixed tabOK cok_laws_toGate (by kernel_rfl) ?_
  intro vs kk _ hF
  exact i_laws_toGate (motive := fun vs => Goes (ev TT cs_laws_toGate 26 an_laws_toGate (Try.f39.body.getD .skip) (st0 con_laws_toGate vs) (fin TT con_laws_toGate Try.f39.results.toList [.agg [.sc, .sc, .sl .int, .sl .int, .sl .int, .sc]] vs kk))) hF (fun a0Window a0Room a0New a0Main a0Sketch a0Added hF => goes_of (e_laws_toGate a0Window a0Room a0New a0Main a0Sketch a0Added kk) (F_laws_toGate_S hF))
def con_spec_inRange : Con := ⟨[.rd, .rd, .rd], true, [.c (.sc), .c (.sc), .c (.sc)], fun vs k => match vs with
    | [.c (.v (.int .i64 n0)), .c (.v (.int .i64 low1)), .c (.v (.int .i64 high2))] => F_spec_inRange n0 low1 high2 (fun r0 => k (.one (.c (.v (.bool r0)))) [])
    | _ => False, false⟩
def cl_spec_inRange : List (FuncId × Con) := []
def an_spec_inRange : Ann := ⟨[], [], []⟩
def cs_spec_inRange : Cons := ⟨cl_spec_inRange, [], 0, [], []⟩
def fin_spec_inRange (n0 : Int) (low1 : Int) (high2 : Int) (kk : AV → List A1 → Prop) : Kt := fin TT con_spec_inRange Try.f61.results.toList [.c .sc] [.c (.v (.int .i64 n0)), .c (.v (.int .i64 low1)), .c (.v (.int .i64 high2))] kk
theorem g_spec_inRange (n0 : Int) (low1 : Int) (high2 : Int) (kk : AV → List A1 → Prop) :
    ev TT cs_spec_inRange 15 an_spec_inRange (Try.f61.body.getD .skip) (st0 con_spec_inRange [.c (.v (.int .i64 n0)), .c (.v (.int .i64 low1)), .c (.v (.int .i64 high2))]) (fin TT con_spec_inRange Try.f61.results.toList [.c .sc] [.c (.v (.int .i64 n0)), .c (.v (.int .i64 low1)), .c (.v (.int .i64 high2))] kk) = G_spec_inRange n0 low1 high2 (fun r0 => kk (.one (.c (.v (.bool r0)))) []) := by kernel_rfl
theorem e_spec_inRange (n0 : Int) (low1 : Int) (high2 : Int) (kk : AV → List A1 → Prop) :
    ev TT cs_spec_inRange 15 an_spec_inRange (Try.f61.body.getD .skip) (st0 con_spec_inRange [.c (.v (.int .i64 n0)), .c (.v (.int .i64 low1)), .c (.v (.int .i64 high2))]) (fin TT con_spec_inRange Try.f61.results.toList [.c .sc] [.c (.v (.int .i64 n0)), .c (.v (.int .i64 low1)), .c (.v (.int .i64 high2))] kk) = S_spec_inRange n0 low1 high2 (fun r0 => kk (.one (.c (.v (.bool r0)))) []) := by
  rw [g_spec_inRange]
  rfl
theorem clok_spec_inRange : ConOK Try.prog cl_spec_inRange := consNil
theorem cok_spec_inRange : ConsOK Try.prog 15 cs_spec_inRange := ⟨clok_spec_inRange, inlNil⟩
theorem i_spec_inRange {vs : List A1} {kk : AV → List A1 → Prop} {motive : List A1 → Prop} (h : con_spec_inRange.F vs kk) (H : ∀ (n0 : Int) (low1 : Int) (high2 : Int), F_spec_inRange n0 low1 high2 (fun r0 => kk (.one (.c (.v (.bool r0)))) []) → motive [.c (.v (.int .i64 n0)), .c (.v (.int .i64 low1)), .c (.v (.int .i64 high2))]) : motive vs := by
  unfold con_spec_inRange at h
  dsimp only at h
  split at h
  · exact H _ _ _ h
  · exact h.elim
theorem h_spec_inRange : Holds Try.prog 61 con_spec_inRange := by
  refine holds_of_ev (rt := [.c .sc]) (T := TT) (Γ := cs_spec_inRange) (an := an_spec_inRange) (N := 15) (c := Try.f61.body.getD .skip) Try.func61 (by kernel_rfl) Try.ntmps61 (by decide) (by decide) mixed tabOK cok_spec_inRange (by kernel_rfl) ?_
  intro vs kk _ hF
  exact i_spec_inRange (motive := fun vs => Goes (ev TT cs_spec_inRange 15 an_spec_inRange (Try.f61.body.getD .skip) (st0 con_spec_inRange vs) (fin TT con_spec_inRange Try.f61.results.toList [.c .sc] vs kk))) hF (fun n0 low1 high2 hF => goes_of (e_spec_inRange n0 low1 high2 kk) (F_spec_inRange_S hF))
def con_spec_allIn : Con := ⟨[.rd, .rd, .rd], true, [.c (.sl .int), .c (.sc), .c (.sc)], fun vs k => match vs with
    | [.c (.ro .int list0), .c (.v (.int .i64 low1)), .c (.v (.int .i64 high2))] => F_spec_allIn list0 low1 high2 (fun r0 => k (.one (.c (.v (.bool r0)))) [])
    | _ => False, false⟩
def cl_spec_allIn : List (FuncId × Con) := [(61, con_spec_inRange)]
def nm0_spec_allIn : List NStep := [.keep [0, 1, 2, 7] []]
def an_spec_allIn : Ann := ⟨[], [(2, nm0_spec_allIn)], []⟩
def cs_spec_allIn : Cons := ⟨cl_spec_allIn, [], 0, [], []⟩
def can0_spec_allIn (high2 : Int) (list0 : List Int) (low1 : Int) (xi7 : Int) : St := ⟨[(0, .one (.c (.ro .int list0))), (1, .one (.c (.v (.int .i64 low1)))), (2, .one (.c (.v (.int .i64 high2)))), (7, .one (.c (.v (.int .i64 xi7))))], []⟩
def fin_spec_allIn (list0 : List Int) (low1 : Int) (high2 : Int) (kk : AV → List A1 → Prop) : Kt := fin TT con_spec_allIn Try.f109.results.toList [.c .sc] [.c (.ro .int list0), .c (.v (.int .i64 low1)), .c (.v (.int .i64 high2))] kk
def kt0_spec_allIn (kf : Kt) : Kt := blockK 0 (seqK (evF TT cs_spec_allIn 22 an_spec_allIn Try.f109 [1, 1]) (kf))
theorem r0_spec_allIn (list0 : List Int) (low1 : Int) (high2 : Int) (kk : AV → List A1 → Prop) (n : Nat) (xi7 : Int) :
    iter (evF TT cs_spec_allIn 22 an_spec_allIn Try.f109 [1, 0, 1, 0, 0]) nm0_spec_allIn (kt0_spec_allIn (fin_spec_allIn list0 low1 high2 kk)) (n + 1) (can0_spec_allIn high2 list0 low1 xi7) = T0_spec_allIn high2 list0 low1 xi7 (fun r0 => kk (.one (.c (.v (.bool r0)))) []) (fun xi7 => iter (evF TT cs_spec_allIn 22 an_spec_allIn Try.f109 [1, 0, 1, 0, 0]) nm0_spec_allIn (kt0_spec_allIn (fin_spec_allIn list0 low1 high2 kk)) n (can0_spec_allIn high2 list0 low1 xi7)) := by kernel_rfl
theorem l0_spec_allIn (list0 : List Int) (low1 : Int) (high2 : Int) (kk : AV → List A1 → Prop) : ∀ (n : Nat) (xi7 : Int), iter (evF TT cs_spec_allIn 22 an_spec_allIn Try.f109 [1, 0, 1, 0, 0]) nm0_spec_allIn (kt0_spec_allIn (fin_spec_allIn list0 low1 high2 kk)) n (can0_spec_allIn high2 list0 low1 xi7) = L0_spec_allIn high2 list0 low1 (fun r0 => kk (.one (.c (.v (.bool r0)))) []) n xi7 := by
  intro n
  induction n with
  | zero => intros; rfl
  | succ n ih =>
    intro xi7
    rw [r0_spec_allIn list0 low1 high2 kk n xi7]
    have hb : (fun xi7 => iter (evF TT cs_spec_allIn 22 an_spec_allIn Try.f109 [1, 0, 1, 0, 0]) nm0_spec_allIn (kt0_spec_allIn (fin_spec_allIn list0 low1 high2 kk)) n (can0_spec_allIn high2 list0 low1 xi7)) = L0_spec_allIn high2 list0 low1 (fun r0 => kk (.one (.c (.v (.bool r0)))) []) n := by
      funext xi7; exact ih xi7
    rw [hb]
    rfl
theorem g_spec_allIn (list0 : List Int) (low1 : Int) (high2 : Int) (kk : AV → List A1 → Prop) :
    ev TT cs_spec_allIn 22 an_spec_allIn (Try.f109.body.getD .skip) (st0 con_spec_allIn [.c (.ro .int list0), .c (.v (.int .i64 low1)), .c (.v (.int .i64 high2))]) (fin TT con_spec_allIn Try.f109.results.toList [.c .sc] [.c (.ro .int list0), .c (.v (.int .i64 low1)), .c (.v (.int .i64 high2))] kk) = G_spec_allIn list0 low1 high2 (fun high2 list0 low1 xi7 => ∃ j, iter (evF TT cs_spec_allIn 22 an_spec_allIn Try.f109 [1, 0, 1, 0, 0]) nm0_spec_allIn (kt0_spec_allIn (fin_spec_allIn list0 low1 high2 kk)) j (can0_spec_allIn high2 list0 low1 xi7)) := by kernel_rfl
theorem e_spec_allIn (list0 : List Int) (low1 : Int) (high2 : Int) (kk : AV → List A1 → Prop) :
    ev TT cs_spec_allIn 22 an_spec_allIn (Try.f109.body.getD .skip) (st0 con_spec_allIn [.c (.ro .int list0), .c (.v (.int .i64 low1)), .c (.v (.int .i64 high2))]) (fin TT con_spec_allIn Try.f109.results.toList [.c .sc] [.c (.ro .int list0), .c (.v (.int .i64 low1)), .c (.v (.int .i64 high2))] kk) = S_spec_allIn list0 low1 high2 (fun r0 => kk (.one (.c (.v (.bool r0)))) []) := by
  rw [g_spec_allIn]
  have hi0 : (fun high2 list0 low1 xi7 => ∃ j, iter (evF TT cs_spec_allIn 22 an_spec_allIn Try.f109 [1, 0, 1, 0, 0]) nm0_spec_allIn (kt0_spec_allIn (fin_spec_allIn list0 low1 high2 kk)) j (can0_spec_allIn high2 list0 low1 xi7)) = (fun high2 list0 low1 xi7 => ∃ j, L0_spec_allIn high2 list0 low1 (fun r0 => kk (.one (.c (.v (.bool r0)))) []) j xi7) := by
    funext high2 list0 low1 xi7
    refine congrArg Exists (funext fun j => ?_)
    rw [l0_spec_allIn list0 low1 high2 kk j xi7]
  rw [hi0]
  rfl
theorem clok_spec_allIn : ConOK Try.prog cl_spec_allIn := consCons h_spec_inRange ⟨Try.f61, Try.func61, by kernel_rfl, ne_of_beq (by kernel_rfl)⟩ (consNil)
theorem cok_spec_allIn : ConsOK Try.prog 22 cs_spec_allIn := ⟨clok_spec_allIn, inlNil⟩
theorem i_spec_allIn {vs : List A1} {kk : AV → List A1 → Prop} {motive : List A1 → Prop} (h : con_spec_allIn.F vs kk) (H : ∀ (list0 : List Int) (low1 : Int) (high2 : Int), F_spec_allIn list0 low1 high2 (fun r0 => kk (.one (.c (.v (.bool r0)))) []) → motive [.c (.ro .int list0), .c (.v (.int .i64 low1)), .c (.v (.int .i64 high2))]) : motive vs := by
  unfold con_spec_allIn at h
  dsimp only at h
  split at h
  · exact H _ _ _ h
  · exact h.elim
theorem h_spec_allIn : Holds Try.prog 109 con_spec_allIn := by
  refine holds_of_ev (rt := [.c .sc]) (T := TT) (Γ := cs_spec_allIn) (an := an_spec_allIn) (N := 22) (c := Try.f109.body.getD .skip) Try.func109 (by kernel_rfl) Try.ntmps109 (by decide) (by decide) mixed tabOK cok_spec_allIn (by kernel_rfl) ?_
  intro vs kk _ hF
  exact i_spec_allIn (motive := fun vs => Goes (ev TT cs_spec_allIn 22 an_spec_allIn (Try.f109.body.getD .skip) (st0 con_spec_allIn vs) (fin TT con_spec_allIn Try.f109.results.toList [.c .sc] vs kk))) hF (fun list0 low1 high2 hF => goes_of (e_spec_allIn list0 low1 high2 kk) (F_spec_allIn_S hF))
def con_spec_placeOf : Con := ⟨[.rd, .rd], true, [.c (.sl .int), .c (.sc)], fun vs k => match vs with
    | [.c (.ro .int list0), .c (.v (.int .i64 n1))] => F_spec_placeOf list0 n1 (fun r0 => k (.one (.c (.v (.int .i64 r0)))) [])
    | _ => False, false⟩
def cl_spec_placeOf : List (FuncId × Con) := []
def nm0_spec_placeOf : List NStep := [.keep [0, 1, 5] []]
def an_spec_placeOf : Ann := ⟨[], [(2, nm0_spec_placeOf)], []⟩
def cs_spec_placeOf : Cons := ⟨cl_spec_placeOf, [], 0, [], []⟩
def can0_spec_placeOf (list0 : List Int) (n1 : Int) (xi5 : Int) : St := ⟨[(0, .one (.c (.ro .int list0))), (1, .one (.c (.v (.int .i64 n1)))), (5, .one (.c (.v (.int .i64 xi5))))], []⟩
def fin_spec_placeOf (list0 : List Int) (n1 : Int) (kk : AV → List A1 → Prop) : Kt := fin TT con_spec_placeOf Try.f104.results.toList [.c .sc] [.c (.ro .int list0), .c (.v (.int .i64 n1))] kk
def kt0_spec_placeOf (kf : Kt) : Kt := blockK 0 (seqK (evF TT cs_spec_placeOf 19 an_spec_placeOf Try.f104 [1, 1]) (kf))
theorem r0_spec_placeOf (list0 : List Int) (n1 : Int) (kk : AV → List A1 → Prop) (n : Nat) (xi5 : Int) :
    iter (evF TT cs_spec_placeOf 19 an_spec_placeOf Try.f104 [1, 0, 1, 0, 0]) nm0_spec_placeOf (kt0_spec_placeOf (fin_spec_placeOf list0 n1 kk)) (n + 1) (can0_spec_placeOf list0 n1 xi5) = T0_spec_placeOf list0 n1 xi5 (fun r0 => kk (.one (.c (.v (.int .i64 r0)))) []) (fun xi5 => iter (evF TT cs_spec_placeOf 19 an_spec_placeOf Try.f104 [1, 0, 1, 0, 0]) nm0_spec_placeOf (kt0_spec_placeOf (fin_spec_placeOf list0 n1 kk)) n (can0_spec_placeOf list0 n1 xi5)) := by kernel_rfl
theorem l0_spec_placeOf (list0 : List Int) (n1 : Int) (kk : AV → List A1 → Prop) : ∀ (n : Nat) (xi5 : Int), iter (evF TT cs_spec_placeOf 19 an_spec_placeOf Try.f104 [1, 0, 1, 0, 0]) nm0_spec_placeOf (kt0_spec_placeOf (fin_spec_placeOf list0 n1 kk)) n (can0_spec_placeOf list0 n1 xi5) = L0_spec_placeOf list0 n1 (fun r0 => kk (.one (.c (.v (.int .i64 r0)))) []) n xi5 := by
  intro n
  induction n with
  | zero => intros; rfl
  | succ n ih =>
    intro xi5
    rw [r0_spec_placeOf list0 n1 kk n xi5]
    have hb : (fun xi5 => iter (evF TT cs_spec_placeOf 19 an_spec_placeOf Try.f104 [1, 0, 1, 0, 0]) nm0_spec_placeOf (kt0_spec_placeOf (fin_spec_placeOf list0 n1 kk)) n (can0_spec_placeOf list0 n1 xi5)) = L0_spec_placeOf list0 n1 (fun r0 => kk (.one (.c (.v (.int .i64 r0)))) []) n := by
      funext xi5; exact ih xi5
    rw [hb]
    rfl
theorem g_spec_placeOf (list0 : List Int) (n1 : Int) (kk : AV → List A1 → Prop) :
    ev TT cs_spec_placeOf 19 an_spec_placeOf (Try.f104.body.getD .skip) (st0 con_spec_placeOf [.c (.ro .int list0), .c (.v (.int .i64 n1))]) (fin TT con_spec_placeOf Try.f104.results.toList [.c .sc] [.c (.ro .int list0), .c (.v (.int .i64 n1))] kk) = G_spec_placeOf list0 n1 (fun list0 n1 xi5 => ∃ j, iter (evF TT cs_spec_placeOf 19 an_spec_placeOf Try.f104 [1, 0, 1, 0, 0]) nm0_spec_placeOf (kt0_spec_placeOf (fin_spec_placeOf list0 n1 kk)) j (can0_spec_placeOf list0 n1 xi5)) := by kernel_rfl
theorem e_spec_placeOf (list0 : List Int) (n1 : Int) (kk : AV → List A1 → Prop) :
    ev TT cs_spec_placeOf 19 an_spec_placeOf (Try.f104.body.getD .skip) (st0 con_spec_placeOf [.c (.ro .int list0), .c (.v (.int .i64 n1))]) (fin TT con_spec_placeOf Try.f104.results.toList [.c .sc] [.c (.ro .int list0), .c (.v (.int .i64 n1))] kk) = S_spec_placeOf list0 n1 (fun r0 => kk (.one (.c (.v (.int .i64 r0)))) []) := by
  rw [g_spec_placeOf]
  have hi0 : (fun list0 n1 xi5 => ∃ j, iter (evF TT cs_spec_placeOf 19 an_spec_placeOf Try.f104 [1, 0, 1, 0, 0]) nm0_spec_placeOf (kt0_spec_placeOf (fin_spec_placeOf list0 n1 kk)) j (can0_spec_placeOf list0 n1 xi5)) = (fun list0 n1 xi5 => ∃ j, L0_spec_placeOf list0 n1 (fun r0 => kk (.one (.c (.v (.int .i64 r0)))) []) j xi5) := by
    funext list0 n1 xi5
    refine congrArg Exists (funext fun j => ?_)
    rw [l0_spec_placeOf list0 n1 kk j xi5]
  rw [hi0]
  rfl
theorem clok_spec_placeOf : ConOK Try.prog cl_spec_placeOf := consNil
theorem cok_spec_placeOf : ConsOK Try.prog 19 cs_spec_placeOf := ⟨clok_spec_placeOf, inlNil⟩
theorem i_spec_placeOf {vs : List A1} {kk : AV → List A1 → Prop} {motive : List A1 → Prop} (h : con_spec_placeOf.F vs kk) (H : ∀ (list0 : List Int) (n1 : Int), F_spec_placeOf list0 n1 (fun r0 => kk (.one (.c (.v (.int .i64 r0)))) []) → motive [.c (.ro .int list0), .c (.v (.int .i64 n1))]) : motive vs := by
  unfold con_spec_placeOf at h
  dsimp only at h
  split at h
  · exact H _ _ h
  · exact h.elim
theorem h_spec_placeOf : Holds Try.prog 104 con_spec_placeOf := by
  refine holds_of_ev (rt := [.c .sc]) (T := TT) (Γ := cs_spec_placeOf) (an := an_spec_placeOf) (N := 19) (c := Try.f104.body.getD .skip) Try.func104 (by kernel_rfl) Try.ntmps104 (by decide) (by decide) mixed tabOK cok_spec_placeOf (by kernel_rfl) ?_
  intro vs kk _ hF
  exact i_spec_placeOf (motive := fun vs => Goes (ev TT cs_spec_placeOf 19 an_spec_placeOf (Try.f104.body.getD .skip) (st0 con_spec_placeOf vs) (fin TT con_spec_placeOf Try.f104.results.toList [.c .sc] vs kk))) hF (fun list0 n1 hF => goes_of (e_spec_placeOf list0 n1 kk) (F_spec_placeOf_S hF))
def con_spec_distinct : Con := ⟨[.rd], true, [.c (.sl .int)], fun vs k => match vs with
    | [.c (.ro .int list0)] => F_spec_distinct list0 (fun r0 => k (.one (.c (.v (.bool r0)))) [])
    | _ => False, false⟩
def cl_spec_distinct : List (FuncId × Con) := [(104, con_spec_placeOf)]
def nm0_spec_distinct : List NStep := [.keep [0, 3] []]
def an_spec_distinct : Ann := ⟨[], [(2, nm0_spec_distinct)], []⟩
def cs_spec_distinct : Cons := ⟨cl_spec_distinct, [], 0, [], []⟩
def can0_spec_distinct (list0 : List Int) (xi3 : Int) : St := ⟨[(0, .one (.c (.ro .int list0))), (3, .one (.c (.v (.int .i64 xi3))))], []⟩
def fin_spec_distinct (list0 : List Int) (kk : AV → List A1 → Prop) : Kt := fin TT con_spec_distinct Try.f100.results.toList [.c .sc] [.c (.ro .int list0)] kk
def kt0_spec_distinct (kf : Kt) : Kt := blockK 0 (seqK (evF TT cs_spec_distinct 18 an_spec_distinct Try.f100 [1, 1]) (kf))
theorem r0_spec_distinct (list0 : List Int) (kk : AV → List A1 → Prop) (n : Nat) (xi3 : Int) :
    iter (evF TT cs_spec_distinct 18 an_spec_distinct Try.f100 [1, 0, 1, 0, 0]) nm0_spec_distinct (kt0_spec_distinct (fin_spec_distinct list0 kk)) (n + 1) (can0_spec_distinct list0 xi3) = T0_spec_distinct list0 xi3 (fun r0 => kk (.one (.c (.v (.bool r0)))) []) (fun xi3 => iter (evF TT cs_spec_distinct 18 an_spec_distinct Try.f100 [1, 0, 1, 0, 0]) nm0_spec_distinct (kt0_spec_distinct (fin_spec_distinct list0 kk)) n (can0_spec_distinct list0 xi3)) := by kernel_rfl
theorem l0_spec_distinct (list0 : List Int) (kk : AV → List A1 → Prop) : ∀ (n : Nat) (xi3 : Int), iter (evF TT cs_spec_distinct 18 an_spec_distinct Try.f100 [1, 0, 1, 0, 0]) nm0_spec_distinct (kt0_spec_distinct (fin_spec_distinct list0 kk)) n (can0_spec_distinct list0 xi3) = L0_spec_distinct list0 (fun r0 => kk (.one (.c (.v (.bool r0)))) []) n xi3 := by
  intro n
  induction n with
  | zero => intros; rfl
  | succ n ih =>
    intro xi3
    rw [r0_spec_distinct list0 kk n xi3]
    have hb : (fun xi3 => iter (evF TT cs_spec_distinct 18 an_spec_distinct Try.f100 [1, 0, 1, 0, 0]) nm0_spec_distinct (kt0_spec_distinct (fin_spec_distinct list0 kk)) n (can0_spec_distinct list0 xi3)) = L0_spec_distinct list0 (fun r0 => kk (.one (.c (.v (.bool r0)))) []) n := by
      funext xi3; exact ih xi3
    rw [hb]
    rfl
theorem g_spec_distinct (list0 : List Int) (kk : AV → List A1 → Prop) :
    ev TT cs_spec_distinct 18 an_spec_distinct (Try.f100.body.getD .skip) (st0 con_spec_distinct [.c (.ro .int list0)]) (fin TT con_spec_distinct Try.f100.results.toList [.c .sc] [.c (.ro .int list0)] kk) = G_spec_distinct list0 (fun list0 xi3 => ∃ j, iter (evF TT cs_spec_distinct 18 an_spec_distinct Try.f100 [1, 0, 1, 0, 0]) nm0_spec_distinct (kt0_spec_distinct (fin_spec_distinct list0 kk)) j (can0_spec_distinct list0 xi3)) := by kernel_rfl
theorem e_spec_distinct (list0 : List Int) (kk : AV → List A1 → Prop) :
    ev TT cs_spec_distinct 18 an_spec_distinct (Try.f100.body.getD .skip) (st0 con_spec_distinct [.c (.ro .int list0)]) (fin TT con_spec_distinct Try.f100.results.toList [.c .sc] [.c (.ro .int list0)] kk) = S_spec_distinct list0 (fun r0 => kk (.one (.c (.v (.bool r0)))) []) := by
  rw [g_spec_distinct]
  have hi0 : (fun list0 xi3 => ∃ j, iter (evF TT cs_spec_distinct 18 an_spec_distinct Try.f100 [1, 0, 1, 0, 0]) nm0_spec_distinct (kt0_spec_distinct (fin_spec_distinct list0 kk)) j (can0_spec_distinct list0 xi3)) = (fun list0 xi3 => ∃ j, L0_spec_distinct list0 (fun r0 => kk (.one (.c (.v (.bool r0)))) []) j xi3) := by
    funext list0 xi3
    refine congrArg Exists (funext fun j => ?_)
    rw [l0_spec_distinct list0 kk j xi3]
  rw [hi0]
  rfl
theorem clok_spec_distinct : ConOK Try.prog cl_spec_distinct := consCons h_spec_placeOf ⟨Try.f104, Try.func104, by kernel_rfl, ne_of_beq (by kernel_rfl)⟩ (consNil)
theorem cok_spec_distinct : ConsOK Try.prog 18 cs_spec_distinct := ⟨clok_spec_distinct, inlNil⟩
theorem i_spec_distinct {vs : List A1} {kk : AV → List A1 → Prop} {motive : List A1 → Prop} (h : con_spec_distinct.F vs kk) (H : ∀ (list0 : List Int), F_spec_distinct list0 (fun r0 => kk (.one (.c (.v (.bool r0)))) []) → motive [.c (.ro .int list0)]) : motive vs := by
  unfold con_spec_distinct at h
  dsimp only at h
  split at h
  · exact H _ h
  · exact h.elim
theorem h_spec_distinct : Holds Try.prog 100 con_spec_distinct := by
  refine holds_of_ev (rt := [.c .sc]) (T := TT) (Γ := cs_spec_distinct) (an := an_spec_distinct) (N := 18) (c := Try.f100.body.getD .skip) Try.func100 (by kernel_rfl) Try.ntmps100 (by decide) (by decide) mixed tabOK cok_spec_distinct (by kernel_rfl) ?_
  intro vs kk _ hF
  exact i_spec_distinct (motive := fun vs => Goes (ev TT cs_spec_distinct 18 an_spec_distinct (Try.f100.body.getD .skip) (st0 con_spec_distinct vs) (fin TT con_spec_distinct Try.f100.results.toList [.c .sc] vs kk))) hF (fun list0 hF => goes_of (e_spec_distinct list0 kk) (F_spec_distinct_S hF))
def con_spec_validKeys : Con := ⟨[.rd, .rd], true, [.c (.sl .int), .c (.sc)], fun vs k => match vs with
    | [.c (.ro .int list0), .c (.v (.int .i64 room1))] => F_spec_validKeys list0 room1 (fun r0 => k (.one (.c (.v (.bool r0)))) [])
    | _ => False, false⟩
def cl_spec_validKeys : List (FuncId × Con) := [(61, con_spec_inRange), (100, con_spec_distinct), (109, con_spec_allIn)]
def an_spec_validKeys : Ann := ⟨[], [], []⟩
def cs_spec_validKeys : Cons := ⟨cl_spec_validKeys, [], 0, [], []⟩
def fin_spec_validKeys (list0 : List Int) (room1 : Int) (kk : AV → List A1 → Prop) : Kt := fin TT con_spec_validKeys Try.f99.results.toList [.c .sc] [.c (.ro .int list0), .c (.v (.int .i64 room1))] kk
theorem g_spec_validKeys (list0 : List Int) (room1 : Int) (kk : AV → List A1 → Prop) :
    ev TT cs_spec_validKeys 21 an_spec_validKeys (Try.f99.body.getD .skip) (st0 con_spec_validKeys [.c (.ro .int list0), .c (.v (.int .i64 room1))]) (fin TT con_spec_validKeys Try.f99.results.toList [.c .sc] [.c (.ro .int list0), .c (.v (.int .i64 room1))] kk) = G_spec_validKeys list0 room1 (fun r0 => kk (.one (.c (.v (.bool r0)))) []) := by kernel_rfl
theorem e_spec_validKeys (list0 : List Int) (room1 : Int) (kk : AV → List A1 → Prop) :
    ev TT cs_spec_validKeys 21 an_spec_validKeys (Try.f99.body.getD .skip) (st0 con_spec_validKeys [.c (.ro .int list0), .c (.v (.int .i64 room1))]) (fin TT con_spec_validKeys Try.f99.results.toList [.c .sc] [.c (.ro .int list0), .c (.v (.int .i64 room1))] kk) = S_spec_validKeys list0 room1 (fun r0 => kk (.one (.c (.v (.bool r0)))) []) := by
  rw [g_spec_validKeys]
  rfl
theorem clok_spec_validKeys : ConOK Try.prog cl_spec_validKeys := consCons h_spec_inRange ⟨Try.f61, Try.func61, by kernel_rfl, ne_of_beq (by kernel_rfl)⟩ (consCons h_spec_distinct ⟨Try.f100, Try.func100, by kernel_rfl, ne_of_beq (by kernel_rfl)⟩ (consCons h_spec_allIn ⟨Try.f109, Try.func109, by kernel_rfl, ne_of_beq (by kernel_rfl)⟩ (consNil)))
theorem cok_spec_validKeys : ConsOK Try.prog 21 cs_spec_validKeys := ⟨clok_spec_validKeys, inlNil⟩
theorem i_spec_validKeys {vs : List A1} {kk : AV → List A1 → Prop} {motive : List A1 → Prop} (h : con_spec_validKeys.F vs kk) (H : ∀ (list0 : List Int) (room1 : Int), F_spec_validKeys list0 room1 (fun r0 => kk (.one (.c (.v (.bool r0)))) []) → motive [.c (.ro .int list0), .c (.v (.int .i64 room1))]) : motive vs := by
  unfold con_spec_validKeys at h
  dsimp only at h
  split at h
  · exact H _ _ h
  · exact h.elim
theorem h_spec_validKeys : Holds Try.prog 99 con_spec_validKeys := by
  refine holds_of_ev (rt := [.c .sc]) (T := TT) (Γ := cs_spec_validKeys) (an := an_spec_validKeys) (N := 21) (c := Try.f99.body.getD .skip) Try.func99 (by kernel_rfl) Try.ntmps99 (by decide) (by decide) mixed tabOK cok_spec_validKeys (by kernel_rfl) ?_
  intro vs kk _ hF
  exact i_spec_validKeys (motive := fun vs => Goes (ev TT cs_spec_validKeys 21 an_spec_validKeys (Try.f99.body.getD .skip) (st0 con_spec_validKeys vs) (fin TT con_spec_validKeys Try.f99.results.toList [.c .sc] vs kk))) hF (fun list0 room1 hF => goes_of (e_spec_validKeys list0 room1 kk) (F_spec_validKeys_S hF))
def con_spec_copyInts : Con := ⟨[.rd], true, [.c (.sl .int)], fun vs k => match vs with
    | [.c (.ro .int list0)] => F_spec_copyInts list0 (fun r0 => k (.one (.c (.ro .int r0))) [])
    | _ => False, false⟩
def cl_spec_copyInts : List (FuncId × Con) := []
def an_spec_copyInts : Ann := ⟨[], [], []⟩
def cs_spec_copyInts : Cons := ⟨cl_spec_copyInts, [], 0, [], []⟩
def fin_spec_copyInts (list0 : List Int) (kk : AV → List A1 → Prop) : Kt := fin TT con_spec_copyInts Try.f101.results.toList [.c (.sl .int)] [.c (.ro .int list0)] kk
theorem g_spec_copyInts (list0 : List Int) (kk : AV → List A1 → Prop) :
    ev TT cs_spec_copyInts 6 an_spec_copyInts (Try.f101.body.getD .skip) (st0 con_spec_copyInts [.c (.ro .int list0)]) (fin TT con_spec_copyInts Try.f101.results.toList [.c (.sl .int)] [.c (.ro .int list0)] kk) = G_spec_copyInts list0 (fun r0 => kk (.one (.c (.ro .int r0))) []) := by kernel_rfl
theorem e_spec_copyInts (list0 : List Int) (kk : AV → List A1 → Prop) :
    ev TT cs_spec_copyInts 6 an_spec_copyInts (Try.f101.body.getD .skip) (st0 con_spec_copyInts [.c (.ro .int list0)]) (fin TT con_spec_copyInts Try.f101.results.toList [.c (.sl .int)] [.c (.ro .int list0)] kk) = S_spec_copyInts list0 (fun r0 => kk (.one (.c (.ro .int r0))) []) := by
  rw [g_spec_copyInts]
  rfl
theorem clok_spec_copyInts : ConOK Try.prog cl_spec_copyInts := consNil
theorem cok_spec_copyInts : ConsOK Try.prog 6 cs_spec_copyInts := ⟨clok_spec_copyInts, inlNil⟩
theorem i_spec_copyInts {vs : List A1} {kk : AV → List A1 → Prop} {motive : List A1 → Prop} (h : con_spec_copyInts.F vs kk) (H : ∀ (list0 : List Int), F_spec_copyInts list0 (fun r0 => kk (.one (.c (.ro .int r0))) []) → motive [.c (.ro .int list0)]) : motive vs := by
  unfold con_spec_copyInts at h
  dsimp only at h
  split at h
  · exact H _ h
  · exact h.elim
theorem h_spec_copyInts : Holds Try.prog 101 con_spec_copyInts := by
  refine holds_of_ev (rt := [.c (.sl .int)]) (T := TT) (Γ := cs_spec_copyInts) (an := an_spec_copyInts) (N := 6) (c := Try.f101.body.getD .skip) Try.func101 (by kernel_rfl) Try.ntmps101 (by decide) (by decide) mixed tabOK cok_spec_copyInts (by kernel_rfl) ?_
  intro vs kk _ hF
  exact i_spec_copyInts (motive := fun vs => Goes (ev TT cs_spec_copyInts 6 an_spec_copyInts (Try.f101.body.getD .skip) (st0 con_spec_copyInts vs) (fin TT con_spec_copyInts Try.f101.results.toList [.c (.sl .int)] vs kk))) hF (fun list0 hF => goes_of (e_spec_copyInts list0 kk) (F_spec_copyInts_S hF))
def con_spec_validSketch : Con := ⟨[.rd], true, [.c (.sl .int)], fun vs k => match vs with
    | [.c (.ro .int s0)] => F_spec_validSketch s0 (fun r0 => k (.one (.c (.v (.bool r0)))) [])
    | _ => False, false⟩
def cl_spec_validSketch : List (FuncId × Con) := [(109, con_spec_allIn)]
def an_spec_validSketch : Ann := ⟨[], [], []⟩
def cs_spec_validSketch : Cons := ⟨cl_spec_validSketch, [], 0, [], []⟩
def fin_spec_validSketch (s0 : List Int) (kk : AV → List A1 → Prop) : Kt := fin TT con_spec_validSketch Try.f88.results.toList [.c .sc] [.c (.ro .int s0)] kk
theorem g_spec_validSketch (s0 : List Int) (kk : AV → List A1 → Prop) :
    ev TT cs_spec_validSketch 10 an_spec_validSketch (Try.f88.body.getD .skip) (st0 con_spec_validSketch [.c (.ro .int s0)]) (fin TT con_spec_validSketch Try.f88.results.toList [.c .sc] [.c (.ro .int s0)] kk) = G_spec_validSketch s0 (fun r0 => kk (.one (.c (.v (.bool r0)))) []) := by kernel_rfl
theorem e_spec_validSketch (s0 : List Int) (kk : AV → List A1 → Prop) :
    ev TT cs_spec_validSketch 10 an_spec_validSketch (Try.f88.body.getD .skip) (st0 con_spec_validSketch [.c (.ro .int s0)]) (fin TT con_spec_validSketch Try.f88.results.toList [.c .sc] [.c (.ro .int s0)] kk) = S_spec_validSketch s0 (fun r0 => kk (.one (.c (.v (.bool r0)))) []) := by
  rw [g_spec_validSketch]
  rfl
theorem clok_spec_validSketch : ConOK Try.prog cl_spec_validSketch := consCons h_spec_allIn ⟨Try.f109, Try.func109, by kernel_rfl, ne_of_beq (by kernel_rfl)⟩ (consNil)
theorem cok_spec_validSketch : ConsOK Try.prog 10 cs_spec_validSketch := ⟨clok_spec_validSketch, inlNil⟩
theorem i_spec_validSketch {vs : List A1} {kk : AV → List A1 → Prop} {motive : List A1 → Prop} (h : con_spec_validSketch.F vs kk) (H : ∀ (s0 : List Int), F_spec_validSketch s0 (fun r0 => kk (.one (.c (.v (.bool r0)))) []) → motive [.c (.ro .int s0)]) : motive vs := by
  unfold con_spec_validSketch at h
  dsimp only at h
  split at h
  · exact H _ h
  · exact h.elim
theorem h_spec_validSketch : Holds Try.prog 88 con_spec_validSketch := by
  refine holds_of_ev (rt := [.c .sc]) (T := TT) (Γ := cs_spec_validSketch) (an := an_spec_validSketch) (N := 10) (c := Try.f88.body.getD .skip) Try.func88 (by kernel_rfl) Try.ntmps88 (by decide) (by decide) mixed tabOK cok_spec_validSketch (by kernel_rfl) ?_
  intro vs kk _ hF
  exact i_spec_validSketch (motive := fun vs => Goes (ev TT cs_spec_validSketch 10 an_spec_validSketch (Try.f88.body.getD .skip) (st0 con_spec_validSketch vs) (fin TT con_spec_validSketch Try.f88.results.toList [.c .sc] vs kk))) hF (fun s0 hF => goes_of (e_spec_validSketch s0 kk) (F_spec_validSketch_S hF))
def con_spec_validGate : Con := ⟨[.rd], true, [.agg [.sc, .sc, .sl .int, .sl .int, .sl .int, .sc]], fun vs k => match vs with
    | [.agg [.v (.int .i64 g0Window), .v (.int .i64 g0Room), .ro .int g0New, .ro .int g0Main, .ro .int g0Sketch, .v (.int .i64 g0Added)]] => F_spec_validGate g0Window g0Room g0New g0Main g0Sketch g0Added (fun r0 => k (.one (.c (.v (.bool r0)))) [])
    | _ => False, false⟩
def cl_spec_validGate : List (FuncId × Con) := [(61, con_spec_inRange), (88, con_spec_validSketch), (99, con_spec_validKeys), (100, con_spec_distinct), (101, con_spec_copyInts)]
def an_spec_validGate : Ann := ⟨[(1, .take 0 (.take 1 (.alt 2 (.take 3 (.take 4 (.take 5 (.alt 6 (.take 7 (.take 8 (.take 9 (.take 10 (.take 11 (.take 12 (.alt 13 (.take 14 (.take 15 (.take 16 (.take 17 (.take 18 (.take 19 (.alt 20 (.take 21 (.take 22 (.take 23 (.take 24 (.take 26 (.take 27 (.alt 25 (.alt 28 (.alt 29 (.take 30 (.take 31 (.take 32 (.take 33 (.alt 34 (.take 35 (.take 36 (.take 37 (.take 38 (.alt 39 (.take 40 (.take 41 (.done))) (.none)))))) (.none)))))) (.none)) (.none)) (.none)))))))) (.none)))))))) (.none)))))))) (.none))))) (.none))), [16])], [], []⟩
def cs_spec_validGate : Cons := ⟨cl_spec_validGate, [], 0, [], []⟩
def fin_spec_validGate (g0Window : Int) (g0Room : Int) (g0New : List Int) (g0Main : List Int) (g0Sketch : List Int) (g0Added : Int) (kk : AV → List A1 → Prop) : Kt := fin TT con_spec_validGate Try.f67.results.toList [.c .sc] [.agg [.v (.int .i64 g0Window), .v (.int .i64 g0Room), .ro .int g0New, .ro .int g0Main, .ro .int g0Sketch, .v (.int .i64 g0Added)]] kk
theorem g_spec_validGate (g0Window : Int) (g0Room : Int) (g0New : List Int) (g0Main : List Int) (g0Sketch : List Int) (g0Added : Int) (kk : AV → List A1 → Prop) :
    ev TT cs_spec_validGate 44 an_spec_validGate (Try.f67.body.getD .skip) (st0 con_spec_validGate [.agg [.v (.int .i64 g0Window), .v (.int .i64 g0Room), .ro .int g0New, .ro .int g0Main, .ro .int g0Sketch, .v (.int .i64 g0Added)]]) (fin TT con_spec_validGate Try.f67.results.toList [.c .sc] [.agg [.v (.int .i64 g0Window), .v (.int .i64 g0Room), .ro .int g0New, .ro .int g0Main, .ro .int g0Sketch, .v (.int .i64 g0Added)]] kk) = G_spec_validGate g0Window g0Room g0New g0Main g0Sketch g0Added (fun r0 => kk (.one (.c (.v (.bool r0)))) []) := by kernel_rfl
theorem e_spec_validGate (g0Window : Int) (g0Room : Int) (g0New : List Int) (g0Main : List Int) (g0Sketch : List Int) (g0Added : Int) (kk : AV → List A1 → Prop) :
    ev TT cs_spec_validGate 44 an_spec_validGate (Try.f67.body.getD .skip) (st0 con_spec_validGate [.agg [.v (.int .i64 g0Window), .v (.int .i64 g0Room), .ro .int g0New, .ro .int g0Main, .ro .int g0Sketch, .v (.int .i64 g0Added)]]) (fin TT con_spec_validGate Try.f67.results.toList [.c .sc] [.agg [.v (.int .i64 g0Window), .v (.int .i64 g0Room), .ro .int g0New, .ro .int g0Main, .ro .int g0Sketch, .v (.int .i64 g0Added)]] kk) = S_spec_validGate g0Window g0Room g0New g0Main g0Sketch g0Added (fun r0 => kk (.one (.c (.v (.bool r0)))) []) := by
  rw [g_spec_validGate]
  rw [G_spec_validGate_eq]
  rfl
theorem clok_spec_validGate : ConOK Try.prog cl_spec_validGate := consCons h_spec_inRange ⟨Try.f61, Try.func61, by kernel_rfl, ne_of_beq (by kernel_rfl)⟩ (consCons h_spec_validSketch ⟨Try.f88, Try.func88, by kernel_rfl, ne_of_beq (by kernel_rfl)⟩ (consCons h_spec_validKeys ⟨Try.f99, Try.func99, by kernel_rfl, ne_of_beq (by kernel_rfl)⟩ (consCons h_spec_distinct ⟨Try.f100, Try.func100, by kernel_rfl, ne_of_beq (by kernel_rfl)⟩ (consCons h_spec_copyInts ⟨Try.f101, Try.func101, by kernel_rfl, ne_of_beq (by kernel_rfl)⟩ (consNil)))))
theorem cok_spec_validGate : ConsOK Try.prog 44 cs_spec_validGate := ⟨clok_spec_validGate, inlNil⟩
theorem i_spec_validGate {vs : List A1} {kk : AV → List A1 → Prop} {motive : List A1 → Prop} (h : con_spec_validGate.F vs kk) (H : ∀ (g0Window : Int) (g0Room : Int) (g0New : List Int) (g0Main : List Int) (g0Sketch : List Int) (g0Added : Int), F_spec_validGate g0Window g0Room g0New g0Main g0Sketch g0Added (fun r0 => kk (.one (.c (.v (.bool r0)))) []) → motive [.agg [.v (.int .i64 g0Window), .v (.int .i64 g0Room), .ro .int g0New, .ro .int g0Main, .ro .int g0Sketch, .v (.int .i64 g0Added)]]) : motive vs := by
  unfold con_spec_validGate at h
  dsimp only at h
  split at h
  · exact H _ _ _ _ _ _ h
  · exact h.elim
theorem h_spec_validGate : Holds Try.prog 67 con_spec_validGate := by
  refine holds_of_ev (rt := [.c .sc]) (T := TT) (Γ := cs_spec_validGate) (an := an_spec_validGate) (N := 44) (c := Try.f67.body.getD .skip) Try.func67 (by kernel_rfl) Try.ntmps67 (by decide) (by decide) mixed tabOK cok_spec_validGate (by kernel_rfl) ?_
  intro vs kk _ hF
  exact i_spec_validGate (motive := fun vs => Goes (ev TT cs_spec_validGate 44 an_spec_validGate (Try.f67.body.getD .skip) (st0 con_spec_validGate vs) (fin TT con_spec_validGate Try.f67.results.toList [.c .sc] vs kk))) hF (fun g0Window g0Room g0New g0Main g0Sketch g0Added hF => goes_of (e_spec_validGate g0Window g0Room g0New g0Main g0Sketch g0Added kk) (F_spec_validGate_S hF))
def con_spec_ValidGate : Con := ⟨[.rd], true, [.agg [.sc, .sc, .sl .int, .sl .int, .sl .int, .sc]], fun vs k => match vs with
    | [.agg [.v (.int .i64 g0Window), .v (.int .i64 g0Room), .ro .int g0New, .ro .int g0Main, .ro .int g0Sketch, .v (.int .i64 g0Added)]] => F_spec_ValidGate g0Window g0Room g0New g0Main g0Sketch g0Added (fun r0 => k (.one (.c (.v (.bool r0)))) [])
    | _ => False, false⟩
def cl_spec_ValidGate : List (FuncId × Con) := [(67, con_spec_validGate)]
def an_spec_ValidGate : Ann := ⟨[], [], []⟩
def cs_spec_ValidGate : Cons := ⟨cl_spec_ValidGate, [], 0, [], []⟩
def fin_spec_ValidGate (g0Window : Int) (g0Room : Int) (g0New : List Int) (g0Main : List Int) (g0Sketch : List Int) (g0Added : Int) (kk : AV → List A1 → Prop) : Kt := fin TT con_spec_ValidGate Try.f38.results.toList [.c .sc] [.agg [.v (.int .i64 g0Window), .v (.int .i64 g0Room), .ro .int g0New, .ro .int g0Main, .ro .int g0Sketch, .v (.int .i64 g0Added)]] kk
theorem g_spec_ValidGate (g0Window : Int) (g0Room : Int) (g0New : List Int) (g0Main : List Int) (g0Sketch : List Int) (g0Added : Int) (kk : AV → List A1 → Prop) :
    ev TT cs_spec_ValidGate 5 an_spec_ValidGate (Try.f38.body.getD .skip) (st0 con_spec_ValidGate [.agg [.v (.int .i64 g0Window), .v (.int .i64 g0Room), .ro .int g0New, .ro .int g0Main, .ro .int g0Sketch, .v (.int .i64 g0Added)]]) (fin TT con_spec_ValidGate Try.f38.results.toList [.c .sc] [.agg [.v (.int .i64 g0Window), .v (.int .i64 g0Room), .ro .int g0New, .ro .int g0Main, .ro .int g0Sketch, .v (.int .i64 g0Added)]] kk) = G_spec_ValidGate g0Window g0Room g0New g0Main g0Sketch g0Added (fun r0 => kk (.one (.c (.v (.bool r0)))) []) := by kernel_rfl
theorem e_spec_ValidGate (g0Window : Int) (g0Room : Int) (g0New : List Int) (g0Main : List Int) (g0Sketch : List Int) (g0Added : Int) (kk : AV → List A1 → Prop) :
    ev TT cs_spec_ValidGate 5 an_spec_ValidGate (Try.f38.body.getD .skip) (st0 con_spec_ValidGate [.agg [.v (.int .i64 g0Window), .v (.int .i64 g0Room), .ro .int g0New, .ro .int g0Main, .ro .int g0Sketch, .v (.int .i64 g0Added)]]) (fin TT con_spec_ValidGate Try.f38.results.toList [.c .sc] [.agg [.v (.int .i64 g0Window), .v (.int .i64 g0Room), .ro .int g0New, .ro .int g0Main, .ro .int g0Sketch, .v (.int .i64 g0Added)]] kk) = S_spec_ValidGate g0Window g0Room g0New g0Main g0Sketch g0Added (fun r0 => kk (.one (.c (.v (.bool r0)))) []) := by
  rw [g_spec_ValidGate]
  rfl
theorem clok_spec_ValidGate : ConOK Try.prog cl_spec_ValidGate := consCons h_spec_validGate ⟨Try.f67, Try.func67, by kernel_rfl, ne_of_beq (by kernel_rfl)⟩ (consNil)
theorem cok_spec_ValidGate : ConsOK Try.prog 5 cs_spec_ValidGate := ⟨clok_spec_ValidGate, inlNil⟩
theorem i_spec_ValidGate {vs : List A1} {kk : AV → List A1 → Prop} {motive : List A1 → Prop} (h : con_spec_ValidGate.F vs kk) (H : ∀ (g0Window : Int) (g0Room : Int) (g0New : List Int) (g0Main : List Int) (g0Sketch : List Int) (g0Added : Int), F_spec_ValidGate g0Window g0Room g0New g0Main g0Sketch g0Added (fun r0 => kk (.one (.c (.v (.bool r0)))) []) → motive [.agg [.v (.int .i64 g0Window), .v (.int .i64 g0Room), .ro .int g0New, .ro .int g0Main, .ro .int g0Sketch, .v (.int .i64 g0Added)]]) : motive vs := by
  unfold con_spec_ValidGate at h
  dsimp only at h
  split at h
  · exact H _ _ _ _ _ _ h
  · exact h.elim
theorem h_spec_ValidGate : Holds Try.prog 38 con_spec_ValidGate := by
  refine holds_of_ev (rt := [.c .sc]) (T := TT) (Γ := cs_spec_ValidGate) (an := an_spec_ValidGate) (N := 5) (c := Try.f38.body.getD .skip) Try.func38 (by kernel_rfl) Try.ntmps38 (by decide) (by decide) mixed tabOK cok_spec_ValidGate (by kernel_rfl) ?_
  intro vs kk _ hF
  exact i_spec_ValidGate (motive := fun vs => Goes (ev TT cs_spec_ValidGate 5 an_spec_ValidGate (Try.f38.body.getD .skip) (st0 con_spec_ValidGate vs) (fin TT con_spec_ValidGate Try.f38.results.toList [.c .sc] vs kk))) hF (fun g0Window g0Room g0New g0Main g0Sketch g0Added hF => goes_of (e_spec_ValidGate g0Window g0Room g0New g0Main g0Sketch g0Added kk) (F_spec_ValidGate_S hF))
def con_impl_validRoom : Con := ⟨[.rd], true, [.c (.sc)], fun vs k => match vs with
    | [.c (.v (.int .i64 room0))] => F_impl_validRoom room0 (fun r0 => k (.one (.c (.v (.bool r0)))) [])
    | _ => False, false⟩
def cl_impl_validRoom : List (FuncId × Con) := []
def an_impl_validRoom : Ann := ⟨[], [], []⟩
def cs_impl_validRoom : Cons := ⟨cl_impl_validRoom, [], 0, [], []⟩
def fin_impl_validRoom (room0 : Int) (kk : AV → List A1 → Prop) : Kt := fin TT con_impl_validRoom Try.f85.results.toList [.c .sc] [.c (.v (.int .i64 room0))] kk
theorem g_impl_validRoom (room0 : Int) (kk : AV → List A1 → Prop) :
    ev TT cs_impl_validRoom 9 an_impl_validRoom (Try.f85.body.getD .skip) (st0 con_impl_validRoom [.c (.v (.int .i64 room0))]) (fin TT con_impl_validRoom Try.f85.results.toList [.c .sc] [.c (.v (.int .i64 room0))] kk) = G_impl_validRoom room0 (fun r0 => kk (.one (.c (.v (.bool r0)))) []) := by kernel_rfl
theorem e_impl_validRoom (room0 : Int) (kk : AV → List A1 → Prop) :
    ev TT cs_impl_validRoom 9 an_impl_validRoom (Try.f85.body.getD .skip) (st0 con_impl_validRoom [.c (.v (.int .i64 room0))]) (fin TT con_impl_validRoom Try.f85.results.toList [.c .sc] [.c (.v (.int .i64 room0))] kk) = S_impl_validRoom room0 (fun r0 => kk (.one (.c (.v (.bool r0)))) []) := by
  rw [g_impl_validRoom]
  rfl
theorem clok_impl_validRoom : ConOK Try.prog cl_impl_validRoom := consNil
theorem cok_impl_validRoom : ConsOK Try.prog 9 cs_impl_validRoom := ⟨clok_impl_validRoom, inlNil⟩
theorem i_impl_validRoom {vs : List A1} {kk : AV → List A1 → Prop} {motive : List A1 → Prop} (h : con_impl_validRoom.F vs kk) (H : ∀ (room0 : Int), F_impl_validRoom room0 (fun r0 => kk (.one (.c (.v (.bool r0)))) []) → motive [.c (.v (.int .i64 room0))]) : motive vs := by
  unfold con_impl_validRoom at h
  dsimp only at h
  split at h
  · exact H _ h
  · exact h.elim
theorem h_impl_validRoom : Holds Try.prog 85 con_impl_validRoom := by
  refine holds_of_ev (rt := [.c .sc]) (T := TT) (Γ := cs_impl_validRoom) (an := an_impl_validRoom) (N := 9) (c := Try.f85.body.getD .skip) Try.func85 (by kernel_rfl) Try.ntmps85 (by decide) (by decide) mixed tabOK cok_impl_validRoom (by kernel_rfl) ?_
  intro vs kk _ hF
  exact i_impl_validRoom (motive := fun vs => Goes (ev TT cs_impl_validRoom 9 an_impl_validRoom (Try.f85.body.getD .skip) (st0 con_impl_validRoom vs) (fin TT con_impl_validRoom Try.f85.results.toList [.c .sc] vs kk))) hF (fun room0 hF => goes_of (e_impl_validRoom room0 kk) (F_impl_validRoom_S hF))
def con_impl_validKey : Con := ⟨[.rd], true, [.c (.sc)], fun vs k => match vs with
    | [.c (.v (.int .i64 key0))] => F_impl_validKey key0 (fun r0 => k (.one (.c (.v (.bool r0)))) [])
    | _ => False, false⟩
def cl_impl_validKey : List (FuncId × Con) := []
def an_impl_validKey : Ann := ⟨[], [], []⟩
def cs_impl_validKey : Cons := ⟨cl_impl_validKey, [], 0, [], []⟩
def fin_impl_validKey (key0 : Int) (kk : AV → List A1 → Prop) : Kt := fin TT con_impl_validKey Try.f58.results.toList [.c .sc] [.c (.v (.int .i64 key0))] kk
theorem g_impl_validKey (key0 : Int) (kk : AV → List A1 → Prop) :
    ev TT cs_impl_validKey 9 an_impl_validKey (Try.f58.body.getD .skip) (st0 con_impl_validKey [.c (.v (.int .i64 key0))]) (fin TT con_impl_validKey Try.f58.results.toList [.c .sc] [.c (.v (.int .i64 key0))] kk) = G_impl_validKey key0 (fun r0 => kk (.one (.c (.v (.bool r0)))) []) := by kernel_rfl
theorem e_impl_validKey (key0 : Int) (kk : AV → List A1 → Prop) :
    ev TT cs_impl_validKey 9 an_impl_validKey (Try.f58.body.getD .skip) (st0 con_impl_validKey [.c (.v (.int .i64 key0))]) (fin TT con_impl_validKey Try.f58.results.toList [.c .sc] [.c (.v (.int .i64 key0))] kk) = S_impl_validKey key0 (fun r0 => kk (.one (.c (.v (.bool r0)))) []) := by
  rw [g_impl_validKey]
  rfl
theorem clok_impl_validKey : ConOK Try.prog cl_impl_validKey := consNil
theorem cok_impl_validKey : ConsOK Try.prog 9 cs_impl_validKey := ⟨clok_impl_validKey, inlNil⟩
theorem i_impl_validKey {vs : List A1} {kk : AV → List A1 → Prop} {motive : List A1 → Prop} (h : con_impl_validKey.F vs kk) (H : ∀ (key0 : Int), F_impl_validKey key0 (fun r0 => kk (.one (.c (.v (.bool r0)))) []) → motive [.c (.v (.int .i64 key0))]) : motive vs := by
  unfold con_impl_validKey at h
  dsimp only at h
  split at h
  · exact H _ h
  · exact h.elim
theorem h_impl_validKey : Holds Try.prog 58 con_impl_validKey := by
  refine holds_of_ev (rt := [.c .sc]) (T := TT) (Γ := cs_impl_validKey) (an := an_impl_validKey) (N := 9) (c := Try.f58.body.getD .skip) Try.func58 (by kernel_rfl) Try.ntmps58 (by decide) (by decide) mixed tabOK cok_impl_validKey (by kernel_rfl) ?_
  intro vs kk _ hF
  exact i_impl_validKey (motive := fun vs => Goes (ev TT cs_impl_validKey 9 an_impl_validKey (Try.f58.body.getD .skip) (st0 con_impl_validKey vs) (fin TT con_impl_validKey Try.f58.results.toList [.c .sc] vs kk))) hF (fun key0 hF => goes_of (e_impl_validKey key0 kk) (F_impl_validKey_S hF))
def con_slices_Index_sint_int : Con := ⟨[.rd, .rd], true, [.c (.sl .int), .c (.sc)], fun vs k => match vs with
    | [.c (.ro .int s0), .c (.v (.int .i64 v1))] => F_slices_Index_sint_int s0 v1 (fun r0 => k (.one (.c (.v (.int .i64 r0)))) [])
    | _ => False, false⟩
def cl_slices_Index_sint_int : List (FuncId × Con) := []
def nm0_slices_Index_sint_int : List NStep := [.keep [0, 1, 7, 8] []]
def an_slices_Index_sint_int : Ann := ⟨[], [(2, nm0_slices_Index_sint_int)], []⟩
def cs_slices_Index_sint_int : Cons := ⟨cl_slices_Index_sint_int, [], 0, [], []⟩
def can0_slices_Index_sint_int (s0 : List Int) (v1 : Int) (xt7 : Int) (xt8 : Int) : St := ⟨[(0, .one (.c (.ro .int s0))), (1, .one (.c (.v (.int .i64 v1)))), (7, .one (.c (.v (.int .i64 xt7)))), (8, .one (.c (.v (.int .i64 xt8))))], []⟩
def fin_slices_Index_sint_int (s0 : List Int) (v1 : Int) (kk : AV → List A1 → Prop) : Kt := fin TT con_slices_Index_sint_int Try.f108.results.toList [.c .sc] [.c (.ro .int s0), .c (.v (.int .i64 v1))] kk
def kt0_slices_Index_sint_int (kf : Kt) : Kt := blockK 0 (seqK (evF TT cs_slices_Index_sint_int 19 an_slices_Index_sint_int Try.f108 [1, 1]) (kf))
theorem r0_slices_Index_sint_int (s0 : List Int) (v1 : Int) (xt7 : Int) (kk : AV → List A1 → Prop) (n : Nat) (xt8 : Int) :
    iter (evF TT cs_slices_Index_sint_int 19 an_slices_Index_sint_int Try.f108 [1, 0, 1, 0, 0]) nm0_slices_Index_sint_int (kt0_slices_Index_sint_int (fin_slices_Index_sint_int s0 v1 kk)) (n + 1) (can0_slices_Index_sint_int s0 v1 xt7 xt8) = T0_slices_Index_sint_int s0 v1 xt7 xt8 (fun r0 => kk (.one (.c (.v (.int .i64 r0)))) []) (fun xt8 => iter (evF TT cs_slices_Index_sint_int 19 an_slices_Index_sint_int Try.f108 [1, 0, 1, 0, 0]) nm0_slices_Index_sint_int (kt0_slices_Index_sint_int (fin_slices_Index_sint_int s0 v1 kk)) n (can0_slices_Index_sint_int s0 v1 xt7 xt8)) := by kernel_rfl
theorem l0_slices_Index_sint_int (s0 : List Int) (v1 : Int) (xt7 : Int) (kk : AV → List A1 → Prop) : ∀ (n : Nat) (xt8 : Int), iter (evF TT cs_slices_Index_sint_int 19 an_slices_Index_sint_int Try.f108 [1, 0, 1, 0, 0]) nm0_slices_Index_sint_int (kt0_slices_Index_sint_int (fin_slices_Index_sint_int s0 v1 kk)) n (can0_slices_Index_sint_int s0 v1 xt7 xt8) = L0_slices_Index_sint_int s0 v1 xt7 (fun r0 => kk (.one (.c (.v (.int .i64 r0)))) []) n xt8 := by
  intro n
  induction n with
  | zero => intros; rfl
  | succ n ih =>
    intro xt8
    rw [r0_slices_Index_sint_int s0 v1 xt7 kk n xt8]
    have hb : (fun xt8 => iter (evF TT cs_slices_Index_sint_int 19 an_slices_Index_sint_int Try.f108 [1, 0, 1, 0, 0]) nm0_slices_Index_sint_int (kt0_slices_Index_sint_int (fin_slices_Index_sint_int s0 v1 kk)) n (can0_slices_Index_sint_int s0 v1 xt7 xt8)) = L0_slices_Index_sint_int s0 v1 xt7 (fun r0 => kk (.one (.c (.v (.int .i64 r0)))) []) n := by
      funext xt8; exact ih xt8
    rw [hb]
    rfl
theorem g_slices_Index_sint_int (s0 : List Int) (v1 : Int) (kk : AV → List A1 → Prop) :
    ev TT cs_slices_Index_sint_int 19 an_slices_Index_sint_int (Try.f108.body.getD .skip) (st0 con_slices_Index_sint_int [.c (.ro .int s0), .c (.v (.int .i64 v1))]) (fin TT con_slices_Index_sint_int Try.f108.results.toList [.c .sc] [.c (.ro .int s0), .c (.v (.int .i64 v1))] kk) = G_slices_Index_sint_int s0 v1 (fun s0 v1 xt7 xt8 => ∃ j, iter (evF TT cs_slices_Index_sint_int 19 an_slices_Index_sint_int Try.f108 [1, 0, 1, 0, 0]) nm0_slices_Index_sint_int (kt0_slices_Index_sint_int (fin_slices_Index_sint_int s0 v1 kk)) j (can0_slices_Index_sint_int s0 v1 xt7 xt8)) := by kernel_rfl
theorem e_slices_Index_sint_int (s0 : List Int) (v1 : Int) (kk : AV → List A1 → Prop) :
    ev TT cs_slices_Index_sint_int 19 an_slices_Index_sint_int (Try.f108.body.getD .skip) (st0 con_slices_Index_sint_int [.c (.ro .int s0), .c (.v (.int .i64 v1))]) (fin TT con_slices_Index_sint_int Try.f108.results.toList [.c .sc] [.c (.ro .int s0), .c (.v (.int .i64 v1))] kk) = S_slices_Index_sint_int s0 v1 (fun r0 => kk (.one (.c (.v (.int .i64 r0)))) []) := by
  rw [g_slices_Index_sint_int]
  have hi0 : (fun s0 v1 xt7 xt8 => ∃ j, iter (evF TT cs_slices_Index_sint_int 19 an_slices_Index_sint_int Try.f108 [1, 0, 1, 0, 0]) nm0_slices_Index_sint_int (kt0_slices_Index_sint_int (fin_slices_Index_sint_int s0 v1 kk)) j (can0_slices_Index_sint_int s0 v1 xt7 xt8)) = (fun s0 v1 xt7 xt8 => ∃ j, L0_slices_Index_sint_int s0 v1 xt7 (fun r0 => kk (.one (.c (.v (.int .i64 r0)))) []) j xt8) := by
    funext s0 v1 xt7 xt8
    refine congrArg Exists (funext fun j => ?_)
    rw [l0_slices_Index_sint_int s0 v1 xt7 kk j xt8]
  rw [hi0]
  rfl
theorem clok_slices_Index_sint_int : ConOK Try.prog cl_slices_Index_sint_int := consNil
theorem cok_slices_Index_sint_int : ConsOK Try.prog 19 cs_slices_Index_sint_int := ⟨clok_slices_Index_sint_int, inlNil⟩
theorem i_slices_Index_sint_int {vs : List A1} {kk : AV → List A1 → Prop} {motive : List A1 → Prop} (h : con_slices_Index_sint_int.F vs kk) (H : ∀ (s0 : List Int) (v1 : Int), F_slices_Index_sint_int s0 v1 (fun r0 => kk (.one (.c (.v (.int .i64 r0)))) []) → motive [.c (.ro .int s0), .c (.v (.int .i64 v1))]) : motive vs := by
  unfold con_slices_Index_sint_int at h
  dsimp only at h
  split at h
  · exact H _ _ h
  · exact h.elim
theorem h_slices_Index_sint_int : Holds Try.prog 108 con_slices_Index_sint_int := by
  refine holds_of_ev (rt := [.c .sc]) (T := TT) (Γ := cs_slices_Index_sint_int) (an := an_slices_Index_sint_int) (N := 19) (c := Try.f108.body.getD .skip) Try.func108 (by kernel_rfl) Try.ntmps108 (by decide) (by decide) mixed tabOK cok_slices_Index_sint_int (by kernel_rfl) ?_
  intro vs kk _ hF
  exact i_slices_Index_sint_int (motive := fun vs => Goes (ev TT cs_slices_Index_sint_int 19 an_slices_Index_sint_int (Try.f108.body.getD .skip) (st0 con_slices_Index_sint_int vs) (fin TT con_slices_Index_sint_int Try.f108.results.toList [.c .sc] vs kk))) hF (fun s0 v1 hF => goes_of (e_slices_Index_sint_int s0 v1 kk) (F_slices_Index_sint_int_S hF))
def con_slices_Contains_sint_int : Con := ⟨[.rd, .rd], true, [.c (.sl .int), .c (.sc)], fun vs k => match vs with
    | [.c (.ro .int s0), .c (.v (.int .i64 v1))] => F_slices_Contains_sint_int s0 v1 (fun r0 => k (.one (.c (.v (.bool r0)))) [])
    | _ => False, false⟩
def cl_slices_Contains_sint_int : List (FuncId × Con) := [(108, con_slices_Index_sint_int)]
def an_slices_Contains_sint_int : Ann := ⟨[], [], []⟩
def cs_slices_Contains_sint_int : Cons := ⟨cl_slices_Contains_sint_int, [], 0, [], []⟩
def fin_slices_Contains_sint_int (s0 : List Int) (v1 : Int) (kk : AV → List A1 → Prop) : Kt := fin TT con_slices_Contains_sint_int Try.f77.results.toList [.c .sc] [.c (.ro .int s0), .c (.v (.int .i64 v1))] kk
theorem g_slices_Contains_sint_int (s0 : List Int) (v1 : Int) (kk : AV → List A1 → Prop) :
    ev TT cs_slices_Contains_sint_int 9 an_slices_Contains_sint_int (Try.f77.body.getD .skip) (st0 con_slices_Contains_sint_int [.c (.ro .int s0), .c (.v (.int .i64 v1))]) (fin TT con_slices_Contains_sint_int Try.f77.results.toList [.c .sc] [.c (.ro .int s0), .c (.v (.int .i64 v1))] kk) = G_slices_Contains_sint_int s0 v1 (fun r0 => kk (.one (.c (.v (.bool r0)))) []) := by kernel_rfl
theorem e_slices_Contains_sint_int (s0 : List Int) (v1 : Int) (kk : AV → List A1 → Prop) :
    ev TT cs_slices_Contains_sint_int 9 an_slices_Contains_sint_int (Try.f77.body.getD .skip) (st0 con_slices_Contains_sint_int [.c (.ro .int s0), .c (.v (.int .i64 v1))]) (fin TT con_slices_Contains_sint_int Try.f77.results.toList [.c .sc] [.c (.ro .int s0), .c (.v (.int .i64 v1))] kk) = S_slices_Contains_sint_int s0 v1 (fun r0 => kk (.one (.c (.v (.bool r0)))) []) := by
  rw [g_slices_Contains_sint_int]
  rfl
theorem clok_slices_Contains_sint_int : ConOK Try.prog cl_slices_Contains_sint_int := consCons h_slices_Index_sint_int ⟨Try.f108, Try.func108, by kernel_rfl, ne_of_beq (by kernel_rfl)⟩ (consNil)
theorem cok_slices_Contains_sint_int : ConsOK Try.prog 9 cs_slices_Contains_sint_int := ⟨clok_slices_Contains_sint_int, inlNil⟩
theorem i_slices_Contains_sint_int {vs : List A1} {kk : AV → List A1 → Prop} {motive : List A1 → Prop} (h : con_slices_Contains_sint_int.F vs kk) (H : ∀ (s0 : List Int) (v1 : Int), F_slices_Contains_sint_int s0 v1 (fun r0 => kk (.one (.c (.v (.bool r0)))) []) → motive [.c (.ro .int s0), .c (.v (.int .i64 v1))]) : motive vs := by
  unfold con_slices_Contains_sint_int at h
  dsimp only at h
  split at h
  · exact H _ _ h
  · exact h.elim
theorem h_slices_Contains_sint_int : Holds Try.prog 77 con_slices_Contains_sint_int := by
  refine holds_of_ev (rt := [.c .sc]) (T := TT) (Γ := cs_slices_Contains_sint_int) (an := an_slices_Contains_sint_int) (N := 9) (c := Try.f77.body.getD .skip) Try.func77 (by kernel_rfl) Try.ntmps77 (by decide) (by decide) mixed tabOK cok_slices_Contains_sint_int (by kernel_rfl) ?_
  intro vs kk _ hF
  exact i_slices_Contains_sint_int (motive := fun vs => Goes (ev TT cs_slices_Contains_sint_int 9 an_slices_Contains_sint_int (Try.f77.body.getD .skip) (st0 con_slices_Contains_sint_int vs) (fin TT con_slices_Contains_sint_int Try.f77.results.toList [.c .sc] vs kk))) hF (fun s0 v1 hF => goes_of (e_slices_Contains_sint_int s0 v1 kk) (F_slices_Contains_sint_int_S hF))
def con_impl_differentKeys : Con := ⟨[.rd], true, [.c (.sl .int)], fun vs k => match vs with
    | [.c (.ro .int list0)] => F_impl_differentKeys list0 (fun r0 => k (.one (.c (.v (.bool r0)))) [])
    | _ => False, false⟩
def cl_impl_differentKeys : List (FuncId × Con) := [(58, con_impl_validKey), (77, con_slices_Contains_sint_int)]
def nm0_impl_differentKeys : List NStep := [.keep [0, 5, 6, 7] []]
def an_impl_differentKeys : Ann := ⟨[], [(2, nm0_impl_differentKeys)], []⟩
def cs_impl_differentKeys : Cons := ⟨cl_impl_differentKeys, [], 0, [], []⟩
def can0_impl_differentKeys (list0 : List Int) (xt6 : Int) (xt7 : Int) : St := ⟨[(0, .one (.c (.ro .int list0))), (5, .one (.c (.ro .int list0))), (6, .one (.c (.v (.int .i64 xt6)))), (7, .one (.c (.v (.int .i64 xt7))))], []⟩
def fin_impl_differentKeys (list0 : List Int) (kk : AV → List A1 → Prop) : Kt := fin TT con_impl_differentKeys Try.f70.results.toList [.c .sc] [.c (.ro .int list0)] kk
def kt0_impl_differentKeys (kf : Kt) : Kt := blockK 0 (seqK (evF TT cs_impl_differentKeys 23 an_impl_differentKeys Try.f70 [1, 1]) (kf))
theorem r0_impl_differentKeys (list0 : List Int) (xt6 : Int) (kk : AV → List A1 → Prop) (n : Nat) (xt7 : Int) :
    iter (evF TT cs_impl_differentKeys 23 an_impl_differentKeys Try.f70 [1, 0, 1, 0, 0]) nm0_impl_differentKeys (kt0_impl_differentKeys (fin_impl_differentKeys list0 kk)) (n + 1) (can0_impl_differentKeys list0 xt6 xt7) = T0_impl_differentKeys list0 xt6 xt7 (fun r0 => kk (.one (.c (.v (.bool r0)))) []) (fun xt7 => iter (evF TT cs_impl_differentKeys 23 an_impl_differentKeys Try.f70 [1, 0, 1, 0, 0]) nm0_impl_differentKeys (kt0_impl_differentKeys (fin_impl_differentKeys list0 kk)) n (can0_impl_differentKeys list0 xt6 xt7)) := by kernel_rfl
theorem l0_impl_differentKeys (list0 : List Int) (xt6 : Int) (kk : AV → List A1 → Prop) : ∀ (n : Nat) (xt7 : Int), iter (evF TT cs_impl_differentKeys 23 an_impl_differentKeys Try.f70 [1, 0, 1, 0, 0]) nm0_impl_differentKeys (kt0_impl_differentKeys (fin_impl_differentKeys list0 kk)) n (can0_impl_differentKeys list0 xt6 xt7) = L0_impl_differentKeys list0 xt6 (fun r0 => kk (.one (.c (.v (.bool r0)))) []) n xt7 := by
  intro n
  induction n with
  | zero => intros; rfl
  | succ n ih =>
    intro xt7
    rw [r0_impl_differentKeys list0 xt6 kk n xt7]
    have hb : (fun xt7 => iter (evF TT cs_impl_differentKeys 23 an_impl_differentKeys Try.f70 [1, 0, 1, 0, 0]) nm0_impl_differentKeys (kt0_impl_differentKeys (fin_impl_differentKeys list0 kk)) n (can0_impl_differentKeys list0 xt6 xt7)) = L0_impl_differentKeys list0 xt6 (fun r0 => kk (.one (.c (.v (.bool r0)))) []) n := by
      funext xt7; exact ih xt7
    rw [hb]
    rfl
theorem g_impl_differentKeys (list0 : List Int) (kk : AV → List A1 → Prop) :
    ev TT cs_impl_differentKeys 23 an_impl_differentKeys (Try.f70.body.getD .skip) (st0 con_impl_differentKeys [.c (.ro .int list0)]) (fin TT con_impl_differentKeys Try.f70.results.toList [.c .sc] [.c (.ro .int list0)] kk) = G_impl_differentKeys list0 (fun list0 xt6 xt7 => ∃ j, iter (evF TT cs_impl_differentKeys 23 an_impl_differentKeys Try.f70 [1, 0, 1, 0, 0]) nm0_impl_differentKeys (kt0_impl_differentKeys (fin_impl_differentKeys list0 kk)) j (can0_impl_differentKeys list0 xt6 xt7)) := by kernel_rfl
theorem e_impl_differentKeys (list0 : List Int) (kk : AV → List A1 → Prop) :
    ev TT cs_impl_differentKeys 23 an_impl_differentKeys (Try.f70.body.getD .skip) (st0 con_impl_differentKeys [.c (.ro .int list0)]) (fin TT con_impl_differentKeys Try.f70.results.toList [.c .sc] [.c (.ro .int list0)] kk) = S_impl_differentKeys list0 (fun r0 => kk (.one (.c (.v (.bool r0)))) []) := by
  rw [g_impl_differentKeys]
  have hi0 : (fun list0 xt6 xt7 => ∃ j, iter (evF TT cs_impl_differentKeys 23 an_impl_differentKeys Try.f70 [1, 0, 1, 0, 0]) nm0_impl_differentKeys (kt0_impl_differentKeys (fin_impl_differentKeys list0 kk)) j (can0_impl_differentKeys list0 xt6 xt7)) = (fun list0 xt6 xt7 => ∃ j, L0_impl_differentKeys list0 xt6 (fun r0 => kk (.one (.c (.v (.bool r0)))) []) j xt7) := by
    funext list0 xt6 xt7
    refine congrArg Exists (funext fun j => ?_)
    rw [l0_impl_differentKeys list0 xt6 kk j xt7]
  rw [hi0]
  rfl
theorem clok_impl_differentKeys : ConOK Try.prog cl_impl_differentKeys := consCons h_impl_validKey ⟨Try.f58, Try.func58, by kernel_rfl, ne_of_beq (by kernel_rfl)⟩ (consCons h_slices_Contains_sint_int ⟨Try.f77, Try.func77, by kernel_rfl, ne_of_beq (by kernel_rfl)⟩ (consNil))
theorem cok_impl_differentKeys : ConsOK Try.prog 23 cs_impl_differentKeys := ⟨clok_impl_differentKeys, inlNil⟩
theorem i_impl_differentKeys {vs : List A1} {kk : AV → List A1 → Prop} {motive : List A1 → Prop} (h : con_impl_differentKeys.F vs kk) (H : ∀ (list0 : List Int), F_impl_differentKeys list0 (fun r0 => kk (.one (.c (.v (.bool r0)))) []) → motive [.c (.ro .int list0)]) : motive vs := by
  unfold con_impl_differentKeys at h
  dsimp only at h
  split at h
  · exact H _ h
  · exact h.elim
theorem h_impl_differentKeys : Holds Try.prog 70 con_impl_differentKeys := by
  refine holds_of_ev (rt := [.c .sc]) (T := TT) (Γ := cs_impl_differentKeys) (an := an_impl_differentKeys) (N := 23) (c := Try.f70.body.getD .skip) Try.func70 (by kernel_rfl) Try.ntmps70 (by decide) (by decide) mixed tabOK cok_impl_differentKeys (by kernel_rfl) ?_
  intro vs kk _ hF
  exact i_impl_differentKeys (motive := fun vs => Goes (ev TT cs_impl_differentKeys 23 an_impl_differentKeys (Try.f70.body.getD .skip) (st0 con_impl_differentKeys vs) (fin TT con_impl_differentKeys Try.f70.results.toList [.c .sc] vs kk))) hF (fun list0 hF => goes_of (e_impl_differentKeys list0 kk) (F_impl_differentKeys_S hF))
def con_impl_ValidKeys : Con := ⟨[.rd, .rd], true, [.c (.sl .int), .c (.sc)], fun vs k => match vs with
    | [.c (.ro .int list0), .c (.v (.int .i64 room1))] => F_impl_ValidKeys list0 room1 (fun r0 => k (.one (.c (.v (.bool r0)))) [])
    | _ => False, false⟩
def cl_impl_ValidKeys : List (FuncId × Con) := [(70, con_impl_differentKeys), (85, con_impl_validRoom)]
def an_impl_ValidKeys : Ann := ⟨[], [], []⟩
def cs_impl_ValidKeys : Cons := ⟨cl_impl_ValidKeys, [], 0, [], []⟩
def fin_impl_ValidKeys (list0 : List Int) (room1 : Int) (kk : AV → List A1 → Prop) : Kt := fin TT con_impl_ValidKeys Try.f68.results.toList [.c .sc] [.c (.ro .int list0), .c (.v (.int .i64 room1))] kk
theorem g_impl_ValidKeys (list0 : List Int) (room1 : Int) (kk : AV → List A1 → Prop) :
    ev TT cs_impl_ValidKeys 17 an_impl_ValidKeys (Try.f68.body.getD .skip) (st0 con_impl_ValidKeys [.c (.ro .int list0), .c (.v (.int .i64 room1))]) (fin TT con_impl_ValidKeys Try.f68.results.toList [.c .sc] [.c (.ro .int list0), .c (.v (.int .i64 room1))] kk) = G_impl_ValidKeys list0 room1 (fun r0 => kk (.one (.c (.v (.bool r0)))) []) := by kernel_rfl
theorem e_impl_ValidKeys (list0 : List Int) (room1 : Int) (kk : AV → List A1 → Prop) :
    ev TT cs_impl_ValidKeys 17 an_impl_ValidKeys (Try.f68.body.getD .skip) (st0 con_impl_ValidKeys [.c (.ro .int list0), .c (.v (.int .i64 room1))]) (fin TT con_impl_ValidKeys Try.f68.results.toList [.c .sc] [.c (.ro .int list0), .c (.v (.int .i64 room1))] kk) = S_impl_ValidKeys list0 room1 (fun r0 => kk (.one (.c (.v (.bool r0)))) []) := by
  rw [g_impl_ValidKeys]
  rfl
theorem clok_impl_ValidKeys : ConOK Try.prog cl_impl_ValidKeys := consCons h_impl_differentKeys ⟨Try.f70, Try.func70, by kernel_rfl, ne_of_beq (by kernel_rfl)⟩ (consCons h_impl_validRoom ⟨Try.f85, Try.func85, by kernel_rfl, ne_of_beq (by kernel_rfl)⟩ (consNil))
theorem cok_impl_ValidKeys : ConsOK Try.prog 17 cs_impl_ValidKeys := ⟨clok_impl_ValidKeys, inlNil⟩
theorem i_impl_ValidKeys {vs : List A1} {kk : AV → List A1 → Prop} {motive : List A1 → Prop} (h : con_impl_ValidKeys.F vs kk) (H : ∀ (list0 : List Int) (room1 : Int), F_impl_ValidKeys list0 room1 (fun r0 => kk (.one (.c (.v (.bool r0)))) []) → motive [.c (.ro .int list0), .c (.v (.int .i64 room1))]) : motive vs := by
  unfold con_impl_ValidKeys at h
  dsimp only at h
  split at h
  · exact H _ _ h
  · exact h.elim
theorem h_impl_ValidKeys : Holds Try.prog 68 con_impl_ValidKeys := by
  refine holds_of_ev (rt := [.c .sc]) (T := TT) (Γ := cs_impl_ValidKeys) (an := an_impl_ValidKeys) (N := 17) (c := Try.f68.body.getD .skip) Try.func68 (by kernel_rfl) Try.ntmps68 (by decide) (by decide) mixed tabOK cok_impl_ValidKeys (by kernel_rfl) ?_
  intro vs kk _ hF
  exact i_impl_ValidKeys (motive := fun vs => Goes (ev TT cs_impl_ValidKeys 17 an_impl_ValidKeys (Try.f68.body.getD .skip) (st0 con_impl_ValidKeys vs) (fin TT con_impl_ValidKeys Try.f68.results.toList [.c .sc] vs kk))) hF (fun list0 room1 hF => goes_of (e_impl_ValidKeys list0 room1 kk) (F_impl_ValidKeys_S hF))
def con_impl_ValidSketch : Con := ⟨[.rd], true, [.c (.sl .int)], fun vs k => match vs with
    | [.c (.ro .int s0)] => F_impl_ValidSketch s0 (fun r0 => k (.one (.c (.v (.bool r0)))) [])
    | _ => False, false⟩
def cl_impl_ValidSketch : List (FuncId × Con) := []
def nm0_impl_ValidSketch : List NStep := [.keep [8, 9, 10] []]
def an_impl_ValidSketch : Ann := ⟨[], [(4, nm0_impl_ValidSketch)], []⟩
def cs_impl_ValidSketch : Cons := ⟨cl_impl_ValidSketch, [], 0, [], []⟩
def can0_impl_ValidSketch (s0 : List Int) (xt9 : Int) (xt10 : Int) : St := ⟨[(8, .one (.c (.ro .int s0))), (9, .one (.c (.v (.int .i64 xt9)))), (10, .one (.c (.v (.int .i64 xt10))))], []⟩
def fin_impl_ValidSketch (s0 : List Int) (kk : AV → List A1 → Prop) : Kt := fin TT con_impl_ValidSketch Try.f69.results.toList [.c .sc] [.c (.ro .int s0)] kk
def kt0_impl_ValidSketch (kf : Kt) : Kt := blockK 0 (seqK (evF TT cs_impl_ValidSketch 21 an_impl_ValidSketch Try.f69 [1, 1, 1]) (kf))
theorem r0_impl_ValidSketch (s0 : List Int) (xt9 : Int) (kk : AV → List A1 → Prop) (n : Nat) (xt10 : Int) :
    iter (evF TT cs_impl_ValidSketch 21 an_impl_ValidSketch Try.f69 [1, 1, 0, 1, 0, 0]) nm0_impl_ValidSketch (kt0_impl_ValidSketch (fin_impl_ValidSketch s0 kk)) (n + 1) (can0_impl_ValidSketch s0 xt9 xt10) = T0_impl_ValidSketch s0 xt9 xt10 (fun r0 => kk (.one (.c (.v (.bool r0)))) []) (fun xt10 => iter (evF TT cs_impl_ValidSketch 21 an_impl_ValidSketch Try.f69 [1, 1, 0, 1, 0, 0]) nm0_impl_ValidSketch (kt0_impl_ValidSketch (fin_impl_ValidSketch s0 kk)) n (can0_impl_ValidSketch s0 xt9 xt10)) := by kernel_rfl
theorem l0_impl_ValidSketch (s0 : List Int) (xt9 : Int) (kk : AV → List A1 → Prop) : ∀ (n : Nat) (xt10 : Int), iter (evF TT cs_impl_ValidSketch 21 an_impl_ValidSketch Try.f69 [1, 1, 0, 1, 0, 0]) nm0_impl_ValidSketch (kt0_impl_ValidSketch (fin_impl_ValidSketch s0 kk)) n (can0_impl_ValidSketch s0 xt9 xt10) = L0_impl_ValidSketch s0 xt9 (fun r0 => kk (.one (.c (.v (.bool r0)))) []) n xt10 := by
  intro n
  induction n with
  | zero => intros; rfl
  | succ n ih =>
    intro xt10
    rw [r0_impl_ValidSketch s0 xt9 kk n xt10]
    have hb : (fun xt10 => iter (evF TT cs_impl_ValidSketch 21 an_impl_ValidSketch Try.f69 [1, 1, 0, 1, 0, 0]) nm0_impl_ValidSketch (kt0_impl_ValidSketch (fin_impl_ValidSketch s0 kk)) n (can0_impl_ValidSketch s0 xt9 xt10)) = L0_impl_ValidSketch s0 xt9 (fun r0 => kk (.one (.c (.v (.bool r0)))) []) n := by
      funext xt10; exact ih xt10
    rw [hb]
    rfl
theorem g_impl_ValidSketch (s0 : List Int) (kk : AV → List A1 → Prop) :
    ev TT cs_impl_ValidSketch 21 an_impl_ValidSketch (Try.f69.body.getD .skip) (st0 con_impl_ValidSketch [.c (.ro .int s0)]) (fin TT con_impl_ValidSketch Try.f69.results.toList [.c .sc] [.c (.ro .int s0)] kk) = G_impl_ValidSketch s0 (fun r0 => kk (.one (.c (.v (.bool r0)))) []) (fun s0 xt9 xt10 => ∃ j, iter (evF TT cs_impl_ValidSketch 21 an_impl_ValidSketch Try.f69 [1, 1, 0, 1, 0, 0]) nm0_impl_ValidSketch (kt0_impl_ValidSketch (fin_impl_ValidSketch s0 kk)) j (can0_impl_ValidSketch s0 xt9 xt10)) := by kernel_rfl
theorem e_impl_ValidSketch (s0 : List Int) (kk : AV → List A1 → Prop) :
    ev TT cs_impl_ValidSketch 21 an_impl_ValidSketch (Try.f69.body.getD .skip) (st0 con_impl_ValidSketch [.c (.ro .int s0)]) (fin TT con_impl_ValidSketch Try.f69.results.toList [.c .sc] [.c (.ro .int s0)] kk) = S_impl_ValidSketch s0 (fun r0 => kk (.one (.c (.v (.bool r0)))) []) := by
  rw [g_impl_ValidSketch]
  have hi0 : (fun s0 xt9 xt10 => ∃ j, iter (evF TT cs_impl_ValidSketch 21 an_impl_ValidSketch Try.f69 [1, 1, 0, 1, 0, 0]) nm0_impl_ValidSketch (kt0_impl_ValidSketch (fin_impl_ValidSketch s0 kk)) j (can0_impl_ValidSketch s0 xt9 xt10)) = (fun s0 xt9 xt10 => ∃ j, L0_impl_ValidSketch s0 xt9 (fun r0 => kk (.one (.c (.v (.bool r0)))) []) j xt10) := by
    funext s0 xt9 xt10
    refine congrArg Exists (funext fun j => ?_)
    rw [l0_impl_ValidSketch s0 xt9 kk j xt10]
  rw [hi0]
  rfl
theorem clok_impl_ValidSketch : ConOK Try.prog cl_impl_ValidSketch := consNil
theorem cok_impl_ValidSketch : ConsOK Try.prog 21 cs_impl_ValidSketch := ⟨clok_impl_ValidSketch, inlNil⟩
theorem i_impl_ValidSketch {vs : List A1} {kk : AV → List A1 → Prop} {motive : List A1 → Prop} (h : con_impl_ValidSketch.F vs kk) (H : ∀ (s0 : List Int), F_impl_ValidSketch s0 (fun r0 => kk (.one (.c (.v (.bool r0)))) []) → motive [.c (.ro .int s0)]) : motive vs := by
  unfold con_impl_ValidSketch at h
  dsimp only at h
  split at h
  · exact H _ h
  · exact h.elim
theorem h_impl_ValidSketch : Holds Try.prog 69 con_impl_ValidSketch := by
  refine holds_of_ev (rt := [.c .sc]) (T := TT) (Γ := cs_impl_ValidSketch) (an := an_impl_ValidSketch) (N := 21) (c := Try.f69.body.getD .skip) Try.func69 (by kernel_rfl) Try.ntmps69 (by decide) (by decide) mixed tabOK cok_impl_ValidSketch (by kernel_rfl) ?_
  intro vs kk _ hF
  exact i_impl_ValidSketch (motive := fun vs => Goes (ev TT cs_impl_ValidSketch 21 an_impl_ValidSketch (Try.f69.body.getD .skip) (st0 con_impl_ValidSketch vs) (fin TT con_impl_ValidSketch Try.f69.results.toList [.c .sc] vs kk))) hF (fun s0 hF => goes_of (e_impl_ValidSketch s0 kk) (F_impl_ValidSketch_S hF))
def con_slices_Concat_sint_int : Con := ⟨[.rd], true, [.c (.sll .int)], fun vs k => match vs with
    | [.c (.rol .int slices0)] => F_slices_Concat_sint_int slices0 (fun r0 => k (.one (.c (.ro .int r0))) [])
    | _ => False, false⟩
def cl_slices_Concat_sint_int : List (FuncId × Con) := []
def nm1_slices_Concat_sint_int : List NStep := [.own 6 .int 90100, .keep [6, 25, 26, 27] [90100]]
def nm0_slices_Concat_sint_int : List NStep := [.keep [0, 3, 9, 10, 11] []]
def an_slices_Concat_sint_int_i1 : Ann := ⟨[], [], []⟩
def cs_slices_Concat_sint_int_i1 : Cons := ⟨cl_slices_Concat_sint_int, [], 592, [], []⟩
def an_slices_Concat_sint_int : Ann := ⟨[], [(11, nm1_slices_Concat_sint_int), (3, nm0_slices_Concat_sint_int)], []⟩
def cs_slices_Concat_sint_int : Cons := ⟨cl_slices_Concat_sint_int, [(24, ⟨102, inlG TT cs_slices_Concat_sint_int_i1 36 27 an_slices_Concat_sint_int_i1 (Try.f102.body.getD .skip) Try.f102.results.toList⟩)], 0, [], []⟩
def can1_slices_Concat_sint_int (slices0 : List (List Int)) (xt26 : Int) (xt27 : Int) (xnewslice6 : List Int) : St := ⟨[(6, .one (.c (.ow 90100))), (25, .one (.c (.rol .int slices0))), (26, .one (.c (.v (.int .i64 xt26)))), (27, .one (.c (.v (.int .i64 xt27))))], [(90100, .row .int xnewslice6)]⟩
def can0_slices_Concat_sint_int (slices0 : List (List Int)) (xt10 : Int) (xsize3 : Int) (xt11 : Int) : St := ⟨[(0, .one (.c (.rol .int slices0))), (3, .one (.c (.v (.int .i64 xsize3)))), (9, .one (.c (.rol .int slices0))), (10, .one (.c (.v (.int .i64 xt10)))), (11, .one (.c (.v (.int .i64 xt11))))], []⟩
def fin_slices_Concat_sint_int (slices0 : List (List Int)) (kk : AV → List A1 → Prop) : Kt := fin TT con_slices_Concat_sint_int Try.f71.results.toList [.c (.sl .int)] [.c (.rol .int slices0)] kk
def kt1_slices_Concat_sint_int (kf : Kt) : Kt := blockK 2 (seqK (evF TT cs_slices_Concat_sint_int 36 an_slices_Concat_sint_int Try.f71 [1, 1, 1, 1, 1]) (kf))
def kt0_slices_Concat_sint_int (kf : Kt) : Kt := blockK 0 (seqK (evF TT cs_slices_Concat_sint_int 36 an_slices_Concat_sint_int Try.f71 [1, 1, 1]) (kf))
theorem r1_slices_Concat_sint_int (slices0 : List (List Int)) (kk : AV → List A1 → Prop) (n : Nat) (xt26 : Int) (xt27 : Int) (xnewslice6 : List Int) :
    iter (evF TT cs_slices_Concat_sint_int 36 an_slices_Concat_sint_int Try.f71 [1, 1, 1, 1, 0, 1, 0, 0]) nm1_slices_Concat_sint_int (kt1_slices_Concat_sint_int (fin_slices_Concat_sint_int slices0 kk)) (n + 1) (can1_slices_Concat_sint_int slices0 xt26 xt27 xnewslice6) = T1_slices_Concat_sint_int slices0 xt26 xt27 xnewslice6 (fun r0 => kk (.one (.c (.ro .int r0))) []) (fun xt26 xt27 xnewslice6 => iter (evF TT cs_slices_Concat_sint_int 36 an_slices_Concat_sint_int Try.f71 [1, 1, 1, 1, 0, 1, 0, 0]) nm1_slices_Concat_sint_int (kt1_slices_Concat_sint_int (fin_slices_Concat_sint_int slices0 kk)) n (can1_slices_Concat_sint_int slices0 xt26 xt27 xnewslice6)) := by kernel_rfl
theorem l1_slices_Concat_sint_int (slices0 : List (List Int)) (kk : AV → List A1 → Prop) : ∀ (n : Nat) (xt26 : Int) (xt27 : Int) (xnewslice6 : List Int), iter (evF TT cs_slices_Concat_sint_int 36 an_slices_Concat_sint_int Try.f71 [1, 1, 1, 1, 0, 1, 0, 0]) nm1_slices_Concat_sint_int (kt1_slices_Concat_sint_int (fin_slices_Concat_sint_int slices0 kk)) n (can1_slices_Concat_sint_int slices0 xt26 xt27 xnewslice6) = L1_slices_Concat_sint_int slices0 (fun r0 => kk (.one (.c (.ro .int r0))) []) n xt26 xt27 xnewslice6 := by
  intro n
  induction n with
  | zero => intros; rfl
  | succ n ih =>
    intro xt26 xt27 xnewslice6
    rw [r1_slices_Concat_sint_int slices0 kk n xt26 xt27 xnewslice6]
    have hb : (fun xt26 xt27 xnewslice6 => iter (evF TT cs_slices_Concat_sint_int 36 an_slices_Concat_sint_int Try.f71 [1, 1, 1, 1, 0, 1, 0, 0]) nm1_slices_Concat_sint_int (kt1_slices_Concat_sint_int (fin_slices_Concat_sint_int slices0 kk)) n (can1_slices_Concat_sint_int slices0 xt26 xt27 xnewslice6)) = L1_slices_Concat_sint_int slices0 (fun r0 => kk (.one (.c (.ro .int r0))) []) n := by
      funext xt26 xt27 xnewslice6; exact ih xt26 xt27 xnewslice6
    rw [hb]
    rfl
theorem r0_slices_Concat_sint_int (slices0 : List (List Int)) (xt10 : Int) (kk : AV → List A1 → Prop) (n : Nat) (xsize3 : Int) (xt11 : Int) :
    iter (evF TT cs_slices_Concat_sint_int 36 an_slices_Concat_sint_int Try.f71 [1, 1, 0, 1, 0, 0]) nm0_slices_Concat_sint_int (kt0_slices_Concat_sint_int (fin_slices_Concat_sint_int slices0 kk)) (n + 1) (can0_slices_Concat_sint_int slices0 xt10 xsize3 xt11) = T0_slices_Concat_sint_int slices0 xt10 xsize3 xt11 (fun xsize3 xt11 => iter (evF TT cs_slices_Concat_sint_int 36 an_slices_Concat_sint_int Try.f71 [1, 1, 0, 1, 0, 0]) nm0_slices_Concat_sint_int (kt0_slices_Concat_sint_int (fin_slices_Concat_sint_int slices0 kk)) n (can0_slices_Concat_sint_int slices0 xt10 xsize3 xt11)) (fun slices0 xt26 xt27 xnewslice6 => ∃ j, iter (evF TT cs_slices_Concat_sint_int 36 an_slices_Concat_sint_int Try.f71 [1, 1, 1, 1, 0, 1, 0, 0]) nm1_slices_Concat_sint_int (kt1_slices_Concat_sint_int (fin_slices_Concat_sint_int slices0 kk)) j (can1_slices_Concat_sint_int slices0 xt26 xt27 xnewslice6)) := by kernel_rfl
theorem l0_slices_Concat_sint_int (slices0 : List (List Int)) (xt10 : Int) (kk : AV → List A1 → Prop) : ∀ (n : Nat) (xsize3 : Int) (xt11 : Int), iter (evF TT cs_slices_Concat_sint_int 36 an_slices_Concat_sint_int Try.f71 [1, 1, 0, 1, 0, 0]) nm0_slices_Concat_sint_int (kt0_slices_Concat_sint_int (fin_slices_Concat_sint_int slices0 kk)) n (can0_slices_Concat_sint_int slices0 xt10 xsize3 xt11) = L0_slices_Concat_sint_int slices0 xt10 (fun r0 => kk (.one (.c (.ro .int r0))) []) n xsize3 xt11 := by
  intro n
  induction n generalizing slices0 xt10 with
  | zero => intros; rfl
  | succ n ih =>
    intro xsize3 xt11
    rw [r0_slices_Concat_sint_int slices0 xt10 kk n xsize3 xt11]
    have hb : ∀ (slices0 : List (List Int)) (xt10 : Int), (fun xsize3 xt11 => iter (evF TT cs_slices_Concat_sint_int 36 an_slices_Concat_sint_int Try.f71 [1, 1, 0, 1, 0, 0]) nm0_slices_Concat_sint_int (kt0_slices_Concat_sint_int (fin_slices_Concat_sint_int slices0 kk)) n (can0_slices_Concat_sint_int slices0 xt10 xsize3 xt11)) = L0_slices_Concat_sint_int slices0 xt10 (fun r0 => kk (.one (.c (.ro .int r0))) []) n := by
      intro slices0 xt10
      funext xsize3 xt11; exact ih slices0 xt10 xsize3 xt11
    have hi1 : (fun slices0 xt26 xt27 xnewslice6 => ∃ j, iter (evF TT cs_slices_Concat_sint_int 36 an_slices_Concat_sint_int Try.f71 [1, 1, 1, 1, 0, 1, 0, 0]) nm1_slices_Concat_sint_int (kt1_slices_Concat_sint_int (fin_slices_Concat_sint_int slices0 kk)) j (can1_slices_Concat_sint_int slices0 xt26 xt27 xnewslice6)) = (fun slices0 xt26 xt27 xnewslice6 => ∃ j, L1_slices_Concat_sint_int slices0 (fun r0 => kk (.one (.c (.ro .int r0))) []) j xt26 xt27 xnewslice6) := by
      funext slices0 xt26 xt27 xnewslice6
      refine congrArg Exists (funext fun j => ?_)
      rw [l1_slices_Concat_sint_int slices0 kk j xt26 xt27 xnewslice6]
    rw [hb, hi1]
    rfl
theorem g_slices_Concat_sint_int (slices0 : List (List Int)) (kk : AV → List A1 → Prop) :
    ev TT cs_slices_Concat_sint_int 36 an_slices_Concat_sint_int (Try.f71.body.getD .skip) (st0 con_slices_Concat_sint_int [.c (.rol .int slices0)]) (fin TT con_slices_Concat_sint_int Try.f71.results.toList [.c (.sl .int)] [.c (.rol .int slices0)] kk) = G_slices_Concat_sint_int slices0 (fun slices0 xt10 xsize3 xt11 => ∃ j, iter (evF TT cs_slices_Concat_sint_int 36 an_slices_Concat_sint_int Try.f71 [1, 1, 0, 1, 0, 0]) nm0_slices_Concat_sint_int (kt0_slices_Concat_sint_int (fin_slices_Concat_sint_int slices0 kk)) j (can0_slices_Concat_sint_int slices0 xt10 xsize3 xt11)) := by kernel_rfl
theorem e_slices_Concat_sint_int (slices0 : List (List Int)) (kk : AV → List A1 → Prop) :
    ev TT cs_slices_Concat_sint_int 36 an_slices_Concat_sint_int (Try.f71.body.getD .skip) (st0 con_slices_Concat_sint_int [.c (.rol .int slices0)]) (fin TT con_slices_Concat_sint_int Try.f71.results.toList [.c (.sl .int)] [.c (.rol .int slices0)] kk) = S_slices_Concat_sint_int slices0 (fun r0 => kk (.one (.c (.ro .int r0))) []) := by
  rw [g_slices_Concat_sint_int]
  have hi0 : (fun slices0 xt10 xsize3 xt11 => ∃ j, iter (evF TT cs_slices_Concat_sint_int 36 an_slices_Concat_sint_int Try.f71 [1, 1, 0, 1, 0, 0]) nm0_slices_Concat_sint_int (kt0_slices_Concat_sint_int (fin_slices_Concat_sint_int slices0 kk)) j (can0_slices_Concat_sint_int slices0 xt10 xsize3 xt11)) = (fun slices0 xt10 xsize3 xt11 => ∃ j, L0_slices_Concat_sint_int slices0 xt10 (fun r0 => kk (.one (.c (.ro .int r0))) []) j xsize3 xt11) := by
    funext slices0 xt10 xsize3 xt11
    refine congrArg Exists (funext fun j => ?_)
    rw [l0_slices_Concat_sint_int slices0 xt10 kk j xsize3 xt11]
  rw [hi0]
  rfl
theorem clok_slices_Concat_sint_int : ConOK Try.prog cl_slices_Concat_sint_int := consNil
theorem cok_slices_Concat_sint_int_i1 : ConsOK Try.prog 27 cs_slices_Concat_sint_int_i1 := ⟨clok_slices_Concat_sint_int, inlNil⟩
theorem cok_slices_Concat_sint_int : ConsOK Try.prog 36 cs_slices_Concat_sint_int := ⟨clok_slices_Concat_sint_int, inlCons (inl_ok Try.func102 (by kernel_rfl) (ne_of_beq (by kernel_rfl)) Try.ntmps102 (by decide) mixed tabOK cok_slices_Concat_sint_int_i1 (by kernel_rfl)) (inlNil)⟩
theorem i_slices_Concat_sint_int {vs : List A1} {kk : AV → List A1 → Prop} {motive : List A1 → Prop} (h : con_slices_Concat_sint_int.F vs kk) (H : ∀ (slices0 : List (List Int)), F_slices_Concat_sint_int slices0 (fun r0 => kk (.one (.c (.ro .int r0))) []) → motive [.c (.rol .int slices0)]) : motive vs := by
  unfold con_slices_Concat_sint_int at h
  dsimp only at h
  split at h
  · exact H _ h
  · exact h.elim
theorem h_slices_Concat_sint_int : Holds Try.prog 71 con_slices_Concat_sint_int := by
  refine holds_of_ev (rt := [.c (.sl .int)]) (T := TT) (Γ := cs_slices_Concat_sint_int) (an := an_slices_Concat_sint_int) (N := 36) (c := Try.f71.body.getD .skip) Try.func71 (by kernel_rfl) Try.ntmps71 (by decide) (by decide) mixed tabOK cok_slices_Concat_sint_int (by kernel_rfl) ?_
  intro vs kk _ hF
  exact i_slices_Concat_sint_int (motive := fun vs => Goes (ev TT cs_slices_Concat_sint_int 36 an_slices_Concat_sint_int (Try.f71.body.getD .skip) (st0 con_slices_Concat_sint_int vs) (fin TT con_slices_Concat_sint_int Try.f71.results.toList [.c (.sl .int)] vs kk))) hF (fun slices0 hF => goes_of (e_slices_Concat_sint_int slices0 kk) (F_slices_Concat_sint_int_S hF))
def con_impl_ValidGate : Con := ⟨[.rd], true, [.agg [.sc, .sc, .sl .int, .sl .int, .sl .int, .sc]], fun vs k => match vs with
    | [.agg [.v (.int .i64 g0Window), .v (.int .i64 g0Room), .ro .int g0New, .ro .int g0Main, .ro .int g0Sketch, .v (.int .i64 g0Added)]] => F_impl_ValidGate g0Window g0Room g0New g0Main g0Sketch g0Added (fun r0 => k (.one (.c (.v (.bool r0)))) [])
    | _ => False, false⟩
def cl_impl_ValidGate : List (FuncId × Con) := [(68, con_impl_ValidKeys), (69, con_impl_ValidSketch), (70, con_impl_differentKeys), (71, con_slices_Concat_sint_int)]
def an_impl_ValidGate : Ann := ⟨[], [], []⟩
def cs_impl_ValidGate : Cons := ⟨cl_impl_ValidGate, [], 0, [], []⟩
def fin_impl_ValidGate (g0Window : Int) (g0Room : Int) (g0New : List Int) (g0Main : List Int) (g0Sketch : List Int) (g0Added : Int) (kk : AV → List A1 → Prop) : Kt := fin TT con_impl_ValidGate Try.f40.results.toList [.c .sc] [.agg [.v (.int .i64 g0Window), .v (.int .i64 g0Room), .ro .int g0New, .ro .int g0Main, .ro .int g0Sketch, .v (.int .i64 g0Added)]] kk
theorem g_impl_ValidGate (g0Window : Int) (g0Room : Int) (g0New : List Int) (g0Main : List Int) (g0Sketch : List Int) (g0Added : Int) (kk : AV → List A1 → Prop) :
    ev TT cs_impl_ValidGate 40 an_impl_ValidGate (Try.f40.body.getD .skip) (st0 con_impl_ValidGate [.agg [.v (.int .i64 g0Window), .v (.int .i64 g0Room), .ro .int g0New, .ro .int g0Main, .ro .int g0Sketch, .v (.int .i64 g0Added)]]) (fin TT con_impl_ValidGate Try.f40.results.toList [.c .sc] [.agg [.v (.int .i64 g0Window), .v (.int .i64 g0Room), .ro .int g0New, .ro .int g0Main, .ro .int g0Sketch, .v (.int .i64 g0Added)]] kk) = G_impl_ValidGate g0Window g0Room g0New g0Main g0Sketch g0Added (fun r0 => kk (.one (.c (.v (.bool r0)))) []) := by kernel_rfl
theorem e_impl_ValidGate (g0Window : Int) (g0Room : Int) (g0New : List Int) (g0Main : List Int) (g0Sketch : List Int) (g0Added : Int) (kk : AV → List A1 → Prop) :
    ev TT cs_impl_ValidGate 40 an_impl_ValidGate (Try.f40.body.getD .skip) (st0 con_impl_ValidGate [.agg [.v (.int .i64 g0Window), .v (.int .i64 g0Room), .ro .int g0New, .ro .int g0Main, .ro .int g0Sketch, .v (.int .i64 g0Added)]]) (fin TT con_impl_ValidGate Try.f40.results.toList [.c .sc] [.agg [.v (.int .i64 g0Window), .v (.int .i64 g0Room), .ro .int g0New, .ro .int g0Main, .ro .int g0Sketch, .v (.int .i64 g0Added)]] kk) = S_impl_ValidGate g0Window g0Room g0New g0Main g0Sketch g0Added (fun r0 => kk (.one (.c (.v (.bool r0)))) []) := by
  rw [g_impl_ValidGate]
  rfl
theorem clok_impl_ValidGate : ConOK Try.prog cl_impl_ValidGate := consCons h_impl_ValidKeys ⟨Try.f68, Try.func68, by kernel_rfl, ne_of_beq (by kernel_rfl)⟩ (consCons h_impl_ValidSketch ⟨Try.f69, Try.func69, by kernel_rfl, ne_of_beq (by kernel_rfl)⟩ (consCons h_impl_differentKeys ⟨Try.f70, Try.func70, by kernel_rfl, ne_of_beq (by kernel_rfl)⟩ (consCons h_slices_Concat_sint_int ⟨Try.f71, Try.func71, by kernel_rfl, ne_of_beq (by kernel_rfl)⟩ (consNil))))
theorem cok_impl_ValidGate : ConsOK Try.prog 40 cs_impl_ValidGate := ⟨clok_impl_ValidGate, inlNil⟩
theorem i_impl_ValidGate {vs : List A1} {kk : AV → List A1 → Prop} {motive : List A1 → Prop} (h : con_impl_ValidGate.F vs kk) (H : ∀ (g0Window : Int) (g0Room : Int) (g0New : List Int) (g0Main : List Int) (g0Sketch : List Int) (g0Added : Int), F_impl_ValidGate g0Window g0Room g0New g0Main g0Sketch g0Added (fun r0 => kk (.one (.c (.v (.bool r0)))) []) → motive [.agg [.v (.int .i64 g0Window), .v (.int .i64 g0Room), .ro .int g0New, .ro .int g0Main, .ro .int g0Sketch, .v (.int .i64 g0Added)]]) : motive vs := by
  unfold con_impl_ValidGate at h
  dsimp only at h
  split at h
  · exact H _ _ _ _ _ _ h
  · exact h.elim
theorem h_impl_ValidGate : Holds Try.prog 40 con_impl_ValidGate := by
  refine holds_of_ev (rt := [.c .sc]) (T := TT) (Γ := cs_impl_ValidGate) (an := an_impl_ValidGate) (N := 40) (c := Try.f40.body.getD .skip) Try.func40 (by kernel_rfl) Try.ntmps40 (by decide) (by decide) mixed tabOK cok_impl_ValidGate (by kernel_rfl) ?_
  intro vs kk _ hF
  exact i_impl_ValidGate (motive := fun vs => Goes (ev TT cs_impl_ValidGate 40 an_impl_ValidGate (Try.f40.body.getD .skip) (st0 con_impl_ValidGate vs) (fin TT con_impl_ValidGate Try.f40.results.toList [.c .sc] vs kk))) hF (fun g0Window g0Room g0New g0Main g0Sketch g0Added hF => goes_of (e_impl_ValidGate g0Window g0Room g0New g0Main g0Sketch g0Added kk) (F_impl_ValidGate_S hF))
def con_laws_eqIntS : Con := ⟨[.rd, .rd], true, [.c (.sl .int), .c (.sl .int)], fun vs k => match vs with
    | [.c (.ro .int a0), .c (.ro .int b1)] => F_laws_eqIntS a0 b1 (fun r0 => k (.one (.c (.v (.bool r0)))) [])
    | _ => False, false⟩
def cl_laws_eqIntS : List (FuncId × Con) := []
def nm0_laws_eqIntS : List NStep := [.keep [0, 1, 5] []]
def an_laws_eqIntS : Ann := ⟨[(6, .take 0 (.take 1 (.take 2 (.take 3 (.take 4 (.take 5 (.take 6 (.take 7 (.take 8 (.done))))))))), [])], [(4, nm0_laws_eqIntS)], []⟩
def cs_laws_eqIntS : Cons := ⟨cl_laws_eqIntS, [], 0, [], []⟩
def can0_laws_eqIntS (a0 : List Int) (b1 : List Int) (xi5 : Int) : St := ⟨[(0, .one (.c (.ro .int a0))), (1, .one (.c (.ro .int b1))), (5, .one (.c (.v (.int .i64 xi5))))], []⟩
def fin_laws_eqIntS (a0 : List Int) (b1 : List Int) (kk : AV → List A1 → Prop) : Kt := fin TT con_laws_eqIntS Try.f49.results.toList [.c .sc] [.c (.ro .int a0), .c (.ro .int b1)] kk
def kt0_laws_eqIntS (kf : Kt) : Kt := blockK 0 (seqK (evF TT cs_laws_eqIntS 26 an_laws_eqIntS Try.f49 [1, 1, 1]) (kf))
theorem r0_laws_eqIntS (a0 : List Int) (b1 : List Int) (kk : AV → List A1 → Prop) (n : Nat) (xi5 : Int) :
    iter (evF TT cs_laws_eqIntS 26 an_laws_eqIntS Try.f49 [1, 1, 0, 1, 0, 0]) nm0_laws_eqIntS (kt0_laws_eqIntS (fin_laws_eqIntS a0 b1 kk)) (n + 1) (can0_laws_eqIntS a0 b1 xi5) = T0_laws_eqIntS a0 b1 xi5 (fun r0 => kk (.one (.c (.v (.bool r0)))) []) (fun xi5 => iter (evF TT cs_laws_eqIntS 26 an_laws_eqIntS Try.f49 [1, 1, 0, 1, 0, 0]) nm0_laws_eqIntS (kt0_laws_eqIntS (fin_laws_eqIntS a0 b1 kk)) n (can0_laws_eqIntS a0 b1 xi5)) := by kernel_rfl
theorem l0_laws_eqIntS (a0 : List Int) (b1 : List Int) (kk : AV → List A1 → Prop) : ∀ (n : Nat) (xi5 : Int), iter (evF TT cs_laws_eqIntS 26 an_laws_eqIntS Try.f49 [1, 1, 0, 1, 0, 0]) nm0_laws_eqIntS (kt0_laws_eqIntS (fin_laws_eqIntS a0 b1 kk)) n (can0_laws_eqIntS a0 b1 xi5) = L0_laws_eqIntS a0 b1 (fun r0 => kk (.one (.c (.v (.bool r0)))) []) n xi5 := by
  intro n
  induction n with
  | zero => intros; rfl
  | succ n ih =>
    intro xi5
    rw [r0_laws_eqIntS a0 b1 kk n xi5]
    have hb : (fun xi5 => iter (evF TT cs_laws_eqIntS 26 an_laws_eqIntS Try.f49 [1, 1, 0, 1, 0, 0]) nm0_laws_eqIntS (kt0_laws_eqIntS (fin_laws_eqIntS a0 b1 kk)) n (can0_laws_eqIntS a0 b1 xi5)) = L0_laws_eqIntS a0 b1 (fun r0 => kk (.one (.c (.v (.bool r0)))) []) n := by
      funext xi5; exact ih xi5
    rw [hb]
    rfl
theorem g_laws_eqIntS (a0 : List Int) (b1 : List Int) (kk : AV → List A1 → Prop) :
    ev TT cs_laws_eqIntS 26 an_laws_eqIntS (Try.f49.body.getD .skip) (st0 con_laws_eqIntS [.c (.ro .int a0), .c (.ro .int b1)]) (fin TT con_laws_eqIntS Try.f49.results.toList [.c .sc] [.c (.ro .int a0), .c (.ro .int b1)] kk) = G_laws_eqIntS a0 b1 (fun r0 => kk (.one (.c (.v (.bool r0)))) []) (fun a0 b1 xi5 => ∃ j, iter (evF TT cs_laws_eqIntS 26 an_laws_eqIntS Try.f49 [1, 1, 0, 1, 0, 0]) nm0_laws_eqIntS (kt0_laws_eqIntS (fin_laws_eqIntS a0 b1 kk)) j (can0_laws_eqIntS a0 b1 xi5)) := by kernel_rfl
theorem e_laws_eqIntS (a0 : List Int) (b1 : List Int) (kk : AV → List A1 → Prop) :
    ev TT cs_laws_eqIntS 26 an_laws_eqIntS (Try.f49.body.getD .skip) (st0 con_laws_eqIntS [.c (.ro .int a0), .c (.ro .int b1)]) (fin TT con_laws_eqIntS Try.f49.results.toList [.c .sc] [.c (.ro .int a0), .c (.ro .int b1)] kk) = S_laws_eqIntS a0 b1 (fun r0 => kk (.one (.c (.v (.bool r0)))) []) := by
  rw [g_laws_eqIntS]
  have hi0 : (fun a0 b1 xi5 => ∃ j, iter (evF TT cs_laws_eqIntS 26 an_laws_eqIntS Try.f49 [1, 1, 0, 1, 0, 0]) nm0_laws_eqIntS (kt0_laws_eqIntS (fin_laws_eqIntS a0 b1 kk)) j (can0_laws_eqIntS a0 b1 xi5)) = (fun a0 b1 xi5 => ∃ j, L0_laws_eqIntS a0 b1 (fun r0 => kk (.one (.c (.v (.bool r0)))) []) j xi5) := by
    funext a0 b1 xi5
    refine congrArg Exists (funext fun j => ?_)
    rw [l0_laws_eqIntS a0 b1 kk j xi5]
  rw [hi0]
  rfl
theorem clok_laws_eqIntS : ConOK Try.prog cl_laws_eqIntS := consNil
theorem cok_laws_eqIntS : ConsOK Try.prog 26 cs_laws_eqIntS := ⟨clok_laws_eqIntS, inlNil⟩
theorem i_laws_eqIntS {vs : List A1} {kk : AV → List A1 → Prop} {motive : List A1 → Prop} (h : con_laws_eqIntS.F vs kk) (H : ∀ (a0 : List Int) (b1 : List Int), F_laws_eqIntS a0 b1 (fun r0 => kk (.one (.c (.v (.bool r0)))) []) → motive [.c (.ro .int a0), .c (.ro .int b1)]) : motive vs := by
  unfold con_laws_eqIntS at h
  dsimp only at h
  split at h
  · exact H _ _ h
  · exact h.elim
theorem h_laws_eqIntS : Holds Try.prog 49 con_laws_eqIntS := by
  refine holds_of_ev (rt := [.c .sc]) (T := TT) (Γ := cs_laws_eqIntS) (an := an_laws_eqIntS) (N := 26) (c := Try.f49.body.getD .skip) Try.func49 (by kernel_rfl) Try.ntmps49 (by decide) (by decide) mixed tabOK cok_laws_eqIntS (by kernel_rfl) ?_
  intro vs kk _ hF
  exact i_laws_eqIntS (motive := fun vs => Goes (ev TT cs_laws_eqIntS 26 an_laws_eqIntS (Try.f49.body.getD .skip) (st0 con_laws_eqIntS vs) (fin TT con_laws_eqIntS Try.f49.results.toList [.c .sc] vs kk))) hF (fun a0 b1 hF => goes_of (e_laws_eqIntS a0 b1 kk) (F_laws_eqIntS_S hF))
def con_laws_eqGate : Con := ⟨[.rd, .rd], true, [.agg [.sc, .sc, .sl .int, .sl .int, .sl .int, .sc], .agg [.sc, .sc, .sl .int, .sl .int, .sl .int, .sc]], fun vs k => match vs with
    | [.agg [.v (.int .i64 a0Window), .v (.int .i64 a0Room), .ro .int a0New, .ro .int a0Main, .ro .int a0Sketch, .v (.int .i64 a0Added)], .agg [.v (.int .i64 b1Window), .v (.int .i64 b1Room), .ro .int b1New, .ro .int b1Main, .ro .int b1Sketch, .v (.int .i64 b1Added)]] => F_laws_eqGate a0Window a0Room a0New a0Main a0Sketch a0Added b1Window b1Room b1New b1Main b1Sketch b1Added (fun r0 => k (.one (.c (.v (.bool r0)))) [])
    | _ => False, false⟩
def cl_laws_eqGate : List (FuncId × Con) := [(49, con_laws_eqIntS)]
def an_laws_eqGate : Ann := ⟨[], [], []⟩
def cs_laws_eqGate : Cons := ⟨cl_laws_eqGate, [], 0, [], []⟩
def fin_laws_eqGate (a0Window : Int) (a0Room : Int) (a0New : List Int) (a0Main : List Int) (a0Sketch : List Int) (a0Added : Int) (b1Window : Int) (b1Room : Int) (b1New : List Int) (b1Main : List Int) (b1Sketch : List Int) (b1Added : Int) (kk : AV → List A1 → Prop) : Kt := fin TT con_laws_eqGate Try.f41.results.toList [.c .sc] [.agg [.v (.int .i64 a0Window), .v (.int .i64 a0Room), .ro .int a0New, .ro .int a0Main, .ro .int a0Sketch, .v (.int .i64 a0Added)], .agg [.v (.int .i64 b1Window), .v (.int .i64 b1Room), .ro .int b1New, .ro .int b1Main, .ro .int b1Sketch, .v (.int .i64 b1Added)]] kk
theorem g_laws_eqGate (a0Window : Int) (a0Room : Int) (a0New : List Int) (a0Main : List Int) (a0Sketch : List Int) (a0Added : Int) (b1Window : Int) (b1Room : Int) (b1New : List Int) (b1Main : List Int) (b1Sketch : List Int) (b1Added : Int) (kk : AV → List A1 → Prop) :
    ev TT cs_laws_eqGate 38 an_laws_eqGate (Try.f41.body.getD .skip) (st0 con_laws_eqGate [.agg [.v (.int .i64 a0Window), .v (.int .i64 a0Room), .ro .int a0New, .ro .int a0Main, .ro .int a0Sketch, .v (.int .i64 a0Added)], .agg [.v (.int .i64 b1Window), .v (.int .i64 b1Room), .ro .int b1New, .ro .int b1Main, .ro .int b1Sketch, .v (.int .i64 b1Added)]]) (fin TT con_laws_eqGate Try.f41.results.toList [.c .sc] [.agg [.v (.int .i64 a0Window), .v (.int .i64 a0Room), .ro .int a0New, .ro .int a0Main, .ro .int a0Sketch, .v (.int .i64 a0Added)], .agg [.v (.int .i64 b1Window), .v (.int .i64 b1Room), .ro .int b1New, .ro .int b1Main, .ro .int b1Sketch, .v (.int .i64 b1Added)]] kk) = G_laws_eqGate a0Window a0Room a0New a0Main a0Sketch a0Added b1Window b1Room b1New b1Main b1Sketch b1Added (fun r0 => kk (.one (.c (.v (.bool r0)))) []) := by kernel_rfl
theorem e_laws_eqGate (a0Window : Int) (a0Room : Int) (a0New : List Int) (a0Main : List Int) (a0Sketch : List Int) (a0Added : Int) (b1Window : Int) (b1Room : Int) (b1New : List Int) (b1Main : List Int) (b1Sketch : List Int) (b1Added : Int) (kk : AV → List A1 → Prop) :
    ev TT cs_laws_eqGate 38 an_laws_eqGate (Try.f41.body.getD .skip) (st0 con_laws_eqGate [.agg [.v (.int .i64 a0Window), .v (.int .i64 a0Room), .ro .int a0New, .ro .int a0Main, .ro .int a0Sketch, .v (.int .i64 a0Added)], .agg [.v (.int .i64 b1Window), .v (.int .i64 b1Room), .ro .int b1New, .ro .int b1Main, .ro .int b1Sketch, .v (.int .i64 b1Added)]]) (fin TT con_laws_eqGate Try.f41.results.toList [.c .sc] [.agg [.v (.int .i64 a0Window), .v (.int .i64 a0Room), .ro .int a0New, .ro .int a0Main, .ro .int a0Sketch, .v (.int .i64 a0Added)], .agg [.v (.int .i64 b1Window), .v (.int .i64 b1Room), .ro .int b1New, .ro .int b1Main, .ro .int b1Sketch, .v (.int .i64 b1Added)]] kk) = S_laws_eqGate a0Window a0Room a0New a0Main a0Sketch a0Added b1Window b1Room b1New b1Main b1Sketch b1Added (fun r0 => kk (.one (.c (.v (.bool r0)))) []) := by
  rw [g_laws_eqGate]
  rfl
theorem clok_laws_eqGate : ConOK Try.prog cl_laws_eqGate := consCons h_laws_eqIntS ⟨Try.f49, Try.func49, by kernel_rfl, ne_of_beq (by kernel_rfl)⟩ (consNil)
theorem cok_laws_eqGate : ConsOK Try.prog 38 cs_laws_eqGate := ⟨clok_laws_eqGate, inlNil⟩
theorem i_laws_eqGate {vs : List A1} {kk : AV → List A1 → Prop} {motive : List A1 → Prop} (h : con_laws_eqGate.F vs kk) (H : ∀ (a0Window : Int) (a0Room : Int) (a0New : List Int) (a0Main : List Int) (a0Sketch : List Int) (a0Added : Int) (b1Window : Int) (b1Room : Int) (b1New : List Int) (b1Main : List Int) (b1Sketch : List Int) (b1Added : Int), F_laws_eqGate a0Window a0Room a0New a0Main a0Sketch a0Added b1Window b1Room b1New b1Main b1Sketch b1Added (fun r0 => kk (.one (.c (.v (.bool r0)))) []) → motive [.agg [.v (.int .i64 a0Window), .v (.int .i64 a0Room), .ro .int a0New, .ro .int a0Main, .ro .int a0Sketch, .v (.int .i64 a0Added)], .agg [.v (.int .i64 b1Window), .v (.int .i64 b1Room), .ro .int b1New, .ro .int b1Main, .ro .int b1Sketch, .v (.int .i64 b1Added)]]) : motive vs := by
  unfold con_laws_eqGate at h
  dsimp only at h
  split at h
  · exact H _ _ _ _ _ _ _ _ _ _ _ _ h
  · exact h.elim
theorem h_laws_eqGate : Holds Try.prog 41 con_laws_eqGate := by
  refine holds_of_ev (rt := [.c .sc]) (T := TT) (Γ := cs_laws_eqGate) (an := an_laws_eqGate) (N := 38) (c := Try.f41.body.getD .skip) Try.func41 (by kernel_rfl) Try.ntmps41 (by decide) (by decide) mixed tabOK cok_laws_eqGate (by kernel_rfl) ?_
  intro vs kk _ hF
  exact i_laws_eqGate (motive := fun vs => Goes (ev TT cs_laws_eqGate 38 an_laws_eqGate (Try.f41.body.getD .skip) (st0 con_laws_eqGate vs) (fin TT con_laws_eqGate Try.f41.results.toList [.c .sc] vs kk))) hF (fun a0Window a0Room a0New a0Main a0Sketch a0Added b1Window b1Room b1New b1Main b1Sketch b1Added hF => goes_of (e_laws_eqGate a0Window a0Room a0New a0Main a0Sketch a0Added b1Window b1Room b1New b1Main b1Sketch b1Added kk) (F_laws_eqGate_S hF))
def con_laws_FnExactValidGate : Con := ⟨[.rd], true, [.agg [.sc, .sc, .sl .int, .sl .int, .sl .int, .sc]], fun vs k => match vs with
    | [.agg [.v (.int .i64 aG0Window), .v (.int .i64 aG0Room), .ro .int aG0New, .ro .int aG0Main, .ro .int aG0Sketch, .v (.int .i64 aG0Added)]] => F_laws_FnExactValidGate aG0Window aG0Room aG0New aG0Main aG0Sketch aG0Added (fun r0 => k (.one (.c (.v (.bool r0)))) [])
    | _ => False, false⟩
def cl_laws_FnExactValidGate : List (FuncId × Con) := [(37, con_laws_szGate), (38, con_spec_ValidGate), (39, con_laws_toGate), (40, con_impl_ValidGate), (41, con_laws_eqGate)]
def an_laws_FnExactValidGate : Ann := ⟨[(10, .take 0 (.take 1 (.alt 2 (.alt 3 (.take 4 (.done)) (.none)) (.none))), [16, 80])], [], []⟩
def cs_laws_FnExactValidGate : Cons := ⟨cl_laws_FnExactValidGate, [], 0, [], []⟩
def fin_laws_FnExactValidGate (aG0Window : Int) (aG0Room : Int) (aG0New : List Int) (aG0Main : List Int) (aG0Sketch : List Int) (aG0Added : Int) (kk : AV → List A1 → Prop) : Kt := fin TT con_laws_FnExactValidGate Try.f10.results.toList [.c .sc] [.agg [.v (.int .i64 aG0Window), .v (.int .i64 aG0Room), .ro .int aG0New, .ro .int aG0Main, .ro .int aG0Sketch, .v (.int .i64 aG0Added)]] kk
theorem g_laws_FnExactValidGate (aG0Window : Int) (aG0Room : Int) (aG0New : List Int) (aG0Main : List Int) (aG0Sketch : List Int) (aG0Added : Int) (kk : AV → List A1 → Prop) :
    ev TT cs_laws_FnExactValidGate 27 an_laws_FnExactValidGate (Try.f10.body.getD .skip) (st0 con_laws_FnExactValidGate [.agg [.v (.int .i64 aG0Window), .v (.int .i64 aG0Room), .ro .int aG0New, .ro .int aG0Main, .ro .int aG0Sketch, .v (.int .i64 aG0Added)]]) (fin TT con_laws_FnExactValidGate Try.f10.results.toList [.c .sc] [.agg [.v (.int .i64 aG0Window), .v (.int .i64 aG0Room), .ro .int aG0New, .ro .int aG0Main, .ro .int aG0Sketch, .v (.int .i64 aG0Added)]] kk) = G_laws_FnExactValidGate aG0Window aG0Room aG0New aG0Main aG0Sketch aG0Added (fun r0 => kk (.one (.c (.v (.bool r0)))) []) := by kernel_rfl
theorem e_laws_FnExactValidGate (aG0Window : Int) (aG0Room : Int) (aG0New : List Int) (aG0Main : List Int) (aG0Sketch : List Int) (aG0Added : Int) (kk : AV → List A1 → Prop) :
    ev TT cs_laws_FnExactValidGate 27 an_laws_FnExactValidGate (Try.f10.body.getD .skip) (st0 con_laws_FnExactValidGate [.agg [.v (.int .i64 aG0Window), .v (.int .i64 aG0Room), .ro .int aG0New, .ro .int aG0Main, .ro .int aG0Sketch, .v (.int .i64 aG0Added)]]) (fin TT con_laws_FnExactValidGate Try.f10.results.toList [.c .sc] [.agg [.v (.int .i64 aG0Window), .v (.int .i64 aG0Room), .ro .int aG0New, .ro .int aG0Main, .ro .int aG0Sketch, .v (.int .i64 aG0Added)]] kk) = S_laws_FnExactValidGate aG0Window aG0Room aG0New aG0Main aG0Sketch aG0Added (fun r0 => kk (.one (.c (.v (.bool r0)))) []) := by
  rw [g_laws_FnExactValidGate]
  rw [G_laws_FnExactValidGate_eq]
  rfl
theorem clok_laws_FnExactValidGate : ConOK Try.prog cl_laws_FnExactValidGate := consCons h_laws_szGate ⟨Try.f37, Try.func37, by kernel_rfl, ne_of_beq (by kernel_rfl)⟩ (consCons h_spec_ValidGate ⟨Try.f38, Try.func38, by kernel_rfl, ne_of_beq (by kernel_rfl)⟩ (consCons h_laws_toGate ⟨Try.f39, Try.func39, by kernel_rfl, ne_of_beq (by kernel_rfl)⟩ (consCons h_impl_ValidGate ⟨Try.f40, Try.func40, by kernel_rfl, ne_of_beq (by kernel_rfl)⟩ (consCons h_laws_eqGate ⟨Try.f41, Try.func41, by kernel_rfl, ne_of_beq (by kernel_rfl)⟩ (consNil)))))
theorem cok_laws_FnExactValidGate : ConsOK Try.prog 27 cs_laws_FnExactValidGate := ⟨clok_laws_FnExactValidGate, inlNil⟩
theorem i_laws_FnExactValidGate {vs : List A1} {kk : AV → List A1 → Prop} {motive : List A1 → Prop} (h : con_laws_FnExactValidGate.F vs kk) (H : ∀ (aG0Window : Int) (aG0Room : Int) (aG0New : List Int) (aG0Main : List Int) (aG0Sketch : List Int) (aG0Added : Int), F_laws_FnExactValidGate aG0Window aG0Room aG0New aG0Main aG0Sketch aG0Added (fun r0 => kk (.one (.c (.v (.bool r0)))) []) → motive [.agg [.v (.int .i64 aG0Window), .v (.int .i64 aG0Room), .ro .int aG0New, .ro .int aG0Main, .ro .int aG0Sketch, .v (.int .i64 aG0Added)]]) : motive vs := by
  unfold con_laws_FnExactValidGate at h
  dsimp only at h
  split at h
  · exact H _ _ _ _ _ _ h
  · exact h.elim
theorem h_laws_FnExactValidGate : Holds Try.prog 10 con_laws_FnExactValidGate := by
  refine holds_of_ev (rt := [.c .sc]) (T := TT) (Γ := cs_laws_FnExactValidGate) (an := an_laws_FnExactValidGate) (N := 27) (c := Try.f10.body.getD .skip) Try.func10 (by kernel_rfl) Try.ntmps10 (by decide) (by decide) mixed tabOK cok_laws_FnExactValidGate (by kernel_rfl) ?_
  intro vs kk _ hF
  exact i_laws_FnExactValidGate (motive := fun vs => Goes (ev TT cs_laws_FnExactValidGate 27 an_laws_FnExactValidGate (Try.f10.body.getD .skip) (st0 con_laws_FnExactValidGate vs) (fin TT con_laws_FnExactValidGate Try.f10.results.toList [.c .sc] vs kk))) hF (fun aG0Window aG0Room aG0New aG0Main aG0Sketch aG0Added hF => goes_of (e_laws_FnExactValidGate aG0Window aG0Room aG0New aG0Main aG0Sketch aG0Added kk) (F_laws_FnExactValidGate_S hF))
end Go.Ev
