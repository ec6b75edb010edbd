/- What the evaluator gives for these functions: their contracts. No statement is proved here. -/
import Derived.Test.YtcpfmcepkopfdadFnExactValidSegmentsP0
import Derived.Test.YtcpfmcepkopfdadTt
namespace Go.Ev
set_option linter.unusedVariables false
set_option maxRecDepth 100000
open Go Go.Proofs
def con_laws_szIntS : Con := ⟨[.rd, .rd], true, [.c (.sl .int), .c (.sc)], fun vs k => match vs with
    | [.c (.ro .int a0), .c (.v (.int .i64 left1))] => F_laws_szIntS a0 left1 (fun r0 => k (.one (.c (.v (.int .i64 r0)))) [])
    | _ => False, false⟩
def cl_laws_szIntS : List (FuncId × Con) := []
def an_laws_szIntS : Ann := ⟨[], [], []⟩
def cs_laws_szIntS : Cons := ⟨cl_laws_szIntS, [], 0, [], []⟩
def fin_laws_szIntS (a0 : List Int) (left1 : Int) (kk : AV → List A1 → Prop) : Kt := fin TT con_laws_szIntS Try.f49.results.toList [.c .sc] [.c (.ro .int a0), .c (.v (.int .i64 left1))] kk
theorem g_laws_szIntS (a0 : List Int) (left1 : Int) (kk : AV → List A1 → Prop) :
    ev TT cs_laws_szIntS 12 an_laws_szIntS (Try.f49.body.getD .skip) (st0 con_laws_szIntS [.c (.ro .int a0), .c (.v (.int .i64 left1))]) (fin TT con_laws_szIntS Try.f49.results.toList [.c .sc] [.c (.ro .int a0), .c (.v (.int .i64 left1))] kk) = G_laws_szIntS a0 left1 (fun r0 => kk (.one (.c (.v (.int .i64 r0)))) []) := by kernel_rfl
theorem e_laws_szIntS (a0 : List Int) (left1 : Int) (kk : AV → List A1 → Prop) :
    ev TT cs_laws_szIntS 12 an_laws_szIntS (Try.f49.body.getD .skip) (st0 con_laws_szIntS [.c (.ro .int a0), .c (.v (.int .i64 left1))]) (fin TT con_laws_szIntS Try.f49.results.toList [.c .sc] [.c (.ro .int a0), .c (.v (.int .i64 left1))] kk) = S_laws_szIntS a0 left1 (fun r0 => kk (.one (.c (.v (.int .i64 r0)))) []) := by
  rw [g_laws_szIntS]
  rfl
theorem clok_laws_szIntS : ConOK Try.prog cl_laws_szIntS := consNil
theorem cok_laws_szIntS : ConsOK Try.prog 12 cs_laws_szIntS := ⟨clok_laws_szIntS, inlNil⟩
theorem i_laws_szIntS {vs : List A1} {kk : AV → List A1 → Prop} {motive : List A1 → Prop} (h : con_laws_szIntS.F vs kk) (H : ∀ (a0 : List Int) (left1 : Int), F_laws_szIntS a0 left1 (fun r0 => kk (.one (.c (.v (.int .i64 r0)))) []) → motive [.c (.ro .int a0), .c (.v (.int .i64 left1))]) : motive vs := by
  unfold con_laws_szIntS at h
  dsimp only at h
  split at h
  · exact H _ _ h
  · exact h.elim
theorem h_laws_szIntS : Holds Try.prog 49 con_laws_szIntS := by
  refine holds_of_ev (rt := [.c .sc]) (T := TT) (Γ := cs_laws_szIntS) (an := an_laws_szIntS) (N := 12) (c := Try.f49.body.getD .skip) Try.func49 (by kernel_rfl) Try.ntmps49 (by decide) (by decide) mixed tabOK cok_laws_szIntS (by kernel_rfl) ?_
  intro vs kk _ hF
  exact i_laws_szIntS (motive := fun vs => Goes (ev TT cs_laws_szIntS 12 an_laws_szIntS (Try.f49.body.getD .skip) (st0 con_laws_szIntS vs) (fin TT con_laws_szIntS Try.f49.results.toList [.c .sc] vs kk))) hF (fun a0 left1 hF => goes_of (e_laws_szIntS a0 left1 kk) (F_laws_szIntS_S hF))
def con_laws_szSegments : Con := ⟨[.rd, .rd], true, [.agg [.sc, .sc, .sl .int, .sl .int], .c (.sc)], fun vs k => match vs with
    | [.agg [.v (.int .i64 a0Trial), .v (.int .i64 a0Safe), .ro .int a0New, .ro .int a0Old], .c (.v (.int .i64 left1))] => F_laws_szSegments a0Trial a0Safe a0New a0Old left1 (fun r0 => k (.one (.c (.v (.int .i64 r0)))) [])
    | _ => False, false⟩
def cl_laws_szSegments : List (FuncId × Con) := [(49, con_laws_szIntS)]
def an_laws_szSegments : Ann := ⟨[], [], []⟩
def cs_laws_szSegments : Cons := ⟨cl_laws_szSegments, [], 0, [], []⟩
def fin_laws_szSegments (a0Trial : Int) (a0Safe : Int) (a0New : List Int) (a0Old : List Int) (left1 : Int) (kk : AV → List A1 → Prop) : Kt := fin TT con_laws_szSegments Try.f25.results.toList [.c .sc] [.agg [.v (.int .i64 a0Trial), .v (.int .i64 a0Safe), .ro .int a0New, .ro .int a0Old], .c (.v (.int .i64 left1))] kk
theorem g_laws_szSegments (a0Trial : Int) (a0Safe : Int) (a0New : List Int) (a0Old : List Int) (left1 : Int) (kk : AV → List A1 → Prop) :
    ev TT cs_laws_szSegments 18 an_laws_szSegments (Try.f25.body.getD .skip) (st0 con_laws_szSegments [.agg [.v (.int .i64 a0Trial), .v (.int .i64 a0Safe), .ro .int a0New, .ro .int a0Old], .c (.v (.int .i64 left1))]) (fin TT con_laws_szSegments Try.f25.results.toList [.c .sc] [.agg [.v (.int .i64 a0Trial), .v (.int .i64 a0Safe), .ro .int a0New, .ro .int a0Old], .c (.v (.int .i64 left1))] kk) = G_laws_szSegments a0Trial a0Safe a0New a0Old left1 (fun r0 => kk (.one (.c (.v (.int .i64 r0)))) []) := by kernel_rfl
theorem e_laws_szSegments (a0Trial : Int) (a0Safe : Int) (a0New : List Int) (a0Old : List Int) (left1 : Int) (kk : AV → List A1 → Prop) :
    ev TT cs_laws_szSegments 18 an_laws_szSegments (Try.f25.body.getD .skip) (st0 con_laws_szSegments [.agg [.v (.int .i64 a0Trial), .v (.int .i64 a0Safe), .ro .int a0New, .ro .int a0Old], .c (.v (.int .i64 left1))]) (fin TT con_laws_szSegments Try.f25.results.toList [.c .sc] [.agg [.v (.int .i64 a0Trial), .v (.int .i64 a0Safe), .ro .int a0New, .ro .int a0Old], .c (.v (.int .i64 left1))] kk) = S_laws_szSegments a0Trial a0Safe a0New a0Old left1 (fun r0 => kk (.one (.c (.v (.int .i64 r0)))) []) := by
  rw [g_laws_szSegments]
  rfl
theorem clok_laws_szSegments : ConOK Try.prog cl_laws_szSegments := consCons h_laws_szIntS ⟨Try.f49, Try.func49, by kernel_rfl, ne_of_beq (by kernel_rfl)⟩ (consNil)
theorem cok_laws_szSegments : ConsOK Try.prog 18 cs_laws_szSegments := ⟨clok_laws_szSegments, inlNil⟩
theorem i_laws_szSegments {vs : List A1} {kk : AV → List A1 → Prop} {motive : List A1 → Prop} (h : con_laws_szSegments.F vs kk) (H : ∀ (a0Trial : Int) (a0Safe : Int) (a0New : List Int) (a0Old : List Int) (left1 : Int), F_laws_szSegments a0Trial a0Safe a0New a0Old left1 (fun r0 => kk (.one (.c (.v (.int .i64 r0)))) []) → motive [.agg [.v (.int .i64 a0Trial), .v (.int .i64 a0Safe), .ro .int a0New, .ro .int a0Old], .c (.v (.int .i64 left1))]) : motive vs := by
  unfold con_laws_szSegments at h
  dsimp only at h
  split at h
  · exact H _ _ _ _ _ h
  · exact h.elim
theorem h_laws_szSegments : Holds Try.prog 25 con_laws_szSegments := by
  refine holds_of_ev (rt := [.c .sc]) (T := TT) (Γ := cs_laws_szSegments) (an := an_laws_szSegments) (N := 18) (c := Try.f25.body.getD .skip) Try.func25 (by kernel_rfl) Try.ntmps25 (by decide) (by decide) mixed tabOK cok_laws_szSegments (by kernel_rfl) ?_
  intro vs kk _ hF
  exact i_laws_szSegments (motive := fun vs => Goes (ev TT cs_laws_szSegments 18 an_laws_szSegments (Try.f25.body.getD .skip) (st0 con_laws_szSegments vs) (fin TT con_laws_szSegments Try.f25.results.toList [.c .sc] vs kk))) hF (fun a0Trial a0Safe a0New a0Old left1 hF => goes_of (e_laws_szSegments a0Trial a0Safe a0New a0Old left1 kk) (F_laws_szSegments_S hF))
def con_laws_toIntS : Con := ⟨[.rd], true, [.c (.sl .int)], fun vs k => match vs with
    | [.c (.ro .int a0)] => F_laws_toIntS a0 (fun r0 => k (.one (.c (.ro .int r0))) [])
    | _ => False, false⟩
def cl_laws_toIntS : List (FuncId × Con) := []
def nm0_laws_toIntS : List NStep := [.keep [0, 3, 4] [112]]
def an_laws_toIntS : Ann := ⟨[], [(3, nm0_laws_toIntS)], []⟩
def cs_laws_toIntS : Cons := ⟨cl_laws_toIntS, [], 0, [], []⟩
def can0_laws_toIntS (a0 : List Int) (xi4 : Int) (xy7 : List Int) : St := ⟨[(0, .one (.c (.ro .int a0))), (3, .one (.c (.ow 112))), (4, .one (.c (.v (.int .i64 xi4))))], [(112, .row .int xy7)]⟩
def fin_laws_toIntS (a0 : List Int) (kk : AV → List A1 → Prop) : Kt := fin TT con_laws_toIntS Try.f11.results.toList [.c (.sl .int)] [.c (.ro .int a0)] kk
def kt0_laws_toIntS (kf : Kt) : Kt := blockK 0 (seqK (evF TT cs_laws_toIntS 22 an_laws_toIntS Try.f11 [1, 1, 1]) (kf))
theorem r0_laws_toIntS (a0 : List Int) (kk : AV → List A1 → Prop) (n : Nat) (xi4 : Int) (xy7 : List Int) :
    iter (evF TT cs_laws_toIntS 22 an_laws_toIntS Try.f11 [1, 1, 0, 1, 0, 0]) nm0_laws_toIntS (kt0_laws_toIntS (fin_laws_toIntS a0 kk)) (n + 1) (can0_laws_toIntS a0 xi4 xy7) = T0_laws_toIntS a0 xi4 xy7 (fun r0 => kk (.one (.c (.ro .int r0))) []) (fun xi4 xy7 => iter (evF TT cs_laws_toIntS 22 an_laws_toIntS Try.f11 [1, 1, 0, 1, 0, 0]) nm0_laws_toIntS (kt0_laws_toIntS (fin_laws_toIntS a0 kk)) n (can0_laws_toIntS a0 xi4 xy7)) := by kernel_rfl
theorem l0_laws_toIntS (a0 : List Int) (kk : AV → List A1 → Prop) : ∀ (n : Nat) (xi4 : Int) (xy7 : List Int), iter (evF TT cs_laws_toIntS 22 an_laws_toIntS Try.f11 [1, 1, 0, 1, 0, 0]) nm0_laws_toIntS (kt0_laws_toIntS (fin_laws_toIntS a0 kk)) n (can0_laws_toIntS a0 xi4 xy7) = L0_laws_toIntS a0 (fun r0 => kk (.one (.c (.ro .int r0))) []) n xi4 xy7 := by
  intro n
  induction n with
  | zero => intros; rfl
  | succ n ih =>
    intro xi4 xy7
    rw [r0_laws_toIntS a0 kk n xi4 xy7]
    have hb : (fun xi4 xy7 => iter (evF TT cs_laws_toIntS 22 an_laws_toIntS Try.f11 [1, 1, 0, 1, 0, 0]) nm0_laws_toIntS (kt0_laws_toIntS (fin_laws_toIntS a0 kk)) n (can0_laws_toIntS a0 xi4 xy7)) = L0_laws_toIntS a0 (fun r0 => kk (.one (.c (.ro .int r0))) []) n := by
      funext xi4 xy7; exact ih xi4 xy7
    rw [hb]
    rfl
theorem g_laws_toIntS (a0 : List Int) (kk : AV → List A1 → Prop) :
    ev TT cs_laws_toIntS 22 an_laws_toIntS (Try.f11.body.getD .skip) (st0 con_laws_toIntS [.c (.ro .int a0)]) (fin TT con_laws_toIntS Try.f11.results.toList [.c (.sl .int)] [.c (.ro .int a0)] kk) = G_laws_toIntS a0 (fun a0 xi4 xy7 => ∃ j, iter (evF TT cs_laws_toIntS 22 an_laws_toIntS Try.f11 [1, 1, 0, 1, 0, 0]) nm0_laws_toIntS (kt0_laws_toIntS (fin_laws_toIntS a0 kk)) j (can0_laws_toIntS a0 xi4 xy7)) := by kernel_rfl
theorem e_laws_toIntS (a0 : List Int) (kk : AV → List A1 → Prop) :
    ev TT cs_laws_toIntS 22 an_laws_toIntS (Try.f11.body.getD .skip) (st0 con_laws_toIntS [.c (.ro .int a0)]) (fin TT con_laws_toIntS Try.f11.results.toList [.c (.sl .int)] [.c (.ro .int a0)] kk) = S_laws_toIntS a0 (fun r0 => kk (.one (.c (.ro .int r0))) []) := by
  rw [g_laws_toIntS]
  have hi0 : (fun a0 xi4 xy7 => ∃ j, iter (evF TT cs_laws_toIntS 22 an_laws_toIntS Try.f11 [1, 1, 0, 1, 0, 0]) nm0_laws_toIntS (kt0_laws_toIntS (fin_laws_toIntS a0 kk)) j (can0_laws_toIntS a0 xi4 xy7)) = (fun a0 xi4 xy7 => ∃ j, L0_laws_toIntS a0 (fun r0 => kk (.one (.c (.ro .int r0))) []) j xi4 xy7) := by
    funext a0 xi4 xy7
    refine congrArg Exists (funext fun j => ?_)
    rw [l0_laws_toIntS a0 kk j xi4 xy7]
  rw [hi0]
  rfl
theorem clok_laws_toIntS : ConOK Try.prog cl_laws_toIntS := consNil
theorem cok_laws_toIntS : ConsOK Try.prog 22 cs_laws_toIntS := ⟨clok_laws_toIntS, inlNil⟩
theorem i_laws_toIntS {vs : List A1} {kk : AV → List A1 → Prop} {motive : List A1 → Prop} (h : con_laws_toIntS.F vs kk) (H : ∀ (a0 : List Int), F_laws_toIntS a0 (fun r0 => kk (.one (.c (.ro .int r0))) []) → motive [.c (.ro .int a0)]) : motive vs := by
  unfold con_laws_toIntS at h
  dsimp only at h
  split at h
  · exact H _ h
  · exact h.elim
theorem h_laws_toIntS : Holds Try.prog 11 con_laws_toIntS := by
  refine holds_of_ev (rt := [.c (.sl .int)]) (T := TT) (Γ := cs_laws_toIntS) (an := an_laws_toIntS) (N := 22) (c := Try.f11.body.getD .skip) Try.func11 (by kernel_rfl) Try.ntmps11 (by decide) (by decide) mixed tabOK cok_laws_toIntS (by kernel_rfl) ?_
  intro vs kk _ hF
  exact i_laws_toIntS (motive := fun vs => Goes (ev TT cs_laws_toIntS 22 an_laws_toIntS (Try.f11.body.getD .skip) (st0 con_laws_toIntS vs) (fin TT con_laws_toIntS Try.f11.results.toList [.c (.sl .int)] vs kk))) hF (fun a0 hF => goes_of (e_laws_toIntS a0 kk) (F_laws_toIntS_S hF))
def con_laws_toSegments : Con := ⟨[.rd], true, [.agg [.sc, .sc, .sl .int, .sl .int]], fun vs k => match vs with
    | [.agg [.v (.int .i64 a0Trial), .v (.int .i64 a0Safe), .ro .int a0New, .ro .int a0Old]] => F_laws_toSegments a0Trial a0Safe a0New a0Old (fun r0 r1 r2 r3 => k (.one (.agg [.v (.int .i64 r0), .v (.int .i64 r1), .ro .int r2, .ro .int r3])) [])
    | _ => False, false⟩
def cl_laws_toSegments : List (FuncId × Con) := [(11, con_laws_toIntS)]
def an_laws_toSegments : Ann := ⟨[], [], []⟩
def cs_laws_toSegments : Cons := ⟨cl_laws_toSegments, [], 0, [], []⟩
def fin_laws_toSegments (a0Trial : Int) (a0Safe : Int) (a0New : List Int) (a0Old : List Int) (kk : AV → List A1 → Prop) : Kt := fin TT con_laws_toSegments Try.f27.results.toList [.agg [.sc, .sc, .sl .int, .sl .int]] [.agg [.v (.int .i64 a0Trial), .v (.int .i64 a0Safe), .ro .int a0New, .ro .int a0Old]] kk
theorem g_laws_toSegments (a0Trial : Int) (a0Safe : Int) (a0New : List Int) (a0Old : List Int) (kk : AV → List A1 → Prop) :
    ev TT cs_laws_toSegments 19 an_laws_toSegments (Try.f27.body.getD .skip) (st0 con_laws_toSegments [.agg [.v (.int .i64 a0Trial), .v (.int .i64 a0Safe), .ro .int a0New, .ro .int a0Old]]) (fin TT con_laws_toSegments Try.f27.results.toList [.agg [.sc, .sc, .sl .int, .sl .int]] [.agg [.v (.int .i64 a0Trial), .v (.int .i64 a0Safe), .ro .int a0New, .ro .int a0Old]] kk) = G_laws_toSegments a0Trial a0Safe a0New a0Old (fun r0 r1 r2 r3 => kk (.one (.agg [.v (.int .i64 r0), .v (.int .i64 r1), .ro .int r2, .ro .int r3])) []) := by kernel_rfl
theorem e_laws_toSegments (a0Trial : Int) (a0Safe : Int) (a0New : List Int) (a0Old : List Int) (kk : AV → List A1 → Prop) :
    ev TT cs_laws_toSegments 19 an_laws_toSegments (Try.f27.body.getD .skip) (st0 con_laws_toSegments [.agg [.v (.int .i64 a0Trial), .v (.int .i64 a0Safe), .ro .int a0New, .ro .int a0Old]]) (fin TT con_laws_toSegments Try.f27.results.toList [.agg [.sc, .sc, .sl .int, .sl .int]] [.agg [.v (.int .i64 a0Trial), .v (.int .i64 a0Safe), .ro .int a0New, .ro .int a0Old]] kk) = S_laws_toSegments a0Trial a0Safe a0New a0Old (fun r0 r1 r2 r3 => kk (.one (.agg [.v (.int .i64 r0), .v (.int .i64 r1), .ro .int r2, .ro .int r3])) []) := by
  rw [g_laws_toSegments]
  rfl
theorem clok_laws_toSegments : ConOK Try.prog cl_laws_toSegments := consCons h_laws_toIntS ⟨Try.f11, Try.func11, by kernel_rfl, ne_of_beq (by kernel_rfl)⟩ (consNil)
theorem cok_laws_toSegments : ConsOK Try.prog 19 cs_laws_toSegments := ⟨clok_laws_toSegments, inlNil⟩
theorem i_laws_toSegments {vs : List A1} {kk : AV → List A1 → Prop} {motive : List A1 → Prop} (h : con_laws_toSegments.F vs kk) (H : ∀ (a0Trial : Int) (a0Safe : Int) (a0New : List Int) (a0Old : List Int), F_laws_toSegments a0Trial a0Safe a0New a0Old (fun r0 r1 r2 r3 => kk (.one (.agg [.v (.int .i64 r0), .v (.int .i64 r1), .ro .int r2, .ro .int r3])) []) → motive [.agg [.v (.int .i64 a0Trial), .v (.int .i64 a0Safe), .ro .int a0New, .ro .int a0Old]]) : motive vs := by
  unfold con_laws_toSegments at h
  dsimp only at h
  split at h
  · exact H _ _ _ _ h
  · exact h.elim
theorem h_laws_toSegments : Holds Try.prog 27 con_laws_toSegments := by
  refine holds_of_ev (rt := [.agg [.sc, .sc, .sl .int, .sl .int]]) (T := TT) (Γ := cs_laws_toSegments) (an := an_laws_toSegments) (N := 19) (c := Try.f27.body.getD .skip) Try.func27 (by kernel_rfl) Try.ntmps27 (by decide) (by decide) mixed tabOK cok_laws_toSegments (by kernel_rfl) ?_
  intro vs kk _ hF
  exact i_laws_toSegments (motive := fun vs => Goes (ev TT cs_laws_toSegments 19 an_laws_toSegments (Try.f27.body.getD .skip) (st0 con_laws_toSegments vs) (fin TT con_laws_toSegments Try.f27.results.toList [.agg [.sc, .sc, .sl .int, .sl .int]] vs kk))) hF (fun a0Trial a0Safe a0New a0Old hF => goes_of (e_laws_toSegments a0Trial a0Safe a0New a0Old kk) (F_laws_toSegments_S hF))
def con_spec_inRange : Con := ⟨[.rd, .rd, .rd], true, [.c (.sc), .c (.sc), .c (.sc)], fun vs k => match vs with
    | [.c (.v (.int .i64 n0)), .c (.v (.int .i64 low1)), .c (.v (.int .i64 high2))] => F_spec_inRange n0 low1 high2 (fun r0 => k (.one (.c (.v (.bool r0)))) [])
    | _ => False, false⟩
def cl_spec_inRange : List (FuncId × Con) := []
def an_spec_inRange : Ann := ⟨[], [], []⟩
def cs_spec_inRange : Cons := ⟨cl_spec_inRange, [], 0, [], []⟩
def fin_spec_inRange (n0 : Int) (low1 : Int) (high2 : Int) (kk : AV → List A1 → Prop) : Kt := fin TT con_spec_inRange Try.f39.results.toList [.c .sc] [.c (.v (.int .i64 n0)), .c (.v (.int .i64 low1)), .c (.v (.int .i64 high2))] kk
theorem g_spec_inRange (n0 : Int) (low1 : Int) (high2 : Int) (kk : AV → List A1 → Prop) :
    ev TT cs_spec_inRange 15 an_spec_inRange (Try.f39.body.getD .skip) (st0 con_spec_inRange [.c (.v (.int .i64 n0)), .c (.v (.int .i64 low1)), .c (.v (.int .i64 high2))]) (fin TT con_spec_inRange Try.f39.results.toList [.c .sc] [.c (.v (.int .i64 n0)), .c (.v (.int .i64 low1)), .c (.v (.int .i64 high2))] kk) = G_spec_inRange n0 low1 high2 (fun r0 => kk (.one (.c (.v (.bool r0)))) []) := by kernel_rfl
theorem e_spec_inRange (n0 : Int) (low1 : Int) (high2 : Int) (kk : AV → List A1 → Prop) :
    ev TT cs_spec_inRange 15 an_spec_inRange (Try.f39.body.getD .skip) (st0 con_spec_inRange [.c (.v (.int .i64 n0)), .c (.v (.int .i64 low1)), .c (.v (.int .i64 high2))]) (fin TT con_spec_inRange Try.f39.results.toList [.c .sc] [.c (.v (.int .i64 n0)), .c (.v (.int .i64 low1)), .c (.v (.int .i64 high2))] kk) = S_spec_inRange n0 low1 high2 (fun r0 => kk (.one (.c (.v (.bool r0)))) []) := by
  rw [g_spec_inRange]
  rfl
theorem clok_spec_inRange : ConOK Try.prog cl_spec_inRange := consNil
theorem cok_spec_inRange : ConsOK Try.prog 15 cs_spec_inRange := ⟨clok_spec_inRange, inlNil⟩
theorem i_spec_inRange {vs : List A1} {kk : AV → List A1 → Prop} {motive : List A1 → Prop} (h : con_spec_inRange.F vs kk) (H : ∀ (n0 : Int) (low1 : Int) (high2 : Int), F_spec_inRange n0 low1 high2 (fun r0 => kk (.one (.c (.v (.bool r0)))) []) → motive [.c (.v (.int .i64 n0)), .c (.v (.int .i64 low1)), .c (.v (.int .i64 high2))]) : motive vs := by
  unfold con_spec_inRange at h
  dsimp only at h
  split at h
  · exact H _ _ _ h
  · exact h.elim
theorem h_spec_inRange : Holds Try.prog 39 con_spec_inRange := by
  refine holds_of_ev (rt := [.c .sc]) (T := TT) (Γ := cs_spec_inRange) (an := an_spec_inRange) (N := 15) (c := Try.f39.body.getD .skip) Try.func39 (by kernel_rfl) Try.ntmps39 (by decide) (by decide) mixed tabOK cok_spec_inRange (by kernel_rfl) ?_
  intro vs kk _ hF
  exact i_spec_inRange (motive := fun vs => Goes (ev TT cs_spec_inRange 15 an_spec_inRange (Try.f39.body.getD .skip) (st0 con_spec_inRange vs) (fin TT con_spec_inRange Try.f39.results.toList [.c .sc] vs kk))) hF (fun n0 low1 high2 hF => goes_of (e_spec_inRange n0 low1 high2 kk) (F_spec_inRange_S hF))
def con_spec_allIn : Con := ⟨[.rd, .rd, .rd], true, [.c (.sl .int), .c (.sc), .c (.sc)], fun vs k => match vs with
    | [.c (.ro .int list0), .c (.v (.int .i64 low1)), .c (.v (.int .i64 high2))] => F_spec_allIn list0 low1 high2 (fun r0 => k (.one (.c (.v (.bool r0)))) [])
    | _ => False, false⟩
def cl_spec_allIn : List (FuncId × Con) := [(39, con_spec_inRange)]
def nm0_spec_allIn : List NStep := [.keep [0, 1, 2, 7] []]
def an_spec_allIn : Ann := ⟨[], [(2, nm0_spec_allIn)], []⟩
def cs_spec_allIn : Cons := ⟨cl_spec_allIn, [], 0, [], []⟩
def can0_spec_allIn (high2 : Int) (list0 : List Int) (low1 : Int) (xi7 : Int) : St := ⟨[(0, .one (.c (.ro .int list0))), (1, .one (.c (.v (.int .i64 low1)))), (2, .one (.c (.v (.int .i64 high2)))), (7, .one (.c (.v (.int .i64 xi7))))], []⟩
def fin_spec_allIn (list0 : List Int) (low1 : Int) (high2 : Int) (kk : AV → List A1 → Prop) : Kt := fin TT con_spec_allIn Try.f64.results.toList [.c .sc] [.c (.ro .int list0), .c (.v (.int .i64 low1)), .c (.v (.int .i64 high2))] kk
def kt0_spec_allIn (kf : Kt) : Kt := blockK 0 (seqK (evF TT cs_spec_allIn 22 an_spec_allIn Try.f64 [1, 1]) (kf))
theorem r0_spec_allIn (list0 : List Int) (low1 : Int) (high2 : Int) (kk : AV → List A1 → Prop) (n : Nat) (xi7 : Int) :
    iter (evF TT cs_spec_allIn 22 an_spec_allIn Try.f64 [1, 0, 1, 0, 0]) nm0_spec_allIn (kt0_spec_allIn (fin_spec_allIn list0 low1 high2 kk)) (n + 1) (can0_spec_allIn high2 list0 low1 xi7) = T0_spec_allIn high2 list0 low1 xi7 (fun r0 => kk (.one (.c (.v (.bool r0)))) []) (fun xi7 => iter (evF TT cs_spec_allIn 22 an_spec_allIn Try.f64 [1, 0, 1, 0, 0]) nm0_spec_allIn (kt0_spec_allIn (fin_spec_allIn list0 low1 high2 kk)) n (can0_spec_allIn high2 list0 low1 xi7)) := by kernel_rfl
theorem l0_spec_allIn (list0 : List Int) (low1 : Int) (high2 : Int) (kk : AV → List A1 → Prop) : ∀ (n : Nat) (xi7 : Int), iter (evF TT cs_spec_allIn 22 an_spec_allIn Try.f64 [1, 0, 1, 0, 0]) nm0_spec_allIn (kt0_spec_allIn (fin_spec_allIn list0 low1 high2 kk)) n (can0_spec_allIn high2 list0 low1 xi7) = L0_spec_allIn high2 list0 low1 (fun r0 => kk (.one (.c (.v (.bool r0)))) []) n xi7 := by
  intro n
  induction n with
  | zero => intros; rfl
  | succ n ih =>
    intro xi7
    rw [r0_spec_allIn list0 low1 high2 kk n xi7]
    have hb : (fun xi7 => iter (evF TT cs_spec_allIn 22 an_spec_allIn Try.f64 [1, 0, 1, 0, 0]) nm0_spec_allIn (kt0_spec_allIn (fin_spec_allIn list0 low1 high2 kk)) n (can0_spec_allIn high2 list0 low1 xi7)) = L0_spec_allIn high2 list0 low1 (fun r0 => kk (.one (.c (.v (.bool r0)))) []) n := by
      funext xi7; exact ih xi7
    rw [hb]
    rfl
theorem g_spec_allIn (list0 : List Int) (low1 : Int) (high2 : Int) (kk : AV → List A1 → Prop) :
    ev TT cs_spec_allIn 22 an_spec_allIn (Try.f64.body.getD .skip) (st0 con_spec_allIn [.c (.ro .int list0), .c (.v (.int .i64 low1)), .c (.v (.int .i64 high2))]) (fin TT con_spec_allIn Try.f64.results.toList [.c .sc] [.c (.ro .int list0), .c (.v (.int .i64 low1)), .c (.v (.int .i64 high2))] kk) = G_spec_allIn list0 low1 high2 (fun high2 list0 low1 xi7 => ∃ j, iter (evF TT cs_spec_allIn 22 an_spec_allIn Try.f64 [1, 0, 1, 0, 0]) nm0_spec_allIn (kt0_spec_allIn (fin_spec_allIn list0 low1 high2 kk)) j (can0_spec_allIn high2 list0 low1 xi7)) := by kernel_rfl
theorem e_spec_allIn (list0 : List Int) (low1 : Int) (high2 : Int) (kk : AV → List A1 → Prop) :
    ev TT cs_spec_allIn 22 an_spec_allIn (Try.f64.body.getD .skip) (st0 con_spec_allIn [.c (.ro .int list0), .c (.v (.int .i64 low1)), .c (.v (.int .i64 high2))]) (fin TT con_spec_allIn Try.f64.results.toList [.c .sc] [.c (.ro .int list0), .c (.v (.int .i64 low1)), .c (.v (.int .i64 high2))] kk) = S_spec_allIn list0 low1 high2 (fun r0 => kk (.one (.c (.v (.bool r0)))) []) := by
  rw [g_spec_allIn]
  have hi0 : (fun high2 list0 low1 xi7 => ∃ j, iter (evF TT cs_spec_allIn 22 an_spec_allIn Try.f64 [1, 0, 1, 0, 0]) nm0_spec_allIn (kt0_spec_allIn (fin_spec_allIn list0 low1 high2 kk)) j (can0_spec_allIn high2 list0 low1 xi7)) = (fun high2 list0 low1 xi7 => ∃ j, L0_spec_allIn high2 list0 low1 (fun r0 => kk (.one (.c (.v (.bool r0)))) []) j xi7) := by
    funext high2 list0 low1 xi7
    refine congrArg Exists (funext fun j => ?_)
    rw [l0_spec_allIn list0 low1 high2 kk j xi7]
  rw [hi0]
  rfl
theorem clok_spec_allIn : ConOK Try.prog cl_spec_allIn := consCons h_spec_inRange ⟨Try.f39, Try.func39, by kernel_rfl, ne_of_beq (by kernel_rfl)⟩ (consNil)
theorem cok_spec_allIn : ConsOK Try.prog 22 cs_spec_allIn := ⟨clok_spec_allIn, inlNil⟩
theorem i_spec_allIn {vs : List A1} {kk : AV → List A1 → Prop} {motive : List A1 → Prop} (h : con_spec_allIn.F vs kk) (H : ∀ (list0 : List Int) (low1 : Int) (high2 : Int), F_spec_allIn list0 low1 high2 (fun r0 => kk (.one (.c (.v (.bool r0)))) []) → motive [.c (.ro .int list0), .c (.v (.int .i64 low1)), .c (.v (.int .i64 high2))]) : motive vs := by
  unfold con_spec_allIn at h
  dsimp only at h
  split at h
  · exact H _ _ _ h
  · exact h.elim
theorem h_spec_allIn : Holds Try.prog 64 con_spec_allIn := by
  refine holds_of_ev (rt := [.c .sc]) (T := TT) (Γ := cs_spec_allIn) (an := an_spec_allIn) (N := 22) (c := Try.f64.body.getD .skip) Try.func64 (by kernel_rfl) Try.ntmps64 (by decide) (by decide) mixed tabOK cok_spec_allIn (by kernel_rfl) ?_
  intro vs kk _ hF
  exact i_spec_allIn (motive := fun vs => Goes (ev TT cs_spec_allIn 22 an_spec_allIn (Try.f64.body.getD .skip) (st0 con_spec_allIn vs) (fin TT con_spec_allIn Try.f64.results.toList [.c .sc] vs kk))) hF (fun list0 low1 high2 hF => goes_of (e_spec_allIn list0 low1 high2 kk) (F_spec_allIn_S hF))
def con_spec_placeOf : Con := ⟨[.rd, .rd], true, [.c (.sl .int), .c (.sc)], fun vs k => match vs with
    | [.c (.ro .int list0), .c (.v (.int .i64 n1))] => F_spec_placeOf list0 n1 (fun r0 => k (.one (.c (.v (.int .i64 r0)))) [])
    | _ => False, false⟩
def cl_spec_placeOf : List (FuncId × Con) := []
def nm0_spec_placeOf : List NStep := [.keep [0, 1, 5] []]
def an_spec_placeOf : Ann := ⟨[], [(2, nm0_spec_placeOf)], []⟩
def cs_spec_placeOf : Cons := ⟨cl_spec_placeOf, [], 0, [], []⟩
def can0_spec_placeOf (list0 : List Int) (n1 : Int) (xi5 : Int) : St := ⟨[(0, .one (.c (.ro .int list0))), (1, .one (.c (.v (.int .i64 n1)))), (5, .one (.c (.v (.int .i64 xi5))))], []⟩
def fin_spec_placeOf (list0 : List Int) (n1 : Int) (kk : AV → List A1 → Prop) : Kt := fin TT con_spec_placeOf Try.f66.results.toList [.c .sc] [.c (.ro .int list0), .c (.v (.int .i64 n1))] kk
def kt0_spec_placeOf (kf : Kt) : Kt := blockK 0 (seqK (evF TT cs_spec_placeOf 19 an_spec_placeOf Try.f66 [1, 1]) (kf))
theorem r0_spec_placeOf (list0 : List Int) (n1 : Int) (kk : AV → List A1 → Prop) (n : Nat) (xi5 : Int) :
    iter (evF TT cs_spec_placeOf 19 an_spec_placeOf Try.f66 [1, 0, 1, 0, 0]) nm0_spec_placeOf (kt0_spec_placeOf (fin_spec_placeOf list0 n1 kk)) (n + 1) (can0_spec_placeOf list0 n1 xi5) = T0_spec_placeOf list0 n1 xi5 (fun r0 => kk (.one (.c (.v (.int .i64 r0)))) []) (fun xi5 => iter (evF TT cs_spec_placeOf 19 an_spec_placeOf Try.f66 [1, 0, 1, 0, 0]) nm0_spec_placeOf (kt0_spec_placeOf (fin_spec_placeOf list0 n1 kk)) n (can0_spec_placeOf list0 n1 xi5)) := by kernel_rfl
theorem l0_spec_placeOf (list0 : List Int) (n1 : Int) (kk : AV → List A1 → Prop) : ∀ (n : Nat) (xi5 : Int), iter (evF TT cs_spec_placeOf 19 an_spec_placeOf Try.f66 [1, 0, 1, 0, 0]) nm0_spec_placeOf (kt0_spec_placeOf (fin_spec_placeOf list0 n1 kk)) n (can0_spec_placeOf list0 n1 xi5) = L0_spec_placeOf list0 n1 (fun r0 => kk (.one (.c (.v (.int .i64 r0)))) []) n xi5 := by
  intro n
  induction n with
  | zero => intros; rfl
  | succ n ih =>
    intro xi5
    rw [r0_spec_placeOf list0 n1 kk n xi5]
    have hb : (fun xi5 => iter (evF TT cs_spec_placeOf 19 an_spec_placeOf Try.f66 [1, 0, 1, 0, 0]) nm0_spec_placeOf (kt0_spec_placeOf (fin_spec_placeOf list0 n1 kk)) n (can0_spec_placeOf list0 n1 xi5)) = L0_spec_placeOf list0 n1 (fun r0 => kk (.one (.c (.v (.int .i64 r0)))) []) n := by
      funext xi5; exact ih xi5
    rw [hb]
    rfl
theorem g_spec_placeOf (list0 : List Int) (n1 : Int) (kk : AV → List A1 → Prop) :
    ev TT cs_spec_placeOf 19 an_spec_placeOf (Try.f66.body.getD .skip) (st0 con_spec_placeOf [.c (.ro .int list0), .c (.v (.int .i64 n1))]) (fin TT con_spec_placeOf Try.f66.results.toList [.c .sc] [.c (.ro .int list0), .c (.v (.int .i64 n1))] kk) = G_spec_placeOf list0 n1 (fun list0 n1 xi5 => ∃ j, iter (evF TT cs_spec_placeOf 19 an_spec_placeOf Try.f66 [1, 0, 1, 0, 0]) nm0_spec_placeOf (kt0_spec_placeOf (fin_spec_placeOf list0 n1 kk)) j (can0_spec_placeOf list0 n1 xi5)) := by kernel_rfl
theorem e_spec_placeOf (list0 : List Int) (n1 : Int) (kk : AV → List A1 → Prop) :
    ev TT cs_spec_placeOf 19 an_spec_placeOf (Try.f66.body.getD .skip) (st0 con_spec_placeOf [.c (.ro .int list0), .c (.v (.int .i64 n1))]) (fin TT con_spec_placeOf Try.f66.results.toList [.c .sc] [.c (.ro .int list0), .c (.v (.int .i64 n1))] kk) = S_spec_placeOf list0 n1 (fun r0 => kk (.one (.c (.v (.int .i64 r0)))) []) := by
  rw [g_spec_placeOf]
  have hi0 : (fun list0 n1 xi5 => ∃ j, iter (evF TT cs_spec_placeOf 19 an_spec_placeOf Try.f66 [1, 0, 1, 0, 0]) nm0_spec_placeOf (kt0_spec_placeOf (fin_spec_placeOf list0 n1 kk)) j (can0_spec_placeOf list0 n1 xi5)) = (fun list0 n1 xi5 => ∃ j, L0_spec_placeOf list0 n1 (fun r0 => kk (.one (.c (.v (.int .i64 r0)))) []) j xi5) := by
    funext list0 n1 xi5
    refine congrArg Exists (funext fun j => ?_)
    rw [l0_spec_placeOf list0 n1 kk j xi5]
  rw [hi0]
  rfl
theorem clok_spec_placeOf : ConOK Try.prog cl_spec_placeOf := consNil
theorem cok_spec_placeOf : ConsOK Try.prog 19 cs_spec_placeOf := ⟨clok_spec_placeOf, inlNil⟩
theorem i_spec_placeOf {vs : List A1} {kk : AV → List A1 → Prop} {motive : List A1 → Prop} (h : con_spec_placeOf.F vs kk) (H : ∀ (list0 : List Int) (n1 : Int), F_spec_placeOf list0 n1 (fun r0 => kk (.one (.c (.v (.int .i64 r0)))) []) → motive [.c (.ro .int list0), .c (.v (.int .i64 n1))]) : motive vs := by
  unfold con_spec_placeOf at h
  dsimp only at h
  split at h
  · exact H _ _ h
  · exact h.elim
theorem h_spec_placeOf : Holds Try.prog 66 con_spec_placeOf := by
  refine holds_of_ev (rt := [.c .sc]) (T := TT) (Γ := cs_spec_placeOf) (an := an_spec_placeOf) (N := 19) (c := Try.f66.body.getD .skip) Try.func66 (by kernel_rfl) Try.ntmps66 (by decide) (by decide) mixed tabOK cok_spec_placeOf (by kernel_rfl) ?_
  intro vs kk _ hF
  exact i_spec_placeOf (motive := fun vs => Goes (ev TT cs_spec_placeOf 19 an_spec_placeOf (Try.f66.body.getD .skip) (st0 con_spec_placeOf vs) (fin TT con_spec_placeOf Try.f66.results.toList [.c .sc] vs kk))) hF (fun list0 n1 hF => goes_of (e_spec_placeOf list0 n1 kk) (F_spec_placeOf_S hF))
def con_spec_distinct : Con := ⟨[.rd], true, [.c (.sl .int)], fun vs k => match vs with
    | [.c (.ro .int list0)] => F_spec_distinct list0 (fun r0 => k (.one (.c (.v (.bool r0)))) [])
    | _ => False, false⟩
def cl_spec_distinct : List (FuncId × Con) := [(66, con_spec_placeOf)]
def nm0_spec_distinct : List NStep := [.keep [0, 3] []]
def an_spec_distinct : Ann := ⟨[], [(2, nm0_spec_distinct)], []⟩
def cs_spec_distinct : Cons := ⟨cl_spec_distinct, [], 0, [], []⟩
def can0_spec_distinct (list0 : List Int) (xi3 : Int) : St := ⟨[(0, .one (.c (.ro .int list0))), (3, .one (.c (.v (.int .i64 xi3))))], []⟩
def fin_spec_distinct (list0 : List Int) (kk : AV → List A1 → Prop) : Kt := fin TT con_spec_distinct Try.f69.results.toList [.c .sc] [.c (.ro .int list0)] kk
def kt0_spec_distinct (kf : Kt) : Kt := blockK 0 (seqK (evF TT cs_spec_distinct 18 an_spec_distinct Try.f69 [1, 1]) (kf))
theorem r0_spec_distinct (list0 : List Int) (kk : AV → List A1 → Prop) (n : Nat) (xi3 : Int) :
    iter (evF TT cs_spec_distinct 18 an_spec_distinct Try.f69 [1, 0, 1, 0, 0]) nm0_spec_distinct (kt0_spec_distinct (fin_spec_distinct list0 kk)) (n + 1) (can0_spec_distinct list0 xi3) = T0_spec_distinct list0 xi3 (fun r0 => kk (.one (.c (.v (.bool r0)))) []) (fun xi3 => iter (evF TT cs_spec_distinct 18 an_spec_distinct Try.f69 [1, 0, 1, 0, 0]) nm0_spec_distinct (kt0_spec_distinct (fin_spec_distinct list0 kk)) n (can0_spec_distinct list0 xi3)) := by kernel_rfl
theorem l0_spec_distinct (list0 : List Int) (kk : AV → List A1 → Prop) : ∀ (n : Nat) (xi3 : Int), iter (evF TT cs_spec_distinct 18 an_spec_distinct Try.f69 [1, 0, 1, 0, 0]) nm0_spec_distinct (kt0_spec_distinct (fin_spec_distinct list0 kk)) n (can0_spec_distinct list0 xi3) = L0_spec_distinct list0 (fun r0 => kk (.one (.c (.v (.bool r0)))) []) n xi3 := by
  intro n
  induction n with
  | zero => intros; rfl
  | succ n ih =>
    intro xi3
    rw [r0_spec_distinct list0 kk n xi3]
    have hb : (fun xi3 => iter (evF TT cs_spec_distinct 18 an_spec_distinct Try.f69 [1, 0, 1, 0, 0]) nm0_spec_distinct (kt0_spec_distinct (fin_spec_distinct list0 kk)) n (can0_spec_distinct list0 xi3)) = L0_spec_distinct list0 (fun r0 => kk (.one (.c (.v (.bool r0)))) []) n := by
      funext xi3; exact ih xi3
    rw [hb]
    rfl
theorem g_spec_distinct (list0 : List Int) (kk : AV → List A1 → Prop) :
    ev TT cs_spec_distinct 18 an_spec_distinct (Try.f69.body.getD .skip) (st0 con_spec_distinct [.c (.ro .int list0)]) (fin TT con_spec_distinct Try.f69.results.toList [.c .sc] [.c (.ro .int list0)] kk) = G_spec_distinct list0 (fun list0 xi3 => ∃ j, iter (evF TT cs_spec_distinct 18 an_spec_distinct Try.f69 [1, 0, 1, 0, 0]) nm0_spec_distinct (kt0_spec_distinct (fin_spec_distinct list0 kk)) j (can0_spec_distinct list0 xi3)) := by kernel_rfl
theorem e_spec_distinct (list0 : List Int) (kk : AV → List A1 → Prop) :
    ev TT cs_spec_distinct 18 an_spec_distinct (Try.f69.body.getD .skip) (st0 con_spec_distinct [.c (.ro .int list0)]) (fin TT con_spec_distinct Try.f69.results.toList [.c .sc] [.c (.ro .int list0)] kk) = S_spec_distinct list0 (fun r0 => kk (.one (.c (.v (.bool r0)))) []) := by
  rw [g_spec_distinct]
  have hi0 : (fun list0 xi3 => ∃ j, iter (evF TT cs_spec_distinct 18 an_spec_distinct Try.f69 [1, 0, 1, 0, 0]) nm0_spec_distinct (kt0_spec_distinct (fin_spec_distinct list0 kk)) j (can0_spec_distinct list0 xi3)) = (fun list0 xi3 => ∃ j, L0_spec_distinct list0 (fun r0 => kk (.one (.c (.v (.bool r0)))) []) j xi3) := by
    funext list0 xi3
    refine congrArg Exists (funext fun j => ?_)
    rw [l0_spec_distinct list0 kk j xi3]
  rw [hi0]
  rfl
theorem clok_spec_distinct : ConOK Try.prog cl_spec_distinct := consCons h_spec_placeOf ⟨Try.f66, Try.func66, by kernel_rfl, ne_of_beq (by kernel_rfl)⟩ (consNil)
theorem cok_spec_distinct : ConsOK Try.prog 18 cs_spec_distinct := ⟨clok_spec_distinct, inlNil⟩
theorem i_spec_distinct {vs : List A1} {kk : AV → List A1 → Prop} {motive : List A1 → Prop} (h : con_spec_distinct.F vs kk) (H : ∀ (list0 : List Int), F_spec_distinct list0 (fun r0 => kk (.one (.c (.v (.bool r0)))) []) → motive [.c (.ro .int list0)]) : motive vs := by
  unfold con_spec_distinct at h
  dsimp only at h
  split at h
  · exact H _ h
  · exact h.elim
theorem h_spec_distinct : Holds Try.prog 69 con_spec_distinct := by
  refine holds_of_ev (rt := [.c .sc]) (T := TT) (Γ := cs_spec_distinct) (an := an_spec_distinct) (N := 18) (c := Try.f69.body.getD .skip) Try.func69 (by kernel_rfl) Try.ntmps69 (by decide) (by decide) mixed tabOK cok_spec_distinct (by kernel_rfl) ?_
  intro vs kk _ hF
  exact i_spec_distinct (motive := fun vs => Goes (ev TT cs_spec_distinct 18 an_spec_distinct (Try.f69.body.getD .skip) (st0 con_spec_distinct vs) (fin TT con_spec_distinct Try.f69.results.toList [.c .sc] vs kk))) hF (fun list0 hF => goes_of (e_spec_distinct list0 kk) (F_spec_distinct_S hF))
def con_spec_validKeys : Con := ⟨[.rd, .rd], true, [.c (.sl .int), .c (.sc)], fun vs k => match vs with
    | [.c (.ro .int list0), .c (.v (.int .i64 room1))] => F_spec_validKeys list0 room1 (fun r0 => k (.one (.c (.v (.bool r0)))) [])
    | _ => False, false⟩
def cl_spec_validKeys : List (FuncId × Con) := [(39, con_spec_inRange), (64, con_spec_allIn), (69, con_spec_distinct)]
def an_spec_validKeys : Ann := ⟨[], [], []⟩
def cs_spec_validKeys : Cons := ⟨cl_spec_validKeys, [], 0, [], []⟩
def fin_spec_validKeys (list0 : List Int) (room1 : Int) (kk : AV → List A1 → Prop) : Kt := fin TT con_spec_validKeys Try.f68.results.toList [.c .sc] [.c (.ro .int list0), .c (.v (.int .i64 room1))] kk
theorem g_spec_validKeys (list0 : List Int) (room1 : Int) (kk : AV → List A1 → Prop) :
    ev TT cs_spec_validKeys 21 an_spec_validKeys (Try.f68.body.getD .skip) (st0 con_spec_validKeys [.c (.ro .int list0), .c (.v (.int .i64 room1))]) (fin TT con_spec_validKeys Try.f68.results.toList [.c .sc] [.c (.ro .int list0), .c (.v (.int .i64 room1))] kk) = G_spec_validKeys list0 room1 (fun r0 => kk (.one (.c (.v (.bool r0)))) []) := by kernel_rfl
theorem e_spec_validKeys (list0 : List Int) (room1 : Int) (kk : AV → List A1 → Prop) :
    ev TT cs_spec_validKeys 21 an_spec_validKeys (Try.f68.body.getD .skip) (st0 con_spec_validKeys [.c (.ro .int list0), .c (.v (.int .i64 room1))]) (fin TT con_spec_validKeys Try.f68.results.toList [.c .sc] [.c (.ro .int list0), .c (.v (.int .i64 room1))] kk) = S_spec_validKeys list0 room1 (fun r0 => kk (.one (.c (.v (.bool r0)))) []) := by
  rw [g_spec_validKeys]
  rfl
theorem clok_spec_validKeys : ConOK Try.prog cl_spec_validKeys := consCons h_spec_inRange ⟨Try.f39, Try.func39, by kernel_rfl, ne_of_beq (by kernel_rfl)⟩ (consCons h_spec_allIn ⟨Try.f64, Try.func64, by kernel_rfl, ne_of_beq (by kernel_rfl)⟩ (consCons h_spec_distinct ⟨Try.f69, Try.func69, by kernel_rfl, ne_of_beq (by kernel_rfl)⟩ (consNil)))
theorem cok_spec_validKeys : ConsOK Try.prog 21 cs_spec_validKeys := ⟨clok_spec_validKeys, inlNil⟩
theorem i_spec_validKeys {vs : List A1} {kk : AV → List A1 → Prop} {motive : List A1 → Prop} (h : con_spec_validKeys.F vs kk) (H : ∀ (list0 : List Int) (room1 : Int), F_spec_validKeys list0 room1 (fun r0 => kk (.one (.c (.v (.bool r0)))) []) → motive [.c (.ro .int list0), .c (.v (.int .i64 room1))]) : motive vs := by
  unfold con_spec_validKeys at h
  dsimp only at h
  split at h
  · exact H _ _ h
  · exact h.elim
theorem h_spec_validKeys : Holds Try.prog 68 con_spec_validKeys := by
  refine holds_of_ev (rt := [.c .sc]) (T := TT) (Γ := cs_spec_validKeys) (an := an_spec_validKeys) (N := 21) (c := Try.f68.body.getD .skip) Try.func68 (by kernel_rfl) Try.ntmps68 (by decide) (by decide) mixed tabOK cok_spec_validKeys (by kernel_rfl) ?_
  intro vs kk _ hF
  exact i_spec_validKeys (motive := fun vs => Goes (ev TT cs_spec_validKeys 21 an_spec_validKeys (Try.f68.body.getD .skip) (st0 con_spec_validKeys vs) (fin TT con_spec_validKeys Try.f68.results.toList [.c .sc] vs kk))) hF (fun list0 room1 hF => goes_of (e_spec_validKeys list0 room1 kk) (F_spec_validKeys_S hF))
def con_spec_copyInts : Con := ⟨[.rd], true, [.c (.sl .int)], fun vs k => match vs with
    | [.c (.ro .int list0)] => F_spec_copyInts list0 (fun r0 => k (.one (.c (.ro .int r0))) [])
    | _ => False, false⟩
def cl_spec_copyInts : List (FuncId × Con) := []
def an_spec_copyInts : Ann := ⟨[], [], []⟩
def cs_spec_copyInts : Cons := ⟨cl_spec_copyInts, [], 0, [], []⟩
def fin_spec_copyInts (list0 : List Int) (kk : AV → List A1 → Prop) : Kt := fin TT con_spec_copyInts Try.f63.results.toList [.c (.sl .int)] [.c (.ro .int list0)] kk
theorem g_spec_copyInts (list0 : List Int) (kk : AV → List A1 → Prop) :
    ev TT cs_spec_copyInts 6 an_spec_copyInts (Try.f63.body.getD .skip) (st0 con_spec_copyInts [.c (.ro .int list0)]) (fin TT con_spec_copyInts Try.f63.results.toList [.c (.sl .int)] [.c (.ro .int list0)] kk) = G_spec_copyInts list0 (fun r0 => kk (.one (.c (.ro .int r0))) []) := by kernel_rfl
theorem e_spec_copyInts (list0 : List Int) (kk : AV → List A1 → Prop) :
    ev TT cs_spec_copyInts 6 an_spec_copyInts (Try.f63.body.getD .skip) (st0 con_spec_copyInts [.c (.ro .int list0)]) (fin TT con_spec_copyInts Try.f63.results.toList [.c (.sl .int)] [.c (.ro .int list0)] kk) = S_spec_copyInts list0 (fun r0 => kk (.one (.c (.ro .int r0))) []) := by
  rw [g_spec_copyInts]
  rfl
theorem clok_spec_copyInts : ConOK Try.prog cl_spec_copyInts := consNil
theorem cok_spec_copyInts : ConsOK Try.prog 6 cs_spec_copyInts := ⟨clok_spec_copyInts, inlNil⟩
theorem i_spec_copyInts {vs : List A1} {kk : AV → List A1 → Prop} {motive : List A1 → Prop} (h : con_spec_copyInts.F vs kk) (H : ∀ (list0 : List Int), F_spec_copyInts list0 (fun r0 => kk (.one (.c (.ro .int r0))) []) → motive [.c (.ro .int list0)]) : motive vs := by
  unfold con_spec_copyInts at h
  dsimp only at h
  split at h
  · exact H _ h
  · exact h.elim
theorem h_spec_copyInts : Holds Try.prog 63 con_spec_copyInts := by
  refine holds_of_ev (rt := [.c (.sl .int)]) (T := TT) (Γ := cs_spec_copyInts) (an := an_spec_copyInts) (N := 6) (c := Try.f63.body.getD .skip) Try.func63 (by kernel_rfl) Try.ntmps63 (by decide) (by decide) mixed tabOK cok_spec_copyInts (by kernel_rfl) ?_
  intro vs kk _ hF
  exact i_spec_copyInts (motive := fun vs => Goes (ev TT cs_spec_copyInts 6 an_spec_copyInts (Try.f63.body.getD .skip) (st0 con_spec_copyInts vs) (fin TT con_spec_copyInts Try.f63.results.toList [.c (.sl .int)] vs kk))) hF (fun list0 hF => goes_of (e_spec_copyInts list0 kk) (F_spec_copyInts_S hF))
def con_spec_validSegments : Con := ⟨[.rd], true, [.agg [.sc, .sc, .sl .int, .sl .int]], fun vs k => match vs with
    | [.agg [.v (.int .i64 s0Trial), .v (.int .i64 s0Safe), .ro .int s0New, .ro .int s0Old]] => F_spec_validSegments s0Trial s0Safe s0New s0Old (fun r0 => k (.one (.c (.v (.bool r0)))) [])
    | _ => False, false⟩
def cl_spec_validSegments : List (FuncId × Con) := [(39, con_spec_inRange), (63, con_spec_copyInts), (68, con_spec_validKeys), (69, con_spec_distinct)]
def an_spec_validSegments : Ann := ⟨[(1, .take 0 (.take 1 (.alt 2 (.take 3 (.take 4 (.take 5 (.alt 6 (.take 7 (.take 8 (.take 9 (.take 10 (.take 11 (.take 12 (.alt 13 (.take 14 (.take 15 (.take 16 (.take 17 (.take 18 (.take 19 (.alt 20 (.take 21 (.take 22 (.take 23 (.take 24 (.take 26 (.take 27 (.alt 25 (.alt 28 (.alt 29 (.take 30 (.take 31 (.done))) (.none)) (.none)) (.none)))))))) (.none)))))))) (.none)))))))) (.none))))) (.none))), [16])], [], []⟩
def cs_spec_validSegments : Cons := ⟨cl_spec_validSegments, [], 0, [], []⟩
def fin_spec_validSegments (s0Trial : Int) (s0Safe : Int) (s0New : List Int) (s0Old : List Int) (kk : AV → List A1 → Prop) : Kt := fin TT con_spec_validSegments Try.f55.results.toList [.c .sc] [.agg [.v (.int .i64 s0Trial), .v (.int .i64 s0Safe), .ro .int s0New, .ro .int s0Old]] kk
theorem g_spec_validSegments (s0Trial : Int) (s0Safe : Int) (s0New : List Int) (s0Old : List Int) (kk : AV → List A1 → Prop) :
    ev TT cs_spec_validSegments 34 an_spec_validSegments (Try.f55.body.getD .skip) (st0 con_spec_validSegments [.agg [.v (.int .i64 s0Trial), .v (.int .i64 s0Safe), .ro .int s0New, .ro .int s0Old]]) (fin TT con_spec_validSegments Try.f55.results.toList [.c .sc] [.agg [.v (.int .i64 s0Trial), .v (.int .i64 s0Safe), .ro .int s0New, .ro .int s0Old]] kk) = G_spec_validSegments s0Trial s0Safe s0New s0Old (fun r0 => kk (.one (.c (.v (.bool r0)))) []) := by kernel_rfl
theorem e_spec_validSegments (s0Trial : Int) (s0Safe : Int) (s0New : List Int) (s0Old : List Int) (kk : AV → List A1 → Prop) :
    ev TT cs_spec_validSegments 34 an_spec_validSegments (Try.f55.body.getD .skip) (st0 con_spec_validSegments [.agg [.v (.int .i64 s0Trial), .v (.int .i64 s0Safe), .ro .int s0New, .ro .int s0Old]]) (fin TT con_spec_validSegments Try.f55.results.toList [.c .sc] [.agg [.v (.int .i64 s0Trial), .v (.int .i64 s0Safe), .ro .int s0New, .ro .int s0Old]] kk) = S_spec_validSegments s0Trial s0Safe s0New s0Old (fun r0 => kk (.one (.c (.v (.bool r0)))) []) := by
  rw [g_spec_validSegments]
  rw [G_spec_validSegments_eq]
  rfl
theorem clok_spec_validSegments : ConOK Try.prog cl_spec_validSegments := consCons h_spec_inRange ⟨Try.f39, Try.func39, by kernel_rfl, ne_of_beq (by kernel_rfl)⟩ (consCons h_spec_copyInts ⟨Try.f63, Try.func63, by kernel_rfl, ne_of_beq (by kernel_rfl)⟩ (consCons h_spec_validKeys ⟨Try.f68, Try.func68, by kernel_rfl, ne_of_beq (by kernel_rfl)⟩ (consCons h_spec_distinct ⟨Try.f69, Try.func69, by kernel_rfl, ne_of_beq (by kernel_rfl)⟩ (consNil))))
theorem cok_spec_validSegments : ConsOK Try.prog 34 cs_spec_validSegments := ⟨clok_spec_validSegments, inlNil⟩
theorem i_spec_validSegments {vs : List A1} {kk : AV → List A1 → Prop} {motive : List A1 → Prop} (h : con_spec_validSegments.F vs kk) (H : ∀ (s0Trial : Int) (s0Safe : Int) (s0New : List Int) (s0Old : List Int), F_spec_validSegments s0Trial s0Safe s0New s0Old (fun r0 => kk (.one (.c (.v (.bool r0)))) []) → motive [.agg [.v (.int .i64 s0Trial), .v (.int .i64 s0Safe), .ro .int s0New, .ro .int s0Old]]) : motive vs := by
  unfold con_spec_validSegments at h
  dsimp only at h
  split at h
  · exact H _ _ _ _ h
  · exact h.elim
theorem h_spec_validSegments : Holds Try.prog 55 con_spec_validSegments := by
  refine holds_of_ev (rt := [.c .sc]) (T := TT) (Γ := cs_spec_validSegments) (an := an_spec_validSegments) (N := 34) (c := Try.f55.body.getD .skip) Try.func55 (by kernel_rfl) Try.ntmps55 (by decide) (by decide) mixed tabOK cok_spec_validSegments (by kernel_rfl) ?_
  intro vs kk _ hF
  exact i_spec_validSegments (motive := fun vs => Goes (ev TT cs_spec_validSegments 34 an_spec_validSegments (Try.f55.body.getD .skip) (st0 con_spec_validSegments vs) (fin TT con_spec_validSegments Try.f55.results.toList [.c .sc] vs kk))) hF (fun s0Trial s0Safe s0New s0Old hF => goes_of (e_spec_validSegments s0Trial s0Safe s0New s0Old kk) (F_spec_validSegments_S hF))
def con_spec_ValidSegments : Con := ⟨[.rd], true, [.agg [.sc, .sc, .sl .int, .sl .int]], fun vs k => match vs with
    | [.agg [.v (.int .i64 s0Trial), .v (.int .i64 s0Safe), .ro .int s0New, .ro .int s0Old]] => F_spec_ValidSegments s0Trial s0Safe s0New s0Old (fun r0 => k (.one (.c (.v (.bool r0)))) [])
    | _ => False, false⟩
def cl_spec_ValidSegments : List (FuncId × Con) := [(55, con_spec_validSegments)]
def an_spec_ValidSegments : Ann := ⟨[], [], []⟩
def cs_spec_ValidSegments : Cons := ⟨cl_spec_ValidSegments, [], 0, [], []⟩
def fin_spec_ValidSegments (s0Trial : Int) (s0Safe : Int) (s0New : List Int) (s0Old : List Int) (kk : AV → List A1 → Prop) : Kt := fin TT con_spec_ValidSegments Try.f26.results.toList [.c .sc] [.agg [.v (.int .i64 s0Trial), .v (.int .i64 s0Safe), .ro .int s0New, .ro .int s0Old]] kk
theorem g_spec_ValidSegments (s0Trial : Int) (s0Safe : Int) (s0New : List Int) (s0Old : List Int) (kk : AV → List A1 → Prop) :
    ev TT cs_spec_ValidSegments 5 an_spec_ValidSegments (Try.f26.body.getD .skip) (st0 con_spec_ValidSegments [.agg [.v (.int .i64 s0Trial), .v (.int .i64 s0Safe), .ro .int s0New, .ro .int s0Old]]) (fin TT con_spec_ValidSegments Try.f26.results.toList [.c .sc] [.agg [.v (.int .i64 s0Trial), .v (.int .i64 s0Safe), .ro .int s0New, .ro .int s0Old]] kk) = G_spec_ValidSegments s0Trial s0Safe s0New s0Old (fun r0 => kk (.one (.c (.v (.bool r0)))) []) := by kernel_rfl
theorem e_spec_ValidSegments (s0Trial : Int) (s0Safe : Int) (s0New : List Int) (s0Old : List Int) (kk : AV → List A1 → Prop) :
    ev TT cs_spec_ValidSegments 5 an_spec_ValidSegments (Try.f26.body.getD .skip) (st0 con_spec_ValidSegments [.agg [.v (.int .i64 s0Trial), .v (.int .i64 s0Safe), .ro .int s0New, .ro .int s0Old]]) (fin TT con_spec_ValidSegments Try.f26.results.toList [.c .sc] [.agg [.v (.int .i64 s0Trial), .v (.int .i64 s0Safe), .ro .int s0New, .ro .int s0Old]] kk) = S_spec_ValidSegments s0Trial s0Safe s0New s0Old (fun r0 => kk (.one (.c (.v (.bool r0)))) []) := by
  rw [g_spec_ValidSegments]
  rfl
theorem clok_spec_ValidSegments : ConOK Try.prog cl_spec_ValidSegments := consCons h_spec_validSegments ⟨Try.f55, Try.func55, by kernel_rfl, ne_of_beq (by kernel_rfl)⟩ (consNil)
theorem cok_spec_ValidSegments : ConsOK Try.prog 5 cs_spec_ValidSegments := ⟨clok_spec_ValidSegments, inlNil⟩
theorem i_spec_ValidSegments {vs : List A1} {kk : AV → List A1 → Prop} {motive : List A1 → Prop} (h : con_spec_ValidSegments.F vs kk) (H : ∀ (s0Trial : Int) (s0Safe : Int) (s0New : List Int) (s0Old : List Int), F_spec_ValidSegments s0Trial s0Safe s0New s0Old (fun r0 => kk (.one (.c (.v (.bool r0)))) []) → motive [.agg [.v (.int .i64 s0Trial), .v (.int .i64 s0Safe), .ro .int s0New, .ro .int s0Old]]) : motive vs := by
  unfold con_spec_ValidSegments at h
  dsimp only at h
  split at h
  · exact H _ _ _ _ h
  · exact h.elim
theorem h_spec_ValidSegments : Holds Try.prog 26 con_spec_ValidSegments := by
  refine holds_of_ev (rt := [.c .sc]) (T := TT) (Γ := cs_spec_ValidSegments) (an := an_spec_ValidSegments) (N := 5) (c := Try.f26.body.getD .skip) Try.func26 (by kernel_rfl) Try.ntmps26 (by decide) (by decide) mixed tabOK cok_spec_ValidSegments (by kernel_rfl) ?_
  intro vs kk _ hF
  exact i_spec_ValidSegments (motive := fun vs => Goes (ev TT cs_spec_ValidSegments 5 an_spec_ValidSegments (Try.f26.body.getD .skip) (st0 con_spec_ValidSegments vs) (fin TT con_spec_ValidSegments Try.f26.results.toList [.c .sc] vs kk))) hF (fun s0Trial s0Safe s0New s0Old hF => goes_of (e_spec_ValidSegments s0Trial s0Safe s0New s0Old kk) (F_spec_ValidSegments_S hF))
def con_impl_validRoom : Con := ⟨[.rd], true, [.c (.sc)], fun vs k => match vs with
    | [.c (.v (.int .i64 room0))] => F_impl_validRoom room0 (fun r0 => k (.one (.c (.v (.bool r0)))) [])
    | _ => False, false⟩
def cl_impl_validRoom : List (FuncId × Con) := []
def an_impl_validRoom : Ann := ⟨[], [], []⟩
def cs_impl_validRoom : Cons := ⟨cl_impl_validRoom, [], 0, [], []⟩
def fin_impl_validRoom (room0 : Int) (kk : AV → List A1 → Prop) : Kt := fin TT con_impl_validRoom Try.f43.results.toList [.c .sc] [.c (.v (.int .i64 room0))] kk
theorem g_impl_validRoom (room0 : Int) (kk : AV → List A1 → Prop) :
    ev TT cs_impl_validRoom 9 an_impl_validRoom (Try.f43.body.getD .skip) (st0 con_impl_validRoom [.c (.v (.int .i64 room0))]) (fin TT con_impl_validRoom Try.f43.results.toList [.c .sc] [.c (.v (.int .i64 room0))] kk) = G_impl_validRoom room0 (fun r0 => kk (.one (.c (.v (.bool r0)))) []) := by kernel_rfl
theorem e_impl_validRoom (room0 : Int) (kk : AV → List A1 → Prop) :
    ev TT cs_impl_validRoom 9 an_impl_validRoom (Try.f43.body.getD .skip) (st0 con_impl_validRoom [.c (.v (.int .i64 room0))]) (fin TT con_impl_validRoom Try.f43.results.toList [.c .sc] [.c (.v (.int .i64 room0))] kk) = S_impl_validRoom room0 (fun r0 => kk (.one (.c (.v (.bool r0)))) []) := by
  rw [g_impl_validRoom]
  rfl
theorem clok_impl_validRoom : ConOK Try.prog cl_impl_validRoom := consNil
theorem cok_impl_validRoom : ConsOK Try.prog 9 cs_impl_validRoom := ⟨clok_impl_validRoom, inlNil⟩
theorem i_impl_validRoom {vs : List A1} {kk : AV → List A1 → Prop} {motive : List A1 → Prop} (h : con_impl_validRoom.F vs kk) (H : ∀ (room0 : Int), F_impl_validRoom room0 (fun r0 => kk (.one (.c (.v (.bool r0)))) []) → motive [.c (.v (.int .i64 room0))]) : motive vs := by
  unfold con_impl_validRoom at h
  dsimp only at h
  split at h
  · exact H _ h
  · exact h.elim
theorem h_impl_validRoom : Holds Try.prog 43 con_impl_validRoom := by
  refine holds_of_ev (rt := [.c .sc]) (T := TT) (Γ := cs_impl_validRoom) (an := an_impl_validRoom) (N := 9) (c := Try.f43.body.getD .skip) Try.func43 (by kernel_rfl) Try.ntmps43 (by decide) (by decide) mixed tabOK cok_impl_validRoom (by kernel_rfl) ?_
  intro vs kk _ hF
  exact i_impl_validRoom (motive := fun vs => Goes (ev TT cs_impl_validRoom 9 an_impl_validRoom (Try.f43.body.getD .skip) (st0 con_impl_validRoom vs) (fin TT con_impl_validRoom Try.f43.results.toList [.c .sc] vs kk))) hF (fun room0 hF => goes_of (e_impl_validRoom room0 kk) (F_impl_validRoom_S hF))
def con_impl_validKey : Con := ⟨[.rd], true, [.c (.sc)], fun vs k => match vs with
    | [.c (.v (.int .i64 key0))] => F_impl_validKey key0 (fun r0 => k (.one (.c (.v (.bool r0)))) [])
    | _ => False, false⟩
def cl_impl_validKey : List (FuncId × Con) := []
def an_impl_validKey : Ann := ⟨[], [], []⟩
def cs_impl_validKey : Cons := ⟨cl_impl_validKey, [], 0, [], []⟩
def fin_impl_validKey (key0 : Int) (kk : AV → List A1 → Prop) : Kt := fin TT con_impl_validKey Try.f59.results.toList [.c .sc] [.c (.v (.int .i64 key0))] kk
theorem g_impl_validKey (key0 : Int) (kk : AV → List A1 → Prop) :
    ev TT cs_impl_validKey 9 an_impl_validKey (Try.f59.body.getD .skip) (st0 con_impl_validKey [.c (.v (.int .i64 key0))]) (fin TT con_impl_validKey Try.f59.results.toList [.c .sc] [.c (.v (.int .i64 key0))] kk) = G_impl_validKey key0 (fun r0 => kk (.one (.c (.v (.bool r0)))) []) := by kernel_rfl
theorem e_impl_validKey (key0 : Int) (kk : AV → List A1 → Prop) :
    ev TT cs_impl_validKey 9 an_impl_validKey (Try.f59.body.getD .skip) (st0 con_impl_validKey [.c (.v (.int .i64 key0))]) (fin TT con_impl_validKey Try.f59.results.toList [.c .sc] [.c (.v (.int .i64 key0))] kk) = S_impl_validKey key0 (fun r0 => kk (.one (.c (.v (.bool r0)))) []) := by
  rw [g_impl_validKey]
  rfl
theorem clok_impl_validKey : ConOK Try.prog cl_impl_validKey := consNil
theorem cok_impl_validKey : ConsOK Try.prog 9 cs_impl_validKey := ⟨clok_impl_validKey, inlNil⟩
theorem i_impl_validKey {vs : List A1} {kk : AV → List A1 → Prop} {motive : List A1 → Prop} (h : con_impl_validKey.F vs kk) (H : ∀ (key0 : Int), F_impl_validKey key0 (fun r0 => kk (.one (.c (.v (.bool r0)))) []) → motive [.c (.v (.int .i64 key0))]) : motive vs := by
  unfold con_impl_validKey at h
  dsimp only at h
  split at h
  · exact H _ h
  · exact h.elim
theorem h_impl_validKey : Holds Try.prog 59 con_impl_validKey := by
  refine holds_of_ev (rt := [.c .sc]) (T := TT) (Γ := cs_impl_validKey) (an := an_impl_validKey) (N := 9) (c := Try.f59.body.getD .skip) Try.func59 (by kernel_rfl) Try.ntmps59 (by decide) (by decide) mixed tabOK cok_impl_validKey (by kernel_rfl) ?_
  intro vs kk _ hF
  exact i_impl_validKey (motive := fun vs => Goes (ev TT cs_impl_validKey 9 an_impl_validKey (Try.f59.body.getD .skip) (st0 con_impl_validKey vs) (fin TT con_impl_validKey Try.f59.results.toList [.c .sc] vs kk))) hF (fun key0 hF => goes_of (e_impl_validKey key0 kk) (F_impl_validKey_S hF))
def con_slices_Index_sint_int : Con := ⟨[.rd, .rd], true, [.c (.sl .int), .c (.sc)], fun vs k => match vs with
    | [.c (.ro .int s0), .c (.v (.int .i64 v1))] => F_slices_Index_sint_int s0 v1 (fun r0 => k (.one (.c (.v (.int .i64 r0)))) [])
    | _ => False, false⟩
def cl_slices_Index_sint_int : List (FuncId × Con) := []
def nm0_slices_Index_sint_int : List NStep := [.keep [0, 1, 7, 8] []]
def an_slices_Index_sint_int : Ann := ⟨[], [(2, nm0_slices_Index_sint_int)], []⟩
def cs_slices_Index_sint_int : Cons := ⟨cl_slices_Index_sint_int, [], 0, [], []⟩
def can0_slices_Index_sint_int (s0 : List Int) (v1 : Int) (xt7 : Int) (xt8 : Int) : St := ⟨[(0, .one (.c (.ro .int s0))), (1, .one (.c (.v (.int .i64 v1)))), (7, .one (.c (.v (.int .i64 xt7)))), (8, .one (.c (.v (.int .i64 xt8))))], []⟩
def fin_slices_Index_sint_int (s0 : List Int) (v1 : Int) (kk : AV → List A1 → Prop) : Kt := fin TT con_slices_Index_sint_int Try.f67.results.toList [.c .sc] [.c (.ro .int s0), .c (.v (.int .i64 v1))] kk
def kt0_slices_Index_sint_int (kf : Kt) : Kt := blockK 0 (seqK (evF TT cs_slices_Index_sint_int 19 an_slices_Index_sint_int Try.f67 [1, 1]) (kf))
theorem r0_slices_Index_sint_int (s0 : List Int) (v1 : Int) (xt7 : Int) (kk : AV → List A1 → Prop) (n : Nat) (xt8 : Int) :
    iter (evF TT cs_slices_Index_sint_int 19 an_slices_Index_sint_int Try.f67 [1, 0, 1, 0, 0]) nm0_slices_Index_sint_int (kt0_slices_Index_sint_int (fin_slices_Index_sint_int s0 v1 kk)) (n + 1) (can0_slices_Index_sint_int s0 v1 xt7 xt8) = T0_slices_Index_sint_int s0 v1 xt7 xt8 (fun r0 => kk (.one (.c (.v (.int .i64 r0)))) []) (fun xt8 => iter (evF TT cs_slices_Index_sint_int 19 an_slices_Index_sint_int Try.f67 [1, 0, 1, 0, 0]) nm0_slices_Index_sint_int (kt0_slices_Index_sint_int (fin_slices_Index_sint_int s0 v1 kk)) n (can0_slices_Index_sint_int s0 v1 xt7 xt8)) := by kernel_rfl
theorem l0_slices_Index_sint_int (s0 : List Int) (v1 : Int) (xt7 : Int) (kk : AV → List A1 → Prop) : ∀ (n : Nat) (xt8 : Int), iter (evF TT cs_slices_Index_sint_int 19 an_slices_Index_sint_int Try.f67 [1, 0, 1, 0, 0]) nm0_slices_Index_sint_int (kt0_slices_Index_sint_int (fin_slices_Index_sint_int s0 v1 kk)) n (can0_slices_Index_sint_int s0 v1 xt7 xt8) = L0_slices_Index_sint_int s0 v1 xt7 (fun r0 => kk (.one (.c (.v (.int .i64 r0)))) []) n xt8 := by
  intro n
  induction n with
  | zero => intros; rfl
  | succ n ih =>
    intro xt8
    rw [r0_slices_Index_sint_int s0 v1 xt7 kk n xt8]
    have hb : (fun xt8 => iter (evF TT cs_slices_Index_sint_int 19 an_slices_Index_sint_int Try.f67 [1, 0, 1, 0, 0]) nm0_slices_Index_sint_int (kt0_slices_Index_sint_int (fin_slices_Index_sint_int s0 v1 kk)) n (can0_slices_Index_sint_int s0 v1 xt7 xt8)) = L0_slices_Index_sint_int s0 v1 xt7 (fun r0 => kk (.one (.c (.v (.int .i64 r0)))) []) n := by
      funext xt8; exact ih xt8
    rw [hb]
    rfl
theorem g_slices_Index_sint_int (s0 : List Int) (v1 : Int) (kk : AV → List A1 → Prop) :
    ev TT cs_slices_Index_sint_int 19 an_slices_Index_sint_int (Try.f67.body.getD .skip) (st0 con_slices_Index_sint_int [.c (.ro .int s0), .c (.v (.int .i64 v1))]) (fin TT con_slices_Index_sint_int Try.f67.results.toList [.c .sc] [.c (.ro .int s0), .c (.v (.int .i64 v1))] kk) = G_slices_Index_sint_int s0 v1 (fun s0 v1 xt7 xt8 => ∃ j, iter (evF TT cs_slices_Index_sint_int 19 an_slices_Index_sint_int Try.f67 [1, 0, 1, 0, 0]) nm0_slices_Index_sint_int (kt0_slices_Index_sint_int (fin_slices_Index_sint_int s0 v1 kk)) j (can0_slices_Index_sint_int s0 v1 xt7 xt8)) := by kernel_rfl
theorem e_slices_Index_sint_int (s0 : List Int) (v1 : Int) (kk : AV → List A1 → Prop) :
    ev TT cs_slices_Index_sint_int 19 an_slices_Index_sint_int (Try.f67.body.getD .skip) (st0 con_slices_Index_sint_int [.c (.ro .int s0), .c (.v (.int .i64 v1))]) (fin TT con_slices_Index_sint_int Try.f67.results.toList [.c .sc] [.c (.ro .int s0), .c (.v (.int .i64 v1))] kk) = S_slices_Index_sint_int s0 v1 (fun r0 => kk (.one (.c (.v (.int .i64 r0)))) []) := by
  rw [g_slices_Index_sint_int]
  have hi0 : (fun s0 v1 xt7 xt8 => ∃ j, iter (evF TT cs_slices_Index_sint_int 19 an_slices_Index_sint_int Try.f67 [1, 0, 1, 0, 0]) nm0_slices_Index_sint_int (kt0_slices_Index_sint_int (fin_slices_Index_sint_int s0 v1 kk)) j (can0_slices_Index_sint_int s0 v1 xt7 xt8)) = (fun s0 v1 xt7 xt8 => ∃ j, L0_slices_Index_sint_int s0 v1 xt7 (fun r0 => kk (.one (.c (.v (.int .i64 r0)))) []) j xt8) := by
    funext s0 v1 xt7 xt8
    refine congrArg Exists (funext fun j => ?_)
    rw [l0_slices_Index_sint_int s0 v1 xt7 kk j xt8]
  rw [hi0]
  rfl
theorem clok_slices_Index_sint_int : ConOK Try.prog cl_slices_Index_sint_int := consNil
theorem cok_slices_Index_sint_int : ConsOK Try.prog 19 cs_slices_Index_sint_int := ⟨clok_slices_Index_sint_int, inlNil⟩
theorem i_slices_Index_sint_int {vs : List A1} {kk : AV → List A1 → Prop} {motive : List A1 → Prop} (h : con_slices_Index_sint_int.F vs kk) (H : ∀ (s0 : List Int) (v1 : Int), F_slices_Index_sint_int s0 v1 (fun r0 => kk (.one (.c (.v (.int .i64 r0)))) []) → motive [.c (.ro .int s0), .c (.v (.int .i64 v1))]) : motive vs := by
  unfold con_slices_Index_sint_int at h
  dsimp only at h
  split at h
  · exact H _ _ h
  · exact h.elim
theorem h_slices_Index_sint_int : Holds Try.prog 67 con_slices_Index_sint_int := by
  refine holds_of_ev (rt := [.c .sc]) (T := TT) (Γ := cs_slices_Index_sint_int) (an := an_slices_Index_sint_int) (N := 19) (c := Try.f67.body.getD .skip) Try.func67 (by kernel_rfl) Try.ntmps67 (by decide) (by decide) mixed tabOK cok_slices_Index_sint_int (by kernel_rfl) ?_
  intro vs kk _ hF
  exact i_slices_Index_sint_int (motive := fun vs => Goes (ev TT cs_slices_Index_sint_int 19 an_slices_Index_sint_int (Try.f67.body.getD .skip) (st0 con_slices_Index_sint_int vs) (fin TT con_slices_Index_sint_int Try.f67.results.toList [.c .sc] vs kk))) hF (fun s0 v1 hF => goes_of (e_slices_Index_sint_int s0 v1 kk) (F_slices_Index_sint_int_S hF))
def con_slices_Contains_sint_int : Con := ⟨[.rd, .rd], true, [.c (.sl .int), .c (.sc)], fun vs k => match vs with
    | [.c (.ro .int s0), .c (.v (.int .i64 v1))] => F_slices_Contains_sint_int s0 v1 (fun r0 => k (.one (.c (.v (.bool r0)))) [])
    | _ => False, false⟩
def cl_slices_Contains_sint_int : List (FuncId × Con) := [(67, con_slices_Index_sint_int)]
def an_slices_Contains_sint_int : Ann := ⟨[], [], []⟩
def cs_slices_Contains_sint_int : Cons := ⟨cl_slices_Contains_sint_int, [], 0, [], []⟩
def fin_slices_Contains_sint_int (s0 : List Int) (v1 : Int) (kk : AV → List A1 → Prop) : Kt := fin TT con_slices_Contains_sint_int Try.f57.results.toList [.c .sc] [.c (.ro .int s0), .c (.v (.int .i64 v1))] kk
theorem g_slices_Contains_sint_int (s0 : List Int) (v1 : Int) (kk : AV → List A1 → Prop) :
    ev TT cs_slices_Contains_sint_int 9 an_slices_Contains_sint_int (Try.f57.body.getD .skip) (st0 con_slices_Contains_sint_int [.c (.ro .int s0), .c (.v (.int .i64 v1))]) (fin TT con_slices_Contains_sint_int Try.f57.results.toList [.c .sc] [.c (.ro .int s0), .c (.v (.int .i64 v1))] kk) = G_slices_Contains_sint_int s0 v1 (fun r0 => kk (.one (.c (.v (.bool r0)))) []) := by kernel_rfl
theorem e_slices_Contains_sint_int (s0 : List Int) (v1 : Int) (kk : AV → List A1 → Prop) :
    ev TT cs_slices_Contains_sint_int 9 an_slices_Contains_sint_int (Try.f57.body.getD .skip) (st0 con_slices_Contains_sint_int [.c (.ro .int s0), .c (.v (.int .i64 v1))]) (fin TT con_slices_Contains_sint_int Try.f57.results.toList [.c .sc] [.c (.ro .int s0), .c (.v (.int .i64 v1))] kk) = S_slices_Contains_sint_int s0 v1 (fun r0 => kk (.one (.c (.v (.bool r0)))) []) := by
  rw [g_slices_Contains_sint_int]
  rfl
theorem clok_slices_Contains_sint_int : ConOK Try.prog cl_slices_Contains_sint_int := consCons h_slices_Index_sint_int ⟨Try.f67, Try.func67, by kernel_rfl, ne_of_beq (by kernel_rfl)⟩ (consNil)
theorem cok_slices_Contains_sint_int : ConsOK Try.prog 9 cs_slices_Contains_sint_int := ⟨clok_slices_Contains_sint_int, inlNil⟩
theorem i_slices_Contains_sint_int {vs : List A1} {kk : AV → List A1 → Prop} {motive : List A1 → Prop} (h : con_slices_Contains_sint_int.F vs kk) (H : ∀ (s0 : List Int) (v1 : Int), F_slices_Contains_sint_int s0 v1 (fun r0 => kk (.one (.c (.v (.bool r0)))) []) → motive [.c (.ro .int s0), .c (.v (.int .i64 v1))]) : motive vs := by
  unfold con_slices_Contains_sint_int at h
  dsimp only at h
  split at h
  · exact H _ _ h
  · exact h.elim
theorem h_slices_Contains_sint_int : Holds Try.prog 57 con_slices_Contains_sint_int := by
  refine holds_of_ev (rt := [.c .sc]) (T := TT) (Γ := cs_slices_Contains_sint_int) (an := an_slices_Contains_sint_int) (N := 9) (c := Try.f57.body.getD .skip) Try.func57 (by kernel_rfl) Try.ntmps57 (by decide) (by decide) mixed tabOK cok_slices_Contains_sint_int (by kernel_rfl) ?_
  intro vs kk _ hF
  exact i_slices_Contains_sint_int (motive := fun vs => Goes (ev TT cs_slices_Contains_sint_int 9 an_slices_Contains_sint_int (Try.f57.body.getD .skip) (st0 con_slices_Contains_sint_int vs) (fin TT con_slices_Contains_sint_int Try.f57.results.toList [.c .sc] vs kk))) hF (fun s0 v1 hF => goes_of (e_slices_Contains_sint_int s0 v1 kk) (F_slices_Contains_sint_int_S hF))
def con_impl_differentKeys : Con := ⟨[.rd], true, [.c (.sl .int)], fun vs k => match vs with
    | [.c (.ro .int list0)] => F_impl_differentKeys list0 (fun r0 => k (.one (.c (.v (.bool r0)))) [])
    | _ => False, false⟩
def cl_impl_differentKeys : List (FuncId × Con) := [(57, con_slices_Contains_sint_int), (59, con_impl_validKey)]
def nm0_impl_differentKeys : List NStep := [.keep [0, 5, 6, 7] []]
def an_impl_differentKeys : Ann := ⟨[], [(2, nm0_impl_differentKeys)], []⟩
def cs_impl_differentKeys : Cons := ⟨cl_impl_differentKeys, [], 0, [], []⟩
def can0_impl_differentKeys (list0 : List Int) (xt6 : Int) (xt7 : Int) : St := ⟨[(0, .one (.c (.ro .int list0))), (5, .one (.c (.ro .int list0))), (6, .one (.c (.v (.int .i64 xt6)))), (7, .one (.c (.v (.int .i64 xt7))))], []⟩
def fin_impl_differentKeys (list0 : List Int) (kk : AV → List A1 → Prop) : Kt := fin TT con_impl_differentKeys Try.f70.results.toList [.c .sc] [.c (.ro .int list0)] kk
def kt0_impl_differentKeys (kf : Kt) : Kt := blockK 0 (seqK (evF TT cs_impl_differentKeys 23 an_impl_differentKeys Try.f70 [1, 1]) (kf))
theorem r0_impl_differentKeys (list0 : List Int) (xt6 : Int) (kk : AV → List A1 → Prop) (n : Nat) (xt7 : Int) :
    iter (evF TT cs_impl_differentKeys 23 an_impl_differentKeys Try.f70 [1, 0, 1, 0, 0]) nm0_impl_differentKeys (kt0_impl_differentKeys (fin_impl_differentKeys list0 kk)) (n + 1) (can0_impl_differentKeys list0 xt6 xt7) = T0_impl_differentKeys list0 xt6 xt7 (fun r0 => kk (.one (.c (.v (.bool r0)))) []) (fun xt7 => iter (evF TT cs_impl_differentKeys 23 an_impl_differentKeys Try.f70 [1, 0, 1, 0, 0]) nm0_impl_differentKeys (kt0_impl_differentKeys (fin_impl_differentKeys list0 kk)) n (can0_impl_differentKeys list0 xt6 xt7)) := by kernel_rfl
theorem l0_impl_differentKeys (list0 : List Int) (xt6 : Int) (kk : AV → List A1 → Prop) : ∀ (n : Nat) (xt7 : Int), iter (evF TT cs_impl_differentKeys 23 an_impl_differentKeys Try.f70 [1, 0, 1, 0, 0]) nm0_impl_differentKeys (kt0_impl_differentKeys (fin_impl_differentKeys list0 kk)) n (can0_impl_differentKeys list0 xt6 xt7) = L0_impl_differentKeys list0 xt6 (fun r0 => kk (.one (.c (.v (.bool r0)))) []) n xt7 := by
  intro n
  induction n with
  | zero => intros; rfl
  | succ n ih =>
    intro xt7
    rw [r0_impl_differentKeys list0 xt6 kk n xt7]
    have hb : (fun xt7 => iter (evF TT cs_impl_differentKeys 23 an_impl_differentKeys Try.f70 [1, 0, 1, 0, 0]) nm0_impl_differentKeys (kt0_impl_differentKeys (fin_impl_differentKeys list0 kk)) n (can0_impl_differentKeys list0 xt6 xt7)) = L0_impl_differentKeys list0 xt6 (fun r0 => kk (.one (.c (.v (.bool r0)))) []) n := by
      funext xt7; exact ih xt7
    rw [hb]
    rfl
theorem g_impl_differentKeys (list0 : List Int) (kk : AV → List A1 → Prop) :
    ev TT cs_impl_differentKeys 23 an_impl_differentKeys (Try.f70.body.getD .skip) (st0 con_impl_differentKeys [.c (.ro .int list0)]) (fin TT con_impl_differentKeys Try.f70.results.toList [.c .sc] [.c (.ro .int list0)] kk) = G_impl_differentKeys list0 (fun list0 xt6 xt7 => ∃ j, iter (evF TT cs_impl_differentKeys 23 an_impl_differentKeys Try.f70 [1, 0, 1, 0, 0]) nm0_impl_differentKeys (kt0_impl_differentKeys (fin_impl_differentKeys list0 kk)) j (can0_impl_differentKeys list0 xt6 xt7)) := by kernel_rfl
theorem e_impl_differentKeys (list0 : List Int) (kk : AV → List A1 → Prop) :
    ev TT cs_impl_differentKeys 23 an_impl_differentKeys (Try.f70.body.getD .skip) (st0 con_impl_differentKeys [.c (.ro .int list0)]) (fin TT con_impl_differentKeys Try.f70.results.toList [.c .sc] [.c (.ro .int list0)] kk) = S_impl_differentKeys list0 (fun r0 => kk (.one (.c (.v (.bool r0)))) []) := by
  rw [g_impl_differentKeys]
  have hi0 : (fun list0 xt6 xt7 => ∃ j, iter (evF TT cs_impl_differentKeys 23 an_impl_differentKeys Try.f70 [1, 0, 1, 0, 0]) nm0_impl_differentKeys (kt0_impl_differentKeys (fin_impl_differentKeys list0 kk)) j (can0_impl_differentKeys list0 xt6 xt7)) = (fun list0 xt6 xt7 => ∃ j, L0_impl_differentKeys list0 xt6 (fun r0 => kk (.one (.c (.v (.bool r0)))) []) j xt7) := by
    funext list0 xt6 xt7
    refine congrArg Exists (funext fun j => ?_)
    rw [l0_impl_differentKeys list0 xt6 kk j xt7]
  rw [hi0]
  rfl
theorem clok_impl_differentKeys : ConOK Try.prog cl_impl_differentKeys := consCons h_slices_Contains_sint_int ⟨Try.f57, Try.func57, by kernel_rfl, ne_of_beq (by kernel_rfl)⟩ (consCons h_impl_validKey ⟨Try.f59, Try.func59, by kernel_rfl, ne_of_beq (by kernel_rfl)⟩ (consNil))
theorem cok_impl_differentKeys : ConsOK Try.prog 23 cs_impl_differentKeys := ⟨clok_impl_differentKeys, inlNil⟩
theorem i_impl_differentKeys {vs : List A1} {kk : AV → List A1 → Prop} {motive : List A1 → Prop} (h : con_impl_differentKeys.F vs kk) (H : ∀ (list0 : List Int), F_impl_differentKeys list0 (fun r0 => kk (.one (.c (.v (.bool r0)))) []) → motive [.c (.ro .int list0)]) : motive vs := by
  unfold con_impl_differentKeys at h
  dsimp only at h
  split at h
  · exact H _ h
  · exact h.elim
theorem h_impl_differentKeys : Holds Try.prog 70 con_impl_differentKeys := by
  refine holds_of_ev (rt := [.c .sc]) (T := TT) (Γ := cs_impl_differentKeys) (an := an_impl_differentKeys) (N := 23) (c := Try.f70.body.getD .skip) Try.func70 (by kernel_rfl) Try.ntmps70 (by decide) (by decide) mixed tabOK cok_impl_differentKeys (by kernel_rfl) ?_
  intro vs kk _ hF
  exact i_impl_differentKeys (motive := fun vs => Goes (ev TT cs_impl_differentKeys 23 an_impl_differentKeys (Try.f70.body.getD .skip) (st0 con_impl_differentKeys vs) (fin TT con_impl_differentKeys Try.f70.results.toList [.c .sc] vs kk))) hF (fun list0 hF => goes_of (e_impl_differentKeys list0 kk) (F_impl_differentKeys_S hF))
def con_impl_ValidKeys : Con := ⟨[.rd, .rd], true, [.c (.sl .int), .c (.sc)], fun vs k => match vs with
    | [.c (.ro .int list0), .c (.v (.int .i64 room1))] => F_impl_ValidKeys list0 room1 (fun r0 => k (.one (.c (.v (.bool r0)))) [])
    | _ => False, false⟩
def cl_impl_ValidKeys : List (FuncId × Con) := [(43, con_impl_validRoom), (70, con_impl_differentKeys)]
def an_impl_ValidKeys : Ann := ⟨[], [], []⟩
def cs_impl_ValidKeys : Cons := ⟨cl_impl_ValidKeys, [], 0, [], []⟩
def fin_impl_ValidKeys (list0 : List Int) (room1 : Int) (kk : AV → List A1 → Prop) : Kt := fin TT con_impl_ValidKeys Try.f56.results.toList [.c .sc] [.c (.ro .int list0), .c (.v (.int .i64 room1))] kk
theorem g_impl_ValidKeys (list0 : List Int) (room1 : Int) (kk : AV → List A1 → Prop) :
    ev TT cs_impl_ValidKeys 17 an_impl_ValidKeys (Try.f56.body.getD .skip) (st0 con_impl_ValidKeys [.c (.ro .int list0), .c (.v (.int .i64 room1))]) (fin TT con_impl_ValidKeys Try.f56.results.toList [.c .sc] [.c (.ro .int list0), .c (.v (.int .i64 room1))] kk) = G_impl_ValidKeys list0 room1 (fun r0 => kk (.one (.c (.v (.bool r0)))) []) := by kernel_rfl
theorem e_impl_ValidKeys (list0 : List Int) (room1 : Int) (kk : AV → List A1 → Prop) :
    ev TT cs_impl_ValidKeys 17 an_impl_ValidKeys (Try.f56.body.getD .skip) (st0 con_impl_ValidKeys [.c (.ro .int list0), .c (.v (.int .i64 room1))]) (fin TT con_impl_ValidKeys Try.f56.results.toList [.c .sc] [.c (.ro .int list0), .c (.v (.int .i64 room1))] kk) = S_impl_ValidKeys list0 room1 (fun r0 => kk (.one (.c (.v (.bool r0)))) []) := by
  rw [g_impl_ValidKeys]
  rfl
theorem clok_impl_ValidKeys : ConOK Try.prog cl_impl_ValidKeys := consCons h_impl_validRoom ⟨Try.f43, Try.func43, by kernel_rfl, ne_of_beq (by kernel_rfl)⟩ (consCons h_impl_differentKeys ⟨Try.f70, Try.func70, by kernel_rfl, ne_of_beq (by kernel_rfl)⟩ (consNil))
theorem cok_impl_ValidKeys : ConsOK Try.prog 17 cs_impl_ValidKeys := ⟨clok_impl_ValidKeys, inlNil⟩
theorem i_impl_ValidKeys {vs : List A1} {kk : AV → List A1 → Prop} {motive : List A1 → Prop} (h : con_impl_ValidKeys.F vs kk) (H : ∀ (list0 : List Int) (room1 : Int), F_impl_ValidKeys list0 room1 (fun r0 => kk (.one (.c (.v (.bool r0)))) []) → motive [.c (.ro .int list0), .c (.v (.int .i64 room1))]) : motive vs := by
  unfold con_impl_ValidKeys at h
  dsimp only at h
  split at h
  · exact H _ _ h
  · exact h.elim
theorem h_impl_ValidKeys : Holds Try.prog 56 con_impl_ValidKeys := by
  refine holds_of_ev (rt := [.c .sc]) (T := TT) (Γ := cs_impl_ValidKeys) (an := an_impl_ValidKeys) (N := 17) (c := Try.f56.body.getD .skip) Try.func56 (by kernel_rfl) Try.ntmps56 (by decide) (by decide) mixed tabOK cok_impl_ValidKeys (by kernel_rfl) ?_
  intro vs kk _ hF
  exact i_impl_ValidKeys (motive := fun vs => Goes (ev TT cs_impl_ValidKeys 17 an_impl_ValidKeys (Try.f56.body.getD .skip) (st0 con_impl_ValidKeys vs) (fin TT con_impl_ValidKeys Try.f56.results.toList [.c .sc] vs kk))) hF (fun list0 room1 hF => goes_of (e_impl_ValidKeys list0 room1 kk) (F_impl_ValidKeys_S hF))
def con_impl_ValidSegments : Con := ⟨[.rd], true, [.agg [.sc, .sc, .sl .int, .sl .int]], fun vs k => match vs with
    | [.agg [.v (.int .i64 s0Trial), .v (.int .i64 s0Safe), .ro .int s0New, .ro .int s0Old]] => F_impl_ValidSegments s0Trial s0Safe s0New s0Old (fun r0 => k (.one (.c (.v (.bool r0)))) [])
    | _ => False, false⟩
def cl_impl_ValidSegments : List (FuncId × Con) := [(56, con_impl_ValidKeys), (57, con_slices_Contains_sint_int)]
def nm0_impl_ValidSegments : List NStep := [.keep [1, 20, 21, 22] [16]]
def an_impl_ValidSegments : Ann := ⟨[], [(4, nm0_impl_ValidSegments)], []⟩
def cs_impl_ValidSegments : Cons := ⟨cl_impl_ValidSegments, [], 0, [], []⟩
def can0_impl_ValidSegments (s0New : List Int) (s0Old : List Int) (s0Safe : Int) (s0Trial : Int) (xt21 : Int) (xt22 : Int) : St := ⟨[(1, .one (.c (.pb 16 0))), (20, .one (.c (.ro .int s0New))), (21, .one (.c (.v (.int .i64 xt21)))), (22, .one (.c (.v (.int .i64 xt22))))], [(16, .box [.v (.int .i64 s0Trial), .v (.int .i64 s0Safe), .ro .int s0New, .ro .int s0Old])]⟩
def fin_impl_ValidSegments (s0Trial : Int) (s0Safe : Int) (s0New : List Int) (s0Old : List Int) (kk : AV → List A1 → Prop) : Kt := fin TT con_impl_ValidSegments Try.f28.results.toList [.c .sc] [.agg [.v (.int .i64 s0Trial), .v (.int .i64 s0Safe), .ro .int s0New, .ro .int s0Old]] kk
def kt0_impl_ValidSegments (kf : Kt) : Kt := blockK 0 (seqK (evF TT cs_impl_ValidSegments 31 an_impl_ValidSegments Try.f28 [1, 1, 1]) (kf))
theorem r0_impl_ValidSegments (s0Trial : Int) (s0Safe : Int) (s0New : List Int) (s0Old : List Int) (xt21 : Int) (kk : AV → List A1 → Prop) (n : Nat) (xt22 : Int) :
    iter (evF TT cs_impl_ValidSegments 31 an_impl_ValidSegments Try.f28 [1, 1, 0, 1, 0, 0]) nm0_impl_ValidSegments (kt0_impl_ValidSegments (fin_impl_ValidSegments s0Trial s0Safe s0New s0Old kk)) (n + 1) (can0_impl_ValidSegments s0New s0Old s0Safe s0Trial xt21 xt22) = T0_impl_ValidSegments s0New s0Old s0Safe s0Trial xt21 xt22 (fun r0 => kk (.one (.c (.v (.bool r0)))) []) (fun xt22 => iter (evF TT cs_impl_ValidSegments 31 an_impl_ValidSegments Try.f28 [1, 1, 0, 1, 0, 0]) nm0_impl_ValidSegments (kt0_impl_ValidSegments (fin_impl_ValidSegments s0Trial s0Safe s0New s0Old kk)) n (can0_impl_ValidSegments s0New s0Old s0Safe s0Trial xt21 xt22)) := by kernel_rfl
theorem l0_impl_ValidSegments (s0Trial : Int) (s0Safe : Int) (s0New : List Int) (s0Old : List Int) (xt21 : Int) (kk : AV → List A1 → Prop) : ∀ (n : Nat) (xt22 : Int), iter (evF TT cs_impl_ValidSegments 31 an_impl_ValidSegments Try.f28 [1, 1, 0, 1, 0, 0]) nm0_impl_ValidSegments (kt0_impl_ValidSegments (fin_impl_ValidSegments s0Trial s0Safe s0New s0Old kk)) n (can0_impl_ValidSegments s0New s0Old s0Safe s0Trial xt21 xt22) = L0_impl_ValidSegments s0New s0Old s0Safe s0Trial xt21 (fun r0 => kk (.one (.c (.v (.bool r0)))) []) n xt22 := by
  intro n
  induction n with
  | zero => intros; rfl
  | succ n ih =>
    intro xt22
    rw [r0_impl_ValidSegments s0Trial s0Safe s0New s0Old xt21 kk n xt22]
    have hb : (fun xt22 => iter (evF TT cs_impl_ValidSegments 31 an_impl_ValidSegments Try.f28 [1, 1, 0, 1, 0, 0]) nm0_impl_ValidSegments (kt0_impl_ValidSegments (fin_impl_ValidSegments s0Trial s0Safe s0New s0Old kk)) n (can0_impl_ValidSegments s0New s0Old s0Safe s0Trial xt21 xt22)) = L0_impl_ValidSegments s0New s0Old s0Safe s0Trial xt21 (fun r0 => kk (.one (.c (.v (.bool r0)))) []) n := by
      funext xt22; exact ih xt22
    rw [hb]
    rfl
theorem g_impl_ValidSegments (s0Trial : Int) (s0Safe : Int) (s0New : List Int) (s0Old : List Int) (kk : AV → List A1 → Prop) :
    ev TT cs_impl_ValidSegments 31 an_impl_ValidSegments (Try.f28.body.getD .skip) (st0 con_impl_ValidSegments [.agg [.v (.int .i64 s0Trial), .v (.int .i64 s0Safe), .ro .int s0New, .ro .int s0Old]]) (fin TT con_impl_ValidSegments Try.f28.results.toList [.c .sc] [.agg [.v (.int .i64 s0Trial), .v (.int .i64 s0Safe), .ro .int s0New, .ro .int s0Old]] kk) = G_impl_ValidSegments s0Trial s0Safe s0New s0Old (fun r0 => kk (.one (.c (.v (.bool r0)))) []) (fun s0New s0Old s0Safe s0Trial xt21 xt22 => ∃ j, iter (evF TT cs_impl_ValidSegments 31 an_impl_ValidSegments Try.f28 [1, 1, 0, 1, 0, 0]) nm0_impl_ValidSegments (kt0_impl_ValidSegments (fin_impl_ValidSegments s0Trial s0Safe s0New s0Old kk)) j (can0_impl_ValidSegments s0New s0Old s0Safe s0Trial xt21 xt22)) := by kernel_rfl
theorem e_impl_ValidSegments (s0Trial : Int) (s0Safe : Int) (s0New : List Int) (s0Old : List Int) (kk : AV → List A1 → Prop) :
    ev TT cs_impl_ValidSegments 31 an_impl_ValidSegments (Try.f28.body.getD .skip) (st0 con_impl_ValidSegments [.agg [.v (.int .i64 s0Trial), .v (.int .i64 s0Safe), .ro .int s0New, .ro .int s0Old]]) (fin TT con_impl_ValidSegments Try.f28.results.toList [.c .sc] [.agg [.v (.int .i64 s0Trial), .v (.int .i64 s0Safe), .ro .int s0New, .ro .int s0Old]] kk) = S_impl_ValidSegments s0Trial s0Safe s0New s0Old (fun r0 => kk (.one (.c (.v (.bool r0)))) []) := by
  rw [g_impl_ValidSegments]
  have hi0 : (fun s0New s0Old s0Safe s0Trial xt21 xt22 => ∃ j, iter (evF TT cs_impl_ValidSegments 31 an_impl_ValidSegments Try.f28 [1, 1, 0, 1, 0, 0]) nm0_impl_ValidSegments (kt0_impl_ValidSegments (fin_impl_ValidSegments s0Trial s0Safe s0New s0Old kk)) j (can0_impl_ValidSegments s0New s0Old s0Safe s0Trial xt21 xt22)) = (fun s0New s0Old s0Safe s0Trial xt21 xt22 => ∃ j, L0_impl_ValidSegments s0New s0Old s0Safe s0Trial xt21 (fun r0 => kk (.one (.c (.v (.bool r0)))) []) j xt22) := by
    funext s0New s0Old s0Safe s0Trial xt21 xt22
    refine congrArg Exists (funext fun j => ?_)
    rw [l0_impl_ValidSegments s0Trial s0Safe s0New s0Old xt21 kk j xt22]
  rw [hi0]
  rfl
theorem clok_impl_ValidSegments : ConOK Try.prog cl_impl_ValidSegments := consCons h_impl_ValidKeys ⟨Try.f56, Try.func56, by kernel_rfl, ne_of_beq (by kernel_rfl)⟩ (consCons h_slices_Contains_sint_int ⟨Try.f57, Try.func57, by kernel_rfl, ne_of_beq (by kernel_rfl)⟩ (consNil))
theorem cok_impl_ValidSegments : ConsOK Try.prog 31 cs_impl_ValidSegments := ⟨clok_impl_ValidSegments, inlNil⟩
theorem i_impl_ValidSegments {vs : List A1} {kk : AV → List A1 → Prop} {motive : List A1 → Prop} (h : con_impl_ValidSegments.F vs kk) (H : ∀ (s0Trial : Int) (s0Safe : Int) (s0New : List Int) (s0Old : List Int), F_impl_ValidSegments s0Trial s0Safe s0New s0Old (fun r0 => kk (.one (.c (.v (.bool r0)))) []) → motive [.agg [.v (.int .i64 s0Trial), .v (.int .i64 s0Safe), .ro .int s0New, .ro .int s0Old]]) : motive vs := by
  unfold con_impl_ValidSegments at h
  dsimp only at h
  split at h
  · exact H _ _ _ _ h
  · exact h.elim
theorem h_impl_ValidSegments : Holds Try.prog 28 con_impl_ValidSegments := by
  refine holds_of_ev (rt := [.c .sc]) (T := TT) (Γ := cs_impl_ValidSegments) (an := an_impl_ValidSegments) (N := 31) (c := Try.f28.body.getD .skip) Try.func28 (by kernel_rfl) Try.ntmps28 (by decide) (by decide) mixed tabOK cok_impl_ValidSegments (by kernel_rfl) ?_
  intro vs kk _ hF
  exact i_impl_ValidSegments (motive := fun vs => Goes (ev TT cs_impl_ValidSegments 31 an_impl_ValidSegments (Try.f28.body.getD .skip) (st0 con_impl_ValidSegments vs) (fin TT con_impl_ValidSegments Try.f28.results.toList [.c .sc] vs kk))) hF (fun s0Trial s0Safe s0New s0Old hF => goes_of (e_impl_ValidSegments s0Trial s0Safe s0New s0Old kk) (F_impl_ValidSegments_S hF))
def con_laws_eqIntS : Con := ⟨[.rd, .rd], true, [.c (.sl .int), .c (.sl .int)], fun vs k => match vs with
    | [.c (.ro .int a0), .c (.ro .int b1)] => F_laws_eqIntS a0 b1 (fun r0 => k (.one (.c (.v (.bool r0)))) [])
    | _ => False, false⟩
def cl_laws_eqIntS : List (FuncId × Con) := []
def nm0_laws_eqIntS : List NStep := [.keep [0, 1, 5] []]
def an_laws_eqIntS : Ann := ⟨[(6, .take 0 (.take 1 (.take 2 (.take 3 (.take 4 (.take 5 (.take 6 (.take 7 (.take 8 (.done))))))))), [])], [(4, nm0_laws_eqIntS)], []⟩
def cs_laws_eqIntS : Cons := ⟨cl_laws_eqIntS, [], 0, [], []⟩
def can0_laws_eqIntS (a0 : List Int) (b1 : List Int) (xi5 : Int) : St := ⟨[(0, .one (.c (.ro .int a0))), (1, .one (.c (.ro .int b1))), (5, .one (.c (.v (.int .i64 xi5))))], []⟩
def fin_laws_eqIntS (a0 : List Int) (b1 : List Int) (kk : AV → List A1 → Prop) : Kt := fin TT con_laws_eqIntS Try.f14.results.toList [.c .sc] [.c (.ro .int a0), .c (.ro .int b1)] kk
def kt0_laws_eqIntS (kf : Kt) : Kt := blockK 0 (seqK (evF TT cs_laws_eqIntS 26 an_laws_eqIntS Try.f14 [1, 1, 1]) (kf))
theorem r0_laws_eqIntS (a0 : List Int) (b1 : List Int) (kk : AV → List A1 → Prop) (n : Nat) (xi5 : Int) :
    iter (evF TT cs_laws_eqIntS 26 an_laws_eqIntS Try.f14 [1, 1, 0, 1, 0, 0]) nm0_laws_eqIntS (kt0_laws_eqIntS (fin_laws_eqIntS a0 b1 kk)) (n + 1) (can0_laws_eqIntS a0 b1 xi5) = T0_laws_eqIntS a0 b1 xi5 (fun r0 => kk (.one (.c (.v (.bool r0)))) []) (fun xi5 => iter (evF TT cs_laws_eqIntS 26 an_laws_eqIntS Try.f14 [1, 1, 0, 1, 0, 0]) nm0_laws_eqIntS (kt0_laws_eqIntS (fin_laws_eqIntS a0 b1 kk)) n (can0_laws_eqIntS a0 b1 xi5)) := by kernel_rfl
theorem l0_laws_eqIntS (a0 : List Int) (b1 : List Int) (kk : AV → List A1 → Prop) : ∀ (n : Nat) (xi5 : Int), iter (evF TT cs_laws_eqIntS 26 an_laws_eqIntS Try.f14 [1, 1, 0, 1, 0, 0]) nm0_laws_eqIntS (kt0_laws_eqIntS (fin_laws_eqIntS a0 b1 kk)) n (can0_laws_eqIntS a0 b1 xi5) = L0_laws_eqIntS a0 b1 (fun r0 => kk (.one (.c (.v (.bool r0)))) []) n xi5 := by
  intro n
  induction n with
  | zero => intros; rfl
  | succ n ih =>
    intro xi5
    rw [r0_laws_eqIntS a0 b1 kk n xi5]
    have hb : (fun xi5 => iter (evF TT cs_laws_eqIntS 26 an_laws_eqIntS Try.f14 [1, 1, 0, 1, 0, 0]) nm0_laws_eqIntS (kt0_laws_eqIntS (fin_laws_eqIntS a0 b1 kk)) n (can0_laws_eqIntS a0 b1 xi5)) = L0_laws_eqIntS a0 b1 (fun r0 => kk (.one (.c (.v (.bool r0)))) []) n := by
      funext xi5; exact ih xi5
    rw [hb]
    rfl
theorem g_laws_eqIntS (a0 : List Int) (b1 : List Int) (kk : AV → List A1 → Prop) :
    ev TT cs_laws_eqIntS 26 an_laws_eqIntS (Try.f14.body.getD .skip) (st0 con_laws_eqIntS [.c (.ro .int a0), .c (.ro .int b1)]) (fin TT con_laws_eqIntS Try.f14.results.toList [.c .sc] [.c (.ro .int a0), .c (.ro .int b1)] kk) = G_laws_eqIntS a0 b1 (fun r0 => kk (.one (.c (.v (.bool r0)))) []) (fun a0 b1 xi5 => ∃ j, iter (evF TT cs_laws_eqIntS 26 an_laws_eqIntS Try.f14 [1, 1, 0, 1, 0, 0]) nm0_laws_eqIntS (kt0_laws_eqIntS (fin_laws_eqIntS a0 b1 kk)) j (can0_laws_eqIntS a0 b1 xi5)) := by kernel_rfl
theorem e_laws_eqIntS (a0 : List Int) (b1 : List Int) (kk : AV → List A1 → Prop) :
    ev TT cs_laws_eqIntS 26 an_laws_eqIntS (Try.f14.body.getD .skip) (st0 con_laws_eqIntS [.c (.ro .int a0), .c (.ro .int b1)]) (fin TT con_laws_eqIntS Try.f14.results.toList [.c .sc] [.c (.ro .int a0), .c (.ro .int b1)] kk) = S_laws_eqIntS a0 b1 (fun r0 => kk (.one (.c (.v (.bool r0)))) []) := by
  rw [g_laws_eqIntS]
  have hi0 : (fun a0 b1 xi5 => ∃ j, iter (evF TT cs_laws_eqIntS 26 an_laws_eqIntS Try.f14 [1, 1, 0, 1, 0, 0]) nm0_laws_eqIntS (kt0_laws_eqIntS (fin_laws_eqIntS a0 b1 kk)) j (can0_laws_eqIntS a0 b1 xi5)) = (fun a0 b1 xi5 => ∃ j, L0_laws_eqIntS a0 b1 (fun r0 => kk (.one (.c (.v (.bool r0)))) []) j xi5) := by
    funext a0 b1 xi5
    refine congrArg Exists (funext fun j => ?_)
    rw [l0_laws_eqIntS a0 b1 kk j xi5]
  rw [hi0]
  rfl
theorem clok_laws_eqIntS : ConOK Try.prog cl_laws_eqIntS := consNil
theorem cok_laws_eqIntS : ConsOK Try.prog 26 cs_laws_eqIntS := ⟨clok_laws_eqIntS, inlNil⟩
theorem i_laws_eqIntS {vs : List A1} {kk : AV → List A1 → Prop} {motive : List A1 → Prop} (h : con_laws_eqIntS.F vs kk) (H : ∀ (a0 : List Int) (b1 : List Int), F_laws_eqIntS a0 b1 (fun r0 => kk (.one (.c (.v (.bool r0)))) []) → motive [.c (.ro .int a0), .c (.ro .int b1)]) : motive vs := by
  unfold con_laws_eqIntS at h
  dsimp only at h
  split at h
  · exact H _ _ h
  · exact h.elim
theorem h_laws_eqIntS : Holds Try.prog 14 con_laws_eqIntS := by
  refine holds_of_ev (rt := [.c .sc]) (T := TT) (Γ := cs_laws_eqIntS) (an := an_laws_eqIntS) (N := 26) (c := Try.f14.body.getD .skip) Try.func14 (by kernel_rfl) Try.ntmps14 (by decide) (by decide) mixed tabOK cok_laws_eqIntS (by kernel_rfl) ?_
  intro vs kk _ hF
  exact i_laws_eqIntS (motive := fun vs => Goes (ev TT cs_laws_eqIntS 26 an_laws_eqIntS (Try.f14.body.getD .skip) (st0 con_laws_eqIntS vs) (fin TT con_laws_eqIntS Try.f14.results.toList [.c .sc] vs kk))) hF (fun a0 b1 hF => goes_of (e_laws_eqIntS a0 b1 kk) (F_laws_eqIntS_S hF))
def con_laws_eqSegments : Con := ⟨[.rd, .rd], true, [.agg [.sc, .sc, .sl .int, .sl .int], .agg [.sc, .sc, .sl .int, .sl .int]], fun vs k => match vs with
    | [.agg [.v (.int .i64 a0Trial), .v (.int .i64 a0Safe), .ro .int a0New, .ro .int a0Old], .agg [.v (.int .i64 b1Trial), .v (.int .i64 b1Safe), .ro .int b1New, .ro .int b1Old]] => F_laws_eqSegments a0Trial a0Safe a0New a0Old b1Trial b1Safe b1New b1Old (fun r0 => k (.one (.c (.v (.bool r0)))) [])
    | _ => False, false⟩
def cl_laws_eqSegments : List (FuncId × Con) := [(14, con_laws_eqIntS)]
def an_laws_eqSegments : Ann := ⟨[], [], []⟩
def cs_laws_eqSegments : Cons := ⟨cl_laws_eqSegments, [], 0, [], []⟩
def fin_laws_eqSegments (a0Trial : Int) (a0Safe : Int) (a0New : List Int) (a0Old : List Int) (b1Trial : Int) (b1Safe : Int) (b1New : List Int) (b1Old : List Int) (kk : AV → List A1 → Prop) : Kt := fin TT con_laws_eqSegments Try.f29.results.toList [.c .sc] [.agg [.v (.int .i64 a0Trial), .v (.int .i64 a0Safe), .ro .int a0New, .ro .int a0Old], .agg [.v (.int .i64 b1Trial), .v (.int .i64 b1Safe), .ro .int b1New, .ro .int b1Old]] kk
theorem g_laws_eqSegments (a0Trial : Int) (a0Safe : Int) (a0New : List Int) (a0Old : List Int) (b1Trial : Int) (b1Safe : Int) (b1New : List Int) (b1Old : List Int) (kk : AV → List A1 → Prop) :
    ev TT cs_laws_eqSegments 27 an_laws_eqSegments (Try.f29.body.getD .skip) (st0 con_laws_eqSegments [.agg [.v (.int .i64 a0Trial), .v (.int .i64 a0Safe), .ro .int a0New, .ro .int a0Old], .agg [.v (.int .i64 b1Trial), .v (.int .i64 b1Safe), .ro .int b1New, .ro .int b1Old]]) (fin TT con_laws_eqSegments Try.f29.results.toList [.c .sc] [.agg [.v (.int .i64 a0Trial), .v (.int .i64 a0Safe), .ro .int a0New, .ro .int a0Old], .agg [.v (.int .i64 b1Trial), .v (.int .i64 b1Safe), .ro .int b1New, .ro .int b1Old]] kk) = G_laws_eqSegments a0Trial a0Safe a0New a0Old b1Trial b1Safe b1New b1Old (fun r0 => kk (.one (.c (.v (.bool r0)))) []) := by kernel_rfl
theorem e_laws_eqSegments (a0Trial : Int) (a0Safe : Int) (a0New : List Int) (a0Old : List Int) (b1Trial : Int) (b1Safe : Int) (b1New : List Int) (b1Old : List Int) (kk : AV → List A1 → Prop) :
    ev TT cs_laws_eqSegments 27 an_laws_eqSegments (Try.f29.body.getD .skip) (st0 con_laws_eqSegments [.agg [.v (.int .i64 a0Trial), .v (.int .i64 a0Safe), .ro .int a0New, .ro .int a0Old], .agg [.v (.int .i64 b1Trial), .v (.int .i64 b1Safe), .ro .int b1New, .ro .int b1Old]]) (fin TT con_laws_eqSegments Try.f29.results.toList [.c .sc] [.agg [.v (.int .i64 a0Trial), .v (.int .i64 a0Safe), .ro .int a0New, .ro .int a0Old], .agg [.v (.int .i64 b1Trial), .v (.int .i64 b1Safe), .ro .int b1New, .ro .int b1Old]] kk) = S_laws_eqSegments a0Trial a0Safe a0New a0Old b1Trial b1Safe b1New b1Old (fun r0 => kk (.one (.c (.v (.bool r0)))) []) := by
  rw [g_laws_eqSegments]
  rfl
theorem clok_laws_eqSegments : ConOK Try.prog cl_laws_eqSegments := consCons h_laws_eqIntS ⟨Try.f14, Try.func14, by kernel_rfl, ne_of_beq (by kernel_rfl)⟩ (consNil)
theorem cok_laws_eqSegments : ConsOK Try.prog 27 cs_laws_eqSegments := ⟨clok_laws_eqSegments, inlNil⟩
theorem i_laws_eqSegments {vs : List A1} {kk : AV → List A1 → Prop} {motive : List A1 → Prop} (h : con_laws_eqSegments.F vs kk) (H : ∀ (a0Trial : Int) (a0Safe : Int) (a0New : List Int) (a0Old : List Int) (b1Trial : Int) (b1Safe : Int) (b1New : List Int) (b1Old : List Int), F_laws_eqSegments a0Trial a0Safe a0New a0Old b1Trial b1Safe b1New b1Old (fun r0 => kk (.one (.c (.v (.bool r0)))) []) → motive [.agg [.v (.int .i64 a0Trial), .v (.int .i64 a0Safe), .ro .int a0New, .ro .int a0Old], .agg [.v (.int .i64 b1Trial), .v (.int .i64 b1Safe), .ro .int b1New, .ro .int b1Old]]) : motive vs := by
  unfold con_laws_eqSegments at h
  dsimp only at h
  split at h
  · exact H _ _ _ _ _ _ _ _ h
  · exact h.elim
theorem h_laws_eqSegments : Holds Try.prog 29 con_laws_eqSegments := by
  refine holds_of_ev (rt := [.c .sc]) (T := TT) (Γ := cs_laws_eqSegments) (an := an_laws_eqSegments) (N := 27) (c := Try.f29.body.getD .skip) Try.func29 (by kernel_rfl) Try.ntmps29 (by decide) (by decide) mixed tabOK cok_laws_eqSegments (by kernel_rfl) ?_
  intro vs kk _ hF
  exact i_laws_eqSegments (motive := fun vs => Goes (ev TT cs_laws_eqSegments 27 an_laws_eqSegments (Try.f29.body.getD .skip) (st0 con_laws_eqSegments vs) (fin TT con_laws_eqSegments Try.f29.results.toList [.c .sc] vs kk))) hF (fun a0Trial a0Safe a0New a0Old b1Trial b1Safe b1New b1Old hF => goes_of (e_laws_eqSegments a0Trial a0Safe a0New a0Old b1Trial b1Safe b1New b1Old kk) (F_laws_eqSegments_S hF))
def con_laws_FnExactValidSegments : Con := ⟨[.rd], true, [.agg [.sc, .sc, .sl .int, .sl .int]], fun vs k => match vs with
    | [.agg [.v (.int .i64 aS0Trial), .v (.int .i64 aS0Safe), .ro .int aS0New, .ro .int aS0Old]] => F_laws_FnExactValidSegments aS0Trial aS0Safe aS0New aS0Old (fun r0 => k (.one (.c (.v (.bool r0)))) [])
    | _ => False, false⟩
def cl_laws_FnExactValidSegments : List (FuncId × Con) := [(25, con_laws_szSegments), (26, con_spec_ValidSegments), (27, con_laws_toSegments), (28, con_impl_ValidSegments), (29, con_laws_eqSegments)]
def an_laws_FnExactValidSegments : Ann := ⟨[(10, .take 0 (.take 1 (.alt 2 (.alt 3 (.take 4 (.done)) (.none)) (.none))), [16, 80])], [], []⟩
def cs_laws_FnExactValidSegments : Cons := ⟨cl_laws_FnExactValidSegments, [], 0, [], []⟩
def fin_laws_FnExactValidSegments (aS0Trial : Int) (aS0Safe : Int) (aS0New : List Int) (aS0Old : List Int) (kk : AV → List A1 → Prop) : Kt := fin TT con_laws_FnExactValidSegments Try.f6.results.toList [.c .sc] [.agg [.v (.int .i64 aS0Trial), .v (.int .i64 aS0Safe), .ro .int aS0New, .ro .int aS0Old]] kk
theorem g_laws_FnExactValidSegments (aS0Trial : Int) (aS0Safe : Int) (aS0New : List Int) (aS0Old : List Int) (kk : AV → List A1 → Prop) :
    ev TT cs_laws_FnExactValidSegments 27 an_laws_FnExactValidSegments (Try.f6.body.getD .skip) (st0 con_laws_FnExactValidSegments [.agg [.v (.int .i64 aS0Trial), .v (.int .i64 aS0Safe), .ro .int aS0New, .ro .int aS0Old]]) (fin TT con_laws_FnExactValidSegments Try.f6.results.toList [.c .sc] [.agg [.v (.int .i64 aS0Trial), .v (.int .i64 aS0Safe), .ro .int aS0New, .ro .int aS0Old]] kk) = G_laws_FnExactValidSegments aS0Trial aS0Safe aS0New aS0Old (fun r0 => kk (.one (.c (.v (.bool r0)))) []) := by kernel_rfl
theorem e_laws_FnExactValidSegments (aS0Trial : Int) (aS0Safe : Int) (aS0New : List Int) (aS0Old : List Int) (kk : AV → List A1 → Prop) :
    ev TT cs_laws_FnExactValidSegments 27 an_laws_FnExactValidSegments (Try.f6.body.getD .skip) (st0 con_laws_FnExactValidSegments [.agg [.v (.int .i64 aS0Trial), .v (.int .i64 aS0Safe), .ro .int aS0New, .ro .int aS0Old]]) (fin TT con_laws_FnExactValidSegments Try.f6.results.toList [.c .sc] [.agg [.v (.int .i64 aS0Trial), .v (.int .i64 aS0Safe), .ro .int aS0New, .ro .int aS0Old]] kk) = S_laws_FnExactValidSegments aS0Trial aS0Safe aS0New aS0Old (fun r0 => kk (.one (.c (.v (.bool r0)))) []) := by
  rw [g_laws_FnExactValidSegments]
  rw [G_laws_FnExactValidSegments_eq]
  rfl
theorem clok_laws_FnExactValidSegments : ConOK Try.prog cl_laws_FnExactValidSegments := consCons h_laws_szSegments ⟨Try.f25, Try.func25, by kernel_rfl, ne_of_beq (by kernel_rfl)⟩ (consCons h_spec_ValidSegments ⟨Try.f26, Try.func26, by kernel_rfl, ne_of_beq (by kernel_rfl)⟩ (consCons h_laws_toSegments ⟨Try.f27, Try.func27, by kernel_rfl, ne_of_beq (by kernel_rfl)⟩ (consCons h_impl_ValidSegments ⟨Try.f28, Try.func28, by kernel_rfl, ne_of_beq (by kernel_rfl)⟩ (consCons h_laws_eqSegments ⟨Try.f29, Try.func29, by kernel_rfl, ne_of_beq (by kernel_rfl)⟩ (consNil)))))
theorem cok_laws_FnExactValidSegments : ConsOK Try.prog 27 cs_laws_FnExactValidSegments := ⟨clok_laws_FnExactValidSegments, inlNil⟩
theorem i_laws_FnExactValidSegments {vs : List A1} {kk : AV → List A1 → Prop} {motive : List A1 → Prop} (h : con_laws_FnExactValidSegments.F vs kk) (H : ∀ (aS0Trial : Int) (aS0Safe : Int) (aS0New : List Int) (aS0Old : List Int), F_laws_FnExactValidSegments aS0Trial aS0Safe aS0New aS0Old (fun r0 => kk (.one (.c (.v (.bool r0)))) []) → motive [.agg [.v (.int .i64 aS0Trial), .v (.int .i64 aS0Safe), .ro .int aS0New, .ro .int aS0Old]]) : motive vs := by
  unfold con_laws_FnExactValidSegments at h
  dsimp only at h
  split at h
  · exact H _ _ _ _ h
  · exact h.elim
theorem h_laws_FnExactValidSegments : Holds Try.prog 6 con_laws_FnExactValidSegments := by
  refine holds_of_ev (rt := [.c .sc]) (T := TT) (Γ := cs_laws_FnExactValidSegments) (an := an_laws_FnExactValidSegments) (N := 27) (c := Try.f6.body.getD .skip) Try.func6 (by kernel_rfl) Try.ntmps6 (by decide) (by decide) mixed tabOK cok_laws_FnExactValidSegments (by kernel_rfl) ?_
  intro vs kk _ hF
  exact i_laws_FnExactValidSegments (motive := fun vs => Goes (ev TT cs_laws_FnExactValidSegments 27 an_laws_FnExactValidSegments (Try.f6.body.getD .skip) (st0 con_laws_FnExactValidSegments vs) (fin TT con_laws_FnExactValidSegments Try.f6.results.toList [.c .sc] vs kk))) hF (fun aS0Trial aS0Safe aS0New aS0Old hF => goes_of (e_laws_FnExactValidSegments aS0Trial aS0Safe aS0New aS0Old kk) (F_laws_FnExactValidSegments_S hF))
end Go.Ev
