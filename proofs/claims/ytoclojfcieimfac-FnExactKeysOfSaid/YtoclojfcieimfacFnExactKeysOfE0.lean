/- What the evaluator gives for these functions: their contracts. No statement is proved here. -/
import Derived.Test.YtoclojfcieimfacFnExactKeysOfP0
import Derived.Test.YtoclojfcieimfacTt
namespace Go.Ev
set_option linter.unusedVariables false
set_option maxRecDepth 100000
open Go Go.Proofs
def con_laws_szIntS : Con := ⟨[.rd, .rd], true, [.c (.sl .int), .c .sc], fun vs k => match vs with
    | [.c (.ro .int a0), .c (.v (.int .i64 left1))] => F_laws_szIntS a0 left1 (fun r0 => k (.one (.c (.v (.int .i64 r0)))) [])
    | _ => False, false⟩
def cs_laws_szIntS : Cons := []
def an_laws_szIntS : Ann := ⟨[], []⟩
def fin_laws_szIntS (a0 : List Int) (left1 : Int) (kk : AV → List A1 → Prop) : Kt := fin TT con_laws_szIntS Try.f50.results.toList [.c .sc] [.c (.ro .int a0), .c (.v (.int .i64 left1))] kk
theorem g_laws_szIntS (a0 : List Int) (left1 : Int) (kk : AV → List A1 → Prop) :
    ev TT cs_laws_szIntS 12 an_laws_szIntS (Try.f50.body.getD .skip) (st0 con_laws_szIntS [.c (.ro .int a0), .c (.v (.int .i64 left1))]) (fin TT con_laws_szIntS Try.f50.results.toList [.c .sc] [.c (.ro .int a0), .c (.v (.int .i64 left1))] kk) = G_laws_szIntS a0 left1 (fun r0 => kk (.one (.c (.v (.int .i64 r0)))) []) := by kernel_rfl
theorem e_laws_szIntS (a0 : List Int) (left1 : Int) (kk : AV → List A1 → Prop) :
    ev TT cs_laws_szIntS 12 an_laws_szIntS (Try.f50.body.getD .skip) (st0 con_laws_szIntS [.c (.ro .int a0), .c (.v (.int .i64 left1))]) (fin TT con_laws_szIntS Try.f50.results.toList [.c .sc] [.c (.ro .int a0), .c (.v (.int .i64 left1))] kk) = S_laws_szIntS a0 left1 (fun r0 => kk (.one (.c (.v (.int .i64 r0)))) []) := by
  rw [g_laws_szIntS]
  rfl
theorem cok_laws_szIntS : ConsOK Try.prog cs_laws_szIntS := consNil
theorem i_laws_szIntS {vs : List A1} {kk : AV → List A1 → Prop} {motive : List A1 → Prop} (h : con_laws_szIntS.F vs kk) (H : ∀ (a0 : List Int) (left1 : Int), F_laws_szIntS a0 left1 (fun r0 => kk (.one (.c (.v (.int .i64 r0)))) []) → motive [.c (.ro .int a0), .c (.v (.int .i64 left1))]) : motive vs := by
  unfold con_laws_szIntS at h
  dsimp only at h
  split at h
  · exact H _ _ h
  · exact h.elim
theorem h_laws_szIntS : Holds Try.prog 50 con_laws_szIntS := by
  refine holds_of_ev (rt := [.c .sc]) (T := TT) (Γ := cs_laws_szIntS) (an := an_laws_szIntS) (N := 12) (c := Try.f50.body.getD .skip) Try.func50 (by kernel_rfl) Try.ntmps50 (by decide) (by decide) mixed tabOK cok_laws_szIntS (by kernel_rfl) ?_
  intro vs kk _ hF
  exact i_laws_szIntS (motive := fun vs => Goes (ev TT cs_laws_szIntS 12 an_laws_szIntS (Try.f50.body.getD .skip) (st0 con_laws_szIntS vs) (fin TT con_laws_szIntS Try.f50.results.toList [.c .sc] vs kk))) hF (fun a0 left1 hF => goes_of (e_laws_szIntS a0 left1 kk) (F_laws_szIntS_S hF))
def con_laws_szSegments : Con := ⟨[.rd, .rd], true, [.agg [.sc, .sc, .sl .int, .sl .int], .c .sc], fun vs k => match vs with
    | [.agg [.v (.int .i64 a0Trial), .v (.int .i64 a0Safe), .ro .int a0New, .ro .int a0Old], .c (.v (.int .i64 left1))] => F_laws_szSegments a0Trial a0Safe a0New a0Old left1 (fun r0 => k (.one (.c (.v (.int .i64 r0)))) [])
    | _ => False, false⟩
def cs_laws_szSegments : Cons := [(50, con_laws_szIntS)]
def an_laws_szSegments : Ann := ⟨[], []⟩
def fin_laws_szSegments (a0Trial : Int) (a0Safe : Int) (a0New : List Int) (a0Old : List Int) (left1 : Int) (kk : AV → List A1 → Prop) : Kt := fin TT con_laws_szSegments Try.f23.results.toList [.c .sc] [.agg [.v (.int .i64 a0Trial), .v (.int .i64 a0Safe), .ro .int a0New, .ro .int a0Old], .c (.v (.int .i64 left1))] kk
theorem g_laws_szSegments (a0Trial : Int) (a0Safe : Int) (a0New : List Int) (a0Old : List Int) (left1 : Int) (kk : AV → List A1 → Prop) :
    ev TT cs_laws_szSegments 18 an_laws_szSegments (Try.f23.body.getD .skip) (st0 con_laws_szSegments [.agg [.v (.int .i64 a0Trial), .v (.int .i64 a0Safe), .ro .int a0New, .ro .int a0Old], .c (.v (.int .i64 left1))]) (fin TT con_laws_szSegments Try.f23.results.toList [.c .sc] [.agg [.v (.int .i64 a0Trial), .v (.int .i64 a0Safe), .ro .int a0New, .ro .int a0Old], .c (.v (.int .i64 left1))] kk) = G_laws_szSegments a0Trial a0Safe a0New a0Old left1 (fun r0 => kk (.one (.c (.v (.int .i64 r0)))) []) := by kernel_rfl
theorem e_laws_szSegments (a0Trial : Int) (a0Safe : Int) (a0New : List Int) (a0Old : List Int) (left1 : Int) (kk : AV → List A1 → Prop) :
    ev TT cs_laws_szSegments 18 an_laws_szSegments (Try.f23.body.getD .skip) (st0 con_laws_szSegments [.agg [.v (.int .i64 a0Trial), .v (.int .i64 a0Safe), .ro .int a0New, .ro .int a0Old], .c (.v (.int .i64 left1))]) (fin TT con_laws_szSegments Try.f23.results.toList [.c .sc] [.agg [.v (.int .i64 a0Trial), .v (.int .i64 a0Safe), .ro .int a0New, .ro .int a0Old], .c (.v (.int .i64 left1))] kk) = S_laws_szSegments a0Trial a0Safe a0New a0Old left1 (fun r0 => kk (.one (.c (.v (.int .i64 r0)))) []) := by
  rw [g_laws_szSegments]
  rfl
theorem cok_laws_szSegments : ConsOK Try.prog cs_laws_szSegments := consCons h_laws_szIntS ⟨Try.f50, Try.func50, by kernel_rfl, ne_of_beq (by kernel_rfl)⟩ (consNil)
theorem i_laws_szSegments {vs : List A1} {kk : AV → List A1 → Prop} {motive : List A1 → Prop} (h : con_laws_szSegments.F vs kk) (H : ∀ (a0Trial : Int) (a0Safe : Int) (a0New : List Int) (a0Old : List Int) (left1 : Int), F_laws_szSegments a0Trial a0Safe a0New a0Old left1 (fun r0 => kk (.one (.c (.v (.int .i64 r0)))) []) → motive [.agg [.v (.int .i64 a0Trial), .v (.int .i64 a0Safe), .ro .int a0New, .ro .int a0Old], .c (.v (.int .i64 left1))]) : motive vs := by
  unfold con_laws_szSegments at h
  dsimp only at h
  split at h
  · exact H _ _ _ _ _ h
  · exact h.elim
theorem h_laws_szSegments : Holds Try.prog 23 con_laws_szSegments := by
  refine holds_of_ev (rt := [.c .sc]) (T := TT) (Γ := cs_laws_szSegments) (an := an_laws_szSegments) (N := 18) (c := Try.f23.body.getD .skip) Try.func23 (by kernel_rfl) Try.ntmps23 (by decide) (by decide) mixed tabOK cok_laws_szSegments (by kernel_rfl) ?_
  intro vs kk _ hF
  exact i_laws_szSegments (motive := fun vs => Goes (ev TT cs_laws_szSegments 18 an_laws_szSegments (Try.f23.body.getD .skip) (st0 con_laws_szSegments vs) (fin TT con_laws_szSegments Try.f23.results.toList [.c .sc] vs kk))) hF (fun a0Trial a0Safe a0New a0Old left1 hF => goes_of (e_laws_szSegments a0Trial a0Safe a0New a0Old left1 kk) (F_laws_szSegments_S hF))
def con_laws_toIntS : Con := ⟨[.rd], true, [.c (.sl .int)], fun vs k => match vs with
    | [.c (.ro .int a0)] => F_laws_toIntS a0 (fun r0 => k (.one (.c (.ro .int r0))) [])
    | _ => False, false⟩
def cs_laws_toIntS : Cons := []
def nm0_laws_toIntS : List NStep := [.keep [0, 3, 4] [112]]
def an_laws_toIntS : Ann := ⟨[], [(3, nm0_laws_toIntS)]⟩
def can0_laws_toIntS (a0 : List Int) (xi4 : Int) (xy7 : List Int) : St := ⟨[(0, .one (.c (.ro .int a0))), (3, .one (.c (.ow 112))), (4, .one (.c (.v (.int .i64 xi4))))], [(112, .row .int xy7)]⟩
def fin_laws_toIntS (a0 : List Int) (kk : AV → List A1 → Prop) : Kt := fin TT con_laws_toIntS Try.f16.results.toList [.c (.sl .int)] [.c (.ro .int a0)] kk
def kt0_laws_toIntS (kf : Kt) : Kt := blockK 0 (seqK (evF TT cs_laws_toIntS 22 an_laws_toIntS Try.f16 [1, 1, 1]) (kf))
theorem r0_laws_toIntS (a0 : List Int) (kk : AV → List A1 → Prop) (n : Nat) (xi4 : Int) (xy7 : List Int) :
    iter (evF TT cs_laws_toIntS 22 an_laws_toIntS Try.f16 [1, 1, 0, 1, 0, 0]) nm0_laws_toIntS (kt0_laws_toIntS (fin_laws_toIntS a0 kk)) (n + 1) (can0_laws_toIntS a0 xi4 xy7) = T0_laws_toIntS a0 xi4 xy7 (fun r0 => kk (.one (.c (.ro .int r0))) []) (fun xi4 xy7 => iter (evF TT cs_laws_toIntS 22 an_laws_toIntS Try.f16 [1, 1, 0, 1, 0, 0]) nm0_laws_toIntS (kt0_laws_toIntS (fin_laws_toIntS a0 kk)) n (can0_laws_toIntS a0 xi4 xy7)) := by kernel_rfl
theorem l0_laws_toIntS (a0 : List Int) (kk : AV → List A1 → Prop) : ∀ (n : Nat) (xi4 : Int) (xy7 : List Int), iter (evF TT cs_laws_toIntS 22 an_laws_toIntS Try.f16 [1, 1, 0, 1, 0, 0]) nm0_laws_toIntS (kt0_laws_toIntS (fin_laws_toIntS a0 kk)) n (can0_laws_toIntS a0 xi4 xy7) = L0_laws_toIntS a0 (fun r0 => kk (.one (.c (.ro .int r0))) []) n xi4 xy7 := by
  intro n
  induction n with
  | zero => intros; rfl
  | succ n ih =>
    intro xi4 xy7
    rw [r0_laws_toIntS a0 kk n xi4 xy7]
    have hb : (fun xi4 xy7 => iter (evF TT cs_laws_toIntS 22 an_laws_toIntS Try.f16 [1, 1, 0, 1, 0, 0]) nm0_laws_toIntS (kt0_laws_toIntS (fin_laws_toIntS a0 kk)) n (can0_laws_toIntS a0 xi4 xy7)) = L0_laws_toIntS a0 (fun r0 => kk (.one (.c (.ro .int r0))) []) n := by
      funext xi4 xy7; exact ih xi4 xy7
    rw [hb]
    rfl
theorem g_laws_toIntS (a0 : List Int) (kk : AV → List A1 → Prop) :
    ev TT cs_laws_toIntS 22 an_laws_toIntS (Try.f16.body.getD .skip) (st0 con_laws_toIntS [.c (.ro .int a0)]) (fin TT con_laws_toIntS Try.f16.results.toList [.c (.sl .int)] [.c (.ro .int a0)] kk) = G_laws_toIntS a0 (fun a0 xi4 xy7 => ∃ j, iter (evF TT cs_laws_toIntS 22 an_laws_toIntS Try.f16 [1, 1, 0, 1, 0, 0]) nm0_laws_toIntS (kt0_laws_toIntS (fin_laws_toIntS a0 kk)) j (can0_laws_toIntS a0 xi4 xy7)) := by kernel_rfl
theorem e_laws_toIntS (a0 : List Int) (kk : AV → List A1 → Prop) :
    ev TT cs_laws_toIntS 22 an_laws_toIntS (Try.f16.body.getD .skip) (st0 con_laws_toIntS [.c (.ro .int a0)]) (fin TT con_laws_toIntS Try.f16.results.toList [.c (.sl .int)] [.c (.ro .int a0)] kk) = S_laws_toIntS a0 (fun r0 => kk (.one (.c (.ro .int r0))) []) := by
  rw [g_laws_toIntS]
  have hi0 : (fun a0 xi4 xy7 => ∃ j, iter (evF TT cs_laws_toIntS 22 an_laws_toIntS Try.f16 [1, 1, 0, 1, 0, 0]) nm0_laws_toIntS (kt0_laws_toIntS (fin_laws_toIntS a0 kk)) j (can0_laws_toIntS a0 xi4 xy7)) = (fun a0 xi4 xy7 => ∃ n, L0_laws_toIntS a0 (fun r0 => kk (.one (.c (.ro .int r0))) []) n xi4 xy7) := by
    funext a0 xi4 xy7
    refine congrArg Exists (funext fun j => ?_)
    rw [l0_laws_toIntS a0 kk j xi4 xy7]
  rw [hi0]
  rfl
theorem cok_laws_toIntS : ConsOK Try.prog cs_laws_toIntS := consNil
theorem i_laws_toIntS {vs : List A1} {kk : AV → List A1 → Prop} {motive : List A1 → Prop} (h : con_laws_toIntS.F vs kk) (H : ∀ (a0 : List Int), F_laws_toIntS a0 (fun r0 => kk (.one (.c (.ro .int r0))) []) → motive [.c (.ro .int a0)]) : motive vs := by
  unfold con_laws_toIntS at h
  dsimp only at h
  split at h
  · exact H _ h
  · exact h.elim
theorem h_laws_toIntS : Holds Try.prog 16 con_laws_toIntS := by
  refine holds_of_ev (rt := [.c (.sl .int)]) (T := TT) (Γ := cs_laws_toIntS) (an := an_laws_toIntS) (N := 22) (c := Try.f16.body.getD .skip) Try.func16 (by kernel_rfl) Try.ntmps16 (by decide) (by decide) mixed tabOK cok_laws_toIntS (by kernel_rfl) ?_
  intro vs kk _ hF
  exact i_laws_toIntS (motive := fun vs => Goes (ev TT cs_laws_toIntS 22 an_laws_toIntS (Try.f16.body.getD .skip) (st0 con_laws_toIntS vs) (fin TT con_laws_toIntS Try.f16.results.toList [.c (.sl .int)] vs kk))) hF (fun a0 hF => goes_of (e_laws_toIntS a0 kk) (F_laws_toIntS_S hF))
def con_laws_toSegments : Con := ⟨[.rd], true, [.agg [.sc, .sc, .sl .int, .sl .int]], fun vs k => match vs with
    | [.agg [.v (.int .i64 a0Trial), .v (.int .i64 a0Safe), .ro .int a0New, .ro .int a0Old]] => F_laws_toSegments a0Trial a0Safe a0New a0Old (fun r0 r1 r2 r3 => k (.one (.agg [.v (.int .i64 r0), .v (.int .i64 r1), .ro .int r2, .ro .int r3])) [])
    | _ => False, false⟩
def cs_laws_toSegments : Cons := [(16, con_laws_toIntS)]
def an_laws_toSegments : Ann := ⟨[], []⟩
def fin_laws_toSegments (a0Trial : Int) (a0Safe : Int) (a0New : List Int) (a0Old : List Int) (kk : AV → List A1 → Prop) : Kt := fin TT con_laws_toSegments Try.f25.results.toList [.agg [.sc, .sc, .sl .int, .sl .int]] [.agg [.v (.int .i64 a0Trial), .v (.int .i64 a0Safe), .ro .int a0New, .ro .int a0Old]] kk
theorem g_laws_toSegments (a0Trial : Int) (a0Safe : Int) (a0New : List Int) (a0Old : List Int) (kk : AV → List A1 → Prop) :
    ev TT cs_laws_toSegments 19 an_laws_toSegments (Try.f25.body.getD .skip) (st0 con_laws_toSegments [.agg [.v (.int .i64 a0Trial), .v (.int .i64 a0Safe), .ro .int a0New, .ro .int a0Old]]) (fin TT con_laws_toSegments Try.f25.results.toList [.agg [.sc, .sc, .sl .int, .sl .int]] [.agg [.v (.int .i64 a0Trial), .v (.int .i64 a0Safe), .ro .int a0New, .ro .int a0Old]] kk) = G_laws_toSegments a0Trial a0Safe a0New a0Old (fun r0 r1 r2 r3 => kk (.one (.agg [.v (.int .i64 r0), .v (.int .i64 r1), .ro .int r2, .ro .int r3])) []) := by kernel_rfl
theorem e_laws_toSegments (a0Trial : Int) (a0Safe : Int) (a0New : List Int) (a0Old : List Int) (kk : AV → List A1 → Prop) :
    ev TT cs_laws_toSegments 19 an_laws_toSegments (Try.f25.body.getD .skip) (st0 con_laws_toSegments [.agg [.v (.int .i64 a0Trial), .v (.int .i64 a0Safe), .ro .int a0New, .ro .int a0Old]]) (fin TT con_laws_toSegments Try.f25.results.toList [.agg [.sc, .sc, .sl .int, .sl .int]] [.agg [.v (.int .i64 a0Trial), .v (.int .i64 a0Safe), .ro .int a0New, .ro .int a0Old]] kk) = S_laws_toSegments a0Trial a0Safe a0New a0Old (fun r0 r1 r2 r3 => kk (.one (.agg [.v (.int .i64 r0), .v (.int .i64 r1), .ro .int r2, .ro .int r3])) []) := by
  rw [g_laws_toSegments]
  rfl
theorem cok_laws_toSegments : ConsOK Try.prog cs_laws_toSegments := consCons h_laws_toIntS ⟨Try.f16, Try.func16, by kernel_rfl, ne_of_beq (by kernel_rfl)⟩ (consNil)
theorem i_laws_toSegments {vs : List A1} {kk : AV → List A1 → Prop} {motive : List A1 → Prop} (h : con_laws_toSegments.F vs kk) (H : ∀ (a0Trial : Int) (a0Safe : Int) (a0New : List Int) (a0Old : List Int), F_laws_toSegments a0Trial a0Safe a0New a0Old (fun r0 r1 r2 r3 => kk (.one (.agg [.v (.int .i64 r0), .v (.int .i64 r1), .ro .int r2, .ro .int r3])) []) → motive [.agg [.v (.int .i64 a0Trial), .v (.int .i64 a0Safe), .ro .int a0New, .ro .int a0Old]]) : motive vs := by
  unfold con_laws_toSegments at h
  dsimp only at h
  split at h
  · exact H _ _ _ _ h
  · exact h.elim
theorem h_laws_toSegments : Holds Try.prog 25 con_laws_toSegments := by
  refine holds_of_ev (rt := [.agg [.sc, .sc, .sl .int, .sl .int]]) (T := TT) (Γ := cs_laws_toSegments) (an := an_laws_toSegments) (N := 19) (c := Try.f25.body.getD .skip) Try.func25 (by kernel_rfl) Try.ntmps25 (by decide) (by decide) mixed tabOK cok_laws_toSegments (by kernel_rfl) ?_
  intro vs kk _ hF
  exact i_laws_toSegments (motive := fun vs => Goes (ev TT cs_laws_toSegments 19 an_laws_toSegments (Try.f25.body.getD .skip) (st0 con_laws_toSegments vs) (fin TT con_laws_toSegments Try.f25.results.toList [.agg [.sc, .sc, .sl .int, .sl .int]] vs kk))) hF (fun a0Trial a0Safe a0New a0Old hF => goes_of (e_laws_toSegments a0Trial a0Safe a0New a0Old kk) (F_laws_toSegments_S hF))
def con_spec_inRange : Con := ⟨[.rd, .rd, .rd], true, [.c .sc, .c .sc, .c .sc], fun vs k => match vs with
    | [.c (.v (.int .i64 n0)), .c (.v (.int .i64 low1)), .c (.v (.int .i64 high2))] => F_spec_inRange n0 low1 high2 (fun r0 => k (.one (.c (.v (.bool r0)))) [])
    | _ => False, false⟩
def cs_spec_inRange : Cons := []
def an_spec_inRange : Ann := ⟨[], []⟩
def fin_spec_inRange (n0 : Int) (low1 : Int) (high2 : Int) (kk : AV → List A1 → Prop) : Kt := fin TT con_spec_inRange Try.f43.results.toList [.c .sc] [.c (.v (.int .i64 n0)), .c (.v (.int .i64 low1)), .c (.v (.int .i64 high2))] kk
theorem g_spec_inRange (n0 : Int) (low1 : Int) (high2 : Int) (kk : AV → List A1 → Prop) :
    ev TT cs_spec_inRange 15 an_spec_inRange (Try.f43.body.getD .skip) (st0 con_spec_inRange [.c (.v (.int .i64 n0)), .c (.v (.int .i64 low1)), .c (.v (.int .i64 high2))]) (fin TT con_spec_inRange Try.f43.results.toList [.c .sc] [.c (.v (.int .i64 n0)), .c (.v (.int .i64 low1)), .c (.v (.int .i64 high2))] kk) = G_spec_inRange n0 low1 high2 (fun r0 => kk (.one (.c (.v (.bool r0)))) []) := by kernel_rfl
theorem e_spec_inRange (n0 : Int) (low1 : Int) (high2 : Int) (kk : AV → List A1 → Prop) :
    ev TT cs_spec_inRange 15 an_spec_inRange (Try.f43.body.getD .skip) (st0 con_spec_inRange [.c (.v (.int .i64 n0)), .c (.v (.int .i64 low1)), .c (.v (.int .i64 high2))]) (fin TT con_spec_inRange Try.f43.results.toList [.c .sc] [.c (.v (.int .i64 n0)), .c (.v (.int .i64 low1)), .c (.v (.int .i64 high2))] kk) = S_spec_inRange n0 low1 high2 (fun r0 => kk (.one (.c (.v (.bool r0)))) []) := by
  rw [g_spec_inRange]
  rfl
theorem cok_spec_inRange : ConsOK Try.prog cs_spec_inRange := consNil
theorem i_spec_inRange {vs : List A1} {kk : AV → List A1 → Prop} {motive : List A1 → Prop} (h : con_spec_inRange.F vs kk) (H : ∀ (n0 : Int) (low1 : Int) (high2 : Int), F_spec_inRange n0 low1 high2 (fun r0 => kk (.one (.c (.v (.bool r0)))) []) → motive [.c (.v (.int .i64 n0)), .c (.v (.int .i64 low1)), .c (.v (.int .i64 high2))]) : motive vs := by
  unfold con_spec_inRange at h
  dsimp only at h
  split at h
  · exact H _ _ _ h
  · exact h.elim
theorem h_spec_inRange : Holds Try.prog 43 con_spec_inRange := by
  refine holds_of_ev (rt := [.c .sc]) (T := TT) (Γ := cs_spec_inRange) (an := an_spec_inRange) (N := 15) (c := Try.f43.body.getD .skip) Try.func43 (by kernel_rfl) Try.ntmps43 (by decide) (by decide) mixed tabOK cok_spec_inRange (by kernel_rfl) ?_
  intro vs kk _ hF
  exact i_spec_inRange (motive := fun vs => Goes (ev TT cs_spec_inRange 15 an_spec_inRange (Try.f43.body.getD .skip) (st0 con_spec_inRange vs) (fin TT con_spec_inRange Try.f43.results.toList [.c .sc] vs kk))) hF (fun n0 low1 high2 hF => goes_of (e_spec_inRange n0 low1 high2 kk) (F_spec_inRange_S hF))
def con_spec_allIn : Con := ⟨[.rd, .rd, .rd], true, [.c (.sl .int), .c .sc, .c .sc], fun vs k => match vs with
    | [.c (.ro .int list0), .c (.v (.int .i64 low1)), .c (.v (.int .i64 high2))] => F_spec_allIn list0 low1 high2 (fun r0 => k (.one (.c (.v (.bool r0)))) [])
    | _ => False, false⟩
def cs_spec_allIn : Cons := [(43, con_spec_inRange)]
def nm0_spec_allIn : List NStep := [.keep [0, 1, 2, 7] []]
def an_spec_allIn : Ann := ⟨[], [(2, nm0_spec_allIn)]⟩
def can0_spec_allIn (high2 : Int) (list0 : List Int) (low1 : Int) (xi7 : Int) : St := ⟨[(0, .one (.c (.ro .int list0))), (1, .one (.c (.v (.int .i64 low1)))), (2, .one (.c (.v (.int .i64 high2)))), (7, .one (.c (.v (.int .i64 xi7))))], []⟩
def fin_spec_allIn (list0 : List Int) (low1 : Int) (high2 : Int) (kk : AV → List A1 → Prop) : Kt := fin TT con_spec_allIn Try.f67.results.toList [.c .sc] [.c (.ro .int list0), .c (.v (.int .i64 low1)), .c (.v (.int .i64 high2))] kk
def kt0_spec_allIn (kf : Kt) : Kt := blockK 0 (seqK (evF TT cs_spec_allIn 22 an_spec_allIn Try.f67 [1, 1]) (kf))
theorem r0_spec_allIn (list0 : List Int) (low1 : Int) (high2 : Int) (kk : AV → List A1 → Prop) (n : Nat) (xi7 : Int) :
    iter (evF TT cs_spec_allIn 22 an_spec_allIn Try.f67 [1, 0, 1, 0, 0]) nm0_spec_allIn (kt0_spec_allIn (fin_spec_allIn list0 low1 high2 kk)) (n + 1) (can0_spec_allIn high2 list0 low1 xi7) = T0_spec_allIn high2 list0 low1 xi7 (fun r0 => kk (.one (.c (.v (.bool r0)))) []) (fun xi7 => iter (evF TT cs_spec_allIn 22 an_spec_allIn Try.f67 [1, 0, 1, 0, 0]) nm0_spec_allIn (kt0_spec_allIn (fin_spec_allIn list0 low1 high2 kk)) n (can0_spec_allIn high2 list0 low1 xi7)) := by kernel_rfl
theorem l0_spec_allIn (list0 : List Int) (low1 : Int) (high2 : Int) (kk : AV → List A1 → Prop) : ∀ (n : Nat) (xi7 : Int), iter (evF TT cs_spec_allIn 22 an_spec_allIn Try.f67 [1, 0, 1, 0, 0]) nm0_spec_allIn (kt0_spec_allIn (fin_spec_allIn list0 low1 high2 kk)) n (can0_spec_allIn high2 list0 low1 xi7) = L0_spec_allIn high2 list0 low1 (fun r0 => kk (.one (.c (.v (.bool r0)))) []) n xi7 := by
  intro n
  induction n with
  | zero => intros; rfl
  | succ n ih =>
    intro xi7
    rw [r0_spec_allIn list0 low1 high2 kk n xi7]
    have hb : (fun xi7 => iter (evF TT cs_spec_allIn 22 an_spec_allIn Try.f67 [1, 0, 1, 0, 0]) nm0_spec_allIn (kt0_spec_allIn (fin_spec_allIn list0 low1 high2 kk)) n (can0_spec_allIn high2 list0 low1 xi7)) = L0_spec_allIn high2 list0 low1 (fun r0 => kk (.one (.c (.v (.bool r0)))) []) n := by
      funext xi7; exact ih xi7
    rw [hb]
    rfl
theorem g_spec_allIn (list0 : List Int) (low1 : Int) (high2 : Int) (kk : AV → List A1 → Prop) :
    ev TT cs_spec_allIn 22 an_spec_allIn (Try.f67.body.getD .skip) (st0 con_spec_allIn [.c (.ro .int list0), .c (.v (.int .i64 low1)), .c (.v (.int .i64 high2))]) (fin TT con_spec_allIn Try.f67.results.toList [.c .sc] [.c (.ro .int list0), .c (.v (.int .i64 low1)), .c (.v (.int .i64 high2))] kk) = G_spec_allIn list0 low1 high2 (fun high2 list0 low1 xi7 => ∃ j, iter (evF TT cs_spec_allIn 22 an_spec_allIn Try.f67 [1, 0, 1, 0, 0]) nm0_spec_allIn (kt0_spec_allIn (fin_spec_allIn list0 low1 high2 kk)) j (can0_spec_allIn high2 list0 low1 xi7)) := by kernel_rfl
theorem e_spec_allIn (list0 : List Int) (low1 : Int) (high2 : Int) (kk : AV → List A1 → Prop) :
    ev TT cs_spec_allIn 22 an_spec_allIn (Try.f67.body.getD .skip) (st0 con_spec_allIn [.c (.ro .int list0), .c (.v (.int .i64 low1)), .c (.v (.int .i64 high2))]) (fin TT con_spec_allIn Try.f67.results.toList [.c .sc] [.c (.ro .int list0), .c (.v (.int .i64 low1)), .c (.v (.int .i64 high2))] kk) = S_spec_allIn list0 low1 high2 (fun r0 => kk (.one (.c (.v (.bool r0)))) []) := by
  rw [g_spec_allIn]
  have hi0 : (fun high2 list0 low1 xi7 => ∃ j, iter (evF TT cs_spec_allIn 22 an_spec_allIn Try.f67 [1, 0, 1, 0, 0]) nm0_spec_allIn (kt0_spec_allIn (fin_spec_allIn list0 low1 high2 kk)) j (can0_spec_allIn high2 list0 low1 xi7)) = (fun high2 list0 low1 xi7 => ∃ n, L0_spec_allIn high2 list0 low1 (fun r0 => kk (.one (.c (.v (.bool r0)))) []) n xi7) := by
    funext high2 list0 low1 xi7
    refine congrArg Exists (funext fun j => ?_)
    rw [l0_spec_allIn list0 low1 high2 kk j xi7]
  rw [hi0]
  rfl
theorem cok_spec_allIn : ConsOK Try.prog cs_spec_allIn := consCons h_spec_inRange ⟨Try.f43, Try.func43, by kernel_rfl, ne_of_beq (by kernel_rfl)⟩ (consNil)
theorem i_spec_allIn {vs : List A1} {kk : AV → List A1 → Prop} {motive : List A1 → Prop} (h : con_spec_allIn.F vs kk) (H : ∀ (list0 : List Int) (low1 : Int) (high2 : Int), F_spec_allIn list0 low1 high2 (fun r0 => kk (.one (.c (.v (.bool r0)))) []) → motive [.c (.ro .int list0), .c (.v (.int .i64 low1)), .c (.v (.int .i64 high2))]) : motive vs := by
  unfold con_spec_allIn at h
  dsimp only at h
  split at h
  · exact H _ _ _ h
  · exact h.elim
theorem h_spec_allIn : Holds Try.prog 67 con_spec_allIn := by
  refine holds_of_ev (rt := [.c .sc]) (T := TT) (Γ := cs_spec_allIn) (an := an_spec_allIn) (N := 22) (c := Try.f67.body.getD .skip) Try.func67 (by kernel_rfl) Try.ntmps67 (by decide) (by decide) mixed tabOK cok_spec_allIn (by kernel_rfl) ?_
  intro vs kk _ hF
  exact i_spec_allIn (motive := fun vs => Goes (ev TT cs_spec_allIn 22 an_spec_allIn (Try.f67.body.getD .skip) (st0 con_spec_allIn vs) (fin TT con_spec_allIn Try.f67.results.toList [.c .sc] vs kk))) hF (fun list0 low1 high2 hF => goes_of (e_spec_allIn list0 low1 high2 kk) (F_spec_allIn_S hF))
def con_spec_placeOf : Con := ⟨[.rd, .rd], true, [.c (.sl .int), .c .sc], fun vs k => match vs with
    | [.c (.ro .int list0), .c (.v (.int .i64 n1))] => F_spec_placeOf list0 n1 (fun r0 => k (.one (.c (.v (.int .i64 r0)))) [])
    | _ => False, false⟩
def cs_spec_placeOf : Cons := []
def nm0_spec_placeOf : List NStep := [.keep [0, 1, 5] []]
def an_spec_placeOf : Ann := ⟨[], [(2, nm0_spec_placeOf)]⟩
def can0_spec_placeOf (list0 : List Int) (n1 : Int) (xi5 : Int) : St := ⟨[(0, .one (.c (.ro .int list0))), (1, .one (.c (.v (.int .i64 n1)))), (5, .one (.c (.v (.int .i64 xi5))))], []⟩
def fin_spec_placeOf (list0 : List Int) (n1 : Int) (kk : AV → List A1 → Prop) : Kt := fin TT con_spec_placeOf Try.f68.results.toList [.c .sc] [.c (.ro .int list0), .c (.v (.int .i64 n1))] kk
def kt0_spec_placeOf (kf : Kt) : Kt := blockK 0 (seqK (evF TT cs_spec_placeOf 19 an_spec_placeOf Try.f68 [1, 1]) (kf))
theorem r0_spec_placeOf (list0 : List Int) (n1 : Int) (kk : AV → List A1 → Prop) (n : Nat) (xi5 : Int) :
    iter (evF TT cs_spec_placeOf 19 an_spec_placeOf Try.f68 [1, 0, 1, 0, 0]) nm0_spec_placeOf (kt0_spec_placeOf (fin_spec_placeOf list0 n1 kk)) (n + 1) (can0_spec_placeOf list0 n1 xi5) = T0_spec_placeOf list0 n1 xi5 (fun r0 => kk (.one (.c (.v (.int .i64 r0)))) []) (fun xi5 => iter (evF TT cs_spec_placeOf 19 an_spec_placeOf Try.f68 [1, 0, 1, 0, 0]) nm0_spec_placeOf (kt0_spec_placeOf (fin_spec_placeOf list0 n1 kk)) n (can0_spec_placeOf list0 n1 xi5)) := by kernel_rfl
theorem l0_spec_placeOf (list0 : List Int) (n1 : Int) (kk : AV → List A1 → Prop) : ∀ (n : Nat) (xi5 : Int), iter (evF TT cs_spec_placeOf 19 an_spec_placeOf Try.f68 [1, 0, 1, 0, 0]) nm0_spec_placeOf (kt0_spec_placeOf (fin_spec_placeOf list0 n1 kk)) n (can0_spec_placeOf list0 n1 xi5) = L0_spec_placeOf list0 n1 (fun r0 => kk (.one (.c (.v (.int .i64 r0)))) []) n xi5 := by
  intro n
  induction n with
  | zero => intros; rfl
  | succ n ih =>
    intro xi5
    rw [r0_spec_placeOf list0 n1 kk n xi5]
    have hb : (fun xi5 => iter (evF TT cs_spec_placeOf 19 an_spec_placeOf Try.f68 [1, 0, 1, 0, 0]) nm0_spec_placeOf (kt0_spec_placeOf (fin_spec_placeOf list0 n1 kk)) n (can0_spec_placeOf list0 n1 xi5)) = L0_spec_placeOf list0 n1 (fun r0 => kk (.one (.c (.v (.int .i64 r0)))) []) n := by
      funext xi5; exact ih xi5
    rw [hb]
    rfl
theorem g_spec_placeOf (list0 : List Int) (n1 : Int) (kk : AV → List A1 → Prop) :
    ev TT cs_spec_placeOf 19 an_spec_placeOf (Try.f68.body.getD .skip) (st0 con_spec_placeOf [.c (.ro .int list0), .c (.v (.int .i64 n1))]) (fin TT con_spec_placeOf Try.f68.results.toList [.c .sc] [.c (.ro .int list0), .c (.v (.int .i64 n1))] kk) = G_spec_placeOf list0 n1 (fun list0 n1 xi5 => ∃ j, iter (evF TT cs_spec_placeOf 19 an_spec_placeOf Try.f68 [1, 0, 1, 0, 0]) nm0_spec_placeOf (kt0_spec_placeOf (fin_spec_placeOf list0 n1 kk)) j (can0_spec_placeOf list0 n1 xi5)) := by kernel_rfl
theorem e_spec_placeOf (list0 : List Int) (n1 : Int) (kk : AV → List A1 → Prop) :
    ev TT cs_spec_placeOf 19 an_spec_placeOf (Try.f68.body.getD .skip) (st0 con_spec_placeOf [.c (.ro .int list0), .c (.v (.int .i64 n1))]) (fin TT con_spec_placeOf Try.f68.results.toList [.c .sc] [.c (.ro .int list0), .c (.v (.int .i64 n1))] kk) = S_spec_placeOf list0 n1 (fun r0 => kk (.one (.c (.v (.int .i64 r0)))) []) := by
  rw [g_spec_placeOf]
  have hi0 : (fun list0 n1 xi5 => ∃ j, iter (evF TT cs_spec_placeOf 19 an_spec_placeOf Try.f68 [1, 0, 1, 0, 0]) nm0_spec_placeOf (kt0_spec_placeOf (fin_spec_placeOf list0 n1 kk)) j (can0_spec_placeOf list0 n1 xi5)) = (fun list0 n1 xi5 => ∃ n, L0_spec_placeOf list0 n1 (fun r0 => kk (.one (.c (.v (.int .i64 r0)))) []) n xi5) := by
    funext list0 n1 xi5
    refine congrArg Exists (funext fun j => ?_)
    rw [l0_spec_placeOf list0 n1 kk j xi5]
  rw [hi0]
  rfl
theorem cok_spec_placeOf : ConsOK Try.prog cs_spec_placeOf := consNil
theorem i_spec_placeOf {vs : List A1} {kk : AV → List A1 → Prop} {motive : List A1 → Prop} (h : con_spec_placeOf.F vs kk) (H : ∀ (list0 : List Int) (n1 : Int), F_spec_placeOf list0 n1 (fun r0 => kk (.one (.c (.v (.int .i64 r0)))) []) → motive [.c (.ro .int list0), .c (.v (.int .i64 n1))]) : motive vs := by
  unfold con_spec_placeOf at h
  dsimp only at h
  split at h
  · exact H _ _ h
  · exact h.elim
theorem h_spec_placeOf : Holds Try.prog 68 con_spec_placeOf := by
  refine holds_of_ev (rt := [.c .sc]) (T := TT) (Γ := cs_spec_placeOf) (an := an_spec_placeOf) (N := 19) (c := Try.f68.body.getD .skip) Try.func68 (by kernel_rfl) Try.ntmps68 (by decide) (by decide) mixed tabOK cok_spec_placeOf (by kernel_rfl) ?_
  intro vs kk _ hF
  exact i_spec_placeOf (motive := fun vs => Goes (ev TT cs_spec_placeOf 19 an_spec_placeOf (Try.f68.body.getD .skip) (st0 con_spec_placeOf vs) (fin TT con_spec_placeOf Try.f68.results.toList [.c .sc] vs kk))) hF (fun list0 n1 hF => goes_of (e_spec_placeOf list0 n1 kk) (F_spec_placeOf_S hF))
def con_spec_distinct : Con := ⟨[.rd], true, [.c (.sl .int)], fun vs k => match vs with
    | [.c (.ro .int list0)] => F_spec_distinct list0 (fun r0 => k (.one (.c (.v (.bool r0)))) [])
    | _ => False, false⟩
def cs_spec_distinct : Cons := [(68, con_spec_placeOf)]
def nm0_spec_distinct : List NStep := [.keep [0, 3] []]
def an_spec_distinct : Ann := ⟨[], [(2, nm0_spec_distinct)]⟩
def can0_spec_distinct (list0 : List Int) (xi3 : Int) : St := ⟨[(0, .one (.c (.ro .int list0))), (3, .one (.c (.v (.int .i64 xi3))))], []⟩
def fin_spec_distinct (list0 : List Int) (kk : AV → List A1 → Prop) : Kt := fin TT con_spec_distinct Try.f70.results.toList [.c .sc] [.c (.ro .int list0)] kk
def kt0_spec_distinct (kf : Kt) : Kt := blockK 0 (seqK (evF TT cs_spec_distinct 18 an_spec_distinct Try.f70 [1, 1]) (kf))
theorem r0_spec_distinct (list0 : List Int) (kk : AV → List A1 → Prop) (n : Nat) (xi3 : Int) :
    iter (evF TT cs_spec_distinct 18 an_spec_distinct Try.f70 [1, 0, 1, 0, 0]) nm0_spec_distinct (kt0_spec_distinct (fin_spec_distinct list0 kk)) (n + 1) (can0_spec_distinct list0 xi3) = T0_spec_distinct list0 xi3 (fun r0 => kk (.one (.c (.v (.bool r0)))) []) (fun xi3 => iter (evF TT cs_spec_distinct 18 an_spec_distinct Try.f70 [1, 0, 1, 0, 0]) nm0_spec_distinct (kt0_spec_distinct (fin_spec_distinct list0 kk)) n (can0_spec_distinct list0 xi3)) := by kernel_rfl
theorem l0_spec_distinct (list0 : List Int) (kk : AV → List A1 → Prop) : ∀ (n : Nat) (xi3 : Int), iter (evF TT cs_spec_distinct 18 an_spec_distinct Try.f70 [1, 0, 1, 0, 0]) nm0_spec_distinct (kt0_spec_distinct (fin_spec_distinct list0 kk)) n (can0_spec_distinct list0 xi3) = L0_spec_distinct list0 (fun r0 => kk (.one (.c (.v (.bool r0)))) []) n xi3 := by
  intro n
  induction n with
  | zero => intros; rfl
  | succ n ih =>
    intro xi3
    rw [r0_spec_distinct list0 kk n xi3]
    have hb : (fun xi3 => iter (evF TT cs_spec_distinct 18 an_spec_distinct Try.f70 [1, 0, 1, 0, 0]) nm0_spec_distinct (kt0_spec_distinct (fin_spec_distinct list0 kk)) n (can0_spec_distinct list0 xi3)) = L0_spec_distinct list0 (fun r0 => kk (.one (.c (.v (.bool r0)))) []) n := by
      funext xi3; exact ih xi3
    rw [hb]
    rfl
theorem g_spec_distinct (list0 : List Int) (kk : AV → List A1 → Prop) :
    ev TT cs_spec_distinct 18 an_spec_distinct (Try.f70.body.getD .skip) (st0 con_spec_distinct [.c (.ro .int list0)]) (fin TT con_spec_distinct Try.f70.results.toList [.c .sc] [.c (.ro .int list0)] kk) = G_spec_distinct list0 (fun list0 xi3 => ∃ j, iter (evF TT cs_spec_distinct 18 an_spec_distinct Try.f70 [1, 0, 1, 0, 0]) nm0_spec_distinct (kt0_spec_distinct (fin_spec_distinct list0 kk)) j (can0_spec_distinct list0 xi3)) := by kernel_rfl
theorem e_spec_distinct (list0 : List Int) (kk : AV → List A1 → Prop) :
    ev TT cs_spec_distinct 18 an_spec_distinct (Try.f70.body.getD .skip) (st0 con_spec_distinct [.c (.ro .int list0)]) (fin TT con_spec_distinct Try.f70.results.toList [.c .sc] [.c (.ro .int list0)] kk) = S_spec_distinct list0 (fun r0 => kk (.one (.c (.v (.bool r0)))) []) := by
  rw [g_spec_distinct]
  have hi0 : (fun list0 xi3 => ∃ j, iter (evF TT cs_spec_distinct 18 an_spec_distinct Try.f70 [1, 0, 1, 0, 0]) nm0_spec_distinct (kt0_spec_distinct (fin_spec_distinct list0 kk)) j (can0_spec_distinct list0 xi3)) = (fun list0 xi3 => ∃ n, L0_spec_distinct list0 (fun r0 => kk (.one (.c (.v (.bool r0)))) []) n xi3) := by
    funext list0 xi3
    refine congrArg Exists (funext fun j => ?_)
    rw [l0_spec_distinct list0 kk j xi3]
  rw [hi0]
  rfl
theorem cok_spec_distinct : ConsOK Try.prog cs_spec_distinct := consCons h_spec_placeOf ⟨Try.f68, Try.func68, by kernel_rfl, ne_of_beq (by kernel_rfl)⟩ (consNil)
theorem i_spec_distinct {vs : List A1} {kk : AV → List A1 → Prop} {motive : List A1 → Prop} (h : con_spec_distinct.F vs kk) (H : ∀ (list0 : List Int), F_spec_distinct list0 (fun r0 => kk (.one (.c (.v (.bool r0)))) []) → motive [.c (.ro .int list0)]) : motive vs := by
  unfold con_spec_distinct at h
  dsimp only at h
  split at h
  · exact H _ h
  · exact h.elim
theorem h_spec_distinct : Holds Try.prog 70 con_spec_distinct := by
  refine holds_of_ev (rt := [.c .sc]) (T := TT) (Γ := cs_spec_distinct) (an := an_spec_distinct) (N := 18) (c := Try.f70.body.getD .skip) Try.func70 (by kernel_rfl) Try.ntmps70 (by decide) (by decide) mixed tabOK cok_spec_distinct (by kernel_rfl) ?_
  intro vs kk _ hF
  exact i_spec_distinct (motive := fun vs => Goes (ev TT cs_spec_distinct 18 an_spec_distinct (Try.f70.body.getD .skip) (st0 con_spec_distinct vs) (fin TT con_spec_distinct Try.f70.results.toList [.c .sc] vs kk))) hF (fun list0 hF => goes_of (e_spec_distinct list0 kk) (F_spec_distinct_S hF))
def con_spec_validKeys : Con := ⟨[.rd, .rd], true, [.c (.sl .int), .c .sc], fun vs k => match vs with
    | [.c (.ro .int list0), .c (.v (.int .i64 room1))] => F_spec_validKeys list0 room1 (fun r0 => k (.one (.c (.v (.bool r0)))) [])
    | _ => False, false⟩
def cs_spec_validKeys : Cons := [(43, con_spec_inRange), (67, con_spec_allIn), (70, con_spec_distinct)]
def an_spec_validKeys : Ann := ⟨[], []⟩
def fin_spec_validKeys (list0 : List Int) (room1 : Int) (kk : AV → List A1 → Prop) : Kt := fin TT con_spec_validKeys Try.f61.results.toList [.c .sc] [.c (.ro .int list0), .c (.v (.int .i64 room1))] kk
theorem g_spec_validKeys (list0 : List Int) (room1 : Int) (kk : AV → List A1 → Prop) :
    ev TT cs_spec_validKeys 21 an_spec_validKeys (Try.f61.body.getD .skip) (st0 con_spec_validKeys [.c (.ro .int list0), .c (.v (.int .i64 room1))]) (fin TT con_spec_validKeys Try.f61.results.toList [.c .sc] [.c (.ro .int list0), .c (.v (.int .i64 room1))] kk) = G_spec_validKeys list0 room1 (fun r0 => kk (.one (.c (.v (.bool r0)))) []) := by kernel_rfl
theorem e_spec_validKeys (list0 : List Int) (room1 : Int) (kk : AV → List A1 → Prop) :
    ev TT cs_spec_validKeys 21 an_spec_validKeys (Try.f61.body.getD .skip) (st0 con_spec_validKeys [.c (.ro .int list0), .c (.v (.int .i64 room1))]) (fin TT con_spec_validKeys Try.f61.results.toList [.c .sc] [.c (.ro .int list0), .c (.v (.int .i64 room1))] kk) = S_spec_validKeys list0 room1 (fun r0 => kk (.one (.c (.v (.bool r0)))) []) := by
  rw [g_spec_validKeys]
  rfl
theorem cok_spec_validKeys : ConsOK Try.prog cs_spec_validKeys := consCons h_spec_inRange ⟨Try.f43, Try.func43, by kernel_rfl, ne_of_beq (by kernel_rfl)⟩ (consCons h_spec_allIn ⟨Try.f67, Try.func67, by kernel_rfl, ne_of_beq (by kernel_rfl)⟩ (consCons h_spec_distinct ⟨Try.f70, Try.func70, by kernel_rfl, ne_of_beq (by kernel_rfl)⟩ (consNil)))
theorem i_spec_validKeys {vs : List A1} {kk : AV → List A1 → Prop} {motive : List A1 → Prop} (h : con_spec_validKeys.F vs kk) (H : ∀ (list0 : List Int) (room1 : Int), F_spec_validKeys list0 room1 (fun r0 => kk (.one (.c (.v (.bool r0)))) []) → motive [.c (.ro .int list0), .c (.v (.int .i64 room1))]) : motive vs := by
  unfold con_spec_validKeys at h
  dsimp only at h
  split at h
  · exact H _ _ h
  · exact h.elim
theorem h_spec_validKeys : Holds Try.prog 61 con_spec_validKeys := by
  refine holds_of_ev (rt := [.c .sc]) (T := TT) (Γ := cs_spec_validKeys) (an := an_spec_validKeys) (N := 21) (c := Try.f61.body.getD .skip) Try.func61 (by kernel_rfl) Try.ntmps61 (by decide) (by decide) mixed tabOK cok_spec_validKeys (by kernel_rfl) ?_
  intro vs kk _ hF
  exact i_spec_validKeys (motive := fun vs => Goes (ev TT cs_spec_validKeys 21 an_spec_validKeys (Try.f61.body.getD .skip) (st0 con_spec_validKeys vs) (fin TT con_spec_validKeys Try.f61.results.toList [.c .sc] vs kk))) hF (fun list0 room1 hF => goes_of (e_spec_validKeys list0 room1 kk) (F_spec_validKeys_S hF))
def con_spec_copyInts : Con := ⟨[.rd], true, [.c (.sl .int)], fun vs k => match vs with
    | [.c (.ro .int list0)] => F_spec_copyInts list0 (fun r0 => k (.one (.c (.ro .int r0))) [])
    | _ => False, false⟩
def cs_spec_copyInts : Cons := []
def an_spec_copyInts : Ann := ⟨[], []⟩
def fin_spec_copyInts (list0 : List Int) (kk : AV → List A1 → Prop) : Kt := fin TT con_spec_copyInts Try.f52.results.toList [.c (.sl .int)] [.c (.ro .int list0)] kk
theorem g_spec_copyInts (list0 : List Int) (kk : AV → List A1 → Prop) :
    ev TT cs_spec_copyInts 6 an_spec_copyInts (Try.f52.body.getD .skip) (st0 con_spec_copyInts [.c (.ro .int list0)]) (fin TT con_spec_copyInts Try.f52.results.toList [.c (.sl .int)] [.c (.ro .int list0)] kk) = G_spec_copyInts list0 (fun r0 => kk (.one (.c (.ro .int r0))) []) := by kernel_rfl
theorem e_spec_copyInts (list0 : List Int) (kk : AV → List A1 → Prop) :
    ev TT cs_spec_copyInts 6 an_spec_copyInts (Try.f52.body.getD .skip) (st0 con_spec_copyInts [.c (.ro .int list0)]) (fin TT con_spec_copyInts Try.f52.results.toList [.c (.sl .int)] [.c (.ro .int list0)] kk) = S_spec_copyInts list0 (fun r0 => kk (.one (.c (.ro .int r0))) []) := by
  rw [g_spec_copyInts]
  rfl
theorem cok_spec_copyInts : ConsOK Try.prog cs_spec_copyInts := consNil
theorem i_spec_copyInts {vs : List A1} {kk : AV → List A1 → Prop} {motive : List A1 → Prop} (h : con_spec_copyInts.F vs kk) (H : ∀ (list0 : List Int), F_spec_copyInts list0 (fun r0 => kk (.one (.c (.ro .int r0))) []) → motive [.c (.ro .int list0)]) : motive vs := by
  unfold con_spec_copyInts at h
  dsimp only at h
  split at h
  · exact H _ h
  · exact h.elim
theorem h_spec_copyInts : Holds Try.prog 52 con_spec_copyInts := by
  refine holds_of_ev (rt := [.c (.sl .int)]) (T := TT) (Γ := cs_spec_copyInts) (an := an_spec_copyInts) (N := 6) (c := Try.f52.body.getD .skip) Try.func52 (by kernel_rfl) Try.ntmps52 (by decide) (by decide) mixed tabOK cok_spec_copyInts (by kernel_rfl) ?_
  intro vs kk _ hF
  exact i_spec_copyInts (motive := fun vs => Goes (ev TT cs_spec_copyInts 6 an_spec_copyInts (Try.f52.body.getD .skip) (st0 con_spec_copyInts vs) (fin TT con_spec_copyInts Try.f52.results.toList [.c (.sl .int)] vs kk))) hF (fun list0 hF => goes_of (e_spec_copyInts list0 kk) (F_spec_copyInts_S hF))
def con_spec_validSegments : Con := ⟨[.rd], true, [.agg [.sc, .sc, .sl .int, .sl .int]], fun vs k => match vs with
    | [.agg [.v (.int .i64 s0Trial), .v (.int .i64 s0Safe), .ro .int s0New, .ro .int s0Old]] => F_spec_validSegments s0Trial s0Safe s0New s0Old (fun r0 => k (.one (.c (.v (.bool r0)))) [])
    | _ => False, false⟩
def cs_spec_validSegments : Cons := [(43, con_spec_inRange), (52, con_spec_copyInts), (61, con_spec_validKeys), (70, con_spec_distinct)]
def an_spec_validSegments : Ann := ⟨[(1, .take 0 (.take 1 (.alt 2 (.take 3 (.take 4 (.take 5 (.alt 6 (.take 7 (.take 8 (.take 9 (.take 10 (.take 11 (.take 12 (.alt 13 (.take 14 (.take 15 (.take 16 (.take 17 (.take 18 (.take 19 (.alt 20 (.take 21 (.take 22 (.take 23 (.take 24 (.take 26 (.take 27 (.alt 25 (.alt 28 (.alt 29 (.take 30 (.take 31 (.done))) (.none)) (.none)) (.none)))))))) (.none)))))))) (.none)))))))) (.none))))) (.none))), [16])], []⟩
def fin_spec_validSegments (s0Trial : Int) (s0Safe : Int) (s0New : List Int) (s0Old : List Int) (kk : AV → List A1 → Prop) : Kt := fin TT con_spec_validSegments Try.f51.results.toList [.c .sc] [.agg [.v (.int .i64 s0Trial), .v (.int .i64 s0Safe), .ro .int s0New, .ro .int s0Old]] kk
theorem g_spec_validSegments (s0Trial : Int) (s0Safe : Int) (s0New : List Int) (s0Old : List Int) (kk : AV → List A1 → Prop) :
    ev TT cs_spec_validSegments 34 an_spec_validSegments (Try.f51.body.getD .skip) (st0 con_spec_validSegments [.agg [.v (.int .i64 s0Trial), .v (.int .i64 s0Safe), .ro .int s0New, .ro .int s0Old]]) (fin TT con_spec_validSegments Try.f51.results.toList [.c .sc] [.agg [.v (.int .i64 s0Trial), .v (.int .i64 s0Safe), .ro .int s0New, .ro .int s0Old]] kk) = G_spec_validSegments s0Trial s0Safe s0New s0Old (fun r0 => kk (.one (.c (.v (.bool r0)))) []) := by kernel_rfl
theorem e_spec_validSegments (s0Trial : Int) (s0Safe : Int) (s0New : List Int) (s0Old : List Int) (kk : AV → List A1 → Prop) :
    ev TT cs_spec_validSegments 34 an_spec_validSegments (Try.f51.body.getD .skip) (st0 con_spec_validSegments [.agg [.v (.int .i64 s0Trial), .v (.int .i64 s0Safe), .ro .int s0New, .ro .int s0Old]]) (fin TT con_spec_validSegments Try.f51.results.toList [.c .sc] [.agg [.v (.int .i64 s0Trial), .v (.int .i64 s0Safe), .ro .int s0New, .ro .int s0Old]] kk) = S_spec_validSegments s0Trial s0Safe s0New s0Old (fun r0 => kk (.one (.c (.v (.bool r0)))) []) := by
  rw [g_spec_validSegments]
  rw [G_spec_validSegments_eq]
  rfl
theorem cok_spec_validSegments : ConsOK Try.prog cs_spec_validSegments := consCons h_spec_inRange ⟨Try.f43, Try.func43, by kernel_rfl, ne_of_beq (by kernel_rfl)⟩ (consCons h_spec_copyInts ⟨Try.f52, Try.func52, by kernel_rfl, ne_of_beq (by kernel_rfl)⟩ (consCons h_spec_validKeys ⟨Try.f61, Try.func61, by kernel_rfl, ne_of_beq (by kernel_rfl)⟩ (consCons h_spec_distinct ⟨Try.f70, Try.func70, by kernel_rfl, ne_of_beq (by kernel_rfl)⟩ (consNil))))
theorem i_spec_validSegments {vs : List A1} {kk : AV → List A1 → Prop} {motive : List A1 → Prop} (h : con_spec_validSegments.F vs kk) (H : ∀ (s0Trial : Int) (s0Safe : Int) (s0New : List Int) (s0Old : List Int), F_spec_validSegments s0Trial s0Safe s0New s0Old (fun r0 => kk (.one (.c (.v (.bool r0)))) []) → motive [.agg [.v (.int .i64 s0Trial), .v (.int .i64 s0Safe), .ro .int s0New, .ro .int s0Old]]) : motive vs := by
  unfold con_spec_validSegments at h
  dsimp only at h
  split at h
  · exact H _ _ _ _ h
  · exact h.elim
theorem h_spec_validSegments : Holds Try.prog 51 con_spec_validSegments := by
  refine holds_of_ev (rt := [.c .sc]) (T := TT) (Γ := cs_spec_validSegments) (an := an_spec_validSegments) (N := 34) (c := Try.f51.body.getD .skip) Try.func51 (by kernel_rfl) Try.ntmps51 (by decide) (by decide) mixed tabOK cok_spec_validSegments (by kernel_rfl) ?_
  intro vs kk _ hF
  exact i_spec_validSegments (motive := fun vs => Goes (ev TT cs_spec_validSegments 34 an_spec_validSegments (Try.f51.body.getD .skip) (st0 con_spec_validSegments vs) (fin TT con_spec_validSegments Try.f51.results.toList [.c .sc] vs kk))) hF (fun s0Trial s0Safe s0New s0Old hF => goes_of (e_spec_validSegments s0Trial s0Safe s0New s0Old kk) (F_spec_validSegments_S hF))
def con_spec_KeysOf : Con := ⟨[.rd], true, [.agg [.sc, .sc, .sl .int, .sl .int]], fun vs k => match vs with
    | [.agg [.v (.int .i64 s0Trial), .v (.int .i64 s0Safe), .ro .int s0New, .ro .int s0Old]] => F_spec_KeysOf s0Trial s0Safe s0New s0Old (fun r0 => k (.one (.c (.ro .int r0))) [])
    | _ => False, false⟩
def cs_spec_KeysOf : Cons := [(51, con_spec_validSegments), (52, con_spec_copyInts)]
def an_spec_KeysOf : Ann := ⟨[(3, .take 0 (.take 1 (.take 3 (.take 4 (.alt 2 (.alt 5 (.take 6 (.done)) (.none)) (.none))))), [16])], []⟩
def fin_spec_KeysOf (s0Trial : Int) (s0Safe : Int) (s0New : List Int) (s0Old : List Int) (kk : AV → List A1 → Prop) : Kt := fin TT con_spec_KeysOf Try.f24.results.toList [.c (.sl .int)] [.agg [.v (.int .i64 s0Trial), .v (.int .i64 s0Safe), .ro .int s0New, .ro .int s0Old]] kk
theorem g_spec_KeysOf (s0Trial : Int) (s0Safe : Int) (s0New : List Int) (s0Old : List Int) (kk : AV → List A1 → Prop) :
    ev TT cs_spec_KeysOf 12 an_spec_KeysOf (Try.f24.body.getD .skip) (st0 con_spec_KeysOf [.agg [.v (.int .i64 s0Trial), .v (.int .i64 s0Safe), .ro .int s0New, .ro .int s0Old]]) (fin TT con_spec_KeysOf Try.f24.results.toList [.c (.sl .int)] [.agg [.v (.int .i64 s0Trial), .v (.int .i64 s0Safe), .ro .int s0New, .ro .int s0Old]] kk) = G_spec_KeysOf s0Trial s0Safe s0New s0Old (fun r0 => kk (.one (.c (.ro .int r0))) []) := by kernel_rfl
theorem e_spec_KeysOf (s0Trial : Int) (s0Safe : Int) (s0New : List Int) (s0Old : List Int) (kk : AV → List A1 → Prop) :
    ev TT cs_spec_KeysOf 12 an_spec_KeysOf (Try.f24.body.getD .skip) (st0 con_spec_KeysOf [.agg [.v (.int .i64 s0Trial), .v (.int .i64 s0Safe), .ro .int s0New, .ro .int s0Old]]) (fin TT con_spec_KeysOf Try.f24.results.toList [.c (.sl .int)] [.agg [.v (.int .i64 s0Trial), .v (.int .i64 s0Safe), .ro .int s0New, .ro .int s0Old]] kk) = S_spec_KeysOf s0Trial s0Safe s0New s0Old (fun r0 => kk (.one (.c (.ro .int r0))) []) := by
  rw [g_spec_KeysOf]
  rw [G_spec_KeysOf_eq]
  rfl
theorem cok_spec_KeysOf : ConsOK Try.prog cs_spec_KeysOf := consCons h_spec_validSegments ⟨Try.f51, Try.func51, by kernel_rfl, ne_of_beq (by kernel_rfl)⟩ (consCons h_spec_copyInts ⟨Try.f52, Try.func52, by kernel_rfl, ne_of_beq (by kernel_rfl)⟩ (consNil))
theorem i_spec_KeysOf {vs : List A1} {kk : AV → List A1 → Prop} {motive : List A1 → Prop} (h : con_spec_KeysOf.F vs kk) (H : ∀ (s0Trial : Int) (s0Safe : Int) (s0New : List Int) (s0Old : List Int), F_spec_KeysOf s0Trial s0Safe s0New s0Old (fun r0 => kk (.one (.c (.ro .int r0))) []) → motive [.agg [.v (.int .i64 s0Trial), .v (.int .i64 s0Safe), .ro .int s0New, .ro .int s0Old]]) : motive vs := by
  unfold con_spec_KeysOf at h
  dsimp only at h
  split at h
  · exact H _ _ _ _ h
  · exact h.elim
theorem h_spec_KeysOf : Holds Try.prog 24 con_spec_KeysOf := by
  refine holds_of_ev (rt := [.c (.sl .int)]) (T := TT) (Γ := cs_spec_KeysOf) (an := an_spec_KeysOf) (N := 12) (c := Try.f24.body.getD .skip) Try.func24 (by kernel_rfl) Try.ntmps24 (by decide) (by decide) mixed tabOK cok_spec_KeysOf (by kernel_rfl) ?_
  intro vs kk _ hF
  exact i_spec_KeysOf (motive := fun vs => Goes (ev TT cs_spec_KeysOf 12 an_spec_KeysOf (Try.f24.body.getD .skip) (st0 con_spec_KeysOf vs) (fin TT con_spec_KeysOf Try.f24.results.toList [.c (.sl .int)] vs kk))) hF (fun s0Trial s0Safe s0New s0Old hF => goes_of (e_spec_KeysOf s0Trial s0Safe s0New s0Old kk) (F_spec_KeysOf_S hF))
def con_impl_validRoom : Con := ⟨[.rd], true, [.c .sc], fun vs k => match vs with
    | [.c (.v (.int .i64 room0))] => F_impl_validRoom room0 (fun r0 => k (.one (.c (.v (.bool r0)))) [])
    | _ => False, false⟩
def cs_impl_validRoom : Cons := []
def an_impl_validRoom : Ann := ⟨[], []⟩
def fin_impl_validRoom (room0 : Int) (kk : AV → List A1 → Prop) : Kt := fin TT con_impl_validRoom Try.f47.results.toList [.c .sc] [.c (.v (.int .i64 room0))] kk
theorem g_impl_validRoom (room0 : Int) (kk : AV → List A1 → Prop) :
    ev TT cs_impl_validRoom 9 an_impl_validRoom (Try.f47.body.getD .skip) (st0 con_impl_validRoom [.c (.v (.int .i64 room0))]) (fin TT con_impl_validRoom Try.f47.results.toList [.c .sc] [.c (.v (.int .i64 room0))] kk) = G_impl_validRoom room0 (fun r0 => kk (.one (.c (.v (.bool r0)))) []) := by kernel_rfl
theorem e_impl_validRoom (room0 : Int) (kk : AV → List A1 → Prop) :
    ev TT cs_impl_validRoom 9 an_impl_validRoom (Try.f47.body.getD .skip) (st0 con_impl_validRoom [.c (.v (.int .i64 room0))]) (fin TT con_impl_validRoom Try.f47.results.toList [.c .sc] [.c (.v (.int .i64 room0))] kk) = S_impl_validRoom room0 (fun r0 => kk (.one (.c (.v (.bool r0)))) []) := by
  rw [g_impl_validRoom]
  rfl
theorem cok_impl_validRoom : ConsOK Try.prog cs_impl_validRoom := consNil
theorem i_impl_validRoom {vs : List A1} {kk : AV → List A1 → Prop} {motive : List A1 → Prop} (h : con_impl_validRoom.F vs kk) (H : ∀ (room0 : Int), F_impl_validRoom room0 (fun r0 => kk (.one (.c (.v (.bool r0)))) []) → motive [.c (.v (.int .i64 room0))]) : motive vs := by
  unfold con_impl_validRoom at h
  dsimp only at h
  split at h
  · exact H _ h
  · exact h.elim
theorem h_impl_validRoom : Holds Try.prog 47 con_impl_validRoom := by
  refine holds_of_ev (rt := [.c .sc]) (T := TT) (Γ := cs_impl_validRoom) (an := an_impl_validRoom) (N := 9) (c := Try.f47.body.getD .skip) Try.func47 (by kernel_rfl) Try.ntmps47 (by decide) (by decide) mixed tabOK cok_impl_validRoom (by kernel_rfl) ?_
  intro vs kk _ hF
  exact i_impl_validRoom (motive := fun vs => Goes (ev TT cs_impl_validRoom 9 an_impl_validRoom (Try.f47.body.getD .skip) (st0 con_impl_validRoom vs) (fin TT con_impl_validRoom Try.f47.results.toList [.c .sc] vs kk))) hF (fun room0 hF => goes_of (e_impl_validRoom room0 kk) (F_impl_validRoom_S hF))
def con_impl_validKey : Con := ⟨[.rd], true, [.c .sc], fun vs k => match vs with
    | [.c (.v (.int .i64 key0))] => F_impl_validKey key0 (fun r0 => k (.one (.c (.v (.bool r0)))) [])
    | _ => False, false⟩
def cs_impl_validKey : Cons := []
def an_impl_validKey : Ann := ⟨[], []⟩
def fin_impl_validKey (key0 : Int) (kk : AV → List A1 → Prop) : Kt := fin TT con_impl_validKey Try.f58.results.toList [.c .sc] [.c (.v (.int .i64 key0))] kk
theorem g_impl_validKey (key0 : Int) (kk : AV → List A1 → Prop) :
    ev TT cs_impl_validKey 9 an_impl_validKey (Try.f58.body.getD .skip) (st0 con_impl_validKey [.c (.v (.int .i64 key0))]) (fin TT con_impl_validKey Try.f58.results.toList [.c .sc] [.c (.v (.int .i64 key0))] kk) = G_impl_validKey key0 (fun r0 => kk (.one (.c (.v (.bool r0)))) []) := by kernel_rfl
theorem e_impl_validKey (key0 : Int) (kk : AV → List A1 → Prop) :
    ev TT cs_impl_validKey 9 an_impl_validKey (Try.f58.body.getD .skip) (st0 con_impl_validKey [.c (.v (.int .i64 key0))]) (fin TT con_impl_validKey Try.f58.results.toList [.c .sc] [.c (.v (.int .i64 key0))] kk) = S_impl_validKey key0 (fun r0 => kk (.one (.c (.v (.bool r0)))) []) := by
  rw [g_impl_validKey]
  rfl
theorem cok_impl_validKey : ConsOK Try.prog cs_impl_validKey := consNil
theorem i_impl_validKey {vs : List A1} {kk : AV → List A1 → Prop} {motive : List A1 → Prop} (h : con_impl_validKey.F vs kk) (H : ∀ (key0 : Int), F_impl_validKey key0 (fun r0 => kk (.one (.c (.v (.bool r0)))) []) → motive [.c (.v (.int .i64 key0))]) : motive vs := by
  unfold con_impl_validKey at h
  dsimp only at h
  split at h
  · exact H _ h
  · exact h.elim
theorem h_impl_validKey : Holds Try.prog 58 con_impl_validKey := by
  refine holds_of_ev (rt := [.c .sc]) (T := TT) (Γ := cs_impl_validKey) (an := an_impl_validKey) (N := 9) (c := Try.f58.body.getD .skip) Try.func58 (by kernel_rfl) Try.ntmps58 (by decide) (by decide) mixed tabOK cok_impl_validKey (by kernel_rfl) ?_
  intro vs kk _ hF
  exact i_impl_validKey (motive := fun vs => Goes (ev TT cs_impl_validKey 9 an_impl_validKey (Try.f58.body.getD .skip) (st0 con_impl_validKey vs) (fin TT con_impl_validKey Try.f58.results.toList [.c .sc] vs kk))) hF (fun key0 hF => goes_of (e_impl_validKey key0 kk) (F_impl_validKey_S hF))
def con_slices_Index_sint_int : Con := ⟨[.rd, .rd], true, [.c (.sl .int), .c .sc], fun vs k => match vs with
    | [.c (.ro .int s0), .c (.v (.int .i64 v1))] => F_slices_Index_sint_int s0 v1 (fun r0 => k (.one (.c (.v (.int .i64 r0)))) [])
    | _ => False, false⟩
def cs_slices_Index_sint_int : Cons := []
def nm0_slices_Index_sint_int : List NStep := [.keep [0, 1, 7, 8] []]
def an_slices_Index_sint_int : Ann := ⟨[], [(2, nm0_slices_Index_sint_int)]⟩
def can0_slices_Index_sint_int (s0 : List Int) (v1 : Int) (xt7 : Int) (xt8 : Int) : St := ⟨[(0, .one (.c (.ro .int s0))), (1, .one (.c (.v (.int .i64 v1)))), (7, .one (.c (.v (.int .i64 xt7)))), (8, .one (.c (.v (.int .i64 xt8))))], []⟩
def fin_slices_Index_sint_int (s0 : List Int) (v1 : Int) (kk : AV → List A1 → Prop) : Kt := fin TT con_slices_Index_sint_int Try.f74.results.toList [.c .sc] [.c (.ro .int s0), .c (.v (.int .i64 v1))] kk
def kt0_slices_Index_sint_int (kf : Kt) : Kt := blockK 0 (seqK (evF TT cs_slices_Index_sint_int 19 an_slices_Index_sint_int Try.f74 [1, 1]) (kf))
theorem r0_slices_Index_sint_int (s0 : List Int) (v1 : Int) (xt7 : Int) (kk : AV → List A1 → Prop) (n : Nat) (xt8 : Int) :
    iter (evF TT cs_slices_Index_sint_int 19 an_slices_Index_sint_int Try.f74 [1, 0, 1, 0, 0]) nm0_slices_Index_sint_int (kt0_slices_Index_sint_int (fin_slices_Index_sint_int s0 v1 kk)) (n + 1) (can0_slices_Index_sint_int s0 v1 xt7 xt8) = T0_slices_Index_sint_int s0 v1 xt7 xt8 (fun r0 => kk (.one (.c (.v (.int .i64 r0)))) []) (fun xt8 => iter (evF TT cs_slices_Index_sint_int 19 an_slices_Index_sint_int Try.f74 [1, 0, 1, 0, 0]) nm0_slices_Index_sint_int (kt0_slices_Index_sint_int (fin_slices_Index_sint_int s0 v1 kk)) n (can0_slices_Index_sint_int s0 v1 xt7 xt8)) := by kernel_rfl
theorem l0_slices_Index_sint_int (s0 : List Int) (v1 : Int) (xt7 : Int) (kk : AV → List A1 → Prop) : ∀ (n : Nat) (xt8 : Int), iter (evF TT cs_slices_Index_sint_int 19 an_slices_Index_sint_int Try.f74 [1, 0, 1, 0, 0]) nm0_slices_Index_sint_int (kt0_slices_Index_sint_int (fin_slices_Index_sint_int s0 v1 kk)) n (can0_slices_Index_sint_int s0 v1 xt7 xt8) = L0_slices_Index_sint_int s0 v1 xt7 (fun r0 => kk (.one (.c (.v (.int .i64 r0)))) []) n xt8 := by
  intro n
  induction n with
  | zero => intros; rfl
  | succ n ih =>
    intro xt8
    rw [r0_slices_Index_sint_int s0 v1 xt7 kk n xt8]
    have hb : (fun xt8 => iter (evF TT cs_slices_Index_sint_int 19 an_slices_Index_sint_int Try.f74 [1, 0, 1, 0, 0]) nm0_slices_Index_sint_int (kt0_slices_Index_sint_int (fin_slices_Index_sint_int s0 v1 kk)) n (can0_slices_Index_sint_int s0 v1 xt7 xt8)) = L0_slices_Index_sint_int s0 v1 xt7 (fun r0 => kk (.one (.c (.v (.int .i64 r0)))) []) n := by
      funext xt8; exact ih xt8
    rw [hb]
    rfl
theorem g_slices_Index_sint_int (s0 : List Int) (v1 : Int) (kk : AV → List A1 → Prop) :
    ev TT cs_slices_Index_sint_int 19 an_slices_Index_sint_int (Try.f74.body.getD .skip) (st0 con_slices_Index_sint_int [.c (.ro .int s0), .c (.v (.int .i64 v1))]) (fin TT con_slices_Index_sint_int Try.f74.results.toList [.c .sc] [.c (.ro .int s0), .c (.v (.int .i64 v1))] kk) = G_slices_Index_sint_int s0 v1 (fun s0 v1 xt7 xt8 => ∃ j, iter (evF TT cs_slices_Index_sint_int 19 an_slices_Index_sint_int Try.f74 [1, 0, 1, 0, 0]) nm0_slices_Index_sint_int (kt0_slices_Index_sint_int (fin_slices_Index_sint_int s0 v1 kk)) j (can0_slices_Index_sint_int s0 v1 xt7 xt8)) := by kernel_rfl
theorem e_slices_Index_sint_int (s0 : List Int) (v1 : Int) (kk : AV → List A1 → Prop) :
    ev TT cs_slices_Index_sint_int 19 an_slices_Index_sint_int (Try.f74.body.getD .skip) (st0 con_slices_Index_sint_int [.c (.ro .int s0), .c (.v (.int .i64 v1))]) (fin TT con_slices_Index_sint_int Try.f74.results.toList [.c .sc] [.c (.ro .int s0), .c (.v (.int .i64 v1))] kk) = S_slices_Index_sint_int s0 v1 (fun r0 => kk (.one (.c (.v (.int .i64 r0)))) []) := by
  rw [g_slices_Index_sint_int]
  have hi0 : (fun s0 v1 xt7 xt8 => ∃ j, iter (evF TT cs_slices_Index_sint_int 19 an_slices_Index_sint_int Try.f74 [1, 0, 1, 0, 0]) nm0_slices_Index_sint_int (kt0_slices_Index_sint_int (fin_slices_Index_sint_int s0 v1 kk)) j (can0_slices_Index_sint_int s0 v1 xt7 xt8)) = (fun s0 v1 xt7 xt8 => ∃ n, L0_slices_Index_sint_int s0 v1 xt7 (fun r0 => kk (.one (.c (.v (.int .i64 r0)))) []) n xt8) := by
    funext s0 v1 xt7 xt8
    refine congrArg Exists (funext fun j => ?_)
    rw [l0_slices_Index_sint_int s0 v1 xt7 kk j xt8]
  rw [hi0]
  rfl
theorem cok_slices_Index_sint_int : ConsOK Try.prog cs_slices_Index_sint_int := consNil
theorem i_slices_Index_sint_int {vs : List A1} {kk : AV → List A1 → Prop} {motive : List A1 → Prop} (h : con_slices_Index_sint_int.F vs kk) (H : ∀ (s0 : List Int) (v1 : Int), F_slices_Index_sint_int s0 v1 (fun r0 => kk (.one (.c (.v (.int .i64 r0)))) []) → motive [.c (.ro .int s0), .c (.v (.int .i64 v1))]) : motive vs := by
  unfold con_slices_Index_sint_int at h
  dsimp only at h
  split at h
  · exact H _ _ h
  · exact h.elim
theorem h_slices_Index_sint_int : Holds Try.prog 74 con_slices_Index_sint_int := by
  refine holds_of_ev (rt := [.c .sc]) (T := TT) (Γ := cs_slices_Index_sint_int) (an := an_slices_Index_sint_int) (N := 19) (c := Try.f74.body.getD .skip) Try.func74 (by kernel_rfl) Try.ntmps74 (by decide) (by decide) mixed tabOK cok_slices_Index_sint_int (by kernel_rfl) ?_
  intro vs kk _ hF
  exact i_slices_Index_sint_int (motive := fun vs => Goes (ev TT cs_slices_Index_sint_int 19 an_slices_Index_sint_int (Try.f74.body.getD .skip) (st0 con_slices_Index_sint_int vs) (fin TT con_slices_Index_sint_int Try.f74.results.toList [.c .sc] vs kk))) hF (fun s0 v1 hF => goes_of (e_slices_Index_sint_int s0 v1 kk) (F_slices_Index_sint_int_S hF))
def con_slices_Contains_sint_int : Con := ⟨[.rd, .rd], true, [.c (.sl .int), .c .sc], fun vs k => match vs with
    | [.c (.ro .int s0), .c (.v (.int .i64 v1))] => F_slices_Contains_sint_int s0 v1 (fun r0 => k (.one (.c (.v (.bool r0)))) [])
    | _ => False, false⟩
def cs_slices_Contains_sint_int : Cons := [(74, con_slices_Index_sint_int)]
def an_slices_Contains_sint_int : Ann := ⟨[], []⟩
def fin_slices_Contains_sint_int (s0 : List Int) (v1 : Int) (kk : AV → List A1 → Prop) : Kt := fin TT con_slices_Contains_sint_int Try.f60.results.toList [.c .sc] [.c (.ro .int s0), .c (.v (.int .i64 v1))] kk
theorem g_slices_Contains_sint_int (s0 : List Int) (v1 : Int) (kk : AV → List A1 → Prop) :
    ev TT cs_slices_Contains_sint_int 9 an_slices_Contains_sint_int (Try.f60.body.getD .skip) (st0 con_slices_Contains_sint_int [.c (.ro .int s0), .c (.v (.int .i64 v1))]) (fin TT con_slices_Contains_sint_int Try.f60.results.toList [.c .sc] [.c (.ro .int s0), .c (.v (.int .i64 v1))] kk) = G_slices_Contains_sint_int s0 v1 (fun r0 => kk (.one (.c (.v (.bool r0)))) []) := by kernel_rfl
theorem e_slices_Contains_sint_int (s0 : List Int) (v1 : Int) (kk : AV → List A1 → Prop) :
    ev TT cs_slices_Contains_sint_int 9 an_slices_Contains_sint_int (Try.f60.body.getD .skip) (st0 con_slices_Contains_sint_int [.c (.ro .int s0), .c (.v (.int .i64 v1))]) (fin TT con_slices_Contains_sint_int Try.f60.results.toList [.c .sc] [.c (.ro .int s0), .c (.v (.int .i64 v1))] kk) = S_slices_Contains_sint_int s0 v1 (fun r0 => kk (.one (.c (.v (.bool r0)))) []) := by
  rw [g_slices_Contains_sint_int]
  rfl
theorem cok_slices_Contains_sint_int : ConsOK Try.prog cs_slices_Contains_sint_int := consCons h_slices_Index_sint_int ⟨Try.f74, Try.func74, by kernel_rfl, ne_of_beq (by kernel_rfl)⟩ (consNil)
theorem i_slices_Contains_sint_int {vs : List A1} {kk : AV → List A1 → Prop} {motive : List A1 → Prop} (h : con_slices_Contains_sint_int.F vs kk) (H : ∀ (s0 : List Int) (v1 : Int), F_slices_Contains_sint_int s0 v1 (fun r0 => kk (.one (.c (.v (.bool r0)))) []) → motive [.c (.ro .int s0), .c (.v (.int .i64 v1))]) : motive vs := by
  unfold con_slices_Contains_sint_int at h
  dsimp only at h
  split at h
  · exact H _ _ h
  · exact h.elim
theorem h_slices_Contains_sint_int : Holds Try.prog 60 con_slices_Contains_sint_int := by
  refine holds_of_ev (rt := [.c .sc]) (T := TT) (Γ := cs_slices_Contains_sint_int) (an := an_slices_Contains_sint_int) (N := 9) (c := Try.f60.body.getD .skip) Try.func60 (by kernel_rfl) Try.ntmps60 (by decide) (by decide) mixed tabOK cok_slices_Contains_sint_int (by kernel_rfl) ?_
  intro vs kk _ hF
  exact i_slices_Contains_sint_int (motive := fun vs => Goes (ev TT cs_slices_Contains_sint_int 9 an_slices_Contains_sint_int (Try.f60.body.getD .skip) (st0 con_slices_Contains_sint_int vs) (fin TT con_slices_Contains_sint_int Try.f60.results.toList [.c .sc] vs kk))) hF (fun s0 v1 hF => goes_of (e_slices_Contains_sint_int s0 v1 kk) (F_slices_Contains_sint_int_S hF))
def con_impl_ValidKeys : Con := ⟨[.rd, .rd], true, [.c (.sl .int), .c .sc], fun vs k => match vs with
    | [.c (.ro .int list0), .c (.v (.int .i64 room1))] => F_impl_ValidKeys list0 room1 (fun r0 => k (.one (.c (.v (.bool r0)))) [])
    | _ => False, false⟩
def cs_impl_ValidKeys : Cons := [(47, con_impl_validRoom), (58, con_impl_validKey), (60, con_slices_Contains_sint_int)]
def nm0_impl_ValidKeys : List NStep := [.keep [0, 16, 17, 18] []]
def an_impl_ValidKeys : Ann := ⟨[], [(4, nm0_impl_ValidKeys)]⟩
def can0_impl_ValidKeys (list0 : List Int) (xt17 : Int) (xt18 : Int) : St := ⟨[(0, .one (.c (.ro .int list0))), (16, .one (.c (.ro .int list0))), (17, .one (.c (.v (.int .i64 xt17)))), (18, .one (.c (.v (.int .i64 xt18))))], []⟩
def fin_impl_ValidKeys (list0 : List Int) (room1 : Int) (kk : AV → List A1 → Prop) : Kt := fin TT con_impl_ValidKeys Try.f33.results.toList [.c .sc] [.c (.ro .int list0), .c (.v (.int .i64 room1))] kk
def kt0_impl_ValidKeys (kf : Kt) : Kt := blockK 0 (seqK (evF TT cs_impl_ValidKeys 34 an_impl_ValidKeys Try.f33 [1, 1, 1]) (kf))
theorem r0_impl_ValidKeys (list0 : List Int) (room1 : Int) (xt17 : Int) (kk : AV → List A1 → Prop) (n : Nat) (xt18 : Int) :
    iter (evF TT cs_impl_ValidKeys 34 an_impl_ValidKeys Try.f33 [1, 1, 0, 1, 0, 0]) nm0_impl_ValidKeys (kt0_impl_ValidKeys (fin_impl_ValidKeys list0 room1 kk)) (n + 1) (can0_impl_ValidKeys list0 xt17 xt18) = T0_impl_ValidKeys list0 xt17 xt18 (fun r0 => kk (.one (.c (.v (.bool r0)))) []) (fun xt18 => iter (evF TT cs_impl_ValidKeys 34 an_impl_ValidKeys Try.f33 [1, 1, 0, 1, 0, 0]) nm0_impl_ValidKeys (kt0_impl_ValidKeys (fin_impl_ValidKeys list0 room1 kk)) n (can0_impl_ValidKeys list0 xt17 xt18)) := by kernel_rfl
theorem l0_impl_ValidKeys (list0 : List Int) (room1 : Int) (xt17 : Int) (kk : AV → List A1 → Prop) : ∀ (n : Nat) (xt18 : Int), iter (evF TT cs_impl_ValidKeys 34 an_impl_ValidKeys Try.f33 [1, 1, 0, 1, 0, 0]) nm0_impl_ValidKeys (kt0_impl_ValidKeys (fin_impl_ValidKeys list0 room1 kk)) n (can0_impl_ValidKeys list0 xt17 xt18) = L0_impl_ValidKeys list0 xt17 (fun r0 => kk (.one (.c (.v (.bool r0)))) []) n xt18 := by
  intro n
  induction n with
  | zero => intros; rfl
  | succ n ih =>
    intro xt18
    rw [r0_impl_ValidKeys list0 room1 xt17 kk n xt18]
    have hb : (fun xt18 => iter (evF TT cs_impl_ValidKeys 34 an_impl_ValidKeys Try.f33 [1, 1, 0, 1, 0, 0]) nm0_impl_ValidKeys (kt0_impl_ValidKeys (fin_impl_ValidKeys list0 room1 kk)) n (can0_impl_ValidKeys list0 xt17 xt18)) = L0_impl_ValidKeys list0 xt17 (fun r0 => kk (.one (.c (.v (.bool r0)))) []) n := by
      funext xt18; exact ih xt18
    rw [hb]
    rfl
theorem g_impl_ValidKeys (list0 : List Int) (room1 : Int) (kk : AV → List A1 → Prop) :
    ev TT cs_impl_ValidKeys 34 an_impl_ValidKeys (Try.f33.body.getD .skip) (st0 con_impl_ValidKeys [.c (.ro .int list0), .c (.v (.int .i64 room1))]) (fin TT con_impl_ValidKeys Try.f33.results.toList [.c .sc] [.c (.ro .int list0), .c (.v (.int .i64 room1))] kk) = G_impl_ValidKeys list0 room1 (fun r0 => kk (.one (.c (.v (.bool r0)))) []) (fun list0 xt17 xt18 => ∃ j, iter (evF TT cs_impl_ValidKeys 34 an_impl_ValidKeys Try.f33 [1, 1, 0, 1, 0, 0]) nm0_impl_ValidKeys (kt0_impl_ValidKeys (fin_impl_ValidKeys list0 room1 kk)) j (can0_impl_ValidKeys list0 xt17 xt18)) := by kernel_rfl
theorem e_impl_ValidKeys (list0 : List Int) (room1 : Int) (kk : AV → List A1 → Prop) :
    ev TT cs_impl_ValidKeys 34 an_impl_ValidKeys (Try.f33.body.getD .skip) (st0 con_impl_ValidKeys [.c (.ro .int list0), .c (.v (.int .i64 room1))]) (fin TT con_impl_ValidKeys Try.f33.results.toList [.c .sc] [.c (.ro .int list0), .c (.v (.int .i64 room1))] kk) = S_impl_ValidKeys list0 room1 (fun r0 => kk (.one (.c (.v (.bool r0)))) []) := by
  rw [g_impl_ValidKeys]
  have hi0 : (fun list0 xt17 xt18 => ∃ j, iter (evF TT cs_impl_ValidKeys 34 an_impl_ValidKeys Try.f33 [1, 1, 0, 1, 0, 0]) nm0_impl_ValidKeys (kt0_impl_ValidKeys (fin_impl_ValidKeys list0 room1 kk)) j (can0_impl_ValidKeys list0 xt17 xt18)) = (fun list0 xt17 xt18 => ∃ n, L0_impl_ValidKeys list0 xt17 (fun r0 => kk (.one (.c (.v (.bool r0)))) []) n xt18) := by
    funext list0 xt17 xt18
    refine congrArg Exists (funext fun j => ?_)
    rw [l0_impl_ValidKeys list0 room1 xt17 kk j xt18]
  rw [hi0]
  rfl
theorem cok_impl_ValidKeys : ConsOK Try.prog cs_impl_ValidKeys := consCons h_impl_validRoom ⟨Try.f47, Try.func47, by kernel_rfl, ne_of_beq (by kernel_rfl)⟩ (consCons h_impl_validKey ⟨Try.f58, Try.func58, by kernel_rfl, ne_of_beq (by kernel_rfl)⟩ (consCons h_slices_Contains_sint_int ⟨Try.f60, Try.func60, by kernel_rfl, ne_of_beq (by kernel_rfl)⟩ (consNil)))
theorem i_impl_ValidKeys {vs : List A1} {kk : AV → List A1 → Prop} {motive : List A1 → Prop} (h : con_impl_ValidKeys.F vs kk) (H : ∀ (list0 : List Int) (room1 : Int), F_impl_ValidKeys list0 room1 (fun r0 => kk (.one (.c (.v (.bool r0)))) []) → motive [.c (.ro .int list0), .c (.v (.int .i64 room1))]) : motive vs := by
  unfold con_impl_ValidKeys at h
  dsimp only at h
  split at h
  · exact H _ _ h
  · exact h.elim
theorem h_impl_ValidKeys : Holds Try.prog 33 con_impl_ValidKeys := by
  refine holds_of_ev (rt := [.c .sc]) (T := TT) (Γ := cs_impl_ValidKeys) (an := an_impl_ValidKeys) (N := 34) (c := Try.f33.body.getD .skip) Try.func33 (by kernel_rfl) Try.ntmps33 (by decide) (by decide) mixed tabOK cok_impl_ValidKeys (by kernel_rfl) ?_
  intro vs kk _ hF
  exact i_impl_ValidKeys (motive := fun vs => Goes (ev TT cs_impl_ValidKeys 34 an_impl_ValidKeys (Try.f33.body.getD .skip) (st0 con_impl_ValidKeys vs) (fin TT con_impl_ValidKeys Try.f33.results.toList [.c .sc] vs kk))) hF (fun list0 room1 hF => goes_of (e_impl_ValidKeys list0 room1 kk) (F_impl_ValidKeys_S hF))
def con_impl_ValidSegments : Con := ⟨[.rd], true, [.agg [.sc, .sc, .sl .int, .sl .int]], fun vs k => match vs with
    | [.agg [.v (.int .i64 s0Trial), .v (.int .i64 s0Safe), .ro .int s0New, .ro .int s0Old]] => F_impl_ValidSegments s0Trial s0Safe s0New s0Old (fun r0 => k (.one (.c (.v (.bool r0)))) [])
    | _ => False, false⟩
def cs_impl_ValidSegments : Cons := [(33, con_impl_ValidKeys), (60, con_slices_Contains_sint_int)]
def nm0_impl_ValidSegments : List NStep := [.keep [1, 20, 21, 22] [16]]
def an_impl_ValidSegments : Ann := ⟨[], [(4, nm0_impl_ValidSegments)]⟩
def can0_impl_ValidSegments (s0New : List Int) (s0Old : List Int) (s0Safe : Int) (s0Trial : Int) (xt21 : Int) (xt22 : Int) : St := ⟨[(1, .one (.c (.pb 16 0))), (20, .one (.c (.ro .int s0New))), (21, .one (.c (.v (.int .i64 xt21)))), (22, .one (.c (.v (.int .i64 xt22))))], [(16, .box [.v (.int .i64 s0Trial), .v (.int .i64 s0Safe), .ro .int s0New, .ro .int s0Old])]⟩
def fin_impl_ValidSegments (s0Trial : Int) (s0Safe : Int) (s0New : List Int) (s0Old : List Int) (kk : AV → List A1 → Prop) : Kt := fin TT con_impl_ValidSegments Try.f53.results.toList [.c .sc] [.agg [.v (.int .i64 s0Trial), .v (.int .i64 s0Safe), .ro .int s0New, .ro .int s0Old]] kk
def kt0_impl_ValidSegments (kf : Kt) : Kt := blockK 0 (seqK (evF TT cs_impl_ValidSegments 31 an_impl_ValidSegments Try.f53 [1, 1, 1]) (kf))
theorem r0_impl_ValidSegments (s0Trial : Int) (s0Safe : Int) (s0New : List Int) (s0Old : List Int) (xt21 : Int) (kk : AV → List A1 → Prop) (n : Nat) (xt22 : Int) :
    iter (evF TT cs_impl_ValidSegments 31 an_impl_ValidSegments Try.f53 [1, 1, 0, 1, 0, 0]) nm0_impl_ValidSegments (kt0_impl_ValidSegments (fin_impl_ValidSegments s0Trial s0Safe s0New s0Old kk)) (n + 1) (can0_impl_ValidSegments s0New s0Old s0Safe s0Trial xt21 xt22) = T0_impl_ValidSegments s0New s0Old s0Safe s0Trial xt21 xt22 (fun r0 => kk (.one (.c (.v (.bool r0)))) []) (fun xt22 => iter (evF TT cs_impl_ValidSegments 31 an_impl_ValidSegments Try.f53 [1, 1, 0, 1, 0, 0]) nm0_impl_ValidSegments (kt0_impl_ValidSegments (fin_impl_ValidSegments s0Trial s0Safe s0New s0Old kk)) n (can0_impl_ValidSegments s0New s0Old s0Safe s0Trial xt21 xt22)) := by kernel_rfl
theorem l0_impl_ValidSegments (s0Trial : Int) (s0Safe : Int) (s0New : List Int) (s0Old : List Int) (xt21 : Int) (kk : AV → List A1 → Prop) : ∀ (n : Nat) (xt22 : Int), iter (evF TT cs_impl_ValidSegments 31 an_impl_ValidSegments Try.f53 [1, 1, 0, 1, 0, 0]) nm0_impl_ValidSegments (kt0_impl_ValidSegments (fin_impl_ValidSegments s0Trial s0Safe s0New s0Old kk)) n (can0_impl_ValidSegments s0New s0Old s0Safe s0Trial xt21 xt22) = L0_impl_ValidSegments s0New s0Old s0Safe s0Trial xt21 (fun r0 => kk (.one (.c (.v (.bool r0)))) []) n xt22 := by
  intro n
  induction n with
  | zero => intros; rfl
  | succ n ih =>
    intro xt22
    rw [r0_impl_ValidSegments s0Trial s0Safe s0New s0Old xt21 kk n xt22]
    have hb : (fun xt22 => iter (evF TT cs_impl_ValidSegments 31 an_impl_ValidSegments Try.f53 [1, 1, 0, 1, 0, 0]) nm0_impl_ValidSegments (kt0_impl_ValidSegments (fin_impl_ValidSegments s0Trial s0Safe s0New s0Old kk)) n (can0_impl_ValidSegments s0New s0Old s0Safe s0Trial xt21 xt22)) = L0_impl_ValidSegments s0New s0Old s0Safe s0Trial xt21 (fun r0 => kk (.one (.c (.v (.bool r0)))) []) n := by
      funext xt22; exact ih xt22
    rw [hb]
    rfl
theorem g_impl_ValidSegments (s0Trial : Int) (s0Safe : Int) (s0New : List Int) (s0Old : List Int) (kk : AV → List A1 → Prop) :
    ev TT cs_impl_ValidSegments 31 an_impl_ValidSegments (Try.f53.body.getD .skip) (st0 con_impl_ValidSegments [.agg [.v (.int .i64 s0Trial), .v (.int .i64 s0Safe), .ro .int s0New, .ro .int s0Old]]) (fin TT con_impl_ValidSegments Try.f53.results.toList [.c .sc] [.agg [.v (.int .i64 s0Trial), .v (.int .i64 s0Safe), .ro .int s0New, .ro .int s0Old]] kk) = G_impl_ValidSegments s0Trial s0Safe s0New s0Old (fun r0 => kk (.one (.c (.v (.bool r0)))) []) (fun s0New s0Old s0Safe s0Trial xt21 xt22 => ∃ j, iter (evF TT cs_impl_ValidSegments 31 an_impl_ValidSegments Try.f53 [1, 1, 0, 1, 0, 0]) nm0_impl_ValidSegments (kt0_impl_ValidSegments (fin_impl_ValidSegments s0Trial s0Safe s0New s0Old kk)) j (can0_impl_ValidSegments s0New s0Old s0Safe s0Trial xt21 xt22)) := by kernel_rfl
theorem e_impl_ValidSegments (s0Trial : Int) (s0Safe : Int) (s0New : List Int) (s0Old : List Int) (kk : AV → List A1 → Prop) :
    ev TT cs_impl_ValidSegments 31 an_impl_ValidSegments (Try.f53.body.getD .skip) (st0 con_impl_ValidSegments [.agg [.v (.int .i64 s0Trial), .v (.int .i64 s0Safe), .ro .int s0New, .ro .int s0Old]]) (fin TT con_impl_ValidSegments Try.f53.results.toList [.c .sc] [.agg [.v (.int .i64 s0Trial), .v (.int .i64 s0Safe), .ro .int s0New, .ro .int s0Old]] kk) = S_impl_ValidSegments s0Trial s0Safe s0New s0Old (fun r0 => kk (.one (.c (.v (.bool r0)))) []) := by
  rw [g_impl_ValidSegments]
  have hi0 : (fun s0New s0Old s0Safe s0Trial xt21 xt22 => ∃ j, iter (evF TT cs_impl_ValidSegments 31 an_impl_ValidSegments Try.f53 [1, 1, 0, 1, 0, 0]) nm0_impl_ValidSegments (kt0_impl_ValidSegments (fin_impl_ValidSegments s0Trial s0Safe s0New s0Old kk)) j (can0_impl_ValidSegments s0New s0Old s0Safe s0Trial xt21 xt22)) = (fun s0New s0Old s0Safe s0Trial xt21 xt22 => ∃ n, L0_impl_ValidSegments s0New s0Old s0Safe s0Trial xt21 (fun r0 => kk (.one (.c (.v (.bool r0)))) []) n xt22) := by
    funext s0New s0Old s0Safe s0Trial xt21 xt22
    refine congrArg Exists (funext fun j => ?_)
    rw [l0_impl_ValidSegments s0Trial s0Safe s0New s0Old xt21 kk j xt22]
  rw [hi0]
  rfl
theorem cok_impl_ValidSegments : ConsOK Try.prog cs_impl_ValidSegments := consCons h_impl_ValidKeys ⟨Try.f33, Try.func33, by kernel_rfl, ne_of_beq (by kernel_rfl)⟩ (consCons h_slices_Contains_sint_int ⟨Try.f60, Try.func60, by kernel_rfl, ne_of_beq (by kernel_rfl)⟩ (consNil))
theorem i_impl_ValidSegments {vs : List A1} {kk : AV → List A1 → Prop} {motive : List A1 → Prop} (h : con_impl_ValidSegments.F vs kk) (H : ∀ (s0Trial : Int) (s0Safe : Int) (s0New : List Int) (s0Old : List Int), F_impl_ValidSegments s0Trial s0Safe s0New s0Old (fun r0 => kk (.one (.c (.v (.bool r0)))) []) → motive [.agg [.v (.int .i64 s0Trial), .v (.int .i64 s0Safe), .ro .int s0New, .ro .int s0Old]]) : motive vs := by
  unfold con_impl_ValidSegments at h
  dsimp only at h
  split at h
  · exact H _ _ _ _ h
  · exact h.elim
theorem h_impl_ValidSegments : Holds Try.prog 53 con_impl_ValidSegments := by
  refine holds_of_ev (rt := [.c .sc]) (T := TT) (Γ := cs_impl_ValidSegments) (an := an_impl_ValidSegments) (N := 31) (c := Try.f53.body.getD .skip) Try.func53 (by kernel_rfl) Try.ntmps53 (by decide) (by decide) mixed tabOK cok_impl_ValidSegments (by kernel_rfl) ?_
  intro vs kk _ hF
  exact i_impl_ValidSegments (motive := fun vs => Goes (ev TT cs_impl_ValidSegments 31 an_impl_ValidSegments (Try.f53.body.getD .skip) (st0 con_impl_ValidSegments vs) (fin TT con_impl_ValidSegments Try.f53.results.toList [.c .sc] vs kk))) hF (fun s0Trial s0Safe s0New s0Old hF => goes_of (e_impl_ValidSegments s0Trial s0Safe s0New s0Old kk) (F_impl_ValidSegments_S hF))
def con_impl_KeysOf : Con := ⟨[.rd], true, [.agg [.sc, .sc, .sl .int, .sl .int]], fun vs k => match vs with
    | [.agg [.v (.int .i64 s0Trial), .v (.int .i64 s0Safe), .ro .int s0New, .ro .int s0Old]] => F_impl_KeysOf s0Trial s0Safe s0New s0Old (fun r0 => k (.one (.c (.ro .int r0))) [])
    | _ => False, false⟩
def cs_impl_KeysOf : Cons := [(53, con_impl_ValidSegments)]
def an_impl_KeysOf : Ann := ⟨[], []⟩
def fin_impl_KeysOf (s0Trial : Int) (s0Safe : Int) (s0New : List Int) (s0Old : List Int) (kk : AV → List A1 → Prop) : Kt := fin TT con_impl_KeysOf Try.f26.results.toList [.c (.sl .int)] [.agg [.v (.int .i64 s0Trial), .v (.int .i64 s0Safe), .ro .int s0New, .ro .int s0Old]] kk
theorem g_impl_KeysOf (s0Trial : Int) (s0Safe : Int) (s0New : List Int) (s0Old : List Int) (kk : AV → List A1 → Prop) :
    ev TT cs_impl_KeysOf 15 an_impl_KeysOf (Try.f26.body.getD .skip) (st0 con_impl_KeysOf [.agg [.v (.int .i64 s0Trial), .v (.int .i64 s0Safe), .ro .int s0New, .ro .int s0Old]]) (fin TT con_impl_KeysOf Try.f26.results.toList [.c (.sl .int)] [.agg [.v (.int .i64 s0Trial), .v (.int .i64 s0Safe), .ro .int s0New, .ro .int s0Old]] kk) = G_impl_KeysOf s0Trial s0Safe s0New s0Old (fun r0 => kk (.one (.c (.ro .int r0))) []) := by kernel_rfl
theorem e_impl_KeysOf (s0Trial : Int) (s0Safe : Int) (s0New : List Int) (s0Old : List Int) (kk : AV → List A1 → Prop) :
    ev TT cs_impl_KeysOf 15 an_impl_KeysOf (Try.f26.body.getD .skip) (st0 con_impl_KeysOf [.agg [.v (.int .i64 s0Trial), .v (.int .i64 s0Safe), .ro .int s0New, .ro .int s0Old]]) (fin TT con_impl_KeysOf Try.f26.results.toList [.c (.sl .int)] [.agg [.v (.int .i64 s0Trial), .v (.int .i64 s0Safe), .ro .int s0New, .ro .int s0Old]] kk) = S_impl_KeysOf s0Trial s0Safe s0New s0Old (fun r0 => kk (.one (.c (.ro .int r0))) []) := by
  rw [g_impl_KeysOf]
  rfl
theorem cok_impl_KeysOf : ConsOK Try.prog cs_impl_KeysOf := consCons h_impl_ValidSegments ⟨Try.f53, Try.func53, by kernel_rfl, ne_of_beq (by kernel_rfl)⟩ (consNil)
theorem i_impl_KeysOf {vs : List A1} {kk : AV → List A1 → Prop} {motive : List A1 → Prop} (h : con_impl_KeysOf.F vs kk) (H : ∀ (s0Trial : Int) (s0Safe : Int) (s0New : List Int) (s0Old : List Int), F_impl_KeysOf s0Trial s0Safe s0New s0Old (fun r0 => kk (.one (.c (.ro .int r0))) []) → motive [.agg [.v (.int .i64 s0Trial), .v (.int .i64 s0Safe), .ro .int s0New, .ro .int s0Old]]) : motive vs := by
  unfold con_impl_KeysOf at h
  dsimp only at h
  split at h
  · exact H _ _ _ _ h
  · exact h.elim
theorem h_impl_KeysOf : Holds Try.prog 26 con_impl_KeysOf := by
  refine holds_of_ev (rt := [.c (.sl .int)]) (T := TT) (Γ := cs_impl_KeysOf) (an := an_impl_KeysOf) (N := 15) (c := Try.f26.body.getD .skip) Try.func26 (by kernel_rfl) Try.ntmps26 (by decide) (by decide) mixed tabOK cok_impl_KeysOf (by kernel_rfl) ?_
  intro vs kk _ hF
  exact i_impl_KeysOf (motive := fun vs => Goes (ev TT cs_impl_KeysOf 15 an_impl_KeysOf (Try.f26.body.getD .skip) (st0 con_impl_KeysOf vs) (fin TT con_impl_KeysOf Try.f26.results.toList [.c (.sl .int)] vs kk))) hF (fun s0Trial s0Safe s0New s0Old hF => goes_of (e_impl_KeysOf s0Trial s0Safe s0New s0Old kk) (F_impl_KeysOf_S hF))
def con_laws_eqIntS : Con := ⟨[.rd, .rd], true, [.c (.sl .int), .c (.sl .int)], fun vs k => match vs with
    | [.c (.ro .int a0), .c (.ro .int b1)] => F_laws_eqIntS a0 b1 (fun r0 => k (.one (.c (.v (.bool r0)))) [])
    | _ => False, false⟩
def cs_laws_eqIntS : Cons := []
def nm0_laws_eqIntS : List NStep := [.keep [0, 1, 5] []]
def an_laws_eqIntS : Ann := ⟨[(6, .take 0 (.take 1 (.take 2 (.take 3 (.take 4 (.take 5 (.take 6 (.take 7 (.take 8 (.done))))))))), [])], [(4, nm0_laws_eqIntS)]⟩
def can0_laws_eqIntS (a0 : List Int) (b1 : List Int) (xi5 : Int) : St := ⟨[(0, .one (.c (.ro .int a0))), (1, .one (.c (.ro .int b1))), (5, .one (.c (.v (.int .i64 xi5))))], []⟩
def fin_laws_eqIntS (a0 : List Int) (b1 : List Int) (kk : AV → List A1 → Prop) : Kt := fin TT con_laws_eqIntS Try.f19.results.toList [.c .sc] [.c (.ro .int a0), .c (.ro .int b1)] kk
def kt0_laws_eqIntS (kf : Kt) : Kt := blockK 0 (seqK (evF TT cs_laws_eqIntS 26 an_laws_eqIntS Try.f19 [1, 1, 1]) (kf))
theorem r0_laws_eqIntS (a0 : List Int) (b1 : List Int) (kk : AV → List A1 → Prop) (n : Nat) (xi5 : Int) :
    iter (evF TT cs_laws_eqIntS 26 an_laws_eqIntS Try.f19 [1, 1, 0, 1, 0, 0]) nm0_laws_eqIntS (kt0_laws_eqIntS (fin_laws_eqIntS a0 b1 kk)) (n + 1) (can0_laws_eqIntS a0 b1 xi5) = T0_laws_eqIntS a0 b1 xi5 (fun r0 => kk (.one (.c (.v (.bool r0)))) []) (fun xi5 => iter (evF TT cs_laws_eqIntS 26 an_laws_eqIntS Try.f19 [1, 1, 0, 1, 0, 0]) nm0_laws_eqIntS (kt0_laws_eqIntS (fin_laws_eqIntS a0 b1 kk)) n (can0_laws_eqIntS a0 b1 xi5)) := by kernel_rfl
theorem l0_laws_eqIntS (a0 : List Int) (b1 : List Int) (kk : AV → List A1 → Prop) : ∀ (n : Nat) (xi5 : Int), iter (evF TT cs_laws_eqIntS 26 an_laws_eqIntS Try.f19 [1, 1, 0, 1, 0, 0]) nm0_laws_eqIntS (kt0_laws_eqIntS (fin_laws_eqIntS a0 b1 kk)) n (can0_laws_eqIntS a0 b1 xi5) = L0_laws_eqIntS a0 b1 (fun r0 => kk (.one (.c (.v (.bool r0)))) []) n xi5 := by
  intro n
  induction n with
  | zero => intros; rfl
  | succ n ih =>
    intro xi5
    rw [r0_laws_eqIntS a0 b1 kk n xi5]
    have hb : (fun xi5 => iter (evF TT cs_laws_eqIntS 26 an_laws_eqIntS Try.f19 [1, 1, 0, 1, 0, 0]) nm0_laws_eqIntS (kt0_laws_eqIntS (fin_laws_eqIntS a0 b1 kk)) n (can0_laws_eqIntS a0 b1 xi5)) = L0_laws_eqIntS a0 b1 (fun r0 => kk (.one (.c (.v (.bool r0)))) []) n := by
      funext xi5; exact ih xi5
    rw [hb]
    rfl
theorem g_laws_eqIntS (a0 : List Int) (b1 : List Int) (kk : AV → List A1 → Prop) :
    ev TT cs_laws_eqIntS 26 an_laws_eqIntS (Try.f19.body.getD .skip) (st0 con_laws_eqIntS [.c (.ro .int a0), .c (.ro .int b1)]) (fin TT con_laws_eqIntS Try.f19.results.toList [.c .sc] [.c (.ro .int a0), .c (.ro .int b1)] kk) = G_laws_eqIntS a0 b1 (fun r0 => kk (.one (.c (.v (.bool r0)))) []) (fun a0 b1 xi5 => ∃ j, iter (evF TT cs_laws_eqIntS 26 an_laws_eqIntS Try.f19 [1, 1, 0, 1, 0, 0]) nm0_laws_eqIntS (kt0_laws_eqIntS (fin_laws_eqIntS a0 b1 kk)) j (can0_laws_eqIntS a0 b1 xi5)) := by kernel_rfl
theorem e_laws_eqIntS (a0 : List Int) (b1 : List Int) (kk : AV → List A1 → Prop) :
    ev TT cs_laws_eqIntS 26 an_laws_eqIntS (Try.f19.body.getD .skip) (st0 con_laws_eqIntS [.c (.ro .int a0), .c (.ro .int b1)]) (fin TT con_laws_eqIntS Try.f19.results.toList [.c .sc] [.c (.ro .int a0), .c (.ro .int b1)] kk) = S_laws_eqIntS a0 b1 (fun r0 => kk (.one (.c (.v (.bool r0)))) []) := by
  rw [g_laws_eqIntS]
  have hi0 : (fun a0 b1 xi5 => ∃ j, iter (evF TT cs_laws_eqIntS 26 an_laws_eqIntS Try.f19 [1, 1, 0, 1, 0, 0]) nm0_laws_eqIntS (kt0_laws_eqIntS (fin_laws_eqIntS a0 b1 kk)) j (can0_laws_eqIntS a0 b1 xi5)) = (fun a0 b1 xi5 => ∃ n, L0_laws_eqIntS a0 b1 (fun r0 => kk (.one (.c (.v (.bool r0)))) []) n xi5) := by
    funext a0 b1 xi5
    refine congrArg Exists (funext fun j => ?_)
    rw [l0_laws_eqIntS a0 b1 kk j xi5]
  rw [hi0]
  rfl
theorem cok_laws_eqIntS : ConsOK Try.prog cs_laws_eqIntS := consNil
theorem i_laws_eqIntS {vs : List A1} {kk : AV → List A1 → Prop} {motive : List A1 → Prop} (h : con_laws_eqIntS.F vs kk) (H : ∀ (a0 : List Int) (b1 : List Int), F_laws_eqIntS a0 b1 (fun r0 => kk (.one (.c (.v (.bool r0)))) []) → motive [.c (.ro .int a0), .c (.ro .int b1)]) : motive vs := by
  unfold con_laws_eqIntS at h
  dsimp only at h
  split at h
  · exact H _ _ h
  · exact h.elim
theorem h_laws_eqIntS : Holds Try.prog 19 con_laws_eqIntS := by
  refine holds_of_ev (rt := [.c .sc]) (T := TT) (Γ := cs_laws_eqIntS) (an := an_laws_eqIntS) (N := 26) (c := Try.f19.body.getD .skip) Try.func19 (by kernel_rfl) Try.ntmps19 (by decide) (by decide) mixed tabOK cok_laws_eqIntS (by kernel_rfl) ?_
  intro vs kk _ hF
  exact i_laws_eqIntS (motive := fun vs => Goes (ev TT cs_laws_eqIntS 26 an_laws_eqIntS (Try.f19.body.getD .skip) (st0 con_laws_eqIntS vs) (fin TT con_laws_eqIntS Try.f19.results.toList [.c .sc] vs kk))) hF (fun a0 b1 hF => goes_of (e_laws_eqIntS a0 b1 kk) (F_laws_eqIntS_S hF))
def con_laws_eqSegments : Con := ⟨[.rd, .rd], true, [.agg [.sc, .sc, .sl .int, .sl .int], .agg [.sc, .sc, .sl .int, .sl .int]], fun vs k => match vs with
    | [.agg [.v (.int .i64 a0Trial), .v (.int .i64 a0Safe), .ro .int a0New, .ro .int a0Old], .agg [.v (.int .i64 b1Trial), .v (.int .i64 b1Safe), .ro .int b1New, .ro .int b1Old]] => F_laws_eqSegments a0Trial a0Safe a0New a0Old b1Trial b1Safe b1New b1Old (fun r0 => k (.one (.c (.v (.bool r0)))) [])
    | _ => False, false⟩
def cs_laws_eqSegments : Cons := [(19, con_laws_eqIntS)]
def an_laws_eqSegments : Ann := ⟨[], []⟩
def fin_laws_eqSegments (a0Trial : Int) (a0Safe : Int) (a0New : List Int) (a0Old : List Int) (b1Trial : Int) (b1Safe : Int) (b1New : List Int) (b1Old : List Int) (kk : AV → List A1 → Prop) : Kt := fin TT con_laws_eqSegments Try.f18.results.toList [.c .sc] [.agg [.v (.int .i64 a0Trial), .v (.int .i64 a0Safe), .ro .int a0New, .ro .int a0Old], .agg [.v (.int .i64 b1Trial), .v (.int .i64 b1Safe), .ro .int b1New, .ro .int b1Old]] kk
theorem g_laws_eqSegments (a0Trial : Int) (a0Safe : Int) (a0New : List Int) (a0Old : List Int) (b1Trial : Int) (b1Safe : Int) (b1New : List Int) (b1Old : List Int) (kk : AV → List A1 → Prop) :
    ev TT cs_laws_eqSegments 27 an_laws_eqSegments (Try.f18.body.getD .skip) (st0 con_laws_eqSegments [.agg [.v (.int .i64 a0Trial), .v (.int .i64 a0Safe), .ro .int a0New, .ro .int a0Old], .agg [.v (.int .i64 b1Trial), .v (.int .i64 b1Safe), .ro .int b1New, .ro .int b1Old]]) (fin TT con_laws_eqSegments Try.f18.results.toList [.c .sc] [.agg [.v (.int .i64 a0Trial), .v (.int .i64 a0Safe), .ro .int a0New, .ro .int a0Old], .agg [.v (.int .i64 b1Trial), .v (.int .i64 b1Safe), .ro .int b1New, .ro .int b1Old]] kk) = G_laws_eqSegments a0Trial a0Safe a0New a0Old b1Trial b1Safe b1New b1Old (fun r0 => kk (.one (.c (.v (.bool r0)))) []) := by kernel_rfl
theorem e_laws_eqSegments (a0Trial : Int) (a0Safe : Int) (a0New : List Int) (a0Old : List Int) (b1Trial : Int) (b1Safe : Int) (b1New : List Int) (b1Old : List Int) (kk : AV → List A1 → Prop) :
    ev TT cs_laws_eqSegments 27 an_laws_eqSegments (Try.f18.body.getD .skip) (st0 con_laws_eqSegments [.agg [.v (.int .i64 a0Trial), .v (.int .i64 a0Safe), .ro .int a0New, .ro .int a0Old], .agg [.v (.int .i64 b1Trial), .v (.int .i64 b1Safe), .ro .int b1New, .ro .int b1Old]]) (fin TT con_laws_eqSegments Try.f18.results.toList [.c .sc] [.agg [.v (.int .i64 a0Trial), .v (.int .i64 a0Safe), .ro .int a0New, .ro .int a0Old], .agg [.v (.int .i64 b1Trial), .v (.int .i64 b1Safe), .ro .int b1New, .ro .int b1Old]] kk) = S_laws_eqSegments a0Trial a0Safe a0New a0Old b1Trial b1Safe b1New b1Old (fun r0 => kk (.one (.c (.v (.bool r0)))) []) := by
  rw [g_laws_eqSegments]
  rfl
theorem cok_laws_eqSegments : ConsOK Try.prog cs_laws_eqSegments := consCons h_laws_eqIntS ⟨Try.f19, Try.func19, by kernel_rfl, ne_of_beq (by kernel_rfl)⟩ (consNil)
theorem i_laws_eqSegments {vs : List A1} {kk : AV → List A1 → Prop} {motive : List A1 → Prop} (h : con_laws_eqSegments.F vs kk) (H : ∀ (a0Trial : Int) (a0Safe : Int) (a0New : List Int) (a0Old : List Int) (b1Trial : Int) (b1Safe : Int) (b1New : List Int) (b1Old : List Int), F_laws_eqSegments a0Trial a0Safe a0New a0Old b1Trial b1Safe b1New b1Old (fun r0 => kk (.one (.c (.v (.bool r0)))) []) → motive [.agg [.v (.int .i64 a0Trial), .v (.int .i64 a0Safe), .ro .int a0New, .ro .int a0Old], .agg [.v (.int .i64 b1Trial), .v (.int .i64 b1Safe), .ro .int b1New, .ro .int b1Old]]) : motive vs := by
  unfold con_laws_eqSegments at h
  dsimp only at h
  split at h
  · exact H _ _ _ _ _ _ _ _ h
  · exact h.elim
theorem h_laws_eqSegments : Holds Try.prog 18 con_laws_eqSegments := by
  refine holds_of_ev (rt := [.c .sc]) (T := TT) (Γ := cs_laws_eqSegments) (an := an_laws_eqSegments) (N := 27) (c := Try.f18.body.getD .skip) Try.func18 (by kernel_rfl) Try.ntmps18 (by decide) (by decide) mixed tabOK cok_laws_eqSegments (by kernel_rfl) ?_
  intro vs kk _ hF
  exact i_laws_eqSegments (motive := fun vs => Goes (ev TT cs_laws_eqSegments 27 an_laws_eqSegments (Try.f18.body.getD .skip) (st0 con_laws_eqSegments vs) (fin TT con_laws_eqSegments Try.f18.results.toList [.c .sc] vs kk))) hF (fun a0Trial a0Safe a0New a0Old b1Trial b1Safe b1New b1Old hF => goes_of (e_laws_eqSegments a0Trial a0Safe a0New a0Old b1Trial b1Safe b1New b1Old kk) (F_laws_eqSegments_S hF))
def con_laws_markIntS : Con := ⟨[.mu, .rd], true, [.c (.sl .int), .c .sc], fun vs k => match vs with
    | [.c (.ro .int a0), .c (.v (.int .i64 k1))] => F_laws_markIntS a0 k1 (fun r0 r1 => k (.one (.c (.v (.int .i64 r0)))) [.c (.ro .int r1)])
    | _ => False, false⟩
def cs_laws_markIntS : Cons := []
def nm0_laws_markIntS : List NStep := [.keep [0, 1, 5] [100000]]
def an_laws_markIntS : Ann := ⟨[], [(2, nm0_laws_markIntS)]⟩
def can0_laws_markIntS (xk1 : Int) (xi5 : Int) (xy100000 : List Int) : St := ⟨[(0, .one (.c (.ow 100000))), (1, .one (.c (.v (.int .i64 xk1)))), (5, .one (.c (.v (.int .i64 xi5))))], [(100000, .row .int xy100000)]⟩
def fin_laws_markIntS (a0 : List Int) (k1 : Int) (kk : AV → List A1 → Prop) : Kt := fin TT con_laws_markIntS Try.f20.results.toList [.c .sc] [.c (.ro .int a0), .c (.v (.int .i64 k1))] kk
def kt0_laws_markIntS (kf : Kt) : Kt := blockK 0 (seqK (evF TT cs_laws_markIntS 19 an_laws_markIntS Try.f20 [1, 1]) (kf))
theorem r0_laws_markIntS (a0 : List Int) (k1 : Int) (kk : AV → List A1 → Prop) (n : Nat) (xk1 : Int) (xi5 : Int) (xy100000 : List Int) :
    iter (evF TT cs_laws_markIntS 19 an_laws_markIntS Try.f20 [1, 0, 1, 0, 0]) nm0_laws_markIntS (kt0_laws_markIntS (fin_laws_markIntS a0 k1 kk)) (n + 1) (can0_laws_markIntS xk1 xi5 xy100000) = T0_laws_markIntS xk1 xi5 xy100000 (fun r0 r1 => kk (.one (.c (.v (.int .i64 r0)))) [.c (.ro .int r1)]) (fun xk1 xi5 xy100000 => iter (evF TT cs_laws_markIntS 19 an_laws_markIntS Try.f20 [1, 0, 1, 0, 0]) nm0_laws_markIntS (kt0_laws_markIntS (fin_laws_markIntS a0 k1 kk)) n (can0_laws_markIntS xk1 xi5 xy100000)) := by kernel_rfl
theorem l0_laws_markIntS (a0 : List Int) (k1 : Int) (kk : AV → List A1 → Prop) : ∀ (n : Nat) (xk1 : Int) (xi5 : Int) (xy100000 : List Int), iter (evF TT cs_laws_markIntS 19 an_laws_markIntS Try.f20 [1, 0, 1, 0, 0]) nm0_laws_markIntS (kt0_laws_markIntS (fin_laws_markIntS a0 k1 kk)) n (can0_laws_markIntS xk1 xi5 xy100000) = L0_laws_markIntS (fun r0 r1 => kk (.one (.c (.v (.int .i64 r0)))) [.c (.ro .int r1)]) n xk1 xi5 xy100000 := by
  intro n
  induction n with
  | zero => intros; rfl
  | succ n ih =>
    intro xk1 xi5 xy100000
    rw [r0_laws_markIntS a0 k1 kk n xk1 xi5 xy100000]
    have hb : (fun xk1 xi5 xy100000 => iter (evF TT cs_laws_markIntS 19 an_laws_markIntS Try.f20 [1, 0, 1, 0, 0]) nm0_laws_markIntS (kt0_laws_markIntS (fin_laws_markIntS a0 k1 kk)) n (can0_laws_markIntS xk1 xi5 xy100000)) = L0_laws_markIntS (fun r0 r1 => kk (.one (.c (.v (.int .i64 r0)))) [.c (.ro .int r1)]) n := by
      funext xk1 xi5 xy100000; exact ih xk1 xi5 xy100000
    rw [hb]
    rfl
theorem g_laws_markIntS (a0 : List Int) (k1 : Int) (kk : AV → List A1 → Prop) :
    ev TT cs_laws_markIntS 19 an_laws_markIntS (Try.f20.body.getD .skip) (st0 con_laws_markIntS [.c (.ro .int a0), .c (.v (.int .i64 k1))]) (fin TT con_laws_markIntS Try.f20.results.toList [.c .sc] [.c (.ro .int a0), .c (.v (.int .i64 k1))] kk) = G_laws_markIntS a0 k1 (fun xk1 xi5 xy100000 => ∃ j, iter (evF TT cs_laws_markIntS 19 an_laws_markIntS Try.f20 [1, 0, 1, 0, 0]) nm0_laws_markIntS (kt0_laws_markIntS (fin_laws_markIntS a0 k1 kk)) j (can0_laws_markIntS xk1 xi5 xy100000)) := by kernel_rfl
theorem e_laws_markIntS (a0 : List Int) (k1 : Int) (kk : AV → List A1 → Prop) :
    ev TT cs_laws_markIntS 19 an_laws_markIntS (Try.f20.body.getD .skip) (st0 con_laws_markIntS [.c (.ro .int a0), .c (.v (.int .i64 k1))]) (fin TT con_laws_markIntS Try.f20.results.toList [.c .sc] [.c (.ro .int a0), .c (.v (.int .i64 k1))] kk) = S_laws_markIntS a0 k1 (fun r0 r1 => kk (.one (.c (.v (.int .i64 r0)))) [.c (.ro .int r1)]) := by
  rw [g_laws_markIntS]
  have hi0 : (fun xk1 xi5 xy100000 => ∃ j, iter (evF TT cs_laws_markIntS 19 an_laws_markIntS Try.f20 [1, 0, 1, 0, 0]) nm0_laws_markIntS (kt0_laws_markIntS (fin_laws_markIntS a0 k1 kk)) j (can0_laws_markIntS xk1 xi5 xy100000)) = (fun xk1 xi5 xy100000 => ∃ n, L0_laws_markIntS (fun r0 r1 => kk (.one (.c (.v (.int .i64 r0)))) [.c (.ro .int r1)]) n xk1 xi5 xy100000) := by
    funext xk1 xi5 xy100000
    refine congrArg Exists (funext fun j => ?_)
    rw [l0_laws_markIntS a0 k1 kk j xk1 xi5 xy100000]
  rw [hi0]
  rfl
theorem cok_laws_markIntS : ConsOK Try.prog cs_laws_markIntS := consNil
theorem i_laws_markIntS {vs : List A1} {kk : AV → List A1 → Prop} {motive : List A1 → Prop} (h : con_laws_markIntS.F vs kk) (H : ∀ (a0 : List Int) (k1 : Int), F_laws_markIntS a0 k1 (fun r0 r1 => kk (.one (.c (.v (.int .i64 r0)))) [.c (.ro .int r1)]) → motive [.c (.ro .int a0), .c (.v (.int .i64 k1))]) : motive vs := by
  unfold con_laws_markIntS at h
  dsimp only at h
  split at h
  · exact H _ _ h
  · exact h.elim
theorem h_laws_markIntS : Holds Try.prog 20 con_laws_markIntS := by
  refine holds_of_ev (rt := [.c .sc]) (T := TT) (Γ := cs_laws_markIntS) (an := an_laws_markIntS) (N := 19) (c := Try.f20.body.getD .skip) Try.func20 (by kernel_rfl) Try.ntmps20 (by decide) (by decide) mixed tabOK cok_laws_markIntS (by kernel_rfl) ?_
  intro vs kk _ hF
  exact i_laws_markIntS (motive := fun vs => Goes (ev TT cs_laws_markIntS 19 an_laws_markIntS (Try.f20.body.getD .skip) (st0 con_laws_markIntS vs) (fin TT con_laws_markIntS Try.f20.results.toList [.c .sc] vs kk))) hF (fun a0 k1 hF => goes_of (e_laws_markIntS a0 k1 kk) (F_laws_markIntS_S hF))
def con_laws_markSegments : Con := ⟨[.mu, .rd], true, [.agg [.sc, .sc, .sl .int, .sl .int], .c .sc], fun vs k => match vs with
    | [.agg [.v (.int .i64 a0Trial), .v (.int .i64 a0Safe), .ro .int a0New, .ro .int a0Old], .c (.v (.int .i64 k1))] => F_laws_markSegments a0Trial a0Safe a0New a0Old k1 (fun r0 r1 r2 => k (.one (.c (.v (.int .i64 r0)))) [.agg [.v (.int .i64 a0Trial), .v (.int .i64 a0Safe), .ro .int r1, .ro .int r2]])
    | _ => False, false⟩
def cs_laws_markSegments : Cons := [(20, con_laws_markIntS)]
def an_laws_markSegments : Ann := ⟨[], []⟩
def fin_laws_markSegments (a0Trial : Int) (a0Safe : Int) (a0New : List Int) (a0Old : List Int) (k1 : Int) (kk : AV → List A1 → Prop) : Kt := fin TT con_laws_markSegments Try.f21.results.toList [.c .sc] [.agg [.v (.int .i64 a0Trial), .v (.int .i64 a0Safe), .ro .int a0New, .ro .int a0Old], .c (.v (.int .i64 k1))] kk
theorem g_laws_markSegments (a0Trial : Int) (a0Safe : Int) (a0New : List Int) (a0Old : List Int) (k1 : Int) (kk : AV → List A1 → Prop) :
    ev TT cs_laws_markSegments 14 an_laws_markSegments (Try.f21.body.getD .skip) (st0 con_laws_markSegments [.agg [.v (.int .i64 a0Trial), .v (.int .i64 a0Safe), .ro .int a0New, .ro .int a0Old], .c (.v (.int .i64 k1))]) (fin TT con_laws_markSegments Try.f21.results.toList [.c .sc] [.agg [.v (.int .i64 a0Trial), .v (.int .i64 a0Safe), .ro .int a0New, .ro .int a0Old], .c (.v (.int .i64 k1))] kk) = G_laws_markSegments a0Trial a0Safe a0New a0Old k1 (fun r0 r1 r2 => kk (.one (.c (.v (.int .i64 r0)))) [.agg [.v (.int .i64 a0Trial), .v (.int .i64 a0Safe), .ro .int r1, .ro .int r2]]) := by kernel_rfl
theorem e_laws_markSegments (a0Trial : Int) (a0Safe : Int) (a0New : List Int) (a0Old : List Int) (k1 : Int) (kk : AV → List A1 → Prop) :
    ev TT cs_laws_markSegments 14 an_laws_markSegments (Try.f21.body.getD .skip) (st0 con_laws_markSegments [.agg [.v (.int .i64 a0Trial), .v (.int .i64 a0Safe), .ro .int a0New, .ro .int a0Old], .c (.v (.int .i64 k1))]) (fin TT con_laws_markSegments Try.f21.results.toList [.c .sc] [.agg [.v (.int .i64 a0Trial), .v (.int .i64 a0Safe), .ro .int a0New, .ro .int a0Old], .c (.v (.int .i64 k1))] kk) = S_laws_markSegments a0Trial a0Safe a0New a0Old k1 (fun r0 r1 r2 => kk (.one (.c (.v (.int .i64 r0)))) [.agg [.v (.int .i64 a0Trial), .v (.int .i64 a0Safe), .ro .int r1, .ro .int r2]]) := by
  rw [g_laws_markSegments]
  rfl
theorem cok_laws_markSegments : ConsOK Try.prog cs_laws_markSegments := consCons h_laws_markIntS ⟨Try.f20, Try.func20, by kernel_rfl, ne_of_beq (by kernel_rfl)⟩ (consNil)
theorem i_laws_markSegments {vs : List A1} {kk : AV → List A1 → Prop} {motive : List A1 → Prop} (h : con_laws_markSegments.F vs kk) (H : ∀ (a0Trial : Int) (a0Safe : Int) (a0New : List Int) (a0Old : List Int) (k1 : Int), F_laws_markSegments a0Trial a0Safe a0New a0Old k1 (fun r0 r1 r2 => kk (.one (.c (.v (.int .i64 r0)))) [.agg [.v (.int .i64 a0Trial), .v (.int .i64 a0Safe), .ro .int r1, .ro .int r2]]) → motive [.agg [.v (.int .i64 a0Trial), .v (.int .i64 a0Safe), .ro .int a0New, .ro .int a0Old], .c (.v (.int .i64 k1))]) : motive vs := by
  unfold con_laws_markSegments at h
  dsimp only at h
  split at h
  · exact H _ _ _ _ _ h
  · exact h.elim
theorem h_laws_markSegments : Holds Try.prog 21 con_laws_markSegments := by
  refine holds_of_ev (rt := [.c .sc]) (T := TT) (Γ := cs_laws_markSegments) (an := an_laws_markSegments) (N := 14) (c := Try.f21.body.getD .skip) Try.func21 (by kernel_rfl) Try.ntmps21 (by decide) (by decide) mixed tabOK cok_laws_markSegments (by kernel_rfl) ?_
  intro vs kk _ hF
  exact i_laws_markSegments (motive := fun vs => Goes (ev TT cs_laws_markSegments 14 an_laws_markSegments (Try.f21.body.getD .skip) (st0 con_laws_markSegments vs) (fin TT con_laws_markSegments Try.f21.results.toList [.c .sc] vs kk))) hF (fun a0Trial a0Safe a0New a0Old k1 hF => goes_of (e_laws_markSegments a0Trial a0Safe a0New a0Old k1 kk) (F_laws_markSegments_S hF))
def con_laws_heldIntS : Con := ⟨[.rd, .rd], true, [.c (.sl .int), .c .sc], fun vs k => match vs with
    | [.c (.ro .int a0), .c (.v (.int .i64 k1))] => F_laws_heldIntS a0 k1 (fun r0 => k (.one (.c (.v (.int .i64 r0)))) [])
    | _ => False, false⟩
def cs_laws_heldIntS : Cons := []
def nm0_laws_heldIntS : List NStep := [.keep [0, 1, 5] []]
def an_laws_heldIntS : Ann := ⟨[], [(2, nm0_laws_heldIntS)]⟩
def can0_laws_heldIntS (a0 : List Int) (xk1 : Int) (xi5 : Int) : St := ⟨[(0, .one (.c (.ro .int a0))), (1, .one (.c (.v (.int .i64 xk1)))), (5, .one (.c (.v (.int .i64 xi5))))], []⟩
def fin_laws_heldIntS (a0 : List Int) (k1 : Int) (kk : AV → List A1 → Prop) : Kt := fin TT con_laws_heldIntS Try.f27.results.toList [.c .sc] [.c (.ro .int a0), .c (.v (.int .i64 k1))] kk
def kt0_laws_heldIntS (kf : Kt) : Kt := blockK 0 (seqK (evF TT cs_laws_heldIntS 21 an_laws_heldIntS Try.f27 [1, 1]) (kf))
theorem r0_laws_heldIntS (a0 : List Int) (k1 : Int) (kk : AV → List A1 → Prop) (n : Nat) (xk1 : Int) (xi5 : Int) :
    iter (evF TT cs_laws_heldIntS 21 an_laws_heldIntS Try.f27 [1, 0, 1, 0, 0]) nm0_laws_heldIntS (kt0_laws_heldIntS (fin_laws_heldIntS a0 k1 kk)) (n + 1) (can0_laws_heldIntS a0 xk1 xi5) = T0_laws_heldIntS a0 xk1 xi5 (fun r0 => kk (.one (.c (.v (.int .i64 r0)))) []) (fun xk1 xi5 => iter (evF TT cs_laws_heldIntS 21 an_laws_heldIntS Try.f27 [1, 0, 1, 0, 0]) nm0_laws_heldIntS (kt0_laws_heldIntS (fin_laws_heldIntS a0 k1 kk)) n (can0_laws_heldIntS a0 xk1 xi5)) := by kernel_rfl
theorem l0_laws_heldIntS (a0 : List Int) (k1 : Int) (kk : AV → List A1 → Prop) : ∀ (n : Nat) (xk1 : Int) (xi5 : Int), iter (evF TT cs_laws_heldIntS 21 an_laws_heldIntS Try.f27 [1, 0, 1, 0, 0]) nm0_laws_heldIntS (kt0_laws_heldIntS (fin_laws_heldIntS a0 k1 kk)) n (can0_laws_heldIntS a0 xk1 xi5) = L0_laws_heldIntS a0 (fun r0 => kk (.one (.c (.v (.int .i64 r0)))) []) n xk1 xi5 := by
  intro n
  induction n with
  | zero => intros; rfl
  | succ n ih =>
    intro xk1 xi5
    rw [r0_laws_heldIntS a0 k1 kk n xk1 xi5]
    have hb : (fun xk1 xi5 => iter (evF TT cs_laws_heldIntS 21 an_laws_heldIntS Try.f27 [1, 0, 1, 0, 0]) nm0_laws_heldIntS (kt0_laws_heldIntS (fin_laws_heldIntS a0 k1 kk)) n (can0_laws_heldIntS a0 xk1 xi5)) = L0_laws_heldIntS a0 (fun r0 => kk (.one (.c (.v (.int .i64 r0)))) []) n := by
      funext xk1 xi5; exact ih xk1 xi5
    rw [hb]
    rfl
theorem g_laws_heldIntS (a0 : List Int) (k1 : Int) (kk : AV → List A1 → Prop) :
    ev TT cs_laws_heldIntS 21 an_laws_heldIntS (Try.f27.body.getD .skip) (st0 con_laws_heldIntS [.c (.ro .int a0), .c (.v (.int .i64 k1))]) (fin TT con_laws_heldIntS Try.f27.results.toList [.c .sc] [.c (.ro .int a0), .c (.v (.int .i64 k1))] kk) = G_laws_heldIntS a0 k1 (fun a0 xk1 xi5 => ∃ j, iter (evF TT cs_laws_heldIntS 21 an_laws_heldIntS Try.f27 [1, 0, 1, 0, 0]) nm0_laws_heldIntS (kt0_laws_heldIntS (fin_laws_heldIntS a0 k1 kk)) j (can0_laws_heldIntS a0 xk1 xi5)) := by kernel_rfl
theorem e_laws_heldIntS (a0 : List Int) (k1 : Int) (kk : AV → List A1 → Prop) :
    ev TT cs_laws_heldIntS 21 an_laws_heldIntS (Try.f27.body.getD .skip) (st0 con_laws_heldIntS [.c (.ro .int a0), .c (.v (.int .i64 k1))]) (fin TT con_laws_heldIntS Try.f27.results.toList [.c .sc] [.c (.ro .int a0), .c (.v (.int .i64 k1))] kk) = S_laws_heldIntS a0 k1 (fun r0 => kk (.one (.c (.v (.int .i64 r0)))) []) := by
  rw [g_laws_heldIntS]
  have hi0 : (fun a0 xk1 xi5 => ∃ j, iter (evF TT cs_laws_heldIntS 21 an_laws_heldIntS Try.f27 [1, 0, 1, 0, 0]) nm0_laws_heldIntS (kt0_laws_heldIntS (fin_laws_heldIntS a0 k1 kk)) j (can0_laws_heldIntS a0 xk1 xi5)) = (fun a0 xk1 xi5 => ∃ n, L0_laws_heldIntS a0 (fun r0 => kk (.one (.c (.v (.int .i64 r0)))) []) n xk1 xi5) := by
    funext a0 xk1 xi5
    refine congrArg Exists (funext fun j => ?_)
    rw [l0_laws_heldIntS a0 k1 kk j xk1 xi5]
  rw [hi0]
  rfl
theorem cok_laws_heldIntS : ConsOK Try.prog cs_laws_heldIntS := consNil
theorem i_laws_heldIntS {vs : List A1} {kk : AV → List A1 → Prop} {motive : List A1 → Prop} (h : con_laws_heldIntS.F vs kk) (H : ∀ (a0 : List Int) (k1 : Int), F_laws_heldIntS a0 k1 (fun r0 => kk (.one (.c (.v (.int .i64 r0)))) []) → motive [.c (.ro .int a0), .c (.v (.int .i64 k1))]) : motive vs := by
  unfold con_laws_heldIntS at h
  dsimp only at h
  split at h
  · exact H _ _ h
  · exact h.elim
theorem h_laws_heldIntS : Holds Try.prog 27 con_laws_heldIntS := by
  refine holds_of_ev (rt := [.c .sc]) (T := TT) (Γ := cs_laws_heldIntS) (an := an_laws_heldIntS) (N := 21) (c := Try.f27.body.getD .skip) Try.func27 (by kernel_rfl) Try.ntmps27 (by decide) (by decide) mixed tabOK cok_laws_heldIntS (by kernel_rfl) ?_
  intro vs kk _ hF
  exact i_laws_heldIntS (motive := fun vs => Goes (ev TT cs_laws_heldIntS 21 an_laws_heldIntS (Try.f27.body.getD .skip) (st0 con_laws_heldIntS vs) (fin TT con_laws_heldIntS Try.f27.results.toList [.c .sc] vs kk))) hF (fun a0 k1 hF => goes_of (e_laws_heldIntS a0 k1 kk) (F_laws_heldIntS_S hF))
def con_laws_FnExactKeysOf : Con := ⟨[.rd], true, [.agg [.sc, .sc, .sl .int, .sl .int]], fun vs k => match vs with
    | [.agg [.v (.int .i64 aS0Trial), .v (.int .i64 aS0Safe), .ro .int aS0New, .ro .int aS0Old]] => F_laws_FnExactKeysOf aS0Trial aS0Safe aS0New aS0Old (fun r0 => k (.one (.c (.v (.bool r0)))) [])
    | _ => False, false⟩
def cs_laws_FnExactKeysOf : Cons := [(18, con_laws_eqSegments), (19, con_laws_eqIntS), (20, con_laws_markIntS), (21, con_laws_markSegments), (23, con_laws_szSegments), (24, con_spec_KeysOf), (25, con_laws_toSegments), (26, con_impl_KeysOf), (27, con_laws_heldIntS)]
def an_laws_FnExactKeysOf : Ann := ⟨[(10, .take 0 (.take 1 (.alt 2 (.alt 3 (.take 4 (.done)) (.none)) (.none))), [16, 80])], []⟩
def fin_laws_FnExactKeysOf (aS0Trial : Int) (aS0Safe : Int) (aS0New : List Int) (aS0Old : List Int) (kk : AV → List A1 → Prop) : Kt := fin TT con_laws_FnExactKeysOf Try.f4.results.toList [.c .sc] [.agg [.v (.int .i64 aS0Trial), .v (.int .i64 aS0Safe), .ro .int aS0New, .ro .int aS0Old]] kk
theorem g_laws_FnExactKeysOf (aS0Trial : Int) (aS0Safe : Int) (aS0New : List Int) (aS0Old : List Int) (kk : AV → List A1 → Prop) :
    ev TT cs_laws_FnExactKeysOf 69 an_laws_FnExactKeysOf (Try.f4.body.getD .skip) (st0 con_laws_FnExactKeysOf [.agg [.v (.int .i64 aS0Trial), .v (.int .i64 aS0Safe), .ro .int aS0New, .ro .int aS0Old]]) (fin TT con_laws_FnExactKeysOf Try.f4.results.toList [.c .sc] [.agg [.v (.int .i64 aS0Trial), .v (.int .i64 aS0Safe), .ro .int aS0New, .ro .int aS0Old]] kk) = G_laws_FnExactKeysOf aS0Trial aS0Safe aS0New aS0Old (fun r0 => kk (.one (.c (.v (.bool r0)))) []) := by kernel_rfl
theorem e_laws_FnExactKeysOf (aS0Trial : Int) (aS0Safe : Int) (aS0New : List Int) (aS0Old : List Int) (kk : AV → List A1 → Prop) :
    ev TT cs_laws_FnExactKeysOf 69 an_laws_FnExactKeysOf (Try.f4.body.getD .skip) (st0 con_laws_FnExactKeysOf [.agg [.v (.int .i64 aS0Trial), .v (.int .i64 aS0Safe), .ro .int aS0New, .ro .int aS0Old]]) (fin TT con_laws_FnExactKeysOf Try.f4.results.toList [.c .sc] [.agg [.v (.int .i64 aS0Trial), .v (.int .i64 aS0Safe), .ro .int aS0New, .ro .int aS0Old]] kk) = S_laws_FnExactKeysOf aS0Trial aS0Safe aS0New aS0Old (fun r0 => kk (.one (.c (.v (.bool r0)))) []) := by
  rw [g_laws_FnExactKeysOf]
  rw [G_laws_FnExactKeysOf_eq]
  rfl
theorem cok_laws_FnExactKeysOf : ConsOK Try.prog cs_laws_FnExactKeysOf := consCons h_laws_eqSegments ⟨Try.f18, Try.func18, by kernel_rfl, ne_of_beq (by kernel_rfl)⟩ (consCons h_laws_eqIntS ⟨Try.f19, Try.func19, by kernel_rfl, ne_of_beq (by kernel_rfl)⟩ (consCons h_laws_markIntS ⟨Try.f20, Try.func20, by kernel_rfl, ne_of_beq (by kernel_rfl)⟩ (consCons h_laws_markSegments ⟨Try.f21, Try.func21, by kernel_rfl, ne_of_beq (by kernel_rfl)⟩ (consCons h_laws_szSegments ⟨Try.f23, Try.func23, by kernel_rfl, ne_of_beq (by kernel_rfl)⟩ (consCons h_spec_KeysOf ⟨Try.f24, Try.func24, by kernel_rfl, ne_of_beq (by kernel_rfl)⟩ (consCons h_laws_toSegments ⟨Try.f25, Try.func25, by kernel_rfl, ne_of_beq (by kernel_rfl)⟩ (consCons h_impl_KeysOf ⟨Try.f26, Try.func26, by kernel_rfl, ne_of_beq (by kernel_rfl)⟩ (consCons h_laws_heldIntS ⟨Try.f27, Try.func27, by kernel_rfl, ne_of_beq (by kernel_rfl)⟩ (consNil)))))))))
theorem i_laws_FnExactKeysOf {vs : List A1} {kk : AV → List A1 → Prop} {motive : List A1 → Prop} (h : con_laws_FnExactKeysOf.F vs kk) (H : ∀ (aS0Trial : Int) (aS0Safe : Int) (aS0New : List Int) (aS0Old : List Int), F_laws_FnExactKeysOf aS0Trial aS0Safe aS0New aS0Old (fun r0 => kk (.one (.c (.v (.bool r0)))) []) → motive [.agg [.v (.int .i64 aS0Trial), .v (.int .i64 aS0Safe), .ro .int aS0New, .ro .int aS0Old]]) : motive vs := by
  unfold con_laws_FnExactKeysOf at h
  dsimp only at h
  split at h
  · exact H _ _ _ _ h
  · exact h.elim
theorem h_laws_FnExactKeysOf : Holds Try.prog 4 con_laws_FnExactKeysOf := by
  refine holds_of_ev (rt := [.c .sc]) (T := TT) (Γ := cs_laws_FnExactKeysOf) (an := an_laws_FnExactKeysOf) (N := 69) (c := Try.f4.body.getD .skip) Try.func4 (by kernel_rfl) Try.ntmps4 (by decide) (by decide) mixed tabOK cok_laws_FnExactKeysOf (by kernel_rfl) ?_
  intro vs kk _ hF
  exact i_laws_FnExactKeysOf (motive := fun vs => Goes (ev TT cs_laws_FnExactKeysOf 69 an_laws_FnExactKeysOf (Try.f4.body.getD .skip) (st0 con_laws_FnExactKeysOf vs) (fin TT con_laws_FnExactKeysOf Try.f4.results.toList [.c .sc] vs kk))) hF (fun aS0Trial aS0Safe aS0New aS0Old hF => goes_of (e_laws_FnExactKeysOf aS0Trial aS0Safe aS0New aS0Old kk) (F_laws_FnExactKeysOf_S hF))
end Go.Ev
