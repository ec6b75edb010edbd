/- What the evaluator gives for these functions: their contracts. No statement is proved here. -/
import Derived.Test.YthdedjemjjcjhacFnExactCachedKeysP1
import Derived.Test.YthdedjemjjcjhacTt
namespace Go.Ev
set_option linter.unusedVariables false
set_option maxRecDepth 100000
open Go Go.Proofs
def con_laws_szIntS : Con := ⟨[.rd, .rd], true, [.c (.sl .int), .c (.sc)], fun vs k => match vs with
    | [.c (.ro .int a0), .c (.v (.int .i64 left1))] => F_laws_szIntS a0 left1 (fun r0 => k (.one (.c (.v (.int .i64 r0)))) [])
    | _ => False, false⟩
def cl_laws_szIntS : List (FuncId × Con) := []
def an_laws_szIntS : Ann := ⟨[], [], []⟩
def cs_laws_szIntS : Cons := ⟨cl_laws_szIntS, [], 0, [], []⟩
def fin_laws_szIntS (a0 : List Int) (left1 : Int) (kk : AV → List A1 → Prop) : Kt := fin TT con_laws_szIntS Try.f27.results.toList [.c .sc] [.c (.ro .int a0), .c (.v (.int .i64 left1))] kk
theorem g_laws_szIntS (a0 : List Int) (left1 : Int) (kk : AV → List A1 → Prop) :
    ev TT cs_laws_szIntS 12 an_laws_szIntS (Try.f27.body.getD .skip) (st0 con_laws_szIntS [.c (.ro .int a0), .c (.v (.int .i64 left1))]) (fin TT con_laws_szIntS Try.f27.results.toList [.c .sc] [.c (.ro .int a0), .c (.v (.int .i64 left1))] kk) = G_laws_szIntS a0 left1 (fun r0 => kk (.one (.c (.v (.int .i64 r0)))) []) := by kernel_rfl
theorem e_laws_szIntS (a0 : List Int) (left1 : Int) (kk : AV → List A1 → Prop) :
    ev TT cs_laws_szIntS 12 an_laws_szIntS (Try.f27.body.getD .skip) (st0 con_laws_szIntS [.c (.ro .int a0), .c (.v (.int .i64 left1))]) (fin TT con_laws_szIntS Try.f27.results.toList [.c .sc] [.c (.ro .int a0), .c (.v (.int .i64 left1))] kk) = S_laws_szIntS a0 left1 (fun r0 => kk (.one (.c (.v (.int .i64 r0)))) []) := by
  rw [g_laws_szIntS]
  rfl
theorem clok_laws_szIntS : ConOK Try.prog cl_laws_szIntS := consNil
theorem cok_laws_szIntS : ConsOK Try.prog 12 cs_laws_szIntS := ⟨clok_laws_szIntS, inlNil⟩
theorem i_laws_szIntS {vs : List A1} {kk : AV → List A1 → Prop} {motive : List A1 → Prop} (h : con_laws_szIntS.F vs kk) (H : ∀ (a0 : List Int) (left1 : Int), F_laws_szIntS a0 left1 (fun r0 => kk (.one (.c (.v (.int .i64 r0)))) []) → motive [.c (.ro .int a0), .c (.v (.int .i64 left1))]) : motive vs := by
  unfold con_laws_szIntS at h
  dsimp only at h
  split at h
  · exact H _ _ h
  · exact h.elim
theorem h_laws_szIntS : Holds Try.prog 27 con_laws_szIntS := by
  refine holds_of_ev (rt := [.c .sc]) (T := TT) (Γ := cs_laws_szIntS) (an := an_laws_szIntS) (N := 12) (c := Try.f27.body.getD .skip) Try.func27 (by kernel_rfl) Try.ntmps27 (by decide) (by decide) mixed tabOK cok_laws_szIntS (by kernel_rfl) ?_
  intro vs kk _ hF
  exact i_laws_szIntS (motive := fun vs => Goes (ev TT cs_laws_szIntS 12 an_laws_szIntS (Try.f27.body.getD .skip) (st0 con_laws_szIntS vs) (fin TT con_laws_szIntS Try.f27.results.toList [.c .sc] vs kk))) hF (fun a0 left1 hF => goes_of (e_laws_szIntS a0 left1 kk) (F_laws_szIntS_S hF))
def con_laws_szLists : Con := ⟨[.rd, .rd], true, [.agg [.sc, .sc, .sl .int, .sl .int, .sl .int, .sl .int], .c (.sc)], fun vs k => match vs with
    | [.agg [.v (.int .i64 a0Room), .v (.int .i64 a0Target), .ro .int a0Once, .ro .int a0Often, .ro .int a0WasOnce, .ro .int a0WasOften], .c (.v (.int .i64 left1))] => F_laws_szLists a0Room a0Target a0Once a0Often a0WasOnce a0WasOften left1 (fun r0 => k (.one (.c (.v (.int .i64 r0)))) [])
    | _ => False, false⟩
def cl_laws_szLists : List (FuncId × Con) := [(27, con_laws_szIntS)]
def an_laws_szLists : Ann := ⟨[], [], []⟩
def cs_laws_szLists : Cons := ⟨cl_laws_szLists, [], 0, [], []⟩
def fin_laws_szLists (a0Room : Int) (a0Target : Int) (a0Once : List Int) (a0Often : List Int) (a0WasOnce : List Int) (a0WasOften : List Int) (left1 : Int) (kk : AV → List A1 → Prop) : Kt := fin TT con_laws_szLists Try.f13.results.toList [.c .sc] [.agg [.v (.int .i64 a0Room), .v (.int .i64 a0Target), .ro .int a0Once, .ro .int a0Often, .ro .int a0WasOnce, .ro .int a0WasOften], .c (.v (.int .i64 left1))] kk
theorem g_laws_szLists (a0Room : Int) (a0Target : Int) (a0Once : List Int) (a0Often : List Int) (a0WasOnce : List Int) (a0WasOften : List Int) (left1 : Int) (kk : AV → List A1 → Prop) :
    ev TT cs_laws_szLists 30 an_laws_szLists (Try.f13.body.getD .skip) (st0 con_laws_szLists [.agg [.v (.int .i64 a0Room), .v (.int .i64 a0Target), .ro .int a0Once, .ro .int a0Often, .ro .int a0WasOnce, .ro .int a0WasOften], .c (.v (.int .i64 left1))]) (fin TT con_laws_szLists Try.f13.results.toList [.c .sc] [.agg [.v (.int .i64 a0Room), .v (.int .i64 a0Target), .ro .int a0Once, .ro .int a0Often, .ro .int a0WasOnce, .ro .int a0WasOften], .c (.v (.int .i64 left1))] kk) = G_laws_szLists a0Room a0Target a0Once a0Often a0WasOnce a0WasOften left1 (fun r0 => kk (.one (.c (.v (.int .i64 r0)))) []) := by kernel_rfl
theorem e_laws_szLists (a0Room : Int) (a0Target : Int) (a0Once : List Int) (a0Often : List Int) (a0WasOnce : List Int) (a0WasOften : List Int) (left1 : Int) (kk : AV → List A1 → Prop) :
    ev TT cs_laws_szLists 30 an_laws_szLists (Try.f13.body.getD .skip) (st0 con_laws_szLists [.agg [.v (.int .i64 a0Room), .v (.int .i64 a0Target), .ro .int a0Once, .ro .int a0Often, .ro .int a0WasOnce, .ro .int a0WasOften], .c (.v (.int .i64 left1))]) (fin TT con_laws_szLists Try.f13.results.toList [.c .sc] [.agg [.v (.int .i64 a0Room), .v (.int .i64 a0Target), .ro .int a0Once, .ro .int a0Often, .ro .int a0WasOnce, .ro .int a0WasOften], .c (.v (.int .i64 left1))] kk) = S_laws_szLists a0Room a0Target a0Once a0Often a0WasOnce a0WasOften left1 (fun r0 => kk (.one (.c (.v (.int .i64 r0)))) []) := by
  rw [g_laws_szLists]
  rfl
theorem clok_laws_szLists : ConOK Try.prog cl_laws_szLists := consCons h_laws_szIntS ⟨Try.f27, Try.func27, by kernel_rfl, ne_of_beq (by kernel_rfl)⟩ (consNil)
theorem cok_laws_szLists : ConsOK Try.prog 30 cs_laws_szLists := ⟨clok_laws_szLists, inlNil⟩
theorem i_laws_szLists {vs : List A1} {kk : AV → List A1 → Prop} {motive : List A1 → Prop} (h : con_laws_szLists.F vs kk) (H : ∀ (a0Room : Int) (a0Target : Int) (a0Once : List Int) (a0Often : List Int) (a0WasOnce : List Int) (a0WasOften : List Int) (left1 : Int), F_laws_szLists a0Room a0Target a0Once a0Often a0WasOnce a0WasOften left1 (fun r0 => kk (.one (.c (.v (.int .i64 r0)))) []) → motive [.agg [.v (.int .i64 a0Room), .v (.int .i64 a0Target), .ro .int a0Once, .ro .int a0Often, .ro .int a0WasOnce, .ro .int a0WasOften], .c (.v (.int .i64 left1))]) : motive vs := by
  unfold con_laws_szLists at h
  dsimp only at h
  split at h
  · exact H _ _ _ _ _ _ _ h
  · exact h.elim
theorem h_laws_szLists : Holds Try.prog 13 con_laws_szLists := by
  refine holds_of_ev (rt := [.c .sc]) (T := TT) (Γ := cs_laws_szLists) (an := an_laws_szLists) (N := 30) (c := Try.f13.body.getD .skip) Try.func13 (by kernel_rfl) Try.ntmps13 (by decide) (by decide) mixed tabOK cok_laws_szLists (by kernel_rfl) ?_
  intro vs kk _ hF
  exact i_laws_szLists (motive := fun vs => Goes (ev TT cs_laws_szLists 30 an_laws_szLists (Try.f13.body.getD .skip) (st0 con_laws_szLists vs) (fin TT con_laws_szLists Try.f13.results.toList [.c .sc] vs kk))) hF (fun a0Room a0Target a0Once a0Often a0WasOnce a0WasOften left1 hF => goes_of (e_laws_szLists a0Room a0Target a0Once a0Often a0WasOnce a0WasOften left1 kk) (F_laws_szLists_S hF))
def con_laws_toIntS : Con := ⟨[.rd], true, [.c (.sl .int)], fun vs k => match vs with
    | [.c (.ro .int a0)] => F_laws_toIntS a0 (fun r0 => k (.one (.c (.ro .int r0))) [])
    | _ => False, false⟩
def cl_laws_toIntS : List (FuncId × Con) := []
def nm0_laws_toIntS : List NStep := [.keep [0, 3, 4] [112]]
def an_laws_toIntS : Ann := ⟨[], [(3, nm0_laws_toIntS)], []⟩
def cs_laws_toIntS : Cons := ⟨cl_laws_toIntS, [], 0, [], []⟩
def can0_laws_toIntS (a0 : List Int) (xi4 : Int) (xy7 : List Int) : St := ⟨[(0, .one (.c (.ro .int a0))), (3, .one (.c (.ow 112))), (4, .one (.c (.v (.int .i64 xi4))))], [(112, .row .int xy7)]⟩
def fin_laws_toIntS (a0 : List Int) (kk : AV → List A1 → Prop) : Kt := fin TT con_laws_toIntS Try.f6.results.toList [.c (.sl .int)] [.c (.ro .int a0)] kk
def kt0_laws_toIntS (kf : Kt) : Kt := blockK 0 (seqK (evF TT cs_laws_toIntS 22 an_laws_toIntS Try.f6 [1, 1, 1]) (kf))
theorem r0_laws_toIntS (a0 : List Int) (kk : AV → List A1 → Prop) (n : Nat) (xi4 : Int) (xy7 : List Int) :
    iter (evF TT cs_laws_toIntS 22 an_laws_toIntS Try.f6 [1, 1, 0, 1, 0, 0]) nm0_laws_toIntS (kt0_laws_toIntS (fin_laws_toIntS a0 kk)) (n + 1) (can0_laws_toIntS a0 xi4 xy7) = T0_laws_toIntS a0 xi4 xy7 (fun r0 => kk (.one (.c (.ro .int r0))) []) (fun xi4 xy7 => iter (evF TT cs_laws_toIntS 22 an_laws_toIntS Try.f6 [1, 1, 0, 1, 0, 0]) nm0_laws_toIntS (kt0_laws_toIntS (fin_laws_toIntS a0 kk)) n (can0_laws_toIntS a0 xi4 xy7)) := by kernel_rfl
theorem l0_laws_toIntS (a0 : List Int) (kk : AV → List A1 → Prop) : ∀ (n : Nat) (xi4 : Int) (xy7 : List Int), iter (evF TT cs_laws_toIntS 22 an_laws_toIntS Try.f6 [1, 1, 0, 1, 0, 0]) nm0_laws_toIntS (kt0_laws_toIntS (fin_laws_toIntS a0 kk)) n (can0_laws_toIntS a0 xi4 xy7) = L0_laws_toIntS a0 (fun r0 => kk (.one (.c (.ro .int r0))) []) n xi4 xy7 := by
  intro n
  induction n with
  | zero => intros; rfl
  | succ n ih =>
    intro xi4 xy7
    rw [r0_laws_toIntS a0 kk n xi4 xy7]
    have hb : (fun xi4 xy7 => iter (evF TT cs_laws_toIntS 22 an_laws_toIntS Try.f6 [1, 1, 0, 1, 0, 0]) nm0_laws_toIntS (kt0_laws_toIntS (fin_laws_toIntS a0 kk)) n (can0_laws_toIntS a0 xi4 xy7)) = L0_laws_toIntS a0 (fun r0 => kk (.one (.c (.ro .int r0))) []) n := by
      funext xi4 xy7; exact ih xi4 xy7
    rw [hb]
    rfl
theorem g_laws_toIntS (a0 : List Int) (kk : AV → List A1 → Prop) :
    ev TT cs_laws_toIntS 22 an_laws_toIntS (Try.f6.body.getD .skip) (st0 con_laws_toIntS [.c (.ro .int a0)]) (fin TT con_laws_toIntS Try.f6.results.toList [.c (.sl .int)] [.c (.ro .int a0)] kk) = G_laws_toIntS a0 (fun a0 xi4 xy7 => ∃ j, iter (evF TT cs_laws_toIntS 22 an_laws_toIntS Try.f6 [1, 1, 0, 1, 0, 0]) nm0_laws_toIntS (kt0_laws_toIntS (fin_laws_toIntS a0 kk)) j (can0_laws_toIntS a0 xi4 xy7)) := by kernel_rfl
theorem e_laws_toIntS (a0 : List Int) (kk : AV → List A1 → Prop) :
    ev TT cs_laws_toIntS 22 an_laws_toIntS (Try.f6.body.getD .skip) (st0 con_laws_toIntS [.c (.ro .int a0)]) (fin TT con_laws_toIntS Try.f6.results.toList [.c (.sl .int)] [.c (.ro .int a0)] kk) = S_laws_toIntS a0 (fun r0 => kk (.one (.c (.ro .int r0))) []) := by
  rw [g_laws_toIntS]
  have hi0 : (fun a0 xi4 xy7 => ∃ j, iter (evF TT cs_laws_toIntS 22 an_laws_toIntS Try.f6 [1, 1, 0, 1, 0, 0]) nm0_laws_toIntS (kt0_laws_toIntS (fin_laws_toIntS a0 kk)) j (can0_laws_toIntS a0 xi4 xy7)) = (fun a0 xi4 xy7 => ∃ j, L0_laws_toIntS a0 (fun r0 => kk (.one (.c (.ro .int r0))) []) j xi4 xy7) := by
    funext a0 xi4 xy7
    refine congrArg Exists (funext fun j => ?_)
    rw [l0_laws_toIntS a0 kk j xi4 xy7]
  rw [hi0]
  rfl
theorem clok_laws_toIntS : ConOK Try.prog cl_laws_toIntS := consNil
theorem cok_laws_toIntS : ConsOK Try.prog 22 cs_laws_toIntS := ⟨clok_laws_toIntS, inlNil⟩
theorem i_laws_toIntS {vs : List A1} {kk : AV → List A1 → Prop} {motive : List A1 → Prop} (h : con_laws_toIntS.F vs kk) (H : ∀ (a0 : List Int), F_laws_toIntS a0 (fun r0 => kk (.one (.c (.ro .int r0))) []) → motive [.c (.ro .int a0)]) : motive vs := by
  unfold con_laws_toIntS at h
  dsimp only at h
  split at h
  · exact H _ h
  · exact h.elim
theorem h_laws_toIntS : Holds Try.prog 6 con_laws_toIntS := by
  refine holds_of_ev (rt := [.c (.sl .int)]) (T := TT) (Γ := cs_laws_toIntS) (an := an_laws_toIntS) (N := 22) (c := Try.f6.body.getD .skip) Try.func6 (by kernel_rfl) Try.ntmps6 (by decide) (by decide) mixed tabOK cok_laws_toIntS (by kernel_rfl) ?_
  intro vs kk _ hF
  exact i_laws_toIntS (motive := fun vs => Goes (ev TT cs_laws_toIntS 22 an_laws_toIntS (Try.f6.body.getD .skip) (st0 con_laws_toIntS vs) (fin TT con_laws_toIntS Try.f6.results.toList [.c (.sl .int)] vs kk))) hF (fun a0 hF => goes_of (e_laws_toIntS a0 kk) (F_laws_toIntS_S hF))
def con_laws_toLists : Con := ⟨[.rd], true, [.agg [.sc, .sc, .sl .int, .sl .int, .sl .int, .sl .int]], fun vs k => match vs with
    | [.agg [.v (.int .i64 a0Room), .v (.int .i64 a0Target), .ro .int a0Once, .ro .int a0Often, .ro .int a0WasOnce, .ro .int a0WasOften]] => F_laws_toLists a0Room a0Target a0Once a0Often a0WasOnce a0WasOften (fun r0 r1 r2 r3 r4 r5 => k (.one (.agg [.v (.int .i64 r0), .v (.int .i64 r1), .ro .int r2, .ro .int r3, .ro .int r4, .ro .int r5])) [])
    | _ => False, false⟩
def cl_laws_toLists : List (FuncId × Con) := [(6, con_laws_toIntS)]
def an_laws_toLists : Ann := ⟨[], [], []⟩
def cs_laws_toLists : Cons := ⟨cl_laws_toLists, [], 0, [], []⟩
def fin_laws_toLists (a0Room : Int) (a0Target : Int) (a0Once : List Int) (a0Often : List Int) (a0WasOnce : List Int) (a0WasOften : List Int) (kk : AV → List A1 → Prop) : Kt := fin TT con_laws_toLists Try.f15.results.toList [.agg [.sc, .sc, .sl .int, .sl .int, .sl .int, .sl .int]] [.agg [.v (.int .i64 a0Room), .v (.int .i64 a0Target), .ro .int a0Once, .ro .int a0Often, .ro .int a0WasOnce, .ro .int a0WasOften]] kk
theorem g_laws_toLists (a0Room : Int) (a0Target : Int) (a0Once : List Int) (a0Often : List Int) (a0WasOnce : List Int) (a0WasOften : List Int) (kk : AV → List A1 → Prop) :
    ev TT cs_laws_toLists 27 an_laws_toLists (Try.f15.body.getD .skip) (st0 con_laws_toLists [.agg [.v (.int .i64 a0Room), .v (.int .i64 a0Target), .ro .int a0Once, .ro .int a0Often, .ro .int a0WasOnce, .ro .int a0WasOften]]) (fin TT con_laws_toLists Try.f15.results.toList [.agg [.sc, .sc, .sl .int, .sl .int, .sl .int, .sl .int]] [.agg [.v (.int .i64 a0Room), .v (.int .i64 a0Target), .ro .int a0Once, .ro .int a0Often, .ro .int a0WasOnce, .ro .int a0WasOften]] kk) = G_laws_toLists a0Room a0Target a0Once a0Often a0WasOnce a0WasOften (fun r0 r1 r2 r3 r4 r5 => kk (.one (.agg [.v (.int .i64 r0), .v (.int .i64 r1), .ro .int r2, .ro .int r3, .ro .int r4, .ro .int r5])) []) := by kernel_rfl
theorem e_laws_toLists (a0Room : Int) (a0Target : Int) (a0Once : List Int) (a0Often : List Int) (a0WasOnce : List Int) (a0WasOften : List Int) (kk : AV → List A1 → Prop) :
    ev TT cs_laws_toLists 27 an_laws_toLists (Try.f15.body.getD .skip) (st0 con_laws_toLists [.agg [.v (.int .i64 a0Room), .v (.int .i64 a0Target), .ro .int a0Once, .ro .int a0Often, .ro .int a0WasOnce, .ro .int a0WasOften]]) (fin TT con_laws_toLists Try.f15.results.toList [.agg [.sc, .sc, .sl .int, .sl .int, .sl .int, .sl .int]] [.agg [.v (.int .i64 a0Room), .v (.int .i64 a0Target), .ro .int a0Once, .ro .int a0Often, .ro .int a0WasOnce, .ro .int a0WasOften]] kk) = S_laws_toLists a0Room a0Target a0Once a0Often a0WasOnce a0WasOften (fun r0 r1 r2 r3 r4 r5 => kk (.one (.agg [.v (.int .i64 r0), .v (.int .i64 r1), .ro .int r2, .ro .int r3, .ro .int r4, .ro .int r5])) []) := by
  rw [g_laws_toLists]
  rfl
theorem clok_laws_toLists : ConOK Try.prog cl_laws_toLists := consCons h_laws_toIntS ⟨Try.f6, Try.func6, by kernel_rfl, ne_of_beq (by kernel_rfl)⟩ (consNil)
theorem cok_laws_toLists : ConsOK Try.prog 27 cs_laws_toLists := ⟨clok_laws_toLists, inlNil⟩
theorem i_laws_toLists {vs : List A1} {kk : AV → List A1 → Prop} {motive : List A1 → Prop} (h : con_laws_toLists.F vs kk) (H : ∀ (a0Room : Int) (a0Target : Int) (a0Once : List Int) (a0Often : List Int) (a0WasOnce : List Int) (a0WasOften : List Int), F_laws_toLists a0Room a0Target a0Once a0Often a0WasOnce a0WasOften (fun r0 r1 r2 r3 r4 r5 => kk (.one (.agg [.v (.int .i64 r0), .v (.int .i64 r1), .ro .int r2, .ro .int r3, .ro .int r4, .ro .int r5])) []) → motive [.agg [.v (.int .i64 a0Room), .v (.int .i64 a0Target), .ro .int a0Once, .ro .int a0Often, .ro .int a0WasOnce, .ro .int a0WasOften]]) : motive vs := by
  unfold con_laws_toLists at h
  dsimp only at h
  split at h
  · exact H _ _ _ _ _ _ h
  · exact h.elim
theorem h_laws_toLists : Holds Try.prog 15 con_laws_toLists := by
  refine holds_of_ev (rt := [.agg [.sc, .sc, .sl .int, .sl .int, .sl .int, .sl .int]]) (T := TT) (Γ := cs_laws_toLists) (an := an_laws_toLists) (N := 27) (c := Try.f15.body.getD .skip) Try.func15 (by kernel_rfl) Try.ntmps15 (by decide) (by decide) mixed tabOK cok_laws_toLists (by kernel_rfl) ?_
  intro vs kk _ hF
  exact i_laws_toLists (motive := fun vs => Goes (ev TT cs_laws_toLists 27 an_laws_toLists (Try.f15.body.getD .skip) (st0 con_laws_toLists vs) (fin TT con_laws_toLists Try.f15.results.toList [.agg [.sc, .sc, .sl .int, .sl .int, .sl .int, .sl .int]] vs kk))) hF (fun a0Room a0Target a0Once a0Often a0WasOnce a0WasOften hF => goes_of (e_laws_toLists a0Room a0Target a0Once a0Often a0WasOnce a0WasOften kk) (F_laws_toLists_S hF))
def con_spec_inRange : Con := ⟨[.rd, .rd, .rd], true, [.c (.sc), .c (.sc), .c (.sc)], fun vs k => match vs with
    | [.c (.v (.int .i64 n0)), .c (.v (.int .i64 low1)), .c (.v (.int .i64 high2))] => F_spec_inRange n0 low1 high2 (fun r0 => k (.one (.c (.v (.bool r0)))) [])
    | _ => False, false⟩
def cl_spec_inRange : List (FuncId × Con) := []
def an_spec_inRange : Ann := ⟨[], [], []⟩
def cs_spec_inRange : Cons := ⟨cl_spec_inRange, [], 0, [], []⟩
def fin_spec_inRange (n0 : Int) (low1 : Int) (high2 : Int) (kk : AV → List A1 → Prop) : Kt := fin TT con_spec_inRange Try.f19.results.toList [.c .sc] [.c (.v (.int .i64 n0)), .c (.v (.int .i64 low1)), .c (.v (.int .i64 high2))] kk
theorem g_spec_inRange (n0 : Int) (low1 : Int) (high2 : Int) (kk : AV → List A1 → Prop) :
    ev TT cs_spec_inRange 15 an_spec_inRange (Try.f19.body.getD .skip) (st0 con_spec_inRange [.c (.v (.int .i64 n0)), .c (.v (.int .i64 low1)), .c (.v (.int .i64 high2))]) (fin TT con_spec_inRange Try.f19.results.toList [.c .sc] [.c (.v (.int .i64 n0)), .c (.v (.int .i64 low1)), .c (.v (.int .i64 high2))] kk) = G_spec_inRange n0 low1 high2 (fun r0 => kk (.one (.c (.v (.bool r0)))) []) := by kernel_rfl
theorem e_spec_inRange (n0 : Int) (low1 : Int) (high2 : Int) (kk : AV → List A1 → Prop) :
    ev TT cs_spec_inRange 15 an_spec_inRange (Try.f19.body.getD .skip) (st0 con_spec_inRange [.c (.v (.int .i64 n0)), .c (.v (.int .i64 low1)), .c (.v (.int .i64 high2))]) (fin TT con_spec_inRange Try.f19.results.toList [.c .sc] [.c (.v (.int .i64 n0)), .c (.v (.int .i64 low1)), .c (.v (.int .i64 high2))] kk) = S_spec_inRange n0 low1 high2 (fun r0 => kk (.one (.c (.v (.bool r0)))) []) := by
  rw [g_spec_inRange]
  rfl
theorem clok_spec_inRange : ConOK Try.prog cl_spec_inRange := consNil
theorem cok_spec_inRange : ConsOK Try.prog 15 cs_spec_inRange := ⟨clok_spec_inRange, inlNil⟩
theorem i_spec_inRange {vs : List A1} {kk : AV → List A1 → Prop} {motive : List A1 → Prop} (h : con_spec_inRange.F vs kk) (H : ∀ (n0 : Int) (low1 : Int) (high2 : Int), F_spec_inRange n0 low1 high2 (fun r0 => kk (.one (.c (.v (.bool r0)))) []) → motive [.c (.v (.int .i64 n0)), .c (.v (.int .i64 low1)), .c (.v (.int .i64 high2))]) : motive vs := by
  unfold con_spec_inRange at h
  dsimp only at h
  split at h
  · exact H _ _ _ h
  · exact h.elim
theorem h_spec_inRange : Holds Try.prog 19 con_spec_inRange := by
  refine holds_of_ev (rt := [.c .sc]) (T := TT) (Γ := cs_spec_inRange) (an := an_spec_inRange) (N := 15) (c := Try.f19.body.getD .skip) Try.func19 (by kernel_rfl) Try.ntmps19 (by decide) (by decide) mixed tabOK cok_spec_inRange (by kernel_rfl) ?_
  intro vs kk _ hF
  exact i_spec_inRange (motive := fun vs => Goes (ev TT cs_spec_inRange 15 an_spec_inRange (Try.f19.body.getD .skip) (st0 con_spec_inRange vs) (fin TT con_spec_inRange Try.f19.results.toList [.c .sc] vs kk))) hF (fun n0 low1 high2 hF => goes_of (e_spec_inRange n0 low1 high2 kk) (F_spec_inRange_S hF))
def con_spec_validParts : Con := ⟨[.rd], true, [.agg [.sc, .sc, .sl .int, .sl .int, .sl .int, .sl .int]], fun vs k => match vs with
    | [.agg [.v (.int .i64 a0Room), .v (.int .i64 a0Target), .ro .int a0Once, .ro .int a0Often, .ro .int a0WasOnce, .ro .int a0WasOften]] => F_spec_validParts a0Room a0Target a0Once a0Often a0WasOnce a0WasOften (fun r0 => k (.one (.c (.v (.bool r0)))) [])
    | _ => False, false⟩
def cl_spec_validParts : List (FuncId × Con) := []
def an_spec_validParts : Ann := ⟨[], [], []⟩
def cs_spec_validParts : Cons := ⟨cl_spec_validParts, [], 0, [], []⟩
def fin_spec_validParts (a0Room : Int) (a0Target : Int) (a0Once : List Int) (a0Often : List Int) (a0WasOnce : List Int) (a0WasOften : List Int) (kk : AV → List A1 → Prop) : Kt := fin TT con_spec_validParts Try.f47.results.toList [.c .sc] [.agg [.v (.int .i64 a0Room), .v (.int .i64 a0Target), .ro .int a0Once, .ro .int a0Often, .ro .int a0WasOnce, .ro .int a0WasOften]] kk
theorem g_spec_validParts (a0Room : Int) (a0Target : Int) (a0Once : List Int) (a0Often : List Int) (a0WasOnce : List Int) (a0WasOften : List Int) (kk : AV → List A1 → Prop) :
    ev TT cs_spec_validParts 42 an_spec_validParts (Try.f47.body.getD .skip) (st0 con_spec_validParts [.agg [.v (.int .i64 a0Room), .v (.int .i64 a0Target), .ro .int a0Once, .ro .int a0Often, .ro .int a0WasOnce, .ro .int a0WasOften]]) (fin TT con_spec_validParts Try.f47.results.toList [.c .sc] [.agg [.v (.int .i64 a0Room), .v (.int .i64 a0Target), .ro .int a0Once, .ro .int a0Often, .ro .int a0WasOnce, .ro .int a0WasOften]] kk) = G_spec_validParts a0Room a0Target a0Once a0Often a0WasOnce a0WasOften (fun r0 => kk (.one (.c (.v (.bool r0)))) []) := by kernel_rfl
theorem e_spec_validParts (a0Room : Int) (a0Target : Int) (a0Once : List Int) (a0Often : List Int) (a0WasOnce : List Int) (a0WasOften : List Int) (kk : AV → List A1 → Prop) :
    ev TT cs_spec_validParts 42 an_spec_validParts (Try.f47.body.getD .skip) (st0 con_spec_validParts [.agg [.v (.int .i64 a0Room), .v (.int .i64 a0Target), .ro .int a0Once, .ro .int a0Often, .ro .int a0WasOnce, .ro .int a0WasOften]]) (fin TT con_spec_validParts Try.f47.results.toList [.c .sc] [.agg [.v (.int .i64 a0Room), .v (.int .i64 a0Target), .ro .int a0Once, .ro .int a0Often, .ro .int a0WasOnce, .ro .int a0WasOften]] kk) = S_spec_validParts a0Room a0Target a0Once a0Often a0WasOnce a0WasOften (fun r0 => kk (.one (.c (.v (.bool r0)))) []) := by
  rw [g_spec_validParts]
  rfl
theorem clok_spec_validParts : ConOK Try.prog cl_spec_validParts := consNil
theorem cok_spec_validParts : ConsOK Try.prog 42 cs_spec_validParts := ⟨clok_spec_validParts, inlNil⟩
theorem i_spec_validParts {vs : List A1} {kk : AV → List A1 → Prop} {motive : List A1 → Prop} (h : con_spec_validParts.F vs kk) (H : ∀ (a0Room : Int) (a0Target : Int) (a0Once : List Int) (a0Often : List Int) (a0WasOnce : List Int) (a0WasOften : List Int), F_spec_validParts a0Room a0Target a0Once a0Often a0WasOnce a0WasOften (fun r0 => kk (.one (.c (.v (.bool r0)))) []) → motive [.agg [.v (.int .i64 a0Room), .v (.int .i64 a0Target), .ro .int a0Once, .ro .int a0Often, .ro .int a0WasOnce, .ro .int a0WasOften]]) : motive vs := by
  unfold con_spec_validParts at h
  dsimp only at h
  split at h
  · exact H _ _ _ _ _ _ h
  · exact h.elim
theorem h_spec_validParts : Holds Try.prog 47 con_spec_validParts := by
  refine holds_of_ev (rt := [.c .sc]) (T := TT) (Γ := cs_spec_validParts) (an := an_spec_validParts) (N := 42) (c := Try.f47.body.getD .skip) Try.func47 (by kernel_rfl) Try.ntmps47 (by decide) (by decide) mixed tabOK cok_spec_validParts (by kernel_rfl) ?_
  intro vs kk _ hF
  exact i_spec_validParts (motive := fun vs => Goes (ev TT cs_spec_validParts 42 an_spec_validParts (Try.f47.body.getD .skip) (st0 con_spec_validParts vs) (fin TT con_spec_validParts Try.f47.results.toList [.c .sc] vs kk))) hF (fun a0Room a0Target a0Once a0Often a0WasOnce a0WasOften hF => goes_of (e_spec_validParts a0Room a0Target a0Once a0Often a0WasOnce a0WasOften kk) (F_spec_validParts_S hF))
def con_spec_copyInts : Con := ⟨[.rd], true, [.c (.sl .int)], fun vs k => match vs with
    | [.c (.ro .int list0)] => F_spec_copyInts list0 (fun r0 => k (.one (.c (.ro .int r0))) [])
    | _ => False, false⟩
def cl_spec_copyInts : List (FuncId × Con) := []
def an_spec_copyInts : Ann := ⟨[], [], []⟩
def cs_spec_copyInts : Cons := ⟨cl_spec_copyInts, [], 0, [], []⟩
def fin_spec_copyInts (list0 : List Int) (kk : AV → List A1 → Prop) : Kt := fin TT con_spec_copyInts Try.f29.results.toList [.c (.sl .int)] [.c (.ro .int list0)] kk
theorem g_spec_copyInts (list0 : List Int) (kk : AV → List A1 → Prop) :
    ev TT cs_spec_copyInts 6 an_spec_copyInts (Try.f29.body.getD .skip) (st0 con_spec_copyInts [.c (.ro .int list0)]) (fin TT con_spec_copyInts Try.f29.results.toList [.c (.sl .int)] [.c (.ro .int list0)] kk) = G_spec_copyInts list0 (fun r0 => kk (.one (.c (.ro .int r0))) []) := by kernel_rfl
theorem e_spec_copyInts (list0 : List Int) (kk : AV → List A1 → Prop) :
    ev TT cs_spec_copyInts 6 an_spec_copyInts (Try.f29.body.getD .skip) (st0 con_spec_copyInts [.c (.ro .int list0)]) (fin TT con_spec_copyInts Try.f29.results.toList [.c (.sl .int)] [.c (.ro .int list0)] kk) = S_spec_copyInts list0 (fun r0 => kk (.one (.c (.ro .int r0))) []) := by
  rw [g_spec_copyInts]
  rfl
theorem clok_spec_copyInts : ConOK Try.prog cl_spec_copyInts := consNil
theorem cok_spec_copyInts : ConsOK Try.prog 6 cs_spec_copyInts := ⟨clok_spec_copyInts, inlNil⟩
theorem i_spec_copyInts {vs : List A1} {kk : AV → List A1 → Prop} {motive : List A1 → Prop} (h : con_spec_copyInts.F vs kk) (H : ∀ (list0 : List Int), F_spec_copyInts list0 (fun r0 => kk (.one (.c (.ro .int r0))) []) → motive [.c (.ro .int list0)]) : motive vs := by
  unfold con_spec_copyInts at h
  dsimp only at h
  split at h
  · exact H _ h
  · exact h.elim
theorem h_spec_copyInts : Holds Try.prog 29 con_spec_copyInts := by
  refine holds_of_ev (rt := [.c (.sl .int)]) (T := TT) (Γ := cs_spec_copyInts) (an := an_spec_copyInts) (N := 6) (c := Try.f29.body.getD .skip) Try.func29 (by kernel_rfl) Try.ntmps29 (by decide) (by decide) mixed tabOK cok_spec_copyInts (by kernel_rfl) ?_
  intro vs kk _ hF
  exact i_spec_copyInts (motive := fun vs => Goes (ev TT cs_spec_copyInts 6 an_spec_copyInts (Try.f29.body.getD .skip) (st0 con_spec_copyInts vs) (fin TT con_spec_copyInts Try.f29.results.toList [.c (.sl .int)] vs kk))) hF (fun list0 hF => goes_of (e_spec_copyInts list0 kk) (F_spec_copyInts_S hF))
def con_spec_placeOf : Con := ⟨[.rd, .rd], true, [.c (.sl .int), .c (.sc)], fun vs k => match vs with
    | [.c (.ro .int list0), .c (.v (.int .i64 n1))] => F_spec_placeOf list0 n1 (fun r0 => k (.one (.c (.v (.int .i64 r0)))) [])
    | _ => False, false⟩
def cl_spec_placeOf : List (FuncId × Con) := []
def nm0_spec_placeOf : List NStep := [.keep [0, 1, 5] []]
def an_spec_placeOf : Ann := ⟨[], [(2, nm0_spec_placeOf)], []⟩
def cs_spec_placeOf : Cons := ⟨cl_spec_placeOf, [], 0, [], []⟩
def can0_spec_placeOf (list0 : List Int) (n1 : Int) (xi5 : Int) : St := ⟨[(0, .one (.c (.ro .int list0))), (1, .one (.c (.v (.int .i64 n1)))), (5, .one (.c (.v (.int .i64 xi5))))], []⟩
def fin_spec_placeOf (list0 : List Int) (n1 : Int) (kk : AV → List A1 → Prop) : Kt := fin TT con_spec_placeOf Try.f35.results.toList [.c .sc] [.c (.ro .int list0), .c (.v (.int .i64 n1))] kk
def kt0_spec_placeOf (kf : Kt) : Kt := blockK 0 (seqK (evF TT cs_spec_placeOf 19 an_spec_placeOf Try.f35 [1, 1]) (kf))
theorem r0_spec_placeOf (list0 : List Int) (n1 : Int) (kk : AV → List A1 → Prop) (n : Nat) (xi5 : Int) :
    iter (evF TT cs_spec_placeOf 19 an_spec_placeOf Try.f35 [1, 0, 1, 0, 0]) nm0_spec_placeOf (kt0_spec_placeOf (fin_spec_placeOf list0 n1 kk)) (n + 1) (can0_spec_placeOf list0 n1 xi5) = T0_spec_placeOf list0 n1 xi5 (fun r0 => kk (.one (.c (.v (.int .i64 r0)))) []) (fun xi5 => iter (evF TT cs_spec_placeOf 19 an_spec_placeOf Try.f35 [1, 0, 1, 0, 0]) nm0_spec_placeOf (kt0_spec_placeOf (fin_spec_placeOf list0 n1 kk)) n (can0_spec_placeOf list0 n1 xi5)) := by kernel_rfl
theorem l0_spec_placeOf (list0 : List Int) (n1 : Int) (kk : AV → List A1 → Prop) : ∀ (n : Nat) (xi5 : Int), iter (evF TT cs_spec_placeOf 19 an_spec_placeOf Try.f35 [1, 0, 1, 0, 0]) nm0_spec_placeOf (kt0_spec_placeOf (fin_spec_placeOf list0 n1 kk)) n (can0_spec_placeOf list0 n1 xi5) = L0_spec_placeOf list0 n1 (fun r0 => kk (.one (.c (.v (.int .i64 r0)))) []) n xi5 := by
  intro n
  induction n with
  | zero => intros; rfl
  | succ n ih =>
    intro xi5
    rw [r0_spec_placeOf list0 n1 kk n xi5]
    have hb : (fun xi5 => iter (evF TT cs_spec_placeOf 19 an_spec_placeOf Try.f35 [1, 0, 1, 0, 0]) nm0_spec_placeOf (kt0_spec_placeOf (fin_spec_placeOf list0 n1 kk)) n (can0_spec_placeOf list0 n1 xi5)) = L0_spec_placeOf list0 n1 (fun r0 => kk (.one (.c (.v (.int .i64 r0)))) []) n := by
      funext xi5; exact ih xi5
    rw [hb]
    rfl
theorem g_spec_placeOf (list0 : List Int) (n1 : Int) (kk : AV → List A1 → Prop) :
    ev TT cs_spec_placeOf 19 an_spec_placeOf (Try.f35.body.getD .skip) (st0 con_spec_placeOf [.c (.ro .int list0), .c (.v (.int .i64 n1))]) (fin TT con_spec_placeOf Try.f35.results.toList [.c .sc] [.c (.ro .int list0), .c (.v (.int .i64 n1))] kk) = G_spec_placeOf list0 n1 (fun list0 n1 xi5 => ∃ j, iter (evF TT cs_spec_placeOf 19 an_spec_placeOf Try.f35 [1, 0, 1, 0, 0]) nm0_spec_placeOf (kt0_spec_placeOf (fin_spec_placeOf list0 n1 kk)) j (can0_spec_placeOf list0 n1 xi5)) := by kernel_rfl
theorem e_spec_placeOf (list0 : List Int) (n1 : Int) (kk : AV → List A1 → Prop) :
    ev TT cs_spec_placeOf 19 an_spec_placeOf (Try.f35.body.getD .skip) (st0 con_spec_placeOf [.c (.ro .int list0), .c (.v (.int .i64 n1))]) (fin TT con_spec_placeOf Try.f35.results.toList [.c .sc] [.c (.ro .int list0), .c (.v (.int .i64 n1))] kk) = S_spec_placeOf list0 n1 (fun r0 => kk (.one (.c (.v (.int .i64 r0)))) []) := by
  rw [g_spec_placeOf]
  have hi0 : (fun list0 n1 xi5 => ∃ j, iter (evF TT cs_spec_placeOf 19 an_spec_placeOf Try.f35 [1, 0, 1, 0, 0]) nm0_spec_placeOf (kt0_spec_placeOf (fin_spec_placeOf list0 n1 kk)) j (can0_spec_placeOf list0 n1 xi5)) = (fun list0 n1 xi5 => ∃ j, L0_spec_placeOf list0 n1 (fun r0 => kk (.one (.c (.v (.int .i64 r0)))) []) j xi5) := by
    funext list0 n1 xi5
    refine congrArg Exists (funext fun j => ?_)
    rw [l0_spec_placeOf list0 n1 kk j xi5]
  rw [hi0]
  rfl
theorem clok_spec_placeOf : ConOK Try.prog cl_spec_placeOf := consNil
theorem cok_spec_placeOf : ConsOK Try.prog 19 cs_spec_placeOf := ⟨clok_spec_placeOf, inlNil⟩
theorem i_spec_placeOf {vs : List A1} {kk : AV → List A1 → Prop} {motive : List A1 → Prop} (h : con_spec_placeOf.F vs kk) (H : ∀ (list0 : List Int) (n1 : Int), F_spec_placeOf list0 n1 (fun r0 => kk (.one (.c (.v (.int .i64 r0)))) []) → motive [.c (.ro .int list0), .c (.v (.int .i64 n1))]) : motive vs := by
  unfold con_spec_placeOf at h
  dsimp only at h
  split at h
  · exact H _ _ h
  · exact h.elim
theorem h_spec_placeOf : Holds Try.prog 35 con_spec_placeOf := by
  refine holds_of_ev (rt := [.c .sc]) (T := TT) (Γ := cs_spec_placeOf) (an := an_spec_placeOf) (N := 19) (c := Try.f35.body.getD .skip) Try.func35 (by kernel_rfl) Try.ntmps35 (by decide) (by decide) mixed tabOK cok_spec_placeOf (by kernel_rfl) ?_
  intro vs kk _ hF
  exact i_spec_placeOf (motive := fun vs => Goes (ev TT cs_spec_placeOf 19 an_spec_placeOf (Try.f35.body.getD .skip) (st0 con_spec_placeOf vs) (fin TT con_spec_placeOf Try.f35.results.toList [.c .sc] vs kk))) hF (fun list0 n1 hF => goes_of (e_spec_placeOf list0 n1 kk) (F_spec_placeOf_S hF))
def con_spec_distinct : Con := ⟨[.rd], true, [.c (.sl .int)], fun vs k => match vs with
    | [.c (.ro .int list0)] => F_spec_distinct list0 (fun r0 => k (.one (.c (.v (.bool r0)))) [])
    | _ => False, false⟩
def cl_spec_distinct : List (FuncId × Con) := [(35, con_spec_placeOf)]
def nm0_spec_distinct : List NStep := [.keep [0, 3] []]
def an_spec_distinct : Ann := ⟨[], [(2, nm0_spec_distinct)], []⟩
def cs_spec_distinct : Cons := ⟨cl_spec_distinct, [], 0, [], []⟩
def can0_spec_distinct (list0 : List Int) (xi3 : Int) : St := ⟨[(0, .one (.c (.ro .int list0))), (3, .one (.c (.v (.int .i64 xi3))))], []⟩
def fin_spec_distinct (list0 : List Int) (kk : AV → List A1 → Prop) : Kt := fin TT con_spec_distinct Try.f48.results.toList [.c .sc] [.c (.ro .int list0)] kk
def kt0_spec_distinct (kf : Kt) : Kt := blockK 0 (seqK (evF TT cs_spec_distinct 18 an_spec_distinct Try.f48 [1, 1]) (kf))
theorem r0_spec_distinct (list0 : List Int) (kk : AV → List A1 → Prop) (n : Nat) (xi3 : Int) :
    iter (evF TT cs_spec_distinct 18 an_spec_distinct Try.f48 [1, 0, 1, 0, 0]) nm0_spec_distinct (kt0_spec_distinct (fin_spec_distinct list0 kk)) (n + 1) (can0_spec_distinct list0 xi3) = T0_spec_distinct list0 xi3 (fun r0 => kk (.one (.c (.v (.bool r0)))) []) (fun xi3 => iter (evF TT cs_spec_distinct 18 an_spec_distinct Try.f48 [1, 0, 1, 0, 0]) nm0_spec_distinct (kt0_spec_distinct (fin_spec_distinct list0 kk)) n (can0_spec_distinct list0 xi3)) := by kernel_rfl
theorem l0_spec_distinct (list0 : List Int) (kk : AV → List A1 → Prop) : ∀ (n : Nat) (xi3 : Int), iter (evF TT cs_spec_distinct 18 an_spec_distinct Try.f48 [1, 0, 1, 0, 0]) nm0_spec_distinct (kt0_spec_distinct (fin_spec_distinct list0 kk)) n (can0_spec_distinct list0 xi3) = L0_spec_distinct list0 (fun r0 => kk (.one (.c (.v (.bool r0)))) []) n xi3 := by
  intro n
  induction n with
  | zero => intros; rfl
  | succ n ih =>
    intro xi3
    rw [r0_spec_distinct list0 kk n xi3]
    have hb : (fun xi3 => iter (evF TT cs_spec_distinct 18 an_spec_distinct Try.f48 [1, 0, 1, 0, 0]) nm0_spec_distinct (kt0_spec_distinct (fin_spec_distinct list0 kk)) n (can0_spec_distinct list0 xi3)) = L0_spec_distinct list0 (fun r0 => kk (.one (.c (.v (.bool r0)))) []) n := by
      funext xi3; exact ih xi3
    rw [hb]
    rfl
theorem g_spec_distinct (list0 : List Int) (kk : AV → List A1 → Prop) :
    ev TT cs_spec_distinct 18 an_spec_distinct (Try.f48.body.getD .skip) (st0 con_spec_distinct [.c (.ro .int list0)]) (fin TT con_spec_distinct Try.f48.results.toList [.c .sc] [.c (.ro .int list0)] kk) = G_spec_distinct list0 (fun list0 xi3 => ∃ j, iter (evF TT cs_spec_distinct 18 an_spec_distinct Try.f48 [1, 0, 1, 0, 0]) nm0_spec_distinct (kt0_spec_distinct (fin_spec_distinct list0 kk)) j (can0_spec_distinct list0 xi3)) := by kernel_rfl
theorem e_spec_distinct (list0 : List Int) (kk : AV → List A1 → Prop) :
    ev TT cs_spec_distinct 18 an_spec_distinct (Try.f48.body.getD .skip) (st0 con_spec_distinct [.c (.ro .int list0)]) (fin TT con_spec_distinct Try.f48.results.toList [.c .sc] [.c (.ro .int list0)] kk) = S_spec_distinct list0 (fun r0 => kk (.one (.c (.v (.bool r0)))) []) := by
  rw [g_spec_distinct]
  have hi0 : (fun list0 xi3 => ∃ j, iter (evF TT cs_spec_distinct 18 an_spec_distinct Try.f48 [1, 0, 1, 0, 0]) nm0_spec_distinct (kt0_spec_distinct (fin_spec_distinct list0 kk)) j (can0_spec_distinct list0 xi3)) = (fun list0 xi3 => ∃ j, L0_spec_distinct list0 (fun r0 => kk (.one (.c (.v (.bool r0)))) []) j xi3) := by
    funext list0 xi3
    refine congrArg Exists (funext fun j => ?_)
    rw [l0_spec_distinct list0 kk j xi3]
  rw [hi0]
  rfl
theorem clok_spec_distinct : ConOK Try.prog cl_spec_distinct := consCons h_spec_placeOf ⟨Try.f35, Try.func35, by kernel_rfl, ne_of_beq (by kernel_rfl)⟩ (consNil)
theorem cok_spec_distinct : ConsOK Try.prog 18 cs_spec_distinct := ⟨clok_spec_distinct, inlNil⟩
theorem i_spec_distinct {vs : List A1} {kk : AV → List A1 → Prop} {motive : List A1 → Prop} (h : con_spec_distinct.F vs kk) (H : ∀ (list0 : List Int), F_spec_distinct list0 (fun r0 => kk (.one (.c (.v (.bool r0)))) []) → motive [.c (.ro .int list0)]) : motive vs := by
  unfold con_spec_distinct at h
  dsimp only at h
  split at h
  · exact H _ h
  · exact h.elim
theorem h_spec_distinct : Holds Try.prog 48 con_spec_distinct := by
  refine holds_of_ev (rt := [.c .sc]) (T := TT) (Γ := cs_spec_distinct) (an := an_spec_distinct) (N := 18) (c := Try.f48.body.getD .skip) Try.func48 (by kernel_rfl) Try.ntmps48 (by decide) (by decide) mixed tabOK cok_spec_distinct (by kernel_rfl) ?_
  intro vs kk _ hF
  exact i_spec_distinct (motive := fun vs => Goes (ev TT cs_spec_distinct 18 an_spec_distinct (Try.f48.body.getD .skip) (st0 con_spec_distinct vs) (fin TT con_spec_distinct Try.f48.results.toList [.c .sc] vs kk))) hF (fun list0 hF => goes_of (e_spec_distinct list0 kk) (F_spec_distinct_S hF))
def con_spec_allIn : Con := ⟨[.rd, .rd, .rd], true, [.c (.sl .int), .c (.sc), .c (.sc)], fun vs k => match vs with
    | [.c (.ro .int list0), .c (.v (.int .i64 low1)), .c (.v (.int .i64 high2))] => F_spec_allIn list0 low1 high2 (fun r0 => k (.one (.c (.v (.bool r0)))) [])
    | _ => False, false⟩
def cl_spec_allIn : List (FuncId × Con) := [(19, con_spec_inRange)]
def nm0_spec_allIn : List NStep := [.keep [0, 1, 2, 7] []]
def an_spec_allIn : Ann := ⟨[], [(2, nm0_spec_allIn)], []⟩
def cs_spec_allIn : Cons := ⟨cl_spec_allIn, [], 0, [], []⟩
def can0_spec_allIn (high2 : Int) (list0 : List Int) (low1 : Int) (xi7 : Int) : St := ⟨[(0, .one (.c (.ro .int list0))), (1, .one (.c (.v (.int .i64 low1)))), (2, .one (.c (.v (.int .i64 high2)))), (7, .one (.c (.v (.int .i64 xi7))))], []⟩
def fin_spec_allIn (list0 : List Int) (low1 : Int) (high2 : Int) (kk : AV → List A1 → Prop) : Kt := fin TT con_spec_allIn Try.f32.results.toList [.c .sc] [.c (.ro .int list0), .c (.v (.int .i64 low1)), .c (.v (.int .i64 high2))] kk
def kt0_spec_allIn (kf : Kt) : Kt := blockK 0 (seqK (evF TT cs_spec_allIn 22 an_spec_allIn Try.f32 [1, 1]) (kf))
theorem r0_spec_allIn (list0 : List Int) (low1 : Int) (high2 : Int) (kk : AV → List A1 → Prop) (n : Nat) (xi7 : Int) :
    iter (evF TT cs_spec_allIn 22 an_spec_allIn Try.f32 [1, 0, 1, 0, 0]) nm0_spec_allIn (kt0_spec_allIn (fin_spec_allIn list0 low1 high2 kk)) (n + 1) (can0_spec_allIn high2 list0 low1 xi7) = T0_spec_allIn high2 list0 low1 xi7 (fun r0 => kk (.one (.c (.v (.bool r0)))) []) (fun xi7 => iter (evF TT cs_spec_allIn 22 an_spec_allIn Try.f32 [1, 0, 1, 0, 0]) nm0_spec_allIn (kt0_spec_allIn (fin_spec_allIn list0 low1 high2 kk)) n (can0_spec_allIn high2 list0 low1 xi7)) := by kernel_rfl
theorem l0_spec_allIn (list0 : List Int) (low1 : Int) (high2 : Int) (kk : AV → List A1 → Prop) : ∀ (n : Nat) (xi7 : Int), iter (evF TT cs_spec_allIn 22 an_spec_allIn Try.f32 [1, 0, 1, 0, 0]) nm0_spec_allIn (kt0_spec_allIn (fin_spec_allIn list0 low1 high2 kk)) n (can0_spec_allIn high2 list0 low1 xi7) = L0_spec_allIn high2 list0 low1 (fun r0 => kk (.one (.c (.v (.bool r0)))) []) n xi7 := by
  intro n
  induction n with
  | zero => intros; rfl
  | succ n ih =>
    intro xi7
    rw [r0_spec_allIn list0 low1 high2 kk n xi7]
    have hb : (fun xi7 => iter (evF TT cs_spec_allIn 22 an_spec_allIn Try.f32 [1, 0, 1, 0, 0]) nm0_spec_allIn (kt0_spec_allIn (fin_spec_allIn list0 low1 high2 kk)) n (can0_spec_allIn high2 list0 low1 xi7)) = L0_spec_allIn high2 list0 low1 (fun r0 => kk (.one (.c (.v (.bool r0)))) []) n := by
      funext xi7; exact ih xi7
    rw [hb]
    rfl
theorem g_spec_allIn (list0 : List Int) (low1 : Int) (high2 : Int) (kk : AV → List A1 → Prop) :
    ev TT cs_spec_allIn 22 an_spec_allIn (Try.f32.body.getD .skip) (st0 con_spec_allIn [.c (.ro .int list0), .c (.v (.int .i64 low1)), .c (.v (.int .i64 high2))]) (fin TT con_spec_allIn Try.f32.results.toList [.c .sc] [.c (.ro .int list0), .c (.v (.int .i64 low1)), .c (.v (.int .i64 high2))] kk) = G_spec_allIn list0 low1 high2 (fun high2 list0 low1 xi7 => ∃ j, iter (evF TT cs_spec_allIn 22 an_spec_allIn Try.f32 [1, 0, 1, 0, 0]) nm0_spec_allIn (kt0_spec_allIn (fin_spec_allIn list0 low1 high2 kk)) j (can0_spec_allIn high2 list0 low1 xi7)) := by kernel_rfl
theorem e_spec_allIn (list0 : List Int) (low1 : Int) (high2 : Int) (kk : AV → List A1 → Prop) :
    ev TT cs_spec_allIn 22 an_spec_allIn (Try.f32.body.getD .skip) (st0 con_spec_allIn [.c (.ro .int list0), .c (.v (.int .i64 low1)), .c (.v (.int .i64 high2))]) (fin TT con_spec_allIn Try.f32.results.toList [.c .sc] [.c (.ro .int list0), .c (.v (.int .i64 low1)), .c (.v (.int .i64 high2))] kk) = S_spec_allIn list0 low1 high2 (fun r0 => kk (.one (.c (.v (.bool r0)))) []) := by
  rw [g_spec_allIn]
  have hi0 : (fun high2 list0 low1 xi7 => ∃ j, iter (evF TT cs_spec_allIn 22 an_spec_allIn Try.f32 [1, 0, 1, 0, 0]) nm0_spec_allIn (kt0_spec_allIn (fin_spec_allIn list0 low1 high2 kk)) j (can0_spec_allIn high2 list0 low1 xi7)) = (fun high2 list0 low1 xi7 => ∃ j, L0_spec_allIn high2 list0 low1 (fun r0 => kk (.one (.c (.v (.bool r0)))) []) j xi7) := by
    funext high2 list0 low1 xi7
    refine congrArg Exists (funext fun j => ?_)
    rw [l0_spec_allIn list0 low1 high2 kk j xi7]
  rw [hi0]
  rfl
theorem clok_spec_allIn : ConOK Try.prog cl_spec_allIn := consCons h_spec_inRange ⟨Try.f19, Try.func19, by kernel_rfl, ne_of_beq (by kernel_rfl)⟩ (consNil)
theorem cok_spec_allIn : ConsOK Try.prog 22 cs_spec_allIn := ⟨clok_spec_allIn, inlNil⟩
theorem i_spec_allIn {vs : List A1} {kk : AV → List A1 → Prop} {motive : List A1 → Prop} (h : con_spec_allIn.F vs kk) (H : ∀ (list0 : List Int) (low1 : Int) (high2 : Int), F_spec_allIn list0 low1 high2 (fun r0 => kk (.one (.c (.v (.bool r0)))) []) → motive [.c (.ro .int list0), .c (.v (.int .i64 low1)), .c (.v (.int .i64 high2))]) : motive vs := by
  unfold con_spec_allIn at h
  dsimp only at h
  split at h
  · exact H _ _ _ h
  · exact h.elim
theorem h_spec_allIn : Holds Try.prog 32 con_spec_allIn := by
  refine holds_of_ev (rt := [.c .sc]) (T := TT) (Γ := cs_spec_allIn) (an := an_spec_allIn) (N := 22) (c := Try.f32.body.getD .skip) Try.func32 (by kernel_rfl) Try.ntmps32 (by decide) (by decide) mixed tabOK cok_spec_allIn (by kernel_rfl) ?_
  intro vs kk _ hF
  exact i_spec_allIn (motive := fun vs => Goes (ev TT cs_spec_allIn 22 an_spec_allIn (Try.f32.body.getD .skip) (st0 con_spec_allIn vs) (fin TT con_spec_allIn Try.f32.results.toList [.c .sc] vs kk))) hF (fun list0 low1 high2 hF => goes_of (e_spec_allIn list0 low1 high2 kk) (F_spec_allIn_S hF))
def con_spec_validLists : Con := ⟨[.rd], true, [.agg [.sc, .sc, .sl .int, .sl .int, .sl .int, .sl .int]], fun vs k => match vs with
    | [.agg [.v (.int .i64 a0Room), .v (.int .i64 a0Target), .ro .int a0Once, .ro .int a0Often, .ro .int a0WasOnce, .ro .int a0WasOften]] => F_spec_validLists a0Room a0Target a0Once a0Often a0WasOnce a0WasOften (fun r0 => k (.one (.c (.v (.bool r0)))) [])
    | _ => False, false⟩
def cl_spec_validLists : List (FuncId × Con) := [(19, con_spec_inRange), (29, con_spec_copyInts), (32, con_spec_allIn), (47, con_spec_validParts), (48, con_spec_distinct)]
def an_spec_validLists : Ann := ⟨[(3, .take 0 (.take 1 (.take 3 (.take 4 (.take 6 (.take 7 (.take 9 (.take 10 (.alt 2 (.alt 5 (.alt 8 (.alt 11 (.take 12 (.done)) (.none)) (.none)) (.none)) (.none))))))))), [16])], [], []⟩
def cs_spec_validLists : Cons := ⟨cl_spec_validLists, [], 0, [], []⟩
def fin_spec_validLists (a0Room : Int) (a0Target : Int) (a0Once : List Int) (a0Often : List Int) (a0WasOnce : List Int) (a0WasOften : List Int) (kk : AV → List A1 → Prop) : Kt := fin TT con_spec_validLists Try.f28.results.toList [.c .sc] [.agg [.v (.int .i64 a0Room), .v (.int .i64 a0Target), .ro .int a0Once, .ro .int a0Often, .ro .int a0WasOnce, .ro .int a0WasOften]] kk
theorem g_spec_validLists (a0Room : Int) (a0Target : Int) (a0Once : List Int) (a0Often : List Int) (a0WasOnce : List Int) (a0WasOften : List Int) (kk : AV → List A1 → Prop) :
    ev TT cs_spec_validLists 39 an_spec_validLists (Try.f28.body.getD .skip) (st0 con_spec_validLists [.agg [.v (.int .i64 a0Room), .v (.int .i64 a0Target), .ro .int a0Once, .ro .int a0Often, .ro .int a0WasOnce, .ro .int a0WasOften]]) (fin TT con_spec_validLists Try.f28.results.toList [.c .sc] [.agg [.v (.int .i64 a0Room), .v (.int .i64 a0Target), .ro .int a0Once, .ro .int a0Often, .ro .int a0WasOnce, .ro .int a0WasOften]] kk) = G_spec_validLists a0Room a0Target a0Once a0Often a0WasOnce a0WasOften (fun r0 => kk (.one (.c (.v (.bool r0)))) []) := by kernel_rfl
theorem e_spec_validLists (a0Room : Int) (a0Target : Int) (a0Once : List Int) (a0Often : List Int) (a0WasOnce : List Int) (a0WasOften : List Int) (kk : AV → List A1 → Prop) :
    ev TT cs_spec_validLists 39 an_spec_validLists (Try.f28.body.getD .skip) (st0 con_spec_validLists [.agg [.v (.int .i64 a0Room), .v (.int .i64 a0Target), .ro .int a0Once, .ro .int a0Often, .ro .int a0WasOnce, .ro .int a0WasOften]]) (fin TT con_spec_validLists Try.f28.results.toList [.c .sc] [.agg [.v (.int .i64 a0Room), .v (.int .i64 a0Target), .ro .int a0Once, .ro .int a0Often, .ro .int a0WasOnce, .ro .int a0WasOften]] kk) = S_spec_validLists a0Room a0Target a0Once a0Often a0WasOnce a0WasOften (fun r0 => kk (.one (.c (.v (.bool r0)))) []) := by
  rw [g_spec_validLists]
  rw [G_spec_validLists_eq]
  rfl
theorem clok_spec_validLists : ConOK Try.prog cl_spec_validLists := consCons h_spec_inRange ⟨Try.f19, Try.func19, by kernel_rfl, ne_of_beq (by kernel_rfl)⟩ (consCons h_spec_copyInts ⟨Try.f29, Try.func29, by kernel_rfl, ne_of_beq (by kernel_rfl)⟩ (consCons h_spec_allIn ⟨Try.f32, Try.func32, by kernel_rfl, ne_of_beq (by kernel_rfl)⟩ (consCons h_spec_validParts ⟨Try.f47, Try.func47, by kernel_rfl, ne_of_beq (by kernel_rfl)⟩ (consCons h_spec_distinct ⟨Try.f48, Try.func48, by kernel_rfl, ne_of_beq (by kernel_rfl)⟩ (consNil)))))
theorem cok_spec_validLists : ConsOK Try.prog 39 cs_spec_validLists := ⟨clok_spec_validLists, inlNil⟩
theorem i_spec_validLists {vs : List A1} {kk : AV → List A1 → Prop} {motive : List A1 → Prop} (h : con_spec_validLists.F vs kk) (H : ∀ (a0Room : Int) (a0Target : Int) (a0Once : List Int) (a0Often : List Int) (a0WasOnce : List Int) (a0WasOften : List Int), F_spec_validLists a0Room a0Target a0Once a0Often a0WasOnce a0WasOften (fun r0 => kk (.one (.c (.v (.bool r0)))) []) → motive [.agg [.v (.int .i64 a0Room), .v (.int .i64 a0Target), .ro .int a0Once, .ro .int a0Often, .ro .int a0WasOnce, .ro .int a0WasOften]]) : motive vs := by
  unfold con_spec_validLists at h
  dsimp only at h
  split at h
  · exact H _ _ _ _ _ _ h
  · exact h.elim
theorem h_spec_validLists : Holds Try.prog 28 con_spec_validLists := by
  refine holds_of_ev (rt := [.c .sc]) (T := TT) (Γ := cs_spec_validLists) (an := an_spec_validLists) (N := 39) (c := Try.f28.body.getD .skip) Try.func28 (by kernel_rfl) Try.ntmps28 (by decide) (by decide) mixed tabOK cok_spec_validLists (by kernel_rfl) ?_
  intro vs kk _ hF
  exact i_spec_validLists (motive := fun vs => Goes (ev TT cs_spec_validLists 39 an_spec_validLists (Try.f28.body.getD .skip) (st0 con_spec_validLists vs) (fin TT con_spec_validLists Try.f28.results.toList [.c .sc] vs kk))) hF (fun a0Room a0Target a0Once a0Often a0WasOnce a0WasOften hF => goes_of (e_spec_validLists a0Room a0Target a0Once a0Often a0WasOnce a0WasOften kk) (F_spec_validLists_S hF))
def con_spec_CachedKeys : Con := ⟨[.rd], true, [.agg [.sc, .sc, .sl .int, .sl .int, .sl .int, .sl .int]], fun vs k => match vs with
    | [.agg [.v (.int .i64 a0Room), .v (.int .i64 a0Target), .ro .int a0Once, .ro .int a0Often, .ro .int a0WasOnce, .ro .int a0WasOften]] => F_spec_CachedKeys a0Room a0Target a0Once a0Often a0WasOnce a0WasOften (fun r0 => k (.one (.c (.ro .int r0))) [])
    | _ => False, false⟩
def cl_spec_CachedKeys : List (FuncId × Con) := [(28, con_spec_validLists), (29, con_spec_copyInts)]
def an_spec_CachedKeys : Ann := ⟨[(3, .take 0 (.take 1 (.take 3 (.take 4 (.alt 2 (.alt 5 (.take 6 (.done)) (.none)) (.none))))), [16])], [], []⟩
def cs_spec_CachedKeys : Cons := ⟨cl_spec_CachedKeys, [], 0, [], []⟩
def fin_spec_CachedKeys (a0Room : Int) (a0Target : Int) (a0Once : List Int) (a0Often : List Int) (a0WasOnce : List Int) (a0WasOften : List Int) (kk : AV → List A1 → Prop) : Kt := fin TT con_spec_CachedKeys Try.f14.results.toList [.c (.sl .int)] [.agg [.v (.int .i64 a0Room), .v (.int .i64 a0Target), .ro .int a0Once, .ro .int a0Often, .ro .int a0WasOnce, .ro .int a0WasOften]] kk
theorem g_spec_CachedKeys (a0Room : Int) (a0Target : Int) (a0Once : List Int) (a0Often : List Int) (a0WasOnce : List Int) (a0WasOften : List Int) (kk : AV → List A1 → Prop) :
    ev TT cs_spec_CachedKeys 12 an_spec_CachedKeys (Try.f14.body.getD .skip) (st0 con_spec_CachedKeys [.agg [.v (.int .i64 a0Room), .v (.int .i64 a0Target), .ro .int a0Once, .ro .int a0Often, .ro .int a0WasOnce, .ro .int a0WasOften]]) (fin TT con_spec_CachedKeys Try.f14.results.toList [.c (.sl .int)] [.agg [.v (.int .i64 a0Room), .v (.int .i64 a0Target), .ro .int a0Once, .ro .int a0Often, .ro .int a0WasOnce, .ro .int a0WasOften]] kk) = G_spec_CachedKeys a0Room a0Target a0Once a0Often a0WasOnce a0WasOften (fun r0 => kk (.one (.c (.ro .int r0))) []) := by kernel_rfl
theorem e_spec_CachedKeys (a0Room : Int) (a0Target : Int) (a0Once : List Int) (a0Often : List Int) (a0WasOnce : List Int) (a0WasOften : List Int) (kk : AV → List A1 → Prop) :
    ev TT cs_spec_CachedKeys 12 an_spec_CachedKeys (Try.f14.body.getD .skip) (st0 con_spec_CachedKeys [.agg [.v (.int .i64 a0Room), .v (.int .i64 a0Target), .ro .int a0Once, .ro .int a0Often, .ro .int a0WasOnce, .ro .int a0WasOften]]) (fin TT con_spec_CachedKeys Try.f14.results.toList [.c (.sl .int)] [.agg [.v (.int .i64 a0Room), .v (.int .i64 a0Target), .ro .int a0Once, .ro .int a0Often, .ro .int a0WasOnce, .ro .int a0WasOften]] kk) = S_spec_CachedKeys a0Room a0Target a0Once a0Often a0WasOnce a0WasOften (fun r0 => kk (.one (.c (.ro .int r0))) []) := by
  rw [g_spec_CachedKeys]
  rw [G_spec_CachedKeys_eq]
  rfl
theorem clok_spec_CachedKeys : ConOK Try.prog cl_spec_CachedKeys := consCons h_spec_validLists ⟨Try.f28, Try.func28, by kernel_rfl, ne_of_beq (by kernel_rfl)⟩ (consCons h_spec_copyInts ⟨Try.f29, Try.func29, by kernel_rfl, ne_of_beq (by kernel_rfl)⟩ (consNil))
theorem cok_spec_CachedKeys : ConsOK Try.prog 12 cs_spec_CachedKeys := ⟨clok_spec_CachedKeys, inlNil⟩
theorem i_spec_CachedKeys {vs : List A1} {kk : AV → List A1 → Prop} {motive : List A1 → Prop} (h : con_spec_CachedKeys.F vs kk) (H : ∀ (a0Room : Int) (a0Target : Int) (a0Once : List Int) (a0Often : List Int) (a0WasOnce : List Int) (a0WasOften : List Int), F_spec_CachedKeys a0Room a0Target a0Once a0Often a0WasOnce a0WasOften (fun r0 => kk (.one (.c (.ro .int r0))) []) → motive [.agg [.v (.int .i64 a0Room), .v (.int .i64 a0Target), .ro .int a0Once, .ro .int a0Often, .ro .int a0WasOnce, .ro .int a0WasOften]]) : motive vs := by
  unfold con_spec_CachedKeys at h
  dsimp only at h
  split at h
  · exact H _ _ _ _ _ _ h
  · exact h.elim
theorem h_spec_CachedKeys : Holds Try.prog 14 con_spec_CachedKeys := by
  refine holds_of_ev (rt := [.c (.sl .int)]) (T := TT) (Γ := cs_spec_CachedKeys) (an := an_spec_CachedKeys) (N := 12) (c := Try.f14.body.getD .skip) Try.func14 (by kernel_rfl) Try.ntmps14 (by decide) (by decide) mixed tabOK cok_spec_CachedKeys (by kernel_rfl) ?_
  intro vs kk _ hF
  exact i_spec_CachedKeys (motive := fun vs => Goes (ev TT cs_spec_CachedKeys 12 an_spec_CachedKeys (Try.f14.body.getD .skip) (st0 con_spec_CachedKeys vs) (fin TT con_spec_CachedKeys Try.f14.results.toList [.c (.sl .int)] vs kk))) hF (fun a0Room a0Target a0Once a0Often a0WasOnce a0WasOften hF => goes_of (e_spec_CachedKeys a0Room a0Target a0Once a0Often a0WasOnce a0WasOften kk) (F_spec_CachedKeys_S hF))
def con_impl_validRoom : Con := ⟨[.rd], true, [.c (.sc)], fun vs k => match vs with
    | [.c (.v (.int .i64 room0))] => F_impl_validRoom room0 (fun r0 => k (.one (.c (.v (.bool r0)))) [])
    | _ => False, false⟩
def cl_impl_validRoom : List (FuncId × Con) := []
def an_impl_validRoom : Ann := ⟨[], [], []⟩
def cs_impl_validRoom : Cons := ⟨cl_impl_validRoom, [], 0, [], []⟩
def fin_impl_validRoom (room0 : Int) (kk : AV → List A1 → Prop) : Kt := fin TT con_impl_validRoom Try.f24.results.toList [.c .sc] [.c (.v (.int .i64 room0))] kk
theorem g_impl_validRoom (room0 : Int) (kk : AV → List A1 → Prop) :
    ev TT cs_impl_validRoom 9 an_impl_validRoom (Try.f24.body.getD .skip) (st0 con_impl_validRoom [.c (.v (.int .i64 room0))]) (fin TT con_impl_validRoom Try.f24.results.toList [.c .sc] [.c (.v (.int .i64 room0))] kk) = G_impl_validRoom room0 (fun r0 => kk (.one (.c (.v (.bool r0)))) []) := by kernel_rfl
theorem e_impl_validRoom (room0 : Int) (kk : AV → List A1 → Prop) :
    ev TT cs_impl_validRoom 9 an_impl_validRoom (Try.f24.body.getD .skip) (st0 con_impl_validRoom [.c (.v (.int .i64 room0))]) (fin TT con_impl_validRoom Try.f24.results.toList [.c .sc] [.c (.v (.int .i64 room0))] kk) = S_impl_validRoom room0 (fun r0 => kk (.one (.c (.v (.bool r0)))) []) := by
  rw [g_impl_validRoom]
  rfl
theorem clok_impl_validRoom : ConOK Try.prog cl_impl_validRoom := consNil
theorem cok_impl_validRoom : ConsOK Try.prog 9 cs_impl_validRoom := ⟨clok_impl_validRoom, inlNil⟩
theorem i_impl_validRoom {vs : List A1} {kk : AV → List A1 → Prop} {motive : List A1 → Prop} (h : con_impl_validRoom.F vs kk) (H : ∀ (room0 : Int), F_impl_validRoom room0 (fun r0 => kk (.one (.c (.v (.bool r0)))) []) → motive [.c (.v (.int .i64 room0))]) : motive vs := by
  unfold con_impl_validRoom at h
  dsimp only at h
  split at h
  · exact H _ h
  · exact h.elim
theorem h_impl_validRoom : Holds Try.prog 24 con_impl_validRoom := by
  refine holds_of_ev (rt := [.c .sc]) (T := TT) (Γ := cs_impl_validRoom) (an := an_impl_validRoom) (N := 9) (c := Try.f24.body.getD .skip) Try.func24 (by kernel_rfl) Try.ntmps24 (by decide) (by decide) mixed tabOK cok_impl_validRoom (by kernel_rfl) ?_
  intro vs kk _ hF
  exact i_impl_validRoom (motive := fun vs => Goes (ev TT cs_impl_validRoom 9 an_impl_validRoom (Try.f24.body.getD .skip) (st0 con_impl_validRoom vs) (fin TT con_impl_validRoom Try.f24.results.toList [.c .sc] vs kk))) hF (fun room0 hF => goes_of (e_impl_validRoom room0 kk) (F_impl_validRoom_S hF))
def con_slices_Concat_sint_int : Con := ⟨[.rd], true, [.c (.sll .int)], fun vs k => match vs with
    | [.c (.rol .int slices0)] => F_slices_Concat_sint_int slices0 (fun r0 => k (.one (.c (.ro .int r0))) [])
    | _ => False, false⟩
def cl_slices_Concat_sint_int : List (FuncId × Con) := []
def nm1_slices_Concat_sint_int : List NStep := [.own 6 .int 90100, .keep [6, 25, 26, 27] [90100]]
def nm0_slices_Concat_sint_int : List NStep := [.keep [0, 3, 9, 10, 11] []]
def an_slices_Concat_sint_int_i1 : Ann := ⟨[], [], []⟩
def cs_slices_Concat_sint_int_i1 : Cons := ⟨cl_slices_Concat_sint_int, [], 592, [], []⟩
def an_slices_Concat_sint_int : Ann := ⟨[], [(11, nm1_slices_Concat_sint_int), (3, nm0_slices_Concat_sint_int)], []⟩
def cs_slices_Concat_sint_int : Cons := ⟨cl_slices_Concat_sint_int, [(24, ⟨50, inlG TT cs_slices_Concat_sint_int_i1 36 27 an_slices_Concat_sint_int_i1 (Try.f50.body.getD .skip) Try.f50.results.toList⟩)], 0, [], []⟩
def can1_slices_Concat_sint_int (slices0 : List (List Int)) (xt26 : Int) (xt27 : Int) (xnewslice6 : List Int) : St := ⟨[(6, .one (.c (.ow 90100))), (25, .one (.c (.rol .int slices0))), (26, .one (.c (.v (.int .i64 xt26)))), (27, .one (.c (.v (.int .i64 xt27))))], [(90100, .row .int xnewslice6)]⟩
def can0_slices_Concat_sint_int (slices0 : List (List Int)) (xt10 : Int) (xsize3 : Int) (xt11 : Int) : St := ⟨[(0, .one (.c (.rol .int slices0))), (3, .one (.c (.v (.int .i64 xsize3)))), (9, .one (.c (.rol .int slices0))), (10, .one (.c (.v (.int .i64 xt10)))), (11, .one (.c (.v (.int .i64 xt11))))], []⟩
def fin_slices_Concat_sint_int (slices0 : List (List Int)) (kk : AV → List A1 → Prop) : Kt := fin TT con_slices_Concat_sint_int Try.f31.results.toList [.c (.sl .int)] [.c (.rol .int slices0)] kk
def kt1_slices_Concat_sint_int (kf : Kt) : Kt := blockK 2 (seqK (evF TT cs_slices_Concat_sint_int 36 an_slices_Concat_sint_int Try.f31 [1, 1, 1, 1, 1]) (kf))
def kt0_slices_Concat_sint_int (kf : Kt) : Kt := blockK 0 (seqK (evF TT cs_slices_Concat_sint_int 36 an_slices_Concat_sint_int Try.f31 [1, 1, 1]) (kf))
theorem r1_slices_Concat_sint_int (slices0 : List (List Int)) (kk : AV → List A1 → Prop) (n : Nat) (xt26 : Int) (xt27 : Int) (xnewslice6 : List Int) :
    iter (evF TT cs_slices_Concat_sint_int 36 an_slices_Concat_sint_int Try.f31 [1, 1, 1, 1, 0, 1, 0, 0]) nm1_slices_Concat_sint_int (kt1_slices_Concat_sint_int (fin_slices_Concat_sint_int slices0 kk)) (n + 1) (can1_slices_Concat_sint_int slices0 xt26 xt27 xnewslice6) = T1_slices_Concat_sint_int slices0 xt26 xt27 xnewslice6 (fun r0 => kk (.one (.c (.ro .int r0))) []) (fun xt26 xt27 xnewslice6 => iter (evF TT cs_slices_Concat_sint_int 36 an_slices_Concat_sint_int Try.f31 [1, 1, 1, 1, 0, 1, 0, 0]) nm1_slices_Concat_sint_int (kt1_slices_Concat_sint_int (fin_slices_Concat_sint_int slices0 kk)) n (can1_slices_Concat_sint_int slices0 xt26 xt27 xnewslice6)) := by kernel_rfl
theorem l1_slices_Concat_sint_int (slices0 : List (List Int)) (kk : AV → List A1 → Prop) : ∀ (n : Nat) (xt26 : Int) (xt27 : Int) (xnewslice6 : List Int), iter (evF TT cs_slices_Concat_sint_int 36 an_slices_Concat_sint_int Try.f31 [1, 1, 1, 1, 0, 1, 0, 0]) nm1_slices_Concat_sint_int (kt1_slices_Concat_sint_int (fin_slices_Concat_sint_int slices0 kk)) n (can1_slices_Concat_sint_int slices0 xt26 xt27 xnewslice6) = L1_slices_Concat_sint_int slices0 (fun r0 => kk (.one (.c (.ro .int r0))) []) n xt26 xt27 xnewslice6 := by
  intro n
  induction n with
  | zero => intros; rfl
  | succ n ih =>
    intro xt26 xt27 xnewslice6
    rw [r1_slices_Concat_sint_int slices0 kk n xt26 xt27 xnewslice6]
    have hb : (fun xt26 xt27 xnewslice6 => iter (evF TT cs_slices_Concat_sint_int 36 an_slices_Concat_sint_int Try.f31 [1, 1, 1, 1, 0, 1, 0, 0]) nm1_slices_Concat_sint_int (kt1_slices_Concat_sint_int (fin_slices_Concat_sint_int slices0 kk)) n (can1_slices_Concat_sint_int slices0 xt26 xt27 xnewslice6)) = L1_slices_Concat_sint_int slices0 (fun r0 => kk (.one (.c (.ro .int r0))) []) n := by
      funext xt26 xt27 xnewslice6; exact ih xt26 xt27 xnewslice6
    rw [hb]
    rfl
theorem r0_slices_Concat_sint_int (slices0 : List (List Int)) (xt10 : Int) (kk : AV → List A1 → Prop) (n : Nat) (xsize3 : Int) (xt11 : Int) :
    iter (evF TT cs_slices_Concat_sint_int 36 an_slices_Concat_sint_int Try.f31 [1, 1, 0, 1, 0, 0]) nm0_slices_Concat_sint_int (kt0_slices_Concat_sint_int (fin_slices_Concat_sint_int slices0 kk)) (n + 1) (can0_slices_Concat_sint_int slices0 xt10 xsize3 xt11) = T0_slices_Concat_sint_int slices0 xt10 xsize3 xt11 (fun xsize3 xt11 => iter (evF TT cs_slices_Concat_sint_int 36 an_slices_Concat_sint_int Try.f31 [1, 1, 0, 1, 0, 0]) nm0_slices_Concat_sint_int (kt0_slices_Concat_sint_int (fin_slices_Concat_sint_int slices0 kk)) n (can0_slices_Concat_sint_int slices0 xt10 xsize3 xt11)) (fun slices0 xt26 xt27 xnewslice6 => ∃ j, iter (evF TT cs_slices_Concat_sint_int 36 an_slices_Concat_sint_int Try.f31 [1, 1, 1, 1, 0, 1, 0, 0]) nm1_slices_Concat_sint_int (kt1_slices_Concat_sint_int (fin_slices_Concat_sint_int slices0 kk)) j (can1_slices_Concat_sint_int slices0 xt26 xt27 xnewslice6)) := by kernel_rfl
theorem l0_slices_Concat_sint_int (slices0 : List (List Int)) (xt10 : Int) (kk : AV → List A1 → Prop) : ∀ (n : Nat) (xsize3 : Int) (xt11 : Int), iter (evF TT cs_slices_Concat_sint_int 36 an_slices_Concat_sint_int Try.f31 [1, 1, 0, 1, 0, 0]) nm0_slices_Concat_sint_int (kt0_slices_Concat_sint_int (fin_slices_Concat_sint_int slices0 kk)) n (can0_slices_Concat_sint_int slices0 xt10 xsize3 xt11) = L0_slices_Concat_sint_int slices0 xt10 (fun r0 => kk (.one (.c (.ro .int r0))) []) n xsize3 xt11 := by
  intro n
  induction n generalizing slices0 xt10 with
  | zero => intros; rfl
  | succ n ih =>
    intro xsize3 xt11
    rw [r0_slices_Concat_sint_int slices0 xt10 kk n xsize3 xt11]
    have hb : ∀ (slices0 : List (List Int)) (xt10 : Int), (fun xsize3 xt11 => iter (evF TT cs_slices_Concat_sint_int 36 an_slices_Concat_sint_int Try.f31 [1, 1, 0, 1, 0, 0]) nm0_slices_Concat_sint_int (kt0_slices_Concat_sint_int (fin_slices_Concat_sint_int slices0 kk)) n (can0_slices_Concat_sint_int slices0 xt10 xsize3 xt11)) = L0_slices_Concat_sint_int slices0 xt10 (fun r0 => kk (.one (.c (.ro .int r0))) []) n := by
      intro slices0 xt10
      funext xsize3 xt11; exact ih slices0 xt10 xsize3 xt11
    have hi1 : (fun slices0 xt26 xt27 xnewslice6 => ∃ j, iter (evF TT cs_slices_Concat_sint_int 36 an_slices_Concat_sint_int Try.f31 [1, 1, 1, 1, 0, 1, 0, 0]) nm1_slices_Concat_sint_int (kt1_slices_Concat_sint_int (fin_slices_Concat_sint_int slices0 kk)) j (can1_slices_Concat_sint_int slices0 xt26 xt27 xnewslice6)) = (fun slices0 xt26 xt27 xnewslice6 => ∃ j, L1_slices_Concat_sint_int slices0 (fun r0 => kk (.one (.c (.ro .int r0))) []) j xt26 xt27 xnewslice6) := by
      funext slices0 xt26 xt27 xnewslice6
      refine congrArg Exists (funext fun j => ?_)
      rw [l1_slices_Concat_sint_int slices0 kk j xt26 xt27 xnewslice6]
    rw [hb, hi1]
    rfl
theorem g_slices_Concat_sint_int (slices0 : List (List Int)) (kk : AV → List A1 → Prop) :
    ev TT cs_slices_Concat_sint_int 36 an_slices_Concat_sint_int (Try.f31.body.getD .skip) (st0 con_slices_Concat_sint_int [.c (.rol .int slices0)]) (fin TT con_slices_Concat_sint_int Try.f31.results.toList [.c (.sl .int)] [.c (.rol .int slices0)] kk) = G_slices_Concat_sint_int slices0 (fun slices0 xt10 xsize3 xt11 => ∃ j, iter (evF TT cs_slices_Concat_sint_int 36 an_slices_Concat_sint_int Try.f31 [1, 1, 0, 1, 0, 0]) nm0_slices_Concat_sint_int (kt0_slices_Concat_sint_int (fin_slices_Concat_sint_int slices0 kk)) j (can0_slices_Concat_sint_int slices0 xt10 xsize3 xt11)) := by kernel_rfl
theorem e_slices_Concat_sint_int (slices0 : List (List Int)) (kk : AV → List A1 → Prop) :
    ev TT cs_slices_Concat_sint_int 36 an_slices_Concat_sint_int (Try.f31.body.getD .skip) (st0 con_slices_Concat_sint_int [.c (.rol .int slices0)]) (fin TT con_slices_Concat_sint_int Try.f31.results.toList [.c (.sl .int)] [.c (.rol .int slices0)] kk) = S_slices_Concat_sint_int slices0 (fun r0 => kk (.one (.c (.ro .int r0))) []) := by
  rw [g_slices_Concat_sint_int]
  have hi0 : (fun slices0 xt10 xsize3 xt11 => ∃ j, iter (evF TT cs_slices_Concat_sint_int 36 an_slices_Concat_sint_int Try.f31 [1, 1, 0, 1, 0, 0]) nm0_slices_Concat_sint_int (kt0_slices_Concat_sint_int (fin_slices_Concat_sint_int slices0 kk)) j (can0_slices_Concat_sint_int slices0 xt10 xsize3 xt11)) = (fun slices0 xt10 xsize3 xt11 => ∃ j, L0_slices_Concat_sint_int slices0 xt10 (fun r0 => kk (.one (.c (.ro .int r0))) []) j xsize3 xt11) := by
    funext slices0 xt10 xsize3 xt11
    refine congrArg Exists (funext fun j => ?_)
    rw [l0_slices_Concat_sint_int slices0 xt10 kk j xsize3 xt11]
  rw [hi0]
  rfl
theorem clok_slices_Concat_sint_int : ConOK Try.prog cl_slices_Concat_sint_int := consNil
theorem cok_slices_Concat_sint_int_i1 : ConsOK Try.prog 27 cs_slices_Concat_sint_int_i1 := ⟨clok_slices_Concat_sint_int, inlNil⟩
theorem cok_slices_Concat_sint_int : ConsOK Try.prog 36 cs_slices_Concat_sint_int := ⟨clok_slices_Concat_sint_int, inlCons (inl_ok Try.func50 (by kernel_rfl) (ne_of_beq (by kernel_rfl)) Try.ntmps50 (by decide) mixed tabOK cok_slices_Concat_sint_int_i1 (by kernel_rfl)) (inlNil)⟩
theorem i_slices_Concat_sint_int {vs : List A1} {kk : AV → List A1 → Prop} {motive : List A1 → Prop} (h : con_slices_Concat_sint_int.F vs kk) (H : ∀ (slices0 : List (List Int)), F_slices_Concat_sint_int slices0 (fun r0 => kk (.one (.c (.ro .int r0))) []) → motive [.c (.rol .int slices0)]) : motive vs := by
  unfold con_slices_Concat_sint_int at h
  dsimp only at h
  split at h
  · exact H _ h
  · exact h.elim
theorem h_slices_Concat_sint_int : Holds Try.prog 31 con_slices_Concat_sint_int := by
  refine holds_of_ev (rt := [.c (.sl .int)]) (T := TT) (Γ := cs_slices_Concat_sint_int) (an := an_slices_Concat_sint_int) (N := 36) (c := Try.f31.body.getD .skip) Try.func31 (by kernel_rfl) Try.ntmps31 (by decide) (by decide) mixed tabOK cok_slices_Concat_sint_int (by kernel_rfl) ?_
  intro vs kk _ hF
  exact i_slices_Concat_sint_int (motive := fun vs => Goes (ev TT cs_slices_Concat_sint_int 36 an_slices_Concat_sint_int (Try.f31.body.getD .skip) (st0 con_slices_Concat_sint_int vs) (fin TT con_slices_Concat_sint_int Try.f31.results.toList [.c (.sl .int)] vs kk))) hF (fun slices0 hF => goes_of (e_slices_Concat_sint_int slices0 kk) (F_slices_Concat_sint_int_S hF))
def con_impl_validKey : Con := ⟨[.rd], true, [.c (.sc)], fun vs k => match vs with
    | [.c (.v (.int .i64 key0))] => F_impl_validKey key0 (fun r0 => k (.one (.c (.v (.bool r0)))) [])
    | _ => False, false⟩
def cl_impl_validKey : List (FuncId × Con) := []
def an_impl_validKey : Ann := ⟨[], [], []⟩
def cs_impl_validKey : Cons := ⟨cl_impl_validKey, [], 0, [], []⟩
def fin_impl_validKey (key0 : Int) (kk : AV → List A1 → Prop) : Kt := fin TT con_impl_validKey Try.f40.results.toList [.c .sc] [.c (.v (.int .i64 key0))] kk
theorem g_impl_validKey (key0 : Int) (kk : AV → List A1 → Prop) :
    ev TT cs_impl_validKey 9 an_impl_validKey (Try.f40.body.getD .skip) (st0 con_impl_validKey [.c (.v (.int .i64 key0))]) (fin TT con_impl_validKey Try.f40.results.toList [.c .sc] [.c (.v (.int .i64 key0))] kk) = G_impl_validKey key0 (fun r0 => kk (.one (.c (.v (.bool r0)))) []) := by kernel_rfl
theorem e_impl_validKey (key0 : Int) (kk : AV → List A1 → Prop) :
    ev TT cs_impl_validKey 9 an_impl_validKey (Try.f40.body.getD .skip) (st0 con_impl_validKey [.c (.v (.int .i64 key0))]) (fin TT con_impl_validKey Try.f40.results.toList [.c .sc] [.c (.v (.int .i64 key0))] kk) = S_impl_validKey key0 (fun r0 => kk (.one (.c (.v (.bool r0)))) []) := by
  rw [g_impl_validKey]
  rfl
theorem clok_impl_validKey : ConOK Try.prog cl_impl_validKey := consNil
theorem cok_impl_validKey : ConsOK Try.prog 9 cs_impl_validKey := ⟨clok_impl_validKey, inlNil⟩
theorem i_impl_validKey {vs : List A1} {kk : AV → List A1 → Prop} {motive : List A1 → Prop} (h : con_impl_validKey.F vs kk) (H : ∀ (key0 : Int), F_impl_validKey key0 (fun r0 => kk (.one (.c (.v (.bool r0)))) []) → motive [.c (.v (.int .i64 key0))]) : motive vs := by
  unfold con_impl_validKey at h
  dsimp only at h
  split at h
  · exact H _ h
  · exact h.elim
theorem h_impl_validKey : Holds Try.prog 40 con_impl_validKey := by
  refine holds_of_ev (rt := [.c .sc]) (T := TT) (Γ := cs_impl_validKey) (an := an_impl_validKey) (N := 9) (c := Try.f40.body.getD .skip) Try.func40 (by kernel_rfl) Try.ntmps40 (by decide) (by decide) mixed tabOK cok_impl_validKey (by kernel_rfl) ?_
  intro vs kk _ hF
  exact i_impl_validKey (motive := fun vs => Goes (ev TT cs_impl_validKey 9 an_impl_validKey (Try.f40.body.getD .skip) (st0 con_impl_validKey vs) (fin TT con_impl_validKey Try.f40.results.toList [.c .sc] vs kk))) hF (fun key0 hF => goes_of (e_impl_validKey key0 kk) (F_impl_validKey_S hF))
def con_slices_Index_sint_int : Con := ⟨[.rd, .rd], true, [.c (.sl .int), .c (.sc)], fun vs k => match vs with
    | [.c (.ro .int s0), .c (.v (.int .i64 v1))] => F_slices_Index_sint_int s0 v1 (fun r0 => k (.one (.c (.v (.int .i64 r0)))) [])
    | _ => False, false⟩
def cl_slices_Index_sint_int : List (FuncId × Con) := []
def nm0_slices_Index_sint_int : List NStep := [.keep [0, 1, 7, 8] []]
def an_slices_Index_sint_int : Ann := ⟨[], [(2, nm0_slices_Index_sint_int)], []⟩
def cs_slices_Index_sint_int : Cons := ⟨cl_slices_Index_sint_int, [], 0, [], []⟩
def can0_slices_Index_sint_int (s0 : List Int) (v1 : Int) (xt7 : Int) (xt8 : Int) : St := ⟨[(0, .one (.c (.ro .int s0))), (1, .one (.c (.v (.int .i64 v1)))), (7, .one (.c (.v (.int .i64 xt7)))), (8, .one (.c (.v (.int .i64 xt8))))], []⟩
def fin_slices_Index_sint_int (s0 : List Int) (v1 : Int) (kk : AV → List A1 → Prop) : Kt := fin TT con_slices_Index_sint_int Try.f51.results.toList [.c .sc] [.c (.ro .int s0), .c (.v (.int .i64 v1))] kk
def kt0_slices_Index_sint_int (kf : Kt) : Kt := blockK 0 (seqK (evF TT cs_slices_Index_sint_int 19 an_slices_Index_sint_int Try.f51 [1, 1]) (kf))
theorem r0_slices_Index_sint_int (s0 : List Int) (v1 : Int) (xt7 : Int) (kk : AV → List A1 → Prop) (n : Nat) (xt8 : Int) :
    iter (evF TT cs_slices_Index_sint_int 19 an_slices_Index_sint_int Try.f51 [1, 0, 1, 0, 0]) nm0_slices_Index_sint_int (kt0_slices_Index_sint_int (fin_slices_Index_sint_int s0 v1 kk)) (n + 1) (can0_slices_Index_sint_int s0 v1 xt7 xt8) = T0_slices_Index_sint_int s0 v1 xt7 xt8 (fun r0 => kk (.one (.c (.v (.int .i64 r0)))) []) (fun xt8 => iter (evF TT cs_slices_Index_sint_int 19 an_slices_Index_sint_int Try.f51 [1, 0, 1, 0, 0]) nm0_slices_Index_sint_int (kt0_slices_Index_sint_int (fin_slices_Index_sint_int s0 v1 kk)) n (can0_slices_Index_sint_int s0 v1 xt7 xt8)) := by kernel_rfl
theorem l0_slices_Index_sint_int (s0 : List Int) (v1 : Int) (xt7 : Int) (kk : AV → List A1 → Prop) : ∀ (n : Nat) (xt8 : Int), iter (evF TT cs_slices_Index_sint_int 19 an_slices_Index_sint_int Try.f51 [1, 0, 1, 0, 0]) nm0_slices_Index_sint_int (kt0_slices_Index_sint_int (fin_slices_Index_sint_int s0 v1 kk)) n (can0_slices_Index_sint_int s0 v1 xt7 xt8) = L0_slices_Index_sint_int s0 v1 xt7 (fun r0 => kk (.one (.c (.v (.int .i64 r0)))) []) n xt8 := by
  intro n
  induction n with
  | zero => intros; rfl
  | succ n ih =>
    intro xt8
    rw [r0_slices_Index_sint_int s0 v1 xt7 kk n xt8]
    have hb : (fun xt8 => iter (evF TT cs_slices_Index_sint_int 19 an_slices_Index_sint_int Try.f51 [1, 0, 1, 0, 0]) nm0_slices_Index_sint_int (kt0_slices_Index_sint_int (fin_slices_Index_sint_int s0 v1 kk)) n (can0_slices_Index_sint_int s0 v1 xt7 xt8)) = L0_slices_Index_sint_int s0 v1 xt7 (fun r0 => kk (.one (.c (.v (.int .i64 r0)))) []) n := by
      funext xt8; exact ih xt8
    rw [hb]
    rfl
theorem g_slices_Index_sint_int (s0 : List Int) (v1 : Int) (kk : AV → List A1 → Prop) :
    ev TT cs_slices_Index_sint_int 19 an_slices_Index_sint_int (Try.f51.body.getD .skip) (st0 con_slices_Index_sint_int [.c (.ro .int s0), .c (.v (.int .i64 v1))]) (fin TT con_slices_Index_sint_int Try.f51.results.toList [.c .sc] [.c (.ro .int s0), .c (.v (.int .i64 v1))] kk) = G_slices_Index_sint_int s0 v1 (fun s0 v1 xt7 xt8 => ∃ j, iter (evF TT cs_slices_Index_sint_int 19 an_slices_Index_sint_int Try.f51 [1, 0, 1, 0, 0]) nm0_slices_Index_sint_int (kt0_slices_Index_sint_int (fin_slices_Index_sint_int s0 v1 kk)) j (can0_slices_Index_sint_int s0 v1 xt7 xt8)) := by kernel_rfl
theorem e_slices_Index_sint_int (s0 : List Int) (v1 : Int) (kk : AV → List A1 → Prop) :
    ev TT cs_slices_Index_sint_int 19 an_slices_Index_sint_int (Try.f51.body.getD .skip) (st0 con_slices_Index_sint_int [.c (.ro .int s0), .c (.v (.int .i64 v1))]) (fin TT con_slices_Index_sint_int Try.f51.results.toList [.c .sc] [.c (.ro .int s0), .c (.v (.int .i64 v1))] kk) = S_slices_Index_sint_int s0 v1 (fun r0 => kk (.one (.c (.v (.int .i64 r0)))) []) := by
  rw [g_slices_Index_sint_int]
  have hi0 : (fun s0 v1 xt7 xt8 => ∃ j, iter (evF TT cs_slices_Index_sint_int 19 an_slices_Index_sint_int Try.f51 [1, 0, 1, 0, 0]) nm0_slices_Index_sint_int (kt0_slices_Index_sint_int (fin_slices_Index_sint_int s0 v1 kk)) j (can0_slices_Index_sint_int s0 v1 xt7 xt8)) = (fun s0 v1 xt7 xt8 => ∃ j, L0_slices_Index_sint_int s0 v1 xt7 (fun r0 => kk (.one (.c (.v (.int .i64 r0)))) []) j xt8) := by
    funext s0 v1 xt7 xt8
    refine congrArg Exists (funext fun j => ?_)
    rw [l0_slices_Index_sint_int s0 v1 xt7 kk j xt8]
  rw [hi0]
  rfl
theorem clok_slices_Index_sint_int : ConOK Try.prog cl_slices_Index_sint_int := consNil
theorem cok_slices_Index_sint_int : ConsOK Try.prog 19 cs_slices_Index_sint_int := ⟨clok_slices_Index_sint_int, inlNil⟩
theorem i_slices_Index_sint_int {vs : List A1} {kk : AV → List A1 → Prop} {motive : List A1 → Prop} (h : con_slices_Index_sint_int.F vs kk) (H : ∀ (s0 : List Int) (v1 : Int), F_slices_Index_sint_int s0 v1 (fun r0 => kk (.one (.c (.v (.int .i64 r0)))) []) → motive [.c (.ro .int s0), .c (.v (.int .i64 v1))]) : motive vs := by
  unfold con_slices_Index_sint_int at h
  dsimp only at h
  split at h
  · exact H _ _ h
  · exact h.elim
theorem h_slices_Index_sint_int : Holds Try.prog 51 con_slices_Index_sint_int := by
  refine holds_of_ev (rt := [.c .sc]) (T := TT) (Γ := cs_slices_Index_sint_int) (an := an_slices_Index_sint_int) (N := 19) (c := Try.f51.body.getD .skip) Try.func51 (by kernel_rfl) Try.ntmps51 (by decide) (by decide) mixed tabOK cok_slices_Index_sint_int (by kernel_rfl) ?_
  intro vs kk _ hF
  exact i_slices_Index_sint_int (motive := fun vs => Goes (ev TT cs_slices_Index_sint_int 19 an_slices_Index_sint_int (Try.f51.body.getD .skip) (st0 con_slices_Index_sint_int vs) (fin TT con_slices_Index_sint_int Try.f51.results.toList [.c .sc] vs kk))) hF (fun s0 v1 hF => goes_of (e_slices_Index_sint_int s0 v1 kk) (F_slices_Index_sint_int_S hF))
def con_slices_Contains_sint_int : Con := ⟨[.rd, .rd], true, [.c (.sl .int), .c (.sc)], fun vs k => match vs with
    | [.c (.ro .int s0), .c (.v (.int .i64 v1))] => F_slices_Contains_sint_int s0 v1 (fun r0 => k (.one (.c (.v (.bool r0)))) [])
    | _ => False, false⟩
def cl_slices_Contains_sint_int : List (FuncId × Con) := [(51, con_slices_Index_sint_int)]
def an_slices_Contains_sint_int : Ann := ⟨[], [], []⟩
def cs_slices_Contains_sint_int : Cons := ⟨cl_slices_Contains_sint_int, [], 0, [], []⟩
def fin_slices_Contains_sint_int (s0 : List Int) (v1 : Int) (kk : AV → List A1 → Prop) : Kt := fin TT con_slices_Contains_sint_int Try.f43.results.toList [.c .sc] [.c (.ro .int s0), .c (.v (.int .i64 v1))] kk
theorem g_slices_Contains_sint_int (s0 : List Int) (v1 : Int) (kk : AV → List A1 → Prop) :
    ev TT cs_slices_Contains_sint_int 9 an_slices_Contains_sint_int (Try.f43.body.getD .skip) (st0 con_slices_Contains_sint_int [.c (.ro .int s0), .c (.v (.int .i64 v1))]) (fin TT con_slices_Contains_sint_int Try.f43.results.toList [.c .sc] [.c (.ro .int s0), .c (.v (.int .i64 v1))] kk) = G_slices_Contains_sint_int s0 v1 (fun r0 => kk (.one (.c (.v (.bool r0)))) []) := by kernel_rfl
theorem e_slices_Contains_sint_int (s0 : List Int) (v1 : Int) (kk : AV → List A1 → Prop) :
    ev TT cs_slices_Contains_sint_int 9 an_slices_Contains_sint_int (Try.f43.body.getD .skip) (st0 con_slices_Contains_sint_int [.c (.ro .int s0), .c (.v (.int .i64 v1))]) (fin TT con_slices_Contains_sint_int Try.f43.results.toList [.c .sc] [.c (.ro .int s0), .c (.v (.int .i64 v1))] kk) = S_slices_Contains_sint_int s0 v1 (fun r0 => kk (.one (.c (.v (.bool r0)))) []) := by
  rw [g_slices_Contains_sint_int]
  rfl
theorem clok_slices_Contains_sint_int : ConOK Try.prog cl_slices_Contains_sint_int := consCons h_slices_Index_sint_int ⟨Try.f51, Try.func51, by kernel_rfl, ne_of_beq (by kernel_rfl)⟩ (consNil)
theorem cok_slices_Contains_sint_int : ConsOK Try.prog 9 cs_slices_Contains_sint_int := ⟨clok_slices_Contains_sint_int, inlNil⟩
theorem i_slices_Contains_sint_int {vs : List A1} {kk : AV → List A1 → Prop} {motive : List A1 → Prop} (h : con_slices_Contains_sint_int.F vs kk) (H : ∀ (s0 : List Int) (v1 : Int), F_slices_Contains_sint_int s0 v1 (fun r0 => kk (.one (.c (.v (.bool r0)))) []) → motive [.c (.ro .int s0), .c (.v (.int .i64 v1))]) : motive vs := by
  unfold con_slices_Contains_sint_int at h
  dsimp only at h
  split at h
  · exact H _ _ h
  · exact h.elim
theorem h_slices_Contains_sint_int : Holds Try.prog 43 con_slices_Contains_sint_int := by
  refine holds_of_ev (rt := [.c .sc]) (T := TT) (Γ := cs_slices_Contains_sint_int) (an := an_slices_Contains_sint_int) (N := 9) (c := Try.f43.body.getD .skip) Try.func43 (by kernel_rfl) Try.ntmps43 (by decide) (by decide) mixed tabOK cok_slices_Contains_sint_int (by kernel_rfl) ?_
  intro vs kk _ hF
  exact i_slices_Contains_sint_int (motive := fun vs => Goes (ev TT cs_slices_Contains_sint_int 9 an_slices_Contains_sint_int (Try.f43.body.getD .skip) (st0 con_slices_Contains_sint_int vs) (fin TT con_slices_Contains_sint_int Try.f43.results.toList [.c .sc] vs kk))) hF (fun s0 v1 hF => goes_of (e_slices_Contains_sint_int s0 v1 kk) (F_slices_Contains_sint_int_S hF))
def con_impl_differentKeys : Con := ⟨[.rd], true, [.c (.sl .int)], fun vs k => match vs with
    | [.c (.ro .int list0)] => F_impl_differentKeys list0 (fun r0 => k (.one (.c (.v (.bool r0)))) [])
    | _ => False, false⟩
def cl_impl_differentKeys : List (FuncId × Con) := [(40, con_impl_validKey), (43, con_slices_Contains_sint_int)]
def nm0_impl_differentKeys : List NStep := [.keep [0, 5, 6, 7] []]
def an_impl_differentKeys : Ann := ⟨[], [(2, nm0_impl_differentKeys)], []⟩
def cs_impl_differentKeys : Cons := ⟨cl_impl_differentKeys, [], 0, [], []⟩
def can0_impl_differentKeys (list0 : List Int) (xt6 : Int) (xt7 : Int) : St := ⟨[(0, .one (.c (.ro .int list0))), (5, .one (.c (.ro .int list0))), (6, .one (.c (.v (.int .i64 xt6)))), (7, .one (.c (.v (.int .i64 xt7))))], []⟩
def fin_impl_differentKeys (list0 : List Int) (kk : AV → List A1 → Prop) : Kt := fin TT con_impl_differentKeys Try.f49.results.toList [.c .sc] [.c (.ro .int list0)] kk
def kt0_impl_differentKeys (kf : Kt) : Kt := blockK 0 (seqK (evF TT cs_impl_differentKeys 23 an_impl_differentKeys Try.f49 [1, 1]) (kf))
theorem r0_impl_differentKeys (list0 : List Int) (xt6 : Int) (kk : AV → List A1 → Prop) (n : Nat) (xt7 : Int) :
    iter (evF TT cs_impl_differentKeys 23 an_impl_differentKeys Try.f49 [1, 0, 1, 0, 0]) nm0_impl_differentKeys (kt0_impl_differentKeys (fin_impl_differentKeys list0 kk)) (n + 1) (can0_impl_differentKeys list0 xt6 xt7) = T0_impl_differentKeys list0 xt6 xt7 (fun r0 => kk (.one (.c (.v (.bool r0)))) []) (fun xt7 => iter (evF TT cs_impl_differentKeys 23 an_impl_differentKeys Try.f49 [1, 0, 1, 0, 0]) nm0_impl_differentKeys (kt0_impl_differentKeys (fin_impl_differentKeys list0 kk)) n (can0_impl_differentKeys list0 xt6 xt7)) := by kernel_rfl
theorem l0_impl_differentKeys (list0 : List Int) (xt6 : Int) (kk : AV → List A1 → Prop) : ∀ (n : Nat) (xt7 : Int), iter (evF TT cs_impl_differentKeys 23 an_impl_differentKeys Try.f49 [1, 0, 1, 0, 0]) nm0_impl_differentKeys (kt0_impl_differentKeys (fin_impl_differentKeys list0 kk)) n (can0_impl_differentKeys list0 xt6 xt7) = L0_impl_differentKeys list0 xt6 (fun r0 => kk (.one (.c (.v (.bool r0)))) []) n xt7 := by
  intro n
  induction n with
  | zero => intros; rfl
  | succ n ih =>
    intro xt7
    rw [r0_impl_differentKeys list0 xt6 kk n xt7]
    have hb : (fun xt7 => iter (evF TT cs_impl_differentKeys 23 an_impl_differentKeys Try.f49 [1, 0, 1, 0, 0]) nm0_impl_differentKeys (kt0_impl_differentKeys (fin_impl_differentKeys list0 kk)) n (can0_impl_differentKeys list0 xt6 xt7)) = L0_impl_differentKeys list0 xt6 (fun r0 => kk (.one (.c (.v (.bool r0)))) []) n := by
      funext xt7; exact ih xt7
    rw [hb]
    rfl
theorem g_impl_differentKeys (list0 : List Int) (kk : AV → List A1 → Prop) :
    ev TT cs_impl_differentKeys 23 an_impl_differentKeys (Try.f49.body.getD .skip) (st0 con_impl_differentKeys [.c (.ro .int list0)]) (fin TT con_impl_differentKeys Try.f49.results.toList [.c .sc] [.c (.ro .int list0)] kk) = G_impl_differentKeys list0 (fun list0 xt6 xt7 => ∃ j, iter (evF TT cs_impl_differentKeys 23 an_impl_differentKeys Try.f49 [1, 0, 1, 0, 0]) nm0_impl_differentKeys (kt0_impl_differentKeys (fin_impl_differentKeys list0 kk)) j (can0_impl_differentKeys list0 xt6 xt7)) := by kernel_rfl
theorem e_impl_differentKeys (list0 : List Int) (kk : AV → List A1 → Prop) :
    ev TT cs_impl_differentKeys 23 an_impl_differentKeys (Try.f49.body.getD .skip) (st0 con_impl_differentKeys [.c (.ro .int list0)]) (fin TT con_impl_differentKeys Try.f49.results.toList [.c .sc] [.c (.ro .int list0)] kk) = S_impl_differentKeys list0 (fun r0 => kk (.one (.c (.v (.bool r0)))) []) := by
  rw [g_impl_differentKeys]
  have hi0 : (fun list0 xt6 xt7 => ∃ j, iter (evF TT cs_impl_differentKeys 23 an_impl_differentKeys Try.f49 [1, 0, 1, 0, 0]) nm0_impl_differentKeys (kt0_impl_differentKeys (fin_impl_differentKeys list0 kk)) j (can0_impl_differentKeys list0 xt6 xt7)) = (fun list0 xt6 xt7 => ∃ j, L0_impl_differentKeys list0 xt6 (fun r0 => kk (.one (.c (.v (.bool r0)))) []) j xt7) := by
    funext list0 xt6 xt7
    refine congrArg Exists (funext fun j => ?_)
    rw [l0_impl_differentKeys list0 xt6 kk j xt7]
  rw [hi0]
  rfl
theorem clok_impl_differentKeys : ConOK Try.prog cl_impl_differentKeys := consCons h_impl_validKey ⟨Try.f40, Try.func40, by kernel_rfl, ne_of_beq (by kernel_rfl)⟩ (consCons h_slices_Contains_sint_int ⟨Try.f43, Try.func43, by kernel_rfl, ne_of_beq (by kernel_rfl)⟩ (consNil))
theorem cok_impl_differentKeys : ConsOK Try.prog 23 cs_impl_differentKeys := ⟨clok_impl_differentKeys, inlNil⟩
theorem i_impl_differentKeys {vs : List A1} {kk : AV → List A1 → Prop} {motive : List A1 → Prop} (h : con_impl_differentKeys.F vs kk) (H : ∀ (list0 : List Int), F_impl_differentKeys list0 (fun r0 => kk (.one (.c (.v (.bool r0)))) []) → motive [.c (.ro .int list0)]) : motive vs := by
  unfold con_impl_differentKeys at h
  dsimp only at h
  split at h
  · exact H _ h
  · exact h.elim
theorem h_impl_differentKeys : Holds Try.prog 49 con_impl_differentKeys := by
  refine holds_of_ev (rt := [.c .sc]) (T := TT) (Γ := cs_impl_differentKeys) (an := an_impl_differentKeys) (N := 23) (c := Try.f49.body.getD .skip) Try.func49 (by kernel_rfl) Try.ntmps49 (by decide) (by decide) mixed tabOK cok_impl_differentKeys (by kernel_rfl) ?_
  intro vs kk _ hF
  exact i_impl_differentKeys (motive := fun vs => Goes (ev TT cs_impl_differentKeys 23 an_impl_differentKeys (Try.f49.body.getD .skip) (st0 con_impl_differentKeys vs) (fin TT con_impl_differentKeys Try.f49.results.toList [.c .sc] vs kk))) hF (fun list0 hF => goes_of (e_impl_differentKeys list0 kk) (F_impl_differentKeys_S hF))
def con_impl_ValidLists : Con := ⟨[.rd], true, [.agg [.sc, .sc, .sl .int, .sl .int, .sl .int, .sl .int]], fun vs k => match vs with
    | [.agg [.v (.int .i64 a0Room), .v (.int .i64 a0Target), .ro .int a0Once, .ro .int a0Often, .ro .int a0WasOnce, .ro .int a0WasOften]] => F_impl_ValidLists a0Room a0Target a0Once a0Often a0WasOnce a0WasOften (fun r0 => k (.one (.c (.v (.bool r0)))) [])
    | _ => False, false⟩
def cl_impl_ValidLists : List (FuncId × Con) := [(24, con_impl_validRoom), (31, con_slices_Concat_sint_int), (49, con_impl_differentKeys)]
def an_impl_ValidLists : Ann := ⟨[], [], []⟩
def cs_impl_ValidLists : Cons := ⟨cl_impl_ValidLists, [], 0, [], []⟩
def fin_impl_ValidLists (a0Room : Int) (a0Target : Int) (a0Once : List Int) (a0Often : List Int) (a0WasOnce : List Int) (a0WasOften : List Int) (kk : AV → List A1 → Prop) : Kt := fin TT con_impl_ValidLists Try.f30.results.toList [.c .sc] [.agg [.v (.int .i64 a0Room), .v (.int .i64 a0Target), .ro .int a0Once, .ro .int a0Often, .ro .int a0WasOnce, .ro .int a0WasOften]] kk
theorem g_impl_ValidLists (a0Room : Int) (a0Target : Int) (a0Once : List Int) (a0Often : List Int) (a0WasOnce : List Int) (a0WasOften : List Int) (kk : AV → List A1 → Prop) :
    ev TT cs_impl_ValidLists 71 an_impl_ValidLists (Try.f30.body.getD .skip) (st0 con_impl_ValidLists [.agg [.v (.int .i64 a0Room), .v (.int .i64 a0Target), .ro .int a0Once, .ro .int a0Often, .ro .int a0WasOnce, .ro .int a0WasOften]]) (fin TT con_impl_ValidLists Try.f30.results.toList [.c .sc] [.agg [.v (.int .i64 a0Room), .v (.int .i64 a0Target), .ro .int a0Once, .ro .int a0Often, .ro .int a0WasOnce, .ro .int a0WasOften]] kk) = G_impl_ValidLists a0Room a0Target a0Once a0Often a0WasOnce a0WasOften (fun r0 => kk (.one (.c (.v (.bool r0)))) []) := by kernel_rfl
theorem e_impl_ValidLists (a0Room : Int) (a0Target : Int) (a0Once : List Int) (a0Often : List Int) (a0WasOnce : List Int) (a0WasOften : List Int) (kk : AV → List A1 → Prop) :
    ev TT cs_impl_ValidLists 71 an_impl_ValidLists (Try.f30.body.getD .skip) (st0 con_impl_ValidLists [.agg [.v (.int .i64 a0Room), .v (.int .i64 a0Target), .ro .int a0Once, .ro .int a0Often, .ro .int a0WasOnce, .ro .int a0WasOften]]) (fin TT con_impl_ValidLists Try.f30.results.toList [.c .sc] [.agg [.v (.int .i64 a0Room), .v (.int .i64 a0Target), .ro .int a0Once, .ro .int a0Often, .ro .int a0WasOnce, .ro .int a0WasOften]] kk) = S_impl_ValidLists a0Room a0Target a0Once a0Often a0WasOnce a0WasOften (fun r0 => kk (.one (.c (.v (.bool r0)))) []) := by
  rw [g_impl_ValidLists]
  rfl
theorem clok_impl_ValidLists : ConOK Try.prog cl_impl_ValidLists := consCons h_impl_validRoom ⟨Try.f24, Try.func24, by kernel_rfl, ne_of_beq (by kernel_rfl)⟩ (consCons h_slices_Concat_sint_int ⟨Try.f31, Try.func31, by kernel_rfl, ne_of_beq (by kernel_rfl)⟩ (consCons h_impl_differentKeys ⟨Try.f49, Try.func49, by kernel_rfl, ne_of_beq (by kernel_rfl)⟩ (consNil)))
theorem cok_impl_ValidLists : ConsOK Try.prog 71 cs_impl_ValidLists := ⟨clok_impl_ValidLists, inlNil⟩
theorem i_impl_ValidLists {vs : List A1} {kk : AV → List A1 → Prop} {motive : List A1 → Prop} (h : con_impl_ValidLists.F vs kk) (H : ∀ (a0Room : Int) (a0Target : Int) (a0Once : List Int) (a0Often : List Int) (a0WasOnce : List Int) (a0WasOften : List Int), F_impl_ValidLists a0Room a0Target a0Once a0Often a0WasOnce a0WasOften (fun r0 => kk (.one (.c (.v (.bool r0)))) []) → motive [.agg [.v (.int .i64 a0Room), .v (.int .i64 a0Target), .ro .int a0Once, .ro .int a0Often, .ro .int a0WasOnce, .ro .int a0WasOften]]) : motive vs := by
  unfold con_impl_ValidLists at h
  dsimp only at h
  split at h
  · exact H _ _ _ _ _ _ h
  · exact h.elim
theorem h_impl_ValidLists : Holds Try.prog 30 con_impl_ValidLists := by
  refine holds_of_ev (rt := [.c .sc]) (T := TT) (Γ := cs_impl_ValidLists) (an := an_impl_ValidLists) (N := 71) (c := Try.f30.body.getD .skip) Try.func30 (by kernel_rfl) Try.ntmps30 (by decide) (by decide) mixed tabOK cok_impl_ValidLists (by kernel_rfl) ?_
  intro vs kk _ hF
  exact i_impl_ValidLists (motive := fun vs => Goes (ev TT cs_impl_ValidLists 71 an_impl_ValidLists (Try.f30.body.getD .skip) (st0 con_impl_ValidLists vs) (fin TT con_impl_ValidLists Try.f30.results.toList [.c .sc] vs kk))) hF (fun a0Room a0Target a0Once a0Often a0WasOnce a0WasOften hF => goes_of (e_impl_ValidLists a0Room a0Target a0Once a0Often a0WasOnce a0WasOften kk) (F_impl_ValidLists_S hF))
def con_impl_CachedKeys : Con := ⟨[.rd], true, [.agg [.sc, .sc, .sl .int, .sl .int, .sl .int, .sl .int]], fun vs k => match vs with
    | [.agg [.v (.int .i64 a0Room), .v (.int .i64 a0Target), .ro .int a0Once, .ro .int a0Often, .ro .int a0WasOnce, .ro .int a0WasOften]] => F_impl_CachedKeys a0Room a0Target a0Once a0Often a0WasOnce a0WasOften (fun r0 => k (.one (.c (.ro .int r0))) [])
    | _ => False, false⟩
def cl_impl_CachedKeys : List (FuncId × Con) := [(30, con_impl_ValidLists), (31, con_slices_Concat_sint_int)]
def an_impl_CachedKeys : Ann := ⟨[], [], []⟩
def cs_impl_CachedKeys : Cons := ⟨cl_impl_CachedKeys, [], 0, [], []⟩
def fin_impl_CachedKeys (a0Room : Int) (a0Target : Int) (a0Once : List Int) (a0Often : List Int) (a0WasOnce : List Int) (a0WasOften : List Int) (kk : AV → List A1 → Prop) : Kt := fin TT con_impl_CachedKeys Try.f16.results.toList [.c (.sl .int)] [.agg [.v (.int .i64 a0Room), .v (.int .i64 a0Target), .ro .int a0Once, .ro .int a0Often, .ro .int a0WasOnce, .ro .int a0WasOften]] kk
theorem g_impl_CachedKeys (a0Room : Int) (a0Target : Int) (a0Once : List Int) (a0Often : List Int) (a0WasOnce : List Int) (a0WasOften : List Int) (kk : AV → List A1 → Prop) :
    ev TT cs_impl_CachedKeys 12 an_impl_CachedKeys (Try.f16.body.getD .skip) (st0 con_impl_CachedKeys [.agg [.v (.int .i64 a0Room), .v (.int .i64 a0Target), .ro .int a0Once, .ro .int a0Often, .ro .int a0WasOnce, .ro .int a0WasOften]]) (fin TT con_impl_CachedKeys Try.f16.results.toList [.c (.sl .int)] [.agg [.v (.int .i64 a0Room), .v (.int .i64 a0Target), .ro .int a0Once, .ro .int a0Often, .ro .int a0WasOnce, .ro .int a0WasOften]] kk) = G_impl_CachedKeys a0Room a0Target a0Once a0Often a0WasOnce a0WasOften (fun r0 => kk (.one (.c (.ro .int r0))) []) := by kernel_rfl
theorem e_impl_CachedKeys (a0Room : Int) (a0Target : Int) (a0Once : List Int) (a0Often : List Int) (a0WasOnce : List Int) (a0WasOften : List Int) (kk : AV → List A1 → Prop) :
    ev TT cs_impl_CachedKeys 12 an_impl_CachedKeys (Try.f16.body.getD .skip) (st0 con_impl_CachedKeys [.agg [.v (.int .i64 a0Room), .v (.int .i64 a0Target), .ro .int a0Once, .ro .int a0Often, .ro .int a0WasOnce, .ro .int a0WasOften]]) (fin TT con_impl_CachedKeys Try.f16.results.toList [.c (.sl .int)] [.agg [.v (.int .i64 a0Room), .v (.int .i64 a0Target), .ro .int a0Once, .ro .int a0Often, .ro .int a0WasOnce, .ro .int a0WasOften]] kk) = S_impl_CachedKeys a0Room a0Target a0Once a0Often a0WasOnce a0WasOften (fun r0 => kk (.one (.c (.ro .int r0))) []) := by
  rw [g_impl_CachedKeys]
  rfl
theorem clok_impl_CachedKeys : ConOK Try.prog cl_impl_CachedKeys := consCons h_impl_ValidLists ⟨Try.f30, Try.func30, by kernel_rfl, ne_of_beq (by kernel_rfl)⟩ (consCons h_slices_Concat_sint_int ⟨Try.f31, Try.func31, by kernel_rfl, ne_of_beq (by kernel_rfl)⟩ (consNil))
theorem cok_impl_CachedKeys : ConsOK Try.prog 12 cs_impl_CachedKeys := ⟨clok_impl_CachedKeys, inlNil⟩
theorem i_impl_CachedKeys {vs : List A1} {kk : AV → List A1 → Prop} {motive : List A1 → Prop} (h : con_impl_CachedKeys.F vs kk) (H : ∀ (a0Room : Int) (a0Target : Int) (a0Once : List Int) (a0Often : List Int) (a0WasOnce : List Int) (a0WasOften : List Int), F_impl_CachedKeys a0Room a0Target a0Once a0Often a0WasOnce a0WasOften (fun r0 => kk (.one (.c (.ro .int r0))) []) → motive [.agg [.v (.int .i64 a0Room), .v (.int .i64 a0Target), .ro .int a0Once, .ro .int a0Often, .ro .int a0WasOnce, .ro .int a0WasOften]]) : motive vs := by
  unfold con_impl_CachedKeys at h
  dsimp only at h
  split at h
  · exact H _ _ _ _ _ _ h
  · exact h.elim
theorem h_impl_CachedKeys : Holds Try.prog 16 con_impl_CachedKeys := by
  refine holds_of_ev (rt := [.c (.sl .int)]) (T := TT) (Γ := cs_impl_CachedKeys) (an := an_impl_CachedKeys) (N := 12) (c := Try.f16.body.getD .skip) Try.func16 (by kernel_rfl) Try.ntmps16 (by decide) (by decide) mixed tabOK cok_impl_CachedKeys (by kernel_rfl) ?_
  intro vs kk _ hF
  exact i_impl_CachedKeys (motive := fun vs => Goes (ev TT cs_impl_CachedKeys 12 an_impl_CachedKeys (Try.f16.body.getD .skip) (st0 con_impl_CachedKeys vs) (fin TT con_impl_CachedKeys Try.f16.results.toList [.c (.sl .int)] vs kk))) hF (fun a0Room a0Target a0Once a0Often a0WasOnce a0WasOften hF => goes_of (e_impl_CachedKeys a0Room a0Target a0Once a0Often a0WasOnce a0WasOften kk) (F_impl_CachedKeys_S hF))
def con_laws_eqIntS : Con := ⟨[.rd, .rd], true, [.c (.sl .int), .c (.sl .int)], fun vs k => match vs with
    | [.c (.ro .int a0), .c (.ro .int b1)] => F_laws_eqIntS a0 b1 (fun r0 => k (.one (.c (.v (.bool r0)))) [])
    | _ => False, false⟩
def cl_laws_eqIntS : List (FuncId × Con) := []
def nm0_laws_eqIntS : List NStep := [.keep [0, 1, 5] []]
def an_laws_eqIntS : Ann := ⟨[(6, .take 0 (.take 1 (.take 2 (.take 3 (.take 4 (.take 5 (.take 6 (.take 7 (.take 8 (.done))))))))), [])], [(4, nm0_laws_eqIntS)], []⟩
def cs_laws_eqIntS : Cons := ⟨cl_laws_eqIntS, [], 0, [], []⟩
def can0_laws_eqIntS (a0 : List Int) (b1 : List Int) (xi5 : Int) : St := ⟨[(0, .one (.c (.ro .int a0))), (1, .one (.c (.ro .int b1))), (5, .one (.c (.v (.int .i64 xi5))))], []⟩
def fin_laws_eqIntS (a0 : List Int) (b1 : List Int) (kk : AV → List A1 → Prop) : Kt := fin TT con_laws_eqIntS Try.f9.results.toList [.c .sc] [.c (.ro .int a0), .c (.ro .int b1)] kk
def kt0_laws_eqIntS (kf : Kt) : Kt := blockK 0 (seqK (evF TT cs_laws_eqIntS 26 an_laws_eqIntS Try.f9 [1, 1, 1]) (kf))
theorem r0_laws_eqIntS (a0 : List Int) (b1 : List Int) (kk : AV → List A1 → Prop) (n : Nat) (xi5 : Int) :
    iter (evF TT cs_laws_eqIntS 26 an_laws_eqIntS Try.f9 [1, 1, 0, 1, 0, 0]) nm0_laws_eqIntS (kt0_laws_eqIntS (fin_laws_eqIntS a0 b1 kk)) (n + 1) (can0_laws_eqIntS a0 b1 xi5) = T0_laws_eqIntS a0 b1 xi5 (fun r0 => kk (.one (.c (.v (.bool r0)))) []) (fun xi5 => iter (evF TT cs_laws_eqIntS 26 an_laws_eqIntS Try.f9 [1, 1, 0, 1, 0, 0]) nm0_laws_eqIntS (kt0_laws_eqIntS (fin_laws_eqIntS a0 b1 kk)) n (can0_laws_eqIntS a0 b1 xi5)) := by kernel_rfl
theorem l0_laws_eqIntS (a0 : List Int) (b1 : List Int) (kk : AV → List A1 → Prop) : ∀ (n : Nat) (xi5 : Int), iter (evF TT cs_laws_eqIntS 26 an_laws_eqIntS Try.f9 [1, 1, 0, 1, 0, 0]) nm0_laws_eqIntS (kt0_laws_eqIntS (fin_laws_eqIntS a0 b1 kk)) n (can0_laws_eqIntS a0 b1 xi5) = L0_laws_eqIntS a0 b1 (fun r0 => kk (.one (.c (.v (.bool r0)))) []) n xi5 := by
  intro n
  induction n with
  | zero => intros; rfl
  | succ n ih =>
    intro xi5
    rw [r0_laws_eqIntS a0 b1 kk n xi5]
    have hb : (fun xi5 => iter (evF TT cs_laws_eqIntS 26 an_laws_eqIntS Try.f9 [1, 1, 0, 1, 0, 0]) nm0_laws_eqIntS (kt0_laws_eqIntS (fin_laws_eqIntS a0 b1 kk)) n (can0_laws_eqIntS a0 b1 xi5)) = L0_laws_eqIntS a0 b1 (fun r0 => kk (.one (.c (.v (.bool r0)))) []) n := by
      funext xi5; exact ih xi5
    rw [hb]
    rfl
theorem g_laws_eqIntS (a0 : List Int) (b1 : List Int) (kk : AV → List A1 → Prop) :
    ev TT cs_laws_eqIntS 26 an_laws_eqIntS (Try.f9.body.getD .skip) (st0 con_laws_eqIntS [.c (.ro .int a0), .c (.ro .int b1)]) (fin TT con_laws_eqIntS Try.f9.results.toList [.c .sc] [.c (.ro .int a0), .c (.ro .int b1)] kk) = G_laws_eqIntS a0 b1 (fun r0 => kk (.one (.c (.v (.bool r0)))) []) (fun a0 b1 xi5 => ∃ j, iter (evF TT cs_laws_eqIntS 26 an_laws_eqIntS Try.f9 [1, 1, 0, 1, 0, 0]) nm0_laws_eqIntS (kt0_laws_eqIntS (fin_laws_eqIntS a0 b1 kk)) j (can0_laws_eqIntS a0 b1 xi5)) := by kernel_rfl
theorem e_laws_eqIntS (a0 : List Int) (b1 : List Int) (kk : AV → List A1 → Prop) :
    ev TT cs_laws_eqIntS 26 an_laws_eqIntS (Try.f9.body.getD .skip) (st0 con_laws_eqIntS [.c (.ro .int a0), .c (.ro .int b1)]) (fin TT con_laws_eqIntS Try.f9.results.toList [.c .sc] [.c (.ro .int a0), .c (.ro .int b1)] kk) = S_laws_eqIntS a0 b1 (fun r0 => kk (.one (.c (.v (.bool r0)))) []) := by
  rw [g_laws_eqIntS]
  have hi0 : (fun a0 b1 xi5 => ∃ j, iter (evF TT cs_laws_eqIntS 26 an_laws_eqIntS Try.f9 [1, 1, 0, 1, 0, 0]) nm0_laws_eqIntS (kt0_laws_eqIntS (fin_laws_eqIntS a0 b1 kk)) j (can0_laws_eqIntS a0 b1 xi5)) = (fun a0 b1 xi5 => ∃ j, L0_laws_eqIntS a0 b1 (fun r0 => kk (.one (.c (.v (.bool r0)))) []) j xi5) := by
    funext a0 b1 xi5
    refine congrArg Exists (funext fun j => ?_)
    rw [l0_laws_eqIntS a0 b1 kk j xi5]
  rw [hi0]
  rfl
theorem clok_laws_eqIntS : ConOK Try.prog cl_laws_eqIntS := consNil
theorem cok_laws_eqIntS : ConsOK Try.prog 26 cs_laws_eqIntS := ⟨clok_laws_eqIntS, inlNil⟩
theorem i_laws_eqIntS {vs : List A1} {kk : AV → List A1 → Prop} {motive : List A1 → Prop} (h : con_laws_eqIntS.F vs kk) (H : ∀ (a0 : List Int) (b1 : List Int), F_laws_eqIntS a0 b1 (fun r0 => kk (.one (.c (.v (.bool r0)))) []) → motive [.c (.ro .int a0), .c (.ro .int b1)]) : motive vs := by
  unfold con_laws_eqIntS at h
  dsimp only at h
  split at h
  · exact H _ _ h
  · exact h.elim
theorem h_laws_eqIntS : Holds Try.prog 9 con_laws_eqIntS := by
  refine holds_of_ev (rt := [.c .sc]) (T := TT) (Γ := cs_laws_eqIntS) (an := an_laws_eqIntS) (N := 26) (c := Try.f9.body.getD .skip) Try.func9 (by kernel_rfl) Try.ntmps9 (by decide) (by decide) mixed tabOK cok_laws_eqIntS (by kernel_rfl) ?_
  intro vs kk _ hF
  exact i_laws_eqIntS (motive := fun vs => Goes (ev TT cs_laws_eqIntS 26 an_laws_eqIntS (Try.f9.body.getD .skip) (st0 con_laws_eqIntS vs) (fin TT con_laws_eqIntS Try.f9.results.toList [.c .sc] vs kk))) hF (fun a0 b1 hF => goes_of (e_laws_eqIntS a0 b1 kk) (F_laws_eqIntS_S hF))
def con_laws_eqLists : Con := ⟨[.rd, .rd], true, [.agg [.sc, .sc, .sl .int, .sl .int, .sl .int, .sl .int], .agg [.sc, .sc, .sl .int, .sl .int, .sl .int, .sl .int]], fun vs k => match vs with
    | [.agg [.v (.int .i64 a0Room), .v (.int .i64 a0Target), .ro .int a0Once, .ro .int a0Often, .ro .int a0WasOnce, .ro .int a0WasOften], .agg [.v (.int .i64 b1Room), .v (.int .i64 b1Target), .ro .int b1Once, .ro .int b1Often, .ro .int b1WasOnce, .ro .int b1WasOften]] => F_laws_eqLists a0Room a0Target a0Once a0Often a0WasOnce a0WasOften b1Room b1Target b1Once b1Often b1WasOnce b1WasOften (fun r0 => k (.one (.c (.v (.bool r0)))) [])
    | _ => False, false⟩
def cl_laws_eqLists : List (FuncId × Con) := [(9, con_laws_eqIntS)]
def an_laws_eqLists : Ann := ⟨[], [], []⟩
def cs_laws_eqLists : Cons := ⟨cl_laws_eqLists, [], 0, [], []⟩
def fin_laws_eqLists (a0Room : Int) (a0Target : Int) (a0Once : List Int) (a0Often : List Int) (a0WasOnce : List Int) (a0WasOften : List Int) (b1Room : Int) (b1Target : Int) (b1Once : List Int) (b1Often : List Int) (b1WasOnce : List Int) (b1WasOften : List Int) (kk : AV → List A1 → Prop) : Kt := fin TT con_laws_eqLists Try.f8.results.toList [.c .sc] [.agg [.v (.int .i64 a0Room), .v (.int .i64 a0Target), .ro .int a0Once, .ro .int a0Often, .ro .int a0WasOnce, .ro .int a0WasOften], .agg [.v (.int .i64 b1Room), .v (.int .i64 b1Target), .ro .int b1Once, .ro .int b1Often, .ro .int b1WasOnce, .ro .int b1WasOften]] kk
theorem g_laws_eqLists (a0Room : Int) (a0Target : Int) (a0Once : List Int) (a0Often : List Int) (a0WasOnce : List Int) (a0WasOften : List Int) (b1Room : Int) (b1Target : Int) (b1Once : List Int) (b1Often : List Int) (b1WasOnce : List Int) (b1WasOften : List Int) (kk : AV → List A1 → Prop) :
    ev TT cs_laws_eqLists 39 an_laws_eqLists (Try.f8.body.getD .skip) (st0 con_laws_eqLists [.agg [.v (.int .i64 a0Room), .v (.int .i64 a0Target), .ro .int a0Once, .ro .int a0Often, .ro .int a0WasOnce, .ro .int a0WasOften], .agg [.v (.int .i64 b1Room), .v (.int .i64 b1Target), .ro .int b1Once, .ro .int b1Often, .ro .int b1WasOnce, .ro .int b1WasOften]]) (fin TT con_laws_eqLists Try.f8.results.toList [.c .sc] [.agg [.v (.int .i64 a0Room), .v (.int .i64 a0Target), .ro .int a0Once, .ro .int a0Often, .ro .int a0WasOnce, .ro .int a0WasOften], .agg [.v (.int .i64 b1Room), .v (.int .i64 b1Target), .ro .int b1Once, .ro .int b1Often, .ro .int b1WasOnce, .ro .int b1WasOften]] kk) = G_laws_eqLists a0Room a0Target a0Once a0Often a0WasOnce a0WasOften b1Room b1Target b1Once b1Often b1WasOnce b1WasOften (fun r0 => kk (.one (.c (.v (.bool r0)))) []) := by kernel_rfl
theorem e_laws_eqLists (a0Room : Int) (a0Target : Int) (a0Once : List Int) (a0Often : List Int) (a0WasOnce : List Int) (a0WasOften : List Int) (b1Room : Int) (b1Target : Int) (b1Once : List Int) (b1Often : List Int) (b1WasOnce : List Int) (b1WasOften : List Int) (kk : AV → List A1 → Prop) :
    ev TT cs_laws_eqLists 39 an_laws_eqLists (Try.f8.body.getD .skip) (st0 con_laws_eqLists [.agg [.v (.int .i64 a0Room), .v (.int .i64 a0Target), .ro .int a0Once, .ro .int a0Often, .ro .int a0WasOnce, .ro .int a0WasOften], .agg [.v (.int .i64 b1Room), .v (.int .i64 b1Target), .ro .int b1Once, .ro .int b1Often, .ro .int b1WasOnce, .ro .int b1WasOften]]) (fin TT con_laws_eqLists Try.f8.results.toList [.c .sc] [.agg [.v (.int .i64 a0Room), .v (.int .i64 a0Target), .ro .int a0Once, .ro .int a0Often, .ro .int a0WasOnce, .ro .int a0WasOften], .agg [.v (.int .i64 b1Room), .v (.int .i64 b1Target), .ro .int b1Once, .ro .int b1Often, .ro .int b1WasOnce, .ro .int b1WasOften]] kk) = S_laws_eqLists a0Room a0Target a0Once a0Often a0WasOnce a0WasOften b1Room b1Target b1Once b1Often b1WasOnce b1WasOften (fun r0 => kk (.one (.c (.v (.bool r0)))) []) := by
  rw [g_laws_eqLists]
  rfl
theorem clok_laws_eqLists : ConOK Try.prog cl_laws_eqLists := consCons h_laws_eqIntS ⟨Try.f9, Try.func9, by kernel_rfl, ne_of_beq (by kernel_rfl)⟩ (consNil)
theorem cok_laws_eqLists : ConsOK Try.prog 39 cs_laws_eqLists := ⟨clok_laws_eqLists, inlNil⟩
theorem i_laws_eqLists {vs : List A1} {kk : AV → List A1 → Prop} {motive : List A1 → Prop} (h : con_laws_eqLists.F vs kk) (H : ∀ (a0Room : Int) (a0Target : Int) (a0Once : List Int) (a0Often : List Int) (a0WasOnce : List Int) (a0WasOften : List Int) (b1Room : Int) (b1Target : Int) (b1Once : List Int) (b1Often : List Int) (b1WasOnce : List Int) (b1WasOften : List Int), F_laws_eqLists a0Room a0Target a0Once a0Often a0WasOnce a0WasOften b1Room b1Target b1Once b1Often b1WasOnce b1WasOften (fun r0 => kk (.one (.c (.v (.bool r0)))) []) → motive [.agg [.v (.int .i64 a0Room), .v (.int .i64 a0Target), .ro .int a0Once, .ro .int a0Often, .ro .int a0WasOnce, .ro .int a0WasOften], .agg [.v (.int .i64 b1Room), .v (.int .i64 b1Target), .ro .int b1Once, .ro .int b1Often, .ro .int b1WasOnce, .ro .int b1WasOften]]) : motive vs := by
  unfold con_laws_eqLists at h
  dsimp only at h
  split at h
  · exact H _ _ _ _ _ _ _ _ _ _ _ _ h
  · exact h.elim
theorem h_laws_eqLists : Holds Try.prog 8 con_laws_eqLists := by
  refine holds_of_ev (rt := [.c .sc]) (T := TT) (Γ := cs_laws_eqLists) (an := an_laws_eqLists) (N := 39) (c := Try.f8.body.getD .skip) Try.func8 (by kernel_rfl) Try.ntmps8 (by decide) (by decide) mixed tabOK cok_laws_eqLists (by kernel_rfl) ?_
  intro vs kk _ hF
  exact i_laws_eqLists (motive := fun vs => Goes (ev TT cs_laws_eqLists 39 an_laws_eqLists (Try.f8.body.getD .skip) (st0 con_laws_eqLists vs) (fin TT con_laws_eqLists Try.f8.results.toList [.c .sc] vs kk))) hF (fun a0Room a0Target a0Once a0Often a0WasOnce a0WasOften b1Room b1Target b1Once b1Often b1WasOnce b1WasOften hF => goes_of (e_laws_eqLists a0Room a0Target a0Once a0Often a0WasOnce a0WasOften b1Room b1Target b1Once b1Often b1WasOnce b1WasOften kk) (F_laws_eqLists_S hF))
def con_laws_markIntS : Con := ⟨[.mu, .rd], true, [.c (.sl .int), .c (.sc)], fun vs k => match vs with
    | [.c (.ro .int a0), .c (.v (.int .i64 k1))] => F_laws_markIntS a0 k1 (fun r0 r1 => k (.one (.c (.v (.int .i64 r0)))) [.c (.ro .int r1)])
    | _ => False, false⟩
def cl_laws_markIntS : List (FuncId × Con) := []
def nm0_laws_markIntS : List NStep := [.keep [0, 1, 5] [100000]]
def an_laws_markIntS : Ann := ⟨[], [(2, nm0_laws_markIntS)], []⟩
def cs_laws_markIntS : Cons := ⟨cl_laws_markIntS, [], 0, [], []⟩
def can0_laws_markIntS (xk1 : Int) (xi5 : Int) (xy100000 : List Int) : St := ⟨[(0, .one (.c (.ow 100000))), (1, .one (.c (.v (.int .i64 xk1)))), (5, .one (.c (.v (.int .i64 xi5))))], [(100000, .row .int xy100000)]⟩
def fin_laws_markIntS (a0 : List Int) (k1 : Int) (kk : AV → List A1 → Prop) : Kt := fin TT con_laws_markIntS Try.f10.results.toList [.c .sc] [.c (.ro .int a0), .c (.v (.int .i64 k1))] kk
def kt0_laws_markIntS (kf : Kt) : Kt := blockK 0 (seqK (evF TT cs_laws_markIntS 19 an_laws_markIntS Try.f10 [1, 1]) (kf))
theorem r0_laws_markIntS (a0 : List Int) (k1 : Int) (kk : AV → List A1 → Prop) (n : Nat) (xk1 : Int) (xi5 : Int) (xy100000 : List Int) :
    iter (evF TT cs_laws_markIntS 19 an_laws_markIntS Try.f10 [1, 0, 1, 0, 0]) nm0_laws_markIntS (kt0_laws_markIntS (fin_laws_markIntS a0 k1 kk)) (n + 1) (can0_laws_markIntS xk1 xi5 xy100000) = T0_laws_markIntS xk1 xi5 xy100000 (fun r0 r1 => kk (.one (.c (.v (.int .i64 r0)))) [.c (.ro .int r1)]) (fun xk1 xi5 xy100000 => iter (evF TT cs_laws_markIntS 19 an_laws_markIntS Try.f10 [1, 0, 1, 0, 0]) nm0_laws_markIntS (kt0_laws_markIntS (fin_laws_markIntS a0 k1 kk)) n (can0_laws_markIntS xk1 xi5 xy100000)) := by kernel_rfl
theorem l0_laws_markIntS (a0 : List Int) (k1 : Int) (kk : AV → List A1 → Prop) : ∀ (n : Nat) (xk1 : Int) (xi5 : Int) (xy100000 : List Int), iter (evF TT cs_laws_markIntS 19 an_laws_markIntS Try.f10 [1, 0, 1, 0, 0]) nm0_laws_markIntS (kt0_laws_markIntS (fin_laws_markIntS a0 k1 kk)) n (can0_laws_markIntS xk1 xi5 xy100000) = L0_laws_markIntS (fun r0 r1 => kk (.one (.c (.v (.int .i64 r0)))) [.c (.ro .int r1)]) n xk1 xi5 xy100000 := by
  intro n
  induction n with
  | zero => intros; rfl
  | succ n ih =>
    intro xk1 xi5 xy100000
    rw [r0_laws_markIntS a0 k1 kk n xk1 xi5 xy100000]
    have hb : (fun xk1 xi5 xy100000 => iter (evF TT cs_laws_markIntS 19 an_laws_markIntS Try.f10 [1, 0, 1, 0, 0]) nm0_laws_markIntS (kt0_laws_markIntS (fin_laws_markIntS a0 k1 kk)) n (can0_laws_markIntS xk1 xi5 xy100000)) = L0_laws_markIntS (fun r0 r1 => kk (.one (.c (.v (.int .i64 r0)))) [.c (.ro .int r1)]) n := by
      funext xk1 xi5 xy100000; exact ih xk1 xi5 xy100000
    rw [hb]
    rfl
theorem g_laws_markIntS (a0 : List Int) (k1 : Int) (kk : AV → List A1 → Prop) :
    ev TT cs_laws_markIntS 19 an_laws_markIntS (Try.f10.body.getD .skip) (st0 con_laws_markIntS [.c (.ro .int a0), .c (.v (.int .i64 k1))]) (fin TT con_laws_markIntS Try.f10.results.toList [.c .sc] [.c (.ro .int a0), .c (.v (.int .i64 k1))] kk) = G_laws_markIntS a0 k1 (fun xk1 xi5 xy100000 => ∃ j, iter (evF TT cs_laws_markIntS 19 an_laws_markIntS Try.f10 [1, 0, 1, 0, 0]) nm0_laws_markIntS (kt0_laws_markIntS (fin_laws_markIntS a0 k1 kk)) j (can0_laws_markIntS xk1 xi5 xy100000)) := by kernel_rfl
theorem e_laws_markIntS (a0 : List Int) (k1 : Int) (kk : AV → List A1 → Prop) :
    ev TT cs_laws_markIntS 19 an_laws_markIntS (Try.f10.body.getD .skip) (st0 con_laws_markIntS [.c (.ro .int a0), .c (.v (.int .i64 k1))]) (fin TT con_laws_markIntS Try.f10.results.toList [.c .sc] [.c (.ro .int a0), .c (.v (.int .i64 k1))] kk) = S_laws_markIntS a0 k1 (fun r0 r1 => kk (.one (.c (.v (.int .i64 r0)))) [.c (.ro .int r1)]) := by
  rw [g_laws_markIntS]
  have hi0 : (fun xk1 xi5 xy100000 => ∃ j, iter (evF TT cs_laws_markIntS 19 an_laws_markIntS Try.f10 [1, 0, 1, 0, 0]) nm0_laws_markIntS (kt0_laws_markIntS (fin_laws_markIntS a0 k1 kk)) j (can0_laws_markIntS xk1 xi5 xy100000)) = (fun xk1 xi5 xy100000 => ∃ j, L0_laws_markIntS (fun r0 r1 => kk (.one (.c (.v (.int .i64 r0)))) [.c (.ro .int r1)]) j xk1 xi5 xy100000) := by
    funext xk1 xi5 xy100000
    refine congrArg Exists (funext fun j => ?_)
    rw [l0_laws_markIntS a0 k1 kk j xk1 xi5 xy100000]
  rw [hi0]
  rfl
theorem clok_laws_markIntS : ConOK Try.prog cl_laws_markIntS := consNil
theorem cok_laws_markIntS : ConsOK Try.prog 19 cs_laws_markIntS := ⟨clok_laws_markIntS, inlNil⟩
theorem i_laws_markIntS {vs : List A1} {kk : AV → List A1 → Prop} {motive : List A1 → Prop} (h : con_laws_markIntS.F vs kk) (H : ∀ (a0 : List Int) (k1 : Int), F_laws_markIntS a0 k1 (fun r0 r1 => kk (.one (.c (.v (.int .i64 r0)))) [.c (.ro .int r1)]) → motive [.c (.ro .int a0), .c (.v (.int .i64 k1))]) : motive vs := by
  unfold con_laws_markIntS at h
  dsimp only at h
  split at h
  · exact H _ _ h
  · exact h.elim
theorem h_laws_markIntS : Holds Try.prog 10 con_laws_markIntS := by
  refine holds_of_ev (rt := [.c .sc]) (T := TT) (Γ := cs_laws_markIntS) (an := an_laws_markIntS) (N := 19) (c := Try.f10.body.getD .skip) Try.func10 (by kernel_rfl) Try.ntmps10 (by decide) (by decide) mixed tabOK cok_laws_markIntS (by kernel_rfl) ?_
  intro vs kk _ hF
  exact i_laws_markIntS (motive := fun vs => Goes (ev TT cs_laws_markIntS 19 an_laws_markIntS (Try.f10.body.getD .skip) (st0 con_laws_markIntS vs) (fin TT con_laws_markIntS Try.f10.results.toList [.c .sc] vs kk))) hF (fun a0 k1 hF => goes_of (e_laws_markIntS a0 k1 kk) (F_laws_markIntS_S hF))
def con_laws_markLists : Con := ⟨[.mu, .rd], true, [.agg [.sc, .sc, .sl .int, .sl .int, .sl .int, .sl .int], .c (.sc)], fun vs k => match vs with
    | [.agg [.v (.int .i64 a0Room), .v (.int .i64 a0Target), .ro .int a0Once, .ro .int a0Often, .ro .int a0WasOnce, .ro .int a0WasOften], .c (.v (.int .i64 k1))] => F_laws_markLists a0Room a0Target a0Once a0Often a0WasOnce a0WasOften k1 (fun r0 r1 r2 r3 r4 => k (.one (.c (.v (.int .i64 r0)))) [.agg [.v (.int .i64 a0Room), .v (.int .i64 a0Target), .ro .int r1, .ro .int r2, .ro .int r3, .ro .int r4]])
    | _ => False, false⟩
def cl_laws_markLists : List (FuncId × Con) := [(10, con_laws_markIntS)]
def an_laws_markLists : Ann := ⟨[], [], []⟩
def cs_laws_markLists : Cons := ⟨cl_laws_markLists, [], 0, [], []⟩
def fin_laws_markLists (a0Room : Int) (a0Target : Int) (a0Once : List Int) (a0Often : List Int) (a0WasOnce : List Int) (a0WasOften : List Int) (k1 : Int) (kk : AV → List A1 → Prop) : Kt := fin TT con_laws_markLists Try.f11.results.toList [.c .sc] [.agg [.v (.int .i64 a0Room), .v (.int .i64 a0Target), .ro .int a0Once, .ro .int a0Often, .ro .int a0WasOnce, .ro .int a0WasOften], .c (.v (.int .i64 k1))] kk
theorem g_laws_markLists (a0Room : Int) (a0Target : Int) (a0Once : List Int) (a0Often : List Int) (a0WasOnce : List Int) (a0WasOften : List Int) (k1 : Int) (kk : AV → List A1 → Prop) :
    ev TT cs_laws_markLists 22 an_laws_markLists (Try.f11.body.getD .skip) (st0 con_laws_markLists [.agg [.v (.int .i64 a0Room), .v (.int .i64 a0Target), .ro .int a0Once, .ro .int a0Often, .ro .int a0WasOnce, .ro .int a0WasOften], .c (.v (.int .i64 k1))]) (fin TT con_laws_markLists Try.f11.results.toList [.c .sc] [.agg [.v (.int .i64 a0Room), .v (.int .i64 a0Target), .ro .int a0Once, .ro .int a0Often, .ro .int a0WasOnce, .ro .int a0WasOften], .c (.v (.int .i64 k1))] kk) = G_laws_markLists a0Room a0Target a0Once a0Often a0WasOnce a0WasOften k1 (fun r0 r1 r2 r3 r4 => kk (.one (.c (.v (.int .i64 r0)))) [.agg [.v (.int .i64 a0Room), .v (.int .i64 a0Target), .ro .int r1, .ro .int r2, .ro .int r3, .ro .int r4]]) := by kernel_rfl
theorem e_laws_markLists (a0Room : Int) (a0Target : Int) (a0Once : List Int) (a0Often : List Int) (a0WasOnce : List Int) (a0WasOften : List Int) (k1 : Int) (kk : AV → List A1 → Prop) :
    ev TT cs_laws_markLists 22 an_laws_markLists (Try.f11.body.getD .skip) (st0 con_laws_markLists [.agg [.v (.int .i64 a0Room), .v (.int .i64 a0Target), .ro .int a0Once, .ro .int a0Often, .ro .int a0WasOnce, .ro .int a0WasOften], .c (.v (.int .i64 k1))]) (fin TT con_laws_markLists Try.f11.results.toList [.c .sc] [.agg [.v (.int .i64 a0Room), .v (.int .i64 a0Target), .ro .int a0Once, .ro .int a0Often, .ro .int a0WasOnce, .ro .int a0WasOften], .c (.v (.int .i64 k1))] kk) = S_laws_markLists a0Room a0Target a0Once a0Often a0WasOnce a0WasOften k1 (fun r0 r1 r2 r3 r4 => kk (.one (.c (.v (.int .i64 r0)))) [.agg [.v (.int .i64 a0Room), .v (.int .i64 a0Target), .ro .int r1, .ro .int r2, .ro .int r3, .ro .int r4]]) := by
  rw [g_laws_markLists]
  rfl
theorem clok_laws_markLists : ConOK Try.prog cl_laws_markLists := consCons h_laws_markIntS ⟨Try.f10, Try.func10, by kernel_rfl, ne_of_beq (by kernel_rfl)⟩ (consNil)
theorem cok_laws_markLists : ConsOK Try.prog 22 cs_laws_markLists := ⟨clok_laws_markLists, inlNil⟩
theorem i_laws_markLists {vs : List A1} {kk : AV → List A1 → Prop} {motive : List A1 → Prop} (h : con_laws_markLists.F vs kk) (H : ∀ (a0Room : Int) (a0Target : Int) (a0Once : List Int) (a0Often : List Int) (a0WasOnce : List Int) (a0WasOften : List Int) (k1 : Int), F_laws_markLists a0Room a0Target a0Once a0Often a0WasOnce a0WasOften k1 (fun r0 r1 r2 r3 r4 => kk (.one (.c (.v (.int .i64 r0)))) [.agg [.v (.int .i64 a0Room), .v (.int .i64 a0Target), .ro .int r1, .ro .int r2, .ro .int r3, .ro .int r4]]) → motive [.agg [.v (.int .i64 a0Room), .v (.int .i64 a0Target), .ro .int a0Once, .ro .int a0Often, .ro .int a0WasOnce, .ro .int a0WasOften], .c (.v (.int .i64 k1))]) : motive vs := by
  unfold con_laws_markLists at h
  dsimp only at h
  split at h
  · exact H _ _ _ _ _ _ _ h
  · exact h.elim
theorem h_laws_markLists : Holds Try.prog 11 con_laws_markLists := by
  refine holds_of_ev (rt := [.c .sc]) (T := TT) (Γ := cs_laws_markLists) (an := an_laws_markLists) (N := 22) (c := Try.f11.body.getD .skip) Try.func11 (by kernel_rfl) Try.ntmps11 (by decide) (by decide) mixed tabOK cok_laws_markLists (by kernel_rfl) ?_
  intro vs kk _ hF
  exact i_laws_markLists (motive := fun vs => Goes (ev TT cs_laws_markLists 22 an_laws_markLists (Try.f11.body.getD .skip) (st0 con_laws_markLists vs) (fin TT con_laws_markLists Try.f11.results.toList [.c .sc] vs kk))) hF (fun a0Room a0Target a0Once a0Often a0WasOnce a0WasOften k1 hF => goes_of (e_laws_markLists a0Room a0Target a0Once a0Often a0WasOnce a0WasOften k1 kk) (F_laws_markLists_S hF))
def con_laws_heldIntS : Con := ⟨[.rd, .rd], true, [.c (.sl .int), .c (.sc)], fun vs k => match vs with
    | [.c (.ro .int a0), .c (.v (.int .i64 k1))] => F_laws_heldIntS a0 k1 (fun r0 => k (.one (.c (.v (.int .i64 r0)))) [])
    | _ => False, false⟩
def cl_laws_heldIntS : List (FuncId × Con) := []
def nm0_laws_heldIntS : List NStep := [.keep [0, 1, 5] []]
def an_laws_heldIntS : Ann := ⟨[], [(2, nm0_laws_heldIntS)], []⟩
def cs_laws_heldIntS : Cons := ⟨cl_laws_heldIntS, [], 0, [], []⟩
def can0_laws_heldIntS (a0 : List Int) (xk1 : Int) (xi5 : Int) : St := ⟨[(0, .one (.c (.ro .int a0))), (1, .one (.c (.v (.int .i64 xk1)))), (5, .one (.c (.v (.int .i64 xi5))))], []⟩
def fin_laws_heldIntS (a0 : List Int) (k1 : Int) (kk : AV → List A1 → Prop) : Kt := fin TT con_laws_heldIntS Try.f17.results.toList [.c .sc] [.c (.ro .int a0), .c (.v (.int .i64 k1))] kk
def kt0_laws_heldIntS (kf : Kt) : Kt := blockK 0 (seqK (evF TT cs_laws_heldIntS 21 an_laws_heldIntS Try.f17 [1, 1]) (kf))
theorem r0_laws_heldIntS (a0 : List Int) (k1 : Int) (kk : AV → List A1 → Prop) (n : Nat) (xk1 : Int) (xi5 : Int) :
    iter (evF TT cs_laws_heldIntS 21 an_laws_heldIntS Try.f17 [1, 0, 1, 0, 0]) nm0_laws_heldIntS (kt0_laws_heldIntS (fin_laws_heldIntS a0 k1 kk)) (n + 1) (can0_laws_heldIntS a0 xk1 xi5) = T0_laws_heldIntS a0 xk1 xi5 (fun r0 => kk (.one (.c (.v (.int .i64 r0)))) []) (fun xk1 xi5 => iter (evF TT cs_laws_heldIntS 21 an_laws_heldIntS Try.f17 [1, 0, 1, 0, 0]) nm0_laws_heldIntS (kt0_laws_heldIntS (fin_laws_heldIntS a0 k1 kk)) n (can0_laws_heldIntS a0 xk1 xi5)) := by kernel_rfl
theorem l0_laws_heldIntS (a0 : List Int) (k1 : Int) (kk : AV → List A1 → Prop) : ∀ (n : Nat) (xk1 : Int) (xi5 : Int), iter (evF TT cs_laws_heldIntS 21 an_laws_heldIntS Try.f17 [1, 0, 1, 0, 0]) nm0_laws_heldIntS (kt0_laws_heldIntS (fin_laws_heldIntS a0 k1 kk)) n (can0_laws_heldIntS a0 xk1 xi5) = L0_laws_heldIntS a0 (fun r0 => kk (.one (.c (.v (.int .i64 r0)))) []) n xk1 xi5 := by
  intro n
  induction n with
  | zero => intros; rfl
  | succ n ih =>
    intro xk1 xi5
    rw [r0_laws_heldIntS a0 k1 kk n xk1 xi5]
    have hb : (fun xk1 xi5 => iter (evF TT cs_laws_heldIntS 21 an_laws_heldIntS Try.f17 [1, 0, 1, 0, 0]) nm0_laws_heldIntS (kt0_laws_heldIntS (fin_laws_heldIntS a0 k1 kk)) n (can0_laws_heldIntS a0 xk1 xi5)) = L0_laws_heldIntS a0 (fun r0 => kk (.one (.c (.v (.int .i64 r0)))) []) n := by
      funext xk1 xi5; exact ih xk1 xi5
    rw [hb]
    rfl
theorem g_laws_heldIntS (a0 : List Int) (k1 : Int) (kk : AV → List A1 → Prop) :
    ev TT cs_laws_heldIntS 21 an_laws_heldIntS (Try.f17.body.getD .skip) (st0 con_laws_heldIntS [.c (.ro .int a0), .c (.v (.int .i64 k1))]) (fin TT con_laws_heldIntS Try.f17.results.toList [.c .sc] [.c (.ro .int a0), .c (.v (.int .i64 k1))] kk) = G_laws_heldIntS a0 k1 (fun a0 xk1 xi5 => ∃ j, iter (evF TT cs_laws_heldIntS 21 an_laws_heldIntS Try.f17 [1, 0, 1, 0, 0]) nm0_laws_heldIntS (kt0_laws_heldIntS (fin_laws_heldIntS a0 k1 kk)) j (can0_laws_heldIntS a0 xk1 xi5)) := by kernel_rfl
theorem e_laws_heldIntS (a0 : List Int) (k1 : Int) (kk : AV → List A1 → Prop) :
    ev TT cs_laws_heldIntS 21 an_laws_heldIntS (Try.f17.body.getD .skip) (st0 con_laws_heldIntS [.c (.ro .int a0), .c (.v (.int .i64 k1))]) (fin TT con_laws_heldIntS Try.f17.results.toList [.c .sc] [.c (.ro .int a0), .c (.v (.int .i64 k1))] kk) = S_laws_heldIntS a0 k1 (fun r0 => kk (.one (.c (.v (.int .i64 r0)))) []) := by
  rw [g_laws_heldIntS]
  have hi0 : (fun a0 xk1 xi5 => ∃ j, iter (evF TT cs_laws_heldIntS 21 an_laws_heldIntS Try.f17 [1, 0, 1, 0, 0]) nm0_laws_heldIntS (kt0_laws_heldIntS (fin_laws_heldIntS a0 k1 kk)) j (can0_laws_heldIntS a0 xk1 xi5)) = (fun a0 xk1 xi5 => ∃ j, L0_laws_heldIntS a0 (fun r0 => kk (.one (.c (.v (.int .i64 r0)))) []) j xk1 xi5) := by
    funext a0 xk1 xi5
    refine congrArg Exists (funext fun j => ?_)
    rw [l0_laws_heldIntS a0 k1 kk j xk1 xi5]
  rw [hi0]
  rfl
theorem clok_laws_heldIntS : ConOK Try.prog cl_laws_heldIntS := consNil
theorem cok_laws_heldIntS : ConsOK Try.prog 21 cs_laws_heldIntS := ⟨clok_laws_heldIntS, inlNil⟩
theorem i_laws_heldIntS {vs : List A1} {kk : AV → List A1 → Prop} {motive : List A1 → Prop} (h : con_laws_heldIntS.F vs kk) (H : ∀ (a0 : List Int) (k1 : Int), F_laws_heldIntS a0 k1 (fun r0 => kk (.one (.c (.v (.int .i64 r0)))) []) → motive [.c (.ro .int a0), .c (.v (.int .i64 k1))]) : motive vs := by
  unfold con_laws_heldIntS at h
  dsimp only at h
  split at h
  · exact H _ _ h
  · exact h.elim
theorem h_laws_heldIntS : Holds Try.prog 17 con_laws_heldIntS := by
  refine holds_of_ev (rt := [.c .sc]) (T := TT) (Γ := cs_laws_heldIntS) (an := an_laws_heldIntS) (N := 21) (c := Try.f17.body.getD .skip) Try.func17 (by kernel_rfl) Try.ntmps17 (by decide) (by decide) mixed tabOK cok_laws_heldIntS (by kernel_rfl) ?_
  intro vs kk _ hF
  exact i_laws_heldIntS (motive := fun vs => Goes (ev TT cs_laws_heldIntS 21 an_laws_heldIntS (Try.f17.body.getD .skip) (st0 con_laws_heldIntS vs) (fin TT con_laws_heldIntS Try.f17.results.toList [.c .sc] vs kk))) hF (fun a0 k1 hF => goes_of (e_laws_heldIntS a0 k1 kk) (F_laws_heldIntS_S hF))
def con_laws_FnExactCachedKeys : Con := ⟨[.rd], true, [.agg [.sc, .sc, .sl .int, .sl .int, .sl .int, .sl .int]], fun vs k => match vs with
    | [.agg [.v (.int .i64 aA0Room), .v (.int .i64 aA0Target), .ro .int aA0Once, .ro .int aA0Often, .ro .int aA0WasOnce, .ro .int aA0WasOften]] => F_laws_FnExactCachedKeys aA0Room aA0Target aA0Once aA0Often aA0WasOnce aA0WasOften (fun r0 => k (.one (.c (.v (.bool r0)))) [])
    | _ => False, false⟩
def cl_laws_FnExactCachedKeys : List (FuncId × Con) := [(8, con_laws_eqLists), (9, con_laws_eqIntS), (10, con_laws_markIntS), (11, con_laws_markLists), (13, con_laws_szLists), (14, con_spec_CachedKeys), (15, con_laws_toLists), (16, con_impl_CachedKeys), (17, con_laws_heldIntS)]
def an_laws_FnExactCachedKeys : Ann := ⟨[(10, .take 0 (.take 1 (.alt 2 (.alt 3 (.take 4 (.done)) (.none)) (.none))), [16, 80])], [], []⟩
def cs_laws_FnExactCachedKeys : Cons := ⟨cl_laws_FnExactCachedKeys, [], 0, [], []⟩
def fin_laws_FnExactCachedKeys (aA0Room : Int) (aA0Target : Int) (aA0Once : List Int) (aA0Often : List Int) (aA0WasOnce : List Int) (aA0WasOften : List Int) (kk : AV → List A1 → Prop) : Kt := fin TT con_laws_FnExactCachedKeys Try.f4.results.toList [.c .sc] [.agg [.v (.int .i64 aA0Room), .v (.int .i64 aA0Target), .ro .int aA0Once, .ro .int aA0Often, .ro .int aA0WasOnce, .ro .int aA0WasOften]] kk
theorem g_laws_FnExactCachedKeys (aA0Room : Int) (aA0Target : Int) (aA0Once : List Int) (aA0Often : List Int) (aA0WasOnce : List Int) (aA0WasOften : List Int) (kk : AV → List A1 → Prop) :
    ev TT cs_laws_FnExactCachedKeys 69 an_laws_FnExactCachedKeys (Try.f4.body.getD .skip) (st0 con_laws_FnExactCachedKeys [.agg [.v (.int .i64 aA0Room), .v (.int .i64 aA0Target), .ro .int aA0Once, .ro .int aA0Often, .ro .int aA0WasOnce, .ro .int aA0WasOften]]) (fin TT con_laws_FnExactCachedKeys Try.f4.results.toList [.c .sc] [.agg [.v (.int .i64 aA0Room), .v (.int .i64 aA0Target), .ro .int aA0Once, .ro .int aA0Often, .ro .int aA0WasOnce, .ro .int aA0WasOften]] kk) = G_laws_FnExactCachedKeys aA0Room aA0Target aA0Once aA0Often aA0WasOnce aA0WasOften (fun r0 => kk (.one (.c (.v (.bool r0)))) []) := by kernel_rfl
theorem e_laws_FnExactCachedKeys (aA0Room : Int) (aA0Target : Int) (aA0Once : List Int) (aA0Often : List Int) (aA0WasOnce : List Int) (aA0WasOften : List Int) (kk : AV → List A1 → Prop) :
    ev TT cs_laws_FnExactCachedKeys 69 an_laws_FnExactCachedKeys (Try.f4.body.getD .skip) (st0 con_laws_FnExactCachedKeys [.agg [.v (.int .i64 aA0Room), .v (.int .i64 aA0Target), .ro .int aA0Once, .ro .int aA0Often, .ro .int aA0WasOnce, .ro .int aA0WasOften]]) (fin TT con_laws_FnExactCachedKeys Try.f4.results.toList [.c .sc] [.agg [.v (.int .i64 aA0Room), .v (.int .i64 aA0Target), .ro .int aA0Once, .ro .int aA0Often, .ro .int aA0WasOnce, .ro .int aA0WasOften]] kk) = S_laws_FnExactCachedKeys aA0Room aA0Target aA0Once aA0Often aA0WasOnce aA0WasOften (fun r0 => kk (.one (.c (.v (.bool r0)))) []) := by
  rw [g_laws_FnExactCachedKeys]
  rw [G_laws_FnExactCachedKeys_eq]
  rfl
theorem clok_laws_FnExactCachedKeys : ConOK Try.prog cl_laws_FnExactCachedKeys := consCons h_laws_eqLists ⟨Try.f8, Try.func8, by kernel_rfl, ne_of_beq (by kernel_rfl)⟩ (consCons h_laws_eqIntS ⟨Try.f9, Try.func9, by kernel_rfl, ne_of_beq (by kernel_rfl)⟩ (consCons h_laws_markIntS ⟨Try.f10, Try.func10, by kernel_rfl, ne_of_beq (by kernel_rfl)⟩ (consCons h_laws_markLists ⟨Try.f11, Try.func11, by kernel_rfl, ne_of_beq (by kernel_rfl)⟩ (consCons h_laws_szLists ⟨Try.f13, Try.func13, by kernel_rfl, ne_of_beq (by kernel_rfl)⟩ (consCons h_spec_CachedKeys ⟨Try.f14, Try.func14, by kernel_rfl, ne_of_beq (by kernel_rfl)⟩ (consCons h_laws_toLists ⟨Try.f15, Try.func15, by kernel_rfl, ne_of_beq (by kernel_rfl)⟩ (consCons h_impl_CachedKeys ⟨Try.f16, Try.func16, by kernel_rfl, ne_of_beq (by kernel_rfl)⟩ (consCons h_laws_heldIntS ⟨Try.f17, Try.func17, by kernel_rfl, ne_of_beq (by kernel_rfl)⟩ (consNil)))))))))
theorem cok_laws_FnExactCachedKeys : ConsOK Try.prog 69 cs_laws_FnExactCachedKeys := ⟨clok_laws_FnExactCachedKeys, inlNil⟩
theorem i_laws_FnExactCachedKeys {vs : List A1} {kk : AV → List A1 → Prop} {motive : List A1 → Prop} (h : con_laws_FnExactCachedKeys.F vs kk) (H : ∀ (aA0Room : Int) (aA0Target : Int) (aA0Once : List Int) (aA0Often : List Int) (aA0WasOnce : List Int) (aA0WasOften : List Int), F_laws_FnExactCachedKeys aA0Room aA0Target aA0Once aA0Often aA0WasOnce aA0WasOften (fun r0 => kk (.one (.c (.v (.bool r0)))) []) → motive [.agg [.v (.int .i64 aA0Room), .v (.int .i64 aA0Target), .ro .int aA0Once, .ro .int aA0Often, .ro .int aA0WasOnce, .ro .int aA0WasOften]]) : motive vs := by
  unfold con_laws_FnExactCachedKeys at h
  dsimp only at h
  split at h
  · exact H _ _ _ _ _ _ h
  · exact h.elim
theorem h_laws_FnExactCachedKeys : Holds Try.prog 4 con_laws_FnExactCachedKeys := by
  refine holds_of_ev (rt := [.c .sc]) (T := TT) (Γ := cs_laws_FnExactCachedKeys) (an := an_laws_FnExactCachedKeys) (N := 69) (c := Try.f4.body.getD .skip) Try.func4 (by kernel_rfl) Try.ntmps4 (by decide) (by decide) mixed tabOK cok_laws_FnExactCachedKeys (by kernel_rfl) ?_
  intro vs kk _ hF
  exact i_laws_FnExactCachedKeys (motive := fun vs => Goes (ev TT cs_laws_FnExactCachedKeys 69 an_laws_FnExactCachedKeys (Try.f4.body.getD .skip) (st0 con_laws_FnExactCachedKeys vs) (fin TT con_laws_FnExactCachedKeys Try.f4.results.toList [.c .sc] vs kk))) hF (fun aA0Room aA0Target aA0Once aA0Often aA0WasOnce aA0WasOften hF => goes_of (e_laws_FnExactCachedKeys aA0Room aA0Target aA0Once aA0Often aA0WasOnce aA0WasOften kk) (F_laws_FnExactCachedKeys_S hF))
end Go.Ev
