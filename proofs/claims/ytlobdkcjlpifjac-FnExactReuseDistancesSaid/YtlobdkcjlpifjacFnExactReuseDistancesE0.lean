/- What the evaluator gives for these functions: their contracts. No statement is proved here. -/
import Derived.Test.YtlobdkcjlpifjacFnExactReuseDistancesP1
import Derived.Test.YtlobdkcjlpifjacTt
namespace Go.Ev
set_option linter.unusedVariables false
set_option maxRecDepth 100000
open Go Go.Proofs
def con_laws_toIntS : Con := ⟨[.rd], true, [.c (.sl .int)], fun vs k => match vs with
    | [.c (.ro .int a0)] => F_laws_toIntS a0 (fun r0 => k (.one (.c (.ro .int r0))) [])
    | _ => False, false⟩
def cl_laws_toIntS : List (FuncId × Con) := []
def nm0_laws_toIntS : List NStep := [.keep [0, 3, 4] [112]]
def an_laws_toIntS : Ann := ⟨[], [(3, nm0_laws_toIntS)], []⟩
def cs_laws_toIntS : Cons := ⟨cl_laws_toIntS, [], 0, [], []⟩
def can0_laws_toIntS (a0 : List Int) (xi4 : Int) (xy7 : List Int) : St := ⟨[(0, .one (.c (.ro .int a0))), (3, .one (.c (.ow 112))), (4, .one (.c (.v (.int .i64 xi4))))], [(112, .row .int xy7)]⟩
def fin_laws_toIntS (a0 : List Int) (kk : AV → List A1 → Prop) : Kt := fin TT con_laws_toIntS Try.f41.results.toList [.c (.sl .int)] [.c (.ro .int a0)] kk
def kt0_laws_toIntS (kf : Kt) : Kt := blockK 0 (seqK (evF TT cs_laws_toIntS 22 an_laws_toIntS Try.f41 [1, 1, 1]) (kf))
theorem r0_laws_toIntS (a0 : List Int) (kk : AV → List A1 → Prop) (n : Nat) (xi4 : Int) (xy7 : List Int) :
    iter (evF TT cs_laws_toIntS 22 an_laws_toIntS Try.f41 [1, 1, 0, 1, 0, 0]) nm0_laws_toIntS (kt0_laws_toIntS (fin_laws_toIntS a0 kk)) (n + 1) (can0_laws_toIntS a0 xi4 xy7) = T0_laws_toIntS a0 xi4 xy7 (fun r0 => kk (.one (.c (.ro .int r0))) []) (fun xi4 xy7 => iter (evF TT cs_laws_toIntS 22 an_laws_toIntS Try.f41 [1, 1, 0, 1, 0, 0]) nm0_laws_toIntS (kt0_laws_toIntS (fin_laws_toIntS a0 kk)) n (can0_laws_toIntS a0 xi4 xy7)) := by kernel_rfl
theorem l0_laws_toIntS (a0 : List Int) (kk : AV → List A1 → Prop) : ∀ (n : Nat) (xi4 : Int) (xy7 : List Int), iter (evF TT cs_laws_toIntS 22 an_laws_toIntS Try.f41 [1, 1, 0, 1, 0, 0]) nm0_laws_toIntS (kt0_laws_toIntS (fin_laws_toIntS a0 kk)) n (can0_laws_toIntS a0 xi4 xy7) = L0_laws_toIntS a0 (fun r0 => kk (.one (.c (.ro .int r0))) []) n xi4 xy7 := by
  intro n
  induction n with
  | zero => intros; rfl
  | succ n ih =>
    intro xi4 xy7
    rw [r0_laws_toIntS a0 kk n xi4 xy7]
    have hb : (fun xi4 xy7 => iter (evF TT cs_laws_toIntS 22 an_laws_toIntS Try.f41 [1, 1, 0, 1, 0, 0]) nm0_laws_toIntS (kt0_laws_toIntS (fin_laws_toIntS a0 kk)) n (can0_laws_toIntS a0 xi4 xy7)) = L0_laws_toIntS a0 (fun r0 => kk (.one (.c (.ro .int r0))) []) n := by
      funext xi4 xy7; exact ih xi4 xy7
    rw [hb]
    rfl
theorem g_laws_toIntS (a0 : List Int) (kk : AV → List A1 → Prop) :
    ev TT cs_laws_toIntS 22 an_laws_toIntS (Try.f41.body.getD .skip) (st0 con_laws_toIntS [.c (.ro .int a0)]) (fin TT con_laws_toIntS Try.f41.results.toList [.c (.sl .int)] [.c (.ro .int a0)] kk) = G_laws_toIntS a0 (fun a0 xi4 xy7 => ∃ j, iter (evF TT cs_laws_toIntS 22 an_laws_toIntS Try.f41 [1, 1, 0, 1, 0, 0]) nm0_laws_toIntS (kt0_laws_toIntS (fin_laws_toIntS a0 kk)) j (can0_laws_toIntS a0 xi4 xy7)) := by kernel_rfl
theorem e_laws_toIntS (a0 : List Int) (kk : AV → List A1 → Prop) :
    ev TT cs_laws_toIntS 22 an_laws_toIntS (Try.f41.body.getD .skip) (st0 con_laws_toIntS [.c (.ro .int a0)]) (fin TT con_laws_toIntS Try.f41.results.toList [.c (.sl .int)] [.c (.ro .int a0)] kk) = S_laws_toIntS a0 (fun r0 => kk (.one (.c (.ro .int r0))) []) := by
  rw [g_laws_toIntS]
  have hi0 : (fun a0 xi4 xy7 => ∃ j, iter (evF TT cs_laws_toIntS 22 an_laws_toIntS Try.f41 [1, 1, 0, 1, 0, 0]) nm0_laws_toIntS (kt0_laws_toIntS (fin_laws_toIntS a0 kk)) j (can0_laws_toIntS a0 xi4 xy7)) = (fun a0 xi4 xy7 => ∃ j, L0_laws_toIntS a0 (fun r0 => kk (.one (.c (.ro .int r0))) []) j xi4 xy7) := by
    funext a0 xi4 xy7
    refine congrArg Exists (funext fun j => ?_)
    rw [l0_laws_toIntS a0 kk j xi4 xy7]
  rw [hi0]
  rfl
theorem clok_laws_toIntS : ConOK Try.prog cl_laws_toIntS := consNil
theorem cok_laws_toIntS : ConsOK Try.prog 22 cs_laws_toIntS := ⟨clok_laws_toIntS, inlNil⟩
theorem i_laws_toIntS {vs : List A1} {kk : AV → List A1 → Prop} {motive : List A1 → Prop} (h : con_laws_toIntS.F vs kk) (H : ∀ (a0 : List Int), F_laws_toIntS a0 (fun r0 => kk (.one (.c (.ro .int r0))) []) → motive [.c (.ro .int a0)]) : motive vs := by
  unfold con_laws_toIntS at h
  dsimp only at h
  split at h
  · exact H _ h
  · exact h.elim
theorem h_laws_toIntS : Holds Try.prog 41 con_laws_toIntS := by
  refine holds_of_ev (rt := [.c (.sl .int)]) (T := TT) (Γ := cs_laws_toIntS) (an := an_laws_toIntS) (N := 22) (c := Try.f41.body.getD .skip) Try.func41 (by kernel_rfl) Try.ntmps41 (by decide) (by decide) mixed tabOK cok_laws_toIntS (by kernel_rfl) ?_
  intro vs kk _ hF
  exact i_laws_toIntS (motive := fun vs => Goes (ev TT cs_laws_toIntS 22 an_laws_toIntS (Try.f41.body.getD .skip) (st0 con_laws_toIntS vs) (fin TT con_laws_toIntS Try.f41.results.toList [.c (.sl .int)] vs kk))) hF (fun a0 hF => goes_of (e_laws_toIntS a0 kk) (F_laws_toIntS_S hF))
def con_spec_inRange : Con := ⟨[.rd, .rd, .rd], true, [.c (.sc), .c (.sc), .c (.sc)], fun vs k => match vs with
    | [.c (.v (.int .i64 n0)), .c (.v (.int .i64 low1)), .c (.v (.int .i64 high2))] => F_spec_inRange n0 low1 high2 (fun r0 => k (.one (.c (.v (.bool r0)))) [])
    | _ => False, false⟩
def cl_spec_inRange : List (FuncId × Con) := []
def an_spec_inRange : Ann := ⟨[], [], []⟩
def cs_spec_inRange : Cons := ⟨cl_spec_inRange, [], 0, [], []⟩
def fin_spec_inRange (n0 : Int) (low1 : Int) (high2 : Int) (kk : AV → List A1 → Prop) : Kt := fin TT con_spec_inRange Try.f55.results.toList [.c .sc] [.c (.v (.int .i64 n0)), .c (.v (.int .i64 low1)), .c (.v (.int .i64 high2))] kk
theorem g_spec_inRange (n0 : Int) (low1 : Int) (high2 : Int) (kk : AV → List A1 → Prop) :
    ev TT cs_spec_inRange 15 an_spec_inRange (Try.f55.body.getD .skip) (st0 con_spec_inRange [.c (.v (.int .i64 n0)), .c (.v (.int .i64 low1)), .c (.v (.int .i64 high2))]) (fin TT con_spec_inRange Try.f55.results.toList [.c .sc] [.c (.v (.int .i64 n0)), .c (.v (.int .i64 low1)), .c (.v (.int .i64 high2))] kk) = G_spec_inRange n0 low1 high2 (fun r0 => kk (.one (.c (.v (.bool r0)))) []) := by kernel_rfl
theorem e_spec_inRange (n0 : Int) (low1 : Int) (high2 : Int) (kk : AV → List A1 → Prop) :
    ev TT cs_spec_inRange 15 an_spec_inRange (Try.f55.body.getD .skip) (st0 con_spec_inRange [.c (.v (.int .i64 n0)), .c (.v (.int .i64 low1)), .c (.v (.int .i64 high2))]) (fin TT con_spec_inRange Try.f55.results.toList [.c .sc] [.c (.v (.int .i64 n0)), .c (.v (.int .i64 low1)), .c (.v (.int .i64 high2))] kk) = S_spec_inRange n0 low1 high2 (fun r0 => kk (.one (.c (.v (.bool r0)))) []) := by
  rw [g_spec_inRange]
  rfl
theorem clok_spec_inRange : ConOK Try.prog cl_spec_inRange := consNil
theorem cok_spec_inRange : ConsOK Try.prog 15 cs_spec_inRange := ⟨clok_spec_inRange, inlNil⟩
theorem i_spec_inRange {vs : List A1} {kk : AV → List A1 → Prop} {motive : List A1 → Prop} (h : con_spec_inRange.F vs kk) (H : ∀ (n0 : Int) (low1 : Int) (high2 : Int), F_spec_inRange n0 low1 high2 (fun r0 => kk (.one (.c (.v (.bool r0)))) []) → motive [.c (.v (.int .i64 n0)), .c (.v (.int .i64 low1)), .c (.v (.int .i64 high2))]) : motive vs := by
  unfold con_spec_inRange at h
  dsimp only at h
  split at h
  · exact H _ _ _ h
  · exact h.elim
theorem h_spec_inRange : Holds Try.prog 55 con_spec_inRange := by
  refine holds_of_ev (rt := [.c .sc]) (T := TT) (Γ := cs_spec_inRange) (an := an_spec_inRange) (N := 15) (c := Try.f55.body.getD .skip) Try.func55 (by kernel_rfl) Try.ntmps55 (by decide) (by decide) mixed tabOK cok_spec_inRange (by kernel_rfl) ?_
  intro vs kk _ hF
  exact i_spec_inRange (motive := fun vs => Goes (ev TT cs_spec_inRange 15 an_spec_inRange (Try.f55.body.getD .skip) (st0 con_spec_inRange vs) (fin TT con_spec_inRange Try.f55.results.toList [.c .sc] vs kk))) hF (fun n0 low1 high2 hF => goes_of (e_spec_inRange n0 low1 high2 kk) (F_spec_inRange_S hF))
def con_spec_allIn : Con := ⟨[.rd, .rd, .rd], true, [.c (.sl .int), .c (.sc), .c (.sc)], fun vs k => match vs with
    | [.c (.ro .int list0), .c (.v (.int .i64 low1)), .c (.v (.int .i64 high2))] => F_spec_allIn list0 low1 high2 (fun r0 => k (.one (.c (.v (.bool r0)))) [])
    | _ => False, false⟩
def cl_spec_allIn : List (FuncId × Con) := [(55, con_spec_inRange)]
def nm0_spec_allIn : List NStep := [.keep [0, 1, 2, 7] []]
def an_spec_allIn : Ann := ⟨[], [(2, nm0_spec_allIn)], []⟩
def cs_spec_allIn : Cons := ⟨cl_spec_allIn, [], 0, [], []⟩
def can0_spec_allIn (high2 : Int) (list0 : List Int) (low1 : Int) (xi7 : Int) : St := ⟨[(0, .one (.c (.ro .int list0))), (1, .one (.c (.v (.int .i64 low1)))), (2, .one (.c (.v (.int .i64 high2)))), (7, .one (.c (.v (.int .i64 xi7))))], []⟩
def fin_spec_allIn (list0 : List Int) (low1 : Int) (high2 : Int) (kk : AV → List A1 → Prop) : Kt := fin TT con_spec_allIn Try.f83.results.toList [.c .sc] [.c (.ro .int list0), .c (.v (.int .i64 low1)), .c (.v (.int .i64 high2))] kk
def kt0_spec_allIn (kf : Kt) : Kt := blockK 0 (seqK (evF TT cs_spec_allIn 22 an_spec_allIn Try.f83 [1, 1]) (kf))
theorem r0_spec_allIn (list0 : List Int) (low1 : Int) (high2 : Int) (kk : AV → List A1 → Prop) (n : Nat) (xi7 : Int) :
    iter (evF TT cs_spec_allIn 22 an_spec_allIn Try.f83 [1, 0, 1, 0, 0]) nm0_spec_allIn (kt0_spec_allIn (fin_spec_allIn list0 low1 high2 kk)) (n + 1) (can0_spec_allIn high2 list0 low1 xi7) = T0_spec_allIn high2 list0 low1 xi7 (fun r0 => kk (.one (.c (.v (.bool r0)))) []) (fun xi7 => iter (evF TT cs_spec_allIn 22 an_spec_allIn Try.f83 [1, 0, 1, 0, 0]) nm0_spec_allIn (kt0_spec_allIn (fin_spec_allIn list0 low1 high2 kk)) n (can0_spec_allIn high2 list0 low1 xi7)) := by kernel_rfl
theorem l0_spec_allIn (list0 : List Int) (low1 : Int) (high2 : Int) (kk : AV → List A1 → Prop) : ∀ (n : Nat) (xi7 : Int), iter (evF TT cs_spec_allIn 22 an_spec_allIn Try.f83 [1, 0, 1, 0, 0]) nm0_spec_allIn (kt0_spec_allIn (fin_spec_allIn list0 low1 high2 kk)) n (can0_spec_allIn high2 list0 low1 xi7) = L0_spec_allIn high2 list0 low1 (fun r0 => kk (.one (.c (.v (.bool r0)))) []) n xi7 := by
  intro n
  induction n with
  | zero => intros; rfl
  | succ n ih =>
    intro xi7
    rw [r0_spec_allIn list0 low1 high2 kk n xi7]
    have hb : (fun xi7 => iter (evF TT cs_spec_allIn 22 an_spec_allIn Try.f83 [1, 0, 1, 0, 0]) nm0_spec_allIn (kt0_spec_allIn (fin_spec_allIn list0 low1 high2 kk)) n (can0_spec_allIn high2 list0 low1 xi7)) = L0_spec_allIn high2 list0 low1 (fun r0 => kk (.one (.c (.v (.bool r0)))) []) n := by
      funext xi7; exact ih xi7
    rw [hb]
    rfl
theorem g_spec_allIn (list0 : List Int) (low1 : Int) (high2 : Int) (kk : AV → List A1 → Prop) :
    ev TT cs_spec_allIn 22 an_spec_allIn (Try.f83.body.getD .skip) (st0 con_spec_allIn [.c (.ro .int list0), .c (.v (.int .i64 low1)), .c (.v (.int .i64 high2))]) (fin TT con_spec_allIn Try.f83.results.toList [.c .sc] [.c (.ro .int list0), .c (.v (.int .i64 low1)), .c (.v (.int .i64 high2))] kk) = G_spec_allIn list0 low1 high2 (fun high2 list0 low1 xi7 => ∃ j, iter (evF TT cs_spec_allIn 22 an_spec_allIn Try.f83 [1, 0, 1, 0, 0]) nm0_spec_allIn (kt0_spec_allIn (fin_spec_allIn list0 low1 high2 kk)) j (can0_spec_allIn high2 list0 low1 xi7)) := by kernel_rfl
theorem e_spec_allIn (list0 : List Int) (low1 : Int) (high2 : Int) (kk : AV → List A1 → Prop) :
    ev TT cs_spec_allIn 22 an_spec_allIn (Try.f83.body.getD .skip) (st0 con_spec_allIn [.c (.ro .int list0), .c (.v (.int .i64 low1)), .c (.v (.int .i64 high2))]) (fin TT con_spec_allIn Try.f83.results.toList [.c .sc] [.c (.ro .int list0), .c (.v (.int .i64 low1)), .c (.v (.int .i64 high2))] kk) = S_spec_allIn list0 low1 high2 (fun r0 => kk (.one (.c (.v (.bool r0)))) []) := by
  rw [g_spec_allIn]
  have hi0 : (fun high2 list0 low1 xi7 => ∃ j, iter (evF TT cs_spec_allIn 22 an_spec_allIn Try.f83 [1, 0, 1, 0, 0]) nm0_spec_allIn (kt0_spec_allIn (fin_spec_allIn list0 low1 high2 kk)) j (can0_spec_allIn high2 list0 low1 xi7)) = (fun high2 list0 low1 xi7 => ∃ j, L0_spec_allIn high2 list0 low1 (fun r0 => kk (.one (.c (.v (.bool r0)))) []) j xi7) := by
    funext high2 list0 low1 xi7
    refine congrArg Exists (funext fun j => ?_)
    rw [l0_spec_allIn list0 low1 high2 kk j xi7]
  rw [hi0]
  rfl
theorem clok_spec_allIn : ConOK Try.prog cl_spec_allIn := consCons h_spec_inRange ⟨Try.f55, Try.func55, by kernel_rfl, ne_of_beq (by kernel_rfl)⟩ (consNil)
theorem cok_spec_allIn : ConsOK Try.prog 22 cs_spec_allIn := ⟨clok_spec_allIn, inlNil⟩
theorem i_spec_allIn {vs : List A1} {kk : AV → List A1 → Prop} {motive : List A1 → Prop} (h : con_spec_allIn.F vs kk) (H : ∀ (list0 : List Int) (low1 : Int) (high2 : Int), F_spec_allIn list0 low1 high2 (fun r0 => kk (.one (.c (.v (.bool r0)))) []) → motive [.c (.ro .int list0), .c (.v (.int .i64 low1)), .c (.v (.int .i64 high2))]) : motive vs := by
  unfold con_spec_allIn at h
  dsimp only at h
  split at h
  · exact H _ _ _ h
  · exact h.elim
theorem h_spec_allIn : Holds Try.prog 83 con_spec_allIn := by
  refine holds_of_ev (rt := [.c .sc]) (T := TT) (Γ := cs_spec_allIn) (an := an_spec_allIn) (N := 22) (c := Try.f83.body.getD .skip) Try.func83 (by kernel_rfl) Try.ntmps83 (by decide) (by decide) mixed tabOK cok_spec_allIn (by kernel_rfl) ?_
  intro vs kk _ hF
  exact i_spec_allIn (motive := fun vs => Goes (ev TT cs_spec_allIn 22 an_spec_allIn (Try.f83.body.getD .skip) (st0 con_spec_allIn vs) (fin TT con_spec_allIn Try.f83.results.toList [.c .sc] vs kk))) hF (fun list0 low1 high2 hF => goes_of (e_spec_allIn list0 low1 high2 kk) (F_spec_allIn_S hF))
def con_spec_validTrace : Con := ⟨[.rd], true, [.c (.sl .int)], fun vs k => match vs with
    | [.c (.ro .int t0)] => F_spec_validTrace t0 (fun r0 => k (.one (.c (.v (.bool r0)))) [])
    | _ => False, false⟩
def cl_spec_validTrace : List (FuncId × Con) := [(83, con_spec_allIn)]
def an_spec_validTrace : Ann := ⟨[], [], []⟩
def cs_spec_validTrace : Cons := ⟨cl_spec_validTrace, [], 0, [], []⟩
def fin_spec_validTrace (t0 : List Int) (kk : AV → List A1 → Prop) : Kt := fin TT con_spec_validTrace Try.f54.results.toList [.c .sc] [.c (.ro .int t0)] kk
theorem g_spec_validTrace (t0 : List Int) (kk : AV → List A1 → Prop) :
    ev TT cs_spec_validTrace 10 an_spec_validTrace (Try.f54.body.getD .skip) (st0 con_spec_validTrace [.c (.ro .int t0)]) (fin TT con_spec_validTrace Try.f54.results.toList [.c .sc] [.c (.ro .int t0)] kk) = G_spec_validTrace t0 (fun r0 => kk (.one (.c (.v (.bool r0)))) []) := by kernel_rfl
theorem e_spec_validTrace (t0 : List Int) (kk : AV → List A1 → Prop) :
    ev TT cs_spec_validTrace 10 an_spec_validTrace (Try.f54.body.getD .skip) (st0 con_spec_validTrace [.c (.ro .int t0)]) (fin TT con_spec_validTrace Try.f54.results.toList [.c .sc] [.c (.ro .int t0)] kk) = S_spec_validTrace t0 (fun r0 => kk (.one (.c (.v (.bool r0)))) []) := by
  rw [g_spec_validTrace]
  rfl
theorem clok_spec_validTrace : ConOK Try.prog cl_spec_validTrace := consCons h_spec_allIn ⟨Try.f83, Try.func83, by kernel_rfl, ne_of_beq (by kernel_rfl)⟩ (consNil)
theorem cok_spec_validTrace : ConsOK Try.prog 10 cs_spec_validTrace := ⟨clok_spec_validTrace, inlNil⟩
theorem i_spec_validTrace {vs : List A1} {kk : AV → List A1 → Prop} {motive : List A1 → Prop} (h : con_spec_validTrace.F vs kk) (H : ∀ (t0 : List Int), F_spec_validTrace t0 (fun r0 => kk (.one (.c (.v (.bool r0)))) []) → motive [.c (.ro .int t0)]) : motive vs := by
  unfold con_spec_validTrace at h
  dsimp only at h
  split at h
  · exact H _ h
  · exact h.elim
theorem h_spec_validTrace : Holds Try.prog 54 con_spec_validTrace := by
  refine holds_of_ev (rt := [.c .sc]) (T := TT) (Γ := cs_spec_validTrace) (an := an_spec_validTrace) (N := 10) (c := Try.f54.body.getD .skip) Try.func54 (by kernel_rfl) Try.ntmps54 (by decide) (by decide) mixed tabOK cok_spec_validTrace (by kernel_rfl) ?_
  intro vs kk _ hF
  exact i_spec_validTrace (motive := fun vs => Goes (ev TT cs_spec_validTrace 10 an_spec_validTrace (Try.f54.body.getD .skip) (st0 con_spec_validTrace vs) (fin TT con_spec_validTrace Try.f54.results.toList [.c .sc] vs kk))) hF (fun t0 hF => goes_of (e_spec_validTrace t0 kk) (F_spec_validTrace_S hF))
def con_spec_placeOf : Con := ⟨[.rd, .rd], true, [.c (.sl .int), .c (.sc)], fun vs k => match vs with
    | [.c (.ro .int list0), .c (.v (.int .i64 n1))] => F_spec_placeOf list0 n1 (fun r0 => k (.one (.c (.v (.int .i64 r0)))) [])
    | _ => False, false⟩
def cl_spec_placeOf : List (FuncId × Con) := []
def nm0_spec_placeOf : List NStep := [.keep [0, 1, 5] []]
def an_spec_placeOf : Ann := ⟨[], [(2, nm0_spec_placeOf)], []⟩
def cs_spec_placeOf : Cons := ⟨cl_spec_placeOf, [], 0, [], []⟩
def can0_spec_placeOf (list0 : List Int) (n1 : Int) (xi5 : Int) : St := ⟨[(0, .one (.c (.ro .int list0))), (1, .one (.c (.v (.int .i64 n1)))), (5, .one (.c (.v (.int .i64 xi5))))], []⟩
def fin_spec_placeOf (list0 : List Int) (n1 : Int) (kk : AV → List A1 → Prop) : Kt := fin TT con_spec_placeOf Try.f70.results.toList [.c .sc] [.c (.ro .int list0), .c (.v (.int .i64 n1))] kk
def kt0_spec_placeOf (kf : Kt) : Kt := blockK 0 (seqK (evF TT cs_spec_placeOf 19 an_spec_placeOf Try.f70 [1, 1]) (kf))
theorem r0_spec_placeOf (list0 : List Int) (n1 : Int) (kk : AV → List A1 → Prop) (n : Nat) (xi5 : Int) :
    iter (evF TT cs_spec_placeOf 19 an_spec_placeOf Try.f70 [1, 0, 1, 0, 0]) nm0_spec_placeOf (kt0_spec_placeOf (fin_spec_placeOf list0 n1 kk)) (n + 1) (can0_spec_placeOf list0 n1 xi5) = T0_spec_placeOf list0 n1 xi5 (fun r0 => kk (.one (.c (.v (.int .i64 r0)))) []) (fun xi5 => iter (evF TT cs_spec_placeOf 19 an_spec_placeOf Try.f70 [1, 0, 1, 0, 0]) nm0_spec_placeOf (kt0_spec_placeOf (fin_spec_placeOf list0 n1 kk)) n (can0_spec_placeOf list0 n1 xi5)) := by kernel_rfl
theorem l0_spec_placeOf (list0 : List Int) (n1 : Int) (kk : AV → List A1 → Prop) : ∀ (n : Nat) (xi5 : Int), iter (evF TT cs_spec_placeOf 19 an_spec_placeOf Try.f70 [1, 0, 1, 0, 0]) nm0_spec_placeOf (kt0_spec_placeOf (fin_spec_placeOf list0 n1 kk)) n (can0_spec_placeOf list0 n1 xi5) = L0_spec_placeOf list0 n1 (fun r0 => kk (.one (.c (.v (.int .i64 r0)))) []) n xi5 := by
  intro n
  induction n with
  | zero => intros; rfl
  | succ n ih =>
    intro xi5
    rw [r0_spec_placeOf list0 n1 kk n xi5]
    have hb : (fun xi5 => iter (evF TT cs_spec_placeOf 19 an_spec_placeOf Try.f70 [1, 0, 1, 0, 0]) nm0_spec_placeOf (kt0_spec_placeOf (fin_spec_placeOf list0 n1 kk)) n (can0_spec_placeOf list0 n1 xi5)) = L0_spec_placeOf list0 n1 (fun r0 => kk (.one (.c (.v (.int .i64 r0)))) []) n := by
      funext xi5; exact ih xi5
    rw [hb]
    rfl
theorem g_spec_placeOf (list0 : List Int) (n1 : Int) (kk : AV → List A1 → Prop) :
    ev TT cs_spec_placeOf 19 an_spec_placeOf (Try.f70.body.getD .skip) (st0 con_spec_placeOf [.c (.ro .int list0), .c (.v (.int .i64 n1))]) (fin TT con_spec_placeOf Try.f70.results.toList [.c .sc] [.c (.ro .int list0), .c (.v (.int .i64 n1))] kk) = G_spec_placeOf list0 n1 (fun list0 n1 xi5 => ∃ j, iter (evF TT cs_spec_placeOf 19 an_spec_placeOf Try.f70 [1, 0, 1, 0, 0]) nm0_spec_placeOf (kt0_spec_placeOf (fin_spec_placeOf list0 n1 kk)) j (can0_spec_placeOf list0 n1 xi5)) := by kernel_rfl
theorem e_spec_placeOf (list0 : List Int) (n1 : Int) (kk : AV → List A1 → Prop) :
    ev TT cs_spec_placeOf 19 an_spec_placeOf (Try.f70.body.getD .skip) (st0 con_spec_placeOf [.c (.ro .int list0), .c (.v (.int .i64 n1))]) (fin TT con_spec_placeOf Try.f70.results.toList [.c .sc] [.c (.ro .int list0), .c (.v (.int .i64 n1))] kk) = S_spec_placeOf list0 n1 (fun r0 => kk (.one (.c (.v (.int .i64 r0)))) []) := by
  rw [g_spec_placeOf]
  have hi0 : (fun list0 n1 xi5 => ∃ j, iter (evF TT cs_spec_placeOf 19 an_spec_placeOf Try.f70 [1, 0, 1, 0, 0]) nm0_spec_placeOf (kt0_spec_placeOf (fin_spec_placeOf list0 n1 kk)) j (can0_spec_placeOf list0 n1 xi5)) = (fun list0 n1 xi5 => ∃ j, L0_spec_placeOf list0 n1 (fun r0 => kk (.one (.c (.v (.int .i64 r0)))) []) j xi5) := by
    funext list0 n1 xi5
    refine congrArg Exists (funext fun j => ?_)
    rw [l0_spec_placeOf list0 n1 kk j xi5]
  rw [hi0]
  rfl
theorem clok_spec_placeOf : ConOK Try.prog cl_spec_placeOf := consNil
theorem cok_spec_placeOf : ConsOK Try.prog 19 cs_spec_placeOf := ⟨clok_spec_placeOf, inlNil⟩
theorem i_spec_placeOf {vs : List A1} {kk : AV → List A1 → Prop} {motive : List A1 → Prop} (h : con_spec_placeOf.F vs kk) (H : ∀ (list0 : List Int) (n1 : Int), F_spec_placeOf list0 n1 (fun r0 => kk (.one (.c (.v (.int .i64 r0)))) []) → motive [.c (.ro .int list0), .c (.v (.int .i64 n1))]) : motive vs := by
  unfold con_spec_placeOf at h
  dsimp only at h
  split at h
  · exact H _ _ h
  · exact h.elim
theorem h_spec_placeOf : Holds Try.prog 70 con_spec_placeOf := by
  refine holds_of_ev (rt := [.c .sc]) (T := TT) (Γ := cs_spec_placeOf) (an := an_spec_placeOf) (N := 19) (c := Try.f70.body.getD .skip) Try.func70 (by kernel_rfl) Try.ntmps70 (by decide) (by decide) mixed tabOK cok_spec_placeOf (by kernel_rfl) ?_
  intro vs kk _ hF
  exact i_spec_placeOf (motive := fun vs => Goes (ev TT cs_spec_placeOf 19 an_spec_placeOf (Try.f70.body.getD .skip) (st0 con_spec_placeOf vs) (fin TT con_spec_placeOf Try.f70.results.toList [.c .sc] vs kk))) hF (fun list0 n1 hF => goes_of (e_spec_placeOf list0 n1 kk) (F_spec_placeOf_S hF))
def con_spec_isIn : Con := ⟨[.rd, .rd], true, [.c (.sl .int), .c (.sc)], fun vs k => match vs with
    | [.c (.ro .int list0), .c (.v (.int .i64 n1))] => F_spec_isIn list0 n1 (fun r0 => k (.one (.c (.v (.bool r0)))) [])
    | _ => False, false⟩
def cl_spec_isIn : List (FuncId × Con) := [(70, con_spec_placeOf)]
def an_spec_isIn : Ann := ⟨[], [], []⟩
def cs_spec_isIn : Cons := ⟨cl_spec_isIn, [], 0, [], []⟩
def fin_spec_isIn (list0 : List Int) (n1 : Int) (kk : AV → List A1 → Prop) : Kt := fin TT con_spec_isIn Try.f84.results.toList [.c .sc] [.c (.ro .int list0), .c (.v (.int .i64 n1))] kk
theorem g_spec_isIn (list0 : List Int) (n1 : Int) (kk : AV → List A1 → Prop) :
    ev TT cs_spec_isIn 9 an_spec_isIn (Try.f84.body.getD .skip) (st0 con_spec_isIn [.c (.ro .int list0), .c (.v (.int .i64 n1))]) (fin TT con_spec_isIn Try.f84.results.toList [.c .sc] [.c (.ro .int list0), .c (.v (.int .i64 n1))] kk) = G_spec_isIn list0 n1 (fun r0 => kk (.one (.c (.v (.bool r0)))) []) := by kernel_rfl
theorem e_spec_isIn (list0 : List Int) (n1 : Int) (kk : AV → List A1 → Prop) :
    ev TT cs_spec_isIn 9 an_spec_isIn (Try.f84.body.getD .skip) (st0 con_spec_isIn [.c (.ro .int list0), .c (.v (.int .i64 n1))]) (fin TT con_spec_isIn Try.f84.results.toList [.c .sc] [.c (.ro .int list0), .c (.v (.int .i64 n1))] kk) = S_spec_isIn list0 n1 (fun r0 => kk (.one (.c (.v (.bool r0)))) []) := by
  rw [g_spec_isIn]
  rfl
theorem clok_spec_isIn : ConOK Try.prog cl_spec_isIn := consCons h_spec_placeOf ⟨Try.f70, Try.func70, by kernel_rfl, ne_of_beq (by kernel_rfl)⟩ (consNil)
theorem cok_spec_isIn : ConsOK Try.prog 9 cs_spec_isIn := ⟨clok_spec_isIn, inlNil⟩
theorem i_spec_isIn {vs : List A1} {kk : AV → List A1 → Prop} {motive : List A1 → Prop} (h : con_spec_isIn.F vs kk) (H : ∀ (list0 : List Int) (n1 : Int), F_spec_isIn list0 n1 (fun r0 => kk (.one (.c (.v (.bool r0)))) []) → motive [.c (.ro .int list0), .c (.v (.int .i64 n1))]) : motive vs := by
  unfold con_spec_isIn at h
  dsimp only at h
  split at h
  · exact H _ _ h
  · exact h.elim
theorem h_spec_isIn : Holds Try.prog 84 con_spec_isIn := by
  refine holds_of_ev (rt := [.c .sc]) (T := TT) (Γ := cs_spec_isIn) (an := an_spec_isIn) (N := 9) (c := Try.f84.body.getD .skip) Try.func84 (by kernel_rfl) Try.ntmps84 (by decide) (by decide) mixed tabOK cok_spec_isIn (by kernel_rfl) ?_
  intro vs kk _ hF
  exact i_spec_isIn (motive := fun vs => Goes (ev TT cs_spec_isIn 9 an_spec_isIn (Try.f84.body.getD .skip) (st0 con_spec_isIn vs) (fin TT con_spec_isIn Try.f84.results.toList [.c .sc] vs kk))) hF (fun list0 n1 hF => goes_of (e_spec_isIn list0 n1 kk) (F_spec_isIn_S hF))
def con_spec_distance : Con := ⟨[.rd, .rd], true, [.c (.sl .int), .c (.sc)], fun vs k => match vs with
    | [.c (.ro .int t0), .c (.v (.int .i64 at1))] => F_spec_distance t0 at1 (fun r0 => k (.one (.c (.v (.int .i64 r0)))) [])
    | _ => False, false⟩
def cl_spec_distance : List (FuncId × Con) := [(84, con_spec_isIn)]
def nm0_spec_distance : List NStep := [.own 5 .int 90000, .keep [0, 1, 5, 6] [90000]]
def an_spec_distance : Ann := ⟨[(5, .take 0 (.take 1 (.take 2 (.take 3 (.take 4 (.take 5 (.take 6 (.take 7 (.take 8 (.done))))))))), [])], [(3, nm0_spec_distance)], []⟩
def cs_spec_distance : Cons := ⟨cl_spec_distance, [], 0, [], []⟩
def can0_spec_distance (at1 : Int) (t0 : List Int) (xi6 : Int) (xseen5 : List Int) : St := ⟨[(0, .one (.c (.ro .int t0))), (1, .one (.c (.v (.int .i64 at1)))), (5, .one (.c (.ow 90000))), (6, .one (.c (.v (.int .i64 xi6))))], [(90000, .row .int xseen5)]⟩
def fin_spec_distance (t0 : List Int) (at1 : Int) (kk : AV → List A1 → Prop) : Kt := fin TT con_spec_distance Try.f73.results.toList [.c .sc] [.c (.ro .int t0), .c (.v (.int .i64 at1))] kk
def kt0_spec_distance (kf : Kt) : Kt := blockK 0 (seqK (evF TT cs_spec_distance 40 an_spec_distance Try.f73 [1, 1, 1]) (kf))
theorem r0_spec_distance (t0 : List Int) (at1 : Int) (kk : AV → List A1 → Prop) (n : Nat) (xi6 : Int) (xseen5 : List Int) :
    iter (evF TT cs_spec_distance 40 an_spec_distance Try.f73 [1, 1, 0, 1, 0, 0]) nm0_spec_distance (kt0_spec_distance (fin_spec_distance t0 at1 kk)) (n + 1) (can0_spec_distance at1 t0 xi6 xseen5) = T0_spec_distance at1 t0 xi6 xseen5 (fun r0 => kk (.one (.c (.v (.int .i64 r0)))) []) (fun xi6 xseen5 => iter (evF TT cs_spec_distance 40 an_spec_distance Try.f73 [1, 1, 0, 1, 0, 0]) nm0_spec_distance (kt0_spec_distance (fin_spec_distance t0 at1 kk)) n (can0_spec_distance at1 t0 xi6 xseen5)) := by kernel_rfl
theorem l0_spec_distance (t0 : List Int) (at1 : Int) (kk : AV → List A1 → Prop) : ∀ (n : Nat) (xi6 : Int) (xseen5 : List Int), iter (evF TT cs_spec_distance 40 an_spec_distance Try.f73 [1, 1, 0, 1, 0, 0]) nm0_spec_distance (kt0_spec_distance (fin_spec_distance t0 at1 kk)) n (can0_spec_distance at1 t0 xi6 xseen5) = L0_spec_distance at1 t0 (fun r0 => kk (.one (.c (.v (.int .i64 r0)))) []) n xi6 xseen5 := by
  intro n
  induction n with
  | zero => intros; rfl
  | succ n ih =>
    intro xi6 xseen5
    rw [r0_spec_distance t0 at1 kk n xi6 xseen5]
    have hb : (fun xi6 xseen5 => iter (evF TT cs_spec_distance 40 an_spec_distance Try.f73 [1, 1, 0, 1, 0, 0]) nm0_spec_distance (kt0_spec_distance (fin_spec_distance t0 at1 kk)) n (can0_spec_distance at1 t0 xi6 xseen5)) = L0_spec_distance at1 t0 (fun r0 => kk (.one (.c (.v (.int .i64 r0)))) []) n := by
      funext xi6 xseen5; exact ih xi6 xseen5
    rw [hb]
    rfl
theorem g_spec_distance (t0 : List Int) (at1 : Int) (kk : AV → List A1 → Prop) :
    ev TT cs_spec_distance 40 an_spec_distance (Try.f73.body.getD .skip) (st0 con_spec_distance [.c (.ro .int t0), .c (.v (.int .i64 at1))]) (fin TT con_spec_distance Try.f73.results.toList [.c .sc] [.c (.ro .int t0), .c (.v (.int .i64 at1))] kk) = G_spec_distance t0 at1 (fun at1 t0 xi6 xseen5 => ∃ j, iter (evF TT cs_spec_distance 40 an_spec_distance Try.f73 [1, 1, 0, 1, 0, 0]) nm0_spec_distance (kt0_spec_distance (fin_spec_distance t0 at1 kk)) j (can0_spec_distance at1 t0 xi6 xseen5)) := by kernel_rfl
theorem e_spec_distance (t0 : List Int) (at1 : Int) (kk : AV → List A1 → Prop) :
    ev TT cs_spec_distance 40 an_spec_distance (Try.f73.body.getD .skip) (st0 con_spec_distance [.c (.ro .int t0), .c (.v (.int .i64 at1))]) (fin TT con_spec_distance Try.f73.results.toList [.c .sc] [.c (.ro .int t0), .c (.v (.int .i64 at1))] kk) = S_spec_distance t0 at1 (fun r0 => kk (.one (.c (.v (.int .i64 r0)))) []) := by
  rw [g_spec_distance]
  have hi0 : (fun at1 t0 xi6 xseen5 => ∃ j, iter (evF TT cs_spec_distance 40 an_spec_distance Try.f73 [1, 1, 0, 1, 0, 0]) nm0_spec_distance (kt0_spec_distance (fin_spec_distance t0 at1 kk)) j (can0_spec_distance at1 t0 xi6 xseen5)) = (fun at1 t0 xi6 xseen5 => ∃ j, L0_spec_distance at1 t0 (fun r0 => kk (.one (.c (.v (.int .i64 r0)))) []) j xi6 xseen5) := by
    funext at1 t0 xi6 xseen5
    refine congrArg Exists (funext fun j => ?_)
    rw [l0_spec_distance t0 at1 kk j xi6 xseen5]
  rw [hi0]
  rfl
theorem clok_spec_distance : ConOK Try.prog cl_spec_distance := consCons h_spec_isIn ⟨Try.f84, Try.func84, by kernel_rfl, ne_of_beq (by kernel_rfl)⟩ (consNil)
theorem cok_spec_distance : ConsOK Try.prog 40 cs_spec_distance := ⟨clok_spec_distance, inlNil⟩
theorem i_spec_distance {vs : List A1} {kk : AV → List A1 → Prop} {motive : List A1 → Prop} (h : con_spec_distance.F vs kk) (H : ∀ (t0 : List Int) (at1 : Int), F_spec_distance t0 at1 (fun r0 => kk (.one (.c (.v (.int .i64 r0)))) []) → motive [.c (.ro .int t0), .c (.v (.int .i64 at1))]) : motive vs := by
  unfold con_spec_distance at h
  dsimp only at h
  split at h
  · exact H _ _ h
  · exact h.elim
theorem h_spec_distance : Holds Try.prog 73 con_spec_distance := by
  refine holds_of_ev (rt := [.c .sc]) (T := TT) (Γ := cs_spec_distance) (an := an_spec_distance) (N := 40) (c := Try.f73.body.getD .skip) Try.func73 (by kernel_rfl) Try.ntmps73 (by decide) (by decide) mixed tabOK cok_spec_distance (by kernel_rfl) ?_
  intro vs kk _ hF
  exact i_spec_distance (motive := fun vs => Goes (ev TT cs_spec_distance 40 an_spec_distance (Try.f73.body.getD .skip) (st0 con_spec_distance vs) (fin TT con_spec_distance Try.f73.results.toList [.c .sc] vs kk))) hF (fun t0 at1 hF => goes_of (e_spec_distance t0 at1 kk) (F_spec_distance_S hF))
def con_spec_ReuseDistances : Con := ⟨[.rd], true, [.c (.sl .int)], fun vs k => match vs with
    | [.c (.ro .int t0)] => F_spec_ReuseDistances t0 (fun r0 => k (.one (.c (.ro .int r0))) [])
    | _ => False, false⟩
def cl_spec_ReuseDistances : List (FuncId × Con) := [(54, con_spec_validTrace), (73, con_spec_distance)]
def nm0_spec_ReuseDistances : List NStep := [.own 3 .int 90000, .keep [0, 3, 4] [90000]]
def an_spec_ReuseDistances : Ann := ⟨[], [(5, nm0_spec_ReuseDistances)], []⟩
def cs_spec_ReuseDistances : Cons := ⟨cl_spec_ReuseDistances, [], 0, [], []⟩
def can0_spec_ReuseDistances (t0 : List Int) (xi4 : Int) (xout3 : List Int) : St := ⟨[(0, .one (.c (.ro .int t0))), (3, .one (.c (.ow 90000))), (4, .one (.c (.v (.int .i64 xi4))))], [(90000, .row .int xout3)]⟩
def fin_spec_ReuseDistances (t0 : List Int) (kk : AV → List A1 → Prop) : Kt := fin TT con_spec_ReuseDistances Try.f31.results.toList [.c (.sl .int)] [.c (.ro .int t0)] kk
def kt0_spec_ReuseDistances (kf : Kt) : Kt := blockK 0 (seqK (evF TT cs_spec_ReuseDistances 22 an_spec_ReuseDistances Try.f31 [1, 1, 1, 1]) (kf))
theorem r0_spec_ReuseDistances (t0 : List Int) (kk : AV → List A1 → Prop) (n : Nat) (xi4 : Int) (xout3 : List Int) :
    iter (evF TT cs_spec_ReuseDistances 22 an_spec_ReuseDistances Try.f31 [1, 1, 1, 0, 1, 0, 0]) nm0_spec_ReuseDistances (kt0_spec_ReuseDistances (fin_spec_ReuseDistances t0 kk)) (n + 1) (can0_spec_ReuseDistances t0 xi4 xout3) = T0_spec_ReuseDistances t0 xi4 xout3 (fun r0 => kk (.one (.c (.ro .int r0))) []) (fun xi4 xout3 => iter (evF TT cs_spec_ReuseDistances 22 an_spec_ReuseDistances Try.f31 [1, 1, 1, 0, 1, 0, 0]) nm0_spec_ReuseDistances (kt0_spec_ReuseDistances (fin_spec_ReuseDistances t0 kk)) n (can0_spec_ReuseDistances t0 xi4 xout3)) := by kernel_rfl
theorem l0_spec_ReuseDistances (t0 : List Int) (kk : AV → List A1 → Prop) : ∀ (n : Nat) (xi4 : Int) (xout3 : List Int), iter (evF TT cs_spec_ReuseDistances 22 an_spec_ReuseDistances Try.f31 [1, 1, 1, 0, 1, 0, 0]) nm0_spec_ReuseDistances (kt0_spec_ReuseDistances (fin_spec_ReuseDistances t0 kk)) n (can0_spec_ReuseDistances t0 xi4 xout3) = L0_spec_ReuseDistances t0 (fun r0 => kk (.one (.c (.ro .int r0))) []) n xi4 xout3 := by
  intro n
  induction n with
  | zero => intros; rfl
  | succ n ih =>
    intro xi4 xout3
    rw [r0_spec_ReuseDistances t0 kk n xi4 xout3]
    have hb : (fun xi4 xout3 => iter (evF TT cs_spec_ReuseDistances 22 an_spec_ReuseDistances Try.f31 [1, 1, 1, 0, 1, 0, 0]) nm0_spec_ReuseDistances (kt0_spec_ReuseDistances (fin_spec_ReuseDistances t0 kk)) n (can0_spec_ReuseDistances t0 xi4 xout3)) = L0_spec_ReuseDistances t0 (fun r0 => kk (.one (.c (.ro .int r0))) []) n := by
      funext xi4 xout3; exact ih xi4 xout3
    rw [hb]
    rfl
theorem g_spec_ReuseDistances (t0 : List Int) (kk : AV → List A1 → Prop) :
    ev TT cs_spec_ReuseDistances 22 an_spec_ReuseDistances (Try.f31.body.getD .skip) (st0 con_spec_ReuseDistances [.c (.ro .int t0)]) (fin TT con_spec_ReuseDistances Try.f31.results.toList [.c (.sl .int)] [.c (.ro .int t0)] kk) = G_spec_ReuseDistances t0 (fun r0 => kk (.one (.c (.ro .int r0))) []) (fun t0 xi4 xout3 => ∃ j, iter (evF TT cs_spec_ReuseDistances 22 an_spec_ReuseDistances Try.f31 [1, 1, 1, 0, 1, 0, 0]) nm0_spec_ReuseDistances (kt0_spec_ReuseDistances (fin_spec_ReuseDistances t0 kk)) j (can0_spec_ReuseDistances t0 xi4 xout3)) := by kernel_rfl
theorem e_spec_ReuseDistances (t0 : List Int) (kk : AV → List A1 → Prop) :
    ev TT cs_spec_ReuseDistances 22 an_spec_ReuseDistances (Try.f31.body.getD .skip) (st0 con_spec_ReuseDistances [.c (.ro .int t0)]) (fin TT con_spec_ReuseDistances Try.f31.results.toList [.c (.sl .int)] [.c (.ro .int t0)] kk) = S_spec_ReuseDistances t0 (fun r0 => kk (.one (.c (.ro .int r0))) []) := by
  rw [g_spec_ReuseDistances]
  have hi0 : (fun t0 xi4 xout3 => ∃ j, iter (evF TT cs_spec_ReuseDistances 22 an_spec_ReuseDistances Try.f31 [1, 1, 1, 0, 1, 0, 0]) nm0_spec_ReuseDistances (kt0_spec_ReuseDistances (fin_spec_ReuseDistances t0 kk)) j (can0_spec_ReuseDistances t0 xi4 xout3)) = (fun t0 xi4 xout3 => ∃ j, L0_spec_ReuseDistances t0 (fun r0 => kk (.one (.c (.ro .int r0))) []) j xi4 xout3) := by
    funext t0 xi4 xout3
    refine congrArg Exists (funext fun j => ?_)
    rw [l0_spec_ReuseDistances t0 kk j xi4 xout3]
  rw [hi0]
  rfl
theorem clok_spec_ReuseDistances : ConOK Try.prog cl_spec_ReuseDistances := consCons h_spec_validTrace ⟨Try.f54, Try.func54, by kernel_rfl, ne_of_beq (by kernel_rfl)⟩ (consCons h_spec_distance ⟨Try.f73, Try.func73, by kernel_rfl, ne_of_beq (by kernel_rfl)⟩ (consNil))
theorem cok_spec_ReuseDistances : ConsOK Try.prog 22 cs_spec_ReuseDistances := ⟨clok_spec_ReuseDistances, inlNil⟩
theorem i_spec_ReuseDistances {vs : List A1} {kk : AV → List A1 → Prop} {motive : List A1 → Prop} (h : con_spec_ReuseDistances.F vs kk) (H : ∀ (t0 : List Int), F_spec_ReuseDistances t0 (fun r0 => kk (.one (.c (.ro .int r0))) []) → motive [.c (.ro .int t0)]) : motive vs := by
  unfold con_spec_ReuseDistances at h
  dsimp only at h
  split at h
  · exact H _ h
  · exact h.elim
theorem h_spec_ReuseDistances : Holds Try.prog 31 con_spec_ReuseDistances := by
  refine holds_of_ev (rt := [.c (.sl .int)]) (T := TT) (Γ := cs_spec_ReuseDistances) (an := an_spec_ReuseDistances) (N := 22) (c := Try.f31.body.getD .skip) Try.func31 (by kernel_rfl) Try.ntmps31 (by decide) (by decide) mixed tabOK cok_spec_ReuseDistances (by kernel_rfl) ?_
  intro vs kk _ hF
  exact i_spec_ReuseDistances (motive := fun vs => Goes (ev TT cs_spec_ReuseDistances 22 an_spec_ReuseDistances (Try.f31.body.getD .skip) (st0 con_spec_ReuseDistances vs) (fin TT con_spec_ReuseDistances Try.f31.results.toList [.c (.sl .int)] vs kk))) hF (fun t0 hF => goes_of (e_spec_ReuseDistances t0 kk) (F_spec_ReuseDistances_S hF))
def con_impl_validKey : Con := ⟨[.rd], true, [.c (.sc)], fun vs k => match vs with
    | [.c (.v (.int .i64 key0))] => F_impl_validKey key0 (fun r0 => k (.one (.c (.v (.bool r0)))) [])
    | _ => False, false⟩
def cl_impl_validKey : List (FuncId × Con) := []
def an_impl_validKey : Ann := ⟨[], [], []⟩
def cs_impl_validKey : Cons := ⟨cl_impl_validKey, [], 0, [], []⟩
def fin_impl_validKey (key0 : Int) (kk : AV → List A1 → Prop) : Kt := fin TT con_impl_validKey Try.f67.results.toList [.c .sc] [.c (.v (.int .i64 key0))] kk
theorem g_impl_validKey (key0 : Int) (kk : AV → List A1 → Prop) :
    ev TT cs_impl_validKey 9 an_impl_validKey (Try.f67.body.getD .skip) (st0 con_impl_validKey [.c (.v (.int .i64 key0))]) (fin TT con_impl_validKey Try.f67.results.toList [.c .sc] [.c (.v (.int .i64 key0))] kk) = G_impl_validKey key0 (fun r0 => kk (.one (.c (.v (.bool r0)))) []) := by kernel_rfl
theorem e_impl_validKey (key0 : Int) (kk : AV → List A1 → Prop) :
    ev TT cs_impl_validKey 9 an_impl_validKey (Try.f67.body.getD .skip) (st0 con_impl_validKey [.c (.v (.int .i64 key0))]) (fin TT con_impl_validKey Try.f67.results.toList [.c .sc] [.c (.v (.int .i64 key0))] kk) = S_impl_validKey key0 (fun r0 => kk (.one (.c (.v (.bool r0)))) []) := by
  rw [g_impl_validKey]
  rfl
theorem clok_impl_validKey : ConOK Try.prog cl_impl_validKey := consNil
theorem cok_impl_validKey : ConsOK Try.prog 9 cs_impl_validKey := ⟨clok_impl_validKey, inlNil⟩
theorem i_impl_validKey {vs : List A1} {kk : AV → List A1 → Prop} {motive : List A1 → Prop} (h : con_impl_validKey.F vs kk) (H : ∀ (key0 : Int), F_impl_validKey key0 (fun r0 => kk (.one (.c (.v (.bool r0)))) []) → motive [.c (.v (.int .i64 key0))]) : motive vs := by
  unfold con_impl_validKey at h
  dsimp only at h
  split at h
  · exact H _ h
  · exact h.elim
theorem h_impl_validKey : Holds Try.prog 67 con_impl_validKey := by
  refine holds_of_ev (rt := [.c .sc]) (T := TT) (Γ := cs_impl_validKey) (an := an_impl_validKey) (N := 9) (c := Try.f67.body.getD .skip) Try.func67 (by kernel_rfl) Try.ntmps67 (by decide) (by decide) mixed tabOK cok_impl_validKey (by kernel_rfl) ?_
  intro vs kk _ hF
  exact i_impl_validKey (motive := fun vs => Goes (ev TT cs_impl_validKey 9 an_impl_validKey (Try.f67.body.getD .skip) (st0 con_impl_validKey vs) (fin TT con_impl_validKey Try.f67.results.toList [.c .sc] vs kk))) hF (fun key0 hF => goes_of (e_impl_validKey key0 kk) (F_impl_validKey_S hF))
def con_impl_ValidTrace : Con := ⟨[.rd], true, [.c (.sl .int)], fun vs k => match vs with
    | [.c (.ro .int t0)] => F_impl_ValidTrace t0 (fun r0 => k (.one (.c (.v (.bool r0)))) [])
    | _ => False, false⟩
def cl_impl_ValidTrace : List (FuncId × Con) := [(67, con_impl_validKey)]
def nm0_impl_ValidTrace : List NStep := [.keep [8, 9, 10] []]
def an_impl_ValidTrace : Ann := ⟨[], [(4, nm0_impl_ValidTrace)], []⟩
def cs_impl_ValidTrace : Cons := ⟨cl_impl_ValidTrace, [], 0, [], []⟩
def can0_impl_ValidTrace (t0 : List Int) (xt9 : Int) (xt10 : Int) : St := ⟨[(8, .one (.c (.ro .int t0))), (9, .one (.c (.v (.int .i64 xt9)))), (10, .one (.c (.v (.int .i64 xt10))))], []⟩
def fin_impl_ValidTrace (t0 : List Int) (kk : AV → List A1 → Prop) : Kt := fin TT con_impl_ValidTrace Try.f50.results.toList [.c .sc] [.c (.ro .int t0)] kk
def kt0_impl_ValidTrace (kf : Kt) : Kt := blockK 0 (seqK (evF TT cs_impl_ValidTrace 18 an_impl_ValidTrace Try.f50 [1, 1, 1]) (kf))
theorem r0_impl_ValidTrace (t0 : List Int) (xt9 : Int) (kk : AV → List A1 → Prop) (n : Nat) (xt10 : Int) :
    iter (evF TT cs_impl_ValidTrace 18 an_impl_ValidTrace Try.f50 [1, 1, 0, 1, 0, 0]) nm0_impl_ValidTrace (kt0_impl_ValidTrace (fin_impl_ValidTrace t0 kk)) (n + 1) (can0_impl_ValidTrace t0 xt9 xt10) = T0_impl_ValidTrace t0 xt9 xt10 (fun r0 => kk (.one (.c (.v (.bool r0)))) []) (fun xt10 => iter (evF TT cs_impl_ValidTrace 18 an_impl_ValidTrace Try.f50 [1, 1, 0, 1, 0, 0]) nm0_impl_ValidTrace (kt0_impl_ValidTrace (fin_impl_ValidTrace t0 kk)) n (can0_impl_ValidTrace t0 xt9 xt10)) := by kernel_rfl
theorem l0_impl_ValidTrace (t0 : List Int) (xt9 : Int) (kk : AV → List A1 → Prop) : ∀ (n : Nat) (xt10 : Int), iter (evF TT cs_impl_ValidTrace 18 an_impl_ValidTrace Try.f50 [1, 1, 0, 1, 0, 0]) nm0_impl_ValidTrace (kt0_impl_ValidTrace (fin_impl_ValidTrace t0 kk)) n (can0_impl_ValidTrace t0 xt9 xt10) = L0_impl_ValidTrace t0 xt9 (fun r0 => kk (.one (.c (.v (.bool r0)))) []) n xt10 := by
  intro n
  induction n with
  | zero => intros; rfl
  | succ n ih =>
    intro xt10
    rw [r0_impl_ValidTrace t0 xt9 kk n xt10]
    have hb : (fun xt10 => iter (evF TT cs_impl_ValidTrace 18 an_impl_ValidTrace Try.f50 [1, 1, 0, 1, 0, 0]) nm0_impl_ValidTrace (kt0_impl_ValidTrace (fin_impl_ValidTrace t0 kk)) n (can0_impl_ValidTrace t0 xt9 xt10)) = L0_impl_ValidTrace t0 xt9 (fun r0 => kk (.one (.c (.v (.bool r0)))) []) n := by
      funext xt10; exact ih xt10
    rw [hb]
    rfl
theorem g_impl_ValidTrace (t0 : List Int) (kk : AV → List A1 → Prop) :
    ev TT cs_impl_ValidTrace 18 an_impl_ValidTrace (Try.f50.body.getD .skip) (st0 con_impl_ValidTrace [.c (.ro .int t0)]) (fin TT con_impl_ValidTrace Try.f50.results.toList [.c .sc] [.c (.ro .int t0)] kk) = G_impl_ValidTrace t0 (fun r0 => kk (.one (.c (.v (.bool r0)))) []) (fun t0 xt9 xt10 => ∃ j, iter (evF TT cs_impl_ValidTrace 18 an_impl_ValidTrace Try.f50 [1, 1, 0, 1, 0, 0]) nm0_impl_ValidTrace (kt0_impl_ValidTrace (fin_impl_ValidTrace t0 kk)) j (can0_impl_ValidTrace t0 xt9 xt10)) := by kernel_rfl
theorem e_impl_ValidTrace (t0 : List Int) (kk : AV → List A1 → Prop) :
    ev TT cs_impl_ValidTrace 18 an_impl_ValidTrace (Try.f50.body.getD .skip) (st0 con_impl_ValidTrace [.c (.ro .int t0)]) (fin TT con_impl_ValidTrace Try.f50.results.toList [.c .sc] [.c (.ro .int t0)] kk) = S_impl_ValidTrace t0 (fun r0 => kk (.one (.c (.v (.bool r0)))) []) := by
  rw [g_impl_ValidTrace]
  have hi0 : (fun t0 xt9 xt10 => ∃ j, iter (evF TT cs_impl_ValidTrace 18 an_impl_ValidTrace Try.f50 [1, 1, 0, 1, 0, 0]) nm0_impl_ValidTrace (kt0_impl_ValidTrace (fin_impl_ValidTrace t0 kk)) j (can0_impl_ValidTrace t0 xt9 xt10)) = (fun t0 xt9 xt10 => ∃ j, L0_impl_ValidTrace t0 xt9 (fun r0 => kk (.one (.c (.v (.bool r0)))) []) j xt10) := by
    funext t0 xt9 xt10
    refine congrArg Exists (funext fun j => ?_)
    rw [l0_impl_ValidTrace t0 xt9 kk j xt10]
  rw [hi0]
  rfl
theorem clok_impl_ValidTrace : ConOK Try.prog cl_impl_ValidTrace := consCons h_impl_validKey ⟨Try.f67, Try.func67, by kernel_rfl, ne_of_beq (by kernel_rfl)⟩ (consNil)
theorem cok_impl_ValidTrace : ConsOK Try.prog 18 cs_impl_ValidTrace := ⟨clok_impl_ValidTrace, inlNil⟩
theorem i_impl_ValidTrace {vs : List A1} {kk : AV → List A1 → Prop} {motive : List A1 → Prop} (h : con_impl_ValidTrace.F vs kk) (H : ∀ (t0 : List Int), F_impl_ValidTrace t0 (fun r0 => kk (.one (.c (.v (.bool r0)))) []) → motive [.c (.ro .int t0)]) : motive vs := by
  unfold con_impl_ValidTrace at h
  dsimp only at h
  split at h
  · exact H _ h
  · exact h.elim
theorem h_impl_ValidTrace : Holds Try.prog 50 con_impl_ValidTrace := by
  refine holds_of_ev (rt := [.c .sc]) (T := TT) (Γ := cs_impl_ValidTrace) (an := an_impl_ValidTrace) (N := 18) (c := Try.f50.body.getD .skip) Try.func50 (by kernel_rfl) Try.ntmps50 (by decide) (by decide) mixed tabOK cok_impl_ValidTrace (by kernel_rfl) ?_
  intro vs kk _ hF
  exact i_impl_ValidTrace (motive := fun vs => Goes (ev TT cs_impl_ValidTrace 18 an_impl_ValidTrace (Try.f50.body.getD .skip) (st0 con_impl_ValidTrace vs) (fin TT con_impl_ValidTrace Try.f50.results.toList [.c .sc] vs kk))) hF (fun t0 hF => goes_of (e_impl_ValidTrace t0 kk) (F_impl_ValidTrace_S hF))
def con_slices_Index_sint_int : Con := ⟨[.rd, .rd], true, [.c (.sl .int), .c (.sc)], fun vs k => match vs with
    | [.c (.ro .int s0), .c (.v (.int .i64 v1))] => F_slices_Index_sint_int s0 v1 (fun r0 => k (.one (.c (.v (.int .i64 r0)))) [])
    | _ => False, false⟩
def cl_slices_Index_sint_int : List (FuncId × Con) := []
def nm0_slices_Index_sint_int : List NStep := [.keep [0, 1, 7, 8] []]
def an_slices_Index_sint_int : Ann := ⟨[], [(2, nm0_slices_Index_sint_int)], []⟩
def cs_slices_Index_sint_int : Cons := ⟨cl_slices_Index_sint_int, [], 0, [], []⟩
def can0_slices_Index_sint_int (s0 : List Int) (v1 : Int) (xt7 : Int) (xt8 : Int) : St := ⟨[(0, .one (.c (.ro .int s0))), (1, .one (.c (.v (.int .i64 v1)))), (7, .one (.c (.v (.int .i64 xt7)))), (8, .one (.c (.v (.int .i64 xt8))))], []⟩
def fin_slices_Index_sint_int (s0 : List Int) (v1 : Int) (kk : AV → List A1 → Prop) : Kt := fin TT con_slices_Index_sint_int Try.f68.results.toList [.c .sc] [.c (.ro .int s0), .c (.v (.int .i64 v1))] kk
def kt0_slices_Index_sint_int (kf : Kt) : Kt := blockK 0 (seqK (evF TT cs_slices_Index_sint_int 19 an_slices_Index_sint_int Try.f68 [1, 1]) (kf))
theorem r0_slices_Index_sint_int (s0 : List Int) (v1 : Int) (xt7 : Int) (kk : AV → List A1 → Prop) (n : Nat) (xt8 : Int) :
    iter (evF TT cs_slices_Index_sint_int 19 an_slices_Index_sint_int Try.f68 [1, 0, 1, 0, 0]) nm0_slices_Index_sint_int (kt0_slices_Index_sint_int (fin_slices_Index_sint_int s0 v1 kk)) (n + 1) (can0_slices_Index_sint_int s0 v1 xt7 xt8) = T0_slices_Index_sint_int s0 v1 xt7 xt8 (fun r0 => kk (.one (.c (.v (.int .i64 r0)))) []) (fun xt8 => iter (evF TT cs_slices_Index_sint_int 19 an_slices_Index_sint_int Try.f68 [1, 0, 1, 0, 0]) nm0_slices_Index_sint_int (kt0_slices_Index_sint_int (fin_slices_Index_sint_int s0 v1 kk)) n (can0_slices_Index_sint_int s0 v1 xt7 xt8)) := by kernel_rfl
theorem l0_slices_Index_sint_int (s0 : List Int) (v1 : Int) (xt7 : Int) (kk : AV → List A1 → Prop) : ∀ (n : Nat) (xt8 : Int), iter (evF TT cs_slices_Index_sint_int 19 an_slices_Index_sint_int Try.f68 [1, 0, 1, 0, 0]) nm0_slices_Index_sint_int (kt0_slices_Index_sint_int (fin_slices_Index_sint_int s0 v1 kk)) n (can0_slices_Index_sint_int s0 v1 xt7 xt8) = L0_slices_Index_sint_int s0 v1 xt7 (fun r0 => kk (.one (.c (.v (.int .i64 r0)))) []) n xt8 := by
  intro n
  induction n with
  | zero => intros; rfl
  | succ n ih =>
    intro xt8
    rw [r0_slices_Index_sint_int s0 v1 xt7 kk n xt8]
    have hb : (fun xt8 => iter (evF TT cs_slices_Index_sint_int 19 an_slices_Index_sint_int Try.f68 [1, 0, 1, 0, 0]) nm0_slices_Index_sint_int (kt0_slices_Index_sint_int (fin_slices_Index_sint_int s0 v1 kk)) n (can0_slices_Index_sint_int s0 v1 xt7 xt8)) = L0_slices_Index_sint_int s0 v1 xt7 (fun r0 => kk (.one (.c (.v (.int .i64 r0)))) []) n := by
      funext xt8; exact ih xt8
    rw [hb]
    rfl
theorem g_slices_Index_sint_int (s0 : List Int) (v1 : Int) (kk : AV → List A1 → Prop) :
    ev TT cs_slices_Index_sint_int 19 an_slices_Index_sint_int (Try.f68.body.getD .skip) (st0 con_slices_Index_sint_int [.c (.ro .int s0), .c (.v (.int .i64 v1))]) (fin TT con_slices_Index_sint_int Try.f68.results.toList [.c .sc] [.c (.ro .int s0), .c (.v (.int .i64 v1))] kk) = G_slices_Index_sint_int s0 v1 (fun s0 v1 xt7 xt8 => ∃ j, iter (evF TT cs_slices_Index_sint_int 19 an_slices_Index_sint_int Try.f68 [1, 0, 1, 0, 0]) nm0_slices_Index_sint_int (kt0_slices_Index_sint_int (fin_slices_Index_sint_int s0 v1 kk)) j (can0_slices_Index_sint_int s0 v1 xt7 xt8)) := by kernel_rfl
theorem e_slices_Index_sint_int (s0 : List Int) (v1 : Int) (kk : AV → List A1 → Prop) :
    ev TT cs_slices_Index_sint_int 19 an_slices_Index_sint_int (Try.f68.body.getD .skip) (st0 con_slices_Index_sint_int [.c (.ro .int s0), .c (.v (.int .i64 v1))]) (fin TT con_slices_Index_sint_int Try.f68.results.toList [.c .sc] [.c (.ro .int s0), .c (.v (.int .i64 v1))] kk) = S_slices_Index_sint_int s0 v1 (fun r0 => kk (.one (.c (.v (.int .i64 r0)))) []) := by
  rw [g_slices_Index_sint_int]
  have hi0 : (fun s0 v1 xt7 xt8 => ∃ j, iter (evF TT cs_slices_Index_sint_int 19 an_slices_Index_sint_int Try.f68 [1, 0, 1, 0, 0]) nm0_slices_Index_sint_int (kt0_slices_Index_sint_int (fin_slices_Index_sint_int s0 v1 kk)) j (can0_slices_Index_sint_int s0 v1 xt7 xt8)) = (fun s0 v1 xt7 xt8 => ∃ j, L0_slices_Index_sint_int s0 v1 xt7 (fun r0 => kk (.one (.c (.v (.int .i64 r0)))) []) j xt8) := by
    funext s0 v1 xt7 xt8
    refine congrArg Exists (funext fun j => ?_)
    rw [l0_slices_Index_sint_int s0 v1 xt7 kk j xt8]
  rw [hi0]
  rfl
theorem clok_slices_Index_sint_int : ConOK Try.prog cl_slices_Index_sint_int := consNil
theorem cok_slices_Index_sint_int : ConsOK Try.prog 19 cs_slices_Index_sint_int := ⟨clok_slices_Index_sint_int, inlNil⟩
theorem i_slices_Index_sint_int {vs : List A1} {kk : AV → List A1 → Prop} {motive : List A1 → Prop} (h : con_slices_Index_sint_int.F vs kk) (H : ∀ (s0 : List Int) (v1 : Int), F_slices_Index_sint_int s0 v1 (fun r0 => kk (.one (.c (.v (.int .i64 r0)))) []) → motive [.c (.ro .int s0), .c (.v (.int .i64 v1))]) : motive vs := by
  unfold con_slices_Index_sint_int at h
  dsimp only at h
  split at h
  · exact H _ _ h
  · exact h.elim
theorem h_slices_Index_sint_int : Holds Try.prog 68 con_slices_Index_sint_int := by
  refine holds_of_ev (rt := [.c .sc]) (T := TT) (Γ := cs_slices_Index_sint_int) (an := an_slices_Index_sint_int) (N := 19) (c := Try.f68.body.getD .skip) Try.func68 (by kernel_rfl) Try.ntmps68 (by decide) (by decide) mixed tabOK cok_slices_Index_sint_int (by kernel_rfl) ?_
  intro vs kk _ hF
  exact i_slices_Index_sint_int (motive := fun vs => Goes (ev TT cs_slices_Index_sint_int 19 an_slices_Index_sint_int (Try.f68.body.getD .skip) (st0 con_slices_Index_sint_int vs) (fin TT con_slices_Index_sint_int Try.f68.results.toList [.c .sc] vs kk))) hF (fun s0 v1 hF => goes_of (e_slices_Index_sint_int s0 v1 kk) (F_slices_Index_sint_int_S hF))
def con_impl_withoutKey : Con := ⟨[.rd, .rd], true, [.c (.sl .int), .c (.sc)], fun vs k => match vs with
    | [.c (.ro .int list0), .c (.v (.int .i64 key1))] => F_impl_withoutKey list0 key1 (fun r0 => k (.one (.c (.ro .int r0))) [])
    | _ => False, false⟩
def cl_impl_withoutKey : List (FuncId × Con) := []
def nm0_impl_withoutKey : List NStep := [.own 5 .int 90000, .keep [1, 5, 9, 10, 11] [90000]]
def an_impl_withoutKey : Ann := ⟨[], [(3, nm0_impl_withoutKey)], []⟩
def cs_impl_withoutKey : Cons := ⟨cl_impl_withoutKey, [], 0, [], []⟩
def can0_impl_withoutKey (key1 : Int) (list0 : List Int) (xt10 : Int) (xt11 : Int) (xout5 : List Int) : St := ⟨[(1, .one (.c (.v (.int .i64 key1)))), (5, .one (.c (.ow 90000))), (9, .one (.c (.ro .int list0))), (10, .one (.c (.v (.int .i64 xt10)))), (11, .one (.c (.v (.int .i64 xt11))))], [(90000, .row .int xout5)]⟩
def fin_impl_withoutKey (list0 : List Int) (key1 : Int) (kk : AV → List A1 → Prop) : Kt := fin TT con_impl_withoutKey Try.f72.results.toList [.c (.sl .int)] [.c (.ro .int list0), .c (.v (.int .i64 key1))] kk
def kt0_impl_withoutKey (kf : Kt) : Kt := blockK 0 (seqK (evF TT cs_impl_withoutKey 24 an_impl_withoutKey Try.f72 [1, 1, 1]) (kf))
theorem r0_impl_withoutKey (list0 : List Int) (key1 : Int) (xt10 : Int) (kk : AV → List A1 → Prop) (n : Nat) (xt11 : Int) (xout5 : List Int) :
    iter (evF TT cs_impl_withoutKey 24 an_impl_withoutKey Try.f72 [1, 1, 0, 1, 0, 0]) nm0_impl_withoutKey (kt0_impl_withoutKey (fin_impl_withoutKey list0 key1 kk)) (n + 1) (can0_impl_withoutKey key1 list0 xt10 xt11 xout5) = T0_impl_withoutKey key1 list0 xt10 xt11 xout5 (fun r0 => kk (.one (.c (.ro .int r0))) []) (fun xt11 xout5 => iter (evF TT cs_impl_withoutKey 24 an_impl_withoutKey Try.f72 [1, 1, 0, 1, 0, 0]) nm0_impl_withoutKey (kt0_impl_withoutKey (fin_impl_withoutKey list0 key1 kk)) n (can0_impl_withoutKey key1 list0 xt10 xt11 xout5)) := by kernel_rfl
theorem l0_impl_withoutKey (list0 : List Int) (key1 : Int) (xt10 : Int) (kk : AV → List A1 → Prop) : ∀ (n : Nat) (xt11 : Int) (xout5 : List Int), iter (evF TT cs_impl_withoutKey 24 an_impl_withoutKey Try.f72 [1, 1, 0, 1, 0, 0]) nm0_impl_withoutKey (kt0_impl_withoutKey (fin_impl_withoutKey list0 key1 kk)) n (can0_impl_withoutKey key1 list0 xt10 xt11 xout5) = L0_impl_withoutKey key1 list0 xt10 (fun r0 => kk (.one (.c (.ro .int r0))) []) n xt11 xout5 := by
  intro n
  induction n with
  | zero => intros; rfl
  | succ n ih =>
    intro xt11 xout5
    rw [r0_impl_withoutKey list0 key1 xt10 kk n xt11 xout5]
    have hb : (fun xt11 xout5 => iter (evF TT cs_impl_withoutKey 24 an_impl_withoutKey Try.f72 [1, 1, 0, 1, 0, 0]) nm0_impl_withoutKey (kt0_impl_withoutKey (fin_impl_withoutKey list0 key1 kk)) n (can0_impl_withoutKey key1 list0 xt10 xt11 xout5)) = L0_impl_withoutKey key1 list0 xt10 (fun r0 => kk (.one (.c (.ro .int r0))) []) n := by
      funext xt11 xout5; exact ih xt11 xout5
    rw [hb]
    rfl
theorem g_impl_withoutKey (list0 : List Int) (key1 : Int) (kk : AV → List A1 → Prop) :
    ev TT cs_impl_withoutKey 24 an_impl_withoutKey (Try.f72.body.getD .skip) (st0 con_impl_withoutKey [.c (.ro .int list0), .c (.v (.int .i64 key1))]) (fin TT con_impl_withoutKey Try.f72.results.toList [.c (.sl .int)] [.c (.ro .int list0), .c (.v (.int .i64 key1))] kk) = G_impl_withoutKey list0 key1 (fun key1 list0 xt10 xt11 xout5 => ∃ j, iter (evF TT cs_impl_withoutKey 24 an_impl_withoutKey Try.f72 [1, 1, 0, 1, 0, 0]) nm0_impl_withoutKey (kt0_impl_withoutKey (fin_impl_withoutKey list0 key1 kk)) j (can0_impl_withoutKey key1 list0 xt10 xt11 xout5)) := by kernel_rfl
theorem e_impl_withoutKey (list0 : List Int) (key1 : Int) (kk : AV → List A1 → Prop) :
    ev TT cs_impl_withoutKey 24 an_impl_withoutKey (Try.f72.body.getD .skip) (st0 con_impl_withoutKey [.c (.ro .int list0), .c (.v (.int .i64 key1))]) (fin TT con_impl_withoutKey Try.f72.results.toList [.c (.sl .int)] [.c (.ro .int list0), .c (.v (.int .i64 key1))] kk) = S_impl_withoutKey list0 key1 (fun r0 => kk (.one (.c (.ro .int r0))) []) := by
  rw [g_impl_withoutKey]
  have hi0 : (fun key1 list0 xt10 xt11 xout5 => ∃ j, iter (evF TT cs_impl_withoutKey 24 an_impl_withoutKey Try.f72 [1, 1, 0, 1, 0, 0]) nm0_impl_withoutKey (kt0_impl_withoutKey (fin_impl_withoutKey list0 key1 kk)) j (can0_impl_withoutKey key1 list0 xt10 xt11 xout5)) = (fun key1 list0 xt10 xt11 xout5 => ∃ j, L0_impl_withoutKey key1 list0 xt10 (fun r0 => kk (.one (.c (.ro .int r0))) []) j xt11 xout5) := by
    funext key1 list0 xt10 xt11 xout5
    refine congrArg Exists (funext fun j => ?_)
    rw [l0_impl_withoutKey list0 key1 xt10 kk j xt11 xout5]
  rw [hi0]
  rfl
theorem clok_impl_withoutKey : ConOK Try.prog cl_impl_withoutKey := consNil
theorem cok_impl_withoutKey : ConsOK Try.prog 24 cs_impl_withoutKey := ⟨clok_impl_withoutKey, inlNil⟩
theorem i_impl_withoutKey {vs : List A1} {kk : AV → List A1 → Prop} {motive : List A1 → Prop} (h : con_impl_withoutKey.F vs kk) (H : ∀ (list0 : List Int) (key1 : Int), F_impl_withoutKey list0 key1 (fun r0 => kk (.one (.c (.ro .int r0))) []) → motive [.c (.ro .int list0), .c (.v (.int .i64 key1))]) : motive vs := by
  unfold con_impl_withoutKey at h
  dsimp only at h
  split at h
  · exact H _ _ h
  · exact h.elim
theorem h_impl_withoutKey : Holds Try.prog 72 con_impl_withoutKey := by
  refine holds_of_ev (rt := [.c (.sl .int)]) (T := TT) (Γ := cs_impl_withoutKey) (an := an_impl_withoutKey) (N := 24) (c := Try.f72.body.getD .skip) Try.func72 (by kernel_rfl) Try.ntmps72 (by decide) (by decide) mixed tabOK cok_impl_withoutKey (by kernel_rfl) ?_
  intro vs kk _ hF
  exact i_impl_withoutKey (motive := fun vs => Goes (ev TT cs_impl_withoutKey 24 an_impl_withoutKey (Try.f72.body.getD .skip) (st0 con_impl_withoutKey vs) (fin TT con_impl_withoutKey Try.f72.results.toList [.c (.sl .int)] vs kk))) hF (fun list0 key1 hF => goes_of (e_impl_withoutKey list0 key1 kk) (F_impl_withoutKey_S hF))
def con_impl_putFirst : Con := ⟨[.rd, .rd], true, [.c (.sl .int), .c (.sc)], fun vs k => match vs with
    | [.c (.ro .int list0), .c (.v (.int .i64 key1))] => F_impl_putFirst list0 key1 (fun r0 => k (.one (.c (.ro .int r0))) [])
    | _ => False, false⟩
def cl_impl_putFirst : List (FuncId × Con) := []
def an_impl_putFirst : Ann := ⟨[], [], []⟩
def cs_impl_putFirst : Cons := ⟨cl_impl_putFirst, [], 0, [], []⟩
def fin_impl_putFirst (list0 : List Int) (key1 : Int) (kk : AV → List A1 → Prop) : Kt := fin TT con_impl_putFirst Try.f71.results.toList [.c (.sl .int)] [.c (.ro .int list0), .c (.v (.int .i64 key1))] kk
theorem g_impl_putFirst (list0 : List Int) (key1 : Int) (kk : AV → List A1 → Prop) :
    ev TT cs_impl_putFirst 9 an_impl_putFirst (Try.f71.body.getD .skip) (st0 con_impl_putFirst [.c (.ro .int list0), .c (.v (.int .i64 key1))]) (fin TT con_impl_putFirst Try.f71.results.toList [.c (.sl .int)] [.c (.ro .int list0), .c (.v (.int .i64 key1))] kk) = G_impl_putFirst list0 key1 (fun r0 => kk (.one (.c (.ro .int r0))) []) := by kernel_rfl
theorem e_impl_putFirst (list0 : List Int) (key1 : Int) (kk : AV → List A1 → Prop) :
    ev TT cs_impl_putFirst 9 an_impl_putFirst (Try.f71.body.getD .skip) (st0 con_impl_putFirst [.c (.ro .int list0), .c (.v (.int .i64 key1))]) (fin TT con_impl_putFirst Try.f71.results.toList [.c (.sl .int)] [.c (.ro .int list0), .c (.v (.int .i64 key1))] kk) = S_impl_putFirst list0 key1 (fun r0 => kk (.one (.c (.ro .int r0))) []) := by
  rw [g_impl_putFirst]
  rfl
theorem clok_impl_putFirst : ConOK Try.prog cl_impl_putFirst := consNil
theorem cok_impl_putFirst : ConsOK Try.prog 9 cs_impl_putFirst := ⟨clok_impl_putFirst, inlNil⟩
theorem i_impl_putFirst {vs : List A1} {kk : AV → List A1 → Prop} {motive : List A1 → Prop} (h : con_impl_putFirst.F vs kk) (H : ∀ (list0 : List Int) (key1 : Int), F_impl_putFirst list0 key1 (fun r0 => kk (.one (.c (.ro .int r0))) []) → motive [.c (.ro .int list0), .c (.v (.int .i64 key1))]) : motive vs := by
  unfold con_impl_putFirst at h
  dsimp only at h
  split at h
  · exact H _ _ h
  · exact h.elim
theorem h_impl_putFirst : Holds Try.prog 71 con_impl_putFirst := by
  refine holds_of_ev (rt := [.c (.sl .int)]) (T := TT) (Γ := cs_impl_putFirst) (an := an_impl_putFirst) (N := 9) (c := Try.f71.body.getD .skip) Try.func71 (by kernel_rfl) Try.ntmps71 (by decide) (by decide) mixed tabOK cok_impl_putFirst (by kernel_rfl) ?_
  intro vs kk _ hF
  exact i_impl_putFirst (motive := fun vs => Goes (ev TT cs_impl_putFirst 9 an_impl_putFirst (Try.f71.body.getD .skip) (st0 con_impl_putFirst vs) (fin TT con_impl_putFirst Try.f71.results.toList [.c (.sl .int)] vs kk))) hF (fun list0 key1 hF => goes_of (e_impl_putFirst list0 key1 kk) (F_impl_putFirst_S hF))
def con_impl_ReuseDistances : Con := ⟨[.rd], true, [.c (.sl .int)], fun vs k => match vs with
    | [.c (.ro .int t0)] => F_impl_ReuseDistances t0 (fun r0 => k (.one (.c (.ro .int r0))) [])
    | _ => False, false⟩
def cl_impl_ReuseDistances : List (FuncId × Con) := [(50, con_impl_ValidTrace), (68, con_slices_Index_sint_int), (71, con_impl_putFirst), (72, con_impl_withoutKey)]
def nm0_impl_ReuseDistances : List NStep := [.own 4 .int 90000, .keep [3, 4, 14, 15, 16] [192, 90000]]
def an_impl_ReuseDistances : Ann := ⟨[], [(6, nm0_impl_ReuseDistances)], []⟩
def cs_impl_ReuseDistances : Cons := ⟨cl_impl_ReuseDistances, [], 0, [], []⟩
def can0_impl_ReuseDistances (t0 : List Int) (xt15 : Int) (xt16 : Int) (xy12 : List Int) (xrecent4 : List Int) : St := ⟨[(3, .one (.c (.ow 192))), (4, .one (.c (.ow 90000))), (14, .one (.c (.ro .int t0))), (15, .one (.c (.v (.int .i64 xt15)))), (16, .one (.c (.v (.int .i64 xt16))))], [(192, .row .int xy12), (90000, .row .int xrecent4)]⟩
def fin_impl_ReuseDistances (t0 : List Int) (kk : AV → List A1 → Prop) : Kt := fin TT con_impl_ReuseDistances Try.f29.results.toList [.c (.sl .int)] [.c (.ro .int t0)] kk
def kt0_impl_ReuseDistances (kf : Kt) : Kt := blockK 0 (seqK (evF TT cs_impl_ReuseDistances 35 an_impl_ReuseDistances Try.f29 [1, 1, 1, 1, 1]) (kf))
theorem r0_impl_ReuseDistances (t0 : List Int) (xt15 : Int) (kk : AV → List A1 → Prop) (n : Nat) (xt16 : Int) (xy12 : List Int) (xrecent4 : List Int) :
    iter (evF TT cs_impl_ReuseDistances 35 an_impl_ReuseDistances Try.f29 [1, 1, 1, 1, 0, 1, 0, 0]) nm0_impl_ReuseDistances (kt0_impl_ReuseDistances (fin_impl_ReuseDistances t0 kk)) (n + 1) (can0_impl_ReuseDistances t0 xt15 xt16 xy12 xrecent4) = T0_impl_ReuseDistances t0 xt15 xt16 xy12 xrecent4 (fun r0 => kk (.one (.c (.ro .int r0))) []) (fun xt16 xy12 xrecent4 => iter (evF TT cs_impl_ReuseDistances 35 an_impl_ReuseDistances Try.f29 [1, 1, 1, 1, 0, 1, 0, 0]) nm0_impl_ReuseDistances (kt0_impl_ReuseDistances (fin_impl_ReuseDistances t0 kk)) n (can0_impl_ReuseDistances t0 xt15 xt16 xy12 xrecent4)) := by kernel_rfl
theorem l0_impl_ReuseDistances (t0 : List Int) (xt15 : Int) (kk : AV → List A1 → Prop) : ∀ (n : Nat) (xt16 : Int) (xy12 : List Int) (xrecent4 : List Int), iter (evF TT cs_impl_ReuseDistances 35 an_impl_ReuseDistances Try.f29 [1, 1, 1, 1, 0, 1, 0, 0]) nm0_impl_ReuseDistances (kt0_impl_ReuseDistances (fin_impl_ReuseDistances t0 kk)) n (can0_impl_ReuseDistances t0 xt15 xt16 xy12 xrecent4) = L0_impl_ReuseDistances t0 xt15 (fun r0 => kk (.one (.c (.ro .int r0))) []) n xt16 xy12 xrecent4 := by
  intro n
  induction n with
  | zero => intros; rfl
  | succ n ih =>
    intro xt16 xy12 xrecent4
    rw [r0_impl_ReuseDistances t0 xt15 kk n xt16 xy12 xrecent4]
    have hb : (fun xt16 xy12 xrecent4 => iter (evF TT cs_impl_ReuseDistances 35 an_impl_ReuseDistances Try.f29 [1, 1, 1, 1, 0, 1, 0, 0]) nm0_impl_ReuseDistances (kt0_impl_ReuseDistances (fin_impl_ReuseDistances t0 kk)) n (can0_impl_ReuseDistances t0 xt15 xt16 xy12 xrecent4)) = L0_impl_ReuseDistances t0 xt15 (fun r0 => kk (.one (.c (.ro .int r0))) []) n := by
      funext xt16 xy12 xrecent4; exact ih xt16 xy12 xrecent4
    rw [hb]
    rfl
theorem g_impl_ReuseDistances (t0 : List Int) (kk : AV → List A1 → Prop) :
    ev TT cs_impl_ReuseDistances 35 an_impl_ReuseDistances (Try.f29.body.getD .skip) (st0 con_impl_ReuseDistances [.c (.ro .int t0)]) (fin TT con_impl_ReuseDistances Try.f29.results.toList [.c (.sl .int)] [.c (.ro .int t0)] kk) = G_impl_ReuseDistances t0 (fun r0 => kk (.one (.c (.ro .int r0))) []) (fun t0 xt15 xt16 xy12 xrecent4 => ∃ j, iter (evF TT cs_impl_ReuseDistances 35 an_impl_ReuseDistances Try.f29 [1, 1, 1, 1, 0, 1, 0, 0]) nm0_impl_ReuseDistances (kt0_impl_ReuseDistances (fin_impl_ReuseDistances t0 kk)) j (can0_impl_ReuseDistances t0 xt15 xt16 xy12 xrecent4)) := by kernel_rfl
theorem e_impl_ReuseDistances (t0 : List Int) (kk : AV → List A1 → Prop) :
    ev TT cs_impl_ReuseDistances 35 an_impl_ReuseDistances (Try.f29.body.getD .skip) (st0 con_impl_ReuseDistances [.c (.ro .int t0)]) (fin TT con_impl_ReuseDistances Try.f29.results.toList [.c (.sl .int)] [.c (.ro .int t0)] kk) = S_impl_ReuseDistances t0 (fun r0 => kk (.one (.c (.ro .int r0))) []) := by
  rw [g_impl_ReuseDistances]
  have hi0 : (fun t0 xt15 xt16 xy12 xrecent4 => ∃ j, iter (evF TT cs_impl_ReuseDistances 35 an_impl_ReuseDistances Try.f29 [1, 1, 1, 1, 0, 1, 0, 0]) nm0_impl_ReuseDistances (kt0_impl_ReuseDistances (fin_impl_ReuseDistances t0 kk)) j (can0_impl_ReuseDistances t0 xt15 xt16 xy12 xrecent4)) = (fun t0 xt15 xt16 xy12 xrecent4 => ∃ j, L0_impl_ReuseDistances t0 xt15 (fun r0 => kk (.one (.c (.ro .int r0))) []) j xt16 xy12 xrecent4) := by
    funext t0 xt15 xt16 xy12 xrecent4
    refine congrArg Exists (funext fun j => ?_)
    rw [l0_impl_ReuseDistances t0 xt15 kk j xt16 xy12 xrecent4]
  rw [hi0]
  rfl
theorem clok_impl_ReuseDistances : ConOK Try.prog cl_impl_ReuseDistances := consCons h_impl_ValidTrace ⟨Try.f50, Try.func50, by kernel_rfl, ne_of_beq (by kernel_rfl)⟩ (consCons h_slices_Index_sint_int ⟨Try.f68, Try.func68, by kernel_rfl, ne_of_beq (by kernel_rfl)⟩ (consCons h_impl_putFirst ⟨Try.f71, Try.func71, by kernel_rfl, ne_of_beq (by kernel_rfl)⟩ (consCons h_impl_withoutKey ⟨Try.f72, Try.func72, by kernel_rfl, ne_of_beq (by kernel_rfl)⟩ (consNil))))
theorem cok_impl_ReuseDistances : ConsOK Try.prog 35 cs_impl_ReuseDistances := ⟨clok_impl_ReuseDistances, inlNil⟩
theorem i_impl_ReuseDistances {vs : List A1} {kk : AV → List A1 → Prop} {motive : List A1 → Prop} (h : con_impl_ReuseDistances.F vs kk) (H : ∀ (t0 : List Int), F_impl_ReuseDistances t0 (fun r0 => kk (.one (.c (.ro .int r0))) []) → motive [.c (.ro .int t0)]) : motive vs := by
  unfold con_impl_ReuseDistances at h
  dsimp only at h
  split at h
  · exact H _ h
  · exact h.elim
theorem h_impl_ReuseDistances : Holds Try.prog 29 con_impl_ReuseDistances := by
  refine holds_of_ev (rt := [.c (.sl .int)]) (T := TT) (Γ := cs_impl_ReuseDistances) (an := an_impl_ReuseDistances) (N := 35) (c := Try.f29.body.getD .skip) Try.func29 (by kernel_rfl) Try.ntmps29 (by decide) (by decide) mixed tabOK cok_impl_ReuseDistances (by kernel_rfl) ?_
  intro vs kk _ hF
  exact i_impl_ReuseDistances (motive := fun vs => Goes (ev TT cs_impl_ReuseDistances 35 an_impl_ReuseDistances (Try.f29.body.getD .skip) (st0 con_impl_ReuseDistances vs) (fin TT con_impl_ReuseDistances Try.f29.results.toList [.c (.sl .int)] vs kk))) hF (fun t0 hF => goes_of (e_impl_ReuseDistances t0 kk) (F_impl_ReuseDistances_S hF))
def con_laws_eqIntS : Con := ⟨[.rd, .rd], true, [.c (.sl .int), .c (.sl .int)], fun vs k => match vs with
    | [.c (.ro .int a0), .c (.ro .int b1)] => F_laws_eqIntS a0 b1 (fun r0 => k (.one (.c (.v (.bool r0)))) [])
    | _ => False, false⟩
def cl_laws_eqIntS : List (FuncId × Con) := []
def nm0_laws_eqIntS : List NStep := [.keep [0, 1, 5] []]
def an_laws_eqIntS : Ann := ⟨[(6, .take 0 (.take 1 (.take 2 (.take 3 (.take 4 (.take 5 (.take 6 (.take 7 (.take 8 (.done))))))))), [])], [(4, nm0_laws_eqIntS)], []⟩
def cs_laws_eqIntS : Cons := ⟨cl_laws_eqIntS, [], 0, [], []⟩
def can0_laws_eqIntS (a0 : List Int) (b1 : List Int) (xi5 : Int) : St := ⟨[(0, .one (.c (.ro .int a0))), (1, .one (.c (.ro .int b1))), (5, .one (.c (.v (.int .i64 xi5))))], []⟩
def fin_laws_eqIntS (a0 : List Int) (b1 : List Int) (kk : AV → List A1 → Prop) : Kt := fin TT con_laws_eqIntS Try.f42.results.toList [.c .sc] [.c (.ro .int a0), .c (.ro .int b1)] kk
def kt0_laws_eqIntS (kf : Kt) : Kt := blockK 0 (seqK (evF TT cs_laws_eqIntS 26 an_laws_eqIntS Try.f42 [1, 1, 1]) (kf))
theorem r0_laws_eqIntS (a0 : List Int) (b1 : List Int) (kk : AV → List A1 → Prop) (n : Nat) (xi5 : Int) :
    iter (evF TT cs_laws_eqIntS 26 an_laws_eqIntS Try.f42 [1, 1, 0, 1, 0, 0]) nm0_laws_eqIntS (kt0_laws_eqIntS (fin_laws_eqIntS a0 b1 kk)) (n + 1) (can0_laws_eqIntS a0 b1 xi5) = T0_laws_eqIntS a0 b1 xi5 (fun r0 => kk (.one (.c (.v (.bool r0)))) []) (fun xi5 => iter (evF TT cs_laws_eqIntS 26 an_laws_eqIntS Try.f42 [1, 1, 0, 1, 0, 0]) nm0_laws_eqIntS (kt0_laws_eqIntS (fin_laws_eqIntS a0 b1 kk)) n (can0_laws_eqIntS a0 b1 xi5)) := by kernel_rfl
theorem l0_laws_eqIntS (a0 : List Int) (b1 : List Int) (kk : AV → List A1 → Prop) : ∀ (n : Nat) (xi5 : Int), iter (evF TT cs_laws_eqIntS 26 an_laws_eqIntS Try.f42 [1, 1, 0, 1, 0, 0]) nm0_laws_eqIntS (kt0_laws_eqIntS (fin_laws_eqIntS a0 b1 kk)) n (can0_laws_eqIntS a0 b1 xi5) = L0_laws_eqIntS a0 b1 (fun r0 => kk (.one (.c (.v (.bool r0)))) []) n xi5 := by
  intro n
  induction n with
  | zero => intros; rfl
  | succ n ih =>
    intro xi5
    rw [r0_laws_eqIntS a0 b1 kk n xi5]
    have hb : (fun xi5 => iter (evF TT cs_laws_eqIntS 26 an_laws_eqIntS Try.f42 [1, 1, 0, 1, 0, 0]) nm0_laws_eqIntS (kt0_laws_eqIntS (fin_laws_eqIntS a0 b1 kk)) n (can0_laws_eqIntS a0 b1 xi5)) = L0_laws_eqIntS a0 b1 (fun r0 => kk (.one (.c (.v (.bool r0)))) []) n := by
      funext xi5; exact ih xi5
    rw [hb]
    rfl
theorem g_laws_eqIntS (a0 : List Int) (b1 : List Int) (kk : AV → List A1 → Prop) :
    ev TT cs_laws_eqIntS 26 an_laws_eqIntS (Try.f42.body.getD .skip) (st0 con_laws_eqIntS [.c (.ro .int a0), .c (.ro .int b1)]) (fin TT con_laws_eqIntS Try.f42.results.toList [.c .sc] [.c (.ro .int a0), .c (.ro .int b1)] kk) = G_laws_eqIntS a0 b1 (fun r0 => kk (.one (.c (.v (.bool r0)))) []) (fun a0 b1 xi5 => ∃ j, iter (evF TT cs_laws_eqIntS 26 an_laws_eqIntS Try.f42 [1, 1, 0, 1, 0, 0]) nm0_laws_eqIntS (kt0_laws_eqIntS (fin_laws_eqIntS a0 b1 kk)) j (can0_laws_eqIntS a0 b1 xi5)) := by kernel_rfl
theorem e_laws_eqIntS (a0 : List Int) (b1 : List Int) (kk : AV → List A1 → Prop) :
    ev TT cs_laws_eqIntS 26 an_laws_eqIntS (Try.f42.body.getD .skip) (st0 con_laws_eqIntS [.c (.ro .int a0), .c (.ro .int b1)]) (fin TT con_laws_eqIntS Try.f42.results.toList [.c .sc] [.c (.ro .int a0), .c (.ro .int b1)] kk) = S_laws_eqIntS a0 b1 (fun r0 => kk (.one (.c (.v (.bool r0)))) []) := by
  rw [g_laws_eqIntS]
  have hi0 : (fun a0 b1 xi5 => ∃ j, iter (evF TT cs_laws_eqIntS 26 an_laws_eqIntS Try.f42 [1, 1, 0, 1, 0, 0]) nm0_laws_eqIntS (kt0_laws_eqIntS (fin_laws_eqIntS a0 b1 kk)) j (can0_laws_eqIntS a0 b1 xi5)) = (fun a0 b1 xi5 => ∃ j, L0_laws_eqIntS a0 b1 (fun r0 => kk (.one (.c (.v (.bool r0)))) []) j xi5) := by
    funext a0 b1 xi5
    refine congrArg Exists (funext fun j => ?_)
    rw [l0_laws_eqIntS a0 b1 kk j xi5]
  rw [hi0]
  rfl
theorem clok_laws_eqIntS : ConOK Try.prog cl_laws_eqIntS := consNil
theorem cok_laws_eqIntS : ConsOK Try.prog 26 cs_laws_eqIntS := ⟨clok_laws_eqIntS, inlNil⟩
theorem i_laws_eqIntS {vs : List A1} {kk : AV → List A1 → Prop} {motive : List A1 → Prop} (h : con_laws_eqIntS.F vs kk) (H : ∀ (a0 : List Int) (b1 : List Int), F_laws_eqIntS a0 b1 (fun r0 => kk (.one (.c (.v (.bool r0)))) []) → motive [.c (.ro .int a0), .c (.ro .int b1)]) : motive vs := by
  unfold con_laws_eqIntS at h
  dsimp only at h
  split at h
  · exact H _ _ h
  · exact h.elim
theorem h_laws_eqIntS : Holds Try.prog 42 con_laws_eqIntS := by
  refine holds_of_ev (rt := [.c .sc]) (T := TT) (Γ := cs_laws_eqIntS) (an := an_laws_eqIntS) (N := 26) (c := Try.f42.body.getD .skip) Try.func42 (by kernel_rfl) Try.ntmps42 (by decide) (by decide) mixed tabOK cok_laws_eqIntS (by kernel_rfl) ?_
  intro vs kk _ hF
  exact i_laws_eqIntS (motive := fun vs => Goes (ev TT cs_laws_eqIntS 26 an_laws_eqIntS (Try.f42.body.getD .skip) (st0 con_laws_eqIntS vs) (fin TT con_laws_eqIntS Try.f42.results.toList [.c .sc] vs kk))) hF (fun a0 b1 hF => goes_of (e_laws_eqIntS a0 b1 kk) (F_laws_eqIntS_S hF))
def con_laws_markIntS : Con := ⟨[.mu, .rd], true, [.c (.sl .int), .c (.sc)], fun vs k => match vs with
    | [.c (.ro .int a0), .c (.v (.int .i64 k1))] => F_laws_markIntS a0 k1 (fun r0 r1 => k (.one (.c (.v (.int .i64 r0)))) [.c (.ro .int r1)])
    | _ => False, false⟩
def cl_laws_markIntS : List (FuncId × Con) := []
def nm0_laws_markIntS : List NStep := [.keep [0, 1, 5] [100000]]
def an_laws_markIntS : Ann := ⟨[], [(2, nm0_laws_markIntS)], []⟩
def cs_laws_markIntS : Cons := ⟨cl_laws_markIntS, [], 0, [], []⟩
def can0_laws_markIntS (xk1 : Int) (xi5 : Int) (xy100000 : List Int) : St := ⟨[(0, .one (.c (.ow 100000))), (1, .one (.c (.v (.int .i64 xk1)))), (5, .one (.c (.v (.int .i64 xi5))))], [(100000, .row .int xy100000)]⟩
def fin_laws_markIntS (a0 : List Int) (k1 : Int) (kk : AV → List A1 → Prop) : Kt := fin TT con_laws_markIntS Try.f47.results.toList [.c .sc] [.c (.ro .int a0), .c (.v (.int .i64 k1))] kk
def kt0_laws_markIntS (kf : Kt) : Kt := blockK 0 (seqK (evF TT cs_laws_markIntS 19 an_laws_markIntS Try.f47 [1, 1]) (kf))
theorem r0_laws_markIntS (a0 : List Int) (k1 : Int) (kk : AV → List A1 → Prop) (n : Nat) (xk1 : Int) (xi5 : Int) (xy100000 : List Int) :
    iter (evF TT cs_laws_markIntS 19 an_laws_markIntS Try.f47 [1, 0, 1, 0, 0]) nm0_laws_markIntS (kt0_laws_markIntS (fin_laws_markIntS a0 k1 kk)) (n + 1) (can0_laws_markIntS xk1 xi5 xy100000) = T0_laws_markIntS xk1 xi5 xy100000 (fun r0 r1 => kk (.one (.c (.v (.int .i64 r0)))) [.c (.ro .int r1)]) (fun xk1 xi5 xy100000 => iter (evF TT cs_laws_markIntS 19 an_laws_markIntS Try.f47 [1, 0, 1, 0, 0]) nm0_laws_markIntS (kt0_laws_markIntS (fin_laws_markIntS a0 k1 kk)) n (can0_laws_markIntS xk1 xi5 xy100000)) := by kernel_rfl
theorem l0_laws_markIntS (a0 : List Int) (k1 : Int) (kk : AV → List A1 → Prop) : ∀ (n : Nat) (xk1 : Int) (xi5 : Int) (xy100000 : List Int), iter (evF TT cs_laws_markIntS 19 an_laws_markIntS Try.f47 [1, 0, 1, 0, 0]) nm0_laws_markIntS (kt0_laws_markIntS (fin_laws_markIntS a0 k1 kk)) n (can0_laws_markIntS xk1 xi5 xy100000) = L0_laws_markIntS (fun r0 r1 => kk (.one (.c (.v (.int .i64 r0)))) [.c (.ro .int r1)]) n xk1 xi5 xy100000 := by
  intro n
  induction n with
  | zero => intros; rfl
  | succ n ih =>
    intro xk1 xi5 xy100000
    rw [r0_laws_markIntS a0 k1 kk n xk1 xi5 xy100000]
    have hb : (fun xk1 xi5 xy100000 => iter (evF TT cs_laws_markIntS 19 an_laws_markIntS Try.f47 [1, 0, 1, 0, 0]) nm0_laws_markIntS (kt0_laws_markIntS (fin_laws_markIntS a0 k1 kk)) n (can0_laws_markIntS xk1 xi5 xy100000)) = L0_laws_markIntS (fun r0 r1 => kk (.one (.c (.v (.int .i64 r0)))) [.c (.ro .int r1)]) n := by
      funext xk1 xi5 xy100000; exact ih xk1 xi5 xy100000
    rw [hb]
    rfl
theorem g_laws_markIntS (a0 : List Int) (k1 : Int) (kk : AV → List A1 → Prop) :
    ev TT cs_laws_markIntS 19 an_laws_markIntS (Try.f47.body.getD .skip) (st0 con_laws_markIntS [.c (.ro .int a0), .c (.v (.int .i64 k1))]) (fin TT con_laws_markIntS Try.f47.results.toList [.c .sc] [.c (.ro .int a0), .c (.v (.int .i64 k1))] kk) = G_laws_markIntS a0 k1 (fun xk1 xi5 xy100000 => ∃ j, iter (evF TT cs_laws_markIntS 19 an_laws_markIntS Try.f47 [1, 0, 1, 0, 0]) nm0_laws_markIntS (kt0_laws_markIntS (fin_laws_markIntS a0 k1 kk)) j (can0_laws_markIntS xk1 xi5 xy100000)) := by kernel_rfl
theorem e_laws_markIntS (a0 : List Int) (k1 : Int) (kk : AV → List A1 → Prop) :
    ev TT cs_laws_markIntS 19 an_laws_markIntS (Try.f47.body.getD .skip) (st0 con_laws_markIntS [.c (.ro .int a0), .c (.v (.int .i64 k1))]) (fin TT con_laws_markIntS Try.f47.results.toList [.c .sc] [.c (.ro .int a0), .c (.v (.int .i64 k1))] kk) = S_laws_markIntS a0 k1 (fun r0 r1 => kk (.one (.c (.v (.int .i64 r0)))) [.c (.ro .int r1)]) := by
  rw [g_laws_markIntS]
  have hi0 : (fun xk1 xi5 xy100000 => ∃ j, iter (evF TT cs_laws_markIntS 19 an_laws_markIntS Try.f47 [1, 0, 1, 0, 0]) nm0_laws_markIntS (kt0_laws_markIntS (fin_laws_markIntS a0 k1 kk)) j (can0_laws_markIntS xk1 xi5 xy100000)) = (fun xk1 xi5 xy100000 => ∃ j, L0_laws_markIntS (fun r0 r1 => kk (.one (.c (.v (.int .i64 r0)))) [.c (.ro .int r1)]) j xk1 xi5 xy100000) := by
    funext xk1 xi5 xy100000
    refine congrArg Exists (funext fun j => ?_)
    rw [l0_laws_markIntS a0 k1 kk j xk1 xi5 xy100000]
  rw [hi0]
  rfl
theorem clok_laws_markIntS : ConOK Try.prog cl_laws_markIntS := consNil
theorem cok_laws_markIntS : ConsOK Try.prog 19 cs_laws_markIntS := ⟨clok_laws_markIntS, inlNil⟩
theorem i_laws_markIntS {vs : List A1} {kk : AV → List A1 → Prop} {motive : List A1 → Prop} (h : con_laws_markIntS.F vs kk) (H : ∀ (a0 : List Int) (k1 : Int), F_laws_markIntS a0 k1 (fun r0 r1 => kk (.one (.c (.v (.int .i64 r0)))) [.c (.ro .int r1)]) → motive [.c (.ro .int a0), .c (.v (.int .i64 k1))]) : motive vs := by
  unfold con_laws_markIntS at h
  dsimp only at h
  split at h
  · exact H _ _ h
  · exact h.elim
theorem h_laws_markIntS : Holds Try.prog 47 con_laws_markIntS := by
  refine holds_of_ev (rt := [.c .sc]) (T := TT) (Γ := cs_laws_markIntS) (an := an_laws_markIntS) (N := 19) (c := Try.f47.body.getD .skip) Try.func47 (by kernel_rfl) Try.ntmps47 (by decide) (by decide) mixed tabOK cok_laws_markIntS (by kernel_rfl) ?_
  intro vs kk _ hF
  exact i_laws_markIntS (motive := fun vs => Goes (ev TT cs_laws_markIntS 19 an_laws_markIntS (Try.f47.body.getD .skip) (st0 con_laws_markIntS vs) (fin TT con_laws_markIntS Try.f47.results.toList [.c .sc] vs kk))) hF (fun a0 k1 hF => goes_of (e_laws_markIntS a0 k1 kk) (F_laws_markIntS_S hF))
def con_laws_heldIntS : Con := ⟨[.rd, .rd], true, [.c (.sl .int), .c (.sc)], fun vs k => match vs with
    | [.c (.ro .int a0), .c (.v (.int .i64 k1))] => F_laws_heldIntS a0 k1 (fun r0 => k (.one (.c (.v (.int .i64 r0)))) [])
    | _ => False, false⟩
def cl_laws_heldIntS : List (FuncId × Con) := []
def nm0_laws_heldIntS : List NStep := [.keep [0, 1, 5] []]
def an_laws_heldIntS : Ann := ⟨[], [(2, nm0_laws_heldIntS)], []⟩
def cs_laws_heldIntS : Cons := ⟨cl_laws_heldIntS, [], 0, [], []⟩
def can0_laws_heldIntS (a0 : List Int) (xk1 : Int) (xi5 : Int) : St := ⟨[(0, .one (.c (.ro .int a0))), (1, .one (.c (.v (.int .i64 xk1)))), (5, .one (.c (.v (.int .i64 xi5))))], []⟩
def fin_laws_heldIntS (a0 : List Int) (k1 : Int) (kk : AV → List A1 → Prop) : Kt := fin TT con_laws_heldIntS Try.f48.results.toList [.c .sc] [.c (.ro .int a0), .c (.v (.int .i64 k1))] kk
def kt0_laws_heldIntS (kf : Kt) : Kt := blockK 0 (seqK (evF TT cs_laws_heldIntS 21 an_laws_heldIntS Try.f48 [1, 1]) (kf))
theorem r0_laws_heldIntS (a0 : List Int) (k1 : Int) (kk : AV → List A1 → Prop) (n : Nat) (xk1 : Int) (xi5 : Int) :
    iter (evF TT cs_laws_heldIntS 21 an_laws_heldIntS Try.f48 [1, 0, 1, 0, 0]) nm0_laws_heldIntS (kt0_laws_heldIntS (fin_laws_heldIntS a0 k1 kk)) (n + 1) (can0_laws_heldIntS a0 xk1 xi5) = T0_laws_heldIntS a0 xk1 xi5 (fun r0 => kk (.one (.c (.v (.int .i64 r0)))) []) (fun xk1 xi5 => iter (evF TT cs_laws_heldIntS 21 an_laws_heldIntS Try.f48 [1, 0, 1, 0, 0]) nm0_laws_heldIntS (kt0_laws_heldIntS (fin_laws_heldIntS a0 k1 kk)) n (can0_laws_heldIntS a0 xk1 xi5)) := by kernel_rfl
theorem l0_laws_heldIntS (a0 : List Int) (k1 : Int) (kk : AV → List A1 → Prop) : ∀ (n : Nat) (xk1 : Int) (xi5 : Int), iter (evF TT cs_laws_heldIntS 21 an_laws_heldIntS Try.f48 [1, 0, 1, 0, 0]) nm0_laws_heldIntS (kt0_laws_heldIntS (fin_laws_heldIntS a0 k1 kk)) n (can0_laws_heldIntS a0 xk1 xi5) = L0_laws_heldIntS a0 (fun r0 => kk (.one (.c (.v (.int .i64 r0)))) []) n xk1 xi5 := by
  intro n
  induction n with
  | zero => intros; rfl
  | succ n ih =>
    intro xk1 xi5
    rw [r0_laws_heldIntS a0 k1 kk n xk1 xi5]
    have hb : (fun xk1 xi5 => iter (evF TT cs_laws_heldIntS 21 an_laws_heldIntS Try.f48 [1, 0, 1, 0, 0]) nm0_laws_heldIntS (kt0_laws_heldIntS (fin_laws_heldIntS a0 k1 kk)) n (can0_laws_heldIntS a0 xk1 xi5)) = L0_laws_heldIntS a0 (fun r0 => kk (.one (.c (.v (.int .i64 r0)))) []) n := by
      funext xk1 xi5; exact ih xk1 xi5
    rw [hb]
    rfl
theorem g_laws_heldIntS (a0 : List Int) (k1 : Int) (kk : AV → List A1 → Prop) :
    ev TT cs_laws_heldIntS 21 an_laws_heldIntS (Try.f48.body.getD .skip) (st0 con_laws_heldIntS [.c (.ro .int a0), .c (.v (.int .i64 k1))]) (fin TT con_laws_heldIntS Try.f48.results.toList [.c .sc] [.c (.ro .int a0), .c (.v (.int .i64 k1))] kk) = G_laws_heldIntS a0 k1 (fun a0 xk1 xi5 => ∃ j, iter (evF TT cs_laws_heldIntS 21 an_laws_heldIntS Try.f48 [1, 0, 1, 0, 0]) nm0_laws_heldIntS (kt0_laws_heldIntS (fin_laws_heldIntS a0 k1 kk)) j (can0_laws_heldIntS a0 xk1 xi5)) := by kernel_rfl
theorem e_laws_heldIntS (a0 : List Int) (k1 : Int) (kk : AV → List A1 → Prop) :
    ev TT cs_laws_heldIntS 21 an_laws_heldIntS (Try.f48.body.getD .skip) (st0 con_laws_heldIntS [.c (.ro .int a0), .c (.v (.int .i64 k1))]) (fin TT con_laws_heldIntS Try.f48.results.toList [.c .sc] [.c (.ro .int a0), .c (.v (.int .i64 k1))] kk) = S_laws_heldIntS a0 k1 (fun r0 => kk (.one (.c (.v (.int .i64 r0)))) []) := by
  rw [g_laws_heldIntS]
  have hi0 : (fun a0 xk1 xi5 => ∃ j, iter (evF TT cs_laws_heldIntS 21 an_laws_heldIntS Try.f48 [1, 0, 1, 0, 0]) nm0_laws_heldIntS (kt0_laws_heldIntS (fin_laws_heldIntS a0 k1 kk)) j (can0_laws_heldIntS a0 xk1 xi5)) = (fun a0 xk1 xi5 => ∃ j, L0_laws_heldIntS a0 (fun r0 => kk (.one (.c (.v (.int .i64 r0)))) []) j xk1 xi5) := by
    funext a0 xk1 xi5
    refine congrArg Exists (funext fun j => ?_)
    rw [l0_laws_heldIntS a0 k1 kk j xk1 xi5]
  rw [hi0]
  rfl
theorem clok_laws_heldIntS : ConOK Try.prog cl_laws_heldIntS := consNil
theorem cok_laws_heldIntS : ConsOK Try.prog 21 cs_laws_heldIntS := ⟨clok_laws_heldIntS, inlNil⟩
theorem i_laws_heldIntS {vs : List A1} {kk : AV → List A1 → Prop} {motive : List A1 → Prop} (h : con_laws_heldIntS.F vs kk) (H : ∀ (a0 : List Int) (k1 : Int), F_laws_heldIntS a0 k1 (fun r0 => kk (.one (.c (.v (.int .i64 r0)))) []) → motive [.c (.ro .int a0), .c (.v (.int .i64 k1))]) : motive vs := by
  unfold con_laws_heldIntS at h
  dsimp only at h
  split at h
  · exact H _ _ h
  · exact h.elim
theorem h_laws_heldIntS : Holds Try.prog 48 con_laws_heldIntS := by
  refine holds_of_ev (rt := [.c .sc]) (T := TT) (Γ := cs_laws_heldIntS) (an := an_laws_heldIntS) (N := 21) (c := Try.f48.body.getD .skip) Try.func48 (by kernel_rfl) Try.ntmps48 (by decide) (by decide) mixed tabOK cok_laws_heldIntS (by kernel_rfl) ?_
  intro vs kk _ hF
  exact i_laws_heldIntS (motive := fun vs => Goes (ev TT cs_laws_heldIntS 21 an_laws_heldIntS (Try.f48.body.getD .skip) (st0 con_laws_heldIntS vs) (fin TT con_laws_heldIntS Try.f48.results.toList [.c .sc] vs kk))) hF (fun a0 k1 hF => goes_of (e_laws_heldIntS a0 k1 kk) (F_laws_heldIntS_S hF))
def con_laws_FnExactReuseDistances : Con := ⟨[.rd], true, [.c (.sl .int)], fun vs k => match vs with
    | [.c (.ro .int aT0)] => F_laws_FnExactReuseDistances aT0 (fun r0 => k (.one (.c (.v (.bool r0)))) [])
    | _ => False, false⟩
def cl_laws_FnExactReuseDistances : List (FuncId × Con) := [(29, con_impl_ReuseDistances), (31, con_spec_ReuseDistances), (41, con_laws_toIntS), (42, con_laws_eqIntS), (47, con_laws_markIntS), (48, con_laws_heldIntS)]
def an_laws_FnExactReuseDistances : Ann := ⟨[], [], []⟩
def cs_laws_FnExactReuseDistances : Cons := ⟨cl_laws_FnExactReuseDistances, [], 0, [], []⟩
def fin_laws_FnExactReuseDistances (aT0 : List Int) (kk : AV → List A1 → Prop) : Kt := fin TT con_laws_FnExactReuseDistances Try.f14.results.toList [.c .sc] [.c (.ro .int aT0)] kk
theorem g_laws_FnExactReuseDistances (aT0 : List Int) (kk : AV → List A1 → Prop) :
    ev TT cs_laws_FnExactReuseDistances 66 an_laws_FnExactReuseDistances (Try.f14.body.getD .skip) (st0 con_laws_FnExactReuseDistances [.c (.ro .int aT0)]) (fin TT con_laws_FnExactReuseDistances Try.f14.results.toList [.c .sc] [.c (.ro .int aT0)] kk) = G_laws_FnExactReuseDistances aT0 (fun r0 => kk (.one (.c (.v (.bool r0)))) []) := by kernel_rfl
theorem e_laws_FnExactReuseDistances (aT0 : List Int) (kk : AV → List A1 → Prop) :
    ev TT cs_laws_FnExactReuseDistances 66 an_laws_FnExactReuseDistances (Try.f14.body.getD .skip) (st0 con_laws_FnExactReuseDistances [.c (.ro .int aT0)]) (fin TT con_laws_FnExactReuseDistances Try.f14.results.toList [.c .sc] [.c (.ro .int aT0)] kk) = S_laws_FnExactReuseDistances aT0 (fun r0 => kk (.one (.c (.v (.bool r0)))) []) := by
  rw [g_laws_FnExactReuseDistances]
  rfl
theorem clok_laws_FnExactReuseDistances : ConOK Try.prog cl_laws_FnExactReuseDistances := consCons h_impl_ReuseDistances ⟨Try.f29, Try.func29, by kernel_rfl, ne_of_beq (by kernel_rfl)⟩ (consCons h_spec_ReuseDistances ⟨Try.f31, Try.func31, by kernel_rfl, ne_of_beq (by kernel_rfl)⟩ (consCons h_laws_toIntS ⟨Try.f41, Try.func41, by kernel_rfl, ne_of_beq (by kernel_rfl)⟩ (consCons h_laws_eqIntS ⟨Try.f42, Try.func42, by kernel_rfl, ne_of_beq (by kernel_rfl)⟩ (consCons h_laws_markIntS ⟨Try.f47, Try.func47, by kernel_rfl, ne_of_beq (by kernel_rfl)⟩ (consCons h_laws_heldIntS ⟨Try.f48, Try.func48, by kernel_rfl, ne_of_beq (by kernel_rfl)⟩ (consNil))))))
theorem cok_laws_FnExactReuseDistances : ConsOK Try.prog 66 cs_laws_FnExactReuseDistances := ⟨clok_laws_FnExactReuseDistances, inlNil⟩
theorem i_laws_FnExactReuseDistances {vs : List A1} {kk : AV → List A1 → Prop} {motive : List A1 → Prop} (h : con_laws_FnExactReuseDistances.F vs kk) (H : ∀ (aT0 : List Int), F_laws_FnExactReuseDistances aT0 (fun r0 => kk (.one (.c (.v (.bool r0)))) []) → motive [.c (.ro .int aT0)]) : motive vs := by
  unfold con_laws_FnExactReuseDistances at h
  dsimp only at h
  split at h
  · exact H _ h
  · exact h.elim
theorem h_laws_FnExactReuseDistances : Holds Try.prog 14 con_laws_FnExactReuseDistances := by
  refine holds_of_ev (rt := [.c .sc]) (T := TT) (Γ := cs_laws_FnExactReuseDistances) (an := an_laws_FnExactReuseDistances) (N := 66) (c := Try.f14.body.getD .skip) Try.func14 (by kernel_rfl) Try.ntmps14 (by decide) (by decide) mixed tabOK cok_laws_FnExactReuseDistances (by kernel_rfl) ?_
  intro vs kk _ hF
  exact i_laws_FnExactReuseDistances (motive := fun vs => Goes (ev TT cs_laws_FnExactReuseDistances 66 an_laws_FnExactReuseDistances (Try.f14.body.getD .skip) (st0 con_laws_FnExactReuseDistances vs) (fin TT con_laws_FnExactReuseDistances Try.f14.results.toList [.c .sc] vs kk))) hF (fun aT0 hF => goes_of (e_laws_FnExactReuseDistances aT0 kk) (F_laws_FnExactReuseDistances_S hF))
end Go.Ev
