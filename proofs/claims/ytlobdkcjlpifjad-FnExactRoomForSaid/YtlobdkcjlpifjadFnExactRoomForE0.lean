/- What the evaluator gives for these functions: their contracts. No statement is proved here. -/
import Derived.Test.YtlobdkcjlpifjadFnExactRoomForP1
import Derived.Test.YtlobdkcjlpifjadTt
namespace Go.Ev
set_option linter.unusedVariables false
set_option maxRecDepth 100000
open Go Go.Proofs
def con_laws_toIntS : Con := ⟨[.rd], true, [.c (.sl .int)], fun vs k => match vs with
    | [.c (.ro .int a0)] => F_laws_toIntS a0 (fun r0 => k (.one (.c (.ro .int r0))) [])
    | _ => False, false⟩
def cl_laws_toIntS : List (FuncId × Con) := []
def nm0_laws_toIntS : List NStep := [.keep [0, 3, 4] [112]]
def an_laws_toIntS : Ann := ⟨[], [(3, nm0_laws_toIntS)], []⟩
def cs_laws_toIntS : Cons := ⟨cl_laws_toIntS, [], 0, [], []⟩
def can0_laws_toIntS (a0 : List Int) (xi4 : Int) (xy7 : List Int) : St := ⟨[(0, .one (.c (.ro .int a0))), (3, .one (.c (.ow 112))), (4, .one (.c (.v (.int .i64 xi4))))], [(112, .row .int xy7)]⟩
def fin_laws_toIntS (a0 : List Int) (kk : AV → List A1 → Prop) : Kt := fin TT con_laws_toIntS Try.f16.results.toList [.c (.sl .int)] [.c (.ro .int a0)] kk
def kt0_laws_toIntS (kf : Kt) : Kt := blockK 0 (seqK (evF TT cs_laws_toIntS 22 an_laws_toIntS Try.f16 [1, 1, 1]) (kf))
theorem r0_laws_toIntS (a0 : List Int) (kk : AV → List A1 → Prop) (n : Nat) (xi4 : Int) (xy7 : List Int) :
    iter (evF TT cs_laws_toIntS 22 an_laws_toIntS Try.f16 [1, 1, 0, 1, 0, 0]) nm0_laws_toIntS (kt0_laws_toIntS (fin_laws_toIntS a0 kk)) (n + 1) (can0_laws_toIntS a0 xi4 xy7) = T0_laws_toIntS a0 xi4 xy7 (fun r0 => kk (.one (.c (.ro .int r0))) []) (fun xi4 xy7 => iter (evF TT cs_laws_toIntS 22 an_laws_toIntS Try.f16 [1, 1, 0, 1, 0, 0]) nm0_laws_toIntS (kt0_laws_toIntS (fin_laws_toIntS a0 kk)) n (can0_laws_toIntS a0 xi4 xy7)) := by kernel_rfl
theorem l0_laws_toIntS (a0 : List Int) (kk : AV → List A1 → Prop) : ∀ (n : Nat) (xi4 : Int) (xy7 : List Int), iter (evF TT cs_laws_toIntS 22 an_laws_toIntS Try.f16 [1, 1, 0, 1, 0, 0]) nm0_laws_toIntS (kt0_laws_toIntS (fin_laws_toIntS a0 kk)) n (can0_laws_toIntS a0 xi4 xy7) = L0_laws_toIntS a0 (fun r0 => kk (.one (.c (.ro .int r0))) []) n xi4 xy7 := by
  intro n
  induction n with
  | zero => intros; rfl
  | succ n ih =>
    intro xi4 xy7
    rw [r0_laws_toIntS a0 kk n xi4 xy7]
    have hb : (fun xi4 xy7 => iter (evF TT cs_laws_toIntS 22 an_laws_toIntS Try.f16 [1, 1, 0, 1, 0, 0]) nm0_laws_toIntS (kt0_laws_toIntS (fin_laws_toIntS a0 kk)) n (can0_laws_toIntS a0 xi4 xy7)) = L0_laws_toIntS a0 (fun r0 => kk (.one (.c (.ro .int r0))) []) n := by
      funext xi4 xy7; exact ih xi4 xy7
    rw [hb]
    rfl
theorem g_laws_toIntS (a0 : List Int) (kk : AV → List A1 → Prop) :
    ev TT cs_laws_toIntS 22 an_laws_toIntS (Try.f16.body.getD .skip) (st0 con_laws_toIntS [.c (.ro .int a0)]) (fin TT con_laws_toIntS Try.f16.results.toList [.c (.sl .int)] [.c (.ro .int a0)] kk) = G_laws_toIntS a0 (fun a0 xi4 xy7 => ∃ j, iter (evF TT cs_laws_toIntS 22 an_laws_toIntS Try.f16 [1, 1, 0, 1, 0, 0]) nm0_laws_toIntS (kt0_laws_toIntS (fin_laws_toIntS a0 kk)) j (can0_laws_toIntS a0 xi4 xy7)) := by kernel_rfl
theorem e_laws_toIntS (a0 : List Int) (kk : AV → List A1 → Prop) :
    ev TT cs_laws_toIntS 22 an_laws_toIntS (Try.f16.body.getD .skip) (st0 con_laws_toIntS [.c (.ro .int a0)]) (fin TT con_laws_toIntS Try.f16.results.toList [.c (.sl .int)] [.c (.ro .int a0)] kk) = S_laws_toIntS a0 (fun r0 => kk (.one (.c (.ro .int r0))) []) := by
  rw [g_laws_toIntS]
  have hi0 : (fun a0 xi4 xy7 => ∃ j, iter (evF TT cs_laws_toIntS 22 an_laws_toIntS Try.f16 [1, 1, 0, 1, 0, 0]) nm0_laws_toIntS (kt0_laws_toIntS (fin_laws_toIntS a0 kk)) j (can0_laws_toIntS a0 xi4 xy7)) = (fun a0 xi4 xy7 => ∃ j, L0_laws_toIntS a0 (fun r0 => kk (.one (.c (.ro .int r0))) []) j xi4 xy7) := by
    funext a0 xi4 xy7
    refine congrArg Exists (funext fun j => ?_)
    rw [l0_laws_toIntS a0 kk j xi4 xy7]
  rw [hi0]
  rfl
theorem clok_laws_toIntS : ConOK Try.prog cl_laws_toIntS := consNil
theorem cok_laws_toIntS : ConsOK Try.prog 22 cs_laws_toIntS := ⟨clok_laws_toIntS, inlNil⟩
theorem i_laws_toIntS {vs : List A1} {kk : AV → List A1 → Prop} {motive : List A1 → Prop} (h : con_laws_toIntS.F vs kk) (H : ∀ (a0 : List Int), F_laws_toIntS a0 (fun r0 => kk (.one (.c (.ro .int r0))) []) → motive [.c (.ro .int a0)]) : motive vs := by
  unfold con_laws_toIntS at h
  dsimp only at h
  split at h
  · exact H _ h
  · exact h.elim
theorem h_laws_toIntS : Holds Try.prog 16 con_laws_toIntS := by
  refine holds_of_ev (rt := [.c (.sl .int)]) (T := TT) (Γ := cs_laws_toIntS) (an := an_laws_toIntS) (N := 22) (c := Try.f16.body.getD .skip) Try.func16 (by kernel_rfl) Try.ntmps16 (by decide) (by decide) mixed tabOK cok_laws_toIntS (by kernel_rfl) ?_
  intro vs kk _ hF
  exact i_laws_toIntS (motive := fun vs => Goes (ev TT cs_laws_toIntS 22 an_laws_toIntS (Try.f16.body.getD .skip) (st0 con_laws_toIntS vs) (fin TT con_laws_toIntS Try.f16.results.toList [.c (.sl .int)] vs kk))) hF (fun a0 hF => goes_of (e_laws_toIntS a0 kk) (F_laws_toIntS_S hF))
def con_spec_inRange : Con := ⟨[.rd, .rd, .rd], true, [.c (.sc), .c (.sc), .c (.sc)], fun vs k => match vs with
    | [.c (.v (.int .i64 n0)), .c (.v (.int .i64 low1)), .c (.v (.int .i64 high2))] => F_spec_inRange n0 low1 high2 (fun r0 => k (.one (.c (.v (.bool r0)))) [])
    | _ => False, false⟩
def cl_spec_inRange : List (FuncId × Con) := []
def an_spec_inRange : Ann := ⟨[], [], []⟩
def cs_spec_inRange : Cons := ⟨cl_spec_inRange, [], 0, [], []⟩
def fin_spec_inRange (n0 : Int) (low1 : Int) (high2 : Int) (kk : AV → List A1 → Prop) : Kt := fin TT con_spec_inRange Try.f49.results.toList [.c .sc] [.c (.v (.int .i64 n0)), .c (.v (.int .i64 low1)), .c (.v (.int .i64 high2))] kk
theorem g_spec_inRange (n0 : Int) (low1 : Int) (high2 : Int) (kk : AV → List A1 → Prop) :
    ev TT cs_spec_inRange 15 an_spec_inRange (Try.f49.body.getD .skip) (st0 con_spec_inRange [.c (.v (.int .i64 n0)), .c (.v (.int .i64 low1)), .c (.v (.int .i64 high2))]) (fin TT con_spec_inRange Try.f49.results.toList [.c .sc] [.c (.v (.int .i64 n0)), .c (.v (.int .i64 low1)), .c (.v (.int .i64 high2))] kk) = G_spec_inRange n0 low1 high2 (fun r0 => kk (.one (.c (.v (.bool r0)))) []) := by kernel_rfl
theorem e_spec_inRange (n0 : Int) (low1 : Int) (high2 : Int) (kk : AV → List A1 → Prop) :
    ev TT cs_spec_inRange 15 an_spec_inRange (Try.f49.body.getD .skip) (st0 con_spec_inRange [.c (.v (.int .i64 n0)), .c (.v (.int .i64 low1)), .c (.v (.int .i64 high2))]) (fin TT con_spec_inRange Try.f49.results.toList [.c .sc] [.c (.v (.int .i64 n0)), .c (.v (.int .i64 low1)), .c (.v (.int .i64 high2))] kk) = S_spec_inRange n0 low1 high2 (fun r0 => kk (.one (.c (.v (.bool r0)))) []) := by
  rw [g_spec_inRange]
  rfl
theorem clok_spec_inRange : ConOK Try.prog cl_spec_inRange := consNil
theorem cok_spec_inRange : ConsOK Try.prog 15 cs_spec_inRange := ⟨clok_spec_inRange, inlNil⟩
theorem i_spec_inRange {vs : List A1} {kk : AV → List A1 → Prop} {motive : List A1 → Prop} (h : con_spec_inRange.F vs kk) (H : ∀ (n0 : Int) (low1 : Int) (high2 : Int), F_spec_inRange n0 low1 high2 (fun r0 => kk (.one (.c (.v (.bool r0)))) []) → motive [.c (.v (.int .i64 n0)), .c (.v (.int .i64 low1)), .c (.v (.int .i64 high2))]) : motive vs := by
  unfold con_spec_inRange at h
  dsimp only at h
  split at h
  · exact H _ _ _ h
  · exact h.elim
theorem h_spec_inRange : Holds Try.prog 49 con_spec_inRange := by
  refine holds_of_ev (rt := [.c .sc]) (T := TT) (Γ := cs_spec_inRange) (an := an_spec_inRange) (N := 15) (c := Try.f49.body.getD .skip) Try.func49 (by kernel_rfl) Try.ntmps49 (by decide) (by decide) mixed tabOK cok_spec_inRange (by kernel_rfl) ?_
  intro vs kk _ hF
  exact i_spec_inRange (motive := fun vs => Goes (ev TT cs_spec_inRange 15 an_spec_inRange (Try.f49.body.getD .skip) (st0 con_spec_inRange vs) (fin TT con_spec_inRange Try.f49.results.toList [.c .sc] vs kk))) hF (fun n0 low1 high2 hF => goes_of (e_spec_inRange n0 low1 high2 kk) (F_spec_inRange_S hF))
def con_spec_allIn : Con := ⟨[.rd, .rd, .rd], true, [.c (.sl .int), .c (.sc), .c (.sc)], fun vs k => match vs with
    | [.c (.ro .int list0), .c (.v (.int .i64 low1)), .c (.v (.int .i64 high2))] => F_spec_allIn list0 low1 high2 (fun r0 => k (.one (.c (.v (.bool r0)))) [])
    | _ => False, false⟩
def cl_spec_allIn : List (FuncId × Con) := [(49, con_spec_inRange)]
def nm0_spec_allIn : List NStep := [.keep [0, 1, 2, 7] []]
def an_spec_allIn : Ann := ⟨[], [(2, nm0_spec_allIn)], []⟩
def cs_spec_allIn : Cons := ⟨cl_spec_allIn, [], 0, [], []⟩
def can0_spec_allIn (high2 : Int) (list0 : List Int) (low1 : Int) (xi7 : Int) : St := ⟨[(0, .one (.c (.ro .int list0))), (1, .one (.c (.v (.int .i64 low1)))), (2, .one (.c (.v (.int .i64 high2)))), (7, .one (.c (.v (.int .i64 xi7))))], []⟩
def fin_spec_allIn (list0 : List Int) (low1 : Int) (high2 : Int) (kk : AV → List A1 → Prop) : Kt := fin TT con_spec_allIn Try.f76.results.toList [.c .sc] [.c (.ro .int list0), .c (.v (.int .i64 low1)), .c (.v (.int .i64 high2))] kk
def kt0_spec_allIn (kf : Kt) : Kt := blockK 0 (seqK (evF TT cs_spec_allIn 22 an_spec_allIn Try.f76 [1, 1]) (kf))
theorem r0_spec_allIn (list0 : List Int) (low1 : Int) (high2 : Int) (kk : AV → List A1 → Prop) (n : Nat) (xi7 : Int) :
    iter (evF TT cs_spec_allIn 22 an_spec_allIn Try.f76 [1, 0, 1, 0, 0]) nm0_spec_allIn (kt0_spec_allIn (fin_spec_allIn list0 low1 high2 kk)) (n + 1) (can0_spec_allIn high2 list0 low1 xi7) = T0_spec_allIn high2 list0 low1 xi7 (fun r0 => kk (.one (.c (.v (.bool r0)))) []) (fun xi7 => iter (evF TT cs_spec_allIn 22 an_spec_allIn Try.f76 [1, 0, 1, 0, 0]) nm0_spec_allIn (kt0_spec_allIn (fin_spec_allIn list0 low1 high2 kk)) n (can0_spec_allIn high2 list0 low1 xi7)) := by kernel_rfl
theorem l0_spec_allIn (list0 : List Int) (low1 : Int) (high2 : Int) (kk : AV → List A1 → Prop) : ∀ (n : Nat) (xi7 : Int), iter (evF TT cs_spec_allIn 22 an_spec_allIn Try.f76 [1, 0, 1, 0, 0]) nm0_spec_allIn (kt0_spec_allIn (fin_spec_allIn list0 low1 high2 kk)) n (can0_spec_allIn high2 list0 low1 xi7) = L0_spec_allIn high2 list0 low1 (fun r0 => kk (.one (.c (.v (.bool r0)))) []) n xi7 := by
  intro n
  induction n with
  | zero => intros; rfl
  | succ n ih =>
    intro xi7
    rw [r0_spec_allIn list0 low1 high2 kk n xi7]
    have hb : (fun xi7 => iter (evF TT cs_spec_allIn 22 an_spec_allIn Try.f76 [1, 0, 1, 0, 0]) nm0_spec_allIn (kt0_spec_allIn (fin_spec_allIn list0 low1 high2 kk)) n (can0_spec_allIn high2 list0 low1 xi7)) = L0_spec_allIn high2 list0 low1 (fun r0 => kk (.one (.c (.v (.bool r0)))) []) n := by
      funext xi7; exact ih xi7
    rw [hb]
    rfl
theorem g_spec_allIn (list0 : List Int) (low1 : Int) (high2 : Int) (kk : AV → List A1 → Prop) :
    ev TT cs_spec_allIn 22 an_spec_allIn (Try.f76.body.getD .skip) (st0 con_spec_allIn [.c (.ro .int list0), .c (.v (.int .i64 low1)), .c (.v (.int .i64 high2))]) (fin TT con_spec_allIn Try.f76.results.toList [.c .sc] [.c (.ro .int list0), .c (.v (.int .i64 low1)), .c (.v (.int .i64 high2))] kk) = G_spec_allIn list0 low1 high2 (fun high2 list0 low1 xi7 => ∃ j, iter (evF TT cs_spec_allIn 22 an_spec_allIn Try.f76 [1, 0, 1, 0, 0]) nm0_spec_allIn (kt0_spec_allIn (fin_spec_allIn list0 low1 high2 kk)) j (can0_spec_allIn high2 list0 low1 xi7)) := by kernel_rfl
theorem e_spec_allIn (list0 : List Int) (low1 : Int) (high2 : Int) (kk : AV → List A1 → Prop) :
    ev TT cs_spec_allIn 22 an_spec_allIn (Try.f76.body.getD .skip) (st0 con_spec_allIn [.c (.ro .int list0), .c (.v (.int .i64 low1)), .c (.v (.int .i64 high2))]) (fin TT con_spec_allIn Try.f76.results.toList [.c .sc] [.c (.ro .int list0), .c (.v (.int .i64 low1)), .c (.v (.int .i64 high2))] kk) = S_spec_allIn list0 low1 high2 (fun r0 => kk (.one (.c (.v (.bool r0)))) []) := by
  rw [g_spec_allIn]
  have hi0 : (fun high2 list0 low1 xi7 => ∃ j, iter (evF TT cs_spec_allIn 22 an_spec_allIn Try.f76 [1, 0, 1, 0, 0]) nm0_spec_allIn (kt0_spec_allIn (fin_spec_allIn list0 low1 high2 kk)) j (can0_spec_allIn high2 list0 low1 xi7)) = (fun high2 list0 low1 xi7 => ∃ j, L0_spec_allIn high2 list0 low1 (fun r0 => kk (.one (.c (.v (.bool r0)))) []) j xi7) := by
    funext high2 list0 low1 xi7
    refine congrArg Exists (funext fun j => ?_)
    rw [l0_spec_allIn list0 low1 high2 kk j xi7]
  rw [hi0]
  rfl
theorem clok_spec_allIn : ConOK Try.prog cl_spec_allIn := consCons h_spec_inRange ⟨Try.f49, Try.func49, by kernel_rfl, ne_of_beq (by kernel_rfl)⟩ (consNil)
theorem cok_spec_allIn : ConsOK Try.prog 22 cs_spec_allIn := ⟨clok_spec_allIn, inlNil⟩
theorem i_spec_allIn {vs : List A1} {kk : AV → List A1 → Prop} {motive : List A1 → Prop} (h : con_spec_allIn.F vs kk) (H : ∀ (list0 : List Int) (low1 : Int) (high2 : Int), F_spec_allIn list0 low1 high2 (fun r0 => kk (.one (.c (.v (.bool r0)))) []) → motive [.c (.ro .int list0), .c (.v (.int .i64 low1)), .c (.v (.int .i64 high2))]) : motive vs := by
  unfold con_spec_allIn at h
  dsimp only at h
  split at h
  · exact H _ _ _ h
  · exact h.elim
theorem h_spec_allIn : Holds Try.prog 76 con_spec_allIn := by
  refine holds_of_ev (rt := [.c .sc]) (T := TT) (Γ := cs_spec_allIn) (an := an_spec_allIn) (N := 22) (c := Try.f76.body.getD .skip) Try.func76 (by kernel_rfl) Try.ntmps76 (by decide) (by decide) mixed tabOK cok_spec_allIn (by kernel_rfl) ?_
  intro vs kk _ hF
  exact i_spec_allIn (motive := fun vs => Goes (ev TT cs_spec_allIn 22 an_spec_allIn (Try.f76.body.getD .skip) (st0 con_spec_allIn vs) (fin TT con_spec_allIn Try.f76.results.toList [.c .sc] vs kk))) hF (fun list0 low1 high2 hF => goes_of (e_spec_allIn list0 low1 high2 kk) (F_spec_allIn_S hF))
def con_spec_validTrace : Con := ⟨[.rd], true, [.c (.sl .int)], fun vs k => match vs with
    | [.c (.ro .int t0)] => F_spec_validTrace t0 (fun r0 => k (.one (.c (.v (.bool r0)))) [])
    | _ => False, false⟩
def cl_spec_validTrace : List (FuncId × Con) := [(76, con_spec_allIn)]
def an_spec_validTrace : Ann := ⟨[], [], []⟩
def cs_spec_validTrace : Cons := ⟨cl_spec_validTrace, [], 0, [], []⟩
def fin_spec_validTrace (t0 : List Int) (kk : AV → List A1 → Prop) : Kt := fin TT con_spec_validTrace Try.f45.results.toList [.c .sc] [.c (.ro .int t0)] kk
theorem g_spec_validTrace (t0 : List Int) (kk : AV → List A1 → Prop) :
    ev TT cs_spec_validTrace 10 an_spec_validTrace (Try.f45.body.getD .skip) (st0 con_spec_validTrace [.c (.ro .int t0)]) (fin TT con_spec_validTrace Try.f45.results.toList [.c .sc] [.c (.ro .int t0)] kk) = G_spec_validTrace t0 (fun r0 => kk (.one (.c (.v (.bool r0)))) []) := by kernel_rfl
theorem e_spec_validTrace (t0 : List Int) (kk : AV → List A1 → Prop) :
    ev TT cs_spec_validTrace 10 an_spec_validTrace (Try.f45.body.getD .skip) (st0 con_spec_validTrace [.c (.ro .int t0)]) (fin TT con_spec_validTrace Try.f45.results.toList [.c .sc] [.c (.ro .int t0)] kk) = S_spec_validTrace t0 (fun r0 => kk (.one (.c (.v (.bool r0)))) []) := by
  rw [g_spec_validTrace]
  rfl
theorem clok_spec_validTrace : ConOK Try.prog cl_spec_validTrace := consCons h_spec_allIn ⟨Try.f76, Try.func76, by kernel_rfl, ne_of_beq (by kernel_rfl)⟩ (consNil)
theorem cok_spec_validTrace : ConsOK Try.prog 10 cs_spec_validTrace := ⟨clok_spec_validTrace, inlNil⟩
theorem i_spec_validTrace {vs : List A1} {kk : AV → List A1 → Prop} {motive : List A1 → Prop} (h : con_spec_validTrace.F vs kk) (H : ∀ (t0 : List Int), F_spec_validTrace t0 (fun r0 => kk (.one (.c (.v (.bool r0)))) []) → motive [.c (.ro .int t0)]) : motive vs := by
  unfold con_spec_validTrace at h
  dsimp only at h
  split at h
  · exact H _ h
  · exact h.elim
theorem h_spec_validTrace : Holds Try.prog 45 con_spec_validTrace := by
  refine holds_of_ev (rt := [.c .sc]) (T := TT) (Γ := cs_spec_validTrace) (an := an_spec_validTrace) (N := 10) (c := Try.f45.body.getD .skip) Try.func45 (by kernel_rfl) Try.ntmps45 (by decide) (by decide) mixed tabOK cok_spec_validTrace (by kernel_rfl) ?_
  intro vs kk _ hF
  exact i_spec_validTrace (motive := fun vs => Goes (ev TT cs_spec_validTrace 10 an_spec_validTrace (Try.f45.body.getD .skip) (st0 con_spec_validTrace vs) (fin TT con_spec_validTrace Try.f45.results.toList [.c .sc] vs kk))) hF (fun t0 hF => goes_of (e_spec_validTrace t0 kk) (F_spec_validTrace_S hF))
def con_spec_placeOf : Con := ⟨[.rd, .rd], true, [.c (.sl .int), .c (.sc)], fun vs k => match vs with
    | [.c (.ro .int list0), .c (.v (.int .i64 n1))] => F_spec_placeOf list0 n1 (fun r0 => k (.one (.c (.v (.int .i64 r0)))) [])
    | _ => False, false⟩
def cl_spec_placeOf : List (FuncId × Con) := []
def nm0_spec_placeOf : List NStep := [.keep [0, 1, 5] []]
def an_spec_placeOf : Ann := ⟨[], [(2, nm0_spec_placeOf)], []⟩
def cs_spec_placeOf : Cons := ⟨cl_spec_placeOf, [], 0, [], []⟩
def can0_spec_placeOf (list0 : List Int) (n1 : Int) (xi5 : Int) : St := ⟨[(0, .one (.c (.ro .int list0))), (1, .one (.c (.v (.int .i64 n1)))), (5, .one (.c (.v (.int .i64 xi5))))], []⟩
def fin_spec_placeOf (list0 : List Int) (n1 : Int) (kk : AV → List A1 → Prop) : Kt := fin TT con_spec_placeOf Try.f51.results.toList [.c .sc] [.c (.ro .int list0), .c (.v (.int .i64 n1))] kk
def kt0_spec_placeOf (kf : Kt) : Kt := blockK 0 (seqK (evF TT cs_spec_placeOf 19 an_spec_placeOf Try.f51 [1, 1]) (kf))
theorem r0_spec_placeOf (list0 : List Int) (n1 : Int) (kk : AV → List A1 → Prop) (n : Nat) (xi5 : Int) :
    iter (evF TT cs_spec_placeOf 19 an_spec_placeOf Try.f51 [1, 0, 1, 0, 0]) nm0_spec_placeOf (kt0_spec_placeOf (fin_spec_placeOf list0 n1 kk)) (n + 1) (can0_spec_placeOf list0 n1 xi5) = T0_spec_placeOf list0 n1 xi5 (fun r0 => kk (.one (.c (.v (.int .i64 r0)))) []) (fun xi5 => iter (evF TT cs_spec_placeOf 19 an_spec_placeOf Try.f51 [1, 0, 1, 0, 0]) nm0_spec_placeOf (kt0_spec_placeOf (fin_spec_placeOf list0 n1 kk)) n (can0_spec_placeOf list0 n1 xi5)) := by kernel_rfl
theorem l0_spec_placeOf (list0 : List Int) (n1 : Int) (kk : AV → List A1 → Prop) : ∀ (n : Nat) (xi5 : Int), iter (evF TT cs_spec_placeOf 19 an_spec_placeOf Try.f51 [1, 0, 1, 0, 0]) nm0_spec_placeOf (kt0_spec_placeOf (fin_spec_placeOf list0 n1 kk)) n (can0_spec_placeOf list0 n1 xi5) = L0_spec_placeOf list0 n1 (fun r0 => kk (.one (.c (.v (.int .i64 r0)))) []) n xi5 := by
  intro n
  induction n with
  | zero => intros; rfl
  | succ n ih =>
    intro xi5
    rw [r0_spec_placeOf list0 n1 kk n xi5]
    have hb : (fun xi5 => iter (evF TT cs_spec_placeOf 19 an_spec_placeOf Try.f51 [1, 0, 1, 0, 0]) nm0_spec_placeOf (kt0_spec_placeOf (fin_spec_placeOf list0 n1 kk)) n (can0_spec_placeOf list0 n1 xi5)) = L0_spec_placeOf list0 n1 (fun r0 => kk (.one (.c (.v (.int .i64 r0)))) []) n := by
      funext xi5; exact ih xi5
    rw [hb]
    rfl
theorem g_spec_placeOf (list0 : List Int) (n1 : Int) (kk : AV → List A1 → Prop) :
    ev TT cs_spec_placeOf 19 an_spec_placeOf (Try.f51.body.getD .skip) (st0 con_spec_placeOf [.c (.ro .int list0), .c (.v (.int .i64 n1))]) (fin TT con_spec_placeOf Try.f51.results.toList [.c .sc] [.c (.ro .int list0), .c (.v (.int .i64 n1))] kk) = G_spec_placeOf list0 n1 (fun list0 n1 xi5 => ∃ j, iter (evF TT cs_spec_placeOf 19 an_spec_placeOf Try.f51 [1, 0, 1, 0, 0]) nm0_spec_placeOf (kt0_spec_placeOf (fin_spec_placeOf list0 n1 kk)) j (can0_spec_placeOf list0 n1 xi5)) := by kernel_rfl
theorem e_spec_placeOf (list0 : List Int) (n1 : Int) (kk : AV → List A1 → Prop) :
    ev TT cs_spec_placeOf 19 an_spec_placeOf (Try.f51.body.getD .skip) (st0 con_spec_placeOf [.c (.ro .int list0), .c (.v (.int .i64 n1))]) (fin TT con_spec_placeOf Try.f51.results.toList [.c .sc] [.c (.ro .int list0), .c (.v (.int .i64 n1))] kk) = S_spec_placeOf list0 n1 (fun r0 => kk (.one (.c (.v (.int .i64 r0)))) []) := by
  rw [g_spec_placeOf]
  have hi0 : (fun list0 n1 xi5 => ∃ j, iter (evF TT cs_spec_placeOf 19 an_spec_placeOf Try.f51 [1, 0, 1, 0, 0]) nm0_spec_placeOf (kt0_spec_placeOf (fin_spec_placeOf list0 n1 kk)) j (can0_spec_placeOf list0 n1 xi5)) = (fun list0 n1 xi5 => ∃ j, L0_spec_placeOf list0 n1 (fun r0 => kk (.one (.c (.v (.int .i64 r0)))) []) j xi5) := by
    funext list0 n1 xi5
    refine congrArg Exists (funext fun j => ?_)
    rw [l0_spec_placeOf list0 n1 kk j xi5]
  rw [hi0]
  rfl
theorem clok_spec_placeOf : ConOK Try.prog cl_spec_placeOf := consNil
theorem cok_spec_placeOf : ConsOK Try.prog 19 cs_spec_placeOf := ⟨clok_spec_placeOf, inlNil⟩
theorem i_spec_placeOf {vs : List A1} {kk : AV → List A1 → Prop} {motive : List A1 → Prop} (h : con_spec_placeOf.F vs kk) (H : ∀ (list0 : List Int) (n1 : Int), F_spec_placeOf list0 n1 (fun r0 => kk (.one (.c (.v (.int .i64 r0)))) []) → motive [.c (.ro .int list0), .c (.v (.int .i64 n1))]) : motive vs := by
  unfold con_spec_placeOf at h
  dsimp only at h
  split at h
  · exact H _ _ h
  · exact h.elim
theorem h_spec_placeOf : Holds Try.prog 51 con_spec_placeOf := by
  refine holds_of_ev (rt := [.c .sc]) (T := TT) (Γ := cs_spec_placeOf) (an := an_spec_placeOf) (N := 19) (c := Try.f51.body.getD .skip) Try.func51 (by kernel_rfl) Try.ntmps51 (by decide) (by decide) mixed tabOK cok_spec_placeOf (by kernel_rfl) ?_
  intro vs kk _ hF
  exact i_spec_placeOf (motive := fun vs => Goes (ev TT cs_spec_placeOf 19 an_spec_placeOf (Try.f51.body.getD .skip) (st0 con_spec_placeOf vs) (fin TT con_spec_placeOf Try.f51.results.toList [.c .sc] vs kk))) hF (fun list0 n1 hF => goes_of (e_spec_placeOf list0 n1 kk) (F_spec_placeOf_S hF))
def con_spec_isIn : Con := ⟨[.rd, .rd], true, [.c (.sl .int), .c (.sc)], fun vs k => match vs with
    | [.c (.ro .int list0), .c (.v (.int .i64 n1))] => F_spec_isIn list0 n1 (fun r0 => k (.one (.c (.v (.bool r0)))) [])
    | _ => False, false⟩
def cl_spec_isIn : List (FuncId × Con) := [(51, con_spec_placeOf)]
def an_spec_isIn : Ann := ⟨[], [], []⟩
def cs_spec_isIn : Cons := ⟨cl_spec_isIn, [], 0, [], []⟩
def fin_spec_isIn (list0 : List Int) (n1 : Int) (kk : AV → List A1 → Prop) : Kt := fin TT con_spec_isIn Try.f77.results.toList [.c .sc] [.c (.ro .int list0), .c (.v (.int .i64 n1))] kk
theorem g_spec_isIn (list0 : List Int) (n1 : Int) (kk : AV → List A1 → Prop) :
    ev TT cs_spec_isIn 9 an_spec_isIn (Try.f77.body.getD .skip) (st0 con_spec_isIn [.c (.ro .int list0), .c (.v (.int .i64 n1))]) (fin TT con_spec_isIn Try.f77.results.toList [.c .sc] [.c (.ro .int list0), .c (.v (.int .i64 n1))] kk) = G_spec_isIn list0 n1 (fun r0 => kk (.one (.c (.v (.bool r0)))) []) := by kernel_rfl
theorem e_spec_isIn (list0 : List Int) (n1 : Int) (kk : AV → List A1 → Prop) :
    ev TT cs_spec_isIn 9 an_spec_isIn (Try.f77.body.getD .skip) (st0 con_spec_isIn [.c (.ro .int list0), .c (.v (.int .i64 n1))]) (fin TT con_spec_isIn Try.f77.results.toList [.c .sc] [.c (.ro .int list0), .c (.v (.int .i64 n1))] kk) = S_spec_isIn list0 n1 (fun r0 => kk (.one (.c (.v (.bool r0)))) []) := by
  rw [g_spec_isIn]
  rfl
theorem clok_spec_isIn : ConOK Try.prog cl_spec_isIn := consCons h_spec_placeOf ⟨Try.f51, Try.func51, by kernel_rfl, ne_of_beq (by kernel_rfl)⟩ (consNil)
theorem cok_spec_isIn : ConsOK Try.prog 9 cs_spec_isIn := ⟨clok_spec_isIn, inlNil⟩
theorem i_spec_isIn {vs : List A1} {kk : AV → List A1 → Prop} {motive : List A1 → Prop} (h : con_spec_isIn.F vs kk) (H : ∀ (list0 : List Int) (n1 : Int), F_spec_isIn list0 n1 (fun r0 => kk (.one (.c (.v (.bool r0)))) []) → motive [.c (.ro .int list0), .c (.v (.int .i64 n1))]) : motive vs := by
  unfold con_spec_isIn at h
  dsimp only at h
  split at h
  · exact H _ _ h
  · exact h.elim
theorem h_spec_isIn : Holds Try.prog 77 con_spec_isIn := by
  refine holds_of_ev (rt := [.c .sc]) (T := TT) (Γ := cs_spec_isIn) (an := an_spec_isIn) (N := 9) (c := Try.f77.body.getD .skip) Try.func77 (by kernel_rfl) Try.ntmps77 (by decide) (by decide) mixed tabOK cok_spec_isIn (by kernel_rfl) ?_
  intro vs kk _ hF
  exact i_spec_isIn (motive := fun vs => Goes (ev TT cs_spec_isIn 9 an_spec_isIn (Try.f77.body.getD .skip) (st0 con_spec_isIn vs) (fin TT con_spec_isIn Try.f77.results.toList [.c .sc] vs kk))) hF (fun list0 n1 hF => goes_of (e_spec_isIn list0 n1 kk) (F_spec_isIn_S hF))
def con_spec_distance : Con := ⟨[.rd, .rd], true, [.c (.sl .int), .c (.sc)], fun vs k => match vs with
    | [.c (.ro .int t0), .c (.v (.int .i64 at1))] => F_spec_distance t0 at1 (fun r0 => k (.one (.c (.v (.int .i64 r0)))) [])
    | _ => False, false⟩
def cl_spec_distance : List (FuncId × Con) := [(77, con_spec_isIn)]
def nm0_spec_distance : List NStep := [.own 5 .int 90000, .keep [0, 1, 5, 6] [90000]]
def an_spec_distance : Ann := ⟨[(5, .take 0 (.take 1 (.take 2 (.take 3 (.take 4 (.take 5 (.take 6 (.take 7 (.take 8 (.done))))))))), [])], [(3, nm0_spec_distance)], []⟩
def cs_spec_distance : Cons := ⟨cl_spec_distance, [], 0, [], []⟩
def can0_spec_distance (at1 : Int) (t0 : List Int) (xi6 : Int) (xseen5 : List Int) : St := ⟨[(0, .one (.c (.ro .int t0))), (1, .one (.c (.v (.int .i64 at1)))), (5, .one (.c (.ow 90000))), (6, .one (.c (.v (.int .i64 xi6))))], [(90000, .row .int xseen5)]⟩
def fin_spec_distance (t0 : List Int) (at1 : Int) (kk : AV → List A1 → Prop) : Kt := fin TT con_spec_distance Try.f46.results.toList [.c .sc] [.c (.ro .int t0), .c (.v (.int .i64 at1))] kk
def kt0_spec_distance (kf : Kt) : Kt := blockK 0 (seqK (evF TT cs_spec_distance 40 an_spec_distance Try.f46 [1, 1, 1]) (kf))
theorem r0_spec_distance (t0 : List Int) (at1 : Int) (kk : AV → List A1 → Prop) (n : Nat) (xi6 : Int) (xseen5 : List Int) :
    iter (evF TT cs_spec_distance 40 an_spec_distance Try.f46 [1, 1, 0, 1, 0, 0]) nm0_spec_distance (kt0_spec_distance (fin_spec_distance t0 at1 kk)) (n + 1) (can0_spec_distance at1 t0 xi6 xseen5) = T0_spec_distance at1 t0 xi6 xseen5 (fun r0 => kk (.one (.c (.v (.int .i64 r0)))) []) (fun xi6 xseen5 => iter (evF TT cs_spec_distance 40 an_spec_distance Try.f46 [1, 1, 0, 1, 0, 0]) nm0_spec_distance (kt0_spec_distance (fin_spec_distance t0 at1 kk)) n (can0_spec_distance at1 t0 xi6 xseen5)) := by kernel_rfl
theorem l0_spec_distance (t0 : List Int) (at1 : Int) (kk : AV → List A1 → Prop) : ∀ (n : Nat) (xi6 : Int) (xseen5 : List Int), iter (evF TT cs_spec_distance 40 an_spec_distance Try.f46 [1, 1, 0, 1, 0, 0]) nm0_spec_distance (kt0_spec_distance (fin_spec_distance t0 at1 kk)) n (can0_spec_distance at1 t0 xi6 xseen5) = L0_spec_distance at1 t0 (fun r0 => kk (.one (.c (.v (.int .i64 r0)))) []) n xi6 xseen5 := by
  intro n
  induction n with
  | zero => intros; rfl
  | succ n ih =>
    intro xi6 xseen5
    rw [r0_spec_distance t0 at1 kk n xi6 xseen5]
    have hb : (fun xi6 xseen5 => iter (evF TT cs_spec_distance 40 an_spec_distance Try.f46 [1, 1, 0, 1, 0, 0]) nm0_spec_distance (kt0_spec_distance (fin_spec_distance t0 at1 kk)) n (can0_spec_distance at1 t0 xi6 xseen5)) = L0_spec_distance at1 t0 (fun r0 => kk (.one (.c (.v (.int .i64 r0)))) []) n := by
      funext xi6 xseen5; exact ih xi6 xseen5
    rw [hb]
    rfl
theorem g_spec_distance (t0 : List Int) (at1 : Int) (kk : AV → List A1 → Prop) :
    ev TT cs_spec_distance 40 an_spec_distance (Try.f46.body.getD .skip) (st0 con_spec_distance [.c (.ro .int t0), .c (.v (.int .i64 at1))]) (fin TT con_spec_distance Try.f46.results.toList [.c .sc] [.c (.ro .int t0), .c (.v (.int .i64 at1))] kk) = G_spec_distance t0 at1 (fun at1 t0 xi6 xseen5 => ∃ j, iter (evF TT cs_spec_distance 40 an_spec_distance Try.f46 [1, 1, 0, 1, 0, 0]) nm0_spec_distance (kt0_spec_distance (fin_spec_distance t0 at1 kk)) j (can0_spec_distance at1 t0 xi6 xseen5)) := by kernel_rfl
theorem e_spec_distance (t0 : List Int) (at1 : Int) (kk : AV → List A1 → Prop) :
    ev TT cs_spec_distance 40 an_spec_distance (Try.f46.body.getD .skip) (st0 con_spec_distance [.c (.ro .int t0), .c (.v (.int .i64 at1))]) (fin TT con_spec_distance Try.f46.results.toList [.c .sc] [.c (.ro .int t0), .c (.v (.int .i64 at1))] kk) = S_spec_distance t0 at1 (fun r0 => kk (.one (.c (.v (.int .i64 r0)))) []) := by
  rw [g_spec_distance]
  have hi0 : (fun at1 t0 xi6 xseen5 => ∃ j, iter (evF TT cs_spec_distance 40 an_spec_distance Try.f46 [1, 1, 0, 1, 0, 0]) nm0_spec_distance (kt0_spec_distance (fin_spec_distance t0 at1 kk)) j (can0_spec_distance at1 t0 xi6 xseen5)) = (fun at1 t0 xi6 xseen5 => ∃ j, L0_spec_distance at1 t0 (fun r0 => kk (.one (.c (.v (.int .i64 r0)))) []) j xi6 xseen5) := by
    funext at1 t0 xi6 xseen5
    refine congrArg Exists (funext fun j => ?_)
    rw [l0_spec_distance t0 at1 kk j xi6 xseen5]
  rw [hi0]
  rfl
theorem clok_spec_distance : ConOK Try.prog cl_spec_distance := consCons h_spec_isIn ⟨Try.f77, Try.func77, by kernel_rfl, ne_of_beq (by kernel_rfl)⟩ (consNil)
theorem cok_spec_distance : ConsOK Try.prog 40 cs_spec_distance := ⟨clok_spec_distance, inlNil⟩
theorem i_spec_distance {vs : List A1} {kk : AV → List A1 → Prop} {motive : List A1 → Prop} (h : con_spec_distance.F vs kk) (H : ∀ (t0 : List Int) (at1 : Int), F_spec_distance t0 at1 (fun r0 => kk (.one (.c (.v (.int .i64 r0)))) []) → motive [.c (.ro .int t0), .c (.v (.int .i64 at1))]) : motive vs := by
  unfold con_spec_distance at h
  dsimp only at h
  split at h
  · exact H _ _ h
  · exact h.elim
theorem h_spec_distance : Holds Try.prog 46 con_spec_distance := by
  refine holds_of_ev (rt := [.c .sc]) (T := TT) (Γ := cs_spec_distance) (an := an_spec_distance) (N := 40) (c := Try.f46.body.getD .skip) Try.func46 (by kernel_rfl) Try.ntmps46 (by decide) (by decide) mixed tabOK cok_spec_distance (by kernel_rfl) ?_
  intro vs kk _ hF
  exact i_spec_distance (motive := fun vs => Goes (ev TT cs_spec_distance 40 an_spec_distance (Try.f46.body.getD .skip) (st0 con_spec_distance vs) (fin TT con_spec_distance Try.f46.results.toList [.c .sc] vs kk))) hF (fun t0 at1 hF => goes_of (e_spec_distance t0 at1 kk) (F_spec_distance_S hF))
def con_spec_HitCurve : Con := ⟨[.rd], true, [.c (.sl .int)], fun vs k => match vs with
    | [.c (.ro .int t0)] => F_spec_HitCurve t0 (fun r0 => k (.one (.c (.ro .int r0))) [])
    | _ => False, false⟩
def cl_spec_HitCurve : List (FuncId × Con) := [(45, con_spec_validTrace), (46, con_spec_distance)]
def nm1_spec_HitCurve : List NStep := [.keep [0, 3, 4, 6] [112]]
def nm0_spec_HitCurve : List NStep := [.keep [0, 3, 4] [112]]
def an_spec_HitCurve : Ann := ⟨[], [(9, nm1_spec_HitCurve), (5, nm0_spec_HitCurve)], []⟩
def cs_spec_HitCurve : Cons := ⟨cl_spec_HitCurve, [], 0, [], []⟩
def can1_spec_HitCurve (t0 : List Int) (xi4 : Int) (xroom6 : Int) (xy7' : List Int) : St := ⟨[(0, .one (.c (.ro .int t0))), (3, .one (.c (.ow 112))), (4, .one (.c (.v (.int .i64 xi4)))), (6, .one (.c (.v (.int .i64 xroom6))))], [(112, .row .int xy7')]⟩
def can0_spec_HitCurve (t0 : List Int) (xi4 : Int) (xy7 : List Int) : St := ⟨[(0, .one (.c (.ro .int t0))), (3, .one (.c (.ow 112))), (4, .one (.c (.v (.int .i64 xi4))))], [(112, .row .int xy7)]⟩
def fin_spec_HitCurve (t0 : List Int) (kk : AV → List A1 → Prop) : Kt := fin TT con_spec_HitCurve Try.f15.results.toList [.c (.sl .int)] [.c (.ro .int t0)] kk
def kt1_spec_HitCurve (kf : Kt) (b0 : St → Prop) : Kt := blockK 2 (blockK 1 (seqK (evF TT cs_spec_HitCurve 40 an_spec_HitCurve Try.f15 [1, 1, 1, 0, 1, 0, 0, 1, 1]) (backK nm0_spec_HitCurve b0 (blockK 0 (seqK (evF TT cs_spec_HitCurve 40 an_spec_HitCurve Try.f15 [1, 1, 1, 1]) (kf))))))
def kt0_spec_HitCurve (kf : Kt) : Kt := blockK 0 (seqK (evF TT cs_spec_HitCurve 40 an_spec_HitCurve Try.f15 [1, 1, 1, 1]) (kf))
theorem r1_spec_HitCurve (t0 : List Int) (xi4 : Int) (kk : AV → List A1 → Prop) (b0 : St → Prop) (n : Nat) (xroom6 : Int) (xy7' : List Int) :
    iter (evF TT cs_spec_HitCurve 40 an_spec_HitCurve Try.f15 [1, 1, 1, 0, 1, 0, 0, 1, 0, 0, 1, 1, 0, 0]) nm1_spec_HitCurve (kt1_spec_HitCurve (fin_spec_HitCurve t0 kk) b0) (n + 1) (can1_spec_HitCurve t0 xi4 xroom6 xy7') = T1_spec_HitCurve t0 xi4 xroom6 xy7' (fun xi4 xy7 => b0 (can0_spec_HitCurve t0 xi4 xy7)) (fun xroom6 xy7' => iter (evF TT cs_spec_HitCurve 40 an_spec_HitCurve Try.f15 [1, 1, 1, 0, 1, 0, 0, 1, 0, 0, 1, 1, 0, 0]) nm1_spec_HitCurve (kt1_spec_HitCurve (fin_spec_HitCurve t0 kk) b0) n (can1_spec_HitCurve t0 xi4 xroom6 xy7')) := by kernel_rfl
theorem l1_spec_HitCurve (t0 : List Int) (xi4 : Int) (kk : AV → List A1 → Prop) (b0 : St → Prop) : ∀ (n : Nat) (xroom6 : Int) (xy7' : List Int), iter (evF TT cs_spec_HitCurve 40 an_spec_HitCurve Try.f15 [1, 1, 1, 0, 1, 0, 0, 1, 0, 0, 1, 1, 0, 0]) nm1_spec_HitCurve (kt1_spec_HitCurve (fin_spec_HitCurve t0 kk) b0) n (can1_spec_HitCurve t0 xi4 xroom6 xy7') = L1_spec_HitCurve t0 xi4 (fun r0 => kk (.one (.c (.ro .int r0))) []) (fun xi4 xy7 => b0 (can0_spec_HitCurve t0 xi4 xy7)) n xroom6 xy7' := by
  intro n
  induction n with
  | zero => intros; rfl
  | succ n ih =>
    intro xroom6 xy7'
    rw [r1_spec_HitCurve t0 xi4 kk b0 n xroom6 xy7']
    have hb : (fun xroom6 xy7' => iter (evF TT cs_spec_HitCurve 40 an_spec_HitCurve Try.f15 [1, 1, 1, 0, 1, 0, 0, 1, 0, 0, 1, 1, 0, 0]) nm1_spec_HitCurve (kt1_spec_HitCurve (fin_spec_HitCurve t0 kk) b0) n (can1_spec_HitCurve t0 xi4 xroom6 xy7')) = L1_spec_HitCurve t0 xi4 (fun r0 => kk (.one (.c (.ro .int r0))) []) (fun xi4 xy7 => b0 (can0_spec_HitCurve t0 xi4 xy7)) n := by
      funext xroom6 xy7'; exact ih xroom6 xy7'
    rw [hb]
    rfl
theorem r0_spec_HitCurve (t0 : List Int) (kk : AV → List A1 → Prop) (n : Nat) (xi4 : Int) (xy7 : List Int) :
    iter (evF TT cs_spec_HitCurve 40 an_spec_HitCurve Try.f15 [1, 1, 1, 0, 1, 0, 0]) nm0_spec_HitCurve (kt0_spec_HitCurve (fin_spec_HitCurve t0 kk)) (n + 1) (can0_spec_HitCurve t0 xi4 xy7) = T0_spec_HitCurve t0 xi4 xy7 (fun r0 => kk (.one (.c (.ro .int r0))) []) (fun t0 xi4 xroom6 xy7' => ∃ j, iter (evF TT cs_spec_HitCurve 40 an_spec_HitCurve Try.f15 [1, 1, 1, 0, 1, 0, 0, 1, 0, 0, 1, 1, 0, 0]) nm1_spec_HitCurve (kt1_spec_HitCurve (fin_spec_HitCurve t0 kk) (iter (evF TT cs_spec_HitCurve 40 an_spec_HitCurve Try.f15 [1, 1, 1, 0, 1, 0, 0]) nm0_spec_HitCurve (kt0_spec_HitCurve (fin_spec_HitCurve t0 kk)) n)) j (can1_spec_HitCurve t0 xi4 xroom6 xy7')) := by kernel_rfl
theorem l0_spec_HitCurve (t0 : List Int) (kk : AV → List A1 → Prop) : ∀ (n : Nat) (xi4 : Int) (xy7 : List Int), iter (evF TT cs_spec_HitCurve 40 an_spec_HitCurve Try.f15 [1, 1, 1, 0, 1, 0, 0]) nm0_spec_HitCurve (kt0_spec_HitCurve (fin_spec_HitCurve t0 kk)) n (can0_spec_HitCurve t0 xi4 xy7) = L0_spec_HitCurve t0 (fun r0 => kk (.one (.c (.ro .int r0))) []) n xi4 xy7 := by
  intro n
  induction n generalizing t0 with
  | zero => intros; rfl
  | succ n ih =>
    intro xi4 xy7
    rw [r0_spec_HitCurve t0 kk n xi4 xy7]
    have hb : ∀ (t0 : List Int), (fun xi4 xy7 => iter (evF TT cs_spec_HitCurve 40 an_spec_HitCurve Try.f15 [1, 1, 1, 0, 1, 0, 0]) nm0_spec_HitCurve (kt0_spec_HitCurve (fin_spec_HitCurve t0 kk)) n (can0_spec_HitCurve t0 xi4 xy7)) = L0_spec_HitCurve t0 (fun r0 => kk (.one (.c (.ro .int r0))) []) n := by
      intro t0
      funext xi4 xy7; exact ih t0 xi4 xy7
    have hi1 : (fun t0 xi4 xroom6 xy7' => ∃ j, iter (evF TT cs_spec_HitCurve 40 an_spec_HitCurve Try.f15 [1, 1, 1, 0, 1, 0, 0, 1, 0, 0, 1, 1, 0, 0]) nm1_spec_HitCurve (kt1_spec_HitCurve (fin_spec_HitCurve t0 kk) (iter (evF TT cs_spec_HitCurve 40 an_spec_HitCurve Try.f15 [1, 1, 1, 0, 1, 0, 0]) nm0_spec_HitCurve (kt0_spec_HitCurve (fin_spec_HitCurve t0 kk)) n)) j (can1_spec_HitCurve t0 xi4 xroom6 xy7')) = (fun t0 xi4 xroom6 xy7' => ∃ j, L1_spec_HitCurve t0 xi4 (fun r0 => kk (.one (.c (.ro .int r0))) []) (L0_spec_HitCurve t0 (fun r0 => kk (.one (.c (.ro .int r0))) []) n) j xroom6 xy7') := by
      funext t0 xi4 xroom6 xy7'
      refine congrArg Exists (funext fun j => ?_)
      rw [l1_spec_HitCurve t0 xi4 kk (iter (evF TT cs_spec_HitCurve 40 an_spec_HitCurve Try.f15 [1, 1, 1, 0, 1, 0, 0]) nm0_spec_HitCurve (kt0_spec_HitCurve (fin_spec_HitCurve t0 kk)) n) j xroom6 xy7']
      rw [hb]
    rw [hi1]
    rfl
theorem g_spec_HitCurve (t0 : List Int) (kk : AV → List A1 → Prop) :
    ev TT cs_spec_HitCurve 40 an_spec_HitCurve (Try.f15.body.getD .skip) (st0 con_spec_HitCurve [.c (.ro .int t0)]) (fin TT con_spec_HitCurve Try.f15.results.toList [.c (.sl .int)] [.c (.ro .int t0)] kk) = G_spec_HitCurve t0 (fun r0 => kk (.one (.c (.ro .int r0))) []) (fun t0 xi4 xy7 => ∃ j, iter (evF TT cs_spec_HitCurve 40 an_spec_HitCurve Try.f15 [1, 1, 1, 0, 1, 0, 0]) nm0_spec_HitCurve (kt0_spec_HitCurve (fin_spec_HitCurve t0 kk)) j (can0_spec_HitCurve t0 xi4 xy7)) := by kernel_rfl
theorem e_spec_HitCurve (t0 : List Int) (kk : AV → List A1 → Prop) :
    ev TT cs_spec_HitCurve 40 an_spec_HitCurve (Try.f15.body.getD .skip) (st0 con_spec_HitCurve [.c (.ro .int t0)]) (fin TT con_spec_HitCurve Try.f15.results.toList [.c (.sl .int)] [.c (.ro .int t0)] kk) = S_spec_HitCurve t0 (fun r0 => kk (.one (.c (.ro .int r0))) []) := by
  rw [g_spec_HitCurve]
  have hi0 : (fun t0 xi4 xy7 => ∃ j, iter (evF TT cs_spec_HitCurve 40 an_spec_HitCurve Try.f15 [1, 1, 1, 0, 1, 0, 0]) nm0_spec_HitCurve (kt0_spec_HitCurve (fin_spec_HitCurve t0 kk)) j (can0_spec_HitCurve t0 xi4 xy7)) = (fun t0 xi4 xy7 => ∃ j, L0_spec_HitCurve t0 (fun r0 => kk (.one (.c (.ro .int r0))) []) j xi4 xy7) := by
    funext t0 xi4 xy7
    refine congrArg Exists (funext fun j => ?_)
    rw [l0_spec_HitCurve t0 kk j xi4 xy7]
  rw [hi0]
  rfl
theorem clok_spec_HitCurve : ConOK Try.prog cl_spec_HitCurve := consCons h_spec_validTrace ⟨Try.f45, Try.func45, by kernel_rfl, ne_of_beq (by kernel_rfl)⟩ (consCons h_spec_distance ⟨Try.f46, Try.func46, by kernel_rfl, ne_of_beq (by kernel_rfl)⟩ (consNil))
theorem cok_spec_HitCurve : ConsOK Try.prog 40 cs_spec_HitCurve := ⟨clok_spec_HitCurve, inlNil⟩
theorem i_spec_HitCurve {vs : List A1} {kk : AV → List A1 → Prop} {motive : List A1 → Prop} (h : con_spec_HitCurve.F vs kk) (H : ∀ (t0 : List Int), F_spec_HitCurve t0 (fun r0 => kk (.one (.c (.ro .int r0))) []) → motive [.c (.ro .int t0)]) : motive vs := by
  unfold con_spec_HitCurve at h
  dsimp only at h
  split at h
  · exact H _ h
  · exact h.elim
theorem h_spec_HitCurve : Holds Try.prog 15 con_spec_HitCurve := by
  refine holds_of_ev (rt := [.c (.sl .int)]) (T := TT) (Γ := cs_spec_HitCurve) (an := an_spec_HitCurve) (N := 40) (c := Try.f15.body.getD .skip) Try.func15 (by kernel_rfl) Try.ntmps15 (by decide) (by decide) mixed tabOK cok_spec_HitCurve (by kernel_rfl) ?_
  intro vs kk _ hF
  exact i_spec_HitCurve (motive := fun vs => Goes (ev TT cs_spec_HitCurve 40 an_spec_HitCurve (Try.f15.body.getD .skip) (st0 con_spec_HitCurve vs) (fin TT con_spec_HitCurve Try.f15.results.toList [.c (.sl .int)] vs kk))) hF (fun t0 hF => goes_of (e_spec_HitCurve t0 kk) (F_spec_HitCurve_S hF))
def con_spec_RoomFor : Con := ⟨[.rd, .rd], true, [.c (.sl .int), .c (.sc)], fun vs k => match vs with
    | [.c (.ro .int t0), .c (.v (.int .i64 hits1))] => F_spec_RoomFor t0 hits1 (fun r0 => k (.one (.c (.v (.int .i64 r0)))) [])
    | _ => False, false⟩
def cl_spec_RoomFor : List (FuncId × Con) := [(15, con_spec_HitCurve), (45, con_spec_validTrace)]
def nm0_spec_RoomFor : List NStep := [.keep [1, 5, 6] [240]]
def an_spec_RoomFor : Ann := ⟨[], [(5, nm0_spec_RoomFor)], []⟩
def cs_spec_RoomFor : Cons := ⟨cl_spec_RoomFor, [], 0, [], []⟩
def can0_spec_RoomFor (hitCurve15 : List Int) (hits1 : Int) (xi6 : Int) : St := ⟨[(1, .one (.c (.v (.int .i64 hits1)))), (5, .one (.c (.ow 240))), (6, .one (.c (.v (.int .i64 xi6))))], [(240, .row .int hitCurve15)]⟩
def fin_spec_RoomFor (t0 : List Int) (hits1 : Int) (kk : AV → List A1 → Prop) : Kt := fin TT con_spec_RoomFor Try.f21.results.toList [.c .sc] [.c (.ro .int t0), .c (.v (.int .i64 hits1))] kk
def kt0_spec_RoomFor (kf : Kt) : Kt := blockK 0 (seqK (evF TT cs_spec_RoomFor 30 an_spec_RoomFor Try.f21 [1, 1, 1, 1]) (kf))
theorem r0_spec_RoomFor (t0 : List Int) (hits1 : Int) (hitCurve15 : List Int) (kk : AV → List A1 → Prop) (n : Nat) (xi6 : Int) :
    iter (evF TT cs_spec_RoomFor 30 an_spec_RoomFor Try.f21 [1, 1, 1, 0, 1, 0, 0]) nm0_spec_RoomFor (kt0_spec_RoomFor (fin_spec_RoomFor t0 hits1 kk)) (n + 1) (can0_spec_RoomFor hitCurve15 hits1 xi6) = T0_spec_RoomFor hitCurve15 hits1 xi6 (fun r0 => kk (.one (.c (.v (.int .i64 r0)))) []) (fun xi6 => iter (evF TT cs_spec_RoomFor 30 an_spec_RoomFor Try.f21 [1, 1, 1, 0, 1, 0, 0]) nm0_spec_RoomFor (kt0_spec_RoomFor (fin_spec_RoomFor t0 hits1 kk)) n (can0_spec_RoomFor hitCurve15 hits1 xi6)) := by kernel_rfl
theorem l0_spec_RoomFor (t0 : List Int) (hits1 : Int) (hitCurve15 : List Int) (kk : AV → List A1 → Prop) : ∀ (n : Nat) (xi6 : Int), iter (evF TT cs_spec_RoomFor 30 an_spec_RoomFor Try.f21 [1, 1, 1, 0, 1, 0, 0]) nm0_spec_RoomFor (kt0_spec_RoomFor (fin_spec_RoomFor t0 hits1 kk)) n (can0_spec_RoomFor hitCurve15 hits1 xi6) = L0_spec_RoomFor hitCurve15 hits1 (fun r0 => kk (.one (.c (.v (.int .i64 r0)))) []) n xi6 := by
  intro n
  induction n with
  | zero => intros; rfl
  | succ n ih =>
    intro xi6
    rw [r0_spec_RoomFor t0 hits1 hitCurve15 kk n xi6]
    have hb : (fun xi6 => iter (evF TT cs_spec_RoomFor 30 an_spec_RoomFor Try.f21 [1, 1, 1, 0, 1, 0, 0]) nm0_spec_RoomFor (kt0_spec_RoomFor (fin_spec_RoomFor t0 hits1 kk)) n (can0_spec_RoomFor hitCurve15 hits1 xi6)) = L0_spec_RoomFor hitCurve15 hits1 (fun r0 => kk (.one (.c (.v (.int .i64 r0)))) []) n := by
      funext xi6; exact ih xi6
    rw [hb]
    rfl
theorem g_spec_RoomFor (t0 : List Int) (hits1 : Int) (kk : AV → List A1 → Prop) :
    ev TT cs_spec_RoomFor 30 an_spec_RoomFor (Try.f21.body.getD .skip) (st0 con_spec_RoomFor [.c (.ro .int t0), .c (.v (.int .i64 hits1))]) (fin TT con_spec_RoomFor Try.f21.results.toList [.c .sc] [.c (.ro .int t0), .c (.v (.int .i64 hits1))] kk) = G_spec_RoomFor t0 hits1 (fun r0 => kk (.one (.c (.v (.int .i64 r0)))) []) (fun hitCurve15 hits1 xi6 => ∃ j, iter (evF TT cs_spec_RoomFor 30 an_spec_RoomFor Try.f21 [1, 1, 1, 0, 1, 0, 0]) nm0_spec_RoomFor (kt0_spec_RoomFor (fin_spec_RoomFor t0 hits1 kk)) j (can0_spec_RoomFor hitCurve15 hits1 xi6)) := by kernel_rfl
theorem e_spec_RoomFor (t0 : List Int) (hits1 : Int) (kk : AV → List A1 → Prop) :
    ev TT cs_spec_RoomFor 30 an_spec_RoomFor (Try.f21.body.getD .skip) (st0 con_spec_RoomFor [.c (.ro .int t0), .c (.v (.int .i64 hits1))]) (fin TT con_spec_RoomFor Try.f21.results.toList [.c .sc] [.c (.ro .int t0), .c (.v (.int .i64 hits1))] kk) = S_spec_RoomFor t0 hits1 (fun r0 => kk (.one (.c (.v (.int .i64 r0)))) []) := by
  rw [g_spec_RoomFor]
  have hi0 : (fun hitCurve15 hits1 xi6 => ∃ j, iter (evF TT cs_spec_RoomFor 30 an_spec_RoomFor Try.f21 [1, 1, 1, 0, 1, 0, 0]) nm0_spec_RoomFor (kt0_spec_RoomFor (fin_spec_RoomFor t0 hits1 kk)) j (can0_spec_RoomFor hitCurve15 hits1 xi6)) = (fun hitCurve15 hits1 xi6 => ∃ j, L0_spec_RoomFor hitCurve15 hits1 (fun r0 => kk (.one (.c (.v (.int .i64 r0)))) []) j xi6) := by
    funext hitCurve15 hits1 xi6
    refine congrArg Exists (funext fun j => ?_)
    rw [l0_spec_RoomFor t0 hits1 hitCurve15 kk j xi6]
  rw [hi0]
  rfl
theorem clok_spec_RoomFor : ConOK Try.prog cl_spec_RoomFor := consCons h_spec_HitCurve ⟨Try.f15, Try.func15, by kernel_rfl, ne_of_beq (by kernel_rfl)⟩ (consCons h_spec_validTrace ⟨Try.f45, Try.func45, by kernel_rfl, ne_of_beq (by kernel_rfl)⟩ (consNil))
theorem cok_spec_RoomFor : ConsOK Try.prog 30 cs_spec_RoomFor := ⟨clok_spec_RoomFor, inlNil⟩
theorem i_spec_RoomFor {vs : List A1} {kk : AV → List A1 → Prop} {motive : List A1 → Prop} (h : con_spec_RoomFor.F vs kk) (H : ∀ (t0 : List Int) (hits1 : Int), F_spec_RoomFor t0 hits1 (fun r0 => kk (.one (.c (.v (.int .i64 r0)))) []) → motive [.c (.ro .int t0), .c (.v (.int .i64 hits1))]) : motive vs := by
  unfold con_spec_RoomFor at h
  dsimp only at h
  split at h
  · exact H _ _ h
  · exact h.elim
theorem h_spec_RoomFor : Holds Try.prog 21 con_spec_RoomFor := by
  refine holds_of_ev (rt := [.c .sc]) (T := TT) (Γ := cs_spec_RoomFor) (an := an_spec_RoomFor) (N := 30) (c := Try.f21.body.getD .skip) Try.func21 (by kernel_rfl) Try.ntmps21 (by decide) (by decide) mixed tabOK cok_spec_RoomFor (by kernel_rfl) ?_
  intro vs kk _ hF
  exact i_spec_RoomFor (motive := fun vs => Goes (ev TT cs_spec_RoomFor 30 an_spec_RoomFor (Try.f21.body.getD .skip) (st0 con_spec_RoomFor vs) (fin TT con_spec_RoomFor Try.f21.results.toList [.c .sc] vs kk))) hF (fun t0 hits1 hF => goes_of (e_spec_RoomFor t0 hits1 kk) (F_spec_RoomFor_S hF))
def con_impl_validKey : Con := ⟨[.rd], true, [.c (.sc)], fun vs k => match vs with
    | [.c (.v (.int .i64 key0))] => F_impl_validKey key0 (fun r0 => k (.one (.c (.v (.bool r0)))) [])
    | _ => False, false⟩
def cl_impl_validKey : List (FuncId × Con) := []
def an_impl_validKey : Ann := ⟨[], [], []⟩
def cs_impl_validKey : Cons := ⟨cl_impl_validKey, [], 0, [], []⟩
def fin_impl_validKey (key0 : Int) (kk : AV → List A1 → Prop) : Kt := fin TT con_impl_validKey Try.f60.results.toList [.c .sc] [.c (.v (.int .i64 key0))] kk
theorem g_impl_validKey (key0 : Int) (kk : AV → List A1 → Prop) :
    ev TT cs_impl_validKey 9 an_impl_validKey (Try.f60.body.getD .skip) (st0 con_impl_validKey [.c (.v (.int .i64 key0))]) (fin TT con_impl_validKey Try.f60.results.toList [.c .sc] [.c (.v (.int .i64 key0))] kk) = G_impl_validKey key0 (fun r0 => kk (.one (.c (.v (.bool r0)))) []) := by kernel_rfl
theorem e_impl_validKey (key0 : Int) (kk : AV → List A1 → Prop) :
    ev TT cs_impl_validKey 9 an_impl_validKey (Try.f60.body.getD .skip) (st0 con_impl_validKey [.c (.v (.int .i64 key0))]) (fin TT con_impl_validKey Try.f60.results.toList [.c .sc] [.c (.v (.int .i64 key0))] kk) = S_impl_validKey key0 (fun r0 => kk (.one (.c (.v (.bool r0)))) []) := by
  rw [g_impl_validKey]
  rfl
theorem clok_impl_validKey : ConOK Try.prog cl_impl_validKey := consNil
theorem cok_impl_validKey : ConsOK Try.prog 9 cs_impl_validKey := ⟨clok_impl_validKey, inlNil⟩
theorem i_impl_validKey {vs : List A1} {kk : AV → List A1 → Prop} {motive : List A1 → Prop} (h : con_impl_validKey.F vs kk) (H : ∀ (key0 : Int), F_impl_validKey key0 (fun r0 => kk (.one (.c (.v (.bool r0)))) []) → motive [.c (.v (.int .i64 key0))]) : motive vs := by
  unfold con_impl_validKey at h
  dsimp only at h
  split at h
  · exact H _ h
  · exact h.elim
theorem h_impl_validKey : Holds Try.prog 60 con_impl_validKey := by
  refine holds_of_ev (rt := [.c .sc]) (T := TT) (Γ := cs_impl_validKey) (an := an_impl_validKey) (N := 9) (c := Try.f60.body.getD .skip) Try.func60 (by kernel_rfl) Try.ntmps60 (by decide) (by decide) mixed tabOK cok_impl_validKey (by kernel_rfl) ?_
  intro vs kk _ hF
  exact i_impl_validKey (motive := fun vs => Goes (ev TT cs_impl_validKey 9 an_impl_validKey (Try.f60.body.getD .skip) (st0 con_impl_validKey vs) (fin TT con_impl_validKey Try.f60.results.toList [.c .sc] vs kk))) hF (fun key0 hF => goes_of (e_impl_validKey key0 kk) (F_impl_validKey_S hF))
def con_impl_ValidTrace : Con := ⟨[.rd], true, [.c (.sl .int)], fun vs k => match vs with
    | [.c (.ro .int t0)] => F_impl_ValidTrace t0 (fun r0 => k (.one (.c (.v (.bool r0)))) [])
    | _ => False, false⟩
def cl_impl_ValidTrace : List (FuncId × Con) := [(60, con_impl_validKey)]
def nm0_impl_ValidTrace : List NStep := [.keep [8, 9, 10] []]
def an_impl_ValidTrace : Ann := ⟨[], [(4, nm0_impl_ValidTrace)], []⟩
def cs_impl_ValidTrace : Cons := ⟨cl_impl_ValidTrace, [], 0, [], []⟩
def can0_impl_ValidTrace (t0 : List Int) (xt9 : Int) (xt10 : Int) : St := ⟨[(8, .one (.c (.ro .int t0))), (9, .one (.c (.v (.int .i64 xt9)))), (10, .one (.c (.v (.int .i64 xt10))))], []⟩
def fin_impl_ValidTrace (t0 : List Int) (kk : AV → List A1 → Prop) : Kt := fin TT con_impl_ValidTrace Try.f47.results.toList [.c .sc] [.c (.ro .int t0)] kk
def kt0_impl_ValidTrace (kf : Kt) : Kt := blockK 0 (seqK (evF TT cs_impl_ValidTrace 18 an_impl_ValidTrace Try.f47 [1, 1, 1]) (kf))
theorem r0_impl_ValidTrace (t0 : List Int) (xt9 : Int) (kk : AV → List A1 → Prop) (n : Nat) (xt10 : Int) :
    iter (evF TT cs_impl_ValidTrace 18 an_impl_ValidTrace Try.f47 [1, 1, 0, 1, 0, 0]) nm0_impl_ValidTrace (kt0_impl_ValidTrace (fin_impl_ValidTrace t0 kk)) (n + 1) (can0_impl_ValidTrace t0 xt9 xt10) = T0_impl_ValidTrace t0 xt9 xt10 (fun r0 => kk (.one (.c (.v (.bool r0)))) []) (fun xt10 => iter (evF TT cs_impl_ValidTrace 18 an_impl_ValidTrace Try.f47 [1, 1, 0, 1, 0, 0]) nm0_impl_ValidTrace (kt0_impl_ValidTrace (fin_impl_ValidTrace t0 kk)) n (can0_impl_ValidTrace t0 xt9 xt10)) := by kernel_rfl
theorem l0_impl_ValidTrace (t0 : List Int) (xt9 : Int) (kk : AV → List A1 → Prop) : ∀ (n : Nat) (xt10 : Int), iter (evF TT cs_impl_ValidTrace 18 an_impl_ValidTrace Try.f47 [1, 1, 0, 1, 0, 0]) nm0_impl_ValidTrace (kt0_impl_ValidTrace (fin_impl_ValidTrace t0 kk)) n (can0_impl_ValidTrace t0 xt9 xt10) = L0_impl_ValidTrace t0 xt9 (fun r0 => kk (.one (.c (.v (.bool r0)))) []) n xt10 := by
  intro n
  induction n with
  | zero => intros; rfl
  | succ n ih =>
    intro xt10
    rw [r0_impl_ValidTrace t0 xt9 kk n xt10]
    have hb : (fun xt10 => iter (evF TT cs_impl_ValidTrace 18 an_impl_ValidTrace Try.f47 [1, 1, 0, 1, 0, 0]) nm0_impl_ValidTrace (kt0_impl_ValidTrace (fin_impl_ValidTrace t0 kk)) n (can0_impl_ValidTrace t0 xt9 xt10)) = L0_impl_ValidTrace t0 xt9 (fun r0 => kk (.one (.c (.v (.bool r0)))) []) n := by
      funext xt10; exact ih xt10
    rw [hb]
    rfl
theorem g_impl_ValidTrace (t0 : List Int) (kk : AV → List A1 → Prop) :
    ev TT cs_impl_ValidTrace 18 an_impl_ValidTrace (Try.f47.body.getD .skip) (st0 con_impl_ValidTrace [.c (.ro .int t0)]) (fin TT con_impl_ValidTrace Try.f47.results.toList [.c .sc] [.c (.ro .int t0)] kk) = G_impl_ValidTrace t0 (fun r0 => kk (.one (.c (.v (.bool r0)))) []) (fun t0 xt9 xt10 => ∃ j, iter (evF TT cs_impl_ValidTrace 18 an_impl_ValidTrace Try.f47 [1, 1, 0, 1, 0, 0]) nm0_impl_ValidTrace (kt0_impl_ValidTrace (fin_impl_ValidTrace t0 kk)) j (can0_impl_ValidTrace t0 xt9 xt10)) := by kernel_rfl
theorem e_impl_ValidTrace (t0 : List Int) (kk : AV → List A1 → Prop) :
    ev TT cs_impl_ValidTrace 18 an_impl_ValidTrace (Try.f47.body.getD .skip) (st0 con_impl_ValidTrace [.c (.ro .int t0)]) (fin TT con_impl_ValidTrace Try.f47.results.toList [.c .sc] [.c (.ro .int t0)] kk) = S_impl_ValidTrace t0 (fun r0 => kk (.one (.c (.v (.bool r0)))) []) := by
  rw [g_impl_ValidTrace]
  have hi0 : (fun t0 xt9 xt10 => ∃ j, iter (evF TT cs_impl_ValidTrace 18 an_impl_ValidTrace Try.f47 [1, 1, 0, 1, 0, 0]) nm0_impl_ValidTrace (kt0_impl_ValidTrace (fin_impl_ValidTrace t0 kk)) j (can0_impl_ValidTrace t0 xt9 xt10)) = (fun t0 xt9 xt10 => ∃ j, L0_impl_ValidTrace t0 xt9 (fun r0 => kk (.one (.c (.v (.bool r0)))) []) j xt10) := by
    funext t0 xt9 xt10
    refine congrArg Exists (funext fun j => ?_)
    rw [l0_impl_ValidTrace t0 xt9 kk j xt10]
  rw [hi0]
  rfl
theorem clok_impl_ValidTrace : ConOK Try.prog cl_impl_ValidTrace := consCons h_impl_validKey ⟨Try.f60, Try.func60, by kernel_rfl, ne_of_beq (by kernel_rfl)⟩ (consNil)
theorem cok_impl_ValidTrace : ConsOK Try.prog 18 cs_impl_ValidTrace := ⟨clok_impl_ValidTrace, inlNil⟩
theorem i_impl_ValidTrace {vs : List A1} {kk : AV → List A1 → Prop} {motive : List A1 → Prop} (h : con_impl_ValidTrace.F vs kk) (H : ∀ (t0 : List Int), F_impl_ValidTrace t0 (fun r0 => kk (.one (.c (.v (.bool r0)))) []) → motive [.c (.ro .int t0)]) : motive vs := by
  unfold con_impl_ValidTrace at h
  dsimp only at h
  split at h
  · exact H _ h
  · exact h.elim
theorem h_impl_ValidTrace : Holds Try.prog 47 con_impl_ValidTrace := by
  refine holds_of_ev (rt := [.c .sc]) (T := TT) (Γ := cs_impl_ValidTrace) (an := an_impl_ValidTrace) (N := 18) (c := Try.f47.body.getD .skip) Try.func47 (by kernel_rfl) Try.ntmps47 (by decide) (by decide) mixed tabOK cok_impl_ValidTrace (by kernel_rfl) ?_
  intro vs kk _ hF
  exact i_impl_ValidTrace (motive := fun vs => Goes (ev TT cs_impl_ValidTrace 18 an_impl_ValidTrace (Try.f47.body.getD .skip) (st0 con_impl_ValidTrace vs) (fin TT con_impl_ValidTrace Try.f47.results.toList [.c .sc] vs kk))) hF (fun t0 hF => goes_of (e_impl_ValidTrace t0 kk) (F_impl_ValidTrace_S hF))
def con_slices_Index_sint_int : Con := ⟨[.rd, .rd], true, [.c (.sl .int), .c (.sc)], fun vs k => match vs with
    | [.c (.ro .int s0), .c (.v (.int .i64 v1))] => F_slices_Index_sint_int s0 v1 (fun r0 => k (.one (.c (.v (.int .i64 r0)))) [])
    | _ => False, false⟩
def cl_slices_Index_sint_int : List (FuncId × Con) := []
def nm0_slices_Index_sint_int : List NStep := [.keep [0, 1, 7, 8] []]
def an_slices_Index_sint_int : Ann := ⟨[], [(2, nm0_slices_Index_sint_int)], []⟩
def cs_slices_Index_sint_int : Cons := ⟨cl_slices_Index_sint_int, [], 0, [], []⟩
def can0_slices_Index_sint_int (s0 : List Int) (v1 : Int) (xt7 : Int) (xt8 : Int) : St := ⟨[(0, .one (.c (.ro .int s0))), (1, .one (.c (.v (.int .i64 v1)))), (7, .one (.c (.v (.int .i64 xt7)))), (8, .one (.c (.v (.int .i64 xt8))))], []⟩
def fin_slices_Index_sint_int (s0 : List Int) (v1 : Int) (kk : AV → List A1 → Prop) : Kt := fin TT con_slices_Index_sint_int Try.f71.results.toList [.c .sc] [.c (.ro .int s0), .c (.v (.int .i64 v1))] kk
def kt0_slices_Index_sint_int (kf : Kt) : Kt := blockK 0 (seqK (evF TT cs_slices_Index_sint_int 19 an_slices_Index_sint_int Try.f71 [1, 1]) (kf))
theorem r0_slices_Index_sint_int (s0 : List Int) (v1 : Int) (xt7 : Int) (kk : AV → List A1 → Prop) (n : Nat) (xt8 : Int) :
    iter (evF TT cs_slices_Index_sint_int 19 an_slices_Index_sint_int Try.f71 [1, 0, 1, 0, 0]) nm0_slices_Index_sint_int (kt0_slices_Index_sint_int (fin_slices_Index_sint_int s0 v1 kk)) (n + 1) (can0_slices_Index_sint_int s0 v1 xt7 xt8) = T0_slices_Index_sint_int s0 v1 xt7 xt8 (fun r0 => kk (.one (.c (.v (.int .i64 r0)))) []) (fun xt8 => iter (evF TT cs_slices_Index_sint_int 19 an_slices_Index_sint_int Try.f71 [1, 0, 1, 0, 0]) nm0_slices_Index_sint_int (kt0_slices_Index_sint_int (fin_slices_Index_sint_int s0 v1 kk)) n (can0_slices_Index_sint_int s0 v1 xt7 xt8)) := by kernel_rfl
theorem l0_slices_Index_sint_int (s0 : List Int) (v1 : Int) (xt7 : Int) (kk : AV → List A1 → Prop) : ∀ (n : Nat) (xt8 : Int), iter (evF TT cs_slices_Index_sint_int 19 an_slices_Index_sint_int Try.f71 [1, 0, 1, 0, 0]) nm0_slices_Index_sint_int (kt0_slices_Index_sint_int (fin_slices_Index_sint_int s0 v1 kk)) n (can0_slices_Index_sint_int s0 v1 xt7 xt8) = L0_slices_Index_sint_int s0 v1 xt7 (fun r0 => kk (.one (.c (.v (.int .i64 r0)))) []) n xt8 := by
  intro n
  induction n with
  | zero => intros; rfl
  | succ n ih =>
    intro xt8
    rw [r0_slices_Index_sint_int s0 v1 xt7 kk n xt8]
    have hb : (fun xt8 => iter (evF TT cs_slices_Index_sint_int 19 an_slices_Index_sint_int Try.f71 [1, 0, 1, 0, 0]) nm0_slices_Index_sint_int (kt0_slices_Index_sint_int (fin_slices_Index_sint_int s0 v1 kk)) n (can0_slices_Index_sint_int s0 v1 xt7 xt8)) = L0_slices_Index_sint_int s0 v1 xt7 (fun r0 => kk (.one (.c (.v (.int .i64 r0)))) []) n := by
      funext xt8; exact ih xt8
    rw [hb]
    rfl
theorem g_slices_Index_sint_int (s0 : List Int) (v1 : Int) (kk : AV → List A1 → Prop) :
    ev TT cs_slices_Index_sint_int 19 an_slices_Index_sint_int (Try.f71.body.getD .skip) (st0 con_slices_Index_sint_int [.c (.ro .int s0), .c (.v (.int .i64 v1))]) (fin TT con_slices_Index_sint_int Try.f71.results.toList [.c .sc] [.c (.ro .int s0), .c (.v (.int .i64 v1))] kk) = G_slices_Index_sint_int s0 v1 (fun s0 v1 xt7 xt8 => ∃ j, iter (evF TT cs_slices_Index_sint_int 19 an_slices_Index_sint_int Try.f71 [1, 0, 1, 0, 0]) nm0_slices_Index_sint_int (kt0_slices_Index_sint_int (fin_slices_Index_sint_int s0 v1 kk)) j (can0_slices_Index_sint_int s0 v1 xt7 xt8)) := by kernel_rfl
theorem e_slices_Index_sint_int (s0 : List Int) (v1 : Int) (kk : AV → List A1 → Prop) :
    ev TT cs_slices_Index_sint_int 19 an_slices_Index_sint_int (Try.f71.body.getD .skip) (st0 con_slices_Index_sint_int [.c (.ro .int s0), .c (.v (.int .i64 v1))]) (fin TT con_slices_Index_sint_int Try.f71.results.toList [.c .sc] [.c (.ro .int s0), .c (.v (.int .i64 v1))] kk) = S_slices_Index_sint_int s0 v1 (fun r0 => kk (.one (.c (.v (.int .i64 r0)))) []) := by
  rw [g_slices_Index_sint_int]
  have hi0 : (fun s0 v1 xt7 xt8 => ∃ j, iter (evF TT cs_slices_Index_sint_int 19 an_slices_Index_sint_int Try.f71 [1, 0, 1, 0, 0]) nm0_slices_Index_sint_int (kt0_slices_Index_sint_int (fin_slices_Index_sint_int s0 v1 kk)) j (can0_slices_Index_sint_int s0 v1 xt7 xt8)) = (fun s0 v1 xt7 xt8 => ∃ j, L0_slices_Index_sint_int s0 v1 xt7 (fun r0 => kk (.one (.c (.v (.int .i64 r0)))) []) j xt8) := by
    funext s0 v1 xt7 xt8
    refine congrArg Exists (funext fun j => ?_)
    rw [l0_slices_Index_sint_int s0 v1 xt7 kk j xt8]
  rw [hi0]
  rfl
theorem clok_slices_Index_sint_int : ConOK Try.prog cl_slices_Index_sint_int := consNil
theorem cok_slices_Index_sint_int : ConsOK Try.prog 19 cs_slices_Index_sint_int := ⟨clok_slices_Index_sint_int, inlNil⟩
theorem i_slices_Index_sint_int {vs : List A1} {kk : AV → List A1 → Prop} {motive : List A1 → Prop} (h : con_slices_Index_sint_int.F vs kk) (H : ∀ (s0 : List Int) (v1 : Int), F_slices_Index_sint_int s0 v1 (fun r0 => kk (.one (.c (.v (.int .i64 r0)))) []) → motive [.c (.ro .int s0), .c (.v (.int .i64 v1))]) : motive vs := by
  unfold con_slices_Index_sint_int at h
  dsimp only at h
  split at h
  · exact H _ _ h
  · exact h.elim
theorem h_slices_Index_sint_int : Holds Try.prog 71 con_slices_Index_sint_int := by
  refine holds_of_ev (rt := [.c .sc]) (T := TT) (Γ := cs_slices_Index_sint_int) (an := an_slices_Index_sint_int) (N := 19) (c := Try.f71.body.getD .skip) Try.func71 (by kernel_rfl) Try.ntmps71 (by decide) (by decide) mixed tabOK cok_slices_Index_sint_int (by kernel_rfl) ?_
  intro vs kk _ hF
  exact i_slices_Index_sint_int (motive := fun vs => Goes (ev TT cs_slices_Index_sint_int 19 an_slices_Index_sint_int (Try.f71.body.getD .skip) (st0 con_slices_Index_sint_int vs) (fin TT con_slices_Index_sint_int Try.f71.results.toList [.c .sc] vs kk))) hF (fun s0 v1 hF => goes_of (e_slices_Index_sint_int s0 v1 kk) (F_slices_Index_sint_int_S hF))
def con_impl_withoutKey : Con := ⟨[.rd, .rd], true, [.c (.sl .int), .c (.sc)], fun vs k => match vs with
    | [.c (.ro .int list0), .c (.v (.int .i64 key1))] => F_impl_withoutKey list0 key1 (fun r0 => k (.one (.c (.ro .int r0))) [])
    | _ => False, false⟩
def cl_impl_withoutKey : List (FuncId × Con) := []
def nm0_impl_withoutKey : List NStep := [.own 5 .int 90000, .keep [1, 5, 9, 10, 11] [90000]]
def an_impl_withoutKey : Ann := ⟨[], [(3, nm0_impl_withoutKey)], []⟩
def cs_impl_withoutKey : Cons := ⟨cl_impl_withoutKey, [], 0, [], []⟩
def can0_impl_withoutKey (key1 : Int) (list0 : List Int) (xt10 : Int) (xt11 : Int) (xout5 : List Int) : St := ⟨[(1, .one (.c (.v (.int .i64 key1)))), (5, .one (.c (.ow 90000))), (9, .one (.c (.ro .int list0))), (10, .one (.c (.v (.int .i64 xt10)))), (11, .one (.c (.v (.int .i64 xt11))))], [(90000, .row .int xout5)]⟩
def fin_impl_withoutKey (list0 : List Int) (key1 : Int) (kk : AV → List A1 → Prop) : Kt := fin TT con_impl_withoutKey Try.f62.results.toList [.c (.sl .int)] [.c (.ro .int list0), .c (.v (.int .i64 key1))] kk
def kt0_impl_withoutKey (kf : Kt) : Kt := blockK 0 (seqK (evF TT cs_impl_withoutKey 24 an_impl_withoutKey Try.f62 [1, 1, 1]) (kf))
theorem r0_impl_withoutKey (list0 : List Int) (key1 : Int) (xt10 : Int) (kk : AV → List A1 → Prop) (n : Nat) (xt11 : Int) (xout5 : List Int) :
    iter (evF TT cs_impl_withoutKey 24 an_impl_withoutKey Try.f62 [1, 1, 0, 1, 0, 0]) nm0_impl_withoutKey (kt0_impl_withoutKey (fin_impl_withoutKey list0 key1 kk)) (n + 1) (can0_impl_withoutKey key1 list0 xt10 xt11 xout5) = T0_impl_withoutKey key1 list0 xt10 xt11 xout5 (fun r0 => kk (.one (.c (.ro .int r0))) []) (fun xt11 xout5 => iter (evF TT cs_impl_withoutKey 24 an_impl_withoutKey Try.f62 [1, 1, 0, 1, 0, 0]) nm0_impl_withoutKey (kt0_impl_withoutKey (fin_impl_withoutKey list0 key1 kk)) n (can0_impl_withoutKey key1 list0 xt10 xt11 xout5)) := by kernel_rfl
theorem l0_impl_withoutKey (list0 : List Int) (key1 : Int) (xt10 : Int) (kk : AV → List A1 → Prop) : ∀ (n : Nat) (xt11 : Int) (xout5 : List Int), iter (evF TT cs_impl_withoutKey 24 an_impl_withoutKey Try.f62 [1, 1, 0, 1, 0, 0]) nm0_impl_withoutKey (kt0_impl_withoutKey (fin_impl_withoutKey list0 key1 kk)) n (can0_impl_withoutKey key1 list0 xt10 xt11 xout5) = L0_impl_withoutKey key1 list0 xt10 (fun r0 => kk (.one (.c (.ro .int r0))) []) n xt11 xout5 := by
  intro n
  induction n with
  | zero => intros; rfl
  | succ n ih =>
    intro xt11 xout5
    rw [r0_impl_withoutKey list0 key1 xt10 kk n xt11 xout5]
    have hb : (fun xt11 xout5 => iter (evF TT cs_impl_withoutKey 24 an_impl_withoutKey Try.f62 [1, 1, 0, 1, 0, 0]) nm0_impl_withoutKey (kt0_impl_withoutKey (fin_impl_withoutKey list0 key1 kk)) n (can0_impl_withoutKey key1 list0 xt10 xt11 xout5)) = L0_impl_withoutKey key1 list0 xt10 (fun r0 => kk (.one (.c (.ro .int r0))) []) n := by
      funext xt11 xout5; exact ih xt11 xout5
    rw [hb]
    rfl
theorem g_impl_withoutKey (list0 : List Int) (key1 : Int) (kk : AV → List A1 → Prop) :
    ev TT cs_impl_withoutKey 24 an_impl_withoutKey (Try.f62.body.getD .skip) (st0 con_impl_withoutKey [.c (.ro .int list0), .c (.v (.int .i64 key1))]) (fin TT con_impl_withoutKey Try.f62.results.toList [.c (.sl .int)] [.c (.ro .int list0), .c (.v (.int .i64 key1))] kk) = G_impl_withoutKey list0 key1 (fun key1 list0 xt10 xt11 xout5 => ∃ j, iter (evF TT cs_impl_withoutKey 24 an_impl_withoutKey Try.f62 [1, 1, 0, 1, 0, 0]) nm0_impl_withoutKey (kt0_impl_withoutKey (fin_impl_withoutKey list0 key1 kk)) j (can0_impl_withoutKey key1 list0 xt10 xt11 xout5)) := by kernel_rfl
theorem e_impl_withoutKey (list0 : List Int) (key1 : Int) (kk : AV → List A1 → Prop) :
    ev TT cs_impl_withoutKey 24 an_impl_withoutKey (Try.f62.body.getD .skip) (st0 con_impl_withoutKey [.c (.ro .int list0), .c (.v (.int .i64 key1))]) (fin TT con_impl_withoutKey Try.f62.results.toList [.c (.sl .int)] [.c (.ro .int list0), .c (.v (.int .i64 key1))] kk) = S_impl_withoutKey list0 key1 (fun r0 => kk (.one (.c (.ro .int r0))) []) := by
  rw [g_impl_withoutKey]
  have hi0 : (fun key1 list0 xt10 xt11 xout5 => ∃ j, iter (evF TT cs_impl_withoutKey 24 an_impl_withoutKey Try.f62 [1, 1, 0, 1, 0, 0]) nm0_impl_withoutKey (kt0_impl_withoutKey (fin_impl_withoutKey list0 key1 kk)) j (can0_impl_withoutKey key1 list0 xt10 xt11 xout5)) = (fun key1 list0 xt10 xt11 xout5 => ∃ j, L0_impl_withoutKey key1 list0 xt10 (fun r0 => kk (.one (.c (.ro .int r0))) []) j xt11 xout5) := by
    funext key1 list0 xt10 xt11 xout5
    refine congrArg Exists (funext fun j => ?_)
    rw [l0_impl_withoutKey list0 key1 xt10 kk j xt11 xout5]
  rw [hi0]
  rfl
theorem clok_impl_withoutKey : ConOK Try.prog cl_impl_withoutKey := consNil
theorem cok_impl_withoutKey : ConsOK Try.prog 24 cs_impl_withoutKey := ⟨clok_impl_withoutKey, inlNil⟩
theorem i_impl_withoutKey {vs : List A1} {kk : AV → List A1 → Prop} {motive : List A1 → Prop} (h : con_impl_withoutKey.F vs kk) (H : ∀ (list0 : List Int) (key1 : Int), F_impl_withoutKey list0 key1 (fun r0 => kk (.one (.c (.ro .int r0))) []) → motive [.c (.ro .int list0), .c (.v (.int .i64 key1))]) : motive vs := by
  unfold con_impl_withoutKey at h
  dsimp only at h
  split at h
  · exact H _ _ h
  · exact h.elim
theorem h_impl_withoutKey : Holds Try.prog 62 con_impl_withoutKey := by
  refine holds_of_ev (rt := [.c (.sl .int)]) (T := TT) (Γ := cs_impl_withoutKey) (an := an_impl_withoutKey) (N := 24) (c := Try.f62.body.getD .skip) Try.func62 (by kernel_rfl) Try.ntmps62 (by decide) (by decide) mixed tabOK cok_impl_withoutKey (by kernel_rfl) ?_
  intro vs kk _ hF
  exact i_impl_withoutKey (motive := fun vs => Goes (ev TT cs_impl_withoutKey 24 an_impl_withoutKey (Try.f62.body.getD .skip) (st0 con_impl_withoutKey vs) (fin TT con_impl_withoutKey Try.f62.results.toList [.c (.sl .int)] vs kk))) hF (fun list0 key1 hF => goes_of (e_impl_withoutKey list0 key1 kk) (F_impl_withoutKey_S hF))
def con_impl_putFirst : Con := ⟨[.rd, .rd], true, [.c (.sl .int), .c (.sc)], fun vs k => match vs with
    | [.c (.ro .int list0), .c (.v (.int .i64 key1))] => F_impl_putFirst list0 key1 (fun r0 => k (.one (.c (.ro .int r0))) [])
    | _ => False, false⟩
def cl_impl_putFirst : List (FuncId × Con) := []
def an_impl_putFirst : Ann := ⟨[], [], []⟩
def cs_impl_putFirst : Cons := ⟨cl_impl_putFirst, [], 0, [], []⟩
def fin_impl_putFirst (list0 : List Int) (key1 : Int) (kk : AV → List A1 → Prop) : Kt := fin TT con_impl_putFirst Try.f78.results.toList [.c (.sl .int)] [.c (.ro .int list0), .c (.v (.int .i64 key1))] kk
theorem g_impl_putFirst (list0 : List Int) (key1 : Int) (kk : AV → List A1 → Prop) :
    ev TT cs_impl_putFirst 9 an_impl_putFirst (Try.f78.body.getD .skip) (st0 con_impl_putFirst [.c (.ro .int list0), .c (.v (.int .i64 key1))]) (fin TT con_impl_putFirst Try.f78.results.toList [.c (.sl .int)] [.c (.ro .int list0), .c (.v (.int .i64 key1))] kk) = G_impl_putFirst list0 key1 (fun r0 => kk (.one (.c (.ro .int r0))) []) := by kernel_rfl
theorem e_impl_putFirst (list0 : List Int) (key1 : Int) (kk : AV → List A1 → Prop) :
    ev TT cs_impl_putFirst 9 an_impl_putFirst (Try.f78.body.getD .skip) (st0 con_impl_putFirst [.c (.ro .int list0), .c (.v (.int .i64 key1))]) (fin TT con_impl_putFirst Try.f78.results.toList [.c (.sl .int)] [.c (.ro .int list0), .c (.v (.int .i64 key1))] kk) = S_impl_putFirst list0 key1 (fun r0 => kk (.one (.c (.ro .int r0))) []) := by
  rw [g_impl_putFirst]
  rfl
theorem clok_impl_putFirst : ConOK Try.prog cl_impl_putFirst := consNil
theorem cok_impl_putFirst : ConsOK Try.prog 9 cs_impl_putFirst := ⟨clok_impl_putFirst, inlNil⟩
theorem i_impl_putFirst {vs : List A1} {kk : AV → List A1 → Prop} {motive : List A1 → Prop} (h : con_impl_putFirst.F vs kk) (H : ∀ (list0 : List Int) (key1 : Int), F_impl_putFirst list0 key1 (fun r0 => kk (.one (.c (.ro .int r0))) []) → motive [.c (.ro .int list0), .c (.v (.int .i64 key1))]) : motive vs := by
  unfold con_impl_putFirst at h
  dsimp only at h
  split at h
  · exact H _ _ h
  · exact h.elim
theorem h_impl_putFirst : Holds Try.prog 78 con_impl_putFirst := by
  refine holds_of_ev (rt := [.c (.sl .int)]) (T := TT) (Γ := cs_impl_putFirst) (an := an_impl_putFirst) (N := 9) (c := Try.f78.body.getD .skip) Try.func78 (by kernel_rfl) Try.ntmps78 (by decide) (by decide) mixed tabOK cok_impl_putFirst (by kernel_rfl) ?_
  intro vs kk _ hF
  exact i_impl_putFirst (motive := fun vs => Goes (ev TT cs_impl_putFirst 9 an_impl_putFirst (Try.f78.body.getD .skip) (st0 con_impl_putFirst vs) (fin TT con_impl_putFirst Try.f78.results.toList [.c (.sl .int)] vs kk))) hF (fun list0 key1 hF => goes_of (e_impl_putFirst list0 key1 kk) (F_impl_putFirst_S hF))
def con_impl_ReuseDistances : Con := ⟨[.rd], true, [.c (.sl .int)], fun vs k => match vs with
    | [.c (.ro .int t0)] => F_impl_ReuseDistances t0 (fun r0 => k (.one (.c (.ro .int r0))) [])
    | _ => False, false⟩
def cl_impl_ReuseDistances : List (FuncId × Con) := [(47, con_impl_ValidTrace), (62, con_impl_withoutKey), (71, con_slices_Index_sint_int), (78, con_impl_putFirst)]
def nm0_impl_ReuseDistances : List NStep := [.own 4 .int 90000, .keep [3, 4, 14, 15, 16] [192, 90000]]
def an_impl_ReuseDistances : Ann := ⟨[], [(6, nm0_impl_ReuseDistances)], []⟩
def cs_impl_ReuseDistances : Cons := ⟨cl_impl_ReuseDistances, [], 0, [], []⟩
def can0_impl_ReuseDistances (t0 : List Int) (xt15 : Int) (xt16 : Int) (xy12 : List Int) (xrecent4 : List Int) : St := ⟨[(3, .one (.c (.ow 192))), (4, .one (.c (.ow 90000))), (14, .one (.c (.ro .int t0))), (15, .one (.c (.v (.int .i64 xt15)))), (16, .one (.c (.v (.int .i64 xt16))))], [(192, .row .int xy12), (90000, .row .int xrecent4)]⟩
def fin_impl_ReuseDistances (t0 : List Int) (kk : AV → List A1 → Prop) : Kt := fin TT con_impl_ReuseDistances Try.f48.results.toList [.c (.sl .int)] [.c (.ro .int t0)] kk
def kt0_impl_ReuseDistances (kf : Kt) : Kt := blockK 0 (seqK (evF TT cs_impl_ReuseDistances 35 an_impl_ReuseDistances Try.f48 [1, 1, 1, 1, 1]) (kf))
theorem r0_impl_ReuseDistances (t0 : List Int) (xt15 : Int) (kk : AV → List A1 → Prop) (n : Nat) (xt16 : Int) (xy12 : List Int) (xrecent4 : List Int) :
    iter (evF TT cs_impl_ReuseDistances 35 an_impl_ReuseDistances Try.f48 [1, 1, 1, 1, 0, 1, 0, 0]) nm0_impl_ReuseDistances (kt0_impl_ReuseDistances (fin_impl_ReuseDistances t0 kk)) (n + 1) (can0_impl_ReuseDistances t0 xt15 xt16 xy12 xrecent4) = T0_impl_ReuseDistances t0 xt15 xt16 xy12 xrecent4 (fun r0 => kk (.one (.c (.ro .int r0))) []) (fun xt16 xy12 xrecent4 => iter (evF TT cs_impl_ReuseDistances 35 an_impl_ReuseDistances Try.f48 [1, 1, 1, 1, 0, 1, 0, 0]) nm0_impl_ReuseDistances (kt0_impl_ReuseDistances (fin_impl_ReuseDistances t0 kk)) n (can0_impl_ReuseDistances t0 xt15 xt16 xy12 xrecent4)) := by kernel_rfl
theorem l0_impl_ReuseDistances (t0 : List Int) (xt15 : Int) (kk : AV → List A1 → Prop) : ∀ (n : Nat) (xt16 : Int) (xy12 : List Int) (xrecent4 : List Int), iter (evF TT cs_impl_ReuseDistances 35 an_impl_ReuseDistances Try.f48 [1, 1, 1, 1, 0, 1, 0, 0]) nm0_impl_ReuseDistances (kt0_impl_ReuseDistances (fin_impl_ReuseDistances t0 kk)) n (can0_impl_ReuseDistances t0 xt15 xt16 xy12 xrecent4) = L0_impl_ReuseDistances t0 xt15 (fun r0 => kk (.one (.c (.ro .int r0))) []) n xt16 xy12 xrecent4 := by
  intro n
  induction n with
  | zero => intros; rfl
  | succ n ih =>
    intro xt16 xy12 xrecent4
    rw [r0_impl_ReuseDistances t0 xt15 kk n xt16 xy12 xrecent4]
    have hb : (fun xt16 xy12 xrecent4 => iter (evF TT cs_impl_ReuseDistances 35 an_impl_ReuseDistances Try.f48 [1, 1, 1, 1, 0, 1, 0, 0]) nm0_impl_ReuseDistances (kt0_impl_ReuseDistances (fin_impl_ReuseDistances t0 kk)) n (can0_impl_ReuseDistances t0 xt15 xt16 xy12 xrecent4)) = L0_impl_ReuseDistances t0 xt15 (fun r0 => kk (.one (.c (.ro .int r0))) []) n := by
      funext xt16 xy12 xrecent4; exact ih xt16 xy12 xrecent4
    rw [hb]
    rfl
theorem g_impl_ReuseDistances (t0 : List Int) (kk : AV → List A1 → Prop) :
    ev TT cs_impl_ReuseDistances 35 an_impl_ReuseDistances (Try.f48.body.getD .skip) (st0 con_impl_ReuseDistances [.c (.ro .int t0)]) (fin TT con_impl_ReuseDistances Try.f48.results.toList [.c (.sl .int)] [.c (.ro .int t0)] kk) = G_impl_ReuseDistances t0 (fun r0 => kk (.one (.c (.ro .int r0))) []) (fun t0 xt15 xt16 xy12 xrecent4 => ∃ j, iter (evF TT cs_impl_ReuseDistances 35 an_impl_ReuseDistances Try.f48 [1, 1, 1, 1, 0, 1, 0, 0]) nm0_impl_ReuseDistances (kt0_impl_ReuseDistances (fin_impl_ReuseDistances t0 kk)) j (can0_impl_ReuseDistances t0 xt15 xt16 xy12 xrecent4)) := by kernel_rfl
theorem e_impl_ReuseDistances (t0 : List Int) (kk : AV → List A1 → Prop) :
    ev TT cs_impl_ReuseDistances 35 an_impl_ReuseDistances (Try.f48.body.getD .skip) (st0 con_impl_ReuseDistances [.c (.ro .int t0)]) (fin TT con_impl_ReuseDistances Try.f48.results.toList [.c (.sl .int)] [.c (.ro .int t0)] kk) = S_impl_ReuseDistances t0 (fun r0 => kk (.one (.c (.ro .int r0))) []) := by
  rw [g_impl_ReuseDistances]
  have hi0 : (fun t0 xt15 xt16 xy12 xrecent4 => ∃ j, iter (evF TT cs_impl_ReuseDistances 35 an_impl_ReuseDistances Try.f48 [1, 1, 1, 1, 0, 1, 0, 0]) nm0_impl_ReuseDistances (kt0_impl_ReuseDistances (fin_impl_ReuseDistances t0 kk)) j (can0_impl_ReuseDistances t0 xt15 xt16 xy12 xrecent4)) = (fun t0 xt15 xt16 xy12 xrecent4 => ∃ j, L0_impl_ReuseDistances t0 xt15 (fun r0 => kk (.one (.c (.ro .int r0))) []) j xt16 xy12 xrecent4) := by
    funext t0 xt15 xt16 xy12 xrecent4
    refine congrArg Exists (funext fun j => ?_)
    rw [l0_impl_ReuseDistances t0 xt15 kk j xt16 xy12 xrecent4]
  rw [hi0]
  rfl
theorem clok_impl_ReuseDistances : ConOK Try.prog cl_impl_ReuseDistances := consCons h_impl_ValidTrace ⟨Try.f47, Try.func47, by kernel_rfl, ne_of_beq (by kernel_rfl)⟩ (consCons h_impl_withoutKey ⟨Try.f62, Try.func62, by kernel_rfl, ne_of_beq (by kernel_rfl)⟩ (consCons h_slices_Index_sint_int ⟨Try.f71, Try.func71, by kernel_rfl, ne_of_beq (by kernel_rfl)⟩ (consCons h_impl_putFirst ⟨Try.f78, Try.func78, by kernel_rfl, ne_of_beq (by kernel_rfl)⟩ (consNil))))
theorem cok_impl_ReuseDistances : ConsOK Try.prog 35 cs_impl_ReuseDistances := ⟨clok_impl_ReuseDistances, inlNil⟩
theorem i_impl_ReuseDistances {vs : List A1} {kk : AV → List A1 → Prop} {motive : List A1 → Prop} (h : con_impl_ReuseDistances.F vs kk) (H : ∀ (t0 : List Int), F_impl_ReuseDistances t0 (fun r0 => kk (.one (.c (.ro .int r0))) []) → motive [.c (.ro .int t0)]) : motive vs := by
  unfold con_impl_ReuseDistances at h
  dsimp only at h
  split at h
  · exact H _ h
  · exact h.elim
theorem h_impl_ReuseDistances : Holds Try.prog 48 con_impl_ReuseDistances := by
  refine holds_of_ev (rt := [.c (.sl .int)]) (T := TT) (Γ := cs_impl_ReuseDistances) (an := an_impl_ReuseDistances) (N := 35) (c := Try.f48.body.getD .skip) Try.func48 (by kernel_rfl) Try.ntmps48 (by decide) (by decide) mixed tabOK cok_impl_ReuseDistances (by kernel_rfl) ?_
  intro vs kk _ hF
  exact i_impl_ReuseDistances (motive := fun vs => Goes (ev TT cs_impl_ReuseDistances 35 an_impl_ReuseDistances (Try.f48.body.getD .skip) (st0 con_impl_ReuseDistances vs) (fin TT con_impl_ReuseDistances Try.f48.results.toList [.c (.sl .int)] vs kk))) hF (fun t0 hF => goes_of (e_impl_ReuseDistances t0 kk) (F_impl_ReuseDistances_S hF))
def con_impl_HitCurve : Con := ⟨[.rd], true, [.c (.sl .int)], fun vs k => match vs with
    | [.c (.ro .int t0)] => F_impl_HitCurve t0 (fun r0 => k (.one (.c (.ro .int r0))) [])
    | _ => False, false⟩
def cl_impl_HitCurve : List (FuncId × Con) := [(47, con_impl_ValidTrace), (48, con_impl_ReuseDistances)]
def nm1_impl_HitCurve : List NStep := [.keep [3, 6, 12, 13, 14] [160, 192]]
def nm0_impl_HitCurve : List NStep := [.keep [3, 12, 13, 14] [160, 192]]
def an_impl_HitCurve : Ann := ⟨[], [(9, nm1_impl_HitCurve), (5, nm0_impl_HitCurve)], []⟩
def cs_impl_HitCurve : Cons := ⟨cl_impl_HitCurve, [], 0, [], []⟩
def can1_impl_HitCurve (reuseDistances12 : List Int) (xt13 : Int) (xt14 : Int) (xroom6 : Int) (xy10' : List Int) : St := ⟨[(3, .one (.c (.ow 160))), (6, .one (.c (.v (.int .i64 xroom6)))), (12, .one (.c (.ow 192))), (13, .one (.c (.v (.int .i64 xt13)))), (14, .one (.c (.v (.int .i64 xt14))))], [(160, .row .int xy10'), (192, .row .int reuseDistances12)]⟩
def can0_impl_HitCurve (reuseDistances12 : List Int) (xt13 : Int) (xt14 : Int) (xy10 : List Int) : St := ⟨[(3, .one (.c (.ow 160))), (12, .one (.c (.ow 192))), (13, .one (.c (.v (.int .i64 xt13)))), (14, .one (.c (.v (.int .i64 xt14))))], [(160, .row .int xy10), (192, .row .int reuseDistances12)]⟩
def fin_impl_HitCurve (t0 : List Int) (kk : AV → List A1 → Prop) : Kt := fin TT con_impl_HitCurve Try.f17.results.toList [.c (.sl .int)] [.c (.ro .int t0)] kk
def kt1_impl_HitCurve (kf : Kt) (b0 : St → Prop) : Kt := blockK 2 (blockK 1 (seqK (evF TT cs_impl_HitCurve 34 an_impl_HitCurve Try.f17 [1, 1, 1, 0, 1, 0, 0, 1, 1, 1]) (backK nm0_impl_HitCurve b0 (blockK 0 (seqK (evF TT cs_impl_HitCurve 34 an_impl_HitCurve Try.f17 [1, 1, 1, 1]) (kf))))))
def kt0_impl_HitCurve (kf : Kt) : Kt := blockK 0 (seqK (evF TT cs_impl_HitCurve 34 an_impl_HitCurve Try.f17 [1, 1, 1, 1]) (kf))
theorem r1_impl_HitCurve (t0 : List Int) (reuseDistances12 : List Int) (xt13 : Int) (xt14 : Int) (kk : AV → List A1 → Prop) (b0 : St → Prop) (n : Nat) (xroom6 : Int) (xy10' : List Int) :
    iter (evF TT cs_impl_HitCurve 34 an_impl_HitCurve Try.f17 [1, 1, 1, 0, 1, 0, 0, 1, 1, 0, 0, 1, 1, 1, 0, 0]) nm1_impl_HitCurve (kt1_impl_HitCurve (fin_impl_HitCurve t0 kk) b0) (n + 1) (can1_impl_HitCurve reuseDistances12 xt13 xt14 xroom6 xy10') = T1_impl_HitCurve reuseDistances12 xt13 xt14 xroom6 xy10' (fun xt14 xy10 => b0 (can0_impl_HitCurve reuseDistances12 xt13 xt14 xy10)) (fun xroom6 xy10' => iter (evF TT cs_impl_HitCurve 34 an_impl_HitCurve Try.f17 [1, 1, 1, 0, 1, 0, 0, 1, 1, 0, 0, 1, 1, 1, 0, 0]) nm1_impl_HitCurve (kt1_impl_HitCurve (fin_impl_HitCurve t0 kk) b0) n (can1_impl_HitCurve reuseDistances12 xt13 xt14 xroom6 xy10')) := by kernel_rfl
theorem l1_impl_HitCurve (t0 : List Int) (reuseDistances12 : List Int) (xt13 : Int) (xt14 : Int) (kk : AV → List A1 → Prop) (b0 : St → Prop) : ∀ (n : Nat) (xroom6 : Int) (xy10' : List Int), iter (evF TT cs_impl_HitCurve 34 an_impl_HitCurve Try.f17 [1, 1, 1, 0, 1, 0, 0, 1, 1, 0, 0, 1, 1, 1, 0, 0]) nm1_impl_HitCurve (kt1_impl_HitCurve (fin_impl_HitCurve t0 kk) b0) n (can1_impl_HitCurve reuseDistances12 xt13 xt14 xroom6 xy10') = L1_impl_HitCurve reuseDistances12 xt13 xt14 (fun r0 => kk (.one (.c (.ro .int r0))) []) (fun xt14 xy10 => b0 (can0_impl_HitCurve reuseDistances12 xt13 xt14 xy10)) n xroom6 xy10' := by
  intro n
  induction n with
  | zero => intros; rfl
  | succ n ih =>
    intro xroom6 xy10'
    rw [r1_impl_HitCurve t0 reuseDistances12 xt13 xt14 kk b0 n xroom6 xy10']
    have hb : (fun xroom6 xy10' => iter (evF TT cs_impl_HitCurve 34 an_impl_HitCurve Try.f17 [1, 1, 1, 0, 1, 0, 0, 1, 1, 0, 0, 1, 1, 1, 0, 0]) nm1_impl_HitCurve (kt1_impl_HitCurve (fin_impl_HitCurve t0 kk) b0) n (can1_impl_HitCurve reuseDistances12 xt13 xt14 xroom6 xy10')) = L1_impl_HitCurve reuseDistances12 xt13 xt14 (fun r0 => kk (.one (.c (.ro .int r0))) []) (fun xt14 xy10 => b0 (can0_impl_HitCurve reuseDistances12 xt13 xt14 xy10)) n := by
      funext xroom6 xy10'; exact ih xroom6 xy10'
    rw [hb]
    rfl
theorem r0_impl_HitCurve (t0 : List Int) (reuseDistances12 : List Int) (xt13 : Int) (kk : AV → List A1 → Prop) (n : Nat) (xt14 : Int) (xy10 : List Int) :
    iter (evF TT cs_impl_HitCurve 34 an_impl_HitCurve Try.f17 [1, 1, 1, 0, 1, 0, 0]) nm0_impl_HitCurve (kt0_impl_HitCurve (fin_impl_HitCurve t0 kk)) (n + 1) (can0_impl_HitCurve reuseDistances12 xt13 xt14 xy10) = T0_impl_HitCurve reuseDistances12 xt13 xt14 xy10 (fun r0 => kk (.one (.c (.ro .int r0))) []) (fun xt14 xy10 => iter (evF TT cs_impl_HitCurve 34 an_impl_HitCurve Try.f17 [1, 1, 1, 0, 1, 0, 0]) nm0_impl_HitCurve (kt0_impl_HitCurve (fin_impl_HitCurve t0 kk)) n (can0_impl_HitCurve reuseDistances12 xt13 xt14 xy10)) (fun reuseDistances12 xt13 xt14 xroom6 xy10' => ∃ j, iter (evF TT cs_impl_HitCurve 34 an_impl_HitCurve Try.f17 [1, 1, 1, 0, 1, 0, 0, 1, 1, 0, 0, 1, 1, 1, 0, 0]) nm1_impl_HitCurve (kt1_impl_HitCurve (fin_impl_HitCurve t0 kk) (iter (evF TT cs_impl_HitCurve 34 an_impl_HitCurve Try.f17 [1, 1, 1, 0, 1, 0, 0]) nm0_impl_HitCurve (kt0_impl_HitCurve (fin_impl_HitCurve t0 kk)) n)) j (can1_impl_HitCurve reuseDistances12 xt13 xt14 xroom6 xy10')) := by kernel_rfl
theorem l0_impl_HitCurve (t0 : List Int) (reuseDistances12 : List Int) (xt13 : Int) (kk : AV → List A1 → Prop) : ∀ (n : Nat) (xt14 : Int) (xy10 : List Int), iter (evF TT cs_impl_HitCurve 34 an_impl_HitCurve Try.f17 [1, 1, 1, 0, 1, 0, 0]) nm0_impl_HitCurve (kt0_impl_HitCurve (fin_impl_HitCurve t0 kk)) n (can0_impl_HitCurve reuseDistances12 xt13 xt14 xy10) = L0_impl_HitCurve reuseDistances12 xt13 (fun r0 => kk (.one (.c (.ro .int r0))) []) n xt14 xy10 := by
  intro n
  induction n generalizing t0 reuseDistances12 xt13 with
  | zero => intros; rfl
  | succ n ih =>
    intro xt14 xy10
    rw [r0_impl_HitCurve t0 reuseDistances12 xt13 kk n xt14 xy10]
    have hb : ∀ (t0 : List Int) (reuseDistances12 : List Int) (xt13 : Int), (fun xt14 xy10 => iter (evF TT cs_impl_HitCurve 34 an_impl_HitCurve Try.f17 [1, 1, 1, 0, 1, 0, 0]) nm0_impl_HitCurve (kt0_impl_HitCurve (fin_impl_HitCurve t0 kk)) n (can0_impl_HitCurve reuseDistances12 xt13 xt14 xy10)) = L0_impl_HitCurve reuseDistances12 xt13 (fun r0 => kk (.one (.c (.ro .int r0))) []) n := by
      intro t0 reuseDistances12 xt13
      funext xt14 xy10; exact ih t0 reuseDistances12 xt13 xt14 xy10
    have hi1 : (fun reuseDistances12 xt13 xt14 xroom6 xy10' => ∃ j, iter (evF TT cs_impl_HitCurve 34 an_impl_HitCurve Try.f17 [1, 1, 1, 0, 1, 0, 0, 1, 1, 0, 0, 1, 1, 1, 0, 0]) nm1_impl_HitCurve (kt1_impl_HitCurve (fin_impl_HitCurve t0 kk) (iter (evF TT cs_impl_HitCurve 34 an_impl_HitCurve Try.f17 [1, 1, 1, 0, 1, 0, 0]) nm0_impl_HitCurve (kt0_impl_HitCurve (fin_impl_HitCurve t0 kk)) n)) j (can1_impl_HitCurve reuseDistances12 xt13 xt14 xroom6 xy10')) = (fun reuseDistances12 xt13 xt14 xroom6 xy10' => ∃ j, L1_impl_HitCurve reuseDistances12 xt13 xt14 (fun r0 => kk (.one (.c (.ro .int r0))) []) (L0_impl_HitCurve reuseDistances12 xt13 (fun r0 => kk (.one (.c (.ro .int r0))) []) n) j xroom6 xy10') := by
      funext reuseDistances12 xt13 xt14 xroom6 xy10'
      refine congrArg Exists (funext fun j => ?_)
      rw [l1_impl_HitCurve t0 reuseDistances12 xt13 xt14 kk (iter (evF TT cs_impl_HitCurve 34 an_impl_HitCurve Try.f17 [1, 1, 1, 0, 1, 0, 0]) nm0_impl_HitCurve (kt0_impl_HitCurve (fin_impl_HitCurve t0 kk)) n) j xroom6 xy10']
      rw [hb]
    rw [hb, hi1]
    rfl
theorem g_impl_HitCurve (t0 : List Int) (kk : AV → List A1 → Prop) :
    ev TT cs_impl_HitCurve 34 an_impl_HitCurve (Try.f17.body.getD .skip) (st0 con_impl_HitCurve [.c (.ro .int t0)]) (fin TT con_impl_HitCurve Try.f17.results.toList [.c (.sl .int)] [.c (.ro .int t0)] kk) = G_impl_HitCurve t0 (fun r0 => kk (.one (.c (.ro .int r0))) []) (fun reuseDistances12 xt13 xt14 xy10 => ∃ j, iter (evF TT cs_impl_HitCurve 34 an_impl_HitCurve Try.f17 [1, 1, 1, 0, 1, 0, 0]) nm0_impl_HitCurve (kt0_impl_HitCurve (fin_impl_HitCurve t0 kk)) j (can0_impl_HitCurve reuseDistances12 xt13 xt14 xy10)) := by kernel_rfl
theorem e_impl_HitCurve (t0 : List Int) (kk : AV → List A1 → Prop) :
    ev TT cs_impl_HitCurve 34 an_impl_HitCurve (Try.f17.body.getD .skip) (st0 con_impl_HitCurve [.c (.ro .int t0)]) (fin TT con_impl_HitCurve Try.f17.results.toList [.c (.sl .int)] [.c (.ro .int t0)] kk) = S_impl_HitCurve t0 (fun r0 => kk (.one (.c (.ro .int r0))) []) := by
  rw [g_impl_HitCurve]
  have hi0 : (fun reuseDistances12 xt13 xt14 xy10 => ∃ j, iter (evF TT cs_impl_HitCurve 34 an_impl_HitCurve Try.f17 [1, 1, 1, 0, 1, 0, 0]) nm0_impl_HitCurve (kt0_impl_HitCurve (fin_impl_HitCurve t0 kk)) j (can0_impl_HitCurve reuseDistances12 xt13 xt14 xy10)) = (fun reuseDistances12 xt13 xt14 xy10 => ∃ j, L0_impl_HitCurve reuseDistances12 xt13 (fun r0 => kk (.one (.c (.ro .int r0))) []) j xt14 xy10) := by
    funext reuseDistances12 xt13 xt14 xy10
    refine congrArg Exists (funext fun j => ?_)
    rw [l0_impl_HitCurve t0 reuseDistances12 xt13 kk j xt14 xy10]
  rw [hi0]
  rfl
theorem clok_impl_HitCurve : ConOK Try.prog cl_impl_HitCurve := consCons h_impl_ValidTrace ⟨Try.f47, Try.func47, by kernel_rfl, ne_of_beq (by kernel_rfl)⟩ (consCons h_impl_ReuseDistances ⟨Try.f48, Try.func48, by kernel_rfl, ne_of_beq (by kernel_rfl)⟩ (consNil))
theorem cok_impl_HitCurve : ConsOK Try.prog 34 cs_impl_HitCurve := ⟨clok_impl_HitCurve, inlNil⟩
theorem i_impl_HitCurve {vs : List A1} {kk : AV → List A1 → Prop} {motive : List A1 → Prop} (h : con_impl_HitCurve.F vs kk) (H : ∀ (t0 : List Int), F_impl_HitCurve t0 (fun r0 => kk (.one (.c (.ro .int r0))) []) → motive [.c (.ro .int t0)]) : motive vs := by
  unfold con_impl_HitCurve at h
  dsimp only at h
  split at h
  · exact H _ h
  · exact h.elim
theorem h_impl_HitCurve : Holds Try.prog 17 con_impl_HitCurve := by
  refine holds_of_ev (rt := [.c (.sl .int)]) (T := TT) (Γ := cs_impl_HitCurve) (an := an_impl_HitCurve) (N := 34) (c := Try.f17.body.getD .skip) Try.func17 (by kernel_rfl) Try.ntmps17 (by decide) (by decide) mixed tabOK cok_impl_HitCurve (by kernel_rfl) ?_
  intro vs kk _ hF
  exact i_impl_HitCurve (motive := fun vs => Goes (ev TT cs_impl_HitCurve 34 an_impl_HitCurve (Try.f17.body.getD .skip) (st0 con_impl_HitCurve vs) (fin TT con_impl_HitCurve Try.f17.results.toList [.c (.sl .int)] vs kk))) hF (fun t0 hF => goes_of (e_impl_HitCurve t0 kk) (F_impl_HitCurve_S hF))
def con_impl_RoomFor : Con := ⟨[.rd, .rd], true, [.c (.sl .int), .c (.sc)], fun vs k => match vs with
    | [.c (.ro .int t0), .c (.v (.int .i64 hits1))] => F_impl_RoomFor t0 hits1 (fun r0 => k (.one (.c (.v (.int .i64 r0)))) [])
    | _ => False, false⟩
def cl_impl_RoomFor : List (FuncId × Con) := [(17, con_impl_HitCurve), (47, con_impl_ValidTrace)]
def nm0_impl_RoomFor : List NStep := [.keep [1, 15, 16, 17] [240]]
def an_impl_RoomFor : Ann := ⟨[], [(4, nm0_impl_RoomFor)], []⟩
def cs_impl_RoomFor : Cons := ⟨cl_impl_RoomFor, [], 0, [], []⟩
def can0_impl_RoomFor (hitCurve15 : List Int) (hits1 : Int) (xt16 : Int) (xt17 : Int) : St := ⟨[(1, .one (.c (.v (.int .i64 hits1)))), (15, .one (.c (.ow 240))), (16, .one (.c (.v (.int .i64 xt16)))), (17, .one (.c (.v (.int .i64 xt17))))], [(240, .row .int hitCurve15)]⟩
def fin_impl_RoomFor (t0 : List Int) (hits1 : Int) (kk : AV → List A1 → Prop) : Kt := fin TT con_impl_RoomFor Try.f22.results.toList [.c .sc] [.c (.ro .int t0), .c (.v (.int .i64 hits1))] kk
def kt0_impl_RoomFor (kf : Kt) : Kt := blockK 0 (seqK (evF TT cs_impl_RoomFor 28 an_impl_RoomFor Try.f22 [1, 1, 1]) (kf))
theorem r0_impl_RoomFor (t0 : List Int) (hits1 : Int) (hitCurve15 : List Int) (xt16 : Int) (kk : AV → List A1 → Prop) (n : Nat) (xt17 : Int) :
    iter (evF TT cs_impl_RoomFor 28 an_impl_RoomFor Try.f22 [1, 1, 0, 1, 0, 0]) nm0_impl_RoomFor (kt0_impl_RoomFor (fin_impl_RoomFor t0 hits1 kk)) (n + 1) (can0_impl_RoomFor hitCurve15 hits1 xt16 xt17) = T0_impl_RoomFor hitCurve15 hits1 xt16 xt17 (fun r0 => kk (.one (.c (.v (.int .i64 r0)))) []) (fun xt17 => iter (evF TT cs_impl_RoomFor 28 an_impl_RoomFor Try.f22 [1, 1, 0, 1, 0, 0]) nm0_impl_RoomFor (kt0_impl_RoomFor (fin_impl_RoomFor t0 hits1 kk)) n (can0_impl_RoomFor hitCurve15 hits1 xt16 xt17)) := by kernel_rfl
theorem l0_impl_RoomFor (t0 : List Int) (hits1 : Int) (hitCurve15 : List Int) (xt16 : Int) (kk : AV → List A1 → Prop) : ∀ (n : Nat) (xt17 : Int), iter (evF TT cs_impl_RoomFor 28 an_impl_RoomFor Try.f22 [1, 1, 0, 1, 0, 0]) nm0_impl_RoomFor (kt0_impl_RoomFor (fin_impl_RoomFor t0 hits1 kk)) n (can0_impl_RoomFor hitCurve15 hits1 xt16 xt17) = L0_impl_RoomFor hitCurve15 hits1 xt16 (fun r0 => kk (.one (.c (.v (.int .i64 r0)))) []) n xt17 := by
  intro n
  induction n with
  | zero => intros; rfl
  | succ n ih =>
    intro xt17
    rw [r0_impl_RoomFor t0 hits1 hitCurve15 xt16 kk n xt17]
    have hb : (fun xt17 => iter (evF TT cs_impl_RoomFor 28 an_impl_RoomFor Try.f22 [1, 1, 0, 1, 0, 0]) nm0_impl_RoomFor (kt0_impl_RoomFor (fin_impl_RoomFor t0 hits1 kk)) n (can0_impl_RoomFor hitCurve15 hits1 xt16 xt17)) = L0_impl_RoomFor hitCurve15 hits1 xt16 (fun r0 => kk (.one (.c (.v (.int .i64 r0)))) []) n := by
      funext xt17; exact ih xt17
    rw [hb]
    rfl
theorem g_impl_RoomFor (t0 : List Int) (hits1 : Int) (kk : AV → List A1 → Prop) :
    ev TT cs_impl_RoomFor 28 an_impl_RoomFor (Try.f22.body.getD .skip) (st0 con_impl_RoomFor [.c (.ro .int t0), .c (.v (.int .i64 hits1))]) (fin TT con_impl_RoomFor Try.f22.results.toList [.c .sc] [.c (.ro .int t0), .c (.v (.int .i64 hits1))] kk) = G_impl_RoomFor t0 hits1 (fun r0 => kk (.one (.c (.v (.int .i64 r0)))) []) (fun hitCurve15 hits1 xt16 xt17 => ∃ j, iter (evF TT cs_impl_RoomFor 28 an_impl_RoomFor Try.f22 [1, 1, 0, 1, 0, 0]) nm0_impl_RoomFor (kt0_impl_RoomFor (fin_impl_RoomFor t0 hits1 kk)) j (can0_impl_RoomFor hitCurve15 hits1 xt16 xt17)) := by kernel_rfl
theorem e_impl_RoomFor (t0 : List Int) (hits1 : Int) (kk : AV → List A1 → Prop) :
    ev TT cs_impl_RoomFor 28 an_impl_RoomFor (Try.f22.body.getD .skip) (st0 con_impl_RoomFor [.c (.ro .int t0), .c (.v (.int .i64 hits1))]) (fin TT con_impl_RoomFor Try.f22.results.toList [.c .sc] [.c (.ro .int t0), .c (.v (.int .i64 hits1))] kk) = S_impl_RoomFor t0 hits1 (fun r0 => kk (.one (.c (.v (.int .i64 r0)))) []) := by
  rw [g_impl_RoomFor]
  have hi0 : (fun hitCurve15 hits1 xt16 xt17 => ∃ j, iter (evF TT cs_impl_RoomFor 28 an_impl_RoomFor Try.f22 [1, 1, 0, 1, 0, 0]) nm0_impl_RoomFor (kt0_impl_RoomFor (fin_impl_RoomFor t0 hits1 kk)) j (can0_impl_RoomFor hitCurve15 hits1 xt16 xt17)) = (fun hitCurve15 hits1 xt16 xt17 => ∃ j, L0_impl_RoomFor hitCurve15 hits1 xt16 (fun r0 => kk (.one (.c (.v (.int .i64 r0)))) []) j xt17) := by
    funext hitCurve15 hits1 xt16 xt17
    refine congrArg Exists (funext fun j => ?_)
    rw [l0_impl_RoomFor t0 hits1 hitCurve15 xt16 kk j xt17]
  rw [hi0]
  rfl
theorem clok_impl_RoomFor : ConOK Try.prog cl_impl_RoomFor := consCons h_impl_HitCurve ⟨Try.f17, Try.func17, by kernel_rfl, ne_of_beq (by kernel_rfl)⟩ (consCons h_impl_ValidTrace ⟨Try.f47, Try.func47, by kernel_rfl, ne_of_beq (by kernel_rfl)⟩ (consNil))
theorem cok_impl_RoomFor : ConsOK Try.prog 28 cs_impl_RoomFor := ⟨clok_impl_RoomFor, inlNil⟩
theorem i_impl_RoomFor {vs : List A1} {kk : AV → List A1 → Prop} {motive : List A1 → Prop} (h : con_impl_RoomFor.F vs kk) (H : ∀ (t0 : List Int) (hits1 : Int), F_impl_RoomFor t0 hits1 (fun r0 => kk (.one (.c (.v (.int .i64 r0)))) []) → motive [.c (.ro .int t0), .c (.v (.int .i64 hits1))]) : motive vs := by
  unfold con_impl_RoomFor at h
  dsimp only at h
  split at h
  · exact H _ _ h
  · exact h.elim
theorem h_impl_RoomFor : Holds Try.prog 22 con_impl_RoomFor := by
  refine holds_of_ev (rt := [.c .sc]) (T := TT) (Γ := cs_impl_RoomFor) (an := an_impl_RoomFor) (N := 28) (c := Try.f22.body.getD .skip) Try.func22 (by kernel_rfl) Try.ntmps22 (by decide) (by decide) mixed tabOK cok_impl_RoomFor (by kernel_rfl) ?_
  intro vs kk _ hF
  exact i_impl_RoomFor (motive := fun vs => Goes (ev TT cs_impl_RoomFor 28 an_impl_RoomFor (Try.f22.body.getD .skip) (st0 con_impl_RoomFor vs) (fin TT con_impl_RoomFor Try.f22.results.toList [.c .sc] vs kk))) hF (fun t0 hits1 hF => goes_of (e_impl_RoomFor t0 hits1 kk) (F_impl_RoomFor_S hF))
def con_laws_eqIntS : Con := ⟨[.rd, .rd], true, [.c (.sl .int), .c (.sl .int)], fun vs k => match vs with
    | [.c (.ro .int a0), .c (.ro .int b1)] => F_laws_eqIntS a0 b1 (fun r0 => k (.one (.c (.v (.bool r0)))) [])
    | _ => False, false⟩
def cl_laws_eqIntS : List (FuncId × Con) := []
def nm0_laws_eqIntS : List NStep := [.keep [0, 1, 5] []]
def an_laws_eqIntS : Ann := ⟨[(6, .take 0 (.take 1 (.take 2 (.take 3 (.take 4 (.take 5 (.take 6 (.take 7 (.take 8 (.done))))))))), [])], [(4, nm0_laws_eqIntS)], []⟩
def cs_laws_eqIntS : Cons := ⟨cl_laws_eqIntS, [], 0, [], []⟩
def can0_laws_eqIntS (a0 : List Int) (b1 : List Int) (xi5 : Int) : St := ⟨[(0, .one (.c (.ro .int a0))), (1, .one (.c (.ro .int b1))), (5, .one (.c (.v (.int .i64 xi5))))], []⟩
def fin_laws_eqIntS (a0 : List Int) (b1 : List Int) (kk : AV → List A1 → Prop) : Kt := fin TT con_laws_eqIntS Try.f18.results.toList [.c .sc] [.c (.ro .int a0), .c (.ro .int b1)] kk
def kt0_laws_eqIntS (kf : Kt) : Kt := blockK 0 (seqK (evF TT cs_laws_eqIntS 26 an_laws_eqIntS Try.f18 [1, 1, 1]) (kf))
theorem r0_laws_eqIntS (a0 : List Int) (b1 : List Int) (kk : AV → List A1 → Prop) (n : Nat) (xi5 : Int) :
    iter (evF TT cs_laws_eqIntS 26 an_laws_eqIntS Try.f18 [1, 1, 0, 1, 0, 0]) nm0_laws_eqIntS (kt0_laws_eqIntS (fin_laws_eqIntS a0 b1 kk)) (n + 1) (can0_laws_eqIntS a0 b1 xi5) = T0_laws_eqIntS a0 b1 xi5 (fun r0 => kk (.one (.c (.v (.bool r0)))) []) (fun xi5 => iter (evF TT cs_laws_eqIntS 26 an_laws_eqIntS Try.f18 [1, 1, 0, 1, 0, 0]) nm0_laws_eqIntS (kt0_laws_eqIntS (fin_laws_eqIntS a0 b1 kk)) n (can0_laws_eqIntS a0 b1 xi5)) := by kernel_rfl
theorem l0_laws_eqIntS (a0 : List Int) (b1 : List Int) (kk : AV → List A1 → Prop) : ∀ (n : Nat) (xi5 : Int), iter (evF TT cs_laws_eqIntS 26 an_laws_eqIntS Try.f18 [1, 1, 0, 1, 0, 0]) nm0_laws_eqIntS (kt0_laws_eqIntS (fin_laws_eqIntS a0 b1 kk)) n (can0_laws_eqIntS a0 b1 xi5) = L0_laws_eqIntS a0 b1 (fun r0 => kk (.one (.c (.v (.bool r0)))) []) n xi5 := by
  intro n
  induction n with
  | zero => intros; rfl
  | succ n ih =>
    intro xi5
    rw [r0_laws_eqIntS a0 b1 kk n xi5]
    have hb : (fun xi5 => iter (evF TT cs_laws_eqIntS 26 an_laws_eqIntS Try.f18 [1, 1, 0, 1, 0, 0]) nm0_laws_eqIntS (kt0_laws_eqIntS (fin_laws_eqIntS a0 b1 kk)) n (can0_laws_eqIntS a0 b1 xi5)) = L0_laws_eqIntS a0 b1 (fun r0 => kk (.one (.c (.v (.bool r0)))) []) n := by
      funext xi5; exact ih xi5
    rw [hb]
    rfl
theorem g_laws_eqIntS (a0 : List Int) (b1 : List Int) (kk : AV → List A1 → Prop) :
    ev TT cs_laws_eqIntS 26 an_laws_eqIntS (Try.f18.body.getD .skip) (st0 con_laws_eqIntS [.c (.ro .int a0), .c (.ro .int b1)]) (fin TT con_laws_eqIntS Try.f18.results.toList [.c .sc] [.c (.ro .int a0), .c (.ro .int b1)] kk) = G_laws_eqIntS a0 b1 (fun r0 => kk (.one (.c (.v (.bool r0)))) []) (fun a0 b1 xi5 => ∃ j, iter (evF TT cs_laws_eqIntS 26 an_laws_eqIntS Try.f18 [1, 1, 0, 1, 0, 0]) nm0_laws_eqIntS (kt0_laws_eqIntS (fin_laws_eqIntS a0 b1 kk)) j (can0_laws_eqIntS a0 b1 xi5)) := by kernel_rfl
theorem e_laws_eqIntS (a0 : List Int) (b1 : List Int) (kk : AV → List A1 → Prop) :
    ev TT cs_laws_eqIntS 26 an_laws_eqIntS (Try.f18.body.getD .skip) (st0 con_laws_eqIntS [.c (.ro .int a0), .c (.ro .int b1)]) (fin TT con_laws_eqIntS Try.f18.results.toList [.c .sc] [.c (.ro .int a0), .c (.ro .int b1)] kk) = S_laws_eqIntS a0 b1 (fun r0 => kk (.one (.c (.v (.bool r0)))) []) := by
  rw [g_laws_eqIntS]
  have hi0 : (fun a0 b1 xi5 => ∃ j, iter (evF TT cs_laws_eqIntS 26 an_laws_eqIntS Try.f18 [1, 1, 0, 1, 0, 0]) nm0_laws_eqIntS (kt0_laws_eqIntS (fin_laws_eqIntS a0 b1 kk)) j (can0_laws_eqIntS a0 b1 xi5)) = (fun a0 b1 xi5 => ∃ j, L0_laws_eqIntS a0 b1 (fun r0 => kk (.one (.c (.v (.bool r0)))) []) j xi5) := by
    funext a0 b1 xi5
    refine congrArg Exists (funext fun j => ?_)
    rw [l0_laws_eqIntS a0 b1 kk j xi5]
  rw [hi0]
  rfl
theorem clok_laws_eqIntS : ConOK Try.prog cl_laws_eqIntS := consNil
theorem cok_laws_eqIntS : ConsOK Try.prog 26 cs_laws_eqIntS := ⟨clok_laws_eqIntS, inlNil⟩
theorem i_laws_eqIntS {vs : List A1} {kk : AV → List A1 → Prop} {motive : List A1 → Prop} (h : con_laws_eqIntS.F vs kk) (H : ∀ (a0 : List Int) (b1 : List Int), F_laws_eqIntS a0 b1 (fun r0 => kk (.one (.c (.v (.bool r0)))) []) → motive [.c (.ro .int a0), .c (.ro .int b1)]) : motive vs := by
  unfold con_laws_eqIntS at h
  dsimp only at h
  split at h
  · exact H _ _ h
  · exact h.elim
theorem h_laws_eqIntS : Holds Try.prog 18 con_laws_eqIntS := by
  refine holds_of_ev (rt := [.c .sc]) (T := TT) (Γ := cs_laws_eqIntS) (an := an_laws_eqIntS) (N := 26) (c := Try.f18.body.getD .skip) Try.func18 (by kernel_rfl) Try.ntmps18 (by decide) (by decide) mixed tabOK cok_laws_eqIntS (by kernel_rfl) ?_
  intro vs kk _ hF
  exact i_laws_eqIntS (motive := fun vs => Goes (ev TT cs_laws_eqIntS 26 an_laws_eqIntS (Try.f18.body.getD .skip) (st0 con_laws_eqIntS vs) (fin TT con_laws_eqIntS Try.f18.results.toList [.c .sc] vs kk))) hF (fun a0 b1 hF => goes_of (e_laws_eqIntS a0 b1 kk) (F_laws_eqIntS_S hF))
def con_laws_FnExactRoomFor : Con := ⟨[.rd, .rd], true, [.c (.sl .int), .c (.sc)], fun vs k => match vs with
    | [.c (.ro .int aT0), .c (.v (.int .i64 aHits1))] => F_laws_FnExactRoomFor aT0 aHits1 (fun r0 => k (.one (.c (.v (.bool r0)))) [])
    | _ => False, false⟩
def cl_laws_FnExactRoomFor : List (FuncId × Con) := [(16, con_laws_toIntS), (18, con_laws_eqIntS), (21, con_spec_RoomFor), (22, con_impl_RoomFor)]
def an_laws_FnExactRoomFor : Ann := ⟨[], [], []⟩
def cs_laws_FnExactRoomFor : Cons := ⟨cl_laws_FnExactRoomFor, [], 0, [], []⟩
def fin_laws_FnExactRoomFor (aT0 : List Int) (aHits1 : Int) (kk : AV → List A1 → Prop) : Kt := fin TT con_laws_FnExactRoomFor Try.f4.results.toList [.c .sc] [.c (.ro .int aT0), .c (.v (.int .i64 aHits1))] kk
theorem g_laws_FnExactRoomFor (aT0 : List Int) (aHits1 : Int) (kk : AV → List A1 → Prop) :
    ev TT cs_laws_FnExactRoomFor 28 an_laws_FnExactRoomFor (Try.f4.body.getD .skip) (st0 con_laws_FnExactRoomFor [.c (.ro .int aT0), .c (.v (.int .i64 aHits1))]) (fin TT con_laws_FnExactRoomFor Try.f4.results.toList [.c .sc] [.c (.ro .int aT0), .c (.v (.int .i64 aHits1))] kk) = G_laws_FnExactRoomFor aT0 aHits1 (fun r0 => kk (.one (.c (.v (.bool r0)))) []) := by kernel_rfl
theorem e_laws_FnExactRoomFor (aT0 : List Int) (aHits1 : Int) (kk : AV → List A1 → Prop) :
    ev TT cs_laws_FnExactRoomFor 28 an_laws_FnExactRoomFor (Try.f4.body.getD .skip) (st0 con_laws_FnExactRoomFor [.c (.ro .int aT0), .c (.v (.int .i64 aHits1))]) (fin TT con_laws_FnExactRoomFor Try.f4.results.toList [.c .sc] [.c (.ro .int aT0), .c (.v (.int .i64 aHits1))] kk) = S_laws_FnExactRoomFor aT0 aHits1 (fun r0 => kk (.one (.c (.v (.bool r0)))) []) := by
  rw [g_laws_FnExactRoomFor]
  rfl
theorem clok_laws_FnExactRoomFor : ConOK Try.prog cl_laws_FnExactRoomFor := consCons h_laws_toIntS ⟨Try.f16, Try.func16, by kernel_rfl, ne_of_beq (by kernel_rfl)⟩ (consCons h_laws_eqIntS ⟨Try.f18, Try.func18, by kernel_rfl, ne_of_beq (by kernel_rfl)⟩ (consCons h_spec_RoomFor ⟨Try.f21, Try.func21, by kernel_rfl, ne_of_beq (by kernel_rfl)⟩ (consCons h_impl_RoomFor ⟨Try.f22, Try.func22, by kernel_rfl, ne_of_beq (by kernel_rfl)⟩ (consNil))))
theorem cok_laws_FnExactRoomFor : ConsOK Try.prog 28 cs_laws_FnExactRoomFor := ⟨clok_laws_FnExactRoomFor, inlNil⟩
theorem i_laws_FnExactRoomFor {vs : List A1} {kk : AV → List A1 → Prop} {motive : List A1 → Prop} (h : con_laws_FnExactRoomFor.F vs kk) (H : ∀ (aT0 : List Int) (aHits1 : Int), F_laws_FnExactRoomFor aT0 aHits1 (fun r0 => kk (.one (.c (.v (.bool r0)))) []) → motive [.c (.ro .int aT0), .c (.v (.int .i64 aHits1))]) : motive vs := by
  unfold con_laws_FnExactRoomFor at h
  dsimp only at h
  split at h
  · exact H _ _ h
  · exact h.elim
theorem h_laws_FnExactRoomFor : Holds Try.prog 4 con_laws_FnExactRoomFor := by
  refine holds_of_ev (rt := [.c .sc]) (T := TT) (Γ := cs_laws_FnExactRoomFor) (an := an_laws_FnExactRoomFor) (N := 28) (c := Try.f4.body.getD .skip) Try.func4 (by kernel_rfl) Try.ntmps4 (by decide) (by decide) mixed tabOK cok_laws_FnExactRoomFor (by kernel_rfl) ?_
  intro vs kk _ hF
  exact i_laws_FnExactRoomFor (motive := fun vs => Goes (ev TT cs_laws_FnExactRoomFor 28 an_laws_FnExactRoomFor (Try.f4.body.getD .skip) (st0 con_laws_FnExactRoomFor vs) (fin TT con_laws_FnExactRoomFor Try.f4.results.toList [.c .sc] vs kk))) hF (fun aT0 aHits1 hF => goes_of (e_laws_FnExactRoomFor aT0 aHits1 kk) (F_laws_FnExactRoomFor_S hF))
end Go.Ev
