/- What the evaluator gives for these functions: their contracts. No statement is proved here. -/
import Derived.Test.YtlobdkcjlpifjaeFnExactRunFirstP1
import Derived.Test.YtlobdkcjlpifjaeTt
namespace Go.Ev
set_option linter.unusedVariables false
set_option maxRecDepth 100000
open Go Go.Proofs
def con_laws_toIntS : Con := ⟨[.rd], true, [.c (.sl .int)], fun vs k => match vs with
    | [.c (.ro .int a0)] => F_laws_toIntS a0 (fun r0 => k (.one (.c (.ro .int r0))) [])
    | _ => False, false⟩
def cl_laws_toIntS : List (FuncId × Con) := []
def nm0_laws_toIntS : List NStep := [.keep [0, 3, 4] [112]]
def an_laws_toIntS : Ann := ⟨[], [(3, nm0_laws_toIntS)], []⟩
def cs_laws_toIntS : Cons := ⟨cl_laws_toIntS, [], 0, [], []⟩
def can0_laws_toIntS (a0 : List Int) (xi4 : Int) (xy7 : List Int) : St := ⟨[(0, .one (.c (.ro .int a0))), (3, .one (.c (.ow 112))), (4, .one (.c (.v (.int .i64 xi4))))], [(112, .row .int xy7)]⟩
def fin_laws_toIntS (a0 : List Int) (kk : AV → List A1 → Prop) : Kt := fin TT con_laws_toIntS Try.f16.results.toList [.c (.sl .int)] [.c (.ro .int a0)] kk
def kt0_laws_toIntS (kf : Kt) : Kt := blockK 0 (seqK (evF TT cs_laws_toIntS 22 an_laws_toIntS Try.f16 [1, 1, 1]) (kf))
theorem r0_laws_toIntS (a0 : List Int) (kk : AV → List A1 → Prop) (n : Nat) (xi4 : Int) (xy7 : List Int) :
    iter (evF TT cs_laws_toIntS 22 an_laws_toIntS Try.f16 [1, 1, 0, 1, 0, 0]) nm0_laws_toIntS (kt0_laws_toIntS (fin_laws_toIntS a0 kk)) (n + 1) (can0_laws_toIntS a0 xi4 xy7) = T0_laws_toIntS a0 xi4 xy7 (fun r0 => kk (.one (.c (.ro .int r0))) []) (fun xi4 xy7 => iter (evF TT cs_laws_toIntS 22 an_laws_toIntS Try.f16 [1, 1, 0, 1, 0, 0]) nm0_laws_toIntS (kt0_laws_toIntS (fin_laws_toIntS a0 kk)) n (can0_laws_toIntS a0 xi4 xy7)) := by kernel_rfl
theorem l0_laws_toIntS (a0 : List Int) (kk : AV → List A1 → Prop) : ∀ (n : Nat) (xi4 : Int) (xy7 : List Int), iter (evF TT cs_laws_toIntS 22 an_laws_toIntS Try.f16 [1, 1, 0, 1, 0, 0]) nm0_laws_toIntS (kt0_laws_toIntS (fin_laws_toIntS a0 kk)) n (can0_laws_toIntS a0 xi4 xy7) = L0_laws_toIntS a0 (fun r0 => kk (.one (.c (.ro .int r0))) []) n xi4 xy7 := by
  intro n
  induction n with
  | zero => intros; rfl
  | succ n ih =>
    intro xi4 xy7
    rw [r0_laws_toIntS a0 kk n xi4 xy7]
    have hb : (fun xi4 xy7 => iter (evF TT cs_laws_toIntS 22 an_laws_toIntS Try.f16 [1, 1, 0, 1, 0, 0]) nm0_laws_toIntS (kt0_laws_toIntS (fin_laws_toIntS a0 kk)) n (can0_laws_toIntS a0 xi4 xy7)) = L0_laws_toIntS a0 (fun r0 => kk (.one (.c (.ro .int r0))) []) n := by
      funext xi4 xy7; exact ih xi4 xy7
    rw [hb]
    rfl
theorem g_laws_toIntS (a0 : List Int) (kk : AV → List A1 → Prop) :
    ev TT cs_laws_toIntS 22 an_laws_toIntS (Try.f16.body.getD .skip) (st0 con_laws_toIntS [.c (.ro .int a0)]) (fin TT con_laws_toIntS Try.f16.results.toList [.c (.sl .int)] [.c (.ro .int a0)] kk) = G_laws_toIntS a0 (fun a0 xi4 xy7 => ∃ j, iter (evF TT cs_laws_toIntS 22 an_laws_toIntS Try.f16 [1, 1, 0, 1, 0, 0]) nm0_laws_toIntS (kt0_laws_toIntS (fin_laws_toIntS a0 kk)) j (can0_laws_toIntS a0 xi4 xy7)) := by kernel_rfl
theorem e_laws_toIntS (a0 : List Int) (kk : AV → List A1 → Prop) :
    ev TT cs_laws_toIntS 22 an_laws_toIntS (Try.f16.body.getD .skip) (st0 con_laws_toIntS [.c (.ro .int a0)]) (fin TT con_laws_toIntS Try.f16.results.toList [.c (.sl .int)] [.c (.ro .int a0)] kk) = S_laws_toIntS a0 (fun r0 => kk (.one (.c (.ro .int r0))) []) := by
  rw [g_laws_toIntS]
  have hi0 : (fun a0 xi4 xy7 => ∃ j, iter (evF TT cs_laws_toIntS 22 an_laws_toIntS Try.f16 [1, 1, 0, 1, 0, 0]) nm0_laws_toIntS (kt0_laws_toIntS (fin_laws_toIntS a0 kk)) j (can0_laws_toIntS a0 xi4 xy7)) = (fun a0 xi4 xy7 => ∃ j, L0_laws_toIntS a0 (fun r0 => kk (.one (.c (.ro .int r0))) []) j xi4 xy7) := by
    funext a0 xi4 xy7
    refine congrArg Exists (funext fun j => ?_)
    rw [l0_laws_toIntS a0 kk j xi4 xy7]
  rw [hi0]
  rfl
theorem clok_laws_toIntS : ConOK Try.prog cl_laws_toIntS := consNil
theorem cok_laws_toIntS : ConsOK Try.prog 22 cs_laws_toIntS := ⟨clok_laws_toIntS, inlNil⟩
theorem i_laws_toIntS {vs : List A1} {kk : AV → List A1 → Prop} {motive : List A1 → Prop} (h : con_laws_toIntS.F vs kk) (H : ∀ (a0 : List Int), F_laws_toIntS a0 (fun r0 => kk (.one (.c (.ro .int r0))) []) → motive [.c (.ro .int a0)]) : motive vs := by
  unfold con_laws_toIntS at h
  dsimp only at h
  split at h
  · exact H _ h
  · exact h.elim
theorem h_laws_toIntS : Holds Try.prog 16 con_laws_toIntS := by
  refine holds_of_ev (rt := [.c (.sl .int)]) (T := TT) (Γ := cs_laws_toIntS) (an := an_laws_toIntS) (N := 22) (c := Try.f16.body.getD .skip) Try.func16 (by kernel_rfl) Try.ntmps16 (by decide) (by decide) mixed tabOK cok_laws_toIntS (by kernel_rfl) ?_
  intro vs kk _ hF
  exact i_laws_toIntS (motive := fun vs => Goes (ev TT cs_laws_toIntS 22 an_laws_toIntS (Try.f16.body.getD .skip) (st0 con_laws_toIntS vs) (fin TT con_laws_toIntS Try.f16.results.toList [.c (.sl .int)] vs kk))) hF (fun a0 hF => goes_of (e_laws_toIntS a0 kk) (F_laws_toIntS_S hF))
def con_spec_inRange : Con := ⟨[.rd, .rd, .rd], true, [.c (.sc), .c (.sc), .c (.sc)], fun vs k => match vs with
    | [.c (.v (.int .i64 n0)), .c (.v (.int .i64 low1)), .c (.v (.int .i64 high2))] => F_spec_inRange n0 low1 high2 (fun r0 => k (.one (.c (.v (.bool r0)))) [])
    | _ => False, false⟩
def cl_spec_inRange : List (FuncId × Con) := []
def an_spec_inRange : Ann := ⟨[], [], []⟩
def cs_spec_inRange : Cons := ⟨cl_spec_inRange, [], 0, [], []⟩
def fin_spec_inRange (n0 : Int) (low1 : Int) (high2 : Int) (kk : AV → List A1 → Prop) : Kt := fin TT con_spec_inRange Try.f42.results.toList [.c .sc] [.c (.v (.int .i64 n0)), .c (.v (.int .i64 low1)), .c (.v (.int .i64 high2))] kk
theorem g_spec_inRange (n0 : Int) (low1 : Int) (high2 : Int) (kk : AV → List A1 → Prop) :
    ev TT cs_spec_inRange 15 an_spec_inRange (Try.f42.body.getD .skip) (st0 con_spec_inRange [.c (.v (.int .i64 n0)), .c (.v (.int .i64 low1)), .c (.v (.int .i64 high2))]) (fin TT con_spec_inRange Try.f42.results.toList [.c .sc] [.c (.v (.int .i64 n0)), .c (.v (.int .i64 low1)), .c (.v (.int .i64 high2))] kk) = G_spec_inRange n0 low1 high2 (fun r0 => kk (.one (.c (.v (.bool r0)))) []) := by kernel_rfl
theorem e_spec_inRange (n0 : Int) (low1 : Int) (high2 : Int) (kk : AV → List A1 → Prop) :
    ev TT cs_spec_inRange 15 an_spec_inRange (Try.f42.body.getD .skip) (st0 con_spec_inRange [.c (.v (.int .i64 n0)), .c (.v (.int .i64 low1)), .c (.v (.int .i64 high2))]) (fin TT con_spec_inRange Try.f42.results.toList [.c .sc] [.c (.v (.int .i64 n0)), .c (.v (.int .i64 low1)), .c (.v (.int .i64 high2))] kk) = S_spec_inRange n0 low1 high2 (fun r0 => kk (.one (.c (.v (.bool r0)))) []) := by
  rw [g_spec_inRange]
  rfl
theorem clok_spec_inRange : ConOK Try.prog cl_spec_inRange := consNil
theorem cok_spec_inRange : ConsOK Try.prog 15 cs_spec_inRange := ⟨clok_spec_inRange, inlNil⟩
theorem i_spec_inRange {vs : List A1} {kk : AV → List A1 → Prop} {motive : List A1 → Prop} (h : con_spec_inRange.F vs kk) (H : ∀ (n0 : Int) (low1 : Int) (high2 : Int), F_spec_inRange n0 low1 high2 (fun r0 => kk (.one (.c (.v (.bool r0)))) []) → motive [.c (.v (.int .i64 n0)), .c (.v (.int .i64 low1)), .c (.v (.int .i64 high2))]) : motive vs := by
  unfold con_spec_inRange at h
  dsimp only at h
  split at h
  · exact H _ _ _ h
  · exact h.elim
theorem h_spec_inRange : Holds Try.prog 42 con_spec_inRange := by
  refine holds_of_ev (rt := [.c .sc]) (T := TT) (Γ := cs_spec_inRange) (an := an_spec_inRange) (N := 15) (c := Try.f42.body.getD .skip) Try.func42 (by kernel_rfl) Try.ntmps42 (by decide) (by decide) mixed tabOK cok_spec_inRange (by kernel_rfl) ?_
  intro vs kk _ hF
  exact i_spec_inRange (motive := fun vs => Goes (ev TT cs_spec_inRange 15 an_spec_inRange (Try.f42.body.getD .skip) (st0 con_spec_inRange vs) (fin TT con_spec_inRange Try.f42.results.toList [.c .sc] vs kk))) hF (fun n0 low1 high2 hF => goes_of (e_spec_inRange n0 low1 high2 kk) (F_spec_inRange_S hF))
def con_spec_allIn : Con := ⟨[.rd, .rd, .rd], true, [.c (.sl .int), .c (.sc), .c (.sc)], fun vs k => match vs with
    | [.c (.ro .int list0), .c (.v (.int .i64 low1)), .c (.v (.int .i64 high2))] => F_spec_allIn list0 low1 high2 (fun r0 => k (.one (.c (.v (.bool r0)))) [])
    | _ => False, false⟩
def cl_spec_allIn : List (FuncId × Con) := [(42, con_spec_inRange)]
def nm0_spec_allIn : List NStep := [.keep [0, 1, 2, 7] []]
def an_spec_allIn : Ann := ⟨[], [(2, nm0_spec_allIn)], []⟩
def cs_spec_allIn : Cons := ⟨cl_spec_allIn, [], 0, [], []⟩
def can0_spec_allIn (high2 : Int) (list0 : List Int) (low1 : Int) (xi7 : Int) : St := ⟨[(0, .one (.c (.ro .int list0))), (1, .one (.c (.v (.int .i64 low1)))), (2, .one (.c (.v (.int .i64 high2)))), (7, .one (.c (.v (.int .i64 xi7))))], []⟩
def fin_spec_allIn (list0 : List Int) (low1 : Int) (high2 : Int) (kk : AV → List A1 → Prop) : Kt := fin TT con_spec_allIn Try.f68.results.toList [.c .sc] [.c (.ro .int list0), .c (.v (.int .i64 low1)), .c (.v (.int .i64 high2))] kk
def kt0_spec_allIn (kf : Kt) : Kt := blockK 0 (seqK (evF TT cs_spec_allIn 22 an_spec_allIn Try.f68 [1, 1]) (kf))
theorem r0_spec_allIn (list0 : List Int) (low1 : Int) (high2 : Int) (kk : AV → List A1 → Prop) (n : Nat) (xi7 : Int) :
    iter (evF TT cs_spec_allIn 22 an_spec_allIn Try.f68 [1, 0, 1, 0, 0]) nm0_spec_allIn (kt0_spec_allIn (fin_spec_allIn list0 low1 high2 kk)) (n + 1) (can0_spec_allIn high2 list0 low1 xi7) = T0_spec_allIn high2 list0 low1 xi7 (fun r0 => kk (.one (.c (.v (.bool r0)))) []) (fun xi7 => iter (evF TT cs_spec_allIn 22 an_spec_allIn Try.f68 [1, 0, 1, 0, 0]) nm0_spec_allIn (kt0_spec_allIn (fin_spec_allIn list0 low1 high2 kk)) n (can0_spec_allIn high2 list0 low1 xi7)) := by kernel_rfl
theorem l0_spec_allIn (list0 : List Int) (low1 : Int) (high2 : Int) (kk : AV → List A1 → Prop) : ∀ (n : Nat) (xi7 : Int), iter (evF TT cs_spec_allIn 22 an_spec_allIn Try.f68 [1, 0, 1, 0, 0]) nm0_spec_allIn (kt0_spec_allIn (fin_spec_allIn list0 low1 high2 kk)) n (can0_spec_allIn high2 list0 low1 xi7) = L0_spec_allIn high2 list0 low1 (fun r0 => kk (.one (.c (.v (.bool r0)))) []) n xi7 := by
  intro n
  induction n with
  | zero => intros; rfl
  | succ n ih =>
    intro xi7
    rw [r0_spec_allIn list0 low1 high2 kk n xi7]
    have hb : (fun xi7 => iter (evF TT cs_spec_allIn 22 an_spec_allIn Try.f68 [1, 0, 1, 0, 0]) nm0_spec_allIn (kt0_spec_allIn (fin_spec_allIn list0 low1 high2 kk)) n (can0_spec_allIn high2 list0 low1 xi7)) = L0_spec_allIn high2 list0 low1 (fun r0 => kk (.one (.c (.v (.bool r0)))) []) n := by
      funext xi7; exact ih xi7
    rw [hb]
    rfl
theorem g_spec_allIn (list0 : List Int) (low1 : Int) (high2 : Int) (kk : AV → List A1 → Prop) :
    ev TT cs_spec_allIn 22 an_spec_allIn (Try.f68.body.getD .skip) (st0 con_spec_allIn [.c (.ro .int list0), .c (.v (.int .i64 low1)), .c (.v (.int .i64 high2))]) (fin TT con_spec_allIn Try.f68.results.toList [.c .sc] [.c (.ro .int list0), .c (.v (.int .i64 low1)), .c (.v (.int .i64 high2))] kk) = G_spec_allIn list0 low1 high2 (fun high2 list0 low1 xi7 => ∃ j, iter (evF TT cs_spec_allIn 22 an_spec_allIn Try.f68 [1, 0, 1, 0, 0]) nm0_spec_allIn (kt0_spec_allIn (fin_spec_allIn list0 low1 high2 kk)) j (can0_spec_allIn high2 list0 low1 xi7)) := by kernel_rfl
theorem e_spec_allIn (list0 : List Int) (low1 : Int) (high2 : Int) (kk : AV → List A1 → Prop) :
    ev TT cs_spec_allIn 22 an_spec_allIn (Try.f68.body.getD .skip) (st0 con_spec_allIn [.c (.ro .int list0), .c (.v (.int .i64 low1)), .c (.v (.int .i64 high2))]) (fin TT con_spec_allIn Try.f68.results.toList [.c .sc] [.c (.ro .int list0), .c (.v (.int .i64 low1)), .c (.v (.int .i64 high2))] kk) = S_spec_allIn list0 low1 high2 (fun r0 => kk (.one (.c (.v (.bool r0)))) []) := by
  rw [g_spec_allIn]
  have hi0 : (fun high2 list0 low1 xi7 => ∃ j, iter (evF TT cs_spec_allIn 22 an_spec_allIn Try.f68 [1, 0, 1, 0, 0]) nm0_spec_allIn (kt0_spec_allIn (fin_spec_allIn list0 low1 high2 kk)) j (can0_spec_allIn high2 list0 low1 xi7)) = (fun high2 list0 low1 xi7 => ∃ j, L0_spec_allIn high2 list0 low1 (fun r0 => kk (.one (.c (.v (.bool r0)))) []) j xi7) := by
    funext high2 list0 low1 xi7
    refine congrArg Exists (funext fun j => ?_)
    rw [l0_spec_allIn list0 low1 high2 kk j xi7]
  rw [hi0]
  rfl
theorem clok_spec_allIn : ConOK Try.prog cl_spec_allIn := consCons h_spec_inRange ⟨Try.f42, Try.func42, by kernel_rfl, ne_of_beq (by kernel_rfl)⟩ (consNil)
theorem cok_spec_allIn : ConsOK Try.prog 22 cs_spec_allIn := ⟨clok_spec_allIn, inlNil⟩
theorem i_spec_allIn {vs : List A1} {kk : AV → List A1 → Prop} {motive : List A1 → Prop} (h : con_spec_allIn.F vs kk) (H : ∀ (list0 : List Int) (low1 : Int) (high2 : Int), F_spec_allIn list0 low1 high2 (fun r0 => kk (.one (.c (.v (.bool r0)))) []) → motive [.c (.ro .int list0), .c (.v (.int .i64 low1)), .c (.v (.int .i64 high2))]) : motive vs := by
  unfold con_spec_allIn at h
  dsimp only at h
  split at h
  · exact H _ _ _ h
  · exact h.elim
theorem h_spec_allIn : Holds Try.prog 68 con_spec_allIn := by
  refine holds_of_ev (rt := [.c .sc]) (T := TT) (Γ := cs_spec_allIn) (an := an_spec_allIn) (N := 22) (c := Try.f68.body.getD .skip) Try.func68 (by kernel_rfl) Try.ntmps68 (by decide) (by decide) mixed tabOK cok_spec_allIn (by kernel_rfl) ?_
  intro vs kk _ hF
  exact i_spec_allIn (motive := fun vs => Goes (ev TT cs_spec_allIn 22 an_spec_allIn (Try.f68.body.getD .skip) (st0 con_spec_allIn vs) (fin TT con_spec_allIn Try.f68.results.toList [.c .sc] vs kk))) hF (fun list0 low1 high2 hF => goes_of (e_spec_allIn list0 low1 high2 kk) (F_spec_allIn_S hF))
def con_spec_validTrace : Con := ⟨[.rd], true, [.c (.sl .int)], fun vs k => match vs with
    | [.c (.ro .int t0)] => F_spec_validTrace t0 (fun r0 => k (.one (.c (.v (.bool r0)))) [])
    | _ => False, false⟩
def cl_spec_validTrace : List (FuncId × Con) := [(68, con_spec_allIn)]
def an_spec_validTrace : Ann := ⟨[], [], []⟩
def cs_spec_validTrace : Cons := ⟨cl_spec_validTrace, [], 0, [], []⟩
def fin_spec_validTrace (t0 : List Int) (kk : AV → List A1 → Prop) : Kt := fin TT con_spec_validTrace Try.f49.results.toList [.c .sc] [.c (.ro .int t0)] kk
theorem g_spec_validTrace (t0 : List Int) (kk : AV → List A1 → Prop) :
    ev TT cs_spec_validTrace 10 an_spec_validTrace (Try.f49.body.getD .skip) (st0 con_spec_validTrace [.c (.ro .int t0)]) (fin TT con_spec_validTrace Try.f49.results.toList [.c .sc] [.c (.ro .int t0)] kk) = G_spec_validTrace t0 (fun r0 => kk (.one (.c (.v (.bool r0)))) []) := by kernel_rfl
theorem e_spec_validTrace (t0 : List Int) (kk : AV → List A1 → Prop) :
    ev TT cs_spec_validTrace 10 an_spec_validTrace (Try.f49.body.getD .skip) (st0 con_spec_validTrace [.c (.ro .int t0)]) (fin TT con_spec_validTrace Try.f49.results.toList [.c .sc] [.c (.ro .int t0)] kk) = S_spec_validTrace t0 (fun r0 => kk (.one (.c (.v (.bool r0)))) []) := by
  rw [g_spec_validTrace]
  rfl
theorem clok_spec_validTrace : ConOK Try.prog cl_spec_validTrace := consCons h_spec_allIn ⟨Try.f68, Try.func68, by kernel_rfl, ne_of_beq (by kernel_rfl)⟩ (consNil)
theorem cok_spec_validTrace : ConsOK Try.prog 10 cs_spec_validTrace := ⟨clok_spec_validTrace, inlNil⟩
theorem i_spec_validTrace {vs : List A1} {kk : AV → List A1 → Prop} {motive : List A1 → Prop} (h : con_spec_validTrace.F vs kk) (H : ∀ (t0 : List Int), F_spec_validTrace t0 (fun r0 => kk (.one (.c (.v (.bool r0)))) []) → motive [.c (.ro .int t0)]) : motive vs := by
  unfold con_spec_validTrace at h
  dsimp only at h
  split at h
  · exact H _ h
  · exact h.elim
theorem h_spec_validTrace : Holds Try.prog 49 con_spec_validTrace := by
  refine holds_of_ev (rt := [.c .sc]) (T := TT) (Γ := cs_spec_validTrace) (an := an_spec_validTrace) (N := 10) (c := Try.f49.body.getD .skip) Try.func49 (by kernel_rfl) Try.ntmps49 (by decide) (by decide) mixed tabOK cok_spec_validTrace (by kernel_rfl) ?_
  intro vs kk _ hF
  exact i_spec_validTrace (motive := fun vs => Goes (ev TT cs_spec_validTrace 10 an_spec_validTrace (Try.f49.body.getD .skip) (st0 con_spec_validTrace vs) (fin TT con_spec_validTrace Try.f49.results.toList [.c .sc] vs kk))) hF (fun t0 hF => goes_of (e_spec_validTrace t0 kk) (F_spec_validTrace_S hF))
def con_spec_placeOf : Con := ⟨[.rd, .rd], true, [.c (.sl .int), .c (.sc)], fun vs k => match vs with
    | [.c (.ro .int list0), .c (.v (.int .i64 n1))] => F_spec_placeOf list0 n1 (fun r0 => k (.one (.c (.v (.int .i64 r0)))) [])
    | _ => False, false⟩
def cl_spec_placeOf : List (FuncId × Con) := []
def nm0_spec_placeOf : List NStep := [.keep [0, 1, 5] []]
def an_spec_placeOf : Ann := ⟨[], [(2, nm0_spec_placeOf)], []⟩
def cs_spec_placeOf : Cons := ⟨cl_spec_placeOf, [], 0, [], []⟩
def can0_spec_placeOf (list0 : List Int) (n1 : Int) (xi5 : Int) : St := ⟨[(0, .one (.c (.ro .int list0))), (1, .one (.c (.v (.int .i64 n1)))), (5, .one (.c (.v (.int .i64 xi5))))], []⟩
def fin_spec_placeOf (list0 : List Int) (n1 : Int) (kk : AV → List A1 → Prop) : Kt := fin TT con_spec_placeOf Try.f69.results.toList [.c .sc] [.c (.ro .int list0), .c (.v (.int .i64 n1))] kk
def kt0_spec_placeOf (kf : Kt) : Kt := blockK 0 (seqK (evF TT cs_spec_placeOf 19 an_spec_placeOf Try.f69 [1, 1]) (kf))
theorem r0_spec_placeOf (list0 : List Int) (n1 : Int) (kk : AV → List A1 → Prop) (n : Nat) (xi5 : Int) :
    iter (evF TT cs_spec_placeOf 19 an_spec_placeOf Try.f69 [1, 0, 1, 0, 0]) nm0_spec_placeOf (kt0_spec_placeOf (fin_spec_placeOf list0 n1 kk)) (n + 1) (can0_spec_placeOf list0 n1 xi5) = T0_spec_placeOf list0 n1 xi5 (fun r0 => kk (.one (.c (.v (.int .i64 r0)))) []) (fun xi5 => iter (evF TT cs_spec_placeOf 19 an_spec_placeOf Try.f69 [1, 0, 1, 0, 0]) nm0_spec_placeOf (kt0_spec_placeOf (fin_spec_placeOf list0 n1 kk)) n (can0_spec_placeOf list0 n1 xi5)) := by kernel_rfl
theorem l0_spec_placeOf (list0 : List Int) (n1 : Int) (kk : AV → List A1 → Prop) : ∀ (n : Nat) (xi5 : Int), iter (evF TT cs_spec_placeOf 19 an_spec_placeOf Try.f69 [1, 0, 1, 0, 0]) nm0_spec_placeOf (kt0_spec_placeOf (fin_spec_placeOf list0 n1 kk)) n (can0_spec_placeOf list0 n1 xi5) = L0_spec_placeOf list0 n1 (fun r0 => kk (.one (.c (.v (.int .i64 r0)))) []) n xi5 := by
  intro n
  induction n with
  | zero => intros; rfl
  | succ n ih =>
    intro xi5
    rw [r0_spec_placeOf list0 n1 kk n xi5]
    have hb : (fun xi5 => iter (evF TT cs_spec_placeOf 19 an_spec_placeOf Try.f69 [1, 0, 1, 0, 0]) nm0_spec_placeOf (kt0_spec_placeOf (fin_spec_placeOf list0 n1 kk)) n (can0_spec_placeOf list0 n1 xi5)) = L0_spec_placeOf list0 n1 (fun r0 => kk (.one (.c (.v (.int .i64 r0)))) []) n := by
      funext xi5; exact ih xi5
    rw [hb]
    rfl
theorem g_spec_placeOf (list0 : List Int) (n1 : Int) (kk : AV → List A1 → Prop) :
    ev TT cs_spec_placeOf 19 an_spec_placeOf (Try.f69.body.getD .skip) (st0 con_spec_placeOf [.c (.ro .int list0), .c (.v (.int .i64 n1))]) (fin TT con_spec_placeOf Try.f69.results.toList [.c .sc] [.c (.ro .int list0), .c (.v (.int .i64 n1))] kk) = G_spec_placeOf list0 n1 (fun list0 n1 xi5 => ∃ j, iter (evF TT cs_spec_placeOf 19 an_spec_placeOf Try.f69 [1, 0, 1, 0, 0]) nm0_spec_placeOf (kt0_spec_placeOf (fin_spec_placeOf list0 n1 kk)) j (can0_spec_placeOf list0 n1 xi5)) := by kernel_rfl
theorem e_spec_placeOf (list0 : List Int) (n1 : Int) (kk : AV → List A1 → Prop) :
    ev TT cs_spec_placeOf 19 an_spec_placeOf (Try.f69.body.getD .skip) (st0 con_spec_placeOf [.c (.ro .int list0), .c (.v (.int .i64 n1))]) (fin TT con_spec_placeOf Try.f69.results.toList [.c .sc] [.c (.ro .int list0), .c (.v (.int .i64 n1))] kk) = S_spec_placeOf list0 n1 (fun r0 => kk (.one (.c (.v (.int .i64 r0)))) []) := by
  rw [g_spec_placeOf]
  have hi0 : (fun list0 n1 xi5 => ∃ j, iter (evF TT cs_spec_placeOf 19 an_spec_placeOf Try.f69 [1, 0, 1, 0, 0]) nm0_spec_placeOf (kt0_spec_placeOf (fin_spec_placeOf list0 n1 kk)) j (can0_spec_placeOf list0 n1 xi5)) = (fun list0 n1 xi5 => ∃ j, L0_spec_placeOf list0 n1 (fun r0 => kk (.one (.c (.v (.int .i64 r0)))) []) j xi5) := by
    funext list0 n1 xi5
    refine congrArg Exists (funext fun j => ?_)
    rw [l0_spec_placeOf list0 n1 kk j xi5]
  rw [hi0]
  rfl
theorem clok_spec_placeOf : ConOK Try.prog cl_spec_placeOf := consNil
theorem cok_spec_placeOf : ConsOK Try.prog 19 cs_spec_placeOf := ⟨clok_spec_placeOf, inlNil⟩
theorem i_spec_placeOf {vs : List A1} {kk : AV → List A1 → Prop} {motive : List A1 → Prop} (h : con_spec_placeOf.F vs kk) (H : ∀ (list0 : List Int) (n1 : Int), F_spec_placeOf list0 n1 (fun r0 => kk (.one (.c (.v (.int .i64 r0)))) []) → motive [.c (.ro .int list0), .c (.v (.int .i64 n1))]) : motive vs := by
  unfold con_spec_placeOf at h
  dsimp only at h
  split at h
  · exact H _ _ h
  · exact h.elim
theorem h_spec_placeOf : Holds Try.prog 69 con_spec_placeOf := by
  refine holds_of_ev (rt := [.c .sc]) (T := TT) (Γ := cs_spec_placeOf) (an := an_spec_placeOf) (N := 19) (c := Try.f69.body.getD .skip) Try.func69 (by kernel_rfl) Try.ntmps69 (by decide) (by decide) mixed tabOK cok_spec_placeOf (by kernel_rfl) ?_
  intro vs kk _ hF
  exact i_spec_placeOf (motive := fun vs => Goes (ev TT cs_spec_placeOf 19 an_spec_placeOf (Try.f69.body.getD .skip) (st0 con_spec_placeOf vs) (fin TT con_spec_placeOf Try.f69.results.toList [.c .sc] vs kk))) hF (fun list0 n1 hF => goes_of (e_spec_placeOf list0 n1 kk) (F_spec_placeOf_S hF))
def con_spec_isIn : Con := ⟨[.rd, .rd], true, [.c (.sl .int), .c (.sc)], fun vs k => match vs with
    | [.c (.ro .int list0), .c (.v (.int .i64 n1))] => F_spec_isIn list0 n1 (fun r0 => k (.one (.c (.v (.bool r0)))) [])
    | _ => False, false⟩
def cl_spec_isIn : List (FuncId × Con) := [(69, con_spec_placeOf)]
def an_spec_isIn : Ann := ⟨[], [], []⟩
def cs_spec_isIn : Cons := ⟨cl_spec_isIn, [], 0, [], []⟩
def fin_spec_isIn (list0 : List Int) (n1 : Int) (kk : AV → List A1 → Prop) : Kt := fin TT con_spec_isIn Try.f76.results.toList [.c .sc] [.c (.ro .int list0), .c (.v (.int .i64 n1))] kk
theorem g_spec_isIn (list0 : List Int) (n1 : Int) (kk : AV → List A1 → Prop) :
    ev TT cs_spec_isIn 9 an_spec_isIn (Try.f76.body.getD .skip) (st0 con_spec_isIn [.c (.ro .int list0), .c (.v (.int .i64 n1))]) (fin TT con_spec_isIn Try.f76.results.toList [.c .sc] [.c (.ro .int list0), .c (.v (.int .i64 n1))] kk) = G_spec_isIn list0 n1 (fun r0 => kk (.one (.c (.v (.bool r0)))) []) := by kernel_rfl
theorem e_spec_isIn (list0 : List Int) (n1 : Int) (kk : AV → List A1 → Prop) :
    ev TT cs_spec_isIn 9 an_spec_isIn (Try.f76.body.getD .skip) (st0 con_spec_isIn [.c (.ro .int list0), .c (.v (.int .i64 n1))]) (fin TT con_spec_isIn Try.f76.results.toList [.c .sc] [.c (.ro .int list0), .c (.v (.int .i64 n1))] kk) = S_spec_isIn list0 n1 (fun r0 => kk (.one (.c (.v (.bool r0)))) []) := by
  rw [g_spec_isIn]
  rfl
theorem clok_spec_isIn : ConOK Try.prog cl_spec_isIn := consCons h_spec_placeOf ⟨Try.f69, Try.func69, by kernel_rfl, ne_of_beq (by kernel_rfl)⟩ (consNil)
theorem cok_spec_isIn : ConsOK Try.prog 9 cs_spec_isIn := ⟨clok_spec_isIn, inlNil⟩
theorem i_spec_isIn {vs : List A1} {kk : AV → List A1 → Prop} {motive : List A1 → Prop} (h : con_spec_isIn.F vs kk) (H : ∀ (list0 : List Int) (n1 : Int), F_spec_isIn list0 n1 (fun r0 => kk (.one (.c (.v (.bool r0)))) []) → motive [.c (.ro .int list0), .c (.v (.int .i64 n1))]) : motive vs := by
  unfold con_spec_isIn at h
  dsimp only at h
  split at h
  · exact H _ _ h
  · exact h.elim
theorem h_spec_isIn : Holds Try.prog 76 con_spec_isIn := by
  refine holds_of_ev (rt := [.c .sc]) (T := TT) (Γ := cs_spec_isIn) (an := an_spec_isIn) (N := 9) (c := Try.f76.body.getD .skip) Try.func76 (by kernel_rfl) Try.ntmps76 (by decide) (by decide) mixed tabOK cok_spec_isIn (by kernel_rfl) ?_
  intro vs kk _ hF
  exact i_spec_isIn (motive := fun vs => Goes (ev TT cs_spec_isIn 9 an_spec_isIn (Try.f76.body.getD .skip) (st0 con_spec_isIn vs) (fin TT con_spec_isIn Try.f76.results.toList [.c .sc] vs kk))) hF (fun list0 n1 hF => goes_of (e_spec_isIn list0 n1 kk) (F_spec_isIn_S hF))
def con_spec_first : Con := ⟨[.rd, .rd, .rd], false, [.c (.sl .int), .c (.sc), .c (.sc)], fun vs k => match vs with
    | [.c (.ro .int list0), .c (.v (.int .i64 room1)), .c (.v (.int .i64 key2))] => F_spec_first list0 room1 key2 (fun r0 r1 => k (.tup [.c (.ro .int r0), .c (.v (.bool r1))]) [])
    | _ => False, false⟩
def cl_spec_first : List (FuncId × Con) := [(76, con_spec_isIn)]
def an_spec_first : Ann := ⟨[], [], []⟩
def cs_spec_first : Cons := ⟨cl_spec_first, [], 0, [], []⟩
def fin_spec_first (list0 : List Int) (room1 : Int) (key2 : Int) (kk : AV → List A1 → Prop) : Kt := fin TT con_spec_first Try.f52.results.toList [.c (.sl .int), .c .sc] [.c (.ro .int list0), .c (.v (.int .i64 room1)), .c (.v (.int .i64 key2))] kk
theorem g_spec_first (list0 : List Int) (room1 : Int) (key2 : Int) (kk : AV → List A1 → Prop) :
    ev TT cs_spec_first 26 an_spec_first (Try.f52.body.getD .skip) (st0 con_spec_first [.c (.ro .int list0), .c (.v (.int .i64 room1)), .c (.v (.int .i64 key2))]) (fin TT con_spec_first Try.f52.results.toList [.c (.sl .int), .c .sc] [.c (.ro .int list0), .c (.v (.int .i64 room1)), .c (.v (.int .i64 key2))] kk) = G_spec_first list0 room1 key2 (fun r0 r1 => kk (.tup [.c (.ro .int r0), .c (.v (.bool r1))]) []) := by kernel_rfl
theorem e_spec_first (list0 : List Int) (room1 : Int) (key2 : Int) (kk : AV → List A1 → Prop) :
    ev TT cs_spec_first 26 an_spec_first (Try.f52.body.getD .skip) (st0 con_spec_first [.c (.ro .int list0), .c (.v (.int .i64 room1)), .c (.v (.int .i64 key2))]) (fin TT con_spec_first Try.f52.results.toList [.c (.sl .int), .c .sc] [.c (.ro .int list0), .c (.v (.int .i64 room1)), .c (.v (.int .i64 key2))] kk) = S_spec_first list0 room1 key2 (fun r0 r1 => kk (.tup [.c (.ro .int r0), .c (.v (.bool r1))]) []) := by
  rw [g_spec_first]
  rfl
theorem clok_spec_first : ConOK Try.prog cl_spec_first := consCons h_spec_isIn ⟨Try.f76, Try.func76, by kernel_rfl, ne_of_beq (by kernel_rfl)⟩ (consNil)
theorem cok_spec_first : ConsOK Try.prog 26 cs_spec_first := ⟨clok_spec_first, inlNil⟩
theorem i_spec_first {vs : List A1} {kk : AV → List A1 → Prop} {motive : List A1 → Prop} (h : con_spec_first.F vs kk) (H : ∀ (list0 : List Int) (room1 : Int) (key2 : Int), F_spec_first list0 room1 key2 (fun r0 r1 => kk (.tup [.c (.ro .int r0), .c (.v (.bool r1))]) []) → motive [.c (.ro .int list0), .c (.v (.int .i64 room1)), .c (.v (.int .i64 key2))]) : motive vs := by
  unfold con_spec_first at h
  dsimp only at h
  split at h
  · exact H _ _ _ h
  · exact h.elim
theorem h_spec_first : Holds Try.prog 52 con_spec_first := by
  refine holds_of_ev (rt := [.c (.sl .int), .c .sc]) (T := TT) (Γ := cs_spec_first) (an := an_spec_first) (N := 26) (c := Try.f52.body.getD .skip) Try.func52 (by kernel_rfl) Try.ntmps52 (by decide) (by decide) mixed tabOK cok_spec_first (by kernel_rfl) ?_
  intro vs kk _ hF
  exact i_spec_first (motive := fun vs => Goes (ev TT cs_spec_first 26 an_spec_first (Try.f52.body.getD .skip) (st0 con_spec_first vs) (fin TT con_spec_first Try.f52.results.toList [.c (.sl .int), .c .sc] vs kk))) hF (fun list0 room1 key2 hF => goes_of (e_spec_first list0 room1 key2 kk) (F_spec_first_S hF))
def con_spec_toInt : Con := ⟨[.rd], true, [.c (.sc)], fun vs k => match vs with
    | [.c (.v (.bool b0))] => F_spec_toInt b0 (fun r0 => k (.one (.c (.v (.int .i64 r0)))) [])
    | _ => False, false⟩
def cl_spec_toInt : List (FuncId × Con) := []
def an_spec_toInt : Ann := ⟨[], [], []⟩
def cs_spec_toInt : Cons := ⟨cl_spec_toInt, [], 0, [], []⟩
def fin_spec_toInt (b0 : Bool) (kk : AV → List A1 → Prop) : Kt := fin TT con_spec_toInt Try.f50.results.toList [.c .sc] [.c (.v (.bool b0))] kk
theorem g_spec_toInt (b0 : Bool) (kk : AV → List A1 → Prop) :
    ev TT cs_spec_toInt 4 an_spec_toInt (Try.f50.body.getD .skip) (st0 con_spec_toInt [.c (.v (.bool b0))]) (fin TT con_spec_toInt Try.f50.results.toList [.c .sc] [.c (.v (.bool b0))] kk) = G_spec_toInt b0 (fun r0 => kk (.one (.c (.v (.int .i64 r0)))) []) := by kernel_rfl
theorem e_spec_toInt (b0 : Bool) (kk : AV → List A1 → Prop) :
    ev TT cs_spec_toInt 4 an_spec_toInt (Try.f50.body.getD .skip) (st0 con_spec_toInt [.c (.v (.bool b0))]) (fin TT con_spec_toInt Try.f50.results.toList [.c .sc] [.c (.v (.bool b0))] kk) = S_spec_toInt b0 (fun r0 => kk (.one (.c (.v (.int .i64 r0)))) []) := by
  rw [g_spec_toInt]
  rfl
theorem clok_spec_toInt : ConOK Try.prog cl_spec_toInt := consNil
theorem cok_spec_toInt : ConsOK Try.prog 4 cs_spec_toInt := ⟨clok_spec_toInt, inlNil⟩
theorem i_spec_toInt {vs : List A1} {kk : AV → List A1 → Prop} {motive : List A1 → Prop} (h : con_spec_toInt.F vs kk) (H : ∀ (b0 : Bool), F_spec_toInt b0 (fun r0 => kk (.one (.c (.v (.int .i64 r0)))) []) → motive [.c (.v (.bool b0))]) : motive vs := by
  unfold con_spec_toInt at h
  dsimp only at h
  split at h
  · exact H _ h
  · exact h.elim
theorem h_spec_toInt : Holds Try.prog 50 con_spec_toInt := by
  refine holds_of_ev (rt := [.c .sc]) (T := TT) (Γ := cs_spec_toInt) (an := an_spec_toInt) (N := 4) (c := Try.f50.body.getD .skip) Try.func50 (by kernel_rfl) Try.ntmps50 (by decide) (by decide) mixed tabOK cok_spec_toInt (by kernel_rfl) ?_
  intro vs kk _ hF
  exact i_spec_toInt (motive := fun vs => Goes (ev TT cs_spec_toInt 4 an_spec_toInt (Try.f50.body.getD .skip) (st0 con_spec_toInt vs) (fin TT con_spec_toInt Try.f50.results.toList [.c .sc] vs kk))) hF (fun b0 hF => goes_of (e_spec_toInt b0 kk) (F_spec_toInt_S hF))
def con_spec_RunFirst : Con := ⟨[.rd, .rd], true, [.c (.sl .int), .c (.sc)], fun vs k => match vs with
    | [.c (.ro .int t0), .c (.v (.int .i64 room1))] => F_spec_RunFirst t0 room1 (fun r0 r1 => k (.tup [.c (.ro .int r0), .c (.v (.int .i64 r1))]) [])
    | _ => False, false⟩
def cl_spec_RunFirst : List (FuncId × Con) := [(42, con_spec_inRange), (49, con_spec_validTrace), (50, con_spec_toInt), (52, con_spec_first)]
def nm0_spec_RunFirst : List NStep := [.frz 6 .int, .keep [0, 1, 6, 7, 8] []]
def an_spec_RunFirst : Ann := ⟨[], [(6, nm0_spec_RunFirst)], []⟩
def cs_spec_RunFirst : Cons := ⟨cl_spec_RunFirst, [], 0, [], []⟩
def can0_spec_RunFirst (room1 : Int) (t0 : List Int) (xlist6 : List Int) (xn7 : Int) (xi8 : Int) : St := ⟨[(0, .one (.c (.ro .int t0))), (1, .one (.c (.v (.int .i64 room1)))), (6, .one (.c (.ro .int xlist6))), (7, .one (.c (.v (.int .i64 xn7)))), (8, .one (.c (.v (.int .i64 xi8))))], []⟩
def fin_spec_RunFirst (t0 : List Int) (room1 : Int) (kk : AV → List A1 → Prop) : Kt := fin TT con_spec_RunFirst Try.f25.results.toList [.c (.sl .int), .c .sc] [.c (.ro .int t0), .c (.v (.int .i64 room1))] kk
def kt0_spec_RunFirst (kf : Kt) : Kt := blockK 0 (seqK (evF TT cs_spec_RunFirst 43 an_spec_RunFirst Try.f25 [1, 1, 1, 1, 1]) (kf))
theorem r0_spec_RunFirst (t0 : List Int) (room1 : Int) (kk : AV → List A1 → Prop) (n : Nat) (xlist6 : List Int) (xn7 : Int) (xi8 : Int) :
    iter (evF TT cs_spec_RunFirst 43 an_spec_RunFirst Try.f25 [1, 1, 1, 1, 0, 1, 0, 0]) nm0_spec_RunFirst (kt0_spec_RunFirst (fin_spec_RunFirst t0 room1 kk)) (n + 1) (can0_spec_RunFirst room1 t0 xlist6 xn7 xi8) = T0_spec_RunFirst room1 t0 xlist6 xn7 xi8 (fun r0 r1 => kk (.tup [.c (.ro .int r0), .c (.v (.int .i64 r1))]) []) (fun xlist6 xn7 xi8 => iter (evF TT cs_spec_RunFirst 43 an_spec_RunFirst Try.f25 [1, 1, 1, 1, 0, 1, 0, 0]) nm0_spec_RunFirst (kt0_spec_RunFirst (fin_spec_RunFirst t0 room1 kk)) n (can0_spec_RunFirst room1 t0 xlist6 xn7 xi8)) := by kernel_rfl
theorem l0_spec_RunFirst (t0 : List Int) (room1 : Int) (kk : AV → List A1 → Prop) : ∀ (n : Nat) (xlist6 : List Int) (xn7 : Int) (xi8 : Int), iter (evF TT cs_spec_RunFirst 43 an_spec_RunFirst Try.f25 [1, 1, 1, 1, 0, 1, 0, 0]) nm0_spec_RunFirst (kt0_spec_RunFirst (fin_spec_RunFirst t0 room1 kk)) n (can0_spec_RunFirst room1 t0 xlist6 xn7 xi8) = L0_spec_RunFirst room1 t0 (fun r0 r1 => kk (.tup [.c (.ro .int r0), .c (.v (.int .i64 r1))]) []) n xlist6 xn7 xi8 := by
  intro n
  induction n with
  | zero => intros; rfl
  | succ n ih =>
    intro xlist6 xn7 xi8
    rw [r0_spec_RunFirst t0 room1 kk n xlist6 xn7 xi8]
    have hb : (fun xlist6 xn7 xi8 => iter (evF TT cs_spec_RunFirst 43 an_spec_RunFirst Try.f25 [1, 1, 1, 1, 0, 1, 0, 0]) nm0_spec_RunFirst (kt0_spec_RunFirst (fin_spec_RunFirst t0 room1 kk)) n (can0_spec_RunFirst room1 t0 xlist6 xn7 xi8)) = L0_spec_RunFirst room1 t0 (fun r0 r1 => kk (.tup [.c (.ro .int r0), .c (.v (.int .i64 r1))]) []) n := by
      funext xlist6 xn7 xi8; exact ih xlist6 xn7 xi8
    rw [hb]
    rfl
theorem g_spec_RunFirst (t0 : List Int) (room1 : Int) (kk : AV → List A1 → Prop) :
    ev TT cs_spec_RunFirst 43 an_spec_RunFirst (Try.f25.body.getD .skip) (st0 con_spec_RunFirst [.c (.ro .int t0), .c (.v (.int .i64 room1))]) (fin TT con_spec_RunFirst Try.f25.results.toList [.c (.sl .int), .c .sc] [.c (.ro .int t0), .c (.v (.int .i64 room1))] kk) = G_spec_RunFirst t0 room1 (fun r0 r1 => kk (.tup [.c (.ro .int r0), .c (.v (.int .i64 r1))]) []) (fun room1 t0 xlist6 xn7 xi8 => ∃ j, iter (evF TT cs_spec_RunFirst 43 an_spec_RunFirst Try.f25 [1, 1, 1, 1, 0, 1, 0, 0]) nm0_spec_RunFirst (kt0_spec_RunFirst (fin_spec_RunFirst t0 room1 kk)) j (can0_spec_RunFirst room1 t0 xlist6 xn7 xi8)) := by kernel_rfl
theorem e_spec_RunFirst (t0 : List Int) (room1 : Int) (kk : AV → List A1 → Prop) :
    ev TT cs_spec_RunFirst 43 an_spec_RunFirst (Try.f25.body.getD .skip) (st0 con_spec_RunFirst [.c (.ro .int t0), .c (.v (.int .i64 room1))]) (fin TT con_spec_RunFirst Try.f25.results.toList [.c (.sl .int), .c .sc] [.c (.ro .int t0), .c (.v (.int .i64 room1))] kk) = S_spec_RunFirst t0 room1 (fun r0 r1 => kk (.tup [.c (.ro .int r0), .c (.v (.int .i64 r1))]) []) := by
  rw [g_spec_RunFirst]
  have hi0 : (fun room1 t0 xlist6 xn7 xi8 => ∃ j, iter (evF TT cs_spec_RunFirst 43 an_spec_RunFirst Try.f25 [1, 1, 1, 1, 0, 1, 0, 0]) nm0_spec_RunFirst (kt0_spec_RunFirst (fin_spec_RunFirst t0 room1 kk)) j (can0_spec_RunFirst room1 t0 xlist6 xn7 xi8)) = (fun room1 t0 xlist6 xn7 xi8 => ∃ j, L0_spec_RunFirst room1 t0 (fun r0 r1 => kk (.tup [.c (.ro .int r0), .c (.v (.int .i64 r1))]) []) j xlist6 xn7 xi8) := by
    funext room1 t0 xlist6 xn7 xi8
    refine congrArg Exists (funext fun j => ?_)
    rw [l0_spec_RunFirst t0 room1 kk j xlist6 xn7 xi8]
  rw [hi0]
  rfl
theorem clok_spec_RunFirst : ConOK Try.prog cl_spec_RunFirst := consCons h_spec_inRange ⟨Try.f42, Try.func42, by kernel_rfl, ne_of_beq (by kernel_rfl)⟩ (consCons h_spec_validTrace ⟨Try.f49, Try.func49, by kernel_rfl, ne_of_beq (by kernel_rfl)⟩ (consCons h_spec_toInt ⟨Try.f50, Try.func50, by kernel_rfl, ne_of_beq (by kernel_rfl)⟩ (consCons h_spec_first ⟨Try.f52, Try.func52, by kernel_rfl, ne_of_beq (by kernel_rfl)⟩ (consNil))))
theorem cok_spec_RunFirst : ConsOK Try.prog 43 cs_spec_RunFirst := ⟨clok_spec_RunFirst, inlNil⟩
theorem i_spec_RunFirst {vs : List A1} {kk : AV → List A1 → Prop} {motive : List A1 → Prop} (h : con_spec_RunFirst.F vs kk) (H : ∀ (t0 : List Int) (room1 : Int), F_spec_RunFirst t0 room1 (fun r0 r1 => kk (.tup [.c (.ro .int r0), .c (.v (.int .i64 r1))]) []) → motive [.c (.ro .int t0), .c (.v (.int .i64 room1))]) : motive vs := by
  unfold con_spec_RunFirst at h
  dsimp only at h
  split at h
  · exact H _ _ h
  · exact h.elim
theorem h_spec_RunFirst : Holds Try.prog 25 con_spec_RunFirst := by
  refine holds_of_ev (rt := [.c (.sl .int), .c .sc]) (T := TT) (Γ := cs_spec_RunFirst) (an := an_spec_RunFirst) (N := 43) (c := Try.f25.body.getD .skip) Try.func25 (by kernel_rfl) Try.ntmps25 (by decide) (by decide) mixed tabOK cok_spec_RunFirst (by kernel_rfl) ?_
  intro vs kk _ hF
  exact i_spec_RunFirst (motive := fun vs => Goes (ev TT cs_spec_RunFirst 43 an_spec_RunFirst (Try.f25.body.getD .skip) (st0 con_spec_RunFirst vs) (fin TT con_spec_RunFirst Try.f25.results.toList [.c (.sl .int), .c .sc] vs kk))) hF (fun t0 room1 hF => goes_of (e_spec_RunFirst t0 room1 kk) (F_spec_RunFirst_S hF))
def con_impl_validKey : Con := ⟨[.rd], true, [.c (.sc)], fun vs k => match vs with
    | [.c (.v (.int .i64 key0))] => F_impl_validKey key0 (fun r0 => k (.one (.c (.v (.bool r0)))) [])
    | _ => False, false⟩
def cl_impl_validKey : List (FuncId × Con) := []
def an_impl_validKey : Ann := ⟨[], [], []⟩
def cs_impl_validKey : Cons := ⟨cl_impl_validKey, [], 0, [], []⟩
def fin_impl_validKey (key0 : Int) (kk : AV → List A1 → Prop) : Kt := fin TT con_impl_validKey Try.f45.results.toList [.c .sc] [.c (.v (.int .i64 key0))] kk
theorem g_impl_validKey (key0 : Int) (kk : AV → List A1 → Prop) :
    ev TT cs_impl_validKey 9 an_impl_validKey (Try.f45.body.getD .skip) (st0 con_impl_validKey [.c (.v (.int .i64 key0))]) (fin TT con_impl_validKey Try.f45.results.toList [.c .sc] [.c (.v (.int .i64 key0))] kk) = G_impl_validKey key0 (fun r0 => kk (.one (.c (.v (.bool r0)))) []) := by kernel_rfl
theorem e_impl_validKey (key0 : Int) (kk : AV → List A1 → Prop) :
    ev TT cs_impl_validKey 9 an_impl_validKey (Try.f45.body.getD .skip) (st0 con_impl_validKey [.c (.v (.int .i64 key0))]) (fin TT con_impl_validKey Try.f45.results.toList [.c .sc] [.c (.v (.int .i64 key0))] kk) = S_impl_validKey key0 (fun r0 => kk (.one (.c (.v (.bool r0)))) []) := by
  rw [g_impl_validKey]
  rfl
theorem clok_impl_validKey : ConOK Try.prog cl_impl_validKey := consNil
theorem cok_impl_validKey : ConsOK Try.prog 9 cs_impl_validKey := ⟨clok_impl_validKey, inlNil⟩
theorem i_impl_validKey {vs : List A1} {kk : AV → List A1 → Prop} {motive : List A1 → Prop} (h : con_impl_validKey.F vs kk) (H : ∀ (key0 : Int), F_impl_validKey key0 (fun r0 => kk (.one (.c (.v (.bool r0)))) []) → motive [.c (.v (.int .i64 key0))]) : motive vs := by
  unfold con_impl_validKey at h
  dsimp only at h
  split at h
  · exact H _ h
  · exact h.elim
theorem h_impl_validKey : Holds Try.prog 45 con_impl_validKey := by
  refine holds_of_ev (rt := [.c .sc]) (T := TT) (Γ := cs_impl_validKey) (an := an_impl_validKey) (N := 9) (c := Try.f45.body.getD .skip) Try.func45 (by kernel_rfl) Try.ntmps45 (by decide) (by decide) mixed tabOK cok_impl_validKey (by kernel_rfl) ?_
  intro vs kk _ hF
  exact i_impl_validKey (motive := fun vs => Goes (ev TT cs_impl_validKey 9 an_impl_validKey (Try.f45.body.getD .skip) (st0 con_impl_validKey vs) (fin TT con_impl_validKey Try.f45.results.toList [.c .sc] vs kk))) hF (fun key0 hF => goes_of (e_impl_validKey key0 kk) (F_impl_validKey_S hF))
def con_impl_ValidTrace : Con := ⟨[.rd], true, [.c (.sl .int)], fun vs k => match vs with
    | [.c (.ro .int t0)] => F_impl_ValidTrace t0 (fun r0 => k (.one (.c (.v (.bool r0)))) [])
    | _ => False, false⟩
def cl_impl_ValidTrace : List (FuncId × Con) := [(45, con_impl_validKey)]
def nm0_impl_ValidTrace : List NStep := [.keep [8, 9, 10] []]
def an_impl_ValidTrace : Ann := ⟨[], [(4, nm0_impl_ValidTrace)], []⟩
def cs_impl_ValidTrace : Cons := ⟨cl_impl_ValidTrace, [], 0, [], []⟩
def can0_impl_ValidTrace (t0 : List Int) (xt9 : Int) (xt10 : Int) : St := ⟨[(8, .one (.c (.ro .int t0))), (9, .one (.c (.v (.int .i64 xt9)))), (10, .one (.c (.v (.int .i64 xt10))))], []⟩
def fin_impl_ValidTrace (t0 : List Int) (kk : AV → List A1 → Prop) : Kt := fin TT con_impl_ValidTrace Try.f73.results.toList [.c .sc] [.c (.ro .int t0)] kk
def kt0_impl_ValidTrace (kf : Kt) : Kt := blockK 0 (seqK (evF TT cs_impl_ValidTrace 18 an_impl_ValidTrace Try.f73 [1, 1, 1]) (kf))
theorem r0_impl_ValidTrace (t0 : List Int) (xt9 : Int) (kk : AV → List A1 → Prop) (n : Nat) (xt10 : Int) :
    iter (evF TT cs_impl_ValidTrace 18 an_impl_ValidTrace Try.f73 [1, 1, 0, 1, 0, 0]) nm0_impl_ValidTrace (kt0_impl_ValidTrace (fin_impl_ValidTrace t0 kk)) (n + 1) (can0_impl_ValidTrace t0 xt9 xt10) = T0_impl_ValidTrace t0 xt9 xt10 (fun r0 => kk (.one (.c (.v (.bool r0)))) []) (fun xt10 => iter (evF TT cs_impl_ValidTrace 18 an_impl_ValidTrace Try.f73 [1, 1, 0, 1, 0, 0]) nm0_impl_ValidTrace (kt0_impl_ValidTrace (fin_impl_ValidTrace t0 kk)) n (can0_impl_ValidTrace t0 xt9 xt10)) := by kernel_rfl
theorem l0_impl_ValidTrace (t0 : List Int) (xt9 : Int) (kk : AV → List A1 → Prop) : ∀ (n : Nat) (xt10 : Int), iter (evF TT cs_impl_ValidTrace 18 an_impl_ValidTrace Try.f73 [1, 1, 0, 1, 0, 0]) nm0_impl_ValidTrace (kt0_impl_ValidTrace (fin_impl_ValidTrace t0 kk)) n (can0_impl_ValidTrace t0 xt9 xt10) = L0_impl_ValidTrace t0 xt9 (fun r0 => kk (.one (.c (.v (.bool r0)))) []) n xt10 := by
  intro n
  induction n with
  | zero => intros; rfl
  | succ n ih =>
    intro xt10
    rw [r0_impl_ValidTrace t0 xt9 kk n xt10]
    have hb : (fun xt10 => iter (evF TT cs_impl_ValidTrace 18 an_impl_ValidTrace Try.f73 [1, 1, 0, 1, 0, 0]) nm0_impl_ValidTrace (kt0_impl_ValidTrace (fin_impl_ValidTrace t0 kk)) n (can0_impl_ValidTrace t0 xt9 xt10)) = L0_impl_ValidTrace t0 xt9 (fun r0 => kk (.one (.c (.v (.bool r0)))) []) n := by
      funext xt10; exact ih xt10
    rw [hb]
    rfl
theorem g_impl_ValidTrace (t0 : List Int) (kk : AV → List A1 → Prop) :
    ev TT cs_impl_ValidTrace 18 an_impl_ValidTrace (Try.f73.body.getD .skip) (st0 con_impl_ValidTrace [.c (.ro .int t0)]) (fin TT con_impl_ValidTrace Try.f73.results.toList [.c .sc] [.c (.ro .int t0)] kk) = G_impl_ValidTrace t0 (fun r0 => kk (.one (.c (.v (.bool r0)))) []) (fun t0 xt9 xt10 => ∃ j, iter (evF TT cs_impl_ValidTrace 18 an_impl_ValidTrace Try.f73 [1, 1, 0, 1, 0, 0]) nm0_impl_ValidTrace (kt0_impl_ValidTrace (fin_impl_ValidTrace t0 kk)) j (can0_impl_ValidTrace t0 xt9 xt10)) := by kernel_rfl
theorem e_impl_ValidTrace (t0 : List Int) (kk : AV → List A1 → Prop) :
    ev TT cs_impl_ValidTrace 18 an_impl_ValidTrace (Try.f73.body.getD .skip) (st0 con_impl_ValidTrace [.c (.ro .int t0)]) (fin TT con_impl_ValidTrace Try.f73.results.toList [.c .sc] [.c (.ro .int t0)] kk) = S_impl_ValidTrace t0 (fun r0 => kk (.one (.c (.v (.bool r0)))) []) := by
  rw [g_impl_ValidTrace]
  have hi0 : (fun t0 xt9 xt10 => ∃ j, iter (evF TT cs_impl_ValidTrace 18 an_impl_ValidTrace Try.f73 [1, 1, 0, 1, 0, 0]) nm0_impl_ValidTrace (kt0_impl_ValidTrace (fin_impl_ValidTrace t0 kk)) j (can0_impl_ValidTrace t0 xt9 xt10)) = (fun t0 xt9 xt10 => ∃ j, L0_impl_ValidTrace t0 xt9 (fun r0 => kk (.one (.c (.v (.bool r0)))) []) j xt10) := by
    funext t0 xt9 xt10
    refine congrArg Exists (funext fun j => ?_)
    rw [l0_impl_ValidTrace t0 xt9 kk j xt10]
  rw [hi0]
  rfl
theorem clok_impl_ValidTrace : ConOK Try.prog cl_impl_ValidTrace := consCons h_impl_validKey ⟨Try.f45, Try.func45, by kernel_rfl, ne_of_beq (by kernel_rfl)⟩ (consNil)
theorem cok_impl_ValidTrace : ConsOK Try.prog 18 cs_impl_ValidTrace := ⟨clok_impl_ValidTrace, inlNil⟩
theorem i_impl_ValidTrace {vs : List A1} {kk : AV → List A1 → Prop} {motive : List A1 → Prop} (h : con_impl_ValidTrace.F vs kk) (H : ∀ (t0 : List Int), F_impl_ValidTrace t0 (fun r0 => kk (.one (.c (.v (.bool r0)))) []) → motive [.c (.ro .int t0)]) : motive vs := by
  unfold con_impl_ValidTrace at h
  dsimp only at h
  split at h
  · exact H _ h
  · exact h.elim
theorem h_impl_ValidTrace : Holds Try.prog 73 con_impl_ValidTrace := by
  refine holds_of_ev (rt := [.c .sc]) (T := TT) (Γ := cs_impl_ValidTrace) (an := an_impl_ValidTrace) (N := 18) (c := Try.f73.body.getD .skip) Try.func73 (by kernel_rfl) Try.ntmps73 (by decide) (by decide) mixed tabOK cok_impl_ValidTrace (by kernel_rfl) ?_
  intro vs kk _ hF
  exact i_impl_ValidTrace (motive := fun vs => Goes (ev TT cs_impl_ValidTrace 18 an_impl_ValidTrace (Try.f73.body.getD .skip) (st0 con_impl_ValidTrace vs) (fin TT con_impl_ValidTrace Try.f73.results.toList [.c .sc] vs kk))) hF (fun t0 hF => goes_of (e_impl_ValidTrace t0 kk) (F_impl_ValidTrace_S hF))
def con_impl_validRoom : Con := ⟨[.rd], true, [.c (.sc)], fun vs k => match vs with
    | [.c (.v (.int .i64 room0))] => F_impl_validRoom room0 (fun r0 => k (.one (.c (.v (.bool r0)))) [])
    | _ => False, false⟩
def cl_impl_validRoom : List (FuncId × Con) := []
def an_impl_validRoom : Ann := ⟨[], [], []⟩
def cs_impl_validRoom : Cons := ⟨cl_impl_validRoom, [], 0, [], []⟩
def fin_impl_validRoom (room0 : Int) (kk : AV → List A1 → Prop) : Kt := fin TT con_impl_validRoom Try.f71.results.toList [.c .sc] [.c (.v (.int .i64 room0))] kk
theorem g_impl_validRoom (room0 : Int) (kk : AV → List A1 → Prop) :
    ev TT cs_impl_validRoom 9 an_impl_validRoom (Try.f71.body.getD .skip) (st0 con_impl_validRoom [.c (.v (.int .i64 room0))]) (fin TT con_impl_validRoom Try.f71.results.toList [.c .sc] [.c (.v (.int .i64 room0))] kk) = G_impl_validRoom room0 (fun r0 => kk (.one (.c (.v (.bool r0)))) []) := by kernel_rfl
theorem e_impl_validRoom (room0 : Int) (kk : AV → List A1 → Prop) :
    ev TT cs_impl_validRoom 9 an_impl_validRoom (Try.f71.body.getD .skip) (st0 con_impl_validRoom [.c (.v (.int .i64 room0))]) (fin TT con_impl_validRoom Try.f71.results.toList [.c .sc] [.c (.v (.int .i64 room0))] kk) = S_impl_validRoom room0 (fun r0 => kk (.one (.c (.v (.bool r0)))) []) := by
  rw [g_impl_validRoom]
  rfl
theorem clok_impl_validRoom : ConOK Try.prog cl_impl_validRoom := consNil
theorem cok_impl_validRoom : ConsOK Try.prog 9 cs_impl_validRoom := ⟨clok_impl_validRoom, inlNil⟩
theorem i_impl_validRoom {vs : List A1} {kk : AV → List A1 → Prop} {motive : List A1 → Prop} (h : con_impl_validRoom.F vs kk) (H : ∀ (room0 : Int), F_impl_validRoom room0 (fun r0 => kk (.one (.c (.v (.bool r0)))) []) → motive [.c (.v (.int .i64 room0))]) : motive vs := by
  unfold con_impl_validRoom at h
  dsimp only at h
  split at h
  · exact H _ h
  · exact h.elim
theorem h_impl_validRoom : Holds Try.prog 71 con_impl_validRoom := by
  refine holds_of_ev (rt := [.c .sc]) (T := TT) (Γ := cs_impl_validRoom) (an := an_impl_validRoom) (N := 9) (c := Try.f71.body.getD .skip) Try.func71 (by kernel_rfl) Try.ntmps71 (by decide) (by decide) mixed tabOK cok_impl_validRoom (by kernel_rfl) ?_
  intro vs kk _ hF
  exact i_impl_validRoom (motive := fun vs => Goes (ev TT cs_impl_validRoom 9 an_impl_validRoom (Try.f71.body.getD .skip) (st0 con_impl_validRoom vs) (fin TT con_impl_validRoom Try.f71.results.toList [.c .sc] vs kk))) hF (fun room0 hF => goes_of (e_impl_validRoom room0 kk) (F_impl_validRoom_S hF))
def con_slices_Index_sint_int : Con := ⟨[.rd, .rd], true, [.c (.sl .int), .c (.sc)], fun vs k => match vs with
    | [.c (.ro .int s0), .c (.v (.int .i64 v1))] => F_slices_Index_sint_int s0 v1 (fun r0 => k (.one (.c (.v (.int .i64 r0)))) [])
    | _ => False, false⟩
def cl_slices_Index_sint_int : List (FuncId × Con) := []
def nm0_slices_Index_sint_int : List NStep := [.keep [0, 1, 7, 8] []]
def an_slices_Index_sint_int : Ann := ⟨[], [(2, nm0_slices_Index_sint_int)], []⟩
def cs_slices_Index_sint_int : Cons := ⟨cl_slices_Index_sint_int, [], 0, [], []⟩
def can0_slices_Index_sint_int (s0 : List Int) (v1 : Int) (xt7 : Int) (xt8 : Int) : St := ⟨[(0, .one (.c (.ro .int s0))), (1, .one (.c (.v (.int .i64 v1)))), (7, .one (.c (.v (.int .i64 xt7)))), (8, .one (.c (.v (.int .i64 xt8))))], []⟩
def fin_slices_Index_sint_int (s0 : List Int) (v1 : Int) (kk : AV → List A1 → Prop) : Kt := fin TT con_slices_Index_sint_int Try.f59.results.toList [.c .sc] [.c (.ro .int s0), .c (.v (.int .i64 v1))] kk
def kt0_slices_Index_sint_int (kf : Kt) : Kt := blockK 0 (seqK (evF TT cs_slices_Index_sint_int 19 an_slices_Index_sint_int Try.f59 [1, 1]) (kf))
theorem r0_slices_Index_sint_int (s0 : List Int) (v1 : Int) (xt7 : Int) (kk : AV → List A1 → Prop) (n : Nat) (xt8 : Int) :
    iter (evF TT cs_slices_Index_sint_int 19 an_slices_Index_sint_int Try.f59 [1, 0, 1, 0, 0]) nm0_slices_Index_sint_int (kt0_slices_Index_sint_int (fin_slices_Index_sint_int s0 v1 kk)) (n + 1) (can0_slices_Index_sint_int s0 v1 xt7 xt8) = T0_slices_Index_sint_int s0 v1 xt7 xt8 (fun r0 => kk (.one (.c (.v (.int .i64 r0)))) []) (fun xt8 => iter (evF TT cs_slices_Index_sint_int 19 an_slices_Index_sint_int Try.f59 [1, 0, 1, 0, 0]) nm0_slices_Index_sint_int (kt0_slices_Index_sint_int (fin_slices_Index_sint_int s0 v1 kk)) n (can0_slices_Index_sint_int s0 v1 xt7 xt8)) := by kernel_rfl
theorem l0_slices_Index_sint_int (s0 : List Int) (v1 : Int) (xt7 : Int) (kk : AV → List A1 → Prop) : ∀ (n : Nat) (xt8 : Int), iter (evF TT cs_slices_Index_sint_int 19 an_slices_Index_sint_int Try.f59 [1, 0, 1, 0, 0]) nm0_slices_Index_sint_int (kt0_slices_Index_sint_int (fin_slices_Index_sint_int s0 v1 kk)) n (can0_slices_Index_sint_int s0 v1 xt7 xt8) = L0_slices_Index_sint_int s0 v1 xt7 (fun r0 => kk (.one (.c (.v (.int .i64 r0)))) []) n xt8 := by
  intro n
  induction n with
  | zero => intros; rfl
  | succ n ih =>
    intro xt8
    rw [r0_slices_Index_sint_int s0 v1 xt7 kk n xt8]
    have hb : (fun xt8 => iter (evF TT cs_slices_Index_sint_int 19 an_slices_Index_sint_int Try.f59 [1, 0, 1, 0, 0]) nm0_slices_Index_sint_int (kt0_slices_Index_sint_int (fin_slices_Index_sint_int s0 v1 kk)) n (can0_slices_Index_sint_int s0 v1 xt7 xt8)) = L0_slices_Index_sint_int s0 v1 xt7 (fun r0 => kk (.one (.c (.v (.int .i64 r0)))) []) n := by
      funext xt8; exact ih xt8
    rw [hb]
    rfl
theorem g_slices_Index_sint_int (s0 : List Int) (v1 : Int) (kk : AV → List A1 → Prop) :
    ev TT cs_slices_Index_sint_int 19 an_slices_Index_sint_int (Try.f59.body.getD .skip) (st0 con_slices_Index_sint_int [.c (.ro .int s0), .c (.v (.int .i64 v1))]) (fin TT con_slices_Index_sint_int Try.f59.results.toList [.c .sc] [.c (.ro .int s0), .c (.v (.int .i64 v1))] kk) = G_slices_Index_sint_int s0 v1 (fun s0 v1 xt7 xt8 => ∃ j, iter (evF TT cs_slices_Index_sint_int 19 an_slices_Index_sint_int Try.f59 [1, 0, 1, 0, 0]) nm0_slices_Index_sint_int (kt0_slices_Index_sint_int (fin_slices_Index_sint_int s0 v1 kk)) j (can0_slices_Index_sint_int s0 v1 xt7 xt8)) := by kernel_rfl
theorem e_slices_Index_sint_int (s0 : List Int) (v1 : Int) (kk : AV → List A1 → Prop) :
    ev TT cs_slices_Index_sint_int 19 an_slices_Index_sint_int (Try.f59.body.getD .skip) (st0 con_slices_Index_sint_int [.c (.ro .int s0), .c (.v (.int .i64 v1))]) (fin TT con_slices_Index_sint_int Try.f59.results.toList [.c .sc] [.c (.ro .int s0), .c (.v (.int .i64 v1))] kk) = S_slices_Index_sint_int s0 v1 (fun r0 => kk (.one (.c (.v (.int .i64 r0)))) []) := by
  rw [g_slices_Index_sint_int]
  have hi0 : (fun s0 v1 xt7 xt8 => ∃ j, iter (evF TT cs_slices_Index_sint_int 19 an_slices_Index_sint_int Try.f59 [1, 0, 1, 0, 0]) nm0_slices_Index_sint_int (kt0_slices_Index_sint_int (fin_slices_Index_sint_int s0 v1 kk)) j (can0_slices_Index_sint_int s0 v1 xt7 xt8)) = (fun s0 v1 xt7 xt8 => ∃ j, L0_slices_Index_sint_int s0 v1 xt7 (fun r0 => kk (.one (.c (.v (.int .i64 r0)))) []) j xt8) := by
    funext s0 v1 xt7 xt8
    refine congrArg Exists (funext fun j => ?_)
    rw [l0_slices_Index_sint_int s0 v1 xt7 kk j xt8]
  rw [hi0]
  rfl
theorem clok_slices_Index_sint_int : ConOK Try.prog cl_slices_Index_sint_int := consNil
theorem cok_slices_Index_sint_int : ConsOK Try.prog 19 cs_slices_Index_sint_int := ⟨clok_slices_Index_sint_int, inlNil⟩
theorem i_slices_Index_sint_int {vs : List A1} {kk : AV → List A1 → Prop} {motive : List A1 → Prop} (h : con_slices_Index_sint_int.F vs kk) (H : ∀ (s0 : List Int) (v1 : Int), F_slices_Index_sint_int s0 v1 (fun r0 => kk (.one (.c (.v (.int .i64 r0)))) []) → motive [.c (.ro .int s0), .c (.v (.int .i64 v1))]) : motive vs := by
  unfold con_slices_Index_sint_int at h
  dsimp only at h
  split at h
  · exact H _ _ h
  · exact h.elim
theorem h_slices_Index_sint_int : Holds Try.prog 59 con_slices_Index_sint_int := by
  refine holds_of_ev (rt := [.c .sc]) (T := TT) (Γ := cs_slices_Index_sint_int) (an := an_slices_Index_sint_int) (N := 19) (c := Try.f59.body.getD .skip) Try.func59 (by kernel_rfl) Try.ntmps59 (by decide) (by decide) mixed tabOK cok_slices_Index_sint_int (by kernel_rfl) ?_
  intro vs kk _ hF
  exact i_slices_Index_sint_int (motive := fun vs => Goes (ev TT cs_slices_Index_sint_int 19 an_slices_Index_sint_int (Try.f59.body.getD .skip) (st0 con_slices_Index_sint_int vs) (fin TT con_slices_Index_sint_int Try.f59.results.toList [.c .sc] vs kk))) hF (fun s0 v1 hF => goes_of (e_slices_Index_sint_int s0 v1 kk) (F_slices_Index_sint_int_S hF))
def con_slices_Contains_sint_int : Con := ⟨[.rd, .rd], true, [.c (.sl .int), .c (.sc)], fun vs k => match vs with
    | [.c (.ro .int s0), .c (.v (.int .i64 v1))] => F_slices_Contains_sint_int s0 v1 (fun r0 => k (.one (.c (.v (.bool r0)))) [])
    | _ => False, false⟩
def cl_slices_Contains_sint_int : List (FuncId × Con) := [(59, con_slices_Index_sint_int)]
def an_slices_Contains_sint_int : Ann := ⟨[], [], []⟩
def cs_slices_Contains_sint_int : Cons := ⟨cl_slices_Contains_sint_int, [], 0, [], []⟩
def fin_slices_Contains_sint_int (s0 : List Int) (v1 : Int) (kk : AV → List A1 → Prop) : Kt := fin TT con_slices_Contains_sint_int Try.f48.results.toList [.c .sc] [.c (.ro .int s0), .c (.v (.int .i64 v1))] kk
theorem g_slices_Contains_sint_int (s0 : List Int) (v1 : Int) (kk : AV → List A1 → Prop) :
    ev TT cs_slices_Contains_sint_int 9 an_slices_Contains_sint_int (Try.f48.body.getD .skip) (st0 con_slices_Contains_sint_int [.c (.ro .int s0), .c (.v (.int .i64 v1))]) (fin TT con_slices_Contains_sint_int Try.f48.results.toList [.c .sc] [.c (.ro .int s0), .c (.v (.int .i64 v1))] kk) = G_slices_Contains_sint_int s0 v1 (fun r0 => kk (.one (.c (.v (.bool r0)))) []) := by kernel_rfl
theorem e_slices_Contains_sint_int (s0 : List Int) (v1 : Int) (kk : AV → List A1 → Prop) :
    ev TT cs_slices_Contains_sint_int 9 an_slices_Contains_sint_int (Try.f48.body.getD .skip) (st0 con_slices_Contains_sint_int [.c (.ro .int s0), .c (.v (.int .i64 v1))]) (fin TT con_slices_Contains_sint_int Try.f48.results.toList [.c .sc] [.c (.ro .int s0), .c (.v (.int .i64 v1))] kk) = S_slices_Contains_sint_int s0 v1 (fun r0 => kk (.one (.c (.v (.bool r0)))) []) := by
  rw [g_slices_Contains_sint_int]
  rfl
theorem clok_slices_Contains_sint_int : ConOK Try.prog cl_slices_Contains_sint_int := consCons h_slices_Index_sint_int ⟨Try.f59, Try.func59, by kernel_rfl, ne_of_beq (by kernel_rfl)⟩ (consNil)
theorem cok_slices_Contains_sint_int : ConsOK Try.prog 9 cs_slices_Contains_sint_int := ⟨clok_slices_Contains_sint_int, inlNil⟩
theorem i_slices_Contains_sint_int {vs : List A1} {kk : AV → List A1 → Prop} {motive : List A1 → Prop} (h : con_slices_Contains_sint_int.F vs kk) (H : ∀ (s0 : List Int) (v1 : Int), F_slices_Contains_sint_int s0 v1 (fun r0 => kk (.one (.c (.v (.bool r0)))) []) → motive [.c (.ro .int s0), .c (.v (.int .i64 v1))]) : motive vs := by
  unfold con_slices_Contains_sint_int at h
  dsimp only at h
  split at h
  · exact H _ _ h
  · exact h.elim
theorem h_slices_Contains_sint_int : Holds Try.prog 48 con_slices_Contains_sint_int := by
  refine holds_of_ev (rt := [.c .sc]) (T := TT) (Γ := cs_slices_Contains_sint_int) (an := an_slices_Contains_sint_int) (N := 9) (c := Try.f48.body.getD .skip) Try.func48 (by kernel_rfl) Try.ntmps48 (by decide) (by decide) mixed tabOK cok_slices_Contains_sint_int (by kernel_rfl) ?_
  intro vs kk _ hF
  exact i_slices_Contains_sint_int (motive := fun vs => Goes (ev TT cs_slices_Contains_sint_int 9 an_slices_Contains_sint_int (Try.f48.body.getD .skip) (st0 con_slices_Contains_sint_int vs) (fin TT con_slices_Contains_sint_int Try.f48.results.toList [.c .sc] vs kk))) hF (fun s0 v1 hF => goes_of (e_slices_Contains_sint_int s0 v1 kk) (F_slices_Contains_sint_int_S hF))
def con_impl_differentKeys : Con := ⟨[.rd], true, [.c (.sl .int)], fun vs k => match vs with
    | [.c (.ro .int list0)] => F_impl_differentKeys list0 (fun r0 => k (.one (.c (.v (.bool r0)))) [])
    | _ => False, false⟩
def cl_impl_differentKeys : List (FuncId × Con) := [(45, con_impl_validKey), (48, con_slices_Contains_sint_int)]
def nm0_impl_differentKeys : List NStep := [.keep [0, 5, 6, 7] []]
def an_impl_differentKeys : Ann := ⟨[], [(2, nm0_impl_differentKeys)], []⟩
def cs_impl_differentKeys : Cons := ⟨cl_impl_differentKeys, [], 0, [], []⟩
def can0_impl_differentKeys (list0 : List Int) (xt6 : Int) (xt7 : Int) : St := ⟨[(0, .one (.c (.ro .int list0))), (5, .one (.c (.ro .int list0))), (6, .one (.c (.v (.int .i64 xt6)))), (7, .one (.c (.v (.int .i64 xt7))))], []⟩
def fin_impl_differentKeys (list0 : List Int) (kk : AV → List A1 → Prop) : Kt := fin TT con_impl_differentKeys Try.f72.results.toList [.c .sc] [.c (.ro .int list0)] kk
def kt0_impl_differentKeys (kf : Kt) : Kt := blockK 0 (seqK (evF TT cs_impl_differentKeys 23 an_impl_differentKeys Try.f72 [1, 1]) (kf))
theorem r0_impl_differentKeys (list0 : List Int) (xt6 : Int) (kk : AV → List A1 → Prop) (n : Nat) (xt7 : Int) :
    iter (evF TT cs_impl_differentKeys 23 an_impl_differentKeys Try.f72 [1, 0, 1, 0, 0]) nm0_impl_differentKeys (kt0_impl_differentKeys (fin_impl_differentKeys list0 kk)) (n + 1) (can0_impl_differentKeys list0 xt6 xt7) = T0_impl_differentKeys list0 xt6 xt7 (fun r0 => kk (.one (.c (.v (.bool r0)))) []) (fun xt7 => iter (evF TT cs_impl_differentKeys 23 an_impl_differentKeys Try.f72 [1, 0, 1, 0, 0]) nm0_impl_differentKeys (kt0_impl_differentKeys (fin_impl_differentKeys list0 kk)) n (can0_impl_differentKeys list0 xt6 xt7)) := by kernel_rfl
theorem l0_impl_differentKeys (list0 : List Int) (xt6 : Int) (kk : AV → List A1 → Prop) : ∀ (n : Nat) (xt7 : Int), iter (evF TT cs_impl_differentKeys 23 an_impl_differentKeys Try.f72 [1, 0, 1, 0, 0]) nm0_impl_differentKeys (kt0_impl_differentKeys (fin_impl_differentKeys list0 kk)) n (can0_impl_differentKeys list0 xt6 xt7) = L0_impl_differentKeys list0 xt6 (fun r0 => kk (.one (.c (.v (.bool r0)))) []) n xt7 := by
  intro n
  induction n with
  | zero => intros; rfl
  | succ n ih =>
    intro xt7
    rw [r0_impl_differentKeys list0 xt6 kk n xt7]
    have hb : (fun xt7 => iter (evF TT cs_impl_differentKeys 23 an_impl_differentKeys Try.f72 [1, 0, 1, 0, 0]) nm0_impl_differentKeys (kt0_impl_differentKeys (fin_impl_differentKeys list0 kk)) n (can0_impl_differentKeys list0 xt6 xt7)) = L0_impl_differentKeys list0 xt6 (fun r0 => kk (.one (.c (.v (.bool r0)))) []) n := by
      funext xt7; exact ih xt7
    rw [hb]
    rfl
theorem g_impl_differentKeys (list0 : List Int) (kk : AV → List A1 → Prop) :
    ev TT cs_impl_differentKeys 23 an_impl_differentKeys (Try.f72.body.getD .skip) (st0 con_impl_differentKeys [.c (.ro .int list0)]) (fin TT con_impl_differentKeys Try.f72.results.toList [.c .sc] [.c (.ro .int list0)] kk) = G_impl_differentKeys list0 (fun list0 xt6 xt7 => ∃ j, iter (evF TT cs_impl_differentKeys 23 an_impl_differentKeys Try.f72 [1, 0, 1, 0, 0]) nm0_impl_differentKeys (kt0_impl_differentKeys (fin_impl_differentKeys list0 kk)) j (can0_impl_differentKeys list0 xt6 xt7)) := by kernel_rfl
theorem e_impl_differentKeys (list0 : List Int) (kk : AV → List A1 → Prop) :
    ev TT cs_impl_differentKeys 23 an_impl_differentKeys (Try.f72.body.getD .skip) (st0 con_impl_differentKeys [.c (.ro .int list0)]) (fin TT con_impl_differentKeys Try.f72.results.toList [.c .sc] [.c (.ro .int list0)] kk) = S_impl_differentKeys list0 (fun r0 => kk (.one (.c (.v (.bool r0)))) []) := by
  rw [g_impl_differentKeys]
  have hi0 : (fun list0 xt6 xt7 => ∃ j, iter (evF TT cs_impl_differentKeys 23 an_impl_differentKeys Try.f72 [1, 0, 1, 0, 0]) nm0_impl_differentKeys (kt0_impl_differentKeys (fin_impl_differentKeys list0 kk)) j (can0_impl_differentKeys list0 xt6 xt7)) = (fun list0 xt6 xt7 => ∃ j, L0_impl_differentKeys list0 xt6 (fun r0 => kk (.one (.c (.v (.bool r0)))) []) j xt7) := by
    funext list0 xt6 xt7
    refine congrArg Exists (funext fun j => ?_)
    rw [l0_impl_differentKeys list0 xt6 kk j xt7]
  rw [hi0]
  rfl
theorem clok_impl_differentKeys : ConOK Try.prog cl_impl_differentKeys := consCons h_impl_validKey ⟨Try.f45, Try.func45, by kernel_rfl, ne_of_beq (by kernel_rfl)⟩ (consCons h_slices_Contains_sint_int ⟨Try.f48, Try.func48, by kernel_rfl, ne_of_beq (by kernel_rfl)⟩ (consNil))
theorem cok_impl_differentKeys : ConsOK Try.prog 23 cs_impl_differentKeys := ⟨clok_impl_differentKeys, inlNil⟩
theorem i_impl_differentKeys {vs : List A1} {kk : AV → List A1 → Prop} {motive : List A1 → Prop} (h : con_impl_differentKeys.F vs kk) (H : ∀ (list0 : List Int), F_impl_differentKeys list0 (fun r0 => kk (.one (.c (.v (.bool r0)))) []) → motive [.c (.ro .int list0)]) : motive vs := by
  unfold con_impl_differentKeys at h
  dsimp only at h
  split at h
  · exact H _ h
  · exact h.elim
theorem h_impl_differentKeys : Holds Try.prog 72 con_impl_differentKeys := by
  refine holds_of_ev (rt := [.c .sc]) (T := TT) (Γ := cs_impl_differentKeys) (an := an_impl_differentKeys) (N := 23) (c := Try.f72.body.getD .skip) Try.func72 (by kernel_rfl) Try.ntmps72 (by decide) (by decide) mixed tabOK cok_impl_differentKeys (by kernel_rfl) ?_
  intro vs kk _ hF
  exact i_impl_differentKeys (motive := fun vs => Goes (ev TT cs_impl_differentKeys 23 an_impl_differentKeys (Try.f72.body.getD .skip) (st0 con_impl_differentKeys vs) (fin TT con_impl_differentKeys Try.f72.results.toList [.c .sc] vs kk))) hF (fun list0 hF => goes_of (e_impl_differentKeys list0 kk) (F_impl_differentKeys_S hF))
def con_impl_ValidKeys : Con := ⟨[.rd, .rd], true, [.c (.sl .int), .c (.sc)], fun vs k => match vs with
    | [.c (.ro .int list0), .c (.v (.int .i64 room1))] => F_impl_ValidKeys list0 room1 (fun r0 => k (.one (.c (.v (.bool r0)))) [])
    | _ => False, false⟩
def cl_impl_ValidKeys : List (FuncId × Con) := [(71, con_impl_validRoom), (72, con_impl_differentKeys)]
def an_impl_ValidKeys : Ann := ⟨[], [], []⟩
def cs_impl_ValidKeys : Cons := ⟨cl_impl_ValidKeys, [], 0, [], []⟩
def fin_impl_ValidKeys (list0 : List Int) (room1 : Int) (kk : AV → List A1 → Prop) : Kt := fin TT con_impl_ValidKeys Try.f44.results.toList [.c .sc] [.c (.ro .int list0), .c (.v (.int .i64 room1))] kk
theorem g_impl_ValidKeys (list0 : List Int) (room1 : Int) (kk : AV → List A1 → Prop) :
    ev TT cs_impl_ValidKeys 17 an_impl_ValidKeys (Try.f44.body.getD .skip) (st0 con_impl_ValidKeys [.c (.ro .int list0), .c (.v (.int .i64 room1))]) (fin TT con_impl_ValidKeys Try.f44.results.toList [.c .sc] [.c (.ro .int list0), .c (.v (.int .i64 room1))] kk) = G_impl_ValidKeys list0 room1 (fun r0 => kk (.one (.c (.v (.bool r0)))) []) := by kernel_rfl
theorem e_impl_ValidKeys (list0 : List Int) (room1 : Int) (kk : AV → List A1 → Prop) :
    ev TT cs_impl_ValidKeys 17 an_impl_ValidKeys (Try.f44.body.getD .skip) (st0 con_impl_ValidKeys [.c (.ro .int list0), .c (.v (.int .i64 room1))]) (fin TT con_impl_ValidKeys Try.f44.results.toList [.c .sc] [.c (.ro .int list0), .c (.v (.int .i64 room1))] kk) = S_impl_ValidKeys list0 room1 (fun r0 => kk (.one (.c (.v (.bool r0)))) []) := by
  rw [g_impl_ValidKeys]
  rfl
theorem clok_impl_ValidKeys : ConOK Try.prog cl_impl_ValidKeys := consCons h_impl_validRoom ⟨Try.f71, Try.func71, by kernel_rfl, ne_of_beq (by kernel_rfl)⟩ (consCons h_impl_differentKeys ⟨Try.f72, Try.func72, by kernel_rfl, ne_of_beq (by kernel_rfl)⟩ (consNil))
theorem cok_impl_ValidKeys : ConsOK Try.prog 17 cs_impl_ValidKeys := ⟨clok_impl_ValidKeys, inlNil⟩
theorem i_impl_ValidKeys {vs : List A1} {kk : AV → List A1 → Prop} {motive : List A1 → Prop} (h : con_impl_ValidKeys.F vs kk) (H : ∀ (list0 : List Int) (room1 : Int), F_impl_ValidKeys list0 room1 (fun r0 => kk (.one (.c (.v (.bool r0)))) []) → motive [.c (.ro .int list0), .c (.v (.int .i64 room1))]) : motive vs := by
  unfold con_impl_ValidKeys at h
  dsimp only at h
  split at h
  · exact H _ _ h
  · exact h.elim
theorem h_impl_ValidKeys : Holds Try.prog 44 con_impl_ValidKeys := by
  refine holds_of_ev (rt := [.c .sc]) (T := TT) (Γ := cs_impl_ValidKeys) (an := an_impl_ValidKeys) (N := 17) (c := Try.f44.body.getD .skip) Try.func44 (by kernel_rfl) Try.ntmps44 (by decide) (by decide) mixed tabOK cok_impl_ValidKeys (by kernel_rfl) ?_
  intro vs kk _ hF
  exact i_impl_ValidKeys (motive := fun vs => Goes (ev TT cs_impl_ValidKeys 17 an_impl_ValidKeys (Try.f44.body.getD .skip) (st0 con_impl_ValidKeys vs) (fin TT con_impl_ValidKeys Try.f44.results.toList [.c .sc] vs kk))) hF (fun list0 room1 hF => goes_of (e_impl_ValidKeys list0 room1 kk) (F_impl_ValidKeys_S hF))
def con_impl_UseFirst : Con := ⟨[.rd, .rd, .rd], true, [.c (.sl .int), .c (.sc), .c (.sc)], fun vs k => match vs with
    | [.c (.ro .int list0), .c (.v (.int .i64 room1)), .c (.v (.int .i64 key2))] => F_impl_UseFirst list0 room1 key2 (fun r0 r1 => k (.tup [.c (.ro .int r0), .c (.v (.bool r1))]) [])
    | _ => False, false⟩
def cl_impl_UseFirst : List (FuncId × Con) := [(44, con_impl_ValidKeys), (45, con_impl_validKey), (48, con_slices_Contains_sint_int)]
def an_impl_UseFirst : Ann := ⟨[], [], []⟩
def cs_impl_UseFirst : Cons := ⟨cl_impl_UseFirst, [], 0, [], []⟩
def fin_impl_UseFirst (list0 : List Int) (room1 : Int) (key2 : Int) (kk : AV → List A1 → Prop) : Kt := fin TT con_impl_UseFirst Try.f24.results.toList [.c (.sl .int), .c .sc] [.c (.ro .int list0), .c (.v (.int .i64 room1)), .c (.v (.int .i64 key2))] kk
theorem g_impl_UseFirst (list0 : List Int) (room1 : Int) (key2 : Int) (kk : AV → List A1 → Prop) :
    ev TT cs_impl_UseFirst 36 an_impl_UseFirst (Try.f24.body.getD .skip) (st0 con_impl_UseFirst [.c (.ro .int list0), .c (.v (.int .i64 room1)), .c (.v (.int .i64 key2))]) (fin TT con_impl_UseFirst Try.f24.results.toList [.c (.sl .int), .c .sc] [.c (.ro .int list0), .c (.v (.int .i64 room1)), .c (.v (.int .i64 key2))] kk) = G_impl_UseFirst list0 room1 key2 (fun r0 r1 => kk (.tup [.c (.ro .int r0), .c (.v (.bool r1))]) []) := by kernel_rfl
theorem e_impl_UseFirst (list0 : List Int) (room1 : Int) (key2 : Int) (kk : AV → List A1 → Prop) :
    ev TT cs_impl_UseFirst 36 an_impl_UseFirst (Try.f24.body.getD .skip) (st0 con_impl_UseFirst [.c (.ro .int list0), .c (.v (.int .i64 room1)), .c (.v (.int .i64 key2))]) (fin TT con_impl_UseFirst Try.f24.results.toList [.c (.sl .int), .c .sc] [.c (.ro .int list0), .c (.v (.int .i64 room1)), .c (.v (.int .i64 key2))] kk) = S_impl_UseFirst list0 room1 key2 (fun r0 r1 => kk (.tup [.c (.ro .int r0), .c (.v (.bool r1))]) []) := by
  rw [g_impl_UseFirst]
  rfl
theorem clok_impl_UseFirst : ConOK Try.prog cl_impl_UseFirst := consCons h_impl_ValidKeys ⟨Try.f44, Try.func44, by kernel_rfl, ne_of_beq (by kernel_rfl)⟩ (consCons h_impl_validKey ⟨Try.f45, Try.func45, by kernel_rfl, ne_of_beq (by kernel_rfl)⟩ (consCons h_slices_Contains_sint_int ⟨Try.f48, Try.func48, by kernel_rfl, ne_of_beq (by kernel_rfl)⟩ (consNil)))
theorem cok_impl_UseFirst : ConsOK Try.prog 36 cs_impl_UseFirst := ⟨clok_impl_UseFirst, inlNil⟩
theorem i_impl_UseFirst {vs : List A1} {kk : AV → List A1 → Prop} {motive : List A1 → Prop} (h : con_impl_UseFirst.F vs kk) (H : ∀ (list0 : List Int) (room1 : Int) (key2 : Int), F_impl_UseFirst list0 room1 key2 (fun r0 r1 => kk (.tup [.c (.ro .int r0), .c (.v (.bool r1))]) []) → motive [.c (.ro .int list0), .c (.v (.int .i64 room1)), .c (.v (.int .i64 key2))]) : motive vs := by
  unfold con_impl_UseFirst at h
  dsimp only at h
  split at h
  · exact H _ _ _ h
  · exact h.elim
theorem h_impl_UseFirst : Holds Try.prog 24 con_impl_UseFirst := by
  refine holds_of_ev (rt := [.c (.sl .int), .c .sc]) (T := TT) (Γ := cs_impl_UseFirst) (an := an_impl_UseFirst) (N := 36) (c := Try.f24.body.getD .skip) Try.func24 (by kernel_rfl) Try.ntmps24 (by decide) (by decide) mixed tabOK cok_impl_UseFirst (by kernel_rfl) ?_
  intro vs kk _ hF
  exact i_impl_UseFirst (motive := fun vs => Goes (ev TT cs_impl_UseFirst 36 an_impl_UseFirst (Try.f24.body.getD .skip) (st0 con_impl_UseFirst vs) (fin TT con_impl_UseFirst Try.f24.results.toList [.c (.sl .int), .c .sc] vs kk))) hF (fun list0 room1 key2 hF => goes_of (e_impl_UseFirst list0 room1 key2 kk) (F_impl_UseFirst_S hF))
def con_impl_runTrace_1 : Con := ⟨[.rd, .rd, .rd, .rd], true, [.c (.sl .int), .c (.sc), .c (.pe), .c (.pe)], fun vs k => match vs with
    | [.c (.ro .int list0), .c (.v (.int .i64 key1)), .c (.pe [.func (.func 24) ⟨[]⟩ ⟨[]⟩] 0), .c (.pe [.int .i64 cap1] 0)] => F_impl_runTrace_1_UseFirst list0 key1 cap1 (fun r0 r1 => k (.tup [.c (.ro .int r0), .c (.v (.bool r1))]) [])
    | _ => False, false⟩
def cl_impl_runTrace_1_UseFirst : List (FuncId × Con) := [(24, con_impl_UseFirst)]
def an_impl_runTrace_1_UseFirst : Ann := ⟨[], [], []⟩
def cs_impl_runTrace_1_UseFirst : Cons := ⟨cl_impl_runTrace_1_UseFirst, [], 0, [], []⟩
def fin_impl_runTrace_1_UseFirst (list0 : List Int) (key1 : Int) (cap1 : Int) (kk : AV → List A1 → Prop) : Kt := fin TT con_impl_runTrace_1 Try.f75.results.toList [.c (.sl .int), .c .sc] [.c (.ro .int list0), .c (.v (.int .i64 key1)), .c (.pe [.func (.func 24) ⟨[]⟩ ⟨[]⟩] 0), .c (.pe [.int .i64 cap1] 0)] kk
theorem g_impl_runTrace_1_UseFirst (list0 : List Int) (key1 : Int) (cap1 : Int) (kk : AV → List A1 → Prop) :
    ev TT cs_impl_runTrace_1_UseFirst 15 an_impl_runTrace_1_UseFirst (Try.f75.body.getD .skip) (st0 con_impl_runTrace_1 [.c (.ro .int list0), .c (.v (.int .i64 key1)), .c (.pe [.func (.func 24) ⟨[]⟩ ⟨[]⟩] 0), .c (.pe [.int .i64 cap1] 0)]) (fin TT con_impl_runTrace_1 Try.f75.results.toList [.c (.sl .int), .c .sc] [.c (.ro .int list0), .c (.v (.int .i64 key1)), .c (.pe [.func (.func 24) ⟨[]⟩ ⟨[]⟩] 0), .c (.pe [.int .i64 cap1] 0)] kk) = G_impl_runTrace_1_UseFirst list0 key1 cap1 (fun r0 r1 => kk (.tup [.c (.ro .int r0), .c (.v (.bool r1))]) []) := by kernel_rfl
theorem e_impl_runTrace_1_UseFirst (list0 : List Int) (key1 : Int) (cap1 : Int) (kk : AV → List A1 → Prop) :
    ev TT cs_impl_runTrace_1_UseFirst 15 an_impl_runTrace_1_UseFirst (Try.f75.body.getD .skip) (st0 con_impl_runTrace_1 [.c (.ro .int list0), .c (.v (.int .i64 key1)), .c (.pe [.func (.func 24) ⟨[]⟩ ⟨[]⟩] 0), .c (.pe [.int .i64 cap1] 0)]) (fin TT con_impl_runTrace_1 Try.f75.results.toList [.c (.sl .int), .c .sc] [.c (.ro .int list0), .c (.v (.int .i64 key1)), .c (.pe [.func (.func 24) ⟨[]⟩ ⟨[]⟩] 0), .c (.pe [.int .i64 cap1] 0)] kk) = S_impl_runTrace_1_UseFirst list0 key1 cap1 (fun r0 r1 => kk (.tup [.c (.ro .int r0), .c (.v (.bool r1))]) []) := by
  rw [g_impl_runTrace_1_UseFirst]
  rfl
theorem clok_impl_runTrace_1_UseFirst : ConOK Try.prog cl_impl_runTrace_1_UseFirst := consCons h_impl_UseFirst ⟨Try.f24, Try.func24, by kernel_rfl, ne_of_beq (by kernel_rfl)⟩ (consNil)
theorem cok_impl_runTrace_1_UseFirst : ConsOK Try.prog 15 cs_impl_runTrace_1_UseFirst := ⟨clok_impl_runTrace_1_UseFirst, inlNil⟩
theorem i_impl_runTrace_1_UseFirst {vs : List A1} {kk : AV → List A1 → Prop} {motive : List A1 → Prop} (h : con_impl_runTrace_1.F vs kk) (H : ∀ (list0 : List Int) (key1 : Int) (cap1 : Int), F_impl_runTrace_1_UseFirst list0 key1 cap1 (fun r0 r1 => kk (.tup [.c (.ro .int r0), .c (.v (.bool r1))]) []) → motive [.c (.ro .int list0), .c (.v (.int .i64 key1)), .c (.pe [.func (.func 24) ⟨[]⟩ ⟨[]⟩] 0), .c (.pe [.int .i64 cap1] 0)]) : motive vs := by
  unfold con_impl_runTrace_1 at h
  dsimp only at h
  split at h
  · exact H _ _ _ h
  · exact h.elim
theorem h_impl_runTrace_1 : Holds Try.prog 75 con_impl_runTrace_1 := by
  refine holds_of_ev (rt := [.c (.sl .int), .c .sc]) (T := TT) (Γ := cs_impl_runTrace_1_UseFirst) (an := an_impl_runTrace_1_UseFirst) (N := 15) (c := Try.f75.body.getD .skip) Try.func75 (by kernel_rfl) Try.ntmps75 (by decide) (by decide) mixed tabOK cok_impl_runTrace_1_UseFirst (by kernel_rfl) ?_
  intro vs kk _ hF
  exact i_impl_runTrace_1_UseFirst (motive := fun vs => Goes (ev TT cs_impl_runTrace_1_UseFirst 15 an_impl_runTrace_1_UseFirst (Try.f75.body.getD .skip) (st0 con_impl_runTrace_1 vs) (fin TT con_impl_runTrace_1 Try.f75.results.toList [.c (.sl .int), .c .sc] vs kk))) hF (fun list0 key1 cap1 hF => goes_of (e_impl_runTrace_1_UseFirst list0 key1 cap1 kk) (F_impl_runTrace_1_UseFirst_S hF))
def con_impl_useAll_sint : Con := ⟨[.rd, .mv, .rd], true, [.c (.sl .int), .c (.sl .int), .c (.fn)], fun vs k => match vs with
    | [.c (.ro .int t0), .c (.ro .int cache1), .c (.cl 75 [.k (.func (.func 24) ⟨[]⟩ ⟨[]⟩), .k (.int .i64 use2c1)])] => F_impl_useAll_sint_runTrace_1_UseFirst t0 cache1 use2c1 (fun r0 r1 => k (.tup [.c (.ro .int r0), .c (.v (.int .i64 r1))]) [])
    | _ => False, false⟩
def cl_impl_useAll_sint_runTrace_1_UseFirst : List (FuncId × Con) := [(75, con_impl_runTrace_1)]
def nm0_impl_useAll_sint_runTrace_1_UseFirst : List NStep := [.own 1 .int 90000, .keep [1, 2, 8, 13, 14, 15] [90000]]
def an_impl_useAll_sint_runTrace_1_UseFirst : Ann := ⟨[], [(3, nm0_impl_useAll_sint_runTrace_1_UseFirst)], []⟩
def cs_impl_useAll_sint_runTrace_1_UseFirst : Cons := ⟨cl_impl_useAll_sint_runTrace_1_UseFirst, [], 0, [], []⟩
def can0_impl_useAll_sint_runTrace_1_UseFirst (t0 : List Int) (use2c1 : Int) (xt14 : Int) (xhits8 : Int) (xt15 : Int) (xcache1 : List Int) : St := ⟨[(1, .one (.c (.ow 90000))), (2, .one (.c (.cl 75 [.k (.func (.func 24) ⟨[]⟩ ⟨[]⟩), .k (.int .i64 use2c1)]))), (8, .one (.c (.v (.int .i64 xhits8)))), (13, .one (.c (.ro .int t0))), (14, .one (.c (.v (.int .i64 xt14)))), (15, .one (.c (.v (.int .i64 xt15))))], [(90000, .row .int xcache1)]⟩
def fin_impl_useAll_sint_runTrace_1_UseFirst (t0 : List Int) (cache1 : List Int) (use2c1 : Int) (kk : AV → List A1 → Prop) : Kt := fin TT con_impl_useAll_sint Try.f74.results.toList [.c (.sl .int), .c .sc] [.c (.ro .int t0), .c (.ro .int cache1), .c (.cl 75 [.k (.func (.func 24) ⟨[]⟩ ⟨[]⟩), .k (.int .i64 use2c1)])] kk
def kt0_impl_useAll_sint_runTrace_1_UseFirst (kf : Kt) : Kt := blockK 0 (seqK (evF TT cs_impl_useAll_sint_runTrace_1_UseFirst 33 an_impl_useAll_sint_runTrace_1_UseFirst Try.f74 [1, 1, 1]) (kf))
theorem r0_impl_useAll_sint_runTrace_1_UseFirst (t0 : List Int) (cache1 : List Int) (use2c1 : Int) (xt14 : Int) (kk : AV → List A1 → Prop) (n : Nat) (xhits8 : Int) (xt15 : Int) (xcache1 : List Int) :
    iter (evF TT cs_impl_useAll_sint_runTrace_1_UseFirst 33 an_impl_useAll_sint_runTrace_1_UseFirst Try.f74 [1, 1, 0, 1, 0, 0]) nm0_impl_useAll_sint_runTrace_1_UseFirst (kt0_impl_useAll_sint_runTrace_1_UseFirst (fin_impl_useAll_sint_runTrace_1_UseFirst t0 cache1 use2c1 kk)) (n + 1) (can0_impl_useAll_sint_runTrace_1_UseFirst t0 use2c1 xt14 xhits8 xt15 xcache1) = T0_impl_useAll_sint_runTrace_1_UseFirst t0 use2c1 xt14 xhits8 xt15 xcache1 (fun r0 r1 => kk (.tup [.c (.ro .int r0), .c (.v (.int .i64 r1))]) []) (fun xhits8 xt15 xcache1 => iter (evF TT cs_impl_useAll_sint_runTrace_1_UseFirst 33 an_impl_useAll_sint_runTrace_1_UseFirst Try.f74 [1, 1, 0, 1, 0, 0]) nm0_impl_useAll_sint_runTrace_1_UseFirst (kt0_impl_useAll_sint_runTrace_1_UseFirst (fin_impl_useAll_sint_runTrace_1_UseFirst t0 cache1 use2c1 kk)) n (can0_impl_useAll_sint_runTrace_1_UseFirst t0 use2c1 xt14 xhits8 xt15 xcache1)) := by kernel_rfl
theorem l0_impl_useAll_sint_runTrace_1_UseFirst (t0 : List Int) (cache1 : List Int) (use2c1 : Int) (xt14 : Int) (kk : AV → List A1 → Prop) : ∀ (n : Nat) (xhits8 : Int) (xt15 : Int) (xcache1 : List Int), iter (evF TT cs_impl_useAll_sint_runTrace_1_UseFirst 33 an_impl_useAll_sint_runTrace_1_UseFirst Try.f74 [1, 1, 0, 1, 0, 0]) nm0_impl_useAll_sint_runTrace_1_UseFirst (kt0_impl_useAll_sint_runTrace_1_UseFirst (fin_impl_useAll_sint_runTrace_1_UseFirst t0 cache1 use2c1 kk)) n (can0_impl_useAll_sint_runTrace_1_UseFirst t0 use2c1 xt14 xhits8 xt15 xcache1) = L0_impl_useAll_sint_runTrace_1_UseFirst t0 use2c1 xt14 (fun r0 r1 => kk (.tup [.c (.ro .int r0), .c (.v (.int .i64 r1))]) []) n xhits8 xt15 xcache1 := by
  intro n
  induction n with
  | zero => intros; rfl
  | succ n ih =>
    intro xhits8 xt15 xcache1
    rw [r0_impl_useAll_sint_runTrace_1_UseFirst t0 cache1 use2c1 xt14 kk n xhits8 xt15 xcache1]
    have hb : (fun xhits8 xt15 xcache1 => iter (evF TT cs_impl_useAll_sint_runTrace_1_UseFirst 33 an_impl_useAll_sint_runTrace_1_UseFirst Try.f74 [1, 1, 0, 1, 0, 0]) nm0_impl_useAll_sint_runTrace_1_UseFirst (kt0_impl_useAll_sint_runTrace_1_UseFirst (fin_impl_useAll_sint_runTrace_1_UseFirst t0 cache1 use2c1 kk)) n (can0_impl_useAll_sint_runTrace_1_UseFirst t0 use2c1 xt14 xhits8 xt15 xcache1)) = L0_impl_useAll_sint_runTrace_1_UseFirst t0 use2c1 xt14 (fun r0 r1 => kk (.tup [.c (.ro .int r0), .c (.v (.int .i64 r1))]) []) n := by
      funext xhits8 xt15 xcache1; exact ih xhits8 xt15 xcache1
    rw [hb]
    rfl
theorem g_impl_useAll_sint_runTrace_1_UseFirst (t0 : List Int) (cache1 : List Int) (use2c1 : Int) (kk : AV → List A1 → Prop) :
    ev TT cs_impl_useAll_sint_runTrace_1_UseFirst 33 an_impl_useAll_sint_runTrace_1_UseFirst (Try.f74.body.getD .skip) (st0 con_impl_useAll_sint [.c (.ro .int t0), .c (.ro .int cache1), .c (.cl 75 [.k (.func (.func 24) ⟨[]⟩ ⟨[]⟩), .k (.int .i64 use2c1)])]) (fin TT con_impl_useAll_sint Try.f74.results.toList [.c (.sl .int), .c .sc] [.c (.ro .int t0), .c (.ro .int cache1), .c (.cl 75 [.k (.func (.func 24) ⟨[]⟩ ⟨[]⟩), .k (.int .i64 use2c1)])] kk) = G_impl_useAll_sint_runTrace_1_UseFirst t0 cache1 use2c1 (fun t0 use2c1 xt14 xhits8 xt15 xcache1 => ∃ j, iter (evF TT cs_impl_useAll_sint_runTrace_1_UseFirst 33 an_impl_useAll_sint_runTrace_1_UseFirst Try.f74 [1, 1, 0, 1, 0, 0]) nm0_impl_useAll_sint_runTrace_1_UseFirst (kt0_impl_useAll_sint_runTrace_1_UseFirst (fin_impl_useAll_sint_runTrace_1_UseFirst t0 cache1 use2c1 kk)) j (can0_impl_useAll_sint_runTrace_1_UseFirst t0 use2c1 xt14 xhits8 xt15 xcache1)) := by kernel_rfl
theorem e_impl_useAll_sint_runTrace_1_UseFirst (t0 : List Int) (cache1 : List Int) (use2c1 : Int) (kk : AV → List A1 → Prop) :
    ev TT cs_impl_useAll_sint_runTrace_1_UseFirst 33 an_impl_useAll_sint_runTrace_1_UseFirst (Try.f74.body.getD .skip) (st0 con_impl_useAll_sint [.c (.ro .int t0), .c (.ro .int cache1), .c (.cl 75 [.k (.func (.func 24) ⟨[]⟩ ⟨[]⟩), .k (.int .i64 use2c1)])]) (fin TT con_impl_useAll_sint Try.f74.results.toList [.c (.sl .int), .c .sc] [.c (.ro .int t0), .c (.ro .int cache1), .c (.cl 75 [.k (.func (.func 24) ⟨[]⟩ ⟨[]⟩), .k (.int .i64 use2c1)])] kk) = S_impl_useAll_sint_runTrace_1_UseFirst t0 cache1 use2c1 (fun r0 r1 => kk (.tup [.c (.ro .int r0), .c (.v (.int .i64 r1))]) []) := by
  rw [g_impl_useAll_sint_runTrace_1_UseFirst]
  have hi0 : (fun t0 use2c1 xt14 xhits8 xt15 xcache1 => ∃ j, iter (evF TT cs_impl_useAll_sint_runTrace_1_UseFirst 33 an_impl_useAll_sint_runTrace_1_UseFirst Try.f74 [1, 1, 0, 1, 0, 0]) nm0_impl_useAll_sint_runTrace_1_UseFirst (kt0_impl_useAll_sint_runTrace_1_UseFirst (fin_impl_useAll_sint_runTrace_1_UseFirst t0 cache1 use2c1 kk)) j (can0_impl_useAll_sint_runTrace_1_UseFirst t0 use2c1 xt14 xhits8 xt15 xcache1)) = (fun t0 use2c1 xt14 xhits8 xt15 xcache1 => ∃ j, L0_impl_useAll_sint_runTrace_1_UseFirst t0 use2c1 xt14 (fun r0 r1 => kk (.tup [.c (.ro .int r0), .c (.v (.int .i64 r1))]) []) j xhits8 xt15 xcache1) := by
    funext t0 use2c1 xt14 xhits8 xt15 xcache1
    refine congrArg Exists (funext fun j => ?_)
    rw [l0_impl_useAll_sint_runTrace_1_UseFirst t0 cache1 use2c1 xt14 kk j xhits8 xt15 xcache1]
  rw [hi0]
  rfl
theorem clok_impl_useAll_sint_runTrace_1_UseFirst : ConOK Try.prog cl_impl_useAll_sint_runTrace_1_UseFirst := consCons h_impl_runTrace_1 ⟨Try.f75, Try.func75, by kernel_rfl, ne_of_beq (by kernel_rfl)⟩ (consNil)
theorem cok_impl_useAll_sint_runTrace_1_UseFirst : ConsOK Try.prog 33 cs_impl_useAll_sint_runTrace_1_UseFirst := ⟨clok_impl_useAll_sint_runTrace_1_UseFirst, inlNil⟩
theorem i_impl_useAll_sint_runTrace_1_UseFirst {vs : List A1} {kk : AV → List A1 → Prop} {motive : List A1 → Prop} (h : con_impl_useAll_sint.F vs kk) (H : ∀ (t0 : List Int) (cache1 : List Int) (use2c1 : Int), F_impl_useAll_sint_runTrace_1_UseFirst t0 cache1 use2c1 (fun r0 r1 => kk (.tup [.c (.ro .int r0), .c (.v (.int .i64 r1))]) []) → motive [.c (.ro .int t0), .c (.ro .int cache1), .c (.cl 75 [.k (.func (.func 24) ⟨[]⟩ ⟨[]⟩), .k (.int .i64 use2c1)])]) : motive vs := by
  unfold con_impl_useAll_sint at h
  dsimp only at h
  split at h
  · exact H _ _ _ h
  · exact h.elim
theorem h_impl_useAll_sint : Holds Try.prog 74 con_impl_useAll_sint := by
  refine holds_of_ev (rt := [.c (.sl .int), .c .sc]) (T := TT) (Γ := cs_impl_useAll_sint_runTrace_1_UseFirst) (an := an_impl_useAll_sint_runTrace_1_UseFirst) (N := 33) (c := Try.f74.body.getD .skip) Try.func74 (by kernel_rfl) Try.ntmps74 (by decide) (by decide) mixed tabOK cok_impl_useAll_sint_runTrace_1_UseFirst (by kernel_rfl) ?_
  intro vs kk _ hF
  exact i_impl_useAll_sint_runTrace_1_UseFirst (motive := fun vs => Goes (ev TT cs_impl_useAll_sint_runTrace_1_UseFirst 33 an_impl_useAll_sint_runTrace_1_UseFirst (Try.f74.body.getD .skip) (st0 con_impl_useAll_sint vs) (fin TT con_impl_useAll_sint Try.f74.results.toList [.c (.sl .int), .c .sc] vs kk))) hF (fun t0 cache1 use2c1 hF => goes_of (e_impl_useAll_sint_runTrace_1_UseFirst t0 cache1 use2c1 kk) (F_impl_useAll_sint_runTrace_1_UseFirst_S hF))
def con_impl_runTrace : Con := ⟨[.rd, .rd, .rd], true, [.c (.sl .int), .c (.sc), .c (.fn)], fun vs k => match vs with
    | [.c (.ro .int t0), .c (.v (.int .i64 room1)), .c (.v (.func (.func 24) ⟨[]⟩ ⟨[]⟩))] => F_impl_runTrace_UseFirst t0 room1 (fun r0 r1 => k (.tup [.c (.ro .int r0), .c (.v (.int .i64 r1))]) [])
    | _ => False, false⟩
def cl_impl_runTrace_UseFirst : List (FuncId × Con) := [(71, con_impl_validRoom), (73, con_impl_ValidTrace), (74, con_impl_useAll_sint)]
def an_impl_runTrace_UseFirst : Ann := ⟨[], [], []⟩
def cs_impl_runTrace_UseFirst : Cons := ⟨cl_impl_runTrace_UseFirst, [], 0, [], []⟩
def fin_impl_runTrace_UseFirst (t0 : List Int) (room1 : Int) (kk : AV → List A1 → Prop) : Kt := fin TT con_impl_runTrace Try.f51.results.toList [.c (.sl .int), .c .sc] [.c (.ro .int t0), .c (.v (.int .i64 room1)), .c (.v (.func (.func 24) ⟨[]⟩ ⟨[]⟩))] kk
theorem g_impl_runTrace_UseFirst (t0 : List Int) (room1 : Int) (kk : AV → List A1 → Prop) :
    ev TT cs_impl_runTrace_UseFirst 22 an_impl_runTrace_UseFirst (Try.f51.body.getD .skip) (st0 con_impl_runTrace [.c (.ro .int t0), .c (.v (.int .i64 room1)), .c (.v (.func (.func 24) ⟨[]⟩ ⟨[]⟩))]) (fin TT con_impl_runTrace Try.f51.results.toList [.c (.sl .int), .c .sc] [.c (.ro .int t0), .c (.v (.int .i64 room1)), .c (.v (.func (.func 24) ⟨[]⟩ ⟨[]⟩))] kk) = G_impl_runTrace_UseFirst t0 room1 (fun r0 r1 => kk (.tup [.c (.ro .int r0), .c (.v (.int .i64 r1))]) []) := by kernel_rfl
theorem e_impl_runTrace_UseFirst (t0 : List Int) (room1 : Int) (kk : AV → List A1 → Prop) :
    ev TT cs_impl_runTrace_UseFirst 22 an_impl_runTrace_UseFirst (Try.f51.body.getD .skip) (st0 con_impl_runTrace [.c (.ro .int t0), .c (.v (.int .i64 room1)), .c (.v (.func (.func 24) ⟨[]⟩ ⟨[]⟩))]) (fin TT con_impl_runTrace Try.f51.results.toList [.c (.sl .int), .c .sc] [.c (.ro .int t0), .c (.v (.int .i64 room1)), .c (.v (.func (.func 24) ⟨[]⟩ ⟨[]⟩))] kk) = S_impl_runTrace_UseFirst t0 room1 (fun r0 r1 => kk (.tup [.c (.ro .int r0), .c (.v (.int .i64 r1))]) []) := by
  rw [g_impl_runTrace_UseFirst]
  rfl
theorem clok_impl_runTrace_UseFirst : ConOK Try.prog cl_impl_runTrace_UseFirst := consCons h_impl_validRoom ⟨Try.f71, Try.func71, by kernel_rfl, ne_of_beq (by kernel_rfl)⟩ (consCons h_impl_ValidTrace ⟨Try.f73, Try.func73, by kernel_rfl, ne_of_beq (by kernel_rfl)⟩ (consCons h_impl_useAll_sint ⟨Try.f74, Try.func74, by kernel_rfl, ne_of_beq (by kernel_rfl)⟩ (consNil)))
theorem cok_impl_runTrace_UseFirst : ConsOK Try.prog 22 cs_impl_runTrace_UseFirst := ⟨clok_impl_runTrace_UseFirst, inlNil⟩
theorem i_impl_runTrace_UseFirst {vs : List A1} {kk : AV → List A1 → Prop} {motive : List A1 → Prop} (h : con_impl_runTrace.F vs kk) (H : ∀ (t0 : List Int) (room1 : Int), F_impl_runTrace_UseFirst t0 room1 (fun r0 r1 => kk (.tup [.c (.ro .int r0), .c (.v (.int .i64 r1))]) []) → motive [.c (.ro .int t0), .c (.v (.int .i64 room1)), .c (.v (.func (.func 24) ⟨[]⟩ ⟨[]⟩))]) : motive vs := by
  unfold con_impl_runTrace at h
  dsimp only at h
  split at h
  · exact H _ _ h
  · exact h.elim
theorem h_impl_runTrace : Holds Try.prog 51 con_impl_runTrace := by
  refine holds_of_ev (rt := [.c (.sl .int), .c .sc]) (T := TT) (Γ := cs_impl_runTrace_UseFirst) (an := an_impl_runTrace_UseFirst) (N := 22) (c := Try.f51.body.getD .skip) Try.func51 (by kernel_rfl) Try.ntmps51 (by decide) (by decide) mixed tabOK cok_impl_runTrace_UseFirst (by kernel_rfl) ?_
  intro vs kk _ hF
  exact i_impl_runTrace_UseFirst (motive := fun vs => Goes (ev TT cs_impl_runTrace_UseFirst 22 an_impl_runTrace_UseFirst (Try.f51.body.getD .skip) (st0 con_impl_runTrace vs) (fin TT con_impl_runTrace Try.f51.results.toList [.c (.sl .int), .c .sc] vs kk))) hF (fun t0 room1 hF => goes_of (e_impl_runTrace_UseFirst t0 room1 kk) (F_impl_runTrace_UseFirst_S hF))
def con_impl_RunFirst : Con := ⟨[.rd, .rd], true, [.c (.sl .int), .c (.sc)], fun vs k => match vs with
    | [.c (.ro .int t0), .c (.v (.int .i64 room1))] => F_impl_RunFirst t0 room1 (fun r0 r1 => k (.tup [.c (.ro .int r0), .c (.v (.int .i64 r1))]) [])
    | _ => False, false⟩
def cl_impl_RunFirst : List (FuncId × Con) := [(51, con_impl_runTrace)]
def an_impl_RunFirst : Ann := ⟨[], [], []⟩
def cs_impl_RunFirst : Cons := ⟨cl_impl_RunFirst, [], 0, [], []⟩
def fin_impl_RunFirst (t0 : List Int) (room1 : Int) (kk : AV → List A1 → Prop) : Kt := fin TT con_impl_RunFirst Try.f26.results.toList [.c (.sl .int), .c .sc] [.c (.ro .int t0), .c (.v (.int .i64 room1))] kk
theorem g_impl_RunFirst (t0 : List Int) (room1 : Int) (kk : AV → List A1 → Prop) :
    ev TT cs_impl_RunFirst 11 an_impl_RunFirst (Try.f26.body.getD .skip) (st0 con_impl_RunFirst [.c (.ro .int t0), .c (.v (.int .i64 room1))]) (fin TT con_impl_RunFirst Try.f26.results.toList [.c (.sl .int), .c .sc] [.c (.ro .int t0), .c (.v (.int .i64 room1))] kk) = G_impl_RunFirst t0 room1 (fun r0 r1 => kk (.tup [.c (.ro .int r0), .c (.v (.int .i64 r1))]) []) := by kernel_rfl
theorem e_impl_RunFirst (t0 : List Int) (room1 : Int) (kk : AV → List A1 → Prop) :
    ev TT cs_impl_RunFirst 11 an_impl_RunFirst (Try.f26.body.getD .skip) (st0 con_impl_RunFirst [.c (.ro .int t0), .c (.v (.int .i64 room1))]) (fin TT con_impl_RunFirst Try.f26.results.toList [.c (.sl .int), .c .sc] [.c (.ro .int t0), .c (.v (.int .i64 room1))] kk) = S_impl_RunFirst t0 room1 (fun r0 r1 => kk (.tup [.c (.ro .int r0), .c (.v (.int .i64 r1))]) []) := by
  rw [g_impl_RunFirst]
  rfl
theorem clok_impl_RunFirst : ConOK Try.prog cl_impl_RunFirst := consCons h_impl_runTrace ⟨Try.f51, Try.func51, by kernel_rfl, ne_of_beq (by kernel_rfl)⟩ (consNil)
theorem cok_impl_RunFirst : ConsOK Try.prog 11 cs_impl_RunFirst := ⟨clok_impl_RunFirst, inlNil⟩
theorem i_impl_RunFirst {vs : List A1} {kk : AV → List A1 → Prop} {motive : List A1 → Prop} (h : con_impl_RunFirst.F vs kk) (H : ∀ (t0 : List Int) (room1 : Int), F_impl_RunFirst t0 room1 (fun r0 r1 => kk (.tup [.c (.ro .int r0), .c (.v (.int .i64 r1))]) []) → motive [.c (.ro .int t0), .c (.v (.int .i64 room1))]) : motive vs := by
  unfold con_impl_RunFirst at h
  dsimp only at h
  split at h
  · exact H _ _ h
  · exact h.elim
theorem h_impl_RunFirst : Holds Try.prog 26 con_impl_RunFirst := by
  refine holds_of_ev (rt := [.c (.sl .int), .c .sc]) (T := TT) (Γ := cs_impl_RunFirst) (an := an_impl_RunFirst) (N := 11) (c := Try.f26.body.getD .skip) Try.func26 (by kernel_rfl) Try.ntmps26 (by decide) (by decide) mixed tabOK cok_impl_RunFirst (by kernel_rfl) ?_
  intro vs kk _ hF
  exact i_impl_RunFirst (motive := fun vs => Goes (ev TT cs_impl_RunFirst 11 an_impl_RunFirst (Try.f26.body.getD .skip) (st0 con_impl_RunFirst vs) (fin TT con_impl_RunFirst Try.f26.results.toList [.c (.sl .int), .c .sc] vs kk))) hF (fun t0 room1 hF => goes_of (e_impl_RunFirst t0 room1 kk) (F_impl_RunFirst_S hF))
def con_laws_eqIntS : Con := ⟨[.rd, .rd], true, [.c (.sl .int), .c (.sl .int)], fun vs k => match vs with
    | [.c (.ro .int a0), .c (.ro .int b1)] => F_laws_eqIntS a0 b1 (fun r0 => k (.one (.c (.v (.bool r0)))) [])
    | _ => False, false⟩
def cl_laws_eqIntS : List (FuncId × Con) := []
def nm0_laws_eqIntS : List NStep := [.keep [0, 1, 5] []]
def an_laws_eqIntS : Ann := ⟨[(6, .take 0 (.take 1 (.take 2 (.take 3 (.take 4 (.take 5 (.take 6 (.take 7 (.take 8 (.done))))))))), [])], [(4, nm0_laws_eqIntS)], []⟩
def cs_laws_eqIntS : Cons := ⟨cl_laws_eqIntS, [], 0, [], []⟩
def can0_laws_eqIntS (a0 : List Int) (b1 : List Int) (xi5 : Int) : St := ⟨[(0, .one (.c (.ro .int a0))), (1, .one (.c (.ro .int b1))), (5, .one (.c (.v (.int .i64 xi5))))], []⟩
def fin_laws_eqIntS (a0 : List Int) (b1 : List Int) (kk : AV → List A1 → Prop) : Kt := fin TT con_laws_eqIntS Try.f18.results.toList [.c .sc] [.c (.ro .int a0), .c (.ro .int b1)] kk
def kt0_laws_eqIntS (kf : Kt) : Kt := blockK 0 (seqK (evF TT cs_laws_eqIntS 26 an_laws_eqIntS Try.f18 [1, 1, 1]) (kf))
theorem r0_laws_eqIntS (a0 : List Int) (b1 : List Int) (kk : AV → List A1 → Prop) (n : Nat) (xi5 : Int) :
    iter (evF TT cs_laws_eqIntS 26 an_laws_eqIntS Try.f18 [1, 1, 0, 1, 0, 0]) nm0_laws_eqIntS (kt0_laws_eqIntS (fin_laws_eqIntS a0 b1 kk)) (n + 1) (can0_laws_eqIntS a0 b1 xi5) = T0_laws_eqIntS a0 b1 xi5 (fun r0 => kk (.one (.c (.v (.bool r0)))) []) (fun xi5 => iter (evF TT cs_laws_eqIntS 26 an_laws_eqIntS Try.f18 [1, 1, 0, 1, 0, 0]) nm0_laws_eqIntS (kt0_laws_eqIntS (fin_laws_eqIntS a0 b1 kk)) n (can0_laws_eqIntS a0 b1 xi5)) := by kernel_rfl
theorem l0_laws_eqIntS (a0 : List Int) (b1 : List Int) (kk : AV → List A1 → Prop) : ∀ (n : Nat) (xi5 : Int), iter (evF TT cs_laws_eqIntS 26 an_laws_eqIntS Try.f18 [1, 1, 0, 1, 0, 0]) nm0_laws_eqIntS (kt0_laws_eqIntS (fin_laws_eqIntS a0 b1 kk)) n (can0_laws_eqIntS a0 b1 xi5) = L0_laws_eqIntS a0 b1 (fun r0 => kk (.one (.c (.v (.bool r0)))) []) n xi5 := by
  intro n
  induction n with
  | zero => intros; rfl
  | succ n ih =>
    intro xi5
    rw [r0_laws_eqIntS a0 b1 kk n xi5]
    have hb : (fun xi5 => iter (evF TT cs_laws_eqIntS 26 an_laws_eqIntS Try.f18 [1, 1, 0, 1, 0, 0]) nm0_laws_eqIntS (kt0_laws_eqIntS (fin_laws_eqIntS a0 b1 kk)) n (can0_laws_eqIntS a0 b1 xi5)) = L0_laws_eqIntS a0 b1 (fun r0 => kk (.one (.c (.v (.bool r0)))) []) n := by
      funext xi5; exact ih xi5
    rw [hb]
    rfl
theorem g_laws_eqIntS (a0 : List Int) (b1 : List Int) (kk : AV → List A1 → Prop) :
    ev TT cs_laws_eqIntS 26 an_laws_eqIntS (Try.f18.body.getD .skip) (st0 con_laws_eqIntS [.c (.ro .int a0), .c (.ro .int b1)]) (fin TT con_laws_eqIntS Try.f18.results.toList [.c .sc] [.c (.ro .int a0), .c (.ro .int b1)] kk) = G_laws_eqIntS a0 b1 (fun r0 => kk (.one (.c (.v (.bool r0)))) []) (fun a0 b1 xi5 => ∃ j, iter (evF TT cs_laws_eqIntS 26 an_laws_eqIntS Try.f18 [1, 1, 0, 1, 0, 0]) nm0_laws_eqIntS (kt0_laws_eqIntS (fin_laws_eqIntS a0 b1 kk)) j (can0_laws_eqIntS a0 b1 xi5)) := by kernel_rfl
theorem e_laws_eqIntS (a0 : List Int) (b1 : List Int) (kk : AV → List A1 → Prop) :
    ev TT cs_laws_eqIntS 26 an_laws_eqIntS (Try.f18.body.getD .skip) (st0 con_laws_eqIntS [.c (.ro .int a0), .c (.ro .int b1)]) (fin TT con_laws_eqIntS Try.f18.results.toList [.c .sc] [.c (.ro .int a0), .c (.ro .int b1)] kk) = S_laws_eqIntS a0 b1 (fun r0 => kk (.one (.c (.v (.bool r0)))) []) := by
  rw [g_laws_eqIntS]
  have hi0 : (fun a0 b1 xi5 => ∃ j, iter (evF TT cs_laws_eqIntS 26 an_laws_eqIntS Try.f18 [1, 1, 0, 1, 0, 0]) nm0_laws_eqIntS (kt0_laws_eqIntS (fin_laws_eqIntS a0 b1 kk)) j (can0_laws_eqIntS a0 b1 xi5)) = (fun a0 b1 xi5 => ∃ j, L0_laws_eqIntS a0 b1 (fun r0 => kk (.one (.c (.v (.bool r0)))) []) j xi5) := by
    funext a0 b1 xi5
    refine congrArg Exists (funext fun j => ?_)
    rw [l0_laws_eqIntS a0 b1 kk j xi5]
  rw [hi0]
  rfl
theorem clok_laws_eqIntS : ConOK Try.prog cl_laws_eqIntS := consNil
theorem cok_laws_eqIntS : ConsOK Try.prog 26 cs_laws_eqIntS := ⟨clok_laws_eqIntS, inlNil⟩
theorem i_laws_eqIntS {vs : List A1} {kk : AV → List A1 → Prop} {motive : List A1 → Prop} (h : con_laws_eqIntS.F vs kk) (H : ∀ (a0 : List Int) (b1 : List Int), F_laws_eqIntS a0 b1 (fun r0 => kk (.one (.c (.v (.bool r0)))) []) → motive [.c (.ro .int a0), .c (.ro .int b1)]) : motive vs := by
  unfold con_laws_eqIntS at h
  dsimp only at h
  split at h
  · exact H _ _ h
  · exact h.elim
theorem h_laws_eqIntS : Holds Try.prog 18 con_laws_eqIntS := by
  refine holds_of_ev (rt := [.c .sc]) (T := TT) (Γ := cs_laws_eqIntS) (an := an_laws_eqIntS) (N := 26) (c := Try.f18.body.getD .skip) Try.func18 (by kernel_rfl) Try.ntmps18 (by decide) (by decide) mixed tabOK cok_laws_eqIntS (by kernel_rfl) ?_
  intro vs kk _ hF
  exact i_laws_eqIntS (motive := fun vs => Goes (ev TT cs_laws_eqIntS 26 an_laws_eqIntS (Try.f18.body.getD .skip) (st0 con_laws_eqIntS vs) (fin TT con_laws_eqIntS Try.f18.results.toList [.c .sc] vs kk))) hF (fun a0 b1 hF => goes_of (e_laws_eqIntS a0 b1 kk) (F_laws_eqIntS_S hF))
def con_laws_markIntS : Con := ⟨[.mu, .rd], true, [.c (.sl .int), .c (.sc)], fun vs k => match vs with
    | [.c (.ro .int a0), .c (.v (.int .i64 k1))] => F_laws_markIntS a0 k1 (fun r0 r1 => k (.one (.c (.v (.int .i64 r0)))) [.c (.ro .int r1)])
    | _ => False, false⟩
def cl_laws_markIntS : List (FuncId × Con) := []
def nm0_laws_markIntS : List NStep := [.keep [0, 1, 5] [100000]]
def an_laws_markIntS : Ann := ⟨[], [(2, nm0_laws_markIntS)], []⟩
def cs_laws_markIntS : Cons := ⟨cl_laws_markIntS, [], 0, [], []⟩
def can0_laws_markIntS (xk1 : Int) (xi5 : Int) (xy100000 : List Int) : St := ⟨[(0, .one (.c (.ow 100000))), (1, .one (.c (.v (.int .i64 xk1)))), (5, .one (.c (.v (.int .i64 xi5))))], [(100000, .row .int xy100000)]⟩
def fin_laws_markIntS (a0 : List Int) (k1 : Int) (kk : AV → List A1 → Prop) : Kt := fin TT con_laws_markIntS Try.f19.results.toList [.c .sc] [.c (.ro .int a0), .c (.v (.int .i64 k1))] kk
def kt0_laws_markIntS (kf : Kt) : Kt := blockK 0 (seqK (evF TT cs_laws_markIntS 19 an_laws_markIntS Try.f19 [1, 1]) (kf))
theorem r0_laws_markIntS (a0 : List Int) (k1 : Int) (kk : AV → List A1 → Prop) (n : Nat) (xk1 : Int) (xi5 : Int) (xy100000 : List Int) :
    iter (evF TT cs_laws_markIntS 19 an_laws_markIntS Try.f19 [1, 0, 1, 0, 0]) nm0_laws_markIntS (kt0_laws_markIntS (fin_laws_markIntS a0 k1 kk)) (n + 1) (can0_laws_markIntS xk1 xi5 xy100000) = T0_laws_markIntS xk1 xi5 xy100000 (fun r0 r1 => kk (.one (.c (.v (.int .i64 r0)))) [.c (.ro .int r1)]) (fun xk1 xi5 xy100000 => iter (evF TT cs_laws_markIntS 19 an_laws_markIntS Try.f19 [1, 0, 1, 0, 0]) nm0_laws_markIntS (kt0_laws_markIntS (fin_laws_markIntS a0 k1 kk)) n (can0_laws_markIntS xk1 xi5 xy100000)) := by kernel_rfl
theorem l0_laws_markIntS (a0 : List Int) (k1 : Int) (kk : AV → List A1 → Prop) : ∀ (n : Nat) (xk1 : Int) (xi5 : Int) (xy100000 : List Int), iter (evF TT cs_laws_markIntS 19 an_laws_markIntS Try.f19 [1, 0, 1, 0, 0]) nm0_laws_markIntS (kt0_laws_markIntS (fin_laws_markIntS a0 k1 kk)) n (can0_laws_markIntS xk1 xi5 xy100000) = L0_laws_markIntS (fun r0 r1 => kk (.one (.c (.v (.int .i64 r0)))) [.c (.ro .int r1)]) n xk1 xi5 xy100000 := by
  intro n
  induction n with
  | zero => intros; rfl
  | succ n ih =>
    intro xk1 xi5 xy100000
    rw [r0_laws_markIntS a0 k1 kk n xk1 xi5 xy100000]
    have hb : (fun xk1 xi5 xy100000 => iter (evF TT cs_laws_markIntS 19 an_laws_markIntS Try.f19 [1, 0, 1, 0, 0]) nm0_laws_markIntS (kt0_laws_markIntS (fin_laws_markIntS a0 k1 kk)) n (can0_laws_markIntS xk1 xi5 xy100000)) = L0_laws_markIntS (fun r0 r1 => kk (.one (.c (.v (.int .i64 r0)))) [.c (.ro .int r1)]) n := by
      funext xk1 xi5 xy100000; exact ih xk1 xi5 xy100000
    rw [hb]
    rfl
theorem g_laws_markIntS (a0 : List Int) (k1 : Int) (kk : AV → List A1 → Prop) :
    ev TT cs_laws_markIntS 19 an_laws_markIntS (Try.f19.body.getD .skip) (st0 con_laws_markIntS [.c (.ro .int a0), .c (.v (.int .i64 k1))]) (fin TT con_laws_markIntS Try.f19.results.toList [.c .sc] [.c (.ro .int a0), .c (.v (.int .i64 k1))] kk) = G_laws_markIntS a0 k1 (fun xk1 xi5 xy100000 => ∃ j, iter (evF TT cs_laws_markIntS 19 an_laws_markIntS Try.f19 [1, 0, 1, 0, 0]) nm0_laws_markIntS (kt0_laws_markIntS (fin_laws_markIntS a0 k1 kk)) j (can0_laws_markIntS xk1 xi5 xy100000)) := by kernel_rfl
theorem e_laws_markIntS (a0 : List Int) (k1 : Int) (kk : AV → List A1 → Prop) :
    ev TT cs_laws_markIntS 19 an_laws_markIntS (Try.f19.body.getD .skip) (st0 con_laws_markIntS [.c (.ro .int a0), .c (.v (.int .i64 k1))]) (fin TT con_laws_markIntS Try.f19.results.toList [.c .sc] [.c (.ro .int a0), .c (.v (.int .i64 k1))] kk) = S_laws_markIntS a0 k1 (fun r0 r1 => kk (.one (.c (.v (.int .i64 r0)))) [.c (.ro .int r1)]) := by
  rw [g_laws_markIntS]
  have hi0 : (fun xk1 xi5 xy100000 => ∃ j, iter (evF TT cs_laws_markIntS 19 an_laws_markIntS Try.f19 [1, 0, 1, 0, 0]) nm0_laws_markIntS (kt0_laws_markIntS (fin_laws_markIntS a0 k1 kk)) j (can0_laws_markIntS xk1 xi5 xy100000)) = (fun xk1 xi5 xy100000 => ∃ j, L0_laws_markIntS (fun r0 r1 => kk (.one (.c (.v (.int .i64 r0)))) [.c (.ro .int r1)]) j xk1 xi5 xy100000) := by
    funext xk1 xi5 xy100000
    refine congrArg Exists (funext fun j => ?_)
    rw [l0_laws_markIntS a0 k1 kk j xk1 xi5 xy100000]
  rw [hi0]
  rfl
theorem clok_laws_markIntS : ConOK Try.prog cl_laws_markIntS := consNil
theorem cok_laws_markIntS : ConsOK Try.prog 19 cs_laws_markIntS := ⟨clok_laws_markIntS, inlNil⟩
theorem i_laws_markIntS {vs : List A1} {kk : AV → List A1 → Prop} {motive : List A1 → Prop} (h : con_laws_markIntS.F vs kk) (H : ∀ (a0 : List Int) (k1 : Int), F_laws_markIntS a0 k1 (fun r0 r1 => kk (.one (.c (.v (.int .i64 r0)))) [.c (.ro .int r1)]) → motive [.c (.ro .int a0), .c (.v (.int .i64 k1))]) : motive vs := by
  unfold con_laws_markIntS at h
  dsimp only at h
  split at h
  · exact H _ _ h
  · exact h.elim
theorem h_laws_markIntS : Holds Try.prog 19 con_laws_markIntS := by
  refine holds_of_ev (rt := [.c .sc]) (T := TT) (Γ := cs_laws_markIntS) (an := an_laws_markIntS) (N := 19) (c := Try.f19.body.getD .skip) Try.func19 (by kernel_rfl) Try.ntmps19 (by decide) (by decide) mixed tabOK cok_laws_markIntS (by kernel_rfl) ?_
  intro vs kk _ hF
  exact i_laws_markIntS (motive := fun vs => Goes (ev TT cs_laws_markIntS 19 an_laws_markIntS (Try.f19.body.getD .skip) (st0 con_laws_markIntS vs) (fin TT con_laws_markIntS Try.f19.results.toList [.c .sc] vs kk))) hF (fun a0 k1 hF => goes_of (e_laws_markIntS a0 k1 kk) (F_laws_markIntS_S hF))
def con_laws_heldIntS : Con := ⟨[.rd, .rd], true, [.c (.sl .int), .c (.sc)], fun vs k => match vs with
    | [.c (.ro .int a0), .c (.v (.int .i64 k1))] => F_laws_heldIntS a0 k1 (fun r0 => k (.one (.c (.v (.int .i64 r0)))) [])
    | _ => False, false⟩
def cl_laws_heldIntS : List (FuncId × Con) := []
def nm0_laws_heldIntS : List NStep := [.keep [0, 1, 5] []]
def an_laws_heldIntS : Ann := ⟨[], [(2, nm0_laws_heldIntS)], []⟩
def cs_laws_heldIntS : Cons := ⟨cl_laws_heldIntS, [], 0, [], []⟩
def can0_laws_heldIntS (a0 : List Int) (xk1 : Int) (xi5 : Int) : St := ⟨[(0, .one (.c (.ro .int a0))), (1, .one (.c (.v (.int .i64 xk1)))), (5, .one (.c (.v (.int .i64 xi5))))], []⟩
def fin_laws_heldIntS (a0 : List Int) (k1 : Int) (kk : AV → List A1 → Prop) : Kt := fin TT con_laws_heldIntS Try.f20.results.toList [.c .sc] [.c (.ro .int a0), .c (.v (.int .i64 k1))] kk
def kt0_laws_heldIntS (kf : Kt) : Kt := blockK 0 (seqK (evF TT cs_laws_heldIntS 21 an_laws_heldIntS Try.f20 [1, 1]) (kf))
theorem r0_laws_heldIntS (a0 : List Int) (k1 : Int) (kk : AV → List A1 → Prop) (n : Nat) (xk1 : Int) (xi5 : Int) :
    iter (evF TT cs_laws_heldIntS 21 an_laws_heldIntS Try.f20 [1, 0, 1, 0, 0]) nm0_laws_heldIntS (kt0_laws_heldIntS (fin_laws_heldIntS a0 k1 kk)) (n + 1) (can0_laws_heldIntS a0 xk1 xi5) = T0_laws_heldIntS a0 xk1 xi5 (fun r0 => kk (.one (.c (.v (.int .i64 r0)))) []) (fun xk1 xi5 => iter (evF TT cs_laws_heldIntS 21 an_laws_heldIntS Try.f20 [1, 0, 1, 0, 0]) nm0_laws_heldIntS (kt0_laws_heldIntS (fin_laws_heldIntS a0 k1 kk)) n (can0_laws_heldIntS a0 xk1 xi5)) := by kernel_rfl
theorem l0_laws_heldIntS (a0 : List Int) (k1 : Int) (kk : AV → List A1 → Prop) : ∀ (n : Nat) (xk1 : Int) (xi5 : Int), iter (evF TT cs_laws_heldIntS 21 an_laws_heldIntS Try.f20 [1, 0, 1, 0, 0]) nm0_laws_heldIntS (kt0_laws_heldIntS (fin_laws_heldIntS a0 k1 kk)) n (can0_laws_heldIntS a0 xk1 xi5) = L0_laws_heldIntS a0 (fun r0 => kk (.one (.c (.v (.int .i64 r0)))) []) n xk1 xi5 := by
  intro n
  induction n with
  | zero => intros; rfl
  | succ n ih =>
    intro xk1 xi5
    rw [r0_laws_heldIntS a0 k1 kk n xk1 xi5]
    have hb : (fun xk1 xi5 => iter (evF TT cs_laws_heldIntS 21 an_laws_heldIntS Try.f20 [1, 0, 1, 0, 0]) nm0_laws_heldIntS (kt0_laws_heldIntS (fin_laws_heldIntS a0 k1 kk)) n (can0_laws_heldIntS a0 xk1 xi5)) = L0_laws_heldIntS a0 (fun r0 => kk (.one (.c (.v (.int .i64 r0)))) []) n := by
      funext xk1 xi5; exact ih xk1 xi5
    rw [hb]
    rfl
theorem g_laws_heldIntS (a0 : List Int) (k1 : Int) (kk : AV → List A1 → Prop) :
    ev TT cs_laws_heldIntS 21 an_laws_heldIntS (Try.f20.body.getD .skip) (st0 con_laws_heldIntS [.c (.ro .int a0), .c (.v (.int .i64 k1))]) (fin TT con_laws_heldIntS Try.f20.results.toList [.c .sc] [.c (.ro .int a0), .c (.v (.int .i64 k1))] kk) = G_laws_heldIntS a0 k1 (fun a0 xk1 xi5 => ∃ j, iter (evF TT cs_laws_heldIntS 21 an_laws_heldIntS Try.f20 [1, 0, 1, 0, 0]) nm0_laws_heldIntS (kt0_laws_heldIntS (fin_laws_heldIntS a0 k1 kk)) j (can0_laws_heldIntS a0 xk1 xi5)) := by kernel_rfl
theorem e_laws_heldIntS (a0 : List Int) (k1 : Int) (kk : AV → List A1 → Prop) :
    ev TT cs_laws_heldIntS 21 an_laws_heldIntS (Try.f20.body.getD .skip) (st0 con_laws_heldIntS [.c (.ro .int a0), .c (.v (.int .i64 k1))]) (fin TT con_laws_heldIntS Try.f20.results.toList [.c .sc] [.c (.ro .int a0), .c (.v (.int .i64 k1))] kk) = S_laws_heldIntS a0 k1 (fun r0 => kk (.one (.c (.v (.int .i64 r0)))) []) := by
  rw [g_laws_heldIntS]
  have hi0 : (fun a0 xk1 xi5 => ∃ j, iter (evF TT cs_laws_heldIntS 21 an_laws_heldIntS Try.f20 [1, 0, 1, 0, 0]) nm0_laws_heldIntS (kt0_laws_heldIntS (fin_laws_heldIntS a0 k1 kk)) j (can0_laws_heldIntS a0 xk1 xi5)) = (fun a0 xk1 xi5 => ∃ j, L0_laws_heldIntS a0 (fun r0 => kk (.one (.c (.v (.int .i64 r0)))) []) j xk1 xi5) := by
    funext a0 xk1 xi5
    refine congrArg Exists (funext fun j => ?_)
    rw [l0_laws_heldIntS a0 k1 kk j xk1 xi5]
  rw [hi0]
  rfl
theorem clok_laws_heldIntS : ConOK Try.prog cl_laws_heldIntS := consNil
theorem cok_laws_heldIntS : ConsOK Try.prog 21 cs_laws_heldIntS := ⟨clok_laws_heldIntS, inlNil⟩
theorem i_laws_heldIntS {vs : List A1} {kk : AV → List A1 → Prop} {motive : List A1 → Prop} (h : con_laws_heldIntS.F vs kk) (H : ∀ (a0 : List Int) (k1 : Int), F_laws_heldIntS a0 k1 (fun r0 => kk (.one (.c (.v (.int .i64 r0)))) []) → motive [.c (.ro .int a0), .c (.v (.int .i64 k1))]) : motive vs := by
  unfold con_laws_heldIntS at h
  dsimp only at h
  split at h
  · exact H _ _ h
  · exact h.elim
theorem h_laws_heldIntS : Holds Try.prog 20 con_laws_heldIntS := by
  refine holds_of_ev (rt := [.c .sc]) (T := TT) (Γ := cs_laws_heldIntS) (an := an_laws_heldIntS) (N := 21) (c := Try.f20.body.getD .skip) Try.func20 (by kernel_rfl) Try.ntmps20 (by decide) (by decide) mixed tabOK cok_laws_heldIntS (by kernel_rfl) ?_
  intro vs kk _ hF
  exact i_laws_heldIntS (motive := fun vs => Goes (ev TT cs_laws_heldIntS 21 an_laws_heldIntS (Try.f20.body.getD .skip) (st0 con_laws_heldIntS vs) (fin TT con_laws_heldIntS Try.f20.results.toList [.c .sc] vs kk))) hF (fun a0 k1 hF => goes_of (e_laws_heldIntS a0 k1 kk) (F_laws_heldIntS_S hF))
def con_laws_FnExactRunFirst : Con := ⟨[.rd, .rd], true, [.c (.sl .int), .c (.sc)], fun vs k => match vs with
    | [.c (.ro .int aT0), .c (.v (.int .i64 aRoom1))] => F_laws_FnExactRunFirst aT0 aRoom1 (fun r0 => k (.one (.c (.v (.bool r0)))) [])
    | _ => False, false⟩
def cl_laws_FnExactRunFirst : List (FuncId × Con) := [(16, con_laws_toIntS), (18, con_laws_eqIntS), (19, con_laws_markIntS), (20, con_laws_heldIntS), (25, con_spec_RunFirst), (26, con_impl_RunFirst)]
def an_laws_FnExactRunFirst : Ann := ⟨[], [], []⟩
def cs_laws_FnExactRunFirst : Cons := ⟨cl_laws_FnExactRunFirst, [], 0, [], []⟩
def fin_laws_FnExactRunFirst (aT0 : List Int) (aRoom1 : Int) (kk : AV → List A1 → Prop) : Kt := fin TT con_laws_FnExactRunFirst Try.f7.results.toList [.c .sc] [.c (.ro .int aT0), .c (.v (.int .i64 aRoom1))] kk
theorem g_laws_FnExactRunFirst (aT0 : List Int) (aRoom1 : Int) (kk : AV → List A1 → Prop) :
    ev TT cs_laws_FnExactRunFirst 98 an_laws_FnExactRunFirst (Try.f7.body.getD .skip) (st0 con_laws_FnExactRunFirst [.c (.ro .int aT0), .c (.v (.int .i64 aRoom1))]) (fin TT con_laws_FnExactRunFirst Try.f7.results.toList [.c .sc] [.c (.ro .int aT0), .c (.v (.int .i64 aRoom1))] kk) = G_laws_FnExactRunFirst aT0 aRoom1 (fun r0 => kk (.one (.c (.v (.bool r0)))) []) := by kernel_rfl
theorem e_laws_FnExactRunFirst (aT0 : List Int) (aRoom1 : Int) (kk : AV → List A1 → Prop) :
    ev TT cs_laws_FnExactRunFirst 98 an_laws_FnExactRunFirst (Try.f7.body.getD .skip) (st0 con_laws_FnExactRunFirst [.c (.ro .int aT0), .c (.v (.int .i64 aRoom1))]) (fin TT con_laws_FnExactRunFirst Try.f7.results.toList [.c .sc] [.c (.ro .int aT0), .c (.v (.int .i64 aRoom1))] kk) = S_laws_FnExactRunFirst aT0 aRoom1 (fun r0 => kk (.one (.c (.v (.bool r0)))) []) := by
  rw [g_laws_FnExactRunFirst]
  rfl
theorem clok_laws_FnExactRunFirst : ConOK Try.prog cl_laws_FnExactRunFirst := consCons h_laws_toIntS ⟨Try.f16, Try.func16, by kernel_rfl, ne_of_beq (by kernel_rfl)⟩ (consCons h_laws_eqIntS ⟨Try.f18, Try.func18, by kernel_rfl, ne_of_beq (by kernel_rfl)⟩ (consCons h_laws_markIntS ⟨Try.f19, Try.func19, by kernel_rfl, ne_of_beq (by kernel_rfl)⟩ (consCons h_laws_heldIntS ⟨Try.f20, Try.func20, by kernel_rfl, ne_of_beq (by kernel_rfl)⟩ (consCons h_spec_RunFirst ⟨Try.f25, Try.func25, by kernel_rfl, ne_of_beq (by kernel_rfl)⟩ (consCons h_impl_RunFirst ⟨Try.f26, Try.func26, by kernel_rfl, ne_of_beq (by kernel_rfl)⟩ (consNil))))))
theorem cok_laws_FnExactRunFirst : ConsOK Try.prog 98 cs_laws_FnExactRunFirst := ⟨clok_laws_FnExactRunFirst, inlNil⟩
theorem i_laws_FnExactRunFirst {vs : List A1} {kk : AV → List A1 → Prop} {motive : List A1 → Prop} (h : con_laws_FnExactRunFirst.F vs kk) (H : ∀ (aT0 : List Int) (aRoom1 : Int), F_laws_FnExactRunFirst aT0 aRoom1 (fun r0 => kk (.one (.c (.v (.bool r0)))) []) → motive [.c (.ro .int aT0), .c (.v (.int .i64 aRoom1))]) : motive vs := by
  unfold con_laws_FnExactRunFirst at h
  dsimp only at h
  split at h
  · exact H _ _ h
  · exact h.elim
theorem h_laws_FnExactRunFirst : Holds Try.prog 7 con_laws_FnExactRunFirst := by
  refine holds_of_ev (rt := [.c .sc]) (T := TT) (Γ := cs_laws_FnExactRunFirst) (an := an_laws_FnExactRunFirst) (N := 98) (c := Try.f7.body.getD .skip) Try.func7 (by kernel_rfl) Try.ntmps7 (by decide) (by decide) mixed tabOK cok_laws_FnExactRunFirst (by kernel_rfl) ?_
  intro vs kk _ hF
  exact i_laws_FnExactRunFirst (motive := fun vs => Goes (ev TT cs_laws_FnExactRunFirst 98 an_laws_FnExactRunFirst (Try.f7.body.getD .skip) (st0 con_laws_FnExactRunFirst vs) (fin TT con_laws_FnExactRunFirst Try.f7.results.toList [.c .sc] vs kk))) hF (fun aT0 aRoom1 hF => goes_of (e_laws_FnExactRunFirst aT0 aRoom1 kk) (F_laws_FnExactRunFirst_S hF))
end Go.Ev
