/- What the evaluator gives for these functions: their contracts. No statement is proved here. -/
import Derived.Test.YtacohagnclnkdadFnExactBestSplitP0
import Derived.Test.YtacohagnclnkdadTt
namespace Go.Ev
set_option linter.unusedVariables false
set_option linter.unusedSimpArgs false
set_option maxRecDepth 100000
open Go Go.Proofs
def con_laws_toIntS : Con := ⟨[.rd], true, [.c (.sl .int)], fun vs k => match vs with
    | [.c (.ro .int a0)] => F_laws_toIntS a0 (fun r0 => k (.one (.c (.ro .int r0))) [])
    | _ => False, false⟩
def cl_laws_toIntS : List (FuncId × Con) := []
def nm0_laws_toIntS : List NStep := [.keep [0, 3, 4] [112]]
def an_laws_toIntS : Ann := ⟨[], [(3, nm0_laws_toIntS)], [], []⟩
def cs_laws_toIntS : Cons := ⟨cl_laws_toIntS, [], 0, [], [], []⟩
def can0_laws_toIntS (a0 : List Int) (xi4 : Int) (xy7 : List Int) : St := ⟨[(0, .one (.c (.ro .int a0))), (3, .one (.c (.ow 112))), (4, .one (.c (.v (.int .i64 xi4))))], [(112, .row .int xy7)]⟩
def fin_laws_toIntS (a0 : List Int) (kk : AV → List A1 → Prop) : Kt := fin TT con_laws_toIntS Try.f17.results.toList [.c (.sl .int)] [.c (.ro .int a0)] kk
def kt0_laws_toIntS (kf : Kt) : Kt := blockK 0 (seqK (evF TT cs_laws_toIntS 22 an_laws_toIntS Try.f17 [1, 1, 1]) (kf))
theorem r0_laws_toIntS (a0 : List Int) (kk : AV → List A1 → Prop) (n : Nat) (xi4 : Int) (xy7 : List Int) :
    iter (evF TT cs_laws_toIntS 22 an_laws_toIntS Try.f17 [1, 1, 0, 1, 0, 0]) nm0_laws_toIntS (kt0_laws_toIntS (fin_laws_toIntS a0 kk)) (n + 1) (can0_laws_toIntS a0 xi4 xy7) = T0_laws_toIntS a0 xi4 xy7 (fun r0 => kk (.one (.c (.ro .int r0))) []) (fun xi4 xy7 => iter (evF TT cs_laws_toIntS 22 an_laws_toIntS Try.f17 [1, 1, 0, 1, 0, 0]) nm0_laws_toIntS (kt0_laws_toIntS (fin_laws_toIntS a0 kk)) n (can0_laws_toIntS a0 xi4 xy7)) := by kernel_rfl
theorem l0_laws_toIntS (a0 : List Int) (kk : AV → List A1 → Prop) : ∀ (n : Nat) (xi4 : Int) (xy7 : List Int), iter (evF TT cs_laws_toIntS 22 an_laws_toIntS Try.f17 [1, 1, 0, 1, 0, 0]) nm0_laws_toIntS (kt0_laws_toIntS (fin_laws_toIntS a0 kk)) n (can0_laws_toIntS a0 xi4 xy7) = L0_laws_toIntS a0 (fun r0 => kk (.one (.c (.ro .int r0))) []) n xi4 xy7 := by
  intro n
  induction n with
  | zero => intros; rfl
  | succ n ih =>
    intro xi4 xy7
    rw [r0_laws_toIntS a0 kk n xi4 xy7]
    have hb : (fun xi4 xy7 => iter (evF TT cs_laws_toIntS 22 an_laws_toIntS Try.f17 [1, 1, 0, 1, 0, 0]) nm0_laws_toIntS (kt0_laws_toIntS (fin_laws_toIntS a0 kk)) n (can0_laws_toIntS a0 xi4 xy7)) = L0_laws_toIntS a0 (fun r0 => kk (.one (.c (.ro .int r0))) []) n := by
      funext xi4 xy7; exact ih xi4 xy7
    rw [hb]
    rfl
theorem g_laws_toIntS (a0 : List Int) (kk : AV → List A1 → Prop) :
    ev TT cs_laws_toIntS 22 an_laws_toIntS (Try.f17.body.getD .skip) (st0 con_laws_toIntS [.c (.ro .int a0)]) (fin TT con_laws_toIntS Try.f17.results.toList [.c (.sl .int)] [.c (.ro .int a0)] kk) = G_laws_toIntS a0 (fun a0 xi4 xy7 => ∃ j, iter (evF TT cs_laws_toIntS 22 an_laws_toIntS Try.f17 [1, 1, 0, 1, 0, 0]) nm0_laws_toIntS (kt0_laws_toIntS (fin_laws_toIntS a0 kk)) j (can0_laws_toIntS a0 xi4 xy7)) := by kernel_rfl
theorem e_laws_toIntS (a0 : List Int) (kk : AV → List A1 → Prop) :
    ev TT cs_laws_toIntS 22 an_laws_toIntS (Try.f17.body.getD .skip) (st0 con_laws_toIntS [.c (.ro .int a0)]) (fin TT con_laws_toIntS Try.f17.results.toList [.c (.sl .int)] [.c (.ro .int a0)] kk) = S_laws_toIntS a0 (fun r0 => kk (.one (.c (.ro .int r0))) []) := by
  rw [g_laws_toIntS]
  have hi0 : (fun a0 xi4 xy7 => ∃ j, iter (evF TT cs_laws_toIntS 22 an_laws_toIntS Try.f17 [1, 1, 0, 1, 0, 0]) nm0_laws_toIntS (kt0_laws_toIntS (fin_laws_toIntS a0 kk)) j (can0_laws_toIntS a0 xi4 xy7)) = (fun a0 xi4 xy7 => ∃ j, L0_laws_toIntS a0 (fun r0 => kk (.one (.c (.ro .int r0))) []) j xi4 xy7) := by
    funext a0 xi4 xy7
    refine congrArg Exists (funext fun j => ?_)
    rw [l0_laws_toIntS a0 kk j xi4 xy7]
  rw [hi0]
  rfl
theorem clok_laws_toIntS : ConOK Try.prog cl_laws_toIntS := consNil
theorem cok_laws_toIntS : ConsOK Try.prog 22 cs_laws_toIntS := ⟨clok_laws_toIntS, inlNil, ovNil⟩
theorem i_laws_toIntS {vs : List A1} {kk : AV → List A1 → Prop} {motive : List A1 → Prop} (h : con_laws_toIntS.F vs kk) (H : ∀ (a0 : List Int), F_laws_toIntS a0 (fun r0 => kk (.one (.c (.ro .int r0))) []) → motive [.c (.ro .int a0)]) : motive vs := by
  unfold con_laws_toIntS at h
  dsimp only at h
  split at h
  · exact H _ h
  · exact h.elim
theorem h_laws_toIntS : Holds Try.prog 17 con_laws_toIntS := by
  refine holds_of_ev (rt := [.c (.sl .int)]) (T := TT) (Γ := cs_laws_toIntS) (an := an_laws_toIntS) (N := 22) (c := Try.f17.body.getD .skip) Try.func17 (by kernel_rfl) Try.ntmps17 (by decide) (by decide) mixed tabOK cok_laws_toIntS (by kernel_rfl) ?_
  intro vs kk _ hF
  exact i_laws_toIntS (motive := fun vs => Goes (ev TT cs_laws_toIntS 22 an_laws_toIntS (Try.f17.body.getD .skip) (st0 con_laws_toIntS vs) (fin TT con_laws_toIntS Try.f17.results.toList [.c (.sl .int)] vs kk))) hF (fun a0 hF => goes_of (e_laws_toIntS a0 kk) (F_laws_toIntS_S hF))
def con_spec_inRange : Con := ⟨[.rd, .rd, .rd], true, [.c (.sc), .c (.sc), .c (.sc)], fun vs k => match vs with
    | [.c (.v (.int .i64 n0)), .c (.v (.int .i64 low1)), .c (.v (.int .i64 high2))] => F_spec_inRange n0 low1 high2 (fun r0 => k (.one (.c (.v (.bool r0)))) [])
    | _ => False, false⟩
def cl_spec_inRange : List (FuncId × Con) := []
def an_spec_inRange : Ann := ⟨[], [], [], []⟩
def cs_spec_inRange : Cons := ⟨cl_spec_inRange, [], 0, [], [], []⟩
def fin_spec_inRange (n0 : Int) (low1 : Int) (high2 : Int) (kk : AV → List A1 → Prop) : Kt := fin TT con_spec_inRange Try.f29.results.toList [.c .sc] [.c (.v (.int .i64 n0)), .c (.v (.int .i64 low1)), .c (.v (.int .i64 high2))] kk
theorem g_spec_inRange (n0 : Int) (low1 : Int) (high2 : Int) (kk : AV → List A1 → Prop) :
    ev TT cs_spec_inRange 15 an_spec_inRange (Try.f29.body.getD .skip) (st0 con_spec_inRange [.c (.v (.int .i64 n0)), .c (.v (.int .i64 low1)), .c (.v (.int .i64 high2))]) (fin TT con_spec_inRange Try.f29.results.toList [.c .sc] [.c (.v (.int .i64 n0)), .c (.v (.int .i64 low1)), .c (.v (.int .i64 high2))] kk) = G_spec_inRange n0 low1 high2 (fun r0 => kk (.one (.c (.v (.bool r0)))) []) := by kernel_rfl
theorem e_spec_inRange (n0 : Int) (low1 : Int) (high2 : Int) (kk : AV → List A1 → Prop) :
    ev TT cs_spec_inRange 15 an_spec_inRange (Try.f29.body.getD .skip) (st0 con_spec_inRange [.c (.v (.int .i64 n0)), .c (.v (.int .i64 low1)), .c (.v (.int .i64 high2))]) (fin TT con_spec_inRange Try.f29.results.toList [.c .sc] [.c (.v (.int .i64 n0)), .c (.v (.int .i64 low1)), .c (.v (.int .i64 high2))] kk) = S_spec_inRange n0 low1 high2 (fun r0 => kk (.one (.c (.v (.bool r0)))) []) := by
  rw [g_spec_inRange]
  rfl
theorem clok_spec_inRange : ConOK Try.prog cl_spec_inRange := consNil
theorem cok_spec_inRange : ConsOK Try.prog 15 cs_spec_inRange := ⟨clok_spec_inRange, inlNil, ovNil⟩
theorem i_spec_inRange {vs : List A1} {kk : AV → List A1 → Prop} {motive : List A1 → Prop} (h : con_spec_inRange.F vs kk) (H : ∀ (n0 : Int) (low1 : Int) (high2 : Int), F_spec_inRange n0 low1 high2 (fun r0 => kk (.one (.c (.v (.bool r0)))) []) → motive [.c (.v (.int .i64 n0)), .c (.v (.int .i64 low1)), .c (.v (.int .i64 high2))]) : motive vs := by
  unfold con_spec_inRange at h
  dsimp only at h
  split at h
  · exact H _ _ _ h
  · exact h.elim
theorem h_spec_inRange : Holds Try.prog 29 con_spec_inRange := by
  refine holds_of_ev (rt := [.c .sc]) (T := TT) (Γ := cs_spec_inRange) (an := an_spec_inRange) (N := 15) (c := Try.f29.body.getD .skip) Try.func29 (by kernel_rfl) Try.ntmps29 (by decide) (by decide) mixed tabOK cok_spec_inRange (by kernel_rfl) ?_
  intro vs kk _ hF
  exact i_spec_inRange (motive := fun vs => Goes (ev TT cs_spec_inRange 15 an_spec_inRange (Try.f29.body.getD .skip) (st0 con_spec_inRange vs) (fin TT con_spec_inRange Try.f29.results.toList [.c .sc] vs kk))) hF (fun n0 low1 high2 hF => goes_of (e_spec_inRange n0 low1 high2 kk) (F_spec_inRange_S hF))
def con_spec_allIn : Con := ⟨[.rd, .rd, .rd], true, [.c (.sl .int), .c (.sc), .c (.sc)], fun vs k => match vs with
    | [.c (.ro .int list0), .c (.v (.int .i64 low1)), .c (.v (.int .i64 high2))] => F_spec_allIn list0 low1 high2 (fun r0 => k (.one (.c (.v (.bool r0)))) [])
    | _ => False, false⟩
def cl_spec_allIn : List (FuncId × Con) := [(29, con_spec_inRange)]
def nm0_spec_allIn : List NStep := [.keep [0, 1, 2, 7] []]
def an_spec_allIn : Ann := ⟨[], [(2, nm0_spec_allIn)], [], []⟩
def cs_spec_allIn : Cons := ⟨cl_spec_allIn, [], 0, [], [], []⟩
def can0_spec_allIn (high2 : Int) (list0 : List Int) (low1 : Int) (xi7 : Int) : St := ⟨[(0, .one (.c (.ro .int list0))), (1, .one (.c (.v (.int .i64 low1)))), (2, .one (.c (.v (.int .i64 high2)))), (7, .one (.c (.v (.int .i64 xi7))))], []⟩
def fin_spec_allIn (list0 : List Int) (low1 : Int) (high2 : Int) (kk : AV → List A1 → Prop) : Kt := fin TT con_spec_allIn Try.f46.results.toList [.c .sc] [.c (.ro .int list0), .c (.v (.int .i64 low1)), .c (.v (.int .i64 high2))] kk
def kt0_spec_allIn (kf : Kt) : Kt := blockK 0 (seqK (evF TT cs_spec_allIn 22 an_spec_allIn Try.f46 [1, 1]) (kf))
theorem r0_spec_allIn (list0 : List Int) (low1 : Int) (high2 : Int) (kk : AV → List A1 → Prop) (n : Nat) (xi7 : Int) :
    iter (evF TT cs_spec_allIn 22 an_spec_allIn Try.f46 [1, 0, 1, 0, 0]) nm0_spec_allIn (kt0_spec_allIn (fin_spec_allIn list0 low1 high2 kk)) (n + 1) (can0_spec_allIn high2 list0 low1 xi7) = T0_spec_allIn high2 list0 low1 xi7 (fun r0 => kk (.one (.c (.v (.bool r0)))) []) (fun xi7 => iter (evF TT cs_spec_allIn 22 an_spec_allIn Try.f46 [1, 0, 1, 0, 0]) nm0_spec_allIn (kt0_spec_allIn (fin_spec_allIn list0 low1 high2 kk)) n (can0_spec_allIn high2 list0 low1 xi7)) := by kernel_rfl
theorem l0_spec_allIn (list0 : List Int) (low1 : Int) (high2 : Int) (kk : AV → List A1 → Prop) : ∀ (n : Nat) (xi7 : Int), iter (evF TT cs_spec_allIn 22 an_spec_allIn Try.f46 [1, 0, 1, 0, 0]) nm0_spec_allIn (kt0_spec_allIn (fin_spec_allIn list0 low1 high2 kk)) n (can0_spec_allIn high2 list0 low1 xi7) = L0_spec_allIn high2 list0 low1 (fun r0 => kk (.one (.c (.v (.bool r0)))) []) n xi7 := by
  intro n
  induction n with
  | zero => intros; rfl
  | succ n ih =>
    intro xi7
    rw [r0_spec_allIn list0 low1 high2 kk n xi7]
    have hb : (fun xi7 => iter (evF TT cs_spec_allIn 22 an_spec_allIn Try.f46 [1, 0, 1, 0, 0]) nm0_spec_allIn (kt0_spec_allIn (fin_spec_allIn list0 low1 high2 kk)) n (can0_spec_allIn high2 list0 low1 xi7)) = L0_spec_allIn high2 list0 low1 (fun r0 => kk (.one (.c (.v (.bool r0)))) []) n := by
      funext xi7; exact ih xi7
    rw [hb]
    rfl
theorem g_spec_allIn (list0 : List Int) (low1 : Int) (high2 : Int) (kk : AV → List A1 → Prop) :
    ev TT cs_spec_allIn 22 an_spec_allIn (Try.f46.body.getD .skip) (st0 con_spec_allIn [.c (.ro .int list0), .c (.v (.int .i64 low1)), .c (.v (.int .i64 high2))]) (fin TT con_spec_allIn Try.f46.results.toList [.c .sc] [.c (.ro .int list0), .c (.v (.int .i64 low1)), .c (.v (.int .i64 high2))] kk) = G_spec_allIn list0 low1 high2 (fun high2 list0 low1 xi7 => ∃ j, iter (evF TT cs_spec_allIn 22 an_spec_allIn Try.f46 [1, 0, 1, 0, 0]) nm0_spec_allIn (kt0_spec_allIn (fin_spec_allIn list0 low1 high2 kk)) j (can0_spec_allIn high2 list0 low1 xi7)) := by kernel_rfl
theorem e_spec_allIn (list0 : List Int) (low1 : Int) (high2 : Int) (kk : AV → List A1 → Prop) :
    ev TT cs_spec_allIn 22 an_spec_allIn (Try.f46.body.getD .skip) (st0 con_spec_allIn [.c (.ro .int list0), .c (.v (.int .i64 low1)), .c (.v (.int .i64 high2))]) (fin TT con_spec_allIn Try.f46.results.toList [.c .sc] [.c (.ro .int list0), .c (.v (.int .i64 low1)), .c (.v (.int .i64 high2))] kk) = S_spec_allIn list0 low1 high2 (fun r0 => kk (.one (.c (.v (.bool r0)))) []) := by
  rw [g_spec_allIn]
  have hi0 : (fun high2 list0 low1 xi7 => ∃ j, iter (evF TT cs_spec_allIn 22 an_spec_allIn Try.f46 [1, 0, 1, 0, 0]) nm0_spec_allIn (kt0_spec_allIn (fin_spec_allIn list0 low1 high2 kk)) j (can0_spec_allIn high2 list0 low1 xi7)) = (fun high2 list0 low1 xi7 => ∃ j, L0_spec_allIn high2 list0 low1 (fun r0 => kk (.one (.c (.v (.bool r0)))) []) j xi7) := by
    funext high2 list0 low1 xi7
    refine congrArg Exists (funext fun j => ?_)
    rw [l0_spec_allIn list0 low1 high2 kk j xi7]
  rw [hi0]
  rfl
theorem clok_spec_allIn : ConOK Try.prog cl_spec_allIn := consCons h_spec_inRange ⟨Try.f29, Try.func29, by kernel_rfl, ne_of_beq (by kernel_rfl)⟩ (consNil)
theorem cok_spec_allIn : ConsOK Try.prog 22 cs_spec_allIn := ⟨clok_spec_allIn, inlNil, ovNil⟩
theorem i_spec_allIn {vs : List A1} {kk : AV → List A1 → Prop} {motive : List A1 → Prop} (h : con_spec_allIn.F vs kk) (H : ∀ (list0 : List Int) (low1 : Int) (high2 : Int), F_spec_allIn list0 low1 high2 (fun r0 => kk (.one (.c (.v (.bool r0)))) []) → motive [.c (.ro .int list0), .c (.v (.int .i64 low1)), .c (.v (.int .i64 high2))]) : motive vs := by
  unfold con_spec_allIn at h
  dsimp only at h
  split at h
  · exact H _ _ _ h
  · exact h.elim
theorem h_spec_allIn : Holds Try.prog 46 con_spec_allIn := by
  refine holds_of_ev (rt := [.c .sc]) (T := TT) (Γ := cs_spec_allIn) (an := an_spec_allIn) (N := 22) (c := Try.f46.body.getD .skip) Try.func46 (by kernel_rfl) Try.ntmps46 (by decide) (by decide) mixed tabOK cok_spec_allIn (by kernel_rfl) ?_
  intro vs kk _ hF
  exact i_spec_allIn (motive := fun vs => Goes (ev TT cs_spec_allIn 22 an_spec_allIn (Try.f46.body.getD .skip) (st0 con_spec_allIn vs) (fin TT con_spec_allIn Try.f46.results.toList [.c .sc] vs kk))) hF (fun list0 low1 high2 hF => goes_of (e_spec_allIn list0 low1 high2 kk) (F_spec_allIn_S hF))
def con_spec_validTrace : Con := ⟨[.rd], true, [.c (.sl .int)], fun vs k => match vs with
    | [.c (.ro .int t0)] => F_spec_validTrace t0 (fun r0 => k (.one (.c (.v (.bool r0)))) [])
    | _ => False, false⟩
def cl_spec_validTrace : List (FuncId × Con) := [(46, con_spec_allIn)]
def an_spec_validTrace : Ann := ⟨[], [], [], []⟩
def cs_spec_validTrace : Cons := ⟨cl_spec_validTrace, [], 0, [], [], []⟩
def fin_spec_validTrace (t0 : List Int) (kk : AV → List A1 → Prop) : Kt := fin TT con_spec_validTrace Try.f33.results.toList [.c .sc] [.c (.ro .int t0)] kk
theorem g_spec_validTrace (t0 : List Int) (kk : AV → List A1 → Prop) :
    ev TT cs_spec_validTrace 10 an_spec_validTrace (Try.f33.body.getD .skip) (st0 con_spec_validTrace [.c (.ro .int t0)]) (fin TT con_spec_validTrace Try.f33.results.toList [.c .sc] [.c (.ro .int t0)] kk) = G_spec_validTrace t0 (fun r0 => kk (.one (.c (.v (.bool r0)))) []) := by kernel_rfl
theorem e_spec_validTrace (t0 : List Int) (kk : AV → List A1 → Prop) :
    ev TT cs_spec_validTrace 10 an_spec_validTrace (Try.f33.body.getD .skip) (st0 con_spec_validTrace [.c (.ro .int t0)]) (fin TT con_spec_validTrace Try.f33.results.toList [.c .sc] [.c (.ro .int t0)] kk) = S_spec_validTrace t0 (fun r0 => kk (.one (.c (.v (.bool r0)))) []) := by
  rw [g_spec_validTrace]
  rfl
theorem clok_spec_validTrace : ConOK Try.prog cl_spec_validTrace := consCons h_spec_allIn ⟨Try.f46, Try.func46, by kernel_rfl, ne_of_beq (by kernel_rfl)⟩ (consNil)
theorem cok_spec_validTrace : ConsOK Try.prog 10 cs_spec_validTrace := ⟨clok_spec_validTrace, inlNil, ovNil⟩
theorem i_spec_validTrace {vs : List A1} {kk : AV → List A1 → Prop} {motive : List A1 → Prop} (h : con_spec_validTrace.F vs kk) (H : ∀ (t0 : List Int), F_spec_validTrace t0 (fun r0 => kk (.one (.c (.v (.bool r0)))) []) → motive [.c (.ro .int t0)]) : motive vs := by
  unfold con_spec_validTrace at h
  dsimp only at h
  split at h
  · exact H _ h
  · exact h.elim
theorem h_spec_validTrace : Holds Try.prog 33 con_spec_validTrace := by
  refine holds_of_ev (rt := [.c .sc]) (T := TT) (Γ := cs_spec_validTrace) (an := an_spec_validTrace) (N := 10) (c := Try.f33.body.getD .skip) Try.func33 (by kernel_rfl) Try.ntmps33 (by decide) (by decide) mixed tabOK cok_spec_validTrace (by kernel_rfl) ?_
  intro vs kk _ hF
  exact i_spec_validTrace (motive := fun vs => Goes (ev TT cs_spec_validTrace 10 an_spec_validTrace (Try.f33.body.getD .skip) (st0 con_spec_validTrace vs) (fin TT con_spec_validTrace Try.f33.results.toList [.c .sc] vs kk))) hF (fun t0 hF => goes_of (e_spec_validTrace t0 kk) (F_spec_validTrace_S hF))
def con_spec_copyInts : Con := ⟨[.rd], true, [.c (.sl .int)], fun vs k => match vs with
    | [.c (.ro .int list0)] => F_spec_copyInts list0 (fun r0 => k (.one (.c (.ro .int r0))) [])
    | _ => False, false⟩
def cl_spec_copyInts : List (FuncId × Con) := []
def an_spec_copyInts : Ann := ⟨[], [], [], []⟩
def cs_spec_copyInts : Cons := ⟨cl_spec_copyInts, [], 0, [], [], []⟩
def fin_spec_copyInts (list0 : List Int) (kk : AV → List A1 → Prop) : Kt := fin TT con_spec_copyInts Try.f53.results.toList [.c (.sl .int)] [.c (.ro .int list0)] kk
theorem g_spec_copyInts (list0 : List Int) (kk : AV → List A1 → Prop) :
    ev TT cs_spec_copyInts 6 an_spec_copyInts (Try.f53.body.getD .skip) (st0 con_spec_copyInts [.c (.ro .int list0)]) (fin TT con_spec_copyInts Try.f53.results.toList [.c (.sl .int)] [.c (.ro .int list0)] kk) = G_spec_copyInts list0 (fun r0 => kk (.one (.c (.ro .int r0))) []) := by kernel_rfl
theorem e_spec_copyInts (list0 : List Int) (kk : AV → List A1 → Prop) :
    ev TT cs_spec_copyInts 6 an_spec_copyInts (Try.f53.body.getD .skip) (st0 con_spec_copyInts [.c (.ro .int list0)]) (fin TT con_spec_copyInts Try.f53.results.toList [.c (.sl .int)] [.c (.ro .int list0)] kk) = S_spec_copyInts list0 (fun r0 => kk (.one (.c (.ro .int r0))) []) := by
  rw [g_spec_copyInts]
  rfl
theorem clok_spec_copyInts : ConOK Try.prog cl_spec_copyInts := consNil
theorem cok_spec_copyInts : ConsOK Try.prog 6 cs_spec_copyInts := ⟨clok_spec_copyInts, inlNil, ovNil⟩
theorem i_spec_copyInts {vs : List A1} {kk : AV → List A1 → Prop} {motive : List A1 → Prop} (h : con_spec_copyInts.F vs kk) (H : ∀ (list0 : List Int), F_spec_copyInts list0 (fun r0 => kk (.one (.c (.ro .int r0))) []) → motive [.c (.ro .int list0)]) : motive vs := by
  unfold con_spec_copyInts at h
  dsimp only at h
  split at h
  · exact H _ h
  · exact h.elim
theorem h_spec_copyInts : Holds Try.prog 53 con_spec_copyInts := by
  refine holds_of_ev (rt := [.c (.sl .int)]) (T := TT) (Γ := cs_spec_copyInts) (an := an_spec_copyInts) (N := 6) (c := Try.f53.body.getD .skip) Try.func53 (by kernel_rfl) Try.ntmps53 (by decide) (by decide) mixed tabOK cok_spec_copyInts (by kernel_rfl) ?_
  intro vs kk _ hF
  exact i_spec_copyInts (motive := fun vs => Goes (ev TT cs_spec_copyInts 6 an_spec_copyInts (Try.f53.body.getD .skip) (st0 con_spec_copyInts vs) (fin TT con_spec_copyInts Try.f53.results.toList [.c (.sl .int)] vs kk))) hF (fun list0 hF => goes_of (e_spec_copyInts list0 kk) (F_spec_copyInts_S hF))
def con_spec_placeOf : Con := ⟨[.rd, .rd], true, [.c (.sl .int), .c (.sc)], fun vs k => match vs with
    | [.c (.ro .int list0), .c (.v (.int .i64 n1))] => F_spec_placeOf list0 n1 (fun r0 => k (.one (.c (.v (.int .i64 r0)))) [])
    | _ => False, false⟩
def cl_spec_placeOf : List (FuncId × Con) := []
def nm0_spec_placeOf : List NStep := [.keep [0, 1, 5] []]
def an_spec_placeOf : Ann := ⟨[], [(2, nm0_spec_placeOf)], [], []⟩
def cs_spec_placeOf : Cons := ⟨cl_spec_placeOf, [], 0, [], [], []⟩
def can0_spec_placeOf (list0 : List Int) (n1 : Int) (xi5 : Int) : St := ⟨[(0, .one (.c (.ro .int list0))), (1, .one (.c (.v (.int .i64 n1)))), (5, .one (.c (.v (.int .i64 xi5))))], []⟩
def fin_spec_placeOf (list0 : List Int) (n1 : Int) (kk : AV → List A1 → Prop) : Kt := fin TT con_spec_placeOf Try.f54.results.toList [.c .sc] [.c (.ro .int list0), .c (.v (.int .i64 n1))] kk
def kt0_spec_placeOf (kf : Kt) : Kt := blockK 0 (seqK (evF TT cs_spec_placeOf 19 an_spec_placeOf Try.f54 [1, 1]) (kf))
theorem r0_spec_placeOf (list0 : List Int) (n1 : Int) (kk : AV → List A1 → Prop) (n : Nat) (xi5 : Int) :
    iter (evF TT cs_spec_placeOf 19 an_spec_placeOf Try.f54 [1, 0, 1, 0, 0]) nm0_spec_placeOf (kt0_spec_placeOf (fin_spec_placeOf list0 n1 kk)) (n + 1) (can0_spec_placeOf list0 n1 xi5) = T0_spec_placeOf list0 n1 xi5 (fun r0 => kk (.one (.c (.v (.int .i64 r0)))) []) (fun xi5 => iter (evF TT cs_spec_placeOf 19 an_spec_placeOf Try.f54 [1, 0, 1, 0, 0]) nm0_spec_placeOf (kt0_spec_placeOf (fin_spec_placeOf list0 n1 kk)) n (can0_spec_placeOf list0 n1 xi5)) := by kernel_rfl
theorem l0_spec_placeOf (list0 : List Int) (n1 : Int) (kk : AV → List A1 → Prop) : ∀ (n : Nat) (xi5 : Int), iter (evF TT cs_spec_placeOf 19 an_spec_placeOf Try.f54 [1, 0, 1, 0, 0]) nm0_spec_placeOf (kt0_spec_placeOf (fin_spec_placeOf list0 n1 kk)) n (can0_spec_placeOf list0 n1 xi5) = L0_spec_placeOf list0 n1 (fun r0 => kk (.one (.c (.v (.int .i64 r0)))) []) n xi5 := by
  intro n
  induction n with
  | zero => intros; rfl
  | succ n ih =>
    intro xi5
    rw [r0_spec_placeOf list0 n1 kk n xi5]
    have hb : (fun xi5 => iter (evF TT cs_spec_placeOf 19 an_spec_placeOf Try.f54 [1, 0, 1, 0, 0]) nm0_spec_placeOf (kt0_spec_placeOf (fin_spec_placeOf list0 n1 kk)) n (can0_spec_placeOf list0 n1 xi5)) = L0_spec_placeOf list0 n1 (fun r0 => kk (.one (.c (.v (.int .i64 r0)))) []) n := by
      funext xi5; exact ih xi5
    rw [hb]
    rfl
theorem g_spec_placeOf (list0 : List Int) (n1 : Int) (kk : AV → List A1 → Prop) :
    ev TT cs_spec_placeOf 19 an_spec_placeOf (Try.f54.body.getD .skip) (st0 con_spec_placeOf [.c (.ro .int list0), .c (.v (.int .i64 n1))]) (fin TT con_spec_placeOf Try.f54.results.toList [.c .sc] [.c (.ro .int list0), .c (.v (.int .i64 n1))] kk) = G_spec_placeOf list0 n1 (fun list0 n1 xi5 => ∃ j, iter (evF TT cs_spec_placeOf 19 an_spec_placeOf Try.f54 [1, 0, 1, 0, 0]) nm0_spec_placeOf (kt0_spec_placeOf (fin_spec_placeOf list0 n1 kk)) j (can0_spec_placeOf list0 n1 xi5)) := by kernel_rfl
theorem e_spec_placeOf (list0 : List Int) (n1 : Int) (kk : AV → List A1 → Prop) :
    ev TT cs_spec_placeOf 19 an_spec_placeOf (Try.f54.body.getD .skip) (st0 con_spec_placeOf [.c (.ro .int list0), .c (.v (.int .i64 n1))]) (fin TT con_spec_placeOf Try.f54.results.toList [.c .sc] [.c (.ro .int list0), .c (.v (.int .i64 n1))] kk) = S_spec_placeOf list0 n1 (fun r0 => kk (.one (.c (.v (.int .i64 r0)))) []) := by
  rw [g_spec_placeOf]
  have hi0 : (fun list0 n1 xi5 => ∃ j, iter (evF TT cs_spec_placeOf 19 an_spec_placeOf Try.f54 [1, 0, 1, 0, 0]) nm0_spec_placeOf (kt0_spec_placeOf (fin_spec_placeOf list0 n1 kk)) j (can0_spec_placeOf list0 n1 xi5)) = (fun list0 n1 xi5 => ∃ j, L0_spec_placeOf list0 n1 (fun r0 => kk (.one (.c (.v (.int .i64 r0)))) []) j xi5) := by
    funext list0 n1 xi5
    refine congrArg Exists (funext fun j => ?_)
    rw [l0_spec_placeOf list0 n1 kk j xi5]
  rw [hi0]
  rfl
theorem clok_spec_placeOf : ConOK Try.prog cl_spec_placeOf := consNil
theorem cok_spec_placeOf : ConsOK Try.prog 19 cs_spec_placeOf := ⟨clok_spec_placeOf, inlNil, ovNil⟩
theorem i_spec_placeOf {vs : List A1} {kk : AV → List A1 → Prop} {motive : List A1 → Prop} (h : con_spec_placeOf.F vs kk) (H : ∀ (list0 : List Int) (n1 : Int), F_spec_placeOf list0 n1 (fun r0 => kk (.one (.c (.v (.int .i64 r0)))) []) → motive [.c (.ro .int list0), .c (.v (.int .i64 n1))]) : motive vs := by
  unfold con_spec_placeOf at h
  dsimp only at h
  split at h
  · exact H _ _ h
  · exact h.elim
theorem h_spec_placeOf : Holds Try.prog 54 con_spec_placeOf := by
  refine holds_of_ev (rt := [.c .sc]) (T := TT) (Γ := cs_spec_placeOf) (an := an_spec_placeOf) (N := 19) (c := Try.f54.body.getD .skip) Try.func54 (by kernel_rfl) Try.ntmps54 (by decide) (by decide) mixed tabOK cok_spec_placeOf (by kernel_rfl) ?_
  intro vs kk _ hF
  exact i_spec_placeOf (motive := fun vs => Goes (ev TT cs_spec_placeOf 19 an_spec_placeOf (Try.f54.body.getD .skip) (st0 con_spec_placeOf vs) (fin TT con_spec_placeOf Try.f54.results.toList [.c .sc] vs kk))) hF (fun list0 n1 hF => goes_of (e_spec_placeOf list0 n1 kk) (F_spec_placeOf_S hF))
def con_spec_without : Con := ⟨[.rd, .rd], true, [.c (.sl .int), .c (.sc)], fun vs k => match vs with
    | [.c (.ro .int list0), .c (.v (.int .i64 at1))] => F_spec_without list0 at1 (fun r0 => k (.one (.c (.ro .int r0))) [])
    | _ => False, false⟩
def cl_spec_without : List (FuncId × Con) := []
def an_spec_without : Ann := ⟨[(1, .take 1 (.take 2 (.take 3 (.take 5 (.take 6 (.take 7 (.take 8 (.alt 0 (.alt 4 (.alt 9 (.take 10 (.done)) (.none)) (.none)) (.none)))))))), [])], [], [], []⟩
def cs_spec_without : Cons := ⟨cl_spec_without, [], 0, [], [], []⟩
def fin_spec_without (list0 : List Int) (at1 : Int) (kk : AV → List A1 → Prop) : Kt := fin TT con_spec_without Try.f55.results.toList [.c (.sl .int)] [.c (.ro .int list0), .c (.v (.int .i64 at1))] kk
theorem g_spec_without (list0 : List Int) (at1 : Int) (kk : AV → List A1 → Prop) :
    ev TT cs_spec_without 15 an_spec_without (Try.f55.body.getD .skip) (st0 con_spec_without [.c (.ro .int list0), .c (.v (.int .i64 at1))]) (fin TT con_spec_without Try.f55.results.toList [.c (.sl .int)] [.c (.ro .int list0), .c (.v (.int .i64 at1))] kk) = G_spec_without list0 at1 (fun r0 => kk (.one (.c (.ro .int r0))) []) := by kernel_rfl
theorem e_spec_without (list0 : List Int) (at1 : Int) (kk : AV → List A1 → Prop) :
    ev TT cs_spec_without 15 an_spec_without (Try.f55.body.getD .skip) (st0 con_spec_without [.c (.ro .int list0), .c (.v (.int .i64 at1))]) (fin TT con_spec_without Try.f55.results.toList [.c (.sl .int)] [.c (.ro .int list0), .c (.v (.int .i64 at1))] kk) = S_spec_without list0 at1 (fun r0 => kk (.one (.c (.ro .int r0))) []) := by
  rw [g_spec_without]
  rw [G_spec_without_eq]
  rfl
theorem clok_spec_without : ConOK Try.prog cl_spec_without := consNil
theorem cok_spec_without : ConsOK Try.prog 15 cs_spec_without := ⟨clok_spec_without, inlNil, ovNil⟩
theorem i_spec_without {vs : List A1} {kk : AV → List A1 → Prop} {motive : List A1 → Prop} (h : con_spec_without.F vs kk) (H : ∀ (list0 : List Int) (at1 : Int), F_spec_without list0 at1 (fun r0 => kk (.one (.c (.ro .int r0))) []) → motive [.c (.ro .int list0), .c (.v (.int .i64 at1))]) : motive vs := by
  unfold con_spec_without at h
  dsimp only at h
  split at h
  · exact H _ _ h
  · exact h.elim
theorem h_spec_without : Holds Try.prog 55 con_spec_without := by
  refine holds_of_ev (rt := [.c (.sl .int)]) (T := TT) (Γ := cs_spec_without) (an := an_spec_without) (N := 15) (c := Try.f55.body.getD .skip) Try.func55 (by kernel_rfl) Try.ntmps55 (by decide) (by decide) mixed tabOK cok_spec_without (by kernel_rfl) ?_
  intro vs kk _ hF
  exact i_spec_without (motive := fun vs => Goes (ev TT cs_spec_without 15 an_spec_without (Try.f55.body.getD .skip) (st0 con_spec_without vs) (fin TT con_spec_without Try.f55.results.toList [.c (.sl .int)] vs kk))) hF (fun list0 at1 hF => goes_of (e_spec_without list0 at1 kk) (F_spec_without_S hF))
def con_spec_recent : Con := ⟨[.rd, .rd, .rd], true, [.c (.sl .int), .c (.sc), .c (.sc)], fun vs k => match vs with
    | [.c (.ro .int list0), .c (.v (.int .i64 room1)), .c (.v (.int .i64 key2))] => F_spec_recent list0 room1 key2 (fun r0 r1 => k (.tup [.c (.ro .int r0), .c (.v (.bool r1))]) [])
    | _ => False, false⟩
def cl_spec_recent : List (FuncId × Con) := [(54, con_spec_placeOf), (55, con_spec_without)]
def an_spec_recent : Ann := ⟨[], [], [], []⟩
def cs_spec_recent : Cons := ⟨cl_spec_recent, [], 0, [], [], []⟩
def fin_spec_recent (list0 : List Int) (room1 : Int) (key2 : Int) (kk : AV → List A1 → Prop) : Kt := fin TT con_spec_recent Try.f56.results.toList [.c (.sl .int), .c .sc] [.c (.ro .int list0), .c (.v (.int .i64 room1)), .c (.v (.int .i64 key2))] kk
theorem g_spec_recent (list0 : List Int) (room1 : Int) (key2 : Int) (kk : AV → List A1 → Prop) :
    ev TT cs_spec_recent 31 an_spec_recent (Try.f56.body.getD .skip) (st0 con_spec_recent [.c (.ro .int list0), .c (.v (.int .i64 room1)), .c (.v (.int .i64 key2))]) (fin TT con_spec_recent Try.f56.results.toList [.c (.sl .int), .c .sc] [.c (.ro .int list0), .c (.v (.int .i64 room1)), .c (.v (.int .i64 key2))] kk) = G_spec_recent list0 room1 key2 (fun r0 r1 => kk (.tup [.c (.ro .int r0), .c (.v (.bool r1))]) []) := by kernel_rfl
theorem e_spec_recent (list0 : List Int) (room1 : Int) (key2 : Int) (kk : AV → List A1 → Prop) :
    ev TT cs_spec_recent 31 an_spec_recent (Try.f56.body.getD .skip) (st0 con_spec_recent [.c (.ro .int list0), .c (.v (.int .i64 room1)), .c (.v (.int .i64 key2))]) (fin TT con_spec_recent Try.f56.results.toList [.c (.sl .int), .c .sc] [.c (.ro .int list0), .c (.v (.int .i64 room1)), .c (.v (.int .i64 key2))] kk) = S_spec_recent list0 room1 key2 (fun r0 r1 => kk (.tup [.c (.ro .int r0), .c (.v (.bool r1))]) []) := by
  rw [g_spec_recent]
  rfl
theorem clok_spec_recent : ConOK Try.prog cl_spec_recent := consCons h_spec_placeOf ⟨Try.f54, Try.func54, by kernel_rfl, ne_of_beq (by kernel_rfl)⟩ (consCons h_spec_without ⟨Try.f55, Try.func55, by kernel_rfl, ne_of_beq (by kernel_rfl)⟩ (consNil))
theorem cok_spec_recent : ConsOK Try.prog 31 cs_spec_recent := ⟨clok_spec_recent, inlNil, ovNil⟩
theorem i_spec_recent {vs : List A1} {kk : AV → List A1 → Prop} {motive : List A1 → Prop} (h : con_spec_recent.F vs kk) (H : ∀ (list0 : List Int) (room1 : Int) (key2 : Int), F_spec_recent list0 room1 key2 (fun r0 r1 => kk (.tup [.c (.ro .int r0), .c (.v (.bool r1))]) []) → motive [.c (.ro .int list0), .c (.v (.int .i64 room1)), .c (.v (.int .i64 key2))]) : motive vs := by
  unfold con_spec_recent at h
  dsimp only at h
  split at h
  · exact H _ _ _ h
  · exact h.elim
theorem h_spec_recent : Holds Try.prog 56 con_spec_recent := by
  refine holds_of_ev (rt := [.c (.sl .int), .c .sc]) (T := TT) (Γ := cs_spec_recent) (an := an_spec_recent) (N := 31) (c := Try.f56.body.getD .skip) Try.func56 (by kernel_rfl) Try.ntmps56 (by decide) (by decide) mixed tabOK cok_spec_recent (by kernel_rfl) ?_
  intro vs kk _ hF
  exact i_spec_recent (motive := fun vs => Goes (ev TT cs_spec_recent 31 an_spec_recent (Try.f56.body.getD .skip) (st0 con_spec_recent vs) (fin TT con_spec_recent Try.f56.results.toList [.c (.sl .int), .c .sc] vs kk))) hF (fun list0 room1 key2 hF => goes_of (e_spec_recent list0 room1 key2 kk) (F_spec_recent_S hF))
def con_spec_promote : Con := ⟨[.rd, .rd], true, [.agg [.sc, .sc, .sl .int, .sl .int], .c (.sc)], fun vs k => match vs with
    | [.agg [.v (.int .i64 s0Trial), .v (.int .i64 s0Safe), .ro .int s0New, .ro .int s0Old], .c (.v (.int .i64 key1))] => F_spec_promote s0Trial s0Safe s0New s0Old key1 (fun r0 r1 r2 r3 r4 => k (.tup [.agg [.v (.int .i64 r0), .v (.int .i64 r1), .ro .int r2, .ro .int r3], .c (.v (.bool r4))]) [])
    | _ => False, false⟩
def cl_spec_promote : List (FuncId × Con) := [(53, con_spec_copyInts), (54, con_spec_placeOf), (55, con_spec_without), (56, con_spec_recent)]
def an_spec_promote : Ann := ⟨[(1, .take 0 (.take 1 (.take 2 (.take 3 (.take 4 (.take 5 (.take 7 (.take 8 (.alt 6 (.alt 9 (.take 10 (.alt 11 (.alt 12 (.done) (.none)) (.none))) (.alt 11 (.alt 9 (.take 10 (.alt 12 (.done) (.none))) (.none)) (.none))) (.alt 11 (.alt 6 (.alt 9 (.take 10 (.alt 12 (.done) (.none))) (.none)) (.none)) (.none)))))))))), [32])], [], [], []⟩
def cs_spec_promote : Cons := ⟨cl_spec_promote, [], 0, [], [], []⟩
def fin_spec_promote (s0Trial : Int) (s0Safe : Int) (s0New : List Int) (s0Old : List Int) (key1 : Int) (kk : AV → List A1 → Prop) : Kt := fin TT con_spec_promote Try.f47.results.toList [.agg [.sc, .sc, .sl .int, .sl .int], .c .sc] [.agg [.v (.int .i64 s0Trial), .v (.int .i64 s0Safe), .ro .int s0New, .ro .int s0Old], .c (.v (.int .i64 key1))] kk
theorem g_spec_promote (s0Trial : Int) (s0Safe : Int) (s0New : List Int) (s0Old : List Int) (key1 : Int) (kk : AV → List A1 → Prop) :
    ev TT cs_spec_promote 88 an_spec_promote (Try.f47.body.getD .skip) (st0 con_spec_promote [.agg [.v (.int .i64 s0Trial), .v (.int .i64 s0Safe), .ro .int s0New, .ro .int s0Old], .c (.v (.int .i64 key1))]) (fin TT con_spec_promote Try.f47.results.toList [.agg [.sc, .sc, .sl .int, .sl .int], .c .sc] [.agg [.v (.int .i64 s0Trial), .v (.int .i64 s0Safe), .ro .int s0New, .ro .int s0Old], .c (.v (.int .i64 key1))] kk) = G_spec_promote s0Trial s0Safe s0New s0Old key1 (fun r0 r1 r2 r3 r4 => kk (.tup [.agg [.v (.int .i64 r0), .v (.int .i64 r1), .ro .int r2, .ro .int r3], .c (.v (.bool r4))]) []) := by kernel_rfl
theorem e_spec_promote (s0Trial : Int) (s0Safe : Int) (s0New : List Int) (s0Old : List Int) (key1 : Int) (kk : AV → List A1 → Prop) :
    ev TT cs_spec_promote 88 an_spec_promote (Try.f47.body.getD .skip) (st0 con_spec_promote [.agg [.v (.int .i64 s0Trial), .v (.int .i64 s0Safe), .ro .int s0New, .ro .int s0Old], .c (.v (.int .i64 key1))]) (fin TT con_spec_promote Try.f47.results.toList [.agg [.sc, .sc, .sl .int, .sl .int], .c .sc] [.agg [.v (.int .i64 s0Trial), .v (.int .i64 s0Safe), .ro .int s0New, .ro .int s0Old], .c (.v (.int .i64 key1))] kk) = S_spec_promote s0Trial s0Safe s0New s0Old key1 (fun r0 r1 r2 r3 r4 => kk (.tup [.agg [.v (.int .i64 r0), .v (.int .i64 r1), .ro .int r2, .ro .int r3], .c (.v (.bool r4))]) []) := by
  rw [g_spec_promote]
  rw [G_spec_promote_eq]
  rfl
theorem clok_spec_promote : ConOK Try.prog cl_spec_promote := consCons h_spec_copyInts ⟨Try.f53, Try.func53, by kernel_rfl, ne_of_beq (by kernel_rfl)⟩ (consCons h_spec_placeOf ⟨Try.f54, Try.func54, by kernel_rfl, ne_of_beq (by kernel_rfl)⟩ (consCons h_spec_without ⟨Try.f55, Try.func55, by kernel_rfl, ne_of_beq (by kernel_rfl)⟩ (consCons h_spec_recent ⟨Try.f56, Try.func56, by kernel_rfl, ne_of_beq (by kernel_rfl)⟩ (consNil))))
theorem cok_spec_promote : ConsOK Try.prog 88 cs_spec_promote := ⟨clok_spec_promote, inlNil, ovNil⟩
theorem i_spec_promote {vs : List A1} {kk : AV → List A1 → Prop} {motive : List A1 → Prop} (h : con_spec_promote.F vs kk) (H : ∀ (s0Trial : Int) (s0Safe : Int) (s0New : List Int) (s0Old : List Int) (key1 : Int), F_spec_promote s0Trial s0Safe s0New s0Old key1 (fun r0 r1 r2 r3 r4 => kk (.tup [.agg [.v (.int .i64 r0), .v (.int .i64 r1), .ro .int r2, .ro .int r3], .c (.v (.bool r4))]) []) → motive [.agg [.v (.int .i64 s0Trial), .v (.int .i64 s0Safe), .ro .int s0New, .ro .int s0Old], .c (.v (.int .i64 key1))]) : motive vs := by
  unfold con_spec_promote at h
  dsimp only at h
  split at h
  · exact H _ _ _ _ _ h
  · exact h.elim
theorem h_spec_promote : Holds Try.prog 47 con_spec_promote := by
  refine holds_of_ev (rt := [.agg [.sc, .sc, .sl .int, .sl .int], .c .sc]) (T := TT) (Γ := cs_spec_promote) (an := an_spec_promote) (N := 88) (c := Try.f47.body.getD .skip) Try.func47 (by kernel_rfl) Try.ntmps47 (by decide) (by decide) mixed tabOK cok_spec_promote (by kernel_rfl) ?_
  intro vs kk _ hF
  exact i_spec_promote (motive := fun vs => Goes (ev TT cs_spec_promote 88 an_spec_promote (Try.f47.body.getD .skip) (st0 con_spec_promote vs) (fin TT con_spec_promote Try.f47.results.toList [.agg [.sc, .sc, .sl .int, .sl .int], .c .sc] vs kk))) hF (fun s0Trial s0Safe s0New s0Old key1 hF => goes_of (e_spec_promote s0Trial s0Safe s0New s0Old key1 kk) (F_spec_promote_S hF))
def con_spec_toInt : Con := ⟨[.rd], true, [.c (.sc)], fun vs k => match vs with
    | [.c (.v (.bool b0))] => F_spec_toInt b0 (fun r0 => k (.one (.c (.v (.int .i64 r0)))) [])
    | _ => False, false⟩
def cl_spec_toInt : List (FuncId × Con) := []
def an_spec_toInt : Ann := ⟨[], [], [], []⟩
def cs_spec_toInt : Cons := ⟨cl_spec_toInt, [], 0, [], [], []⟩
def fin_spec_toInt (b0 : Bool) (kk : AV → List A1 → Prop) : Kt := fin TT con_spec_toInt Try.f48.results.toList [.c .sc] [.c (.v (.bool b0))] kk
theorem g_spec_toInt (b0 : Bool) (kk : AV → List A1 → Prop) :
    ev TT cs_spec_toInt 4 an_spec_toInt (Try.f48.body.getD .skip) (st0 con_spec_toInt [.c (.v (.bool b0))]) (fin TT con_spec_toInt Try.f48.results.toList [.c .sc] [.c (.v (.bool b0))] kk) = G_spec_toInt b0 (fun r0 => kk (.one (.c (.v (.int .i64 r0)))) []) := by kernel_rfl
theorem e_spec_toInt (b0 : Bool) (kk : AV → List A1 → Prop) :
    ev TT cs_spec_toInt 4 an_spec_toInt (Try.f48.body.getD .skip) (st0 con_spec_toInt [.c (.v (.bool b0))]) (fin TT con_spec_toInt Try.f48.results.toList [.c .sc] [.c (.v (.bool b0))] kk) = S_spec_toInt b0 (fun r0 => kk (.one (.c (.v (.int .i64 r0)))) []) := by
  rw [g_spec_toInt]
  rfl
theorem clok_spec_toInt : ConOK Try.prog cl_spec_toInt := consNil
theorem cok_spec_toInt : ConsOK Try.prog 4 cs_spec_toInt := ⟨clok_spec_toInt, inlNil, ovNil⟩
theorem i_spec_toInt {vs : List A1} {kk : AV → List A1 → Prop} {motive : List A1 → Prop} (h : con_spec_toInt.F vs kk) (H : ∀ (b0 : Bool), F_spec_toInt b0 (fun r0 => kk (.one (.c (.v (.int .i64 r0)))) []) → motive [.c (.v (.bool b0))]) : motive vs := by
  unfold con_spec_toInt at h
  dsimp only at h
  split at h
  · exact H _ h
  · exact h.elim
theorem h_spec_toInt : Holds Try.prog 48 con_spec_toInt := by
  refine holds_of_ev (rt := [.c .sc]) (T := TT) (Γ := cs_spec_toInt) (an := an_spec_toInt) (N := 4) (c := Try.f48.body.getD .skip) Try.func48 (by kernel_rfl) Try.ntmps48 (by decide) (by decide) mixed tabOK cok_spec_toInt (by kernel_rfl) ?_
  intro vs kk _ hF
  exact i_spec_toInt (motive := fun vs => Goes (ev TT cs_spec_toInt 4 an_spec_toInt (Try.f48.body.getD .skip) (st0 con_spec_toInt vs) (fin TT con_spec_toInt Try.f48.results.toList [.c .sc] vs kk))) hF (fun b0 hF => goes_of (e_spec_toInt b0 kk) (F_spec_toInt_S hF))
def con_spec_RunSegments : Con := ⟨[.rd, .rd, .rd], true, [.c (.sl .int), .c (.sc), .c (.sc)], fun vs k => match vs with
    | [.c (.ro .int t0), .c (.v (.int .i64 trial1)), .c (.v (.int .i64 safe2))] => F_spec_RunSegments t0 trial1 safe2 (fun r0 r1 r2 r3 r4 => k (.tup [.agg [.v (.int .i64 r0), .v (.int .i64 r1), .ro .int r2, .ro .int r3], .c (.v (.int .i64 r4))]) [])
    | _ => False, false⟩
def cl_spec_RunSegments : List (FuncId × Con) := [(29, con_spec_inRange), (33, con_spec_validTrace), (47, con_spec_promote), (48, con_spec_toInt)]
def nm0_spec_RunSegments : List NStep := [.ownc 128 2 .int 90000, .ownc 128 3 .int 90001, .keep [0, 6, 8, 9, 10] [96, 128, 90000, 90001]]
def an_spec_RunSegments : Ann := ⟨[(9, .take 1 (.take 2 (.take 3 (.take 4 (.alt 0 (.alt 5 (.take 6 (.take 7 (.take 8 (.alt 9 (.take 10 (.done)) (.none))))) (.none)) (.none))))), [])], [(6, nm0_spec_RunSegments)], [], []⟩
def cs_spec_RunSegments : Cons := ⟨cl_spec_RunSegments, [], 0, [], [], []⟩
def can0_spec_RunSegments (t0 : List Int) (xn9 : Int) (xi10 : Int) (xb8c0 : Int) (xb8c1 : Int) (xb8c2 : List Int) (xb8c3 : List Int) : St := ⟨[(0, .one (.c (.ro .int t0))), (6, .one (.c (.pb 96 0))), (8, .one (.c (.pb 128 0))), (9, .one (.c (.v (.int .i64 xn9)))), (10, .one (.c (.v (.int .i64 xi10))))], [(96, .box [.v (.int .i64 0), .v (.int .i64 0), .nil, .nil]), (128, .box [.v (.int .i64 xb8c0), .v (.int .i64 xb8c1), .ow 90000, .ow 90001]), (90000, .row .int xb8c2), (90001, .row .int xb8c3)]⟩
def fin_spec_RunSegments (t0 : List Int) (trial1 : Int) (safe2 : Int) (kk : AV → List A1 → Prop) : Kt := fin TT con_spec_RunSegments Try.f34.results.toList [.agg [.sc, .sc, .sl .int, .sl .int], .c .sc] [.c (.ro .int t0), .c (.v (.int .i64 trial1)), .c (.v (.int .i64 safe2))] kk
def kt0_spec_RunSegments (kf : Kt) : Kt := blockK 0 (seqK (evF TT cs_spec_RunSegments 52 an_spec_RunSegments Try.f34 [1, 1, 1, 1, 1]) (kf))
theorem r0_spec_RunSegments (t0 : List Int) (trial1 : Int) (safe2 : Int) (kk : AV → List A1 → Prop) (n : Nat) (xn9 : Int) (xi10 : Int) (xb8c0 : Int) (xb8c1 : Int) (xb8c2 : List Int) (xb8c3 : List Int) :
    iter (evF TT cs_spec_RunSegments 52 an_spec_RunSegments Try.f34 [1, 1, 1, 1, 0, 1, 0, 0]) nm0_spec_RunSegments (kt0_spec_RunSegments (fin_spec_RunSegments t0 trial1 safe2 kk)) (n + 1) (can0_spec_RunSegments t0 xn9 xi10 xb8c0 xb8c1 xb8c2 xb8c3) = T0_spec_RunSegments t0 xn9 xi10 xb8c0 xb8c1 xb8c2 xb8c3 (fun r0 r1 r2 r3 r4 => kk (.tup [.agg [.v (.int .i64 r0), .v (.int .i64 r1), .ro .int r2, .ro .int r3], .c (.v (.int .i64 r4))]) []) (fun xn9 xi10 xb8c0 xb8c1 xb8c2 xb8c3 => iter (evF TT cs_spec_RunSegments 52 an_spec_RunSegments Try.f34 [1, 1, 1, 1, 0, 1, 0, 0]) nm0_spec_RunSegments (kt0_spec_RunSegments (fin_spec_RunSegments t0 trial1 safe2 kk)) n (can0_spec_RunSegments t0 xn9 xi10 xb8c0 xb8c1 xb8c2 xb8c3)) := by kernel_rfl
theorem l0_spec_RunSegments (t0 : List Int) (trial1 : Int) (safe2 : Int) (kk : AV → List A1 → Prop) : ∀ (n : Nat) (xn9 : Int) (xi10 : Int) (xb8c0 : Int) (xb8c1 : Int) (xb8c2 : List Int) (xb8c3 : List Int), iter (evF TT cs_spec_RunSegments 52 an_spec_RunSegments Try.f34 [1, 1, 1, 1, 0, 1, 0, 0]) nm0_spec_RunSegments (kt0_spec_RunSegments (fin_spec_RunSegments t0 trial1 safe2 kk)) n (can0_spec_RunSegments t0 xn9 xi10 xb8c0 xb8c1 xb8c2 xb8c3) = L0_spec_RunSegments t0 (fun r0 r1 r2 r3 r4 => kk (.tup [.agg [.v (.int .i64 r0), .v (.int .i64 r1), .ro .int r2, .ro .int r3], .c (.v (.int .i64 r4))]) []) n xn9 xi10 xb8c0 xb8c1 xb8c2 xb8c3 := by
  intro n
  induction n with
  | zero => intros; rfl
  | succ n ih =>
    intro xn9 xi10 xb8c0 xb8c1 xb8c2 xb8c3
    rw [r0_spec_RunSegments t0 trial1 safe2 kk n xn9 xi10 xb8c0 xb8c1 xb8c2 xb8c3]
    have hb : (fun xn9 xi10 xb8c0 xb8c1 xb8c2 xb8c3 => iter (evF TT cs_spec_RunSegments 52 an_spec_RunSegments Try.f34 [1, 1, 1, 1, 0, 1, 0, 0]) nm0_spec_RunSegments (kt0_spec_RunSegments (fin_spec_RunSegments t0 trial1 safe2 kk)) n (can0_spec_RunSegments t0 xn9 xi10 xb8c0 xb8c1 xb8c2 xb8c3)) = L0_spec_RunSegments t0 (fun r0 r1 r2 r3 r4 => kk (.tup [.agg [.v (.int .i64 r0), .v (.int .i64 r1), .ro .int r2, .ro .int r3], .c (.v (.int .i64 r4))]) []) n := by
      funext xn9 xi10 xb8c0 xb8c1 xb8c2 xb8c3; exact ih xn9 xi10 xb8c0 xb8c1 xb8c2 xb8c3
    rw [hb]
    rw [T0_spec_RunSegments_eq]
    rfl
theorem g_spec_RunSegments (t0 : List Int) (trial1 : Int) (safe2 : Int) (kk : AV → List A1 → Prop) :
    ev TT cs_spec_RunSegments 52 an_spec_RunSegments (Try.f34.body.getD .skip) (st0 con_spec_RunSegments [.c (.ro .int t0), .c (.v (.int .i64 trial1)), .c (.v (.int .i64 safe2))]) (fin TT con_spec_RunSegments Try.f34.results.toList [.agg [.sc, .sc, .sl .int, .sl .int], .c .sc] [.c (.ro .int t0), .c (.v (.int .i64 trial1)), .c (.v (.int .i64 safe2))] kk) = G_spec_RunSegments t0 trial1 safe2 (fun r0 r1 r2 r3 r4 => kk (.tup [.agg [.v (.int .i64 r0), .v (.int .i64 r1), .ro .int r2, .ro .int r3], .c (.v (.int .i64 r4))]) []) (fun t0 xn9 xi10 xb8c0 xb8c1 xb8c2 xb8c3 => ∃ j, iter (evF TT cs_spec_RunSegments 52 an_spec_RunSegments Try.f34 [1, 1, 1, 1, 0, 1, 0, 0]) nm0_spec_RunSegments (kt0_spec_RunSegments (fin_spec_RunSegments t0 trial1 safe2 kk)) j (can0_spec_RunSegments t0 xn9 xi10 xb8c0 xb8c1 xb8c2 xb8c3)) := by kernel_rfl
theorem e_spec_RunSegments (t0 : List Int) (trial1 : Int) (safe2 : Int) (kk : AV → List A1 → Prop) :
    ev TT cs_spec_RunSegments 52 an_spec_RunSegments (Try.f34.body.getD .skip) (st0 con_spec_RunSegments [.c (.ro .int t0), .c (.v (.int .i64 trial1)), .c (.v (.int .i64 safe2))]) (fin TT con_spec_RunSegments Try.f34.results.toList [.agg [.sc, .sc, .sl .int, .sl .int], .c .sc] [.c (.ro .int t0), .c (.v (.int .i64 trial1)), .c (.v (.int .i64 safe2))] kk) = S_spec_RunSegments t0 trial1 safe2 (fun r0 r1 r2 r3 r4 => kk (.tup [.agg [.v (.int .i64 r0), .v (.int .i64 r1), .ro .int r2, .ro .int r3], .c (.v (.int .i64 r4))]) []) := by
  rw [g_spec_RunSegments]
  have hi0 : (fun t0 xn9 xi10 xb8c0 xb8c1 xb8c2 xb8c3 => ∃ j, iter (evF TT cs_spec_RunSegments 52 an_spec_RunSegments Try.f34 [1, 1, 1, 1, 0, 1, 0, 0]) nm0_spec_RunSegments (kt0_spec_RunSegments (fin_spec_RunSegments t0 trial1 safe2 kk)) j (can0_spec_RunSegments t0 xn9 xi10 xb8c0 xb8c1 xb8c2 xb8c3)) = (fun t0 xn9 xi10 xb8c0 xb8c1 xb8c2 xb8c3 => ∃ j, L0_spec_RunSegments t0 (fun r0 r1 r2 r3 r4 => kk (.tup [.agg [.v (.int .i64 r0), .v (.int .i64 r1), .ro .int r2, .ro .int r3], .c (.v (.int .i64 r4))]) []) j xn9 xi10 xb8c0 xb8c1 xb8c2 xb8c3) := by
    funext t0 xn9 xi10 xb8c0 xb8c1 xb8c2 xb8c3
    refine congrArg Exists (funext fun j => ?_)
    rw [l0_spec_RunSegments t0 trial1 safe2 kk j xn9 xi10 xb8c0 xb8c1 xb8c2 xb8c3]
  rw [hi0]
  rfl
theorem clok_spec_RunSegments : ConOK Try.prog cl_spec_RunSegments := consCons h_spec_inRange ⟨Try.f29, Try.func29, by kernel_rfl, ne_of_beq (by kernel_rfl)⟩ (consCons h_spec_validTrace ⟨Try.f33, Try.func33, by kernel_rfl, ne_of_beq (by kernel_rfl)⟩ (consCons h_spec_promote ⟨Try.f47, Try.func47, by kernel_rfl, ne_of_beq (by kernel_rfl)⟩ (consCons h_spec_toInt ⟨Try.f48, Try.func48, by kernel_rfl, ne_of_beq (by kernel_rfl)⟩ (consNil))))
theorem cok_spec_RunSegments : ConsOK Try.prog 52 cs_spec_RunSegments := ⟨clok_spec_RunSegments, inlNil, ovNil⟩
theorem i_spec_RunSegments {vs : List A1} {kk : AV → List A1 → Prop} {motive : List A1 → Prop} (h : con_spec_RunSegments.F vs kk) (H : ∀ (t0 : List Int) (trial1 : Int) (safe2 : Int), F_spec_RunSegments t0 trial1 safe2 (fun r0 r1 r2 r3 r4 => kk (.tup [.agg [.v (.int .i64 r0), .v (.int .i64 r1), .ro .int r2, .ro .int r3], .c (.v (.int .i64 r4))]) []) → motive [.c (.ro .int t0), .c (.v (.int .i64 trial1)), .c (.v (.int .i64 safe2))]) : motive vs := by
  unfold con_spec_RunSegments at h
  dsimp only at h
  split at h
  · exact H _ _ _ h
  · exact h.elim
theorem h_spec_RunSegments : Holds Try.prog 34 con_spec_RunSegments := by
  refine holds_of_ev (rt := [.agg [.sc, .sc, .sl .int, .sl .int], .c .sc]) (T := TT) (Γ := cs_spec_RunSegments) (an := an_spec_RunSegments) (N := 52) (c := Try.f34.body.getD .skip) Try.func34 (by kernel_rfl) Try.ntmps34 (by decide) (by decide) mixed tabOK cok_spec_RunSegments (by kernel_rfl) ?_
  intro vs kk _ hF
  exact i_spec_RunSegments (motive := fun vs => Goes (ev TT cs_spec_RunSegments 52 an_spec_RunSegments (Try.f34.body.getD .skip) (st0 con_spec_RunSegments vs) (fin TT con_spec_RunSegments Try.f34.results.toList [.agg [.sc, .sc, .sl .int, .sl .int], .c .sc] vs kk))) hF (fun t0 trial1 safe2 hF => goes_of (e_spec_RunSegments t0 trial1 safe2 kk) (F_spec_RunSegments_S hF))
def con_spec_BestSplit : Con := ⟨[.rd, .rd], true, [.c (.sl .int), .c (.sc)], fun vs k => match vs with
    | [.c (.ro .int t0), .c (.v (.int .i64 room1))] => F_spec_BestSplit t0 room1 (fun r0 => k (.one (.c (.v (.int .i64 r0)))) [])
    | _ => False, false⟩
def cl_spec_BestSplit : List (FuncId × Con) := [(29, con_spec_inRange), (33, con_spec_validTrace), (34, con_spec_RunSegments)]
def nm0_spec_BestSplit : List NStep := [.keep [0, 1, 5, 6, 7] []]
def an_spec_BestSplit : Ann := ⟨[], [(6, nm0_spec_BestSplit)], [], []⟩
def cs_spec_BestSplit : Cons := ⟨cl_spec_BestSplit, [], 0, [], [], []⟩
def can0_spec_BestSplit (room1 : Int) (t0 : List Int) (xat5 : Int) (xmost6 : Int) (xtrial7 : Int) : St := ⟨[(0, .one (.c (.ro .int t0))), (1, .one (.c (.v (.int .i64 room1)))), (5, .one (.c (.v (.int .i64 xat5)))), (6, .one (.c (.v (.int .i64 xmost6)))), (7, .one (.c (.v (.int .i64 xtrial7))))], []⟩
def fin_spec_BestSplit (t0 : List Int) (room1 : Int) (kk : AV → List A1 → Prop) : Kt := fin TT con_spec_BestSplit Try.f16.results.toList [.c .sc] [.c (.ro .int t0), .c (.v (.int .i64 room1))] kk
def kt0_spec_BestSplit (kf : Kt) : Kt := blockK 0 (seqK (evF TT cs_spec_BestSplit 38 an_spec_BestSplit Try.f16 [1, 1, 1, 1, 1]) (kf))
theorem r0_spec_BestSplit (t0 : List Int) (room1 : Int) (kk : AV → List A1 → Prop) (n : Nat) (xat5 : Int) (xmost6 : Int) (xtrial7 : Int) :
    iter (evF TT cs_spec_BestSplit 38 an_spec_BestSplit Try.f16 [1, 1, 1, 1, 0, 1, 0, 0]) nm0_spec_BestSplit (kt0_spec_BestSplit (fin_spec_BestSplit t0 room1 kk)) (n + 1) (can0_spec_BestSplit room1 t0 xat5 xmost6 xtrial7) = T0_spec_BestSplit room1 t0 xat5 xmost6 xtrial7 (fun r0 => kk (.one (.c (.v (.int .i64 r0)))) []) (fun xat5 xmost6 xtrial7 => iter (evF TT cs_spec_BestSplit 38 an_spec_BestSplit Try.f16 [1, 1, 1, 1, 0, 1, 0, 0]) nm0_spec_BestSplit (kt0_spec_BestSplit (fin_spec_BestSplit t0 room1 kk)) n (can0_spec_BestSplit room1 t0 xat5 xmost6 xtrial7)) := by kernel_rfl
theorem l0_spec_BestSplit (t0 : List Int) (room1 : Int) (kk : AV → List A1 → Prop) : ∀ (n : Nat) (xat5 : Int) (xmost6 : Int) (xtrial7 : Int), iter (evF TT cs_spec_BestSplit 38 an_spec_BestSplit Try.f16 [1, 1, 1, 1, 0, 1, 0, 0]) nm0_spec_BestSplit (kt0_spec_BestSplit (fin_spec_BestSplit t0 room1 kk)) n (can0_spec_BestSplit room1 t0 xat5 xmost6 xtrial7) = L0_spec_BestSplit room1 t0 (fun r0 => kk (.one (.c (.v (.int .i64 r0)))) []) n xat5 xmost6 xtrial7 := by
  intro n
  induction n with
  | zero => intros; rfl
  | succ n ih =>
    intro xat5 xmost6 xtrial7
    rw [r0_spec_BestSplit t0 room1 kk n xat5 xmost6 xtrial7]
    have hb : (fun xat5 xmost6 xtrial7 => iter (evF TT cs_spec_BestSplit 38 an_spec_BestSplit Try.f16 [1, 1, 1, 1, 0, 1, 0, 0]) nm0_spec_BestSplit (kt0_spec_BestSplit (fin_spec_BestSplit t0 room1 kk)) n (can0_spec_BestSplit room1 t0 xat5 xmost6 xtrial7)) = L0_spec_BestSplit room1 t0 (fun r0 => kk (.one (.c (.v (.int .i64 r0)))) []) n := by
      funext xat5 xmost6 xtrial7; exact ih xat5 xmost6 xtrial7
    rw [hb]
    rfl
theorem g_spec_BestSplit (t0 : List Int) (room1 : Int) (kk : AV → List A1 → Prop) :
    ev TT cs_spec_BestSplit 38 an_spec_BestSplit (Try.f16.body.getD .skip) (st0 con_spec_BestSplit [.c (.ro .int t0), .c (.v (.int .i64 room1))]) (fin TT con_spec_BestSplit Try.f16.results.toList [.c .sc] [.c (.ro .int t0), .c (.v (.int .i64 room1))] kk) = G_spec_BestSplit t0 room1 (fun r0 => kk (.one (.c (.v (.int .i64 r0)))) []) (fun room1 t0 xat5 xmost6 xtrial7 => ∃ j, iter (evF TT cs_spec_BestSplit 38 an_spec_BestSplit Try.f16 [1, 1, 1, 1, 0, 1, 0, 0]) nm0_spec_BestSplit (kt0_spec_BestSplit (fin_spec_BestSplit t0 room1 kk)) j (can0_spec_BestSplit room1 t0 xat5 xmost6 xtrial7)) := by kernel_rfl
theorem e_spec_BestSplit (t0 : List Int) (room1 : Int) (kk : AV → List A1 → Prop) :
    ev TT cs_spec_BestSplit 38 an_spec_BestSplit (Try.f16.body.getD .skip) (st0 con_spec_BestSplit [.c (.ro .int t0), .c (.v (.int .i64 room1))]) (fin TT con_spec_BestSplit Try.f16.results.toList [.c .sc] [.c (.ro .int t0), .c (.v (.int .i64 room1))] kk) = S_spec_BestSplit t0 room1 (fun r0 => kk (.one (.c (.v (.int .i64 r0)))) []) := by
  rw [g_spec_BestSplit]
  have hi0 : (fun room1 t0 xat5 xmost6 xtrial7 => ∃ j, iter (evF TT cs_spec_BestSplit 38 an_spec_BestSplit Try.f16 [1, 1, 1, 1, 0, 1, 0, 0]) nm0_spec_BestSplit (kt0_spec_BestSplit (fin_spec_BestSplit t0 room1 kk)) j (can0_spec_BestSplit room1 t0 xat5 xmost6 xtrial7)) = (fun room1 t0 xat5 xmost6 xtrial7 => ∃ j, L0_spec_BestSplit room1 t0 (fun r0 => kk (.one (.c (.v (.int .i64 r0)))) []) j xat5 xmost6 xtrial7) := by
    funext room1 t0 xat5 xmost6 xtrial7
    refine congrArg Exists (funext fun j => ?_)
    rw [l0_spec_BestSplit t0 room1 kk j xat5 xmost6 xtrial7]
  rw [hi0]
  rfl
theorem clok_spec_BestSplit : ConOK Try.prog cl_spec_BestSplit := consCons h_spec_inRange ⟨Try.f29, Try.func29, by kernel_rfl, ne_of_beq (by kernel_rfl)⟩ (consCons h_spec_validTrace ⟨Try.f33, Try.func33, by kernel_rfl, ne_of_beq (by kernel_rfl)⟩ (consCons h_spec_RunSegments ⟨Try.f34, Try.func34, by kernel_rfl, ne_of_beq (by kernel_rfl)⟩ (consNil)))
theorem cok_spec_BestSplit : ConsOK Try.prog 38 cs_spec_BestSplit := ⟨clok_spec_BestSplit, inlNil, ovNil⟩
theorem i_spec_BestSplit {vs : List A1} {kk : AV → List A1 → Prop} {motive : List A1 → Prop} (h : con_spec_BestSplit.F vs kk) (H : ∀ (t0 : List Int) (room1 : Int), F_spec_BestSplit t0 room1 (fun r0 => kk (.one (.c (.v (.int .i64 r0)))) []) → motive [.c (.ro .int t0), .c (.v (.int .i64 room1))]) : motive vs := by
  unfold con_spec_BestSplit at h
  dsimp only at h
  split at h
  · exact H _ _ h
  · exact h.elim
theorem h_spec_BestSplit : Holds Try.prog 16 con_spec_BestSplit := by
  refine holds_of_ev (rt := [.c .sc]) (T := TT) (Γ := cs_spec_BestSplit) (an := an_spec_BestSplit) (N := 38) (c := Try.f16.body.getD .skip) Try.func16 (by kernel_rfl) Try.ntmps16 (by decide) (by decide) mixed tabOK cok_spec_BestSplit (by kernel_rfl) ?_
  intro vs kk _ hF
  exact i_spec_BestSplit (motive := fun vs => Goes (ev TT cs_spec_BestSplit 38 an_spec_BestSplit (Try.f16.body.getD .skip) (st0 con_spec_BestSplit vs) (fin TT con_spec_BestSplit Try.f16.results.toList [.c .sc] vs kk))) hF (fun t0 room1 hF => goes_of (e_spec_BestSplit t0 room1 kk) (F_spec_BestSplit_S hF))
def con_impl_validKey : Con := ⟨[.rd], true, [.c (.sc)], fun vs k => match vs with
    | [.c (.v (.int .i64 key0))] => F_impl_validKey key0 (fun r0 => k (.one (.c (.v (.bool r0)))) [])
    | _ => False, false⟩
def cl_impl_validKey : List (FuncId × Con) := []
def an_impl_validKey : Ann := ⟨[], [], [], []⟩
def cs_impl_validKey : Cons := ⟨cl_impl_validKey, [], 0, [], [], []⟩
def fin_impl_validKey (key0 : Int) (kk : AV → List A1 → Prop) : Kt := fin TT con_impl_validKey Try.f49.results.toList [.c .sc] [.c (.v (.int .i64 key0))] kk
theorem g_impl_validKey (key0 : Int) (kk : AV → List A1 → Prop) :
    ev TT cs_impl_validKey 9 an_impl_validKey (Try.f49.body.getD .skip) (st0 con_impl_validKey [.c (.v (.int .i64 key0))]) (fin TT con_impl_validKey Try.f49.results.toList [.c .sc] [.c (.v (.int .i64 key0))] kk) = G_impl_validKey key0 (fun r0 => kk (.one (.c (.v (.bool r0)))) []) := by kernel_rfl
theorem e_impl_validKey (key0 : Int) (kk : AV → List A1 → Prop) :
    ev TT cs_impl_validKey 9 an_impl_validKey (Try.f49.body.getD .skip) (st0 con_impl_validKey [.c (.v (.int .i64 key0))]) (fin TT con_impl_validKey Try.f49.results.toList [.c .sc] [.c (.v (.int .i64 key0))] kk) = S_impl_validKey key0 (fun r0 => kk (.one (.c (.v (.bool r0)))) []) := by
  rw [g_impl_validKey]
  rfl
theorem clok_impl_validKey : ConOK Try.prog cl_impl_validKey := consNil
theorem cok_impl_validKey : ConsOK Try.prog 9 cs_impl_validKey := ⟨clok_impl_validKey, inlNil, ovNil⟩
theorem i_impl_validKey {vs : List A1} {kk : AV → List A1 → Prop} {motive : List A1 → Prop} (h : con_impl_validKey.F vs kk) (H : ∀ (key0 : Int), F_impl_validKey key0 (fun r0 => kk (.one (.c (.v (.bool r0)))) []) → motive [.c (.v (.int .i64 key0))]) : motive vs := by
  unfold con_impl_validKey at h
  dsimp only at h
  split at h
  · exact H _ h
  · exact h.elim
theorem h_impl_validKey : Holds Try.prog 49 con_impl_validKey := by
  refine holds_of_ev (rt := [.c .sc]) (T := TT) (Γ := cs_impl_validKey) (an := an_impl_validKey) (N := 9) (c := Try.f49.body.getD .skip) Try.func49 (by kernel_rfl) Try.ntmps49 (by decide) (by decide) mixed tabOK cok_impl_validKey (by kernel_rfl) ?_
  intro vs kk _ hF
  exact i_impl_validKey (motive := fun vs => Goes (ev TT cs_impl_validKey 9 an_impl_validKey (Try.f49.body.getD .skip) (st0 con_impl_validKey vs) (fin TT con_impl_validKey Try.f49.results.toList [.c .sc] vs kk))) hF (fun key0 hF => goes_of (e_impl_validKey key0 kk) (F_impl_validKey_S hF))
def con_impl_ValidTrace : Con := ⟨[.rd], true, [.c (.sl .int)], fun vs k => match vs with
    | [.c (.ro .int t0)] => F_impl_ValidTrace t0 (fun r0 => k (.one (.c (.v (.bool r0)))) [])
    | _ => False, false⟩
def cl_impl_ValidTrace : List (FuncId × Con) := [(49, con_impl_validKey)]
def nm0_impl_ValidTrace : List NStep := [.keep [8, 9, 10] []]
def an_impl_ValidTrace : Ann := ⟨[], [(4, nm0_impl_ValidTrace)], [], []⟩
def cs_impl_ValidTrace : Cons := ⟨cl_impl_ValidTrace, [], 0, [], [], []⟩
def can0_impl_ValidTrace (t0 : List Int) (xt9 : Int) (xt10 : Int) : St := ⟨[(8, .one (.c (.ro .int t0))), (9, .one (.c (.v (.int .i64 xt9)))), (10, .one (.c (.v (.int .i64 xt10))))], []⟩
def fin_impl_ValidTrace (t0 : List Int) (kk : AV → List A1 → Prop) : Kt := fin TT con_impl_ValidTrace Try.f35.results.toList [.c .sc] [.c (.ro .int t0)] kk
def kt0_impl_ValidTrace (kf : Kt) : Kt := blockK 0 (seqK (evF TT cs_impl_ValidTrace 18 an_impl_ValidTrace Try.f35 [1, 1, 1]) (kf))
theorem r0_impl_ValidTrace (t0 : List Int) (xt9 : Int) (kk : AV → List A1 → Prop) (n : Nat) (xt10 : Int) :
    iter (evF TT cs_impl_ValidTrace 18 an_impl_ValidTrace Try.f35 [1, 1, 0, 1, 0, 0]) nm0_impl_ValidTrace (kt0_impl_ValidTrace (fin_impl_ValidTrace t0 kk)) (n + 1) (can0_impl_ValidTrace t0 xt9 xt10) = T0_impl_ValidTrace t0 xt9 xt10 (fun r0 => kk (.one (.c (.v (.bool r0)))) []) (fun xt10 => iter (evF TT cs_impl_ValidTrace 18 an_impl_ValidTrace Try.f35 [1, 1, 0, 1, 0, 0]) nm0_impl_ValidTrace (kt0_impl_ValidTrace (fin_impl_ValidTrace t0 kk)) n (can0_impl_ValidTrace t0 xt9 xt10)) := by kernel_rfl
theorem l0_impl_ValidTrace (t0 : List Int) (xt9 : Int) (kk : AV → List A1 → Prop) : ∀ (n : Nat) (xt10 : Int), iter (evF TT cs_impl_ValidTrace 18 an_impl_ValidTrace Try.f35 [1, 1, 0, 1, 0, 0]) nm0_impl_ValidTrace (kt0_impl_ValidTrace (fin_impl_ValidTrace t0 kk)) n (can0_impl_ValidTrace t0 xt9 xt10) = L0_impl_ValidTrace t0 xt9 (fun r0 => kk (.one (.c (.v (.bool r0)))) []) n xt10 := by
  intro n
  induction n with
  | zero => intros; rfl
  | succ n ih =>
    intro xt10
    rw [r0_impl_ValidTrace t0 xt9 kk n xt10]
    have hb : (fun xt10 => iter (evF TT cs_impl_ValidTrace 18 an_impl_ValidTrace Try.f35 [1, 1, 0, 1, 0, 0]) nm0_impl_ValidTrace (kt0_impl_ValidTrace (fin_impl_ValidTrace t0 kk)) n (can0_impl_ValidTrace t0 xt9 xt10)) = L0_impl_ValidTrace t0 xt9 (fun r0 => kk (.one (.c (.v (.bool r0)))) []) n := by
      funext xt10; exact ih xt10
    rw [hb]
    rfl
theorem g_impl_ValidTrace (t0 : List Int) (kk : AV → List A1 → Prop) :
    ev TT cs_impl_ValidTrace 18 an_impl_ValidTrace (Try.f35.body.getD .skip) (st0 con_impl_ValidTrace [.c (.ro .int t0)]) (fin TT con_impl_ValidTrace Try.f35.results.toList [.c .sc] [.c (.ro .int t0)] kk) = G_impl_ValidTrace t0 (fun r0 => kk (.one (.c (.v (.bool r0)))) []) (fun t0 xt9 xt10 => ∃ j, iter (evF TT cs_impl_ValidTrace 18 an_impl_ValidTrace Try.f35 [1, 1, 0, 1, 0, 0]) nm0_impl_ValidTrace (kt0_impl_ValidTrace (fin_impl_ValidTrace t0 kk)) j (can0_impl_ValidTrace t0 xt9 xt10)) := by kernel_rfl
theorem e_impl_ValidTrace (t0 : List Int) (kk : AV → List A1 → Prop) :
    ev TT cs_impl_ValidTrace 18 an_impl_ValidTrace (Try.f35.body.getD .skip) (st0 con_impl_ValidTrace [.c (.ro .int t0)]) (fin TT con_impl_ValidTrace Try.f35.results.toList [.c .sc] [.c (.ro .int t0)] kk) = S_impl_ValidTrace t0 (fun r0 => kk (.one (.c (.v (.bool r0)))) []) := by
  rw [g_impl_ValidTrace]
  have hi0 : (fun t0 xt9 xt10 => ∃ j, iter (evF TT cs_impl_ValidTrace 18 an_impl_ValidTrace Try.f35 [1, 1, 0, 1, 0, 0]) nm0_impl_ValidTrace (kt0_impl_ValidTrace (fin_impl_ValidTrace t0 kk)) j (can0_impl_ValidTrace t0 xt9 xt10)) = (fun t0 xt9 xt10 => ∃ j, L0_impl_ValidTrace t0 xt9 (fun r0 => kk (.one (.c (.v (.bool r0)))) []) j xt10) := by
    funext t0 xt9 xt10
    refine congrArg Exists (funext fun j => ?_)
    rw [l0_impl_ValidTrace t0 xt9 kk j xt10]
  rw [hi0]
  rfl
theorem clok_impl_ValidTrace : ConOK Try.prog cl_impl_ValidTrace := consCons h_impl_validKey ⟨Try.f49, Try.func49, by kernel_rfl, ne_of_beq (by kernel_rfl)⟩ (consNil)
theorem cok_impl_ValidTrace : ConsOK Try.prog 18 cs_impl_ValidTrace := ⟨clok_impl_ValidTrace, inlNil, ovNil⟩
theorem i_impl_ValidTrace {vs : List A1} {kk : AV → List A1 → Prop} {motive : List A1 → Prop} (h : con_impl_ValidTrace.F vs kk) (H : ∀ (t0 : List Int), F_impl_ValidTrace t0 (fun r0 => kk (.one (.c (.v (.bool r0)))) []) → motive [.c (.ro .int t0)]) : motive vs := by
  unfold con_impl_ValidTrace at h
  dsimp only at h
  split at h
  · exact H _ h
  · exact h.elim
theorem h_impl_ValidTrace : Holds Try.prog 35 con_impl_ValidTrace := by
  refine holds_of_ev (rt := [.c .sc]) (T := TT) (Γ := cs_impl_ValidTrace) (an := an_impl_ValidTrace) (N := 18) (c := Try.f35.body.getD .skip) Try.func35 (by kernel_rfl) Try.ntmps35 (by decide) (by decide) mixed tabOK cok_impl_ValidTrace (by kernel_rfl) ?_
  intro vs kk _ hF
  exact i_impl_ValidTrace (motive := fun vs => Goes (ev TT cs_impl_ValidTrace 18 an_impl_ValidTrace (Try.f35.body.getD .skip) (st0 con_impl_ValidTrace vs) (fin TT con_impl_ValidTrace Try.f35.results.toList [.c .sc] vs kk))) hF (fun t0 hF => goes_of (e_impl_ValidTrace t0 kk) (F_impl_ValidTrace_S hF))
def con_impl_validRoom : Con := ⟨[.rd], true, [.c (.sc)], fun vs k => match vs with
    | [.c (.v (.int .i64 room0))] => F_impl_validRoom room0 (fun r0 => k (.one (.c (.v (.bool r0)))) [])
    | _ => False, false⟩
def cl_impl_validRoom : List (FuncId × Con) := []
def an_impl_validRoom : Ann := ⟨[], [], [], []⟩
def cs_impl_validRoom : Cons := ⟨cl_impl_validRoom, [], 0, [], [], []⟩
def fin_impl_validRoom (room0 : Int) (kk : AV → List A1 → Prop) : Kt := fin TT con_impl_validRoom Try.f36.results.toList [.c .sc] [.c (.v (.int .i64 room0))] kk
theorem g_impl_validRoom (room0 : Int) (kk : AV → List A1 → Prop) :
    ev TT cs_impl_validRoom 9 an_impl_validRoom (Try.f36.body.getD .skip) (st0 con_impl_validRoom [.c (.v (.int .i64 room0))]) (fin TT con_impl_validRoom Try.f36.results.toList [.c .sc] [.c (.v (.int .i64 room0))] kk) = G_impl_validRoom room0 (fun r0 => kk (.one (.c (.v (.bool r0)))) []) := by kernel_rfl
theorem e_impl_validRoom (room0 : Int) (kk : AV → List A1 → Prop) :
    ev TT cs_impl_validRoom 9 an_impl_validRoom (Try.f36.body.getD .skip) (st0 con_impl_validRoom [.c (.v (.int .i64 room0))]) (fin TT con_impl_validRoom Try.f36.results.toList [.c .sc] [.c (.v (.int .i64 room0))] kk) = S_impl_validRoom room0 (fun r0 => kk (.one (.c (.v (.bool r0)))) []) := by
  rw [g_impl_validRoom]
  rfl
theorem clok_impl_validRoom : ConOK Try.prog cl_impl_validRoom := consNil
theorem cok_impl_validRoom : ConsOK Try.prog 9 cs_impl_validRoom := ⟨clok_impl_validRoom, inlNil, ovNil⟩
theorem i_impl_validRoom {vs : List A1} {kk : AV → List A1 → Prop} {motive : List A1 → Prop} (h : con_impl_validRoom.F vs kk) (H : ∀ (room0 : Int), F_impl_validRoom room0 (fun r0 => kk (.one (.c (.v (.bool r0)))) []) → motive [.c (.v (.int .i64 room0))]) : motive vs := by
  unfold con_impl_validRoom at h
  dsimp only at h
  split at h
  · exact H _ h
  · exact h.elim
theorem h_impl_validRoom : Holds Try.prog 36 con_impl_validRoom := by
  refine holds_of_ev (rt := [.c .sc]) (T := TT) (Γ := cs_impl_validRoom) (an := an_impl_validRoom) (N := 9) (c := Try.f36.body.getD .skip) Try.func36 (by kernel_rfl) Try.ntmps36 (by decide) (by decide) mixed tabOK cok_impl_validRoom (by kernel_rfl) ?_
  intro vs kk _ hF
  exact i_impl_validRoom (motive := fun vs => Goes (ev TT cs_impl_validRoom 9 an_impl_validRoom (Try.f36.body.getD .skip) (st0 con_impl_validRoom vs) (fin TT con_impl_validRoom Try.f36.results.toList [.c .sc] vs kk))) hF (fun room0 hF => goes_of (e_impl_validRoom room0 kk) (F_impl_validRoom_S hF))
def con_slices_Index_sint_int : Con := ⟨[.rd, .rd], true, [.c (.sl .int), .c (.sc)], fun vs k => match vs with
    | [.c (.ro .int s0), .c (.v (.int .i64 v1))] => F_slices_Index_sint_int s0 v1 (fun r0 => k (.one (.c (.v (.int .i64 r0)))) [])
    | _ => False, false⟩
def cl_slices_Index_sint_int : List (FuncId × Con) := []
def nm0_slices_Index_sint_int : List NStep := [.keep [0, 1, 7, 8] []]
def an_slices_Index_sint_int : Ann := ⟨[], [(2, nm0_slices_Index_sint_int)], [], []⟩
def cs_slices_Index_sint_int : Cons := ⟨cl_slices_Index_sint_int, [], 0, [], [], []⟩
def can0_slices_Index_sint_int (s0 : List Int) (v1 : Int) (xt7 : Int) (xt8 : Int) : St := ⟨[(0, .one (.c (.ro .int s0))), (1, .one (.c (.v (.int .i64 v1)))), (7, .one (.c (.v (.int .i64 xt7)))), (8, .one (.c (.v (.int .i64 xt8))))], []⟩
def fin_slices_Index_sint_int (s0 : List Int) (v1 : Int) (kk : AV → List A1 → Prop) : Kt := fin TT con_slices_Index_sint_int Try.f62.results.toList [.c .sc] [.c (.ro .int s0), .c (.v (.int .i64 v1))] kk
def kt0_slices_Index_sint_int (kf : Kt) : Kt := blockK 0 (seqK (evF TT cs_slices_Index_sint_int 19 an_slices_Index_sint_int Try.f62 [1, 1]) (kf))
theorem r0_slices_Index_sint_int (s0 : List Int) (v1 : Int) (xt7 : Int) (kk : AV → List A1 → Prop) (n : Nat) (xt8 : Int) :
    iter (evF TT cs_slices_Index_sint_int 19 an_slices_Index_sint_int Try.f62 [1, 0, 1, 0, 0]) nm0_slices_Index_sint_int (kt0_slices_Index_sint_int (fin_slices_Index_sint_int s0 v1 kk)) (n + 1) (can0_slices_Index_sint_int s0 v1 xt7 xt8) = T0_slices_Index_sint_int s0 v1 xt7 xt8 (fun r0 => kk (.one (.c (.v (.int .i64 r0)))) []) (fun xt8 => iter (evF TT cs_slices_Index_sint_int 19 an_slices_Index_sint_int Try.f62 [1, 0, 1, 0, 0]) nm0_slices_Index_sint_int (kt0_slices_Index_sint_int (fin_slices_Index_sint_int s0 v1 kk)) n (can0_slices_Index_sint_int s0 v1 xt7 xt8)) := by kernel_rfl
theorem l0_slices_Index_sint_int (s0 : List Int) (v1 : Int) (xt7 : Int) (kk : AV → List A1 → Prop) : ∀ (n : Nat) (xt8 : Int), iter (evF TT cs_slices_Index_sint_int 19 an_slices_Index_sint_int Try.f62 [1, 0, 1, 0, 0]) nm0_slices_Index_sint_int (kt0_slices_Index_sint_int (fin_slices_Index_sint_int s0 v1 kk)) n (can0_slices_Index_sint_int s0 v1 xt7 xt8) = L0_slices_Index_sint_int s0 v1 xt7 (fun r0 => kk (.one (.c (.v (.int .i64 r0)))) []) n xt8 := by
  intro n
  induction n with
  | zero => intros; rfl
  | succ n ih =>
    intro xt8
    rw [r0_slices_Index_sint_int s0 v1 xt7 kk n xt8]
    have hb : (fun xt8 => iter (evF TT cs_slices_Index_sint_int 19 an_slices_Index_sint_int Try.f62 [1, 0, 1, 0, 0]) nm0_slices_Index_sint_int (kt0_slices_Index_sint_int (fin_slices_Index_sint_int s0 v1 kk)) n (can0_slices_Index_sint_int s0 v1 xt7 xt8)) = L0_slices_Index_sint_int s0 v1 xt7 (fun r0 => kk (.one (.c (.v (.int .i64 r0)))) []) n := by
      funext xt8; exact ih xt8
    rw [hb]
    rfl
theorem g_slices_Index_sint_int (s0 : List Int) (v1 : Int) (kk : AV → List A1 → Prop) :
    ev TT cs_slices_Index_sint_int 19 an_slices_Index_sint_int (Try.f62.body.getD .skip) (st0 con_slices_Index_sint_int [.c (.ro .int s0), .c (.v (.int .i64 v1))]) (fin TT con_slices_Index_sint_int Try.f62.results.toList [.c .sc] [.c (.ro .int s0), .c (.v (.int .i64 v1))] kk) = G_slices_Index_sint_int s0 v1 (fun s0 v1 xt7 xt8 => ∃ j, iter (evF TT cs_slices_Index_sint_int 19 an_slices_Index_sint_int Try.f62 [1, 0, 1, 0, 0]) nm0_slices_Index_sint_int (kt0_slices_Index_sint_int (fin_slices_Index_sint_int s0 v1 kk)) j (can0_slices_Index_sint_int s0 v1 xt7 xt8)) := by kernel_rfl
theorem e_slices_Index_sint_int (s0 : List Int) (v1 : Int) (kk : AV → List A1 → Prop) :
    ev TT cs_slices_Index_sint_int 19 an_slices_Index_sint_int (Try.f62.body.getD .skip) (st0 con_slices_Index_sint_int [.c (.ro .int s0), .c (.v (.int .i64 v1))]) (fin TT con_slices_Index_sint_int Try.f62.results.toList [.c .sc] [.c (.ro .int s0), .c (.v (.int .i64 v1))] kk) = S_slices_Index_sint_int s0 v1 (fun r0 => kk (.one (.c (.v (.int .i64 r0)))) []) := by
  rw [g_slices_Index_sint_int]
  have hi0 : (fun s0 v1 xt7 xt8 => ∃ j, iter (evF TT cs_slices_Index_sint_int 19 an_slices_Index_sint_int Try.f62 [1, 0, 1, 0, 0]) nm0_slices_Index_sint_int (kt0_slices_Index_sint_int (fin_slices_Index_sint_int s0 v1 kk)) j (can0_slices_Index_sint_int s0 v1 xt7 xt8)) = (fun s0 v1 xt7 xt8 => ∃ j, L0_slices_Index_sint_int s0 v1 xt7 (fun r0 => kk (.one (.c (.v (.int .i64 r0)))) []) j xt8) := by
    funext s0 v1 xt7 xt8
    refine congrArg Exists (funext fun j => ?_)
    rw [l0_slices_Index_sint_int s0 v1 xt7 kk j xt8]
  rw [hi0]
  rfl
theorem clok_slices_Index_sint_int : ConOK Try.prog cl_slices_Index_sint_int := consNil
theorem cok_slices_Index_sint_int : ConsOK Try.prog 19 cs_slices_Index_sint_int := ⟨clok_slices_Index_sint_int, inlNil, ovNil⟩
theorem i_slices_Index_sint_int {vs : List A1} {kk : AV → List A1 → Prop} {motive : List A1 → Prop} (h : con_slices_Index_sint_int.F vs kk) (H : ∀ (s0 : List Int) (v1 : Int), F_slices_Index_sint_int s0 v1 (fun r0 => kk (.one (.c (.v (.int .i64 r0)))) []) → motive [.c (.ro .int s0), .c (.v (.int .i64 v1))]) : motive vs := by
  unfold con_slices_Index_sint_int at h
  dsimp only at h
  split at h
  · exact H _ _ h
  · exact h.elim
theorem h_slices_Index_sint_int : Holds Try.prog 62 con_slices_Index_sint_int := by
  refine holds_of_ev (rt := [.c .sc]) (T := TT) (Γ := cs_slices_Index_sint_int) (an := an_slices_Index_sint_int) (N := 19) (c := Try.f62.body.getD .skip) Try.func62 (by kernel_rfl) Try.ntmps62 (by decide) (by decide) mixed tabOK cok_slices_Index_sint_int (by kernel_rfl) ?_
  intro vs kk _ hF
  exact i_slices_Index_sint_int (motive := fun vs => Goes (ev TT cs_slices_Index_sint_int 19 an_slices_Index_sint_int (Try.f62.body.getD .skip) (st0 con_slices_Index_sint_int vs) (fin TT con_slices_Index_sint_int Try.f62.results.toList [.c .sc] vs kk))) hF (fun s0 v1 hF => goes_of (e_slices_Index_sint_int s0 v1 kk) (F_slices_Index_sint_int_S hF))
def con_slices_Contains_sint_int : Con := ⟨[.rd, .rd], true, [.c (.sl .int), .c (.sc)], fun vs k => match vs with
    | [.c (.ro .int s0), .c (.v (.int .i64 v1))] => F_slices_Contains_sint_int s0 v1 (fun r0 => k (.one (.c (.v (.bool r0)))) [])
    | _ => False, false⟩
def cl_slices_Contains_sint_int : List (FuncId × Con) := [(62, con_slices_Index_sint_int)]
def an_slices_Contains_sint_int : Ann := ⟨[], [], [], []⟩
def cs_slices_Contains_sint_int : Cons := ⟨cl_slices_Contains_sint_int, [], 0, [], [], []⟩
def fin_slices_Contains_sint_int (s0 : List Int) (v1 : Int) (kk : AV → List A1 → Prop) : Kt := fin TT con_slices_Contains_sint_int Try.f58.results.toList [.c .sc] [.c (.ro .int s0), .c (.v (.int .i64 v1))] kk
theorem g_slices_Contains_sint_int (s0 : List Int) (v1 : Int) (kk : AV → List A1 → Prop) :
    ev TT cs_slices_Contains_sint_int 9 an_slices_Contains_sint_int (Try.f58.body.getD .skip) (st0 con_slices_Contains_sint_int [.c (.ro .int s0), .c (.v (.int .i64 v1))]) (fin TT con_slices_Contains_sint_int Try.f58.results.toList [.c .sc] [.c (.ro .int s0), .c (.v (.int .i64 v1))] kk) = G_slices_Contains_sint_int s0 v1 (fun r0 => kk (.one (.c (.v (.bool r0)))) []) := by kernel_rfl
theorem e_slices_Contains_sint_int (s0 : List Int) (v1 : Int) (kk : AV → List A1 → Prop) :
    ev TT cs_slices_Contains_sint_int 9 an_slices_Contains_sint_int (Try.f58.body.getD .skip) (st0 con_slices_Contains_sint_int [.c (.ro .int s0), .c (.v (.int .i64 v1))]) (fin TT con_slices_Contains_sint_int Try.f58.results.toList [.c .sc] [.c (.ro .int s0), .c (.v (.int .i64 v1))] kk) = S_slices_Contains_sint_int s0 v1 (fun r0 => kk (.one (.c (.v (.bool r0)))) []) := by
  rw [g_slices_Contains_sint_int]
  rfl
theorem clok_slices_Contains_sint_int : ConOK Try.prog cl_slices_Contains_sint_int := consCons h_slices_Index_sint_int ⟨Try.f62, Try.func62, by kernel_rfl, ne_of_beq (by kernel_rfl)⟩ (consNil)
theorem cok_slices_Contains_sint_int : ConsOK Try.prog 9 cs_slices_Contains_sint_int := ⟨clok_slices_Contains_sint_int, inlNil, ovNil⟩
theorem i_slices_Contains_sint_int {vs : List A1} {kk : AV → List A1 → Prop} {motive : List A1 → Prop} (h : con_slices_Contains_sint_int.F vs kk) (H : ∀ (s0 : List Int) (v1 : Int), F_slices_Contains_sint_int s0 v1 (fun r0 => kk (.one (.c (.v (.bool r0)))) []) → motive [.c (.ro .int s0), .c (.v (.int .i64 v1))]) : motive vs := by
  unfold con_slices_Contains_sint_int at h
  dsimp only at h
  split at h
  · exact H _ _ h
  · exact h.elim
theorem h_slices_Contains_sint_int : Holds Try.prog 58 con_slices_Contains_sint_int := by
  refine holds_of_ev (rt := [.c .sc]) (T := TT) (Γ := cs_slices_Contains_sint_int) (an := an_slices_Contains_sint_int) (N := 9) (c := Try.f58.body.getD .skip) Try.func58 (by kernel_rfl) Try.ntmps58 (by decide) (by decide) mixed tabOK cok_slices_Contains_sint_int (by kernel_rfl) ?_
  intro vs kk _ hF
  exact i_slices_Contains_sint_int (motive := fun vs => Goes (ev TT cs_slices_Contains_sint_int 9 an_slices_Contains_sint_int (Try.f58.body.getD .skip) (st0 con_slices_Contains_sint_int vs) (fin TT con_slices_Contains_sint_int Try.f58.results.toList [.c .sc] vs kk))) hF (fun s0 v1 hF => goes_of (e_slices_Contains_sint_int s0 v1 kk) (F_slices_Contains_sint_int_S hF))
def con_impl_differentKeys : Con := ⟨[.rd], true, [.c (.sl .int)], fun vs k => match vs with
    | [.c (.ro .int list0)] => F_impl_differentKeys list0 (fun r0 => k (.one (.c (.v (.bool r0)))) [])
    | _ => False, false⟩
def cl_impl_differentKeys : List (FuncId × Con) := [(49, con_impl_validKey), (58, con_slices_Contains_sint_int)]
def nm0_impl_differentKeys : List NStep := [.keep [0, 5, 6, 7] []]
def an_impl_differentKeys : Ann := ⟨[], [(2, nm0_impl_differentKeys)], [], []⟩
def cs_impl_differentKeys : Cons := ⟨cl_impl_differentKeys, [], 0, [], [], []⟩
def can0_impl_differentKeys (list0 : List Int) (xt6 : Int) (xt7 : Int) : St := ⟨[(0, .one (.c (.ro .int list0))), (5, .one (.c (.ro .int list0))), (6, .one (.c (.v (.int .i64 xt6)))), (7, .one (.c (.v (.int .i64 xt7))))], []⟩
def fin_impl_differentKeys (list0 : List Int) (kk : AV → List A1 → Prop) : Kt := fin TT con_impl_differentKeys Try.f64.results.toList [.c .sc] [.c (.ro .int list0)] kk
def kt0_impl_differentKeys (kf : Kt) : Kt := blockK 0 (seqK (evF TT cs_impl_differentKeys 23 an_impl_differentKeys Try.f64 [1, 1]) (kf))
theorem r0_impl_differentKeys (list0 : List Int) (xt6 : Int) (kk : AV → List A1 → Prop) (n : Nat) (xt7 : Int) :
    iter (evF TT cs_impl_differentKeys 23 an_impl_differentKeys Try.f64 [1, 0, 1, 0, 0]) nm0_impl_differentKeys (kt0_impl_differentKeys (fin_impl_differentKeys list0 kk)) (n + 1) (can0_impl_differentKeys list0 xt6 xt7) = T0_impl_differentKeys list0 xt6 xt7 (fun r0 => kk (.one (.c (.v (.bool r0)))) []) (fun xt7 => iter (evF TT cs_impl_differentKeys 23 an_impl_differentKeys Try.f64 [1, 0, 1, 0, 0]) nm0_impl_differentKeys (kt0_impl_differentKeys (fin_impl_differentKeys list0 kk)) n (can0_impl_differentKeys list0 xt6 xt7)) := by kernel_rfl
theorem l0_impl_differentKeys (list0 : List Int) (xt6 : Int) (kk : AV → List A1 → Prop) : ∀ (n : Nat) (xt7 : Int), iter (evF TT cs_impl_differentKeys 23 an_impl_differentKeys Try.f64 [1, 0, 1, 0, 0]) nm0_impl_differentKeys (kt0_impl_differentKeys (fin_impl_differentKeys list0 kk)) n (can0_impl_differentKeys list0 xt6 xt7) = L0_impl_differentKeys list0 xt6 (fun r0 => kk (.one (.c (.v (.bool r0)))) []) n xt7 := by
  intro n
  induction n with
  | zero => intros; rfl
  | succ n ih =>
    intro xt7
    rw [r0_impl_differentKeys list0 xt6 kk n xt7]
    have hb : (fun xt7 => iter (evF TT cs_impl_differentKeys 23 an_impl_differentKeys Try.f64 [1, 0, 1, 0, 0]) nm0_impl_differentKeys (kt0_impl_differentKeys (fin_impl_differentKeys list0 kk)) n (can0_impl_differentKeys list0 xt6 xt7)) = L0_impl_differentKeys list0 xt6 (fun r0 => kk (.one (.c (.v (.bool r0)))) []) n := by
      funext xt7; exact ih xt7
    rw [hb]
    rfl
theorem g_impl_differentKeys (list0 : List Int) (kk : AV → List A1 → Prop) :
    ev TT cs_impl_differentKeys 23 an_impl_differentKeys (Try.f64.body.getD .skip) (st0 con_impl_differentKeys [.c (.ro .int list0)]) (fin TT con_impl_differentKeys Try.f64.results.toList [.c .sc] [.c (.ro .int list0)] kk) = G_impl_differentKeys list0 (fun list0 xt6 xt7 => ∃ j, iter (evF TT cs_impl_differentKeys 23 an_impl_differentKeys Try.f64 [1, 0, 1, 0, 0]) nm0_impl_differentKeys (kt0_impl_differentKeys (fin_impl_differentKeys list0 kk)) j (can0_impl_differentKeys list0 xt6 xt7)) := by kernel_rfl
theorem e_impl_differentKeys (list0 : List Int) (kk : AV → List A1 → Prop) :
    ev TT cs_impl_differentKeys 23 an_impl_differentKeys (Try.f64.body.getD .skip) (st0 con_impl_differentKeys [.c (.ro .int list0)]) (fin TT con_impl_differentKeys Try.f64.results.toList [.c .sc] [.c (.ro .int list0)] kk) = S_impl_differentKeys list0 (fun r0 => kk (.one (.c (.v (.bool r0)))) []) := by
  rw [g_impl_differentKeys]
  have hi0 : (fun list0 xt6 xt7 => ∃ j, iter (evF TT cs_impl_differentKeys 23 an_impl_differentKeys Try.f64 [1, 0, 1, 0, 0]) nm0_impl_differentKeys (kt0_impl_differentKeys (fin_impl_differentKeys list0 kk)) j (can0_impl_differentKeys list0 xt6 xt7)) = (fun list0 xt6 xt7 => ∃ j, L0_impl_differentKeys list0 xt6 (fun r0 => kk (.one (.c (.v (.bool r0)))) []) j xt7) := by
    funext list0 xt6 xt7
    refine congrArg Exists (funext fun j => ?_)
    rw [l0_impl_differentKeys list0 xt6 kk j xt7]
  rw [hi0]
  rfl
theorem clok_impl_differentKeys : ConOK Try.prog cl_impl_differentKeys := consCons h_impl_validKey ⟨Try.f49, Try.func49, by kernel_rfl, ne_of_beq (by kernel_rfl)⟩ (consCons h_slices_Contains_sint_int ⟨Try.f58, Try.func58, by kernel_rfl, ne_of_beq (by kernel_rfl)⟩ (consNil))
theorem cok_impl_differentKeys : ConsOK Try.prog 23 cs_impl_differentKeys := ⟨clok_impl_differentKeys, inlNil, ovNil⟩
theorem i_impl_differentKeys {vs : List A1} {kk : AV → List A1 → Prop} {motive : List A1 → Prop} (h : con_impl_differentKeys.F vs kk) (H : ∀ (list0 : List Int), F_impl_differentKeys list0 (fun r0 => kk (.one (.c (.v (.bool r0)))) []) → motive [.c (.ro .int list0)]) : motive vs := by
  unfold con_impl_differentKeys at h
  dsimp only at h
  split at h
  · exact H _ h
  · exact h.elim
theorem h_impl_differentKeys : Holds Try.prog 64 con_impl_differentKeys := by
  refine holds_of_ev (rt := [.c .sc]) (T := TT) (Γ := cs_impl_differentKeys) (an := an_impl_differentKeys) (N := 23) (c := Try.f64.body.getD .skip) Try.func64 (by kernel_rfl) Try.ntmps64 (by decide) (by decide) mixed tabOK cok_impl_differentKeys (by kernel_rfl) ?_
  intro vs kk _ hF
  exact i_impl_differentKeys (motive := fun vs => Goes (ev TT cs_impl_differentKeys 23 an_impl_differentKeys (Try.f64.body.getD .skip) (st0 con_impl_differentKeys vs) (fin TT con_impl_differentKeys Try.f64.results.toList [.c .sc] vs kk))) hF (fun list0 hF => goes_of (e_impl_differentKeys list0 kk) (F_impl_differentKeys_S hF))
def con_impl_ValidKeys : Con := ⟨[.rd, .rd], true, [.c (.sl .int), .c (.sc)], fun vs k => match vs with
    | [.c (.ro .int list0), .c (.v (.int .i64 room1))] => F_impl_ValidKeys list0 room1 (fun r0 => k (.one (.c (.v (.bool r0)))) [])
    | _ => False, false⟩
def cl_impl_ValidKeys : List (FuncId × Con) := [(36, con_impl_validRoom), (64, con_impl_differentKeys)]
def an_impl_ValidKeys : Ann := ⟨[], [], [], []⟩
def cs_impl_ValidKeys : Cons := ⟨cl_impl_ValidKeys, [], 0, [], [], []⟩
def fin_impl_ValidKeys (list0 : List Int) (room1 : Int) (kk : AV → List A1 → Prop) : Kt := fin TT con_impl_ValidKeys Try.f61.results.toList [.c .sc] [.c (.ro .int list0), .c (.v (.int .i64 room1))] kk
theorem g_impl_ValidKeys (list0 : List Int) (room1 : Int) (kk : AV → List A1 → Prop) :
    ev TT cs_impl_ValidKeys 17 an_impl_ValidKeys (Try.f61.body.getD .skip) (st0 con_impl_ValidKeys [.c (.ro .int list0), .c (.v (.int .i64 room1))]) (fin TT con_impl_ValidKeys Try.f61.results.toList [.c .sc] [.c (.ro .int list0), .c (.v (.int .i64 room1))] kk) = G_impl_ValidKeys list0 room1 (fun r0 => kk (.one (.c (.v (.bool r0)))) []) := by kernel_rfl
theorem e_impl_ValidKeys (list0 : List Int) (room1 : Int) (kk : AV → List A1 → Prop) :
    ev TT cs_impl_ValidKeys 17 an_impl_ValidKeys (Try.f61.body.getD .skip) (st0 con_impl_ValidKeys [.c (.ro .int list0), .c (.v (.int .i64 room1))]) (fin TT con_impl_ValidKeys Try.f61.results.toList [.c .sc] [.c (.ro .int list0), .c (.v (.int .i64 room1))] kk) = S_impl_ValidKeys list0 room1 (fun r0 => kk (.one (.c (.v (.bool r0)))) []) := by
  rw [g_impl_ValidKeys]
  rfl
theorem clok_impl_ValidKeys : ConOK Try.prog cl_impl_ValidKeys := consCons h_impl_validRoom ⟨Try.f36, Try.func36, by kernel_rfl, ne_of_beq (by kernel_rfl)⟩ (consCons h_impl_differentKeys ⟨Try.f64, Try.func64, by kernel_rfl, ne_of_beq (by kernel_rfl)⟩ (consNil))
theorem cok_impl_ValidKeys : ConsOK Try.prog 17 cs_impl_ValidKeys := ⟨clok_impl_ValidKeys, inlNil, ovNil⟩
theorem i_impl_ValidKeys {vs : List A1} {kk : AV → List A1 → Prop} {motive : List A1 → Prop} (h : con_impl_ValidKeys.F vs kk) (H : ∀ (list0 : List Int) (room1 : Int), F_impl_ValidKeys list0 room1 (fun r0 => kk (.one (.c (.v (.bool r0)))) []) → motive [.c (.ro .int list0), .c (.v (.int .i64 room1))]) : motive vs := by
  unfold con_impl_ValidKeys at h
  dsimp only at h
  split at h
  · exact H _ _ h
  · exact h.elim
theorem h_impl_ValidKeys : Holds Try.prog 61 con_impl_ValidKeys := by
  refine holds_of_ev (rt := [.c .sc]) (T := TT) (Γ := cs_impl_ValidKeys) (an := an_impl_ValidKeys) (N := 17) (c := Try.f61.body.getD .skip) Try.func61 (by kernel_rfl) Try.ntmps61 (by decide) (by decide) mixed tabOK cok_impl_ValidKeys (by kernel_rfl) ?_
  intro vs kk _ hF
  exact i_impl_ValidKeys (motive := fun vs => Goes (ev TT cs_impl_ValidKeys 17 an_impl_ValidKeys (Try.f61.body.getD .skip) (st0 con_impl_ValidKeys vs) (fin TT con_impl_ValidKeys Try.f61.results.toList [.c .sc] vs kk))) hF (fun list0 room1 hF => goes_of (e_impl_ValidKeys list0 room1 kk) (F_impl_ValidKeys_S hF))
def con_impl_ValidSegments : Con := ⟨[.rd], true, [.agg [.sc, .sc, .sl .int, .sl .int]], fun vs k => match vs with
    | [.agg [.v (.int .i64 s0Trial), .v (.int .i64 s0Safe), .ro .int s0New, .ro .int s0Old]] => F_impl_ValidSegments s0Trial s0Safe s0New s0Old (fun r0 => k (.one (.c (.v (.bool r0)))) [])
    | _ => False, false⟩
def cl_impl_ValidSegments : List (FuncId × Con) := [(58, con_slices_Contains_sint_int), (61, con_impl_ValidKeys)]
def nm0_impl_ValidSegments : List NStep := [.keep [1, 20, 21, 22] [16]]
def an_impl_ValidSegments : Ann := ⟨[], [(4, nm0_impl_ValidSegments)], [], []⟩
def cs_impl_ValidSegments : Cons := ⟨cl_impl_ValidSegments, [], 0, [], [], []⟩
def can0_impl_ValidSegments (s0New : List Int) (s0Old : List Int) (s0Safe : Int) (s0Trial : Int) (xt21 : Int) (xt22 : Int) : St := ⟨[(1, .one (.c (.pb 16 0))), (20, .one (.c (.ro .int s0New))), (21, .one (.c (.v (.int .i64 xt21)))), (22, .one (.c (.v (.int .i64 xt22))))], [(16, .box [.v (.int .i64 s0Trial), .v (.int .i64 s0Safe), .ro .int s0New, .ro .int s0Old])]⟩
def fin_impl_ValidSegments (s0Trial : Int) (s0Safe : Int) (s0New : List Int) (s0Old : List Int) (kk : AV → List A1 → Prop) : Kt := fin TT con_impl_ValidSegments Try.f57.results.toList [.c .sc] [.agg [.v (.int .i64 s0Trial), .v (.int .i64 s0Safe), .ro .int s0New, .ro .int s0Old]] kk
def kt0_impl_ValidSegments (kf : Kt) : Kt := blockK 0 (seqK (evF TT cs_impl_ValidSegments 31 an_impl_ValidSegments Try.f57 [1, 1, 1]) (kf))
theorem r0_impl_ValidSegments (s0Trial : Int) (s0Safe : Int) (s0New : List Int) (s0Old : List Int) (xt21 : Int) (kk : AV → List A1 → Prop) (n : Nat) (xt22 : Int) :
    iter (evF TT cs_impl_ValidSegments 31 an_impl_ValidSegments Try.f57 [1, 1, 0, 1, 0, 0]) nm0_impl_ValidSegments (kt0_impl_ValidSegments (fin_impl_ValidSegments s0Trial s0Safe s0New s0Old kk)) (n + 1) (can0_impl_ValidSegments s0New s0Old s0Safe s0Trial xt21 xt22) = T0_impl_ValidSegments s0New s0Old s0Safe s0Trial xt21 xt22 (fun r0 => kk (.one (.c (.v (.bool r0)))) []) (fun xt22 => iter (evF TT cs_impl_ValidSegments 31 an_impl_ValidSegments Try.f57 [1, 1, 0, 1, 0, 0]) nm0_impl_ValidSegments (kt0_impl_ValidSegments (fin_impl_ValidSegments s0Trial s0Safe s0New s0Old kk)) n (can0_impl_ValidSegments s0New s0Old s0Safe s0Trial xt21 xt22)) := by kernel_rfl
theorem l0_impl_ValidSegments (s0Trial : Int) (s0Safe : Int) (s0New : List Int) (s0Old : List Int) (xt21 : Int) (kk : AV → List A1 → Prop) : ∀ (n : Nat) (xt22 : Int), iter (evF TT cs_impl_ValidSegments 31 an_impl_ValidSegments Try.f57 [1, 1, 0, 1, 0, 0]) nm0_impl_ValidSegments (kt0_impl_ValidSegments (fin_impl_ValidSegments s0Trial s0Safe s0New s0Old kk)) n (can0_impl_ValidSegments s0New s0Old s0Safe s0Trial xt21 xt22) = L0_impl_ValidSegments s0New s0Old s0Safe s0Trial xt21 (fun r0 => kk (.one (.c (.v (.bool r0)))) []) n xt22 := by
  intro n
  induction n with
  | zero => intros; rfl
  | succ n ih =>
    intro xt22
    rw [r0_impl_ValidSegments s0Trial s0Safe s0New s0Old xt21 kk n xt22]
    have hb : (fun xt22 => iter (evF TT cs_impl_ValidSegments 31 an_impl_ValidSegments Try.f57 [1, 1, 0, 1, 0, 0]) nm0_impl_ValidSegments (kt0_impl_ValidSegments (fin_impl_ValidSegments s0Trial s0Safe s0New s0Old kk)) n (can0_impl_ValidSegments s0New s0Old s0Safe s0Trial xt21 xt22)) = L0_impl_ValidSegments s0New s0Old s0Safe s0Trial xt21 (fun r0 => kk (.one (.c (.v (.bool r0)))) []) n := by
      funext xt22; exact ih xt22
    rw [hb]
    rfl
theorem g_impl_ValidSegments (s0Trial : Int) (s0Safe : Int) (s0New : List Int) (s0Old : List Int) (kk : AV → List A1 → Prop) :
    ev TT cs_impl_ValidSegments 31 an_impl_ValidSegments (Try.f57.body.getD .skip) (st0 con_impl_ValidSegments [.agg [.v (.int .i64 s0Trial), .v (.int .i64 s0Safe), .ro .int s0New, .ro .int s0Old]]) (fin TT con_impl_ValidSegments Try.f57.results.toList [.c .sc] [.agg [.v (.int .i64 s0Trial), .v (.int .i64 s0Safe), .ro .int s0New, .ro .int s0Old]] kk) = G_impl_ValidSegments s0Trial s0Safe s0New s0Old (fun r0 => kk (.one (.c (.v (.bool r0)))) []) (fun s0New s0Old s0Safe s0Trial xt21 xt22 => ∃ j, iter (evF TT cs_impl_ValidSegments 31 an_impl_ValidSegments Try.f57 [1, 1, 0, 1, 0, 0]) nm0_impl_ValidSegments (kt0_impl_ValidSegments (fin_impl_ValidSegments s0Trial s0Safe s0New s0Old kk)) j (can0_impl_ValidSegments s0New s0Old s0Safe s0Trial xt21 xt22)) := by kernel_rfl
theorem e_impl_ValidSegments (s0Trial : Int) (s0Safe : Int) (s0New : List Int) (s0Old : List Int) (kk : AV → List A1 → Prop) :
    ev TT cs_impl_ValidSegments 31 an_impl_ValidSegments (Try.f57.body.getD .skip) (st0 con_impl_ValidSegments [.agg [.v (.int .i64 s0Trial), .v (.int .i64 s0Safe), .ro .int s0New, .ro .int s0Old]]) (fin TT con_impl_ValidSegments Try.f57.results.toList [.c .sc] [.agg [.v (.int .i64 s0Trial), .v (.int .i64 s0Safe), .ro .int s0New, .ro .int s0Old]] kk) = S_impl_ValidSegments s0Trial s0Safe s0New s0Old (fun r0 => kk (.one (.c (.v (.bool r0)))) []) := by
  rw [g_impl_ValidSegments]
  have hi0 : (fun s0New s0Old s0Safe s0Trial xt21 xt22 => ∃ j, iter (evF TT cs_impl_ValidSegments 31 an_impl_ValidSegments Try.f57 [1, 1, 0, 1, 0, 0]) nm0_impl_ValidSegments (kt0_impl_ValidSegments (fin_impl_ValidSegments s0Trial s0Safe s0New s0Old kk)) j (can0_impl_ValidSegments s0New s0Old s0Safe s0Trial xt21 xt22)) = (fun s0New s0Old s0Safe s0Trial xt21 xt22 => ∃ j, L0_impl_ValidSegments s0New s0Old s0Safe s0Trial xt21 (fun r0 => kk (.one (.c (.v (.bool r0)))) []) j xt22) := by
    funext s0New s0Old s0Safe s0Trial xt21 xt22
    refine congrArg Exists (funext fun j => ?_)
    rw [l0_impl_ValidSegments s0Trial s0Safe s0New s0Old xt21 kk j xt22]
  rw [hi0]
  rfl
theorem clok_impl_ValidSegments : ConOK Try.prog cl_impl_ValidSegments := consCons h_slices_Contains_sint_int ⟨Try.f58, Try.func58, by kernel_rfl, ne_of_beq (by kernel_rfl)⟩ (consCons h_impl_ValidKeys ⟨Try.f61, Try.func61, by kernel_rfl, ne_of_beq (by kernel_rfl)⟩ (consNil))
theorem cok_impl_ValidSegments : ConsOK Try.prog 31 cs_impl_ValidSegments := ⟨clok_impl_ValidSegments, inlNil, ovNil⟩
theorem i_impl_ValidSegments {vs : List A1} {kk : AV → List A1 → Prop} {motive : List A1 → Prop} (h : con_impl_ValidSegments.F vs kk) (H : ∀ (s0Trial : Int) (s0Safe : Int) (s0New : List Int) (s0Old : List Int), F_impl_ValidSegments s0Trial s0Safe s0New s0Old (fun r0 => kk (.one (.c (.v (.bool r0)))) []) → motive [.agg [.v (.int .i64 s0Trial), .v (.int .i64 s0Safe), .ro .int s0New, .ro .int s0Old]]) : motive vs := by
  unfold con_impl_ValidSegments at h
  dsimp only at h
  split at h
  · exact H _ _ _ _ h
  · exact h.elim
theorem h_impl_ValidSegments : Holds Try.prog 57 con_impl_ValidSegments := by
  refine holds_of_ev (rt := [.c .sc]) (T := TT) (Γ := cs_impl_ValidSegments) (an := an_impl_ValidSegments) (N := 31) (c := Try.f57.body.getD .skip) Try.func57 (by kernel_rfl) Try.ntmps57 (by decide) (by decide) mixed tabOK cok_impl_ValidSegments (by kernel_rfl) ?_
  intro vs kk _ hF
  exact i_impl_ValidSegments (motive := fun vs => Goes (ev TT cs_impl_ValidSegments 31 an_impl_ValidSegments (Try.f57.body.getD .skip) (st0 con_impl_ValidSegments vs) (fin TT con_impl_ValidSegments Try.f57.results.toList [.c .sc] vs kk))) hF (fun s0Trial s0Safe s0New s0Old hF => goes_of (e_impl_ValidSegments s0Trial s0Safe s0New s0Old kk) (F_impl_ValidSegments_S hF))
def con_impl_withoutKey : Con := ⟨[.rd, .rd], true, [.c (.sl .int), .c (.sc)], fun vs k => match vs with
    | [.c (.ro .int list0), .c (.v (.int .i64 key1))] => F_impl_withoutKey list0 key1 (fun r0 => k (.one (.c (.ro .int r0))) [])
    | _ => False, false⟩
def cl_impl_withoutKey : List (FuncId × Con) := []
def nm0_impl_withoutKey : List NStep := [.own 5 .int 90000, .keep [1, 5, 9, 10, 11] [90000]]
def an_impl_withoutKey : Ann := ⟨[], [(3, nm0_impl_withoutKey)], [], []⟩
def cs_impl_withoutKey : Cons := ⟨cl_impl_withoutKey, [], 0, [], [], []⟩
def can0_impl_withoutKey (key1 : Int) (list0 : List Int) (xt10 : Int) (xt11 : Int) (xout5 : List Int) : St := ⟨[(1, .one (.c (.v (.int .i64 key1)))), (5, .one (.c (.ow 90000))), (9, .one (.c (.ro .int list0))), (10, .one (.c (.v (.int .i64 xt10)))), (11, .one (.c (.v (.int .i64 xt11))))], [(90000, .row .int xout5)]⟩
def fin_impl_withoutKey (list0 : List Int) (key1 : Int) (kk : AV → List A1 → Prop) : Kt := fin TT con_impl_withoutKey Try.f60.results.toList [.c (.sl .int)] [.c (.ro .int list0), .c (.v (.int .i64 key1))] kk
def kt0_impl_withoutKey (kf : Kt) : Kt := blockK 0 (seqK (evF TT cs_impl_withoutKey 24 an_impl_withoutKey Try.f60 [1, 1, 1]) (kf))
theorem r0_impl_withoutKey (list0 : List Int) (key1 : Int) (xt10 : Int) (kk : AV → List A1 → Prop) (n : Nat) (xt11 : Int) (xout5 : List Int) :
    iter (evF TT cs_impl_withoutKey 24 an_impl_withoutKey Try.f60 [1, 1, 0, 1, 0, 0]) nm0_impl_withoutKey (kt0_impl_withoutKey (fin_impl_withoutKey list0 key1 kk)) (n + 1) (can0_impl_withoutKey key1 list0 xt10 xt11 xout5) = T0_impl_withoutKey key1 list0 xt10 xt11 xout5 (fun r0 => kk (.one (.c (.ro .int r0))) []) (fun xt11 xout5 => iter (evF TT cs_impl_withoutKey 24 an_impl_withoutKey Try.f60 [1, 1, 0, 1, 0, 0]) nm0_impl_withoutKey (kt0_impl_withoutKey (fin_impl_withoutKey list0 key1 kk)) n (can0_impl_withoutKey key1 list0 xt10 xt11 xout5)) := by kernel_rfl
theorem l0_impl_withoutKey (list0 : List Int) (key1 : Int) (xt10 : Int) (kk : AV → List A1 → Prop) : ∀ (n : Nat) (xt11 : Int) (xout5 : List Int), iter (evF TT cs_impl_withoutKey 24 an_impl_withoutKey Try.f60 [1, 1, 0, 1, 0, 0]) nm0_impl_withoutKey (kt0_impl_withoutKey (fin_impl_withoutKey list0 key1 kk)) n (can0_impl_withoutKey key1 list0 xt10 xt11 xout5) = L0_impl_withoutKey key1 list0 xt10 (fun r0 => kk (.one (.c (.ro .int r0))) []) n xt11 xout5 := by
  intro n
  induction n with
  | zero => intros; rfl
  | succ n ih =>
    intro xt11 xout5
    rw [r0_impl_withoutKey list0 key1 xt10 kk n xt11 xout5]
    have hb : (fun xt11 xout5 => iter (evF TT cs_impl_withoutKey 24 an_impl_withoutKey Try.f60 [1, 1, 0, 1, 0, 0]) nm0_impl_withoutKey (kt0_impl_withoutKey (fin_impl_withoutKey list0 key1 kk)) n (can0_impl_withoutKey key1 list0 xt10 xt11 xout5)) = L0_impl_withoutKey key1 list0 xt10 (fun r0 => kk (.one (.c (.ro .int r0))) []) n := by
      funext xt11 xout5; exact ih xt11 xout5
    rw [hb]
    rfl
theorem g_impl_withoutKey (list0 : List Int) (key1 : Int) (kk : AV → List A1 → Prop) :
    ev TT cs_impl_withoutKey 24 an_impl_withoutKey (Try.f60.body.getD .skip) (st0 con_impl_withoutKey [.c (.ro .int list0), .c (.v (.int .i64 key1))]) (fin TT con_impl_withoutKey Try.f60.results.toList [.c (.sl .int)] [.c (.ro .int list0), .c (.v (.int .i64 key1))] kk) = G_impl_withoutKey list0 key1 (fun key1 list0 xt10 xt11 xout5 => ∃ j, iter (evF TT cs_impl_withoutKey 24 an_impl_withoutKey Try.f60 [1, 1, 0, 1, 0, 0]) nm0_impl_withoutKey (kt0_impl_withoutKey (fin_impl_withoutKey list0 key1 kk)) j (can0_impl_withoutKey key1 list0 xt10 xt11 xout5)) := by kernel_rfl
theorem e_impl_withoutKey (list0 : List Int) (key1 : Int) (kk : AV → List A1 → Prop) :
    ev TT cs_impl_withoutKey 24 an_impl_withoutKey (Try.f60.body.getD .skip) (st0 con_impl_withoutKey [.c (.ro .int list0), .c (.v (.int .i64 key1))]) (fin TT con_impl_withoutKey Try.f60.results.toList [.c (.sl .int)] [.c (.ro .int list0), .c (.v (.int .i64 key1))] kk) = S_impl_withoutKey list0 key1 (fun r0 => kk (.one (.c (.ro .int r0))) []) := by
  rw [g_impl_withoutKey]
  have hi0 : (fun key1 list0 xt10 xt11 xout5 => ∃ j, iter (evF TT cs_impl_withoutKey 24 an_impl_withoutKey Try.f60 [1, 1, 0, 1, 0, 0]) nm0_impl_withoutKey (kt0_impl_withoutKey (fin_impl_withoutKey list0 key1 kk)) j (can0_impl_withoutKey key1 list0 xt10 xt11 xout5)) = (fun key1 list0 xt10 xt11 xout5 => ∃ j, L0_impl_withoutKey key1 list0 xt10 (fun r0 => kk (.one (.c (.ro .int r0))) []) j xt11 xout5) := by
    funext key1 list0 xt10 xt11 xout5
    refine congrArg Exists (funext fun j => ?_)
    rw [l0_impl_withoutKey list0 key1 xt10 kk j xt11 xout5]
  rw [hi0]
  rfl
theorem clok_impl_withoutKey : ConOK Try.prog cl_impl_withoutKey := consNil
theorem cok_impl_withoutKey : ConsOK Try.prog 24 cs_impl_withoutKey := ⟨clok_impl_withoutKey, inlNil, ovNil⟩
theorem i_impl_withoutKey {vs : List A1} {kk : AV → List A1 → Prop} {motive : List A1 → Prop} (h : con_impl_withoutKey.F vs kk) (H : ∀ (list0 : List Int) (key1 : Int), F_impl_withoutKey list0 key1 (fun r0 => kk (.one (.c (.ro .int r0))) []) → motive [.c (.ro .int list0), .c (.v (.int .i64 key1))]) : motive vs := by
  unfold con_impl_withoutKey at h
  dsimp only at h
  split at h
  · exact H _ _ h
  · exact h.elim
theorem h_impl_withoutKey : Holds Try.prog 60 con_impl_withoutKey := by
  refine holds_of_ev (rt := [.c (.sl .int)]) (T := TT) (Γ := cs_impl_withoutKey) (an := an_impl_withoutKey) (N := 24) (c := Try.f60.body.getD .skip) Try.func60 (by kernel_rfl) Try.ntmps60 (by decide) (by decide) mixed tabOK cok_impl_withoutKey (by kernel_rfl) ?_
  intro vs kk _ hF
  exact i_impl_withoutKey (motive := fun vs => Goes (ev TT cs_impl_withoutKey 24 an_impl_withoutKey (Try.f60.body.getD .skip) (st0 con_impl_withoutKey vs) (fin TT con_impl_withoutKey Try.f60.results.toList [.c (.sl .int)] vs kk))) hF (fun list0 key1 hF => goes_of (e_impl_withoutKey list0 key1 kk) (F_impl_withoutKey_S hF))
def con_impl_putFirst : Con := ⟨[.rd, .rd], true, [.c (.sl .int), .c (.sc)], fun vs k => match vs with
    | [.c (.ro .int list0), .c (.v (.int .i64 key1))] => F_impl_putFirst list0 key1 (fun r0 => k (.one (.c (.ro .int r0))) [])
    | _ => False, false⟩
def cl_impl_putFirst : List (FuncId × Con) := []
def an_impl_putFirst : Ann := ⟨[], [], [], []⟩
def cs_impl_putFirst : Cons := ⟨cl_impl_putFirst, [], 0, [], [], []⟩
def fin_impl_putFirst (list0 : List Int) (key1 : Int) (kk : AV → List A1 → Prop) : Kt := fin TT con_impl_putFirst Try.f63.results.toList [.c (.sl .int)] [.c (.ro .int list0), .c (.v (.int .i64 key1))] kk
theorem g_impl_putFirst (list0 : List Int) (key1 : Int) (kk : AV → List A1 → Prop) :
    ev TT cs_impl_putFirst 9 an_impl_putFirst (Try.f63.body.getD .skip) (st0 con_impl_putFirst [.c (.ro .int list0), .c (.v (.int .i64 key1))]) (fin TT con_impl_putFirst Try.f63.results.toList [.c (.sl .int)] [.c (.ro .int list0), .c (.v (.int .i64 key1))] kk) = G_impl_putFirst list0 key1 (fun r0 => kk (.one (.c (.ro .int r0))) []) := by kernel_rfl
theorem e_impl_putFirst (list0 : List Int) (key1 : Int) (kk : AV → List A1 → Prop) :
    ev TT cs_impl_putFirst 9 an_impl_putFirst (Try.f63.body.getD .skip) (st0 con_impl_putFirst [.c (.ro .int list0), .c (.v (.int .i64 key1))]) (fin TT con_impl_putFirst Try.f63.results.toList [.c (.sl .int)] [.c (.ro .int list0), .c (.v (.int .i64 key1))] kk) = S_impl_putFirst list0 key1 (fun r0 => kk (.one (.c (.ro .int r0))) []) := by
  rw [g_impl_putFirst]
  rfl
theorem clok_impl_putFirst : ConOK Try.prog cl_impl_putFirst := consNil
theorem cok_impl_putFirst : ConsOK Try.prog 9 cs_impl_putFirst := ⟨clok_impl_putFirst, inlNil, ovNil⟩
theorem i_impl_putFirst {vs : List A1} {kk : AV → List A1 → Prop} {motive : List A1 → Prop} (h : con_impl_putFirst.F vs kk) (H : ∀ (list0 : List Int) (key1 : Int), F_impl_putFirst list0 key1 (fun r0 => kk (.one (.c (.ro .int r0))) []) → motive [.c (.ro .int list0), .c (.v (.int .i64 key1))]) : motive vs := by
  unfold con_impl_putFirst at h
  dsimp only at h
  split at h
  · exact H _ _ h
  · exact h.elim
theorem h_impl_putFirst : Holds Try.prog 63 con_impl_putFirst := by
  refine holds_of_ev (rt := [.c (.sl .int)]) (T := TT) (Γ := cs_impl_putFirst) (an := an_impl_putFirst) (N := 9) (c := Try.f63.body.getD .skip) Try.func63 (by kernel_rfl) Try.ntmps63 (by decide) (by decide) mixed tabOK cok_impl_putFirst (by kernel_rfl) ?_
  intro vs kk _ hF
  exact i_impl_putFirst (motive := fun vs => Goes (ev TT cs_impl_putFirst 9 an_impl_putFirst (Try.f63.body.getD .skip) (st0 con_impl_putFirst vs) (fin TT con_impl_putFirst Try.f63.results.toList [.c (.sl .int)] vs kk))) hF (fun list0 key1 hF => goes_of (e_impl_putFirst list0 key1 kk) (F_impl_putFirst_S hF))
def con_impl_UseRecent : Con := ⟨[.rd, .rd, .rd], true, [.c (.sl .int), .c (.sc), .c (.sc)], fun vs k => match vs with
    | [.c (.ro .int list0), .c (.v (.int .i64 room1)), .c (.v (.int .i64 key2))] => F_impl_UseRecent list0 room1 key2 (fun r0 r1 => k (.tup [.c (.ro .int r0), .c (.v (.bool r1))]) [])
    | _ => False, false⟩
def cl_impl_UseRecent : List (FuncId × Con) := [(49, con_impl_validKey), (58, con_slices_Contains_sint_int), (60, con_impl_withoutKey), (61, con_impl_ValidKeys), (63, con_impl_putFirst)]
def an_impl_UseRecent : Ann := ⟨[(4, .take 0 (.take 1 (.take 2 (.take 3 (.take 4 (.take 5 (.take 6 (.take 7 (.alt 8 (.take 9 (.take 10 (.done))) (.none))))))))), [])], [], [], []⟩
def cs_impl_UseRecent : Cons := ⟨cl_impl_UseRecent, [], 0, [], [], []⟩
def fin_impl_UseRecent (list0 : List Int) (room1 : Int) (key2 : Int) (kk : AV → List A1 → Prop) : Kt := fin TT con_impl_UseRecent Try.f59.results.toList [.c (.sl .int), .c .sc] [.c (.ro .int list0), .c (.v (.int .i64 room1)), .c (.v (.int .i64 key2))] kk
theorem g_impl_UseRecent (list0 : List Int) (room1 : Int) (key2 : Int) (kk : AV → List A1 → Prop) :
    ev TT cs_impl_UseRecent 32 an_impl_UseRecent (Try.f59.body.getD .skip) (st0 con_impl_UseRecent [.c (.ro .int list0), .c (.v (.int .i64 room1)), .c (.v (.int .i64 key2))]) (fin TT con_impl_UseRecent Try.f59.results.toList [.c (.sl .int), .c .sc] [.c (.ro .int list0), .c (.v (.int .i64 room1)), .c (.v (.int .i64 key2))] kk) = G_impl_UseRecent list0 room1 key2 (fun r0 r1 => kk (.tup [.c (.ro .int r0), .c (.v (.bool r1))]) []) := by kernel_rfl
theorem e_impl_UseRecent (list0 : List Int) (room1 : Int) (key2 : Int) (kk : AV → List A1 → Prop) :
    ev TT cs_impl_UseRecent 32 an_impl_UseRecent (Try.f59.body.getD .skip) (st0 con_impl_UseRecent [.c (.ro .int list0), .c (.v (.int .i64 room1)), .c (.v (.int .i64 key2))]) (fin TT con_impl_UseRecent Try.f59.results.toList [.c (.sl .int), .c .sc] [.c (.ro .int list0), .c (.v (.int .i64 room1)), .c (.v (.int .i64 key2))] kk) = S_impl_UseRecent list0 room1 key2 (fun r0 r1 => kk (.tup [.c (.ro .int r0), .c (.v (.bool r1))]) []) := by
  rw [g_impl_UseRecent]
  rw [G_impl_UseRecent_eq]
  rfl
theorem clok_impl_UseRecent : ConOK Try.prog cl_impl_UseRecent := consCons h_impl_validKey ⟨Try.f49, Try.func49, by kernel_rfl, ne_of_beq (by kernel_rfl)⟩ (consCons h_slices_Contains_sint_int ⟨Try.f58, Try.func58, by kernel_rfl, ne_of_beq (by kernel_rfl)⟩ (consCons h_impl_withoutKey ⟨Try.f60, Try.func60, by kernel_rfl, ne_of_beq (by kernel_rfl)⟩ (consCons h_impl_ValidKeys ⟨Try.f61, Try.func61, by kernel_rfl, ne_of_beq (by kernel_rfl)⟩ (consCons h_impl_putFirst ⟨Try.f63, Try.func63, by kernel_rfl, ne_of_beq (by kernel_rfl)⟩ (consNil)))))
theorem cok_impl_UseRecent : ConsOK Try.prog 32 cs_impl_UseRecent := ⟨clok_impl_UseRecent, inlNil, ovNil⟩
theorem i_impl_UseRecent {vs : List A1} {kk : AV → List A1 → Prop} {motive : List A1 → Prop} (h : con_impl_UseRecent.F vs kk) (H : ∀ (list0 : List Int) (room1 : Int) (key2 : Int), F_impl_UseRecent list0 room1 key2 (fun r0 r1 => kk (.tup [.c (.ro .int r0), .c (.v (.bool r1))]) []) → motive [.c (.ro .int list0), .c (.v (.int .i64 room1)), .c (.v (.int .i64 key2))]) : motive vs := by
  unfold con_impl_UseRecent at h
  dsimp only at h
  split at h
  · exact H _ _ _ h
  · exact h.elim
theorem h_impl_UseRecent : Holds Try.prog 59 con_impl_UseRecent := by
  refine holds_of_ev (rt := [.c (.sl .int), .c .sc]) (T := TT) (Γ := cs_impl_UseRecent) (an := an_impl_UseRecent) (N := 32) (c := Try.f59.body.getD .skip) Try.func59 (by kernel_rfl) Try.ntmps59 (by decide) (by decide) mixed tabOK cok_impl_UseRecent (by kernel_rfl) ?_
  intro vs kk _ hF
  exact i_impl_UseRecent (motive := fun vs => Goes (ev TT cs_impl_UseRecent 32 an_impl_UseRecent (Try.f59.body.getD .skip) (st0 con_impl_UseRecent vs) (fin TT con_impl_UseRecent Try.f59.results.toList [.c (.sl .int), .c .sc] vs kk))) hF (fun list0 room1 key2 hF => goes_of (e_impl_UseRecent list0 room1 key2 kk) (F_impl_UseRecent_S hF))
def con_impl_UseSegments : Con := ⟨[.rd, .rd], true, [.agg [.sc, .sc, .sl .int, .sl .int], .c (.sc)], fun vs k => match vs with
    | [.agg [.v (.int .i64 s0Trial), .v (.int .i64 s0Safe), .ro .int s0New, .ro .int s0Old], .c (.v (.int .i64 key1))] => F_impl_UseSegments s0Trial s0Safe s0New s0Old key1 (fun r0 r1 r2 r3 r4 => k (.tup [.agg [.v (.int .i64 r0), .v (.int .i64 r1), .ro .int r2, .ro .int r3], .c (.v (.bool r4))]) [])
    | _ => False, false⟩
def cl_impl_UseSegments : List (FuncId × Con) := [(49, con_impl_validKey), (57, con_impl_ValidSegments), (58, con_slices_Contains_sint_int), (59, con_impl_UseRecent), (60, con_impl_withoutKey)]
def an_impl_UseSegments : Ann := ⟨[(14, .take 0 (.take 2 (.take 3 (.take 4 (.take 5 (.take 6 (.take 7 (.take 8 (.alt 1 (.alt 9 (.alt 10 (.take 11 (.alt 12 (.done) (.none))) (.none)) (.none)) (.alt 9 (.alt 1 (.alt 10 (.take 11 (.alt 12 (.done) (.none))) (.none)) (.none)) (.none)))))))))), [32]), (15, .take 0 (.take 2 (.take 3 (.take 4 (.alt 1 (.alt 5 (.alt 6 (.take 7 (.alt 8 (.done) (.none))) (.none)) (.none)) (.alt 5 (.alt 1 (.alt 6 (.take 7 (.alt 8 (.done) (.none))) (.none)) (.none)) (.none)))))), [32])], [], [], []⟩
def cs_impl_UseSegments : Cons := ⟨cl_impl_UseSegments, [], 0, [], [], []⟩
def fin_impl_UseSegments (s0Trial : Int) (s0Safe : Int) (s0New : List Int) (s0Old : List Int) (key1 : Int) (kk : AV → List A1 → Prop) : Kt := fin TT con_impl_UseSegments Try.f51.results.toList [.agg [.sc, .sc, .sl .int, .sl .int], .c .sc] [.agg [.v (.int .i64 s0Trial), .v (.int .i64 s0Safe), .ro .int s0New, .ro .int s0Old], .c (.v (.int .i64 key1))] kk
theorem g_impl_UseSegments (s0Trial : Int) (s0Safe : Int) (s0New : List Int) (s0Old : List Int) (key1 : Int) (kk : AV → List A1 → Prop) :
    ev TT cs_impl_UseSegments 101 an_impl_UseSegments (Try.f51.body.getD .skip) (st0 con_impl_UseSegments [.agg [.v (.int .i64 s0Trial), .v (.int .i64 s0Safe), .ro .int s0New, .ro .int s0Old], .c (.v (.int .i64 key1))]) (fin TT con_impl_UseSegments Try.f51.results.toList [.agg [.sc, .sc, .sl .int, .sl .int], .c .sc] [.agg [.v (.int .i64 s0Trial), .v (.int .i64 s0Safe), .ro .int s0New, .ro .int s0Old], .c (.v (.int .i64 key1))] kk) = G_impl_UseSegments s0Trial s0Safe s0New s0Old key1 (fun r0 r1 r2 r3 r4 => kk (.tup [.agg [.v (.int .i64 r0), .v (.int .i64 r1), .ro .int r2, .ro .int r3], .c (.v (.bool r4))]) []) := by kernel_rfl
theorem e_impl_UseSegments (s0Trial : Int) (s0Safe : Int) (s0New : List Int) (s0Old : List Int) (key1 : Int) (kk : AV → List A1 → Prop) :
    ev TT cs_impl_UseSegments 101 an_impl_UseSegments (Try.f51.body.getD .skip) (st0 con_impl_UseSegments [.agg [.v (.int .i64 s0Trial), .v (.int .i64 s0Safe), .ro .int s0New, .ro .int s0Old], .c (.v (.int .i64 key1))]) (fin TT con_impl_UseSegments Try.f51.results.toList [.agg [.sc, .sc, .sl .int, .sl .int], .c .sc] [.agg [.v (.int .i64 s0Trial), .v (.int .i64 s0Safe), .ro .int s0New, .ro .int s0Old], .c (.v (.int .i64 key1))] kk) = S_impl_UseSegments s0Trial s0Safe s0New s0Old key1 (fun r0 r1 r2 r3 r4 => kk (.tup [.agg [.v (.int .i64 r0), .v (.int .i64 r1), .ro .int r2, .ro .int r3], .c (.v (.bool r4))]) []) := by
  rw [g_impl_UseSegments]
  rw [G_impl_UseSegments_eq]
  rfl
theorem clok_impl_UseSegments : ConOK Try.prog cl_impl_UseSegments := consCons h_impl_validKey ⟨Try.f49, Try.func49, by kernel_rfl, ne_of_beq (by kernel_rfl)⟩ (consCons h_impl_ValidSegments ⟨Try.f57, Try.func57, by kernel_rfl, ne_of_beq (by kernel_rfl)⟩ (consCons h_slices_Contains_sint_int ⟨Try.f58, Try.func58, by kernel_rfl, ne_of_beq (by kernel_rfl)⟩ (consCons h_impl_UseRecent ⟨Try.f59, Try.func59, by kernel_rfl, ne_of_beq (by kernel_rfl)⟩ (consCons h_impl_withoutKey ⟨Try.f60, Try.func60, by kernel_rfl, ne_of_beq (by kernel_rfl)⟩ (consNil)))))
theorem cok_impl_UseSegments : ConsOK Try.prog 101 cs_impl_UseSegments := ⟨clok_impl_UseSegments, inlNil, ovNil⟩
theorem i_impl_UseSegments {vs : List A1} {kk : AV → List A1 → Prop} {motive : List A1 → Prop} (h : con_impl_UseSegments.F vs kk) (H : ∀ (s0Trial : Int) (s0Safe : Int) (s0New : List Int) (s0Old : List Int) (key1 : Int), F_impl_UseSegments s0Trial s0Safe s0New s0Old key1 (fun r0 r1 r2 r3 r4 => kk (.tup [.agg [.v (.int .i64 r0), .v (.int .i64 r1), .ro .int r2, .ro .int r3], .c (.v (.bool r4))]) []) → motive [.agg [.v (.int .i64 s0Trial), .v (.int .i64 s0Safe), .ro .int s0New, .ro .int s0Old], .c (.v (.int .i64 key1))]) : motive vs := by
  unfold con_impl_UseSegments at h
  dsimp only at h
  split at h
  · exact H _ _ _ _ _ h
  · exact h.elim
theorem h_impl_UseSegments : Holds Try.prog 51 con_impl_UseSegments := by
  refine holds_of_ev (rt := [.agg [.sc, .sc, .sl .int, .sl .int], .c .sc]) (T := TT) (Γ := cs_impl_UseSegments) (an := an_impl_UseSegments) (N := 101) (c := Try.f51.body.getD .skip) Try.func51 (by kernel_rfl) Try.ntmps51 (by decide) (by decide) mixed tabOK cok_impl_UseSegments (by kernel_rfl) ?_
  intro vs kk _ hF
  exact i_impl_UseSegments (motive := fun vs => Goes (ev TT cs_impl_UseSegments 101 an_impl_UseSegments (Try.f51.body.getD .skip) (st0 con_impl_UseSegments vs) (fin TT con_impl_UseSegments Try.f51.results.toList [.agg [.sc, .sc, .sl .int, .sl .int], .c .sc] vs kk))) hF (fun s0Trial s0Safe s0New s0Old key1 hF => goes_of (e_impl_UseSegments s0Trial s0Safe s0New s0Old key1 kk) (F_impl_UseSegments_S hF))
def con_impl_useAll_Segments : Con := ⟨[.rd, .mv, .rd], true, [.c (.sl .int), .agg [.sc, .sc, .sl .int, .sl .int], .c (.fn)], fun vs k => match vs with
    | [.c (.ro .int t0), .agg [.v (.int .i64 cache1Trial), .v (.int .i64 cache1Safe), .ro .int cache1New, .ro .int cache1Old], .c (.v (.func (.func 51) ⟨[]⟩ ⟨[]⟩))] => F_impl_useAll_Segments_UseSegments t0 cache1Trial cache1Safe cache1New cache1Old (fun r0 r1 r2 r3 r4 => k (.tup [.agg [.v (.int .i64 r0), .v (.int .i64 r1), .ro .int r2, .ro .int r3], .c (.v (.int .i64 r4))]) [])
    | _ => False, false⟩
def cl_impl_useAll_Segments_UseSegments : List (FuncId × Con) := [(51, con_impl_UseSegments)]
def nm0_impl_useAll_Segments_UseSegments : List NStep := [.ownc 64 2 .int 90000, .ownc 64 3 .int 90001, .keep [2, 4, 6, 8, 13, 14, 15] [64, 90000, 90001, 96]]
def an_impl_useAll_Segments_UseSegments : Ann := ⟨[], [(3, nm0_impl_useAll_Segments_UseSegments)], [], []⟩
def cs_impl_useAll_Segments_UseSegments : Cons := ⟨cl_impl_useAll_Segments_UseSegments, [], 0, [], [], []⟩
def can0_impl_useAll_Segments_UseSegments (t0 : List Int) (xt14 : Int) (xhits8 : Int) (xt15 : Int) (xb4c0 : Int) (xb4c1 : Int) (xb4c2 : List Int) (xb4c3 : List Int) : St := ⟨[(2, .one (.c (.v (.func (.func 51) ⟨[]⟩ ⟨[]⟩)))), (4, .one (.c (.pb 64 0))), (6, .one (.c (.pb 96 0))), (8, .one (.c (.v (.int .i64 xhits8)))), (13, .one (.c (.ro .int t0))), (14, .one (.c (.v (.int .i64 xt14)))), (15, .one (.c (.v (.int .i64 xt15))))], [(64, .box [.v (.int .i64 xb4c0), .v (.int .i64 xb4c1), .ow 90000, .ow 90001]), (90000, .row .int xb4c2), (90001, .row .int xb4c3), (96, .box [.v (.int .i64 0), .v (.int .i64 0), .nil, .nil])]⟩
def fin_impl_useAll_Segments_UseSegments (t0 : List Int) (cache1Trial : Int) (cache1Safe : Int) (cache1New : List Int) (cache1Old : List Int) (kk : AV → List A1 → Prop) : Kt := fin TT con_impl_useAll_Segments Try.f50.results.toList [.agg [.sc, .sc, .sl .int, .sl .int], .c .sc] [.c (.ro .int t0), .agg [.v (.int .i64 cache1Trial), .v (.int .i64 cache1Safe), .ro .int cache1New, .ro .int cache1Old], .c (.v (.func (.func 51) ⟨[]⟩ ⟨[]⟩))] kk
def kt0_impl_useAll_Segments_UseSegments (kf : Kt) : Kt := blockK 0 (seqK (evF TT cs_impl_useAll_Segments_UseSegments 33 an_impl_useAll_Segments_UseSegments Try.f50 [1, 1, 1]) (kf))
theorem r0_impl_useAll_Segments_UseSegments (t0 : List Int) (cache1Trial : Int) (cache1Safe : Int) (cache1New : List Int) (cache1Old : List Int) (xt14 : Int) (kk : AV → List A1 → Prop) (n : Nat) (xhits8 : Int) (xt15 : Int) (xb4c0 : Int) (xb4c1 : Int) (xb4c2 : List Int) (xb4c3 : List Int) :
    iter (evF TT cs_impl_useAll_Segments_UseSegments 33 an_impl_useAll_Segments_UseSegments Try.f50 [1, 1, 0, 1, 0, 0]) nm0_impl_useAll_Segments_UseSegments (kt0_impl_useAll_Segments_UseSegments (fin_impl_useAll_Segments_UseSegments t0 cache1Trial cache1Safe cache1New cache1Old kk)) (n + 1) (can0_impl_useAll_Segments_UseSegments t0 xt14 xhits8 xt15 xb4c0 xb4c1 xb4c2 xb4c3) = T0_impl_useAll_Segments_UseSegments t0 xt14 xhits8 xt15 xb4c0 xb4c1 xb4c2 xb4c3 (fun r0 r1 r2 r3 r4 => kk (.tup [.agg [.v (.int .i64 r0), .v (.int .i64 r1), .ro .int r2, .ro .int r3], .c (.v (.int .i64 r4))]) []) (fun xhits8 xt15 xb4c0 xb4c1 xb4c2 xb4c3 => iter (evF TT cs_impl_useAll_Segments_UseSegments 33 an_impl_useAll_Segments_UseSegments Try.f50 [1, 1, 0, 1, 0, 0]) nm0_impl_useAll_Segments_UseSegments (kt0_impl_useAll_Segments_UseSegments (fin_impl_useAll_Segments_UseSegments t0 cache1Trial cache1Safe cache1New cache1Old kk)) n (can0_impl_useAll_Segments_UseSegments t0 xt14 xhits8 xt15 xb4c0 xb4c1 xb4c2 xb4c3)) := by kernel_rfl
theorem l0_impl_useAll_Segments_UseSegments (t0 : List Int) (cache1Trial : Int) (cache1Safe : Int) (cache1New : List Int) (cache1Old : List Int) (xt14 : Int) (kk : AV → List A1 → Prop) : ∀ (n : Nat) (xhits8 : Int) (xt15 : Int) (xb4c0 : Int) (xb4c1 : Int) (xb4c2 : List Int) (xb4c3 : List Int), iter (evF TT cs_impl_useAll_Segments_UseSegments 33 an_impl_useAll_Segments_UseSegments Try.f50 [1, 1, 0, 1, 0, 0]) nm0_impl_useAll_Segments_UseSegments (kt0_impl_useAll_Segments_UseSegments (fin_impl_useAll_Segments_UseSegments t0 cache1Trial cache1Safe cache1New cache1Old kk)) n (can0_impl_useAll_Segments_UseSegments t0 xt14 xhits8 xt15 xb4c0 xb4c1 xb4c2 xb4c3) = L0_impl_useAll_Segments_UseSegments t0 xt14 (fun r0 r1 r2 r3 r4 => kk (.tup [.agg [.v (.int .i64 r0), .v (.int .i64 r1), .ro .int r2, .ro .int r3], .c (.v (.int .i64 r4))]) []) n xhits8 xt15 xb4c0 xb4c1 xb4c2 xb4c3 := by
  intro n
  induction n with
  | zero => intros; rfl
  | succ n ih =>
    intro xhits8 xt15 xb4c0 xb4c1 xb4c2 xb4c3
    rw [r0_impl_useAll_Segments_UseSegments t0 cache1Trial cache1Safe cache1New cache1Old xt14 kk n xhits8 xt15 xb4c0 xb4c1 xb4c2 xb4c3]
    have hb : (fun xhits8 xt15 xb4c0 xb4c1 xb4c2 xb4c3 => iter (evF TT cs_impl_useAll_Segments_UseSegments 33 an_impl_useAll_Segments_UseSegments Try.f50 [1, 1, 0, 1, 0, 0]) nm0_impl_useAll_Segments_UseSegments (kt0_impl_useAll_Segments_UseSegments (fin_impl_useAll_Segments_UseSegments t0 cache1Trial cache1Safe cache1New cache1Old kk)) n (can0_impl_useAll_Segments_UseSegments t0 xt14 xhits8 xt15 xb4c0 xb4c1 xb4c2 xb4c3)) = L0_impl_useAll_Segments_UseSegments t0 xt14 (fun r0 r1 r2 r3 r4 => kk (.tup [.agg [.v (.int .i64 r0), .v (.int .i64 r1), .ro .int r2, .ro .int r3], .c (.v (.int .i64 r4))]) []) n := by
      funext xhits8 xt15 xb4c0 xb4c1 xb4c2 xb4c3; exact ih xhits8 xt15 xb4c0 xb4c1 xb4c2 xb4c3
    rw [hb]
    rfl
theorem g_impl_useAll_Segments_UseSegments (t0 : List Int) (cache1Trial : Int) (cache1Safe : Int) (cache1New : List Int) (cache1Old : List Int) (kk : AV → List A1 → Prop) :
    ev TT cs_impl_useAll_Segments_UseSegments 33 an_impl_useAll_Segments_UseSegments (Try.f50.body.getD .skip) (st0 con_impl_useAll_Segments [.c (.ro .int t0), .agg [.v (.int .i64 cache1Trial), .v (.int .i64 cache1Safe), .ro .int cache1New, .ro .int cache1Old], .c (.v (.func (.func 51) ⟨[]⟩ ⟨[]⟩))]) (fin TT con_impl_useAll_Segments Try.f50.results.toList [.agg [.sc, .sc, .sl .int, .sl .int], .c .sc] [.c (.ro .int t0), .agg [.v (.int .i64 cache1Trial), .v (.int .i64 cache1Safe), .ro .int cache1New, .ro .int cache1Old], .c (.v (.func (.func 51) ⟨[]⟩ ⟨[]⟩))] kk) = G_impl_useAll_Segments_UseSegments t0 cache1Trial cache1Safe cache1New cache1Old (fun t0 xt14 xhits8 xt15 xb4c0 xb4c1 xb4c2 xb4c3 => ∃ j, iter (evF TT cs_impl_useAll_Segments_UseSegments 33 an_impl_useAll_Segments_UseSegments Try.f50 [1, 1, 0, 1, 0, 0]) nm0_impl_useAll_Segments_UseSegments (kt0_impl_useAll_Segments_UseSegments (fin_impl_useAll_Segments_UseSegments t0 cache1Trial cache1Safe cache1New cache1Old kk)) j (can0_impl_useAll_Segments_UseSegments t0 xt14 xhits8 xt15 xb4c0 xb4c1 xb4c2 xb4c3)) := by kernel_rfl
theorem e_impl_useAll_Segments_UseSegments (t0 : List Int) (cache1Trial : Int) (cache1Safe : Int) (cache1New : List Int) (cache1Old : List Int) (kk : AV → List A1 → Prop) :
    ev TT cs_impl_useAll_Segments_UseSegments 33 an_impl_useAll_Segments_UseSegments (Try.f50.body.getD .skip) (st0 con_impl_useAll_Segments [.c (.ro .int t0), .agg [.v (.int .i64 cache1Trial), .v (.int .i64 cache1Safe), .ro .int cache1New, .ro .int cache1Old], .c (.v (.func (.func 51) ⟨[]⟩ ⟨[]⟩))]) (fin TT con_impl_useAll_Segments Try.f50.results.toList [.agg [.sc, .sc, .sl .int, .sl .int], .c .sc] [.c (.ro .int t0), .agg [.v (.int .i64 cache1Trial), .v (.int .i64 cache1Safe), .ro .int cache1New, .ro .int cache1Old], .c (.v (.func (.func 51) ⟨[]⟩ ⟨[]⟩))] kk) = S_impl_useAll_Segments_UseSegments t0 cache1Trial cache1Safe cache1New cache1Old (fun r0 r1 r2 r3 r4 => kk (.tup [.agg [.v (.int .i64 r0), .v (.int .i64 r1), .ro .int r2, .ro .int r3], .c (.v (.int .i64 r4))]) []) := by
  rw [g_impl_useAll_Segments_UseSegments]
  have hi0 : (fun t0 xt14 xhits8 xt15 xb4c0 xb4c1 xb4c2 xb4c3 => ∃ j, iter (evF TT cs_impl_useAll_Segments_UseSegments 33 an_impl_useAll_Segments_UseSegments Try.f50 [1, 1, 0, 1, 0, 0]) nm0_impl_useAll_Segments_UseSegments (kt0_impl_useAll_Segments_UseSegments (fin_impl_useAll_Segments_UseSegments t0 cache1Trial cache1Safe cache1New cache1Old kk)) j (can0_impl_useAll_Segments_UseSegments t0 xt14 xhits8 xt15 xb4c0 xb4c1 xb4c2 xb4c3)) = (fun t0 xt14 xhits8 xt15 xb4c0 xb4c1 xb4c2 xb4c3 => ∃ j, L0_impl_useAll_Segments_UseSegments t0 xt14 (fun r0 r1 r2 r3 r4 => kk (.tup [.agg [.v (.int .i64 r0), .v (.int .i64 r1), .ro .int r2, .ro .int r3], .c (.v (.int .i64 r4))]) []) j xhits8 xt15 xb4c0 xb4c1 xb4c2 xb4c3) := by
    funext t0 xt14 xhits8 xt15 xb4c0 xb4c1 xb4c2 xb4c3
    refine congrArg Exists (funext fun j => ?_)
    rw [l0_impl_useAll_Segments_UseSegments t0 cache1Trial cache1Safe cache1New cache1Old xt14 kk j xhits8 xt15 xb4c0 xb4c1 xb4c2 xb4c3]
  rw [hi0]
  rfl
theorem clok_impl_useAll_Segments_UseSegments : ConOK Try.prog cl_impl_useAll_Segments_UseSegments := consCons h_impl_UseSegments ⟨Try.f51, Try.func51, by kernel_rfl, ne_of_beq (by kernel_rfl)⟩ (consNil)
theorem cok_impl_useAll_Segments_UseSegments : ConsOK Try.prog 33 cs_impl_useAll_Segments_UseSegments := ⟨clok_impl_useAll_Segments_UseSegments, inlNil, ovNil⟩
theorem i_impl_useAll_Segments_UseSegments {vs : List A1} {kk : AV → List A1 → Prop} {motive : List A1 → Prop} (h : con_impl_useAll_Segments.F vs kk) (H : ∀ (t0 : List Int) (cache1Trial : Int) (cache1Safe : Int) (cache1New : List Int) (cache1Old : List Int), F_impl_useAll_Segments_UseSegments t0 cache1Trial cache1Safe cache1New cache1Old (fun r0 r1 r2 r3 r4 => kk (.tup [.agg [.v (.int .i64 r0), .v (.int .i64 r1), .ro .int r2, .ro .int r3], .c (.v (.int .i64 r4))]) []) → motive [.c (.ro .int t0), .agg [.v (.int .i64 cache1Trial), .v (.int .i64 cache1Safe), .ro .int cache1New, .ro .int cache1Old], .c (.v (.func (.func 51) ⟨[]⟩ ⟨[]⟩))]) : motive vs := by
  unfold con_impl_useAll_Segments at h
  dsimp only at h
  split at h
  · exact H _ _ _ _ _ h
  · exact h.elim
theorem h_impl_useAll_Segments : Holds Try.prog 50 con_impl_useAll_Segments := by
  refine holds_of_ev (rt := [.agg [.sc, .sc, .sl .int, .sl .int], .c .sc]) (T := TT) (Γ := cs_impl_useAll_Segments_UseSegments) (an := an_impl_useAll_Segments_UseSegments) (N := 33) (c := Try.f50.body.getD .skip) Try.func50 (by kernel_rfl) Try.ntmps50 (by decide) (by decide) mixed tabOK cok_impl_useAll_Segments_UseSegments (by kernel_rfl) ?_
  intro vs kk _ hF
  exact i_impl_useAll_Segments_UseSegments (motive := fun vs => Goes (ev TT cs_impl_useAll_Segments_UseSegments 33 an_impl_useAll_Segments_UseSegments (Try.f50.body.getD .skip) (st0 con_impl_useAll_Segments vs) (fin TT con_impl_useAll_Segments Try.f50.results.toList [.agg [.sc, .sc, .sl .int, .sl .int], .c .sc] vs kk))) hF (fun t0 cache1Trial cache1Safe cache1New cache1Old hF => goes_of (e_impl_useAll_Segments_UseSegments t0 cache1Trial cache1Safe cache1New cache1Old kk) (F_impl_useAll_Segments_UseSegments_S hF))
def con_impl_RunSegments : Con := ⟨[.rd, .rd, .rd], true, [.c (.sl .int), .c (.sc), .c (.sc)], fun vs k => match vs with
    | [.c (.ro .int t0), .c (.v (.int .i64 trial1)), .c (.v (.int .i64 safe2))] => F_impl_RunSegments t0 trial1 safe2 (fun r0 r1 r2 r3 r4 => k (.tup [.agg [.v (.int .i64 r0), .v (.int .i64 r1), .ro .int r2, .ro .int r3], .c (.v (.int .i64 r4))]) [])
    | _ => False, false⟩
def cl_impl_RunSegments : List (FuncId × Con) := [(35, con_impl_ValidTrace), (36, con_impl_validRoom), (50, con_impl_useAll_Segments)]
def an_impl_RunSegments : Ann := ⟨[], [], [], []⟩
def cs_impl_RunSegments : Cons := ⟨cl_impl_RunSegments, [], 0, [], [], []⟩
def fin_impl_RunSegments (t0 : List Int) (trial1 : Int) (safe2 : Int) (kk : AV → List A1 → Prop) : Kt := fin TT con_impl_RunSegments Try.f39.results.toList [.agg [.sc, .sc, .sl .int, .sl .int], .c .sc] [.c (.ro .int t0), .c (.v (.int .i64 trial1)), .c (.v (.int .i64 safe2))] kk
theorem g_impl_RunSegments (t0 : List Int) (trial1 : Int) (safe2 : Int) (kk : AV → List A1 → Prop) :
    ev TT cs_impl_RunSegments 29 an_impl_RunSegments (Try.f39.body.getD .skip) (st0 con_impl_RunSegments [.c (.ro .int t0), .c (.v (.int .i64 trial1)), .c (.v (.int .i64 safe2))]) (fin TT con_impl_RunSegments Try.f39.results.toList [.agg [.sc, .sc, .sl .int, .sl .int], .c .sc] [.c (.ro .int t0), .c (.v (.int .i64 trial1)), .c (.v (.int .i64 safe2))] kk) = G_impl_RunSegments t0 trial1 safe2 (fun r0 r1 r2 r3 r4 => kk (.tup [.agg [.v (.int .i64 r0), .v (.int .i64 r1), .ro .int r2, .ro .int r3], .c (.v (.int .i64 r4))]) []) := by kernel_rfl
theorem e_impl_RunSegments (t0 : List Int) (trial1 : Int) (safe2 : Int) (kk : AV → List A1 → Prop) :
    ev TT cs_impl_RunSegments 29 an_impl_RunSegments (Try.f39.body.getD .skip) (st0 con_impl_RunSegments [.c (.ro .int t0), .c (.v (.int .i64 trial1)), .c (.v (.int .i64 safe2))]) (fin TT con_impl_RunSegments Try.f39.results.toList [.agg [.sc, .sc, .sl .int, .sl .int], .c .sc] [.c (.ro .int t0), .c (.v (.int .i64 trial1)), .c (.v (.int .i64 safe2))] kk) = S_impl_RunSegments t0 trial1 safe2 (fun r0 r1 r2 r3 r4 => kk (.tup [.agg [.v (.int .i64 r0), .v (.int .i64 r1), .ro .int r2, .ro .int r3], .c (.v (.int .i64 r4))]) []) := by
  rw [g_impl_RunSegments]
  rfl
theorem clok_impl_RunSegments : ConOK Try.prog cl_impl_RunSegments := consCons h_impl_ValidTrace ⟨Try.f35, Try.func35, by kernel_rfl, ne_of_beq (by kernel_rfl)⟩ (consCons h_impl_validRoom ⟨Try.f36, Try.func36, by kernel_rfl, ne_of_beq (by kernel_rfl)⟩ (consCons h_impl_useAll_Segments ⟨Try.f50, Try.func50, by kernel_rfl, ne_of_beq (by kernel_rfl)⟩ (consNil)))
theorem cok_impl_RunSegments : ConsOK Try.prog 29 cs_impl_RunSegments := ⟨clok_impl_RunSegments, inlNil, ovNil⟩
theorem i_impl_RunSegments {vs : List A1} {kk : AV → List A1 → Prop} {motive : List A1 → Prop} (h : con_impl_RunSegments.F vs kk) (H : ∀ (t0 : List Int) (trial1 : Int) (safe2 : Int), F_impl_RunSegments t0 trial1 safe2 (fun r0 r1 r2 r3 r4 => kk (.tup [.agg [.v (.int .i64 r0), .v (.int .i64 r1), .ro .int r2, .ro .int r3], .c (.v (.int .i64 r4))]) []) → motive [.c (.ro .int t0), .c (.v (.int .i64 trial1)), .c (.v (.int .i64 safe2))]) : motive vs := by
  unfold con_impl_RunSegments at h
  dsimp only at h
  split at h
  · exact H _ _ _ h
  · exact h.elim
theorem h_impl_RunSegments : Holds Try.prog 39 con_impl_RunSegments := by
  refine holds_of_ev (rt := [.agg [.sc, .sc, .sl .int, .sl .int], .c .sc]) (T := TT) (Γ := cs_impl_RunSegments) (an := an_impl_RunSegments) (N := 29) (c := Try.f39.body.getD .skip) Try.func39 (by kernel_rfl) Try.ntmps39 (by decide) (by decide) mixed tabOK cok_impl_RunSegments (by kernel_rfl) ?_
  intro vs kk _ hF
  exact i_impl_RunSegments (motive := fun vs => Goes (ev TT cs_impl_RunSegments 29 an_impl_RunSegments (Try.f39.body.getD .skip) (st0 con_impl_RunSegments vs) (fin TT con_impl_RunSegments Try.f39.results.toList [.agg [.sc, .sc, .sl .int, .sl .int], .c .sc] vs kk))) hF (fun t0 trial1 safe2 hF => goes_of (e_impl_RunSegments t0 trial1 safe2 kk) (F_impl_RunSegments_S hF))
def con_impl_BestSplit : Con := ⟨[.rd, .rd], true, [.c (.sl .int), .c (.sc)], fun vs k => match vs with
    | [.c (.ro .int t0), .c (.v (.int .i64 room1))] => F_impl_BestSplit t0 room1 (fun r0 => k (.one (.c (.v (.int .i64 r0)))) [])
    | _ => False, false⟩
def cl_impl_BestSplit : List (FuncId × Con) := [(35, con_impl_ValidTrace), (36, con_impl_validRoom), (39, con_impl_RunSegments)]
def nm0_impl_BestSplit : List NStep := [.keep [1, 2, 7, 8, 9, 1000004] [32]]
def an_impl_BestSplit_i3 : Ann := ⟨[], [], [], []⟩
def cs_impl_BestSplit_i3 : Cons := ⟨cl_impl_BestSplit, [], 1152, [], [], []⟩
def an_impl_BestSplit_i2 : Ann := ⟨[], [], [], []⟩
def cs_impl_BestSplit_i2 : Cons := ⟨cl_impl_BestSplit, [], 864, [], [], []⟩
def an_impl_BestSplit_i1 : Ann := ⟨[], [(3, nm0_impl_BestSplit)], [], []⟩
def cs_impl_BestSplit_i1 : Cons := ⟨cl_impl_BestSplit, [(14, ⟨38, inlG TT cs_impl_BestSplit_i2 31 17 an_impl_BestSplit_i2 (Try.f38.body.getD .skip) Try.f38.results.toList⟩), (24, ⟨38, inlG TT cs_impl_BestSplit_i3 31 17 an_impl_BestSplit_i3 (Try.f38.body.getD .skip) Try.f38.results.toList⟩)], 352, [], [], []⟩
def an_impl_BestSplit : Ann := ⟨[], [], [], []⟩
def cs_impl_BestSplit : Cons := ⟨cl_impl_BestSplit, [(20, ⟨37, inlG TT cs_impl_BestSplit_i1 21 31 an_impl_BestSplit_i1 (Try.f37.body.getD .skip) Try.f37.results.toList⟩)], 0, [], [], []⟩
def can0_impl_BestSplit (room1 : Int) (t0 : List Int) (xto1i1 : Int) (xbest7i1 : Int) (xmost8i1 : Int) (xn9i1 : Int) : St := ⟨[(1, .one (.c (.v (.int .i64 xto1i1)))), (2, .one (.c (.cl 38 [.b 32, .k (.int .i64 room1)]))), (7, .one (.c (.v (.int .i64 xbest7i1)))), (8, .one (.c (.v (.int .i64 xmost8i1)))), (9, .one (.c (.v (.int .i64 xn9i1)))), (1000004, .one (.c (.v (.int .i64 0))))], [(32, .box [.ro .int t0])]⟩
def fin_impl_BestSplit (t0 : List Int) (room1 : Int) (kk : AV → List A1 → Prop) : Kt := fin TT con_impl_BestSplit Try.f18.results.toList [.c .sc] [.c (.ro .int t0), .c (.v (.int .i64 room1))] kk
def kt0_impl_BestSplit (kf : Kt) : Kt := blockK 0 (seqK (evF TT cs_impl_BestSplit_i1 31 an_impl_BestSplit_i1 Try.f37 [1, 1, 1]) (inlK TT 21 Try.f37 (some 20) (regK TT cs_impl_BestSplit 21 3 (seqK (evF TT cs_impl_BestSplit 21 an_impl_BestSplit Try.f18 [1, 1, 1]) (kf)) (subc [1, 1, 0] (Try.f18.body.getD .skip)))))
theorem r0_impl_BestSplit (t0 : List Int) (room1 : Int) (xto1i1 : Int) (kk : AV → List A1 → Prop) (n : Nat) (xbest7i1 : Int) (xmost8i1 : Int) (xn9i1 : Int) :
    iter (evF TT cs_impl_BestSplit_i1 31 an_impl_BestSplit_i1 Try.f37 [1, 1, 0, 1, 0, 0]) nm0_impl_BestSplit (kt0_impl_BestSplit (fin_impl_BestSplit t0 room1 kk)) (n + 1) (can0_impl_BestSplit room1 t0 xto1i1 xbest7i1 xmost8i1 xn9i1) = T0_impl_BestSplit room1 t0 xto1i1 xbest7i1 xmost8i1 xn9i1 (fun r0 => kk (.one (.c (.v (.int .i64 r0)))) []) (fun xbest7i1 xmost8i1 xn9i1 => iter (evF TT cs_impl_BestSplit_i1 31 an_impl_BestSplit_i1 Try.f37 [1, 1, 0, 1, 0, 0]) nm0_impl_BestSplit (kt0_impl_BestSplit (fin_impl_BestSplit t0 room1 kk)) n (can0_impl_BestSplit room1 t0 xto1i1 xbest7i1 xmost8i1 xn9i1)) := by kernel_rfl
theorem l0_impl_BestSplit (t0 : List Int) (room1 : Int) (xto1i1 : Int) (kk : AV → List A1 → Prop) : ∀ (n : Nat) (xbest7i1 : Int) (xmost8i1 : Int) (xn9i1 : Int), iter (evF TT cs_impl_BestSplit_i1 31 an_impl_BestSplit_i1 Try.f37 [1, 1, 0, 1, 0, 0]) nm0_impl_BestSplit (kt0_impl_BestSplit (fin_impl_BestSplit t0 room1 kk)) n (can0_impl_BestSplit room1 t0 xto1i1 xbest7i1 xmost8i1 xn9i1) = L0_impl_BestSplit room1 t0 xto1i1 (fun r0 => kk (.one (.c (.v (.int .i64 r0)))) []) n xbest7i1 xmost8i1 xn9i1 := by
  intro n
  induction n with
  | zero => intros; rfl
  | succ n ih =>
    intro xbest7i1 xmost8i1 xn9i1
    rw [r0_impl_BestSplit t0 room1 xto1i1 kk n xbest7i1 xmost8i1 xn9i1]
    have hb : (fun xbest7i1 xmost8i1 xn9i1 => iter (evF TT cs_impl_BestSplit_i1 31 an_impl_BestSplit_i1 Try.f37 [1, 1, 0, 1, 0, 0]) nm0_impl_BestSplit (kt0_impl_BestSplit (fin_impl_BestSplit t0 room1 kk)) n (can0_impl_BestSplit room1 t0 xto1i1 xbest7i1 xmost8i1 xn9i1)) = L0_impl_BestSplit room1 t0 xto1i1 (fun r0 => kk (.one (.c (.v (.int .i64 r0)))) []) n := by
      funext xbest7i1 xmost8i1 xn9i1; exact ih xbest7i1 xmost8i1 xn9i1
    rw [hb]
    rfl
theorem g_impl_BestSplit (t0 : List Int) (room1 : Int) (kk : AV → List A1 → Prop) :
    ev TT cs_impl_BestSplit 21 an_impl_BestSplit (Try.f18.body.getD .skip) (st0 con_impl_BestSplit [.c (.ro .int t0), .c (.v (.int .i64 room1))]) (fin TT con_impl_BestSplit Try.f18.results.toList [.c .sc] [.c (.ro .int t0), .c (.v (.int .i64 room1))] kk) = G_impl_BestSplit t0 room1 (fun r0 => kk (.one (.c (.v (.int .i64 r0)))) []) (fun room1 t0 xto1i1 xbest7i1 xmost8i1 xn9i1 => ∃ j, iter (evF TT cs_impl_BestSplit_i1 31 an_impl_BestSplit_i1 Try.f37 [1, 1, 0, 1, 0, 0]) nm0_impl_BestSplit (kt0_impl_BestSplit (fin_impl_BestSplit t0 room1 kk)) j (can0_impl_BestSplit room1 t0 xto1i1 xbest7i1 xmost8i1 xn9i1)) := by kernel_rfl
theorem e_impl_BestSplit (t0 : List Int) (room1 : Int) (kk : AV → List A1 → Prop) :
    ev TT cs_impl_BestSplit 21 an_impl_BestSplit (Try.f18.body.getD .skip) (st0 con_impl_BestSplit [.c (.ro .int t0), .c (.v (.int .i64 room1))]) (fin TT con_impl_BestSplit Try.f18.results.toList [.c .sc] [.c (.ro .int t0), .c (.v (.int .i64 room1))] kk) = S_impl_BestSplit t0 room1 (fun r0 => kk (.one (.c (.v (.int .i64 r0)))) []) := by
  rw [g_impl_BestSplit]
  have hi0 : (fun room1 t0 xto1i1 xbest7i1 xmost8i1 xn9i1 => ∃ j, iter (evF TT cs_impl_BestSplit_i1 31 an_impl_BestSplit_i1 Try.f37 [1, 1, 0, 1, 0, 0]) nm0_impl_BestSplit (kt0_impl_BestSplit (fin_impl_BestSplit t0 room1 kk)) j (can0_impl_BestSplit room1 t0 xto1i1 xbest7i1 xmost8i1 xn9i1)) = (fun room1 t0 xto1i1 xbest7i1 xmost8i1 xn9i1 => ∃ j, L0_impl_BestSplit room1 t0 xto1i1 (fun r0 => kk (.one (.c (.v (.int .i64 r0)))) []) j xbest7i1 xmost8i1 xn9i1) := by
    funext room1 t0 xto1i1 xbest7i1 xmost8i1 xn9i1
    refine congrArg Exists (funext fun j => ?_)
    rw [l0_impl_BestSplit t0 room1 xto1i1 kk j xbest7i1 xmost8i1 xn9i1]
  rw [hi0]
  rfl
theorem clok_impl_BestSplit : ConOK Try.prog cl_impl_BestSplit := consCons h_impl_ValidTrace ⟨Try.f35, Try.func35, by kernel_rfl, ne_of_beq (by kernel_rfl)⟩ (consCons h_impl_validRoom ⟨Try.f36, Try.func36, by kernel_rfl, ne_of_beq (by kernel_rfl)⟩ (consCons h_impl_RunSegments ⟨Try.f39, Try.func39, by kernel_rfl, ne_of_beq (by kernel_rfl)⟩ (consNil)))
theorem cok_impl_BestSplit_i3 : ConsOK Try.prog 17 cs_impl_BestSplit_i3 := ⟨clok_impl_BestSplit, inlNil, ovNil⟩
theorem cok_impl_BestSplit_i2 : ConsOK Try.prog 17 cs_impl_BestSplit_i2 := ⟨clok_impl_BestSplit, inlNil, ovNil⟩
theorem cok_impl_BestSplit_i1 : ConsOK Try.prog 31 cs_impl_BestSplit_i1 := ⟨clok_impl_BestSplit, inlCons (inl_ok Try.func38 (by kernel_rfl) (ne_of_beq (by kernel_rfl)) Try.ntmps38 (by decide) mixed tabOK cok_impl_BestSplit_i2 (by kernel_rfl)) (inlCons (inl_ok Try.func38 (by kernel_rfl) (ne_of_beq (by kernel_rfl)) Try.ntmps38 (by decide) mixed tabOK cok_impl_BestSplit_i3 (by kernel_rfl)) (inlNil)), ovNil⟩
theorem cok_impl_BestSplit : ConsOK Try.prog 21 cs_impl_BestSplit := ⟨clok_impl_BestSplit, inlCons (inl_ok Try.func37 (by kernel_rfl) (ne_of_beq (by kernel_rfl)) Try.ntmps37 (by decide) mixed tabOK cok_impl_BestSplit_i1 (by kernel_rfl)) (inlNil), ovNil⟩
theorem i_impl_BestSplit {vs : List A1} {kk : AV → List A1 → Prop} {motive : List A1 → Prop} (h : con_impl_BestSplit.F vs kk) (H : ∀ (t0 : List Int) (room1 : Int), F_impl_BestSplit t0 room1 (fun r0 => kk (.one (.c (.v (.int .i64 r0)))) []) → motive [.c (.ro .int t0), .c (.v (.int .i64 room1))]) : motive vs := by
  unfold con_impl_BestSplit at h
  dsimp only at h
  split at h
  · exact H _ _ h
  · exact h.elim
theorem h_impl_BestSplit : Holds Try.prog 18 con_impl_BestSplit := by
  refine holds_of_ev (rt := [.c .sc]) (T := TT) (Γ := cs_impl_BestSplit) (an := an_impl_BestSplit) (N := 21) (c := Try.f18.body.getD .skip) Try.func18 (by kernel_rfl) Try.ntmps18 (by decide) (by decide) mixed tabOK cok_impl_BestSplit (by kernel_rfl) ?_
  intro vs kk _ hF
  exact i_impl_BestSplit (motive := fun vs => Goes (ev TT cs_impl_BestSplit 21 an_impl_BestSplit (Try.f18.body.getD .skip) (st0 con_impl_BestSplit vs) (fin TT con_impl_BestSplit Try.f18.results.toList [.c .sc] vs kk))) hF (fun t0 room1 hF => goes_of (e_impl_BestSplit t0 room1 kk) (F_impl_BestSplit_S hF))
def con_laws_eqIntS : Con := ⟨[.rd, .rd], true, [.c (.sl .int), .c (.sl .int)], fun vs k => match vs with
    | [.c (.ro .int a0), .c (.ro .int b1)] => F_laws_eqIntS a0 b1 (fun r0 => k (.one (.c (.v (.bool r0)))) [])
    | _ => False, false⟩
def cl_laws_eqIntS : List (FuncId × Con) := []
def nm0_laws_eqIntS : List NStep := [.keep [0, 1, 5] []]
def an_laws_eqIntS : Ann := ⟨[(6, .take 0 (.take 1 (.take 2 (.take 3 (.take 4 (.take 5 (.take 6 (.take 7 (.take 8 (.done))))))))), [])], [(4, nm0_laws_eqIntS)], [], []⟩
def cs_laws_eqIntS : Cons := ⟨cl_laws_eqIntS, [], 0, [], [], []⟩
def can0_laws_eqIntS (a0 : List Int) (b1 : List Int) (xi5 : Int) : St := ⟨[(0, .one (.c (.ro .int a0))), (1, .one (.c (.ro .int b1))), (5, .one (.c (.v (.int .i64 xi5))))], []⟩
def fin_laws_eqIntS (a0 : List Int) (b1 : List Int) (kk : AV → List A1 → Prop) : Kt := fin TT con_laws_eqIntS Try.f19.results.toList [.c .sc] [.c (.ro .int a0), .c (.ro .int b1)] kk
def kt0_laws_eqIntS (kf : Kt) : Kt := blockK 0 (seqK (evF TT cs_laws_eqIntS 26 an_laws_eqIntS Try.f19 [1, 1, 1]) (kf))
theorem r0_laws_eqIntS (a0 : List Int) (b1 : List Int) (kk : AV → List A1 → Prop) (n : Nat) (xi5 : Int) :
    iter (evF TT cs_laws_eqIntS 26 an_laws_eqIntS Try.f19 [1, 1, 0, 1, 0, 0]) nm0_laws_eqIntS (kt0_laws_eqIntS (fin_laws_eqIntS a0 b1 kk)) (n + 1) (can0_laws_eqIntS a0 b1 xi5) = T0_laws_eqIntS a0 b1 xi5 (fun r0 => kk (.one (.c (.v (.bool r0)))) []) (fun xi5 => iter (evF TT cs_laws_eqIntS 26 an_laws_eqIntS Try.f19 [1, 1, 0, 1, 0, 0]) nm0_laws_eqIntS (kt0_laws_eqIntS (fin_laws_eqIntS a0 b1 kk)) n (can0_laws_eqIntS a0 b1 xi5)) := by kernel_rfl
theorem l0_laws_eqIntS (a0 : List Int) (b1 : List Int) (kk : AV → List A1 → Prop) : ∀ (n : Nat) (xi5 : Int), iter (evF TT cs_laws_eqIntS 26 an_laws_eqIntS Try.f19 [1, 1, 0, 1, 0, 0]) nm0_laws_eqIntS (kt0_laws_eqIntS (fin_laws_eqIntS a0 b1 kk)) n (can0_laws_eqIntS a0 b1 xi5) = L0_laws_eqIntS a0 b1 (fun r0 => kk (.one (.c (.v (.bool r0)))) []) n xi5 := by
  intro n
  induction n with
  | zero => intros; rfl
  | succ n ih =>
    intro xi5
    rw [r0_laws_eqIntS a0 b1 kk n xi5]
    have hb : (fun xi5 => iter (evF TT cs_laws_eqIntS 26 an_laws_eqIntS Try.f19 [1, 1, 0, 1, 0, 0]) nm0_laws_eqIntS (kt0_laws_eqIntS (fin_laws_eqIntS a0 b1 kk)) n (can0_laws_eqIntS a0 b1 xi5)) = L0_laws_eqIntS a0 b1 (fun r0 => kk (.one (.c (.v (.bool r0)))) []) n := by
      funext xi5; exact ih xi5
    rw [hb]
    rfl
theorem g_laws_eqIntS (a0 : List Int) (b1 : List Int) (kk : AV → List A1 → Prop) :
    ev TT cs_laws_eqIntS 26 an_laws_eqIntS (Try.f19.body.getD .skip) (st0 con_laws_eqIntS [.c (.ro .int a0), .c (.ro .int b1)]) (fin TT con_laws_eqIntS Try.f19.results.toList [.c .sc] [.c (.ro .int a0), .c (.ro .int b1)] kk) = G_laws_eqIntS a0 b1 (fun r0 => kk (.one (.c (.v (.bool r0)))) []) (fun a0 b1 xi5 => ∃ j, iter (evF TT cs_laws_eqIntS 26 an_laws_eqIntS Try.f19 [1, 1, 0, 1, 0, 0]) nm0_laws_eqIntS (kt0_laws_eqIntS (fin_laws_eqIntS a0 b1 kk)) j (can0_laws_eqIntS a0 b1 xi5)) := by kernel_rfl
theorem e_laws_eqIntS (a0 : List Int) (b1 : List Int) (kk : AV → List A1 → Prop) :
    ev TT cs_laws_eqIntS 26 an_laws_eqIntS (Try.f19.body.getD .skip) (st0 con_laws_eqIntS [.c (.ro .int a0), .c (.ro .int b1)]) (fin TT con_laws_eqIntS Try.f19.results.toList [.c .sc] [.c (.ro .int a0), .c (.ro .int b1)] kk) = S_laws_eqIntS a0 b1 (fun r0 => kk (.one (.c (.v (.bool r0)))) []) := by
  rw [g_laws_eqIntS]
  have hi0 : (fun a0 b1 xi5 => ∃ j, iter (evF TT cs_laws_eqIntS 26 an_laws_eqIntS Try.f19 [1, 1, 0, 1, 0, 0]) nm0_laws_eqIntS (kt0_laws_eqIntS (fin_laws_eqIntS a0 b1 kk)) j (can0_laws_eqIntS a0 b1 xi5)) = (fun a0 b1 xi5 => ∃ j, L0_laws_eqIntS a0 b1 (fun r0 => kk (.one (.c (.v (.bool r0)))) []) j xi5) := by
    funext a0 b1 xi5
    refine congrArg Exists (funext fun j => ?_)
    rw [l0_laws_eqIntS a0 b1 kk j xi5]
  rw [hi0]
  rfl
theorem clok_laws_eqIntS : ConOK Try.prog cl_laws_eqIntS := consNil
theorem cok_laws_eqIntS : ConsOK Try.prog 26 cs_laws_eqIntS := ⟨clok_laws_eqIntS, inlNil, ovNil⟩
theorem i_laws_eqIntS {vs : List A1} {kk : AV → List A1 → Prop} {motive : List A1 → Prop} (h : con_laws_eqIntS.F vs kk) (H : ∀ (a0 : List Int) (b1 : List Int), F_laws_eqIntS a0 b1 (fun r0 => kk (.one (.c (.v (.bool r0)))) []) → motive [.c (.ro .int a0), .c (.ro .int b1)]) : motive vs := by
  unfold con_laws_eqIntS at h
  dsimp only at h
  split at h
  · exact H _ _ h
  · exact h.elim
theorem h_laws_eqIntS : Holds Try.prog 19 con_laws_eqIntS := by
  refine holds_of_ev (rt := [.c .sc]) (T := TT) (Γ := cs_laws_eqIntS) (an := an_laws_eqIntS) (N := 26) (c := Try.f19.body.getD .skip) Try.func19 (by kernel_rfl) Try.ntmps19 (by decide) (by decide) mixed tabOK cok_laws_eqIntS (by kernel_rfl) ?_
  intro vs kk _ hF
  exact i_laws_eqIntS (motive := fun vs => Goes (ev TT cs_laws_eqIntS 26 an_laws_eqIntS (Try.f19.body.getD .skip) (st0 con_laws_eqIntS vs) (fin TT con_laws_eqIntS Try.f19.results.toList [.c .sc] vs kk))) hF (fun a0 b1 hF => goes_of (e_laws_eqIntS a0 b1 kk) (F_laws_eqIntS_S hF))
def con_laws_FnExactBestSplit : Con := ⟨[.rd, .rd], true, [.c (.sl .int), .c (.sc)], fun vs k => match vs with
    | [.c (.ro .int aT0), .c (.v (.int .i64 aRoom1))] => F_laws_FnExactBestSplit aT0 aRoom1 (fun r0 => k (.one (.c (.v (.bool r0)))) [])
    | _ => False, false⟩
def cl_laws_FnExactBestSplit : List (FuncId × Con) := [(16, con_spec_BestSplit), (17, con_laws_toIntS), (18, con_impl_BestSplit), (19, con_laws_eqIntS)]
def an_laws_FnExactBestSplit : Ann := ⟨[], [], [], []⟩
def cs_laws_FnExactBestSplit : Cons := ⟨cl_laws_FnExactBestSplit, [], 0, [], [], []⟩
def fin_laws_FnExactBestSplit (aT0 : List Int) (aRoom1 : Int) (kk : AV → List A1 → Prop) : Kt := fin TT con_laws_FnExactBestSplit Try.f6.results.toList [.c .sc] [.c (.ro .int aT0), .c (.v (.int .i64 aRoom1))] kk
theorem g_laws_FnExactBestSplit (aT0 : List Int) (aRoom1 : Int) (kk : AV → List A1 → Prop) :
    ev TT cs_laws_FnExactBestSplit 28 an_laws_FnExactBestSplit (Try.f6.body.getD .skip) (st0 con_laws_FnExactBestSplit [.c (.ro .int aT0), .c (.v (.int .i64 aRoom1))]) (fin TT con_laws_FnExactBestSplit Try.f6.results.toList [.c .sc] [.c (.ro .int aT0), .c (.v (.int .i64 aRoom1))] kk) = G_laws_FnExactBestSplit aT0 aRoom1 (fun r0 => kk (.one (.c (.v (.bool r0)))) []) := by kernel_rfl
theorem e_laws_FnExactBestSplit (aT0 : List Int) (aRoom1 : Int) (kk : AV → List A1 → Prop) :
    ev TT cs_laws_FnExactBestSplit 28 an_laws_FnExactBestSplit (Try.f6.body.getD .skip) (st0 con_laws_FnExactBestSplit [.c (.ro .int aT0), .c (.v (.int .i64 aRoom1))]) (fin TT con_laws_FnExactBestSplit Try.f6.results.toList [.c .sc] [.c (.ro .int aT0), .c (.v (.int .i64 aRoom1))] kk) = S_laws_FnExactBestSplit aT0 aRoom1 (fun r0 => kk (.one (.c (.v (.bool r0)))) []) := by
  rw [g_laws_FnExactBestSplit]
  rfl
theorem clok_laws_FnExactBestSplit : ConOK Try.prog cl_laws_FnExactBestSplit := consCons h_spec_BestSplit ⟨Try.f16, Try.func16, by kernel_rfl, ne_of_beq (by kernel_rfl)⟩ (consCons h_laws_toIntS ⟨Try.f17, Try.func17, by kernel_rfl, ne_of_beq (by kernel_rfl)⟩ (consCons h_impl_BestSplit ⟨Try.f18, Try.func18, by kernel_rfl, ne_of_beq (by kernel_rfl)⟩ (consCons h_laws_eqIntS ⟨Try.f19, Try.func19, by kernel_rfl, ne_of_beq (by kernel_rfl)⟩ (consNil))))
theorem cok_laws_FnExactBestSplit : ConsOK Try.prog 28 cs_laws_FnExactBestSplit := ⟨clok_laws_FnExactBestSplit, inlNil, ovNil⟩
theorem i_laws_FnExactBestSplit {vs : List A1} {kk : AV → List A1 → Prop} {motive : List A1 → Prop} (h : con_laws_FnExactBestSplit.F vs kk) (H : ∀ (aT0 : List Int) (aRoom1 : Int), F_laws_FnExactBestSplit aT0 aRoom1 (fun r0 => kk (.one (.c (.v (.bool r0)))) []) → motive [.c (.ro .int aT0), .c (.v (.int .i64 aRoom1))]) : motive vs := by
  unfold con_laws_FnExactBestSplit at h
  dsimp only at h
  split at h
  · exact H _ _ h
  · exact h.elim
theorem h_laws_FnExactBestSplit : Holds Try.prog 6 con_laws_FnExactBestSplit := by
  refine holds_of_ev (rt := [.c .sc]) (T := TT) (Γ := cs_laws_FnExactBestSplit) (an := an_laws_FnExactBestSplit) (N := 28) (c := Try.f6.body.getD .skip) Try.func6 (by kernel_rfl) Try.ntmps6 (by decide) (by decide) mixed tabOK cok_laws_FnExactBestSplit (by kernel_rfl) ?_
  intro vs kk _ hF
  exact i_laws_FnExactBestSplit (motive := fun vs => Goes (ev TT cs_laws_FnExactBestSplit 28 an_laws_FnExactBestSplit (Try.f6.body.getD .skip) (st0 con_laws_FnExactBestSplit vs) (fin TT con_laws_FnExactBestSplit Try.f6.results.toList [.c .sc] vs kk))) hF (fun aT0 aRoom1 hF => goes_of (e_laws_FnExactBestSplit aT0 aRoom1 kk) (F_laws_FnExactBestSplit_S hF))
end Go.Ev
