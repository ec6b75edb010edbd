/- What the evaluator gives for these functions: their contracts. No statement is proved here. -/
import Derived.Test.YtnkmhjdenddpbacFnExactPrefersP0
import Derived.Test.YtnkmhjdenddpbacTt
namespace Go.Ev
set_option linter.unusedVariables false
set_option maxRecDepth 100000
open Go Go.Proofs
def con_laws_toIntS : Con := ⟨[.rd], true, [.c (.sl .int)], fun vs k => match vs with
    | [.c (.ro .int a0)] => F_laws_toIntS a0 (fun r0 => k (.one (.c (.ro .int r0))) [])
    | _ => False, false⟩
def cl_laws_toIntS : List (FuncId × Con) := []
def nm0_laws_toIntS : List NStep := [.keep [0, 3, 4] [112]]
def an_laws_toIntS : Ann := ⟨[], [(3, nm0_laws_toIntS)], []⟩
def cs_laws_toIntS : Cons := ⟨cl_laws_toIntS, [], 0, [], []⟩
def can0_laws_toIntS (a0 : List Int) (xi4 : Int) (xy7 : List Int) : St := ⟨[(0, .one (.c (.ro .int a0))), (3, .one (.c (.ow 112))), (4, .one (.c (.v (.int .i64 xi4))))], [(112, .row .int xy7)]⟩
def fin_laws_toIntS (a0 : List Int) (kk : AV → List A1 → Prop) : Kt := fin TT con_laws_toIntS Try.f47.results.toList [.c (.sl .int)] [.c (.ro .int a0)] kk
def kt0_laws_toIntS (kf : Kt) : Kt := blockK 0 (seqK (evF TT cs_laws_toIntS 22 an_laws_toIntS Try.f47 [1, 1, 1]) (kf))
theorem r0_laws_toIntS (a0 : List Int) (kk : AV → List A1 → Prop) (n : Nat) (xi4 : Int) (xy7 : List Int) :
    iter (evF TT cs_laws_toIntS 22 an_laws_toIntS Try.f47 [1, 1, 0, 1, 0, 0]) nm0_laws_toIntS (kt0_laws_toIntS (fin_laws_toIntS a0 kk)) (n + 1) (can0_laws_toIntS a0 xi4 xy7) = T0_laws_toIntS a0 xi4 xy7 (fun r0 => kk (.one (.c (.ro .int r0))) []) (fun xi4 xy7 => iter (evF TT cs_laws_toIntS 22 an_laws_toIntS Try.f47 [1, 1, 0, 1, 0, 0]) nm0_laws_toIntS (kt0_laws_toIntS (fin_laws_toIntS a0 kk)) n (can0_laws_toIntS a0 xi4 xy7)) := by kernel_rfl
theorem l0_laws_toIntS (a0 : List Int) (kk : AV → List A1 → Prop) : ∀ (n : Nat) (xi4 : Int) (xy7 : List Int), iter (evF TT cs_laws_toIntS 22 an_laws_toIntS Try.f47 [1, 1, 0, 1, 0, 0]) nm0_laws_toIntS (kt0_laws_toIntS (fin_laws_toIntS a0 kk)) n (can0_laws_toIntS a0 xi4 xy7) = L0_laws_toIntS a0 (fun r0 => kk (.one (.c (.ro .int r0))) []) n xi4 xy7 := by
  intro n
  induction n with
  | zero => intros; rfl
  | succ n ih =>
    intro xi4 xy7
    rw [r0_laws_toIntS a0 kk n xi4 xy7]
    have hb : (fun xi4 xy7 => iter (evF TT cs_laws_toIntS 22 an_laws_toIntS Try.f47 [1, 1, 0, 1, 0, 0]) nm0_laws_toIntS (kt0_laws_toIntS (fin_laws_toIntS a0 kk)) n (can0_laws_toIntS a0 xi4 xy7)) = L0_laws_toIntS a0 (fun r0 => kk (.one (.c (.ro .int r0))) []) n := by
      funext xi4 xy7; exact ih xi4 xy7
    rw [hb]
    rfl
theorem g_laws_toIntS (a0 : List Int) (kk : AV → List A1 → Prop) :
    ev TT cs_laws_toIntS 22 an_laws_toIntS (Try.f47.body.getD .skip) (st0 con_laws_toIntS [.c (.ro .int a0)]) (fin TT con_laws_toIntS Try.f47.results.toList [.c (.sl .int)] [.c (.ro .int a0)] kk) = G_laws_toIntS a0 (fun a0 xi4 xy7 => ∃ j, iter (evF TT cs_laws_toIntS 22 an_laws_toIntS Try.f47 [1, 1, 0, 1, 0, 0]) nm0_laws_toIntS (kt0_laws_toIntS (fin_laws_toIntS a0 kk)) j (can0_laws_toIntS a0 xi4 xy7)) := by kernel_rfl
theorem e_laws_toIntS (a0 : List Int) (kk : AV → List A1 → Prop) :
    ev TT cs_laws_toIntS 22 an_laws_toIntS (Try.f47.body.getD .skip) (st0 con_laws_toIntS [.c (.ro .int a0)]) (fin TT con_laws_toIntS Try.f47.results.toList [.c (.sl .int)] [.c (.ro .int a0)] kk) = S_laws_toIntS a0 (fun r0 => kk (.one (.c (.ro .int r0))) []) := by
  rw [g_laws_toIntS]
  have hi0 : (fun a0 xi4 xy7 => ∃ j, iter (evF TT cs_laws_toIntS 22 an_laws_toIntS Try.f47 [1, 1, 0, 1, 0, 0]) nm0_laws_toIntS (kt0_laws_toIntS (fin_laws_toIntS a0 kk)) j (can0_laws_toIntS a0 xi4 xy7)) = (fun a0 xi4 xy7 => ∃ j, L0_laws_toIntS a0 (fun r0 => kk (.one (.c (.ro .int r0))) []) j xi4 xy7) := by
    funext a0 xi4 xy7
    refine congrArg Exists (funext fun j => ?_)
    rw [l0_laws_toIntS a0 kk j xi4 xy7]
  rw [hi0]
  rfl
theorem clok_laws_toIntS : ConOK Try.prog cl_laws_toIntS := consNil
theorem cok_laws_toIntS : ConsOK Try.prog 22 cs_laws_toIntS := ⟨clok_laws_toIntS, inlNil⟩
theorem i_laws_toIntS {vs : List A1} {kk : AV → List A1 → Prop} {motive : List A1 → Prop} (h : con_laws_toIntS.F vs kk) (H : ∀ (a0 : List Int), F_laws_toIntS a0 (fun r0 => kk (.one (.c (.ro .int r0))) []) → motive [.c (.ro .int a0)]) : motive vs := by
  unfold con_laws_toIntS at h
  dsimp only at h
  split at h
  · exact H _ h
  · exact h.elim
theorem h_laws_toIntS : Holds Try.prog 47 con_laws_toIntS := by
  refine holds_of_ev (rt := [.c (.sl .int)]) (T := TT) (Γ := cs_laws_toIntS) (an := an_laws_toIntS) (N := 22) (c := Try.f47.body.getD .skip) Try.func47 (by kernel_rfl) Try.ntmps47 (by decide) (by decide) mixed tabOK cok_laws_toIntS (by kernel_rfl) ?_
  intro vs kk _ hF
  exact i_laws_toIntS (motive := fun vs => Goes (ev TT cs_laws_toIntS 22 an_laws_toIntS (Try.f47.body.getD .skip) (st0 con_laws_toIntS vs) (fin TT con_laws_toIntS Try.f47.results.toList [.c (.sl .int)] vs kk))) hF (fun a0 hF => goes_of (e_laws_toIntS a0 kk) (F_laws_toIntS_S hF))
def con_spec_inRange : Con := ⟨[.rd, .rd, .rd], true, [.c (.sc), .c (.sc), .c (.sc)], fun vs k => match vs with
    | [.c (.v (.int .i64 n0)), .c (.v (.int .i64 low1)), .c (.v (.int .i64 high2))] => F_spec_inRange n0 low1 high2 (fun r0 => k (.one (.c (.v (.bool r0)))) [])
    | _ => False, false⟩
def cl_spec_inRange : List (FuncId × Con) := []
def an_spec_inRange : Ann := ⟨[], [], []⟩
def cs_spec_inRange : Cons := ⟨cl_spec_inRange, [], 0, [], []⟩
def fin_spec_inRange (n0 : Int) (low1 : Int) (high2 : Int) (kk : AV → List A1 → Prop) : Kt := fin TT con_spec_inRange Try.f61.results.toList [.c .sc] [.c (.v (.int .i64 n0)), .c (.v (.int .i64 low1)), .c (.v (.int .i64 high2))] kk
theorem g_spec_inRange (n0 : Int) (low1 : Int) (high2 : Int) (kk : AV → List A1 → Prop) :
    ev TT cs_spec_inRange 15 an_spec_inRange (Try.f61.body.getD .skip) (st0 con_spec_inRange [.c (.v (.int .i64 n0)), .c (.v (.int .i64 low1)), .c (.v (.int .i64 high2))]) (fin TT con_spec_inRange Try.f61.results.toList [.c .sc] [.c (.v (.int .i64 n0)), .c (.v (.int .i64 low1)), .c (.v (.int .i64 high2))] kk) = G_spec_inRange n0 low1 high2 (fun r0 => kk (.one (.c (.v (.bool r0)))) []) := by kernel_rfl
theorem e_spec_inRange (n0 : Int) (low1 : Int) (high2 : Int) (kk : AV → List A1 → Prop) :
    ev TT cs_spec_inRange 15 an_spec_inRange (Try.f61.body.getD .skip) (st0 con_spec_inRange [.c (.v (.int .i64 n0)), .c (.v (.int .i64 low1)), .c (.v (.int .i64 high2))]) (fin TT con_spec_inRange Try.f61.results.toList [.c .sc] [.c (.v (.int .i64 n0)), .c (.v (.int .i64 low1)), .c (.v (.int .i64 high2))] kk) = S_spec_inRange n0 low1 high2 (fun r0 => kk (.one (.c (.v (.bool r0)))) []) := by
  rw [g_spec_inRange]
  rfl
theorem clok_spec_inRange : ConOK Try.prog cl_spec_inRange := consNil
theorem cok_spec_inRange : ConsOK Try.prog 15 cs_spec_inRange := ⟨clok_spec_inRange, inlNil⟩
theorem i_spec_inRange {vs : List A1} {kk : AV → List A1 → Prop} {motive : List A1 → Prop} (h : con_spec_inRange.F vs kk) (H : ∀ (n0 : Int) (low1 : Int) (high2 : Int), F_spec_inRange n0 low1 high2 (fun r0 => kk (.one (.c (.v (.bool r0)))) []) → motive [.c (.v (.int .i64 n0)), .c (.v (.int .i64 low1)), .c (.v (.int .i64 high2))]) : motive vs := by
  unfold con_spec_inRange at h
  dsimp only at h
  split at h
  · exact H _ _ _ h
  · exact h.elim
theorem h_spec_inRange : Holds Try.prog 61 con_spec_inRange := by
  refine holds_of_ev (rt := [.c .sc]) (T := TT) (Γ := cs_spec_inRange) (an := an_spec_inRange) (N := 15) (c := Try.f61.body.getD .skip) Try.func61 (by kernel_rfl) Try.ntmps61 (by decide) (by decide) mixed tabOK cok_spec_inRange (by kernel_rfl) ?_
  intro vs kk _ hF
  exact i_spec_inRange (motive := fun vs => Goes (ev TT cs_spec_inRange 15 an_spec_inRange (Try.f61.body.getD .skip) (st0 con_spec_inRange vs) (fin TT con_spec_inRange Try.f61.results.toList [.c .sc] vs kk))) hF (fun n0 low1 high2 hF => goes_of (e_spec_inRange n0 low1 high2 kk) (F_spec_inRange_S hF))
def con_spec_allIn : Con := ⟨[.rd, .rd, .rd], true, [.c (.sl .int), .c (.sc), .c (.sc)], fun vs k => match vs with
    | [.c (.ro .int list0), .c (.v (.int .i64 low1)), .c (.v (.int .i64 high2))] => F_spec_allIn list0 low1 high2 (fun r0 => k (.one (.c (.v (.bool r0)))) [])
    | _ => False, false⟩
def cl_spec_allIn : List (FuncId × Con) := [(61, con_spec_inRange)]
def nm0_spec_allIn : List NStep := [.keep [0, 1, 2, 7] []]
def an_spec_allIn : Ann := ⟨[], [(2, nm0_spec_allIn)], []⟩
def cs_spec_allIn : Cons := ⟨cl_spec_allIn, [], 0, [], []⟩
def can0_spec_allIn (high2 : Int) (list0 : List Int) (low1 : Int) (xi7 : Int) : St := ⟨[(0, .one (.c (.ro .int list0))), (1, .one (.c (.v (.int .i64 low1)))), (2, .one (.c (.v (.int .i64 high2)))), (7, .one (.c (.v (.int .i64 xi7))))], []⟩
def fin_spec_allIn (list0 : List Int) (low1 : Int) (high2 : Int) (kk : AV → List A1 → Prop) : Kt := fin TT con_spec_allIn Try.f109.results.toList [.c .sc] [.c (.ro .int list0), .c (.v (.int .i64 low1)), .c (.v (.int .i64 high2))] kk
def kt0_spec_allIn (kf : Kt) : Kt := blockK 0 (seqK (evF TT cs_spec_allIn 22 an_spec_allIn Try.f109 [1, 1]) (kf))
theorem r0_spec_allIn (list0 : List Int) (low1 : Int) (high2 : Int) (kk : AV → List A1 → Prop) (n : Nat) (xi7 : Int) :
    iter (evF TT cs_spec_allIn 22 an_spec_allIn Try.f109 [1, 0, 1, 0, 0]) nm0_spec_allIn (kt0_spec_allIn (fin_spec_allIn list0 low1 high2 kk)) (n + 1) (can0_spec_allIn high2 list0 low1 xi7) = T0_spec_allIn high2 list0 low1 xi7 (fun r0 => kk (.one (.c (.v (.bool r0)))) []) (fun xi7 => iter (evF TT cs_spec_allIn 22 an_spec_allIn Try.f109 [1, 0, 1, 0, 0]) nm0_spec_allIn (kt0_spec_allIn (fin_spec_allIn list0 low1 high2 kk)) n (can0_spec_allIn high2 list0 low1 xi7)) := by kernel_rfl
theorem l0_spec_allIn (list0 : List Int) (low1 : Int) (high2 : Int) (kk : AV → List A1 → Prop) : ∀ (n : Nat) (xi7 : Int), iter (evF TT cs_spec_allIn 22 an_spec_allIn Try.f109 [1, 0, 1, 0, 0]) nm0_spec_allIn (kt0_spec_allIn (fin_spec_allIn list0 low1 high2 kk)) n (can0_spec_allIn high2 list0 low1 xi7) = L0_spec_allIn high2 list0 low1 (fun r0 => kk (.one (.c (.v (.bool r0)))) []) n xi7 := by
  intro n
  induction n with
  | zero => intros; rfl
  | succ n ih =>
    intro xi7
    rw [r0_spec_allIn list0 low1 high2 kk n xi7]
    have hb : (fun xi7 => iter (evF TT cs_spec_allIn 22 an_spec_allIn Try.f109 [1, 0, 1, 0, 0]) nm0_spec_allIn (kt0_spec_allIn (fin_spec_allIn list0 low1 high2 kk)) n (can0_spec_allIn high2 list0 low1 xi7)) = L0_spec_allIn high2 list0 low1 (fun r0 => kk (.one (.c (.v (.bool r0)))) []) n := by
      funext xi7; exact ih xi7
    rw [hb]
    rfl
theorem g_spec_allIn (list0 : List Int) (low1 : Int) (high2 : Int) (kk : AV → List A1 → Prop) :
    ev TT cs_spec_allIn 22 an_spec_allIn (Try.f109.body.getD .skip) (st0 con_spec_allIn [.c (.ro .int list0), .c (.v (.int .i64 low1)), .c (.v (.int .i64 high2))]) (fin TT con_spec_allIn Try.f109.results.toList [.c .sc] [.c (.ro .int list0), .c (.v (.int .i64 low1)), .c (.v (.int .i64 high2))] kk) = G_spec_allIn list0 low1 high2 (fun high2 list0 low1 xi7 => ∃ j, iter (evF TT cs_spec_allIn 22 an_spec_allIn Try.f109 [1, 0, 1, 0, 0]) nm0_spec_allIn (kt0_spec_allIn (fin_spec_allIn list0 low1 high2 kk)) j (can0_spec_allIn high2 list0 low1 xi7)) := by kernel_rfl
theorem e_spec_allIn (list0 : List Int) (low1 : Int) (high2 : Int) (kk : AV → List A1 → Prop) :
    ev TT cs_spec_allIn 22 an_spec_allIn (Try.f109.body.getD .skip) (st0 con_spec_allIn [.c (.ro .int list0), .c (.v (.int .i64 low1)), .c (.v (.int .i64 high2))]) (fin TT con_spec_allIn Try.f109.results.toList [.c .sc] [.c (.ro .int list0), .c (.v (.int .i64 low1)), .c (.v (.int .i64 high2))] kk) = S_spec_allIn list0 low1 high2 (fun r0 => kk (.one (.c (.v (.bool r0)))) []) := by
  rw [g_spec_allIn]
  have hi0 : (fun high2 list0 low1 xi7 => ∃ j, iter (evF TT cs_spec_allIn 22 an_spec_allIn Try.f109 [1, 0, 1, 0, 0]) nm0_spec_allIn (kt0_spec_allIn (fin_spec_allIn list0 low1 high2 kk)) j (can0_spec_allIn high2 list0 low1 xi7)) = (fun high2 list0 low1 xi7 => ∃ j, L0_spec_allIn high2 list0 low1 (fun r0 => kk (.one (.c (.v (.bool r0)))) []) j xi7) := by
    funext high2 list0 low1 xi7
    refine congrArg Exists (funext fun j => ?_)
    rw [l0_spec_allIn list0 low1 high2 kk j xi7]
  rw [hi0]
  rfl
theorem clok_spec_allIn : ConOK Try.prog cl_spec_allIn := consCons h_spec_inRange ⟨Try.f61, Try.func61, by kernel_rfl, ne_of_beq (by kernel_rfl)⟩ (consNil)
theorem cok_spec_allIn : ConsOK Try.prog 22 cs_spec_allIn := ⟨clok_spec_allIn, inlNil⟩
theorem i_spec_allIn {vs : List A1} {kk : AV → List A1 → Prop} {motive : List A1 → Prop} (h : con_spec_allIn.F vs kk) (H : ∀ (list0 : List Int) (low1 : Int) (high2 : Int), F_spec_allIn list0 low1 high2 (fun r0 => kk (.one (.c (.v (.bool r0)))) []) → motive [.c (.ro .int list0), .c (.v (.int .i64 low1)), .c (.v (.int .i64 high2))]) : motive vs := by
  unfold con_spec_allIn at h
  dsimp only at h
  split at h
  · exact H _ _ _ h
  · exact h.elim
theorem h_spec_allIn : Holds Try.prog 109 con_spec_allIn := by
  refine holds_of_ev (rt := [.c .sc]) (T := TT) (Γ := cs_spec_allIn) (an := an_spec_allIn) (N := 22) (c := Try.f109.body.getD .skip) Try.func109 (by kernel_rfl) Try.ntmps109 (by decide) (by decide) mixed tabOK cok_spec_allIn (by kernel_rfl) ?_
  intro vs kk _ hF
  exact i_spec_allIn (motive := fun vs => Goes (ev TT cs_spec_allIn 22 an_spec_allIn (Try.f109.body.getD .skip) (st0 con_spec_allIn vs) (fin TT con_spec_allIn Try.f109.results.toList [.c .sc] vs kk))) hF (fun list0 low1 high2 hF => goes_of (e_spec_allIn list0 low1 high2 kk) (F_spec_allIn_S hF))
def con_spec_validSketch : Con := ⟨[.rd], true, [.c (.sl .int)], fun vs k => match vs with
    | [.c (.ro .int s0)] => F_spec_validSketch s0 (fun r0 => k (.one (.c (.v (.bool r0)))) [])
    | _ => False, false⟩
def cl_spec_validSketch : List (FuncId × Con) := [(109, con_spec_allIn)]
def an_spec_validSketch : Ann := ⟨[], [], []⟩
def cs_spec_validSketch : Cons := ⟨cl_spec_validSketch, [], 0, [], []⟩
def fin_spec_validSketch (s0 : List Int) (kk : AV → List A1 → Prop) : Kt := fin TT con_spec_validSketch Try.f88.results.toList [.c .sc] [.c (.ro .int s0)] kk
theorem g_spec_validSketch (s0 : List Int) (kk : AV → List A1 → Prop) :
    ev TT cs_spec_validSketch 10 an_spec_validSketch (Try.f88.body.getD .skip) (st0 con_spec_validSketch [.c (.ro .int s0)]) (fin TT con_spec_validSketch Try.f88.results.toList [.c .sc] [.c (.ro .int s0)] kk) = G_spec_validSketch s0 (fun r0 => kk (.one (.c (.v (.bool r0)))) []) := by kernel_rfl
theorem e_spec_validSketch (s0 : List Int) (kk : AV → List A1 → Prop) :
    ev TT cs_spec_validSketch 10 an_spec_validSketch (Try.f88.body.getD .skip) (st0 con_spec_validSketch [.c (.ro .int s0)]) (fin TT con_spec_validSketch Try.f88.results.toList [.c .sc] [.c (.ro .int s0)] kk) = S_spec_validSketch s0 (fun r0 => kk (.one (.c (.v (.bool r0)))) []) := by
  rw [g_spec_validSketch]
  rfl
theorem clok_spec_validSketch : ConOK Try.prog cl_spec_validSketch := consCons h_spec_allIn ⟨Try.f109, Try.func109, by kernel_rfl, ne_of_beq (by kernel_rfl)⟩ (consNil)
theorem cok_spec_validSketch : ConsOK Try.prog 10 cs_spec_validSketch := ⟨clok_spec_validSketch, inlNil⟩
theorem i_spec_validSketch {vs : List A1} {kk : AV → List A1 → Prop} {motive : List A1 → Prop} (h : con_spec_validSketch.F vs kk) (H : ∀ (s0 : List Int), F_spec_validSketch s0 (fun r0 => kk (.one (.c (.v (.bool r0)))) []) → motive [.c (.ro .int s0)]) : motive vs := by
  unfold con_spec_validSketch at h
  dsimp only at h
  split at h
  · exact H _ h
  · exact h.elim
theorem h_spec_validSketch : Holds Try.prog 88 con_spec_validSketch := by
  refine holds_of_ev (rt := [.c .sc]) (T := TT) (Γ := cs_spec_validSketch) (an := an_spec_validSketch) (N := 10) (c := Try.f88.body.getD .skip) Try.func88 (by kernel_rfl) Try.ntmps88 (by decide) (by decide) mixed tabOK cok_spec_validSketch (by kernel_rfl) ?_
  intro vs kk _ hF
  exact i_spec_validSketch (motive := fun vs => Goes (ev TT cs_spec_validSketch 10 an_spec_validSketch (Try.f88.body.getD .skip) (st0 con_spec_validSketch vs) (fin TT con_spec_validSketch Try.f88.results.toList [.c .sc] vs kk))) hF (fun s0 hF => goes_of (e_spec_validSketch s0 kk) (F_spec_validSketch_S hF))
def con_spec_cell : Con := ⟨[.rd, .rd], true, [.c (.sc), .c (.sc)], fun vs k => match vs with
    | [.c (.v (.int .i64 row0)), .c (.v (.int .i64 key1))] => F_spec_cell row0 key1 (fun r0 => k (.one (.c (.v (.int .i64 r0)))) [])
    | _ => False, false⟩
def cl_spec_cell : List (FuncId × Con) := []
def an_spec_cell : Ann := ⟨[], [], []⟩
def cs_spec_cell : Cons := ⟨cl_spec_cell, [], 0, [], []⟩
def fin_spec_cell (row0 : Int) (key1 : Int) (kk : AV → List A1 → Prop) : Kt := fin TT con_spec_cell Try.f110.results.toList [.c .sc] [.c (.v (.int .i64 row0)), .c (.v (.int .i64 key1))] kk
theorem g_spec_cell (row0 : Int) (key1 : Int) (kk : AV → List A1 → Prop) :
    ev TT cs_spec_cell 17 an_spec_cell (Try.f110.body.getD .skip) (st0 con_spec_cell [.c (.v (.int .i64 row0)), .c (.v (.int .i64 key1))]) (fin TT con_spec_cell Try.f110.results.toList [.c .sc] [.c (.v (.int .i64 row0)), .c (.v (.int .i64 key1))] kk) = G_spec_cell row0 key1 (fun r0 => kk (.one (.c (.v (.int .i64 r0)))) []) := by kernel_rfl
theorem e_spec_cell (row0 : Int) (key1 : Int) (kk : AV → List A1 → Prop) :
    ev TT cs_spec_cell 17 an_spec_cell (Try.f110.body.getD .skip) (st0 con_spec_cell [.c (.v (.int .i64 row0)), .c (.v (.int .i64 key1))]) (fin TT con_spec_cell Try.f110.results.toList [.c .sc] [.c (.v (.int .i64 row0)), .c (.v (.int .i64 key1))] kk) = S_spec_cell row0 key1 (fun r0 => kk (.one (.c (.v (.int .i64 r0)))) []) := by
  rw [g_spec_cell]
  rfl
theorem clok_spec_cell : ConOK Try.prog cl_spec_cell := consNil
theorem cok_spec_cell : ConsOK Try.prog 17 cs_spec_cell := ⟨clok_spec_cell, inlNil⟩
theorem i_spec_cell {vs : List A1} {kk : AV → List A1 → Prop} {motive : List A1 → Prop} (h : con_spec_cell.F vs kk) (H : ∀ (row0 : Int) (key1 : Int), F_spec_cell row0 key1 (fun r0 => kk (.one (.c (.v (.int .i64 r0)))) []) → motive [.c (.v (.int .i64 row0)), .c (.v (.int .i64 key1))]) : motive vs := by
  unfold con_spec_cell at h
  dsimp only at h
  split at h
  · exact H _ _ h
  · exact h.elim
theorem h_spec_cell : Holds Try.prog 110 con_spec_cell := by
  refine holds_of_ev (rt := [.c .sc]) (T := TT) (Γ := cs_spec_cell) (an := an_spec_cell) (N := 17) (c := Try.f110.body.getD .skip) Try.func110 (by kernel_rfl) Try.ntmps110 (by decide) (by decide) mixed tabOK cok_spec_cell (by kernel_rfl) ?_
  intro vs kk _ hF
  exact i_spec_cell (motive := fun vs => Goes (ev TT cs_spec_cell 17 an_spec_cell (Try.f110.body.getD .skip) (st0 con_spec_cell vs) (fin TT con_spec_cell Try.f110.results.toList [.c .sc] vs kk))) hF (fun row0 key1 hF => goes_of (e_spec_cell row0 key1 kk) (F_spec_cell_S hF))
def con_spec_count : Con := ⟨[.rd, .rd], true, [.c (.sl .int), .c (.sc)], fun vs k => match vs with
    | [.c (.ro .int s0), .c (.v (.int .i64 key1))] => F_spec_count s0 key1 (fun r0 => k (.one (.c (.v (.int .i64 r0)))) [])
    | _ => False, false⟩
def cl_spec_count : List (FuncId × Con) := [(110, con_spec_cell)]
def nm0_spec_count : List NStep := [.keep [0, 1, 5, 6] []]
def an_spec_count : Ann := ⟨[], [(3, nm0_spec_count)], []⟩
def cs_spec_count : Cons := ⟨cl_spec_count, [], 0, [], []⟩
def can0_spec_count (key1 : Int) (s0 : List Int) (xn5 : Int) (xr6 : Int) : St := ⟨[(0, .one (.c (.ro .int s0))), (1, .one (.c (.v (.int .i64 key1)))), (5, .one (.c (.v (.int .i64 xn5)))), (6, .one (.c (.v (.int .i64 xr6))))], []⟩
def fin_spec_count (s0 : List Int) (key1 : Int) (kk : AV → List A1 → Prop) : Kt := fin TT con_spec_count Try.f89.results.toList [.c .sc] [.c (.ro .int s0), .c (.v (.int .i64 key1))] kk
def kt0_spec_count (kf : Kt) : Kt := blockK 0 (seqK (evF TT cs_spec_count 20 an_spec_count Try.f89 [1, 1, 1]) (kf))
theorem r0_spec_count (s0 : List Int) (key1 : Int) (kk : AV → List A1 → Prop) (n : Nat) (xn5 : Int) (xr6 : Int) :
    iter (evF TT cs_spec_count 20 an_spec_count Try.f89 [1, 1, 0, 1, 0, 0]) nm0_spec_count (kt0_spec_count (fin_spec_count s0 key1 kk)) (n + 1) (can0_spec_count key1 s0 xn5 xr6) = T0_spec_count key1 s0 xn5 xr6 (fun r0 => kk (.one (.c (.v (.int .i64 r0)))) []) (fun xn5 xr6 => iter (evF TT cs_spec_count 20 an_spec_count Try.f89 [1, 1, 0, 1, 0, 0]) nm0_spec_count (kt0_spec_count (fin_spec_count s0 key1 kk)) n (can0_spec_count key1 s0 xn5 xr6)) := by kernel_rfl
theorem l0_spec_count (s0 : List Int) (key1 : Int) (kk : AV → List A1 → Prop) : ∀ (n : Nat) (xn5 : Int) (xr6 : Int), iter (evF TT cs_spec_count 20 an_spec_count Try.f89 [1, 1, 0, 1, 0, 0]) nm0_spec_count (kt0_spec_count (fin_spec_count s0 key1 kk)) n (can0_spec_count key1 s0 xn5 xr6) = L0_spec_count key1 s0 (fun r0 => kk (.one (.c (.v (.int .i64 r0)))) []) n xn5 xr6 := by
  intro n
  induction n with
  | zero => intros; rfl
  | succ n ih =>
    intro xn5 xr6
    rw [r0_spec_count s0 key1 kk n xn5 xr6]
    have hb : (fun xn5 xr6 => iter (evF TT cs_spec_count 20 an_spec_count Try.f89 [1, 1, 0, 1, 0, 0]) nm0_spec_count (kt0_spec_count (fin_spec_count s0 key1 kk)) n (can0_spec_count key1 s0 xn5 xr6)) = L0_spec_count key1 s0 (fun r0 => kk (.one (.c (.v (.int .i64 r0)))) []) n := by
      funext xn5 xr6; exact ih xn5 xr6
    rw [hb]
    rfl
theorem g_spec_count (s0 : List Int) (key1 : Int) (kk : AV → List A1 → Prop) :
    ev TT cs_spec_count 20 an_spec_count (Try.f89.body.getD .skip) (st0 con_spec_count [.c (.ro .int s0), .c (.v (.int .i64 key1))]) (fin TT con_spec_count Try.f89.results.toList [.c .sc] [.c (.ro .int s0), .c (.v (.int .i64 key1))] kk) = G_spec_count s0 key1 (fun key1 s0 xn5 xr6 => ∃ j, iter (evF TT cs_spec_count 20 an_spec_count Try.f89 [1, 1, 0, 1, 0, 0]) nm0_spec_count (kt0_spec_count (fin_spec_count s0 key1 kk)) j (can0_spec_count key1 s0 xn5 xr6)) := by kernel_rfl
theorem e_spec_count (s0 : List Int) (key1 : Int) (kk : AV → List A1 → Prop) :
    ev TT cs_spec_count 20 an_spec_count (Try.f89.body.getD .skip) (st0 con_spec_count [.c (.ro .int s0), .c (.v (.int .i64 key1))]) (fin TT con_spec_count Try.f89.results.toList [.c .sc] [.c (.ro .int s0), .c (.v (.int .i64 key1))] kk) = S_spec_count s0 key1 (fun r0 => kk (.one (.c (.v (.int .i64 r0)))) []) := by
  rw [g_spec_count]
  have hi0 : (fun key1 s0 xn5 xr6 => ∃ j, iter (evF TT cs_spec_count 20 an_spec_count Try.f89 [1, 1, 0, 1, 0, 0]) nm0_spec_count (kt0_spec_count (fin_spec_count s0 key1 kk)) j (can0_spec_count key1 s0 xn5 xr6)) = (fun key1 s0 xn5 xr6 => ∃ j, L0_spec_count key1 s0 (fun r0 => kk (.one (.c (.v (.int .i64 r0)))) []) j xn5 xr6) := by
    funext key1 s0 xn5 xr6
    refine congrArg Exists (funext fun j => ?_)
    rw [l0_spec_count s0 key1 kk j xn5 xr6]
  rw [hi0]
  rfl
theorem clok_spec_count : ConOK Try.prog cl_spec_count := consCons h_spec_cell ⟨Try.f110, Try.func110, by kernel_rfl, ne_of_beq (by kernel_rfl)⟩ (consNil)
theorem cok_spec_count : ConsOK Try.prog 20 cs_spec_count := ⟨clok_spec_count, inlNil⟩
theorem i_spec_count {vs : List A1} {kk : AV → List A1 → Prop} {motive : List A1 → Prop} (h : con_spec_count.F vs kk) (H : ∀ (s0 : List Int) (key1 : Int), F_spec_count s0 key1 (fun r0 => kk (.one (.c (.v (.int .i64 r0)))) []) → motive [.c (.ro .int s0), .c (.v (.int .i64 key1))]) : motive vs := by
  unfold con_spec_count at h
  dsimp only at h
  split at h
  · exact H _ _ h
  · exact h.elim
theorem h_spec_count : Holds Try.prog 89 con_spec_count := by
  refine holds_of_ev (rt := [.c .sc]) (T := TT) (Γ := cs_spec_count) (an := an_spec_count) (N := 20) (c := Try.f89.body.getD .skip) Try.func89 (by kernel_rfl) Try.ntmps89 (by decide) (by decide) mixed tabOK cok_spec_count (by kernel_rfl) ?_
  intro vs kk _ hF
  exact i_spec_count (motive := fun vs => Goes (ev TT cs_spec_count 20 an_spec_count (Try.f89.body.getD .skip) (st0 con_spec_count vs) (fin TT con_spec_count Try.f89.results.toList [.c .sc] vs kk))) hF (fun s0 key1 hF => goes_of (e_spec_count s0 key1 kk) (F_spec_count_S hF))
def con_spec_Prefers : Con := ⟨[.rd, .rd, .rd], true, [.c (.sl .int), .c (.sc), .c (.sc)], fun vs k => match vs with
    | [.c (.ro .int s0), .c (.v (.int .i64 a1)), .c (.v (.int .i64 b2))] => F_spec_Prefers s0 a1 b2 (fun r0 => k (.one (.c (.v (.bool r0)))) [])
    | _ => False, false⟩
def cl_spec_Prefers : List (FuncId × Con) := [(61, con_spec_inRange), (88, con_spec_validSketch), (89, con_spec_count)]
def an_spec_Prefers : Ann := ⟨[], [], []⟩
def cs_spec_Prefers : Cons := ⟨cl_spec_Prefers, [], 0, [], []⟩
def fin_spec_Prefers (s0 : List Int) (a1 : Int) (b2 : Int) (kk : AV → List A1 → Prop) : Kt := fin TT con_spec_Prefers Try.f51.results.toList [.c .sc] [.c (.ro .int s0), .c (.v (.int .i64 a1)), .c (.v (.int .i64 b2))] kk
theorem g_spec_Prefers (s0 : List Int) (a1 : Int) (b2 : Int) (kk : AV → List A1 → Prop) :
    ev TT cs_spec_Prefers 26 an_spec_Prefers (Try.f51.body.getD .skip) (st0 con_spec_Prefers [.c (.ro .int s0), .c (.v (.int .i64 a1)), .c (.v (.int .i64 b2))]) (fin TT con_spec_Prefers Try.f51.results.toList [.c .sc] [.c (.ro .int s0), .c (.v (.int .i64 a1)), .c (.v (.int .i64 b2))] kk) = G_spec_Prefers s0 a1 b2 (fun r0 => kk (.one (.c (.v (.bool r0)))) []) := by kernel_rfl
theorem e_spec_Prefers (s0 : List Int) (a1 : Int) (b2 : Int) (kk : AV → List A1 → Prop) :
    ev TT cs_spec_Prefers 26 an_spec_Prefers (Try.f51.body.getD .skip) (st0 con_spec_Prefers [.c (.ro .int s0), .c (.v (.int .i64 a1)), .c (.v (.int .i64 b2))]) (fin TT con_spec_Prefers Try.f51.results.toList [.c .sc] [.c (.ro .int s0), .c (.v (.int .i64 a1)), .c (.v (.int .i64 b2))] kk) = S_spec_Prefers s0 a1 b2 (fun r0 => kk (.one (.c (.v (.bool r0)))) []) := by
  rw [g_spec_Prefers]
  rfl
theorem clok_spec_Prefers : ConOK Try.prog cl_spec_Prefers := consCons h_spec_inRange ⟨Try.f61, Try.func61, by kernel_rfl, ne_of_beq (by kernel_rfl)⟩ (consCons h_spec_validSketch ⟨Try.f88, Try.func88, by kernel_rfl, ne_of_beq (by kernel_rfl)⟩ (consCons h_spec_count ⟨Try.f89, Try.func89, by kernel_rfl, ne_of_beq (by kernel_rfl)⟩ (consNil)))
theorem cok_spec_Prefers : ConsOK Try.prog 26 cs_spec_Prefers := ⟨clok_spec_Prefers, inlNil⟩
theorem i_spec_Prefers {vs : List A1} {kk : AV → List A1 → Prop} {motive : List A1 → Prop} (h : con_spec_Prefers.F vs kk) (H : ∀ (s0 : List Int) (a1 : Int) (b2 : Int), F_spec_Prefers s0 a1 b2 (fun r0 => kk (.one (.c (.v (.bool r0)))) []) → motive [.c (.ro .int s0), .c (.v (.int .i64 a1)), .c (.v (.int .i64 b2))]) : motive vs := by
  unfold con_spec_Prefers at h
  dsimp only at h
  split at h
  · exact H _ _ _ h
  · exact h.elim
theorem h_spec_Prefers : Holds Try.prog 51 con_spec_Prefers := by
  refine holds_of_ev (rt := [.c .sc]) (T := TT) (Γ := cs_spec_Prefers) (an := an_spec_Prefers) (N := 26) (c := Try.f51.body.getD .skip) Try.func51 (by kernel_rfl) Try.ntmps51 (by decide) (by decide) mixed tabOK cok_spec_Prefers (by kernel_rfl) ?_
  intro vs kk _ hF
  exact i_spec_Prefers (motive := fun vs => Goes (ev TT cs_spec_Prefers 26 an_spec_Prefers (Try.f51.body.getD .skip) (st0 con_spec_Prefers vs) (fin TT con_spec_Prefers Try.f51.results.toList [.c .sc] vs kk))) hF (fun s0 a1 b2 hF => goes_of (e_spec_Prefers s0 a1 b2 kk) (F_spec_Prefers_S hF))
def con_impl_ValidSketch : Con := ⟨[.rd], true, [.c (.sl .int)], fun vs k => match vs with
    | [.c (.ro .int s0)] => F_impl_ValidSketch s0 (fun r0 => k (.one (.c (.v (.bool r0)))) [])
    | _ => False, false⟩
def cl_impl_ValidSketch : List (FuncId × Con) := []
def nm0_impl_ValidSketch : List NStep := [.keep [8, 9, 10] []]
def an_impl_ValidSketch : Ann := ⟨[], [(4, nm0_impl_ValidSketch)], []⟩
def cs_impl_ValidSketch : Cons := ⟨cl_impl_ValidSketch, [], 0, [], []⟩
def can0_impl_ValidSketch (s0 : List Int) (xt9 : Int) (xt10 : Int) : St := ⟨[(8, .one (.c (.ro .int s0))), (9, .one (.c (.v (.int .i64 xt9)))), (10, .one (.c (.v (.int .i64 xt10))))], []⟩
def fin_impl_ValidSketch (s0 : List Int) (kk : AV → List A1 → Prop) : Kt := fin TT con_impl_ValidSketch Try.f69.results.toList [.c .sc] [.c (.ro .int s0)] kk
def kt0_impl_ValidSketch (kf : Kt) : Kt := blockK 0 (seqK (evF TT cs_impl_ValidSketch 21 an_impl_ValidSketch Try.f69 [1, 1, 1]) (kf))
theorem r0_impl_ValidSketch (s0 : List Int) (xt9 : Int) (kk : AV → List A1 → Prop) (n : Nat) (xt10 : Int) :
    iter (evF TT cs_impl_ValidSketch 21 an_impl_ValidSketch Try.f69 [1, 1, 0, 1, 0, 0]) nm0_impl_ValidSketch (kt0_impl_ValidSketch (fin_impl_ValidSketch s0 kk)) (n + 1) (can0_impl_ValidSketch s0 xt9 xt10) = T0_impl_ValidSketch s0 xt9 xt10 (fun r0 => kk (.one (.c (.v (.bool r0)))) []) (fun xt10 => iter (evF TT cs_impl_ValidSketch 21 an_impl_ValidSketch Try.f69 [1, 1, 0, 1, 0, 0]) nm0_impl_ValidSketch (kt0_impl_ValidSketch (fin_impl_ValidSketch s0 kk)) n (can0_impl_ValidSketch s0 xt9 xt10)) := by kernel_rfl
theorem l0_impl_ValidSketch (s0 : List Int) (xt9 : Int) (kk : AV → List A1 → Prop) : ∀ (n : Nat) (xt10 : Int), iter (evF TT cs_impl_ValidSketch 21 an_impl_ValidSketch Try.f69 [1, 1, 0, 1, 0, 0]) nm0_impl_ValidSketch (kt0_impl_ValidSketch (fin_impl_ValidSketch s0 kk)) n (can0_impl_ValidSketch s0 xt9 xt10) = L0_impl_ValidSketch s0 xt9 (fun r0 => kk (.one (.c (.v (.bool r0)))) []) n xt10 := by
  intro n
  induction n with
  | zero => intros; rfl
  | succ n ih =>
    intro xt10
    rw [r0_impl_ValidSketch s0 xt9 kk n xt10]
    have hb : (fun xt10 => iter (evF TT cs_impl_ValidSketch 21 an_impl_ValidSketch Try.f69 [1, 1, 0, 1, 0, 0]) nm0_impl_ValidSketch (kt0_impl_ValidSketch (fin_impl_ValidSketch s0 kk)) n (can0_impl_ValidSketch s0 xt9 xt10)) = L0_impl_ValidSketch s0 xt9 (fun r0 => kk (.one (.c (.v (.bool r0)))) []) n := by
      funext xt10; exact ih xt10
    rw [hb]
    rfl
theorem g_impl_ValidSketch (s0 : List Int) (kk : AV → List A1 → Prop) :
    ev TT cs_impl_ValidSketch 21 an_impl_ValidSketch (Try.f69.body.getD .skip) (st0 con_impl_ValidSketch [.c (.ro .int s0)]) (fin TT con_impl_ValidSketch Try.f69.results.toList [.c .sc] [.c (.ro .int s0)] kk) = G_impl_ValidSketch s0 (fun r0 => kk (.one (.c (.v (.bool r0)))) []) (fun s0 xt9 xt10 => ∃ j, iter (evF TT cs_impl_ValidSketch 21 an_impl_ValidSketch Try.f69 [1, 1, 0, 1, 0, 0]) nm0_impl_ValidSketch (kt0_impl_ValidSketch (fin_impl_ValidSketch s0 kk)) j (can0_impl_ValidSketch s0 xt9 xt10)) := by kernel_rfl
theorem e_impl_ValidSketch (s0 : List Int) (kk : AV → List A1 → Prop) :
    ev TT cs_impl_ValidSketch 21 an_impl_ValidSketch (Try.f69.body.getD .skip) (st0 con_impl_ValidSketch [.c (.ro .int s0)]) (fin TT con_impl_ValidSketch Try.f69.results.toList [.c .sc] [.c (.ro .int s0)] kk) = S_impl_ValidSketch s0 (fun r0 => kk (.one (.c (.v (.bool r0)))) []) := by
  rw [g_impl_ValidSketch]
  have hi0 : (fun s0 xt9 xt10 => ∃ j, iter (evF TT cs_impl_ValidSketch 21 an_impl_ValidSketch Try.f69 [1, 1, 0, 1, 0, 0]) nm0_impl_ValidSketch (kt0_impl_ValidSketch (fin_impl_ValidSketch s0 kk)) j (can0_impl_ValidSketch s0 xt9 xt10)) = (fun s0 xt9 xt10 => ∃ j, L0_impl_ValidSketch s0 xt9 (fun r0 => kk (.one (.c (.v (.bool r0)))) []) j xt10) := by
    funext s0 xt9 xt10
    refine congrArg Exists (funext fun j => ?_)
    rw [l0_impl_ValidSketch s0 xt9 kk j xt10]
  rw [hi0]
  rfl
theorem clok_impl_ValidSketch : ConOK Try.prog cl_impl_ValidSketch := consNil
theorem cok_impl_ValidSketch : ConsOK Try.prog 21 cs_impl_ValidSketch := ⟨clok_impl_ValidSketch, inlNil⟩
theorem i_impl_ValidSketch {vs : List A1} {kk : AV → List A1 → Prop} {motive : List A1 → Prop} (h : con_impl_ValidSketch.F vs kk) (H : ∀ (s0 : List Int), F_impl_ValidSketch s0 (fun r0 => kk (.one (.c (.v (.bool r0)))) []) → motive [.c (.ro .int s0)]) : motive vs := by
  unfold con_impl_ValidSketch at h
  dsimp only at h
  split at h
  · exact H _ h
  · exact h.elim
theorem h_impl_ValidSketch : Holds Try.prog 69 con_impl_ValidSketch := by
  refine holds_of_ev (rt := [.c .sc]) (T := TT) (Γ := cs_impl_ValidSketch) (an := an_impl_ValidSketch) (N := 21) (c := Try.f69.body.getD .skip) Try.func69 (by kernel_rfl) Try.ntmps69 (by decide) (by decide) mixed tabOK cok_impl_ValidSketch (by kernel_rfl) ?_
  intro vs kk _ hF
  exact i_impl_ValidSketch (motive := fun vs => Goes (ev TT cs_impl_ValidSketch 21 an_impl_ValidSketch (Try.f69.body.getD .skip) (st0 con_impl_ValidSketch vs) (fin TT con_impl_ValidSketch Try.f69.results.toList [.c .sc] vs kk))) hF (fun s0 hF => goes_of (e_impl_ValidSketch s0 kk) (F_impl_ValidSketch_S hF))
def con_impl_validKey : Con := ⟨[.rd], true, [.c (.sc)], fun vs k => match vs with
    | [.c (.v (.int .i64 key0))] => F_impl_validKey key0 (fun r0 => k (.one (.c (.v (.bool r0)))) [])
    | _ => False, false⟩
def cl_impl_validKey : List (FuncId × Con) := []
def an_impl_validKey : Ann := ⟨[], [], []⟩
def cs_impl_validKey : Cons := ⟨cl_impl_validKey, [], 0, [], []⟩
def fin_impl_validKey (key0 : Int) (kk : AV → List A1 → Prop) : Kt := fin TT con_impl_validKey Try.f58.results.toList [.c .sc] [.c (.v (.int .i64 key0))] kk
theorem g_impl_validKey (key0 : Int) (kk : AV → List A1 → Prop) :
    ev TT cs_impl_validKey 9 an_impl_validKey (Try.f58.body.getD .skip) (st0 con_impl_validKey [.c (.v (.int .i64 key0))]) (fin TT con_impl_validKey Try.f58.results.toList [.c .sc] [.c (.v (.int .i64 key0))] kk) = G_impl_validKey key0 (fun r0 => kk (.one (.c (.v (.bool r0)))) []) := by kernel_rfl
theorem e_impl_validKey (key0 : Int) (kk : AV → List A1 → Prop) :
    ev TT cs_impl_validKey 9 an_impl_validKey (Try.f58.body.getD .skip) (st0 con_impl_validKey [.c (.v (.int .i64 key0))]) (fin TT con_impl_validKey Try.f58.results.toList [.c .sc] [.c (.v (.int .i64 key0))] kk) = S_impl_validKey key0 (fun r0 => kk (.one (.c (.v (.bool r0)))) []) := by
  rw [g_impl_validKey]
  rfl
theorem clok_impl_validKey : ConOK Try.prog cl_impl_validKey := consNil
theorem cok_impl_validKey : ConsOK Try.prog 9 cs_impl_validKey := ⟨clok_impl_validKey, inlNil⟩
theorem i_impl_validKey {vs : List A1} {kk : AV → List A1 → Prop} {motive : List A1 → Prop} (h : con_impl_validKey.F vs kk) (H : ∀ (key0 : Int), F_impl_validKey key0 (fun r0 => kk (.one (.c (.v (.bool r0)))) []) → motive [.c (.v (.int .i64 key0))]) : motive vs := by
  unfold con_impl_validKey at h
  dsimp only at h
  split at h
  · exact H _ h
  · exact h.elim
theorem h_impl_validKey : Holds Try.prog 58 con_impl_validKey := by
  refine holds_of_ev (rt := [.c .sc]) (T := TT) (Γ := cs_impl_validKey) (an := an_impl_validKey) (N := 9) (c := Try.f58.body.getD .skip) Try.func58 (by kernel_rfl) Try.ntmps58 (by decide) (by decide) mixed tabOK cok_impl_validKey (by kernel_rfl) ?_
  intro vs kk _ hF
  exact i_impl_validKey (motive := fun vs => Goes (ev TT cs_impl_validKey 9 an_impl_validKey (Try.f58.body.getD .skip) (st0 con_impl_validKey vs) (fin TT con_impl_validKey Try.f58.results.toList [.c .sc] vs kk))) hF (fun key0 hF => goes_of (e_impl_validKey key0 kk) (F_impl_validKey_S hF))
def con_impl_CellOf : Con := ⟨[.rd, .rd], true, [.c (.sc), .c (.sc)], fun vs k => match vs with
    | [.c (.v (.int .i64 row0)), .c (.v (.int .i64 key1))] => F_impl_CellOf row0 key1 (fun r0 => k (.one (.c (.v (.int .i64 r0)))) [])
    | _ => False, false⟩
def cl_impl_CellOf : List (FuncId × Con) := [(58, con_impl_validKey)]
def an_impl_CellOf : Ann := ⟨[], [], []⟩
def cs_impl_CellOf : Cons := ⟨cl_impl_CellOf, [], 0, [], []⟩
def fin_impl_CellOf (row0 : Int) (key1 : Int) (kk : AV → List A1 → Prop) : Kt := fin TT con_impl_CellOf Try.f107.results.toList [.c .sc] [.c (.v (.int .i64 row0)), .c (.v (.int .i64 key1))] kk
theorem g_impl_CellOf (row0 : Int) (key1 : Int) (kk : AV → List A1 → Prop) :
    ev TT cs_impl_CellOf 30 an_impl_CellOf (Try.f107.body.getD .skip) (st0 con_impl_CellOf [.c (.v (.int .i64 row0)), .c (.v (.int .i64 key1))]) (fin TT con_impl_CellOf Try.f107.results.toList [.c .sc] [.c (.v (.int .i64 row0)), .c (.v (.int .i64 key1))] kk) = G_impl_CellOf row0 key1 (fun r0 => kk (.one (.c (.v (.int .i64 r0)))) []) := by kernel_rfl
theorem e_impl_CellOf (row0 : Int) (key1 : Int) (kk : AV → List A1 → Prop) :
    ev TT cs_impl_CellOf 30 an_impl_CellOf (Try.f107.body.getD .skip) (st0 con_impl_CellOf [.c (.v (.int .i64 row0)), .c (.v (.int .i64 key1))]) (fin TT con_impl_CellOf Try.f107.results.toList [.c .sc] [.c (.v (.int .i64 row0)), .c (.v (.int .i64 key1))] kk) = S_impl_CellOf row0 key1 (fun r0 => kk (.one (.c (.v (.int .i64 r0)))) []) := by
  rw [g_impl_CellOf]
  rfl
theorem clok_impl_CellOf : ConOK Try.prog cl_impl_CellOf := consCons h_impl_validKey ⟨Try.f58, Try.func58, by kernel_rfl, ne_of_beq (by kernel_rfl)⟩ (consNil)
theorem cok_impl_CellOf : ConsOK Try.prog 30 cs_impl_CellOf := ⟨clok_impl_CellOf, inlNil⟩
theorem i_impl_CellOf {vs : List A1} {kk : AV → List A1 → Prop} {motive : List A1 → Prop} (h : con_impl_CellOf.F vs kk) (H : ∀ (row0 : Int) (key1 : Int), F_impl_CellOf row0 key1 (fun r0 => kk (.one (.c (.v (.int .i64 r0)))) []) → motive [.c (.v (.int .i64 row0)), .c (.v (.int .i64 key1))]) : motive vs := by
  unfold con_impl_CellOf at h
  dsimp only at h
  split at h
  · exact H _ _ h
  · exact h.elim
theorem h_impl_CellOf : Holds Try.prog 107 con_impl_CellOf := by
  refine holds_of_ev (rt := [.c .sc]) (T := TT) (Γ := cs_impl_CellOf) (an := an_impl_CellOf) (N := 30) (c := Try.f107.body.getD .skip) Try.func107 (by kernel_rfl) Try.ntmps107 (by decide) (by decide) mixed tabOK cok_impl_CellOf (by kernel_rfl) ?_
  intro vs kk _ hF
  exact i_impl_CellOf (motive := fun vs => Goes (ev TT cs_impl_CellOf 30 an_impl_CellOf (Try.f107.body.getD .skip) (st0 con_impl_CellOf vs) (fin TT con_impl_CellOf Try.f107.results.toList [.c .sc] vs kk))) hF (fun row0 key1 hF => goes_of (e_impl_CellOf row0 key1 kk) (F_impl_CellOf_S hF))
def con_impl_CountOf : Con := ⟨[.rd, .rd], true, [.c (.sl .int), .c (.sc)], fun vs k => match vs with
    | [.c (.ro .int s0), .c (.v (.int .i64 key1))] => F_impl_CountOf s0 key1 (fun r0 => k (.one (.c (.v (.int .i64 r0)))) [])
    | _ => False, false⟩
def cl_impl_CountOf : List (FuncId × Con) := [(58, con_impl_validKey), (69, con_impl_ValidSketch), (107, con_impl_CellOf)]
def nm0_impl_CountOf : List NStep := [.keep [0, 1, 5, 15] []]
def an_impl_CountOf : Ann := ⟨[], [(5, nm0_impl_CountOf)], []⟩
def cs_impl_CountOf : Cons := ⟨cl_impl_CountOf, [], 0, [], []⟩
def can0_impl_CountOf (key1 : Int) (s0 : List Int) (xleast5 : Int) (xt15 : Int) : St := ⟨[(0, .one (.c (.ro .int s0))), (1, .one (.c (.v (.int .i64 key1)))), (5, .one (.c (.v (.int .i64 xleast5)))), (15, .one (.c (.v (.int .i64 xt15))))], []⟩
def fin_impl_CountOf (s0 : List Int) (key1 : Int) (kk : AV → List A1 → Prop) : Kt := fin TT con_impl_CountOf Try.f90.results.toList [.c .sc] [.c (.ro .int s0), .c (.v (.int .i64 key1))] kk
def kt0_impl_CountOf (kf : Kt) : Kt := blockK 0 (seqK (evF TT cs_impl_CountOf 28 an_impl_CountOf Try.f90 [1, 1, 1, 1]) (kf))
theorem r0_impl_CountOf (s0 : List Int) (key1 : Int) (kk : AV → List A1 → Prop) (n : Nat) (xleast5 : Int) (xt15 : Int) :
    iter (evF TT cs_impl_CountOf 28 an_impl_CountOf Try.f90 [1, 1, 1, 0, 1, 0, 0]) nm0_impl_CountOf (kt0_impl_CountOf (fin_impl_CountOf s0 key1 kk)) (n + 1) (can0_impl_CountOf key1 s0 xleast5 xt15) = T0_impl_CountOf key1 s0 xleast5 xt15 (fun r0 => kk (.one (.c (.v (.int .i64 r0)))) []) (fun xleast5 xt15 => iter (evF TT cs_impl_CountOf 28 an_impl_CountOf Try.f90 [1, 1, 1, 0, 1, 0, 0]) nm0_impl_CountOf (kt0_impl_CountOf (fin_impl_CountOf s0 key1 kk)) n (can0_impl_CountOf key1 s0 xleast5 xt15)) := by kernel_rfl
theorem l0_impl_CountOf (s0 : List Int) (key1 : Int) (kk : AV → List A1 → Prop) : ∀ (n : Nat) (xleast5 : Int) (xt15 : Int), iter (evF TT cs_impl_CountOf 28 an_impl_CountOf Try.f90 [1, 1, 1, 0, 1, 0, 0]) nm0_impl_CountOf (kt0_impl_CountOf (fin_impl_CountOf s0 key1 kk)) n (can0_impl_CountOf key1 s0 xleast5 xt15) = L0_impl_CountOf key1 s0 (fun r0 => kk (.one (.c (.v (.int .i64 r0)))) []) n xleast5 xt15 := by
  intro n
  induction n with
  | zero => intros; rfl
  | succ n ih =>
    intro xleast5 xt15
    rw [r0_impl_CountOf s0 key1 kk n xleast5 xt15]
    have hb : (fun xleast5 xt15 => iter (evF TT cs_impl_CountOf 28 an_impl_CountOf Try.f90 [1, 1, 1, 0, 1, 0, 0]) nm0_impl_CountOf (kt0_impl_CountOf (fin_impl_CountOf s0 key1 kk)) n (can0_impl_CountOf key1 s0 xleast5 xt15)) = L0_impl_CountOf key1 s0 (fun r0 => kk (.one (.c (.v (.int .i64 r0)))) []) n := by
      funext xleast5 xt15; exact ih xleast5 xt15
    rw [hb]
    rfl
theorem g_impl_CountOf (s0 : List Int) (key1 : Int) (kk : AV → List A1 → Prop) :
    ev TT cs_impl_CountOf 28 an_impl_CountOf (Try.f90.body.getD .skip) (st0 con_impl_CountOf [.c (.ro .int s0), .c (.v (.int .i64 key1))]) (fin TT con_impl_CountOf Try.f90.results.toList [.c .sc] [.c (.ro .int s0), .c (.v (.int .i64 key1))] kk) = G_impl_CountOf s0 key1 (fun r0 => kk (.one (.c (.v (.int .i64 r0)))) []) (fun key1 s0 xleast5 xt15 => ∃ j, iter (evF TT cs_impl_CountOf 28 an_impl_CountOf Try.f90 [1, 1, 1, 0, 1, 0, 0]) nm0_impl_CountOf (kt0_impl_CountOf (fin_impl_CountOf s0 key1 kk)) j (can0_impl_CountOf key1 s0 xleast5 xt15)) := by kernel_rfl
theorem e_impl_CountOf (s0 : List Int) (key1 : Int) (kk : AV → List A1 → Prop) :
    ev TT cs_impl_CountOf 28 an_impl_CountOf (Try.f90.body.getD .skip) (st0 con_impl_CountOf [.c (.ro .int s0), .c (.v (.int .i64 key1))]) (fin TT con_impl_CountOf Try.f90.results.toList [.c .sc] [.c (.ro .int s0), .c (.v (.int .i64 key1))] kk) = S_impl_CountOf s0 key1 (fun r0 => kk (.one (.c (.v (.int .i64 r0)))) []) := by
  rw [g_impl_CountOf]
  have hi0 : (fun key1 s0 xleast5 xt15 => ∃ j, iter (evF TT cs_impl_CountOf 28 an_impl_CountOf Try.f90 [1, 1, 1, 0, 1, 0, 0]) nm0_impl_CountOf (kt0_impl_CountOf (fin_impl_CountOf s0 key1 kk)) j (can0_impl_CountOf key1 s0 xleast5 xt15)) = (fun key1 s0 xleast5 xt15 => ∃ j, L0_impl_CountOf key1 s0 (fun r0 => kk (.one (.c (.v (.int .i64 r0)))) []) j xleast5 xt15) := by
    funext key1 s0 xleast5 xt15
    refine congrArg Exists (funext fun j => ?_)
    rw [l0_impl_CountOf s0 key1 kk j xleast5 xt15]
  rw [hi0]
  rfl
theorem clok_impl_CountOf : ConOK Try.prog cl_impl_CountOf := consCons h_impl_validKey ⟨Try.f58, Try.func58, by kernel_rfl, ne_of_beq (by kernel_rfl)⟩ (consCons h_impl_ValidSketch ⟨Try.f69, Try.func69, by kernel_rfl, ne_of_beq (by kernel_rfl)⟩ (consCons h_impl_CellOf ⟨Try.f107, Try.func107, by kernel_rfl, ne_of_beq (by kernel_rfl)⟩ (consNil)))
theorem cok_impl_CountOf : ConsOK Try.prog 28 cs_impl_CountOf := ⟨clok_impl_CountOf, inlNil⟩
theorem i_impl_CountOf {vs : List A1} {kk : AV → List A1 → Prop} {motive : List A1 → Prop} (h : con_impl_CountOf.F vs kk) (H : ∀ (s0 : List Int) (key1 : Int), F_impl_CountOf s0 key1 (fun r0 => kk (.one (.c (.v (.int .i64 r0)))) []) → motive [.c (.ro .int s0), .c (.v (.int .i64 key1))]) : motive vs := by
  unfold con_impl_CountOf at h
  dsimp only at h
  split at h
  · exact H _ _ h
  · exact h.elim
theorem h_impl_CountOf : Holds Try.prog 90 con_impl_CountOf := by
  refine holds_of_ev (rt := [.c .sc]) (T := TT) (Γ := cs_impl_CountOf) (an := an_impl_CountOf) (N := 28) (c := Try.f90.body.getD .skip) Try.func90 (by kernel_rfl) Try.ntmps90 (by decide) (by decide) mixed tabOK cok_impl_CountOf (by kernel_rfl) ?_
  intro vs kk _ hF
  exact i_impl_CountOf (motive := fun vs => Goes (ev TT cs_impl_CountOf 28 an_impl_CountOf (Try.f90.body.getD .skip) (st0 con_impl_CountOf vs) (fin TT con_impl_CountOf Try.f90.results.toList [.c .sc] vs kk))) hF (fun s0 key1 hF => goes_of (e_impl_CountOf s0 key1 kk) (F_impl_CountOf_S hF))
def con_impl_Prefers : Con := ⟨[.rd, .rd, .rd], true, [.c (.sl .int), .c (.sc), .c (.sc)], fun vs k => match vs with
    | [.c (.ro .int s0), .c (.v (.int .i64 a1)), .c (.v (.int .i64 b2))] => F_impl_Prefers s0 a1 b2 (fun r0 => k (.one (.c (.v (.bool r0)))) [])
    | _ => False, false⟩
def cl_impl_Prefers : List (FuncId × Con) := [(58, con_impl_validKey), (69, con_impl_ValidSketch), (90, con_impl_CountOf)]
def an_impl_Prefers : Ann := ⟨[], [], []⟩
def cs_impl_Prefers : Cons := ⟨cl_impl_Prefers, [], 0, [], []⟩
def fin_impl_Prefers (s0 : List Int) (a1 : Int) (b2 : Int) (kk : AV → List A1 → Prop) : Kt := fin TT con_impl_Prefers Try.f52.results.toList [.c .sc] [.c (.ro .int s0), .c (.v (.int .i64 a1)), .c (.v (.int .i64 b2))] kk
theorem g_impl_Prefers (s0 : List Int) (a1 : Int) (b2 : Int) (kk : AV → List A1 → Prop) :
    ev TT cs_impl_Prefers 27 an_impl_Prefers (Try.f52.body.getD .skip) (st0 con_impl_Prefers [.c (.ro .int s0), .c (.v (.int .i64 a1)), .c (.v (.int .i64 b2))]) (fin TT con_impl_Prefers Try.f52.results.toList [.c .sc] [.c (.ro .int s0), .c (.v (.int .i64 a1)), .c (.v (.int .i64 b2))] kk) = G_impl_Prefers s0 a1 b2 (fun r0 => kk (.one (.c (.v (.bool r0)))) []) := by kernel_rfl
theorem e_impl_Prefers (s0 : List Int) (a1 : Int) (b2 : Int) (kk : AV → List A1 → Prop) :
    ev TT cs_impl_Prefers 27 an_impl_Prefers (Try.f52.body.getD .skip) (st0 con_impl_Prefers [.c (.ro .int s0), .c (.v (.int .i64 a1)), .c (.v (.int .i64 b2))]) (fin TT con_impl_Prefers Try.f52.results.toList [.c .sc] [.c (.ro .int s0), .c (.v (.int .i64 a1)), .c (.v (.int .i64 b2))] kk) = S_impl_Prefers s0 a1 b2 (fun r0 => kk (.one (.c (.v (.bool r0)))) []) := by
  rw [g_impl_Prefers]
  rfl
theorem clok_impl_Prefers : ConOK Try.prog cl_impl_Prefers := consCons h_impl_validKey ⟨Try.f58, Try.func58, by kernel_rfl, ne_of_beq (by kernel_rfl)⟩ (consCons h_impl_ValidSketch ⟨Try.f69, Try.func69, by kernel_rfl, ne_of_beq (by kernel_rfl)⟩ (consCons h_impl_CountOf ⟨Try.f90, Try.func90, by kernel_rfl, ne_of_beq (by kernel_rfl)⟩ (consNil)))
theorem cok_impl_Prefers : ConsOK Try.prog 27 cs_impl_Prefers := ⟨clok_impl_Prefers, inlNil⟩
theorem i_impl_Prefers {vs : List A1} {kk : AV → List A1 → Prop} {motive : List A1 → Prop} (h : con_impl_Prefers.F vs kk) (H : ∀ (s0 : List Int) (a1 : Int) (b2 : Int), F_impl_Prefers s0 a1 b2 (fun r0 => kk (.one (.c (.v (.bool r0)))) []) → motive [.c (.ro .int s0), .c (.v (.int .i64 a1)), .c (.v (.int .i64 b2))]) : motive vs := by
  unfold con_impl_Prefers at h
  dsimp only at h
  split at h
  · exact H _ _ _ h
  · exact h.elim
theorem h_impl_Prefers : Holds Try.prog 52 con_impl_Prefers := by
  refine holds_of_ev (rt := [.c .sc]) (T := TT) (Γ := cs_impl_Prefers) (an := an_impl_Prefers) (N := 27) (c := Try.f52.body.getD .skip) Try.func52 (by kernel_rfl) Try.ntmps52 (by decide) (by decide) mixed tabOK cok_impl_Prefers (by kernel_rfl) ?_
  intro vs kk _ hF
  exact i_impl_Prefers (motive := fun vs => Goes (ev TT cs_impl_Prefers 27 an_impl_Prefers (Try.f52.body.getD .skip) (st0 con_impl_Prefers vs) (fin TT con_impl_Prefers Try.f52.results.toList [.c .sc] vs kk))) hF (fun s0 a1 b2 hF => goes_of (e_impl_Prefers s0 a1 b2 kk) (F_impl_Prefers_S hF))
def con_laws_eqIntS : Con := ⟨[.rd, .rd], true, [.c (.sl .int), .c (.sl .int)], fun vs k => match vs with
    | [.c (.ro .int a0), .c (.ro .int b1)] => F_laws_eqIntS a0 b1 (fun r0 => k (.one (.c (.v (.bool r0)))) [])
    | _ => False, false⟩
def cl_laws_eqIntS : List (FuncId × Con) := []
def nm0_laws_eqIntS : List NStep := [.keep [0, 1, 5] []]
def an_laws_eqIntS : Ann := ⟨[(6, .take 0 (.take 1 (.take 2 (.take 3 (.take 4 (.take 5 (.take 6 (.take 7 (.take 8 (.done))))))))), [])], [(4, nm0_laws_eqIntS)], []⟩
def cs_laws_eqIntS : Cons := ⟨cl_laws_eqIntS, [], 0, [], []⟩
def can0_laws_eqIntS (a0 : List Int) (b1 : List Int) (xi5 : Int) : St := ⟨[(0, .one (.c (.ro .int a0))), (1, .one (.c (.ro .int b1))), (5, .one (.c (.v (.int .i64 xi5))))], []⟩
def fin_laws_eqIntS (a0 : List Int) (b1 : List Int) (kk : AV → List A1 → Prop) : Kt := fin TT con_laws_eqIntS Try.f49.results.toList [.c .sc] [.c (.ro .int a0), .c (.ro .int b1)] kk
def kt0_laws_eqIntS (kf : Kt) : Kt := blockK 0 (seqK (evF TT cs_laws_eqIntS 26 an_laws_eqIntS Try.f49 [1, 1, 1]) (kf))
theorem r0_laws_eqIntS (a0 : List Int) (b1 : List Int) (kk : AV → List A1 → Prop) (n : Nat) (xi5 : Int) :
    iter (evF TT cs_laws_eqIntS 26 an_laws_eqIntS Try.f49 [1, 1, 0, 1, 0, 0]) nm0_laws_eqIntS (kt0_laws_eqIntS (fin_laws_eqIntS a0 b1 kk)) (n + 1) (can0_laws_eqIntS a0 b1 xi5) = T0_laws_eqIntS a0 b1 xi5 (fun r0 => kk (.one (.c (.v (.bool r0)))) []) (fun xi5 => iter (evF TT cs_laws_eqIntS 26 an_laws_eqIntS Try.f49 [1, 1, 0, 1, 0, 0]) nm0_laws_eqIntS (kt0_laws_eqIntS (fin_laws_eqIntS a0 b1 kk)) n (can0_laws_eqIntS a0 b1 xi5)) := by kernel_rfl
theorem l0_laws_eqIntS (a0 : List Int) (b1 : List Int) (kk : AV → List A1 → Prop) : ∀ (n : Nat) (xi5 : Int), iter (evF TT cs_laws_eqIntS 26 an_laws_eqIntS Try.f49 [1, 1, 0, 1, 0, 0]) nm0_laws_eqIntS (kt0_laws_eqIntS (fin_laws_eqIntS a0 b1 kk)) n (can0_laws_eqIntS a0 b1 xi5) = L0_laws_eqIntS a0 b1 (fun r0 => kk (.one (.c (.v (.bool r0)))) []) n xi5 := by
  intro n
  induction n with
  | zero => intros; rfl
  | succ n ih =>
    intro xi5
    rw [r0_laws_eqIntS a0 b1 kk n xi5]
    have hb : (fun xi5 => iter (evF TT cs_laws_eqIntS 26 an_laws_eqIntS Try.f49 [1, 1, 0, 1, 0, 0]) nm0_laws_eqIntS (kt0_laws_eqIntS (fin_laws_eqIntS a0 b1 kk)) n (can0_laws_eqIntS a0 b1 xi5)) = L0_laws_eqIntS a0 b1 (fun r0 => kk (.one (.c (.v (.bool r0)))) []) n := by
      funext xi5; exact ih xi5
    rw [hb]
    rfl
theorem g_laws_eqIntS (a0 : List Int) (b1 : List Int) (kk : AV → List A1 → Prop) :
    ev TT cs_laws_eqIntS 26 an_laws_eqIntS (Try.f49.body.getD .skip) (st0 con_laws_eqIntS [.c (.ro .int a0), .c (.ro .int b1)]) (fin TT con_laws_eqIntS Try.f49.results.toList [.c .sc] [.c (.ro .int a0), .c (.ro .int b1)] kk) = G_laws_eqIntS a0 b1 (fun r0 => kk (.one (.c (.v (.bool r0)))) []) (fun a0 b1 xi5 => ∃ j, iter (evF TT cs_laws_eqIntS 26 an_laws_eqIntS Try.f49 [1, 1, 0, 1, 0, 0]) nm0_laws_eqIntS (kt0_laws_eqIntS (fin_laws_eqIntS a0 b1 kk)) j (can0_laws_eqIntS a0 b1 xi5)) := by kernel_rfl
theorem e_laws_eqIntS (a0 : List Int) (b1 : List Int) (kk : AV → List A1 → Prop) :
    ev TT cs_laws_eqIntS 26 an_laws_eqIntS (Try.f49.body.getD .skip) (st0 con_laws_eqIntS [.c (.ro .int a0), .c (.ro .int b1)]) (fin TT con_laws_eqIntS Try.f49.results.toList [.c .sc] [.c (.ro .int a0), .c (.ro .int b1)] kk) = S_laws_eqIntS a0 b1 (fun r0 => kk (.one (.c (.v (.bool r0)))) []) := by
  rw [g_laws_eqIntS]
  have hi0 : (fun a0 b1 xi5 => ∃ j, iter (evF TT cs_laws_eqIntS 26 an_laws_eqIntS Try.f49 [1, 1, 0, 1, 0, 0]) nm0_laws_eqIntS (kt0_laws_eqIntS (fin_laws_eqIntS a0 b1 kk)) j (can0_laws_eqIntS a0 b1 xi5)) = (fun a0 b1 xi5 => ∃ j, L0_laws_eqIntS a0 b1 (fun r0 => kk (.one (.c (.v (.bool r0)))) []) j xi5) := by
    funext a0 b1 xi5
    refine congrArg Exists (funext fun j => ?_)
    rw [l0_laws_eqIntS a0 b1 kk j xi5]
  rw [hi0]
  rfl
theorem clok_laws_eqIntS : ConOK Try.prog cl_laws_eqIntS := consNil
theorem cok_laws_eqIntS : ConsOK Try.prog 26 cs_laws_eqIntS := ⟨clok_laws_eqIntS, inlNil⟩
theorem i_laws_eqIntS {vs : List A1} {kk : AV → List A1 → Prop} {motive : List A1 → Prop} (h : con_laws_eqIntS.F vs kk) (H : ∀ (a0 : List Int) (b1 : List Int), F_laws_eqIntS a0 b1 (fun r0 => kk (.one (.c (.v (.bool r0)))) []) → motive [.c (.ro .int a0), .c (.ro .int b1)]) : motive vs := by
  unfold con_laws_eqIntS at h
  dsimp only at h
  split at h
  · exact H _ _ h
  · exact h.elim
theorem h_laws_eqIntS : Holds Try.prog 49 con_laws_eqIntS := by
  refine holds_of_ev (rt := [.c .sc]) (T := TT) (Γ := cs_laws_eqIntS) (an := an_laws_eqIntS) (N := 26) (c := Try.f49.body.getD .skip) Try.func49 (by kernel_rfl) Try.ntmps49 (by decide) (by decide) mixed tabOK cok_laws_eqIntS (by kernel_rfl) ?_
  intro vs kk _ hF
  exact i_laws_eqIntS (motive := fun vs => Goes (ev TT cs_laws_eqIntS 26 an_laws_eqIntS (Try.f49.body.getD .skip) (st0 con_laws_eqIntS vs) (fin TT con_laws_eqIntS Try.f49.results.toList [.c .sc] vs kk))) hF (fun a0 b1 hF => goes_of (e_laws_eqIntS a0 b1 kk) (F_laws_eqIntS_S hF))
def con_laws_FnExactPrefers : Con := ⟨[.rd, .rd, .rd], true, [.c (.sl .int), .c (.sc), .c (.sc)], fun vs k => match vs with
    | [.c (.ro .int aS0), .c (.v (.int .i64 aA1)), .c (.v (.int .i64 aB2))] => F_laws_FnExactPrefers aS0 aA1 aB2 (fun r0 => k (.one (.c (.v (.bool r0)))) [])
    | _ => False, false⟩
def cl_laws_FnExactPrefers : List (FuncId × Con) := [(47, con_laws_toIntS), (49, con_laws_eqIntS), (51, con_spec_Prefers), (52, con_impl_Prefers)]
def an_laws_FnExactPrefers : Ann := ⟨[], [], []⟩
def cs_laws_FnExactPrefers : Cons := ⟨cl_laws_FnExactPrefers, [], 0, [], []⟩
def fin_laws_FnExactPrefers (aS0 : List Int) (aA1 : Int) (aB2 : Int) (kk : AV → List A1 → Prop) : Kt := fin TT con_laws_FnExactPrefers Try.f13.results.toList [.c .sc] [.c (.ro .int aS0), .c (.v (.int .i64 aA1)), .c (.v (.int .i64 aB2))] kk
theorem g_laws_FnExactPrefers (aS0 : List Int) (aA1 : Int) (aB2 : Int) (kk : AV → List A1 → Prop) :
    ev TT cs_laws_FnExactPrefers 32 an_laws_FnExactPrefers (Try.f13.body.getD .skip) (st0 con_laws_FnExactPrefers [.c (.ro .int aS0), .c (.v (.int .i64 aA1)), .c (.v (.int .i64 aB2))]) (fin TT con_laws_FnExactPrefers Try.f13.results.toList [.c .sc] [.c (.ro .int aS0), .c (.v (.int .i64 aA1)), .c (.v (.int .i64 aB2))] kk) = G_laws_FnExactPrefers aS0 aA1 aB2 (fun r0 => kk (.one (.c (.v (.bool r0)))) []) := by kernel_rfl
theorem e_laws_FnExactPrefers (aS0 : List Int) (aA1 : Int) (aB2 : Int) (kk : AV → List A1 → Prop) :
    ev TT cs_laws_FnExactPrefers 32 an_laws_FnExactPrefers (Try.f13.body.getD .skip) (st0 con_laws_FnExactPrefers [.c (.ro .int aS0), .c (.v (.int .i64 aA1)), .c (.v (.int .i64 aB2))]) (fin TT con_laws_FnExactPrefers Try.f13.results.toList [.c .sc] [.c (.ro .int aS0), .c (.v (.int .i64 aA1)), .c (.v (.int .i64 aB2))] kk) = S_laws_FnExactPrefers aS0 aA1 aB2 (fun r0 => kk (.one (.c (.v (.bool r0)))) []) := by
  rw [g_laws_FnExactPrefers]
  rfl
theorem clok_laws_FnExactPrefers : ConOK Try.prog cl_laws_FnExactPrefers := consCons h_laws_toIntS ⟨Try.f47, Try.func47, by kernel_rfl, ne_of_beq (by kernel_rfl)⟩ (consCons h_laws_eqIntS ⟨Try.f49, Try.func49, by kernel_rfl, ne_of_beq (by kernel_rfl)⟩ (consCons h_spec_Prefers ⟨Try.f51, Try.func51, by kernel_rfl, ne_of_beq (by kernel_rfl)⟩ (consCons h_impl_Prefers ⟨Try.f52, Try.func52, by kernel_rfl, ne_of_beq (by kernel_rfl)⟩ (consNil))))
theorem cok_laws_FnExactPrefers : ConsOK Try.prog 32 cs_laws_FnExactPrefers := ⟨clok_laws_FnExactPrefers, inlNil⟩
theorem i_laws_FnExactPrefers {vs : List A1} {kk : AV → List A1 → Prop} {motive : List A1 → Prop} (h : con_laws_FnExactPrefers.F vs kk) (H : ∀ (aS0 : List Int) (aA1 : Int) (aB2 : Int), F_laws_FnExactPrefers aS0 aA1 aB2 (fun r0 => kk (.one (.c (.v (.bool r0)))) []) → motive [.c (.ro .int aS0), .c (.v (.int .i64 aA1)), .c (.v (.int .i64 aB2))]) : motive vs := by
  unfold con_laws_FnExactPrefers at h
  dsimp only at h
  split at h
  · exact H _ _ _ h
  · exact h.elim
theorem h_laws_FnExactPrefers : Holds Try.prog 13 con_laws_FnExactPrefers := by
  refine holds_of_ev (rt := [.c .sc]) (T := TT) (Γ := cs_laws_FnExactPrefers) (an := an_laws_FnExactPrefers) (N := 32) (c := Try.f13.body.getD .skip) Try.func13 (by kernel_rfl) Try.ntmps13 (by decide) (by decide) mixed tabOK cok_laws_FnExactPrefers (by kernel_rfl) ?_
  intro vs kk _ hF
  exact i_laws_FnExactPrefers (motive := fun vs => Goes (ev TT cs_laws_FnExactPrefers 32 an_laws_FnExactPrefers (Try.f13.body.getD .skip) (st0 con_laws_FnExactPrefers vs) (fin TT con_laws_FnExactPrefers Try.f13.results.toList [.c .sc] vs kk))) hF (fun aS0 aA1 aB2 hF => goes_of (e_laws_FnExactPrefers aS0 aA1 aB2 kk) (F_laws_FnExactPrefers_S hF))
end Go.Ev
