/- What the evaluator gives for these functions: their contracts. No statement is proved here. -/
import Derived.Test.YtemhpncmhdcheabDoorFnExactFormatTraceP0
import Derived.Test.YtemhpncmhdcheabDoorTu
import Derived.Test.YtemhpncmhdcheabDoorSh
import Derived.Test.YtemhpncmhdcheabDoorFvLb
namespace Go.Ev
set_option linter.unusedVariables false
set_option linter.unusedSimpArgs false
set_option maxRecDepth 100000
open Go Go.Proofs
def con_laws_toIntS : Con := ⟨[.rd], true, [.c (.sl .int)], fun vs k => match vs with
    | [.c (.ro .int a0)] => F_laws_toIntS a0 (fun r0 => k (.one (.c (.ro .int r0))) [])
    | _ => False, false⟩
def cl_laws_toIntS : List (FuncId × Con) := []
def nm0_laws_toIntS : List NStep := [.keep [0, 3, 4] [112]]
def an_laws_toIntS : Ann := ⟨[], [(3, nm0_laws_toIntS)], [], []⟩
def cs_laws_toIntS : Cons := ⟨cl_laws_toIntS, [], 0, [], [], []⟩
def can0_laws_toIntS (a0 : List Int) (xi4 : Int) (xy7 : List Int) : St := ⟨[(0, .one (.c (.ro .int a0))), (3, .one (.c (.ow 112))), (4, .one (.c (.v (.int .i64 xi4))))], [(112, .row .int xy7)]⟩
def fin_laws_toIntS (a0 : List Int) (kk : AV → List A1 → Prop) : Kt := fin TT con_laws_toIntS Tryd.f16.results.toList [.c (.sl .int)] [.c (.ro .int a0)] kk
def kt0_laws_toIntS (kf : Kt) : Kt := blockK 0 (seqK (evF TT cs_laws_toIntS 22 an_laws_toIntS Tryd.f16 [1, 1, 1]) (kf))
theorem r0_laws_toIntS (a0 : List Int) (kk : AV → List A1 → Prop) (n : Nat) (xi4 : Int) (xy7 : List Int) :
    iter (evF TT cs_laws_toIntS 22 an_laws_toIntS Tryd.f16 [1, 1, 0, 1, 0, 0]) nm0_laws_toIntS (kt0_laws_toIntS (fin_laws_toIntS a0 kk)) (n + 1) (can0_laws_toIntS a0 xi4 xy7) = T0_laws_toIntS a0 xi4 xy7 (fun r0 => kk (.one (.c (.ro .int r0))) []) (fun xi4 xy7 => iter (evF TT cs_laws_toIntS 22 an_laws_toIntS Tryd.f16 [1, 1, 0, 1, 0, 0]) nm0_laws_toIntS (kt0_laws_toIntS (fin_laws_toIntS a0 kk)) n (can0_laws_toIntS a0 xi4 xy7)) := by kernel_rfl
theorem l0_laws_toIntS (a0 : List Int) (kk : AV → List A1 → Prop) : ∀ (n : Nat) (xi4 : Int) (xy7 : List Int), iter (evF TT cs_laws_toIntS 22 an_laws_toIntS Tryd.f16 [1, 1, 0, 1, 0, 0]) nm0_laws_toIntS (kt0_laws_toIntS (fin_laws_toIntS a0 kk)) n (can0_laws_toIntS a0 xi4 xy7) = L0_laws_toIntS a0 (fun r0 => kk (.one (.c (.ro .int r0))) []) n xi4 xy7 := by
  intro n
  induction n with
  | zero => intros; rfl
  | succ n ih =>
    intro xi4 xy7
    rw [r0_laws_toIntS a0 kk n xi4 xy7]
    have hb : (fun xi4 xy7 => iter (evF TT cs_laws_toIntS 22 an_laws_toIntS Tryd.f16 [1, 1, 0, 1, 0, 0]) nm0_laws_toIntS (kt0_laws_toIntS (fin_laws_toIntS a0 kk)) n (can0_laws_toIntS a0 xi4 xy7)) = L0_laws_toIntS a0 (fun r0 => kk (.one (.c (.ro .int r0))) []) n := by
      funext xi4 xy7; exact ih xi4 xy7
    rw [hb]
    rfl
theorem g_laws_toIntS (a0 : List Int) (kk : AV → List A1 → Prop) :
    ev TT cs_laws_toIntS 22 an_laws_toIntS (Tryd.f16.body.getD .skip) (st0 con_laws_toIntS [.c (.ro .int a0)]) (fin TT con_laws_toIntS Tryd.f16.results.toList [.c (.sl .int)] [.c (.ro .int a0)] kk) = G_laws_toIntS a0 (fun a0 xi4 xy7 => ∃ j, iter (evF TT cs_laws_toIntS 22 an_laws_toIntS Tryd.f16 [1, 1, 0, 1, 0, 0]) nm0_laws_toIntS (kt0_laws_toIntS (fin_laws_toIntS a0 kk)) j (can0_laws_toIntS a0 xi4 xy7)) := by kernel_rfl
theorem e_laws_toIntS (a0 : List Int) (kk : AV → List A1 → Prop) :
    ev TT cs_laws_toIntS 22 an_laws_toIntS (Tryd.f16.body.getD .skip) (st0 con_laws_toIntS [.c (.ro .int a0)]) (fin TT con_laws_toIntS Tryd.f16.results.toList [.c (.sl .int)] [.c (.ro .int a0)] kk) = S_laws_toIntS a0 (fun r0 => kk (.one (.c (.ro .int r0))) []) := by
  rw [g_laws_toIntS]
  have hi0 : (fun a0 xi4 xy7 => ∃ j, iter (evF TT cs_laws_toIntS 22 an_laws_toIntS Tryd.f16 [1, 1, 0, 1, 0, 0]) nm0_laws_toIntS (kt0_laws_toIntS (fin_laws_toIntS a0 kk)) j (can0_laws_toIntS a0 xi4 xy7)) = (fun a0 xi4 xy7 => ∃ j, L0_laws_toIntS a0 (fun r0 => kk (.one (.c (.ro .int r0))) []) j xi4 xy7) := by
    funext a0 xi4 xy7
    refine congrArg Exists (funext fun j => ?_)
    rw [l0_laws_toIntS a0 kk j xi4 xy7]
  rw [hi0]
  rfl
theorem clok_laws_toIntS : ConOK Tryd.prog cl_laws_toIntS := consNil
theorem cok_laws_toIntS : ConsOK Tryd.prog 22 cs_laws_toIntS := ⟨clok_laws_toIntS, inlNil, ovNil⟩
theorem i_laws_toIntS {vs : List A1} {kk : AV → List A1 → Prop} {motive : List A1 → Prop} (h : con_laws_toIntS.F vs kk) (H : ∀ (a0 : List Int), F_laws_toIntS a0 (fun r0 => kk (.one (.c (.ro .int r0))) []) → motive [.c (.ro .int a0)]) : motive vs := by
  unfold con_laws_toIntS at h
  dsimp only at h
  split at h
  · exact H _ h
  · exact h.elim
theorem h_laws_toIntS : Holds Tryd.prog 16 con_laws_toIntS := by
  refine holds_of_ev (rt := [.c (.sl .int)]) (T := TT) (Γ := cs_laws_toIntS) (an := an_laws_toIntS) (N := 22) (c := Tryd.f16.body.getD .skip) Tryd.func16 (by kernel_rfl) Tryd.ntmps16 (by decide) (by decide) mixed tabOK cok_laws_toIntS (by kernel_rfl) ?_
  intro vs kk _ hF
  exact i_laws_toIntS (motive := fun vs => Goes (ev TT cs_laws_toIntS 22 an_laws_toIntS (Tryd.f16.body.getD .skip) (st0 con_laws_toIntS vs) (fin TT con_laws_toIntS Tryd.f16.results.toList [.c (.sl .int)] vs kk))) hF (fun a0 hF => goes_of (e_laws_toIntS a0 kk) (F_laws_toIntS_S hF))
def con_spec_inRange : Con := ⟨[.rd, .rd, .rd], true, [.c (.sc), .c (.sc), .c (.sc)], fun vs k => match vs with
    | [.c (.v (.int .i64 n0)), .c (.v (.int .i64 low1)), .c (.v (.int .i64 high2))] => F_spec_inRange n0 low1 high2 (fun r0 => k (.one (.c (.v (.bool r0)))) [])
    | _ => False, false⟩
def cl_spec_inRange : List (FuncId × Con) := []
def an_spec_inRange : Ann := ⟨[], [], [], []⟩
def cs_spec_inRange : Cons := ⟨cl_spec_inRange, [], 0, [], [], []⟩
def fin_spec_inRange (n0 : Int) (low1 : Int) (high2 : Int) (kk : AV → List A1 → Prop) : Kt := fin TT con_spec_inRange Tryd.f33.results.toList [.c .sc] [.c (.v (.int .i64 n0)), .c (.v (.int .i64 low1)), .c (.v (.int .i64 high2))] kk
theorem g_spec_inRange (n0 : Int) (low1 : Int) (high2 : Int) (kk : AV → List A1 → Prop) :
    ev TT cs_spec_inRange 15 an_spec_inRange (Tryd.f33.body.getD .skip) (st0 con_spec_inRange [.c (.v (.int .i64 n0)), .c (.v (.int .i64 low1)), .c (.v (.int .i64 high2))]) (fin TT con_spec_inRange Tryd.f33.results.toList [.c .sc] [.c (.v (.int .i64 n0)), .c (.v (.int .i64 low1)), .c (.v (.int .i64 high2))] kk) = G_spec_inRange n0 low1 high2 (fun r0 => kk (.one (.c (.v (.bool r0)))) []) := by kernel_rfl
theorem e_spec_inRange (n0 : Int) (low1 : Int) (high2 : Int) (kk : AV → List A1 → Prop) :
    ev TT cs_spec_inRange 15 an_spec_inRange (Tryd.f33.body.getD .skip) (st0 con_spec_inRange [.c (.v (.int .i64 n0)), .c (.v (.int .i64 low1)), .c (.v (.int .i64 high2))]) (fin TT con_spec_inRange Tryd.f33.results.toList [.c .sc] [.c (.v (.int .i64 n0)), .c (.v (.int .i64 low1)), .c (.v (.int .i64 high2))] kk) = S_spec_inRange n0 low1 high2 (fun r0 => kk (.one (.c (.v (.bool r0)))) []) := by
  rw [g_spec_inRange]
  rfl
theorem clok_spec_inRange : ConOK Tryd.prog cl_spec_inRange := consNil
theorem cok_spec_inRange : ConsOK Tryd.prog 15 cs_spec_inRange := ⟨clok_spec_inRange, inlNil, ovNil⟩
theorem i_spec_inRange {vs : List A1} {kk : AV → List A1 → Prop} {motive : List A1 → Prop} (h : con_spec_inRange.F vs kk) (H : ∀ (n0 : Int) (low1 : Int) (high2 : Int), F_spec_inRange n0 low1 high2 (fun r0 => kk (.one (.c (.v (.bool r0)))) []) → motive [.c (.v (.int .i64 n0)), .c (.v (.int .i64 low1)), .c (.v (.int .i64 high2))]) : motive vs := by
  unfold con_spec_inRange at h
  dsimp only at h
  split at h
  · exact H _ _ _ h
  · exact h.elim
theorem h_spec_inRange : Holds Tryd.prog 33 con_spec_inRange := by
  refine holds_of_ev (rt := [.c .sc]) (T := TT) (Γ := cs_spec_inRange) (an := an_spec_inRange) (N := 15) (c := Tryd.f33.body.getD .skip) Tryd.func33 (by kernel_rfl) Tryd.ntmps33 (by decide) (by decide) mixed tabOK cok_spec_inRange (by kernel_rfl) ?_
  intro vs kk _ hF
  exact i_spec_inRange (motive := fun vs => Goes (ev TT cs_spec_inRange 15 an_spec_inRange (Tryd.f33.body.getD .skip) (st0 con_spec_inRange vs) (fin TT con_spec_inRange Tryd.f33.results.toList [.c .sc] vs kk))) hF (fun n0 low1 high2 hF => goes_of (e_spec_inRange n0 low1 high2 kk) (F_spec_inRange_S hF))
def con_spec_allIn : Con := ⟨[.rd, .rd, .rd], true, [.c (.sl .int), .c (.sc), .c (.sc)], fun vs k => match vs with
    | [.c (.ro .int list0), .c (.v (.int .i64 low1)), .c (.v (.int .i64 high2))] => F_spec_allIn list0 low1 high2 (fun r0 => k (.one (.c (.v (.bool r0)))) [])
    | _ => False, false⟩
def cl_spec_allIn : List (FuncId × Con) := [(33, con_spec_inRange)]
def nm0_spec_allIn : List NStep := [.keep [0, 1, 2, 7] []]
def an_spec_allIn : Ann := ⟨[], [(2, nm0_spec_allIn)], [], []⟩
def cs_spec_allIn : Cons := ⟨cl_spec_allIn, [], 0, [], [], []⟩
def can0_spec_allIn (high2 : Int) (list0 : List Int) (low1 : Int) (xi7 : Int) : St := ⟨[(0, .one (.c (.ro .int list0))), (1, .one (.c (.v (.int .i64 low1)))), (2, .one (.c (.v (.int .i64 high2)))), (7, .one (.c (.v (.int .i64 xi7))))], []⟩
def fin_spec_allIn (list0 : List Int) (low1 : Int) (high2 : Int) (kk : AV → List A1 → Prop) : Kt := fin TT con_spec_allIn Tryd.f41.results.toList [.c .sc] [.c (.ro .int list0), .c (.v (.int .i64 low1)), .c (.v (.int .i64 high2))] kk
def kt0_spec_allIn (kf : Kt) : Kt := blockK 0 (seqK (evF TT cs_spec_allIn 22 an_spec_allIn Tryd.f41 [1, 1]) (kf))
theorem r0_spec_allIn (list0 : List Int) (low1 : Int) (high2 : Int) (kk : AV → List A1 → Prop) (n : Nat) (xi7 : Int) :
    iter (evF TT cs_spec_allIn 22 an_spec_allIn Tryd.f41 [1, 0, 1, 0, 0]) nm0_spec_allIn (kt0_spec_allIn (fin_spec_allIn list0 low1 high2 kk)) (n + 1) (can0_spec_allIn high2 list0 low1 xi7) = T0_spec_allIn high2 list0 low1 xi7 (fun r0 => kk (.one (.c (.v (.bool r0)))) []) (fun xi7 => iter (evF TT cs_spec_allIn 22 an_spec_allIn Tryd.f41 [1, 0, 1, 0, 0]) nm0_spec_allIn (kt0_spec_allIn (fin_spec_allIn list0 low1 high2 kk)) n (can0_spec_allIn high2 list0 low1 xi7)) := by kernel_rfl
theorem l0_spec_allIn (list0 : List Int) (low1 : Int) (high2 : Int) (kk : AV → List A1 → Prop) : ∀ (n : Nat) (xi7 : Int), iter (evF TT cs_spec_allIn 22 an_spec_allIn Tryd.f41 [1, 0, 1, 0, 0]) nm0_spec_allIn (kt0_spec_allIn (fin_spec_allIn list0 low1 high2 kk)) n (can0_spec_allIn high2 list0 low1 xi7) = L0_spec_allIn high2 list0 low1 (fun r0 => kk (.one (.c (.v (.bool r0)))) []) n xi7 := by
  intro n
  induction n with
  | zero => intros; rfl
  | succ n ih =>
    intro xi7
    rw [r0_spec_allIn list0 low1 high2 kk n xi7]
    have hb : (fun xi7 => iter (evF TT cs_spec_allIn 22 an_spec_allIn Tryd.f41 [1, 0, 1, 0, 0]) nm0_spec_allIn (kt0_spec_allIn (fin_spec_allIn list0 low1 high2 kk)) n (can0_spec_allIn high2 list0 low1 xi7)) = L0_spec_allIn high2 list0 low1 (fun r0 => kk (.one (.c (.v (.bool r0)))) []) n := by
      funext xi7; exact ih xi7
    rw [hb]
    rfl
theorem g_spec_allIn (list0 : List Int) (low1 : Int) (high2 : Int) (kk : AV → List A1 → Prop) :
    ev TT cs_spec_allIn 22 an_spec_allIn (Tryd.f41.body.getD .skip) (st0 con_spec_allIn [.c (.ro .int list0), .c (.v (.int .i64 low1)), .c (.v (.int .i64 high2))]) (fin TT con_spec_allIn Tryd.f41.results.toList [.c .sc] [.c (.ro .int list0), .c (.v (.int .i64 low1)), .c (.v (.int .i64 high2))] kk) = G_spec_allIn list0 low1 high2 (fun high2 list0 low1 xi7 => ∃ j, iter (evF TT cs_spec_allIn 22 an_spec_allIn Tryd.f41 [1, 0, 1, 0, 0]) nm0_spec_allIn (kt0_spec_allIn (fin_spec_allIn list0 low1 high2 kk)) j (can0_spec_allIn high2 list0 low1 xi7)) := by kernel_rfl
theorem e_spec_allIn (list0 : List Int) (low1 : Int) (high2 : Int) (kk : AV → List A1 → Prop) :
    ev TT cs_spec_allIn 22 an_spec_allIn (Tryd.f41.body.getD .skip) (st0 con_spec_allIn [.c (.ro .int list0), .c (.v (.int .i64 low1)), .c (.v (.int .i64 high2))]) (fin TT con_spec_allIn Tryd.f41.results.toList [.c .sc] [.c (.ro .int list0), .c (.v (.int .i64 low1)), .c (.v (.int .i64 high2))] kk) = S_spec_allIn list0 low1 high2 (fun r0 => kk (.one (.c (.v (.bool r0)))) []) := by
  rw [g_spec_allIn]
  have hi0 : (fun high2 list0 low1 xi7 => ∃ j, iter (evF TT cs_spec_allIn 22 an_spec_allIn Tryd.f41 [1, 0, 1, 0, 0]) nm0_spec_allIn (kt0_spec_allIn (fin_spec_allIn list0 low1 high2 kk)) j (can0_spec_allIn high2 list0 low1 xi7)) = (fun high2 list0 low1 xi7 => ∃ j, L0_spec_allIn high2 list0 low1 (fun r0 => kk (.one (.c (.v (.bool r0)))) []) j xi7) := by
    funext high2 list0 low1 xi7
    refine congrArg Exists (funext fun j => ?_)
    rw [l0_spec_allIn list0 low1 high2 kk j xi7]
  rw [hi0]
  rfl
theorem clok_spec_allIn : ConOK Tryd.prog cl_spec_allIn := consCons h_spec_inRange ⟨Tryd.f33, Tryd.func33, by kernel_rfl, ne_of_beq (by kernel_rfl)⟩ (consNil)
theorem cok_spec_allIn : ConsOK Tryd.prog 22 cs_spec_allIn := ⟨clok_spec_allIn, inlNil, ovNil⟩
theorem i_spec_allIn {vs : List A1} {kk : AV → List A1 → Prop} {motive : List A1 → Prop} (h : con_spec_allIn.F vs kk) (H : ∀ (list0 : List Int) (low1 : Int) (high2 : Int), F_spec_allIn list0 low1 high2 (fun r0 => kk (.one (.c (.v (.bool r0)))) []) → motive [.c (.ro .int list0), .c (.v (.int .i64 low1)), .c (.v (.int .i64 high2))]) : motive vs := by
  unfold con_spec_allIn at h
  dsimp only at h
  split at h
  · exact H _ _ _ h
  · exact h.elim
theorem h_spec_allIn : Holds Tryd.prog 41 con_spec_allIn := by
  refine holds_of_ev (rt := [.c .sc]) (T := TT) (Γ := cs_spec_allIn) (an := an_spec_allIn) (N := 22) (c := Tryd.f41.body.getD .skip) Tryd.func41 (by kernel_rfl) Tryd.ntmps41 (by decide) (by decide) mixed tabOK cok_spec_allIn (by kernel_rfl) ?_
  intro vs kk _ hF
  exact i_spec_allIn (motive := fun vs => Goes (ev TT cs_spec_allIn 22 an_spec_allIn (Tryd.f41.body.getD .skip) (st0 con_spec_allIn vs) (fin TT con_spec_allIn Tryd.f41.results.toList [.c .sc] vs kk))) hF (fun list0 low1 high2 hF => goes_of (e_spec_allIn list0 low1 high2 kk) (F_spec_allIn_S hF))
def con_spec_validTrace : Con := ⟨[.rd], true, [.c (.sl .int)], fun vs k => match vs with
    | [.c (.ro .int t0)] => F_spec_validTrace t0 (fun r0 => k (.one (.c (.v (.bool r0)))) [])
    | _ => False, false⟩
def cl_spec_validTrace : List (FuncId × Con) := [(41, con_spec_allIn)]
def an_spec_validTrace : Ann := ⟨[], [], [], []⟩
def cs_spec_validTrace : Cons := ⟨cl_spec_validTrace, [], 0, [], [], []⟩
def fin_spec_validTrace (t0 : List Int) (kk : AV → List A1 → Prop) : Kt := fin TT con_spec_validTrace Tryd.f25.results.toList [.c .sc] [.c (.ro .int t0)] kk
theorem g_spec_validTrace (t0 : List Int) (kk : AV → List A1 → Prop) :
    ev TT cs_spec_validTrace 10 an_spec_validTrace (Tryd.f25.body.getD .skip) (st0 con_spec_validTrace [.c (.ro .int t0)]) (fin TT con_spec_validTrace Tryd.f25.results.toList [.c .sc] [.c (.ro .int t0)] kk) = G_spec_validTrace t0 (fun r0 => kk (.one (.c (.v (.bool r0)))) []) := by kernel_rfl
theorem e_spec_validTrace (t0 : List Int) (kk : AV → List A1 → Prop) :
    ev TT cs_spec_validTrace 10 an_spec_validTrace (Tryd.f25.body.getD .skip) (st0 con_spec_validTrace [.c (.ro .int t0)]) (fin TT con_spec_validTrace Tryd.f25.results.toList [.c .sc] [.c (.ro .int t0)] kk) = S_spec_validTrace t0 (fun r0 => kk (.one (.c (.v (.bool r0)))) []) := by
  rw [g_spec_validTrace]
  rfl
theorem clok_spec_validTrace : ConOK Tryd.prog cl_spec_validTrace := consCons h_spec_allIn ⟨Tryd.f41, Tryd.func41, by kernel_rfl, ne_of_beq (by kernel_rfl)⟩ (consNil)
theorem cok_spec_validTrace : ConsOK Tryd.prog 10 cs_spec_validTrace := ⟨clok_spec_validTrace, inlNil, ovNil⟩
theorem i_spec_validTrace {vs : List A1} {kk : AV → List A1 → Prop} {motive : List A1 → Prop} (h : con_spec_validTrace.F vs kk) (H : ∀ (t0 : List Int), F_spec_validTrace t0 (fun r0 => kk (.one (.c (.v (.bool r0)))) []) → motive [.c (.ro .int t0)]) : motive vs := by
  unfold con_spec_validTrace at h
  dsimp only at h
  split at h
  · exact H _ h
  · exact h.elim
theorem h_spec_validTrace : Holds Tryd.prog 25 con_spec_validTrace := by
  refine holds_of_ev (rt := [.c .sc]) (T := TT) (Γ := cs_spec_validTrace) (an := an_spec_validTrace) (N := 10) (c := Tryd.f25.body.getD .skip) Tryd.func25 (by kernel_rfl) Tryd.ntmps25 (by decide) (by decide) mixed tabOK cok_spec_validTrace (by kernel_rfl) ?_
  intro vs kk _ hF
  exact i_spec_validTrace (motive := fun vs => Goes (ev TT cs_spec_validTrace 10 an_spec_validTrace (Tryd.f25.body.getD .skip) (st0 con_spec_validTrace vs) (fin TT con_spec_validTrace Tryd.f25.results.toList [.c .sc] vs kk))) hF (fun t0 hF => goes_of (e_spec_validTrace t0 kk) (F_spec_validTrace_S hF))
def con_spec_decimal : Con := ⟨[.rd], true, [.c (.sc)], fun vs k => match vs with
    | [.c (.v (.int .i64 n0))] => F_spec_decimal n0 (fun r0 => k (.one (.c (.v (.string r0)))) [])
    | _ => False, false⟩
def conr_spec_decimal (nn : Nat) : Con := { con_spec_decimal with F := fun vs k => match vs with
    | [.c (.v (.int .i64 n0))] => Fr_spec_decimal nn n0 (fun r0 => k (.one (.c (.v (.string r0)))) [])
    | _ => False }
def cl_spec_decimal (nn : Nat) : List (FuncId × Con) := [(43, conr_spec_decimal nn)]
def an_spec_decimal : Ann := ⟨[(7, .take 0 (.take 1 (.take 3 (.take 4 (.take 5 (.take 6 (.alt 2 (.alt 7 (.alt 8 (.take 9 (.take 10 (.done))) (.none)) (.none)) (.alt 7 (.alt 2 (.alt 8 (.take 9 (.take 10 (.done))) (.none)) (.alt 8 (.alt 2 (.take 9 (.take 10 (.done))) (.none)) (.none))) (.none)))))))), [])], [], [], []⟩
def cs_spec_decimal (nn : Nat) : Cons := ⟨cl_spec_decimal nn, [], 0, [], [], []⟩
def fin_spec_decimal (nn : Nat) (n0 : Int) (kk : AV → List A1 → Prop) : Kt := fin TT (conr_spec_decimal (nn + 1)) Tryd.f43.results.toList [.c .sc] [.c (.v (.int .i64 n0))] kk
theorem g_spec_decimal (nn : Nat) (n0 : Int) (kk : AV → List A1 → Prop) :
    ev TT (cs_spec_decimal nn) 34 an_spec_decimal (Tryd.f43.body.getD .skip) (st0 (conr_spec_decimal (nn + 1)) [.c (.v (.int .i64 n0))]) (fin TT (conr_spec_decimal (nn + 1)) Tryd.f43.results.toList [.c .sc] [.c (.v (.int .i64 n0))] kk) = G_spec_decimal nn n0 (fun r0 => kk (.one (.c (.v (.string r0)))) []) := by kernel_rfl
theorem e_spec_decimal (nn : Nat) (n0 : Int) (kk : AV → List A1 → Prop) :
    ev TT (cs_spec_decimal nn) 34 an_spec_decimal (Tryd.f43.body.getD .skip) (st0 (conr_spec_decimal (nn + 1)) [.c (.v (.int .i64 n0))]) (fin TT (conr_spec_decimal (nn + 1)) Tryd.f43.results.toList [.c .sc] [.c (.v (.int .i64 n0))] kk) = S_spec_decimal nn n0 (fun r0 => kk (.one (.c (.v (.string r0)))) []) := by
  rw [g_spec_decimal]
  rw [G_spec_decimal_eq]
  rfl
theorem clok_spec_decimal (nn : Nat) (hr : Holds Tryd.prog 43 (conr_spec_decimal nn)) : ConOK Tryd.prog (cl_spec_decimal nn) := consCons hr ⟨Tryd.f43, Tryd.func43, by kernel_rfl, ne_of_beq (by kernel_rfl)⟩ (consNil)
theorem cok_spec_decimal (nn : Nat) (hr : Holds Tryd.prog 43 (conr_spec_decimal nn)) : ConsOK Tryd.prog 34 (cs_spec_decimal nn) := ⟨clok_spec_decimal nn hr, inlNil, ovNil⟩
theorem ir_spec_decimal (nn : Nat) {vs : List A1} {kk : AV → List A1 → Prop} {motive : List A1 → Prop} (h : (conr_spec_decimal nn).F vs kk) (H : ∀ (n0 : Int), Fr_spec_decimal nn n0 (fun r0 => kk (.one (.c (.v (.string r0)))) []) → motive [.c (.v (.int .i64 n0))]) : motive vs := by
  unfold conr_spec_decimal at h
  dsimp only at h
  split at h
  · exact H _ h
  · exact h.elim
theorem i_spec_decimal {vs : List A1} {kk : AV → List A1 → Prop} {motive : List A1 → Prop} (h : (con_spec_decimal).F vs kk) (H : ∀ (n0 : Int), F_spec_decimal n0 (fun r0 => kk (.one (.c (.v (.string r0)))) []) → motive [.c (.v (.int .i64 n0))]) : motive vs := by
  unfold con_spec_decimal at h
  dsimp only at h
  split at h
  · exact H _ h
  · exact h.elim
theorem hr_spec_decimal : ∀ nn : Nat, Holds Tryd.prog 43 (conr_spec_decimal nn) := by
  intro nn
  induction nn with
  | zero => intro vs kk h; exact (ir_spec_decimal 0 (motive := fun _ => False) h (fun _ hF => absurd hF.1 (Nat.not_lt_zero _))).elim
  | succ nn ih =>
    refine holds_of_ev (rt := [.c .sc]) (T := TT) (Γ := cs_spec_decimal nn) (an := an_spec_decimal) (N := 34) (c := Tryd.f43.body.getD .skip) Tryd.func43 (by kernel_rfl) Tryd.ntmps43 (show (cs_spec_decimal 0).B + 16 * 34 + 16 ≤ 100000 by decide) (show (conr_spec_decimal 0).mu.length ≤ 34 by decide) mixed tabOK (cok_spec_decimal nn ih) (by kernel_rfl) ?_
    intro vs kk _ hF
    exact ir_spec_decimal (nn + 1) (motive := fun vs => Goes (ev TT (cs_spec_decimal nn) 34 an_spec_decimal (Tryd.f43.body.getD .skip) (st0 (conr_spec_decimal (nn + 1)) vs) (fin TT (conr_spec_decimal (nn + 1)) Tryd.f43.results.toList [.c .sc] vs kk))) hF (fun n0 hF => goes_of (e_spec_decimal nn n0 kk) (F_spec_decimal_S (Nat.le_of_lt_succ hF.1) hF.2))
theorem h_spec_decimal : Holds Tryd.prog 43 con_spec_decimal := by
  refine holds_of_any fun vs kk h => ?_
  exact i_spec_decimal (motive := fun vs => ∃ F, Holds Tryd.prog 43 { con_spec_decimal with F := F } ∧ F vs kk) h (fun n0 hF => ⟨(conr_spec_decimal (M_spec_decimal n0 + 1)).F, hr_spec_decimal _, ⟨Nat.lt_succ_self _, hF⟩⟩)
def con_spec_run : Con := ⟨[.rd, .rd], true, [.c (.sl .int), .c (.sc)], fun vs k => match vs with
    | [.c (.ro .int t0), .c (.v (.int .i64 at1))] => F_spec_run t0 at1 (fun r0 => k (.one (.c (.v (.int .i64 r0)))) [])
    | _ => False, false⟩
def cl_spec_run : List (FuncId × Con) := []
def nm0_spec_run : List NStep := [.keep [0, 1, 5] []]
def an_spec_run : Ann := ⟨[(2, .take 0 (.take 1 (.take 2 (.take 3 (.take 4 (.take 5 (.take 6 (.take 7 (.take 8 (.take 9 (.take 10 (.take 11 (.take 12 (.take 13 (.take 14 (.take 15 (.take 16 (.take 17 (.take 18 (.done))))))))))))))))))), [])], [(2, nm0_spec_run)], [], []⟩
def cs_spec_run : Cons := ⟨cl_spec_run, [], 0, [], [], []⟩
def can0_spec_run (at1 : Int) (t0 : List Int) (xn5 : Int) : St := ⟨[(0, .one (.c (.ro .int t0))), (1, .one (.c (.v (.int .i64 at1)))), (5, .one (.c (.v (.int .i64 xn5))))], []⟩
def fin_spec_run (t0 : List Int) (at1 : Int) (kk : AV → List A1 → Prop) : Kt := fin TT con_spec_run Tryd.f42.results.toList [.c .sc] [.c (.ro .int t0), .c (.v (.int .i64 at1))] kk
def kt0_spec_run (kf : Kt) : Kt := blockK 0 (seqK (evF TT cs_spec_run 28 an_spec_run Tryd.f42 [1, 1, 1]) (kf))
theorem r0_spec_run (t0 : List Int) (at1 : Int) (kk : AV → List A1 → Prop) (n : Nat) (xn5 : Int) :
    iter (evF TT cs_spec_run 28 an_spec_run Tryd.f42 [1, 1, 0, 0, 0]) nm0_spec_run (kt0_spec_run (fin_spec_run t0 at1 kk)) (n + 1) (can0_spec_run at1 t0 xn5) = T0_spec_run at1 t0 xn5 (fun r0 => kk (.one (.c (.v (.int .i64 r0)))) []) (fun xn5 => iter (evF TT cs_spec_run 28 an_spec_run Tryd.f42 [1, 1, 0, 0, 0]) nm0_spec_run (kt0_spec_run (fin_spec_run t0 at1 kk)) n (can0_spec_run at1 t0 xn5)) := by kernel_rfl
theorem l0_spec_run (t0 : List Int) (at1 : Int) (kk : AV → List A1 → Prop) : ∀ (n : Nat) (xn5 : Int), iter (evF TT cs_spec_run 28 an_spec_run Tryd.f42 [1, 1, 0, 0, 0]) nm0_spec_run (kt0_spec_run (fin_spec_run t0 at1 kk)) n (can0_spec_run at1 t0 xn5) = L0_spec_run at1 t0 (fun r0 => kk (.one (.c (.v (.int .i64 r0)))) []) n xn5 := by
  intro n
  induction n with
  | zero => intros; rfl
  | succ n ih =>
    intro xn5
    rw [r0_spec_run t0 at1 kk n xn5]
    have hb : (fun xn5 => iter (evF TT cs_spec_run 28 an_spec_run Tryd.f42 [1, 1, 0, 0, 0]) nm0_spec_run (kt0_spec_run (fin_spec_run t0 at1 kk)) n (can0_spec_run at1 t0 xn5)) = L0_spec_run at1 t0 (fun r0 => kk (.one (.c (.v (.int .i64 r0)))) []) n := by
      funext xn5; exact ih xn5
    rw [hb]
    rfl
theorem g_spec_run (t0 : List Int) (at1 : Int) (kk : AV → List A1 → Prop) :
    ev TT cs_spec_run 28 an_spec_run (Tryd.f42.body.getD .skip) (st0 con_spec_run [.c (.ro .int t0), .c (.v (.int .i64 at1))]) (fin TT con_spec_run Tryd.f42.results.toList [.c .sc] [.c (.ro .int t0), .c (.v (.int .i64 at1))] kk) = G_spec_run t0 at1 (fun at1 t0 xn5 => ∃ j, iter (evF TT cs_spec_run 28 an_spec_run Tryd.f42 [1, 1, 0, 0, 0]) nm0_spec_run (kt0_spec_run (fin_spec_run t0 at1 kk)) j (can0_spec_run at1 t0 xn5)) := by kernel_rfl
theorem e_spec_run (t0 : List Int) (at1 : Int) (kk : AV → List A1 → Prop) :
    ev TT cs_spec_run 28 an_spec_run (Tryd.f42.body.getD .skip) (st0 con_spec_run [.c (.ro .int t0), .c (.v (.int .i64 at1))]) (fin TT con_spec_run Tryd.f42.results.toList [.c .sc] [.c (.ro .int t0), .c (.v (.int .i64 at1))] kk) = S_spec_run t0 at1 (fun r0 => kk (.one (.c (.v (.int .i64 r0)))) []) := by
  rw [g_spec_run]
  have hi0 : (fun at1 t0 xn5 => ∃ j, iter (evF TT cs_spec_run 28 an_spec_run Tryd.f42 [1, 1, 0, 0, 0]) nm0_spec_run (kt0_spec_run (fin_spec_run t0 at1 kk)) j (can0_spec_run at1 t0 xn5)) = (fun at1 t0 xn5 => ∃ j, L0_spec_run at1 t0 (fun r0 => kk (.one (.c (.v (.int .i64 r0)))) []) j xn5) := by
    funext at1 t0 xn5
    refine congrArg Exists (funext fun j => ?_)
    rw [l0_spec_run t0 at1 kk j xn5]
  rw [hi0]
  rfl
theorem clok_spec_run : ConOK Tryd.prog cl_spec_run := consNil
theorem cok_spec_run : ConsOK Tryd.prog 28 cs_spec_run := ⟨clok_spec_run, inlNil, ovNil⟩
theorem i_spec_run {vs : List A1} {kk : AV → List A1 → Prop} {motive : List A1 → Prop} (h : con_spec_run.F vs kk) (H : ∀ (t0 : List Int) (at1 : Int), F_spec_run t0 at1 (fun r0 => kk (.one (.c (.v (.int .i64 r0)))) []) → motive [.c (.ro .int t0), .c (.v (.int .i64 at1))]) : motive vs := by
  unfold con_spec_run at h
  dsimp only at h
  split at h
  · exact H _ _ h
  · exact h.elim
theorem h_spec_run : Holds Tryd.prog 42 con_spec_run := by
  refine holds_of_ev (rt := [.c .sc]) (T := TT) (Γ := cs_spec_run) (an := an_spec_run) (N := 28) (c := Tryd.f42.body.getD .skip) Tryd.func42 (by kernel_rfl) Tryd.ntmps42 (by decide) (by decide) mixed tabOK cok_spec_run (by kernel_rfl) ?_
  intro vs kk _ hF
  exact i_spec_run (motive := fun vs => Goes (ev TT cs_spec_run 28 an_spec_run (Tryd.f42.body.getD .skip) (st0 con_spec_run vs) (fin TT con_spec_run Tryd.f42.results.toList [.c .sc] vs kk))) hF (fun t0 at1 hF => goes_of (e_spec_run t0 at1 kk) (F_spec_run_S hF))
def con_spec_formatTrace : Con := ⟨[.rd], true, [.c (.sl .int)], fun vs k => match vs with
    | [.c (.ro .int t0)] => F_spec_formatTrace t0 (fun r0 => k (.one (.c (.v (.string r0)))) [])
    | _ => False, false⟩
def cl_spec_formatTrace : List (FuncId × Con) := [(42, con_spec_run), (43, con_spec_decimal)]
def nm0_spec_formatTrace : List NStep := [.keep [0, 3, 4] []]
def an_spec_formatTrace : Ann := ⟨[], [(3, nm0_spec_formatTrace)], [], []⟩
def cs_spec_formatTrace : Cons := ⟨cl_spec_formatTrace, [], 0, [], [], []⟩
def can0_spec_formatTrace (t0 : List Int) (xout3 : ByteArray) (xi4 : Int) : St := ⟨[(0, .one (.c (.ro .int t0))), (3, .one (.c (.v (.string xout3)))), (4, .one (.c (.v (.int .i64 xi4))))], []⟩
def fin_spec_formatTrace (t0 : List Int) (kk : AV → List A1 → Prop) : Kt := fin TT con_spec_formatTrace Tryd.f26.results.toList [.c .sc] [.c (.ro .int t0)] kk
def kt0_spec_formatTrace (kf : Kt) : Kt := blockK 0 (seqK (evF TT cs_spec_formatTrace 37 an_spec_formatTrace Tryd.f26 [1, 1, 1]) (kf))
theorem r0_spec_formatTrace (t0 : List Int) (kk : AV → List A1 → Prop) (n : Nat) (xout3 : ByteArray) (xi4 : Int) :
    iter (evF TT cs_spec_formatTrace 37 an_spec_formatTrace Tryd.f26 [1, 1, 0, 1, 0, 0]) nm0_spec_formatTrace (kt0_spec_formatTrace (fin_spec_formatTrace t0 kk)) (n + 1) (can0_spec_formatTrace t0 xout3 xi4) = T0_spec_formatTrace t0 xout3 xi4 (fun r0 => kk (.one (.c (.v (.string r0)))) []) (fun xout3 xi4 => iter (evF TT cs_spec_formatTrace 37 an_spec_formatTrace Tryd.f26 [1, 1, 0, 1, 0, 0]) nm0_spec_formatTrace (kt0_spec_formatTrace (fin_spec_formatTrace t0 kk)) n (can0_spec_formatTrace t0 xout3 xi4)) := by kernel_rfl
theorem l0_spec_formatTrace (t0 : List Int) (kk : AV → List A1 → Prop) : ∀ (n : Nat) (xout3 : ByteArray) (xi4 : Int), iter (evF TT cs_spec_formatTrace 37 an_spec_formatTrace Tryd.f26 [1, 1, 0, 1, 0, 0]) nm0_spec_formatTrace (kt0_spec_formatTrace (fin_spec_formatTrace t0 kk)) n (can0_spec_formatTrace t0 xout3 xi4) = L0_spec_formatTrace t0 (fun r0 => kk (.one (.c (.v (.string r0)))) []) n xout3 xi4 := by
  intro n
  induction n with
  | zero => intros; rfl
  | succ n ih =>
    intro xout3 xi4
    rw [r0_spec_formatTrace t0 kk n xout3 xi4]
    have hb : (fun xout3 xi4 => iter (evF TT cs_spec_formatTrace 37 an_spec_formatTrace Tryd.f26 [1, 1, 0, 1, 0, 0]) nm0_spec_formatTrace (kt0_spec_formatTrace (fin_spec_formatTrace t0 kk)) n (can0_spec_formatTrace t0 xout3 xi4)) = L0_spec_formatTrace t0 (fun r0 => kk (.one (.c (.v (.string r0)))) []) n := by
      funext xout3 xi4; exact ih xout3 xi4
    rw [hb]
    rfl
theorem g_spec_formatTrace (t0 : List Int) (kk : AV → List A1 → Prop) :
    ev TT cs_spec_formatTrace 37 an_spec_formatTrace (Tryd.f26.body.getD .skip) (st0 con_spec_formatTrace [.c (.ro .int t0)]) (fin TT con_spec_formatTrace Tryd.f26.results.toList [.c .sc] [.c (.ro .int t0)] kk) = G_spec_formatTrace t0 (fun t0 xout3 xi4 => ∃ j, iter (evF TT cs_spec_formatTrace 37 an_spec_formatTrace Tryd.f26 [1, 1, 0, 1, 0, 0]) nm0_spec_formatTrace (kt0_spec_formatTrace (fin_spec_formatTrace t0 kk)) j (can0_spec_formatTrace t0 xout3 xi4)) := by kernel_rfl
theorem e_spec_formatTrace (t0 : List Int) (kk : AV → List A1 → Prop) :
    ev TT cs_spec_formatTrace 37 an_spec_formatTrace (Tryd.f26.body.getD .skip) (st0 con_spec_formatTrace [.c (.ro .int t0)]) (fin TT con_spec_formatTrace Tryd.f26.results.toList [.c .sc] [.c (.ro .int t0)] kk) = S_spec_formatTrace t0 (fun r0 => kk (.one (.c (.v (.string r0)))) []) := by
  rw [g_spec_formatTrace]
  have hi0 : (fun t0 xout3 xi4 => ∃ j, iter (evF TT cs_spec_formatTrace 37 an_spec_formatTrace Tryd.f26 [1, 1, 0, 1, 0, 0]) nm0_spec_formatTrace (kt0_spec_formatTrace (fin_spec_formatTrace t0 kk)) j (can0_spec_formatTrace t0 xout3 xi4)) = (fun t0 xout3 xi4 => ∃ j, L0_spec_formatTrace t0 (fun r0 => kk (.one (.c (.v (.string r0)))) []) j xout3 xi4) := by
    funext t0 xout3 xi4
    refine congrArg Exists (funext fun j => ?_)
    rw [l0_spec_formatTrace t0 kk j xout3 xi4]
  rw [hi0]
  rfl
theorem clok_spec_formatTrace : ConOK Tryd.prog cl_spec_formatTrace := consCons h_spec_run ⟨Tryd.f42, Tryd.func42, by kernel_rfl, ne_of_beq (by kernel_rfl)⟩ (consCons h_spec_decimal ⟨Tryd.f43, Tryd.func43, by kernel_rfl, ne_of_beq (by kernel_rfl)⟩ (consNil))
theorem cok_spec_formatTrace : ConsOK Tryd.prog 37 cs_spec_formatTrace := ⟨clok_spec_formatTrace, inlNil, ovNil⟩
theorem i_spec_formatTrace {vs : List A1} {kk : AV → List A1 → Prop} {motive : List A1 → Prop} (h : con_spec_formatTrace.F vs kk) (H : ∀ (t0 : List Int), F_spec_formatTrace t0 (fun r0 => kk (.one (.c (.v (.string r0)))) []) → motive [.c (.ro .int t0)]) : motive vs := by
  unfold con_spec_formatTrace at h
  dsimp only at h
  split at h
  · exact H _ h
  · exact h.elim
theorem h_spec_formatTrace : Holds Tryd.prog 26 con_spec_formatTrace := by
  refine holds_of_ev (rt := [.c .sc]) (T := TT) (Γ := cs_spec_formatTrace) (an := an_spec_formatTrace) (N := 37) (c := Tryd.f26.body.getD .skip) Tryd.func26 (by kernel_rfl) Tryd.ntmps26 (by decide) (by decide) mixed tabOK cok_spec_formatTrace (by kernel_rfl) ?_
  intro vs kk _ hF
  exact i_spec_formatTrace (motive := fun vs => Goes (ev TT cs_spec_formatTrace 37 an_spec_formatTrace (Tryd.f26.body.getD .skip) (st0 con_spec_formatTrace vs) (fin TT con_spec_formatTrace Tryd.f26.results.toList [.c .sc] vs kk))) hF (fun t0 hF => goes_of (e_spec_formatTrace t0 kk) (F_spec_formatTrace_S hF))
def con_spec_FormatTrace : Con := ⟨[.rd], true, [.c (.sl .int)], fun vs k => match vs with
    | [.c (.ro .int t0)] => F_spec_FormatTrace t0 (fun r0 => k (.one (.c (.v (.string r0)))) [])
    | _ => False, false⟩
def cl_spec_FormatTrace : List (FuncId × Con) := [(25, con_spec_validTrace), (26, con_spec_formatTrace)]
def an_spec_FormatTrace : Ann := ⟨[], [], [], []⟩
def cs_spec_FormatTrace : Cons := ⟨cl_spec_FormatTrace, [], 0, [], [], []⟩
def fin_spec_FormatTrace (t0 : List Int) (kk : AV → List A1 → Prop) : Kt := fin TT con_spec_FormatTrace Tryd.f10.results.toList [.c .sc] [.c (.ro .int t0)] kk
theorem g_spec_FormatTrace (t0 : List Int) (kk : AV → List A1 → Prop) :
    ev TT cs_spec_FormatTrace 8 an_spec_FormatTrace (Tryd.f10.body.getD .skip) (st0 con_spec_FormatTrace [.c (.ro .int t0)]) (fin TT con_spec_FormatTrace Tryd.f10.results.toList [.c .sc] [.c (.ro .int t0)] kk) = G_spec_FormatTrace t0 (fun r0 => kk (.one (.c (.v (.string r0)))) []) := by kernel_rfl
theorem e_spec_FormatTrace (t0 : List Int) (kk : AV → List A1 → Prop) :
    ev TT cs_spec_FormatTrace 8 an_spec_FormatTrace (Tryd.f10.body.getD .skip) (st0 con_spec_FormatTrace [.c (.ro .int t0)]) (fin TT con_spec_FormatTrace Tryd.f10.results.toList [.c .sc] [.c (.ro .int t0)] kk) = S_spec_FormatTrace t0 (fun r0 => kk (.one (.c (.v (.string r0)))) []) := by
  rw [g_spec_FormatTrace]
  rfl
theorem clok_spec_FormatTrace : ConOK Tryd.prog cl_spec_FormatTrace := consCons h_spec_validTrace ⟨Tryd.f25, Tryd.func25, by kernel_rfl, ne_of_beq (by kernel_rfl)⟩ (consCons h_spec_formatTrace ⟨Tryd.f26, Tryd.func26, by kernel_rfl, ne_of_beq (by kernel_rfl)⟩ (consNil))
theorem cok_spec_FormatTrace : ConsOK Tryd.prog 8 cs_spec_FormatTrace := ⟨clok_spec_FormatTrace, inlNil, ovNil⟩
theorem i_spec_FormatTrace {vs : List A1} {kk : AV → List A1 → Prop} {motive : List A1 → Prop} (h : con_spec_FormatTrace.F vs kk) (H : ∀ (t0 : List Int), F_spec_FormatTrace t0 (fun r0 => kk (.one (.c (.v (.string r0)))) []) → motive [.c (.ro .int t0)]) : motive vs := by
  unfold con_spec_FormatTrace at h
  dsimp only at h
  split at h
  · exact H _ h
  · exact h.elim
theorem h_spec_FormatTrace : Holds Tryd.prog 10 con_spec_FormatTrace := by
  refine holds_of_ev (rt := [.c .sc]) (T := TT) (Γ := cs_spec_FormatTrace) (an := an_spec_FormatTrace) (N := 8) (c := Tryd.f10.body.getD .skip) Tryd.func10 (by kernel_rfl) Tryd.ntmps10 (by decide) (by decide) mixed tabOK cok_spec_FormatTrace (by kernel_rfl) ?_
  intro vs kk _ hF
  exact i_spec_FormatTrace (motive := fun vs => Goes (ev TT cs_spec_FormatTrace 8 an_spec_FormatTrace (Tryd.f10.body.getD .skip) (st0 con_spec_FormatTrace vs) (fin TT con_spec_FormatTrace Tryd.f10.results.toList [.c .sc] vs kk))) hF (fun t0 hF => goes_of (e_spec_FormatTrace t0 kk) (F_spec_FormatTrace_S hF))
def con_impl_validKey : Con := ⟨[.rd], true, [.c (.sc)], fun vs k => match vs with
    | [.c (.v (.int .i64 key0))] => F_impl_validKey key0 (fun r0 => k (.one (.c (.v (.bool r0)))) [])
    | _ => False, false⟩
def cl_impl_validKey : List (FuncId × Con) := []
def an_impl_validKey : Ann := ⟨[], [], [], []⟩
def cs_impl_validKey : Cons := ⟨cl_impl_validKey, [], 0, [], [], []⟩
def fin_impl_validKey (key0 : Int) (kk : AV → List A1 → Prop) : Kt := fin TT con_impl_validKey Tryd.f34.results.toList [.c .sc] [.c (.v (.int .i64 key0))] kk
theorem g_impl_validKey (key0 : Int) (kk : AV → List A1 → Prop) :
    ev TT cs_impl_validKey 9 an_impl_validKey (Tryd.f34.body.getD .skip) (st0 con_impl_validKey [.c (.v (.int .i64 key0))]) (fin TT con_impl_validKey Tryd.f34.results.toList [.c .sc] [.c (.v (.int .i64 key0))] kk) = G_impl_validKey key0 (fun r0 => kk (.one (.c (.v (.bool r0)))) []) := by kernel_rfl
theorem e_impl_validKey (key0 : Int) (kk : AV → List A1 → Prop) :
    ev TT cs_impl_validKey 9 an_impl_validKey (Tryd.f34.body.getD .skip) (st0 con_impl_validKey [.c (.v (.int .i64 key0))]) (fin TT con_impl_validKey Tryd.f34.results.toList [.c .sc] [.c (.v (.int .i64 key0))] kk) = S_impl_validKey key0 (fun r0 => kk (.one (.c (.v (.bool r0)))) []) := by
  rw [g_impl_validKey]
  rfl
theorem clok_impl_validKey : ConOK Tryd.prog cl_impl_validKey := consNil
theorem cok_impl_validKey : ConsOK Tryd.prog 9 cs_impl_validKey := ⟨clok_impl_validKey, inlNil, ovNil⟩
theorem i_impl_validKey {vs : List A1} {kk : AV → List A1 → Prop} {motive : List A1 → Prop} (h : con_impl_validKey.F vs kk) (H : ∀ (key0 : Int), F_impl_validKey key0 (fun r0 => kk (.one (.c (.v (.bool r0)))) []) → motive [.c (.v (.int .i64 key0))]) : motive vs := by
  unfold con_impl_validKey at h
  dsimp only at h
  split at h
  · exact H _ h
  · exact h.elim
theorem h_impl_validKey : Holds Tryd.prog 34 con_impl_validKey := by
  refine holds_of_ev (rt := [.c .sc]) (T := TT) (Γ := cs_impl_validKey) (an := an_impl_validKey) (N := 9) (c := Tryd.f34.body.getD .skip) Tryd.func34 (by kernel_rfl) Tryd.ntmps34 (by decide) (by decide) mixed tabOK cok_impl_validKey (by kernel_rfl) ?_
  intro vs kk _ hF
  exact i_impl_validKey (motive := fun vs => Goes (ev TT cs_impl_validKey 9 an_impl_validKey (Tryd.f34.body.getD .skip) (st0 con_impl_validKey vs) (fin TT con_impl_validKey Tryd.f34.results.toList [.c .sc] vs kk))) hF (fun key0 hF => goes_of (e_impl_validKey key0 kk) (F_impl_validKey_S hF))
def con_impl_ValidTrace : Con := ⟨[.rd], true, [.c (.sl .int)], fun vs k => match vs with
    | [.c (.ro .int t0)] => F_impl_ValidTrace t0 (fun r0 => k (.one (.c (.v (.bool r0)))) [])
    | _ => False, false⟩
def cl_impl_ValidTrace : List (FuncId × Con) := [(34, con_impl_validKey)]
def nm0_impl_ValidTrace : List NStep := [.keep [8, 9, 10] []]
def an_impl_ValidTrace : Ann := ⟨[], [(4, nm0_impl_ValidTrace)], [], []⟩
def cs_impl_ValidTrace : Cons := ⟨cl_impl_ValidTrace, [], 0, [], [], []⟩
def can0_impl_ValidTrace (t0 : List Int) (xt9 : Int) (xt10 : Int) : St := ⟨[(8, .one (.c (.ro .int t0))), (9, .one (.c (.v (.int .i64 xt9)))), (10, .one (.c (.v (.int .i64 xt10))))], []⟩
def fin_impl_ValidTrace (t0 : List Int) (kk : AV → List A1 → Prop) : Kt := fin TT con_impl_ValidTrace Tryd.f15.results.toList [.c .sc] [.c (.ro .int t0)] kk
def kt0_impl_ValidTrace (kf : Kt) : Kt := blockK 0 (seqK (evF TT cs_impl_ValidTrace 18 an_impl_ValidTrace Tryd.f15 [1, 1, 1]) (kf))
theorem r0_impl_ValidTrace (t0 : List Int) (xt9 : Int) (kk : AV → List A1 → Prop) (n : Nat) (xt10 : Int) :
    iter (evF TT cs_impl_ValidTrace 18 an_impl_ValidTrace Tryd.f15 [1, 1, 0, 1, 0, 0]) nm0_impl_ValidTrace (kt0_impl_ValidTrace (fin_impl_ValidTrace t0 kk)) (n + 1) (can0_impl_ValidTrace t0 xt9 xt10) = T0_impl_ValidTrace t0 xt9 xt10 (fun r0 => kk (.one (.c (.v (.bool r0)))) []) (fun xt10 => iter (evF TT cs_impl_ValidTrace 18 an_impl_ValidTrace Tryd.f15 [1, 1, 0, 1, 0, 0]) nm0_impl_ValidTrace (kt0_impl_ValidTrace (fin_impl_ValidTrace t0 kk)) n (can0_impl_ValidTrace t0 xt9 xt10)) := by kernel_rfl
theorem l0_impl_ValidTrace (t0 : List Int) (xt9 : Int) (kk : AV → List A1 → Prop) : ∀ (n : Nat) (xt10 : Int), iter (evF TT cs_impl_ValidTrace 18 an_impl_ValidTrace Tryd.f15 [1, 1, 0, 1, 0, 0]) nm0_impl_ValidTrace (kt0_impl_ValidTrace (fin_impl_ValidTrace t0 kk)) n (can0_impl_ValidTrace t0 xt9 xt10) = L0_impl_ValidTrace t0 xt9 (fun r0 => kk (.one (.c (.v (.bool r0)))) []) n xt10 := by
  intro n
  induction n with
  | zero => intros; rfl
  | succ n ih =>
    intro xt10
    rw [r0_impl_ValidTrace t0 xt9 kk n xt10]
    have hb : (fun xt10 => iter (evF TT cs_impl_ValidTrace 18 an_impl_ValidTrace Tryd.f15 [1, 1, 0, 1, 0, 0]) nm0_impl_ValidTrace (kt0_impl_ValidTrace (fin_impl_ValidTrace t0 kk)) n (can0_impl_ValidTrace t0 xt9 xt10)) = L0_impl_ValidTrace t0 xt9 (fun r0 => kk (.one (.c (.v (.bool r0)))) []) n := by
      funext xt10; exact ih xt10
    rw [hb]
    rfl
theorem g_impl_ValidTrace (t0 : List Int) (kk : AV → List A1 → Prop) :
    ev TT cs_impl_ValidTrace 18 an_impl_ValidTrace (Tryd.f15.body.getD .skip) (st0 con_impl_ValidTrace [.c (.ro .int t0)]) (fin TT con_impl_ValidTrace Tryd.f15.results.toList [.c .sc] [.c (.ro .int t0)] kk) = G_impl_ValidTrace t0 (fun r0 => kk (.one (.c (.v (.bool r0)))) []) (fun t0 xt9 xt10 => ∃ j, iter (evF TT cs_impl_ValidTrace 18 an_impl_ValidTrace Tryd.f15 [1, 1, 0, 1, 0, 0]) nm0_impl_ValidTrace (kt0_impl_ValidTrace (fin_impl_ValidTrace t0 kk)) j (can0_impl_ValidTrace t0 xt9 xt10)) := by kernel_rfl
theorem e_impl_ValidTrace (t0 : List Int) (kk : AV → List A1 → Prop) :
    ev TT cs_impl_ValidTrace 18 an_impl_ValidTrace (Tryd.f15.body.getD .skip) (st0 con_impl_ValidTrace [.c (.ro .int t0)]) (fin TT con_impl_ValidTrace Tryd.f15.results.toList [.c .sc] [.c (.ro .int t0)] kk) = S_impl_ValidTrace t0 (fun r0 => kk (.one (.c (.v (.bool r0)))) []) := by
  rw [g_impl_ValidTrace]
  have hi0 : (fun t0 xt9 xt10 => ∃ j, iter (evF TT cs_impl_ValidTrace 18 an_impl_ValidTrace Tryd.f15 [1, 1, 0, 1, 0, 0]) nm0_impl_ValidTrace (kt0_impl_ValidTrace (fin_impl_ValidTrace t0 kk)) j (can0_impl_ValidTrace t0 xt9 xt10)) = (fun t0 xt9 xt10 => ∃ j, L0_impl_ValidTrace t0 xt9 (fun r0 => kk (.one (.c (.v (.bool r0)))) []) j xt10) := by
    funext t0 xt9 xt10
    refine congrArg Exists (funext fun j => ?_)
    rw [l0_impl_ValidTrace t0 xt9 kk j xt10]
  rw [hi0]
  rfl
theorem clok_impl_ValidTrace : ConOK Tryd.prog cl_impl_ValidTrace := consCons h_impl_validKey ⟨Tryd.f34, Tryd.func34, by kernel_rfl, ne_of_beq (by kernel_rfl)⟩ (consNil)
theorem cok_impl_ValidTrace : ConsOK Tryd.prog 18 cs_impl_ValidTrace := ⟨clok_impl_ValidTrace, inlNil, ovNil⟩
theorem i_impl_ValidTrace {vs : List A1} {kk : AV → List A1 → Prop} {motive : List A1 → Prop} (h : con_impl_ValidTrace.F vs kk) (H : ∀ (t0 : List Int), F_impl_ValidTrace t0 (fun r0 => kk (.one (.c (.v (.bool r0)))) []) → motive [.c (.ro .int t0)]) : motive vs := by
  unfold con_impl_ValidTrace at h
  dsimp only at h
  split at h
  · exact H _ h
  · exact h.elim
theorem h_impl_ValidTrace : Holds Tryd.prog 15 con_impl_ValidTrace := by
  refine holds_of_ev (rt := [.c .sc]) (T := TT) (Γ := cs_impl_ValidTrace) (an := an_impl_ValidTrace) (N := 18) (c := Tryd.f15.body.getD .skip) Tryd.func15 (by kernel_rfl) Tryd.ntmps15 (by decide) (by decide) mixed tabOK cok_impl_ValidTrace (by kernel_rfl) ?_
  intro vs kk _ hF
  exact i_impl_ValidTrace (motive := fun vs => Goes (ev TT cs_impl_ValidTrace 18 an_impl_ValidTrace (Tryd.f15.body.getD .skip) (st0 con_impl_ValidTrace vs) (fin TT con_impl_ValidTrace Tryd.f15.results.toList [.c .sc] vs kk))) hF (fun t0 hF => goes_of (e_impl_ValidTrace t0 kk) (F_impl_ValidTrace_S hF))
def con_impl_firstRun : Con := ⟨[.rd], true, [.c (.sl .int)], fun vs k => match vs with
    | [.c (.ro .int t0)] => F_impl_firstRun t0 (fun r0 => k (.one (.c (.v (.int .i64 r0)))) [])
    | _ => False, false⟩
def cl_impl_firstRun : List (FuncId × Con) := []
def nm0_impl_firstRun : List NStep := [.keep [0, 5, 6, 7] []]
def an_impl_firstRun : Ann := ⟨[], [(2, nm0_impl_firstRun)], [], []⟩
def cs_impl_firstRun : Cons := ⟨cl_impl_firstRun, [], 0, [], [], []⟩
def can0_impl_firstRun (t0 : List Int) (xt6 : Int) (xt7 : Int) : St := ⟨[(0, .one (.c (.ro .int t0))), (5, .one (.c (.ro .int t0))), (6, .one (.c (.v (.int .i64 xt6)))), (7, .one (.c (.v (.int .i64 xt7))))], []⟩
def fin_impl_firstRun (t0 : List Int) (kk : AV → List A1 → Prop) : Kt := fin TT con_impl_firstRun Tryd.f22.results.toList [.c .sc] [.c (.ro .int t0)] kk
def kt0_impl_firstRun (kf : Kt) : Kt := blockK 0 (seqK (evF TT cs_impl_firstRun 21 an_impl_firstRun Tryd.f22 [1, 1]) (kf))
theorem r0_impl_firstRun (t0 : List Int) (xt6 : Int) (kk : AV → List A1 → Prop) (n : Nat) (xt7 : Int) :
    iter (evF TT cs_impl_firstRun 21 an_impl_firstRun Tryd.f22 [1, 0, 1, 0, 0]) nm0_impl_firstRun (kt0_impl_firstRun (fin_impl_firstRun t0 kk)) (n + 1) (can0_impl_firstRun t0 xt6 xt7) = T0_impl_firstRun t0 xt6 xt7 (fun r0 => kk (.one (.c (.v (.int .i64 r0)))) []) (fun xt7 => iter (evF TT cs_impl_firstRun 21 an_impl_firstRun Tryd.f22 [1, 0, 1, 0, 0]) nm0_impl_firstRun (kt0_impl_firstRun (fin_impl_firstRun t0 kk)) n (can0_impl_firstRun t0 xt6 xt7)) := by kernel_rfl
theorem l0_impl_firstRun (t0 : List Int) (xt6 : Int) (kk : AV → List A1 → Prop) : ∀ (n : Nat) (xt7 : Int), iter (evF TT cs_impl_firstRun 21 an_impl_firstRun Tryd.f22 [1, 0, 1, 0, 0]) nm0_impl_firstRun (kt0_impl_firstRun (fin_impl_firstRun t0 kk)) n (can0_impl_firstRun t0 xt6 xt7) = L0_impl_firstRun t0 xt6 (fun r0 => kk (.one (.c (.v (.int .i64 r0)))) []) n xt7 := by
  intro n
  induction n with
  | zero => intros; rfl
  | succ n ih =>
    intro xt7
    rw [r0_impl_firstRun t0 xt6 kk n xt7]
    have hb : (fun xt7 => iter (evF TT cs_impl_firstRun 21 an_impl_firstRun Tryd.f22 [1, 0, 1, 0, 0]) nm0_impl_firstRun (kt0_impl_firstRun (fin_impl_firstRun t0 kk)) n (can0_impl_firstRun t0 xt6 xt7)) = L0_impl_firstRun t0 xt6 (fun r0 => kk (.one (.c (.v (.int .i64 r0)))) []) n := by
      funext xt7; exact ih xt7
    rw [hb]
    rfl
theorem g_impl_firstRun (t0 : List Int) (kk : AV → List A1 → Prop) :
    ev TT cs_impl_firstRun 21 an_impl_firstRun (Tryd.f22.body.getD .skip) (st0 con_impl_firstRun [.c (.ro .int t0)]) (fin TT con_impl_firstRun Tryd.f22.results.toList [.c .sc] [.c (.ro .int t0)] kk) = G_impl_firstRun t0 (fun t0 xt6 xt7 => ∃ j, iter (evF TT cs_impl_firstRun 21 an_impl_firstRun Tryd.f22 [1, 0, 1, 0, 0]) nm0_impl_firstRun (kt0_impl_firstRun (fin_impl_firstRun t0 kk)) j (can0_impl_firstRun t0 xt6 xt7)) := by kernel_rfl
theorem e_impl_firstRun (t0 : List Int) (kk : AV → List A1 → Prop) :
    ev TT cs_impl_firstRun 21 an_impl_firstRun (Tryd.f22.body.getD .skip) (st0 con_impl_firstRun [.c (.ro .int t0)]) (fin TT con_impl_firstRun Tryd.f22.results.toList [.c .sc] [.c (.ro .int t0)] kk) = S_impl_firstRun t0 (fun r0 => kk (.one (.c (.v (.int .i64 r0)))) []) := by
  rw [g_impl_firstRun]
  have hi0 : (fun t0 xt6 xt7 => ∃ j, iter (evF TT cs_impl_firstRun 21 an_impl_firstRun Tryd.f22 [1, 0, 1, 0, 0]) nm0_impl_firstRun (kt0_impl_firstRun (fin_impl_firstRun t0 kk)) j (can0_impl_firstRun t0 xt6 xt7)) = (fun t0 xt6 xt7 => ∃ j, L0_impl_firstRun t0 xt6 (fun r0 => kk (.one (.c (.v (.int .i64 r0)))) []) j xt7) := by
    funext t0 xt6 xt7
    refine congrArg Exists (funext fun j => ?_)
    rw [l0_impl_firstRun t0 xt6 kk j xt7]
  rw [hi0]
  rfl
theorem clok_impl_firstRun : ConOK Tryd.prog cl_impl_firstRun := consNil
theorem cok_impl_firstRun : ConsOK Tryd.prog 21 cs_impl_firstRun := ⟨clok_impl_firstRun, inlNil, ovNil⟩
theorem i_impl_firstRun {vs : List A1} {kk : AV → List A1 → Prop} {motive : List A1 → Prop} (h : con_impl_firstRun.F vs kk) (H : ∀ (t0 : List Int), F_impl_firstRun t0 (fun r0 => kk (.one (.c (.v (.int .i64 r0)))) []) → motive [.c (.ro .int t0)]) : motive vs := by
  unfold con_impl_firstRun at h
  dsimp only at h
  split at h
  · exact H _ h
  · exact h.elim
theorem h_impl_firstRun : Holds Tryd.prog 22 con_impl_firstRun := by
  refine holds_of_ev (rt := [.c .sc]) (T := TT) (Γ := cs_impl_firstRun) (an := an_impl_firstRun) (N := 21) (c := Tryd.f22.body.getD .skip) Tryd.func22 (by kernel_rfl) Tryd.ntmps22 (by decide) (by decide) mixed tabOK cok_impl_firstRun (by kernel_rfl) ?_
  intro vs kk _ hF
  exact i_impl_firstRun (motive := fun vs => Goes (ev TT cs_impl_firstRun 21 an_impl_firstRun (Tryd.f22.body.getD .skip) (st0 con_impl_firstRun vs) (fin TT con_impl_firstRun Tryd.f22.results.toList [.c .sc] vs kk))) hF (fun t0 hF => goes_of (e_impl_firstRun t0 kk) (F_impl_firstRun_S hF))
def con_strconv_Itoa : Con := ⟨[.rd], true, [.c (.sc)], fun vs k => match vs with
    | [.c (.v (.int .i64 n0))] => F_strconv_Itoa n0 (fun r0 => k (.one (.c (.v (.string r0)))) [])
    | _ => False, false⟩
theorem dig_dec : ∀ (f n : Nat), n < f → n ≤ 9999 → Lib.decDigits n = (decB (n : Int)).map (fun x => UInt8.ofNat x.toNat)
  | 0, n, h, _ => by omega
  | f + 1, n, h, h2 => by
    rw [Lib.decDigits]
    split
    · rename_i c
      rw [decB_small (by omega) (by omega), List.map_singleton, show (48 + (n : Int)).toNat = 48 + n by omega]
    · rename_i c
      rw [decB_big (by omega) (by omega), List.map_append, List.map_singleton, show (n : Int) / 10 = ((n / 10 : Nat) : Int) by omega, ← dig_dec f (n / 10) (by omega) (by omega)]
      congr 3
theorem h_strconv_Itoa : Holds Tryd.prog 37 con_strconv_Itoa := by
  refine holds_plain rfl fun vs kk hF w vals S μ hlen hG hv => ?_
  clear hlen
  unfold con_strconv_Itoa at hF
  dsimp only at hF
  split at hF
  · rename_i n
    obtain ⟨⟨h0, h1⟩, hk⟩ := hF
    obtain ⟨i, rfl⟩ : ∃ i : Nat, n = i := ⟨n.toNat, by omega⟩
    match vals, hv with
    | [y], hv =>
      obtain ⟨hy, _⟩ := hv
      have hy : y = .int .i64 (i : Int) := hy
      subst hy
      refine (Tryd.strconv_Itoa_small i (by omega) w).mono ?_
      rintro e w' ⟨rfl, rfl⟩
      refine ⟨_, _, hk, ?_, Fr.refl _ _, fun _ => rfl, fun _ _ _ => rfl⟩
      rw [dig_dec (i + 1) i (by omega) (by omega)]; rfl
  · exact hF.elim
def con_impl_runWord : Con := ⟨[.rd, .rd], true, [.c (.sc), .c (.sc)], fun vs k => match vs with
    | [.c (.v (.int .i64 key0)), .c (.v (.int .i64 count1))] => F_impl_runWord key0 count1 (fun r0 => k (.one (.c (.v (.string r0)))) [])
    | _ => False, false⟩
def cl_impl_runWord : List (FuncId × Con) := [(37, con_strconv_Itoa)]
def an_impl_runWord : Ann := ⟨[], [], [], []⟩
def cs_impl_runWord : Cons := ⟨cl_impl_runWord, [], 0, [], [], []⟩
def fin_impl_runWord (key0 : Int) (count1 : Int) (kk : AV → List A1 → Prop) : Kt := fin TT con_impl_runWord Tryd.f23.results.toList [.c .sc] [.c (.v (.int .i64 key0)), .c (.v (.int .i64 count1))] kk
theorem g_impl_runWord (key0 : Int) (count1 : Int) (kk : AV → List A1 → Prop) :
    ev TT cs_impl_runWord 15 an_impl_runWord (Tryd.f23.body.getD .skip) (st0 con_impl_runWord [.c (.v (.int .i64 key0)), .c (.v (.int .i64 count1))]) (fin TT con_impl_runWord Tryd.f23.results.toList [.c .sc] [.c (.v (.int .i64 key0)), .c (.v (.int .i64 count1))] kk) = G_impl_runWord key0 count1 (fun r0 => kk (.one (.c (.v (.string r0)))) []) := by kernel_rfl
theorem e_impl_runWord (key0 : Int) (count1 : Int) (kk : AV → List A1 → Prop) :
    ev TT cs_impl_runWord 15 an_impl_runWord (Tryd.f23.body.getD .skip) (st0 con_impl_runWord [.c (.v (.int .i64 key0)), .c (.v (.int .i64 count1))]) (fin TT con_impl_runWord Tryd.f23.results.toList [.c .sc] [.c (.v (.int .i64 key0)), .c (.v (.int .i64 count1))] kk) = S_impl_runWord key0 count1 (fun r0 => kk (.one (.c (.v (.string r0)))) []) := by
  rw [g_impl_runWord]
  rfl
theorem clok_impl_runWord : ConOK Tryd.prog cl_impl_runWord := consCons h_strconv_Itoa ⟨Tryd.f37, Tryd.func37, by kernel_rfl, ne_of_beq (by kernel_rfl)⟩ (consNil)
theorem cok_impl_runWord : ConsOK Tryd.prog 15 cs_impl_runWord := ⟨clok_impl_runWord, inlNil, ovNil⟩
theorem i_impl_runWord {vs : List A1} {kk : AV → List A1 → Prop} {motive : List A1 → Prop} (h : con_impl_runWord.F vs kk) (H : ∀ (key0 : Int) (count1 : Int), F_impl_runWord key0 count1 (fun r0 => kk (.one (.c (.v (.string r0)))) []) → motive [.c (.v (.int .i64 key0)), .c (.v (.int .i64 count1))]) : motive vs := by
  unfold con_impl_runWord at h
  dsimp only at h
  split at h
  · exact H _ _ h
  · exact h.elim
theorem h_impl_runWord : Holds Tryd.prog 23 con_impl_runWord := by
  refine holds_of_ev (rt := [.c .sc]) (T := TT) (Γ := cs_impl_runWord) (an := an_impl_runWord) (N := 15) (c := Tryd.f23.body.getD .skip) Tryd.func23 (by kernel_rfl) Tryd.ntmps23 (by decide) (by decide) mixed tabOK cok_impl_runWord (by kernel_rfl) ?_
  intro vs kk _ hF
  exact i_impl_runWord (motive := fun vs => Goes (ev TT cs_impl_runWord 15 an_impl_runWord (Tryd.f23.body.getD .skip) (st0 con_impl_runWord vs) (fin TT con_impl_runWord Tryd.f23.results.toList [.c .sc] vs kk))) hF (fun key0 count1 hF => goes_of (e_impl_runWord key0 count1 kk) (F_impl_runWord_S hF))
def con_strings_Join : Con := ⟨[.rd, .rd], true, [.c (.sl .str), .c (.sc)], fun vs k => match vs with
    | [.c (.ro .str xs0), .c (.v (.string s1))] => F_strings_Join xs0 s1 (fun r0 => k (.one (.c (.v (.string r0)))) [])
    | _ => False, false⟩
theorem str_list (a : List Int) : (strOfNums a).data.toList = a.map (fun x => UInt8.ofNat x.toNat) := by rw [str_data]
theorem join_list (s : List Int) : ∀ W : List (List Int), Lib.join ((W.map strOfNums).map (·.data.toList)) (strOfNums s).data.toList = (joinB s W).map (fun x => UInt8.ofNat x.toNat)
  | [] => rfl
  | [x] => by rw [List.map_singleton, List.map_singleton, Lib.join_one, str_list]; rfl
  | x :: y :: r => by
    have ih := join_list s (y :: r)
    rw [List.map_cons, List.map_cons] at ih
    rw [Lib.join_cons] at ih
    rw [List.map_cons, List.map_cons, Lib.join_cons, List.map_cons, List.map_cons, joinB, List.map_append, List.map_append, ← ih, Lib.joinTail, List.map_cons, List.flatten_cons, ← Lib.joinTail, str_list x, str_list s]
    simp only [List.append_assoc]
theorem h_strings_Join : Holds Tryd.prog 24 con_strings_Join := by
  refine holds_plain rfl fun vs kk hF w vals S μ hlen hG hv => ?_
  clear hlen
  unfold con_strings_Join at hF
  dsimp only at hF
  split at hF
  · rename_i xs sep
    obtain ⟨W, s, ⟨rfl, rfl, hW, hJ⟩, hk⟩ := hF
    match vals, hv with
    | [y, z], hv =>
      obtain ⟨hy, hz, _⟩ := hv
      have hz : z = .string (strOfNums s) := hz
      subst hz
      obtain ⟨A, n, c, rfl, ⟨rfl, hn1, hn2, hro⟩, _⟩ := hy
      have out : ∀ v, v = .string (strOfNums (joinB s W)) → ∃ r v', kk r [] ∧ (Ending.returned v = .returned v') ∧ (∀ kd, instR con_strings_Join.fresh kd r = (r, [])) ∧ ∀ S μ w', RA S μ w' r v' := fun v e => ⟨_, v, hk, rfl, fun _ => rfl, fun _ _ _ => e⟩
      cases W with
      | nil =>
        refine (Tryd.strings_Join_none A c (strOfNums s) w).mono ?_
        rintro e w' ⟨rfl, rfl⟩
        obtain ⟨r, v', h1, h2, h3, h4⟩ := out (.string ⟨#[]⟩) rfl
        exact ⟨r, v', h1, h2, Fr.refl _ _, h3, h4⟩
      | cons x r =>
        rcases hro with ⟨_, hc⟩ | ⟨a, rfl, hcell⟩
        · subst hc; simp at hn1
        · obtain ⟨b, o, e, hc2⟩ := hcell (by simp)
          clear hcell
          subst e
          have hcell : ∀ (j : Nat) x', ((x :: r).map strOfNums)[j]? = some x' → w.cell? ⟨b, o + j, none⟩ = some (.string x') := fun j x' hx => by
            have := hc2 j x' hx 0 (.string x') rfl
            simpa [Ty.sz] using this
          have hb : b < w.heap.size := cell_lt (hcell 0 (strOfNums x) rfl)
          refine (Tryd.strings_Join b o c ((x :: r).map strOfNums) (strOfNums s) w hcell hb (by rw [List.length_map]; omega) hn1 (by rw [join_list, List.length_map]; omega)).mono ?_
          rintro e w' ⟨rfl, hbel⟩
          obtain ⟨r', v', h1, h2, h3, h4⟩ := out (.string ⟨(Lib.join (((x :: r).map strOfNums).map (·.data.toList)) (strOfNums s).data.toList).toArray⟩) (by rw [join_list]; rfl)
          exact ⟨r', v', h1, h2, Fr.of_below hbel, h3, h4⟩
  · exact hF.elim
def con_impl_FormatTrace : Con := ⟨[.rd], true, [.c (.sl .int)], fun vs k => match vs with
    | [.c (.ro .int t0)] => F_impl_FormatTrace t0 (fun r0 => k (.one (.c (.v (.string r0)))) [])
    | _ => False, false⟩
def cl_impl_FormatTrace : List (FuncId × Con) := [(15, con_impl_ValidTrace), (22, con_impl_firstRun), (23, con_impl_runWord), (24, con_strings_Join)]
def nm0_impl_FormatTrace : List NStep := [.own 3 .str 90000, .keep [3, 4] [90000]]
def an_impl_FormatTrace : Ann := ⟨[], [(5, nm0_impl_FormatTrace)], [], []⟩
def cs_impl_FormatTrace : Cons := ⟨cl_impl_FormatTrace, [], 0, [], [], []⟩
def can0_impl_FormatTrace (xleft4 : List Int) (xwords3 : List ByteArray) : St := ⟨[(3, .one (.c (.ow 90000))), (4, .one (.c (.ro .int xleft4)))], [(90000, .row .str xwords3)]⟩
def fin_impl_FormatTrace (t0 : List Int) (kk : AV → List A1 → Prop) : Kt := fin TT con_impl_FormatTrace Tryd.f9.results.toList [.c .sc] [.c (.ro .int t0)] kk
def kt0_impl_FormatTrace (kf : Kt) : Kt := blockK 0 (seqK (evF TT cs_impl_FormatTrace 29 an_impl_FormatTrace Tryd.f9 [1, 1, 1, 1]) (kf))
theorem r0_impl_FormatTrace (t0 : List Int) (kk : AV → List A1 → Prop) (n : Nat) (xleft4 : List Int) (xwords3 : List ByteArray) :
    iter (evF TT cs_impl_FormatTrace 29 an_impl_FormatTrace Tryd.f9 [1, 1, 1, 0, 1, 0, 0]) nm0_impl_FormatTrace (kt0_impl_FormatTrace (fin_impl_FormatTrace t0 kk)) (n + 1) (can0_impl_FormatTrace xleft4 xwords3) = T0_impl_FormatTrace xleft4 xwords3 (fun r0 => kk (.one (.c (.v (.string r0)))) []) (fun xleft4 xwords3 => iter (evF TT cs_impl_FormatTrace 29 an_impl_FormatTrace Tryd.f9 [1, 1, 1, 0, 1, 0, 0]) nm0_impl_FormatTrace (kt0_impl_FormatTrace (fin_impl_FormatTrace t0 kk)) n (can0_impl_FormatTrace xleft4 xwords3)) := by kernel_rfl
theorem l0_impl_FormatTrace (t0 : List Int) (kk : AV → List A1 → Prop) : ∀ (n : Nat) (xleft4 : List Int) (xwords3 : List ByteArray), iter (evF TT cs_impl_FormatTrace 29 an_impl_FormatTrace Tryd.f9 [1, 1, 1, 0, 1, 0, 0]) nm0_impl_FormatTrace (kt0_impl_FormatTrace (fin_impl_FormatTrace t0 kk)) n (can0_impl_FormatTrace xleft4 xwords3) = L0_impl_FormatTrace (fun r0 => kk (.one (.c (.v (.string r0)))) []) n xleft4 xwords3 := by
  intro n
  induction n with
  | zero => intros; rfl
  | succ n ih =>
    intro xleft4 xwords3
    rw [r0_impl_FormatTrace t0 kk n xleft4 xwords3]
    have hb : (fun xleft4 xwords3 => iter (evF TT cs_impl_FormatTrace 29 an_impl_FormatTrace Tryd.f9 [1, 1, 1, 0, 1, 0, 0]) nm0_impl_FormatTrace (kt0_impl_FormatTrace (fin_impl_FormatTrace t0 kk)) n (can0_impl_FormatTrace xleft4 xwords3)) = L0_impl_FormatTrace (fun r0 => kk (.one (.c (.v (.string r0)))) []) n := by
      funext xleft4 xwords3; exact ih xleft4 xwords3
    rw [hb]
    rfl
theorem g_impl_FormatTrace (t0 : List Int) (kk : AV → List A1 → Prop) :
    ev TT cs_impl_FormatTrace 29 an_impl_FormatTrace (Tryd.f9.body.getD .skip) (st0 con_impl_FormatTrace [.c (.ro .int t0)]) (fin TT con_impl_FormatTrace Tryd.f9.results.toList [.c .sc] [.c (.ro .int t0)] kk) = G_impl_FormatTrace t0 (fun r0 => kk (.one (.c (.v (.string r0)))) []) (fun xleft4 xwords3 => ∃ j, iter (evF TT cs_impl_FormatTrace 29 an_impl_FormatTrace Tryd.f9 [1, 1, 1, 0, 1, 0, 0]) nm0_impl_FormatTrace (kt0_impl_FormatTrace (fin_impl_FormatTrace t0 kk)) j (can0_impl_FormatTrace xleft4 xwords3)) := by kernel_rfl
theorem e_impl_FormatTrace (t0 : List Int) (kk : AV → List A1 → Prop) :
    ev TT cs_impl_FormatTrace 29 an_impl_FormatTrace (Tryd.f9.body.getD .skip) (st0 con_impl_FormatTrace [.c (.ro .int t0)]) (fin TT con_impl_FormatTrace Tryd.f9.results.toList [.c .sc] [.c (.ro .int t0)] kk) = S_impl_FormatTrace t0 (fun r0 => kk (.one (.c (.v (.string r0)))) []) := by
  rw [g_impl_FormatTrace]
  have hi0 : (fun xleft4 xwords3 => ∃ j, iter (evF TT cs_impl_FormatTrace 29 an_impl_FormatTrace Tryd.f9 [1, 1, 1, 0, 1, 0, 0]) nm0_impl_FormatTrace (kt0_impl_FormatTrace (fin_impl_FormatTrace t0 kk)) j (can0_impl_FormatTrace xleft4 xwords3)) = (fun xleft4 xwords3 => ∃ j, L0_impl_FormatTrace (fun r0 => kk (.one (.c (.v (.string r0)))) []) j xleft4 xwords3) := by
    funext xleft4 xwords3
    refine congrArg Exists (funext fun j => ?_)
    rw [l0_impl_FormatTrace t0 kk j xleft4 xwords3]
  rw [hi0]
  rfl
theorem clok_impl_FormatTrace : ConOK Tryd.prog cl_impl_FormatTrace := consCons h_impl_ValidTrace ⟨Tryd.f15, Tryd.func15, by kernel_rfl, ne_of_beq (by kernel_rfl)⟩ (consCons h_impl_firstRun ⟨Tryd.f22, Tryd.func22, by kernel_rfl, ne_of_beq (by kernel_rfl)⟩ (consCons h_impl_runWord ⟨Tryd.f23, Tryd.func23, by kernel_rfl, ne_of_beq (by kernel_rfl)⟩ (consCons h_strings_Join ⟨Tryd.f24, Tryd.func24, by kernel_rfl, ne_of_beq (by kernel_rfl)⟩ (consNil))))
theorem cok_impl_FormatTrace : ConsOK Tryd.prog 29 cs_impl_FormatTrace := ⟨clok_impl_FormatTrace, inlNil, ovNil⟩
theorem i_impl_FormatTrace {vs : List A1} {kk : AV → List A1 → Prop} {motive : List A1 → Prop} (h : con_impl_FormatTrace.F vs kk) (H : ∀ (t0 : List Int), F_impl_FormatTrace t0 (fun r0 => kk (.one (.c (.v (.string r0)))) []) → motive [.c (.ro .int t0)]) : motive vs := by
  unfold con_impl_FormatTrace at h
  dsimp only at h
  split at h
  · exact H _ h
  · exact h.elim
theorem h_impl_FormatTrace : Holds Tryd.prog 9 con_impl_FormatTrace := by
  refine holds_of_ev (rt := [.c .sc]) (T := TT) (Γ := cs_impl_FormatTrace) (an := an_impl_FormatTrace) (N := 29) (c := Tryd.f9.body.getD .skip) Tryd.func9 (by kernel_rfl) Tryd.ntmps9 (by decide) (by decide) mixed tabOK cok_impl_FormatTrace (by kernel_rfl) ?_
  intro vs kk _ hF
  exact i_impl_FormatTrace (motive := fun vs => Goes (ev TT cs_impl_FormatTrace 29 an_impl_FormatTrace (Tryd.f9.body.getD .skip) (st0 con_impl_FormatTrace vs) (fin TT con_impl_FormatTrace Tryd.f9.results.toList [.c .sc] vs kk))) hF (fun t0 hF => goes_of (e_impl_FormatTrace t0 kk) (F_impl_FormatTrace_S hF))
def con_laws_eqIntS : Con := ⟨[.rd, .rd], true, [.c (.sl .int), .c (.sl .int)], fun vs k => match vs with
    | [.c (.ro .int a0), .c (.ro .int b1)] => F_laws_eqIntS a0 b1 (fun r0 => k (.one (.c (.v (.bool r0)))) [])
    | _ => False, false⟩
def cl_laws_eqIntS : List (FuncId × Con) := []
def nm0_laws_eqIntS : List NStep := [.keep [0, 1, 5] []]
def an_laws_eqIntS : Ann := ⟨[(6, .take 0 (.take 1 (.take 2 (.take 3 (.take 4 (.take 5 (.take 6 (.take 7 (.take 8 (.done))))))))), [])], [(4, nm0_laws_eqIntS)], [], []⟩
def cs_laws_eqIntS : Cons := ⟨cl_laws_eqIntS, [], 0, [], [], []⟩
def can0_laws_eqIntS (a0 : List Int) (b1 : List Int) (xi5 : Int) : St := ⟨[(0, .one (.c (.ro .int a0))), (1, .one (.c (.ro .int b1))), (5, .one (.c (.v (.int .i64 xi5))))], []⟩
def fin_laws_eqIntS (a0 : List Int) (b1 : List Int) (kk : AV → List A1 → Prop) : Kt := fin TT con_laws_eqIntS Tryd.f17.results.toList [.c .sc] [.c (.ro .int a0), .c (.ro .int b1)] kk
def kt0_laws_eqIntS (kf : Kt) : Kt := blockK 0 (seqK (evF TT cs_laws_eqIntS 26 an_laws_eqIntS Tryd.f17 [1, 1, 1]) (kf))
theorem r0_laws_eqIntS (a0 : List Int) (b1 : List Int) (kk : AV → List A1 → Prop) (n : Nat) (xi5 : Int) :
    iter (evF TT cs_laws_eqIntS 26 an_laws_eqIntS Tryd.f17 [1, 1, 0, 1, 0, 0]) nm0_laws_eqIntS (kt0_laws_eqIntS (fin_laws_eqIntS a0 b1 kk)) (n + 1) (can0_laws_eqIntS a0 b1 xi5) = T0_laws_eqIntS a0 b1 xi5 (fun r0 => kk (.one (.c (.v (.bool r0)))) []) (fun xi5 => iter (evF TT cs_laws_eqIntS 26 an_laws_eqIntS Tryd.f17 [1, 1, 0, 1, 0, 0]) nm0_laws_eqIntS (kt0_laws_eqIntS (fin_laws_eqIntS a0 b1 kk)) n (can0_laws_eqIntS a0 b1 xi5)) := by kernel_rfl
theorem l0_laws_eqIntS (a0 : List Int) (b1 : List Int) (kk : AV → List A1 → Prop) : ∀ (n : Nat) (xi5 : Int), iter (evF TT cs_laws_eqIntS 26 an_laws_eqIntS Tryd.f17 [1, 1, 0, 1, 0, 0]) nm0_laws_eqIntS (kt0_laws_eqIntS (fin_laws_eqIntS a0 b1 kk)) n (can0_laws_eqIntS a0 b1 xi5) = L0_laws_eqIntS a0 b1 (fun r0 => kk (.one (.c (.v (.bool r0)))) []) n xi5 := by
  intro n
  induction n with
  | zero => intros; rfl
  | succ n ih =>
    intro xi5
    rw [r0_laws_eqIntS a0 b1 kk n xi5]
    have hb : (fun xi5 => iter (evF TT cs_laws_eqIntS 26 an_laws_eqIntS Tryd.f17 [1, 1, 0, 1, 0, 0]) nm0_laws_eqIntS (kt0_laws_eqIntS (fin_laws_eqIntS a0 b1 kk)) n (can0_laws_eqIntS a0 b1 xi5)) = L0_laws_eqIntS a0 b1 (fun r0 => kk (.one (.c (.v (.bool r0)))) []) n := by
      funext xi5; exact ih xi5
    rw [hb]
    rfl
theorem g_laws_eqIntS (a0 : List Int) (b1 : List Int) (kk : AV → List A1 → Prop) :
    ev TT cs_laws_eqIntS 26 an_laws_eqIntS (Tryd.f17.body.getD .skip) (st0 con_laws_eqIntS [.c (.ro .int a0), .c (.ro .int b1)]) (fin TT con_laws_eqIntS Tryd.f17.results.toList [.c .sc] [.c (.ro .int a0), .c (.ro .int b1)] kk) = G_laws_eqIntS a0 b1 (fun r0 => kk (.one (.c (.v (.bool r0)))) []) (fun a0 b1 xi5 => ∃ j, iter (evF TT cs_laws_eqIntS 26 an_laws_eqIntS Tryd.f17 [1, 1, 0, 1, 0, 0]) nm0_laws_eqIntS (kt0_laws_eqIntS (fin_laws_eqIntS a0 b1 kk)) j (can0_laws_eqIntS a0 b1 xi5)) := by kernel_rfl
theorem e_laws_eqIntS (a0 : List Int) (b1 : List Int) (kk : AV → List A1 → Prop) :
    ev TT cs_laws_eqIntS 26 an_laws_eqIntS (Tryd.f17.body.getD .skip) (st0 con_laws_eqIntS [.c (.ro .int a0), .c (.ro .int b1)]) (fin TT con_laws_eqIntS Tryd.f17.results.toList [.c .sc] [.c (.ro .int a0), .c (.ro .int b1)] kk) = S_laws_eqIntS a0 b1 (fun r0 => kk (.one (.c (.v (.bool r0)))) []) := by
  rw [g_laws_eqIntS]
  have hi0 : (fun a0 b1 xi5 => ∃ j, iter (evF TT cs_laws_eqIntS 26 an_laws_eqIntS Tryd.f17 [1, 1, 0, 1, 0, 0]) nm0_laws_eqIntS (kt0_laws_eqIntS (fin_laws_eqIntS a0 b1 kk)) j (can0_laws_eqIntS a0 b1 xi5)) = (fun a0 b1 xi5 => ∃ j, L0_laws_eqIntS a0 b1 (fun r0 => kk (.one (.c (.v (.bool r0)))) []) j xi5) := by
    funext a0 b1 xi5
    refine congrArg Exists (funext fun j => ?_)
    rw [l0_laws_eqIntS a0 b1 kk j xi5]
  rw [hi0]
  rfl
theorem clok_laws_eqIntS : ConOK Tryd.prog cl_laws_eqIntS := consNil
theorem cok_laws_eqIntS : ConsOK Tryd.prog 26 cs_laws_eqIntS := ⟨clok_laws_eqIntS, inlNil, ovNil⟩
theorem i_laws_eqIntS {vs : List A1} {kk : AV → List A1 → Prop} {motive : List A1 → Prop} (h : con_laws_eqIntS.F vs kk) (H : ∀ (a0 : List Int) (b1 : List Int), F_laws_eqIntS a0 b1 (fun r0 => kk (.one (.c (.v (.bool r0)))) []) → motive [.c (.ro .int a0), .c (.ro .int b1)]) : motive vs := by
  unfold con_laws_eqIntS at h
  dsimp only at h
  split at h
  · exact H _ _ h
  · exact h.elim
theorem h_laws_eqIntS : Holds Tryd.prog 17 con_laws_eqIntS := by
  refine holds_of_ev (rt := [.c .sc]) (T := TT) (Γ := cs_laws_eqIntS) (an := an_laws_eqIntS) (N := 26) (c := Tryd.f17.body.getD .skip) Tryd.func17 (by kernel_rfl) Tryd.ntmps17 (by decide) (by decide) mixed tabOK cok_laws_eqIntS (by kernel_rfl) ?_
  intro vs kk _ hF
  exact i_laws_eqIntS (motive := fun vs => Goes (ev TT cs_laws_eqIntS 26 an_laws_eqIntS (Tryd.f17.body.getD .skip) (st0 con_laws_eqIntS vs) (fin TT con_laws_eqIntS Tryd.f17.results.toList [.c .sc] vs kk))) hF (fun a0 b1 hF => goes_of (e_laws_eqIntS a0 b1 kk) (F_laws_eqIntS_S hF))
def con_laws_FnExactFormatTrace : Con := ⟨[.rd], true, [.c (.sl .int)], fun vs k => match vs with
    | [.c (.ro .int aT0)] => F_laws_FnExactFormatTrace aT0 (fun r0 => k (.one (.c (.v (.bool r0)))) [])
    | _ => False, false⟩
def cl_laws_FnExactFormatTrace : List (FuncId × Con) := [(9, con_impl_FormatTrace), (10, con_spec_FormatTrace), (16, con_laws_toIntS), (17, con_laws_eqIntS)]
def an_laws_FnExactFormatTrace : Ann := ⟨[], [], [], []⟩
def cs_laws_FnExactFormatTrace : Cons := ⟨cl_laws_FnExactFormatTrace, [], 0, [], [], []⟩
def fin_laws_FnExactFormatTrace (aT0 : List Int) (kk : AV → List A1 → Prop) : Kt := fin TT con_laws_FnExactFormatTrace Tryd.f6.results.toList [.c .sc] [.c (.ro .int aT0)] kk
theorem g_laws_FnExactFormatTrace (aT0 : List Int) (kk : AV → List A1 → Prop) :
    ev TT cs_laws_FnExactFormatTrace 24 an_laws_FnExactFormatTrace (Tryd.f6.body.getD .skip) (st0 con_laws_FnExactFormatTrace [.c (.ro .int aT0)]) (fin TT con_laws_FnExactFormatTrace Tryd.f6.results.toList [.c .sc] [.c (.ro .int aT0)] kk) = G_laws_FnExactFormatTrace aT0 (fun r0 => kk (.one (.c (.v (.bool r0)))) []) := by kernel_rfl
theorem e_laws_FnExactFormatTrace (aT0 : List Int) (kk : AV → List A1 → Prop) :
    ev TT cs_laws_FnExactFormatTrace 24 an_laws_FnExactFormatTrace (Tryd.f6.body.getD .skip) (st0 con_laws_FnExactFormatTrace [.c (.ro .int aT0)]) (fin TT con_laws_FnExactFormatTrace Tryd.f6.results.toList [.c .sc] [.c (.ro .int aT0)] kk) = S_laws_FnExactFormatTrace aT0 (fun r0 => kk (.one (.c (.v (.bool r0)))) []) := by
  rw [g_laws_FnExactFormatTrace]
  rfl
theorem clok_laws_FnExactFormatTrace : ConOK Tryd.prog cl_laws_FnExactFormatTrace := consCons h_impl_FormatTrace ⟨Tryd.f9, Tryd.func9, by kernel_rfl, ne_of_beq (by kernel_rfl)⟩ (consCons h_spec_FormatTrace ⟨Tryd.f10, Tryd.func10, by kernel_rfl, ne_of_beq (by kernel_rfl)⟩ (consCons h_laws_toIntS ⟨Tryd.f16, Tryd.func16, by kernel_rfl, ne_of_beq (by kernel_rfl)⟩ (consCons h_laws_eqIntS ⟨Tryd.f17, Tryd.func17, by kernel_rfl, ne_of_beq (by kernel_rfl)⟩ (consNil))))
theorem cok_laws_FnExactFormatTrace : ConsOK Tryd.prog 24 cs_laws_FnExactFormatTrace := ⟨clok_laws_FnExactFormatTrace, inlNil, ovNil⟩
theorem i_laws_FnExactFormatTrace {vs : List A1} {kk : AV → List A1 → Prop} {motive : List A1 → Prop} (h : con_laws_FnExactFormatTrace.F vs kk) (H : ∀ (aT0 : List Int), F_laws_FnExactFormatTrace aT0 (fun r0 => kk (.one (.c (.v (.bool r0)))) []) → motive [.c (.ro .int aT0)]) : motive vs := by
  unfold con_laws_FnExactFormatTrace at h
  dsimp only at h
  split at h
  · exact H _ h
  · exact h.elim
theorem h_laws_FnExactFormatTrace : Holds Tryd.prog 6 con_laws_FnExactFormatTrace := by
  refine holds_of_ev (rt := [.c .sc]) (T := TT) (Γ := cs_laws_FnExactFormatTrace) (an := an_laws_FnExactFormatTrace) (N := 24) (c := Tryd.f6.body.getD .skip) Tryd.func6 (by kernel_rfl) Tryd.ntmps6 (by decide) (by decide) mixed tabOK cok_laws_FnExactFormatTrace (by kernel_rfl) ?_
  intro vs kk _ hF
  exact i_laws_FnExactFormatTrace (motive := fun vs => Goes (ev TT cs_laws_FnExactFormatTrace 24 an_laws_FnExactFormatTrace (Tryd.f6.body.getD .skip) (st0 con_laws_FnExactFormatTrace vs) (fin TT con_laws_FnExactFormatTrace Tryd.f6.results.toList [.c .sc] vs kk))) hF (fun aT0 hF => goes_of (e_laws_FnExactFormatTrace aT0 kk) (F_laws_FnExactFormatTrace_S hF))
end Go.Ev
