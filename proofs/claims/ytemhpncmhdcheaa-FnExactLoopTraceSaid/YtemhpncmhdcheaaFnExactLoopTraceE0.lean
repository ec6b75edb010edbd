/- What the evaluator gives for these functions: their contracts. No statement is proved here. -/
import Derived.Test.YtemhpncmhdcheaaFnExactLoopTraceP0
import Derived.Test.YtemhpncmhdcheaaTt
namespace Go.Ev
set_option linter.unusedVariables false
set_option linter.unusedSimpArgs false
set_option maxRecDepth 100000
open Go Go.Proofs
def con_spec_inRange : Con := ⟨[.rd, .rd, .rd], true, [.c (.sc), .c (.sc), .c (.sc)], fun vs k => match vs with
    | [.c (.v (.int .i64 n0)), .c (.v (.int .i64 low1)), .c (.v (.int .i64 high2))] => F_spec_inRange n0 low1 high2 (fun r0 => k (.one (.c (.v (.bool r0)))) [])
    | _ => False, false⟩
def cl_spec_inRange : List (FuncId × Con) := []
def an_spec_inRange : Ann := ⟨[], [], [], []⟩
def cs_spec_inRange : Cons := ⟨cl_spec_inRange, [], 0, [], [], []⟩
def fin_spec_inRange (n0 : Int) (low1 : Int) (high2 : Int) (kk : AV → List A1 → Prop) : Kt := fin TT con_spec_inRange Try.f45.results.toList [.c .sc] [.c (.v (.int .i64 n0)), .c (.v (.int .i64 low1)), .c (.v (.int .i64 high2))] kk
theorem g_spec_inRange (n0 : Int) (low1 : Int) (high2 : Int) (kk : AV → List A1 → Prop) :
    ev TT cs_spec_inRange 15 an_spec_inRange (Try.f45.body.getD .skip) (st0 con_spec_inRange [.c (.v (.int .i64 n0)), .c (.v (.int .i64 low1)), .c (.v (.int .i64 high2))]) (fin TT con_spec_inRange Try.f45.results.toList [.c .sc] [.c (.v (.int .i64 n0)), .c (.v (.int .i64 low1)), .c (.v (.int .i64 high2))] kk) = G_spec_inRange n0 low1 high2 (fun r0 => kk (.one (.c (.v (.bool r0)))) []) := by kernel_rfl
theorem e_spec_inRange (n0 : Int) (low1 : Int) (high2 : Int) (kk : AV → List A1 → Prop) :
    ev TT cs_spec_inRange 15 an_spec_inRange (Try.f45.body.getD .skip) (st0 con_spec_inRange [.c (.v (.int .i64 n0)), .c (.v (.int .i64 low1)), .c (.v (.int .i64 high2))]) (fin TT con_spec_inRange Try.f45.results.toList [.c .sc] [.c (.v (.int .i64 n0)), .c (.v (.int .i64 low1)), .c (.v (.int .i64 high2))] kk) = S_spec_inRange n0 low1 high2 (fun r0 => kk (.one (.c (.v (.bool r0)))) []) := by
  rw [g_spec_inRange]
  rfl
theorem clok_spec_inRange : ConOK Try.prog cl_spec_inRange := consNil
theorem cok_spec_inRange : ConsOK Try.prog 15 cs_spec_inRange := ⟨clok_spec_inRange, inlNil, ovNil⟩
theorem i_spec_inRange {vs : List A1} {kk : AV → List A1 → Prop} {motive : List A1 → Prop} (h : con_spec_inRange.F vs kk) (H : ∀ (n0 : Int) (low1 : Int) (high2 : Int), F_spec_inRange n0 low1 high2 (fun r0 => kk (.one (.c (.v (.bool r0)))) []) → motive [.c (.v (.int .i64 n0)), .c (.v (.int .i64 low1)), .c (.v (.int .i64 high2))]) : motive vs := by
  unfold con_spec_inRange at h
  dsimp only at h
  split at h
  · exact H _ _ _ h
  · exact h.elim
theorem h_spec_inRange : Holds Try.prog 45 con_spec_inRange := by
  refine holds_of_ev (rt := [.c .sc]) (T := TT) (Γ := cs_spec_inRange) (an := an_spec_inRange) (N := 15) (c := Try.f45.body.getD .skip) Try.func45 (by kernel_rfl) Try.ntmps45 (by decide) (by decide) mixed tabOK cok_spec_inRange (by kernel_rfl) ?_
  intro vs kk _ hF
  exact i_spec_inRange (motive := fun vs => Goes (ev TT cs_spec_inRange 15 an_spec_inRange (Try.f45.body.getD .skip) (st0 con_spec_inRange vs) (fin TT con_spec_inRange Try.f45.results.toList [.c .sc] vs kk))) hF (fun n0 low1 high2 hF => goes_of (e_spec_inRange n0 low1 high2 kk) (F_spec_inRange_S hF))
def con_spec_LoopTrace : Con := ⟨[.rd, .rd], true, [.c (.sc), .c (.sc)], fun vs k => match vs with
    | [.c (.v (.int .i64 n0)), .c (.v (.int .i64 length1))] => F_spec_LoopTrace n0 length1 (fun r0 => k (.one (.c (.ro .int r0))) [])
    | _ => False, false⟩
def cl_spec_LoopTrace : List (FuncId × Con) := [(45, con_spec_inRange)]
def nm0_spec_LoopTrace : List NStep := [.own 5 .int 90000, .keep [0, 1, 5, 6] [90000]]
def an_spec_LoopTrace : Ann := ⟨[], [(5, nm0_spec_LoopTrace)], [], []⟩
def cs_spec_LoopTrace : Cons := ⟨cl_spec_LoopTrace, [], 0, [], [], []⟩
def can0_spec_LoopTrace (length1 : Int) (n0 : Int) (xi6 : Int) (xout5 : List Int) : St := ⟨[(0, .one (.c (.v (.int .i64 n0)))), (1, .one (.c (.v (.int .i64 length1)))), (5, .one (.c (.ow 90000))), (6, .one (.c (.v (.int .i64 xi6))))], [(90000, .row .int xout5)]⟩
def fin_spec_LoopTrace (n0 : Int) (length1 : Int) (kk : AV → List A1 → Prop) : Kt := fin TT con_spec_LoopTrace Try.f25.results.toList [.c (.sl .int)] [.c (.v (.int .i64 n0)), .c (.v (.int .i64 length1))] kk
def kt0_spec_LoopTrace (kf : Kt) : Kt := blockK 0 (seqK (evF TT cs_spec_LoopTrace 28 an_spec_LoopTrace Try.f25 [1, 1, 1, 1]) (kf))
theorem r0_spec_LoopTrace (n0 : Int) (length1 : Int) (kk : AV → List A1 → Prop) (n : Nat) (xi6 : Int) (xout5 : List Int) :
    iter (evF TT cs_spec_LoopTrace 28 an_spec_LoopTrace Try.f25 [1, 1, 1, 0, 1, 0, 0]) nm0_spec_LoopTrace (kt0_spec_LoopTrace (fin_spec_LoopTrace n0 length1 kk)) (n + 1) (can0_spec_LoopTrace length1 n0 xi6 xout5) = T0_spec_LoopTrace length1 n0 xi6 xout5 (fun r0 => kk (.one (.c (.ro .int r0))) []) (fun xi6 xout5 => iter (evF TT cs_spec_LoopTrace 28 an_spec_LoopTrace Try.f25 [1, 1, 1, 0, 1, 0, 0]) nm0_spec_LoopTrace (kt0_spec_LoopTrace (fin_spec_LoopTrace n0 length1 kk)) n (can0_spec_LoopTrace length1 n0 xi6 xout5)) := by kernel_rfl
theorem l0_spec_LoopTrace (n0 : Int) (length1 : Int) (kk : AV → List A1 → Prop) : ∀ (n : Nat) (xi6 : Int) (xout5 : List Int), iter (evF TT cs_spec_LoopTrace 28 an_spec_LoopTrace Try.f25 [1, 1, 1, 0, 1, 0, 0]) nm0_spec_LoopTrace (kt0_spec_LoopTrace (fin_spec_LoopTrace n0 length1 kk)) n (can0_spec_LoopTrace length1 n0 xi6 xout5) = L0_spec_LoopTrace length1 n0 (fun r0 => kk (.one (.c (.ro .int r0))) []) n xi6 xout5 := by
  intro n
  induction n with
  | zero => intros; rfl
  | succ n ih =>
    intro xi6 xout5
    rw [r0_spec_LoopTrace n0 length1 kk n xi6 xout5]
    have hb : (fun xi6 xout5 => iter (evF TT cs_spec_LoopTrace 28 an_spec_LoopTrace Try.f25 [1, 1, 1, 0, 1, 0, 0]) nm0_spec_LoopTrace (kt0_spec_LoopTrace (fin_spec_LoopTrace n0 length1 kk)) n (can0_spec_LoopTrace length1 n0 xi6 xout5)) = L0_spec_LoopTrace length1 n0 (fun r0 => kk (.one (.c (.ro .int r0))) []) n := by
      funext xi6 xout5; exact ih xi6 xout5
    rw [hb]
    rfl
theorem g_spec_LoopTrace (n0 : Int) (length1 : Int) (kk : AV → List A1 → Prop) :
    ev TT cs_spec_LoopTrace 28 an_spec_LoopTrace (Try.f25.body.getD .skip) (st0 con_spec_LoopTrace [.c (.v (.int .i64 n0)), .c (.v (.int .i64 length1))]) (fin TT con_spec_LoopTrace Try.f25.results.toList [.c (.sl .int)] [.c (.v (.int .i64 n0)), .c (.v (.int .i64 length1))] kk) = G_spec_LoopTrace n0 length1 (fun r0 => kk (.one (.c (.ro .int r0))) []) (fun length1 n0 xi6 xout5 => ∃ j, iter (evF TT cs_spec_LoopTrace 28 an_spec_LoopTrace Try.f25 [1, 1, 1, 0, 1, 0, 0]) nm0_spec_LoopTrace (kt0_spec_LoopTrace (fin_spec_LoopTrace n0 length1 kk)) j (can0_spec_LoopTrace length1 n0 xi6 xout5)) := by kernel_rfl
theorem e_spec_LoopTrace (n0 : Int) (length1 : Int) (kk : AV → List A1 → Prop) :
    ev TT cs_spec_LoopTrace 28 an_spec_LoopTrace (Try.f25.body.getD .skip) (st0 con_spec_LoopTrace [.c (.v (.int .i64 n0)), .c (.v (.int .i64 length1))]) (fin TT con_spec_LoopTrace Try.f25.results.toList [.c (.sl .int)] [.c (.v (.int .i64 n0)), .c (.v (.int .i64 length1))] kk) = S_spec_LoopTrace n0 length1 (fun r0 => kk (.one (.c (.ro .int r0))) []) := by
  rw [g_spec_LoopTrace]
  have hi0 : (fun length1 n0 xi6 xout5 => ∃ j, iter (evF TT cs_spec_LoopTrace 28 an_spec_LoopTrace Try.f25 [1, 1, 1, 0, 1, 0, 0]) nm0_spec_LoopTrace (kt0_spec_LoopTrace (fin_spec_LoopTrace n0 length1 kk)) j (can0_spec_LoopTrace length1 n0 xi6 xout5)) = (fun length1 n0 xi6 xout5 => ∃ j, L0_spec_LoopTrace length1 n0 (fun r0 => kk (.one (.c (.ro .int r0))) []) j xi6 xout5) := by
    funext length1 n0 xi6 xout5
    refine congrArg Exists (funext fun j => ?_)
    rw [l0_spec_LoopTrace n0 length1 kk j xi6 xout5]
  rw [hi0]
  rfl
theorem clok_spec_LoopTrace : ConOK Try.prog cl_spec_LoopTrace := consCons h_spec_inRange ⟨Try.f45, Try.func45, by kernel_rfl, ne_of_beq (by kernel_rfl)⟩ (consNil)
theorem cok_spec_LoopTrace : ConsOK Try.prog 28 cs_spec_LoopTrace := ⟨clok_spec_LoopTrace, inlNil, ovNil⟩
theorem i_spec_LoopTrace {vs : List A1} {kk : AV → List A1 → Prop} {motive : List A1 → Prop} (h : con_spec_LoopTrace.F vs kk) (H : ∀ (n0 : Int) (length1 : Int), F_spec_LoopTrace n0 length1 (fun r0 => kk (.one (.c (.ro .int r0))) []) → motive [.c (.v (.int .i64 n0)), .c (.v (.int .i64 length1))]) : motive vs := by
  unfold con_spec_LoopTrace at h
  dsimp only at h
  split at h
  · exact H _ _ h
  · exact h.elim
theorem h_spec_LoopTrace : Holds Try.prog 25 con_spec_LoopTrace := by
  refine holds_of_ev (rt := [.c (.sl .int)]) (T := TT) (Γ := cs_spec_LoopTrace) (an := an_spec_LoopTrace) (N := 28) (c := Try.f25.body.getD .skip) Try.func25 (by kernel_rfl) Try.ntmps25 (by decide) (by decide) mixed tabOK cok_spec_LoopTrace (by kernel_rfl) ?_
  intro vs kk _ hF
  exact i_spec_LoopTrace (motive := fun vs => Goes (ev TT cs_spec_LoopTrace 28 an_spec_LoopTrace (Try.f25.body.getD .skip) (st0 con_spec_LoopTrace vs) (fin TT con_spec_LoopTrace Try.f25.results.toList [.c (.sl .int)] vs kk))) hF (fun n0 length1 hF => goes_of (e_spec_LoopTrace n0 length1 kk) (F_spec_LoopTrace_S hF))
def con_impl_LoopTrace : Con := ⟨[.rd, .rd], true, [.c (.sc), .c (.sc)], fun vs k => match vs with
    | [.c (.v (.int .i64 n0)), .c (.v (.int .i64 length1))] => F_impl_LoopTrace n0 length1 (fun r0 => k (.one (.c (.ro .int r0))) [])
    | _ => False, false⟩
def cl_impl_LoopTrace : List (FuncId × Con) := []
def nm0_impl_LoopTrace : List NStep := [.keep [0, 5, 24, 25] [352]]
def an_impl_LoopTrace : Ann := ⟨[], [(5, nm0_impl_LoopTrace)], [], []⟩
def cs_impl_LoopTrace : Cons := ⟨cl_impl_LoopTrace, [], 0, [], [], []⟩
def can0_impl_LoopTrace (n0 : Int) (xt24 : Int) (xt25 : Int) (xy22 : List Int) : St := ⟨[(0, .one (.c (.v (.int .i64 n0)))), (5, .one (.c (.ow 352))), (24, .one (.c (.v (.int .i64 xt24)))), (25, .one (.c (.v (.int .i64 xt25))))], [(352, .row .int xy22)]⟩
def fin_impl_LoopTrace (n0 : Int) (length1 : Int) (kk : AV → List A1 → Prop) : Kt := fin TT con_impl_LoopTrace Try.f17.results.toList [.c (.sl .int)] [.c (.v (.int .i64 n0)), .c (.v (.int .i64 length1))] kk
def kt0_impl_LoopTrace (kf : Kt) : Kt := blockK 0 (seqK (evF TT cs_impl_LoopTrace 36 an_impl_LoopTrace Try.f17 [1, 1, 1, 1]) (kf))
theorem r0_impl_LoopTrace (n0 : Int) (length1 : Int) (xt24 : Int) (kk : AV → List A1 → Prop) (n : Nat) (xt25 : Int) (xy22 : List Int) :
    iter (evF TT cs_impl_LoopTrace 36 an_impl_LoopTrace Try.f17 [1, 1, 1, 0, 1, 0, 0]) nm0_impl_LoopTrace (kt0_impl_LoopTrace (fin_impl_LoopTrace n0 length1 kk)) (n + 1) (can0_impl_LoopTrace n0 xt24 xt25 xy22) = T0_impl_LoopTrace n0 xt24 xt25 xy22 (fun r0 => kk (.one (.c (.ro .int r0))) []) (fun xt25 xy22 => iter (evF TT cs_impl_LoopTrace 36 an_impl_LoopTrace Try.f17 [1, 1, 1, 0, 1, 0, 0]) nm0_impl_LoopTrace (kt0_impl_LoopTrace (fin_impl_LoopTrace n0 length1 kk)) n (can0_impl_LoopTrace n0 xt24 xt25 xy22)) := by kernel_rfl
theorem l0_impl_LoopTrace (n0 : Int) (length1 : Int) (xt24 : Int) (kk : AV → List A1 → Prop) : ∀ (n : Nat) (xt25 : Int) (xy22 : List Int), iter (evF TT cs_impl_LoopTrace 36 an_impl_LoopTrace Try.f17 [1, 1, 1, 0, 1, 0, 0]) nm0_impl_LoopTrace (kt0_impl_LoopTrace (fin_impl_LoopTrace n0 length1 kk)) n (can0_impl_LoopTrace n0 xt24 xt25 xy22) = L0_impl_LoopTrace n0 xt24 (fun r0 => kk (.one (.c (.ro .int r0))) []) n xt25 xy22 := by
  intro n
  induction n with
  | zero => intros; rfl
  | succ n ih =>
    intro xt25 xy22
    rw [r0_impl_LoopTrace n0 length1 xt24 kk n xt25 xy22]
    have hb : (fun xt25 xy22 => iter (evF TT cs_impl_LoopTrace 36 an_impl_LoopTrace Try.f17 [1, 1, 1, 0, 1, 0, 0]) nm0_impl_LoopTrace (kt0_impl_LoopTrace (fin_impl_LoopTrace n0 length1 kk)) n (can0_impl_LoopTrace n0 xt24 xt25 xy22)) = L0_impl_LoopTrace n0 xt24 (fun r0 => kk (.one (.c (.ro .int r0))) []) n := by
      funext xt25 xy22; exact ih xt25 xy22
    rw [hb]
    rfl
theorem g_impl_LoopTrace (n0 : Int) (length1 : Int) (kk : AV → List A1 → Prop) :
    ev TT cs_impl_LoopTrace 36 an_impl_LoopTrace (Try.f17.body.getD .skip) (st0 con_impl_LoopTrace [.c (.v (.int .i64 n0)), .c (.v (.int .i64 length1))]) (fin TT con_impl_LoopTrace Try.f17.results.toList [.c (.sl .int)] [.c (.v (.int .i64 n0)), .c (.v (.int .i64 length1))] kk) = G_impl_LoopTrace n0 length1 (fun r0 => kk (.one (.c (.ro .int r0))) []) (fun n0 xt24 xt25 xy22 => ∃ j, iter (evF TT cs_impl_LoopTrace 36 an_impl_LoopTrace Try.f17 [1, 1, 1, 0, 1, 0, 0]) nm0_impl_LoopTrace (kt0_impl_LoopTrace (fin_impl_LoopTrace n0 length1 kk)) j (can0_impl_LoopTrace n0 xt24 xt25 xy22)) := by kernel_rfl
theorem e_impl_LoopTrace (n0 : Int) (length1 : Int) (kk : AV → List A1 → Prop) :
    ev TT cs_impl_LoopTrace 36 an_impl_LoopTrace (Try.f17.body.getD .skip) (st0 con_impl_LoopTrace [.c (.v (.int .i64 n0)), .c (.v (.int .i64 length1))]) (fin TT con_impl_LoopTrace Try.f17.results.toList [.c (.sl .int)] [.c (.v (.int .i64 n0)), .c (.v (.int .i64 length1))] kk) = S_impl_LoopTrace n0 length1 (fun r0 => kk (.one (.c (.ro .int r0))) []) := by
  rw [g_impl_LoopTrace]
  have hi0 : (fun n0 xt24 xt25 xy22 => ∃ j, iter (evF TT cs_impl_LoopTrace 36 an_impl_LoopTrace Try.f17 [1, 1, 1, 0, 1, 0, 0]) nm0_impl_LoopTrace (kt0_impl_LoopTrace (fin_impl_LoopTrace n0 length1 kk)) j (can0_impl_LoopTrace n0 xt24 xt25 xy22)) = (fun n0 xt24 xt25 xy22 => ∃ j, L0_impl_LoopTrace n0 xt24 (fun r0 => kk (.one (.c (.ro .int r0))) []) j xt25 xy22) := by
    funext n0 xt24 xt25 xy22
    refine congrArg Exists (funext fun j => ?_)
    rw [l0_impl_LoopTrace n0 length1 xt24 kk j xt25 xy22]
  rw [hi0]
  rfl
theorem clok_impl_LoopTrace : ConOK Try.prog cl_impl_LoopTrace := consNil
theorem cok_impl_LoopTrace : ConsOK Try.prog 36 cs_impl_LoopTrace := ⟨clok_impl_LoopTrace, inlNil, ovNil⟩
theorem i_impl_LoopTrace {vs : List A1} {kk : AV → List A1 → Prop} {motive : List A1 → Prop} (h : con_impl_LoopTrace.F vs kk) (H : ∀ (n0 : Int) (length1 : Int), F_impl_LoopTrace n0 length1 (fun r0 => kk (.one (.c (.ro .int r0))) []) → motive [.c (.v (.int .i64 n0)), .c (.v (.int .i64 length1))]) : motive vs := by
  unfold con_impl_LoopTrace at h
  dsimp only at h
  split at h
  · exact H _ _ h
  · exact h.elim
theorem h_impl_LoopTrace : Holds Try.prog 17 con_impl_LoopTrace := by
  refine holds_of_ev (rt := [.c (.sl .int)]) (T := TT) (Γ := cs_impl_LoopTrace) (an := an_impl_LoopTrace) (N := 36) (c := Try.f17.body.getD .skip) Try.func17 (by kernel_rfl) Try.ntmps17 (by decide) (by decide) mixed tabOK cok_impl_LoopTrace (by kernel_rfl) ?_
  intro vs kk _ hF
  exact i_impl_LoopTrace (motive := fun vs => Goes (ev TT cs_impl_LoopTrace 36 an_impl_LoopTrace (Try.f17.body.getD .skip) (st0 con_impl_LoopTrace vs) (fin TT con_impl_LoopTrace Try.f17.results.toList [.c (.sl .int)] vs kk))) hF (fun n0 length1 hF => goes_of (e_impl_LoopTrace n0 length1 kk) (F_impl_LoopTrace_S hF))
def con_laws_eqIntS : Con := ⟨[.rd, .rd], true, [.c (.sl .int), .c (.sl .int)], fun vs k => match vs with
    | [.c (.ro .int a0), .c (.ro .int b1)] => F_laws_eqIntS a0 b1 (fun r0 => k (.one (.c (.v (.bool r0)))) [])
    | _ => False, false⟩
def cl_laws_eqIntS : List (FuncId × Con) := []
def nm0_laws_eqIntS : List NStep := [.keep [0, 1, 5] []]
def an_laws_eqIntS : Ann := ⟨[(6, .take 0 (.take 1 (.take 2 (.take 3 (.take 4 (.take 5 (.take 6 (.take 7 (.take 8 (.done))))))))), [])], [(4, nm0_laws_eqIntS)], [], []⟩
def cs_laws_eqIntS : Cons := ⟨cl_laws_eqIntS, [], 0, [], [], []⟩
def can0_laws_eqIntS (a0 : List Int) (b1 : List Int) (xi5 : Int) : St := ⟨[(0, .one (.c (.ro .int a0))), (1, .one (.c (.ro .int b1))), (5, .one (.c (.v (.int .i64 xi5))))], []⟩
def fin_laws_eqIntS (a0 : List Int) (b1 : List Int) (kk : AV → List A1 → Prop) : Kt := fin TT con_laws_eqIntS Try.f37.results.toList [.c .sc] [.c (.ro .int a0), .c (.ro .int b1)] kk
def kt0_laws_eqIntS (kf : Kt) : Kt := blockK 0 (seqK (evF TT cs_laws_eqIntS 26 an_laws_eqIntS Try.f37 [1, 1, 1]) (kf))
theorem r0_laws_eqIntS (a0 : List Int) (b1 : List Int) (kk : AV → List A1 → Prop) (n : Nat) (xi5 : Int) :
    iter (evF TT cs_laws_eqIntS 26 an_laws_eqIntS Try.f37 [1, 1, 0, 1, 0, 0]) nm0_laws_eqIntS (kt0_laws_eqIntS (fin_laws_eqIntS a0 b1 kk)) (n + 1) (can0_laws_eqIntS a0 b1 xi5) = T0_laws_eqIntS a0 b1 xi5 (fun r0 => kk (.one (.c (.v (.bool r0)))) []) (fun xi5 => iter (evF TT cs_laws_eqIntS 26 an_laws_eqIntS Try.f37 [1, 1, 0, 1, 0, 0]) nm0_laws_eqIntS (kt0_laws_eqIntS (fin_laws_eqIntS a0 b1 kk)) n (can0_laws_eqIntS a0 b1 xi5)) := by kernel_rfl
theorem l0_laws_eqIntS (a0 : List Int) (b1 : List Int) (kk : AV → List A1 → Prop) : ∀ (n : Nat) (xi5 : Int), iter (evF TT cs_laws_eqIntS 26 an_laws_eqIntS Try.f37 [1, 1, 0, 1, 0, 0]) nm0_laws_eqIntS (kt0_laws_eqIntS (fin_laws_eqIntS a0 b1 kk)) n (can0_laws_eqIntS a0 b1 xi5) = L0_laws_eqIntS a0 b1 (fun r0 => kk (.one (.c (.v (.bool r0)))) []) n xi5 := by
  intro n
  induction n with
  | zero => intros; rfl
  | succ n ih =>
    intro xi5
    rw [r0_laws_eqIntS a0 b1 kk n xi5]
    have hb : (fun xi5 => iter (evF TT cs_laws_eqIntS 26 an_laws_eqIntS Try.f37 [1, 1, 0, 1, 0, 0]) nm0_laws_eqIntS (kt0_laws_eqIntS (fin_laws_eqIntS a0 b1 kk)) n (can0_laws_eqIntS a0 b1 xi5)) = L0_laws_eqIntS a0 b1 (fun r0 => kk (.one (.c (.v (.bool r0)))) []) n := by
      funext xi5; exact ih xi5
    rw [hb]
    rfl
theorem g_laws_eqIntS (a0 : List Int) (b1 : List Int) (kk : AV → List A1 → Prop) :
    ev TT cs_laws_eqIntS 26 an_laws_eqIntS (Try.f37.body.getD .skip) (st0 con_laws_eqIntS [.c (.ro .int a0), .c (.ro .int b1)]) (fin TT con_laws_eqIntS Try.f37.results.toList [.c .sc] [.c (.ro .int a0), .c (.ro .int b1)] kk) = G_laws_eqIntS a0 b1 (fun r0 => kk (.one (.c (.v (.bool r0)))) []) (fun a0 b1 xi5 => ∃ j, iter (evF TT cs_laws_eqIntS 26 an_laws_eqIntS Try.f37 [1, 1, 0, 1, 0, 0]) nm0_laws_eqIntS (kt0_laws_eqIntS (fin_laws_eqIntS a0 b1 kk)) j (can0_laws_eqIntS a0 b1 xi5)) := by kernel_rfl
theorem e_laws_eqIntS (a0 : List Int) (b1 : List Int) (kk : AV → List A1 → Prop) :
    ev TT cs_laws_eqIntS 26 an_laws_eqIntS (Try.f37.body.getD .skip) (st0 con_laws_eqIntS [.c (.ro .int a0), .c (.ro .int b1)]) (fin TT con_laws_eqIntS Try.f37.results.toList [.c .sc] [.c (.ro .int a0), .c (.ro .int b1)] kk) = S_laws_eqIntS a0 b1 (fun r0 => kk (.one (.c (.v (.bool r0)))) []) := by
  rw [g_laws_eqIntS]
  have hi0 : (fun a0 b1 xi5 => ∃ j, iter (evF TT cs_laws_eqIntS 26 an_laws_eqIntS Try.f37 [1, 1, 0, 1, 0, 0]) nm0_laws_eqIntS (kt0_laws_eqIntS (fin_laws_eqIntS a0 b1 kk)) j (can0_laws_eqIntS a0 b1 xi5)) = (fun a0 b1 xi5 => ∃ j, L0_laws_eqIntS a0 b1 (fun r0 => kk (.one (.c (.v (.bool r0)))) []) j xi5) := by
    funext a0 b1 xi5
    refine congrArg Exists (funext fun j => ?_)
    rw [l0_laws_eqIntS a0 b1 kk j xi5]
  rw [hi0]
  rfl
theorem clok_laws_eqIntS : ConOK Try.prog cl_laws_eqIntS := consNil
theorem cok_laws_eqIntS : ConsOK Try.prog 26 cs_laws_eqIntS := ⟨clok_laws_eqIntS, inlNil, ovNil⟩
theorem i_laws_eqIntS {vs : List A1} {kk : AV → List A1 → Prop} {motive : List A1 → Prop} (h : con_laws_eqIntS.F vs kk) (H : ∀ (a0 : List Int) (b1 : List Int), F_laws_eqIntS a0 b1 (fun r0 => kk (.one (.c (.v (.bool r0)))) []) → motive [.c (.ro .int a0), .c (.ro .int b1)]) : motive vs := by
  unfold con_laws_eqIntS at h
  dsimp only at h
  split at h
  · exact H _ _ h
  · exact h.elim
theorem h_laws_eqIntS : Holds Try.prog 37 con_laws_eqIntS := by
  refine holds_of_ev (rt := [.c .sc]) (T := TT) (Γ := cs_laws_eqIntS) (an := an_laws_eqIntS) (N := 26) (c := Try.f37.body.getD .skip) Try.func37 (by kernel_rfl) Try.ntmps37 (by decide) (by decide) mixed tabOK cok_laws_eqIntS (by kernel_rfl) ?_
  intro vs kk _ hF
  exact i_laws_eqIntS (motive := fun vs => Goes (ev TT cs_laws_eqIntS 26 an_laws_eqIntS (Try.f37.body.getD .skip) (st0 con_laws_eqIntS vs) (fin TT con_laws_eqIntS Try.f37.results.toList [.c .sc] vs kk))) hF (fun a0 b1 hF => goes_of (e_laws_eqIntS a0 b1 kk) (F_laws_eqIntS_S hF))
def con_laws_markIntS : Con := ⟨[.mu, .rd], true, [.c (.sl .int), .c (.sc)], fun vs k => match vs with
    | [.c (.ro .int a0), .c (.v (.int .i64 k1))] => F_laws_markIntS a0 k1 (fun r0 r1 => k (.one (.c (.v (.int .i64 r0)))) [.c (.ro .int r1)])
    | _ => False, false⟩
def cl_laws_markIntS : List (FuncId × Con) := []
def nm0_laws_markIntS : List NStep := [.keep [0, 1, 5] [100000]]
def an_laws_markIntS : Ann := ⟨[], [(2, nm0_laws_markIntS)], [], []⟩
def cs_laws_markIntS : Cons := ⟨cl_laws_markIntS, [], 0, [], [], []⟩
def can0_laws_markIntS (xk1 : Int) (xi5 : Int) (xy100000 : List Int) : St := ⟨[(0, .one (.c (.ow 100000))), (1, .one (.c (.v (.int .i64 xk1)))), (5, .one (.c (.v (.int .i64 xi5))))], [(100000, .row .int xy100000)]⟩
def fin_laws_markIntS (a0 : List Int) (k1 : Int) (kk : AV → List A1 → Prop) : Kt := fin TT con_laws_markIntS Try.f38.results.toList [.c .sc] [.c (.ro .int a0), .c (.v (.int .i64 k1))] kk
def kt0_laws_markIntS (kf : Kt) : Kt := blockK 0 (seqK (evF TT cs_laws_markIntS 19 an_laws_markIntS Try.f38 [1, 1]) (kf))
theorem r0_laws_markIntS (a0 : List Int) (k1 : Int) (kk : AV → List A1 → Prop) (n : Nat) (xk1 : Int) (xi5 : Int) (xy100000 : List Int) :
    iter (evF TT cs_laws_markIntS 19 an_laws_markIntS Try.f38 [1, 0, 1, 0, 0]) nm0_laws_markIntS (kt0_laws_markIntS (fin_laws_markIntS a0 k1 kk)) (n + 1) (can0_laws_markIntS xk1 xi5 xy100000) = T0_laws_markIntS xk1 xi5 xy100000 (fun r0 r1 => kk (.one (.c (.v (.int .i64 r0)))) [.c (.ro .int r1)]) (fun xk1 xi5 xy100000 => iter (evF TT cs_laws_markIntS 19 an_laws_markIntS Try.f38 [1, 0, 1, 0, 0]) nm0_laws_markIntS (kt0_laws_markIntS (fin_laws_markIntS a0 k1 kk)) n (can0_laws_markIntS xk1 xi5 xy100000)) := by kernel_rfl
theorem l0_laws_markIntS (a0 : List Int) (k1 : Int) (kk : AV → List A1 → Prop) : ∀ (n : Nat) (xk1 : Int) (xi5 : Int) (xy100000 : List Int), iter (evF TT cs_laws_markIntS 19 an_laws_markIntS Try.f38 [1, 0, 1, 0, 0]) nm0_laws_markIntS (kt0_laws_markIntS (fin_laws_markIntS a0 k1 kk)) n (can0_laws_markIntS xk1 xi5 xy100000) = L0_laws_markIntS (fun r0 r1 => kk (.one (.c (.v (.int .i64 r0)))) [.c (.ro .int r1)]) n xk1 xi5 xy100000 := by
  intro n
  induction n with
  | zero => intros; rfl
  | succ n ih =>
    intro xk1 xi5 xy100000
    rw [r0_laws_markIntS a0 k1 kk n xk1 xi5 xy100000]
    have hb : (fun xk1 xi5 xy100000 => iter (evF TT cs_laws_markIntS 19 an_laws_markIntS Try.f38 [1, 0, 1, 0, 0]) nm0_laws_markIntS (kt0_laws_markIntS (fin_laws_markIntS a0 k1 kk)) n (can0_laws_markIntS xk1 xi5 xy100000)) = L0_laws_markIntS (fun r0 r1 => kk (.one (.c (.v (.int .i64 r0)))) [.c (.ro .int r1)]) n := by
      funext xk1 xi5 xy100000; exact ih xk1 xi5 xy100000
    rw [hb]
    rfl
theorem g_laws_markIntS (a0 : List Int) (k1 : Int) (kk : AV → List A1 → Prop) :
    ev TT cs_laws_markIntS 19 an_laws_markIntS (Try.f38.body.getD .skip) (st0 con_laws_markIntS [.c (.ro .int a0), .c (.v (.int .i64 k1))]) (fin TT con_laws_markIntS Try.f38.results.toList [.c .sc] [.c (.ro .int a0), .c (.v (.int .i64 k1))] kk) = G_laws_markIntS a0 k1 (fun xk1 xi5 xy100000 => ∃ j, iter (evF TT cs_laws_markIntS 19 an_laws_markIntS Try.f38 [1, 0, 1, 0, 0]) nm0_laws_markIntS (kt0_laws_markIntS (fin_laws_markIntS a0 k1 kk)) j (can0_laws_markIntS xk1 xi5 xy100000)) := by kernel_rfl
theorem e_laws_markIntS (a0 : List Int) (k1 : Int) (kk : AV → List A1 → Prop) :
    ev TT cs_laws_markIntS 19 an_laws_markIntS (Try.f38.body.getD .skip) (st0 con_laws_markIntS [.c (.ro .int a0), .c (.v (.int .i64 k1))]) (fin TT con_laws_markIntS Try.f38.results.toList [.c .sc] [.c (.ro .int a0), .c (.v (.int .i64 k1))] kk) = S_laws_markIntS a0 k1 (fun r0 r1 => kk (.one (.c (.v (.int .i64 r0)))) [.c (.ro .int r1)]) := by
  rw [g_laws_markIntS]
  have hi0 : (fun xk1 xi5 xy100000 => ∃ j, iter (evF TT cs_laws_markIntS 19 an_laws_markIntS Try.f38 [1, 0, 1, 0, 0]) nm0_laws_markIntS (kt0_laws_markIntS (fin_laws_markIntS a0 k1 kk)) j (can0_laws_markIntS xk1 xi5 xy100000)) = (fun xk1 xi5 xy100000 => ∃ j, L0_laws_markIntS (fun r0 r1 => kk (.one (.c (.v (.int .i64 r0)))) [.c (.ro .int r1)]) j xk1 xi5 xy100000) := by
    funext xk1 xi5 xy100000
    refine congrArg Exists (funext fun j => ?_)
    rw [l0_laws_markIntS a0 k1 kk j xk1 xi5 xy100000]
  rw [hi0]
  rfl
theorem clok_laws_markIntS : ConOK Try.prog cl_laws_markIntS := consNil
theorem cok_laws_markIntS : ConsOK Try.prog 19 cs_laws_markIntS := ⟨clok_laws_markIntS, inlNil, ovNil⟩
theorem i_laws_markIntS {vs : List A1} {kk : AV → List A1 → Prop} {motive : List A1 → Prop} (h : con_laws_markIntS.F vs kk) (H : ∀ (a0 : List Int) (k1 : Int), F_laws_markIntS a0 k1 (fun r0 r1 => kk (.one (.c (.v (.int .i64 r0)))) [.c (.ro .int r1)]) → motive [.c (.ro .int a0), .c (.v (.int .i64 k1))]) : motive vs := by
  unfold con_laws_markIntS at h
  dsimp only at h
  split at h
  · exact H _ _ h
  · exact h.elim
theorem h_laws_markIntS : Holds Try.prog 38 con_laws_markIntS := by
  refine holds_of_ev (rt := [.c .sc]) (T := TT) (Γ := cs_laws_markIntS) (an := an_laws_markIntS) (N := 19) (c := Try.f38.body.getD .skip) Try.func38 (by kernel_rfl) Try.ntmps38 (by decide) (by decide) mixed tabOK cok_laws_markIntS (by kernel_rfl) ?_
  intro vs kk _ hF
  exact i_laws_markIntS (motive := fun vs => Goes (ev TT cs_laws_markIntS 19 an_laws_markIntS (Try.f38.body.getD .skip) (st0 con_laws_markIntS vs) (fin TT con_laws_markIntS Try.f38.results.toList [.c .sc] vs kk))) hF (fun a0 k1 hF => goes_of (e_laws_markIntS a0 k1 kk) (F_laws_markIntS_S hF))
def con_laws_heldIntS : Con := ⟨[.rd, .rd], true, [.c (.sl .int), .c (.sc)], fun vs k => match vs with
    | [.c (.ro .int a0), .c (.v (.int .i64 k1))] => F_laws_heldIntS a0 k1 (fun r0 => k (.one (.c (.v (.int .i64 r0)))) [])
    | _ => False, false⟩
def cl_laws_heldIntS : List (FuncId × Con) := []
def nm0_laws_heldIntS : List NStep := [.keep [0, 1, 5] []]
def an_laws_heldIntS : Ann := ⟨[], [(2, nm0_laws_heldIntS)], [], []⟩
def cs_laws_heldIntS : Cons := ⟨cl_laws_heldIntS, [], 0, [], [], []⟩
def can0_laws_heldIntS (a0 : List Int) (xk1 : Int) (xi5 : Int) : St := ⟨[(0, .one (.c (.ro .int a0))), (1, .one (.c (.v (.int .i64 xk1)))), (5, .one (.c (.v (.int .i64 xi5))))], []⟩
def fin_laws_heldIntS (a0 : List Int) (k1 : Int) (kk : AV → List A1 → Prop) : Kt := fin TT con_laws_heldIntS Try.f39.results.toList [.c .sc] [.c (.ro .int a0), .c (.v (.int .i64 k1))] kk
def kt0_laws_heldIntS (kf : Kt) : Kt := blockK 0 (seqK (evF TT cs_laws_heldIntS 21 an_laws_heldIntS Try.f39 [1, 1]) (kf))
theorem r0_laws_heldIntS (a0 : List Int) (k1 : Int) (kk : AV → List A1 → Prop) (n : Nat) (xk1 : Int) (xi5 : Int) :
    iter (evF TT cs_laws_heldIntS 21 an_laws_heldIntS Try.f39 [1, 0, 1, 0, 0]) nm0_laws_heldIntS (kt0_laws_heldIntS (fin_laws_heldIntS a0 k1 kk)) (n + 1) (can0_laws_heldIntS a0 xk1 xi5) = T0_laws_heldIntS a0 xk1 xi5 (fun r0 => kk (.one (.c (.v (.int .i64 r0)))) []) (fun xk1 xi5 => iter (evF TT cs_laws_heldIntS 21 an_laws_heldIntS Try.f39 [1, 0, 1, 0, 0]) nm0_laws_heldIntS (kt0_laws_heldIntS (fin_laws_heldIntS a0 k1 kk)) n (can0_laws_heldIntS a0 xk1 xi5)) := by kernel_rfl
theorem l0_laws_heldIntS (a0 : List Int) (k1 : Int) (kk : AV → List A1 → Prop) : ∀ (n : Nat) (xk1 : Int) (xi5 : Int), iter (evF TT cs_laws_heldIntS 21 an_laws_heldIntS Try.f39 [1, 0, 1, 0, 0]) nm0_laws_heldIntS (kt0_laws_heldIntS (fin_laws_heldIntS a0 k1 kk)) n (can0_laws_heldIntS a0 xk1 xi5) = L0_laws_heldIntS a0 (fun r0 => kk (.one (.c (.v (.int .i64 r0)))) []) n xk1 xi5 := by
  intro n
  induction n with
  | zero => intros; rfl
  | succ n ih =>
    intro xk1 xi5
    rw [r0_laws_heldIntS a0 k1 kk n xk1 xi5]
    have hb : (fun xk1 xi5 => iter (evF TT cs_laws_heldIntS 21 an_laws_heldIntS Try.f39 [1, 0, 1, 0, 0]) nm0_laws_heldIntS (kt0_laws_heldIntS (fin_laws_heldIntS a0 k1 kk)) n (can0_laws_heldIntS a0 xk1 xi5)) = L0_laws_heldIntS a0 (fun r0 => kk (.one (.c (.v (.int .i64 r0)))) []) n := by
      funext xk1 xi5; exact ih xk1 xi5
    rw [hb]
    rfl
theorem g_laws_heldIntS (a0 : List Int) (k1 : Int) (kk : AV → List A1 → Prop) :
    ev TT cs_laws_heldIntS 21 an_laws_heldIntS (Try.f39.body.getD .skip) (st0 con_laws_heldIntS [.c (.ro .int a0), .c (.v (.int .i64 k1))]) (fin TT con_laws_heldIntS Try.f39.results.toList [.c .sc] [.c (.ro .int a0), .c (.v (.int .i64 k1))] kk) = G_laws_heldIntS a0 k1 (fun a0 xk1 xi5 => ∃ j, iter (evF TT cs_laws_heldIntS 21 an_laws_heldIntS Try.f39 [1, 0, 1, 0, 0]) nm0_laws_heldIntS (kt0_laws_heldIntS (fin_laws_heldIntS a0 k1 kk)) j (can0_laws_heldIntS a0 xk1 xi5)) := by kernel_rfl
theorem e_laws_heldIntS (a0 : List Int) (k1 : Int) (kk : AV → List A1 → Prop) :
    ev TT cs_laws_heldIntS 21 an_laws_heldIntS (Try.f39.body.getD .skip) (st0 con_laws_heldIntS [.c (.ro .int a0), .c (.v (.int .i64 k1))]) (fin TT con_laws_heldIntS Try.f39.results.toList [.c .sc] [.c (.ro .int a0), .c (.v (.int .i64 k1))] kk) = S_laws_heldIntS a0 k1 (fun r0 => kk (.one (.c (.v (.int .i64 r0)))) []) := by
  rw [g_laws_heldIntS]
  have hi0 : (fun a0 xk1 xi5 => ∃ j, iter (evF TT cs_laws_heldIntS 21 an_laws_heldIntS Try.f39 [1, 0, 1, 0, 0]) nm0_laws_heldIntS (kt0_laws_heldIntS (fin_laws_heldIntS a0 k1 kk)) j (can0_laws_heldIntS a0 xk1 xi5)) = (fun a0 xk1 xi5 => ∃ j, L0_laws_heldIntS a0 (fun r0 => kk (.one (.c (.v (.int .i64 r0)))) []) j xk1 xi5) := by
    funext a0 xk1 xi5
    refine congrArg Exists (funext fun j => ?_)
    rw [l0_laws_heldIntS a0 k1 kk j xk1 xi5]
  rw [hi0]
  rfl
theorem clok_laws_heldIntS : ConOK Try.prog cl_laws_heldIntS := consNil
theorem cok_laws_heldIntS : ConsOK Try.prog 21 cs_laws_heldIntS := ⟨clok_laws_heldIntS, inlNil, ovNil⟩
theorem i_laws_heldIntS {vs : List A1} {kk : AV → List A1 → Prop} {motive : List A1 → Prop} (h : con_laws_heldIntS.F vs kk) (H : ∀ (a0 : List Int) (k1 : Int), F_laws_heldIntS a0 k1 (fun r0 => kk (.one (.c (.v (.int .i64 r0)))) []) → motive [.c (.ro .int a0), .c (.v (.int .i64 k1))]) : motive vs := by
  unfold con_laws_heldIntS at h
  dsimp only at h
  split at h
  · exact H _ _ h
  · exact h.elim
theorem h_laws_heldIntS : Holds Try.prog 39 con_laws_heldIntS := by
  refine holds_of_ev (rt := [.c .sc]) (T := TT) (Γ := cs_laws_heldIntS) (an := an_laws_heldIntS) (N := 21) (c := Try.f39.body.getD .skip) Try.func39 (by kernel_rfl) Try.ntmps39 (by decide) (by decide) mixed tabOK cok_laws_heldIntS (by kernel_rfl) ?_
  intro vs kk _ hF
  exact i_laws_heldIntS (motive := fun vs => Goes (ev TT cs_laws_heldIntS 21 an_laws_heldIntS (Try.f39.body.getD .skip) (st0 con_laws_heldIntS vs) (fin TT con_laws_heldIntS Try.f39.results.toList [.c .sc] vs kk))) hF (fun a0 k1 hF => goes_of (e_laws_heldIntS a0 k1 kk) (F_laws_heldIntS_S hF))
def con_laws_FnExactLoopTrace : Con := ⟨[.rd, .rd], true, [.c (.sc), .c (.sc)], fun vs k => match vs with
    | [.c (.v (.int .i64 aN0)), .c (.v (.int .i64 aLength1))] => F_laws_FnExactLoopTrace aN0 aLength1 (fun r0 => k (.one (.c (.v (.bool r0)))) [])
    | _ => False, false⟩
def cl_laws_FnExactLoopTrace : List (FuncId × Con) := [(17, con_impl_LoopTrace), (25, con_spec_LoopTrace), (37, con_laws_eqIntS), (38, con_laws_markIntS), (39, con_laws_heldIntS)]
def an_laws_FnExactLoopTrace : Ann := ⟨[], [], [], []⟩
def cs_laws_FnExactLoopTrace : Cons := ⟨cl_laws_FnExactLoopTrace, [], 0, [], [], []⟩
def fin_laws_FnExactLoopTrace (aN0 : Int) (aLength1 : Int) (kk : AV → List A1 → Prop) : Kt := fin TT con_laws_FnExactLoopTrace Try.f11.results.toList [.c .sc] [.c (.v (.int .i64 aN0)), .c (.v (.int .i64 aLength1))] kk
theorem g_laws_FnExactLoopTrace (aN0 : Int) (aLength1 : Int) (kk : AV → List A1 → Prop) :
    ev TT cs_laws_FnExactLoopTrace 46 an_laws_FnExactLoopTrace (Try.f11.body.getD .skip) (st0 con_laws_FnExactLoopTrace [.c (.v (.int .i64 aN0)), .c (.v (.int .i64 aLength1))]) (fin TT con_laws_FnExactLoopTrace Try.f11.results.toList [.c .sc] [.c (.v (.int .i64 aN0)), .c (.v (.int .i64 aLength1))] kk) = G_laws_FnExactLoopTrace aN0 aLength1 (fun r0 => kk (.one (.c (.v (.bool r0)))) []) := by kernel_rfl
theorem e_laws_FnExactLoopTrace (aN0 : Int) (aLength1 : Int) (kk : AV → List A1 → Prop) :
    ev TT cs_laws_FnExactLoopTrace 46 an_laws_FnExactLoopTrace (Try.f11.body.getD .skip) (st0 con_laws_FnExactLoopTrace [.c (.v (.int .i64 aN0)), .c (.v (.int .i64 aLength1))]) (fin TT con_laws_FnExactLoopTrace Try.f11.results.toList [.c .sc] [.c (.v (.int .i64 aN0)), .c (.v (.int .i64 aLength1))] kk) = S_laws_FnExactLoopTrace aN0 aLength1 (fun r0 => kk (.one (.c (.v (.bool r0)))) []) := by
  rw [g_laws_FnExactLoopTrace]
  rfl
theorem clok_laws_FnExactLoopTrace : ConOK Try.prog cl_laws_FnExactLoopTrace := consCons h_impl_LoopTrace ⟨Try.f17, Try.func17, by kernel_rfl, ne_of_beq (by kernel_rfl)⟩ (consCons h_spec_LoopTrace ⟨Try.f25, Try.func25, by kernel_rfl, ne_of_beq (by kernel_rfl)⟩ (consCons h_laws_eqIntS ⟨Try.f37, Try.func37, by kernel_rfl, ne_of_beq (by kernel_rfl)⟩ (consCons h_laws_markIntS ⟨Try.f38, Try.func38, by kernel_rfl, ne_of_beq (by kernel_rfl)⟩ (consCons h_laws_heldIntS ⟨Try.f39, Try.func39, by kernel_rfl, ne_of_beq (by kernel_rfl)⟩ (consNil)))))
theorem cok_laws_FnExactLoopTrace : ConsOK Try.prog 46 cs_laws_FnExactLoopTrace := ⟨clok_laws_FnExactLoopTrace, inlNil, ovNil⟩
theorem i_laws_FnExactLoopTrace {vs : List A1} {kk : AV → List A1 → Prop} {motive : List A1 → Prop} (h : con_laws_FnExactLoopTrace.F vs kk) (H : ∀ (aN0 : Int) (aLength1 : Int), F_laws_FnExactLoopTrace aN0 aLength1 (fun r0 => kk (.one (.c (.v (.bool r0)))) []) → motive [.c (.v (.int .i64 aN0)), .c (.v (.int .i64 aLength1))]) : motive vs := by
  unfold con_laws_FnExactLoopTrace at h
  dsimp only at h
  split at h
  · exact H _ _ h
  · exact h.elim
theorem h_laws_FnExactLoopTrace : Holds Try.prog 11 con_laws_FnExactLoopTrace := by
  refine holds_of_ev (rt := [.c .sc]) (T := TT) (Γ := cs_laws_FnExactLoopTrace) (an := an_laws_FnExactLoopTrace) (N := 46) (c := Try.f11.body.getD .skip) Try.func11 (by kernel_rfl) Try.ntmps11 (by decide) (by decide) mixed tabOK cok_laws_FnExactLoopTrace (by kernel_rfl) ?_
  intro vs kk _ hF
  exact i_laws_FnExactLoopTrace (motive := fun vs => Goes (ev TT cs_laws_FnExactLoopTrace 46 an_laws_FnExactLoopTrace (Try.f11.body.getD .skip) (st0 con_laws_FnExactLoopTrace vs) (fin TT con_laws_FnExactLoopTrace Try.f11.results.toList [.c .sc] vs kk))) hF (fun aN0 aLength1 hF => goes_of (e_laws_FnExactLoopTrace aN0 aLength1 kk) (F_laws_FnExactLoopTrace_S hF))
end Go.Ev
