/- What the evaluator gives for these functions: their contracts. No statement is proved here. -/
import Derived.Test.YtemhpncmhdcheaaFnLoopTraceDistanceP0
import Derived.Test.YtemhpncmhdcheaaTt
namespace Go.Ev
set_option linter.unusedVariables false
set_option linter.unusedSimpArgs false
set_option maxRecDepth 100000
open Go Go.Proofs
def con_spec_newReader : Con := ⟨[.rd], true, [.c (.sl .u8)], fun vs k => match vs with
    | [.c (.ro .u8 code0)] => F_spec_newReader code0 (fun r0 r1 => k (.one (.agg [.ro .u8 r0, .v (.int .i64 r1)])) [])
    | _ => False, true⟩
def cl_spec_newReader : List (FuncId × Con) := []
def an_spec_newReader : Ann := ⟨[], [], [], []⟩
def cs_spec_newReader : Cons := ⟨cl_spec_newReader, [], 0, [], [], []⟩
def fin_spec_newReader (code0 : List Int) (kk : AV → List A1 → Prop) : Kt := finB Try.f54.results.toList [.sl .u8, .sc] kk
theorem g_spec_newReader (code0 : List Int) (kk : AV → List A1 → Prop) :
    ev TT cs_spec_newReader 11 an_spec_newReader (Try.f54.body.getD .skip) (st0 con_spec_newReader [.c (.ro .u8 code0)]) (finB Try.f54.results.toList [.sl .u8, .sc] kk) = G_spec_newReader code0 (fun r0 r1 => kk (.one (.agg [.ro .u8 r0, .v (.int .i64 r1)])) []) := by kernel_rfl
theorem e_spec_newReader (code0 : List Int) (kk : AV → List A1 → Prop) :
    ev TT cs_spec_newReader 11 an_spec_newReader (Try.f54.body.getD .skip) (st0 con_spec_newReader [.c (.ro .u8 code0)]) (finB Try.f54.results.toList [.sl .u8, .sc] kk) = S_spec_newReader code0 (fun r0 r1 => kk (.one (.agg [.ro .u8 r0, .v (.int .i64 r1)])) []) := by
  rw [g_spec_newReader]
  rfl
theorem clok_spec_newReader : ConOK Try.prog cl_spec_newReader := consNil
theorem cok_spec_newReader : ConsOK Try.prog 11 cs_spec_newReader := ⟨clok_spec_newReader, inlNil, ovNil⟩
theorem i_spec_newReader {vs : List A1} {kk : AV → List A1 → Prop} {motive : List A1 → Prop} (h : con_spec_newReader.F vs kk) (H : ∀ (code0 : List Int), F_spec_newReader code0 (fun r0 r1 => kk (.one (.agg [.ro .u8 r0, .v (.int .i64 r1)])) []) → motive [.c (.ro .u8 code0)]) : motive vs := by
  unfold con_spec_newReader at h
  dsimp only at h
  split at h
  · exact H _ h
  · exact h.elim
theorem h_spec_newReader : HoldsB Try.prog 54 con_spec_newReader := by
  refine holdsB_of_ev (ts := [.sl .u8, .sc]) (T := TT) (Γ := cs_spec_newReader) (an := an_spec_newReader) (N := 11) (c := Try.f54.body.getD .skip) Try.func54 (by kernel_rfl) Try.ntmps54 (by decide) (by decide) mixed tabOK cok_spec_newReader (by kernel_rfl) ?_
  intro vs kk _ hF
  exact i_spec_newReader (motive := fun vs => Goes (ev TT cs_spec_newReader 11 an_spec_newReader (Try.f54.body.getD .skip) (st0 con_spec_newReader vs) (finB Try.f54.results.toList [.sl .u8, .sc] kk))) hF (fun code0 hF => goes_of (e_spec_newReader code0 kk) (F_spec_newReader_S hF))
def con_spec_reader_pick : Con := ⟨[.mu, .rd], true, [.ptr [.sl .u8, .sc], .c (.sc)], fun vs k => match vs with
    | [.ptr [.ro .u8 r0b, .v (.int .i64 r0p)], .c (.v (.int .i64 n1))] => F_spec_reader_pick r0b r0p n1 (fun r0 r1 r2 => k (.one (.c (.v (.int .i64 r0)))) [.ptr [.ro .u8 r1, .v (.int .i64 r2)]])
    | _ => False, false⟩
def cl_spec_reader_pick : List (FuncId × Con) := []
def an_spec_reader_pick : Ann := ⟨[(7, .take 0 (.take 1 (.take 2 (.take 3 (.take 4 (.take 5 (.take 6 (.take 7 (.take 8 (.take 9 (.take 10 (.take 11 (.take 12 (.take 13 (.take 14 (.take 15 (.take 16 (.take 17 (.take 18 (.take 19 (.take 20 (.take 21 (.take 22 (.take 23 (.take 24 (.take 25 (.take 26 (.take 27 (.take 28 (.take 29 (.take 30 (.take 31 (.take 32 (.take 33 (.take 34 (.take 35 (.take 36 (.take 37 (.take 38 (.take 39 (.take 40 (.take 41 (.take 42 (.take 43 (.take 44 (.take 45 (.done)))))))))))))))))))))))))))))))))))))))))))))), [100000])], [], [], []⟩
def cs_spec_reader_pick : Cons := ⟨cl_spec_reader_pick, [], 0, [], [], []⟩
def fin_spec_reader_pick (r0b : List Int) (r0p : Int) (n1 : Int) (kk : AV → List A1 → Prop) : Kt := fin TT con_spec_reader_pick Try.f62.results.toList [.c .sc] [.ptr [.ro .u8 r0b, .v (.int .i64 r0p)], .c (.v (.int .i64 n1))] kk
theorem g_spec_reader_pick (r0b : List Int) (r0p : Int) (n1 : Int) (kk : AV → List A1 → Prop) :
    ev TT cs_spec_reader_pick 99 an_spec_reader_pick (Try.f62.body.getD .skip) (st0 con_spec_reader_pick [.ptr [.ro .u8 r0b, .v (.int .i64 r0p)], .c (.v (.int .i64 n1))]) (fin TT con_spec_reader_pick Try.f62.results.toList [.c .sc] [.ptr [.ro .u8 r0b, .v (.int .i64 r0p)], .c (.v (.int .i64 n1))] kk) = G_spec_reader_pick r0b r0p n1 (fun r0 r1 r2 => kk (.one (.c (.v (.int .i64 r0)))) [.ptr [.ro .u8 r1, .v (.int .i64 r2)]]) := by kernel_rfl
theorem e_spec_reader_pick (r0b : List Int) (r0p : Int) (n1 : Int) (kk : AV → List A1 → Prop) :
    ev TT cs_spec_reader_pick 99 an_spec_reader_pick (Try.f62.body.getD .skip) (st0 con_spec_reader_pick [.ptr [.ro .u8 r0b, .v (.int .i64 r0p)], .c (.v (.int .i64 n1))]) (fin TT con_spec_reader_pick Try.f62.results.toList [.c .sc] [.ptr [.ro .u8 r0b, .v (.int .i64 r0p)], .c (.v (.int .i64 n1))] kk) = S_spec_reader_pick r0b r0p n1 (fun r0 r1 r2 => kk (.one (.c (.v (.int .i64 r0)))) [.ptr [.ro .u8 r1, .v (.int .i64 r2)]]) := by
  rw [g_spec_reader_pick]
  rfl
theorem clok_spec_reader_pick : ConOK Try.prog cl_spec_reader_pick := consNil
theorem cok_spec_reader_pick : ConsOK Try.prog 99 cs_spec_reader_pick := ⟨clok_spec_reader_pick, inlNil, ovNil⟩
theorem i_spec_reader_pick {vs : List A1} {kk : AV → List A1 → Prop} {motive : List A1 → Prop} (h : con_spec_reader_pick.F vs kk) (H : ∀ (r0b : List Int) (r0p : Int) (n1 : Int), F_spec_reader_pick r0b r0p n1 (fun r0 r1 r2 => kk (.one (.c (.v (.int .i64 r0)))) [.ptr [.ro .u8 r1, .v (.int .i64 r2)]]) → motive [.ptr [.ro .u8 r0b, .v (.int .i64 r0p)], .c (.v (.int .i64 n1))]) : motive vs := by
  unfold con_spec_reader_pick at h
  dsimp only at h
  split at h
  · exact H _ _ _ h
  · exact h.elim
theorem h_spec_reader_pick : Holds Try.prog 62 con_spec_reader_pick := by
  refine holds_of_ev (rt := [.c .sc]) (T := TT) (Γ := cs_spec_reader_pick) (an := an_spec_reader_pick) (N := 99) (c := Try.f62.body.getD .skip) Try.func62 (by kernel_rfl) Try.ntmps62 (by decide) (by decide) mixed tabOK cok_spec_reader_pick (by kernel_rfl) ?_
  intro vs kk _ hF
  exact i_spec_reader_pick (motive := fun vs => Goes (ev TT cs_spec_reader_pick 99 an_spec_reader_pick (Try.f62.body.getD .skip) (st0 con_spec_reader_pick vs) (fin TT con_spec_reader_pick Try.f62.results.toList [.c .sc] vs kk))) hF (fun r0b r0p n1 hF => goes_of (e_spec_reader_pick r0b r0p n1 kk) (F_spec_reader_pick_S hF))
def con_spec_reader_one : Con := ⟨[.mu, .rd], true, [.ptr [.sl .u8, .sc], .c (.sl .int)], fun vs k => match vs with
    | [.ptr [.ro .u8 r0b, .v (.int .i64 r0p)], .c (.ro .int list1)] => F_spec_reader_one r0b r0p list1 (fun r0 r1 r2 => k (.one (.c (.v (.int .i64 r0)))) [.ptr [.ro .u8 r1, .v (.int .i64 r2)]])
    | _ => False, false⟩
def cl_spec_reader_one : List (FuncId × Con) := [(62, con_spec_reader_pick)]
def an_spec_reader_one : Ann := ⟨[], [], [], []⟩
def cs_spec_reader_one : Cons := ⟨cl_spec_reader_one, [], 0, [], [], []⟩
def fin_spec_reader_one (r0b : List Int) (r0p : Int) (list1 : List Int) (kk : AV → List A1 → Prop) : Kt := fin TT con_spec_reader_one Try.f55.results.toList [.c .sc] [.ptr [.ro .u8 r0b, .v (.int .i64 r0p)], .c (.ro .int list1)] kk
theorem g_spec_reader_one (r0b : List Int) (r0p : Int) (list1 : List Int) (kk : AV → List A1 → Prop) :
    ev TT cs_spec_reader_one 12 an_spec_reader_one (Try.f55.body.getD .skip) (st0 con_spec_reader_one [.ptr [.ro .u8 r0b, .v (.int .i64 r0p)], .c (.ro .int list1)]) (fin TT con_spec_reader_one Try.f55.results.toList [.c .sc] [.ptr [.ro .u8 r0b, .v (.int .i64 r0p)], .c (.ro .int list1)] kk) = G_spec_reader_one r0b r0p list1 (fun r0 r1 r2 => kk (.one (.c (.v (.int .i64 r0)))) [.ptr [.ro .u8 r1, .v (.int .i64 r2)]]) := by kernel_rfl
theorem e_spec_reader_one (r0b : List Int) (r0p : Int) (list1 : List Int) (kk : AV → List A1 → Prop) :
    ev TT cs_spec_reader_one 12 an_spec_reader_one (Try.f55.body.getD .skip) (st0 con_spec_reader_one [.ptr [.ro .u8 r0b, .v (.int .i64 r0p)], .c (.ro .int list1)]) (fin TT con_spec_reader_one Try.f55.results.toList [.c .sc] [.ptr [.ro .u8 r0b, .v (.int .i64 r0p)], .c (.ro .int list1)] kk) = S_spec_reader_one r0b r0p list1 (fun r0 r1 r2 => kk (.one (.c (.v (.int .i64 r0)))) [.ptr [.ro .u8 r1, .v (.int .i64 r2)]]) := by
  rw [g_spec_reader_one]
  rfl
theorem clok_spec_reader_one : ConOK Try.prog cl_spec_reader_one := consCons h_spec_reader_pick ⟨Try.f62, Try.func62, by kernel_rfl, ne_of_beq (by kernel_rfl)⟩ (consNil)
theorem cok_spec_reader_one : ConsOK Try.prog 12 cs_spec_reader_one := ⟨clok_spec_reader_one, inlNil, ovNil⟩
theorem i_spec_reader_one {vs : List A1} {kk : AV → List A1 → Prop} {motive : List A1 → Prop} (h : con_spec_reader_one.F vs kk) (H : ∀ (r0b : List Int) (r0p : Int) (list1 : List Int), F_spec_reader_one r0b r0p list1 (fun r0 r1 r2 => kk (.one (.c (.v (.int .i64 r0)))) [.ptr [.ro .u8 r1, .v (.int .i64 r2)]]) → motive [.ptr [.ro .u8 r0b, .v (.int .i64 r0p)], .c (.ro .int list1)]) : motive vs := by
  unfold con_spec_reader_one at h
  dsimp only at h
  split at h
  · exact H _ _ _ h
  · exact h.elim
theorem h_spec_reader_one : Holds Try.prog 55 con_spec_reader_one := by
  refine holds_of_ev (rt := [.c .sc]) (T := TT) (Γ := cs_spec_reader_one) (an := an_spec_reader_one) (N := 12) (c := Try.f55.body.getD .skip) Try.func55 (by kernel_rfl) Try.ntmps55 (by decide) (by decide) mixed tabOK cok_spec_reader_one (by kernel_rfl) ?_
  intro vs kk _ hF
  exact i_spec_reader_one (motive := fun vs => Goes (ev TT cs_spec_reader_one 12 an_spec_reader_one (Try.f55.body.getD .skip) (st0 con_spec_reader_one vs) (fin TT con_spec_reader_one Try.f55.results.toList [.c .sc] vs kk))) hF (fun r0b r0p list1 hF => goes_of (e_spec_reader_one r0b r0p list1 kk) (F_spec_reader_one_S hF))
def con_spec_DrawLoopTrace : Con := ⟨[.rd], true, [.c (.sl .u8)], fun vs k => match vs with
    | [.c (.ro .u8 code0)] => F_spec_DrawLoopTrace code0 (fun r0 r1 => k (.tup [.c (.v (.int .i64 r0)), .c (.v (.int .i64 r1))]) [])
    | _ => False, false⟩
def cl_spec_DrawLoopTrace : List (FuncId × Con) := [(54, con_spec_newReader), (55, con_spec_reader_one)]
def an_spec_DrawLoopTrace : Ann := ⟨[], [], [], []⟩
def cs_spec_DrawLoopTrace : Cons := ⟨cl_spec_DrawLoopTrace, [], 0, [], [], []⟩
def fin_spec_DrawLoopTrace (code0 : List Int) (kk : AV → List A1 → Prop) : Kt := fin TT con_spec_DrawLoopTrace Try.f24.results.toList [.c .sc, .c .sc] [.c (.ro .u8 code0)] kk
theorem g_spec_DrawLoopTrace (code0 : List Int) (kk : AV → List A1 → Prop) :
    ev TT cs_spec_DrawLoopTrace 15 an_spec_DrawLoopTrace (Try.f24.body.getD .skip) (st0 con_spec_DrawLoopTrace [.c (.ro .u8 code0)]) (fin TT con_spec_DrawLoopTrace Try.f24.results.toList [.c .sc, .c .sc] [.c (.ro .u8 code0)] kk) = G_spec_DrawLoopTrace code0 (fun r0 r1 => kk (.tup [.c (.v (.int .i64 r0)), .c (.v (.int .i64 r1))]) []) := by kernel_rfl
theorem e_spec_DrawLoopTrace (code0 : List Int) (kk : AV → List A1 → Prop) :
    ev TT cs_spec_DrawLoopTrace 15 an_spec_DrawLoopTrace (Try.f24.body.getD .skip) (st0 con_spec_DrawLoopTrace [.c (.ro .u8 code0)]) (fin TT con_spec_DrawLoopTrace Try.f24.results.toList [.c .sc, .c .sc] [.c (.ro .u8 code0)] kk) = S_spec_DrawLoopTrace code0 (fun r0 r1 => kk (.tup [.c (.v (.int .i64 r0)), .c (.v (.int .i64 r1))]) []) := by
  rw [g_spec_DrawLoopTrace]
  rfl
theorem clok_spec_DrawLoopTrace : ConOK Try.prog cl_spec_DrawLoopTrace := consCons h_spec_newReader ⟨Try.f54, Try.func54, by kernel_rfl, ne_of_beq (by kernel_rfl)⟩ (consCons h_spec_reader_one ⟨Try.f55, Try.func55, by kernel_rfl, ne_of_beq (by kernel_rfl)⟩ (consNil))
theorem cok_spec_DrawLoopTrace : ConsOK Try.prog 15 cs_spec_DrawLoopTrace := ⟨clok_spec_DrawLoopTrace, inlNil, ovNil⟩
theorem i_spec_DrawLoopTrace {vs : List A1} {kk : AV → List A1 → Prop} {motive : List A1 → Prop} (h : con_spec_DrawLoopTrace.F vs kk) (H : ∀ (code0 : List Int), F_spec_DrawLoopTrace code0 (fun r0 r1 => kk (.tup [.c (.v (.int .i64 r0)), .c (.v (.int .i64 r1))]) []) → motive [.c (.ro .u8 code0)]) : motive vs := by
  unfold con_spec_DrawLoopTrace at h
  dsimp only at h
  split at h
  · exact H _ h
  · exact h.elim
theorem h_spec_DrawLoopTrace : Holds Try.prog 24 con_spec_DrawLoopTrace := by
  refine holds_of_ev (rt := [.c .sc, .c .sc]) (T := TT) (Γ := cs_spec_DrawLoopTrace) (an := an_spec_DrawLoopTrace) (N := 15) (c := Try.f24.body.getD .skip) Try.func24 (by kernel_rfl) Try.ntmps24 (by decide) (by decide) mixed tabOK cok_spec_DrawLoopTrace (by kernel_rfl) ?_
  intro vs kk _ hF
  exact i_spec_DrawLoopTrace (motive := fun vs => Goes (ev TT cs_spec_DrawLoopTrace 15 an_spec_DrawLoopTrace (Try.f24.body.getD .skip) (st0 con_spec_DrawLoopTrace vs) (fin TT con_spec_DrawLoopTrace Try.f24.results.toList [.c .sc, .c .sc] vs kk))) hF (fun code0 hF => goes_of (e_spec_DrawLoopTrace code0 kk) (F_spec_DrawLoopTrace_S hF))
def con_impl_LoopTrace : Con := ⟨[.rd, .rd], true, [.c (.sc), .c (.sc)], fun vs k => match vs with
    | [.c (.v (.int .i64 n0)), .c (.v (.int .i64 length1))] => F_impl_LoopTrace n0 length1 (fun r0 => k (.one (.c (.ro .int r0))) [])
    | _ => False, false⟩
def cl_impl_LoopTrace : List (FuncId × Con) := []
def nm0_impl_LoopTrace : List NStep := [.keep [0, 5, 24, 25] [352]]
def an_impl_LoopTrace : Ann := ⟨[], [(5, nm0_impl_LoopTrace)], [], []⟩
def cs_impl_LoopTrace : Cons := ⟨cl_impl_LoopTrace, [], 0, [], [], []⟩
def can0_impl_LoopTrace (n0 : Int) (xt24 : Int) (xt25 : Int) (xy22 : List Int) : St := ⟨[(0, .one (.c (.v (.int .i64 n0)))), (5, .one (.c (.ow 352))), (24, .one (.c (.v (.int .i64 xt24)))), (25, .one (.c (.v (.int .i64 xt25))))], [(352, .row .int xy22)]⟩
def fin_impl_LoopTrace (n0 : Int) (length1 : Int) (kk : AV → List A1 → Prop) : Kt := fin TT con_impl_LoopTrace Try.f17.results.toList [.c (.sl .int)] [.c (.v (.int .i64 n0)), .c (.v (.int .i64 length1))] kk
def kt0_impl_LoopTrace (kf : Kt) : Kt := blockK 0 (seqK (evF TT cs_impl_LoopTrace 36 an_impl_LoopTrace Try.f17 [1, 1, 1, 1]) (kf))
theorem r0_impl_LoopTrace (n0 : Int) (length1 : Int) (xt24 : Int) (kk : AV → List A1 → Prop) (n : Nat) (xt25 : Int) (xy22 : List Int) :
    iter (evF TT cs_impl_LoopTrace 36 an_impl_LoopTrace Try.f17 [1, 1, 1, 0, 1, 0, 0]) nm0_impl_LoopTrace (kt0_impl_LoopTrace (fin_impl_LoopTrace n0 length1 kk)) (n + 1) (can0_impl_LoopTrace n0 xt24 xt25 xy22) = T0_impl_LoopTrace n0 xt24 xt25 xy22 (fun r0 => kk (.one (.c (.ro .int r0))) []) (fun xt25 xy22 => iter (evF TT cs_impl_LoopTrace 36 an_impl_LoopTrace Try.f17 [1, 1, 1, 0, 1, 0, 0]) nm0_impl_LoopTrace (kt0_impl_LoopTrace (fin_impl_LoopTrace n0 length1 kk)) n (can0_impl_LoopTrace n0 xt24 xt25 xy22)) := by kernel_rfl
theorem l0_impl_LoopTrace (n0 : Int) (length1 : Int) (xt24 : Int) (kk : AV → List A1 → Prop) : ∀ (n : Nat) (xt25 : Int) (xy22 : List Int), iter (evF TT cs_impl_LoopTrace 36 an_impl_LoopTrace Try.f17 [1, 1, 1, 0, 1, 0, 0]) nm0_impl_LoopTrace (kt0_impl_LoopTrace (fin_impl_LoopTrace n0 length1 kk)) n (can0_impl_LoopTrace n0 xt24 xt25 xy22) = L0_impl_LoopTrace n0 xt24 (fun r0 => kk (.one (.c (.ro .int r0))) []) n xt25 xy22 := by
  intro n
  induction n with
  | zero => intros; rfl
  | succ n ih =>
    intro xt25 xy22
    rw [r0_impl_LoopTrace n0 length1 xt24 kk n xt25 xy22]
    have hb : (fun xt25 xy22 => iter (evF TT cs_impl_LoopTrace 36 an_impl_LoopTrace Try.f17 [1, 1, 1, 0, 1, 0, 0]) nm0_impl_LoopTrace (kt0_impl_LoopTrace (fin_impl_LoopTrace n0 length1 kk)) n (can0_impl_LoopTrace n0 xt24 xt25 xy22)) = L0_impl_LoopTrace n0 xt24 (fun r0 => kk (.one (.c (.ro .int r0))) []) n := by
      funext xt25 xy22; exact ih xt25 xy22
    rw [hb]
    rfl
theorem g_impl_LoopTrace (n0 : Int) (length1 : Int) (kk : AV → List A1 → Prop) :
    ev TT cs_impl_LoopTrace 36 an_impl_LoopTrace (Try.f17.body.getD .skip) (st0 con_impl_LoopTrace [.c (.v (.int .i64 n0)), .c (.v (.int .i64 length1))]) (fin TT con_impl_LoopTrace Try.f17.results.toList [.c (.sl .int)] [.c (.v (.int .i64 n0)), .c (.v (.int .i64 length1))] kk) = G_impl_LoopTrace n0 length1 (fun r0 => kk (.one (.c (.ro .int r0))) []) (fun n0 xt24 xt25 xy22 => ∃ j, iter (evF TT cs_impl_LoopTrace 36 an_impl_LoopTrace Try.f17 [1, 1, 1, 0, 1, 0, 0]) nm0_impl_LoopTrace (kt0_impl_LoopTrace (fin_impl_LoopTrace n0 length1 kk)) j (can0_impl_LoopTrace n0 xt24 xt25 xy22)) := by kernel_rfl
theorem e_impl_LoopTrace (n0 : Int) (length1 : Int) (kk : AV → List A1 → Prop) :
    ev TT cs_impl_LoopTrace 36 an_impl_LoopTrace (Try.f17.body.getD .skip) (st0 con_impl_LoopTrace [.c (.v (.int .i64 n0)), .c (.v (.int .i64 length1))]) (fin TT con_impl_LoopTrace Try.f17.results.toList [.c (.sl .int)] [.c (.v (.int .i64 n0)), .c (.v (.int .i64 length1))] kk) = S_impl_LoopTrace n0 length1 (fun r0 => kk (.one (.c (.ro .int r0))) []) := by
  rw [g_impl_LoopTrace]
  have hi0 : (fun n0 xt24 xt25 xy22 => ∃ j, iter (evF TT cs_impl_LoopTrace 36 an_impl_LoopTrace Try.f17 [1, 1, 1, 0, 1, 0, 0]) nm0_impl_LoopTrace (kt0_impl_LoopTrace (fin_impl_LoopTrace n0 length1 kk)) j (can0_impl_LoopTrace n0 xt24 xt25 xy22)) = (fun n0 xt24 xt25 xy22 => ∃ j, L0_impl_LoopTrace n0 xt24 (fun r0 => kk (.one (.c (.ro .int r0))) []) j xt25 xy22) := by
    funext n0 xt24 xt25 xy22
    refine congrArg Exists (funext fun j => ?_)
    rw [l0_impl_LoopTrace n0 length1 xt24 kk j xt25 xy22]
  rw [hi0]
  rfl
theorem clok_impl_LoopTrace : ConOK Try.prog cl_impl_LoopTrace := consNil
theorem cok_impl_LoopTrace : ConsOK Try.prog 36 cs_impl_LoopTrace := ⟨clok_impl_LoopTrace, inlNil, ovNil⟩
theorem i_impl_LoopTrace {vs : List A1} {kk : AV → List A1 → Prop} {motive : List A1 → Prop} (h : con_impl_LoopTrace.F vs kk) (H : ∀ (n0 : Int) (length1 : Int), F_impl_LoopTrace n0 length1 (fun r0 => kk (.one (.c (.ro .int r0))) []) → motive [.c (.v (.int .i64 n0)), .c (.v (.int .i64 length1))]) : motive vs := by
  unfold con_impl_LoopTrace at h
  dsimp only at h
  split at h
  · exact H _ _ h
  · exact h.elim
theorem h_impl_LoopTrace : Holds Try.prog 17 con_impl_LoopTrace := by
  refine holds_of_ev (rt := [.c (.sl .int)]) (T := TT) (Γ := cs_impl_LoopTrace) (an := an_impl_LoopTrace) (N := 36) (c := Try.f17.body.getD .skip) Try.func17 (by kernel_rfl) Try.ntmps17 (by decide) (by decide) mixed tabOK cok_impl_LoopTrace (by kernel_rfl) ?_
  intro vs kk _ hF
  exact i_impl_LoopTrace (motive := fun vs => Goes (ev TT cs_impl_LoopTrace 36 an_impl_LoopTrace (Try.f17.body.getD .skip) (st0 con_impl_LoopTrace vs) (fin TT con_impl_LoopTrace Try.f17.results.toList [.c (.sl .int)] vs kk))) hF (fun n0 length1 hF => goes_of (e_impl_LoopTrace n0 length1 kk) (F_impl_LoopTrace_S hF))
def con_spec_inRange : Con := ⟨[.rd, .rd, .rd], true, [.c (.sc), .c (.sc), .c (.sc)], fun vs k => match vs with
    | [.c (.v (.int .i64 n0)), .c (.v (.int .i64 low1)), .c (.v (.int .i64 high2))] => F_spec_inRange n0 low1 high2 (fun r0 => k (.one (.c (.v (.bool r0)))) [])
    | _ => False, false⟩
def cl_spec_inRange : List (FuncId × Con) := []
def an_spec_inRange : Ann := ⟨[], [], [], []⟩
def cs_spec_inRange : Cons := ⟨cl_spec_inRange, [], 0, [], [], []⟩
def fin_spec_inRange (n0 : Int) (low1 : Int) (high2 : Int) (kk : AV → List A1 → Prop) : Kt := fin TT con_spec_inRange Try.f45.results.toList [.c .sc] [.c (.v (.int .i64 n0)), .c (.v (.int .i64 low1)), .c (.v (.int .i64 high2))] kk
theorem g_spec_inRange (n0 : Int) (low1 : Int) (high2 : Int) (kk : AV → List A1 → Prop) :
    ev TT cs_spec_inRange 15 an_spec_inRange (Try.f45.body.getD .skip) (st0 con_spec_inRange [.c (.v (.int .i64 n0)), .c (.v (.int .i64 low1)), .c (.v (.int .i64 high2))]) (fin TT con_spec_inRange Try.f45.results.toList [.c .sc] [.c (.v (.int .i64 n0)), .c (.v (.int .i64 low1)), .c (.v (.int .i64 high2))] kk) = G_spec_inRange n0 low1 high2 (fun r0 => kk (.one (.c (.v (.bool r0)))) []) := by kernel_rfl
theorem e_spec_inRange (n0 : Int) (low1 : Int) (high2 : Int) (kk : AV → List A1 → Prop) :
    ev TT cs_spec_inRange 15 an_spec_inRange (Try.f45.body.getD .skip) (st0 con_spec_inRange [.c (.v (.int .i64 n0)), .c (.v (.int .i64 low1)), .c (.v (.int .i64 high2))]) (fin TT con_spec_inRange Try.f45.results.toList [.c .sc] [.c (.v (.int .i64 n0)), .c (.v (.int .i64 low1)), .c (.v (.int .i64 high2))] kk) = S_spec_inRange n0 low1 high2 (fun r0 => kk (.one (.c (.v (.bool r0)))) []) := by
  rw [g_spec_inRange]
  rfl
theorem clok_spec_inRange : ConOK Try.prog cl_spec_inRange := consNil
theorem cok_spec_inRange : ConsOK Try.prog 15 cs_spec_inRange := ⟨clok_spec_inRange, inlNil, ovNil⟩
theorem i_spec_inRange {vs : List A1} {kk : AV → List A1 → Prop} {motive : List A1 → Prop} (h : con_spec_inRange.F vs kk) (H : ∀ (n0 : Int) (low1 : Int) (high2 : Int), F_spec_inRange n0 low1 high2 (fun r0 => kk (.one (.c (.v (.bool r0)))) []) → motive [.c (.v (.int .i64 n0)), .c (.v (.int .i64 low1)), .c (.v (.int .i64 high2))]) : motive vs := by
  unfold con_spec_inRange at h
  dsimp only at h
  split at h
  · exact H _ _ _ h
  · exact h.elim
theorem h_spec_inRange : Holds Try.prog 45 con_spec_inRange := by
  refine holds_of_ev (rt := [.c .sc]) (T := TT) (Γ := cs_spec_inRange) (an := an_spec_inRange) (N := 15) (c := Try.f45.body.getD .skip) Try.func45 (by kernel_rfl) Try.ntmps45 (by decide) (by decide) mixed tabOK cok_spec_inRange (by kernel_rfl) ?_
  intro vs kk _ hF
  exact i_spec_inRange (motive := fun vs => Goes (ev TT cs_spec_inRange 15 an_spec_inRange (Try.f45.body.getD .skip) (st0 con_spec_inRange vs) (fin TT con_spec_inRange Try.f45.results.toList [.c .sc] vs kk))) hF (fun n0 low1 high2 hF => goes_of (e_spec_inRange n0 low1 high2 kk) (F_spec_inRange_S hF))
def con_spec_LoopTrace : Con := ⟨[.rd, .rd], true, [.c (.sc), .c (.sc)], fun vs k => match vs with
    | [.c (.v (.int .i64 n0)), .c (.v (.int .i64 length1))] => F_spec_LoopTrace n0 length1 (fun r0 => k (.one (.c (.ro .int r0))) [])
    | _ => False, false⟩
def cl_spec_LoopTrace : List (FuncId × Con) := [(45, con_spec_inRange)]
def nm0_spec_LoopTrace : List NStep := [.own 5 .int 90000, .keep [0, 1, 5, 6] [90000]]
def an_spec_LoopTrace : Ann := ⟨[], [(5, nm0_spec_LoopTrace)], [], []⟩
def cs_spec_LoopTrace : Cons := ⟨cl_spec_LoopTrace, [], 0, [], [], []⟩
def can0_spec_LoopTrace (length1 : Int) (n0 : Int) (xi6 : Int) (xout5 : List Int) : St := ⟨[(0, .one (.c (.v (.int .i64 n0)))), (1, .one (.c (.v (.int .i64 length1)))), (5, .one (.c (.ow 90000))), (6, .one (.c (.v (.int .i64 xi6))))], [(90000, .row .int xout5)]⟩
def fin_spec_LoopTrace (n0 : Int) (length1 : Int) (kk : AV → List A1 → Prop) : Kt := fin TT con_spec_LoopTrace Try.f25.results.toList [.c (.sl .int)] [.c (.v (.int .i64 n0)), .c (.v (.int .i64 length1))] kk
def kt0_spec_LoopTrace (kf : Kt) : Kt := blockK 0 (seqK (evF TT cs_spec_LoopTrace 28 an_spec_LoopTrace Try.f25 [1, 1, 1, 1]) (kf))
theorem r0_spec_LoopTrace (n0 : Int) (length1 : Int) (kk : AV → List A1 → Prop) (n : Nat) (xi6 : Int) (xout5 : List Int) :
    iter (evF TT cs_spec_LoopTrace 28 an_spec_LoopTrace Try.f25 [1, 1, 1, 0, 1, 0, 0]) nm0_spec_LoopTrace (kt0_spec_LoopTrace (fin_spec_LoopTrace n0 length1 kk)) (n + 1) (can0_spec_LoopTrace length1 n0 xi6 xout5) = T0_spec_LoopTrace length1 n0 xi6 xout5 (fun r0 => kk (.one (.c (.ro .int r0))) []) (fun xi6 xout5 => iter (evF TT cs_spec_LoopTrace 28 an_spec_LoopTrace Try.f25 [1, 1, 1, 0, 1, 0, 0]) nm0_spec_LoopTrace (kt0_spec_LoopTrace (fin_spec_LoopTrace n0 length1 kk)) n (can0_spec_LoopTrace length1 n0 xi6 xout5)) := by kernel_rfl
theorem l0_spec_LoopTrace (n0 : Int) (length1 : Int) (kk : AV → List A1 → Prop) : ∀ (n : Nat) (xi6 : Int) (xout5 : List Int), iter (evF TT cs_spec_LoopTrace 28 an_spec_LoopTrace Try.f25 [1, 1, 1, 0, 1, 0, 0]) nm0_spec_LoopTrace (kt0_spec_LoopTrace (fin_spec_LoopTrace n0 length1 kk)) n (can0_spec_LoopTrace length1 n0 xi6 xout5) = L0_spec_LoopTrace length1 n0 (fun r0 => kk (.one (.c (.ro .int r0))) []) n xi6 xout5 := by
  intro n
  induction n with
  | zero => intros; rfl
  | succ n ih =>
    intro xi6 xout5
    rw [r0_spec_LoopTrace n0 length1 kk n xi6 xout5]
    have hb : (fun xi6 xout5 => iter (evF TT cs_spec_LoopTrace 28 an_spec_LoopTrace Try.f25 [1, 1, 1, 0, 1, 0, 0]) nm0_spec_LoopTrace (kt0_spec_LoopTrace (fin_spec_LoopTrace n0 length1 kk)) n (can0_spec_LoopTrace length1 n0 xi6 xout5)) = L0_spec_LoopTrace length1 n0 (fun r0 => kk (.one (.c (.ro .int r0))) []) n := by
      funext xi6 xout5; exact ih xi6 xout5
    rw [hb]
    rfl
theorem g_spec_LoopTrace (n0 : Int) (length1 : Int) (kk : AV → List A1 → Prop) :
    ev TT cs_spec_LoopTrace 28 an_spec_LoopTrace (Try.f25.body.getD .skip) (st0 con_spec_LoopTrace [.c (.v (.int .i64 n0)), .c (.v (.int .i64 length1))]) (fin TT con_spec_LoopTrace Try.f25.results.toList [.c (.sl .int)] [.c (.v (.int .i64 n0)), .c (.v (.int .i64 length1))] kk) = G_spec_LoopTrace n0 length1 (fun r0 => kk (.one (.c (.ro .int r0))) []) (fun length1 n0 xi6 xout5 => ∃ j, iter (evF TT cs_spec_LoopTrace 28 an_spec_LoopTrace Try.f25 [1, 1, 1, 0, 1, 0, 0]) nm0_spec_LoopTrace (kt0_spec_LoopTrace (fin_spec_LoopTrace n0 length1 kk)) j (can0_spec_LoopTrace length1 n0 xi6 xout5)) := by kernel_rfl
theorem e_spec_LoopTrace (n0 : Int) (length1 : Int) (kk : AV → List A1 → Prop) :
    ev TT cs_spec_LoopTrace 28 an_spec_LoopTrace (Try.f25.body.getD .skip) (st0 con_spec_LoopTrace [.c (.v (.int .i64 n0)), .c (.v (.int .i64 length1))]) (fin TT con_spec_LoopTrace Try.f25.results.toList [.c (.sl .int)] [.c (.v (.int .i64 n0)), .c (.v (.int .i64 length1))] kk) = S_spec_LoopTrace n0 length1 (fun r0 => kk (.one (.c (.ro .int r0))) []) := by
  rw [g_spec_LoopTrace]
  have hi0 : (fun length1 n0 xi6 xout5 => ∃ j, iter (evF TT cs_spec_LoopTrace 28 an_spec_LoopTrace Try.f25 [1, 1, 1, 0, 1, 0, 0]) nm0_spec_LoopTrace (kt0_spec_LoopTrace (fin_spec_LoopTrace n0 length1 kk)) j (can0_spec_LoopTrace length1 n0 xi6 xout5)) = (fun length1 n0 xi6 xout5 => ∃ j, L0_spec_LoopTrace length1 n0 (fun r0 => kk (.one (.c (.ro .int r0))) []) j xi6 xout5) := by
    funext length1 n0 xi6 xout5
    refine congrArg Exists (funext fun j => ?_)
    rw [l0_spec_LoopTrace n0 length1 kk j xi6 xout5]
  rw [hi0]
  rfl
theorem clok_spec_LoopTrace : ConOK Try.prog cl_spec_LoopTrace := consCons h_spec_inRange ⟨Try.f45, Try.func45, by kernel_rfl, ne_of_beq (by kernel_rfl)⟩ (consNil)
theorem cok_spec_LoopTrace : ConsOK Try.prog 28 cs_spec_LoopTrace := ⟨clok_spec_LoopTrace, inlNil, ovNil⟩
theorem i_spec_LoopTrace {vs : List A1} {kk : AV → List A1 → Prop} {motive : List A1 → Prop} (h : con_spec_LoopTrace.F vs kk) (H : ∀ (n0 : Int) (length1 : Int), F_spec_LoopTrace n0 length1 (fun r0 => kk (.one (.c (.ro .int r0))) []) → motive [.c (.v (.int .i64 n0)), .c (.v (.int .i64 length1))]) : motive vs := by
  unfold con_spec_LoopTrace at h
  dsimp only at h
  split at h
  · exact H _ _ h
  · exact h.elim
theorem h_spec_LoopTrace : Holds Try.prog 25 con_spec_LoopTrace := by
  refine holds_of_ev (rt := [.c (.sl .int)]) (T := TT) (Γ := cs_spec_LoopTrace) (an := an_spec_LoopTrace) (N := 28) (c := Try.f25.body.getD .skip) Try.func25 (by kernel_rfl) Try.ntmps25 (by decide) (by decide) mixed tabOK cok_spec_LoopTrace (by kernel_rfl) ?_
  intro vs kk _ hF
  exact i_spec_LoopTrace (motive := fun vs => Goes (ev TT cs_spec_LoopTrace 28 an_spec_LoopTrace (Try.f25.body.getD .skip) (st0 con_spec_LoopTrace vs) (fin TT con_spec_LoopTrace Try.f25.results.toList [.c (.sl .int)] vs kk))) hF (fun n0 length1 hF => goes_of (e_spec_LoopTrace n0 length1 kk) (F_spec_LoopTrace_S hF))
def con_laws_equalInts : Con := ⟨[.rd, .rd], true, [.c (.sl .int), .c (.sl .int)], fun vs k => match vs with
    | [.c (.ro .int a0), .c (.ro .int b1)] => F_laws_equalInts a0 b1 (fun r0 => k (.one (.c (.v (.bool r0)))) [])
    | _ => False, false⟩
def cl_laws_equalInts : List (FuncId × Con) := []
def nm0_laws_equalInts : List NStep := [.keep [0, 1, 5] []]
def an_laws_equalInts : Ann := ⟨[(6, .take 0 (.take 1 (.take 2 (.take 3 (.take 4 (.take 5 (.take 6 (.take 7 (.take 8 (.done))))))))), [])], [(4, nm0_laws_equalInts)], [], []⟩
def cs_laws_equalInts : Cons := ⟨cl_laws_equalInts, [], 0, [], [], []⟩
def can0_laws_equalInts (a0 : List Int) (b1 : List Int) (xi5 : Int) : St := ⟨[(0, .one (.c (.ro .int a0))), (1, .one (.c (.ro .int b1))), (5, .one (.c (.v (.int .i64 xi5))))], []⟩
def fin_laws_equalInts (a0 : List Int) (b1 : List Int) (kk : AV → List A1 → Prop) : Kt := fin TT con_laws_equalInts Try.f16.results.toList [.c .sc] [.c (.ro .int a0), .c (.ro .int b1)] kk
def kt0_laws_equalInts (kf : Kt) : Kt := blockK 0 (seqK (evF TT cs_laws_equalInts 26 an_laws_equalInts Try.f16 [1, 1, 1]) (kf))
theorem r0_laws_equalInts (a0 : List Int) (b1 : List Int) (kk : AV → List A1 → Prop) (n : Nat) (xi5 : Int) :
    iter (evF TT cs_laws_equalInts 26 an_laws_equalInts Try.f16 [1, 1, 0, 1, 0, 0]) nm0_laws_equalInts (kt0_laws_equalInts (fin_laws_equalInts a0 b1 kk)) (n + 1) (can0_laws_equalInts a0 b1 xi5) = T0_laws_equalInts a0 b1 xi5 (fun r0 => kk (.one (.c (.v (.bool r0)))) []) (fun xi5 => iter (evF TT cs_laws_equalInts 26 an_laws_equalInts Try.f16 [1, 1, 0, 1, 0, 0]) nm0_laws_equalInts (kt0_laws_equalInts (fin_laws_equalInts a0 b1 kk)) n (can0_laws_equalInts a0 b1 xi5)) := by kernel_rfl
theorem l0_laws_equalInts (a0 : List Int) (b1 : List Int) (kk : AV → List A1 → Prop) : ∀ (n : Nat) (xi5 : Int), iter (evF TT cs_laws_equalInts 26 an_laws_equalInts Try.f16 [1, 1, 0, 1, 0, 0]) nm0_laws_equalInts (kt0_laws_equalInts (fin_laws_equalInts a0 b1 kk)) n (can0_laws_equalInts a0 b1 xi5) = L0_laws_equalInts a0 b1 (fun r0 => kk (.one (.c (.v (.bool r0)))) []) n xi5 := by
  intro n
  induction n with
  | zero => intros; rfl
  | succ n ih =>
    intro xi5
    rw [r0_laws_equalInts a0 b1 kk n xi5]
    have hb : (fun xi5 => iter (evF TT cs_laws_equalInts 26 an_laws_equalInts Try.f16 [1, 1, 0, 1, 0, 0]) nm0_laws_equalInts (kt0_laws_equalInts (fin_laws_equalInts a0 b1 kk)) n (can0_laws_equalInts a0 b1 xi5)) = L0_laws_equalInts a0 b1 (fun r0 => kk (.one (.c (.v (.bool r0)))) []) n := by
      funext xi5; exact ih xi5
    rw [hb]
    rfl
theorem g_laws_equalInts (a0 : List Int) (b1 : List Int) (kk : AV → List A1 → Prop) :
    ev TT cs_laws_equalInts 26 an_laws_equalInts (Try.f16.body.getD .skip) (st0 con_laws_equalInts [.c (.ro .int a0), .c (.ro .int b1)]) (fin TT con_laws_equalInts Try.f16.results.toList [.c .sc] [.c (.ro .int a0), .c (.ro .int b1)] kk) = G_laws_equalInts a0 b1 (fun r0 => kk (.one (.c (.v (.bool r0)))) []) (fun a0 b1 xi5 => ∃ j, iter (evF TT cs_laws_equalInts 26 an_laws_equalInts Try.f16 [1, 1, 0, 1, 0, 0]) nm0_laws_equalInts (kt0_laws_equalInts (fin_laws_equalInts a0 b1 kk)) j (can0_laws_equalInts a0 b1 xi5)) := by kernel_rfl
theorem e_laws_equalInts (a0 : List Int) (b1 : List Int) (kk : AV → List A1 → Prop) :
    ev TT cs_laws_equalInts 26 an_laws_equalInts (Try.f16.body.getD .skip) (st0 con_laws_equalInts [.c (.ro .int a0), .c (.ro .int b1)]) (fin TT con_laws_equalInts Try.f16.results.toList [.c .sc] [.c (.ro .int a0), .c (.ro .int b1)] kk) = S_laws_equalInts a0 b1 (fun r0 => kk (.one (.c (.v (.bool r0)))) []) := by
  rw [g_laws_equalInts]
  have hi0 : (fun a0 b1 xi5 => ∃ j, iter (evF TT cs_laws_equalInts 26 an_laws_equalInts Try.f16 [1, 1, 0, 1, 0, 0]) nm0_laws_equalInts (kt0_laws_equalInts (fin_laws_equalInts a0 b1 kk)) j (can0_laws_equalInts a0 b1 xi5)) = (fun a0 b1 xi5 => ∃ j, L0_laws_equalInts a0 b1 (fun r0 => kk (.one (.c (.v (.bool r0)))) []) j xi5) := by
    funext a0 b1 xi5
    refine congrArg Exists (funext fun j => ?_)
    rw [l0_laws_equalInts a0 b1 kk j xi5]
  rw [hi0]
  rfl
theorem clok_laws_equalInts : ConOK Try.prog cl_laws_equalInts := consNil
theorem cok_laws_equalInts : ConsOK Try.prog 26 cs_laws_equalInts := ⟨clok_laws_equalInts, inlNil, ovNil⟩
theorem i_laws_equalInts {vs : List A1} {kk : AV → List A1 → Prop} {motive : List A1 → Prop} (h : con_laws_equalInts.F vs kk) (H : ∀ (a0 : List Int) (b1 : List Int), F_laws_equalInts a0 b1 (fun r0 => kk (.one (.c (.v (.bool r0)))) []) → motive [.c (.ro .int a0), .c (.ro .int b1)]) : motive vs := by
  unfold con_laws_equalInts at h
  dsimp only at h
  split at h
  · exact H _ _ h
  · exact h.elim
theorem h_laws_equalInts : Holds Try.prog 16 con_laws_equalInts := by
  refine holds_of_ev (rt := [.c .sc]) (T := TT) (Γ := cs_laws_equalInts) (an := an_laws_equalInts) (N := 26) (c := Try.f16.body.getD .skip) Try.func16 (by kernel_rfl) Try.ntmps16 (by decide) (by decide) mixed tabOK cok_laws_equalInts (by kernel_rfl) ?_
  intro vs kk _ hF
  exact i_laws_equalInts (motive := fun vs => Goes (ev TT cs_laws_equalInts 26 an_laws_equalInts (Try.f16.body.getD .skip) (st0 con_laws_equalInts vs) (fin TT con_laws_equalInts Try.f16.results.toList [.c .sc] vs kk))) hF (fun a0 b1 hF => goes_of (e_laws_equalInts a0 b1 kk) (F_laws_equalInts_S hF))
def con_impl_validKey : Con := ⟨[.rd], true, [.c (.sc)], fun vs k => match vs with
    | [.c (.v (.int .i64 key0))] => F_impl_validKey key0 (fun r0 => k (.one (.c (.v (.bool r0)))) [])
    | _ => False, false⟩
def cl_impl_validKey : List (FuncId × Con) := []
def an_impl_validKey : Ann := ⟨[], [], [], []⟩
def cs_impl_validKey : Cons := ⟨cl_impl_validKey, [], 0, [], [], []⟩
def fin_impl_validKey (key0 : Int) (kk : AV → List A1 → Prop) : Kt := fin TT con_impl_validKey Try.f56.results.toList [.c .sc] [.c (.v (.int .i64 key0))] kk
theorem g_impl_validKey (key0 : Int) (kk : AV → List A1 → Prop) :
    ev TT cs_impl_validKey 9 an_impl_validKey (Try.f56.body.getD .skip) (st0 con_impl_validKey [.c (.v (.int .i64 key0))]) (fin TT con_impl_validKey Try.f56.results.toList [.c .sc] [.c (.v (.int .i64 key0))] kk) = G_impl_validKey key0 (fun r0 => kk (.one (.c (.v (.bool r0)))) []) := by kernel_rfl
theorem e_impl_validKey (key0 : Int) (kk : AV → List A1 → Prop) :
    ev TT cs_impl_validKey 9 an_impl_validKey (Try.f56.body.getD .skip) (st0 con_impl_validKey [.c (.v (.int .i64 key0))]) (fin TT con_impl_validKey Try.f56.results.toList [.c .sc] [.c (.v (.int .i64 key0))] kk) = S_impl_validKey key0 (fun r0 => kk (.one (.c (.v (.bool r0)))) []) := by
  rw [g_impl_validKey]
  rfl
theorem clok_impl_validKey : ConOK Try.prog cl_impl_validKey := consNil
theorem cok_impl_validKey : ConsOK Try.prog 9 cs_impl_validKey := ⟨clok_impl_validKey, inlNil, ovNil⟩
theorem i_impl_validKey {vs : List A1} {kk : AV → List A1 → Prop} {motive : List A1 → Prop} (h : con_impl_validKey.F vs kk) (H : ∀ (key0 : Int), F_impl_validKey key0 (fun r0 => kk (.one (.c (.v (.bool r0)))) []) → motive [.c (.v (.int .i64 key0))]) : motive vs := by
  unfold con_impl_validKey at h
  dsimp only at h
  split at h
  · exact H _ h
  · exact h.elim
theorem h_impl_validKey : Holds Try.prog 56 con_impl_validKey := by
  refine holds_of_ev (rt := [.c .sc]) (T := TT) (Γ := cs_impl_validKey) (an := an_impl_validKey) (N := 9) (c := Try.f56.body.getD .skip) Try.func56 (by kernel_rfl) Try.ntmps56 (by decide) (by decide) mixed tabOK cok_impl_validKey (by kernel_rfl) ?_
  intro vs kk _ hF
  exact i_impl_validKey (motive := fun vs => Goes (ev TT cs_impl_validKey 9 an_impl_validKey (Try.f56.body.getD .skip) (st0 con_impl_validKey vs) (fin TT con_impl_validKey Try.f56.results.toList [.c .sc] vs kk))) hF (fun key0 hF => goes_of (e_impl_validKey key0 kk) (F_impl_validKey_S hF))
def con_impl_ValidTrace : Con := ⟨[.rd], true, [.c (.sl .int)], fun vs k => match vs with
    | [.c (.ro .int t0)] => F_impl_ValidTrace t0 (fun r0 => k (.one (.c (.v (.bool r0)))) [])
    | _ => False, false⟩
def cl_impl_ValidTrace : List (FuncId × Con) := [(56, con_impl_validKey)]
def nm0_impl_ValidTrace : List NStep := [.keep [8, 9, 10] []]
def an_impl_ValidTrace : Ann := ⟨[], [(4, nm0_impl_ValidTrace)], [], []⟩
def cs_impl_ValidTrace : Cons := ⟨cl_impl_ValidTrace, [], 0, [], [], []⟩
def can0_impl_ValidTrace (t0 : List Int) (xt9 : Int) (xt10 : Int) : St := ⟨[(8, .one (.c (.ro .int t0))), (9, .one (.c (.v (.int .i64 xt9)))), (10, .one (.c (.v (.int .i64 xt10))))], []⟩
def fin_impl_ValidTrace (t0 : List Int) (kk : AV → List A1 → Prop) : Kt := fin TT con_impl_ValidTrace Try.f26.results.toList [.c .sc] [.c (.ro .int t0)] kk
def kt0_impl_ValidTrace (kf : Kt) : Kt := blockK 0 (seqK (evF TT cs_impl_ValidTrace 18 an_impl_ValidTrace Try.f26 [1, 1, 1]) (kf))
theorem r0_impl_ValidTrace (t0 : List Int) (xt9 : Int) (kk : AV → List A1 → Prop) (n : Nat) (xt10 : Int) :
    iter (evF TT cs_impl_ValidTrace 18 an_impl_ValidTrace Try.f26 [1, 1, 0, 1, 0, 0]) nm0_impl_ValidTrace (kt0_impl_ValidTrace (fin_impl_ValidTrace t0 kk)) (n + 1) (can0_impl_ValidTrace t0 xt9 xt10) = T0_impl_ValidTrace t0 xt9 xt10 (fun r0 => kk (.one (.c (.v (.bool r0)))) []) (fun xt10 => iter (evF TT cs_impl_ValidTrace 18 an_impl_ValidTrace Try.f26 [1, 1, 0, 1, 0, 0]) nm0_impl_ValidTrace (kt0_impl_ValidTrace (fin_impl_ValidTrace t0 kk)) n (can0_impl_ValidTrace t0 xt9 xt10)) := by kernel_rfl
theorem l0_impl_ValidTrace (t0 : List Int) (xt9 : Int) (kk : AV → List A1 → Prop) : ∀ (n : Nat) (xt10 : Int), iter (evF TT cs_impl_ValidTrace 18 an_impl_ValidTrace Try.f26 [1, 1, 0, 1, 0, 0]) nm0_impl_ValidTrace (kt0_impl_ValidTrace (fin_impl_ValidTrace t0 kk)) n (can0_impl_ValidTrace t0 xt9 xt10) = L0_impl_ValidTrace t0 xt9 (fun r0 => kk (.one (.c (.v (.bool r0)))) []) n xt10 := by
  intro n
  induction n with
  | zero => intros; rfl
  | succ n ih =>
    intro xt10
    rw [r0_impl_ValidTrace t0 xt9 kk n xt10]
    have hb : (fun xt10 => iter (evF TT cs_impl_ValidTrace 18 an_impl_ValidTrace Try.f26 [1, 1, 0, 1, 0, 0]) nm0_impl_ValidTrace (kt0_impl_ValidTrace (fin_impl_ValidTrace t0 kk)) n (can0_impl_ValidTrace t0 xt9 xt10)) = L0_impl_ValidTrace t0 xt9 (fun r0 => kk (.one (.c (.v (.bool r0)))) []) n := by
      funext xt10; exact ih xt10
    rw [hb]
    rfl
theorem g_impl_ValidTrace (t0 : List Int) (kk : AV → List A1 → Prop) :
    ev TT cs_impl_ValidTrace 18 an_impl_ValidTrace (Try.f26.body.getD .skip) (st0 con_impl_ValidTrace [.c (.ro .int t0)]) (fin TT con_impl_ValidTrace Try.f26.results.toList [.c .sc] [.c (.ro .int t0)] kk) = G_impl_ValidTrace t0 (fun r0 => kk (.one (.c (.v (.bool r0)))) []) (fun t0 xt9 xt10 => ∃ j, iter (evF TT cs_impl_ValidTrace 18 an_impl_ValidTrace Try.f26 [1, 1, 0, 1, 0, 0]) nm0_impl_ValidTrace (kt0_impl_ValidTrace (fin_impl_ValidTrace t0 kk)) j (can0_impl_ValidTrace t0 xt9 xt10)) := by kernel_rfl
theorem e_impl_ValidTrace (t0 : List Int) (kk : AV → List A1 → Prop) :
    ev TT cs_impl_ValidTrace 18 an_impl_ValidTrace (Try.f26.body.getD .skip) (st0 con_impl_ValidTrace [.c (.ro .int t0)]) (fin TT con_impl_ValidTrace Try.f26.results.toList [.c .sc] [.c (.ro .int t0)] kk) = S_impl_ValidTrace t0 (fun r0 => kk (.one (.c (.v (.bool r0)))) []) := by
  rw [g_impl_ValidTrace]
  have hi0 : (fun t0 xt9 xt10 => ∃ j, iter (evF TT cs_impl_ValidTrace 18 an_impl_ValidTrace Try.f26 [1, 1, 0, 1, 0, 0]) nm0_impl_ValidTrace (kt0_impl_ValidTrace (fin_impl_ValidTrace t0 kk)) j (can0_impl_ValidTrace t0 xt9 xt10)) = (fun t0 xt9 xt10 => ∃ j, L0_impl_ValidTrace t0 xt9 (fun r0 => kk (.one (.c (.v (.bool r0)))) []) j xt10) := by
    funext t0 xt9 xt10
    refine congrArg Exists (funext fun j => ?_)
    rw [l0_impl_ValidTrace t0 xt9 kk j xt10]
  rw [hi0]
  rfl
theorem clok_impl_ValidTrace : ConOK Try.prog cl_impl_ValidTrace := consCons h_impl_validKey ⟨Try.f56, Try.func56, by kernel_rfl, ne_of_beq (by kernel_rfl)⟩ (consNil)
theorem cok_impl_ValidTrace : ConsOK Try.prog 18 cs_impl_ValidTrace := ⟨clok_impl_ValidTrace, inlNil, ovNil⟩
theorem i_impl_ValidTrace {vs : List A1} {kk : AV → List A1 → Prop} {motive : List A1 → Prop} (h : con_impl_ValidTrace.F vs kk) (H : ∀ (t0 : List Int), F_impl_ValidTrace t0 (fun r0 => kk (.one (.c (.v (.bool r0)))) []) → motive [.c (.ro .int t0)]) : motive vs := by
  unfold con_impl_ValidTrace at h
  dsimp only at h
  split at h
  · exact H _ h
  · exact h.elim
theorem h_impl_ValidTrace : Holds Try.prog 26 con_impl_ValidTrace := by
  refine holds_of_ev (rt := [.c .sc]) (T := TT) (Γ := cs_impl_ValidTrace) (an := an_impl_ValidTrace) (N := 18) (c := Try.f26.body.getD .skip) Try.func26 (by kernel_rfl) Try.ntmps26 (by decide) (by decide) mixed tabOK cok_impl_ValidTrace (by kernel_rfl) ?_
  intro vs kk _ hF
  exact i_impl_ValidTrace (motive := fun vs => Goes (ev TT cs_impl_ValidTrace 18 an_impl_ValidTrace (Try.f26.body.getD .skip) (st0 con_impl_ValidTrace vs) (fin TT con_impl_ValidTrace Try.f26.results.toList [.c .sc] vs kk))) hF (fun t0 hF => goes_of (e_impl_ValidTrace t0 kk) (F_impl_ValidTrace_S hF))
def con_slices_Index_sint_int : Con := ⟨[.rd, .rd], true, [.c (.sl .int), .c (.sc)], fun vs k => match vs with
    | [.c (.ro .int s0), .c (.v (.int .i64 v1))] => F_slices_Index_sint_int s0 v1 (fun r0 => k (.one (.c (.v (.int .i64 r0)))) [])
    | _ => False, false⟩
def cl_slices_Index_sint_int : List (FuncId × Con) := []
def nm0_slices_Index_sint_int : List NStep := [.keep [0, 1, 7, 8] []]
def an_slices_Index_sint_int : Ann := ⟨[], [(2, nm0_slices_Index_sint_int)], [], []⟩
def cs_slices_Index_sint_int : Cons := ⟨cl_slices_Index_sint_int, [], 0, [], [], []⟩
def can0_slices_Index_sint_int (s0 : List Int) (v1 : Int) (xt7 : Int) (xt8 : Int) : St := ⟨[(0, .one (.c (.ro .int s0))), (1, .one (.c (.v (.int .i64 v1)))), (7, .one (.c (.v (.int .i64 xt7)))), (8, .one (.c (.v (.int .i64 xt8))))], []⟩
def fin_slices_Index_sint_int (s0 : List Int) (v1 : Int) (kk : AV → List A1 → Prop) : Kt := fin TT con_slices_Index_sint_int Try.f58.results.toList [.c .sc] [.c (.ro .int s0), .c (.v (.int .i64 v1))] kk
def kt0_slices_Index_sint_int (kf : Kt) : Kt := blockK 0 (seqK (evF TT cs_slices_Index_sint_int 19 an_slices_Index_sint_int Try.f58 [1, 1]) (kf))
theorem r0_slices_Index_sint_int (s0 : List Int) (v1 : Int) (xt7 : Int) (kk : AV → List A1 → Prop) (n : Nat) (xt8 : Int) :
    iter (evF TT cs_slices_Index_sint_int 19 an_slices_Index_sint_int Try.f58 [1, 0, 1, 0, 0]) nm0_slices_Index_sint_int (kt0_slices_Index_sint_int (fin_slices_Index_sint_int s0 v1 kk)) (n + 1) (can0_slices_Index_sint_int s0 v1 xt7 xt8) = T0_slices_Index_sint_int s0 v1 xt7 xt8 (fun r0 => kk (.one (.c (.v (.int .i64 r0)))) []) (fun xt8 => iter (evF TT cs_slices_Index_sint_int 19 an_slices_Index_sint_int Try.f58 [1, 0, 1, 0, 0]) nm0_slices_Index_sint_int (kt0_slices_Index_sint_int (fin_slices_Index_sint_int s0 v1 kk)) n (can0_slices_Index_sint_int s0 v1 xt7 xt8)) := by kernel_rfl
theorem l0_slices_Index_sint_int (s0 : List Int) (v1 : Int) (xt7 : Int) (kk : AV → List A1 → Prop) : ∀ (n : Nat) (xt8 : Int), iter (evF TT cs_slices_Index_sint_int 19 an_slices_Index_sint_int Try.f58 [1, 0, 1, 0, 0]) nm0_slices_Index_sint_int (kt0_slices_Index_sint_int (fin_slices_Index_sint_int s0 v1 kk)) n (can0_slices_Index_sint_int s0 v1 xt7 xt8) = L0_slices_Index_sint_int s0 v1 xt7 (fun r0 => kk (.one (.c (.v (.int .i64 r0)))) []) n xt8 := by
  intro n
  induction n with
  | zero => intros; rfl
  | succ n ih =>
    intro xt8
    rw [r0_slices_Index_sint_int s0 v1 xt7 kk n xt8]
    have hb : (fun xt8 => iter (evF TT cs_slices_Index_sint_int 19 an_slices_Index_sint_int Try.f58 [1, 0, 1, 0, 0]) nm0_slices_Index_sint_int (kt0_slices_Index_sint_int (fin_slices_Index_sint_int s0 v1 kk)) n (can0_slices_Index_sint_int s0 v1 xt7 xt8)) = L0_slices_Index_sint_int s0 v1 xt7 (fun r0 => kk (.one (.c (.v (.int .i64 r0)))) []) n := by
      funext xt8; exact ih xt8
    rw [hb]
    rfl
theorem g_slices_Index_sint_int (s0 : List Int) (v1 : Int) (kk : AV → List A1 → Prop) :
    ev TT cs_slices_Index_sint_int 19 an_slices_Index_sint_int (Try.f58.body.getD .skip) (st0 con_slices_Index_sint_int [.c (.ro .int s0), .c (.v (.int .i64 v1))]) (fin TT con_slices_Index_sint_int Try.f58.results.toList [.c .sc] [.c (.ro .int s0), .c (.v (.int .i64 v1))] kk) = G_slices_Index_sint_int s0 v1 (fun s0 v1 xt7 xt8 => ∃ j, iter (evF TT cs_slices_Index_sint_int 19 an_slices_Index_sint_int Try.f58 [1, 0, 1, 0, 0]) nm0_slices_Index_sint_int (kt0_slices_Index_sint_int (fin_slices_Index_sint_int s0 v1 kk)) j (can0_slices_Index_sint_int s0 v1 xt7 xt8)) := by kernel_rfl
theorem e_slices_Index_sint_int (s0 : List Int) (v1 : Int) (kk : AV → List A1 → Prop) :
    ev TT cs_slices_Index_sint_int 19 an_slices_Index_sint_int (Try.f58.body.getD .skip) (st0 con_slices_Index_sint_int [.c (.ro .int s0), .c (.v (.int .i64 v1))]) (fin TT con_slices_Index_sint_int Try.f58.results.toList [.c .sc] [.c (.ro .int s0), .c (.v (.int .i64 v1))] kk) = S_slices_Index_sint_int s0 v1 (fun r0 => kk (.one (.c (.v (.int .i64 r0)))) []) := by
  rw [g_slices_Index_sint_int]
  have hi0 : (fun s0 v1 xt7 xt8 => ∃ j, iter (evF TT cs_slices_Index_sint_int 19 an_slices_Index_sint_int Try.f58 [1, 0, 1, 0, 0]) nm0_slices_Index_sint_int (kt0_slices_Index_sint_int (fin_slices_Index_sint_int s0 v1 kk)) j (can0_slices_Index_sint_int s0 v1 xt7 xt8)) = (fun s0 v1 xt7 xt8 => ∃ j, L0_slices_Index_sint_int s0 v1 xt7 (fun r0 => kk (.one (.c (.v (.int .i64 r0)))) []) j xt8) := by
    funext s0 v1 xt7 xt8
    refine congrArg Exists (funext fun j => ?_)
    rw [l0_slices_Index_sint_int s0 v1 xt7 kk j xt8]
  rw [hi0]
  rfl
theorem clok_slices_Index_sint_int : ConOK Try.prog cl_slices_Index_sint_int := consNil
theorem cok_slices_Index_sint_int : ConsOK Try.prog 19 cs_slices_Index_sint_int := ⟨clok_slices_Index_sint_int, inlNil, ovNil⟩
theorem i_slices_Index_sint_int {vs : List A1} {kk : AV → List A1 → Prop} {motive : List A1 → Prop} (h : con_slices_Index_sint_int.F vs kk) (H : ∀ (s0 : List Int) (v1 : Int), F_slices_Index_sint_int s0 v1 (fun r0 => kk (.one (.c (.v (.int .i64 r0)))) []) → motive [.c (.ro .int s0), .c (.v (.int .i64 v1))]) : motive vs := by
  unfold con_slices_Index_sint_int at h
  dsimp only at h
  split at h
  · exact H _ _ h
  · exact h.elim
theorem h_slices_Index_sint_int : Holds Try.prog 58 con_slices_Index_sint_int := by
  refine holds_of_ev (rt := [.c .sc]) (T := TT) (Γ := cs_slices_Index_sint_int) (an := an_slices_Index_sint_int) (N := 19) (c := Try.f58.body.getD .skip) Try.func58 (by kernel_rfl) Try.ntmps58 (by decide) (by decide) mixed tabOK cok_slices_Index_sint_int (by kernel_rfl) ?_
  intro vs kk _ hF
  exact i_slices_Index_sint_int (motive := fun vs => Goes (ev TT cs_slices_Index_sint_int 19 an_slices_Index_sint_int (Try.f58.body.getD .skip) (st0 con_slices_Index_sint_int vs) (fin TT con_slices_Index_sint_int Try.f58.results.toList [.c .sc] vs kk))) hF (fun s0 v1 hF => goes_of (e_slices_Index_sint_int s0 v1 kk) (F_slices_Index_sint_int_S hF))
def con_impl_withoutKey : Con := ⟨[.rd, .rd], true, [.c (.sl .int), .c (.sc)], fun vs k => match vs with
    | [.c (.ro .int list0), .c (.v (.int .i64 key1))] => F_impl_withoutKey list0 key1 (fun r0 => k (.one (.c (.ro .int r0))) [])
    | _ => False, false⟩
def cl_impl_withoutKey : List (FuncId × Con) := []
def nm0_impl_withoutKey : List NStep := [.own 5 .int 90000, .keep [1, 5, 9, 10, 11] [90000]]
def an_impl_withoutKey : Ann := ⟨[], [(3, nm0_impl_withoutKey)], [], []⟩
def cs_impl_withoutKey : Cons := ⟨cl_impl_withoutKey, [], 0, [], [], []⟩
def can0_impl_withoutKey (key1 : Int) (list0 : List Int) (xt10 : Int) (xt11 : Int) (xout5 : List Int) : St := ⟨[(1, .one (.c (.v (.int .i64 key1)))), (5, .one (.c (.ow 90000))), (9, .one (.c (.ro .int list0))), (10, .one (.c (.v (.int .i64 xt10)))), (11, .one (.c (.v (.int .i64 xt11))))], [(90000, .row .int xout5)]⟩
def fin_impl_withoutKey (list0 : List Int) (key1 : Int) (kk : AV → List A1 → Prop) : Kt := fin TT con_impl_withoutKey Try.f60.results.toList [.c (.sl .int)] [.c (.ro .int list0), .c (.v (.int .i64 key1))] kk
def kt0_impl_withoutKey (kf : Kt) : Kt := blockK 0 (seqK (evF TT cs_impl_withoutKey 24 an_impl_withoutKey Try.f60 [1, 1, 1]) (kf))
theorem r0_impl_withoutKey (list0 : List Int) (key1 : Int) (xt10 : Int) (kk : AV → List A1 → Prop) (n : Nat) (xt11 : Int) (xout5 : List Int) :
    iter (evF TT cs_impl_withoutKey 24 an_impl_withoutKey Try.f60 [1, 1, 0, 1, 0, 0]) nm0_impl_withoutKey (kt0_impl_withoutKey (fin_impl_withoutKey list0 key1 kk)) (n + 1) (can0_impl_withoutKey key1 list0 xt10 xt11 xout5) = T0_impl_withoutKey key1 list0 xt10 xt11 xout5 (fun r0 => kk (.one (.c (.ro .int r0))) []) (fun xt11 xout5 => iter (evF TT cs_impl_withoutKey 24 an_impl_withoutKey Try.f60 [1, 1, 0, 1, 0, 0]) nm0_impl_withoutKey (kt0_impl_withoutKey (fin_impl_withoutKey list0 key1 kk)) n (can0_impl_withoutKey key1 list0 xt10 xt11 xout5)) := by kernel_rfl
theorem l0_impl_withoutKey (list0 : List Int) (key1 : Int) (xt10 : Int) (kk : AV → List A1 → Prop) : ∀ (n : Nat) (xt11 : Int) (xout5 : List Int), iter (evF TT cs_impl_withoutKey 24 an_impl_withoutKey Try.f60 [1, 1, 0, 1, 0, 0]) nm0_impl_withoutKey (kt0_impl_withoutKey (fin_impl_withoutKey list0 key1 kk)) n (can0_impl_withoutKey key1 list0 xt10 xt11 xout5) = L0_impl_withoutKey key1 list0 xt10 (fun r0 => kk (.one (.c (.ro .int r0))) []) n xt11 xout5 := by
  intro n
  induction n with
  | zero => intros; rfl
  | succ n ih =>
    intro xt11 xout5
    rw [r0_impl_withoutKey list0 key1 xt10 kk n xt11 xout5]
    have hb : (fun xt11 xout5 => iter (evF TT cs_impl_withoutKey 24 an_impl_withoutKey Try.f60 [1, 1, 0, 1, 0, 0]) nm0_impl_withoutKey (kt0_impl_withoutKey (fin_impl_withoutKey list0 key1 kk)) n (can0_impl_withoutKey key1 list0 xt10 xt11 xout5)) = L0_impl_withoutKey key1 list0 xt10 (fun r0 => kk (.one (.c (.ro .int r0))) []) n := by
      funext xt11 xout5; exact ih xt11 xout5
    rw [hb]
    rfl
theorem g_impl_withoutKey (list0 : List Int) (key1 : Int) (kk : AV → List A1 → Prop) :
    ev TT cs_impl_withoutKey 24 an_impl_withoutKey (Try.f60.body.getD .skip) (st0 con_impl_withoutKey [.c (.ro .int list0), .c (.v (.int .i64 key1))]) (fin TT con_impl_withoutKey Try.f60.results.toList [.c (.sl .int)] [.c (.ro .int list0), .c (.v (.int .i64 key1))] kk) = G_impl_withoutKey list0 key1 (fun key1 list0 xt10 xt11 xout5 => ∃ j, iter (evF TT cs_impl_withoutKey 24 an_impl_withoutKey Try.f60 [1, 1, 0, 1, 0, 0]) nm0_impl_withoutKey (kt0_impl_withoutKey (fin_impl_withoutKey list0 key1 kk)) j (can0_impl_withoutKey key1 list0 xt10 xt11 xout5)) := by kernel_rfl
theorem e_impl_withoutKey (list0 : List Int) (key1 : Int) (kk : AV → List A1 → Prop) :
    ev TT cs_impl_withoutKey 24 an_impl_withoutKey (Try.f60.body.getD .skip) (st0 con_impl_withoutKey [.c (.ro .int list0), .c (.v (.int .i64 key1))]) (fin TT con_impl_withoutKey Try.f60.results.toList [.c (.sl .int)] [.c (.ro .int list0), .c (.v (.int .i64 key1))] kk) = S_impl_withoutKey list0 key1 (fun r0 => kk (.one (.c (.ro .int r0))) []) := by
  rw [g_impl_withoutKey]
  have hi0 : (fun key1 list0 xt10 xt11 xout5 => ∃ j, iter (evF TT cs_impl_withoutKey 24 an_impl_withoutKey Try.f60 [1, 1, 0, 1, 0, 0]) nm0_impl_withoutKey (kt0_impl_withoutKey (fin_impl_withoutKey list0 key1 kk)) j (can0_impl_withoutKey key1 list0 xt10 xt11 xout5)) = (fun key1 list0 xt10 xt11 xout5 => ∃ j, L0_impl_withoutKey key1 list0 xt10 (fun r0 => kk (.one (.c (.ro .int r0))) []) j xt11 xout5) := by
    funext key1 list0 xt10 xt11 xout5
    refine congrArg Exists (funext fun j => ?_)
    rw [l0_impl_withoutKey list0 key1 xt10 kk j xt11 xout5]
  rw [hi0]
  rfl
theorem clok_impl_withoutKey : ConOK Try.prog cl_impl_withoutKey := consNil
theorem cok_impl_withoutKey : ConsOK Try.prog 24 cs_impl_withoutKey := ⟨clok_impl_withoutKey, inlNil, ovNil⟩
theorem i_impl_withoutKey {vs : List A1} {kk : AV → List A1 → Prop} {motive : List A1 → Prop} (h : con_impl_withoutKey.F vs kk) (H : ∀ (list0 : List Int) (key1 : Int), F_impl_withoutKey list0 key1 (fun r0 => kk (.one (.c (.ro .int r0))) []) → motive [.c (.ro .int list0), .c (.v (.int .i64 key1))]) : motive vs := by
  unfold con_impl_withoutKey at h
  dsimp only at h
  split at h
  · exact H _ _ h
  · exact h.elim
theorem h_impl_withoutKey : Holds Try.prog 60 con_impl_withoutKey := by
  refine holds_of_ev (rt := [.c (.sl .int)]) (T := TT) (Γ := cs_impl_withoutKey) (an := an_impl_withoutKey) (N := 24) (c := Try.f60.body.getD .skip) Try.func60 (by kernel_rfl) Try.ntmps60 (by decide) (by decide) mixed tabOK cok_impl_withoutKey (by kernel_rfl) ?_
  intro vs kk _ hF
  exact i_impl_withoutKey (motive := fun vs => Goes (ev TT cs_impl_withoutKey 24 an_impl_withoutKey (Try.f60.body.getD .skip) (st0 con_impl_withoutKey vs) (fin TT con_impl_withoutKey Try.f60.results.toList [.c (.sl .int)] vs kk))) hF (fun list0 key1 hF => goes_of (e_impl_withoutKey list0 key1 kk) (F_impl_withoutKey_S hF))
def con_impl_putFirst : Con := ⟨[.rd, .rd], true, [.c (.sl .int), .c (.sc)], fun vs k => match vs with
    | [.c (.ro .int list0), .c (.v (.int .i64 key1))] => F_impl_putFirst list0 key1 (fun r0 => k (.one (.c (.ro .int r0))) [])
    | _ => False, false⟩
def cl_impl_putFirst : List (FuncId × Con) := []
def an_impl_putFirst : Ann := ⟨[], [], [], []⟩
def cs_impl_putFirst : Cons := ⟨cl_impl_putFirst, [], 0, [], [], []⟩
def fin_impl_putFirst (list0 : List Int) (key1 : Int) (kk : AV → List A1 → Prop) : Kt := fin TT con_impl_putFirst Try.f59.results.toList [.c (.sl .int)] [.c (.ro .int list0), .c (.v (.int .i64 key1))] kk
theorem g_impl_putFirst (list0 : List Int) (key1 : Int) (kk : AV → List A1 → Prop) :
    ev TT cs_impl_putFirst 9 an_impl_putFirst (Try.f59.body.getD .skip) (st0 con_impl_putFirst [.c (.ro .int list0), .c (.v (.int .i64 key1))]) (fin TT con_impl_putFirst Try.f59.results.toList [.c (.sl .int)] [.c (.ro .int list0), .c (.v (.int .i64 key1))] kk) = G_impl_putFirst list0 key1 (fun r0 => kk (.one (.c (.ro .int r0))) []) := by kernel_rfl
theorem e_impl_putFirst (list0 : List Int) (key1 : Int) (kk : AV → List A1 → Prop) :
    ev TT cs_impl_putFirst 9 an_impl_putFirst (Try.f59.body.getD .skip) (st0 con_impl_putFirst [.c (.ro .int list0), .c (.v (.int .i64 key1))]) (fin TT con_impl_putFirst Try.f59.results.toList [.c (.sl .int)] [.c (.ro .int list0), .c (.v (.int .i64 key1))] kk) = S_impl_putFirst list0 key1 (fun r0 => kk (.one (.c (.ro .int r0))) []) := by
  rw [g_impl_putFirst]
  rfl
theorem clok_impl_putFirst : ConOK Try.prog cl_impl_putFirst := consNil
theorem cok_impl_putFirst : ConsOK Try.prog 9 cs_impl_putFirst := ⟨clok_impl_putFirst, inlNil, ovNil⟩
theorem i_impl_putFirst {vs : List A1} {kk : AV → List A1 → Prop} {motive : List A1 → Prop} (h : con_impl_putFirst.F vs kk) (H : ∀ (list0 : List Int) (key1 : Int), F_impl_putFirst list0 key1 (fun r0 => kk (.one (.c (.ro .int r0))) []) → motive [.c (.ro .int list0), .c (.v (.int .i64 key1))]) : motive vs := by
  unfold con_impl_putFirst at h
  dsimp only at h
  split at h
  · exact H _ _ h
  · exact h.elim
theorem h_impl_putFirst : Holds Try.prog 59 con_impl_putFirst := by
  refine holds_of_ev (rt := [.c (.sl .int)]) (T := TT) (Γ := cs_impl_putFirst) (an := an_impl_putFirst) (N := 9) (c := Try.f59.body.getD .skip) Try.func59 (by kernel_rfl) Try.ntmps59 (by decide) (by decide) mixed tabOK cok_impl_putFirst (by kernel_rfl) ?_
  intro vs kk _ hF
  exact i_impl_putFirst (motive := fun vs => Goes (ev TT cs_impl_putFirst 9 an_impl_putFirst (Try.f59.body.getD .skip) (st0 con_impl_putFirst vs) (fin TT con_impl_putFirst Try.f59.results.toList [.c (.sl .int)] vs kk))) hF (fun list0 key1 hF => goes_of (e_impl_putFirst list0 key1 kk) (F_impl_putFirst_S hF))
def con_impl_ReuseDistances : Con := ⟨[.rd], true, [.c (.sl .int)], fun vs k => match vs with
    | [.c (.ro .int t0)] => F_impl_ReuseDistances t0 (fun r0 => k (.one (.c (.ro .int r0))) [])
    | _ => False, false⟩
def cl_impl_ReuseDistances : List (FuncId × Con) := [(26, con_impl_ValidTrace), (58, con_slices_Index_sint_int), (59, con_impl_putFirst), (60, con_impl_withoutKey)]
def nm0_impl_ReuseDistances : List NStep := [.own 4 .int 90000, .keep [3, 4, 14, 15, 16] [192, 90000]]
def an_impl_ReuseDistances : Ann := ⟨[], [(6, nm0_impl_ReuseDistances)], [], []⟩
def cs_impl_ReuseDistances : Cons := ⟨cl_impl_ReuseDistances, [], 0, [], [], []⟩
def can0_impl_ReuseDistances (t0 : List Int) (xt15 : Int) (xt16 : Int) (xy12 : List Int) (xrecent4 : List Int) : St := ⟨[(3, .one (.c (.ow 192))), (4, .one (.c (.ow 90000))), (14, .one (.c (.ro .int t0))), (15, .one (.c (.v (.int .i64 xt15)))), (16, .one (.c (.v (.int .i64 xt16))))], [(192, .row .int xy12), (90000, .row .int xrecent4)]⟩
def fin_impl_ReuseDistances (t0 : List Int) (kk : AV → List A1 → Prop) : Kt := fin TT con_impl_ReuseDistances Try.f28.results.toList [.c (.sl .int)] [.c (.ro .int t0)] kk
def kt0_impl_ReuseDistances (kf : Kt) : Kt := blockK 0 (seqK (evF TT cs_impl_ReuseDistances 35 an_impl_ReuseDistances Try.f28 [1, 1, 1, 1, 1]) (kf))
theorem r0_impl_ReuseDistances (t0 : List Int) (xt15 : Int) (kk : AV → List A1 → Prop) (n : Nat) (xt16 : Int) (xy12 : List Int) (xrecent4 : List Int) :
    iter (evF TT cs_impl_ReuseDistances 35 an_impl_ReuseDistances Try.f28 [1, 1, 1, 1, 0, 1, 0, 0]) nm0_impl_ReuseDistances (kt0_impl_ReuseDistances (fin_impl_ReuseDistances t0 kk)) (n + 1) (can0_impl_ReuseDistances t0 xt15 xt16 xy12 xrecent4) = T0_impl_ReuseDistances t0 xt15 xt16 xy12 xrecent4 (fun r0 => kk (.one (.c (.ro .int r0))) []) (fun xt16 xy12 xrecent4 => iter (evF TT cs_impl_ReuseDistances 35 an_impl_ReuseDistances Try.f28 [1, 1, 1, 1, 0, 1, 0, 0]) nm0_impl_ReuseDistances (kt0_impl_ReuseDistances (fin_impl_ReuseDistances t0 kk)) n (can0_impl_ReuseDistances t0 xt15 xt16 xy12 xrecent4)) := by kernel_rfl
theorem l0_impl_ReuseDistances (t0 : List Int) (xt15 : Int) (kk : AV → List A1 → Prop) : ∀ (n : Nat) (xt16 : Int) (xy12 : List Int) (xrecent4 : List Int), iter (evF TT cs_impl_ReuseDistances 35 an_impl_ReuseDistances Try.f28 [1, 1, 1, 1, 0, 1, 0, 0]) nm0_impl_ReuseDistances (kt0_impl_ReuseDistances (fin_impl_ReuseDistances t0 kk)) n (can0_impl_ReuseDistances t0 xt15 xt16 xy12 xrecent4) = L0_impl_ReuseDistances t0 xt15 (fun r0 => kk (.one (.c (.ro .int r0))) []) n xt16 xy12 xrecent4 := by
  intro n
  induction n with
  | zero => intros; rfl
  | succ n ih =>
    intro xt16 xy12 xrecent4
    rw [r0_impl_ReuseDistances t0 xt15 kk n xt16 xy12 xrecent4]
    have hb : (fun xt16 xy12 xrecent4 => iter (evF TT cs_impl_ReuseDistances 35 an_impl_ReuseDistances Try.f28 [1, 1, 1, 1, 0, 1, 0, 0]) nm0_impl_ReuseDistances (kt0_impl_ReuseDistances (fin_impl_ReuseDistances t0 kk)) n (can0_impl_ReuseDistances t0 xt15 xt16 xy12 xrecent4)) = L0_impl_ReuseDistances t0 xt15 (fun r0 => kk (.one (.c (.ro .int r0))) []) n := by
      funext xt16 xy12 xrecent4; exact ih xt16 xy12 xrecent4
    rw [hb]
    rfl
theorem g_impl_ReuseDistances (t0 : List Int) (kk : AV → List A1 → Prop) :
    ev TT cs_impl_ReuseDistances 35 an_impl_ReuseDistances (Try.f28.body.getD .skip) (st0 con_impl_ReuseDistances [.c (.ro .int t0)]) (fin TT con_impl_ReuseDistances Try.f28.results.toList [.c (.sl .int)] [.c (.ro .int t0)] kk) = G_impl_ReuseDistances t0 (fun r0 => kk (.one (.c (.ro .int r0))) []) (fun t0 xt15 xt16 xy12 xrecent4 => ∃ j, iter (evF TT cs_impl_ReuseDistances 35 an_impl_ReuseDistances Try.f28 [1, 1, 1, 1, 0, 1, 0, 0]) nm0_impl_ReuseDistances (kt0_impl_ReuseDistances (fin_impl_ReuseDistances t0 kk)) j (can0_impl_ReuseDistances t0 xt15 xt16 xy12 xrecent4)) := by kernel_rfl
theorem e_impl_ReuseDistances (t0 : List Int) (kk : AV → List A1 → Prop) :
    ev TT cs_impl_ReuseDistances 35 an_impl_ReuseDistances (Try.f28.body.getD .skip) (st0 con_impl_ReuseDistances [.c (.ro .int t0)]) (fin TT con_impl_ReuseDistances Try.f28.results.toList [.c (.sl .int)] [.c (.ro .int t0)] kk) = S_impl_ReuseDistances t0 (fun r0 => kk (.one (.c (.ro .int r0))) []) := by
  rw [g_impl_ReuseDistances]
  have hi0 : (fun t0 xt15 xt16 xy12 xrecent4 => ∃ j, iter (evF TT cs_impl_ReuseDistances 35 an_impl_ReuseDistances Try.f28 [1, 1, 1, 1, 0, 1, 0, 0]) nm0_impl_ReuseDistances (kt0_impl_ReuseDistances (fin_impl_ReuseDistances t0 kk)) j (can0_impl_ReuseDistances t0 xt15 xt16 xy12 xrecent4)) = (fun t0 xt15 xt16 xy12 xrecent4 => ∃ j, L0_impl_ReuseDistances t0 xt15 (fun r0 => kk (.one (.c (.ro .int r0))) []) j xt16 xy12 xrecent4) := by
    funext t0 xt15 xt16 xy12 xrecent4
    refine congrArg Exists (funext fun j => ?_)
    rw [l0_impl_ReuseDistances t0 xt15 kk j xt16 xy12 xrecent4]
  rw [hi0]
  rfl
theorem clok_impl_ReuseDistances : ConOK Try.prog cl_impl_ReuseDistances := consCons h_impl_ValidTrace ⟨Try.f26, Try.func26, by kernel_rfl, ne_of_beq (by kernel_rfl)⟩ (consCons h_slices_Index_sint_int ⟨Try.f58, Try.func58, by kernel_rfl, ne_of_beq (by kernel_rfl)⟩ (consCons h_impl_putFirst ⟨Try.f59, Try.func59, by kernel_rfl, ne_of_beq (by kernel_rfl)⟩ (consCons h_impl_withoutKey ⟨Try.f60, Try.func60, by kernel_rfl, ne_of_beq (by kernel_rfl)⟩ (consNil))))
theorem cok_impl_ReuseDistances : ConsOK Try.prog 35 cs_impl_ReuseDistances := ⟨clok_impl_ReuseDistances, inlNil, ovNil⟩
theorem i_impl_ReuseDistances {vs : List A1} {kk : AV → List A1 → Prop} {motive : List A1 → Prop} (h : con_impl_ReuseDistances.F vs kk) (H : ∀ (t0 : List Int), F_impl_ReuseDistances t0 (fun r0 => kk (.one (.c (.ro .int r0))) []) → motive [.c (.ro .int t0)]) : motive vs := by
  unfold con_impl_ReuseDistances at h
  dsimp only at h
  split at h
  · exact H _ h
  · exact h.elim
theorem h_impl_ReuseDistances : Holds Try.prog 28 con_impl_ReuseDistances := by
  refine holds_of_ev (rt := [.c (.sl .int)]) (T := TT) (Γ := cs_impl_ReuseDistances) (an := an_impl_ReuseDistances) (N := 35) (c := Try.f28.body.getD .skip) Try.func28 (by kernel_rfl) Try.ntmps28 (by decide) (by decide) mixed tabOK cok_impl_ReuseDistances (by kernel_rfl) ?_
  intro vs kk _ hF
  exact i_impl_ReuseDistances (motive := fun vs => Goes (ev TT cs_impl_ReuseDistances 35 an_impl_ReuseDistances (Try.f28.body.getD .skip) (st0 con_impl_ReuseDistances vs) (fin TT con_impl_ReuseDistances Try.f28.results.toList [.c (.sl .int)] vs kk))) hF (fun t0 hF => goes_of (e_impl_ReuseDistances t0 kk) (F_impl_ReuseDistances_S hF))
def con_laws_FnLoopTraceDistance : Con := ⟨[.rd], true, [.c (.sl .u8)], fun vs k => match vs with
    | [.c (.ro .u8 code0)] => F_laws_FnLoopTraceDistance code0 (fun r0 => k (.one (.c (.v (.bool r0)))) [])
    | _ => False, false⟩
def cl_laws_FnLoopTraceDistance : List (FuncId × Con) := [(16, con_laws_equalInts), (17, con_impl_LoopTrace), (24, con_spec_DrawLoopTrace), (25, con_spec_LoopTrace), (28, con_impl_ReuseDistances)]
def nm0_laws_FnLoopTraceDistance : List NStep := [.keep [3, 4, 6, 7] [576]]
def an_laws_FnLoopTraceDistance : Ann := ⟨[], [(9, nm0_laws_FnLoopTraceDistance)], [], []⟩
def cs_laws_FnLoopTraceDistance : Cons := ⟨cl_laws_FnLoopTraceDistance, [], 0, [], [], []⟩
def can0_laws_FnLoopTraceDistance (drawLoopTrace13r0 : Int) (drawLoopTrace13r1 : Int) (reuseDistances36 : List Int) (xi7 : Int) : St := ⟨[(3, .one (.c (.v (.int .i64 drawLoopTrace13r0)))), (4, .one (.c (.v (.int .i64 drawLoopTrace13r1)))), (6, .one (.c (.ow 576))), (7, .one (.c (.v (.int .i64 xi7))))], [(576, .row .int reuseDistances36)]⟩
def fin_laws_FnLoopTraceDistance (code0 : List Int) (kk : AV → List A1 → Prop) : Kt := fin TT con_laws_FnLoopTraceDistance Try.f6.results.toList [.c .sc] [.c (.ro .u8 code0)] kk
def kt0_laws_FnLoopTraceDistance (kf : Kt) : Kt := blockK 0 (seqK (evF TT cs_laws_FnLoopTraceDistance 70 an_laws_FnLoopTraceDistance Try.f6 [1, 1, 1, 1, 1, 1, 1]) (kf))
theorem r0_laws_FnLoopTraceDistance (code0 : List Int) (drawLoopTrace13r0 : Int) (drawLoopTrace13r1 : Int) (reuseDistances36 : List Int) (kk : AV → List A1 → Prop) (n : Nat) (xi7 : Int) :
    iter (evF TT cs_laws_FnLoopTraceDistance 70 an_laws_FnLoopTraceDistance Try.f6 [1, 1, 1, 1, 1, 1, 0, 1, 0, 0]) nm0_laws_FnLoopTraceDistance (kt0_laws_FnLoopTraceDistance (fin_laws_FnLoopTraceDistance code0 kk)) (n + 1) (can0_laws_FnLoopTraceDistance drawLoopTrace13r0 drawLoopTrace13r1 reuseDistances36 xi7) = T0_laws_FnLoopTraceDistance drawLoopTrace13r0 drawLoopTrace13r1 reuseDistances36 xi7 (fun r0 => kk (.one (.c (.v (.bool r0)))) []) (fun xi7 => iter (evF TT cs_laws_FnLoopTraceDistance 70 an_laws_FnLoopTraceDistance Try.f6 [1, 1, 1, 1, 1, 1, 0, 1, 0, 0]) nm0_laws_FnLoopTraceDistance (kt0_laws_FnLoopTraceDistance (fin_laws_FnLoopTraceDistance code0 kk)) n (can0_laws_FnLoopTraceDistance drawLoopTrace13r0 drawLoopTrace13r1 reuseDistances36 xi7)) := by kernel_rfl
theorem l0_laws_FnLoopTraceDistance (code0 : List Int) (drawLoopTrace13r0 : Int) (drawLoopTrace13r1 : Int) (reuseDistances36 : List Int) (kk : AV → List A1 → Prop) : ∀ (n : Nat) (xi7 : Int), iter (evF TT cs_laws_FnLoopTraceDistance 70 an_laws_FnLoopTraceDistance Try.f6 [1, 1, 1, 1, 1, 1, 0, 1, 0, 0]) nm0_laws_FnLoopTraceDistance (kt0_laws_FnLoopTraceDistance (fin_laws_FnLoopTraceDistance code0 kk)) n (can0_laws_FnLoopTraceDistance drawLoopTrace13r0 drawLoopTrace13r1 reuseDistances36 xi7) = L0_laws_FnLoopTraceDistance drawLoopTrace13r0 drawLoopTrace13r1 reuseDistances36 (fun r0 => kk (.one (.c (.v (.bool r0)))) []) n xi7 := by
  intro n
  induction n with
  | zero => intros; rfl
  | succ n ih =>
    intro xi7
    rw [r0_laws_FnLoopTraceDistance code0 drawLoopTrace13r0 drawLoopTrace13r1 reuseDistances36 kk n xi7]
    have hb : (fun xi7 => iter (evF TT cs_laws_FnLoopTraceDistance 70 an_laws_FnLoopTraceDistance Try.f6 [1, 1, 1, 1, 1, 1, 0, 1, 0, 0]) nm0_laws_FnLoopTraceDistance (kt0_laws_FnLoopTraceDistance (fin_laws_FnLoopTraceDistance code0 kk)) n (can0_laws_FnLoopTraceDistance drawLoopTrace13r0 drawLoopTrace13r1 reuseDistances36 xi7)) = L0_laws_FnLoopTraceDistance drawLoopTrace13r0 drawLoopTrace13r1 reuseDistances36 (fun r0 => kk (.one (.c (.v (.bool r0)))) []) n := by
      funext xi7; exact ih xi7
    rw [hb]
    rfl
theorem g_laws_FnLoopTraceDistance (code0 : List Int) (kk : AV → List A1 → Prop) :
    ev TT cs_laws_FnLoopTraceDistance 70 an_laws_FnLoopTraceDistance (Try.f6.body.getD .skip) (st0 con_laws_FnLoopTraceDistance [.c (.ro .u8 code0)]) (fin TT con_laws_FnLoopTraceDistance Try.f6.results.toList [.c .sc] [.c (.ro .u8 code0)] kk) = G_laws_FnLoopTraceDistance code0 (fun r0 => kk (.one (.c (.v (.bool r0)))) []) (fun drawLoopTrace13r0 drawLoopTrace13r1 reuseDistances36 xi7 => ∃ j, iter (evF TT cs_laws_FnLoopTraceDistance 70 an_laws_FnLoopTraceDistance Try.f6 [1, 1, 1, 1, 1, 1, 0, 1, 0, 0]) nm0_laws_FnLoopTraceDistance (kt0_laws_FnLoopTraceDistance (fin_laws_FnLoopTraceDistance code0 kk)) j (can0_laws_FnLoopTraceDistance drawLoopTrace13r0 drawLoopTrace13r1 reuseDistances36 xi7)) := by kernel_rfl
theorem e_laws_FnLoopTraceDistance (code0 : List Int) (kk : AV → List A1 → Prop) :
    ev TT cs_laws_FnLoopTraceDistance 70 an_laws_FnLoopTraceDistance (Try.f6.body.getD .skip) (st0 con_laws_FnLoopTraceDistance [.c (.ro .u8 code0)]) (fin TT con_laws_FnLoopTraceDistance Try.f6.results.toList [.c .sc] [.c (.ro .u8 code0)] kk) = S_laws_FnLoopTraceDistance code0 (fun r0 => kk (.one (.c (.v (.bool r0)))) []) := by
  rw [g_laws_FnLoopTraceDistance]
  have hi0 : (fun drawLoopTrace13r0 drawLoopTrace13r1 reuseDistances36 xi7 => ∃ j, iter (evF TT cs_laws_FnLoopTraceDistance 70 an_laws_FnLoopTraceDistance Try.f6 [1, 1, 1, 1, 1, 1, 0, 1, 0, 0]) nm0_laws_FnLoopTraceDistance (kt0_laws_FnLoopTraceDistance (fin_laws_FnLoopTraceDistance code0 kk)) j (can0_laws_FnLoopTraceDistance drawLoopTrace13r0 drawLoopTrace13r1 reuseDistances36 xi7)) = (fun drawLoopTrace13r0 drawLoopTrace13r1 reuseDistances36 xi7 => ∃ j, L0_laws_FnLoopTraceDistance drawLoopTrace13r0 drawLoopTrace13r1 reuseDistances36 (fun r0 => kk (.one (.c (.v (.bool r0)))) []) j xi7) := by
    funext drawLoopTrace13r0 drawLoopTrace13r1 reuseDistances36 xi7
    refine congrArg Exists (funext fun j => ?_)
    rw [l0_laws_FnLoopTraceDistance code0 drawLoopTrace13r0 drawLoopTrace13r1 reuseDistances36 kk j xi7]
  rw [hi0]
  rfl
theorem clok_laws_FnLoopTraceDistance : ConOK Try.prog cl_laws_FnLoopTraceDistance := consCons h_laws_equalInts ⟨Try.f16, Try.func16, by kernel_rfl, ne_of_beq (by kernel_rfl)⟩ (consCons h_impl_LoopTrace ⟨Try.f17, Try.func17, by kernel_rfl, ne_of_beq (by kernel_rfl)⟩ (consCons h_spec_DrawLoopTrace ⟨Try.f24, Try.func24, by kernel_rfl, ne_of_beq (by kernel_rfl)⟩ (consCons h_spec_LoopTrace ⟨Try.f25, Try.func25, by kernel_rfl, ne_of_beq (by kernel_rfl)⟩ (consCons h_impl_ReuseDistances ⟨Try.f28, Try.func28, by kernel_rfl, ne_of_beq (by kernel_rfl)⟩ (consNil)))))
theorem cok_laws_FnLoopTraceDistance : ConsOK Try.prog 70 cs_laws_FnLoopTraceDistance := ⟨clok_laws_FnLoopTraceDistance, inlNil, ovNil⟩
theorem i_laws_FnLoopTraceDistance {vs : List A1} {kk : AV → List A1 → Prop} {motive : List A1 → Prop} (h : con_laws_FnLoopTraceDistance.F vs kk) (H : ∀ (code0 : List Int), F_laws_FnLoopTraceDistance code0 (fun r0 => kk (.one (.c (.v (.bool r0)))) []) → motive [.c (.ro .u8 code0)]) : motive vs := by
  unfold con_laws_FnLoopTraceDistance at h
  dsimp only at h
  split at h
  · exact H _ h
  · exact h.elim
theorem h_laws_FnLoopTraceDistance : Holds Try.prog 6 con_laws_FnLoopTraceDistance := by
  refine holds_of_ev (rt := [.c .sc]) (T := TT) (Γ := cs_laws_FnLoopTraceDistance) (an := an_laws_FnLoopTraceDistance) (N := 70) (c := Try.f6.body.getD .skip) Try.func6 (by kernel_rfl) Try.ntmps6 (by decide) (by decide) mixed tabOK cok_laws_FnLoopTraceDistance (by kernel_rfl) ?_
  intro vs kk _ hF
  exact i_laws_FnLoopTraceDistance (motive := fun vs => Goes (ev TT cs_laws_FnLoopTraceDistance 70 an_laws_FnLoopTraceDistance (Try.f6.body.getD .skip) (st0 con_laws_FnLoopTraceDistance vs) (fin TT con_laws_FnLoopTraceDistance Try.f6.results.toList [.c .sc] vs kk))) hF (fun code0 hF => goes_of (e_laws_FnLoopTraceDistance code0 kk) (F_laws_FnLoopTraceDistance_S hF))
end Go.Ev
