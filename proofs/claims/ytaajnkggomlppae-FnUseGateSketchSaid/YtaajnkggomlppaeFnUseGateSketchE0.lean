/- What the evaluator gives for these functions: their contracts. No statement is proved here. -/
import Derived.Test.YtaajnkggomlppaeFnUseGateSketchP0
import Derived.Test.YtaajnkggomlppaeTt
namespace Go.Ev
set_option linter.unusedVariables false
set_option maxRecDepth 100000
open Go Go.Proofs
def con_spec_newReader : Con := ⟨[.rd], true, [.c (.sl .u8)], fun vs k => match vs with
    | [.c (.ro .u8 code0)] => F_spec_newReader code0 (fun r0 r1 => k (.one (.agg [.ro .u8 r0, .v (.int .i64 r1)])) [])
    | _ => False, true⟩
def cl_spec_newReader : List (FuncId × Con) := []
def an_spec_newReader : Ann := ⟨[], [], [], []⟩
def cs_spec_newReader : Cons := ⟨cl_spec_newReader, [], 0, [], [], []⟩
def fin_spec_newReader (code0 : List Int) (kk : AV → List A1 → Prop) : Kt := finB Try.f59.results.toList [.sl .u8, .sc] kk
theorem g_spec_newReader (code0 : List Int) (kk : AV → List A1 → Prop) :
    ev TT cs_spec_newReader 11 an_spec_newReader (Try.f59.body.getD .skip) (st0 con_spec_newReader [.c (.ro .u8 code0)]) (finB Try.f59.results.toList [.sl .u8, .sc] kk) = G_spec_newReader code0 (fun r0 r1 => kk (.one (.agg [.ro .u8 r0, .v (.int .i64 r1)])) []) := by kernel_rfl
theorem e_spec_newReader (code0 : List Int) (kk : AV → List A1 → Prop) :
    ev TT cs_spec_newReader 11 an_spec_newReader (Try.f59.body.getD .skip) (st0 con_spec_newReader [.c (.ro .u8 code0)]) (finB Try.f59.results.toList [.sl .u8, .sc] kk) = S_spec_newReader code0 (fun r0 r1 => kk (.one (.agg [.ro .u8 r0, .v (.int .i64 r1)])) []) := by
  rw [g_spec_newReader]
  rfl
theorem clok_spec_newReader : ConOK Try.prog cl_spec_newReader := consNil
theorem cok_spec_newReader : ConsOK Try.prog 11 cs_spec_newReader := ⟨clok_spec_newReader, inlNil, ovNil⟩
theorem i_spec_newReader {vs : List A1} {kk : AV → List A1 → Prop} {motive : List A1 → Prop} (h : con_spec_newReader.F vs kk) (H : ∀ (code0 : List Int), F_spec_newReader code0 (fun r0 r1 => kk (.one (.agg [.ro .u8 r0, .v (.int .i64 r1)])) []) → motive [.c (.ro .u8 code0)]) : motive vs := by
  unfold con_spec_newReader at h
  dsimp only at h
  split at h
  · exact H _ h
  · exact h.elim
theorem h_spec_newReader : HoldsB Try.prog 59 con_spec_newReader := by
  refine holdsB_of_ev (ts := [.sl .u8, .sc]) (T := TT) (Γ := cs_spec_newReader) (an := an_spec_newReader) (N := 11) (c := Try.f59.body.getD .skip) Try.func59 (by kernel_rfl) Try.ntmps59 (by decide) (by decide) mixed tabOK cok_spec_newReader (by kernel_rfl) ?_
  intro vs kk _ hF
  exact i_spec_newReader (motive := fun vs => Goes (ev TT cs_spec_newReader 11 an_spec_newReader (Try.f59.body.getD .skip) (st0 con_spec_newReader vs) (finB Try.f59.results.toList [.sl .u8, .sc] kk))) hF (fun code0 hF => goes_of (e_spec_newReader code0 kk) (F_spec_newReader_S hF))
def con_spec_reader_pick : Con := ⟨[.mu, .rd], true, [.ptr [.sl .u8, .sc], .c (.sc)], fun vs k => match vs with
    | [.ptr [.ro .u8 r0b, .v (.int .i64 r0p)], .c (.v (.int .i64 n1))] => F_spec_reader_pick r0b r0p n1 (fun r0 r1 r2 => k (.one (.c (.v (.int .i64 r0)))) [.ptr [.ro .u8 r1, .v (.int .i64 r2)]])
    | _ => False, false⟩
def cl_spec_reader_pick : List (FuncId × Con) := []
def an_spec_reader_pick : Ann := ⟨[(7, .take 0 (.take 1 (.take 2 (.take 3 (.take 4 (.take 5 (.take 6 (.take 7 (.take 8 (.take 9 (.take 10 (.take 11 (.take 12 (.take 13 (.take 14 (.take 15 (.take 16 (.take 17 (.take 18 (.take 19 (.take 20 (.take 21 (.take 22 (.take 23 (.take 24 (.take 25 (.take 26 (.take 27 (.take 28 (.take 29 (.take 30 (.take 31 (.take 32 (.take 33 (.take 34 (.take 35 (.take 36 (.take 37 (.take 38 (.take 39 (.take 40 (.take 41 (.take 42 (.take 43 (.take 44 (.take 45 (.done)))))))))))))))))))))))))))))))))))))))))))))), [100000])], [], [], []⟩
def cs_spec_reader_pick : Cons := ⟨cl_spec_reader_pick, [], 0, [], [], []⟩
def fin_spec_reader_pick (r0b : List Int) (r0p : Int) (n1 : Int) (kk : AV → List A1 → Prop) : Kt := fin TT con_spec_reader_pick Try.f108.results.toList [.c .sc] [.ptr [.ro .u8 r0b, .v (.int .i64 r0p)], .c (.v (.int .i64 n1))] kk
theorem g_spec_reader_pick (r0b : List Int) (r0p : Int) (n1 : Int) (kk : AV → List A1 → Prop) :
    ev TT cs_spec_reader_pick 99 an_spec_reader_pick (Try.f108.body.getD .skip) (st0 con_spec_reader_pick [.ptr [.ro .u8 r0b, .v (.int .i64 r0p)], .c (.v (.int .i64 n1))]) (fin TT con_spec_reader_pick Try.f108.results.toList [.c .sc] [.ptr [.ro .u8 r0b, .v (.int .i64 r0p)], .c (.v (.int .i64 n1))] kk) = G_spec_reader_pick r0b r0p n1 (fun r0 r1 r2 => kk (.one (.c (.v (.int .i64 r0)))) [.ptr [.ro .u8 r1, .v (.int .i64 r2)]]) := by kernel_rfl
theorem e_spec_reader_pick (r0b : List Int) (r0p : Int) (n1 : Int) (kk : AV → List A1 → Prop) :
    ev TT cs_spec_reader_pick 99 an_spec_reader_pick (Try.f108.body.getD .skip) (st0 con_spec_reader_pick [.ptr [.ro .u8 r0b, .v (.int .i64 r0p)], .c (.v (.int .i64 n1))]) (fin TT con_spec_reader_pick Try.f108.results.toList [.c .sc] [.ptr [.ro .u8 r0b, .v (.int .i64 r0p)], .c (.v (.int .i64 n1))] kk) = S_spec_reader_pick r0b r0p n1 (fun r0 r1 r2 => kk (.one (.c (.v (.int .i64 r0)))) [.ptr [.ro .u8 r1, .v (.int .i64 r2)]]) := by
  rw [g_spec_reader_pick]
  rfl
theorem clok_spec_reader_pick : ConOK Try.prog cl_spec_reader_pick := consNil
theorem cok_spec_reader_pick : ConsOK Try.prog 99 cs_spec_reader_pick := ⟨clok_spec_reader_pick, inlNil, ovNil⟩
theorem i_spec_reader_pick {vs : List A1} {kk : AV → List A1 → Prop} {motive : List A1 → Prop} (h : con_spec_reader_pick.F vs kk) (H : ∀ (r0b : List Int) (r0p : Int) (n1 : Int), F_spec_reader_pick r0b r0p n1 (fun r0 r1 r2 => kk (.one (.c (.v (.int .i64 r0)))) [.ptr [.ro .u8 r1, .v (.int .i64 r2)]]) → motive [.ptr [.ro .u8 r0b, .v (.int .i64 r0p)], .c (.v (.int .i64 n1))]) : motive vs := by
  unfold con_spec_reader_pick at h
  dsimp only at h
  split at h
  · exact H _ _ _ h
  · exact h.elim
theorem h_spec_reader_pick : Holds Try.prog 108 con_spec_reader_pick := by
  refine holds_of_ev (rt := [.c .sc]) (T := TT) (Γ := cs_spec_reader_pick) (an := an_spec_reader_pick) (N := 99) (c := Try.f108.body.getD .skip) Try.func108 (by kernel_rfl) Try.ntmps108 (by decide) (by decide) mixed tabOK cok_spec_reader_pick (by kernel_rfl) ?_
  intro vs kk _ hF
  exact i_spec_reader_pick (motive := fun vs => Goes (ev TT cs_spec_reader_pick 99 an_spec_reader_pick (Try.f108.body.getD .skip) (st0 con_spec_reader_pick vs) (fin TT con_spec_reader_pick Try.f108.results.toList [.c .sc] vs kk))) hF (fun r0b r0p n1 hF => goes_of (e_spec_reader_pick r0b r0p n1 kk) (F_spec_reader_pick_S hF))
def con_spec_reader_one : Con := ⟨[.mu, .rd], true, [.ptr [.sl .u8, .sc], .c (.sl .int)], fun vs k => match vs with
    | [.ptr [.ro .u8 r0b, .v (.int .i64 r0p)], .c (.ro .int list1)] => F_spec_reader_one r0b r0p list1 (fun r0 r1 r2 => k (.one (.c (.v (.int .i64 r0)))) [.ptr [.ro .u8 r1, .v (.int .i64 r2)]])
    | _ => False, false⟩
def cl_spec_reader_one : List (FuncId × Con) := [(108, con_spec_reader_pick)]
def an_spec_reader_one : Ann := ⟨[], [], [], []⟩
def cs_spec_reader_one : Cons := ⟨cl_spec_reader_one, [], 0, [], [], []⟩
def fin_spec_reader_one (r0b : List Int) (r0p : Int) (list1 : List Int) (kk : AV → List A1 → Prop) : Kt := fin TT con_spec_reader_one Try.f107.results.toList [.c .sc] [.ptr [.ro .u8 r0b, .v (.int .i64 r0p)], .c (.ro .int list1)] kk
theorem g_spec_reader_one (r0b : List Int) (r0p : Int) (list1 : List Int) (kk : AV → List A1 → Prop) :
    ev TT cs_spec_reader_one 12 an_spec_reader_one (Try.f107.body.getD .skip) (st0 con_spec_reader_one [.ptr [.ro .u8 r0b, .v (.int .i64 r0p)], .c (.ro .int list1)]) (fin TT con_spec_reader_one Try.f107.results.toList [.c .sc] [.ptr [.ro .u8 r0b, .v (.int .i64 r0p)], .c (.ro .int list1)] kk) = G_spec_reader_one r0b r0p list1 (fun r0 r1 r2 => kk (.one (.c (.v (.int .i64 r0)))) [.ptr [.ro .u8 r1, .v (.int .i64 r2)]]) := by kernel_rfl
theorem e_spec_reader_one (r0b : List Int) (r0p : Int) (list1 : List Int) (kk : AV → List A1 → Prop) :
    ev TT cs_spec_reader_one 12 an_spec_reader_one (Try.f107.body.getD .skip) (st0 con_spec_reader_one [.ptr [.ro .u8 r0b, .v (.int .i64 r0p)], .c (.ro .int list1)]) (fin TT con_spec_reader_one Try.f107.results.toList [.c .sc] [.ptr [.ro .u8 r0b, .v (.int .i64 r0p)], .c (.ro .int list1)] kk) = S_spec_reader_one r0b r0p list1 (fun r0 r1 r2 => kk (.one (.c (.v (.int .i64 r0)))) [.ptr [.ro .u8 r1, .v (.int .i64 r2)]]) := by
  rw [g_spec_reader_one]
  rfl
theorem clok_spec_reader_one : ConOK Try.prog cl_spec_reader_one := consCons h_spec_reader_pick ⟨Try.f108, Try.func108, by kernel_rfl, ne_of_beq (by kernel_rfl)⟩ (consNil)
theorem cok_spec_reader_one : ConsOK Try.prog 12 cs_spec_reader_one := ⟨clok_spec_reader_one, inlNil, ovNil⟩
theorem i_spec_reader_one {vs : List A1} {kk : AV → List A1 → Prop} {motive : List A1 → Prop} (h : con_spec_reader_one.F vs kk) (H : ∀ (r0b : List Int) (r0p : Int) (list1 : List Int), F_spec_reader_one r0b r0p list1 (fun r0 r1 r2 => kk (.one (.c (.v (.int .i64 r0)))) [.ptr [.ro .u8 r1, .v (.int .i64 r2)]]) → motive [.ptr [.ro .u8 r0b, .v (.int .i64 r0p)], .c (.ro .int list1)]) : motive vs := by
  unfold con_spec_reader_one at h
  dsimp only at h
  split at h
  · exact H _ _ _ h
  · exact h.elim
theorem h_spec_reader_one : Holds Try.prog 107 con_spec_reader_one := by
  refine holds_of_ev (rt := [.c .sc]) (T := TT) (Γ := cs_spec_reader_one) (an := an_spec_reader_one) (N := 12) (c := Try.f107.body.getD .skip) Try.func107 (by kernel_rfl) Try.ntmps107 (by decide) (by decide) mixed tabOK cok_spec_reader_one (by kernel_rfl) ?_
  intro vs kk _ hF
  exact i_spec_reader_one (motive := fun vs => Goes (ev TT cs_spec_reader_one 12 an_spec_reader_one (Try.f107.body.getD .skip) (st0 con_spec_reader_one vs) (fin TT con_spec_reader_one Try.f107.results.toList [.c .sc] vs kk))) hF (fun r0b r0p list1 hF => goes_of (e_spec_reader_one r0b r0p list1 kk) (F_spec_reader_one_S hF))
def con_spec_EmptySketch : Con := ⟨[], true, [], fun vs k => match vs with
    | [] => F_spec_EmptySketch (fun r0 => k (.one (.c (.ro .int r0))) [])
    | _ => False, false⟩
def cl_spec_EmptySketch : List (FuncId × Con) := []
def an_spec_EmptySketch : Ann := ⟨[], [], [], []⟩
def cs_spec_EmptySketch : Cons := ⟨cl_spec_EmptySketch, [], 0, [], [], []⟩
def fin_spec_EmptySketch (kk : AV → List A1 → Prop) : Kt := fin TT con_spec_EmptySketch Try.f78.results.toList [.c (.sl .int)] [] kk
theorem g_spec_EmptySketch (kk : AV → List A1 → Prop) :
    ev TT cs_spec_EmptySketch 2 an_spec_EmptySketch (Try.f78.body.getD .skip) (st0 con_spec_EmptySketch []) (fin TT con_spec_EmptySketch Try.f78.results.toList [.c (.sl .int)] [] kk) = G_spec_EmptySketch (fun r0 => kk (.one (.c (.ro .int r0))) []) := by kernel_rfl
theorem e_spec_EmptySketch (kk : AV → List A1 → Prop) :
    ev TT cs_spec_EmptySketch 2 an_spec_EmptySketch (Try.f78.body.getD .skip) (st0 con_spec_EmptySketch []) (fin TT con_spec_EmptySketch Try.f78.results.toList [.c (.sl .int)] [] kk) = S_spec_EmptySketch (fun r0 => kk (.one (.c (.ro .int r0))) []) := by
  rw [g_spec_EmptySketch]
  rfl
theorem clok_spec_EmptySketch : ConOK Try.prog cl_spec_EmptySketch := consNil
theorem cok_spec_EmptySketch : ConsOK Try.prog 2 cs_spec_EmptySketch := ⟨clok_spec_EmptySketch, inlNil, ovNil⟩
theorem i_spec_EmptySketch {vs : List A1} {kk : AV → List A1 → Prop} {motive : List A1 → Prop} (h : con_spec_EmptySketch.F vs kk) (H : F_spec_EmptySketch (fun r0 => kk (.one (.c (.ro .int r0))) []) → motive []) : motive vs := by
  unfold con_spec_EmptySketch at h
  dsimp only at h
  split at h
  · exact H h
  · exact h.elim
theorem h_spec_EmptySketch : Holds Try.prog 78 con_spec_EmptySketch := by
  refine holds_of_ev (rt := [.c (.sl .int)]) (T := TT) (Γ := cs_spec_EmptySketch) (an := an_spec_EmptySketch) (N := 2) (c := Try.f78.body.getD .skip) Try.func78 (by kernel_rfl) Try.ntmps78 (by decide) (by decide) mixed tabOK cok_spec_EmptySketch (by kernel_rfl) ?_
  intro vs kk _ hF
  exact i_spec_EmptySketch (motive := fun vs => Goes (ev TT cs_spec_EmptySketch 2 an_spec_EmptySketch (Try.f78.body.getD .skip) (st0 con_spec_EmptySketch vs) (fin TT con_spec_EmptySketch Try.f78.results.toList [.c (.sl .int)] vs kk))) hF (fun hF => goes_of (e_spec_EmptySketch kk) (F_spec_EmptySketch_S hF))
def con_spec_copyInts : Con := ⟨[.rd], true, [.c (.sl .int)], fun vs k => match vs with
    | [.c (.ro .int list0)] => F_spec_copyInts list0 (fun r0 => k (.one (.c (.ro .int r0))) [])
    | _ => False, false⟩
def cl_spec_copyInts : List (FuncId × Con) := []
def an_spec_copyInts : Ann := ⟨[], [], [], []⟩
def cs_spec_copyInts : Cons := ⟨cl_spec_copyInts, [], 0, [], [], []⟩
def fin_spec_copyInts (list0 : List Int) (kk : AV → List A1 → Prop) : Kt := fin TT con_spec_copyInts Try.f93.results.toList [.c (.sl .int)] [.c (.ro .int list0)] kk
theorem g_spec_copyInts (list0 : List Int) (kk : AV → List A1 → Prop) :
    ev TT cs_spec_copyInts 6 an_spec_copyInts (Try.f93.body.getD .skip) (st0 con_spec_copyInts [.c (.ro .int list0)]) (fin TT con_spec_copyInts Try.f93.results.toList [.c (.sl .int)] [.c (.ro .int list0)] kk) = G_spec_copyInts list0 (fun r0 => kk (.one (.c (.ro .int r0))) []) := by kernel_rfl
theorem e_spec_copyInts (list0 : List Int) (kk : AV → List A1 → Prop) :
    ev TT cs_spec_copyInts 6 an_spec_copyInts (Try.f93.body.getD .skip) (st0 con_spec_copyInts [.c (.ro .int list0)]) (fin TT con_spec_copyInts Try.f93.results.toList [.c (.sl .int)] [.c (.ro .int list0)] kk) = S_spec_copyInts list0 (fun r0 => kk (.one (.c (.ro .int r0))) []) := by
  rw [g_spec_copyInts]
  rfl
theorem clok_spec_copyInts : ConOK Try.prog cl_spec_copyInts := consNil
theorem cok_spec_copyInts : ConsOK Try.prog 6 cs_spec_copyInts := ⟨clok_spec_copyInts, inlNil, ovNil⟩
theorem i_spec_copyInts {vs : List A1} {kk : AV → List A1 → Prop} {motive : List A1 → Prop} (h : con_spec_copyInts.F vs kk) (H : ∀ (list0 : List Int), F_spec_copyInts list0 (fun r0 => kk (.one (.c (.ro .int r0))) []) → motive [.c (.ro .int list0)]) : motive vs := by
  unfold con_spec_copyInts at h
  dsimp only at h
  split at h
  · exact H _ h
  · exact h.elim
theorem h_spec_copyInts : Holds Try.prog 93 con_spec_copyInts := by
  refine holds_of_ev (rt := [.c (.sl .int)]) (T := TT) (Γ := cs_spec_copyInts) (an := an_spec_copyInts) (N := 6) (c := Try.f93.body.getD .skip) Try.func93 (by kernel_rfl) Try.ntmps93 (by decide) (by decide) mixed tabOK cok_spec_copyInts (by kernel_rfl) ?_
  intro vs kk _ hF
  exact i_spec_copyInts (motive := fun vs => Goes (ev TT cs_spec_copyInts 6 an_spec_copyInts (Try.f93.body.getD .skip) (st0 con_spec_copyInts vs) (fin TT con_spec_copyInts Try.f93.results.toList [.c (.sl .int)] vs kk))) hF (fun list0 hF => goes_of (e_spec_copyInts list0 kk) (F_spec_copyInts_S hF))
def con_spec_copyGate : Con := ⟨[.rd], true, [.agg [.sc, .sc, .sl .int, .sl .int, .sl .int, .sc]], fun vs k => match vs with
    | [.agg [.v (.int .i64 g0Window), .v (.int .i64 g0Room), .ro .int g0New, .ro .int g0Main, .ro .int g0Sketch, .v (.int .i64 g0Added)]] => F_spec_copyGate g0Window g0Room g0New g0Main g0Sketch g0Added (fun r0 r1 r2 r3 r4 r5 => k (.one (.agg [.v (.int .i64 r0), .v (.int .i64 r1), .ro .int r2, .ro .int r3, .ro .int r4, .v (.int .i64 r5)])) [])
    | _ => False, false⟩
def cl_spec_copyGate : List (FuncId × Con) := [(93, con_spec_copyInts)]
def an_spec_copyGate : Ann := ⟨[(1, .take 0 (.take 1 (.take 2 (.take 3 (.take 4 (.take 5 (.take 7 (.take 8 (.take 10 (.take 11 (.take 13 (.take 14 (.alt 6 (.alt 9 (.alt 12 (.take 15 (.alt 16 (.done) (.none))) (.none)) (.none)) (.none))))))))))))), [16])], [], [], []⟩
def cs_spec_copyGate : Cons := ⟨cl_spec_copyGate, [], 0, [], [], []⟩
def fin_spec_copyGate (g0Window : Int) (g0Room : Int) (g0New : List Int) (g0Main : List Int) (g0Sketch : List Int) (g0Added : Int) (kk : AV → List A1 → Prop) : Kt := fin TT con_spec_copyGate Try.f68.results.toList [.agg [.sc, .sc, .sl .int, .sl .int, .sl .int, .sc]] [.agg [.v (.int .i64 g0Window), .v (.int .i64 g0Room), .ro .int g0New, .ro .int g0Main, .ro .int g0Sketch, .v (.int .i64 g0Added)]] kk
theorem g_spec_copyGate (g0Window : Int) (g0Room : Int) (g0New : List Int) (g0Main : List Int) (g0Sketch : List Int) (g0Added : Int) (kk : AV → List A1 → Prop) :
    ev TT cs_spec_copyGate 19 an_spec_copyGate (Try.f68.body.getD .skip) (st0 con_spec_copyGate [.agg [.v (.int .i64 g0Window), .v (.int .i64 g0Room), .ro .int g0New, .ro .int g0Main, .ro .int g0Sketch, .v (.int .i64 g0Added)]]) (fin TT con_spec_copyGate Try.f68.results.toList [.agg [.sc, .sc, .sl .int, .sl .int, .sl .int, .sc]] [.agg [.v (.int .i64 g0Window), .v (.int .i64 g0Room), .ro .int g0New, .ro .int g0Main, .ro .int g0Sketch, .v (.int .i64 g0Added)]] kk) = G_spec_copyGate g0Window g0Room g0New g0Main g0Sketch g0Added (fun r0 r1 r2 r3 r4 r5 => kk (.one (.agg [.v (.int .i64 r0), .v (.int .i64 r1), .ro .int r2, .ro .int r3, .ro .int r4, .v (.int .i64 r5)])) []) := by kernel_rfl
theorem e_spec_copyGate (g0Window : Int) (g0Room : Int) (g0New : List Int) (g0Main : List Int) (g0Sketch : List Int) (g0Added : Int) (kk : AV → List A1 → Prop) :
    ev TT cs_spec_copyGate 19 an_spec_copyGate (Try.f68.body.getD .skip) (st0 con_spec_copyGate [.agg [.v (.int .i64 g0Window), .v (.int .i64 g0Room), .ro .int g0New, .ro .int g0Main, .ro .int g0Sketch, .v (.int .i64 g0Added)]]) (fin TT con_spec_copyGate Try.f68.results.toList [.agg [.sc, .sc, .sl .int, .sl .int, .sl .int, .sc]] [.agg [.v (.int .i64 g0Window), .v (.int .i64 g0Room), .ro .int g0New, .ro .int g0Main, .ro .int g0Sketch, .v (.int .i64 g0Added)]] kk) = S_spec_copyGate g0Window g0Room g0New g0Main g0Sketch g0Added (fun r0 r1 r2 r3 r4 r5 => kk (.one (.agg [.v (.int .i64 r0), .v (.int .i64 r1), .ro .int r2, .ro .int r3, .ro .int r4, .v (.int .i64 r5)])) []) := by
  rw [g_spec_copyGate]
  rw [G_spec_copyGate_eq]
  rfl
theorem clok_spec_copyGate : ConOK Try.prog cl_spec_copyGate := consCons h_spec_copyInts ⟨Try.f93, Try.func93, by kernel_rfl, ne_of_beq (by kernel_rfl)⟩ (consNil)
theorem cok_spec_copyGate : ConsOK Try.prog 19 cs_spec_copyGate := ⟨clok_spec_copyGate, inlNil, ovNil⟩
theorem i_spec_copyGate {vs : List A1} {kk : AV → List A1 → Prop} {motive : List A1 → Prop} (h : con_spec_copyGate.F vs kk) (H : ∀ (g0Window : Int) (g0Room : Int) (g0New : List Int) (g0Main : List Int) (g0Sketch : List Int) (g0Added : Int), F_spec_copyGate g0Window g0Room g0New g0Main g0Sketch g0Added (fun r0 r1 r2 r3 r4 r5 => kk (.one (.agg [.v (.int .i64 r0), .v (.int .i64 r1), .ro .int r2, .ro .int r3, .ro .int r4, .v (.int .i64 r5)])) []) → motive [.agg [.v (.int .i64 g0Window), .v (.int .i64 g0Room), .ro .int g0New, .ro .int g0Main, .ro .int g0Sketch, .v (.int .i64 g0Added)]]) : motive vs := by
  unfold con_spec_copyGate at h
  dsimp only at h
  split at h
  · exact H _ _ _ _ _ _ h
  · exact h.elim
theorem h_spec_copyGate : Holds Try.prog 68 con_spec_copyGate := by
  refine holds_of_ev (rt := [.agg [.sc, .sc, .sl .int, .sl .int, .sl .int, .sc]]) (T := TT) (Γ := cs_spec_copyGate) (an := an_spec_copyGate) (N := 19) (c := Try.f68.body.getD .skip) Try.func68 (by kernel_rfl) Try.ntmps68 (by decide) (by decide) mixed tabOK cok_spec_copyGate (by kernel_rfl) ?_
  intro vs kk _ hF
  exact i_spec_copyGate (motive := fun vs => Goes (ev TT cs_spec_copyGate 19 an_spec_copyGate (Try.f68.body.getD .skip) (st0 con_spec_copyGate vs) (fin TT con_spec_copyGate Try.f68.results.toList [.agg [.sc, .sc, .sl .int, .sl .int, .sl .int, .sc]] vs kk))) hF (fun g0Window g0Room g0New g0Main g0Sketch g0Added hF => goes_of (e_spec_copyGate g0Window g0Room g0New g0Main g0Sketch g0Added kk) (F_spec_copyGate_S hF))
def con_spec_cell : Con := ⟨[.rd, .rd], true, [.c (.sc), .c (.sc)], fun vs k => match vs with
    | [.c (.v (.int .i64 row0)), .c (.v (.int .i64 key1))] => F_spec_cell row0 key1 (fun r0 => k (.one (.c (.v (.int .i64 r0)))) [])
    | _ => False, false⟩
def cl_spec_cell : List (FuncId × Con) := []
def an_spec_cell : Ann := ⟨[], [], [], []⟩
def cs_spec_cell : Cons := ⟨cl_spec_cell, [], 0, [], [], []⟩
def fin_spec_cell (row0 : Int) (key1 : Int) (kk : AV → List A1 → Prop) : Kt := fin TT con_spec_cell Try.f130.results.toList [.c .sc] [.c (.v (.int .i64 row0)), .c (.v (.int .i64 key1))] kk
theorem g_spec_cell (row0 : Int) (key1 : Int) (kk : AV → List A1 → Prop) :
    ev TT cs_spec_cell 17 an_spec_cell (Try.f130.body.getD .skip) (st0 con_spec_cell [.c (.v (.int .i64 row0)), .c (.v (.int .i64 key1))]) (fin TT con_spec_cell Try.f130.results.toList [.c .sc] [.c (.v (.int .i64 row0)), .c (.v (.int .i64 key1))] kk) = G_spec_cell row0 key1 (fun r0 => kk (.one (.c (.v (.int .i64 r0)))) []) := by kernel_rfl
theorem e_spec_cell (row0 : Int) (key1 : Int) (kk : AV → List A1 → Prop) :
    ev TT cs_spec_cell 17 an_spec_cell (Try.f130.body.getD .skip) (st0 con_spec_cell [.c (.v (.int .i64 row0)), .c (.v (.int .i64 key1))]) (fin TT con_spec_cell Try.f130.results.toList [.c .sc] [.c (.v (.int .i64 row0)), .c (.v (.int .i64 key1))] kk) = S_spec_cell row0 key1 (fun r0 => kk (.one (.c (.v (.int .i64 r0)))) []) := by
  rw [g_spec_cell]
  rfl
theorem clok_spec_cell : ConOK Try.prog cl_spec_cell := consNil
theorem cok_spec_cell : ConsOK Try.prog 17 cs_spec_cell := ⟨clok_spec_cell, inlNil, ovNil⟩
theorem i_spec_cell {vs : List A1} {kk : AV → List A1 → Prop} {motive : List A1 → Prop} (h : con_spec_cell.F vs kk) (H : ∀ (row0 : Int) (key1 : Int), F_spec_cell row0 key1 (fun r0 => kk (.one (.c (.v (.int .i64 r0)))) []) → motive [.c (.v (.int .i64 row0)), .c (.v (.int .i64 key1))]) : motive vs := by
  unfold con_spec_cell at h
  dsimp only at h
  split at h
  · exact H _ _ h
  · exact h.elim
theorem h_spec_cell : Holds Try.prog 130 con_spec_cell := by
  refine holds_of_ev (rt := [.c .sc]) (T := TT) (Γ := cs_spec_cell) (an := an_spec_cell) (N := 17) (c := Try.f130.body.getD .skip) Try.func130 (by kernel_rfl) Try.ntmps130 (by decide) (by decide) mixed tabOK cok_spec_cell (by kernel_rfl) ?_
  intro vs kk _ hF
  exact i_spec_cell (motive := fun vs => Goes (ev TT cs_spec_cell 17 an_spec_cell (Try.f130.body.getD .skip) (st0 con_spec_cell vs) (fin TT con_spec_cell Try.f130.results.toList [.c .sc] vs kk))) hF (fun row0 key1 hF => goes_of (e_spec_cell row0 key1 kk) (F_spec_cell_S hF))
def con_spec_addKey : Con := ⟨[.rd, .rd], true, [.c (.sl .int), .c (.sc)], fun vs k => match vs with
    | [.c (.ro .int s0), .c (.v (.int .i64 key1))] => F_spec_addKey s0 key1 (fun r0 => k (.one (.c (.ro .int r0))) [])
    | _ => False, false⟩
def cl_spec_addKey : List (FuncId × Con) := [(93, con_spec_copyInts), (130, con_spec_cell)]
def nm0_spec_addKey : List NStep := [.keep [1, 5, 6] [144]]
def an_spec_addKey : Ann := ⟨[], [(3, nm0_spec_addKey)], [], []⟩
def cs_spec_addKey : Cons := ⟨cl_spec_addKey, [], 0, [], [], []⟩
def can0_spec_addKey (key1 : Int) (xr6 : Int) (xy9 : List Int) : St := ⟨[(1, .one (.c (.v (.int .i64 key1)))), (5, .one (.c (.ow 144))), (6, .one (.c (.v (.int .i64 xr6))))], [(144, .row .int xy9)]⟩
def fin_spec_addKey (s0 : List Int) (key1 : Int) (kk : AV → List A1 → Prop) : Kt := fin TT con_spec_addKey Try.f128.results.toList [.c (.sl .int)] [.c (.ro .int s0), .c (.v (.int .i64 key1))] kk
def kt0_spec_addKey (kf : Kt) : Kt := blockK 0 (seqK (evF TT cs_spec_addKey 27 an_spec_addKey Try.f128 [1, 1, 1]) (kf))
theorem r0_spec_addKey (s0 : List Int) (key1 : Int) (kk : AV → List A1 → Prop) (n : Nat) (xr6 : Int) (xy9 : List Int) :
    iter (evF TT cs_spec_addKey 27 an_spec_addKey Try.f128 [1, 1, 0, 1, 0, 0]) nm0_spec_addKey (kt0_spec_addKey (fin_spec_addKey s0 key1 kk)) (n + 1) (can0_spec_addKey key1 xr6 xy9) = T0_spec_addKey key1 xr6 xy9 (fun r0 => kk (.one (.c (.ro .int r0))) []) (fun xr6 xy9 => iter (evF TT cs_spec_addKey 27 an_spec_addKey Try.f128 [1, 1, 0, 1, 0, 0]) nm0_spec_addKey (kt0_spec_addKey (fin_spec_addKey s0 key1 kk)) n (can0_spec_addKey key1 xr6 xy9)) := by kernel_rfl
theorem l0_spec_addKey (s0 : List Int) (key1 : Int) (kk : AV → List A1 → Prop) : ∀ (n : Nat) (xr6 : Int) (xy9 : List Int), iter (evF TT cs_spec_addKey 27 an_spec_addKey Try.f128 [1, 1, 0, 1, 0, 0]) nm0_spec_addKey (kt0_spec_addKey (fin_spec_addKey s0 key1 kk)) n (can0_spec_addKey key1 xr6 xy9) = L0_spec_addKey key1 (fun r0 => kk (.one (.c (.ro .int r0))) []) n xr6 xy9 := by
  intro n
  induction n with
  | zero => intros; rfl
  | succ n ih =>
    intro xr6 xy9
    rw [r0_spec_addKey s0 key1 kk n xr6 xy9]
    have hb : (fun xr6 xy9 => iter (evF TT cs_spec_addKey 27 an_spec_addKey Try.f128 [1, 1, 0, 1, 0, 0]) nm0_spec_addKey (kt0_spec_addKey (fin_spec_addKey s0 key1 kk)) n (can0_spec_addKey key1 xr6 xy9)) = L0_spec_addKey key1 (fun r0 => kk (.one (.c (.ro .int r0))) []) n := by
      funext xr6 xy9; exact ih xr6 xy9
    rw [hb]
    rfl
theorem g_spec_addKey (s0 : List Int) (key1 : Int) (kk : AV → List A1 → Prop) :
    ev TT cs_spec_addKey 27 an_spec_addKey (Try.f128.body.getD .skip) (st0 con_spec_addKey [.c (.ro .int s0), .c (.v (.int .i64 key1))]) (fin TT con_spec_addKey Try.f128.results.toList [.c (.sl .int)] [.c (.ro .int s0), .c (.v (.int .i64 key1))] kk) = G_spec_addKey s0 key1 (fun key1 xr6 xy9 => ∃ j, iter (evF TT cs_spec_addKey 27 an_spec_addKey Try.f128 [1, 1, 0, 1, 0, 0]) nm0_spec_addKey (kt0_spec_addKey (fin_spec_addKey s0 key1 kk)) j (can0_spec_addKey key1 xr6 xy9)) := by kernel_rfl
theorem e_spec_addKey (s0 : List Int) (key1 : Int) (kk : AV → List A1 → Prop) :
    ev TT cs_spec_addKey 27 an_spec_addKey (Try.f128.body.getD .skip) (st0 con_spec_addKey [.c (.ro .int s0), .c (.v (.int .i64 key1))]) (fin TT con_spec_addKey Try.f128.results.toList [.c (.sl .int)] [.c (.ro .int s0), .c (.v (.int .i64 key1))] kk) = S_spec_addKey s0 key1 (fun r0 => kk (.one (.c (.ro .int r0))) []) := by
  rw [g_spec_addKey]
  have hi0 : (fun key1 xr6 xy9 => ∃ j, iter (evF TT cs_spec_addKey 27 an_spec_addKey Try.f128 [1, 1, 0, 1, 0, 0]) nm0_spec_addKey (kt0_spec_addKey (fin_spec_addKey s0 key1 kk)) j (can0_spec_addKey key1 xr6 xy9)) = (fun key1 xr6 xy9 => ∃ j, L0_spec_addKey key1 (fun r0 => kk (.one (.c (.ro .int r0))) []) j xr6 xy9) := by
    funext key1 xr6 xy9
    refine congrArg Exists (funext fun j => ?_)
    rw [l0_spec_addKey s0 key1 kk j xr6 xy9]
  rw [hi0]
  rfl
theorem clok_spec_addKey : ConOK Try.prog cl_spec_addKey := consCons h_spec_copyInts ⟨Try.f93, Try.func93, by kernel_rfl, ne_of_beq (by kernel_rfl)⟩ (consCons h_spec_cell ⟨Try.f130, Try.func130, by kernel_rfl, ne_of_beq (by kernel_rfl)⟩ (consNil))
theorem cok_spec_addKey : ConsOK Try.prog 27 cs_spec_addKey := ⟨clok_spec_addKey, inlNil, ovNil⟩
theorem i_spec_addKey {vs : List A1} {kk : AV → List A1 → Prop} {motive : List A1 → Prop} (h : con_spec_addKey.F vs kk) (H : ∀ (s0 : List Int) (key1 : Int), F_spec_addKey s0 key1 (fun r0 => kk (.one (.c (.ro .int r0))) []) → motive [.c (.ro .int s0), .c (.v (.int .i64 key1))]) : motive vs := by
  unfold con_spec_addKey at h
  dsimp only at h
  split at h
  · exact H _ _ h
  · exact h.elim
theorem h_spec_addKey : Holds Try.prog 128 con_spec_addKey := by
  refine holds_of_ev (rt := [.c (.sl .int)]) (T := TT) (Γ := cs_spec_addKey) (an := an_spec_addKey) (N := 27) (c := Try.f128.body.getD .skip) Try.func128 (by kernel_rfl) Try.ntmps128 (by decide) (by decide) mixed tabOK cok_spec_addKey (by kernel_rfl) ?_
  intro vs kk _ hF
  exact i_spec_addKey (motive := fun vs => Goes (ev TT cs_spec_addKey 27 an_spec_addKey (Try.f128.body.getD .skip) (st0 con_spec_addKey vs) (fin TT con_spec_addKey Try.f128.results.toList [.c (.sl .int)] vs kk))) hF (fun s0 key1 hF => goes_of (e_spec_addKey s0 key1 kk) (F_spec_addKey_S hF))
def con_spec_inRange : Con := ⟨[.rd, .rd, .rd], true, [.c (.sc), .c (.sc), .c (.sc)], fun vs k => match vs with
    | [.c (.v (.int .i64 n0)), .c (.v (.int .i64 low1)), .c (.v (.int .i64 high2))] => F_spec_inRange n0 low1 high2 (fun r0 => k (.one (.c (.v (.bool r0)))) [])
    | _ => False, false⟩
def cl_spec_inRange : List (FuncId × Con) := []
def an_spec_inRange : Ann := ⟨[], [], [], []⟩
def cs_spec_inRange : Cons := ⟨cl_spec_inRange, [], 0, [], [], []⟩
def fin_spec_inRange (n0 : Int) (low1 : Int) (high2 : Int) (kk : AV → List A1 → Prop) : Kt := fin TT con_spec_inRange Try.f47.results.toList [.c .sc] [.c (.v (.int .i64 n0)), .c (.v (.int .i64 low1)), .c (.v (.int .i64 high2))] kk
theorem g_spec_inRange (n0 : Int) (low1 : Int) (high2 : Int) (kk : AV → List A1 → Prop) :
    ev TT cs_spec_inRange 15 an_spec_inRange (Try.f47.body.getD .skip) (st0 con_spec_inRange [.c (.v (.int .i64 n0)), .c (.v (.int .i64 low1)), .c (.v (.int .i64 high2))]) (fin TT con_spec_inRange Try.f47.results.toList [.c .sc] [.c (.v (.int .i64 n0)), .c (.v (.int .i64 low1)), .c (.v (.int .i64 high2))] kk) = G_spec_inRange n0 low1 high2 (fun r0 => kk (.one (.c (.v (.bool r0)))) []) := by kernel_rfl
theorem e_spec_inRange (n0 : Int) (low1 : Int) (high2 : Int) (kk : AV → List A1 → Prop) :
    ev TT cs_spec_inRange 15 an_spec_inRange (Try.f47.body.getD .skip) (st0 con_spec_inRange [.c (.v (.int .i64 n0)), .c (.v (.int .i64 low1)), .c (.v (.int .i64 high2))]) (fin TT con_spec_inRange Try.f47.results.toList [.c .sc] [.c (.v (.int .i64 n0)), .c (.v (.int .i64 low1)), .c (.v (.int .i64 high2))] kk) = S_spec_inRange n0 low1 high2 (fun r0 => kk (.one (.c (.v (.bool r0)))) []) := by
  rw [g_spec_inRange]
  rfl
theorem clok_spec_inRange : ConOK Try.prog cl_spec_inRange := consNil
theorem cok_spec_inRange : ConsOK Try.prog 15 cs_spec_inRange := ⟨clok_spec_inRange, inlNil, ovNil⟩
theorem i_spec_inRange {vs : List A1} {kk : AV → List A1 → Prop} {motive : List A1 → Prop} (h : con_spec_inRange.F vs kk) (H : ∀ (n0 : Int) (low1 : Int) (high2 : Int), F_spec_inRange n0 low1 high2 (fun r0 => kk (.one (.c (.v (.bool r0)))) []) → motive [.c (.v (.int .i64 n0)), .c (.v (.int .i64 low1)), .c (.v (.int .i64 high2))]) : motive vs := by
  unfold con_spec_inRange at h
  dsimp only at h
  split at h
  · exact H _ _ _ h
  · exact h.elim
theorem h_spec_inRange : Holds Try.prog 47 con_spec_inRange := by
  refine holds_of_ev (rt := [.c .sc]) (T := TT) (Γ := cs_spec_inRange) (an := an_spec_inRange) (N := 15) (c := Try.f47.body.getD .skip) Try.func47 (by kernel_rfl) Try.ntmps47 (by decide) (by decide) mixed tabOK cok_spec_inRange (by kernel_rfl) ?_
  intro vs kk _ hF
  exact i_spec_inRange (motive := fun vs => Goes (ev TT cs_spec_inRange 15 an_spec_inRange (Try.f47.body.getD .skip) (st0 con_spec_inRange vs) (fin TT con_spec_inRange Try.f47.results.toList [.c .sc] vs kk))) hF (fun n0 low1 high2 hF => goes_of (e_spec_inRange n0 low1 high2 kk) (F_spec_inRange_S hF))
def con_spec_allIn : Con := ⟨[.rd, .rd, .rd], true, [.c (.sl .int), .c (.sc), .c (.sc)], fun vs k => match vs with
    | [.c (.ro .int list0), .c (.v (.int .i64 low1)), .c (.v (.int .i64 high2))] => F_spec_allIn list0 low1 high2 (fun r0 => k (.one (.c (.v (.bool r0)))) [])
    | _ => False, false⟩
def cl_spec_allIn : List (FuncId × Con) := [(47, con_spec_inRange)]
def nm0_spec_allIn : List NStep := [.keep [0, 1, 2, 7] []]
def an_spec_allIn : Ann := ⟨[], [(2, nm0_spec_allIn)], [], []⟩
def cs_spec_allIn : Cons := ⟨cl_spec_allIn, [], 0, [], [], []⟩
def can0_spec_allIn (high2 : Int) (list0 : List Int) (low1 : Int) (xi7 : Int) : St := ⟨[(0, .one (.c (.ro .int list0))), (1, .one (.c (.v (.int .i64 low1)))), (2, .one (.c (.v (.int .i64 high2)))), (7, .one (.c (.v (.int .i64 xi7))))], []⟩
def fin_spec_allIn (list0 : List Int) (low1 : Int) (high2 : Int) (kk : AV → List A1 → Prop) : Kt := fin TT con_spec_allIn Try.f89.results.toList [.c .sc] [.c (.ro .int list0), .c (.v (.int .i64 low1)), .c (.v (.int .i64 high2))] kk
def kt0_spec_allIn (kf : Kt) : Kt := blockK 0 (seqK (evF TT cs_spec_allIn 22 an_spec_allIn Try.f89 [1, 1]) (kf))
theorem r0_spec_allIn (list0 : List Int) (low1 : Int) (high2 : Int) (kk : AV → List A1 → Prop) (n : Nat) (xi7 : Int) :
    iter (evF TT cs_spec_allIn 22 an_spec_allIn Try.f89 [1, 0, 1, 0, 0]) nm0_spec_allIn (kt0_spec_allIn (fin_spec_allIn list0 low1 high2 kk)) (n + 1) (can0_spec_allIn high2 list0 low1 xi7) = T0_spec_allIn high2 list0 low1 xi7 (fun r0 => kk (.one (.c (.v (.bool r0)))) []) (fun xi7 => iter (evF TT cs_spec_allIn 22 an_spec_allIn Try.f89 [1, 0, 1, 0, 0]) nm0_spec_allIn (kt0_spec_allIn (fin_spec_allIn list0 low1 high2 kk)) n (can0_spec_allIn high2 list0 low1 xi7)) := by kernel_rfl
theorem l0_spec_allIn (list0 : List Int) (low1 : Int) (high2 : Int) (kk : AV → List A1 → Prop) : ∀ (n : Nat) (xi7 : Int), iter (evF TT cs_spec_allIn 22 an_spec_allIn Try.f89 [1, 0, 1, 0, 0]) nm0_spec_allIn (kt0_spec_allIn (fin_spec_allIn list0 low1 high2 kk)) n (can0_spec_allIn high2 list0 low1 xi7) = L0_spec_allIn high2 list0 low1 (fun r0 => kk (.one (.c (.v (.bool r0)))) []) n xi7 := by
  intro n
  induction n with
  | zero => intros; rfl
  | succ n ih =>
    intro xi7
    rw [r0_spec_allIn list0 low1 high2 kk n xi7]
    have hb : (fun xi7 => iter (evF TT cs_spec_allIn 22 an_spec_allIn Try.f89 [1, 0, 1, 0, 0]) nm0_spec_allIn (kt0_spec_allIn (fin_spec_allIn list0 low1 high2 kk)) n (can0_spec_allIn high2 list0 low1 xi7)) = L0_spec_allIn high2 list0 low1 (fun r0 => kk (.one (.c (.v (.bool r0)))) []) n := by
      funext xi7; exact ih xi7
    rw [hb]
    rfl
theorem g_spec_allIn (list0 : List Int) (low1 : Int) (high2 : Int) (kk : AV → List A1 → Prop) :
    ev TT cs_spec_allIn 22 an_spec_allIn (Try.f89.body.getD .skip) (st0 con_spec_allIn [.c (.ro .int list0), .c (.v (.int .i64 low1)), .c (.v (.int .i64 high2))]) (fin TT con_spec_allIn Try.f89.results.toList [.c .sc] [.c (.ro .int list0), .c (.v (.int .i64 low1)), .c (.v (.int .i64 high2))] kk) = G_spec_allIn list0 low1 high2 (fun high2 list0 low1 xi7 => ∃ j, iter (evF TT cs_spec_allIn 22 an_spec_allIn Try.f89 [1, 0, 1, 0, 0]) nm0_spec_allIn (kt0_spec_allIn (fin_spec_allIn list0 low1 high2 kk)) j (can0_spec_allIn high2 list0 low1 xi7)) := by kernel_rfl
theorem e_spec_allIn (list0 : List Int) (low1 : Int) (high2 : Int) (kk : AV → List A1 → Prop) :
    ev TT cs_spec_allIn 22 an_spec_allIn (Try.f89.body.getD .skip) (st0 con_spec_allIn [.c (.ro .int list0), .c (.v (.int .i64 low1)), .c (.v (.int .i64 high2))]) (fin TT con_spec_allIn Try.f89.results.toList [.c .sc] [.c (.ro .int list0), .c (.v (.int .i64 low1)), .c (.v (.int .i64 high2))] kk) = S_spec_allIn list0 low1 high2 (fun r0 => kk (.one (.c (.v (.bool r0)))) []) := by
  rw [g_spec_allIn]
  have hi0 : (fun high2 list0 low1 xi7 => ∃ j, iter (evF TT cs_spec_allIn 22 an_spec_allIn Try.f89 [1, 0, 1, 0, 0]) nm0_spec_allIn (kt0_spec_allIn (fin_spec_allIn list0 low1 high2 kk)) j (can0_spec_allIn high2 list0 low1 xi7)) = (fun high2 list0 low1 xi7 => ∃ j, L0_spec_allIn high2 list0 low1 (fun r0 => kk (.one (.c (.v (.bool r0)))) []) j xi7) := by
    funext high2 list0 low1 xi7
    refine congrArg Exists (funext fun j => ?_)
    rw [l0_spec_allIn list0 low1 high2 kk j xi7]
  rw [hi0]
  rfl
theorem clok_spec_allIn : ConOK Try.prog cl_spec_allIn := consCons h_spec_inRange ⟨Try.f47, Try.func47, by kernel_rfl, ne_of_beq (by kernel_rfl)⟩ (consNil)
theorem cok_spec_allIn : ConsOK Try.prog 22 cs_spec_allIn := ⟨clok_spec_allIn, inlNil, ovNil⟩
theorem i_spec_allIn {vs : List A1} {kk : AV → List A1 → Prop} {motive : List A1 → Prop} (h : con_spec_allIn.F vs kk) (H : ∀ (list0 : List Int) (low1 : Int) (high2 : Int), F_spec_allIn list0 low1 high2 (fun r0 => kk (.one (.c (.v (.bool r0)))) []) → motive [.c (.ro .int list0), .c (.v (.int .i64 low1)), .c (.v (.int .i64 high2))]) : motive vs := by
  unfold con_spec_allIn at h
  dsimp only at h
  split at h
  · exact H _ _ _ h
  · exact h.elim
theorem h_spec_allIn : Holds Try.prog 89 con_spec_allIn := by
  refine holds_of_ev (rt := [.c .sc]) (T := TT) (Γ := cs_spec_allIn) (an := an_spec_allIn) (N := 22) (c := Try.f89.body.getD .skip) Try.func89 (by kernel_rfl) Try.ntmps89 (by decide) (by decide) mixed tabOK cok_spec_allIn (by kernel_rfl) ?_
  intro vs kk _ hF
  exact i_spec_allIn (motive := fun vs => Goes (ev TT cs_spec_allIn 22 an_spec_allIn (Try.f89.body.getD .skip) (st0 con_spec_allIn vs) (fin TT con_spec_allIn Try.f89.results.toList [.c .sc] vs kk))) hF (fun list0 low1 high2 hF => goes_of (e_spec_allIn list0 low1 high2 kk) (F_spec_allIn_S hF))
def con_spec_validSketch : Con := ⟨[.rd], true, [.c (.sl .int)], fun vs k => match vs with
    | [.c (.ro .int s0)] => F_spec_validSketch s0 (fun r0 => k (.one (.c (.v (.bool r0)))) [])
    | _ => False, false⟩
def cl_spec_validSketch : List (FuncId × Con) := [(89, con_spec_allIn)]
def an_spec_validSketch : Ann := ⟨[], [], [], []⟩
def cs_spec_validSketch : Cons := ⟨cl_spec_validSketch, [], 0, [], [], []⟩
def fin_spec_validSketch (s0 : List Int) (kk : AV → List A1 → Prop) : Kt := fin TT con_spec_validSketch Try.f112.results.toList [.c .sc] [.c (.ro .int s0)] kk
theorem g_spec_validSketch (s0 : List Int) (kk : AV → List A1 → Prop) :
    ev TT cs_spec_validSketch 10 an_spec_validSketch (Try.f112.body.getD .skip) (st0 con_spec_validSketch [.c (.ro .int s0)]) (fin TT con_spec_validSketch Try.f112.results.toList [.c .sc] [.c (.ro .int s0)] kk) = G_spec_validSketch s0 (fun r0 => kk (.one (.c (.v (.bool r0)))) []) := by kernel_rfl
theorem e_spec_validSketch (s0 : List Int) (kk : AV → List A1 → Prop) :
    ev TT cs_spec_validSketch 10 an_spec_validSketch (Try.f112.body.getD .skip) (st0 con_spec_validSketch [.c (.ro .int s0)]) (fin TT con_spec_validSketch Try.f112.results.toList [.c .sc] [.c (.ro .int s0)] kk) = S_spec_validSketch s0 (fun r0 => kk (.one (.c (.v (.bool r0)))) []) := by
  rw [g_spec_validSketch]
  rfl
theorem clok_spec_validSketch : ConOK Try.prog cl_spec_validSketch := consCons h_spec_allIn ⟨Try.f89, Try.func89, by kernel_rfl, ne_of_beq (by kernel_rfl)⟩ (consNil)
theorem cok_spec_validSketch : ConsOK Try.prog 10 cs_spec_validSketch := ⟨clok_spec_validSketch, inlNil, ovNil⟩
theorem i_spec_validSketch {vs : List A1} {kk : AV → List A1 → Prop} {motive : List A1 → Prop} (h : con_spec_validSketch.F vs kk) (H : ∀ (s0 : List Int), F_spec_validSketch s0 (fun r0 => kk (.one (.c (.v (.bool r0)))) []) → motive [.c (.ro .int s0)]) : motive vs := by
  unfold con_spec_validSketch at h
  dsimp only at h
  split at h
  · exact H _ h
  · exact h.elim
theorem h_spec_validSketch : Holds Try.prog 112 con_spec_validSketch := by
  refine holds_of_ev (rt := [.c .sc]) (T := TT) (Γ := cs_spec_validSketch) (an := an_spec_validSketch) (N := 10) (c := Try.f112.body.getD .skip) Try.func112 (by kernel_rfl) Try.ntmps112 (by decide) (by decide) mixed tabOK cok_spec_validSketch (by kernel_rfl) ?_
  intro vs kk _ hF
  exact i_spec_validSketch (motive := fun vs => Goes (ev TT cs_spec_validSketch 10 an_spec_validSketch (Try.f112.body.getD .skip) (st0 con_spec_validSketch vs) (fin TT con_spec_validSketch Try.f112.results.toList [.c .sc] vs kk))) hF (fun s0 hF => goes_of (e_spec_validSketch s0 kk) (F_spec_validSketch_S hF))
def con_spec_HalveSketch : Con := ⟨[.rd], true, [.c (.sl .int)], fun vs k => match vs with
    | [.c (.ro .int s0)] => F_spec_HalveSketch s0 (fun r0 => k (.one (.c (.ro .int r0))) [])
    | _ => False, false⟩
def cl_spec_HalveSketch : List (FuncId × Con) := [(112, con_spec_validSketch)]
def nm0_spec_HalveSketch : List NStep := [.own 3 .int 90000, .keep [0, 3, 4] [90000]]
def an_spec_HalveSketch : Ann := ⟨[], [(5, nm0_spec_HalveSketch)], [], []⟩
def cs_spec_HalveSketch : Cons := ⟨cl_spec_HalveSketch, [], 0, [], [], []⟩
def can0_spec_HalveSketch (s0 : List Int) (xi4 : Int) (xout3 : List Int) : St := ⟨[(0, .one (.c (.ro .int s0))), (3, .one (.c (.ow 90000))), (4, .one (.c (.v (.int .i64 xi4))))], [(90000, .row .int xout3)]⟩
def fin_spec_HalveSketch (s0 : List Int) (kk : AV → List A1 → Prop) : Kt := fin TT con_spec_HalveSketch Try.f129.results.toList [.c (.sl .int)] [.c (.ro .int s0)] kk
def kt0_spec_HalveSketch (kf : Kt) : Kt := blockK 0 (seqK (evF TT cs_spec_HalveSketch 24 an_spec_HalveSketch Try.f129 [1, 1, 1, 1]) (kf))
theorem r0_spec_HalveSketch (s0 : List Int) (kk : AV → List A1 → Prop) (n : Nat) (xi4 : Int) (xout3 : List Int) :
    iter (evF TT cs_spec_HalveSketch 24 an_spec_HalveSketch Try.f129 [1, 1, 1, 0, 1, 0, 0]) nm0_spec_HalveSketch (kt0_spec_HalveSketch (fin_spec_HalveSketch s0 kk)) (n + 1) (can0_spec_HalveSketch s0 xi4 xout3) = T0_spec_HalveSketch s0 xi4 xout3 (fun r0 => kk (.one (.c (.ro .int r0))) []) (fun xi4 xout3 => iter (evF TT cs_spec_HalveSketch 24 an_spec_HalveSketch Try.f129 [1, 1, 1, 0, 1, 0, 0]) nm0_spec_HalveSketch (kt0_spec_HalveSketch (fin_spec_HalveSketch s0 kk)) n (can0_spec_HalveSketch s0 xi4 xout3)) := by kernel_rfl
theorem l0_spec_HalveSketch (s0 : List Int) (kk : AV → List A1 → Prop) : ∀ (n : Nat) (xi4 : Int) (xout3 : List Int), iter (evF TT cs_spec_HalveSketch 24 an_spec_HalveSketch Try.f129 [1, 1, 1, 0, 1, 0, 0]) nm0_spec_HalveSketch (kt0_spec_HalveSketch (fin_spec_HalveSketch s0 kk)) n (can0_spec_HalveSketch s0 xi4 xout3) = L0_spec_HalveSketch s0 (fun r0 => kk (.one (.c (.ro .int r0))) []) n xi4 xout3 := by
  intro n
  induction n with
  | zero => intros; rfl
  | succ n ih =>
    intro xi4 xout3
    rw [r0_spec_HalveSketch s0 kk n xi4 xout3]
    have hb : (fun xi4 xout3 => iter (evF TT cs_spec_HalveSketch 24 an_spec_HalveSketch Try.f129 [1, 1, 1, 0, 1, 0, 0]) nm0_spec_HalveSketch (kt0_spec_HalveSketch (fin_spec_HalveSketch s0 kk)) n (can0_spec_HalveSketch s0 xi4 xout3)) = L0_spec_HalveSketch s0 (fun r0 => kk (.one (.c (.ro .int r0))) []) n := by
      funext xi4 xout3; exact ih xi4 xout3
    rw [hb]
    rfl
theorem g_spec_HalveSketch (s0 : List Int) (kk : AV → List A1 → Prop) :
    ev TT cs_spec_HalveSketch 24 an_spec_HalveSketch (Try.f129.body.getD .skip) (st0 con_spec_HalveSketch [.c (.ro .int s0)]) (fin TT con_spec_HalveSketch Try.f129.results.toList [.c (.sl .int)] [.c (.ro .int s0)] kk) = G_spec_HalveSketch s0 (fun r0 => kk (.one (.c (.ro .int r0))) []) (fun s0 xi4 xout3 => ∃ j, iter (evF TT cs_spec_HalveSketch 24 an_spec_HalveSketch Try.f129 [1, 1, 1, 0, 1, 0, 0]) nm0_spec_HalveSketch (kt0_spec_HalveSketch (fin_spec_HalveSketch s0 kk)) j (can0_spec_HalveSketch s0 xi4 xout3)) := by kernel_rfl
theorem e_spec_HalveSketch (s0 : List Int) (kk : AV → List A1 → Prop) :
    ev TT cs_spec_HalveSketch 24 an_spec_HalveSketch (Try.f129.body.getD .skip) (st0 con_spec_HalveSketch [.c (.ro .int s0)]) (fin TT con_spec_HalveSketch Try.f129.results.toList [.c (.sl .int)] [.c (.ro .int s0)] kk) = S_spec_HalveSketch s0 (fun r0 => kk (.one (.c (.ro .int r0))) []) := by
  rw [g_spec_HalveSketch]
  have hi0 : (fun s0 xi4 xout3 => ∃ j, iter (evF TT cs_spec_HalveSketch 24 an_spec_HalveSketch Try.f129 [1, 1, 1, 0, 1, 0, 0]) nm0_spec_HalveSketch (kt0_spec_HalveSketch (fin_spec_HalveSketch s0 kk)) j (can0_spec_HalveSketch s0 xi4 xout3)) = (fun s0 xi4 xout3 => ∃ j, L0_spec_HalveSketch s0 (fun r0 => kk (.one (.c (.ro .int r0))) []) j xi4 xout3) := by
    funext s0 xi4 xout3
    refine congrArg Exists (funext fun j => ?_)
    rw [l0_spec_HalveSketch s0 kk j xi4 xout3]
  rw [hi0]
  rfl
theorem clok_spec_HalveSketch : ConOK Try.prog cl_spec_HalveSketch := consCons h_spec_validSketch ⟨Try.f112, Try.func112, by kernel_rfl, ne_of_beq (by kernel_rfl)⟩ (consNil)
theorem cok_spec_HalveSketch : ConsOK Try.prog 24 cs_spec_HalveSketch := ⟨clok_spec_HalveSketch, inlNil, ovNil⟩
theorem i_spec_HalveSketch {vs : List A1} {kk : AV → List A1 → Prop} {motive : List A1 → Prop} (h : con_spec_HalveSketch.F vs kk) (H : ∀ (s0 : List Int), F_spec_HalveSketch s0 (fun r0 => kk (.one (.c (.ro .int r0))) []) → motive [.c (.ro .int s0)]) : motive vs := by
  unfold con_spec_HalveSketch at h
  dsimp only at h
  split at h
  · exact H _ h
  · exact h.elim
theorem h_spec_HalveSketch : Holds Try.prog 129 con_spec_HalveSketch := by
  refine holds_of_ev (rt := [.c (.sl .int)]) (T := TT) (Γ := cs_spec_HalveSketch) (an := an_spec_HalveSketch) (N := 24) (c := Try.f129.body.getD .skip) Try.func129 (by kernel_rfl) Try.ntmps129 (by decide) (by decide) mixed tabOK cok_spec_HalveSketch (by kernel_rfl) ?_
  intro vs kk _ hF
  exact i_spec_HalveSketch (motive := fun vs => Goes (ev TT cs_spec_HalveSketch 24 an_spec_HalveSketch (Try.f129.body.getD .skip) (st0 con_spec_HalveSketch vs) (fin TT con_spec_HalveSketch Try.f129.results.toList [.c (.sl .int)] vs kk))) hF (fun s0 hF => goes_of (e_spec_HalveSketch s0 kk) (F_spec_HalveSketch_S hF))
def con_spec_learn : Con := ⟨[.rd, .rd], false, [.agg [.sc, .sc, .sl .int, .sl .int, .sl .int, .sc], .c (.sc)], fun vs k => match vs with
    | [.agg [.v (.int .i64 g0Window), .v (.int .i64 g0Room), .ro .int g0New, .ro .int g0Main, .ro .int g0Sketch, .v (.int .i64 g0Added)], .c (.v (.int .i64 key1))] => F_spec_learn g0Window g0Room g0New g0Main g0Sketch g0Added key1 (fun r0 r1 r2 r3 r4 r5 => k (.one (.agg [.v (.int .i64 r0), .v (.int .i64 r1), .ro .int r2, .ro .int r3, .ro .int r4, .v (.int .i64 r5)])) [])
    | _ => False, false⟩
def cl_spec_learn : List (FuncId × Con) := [(128, con_spec_addKey), (129, con_spec_HalveSketch)]
def an_spec_learn : Ann := ⟨[], [], [], []⟩
def cs_spec_learn : Cons := ⟨cl_spec_learn, [], 0, [], [], []⟩
def fin_spec_learn (g0Window : Int) (g0Room : Int) (g0New : List Int) (g0Main : List Int) (g0Sketch : List Int) (g0Added : Int) (key1 : Int) (kk : AV → List A1 → Prop) : Kt := fin TT con_spec_learn Try.f113.results.toList [.agg [.sc, .sc, .sl .int, .sl .int, .sl .int, .sc]] [.agg [.v (.int .i64 g0Window), .v (.int .i64 g0Room), .ro .int g0New, .ro .int g0Main, .ro .int g0Sketch, .v (.int .i64 g0Added)], .c (.v (.int .i64 key1))] kk
theorem g_spec_learn (g0Window : Int) (g0Room : Int) (g0New : List Int) (g0Main : List Int) (g0Sketch : List Int) (g0Added : Int) (key1 : Int) (kk : AV → List A1 → Prop) :
    ev TT cs_spec_learn 23 an_spec_learn (Try.f113.body.getD .skip) (st0 con_spec_learn [.agg [.v (.int .i64 g0Window), .v (.int .i64 g0Room), .ro .int g0New, .ro .int g0Main, .ro .int g0Sketch, .v (.int .i64 g0Added)], .c (.v (.int .i64 key1))]) (fin TT con_spec_learn Try.f113.results.toList [.agg [.sc, .sc, .sl .int, .sl .int, .sl .int, .sc]] [.agg [.v (.int .i64 g0Window), .v (.int .i64 g0Room), .ro .int g0New, .ro .int g0Main, .ro .int g0Sketch, .v (.int .i64 g0Added)], .c (.v (.int .i64 key1))] kk) = G_spec_learn g0Window g0Room g0New g0Main g0Sketch g0Added key1 (fun r0 r1 r2 r3 r4 r5 => kk (.one (.agg [.v (.int .i64 r0), .v (.int .i64 r1), .ro .int r2, .ro .int r3, .ro .int r4, .v (.int .i64 r5)])) []) := by kernel_rfl
theorem e_spec_learn (g0Window : Int) (g0Room : Int) (g0New : List Int) (g0Main : List Int) (g0Sketch : List Int) (g0Added : Int) (key1 : Int) (kk : AV → List A1 → Prop) :
    ev TT cs_spec_learn 23 an_spec_learn (Try.f113.body.getD .skip) (st0 con_spec_learn [.agg [.v (.int .i64 g0Window), .v (.int .i64 g0Room), .ro .int g0New, .ro .int g0Main, .ro .int g0Sketch, .v (.int .i64 g0Added)], .c (.v (.int .i64 key1))]) (fin TT con_spec_learn Try.f113.results.toList [.agg [.sc, .sc, .sl .int, .sl .int, .sl .int, .sc]] [.agg [.v (.int .i64 g0Window), .v (.int .i64 g0Room), .ro .int g0New, .ro .int g0Main, .ro .int g0Sketch, .v (.int .i64 g0Added)], .c (.v (.int .i64 key1))] kk) = S_spec_learn g0Window g0Room g0New g0Main g0Sketch g0Added key1 (fun r0 r1 r2 r3 r4 r5 => kk (.one (.agg [.v (.int .i64 r0), .v (.int .i64 r1), .ro .int r2, .ro .int r3, .ro .int r4, .v (.int .i64 r5)])) []) := by
  rw [g_spec_learn]
  rfl
theorem clok_spec_learn : ConOK Try.prog cl_spec_learn := consCons h_spec_addKey ⟨Try.f128, Try.func128, by kernel_rfl, ne_of_beq (by kernel_rfl)⟩ (consCons h_spec_HalveSketch ⟨Try.f129, Try.func129, by kernel_rfl, ne_of_beq (by kernel_rfl)⟩ (consNil))
theorem cok_spec_learn : ConsOK Try.prog 23 cs_spec_learn := ⟨clok_spec_learn, inlNil, ovNil⟩
theorem i_spec_learn {vs : List A1} {kk : AV → List A1 → Prop} {motive : List A1 → Prop} (h : con_spec_learn.F vs kk) (H : ∀ (g0Window : Int) (g0Room : Int) (g0New : List Int) (g0Main : List Int) (g0Sketch : List Int) (g0Added : Int) (key1 : Int), F_spec_learn g0Window g0Room g0New g0Main g0Sketch g0Added key1 (fun r0 r1 r2 r3 r4 r5 => kk (.one (.agg [.v (.int .i64 r0), .v (.int .i64 r1), .ro .int r2, .ro .int r3, .ro .int r4, .v (.int .i64 r5)])) []) → motive [.agg [.v (.int .i64 g0Window), .v (.int .i64 g0Room), .ro .int g0New, .ro .int g0Main, .ro .int g0Sketch, .v (.int .i64 g0Added)], .c (.v (.int .i64 key1))]) : motive vs := by
  unfold con_spec_learn at h
  dsimp only at h
  split at h
  · exact H _ _ _ _ _ _ _ h
  · exact h.elim
theorem h_spec_learn : Holds Try.prog 113 con_spec_learn := by
  refine holds_of_ev (rt := [.agg [.sc, .sc, .sl .int, .sl .int, .sl .int, .sc]]) (T := TT) (Γ := cs_spec_learn) (an := an_spec_learn) (N := 23) (c := Try.f113.body.getD .skip) Try.func113 (by kernel_rfl) Try.ntmps113 (by decide) (by decide) mixed tabOK cok_spec_learn (by kernel_rfl) ?_
  intro vs kk _ hF
  exact i_spec_learn (motive := fun vs => Goes (ev TT cs_spec_learn 23 an_spec_learn (Try.f113.body.getD .skip) (st0 con_spec_learn vs) (fin TT con_spec_learn Try.f113.results.toList [.agg [.sc, .sc, .sl .int, .sl .int, .sl .int, .sc]] vs kk))) hF (fun g0Window g0Room g0New g0Main g0Sketch g0Added key1 hF => goes_of (e_spec_learn g0Window g0Room g0New g0Main g0Sketch g0Added key1 kk) (F_spec_learn_S hF))
def con_spec_placeOf : Con := ⟨[.rd, .rd], true, [.c (.sl .int), .c (.sc)], fun vs k => match vs with
    | [.c (.ro .int list0), .c (.v (.int .i64 n1))] => F_spec_placeOf list0 n1 (fun r0 => k (.one (.c (.v (.int .i64 r0)))) [])
    | _ => False, false⟩
def cl_spec_placeOf : List (FuncId × Con) := []
def nm0_spec_placeOf : List NStep := [.keep [0, 1, 5] []]
def an_spec_placeOf : Ann := ⟨[], [(2, nm0_spec_placeOf)], [], []⟩
def cs_spec_placeOf : Cons := ⟨cl_spec_placeOf, [], 0, [], [], []⟩
def can0_spec_placeOf (list0 : List Int) (n1 : Int) (xi5 : Int) : St := ⟨[(0, .one (.c (.ro .int list0))), (1, .one (.c (.v (.int .i64 n1)))), (5, .one (.c (.v (.int .i64 xi5))))], []⟩
def fin_spec_placeOf (list0 : List Int) (n1 : Int) (kk : AV → List A1 → Prop) : Kt := fin TT con_spec_placeOf Try.f114.results.toList [.c .sc] [.c (.ro .int list0), .c (.v (.int .i64 n1))] kk
def kt0_spec_placeOf (kf : Kt) : Kt := blockK 0 (seqK (evF TT cs_spec_placeOf 19 an_spec_placeOf Try.f114 [1, 1]) (kf))
theorem r0_spec_placeOf (list0 : List Int) (n1 : Int) (kk : AV → List A1 → Prop) (n : Nat) (xi5 : Int) :
    iter (evF TT cs_spec_placeOf 19 an_spec_placeOf Try.f114 [1, 0, 1, 0, 0]) nm0_spec_placeOf (kt0_spec_placeOf (fin_spec_placeOf list0 n1 kk)) (n + 1) (can0_spec_placeOf list0 n1 xi5) = T0_spec_placeOf list0 n1 xi5 (fun r0 => kk (.one (.c (.v (.int .i64 r0)))) []) (fun xi5 => iter (evF TT cs_spec_placeOf 19 an_spec_placeOf Try.f114 [1, 0, 1, 0, 0]) nm0_spec_placeOf (kt0_spec_placeOf (fin_spec_placeOf list0 n1 kk)) n (can0_spec_placeOf list0 n1 xi5)) := by kernel_rfl
theorem l0_spec_placeOf (list0 : List Int) (n1 : Int) (kk : AV → List A1 → Prop) : ∀ (n : Nat) (xi5 : Int), iter (evF TT cs_spec_placeOf 19 an_spec_placeOf Try.f114 [1, 0, 1, 0, 0]) nm0_spec_placeOf (kt0_spec_placeOf (fin_spec_placeOf list0 n1 kk)) n (can0_spec_placeOf list0 n1 xi5) = L0_spec_placeOf list0 n1 (fun r0 => kk (.one (.c (.v (.int .i64 r0)))) []) n xi5 := by
  intro n
  induction n with
  | zero => intros; rfl
  | succ n ih =>
    intro xi5
    rw [r0_spec_placeOf list0 n1 kk n xi5]
    have hb : (fun xi5 => iter (evF TT cs_spec_placeOf 19 an_spec_placeOf Try.f114 [1, 0, 1, 0, 0]) nm0_spec_placeOf (kt0_spec_placeOf (fin_spec_placeOf list0 n1 kk)) n (can0_spec_placeOf list0 n1 xi5)) = L0_spec_placeOf list0 n1 (fun r0 => kk (.one (.c (.v (.int .i64 r0)))) []) n := by
      funext xi5; exact ih xi5
    rw [hb]
    rfl
theorem g_spec_placeOf (list0 : List Int) (n1 : Int) (kk : AV → List A1 → Prop) :
    ev TT cs_spec_placeOf 19 an_spec_placeOf (Try.f114.body.getD .skip) (st0 con_spec_placeOf [.c (.ro .int list0), .c (.v (.int .i64 n1))]) (fin TT con_spec_placeOf Try.f114.results.toList [.c .sc] [.c (.ro .int list0), .c (.v (.int .i64 n1))] kk) = G_spec_placeOf list0 n1 (fun list0 n1 xi5 => ∃ j, iter (evF TT cs_spec_placeOf 19 an_spec_placeOf Try.f114 [1, 0, 1, 0, 0]) nm0_spec_placeOf (kt0_spec_placeOf (fin_spec_placeOf list0 n1 kk)) j (can0_spec_placeOf list0 n1 xi5)) := by kernel_rfl
theorem e_spec_placeOf (list0 : List Int) (n1 : Int) (kk : AV → List A1 → Prop) :
    ev TT cs_spec_placeOf 19 an_spec_placeOf (Try.f114.body.getD .skip) (st0 con_spec_placeOf [.c (.ro .int list0), .c (.v (.int .i64 n1))]) (fin TT con_spec_placeOf Try.f114.results.toList [.c .sc] [.c (.ro .int list0), .c (.v (.int .i64 n1))] kk) = S_spec_placeOf list0 n1 (fun r0 => kk (.one (.c (.v (.int .i64 r0)))) []) := by
  rw [g_spec_placeOf]
  have hi0 : (fun list0 n1 xi5 => ∃ j, iter (evF TT cs_spec_placeOf 19 an_spec_placeOf Try.f114 [1, 0, 1, 0, 0]) nm0_spec_placeOf (kt0_spec_placeOf (fin_spec_placeOf list0 n1 kk)) j (can0_spec_placeOf list0 n1 xi5)) = (fun list0 n1 xi5 => ∃ j, L0_spec_placeOf list0 n1 (fun r0 => kk (.one (.c (.v (.int .i64 r0)))) []) j xi5) := by
    funext list0 n1 xi5
    refine congrArg Exists (funext fun j => ?_)
    rw [l0_spec_placeOf list0 n1 kk j xi5]
  rw [hi0]
  rfl
theorem clok_spec_placeOf : ConOK Try.prog cl_spec_placeOf := consNil
theorem cok_spec_placeOf : ConsOK Try.prog 19 cs_spec_placeOf := ⟨clok_spec_placeOf, inlNil, ovNil⟩
theorem i_spec_placeOf {vs : List A1} {kk : AV → List A1 → Prop} {motive : List A1 → Prop} (h : con_spec_placeOf.F vs kk) (H : ∀ (list0 : List Int) (n1 : Int), F_spec_placeOf list0 n1 (fun r0 => kk (.one (.c (.v (.int .i64 r0)))) []) → motive [.c (.ro .int list0), .c (.v (.int .i64 n1))]) : motive vs := by
  unfold con_spec_placeOf at h
  dsimp only at h
  split at h
  · exact H _ _ h
  · exact h.elim
theorem h_spec_placeOf : Holds Try.prog 114 con_spec_placeOf := by
  refine holds_of_ev (rt := [.c .sc]) (T := TT) (Γ := cs_spec_placeOf) (an := an_spec_placeOf) (N := 19) (c := Try.f114.body.getD .skip) Try.func114 (by kernel_rfl) Try.ntmps114 (by decide) (by decide) mixed tabOK cok_spec_placeOf (by kernel_rfl) ?_
  intro vs kk _ hF
  exact i_spec_placeOf (motive := fun vs => Goes (ev TT cs_spec_placeOf 19 an_spec_placeOf (Try.f114.body.getD .skip) (st0 con_spec_placeOf vs) (fin TT con_spec_placeOf Try.f114.results.toList [.c .sc] vs kk))) hF (fun list0 n1 hF => goes_of (e_spec_placeOf list0 n1 kk) (F_spec_placeOf_S hF))
def con_spec_without : Con := ⟨[.rd, .rd], true, [.c (.sl .int), .c (.sc)], fun vs k => match vs with
    | [.c (.ro .int list0), .c (.v (.int .i64 at1))] => F_spec_without list0 at1 (fun r0 => k (.one (.c (.ro .int r0))) [])
    | _ => False, false⟩
def cl_spec_without : List (FuncId × Con) := []
def an_spec_without : Ann := ⟨[(1, .take 1 (.take 2 (.take 3 (.take 5 (.take 6 (.take 7 (.take 8 (.alt 0 (.alt 4 (.alt 9 (.take 10 (.done)) (.none)) (.none)) (.none)))))))), [])], [], [], []⟩
def cs_spec_without : Cons := ⟨cl_spec_without, [], 0, [], [], []⟩
def fin_spec_without (list0 : List Int) (at1 : Int) (kk : AV → List A1 → Prop) : Kt := fin TT con_spec_without Try.f91.results.toList [.c (.sl .int)] [.c (.ro .int list0), .c (.v (.int .i64 at1))] kk
theorem g_spec_without (list0 : List Int) (at1 : Int) (kk : AV → List A1 → Prop) :
    ev TT cs_spec_without 15 an_spec_without (Try.f91.body.getD .skip) (st0 con_spec_without [.c (.ro .int list0), .c (.v (.int .i64 at1))]) (fin TT con_spec_without Try.f91.results.toList [.c (.sl .int)] [.c (.ro .int list0), .c (.v (.int .i64 at1))] kk) = G_spec_without list0 at1 (fun r0 => kk (.one (.c (.ro .int r0))) []) := by kernel_rfl
theorem e_spec_without (list0 : List Int) (at1 : Int) (kk : AV → List A1 → Prop) :
    ev TT cs_spec_without 15 an_spec_without (Try.f91.body.getD .skip) (st0 con_spec_without [.c (.ro .int list0), .c (.v (.int .i64 at1))]) (fin TT con_spec_without Try.f91.results.toList [.c (.sl .int)] [.c (.ro .int list0), .c (.v (.int .i64 at1))] kk) = S_spec_without list0 at1 (fun r0 => kk (.one (.c (.ro .int r0))) []) := by
  rw [g_spec_without]
  rw [G_spec_without_eq]
  rfl
theorem clok_spec_without : ConOK Try.prog cl_spec_without := consNil
theorem cok_spec_without : ConsOK Try.prog 15 cs_spec_without := ⟨clok_spec_without, inlNil, ovNil⟩
theorem i_spec_without {vs : List A1} {kk : AV → List A1 → Prop} {motive : List A1 → Prop} (h : con_spec_without.F vs kk) (H : ∀ (list0 : List Int) (at1 : Int), F_spec_without list0 at1 (fun r0 => kk (.one (.c (.ro .int r0))) []) → motive [.c (.ro .int list0), .c (.v (.int .i64 at1))]) : motive vs := by
  unfold con_spec_without at h
  dsimp only at h
  split at h
  · exact H _ _ h
  · exact h.elim
theorem h_spec_without : Holds Try.prog 91 con_spec_without := by
  refine holds_of_ev (rt := [.c (.sl .int)]) (T := TT) (Γ := cs_spec_without) (an := an_spec_without) (N := 15) (c := Try.f91.body.getD .skip) Try.func91 (by kernel_rfl) Try.ntmps91 (by decide) (by decide) mixed tabOK cok_spec_without (by kernel_rfl) ?_
  intro vs kk _ hF
  exact i_spec_without (motive := fun vs => Goes (ev TT cs_spec_without 15 an_spec_without (Try.f91.body.getD .skip) (st0 con_spec_without vs) (fin TT con_spec_without Try.f91.results.toList [.c (.sl .int)] vs kk))) hF (fun list0 at1 hF => goes_of (e_spec_without list0 at1 kk) (F_spec_without_S hF))
def con_spec_front : Con := ⟨[.rd, .rd], true, [.c (.sl .int), .c (.sc)], fun vs k => match vs with
    | [.c (.ro .int list0), .c (.v (.int .i64 n1))] => F_spec_front list0 n1 (fun r0 => k (.one (.c (.ro .int r0))) [])
    | _ => False, false⟩
def cl_spec_front : List (FuncId × Con) := []
def an_spec_front : Ann := ⟨[], [], [], []⟩
def cs_spec_front : Cons := ⟨cl_spec_front, [], 0, [], [], []⟩
def fin_spec_front (list0 : List Int) (n1 : Int) (kk : AV → List A1 → Prop) : Kt := fin TT con_spec_front Try.f115.results.toList [.c (.sl .int)] [.c (.ro .int list0), .c (.v (.int .i64 n1))] kk
theorem g_spec_front (list0 : List Int) (n1 : Int) (kk : AV → List A1 → Prop) :
    ev TT cs_spec_front 9 an_spec_front (Try.f115.body.getD .skip) (st0 con_spec_front [.c (.ro .int list0), .c (.v (.int .i64 n1))]) (fin TT con_spec_front Try.f115.results.toList [.c (.sl .int)] [.c (.ro .int list0), .c (.v (.int .i64 n1))] kk) = G_spec_front list0 n1 (fun r0 => kk (.one (.c (.ro .int r0))) []) := by kernel_rfl
theorem e_spec_front (list0 : List Int) (n1 : Int) (kk : AV → List A1 → Prop) :
    ev TT cs_spec_front 9 an_spec_front (Try.f115.body.getD .skip) (st0 con_spec_front [.c (.ro .int list0), .c (.v (.int .i64 n1))]) (fin TT con_spec_front Try.f115.results.toList [.c (.sl .int)] [.c (.ro .int list0), .c (.v (.int .i64 n1))] kk) = S_spec_front list0 n1 (fun r0 => kk (.one (.c (.ro .int r0))) []) := by
  rw [g_spec_front]
  rfl
theorem clok_spec_front : ConOK Try.prog cl_spec_front := consNil
theorem cok_spec_front : ConsOK Try.prog 9 cs_spec_front := ⟨clok_spec_front, inlNil, ovNil⟩
theorem i_spec_front {vs : List A1} {kk : AV → List A1 → Prop} {motive : List A1 → Prop} (h : con_spec_front.F vs kk) (H : ∀ (list0 : List Int) (n1 : Int), F_spec_front list0 n1 (fun r0 => kk (.one (.c (.ro .int r0))) []) → motive [.c (.ro .int list0), .c (.v (.int .i64 n1))]) : motive vs := by
  unfold con_spec_front at h
  dsimp only at h
  split at h
  · exact H _ _ h
  · exact h.elim
theorem h_spec_front : Holds Try.prog 115 con_spec_front := by
  refine holds_of_ev (rt := [.c (.sl .int)]) (T := TT) (Γ := cs_spec_front) (an := an_spec_front) (N := 9) (c := Try.f115.body.getD .skip) Try.func115 (by kernel_rfl) Try.ntmps115 (by decide) (by decide) mixed tabOK cok_spec_front (by kernel_rfl) ?_
  intro vs kk _ hF
  exact i_spec_front (motive := fun vs => Goes (ev TT cs_spec_front 9 an_spec_front (Try.f115.body.getD .skip) (st0 con_spec_front vs) (fin TT con_spec_front Try.f115.results.toList [.c (.sl .int)] vs kk))) hF (fun list0 n1 hF => goes_of (e_spec_front list0 n1 kk) (F_spec_front_S hF))
def con_spec_count : Con := ⟨[.rd, .rd], true, [.c (.sl .int), .c (.sc)], fun vs k => match vs with
    | [.c (.ro .int s0), .c (.v (.int .i64 key1))] => F_spec_count s0 key1 (fun r0 => k (.one (.c (.v (.int .i64 r0)))) [])
    | _ => False, false⟩
def cl_spec_count : List (FuncId × Con) := [(130, con_spec_cell)]
def nm0_spec_count : List NStep := [.keep [0, 1, 5, 6] []]
def an_spec_count : Ann := ⟨[], [(3, nm0_spec_count)], [], []⟩
def cs_spec_count : Cons := ⟨cl_spec_count, [], 0, [], [], []⟩
def can0_spec_count (key1 : Int) (s0 : List Int) (xn5 : Int) (xr6 : Int) : St := ⟨[(0, .one (.c (.ro .int s0))), (1, .one (.c (.v (.int .i64 key1)))), (5, .one (.c (.v (.int .i64 xn5)))), (6, .one (.c (.v (.int .i64 xr6))))], []⟩
def fin_spec_count (s0 : List Int) (key1 : Int) (kk : AV → List A1 → Prop) : Kt := fin TT con_spec_count Try.f116.results.toList [.c .sc] [.c (.ro .int s0), .c (.v (.int .i64 key1))] kk
def kt0_spec_count (kf : Kt) : Kt := blockK 0 (seqK (evF TT cs_spec_count 20 an_spec_count Try.f116 [1, 1, 1]) (kf))
theorem r0_spec_count (s0 : List Int) (key1 : Int) (kk : AV → List A1 → Prop) (n : Nat) (xn5 : Int) (xr6 : Int) :
    iter (evF TT cs_spec_count 20 an_spec_count Try.f116 [1, 1, 0, 1, 0, 0]) nm0_spec_count (kt0_spec_count (fin_spec_count s0 key1 kk)) (n + 1) (can0_spec_count key1 s0 xn5 xr6) = T0_spec_count key1 s0 xn5 xr6 (fun r0 => kk (.one (.c (.v (.int .i64 r0)))) []) (fun xn5 xr6 => iter (evF TT cs_spec_count 20 an_spec_count Try.f116 [1, 1, 0, 1, 0, 0]) nm0_spec_count (kt0_spec_count (fin_spec_count s0 key1 kk)) n (can0_spec_count key1 s0 xn5 xr6)) := by kernel_rfl
theorem l0_spec_count (s0 : List Int) (key1 : Int) (kk : AV → List A1 → Prop) : ∀ (n : Nat) (xn5 : Int) (xr6 : Int), iter (evF TT cs_spec_count 20 an_spec_count Try.f116 [1, 1, 0, 1, 0, 0]) nm0_spec_count (kt0_spec_count (fin_spec_count s0 key1 kk)) n (can0_spec_count key1 s0 xn5 xr6) = L0_spec_count key1 s0 (fun r0 => kk (.one (.c (.v (.int .i64 r0)))) []) n xn5 xr6 := by
  intro n
  induction n with
  | zero => intros; rfl
  | succ n ih =>
    intro xn5 xr6
    rw [r0_spec_count s0 key1 kk n xn5 xr6]
    have hb : (fun xn5 xr6 => iter (evF TT cs_spec_count 20 an_spec_count Try.f116 [1, 1, 0, 1, 0, 0]) nm0_spec_count (kt0_spec_count (fin_spec_count s0 key1 kk)) n (can0_spec_count key1 s0 xn5 xr6)) = L0_spec_count key1 s0 (fun r0 => kk (.one (.c (.v (.int .i64 r0)))) []) n := by
      funext xn5 xr6; exact ih xn5 xr6
    rw [hb]
    rfl
theorem g_spec_count (s0 : List Int) (key1 : Int) (kk : AV → List A1 → Prop) :
    ev TT cs_spec_count 20 an_spec_count (Try.f116.body.getD .skip) (st0 con_spec_count [.c (.ro .int s0), .c (.v (.int .i64 key1))]) (fin TT con_spec_count Try.f116.results.toList [.c .sc] [.c (.ro .int s0), .c (.v (.int .i64 key1))] kk) = G_spec_count s0 key1 (fun key1 s0 xn5 xr6 => ∃ j, iter (evF TT cs_spec_count 20 an_spec_count Try.f116 [1, 1, 0, 1, 0, 0]) nm0_spec_count (kt0_spec_count (fin_spec_count s0 key1 kk)) j (can0_spec_count key1 s0 xn5 xr6)) := by kernel_rfl
theorem e_spec_count (s0 : List Int) (key1 : Int) (kk : AV → List A1 → Prop) :
    ev TT cs_spec_count 20 an_spec_count (Try.f116.body.getD .skip) (st0 con_spec_count [.c (.ro .int s0), .c (.v (.int .i64 key1))]) (fin TT con_spec_count Try.f116.results.toList [.c .sc] [.c (.ro .int s0), .c (.v (.int .i64 key1))] kk) = S_spec_count s0 key1 (fun r0 => kk (.one (.c (.v (.int .i64 r0)))) []) := by
  rw [g_spec_count]
  have hi0 : (fun key1 s0 xn5 xr6 => ∃ j, iter (evF TT cs_spec_count 20 an_spec_count Try.f116 [1, 1, 0, 1, 0, 0]) nm0_spec_count (kt0_spec_count (fin_spec_count s0 key1 kk)) j (can0_spec_count key1 s0 xn5 xr6)) = (fun key1 s0 xn5 xr6 => ∃ j, L0_spec_count key1 s0 (fun r0 => kk (.one (.c (.v (.int .i64 r0)))) []) j xn5 xr6) := by
    funext key1 s0 xn5 xr6
    refine congrArg Exists (funext fun j => ?_)
    rw [l0_spec_count s0 key1 kk j xn5 xr6]
  rw [hi0]
  rfl
theorem clok_spec_count : ConOK Try.prog cl_spec_count := consCons h_spec_cell ⟨Try.f130, Try.func130, by kernel_rfl, ne_of_beq (by kernel_rfl)⟩ (consNil)
theorem cok_spec_count : ConsOK Try.prog 20 cs_spec_count := ⟨clok_spec_count, inlNil, ovNil⟩
theorem i_spec_count {vs : List A1} {kk : AV → List A1 → Prop} {motive : List A1 → Prop} (h : con_spec_count.F vs kk) (H : ∀ (s0 : List Int) (key1 : Int), F_spec_count s0 key1 (fun r0 => kk (.one (.c (.v (.int .i64 r0)))) []) → motive [.c (.ro .int s0), .c (.v (.int .i64 key1))]) : motive vs := by
  unfold con_spec_count at h
  dsimp only at h
  split at h
  · exact H _ _ h
  · exact h.elim
theorem h_spec_count : Holds Try.prog 116 con_spec_count := by
  refine holds_of_ev (rt := [.c .sc]) (T := TT) (Γ := cs_spec_count) (an := an_spec_count) (N := 20) (c := Try.f116.body.getD .skip) Try.func116 (by kernel_rfl) Try.ntmps116 (by decide) (by decide) mixed tabOK cok_spec_count (by kernel_rfl) ?_
  intro vs kk _ hF
  exact i_spec_count (motive := fun vs => Goes (ev TT cs_spec_count 20 an_spec_count (Try.f116.body.getD .skip) (st0 con_spec_count vs) (fin TT con_spec_count Try.f116.results.toList [.c .sc] vs kk))) hF (fun s0 key1 hF => goes_of (e_spec_count s0 key1 kk) (F_spec_count_S hF))
def con_spec_pass : Con := ⟨[.rd, .rd], false, [.agg [.sc, .sc, .sl .int, .sl .int, .sl .int, .sc], .c (.sc)], fun vs k => match vs with
    | [.agg [.v (.int .i64 old0Window), .v (.int .i64 old0Room), .ro .int old0New, .ro .int old0Main, .ro .int old0Sketch, .v (.int .i64 old0Added)], .c (.v (.int .i64 key1))] => F_spec_pass old0Window old0Room old0New old0Main old0Sketch old0Added key1 (fun r0 r1 r2 r3 r4 r5 r6 => k (.tup [.agg [.v (.int .i64 r0), .v (.int .i64 r1), .ro .int r2, .ro .int r3, .ro .int r4, .v (.int .i64 r5)], .c (.v (.bool r6))]) [])
    | _ => False, false⟩
def cl_spec_pass : List (FuncId × Con) := [(68, con_spec_copyGate), (91, con_spec_without), (113, con_spec_learn), (114, con_spec_placeOf), (115, con_spec_front), (116, con_spec_count)]
def an_spec_pass : Ann := ⟨[(18, .take 0 (.take 1 (.take 2 (.take 4 (.take 5 (.take 6 (.take 7 (.take 8 (.take 9 (.take 10 (.take 11 (.alt 3 (.alt 12 (.take 13 (.done)) (.none)) (.none)))))))))))), [96])], [], [], []⟩
def cs_spec_pass : Cons := ⟨cl_spec_pass, [], 0, [], [], []⟩
def fin_spec_pass (old0Window : Int) (old0Room : Int) (old0New : List Int) (old0Main : List Int) (old0Sketch : List Int) (old0Added : Int) (key1 : Int) (kk : AV → List A1 → Prop) : Kt := fin TT con_spec_pass Try.f67.results.toList [.agg [.sc, .sc, .sl .int, .sl .int, .sl .int, .sc], .c .sc] [.agg [.v (.int .i64 old0Window), .v (.int .i64 old0Room), .ro .int old0New, .ro .int old0Main, .ro .int old0Sketch, .v (.int .i64 old0Added)], .c (.v (.int .i64 key1))] kk
theorem g_spec_pass (old0Window : Int) (old0Room : Int) (old0New : List Int) (old0Main : List Int) (old0Sketch : List Int) (old0Added : Int) (key1 : Int) (kk : AV → List A1 → Prop) :
    ev TT cs_spec_pass 101 an_spec_pass (Try.f67.body.getD .skip) (st0 con_spec_pass [.agg [.v (.int .i64 old0Window), .v (.int .i64 old0Room), .ro .int old0New, .ro .int old0Main, .ro .int old0Sketch, .v (.int .i64 old0Added)], .c (.v (.int .i64 key1))]) (fin TT con_spec_pass Try.f67.results.toList [.agg [.sc, .sc, .sl .int, .sl .int, .sl .int, .sc], .c .sc] [.agg [.v (.int .i64 old0Window), .v (.int .i64 old0Room), .ro .int old0New, .ro .int old0Main, .ro .int old0Sketch, .v (.int .i64 old0Added)], .c (.v (.int .i64 key1))] kk) = G_spec_pass old0Window old0Room old0New old0Main old0Sketch old0Added key1 (fun r0 r1 r2 r3 r4 r5 r6 => kk (.tup [.agg [.v (.int .i64 r0), .v (.int .i64 r1), .ro .int r2, .ro .int r3, .ro .int r4, .v (.int .i64 r5)], .c (.v (.bool r6))]) []) := by kernel_rfl
theorem e_spec_pass (old0Window : Int) (old0Room : Int) (old0New : List Int) (old0Main : List Int) (old0Sketch : List Int) (old0Added : Int) (key1 : Int) (kk : AV → List A1 → Prop) :
    ev TT cs_spec_pass 101 an_spec_pass (Try.f67.body.getD .skip) (st0 con_spec_pass [.agg [.v (.int .i64 old0Window), .v (.int .i64 old0Room), .ro .int old0New, .ro .int old0Main, .ro .int old0Sketch, .v (.int .i64 old0Added)], .c (.v (.int .i64 key1))]) (fin TT con_spec_pass Try.f67.results.toList [.agg [.sc, .sc, .sl .int, .sl .int, .sl .int, .sc], .c .sc] [.agg [.v (.int .i64 old0Window), .v (.int .i64 old0Room), .ro .int old0New, .ro .int old0Main, .ro .int old0Sketch, .v (.int .i64 old0Added)], .c (.v (.int .i64 key1))] kk) = S_spec_pass old0Window old0Room old0New old0Main old0Sketch old0Added key1 (fun r0 r1 r2 r3 r4 r5 r6 => kk (.tup [.agg [.v (.int .i64 r0), .v (.int .i64 r1), .ro .int r2, .ro .int r3, .ro .int r4, .v (.int .i64 r5)], .c (.v (.bool r6))]) []) := by
  rw [g_spec_pass]
  rw [G_spec_pass_eq]
  rfl
theorem clok_spec_pass : ConOK Try.prog cl_spec_pass := consCons h_spec_copyGate ⟨Try.f68, Try.func68, by kernel_rfl, ne_of_beq (by kernel_rfl)⟩ (consCons h_spec_without ⟨Try.f91, Try.func91, by kernel_rfl, ne_of_beq (by kernel_rfl)⟩ (consCons h_spec_learn ⟨Try.f113, Try.func113, by kernel_rfl, ne_of_beq (by kernel_rfl)⟩ (consCons h_spec_placeOf ⟨Try.f114, Try.func114, by kernel_rfl, ne_of_beq (by kernel_rfl)⟩ (consCons h_spec_front ⟨Try.f115, Try.func115, by kernel_rfl, ne_of_beq (by kernel_rfl)⟩ (consCons h_spec_count ⟨Try.f116, Try.func116, by kernel_rfl, ne_of_beq (by kernel_rfl)⟩ (consNil))))))
theorem cok_spec_pass : ConsOK Try.prog 101 cs_spec_pass := ⟨clok_spec_pass, inlNil, ovNil⟩
theorem i_spec_pass {vs : List A1} {kk : AV → List A1 → Prop} {motive : List A1 → Prop} (h : con_spec_pass.F vs kk) (H : ∀ (old0Window : Int) (old0Room : Int) (old0New : List Int) (old0Main : List Int) (old0Sketch : List Int) (old0Added : Int) (key1 : Int), F_spec_pass old0Window old0Room old0New old0Main old0Sketch old0Added key1 (fun r0 r1 r2 r3 r4 r5 r6 => kk (.tup [.agg [.v (.int .i64 r0), .v (.int .i64 r1), .ro .int r2, .ro .int r3, .ro .int r4, .v (.int .i64 r5)], .c (.v (.bool r6))]) []) → motive [.agg [.v (.int .i64 old0Window), .v (.int .i64 old0Room), .ro .int old0New, .ro .int old0Main, .ro .int old0Sketch, .v (.int .i64 old0Added)], .c (.v (.int .i64 key1))]) : motive vs := by
  unfold con_spec_pass at h
  dsimp only at h
  split at h
  · exact H _ _ _ _ _ _ _ h
  · exact h.elim
theorem h_spec_pass : Holds Try.prog 67 con_spec_pass := by
  refine holds_of_ev (rt := [.agg [.sc, .sc, .sl .int, .sl .int, .sl .int, .sc], .c .sc]) (T := TT) (Γ := cs_spec_pass) (an := an_spec_pass) (N := 101) (c := Try.f67.body.getD .skip) Try.func67 (by kernel_rfl) Try.ntmps67 (by decide) (by decide) mixed tabOK cok_spec_pass (by kernel_rfl) ?_
  intro vs kk _ hF
  exact i_spec_pass (motive := fun vs => Goes (ev TT cs_spec_pass 101 an_spec_pass (Try.f67.body.getD .skip) (st0 con_spec_pass vs) (fin TT con_spec_pass Try.f67.results.toList [.agg [.sc, .sc, .sl .int, .sl .int, .sl .int, .sc], .c .sc] vs kk))) hF (fun old0Window old0Room old0New old0Main old0Sketch old0Added key1 hF => goes_of (e_spec_pass old0Window old0Room old0New old0Main old0Sketch old0Added key1 kk) (F_spec_pass_S hF))
def con_spec_reader_spoil : Con := ⟨[.mu, .rd, .rd], true, [.ptr [.sl .u8, .sc], .c (.sl .int), .c (.sc)], fun vs k => match vs with
    | [.ptr [.ro .u8 r0b, .v (.int .i64 r0p)], .c (.ro .int list1), .c (.v (.int .i64 n2))] => F_spec_reader_spoil r0b r0p list1 n2 (fun r0 r1 r2 => k (.one (.c (.ro .int r0))) [.ptr [.ro .u8 r1, .v (.int .i64 r2)]])
    | _ => False, false⟩
def cl_spec_reader_spoil : List (FuncId × Con) := [(93, con_spec_copyInts), (107, con_spec_reader_one), (108, con_spec_reader_pick)]
def an_spec_reader_spoil : Ann := ⟨[], [], [], []⟩
def cs_spec_reader_spoil : Cons := ⟨cl_spec_reader_spoil, [], 0, [], [], []⟩
def fin_spec_reader_spoil (r0b : List Int) (r0p : Int) (list1 : List Int) (n2 : Int) (kk : AV → List A1 → Prop) : Kt := fin TT con_spec_reader_spoil Try.f109.results.toList [.c (.sl .int)] [.ptr [.ro .u8 r0b, .v (.int .i64 r0p)], .c (.ro .int list1), .c (.v (.int .i64 n2))] kk
theorem g_spec_reader_spoil (r0b : List Int) (r0p : Int) (list1 : List Int) (n2 : Int) (kk : AV → List A1 → Prop) :
    ev TT cs_spec_reader_spoil 41 an_spec_reader_spoil (Try.f109.body.getD .skip) (st0 con_spec_reader_spoil [.ptr [.ro .u8 r0b, .v (.int .i64 r0p)], .c (.ro .int list1), .c (.v (.int .i64 n2))]) (fin TT con_spec_reader_spoil Try.f109.results.toList [.c (.sl .int)] [.ptr [.ro .u8 r0b, .v (.int .i64 r0p)], .c (.ro .int list1), .c (.v (.int .i64 n2))] kk) = G_spec_reader_spoil r0b r0p list1 n2 (fun r0 r1 r2 => kk (.one (.c (.ro .int r0))) [.ptr [.ro .u8 r1, .v (.int .i64 r2)]]) := by kernel_rfl
theorem e_spec_reader_spoil (r0b : List Int) (r0p : Int) (list1 : List Int) (n2 : Int) (kk : AV → List A1 → Prop) :
    ev TT cs_spec_reader_spoil 41 an_spec_reader_spoil (Try.f109.body.getD .skip) (st0 con_spec_reader_spoil [.ptr [.ro .u8 r0b, .v (.int .i64 r0p)], .c (.ro .int list1), .c (.v (.int .i64 n2))]) (fin TT con_spec_reader_spoil Try.f109.results.toList [.c (.sl .int)] [.ptr [.ro .u8 r0b, .v (.int .i64 r0p)], .c (.ro .int list1), .c (.v (.int .i64 n2))] kk) = S_spec_reader_spoil r0b r0p list1 n2 (fun r0 r1 r2 => kk (.one (.c (.ro .int r0))) [.ptr [.ro .u8 r1, .v (.int .i64 r2)]]) := by
  rw [g_spec_reader_spoil]
  rfl
theorem clok_spec_reader_spoil : ConOK Try.prog cl_spec_reader_spoil := consCons h_spec_copyInts ⟨Try.f93, Try.func93, by kernel_rfl, ne_of_beq (by kernel_rfl)⟩ (consCons h_spec_reader_one ⟨Try.f107, Try.func107, by kernel_rfl, ne_of_beq (by kernel_rfl)⟩ (consCons h_spec_reader_pick ⟨Try.f108, Try.func108, by kernel_rfl, ne_of_beq (by kernel_rfl)⟩ (consNil)))
theorem cok_spec_reader_spoil : ConsOK Try.prog 41 cs_spec_reader_spoil := ⟨clok_spec_reader_spoil, inlNil, ovNil⟩
theorem i_spec_reader_spoil {vs : List A1} {kk : AV → List A1 → Prop} {motive : List A1 → Prop} (h : con_spec_reader_spoil.F vs kk) (H : ∀ (r0b : List Int) (r0p : Int) (list1 : List Int) (n2 : Int), F_spec_reader_spoil r0b r0p list1 n2 (fun r0 r1 r2 => kk (.one (.c (.ro .int r0))) [.ptr [.ro .u8 r1, .v (.int .i64 r2)]]) → motive [.ptr [.ro .u8 r0b, .v (.int .i64 r0p)], .c (.ro .int list1), .c (.v (.int .i64 n2))]) : motive vs := by
  unfold con_spec_reader_spoil at h
  dsimp only at h
  split at h
  · exact H _ _ _ _ h
  · exact h.elim
theorem h_spec_reader_spoil : Holds Try.prog 109 con_spec_reader_spoil := by
  refine holds_of_ev (rt := [.c (.sl .int)]) (T := TT) (Γ := cs_spec_reader_spoil) (an := an_spec_reader_spoil) (N := 41) (c := Try.f109.body.getD .skip) Try.func109 (by kernel_rfl) Try.ntmps109 (by decide) (by decide) mixed tabOK cok_spec_reader_spoil (by kernel_rfl) ?_
  intro vs kk _ hF
  exact i_spec_reader_spoil (motive := fun vs => Goes (ev TT cs_spec_reader_spoil 41 an_spec_reader_spoil (Try.f109.body.getD .skip) (st0 con_spec_reader_spoil vs) (fin TT con_spec_reader_spoil Try.f109.results.toList [.c (.sl .int)] vs kk))) hF (fun r0b r0p list1 n2 hF => goes_of (e_spec_reader_spoil r0b r0p list1 n2 kk) (F_spec_reader_spoil_S hF))
def con_spec_someGate : Con := ⟨[.mu], true, [.ptr [.sl .u8, .sc]], fun vs k => match vs with
    | [.ptr [.ro .u8 r0b, .v (.int .i64 r0p)]] => F_spec_someGate r0b r0p (fun r0 r1 r2 r3 r4 r5 r6 r7 => k (.one (.agg [.v (.int .i64 r0), .v (.int .i64 r1), .ro .int r2, .ro .int r3, .ro .int r4, .v (.int .i64 r5)])) [.ptr [.ro .u8 r6, .v (.int .i64 r7)]])
    | _ => False, false⟩
def cl_spec_someGate : List (FuncId × Con) := [(67, con_spec_pass), (68, con_spec_copyGate), (78, con_spec_EmptySketch), (107, con_spec_reader_one), (108, con_spec_reader_pick), (109, con_spec_reader_spoil)]
def nm0_spec_someGate : List NStep := [.frzc 48 2 .int, .frzc 48 3 .int, .frzc 48 4 .int, .keep [0, 2, 3, 4] [100000, 32, 48]]
def an_spec_someGate : Ann := ⟨[(5, .take 1 (.alt 0 (.alt 2 (.alt 3 (.take 4 (.take 5 (.take 6 (.alt 7 (.done) (.none))))) (.none)) (.none)) (.alt 2 (.alt 0 (.alt 3 (.take 4 (.take 5 (.take 6 (.alt 7 (.done) (.none))))) (.none)) (.none)) (.none))), []), (11, .take 0 (.take 2 (.alt 1 (.alt 3 (.alt 4 (.alt 5 (.take 6 (.alt 7 (.done) (.none))) (.none)) (.none)) (.none)) (.alt 3 (.alt 1 (.alt 4 (.alt 5 (.take 6 (.alt 7 (.done) (.none))) (.none)) (.none)) (.alt 4 (.alt 1 (.alt 5 (.take 6 (.alt 7 (.done) (.none))) (.none)) (.none)) (.none))) (.none)))), [])], [(3, nm0_spec_someGate)], [], []⟩
def cs_spec_someGate : Cons := ⟨cl_spec_someGate, [], 0, [], [], []⟩
def can0_spec_someGate (xn4 : Int) (xb100000c0 : List Int) (xb100000c1 : Int) (xb3c0 : Int) (xb3c1 : Int) (xb3c2 : List Int) (xb3c3 : List Int) (xb3c4 : List Int) (xb3c5 : Int) : St := ⟨[(0, .one (.c (.pb 100000 0))), (2, .one (.c (.pb 32 0))), (3, .one (.c (.pb 48 0))), (4, .one (.c (.v (.int .i64 xn4))))], [(100000, .box [.ro .u8 xb100000c0, .v (.int .i64 xb100000c1)]), (32, .box [.v (.int .i64 0), .v (.int .i64 0), .nil, .nil, .nil, .v (.int .i64 0)]), (48, .box [.v (.int .i64 xb3c0), .v (.int .i64 xb3c1), .ro .int xb3c2, .ro .int xb3c3, .ro .int xb3c4, .v (.int .i64 xb3c5)])]⟩
def fin_spec_someGate (r0b : List Int) (r0p : Int) (kk : AV → List A1 → Prop) : Kt := fin TT con_spec_someGate Try.f60.results.toList [.agg [.sc, .sc, .sl .int, .sl .int, .sl .int, .sc]] [.ptr [.ro .u8 r0b, .v (.int .i64 r0p)]] kk
def kt0_spec_someGate (kf : Kt) : Kt := blockK 0 (seqK (evF TT cs_spec_someGate 62 an_spec_someGate Try.f60 [1, 1, 1]) (kf))
theorem r0_spec_someGate (r0b : List Int) (r0p : Int) (kk : AV → List A1 → Prop) (n : Nat) (xn4 : Int) (xb100000c0 : List Int) (xb100000c1 : Int) (xb3c0 : Int) (xb3c1 : Int) (xb3c2 : List Int) (xb3c3 : List Int) (xb3c4 : List Int) (xb3c5 : Int) :
    iter (evF TT cs_spec_someGate 62 an_spec_someGate Try.f60 [1, 1, 0, 1, 0, 0]) nm0_spec_someGate (kt0_spec_someGate (fin_spec_someGate r0b r0p kk)) (n + 1) (can0_spec_someGate xn4 xb100000c0 xb100000c1 xb3c0 xb3c1 xb3c2 xb3c3 xb3c4 xb3c5) = T0_spec_someGate xn4 xb100000c0 xb100000c1 xb3c0 xb3c1 xb3c2 xb3c3 xb3c4 xb3c5 (fun r0 r1 r2 r3 r4 r5 r6 r7 => kk (.one (.agg [.v (.int .i64 r0), .v (.int .i64 r1), .ro .int r2, .ro .int r3, .ro .int r4, .v (.int .i64 r5)])) [.ptr [.ro .u8 r6, .v (.int .i64 r7)]]) (fun xn4 xb100000c0 xb100000c1 xb3c0 xb3c1 xb3c2 xb3c3 xb3c4 xb3c5 => iter (evF TT cs_spec_someGate 62 an_spec_someGate Try.f60 [1, 1, 0, 1, 0, 0]) nm0_spec_someGate (kt0_spec_someGate (fin_spec_someGate r0b r0p kk)) n (can0_spec_someGate xn4 xb100000c0 xb100000c1 xb3c0 xb3c1 xb3c2 xb3c3 xb3c4 xb3c5)) := by kernel_rfl
theorem l0_spec_someGate (r0b : List Int) (r0p : Int) (kk : AV → List A1 → Prop) : ∀ (n : Nat) (xn4 : Int) (xb100000c0 : List Int) (xb100000c1 : Int) (xb3c0 : Int) (xb3c1 : Int) (xb3c2 : List Int) (xb3c3 : List Int) (xb3c4 : List Int) (xb3c5 : Int), iter (evF TT cs_spec_someGate 62 an_spec_someGate Try.f60 [1, 1, 0, 1, 0, 0]) nm0_spec_someGate (kt0_spec_someGate (fin_spec_someGate r0b r0p kk)) n (can0_spec_someGate xn4 xb100000c0 xb100000c1 xb3c0 xb3c1 xb3c2 xb3c3 xb3c4 xb3c5) = L0_spec_someGate (fun r0 r1 r2 r3 r4 r5 r6 r7 => kk (.one (.agg [.v (.int .i64 r0), .v (.int .i64 r1), .ro .int r2, .ro .int r3, .ro .int r4, .v (.int .i64 r5)])) [.ptr [.ro .u8 r6, .v (.int .i64 r7)]]) n xn4 xb100000c0 xb100000c1 xb3c0 xb3c1 xb3c2 xb3c3 xb3c4 xb3c5 := by
  intro n
  induction n with
  | zero => intros; rfl
  | succ n ih =>
    intro xn4 xb100000c0 xb100000c1 xb3c0 xb3c1 xb3c2 xb3c3 xb3c4 xb3c5
    rw [r0_spec_someGate r0b r0p kk n xn4 xb100000c0 xb100000c1 xb3c0 xb3c1 xb3c2 xb3c3 xb3c4 xb3c5]
    have hb : (fun xn4 xb100000c0 xb100000c1 xb3c0 xb3c1 xb3c2 xb3c3 xb3c4 xb3c5 => iter (evF TT cs_spec_someGate 62 an_spec_someGate Try.f60 [1, 1, 0, 1, 0, 0]) nm0_spec_someGate (kt0_spec_someGate (fin_spec_someGate r0b r0p kk)) n (can0_spec_someGate xn4 xb100000c0 xb100000c1 xb3c0 xb3c1 xb3c2 xb3c3 xb3c4 xb3c5)) = L0_spec_someGate (fun r0 r1 r2 r3 r4 r5 r6 r7 => kk (.one (.agg [.v (.int .i64 r0), .v (.int .i64 r1), .ro .int r2, .ro .int r3, .ro .int r4, .v (.int .i64 r5)])) [.ptr [.ro .u8 r6, .v (.int .i64 r7)]]) n := by
      funext xn4 xb100000c0 xb100000c1 xb3c0 xb3c1 xb3c2 xb3c3 xb3c4 xb3c5; exact ih xn4 xb100000c0 xb100000c1 xb3c0 xb3c1 xb3c2 xb3c3 xb3c4 xb3c5
    rw [hb]
    rw [T0_spec_someGate_eq]
    rfl
theorem g_spec_someGate (r0b : List Int) (r0p : Int) (kk : AV → List A1 → Prop) :
    ev TT cs_spec_someGate 62 an_spec_someGate (Try.f60.body.getD .skip) (st0 con_spec_someGate [.ptr [.ro .u8 r0b, .v (.int .i64 r0p)]]) (fin TT con_spec_someGate Try.f60.results.toList [.agg [.sc, .sc, .sl .int, .sl .int, .sl .int, .sc]] [.ptr [.ro .u8 r0b, .v (.int .i64 r0p)]] kk) = G_spec_someGate r0b r0p (fun xn4 xb100000c0 xb100000c1 xb3c0 xb3c1 xb3c2 xb3c3 xb3c4 xb3c5 => ∃ j, iter (evF TT cs_spec_someGate 62 an_spec_someGate Try.f60 [1, 1, 0, 1, 0, 0]) nm0_spec_someGate (kt0_spec_someGate (fin_spec_someGate r0b r0p kk)) j (can0_spec_someGate xn4 xb100000c0 xb100000c1 xb3c0 xb3c1 xb3c2 xb3c3 xb3c4 xb3c5)) := by kernel_rfl
theorem e_spec_someGate (r0b : List Int) (r0p : Int) (kk : AV → List A1 → Prop) :
    ev TT cs_spec_someGate 62 an_spec_someGate (Try.f60.body.getD .skip) (st0 con_spec_someGate [.ptr [.ro .u8 r0b, .v (.int .i64 r0p)]]) (fin TT con_spec_someGate Try.f60.results.toList [.agg [.sc, .sc, .sl .int, .sl .int, .sl .int, .sc]] [.ptr [.ro .u8 r0b, .v (.int .i64 r0p)]] kk) = S_spec_someGate r0b r0p (fun r0 r1 r2 r3 r4 r5 r6 r7 => kk (.one (.agg [.v (.int .i64 r0), .v (.int .i64 r1), .ro .int r2, .ro .int r3, .ro .int r4, .v (.int .i64 r5)])) [.ptr [.ro .u8 r6, .v (.int .i64 r7)]]) := by
  rw [g_spec_someGate]
  have hi0 : (fun xn4 xb100000c0 xb100000c1 xb3c0 xb3c1 xb3c2 xb3c3 xb3c4 xb3c5 => ∃ j, iter (evF TT cs_spec_someGate 62 an_spec_someGate Try.f60 [1, 1, 0, 1, 0, 0]) nm0_spec_someGate (kt0_spec_someGate (fin_spec_someGate r0b r0p kk)) j (can0_spec_someGate xn4 xb100000c0 xb100000c1 xb3c0 xb3c1 xb3c2 xb3c3 xb3c4 xb3c5)) = (fun xn4 xb100000c0 xb100000c1 xb3c0 xb3c1 xb3c2 xb3c3 xb3c4 xb3c5 => ∃ j, L0_spec_someGate (fun r0 r1 r2 r3 r4 r5 r6 r7 => kk (.one (.agg [.v (.int .i64 r0), .v (.int .i64 r1), .ro .int r2, .ro .int r3, .ro .int r4, .v (.int .i64 r5)])) [.ptr [.ro .u8 r6, .v (.int .i64 r7)]]) j xn4 xb100000c0 xb100000c1 xb3c0 xb3c1 xb3c2 xb3c3 xb3c4 xb3c5) := by
    funext xn4 xb100000c0 xb100000c1 xb3c0 xb3c1 xb3c2 xb3c3 xb3c4 xb3c5
    refine congrArg Exists (funext fun j => ?_)
    rw [l0_spec_someGate r0b r0p kk j xn4 xb100000c0 xb100000c1 xb3c0 xb3c1 xb3c2 xb3c3 xb3c4 xb3c5]
  rw [hi0]
  rfl
theorem clok_spec_someGate : ConOK Try.prog cl_spec_someGate := consCons h_spec_pass ⟨Try.f67, Try.func67, by kernel_rfl, ne_of_beq (by kernel_rfl)⟩ (consCons h_spec_copyGate ⟨Try.f68, Try.func68, by kernel_rfl, ne_of_beq (by kernel_rfl)⟩ (consCons h_spec_EmptySketch ⟨Try.f78, Try.func78, by kernel_rfl, ne_of_beq (by kernel_rfl)⟩ (consCons h_spec_reader_one ⟨Try.f107, Try.func107, by kernel_rfl, ne_of_beq (by kernel_rfl)⟩ (consCons h_spec_reader_pick ⟨Try.f108, Try.func108, by kernel_rfl, ne_of_beq (by kernel_rfl)⟩ (consCons h_spec_reader_spoil ⟨Try.f109, Try.func109, by kernel_rfl, ne_of_beq (by kernel_rfl)⟩ (consNil))))))
theorem cok_spec_someGate : ConsOK Try.prog 62 cs_spec_someGate := ⟨clok_spec_someGate, inlNil, ovNil⟩
theorem i_spec_someGate {vs : List A1} {kk : AV → List A1 → Prop} {motive : List A1 → Prop} (h : con_spec_someGate.F vs kk) (H : ∀ (r0b : List Int) (r0p : Int), F_spec_someGate r0b r0p (fun r0 r1 r2 r3 r4 r5 r6 r7 => kk (.one (.agg [.v (.int .i64 r0), .v (.int .i64 r1), .ro .int r2, .ro .int r3, .ro .int r4, .v (.int .i64 r5)])) [.ptr [.ro .u8 r6, .v (.int .i64 r7)]]) → motive [.ptr [.ro .u8 r0b, .v (.int .i64 r0p)]]) : motive vs := by
  unfold con_spec_someGate at h
  dsimp only at h
  split at h
  · exact H _ _ h
  · exact h.elim
theorem h_spec_someGate : Holds Try.prog 60 con_spec_someGate := by
  refine holds_of_ev (rt := [.agg [.sc, .sc, .sl .int, .sl .int, .sl .int, .sc]]) (T := TT) (Γ := cs_spec_someGate) (an := an_spec_someGate) (N := 62) (c := Try.f60.body.getD .skip) Try.func60 (by kernel_rfl) Try.ntmps60 (by decide) (by decide) mixed tabOK cok_spec_someGate (by kernel_rfl) ?_
  intro vs kk _ hF
  exact i_spec_someGate (motive := fun vs => Goes (ev TT cs_spec_someGate 62 an_spec_someGate (Try.f60.body.getD .skip) (st0 con_spec_someGate vs) (fin TT con_spec_someGate Try.f60.results.toList [.agg [.sc, .sc, .sl .int, .sl .int, .sl .int, .sc]] vs kk))) hF (fun r0b r0p hF => goes_of (e_spec_someGate r0b r0p kk) (F_spec_someGate_S hF))
def con_spec_someKey : Con := ⟨[.mu], true, [.ptr [.sl .u8, .sc]], fun vs k => match vs with
    | [.ptr [.ro .u8 r0b, .v (.int .i64 r0p)]] => F_spec_someKey r0b r0p (fun r0 r1 r2 => k (.one (.c (.v (.int .i64 r0)))) [.ptr [.ro .u8 r1, .v (.int .i64 r2)]])
    | _ => False, false⟩
def cl_spec_someKey : List (FuncId × Con) := [(107, con_spec_reader_one), (108, con_spec_reader_pick)]
def an_spec_someKey : Ann := ⟨[], [], [], []⟩
def cs_spec_someKey : Cons := ⟨cl_spec_someKey, [], 0, [], [], []⟩
def fin_spec_someKey (r0b : List Int) (r0p : Int) (kk : AV → List A1 → Prop) : Kt := fin TT con_spec_someKey Try.f61.results.toList [.c .sc] [.ptr [.ro .u8 r0b, .v (.int .i64 r0p)]] kk
theorem g_spec_someKey (r0b : List Int) (r0p : Int) (kk : AV → List A1 → Prop) :
    ev TT cs_spec_someKey 12 an_spec_someKey (Try.f61.body.getD .skip) (st0 con_spec_someKey [.ptr [.ro .u8 r0b, .v (.int .i64 r0p)]]) (fin TT con_spec_someKey Try.f61.results.toList [.c .sc] [.ptr [.ro .u8 r0b, .v (.int .i64 r0p)]] kk) = G_spec_someKey r0b r0p (fun r0 r1 r2 => kk (.one (.c (.v (.int .i64 r0)))) [.ptr [.ro .u8 r1, .v (.int .i64 r2)]]) := by kernel_rfl
theorem e_spec_someKey (r0b : List Int) (r0p : Int) (kk : AV → List A1 → Prop) :
    ev TT cs_spec_someKey 12 an_spec_someKey (Try.f61.body.getD .skip) (st0 con_spec_someKey [.ptr [.ro .u8 r0b, .v (.int .i64 r0p)]]) (fin TT con_spec_someKey Try.f61.results.toList [.c .sc] [.ptr [.ro .u8 r0b, .v (.int .i64 r0p)]] kk) = S_spec_someKey r0b r0p (fun r0 r1 r2 => kk (.one (.c (.v (.int .i64 r0)))) [.ptr [.ro .u8 r1, .v (.int .i64 r2)]]) := by
  rw [g_spec_someKey]
  rfl
theorem clok_spec_someKey : ConOK Try.prog cl_spec_someKey := consCons h_spec_reader_one ⟨Try.f107, Try.func107, by kernel_rfl, ne_of_beq (by kernel_rfl)⟩ (consCons h_spec_reader_pick ⟨Try.f108, Try.func108, by kernel_rfl, ne_of_beq (by kernel_rfl)⟩ (consNil))
theorem cok_spec_someKey : ConsOK Try.prog 12 cs_spec_someKey := ⟨clok_spec_someKey, inlNil, ovNil⟩
theorem i_spec_someKey {vs : List A1} {kk : AV → List A1 → Prop} {motive : List A1 → Prop} (h : con_spec_someKey.F vs kk) (H : ∀ (r0b : List Int) (r0p : Int), F_spec_someKey r0b r0p (fun r0 r1 r2 => kk (.one (.c (.v (.int .i64 r0)))) [.ptr [.ro .u8 r1, .v (.int .i64 r2)]]) → motive [.ptr [.ro .u8 r0b, .v (.int .i64 r0p)]]) : motive vs := by
  unfold con_spec_someKey at h
  dsimp only at h
  split at h
  · exact H _ _ h
  · exact h.elim
theorem h_spec_someKey : Holds Try.prog 61 con_spec_someKey := by
  refine holds_of_ev (rt := [.c .sc]) (T := TT) (Γ := cs_spec_someKey) (an := an_spec_someKey) (N := 12) (c := Try.f61.body.getD .skip) Try.func61 (by kernel_rfl) Try.ntmps61 (by decide) (by decide) mixed tabOK cok_spec_someKey (by kernel_rfl) ?_
  intro vs kk _ hF
  exact i_spec_someKey (motive := fun vs => Goes (ev TT cs_spec_someKey 12 an_spec_someKey (Try.f61.body.getD .skip) (st0 con_spec_someKey vs) (fin TT con_spec_someKey Try.f61.results.toList [.c .sc] vs kk))) hF (fun r0b r0p hF => goes_of (e_spec_someKey r0b r0p kk) (F_spec_someKey_S hF))
def con_spec_DrawUseGate : Con := ⟨[.rd], true, [.c (.sl .u8)], fun vs k => match vs with
    | [.c (.ro .u8 code0)] => F_spec_DrawUseGate code0 (fun r0 r1 r2 r3 r4 r5 r6 => k (.tup [.agg [.v (.int .i64 r0), .v (.int .i64 r1), .ro .int r2, .ro .int r3, .ro .int r4, .v (.int .i64 r5)], .c (.v (.int .i64 r6))]) [])
    | _ => False, false⟩
def cl_spec_DrawUseGate : List (FuncId × Con) := [(59, con_spec_newReader), (60, con_spec_someGate), (61, con_spec_someKey)]
def an_spec_DrawUseGate : Ann := ⟨[(3, .take 0 (.take 1 (.alt 2 (.alt 3 (.take 4 (.done)) (.none)) (.none))), [80])], [], [], []⟩
def cs_spec_DrawUseGate : Cons := ⟨cl_spec_DrawUseGate, [], 0, [], [], []⟩
def fin_spec_DrawUseGate (code0 : List Int) (kk : AV → List A1 → Prop) : Kt := fin TT con_spec_DrawUseGate Try.f21.results.toList [.agg [.sc, .sc, .sl .int, .sl .int, .sl .int, .sc], .c .sc] [.c (.ro .u8 code0)] kk
theorem g_spec_DrawUseGate (code0 : List Int) (kk : AV → List A1 → Prop) :
    ev TT cs_spec_DrawUseGate 13 an_spec_DrawUseGate (Try.f21.body.getD .skip) (st0 con_spec_DrawUseGate [.c (.ro .u8 code0)]) (fin TT con_spec_DrawUseGate Try.f21.results.toList [.agg [.sc, .sc, .sl .int, .sl .int, .sl .int, .sc], .c .sc] [.c (.ro .u8 code0)] kk) = G_spec_DrawUseGate code0 (fun r0 r1 r2 r3 r4 r5 r6 => kk (.tup [.agg [.v (.int .i64 r0), .v (.int .i64 r1), .ro .int r2, .ro .int r3, .ro .int r4, .v (.int .i64 r5)], .c (.v (.int .i64 r6))]) []) := by kernel_rfl
theorem e_spec_DrawUseGate (code0 : List Int) (kk : AV → List A1 → Prop) :
    ev TT cs_spec_DrawUseGate 13 an_spec_DrawUseGate (Try.f21.body.getD .skip) (st0 con_spec_DrawUseGate [.c (.ro .u8 code0)]) (fin TT con_spec_DrawUseGate Try.f21.results.toList [.agg [.sc, .sc, .sl .int, .sl .int, .sl .int, .sc], .c .sc] [.c (.ro .u8 code0)] kk) = S_spec_DrawUseGate code0 (fun r0 r1 r2 r3 r4 r5 r6 => kk (.tup [.agg [.v (.int .i64 r0), .v (.int .i64 r1), .ro .int r2, .ro .int r3, .ro .int r4, .v (.int .i64 r5)], .c (.v (.int .i64 r6))]) []) := by
  rw [g_spec_DrawUseGate]
  rw [G_spec_DrawUseGate_eq]
  rfl
theorem clok_spec_DrawUseGate : ConOK Try.prog cl_spec_DrawUseGate := consCons h_spec_newReader ⟨Try.f59, Try.func59, by kernel_rfl, ne_of_beq (by kernel_rfl)⟩ (consCons h_spec_someGate ⟨Try.f60, Try.func60, by kernel_rfl, ne_of_beq (by kernel_rfl)⟩ (consCons h_spec_someKey ⟨Try.f61, Try.func61, by kernel_rfl, ne_of_beq (by kernel_rfl)⟩ (consNil)))
theorem cok_spec_DrawUseGate : ConsOK Try.prog 13 cs_spec_DrawUseGate := ⟨clok_spec_DrawUseGate, inlNil, ovNil⟩
theorem i_spec_DrawUseGate {vs : List A1} {kk : AV → List A1 → Prop} {motive : List A1 → Prop} (h : con_spec_DrawUseGate.F vs kk) (H : ∀ (code0 : List Int), F_spec_DrawUseGate code0 (fun r0 r1 r2 r3 r4 r5 r6 => kk (.tup [.agg [.v (.int .i64 r0), .v (.int .i64 r1), .ro .int r2, .ro .int r3, .ro .int r4, .v (.int .i64 r5)], .c (.v (.int .i64 r6))]) []) → motive [.c (.ro .u8 code0)]) : motive vs := by
  unfold con_spec_DrawUseGate at h
  dsimp only at h
  split at h
  · exact H _ h
  · exact h.elim
theorem h_spec_DrawUseGate : Holds Try.prog 21 con_spec_DrawUseGate := by
  refine holds_of_ev (rt := [.agg [.sc, .sc, .sl .int, .sl .int, .sl .int, .sc], .c .sc]) (T := TT) (Γ := cs_spec_DrawUseGate) (an := an_spec_DrawUseGate) (N := 13) (c := Try.f21.body.getD .skip) Try.func21 (by kernel_rfl) Try.ntmps21 (by decide) (by decide) mixed tabOK cok_spec_DrawUseGate (by kernel_rfl) ?_
  intro vs kk _ hF
  exact i_spec_DrawUseGate (motive := fun vs => Goes (ev TT cs_spec_DrawUseGate 13 an_spec_DrawUseGate (Try.f21.body.getD .skip) (st0 con_spec_DrawUseGate vs) (fin TT con_spec_DrawUseGate Try.f21.results.toList [.agg [.sc, .sc, .sl .int, .sl .int, .sl .int, .sc], .c .sc] vs kk))) hF (fun code0 hF => goes_of (e_spec_DrawUseGate code0 kk) (F_spec_DrawUseGate_S hF))
def con_impl_validRoom : Con := ⟨[.rd], true, [.c (.sc)], fun vs k => match vs with
    | [.c (.v (.int .i64 room0))] => F_impl_validRoom room0 (fun r0 => k (.one (.c (.v (.bool r0)))) [])
    | _ => False, false⟩
def cl_impl_validRoom : List (FuncId × Con) := []
def an_impl_validRoom : Ann := ⟨[], [], [], []⟩
def cs_impl_validRoom : Cons := ⟨cl_impl_validRoom, [], 0, [], [], []⟩
def fin_impl_validRoom (room0 : Int) (kk : AV → List A1 → Prop) : Kt := fin TT con_impl_validRoom Try.f42.results.toList [.c .sc] [.c (.v (.int .i64 room0))] kk
theorem g_impl_validRoom (room0 : Int) (kk : AV → List A1 → Prop) :
    ev TT cs_impl_validRoom 9 an_impl_validRoom (Try.f42.body.getD .skip) (st0 con_impl_validRoom [.c (.v (.int .i64 room0))]) (fin TT con_impl_validRoom Try.f42.results.toList [.c .sc] [.c (.v (.int .i64 room0))] kk) = G_impl_validRoom room0 (fun r0 => kk (.one (.c (.v (.bool r0)))) []) := by kernel_rfl
theorem e_impl_validRoom (room0 : Int) (kk : AV → List A1 → Prop) :
    ev TT cs_impl_validRoom 9 an_impl_validRoom (Try.f42.body.getD .skip) (st0 con_impl_validRoom [.c (.v (.int .i64 room0))]) (fin TT con_impl_validRoom Try.f42.results.toList [.c .sc] [.c (.v (.int .i64 room0))] kk) = S_impl_validRoom room0 (fun r0 => kk (.one (.c (.v (.bool r0)))) []) := by
  rw [g_impl_validRoom]
  rfl
theorem clok_impl_validRoom : ConOK Try.prog cl_impl_validRoom := consNil
theorem cok_impl_validRoom : ConsOK Try.prog 9 cs_impl_validRoom := ⟨clok_impl_validRoom, inlNil, ovNil⟩
theorem i_impl_validRoom {vs : List A1} {kk : AV → List A1 → Prop} {motive : List A1 → Prop} (h : con_impl_validRoom.F vs kk) (H : ∀ (room0 : Int), F_impl_validRoom room0 (fun r0 => kk (.one (.c (.v (.bool r0)))) []) → motive [.c (.v (.int .i64 room0))]) : motive vs := by
  unfold con_impl_validRoom at h
  dsimp only at h
  split at h
  · exact H _ h
  · exact h.elim
theorem h_impl_validRoom : Holds Try.prog 42 con_impl_validRoom := by
  refine holds_of_ev (rt := [.c .sc]) (T := TT) (Γ := cs_impl_validRoom) (an := an_impl_validRoom) (N := 9) (c := Try.f42.body.getD .skip) Try.func42 (by kernel_rfl) Try.ntmps42 (by decide) (by decide) mixed tabOK cok_impl_validRoom (by kernel_rfl) ?_
  intro vs kk _ hF
  exact i_impl_validRoom (motive := fun vs => Goes (ev TT cs_impl_validRoom 9 an_impl_validRoom (Try.f42.body.getD .skip) (st0 con_impl_validRoom vs) (fin TT con_impl_validRoom Try.f42.results.toList [.c .sc] vs kk))) hF (fun room0 hF => goes_of (e_impl_validRoom room0 kk) (F_impl_validRoom_S hF))
def con_impl_validKey : Con := ⟨[.rd], true, [.c (.sc)], fun vs k => match vs with
    | [.c (.v (.int .i64 key0))] => F_impl_validKey key0 (fun r0 => k (.one (.c (.v (.bool r0)))) [])
    | _ => False, false⟩
def cl_impl_validKey : List (FuncId × Con) := []
def an_impl_validKey : Ann := ⟨[], [], [], []⟩
def cs_impl_validKey : Cons := ⟨cl_impl_validKey, [], 0, [], [], []⟩
def fin_impl_validKey (key0 : Int) (kk : AV → List A1 → Prop) : Kt := fin TT con_impl_validKey Try.f62.results.toList [.c .sc] [.c (.v (.int .i64 key0))] kk
theorem g_impl_validKey (key0 : Int) (kk : AV → List A1 → Prop) :
    ev TT cs_impl_validKey 9 an_impl_validKey (Try.f62.body.getD .skip) (st0 con_impl_validKey [.c (.v (.int .i64 key0))]) (fin TT con_impl_validKey Try.f62.results.toList [.c .sc] [.c (.v (.int .i64 key0))] kk) = G_impl_validKey key0 (fun r0 => kk (.one (.c (.v (.bool r0)))) []) := by kernel_rfl
theorem e_impl_validKey (key0 : Int) (kk : AV → List A1 → Prop) :
    ev TT cs_impl_validKey 9 an_impl_validKey (Try.f62.body.getD .skip) (st0 con_impl_validKey [.c (.v (.int .i64 key0))]) (fin TT con_impl_validKey Try.f62.results.toList [.c .sc] [.c (.v (.int .i64 key0))] kk) = S_impl_validKey key0 (fun r0 => kk (.one (.c (.v (.bool r0)))) []) := by
  rw [g_impl_validKey]
  rfl
theorem clok_impl_validKey : ConOK Try.prog cl_impl_validKey := consNil
theorem cok_impl_validKey : ConsOK Try.prog 9 cs_impl_validKey := ⟨clok_impl_validKey, inlNil, ovNil⟩
theorem i_impl_validKey {vs : List A1} {kk : AV → List A1 → Prop} {motive : List A1 → Prop} (h : con_impl_validKey.F vs kk) (H : ∀ (key0 : Int), F_impl_validKey key0 (fun r0 => kk (.one (.c (.v (.bool r0)))) []) → motive [.c (.v (.int .i64 key0))]) : motive vs := by
  unfold con_impl_validKey at h
  dsimp only at h
  split at h
  · exact H _ h
  · exact h.elim
theorem h_impl_validKey : Holds Try.prog 62 con_impl_validKey := by
  refine holds_of_ev (rt := [.c .sc]) (T := TT) (Γ := cs_impl_validKey) (an := an_impl_validKey) (N := 9) (c := Try.f62.body.getD .skip) Try.func62 (by kernel_rfl) Try.ntmps62 (by decide) (by decide) mixed tabOK cok_impl_validKey (by kernel_rfl) ?_
  intro vs kk _ hF
  exact i_impl_validKey (motive := fun vs => Goes (ev TT cs_impl_validKey 9 an_impl_validKey (Try.f62.body.getD .skip) (st0 con_impl_validKey vs) (fin TT con_impl_validKey Try.f62.results.toList [.c .sc] vs kk))) hF (fun key0 hF => goes_of (e_impl_validKey key0 kk) (F_impl_validKey_S hF))
def con_slices_Index_sint_int : Con := ⟨[.rd, .rd], true, [.c (.sl .int), .c (.sc)], fun vs k => match vs with
    | [.c (.ro .int s0), .c (.v (.int .i64 v1))] => F_slices_Index_sint_int s0 v1 (fun r0 => k (.one (.c (.v (.int .i64 r0)))) [])
    | _ => False, false⟩
def cl_slices_Index_sint_int : List (FuncId × Con) := []
def nm0_slices_Index_sint_int : List NStep := [.keep [0, 1, 7, 8] []]
def an_slices_Index_sint_int : Ann := ⟨[], [(2, nm0_slices_Index_sint_int)], [], []⟩
def cs_slices_Index_sint_int : Cons := ⟨cl_slices_Index_sint_int, [], 0, [], [], []⟩
def can0_slices_Index_sint_int (s0 : List Int) (v1 : Int) (xt7 : Int) (xt8 : Int) : St := ⟨[(0, .one (.c (.ro .int s0))), (1, .one (.c (.v (.int .i64 v1)))), (7, .one (.c (.v (.int .i64 xt7)))), (8, .one (.c (.v (.int .i64 xt8))))], []⟩
def fin_slices_Index_sint_int (s0 : List Int) (v1 : Int) (kk : AV → List A1 → Prop) : Kt := fin TT con_slices_Index_sint_int Try.f87.results.toList [.c .sc] [.c (.ro .int s0), .c (.v (.int .i64 v1))] kk
def kt0_slices_Index_sint_int (kf : Kt) : Kt := blockK 0 (seqK (evF TT cs_slices_Index_sint_int 19 an_slices_Index_sint_int Try.f87 [1, 1]) (kf))
theorem r0_slices_Index_sint_int (s0 : List Int) (v1 : Int) (xt7 : Int) (kk : AV → List A1 → Prop) (n : Nat) (xt8 : Int) :
    iter (evF TT cs_slices_Index_sint_int 19 an_slices_Index_sint_int Try.f87 [1, 0, 1, 0, 0]) nm0_slices_Index_sint_int (kt0_slices_Index_sint_int (fin_slices_Index_sint_int s0 v1 kk)) (n + 1) (can0_slices_Index_sint_int s0 v1 xt7 xt8) = T0_slices_Index_sint_int s0 v1 xt7 xt8 (fun r0 => kk (.one (.c (.v (.int .i64 r0)))) []) (fun xt8 => iter (evF TT cs_slices_Index_sint_int 19 an_slices_Index_sint_int Try.f87 [1, 0, 1, 0, 0]) nm0_slices_Index_sint_int (kt0_slices_Index_sint_int (fin_slices_Index_sint_int s0 v1 kk)) n (can0_slices_Index_sint_int s0 v1 xt7 xt8)) := by kernel_rfl
theorem l0_slices_Index_sint_int (s0 : List Int) (v1 : Int) (xt7 : Int) (kk : AV → List A1 → Prop) : ∀ (n : Nat) (xt8 : Int), iter (evF TT cs_slices_Index_sint_int 19 an_slices_Index_sint_int Try.f87 [1, 0, 1, 0, 0]) nm0_slices_Index_sint_int (kt0_slices_Index_sint_int (fin_slices_Index_sint_int s0 v1 kk)) n (can0_slices_Index_sint_int s0 v1 xt7 xt8) = L0_slices_Index_sint_int s0 v1 xt7 (fun r0 => kk (.one (.c (.v (.int .i64 r0)))) []) n xt8 := by
  intro n
  induction n with
  | zero => intros; rfl
  | succ n ih =>
    intro xt8
    rw [r0_slices_Index_sint_int s0 v1 xt7 kk n xt8]
    have hb : (fun xt8 => iter (evF TT cs_slices_Index_sint_int 19 an_slices_Index_sint_int Try.f87 [1, 0, 1, 0, 0]) nm0_slices_Index_sint_int (kt0_slices_Index_sint_int (fin_slices_Index_sint_int s0 v1 kk)) n (can0_slices_Index_sint_int s0 v1 xt7 xt8)) = L0_slices_Index_sint_int s0 v1 xt7 (fun r0 => kk (.one (.c (.v (.int .i64 r0)))) []) n := by
      funext xt8; exact ih xt8
    rw [hb]
    rfl
theorem g_slices_Index_sint_int (s0 : List Int) (v1 : Int) (kk : AV → List A1 → Prop) :
    ev TT cs_slices_Index_sint_int 19 an_slices_Index_sint_int (Try.f87.body.getD .skip) (st0 con_slices_Index_sint_int [.c (.ro .int s0), .c (.v (.int .i64 v1))]) (fin TT con_slices_Index_sint_int Try.f87.results.toList [.c .sc] [.c (.ro .int s0), .c (.v (.int .i64 v1))] kk) = G_slices_Index_sint_int s0 v1 (fun s0 v1 xt7 xt8 => ∃ j, iter (evF TT cs_slices_Index_sint_int 19 an_slices_Index_sint_int Try.f87 [1, 0, 1, 0, 0]) nm0_slices_Index_sint_int (kt0_slices_Index_sint_int (fin_slices_Index_sint_int s0 v1 kk)) j (can0_slices_Index_sint_int s0 v1 xt7 xt8)) := by kernel_rfl
theorem e_slices_Index_sint_int (s0 : List Int) (v1 : Int) (kk : AV → List A1 → Prop) :
    ev TT cs_slices_Index_sint_int 19 an_slices_Index_sint_int (Try.f87.body.getD .skip) (st0 con_slices_Index_sint_int [.c (.ro .int s0), .c (.v (.int .i64 v1))]) (fin TT con_slices_Index_sint_int Try.f87.results.toList [.c .sc] [.c (.ro .int s0), .c (.v (.int .i64 v1))] kk) = S_slices_Index_sint_int s0 v1 (fun r0 => kk (.one (.c (.v (.int .i64 r0)))) []) := by
  rw [g_slices_Index_sint_int]
  have hi0 : (fun s0 v1 xt7 xt8 => ∃ j, iter (evF TT cs_slices_Index_sint_int 19 an_slices_Index_sint_int Try.f87 [1, 0, 1, 0, 0]) nm0_slices_Index_sint_int (kt0_slices_Index_sint_int (fin_slices_Index_sint_int s0 v1 kk)) j (can0_slices_Index_sint_int s0 v1 xt7 xt8)) = (fun s0 v1 xt7 xt8 => ∃ j, L0_slices_Index_sint_int s0 v1 xt7 (fun r0 => kk (.one (.c (.v (.int .i64 r0)))) []) j xt8) := by
    funext s0 v1 xt7 xt8
    refine congrArg Exists (funext fun j => ?_)
    rw [l0_slices_Index_sint_int s0 v1 xt7 kk j xt8]
  rw [hi0]
  rfl
theorem clok_slices_Index_sint_int : ConOK Try.prog cl_slices_Index_sint_int := consNil
theorem cok_slices_Index_sint_int : ConsOK Try.prog 19 cs_slices_Index_sint_int := ⟨clok_slices_Index_sint_int, inlNil, ovNil⟩
theorem i_slices_Index_sint_int {vs : List A1} {kk : AV → List A1 → Prop} {motive : List A1 → Prop} (h : con_slices_Index_sint_int.F vs kk) (H : ∀ (s0 : List Int) (v1 : Int), F_slices_Index_sint_int s0 v1 (fun r0 => kk (.one (.c (.v (.int .i64 r0)))) []) → motive [.c (.ro .int s0), .c (.v (.int .i64 v1))]) : motive vs := by
  unfold con_slices_Index_sint_int at h
  dsimp only at h
  split at h
  · exact H _ _ h
  · exact h.elim
theorem h_slices_Index_sint_int : Holds Try.prog 87 con_slices_Index_sint_int := by
  refine holds_of_ev (rt := [.c .sc]) (T := TT) (Γ := cs_slices_Index_sint_int) (an := an_slices_Index_sint_int) (N := 19) (c := Try.f87.body.getD .skip) Try.func87 (by kernel_rfl) Try.ntmps87 (by decide) (by decide) mixed tabOK cok_slices_Index_sint_int (by kernel_rfl) ?_
  intro vs kk _ hF
  exact i_slices_Index_sint_int (motive := fun vs => Goes (ev TT cs_slices_Index_sint_int 19 an_slices_Index_sint_int (Try.f87.body.getD .skip) (st0 con_slices_Index_sint_int vs) (fin TT con_slices_Index_sint_int Try.f87.results.toList [.c .sc] vs kk))) hF (fun s0 v1 hF => goes_of (e_slices_Index_sint_int s0 v1 kk) (F_slices_Index_sint_int_S hF))
def con_slices_Contains_sint_int : Con := ⟨[.rd, .rd], true, [.c (.sl .int), .c (.sc)], fun vs k => match vs with
    | [.c (.ro .int s0), .c (.v (.int .i64 v1))] => F_slices_Contains_sint_int s0 v1 (fun r0 => k (.one (.c (.v (.bool r0)))) [])
    | _ => False, false⟩
def cl_slices_Contains_sint_int : List (FuncId × Con) := [(87, con_slices_Index_sint_int)]
def an_slices_Contains_sint_int : Ann := ⟨[], [], [], []⟩
def cs_slices_Contains_sint_int : Cons := ⟨cl_slices_Contains_sint_int, [], 0, [], [], []⟩
def fin_slices_Contains_sint_int (s0 : List Int) (v1 : Int) (kk : AV → List A1 → Prop) : Kt := fin TT con_slices_Contains_sint_int Try.f43.results.toList [.c .sc] [.c (.ro .int s0), .c (.v (.int .i64 v1))] kk
theorem g_slices_Contains_sint_int (s0 : List Int) (v1 : Int) (kk : AV → List A1 → Prop) :
    ev TT cs_slices_Contains_sint_int 9 an_slices_Contains_sint_int (Try.f43.body.getD .skip) (st0 con_slices_Contains_sint_int [.c (.ro .int s0), .c (.v (.int .i64 v1))]) (fin TT con_slices_Contains_sint_int Try.f43.results.toList [.c .sc] [.c (.ro .int s0), .c (.v (.int .i64 v1))] kk) = G_slices_Contains_sint_int s0 v1 (fun r0 => kk (.one (.c (.v (.bool r0)))) []) := by kernel_rfl
theorem e_slices_Contains_sint_int (s0 : List Int) (v1 : Int) (kk : AV → List A1 → Prop) :
    ev TT cs_slices_Contains_sint_int 9 an_slices_Contains_sint_int (Try.f43.body.getD .skip) (st0 con_slices_Contains_sint_int [.c (.ro .int s0), .c (.v (.int .i64 v1))]) (fin TT con_slices_Contains_sint_int Try.f43.results.toList [.c .sc] [.c (.ro .int s0), .c (.v (.int .i64 v1))] kk) = S_slices_Contains_sint_int s0 v1 (fun r0 => kk (.one (.c (.v (.bool r0)))) []) := by
  rw [g_slices_Contains_sint_int]
  rfl
theorem clok_slices_Contains_sint_int : ConOK Try.prog cl_slices_Contains_sint_int := consCons h_slices_Index_sint_int ⟨Try.f87, Try.func87, by kernel_rfl, ne_of_beq (by kernel_rfl)⟩ (consNil)
theorem cok_slices_Contains_sint_int : ConsOK Try.prog 9 cs_slices_Contains_sint_int := ⟨clok_slices_Contains_sint_int, inlNil, ovNil⟩
theorem i_slices_Contains_sint_int {vs : List A1} {kk : AV → List A1 → Prop} {motive : List A1 → Prop} (h : con_slices_Contains_sint_int.F vs kk) (H : ∀ (s0 : List Int) (v1 : Int), F_slices_Contains_sint_int s0 v1 (fun r0 => kk (.one (.c (.v (.bool r0)))) []) → motive [.c (.ro .int s0), .c (.v (.int .i64 v1))]) : motive vs := by
  unfold con_slices_Contains_sint_int at h
  dsimp only at h
  split at h
  · exact H _ _ h
  · exact h.elim
theorem h_slices_Contains_sint_int : Holds Try.prog 43 con_slices_Contains_sint_int := by
  refine holds_of_ev (rt := [.c .sc]) (T := TT) (Γ := cs_slices_Contains_sint_int) (an := an_slices_Contains_sint_int) (N := 9) (c := Try.f43.body.getD .skip) Try.func43 (by kernel_rfl) Try.ntmps43 (by decide) (by decide) mixed tabOK cok_slices_Contains_sint_int (by kernel_rfl) ?_
  intro vs kk _ hF
  exact i_slices_Contains_sint_int (motive := fun vs => Goes (ev TT cs_slices_Contains_sint_int 9 an_slices_Contains_sint_int (Try.f43.body.getD .skip) (st0 con_slices_Contains_sint_int vs) (fin TT con_slices_Contains_sint_int Try.f43.results.toList [.c .sc] vs kk))) hF (fun s0 v1 hF => goes_of (e_slices_Contains_sint_int s0 v1 kk) (F_slices_Contains_sint_int_S hF))
def con_impl_differentKeys : Con := ⟨[.rd], true, [.c (.sl .int)], fun vs k => match vs with
    | [.c (.ro .int list0)] => F_impl_differentKeys list0 (fun r0 => k (.one (.c (.v (.bool r0)))) [])
    | _ => False, false⟩
def cl_impl_differentKeys : List (FuncId × Con) := [(43, con_slices_Contains_sint_int), (62, con_impl_validKey)]
def nm0_impl_differentKeys : List NStep := [.keep [0, 5, 6, 7] []]
def an_impl_differentKeys : Ann := ⟨[], [(2, nm0_impl_differentKeys)], [], []⟩
def cs_impl_differentKeys : Cons := ⟨cl_impl_differentKeys, [], 0, [], [], []⟩
def can0_impl_differentKeys (list0 : List Int) (xt6 : Int) (xt7 : Int) : St := ⟨[(0, .one (.c (.ro .int list0))), (5, .one (.c (.ro .int list0))), (6, .one (.c (.v (.int .i64 xt6)))), (7, .one (.c (.v (.int .i64 xt7))))], []⟩
def fin_impl_differentKeys (list0 : List Int) (kk : AV → List A1 → Prop) : Kt := fin TT con_impl_differentKeys Try.f71.results.toList [.c .sc] [.c (.ro .int list0)] kk
def kt0_impl_differentKeys (kf : Kt) : Kt := blockK 0 (seqK (evF TT cs_impl_differentKeys 23 an_impl_differentKeys Try.f71 [1, 1]) (kf))
theorem r0_impl_differentKeys (list0 : List Int) (xt6 : Int) (kk : AV → List A1 → Prop) (n : Nat) (xt7 : Int) :
    iter (evF TT cs_impl_differentKeys 23 an_impl_differentKeys Try.f71 [1, 0, 1, 0, 0]) nm0_impl_differentKeys (kt0_impl_differentKeys (fin_impl_differentKeys list0 kk)) (n + 1) (can0_impl_differentKeys list0 xt6 xt7) = T0_impl_differentKeys list0 xt6 xt7 (fun r0 => kk (.one (.c (.v (.bool r0)))) []) (fun xt7 => iter (evF TT cs_impl_differentKeys 23 an_impl_differentKeys Try.f71 [1, 0, 1, 0, 0]) nm0_impl_differentKeys (kt0_impl_differentKeys (fin_impl_differentKeys list0 kk)) n (can0_impl_differentKeys list0 xt6 xt7)) := by kernel_rfl
theorem l0_impl_differentKeys (list0 : List Int) (xt6 : Int) (kk : AV → List A1 → Prop) : ∀ (n : Nat) (xt7 : Int), iter (evF TT cs_impl_differentKeys 23 an_impl_differentKeys Try.f71 [1, 0, 1, 0, 0]) nm0_impl_differentKeys (kt0_impl_differentKeys (fin_impl_differentKeys list0 kk)) n (can0_impl_differentKeys list0 xt6 xt7) = L0_impl_differentKeys list0 xt6 (fun r0 => kk (.one (.c (.v (.bool r0)))) []) n xt7 := by
  intro n
  induction n with
  | zero => intros; rfl
  | succ n ih =>
    intro xt7
    rw [r0_impl_differentKeys list0 xt6 kk n xt7]
    have hb : (fun xt7 => iter (evF TT cs_impl_differentKeys 23 an_impl_differentKeys Try.f71 [1, 0, 1, 0, 0]) nm0_impl_differentKeys (kt0_impl_differentKeys (fin_impl_differentKeys list0 kk)) n (can0_impl_differentKeys list0 xt6 xt7)) = L0_impl_differentKeys list0 xt6 (fun r0 => kk (.one (.c (.v (.bool r0)))) []) n := by
      funext xt7; exact ih xt7
    rw [hb]
    rfl
theorem g_impl_differentKeys (list0 : List Int) (kk : AV → List A1 → Prop) :
    ev TT cs_impl_differentKeys 23 an_impl_differentKeys (Try.f71.body.getD .skip) (st0 con_impl_differentKeys [.c (.ro .int list0)]) (fin TT con_impl_differentKeys Try.f71.results.toList [.c .sc] [.c (.ro .int list0)] kk) = G_impl_differentKeys list0 (fun list0 xt6 xt7 => ∃ j, iter (evF TT cs_impl_differentKeys 23 an_impl_differentKeys Try.f71 [1, 0, 1, 0, 0]) nm0_impl_differentKeys (kt0_impl_differentKeys (fin_impl_differentKeys list0 kk)) j (can0_impl_differentKeys list0 xt6 xt7)) := by kernel_rfl
theorem e_impl_differentKeys (list0 : List Int) (kk : AV → List A1 → Prop) :
    ev TT cs_impl_differentKeys 23 an_impl_differentKeys (Try.f71.body.getD .skip) (st0 con_impl_differentKeys [.c (.ro .int list0)]) (fin TT con_impl_differentKeys Try.f71.results.toList [.c .sc] [.c (.ro .int list0)] kk) = S_impl_differentKeys list0 (fun r0 => kk (.one (.c (.v (.bool r0)))) []) := by
  rw [g_impl_differentKeys]
  have hi0 : (fun list0 xt6 xt7 => ∃ j, iter (evF TT cs_impl_differentKeys 23 an_impl_differentKeys Try.f71 [1, 0, 1, 0, 0]) nm0_impl_differentKeys (kt0_impl_differentKeys (fin_impl_differentKeys list0 kk)) j (can0_impl_differentKeys list0 xt6 xt7)) = (fun list0 xt6 xt7 => ∃ j, L0_impl_differentKeys list0 xt6 (fun r0 => kk (.one (.c (.v (.bool r0)))) []) j xt7) := by
    funext list0 xt6 xt7
    refine congrArg Exists (funext fun j => ?_)
    rw [l0_impl_differentKeys list0 xt6 kk j xt7]
  rw [hi0]
  rfl
theorem clok_impl_differentKeys : ConOK Try.prog cl_impl_differentKeys := consCons h_slices_Contains_sint_int ⟨Try.f43, Try.func43, by kernel_rfl, ne_of_beq (by kernel_rfl)⟩ (consCons h_impl_validKey ⟨Try.f62, Try.func62, by kernel_rfl, ne_of_beq (by kernel_rfl)⟩ (consNil))
theorem cok_impl_differentKeys : ConsOK Try.prog 23 cs_impl_differentKeys := ⟨clok_impl_differentKeys, inlNil, ovNil⟩
theorem i_impl_differentKeys {vs : List A1} {kk : AV → List A1 → Prop} {motive : List A1 → Prop} (h : con_impl_differentKeys.F vs kk) (H : ∀ (list0 : List Int), F_impl_differentKeys list0 (fun r0 => kk (.one (.c (.v (.bool r0)))) []) → motive [.c (.ro .int list0)]) : motive vs := by
  unfold con_impl_differentKeys at h
  dsimp only at h
  split at h
  · exact H _ h
  · exact h.elim
theorem h_impl_differentKeys : Holds Try.prog 71 con_impl_differentKeys := by
  refine holds_of_ev (rt := [.c .sc]) (T := TT) (Γ := cs_impl_differentKeys) (an := an_impl_differentKeys) (N := 23) (c := Try.f71.body.getD .skip) Try.func71 (by kernel_rfl) Try.ntmps71 (by decide) (by decide) mixed tabOK cok_impl_differentKeys (by kernel_rfl) ?_
  intro vs kk _ hF
  exact i_impl_differentKeys (motive := fun vs => Goes (ev TT cs_impl_differentKeys 23 an_impl_differentKeys (Try.f71.body.getD .skip) (st0 con_impl_differentKeys vs) (fin TT con_impl_differentKeys Try.f71.results.toList [.c .sc] vs kk))) hF (fun list0 hF => goes_of (e_impl_differentKeys list0 kk) (F_impl_differentKeys_S hF))
def con_impl_ValidKeys : Con := ⟨[.rd, .rd], true, [.c (.sl .int), .c (.sc)], fun vs k => match vs with
    | [.c (.ro .int list0), .c (.v (.int .i64 room1))] => F_impl_ValidKeys list0 room1 (fun r0 => k (.one (.c (.v (.bool r0)))) [])
    | _ => False, false⟩
def cl_impl_ValidKeys : List (FuncId × Con) := [(42, con_impl_validRoom), (71, con_impl_differentKeys)]
def an_impl_ValidKeys : Ann := ⟨[], [], [], []⟩
def cs_impl_ValidKeys : Cons := ⟨cl_impl_ValidKeys, [], 0, [], [], []⟩
def fin_impl_ValidKeys (list0 : List Int) (room1 : Int) (kk : AV → List A1 → Prop) : Kt := fin TT con_impl_ValidKeys Try.f69.results.toList [.c .sc] [.c (.ro .int list0), .c (.v (.int .i64 room1))] kk
theorem g_impl_ValidKeys (list0 : List Int) (room1 : Int) (kk : AV → List A1 → Prop) :
    ev TT cs_impl_ValidKeys 17 an_impl_ValidKeys (Try.f69.body.getD .skip) (st0 con_impl_ValidKeys [.c (.ro .int list0), .c (.v (.int .i64 room1))]) (fin TT con_impl_ValidKeys Try.f69.results.toList [.c .sc] [.c (.ro .int list0), .c (.v (.int .i64 room1))] kk) = G_impl_ValidKeys list0 room1 (fun r0 => kk (.one (.c (.v (.bool r0)))) []) := by kernel_rfl
theorem e_impl_ValidKeys (list0 : List Int) (room1 : Int) (kk : AV → List A1 → Prop) :
    ev TT cs_impl_ValidKeys 17 an_impl_ValidKeys (Try.f69.body.getD .skip) (st0 con_impl_ValidKeys [.c (.ro .int list0), .c (.v (.int .i64 room1))]) (fin TT con_impl_ValidKeys Try.f69.results.toList [.c .sc] [.c (.ro .int list0), .c (.v (.int .i64 room1))] kk) = S_impl_ValidKeys list0 room1 (fun r0 => kk (.one (.c (.v (.bool r0)))) []) := by
  rw [g_impl_ValidKeys]
  rfl
theorem clok_impl_ValidKeys : ConOK Try.prog cl_impl_ValidKeys := consCons h_impl_validRoom ⟨Try.f42, Try.func42, by kernel_rfl, ne_of_beq (by kernel_rfl)⟩ (consCons h_impl_differentKeys ⟨Try.f71, Try.func71, by kernel_rfl, ne_of_beq (by kernel_rfl)⟩ (consNil))
theorem cok_impl_ValidKeys : ConsOK Try.prog 17 cs_impl_ValidKeys := ⟨clok_impl_ValidKeys, inlNil, ovNil⟩
theorem i_impl_ValidKeys {vs : List A1} {kk : AV → List A1 → Prop} {motive : List A1 → Prop} (h : con_impl_ValidKeys.F vs kk) (H : ∀ (list0 : List Int) (room1 : Int), F_impl_ValidKeys list0 room1 (fun r0 => kk (.one (.c (.v (.bool r0)))) []) → motive [.c (.ro .int list0), .c (.v (.int .i64 room1))]) : motive vs := by
  unfold con_impl_ValidKeys at h
  dsimp only at h
  split at h
  · exact H _ _ h
  · exact h.elim
theorem h_impl_ValidKeys : Holds Try.prog 69 con_impl_ValidKeys := by
  refine holds_of_ev (rt := [.c .sc]) (T := TT) (Γ := cs_impl_ValidKeys) (an := an_impl_ValidKeys) (N := 17) (c := Try.f69.body.getD .skip) Try.func69 (by kernel_rfl) Try.ntmps69 (by decide) (by decide) mixed tabOK cok_impl_ValidKeys (by kernel_rfl) ?_
  intro vs kk _ hF
  exact i_impl_ValidKeys (motive := fun vs => Goes (ev TT cs_impl_ValidKeys 17 an_impl_ValidKeys (Try.f69.body.getD .skip) (st0 con_impl_ValidKeys vs) (fin TT con_impl_ValidKeys Try.f69.results.toList [.c .sc] vs kk))) hF (fun list0 room1 hF => goes_of (e_impl_ValidKeys list0 room1 kk) (F_impl_ValidKeys_S hF))
def con_impl_ValidSketch : Con := ⟨[.rd], true, [.c (.sl .int)], fun vs k => match vs with
    | [.c (.ro .int s0)] => F_impl_ValidSketch s0 (fun r0 => k (.one (.c (.v (.bool r0)))) [])
    | _ => False, false⟩
def cl_impl_ValidSketch : List (FuncId × Con) := []
def nm0_impl_ValidSketch : List NStep := [.keep [8, 9, 10] []]
def an_impl_ValidSketch : Ann := ⟨[], [(4, nm0_impl_ValidSketch)], [], []⟩
def cs_impl_ValidSketch : Cons := ⟨cl_impl_ValidSketch, [], 0, [], [], []⟩
def can0_impl_ValidSketch (s0 : List Int) (xt9 : Int) (xt10 : Int) : St := ⟨[(8, .one (.c (.ro .int s0))), (9, .one (.c (.v (.int .i64 xt9)))), (10, .one (.c (.v (.int .i64 xt10))))], []⟩
def fin_impl_ValidSketch (s0 : List Int) (kk : AV → List A1 → Prop) : Kt := fin TT con_impl_ValidSketch Try.f70.results.toList [.c .sc] [.c (.ro .int s0)] kk
def kt0_impl_ValidSketch (kf : Kt) : Kt := blockK 0 (seqK (evF TT cs_impl_ValidSketch 21 an_impl_ValidSketch Try.f70 [1, 1, 1]) (kf))
theorem r0_impl_ValidSketch (s0 : List Int) (xt9 : Int) (kk : AV → List A1 → Prop) (n : Nat) (xt10 : Int) :
    iter (evF TT cs_impl_ValidSketch 21 an_impl_ValidSketch Try.f70 [1, 1, 0, 1, 0, 0]) nm0_impl_ValidSketch (kt0_impl_ValidSketch (fin_impl_ValidSketch s0 kk)) (n + 1) (can0_impl_ValidSketch s0 xt9 xt10) = T0_impl_ValidSketch s0 xt9 xt10 (fun r0 => kk (.one (.c (.v (.bool r0)))) []) (fun xt10 => iter (evF TT cs_impl_ValidSketch 21 an_impl_ValidSketch Try.f70 [1, 1, 0, 1, 0, 0]) nm0_impl_ValidSketch (kt0_impl_ValidSketch (fin_impl_ValidSketch s0 kk)) n (can0_impl_ValidSketch s0 xt9 xt10)) := by kernel_rfl
theorem l0_impl_ValidSketch (s0 : List Int) (xt9 : Int) (kk : AV → List A1 → Prop) : ∀ (n : Nat) (xt10 : Int), iter (evF TT cs_impl_ValidSketch 21 an_impl_ValidSketch Try.f70 [1, 1, 0, 1, 0, 0]) nm0_impl_ValidSketch (kt0_impl_ValidSketch (fin_impl_ValidSketch s0 kk)) n (can0_impl_ValidSketch s0 xt9 xt10) = L0_impl_ValidSketch s0 xt9 (fun r0 => kk (.one (.c (.v (.bool r0)))) []) n xt10 := by
  intro n
  induction n with
  | zero => intros; rfl
  | succ n ih =>
    intro xt10
    rw [r0_impl_ValidSketch s0 xt9 kk n xt10]
    have hb : (fun xt10 => iter (evF TT cs_impl_ValidSketch 21 an_impl_ValidSketch Try.f70 [1, 1, 0, 1, 0, 0]) nm0_impl_ValidSketch (kt0_impl_ValidSketch (fin_impl_ValidSketch s0 kk)) n (can0_impl_ValidSketch s0 xt9 xt10)) = L0_impl_ValidSketch s0 xt9 (fun r0 => kk (.one (.c (.v (.bool r0)))) []) n := by
      funext xt10; exact ih xt10
    rw [hb]
    rfl
theorem g_impl_ValidSketch (s0 : List Int) (kk : AV → List A1 → Prop) :
    ev TT cs_impl_ValidSketch 21 an_impl_ValidSketch (Try.f70.body.getD .skip) (st0 con_impl_ValidSketch [.c (.ro .int s0)]) (fin TT con_impl_ValidSketch Try.f70.results.toList [.c .sc] [.c (.ro .int s0)] kk) = G_impl_ValidSketch s0 (fun r0 => kk (.one (.c (.v (.bool r0)))) []) (fun s0 xt9 xt10 => ∃ j, iter (evF TT cs_impl_ValidSketch 21 an_impl_ValidSketch Try.f70 [1, 1, 0, 1, 0, 0]) nm0_impl_ValidSketch (kt0_impl_ValidSketch (fin_impl_ValidSketch s0 kk)) j (can0_impl_ValidSketch s0 xt9 xt10)) := by kernel_rfl
theorem e_impl_ValidSketch (s0 : List Int) (kk : AV → List A1 → Prop) :
    ev TT cs_impl_ValidSketch 21 an_impl_ValidSketch (Try.f70.body.getD .skip) (st0 con_impl_ValidSketch [.c (.ro .int s0)]) (fin TT con_impl_ValidSketch Try.f70.results.toList [.c .sc] [.c (.ro .int s0)] kk) = S_impl_ValidSketch s0 (fun r0 => kk (.one (.c (.v (.bool r0)))) []) := by
  rw [g_impl_ValidSketch]
  have hi0 : (fun s0 xt9 xt10 => ∃ j, iter (evF TT cs_impl_ValidSketch 21 an_impl_ValidSketch Try.f70 [1, 1, 0, 1, 0, 0]) nm0_impl_ValidSketch (kt0_impl_ValidSketch (fin_impl_ValidSketch s0 kk)) j (can0_impl_ValidSketch s0 xt9 xt10)) = (fun s0 xt9 xt10 => ∃ j, L0_impl_ValidSketch s0 xt9 (fun r0 => kk (.one (.c (.v (.bool r0)))) []) j xt10) := by
    funext s0 xt9 xt10
    refine congrArg Exists (funext fun j => ?_)
    rw [l0_impl_ValidSketch s0 xt9 kk j xt10]
  rw [hi0]
  rfl
theorem clok_impl_ValidSketch : ConOK Try.prog cl_impl_ValidSketch := consNil
theorem cok_impl_ValidSketch : ConsOK Try.prog 21 cs_impl_ValidSketch := ⟨clok_impl_ValidSketch, inlNil, ovNil⟩
theorem i_impl_ValidSketch {vs : List A1} {kk : AV → List A1 → Prop} {motive : List A1 → Prop} (h : con_impl_ValidSketch.F vs kk) (H : ∀ (s0 : List Int), F_impl_ValidSketch s0 (fun r0 => kk (.one (.c (.v (.bool r0)))) []) → motive [.c (.ro .int s0)]) : motive vs := by
  unfold con_impl_ValidSketch at h
  dsimp only at h
  split at h
  · exact H _ h
  · exact h.elim
theorem h_impl_ValidSketch : Holds Try.prog 70 con_impl_ValidSketch := by
  refine holds_of_ev (rt := [.c .sc]) (T := TT) (Γ := cs_impl_ValidSketch) (an := an_impl_ValidSketch) (N := 21) (c := Try.f70.body.getD .skip) Try.func70 (by kernel_rfl) Try.ntmps70 (by decide) (by decide) mixed tabOK cok_impl_ValidSketch (by kernel_rfl) ?_
  intro vs kk _ hF
  exact i_impl_ValidSketch (motive := fun vs => Goes (ev TT cs_impl_ValidSketch 21 an_impl_ValidSketch (Try.f70.body.getD .skip) (st0 con_impl_ValidSketch vs) (fin TT con_impl_ValidSketch Try.f70.results.toList [.c .sc] vs kk))) hF (fun s0 hF => goes_of (e_impl_ValidSketch s0 kk) (F_impl_ValidSketch_S hF))
def con_slices_Concat_sint_int : Con := ⟨[.rd], true, [.c (.sll .int)], fun vs k => match vs with
    | [.c (.rol .int slices0)] => F_slices_Concat_sint_int slices0 (fun r0 => k (.one (.c (.ro .int r0))) [])
    | _ => False, false⟩
def cl_slices_Concat_sint_int : List (FuncId × Con) := []
def nm1_slices_Concat_sint_int : List NStep := [.own 6 .int 90100, .keep [6, 25, 26, 27] [90100]]
def nm0_slices_Concat_sint_int : List NStep := [.keep [0, 3, 9, 10, 11] []]
def an_slices_Concat_sint_int_i1 : Ann := ⟨[], [], [], []⟩
def cs_slices_Concat_sint_int_i1 : Cons := ⟨cl_slices_Concat_sint_int, [], 592, [], [], []⟩
def an_slices_Concat_sint_int : Ann := ⟨[], [(11, nm1_slices_Concat_sint_int), (3, nm0_slices_Concat_sint_int)], [], []⟩
def cs_slices_Concat_sint_int : Cons := ⟨cl_slices_Concat_sint_int, [(24, ⟨117, inlG TT cs_slices_Concat_sint_int_i1 36 27 an_slices_Concat_sint_int_i1 (Try.f117.body.getD .skip) Try.f117.results.toList⟩)], 0, [], [], []⟩
def can1_slices_Concat_sint_int (slices0 : List (List Int)) (xt26 : Int) (xt27 : Int) (xnewslice6 : List Int) : St := ⟨[(6, .one (.c (.ow 90100))), (25, .one (.c (.rol .int slices0))), (26, .one (.c (.v (.int .i64 xt26)))), (27, .one (.c (.v (.int .i64 xt27))))], [(90100, .row .int xnewslice6)]⟩
def can0_slices_Concat_sint_int (slices0 : List (List Int)) (xt10 : Int) (xsize3 : Int) (xt11 : Int) : St := ⟨[(0, .one (.c (.rol .int slices0))), (3, .one (.c (.v (.int .i64 xsize3)))), (9, .one (.c (.rol .int slices0))), (10, .one (.c (.v (.int .i64 xt10)))), (11, .one (.c (.v (.int .i64 xt11))))], []⟩
def fin_slices_Concat_sint_int (slices0 : List (List Int)) (kk : AV → List A1 → Prop) : Kt := fin TT con_slices_Concat_sint_int Try.f72.results.toList [.c (.sl .int)] [.c (.rol .int slices0)] kk
def kt1_slices_Concat_sint_int (kf : Kt) : Kt := blockK 2 (seqK (evF TT cs_slices_Concat_sint_int 36 an_slices_Concat_sint_int Try.f72 [1, 1, 1, 1, 1]) (kf))
def kt0_slices_Concat_sint_int (kf : Kt) : Kt := blockK 0 (seqK (evF TT cs_slices_Concat_sint_int 36 an_slices_Concat_sint_int Try.f72 [1, 1, 1]) (kf))
theorem r1_slices_Concat_sint_int (slices0 : List (List Int)) (kk : AV → List A1 → Prop) (n : Nat) (xt26 : Int) (xt27 : Int) (xnewslice6 : List Int) :
    iter (evF TT cs_slices_Concat_sint_int 36 an_slices_Concat_sint_int Try.f72 [1, 1, 1, 1, 0, 1, 0, 0]) nm1_slices_Concat_sint_int (kt1_slices_Concat_sint_int (fin_slices_Concat_sint_int slices0 kk)) (n + 1) (can1_slices_Concat_sint_int slices0 xt26 xt27 xnewslice6) = T1_slices_Concat_sint_int slices0 xt26 xt27 xnewslice6 (fun r0 => kk (.one (.c (.ro .int r0))) []) (fun xt26 xt27 xnewslice6 => iter (evF TT cs_slices_Concat_sint_int 36 an_slices_Concat_sint_int Try.f72 [1, 1, 1, 1, 0, 1, 0, 0]) nm1_slices_Concat_sint_int (kt1_slices_Concat_sint_int (fin_slices_Concat_sint_int slices0 kk)) n (can1_slices_Concat_sint_int slices0 xt26 xt27 xnewslice6)) := by kernel_rfl
theorem l1_slices_Concat_sint_int (slices0 : List (List Int)) (kk : AV → List A1 → Prop) : ∀ (n : Nat) (xt26 : Int) (xt27 : Int) (xnewslice6 : List Int), iter (evF TT cs_slices_Concat_sint_int 36 an_slices_Concat_sint_int Try.f72 [1, 1, 1, 1, 0, 1, 0, 0]) nm1_slices_Concat_sint_int (kt1_slices_Concat_sint_int (fin_slices_Concat_sint_int slices0 kk)) n (can1_slices_Concat_sint_int slices0 xt26 xt27 xnewslice6) = L1_slices_Concat_sint_int slices0 (fun r0 => kk (.one (.c (.ro .int r0))) []) n xt26 xt27 xnewslice6 := by
  intro n
  induction n with
  | zero => intros; rfl
  | succ n ih =>
    intro xt26 xt27 xnewslice6
    rw [r1_slices_Concat_sint_int slices0 kk n xt26 xt27 xnewslice6]
    have hb : (fun xt26 xt27 xnewslice6 => iter (evF TT cs_slices_Concat_sint_int 36 an_slices_Concat_sint_int Try.f72 [1, 1, 1, 1, 0, 1, 0, 0]) nm1_slices_Concat_sint_int (kt1_slices_Concat_sint_int (fin_slices_Concat_sint_int slices0 kk)) n (can1_slices_Concat_sint_int slices0 xt26 xt27 xnewslice6)) = L1_slices_Concat_sint_int slices0 (fun r0 => kk (.one (.c (.ro .int r0))) []) n := by
      funext xt26 xt27 xnewslice6; exact ih xt26 xt27 xnewslice6
    rw [hb]
    rfl
theorem r0_slices_Concat_sint_int (slices0 : List (List Int)) (xt10 : Int) (kk : AV → List A1 → Prop) (n : Nat) (xsize3 : Int) (xt11 : Int) :
    iter (evF TT cs_slices_Concat_sint_int 36 an_slices_Concat_sint_int Try.f72 [1, 1, 0, 1, 0, 0]) nm0_slices_Concat_sint_int (kt0_slices_Concat_sint_int (fin_slices_Concat_sint_int slices0 kk)) (n + 1) (can0_slices_Concat_sint_int slices0 xt10 xsize3 xt11) = T0_slices_Concat_sint_int slices0 xt10 xsize3 xt11 (fun xsize3 xt11 => iter (evF TT cs_slices_Concat_sint_int 36 an_slices_Concat_sint_int Try.f72 [1, 1, 0, 1, 0, 0]) nm0_slices_Concat_sint_int (kt0_slices_Concat_sint_int (fin_slices_Concat_sint_int slices0 kk)) n (can0_slices_Concat_sint_int slices0 xt10 xsize3 xt11)) (fun slices0 xt26 xt27 xnewslice6 => ∃ j, iter (evF TT cs_slices_Concat_sint_int 36 an_slices_Concat_sint_int Try.f72 [1, 1, 1, 1, 0, 1, 0, 0]) nm1_slices_Concat_sint_int (kt1_slices_Concat_sint_int (fin_slices_Concat_sint_int slices0 kk)) j (can1_slices_Concat_sint_int slices0 xt26 xt27 xnewslice6)) := by kernel_rfl
theorem l0_slices_Concat_sint_int (slices0 : List (List Int)) (xt10 : Int) (kk : AV → List A1 → Prop) : ∀ (n : Nat) (xsize3 : Int) (xt11 : Int), iter (evF TT cs_slices_Concat_sint_int 36 an_slices_Concat_sint_int Try.f72 [1, 1, 0, 1, 0, 0]) nm0_slices_Concat_sint_int (kt0_slices_Concat_sint_int (fin_slices_Concat_sint_int slices0 kk)) n (can0_slices_Concat_sint_int slices0 xt10 xsize3 xt11) = L0_slices_Concat_sint_int slices0 xt10 (fun r0 => kk (.one (.c (.ro .int r0))) []) n xsize3 xt11 := by
  intro n
  induction n generalizing slices0 xt10 with
  | zero => intros; rfl
  | succ n ih =>
    intro xsize3 xt11
    rw [r0_slices_Concat_sint_int slices0 xt10 kk n xsize3 xt11]
    have hb : ∀ (slices0 : List (List Int)) (xt10 : Int), (fun xsize3 xt11 => iter (evF TT cs_slices_Concat_sint_int 36 an_slices_Concat_sint_int Try.f72 [1, 1, 0, 1, 0, 0]) nm0_slices_Concat_sint_int (kt0_slices_Concat_sint_int (fin_slices_Concat_sint_int slices0 kk)) n (can0_slices_Concat_sint_int slices0 xt10 xsize3 xt11)) = L0_slices_Concat_sint_int slices0 xt10 (fun r0 => kk (.one (.c (.ro .int r0))) []) n := by
      intro slices0 xt10
      funext xsize3 xt11; exact ih slices0 xt10 xsize3 xt11
    have hi1 : (fun slices0 xt26 xt27 xnewslice6 => ∃ j, iter (evF TT cs_slices_Concat_sint_int 36 an_slices_Concat_sint_int Try.f72 [1, 1, 1, 1, 0, 1, 0, 0]) nm1_slices_Concat_sint_int (kt1_slices_Concat_sint_int (fin_slices_Concat_sint_int slices0 kk)) j (can1_slices_Concat_sint_int slices0 xt26 xt27 xnewslice6)) = (fun slices0 xt26 xt27 xnewslice6 => ∃ j, L1_slices_Concat_sint_int slices0 (fun r0 => kk (.one (.c (.ro .int r0))) []) j xt26 xt27 xnewslice6) := by
      funext slices0 xt26 xt27 xnewslice6
      refine congrArg Exists (funext fun j => ?_)
      rw [l1_slices_Concat_sint_int slices0 kk j xt26 xt27 xnewslice6]
    rw [hb, hi1]
    rfl
theorem g_slices_Concat_sint_int (slices0 : List (List Int)) (kk : AV → List A1 → Prop) :
    ev TT cs_slices_Concat_sint_int 36 an_slices_Concat_sint_int (Try.f72.body.getD .skip) (st0 con_slices_Concat_sint_int [.c (.rol .int slices0)]) (fin TT con_slices_Concat_sint_int Try.f72.results.toList [.c (.sl .int)] [.c (.rol .int slices0)] kk) = G_slices_Concat_sint_int slices0 (fun slices0 xt10 xsize3 xt11 => ∃ j, iter (evF TT cs_slices_Concat_sint_int 36 an_slices_Concat_sint_int Try.f72 [1, 1, 0, 1, 0, 0]) nm0_slices_Concat_sint_int (kt0_slices_Concat_sint_int (fin_slices_Concat_sint_int slices0 kk)) j (can0_slices_Concat_sint_int slices0 xt10 xsize3 xt11)) := by kernel_rfl
theorem e_slices_Concat_sint_int (slices0 : List (List Int)) (kk : AV → List A1 → Prop) :
    ev TT cs_slices_Concat_sint_int 36 an_slices_Concat_sint_int (Try.f72.body.getD .skip) (st0 con_slices_Concat_sint_int [.c (.rol .int slices0)]) (fin TT con_slices_Concat_sint_int Try.f72.results.toList [.c (.sl .int)] [.c (.rol .int slices0)] kk) = S_slices_Concat_sint_int slices0 (fun r0 => kk (.one (.c (.ro .int r0))) []) := by
  rw [g_slices_Concat_sint_int]
  have hi0 : (fun slices0 xt10 xsize3 xt11 => ∃ j, iter (evF TT cs_slices_Concat_sint_int 36 an_slices_Concat_sint_int Try.f72 [1, 1, 0, 1, 0, 0]) nm0_slices_Concat_sint_int (kt0_slices_Concat_sint_int (fin_slices_Concat_sint_int slices0 kk)) j (can0_slices_Concat_sint_int slices0 xt10 xsize3 xt11)) = (fun slices0 xt10 xsize3 xt11 => ∃ j, L0_slices_Concat_sint_int slices0 xt10 (fun r0 => kk (.one (.c (.ro .int r0))) []) j xsize3 xt11) := by
    funext slices0 xt10 xsize3 xt11
    refine congrArg Exists (funext fun j => ?_)
    rw [l0_slices_Concat_sint_int slices0 xt10 kk j xsize3 xt11]
  rw [hi0]
  rfl
theorem clok_slices_Concat_sint_int : ConOK Try.prog cl_slices_Concat_sint_int := consNil
theorem cok_slices_Concat_sint_int_i1 : ConsOK Try.prog 27 cs_slices_Concat_sint_int_i1 := ⟨clok_slices_Concat_sint_int, inlNil, ovNil⟩
theorem cok_slices_Concat_sint_int : ConsOK Try.prog 36 cs_slices_Concat_sint_int := ⟨clok_slices_Concat_sint_int, inlCons (inl_ok Try.func117 (by kernel_rfl) (ne_of_beq (by kernel_rfl)) Try.ntmps117 (by decide) mixed tabOK cok_slices_Concat_sint_int_i1 (by kernel_rfl)) (inlNil), ovNil⟩
theorem i_slices_Concat_sint_int {vs : List A1} {kk : AV → List A1 → Prop} {motive : List A1 → Prop} (h : con_slices_Concat_sint_int.F vs kk) (H : ∀ (slices0 : List (List Int)), F_slices_Concat_sint_int slices0 (fun r0 => kk (.one (.c (.ro .int r0))) []) → motive [.c (.rol .int slices0)]) : motive vs := by
  unfold con_slices_Concat_sint_int at h
  dsimp only at h
  split at h
  · exact H _ h
  · exact h.elim
theorem h_slices_Concat_sint_int : Holds Try.prog 72 con_slices_Concat_sint_int := by
  refine holds_of_ev (rt := [.c (.sl .int)]) (T := TT) (Γ := cs_slices_Concat_sint_int) (an := an_slices_Concat_sint_int) (N := 36) (c := Try.f72.body.getD .skip) Try.func72 (by kernel_rfl) Try.ntmps72 (by decide) (by decide) mixed tabOK cok_slices_Concat_sint_int (by kernel_rfl) ?_
  intro vs kk _ hF
  exact i_slices_Concat_sint_int (motive := fun vs => Goes (ev TT cs_slices_Concat_sint_int 36 an_slices_Concat_sint_int (Try.f72.body.getD .skip) (st0 con_slices_Concat_sint_int vs) (fin TT con_slices_Concat_sint_int Try.f72.results.toList [.c (.sl .int)] vs kk))) hF (fun slices0 hF => goes_of (e_slices_Concat_sint_int slices0 kk) (F_slices_Concat_sint_int_S hF))
def con_impl_ValidGate : Con := ⟨[.rd], true, [.agg [.sc, .sc, .sl .int, .sl .int, .sl .int, .sc]], fun vs k => match vs with
    | [.agg [.v (.int .i64 g0Window), .v (.int .i64 g0Room), .ro .int g0New, .ro .int g0Main, .ro .int g0Sketch, .v (.int .i64 g0Added)]] => F_impl_ValidGate g0Window g0Room g0New g0Main g0Sketch g0Added (fun r0 => k (.one (.c (.v (.bool r0)))) [])
    | _ => False, false⟩
def cl_impl_ValidGate : List (FuncId × Con) := [(69, con_impl_ValidKeys), (70, con_impl_ValidSketch), (71, con_impl_differentKeys), (72, con_slices_Concat_sint_int)]
def an_impl_ValidGate : Ann := ⟨[], [], [], []⟩
def cs_impl_ValidGate : Cons := ⟨cl_impl_ValidGate, [], 0, [], [], []⟩
def fin_impl_ValidGate (g0Window : Int) (g0Room : Int) (g0New : List Int) (g0Main : List Int) (g0Sketch : List Int) (g0Added : Int) (kk : AV → List A1 → Prop) : Kt := fin TT con_impl_ValidGate Try.f25.results.toList [.c .sc] [.agg [.v (.int .i64 g0Window), .v (.int .i64 g0Room), .ro .int g0New, .ro .int g0Main, .ro .int g0Sketch, .v (.int .i64 g0Added)]] kk
theorem g_impl_ValidGate (g0Window : Int) (g0Room : Int) (g0New : List Int) (g0Main : List Int) (g0Sketch : List Int) (g0Added : Int) (kk : AV → List A1 → Prop) :
    ev TT cs_impl_ValidGate 40 an_impl_ValidGate (Try.f25.body.getD .skip) (st0 con_impl_ValidGate [.agg [.v (.int .i64 g0Window), .v (.int .i64 g0Room), .ro .int g0New, .ro .int g0Main, .ro .int g0Sketch, .v (.int .i64 g0Added)]]) (fin TT con_impl_ValidGate Try.f25.results.toList [.c .sc] [.agg [.v (.int .i64 g0Window), .v (.int .i64 g0Room), .ro .int g0New, .ro .int g0Main, .ro .int g0Sketch, .v (.int .i64 g0Added)]] kk) = G_impl_ValidGate g0Window g0Room g0New g0Main g0Sketch g0Added (fun r0 => kk (.one (.c (.v (.bool r0)))) []) := by kernel_rfl
theorem e_impl_ValidGate (g0Window : Int) (g0Room : Int) (g0New : List Int) (g0Main : List Int) (g0Sketch : List Int) (g0Added : Int) (kk : AV → List A1 → Prop) :
    ev TT cs_impl_ValidGate 40 an_impl_ValidGate (Try.f25.body.getD .skip) (st0 con_impl_ValidGate [.agg [.v (.int .i64 g0Window), .v (.int .i64 g0Room), .ro .int g0New, .ro .int g0Main, .ro .int g0Sketch, .v (.int .i64 g0Added)]]) (fin TT con_impl_ValidGate Try.f25.results.toList [.c .sc] [.agg [.v (.int .i64 g0Window), .v (.int .i64 g0Room), .ro .int g0New, .ro .int g0Main, .ro .int g0Sketch, .v (.int .i64 g0Added)]] kk) = S_impl_ValidGate g0Window g0Room g0New g0Main g0Sketch g0Added (fun r0 => kk (.one (.c (.v (.bool r0)))) []) := by
  rw [g_impl_ValidGate]
  rfl
theorem clok_impl_ValidGate : ConOK Try.prog cl_impl_ValidGate := consCons h_impl_ValidKeys ⟨Try.f69, Try.func69, by kernel_rfl, ne_of_beq (by kernel_rfl)⟩ (consCons h_impl_ValidSketch ⟨Try.f70, Try.func70, by kernel_rfl, ne_of_beq (by kernel_rfl)⟩ (consCons h_impl_differentKeys ⟨Try.f71, Try.func71, by kernel_rfl, ne_of_beq (by kernel_rfl)⟩ (consCons h_slices_Concat_sint_int ⟨Try.f72, Try.func72, by kernel_rfl, ne_of_beq (by kernel_rfl)⟩ (consNil))))
theorem cok_impl_ValidGate : ConsOK Try.prog 40 cs_impl_ValidGate := ⟨clok_impl_ValidGate, inlNil, ovNil⟩
theorem i_impl_ValidGate {vs : List A1} {kk : AV → List A1 → Prop} {motive : List A1 → Prop} (h : con_impl_ValidGate.F vs kk) (H : ∀ (g0Window : Int) (g0Room : Int) (g0New : List Int) (g0Main : List Int) (g0Sketch : List Int) (g0Added : Int), F_impl_ValidGate g0Window g0Room g0New g0Main g0Sketch g0Added (fun r0 => kk (.one (.c (.v (.bool r0)))) []) → motive [.agg [.v (.int .i64 g0Window), .v (.int .i64 g0Room), .ro .int g0New, .ro .int g0Main, .ro .int g0Sketch, .v (.int .i64 g0Added)]]) : motive vs := by
  unfold con_impl_ValidGate at h
  dsimp only at h
  split at h
  · exact H _ _ _ _ _ _ h
  · exact h.elim
theorem h_impl_ValidGate : Holds Try.prog 25 con_impl_ValidGate := by
  refine holds_of_ev (rt := [.c .sc]) (T := TT) (Γ := cs_impl_ValidGate) (an := an_impl_ValidGate) (N := 40) (c := Try.f25.body.getD .skip) Try.func25 (by kernel_rfl) Try.ntmps25 (by decide) (by decide) mixed tabOK cok_impl_ValidGate (by kernel_rfl) ?_
  intro vs kk _ hF
  exact i_impl_ValidGate (motive := fun vs => Goes (ev TT cs_impl_ValidGate 40 an_impl_ValidGate (Try.f25.body.getD .skip) (st0 con_impl_ValidGate vs) (fin TT con_impl_ValidGate Try.f25.results.toList [.c .sc] vs kk))) hF (fun g0Window g0Room g0New g0Main g0Sketch g0Added hF => goes_of (e_impl_ValidGate g0Window g0Room g0New g0Main g0Sketch g0Added kk) (F_impl_ValidGate_S hF))
def con_impl_withoutKey : Con := ⟨[.rd, .rd], true, [.c (.sl .int), .c (.sc)], fun vs k => match vs with
    | [.c (.ro .int list0), .c (.v (.int .i64 key1))] => F_impl_withoutKey list0 key1 (fun r0 => k (.one (.c (.ro .int r0))) [])
    | _ => False, false⟩
def cl_impl_withoutKey : List (FuncId × Con) := []
def nm0_impl_withoutKey : List NStep := [.own 5 .int 90000, .keep [1, 5, 9, 10, 11] [90000]]
def an_impl_withoutKey : Ann := ⟨[], [(3, nm0_impl_withoutKey)], [], []⟩
def cs_impl_withoutKey : Cons := ⟨cl_impl_withoutKey, [], 0, [], [], []⟩
def can0_impl_withoutKey (key1 : Int) (list0 : List Int) (xt10 : Int) (xt11 : Int) (xout5 : List Int) : St := ⟨[(1, .one (.c (.v (.int .i64 key1)))), (5, .one (.c (.ow 90000))), (9, .one (.c (.ro .int list0))), (10, .one (.c (.v (.int .i64 xt10)))), (11, .one (.c (.v (.int .i64 xt11))))], [(90000, .row .int xout5)]⟩
def fin_impl_withoutKey (list0 : List Int) (key1 : Int) (kk : AV → List A1 → Prop) : Kt := fin TT con_impl_withoutKey Try.f44.results.toList [.c (.sl .int)] [.c (.ro .int list0), .c (.v (.int .i64 key1))] kk
def kt0_impl_withoutKey (kf : Kt) : Kt := blockK 0 (seqK (evF TT cs_impl_withoutKey 24 an_impl_withoutKey Try.f44 [1, 1, 1]) (kf))
theorem r0_impl_withoutKey (list0 : List Int) (key1 : Int) (xt10 : Int) (kk : AV → List A1 → Prop) (n : Nat) (xt11 : Int) (xout5 : List Int) :
    iter (evF TT cs_impl_withoutKey 24 an_impl_withoutKey Try.f44 [1, 1, 0, 1, 0, 0]) nm0_impl_withoutKey (kt0_impl_withoutKey (fin_impl_withoutKey list0 key1 kk)) (n + 1) (can0_impl_withoutKey key1 list0 xt10 xt11 xout5) = T0_impl_withoutKey key1 list0 xt10 xt11 xout5 (fun r0 => kk (.one (.c (.ro .int r0))) []) (fun xt11 xout5 => iter (evF TT cs_impl_withoutKey 24 an_impl_withoutKey Try.f44 [1, 1, 0, 1, 0, 0]) nm0_impl_withoutKey (kt0_impl_withoutKey (fin_impl_withoutKey list0 key1 kk)) n (can0_impl_withoutKey key1 list0 xt10 xt11 xout5)) := by kernel_rfl
theorem l0_impl_withoutKey (list0 : List Int) (key1 : Int) (xt10 : Int) (kk : AV → List A1 → Prop) : ∀ (n : Nat) (xt11 : Int) (xout5 : List Int), iter (evF TT cs_impl_withoutKey 24 an_impl_withoutKey Try.f44 [1, 1, 0, 1, 0, 0]) nm0_impl_withoutKey (kt0_impl_withoutKey (fin_impl_withoutKey list0 key1 kk)) n (can0_impl_withoutKey key1 list0 xt10 xt11 xout5) = L0_impl_withoutKey key1 list0 xt10 (fun r0 => kk (.one (.c (.ro .int r0))) []) n xt11 xout5 := by
  intro n
  induction n with
  | zero => intros; rfl
  | succ n ih =>
    intro xt11 xout5
    rw [r0_impl_withoutKey list0 key1 xt10 kk n xt11 xout5]
    have hb : (fun xt11 xout5 => iter (evF TT cs_impl_withoutKey 24 an_impl_withoutKey Try.f44 [1, 1, 0, 1, 0, 0]) nm0_impl_withoutKey (kt0_impl_withoutKey (fin_impl_withoutKey list0 key1 kk)) n (can0_impl_withoutKey key1 list0 xt10 xt11 xout5)) = L0_impl_withoutKey key1 list0 xt10 (fun r0 => kk (.one (.c (.ro .int r0))) []) n := by
      funext xt11 xout5; exact ih xt11 xout5
    rw [hb]
    rfl
theorem g_impl_withoutKey (list0 : List Int) (key1 : Int) (kk : AV → List A1 → Prop) :
    ev TT cs_impl_withoutKey 24 an_impl_withoutKey (Try.f44.body.getD .skip) (st0 con_impl_withoutKey [.c (.ro .int list0), .c (.v (.int .i64 key1))]) (fin TT con_impl_withoutKey Try.f44.results.toList [.c (.sl .int)] [.c (.ro .int list0), .c (.v (.int .i64 key1))] kk) = G_impl_withoutKey list0 key1 (fun key1 list0 xt10 xt11 xout5 => ∃ j, iter (evF TT cs_impl_withoutKey 24 an_impl_withoutKey Try.f44 [1, 1, 0, 1, 0, 0]) nm0_impl_withoutKey (kt0_impl_withoutKey (fin_impl_withoutKey list0 key1 kk)) j (can0_impl_withoutKey key1 list0 xt10 xt11 xout5)) := by kernel_rfl
theorem e_impl_withoutKey (list0 : List Int) (key1 : Int) (kk : AV → List A1 → Prop) :
    ev TT cs_impl_withoutKey 24 an_impl_withoutKey (Try.f44.body.getD .skip) (st0 con_impl_withoutKey [.c (.ro .int list0), .c (.v (.int .i64 key1))]) (fin TT con_impl_withoutKey Try.f44.results.toList [.c (.sl .int)] [.c (.ro .int list0), .c (.v (.int .i64 key1))] kk) = S_impl_withoutKey list0 key1 (fun r0 => kk (.one (.c (.ro .int r0))) []) := by
  rw [g_impl_withoutKey]
  have hi0 : (fun key1 list0 xt10 xt11 xout5 => ∃ j, iter (evF TT cs_impl_withoutKey 24 an_impl_withoutKey Try.f44 [1, 1, 0, 1, 0, 0]) nm0_impl_withoutKey (kt0_impl_withoutKey (fin_impl_withoutKey list0 key1 kk)) j (can0_impl_withoutKey key1 list0 xt10 xt11 xout5)) = (fun key1 list0 xt10 xt11 xout5 => ∃ j, L0_impl_withoutKey key1 list0 xt10 (fun r0 => kk (.one (.c (.ro .int r0))) []) j xt11 xout5) := by
    funext key1 list0 xt10 xt11 xout5
    refine congrArg Exists (funext fun j => ?_)
    rw [l0_impl_withoutKey list0 key1 xt10 kk j xt11 xout5]
  rw [hi0]
  rfl
theorem clok_impl_withoutKey : ConOK Try.prog cl_impl_withoutKey := consNil
theorem cok_impl_withoutKey : ConsOK Try.prog 24 cs_impl_withoutKey := ⟨clok_impl_withoutKey, inlNil, ovNil⟩
theorem i_impl_withoutKey {vs : List A1} {kk : AV → List A1 → Prop} {motive : List A1 → Prop} (h : con_impl_withoutKey.F vs kk) (H : ∀ (list0 : List Int) (key1 : Int), F_impl_withoutKey list0 key1 (fun r0 => kk (.one (.c (.ro .int r0))) []) → motive [.c (.ro .int list0), .c (.v (.int .i64 key1))]) : motive vs := by
  unfold con_impl_withoutKey at h
  dsimp only at h
  split at h
  · exact H _ _ h
  · exact h.elim
theorem h_impl_withoutKey : Holds Try.prog 44 con_impl_withoutKey := by
  refine holds_of_ev (rt := [.c (.sl .int)]) (T := TT) (Γ := cs_impl_withoutKey) (an := an_impl_withoutKey) (N := 24) (c := Try.f44.body.getD .skip) Try.func44 (by kernel_rfl) Try.ntmps44 (by decide) (by decide) mixed tabOK cok_impl_withoutKey (by kernel_rfl) ?_
  intro vs kk _ hF
  exact i_impl_withoutKey (motive := fun vs => Goes (ev TT cs_impl_withoutKey 24 an_impl_withoutKey (Try.f44.body.getD .skip) (st0 con_impl_withoutKey vs) (fin TT con_impl_withoutKey Try.f44.results.toList [.c (.sl .int)] vs kk))) hF (fun list0 key1 hF => goes_of (e_impl_withoutKey list0 key1 kk) (F_impl_withoutKey_S hF))
def con_impl_CellOf : Con := ⟨[.rd, .rd], true, [.c (.sc), .c (.sc)], fun vs k => match vs with
    | [.c (.v (.int .i64 row0)), .c (.v (.int .i64 key1))] => F_impl_CellOf row0 key1 (fun r0 => k (.one (.c (.v (.int .i64 r0)))) [])
    | _ => False, false⟩
def cl_impl_CellOf : List (FuncId × Con) := [(62, con_impl_validKey)]
def an_impl_CellOf : Ann := ⟨[], [], [], []⟩
def cs_impl_CellOf : Cons := ⟨cl_impl_CellOf, [], 0, [], [], []⟩
def fin_impl_CellOf (row0 : Int) (key1 : Int) (kk : AV → List A1 → Prop) : Kt := fin TT con_impl_CellOf Try.f73.results.toList [.c .sc] [.c (.v (.int .i64 row0)), .c (.v (.int .i64 key1))] kk
theorem g_impl_CellOf (row0 : Int) (key1 : Int) (kk : AV → List A1 → Prop) :
    ev TT cs_impl_CellOf 30 an_impl_CellOf (Try.f73.body.getD .skip) (st0 con_impl_CellOf [.c (.v (.int .i64 row0)), .c (.v (.int .i64 key1))]) (fin TT con_impl_CellOf Try.f73.results.toList [.c .sc] [.c (.v (.int .i64 row0)), .c (.v (.int .i64 key1))] kk) = G_impl_CellOf row0 key1 (fun r0 => kk (.one (.c (.v (.int .i64 r0)))) []) := by kernel_rfl
theorem e_impl_CellOf (row0 : Int) (key1 : Int) (kk : AV → List A1 → Prop) :
    ev TT cs_impl_CellOf 30 an_impl_CellOf (Try.f73.body.getD .skip) (st0 con_impl_CellOf [.c (.v (.int .i64 row0)), .c (.v (.int .i64 key1))]) (fin TT con_impl_CellOf Try.f73.results.toList [.c .sc] [.c (.v (.int .i64 row0)), .c (.v (.int .i64 key1))] kk) = S_impl_CellOf row0 key1 (fun r0 => kk (.one (.c (.v (.int .i64 r0)))) []) := by
  rw [g_impl_CellOf]
  rfl
theorem clok_impl_CellOf : ConOK Try.prog cl_impl_CellOf := consCons h_impl_validKey ⟨Try.f62, Try.func62, by kernel_rfl, ne_of_beq (by kernel_rfl)⟩ (consNil)
theorem cok_impl_CellOf : ConsOK Try.prog 30 cs_impl_CellOf := ⟨clok_impl_CellOf, inlNil, ovNil⟩
theorem i_impl_CellOf {vs : List A1} {kk : AV → List A1 → Prop} {motive : List A1 → Prop} (h : con_impl_CellOf.F vs kk) (H : ∀ (row0 : Int) (key1 : Int), F_impl_CellOf row0 key1 (fun r0 => kk (.one (.c (.v (.int .i64 r0)))) []) → motive [.c (.v (.int .i64 row0)), .c (.v (.int .i64 key1))]) : motive vs := by
  unfold con_impl_CellOf at h
  dsimp only at h
  split at h
  · exact H _ _ h
  · exact h.elim
theorem h_impl_CellOf : Holds Try.prog 73 con_impl_CellOf := by
  refine holds_of_ev (rt := [.c .sc]) (T := TT) (Γ := cs_impl_CellOf) (an := an_impl_CellOf) (N := 30) (c := Try.f73.body.getD .skip) Try.func73 (by kernel_rfl) Try.ntmps73 (by decide) (by decide) mixed tabOK cok_impl_CellOf (by kernel_rfl) ?_
  intro vs kk _ hF
  exact i_impl_CellOf (motive := fun vs => Goes (ev TT cs_impl_CellOf 30 an_impl_CellOf (Try.f73.body.getD .skip) (st0 con_impl_CellOf vs) (fin TT con_impl_CellOf Try.f73.results.toList [.c .sc] vs kk))) hF (fun row0 key1 hF => goes_of (e_impl_CellOf row0 key1 kk) (F_impl_CellOf_S hF))
def con_impl_AddKey : Con := ⟨[.rd, .rd], true, [.c (.sl .int), .c (.sc)], fun vs k => match vs with
    | [.c (.ro .int s0), .c (.v (.int .i64 key1))] => F_impl_AddKey s0 key1 (fun r0 => k (.one (.c (.ro .int r0))) [])
    | _ => False, false⟩
def cl_impl_AddKey : List (FuncId × Con) := [(62, con_impl_validKey), (70, con_impl_ValidSketch), (73, con_impl_CellOf)]
def nm0_impl_AddKey : List NStep := [.keep [1, 5, 22] [288]]
def an_impl_AddKey : Ann := ⟨[], [(6, nm0_impl_AddKey)], [], []⟩
def cs_impl_AddKey : Cons := ⟨cl_impl_AddKey, [], 0, [], [], []⟩
def can0_impl_AddKey (key1 : Int) (xt22 : Int) (xy18 : List Int) : St := ⟨[(1, .one (.c (.v (.int .i64 key1)))), (5, .one (.c (.ow 288))), (22, .one (.c (.v (.int .i64 xt22))))], [(288, .row .int xy18)]⟩
def fin_impl_AddKey (s0 : List Int) (key1 : Int) (kk : AV → List A1 → Prop) : Kt := fin TT con_impl_AddKey Try.f27.results.toList [.c (.sl .int)] [.c (.ro .int s0), .c (.v (.int .i64 key1))] kk
def kt0_impl_AddKey (kf : Kt) : Kt := blockK 0 (seqK (evF TT cs_impl_AddKey 39 an_impl_AddKey Try.f27 [1, 1, 1, 1, 1]) (kf))
theorem r0_impl_AddKey (s0 : List Int) (key1 : Int) (kk : AV → List A1 → Prop) (n : Nat) (xt22 : Int) (xy18 : List Int) :
    iter (evF TT cs_impl_AddKey 39 an_impl_AddKey Try.f27 [1, 1, 1, 1, 0, 1, 0, 0]) nm0_impl_AddKey (kt0_impl_AddKey (fin_impl_AddKey s0 key1 kk)) (n + 1) (can0_impl_AddKey key1 xt22 xy18) = T0_impl_AddKey key1 xt22 xy18 (fun r0 => kk (.one (.c (.ro .int r0))) []) (fun xt22 xy18 => iter (evF TT cs_impl_AddKey 39 an_impl_AddKey Try.f27 [1, 1, 1, 1, 0, 1, 0, 0]) nm0_impl_AddKey (kt0_impl_AddKey (fin_impl_AddKey s0 key1 kk)) n (can0_impl_AddKey key1 xt22 xy18)) := by kernel_rfl
theorem l0_impl_AddKey (s0 : List Int) (key1 : Int) (kk : AV → List A1 → Prop) : ∀ (n : Nat) (xt22 : Int) (xy18 : List Int), iter (evF TT cs_impl_AddKey 39 an_impl_AddKey Try.f27 [1, 1, 1, 1, 0, 1, 0, 0]) nm0_impl_AddKey (kt0_impl_AddKey (fin_impl_AddKey s0 key1 kk)) n (can0_impl_AddKey key1 xt22 xy18) = L0_impl_AddKey key1 (fun r0 => kk (.one (.c (.ro .int r0))) []) n xt22 xy18 := by
  intro n
  induction n with
  | zero => intros; rfl
  | succ n ih =>
    intro xt22 xy18
    rw [r0_impl_AddKey s0 key1 kk n xt22 xy18]
    have hb : (fun xt22 xy18 => iter (evF TT cs_impl_AddKey 39 an_impl_AddKey Try.f27 [1, 1, 1, 1, 0, 1, 0, 0]) nm0_impl_AddKey (kt0_impl_AddKey (fin_impl_AddKey s0 key1 kk)) n (can0_impl_AddKey key1 xt22 xy18)) = L0_impl_AddKey key1 (fun r0 => kk (.one (.c (.ro .int r0))) []) n := by
      funext xt22 xy18; exact ih xt22 xy18
    rw [hb]
    rfl
theorem g_impl_AddKey (s0 : List Int) (key1 : Int) (kk : AV → List A1 → Prop) :
    ev TT cs_impl_AddKey 39 an_impl_AddKey (Try.f27.body.getD .skip) (st0 con_impl_AddKey [.c (.ro .int s0), .c (.v (.int .i64 key1))]) (fin TT con_impl_AddKey Try.f27.results.toList [.c (.sl .int)] [.c (.ro .int s0), .c (.v (.int .i64 key1))] kk) = G_impl_AddKey s0 key1 (fun r0 => kk (.one (.c (.ro .int r0))) []) (fun key1 xt22 xy18 => ∃ j, iter (evF TT cs_impl_AddKey 39 an_impl_AddKey Try.f27 [1, 1, 1, 1, 0, 1, 0, 0]) nm0_impl_AddKey (kt0_impl_AddKey (fin_impl_AddKey s0 key1 kk)) j (can0_impl_AddKey key1 xt22 xy18)) := by kernel_rfl
theorem e_impl_AddKey (s0 : List Int) (key1 : Int) (kk : AV → List A1 → Prop) :
    ev TT cs_impl_AddKey 39 an_impl_AddKey (Try.f27.body.getD .skip) (st0 con_impl_AddKey [.c (.ro .int s0), .c (.v (.int .i64 key1))]) (fin TT con_impl_AddKey Try.f27.results.toList [.c (.sl .int)] [.c (.ro .int s0), .c (.v (.int .i64 key1))] kk) = S_impl_AddKey s0 key1 (fun r0 => kk (.one (.c (.ro .int r0))) []) := by
  rw [g_impl_AddKey]
  have hi0 : (fun key1 xt22 xy18 => ∃ j, iter (evF TT cs_impl_AddKey 39 an_impl_AddKey Try.f27 [1, 1, 1, 1, 0, 1, 0, 0]) nm0_impl_AddKey (kt0_impl_AddKey (fin_impl_AddKey s0 key1 kk)) j (can0_impl_AddKey key1 xt22 xy18)) = (fun key1 xt22 xy18 => ∃ j, L0_impl_AddKey key1 (fun r0 => kk (.one (.c (.ro .int r0))) []) j xt22 xy18) := by
    funext key1 xt22 xy18
    refine congrArg Exists (funext fun j => ?_)
    rw [l0_impl_AddKey s0 key1 kk j xt22 xy18]
  rw [hi0]
  rfl
theorem clok_impl_AddKey : ConOK Try.prog cl_impl_AddKey := consCons h_impl_validKey ⟨Try.f62, Try.func62, by kernel_rfl, ne_of_beq (by kernel_rfl)⟩ (consCons h_impl_ValidSketch ⟨Try.f70, Try.func70, by kernel_rfl, ne_of_beq (by kernel_rfl)⟩ (consCons h_impl_CellOf ⟨Try.f73, Try.func73, by kernel_rfl, ne_of_beq (by kernel_rfl)⟩ (consNil)))
theorem cok_impl_AddKey : ConsOK Try.prog 39 cs_impl_AddKey := ⟨clok_impl_AddKey, inlNil, ovNil⟩
theorem i_impl_AddKey {vs : List A1} {kk : AV → List A1 → Prop} {motive : List A1 → Prop} (h : con_impl_AddKey.F vs kk) (H : ∀ (s0 : List Int) (key1 : Int), F_impl_AddKey s0 key1 (fun r0 => kk (.one (.c (.ro .int r0))) []) → motive [.c (.ro .int s0), .c (.v (.int .i64 key1))]) : motive vs := by
  unfold con_impl_AddKey at h
  dsimp only at h
  split at h
  · exact H _ _ h
  · exact h.elim
theorem h_impl_AddKey : Holds Try.prog 27 con_impl_AddKey := by
  refine holds_of_ev (rt := [.c (.sl .int)]) (T := TT) (Γ := cs_impl_AddKey) (an := an_impl_AddKey) (N := 39) (c := Try.f27.body.getD .skip) Try.func27 (by kernel_rfl) Try.ntmps27 (by decide) (by decide) mixed tabOK cok_impl_AddKey (by kernel_rfl) ?_
  intro vs kk _ hF
  exact i_impl_AddKey (motive := fun vs => Goes (ev TT cs_impl_AddKey 39 an_impl_AddKey (Try.f27.body.getD .skip) (st0 con_impl_AddKey vs) (fin TT con_impl_AddKey Try.f27.results.toList [.c (.sl .int)] vs kk))) hF (fun s0 key1 hF => goes_of (e_impl_AddKey s0 key1 kk) (F_impl_AddKey_S hF))
def con_impl_HalveSketch : Con := ⟨[.rd], true, [.c (.sl .int)], fun vs k => match vs with
    | [.c (.ro .int s0)] => F_impl_HalveSketch s0 (fun r0 => k (.one (.c (.ro .int r0))) [])
    | _ => False, false⟩
def cl_impl_HalveSketch : List (FuncId × Con) := [(70, con_impl_ValidSketch)]
def nm0_impl_HalveSketch : List NStep := [.keep [3, 12, 13, 14] [176]]
def an_impl_HalveSketch : Ann := ⟨[], [(5, nm0_impl_HalveSketch)], [], []⟩
def cs_impl_HalveSketch : Cons := ⟨cl_impl_HalveSketch, [], 0, [], [], []⟩
def can0_impl_HalveSketch (s0 : List Int) (xt13 : Int) (xt14 : Int) (xy11 : List Int) : St := ⟨[(3, .one (.c (.ow 176))), (12, .one (.c (.ro .int s0))), (13, .one (.c (.v (.int .i64 xt13)))), (14, .one (.c (.v (.int .i64 xt14))))], [(176, .row .int xy11)]⟩
def fin_impl_HalveSketch (s0 : List Int) (kk : AV → List A1 → Prop) : Kt := fin TT con_impl_HalveSketch Try.f29.results.toList [.c (.sl .int)] [.c (.ro .int s0)] kk
def kt0_impl_HalveSketch (kf : Kt) : Kt := blockK 0 (seqK (evF TT cs_impl_HalveSketch 26 an_impl_HalveSketch Try.f29 [1, 1, 1, 1]) (kf))
theorem r0_impl_HalveSketch (s0 : List Int) (xt13 : Int) (kk : AV → List A1 → Prop) (n : Nat) (xt14 : Int) (xy11 : List Int) :
    iter (evF TT cs_impl_HalveSketch 26 an_impl_HalveSketch Try.f29 [1, 1, 1, 0, 1, 0, 0]) nm0_impl_HalveSketch (kt0_impl_HalveSketch (fin_impl_HalveSketch s0 kk)) (n + 1) (can0_impl_HalveSketch s0 xt13 xt14 xy11) = T0_impl_HalveSketch s0 xt13 xt14 xy11 (fun r0 => kk (.one (.c (.ro .int r0))) []) (fun xt14 xy11 => iter (evF TT cs_impl_HalveSketch 26 an_impl_HalveSketch Try.f29 [1, 1, 1, 0, 1, 0, 0]) nm0_impl_HalveSketch (kt0_impl_HalveSketch (fin_impl_HalveSketch s0 kk)) n (can0_impl_HalveSketch s0 xt13 xt14 xy11)) := by kernel_rfl
theorem l0_impl_HalveSketch (s0 : List Int) (xt13 : Int) (kk : AV → List A1 → Prop) : ∀ (n : Nat) (xt14 : Int) (xy11 : List Int), iter (evF TT cs_impl_HalveSketch 26 an_impl_HalveSketch Try.f29 [1, 1, 1, 0, 1, 0, 0]) nm0_impl_HalveSketch (kt0_impl_HalveSketch (fin_impl_HalveSketch s0 kk)) n (can0_impl_HalveSketch s0 xt13 xt14 xy11) = L0_impl_HalveSketch s0 xt13 (fun r0 => kk (.one (.c (.ro .int r0))) []) n xt14 xy11 := by
  intro n
  induction n with
  | zero => intros; rfl
  | succ n ih =>
    intro xt14 xy11
    rw [r0_impl_HalveSketch s0 xt13 kk n xt14 xy11]
    have hb : (fun xt14 xy11 => iter (evF TT cs_impl_HalveSketch 26 an_impl_HalveSketch Try.f29 [1, 1, 1, 0, 1, 0, 0]) nm0_impl_HalveSketch (kt0_impl_HalveSketch (fin_impl_HalveSketch s0 kk)) n (can0_impl_HalveSketch s0 xt13 xt14 xy11)) = L0_impl_HalveSketch s0 xt13 (fun r0 => kk (.one (.c (.ro .int r0))) []) n := by
      funext xt14 xy11; exact ih xt14 xy11
    rw [hb]
    rfl
theorem g_impl_HalveSketch (s0 : List Int) (kk : AV → List A1 → Prop) :
    ev TT cs_impl_HalveSketch 26 an_impl_HalveSketch (Try.f29.body.getD .skip) (st0 con_impl_HalveSketch [.c (.ro .int s0)]) (fin TT con_impl_HalveSketch Try.f29.results.toList [.c (.sl .int)] [.c (.ro .int s0)] kk) = G_impl_HalveSketch s0 (fun r0 => kk (.one (.c (.ro .int r0))) []) (fun s0 xt13 xt14 xy11 => ∃ j, iter (evF TT cs_impl_HalveSketch 26 an_impl_HalveSketch Try.f29 [1, 1, 1, 0, 1, 0, 0]) nm0_impl_HalveSketch (kt0_impl_HalveSketch (fin_impl_HalveSketch s0 kk)) j (can0_impl_HalveSketch s0 xt13 xt14 xy11)) := by kernel_rfl
theorem e_impl_HalveSketch (s0 : List Int) (kk : AV → List A1 → Prop) :
    ev TT cs_impl_HalveSketch 26 an_impl_HalveSketch (Try.f29.body.getD .skip) (st0 con_impl_HalveSketch [.c (.ro .int s0)]) (fin TT con_impl_HalveSketch Try.f29.results.toList [.c (.sl .int)] [.c (.ro .int s0)] kk) = S_impl_HalveSketch s0 (fun r0 => kk (.one (.c (.ro .int r0))) []) := by
  rw [g_impl_HalveSketch]
  have hi0 : (fun s0 xt13 xt14 xy11 => ∃ j, iter (evF TT cs_impl_HalveSketch 26 an_impl_HalveSketch Try.f29 [1, 1, 1, 0, 1, 0, 0]) nm0_impl_HalveSketch (kt0_impl_HalveSketch (fin_impl_HalveSketch s0 kk)) j (can0_impl_HalveSketch s0 xt13 xt14 xy11)) = (fun s0 xt13 xt14 xy11 => ∃ j, L0_impl_HalveSketch s0 xt13 (fun r0 => kk (.one (.c (.ro .int r0))) []) j xt14 xy11) := by
    funext s0 xt13 xt14 xy11
    refine congrArg Exists (funext fun j => ?_)
    rw [l0_impl_HalveSketch s0 xt13 kk j xt14 xy11]
  rw [hi0]
  rfl
theorem clok_impl_HalveSketch : ConOK Try.prog cl_impl_HalveSketch := consCons h_impl_ValidSketch ⟨Try.f70, Try.func70, by kernel_rfl, ne_of_beq (by kernel_rfl)⟩ (consNil)
theorem cok_impl_HalveSketch : ConsOK Try.prog 26 cs_impl_HalveSketch := ⟨clok_impl_HalveSketch, inlNil, ovNil⟩
theorem i_impl_HalveSketch {vs : List A1} {kk : AV → List A1 → Prop} {motive : List A1 → Prop} (h : con_impl_HalveSketch.F vs kk) (H : ∀ (s0 : List Int), F_impl_HalveSketch s0 (fun r0 => kk (.one (.c (.ro .int r0))) []) → motive [.c (.ro .int s0)]) : motive vs := by
  unfold con_impl_HalveSketch at h
  dsimp only at h
  split at h
  · exact H _ h
  · exact h.elim
theorem h_impl_HalveSketch : Holds Try.prog 29 con_impl_HalveSketch := by
  refine holds_of_ev (rt := [.c (.sl .int)]) (T := TT) (Γ := cs_impl_HalveSketch) (an := an_impl_HalveSketch) (N := 26) (c := Try.f29.body.getD .skip) Try.func29 (by kernel_rfl) Try.ntmps29 (by decide) (by decide) mixed tabOK cok_impl_HalveSketch (by kernel_rfl) ?_
  intro vs kk _ hF
  exact i_impl_HalveSketch (motive := fun vs => Goes (ev TT cs_impl_HalveSketch 26 an_impl_HalveSketch (Try.f29.body.getD .skip) (st0 con_impl_HalveSketch vs) (fin TT con_impl_HalveSketch Try.f29.results.toList [.c (.sl .int)] vs kk))) hF (fun s0 hF => goes_of (e_impl_HalveSketch s0 kk) (F_impl_HalveSketch_S hF))
def con_impl_putFirst : Con := ⟨[.rd, .rd], true, [.c (.sl .int), .c (.sc)], fun vs k => match vs with
    | [.c (.ro .int list0), .c (.v (.int .i64 key1))] => F_impl_putFirst list0 key1 (fun r0 => k (.one (.c (.ro .int r0))) [])
    | _ => False, false⟩
def cl_impl_putFirst : List (FuncId × Con) := []
def an_impl_putFirst : Ann := ⟨[], [], [], []⟩
def cs_impl_putFirst : Cons := ⟨cl_impl_putFirst, [], 0, [], [], []⟩
def fin_impl_putFirst (list0 : List Int) (key1 : Int) (kk : AV → List A1 → Prop) : Kt := fin TT con_impl_putFirst Try.f63.results.toList [.c (.sl .int)] [.c (.ro .int list0), .c (.v (.int .i64 key1))] kk
theorem g_impl_putFirst (list0 : List Int) (key1 : Int) (kk : AV → List A1 → Prop) :
    ev TT cs_impl_putFirst 9 an_impl_putFirst (Try.f63.body.getD .skip) (st0 con_impl_putFirst [.c (.ro .int list0), .c (.v (.int .i64 key1))]) (fin TT con_impl_putFirst Try.f63.results.toList [.c (.sl .int)] [.c (.ro .int list0), .c (.v (.int .i64 key1))] kk) = G_impl_putFirst list0 key1 (fun r0 => kk (.one (.c (.ro .int r0))) []) := by kernel_rfl
theorem e_impl_putFirst (list0 : List Int) (key1 : Int) (kk : AV → List A1 → Prop) :
    ev TT cs_impl_putFirst 9 an_impl_putFirst (Try.f63.body.getD .skip) (st0 con_impl_putFirst [.c (.ro .int list0), .c (.v (.int .i64 key1))]) (fin TT con_impl_putFirst Try.f63.results.toList [.c (.sl .int)] [.c (.ro .int list0), .c (.v (.int .i64 key1))] kk) = S_impl_putFirst list0 key1 (fun r0 => kk (.one (.c (.ro .int r0))) []) := by
  rw [g_impl_putFirst]
  rfl
theorem clok_impl_putFirst : ConOK Try.prog cl_impl_putFirst := consNil
theorem cok_impl_putFirst : ConsOK Try.prog 9 cs_impl_putFirst := ⟨clok_impl_putFirst, inlNil, ovNil⟩
theorem i_impl_putFirst {vs : List A1} {kk : AV → List A1 → Prop} {motive : List A1 → Prop} (h : con_impl_putFirst.F vs kk) (H : ∀ (list0 : List Int) (key1 : Int), F_impl_putFirst list0 key1 (fun r0 => kk (.one (.c (.ro .int r0))) []) → motive [.c (.ro .int list0), .c (.v (.int .i64 key1))]) : motive vs := by
  unfold con_impl_putFirst at h
  dsimp only at h
  split at h
  · exact H _ _ h
  · exact h.elim
theorem h_impl_putFirst : Holds Try.prog 63 con_impl_putFirst := by
  refine holds_of_ev (rt := [.c (.sl .int)]) (T := TT) (Γ := cs_impl_putFirst) (an := an_impl_putFirst) (N := 9) (c := Try.f63.body.getD .skip) Try.func63 (by kernel_rfl) Try.ntmps63 (by decide) (by decide) mixed tabOK cok_impl_putFirst (by kernel_rfl) ?_
  intro vs kk _ hF
  exact i_impl_putFirst (motive := fun vs => Goes (ev TT cs_impl_putFirst 9 an_impl_putFirst (Try.f63.body.getD .skip) (st0 con_impl_putFirst vs) (fin TT con_impl_putFirst Try.f63.results.toList [.c (.sl .int)] vs kk))) hF (fun list0 key1 hF => goes_of (e_impl_putFirst list0 key1 kk) (F_impl_putFirst_S hF))
def con_impl_CountOf : Con := ⟨[.rd, .rd], true, [.c (.sl .int), .c (.sc)], fun vs k => match vs with
    | [.c (.ro .int s0), .c (.v (.int .i64 key1))] => F_impl_CountOf s0 key1 (fun r0 => k (.one (.c (.v (.int .i64 r0)))) [])
    | _ => False, false⟩
def cl_impl_CountOf : List (FuncId × Con) := [(62, con_impl_validKey), (70, con_impl_ValidSketch), (73, con_impl_CellOf)]
def nm0_impl_CountOf : List NStep := [.keep [0, 1, 5, 15] []]
def an_impl_CountOf : Ann := ⟨[], [(5, nm0_impl_CountOf)], [], []⟩
def cs_impl_CountOf : Cons := ⟨cl_impl_CountOf, [], 0, [], [], []⟩
def can0_impl_CountOf (key1 : Int) (s0 : List Int) (xleast5 : Int) (xt15 : Int) : St := ⟨[(0, .one (.c (.ro .int s0))), (1, .one (.c (.v (.int .i64 key1)))), (5, .one (.c (.v (.int .i64 xleast5)))), (15, .one (.c (.v (.int .i64 xt15))))], []⟩
def fin_impl_CountOf (s0 : List Int) (key1 : Int) (kk : AV → List A1 → Prop) : Kt := fin TT con_impl_CountOf Try.f74.results.toList [.c .sc] [.c (.ro .int s0), .c (.v (.int .i64 key1))] kk
def kt0_impl_CountOf (kf : Kt) : Kt := blockK 0 (seqK (evF TT cs_impl_CountOf 28 an_impl_CountOf Try.f74 [1, 1, 1, 1]) (kf))
theorem r0_impl_CountOf (s0 : List Int) (key1 : Int) (kk : AV → List A1 → Prop) (n : Nat) (xleast5 : Int) (xt15 : Int) :
    iter (evF TT cs_impl_CountOf 28 an_impl_CountOf Try.f74 [1, 1, 1, 0, 1, 0, 0]) nm0_impl_CountOf (kt0_impl_CountOf (fin_impl_CountOf s0 key1 kk)) (n + 1) (can0_impl_CountOf key1 s0 xleast5 xt15) = T0_impl_CountOf key1 s0 xleast5 xt15 (fun r0 => kk (.one (.c (.v (.int .i64 r0)))) []) (fun xleast5 xt15 => iter (evF TT cs_impl_CountOf 28 an_impl_CountOf Try.f74 [1, 1, 1, 0, 1, 0, 0]) nm0_impl_CountOf (kt0_impl_CountOf (fin_impl_CountOf s0 key1 kk)) n (can0_impl_CountOf key1 s0 xleast5 xt15)) := by kernel_rfl
theorem l0_impl_CountOf (s0 : List Int) (key1 : Int) (kk : AV → List A1 → Prop) : ∀ (n : Nat) (xleast5 : Int) (xt15 : Int), iter (evF TT cs_impl_CountOf 28 an_impl_CountOf Try.f74 [1, 1, 1, 0, 1, 0, 0]) nm0_impl_CountOf (kt0_impl_CountOf (fin_impl_CountOf s0 key1 kk)) n (can0_impl_CountOf key1 s0 xleast5 xt15) = L0_impl_CountOf key1 s0 (fun r0 => kk (.one (.c (.v (.int .i64 r0)))) []) n xleast5 xt15 := by
  intro n
  induction n with
  | zero => intros; rfl
  | succ n ih =>
    intro xleast5 xt15
    rw [r0_impl_CountOf s0 key1 kk n xleast5 xt15]
    have hb : (fun xleast5 xt15 => iter (evF TT cs_impl_CountOf 28 an_impl_CountOf Try.f74 [1, 1, 1, 0, 1, 0, 0]) nm0_impl_CountOf (kt0_impl_CountOf (fin_impl_CountOf s0 key1 kk)) n (can0_impl_CountOf key1 s0 xleast5 xt15)) = L0_impl_CountOf key1 s0 (fun r0 => kk (.one (.c (.v (.int .i64 r0)))) []) n := by
      funext xleast5 xt15; exact ih xleast5 xt15
    rw [hb]
    rfl
theorem g_impl_CountOf (s0 : List Int) (key1 : Int) (kk : AV → List A1 → Prop) :
    ev TT cs_impl_CountOf 28 an_impl_CountOf (Try.f74.body.getD .skip) (st0 con_impl_CountOf [.c (.ro .int s0), .c (.v (.int .i64 key1))]) (fin TT con_impl_CountOf Try.f74.results.toList [.c .sc] [.c (.ro .int s0), .c (.v (.int .i64 key1))] kk) = G_impl_CountOf s0 key1 (fun r0 => kk (.one (.c (.v (.int .i64 r0)))) []) (fun key1 s0 xleast5 xt15 => ∃ j, iter (evF TT cs_impl_CountOf 28 an_impl_CountOf Try.f74 [1, 1, 1, 0, 1, 0, 0]) nm0_impl_CountOf (kt0_impl_CountOf (fin_impl_CountOf s0 key1 kk)) j (can0_impl_CountOf key1 s0 xleast5 xt15)) := by kernel_rfl
theorem e_impl_CountOf (s0 : List Int) (key1 : Int) (kk : AV → List A1 → Prop) :
    ev TT cs_impl_CountOf 28 an_impl_CountOf (Try.f74.body.getD .skip) (st0 con_impl_CountOf [.c (.ro .int s0), .c (.v (.int .i64 key1))]) (fin TT con_impl_CountOf Try.f74.results.toList [.c .sc] [.c (.ro .int s0), .c (.v (.int .i64 key1))] kk) = S_impl_CountOf s0 key1 (fun r0 => kk (.one (.c (.v (.int .i64 r0)))) []) := by
  rw [g_impl_CountOf]
  have hi0 : (fun key1 s0 xleast5 xt15 => ∃ j, iter (evF TT cs_impl_CountOf 28 an_impl_CountOf Try.f74 [1, 1, 1, 0, 1, 0, 0]) nm0_impl_CountOf (kt0_impl_CountOf (fin_impl_CountOf s0 key1 kk)) j (can0_impl_CountOf key1 s0 xleast5 xt15)) = (fun key1 s0 xleast5 xt15 => ∃ j, L0_impl_CountOf key1 s0 (fun r0 => kk (.one (.c (.v (.int .i64 r0)))) []) j xleast5 xt15) := by
    funext key1 s0 xleast5 xt15
    refine congrArg Exists (funext fun j => ?_)
    rw [l0_impl_CountOf s0 key1 kk j xleast5 xt15]
  rw [hi0]
  rfl
theorem clok_impl_CountOf : ConOK Try.prog cl_impl_CountOf := consCons h_impl_validKey ⟨Try.f62, Try.func62, by kernel_rfl, ne_of_beq (by kernel_rfl)⟩ (consCons h_impl_ValidSketch ⟨Try.f70, Try.func70, by kernel_rfl, ne_of_beq (by kernel_rfl)⟩ (consCons h_impl_CellOf ⟨Try.f73, Try.func73, by kernel_rfl, ne_of_beq (by kernel_rfl)⟩ (consNil)))
theorem cok_impl_CountOf : ConsOK Try.prog 28 cs_impl_CountOf := ⟨clok_impl_CountOf, inlNil, ovNil⟩
theorem i_impl_CountOf {vs : List A1} {kk : AV → List A1 → Prop} {motive : List A1 → Prop} (h : con_impl_CountOf.F vs kk) (H : ∀ (s0 : List Int) (key1 : Int), F_impl_CountOf s0 key1 (fun r0 => kk (.one (.c (.v (.int .i64 r0)))) []) → motive [.c (.ro .int s0), .c (.v (.int .i64 key1))]) : motive vs := by
  unfold con_impl_CountOf at h
  dsimp only at h
  split at h
  · exact H _ _ h
  · exact h.elim
theorem h_impl_CountOf : Holds Try.prog 74 con_impl_CountOf := by
  refine holds_of_ev (rt := [.c .sc]) (T := TT) (Γ := cs_impl_CountOf) (an := an_impl_CountOf) (N := 28) (c := Try.f74.body.getD .skip) Try.func74 (by kernel_rfl) Try.ntmps74 (by decide) (by decide) mixed tabOK cok_impl_CountOf (by kernel_rfl) ?_
  intro vs kk _ hF
  exact i_impl_CountOf (motive := fun vs => Goes (ev TT cs_impl_CountOf 28 an_impl_CountOf (Try.f74.body.getD .skip) (st0 con_impl_CountOf vs) (fin TT con_impl_CountOf Try.f74.results.toList [.c .sc] vs kk))) hF (fun s0 key1 hF => goes_of (e_impl_CountOf s0 key1 kk) (F_impl_CountOf_S hF))
def con_impl_Prefers : Con := ⟨[.rd, .rd, .rd], true, [.c (.sl .int), .c (.sc), .c (.sc)], fun vs k => match vs with
    | [.c (.ro .int s0), .c (.v (.int .i64 a1)), .c (.v (.int .i64 b2))] => F_impl_Prefers s0 a1 b2 (fun r0 => k (.one (.c (.v (.bool r0)))) [])
    | _ => False, false⟩
def cl_impl_Prefers : List (FuncId × Con) := [(62, con_impl_validKey), (70, con_impl_ValidSketch), (74, con_impl_CountOf)]
def an_impl_Prefers : Ann := ⟨[], [], [], []⟩
def cs_impl_Prefers : Cons := ⟨cl_impl_Prefers, [], 0, [], [], []⟩
def fin_impl_Prefers (s0 : List Int) (a1 : Int) (b2 : Int) (kk : AV → List A1 → Prop) : Kt := fin TT con_impl_Prefers Try.f30.results.toList [.c .sc] [.c (.ro .int s0), .c (.v (.int .i64 a1)), .c (.v (.int .i64 b2))] kk
theorem g_impl_Prefers (s0 : List Int) (a1 : Int) (b2 : Int) (kk : AV → List A1 → Prop) :
    ev TT cs_impl_Prefers 27 an_impl_Prefers (Try.f30.body.getD .skip) (st0 con_impl_Prefers [.c (.ro .int s0), .c (.v (.int .i64 a1)), .c (.v (.int .i64 b2))]) (fin TT con_impl_Prefers Try.f30.results.toList [.c .sc] [.c (.ro .int s0), .c (.v (.int .i64 a1)), .c (.v (.int .i64 b2))] kk) = G_impl_Prefers s0 a1 b2 (fun r0 => kk (.one (.c (.v (.bool r0)))) []) := by kernel_rfl
theorem e_impl_Prefers (s0 : List Int) (a1 : Int) (b2 : Int) (kk : AV → List A1 → Prop) :
    ev TT cs_impl_Prefers 27 an_impl_Prefers (Try.f30.body.getD .skip) (st0 con_impl_Prefers [.c (.ro .int s0), .c (.v (.int .i64 a1)), .c (.v (.int .i64 b2))]) (fin TT con_impl_Prefers Try.f30.results.toList [.c .sc] [.c (.ro .int s0), .c (.v (.int .i64 a1)), .c (.v (.int .i64 b2))] kk) = S_impl_Prefers s0 a1 b2 (fun r0 => kk (.one (.c (.v (.bool r0)))) []) := by
  rw [g_impl_Prefers]
  rfl
theorem clok_impl_Prefers : ConOK Try.prog cl_impl_Prefers := consCons h_impl_validKey ⟨Try.f62, Try.func62, by kernel_rfl, ne_of_beq (by kernel_rfl)⟩ (consCons h_impl_ValidSketch ⟨Try.f70, Try.func70, by kernel_rfl, ne_of_beq (by kernel_rfl)⟩ (consCons h_impl_CountOf ⟨Try.f74, Try.func74, by kernel_rfl, ne_of_beq (by kernel_rfl)⟩ (consNil)))
theorem cok_impl_Prefers : ConsOK Try.prog 27 cs_impl_Prefers := ⟨clok_impl_Prefers, inlNil, ovNil⟩
theorem i_impl_Prefers {vs : List A1} {kk : AV → List A1 → Prop} {motive : List A1 → Prop} (h : con_impl_Prefers.F vs kk) (H : ∀ (s0 : List Int) (a1 : Int) (b2 : Int), F_impl_Prefers s0 a1 b2 (fun r0 => kk (.one (.c (.v (.bool r0)))) []) → motive [.c (.ro .int s0), .c (.v (.int .i64 a1)), .c (.v (.int .i64 b2))]) : motive vs := by
  unfold con_impl_Prefers at h
  dsimp only at h
  split at h
  · exact H _ _ _ h
  · exact h.elim
theorem h_impl_Prefers : Holds Try.prog 30 con_impl_Prefers := by
  refine holds_of_ev (rt := [.c .sc]) (T := TT) (Γ := cs_impl_Prefers) (an := an_impl_Prefers) (N := 27) (c := Try.f30.body.getD .skip) Try.func30 (by kernel_rfl) Try.ntmps30 (by decide) (by decide) mixed tabOK cok_impl_Prefers (by kernel_rfl) ?_
  intro vs kk _ hF
  exact i_impl_Prefers (motive := fun vs => Goes (ev TT cs_impl_Prefers 27 an_impl_Prefers (Try.f30.body.getD .skip) (st0 con_impl_Prefers vs) (fin TT con_impl_Prefers Try.f30.results.toList [.c .sc] vs kk))) hF (fun s0 a1 b2 hF => goes_of (e_impl_Prefers s0 a1 b2 kk) (F_impl_Prefers_S hF))
def con_impl_UseGate : Con := ⟨[.rd, .rd], true, [.agg [.sc, .sc, .sl .int, .sl .int, .sl .int, .sc], .c (.sc)], fun vs k => match vs with
    | [.agg [.v (.int .i64 g0Window), .v (.int .i64 g0Room), .ro .int g0New, .ro .int g0Main, .ro .int g0Sketch, .v (.int .i64 g0Added)], .c (.v (.int .i64 key1))] => F_impl_UseGate g0Window g0Room g0New g0Main g0Sketch g0Added key1 (fun r0 r1 r2 r3 r4 r5 r6 => k (.tup [.agg [.v (.int .i64 r0), .v (.int .i64 r1), .ro .int r2, .ro .int r3, .ro .int r4, .v (.int .i64 r5)], .c (.v (.bool r6))]) [])
    | _ => False, false⟩
def cl_impl_UseGate : List (FuncId × Con) := [(25, con_impl_ValidGate), (27, con_impl_AddKey), (29, con_impl_HalveSketch), (30, con_impl_Prefers), (43, con_slices_Contains_sint_int), (44, con_impl_withoutKey), (62, con_impl_validKey), (63, con_impl_putFirst)]
def an_impl_UseGate_i3 : Ann := ⟨[], [], [], []⟩
def cs_impl_UseGate_i3 : Cons := ⟨cl_impl_UseGate, [], 2288, [], [], []⟩
def an_impl_UseGate_i2 : Ann := ⟨[(0, .take 0 (.take 1 (.take 2 (.take 3 (.take 4 (.take 5 (.take 6 (.take 7 (.take 8 (.take 9 (.done)))))))))), [96]), (1, .take 0 (.take 1 (.take 2 (.take 3 (.take 4 (.take 5 (.take 6 (.take 7 (.take 8 (.take 9 (.take 10 (.take 11 (.take 12 (.take 13 (.take 14 (.take 15 (.alt 16 (.take 17 (.done)) (.none))))))))))))))))), [96, 448])], [], [], []⟩
def cs_impl_UseGate_i2 : Cons := ⟨cl_impl_UseGate, [(37, ⟨64, inlG TT cs_impl_UseGate_i3 49 8 an_impl_UseGate_i3 (Try.f64.body.getD .skip) Try.f64.results.toList⟩)], 1488, [], [], []⟩
def an_impl_UseGate_i1 : Ann := ⟨[], [], [], []⟩
def cs_impl_UseGate_i1 : Cons := ⟨cl_impl_UseGate, [], 1344, [], [], []⟩
def an_impl_UseGate : Ann := ⟨[(3, .take 0 (.take 1 (.take 2 (.take 3 (.take 4 (.take 5 (.take 6 (.take 8 (.take 9 (.take 10 (.take 12 (.take 13 (.take 14 (.take 16 (.take 17 (.take 18 (.alt 7 (.alt 11 (.alt 15 (.take 19 (.alt 20 (.alt 21 (.done) (.none)) (.none))) (.alt 20 (.alt 15 (.take 19 (.alt 21 (.done) (.none))) (.none)) (.none))) (.alt 20 (.alt 11 (.alt 15 (.take 19 (.alt 21 (.done) (.none))) (.none)) (.none)) (.none))) (.alt 20 (.alt 7 (.alt 11 (.alt 15 (.take 19 (.alt 21 (.done) (.none))) (.none)) (.none)) (.none)) (.none)))))))))))))))))), [32]), (15, .take 0 (.take 1 (.take 2 (.take 3 (.alt 4 (.alt 5 (.take 6 (.done)) (.none)) (.none))))), [32, 96])], [], [], []⟩
def cs_impl_UseGate : Cons := ⟨cl_impl_UseGate, [(74, ⟨64, inlG TT cs_impl_UseGate_i1 83 8 an_impl_UseGate_i1 (Try.f64.body.getD .skip) Try.f64.results.toList⟩), (77, ⟨65, inlG TT cs_impl_UseGate_i2 83 49 an_impl_UseGate_i2 (Try.f65.body.getD .skip) Try.f65.results.toList⟩)], 0, [], [], []⟩
def fin_impl_UseGate (g0Window : Int) (g0Room : Int) (g0New : List Int) (g0Main : List Int) (g0Sketch : List Int) (g0Added : Int) (key1 : Int) (kk : AV → List A1 → Prop) : Kt := fin TT con_impl_UseGate Try.f22.results.toList [.agg [.sc, .sc, .sl .int, .sl .int, .sl .int, .sc], .c .sc] [.agg [.v (.int .i64 g0Window), .v (.int .i64 g0Room), .ro .int g0New, .ro .int g0Main, .ro .int g0Sketch, .v (.int .i64 g0Added)], .c (.v (.int .i64 key1))] kk
theorem g_impl_UseGate (g0Window : Int) (g0Room : Int) (g0New : List Int) (g0Main : List Int) (g0Sketch : List Int) (g0Added : Int) (key1 : Int) (kk : AV → List A1 → Prop) :
    ev TT cs_impl_UseGate 83 an_impl_UseGate (Try.f22.body.getD .skip) (st0 con_impl_UseGate [.agg [.v (.int .i64 g0Window), .v (.int .i64 g0Room), .ro .int g0New, .ro .int g0Main, .ro .int g0Sketch, .v (.int .i64 g0Added)], .c (.v (.int .i64 key1))]) (fin TT con_impl_UseGate Try.f22.results.toList [.agg [.sc, .sc, .sl .int, .sl .int, .sl .int, .sc], .c .sc] [.agg [.v (.int .i64 g0Window), .v (.int .i64 g0Room), .ro .int g0New, .ro .int g0Main, .ro .int g0Sketch, .v (.int .i64 g0Added)], .c (.v (.int .i64 key1))] kk) = G_impl_UseGate g0Window g0Room g0New g0Main g0Sketch g0Added key1 (fun r0 r1 r2 r3 r4 r5 r6 => kk (.tup [.agg [.v (.int .i64 r0), .v (.int .i64 r1), .ro .int r2, .ro .int r3, .ro .int r4, .v (.int .i64 r5)], .c (.v (.bool r6))]) []) := by kernel_rfl
theorem e_impl_UseGate (g0Window : Int) (g0Room : Int) (g0New : List Int) (g0Main : List Int) (g0Sketch : List Int) (g0Added : Int) (key1 : Int) (kk : AV → List A1 → Prop) :
    ev TT cs_impl_UseGate 83 an_impl_UseGate (Try.f22.body.getD .skip) (st0 con_impl_UseGate [.agg [.v (.int .i64 g0Window), .v (.int .i64 g0Room), .ro .int g0New, .ro .int g0Main, .ro .int g0Sketch, .v (.int .i64 g0Added)], .c (.v (.int .i64 key1))]) (fin TT con_impl_UseGate Try.f22.results.toList [.agg [.sc, .sc, .sl .int, .sl .int, .sl .int, .sc], .c .sc] [.agg [.v (.int .i64 g0Window), .v (.int .i64 g0Room), .ro .int g0New, .ro .int g0Main, .ro .int g0Sketch, .v (.int .i64 g0Added)], .c (.v (.int .i64 key1))] kk) = S_impl_UseGate g0Window g0Room g0New g0Main g0Sketch g0Added key1 (fun r0 r1 r2 r3 r4 r5 r6 => kk (.tup [.agg [.v (.int .i64 r0), .v (.int .i64 r1), .ro .int r2, .ro .int r3, .ro .int r4, .v (.int .i64 r5)], .c (.v (.bool r6))]) []) := by
  rw [g_impl_UseGate]
  rw [G_impl_UseGate_eq]
  rfl
theorem clok_impl_UseGate : ConOK Try.prog cl_impl_UseGate := consCons h_impl_ValidGate ⟨Try.f25, Try.func25, by kernel_rfl, ne_of_beq (by kernel_rfl)⟩ (consCons h_impl_AddKey ⟨Try.f27, Try.func27, by kernel_rfl, ne_of_beq (by kernel_rfl)⟩ (consCons h_impl_HalveSketch ⟨Try.f29, Try.func29, by kernel_rfl, ne_of_beq (by kernel_rfl)⟩ (consCons h_impl_Prefers ⟨Try.f30, Try.func30, by kernel_rfl, ne_of_beq (by kernel_rfl)⟩ (consCons h_slices_Contains_sint_int ⟨Try.f43, Try.func43, by kernel_rfl, ne_of_beq (by kernel_rfl)⟩ (consCons h_impl_withoutKey ⟨Try.f44, Try.func44, by kernel_rfl, ne_of_beq (by kernel_rfl)⟩ (consCons h_impl_validKey ⟨Try.f62, Try.func62, by kernel_rfl, ne_of_beq (by kernel_rfl)⟩ (consCons h_impl_putFirst ⟨Try.f63, Try.func63, by kernel_rfl, ne_of_beq (by kernel_rfl)⟩ (consNil))))))))
theorem cok_impl_UseGate_i3 : ConsOK Try.prog 8 cs_impl_UseGate_i3 := ⟨clok_impl_UseGate, inlNil, ovNil⟩
theorem cok_impl_UseGate_i2 : ConsOK Try.prog 49 cs_impl_UseGate_i2 := ⟨clok_impl_UseGate, inlCons (inl_ok Try.func64 (by kernel_rfl) (ne_of_beq (by kernel_rfl)) Try.ntmps64 (by decide) mixed tabOK cok_impl_UseGate_i3 (by kernel_rfl)) (inlNil), ovNil⟩
theorem cok_impl_UseGate_i1 : ConsOK Try.prog 8 cs_impl_UseGate_i1 := ⟨clok_impl_UseGate, inlNil, ovNil⟩
theorem cok_impl_UseGate : ConsOK Try.prog 83 cs_impl_UseGate := ⟨clok_impl_UseGate, inlCons (inl_ok Try.func64 (by kernel_rfl) (ne_of_beq (by kernel_rfl)) Try.ntmps64 (by decide) mixed tabOK cok_impl_UseGate_i1 (by kernel_rfl)) (inlCons (inl_ok Try.func65 (by kernel_rfl) (ne_of_beq (by kernel_rfl)) Try.ntmps65 (by decide) mixed tabOK cok_impl_UseGate_i2 (by kernel_rfl)) (inlNil)), ovNil⟩
theorem i_impl_UseGate {vs : List A1} {kk : AV → List A1 → Prop} {motive : List A1 → Prop} (h : con_impl_UseGate.F vs kk) (H : ∀ (g0Window : Int) (g0Room : Int) (g0New : List Int) (g0Main : List Int) (g0Sketch : List Int) (g0Added : Int) (key1 : Int), F_impl_UseGate g0Window g0Room g0New g0Main g0Sketch g0Added key1 (fun r0 r1 r2 r3 r4 r5 r6 => kk (.tup [.agg [.v (.int .i64 r0), .v (.int .i64 r1), .ro .int r2, .ro .int r3, .ro .int r4, .v (.int .i64 r5)], .c (.v (.bool r6))]) []) → motive [.agg [.v (.int .i64 g0Window), .v (.int .i64 g0Room), .ro .int g0New, .ro .int g0Main, .ro .int g0Sketch, .v (.int .i64 g0Added)], .c (.v (.int .i64 key1))]) : motive vs := by
  unfold con_impl_UseGate at h
  dsimp only at h
  split at h
  · exact H _ _ _ _ _ _ _ h
  · exact h.elim
theorem h_impl_UseGate : Holds Try.prog 22 con_impl_UseGate := by
  refine holds_of_ev (rt := [.agg [.sc, .sc, .sl .int, .sl .int, .sl .int, .sc], .c .sc]) (T := TT) (Γ := cs_impl_UseGate) (an := an_impl_UseGate) (N := 83) (c := Try.f22.body.getD .skip) Try.func22 (by kernel_rfl) Try.ntmps22 (by decide) (by decide) mixed tabOK cok_impl_UseGate (by kernel_rfl) ?_
  intro vs kk _ hF
  exact i_impl_UseGate (motive := fun vs => Goes (ev TT cs_impl_UseGate 83 an_impl_UseGate (Try.f22.body.getD .skip) (st0 con_impl_UseGate vs) (fin TT con_impl_UseGate Try.f22.results.toList [.agg [.sc, .sc, .sl .int, .sl .int, .sl .int, .sc], .c .sc] vs kk))) hF (fun g0Window g0Room g0New g0Main g0Sketch g0Added key1 hF => goes_of (e_impl_UseGate g0Window g0Room g0New g0Main g0Sketch g0Added key1 kk) (F_impl_UseGate_S hF))
def con_spec_distinct : Con := ⟨[.rd], true, [.c (.sl .int)], fun vs k => match vs with
    | [.c (.ro .int list0)] => F_spec_distinct list0 (fun r0 => k (.one (.c (.v (.bool r0)))) [])
    | _ => False, false⟩
def cl_spec_distinct : List (FuncId × Con) := [(114, con_spec_placeOf)]
def nm0_spec_distinct : List NStep := [.keep [0, 3] []]
def an_spec_distinct : Ann := ⟨[], [(2, nm0_spec_distinct)], [], []⟩
def cs_spec_distinct : Cons := ⟨cl_spec_distinct, [], 0, [], [], []⟩
def can0_spec_distinct (list0 : List Int) (xi3 : Int) : St := ⟨[(0, .one (.c (.ro .int list0))), (3, .one (.c (.v (.int .i64 xi3))))], []⟩
def fin_spec_distinct (list0 : List Int) (kk : AV → List A1 → Prop) : Kt := fin TT con_spec_distinct Try.f111.results.toList [.c .sc] [.c (.ro .int list0)] kk
def kt0_spec_distinct (kf : Kt) : Kt := blockK 0 (seqK (evF TT cs_spec_distinct 18 an_spec_distinct Try.f111 [1, 1]) (kf))
theorem r0_spec_distinct (list0 : List Int) (kk : AV → List A1 → Prop) (n : Nat) (xi3 : Int) :
    iter (evF TT cs_spec_distinct 18 an_spec_distinct Try.f111 [1, 0, 1, 0, 0]) nm0_spec_distinct (kt0_spec_distinct (fin_spec_distinct list0 kk)) (n + 1) (can0_spec_distinct list0 xi3) = T0_spec_distinct list0 xi3 (fun r0 => kk (.one (.c (.v (.bool r0)))) []) (fun xi3 => iter (evF TT cs_spec_distinct 18 an_spec_distinct Try.f111 [1, 0, 1, 0, 0]) nm0_spec_distinct (kt0_spec_distinct (fin_spec_distinct list0 kk)) n (can0_spec_distinct list0 xi3)) := by kernel_rfl
theorem l0_spec_distinct (list0 : List Int) (kk : AV → List A1 → Prop) : ∀ (n : Nat) (xi3 : Int), iter (evF TT cs_spec_distinct 18 an_spec_distinct Try.f111 [1, 0, 1, 0, 0]) nm0_spec_distinct (kt0_spec_distinct (fin_spec_distinct list0 kk)) n (can0_spec_distinct list0 xi3) = L0_spec_distinct list0 (fun r0 => kk (.one (.c (.v (.bool r0)))) []) n xi3 := by
  intro n
  induction n with
  | zero => intros; rfl
  | succ n ih =>
    intro xi3
    rw [r0_spec_distinct list0 kk n xi3]
    have hb : (fun xi3 => iter (evF TT cs_spec_distinct 18 an_spec_distinct Try.f111 [1, 0, 1, 0, 0]) nm0_spec_distinct (kt0_spec_distinct (fin_spec_distinct list0 kk)) n (can0_spec_distinct list0 xi3)) = L0_spec_distinct list0 (fun r0 => kk (.one (.c (.v (.bool r0)))) []) n := by
      funext xi3; exact ih xi3
    rw [hb]
    rfl
theorem g_spec_distinct (list0 : List Int) (kk : AV → List A1 → Prop) :
    ev TT cs_spec_distinct 18 an_spec_distinct (Try.f111.body.getD .skip) (st0 con_spec_distinct [.c (.ro .int list0)]) (fin TT con_spec_distinct Try.f111.results.toList [.c .sc] [.c (.ro .int list0)] kk) = G_spec_distinct list0 (fun list0 xi3 => ∃ j, iter (evF TT cs_spec_distinct 18 an_spec_distinct Try.f111 [1, 0, 1, 0, 0]) nm0_spec_distinct (kt0_spec_distinct (fin_spec_distinct list0 kk)) j (can0_spec_distinct list0 xi3)) := by kernel_rfl
theorem e_spec_distinct (list0 : List Int) (kk : AV → List A1 → Prop) :
    ev TT cs_spec_distinct 18 an_spec_distinct (Try.f111.body.getD .skip) (st0 con_spec_distinct [.c (.ro .int list0)]) (fin TT con_spec_distinct Try.f111.results.toList [.c .sc] [.c (.ro .int list0)] kk) = S_spec_distinct list0 (fun r0 => kk (.one (.c (.v (.bool r0)))) []) := by
  rw [g_spec_distinct]
  have hi0 : (fun list0 xi3 => ∃ j, iter (evF TT cs_spec_distinct 18 an_spec_distinct Try.f111 [1, 0, 1, 0, 0]) nm0_spec_distinct (kt0_spec_distinct (fin_spec_distinct list0 kk)) j (can0_spec_distinct list0 xi3)) = (fun list0 xi3 => ∃ j, L0_spec_distinct list0 (fun r0 => kk (.one (.c (.v (.bool r0)))) []) j xi3) := by
    funext list0 xi3
    refine congrArg Exists (funext fun j => ?_)
    rw [l0_spec_distinct list0 kk j xi3]
  rw [hi0]
  rfl
theorem clok_spec_distinct : ConOK Try.prog cl_spec_distinct := consCons h_spec_placeOf ⟨Try.f114, Try.func114, by kernel_rfl, ne_of_beq (by kernel_rfl)⟩ (consNil)
theorem cok_spec_distinct : ConsOK Try.prog 18 cs_spec_distinct := ⟨clok_spec_distinct, inlNil, ovNil⟩
theorem i_spec_distinct {vs : List A1} {kk : AV → List A1 → Prop} {motive : List A1 → Prop} (h : con_spec_distinct.F vs kk) (H : ∀ (list0 : List Int), F_spec_distinct list0 (fun r0 => kk (.one (.c (.v (.bool r0)))) []) → motive [.c (.ro .int list0)]) : motive vs := by
  unfold con_spec_distinct at h
  dsimp only at h
  split at h
  · exact H _ h
  · exact h.elim
theorem h_spec_distinct : Holds Try.prog 111 con_spec_distinct := by
  refine holds_of_ev (rt := [.c .sc]) (T := TT) (Γ := cs_spec_distinct) (an := an_spec_distinct) (N := 18) (c := Try.f111.body.getD .skip) Try.func111 (by kernel_rfl) Try.ntmps111 (by decide) (by decide) mixed tabOK cok_spec_distinct (by kernel_rfl) ?_
  intro vs kk _ hF
  exact i_spec_distinct (motive := fun vs => Goes (ev TT cs_spec_distinct 18 an_spec_distinct (Try.f111.body.getD .skip) (st0 con_spec_distinct vs) (fin TT con_spec_distinct Try.f111.results.toList [.c .sc] vs kk))) hF (fun list0 hF => goes_of (e_spec_distinct list0 kk) (F_spec_distinct_S hF))
def con_spec_validKeys : Con := ⟨[.rd, .rd], true, [.c (.sl .int), .c (.sc)], fun vs k => match vs with
    | [.c (.ro .int list0), .c (.v (.int .i64 room1))] => F_spec_validKeys list0 room1 (fun r0 => k (.one (.c (.v (.bool r0)))) [])
    | _ => False, false⟩
def cl_spec_validKeys : List (FuncId × Con) := [(47, con_spec_inRange), (89, con_spec_allIn), (111, con_spec_distinct)]
def an_spec_validKeys : Ann := ⟨[], [], [], []⟩
def cs_spec_validKeys : Cons := ⟨cl_spec_validKeys, [], 0, [], [], []⟩
def fin_spec_validKeys (list0 : List Int) (room1 : Int) (kk : AV → List A1 → Prop) : Kt := fin TT con_spec_validKeys Try.f110.results.toList [.c .sc] [.c (.ro .int list0), .c (.v (.int .i64 room1))] kk
theorem g_spec_validKeys (list0 : List Int) (room1 : Int) (kk : AV → List A1 → Prop) :
    ev TT cs_spec_validKeys 21 an_spec_validKeys (Try.f110.body.getD .skip) (st0 con_spec_validKeys [.c (.ro .int list0), .c (.v (.int .i64 room1))]) (fin TT con_spec_validKeys Try.f110.results.toList [.c .sc] [.c (.ro .int list0), .c (.v (.int .i64 room1))] kk) = G_spec_validKeys list0 room1 (fun r0 => kk (.one (.c (.v (.bool r0)))) []) := by kernel_rfl
theorem e_spec_validKeys (list0 : List Int) (room1 : Int) (kk : AV → List A1 → Prop) :
    ev TT cs_spec_validKeys 21 an_spec_validKeys (Try.f110.body.getD .skip) (st0 con_spec_validKeys [.c (.ro .int list0), .c (.v (.int .i64 room1))]) (fin TT con_spec_validKeys Try.f110.results.toList [.c .sc] [.c (.ro .int list0), .c (.v (.int .i64 room1))] kk) = S_spec_validKeys list0 room1 (fun r0 => kk (.one (.c (.v (.bool r0)))) []) := by
  rw [g_spec_validKeys]
  rfl
theorem clok_spec_validKeys : ConOK Try.prog cl_spec_validKeys := consCons h_spec_inRange ⟨Try.f47, Try.func47, by kernel_rfl, ne_of_beq (by kernel_rfl)⟩ (consCons h_spec_allIn ⟨Try.f89, Try.func89, by kernel_rfl, ne_of_beq (by kernel_rfl)⟩ (consCons h_spec_distinct ⟨Try.f111, Try.func111, by kernel_rfl, ne_of_beq (by kernel_rfl)⟩ (consNil)))
theorem cok_spec_validKeys : ConsOK Try.prog 21 cs_spec_validKeys := ⟨clok_spec_validKeys, inlNil, ovNil⟩
theorem i_spec_validKeys {vs : List A1} {kk : AV → List A1 → Prop} {motive : List A1 → Prop} (h : con_spec_validKeys.F vs kk) (H : ∀ (list0 : List Int) (room1 : Int), F_spec_validKeys list0 room1 (fun r0 => kk (.one (.c (.v (.bool r0)))) []) → motive [.c (.ro .int list0), .c (.v (.int .i64 room1))]) : motive vs := by
  unfold con_spec_validKeys at h
  dsimp only at h
  split at h
  · exact H _ _ h
  · exact h.elim
theorem h_spec_validKeys : Holds Try.prog 110 con_spec_validKeys := by
  refine holds_of_ev (rt := [.c .sc]) (T := TT) (Γ := cs_spec_validKeys) (an := an_spec_validKeys) (N := 21) (c := Try.f110.body.getD .skip) Try.func110 (by kernel_rfl) Try.ntmps110 (by decide) (by decide) mixed tabOK cok_spec_validKeys (by kernel_rfl) ?_
  intro vs kk _ hF
  exact i_spec_validKeys (motive := fun vs => Goes (ev TT cs_spec_validKeys 21 an_spec_validKeys (Try.f110.body.getD .skip) (st0 con_spec_validKeys vs) (fin TT con_spec_validKeys Try.f110.results.toList [.c .sc] vs kk))) hF (fun list0 room1 hF => goes_of (e_spec_validKeys list0 room1 kk) (F_spec_validKeys_S hF))
def con_spec_validGate : Con := ⟨[.rd], true, [.agg [.sc, .sc, .sl .int, .sl .int, .sl .int, .sc]], fun vs k => match vs with
    | [.agg [.v (.int .i64 g0Window), .v (.int .i64 g0Room), .ro .int g0New, .ro .int g0Main, .ro .int g0Sketch, .v (.int .i64 g0Added)]] => F_spec_validGate g0Window g0Room g0New g0Main g0Sketch g0Added (fun r0 => k (.one (.c (.v (.bool r0)))) [])
    | _ => False, false⟩
def cl_spec_validGate : List (FuncId × Con) := [(47, con_spec_inRange), (93, con_spec_copyInts), (110, con_spec_validKeys), (111, con_spec_distinct), (112, con_spec_validSketch)]
def an_spec_validGate : Ann := ⟨[(1, .take 0 (.take 1 (.alt 2 (.take 3 (.take 4 (.take 5 (.alt 6 (.take 7 (.take 8 (.take 9 (.take 10 (.take 11 (.take 12 (.alt 13 (.take 14 (.take 15 (.take 16 (.take 17 (.take 18 (.take 19 (.alt 20 (.take 21 (.take 22 (.take 23 (.take 24 (.take 26 (.take 27 (.alt 25 (.alt 28 (.alt 29 (.take 30 (.take 31 (.take 32 (.take 33 (.alt 34 (.take 35 (.take 36 (.take 37 (.take 38 (.alt 39 (.take 40 (.take 41 (.done))) (.none)))))) (.none)))))) (.none)) (.none)) (.none)))))))) (.none)))))))) (.none)))))))) (.none))))) (.none))), [16])], [], [], []⟩
def cs_spec_validGate : Cons := ⟨cl_spec_validGate, [], 0, [], [], []⟩
def fin_spec_validGate (g0Window : Int) (g0Room : Int) (g0New : List Int) (g0Main : List Int) (g0Sketch : List Int) (g0Added : Int) (kk : AV → List A1 → Prop) : Kt := fin TT con_spec_validGate Try.f66.results.toList [.c .sc] [.agg [.v (.int .i64 g0Window), .v (.int .i64 g0Room), .ro .int g0New, .ro .int g0Main, .ro .int g0Sketch, .v (.int .i64 g0Added)]] kk
theorem g_spec_validGate (g0Window : Int) (g0Room : Int) (g0New : List Int) (g0Main : List Int) (g0Sketch : List Int) (g0Added : Int) (kk : AV → List A1 → Prop) :
    ev TT cs_spec_validGate 44 an_spec_validGate (Try.f66.body.getD .skip) (st0 con_spec_validGate [.agg [.v (.int .i64 g0Window), .v (.int .i64 g0Room), .ro .int g0New, .ro .int g0Main, .ro .int g0Sketch, .v (.int .i64 g0Added)]]) (fin TT con_spec_validGate Try.f66.results.toList [.c .sc] [.agg [.v (.int .i64 g0Window), .v (.int .i64 g0Room), .ro .int g0New, .ro .int g0Main, .ro .int g0Sketch, .v (.int .i64 g0Added)]] kk) = G_spec_validGate g0Window g0Room g0New g0Main g0Sketch g0Added (fun r0 => kk (.one (.c (.v (.bool r0)))) []) := by kernel_rfl
theorem e_spec_validGate (g0Window : Int) (g0Room : Int) (g0New : List Int) (g0Main : List Int) (g0Sketch : List Int) (g0Added : Int) (kk : AV → List A1 → Prop) :
    ev TT cs_spec_validGate 44 an_spec_validGate (Try.f66.body.getD .skip) (st0 con_spec_validGate [.agg [.v (.int .i64 g0Window), .v (.int .i64 g0Room), .ro .int g0New, .ro .int g0Main, .ro .int g0Sketch, .v (.int .i64 g0Added)]]) (fin TT con_spec_validGate Try.f66.results.toList [.c .sc] [.agg [.v (.int .i64 g0Window), .v (.int .i64 g0Room), .ro .int g0New, .ro .int g0Main, .ro .int g0Sketch, .v (.int .i64 g0Added)]] kk) = S_spec_validGate g0Window g0Room g0New g0Main g0Sketch g0Added (fun r0 => kk (.one (.c (.v (.bool r0)))) []) := by
  rw [g_spec_validGate]
  rw [G_spec_validGate_eq]
  rfl
theorem clok_spec_validGate : ConOK Try.prog cl_spec_validGate := consCons h_spec_inRange ⟨Try.f47, Try.func47, by kernel_rfl, ne_of_beq (by kernel_rfl)⟩ (consCons h_spec_copyInts ⟨Try.f93, Try.func93, by kernel_rfl, ne_of_beq (by kernel_rfl)⟩ (consCons h_spec_validKeys ⟨Try.f110, Try.func110, by kernel_rfl, ne_of_beq (by kernel_rfl)⟩ (consCons h_spec_distinct ⟨Try.f111, Try.func111, by kernel_rfl, ne_of_beq (by kernel_rfl)⟩ (consCons h_spec_validSketch ⟨Try.f112, Try.func112, by kernel_rfl, ne_of_beq (by kernel_rfl)⟩ (consNil)))))
theorem cok_spec_validGate : ConsOK Try.prog 44 cs_spec_validGate := ⟨clok_spec_validGate, inlNil, ovNil⟩
theorem i_spec_validGate {vs : List A1} {kk : AV → List A1 → Prop} {motive : List A1 → Prop} (h : con_spec_validGate.F vs kk) (H : ∀ (g0Window : Int) (g0Room : Int) (g0New : List Int) (g0Main : List Int) (g0Sketch : List Int) (g0Added : Int), F_spec_validGate g0Window g0Room g0New g0Main g0Sketch g0Added (fun r0 => kk (.one (.c (.v (.bool r0)))) []) → motive [.agg [.v (.int .i64 g0Window), .v (.int .i64 g0Room), .ro .int g0New, .ro .int g0Main, .ro .int g0Sketch, .v (.int .i64 g0Added)]]) : motive vs := by
  unfold con_spec_validGate at h
  dsimp only at h
  split at h
  · exact H _ _ _ _ _ _ h
  · exact h.elim
theorem h_spec_validGate : Holds Try.prog 66 con_spec_validGate := by
  refine holds_of_ev (rt := [.c .sc]) (T := TT) (Γ := cs_spec_validGate) (an := an_spec_validGate) (N := 44) (c := Try.f66.body.getD .skip) Try.func66 (by kernel_rfl) Try.ntmps66 (by decide) (by decide) mixed tabOK cok_spec_validGate (by kernel_rfl) ?_
  intro vs kk _ hF
  exact i_spec_validGate (motive := fun vs => Goes (ev TT cs_spec_validGate 44 an_spec_validGate (Try.f66.body.getD .skip) (st0 con_spec_validGate vs) (fin TT con_spec_validGate Try.f66.results.toList [.c .sc] vs kk))) hF (fun g0Window g0Room g0New g0Main g0Sketch g0Added hF => goes_of (e_spec_validGate g0Window g0Room g0New g0Main g0Sketch g0Added kk) (F_spec_validGate_S hF))
def con_spec_UseGate : Con := ⟨[.rd, .rd], true, [.agg [.sc, .sc, .sl .int, .sl .int, .sl .int, .sc], .c (.sc)], fun vs k => match vs with
    | [.agg [.v (.int .i64 g0Window), .v (.int .i64 g0Room), .ro .int g0New, .ro .int g0Main, .ro .int g0Sketch, .v (.int .i64 g0Added)], .c (.v (.int .i64 key1))] => F_spec_UseGate g0Window g0Room g0New g0Main g0Sketch g0Added key1 (fun r0 r1 r2 r3 r4 r5 r6 => k (.tup [.agg [.v (.int .i64 r0), .v (.int .i64 r1), .ro .int r2, .ro .int r3, .ro .int r4, .v (.int .i64 r5)], .c (.v (.bool r6))]) [])
    | _ => False, false⟩
def cl_spec_UseGate : List (FuncId × Con) := [(47, con_spec_inRange), (66, con_spec_validGate), (67, con_spec_pass), (68, con_spec_copyGate)]
def an_spec_UseGate : Ann := ⟨[], [], [], []⟩
def cs_spec_UseGate : Cons := ⟨cl_spec_UseGate, [], 0, [], [], []⟩
def fin_spec_UseGate (g0Window : Int) (g0Room : Int) (g0New : List Int) (g0Main : List Int) (g0Sketch : List Int) (g0Added : Int) (key1 : Int) (kk : AV → List A1 → Prop) : Kt := fin TT con_spec_UseGate Try.f23.results.toList [.agg [.sc, .sc, .sl .int, .sl .int, .sl .int, .sc], .c .sc] [.agg [.v (.int .i64 g0Window), .v (.int .i64 g0Room), .ro .int g0New, .ro .int g0Main, .ro .int g0Sketch, .v (.int .i64 g0Added)], .c (.v (.int .i64 key1))] kk
theorem g_spec_UseGate (g0Window : Int) (g0Room : Int) (g0New : List Int) (g0Main : List Int) (g0Sketch : List Int) (g0Added : Int) (key1 : Int) (kk : AV → List A1 → Prop) :
    ev TT cs_spec_UseGate 26 an_spec_UseGate (Try.f23.body.getD .skip) (st0 con_spec_UseGate [.agg [.v (.int .i64 g0Window), .v (.int .i64 g0Room), .ro .int g0New, .ro .int g0Main, .ro .int g0Sketch, .v (.int .i64 g0Added)], .c (.v (.int .i64 key1))]) (fin TT con_spec_UseGate Try.f23.results.toList [.agg [.sc, .sc, .sl .int, .sl .int, .sl .int, .sc], .c .sc] [.agg [.v (.int .i64 g0Window), .v (.int .i64 g0Room), .ro .int g0New, .ro .int g0Main, .ro .int g0Sketch, .v (.int .i64 g0Added)], .c (.v (.int .i64 key1))] kk) = G_spec_UseGate g0Window g0Room g0New g0Main g0Sketch g0Added key1 (fun r0 r1 r2 r3 r4 r5 r6 => kk (.tup [.agg [.v (.int .i64 r0), .v (.int .i64 r1), .ro .int r2, .ro .int r3, .ro .int r4, .v (.int .i64 r5)], .c (.v (.bool r6))]) []) := by kernel_rfl
theorem e_spec_UseGate (g0Window : Int) (g0Room : Int) (g0New : List Int) (g0Main : List Int) (g0Sketch : List Int) (g0Added : Int) (key1 : Int) (kk : AV → List A1 → Prop) :
    ev TT cs_spec_UseGate 26 an_spec_UseGate (Try.f23.body.getD .skip) (st0 con_spec_UseGate [.agg [.v (.int .i64 g0Window), .v (.int .i64 g0Room), .ro .int g0New, .ro .int g0Main, .ro .int g0Sketch, .v (.int .i64 g0Added)], .c (.v (.int .i64 key1))]) (fin TT con_spec_UseGate Try.f23.results.toList [.agg [.sc, .sc, .sl .int, .sl .int, .sl .int, .sc], .c .sc] [.agg [.v (.int .i64 g0Window), .v (.int .i64 g0Room), .ro .int g0New, .ro .int g0Main, .ro .int g0Sketch, .v (.int .i64 g0Added)], .c (.v (.int .i64 key1))] kk) = S_spec_UseGate g0Window g0Room g0New g0Main g0Sketch g0Added key1 (fun r0 r1 r2 r3 r4 r5 r6 => kk (.tup [.agg [.v (.int .i64 r0), .v (.int .i64 r1), .ro .int r2, .ro .int r3, .ro .int r4, .v (.int .i64 r5)], .c (.v (.bool r6))]) []) := by
  rw [g_spec_UseGate]
  rfl
theorem clok_spec_UseGate : ConOK Try.prog cl_spec_UseGate := consCons h_spec_inRange ⟨Try.f47, Try.func47, by kernel_rfl, ne_of_beq (by kernel_rfl)⟩ (consCons h_spec_validGate ⟨Try.f66, Try.func66, by kernel_rfl, ne_of_beq (by kernel_rfl)⟩ (consCons h_spec_pass ⟨Try.f67, Try.func67, by kernel_rfl, ne_of_beq (by kernel_rfl)⟩ (consCons h_spec_copyGate ⟨Try.f68, Try.func68, by kernel_rfl, ne_of_beq (by kernel_rfl)⟩ (consNil))))
theorem cok_spec_UseGate : ConsOK Try.prog 26 cs_spec_UseGate := ⟨clok_spec_UseGate, inlNil, ovNil⟩
theorem i_spec_UseGate {vs : List A1} {kk : AV → List A1 → Prop} {motive : List A1 → Prop} (h : con_spec_UseGate.F vs kk) (H : ∀ (g0Window : Int) (g0Room : Int) (g0New : List Int) (g0Main : List Int) (g0Sketch : List Int) (g0Added : Int) (key1 : Int), F_spec_UseGate g0Window g0Room g0New g0Main g0Sketch g0Added key1 (fun r0 r1 r2 r3 r4 r5 r6 => kk (.tup [.agg [.v (.int .i64 r0), .v (.int .i64 r1), .ro .int r2, .ro .int r3, .ro .int r4, .v (.int .i64 r5)], .c (.v (.bool r6))]) []) → motive [.agg [.v (.int .i64 g0Window), .v (.int .i64 g0Room), .ro .int g0New, .ro .int g0Main, .ro .int g0Sketch, .v (.int .i64 g0Added)], .c (.v (.int .i64 key1))]) : motive vs := by
  unfold con_spec_UseGate at h
  dsimp only at h
  split at h
  · exact H _ _ _ _ _ _ _ h
  · exact h.elim
theorem h_spec_UseGate : Holds Try.prog 23 con_spec_UseGate := by
  refine holds_of_ev (rt := [.agg [.sc, .sc, .sl .int, .sl .int, .sl .int, .sc], .c .sc]) (T := TT) (Γ := cs_spec_UseGate) (an := an_spec_UseGate) (N := 26) (c := Try.f23.body.getD .skip) Try.func23 (by kernel_rfl) Try.ntmps23 (by decide) (by decide) mixed tabOK cok_spec_UseGate (by kernel_rfl) ?_
  intro vs kk _ hF
  exact i_spec_UseGate (motive := fun vs => Goes (ev TT cs_spec_UseGate 26 an_spec_UseGate (Try.f23.body.getD .skip) (st0 con_spec_UseGate vs) (fin TT con_spec_UseGate Try.f23.results.toList [.agg [.sc, .sc, .sl .int, .sl .int, .sl .int, .sc], .c .sc] vs kk))) hF (fun g0Window g0Room g0New g0Main g0Sketch g0Added key1 hF => goes_of (e_spec_UseGate g0Window g0Room g0New g0Main g0Sketch g0Added key1 kk) (F_spec_UseGate_S hF))
def con_laws_equalInts : Con := ⟨[.rd, .rd], true, [.c (.sl .int), .c (.sl .int)], fun vs k => match vs with
    | [.c (.ro .int a0), .c (.ro .int b1)] => F_laws_equalInts a0 b1 (fun r0 => k (.one (.c (.v (.bool r0)))) [])
    | _ => False, false⟩
def cl_laws_equalInts : List (FuncId × Con) := []
def nm0_laws_equalInts : List NStep := [.keep [0, 1, 5] []]
def an_laws_equalInts : Ann := ⟨[(6, .take 0 (.take 1 (.take 2 (.take 3 (.take 4 (.take 5 (.take 6 (.take 7 (.take 8 (.done))))))))), [])], [(4, nm0_laws_equalInts)], [], []⟩
def cs_laws_equalInts : Cons := ⟨cl_laws_equalInts, [], 0, [], [], []⟩
def can0_laws_equalInts (a0 : List Int) (b1 : List Int) (xi5 : Int) : St := ⟨[(0, .one (.c (.ro .int a0))), (1, .one (.c (.ro .int b1))), (5, .one (.c (.v (.int .i64 xi5))))], []⟩
def fin_laws_equalInts (a0 : List Int) (b1 : List Int) (kk : AV → List A1 → Prop) : Kt := fin TT con_laws_equalInts Try.f28.results.toList [.c .sc] [.c (.ro .int a0), .c (.ro .int b1)] kk
def kt0_laws_equalInts (kf : Kt) : Kt := blockK 0 (seqK (evF TT cs_laws_equalInts 26 an_laws_equalInts Try.f28 [1, 1, 1]) (kf))
theorem r0_laws_equalInts (a0 : List Int) (b1 : List Int) (kk : AV → List A1 → Prop) (n : Nat) (xi5 : Int) :
    iter (evF TT cs_laws_equalInts 26 an_laws_equalInts Try.f28 [1, 1, 0, 1, 0, 0]) nm0_laws_equalInts (kt0_laws_equalInts (fin_laws_equalInts a0 b1 kk)) (n + 1) (can0_laws_equalInts a0 b1 xi5) = T0_laws_equalInts a0 b1 xi5 (fun r0 => kk (.one (.c (.v (.bool r0)))) []) (fun xi5 => iter (evF TT cs_laws_equalInts 26 an_laws_equalInts Try.f28 [1, 1, 0, 1, 0, 0]) nm0_laws_equalInts (kt0_laws_equalInts (fin_laws_equalInts a0 b1 kk)) n (can0_laws_equalInts a0 b1 xi5)) := by kernel_rfl
theorem l0_laws_equalInts (a0 : List Int) (b1 : List Int) (kk : AV → List A1 → Prop) : ∀ (n : Nat) (xi5 : Int), iter (evF TT cs_laws_equalInts 26 an_laws_equalInts Try.f28 [1, 1, 0, 1, 0, 0]) nm0_laws_equalInts (kt0_laws_equalInts (fin_laws_equalInts a0 b1 kk)) n (can0_laws_equalInts a0 b1 xi5) = L0_laws_equalInts a0 b1 (fun r0 => kk (.one (.c (.v (.bool r0)))) []) n xi5 := by
  intro n
  induction n with
  | zero => intros; rfl
  | succ n ih =>
    intro xi5
    rw [r0_laws_equalInts a0 b1 kk n xi5]
    have hb : (fun xi5 => iter (evF TT cs_laws_equalInts 26 an_laws_equalInts Try.f28 [1, 1, 0, 1, 0, 0]) nm0_laws_equalInts (kt0_laws_equalInts (fin_laws_equalInts a0 b1 kk)) n (can0_laws_equalInts a0 b1 xi5)) = L0_laws_equalInts a0 b1 (fun r0 => kk (.one (.c (.v (.bool r0)))) []) n := by
      funext xi5; exact ih xi5
    rw [hb]
    rfl
theorem g_laws_equalInts (a0 : List Int) (b1 : List Int) (kk : AV → List A1 → Prop) :
    ev TT cs_laws_equalInts 26 an_laws_equalInts (Try.f28.body.getD .skip) (st0 con_laws_equalInts [.c (.ro .int a0), .c (.ro .int b1)]) (fin TT con_laws_equalInts Try.f28.results.toList [.c .sc] [.c (.ro .int a0), .c (.ro .int b1)] kk) = G_laws_equalInts a0 b1 (fun r0 => kk (.one (.c (.v (.bool r0)))) []) (fun a0 b1 xi5 => ∃ j, iter (evF TT cs_laws_equalInts 26 an_laws_equalInts Try.f28 [1, 1, 0, 1, 0, 0]) nm0_laws_equalInts (kt0_laws_equalInts (fin_laws_equalInts a0 b1 kk)) j (can0_laws_equalInts a0 b1 xi5)) := by kernel_rfl
theorem e_laws_equalInts (a0 : List Int) (b1 : List Int) (kk : AV → List A1 → Prop) :
    ev TT cs_laws_equalInts 26 an_laws_equalInts (Try.f28.body.getD .skip) (st0 con_laws_equalInts [.c (.ro .int a0), .c (.ro .int b1)]) (fin TT con_laws_equalInts Try.f28.results.toList [.c .sc] [.c (.ro .int a0), .c (.ro .int b1)] kk) = S_laws_equalInts a0 b1 (fun r0 => kk (.one (.c (.v (.bool r0)))) []) := by
  rw [g_laws_equalInts]
  have hi0 : (fun a0 b1 xi5 => ∃ j, iter (evF TT cs_laws_equalInts 26 an_laws_equalInts Try.f28 [1, 1, 0, 1, 0, 0]) nm0_laws_equalInts (kt0_laws_equalInts (fin_laws_equalInts a0 b1 kk)) j (can0_laws_equalInts a0 b1 xi5)) = (fun a0 b1 xi5 => ∃ j, L0_laws_equalInts a0 b1 (fun r0 => kk (.one (.c (.v (.bool r0)))) []) j xi5) := by
    funext a0 b1 xi5
    refine congrArg Exists (funext fun j => ?_)
    rw [l0_laws_equalInts a0 b1 kk j xi5]
  rw [hi0]
  rfl
theorem clok_laws_equalInts : ConOK Try.prog cl_laws_equalInts := consNil
theorem cok_laws_equalInts : ConsOK Try.prog 26 cs_laws_equalInts := ⟨clok_laws_equalInts, inlNil, ovNil⟩
theorem i_laws_equalInts {vs : List A1} {kk : AV → List A1 → Prop} {motive : List A1 → Prop} (h : con_laws_equalInts.F vs kk) (H : ∀ (a0 : List Int) (b1 : List Int), F_laws_equalInts a0 b1 (fun r0 => kk (.one (.c (.v (.bool r0)))) []) → motive [.c (.ro .int a0), .c (.ro .int b1)]) : motive vs := by
  unfold con_laws_equalInts at h
  dsimp only at h
  split at h
  · exact H _ _ h
  · exact h.elim
theorem h_laws_equalInts : Holds Try.prog 28 con_laws_equalInts := by
  refine holds_of_ev (rt := [.c .sc]) (T := TT) (Γ := cs_laws_equalInts) (an := an_laws_equalInts) (N := 26) (c := Try.f28.body.getD .skip) Try.func28 (by kernel_rfl) Try.ntmps28 (by decide) (by decide) mixed tabOK cok_laws_equalInts (by kernel_rfl) ?_
  intro vs kk _ hF
  exact i_laws_equalInts (motive := fun vs => Goes (ev TT cs_laws_equalInts 26 an_laws_equalInts (Try.f28.body.getD .skip) (st0 con_laws_equalInts vs) (fin TT con_laws_equalInts Try.f28.results.toList [.c .sc] vs kk))) hF (fun a0 b1 hF => goes_of (e_laws_equalInts a0 b1 kk) (F_laws_equalInts_S hF))
def con_laws_equalGate : Con := ⟨[.rd, .rd], true, [.agg [.sc, .sc, .sl .int, .sl .int, .sl .int, .sc], .agg [.sc, .sc, .sl .int, .sl .int, .sl .int, .sc]], fun vs k => match vs with
    | [.agg [.v (.int .i64 a0Window), .v (.int .i64 a0Room), .ro .int a0New, .ro .int a0Main, .ro .int a0Sketch, .v (.int .i64 a0Added)], .agg [.v (.int .i64 b1Window), .v (.int .i64 b1Room), .ro .int b1New, .ro .int b1Main, .ro .int b1Sketch, .v (.int .i64 b1Added)]] => F_laws_equalGate a0Window a0Room a0New a0Main a0Sketch a0Added b1Window b1Room b1New b1Main b1Sketch b1Added (fun r0 => k (.one (.c (.v (.bool r0)))) [])
    | _ => False, false⟩
def cl_laws_equalGate : List (FuncId × Con) := [(28, con_laws_equalInts)]
def an_laws_equalGate : Ann := ⟨[], [], [], []⟩
def cs_laws_equalGate : Cons := ⟨cl_laws_equalGate, [], 0, [], [], []⟩
def fin_laws_equalGate (a0Window : Int) (a0Room : Int) (a0New : List Int) (a0Main : List Int) (a0Sketch : List Int) (a0Added : Int) (b1Window : Int) (b1Room : Int) (b1New : List Int) (b1Main : List Int) (b1Sketch : List Int) (b1Added : Int) (kk : AV → List A1 → Prop) : Kt := fin TT con_laws_equalGate Try.f24.results.toList [.c .sc] [.agg [.v (.int .i64 a0Window), .v (.int .i64 a0Room), .ro .int a0New, .ro .int a0Main, .ro .int a0Sketch, .v (.int .i64 a0Added)], .agg [.v (.int .i64 b1Window), .v (.int .i64 b1Room), .ro .int b1New, .ro .int b1Main, .ro .int b1Sketch, .v (.int .i64 b1Added)]] kk
theorem g_laws_equalGate (a0Window : Int) (a0Room : Int) (a0New : List Int) (a0Main : List Int) (a0Sketch : List Int) (a0Added : Int) (b1Window : Int) (b1Room : Int) (b1New : List Int) (b1Main : List Int) (b1Sketch : List Int) (b1Added : Int) (kk : AV → List A1 → Prop) :
    ev TT cs_laws_equalGate 45 an_laws_equalGate (Try.f24.body.getD .skip) (st0 con_laws_equalGate [.agg [.v (.int .i64 a0Window), .v (.int .i64 a0Room), .ro .int a0New, .ro .int a0Main, .ro .int a0Sketch, .v (.int .i64 a0Added)], .agg [.v (.int .i64 b1Window), .v (.int .i64 b1Room), .ro .int b1New, .ro .int b1Main, .ro .int b1Sketch, .v (.int .i64 b1Added)]]) (fin TT con_laws_equalGate Try.f24.results.toList [.c .sc] [.agg [.v (.int .i64 a0Window), .v (.int .i64 a0Room), .ro .int a0New, .ro .int a0Main, .ro .int a0Sketch, .v (.int .i64 a0Added)], .agg [.v (.int .i64 b1Window), .v (.int .i64 b1Room), .ro .int b1New, .ro .int b1Main, .ro .int b1Sketch, .v (.int .i64 b1Added)]] kk) = G_laws_equalGate a0Window a0Room a0New a0Main a0Sketch a0Added b1Window b1Room b1New b1Main b1Sketch b1Added (fun r0 => kk (.one (.c (.v (.bool r0)))) []) := by kernel_rfl
theorem e_laws_equalGate (a0Window : Int) (a0Room : Int) (a0New : List Int) (a0Main : List Int) (a0Sketch : List Int) (a0Added : Int) (b1Window : Int) (b1Room : Int) (b1New : List Int) (b1Main : List Int) (b1Sketch : List Int) (b1Added : Int) (kk : AV → List A1 → Prop) :
    ev TT cs_laws_equalGate 45 an_laws_equalGate (Try.f24.body.getD .skip) (st0 con_laws_equalGate [.agg [.v (.int .i64 a0Window), .v (.int .i64 a0Room), .ro .int a0New, .ro .int a0Main, .ro .int a0Sketch, .v (.int .i64 a0Added)], .agg [.v (.int .i64 b1Window), .v (.int .i64 b1Room), .ro .int b1New, .ro .int b1Main, .ro .int b1Sketch, .v (.int .i64 b1Added)]]) (fin TT con_laws_equalGate Try.f24.results.toList [.c .sc] [.agg [.v (.int .i64 a0Window), .v (.int .i64 a0Room), .ro .int a0New, .ro .int a0Main, .ro .int a0Sketch, .v (.int .i64 a0Added)], .agg [.v (.int .i64 b1Window), .v (.int .i64 b1Room), .ro .int b1New, .ro .int b1Main, .ro .int b1Sketch, .v (.int .i64 b1Added)]] kk) = S_laws_equalGate a0Window a0Room a0New a0Main a0Sketch a0Added b1Window b1Room b1New b1Main b1Sketch b1Added (fun r0 => kk (.one (.c (.v (.bool r0)))) []) := by
  rw [g_laws_equalGate]
  rfl
theorem clok_laws_equalGate : ConOK Try.prog cl_laws_equalGate := consCons h_laws_equalInts ⟨Try.f28, Try.func28, by kernel_rfl, ne_of_beq (by kernel_rfl)⟩ (consNil)
theorem cok_laws_equalGate : ConsOK Try.prog 45 cs_laws_equalGate := ⟨clok_laws_equalGate, inlNil, ovNil⟩
theorem i_laws_equalGate {vs : List A1} {kk : AV → List A1 → Prop} {motive : List A1 → Prop} (h : con_laws_equalGate.F vs kk) (H : ∀ (a0Window : Int) (a0Room : Int) (a0New : List Int) (a0Main : List Int) (a0Sketch : List Int) (a0Added : Int) (b1Window : Int) (b1Room : Int) (b1New : List Int) (b1Main : List Int) (b1Sketch : List Int) (b1Added : Int), F_laws_equalGate a0Window a0Room a0New a0Main a0Sketch a0Added b1Window b1Room b1New b1Main b1Sketch b1Added (fun r0 => kk (.one (.c (.v (.bool r0)))) []) → motive [.agg [.v (.int .i64 a0Window), .v (.int .i64 a0Room), .ro .int a0New, .ro .int a0Main, .ro .int a0Sketch, .v (.int .i64 a0Added)], .agg [.v (.int .i64 b1Window), .v (.int .i64 b1Room), .ro .int b1New, .ro .int b1Main, .ro .int b1Sketch, .v (.int .i64 b1Added)]]) : motive vs := by
  unfold con_laws_equalGate at h
  dsimp only at h
  split at h
  · exact H _ _ _ _ _ _ _ _ _ _ _ _ h
  · exact h.elim
theorem h_laws_equalGate : Holds Try.prog 24 con_laws_equalGate := by
  refine holds_of_ev (rt := [.c .sc]) (T := TT) (Γ := cs_laws_equalGate) (an := an_laws_equalGate) (N := 45) (c := Try.f24.body.getD .skip) Try.func24 (by kernel_rfl) Try.ntmps24 (by decide) (by decide) mixed tabOK cok_laws_equalGate (by kernel_rfl) ?_
  intro vs kk _ hF
  exact i_laws_equalGate (motive := fun vs => Goes (ev TT cs_laws_equalGate 45 an_laws_equalGate (Try.f24.body.getD .skip) (st0 con_laws_equalGate vs) (fin TT con_laws_equalGate Try.f24.results.toList [.c .sc] vs kk))) hF (fun a0Window a0Room a0New a0Main a0Sketch a0Added b1Window b1Room b1New b1Main b1Sketch b1Added hF => goes_of (e_laws_equalGate a0Window a0Room a0New a0Main a0Sketch a0Added b1Window b1Room b1New b1Main b1Sketch b1Added kk) (F_laws_equalGate_S hF))
def con_laws_FnUseGateSketch : Con := ⟨[.rd], true, [.c (.sl .u8)], fun vs k => match vs with
    | [.c (.ro .u8 code0)] => F_laws_FnUseGateSketch code0 (fun r0 => k (.one (.c (.v (.bool r0)))) [])
    | _ => False, false⟩
def cl_laws_FnUseGateSketch : List (FuncId × Con) := [(21, con_spec_DrawUseGate), (22, con_impl_UseGate), (23, con_spec_UseGate), (24, con_laws_equalGate), (27, con_impl_AddKey), (28, con_laws_equalInts), (29, con_impl_HalveSketch)]
def an_laws_FnUseGateSketch : Ann := ⟨[(10, .take 0 (.take 1 (.take 2 (.take 3 (.take 4 (.take 5 (.take 6 (.alt 7 (.alt 8 (.take 9 (.take 10 (.done))) (.none)) (.none)))))))), [80])], [], [], []⟩
def cs_laws_FnUseGateSketch : Cons := ⟨cl_laws_FnUseGateSketch, [], 0, [], [], []⟩
def fin_laws_FnUseGateSketch (code0 : List Int) (kk : AV → List A1 → Prop) : Kt := fin TT con_laws_FnUseGateSketch Try.f5.results.toList [.c .sc] [.c (.ro .u8 code0)] kk
theorem g_laws_FnUseGateSketch (code0 : List Int) (kk : AV → List A1 → Prop) :
    ev TT cs_laws_FnUseGateSketch 82 an_laws_FnUseGateSketch (Try.f5.body.getD .skip) (st0 con_laws_FnUseGateSketch [.c (.ro .u8 code0)]) (fin TT con_laws_FnUseGateSketch Try.f5.results.toList [.c .sc] [.c (.ro .u8 code0)] kk) = G_laws_FnUseGateSketch code0 (fun r0 => kk (.one (.c (.v (.bool r0)))) []) := by kernel_rfl
theorem e_laws_FnUseGateSketch (code0 : List Int) (kk : AV → List A1 → Prop) :
    ev TT cs_laws_FnUseGateSketch 82 an_laws_FnUseGateSketch (Try.f5.body.getD .skip) (st0 con_laws_FnUseGateSketch [.c (.ro .u8 code0)]) (fin TT con_laws_FnUseGateSketch Try.f5.results.toList [.c .sc] [.c (.ro .u8 code0)] kk) = S_laws_FnUseGateSketch code0 (fun r0 => kk (.one (.c (.v (.bool r0)))) []) := by
  rw [g_laws_FnUseGateSketch]
  rw [G_laws_FnUseGateSketch_eq]
  rfl
theorem clok_laws_FnUseGateSketch : ConOK Try.prog cl_laws_FnUseGateSketch := consCons h_spec_DrawUseGate ⟨Try.f21, Try.func21, by kernel_rfl, ne_of_beq (by kernel_rfl)⟩ (consCons h_impl_UseGate ⟨Try.f22, Try.func22, by kernel_rfl, ne_of_beq (by kernel_rfl)⟩ (consCons h_spec_UseGate ⟨Try.f23, Try.func23, by kernel_rfl, ne_of_beq (by kernel_rfl)⟩ (consCons h_laws_equalGate ⟨Try.f24, Try.func24, by kernel_rfl, ne_of_beq (by kernel_rfl)⟩ (consCons h_impl_AddKey ⟨Try.f27, Try.func27, by kernel_rfl, ne_of_beq (by kernel_rfl)⟩ (consCons h_laws_equalInts ⟨Try.f28, Try.func28, by kernel_rfl, ne_of_beq (by kernel_rfl)⟩ (consCons h_impl_HalveSketch ⟨Try.f29, Try.func29, by kernel_rfl, ne_of_beq (by kernel_rfl)⟩ (consNil)))))))
theorem cok_laws_FnUseGateSketch : ConsOK Try.prog 82 cs_laws_FnUseGateSketch := ⟨clok_laws_FnUseGateSketch, inlNil, ovNil⟩
theorem i_laws_FnUseGateSketch {vs : List A1} {kk : AV → List A1 → Prop} {motive : List A1 → Prop} (h : con_laws_FnUseGateSketch.F vs kk) (H : ∀ (code0 : List Int), F_laws_FnUseGateSketch code0 (fun r0 => kk (.one (.c (.v (.bool r0)))) []) → motive [.c (.ro .u8 code0)]) : motive vs := by
  unfold con_laws_FnUseGateSketch at h
  dsimp only at h
  split at h
  · exact H _ h
  · exact h.elim
theorem h_laws_FnUseGateSketch : Holds Try.prog 5 con_laws_FnUseGateSketch := by
  refine holds_of_ev (rt := [.c .sc]) (T := TT) (Γ := cs_laws_FnUseGateSketch) (an := an_laws_FnUseGateSketch) (N := 82) (c := Try.f5.body.getD .skip) Try.func5 (by kernel_rfl) Try.ntmps5 (by decide) (by decide) mixed tabOK cok_laws_FnUseGateSketch (by kernel_rfl) ?_
  intro vs kk _ hF
  exact i_laws_FnUseGateSketch (motive := fun vs => Goes (ev TT cs_laws_FnUseGateSketch 82 an_laws_FnUseGateSketch (Try.f5.body.getD .skip) (st0 con_laws_FnUseGateSketch vs) (fin TT con_laws_FnUseGateSketch Try.f5.results.toList [.c .sc] vs kk))) hF (fun code0 hF => goes_of (e_laws_FnUseGateSketch code0 kk) (F_laws_FnUseGateSketch_S hF))
end Go.Ev
