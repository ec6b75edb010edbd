/- What the evaluator gives for these functions: their contracts. No statement is proved here. -/
import Derived.Test.YtnkmhjdenddpbabFnPrefersAddP0
import Derived.Test.YtnkmhjdenddpbabTt
namespace Go.Ev
set_option linter.unusedVariables false
set_option maxRecDepth 100000
open Go Go.Proofs
def con_spec_newReader : Con := ⟨[.rd], true, [.c (.sl .u8)], fun vs k => match vs with
    | [.c (.ro .u8 code0)] => F_spec_newReader code0 (fun r0 r1 => k (.one (.agg [.ro .u8 r0, .v (.int .i64 r1)])) [])
    | _ => False, true⟩
def cl_spec_newReader : List (FuncId × Con) := []
def an_spec_newReader : Ann := ⟨[], [], []⟩
def cs_spec_newReader : Cons := ⟨cl_spec_newReader, [], 0, [], []⟩
def fin_spec_newReader (code0 : List Int) (kk : AV → List A1 → Prop) : Kt := finB Try.f49.results.toList [.sl .u8, .sc] kk
theorem g_spec_newReader (code0 : List Int) (kk : AV → List A1 → Prop) :
    ev TT cs_spec_newReader 11 an_spec_newReader (Try.f49.body.getD .skip) (st0 con_spec_newReader [.c (.ro .u8 code0)]) (finB Try.f49.results.toList [.sl .u8, .sc] kk) = G_spec_newReader code0 (fun r0 r1 => kk (.one (.agg [.ro .u8 r0, .v (.int .i64 r1)])) []) := by kernel_rfl
theorem e_spec_newReader (code0 : List Int) (kk : AV → List A1 → Prop) :
    ev TT cs_spec_newReader 11 an_spec_newReader (Try.f49.body.getD .skip) (st0 con_spec_newReader [.c (.ro .u8 code0)]) (finB Try.f49.results.toList [.sl .u8, .sc] kk) = S_spec_newReader code0 (fun r0 r1 => kk (.one (.agg [.ro .u8 r0, .v (.int .i64 r1)])) []) := by
  rw [g_spec_newReader]
  rfl
theorem clok_spec_newReader : ConOK Try.prog cl_spec_newReader := consNil
theorem cok_spec_newReader : ConsOK Try.prog 11 cs_spec_newReader := ⟨clok_spec_newReader, inlNil⟩
theorem i_spec_newReader {vs : List A1} {kk : AV → List A1 → Prop} {motive : List A1 → Prop} (h : con_spec_newReader.F vs kk) (H : ∀ (code0 : List Int), F_spec_newReader code0 (fun r0 r1 => kk (.one (.agg [.ro .u8 r0, .v (.int .i64 r1)])) []) → motive [.c (.ro .u8 code0)]) : motive vs := by
  unfold con_spec_newReader at h
  dsimp only at h
  split at h
  · exact H _ h
  · exact h.elim
theorem h_spec_newReader : HoldsB Try.prog 49 con_spec_newReader := by
  refine holdsB_of_ev (ts := [.sl .u8, .sc]) (T := TT) (Γ := cs_spec_newReader) (an := an_spec_newReader) (N := 11) (c := Try.f49.body.getD .skip) Try.func49 (by kernel_rfl) Try.ntmps49 (by decide) (by decide) mixed tabOK cok_spec_newReader (by kernel_rfl) ?_
  intro vs kk _ hF
  exact i_spec_newReader (motive := fun vs => Goes (ev TT cs_spec_newReader 11 an_spec_newReader (Try.f49.body.getD .skip) (st0 con_spec_newReader vs) (finB Try.f49.results.toList [.sl .u8, .sc] kk))) hF (fun code0 hF => goes_of (e_spec_newReader code0 kk) (F_spec_newReader_S hF))
def con_spec_EmptySketch : Con := ⟨[], true, [], fun vs k => match vs with
    | [] => F_spec_EmptySketch (fun r0 => k (.one (.c (.ro .int r0))) [])
    | _ => False, false⟩
def cl_spec_EmptySketch : List (FuncId × Con) := []
def an_spec_EmptySketch : Ann := ⟨[], [], []⟩
def cs_spec_EmptySketch : Cons := ⟨cl_spec_EmptySketch, [], 0, [], []⟩
def fin_spec_EmptySketch (kk : AV → List A1 → Prop) : Kt := fin TT con_spec_EmptySketch Try.f65.results.toList [.c (.sl .int)] [] kk
theorem g_spec_EmptySketch (kk : AV → List A1 → Prop) :
    ev TT cs_spec_EmptySketch 2 an_spec_EmptySketch (Try.f65.body.getD .skip) (st0 con_spec_EmptySketch []) (fin TT con_spec_EmptySketch Try.f65.results.toList [.c (.sl .int)] [] kk) = G_spec_EmptySketch (fun r0 => kk (.one (.c (.ro .int r0))) []) := by kernel_rfl
theorem e_spec_EmptySketch (kk : AV → List A1 → Prop) :
    ev TT cs_spec_EmptySketch 2 an_spec_EmptySketch (Try.f65.body.getD .skip) (st0 con_spec_EmptySketch []) (fin TT con_spec_EmptySketch Try.f65.results.toList [.c (.sl .int)] [] kk) = S_spec_EmptySketch (fun r0 => kk (.one (.c (.ro .int r0))) []) := by
  rw [g_spec_EmptySketch]
  rfl
theorem clok_spec_EmptySketch : ConOK Try.prog cl_spec_EmptySketch := consNil
theorem cok_spec_EmptySketch : ConsOK Try.prog 2 cs_spec_EmptySketch := ⟨clok_spec_EmptySketch, inlNil⟩
theorem i_spec_EmptySketch {vs : List A1} {kk : AV → List A1 → Prop} {motive : List A1 → Prop} (h : con_spec_EmptySketch.F vs kk) (H : F_spec_EmptySketch (fun r0 => kk (.one (.c (.ro .int r0))) []) → motive []) : motive vs := by
  unfold con_spec_EmptySketch at h
  dsimp only at h
  split at h
  · exact H h
  · exact h.elim
theorem h_spec_EmptySketch : Holds Try.prog 65 con_spec_EmptySketch := by
  refine holds_of_ev (rt := [.c (.sl .int)]) (T := TT) (Γ := cs_spec_EmptySketch) (an := an_spec_EmptySketch) (N := 2) (c := Try.f65.body.getD .skip) Try.func65 (by kernel_rfl) Try.ntmps65 (by decide) (by decide) mixed tabOK cok_spec_EmptySketch (by kernel_rfl) ?_
  intro vs kk _ hF
  exact i_spec_EmptySketch (motive := fun vs => Goes (ev TT cs_spec_EmptySketch 2 an_spec_EmptySketch (Try.f65.body.getD .skip) (st0 con_spec_EmptySketch vs) (fin TT con_spec_EmptySketch Try.f65.results.toList [.c (.sl .int)] vs kk))) hF (fun hF => goes_of (e_spec_EmptySketch kk) (F_spec_EmptySketch_S hF))
def con_spec_reader_pick : Con := ⟨[.mu, .rd], true, [.ptr [.sl .u8, .sc], .c (.sc)], fun vs k => match vs with
    | [.ptr [.ro .u8 r0b, .v (.int .i64 r0p)], .c (.v (.int .i64 n1))] => F_spec_reader_pick r0b r0p n1 (fun r0 r1 r2 => k (.one (.c (.v (.int .i64 r0)))) [.ptr [.ro .u8 r1, .v (.int .i64 r2)]])
    | _ => False, false⟩
def cl_spec_reader_pick : List (FuncId × Con) := []
def an_spec_reader_pick : Ann := ⟨[(7, .take 0 (.take 1 (.take 2 (.take 3 (.take 4 (.take 5 (.take 6 (.take 7 (.take 8 (.take 9 (.take 10 (.take 11 (.take 12 (.take 13 (.take 14 (.take 15 (.take 16 (.take 17 (.take 18 (.take 19 (.take 20 (.take 21 (.take 22 (.take 23 (.take 24 (.take 25 (.take 26 (.take 27 (.take 28 (.take 29 (.take 30 (.take 31 (.take 32 (.take 33 (.take 34 (.take 35 (.take 36 (.take 37 (.take 38 (.take 39 (.take 40 (.take 41 (.take 42 (.take 43 (.take 44 (.take 45 (.done)))))))))))))))))))))))))))))))))))))))))))))), [100000])], [], []⟩
def cs_spec_reader_pick : Cons := ⟨cl_spec_reader_pick, [], 0, [], []⟩
def fin_spec_reader_pick (r0b : List Int) (r0p : Int) (n1 : Int) (kk : AV → List A1 → Prop) : Kt := fin TT con_spec_reader_pick Try.f88.results.toList [.c .sc] [.ptr [.ro .u8 r0b, .v (.int .i64 r0p)], .c (.v (.int .i64 n1))] kk
theorem g_spec_reader_pick (r0b : List Int) (r0p : Int) (n1 : Int) (kk : AV → List A1 → Prop) :
    ev TT cs_spec_reader_pick 99 an_spec_reader_pick (Try.f88.body.getD .skip) (st0 con_spec_reader_pick [.ptr [.ro .u8 r0b, .v (.int .i64 r0p)], .c (.v (.int .i64 n1))]) (fin TT con_spec_reader_pick Try.f88.results.toList [.c .sc] [.ptr [.ro .u8 r0b, .v (.int .i64 r0p)], .c (.v (.int .i64 n1))] kk) = G_spec_reader_pick r0b r0p n1 (fun r0 r1 r2 => kk (.one (.c (.v (.int .i64 r0)))) [.ptr [.ro .u8 r1, .v (.int .i64 r2)]]) := by kernel_rfl
theorem e_spec_reader_pick (r0b : List Int) (r0p : Int) (n1 : Int) (kk : AV → List A1 → Prop) :
    ev TT cs_spec_reader_pick 99 an_spec_reader_pick (Try.f88.body.getD .skip) (st0 con_spec_reader_pick [.ptr [.ro .u8 r0b, .v (.int .i64 r0p)], .c (.v (.int .i64 n1))]) (fin TT con_spec_reader_pick Try.f88.results.toList [.c .sc] [.ptr [.ro .u8 r0b, .v (.int .i64 r0p)], .c (.v (.int .i64 n1))] kk) = S_spec_reader_pick r0b r0p n1 (fun r0 r1 r2 => kk (.one (.c (.v (.int .i64 r0)))) [.ptr [.ro .u8 r1, .v (.int .i64 r2)]]) := by
  rw [g_spec_reader_pick]
  rfl
theorem clok_spec_reader_pick : ConOK Try.prog cl_spec_reader_pick := consNil
theorem cok_spec_reader_pick : ConsOK Try.prog 99 cs_spec_reader_pick := ⟨clok_spec_reader_pick, inlNil⟩
theorem i_spec_reader_pick {vs : List A1} {kk : AV → List A1 → Prop} {motive : List A1 → Prop} (h : con_spec_reader_pick.F vs kk) (H : ∀ (r0b : List Int) (r0p : Int) (n1 : Int), F_spec_reader_pick r0b r0p n1 (fun r0 r1 r2 => kk (.one (.c (.v (.int .i64 r0)))) [.ptr [.ro .u8 r1, .v (.int .i64 r2)]]) → motive [.ptr [.ro .u8 r0b, .v (.int .i64 r0p)], .c (.v (.int .i64 n1))]) : motive vs := by
  unfold con_spec_reader_pick at h
  dsimp only at h
  split at h
  · exact H _ _ _ h
  · exact h.elim
theorem h_spec_reader_pick : Holds Try.prog 88 con_spec_reader_pick := by
  refine holds_of_ev (rt := [.c .sc]) (T := TT) (Γ := cs_spec_reader_pick) (an := an_spec_reader_pick) (N := 99) (c := Try.f88.body.getD .skip) Try.func88 (by kernel_rfl) Try.ntmps88 (by decide) (by decide) mixed tabOK cok_spec_reader_pick (by kernel_rfl) ?_
  intro vs kk _ hF
  exact i_spec_reader_pick (motive := fun vs => Goes (ev TT cs_spec_reader_pick 99 an_spec_reader_pick (Try.f88.body.getD .skip) (st0 con_spec_reader_pick vs) (fin TT con_spec_reader_pick Try.f88.results.toList [.c .sc] vs kk))) hF (fun r0b r0p n1 hF => goes_of (e_spec_reader_pick r0b r0p n1 kk) (F_spec_reader_pick_S hF))
def con_spec_reader_one : Con := ⟨[.mu, .rd], true, [.ptr [.sl .u8, .sc], .c (.sl .int)], fun vs k => match vs with
    | [.ptr [.ro .u8 r0b, .v (.int .i64 r0p)], .c (.ro .int list1)] => F_spec_reader_one r0b r0p list1 (fun r0 r1 r2 => k (.one (.c (.v (.int .i64 r0)))) [.ptr [.ro .u8 r1, .v (.int .i64 r2)]])
    | _ => False, false⟩
def cl_spec_reader_one : List (FuncId × Con) := [(88, con_spec_reader_pick)]
def an_spec_reader_one : Ann := ⟨[], [], []⟩
def cs_spec_reader_one : Cons := ⟨cl_spec_reader_one, [], 0, [], []⟩
def fin_spec_reader_one (r0b : List Int) (r0p : Int) (list1 : List Int) (kk : AV → List A1 → Prop) : Kt := fin TT con_spec_reader_one Try.f86.results.toList [.c .sc] [.ptr [.ro .u8 r0b, .v (.int .i64 r0p)], .c (.ro .int list1)] kk
theorem g_spec_reader_one (r0b : List Int) (r0p : Int) (list1 : List Int) (kk : AV → List A1 → Prop) :
    ev TT cs_spec_reader_one 12 an_spec_reader_one (Try.f86.body.getD .skip) (st0 con_spec_reader_one [.ptr [.ro .u8 r0b, .v (.int .i64 r0p)], .c (.ro .int list1)]) (fin TT con_spec_reader_one Try.f86.results.toList [.c .sc] [.ptr [.ro .u8 r0b, .v (.int .i64 r0p)], .c (.ro .int list1)] kk) = G_spec_reader_one r0b r0p list1 (fun r0 r1 r2 => kk (.one (.c (.v (.int .i64 r0)))) [.ptr [.ro .u8 r1, .v (.int .i64 r2)]]) := by kernel_rfl
theorem e_spec_reader_one (r0b : List Int) (r0p : Int) (list1 : List Int) (kk : AV → List A1 → Prop) :
    ev TT cs_spec_reader_one 12 an_spec_reader_one (Try.f86.body.getD .skip) (st0 con_spec_reader_one [.ptr [.ro .u8 r0b, .v (.int .i64 r0p)], .c (.ro .int list1)]) (fin TT con_spec_reader_one Try.f86.results.toList [.c .sc] [.ptr [.ro .u8 r0b, .v (.int .i64 r0p)], .c (.ro .int list1)] kk) = S_spec_reader_one r0b r0p list1 (fun r0 r1 r2 => kk (.one (.c (.v (.int .i64 r0)))) [.ptr [.ro .u8 r1, .v (.int .i64 r2)]]) := by
  rw [g_spec_reader_one]
  rfl
theorem clok_spec_reader_one : ConOK Try.prog cl_spec_reader_one := consCons h_spec_reader_pick ⟨Try.f88, Try.func88, by kernel_rfl, ne_of_beq (by kernel_rfl)⟩ (consNil)
theorem cok_spec_reader_one : ConsOK Try.prog 12 cs_spec_reader_one := ⟨clok_spec_reader_one, inlNil⟩
theorem i_spec_reader_one {vs : List A1} {kk : AV → List A1 → Prop} {motive : List A1 → Prop} (h : con_spec_reader_one.F vs kk) (H : ∀ (r0b : List Int) (r0p : Int) (list1 : List Int), F_spec_reader_one r0b r0p list1 (fun r0 r1 r2 => kk (.one (.c (.v (.int .i64 r0)))) [.ptr [.ro .u8 r1, .v (.int .i64 r2)]]) → motive [.ptr [.ro .u8 r0b, .v (.int .i64 r0p)], .c (.ro .int list1)]) : motive vs := by
  unfold con_spec_reader_one at h
  dsimp only at h
  split at h
  · exact H _ _ _ h
  · exact h.elim
theorem h_spec_reader_one : Holds Try.prog 86 con_spec_reader_one := by
  refine holds_of_ev (rt := [.c .sc]) (T := TT) (Γ := cs_spec_reader_one) (an := an_spec_reader_one) (N := 12) (c := Try.f86.body.getD .skip) Try.func86 (by kernel_rfl) Try.ntmps86 (by decide) (by decide) mixed tabOK cok_spec_reader_one (by kernel_rfl) ?_
  intro vs kk _ hF
  exact i_spec_reader_one (motive := fun vs => Goes (ev TT cs_spec_reader_one 12 an_spec_reader_one (Try.f86.body.getD .skip) (st0 con_spec_reader_one vs) (fin TT con_spec_reader_one Try.f86.results.toList [.c .sc] vs kk))) hF (fun r0b r0p list1 hF => goes_of (e_spec_reader_one r0b r0p list1 kk) (F_spec_reader_one_S hF))
def con_spec_copyInts : Con := ⟨[.rd], true, [.c (.sl .int)], fun vs k => match vs with
    | [.c (.ro .int list0)] => F_spec_copyInts list0 (fun r0 => k (.one (.c (.ro .int r0))) [])
    | _ => False, false⟩
def cl_spec_copyInts : List (FuncId × Con) := []
def an_spec_copyInts : Ann := ⟨[], [], []⟩
def cs_spec_copyInts : Cons := ⟨cl_spec_copyInts, [], 0, [], []⟩
def fin_spec_copyInts (list0 : List Int) (kk : AV → List A1 → Prop) : Kt := fin TT con_spec_copyInts Try.f101.results.toList [.c (.sl .int)] [.c (.ro .int list0)] kk
theorem g_spec_copyInts (list0 : List Int) (kk : AV → List A1 → Prop) :
    ev TT cs_spec_copyInts 6 an_spec_copyInts (Try.f101.body.getD .skip) (st0 con_spec_copyInts [.c (.ro .int list0)]) (fin TT con_spec_copyInts Try.f101.results.toList [.c (.sl .int)] [.c (.ro .int list0)] kk) = G_spec_copyInts list0 (fun r0 => kk (.one (.c (.ro .int r0))) []) := by kernel_rfl
theorem e_spec_copyInts (list0 : List Int) (kk : AV → List A1 → Prop) :
    ev TT cs_spec_copyInts 6 an_spec_copyInts (Try.f101.body.getD .skip) (st0 con_spec_copyInts [.c (.ro .int list0)]) (fin TT con_spec_copyInts Try.f101.results.toList [.c (.sl .int)] [.c (.ro .int list0)] kk) = S_spec_copyInts list0 (fun r0 => kk (.one (.c (.ro .int r0))) []) := by
  rw [g_spec_copyInts]
  rfl
theorem clok_spec_copyInts : ConOK Try.prog cl_spec_copyInts := consNil
theorem cok_spec_copyInts : ConsOK Try.prog 6 cs_spec_copyInts := ⟨clok_spec_copyInts, inlNil⟩
theorem i_spec_copyInts {vs : List A1} {kk : AV → List A1 → Prop} {motive : List A1 → Prop} (h : con_spec_copyInts.F vs kk) (H : ∀ (list0 : List Int), F_spec_copyInts list0 (fun r0 => kk (.one (.c (.ro .int r0))) []) → motive [.c (.ro .int list0)]) : motive vs := by
  unfold con_spec_copyInts at h
  dsimp only at h
  split at h
  · exact H _ h
  · exact h.elim
theorem h_spec_copyInts : Holds Try.prog 101 con_spec_copyInts := by
  refine holds_of_ev (rt := [.c (.sl .int)]) (T := TT) (Γ := cs_spec_copyInts) (an := an_spec_copyInts) (N := 6) (c := Try.f101.body.getD .skip) Try.func101 (by kernel_rfl) Try.ntmps101 (by decide) (by decide) mixed tabOK cok_spec_copyInts (by kernel_rfl) ?_
  intro vs kk _ hF
  exact i_spec_copyInts (motive := fun vs => Goes (ev TT cs_spec_copyInts 6 an_spec_copyInts (Try.f101.body.getD .skip) (st0 con_spec_copyInts vs) (fin TT con_spec_copyInts Try.f101.results.toList [.c (.sl .int)] vs kk))) hF (fun list0 hF => goes_of (e_spec_copyInts list0 kk) (F_spec_copyInts_S hF))
def con_spec_cell : Con := ⟨[.rd, .rd], true, [.c (.sc), .c (.sc)], fun vs k => match vs with
    | [.c (.v (.int .i64 row0)), .c (.v (.int .i64 key1))] => F_spec_cell row0 key1 (fun r0 => k (.one (.c (.v (.int .i64 r0)))) [])
    | _ => False, false⟩
def cl_spec_cell : List (FuncId × Con) := []
def an_spec_cell : Ann := ⟨[], [], []⟩
def cs_spec_cell : Cons := ⟨cl_spec_cell, [], 0, [], []⟩
def fin_spec_cell (row0 : Int) (key1 : Int) (kk : AV → List A1 → Prop) : Kt := fin TT con_spec_cell Try.f109.results.toList [.c .sc] [.c (.v (.int .i64 row0)), .c (.v (.int .i64 key1))] kk
theorem g_spec_cell (row0 : Int) (key1 : Int) (kk : AV → List A1 → Prop) :
    ev TT cs_spec_cell 17 an_spec_cell (Try.f109.body.getD .skip) (st0 con_spec_cell [.c (.v (.int .i64 row0)), .c (.v (.int .i64 key1))]) (fin TT con_spec_cell Try.f109.results.toList [.c .sc] [.c (.v (.int .i64 row0)), .c (.v (.int .i64 key1))] kk) = G_spec_cell row0 key1 (fun r0 => kk (.one (.c (.v (.int .i64 r0)))) []) := by kernel_rfl
theorem e_spec_cell (row0 : Int) (key1 : Int) (kk : AV → List A1 → Prop) :
    ev TT cs_spec_cell 17 an_spec_cell (Try.f109.body.getD .skip) (st0 con_spec_cell [.c (.v (.int .i64 row0)), .c (.v (.int .i64 key1))]) (fin TT con_spec_cell Try.f109.results.toList [.c .sc] [.c (.v (.int .i64 row0)), .c (.v (.int .i64 key1))] kk) = S_spec_cell row0 key1 (fun r0 => kk (.one (.c (.v (.int .i64 r0)))) []) := by
  rw [g_spec_cell]
  rfl
theorem clok_spec_cell : ConOK Try.prog cl_spec_cell := consNil
theorem cok_spec_cell : ConsOK Try.prog 17 cs_spec_cell := ⟨clok_spec_cell, inlNil⟩
theorem i_spec_cell {vs : List A1} {kk : AV → List A1 → Prop} {motive : List A1 → Prop} (h : con_spec_cell.F vs kk) (H : ∀ (row0 : Int) (key1 : Int), F_spec_cell row0 key1 (fun r0 => kk (.one (.c (.v (.int .i64 r0)))) []) → motive [.c (.v (.int .i64 row0)), .c (.v (.int .i64 key1))]) : motive vs := by
  unfold con_spec_cell at h
  dsimp only at h
  split at h
  · exact H _ _ h
  · exact h.elim
theorem h_spec_cell : Holds Try.prog 109 con_spec_cell := by
  refine holds_of_ev (rt := [.c .sc]) (T := TT) (Γ := cs_spec_cell) (an := an_spec_cell) (N := 17) (c := Try.f109.body.getD .skip) Try.func109 (by kernel_rfl) Try.ntmps109 (by decide) (by decide) mixed tabOK cok_spec_cell (by kernel_rfl) ?_
  intro vs kk _ hF
  exact i_spec_cell (motive := fun vs => Goes (ev TT cs_spec_cell 17 an_spec_cell (Try.f109.body.getD .skip) (st0 con_spec_cell vs) (fin TT con_spec_cell Try.f109.results.toList [.c .sc] vs kk))) hF (fun row0 key1 hF => goes_of (e_spec_cell row0 key1 kk) (F_spec_cell_S hF))
def con_spec_addKey : Con := ⟨[.rd, .rd], true, [.c (.sl .int), .c (.sc)], fun vs k => match vs with
    | [.c (.ro .int s0), .c (.v (.int .i64 key1))] => F_spec_addKey s0 key1 (fun r0 => k (.one (.c (.ro .int r0))) [])
    | _ => False, false⟩
def cl_spec_addKey : List (FuncId × Con) := [(101, con_spec_copyInts), (109, con_spec_cell)]
def nm0_spec_addKey : List NStep := [.keep [1, 5, 6] [144]]
def an_spec_addKey : Ann := ⟨[], [(3, nm0_spec_addKey)], []⟩
def cs_spec_addKey : Cons := ⟨cl_spec_addKey, [], 0, [], []⟩
def can0_spec_addKey (key1 : Int) (xr6 : Int) (xy9 : List Int) : St := ⟨[(1, .one (.c (.v (.int .i64 key1)))), (5, .one (.c (.ow 144))), (6, .one (.c (.v (.int .i64 xr6))))], [(144, .row .int xy9)]⟩
def fin_spec_addKey (s0 : List Int) (key1 : Int) (kk : AV → List A1 → Prop) : Kt := fin TT con_spec_addKey Try.f108.results.toList [.c (.sl .int)] [.c (.ro .int s0), .c (.v (.int .i64 key1))] kk
def kt0_spec_addKey (kf : Kt) : Kt := blockK 0 (seqK (evF TT cs_spec_addKey 27 an_spec_addKey Try.f108 [1, 1, 1]) (kf))
theorem r0_spec_addKey (s0 : List Int) (key1 : Int) (kk : AV → List A1 → Prop) (n : Nat) (xr6 : Int) (xy9 : List Int) :
    iter (evF TT cs_spec_addKey 27 an_spec_addKey Try.f108 [1, 1, 0, 1, 0, 0]) nm0_spec_addKey (kt0_spec_addKey (fin_spec_addKey s0 key1 kk)) (n + 1) (can0_spec_addKey key1 xr6 xy9) = T0_spec_addKey key1 xr6 xy9 (fun r0 => kk (.one (.c (.ro .int r0))) []) (fun xr6 xy9 => iter (evF TT cs_spec_addKey 27 an_spec_addKey Try.f108 [1, 1, 0, 1, 0, 0]) nm0_spec_addKey (kt0_spec_addKey (fin_spec_addKey s0 key1 kk)) n (can0_spec_addKey key1 xr6 xy9)) := by kernel_rfl
theorem l0_spec_addKey (s0 : List Int) (key1 : Int) (kk : AV → List A1 → Prop) : ∀ (n : Nat) (xr6 : Int) (xy9 : List Int), iter (evF TT cs_spec_addKey 27 an_spec_addKey Try.f108 [1, 1, 0, 1, 0, 0]) nm0_spec_addKey (kt0_spec_addKey (fin_spec_addKey s0 key1 kk)) n (can0_spec_addKey key1 xr6 xy9) = L0_spec_addKey key1 (fun r0 => kk (.one (.c (.ro .int r0))) []) n xr6 xy9 := by
  intro n
  induction n with
  | zero => intros; rfl
  | succ n ih =>
    intro xr6 xy9
    rw [r0_spec_addKey s0 key1 kk n xr6 xy9]
    have hb : (fun xr6 xy9 => iter (evF TT cs_spec_addKey 27 an_spec_addKey Try.f108 [1, 1, 0, 1, 0, 0]) nm0_spec_addKey (kt0_spec_addKey (fin_spec_addKey s0 key1 kk)) n (can0_spec_addKey key1 xr6 xy9)) = L0_spec_addKey key1 (fun r0 => kk (.one (.c (.ro .int r0))) []) n := by
      funext xr6 xy9; exact ih xr6 xy9
    rw [hb]
    rfl
theorem g_spec_addKey (s0 : List Int) (key1 : Int) (kk : AV → List A1 → Prop) :
    ev TT cs_spec_addKey 27 an_spec_addKey (Try.f108.body.getD .skip) (st0 con_spec_addKey [.c (.ro .int s0), .c (.v (.int .i64 key1))]) (fin TT con_spec_addKey Try.f108.results.toList [.c (.sl .int)] [.c (.ro .int s0), .c (.v (.int .i64 key1))] kk) = G_spec_addKey s0 key1 (fun key1 xr6 xy9 => ∃ j, iter (evF TT cs_spec_addKey 27 an_spec_addKey Try.f108 [1, 1, 0, 1, 0, 0]) nm0_spec_addKey (kt0_spec_addKey (fin_spec_addKey s0 key1 kk)) j (can0_spec_addKey key1 xr6 xy9)) := by kernel_rfl
theorem e_spec_addKey (s0 : List Int) (key1 : Int) (kk : AV → List A1 → Prop) :
    ev TT cs_spec_addKey 27 an_spec_addKey (Try.f108.body.getD .skip) (st0 con_spec_addKey [.c (.ro .int s0), .c (.v (.int .i64 key1))]) (fin TT con_spec_addKey Try.f108.results.toList [.c (.sl .int)] [.c (.ro .int s0), .c (.v (.int .i64 key1))] kk) = S_spec_addKey s0 key1 (fun r0 => kk (.one (.c (.ro .int r0))) []) := by
  rw [g_spec_addKey]
  have hi0 : (fun key1 xr6 xy9 => ∃ j, iter (evF TT cs_spec_addKey 27 an_spec_addKey Try.f108 [1, 1, 0, 1, 0, 0]) nm0_spec_addKey (kt0_spec_addKey (fin_spec_addKey s0 key1 kk)) j (can0_spec_addKey key1 xr6 xy9)) = (fun key1 xr6 xy9 => ∃ j, L0_spec_addKey key1 (fun r0 => kk (.one (.c (.ro .int r0))) []) j xr6 xy9) := by
    funext key1 xr6 xy9
    refine congrArg Exists (funext fun j => ?_)
    rw [l0_spec_addKey s0 key1 kk j xr6 xy9]
  rw [hi0]
  rfl
theorem clok_spec_addKey : ConOK Try.prog cl_spec_addKey := consCons h_spec_copyInts ⟨Try.f101, Try.func101, by kernel_rfl, ne_of_beq (by kernel_rfl)⟩ (consCons h_spec_cell ⟨Try.f109, Try.func109, by kernel_rfl, ne_of_beq (by kernel_rfl)⟩ (consNil))
theorem cok_spec_addKey : ConsOK Try.prog 27 cs_spec_addKey := ⟨clok_spec_addKey, inlNil⟩
theorem i_spec_addKey {vs : List A1} {kk : AV → List A1 → Prop} {motive : List A1 → Prop} (h : con_spec_addKey.F vs kk) (H : ∀ (s0 : List Int) (key1 : Int), F_spec_addKey s0 key1 (fun r0 => kk (.one (.c (.ro .int r0))) []) → motive [.c (.ro .int s0), .c (.v (.int .i64 key1))]) : motive vs := by
  unfold con_spec_addKey at h
  dsimp only at h
  split at h
  · exact H _ _ h
  · exact h.elim
theorem h_spec_addKey : Holds Try.prog 108 con_spec_addKey := by
  refine holds_of_ev (rt := [.c (.sl .int)]) (T := TT) (Γ := cs_spec_addKey) (an := an_spec_addKey) (N := 27) (c := Try.f108.body.getD .skip) Try.func108 (by kernel_rfl) Try.ntmps108 (by decide) (by decide) mixed tabOK cok_spec_addKey (by kernel_rfl) ?_
  intro vs kk _ hF
  exact i_spec_addKey (motive := fun vs => Goes (ev TT cs_spec_addKey 27 an_spec_addKey (Try.f108.body.getD .skip) (st0 con_spec_addKey vs) (fin TT con_spec_addKey Try.f108.results.toList [.c (.sl .int)] vs kk))) hF (fun s0 key1 hF => goes_of (e_spec_addKey s0 key1 kk) (F_spec_addKey_S hF))
def con_spec_reader_spoil : Con := ⟨[.mu, .rd, .rd], true, [.ptr [.sl .u8, .sc], .c (.sl .int), .c (.sc)], fun vs k => match vs with
    | [.ptr [.ro .u8 r0b, .v (.int .i64 r0p)], .c (.ro .int list1), .c (.v (.int .i64 n2))] => F_spec_reader_spoil r0b r0p list1 n2 (fun r0 r1 r2 => k (.one (.c (.ro .int r0))) [.ptr [.ro .u8 r1, .v (.int .i64 r2)]])
    | _ => False, false⟩
def cl_spec_reader_spoil : List (FuncId × Con) := [(86, con_spec_reader_one), (88, con_spec_reader_pick), (101, con_spec_copyInts)]
def an_spec_reader_spoil : Ann := ⟨[], [], []⟩
def cs_spec_reader_spoil : Cons := ⟨cl_spec_reader_spoil, [], 0, [], []⟩
def fin_spec_reader_spoil (r0b : List Int) (r0p : Int) (list1 : List Int) (n2 : Int) (kk : AV → List A1 → Prop) : Kt := fin TT con_spec_reader_spoil Try.f104.results.toList [.c (.sl .int)] [.ptr [.ro .u8 r0b, .v (.int .i64 r0p)], .c (.ro .int list1), .c (.v (.int .i64 n2))] kk
theorem g_spec_reader_spoil (r0b : List Int) (r0p : Int) (list1 : List Int) (n2 : Int) (kk : AV → List A1 → Prop) :
    ev TT cs_spec_reader_spoil 41 an_spec_reader_spoil (Try.f104.body.getD .skip) (st0 con_spec_reader_spoil [.ptr [.ro .u8 r0b, .v (.int .i64 r0p)], .c (.ro .int list1), .c (.v (.int .i64 n2))]) (fin TT con_spec_reader_spoil Try.f104.results.toList [.c (.sl .int)] [.ptr [.ro .u8 r0b, .v (.int .i64 r0p)], .c (.ro .int list1), .c (.v (.int .i64 n2))] kk) = G_spec_reader_spoil r0b r0p list1 n2 (fun r0 r1 r2 => kk (.one (.c (.ro .int r0))) [.ptr [.ro .u8 r1, .v (.int .i64 r2)]]) := by kernel_rfl
theorem e_spec_reader_spoil (r0b : List Int) (r0p : Int) (list1 : List Int) (n2 : Int) (kk : AV → List A1 → Prop) :
    ev TT cs_spec_reader_spoil 41 an_spec_reader_spoil (Try.f104.body.getD .skip) (st0 con_spec_reader_spoil [.ptr [.ro .u8 r0b, .v (.int .i64 r0p)], .c (.ro .int list1), .c (.v (.int .i64 n2))]) (fin TT con_spec_reader_spoil Try.f104.results.toList [.c (.sl .int)] [.ptr [.ro .u8 r0b, .v (.int .i64 r0p)], .c (.ro .int list1), .c (.v (.int .i64 n2))] kk) = S_spec_reader_spoil r0b r0p list1 n2 (fun r0 r1 r2 => kk (.one (.c (.ro .int r0))) [.ptr [.ro .u8 r1, .v (.int .i64 r2)]]) := by
  rw [g_spec_reader_spoil]
  rfl
theorem clok_spec_reader_spoil : ConOK Try.prog cl_spec_reader_spoil := consCons h_spec_reader_one ⟨Try.f86, Try.func86, by kernel_rfl, ne_of_beq (by kernel_rfl)⟩ (consCons h_spec_reader_pick ⟨Try.f88, Try.func88, by kernel_rfl, ne_of_beq (by kernel_rfl)⟩ (consCons h_spec_copyInts ⟨Try.f101, Try.func101, by kernel_rfl, ne_of_beq (by kernel_rfl)⟩ (consNil)))
theorem cok_spec_reader_spoil : ConsOK Try.prog 41 cs_spec_reader_spoil := ⟨clok_spec_reader_spoil, inlNil⟩
theorem i_spec_reader_spoil {vs : List A1} {kk : AV → List A1 → Prop} {motive : List A1 → Prop} (h : con_spec_reader_spoil.F vs kk) (H : ∀ (r0b : List Int) (r0p : Int) (list1 : List Int) (n2 : Int), F_spec_reader_spoil r0b r0p list1 n2 (fun r0 r1 r2 => kk (.one (.c (.ro .int r0))) [.ptr [.ro .u8 r1, .v (.int .i64 r2)]]) → motive [.ptr [.ro .u8 r0b, .v (.int .i64 r0p)], .c (.ro .int list1), .c (.v (.int .i64 n2))]) : motive vs := by
  unfold con_spec_reader_spoil at h
  dsimp only at h
  split at h
  · exact H _ _ _ _ h
  · exact h.elim
theorem h_spec_reader_spoil : Holds Try.prog 104 con_spec_reader_spoil := by
  refine holds_of_ev (rt := [.c (.sl .int)]) (T := TT) (Γ := cs_spec_reader_spoil) (an := an_spec_reader_spoil) (N := 41) (c := Try.f104.body.getD .skip) Try.func104 (by kernel_rfl) Try.ntmps104 (by decide) (by decide) mixed tabOK cok_spec_reader_spoil (by kernel_rfl) ?_
  intro vs kk _ hF
  exact i_spec_reader_spoil (motive := fun vs => Goes (ev TT cs_spec_reader_spoil 41 an_spec_reader_spoil (Try.f104.body.getD .skip) (st0 con_spec_reader_spoil vs) (fin TT con_spec_reader_spoil Try.f104.results.toList [.c (.sl .int)] vs kk))) hF (fun r0b r0p list1 n2 hF => goes_of (e_spec_reader_spoil r0b r0p list1 n2 kk) (F_spec_reader_spoil_S hF))
def con_spec_someSketch : Con := ⟨[.mu], true, [.ptr [.sl .u8, .sc]], fun vs k => match vs with
    | [.ptr [.ro .u8 r0b, .v (.int .i64 r0p)]] => F_spec_someSketch r0b r0p (fun r0 r1 r2 => k (.one (.c (.ro .int r0))) [.ptr [.ro .u8 r1, .v (.int .i64 r2)]])
    | _ => False, false⟩
def cl_spec_someSketch : List (FuncId × Con) := [(65, con_spec_EmptySketch), (86, con_spec_reader_one), (88, con_spec_reader_pick), (104, con_spec_reader_spoil), (108, con_spec_addKey)]
def nm0_spec_someSketch : List NStep := [.own 3 .int 90000, .keep [0, 3, 4] [100000, 90000]]
def an_spec_someSketch : Ann := ⟨[], [(3, nm0_spec_someSketch)], []⟩
def cs_spec_someSketch : Cons := ⟨cl_spec_someSketch, [], 0, [], []⟩
def can0_spec_someSketch (xn4 : Int) (xb100000c0 : List Int) (xb100000c1 : Int) (xs3 : List Int) : St := ⟨[(0, .one (.c (.pb 100000 0))), (3, .one (.c (.ow 90000))), (4, .one (.c (.v (.int .i64 xn4))))], [(100000, .box [.ro .u8 xb100000c0, .v (.int .i64 xb100000c1)]), (90000, .row .int xs3)]⟩
def fin_spec_someSketch (r0b : List Int) (r0p : Int) (kk : AV → List A1 → Prop) : Kt := fin TT con_spec_someSketch Try.f83.results.toList [.c (.sl .int)] [.ptr [.ro .u8 r0b, .v (.int .i64 r0p)]] kk
def kt0_spec_someSketch (kf : Kt) : Kt := blockK 0 (seqK (evF TT cs_spec_someSketch 25 an_spec_someSketch Try.f83 [1, 1, 1]) (kf))
theorem r0_spec_someSketch (r0b : List Int) (r0p : Int) (kk : AV → List A1 → Prop) (n : Nat) (xn4 : Int) (xb100000c0 : List Int) (xb100000c1 : Int) (xs3 : List Int) :
    iter (evF TT cs_spec_someSketch 25 an_spec_someSketch Try.f83 [1, 1, 0, 1, 0, 0]) nm0_spec_someSketch (kt0_spec_someSketch (fin_spec_someSketch r0b r0p kk)) (n + 1) (can0_spec_someSketch xn4 xb100000c0 xb100000c1 xs3) = T0_spec_someSketch xn4 xb100000c0 xb100000c1 xs3 (fun r0 r1 r2 => kk (.one (.c (.ro .int r0))) [.ptr [.ro .u8 r1, .v (.int .i64 r2)]]) (fun xn4 xb100000c0 xb100000c1 xs3 => iter (evF TT cs_spec_someSketch 25 an_spec_someSketch Try.f83 [1, 1, 0, 1, 0, 0]) nm0_spec_someSketch (kt0_spec_someSketch (fin_spec_someSketch r0b r0p kk)) n (can0_spec_someSketch xn4 xb100000c0 xb100000c1 xs3)) := by kernel_rfl
theorem l0_spec_someSketch (r0b : List Int) (r0p : Int) (kk : AV → List A1 → Prop) : ∀ (n : Nat) (xn4 : Int) (xb100000c0 : List Int) (xb100000c1 : Int) (xs3 : List Int), iter (evF TT cs_spec_someSketch 25 an_spec_someSketch Try.f83 [1, 1, 0, 1, 0, 0]) nm0_spec_someSketch (kt0_spec_someSketch (fin_spec_someSketch r0b r0p kk)) n (can0_spec_someSketch xn4 xb100000c0 xb100000c1 xs3) = L0_spec_someSketch (fun r0 r1 r2 => kk (.one (.c (.ro .int r0))) [.ptr [.ro .u8 r1, .v (.int .i64 r2)]]) n xn4 xb100000c0 xb100000c1 xs3 := by
  intro n
  induction n with
  | zero => intros; rfl
  | succ n ih =>
    intro xn4 xb100000c0 xb100000c1 xs3
    rw [r0_spec_someSketch r0b r0p kk n xn4 xb100000c0 xb100000c1 xs3]
    have hb : (fun xn4 xb100000c0 xb100000c1 xs3 => iter (evF TT cs_spec_someSketch 25 an_spec_someSketch Try.f83 [1, 1, 0, 1, 0, 0]) nm0_spec_someSketch (kt0_spec_someSketch (fin_spec_someSketch r0b r0p kk)) n (can0_spec_someSketch xn4 xb100000c0 xb100000c1 xs3)) = L0_spec_someSketch (fun r0 r1 r2 => kk (.one (.c (.ro .int r0))) [.ptr [.ro .u8 r1, .v (.int .i64 r2)]]) n := by
      funext xn4 xb100000c0 xb100000c1 xs3; exact ih xn4 xb100000c0 xb100000c1 xs3
    rw [hb]
    rfl
theorem g_spec_someSketch (r0b : List Int) (r0p : Int) (kk : AV → List A1 → Prop) :
    ev TT cs_spec_someSketch 25 an_spec_someSketch (Try.f83.body.getD .skip) (st0 con_spec_someSketch [.ptr [.ro .u8 r0b, .v (.int .i64 r0p)]]) (fin TT con_spec_someSketch Try.f83.results.toList [.c (.sl .int)] [.ptr [.ro .u8 r0b, .v (.int .i64 r0p)]] kk) = G_spec_someSketch r0b r0p (fun xn4 xb100000c0 xb100000c1 xs3 => ∃ j, iter (evF TT cs_spec_someSketch 25 an_spec_someSketch Try.f83 [1, 1, 0, 1, 0, 0]) nm0_spec_someSketch (kt0_spec_someSketch (fin_spec_someSketch r0b r0p kk)) j (can0_spec_someSketch xn4 xb100000c0 xb100000c1 xs3)) := by kernel_rfl
theorem e_spec_someSketch (r0b : List Int) (r0p : Int) (kk : AV → List A1 → Prop) :
    ev TT cs_spec_someSketch 25 an_spec_someSketch (Try.f83.body.getD .skip) (st0 con_spec_someSketch [.ptr [.ro .u8 r0b, .v (.int .i64 r0p)]]) (fin TT con_spec_someSketch Try.f83.results.toList [.c (.sl .int)] [.ptr [.ro .u8 r0b, .v (.int .i64 r0p)]] kk) = S_spec_someSketch r0b r0p (fun r0 r1 r2 => kk (.one (.c (.ro .int r0))) [.ptr [.ro .u8 r1, .v (.int .i64 r2)]]) := by
  rw [g_spec_someSketch]
  have hi0 : (fun xn4 xb100000c0 xb100000c1 xs3 => ∃ j, iter (evF TT cs_spec_someSketch 25 an_spec_someSketch Try.f83 [1, 1, 0, 1, 0, 0]) nm0_spec_someSketch (kt0_spec_someSketch (fin_spec_someSketch r0b r0p kk)) j (can0_spec_someSketch xn4 xb100000c0 xb100000c1 xs3)) = (fun xn4 xb100000c0 xb100000c1 xs3 => ∃ j, L0_spec_someSketch (fun r0 r1 r2 => kk (.one (.c (.ro .int r0))) [.ptr [.ro .u8 r1, .v (.int .i64 r2)]]) j xn4 xb100000c0 xb100000c1 xs3) := by
    funext xn4 xb100000c0 xb100000c1 xs3
    refine congrArg Exists (funext fun j => ?_)
    rw [l0_spec_someSketch r0b r0p kk j xn4 xb100000c0 xb100000c1 xs3]
  rw [hi0]
  rfl
theorem clok_spec_someSketch : ConOK Try.prog cl_spec_someSketch := consCons h_spec_EmptySketch ⟨Try.f65, Try.func65, by kernel_rfl, ne_of_beq (by kernel_rfl)⟩ (consCons h_spec_reader_one ⟨Try.f86, Try.func86, by kernel_rfl, ne_of_beq (by kernel_rfl)⟩ (consCons h_spec_reader_pick ⟨Try.f88, Try.func88, by kernel_rfl, ne_of_beq (by kernel_rfl)⟩ (consCons h_spec_reader_spoil ⟨Try.f104, Try.func104, by kernel_rfl, ne_of_beq (by kernel_rfl)⟩ (consCons h_spec_addKey ⟨Try.f108, Try.func108, by kernel_rfl, ne_of_beq (by kernel_rfl)⟩ (consNil)))))
theorem cok_spec_someSketch : ConsOK Try.prog 25 cs_spec_someSketch := ⟨clok_spec_someSketch, inlNil⟩
theorem i_spec_someSketch {vs : List A1} {kk : AV → List A1 → Prop} {motive : List A1 → Prop} (h : con_spec_someSketch.F vs kk) (H : ∀ (r0b : List Int) (r0p : Int), F_spec_someSketch r0b r0p (fun r0 r1 r2 => kk (.one (.c (.ro .int r0))) [.ptr [.ro .u8 r1, .v (.int .i64 r2)]]) → motive [.ptr [.ro .u8 r0b, .v (.int .i64 r0p)]]) : motive vs := by
  unfold con_spec_someSketch at h
  dsimp only at h
  split at h
  · exact H _ _ h
  · exact h.elim
theorem h_spec_someSketch : Holds Try.prog 83 con_spec_someSketch := by
  refine holds_of_ev (rt := [.c (.sl .int)]) (T := TT) (Γ := cs_spec_someSketch) (an := an_spec_someSketch) (N := 25) (c := Try.f83.body.getD .skip) Try.func83 (by kernel_rfl) Try.ntmps83 (by decide) (by decide) mixed tabOK cok_spec_someSketch (by kernel_rfl) ?_
  intro vs kk _ hF
  exact i_spec_someSketch (motive := fun vs => Goes (ev TT cs_spec_someSketch 25 an_spec_someSketch (Try.f83.body.getD .skip) (st0 con_spec_someSketch vs) (fin TT con_spec_someSketch Try.f83.results.toList [.c (.sl .int)] vs kk))) hF (fun r0b r0p hF => goes_of (e_spec_someSketch r0b r0p kk) (F_spec_someSketch_S hF))
def con_spec_someKey : Con := ⟨[.mu], true, [.ptr [.sl .u8, .sc]], fun vs k => match vs with
    | [.ptr [.ro .u8 r0b, .v (.int .i64 r0p)]] => F_spec_someKey r0b r0p (fun r0 r1 r2 => k (.one (.c (.v (.int .i64 r0)))) [.ptr [.ro .u8 r1, .v (.int .i64 r2)]])
    | _ => False, false⟩
def cl_spec_someKey : List (FuncId × Con) := [(86, con_spec_reader_one), (88, con_spec_reader_pick)]
def an_spec_someKey : Ann := ⟨[], [], []⟩
def cs_spec_someKey : Cons := ⟨cl_spec_someKey, [], 0, [], []⟩
def fin_spec_someKey (r0b : List Int) (r0p : Int) (kk : AV → List A1 → Prop) : Kt := fin TT con_spec_someKey Try.f73.results.toList [.c .sc] [.ptr [.ro .u8 r0b, .v (.int .i64 r0p)]] kk
theorem g_spec_someKey (r0b : List Int) (r0p : Int) (kk : AV → List A1 → Prop) :
    ev TT cs_spec_someKey 12 an_spec_someKey (Try.f73.body.getD .skip) (st0 con_spec_someKey [.ptr [.ro .u8 r0b, .v (.int .i64 r0p)]]) (fin TT con_spec_someKey Try.f73.results.toList [.c .sc] [.ptr [.ro .u8 r0b, .v (.int .i64 r0p)]] kk) = G_spec_someKey r0b r0p (fun r0 r1 r2 => kk (.one (.c (.v (.int .i64 r0)))) [.ptr [.ro .u8 r1, .v (.int .i64 r2)]]) := by kernel_rfl
theorem e_spec_someKey (r0b : List Int) (r0p : Int) (kk : AV → List A1 → Prop) :
    ev TT cs_spec_someKey 12 an_spec_someKey (Try.f73.body.getD .skip) (st0 con_spec_someKey [.ptr [.ro .u8 r0b, .v (.int .i64 r0p)]]) (fin TT con_spec_someKey Try.f73.results.toList [.c .sc] [.ptr [.ro .u8 r0b, .v (.int .i64 r0p)]] kk) = S_spec_someKey r0b r0p (fun r0 r1 r2 => kk (.one (.c (.v (.int .i64 r0)))) [.ptr [.ro .u8 r1, .v (.int .i64 r2)]]) := by
  rw [g_spec_someKey]
  rfl
theorem clok_spec_someKey : ConOK Try.prog cl_spec_someKey := consCons h_spec_reader_one ⟨Try.f86, Try.func86, by kernel_rfl, ne_of_beq (by kernel_rfl)⟩ (consCons h_spec_reader_pick ⟨Try.f88, Try.func88, by kernel_rfl, ne_of_beq (by kernel_rfl)⟩ (consNil))
theorem cok_spec_someKey : ConsOK Try.prog 12 cs_spec_someKey := ⟨clok_spec_someKey, inlNil⟩
theorem i_spec_someKey {vs : List A1} {kk : AV → List A1 → Prop} {motive : List A1 → Prop} (h : con_spec_someKey.F vs kk) (H : ∀ (r0b : List Int) (r0p : Int), F_spec_someKey r0b r0p (fun r0 r1 r2 => kk (.one (.c (.v (.int .i64 r0)))) [.ptr [.ro .u8 r1, .v (.int .i64 r2)]]) → motive [.ptr [.ro .u8 r0b, .v (.int .i64 r0p)]]) : motive vs := by
  unfold con_spec_someKey at h
  dsimp only at h
  split at h
  · exact H _ _ h
  · exact h.elim
theorem h_spec_someKey : Holds Try.prog 73 con_spec_someKey := by
  refine holds_of_ev (rt := [.c .sc]) (T := TT) (Γ := cs_spec_someKey) (an := an_spec_someKey) (N := 12) (c := Try.f73.body.getD .skip) Try.func73 (by kernel_rfl) Try.ntmps73 (by decide) (by decide) mixed tabOK cok_spec_someKey (by kernel_rfl) ?_
  intro vs kk _ hF
  exact i_spec_someKey (motive := fun vs => Goes (ev TT cs_spec_someKey 12 an_spec_someKey (Try.f73.body.getD .skip) (st0 con_spec_someKey vs) (fin TT con_spec_someKey Try.f73.results.toList [.c .sc] vs kk))) hF (fun r0b r0p hF => goes_of (e_spec_someKey r0b r0p kk) (F_spec_someKey_S hF))
def con_spec_DrawPrefers : Con := ⟨[.rd], true, [.c (.sl .u8)], fun vs k => match vs with
    | [.c (.ro .u8 code0)] => F_spec_DrawPrefers code0 (fun r0 r1 r2 => k (.tup [.c (.ro .int r0), .c (.v (.int .i64 r1)), .c (.v (.int .i64 r2))]) [])
    | _ => False, false⟩
def cl_spec_DrawPrefers : List (FuncId × Con) := [(49, con_spec_newReader), (73, con_spec_someKey), (83, con_spec_someSketch)]
def an_spec_DrawPrefers : Ann := ⟨[], [], []⟩
def cs_spec_DrawPrefers : Cons := ⟨cl_spec_DrawPrefers, [], 0, [], []⟩
def fin_spec_DrawPrefers (code0 : List Int) (kk : AV → List A1 → Prop) : Kt := fin TT con_spec_DrawPrefers Try.f40.results.toList [.c (.sl .int), .c .sc, .c .sc] [.c (.ro .u8 code0)] kk
theorem g_spec_DrawPrefers (code0 : List Int) (kk : AV → List A1 → Prop) :
    ev TT cs_spec_DrawPrefers 18 an_spec_DrawPrefers (Try.f40.body.getD .skip) (st0 con_spec_DrawPrefers [.c (.ro .u8 code0)]) (fin TT con_spec_DrawPrefers Try.f40.results.toList [.c (.sl .int), .c .sc, .c .sc] [.c (.ro .u8 code0)] kk) = G_spec_DrawPrefers code0 (fun r0 r1 r2 => kk (.tup [.c (.ro .int r0), .c (.v (.int .i64 r1)), .c (.v (.int .i64 r2))]) []) := by kernel_rfl
theorem e_spec_DrawPrefers (code0 : List Int) (kk : AV → List A1 → Prop) :
    ev TT cs_spec_DrawPrefers 18 an_spec_DrawPrefers (Try.f40.body.getD .skip) (st0 con_spec_DrawPrefers [.c (.ro .u8 code0)]) (fin TT con_spec_DrawPrefers Try.f40.results.toList [.c (.sl .int), .c .sc, .c .sc] [.c (.ro .u8 code0)] kk) = S_spec_DrawPrefers code0 (fun r0 r1 r2 => kk (.tup [.c (.ro .int r0), .c (.v (.int .i64 r1)), .c (.v (.int .i64 r2))]) []) := by
  rw [g_spec_DrawPrefers]
  rfl
theorem clok_spec_DrawPrefers : ConOK Try.prog cl_spec_DrawPrefers := consCons h_spec_newReader ⟨Try.f49, Try.func49, by kernel_rfl, ne_of_beq (by kernel_rfl)⟩ (consCons h_spec_someKey ⟨Try.f73, Try.func73, by kernel_rfl, ne_of_beq (by kernel_rfl)⟩ (consCons h_spec_someSketch ⟨Try.f83, Try.func83, by kernel_rfl, ne_of_beq (by kernel_rfl)⟩ (consNil)))
theorem cok_spec_DrawPrefers : ConsOK Try.prog 18 cs_spec_DrawPrefers := ⟨clok_spec_DrawPrefers, inlNil⟩
theorem i_spec_DrawPrefers {vs : List A1} {kk : AV → List A1 → Prop} {motive : List A1 → Prop} (h : con_spec_DrawPrefers.F vs kk) (H : ∀ (code0 : List Int), F_spec_DrawPrefers code0 (fun r0 r1 r2 => kk (.tup [.c (.ro .int r0), .c (.v (.int .i64 r1)), .c (.v (.int .i64 r2))]) []) → motive [.c (.ro .u8 code0)]) : motive vs := by
  unfold con_spec_DrawPrefers at h
  dsimp only at h
  split at h
  · exact H _ h
  · exact h.elim
theorem h_spec_DrawPrefers : Holds Try.prog 40 con_spec_DrawPrefers := by
  refine holds_of_ev (rt := [.c (.sl .int), .c .sc, .c .sc]) (T := TT) (Γ := cs_spec_DrawPrefers) (an := an_spec_DrawPrefers) (N := 18) (c := Try.f40.body.getD .skip) Try.func40 (by kernel_rfl) Try.ntmps40 (by decide) (by decide) mixed tabOK cok_spec_DrawPrefers (by kernel_rfl) ?_
  intro vs kk _ hF
  exact i_spec_DrawPrefers (motive := fun vs => Goes (ev TT cs_spec_DrawPrefers 18 an_spec_DrawPrefers (Try.f40.body.getD .skip) (st0 con_spec_DrawPrefers vs) (fin TT con_spec_DrawPrefers Try.f40.results.toList [.c (.sl .int), .c .sc, .c .sc] vs kk))) hF (fun code0 hF => goes_of (e_spec_DrawPrefers code0 kk) (F_spec_DrawPrefers_S hF))
def con_impl_ValidSketch : Con := ⟨[.rd], true, [.c (.sl .int)], fun vs k => match vs with
    | [.c (.ro .int s0)] => F_impl_ValidSketch s0 (fun r0 => k (.one (.c (.v (.bool r0)))) [])
    | _ => False, false⟩
def cl_impl_ValidSketch : List (FuncId × Con) := []
def nm0_impl_ValidSketch : List NStep := [.keep [8, 9, 10] []]
def an_impl_ValidSketch : Ann := ⟨[], [(4, nm0_impl_ValidSketch)], []⟩
def cs_impl_ValidSketch : Cons := ⟨cl_impl_ValidSketch, [], 0, [], []⟩
def can0_impl_ValidSketch (s0 : List Int) (xt9 : Int) (xt10 : Int) : St := ⟨[(8, .one (.c (.ro .int s0))), (9, .one (.c (.v (.int .i64 xt9)))), (10, .one (.c (.v (.int .i64 xt10))))], []⟩
def fin_impl_ValidSketch (s0 : List Int) (kk : AV → List A1 → Prop) : Kt := fin TT con_impl_ValidSketch Try.f80.results.toList [.c .sc] [.c (.ro .int s0)] kk
def kt0_impl_ValidSketch (kf : Kt) : Kt := blockK 0 (seqK (evF TT cs_impl_ValidSketch 21 an_impl_ValidSketch Try.f80 [1, 1, 1]) (kf))
theorem r0_impl_ValidSketch (s0 : List Int) (xt9 : Int) (kk : AV → List A1 → Prop) (n : Nat) (xt10 : Int) :
    iter (evF TT cs_impl_ValidSketch 21 an_impl_ValidSketch Try.f80 [1, 1, 0, 1, 0, 0]) nm0_impl_ValidSketch (kt0_impl_ValidSketch (fin_impl_ValidSketch s0 kk)) (n + 1) (can0_impl_ValidSketch s0 xt9 xt10) = T0_impl_ValidSketch s0 xt9 xt10 (fun r0 => kk (.one (.c (.v (.bool r0)))) []) (fun xt10 => iter (evF TT cs_impl_ValidSketch 21 an_impl_ValidSketch Try.f80 [1, 1, 0, 1, 0, 0]) nm0_impl_ValidSketch (kt0_impl_ValidSketch (fin_impl_ValidSketch s0 kk)) n (can0_impl_ValidSketch s0 xt9 xt10)) := by kernel_rfl
theorem l0_impl_ValidSketch (s0 : List Int) (xt9 : Int) (kk : AV → List A1 → Prop) : ∀ (n : Nat) (xt10 : Int), iter (evF TT cs_impl_ValidSketch 21 an_impl_ValidSketch Try.f80 [1, 1, 0, 1, 0, 0]) nm0_impl_ValidSketch (kt0_impl_ValidSketch (fin_impl_ValidSketch s0 kk)) n (can0_impl_ValidSketch s0 xt9 xt10) = L0_impl_ValidSketch s0 xt9 (fun r0 => kk (.one (.c (.v (.bool r0)))) []) n xt10 := by
  intro n
  induction n with
  | zero => intros; rfl
  | succ n ih =>
    intro xt10
    rw [r0_impl_ValidSketch s0 xt9 kk n xt10]
    have hb : (fun xt10 => iter (evF TT cs_impl_ValidSketch 21 an_impl_ValidSketch Try.f80 [1, 1, 0, 1, 0, 0]) nm0_impl_ValidSketch (kt0_impl_ValidSketch (fin_impl_ValidSketch s0 kk)) n (can0_impl_ValidSketch s0 xt9 xt10)) = L0_impl_ValidSketch s0 xt9 (fun r0 => kk (.one (.c (.v (.bool r0)))) []) n := by
      funext xt10; exact ih xt10
    rw [hb]
    rfl
theorem g_impl_ValidSketch (s0 : List Int) (kk : AV → List A1 → Prop) :
    ev TT cs_impl_ValidSketch 21 an_impl_ValidSketch (Try.f80.body.getD .skip) (st0 con_impl_ValidSketch [.c (.ro .int s0)]) (fin TT con_impl_ValidSketch Try.f80.results.toList [.c .sc] [.c (.ro .int s0)] kk) = G_impl_ValidSketch s0 (fun r0 => kk (.one (.c (.v (.bool r0)))) []) (fun s0 xt9 xt10 => ∃ j, iter (evF TT cs_impl_ValidSketch 21 an_impl_ValidSketch Try.f80 [1, 1, 0, 1, 0, 0]) nm0_impl_ValidSketch (kt0_impl_ValidSketch (fin_impl_ValidSketch s0 kk)) j (can0_impl_ValidSketch s0 xt9 xt10)) := by kernel_rfl
theorem e_impl_ValidSketch (s0 : List Int) (kk : AV → List A1 → Prop) :
    ev TT cs_impl_ValidSketch 21 an_impl_ValidSketch (Try.f80.body.getD .skip) (st0 con_impl_ValidSketch [.c (.ro .int s0)]) (fin TT con_impl_ValidSketch Try.f80.results.toList [.c .sc] [.c (.ro .int s0)] kk) = S_impl_ValidSketch s0 (fun r0 => kk (.one (.c (.v (.bool r0)))) []) := by
  rw [g_impl_ValidSketch]
  have hi0 : (fun s0 xt9 xt10 => ∃ j, iter (evF TT cs_impl_ValidSketch 21 an_impl_ValidSketch Try.f80 [1, 1, 0, 1, 0, 0]) nm0_impl_ValidSketch (kt0_impl_ValidSketch (fin_impl_ValidSketch s0 kk)) j (can0_impl_ValidSketch s0 xt9 xt10)) = (fun s0 xt9 xt10 => ∃ j, L0_impl_ValidSketch s0 xt9 (fun r0 => kk (.one (.c (.v (.bool r0)))) []) j xt10) := by
    funext s0 xt9 xt10
    refine congrArg Exists (funext fun j => ?_)
    rw [l0_impl_ValidSketch s0 xt9 kk j xt10]
  rw [hi0]
  rfl
theorem clok_impl_ValidSketch : ConOK Try.prog cl_impl_ValidSketch := consNil
theorem cok_impl_ValidSketch : ConsOK Try.prog 21 cs_impl_ValidSketch := ⟨clok_impl_ValidSketch, inlNil⟩
theorem i_impl_ValidSketch {vs : List A1} {kk : AV → List A1 → Prop} {motive : List A1 → Prop} (h : con_impl_ValidSketch.F vs kk) (H : ∀ (s0 : List Int), F_impl_ValidSketch s0 (fun r0 => kk (.one (.c (.v (.bool r0)))) []) → motive [.c (.ro .int s0)]) : motive vs := by
  unfold con_impl_ValidSketch at h
  dsimp only at h
  split at h
  · exact H _ h
  · exact h.elim
theorem h_impl_ValidSketch : Holds Try.prog 80 con_impl_ValidSketch := by
  refine holds_of_ev (rt := [.c .sc]) (T := TT) (Γ := cs_impl_ValidSketch) (an := an_impl_ValidSketch) (N := 21) (c := Try.f80.body.getD .skip) Try.func80 (by kernel_rfl) Try.ntmps80 (by decide) (by decide) mixed tabOK cok_impl_ValidSketch (by kernel_rfl) ?_
  intro vs kk _ hF
  exact i_impl_ValidSketch (motive := fun vs => Goes (ev TT cs_impl_ValidSketch 21 an_impl_ValidSketch (Try.f80.body.getD .skip) (st0 con_impl_ValidSketch vs) (fin TT con_impl_ValidSketch Try.f80.results.toList [.c .sc] vs kk))) hF (fun s0 hF => goes_of (e_impl_ValidSketch s0 kk) (F_impl_ValidSketch_S hF))
def con_impl_validKey : Con := ⟨[.rd], true, [.c (.sc)], fun vs k => match vs with
    | [.c (.v (.int .i64 key0))] => F_impl_validKey key0 (fun r0 => k (.one (.c (.v (.bool r0)))) [])
    | _ => False, false⟩
def cl_impl_validKey : List (FuncId × Con) := []
def an_impl_validKey : Ann := ⟨[], [], []⟩
def cs_impl_validKey : Cons := ⟨cl_impl_validKey, [], 0, [], []⟩
def fin_impl_validKey (key0 : Int) (kk : AV → List A1 → Prop) : Kt := fin TT con_impl_validKey Try.f55.results.toList [.c .sc] [.c (.v (.int .i64 key0))] kk
theorem g_impl_validKey (key0 : Int) (kk : AV → List A1 → Prop) :
    ev TT cs_impl_validKey 9 an_impl_validKey (Try.f55.body.getD .skip) (st0 con_impl_validKey [.c (.v (.int .i64 key0))]) (fin TT con_impl_validKey Try.f55.results.toList [.c .sc] [.c (.v (.int .i64 key0))] kk) = G_impl_validKey key0 (fun r0 => kk (.one (.c (.v (.bool r0)))) []) := by kernel_rfl
theorem e_impl_validKey (key0 : Int) (kk : AV → List A1 → Prop) :
    ev TT cs_impl_validKey 9 an_impl_validKey (Try.f55.body.getD .skip) (st0 con_impl_validKey [.c (.v (.int .i64 key0))]) (fin TT con_impl_validKey Try.f55.results.toList [.c .sc] [.c (.v (.int .i64 key0))] kk) = S_impl_validKey key0 (fun r0 => kk (.one (.c (.v (.bool r0)))) []) := by
  rw [g_impl_validKey]
  rfl
theorem clok_impl_validKey : ConOK Try.prog cl_impl_validKey := consNil
theorem cok_impl_validKey : ConsOK Try.prog 9 cs_impl_validKey := ⟨clok_impl_validKey, inlNil⟩
theorem i_impl_validKey {vs : List A1} {kk : AV → List A1 → Prop} {motive : List A1 → Prop} (h : con_impl_validKey.F vs kk) (H : ∀ (key0 : Int), F_impl_validKey key0 (fun r0 => kk (.one (.c (.v (.bool r0)))) []) → motive [.c (.v (.int .i64 key0))]) : motive vs := by
  unfold con_impl_validKey at h
  dsimp only at h
  split at h
  · exact H _ h
  · exact h.elim
theorem h_impl_validKey : Holds Try.prog 55 con_impl_validKey := by
  refine holds_of_ev (rt := [.c .sc]) (T := TT) (Γ := cs_impl_validKey) (an := an_impl_validKey) (N := 9) (c := Try.f55.body.getD .skip) Try.func55 (by kernel_rfl) Try.ntmps55 (by decide) (by decide) mixed tabOK cok_impl_validKey (by kernel_rfl) ?_
  intro vs kk _ hF
  exact i_impl_validKey (motive := fun vs => Goes (ev TT cs_impl_validKey 9 an_impl_validKey (Try.f55.body.getD .skip) (st0 con_impl_validKey vs) (fin TT con_impl_validKey Try.f55.results.toList [.c .sc] vs kk))) hF (fun key0 hF => goes_of (e_impl_validKey key0 kk) (F_impl_validKey_S hF))
def con_impl_CellOf : Con := ⟨[.rd, .rd], true, [.c (.sc), .c (.sc)], fun vs k => match vs with
    | [.c (.v (.int .i64 row0)), .c (.v (.int .i64 key1))] => F_impl_CellOf row0 key1 (fun r0 => k (.one (.c (.v (.int .i64 r0)))) [])
    | _ => False, false⟩
def cl_impl_CellOf : List (FuncId × Con) := [(55, con_impl_validKey)]
def an_impl_CellOf : Ann := ⟨[], [], []⟩
def cs_impl_CellOf : Cons := ⟨cl_impl_CellOf, [], 0, [], []⟩
def fin_impl_CellOf (row0 : Int) (key1 : Int) (kk : AV → List A1 → Prop) : Kt := fin TT con_impl_CellOf Try.f46.results.toList [.c .sc] [.c (.v (.int .i64 row0)), .c (.v (.int .i64 key1))] kk
theorem g_impl_CellOf (row0 : Int) (key1 : Int) (kk : AV → List A1 → Prop) :
    ev TT cs_impl_CellOf 30 an_impl_CellOf (Try.f46.body.getD .skip) (st0 con_impl_CellOf [.c (.v (.int .i64 row0)), .c (.v (.int .i64 key1))]) (fin TT con_impl_CellOf Try.f46.results.toList [.c .sc] [.c (.v (.int .i64 row0)), .c (.v (.int .i64 key1))] kk) = G_impl_CellOf row0 key1 (fun r0 => kk (.one (.c (.v (.int .i64 r0)))) []) := by kernel_rfl
theorem e_impl_CellOf (row0 : Int) (key1 : Int) (kk : AV → List A1 → Prop) :
    ev TT cs_impl_CellOf 30 an_impl_CellOf (Try.f46.body.getD .skip) (st0 con_impl_CellOf [.c (.v (.int .i64 row0)), .c (.v (.int .i64 key1))]) (fin TT con_impl_CellOf Try.f46.results.toList [.c .sc] [.c (.v (.int .i64 row0)), .c (.v (.int .i64 key1))] kk) = S_impl_CellOf row0 key1 (fun r0 => kk (.one (.c (.v (.int .i64 r0)))) []) := by
  rw [g_impl_CellOf]
  rfl
theorem clok_impl_CellOf : ConOK Try.prog cl_impl_CellOf := consCons h_impl_validKey ⟨Try.f55, Try.func55, by kernel_rfl, ne_of_beq (by kernel_rfl)⟩ (consNil)
theorem cok_impl_CellOf : ConsOK Try.prog 30 cs_impl_CellOf := ⟨clok_impl_CellOf, inlNil⟩
theorem i_impl_CellOf {vs : List A1} {kk : AV → List A1 → Prop} {motive : List A1 → Prop} (h : con_impl_CellOf.F vs kk) (H : ∀ (row0 : Int) (key1 : Int), F_impl_CellOf row0 key1 (fun r0 => kk (.one (.c (.v (.int .i64 r0)))) []) → motive [.c (.v (.int .i64 row0)), .c (.v (.int .i64 key1))]) : motive vs := by
  unfold con_impl_CellOf at h
  dsimp only at h
  split at h
  · exact H _ _ h
  · exact h.elim
theorem h_impl_CellOf : Holds Try.prog 46 con_impl_CellOf := by
  refine holds_of_ev (rt := [.c .sc]) (T := TT) (Γ := cs_impl_CellOf) (an := an_impl_CellOf) (N := 30) (c := Try.f46.body.getD .skip) Try.func46 (by kernel_rfl) Try.ntmps46 (by decide) (by decide) mixed tabOK cok_impl_CellOf (by kernel_rfl) ?_
  intro vs kk _ hF
  exact i_impl_CellOf (motive := fun vs => Goes (ev TT cs_impl_CellOf 30 an_impl_CellOf (Try.f46.body.getD .skip) (st0 con_impl_CellOf vs) (fin TT con_impl_CellOf Try.f46.results.toList [.c .sc] vs kk))) hF (fun row0 key1 hF => goes_of (e_impl_CellOf row0 key1 kk) (F_impl_CellOf_S hF))
def con_impl_CountOf : Con := ⟨[.rd, .rd], true, [.c (.sl .int), .c (.sc)], fun vs k => match vs with
    | [.c (.ro .int s0), .c (.v (.int .i64 key1))] => F_impl_CountOf s0 key1 (fun r0 => k (.one (.c (.v (.int .i64 r0)))) [])
    | _ => False, false⟩
def cl_impl_CountOf : List (FuncId × Con) := [(46, con_impl_CellOf), (55, con_impl_validKey), (80, con_impl_ValidSketch)]
def nm0_impl_CountOf : List NStep := [.keep [0, 1, 5, 15] []]
def an_impl_CountOf : Ann := ⟨[], [(5, nm0_impl_CountOf)], []⟩
def cs_impl_CountOf : Cons := ⟨cl_impl_CountOf, [], 0, [], []⟩
def can0_impl_CountOf (key1 : Int) (s0 : List Int) (xleast5 : Int) (xt15 : Int) : St := ⟨[(0, .one (.c (.ro .int s0))), (1, .one (.c (.v (.int .i64 key1)))), (5, .one (.c (.v (.int .i64 xleast5)))), (15, .one (.c (.v (.int .i64 xt15))))], []⟩
def fin_impl_CountOf (s0 : List Int) (key1 : Int) (kk : AV → List A1 → Prop) : Kt := fin TT con_impl_CountOf Try.f43.results.toList [.c .sc] [.c (.ro .int s0), .c (.v (.int .i64 key1))] kk
def kt0_impl_CountOf (kf : Kt) : Kt := blockK 0 (seqK (evF TT cs_impl_CountOf 28 an_impl_CountOf Try.f43 [1, 1, 1, 1]) (kf))
theorem r0_impl_CountOf (s0 : List Int) (key1 : Int) (kk : AV → List A1 → Prop) (n : Nat) (xleast5 : Int) (xt15 : Int) :
    iter (evF TT cs_impl_CountOf 28 an_impl_CountOf Try.f43 [1, 1, 1, 0, 1, 0, 0]) nm0_impl_CountOf (kt0_impl_CountOf (fin_impl_CountOf s0 key1 kk)) (n + 1) (can0_impl_CountOf key1 s0 xleast5 xt15) = T0_impl_CountOf key1 s0 xleast5 xt15 (fun r0 => kk (.one (.c (.v (.int .i64 r0)))) []) (fun xleast5 xt15 => iter (evF TT cs_impl_CountOf 28 an_impl_CountOf Try.f43 [1, 1, 1, 0, 1, 0, 0]) nm0_impl_CountOf (kt0_impl_CountOf (fin_impl_CountOf s0 key1 kk)) n (can0_impl_CountOf key1 s0 xleast5 xt15)) := by kernel_rfl
theorem l0_impl_CountOf (s0 : List Int) (key1 : Int) (kk : AV → List A1 → Prop) : ∀ (n : Nat) (xleast5 : Int) (xt15 : Int), iter (evF TT cs_impl_CountOf 28 an_impl_CountOf Try.f43 [1, 1, 1, 0, 1, 0, 0]) nm0_impl_CountOf (kt0_impl_CountOf (fin_impl_CountOf s0 key1 kk)) n (can0_impl_CountOf key1 s0 xleast5 xt15) = L0_impl_CountOf key1 s0 (fun r0 => kk (.one (.c (.v (.int .i64 r0)))) []) n xleast5 xt15 := by
  intro n
  induction n with
  | zero => intros; rfl
  | succ n ih =>
    intro xleast5 xt15
    rw [r0_impl_CountOf s0 key1 kk n xleast5 xt15]
    have hb : (fun xleast5 xt15 => iter (evF TT cs_impl_CountOf 28 an_impl_CountOf Try.f43 [1, 1, 1, 0, 1, 0, 0]) nm0_impl_CountOf (kt0_impl_CountOf (fin_impl_CountOf s0 key1 kk)) n (can0_impl_CountOf key1 s0 xleast5 xt15)) = L0_impl_CountOf key1 s0 (fun r0 => kk (.one (.c (.v (.int .i64 r0)))) []) n := by
      funext xleast5 xt15; exact ih xleast5 xt15
    rw [hb]
    rfl
theorem g_impl_CountOf (s0 : List Int) (key1 : Int) (kk : AV → List A1 → Prop) :
    ev TT cs_impl_CountOf 28 an_impl_CountOf (Try.f43.body.getD .skip) (st0 con_impl_CountOf [.c (.ro .int s0), .c (.v (.int .i64 key1))]) (fin TT con_impl_CountOf Try.f43.results.toList [.c .sc] [.c (.ro .int s0), .c (.v (.int .i64 key1))] kk) = G_impl_CountOf s0 key1 (fun r0 => kk (.one (.c (.v (.int .i64 r0)))) []) (fun key1 s0 xleast5 xt15 => ∃ j, iter (evF TT cs_impl_CountOf 28 an_impl_CountOf Try.f43 [1, 1, 1, 0, 1, 0, 0]) nm0_impl_CountOf (kt0_impl_CountOf (fin_impl_CountOf s0 key1 kk)) j (can0_impl_CountOf key1 s0 xleast5 xt15)) := by kernel_rfl
theorem e_impl_CountOf (s0 : List Int) (key1 : Int) (kk : AV → List A1 → Prop) :
    ev TT cs_impl_CountOf 28 an_impl_CountOf (Try.f43.body.getD .skip) (st0 con_impl_CountOf [.c (.ro .int s0), .c (.v (.int .i64 key1))]) (fin TT con_impl_CountOf Try.f43.results.toList [.c .sc] [.c (.ro .int s0), .c (.v (.int .i64 key1))] kk) = S_impl_CountOf s0 key1 (fun r0 => kk (.one (.c (.v (.int .i64 r0)))) []) := by
  rw [g_impl_CountOf]
  have hi0 : (fun key1 s0 xleast5 xt15 => ∃ j, iter (evF TT cs_impl_CountOf 28 an_impl_CountOf Try.f43 [1, 1, 1, 0, 1, 0, 0]) nm0_impl_CountOf (kt0_impl_CountOf (fin_impl_CountOf s0 key1 kk)) j (can0_impl_CountOf key1 s0 xleast5 xt15)) = (fun key1 s0 xleast5 xt15 => ∃ j, L0_impl_CountOf key1 s0 (fun r0 => kk (.one (.c (.v (.int .i64 r0)))) []) j xleast5 xt15) := by
    funext key1 s0 xleast5 xt15
    refine congrArg Exists (funext fun j => ?_)
    rw [l0_impl_CountOf s0 key1 kk j xleast5 xt15]
  rw [hi0]
  rfl
theorem clok_impl_CountOf : ConOK Try.prog cl_impl_CountOf := consCons h_impl_CellOf ⟨Try.f46, Try.func46, by kernel_rfl, ne_of_beq (by kernel_rfl)⟩ (consCons h_impl_validKey ⟨Try.f55, Try.func55, by kernel_rfl, ne_of_beq (by kernel_rfl)⟩ (consCons h_impl_ValidSketch ⟨Try.f80, Try.func80, by kernel_rfl, ne_of_beq (by kernel_rfl)⟩ (consNil)))
theorem cok_impl_CountOf : ConsOK Try.prog 28 cs_impl_CountOf := ⟨clok_impl_CountOf, inlNil⟩
theorem i_impl_CountOf {vs : List A1} {kk : AV → List A1 → Prop} {motive : List A1 → Prop} (h : con_impl_CountOf.F vs kk) (H : ∀ (s0 : List Int) (key1 : Int), F_impl_CountOf s0 key1 (fun r0 => kk (.one (.c (.v (.int .i64 r0)))) []) → motive [.c (.ro .int s0), .c (.v (.int .i64 key1))]) : motive vs := by
  unfold con_impl_CountOf at h
  dsimp only at h
  split at h
  · exact H _ _ h
  · exact h.elim
theorem h_impl_CountOf : Holds Try.prog 43 con_impl_CountOf := by
  refine holds_of_ev (rt := [.c .sc]) (T := TT) (Γ := cs_impl_CountOf) (an := an_impl_CountOf) (N := 28) (c := Try.f43.body.getD .skip) Try.func43 (by kernel_rfl) Try.ntmps43 (by decide) (by decide) mixed tabOK cok_impl_CountOf (by kernel_rfl) ?_
  intro vs kk _ hF
  exact i_impl_CountOf (motive := fun vs => Goes (ev TT cs_impl_CountOf 28 an_impl_CountOf (Try.f43.body.getD .skip) (st0 con_impl_CountOf vs) (fin TT con_impl_CountOf Try.f43.results.toList [.c .sc] vs kk))) hF (fun s0 key1 hF => goes_of (e_impl_CountOf s0 key1 kk) (F_impl_CountOf_S hF))
def con_impl_Prefers : Con := ⟨[.rd, .rd, .rd], true, [.c (.sl .int), .c (.sc), .c (.sc)], fun vs k => match vs with
    | [.c (.ro .int s0), .c (.v (.int .i64 a1)), .c (.v (.int .i64 b2))] => F_impl_Prefers s0 a1 b2 (fun r0 => k (.one (.c (.v (.bool r0)))) [])
    | _ => False, false⟩
def cl_impl_Prefers : List (FuncId × Con) := [(43, con_impl_CountOf), (55, con_impl_validKey), (80, con_impl_ValidSketch)]
def an_impl_Prefers : Ann := ⟨[], [], []⟩
def cs_impl_Prefers : Cons := ⟨cl_impl_Prefers, [], 0, [], []⟩
def fin_impl_Prefers (s0 : List Int) (a1 : Int) (b2 : Int) (kk : AV → List A1 → Prop) : Kt := fin TT con_impl_Prefers Try.f41.results.toList [.c .sc] [.c (.ro .int s0), .c (.v (.int .i64 a1)), .c (.v (.int .i64 b2))] kk
theorem g_impl_Prefers (s0 : List Int) (a1 : Int) (b2 : Int) (kk : AV → List A1 → Prop) :
    ev TT cs_impl_Prefers 27 an_impl_Prefers (Try.f41.body.getD .skip) (st0 con_impl_Prefers [.c (.ro .int s0), .c (.v (.int .i64 a1)), .c (.v (.int .i64 b2))]) (fin TT con_impl_Prefers Try.f41.results.toList [.c .sc] [.c (.ro .int s0), .c (.v (.int .i64 a1)), .c (.v (.int .i64 b2))] kk) = G_impl_Prefers s0 a1 b2 (fun r0 => kk (.one (.c (.v (.bool r0)))) []) := by kernel_rfl
theorem e_impl_Prefers (s0 : List Int) (a1 : Int) (b2 : Int) (kk : AV → List A1 → Prop) :
    ev TT cs_impl_Prefers 27 an_impl_Prefers (Try.f41.body.getD .skip) (st0 con_impl_Prefers [.c (.ro .int s0), .c (.v (.int .i64 a1)), .c (.v (.int .i64 b2))]) (fin TT con_impl_Prefers Try.f41.results.toList [.c .sc] [.c (.ro .int s0), .c (.v (.int .i64 a1)), .c (.v (.int .i64 b2))] kk) = S_impl_Prefers s0 a1 b2 (fun r0 => kk (.one (.c (.v (.bool r0)))) []) := by
  rw [g_impl_Prefers]
  rfl
theorem clok_impl_Prefers : ConOK Try.prog cl_impl_Prefers := consCons h_impl_CountOf ⟨Try.f43, Try.func43, by kernel_rfl, ne_of_beq (by kernel_rfl)⟩ (consCons h_impl_validKey ⟨Try.f55, Try.func55, by kernel_rfl, ne_of_beq (by kernel_rfl)⟩ (consCons h_impl_ValidSketch ⟨Try.f80, Try.func80, by kernel_rfl, ne_of_beq (by kernel_rfl)⟩ (consNil)))
theorem cok_impl_Prefers : ConsOK Try.prog 27 cs_impl_Prefers := ⟨clok_impl_Prefers, inlNil⟩
theorem i_impl_Prefers {vs : List A1} {kk : AV → List A1 → Prop} {motive : List A1 → Prop} (h : con_impl_Prefers.F vs kk) (H : ∀ (s0 : List Int) (a1 : Int) (b2 : Int), F_impl_Prefers s0 a1 b2 (fun r0 => kk (.one (.c (.v (.bool r0)))) []) → motive [.c (.ro .int s0), .c (.v (.int .i64 a1)), .c (.v (.int .i64 b2))]) : motive vs := by
  unfold con_impl_Prefers at h
  dsimp only at h
  split at h
  · exact H _ _ _ h
  · exact h.elim
theorem h_impl_Prefers : Holds Try.prog 41 con_impl_Prefers := by
  refine holds_of_ev (rt := [.c .sc]) (T := TT) (Γ := cs_impl_Prefers) (an := an_impl_Prefers) (N := 27) (c := Try.f41.body.getD .skip) Try.func41 (by kernel_rfl) Try.ntmps41 (by decide) (by decide) mixed tabOK cok_impl_Prefers (by kernel_rfl) ?_
  intro vs kk _ hF
  exact i_impl_Prefers (motive := fun vs => Goes (ev TT cs_impl_Prefers 27 an_impl_Prefers (Try.f41.body.getD .skip) (st0 con_impl_Prefers vs) (fin TT con_impl_Prefers Try.f41.results.toList [.c .sc] vs kk))) hF (fun s0 a1 b2 hF => goes_of (e_impl_Prefers s0 a1 b2 kk) (F_impl_Prefers_S hF))
def con_spec_inRange : Con := ⟨[.rd, .rd, .rd], true, [.c (.sc), .c (.sc), .c (.sc)], fun vs k => match vs with
    | [.c (.v (.int .i64 n0)), .c (.v (.int .i64 low1)), .c (.v (.int .i64 high2))] => F_spec_inRange n0 low1 high2 (fun r0 => k (.one (.c (.v (.bool r0)))) [])
    | _ => False, false⟩
def cl_spec_inRange : List (FuncId × Con) := []
def an_spec_inRange : Ann := ⟨[], [], []⟩
def cs_spec_inRange : Cons := ⟨cl_spec_inRange, [], 0, [], []⟩
def fin_spec_inRange (n0 : Int) (low1 : Int) (high2 : Int) (kk : AV → List A1 → Prop) : Kt := fin TT con_spec_inRange Try.f64.results.toList [.c .sc] [.c (.v (.int .i64 n0)), .c (.v (.int .i64 low1)), .c (.v (.int .i64 high2))] kk
theorem g_spec_inRange (n0 : Int) (low1 : Int) (high2 : Int) (kk : AV → List A1 → Prop) :
    ev TT cs_spec_inRange 15 an_spec_inRange (Try.f64.body.getD .skip) (st0 con_spec_inRange [.c (.v (.int .i64 n0)), .c (.v (.int .i64 low1)), .c (.v (.int .i64 high2))]) (fin TT con_spec_inRange Try.f64.results.toList [.c .sc] [.c (.v (.int .i64 n0)), .c (.v (.int .i64 low1)), .c (.v (.int .i64 high2))] kk) = G_spec_inRange n0 low1 high2 (fun r0 => kk (.one (.c (.v (.bool r0)))) []) := by kernel_rfl
theorem e_spec_inRange (n0 : Int) (low1 : Int) (high2 : Int) (kk : AV → List A1 → Prop) :
    ev TT cs_spec_inRange 15 an_spec_inRange (Try.f64.body.getD .skip) (st0 con_spec_inRange [.c (.v (.int .i64 n0)), .c (.v (.int .i64 low1)), .c (.v (.int .i64 high2))]) (fin TT con_spec_inRange Try.f64.results.toList [.c .sc] [.c (.v (.int .i64 n0)), .c (.v (.int .i64 low1)), .c (.v (.int .i64 high2))] kk) = S_spec_inRange n0 low1 high2 (fun r0 => kk (.one (.c (.v (.bool r0)))) []) := by
  rw [g_spec_inRange]
  rfl
theorem clok_spec_inRange : ConOK Try.prog cl_spec_inRange := consNil
theorem cok_spec_inRange : ConsOK Try.prog 15 cs_spec_inRange := ⟨clok_spec_inRange, inlNil⟩
theorem i_spec_inRange {vs : List A1} {kk : AV → List A1 → Prop} {motive : List A1 → Prop} (h : con_spec_inRange.F vs kk) (H : ∀ (n0 : Int) (low1 : Int) (high2 : Int), F_spec_inRange n0 low1 high2 (fun r0 => kk (.one (.c (.v (.bool r0)))) []) → motive [.c (.v (.int .i64 n0)), .c (.v (.int .i64 low1)), .c (.v (.int .i64 high2))]) : motive vs := by
  unfold con_spec_inRange at h
  dsimp only at h
  split at h
  · exact H _ _ _ h
  · exact h.elim
theorem h_spec_inRange : Holds Try.prog 64 con_spec_inRange := by
  refine holds_of_ev (rt := [.c .sc]) (T := TT) (Γ := cs_spec_inRange) (an := an_spec_inRange) (N := 15) (c := Try.f64.body.getD .skip) Try.func64 (by kernel_rfl) Try.ntmps64 (by decide) (by decide) mixed tabOK cok_spec_inRange (by kernel_rfl) ?_
  intro vs kk _ hF
  exact i_spec_inRange (motive := fun vs => Goes (ev TT cs_spec_inRange 15 an_spec_inRange (Try.f64.body.getD .skip) (st0 con_spec_inRange vs) (fin TT con_spec_inRange Try.f64.results.toList [.c .sc] vs kk))) hF (fun n0 low1 high2 hF => goes_of (e_spec_inRange n0 low1 high2 kk) (F_spec_inRange_S hF))
def con_spec_allIn : Con := ⟨[.rd, .rd, .rd], true, [.c (.sl .int), .c (.sc), .c (.sc)], fun vs k => match vs with
    | [.c (.ro .int list0), .c (.v (.int .i64 low1)), .c (.v (.int .i64 high2))] => F_spec_allIn list0 low1 high2 (fun r0 => k (.one (.c (.v (.bool r0)))) [])
    | _ => False, false⟩
def cl_spec_allIn : List (FuncId × Con) := [(64, con_spec_inRange)]
def nm0_spec_allIn : List NStep := [.keep [0, 1, 2, 7] []]
def an_spec_allIn : Ann := ⟨[], [(2, nm0_spec_allIn)], []⟩
def cs_spec_allIn : Cons := ⟨cl_spec_allIn, [], 0, [], []⟩
def can0_spec_allIn (high2 : Int) (list0 : List Int) (low1 : Int) (xi7 : Int) : St := ⟨[(0, .one (.c (.ro .int list0))), (1, .one (.c (.v (.int .i64 low1)))), (2, .one (.c (.v (.int .i64 high2)))), (7, .one (.c (.v (.int .i64 xi7))))], []⟩
def fin_spec_allIn (list0 : List Int) (low1 : Int) (high2 : Int) (kk : AV → List A1 → Prop) : Kt := fin TT con_spec_allIn Try.f96.results.toList [.c .sc] [.c (.ro .int list0), .c (.v (.int .i64 low1)), .c (.v (.int .i64 high2))] kk
def kt0_spec_allIn (kf : Kt) : Kt := blockK 0 (seqK (evF TT cs_spec_allIn 22 an_spec_allIn Try.f96 [1, 1]) (kf))
theorem r0_spec_allIn (list0 : List Int) (low1 : Int) (high2 : Int) (kk : AV → List A1 → Prop) (n : Nat) (xi7 : Int) :
    iter (evF TT cs_spec_allIn 22 an_spec_allIn Try.f96 [1, 0, 1, 0, 0]) nm0_spec_allIn (kt0_spec_allIn (fin_spec_allIn list0 low1 high2 kk)) (n + 1) (can0_spec_allIn high2 list0 low1 xi7) = T0_spec_allIn high2 list0 low1 xi7 (fun r0 => kk (.one (.c (.v (.bool r0)))) []) (fun xi7 => iter (evF TT cs_spec_allIn 22 an_spec_allIn Try.f96 [1, 0, 1, 0, 0]) nm0_spec_allIn (kt0_spec_allIn (fin_spec_allIn list0 low1 high2 kk)) n (can0_spec_allIn high2 list0 low1 xi7)) := by kernel_rfl
theorem l0_spec_allIn (list0 : List Int) (low1 : Int) (high2 : Int) (kk : AV → List A1 → Prop) : ∀ (n : Nat) (xi7 : Int), iter (evF TT cs_spec_allIn 22 an_spec_allIn Try.f96 [1, 0, 1, 0, 0]) nm0_spec_allIn (kt0_spec_allIn (fin_spec_allIn list0 low1 high2 kk)) n (can0_spec_allIn high2 list0 low1 xi7) = L0_spec_allIn high2 list0 low1 (fun r0 => kk (.one (.c (.v (.bool r0)))) []) n xi7 := by
  intro n
  induction n with
  | zero => intros; rfl
  | succ n ih =>
    intro xi7
    rw [r0_spec_allIn list0 low1 high2 kk n xi7]
    have hb : (fun xi7 => iter (evF TT cs_spec_allIn 22 an_spec_allIn Try.f96 [1, 0, 1, 0, 0]) nm0_spec_allIn (kt0_spec_allIn (fin_spec_allIn list0 low1 high2 kk)) n (can0_spec_allIn high2 list0 low1 xi7)) = L0_spec_allIn high2 list0 low1 (fun r0 => kk (.one (.c (.v (.bool r0)))) []) n := by
      funext xi7; exact ih xi7
    rw [hb]
    rfl
theorem g_spec_allIn (list0 : List Int) (low1 : Int) (high2 : Int) (kk : AV → List A1 → Prop) :
    ev TT cs_spec_allIn 22 an_spec_allIn (Try.f96.body.getD .skip) (st0 con_spec_allIn [.c (.ro .int list0), .c (.v (.int .i64 low1)), .c (.v (.int .i64 high2))]) (fin TT con_spec_allIn Try.f96.results.toList [.c .sc] [.c (.ro .int list0), .c (.v (.int .i64 low1)), .c (.v (.int .i64 high2))] kk) = G_spec_allIn list0 low1 high2 (fun high2 list0 low1 xi7 => ∃ j, iter (evF TT cs_spec_allIn 22 an_spec_allIn Try.f96 [1, 0, 1, 0, 0]) nm0_spec_allIn (kt0_spec_allIn (fin_spec_allIn list0 low1 high2 kk)) j (can0_spec_allIn high2 list0 low1 xi7)) := by kernel_rfl
theorem e_spec_allIn (list0 : List Int) (low1 : Int) (high2 : Int) (kk : AV → List A1 → Prop) :
    ev TT cs_spec_allIn 22 an_spec_allIn (Try.f96.body.getD .skip) (st0 con_spec_allIn [.c (.ro .int list0), .c (.v (.int .i64 low1)), .c (.v (.int .i64 high2))]) (fin TT con_spec_allIn Try.f96.results.toList [.c .sc] [.c (.ro .int list0), .c (.v (.int .i64 low1)), .c (.v (.int .i64 high2))] kk) = S_spec_allIn list0 low1 high2 (fun r0 => kk (.one (.c (.v (.bool r0)))) []) := by
  rw [g_spec_allIn]
  have hi0 : (fun high2 list0 low1 xi7 => ∃ j, iter (evF TT cs_spec_allIn 22 an_spec_allIn Try.f96 [1, 0, 1, 0, 0]) nm0_spec_allIn (kt0_spec_allIn (fin_spec_allIn list0 low1 high2 kk)) j (can0_spec_allIn high2 list0 low1 xi7)) = (fun high2 list0 low1 xi7 => ∃ j, L0_spec_allIn high2 list0 low1 (fun r0 => kk (.one (.c (.v (.bool r0)))) []) j xi7) := by
    funext high2 list0 low1 xi7
    refine congrArg Exists (funext fun j => ?_)
    rw [l0_spec_allIn list0 low1 high2 kk j xi7]
  rw [hi0]
  rfl
theorem clok_spec_allIn : ConOK Try.prog cl_spec_allIn := consCons h_spec_inRange ⟨Try.f64, Try.func64, by kernel_rfl, ne_of_beq (by kernel_rfl)⟩ (consNil)
theorem cok_spec_allIn : ConsOK Try.prog 22 cs_spec_allIn := ⟨clok_spec_allIn, inlNil⟩
theorem i_spec_allIn {vs : List A1} {kk : AV → List A1 → Prop} {motive : List A1 → Prop} (h : con_spec_allIn.F vs kk) (H : ∀ (list0 : List Int) (low1 : Int) (high2 : Int), F_spec_allIn list0 low1 high2 (fun r0 => kk (.one (.c (.v (.bool r0)))) []) → motive [.c (.ro .int list0), .c (.v (.int .i64 low1)), .c (.v (.int .i64 high2))]) : motive vs := by
  unfold con_spec_allIn at h
  dsimp only at h
  split at h
  · exact H _ _ _ h
  · exact h.elim
theorem h_spec_allIn : Holds Try.prog 96 con_spec_allIn := by
  refine holds_of_ev (rt := [.c .sc]) (T := TT) (Γ := cs_spec_allIn) (an := an_spec_allIn) (N := 22) (c := Try.f96.body.getD .skip) Try.func96 (by kernel_rfl) Try.ntmps96 (by decide) (by decide) mixed tabOK cok_spec_allIn (by kernel_rfl) ?_
  intro vs kk _ hF
  exact i_spec_allIn (motive := fun vs => Goes (ev TT cs_spec_allIn 22 an_spec_allIn (Try.f96.body.getD .skip) (st0 con_spec_allIn vs) (fin TT con_spec_allIn Try.f96.results.toList [.c .sc] vs kk))) hF (fun list0 low1 high2 hF => goes_of (e_spec_allIn list0 low1 high2 kk) (F_spec_allIn_S hF))
def con_spec_validSketch : Con := ⟨[.rd], true, [.c (.sl .int)], fun vs k => match vs with
    | [.c (.ro .int s0)] => F_spec_validSketch s0 (fun r0 => k (.one (.c (.v (.bool r0)))) [])
    | _ => False, false⟩
def cl_spec_validSketch : List (FuncId × Con) := [(96, con_spec_allIn)]
def an_spec_validSketch : Ann := ⟨[], [], []⟩
def cs_spec_validSketch : Cons := ⟨cl_spec_validSketch, [], 0, [], []⟩
def fin_spec_validSketch (s0 : List Int) (kk : AV → List A1 → Prop) : Kt := fin TT con_spec_validSketch Try.f84.results.toList [.c .sc] [.c (.ro .int s0)] kk
theorem g_spec_validSketch (s0 : List Int) (kk : AV → List A1 → Prop) :
    ev TT cs_spec_validSketch 10 an_spec_validSketch (Try.f84.body.getD .skip) (st0 con_spec_validSketch [.c (.ro .int s0)]) (fin TT con_spec_validSketch Try.f84.results.toList [.c .sc] [.c (.ro .int s0)] kk) = G_spec_validSketch s0 (fun r0 => kk (.one (.c (.v (.bool r0)))) []) := by kernel_rfl
theorem e_spec_validSketch (s0 : List Int) (kk : AV → List A1 → Prop) :
    ev TT cs_spec_validSketch 10 an_spec_validSketch (Try.f84.body.getD .skip) (st0 con_spec_validSketch [.c (.ro .int s0)]) (fin TT con_spec_validSketch Try.f84.results.toList [.c .sc] [.c (.ro .int s0)] kk) = S_spec_validSketch s0 (fun r0 => kk (.one (.c (.v (.bool r0)))) []) := by
  rw [g_spec_validSketch]
  rfl
theorem clok_spec_validSketch : ConOK Try.prog cl_spec_validSketch := consCons h_spec_allIn ⟨Try.f96, Try.func96, by kernel_rfl, ne_of_beq (by kernel_rfl)⟩ (consNil)
theorem cok_spec_validSketch : ConsOK Try.prog 10 cs_spec_validSketch := ⟨clok_spec_validSketch, inlNil⟩
theorem i_spec_validSketch {vs : List A1} {kk : AV → List A1 → Prop} {motive : List A1 → Prop} (h : con_spec_validSketch.F vs kk) (H : ∀ (s0 : List Int), F_spec_validSketch s0 (fun r0 => kk (.one (.c (.v (.bool r0)))) []) → motive [.c (.ro .int s0)]) : motive vs := by
  unfold con_spec_validSketch at h
  dsimp only at h
  split at h
  · exact H _ h
  · exact h.elim
theorem h_spec_validSketch : Holds Try.prog 84 con_spec_validSketch := by
  refine holds_of_ev (rt := [.c .sc]) (T := TT) (Γ := cs_spec_validSketch) (an := an_spec_validSketch) (N := 10) (c := Try.f84.body.getD .skip) Try.func84 (by kernel_rfl) Try.ntmps84 (by decide) (by decide) mixed tabOK cok_spec_validSketch (by kernel_rfl) ?_
  intro vs kk _ hF
  exact i_spec_validSketch (motive := fun vs => Goes (ev TT cs_spec_validSketch 10 an_spec_validSketch (Try.f84.body.getD .skip) (st0 con_spec_validSketch vs) (fin TT con_spec_validSketch Try.f84.results.toList [.c .sc] vs kk))) hF (fun s0 hF => goes_of (e_spec_validSketch s0 kk) (F_spec_validSketch_S hF))
def con_spec_count : Con := ⟨[.rd, .rd], true, [.c (.sl .int), .c (.sc)], fun vs k => match vs with
    | [.c (.ro .int s0), .c (.v (.int .i64 key1))] => F_spec_count s0 key1 (fun r0 => k (.one (.c (.v (.int .i64 r0)))) [])
    | _ => False, false⟩
def cl_spec_count : List (FuncId × Con) := [(109, con_spec_cell)]
def nm0_spec_count : List NStep := [.keep [0, 1, 5, 6] []]
def an_spec_count : Ann := ⟨[], [(3, nm0_spec_count)], []⟩
def cs_spec_count : Cons := ⟨cl_spec_count, [], 0, [], []⟩
def can0_spec_count (key1 : Int) (s0 : List Int) (xn5 : Int) (xr6 : Int) : St := ⟨[(0, .one (.c (.ro .int s0))), (1, .one (.c (.v (.int .i64 key1)))), (5, .one (.c (.v (.int .i64 xn5)))), (6, .one (.c (.v (.int .i64 xr6))))], []⟩
def fin_spec_count (s0 : List Int) (key1 : Int) (kk : AV → List A1 → Prop) : Kt := fin TT con_spec_count Try.f85.results.toList [.c .sc] [.c (.ro .int s0), .c (.v (.int .i64 key1))] kk
def kt0_spec_count (kf : Kt) : Kt := blockK 0 (seqK (evF TT cs_spec_count 20 an_spec_count Try.f85 [1, 1, 1]) (kf))
theorem r0_spec_count (s0 : List Int) (key1 : Int) (kk : AV → List A1 → Prop) (n : Nat) (xn5 : Int) (xr6 : Int) :
    iter (evF TT cs_spec_count 20 an_spec_count Try.f85 [1, 1, 0, 1, 0, 0]) nm0_spec_count (kt0_spec_count (fin_spec_count s0 key1 kk)) (n + 1) (can0_spec_count key1 s0 xn5 xr6) = T0_spec_count key1 s0 xn5 xr6 (fun r0 => kk (.one (.c (.v (.int .i64 r0)))) []) (fun xn5 xr6 => iter (evF TT cs_spec_count 20 an_spec_count Try.f85 [1, 1, 0, 1, 0, 0]) nm0_spec_count (kt0_spec_count (fin_spec_count s0 key1 kk)) n (can0_spec_count key1 s0 xn5 xr6)) := by kernel_rfl
theorem l0_spec_count (s0 : List Int) (key1 : Int) (kk : AV → List A1 → Prop) : ∀ (n : Nat) (xn5 : Int) (xr6 : Int), iter (evF TT cs_spec_count 20 an_spec_count Try.f85 [1, 1, 0, 1, 0, 0]) nm0_spec_count (kt0_spec_count (fin_spec_count s0 key1 kk)) n (can0_spec_count key1 s0 xn5 xr6) = L0_spec_count key1 s0 (fun r0 => kk (.one (.c (.v (.int .i64 r0)))) []) n xn5 xr6 := by
  intro n
  induction n with
  | zero => intros; rfl
  | succ n ih =>
    intro xn5 xr6
    rw [r0_spec_count s0 key1 kk n xn5 xr6]
    have hb : (fun xn5 xr6 => iter (evF TT cs_spec_count 20 an_spec_count Try.f85 [1, 1, 0, 1, 0, 0]) nm0_spec_count (kt0_spec_count (fin_spec_count s0 key1 kk)) n (can0_spec_count key1 s0 xn5 xr6)) = L0_spec_count key1 s0 (fun r0 => kk (.one (.c (.v (.int .i64 r0)))) []) n := by
      funext xn5 xr6; exact ih xn5 xr6
    rw [hb]
    rfl
theorem g_spec_count (s0 : List Int) (key1 : Int) (kk : AV → List A1 → Prop) :
    ev TT cs_spec_count 20 an_spec_count (Try.f85.body.getD .skip) (st0 con_spec_count [.c (.ro .int s0), .c (.v (.int .i64 key1))]) (fin TT con_spec_count Try.f85.results.toList [.c .sc] [.c (.ro .int s0), .c (.v (.int .i64 key1))] kk) = G_spec_count s0 key1 (fun key1 s0 xn5 xr6 => ∃ j, iter (evF TT cs_spec_count 20 an_spec_count Try.f85 [1, 1, 0, 1, 0, 0]) nm0_spec_count (kt0_spec_count (fin_spec_count s0 key1 kk)) j (can0_spec_count key1 s0 xn5 xr6)) := by kernel_rfl
theorem e_spec_count (s0 : List Int) (key1 : Int) (kk : AV → List A1 → Prop) :
    ev TT cs_spec_count 20 an_spec_count (Try.f85.body.getD .skip) (st0 con_spec_count [.c (.ro .int s0), .c (.v (.int .i64 key1))]) (fin TT con_spec_count Try.f85.results.toList [.c .sc] [.c (.ro .int s0), .c (.v (.int .i64 key1))] kk) = S_spec_count s0 key1 (fun r0 => kk (.one (.c (.v (.int .i64 r0)))) []) := by
  rw [g_spec_count]
  have hi0 : (fun key1 s0 xn5 xr6 => ∃ j, iter (evF TT cs_spec_count 20 an_spec_count Try.f85 [1, 1, 0, 1, 0, 0]) nm0_spec_count (kt0_spec_count (fin_spec_count s0 key1 kk)) j (can0_spec_count key1 s0 xn5 xr6)) = (fun key1 s0 xn5 xr6 => ∃ j, L0_spec_count key1 s0 (fun r0 => kk (.one (.c (.v (.int .i64 r0)))) []) j xn5 xr6) := by
    funext key1 s0 xn5 xr6
    refine congrArg Exists (funext fun j => ?_)
    rw [l0_spec_count s0 key1 kk j xn5 xr6]
  rw [hi0]
  rfl
theorem clok_spec_count : ConOK Try.prog cl_spec_count := consCons h_spec_cell ⟨Try.f109, Try.func109, by kernel_rfl, ne_of_beq (by kernel_rfl)⟩ (consNil)
theorem cok_spec_count : ConsOK Try.prog 20 cs_spec_count := ⟨clok_spec_count, inlNil⟩
theorem i_spec_count {vs : List A1} {kk : AV → List A1 → Prop} {motive : List A1 → Prop} (h : con_spec_count.F vs kk) (H : ∀ (s0 : List Int) (key1 : Int), F_spec_count s0 key1 (fun r0 => kk (.one (.c (.v (.int .i64 r0)))) []) → motive [.c (.ro .int s0), .c (.v (.int .i64 key1))]) : motive vs := by
  unfold con_spec_count at h
  dsimp only at h
  split at h
  · exact H _ _ h
  · exact h.elim
theorem h_spec_count : Holds Try.prog 85 con_spec_count := by
  refine holds_of_ev (rt := [.c .sc]) (T := TT) (Γ := cs_spec_count) (an := an_spec_count) (N := 20) (c := Try.f85.body.getD .skip) Try.func85 (by kernel_rfl) Try.ntmps85 (by decide) (by decide) mixed tabOK cok_spec_count (by kernel_rfl) ?_
  intro vs kk _ hF
  exact i_spec_count (motive := fun vs => Goes (ev TT cs_spec_count 20 an_spec_count (Try.f85.body.getD .skip) (st0 con_spec_count vs) (fin TT con_spec_count Try.f85.results.toList [.c .sc] vs kk))) hF (fun s0 key1 hF => goes_of (e_spec_count s0 key1 kk) (F_spec_count_S hF))
def con_spec_Prefers : Con := ⟨[.rd, .rd, .rd], true, [.c (.sl .int), .c (.sc), .c (.sc)], fun vs k => match vs with
    | [.c (.ro .int s0), .c (.v (.int .i64 a1)), .c (.v (.int .i64 b2))] => F_spec_Prefers s0 a1 b2 (fun r0 => k (.one (.c (.v (.bool r0)))) [])
    | _ => False, false⟩
def cl_spec_Prefers : List (FuncId × Con) := [(64, con_spec_inRange), (84, con_spec_validSketch), (85, con_spec_count)]
def an_spec_Prefers : Ann := ⟨[], [], []⟩
def cs_spec_Prefers : Cons := ⟨cl_spec_Prefers, [], 0, [], []⟩
def fin_spec_Prefers (s0 : List Int) (a1 : Int) (b2 : Int) (kk : AV → List A1 → Prop) : Kt := fin TT con_spec_Prefers Try.f42.results.toList [.c .sc] [.c (.ro .int s0), .c (.v (.int .i64 a1)), .c (.v (.int .i64 b2))] kk
theorem g_spec_Prefers (s0 : List Int) (a1 : Int) (b2 : Int) (kk : AV → List A1 → Prop) :
    ev TT cs_spec_Prefers 26 an_spec_Prefers (Try.f42.body.getD .skip) (st0 con_spec_Prefers [.c (.ro .int s0), .c (.v (.int .i64 a1)), .c (.v (.int .i64 b2))]) (fin TT con_spec_Prefers Try.f42.results.toList [.c .sc] [.c (.ro .int s0), .c (.v (.int .i64 a1)), .c (.v (.int .i64 b2))] kk) = G_spec_Prefers s0 a1 b2 (fun r0 => kk (.one (.c (.v (.bool r0)))) []) := by kernel_rfl
theorem e_spec_Prefers (s0 : List Int) (a1 : Int) (b2 : Int) (kk : AV → List A1 → Prop) :
    ev TT cs_spec_Prefers 26 an_spec_Prefers (Try.f42.body.getD .skip) (st0 con_spec_Prefers [.c (.ro .int s0), .c (.v (.int .i64 a1)), .c (.v (.int .i64 b2))]) (fin TT con_spec_Prefers Try.f42.results.toList [.c .sc] [.c (.ro .int s0), .c (.v (.int .i64 a1)), .c (.v (.int .i64 b2))] kk) = S_spec_Prefers s0 a1 b2 (fun r0 => kk (.one (.c (.v (.bool r0)))) []) := by
  rw [g_spec_Prefers]
  rfl
theorem clok_spec_Prefers : ConOK Try.prog cl_spec_Prefers := consCons h_spec_inRange ⟨Try.f64, Try.func64, by kernel_rfl, ne_of_beq (by kernel_rfl)⟩ (consCons h_spec_validSketch ⟨Try.f84, Try.func84, by kernel_rfl, ne_of_beq (by kernel_rfl)⟩ (consCons h_spec_count ⟨Try.f85, Try.func85, by kernel_rfl, ne_of_beq (by kernel_rfl)⟩ (consNil)))
theorem cok_spec_Prefers : ConsOK Try.prog 26 cs_spec_Prefers := ⟨clok_spec_Prefers, inlNil⟩
theorem i_spec_Prefers {vs : List A1} {kk : AV → List A1 → Prop} {motive : List A1 → Prop} (h : con_spec_Prefers.F vs kk) (H : ∀ (s0 : List Int) (a1 : Int) (b2 : Int), F_spec_Prefers s0 a1 b2 (fun r0 => kk (.one (.c (.v (.bool r0)))) []) → motive [.c (.ro .int s0), .c (.v (.int .i64 a1)), .c (.v (.int .i64 b2))]) : motive vs := by
  unfold con_spec_Prefers at h
  dsimp only at h
  split at h
  · exact H _ _ _ h
  · exact h.elim
theorem h_spec_Prefers : Holds Try.prog 42 con_spec_Prefers := by
  refine holds_of_ev (rt := [.c .sc]) (T := TT) (Γ := cs_spec_Prefers) (an := an_spec_Prefers) (N := 26) (c := Try.f42.body.getD .skip) Try.func42 (by kernel_rfl) Try.ntmps42 (by decide) (by decide) mixed tabOK cok_spec_Prefers (by kernel_rfl) ?_
  intro vs kk _ hF
  exact i_spec_Prefers (motive := fun vs => Goes (ev TT cs_spec_Prefers 26 an_spec_Prefers (Try.f42.body.getD .skip) (st0 con_spec_Prefers vs) (fin TT con_spec_Prefers Try.f42.results.toList [.c .sc] vs kk))) hF (fun s0 a1 b2 hF => goes_of (e_spec_Prefers s0 a1 b2 kk) (F_spec_Prefers_S hF))
def con_impl_EmptySketch : Con := ⟨[], true, [], fun vs k => match vs with
    | [] => F_impl_EmptySketch (fun r0 => k (.one (.c (.ro .int r0))) [])
    | _ => False, false⟩
def cl_impl_EmptySketch : List (FuncId × Con) := []
def an_impl_EmptySketch : Ann := ⟨[], [], []⟩
def cs_impl_EmptySketch : Cons := ⟨cl_impl_EmptySketch, [], 0, [], []⟩
def fin_impl_EmptySketch (kk : AV → List A1 → Prop) : Kt := fin TT con_impl_EmptySketch Try.f44.results.toList [.c (.sl .int)] [] kk
theorem g_impl_EmptySketch (kk : AV → List A1 → Prop) :
    ev TT cs_impl_EmptySketch 2 an_impl_EmptySketch (Try.f44.body.getD .skip) (st0 con_impl_EmptySketch []) (fin TT con_impl_EmptySketch Try.f44.results.toList [.c (.sl .int)] [] kk) = G_impl_EmptySketch (fun r0 => kk (.one (.c (.ro .int r0))) []) := by kernel_rfl
theorem e_impl_EmptySketch (kk : AV → List A1 → Prop) :
    ev TT cs_impl_EmptySketch 2 an_impl_EmptySketch (Try.f44.body.getD .skip) (st0 con_impl_EmptySketch []) (fin TT con_impl_EmptySketch Try.f44.results.toList [.c (.sl .int)] [] kk) = S_impl_EmptySketch (fun r0 => kk (.one (.c (.ro .int r0))) []) := by
  rw [g_impl_EmptySketch]
  rfl
theorem clok_impl_EmptySketch : ConOK Try.prog cl_impl_EmptySketch := consNil
theorem cok_impl_EmptySketch : ConsOK Try.prog 2 cs_impl_EmptySketch := ⟨clok_impl_EmptySketch, inlNil⟩
theorem i_impl_EmptySketch {vs : List A1} {kk : AV → List A1 → Prop} {motive : List A1 → Prop} (h : con_impl_EmptySketch.F vs kk) (H : F_impl_EmptySketch (fun r0 => kk (.one (.c (.ro .int r0))) []) → motive []) : motive vs := by
  unfold con_impl_EmptySketch at h
  dsimp only at h
  split at h
  · exact H h
  · exact h.elim
theorem h_impl_EmptySketch : Holds Try.prog 44 con_impl_EmptySketch := by
  refine holds_of_ev (rt := [.c (.sl .int)]) (T := TT) (Γ := cs_impl_EmptySketch) (an := an_impl_EmptySketch) (N := 2) (c := Try.f44.body.getD .skip) Try.func44 (by kernel_rfl) Try.ntmps44 (by decide) (by decide) mixed tabOK cok_impl_EmptySketch (by kernel_rfl) ?_
  intro vs kk _ hF
  exact i_impl_EmptySketch (motive := fun vs => Goes (ev TT cs_impl_EmptySketch 2 an_impl_EmptySketch (Try.f44.body.getD .skip) (st0 con_impl_EmptySketch vs) (fin TT con_impl_EmptySketch Try.f44.results.toList [.c (.sl .int)] vs kk))) hF (fun hF => goes_of (e_impl_EmptySketch kk) (F_impl_EmptySketch_S hF))
def con_impl_AddKey : Con := ⟨[.rd, .rd], true, [.c (.sl .int), .c (.sc)], fun vs k => match vs with
    | [.c (.ro .int s0), .c (.v (.int .i64 key1))] => F_impl_AddKey s0 key1 (fun r0 => k (.one (.c (.ro .int r0))) [])
    | _ => False, false⟩
def cl_impl_AddKey : List (FuncId × Con) := [(46, con_impl_CellOf), (55, con_impl_validKey), (80, con_impl_ValidSketch)]
def nm0_impl_AddKey : List NStep := [.keep [1, 5, 22] [288]]
def an_impl_AddKey : Ann := ⟨[], [(6, nm0_impl_AddKey)], []⟩
def cs_impl_AddKey : Cons := ⟨cl_impl_AddKey, [], 0, [], []⟩
def can0_impl_AddKey (key1 : Int) (xt22 : Int) (xy18 : List Int) : St := ⟨[(1, .one (.c (.v (.int .i64 key1)))), (5, .one (.c (.ow 288))), (22, .one (.c (.v (.int .i64 xt22))))], [(288, .row .int xy18)]⟩
def fin_impl_AddKey (s0 : List Int) (key1 : Int) (kk : AV → List A1 → Prop) : Kt := fin TT con_impl_AddKey Try.f45.results.toList [.c (.sl .int)] [.c (.ro .int s0), .c (.v (.int .i64 key1))] kk
def kt0_impl_AddKey (kf : Kt) : Kt := blockK 0 (seqK (evF TT cs_impl_AddKey 39 an_impl_AddKey Try.f45 [1, 1, 1, 1, 1]) (kf))
theorem r0_impl_AddKey (s0 : List Int) (key1 : Int) (kk : AV → List A1 → Prop) (n : Nat) (xt22 : Int) (xy18 : List Int) :
    iter (evF TT cs_impl_AddKey 39 an_impl_AddKey Try.f45 [1, 1, 1, 1, 0, 1, 0, 0]) nm0_impl_AddKey (kt0_impl_AddKey (fin_impl_AddKey s0 key1 kk)) (n + 1) (can0_impl_AddKey key1 xt22 xy18) = T0_impl_AddKey key1 xt22 xy18 (fun r0 => kk (.one (.c (.ro .int r0))) []) (fun xt22 xy18 => iter (evF TT cs_impl_AddKey 39 an_impl_AddKey Try.f45 [1, 1, 1, 1, 0, 1, 0, 0]) nm0_impl_AddKey (kt0_impl_AddKey (fin_impl_AddKey s0 key1 kk)) n (can0_impl_AddKey key1 xt22 xy18)) := by kernel_rfl
theorem l0_impl_AddKey (s0 : List Int) (key1 : Int) (kk : AV → List A1 → Prop) : ∀ (n : Nat) (xt22 : Int) (xy18 : List Int), iter (evF TT cs_impl_AddKey 39 an_impl_AddKey Try.f45 [1, 1, 1, 1, 0, 1, 0, 0]) nm0_impl_AddKey (kt0_impl_AddKey (fin_impl_AddKey s0 key1 kk)) n (can0_impl_AddKey key1 xt22 xy18) = L0_impl_AddKey key1 (fun r0 => kk (.one (.c (.ro .int r0))) []) n xt22 xy18 := by
  intro n
  induction n with
  | zero => intros; rfl
  | succ n ih =>
    intro xt22 xy18
    rw [r0_impl_AddKey s0 key1 kk n xt22 xy18]
    have hb : (fun xt22 xy18 => iter (evF TT cs_impl_AddKey 39 an_impl_AddKey Try.f45 [1, 1, 1, 1, 0, 1, 0, 0]) nm0_impl_AddKey (kt0_impl_AddKey (fin_impl_AddKey s0 key1 kk)) n (can0_impl_AddKey key1 xt22 xy18)) = L0_impl_AddKey key1 (fun r0 => kk (.one (.c (.ro .int r0))) []) n := by
      funext xt22 xy18; exact ih xt22 xy18
    rw [hb]
    rfl
theorem g_impl_AddKey (s0 : List Int) (key1 : Int) (kk : AV → List A1 → Prop) :
    ev TT cs_impl_AddKey 39 an_impl_AddKey (Try.f45.body.getD .skip) (st0 con_impl_AddKey [.c (.ro .int s0), .c (.v (.int .i64 key1))]) (fin TT con_impl_AddKey Try.f45.results.toList [.c (.sl .int)] [.c (.ro .int s0), .c (.v (.int .i64 key1))] kk) = G_impl_AddKey s0 key1 (fun r0 => kk (.one (.c (.ro .int r0))) []) (fun key1 xt22 xy18 => ∃ j, iter (evF TT cs_impl_AddKey 39 an_impl_AddKey Try.f45 [1, 1, 1, 1, 0, 1, 0, 0]) nm0_impl_AddKey (kt0_impl_AddKey (fin_impl_AddKey s0 key1 kk)) j (can0_impl_AddKey key1 xt22 xy18)) := by kernel_rfl
theorem e_impl_AddKey (s0 : List Int) (key1 : Int) (kk : AV → List A1 → Prop) :
    ev TT cs_impl_AddKey 39 an_impl_AddKey (Try.f45.body.getD .skip) (st0 con_impl_AddKey [.c (.ro .int s0), .c (.v (.int .i64 key1))]) (fin TT con_impl_AddKey Try.f45.results.toList [.c (.sl .int)] [.c (.ro .int s0), .c (.v (.int .i64 key1))] kk) = S_impl_AddKey s0 key1 (fun r0 => kk (.one (.c (.ro .int r0))) []) := by
  rw [g_impl_AddKey]
  have hi0 : (fun key1 xt22 xy18 => ∃ j, iter (evF TT cs_impl_AddKey 39 an_impl_AddKey Try.f45 [1, 1, 1, 1, 0, 1, 0, 0]) nm0_impl_AddKey (kt0_impl_AddKey (fin_impl_AddKey s0 key1 kk)) j (can0_impl_AddKey key1 xt22 xy18)) = (fun key1 xt22 xy18 => ∃ j, L0_impl_AddKey key1 (fun r0 => kk (.one (.c (.ro .int r0))) []) j xt22 xy18) := by
    funext key1 xt22 xy18
    refine congrArg Exists (funext fun j => ?_)
    rw [l0_impl_AddKey s0 key1 kk j xt22 xy18]
  rw [hi0]
  rfl
theorem clok_impl_AddKey : ConOK Try.prog cl_impl_AddKey := consCons h_impl_CellOf ⟨Try.f46, Try.func46, by kernel_rfl, ne_of_beq (by kernel_rfl)⟩ (consCons h_impl_validKey ⟨Try.f55, Try.func55, by kernel_rfl, ne_of_beq (by kernel_rfl)⟩ (consCons h_impl_ValidSketch ⟨Try.f80, Try.func80, by kernel_rfl, ne_of_beq (by kernel_rfl)⟩ (consNil)))
theorem cok_impl_AddKey : ConsOK Try.prog 39 cs_impl_AddKey := ⟨clok_impl_AddKey, inlNil⟩
theorem i_impl_AddKey {vs : List A1} {kk : AV → List A1 → Prop} {motive : List A1 → Prop} (h : con_impl_AddKey.F vs kk) (H : ∀ (s0 : List Int) (key1 : Int), F_impl_AddKey s0 key1 (fun r0 => kk (.one (.c (.ro .int r0))) []) → motive [.c (.ro .int s0), .c (.v (.int .i64 key1))]) : motive vs := by
  unfold con_impl_AddKey at h
  dsimp only at h
  split at h
  · exact H _ _ h
  · exact h.elim
theorem h_impl_AddKey : Holds Try.prog 45 con_impl_AddKey := by
  refine holds_of_ev (rt := [.c (.sl .int)]) (T := TT) (Γ := cs_impl_AddKey) (an := an_impl_AddKey) (N := 39) (c := Try.f45.body.getD .skip) Try.func45 (by kernel_rfl) Try.ntmps45 (by decide) (by decide) mixed tabOK cok_impl_AddKey (by kernel_rfl) ?_
  intro vs kk _ hF
  exact i_impl_AddKey (motive := fun vs => Goes (ev TT cs_impl_AddKey 39 an_impl_AddKey (Try.f45.body.getD .skip) (st0 con_impl_AddKey vs) (fin TT con_impl_AddKey Try.f45.results.toList [.c (.sl .int)] vs kk))) hF (fun s0 key1 hF => goes_of (e_impl_AddKey s0 key1 kk) (F_impl_AddKey_S hF))
def con_laws_FnPrefersAdd : Con := ⟨[.rd], true, [.c (.sl .u8)], fun vs k => match vs with
    | [.c (.ro .u8 code0)] => F_laws_FnPrefersAdd code0 (fun r0 => k (.one (.c (.v (.bool r0)))) [])
    | _ => False, false⟩
def cl_laws_FnPrefersAdd : List (FuncId × Con) := [(40, con_spec_DrawPrefers), (41, con_impl_Prefers), (42, con_spec_Prefers), (43, con_impl_CountOf), (44, con_impl_EmptySketch), (45, con_impl_AddKey), (46, con_impl_CellOf)]
def nm1_laws_FnPrefersAdd : List NStep := [.keep [4, 5, 7, 9, 10] [90000]]
def nm0_laws_FnPrefersAdd : List NStep := [.own 7 .int 90000, .keep [4, 5, 7, 8] [90000]]
def an_laws_FnPrefersAdd : Ann := ⟨[], [(14, nm1_laws_FnPrefersAdd), (9, nm0_laws_FnPrefersAdd)], []⟩
def cs_laws_FnPrefersAdd : Cons := ⟨cl_laws_FnPrefersAdd, [], 0, [], []⟩
def can1_laws_FnPrefersAdd (drawPrefers16r1 : Int) (drawPrefers16r2 : Int) (xe7 : List Int) (xapart9 : Bool) (xr10 : Int) : St := ⟨[(4, .one (.c (.v (.int .i64 drawPrefers16r1)))), (5, .one (.c (.v (.int .i64 drawPrefers16r2)))), (7, .one (.c (.ow 90000))), (9, .one (.c (.v (.bool xapart9)))), (10, .one (.c (.v (.int .i64 xr10))))], [(90000, .row .int xe7)]⟩
def can0_laws_FnPrefersAdd (drawPrefers16r1 : Int) (drawPrefers16r2 : Int) (xi8 : Int) (xe7 : List Int) : St := ⟨[(4, .one (.c (.v (.int .i64 drawPrefers16r1)))), (5, .one (.c (.v (.int .i64 drawPrefers16r2)))), (7, .one (.c (.ow 90000))), (8, .one (.c (.v (.int .i64 xi8))))], [(90000, .row .int xe7)]⟩
def fin_laws_FnPrefersAdd (code0 : List Int) (kk : AV → List A1 → Prop) : Kt := fin TT con_laws_FnPrefersAdd Try.f12.results.toList [.c .sc] [.c (.ro .u8 code0)] kk
def kt1_laws_FnPrefersAdd (kf : Kt) : Kt := blockK 2 (seqK (evF TT cs_laws_FnPrefersAdd 76 an_laws_FnPrefersAdd Try.f12 [1, 1, 1, 1, 1, 1, 1, 1, 1]) (kf))
def kt0_laws_FnPrefersAdd (kf : Kt) : Kt := blockK 0 (seqK (evF TT cs_laws_FnPrefersAdd 76 an_laws_FnPrefersAdd Try.f12 [1, 1, 1, 1, 1, 1, 1]) (kf))
theorem r1_laws_FnPrefersAdd (code0 : List Int) (drawPrefers16r1 : Int) (drawPrefers16r2 : Int) (xe7 : List Int) (kk : AV → List A1 → Prop) (n : Nat) (xapart9 : Bool) (xr10 : Int) :
    iter (evF TT cs_laws_FnPrefersAdd 76 an_laws_FnPrefersAdd Try.f12 [1, 1, 1, 1, 1, 1, 1, 1, 0, 1, 0, 0]) nm1_laws_FnPrefersAdd (kt1_laws_FnPrefersAdd (fin_laws_FnPrefersAdd code0 kk)) (n + 1) (can1_laws_FnPrefersAdd drawPrefers16r1 drawPrefers16r2 xe7 xapart9 xr10) = T1_laws_FnPrefersAdd drawPrefers16r1 drawPrefers16r2 xe7 xapart9 xr10 (fun r0 => kk (.one (.c (.v (.bool r0)))) []) (fun xapart9 xr10 => iter (evF TT cs_laws_FnPrefersAdd 76 an_laws_FnPrefersAdd Try.f12 [1, 1, 1, 1, 1, 1, 1, 1, 0, 1, 0, 0]) nm1_laws_FnPrefersAdd (kt1_laws_FnPrefersAdd (fin_laws_FnPrefersAdd code0 kk)) n (can1_laws_FnPrefersAdd drawPrefers16r1 drawPrefers16r2 xe7 xapart9 xr10)) := by kernel_rfl
theorem l1_laws_FnPrefersAdd (code0 : List Int) (drawPrefers16r1 : Int) (drawPrefers16r2 : Int) (xe7 : List Int) (kk : AV → List A1 → Prop) : ∀ (n : Nat) (xapart9 : Bool) (xr10 : Int), iter (evF TT cs_laws_FnPrefersAdd 76 an_laws_FnPrefersAdd Try.f12 [1, 1, 1, 1, 1, 1, 1, 1, 0, 1, 0, 0]) nm1_laws_FnPrefersAdd (kt1_laws_FnPrefersAdd (fin_laws_FnPrefersAdd code0 kk)) n (can1_laws_FnPrefersAdd drawPrefers16r1 drawPrefers16r2 xe7 xapart9 xr10) = L1_laws_FnPrefersAdd drawPrefers16r1 drawPrefers16r2 xe7 (fun r0 => kk (.one (.c (.v (.bool r0)))) []) n xapart9 xr10 := by
  intro n
  induction n with
  | zero => intros; rfl
  | succ n ih =>
    intro xapart9 xr10
    rw [r1_laws_FnPrefersAdd code0 drawPrefers16r1 drawPrefers16r2 xe7 kk n xapart9 xr10]
    have hb : (fun xapart9 xr10 => iter (evF TT cs_laws_FnPrefersAdd 76 an_laws_FnPrefersAdd Try.f12 [1, 1, 1, 1, 1, 1, 1, 1, 0, 1, 0, 0]) nm1_laws_FnPrefersAdd (kt1_laws_FnPrefersAdd (fin_laws_FnPrefersAdd code0 kk)) n (can1_laws_FnPrefersAdd drawPrefers16r1 drawPrefers16r2 xe7 xapart9 xr10)) = L1_laws_FnPrefersAdd drawPrefers16r1 drawPrefers16r2 xe7 (fun r0 => kk (.one (.c (.v (.bool r0)))) []) n := by
      funext xapart9 xr10; exact ih xapart9 xr10
    rw [hb]
    rfl
theorem r0_laws_FnPrefersAdd (code0 : List Int) (drawPrefers16r1 : Int) (drawPrefers16r2 : Int) (kk : AV → List A1 → Prop) (n : Nat) (xi8 : Int) (xe7 : List Int) :
    iter (evF TT cs_laws_FnPrefersAdd 76 an_laws_FnPrefersAdd Try.f12 [1, 1, 1, 1, 1, 1, 0, 1, 0, 0]) nm0_laws_FnPrefersAdd (kt0_laws_FnPrefersAdd (fin_laws_FnPrefersAdd code0 kk)) (n + 1) (can0_laws_FnPrefersAdd drawPrefers16r1 drawPrefers16r2 xi8 xe7) = T0_laws_FnPrefersAdd drawPrefers16r1 drawPrefers16r2 xi8 xe7 (fun xi8 xe7 => iter (evF TT cs_laws_FnPrefersAdd 76 an_laws_FnPrefersAdd Try.f12 [1, 1, 1, 1, 1, 1, 0, 1, 0, 0]) nm0_laws_FnPrefersAdd (kt0_laws_FnPrefersAdd (fin_laws_FnPrefersAdd code0 kk)) n (can0_laws_FnPrefersAdd drawPrefers16r1 drawPrefers16r2 xi8 xe7)) (fun drawPrefers16r1 drawPrefers16r2 xe7 xapart9 xr10 => ∃ j, iter (evF TT cs_laws_FnPrefersAdd 76 an_laws_FnPrefersAdd Try.f12 [1, 1, 1, 1, 1, 1, 1, 1, 0, 1, 0, 0]) nm1_laws_FnPrefersAdd (kt1_laws_FnPrefersAdd (fin_laws_FnPrefersAdd code0 kk)) j (can1_laws_FnPrefersAdd drawPrefers16r1 drawPrefers16r2 xe7 xapart9 xr10)) := by kernel_rfl
theorem l0_laws_FnPrefersAdd (code0 : List Int) (drawPrefers16r1 : Int) (drawPrefers16r2 : Int) (kk : AV → List A1 → Prop) : ∀ (n : Nat) (xi8 : Int) (xe7 : List Int), iter (evF TT cs_laws_FnPrefersAdd 76 an_laws_FnPrefersAdd Try.f12 [1, 1, 1, 1, 1, 1, 0, 1, 0, 0]) nm0_laws_FnPrefersAdd (kt0_laws_FnPrefersAdd (fin_laws_FnPrefersAdd code0 kk)) n (can0_laws_FnPrefersAdd drawPrefers16r1 drawPrefers16r2 xi8 xe7) = L0_laws_FnPrefersAdd drawPrefers16r1 drawPrefers16r2 (fun r0 => kk (.one (.c (.v (.bool r0)))) []) n xi8 xe7 := by
  intro n
  induction n generalizing code0 drawPrefers16r1 drawPrefers16r2 with
  | zero => intros; rfl
  | succ n ih =>
    intro xi8 xe7
    rw [r0_laws_FnPrefersAdd code0 drawPrefers16r1 drawPrefers16r2 kk n xi8 xe7]
    have hb : ∀ (code0 : List Int) (drawPrefers16r1 : Int) (drawPrefers16r2 : Int), (fun xi8 xe7 => iter (evF TT cs_laws_FnPrefersAdd 76 an_laws_FnPrefersAdd Try.f12 [1, 1, 1, 1, 1, 1, 0, 1, 0, 0]) nm0_laws_FnPrefersAdd (kt0_laws_FnPrefersAdd (fin_laws_FnPrefersAdd code0 kk)) n (can0_laws_FnPrefersAdd drawPrefers16r1 drawPrefers16r2 xi8 xe7)) = L0_laws_FnPrefersAdd drawPrefers16r1 drawPrefers16r2 (fun r0 => kk (.one (.c (.v (.bool r0)))) []) n := by
      intro code0 drawPrefers16r1 drawPrefers16r2
      funext xi8 xe7; exact ih code0 drawPrefers16r1 drawPrefers16r2 xi8 xe7
    have hi1 : (fun drawPrefers16r1 drawPrefers16r2 xe7 xapart9 xr10 => ∃ j, iter (evF TT cs_laws_FnPrefersAdd 76 an_laws_FnPrefersAdd Try.f12 [1, 1, 1, 1, 1, 1, 1, 1, 0, 1, 0, 0]) nm1_laws_FnPrefersAdd (kt1_laws_FnPrefersAdd (fin_laws_FnPrefersAdd code0 kk)) j (can1_laws_FnPrefersAdd drawPrefers16r1 drawPrefers16r2 xe7 xapart9 xr10)) = (fun drawPrefers16r1 drawPrefers16r2 xe7 xapart9 xr10 => ∃ j, L1_laws_FnPrefersAdd drawPrefers16r1 drawPrefers16r2 xe7 (fun r0 => kk (.one (.c (.v (.bool r0)))) []) j xapart9 xr10) := by
      funext drawPrefers16r1 drawPrefers16r2 xe7 xapart9 xr10
      refine congrArg Exists (funext fun j => ?_)
      rw [l1_laws_FnPrefersAdd code0 drawPrefers16r1 drawPrefers16r2 xe7 kk j xapart9 xr10]
    rw [hb, hi1]
    rfl
theorem g_laws_FnPrefersAdd (code0 : List Int) (kk : AV → List A1 → Prop) :
    ev TT cs_laws_FnPrefersAdd 76 an_laws_FnPrefersAdd (Try.f12.body.getD .skip) (st0 con_laws_FnPrefersAdd [.c (.ro .u8 code0)]) (fin TT con_laws_FnPrefersAdd Try.f12.results.toList [.c .sc] [.c (.ro .u8 code0)] kk) = G_laws_FnPrefersAdd code0 (fun r0 => kk (.one (.c (.v (.bool r0)))) []) (fun drawPrefers16r1 drawPrefers16r2 xi8 xe7 => ∃ j, iter (evF TT cs_laws_FnPrefersAdd 76 an_laws_FnPrefersAdd Try.f12 [1, 1, 1, 1, 1, 1, 0, 1, 0, 0]) nm0_laws_FnPrefersAdd (kt0_laws_FnPrefersAdd (fin_laws_FnPrefersAdd code0 kk)) j (can0_laws_FnPrefersAdd drawPrefers16r1 drawPrefers16r2 xi8 xe7)) := by kernel_rfl
theorem e_laws_FnPrefersAdd (code0 : List Int) (kk : AV → List A1 → Prop) :
    ev TT cs_laws_FnPrefersAdd 76 an_laws_FnPrefersAdd (Try.f12.body.getD .skip) (st0 con_laws_FnPrefersAdd [.c (.ro .u8 code0)]) (fin TT con_laws_FnPrefersAdd Try.f12.results.toList [.c .sc] [.c (.ro .u8 code0)] kk) = S_laws_FnPrefersAdd code0 (fun r0 => kk (.one (.c (.v (.bool r0)))) []) := by
  rw [g_laws_FnPrefersAdd]
  have hi0 : (fun drawPrefers16r1 drawPrefers16r2 xi8 xe7 => ∃ j, iter (evF TT cs_laws_FnPrefersAdd 76 an_laws_FnPrefersAdd Try.f12 [1, 1, 1, 1, 1, 1, 0, 1, 0, 0]) nm0_laws_FnPrefersAdd (kt0_laws_FnPrefersAdd (fin_laws_FnPrefersAdd code0 kk)) j (can0_laws_FnPrefersAdd drawPrefers16r1 drawPrefers16r2 xi8 xe7)) = (fun drawPrefers16r1 drawPrefers16r2 xi8 xe7 => ∃ j, L0_laws_FnPrefersAdd drawPrefers16r1 drawPrefers16r2 (fun r0 => kk (.one (.c (.v (.bool r0)))) []) j xi8 xe7) := by
    funext drawPrefers16r1 drawPrefers16r2 xi8 xe7
    refine congrArg Exists (funext fun j => ?_)
    rw [l0_laws_FnPrefersAdd code0 drawPrefers16r1 drawPrefers16r2 kk j xi8 xe7]
  rw [hi0]
  rfl
theorem clok_laws_FnPrefersAdd : ConOK Try.prog cl_laws_FnPrefersAdd := consCons h_spec_DrawPrefers ⟨Try.f40, Try.func40, by kernel_rfl, ne_of_beq (by kernel_rfl)⟩ (consCons h_impl_Prefers ⟨Try.f41, Try.func41, by kernel_rfl, ne_of_beq (by kernel_rfl)⟩ (consCons h_spec_Prefers ⟨Try.f42, Try.func42, by kernel_rfl, ne_of_beq (by kernel_rfl)⟩ (consCons h_impl_CountOf ⟨Try.f43, Try.func43, by kernel_rfl, ne_of_beq (by kernel_rfl)⟩ (consCons h_impl_EmptySketch ⟨Try.f44, Try.func44, by kernel_rfl, ne_of_beq (by kernel_rfl)⟩ (consCons h_impl_AddKey ⟨Try.f45, Try.func45, by kernel_rfl, ne_of_beq (by kernel_rfl)⟩ (consCons h_impl_CellOf ⟨Try.f46, Try.func46, by kernel_rfl, ne_of_beq (by kernel_rfl)⟩ (consNil)))))))
theorem cok_laws_FnPrefersAdd : ConsOK Try.prog 76 cs_laws_FnPrefersAdd := ⟨clok_laws_FnPrefersAdd, inlNil⟩
theorem i_laws_FnPrefersAdd {vs : List A1} {kk : AV → List A1 → Prop} {motive : List A1 → Prop} (h : con_laws_FnPrefersAdd.F vs kk) (H : ∀ (code0 : List Int), F_laws_FnPrefersAdd code0 (fun r0 => kk (.one (.c (.v (.bool r0)))) []) → motive [.c (.ro .u8 code0)]) : motive vs := by
  unfold con_laws_FnPrefersAdd at h
  dsimp only at h
  split at h
  · exact H _ h
  · exact h.elim
theorem h_laws_FnPrefersAdd : Holds Try.prog 12 con_laws_FnPrefersAdd := by
  refine holds_of_ev (rt := [.c .sc]) (T := TT) (Γ := cs_laws_FnPrefersAdd) (an := an_laws_FnPrefersAdd) (N := 76) (c := Try.f12.body.getD .skip) Try.func12 (by kernel_rfl) Try.ntmps12 (by decide) (by decide) mixed tabOK cok_laws_FnPrefersAdd (by kernel_rfl) ?_
  intro vs kk _ hF
  exact i_laws_FnPrefersAdd (motive := fun vs => Goes (ev TT cs_laws_FnPrefersAdd 76 an_laws_FnPrefersAdd (Try.f12.body.getD .skip) (st0 con_laws_FnPrefersAdd vs) (fin TT con_laws_FnPrefersAdd Try.f12.results.toList [.c .sc] vs kk))) hF (fun code0 hF => goes_of (e_laws_FnPrefersAdd code0 kk) (F_laws_FnPrefersAdd_S hF))
end Go.Ev
