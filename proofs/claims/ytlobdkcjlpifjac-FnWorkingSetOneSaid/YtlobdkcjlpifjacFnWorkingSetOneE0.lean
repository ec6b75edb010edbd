/- What the evaluator gives for these functions: their contracts. No statement is proved here. -/
import Derived.Test.YtlobdkcjlpifjacFnWorkingSetOneP1
import Derived.Test.YtlobdkcjlpifjacTt
namespace Go.Ev
set_option linter.unusedVariables false
set_option maxRecDepth 100000
open Go Go.Proofs
def con_spec_newReader : Con := ⟨[.rd], true, [.c (.sl .u8)], fun vs k => match vs with
    | [.c (.ro .u8 code0)] => F_spec_newReader code0 (fun r0 r1 => k (.one (.agg [.ro .u8 r0, .v (.int .i64 r1)])) [])
    | _ => False, true⟩
def cl_spec_newReader : List (FuncId × Con) := []
def an_spec_newReader : Ann := ⟨[], [], []⟩
def cs_spec_newReader : Cons := ⟨cl_spec_newReader, [], 0, [], []⟩
def fin_spec_newReader (code0 : List Int) (kk : AV → List A1 → Prop) : Kt := finB Try.f62.results.toList [.sl .u8, .sc] kk
theorem g_spec_newReader (code0 : List Int) (kk : AV → List A1 → Prop) :
    ev TT cs_spec_newReader 11 an_spec_newReader (Try.f62.body.getD .skip) (st0 con_spec_newReader [.c (.ro .u8 code0)]) (finB Try.f62.results.toList [.sl .u8, .sc] kk) = G_spec_newReader code0 (fun r0 r1 => kk (.one (.agg [.ro .u8 r0, .v (.int .i64 r1)])) []) := by kernel_rfl
theorem e_spec_newReader (code0 : List Int) (kk : AV → List A1 → Prop) :
    ev TT cs_spec_newReader 11 an_spec_newReader (Try.f62.body.getD .skip) (st0 con_spec_newReader [.c (.ro .u8 code0)]) (finB Try.f62.results.toList [.sl .u8, .sc] kk) = S_spec_newReader code0 (fun r0 r1 => kk (.one (.agg [.ro .u8 r0, .v (.int .i64 r1)])) []) := by
  rw [g_spec_newReader]
  rfl
theorem clok_spec_newReader : ConOK Try.prog cl_spec_newReader := consNil
theorem cok_spec_newReader : ConsOK Try.prog 11 cs_spec_newReader := ⟨clok_spec_newReader, inlNil⟩
theorem i_spec_newReader {vs : List A1} {kk : AV → List A1 → Prop} {motive : List A1 → Prop} (h : con_spec_newReader.F vs kk) (H : ∀ (code0 : List Int), F_spec_newReader code0 (fun r0 r1 => kk (.one (.agg [.ro .u8 r0, .v (.int .i64 r1)])) []) → motive [.c (.ro .u8 code0)]) : motive vs := by
  unfold con_spec_newReader at h
  dsimp only at h
  split at h
  · exact H _ h
  · exact h.elim
theorem h_spec_newReader : HoldsB Try.prog 62 con_spec_newReader := by
  refine holdsB_of_ev (ts := [.sl .u8, .sc]) (T := TT) (Γ := cs_spec_newReader) (an := an_spec_newReader) (N := 11) (c := Try.f62.body.getD .skip) Try.func62 (by kernel_rfl) Try.ntmps62 (by decide) (by decide) mixed tabOK cok_spec_newReader (by kernel_rfl) ?_
  intro vs kk _ hF
  exact i_spec_newReader (motive := fun vs => Goes (ev TT cs_spec_newReader 11 an_spec_newReader (Try.f62.body.getD .skip) (st0 con_spec_newReader vs) (finB Try.f62.results.toList [.sl .u8, .sc] kk))) hF (fun code0 hF => goes_of (e_spec_newReader code0 kk) (F_spec_newReader_S hF))
def con_spec_reader_pick : Con := ⟨[.mu, .rd], true, [.ptr [.sl .u8, .sc], .c (.sc)], fun vs k => match vs with
    | [.ptr [.ro .u8 r0b, .v (.int .i64 r0p)], .c (.v (.int .i64 n1))] => F_spec_reader_pick r0b r0p n1 (fun r0 r1 r2 => k (.one (.c (.v (.int .i64 r0)))) [.ptr [.ro .u8 r1, .v (.int .i64 r2)]])
    | _ => False, false⟩
def cl_spec_reader_pick : List (FuncId × Con) := []
def an_spec_reader_pick : Ann := ⟨[(7, .take 0 (.take 1 (.take 2 (.take 3 (.take 4 (.take 5 (.take 6 (.take 7 (.take 8 (.take 9 (.take 10 (.take 11 (.take 12 (.take 13 (.take 14 (.take 15 (.take 16 (.take 17 (.take 18 (.take 19 (.take 20 (.take 21 (.take 22 (.take 23 (.take 24 (.take 25 (.take 26 (.take 27 (.take 28 (.take 29 (.take 30 (.take 31 (.take 32 (.take 33 (.take 34 (.take 35 (.take 36 (.take 37 (.take 38 (.take 39 (.take 40 (.take 41 (.take 42 (.take 43 (.take 44 (.take 45 (.done)))))))))))))))))))))))))))))))))))))))))))))), [100000])], [], []⟩
def cs_spec_reader_pick : Cons := ⟨cl_spec_reader_pick, [], 0, [], []⟩
def fin_spec_reader_pick (r0b : List Int) (r0p : Int) (n1 : Int) (kk : AV → List A1 → Prop) : Kt := fin TT con_spec_reader_pick Try.f64.results.toList [.c .sc] [.ptr [.ro .u8 r0b, .v (.int .i64 r0p)], .c (.v (.int .i64 n1))] kk
theorem g_spec_reader_pick (r0b : List Int) (r0p : Int) (n1 : Int) (kk : AV → List A1 → Prop) :
    ev TT cs_spec_reader_pick 99 an_spec_reader_pick (Try.f64.body.getD .skip) (st0 con_spec_reader_pick [.ptr [.ro .u8 r0b, .v (.int .i64 r0p)], .c (.v (.int .i64 n1))]) (fin TT con_spec_reader_pick Try.f64.results.toList [.c .sc] [.ptr [.ro .u8 r0b, .v (.int .i64 r0p)], .c (.v (.int .i64 n1))] kk) = G_spec_reader_pick r0b r0p n1 (fun r0 r1 r2 => kk (.one (.c (.v (.int .i64 r0)))) [.ptr [.ro .u8 r1, .v (.int .i64 r2)]]) := by kernel_rfl
theorem e_spec_reader_pick (r0b : List Int) (r0p : Int) (n1 : Int) (kk : AV → List A1 → Prop) :
    ev TT cs_spec_reader_pick 99 an_spec_reader_pick (Try.f64.body.getD .skip) (st0 con_spec_reader_pick [.ptr [.ro .u8 r0b, .v (.int .i64 r0p)], .c (.v (.int .i64 n1))]) (fin TT con_spec_reader_pick Try.f64.results.toList [.c .sc] [.ptr [.ro .u8 r0b, .v (.int .i64 r0p)], .c (.v (.int .i64 n1))] kk) = S_spec_reader_pick r0b r0p n1 (fun r0 r1 r2 => kk (.one (.c (.v (.int .i64 r0)))) [.ptr [.ro .u8 r1, .v (.int .i64 r2)]]) := by
  rw [g_spec_reader_pick]
  rfl
theorem clok_spec_reader_pick : ConOK Try.prog cl_spec_reader_pick := consNil
theorem cok_spec_reader_pick : ConsOK Try.prog 99 cs_spec_reader_pick := ⟨clok_spec_reader_pick, inlNil⟩
theorem i_spec_reader_pick {vs : List A1} {kk : AV → List A1 → Prop} {motive : List A1 → Prop} (h : con_spec_reader_pick.F vs kk) (H : ∀ (r0b : List Int) (r0p : Int) (n1 : Int), F_spec_reader_pick r0b r0p n1 (fun r0 r1 r2 => kk (.one (.c (.v (.int .i64 r0)))) [.ptr [.ro .u8 r1, .v (.int .i64 r2)]]) → motive [.ptr [.ro .u8 r0b, .v (.int .i64 r0p)], .c (.v (.int .i64 n1))]) : motive vs := by
  unfold con_spec_reader_pick at h
  dsimp only at h
  split at h
  · exact H _ _ _ h
  · exact h.elim
theorem h_spec_reader_pick : Holds Try.prog 64 con_spec_reader_pick := by
  refine holds_of_ev (rt := [.c .sc]) (T := TT) (Γ := cs_spec_reader_pick) (an := an_spec_reader_pick) (N := 99) (c := Try.f64.body.getD .skip) Try.func64 (by kernel_rfl) Try.ntmps64 (by decide) (by decide) mixed tabOK cok_spec_reader_pick (by kernel_rfl) ?_
  intro vs kk _ hF
  exact i_spec_reader_pick (motive := fun vs => Goes (ev TT cs_spec_reader_pick 99 an_spec_reader_pick (Try.f64.body.getD .skip) (st0 con_spec_reader_pick vs) (fin TT con_spec_reader_pick Try.f64.results.toList [.c .sc] vs kk))) hF (fun r0b r0p n1 hF => goes_of (e_spec_reader_pick r0b r0p n1 kk) (F_spec_reader_pick_S hF))
def con_spec_reader_one : Con := ⟨[.mu, .rd], true, [.ptr [.sl .u8, .sc], .c (.sl .int)], fun vs k => match vs with
    | [.ptr [.ro .u8 r0b, .v (.int .i64 r0p)], .c (.ro .int list1)] => F_spec_reader_one r0b r0p list1 (fun r0 r1 r2 => k (.one (.c (.v (.int .i64 r0)))) [.ptr [.ro .u8 r1, .v (.int .i64 r2)]])
    | _ => False, false⟩
def cl_spec_reader_one : List (FuncId × Con) := [(64, con_spec_reader_pick)]
def an_spec_reader_one : Ann := ⟨[], [], []⟩
def cs_spec_reader_one : Cons := ⟨cl_spec_reader_one, [], 0, [], []⟩
def fin_spec_reader_one (r0b : List Int) (r0p : Int) (list1 : List Int) (kk : AV → List A1 → Prop) : Kt := fin TT con_spec_reader_one Try.f74.results.toList [.c .sc] [.ptr [.ro .u8 r0b, .v (.int .i64 r0p)], .c (.ro .int list1)] kk
theorem g_spec_reader_one (r0b : List Int) (r0p : Int) (list1 : List Int) (kk : AV → List A1 → Prop) :
    ev TT cs_spec_reader_one 12 an_spec_reader_one (Try.f74.body.getD .skip) (st0 con_spec_reader_one [.ptr [.ro .u8 r0b, .v (.int .i64 r0p)], .c (.ro .int list1)]) (fin TT con_spec_reader_one Try.f74.results.toList [.c .sc] [.ptr [.ro .u8 r0b, .v (.int .i64 r0p)], .c (.ro .int list1)] kk) = G_spec_reader_one r0b r0p list1 (fun r0 r1 r2 => kk (.one (.c (.v (.int .i64 r0)))) [.ptr [.ro .u8 r1, .v (.int .i64 r2)]]) := by kernel_rfl
theorem e_spec_reader_one (r0b : List Int) (r0p : Int) (list1 : List Int) (kk : AV → List A1 → Prop) :
    ev TT cs_spec_reader_one 12 an_spec_reader_one (Try.f74.body.getD .skip) (st0 con_spec_reader_one [.ptr [.ro .u8 r0b, .v (.int .i64 r0p)], .c (.ro .int list1)]) (fin TT con_spec_reader_one Try.f74.results.toList [.c .sc] [.ptr [.ro .u8 r0b, .v (.int .i64 r0p)], .c (.ro .int list1)] kk) = S_spec_reader_one r0b r0p list1 (fun r0 r1 r2 => kk (.one (.c (.v (.int .i64 r0)))) [.ptr [.ro .u8 r1, .v (.int .i64 r2)]]) := by
  rw [g_spec_reader_one]
  rfl
theorem clok_spec_reader_one : ConOK Try.prog cl_spec_reader_one := consCons h_spec_reader_pick ⟨Try.f64, Try.func64, by kernel_rfl, ne_of_beq (by kernel_rfl)⟩ (consNil)
theorem cok_spec_reader_one : ConsOK Try.prog 12 cs_spec_reader_one := ⟨clok_spec_reader_one, inlNil⟩
theorem i_spec_reader_one {vs : List A1} {kk : AV → List A1 → Prop} {motive : List A1 → Prop} (h : con_spec_reader_one.F vs kk) (H : ∀ (r0b : List Int) (r0p : Int) (list1 : List Int), F_spec_reader_one r0b r0p list1 (fun r0 r1 r2 => kk (.one (.c (.v (.int .i64 r0)))) [.ptr [.ro .u8 r1, .v (.int .i64 r2)]]) → motive [.ptr [.ro .u8 r0b, .v (.int .i64 r0p)], .c (.ro .int list1)]) : motive vs := by
  unfold con_spec_reader_one at h
  dsimp only at h
  split at h
  · exact H _ _ _ h
  · exact h.elim
theorem h_spec_reader_one : Holds Try.prog 74 con_spec_reader_one := by
  refine holds_of_ev (rt := [.c .sc]) (T := TT) (Γ := cs_spec_reader_one) (an := an_spec_reader_one) (N := 12) (c := Try.f74.body.getD .skip) Try.func74 (by kernel_rfl) Try.ntmps74 (by decide) (by decide) mixed tabOK cok_spec_reader_one (by kernel_rfl) ?_
  intro vs kk _ hF
  exact i_spec_reader_one (motive := fun vs => Goes (ev TT cs_spec_reader_one 12 an_spec_reader_one (Try.f74.body.getD .skip) (st0 con_spec_reader_one vs) (fin TT con_spec_reader_one Try.f74.results.toList [.c .sc] vs kk))) hF (fun r0b r0p list1 hF => goes_of (e_spec_reader_one r0b r0p list1 kk) (F_spec_reader_one_S hF))
def con_spec_copyInts : Con := ⟨[.rd], true, [.c (.sl .int)], fun vs k => match vs with
    | [.c (.ro .int list0)] => F_spec_copyInts list0 (fun r0 => k (.one (.c (.ro .int r0))) [])
    | _ => False, false⟩
def cl_spec_copyInts : List (FuncId × Con) := []
def an_spec_copyInts : Ann := ⟨[], [], []⟩
def cs_spec_copyInts : Cons := ⟨cl_spec_copyInts, [], 0, [], []⟩
def fin_spec_copyInts (list0 : List Int) (kk : AV → List A1 → Prop) : Kt := fin TT con_spec_copyInts Try.f90.results.toList [.c (.sl .int)] [.c (.ro .int list0)] kk
theorem g_spec_copyInts (list0 : List Int) (kk : AV → List A1 → Prop) :
    ev TT cs_spec_copyInts 6 an_spec_copyInts (Try.f90.body.getD .skip) (st0 con_spec_copyInts [.c (.ro .int list0)]) (fin TT con_spec_copyInts Try.f90.results.toList [.c (.sl .int)] [.c (.ro .int list0)] kk) = G_spec_copyInts list0 (fun r0 => kk (.one (.c (.ro .int r0))) []) := by kernel_rfl
theorem e_spec_copyInts (list0 : List Int) (kk : AV → List A1 → Prop) :
    ev TT cs_spec_copyInts 6 an_spec_copyInts (Try.f90.body.getD .skip) (st0 con_spec_copyInts [.c (.ro .int list0)]) (fin TT con_spec_copyInts Try.f90.results.toList [.c (.sl .int)] [.c (.ro .int list0)] kk) = S_spec_copyInts list0 (fun r0 => kk (.one (.c (.ro .int r0))) []) := by
  rw [g_spec_copyInts]
  rfl
theorem clok_spec_copyInts : ConOK Try.prog cl_spec_copyInts := consNil
theorem cok_spec_copyInts : ConsOK Try.prog 6 cs_spec_copyInts := ⟨clok_spec_copyInts, inlNil⟩
theorem i_spec_copyInts {vs : List A1} {kk : AV → List A1 → Prop} {motive : List A1 → Prop} (h : con_spec_copyInts.F vs kk) (H : ∀ (list0 : List Int), F_spec_copyInts list0 (fun r0 => kk (.one (.c (.ro .int r0))) []) → motive [.c (.ro .int list0)]) : motive vs := by
  unfold con_spec_copyInts at h
  dsimp only at h
  split at h
  · exact H _ h
  · exact h.elim
theorem h_spec_copyInts : Holds Try.prog 90 con_spec_copyInts := by
  refine holds_of_ev (rt := [.c (.sl .int)]) (T := TT) (Γ := cs_spec_copyInts) (an := an_spec_copyInts) (N := 6) (c := Try.f90.body.getD .skip) Try.func90 (by kernel_rfl) Try.ntmps90 (by decide) (by decide) mixed tabOK cok_spec_copyInts (by kernel_rfl) ?_
  intro vs kk _ hF
  exact i_spec_copyInts (motive := fun vs => Goes (ev TT cs_spec_copyInts 6 an_spec_copyInts (Try.f90.body.getD .skip) (st0 con_spec_copyInts vs) (fin TT con_spec_copyInts Try.f90.results.toList [.c (.sl .int)] vs kk))) hF (fun list0 hF => goes_of (e_spec_copyInts list0 kk) (F_spec_copyInts_S hF))
def con_spec_reader_spoil : Con := ⟨[.mu, .rd, .rd], true, [.ptr [.sl .u8, .sc], .c (.sl .int), .c (.sc)], fun vs k => match vs with
    | [.ptr [.ro .u8 r0b, .v (.int .i64 r0p)], .c (.ro .int list1), .c (.v (.int .i64 n2))] => F_spec_reader_spoil r0b r0p list1 n2 (fun r0 r1 r2 => k (.one (.c (.ro .int r0))) [.ptr [.ro .u8 r1, .v (.int .i64 r2)]])
    | _ => False, false⟩
def cl_spec_reader_spoil : List (FuncId × Con) := [(64, con_spec_reader_pick), (74, con_spec_reader_one), (90, con_spec_copyInts)]
def an_spec_reader_spoil : Ann := ⟨[], [], []⟩
def cs_spec_reader_spoil : Cons := ⟨cl_spec_reader_spoil, [], 0, [], []⟩
def fin_spec_reader_spoil (r0b : List Int) (r0p : Int) (list1 : List Int) (n2 : Int) (kk : AV → List A1 → Prop) : Kt := fin TT con_spec_reader_spoil Try.f92.results.toList [.c (.sl .int)] [.ptr [.ro .u8 r0b, .v (.int .i64 r0p)], .c (.ro .int list1), .c (.v (.int .i64 n2))] kk
theorem g_spec_reader_spoil (r0b : List Int) (r0p : Int) (list1 : List Int) (n2 : Int) (kk : AV → List A1 → Prop) :
    ev TT cs_spec_reader_spoil 41 an_spec_reader_spoil (Try.f92.body.getD .skip) (st0 con_spec_reader_spoil [.ptr [.ro .u8 r0b, .v (.int .i64 r0p)], .c (.ro .int list1), .c (.v (.int .i64 n2))]) (fin TT con_spec_reader_spoil Try.f92.results.toList [.c (.sl .int)] [.ptr [.ro .u8 r0b, .v (.int .i64 r0p)], .c (.ro .int list1), .c (.v (.int .i64 n2))] kk) = G_spec_reader_spoil r0b r0p list1 n2 (fun r0 r1 r2 => kk (.one (.c (.ro .int r0))) [.ptr [.ro .u8 r1, .v (.int .i64 r2)]]) := by kernel_rfl
theorem e_spec_reader_spoil (r0b : List Int) (r0p : Int) (list1 : List Int) (n2 : Int) (kk : AV → List A1 → Prop) :
    ev TT cs_spec_reader_spoil 41 an_spec_reader_spoil (Try.f92.body.getD .skip) (st0 con_spec_reader_spoil [.ptr [.ro .u8 r0b, .v (.int .i64 r0p)], .c (.ro .int list1), .c (.v (.int .i64 n2))]) (fin TT con_spec_reader_spoil Try.f92.results.toList [.c (.sl .int)] [.ptr [.ro .u8 r0b, .v (.int .i64 r0p)], .c (.ro .int list1), .c (.v (.int .i64 n2))] kk) = S_spec_reader_spoil r0b r0p list1 n2 (fun r0 r1 r2 => kk (.one (.c (.ro .int r0))) [.ptr [.ro .u8 r1, .v (.int .i64 r2)]]) := by
  rw [g_spec_reader_spoil]
  rfl
theorem clok_spec_reader_spoil : ConOK Try.prog cl_spec_reader_spoil := consCons h_spec_reader_pick ⟨Try.f64, Try.func64, by kernel_rfl, ne_of_beq (by kernel_rfl)⟩ (consCons h_spec_reader_one ⟨Try.f74, Try.func74, by kernel_rfl, ne_of_beq (by kernel_rfl)⟩ (consCons h_spec_copyInts ⟨Try.f90, Try.func90, by kernel_rfl, ne_of_beq (by kernel_rfl)⟩ (consNil)))
theorem cok_spec_reader_spoil : ConsOK Try.prog 41 cs_spec_reader_spoil := ⟨clok_spec_reader_spoil, inlNil⟩
theorem i_spec_reader_spoil {vs : List A1} {kk : AV → List A1 → Prop} {motive : List A1 → Prop} (h : con_spec_reader_spoil.F vs kk) (H : ∀ (r0b : List Int) (r0p : Int) (list1 : List Int) (n2 : Int), F_spec_reader_spoil r0b r0p list1 n2 (fun r0 r1 r2 => kk (.one (.c (.ro .int r0))) [.ptr [.ro .u8 r1, .v (.int .i64 r2)]]) → motive [.ptr [.ro .u8 r0b, .v (.int .i64 r0p)], .c (.ro .int list1), .c (.v (.int .i64 n2))]) : motive vs := by
  unfold con_spec_reader_spoil at h
  dsimp only at h
  split at h
  · exact H _ _ _ _ h
  · exact h.elim
theorem h_spec_reader_spoil : Holds Try.prog 92 con_spec_reader_spoil := by
  refine holds_of_ev (rt := [.c (.sl .int)]) (T := TT) (Γ := cs_spec_reader_spoil) (an := an_spec_reader_spoil) (N := 41) (c := Try.f92.body.getD .skip) Try.func92 (by kernel_rfl) Try.ntmps92 (by decide) (by decide) mixed tabOK cok_spec_reader_spoil (by kernel_rfl) ?_
  intro vs kk _ hF
  exact i_spec_reader_spoil (motive := fun vs => Goes (ev TT cs_spec_reader_spoil 41 an_spec_reader_spoil (Try.f92.body.getD .skip) (st0 con_spec_reader_spoil vs) (fin TT con_spec_reader_spoil Try.f92.results.toList [.c (.sl .int)] vs kk))) hF (fun r0b r0p list1 n2 hF => goes_of (e_spec_reader_spoil r0b r0p list1 n2 kk) (F_spec_reader_spoil_S hF))
def con_spec_someTrace : Con := ⟨[.mu], true, [.ptr [.sl .u8, .sc]], fun vs k => match vs with
    | [.ptr [.ro .u8 r0b, .v (.int .i64 r0p)]] => F_spec_someTrace r0b r0p (fun r0 r1 r2 => k (.one (.c (.ro .int r0))) [.ptr [.ro .u8 r1, .v (.int .i64 r2)]])
    | _ => False, false⟩
def cl_spec_someTrace : List (FuncId × Con) := [(64, con_spec_reader_pick), (74, con_spec_reader_one), (92, con_spec_reader_spoil)]
def nm0_spec_someTrace : List NStep := [.own 3 .int 90000, .keep [0, 3, 4, 5] [100000, 90000]]
def an_spec_someTrace : Ann := ⟨[], [(4, nm0_spec_someTrace)], []⟩
def cs_spec_someTrace : Cons := ⟨cl_spec_someTrace, [], 0, [], []⟩
def can0_spec_someTrace (one10 : Int) (xn5 : Int) (xb100000c0 : List Int) (xb100000c1 : Int) (xout3 : List Int) : St := ⟨[(0, .one (.c (.pb 100000 0))), (3, .one (.c (.ow 90000))), (4, .one (.c (.v (.int .i64 one10)))), (5, .one (.c (.v (.int .i64 xn5))))], [(100000, .box [.ro .u8 xb100000c0, .v (.int .i64 xb100000c1)]), (90000, .row .int xout3)]⟩
def fin_spec_someTrace (r0b : List Int) (r0p : Int) (kk : AV → List A1 → Prop) : Kt := fin TT con_spec_someTrace Try.f63.results.toList [.c (.sl .int)] [.ptr [.ro .u8 r0b, .v (.int .i64 r0p)]] kk
def kt0_spec_someTrace (kf : Kt) : Kt := blockK 0 (seqK (evF TT cs_spec_someTrace 56 an_spec_someTrace Try.f63 [1, 1, 1, 1]) (kf))
theorem r0_spec_someTrace (r0b : List Int) (r0p : Int) (one10 : Int) (kk : AV → List A1 → Prop) (n : Nat) (xn5 : Int) (xb100000c0 : List Int) (xb100000c1 : Int) (xout3 : List Int) :
    iter (evF TT cs_spec_someTrace 56 an_spec_someTrace Try.f63 [1, 1, 1, 0, 1, 0, 0]) nm0_spec_someTrace (kt0_spec_someTrace (fin_spec_someTrace r0b r0p kk)) (n + 1) (can0_spec_someTrace one10 xn5 xb100000c0 xb100000c1 xout3) = T0_spec_someTrace one10 xn5 xb100000c0 xb100000c1 xout3 (fun r0 r1 r2 => kk (.one (.c (.ro .int r0))) [.ptr [.ro .u8 r1, .v (.int .i64 r2)]]) (fun xn5 xb100000c0 xb100000c1 xout3 => iter (evF TT cs_spec_someTrace 56 an_spec_someTrace Try.f63 [1, 1, 1, 0, 1, 0, 0]) nm0_spec_someTrace (kt0_spec_someTrace (fin_spec_someTrace r0b r0p kk)) n (can0_spec_someTrace one10 xn5 xb100000c0 xb100000c1 xout3)) := by kernel_rfl
theorem l0_spec_someTrace (r0b : List Int) (r0p : Int) (one10 : Int) (kk : AV → List A1 → Prop) : ∀ (n : Nat) (xn5 : Int) (xb100000c0 : List Int) (xb100000c1 : Int) (xout3 : List Int), iter (evF TT cs_spec_someTrace 56 an_spec_someTrace Try.f63 [1, 1, 1, 0, 1, 0, 0]) nm0_spec_someTrace (kt0_spec_someTrace (fin_spec_someTrace r0b r0p kk)) n (can0_spec_someTrace one10 xn5 xb100000c0 xb100000c1 xout3) = L0_spec_someTrace one10 (fun r0 r1 r2 => kk (.one (.c (.ro .int r0))) [.ptr [.ro .u8 r1, .v (.int .i64 r2)]]) n xn5 xb100000c0 xb100000c1 xout3 := by
  intro n
  induction n with
  | zero => intros; rfl
  | succ n ih =>
    intro xn5 xb100000c0 xb100000c1 xout3
    rw [r0_spec_someTrace r0b r0p one10 kk n xn5 xb100000c0 xb100000c1 xout3]
    have hb : (fun xn5 xb100000c0 xb100000c1 xout3 => iter (evF TT cs_spec_someTrace 56 an_spec_someTrace Try.f63 [1, 1, 1, 0, 1, 0, 0]) nm0_spec_someTrace (kt0_spec_someTrace (fin_spec_someTrace r0b r0p kk)) n (can0_spec_someTrace one10 xn5 xb100000c0 xb100000c1 xout3)) = L0_spec_someTrace one10 (fun r0 r1 r2 => kk (.one (.c (.ro .int r0))) [.ptr [.ro .u8 r1, .v (.int .i64 r2)]]) n := by
      funext xn5 xb100000c0 xb100000c1 xout3; exact ih xn5 xb100000c0 xb100000c1 xout3
    rw [hb]
    rfl
theorem g_spec_someTrace (r0b : List Int) (r0p : Int) (kk : AV → List A1 → Prop) :
    ev TT cs_spec_someTrace 56 an_spec_someTrace (Try.f63.body.getD .skip) (st0 con_spec_someTrace [.ptr [.ro .u8 r0b, .v (.int .i64 r0p)]]) (fin TT con_spec_someTrace Try.f63.results.toList [.c (.sl .int)] [.ptr [.ro .u8 r0b, .v (.int .i64 r0p)]] kk) = G_spec_someTrace r0b r0p (fun one10 xn5 xb100000c0 xb100000c1 xout3 => ∃ j, iter (evF TT cs_spec_someTrace 56 an_spec_someTrace Try.f63 [1, 1, 1, 0, 1, 0, 0]) nm0_spec_someTrace (kt0_spec_someTrace (fin_spec_someTrace r0b r0p kk)) j (can0_spec_someTrace one10 xn5 xb100000c0 xb100000c1 xout3)) := by kernel_rfl
theorem e_spec_someTrace (r0b : List Int) (r0p : Int) (kk : AV → List A1 → Prop) :
    ev TT cs_spec_someTrace 56 an_spec_someTrace (Try.f63.body.getD .skip) (st0 con_spec_someTrace [.ptr [.ro .u8 r0b, .v (.int .i64 r0p)]]) (fin TT con_spec_someTrace Try.f63.results.toList [.c (.sl .int)] [.ptr [.ro .u8 r0b, .v (.int .i64 r0p)]] kk) = S_spec_someTrace r0b r0p (fun r0 r1 r2 => kk (.one (.c (.ro .int r0))) [.ptr [.ro .u8 r1, .v (.int .i64 r2)]]) := by
  rw [g_spec_someTrace]
  have hi0 : (fun one10 xn5 xb100000c0 xb100000c1 xout3 => ∃ j, iter (evF TT cs_spec_someTrace 56 an_spec_someTrace Try.f63 [1, 1, 1, 0, 1, 0, 0]) nm0_spec_someTrace (kt0_spec_someTrace (fin_spec_someTrace r0b r0p kk)) j (can0_spec_someTrace one10 xn5 xb100000c0 xb100000c1 xout3)) = (fun one10 xn5 xb100000c0 xb100000c1 xout3 => ∃ j, L0_spec_someTrace one10 (fun r0 r1 r2 => kk (.one (.c (.ro .int r0))) [.ptr [.ro .u8 r1, .v (.int .i64 r2)]]) j xn5 xb100000c0 xb100000c1 xout3) := by
    funext one10 xn5 xb100000c0 xb100000c1 xout3
    refine congrArg Exists (funext fun j => ?_)
    rw [l0_spec_someTrace r0b r0p one10 kk j xn5 xb100000c0 xb100000c1 xout3]
  rw [hi0]
  rfl
theorem clok_spec_someTrace : ConOK Try.prog cl_spec_someTrace := consCons h_spec_reader_pick ⟨Try.f64, Try.func64, by kernel_rfl, ne_of_beq (by kernel_rfl)⟩ (consCons h_spec_reader_one ⟨Try.f74, Try.func74, by kernel_rfl, ne_of_beq (by kernel_rfl)⟩ (consCons h_spec_reader_spoil ⟨Try.f92, Try.func92, by kernel_rfl, ne_of_beq (by kernel_rfl)⟩ (consNil)))
theorem cok_spec_someTrace : ConsOK Try.prog 56 cs_spec_someTrace := ⟨clok_spec_someTrace, inlNil⟩
theorem i_spec_someTrace {vs : List A1} {kk : AV → List A1 → Prop} {motive : List A1 → Prop} (h : con_spec_someTrace.F vs kk) (H : ∀ (r0b : List Int) (r0p : Int), F_spec_someTrace r0b r0p (fun r0 r1 r2 => kk (.one (.c (.ro .int r0))) [.ptr [.ro .u8 r1, .v (.int .i64 r2)]]) → motive [.ptr [.ro .u8 r0b, .v (.int .i64 r0p)]]) : motive vs := by
  unfold con_spec_someTrace at h
  dsimp only at h
  split at h
  · exact H _ _ h
  · exact h.elim
theorem h_spec_someTrace : Holds Try.prog 63 con_spec_someTrace := by
  refine holds_of_ev (rt := [.c (.sl .int)]) (T := TT) (Γ := cs_spec_someTrace) (an := an_spec_someTrace) (N := 56) (c := Try.f63.body.getD .skip) Try.func63 (by kernel_rfl) Try.ntmps63 (by decide) (by decide) mixed tabOK cok_spec_someTrace (by kernel_rfl) ?_
  intro vs kk _ hF
  exact i_spec_someTrace (motive := fun vs => Goes (ev TT cs_spec_someTrace 56 an_spec_someTrace (Try.f63.body.getD .skip) (st0 con_spec_someTrace vs) (fin TT con_spec_someTrace Try.f63.results.toList [.c (.sl .int)] vs kk))) hF (fun r0b r0p hF => goes_of (e_spec_someTrace r0b r0p kk) (F_spec_someTrace_S hF))
def con_spec_DrawWorkingSet : Con := ⟨[.rd], true, [.c (.sl .u8)], fun vs k => match vs with
    | [.c (.ro .u8 code0)] => F_spec_DrawWorkingSet code0 (fun r0 r1 r2 => k (.tup [.c (.ro .int r0), .c (.v (.int .i64 r1)), .c (.v (.int .i64 r2))]) [])
    | _ => False, false⟩
def cl_spec_DrawWorkingSet : List (FuncId × Con) := [(62, con_spec_newReader), (63, con_spec_someTrace), (64, con_spec_reader_pick), (74, con_spec_reader_one)]
def an_spec_DrawWorkingSet : Ann := ⟨[], [], []⟩
def cs_spec_DrawWorkingSet : Cons := ⟨cl_spec_DrawWorkingSet, [], 0, [], []⟩
def fin_spec_DrawWorkingSet (code0 : List Int) (kk : AV → List A1 → Prop) : Kt := fin TT con_spec_DrawWorkingSet Try.f38.results.toList [.c (.sl .int), .c .sc, .c .sc] [.c (.ro .u8 code0)] kk
theorem g_spec_DrawWorkingSet (code0 : List Int) (kk : AV → List A1 → Prop) :
    ev TT cs_spec_DrawWorkingSet 23 an_spec_DrawWorkingSet (Try.f38.body.getD .skip) (st0 con_spec_DrawWorkingSet [.c (.ro .u8 code0)]) (fin TT con_spec_DrawWorkingSet Try.f38.results.toList [.c (.sl .int), .c .sc, .c .sc] [.c (.ro .u8 code0)] kk) = G_spec_DrawWorkingSet code0 (fun r0 r1 r2 => kk (.tup [.c (.ro .int r0), .c (.v (.int .i64 r1)), .c (.v (.int .i64 r2))]) []) := by kernel_rfl
theorem e_spec_DrawWorkingSet (code0 : List Int) (kk : AV → List A1 → Prop) :
    ev TT cs_spec_DrawWorkingSet 23 an_spec_DrawWorkingSet (Try.f38.body.getD .skip) (st0 con_spec_DrawWorkingSet [.c (.ro .u8 code0)]) (fin TT con_spec_DrawWorkingSet Try.f38.results.toList [.c (.sl .int), .c .sc, .c .sc] [.c (.ro .u8 code0)] kk) = S_spec_DrawWorkingSet code0 (fun r0 r1 r2 => kk (.tup [.c (.ro .int r0), .c (.v (.int .i64 r1)), .c (.v (.int .i64 r2))]) []) := by
  rw [g_spec_DrawWorkingSet]
  rfl
theorem clok_spec_DrawWorkingSet : ConOK Try.prog cl_spec_DrawWorkingSet := consCons h_spec_newReader ⟨Try.f62, Try.func62, by kernel_rfl, ne_of_beq (by kernel_rfl)⟩ (consCons h_spec_someTrace ⟨Try.f63, Try.func63, by kernel_rfl, ne_of_beq (by kernel_rfl)⟩ (consCons h_spec_reader_pick ⟨Try.f64, Try.func64, by kernel_rfl, ne_of_beq (by kernel_rfl)⟩ (consCons h_spec_reader_one ⟨Try.f74, Try.func74, by kernel_rfl, ne_of_beq (by kernel_rfl)⟩ (consNil))))
theorem cok_spec_DrawWorkingSet : ConsOK Try.prog 23 cs_spec_DrawWorkingSet := ⟨clok_spec_DrawWorkingSet, inlNil⟩
theorem i_spec_DrawWorkingSet {vs : List A1} {kk : AV → List A1 → Prop} {motive : List A1 → Prop} (h : con_spec_DrawWorkingSet.F vs kk) (H : ∀ (code0 : List Int), F_spec_DrawWorkingSet code0 (fun r0 r1 r2 => kk (.tup [.c (.ro .int r0), .c (.v (.int .i64 r1)), .c (.v (.int .i64 r2))]) []) → motive [.c (.ro .u8 code0)]) : motive vs := by
  unfold con_spec_DrawWorkingSet at h
  dsimp only at h
  split at h
  · exact H _ h
  · exact h.elim
theorem h_spec_DrawWorkingSet : Holds Try.prog 38 con_spec_DrawWorkingSet := by
  refine holds_of_ev (rt := [.c (.sl .int), .c .sc, .c .sc]) (T := TT) (Γ := cs_spec_DrawWorkingSet) (an := an_spec_DrawWorkingSet) (N := 23) (c := Try.f38.body.getD .skip) Try.func38 (by kernel_rfl) Try.ntmps38 (by decide) (by decide) mixed tabOK cok_spec_DrawWorkingSet (by kernel_rfl) ?_
  intro vs kk _ hF
  exact i_spec_DrawWorkingSet (motive := fun vs => Goes (ev TT cs_spec_DrawWorkingSet 23 an_spec_DrawWorkingSet (Try.f38.body.getD .skip) (st0 con_spec_DrawWorkingSet vs) (fin TT con_spec_DrawWorkingSet Try.f38.results.toList [.c (.sl .int), .c .sc, .c .sc] vs kk))) hF (fun code0 hF => goes_of (e_spec_DrawWorkingSet code0 kk) (F_spec_DrawWorkingSet_S hF))
def con_impl_validKey : Con := ⟨[.rd], true, [.c (.sc)], fun vs k => match vs with
    | [.c (.v (.int .i64 key0))] => F_impl_validKey key0 (fun r0 => k (.one (.c (.v (.bool r0)))) [])
    | _ => False, false⟩
def cl_impl_validKey : List (FuncId × Con) := []
def an_impl_validKey : Ann := ⟨[], [], []⟩
def cs_impl_validKey : Cons := ⟨cl_impl_validKey, [], 0, [], []⟩
def fin_impl_validKey (key0 : Int) (kk : AV → List A1 → Prop) : Kt := fin TT con_impl_validKey Try.f67.results.toList [.c .sc] [.c (.v (.int .i64 key0))] kk
theorem g_impl_validKey (key0 : Int) (kk : AV → List A1 → Prop) :
    ev TT cs_impl_validKey 9 an_impl_validKey (Try.f67.body.getD .skip) (st0 con_impl_validKey [.c (.v (.int .i64 key0))]) (fin TT con_impl_validKey Try.f67.results.toList [.c .sc] [.c (.v (.int .i64 key0))] kk) = G_impl_validKey key0 (fun r0 => kk (.one (.c (.v (.bool r0)))) []) := by kernel_rfl
theorem e_impl_validKey (key0 : Int) (kk : AV → List A1 → Prop) :
    ev TT cs_impl_validKey 9 an_impl_validKey (Try.f67.body.getD .skip) (st0 con_impl_validKey [.c (.v (.int .i64 key0))]) (fin TT con_impl_validKey Try.f67.results.toList [.c .sc] [.c (.v (.int .i64 key0))] kk) = S_impl_validKey key0 (fun r0 => kk (.one (.c (.v (.bool r0)))) []) := by
  rw [g_impl_validKey]
  rfl
theorem clok_impl_validKey : ConOK Try.prog cl_impl_validKey := consNil
theorem cok_impl_validKey : ConsOK Try.prog 9 cs_impl_validKey := ⟨clok_impl_validKey, inlNil⟩
theorem i_impl_validKey {vs : List A1} {kk : AV → List A1 → Prop} {motive : List A1 → Prop} (h : con_impl_validKey.F vs kk) (H : ∀ (key0 : Int), F_impl_validKey key0 (fun r0 => kk (.one (.c (.v (.bool r0)))) []) → motive [.c (.v (.int .i64 key0))]) : motive vs := by
  unfold con_impl_validKey at h
  dsimp only at h
  split at h
  · exact H _ h
  · exact h.elim
theorem h_impl_validKey : Holds Try.prog 67 con_impl_validKey := by
  refine holds_of_ev (rt := [.c .sc]) (T := TT) (Γ := cs_impl_validKey) (an := an_impl_validKey) (N := 9) (c := Try.f67.body.getD .skip) Try.func67 (by kernel_rfl) Try.ntmps67 (by decide) (by decide) mixed tabOK cok_impl_validKey (by kernel_rfl) ?_
  intro vs kk _ hF
  exact i_impl_validKey (motive := fun vs => Goes (ev TT cs_impl_validKey 9 an_impl_validKey (Try.f67.body.getD .skip) (st0 con_impl_validKey vs) (fin TT con_impl_validKey Try.f67.results.toList [.c .sc] vs kk))) hF (fun key0 hF => goes_of (e_impl_validKey key0 kk) (F_impl_validKey_S hF))
def con_impl_ValidTrace : Con := ⟨[.rd], true, [.c (.sl .int)], fun vs k => match vs with
    | [.c (.ro .int t0)] => F_impl_ValidTrace t0 (fun r0 => k (.one (.c (.v (.bool r0)))) [])
    | _ => False, false⟩
def cl_impl_ValidTrace : List (FuncId × Con) := [(67, con_impl_validKey)]
def nm0_impl_ValidTrace : List NStep := [.keep [8, 9, 10] []]
def an_impl_ValidTrace : Ann := ⟨[], [(4, nm0_impl_ValidTrace)], []⟩
def cs_impl_ValidTrace : Cons := ⟨cl_impl_ValidTrace, [], 0, [], []⟩
def can0_impl_ValidTrace (t0 : List Int) (xt9 : Int) (xt10 : Int) : St := ⟨[(8, .one (.c (.ro .int t0))), (9, .one (.c (.v (.int .i64 xt9)))), (10, .one (.c (.v (.int .i64 xt10))))], []⟩
def fin_impl_ValidTrace (t0 : List Int) (kk : AV → List A1 → Prop) : Kt := fin TT con_impl_ValidTrace Try.f50.results.toList [.c .sc] [.c (.ro .int t0)] kk
def kt0_impl_ValidTrace (kf : Kt) : Kt := blockK 0 (seqK (evF TT cs_impl_ValidTrace 18 an_impl_ValidTrace Try.f50 [1, 1, 1]) (kf))
theorem r0_impl_ValidTrace (t0 : List Int) (xt9 : Int) (kk : AV → List A1 → Prop) (n : Nat) (xt10 : Int) :
    iter (evF TT cs_impl_ValidTrace 18 an_impl_ValidTrace Try.f50 [1, 1, 0, 1, 0, 0]) nm0_impl_ValidTrace (kt0_impl_ValidTrace (fin_impl_ValidTrace t0 kk)) (n + 1) (can0_impl_ValidTrace t0 xt9 xt10) = T0_impl_ValidTrace t0 xt9 xt10 (fun r0 => kk (.one (.c (.v (.bool r0)))) []) (fun xt10 => iter (evF TT cs_impl_ValidTrace 18 an_impl_ValidTrace Try.f50 [1, 1, 0, 1, 0, 0]) nm0_impl_ValidTrace (kt0_impl_ValidTrace (fin_impl_ValidTrace t0 kk)) n (can0_impl_ValidTrace t0 xt9 xt10)) := by kernel_rfl
theorem l0_impl_ValidTrace (t0 : List Int) (xt9 : Int) (kk : AV → List A1 → Prop) : ∀ (n : Nat) (xt10 : Int), iter (evF TT cs_impl_ValidTrace 18 an_impl_ValidTrace Try.f50 [1, 1, 0, 1, 0, 0]) nm0_impl_ValidTrace (kt0_impl_ValidTrace (fin_impl_ValidTrace t0 kk)) n (can0_impl_ValidTrace t0 xt9 xt10) = L0_impl_ValidTrace t0 xt9 (fun r0 => kk (.one (.c (.v (.bool r0)))) []) n xt10 := by
  intro n
  induction n with
  | zero => intros; rfl
  | succ n ih =>
    intro xt10
    rw [r0_impl_ValidTrace t0 xt9 kk n xt10]
    have hb : (fun xt10 => iter (evF TT cs_impl_ValidTrace 18 an_impl_ValidTrace Try.f50 [1, 1, 0, 1, 0, 0]) nm0_impl_ValidTrace (kt0_impl_ValidTrace (fin_impl_ValidTrace t0 kk)) n (can0_impl_ValidTrace t0 xt9 xt10)) = L0_impl_ValidTrace t0 xt9 (fun r0 => kk (.one (.c (.v (.bool r0)))) []) n := by
      funext xt10; exact ih xt10
    rw [hb]
    rfl
theorem g_impl_ValidTrace (t0 : List Int) (kk : AV → List A1 → Prop) :
    ev TT cs_impl_ValidTrace 18 an_impl_ValidTrace (Try.f50.body.getD .skip) (st0 con_impl_ValidTrace [.c (.ro .int t0)]) (fin TT con_impl_ValidTrace Try.f50.results.toList [.c .sc] [.c (.ro .int t0)] kk) = G_impl_ValidTrace t0 (fun r0 => kk (.one (.c (.v (.bool r0)))) []) (fun t0 xt9 xt10 => ∃ j, iter (evF TT cs_impl_ValidTrace 18 an_impl_ValidTrace Try.f50 [1, 1, 0, 1, 0, 0]) nm0_impl_ValidTrace (kt0_impl_ValidTrace (fin_impl_ValidTrace t0 kk)) j (can0_impl_ValidTrace t0 xt9 xt10)) := by kernel_rfl
theorem e_impl_ValidTrace (t0 : List Int) (kk : AV → List A1 → Prop) :
    ev TT cs_impl_ValidTrace 18 an_impl_ValidTrace (Try.f50.body.getD .skip) (st0 con_impl_ValidTrace [.c (.ro .int t0)]) (fin TT con_impl_ValidTrace Try.f50.results.toList [.c .sc] [.c (.ro .int t0)] kk) = S_impl_ValidTrace t0 (fun r0 => kk (.one (.c (.v (.bool r0)))) []) := by
  rw [g_impl_ValidTrace]
  have hi0 : (fun t0 xt9 xt10 => ∃ j, iter (evF TT cs_impl_ValidTrace 18 an_impl_ValidTrace Try.f50 [1, 1, 0, 1, 0, 0]) nm0_impl_ValidTrace (kt0_impl_ValidTrace (fin_impl_ValidTrace t0 kk)) j (can0_impl_ValidTrace t0 xt9 xt10)) = (fun t0 xt9 xt10 => ∃ j, L0_impl_ValidTrace t0 xt9 (fun r0 => kk (.one (.c (.v (.bool r0)))) []) j xt10) := by
    funext t0 xt9 xt10
    refine congrArg Exists (funext fun j => ?_)
    rw [l0_impl_ValidTrace t0 xt9 kk j xt10]
  rw [hi0]
  rfl
theorem clok_impl_ValidTrace : ConOK Try.prog cl_impl_ValidTrace := consCons h_impl_validKey ⟨Try.f67, Try.func67, by kernel_rfl, ne_of_beq (by kernel_rfl)⟩ (consNil)
theorem cok_impl_ValidTrace : ConsOK Try.prog 18 cs_impl_ValidTrace := ⟨clok_impl_ValidTrace, inlNil⟩
theorem i_impl_ValidTrace {vs : List A1} {kk : AV → List A1 → Prop} {motive : List A1 → Prop} (h : con_impl_ValidTrace.F vs kk) (H : ∀ (t0 : List Int), F_impl_ValidTrace t0 (fun r0 => kk (.one (.c (.v (.bool r0)))) []) → motive [.c (.ro .int t0)]) : motive vs := by
  unfold con_impl_ValidTrace at h
  dsimp only at h
  split at h
  · exact H _ h
  · exact h.elim
theorem h_impl_ValidTrace : Holds Try.prog 50 con_impl_ValidTrace := by
  refine holds_of_ev (rt := [.c .sc]) (T := TT) (Γ := cs_impl_ValidTrace) (an := an_impl_ValidTrace) (N := 18) (c := Try.f50.body.getD .skip) Try.func50 (by kernel_rfl) Try.ntmps50 (by decide) (by decide) mixed tabOK cok_impl_ValidTrace (by kernel_rfl) ?_
  intro vs kk _ hF
  exact i_impl_ValidTrace (motive := fun vs => Goes (ev TT cs_impl_ValidTrace 18 an_impl_ValidTrace (Try.f50.body.getD .skip) (st0 con_impl_ValidTrace vs) (fin TT con_impl_ValidTrace Try.f50.results.toList [.c .sc] vs kk))) hF (fun t0 hF => goes_of (e_impl_ValidTrace t0 kk) (F_impl_ValidTrace_S hF))
def con_impl_validPlace : Con := ⟨[.rd, .rd], true, [.c (.sl .int), .c (.sc)], fun vs k => match vs with
    | [.c (.ro .int t0), .c (.v (.int .i64 place1))] => F_impl_validPlace t0 place1 (fun r0 => k (.one (.c (.v (.bool r0)))) [])
    | _ => False, false⟩
def cl_impl_validPlace : List (FuncId × Con) := []
def an_impl_validPlace : Ann := ⟨[], [], []⟩
def cs_impl_validPlace : Cons := ⟨cl_impl_validPlace, [], 0, [], []⟩
def fin_impl_validPlace (t0 : List Int) (place1 : Int) (kk : AV → List A1 → Prop) : Kt := fin TT con_impl_validPlace Try.f66.results.toList [.c .sc] [.c (.ro .int t0), .c (.v (.int .i64 place1))] kk
theorem g_impl_validPlace (t0 : List Int) (place1 : Int) (kk : AV → List A1 → Prop) :
    ev TT cs_impl_validPlace 13 an_impl_validPlace (Try.f66.body.getD .skip) (st0 con_impl_validPlace [.c (.ro .int t0), .c (.v (.int .i64 place1))]) (fin TT con_impl_validPlace Try.f66.results.toList [.c .sc] [.c (.ro .int t0), .c (.v (.int .i64 place1))] kk) = G_impl_validPlace t0 place1 (fun r0 => kk (.one (.c (.v (.bool r0)))) []) := by kernel_rfl
theorem e_impl_validPlace (t0 : List Int) (place1 : Int) (kk : AV → List A1 → Prop) :
    ev TT cs_impl_validPlace 13 an_impl_validPlace (Try.f66.body.getD .skip) (st0 con_impl_validPlace [.c (.ro .int t0), .c (.v (.int .i64 place1))]) (fin TT con_impl_validPlace Try.f66.results.toList [.c .sc] [.c (.ro .int t0), .c (.v (.int .i64 place1))] kk) = S_impl_validPlace t0 place1 (fun r0 => kk (.one (.c (.v (.bool r0)))) []) := by
  rw [g_impl_validPlace]
  rfl
theorem clok_impl_validPlace : ConOK Try.prog cl_impl_validPlace := consNil
theorem cok_impl_validPlace : ConsOK Try.prog 13 cs_impl_validPlace := ⟨clok_impl_validPlace, inlNil⟩
theorem i_impl_validPlace {vs : List A1} {kk : AV → List A1 → Prop} {motive : List A1 → Prop} (h : con_impl_validPlace.F vs kk) (H : ∀ (t0 : List Int) (place1 : Int), F_impl_validPlace t0 place1 (fun r0 => kk (.one (.c (.v (.bool r0)))) []) → motive [.c (.ro .int t0), .c (.v (.int .i64 place1))]) : motive vs := by
  unfold con_impl_validPlace at h
  dsimp only at h
  split at h
  · exact H _ _ h
  · exact h.elim
theorem h_impl_validPlace : Holds Try.prog 66 con_impl_validPlace := by
  refine holds_of_ev (rt := [.c .sc]) (T := TT) (Γ := cs_impl_validPlace) (an := an_impl_validPlace) (N := 13) (c := Try.f66.body.getD .skip) Try.func66 (by kernel_rfl) Try.ntmps66 (by decide) (by decide) mixed tabOK cok_impl_validPlace (by kernel_rfl) ?_
  intro vs kk _ hF
  exact i_impl_validPlace (motive := fun vs => Goes (ev TT cs_impl_validPlace 13 an_impl_validPlace (Try.f66.body.getD .skip) (st0 con_impl_validPlace vs) (fin TT con_impl_validPlace Try.f66.results.toList [.c .sc] vs kk))) hF (fun t0 place1 hF => goes_of (e_impl_validPlace t0 place1 kk) (F_impl_validPlace_S hF))
def con_slices_Index_sint_int : Con := ⟨[.rd, .rd], true, [.c (.sl .int), .c (.sc)], fun vs k => match vs with
    | [.c (.ro .int s0), .c (.v (.int .i64 v1))] => F_slices_Index_sint_int s0 v1 (fun r0 => k (.one (.c (.v (.int .i64 r0)))) [])
    | _ => False, false⟩
def cl_slices_Index_sint_int : List (FuncId × Con) := []
def nm0_slices_Index_sint_int : List NStep := [.keep [0, 1, 7, 8] []]
def an_slices_Index_sint_int : Ann := ⟨[], [(2, nm0_slices_Index_sint_int)], []⟩
def cs_slices_Index_sint_int : Cons := ⟨cl_slices_Index_sint_int, [], 0, [], []⟩
def can0_slices_Index_sint_int (s0 : List Int) (v1 : Int) (xt7 : Int) (xt8 : Int) : St := ⟨[(0, .one (.c (.ro .int s0))), (1, .one (.c (.v (.int .i64 v1)))), (7, .one (.c (.v (.int .i64 xt7)))), (8, .one (.c (.v (.int .i64 xt8))))], []⟩
def fin_slices_Index_sint_int (s0 : List Int) (v1 : Int) (kk : AV → List A1 → Prop) : Kt := fin TT con_slices_Index_sint_int Try.f68.results.toList [.c .sc] [.c (.ro .int s0), .c (.v (.int .i64 v1))] kk
def kt0_slices_Index_sint_int (kf : Kt) : Kt := blockK 0 (seqK (evF TT cs_slices_Index_sint_int 19 an_slices_Index_sint_int Try.f68 [1, 1]) (kf))
theorem r0_slices_Index_sint_int (s0 : List Int) (v1 : Int) (xt7 : Int) (kk : AV → List A1 → Prop) (n : Nat) (xt8 : Int) :
    iter (evF TT cs_slices_Index_sint_int 19 an_slices_Index_sint_int Try.f68 [1, 0, 1, 0, 0]) nm0_slices_Index_sint_int (kt0_slices_Index_sint_int (fin_slices_Index_sint_int s0 v1 kk)) (n + 1) (can0_slices_Index_sint_int s0 v1 xt7 xt8) = T0_slices_Index_sint_int s0 v1 xt7 xt8 (fun r0 => kk (.one (.c (.v (.int .i64 r0)))) []) (fun xt8 => iter (evF TT cs_slices_Index_sint_int 19 an_slices_Index_sint_int Try.f68 [1, 0, 1, 0, 0]) nm0_slices_Index_sint_int (kt0_slices_Index_sint_int (fin_slices_Index_sint_int s0 v1 kk)) n (can0_slices_Index_sint_int s0 v1 xt7 xt8)) := by kernel_rfl
theorem l0_slices_Index_sint_int (s0 : List Int) (v1 : Int) (xt7 : Int) (kk : AV → List A1 → Prop) : ∀ (n : Nat) (xt8 : Int), iter (evF TT cs_slices_Index_sint_int 19 an_slices_Index_sint_int Try.f68 [1, 0, 1, 0, 0]) nm0_slices_Index_sint_int (kt0_slices_Index_sint_int (fin_slices_Index_sint_int s0 v1 kk)) n (can0_slices_Index_sint_int s0 v1 xt7 xt8) = L0_slices_Index_sint_int s0 v1 xt7 (fun r0 => kk (.one (.c (.v (.int .i64 r0)))) []) n xt8 := by
  intro n
  induction n with
  | zero => intros; rfl
  | succ n ih =>
    intro xt8
    rw [r0_slices_Index_sint_int s0 v1 xt7 kk n xt8]
    have hb : (fun xt8 => iter (evF TT cs_slices_Index_sint_int 19 an_slices_Index_sint_int Try.f68 [1, 0, 1, 0, 0]) nm0_slices_Index_sint_int (kt0_slices_Index_sint_int (fin_slices_Index_sint_int s0 v1 kk)) n (can0_slices_Index_sint_int s0 v1 xt7 xt8)) = L0_slices_Index_sint_int s0 v1 xt7 (fun r0 => kk (.one (.c (.v (.int .i64 r0)))) []) n := by
      funext xt8; exact ih xt8
    rw [hb]
    rfl
theorem g_slices_Index_sint_int (s0 : List Int) (v1 : Int) (kk : AV → List A1 → Prop) :
    ev TT cs_slices_Index_sint_int 19 an_slices_Index_sint_int (Try.f68.body.getD .skip) (st0 con_slices_Index_sint_int [.c (.ro .int s0), .c (.v (.int .i64 v1))]) (fin TT con_slices_Index_sint_int Try.f68.results.toList [.c .sc] [.c (.ro .int s0), .c (.v (.int .i64 v1))] kk) = G_slices_Index_sint_int s0 v1 (fun s0 v1 xt7 xt8 => ∃ j, iter (evF TT cs_slices_Index_sint_int 19 an_slices_Index_sint_int Try.f68 [1, 0, 1, 0, 0]) nm0_slices_Index_sint_int (kt0_slices_Index_sint_int (fin_slices_Index_sint_int s0 v1 kk)) j (can0_slices_Index_sint_int s0 v1 xt7 xt8)) := by kernel_rfl
theorem e_slices_Index_sint_int (s0 : List Int) (v1 : Int) (kk : AV → List A1 → Prop) :
    ev TT cs_slices_Index_sint_int 19 an_slices_Index_sint_int (Try.f68.body.getD .skip) (st0 con_slices_Index_sint_int [.c (.ro .int s0), .c (.v (.int .i64 v1))]) (fin TT con_slices_Index_sint_int Try.f68.results.toList [.c .sc] [.c (.ro .int s0), .c (.v (.int .i64 v1))] kk) = S_slices_Index_sint_int s0 v1 (fun r0 => kk (.one (.c (.v (.int .i64 r0)))) []) := by
  rw [g_slices_Index_sint_int]
  have hi0 : (fun s0 v1 xt7 xt8 => ∃ j, iter (evF TT cs_slices_Index_sint_int 19 an_slices_Index_sint_int Try.f68 [1, 0, 1, 0, 0]) nm0_slices_Index_sint_int (kt0_slices_Index_sint_int (fin_slices_Index_sint_int s0 v1 kk)) j (can0_slices_Index_sint_int s0 v1 xt7 xt8)) = (fun s0 v1 xt7 xt8 => ∃ j, L0_slices_Index_sint_int s0 v1 xt7 (fun r0 => kk (.one (.c (.v (.int .i64 r0)))) []) j xt8) := by
    funext s0 v1 xt7 xt8
    refine congrArg Exists (funext fun j => ?_)
    rw [l0_slices_Index_sint_int s0 v1 xt7 kk j xt8]
  rw [hi0]
  rfl
theorem clok_slices_Index_sint_int : ConOK Try.prog cl_slices_Index_sint_int := consNil
theorem cok_slices_Index_sint_int : ConsOK Try.prog 19 cs_slices_Index_sint_int := ⟨clok_slices_Index_sint_int, inlNil⟩
theorem i_slices_Index_sint_int {vs : List A1} {kk : AV → List A1 → Prop} {motive : List A1 → Prop} (h : con_slices_Index_sint_int.F vs kk) (H : ∀ (s0 : List Int) (v1 : Int), F_slices_Index_sint_int s0 v1 (fun r0 => kk (.one (.c (.v (.int .i64 r0)))) []) → motive [.c (.ro .int s0), .c (.v (.int .i64 v1))]) : motive vs := by
  unfold con_slices_Index_sint_int at h
  dsimp only at h
  split at h
  · exact H _ _ h
  · exact h.elim
theorem h_slices_Index_sint_int : Holds Try.prog 68 con_slices_Index_sint_int := by
  refine holds_of_ev (rt := [.c .sc]) (T := TT) (Γ := cs_slices_Index_sint_int) (an := an_slices_Index_sint_int) (N := 19) (c := Try.f68.body.getD .skip) Try.func68 (by kernel_rfl) Try.ntmps68 (by decide) (by decide) mixed tabOK cok_slices_Index_sint_int (by kernel_rfl) ?_
  intro vs kk _ hF
  exact i_slices_Index_sint_int (motive := fun vs => Goes (ev TT cs_slices_Index_sint_int 19 an_slices_Index_sint_int (Try.f68.body.getD .skip) (st0 con_slices_Index_sint_int vs) (fin TT con_slices_Index_sint_int Try.f68.results.toList [.c .sc] vs kk))) hF (fun s0 v1 hF => goes_of (e_slices_Index_sint_int s0 v1 kk) (F_slices_Index_sint_int_S hF))
def con_slices_Contains_sint_int : Con := ⟨[.rd, .rd], true, [.c (.sl .int), .c (.sc)], fun vs k => match vs with
    | [.c (.ro .int s0), .c (.v (.int .i64 v1))] => F_slices_Contains_sint_int s0 v1 (fun r0 => k (.one (.c (.v (.bool r0)))) [])
    | _ => False, false⟩
def cl_slices_Contains_sint_int : List (FuncId × Con) := [(68, con_slices_Index_sint_int)]
def an_slices_Contains_sint_int : Ann := ⟨[], [], []⟩
def cs_slices_Contains_sint_int : Cons := ⟨cl_slices_Contains_sint_int, [], 0, [], []⟩
def fin_slices_Contains_sint_int (s0 : List Int) (v1 : Int) (kk : AV → List A1 → Prop) : Kt := fin TT con_slices_Contains_sint_int Try.f59.results.toList [.c .sc] [.c (.ro .int s0), .c (.v (.int .i64 v1))] kk
theorem g_slices_Contains_sint_int (s0 : List Int) (v1 : Int) (kk : AV → List A1 → Prop) :
    ev TT cs_slices_Contains_sint_int 9 an_slices_Contains_sint_int (Try.f59.body.getD .skip) (st0 con_slices_Contains_sint_int [.c (.ro .int s0), .c (.v (.int .i64 v1))]) (fin TT con_slices_Contains_sint_int Try.f59.results.toList [.c .sc] [.c (.ro .int s0), .c (.v (.int .i64 v1))] kk) = G_slices_Contains_sint_int s0 v1 (fun r0 => kk (.one (.c (.v (.bool r0)))) []) := by kernel_rfl
theorem e_slices_Contains_sint_int (s0 : List Int) (v1 : Int) (kk : AV → List A1 → Prop) :
    ev TT cs_slices_Contains_sint_int 9 an_slices_Contains_sint_int (Try.f59.body.getD .skip) (st0 con_slices_Contains_sint_int [.c (.ro .int s0), .c (.v (.int .i64 v1))]) (fin TT con_slices_Contains_sint_int Try.f59.results.toList [.c .sc] [.c (.ro .int s0), .c (.v (.int .i64 v1))] kk) = S_slices_Contains_sint_int s0 v1 (fun r0 => kk (.one (.c (.v (.bool r0)))) []) := by
  rw [g_slices_Contains_sint_int]
  rfl
theorem clok_slices_Contains_sint_int : ConOK Try.prog cl_slices_Contains_sint_int := consCons h_slices_Index_sint_int ⟨Try.f68, Try.func68, by kernel_rfl, ne_of_beq (by kernel_rfl)⟩ (consNil)
theorem cok_slices_Contains_sint_int : ConsOK Try.prog 9 cs_slices_Contains_sint_int := ⟨clok_slices_Contains_sint_int, inlNil⟩
theorem i_slices_Contains_sint_int {vs : List A1} {kk : AV → List A1 → Prop} {motive : List A1 → Prop} (h : con_slices_Contains_sint_int.F vs kk) (H : ∀ (s0 : List Int) (v1 : Int), F_slices_Contains_sint_int s0 v1 (fun r0 => kk (.one (.c (.v (.bool r0)))) []) → motive [.c (.ro .int s0), .c (.v (.int .i64 v1))]) : motive vs := by
  unfold con_slices_Contains_sint_int at h
  dsimp only at h
  split at h
  · exact H _ _ h
  · exact h.elim
theorem h_slices_Contains_sint_int : Holds Try.prog 59 con_slices_Contains_sint_int := by
  refine holds_of_ev (rt := [.c .sc]) (T := TT) (Γ := cs_slices_Contains_sint_int) (an := an_slices_Contains_sint_int) (N := 9) (c := Try.f59.body.getD .skip) Try.func59 (by kernel_rfl) Try.ntmps59 (by decide) (by decide) mixed tabOK cok_slices_Contains_sint_int (by kernel_rfl) ?_
  intro vs kk _ hF
  exact i_slices_Contains_sint_int (motive := fun vs => Goes (ev TT cs_slices_Contains_sint_int 9 an_slices_Contains_sint_int (Try.f59.body.getD .skip) (st0 con_slices_Contains_sint_int vs) (fin TT con_slices_Contains_sint_int Try.f59.results.toList [.c .sc] vs kk))) hF (fun s0 v1 hF => goes_of (e_slices_Contains_sint_int s0 v1 kk) (F_slices_Contains_sint_int_S hF))
def con_impl_NewKeys : Con := ⟨[.rd], true, [.c (.sl .int)], fun vs k => match vs with
    | [.c (.ro .int t0)] => F_impl_NewKeys t0 (fun r0 => k (.one (.c (.v (.int .i64 r0)))) [])
    | _ => False, false⟩
def cl_impl_NewKeys : List (FuncId × Con) := [(50, con_impl_ValidTrace), (59, con_slices_Contains_sint_int)]
def nm0_impl_NewKeys : List NStep := [.keep [0, 3, 9, 10, 11] []]
def an_impl_NewKeys : Ann := ⟨[], [(5, nm0_impl_NewKeys)], []⟩
def cs_impl_NewKeys : Cons := ⟨cl_impl_NewKeys, [], 0, [], []⟩
def can0_impl_NewKeys (t0 : List Int) (xt10 : Int) (xcount3 : Int) (xt11 : Int) : St := ⟨[(0, .one (.c (.ro .int t0))), (3, .one (.c (.v (.int .i64 xcount3)))), (9, .one (.c (.ro .int t0))), (10, .one (.c (.v (.int .i64 xt10)))), (11, .one (.c (.v (.int .i64 xt11))))], []⟩
def fin_impl_NewKeys (t0 : List Int) (kk : AV → List A1 → Prop) : Kt := fin TT con_impl_NewKeys Try.f19.results.toList [.c .sc] [.c (.ro .int t0)] kk
def kt0_impl_NewKeys (kf : Kt) : Kt := blockK 0 (seqK (evF TT cs_impl_NewKeys 26 an_impl_NewKeys Try.f19 [1, 1, 1, 1]) (kf))
theorem r0_impl_NewKeys (t0 : List Int) (xt10 : Int) (kk : AV → List A1 → Prop) (n : Nat) (xcount3 : Int) (xt11 : Int) :
    iter (evF TT cs_impl_NewKeys 26 an_impl_NewKeys Try.f19 [1, 1, 1, 0, 1, 0, 0]) nm0_impl_NewKeys (kt0_impl_NewKeys (fin_impl_NewKeys t0 kk)) (n + 1) (can0_impl_NewKeys t0 xt10 xcount3 xt11) = T0_impl_NewKeys t0 xt10 xcount3 xt11 (fun r0 => kk (.one (.c (.v (.int .i64 r0)))) []) (fun xcount3 xt11 => iter (evF TT cs_impl_NewKeys 26 an_impl_NewKeys Try.f19 [1, 1, 1, 0, 1, 0, 0]) nm0_impl_NewKeys (kt0_impl_NewKeys (fin_impl_NewKeys t0 kk)) n (can0_impl_NewKeys t0 xt10 xcount3 xt11)) := by kernel_rfl
theorem l0_impl_NewKeys (t0 : List Int) (xt10 : Int) (kk : AV → List A1 → Prop) : ∀ (n : Nat) (xcount3 : Int) (xt11 : Int), iter (evF TT cs_impl_NewKeys 26 an_impl_NewKeys Try.f19 [1, 1, 1, 0, 1, 0, 0]) nm0_impl_NewKeys (kt0_impl_NewKeys (fin_impl_NewKeys t0 kk)) n (can0_impl_NewKeys t0 xt10 xcount3 xt11) = L0_impl_NewKeys t0 xt10 (fun r0 => kk (.one (.c (.v (.int .i64 r0)))) []) n xcount3 xt11 := by
  intro n
  induction n with
  | zero => intros; rfl
  | succ n ih =>
    intro xcount3 xt11
    rw [r0_impl_NewKeys t0 xt10 kk n xcount3 xt11]
    have hb : (fun xcount3 xt11 => iter (evF TT cs_impl_NewKeys 26 an_impl_NewKeys Try.f19 [1, 1, 1, 0, 1, 0, 0]) nm0_impl_NewKeys (kt0_impl_NewKeys (fin_impl_NewKeys t0 kk)) n (can0_impl_NewKeys t0 xt10 xcount3 xt11)) = L0_impl_NewKeys t0 xt10 (fun r0 => kk (.one (.c (.v (.int .i64 r0)))) []) n := by
      funext xcount3 xt11; exact ih xcount3 xt11
    rw [hb]
    rfl
theorem g_impl_NewKeys (t0 : List Int) (kk : AV → List A1 → Prop) :
    ev TT cs_impl_NewKeys 26 an_impl_NewKeys (Try.f19.body.getD .skip) (st0 con_impl_NewKeys [.c (.ro .int t0)]) (fin TT con_impl_NewKeys Try.f19.results.toList [.c .sc] [.c (.ro .int t0)] kk) = G_impl_NewKeys t0 (fun r0 => kk (.one (.c (.v (.int .i64 r0)))) []) (fun t0 xt10 xcount3 xt11 => ∃ j, iter (evF TT cs_impl_NewKeys 26 an_impl_NewKeys Try.f19 [1, 1, 1, 0, 1, 0, 0]) nm0_impl_NewKeys (kt0_impl_NewKeys (fin_impl_NewKeys t0 kk)) j (can0_impl_NewKeys t0 xt10 xcount3 xt11)) := by kernel_rfl
theorem e_impl_NewKeys (t0 : List Int) (kk : AV → List A1 → Prop) :
    ev TT cs_impl_NewKeys 26 an_impl_NewKeys (Try.f19.body.getD .skip) (st0 con_impl_NewKeys [.c (.ro .int t0)]) (fin TT con_impl_NewKeys Try.f19.results.toList [.c .sc] [.c (.ro .int t0)] kk) = S_impl_NewKeys t0 (fun r0 => kk (.one (.c (.v (.int .i64 r0)))) []) := by
  rw [g_impl_NewKeys]
  have hi0 : (fun t0 xt10 xcount3 xt11 => ∃ j, iter (evF TT cs_impl_NewKeys 26 an_impl_NewKeys Try.f19 [1, 1, 1, 0, 1, 0, 0]) nm0_impl_NewKeys (kt0_impl_NewKeys (fin_impl_NewKeys t0 kk)) j (can0_impl_NewKeys t0 xt10 xcount3 xt11)) = (fun t0 xt10 xcount3 xt11 => ∃ j, L0_impl_NewKeys t0 xt10 (fun r0 => kk (.one (.c (.v (.int .i64 r0)))) []) j xcount3 xt11) := by
    funext t0 xt10 xcount3 xt11
    refine congrArg Exists (funext fun j => ?_)
    rw [l0_impl_NewKeys t0 xt10 kk j xcount3 xt11]
  rw [hi0]
  rfl
theorem clok_impl_NewKeys : ConOK Try.prog cl_impl_NewKeys := consCons h_impl_ValidTrace ⟨Try.f50, Try.func50, by kernel_rfl, ne_of_beq (by kernel_rfl)⟩ (consCons h_slices_Contains_sint_int ⟨Try.f59, Try.func59, by kernel_rfl, ne_of_beq (by kernel_rfl)⟩ (consNil))
theorem cok_impl_NewKeys : ConsOK Try.prog 26 cs_impl_NewKeys := ⟨clok_impl_NewKeys, inlNil⟩
theorem i_impl_NewKeys {vs : List A1} {kk : AV → List A1 → Prop} {motive : List A1 → Prop} (h : con_impl_NewKeys.F vs kk) (H : ∀ (t0 : List Int), F_impl_NewKeys t0 (fun r0 => kk (.one (.c (.v (.int .i64 r0)))) []) → motive [.c (.ro .int t0)]) : motive vs := by
  unfold con_impl_NewKeys at h
  dsimp only at h
  split at h
  · exact H _ h
  · exact h.elim
theorem h_impl_NewKeys : Holds Try.prog 19 con_impl_NewKeys := by
  refine holds_of_ev (rt := [.c .sc]) (T := TT) (Γ := cs_impl_NewKeys) (an := an_impl_NewKeys) (N := 26) (c := Try.f19.body.getD .skip) Try.func19 (by kernel_rfl) Try.ntmps19 (by decide) (by decide) mixed tabOK cok_impl_NewKeys (by kernel_rfl) ?_
  intro vs kk _ hF
  exact i_impl_NewKeys (motive := fun vs => Goes (ev TT cs_impl_NewKeys 26 an_impl_NewKeys (Try.f19.body.getD .skip) (st0 con_impl_NewKeys vs) (fin TT con_impl_NewKeys Try.f19.results.toList [.c .sc] vs kk))) hF (fun t0 hF => goes_of (e_impl_NewKeys t0 kk) (F_impl_NewKeys_S hF))
def con_impl_WorkingSet : Con := ⟨[.rd, .rd, .rd], true, [.c (.sl .int), .c (.sc), .c (.sc)], fun vs k => match vs with
    | [.c (.ro .int t0), .c (.v (.int .i64 at1)), .c (.v (.int .i64 span2))] => F_impl_WorkingSet t0 at1 span2 (fun r0 => k (.one (.c (.v (.int .i64 r0)))) [])
    | _ => False, false⟩
def cl_impl_WorkingSet : List (FuncId × Con) := [(19, con_impl_NewKeys), (50, con_impl_ValidTrace), (66, con_impl_validPlace)]
def an_impl_WorkingSet : Ann := ⟨[], [], []⟩
def cs_impl_WorkingSet : Cons := ⟨cl_impl_WorkingSet, [], 0, [], []⟩
def fin_impl_WorkingSet (t0 : List Int) (at1 : Int) (span2 : Int) (kk : AV → List A1 → Prop) : Kt := fin TT con_impl_WorkingSet Try.f39.results.toList [.c .sc] [.c (.ro .int t0), .c (.v (.int .i64 at1)), .c (.v (.int .i64 span2))] kk
theorem g_impl_WorkingSet (t0 : List Int) (at1 : Int) (span2 : Int) (kk : AV → List A1 → Prop) :
    ev TT cs_impl_WorkingSet 32 an_impl_WorkingSet (Try.f39.body.getD .skip) (st0 con_impl_WorkingSet [.c (.ro .int t0), .c (.v (.int .i64 at1)), .c (.v (.int .i64 span2))]) (fin TT con_impl_WorkingSet Try.f39.results.toList [.c .sc] [.c (.ro .int t0), .c (.v (.int .i64 at1)), .c (.v (.int .i64 span2))] kk) = G_impl_WorkingSet t0 at1 span2 (fun r0 => kk (.one (.c (.v (.int .i64 r0)))) []) := by kernel_rfl
theorem e_impl_WorkingSet (t0 : List Int) (at1 : Int) (span2 : Int) (kk : AV → List A1 → Prop) :
    ev TT cs_impl_WorkingSet 32 an_impl_WorkingSet (Try.f39.body.getD .skip) (st0 con_impl_WorkingSet [.c (.ro .int t0), .c (.v (.int .i64 at1)), .c (.v (.int .i64 span2))]) (fin TT con_impl_WorkingSet Try.f39.results.toList [.c .sc] [.c (.ro .int t0), .c (.v (.int .i64 at1)), .c (.v (.int .i64 span2))] kk) = S_impl_WorkingSet t0 at1 span2 (fun r0 => kk (.one (.c (.v (.int .i64 r0)))) []) := by
  rw [g_impl_WorkingSet]
  rfl
theorem clok_impl_WorkingSet : ConOK Try.prog cl_impl_WorkingSet := consCons h_impl_NewKeys ⟨Try.f19, Try.func19, by kernel_rfl, ne_of_beq (by kernel_rfl)⟩ (consCons h_impl_ValidTrace ⟨Try.f50, Try.func50, by kernel_rfl, ne_of_beq (by kernel_rfl)⟩ (consCons h_impl_validPlace ⟨Try.f66, Try.func66, by kernel_rfl, ne_of_beq (by kernel_rfl)⟩ (consNil)))
theorem cok_impl_WorkingSet : ConsOK Try.prog 32 cs_impl_WorkingSet := ⟨clok_impl_WorkingSet, inlNil⟩
theorem i_impl_WorkingSet {vs : List A1} {kk : AV → List A1 → Prop} {motive : List A1 → Prop} (h : con_impl_WorkingSet.F vs kk) (H : ∀ (t0 : List Int) (at1 : Int) (span2 : Int), F_impl_WorkingSet t0 at1 span2 (fun r0 => kk (.one (.c (.v (.int .i64 r0)))) []) → motive [.c (.ro .int t0), .c (.v (.int .i64 at1)), .c (.v (.int .i64 span2))]) : motive vs := by
  unfold con_impl_WorkingSet at h
  dsimp only at h
  split at h
  · exact H _ _ _ h
  · exact h.elim
theorem h_impl_WorkingSet : Holds Try.prog 39 con_impl_WorkingSet := by
  refine holds_of_ev (rt := [.c .sc]) (T := TT) (Γ := cs_impl_WorkingSet) (an := an_impl_WorkingSet) (N := 32) (c := Try.f39.body.getD .skip) Try.func39 (by kernel_rfl) Try.ntmps39 (by decide) (by decide) mixed tabOK cok_impl_WorkingSet (by kernel_rfl) ?_
  intro vs kk _ hF
  exact i_impl_WorkingSet (motive := fun vs => Goes (ev TT cs_impl_WorkingSet 32 an_impl_WorkingSet (Try.f39.body.getD .skip) (st0 con_impl_WorkingSet vs) (fin TT con_impl_WorkingSet Try.f39.results.toList [.c .sc] vs kk))) hF (fun t0 at1 span2 hF => goes_of (e_impl_WorkingSet t0 at1 span2 kk) (F_impl_WorkingSet_S hF))
def con_spec_inRange : Con := ⟨[.rd, .rd, .rd], true, [.c (.sc), .c (.sc), .c (.sc)], fun vs k => match vs with
    | [.c (.v (.int .i64 n0)), .c (.v (.int .i64 low1)), .c (.v (.int .i64 high2))] => F_spec_inRange n0 low1 high2 (fun r0 => k (.one (.c (.v (.bool r0)))) [])
    | _ => False, false⟩
def cl_spec_inRange : List (FuncId × Con) := []
def an_spec_inRange : Ann := ⟨[], [], []⟩
def cs_spec_inRange : Cons := ⟨cl_spec_inRange, [], 0, [], []⟩
def fin_spec_inRange (n0 : Int) (low1 : Int) (high2 : Int) (kk : AV → List A1 → Prop) : Kt := fin TT con_spec_inRange Try.f55.results.toList [.c .sc] [.c (.v (.int .i64 n0)), .c (.v (.int .i64 low1)), .c (.v (.int .i64 high2))] kk
theorem g_spec_inRange (n0 : Int) (low1 : Int) (high2 : Int) (kk : AV → List A1 → Prop) :
    ev TT cs_spec_inRange 15 an_spec_inRange (Try.f55.body.getD .skip) (st0 con_spec_inRange [.c (.v (.int .i64 n0)), .c (.v (.int .i64 low1)), .c (.v (.int .i64 high2))]) (fin TT con_spec_inRange Try.f55.results.toList [.c .sc] [.c (.v (.int .i64 n0)), .c (.v (.int .i64 low1)), .c (.v (.int .i64 high2))] kk) = G_spec_inRange n0 low1 high2 (fun r0 => kk (.one (.c (.v (.bool r0)))) []) := by kernel_rfl
theorem e_spec_inRange (n0 : Int) (low1 : Int) (high2 : Int) (kk : AV → List A1 → Prop) :
    ev TT cs_spec_inRange 15 an_spec_inRange (Try.f55.body.getD .skip) (st0 con_spec_inRange [.c (.v (.int .i64 n0)), .c (.v (.int .i64 low1)), .c (.v (.int .i64 high2))]) (fin TT con_spec_inRange Try.f55.results.toList [.c .sc] [.c (.v (.int .i64 n0)), .c (.v (.int .i64 low1)), .c (.v (.int .i64 high2))] kk) = S_spec_inRange n0 low1 high2 (fun r0 => kk (.one (.c (.v (.bool r0)))) []) := by
  rw [g_spec_inRange]
  rfl
theorem clok_spec_inRange : ConOK Try.prog cl_spec_inRange := consNil
theorem cok_spec_inRange : ConsOK Try.prog 15 cs_spec_inRange := ⟨clok_spec_inRange, inlNil⟩
theorem i_spec_inRange {vs : List A1} {kk : AV → List A1 → Prop} {motive : List A1 → Prop} (h : con_spec_inRange.F vs kk) (H : ∀ (n0 : Int) (low1 : Int) (high2 : Int), F_spec_inRange n0 low1 high2 (fun r0 => kk (.one (.c (.v (.bool r0)))) []) → motive [.c (.v (.int .i64 n0)), .c (.v (.int .i64 low1)), .c (.v (.int .i64 high2))]) : motive vs := by
  unfold con_spec_inRange at h
  dsimp only at h
  split at h
  · exact H _ _ _ h
  · exact h.elim
theorem h_spec_inRange : Holds Try.prog 55 con_spec_inRange := by
  refine holds_of_ev (rt := [.c .sc]) (T := TT) (Γ := cs_spec_inRange) (an := an_spec_inRange) (N := 15) (c := Try.f55.body.getD .skip) Try.func55 (by kernel_rfl) Try.ntmps55 (by decide) (by decide) mixed tabOK cok_spec_inRange (by kernel_rfl) ?_
  intro vs kk _ hF
  exact i_spec_inRange (motive := fun vs => Goes (ev TT cs_spec_inRange 15 an_spec_inRange (Try.f55.body.getD .skip) (st0 con_spec_inRange vs) (fin TT con_spec_inRange Try.f55.results.toList [.c .sc] vs kk))) hF (fun n0 low1 high2 hF => goes_of (e_spec_inRange n0 low1 high2 kk) (F_spec_inRange_S hF))
def con_spec_allIn : Con := ⟨[.rd, .rd, .rd], true, [.c (.sl .int), .c (.sc), .c (.sc)], fun vs k => match vs with
    | [.c (.ro .int list0), .c (.v (.int .i64 low1)), .c (.v (.int .i64 high2))] => F_spec_allIn list0 low1 high2 (fun r0 => k (.one (.c (.v (.bool r0)))) [])
    | _ => False, false⟩
def cl_spec_allIn : List (FuncId × Con) := [(55, con_spec_inRange)]
def nm0_spec_allIn : List NStep := [.keep [0, 1, 2, 7] []]
def an_spec_allIn : Ann := ⟨[], [(2, nm0_spec_allIn)], []⟩
def cs_spec_allIn : Cons := ⟨cl_spec_allIn, [], 0, [], []⟩
def can0_spec_allIn (high2 : Int) (list0 : List Int) (low1 : Int) (xi7 : Int) : St := ⟨[(0, .one (.c (.ro .int list0))), (1, .one (.c (.v (.int .i64 low1)))), (2, .one (.c (.v (.int .i64 high2)))), (7, .one (.c (.v (.int .i64 xi7))))], []⟩
def fin_spec_allIn (list0 : List Int) (low1 : Int) (high2 : Int) (kk : AV → List A1 → Prop) : Kt := fin TT con_spec_allIn Try.f83.results.toList [.c .sc] [.c (.ro .int list0), .c (.v (.int .i64 low1)), .c (.v (.int .i64 high2))] kk
def kt0_spec_allIn (kf : Kt) : Kt := blockK 0 (seqK (evF TT cs_spec_allIn 22 an_spec_allIn Try.f83 [1, 1]) (kf))
theorem r0_spec_allIn (list0 : List Int) (low1 : Int) (high2 : Int) (kk : AV → List A1 → Prop) (n : Nat) (xi7 : Int) :
    iter (evF TT cs_spec_allIn 22 an_spec_allIn Try.f83 [1, 0, 1, 0, 0]) nm0_spec_allIn (kt0_spec_allIn (fin_spec_allIn list0 low1 high2 kk)) (n + 1) (can0_spec_allIn high2 list0 low1 xi7) = T0_spec_allIn high2 list0 low1 xi7 (fun r0 => kk (.one (.c (.v (.bool r0)))) []) (fun xi7 => iter (evF TT cs_spec_allIn 22 an_spec_allIn Try.f83 [1, 0, 1, 0, 0]) nm0_spec_allIn (kt0_spec_allIn (fin_spec_allIn list0 low1 high2 kk)) n (can0_spec_allIn high2 list0 low1 xi7)) := by kernel_rfl
theorem l0_spec_allIn (list0 : List Int) (low1 : Int) (high2 : Int) (kk : AV → List A1 → Prop) : ∀ (n : Nat) (xi7 : Int), iter (evF TT cs_spec_allIn 22 an_spec_allIn Try.f83 [1, 0, 1, 0, 0]) nm0_spec_allIn (kt0_spec_allIn (fin_spec_allIn list0 low1 high2 kk)) n (can0_spec_allIn high2 list0 low1 xi7) = L0_spec_allIn high2 list0 low1 (fun r0 => kk (.one (.c (.v (.bool r0)))) []) n xi7 := by
  intro n
  induction n with
  | zero => intros; rfl
  | succ n ih =>
    intro xi7
    rw [r0_spec_allIn list0 low1 high2 kk n xi7]
    have hb : (fun xi7 => iter (evF TT cs_spec_allIn 22 an_spec_allIn Try.f83 [1, 0, 1, 0, 0]) nm0_spec_allIn (kt0_spec_allIn (fin_spec_allIn list0 low1 high2 kk)) n (can0_spec_allIn high2 list0 low1 xi7)) = L0_spec_allIn high2 list0 low1 (fun r0 => kk (.one (.c (.v (.bool r0)))) []) n := by
      funext xi7; exact ih xi7
    rw [hb]
    rfl
theorem g_spec_allIn (list0 : List Int) (low1 : Int) (high2 : Int) (kk : AV → List A1 → Prop) :
    ev TT cs_spec_allIn 22 an_spec_allIn (Try.f83.body.getD .skip) (st0 con_spec_allIn [.c (.ro .int list0), .c (.v (.int .i64 low1)), .c (.v (.int .i64 high2))]) (fin TT con_spec_allIn Try.f83.results.toList [.c .sc] [.c (.ro .int list0), .c (.v (.int .i64 low1)), .c (.v (.int .i64 high2))] kk) = G_spec_allIn list0 low1 high2 (fun high2 list0 low1 xi7 => ∃ j, iter (evF TT cs_spec_allIn 22 an_spec_allIn Try.f83 [1, 0, 1, 0, 0]) nm0_spec_allIn (kt0_spec_allIn (fin_spec_allIn list0 low1 high2 kk)) j (can0_spec_allIn high2 list0 low1 xi7)) := by kernel_rfl
theorem e_spec_allIn (list0 : List Int) (low1 : Int) (high2 : Int) (kk : AV → List A1 → Prop) :
    ev TT cs_spec_allIn 22 an_spec_allIn (Try.f83.body.getD .skip) (st0 con_spec_allIn [.c (.ro .int list0), .c (.v (.int .i64 low1)), .c (.v (.int .i64 high2))]) (fin TT con_spec_allIn Try.f83.results.toList [.c .sc] [.c (.ro .int list0), .c (.v (.int .i64 low1)), .c (.v (.int .i64 high2))] kk) = S_spec_allIn list0 low1 high2 (fun r0 => kk (.one (.c (.v (.bool r0)))) []) := by
  rw [g_spec_allIn]
  have hi0 : (fun high2 list0 low1 xi7 => ∃ j, iter (evF TT cs_spec_allIn 22 an_spec_allIn Try.f83 [1, 0, 1, 0, 0]) nm0_spec_allIn (kt0_spec_allIn (fin_spec_allIn list0 low1 high2 kk)) j (can0_spec_allIn high2 list0 low1 xi7)) = (fun high2 list0 low1 xi7 => ∃ j, L0_spec_allIn high2 list0 low1 (fun r0 => kk (.one (.c (.v (.bool r0)))) []) j xi7) := by
    funext high2 list0 low1 xi7
    refine congrArg Exists (funext fun j => ?_)
    rw [l0_spec_allIn list0 low1 high2 kk j xi7]
  rw [hi0]
  rfl
theorem clok_spec_allIn : ConOK Try.prog cl_spec_allIn := consCons h_spec_inRange ⟨Try.f55, Try.func55, by kernel_rfl, ne_of_beq (by kernel_rfl)⟩ (consNil)
theorem cok_spec_allIn : ConsOK Try.prog 22 cs_spec_allIn := ⟨clok_spec_allIn, inlNil⟩
theorem i_spec_allIn {vs : List A1} {kk : AV → List A1 → Prop} {motive : List A1 → Prop} (h : con_spec_allIn.F vs kk) (H : ∀ (list0 : List Int) (low1 : Int) (high2 : Int), F_spec_allIn list0 low1 high2 (fun r0 => kk (.one (.c (.v (.bool r0)))) []) → motive [.c (.ro .int list0), .c (.v (.int .i64 low1)), .c (.v (.int .i64 high2))]) : motive vs := by
  unfold con_spec_allIn at h
  dsimp only at h
  split at h
  · exact H _ _ _ h
  · exact h.elim
theorem h_spec_allIn : Holds Try.prog 83 con_spec_allIn := by
  refine holds_of_ev (rt := [.c .sc]) (T := TT) (Γ := cs_spec_allIn) (an := an_spec_allIn) (N := 22) (c := Try.f83.body.getD .skip) Try.func83 (by kernel_rfl) Try.ntmps83 (by decide) (by decide) mixed tabOK cok_spec_allIn (by kernel_rfl) ?_
  intro vs kk _ hF
  exact i_spec_allIn (motive := fun vs => Goes (ev TT cs_spec_allIn 22 an_spec_allIn (Try.f83.body.getD .skip) (st0 con_spec_allIn vs) (fin TT con_spec_allIn Try.f83.results.toList [.c .sc] vs kk))) hF (fun list0 low1 high2 hF => goes_of (e_spec_allIn list0 low1 high2 kk) (F_spec_allIn_S hF))
def con_spec_validTrace : Con := ⟨[.rd], true, [.c (.sl .int)], fun vs k => match vs with
    | [.c (.ro .int t0)] => F_spec_validTrace t0 (fun r0 => k (.one (.c (.v (.bool r0)))) [])
    | _ => False, false⟩
def cl_spec_validTrace : List (FuncId × Con) := [(83, con_spec_allIn)]
def an_spec_validTrace : Ann := ⟨[], [], []⟩
def cs_spec_validTrace : Cons := ⟨cl_spec_validTrace, [], 0, [], []⟩
def fin_spec_validTrace (t0 : List Int) (kk : AV → List A1 → Prop) : Kt := fin TT con_spec_validTrace Try.f54.results.toList [.c .sc] [.c (.ro .int t0)] kk
theorem g_spec_validTrace (t0 : List Int) (kk : AV → List A1 → Prop) :
    ev TT cs_spec_validTrace 10 an_spec_validTrace (Try.f54.body.getD .skip) (st0 con_spec_validTrace [.c (.ro .int t0)]) (fin TT con_spec_validTrace Try.f54.results.toList [.c .sc] [.c (.ro .int t0)] kk) = G_spec_validTrace t0 (fun r0 => kk (.one (.c (.v (.bool r0)))) []) := by kernel_rfl
theorem e_spec_validTrace (t0 : List Int) (kk : AV → List A1 → Prop) :
    ev TT cs_spec_validTrace 10 an_spec_validTrace (Try.f54.body.getD .skip) (st0 con_spec_validTrace [.c (.ro .int t0)]) (fin TT con_spec_validTrace Try.f54.results.toList [.c .sc] [.c (.ro .int t0)] kk) = S_spec_validTrace t0 (fun r0 => kk (.one (.c (.v (.bool r0)))) []) := by
  rw [g_spec_validTrace]
  rfl
theorem clok_spec_validTrace : ConOK Try.prog cl_spec_validTrace := consCons h_spec_allIn ⟨Try.f83, Try.func83, by kernel_rfl, ne_of_beq (by kernel_rfl)⟩ (consNil)
theorem cok_spec_validTrace : ConsOK Try.prog 10 cs_spec_validTrace := ⟨clok_spec_validTrace, inlNil⟩
theorem i_spec_validTrace {vs : List A1} {kk : AV → List A1 → Prop} {motive : List A1 → Prop} (h : con_spec_validTrace.F vs kk) (H : ∀ (t0 : List Int), F_spec_validTrace t0 (fun r0 => kk (.one (.c (.v (.bool r0)))) []) → motive [.c (.ro .int t0)]) : motive vs := by
  unfold con_spec_validTrace at h
  dsimp only at h
  split at h
  · exact H _ h
  · exact h.elim
theorem h_spec_validTrace : Holds Try.prog 54 con_spec_validTrace := by
  refine holds_of_ev (rt := [.c .sc]) (T := TT) (Γ := cs_spec_validTrace) (an := an_spec_validTrace) (N := 10) (c := Try.f54.body.getD .skip) Try.func54 (by kernel_rfl) Try.ntmps54 (by decide) (by decide) mixed tabOK cok_spec_validTrace (by kernel_rfl) ?_
  intro vs kk _ hF
  exact i_spec_validTrace (motive := fun vs => Goes (ev TT cs_spec_validTrace 10 an_spec_validTrace (Try.f54.body.getD .skip) (st0 con_spec_validTrace vs) (fin TT con_spec_validTrace Try.f54.results.toList [.c .sc] vs kk))) hF (fun t0 hF => goes_of (e_spec_validTrace t0 kk) (F_spec_validTrace_S hF))
def con_spec_placeOf : Con := ⟨[.rd, .rd], true, [.c (.sl .int), .c (.sc)], fun vs k => match vs with
    | [.c (.ro .int list0), .c (.v (.int .i64 n1))] => F_spec_placeOf list0 n1 (fun r0 => k (.one (.c (.v (.int .i64 r0)))) [])
    | _ => False, false⟩
def cl_spec_placeOf : List (FuncId × Con) := []
def nm0_spec_placeOf : List NStep := [.keep [0, 1, 5] []]
def an_spec_placeOf : Ann := ⟨[], [(2, nm0_spec_placeOf)], []⟩
def cs_spec_placeOf : Cons := ⟨cl_spec_placeOf, [], 0, [], []⟩
def can0_spec_placeOf (list0 : List Int) (n1 : Int) (xi5 : Int) : St := ⟨[(0, .one (.c (.ro .int list0))), (1, .one (.c (.v (.int .i64 n1)))), (5, .one (.c (.v (.int .i64 xi5))))], []⟩
def fin_spec_placeOf (list0 : List Int) (n1 : Int) (kk : AV → List A1 → Prop) : Kt := fin TT con_spec_placeOf Try.f70.results.toList [.c .sc] [.c (.ro .int list0), .c (.v (.int .i64 n1))] kk
def kt0_spec_placeOf (kf : Kt) : Kt := blockK 0 (seqK (evF TT cs_spec_placeOf 19 an_spec_placeOf Try.f70 [1, 1]) (kf))
theorem r0_spec_placeOf (list0 : List Int) (n1 : Int) (kk : AV → List A1 → Prop) (n : Nat) (xi5 : Int) :
    iter (evF TT cs_spec_placeOf 19 an_spec_placeOf Try.f70 [1, 0, 1, 0, 0]) nm0_spec_placeOf (kt0_spec_placeOf (fin_spec_placeOf list0 n1 kk)) (n + 1) (can0_spec_placeOf list0 n1 xi5) = T0_spec_placeOf list0 n1 xi5 (fun r0 => kk (.one (.c (.v (.int .i64 r0)))) []) (fun xi5 => iter (evF TT cs_spec_placeOf 19 an_spec_placeOf Try.f70 [1, 0, 1, 0, 0]) nm0_spec_placeOf (kt0_spec_placeOf (fin_spec_placeOf list0 n1 kk)) n (can0_spec_placeOf list0 n1 xi5)) := by kernel_rfl
theorem l0_spec_placeOf (list0 : List Int) (n1 : Int) (kk : AV → List A1 → Prop) : ∀ (n : Nat) (xi5 : Int), iter (evF TT cs_spec_placeOf 19 an_spec_placeOf Try.f70 [1, 0, 1, 0, 0]) nm0_spec_placeOf (kt0_spec_placeOf (fin_spec_placeOf list0 n1 kk)) n (can0_spec_placeOf list0 n1 xi5) = L0_spec_placeOf list0 n1 (fun r0 => kk (.one (.c (.v (.int .i64 r0)))) []) n xi5 := by
  intro n
  induction n with
  | zero => intros; rfl
  | succ n ih =>
    intro xi5
    rw [r0_spec_placeOf list0 n1 kk n xi5]
    have hb : (fun xi5 => iter (evF TT cs_spec_placeOf 19 an_spec_placeOf Try.f70 [1, 0, 1, 0, 0]) nm0_spec_placeOf (kt0_spec_placeOf (fin_spec_placeOf list0 n1 kk)) n (can0_spec_placeOf list0 n1 xi5)) = L0_spec_placeOf list0 n1 (fun r0 => kk (.one (.c (.v (.int .i64 r0)))) []) n := by
      funext xi5; exact ih xi5
    rw [hb]
    rfl
theorem g_spec_placeOf (list0 : List Int) (n1 : Int) (kk : AV → List A1 → Prop) :
    ev TT cs_spec_placeOf 19 an_spec_placeOf (Try.f70.body.getD .skip) (st0 con_spec_placeOf [.c (.ro .int list0), .c (.v (.int .i64 n1))]) (fin TT con_spec_placeOf Try.f70.results.toList [.c .sc] [.c (.ro .int list0), .c (.v (.int .i64 n1))] kk) = G_spec_placeOf list0 n1 (fun list0 n1 xi5 => ∃ j, iter (evF TT cs_spec_placeOf 19 an_spec_placeOf Try.f70 [1, 0, 1, 0, 0]) nm0_spec_placeOf (kt0_spec_placeOf (fin_spec_placeOf list0 n1 kk)) j (can0_spec_placeOf list0 n1 xi5)) := by kernel_rfl
theorem e_spec_placeOf (list0 : List Int) (n1 : Int) (kk : AV → List A1 → Prop) :
    ev TT cs_spec_placeOf 19 an_spec_placeOf (Try.f70.body.getD .skip) (st0 con_spec_placeOf [.c (.ro .int list0), .c (.v (.int .i64 n1))]) (fin TT con_spec_placeOf Try.f70.results.toList [.c .sc] [.c (.ro .int list0), .c (.v (.int .i64 n1))] kk) = S_spec_placeOf list0 n1 (fun r0 => kk (.one (.c (.v (.int .i64 r0)))) []) := by
  rw [g_spec_placeOf]
  have hi0 : (fun list0 n1 xi5 => ∃ j, iter (evF TT cs_spec_placeOf 19 an_spec_placeOf Try.f70 [1, 0, 1, 0, 0]) nm0_spec_placeOf (kt0_spec_placeOf (fin_spec_placeOf list0 n1 kk)) j (can0_spec_placeOf list0 n1 xi5)) = (fun list0 n1 xi5 => ∃ j, L0_spec_placeOf list0 n1 (fun r0 => kk (.one (.c (.v (.int .i64 r0)))) []) j xi5) := by
    funext list0 n1 xi5
    refine congrArg Exists (funext fun j => ?_)
    rw [l0_spec_placeOf list0 n1 kk j xi5]
  rw [hi0]
  rfl
theorem clok_spec_placeOf : ConOK Try.prog cl_spec_placeOf := consNil
theorem cok_spec_placeOf : ConsOK Try.prog 19 cs_spec_placeOf := ⟨clok_spec_placeOf, inlNil⟩
theorem i_spec_placeOf {vs : List A1} {kk : AV → List A1 → Prop} {motive : List A1 → Prop} (h : con_spec_placeOf.F vs kk) (H : ∀ (list0 : List Int) (n1 : Int), F_spec_placeOf list0 n1 (fun r0 => kk (.one (.c (.v (.int .i64 r0)))) []) → motive [.c (.ro .int list0), .c (.v (.int .i64 n1))]) : motive vs := by
  unfold con_spec_placeOf at h
  dsimp only at h
  split at h
  · exact H _ _ h
  · exact h.elim
theorem h_spec_placeOf : Holds Try.prog 70 con_spec_placeOf := by
  refine holds_of_ev (rt := [.c .sc]) (T := TT) (Γ := cs_spec_placeOf) (an := an_spec_placeOf) (N := 19) (c := Try.f70.body.getD .skip) Try.func70 (by kernel_rfl) Try.ntmps70 (by decide) (by decide) mixed tabOK cok_spec_placeOf (by kernel_rfl) ?_
  intro vs kk _ hF
  exact i_spec_placeOf (motive := fun vs => Goes (ev TT cs_spec_placeOf 19 an_spec_placeOf (Try.f70.body.getD .skip) (st0 con_spec_placeOf vs) (fin TT con_spec_placeOf Try.f70.results.toList [.c .sc] vs kk))) hF (fun list0 n1 hF => goes_of (e_spec_placeOf list0 n1 kk) (F_spec_placeOf_S hF))
def con_spec_toInt : Con := ⟨[.rd], true, [.c (.sc)], fun vs k => match vs with
    | [.c (.v (.bool b0))] => F_spec_toInt b0 (fun r0 => k (.one (.c (.v (.int .i64 r0)))) [])
    | _ => False, false⟩
def cl_spec_toInt : List (FuncId × Con) := []
def an_spec_toInt : Ann := ⟨[], [], []⟩
def cs_spec_toInt : Cons := ⟨cl_spec_toInt, [], 0, [], []⟩
def fin_spec_toInt (b0 : Bool) (kk : AV → List A1 → Prop) : Kt := fin TT con_spec_toInt Try.f57.results.toList [.c .sc] [.c (.v (.bool b0))] kk
theorem g_spec_toInt (b0 : Bool) (kk : AV → List A1 → Prop) :
    ev TT cs_spec_toInt 4 an_spec_toInt (Try.f57.body.getD .skip) (st0 con_spec_toInt [.c (.v (.bool b0))]) (fin TT con_spec_toInt Try.f57.results.toList [.c .sc] [.c (.v (.bool b0))] kk) = G_spec_toInt b0 (fun r0 => kk (.one (.c (.v (.int .i64 r0)))) []) := by kernel_rfl
theorem e_spec_toInt (b0 : Bool) (kk : AV → List A1 → Prop) :
    ev TT cs_spec_toInt 4 an_spec_toInt (Try.f57.body.getD .skip) (st0 con_spec_toInt [.c (.v (.bool b0))]) (fin TT con_spec_toInt Try.f57.results.toList [.c .sc] [.c (.v (.bool b0))] kk) = S_spec_toInt b0 (fun r0 => kk (.one (.c (.v (.int .i64 r0)))) []) := by
  rw [g_spec_toInt]
  rfl
theorem clok_spec_toInt : ConOK Try.prog cl_spec_toInt := consNil
theorem cok_spec_toInt : ConsOK Try.prog 4 cs_spec_toInt := ⟨clok_spec_toInt, inlNil⟩
theorem i_spec_toInt {vs : List A1} {kk : AV → List A1 → Prop} {motive : List A1 → Prop} (h : con_spec_toInt.F vs kk) (H : ∀ (b0 : Bool), F_spec_toInt b0 (fun r0 => kk (.one (.c (.v (.int .i64 r0)))) []) → motive [.c (.v (.bool b0))]) : motive vs := by
  unfold con_spec_toInt at h
  dsimp only at h
  split at h
  · exact H _ h
  · exact h.elim
theorem h_spec_toInt : Holds Try.prog 57 con_spec_toInt := by
  refine holds_of_ev (rt := [.c .sc]) (T := TT) (Γ := cs_spec_toInt) (an := an_spec_toInt) (N := 4) (c := Try.f57.body.getD .skip) Try.func57 (by kernel_rfl) Try.ntmps57 (by decide) (by decide) mixed tabOK cok_spec_toInt (by kernel_rfl) ?_
  intro vs kk _ hF
  exact i_spec_toInt (motive := fun vs => Goes (ev TT cs_spec_toInt 4 an_spec_toInt (Try.f57.body.getD .skip) (st0 con_spec_toInt vs) (fin TT con_spec_toInt Try.f57.results.toList [.c .sc] vs kk))) hF (fun b0 hF => goes_of (e_spec_toInt b0 kk) (F_spec_toInt_S hF))
def con_spec_WorkingSet : Con := ⟨[.rd, .rd, .rd], true, [.c (.sl .int), .c (.sc), .c (.sc)], fun vs k => match vs with
    | [.c (.ro .int t0), .c (.v (.int .i64 at1)), .c (.v (.int .i64 span2))] => F_spec_WorkingSet t0 at1 span2 (fun r0 => k (.one (.c (.v (.int .i64 r0)))) [])
    | _ => False, false⟩
def cl_spec_WorkingSet : List (FuncId × Con) := [(54, con_spec_validTrace), (55, con_spec_inRange), (57, con_spec_toInt), (70, con_spec_placeOf)]
def nm0_spec_WorkingSet : List NStep := [.keep [7, 8, 9] []]
def an_spec_WorkingSet : Ann := ⟨[], [(6, nm0_spec_WorkingSet)], []⟩
def cs_spec_WorkingSet : Cons := ⟨cl_spec_WorkingSet, [], 0, [], []⟩
def can0_spec_WorkingSet (xpart8 : List Int) (xn7 : Int) (xi9 : Int) : St := ⟨[(7, .one (.c (.v (.int .i64 xn7)))), (8, .one (.c (.ro .int xpart8))), (9, .one (.c (.v (.int .i64 xi9))))], []⟩
def fin_spec_WorkingSet (t0 : List Int) (at1 : Int) (span2 : Int) (kk : AV → List A1 → Prop) : Kt := fin TT con_spec_WorkingSet Try.f40.results.toList [.c .sc] [.c (.ro .int t0), .c (.v (.int .i64 at1)), .c (.v (.int .i64 span2))] kk
def kt0_spec_WorkingSet (kf : Kt) : Kt := blockK 0 (seqK (evF TT cs_spec_WorkingSet 50 an_spec_WorkingSet Try.f40 [1, 1, 1, 1, 1]) (kf))
theorem r0_spec_WorkingSet (t0 : List Int) (at1 : Int) (span2 : Int) (xpart8 : List Int) (kk : AV → List A1 → Prop) (n : Nat) (xn7 : Int) (xi9 : Int) :
    iter (evF TT cs_spec_WorkingSet 50 an_spec_WorkingSet Try.f40 [1, 1, 1, 1, 0, 1, 0, 0]) nm0_spec_WorkingSet (kt0_spec_WorkingSet (fin_spec_WorkingSet t0 at1 span2 kk)) (n + 1) (can0_spec_WorkingSet xpart8 xn7 xi9) = T0_spec_WorkingSet xpart8 xn7 xi9 (fun r0 => kk (.one (.c (.v (.int .i64 r0)))) []) (fun xn7 xi9 => iter (evF TT cs_spec_WorkingSet 50 an_spec_WorkingSet Try.f40 [1, 1, 1, 1, 0, 1, 0, 0]) nm0_spec_WorkingSet (kt0_spec_WorkingSet (fin_spec_WorkingSet t0 at1 span2 kk)) n (can0_spec_WorkingSet xpart8 xn7 xi9)) := by kernel_rfl
theorem l0_spec_WorkingSet (t0 : List Int) (at1 : Int) (span2 : Int) (xpart8 : List Int) (kk : AV → List A1 → Prop) : ∀ (n : Nat) (xn7 : Int) (xi9 : Int), iter (evF TT cs_spec_WorkingSet 50 an_spec_WorkingSet Try.f40 [1, 1, 1, 1, 0, 1, 0, 0]) nm0_spec_WorkingSet (kt0_spec_WorkingSet (fin_spec_WorkingSet t0 at1 span2 kk)) n (can0_spec_WorkingSet xpart8 xn7 xi9) = L0_spec_WorkingSet xpart8 (fun r0 => kk (.one (.c (.v (.int .i64 r0)))) []) n xn7 xi9 := by
  intro n
  induction n with
  | zero => intros; rfl
  | succ n ih =>
    intro xn7 xi9
    rw [r0_spec_WorkingSet t0 at1 span2 xpart8 kk n xn7 xi9]
    have hb : (fun xn7 xi9 => iter (evF TT cs_spec_WorkingSet 50 an_spec_WorkingSet Try.f40 [1, 1, 1, 1, 0, 1, 0, 0]) nm0_spec_WorkingSet (kt0_spec_WorkingSet (fin_spec_WorkingSet t0 at1 span2 kk)) n (can0_spec_WorkingSet xpart8 xn7 xi9)) = L0_spec_WorkingSet xpart8 (fun r0 => kk (.one (.c (.v (.int .i64 r0)))) []) n := by
      funext xn7 xi9; exact ih xn7 xi9
    rw [hb]
    rfl
theorem g_spec_WorkingSet (t0 : List Int) (at1 : Int) (span2 : Int) (kk : AV → List A1 → Prop) :
    ev TT cs_spec_WorkingSet 50 an_spec_WorkingSet (Try.f40.body.getD .skip) (st0 con_spec_WorkingSet [.c (.ro .int t0), .c (.v (.int .i64 at1)), .c (.v (.int .i64 span2))]) (fin TT con_spec_WorkingSet Try.f40.results.toList [.c .sc] [.c (.ro .int t0), .c (.v (.int .i64 at1)), .c (.v (.int .i64 span2))] kk) = G_spec_WorkingSet t0 at1 span2 (fun r0 => kk (.one (.c (.v (.int .i64 r0)))) []) (fun xpart8 xn7 xi9 => ∃ j, iter (evF TT cs_spec_WorkingSet 50 an_spec_WorkingSet Try.f40 [1, 1, 1, 1, 0, 1, 0, 0]) nm0_spec_WorkingSet (kt0_spec_WorkingSet (fin_spec_WorkingSet t0 at1 span2 kk)) j (can0_spec_WorkingSet xpart8 xn7 xi9)) := by kernel_rfl
theorem e_spec_WorkingSet (t0 : List Int) (at1 : Int) (span2 : Int) (kk : AV → List A1 → Prop) :
    ev TT cs_spec_WorkingSet 50 an_spec_WorkingSet (Try.f40.body.getD .skip) (st0 con_spec_WorkingSet [.c (.ro .int t0), .c (.v (.int .i64 at1)), .c (.v (.int .i64 span2))]) (fin TT con_spec_WorkingSet Try.f40.results.toList [.c .sc] [.c (.ro .int t0), .c (.v (.int .i64 at1)), .c (.v (.int .i64 span2))] kk) = S_spec_WorkingSet t0 at1 span2 (fun r0 => kk (.one (.c (.v (.int .i64 r0)))) []) := by
  rw [g_spec_WorkingSet]
  have hi0 : (fun xpart8 xn7 xi9 => ∃ j, iter (evF TT cs_spec_WorkingSet 50 an_spec_WorkingSet Try.f40 [1, 1, 1, 1, 0, 1, 0, 0]) nm0_spec_WorkingSet (kt0_spec_WorkingSet (fin_spec_WorkingSet t0 at1 span2 kk)) j (can0_spec_WorkingSet xpart8 xn7 xi9)) = (fun xpart8 xn7 xi9 => ∃ j, L0_spec_WorkingSet xpart8 (fun r0 => kk (.one (.c (.v (.int .i64 r0)))) []) j xn7 xi9) := by
    funext xpart8 xn7 xi9
    refine congrArg Exists (funext fun j => ?_)
    rw [l0_spec_WorkingSet t0 at1 span2 xpart8 kk j xn7 xi9]
  rw [hi0]
  rfl
theorem clok_spec_WorkingSet : ConOK Try.prog cl_spec_WorkingSet := consCons h_spec_validTrace ⟨Try.f54, Try.func54, by kernel_rfl, ne_of_beq (by kernel_rfl)⟩ (consCons h_spec_inRange ⟨Try.f55, Try.func55, by kernel_rfl, ne_of_beq (by kernel_rfl)⟩ (consCons h_spec_toInt ⟨Try.f57, Try.func57, by kernel_rfl, ne_of_beq (by kernel_rfl)⟩ (consCons h_spec_placeOf ⟨Try.f70, Try.func70, by kernel_rfl, ne_of_beq (by kernel_rfl)⟩ (consNil))))
theorem cok_spec_WorkingSet : ConsOK Try.prog 50 cs_spec_WorkingSet := ⟨clok_spec_WorkingSet, inlNil⟩
theorem i_spec_WorkingSet {vs : List A1} {kk : AV → List A1 → Prop} {motive : List A1 → Prop} (h : con_spec_WorkingSet.F vs kk) (H : ∀ (t0 : List Int) (at1 : Int) (span2 : Int), F_spec_WorkingSet t0 at1 span2 (fun r0 => kk (.one (.c (.v (.int .i64 r0)))) []) → motive [.c (.ro .int t0), .c (.v (.int .i64 at1)), .c (.v (.int .i64 span2))]) : motive vs := by
  unfold con_spec_WorkingSet at h
  dsimp only at h
  split at h
  · exact H _ _ _ h
  · exact h.elim
theorem h_spec_WorkingSet : Holds Try.prog 40 con_spec_WorkingSet := by
  refine holds_of_ev (rt := [.c .sc]) (T := TT) (Γ := cs_spec_WorkingSet) (an := an_spec_WorkingSet) (N := 50) (c := Try.f40.body.getD .skip) Try.func40 (by kernel_rfl) Try.ntmps40 (by decide) (by decide) mixed tabOK cok_spec_WorkingSet (by kernel_rfl) ?_
  intro vs kk _ hF
  exact i_spec_WorkingSet (motive := fun vs => Goes (ev TT cs_spec_WorkingSet 50 an_spec_WorkingSet (Try.f40.body.getD .skip) (st0 con_spec_WorkingSet vs) (fin TT con_spec_WorkingSet Try.f40.results.toList [.c .sc] vs kk))) hF (fun t0 at1 span2 hF => goes_of (e_spec_WorkingSet t0 at1 span2 kk) (F_spec_WorkingSet_S hF))
def con_laws_FnWorkingSetOne : Con := ⟨[.rd], true, [.c (.sl .u8)], fun vs k => match vs with
    | [.c (.ro .u8 code0)] => F_laws_FnWorkingSetOne code0 (fun r0 => k (.one (.c (.v (.bool r0)))) [])
    | _ => False, false⟩
def cl_laws_FnWorkingSetOne : List (FuncId × Con) := [(38, con_spec_DrawWorkingSet), (39, con_impl_WorkingSet), (40, con_spec_WorkingSet)]
def an_laws_FnWorkingSetOne : Ann := ⟨[], [], []⟩
def cs_laws_FnWorkingSetOne : Cons := ⟨cl_laws_FnWorkingSetOne, [], 0, [], []⟩
def fin_laws_FnWorkingSetOne (code0 : List Int) (kk : AV → List A1 → Prop) : Kt := fin TT con_laws_FnWorkingSetOne Try.f9.results.toList [.c .sc] [.c (.ro .u8 code0)] kk
theorem g_laws_FnWorkingSetOne (code0 : List Int) (kk : AV → List A1 → Prop) :
    ev TT cs_laws_FnWorkingSetOne 48 an_laws_FnWorkingSetOne (Try.f9.body.getD .skip) (st0 con_laws_FnWorkingSetOne [.c (.ro .u8 code0)]) (fin TT con_laws_FnWorkingSetOne Try.f9.results.toList [.c .sc] [.c (.ro .u8 code0)] kk) = G_laws_FnWorkingSetOne code0 (fun r0 => kk (.one (.c (.v (.bool r0)))) []) := by kernel_rfl
theorem e_laws_FnWorkingSetOne (code0 : List Int) (kk : AV → List A1 → Prop) :
    ev TT cs_laws_FnWorkingSetOne 48 an_laws_FnWorkingSetOne (Try.f9.body.getD .skip) (st0 con_laws_FnWorkingSetOne [.c (.ro .u8 code0)]) (fin TT con_laws_FnWorkingSetOne Try.f9.results.toList [.c .sc] [.c (.ro .u8 code0)] kk) = S_laws_FnWorkingSetOne code0 (fun r0 => kk (.one (.c (.v (.bool r0)))) []) := by
  rw [g_laws_FnWorkingSetOne]
  rfl
theorem clok_laws_FnWorkingSetOne : ConOK Try.prog cl_laws_FnWorkingSetOne := consCons h_spec_DrawWorkingSet ⟨Try.f38, Try.func38, by kernel_rfl, ne_of_beq (by kernel_rfl)⟩ (consCons h_impl_WorkingSet ⟨Try.f39, Try.func39, by kernel_rfl, ne_of_beq (by kernel_rfl)⟩ (consCons h_spec_WorkingSet ⟨Try.f40, Try.func40, by kernel_rfl, ne_of_beq (by kernel_rfl)⟩ (consNil)))
theorem cok_laws_FnWorkingSetOne : ConsOK Try.prog 48 cs_laws_FnWorkingSetOne := ⟨clok_laws_FnWorkingSetOne, inlNil⟩
theorem i_laws_FnWorkingSetOne {vs : List A1} {kk : AV → List A1 → Prop} {motive : List A1 → Prop} (h : con_laws_FnWorkingSetOne.F vs kk) (H : ∀ (code0 : List Int), F_laws_FnWorkingSetOne code0 (fun r0 => kk (.one (.c (.v (.bool r0)))) []) → motive [.c (.ro .u8 code0)]) : motive vs := by
  unfold con_laws_FnWorkingSetOne at h
  dsimp only at h
  split at h
  · exact H _ h
  · exact h.elim
theorem h_laws_FnWorkingSetOne : Holds Try.prog 9 con_laws_FnWorkingSetOne := by
  refine holds_of_ev (rt := [.c .sc]) (T := TT) (Γ := cs_laws_FnWorkingSetOne) (an := an_laws_FnWorkingSetOne) (N := 48) (c := Try.f9.body.getD .skip) Try.func9 (by kernel_rfl) Try.ntmps9 (by decide) (by decide) mixed tabOK cok_laws_FnWorkingSetOne (by kernel_rfl) ?_
  intro vs kk _ hF
  exact i_laws_FnWorkingSetOne (motive := fun vs => Goes (ev TT cs_laws_FnWorkingSetOne 48 an_laws_FnWorkingSetOne (Try.f9.body.getD .skip) (st0 con_laws_FnWorkingSetOne vs) (fin TT con_laws_FnWorkingSetOne Try.f9.results.toList [.c .sc] vs kk))) hF (fun code0 hF => goes_of (e_laws_FnWorkingSetOne code0 kk) (F_laws_FnWorkingSetOne_S hF))
end Go.Ev
