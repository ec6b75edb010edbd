/- What the evaluator gives for these functions: their contracts. No statement is proved here. -/
import Derived.Test.YtlobdkcjlpifjacFnRoomForMoreP1
import Derived.Test.YtlobdkcjlpifjacTt
namespace Go.Ev
set_option linter.unusedVariables false
set_option maxRecDepth 100000
open Go Go.Proofs
def con_spec_newReader : Con := ⟨[.rd], true, [.c (.sl .u8)], fun vs k => match vs with
    | [.c (.ro .u8 code0)] => F_spec_newReader code0 (fun r0 r1 => k (.one (.agg [.ro .u8 r0, .v (.int .i64 r1)])) [])
    | _ => False, true⟩
def cl_spec_newReader : List (FuncId × Con) := []
def an_spec_newReader : Ann := ⟨[], [], []⟩
def cs_spec_newReader : Cons := ⟨cl_spec_newReader, [], 0, [], []⟩
def fin_spec_newReader (code0 : List Int) (kk : AV → List A1 → Prop) : Kt := finB Try.f62.results.toList [.sl .u8, .sc] kk
theorem g_spec_newReader (code0 : List Int) (kk : AV → List A1 → Prop) :
    ev TT cs_spec_newReader 11 an_spec_newReader (Try.f62.body.getD .skip) (st0 con_spec_newReader [.c (.ro .u8 code0)]) (finB Try.f62.results.toList [.sl .u8, .sc] kk) = G_spec_newReader code0 (fun r0 r1 => kk (.one (.agg [.ro .u8 r0, .v (.int .i64 r1)])) []) := by kernel_rfl
theorem e_spec_newReader (code0 : List Int) (kk : AV → List A1 → Prop) :
    ev TT cs_spec_newReader 11 an_spec_newReader (Try.f62.body.getD .skip) (st0 con_spec_newReader [.c (.ro .u8 code0)]) (finB Try.f62.results.toList [.sl .u8, .sc] kk) = S_spec_newReader code0 (fun r0 r1 => kk (.one (.agg [.ro .u8 r0, .v (.int .i64 r1)])) []) := by
  rw [g_spec_newReader]
  rfl
theorem clok_spec_newReader : ConOK Try.prog cl_spec_newReader := consNil
theorem cok_spec_newReader : ConsOK Try.prog 11 cs_spec_newReader := ⟨clok_spec_newReader, inlNil⟩
theorem i_spec_newReader {vs : List A1} {kk : AV → List A1 → Prop} {motive : List A1 → Prop} (h : con_spec_newReader.F vs kk) (H : ∀ (code0 : List Int), F_spec_newReader code0 (fun r0 r1 => kk (.one (.agg [.ro .u8 r0, .v (.int .i64 r1)])) []) → motive [.c (.ro .u8 code0)]) : motive vs := by
  unfold con_spec_newReader at h
  dsimp only at h
  split at h
  · exact H _ h
  · exact h.elim
theorem h_spec_newReader : HoldsB Try.prog 62 con_spec_newReader := by
  refine holdsB_of_ev (ts := [.sl .u8, .sc]) (T := TT) (Γ := cs_spec_newReader) (an := an_spec_newReader) (N := 11) (c := Try.f62.body.getD .skip) Try.func62 (by kernel_rfl) Try.ntmps62 (by decide) (by decide) mixed tabOK cok_spec_newReader (by kernel_rfl) ?_
  intro vs kk _ hF
  exact i_spec_newReader (motive := fun vs => Goes (ev TT cs_spec_newReader 11 an_spec_newReader (Try.f62.body.getD .skip) (st0 con_spec_newReader vs) (finB Try.f62.results.toList [.sl .u8, .sc] kk))) hF (fun code0 hF => goes_of (e_spec_newReader code0 kk) (F_spec_newReader_S hF))
def con_spec_reader_pick : Con := ⟨[.mu, .rd], true, [.ptr [.sl .u8, .sc], .c (.sc)], fun vs k => match vs with
    | [.ptr [.ro .u8 r0b, .v (.int .i64 r0p)], .c (.v (.int .i64 n1))] => F_spec_reader_pick r0b r0p n1 (fun r0 r1 r2 => k (.one (.c (.v (.int .i64 r0)))) [.ptr [.ro .u8 r1, .v (.int .i64 r2)]])
    | _ => False, false⟩
def cl_spec_reader_pick : List (FuncId × Con) := []
def an_spec_reader_pick : Ann := ⟨[(7, .take 0 (.take 1 (.take 2 (.take 3 (.take 4 (.take 5 (.take 6 (.take 7 (.take 8 (.take 9 (.take 10 (.take 11 (.take 12 (.take 13 (.take 14 (.take 15 (.take 16 (.take 17 (.take 18 (.take 19 (.take 20 (.take 21 (.take 22 (.take 23 (.take 24 (.take 25 (.take 26 (.take 27 (.take 28 (.take 29 (.take 30 (.take 31 (.take 32 (.take 33 (.take 34 (.take 35 (.take 36 (.take 37 (.take 38 (.take 39 (.take 40 (.take 41 (.take 42 (.take 43 (.take 44 (.take 45 (.done)))))))))))))))))))))))))))))))))))))))))))))), [100000])], [], []⟩
def cs_spec_reader_pick : Cons := ⟨cl_spec_reader_pick, [], 0, [], []⟩
def fin_spec_reader_pick (r0b : List Int) (r0p : Int) (n1 : Int) (kk : AV → List A1 → Prop) : Kt := fin TT con_spec_reader_pick Try.f64.results.toList [.c .sc] [.ptr [.ro .u8 r0b, .v (.int .i64 r0p)], .c (.v (.int .i64 n1))] kk
theorem g_spec_reader_pick (r0b : List Int) (r0p : Int) (n1 : Int) (kk : AV → List A1 → Prop) :
    ev TT cs_spec_reader_pick 99 an_spec_reader_pick (Try.f64.body.getD .skip) (st0 con_spec_reader_pick [.ptr [.ro .u8 r0b, .v (.int .i64 r0p)], .c (.v (.int .i64 n1))]) (fin TT con_spec_reader_pick Try.f64.results.toList [.c .sc] [.ptr [.ro .u8 r0b, .v (.int .i64 r0p)], .c (.v (.int .i64 n1))] kk) = G_spec_reader_pick r0b r0p n1 (fun r0 r1 r2 => kk (.one (.c (.v (.int .i64 r0)))) [.ptr [.ro .u8 r1, .v (.int .i64 r2)]]) := by kernel_rfl
theorem e_spec_reader_pick (r0b : List Int) (r0p : Int) (n1 : Int) (kk : AV → List A1 → Prop) :
    ev TT cs_spec_reader_pick 99 an_spec_reader_pick (Try.f64.body.getD .skip) (st0 con_spec_reader_pick [.ptr [.ro .u8 r0b, .v (.int .i64 r0p)], .c (.v (.int .i64 n1))]) (fin TT con_spec_reader_pick Try.f64.results.toList [.c .sc] [.ptr [.ro .u8 r0b, .v (.int .i64 r0p)], .c (.v (.int .i64 n1))] kk) = S_spec_reader_pick r0b r0p n1 (fun r0 r1 r2 => kk (.one (.c (.v (.int .i64 r0)))) [.ptr [.ro .u8 r1, .v (.int .i64 r2)]]) := by
  rw [g_spec_reader_pick]
  rfl
theorem clok_spec_reader_pick : ConOK Try.prog cl_spec_reader_pick := consNil
theorem cok_spec_reader_pick : ConsOK Try.prog 99 cs_spec_reader_pick := ⟨clok_spec_reader_pick, inlNil⟩
theorem i_spec_reader_pick {vs : List A1} {kk : AV → List A1 → Prop} {motive : List A1 → Prop} (h : con_spec_reader_pick.F vs kk) (H : ∀ (r0b : List Int) (r0p : Int) (n1 : Int), F_spec_reader_pick r0b r0p n1 (fun r0 r1 r2 => kk (.one (.c (.v (.int .i64 r0)))) [.ptr [.ro .u8 r1, .v (.int .i64 r2)]]) → motive [.ptr [.ro .u8 r0b, .v (.int .i64 r0p)], .c (.v (.int .i64 n1))]) : motive vs := by
  unfold con_spec_reader_pick at h
  dsimp only at h
  split at h
  · exact H _ _ _ h
  · exact h.elim
theorem h_spec_reader_pick : Holds Try.prog 64 con_spec_reader_pick := by
  refine holds_of_ev (rt := [.c .sc]) (T := TT) (Γ := cs_spec_reader_pick) (an := an_spec_reader_pick) (N := 99) (c := Try.f64.body.getD .skip) Try.func64 (by kernel_rfl) Try.ntmps64 (by decide) (by decide) mixed tabOK cok_spec_reader_pick (by kernel_rfl) ?_
  intro vs kk _ hF
  exact i_spec_reader_pick (motive := fun vs => Goes (ev TT cs_spec_reader_pick 99 an_spec_reader_pick (Try.f64.body.getD .skip) (st0 con_spec_reader_pick vs) (fin TT con_spec_reader_pick Try.f64.results.toList [.c .sc] vs kk))) hF (fun r0b r0p n1 hF => goes_of (e_spec_reader_pick r0b r0p n1 kk) (F_spec_reader_pick_S hF))
def con_spec_reader_one : Con := ⟨[.mu, .rd], true, [.ptr [.sl .u8, .sc], .c (.sl .int)], fun vs k => match vs with
    | [.ptr [.ro .u8 r0b, .v (.int .i64 r0p)], .c (.ro .int list1)] => F_spec_reader_one r0b r0p list1 (fun r0 r1 r2 => k (.one (.c (.v (.int .i64 r0)))) [.ptr [.ro .u8 r1, .v (.int .i64 r2)]])
    | _ => False, false⟩
def cl_spec_reader_one : List (FuncId × Con) := [(64, con_spec_reader_pick)]
def an_spec_reader_one : Ann := ⟨[], [], []⟩
def cs_spec_reader_one : Cons := ⟨cl_spec_reader_one, [], 0, [], []⟩
def fin_spec_reader_one (r0b : List Int) (r0p : Int) (list1 : List Int) (kk : AV → List A1 → Prop) : Kt := fin TT con_spec_reader_one Try.f74.results.toList [.c .sc] [.ptr [.ro .u8 r0b, .v (.int .i64 r0p)], .c (.ro .int list1)] kk
theorem g_spec_reader_one (r0b : List Int) (r0p : Int) (list1 : List Int) (kk : AV → List A1 → Prop) :
    ev TT cs_spec_reader_one 12 an_spec_reader_one (Try.f74.body.getD .skip) (st0 con_spec_reader_one [.ptr [.ro .u8 r0b, .v (.int .i64 r0p)], .c (.ro .int list1)]) (fin TT con_spec_reader_one Try.f74.results.toList [.c .sc] [.ptr [.ro .u8 r0b, .v (.int .i64 r0p)], .c (.ro .int list1)] kk) = G_spec_reader_one r0b r0p list1 (fun r0 r1 r2 => kk (.one (.c (.v (.int .i64 r0)))) [.ptr [.ro .u8 r1, .v (.int .i64 r2)]]) := by kernel_rfl
theorem e_spec_reader_one (r0b : List Int) (r0p : Int) (list1 : List Int) (kk : AV → List A1 → Prop) :
    ev TT cs_spec_reader_one 12 an_spec_reader_one (Try.f74.body.getD .skip) (st0 con_spec_reader_one [.ptr [.ro .u8 r0b, .v (.int .i64 r0p)], .c (.ro .int list1)]) (fin TT con_spec_reader_one Try.f74.results.toList [.c .sc] [.ptr [.ro .u8 r0b, .v (.int .i64 r0p)], .c (.ro .int list1)] kk) = S_spec_reader_one r0b r0p list1 (fun r0 r1 r2 => kk (.one (.c (.v (.int .i64 r0)))) [.ptr [.ro .u8 r1, .v (.int .i64 r2)]]) := by
  rw [g_spec_reader_one]
  rfl
theorem clok_spec_reader_one : ConOK Try.prog cl_spec_reader_one := consCons h_spec_reader_pick ⟨Try.f64, Try.func64, by kernel_rfl, ne_of_beq (by kernel_rfl)⟩ (consNil)
theorem cok_spec_reader_one : ConsOK Try.prog 12 cs_spec_reader_one := ⟨clok_spec_reader_one, inlNil⟩
theorem i_spec_reader_one {vs : List A1} {kk : AV → List A1 → Prop} {motive : List A1 → Prop} (h : con_spec_reader_one.F vs kk) (H : ∀ (r0b : List Int) (r0p : Int) (list1 : List Int), F_spec_reader_one r0b r0p list1 (fun r0 r1 r2 => kk (.one (.c (.v (.int .i64 r0)))) [.ptr [.ro .u8 r1, .v (.int .i64 r2)]]) → motive [.ptr [.ro .u8 r0b, .v (.int .i64 r0p)], .c (.ro .int list1)]) : motive vs := by
  unfold con_spec_reader_one at h
  dsimp only at h
  split at h
  · exact H _ _ _ h
  · exact h.elim
theorem h_spec_reader_one : Holds Try.prog 74 con_spec_reader_one := by
  refine holds_of_ev (rt := [.c .sc]) (T := TT) (Γ := cs_spec_reader_one) (an := an_spec_reader_one) (N := 12) (c := Try.f74.body.getD .skip) Try.func74 (by kernel_rfl) Try.ntmps74 (by decide) (by decide) mixed tabOK cok_spec_reader_one (by kernel_rfl) ?_
  intro vs kk _ hF
  exact i_spec_reader_one (motive := fun vs => Goes (ev TT cs_spec_reader_one 12 an_spec_reader_one (Try.f74.body.getD .skip) (st0 con_spec_reader_one vs) (fin TT con_spec_reader_one Try.f74.results.toList [.c .sc] vs kk))) hF (fun r0b r0p list1 hF => goes_of (e_spec_reader_one r0b r0p list1 kk) (F_spec_reader_one_S hF))
def con_spec_copyInts : Con := ⟨[.rd], true, [.c (.sl .int)], fun vs k => match vs with
    | [.c (.ro .int list0)] => F_spec_copyInts list0 (fun r0 => k (.one (.c (.ro .int r0))) [])
    | _ => False, false⟩
def cl_spec_copyInts : List (FuncId × Con) := []
def an_spec_copyInts : Ann := ⟨[], [], []⟩
def cs_spec_copyInts : Cons := ⟨cl_spec_copyInts, [], 0, [], []⟩
def fin_spec_copyInts (list0 : List Int) (kk : AV → List A1 → Prop) : Kt := fin TT con_spec_copyInts Try.f90.results.toList [.c (.sl .int)] [.c (.ro .int list0)] kk
theorem g_spec_copyInts (list0 : List Int) (kk : AV → List A1 → Prop) :
    ev TT cs_spec_copyInts 6 an_spec_copyInts (Try.f90.body.getD .skip) (st0 con_spec_copyInts [.c (.ro .int list0)]) (fin TT con_spec_copyInts Try.f90.results.toList [.c (.sl .int)] [.c (.ro .int list0)] kk) = G_spec_copyInts list0 (fun r0 => kk (.one (.c (.ro .int r0))) []) := by kernel_rfl
theorem e_spec_copyInts (list0 : List Int) (kk : AV → List A1 → Prop) :
    ev TT cs_spec_copyInts 6 an_spec_copyInts (Try.f90.body.getD .skip) (st0 con_spec_copyInts [.c (.ro .int list0)]) (fin TT con_spec_copyInts Try.f90.results.toList [.c (.sl .int)] [.c (.ro .int list0)] kk) = S_spec_copyInts list0 (fun r0 => kk (.one (.c (.ro .int r0))) []) := by
  rw [g_spec_copyInts]
  rfl
theorem clok_spec_copyInts : ConOK Try.prog cl_spec_copyInts := consNil
theorem cok_spec_copyInts : ConsOK Try.prog 6 cs_spec_copyInts := ⟨clok_spec_copyInts, inlNil⟩
theorem i_spec_copyInts {vs : List A1} {kk : AV → List A1 → Prop} {motive : List A1 → Prop} (h : con_spec_copyInts.F vs kk) (H : ∀ (list0 : List Int), F_spec_copyInts list0 (fun r0 => kk (.one (.c (.ro .int r0))) []) → motive [.c (.ro .int list0)]) : motive vs := by
  unfold con_spec_copyInts at h
  dsimp only at h
  split at h
  · exact H _ h
  · exact h.elim
theorem h_spec_copyInts : Holds Try.prog 90 con_spec_copyInts := by
  refine holds_of_ev (rt := [.c (.sl .int)]) (T := TT) (Γ := cs_spec_copyInts) (an := an_spec_copyInts) (N := 6) (c := Try.f90.body.getD .skip) Try.func90 (by kernel_rfl) Try.ntmps90 (by decide) (by decide) mixed tabOK cok_spec_copyInts (by kernel_rfl) ?_
  intro vs kk _ hF
  exact i_spec_copyInts (motive := fun vs => Goes (ev TT cs_spec_copyInts 6 an_spec_copyInts (Try.f90.body.getD .skip) (st0 con_spec_copyInts vs) (fin TT con_spec_copyInts Try.f90.results.toList [.c (.sl .int)] vs kk))) hF (fun list0 hF => goes_of (e_spec_copyInts list0 kk) (F_spec_copyInts_S hF))
def con_spec_reader_spoil : Con := ⟨[.mu, .rd, .rd], true, [.ptr [.sl .u8, .sc], .c (.sl .int), .c (.sc)], fun vs k => match vs with
    | [.ptr [.ro .u8 r0b, .v (.int .i64 r0p)], .c (.ro .int list1), .c (.v (.int .i64 n2))] => F_spec_reader_spoil r0b r0p list1 n2 (fun r0 r1 r2 => k (.one (.c (.ro .int r0))) [.ptr [.ro .u8 r1, .v (.int .i64 r2)]])
    | _ => False, false⟩
def cl_spec_reader_spoil : List (FuncId × Con) := [(64, con_spec_reader_pick), (74, con_spec_reader_one), (90, con_spec_copyInts)]
def an_spec_reader_spoil : Ann := ⟨[], [], []⟩
def cs_spec_reader_spoil : Cons := ⟨cl_spec_reader_spoil, [], 0, [], []⟩
def fin_spec_reader_spoil (r0b : List Int) (r0p : Int) (list1 : List Int) (n2 : Int) (kk : AV → List A1 → Prop) : Kt := fin TT con_spec_reader_spoil Try.f92.results.toList [.c (.sl .int)] [.ptr [.ro .u8 r0b, .v (.int .i64 r0p)], .c (.ro .int list1), .c (.v (.int .i64 n2))] kk
theorem g_spec_reader_spoil (r0b : List Int) (r0p : Int) (list1 : List Int) (n2 : Int) (kk : AV → List A1 → Prop) :
    ev TT cs_spec_reader_spoil 41 an_spec_reader_spoil (Try.f92.body.getD .skip) (st0 con_spec_reader_spoil [.ptr [.ro .u8 r0b, .v (.int .i64 r0p)], .c (.ro .int list1), .c (.v (.int .i64 n2))]) (fin TT con_spec_reader_spoil Try.f92.results.toList [.c (.sl .int)] [.ptr [.ro .u8 r0b, .v (.int .i64 r0p)], .c (.ro .int list1), .c (.v (.int .i64 n2))] kk) = G_spec_reader_spoil r0b r0p list1 n2 (fun r0 r1 r2 => kk (.one (.c (.ro .int r0))) [.ptr [.ro .u8 r1, .v (.int .i64 r2)]]) := by kernel_rfl
theorem e_spec_reader_spoil (r0b : List Int) (r0p : Int) (list1 : List Int) (n2 : Int) (kk : AV → List A1 → Prop) :
    ev TT cs_spec_reader_spoil 41 an_spec_reader_spoil (Try.f92.body.getD .skip) (st0 con_spec_reader_spoil [.ptr [.ro .u8 r0b, .v (.int .i64 r0p)], .c (.ro .int list1), .c (.v (.int .i64 n2))]) (fin TT con_spec_reader_spoil Try.f92.results.toList [.c (.sl .int)] [.ptr [.ro .u8 r0b, .v (.int .i64 r0p)], .c (.ro .int list1), .c (.v (.int .i64 n2))] kk) = S_spec_reader_spoil r0b r0p list1 n2 (fun r0 r1 r2 => kk (.one (.c (.ro .int r0))) [.ptr [.ro .u8 r1, .v (.int .i64 r2)]]) := by
  rw [g_spec_reader_spoil]
  rfl
theorem clok_spec_reader_spoil : ConOK Try.prog cl_spec_reader_spoil := consCons h_spec_reader_pick ⟨Try.f64, Try.func64, by kernel_rfl, ne_of_beq (by kernel_rfl)⟩ (consCons h_spec_reader_one ⟨Try.f74, Try.func74, by kernel_rfl, ne_of_beq (by kernel_rfl)⟩ (consCons h_spec_copyInts ⟨Try.f90, Try.func90, by kernel_rfl, ne_of_beq (by kernel_rfl)⟩ (consNil)))
theorem cok_spec_reader_spoil : ConsOK Try.prog 41 cs_spec_reader_spoil := ⟨clok_spec_reader_spoil, inlNil⟩
theorem i_spec_reader_spoil {vs : List A1} {kk : AV → List A1 → Prop} {motive : List A1 → Prop} (h : con_spec_reader_spoil.F vs kk) (H : ∀ (r0b : List Int) (r0p : Int) (list1 : List Int) (n2 : Int), F_spec_reader_spoil r0b r0p list1 n2 (fun r0 r1 r2 => kk (.one (.c (.ro .int r0))) [.ptr [.ro .u8 r1, .v (.int .i64 r2)]]) → motive [.ptr [.ro .u8 r0b, .v (.int .i64 r0p)], .c (.ro .int list1), .c (.v (.int .i64 n2))]) : motive vs := by
  unfold con_spec_reader_spoil at h
  dsimp only at h
  split at h
  · exact H _ _ _ _ h
  · exact h.elim
theorem h_spec_reader_spoil : Holds Try.prog 92 con_spec_reader_spoil := by
  refine holds_of_ev (rt := [.c (.sl .int)]) (T := TT) (Γ := cs_spec_reader_spoil) (an := an_spec_reader_spoil) (N := 41) (c := Try.f92.body.getD .skip) Try.func92 (by kernel_rfl) Try.ntmps92 (by decide) (by decide) mixed tabOK cok_spec_reader_spoil (by kernel_rfl) ?_
  intro vs kk _ hF
  exact i_spec_reader_spoil (motive := fun vs => Goes (ev TT cs_spec_reader_spoil 41 an_spec_reader_spoil (Try.f92.body.getD .skip) (st0 con_spec_reader_spoil vs) (fin TT con_spec_reader_spoil Try.f92.results.toList [.c (.sl .int)] vs kk))) hF (fun r0b r0p list1 n2 hF => goes_of (e_spec_reader_spoil r0b r0p list1 n2 kk) (F_spec_reader_spoil_S hF))
def con_spec_someTrace : Con := ⟨[.mu], true, [.ptr [.sl .u8, .sc]], fun vs k => match vs with
    | [.ptr [.ro .u8 r0b, .v (.int .i64 r0p)]] => F_spec_someTrace r0b r0p (fun r0 r1 r2 => k (.one (.c (.ro .int r0))) [.ptr [.ro .u8 r1, .v (.int .i64 r2)]])
    | _ => False, false⟩
def cl_spec_someTrace : List (FuncId × Con) := [(64, con_spec_reader_pick), (74, con_spec_reader_one), (92, con_spec_reader_spoil)]
def nm0_spec_someTrace : List NStep := [.own 3 .int 90000, .keep [0, 3, 4, 5] [100000, 90000]]
def an_spec_someTrace : Ann := ⟨[], [(4, nm0_spec_someTrace)], []⟩
def cs_spec_someTrace : Cons := ⟨cl_spec_someTrace, [], 0, [], []⟩
def can0_spec_someTrace (one10 : Int) (xn5 : Int) (xb100000c0 : List Int) (xb100000c1 : Int) (xout3 : List Int) : St := ⟨[(0, .one (.c (.pb 100000 0))), (3, .one (.c (.ow 90000))), (4, .one (.c (.v (.int .i64 one10)))), (5, .one (.c (.v (.int .i64 xn5))))], [(100000, .box [.ro .u8 xb100000c0, .v (.int .i64 xb100000c1)]), (90000, .row .int xout3)]⟩
def fin_spec_someTrace (r0b : List Int) (r0p : Int) (kk : AV → List A1 → Prop) : Kt := fin TT con_spec_someTrace Try.f63.results.toList [.c (.sl .int)] [.ptr [.ro .u8 r0b, .v (.int .i64 r0p)]] kk
def kt0_spec_someTrace (kf : Kt) : Kt := blockK 0 (seqK (evF TT cs_spec_someTrace 56 an_spec_someTrace Try.f63 [1, 1, 1, 1]) (kf))
theorem r0_spec_someTrace (r0b : List Int) (r0p : Int) (one10 : Int) (kk : AV → List A1 → Prop) (n : Nat) (xn5 : Int) (xb100000c0 : List Int) (xb100000c1 : Int) (xout3 : List Int) :
    iter (evF TT cs_spec_someTrace 56 an_spec_someTrace Try.f63 [1, 1, 1, 0, 1, 0, 0]) nm0_spec_someTrace (kt0_spec_someTrace (fin_spec_someTrace r0b r0p kk)) (n + 1) (can0_spec_someTrace one10 xn5 xb100000c0 xb100000c1 xout3) = T0_spec_someTrace one10 xn5 xb100000c0 xb100000c1 xout3 (fun r0 r1 r2 => kk (.one (.c (.ro .int r0))) [.ptr [.ro .u8 r1, .v (.int .i64 r2)]]) (fun xn5 xb100000c0 xb100000c1 xout3 => iter (evF TT cs_spec_someTrace 56 an_spec_someTrace Try.f63 [1, 1, 1, 0, 1, 0, 0]) nm0_spec_someTrace (kt0_spec_someTrace (fin_spec_someTrace r0b r0p kk)) n (can0_spec_someTrace one10 xn5 xb100000c0 xb100000c1 xout3)) := by kernel_rfl
theorem l0_spec_someTrace (r0b : List Int) (r0p : Int) (one10 : Int) (kk : AV → List A1 → Prop) : ∀ (n : Nat) (xn5 : Int) (xb100000c0 : List Int) (xb100000c1 : Int) (xout3 : List Int), iter (evF TT cs_spec_someTrace 56 an_spec_someTrace Try.f63 [1, 1, 1, 0, 1, 0, 0]) nm0_spec_someTrace (kt0_spec_someTrace (fin_spec_someTrace r0b r0p kk)) n (can0_spec_someTrace one10 xn5 xb100000c0 xb100000c1 xout3) = L0_spec_someTrace one10 (fun r0 r1 r2 => kk (.one (.c (.ro .int r0))) [.ptr [.ro .u8 r1, .v (.int .i64 r2)]]) n xn5 xb100000c0 xb100000c1 xout3 := by
  intro n
  induction n with
  | zero => intros; rfl
  | succ n ih =>
    intro xn5 xb100000c0 xb100000c1 xout3
    rw [r0_spec_someTrace r0b r0p one10 kk n xn5 xb100000c0 xb100000c1 xout3]
    have hb : (fun xn5 xb100000c0 xb100000c1 xout3 => iter (evF TT cs_spec_someTrace 56 an_spec_someTrace Try.f63 [1, 1, 1, 0, 1, 0, 0]) nm0_spec_someTrace (kt0_spec_someTrace (fin_spec_someTrace r0b r0p kk)) n (can0_spec_someTrace one10 xn5 xb100000c0 xb100000c1 xout3)) = L0_spec_someTrace one10 (fun r0 r1 r2 => kk (.one (.c (.ro .int r0))) [.ptr [.ro .u8 r1, .v (.int .i64 r2)]]) n := by
      funext xn5 xb100000c0 xb100000c1 xout3; exact ih xn5 xb100000c0 xb100000c1 xout3
    rw [hb]
    rfl
theorem g_spec_someTrace (r0b : List Int) (r0p : Int) (kk : AV → List A1 → Prop) :
    ev TT cs_spec_someTrace 56 an_spec_someTrace (Try.f63.body.getD .skip) (st0 con_spec_someTrace [.ptr [.ro .u8 r0b, .v (.int .i64 r0p)]]) (fin TT con_spec_someTrace Try.f63.results.toList [.c (.sl .int)] [.ptr [.ro .u8 r0b, .v (.int .i64 r0p)]] kk) = G_spec_someTrace r0b r0p (fun one10 xn5 xb100000c0 xb100000c1 xout3 => ∃ j, iter (evF TT cs_spec_someTrace 56 an_spec_someTrace Try.f63 [1, 1, 1, 0, 1, 0, 0]) nm0_spec_someTrace (kt0_spec_someTrace (fin_spec_someTrace r0b r0p kk)) j (can0_spec_someTrace one10 xn5 xb100000c0 xb100000c1 xout3)) := by kernel_rfl
theorem e_spec_someTrace (r0b : List Int) (r0p : Int) (kk : AV → List A1 → Prop) :
    ev TT cs_spec_someTrace 56 an_spec_someTrace (Try.f63.body.getD .skip) (st0 con_spec_someTrace [.ptr [.ro .u8 r0b, .v (.int .i64 r0p)]]) (fin TT con_spec_someTrace Try.f63.results.toList [.c (.sl .int)] [.ptr [.ro .u8 r0b, .v (.int .i64 r0p)]] kk) = S_spec_someTrace r0b r0p (fun r0 r1 r2 => kk (.one (.c (.ro .int r0))) [.ptr [.ro .u8 r1, .v (.int .i64 r2)]]) := by
  rw [g_spec_someTrace]
  have hi0 : (fun one10 xn5 xb100000c0 xb100000c1 xout3 => ∃ j, iter (evF TT cs_spec_someTrace 56 an_spec_someTrace Try.f63 [1, 1, 1, 0, 1, 0, 0]) nm0_spec_someTrace (kt0_spec_someTrace (fin_spec_someTrace r0b r0p kk)) j (can0_spec_someTrace one10 xn5 xb100000c0 xb100000c1 xout3)) = (fun one10 xn5 xb100000c0 xb100000c1 xout3 => ∃ j, L0_spec_someTrace one10 (fun r0 r1 r2 => kk (.one (.c (.ro .int r0))) [.ptr [.ro .u8 r1, .v (.int .i64 r2)]]) j xn5 xb100000c0 xb100000c1 xout3) := by
    funext one10 xn5 xb100000c0 xb100000c1 xout3
    refine congrArg Exists (funext fun j => ?_)
    rw [l0_spec_someTrace r0b r0p one10 kk j xn5 xb100000c0 xb100000c1 xout3]
  rw [hi0]
  rfl
theorem clok_spec_someTrace : ConOK Try.prog cl_spec_someTrace := consCons h_spec_reader_pick ⟨Try.f64, Try.func64, by kernel_rfl, ne_of_beq (by kernel_rfl)⟩ (consCons h_spec_reader_one ⟨Try.f74, Try.func74, by kernel_rfl, ne_of_beq (by kernel_rfl)⟩ (consCons h_spec_reader_spoil ⟨Try.f92, Try.func92, by kernel_rfl, ne_of_beq (by kernel_rfl)⟩ (consNil)))
theorem cok_spec_someTrace : ConsOK Try.prog 56 cs_spec_someTrace := ⟨clok_spec_someTrace, inlNil⟩
theorem i_spec_someTrace {vs : List A1} {kk : AV → List A1 → Prop} {motive : List A1 → Prop} (h : con_spec_someTrace.F vs kk) (H : ∀ (r0b : List Int) (r0p : Int), F_spec_someTrace r0b r0p (fun r0 r1 r2 => kk (.one (.c (.ro .int r0))) [.ptr [.ro .u8 r1, .v (.int .i64 r2)]]) → motive [.ptr [.ro .u8 r0b, .v (.int .i64 r0p)]]) : motive vs := by
  unfold con_spec_someTrace at h
  dsimp only at h
  split at h
  · exact H _ _ h
  · exact h.elim
theorem h_spec_someTrace : Holds Try.prog 63 con_spec_someTrace := by
  refine holds_of_ev (rt := [.c (.sl .int)]) (T := TT) (Γ := cs_spec_someTrace) (an := an_spec_someTrace) (N := 56) (c := Try.f63.body.getD .skip) Try.func63 (by kernel_rfl) Try.ntmps63 (by decide) (by decide) mixed tabOK cok_spec_someTrace (by kernel_rfl) ?_
  intro vs kk _ hF
  exact i_spec_someTrace (motive := fun vs => Goes (ev TT cs_spec_someTrace 56 an_spec_someTrace (Try.f63.body.getD .skip) (st0 con_spec_someTrace vs) (fin TT con_spec_someTrace Try.f63.results.toList [.c (.sl .int)] vs kk))) hF (fun r0b r0p hF => goes_of (e_spec_someTrace r0b r0p kk) (F_spec_someTrace_S hF))
def con_spec_DrawRoomFor : Con := ⟨[.rd], true, [.c (.sl .u8)], fun vs k => match vs with
    | [.c (.ro .u8 code0)] => F_spec_DrawRoomFor code0 (fun r0 r1 => k (.tup [.c (.ro .int r0), .c (.v (.int .i64 r1))]) [])
    | _ => False, false⟩
def cl_spec_DrawRoomFor : List (FuncId × Con) := [(62, con_spec_newReader), (63, con_spec_someTrace), (74, con_spec_reader_one)]
def an_spec_DrawRoomFor : Ann := ⟨[], [], []⟩
def cs_spec_DrawRoomFor : Cons := ⟨cl_spec_DrawRoomFor, [], 0, [], []⟩
def fin_spec_DrawRoomFor (code0 : List Int) (kk : AV → List A1 → Prop) : Kt := fin TT con_spec_DrawRoomFor Try.f35.results.toList [.c (.sl .int), .c .sc] [.c (.ro .u8 code0)] kk
theorem g_spec_DrawRoomFor (code0 : List Int) (kk : AV → List A1 → Prop) :
    ev TT cs_spec_DrawRoomFor 14 an_spec_DrawRoomFor (Try.f35.body.getD .skip) (st0 con_spec_DrawRoomFor [.c (.ro .u8 code0)]) (fin TT con_spec_DrawRoomFor Try.f35.results.toList [.c (.sl .int), .c .sc] [.c (.ro .u8 code0)] kk) = G_spec_DrawRoomFor code0 (fun r0 r1 => kk (.tup [.c (.ro .int r0), .c (.v (.int .i64 r1))]) []) := by kernel_rfl
theorem e_spec_DrawRoomFor (code0 : List Int) (kk : AV → List A1 → Prop) :
    ev TT cs_spec_DrawRoomFor 14 an_spec_DrawRoomFor (Try.f35.body.getD .skip) (st0 con_spec_DrawRoomFor [.c (.ro .u8 code0)]) (fin TT con_spec_DrawRoomFor Try.f35.results.toList [.c (.sl .int), .c .sc] [.c (.ro .u8 code0)] kk) = S_spec_DrawRoomFor code0 (fun r0 r1 => kk (.tup [.c (.ro .int r0), .c (.v (.int .i64 r1))]) []) := by
  rw [g_spec_DrawRoomFor]
  rfl
theorem clok_spec_DrawRoomFor : ConOK Try.prog cl_spec_DrawRoomFor := consCons h_spec_newReader ⟨Try.f62, Try.func62, by kernel_rfl, ne_of_beq (by kernel_rfl)⟩ (consCons h_spec_someTrace ⟨Try.f63, Try.func63, by kernel_rfl, ne_of_beq (by kernel_rfl)⟩ (consCons h_spec_reader_one ⟨Try.f74, Try.func74, by kernel_rfl, ne_of_beq (by kernel_rfl)⟩ (consNil)))
theorem cok_spec_DrawRoomFor : ConsOK Try.prog 14 cs_spec_DrawRoomFor := ⟨clok_spec_DrawRoomFor, inlNil⟩
theorem i_spec_DrawRoomFor {vs : List A1} {kk : AV → List A1 → Prop} {motive : List A1 → Prop} (h : con_spec_DrawRoomFor.F vs kk) (H : ∀ (code0 : List Int), F_spec_DrawRoomFor code0 (fun r0 r1 => kk (.tup [.c (.ro .int r0), .c (.v (.int .i64 r1))]) []) → motive [.c (.ro .u8 code0)]) : motive vs := by
  unfold con_spec_DrawRoomFor at h
  dsimp only at h
  split at h
  · exact H _ h
  · exact h.elim
theorem h_spec_DrawRoomFor : Holds Try.prog 35 con_spec_DrawRoomFor := by
  refine holds_of_ev (rt := [.c (.sl .int), .c .sc]) (T := TT) (Γ := cs_spec_DrawRoomFor) (an := an_spec_DrawRoomFor) (N := 14) (c := Try.f35.body.getD .skip) Try.func35 (by kernel_rfl) Try.ntmps35 (by decide) (by decide) mixed tabOK cok_spec_DrawRoomFor (by kernel_rfl) ?_
  intro vs kk _ hF
  exact i_spec_DrawRoomFor (motive := fun vs => Goes (ev TT cs_spec_DrawRoomFor 14 an_spec_DrawRoomFor (Try.f35.body.getD .skip) (st0 con_spec_DrawRoomFor vs) (fin TT con_spec_DrawRoomFor Try.f35.results.toList [.c (.sl .int), .c .sc] vs kk))) hF (fun code0 hF => goes_of (e_spec_DrawRoomFor code0 kk) (F_spec_DrawRoomFor_S hF))
def con_impl_validKey : Con := ⟨[.rd], true, [.c (.sc)], fun vs k => match vs with
    | [.c (.v (.int .i64 key0))] => F_impl_validKey key0 (fun r0 => k (.one (.c (.v (.bool r0)))) [])
    | _ => False, false⟩
def cl_impl_validKey : List (FuncId × Con) := []
def an_impl_validKey : Ann := ⟨[], [], []⟩
def cs_impl_validKey : Cons := ⟨cl_impl_validKey, [], 0, [], []⟩
def fin_impl_validKey (key0 : Int) (kk : AV → List A1 → Prop) : Kt := fin TT con_impl_validKey Try.f67.results.toList [.c .sc] [.c (.v (.int .i64 key0))] kk
theorem g_impl_validKey (key0 : Int) (kk : AV → List A1 → Prop) :
    ev TT cs_impl_validKey 9 an_impl_validKey (Try.f67.body.getD .skip) (st0 con_impl_validKey [.c (.v (.int .i64 key0))]) (fin TT con_impl_validKey Try.f67.results.toList [.c .sc] [.c (.v (.int .i64 key0))] kk) = G_impl_validKey key0 (fun r0 => kk (.one (.c (.v (.bool r0)))) []) := by kernel_rfl
theorem e_impl_validKey (key0 : Int) (kk : AV → List A1 → Prop) :
    ev TT cs_impl_validKey 9 an_impl_validKey (Try.f67.body.getD .skip) (st0 con_impl_validKey [.c (.v (.int .i64 key0))]) (fin TT con_impl_validKey Try.f67.results.toList [.c .sc] [.c (.v (.int .i64 key0))] kk) = S_impl_validKey key0 (fun r0 => kk (.one (.c (.v (.bool r0)))) []) := by
  rw [g_impl_validKey]
  rfl
theorem clok_impl_validKey : ConOK Try.prog cl_impl_validKey := consNil
theorem cok_impl_validKey : ConsOK Try.prog 9 cs_impl_validKey := ⟨clok_impl_validKey, inlNil⟩
theorem i_impl_validKey {vs : List A1} {kk : AV → List A1 → Prop} {motive : List A1 → Prop} (h : con_impl_validKey.F vs kk) (H : ∀ (key0 : Int), F_impl_validKey key0 (fun r0 => kk (.one (.c (.v (.bool r0)))) []) → motive [.c (.v (.int .i64 key0))]) : motive vs := by
  unfold con_impl_validKey at h
  dsimp only at h
  split at h
  · exact H _ h
  · exact h.elim
theorem h_impl_validKey : Holds Try.prog 67 con_impl_validKey := by
  refine holds_of_ev (rt := [.c .sc]) (T := TT) (Γ := cs_impl_validKey) (an := an_impl_validKey) (N := 9) (c := Try.f67.body.getD .skip) Try.func67 (by kernel_rfl) Try.ntmps67 (by decide) (by decide) mixed tabOK cok_impl_validKey (by kernel_rfl) ?_
  intro vs kk _ hF
  exact i_impl_validKey (motive := fun vs => Goes (ev TT cs_impl_validKey 9 an_impl_validKey (Try.f67.body.getD .skip) (st0 con_impl_validKey vs) (fin TT con_impl_validKey Try.f67.results.toList [.c .sc] vs kk))) hF (fun key0 hF => goes_of (e_impl_validKey key0 kk) (F_impl_validKey_S hF))
def con_impl_ValidTrace : Con := ⟨[.rd], true, [.c (.sl .int)], fun vs k => match vs with
    | [.c (.ro .int t0)] => F_impl_ValidTrace t0 (fun r0 => k (.one (.c (.v (.bool r0)))) [])
    | _ => False, false⟩
def cl_impl_ValidTrace : List (FuncId × Con) := [(67, con_impl_validKey)]
def nm0_impl_ValidTrace : List NStep := [.keep [8, 9, 10] []]
def an_impl_ValidTrace : Ann := ⟨[], [(4, nm0_impl_ValidTrace)], []⟩
def cs_impl_ValidTrace : Cons := ⟨cl_impl_ValidTrace, [], 0, [], []⟩
def can0_impl_ValidTrace (t0 : List Int) (xt9 : Int) (xt10 : Int) : St := ⟨[(8, .one (.c (.ro .int t0))), (9, .one (.c (.v (.int .i64 xt9)))), (10, .one (.c (.v (.int .i64 xt10))))], []⟩
def fin_impl_ValidTrace (t0 : List Int) (kk : AV → List A1 → Prop) : Kt := fin TT con_impl_ValidTrace Try.f50.results.toList [.c .sc] [.c (.ro .int t0)] kk
def kt0_impl_ValidTrace (kf : Kt) : Kt := blockK 0 (seqK (evF TT cs_impl_ValidTrace 18 an_impl_ValidTrace Try.f50 [1, 1, 1]) (kf))
theorem r0_impl_ValidTrace (t0 : List Int) (xt9 : Int) (kk : AV → List A1 → Prop) (n : Nat) (xt10 : Int) :
    iter (evF TT cs_impl_ValidTrace 18 an_impl_ValidTrace Try.f50 [1, 1, 0, 1, 0, 0]) nm0_impl_ValidTrace (kt0_impl_ValidTrace (fin_impl_ValidTrace t0 kk)) (n + 1) (can0_impl_ValidTrace t0 xt9 xt10) = T0_impl_ValidTrace t0 xt9 xt10 (fun r0 => kk (.one (.c (.v (.bool r0)))) []) (fun xt10 => iter (evF TT cs_impl_ValidTrace 18 an_impl_ValidTrace Try.f50 [1, 1, 0, 1, 0, 0]) nm0_impl_ValidTrace (kt0_impl_ValidTrace (fin_impl_ValidTrace t0 kk)) n (can0_impl_ValidTrace t0 xt9 xt10)) := by kernel_rfl
theorem l0_impl_ValidTrace (t0 : List Int) (xt9 : Int) (kk : AV → List A1 → Prop) : ∀ (n : Nat) (xt10 : Int), iter (evF TT cs_impl_ValidTrace 18 an_impl_ValidTrace Try.f50 [1, 1, 0, 1, 0, 0]) nm0_impl_ValidTrace (kt0_impl_ValidTrace (fin_impl_ValidTrace t0 kk)) n (can0_impl_ValidTrace t0 xt9 xt10) = L0_impl_ValidTrace t0 xt9 (fun r0 => kk (.one (.c (.v (.bool r0)))) []) n xt10 := by
  intro n
  induction n with
  | zero => intros; rfl
  | succ n ih =>
    intro xt10
    rw [r0_impl_ValidTrace t0 xt9 kk n xt10]
    have hb : (fun xt10 => iter (evF TT cs_impl_ValidTrace 18 an_impl_ValidTrace Try.f50 [1, 1, 0, 1, 0, 0]) nm0_impl_ValidTrace (kt0_impl_ValidTrace (fin_impl_ValidTrace t0 kk)) n (can0_impl_ValidTrace t0 xt9 xt10)) = L0_impl_ValidTrace t0 xt9 (fun r0 => kk (.one (.c (.v (.bool r0)))) []) n := by
      funext xt10; exact ih xt10
    rw [hb]
    rfl
theorem g_impl_ValidTrace (t0 : List Int) (kk : AV → List A1 → Prop) :
    ev TT cs_impl_ValidTrace 18 an_impl_ValidTrace (Try.f50.body.getD .skip) (st0 con_impl_ValidTrace [.c (.ro .int t0)]) (fin TT con_impl_ValidTrace Try.f50.results.toList [.c .sc] [.c (.ro .int t0)] kk) = G_impl_ValidTrace t0 (fun r0 => kk (.one (.c (.v (.bool r0)))) []) (fun t0 xt9 xt10 => ∃ j, iter (evF TT cs_impl_ValidTrace 18 an_impl_ValidTrace Try.f50 [1, 1, 0, 1, 0, 0]) nm0_impl_ValidTrace (kt0_impl_ValidTrace (fin_impl_ValidTrace t0 kk)) j (can0_impl_ValidTrace t0 xt9 xt10)) := by kernel_rfl
theorem e_impl_ValidTrace (t0 : List Int) (kk : AV → List A1 → Prop) :
    ev TT cs_impl_ValidTrace 18 an_impl_ValidTrace (Try.f50.body.getD .skip) (st0 con_impl_ValidTrace [.c (.ro .int t0)]) (fin TT con_impl_ValidTrace Try.f50.results.toList [.c .sc] [.c (.ro .int t0)] kk) = S_impl_ValidTrace t0 (fun r0 => kk (.one (.c (.v (.bool r0)))) []) := by
  rw [g_impl_ValidTrace]
  have hi0 : (fun t0 xt9 xt10 => ∃ j, iter (evF TT cs_impl_ValidTrace 18 an_impl_ValidTrace Try.f50 [1, 1, 0, 1, 0, 0]) nm0_impl_ValidTrace (kt0_impl_ValidTrace (fin_impl_ValidTrace t0 kk)) j (can0_impl_ValidTrace t0 xt9 xt10)) = (fun t0 xt9 xt10 => ∃ j, L0_impl_ValidTrace t0 xt9 (fun r0 => kk (.one (.c (.v (.bool r0)))) []) j xt10) := by
    funext t0 xt9 xt10
    refine congrArg Exists (funext fun j => ?_)
    rw [l0_impl_ValidTrace t0 xt9 kk j xt10]
  rw [hi0]
  rfl
theorem clok_impl_ValidTrace : ConOK Try.prog cl_impl_ValidTrace := consCons h_impl_validKey ⟨Try.f67, Try.func67, by kernel_rfl, ne_of_beq (by kernel_rfl)⟩ (consNil)
theorem cok_impl_ValidTrace : ConsOK Try.prog 18 cs_impl_ValidTrace := ⟨clok_impl_ValidTrace, inlNil⟩
theorem i_impl_ValidTrace {vs : List A1} {kk : AV → List A1 → Prop} {motive : List A1 → Prop} (h : con_impl_ValidTrace.F vs kk) (H : ∀ (t0 : List Int), F_impl_ValidTrace t0 (fun r0 => kk (.one (.c (.v (.bool r0)))) []) → motive [.c (.ro .int t0)]) : motive vs := by
  unfold con_impl_ValidTrace at h
  dsimp only at h
  split at h
  · exact H _ h
  · exact h.elim
theorem h_impl_ValidTrace : Holds Try.prog 50 con_impl_ValidTrace := by
  refine holds_of_ev (rt := [.c .sc]) (T := TT) (Γ := cs_impl_ValidTrace) (an := an_impl_ValidTrace) (N := 18) (c := Try.f50.body.getD .skip) Try.func50 (by kernel_rfl) Try.ntmps50 (by decide) (by decide) mixed tabOK cok_impl_ValidTrace (by kernel_rfl) ?_
  intro vs kk _ hF
  exact i_impl_ValidTrace (motive := fun vs => Goes (ev TT cs_impl_ValidTrace 18 an_impl_ValidTrace (Try.f50.body.getD .skip) (st0 con_impl_ValidTrace vs) (fin TT con_impl_ValidTrace Try.f50.results.toList [.c .sc] vs kk))) hF (fun t0 hF => goes_of (e_impl_ValidTrace t0 kk) (F_impl_ValidTrace_S hF))
def con_slices_Index_sint_int : Con := ⟨[.rd, .rd], true, [.c (.sl .int), .c (.sc)], fun vs k => match vs with
    | [.c (.ro .int s0), .c (.v (.int .i64 v1))] => F_slices_Index_sint_int s0 v1 (fun r0 => k (.one (.c (.v (.int .i64 r0)))) [])
    | _ => False, false⟩
def cl_slices_Index_sint_int : List (FuncId × Con) := []
def nm0_slices_Index_sint_int : List NStep := [.keep [0, 1, 7, 8] []]
def an_slices_Index_sint_int : Ann := ⟨[], [(2, nm0_slices_Index_sint_int)], []⟩
def cs_slices_Index_sint_int : Cons := ⟨cl_slices_Index_sint_int, [], 0, [], []⟩
def can0_slices_Index_sint_int (s0 : List Int) (v1 : Int) (xt7 : Int) (xt8 : Int) : St := ⟨[(0, .one (.c (.ro .int s0))), (1, .one (.c (.v (.int .i64 v1)))), (7, .one (.c (.v (.int .i64 xt7)))), (8, .one (.c (.v (.int .i64 xt8))))], []⟩
def fin_slices_Index_sint_int (s0 : List Int) (v1 : Int) (kk : AV → List A1 → Prop) : Kt := fin TT con_slices_Index_sint_int Try.f68.results.toList [.c .sc] [.c (.ro .int s0), .c (.v (.int .i64 v1))] kk
def kt0_slices_Index_sint_int (kf : Kt) : Kt := blockK 0 (seqK (evF TT cs_slices_Index_sint_int 19 an_slices_Index_sint_int Try.f68 [1, 1]) (kf))
theorem r0_slices_Index_sint_int (s0 : List Int) (v1 : Int) (xt7 : Int) (kk : AV → List A1 → Prop) (n : Nat) (xt8 : Int) :
    iter (evF TT cs_slices_Index_sint_int 19 an_slices_Index_sint_int Try.f68 [1, 0, 1, 0, 0]) nm0_slices_Index_sint_int (kt0_slices_Index_sint_int (fin_slices_Index_sint_int s0 v1 kk)) (n + 1) (can0_slices_Index_sint_int s0 v1 xt7 xt8) = T0_slices_Index_sint_int s0 v1 xt7 xt8 (fun r0 => kk (.one (.c (.v (.int .i64 r0)))) []) (fun xt8 => iter (evF TT cs_slices_Index_sint_int 19 an_slices_Index_sint_int Try.f68 [1, 0, 1, 0, 0]) nm0_slices_Index_sint_int (kt0_slices_Index_sint_int (fin_slices_Index_sint_int s0 v1 kk)) n (can0_slices_Index_sint_int s0 v1 xt7 xt8)) := by kernel_rfl
theorem l0_slices_Index_sint_int (s0 : List Int) (v1 : Int) (xt7 : Int) (kk : AV → List A1 → Prop) : ∀ (n : Nat) (xt8 : Int), iter (evF TT cs_slices_Index_sint_int 19 an_slices_Index_sint_int Try.f68 [1, 0, 1, 0, 0]) nm0_slices_Index_sint_int (kt0_slices_Index_sint_int (fin_slices_Index_sint_int s0 v1 kk)) n (can0_slices_Index_sint_int s0 v1 xt7 xt8) = L0_slices_Index_sint_int s0 v1 xt7 (fun r0 => kk (.one (.c (.v (.int .i64 r0)))) []) n xt8 := by
  intro n
  induction n with
  | zero => intros; rfl
  | succ n ih =>
    intro xt8
    rw [r0_slices_Index_sint_int s0 v1 xt7 kk n xt8]
    have hb : (fun xt8 => iter (evF TT cs_slices_Index_sint_int 19 an_slices_Index_sint_int Try.f68 [1, 0, 1, 0, 0]) nm0_slices_Index_sint_int (kt0_slices_Index_sint_int (fin_slices_Index_sint_int s0 v1 kk)) n (can0_slices_Index_sint_int s0 v1 xt7 xt8)) = L0_slices_Index_sint_int s0 v1 xt7 (fun r0 => kk (.one (.c (.v (.int .i64 r0)))) []) n := by
      funext xt8; exact ih xt8
    rw [hb]
    rfl
theorem g_slices_Index_sint_int (s0 : List Int) (v1 : Int) (kk : AV → List A1 → Prop) :
    ev TT cs_slices_Index_sint_int 19 an_slices_Index_sint_int (Try.f68.body.getD .skip) (st0 con_slices_Index_sint_int [.c (.ro .int s0), .c (.v (.int .i64 v1))]) (fin TT con_slices_Index_sint_int Try.f68.results.toList [.c .sc] [.c (.ro .int s0), .c (.v (.int .i64 v1))] kk) = G_slices_Index_sint_int s0 v1 (fun s0 v1 xt7 xt8 => ∃ j, iter (evF TT cs_slices_Index_sint_int 19 an_slices_Index_sint_int Try.f68 [1, 0, 1, 0, 0]) nm0_slices_Index_sint_int (kt0_slices_Index_sint_int (fin_slices_Index_sint_int s0 v1 kk)) j (can0_slices_Index_sint_int s0 v1 xt7 xt8)) := by kernel_rfl
theorem e_slices_Index_sint_int (s0 : List Int) (v1 : Int) (kk : AV → List A1 → Prop) :
    ev TT cs_slices_Index_sint_int 19 an_slices_Index_sint_int (Try.f68.body.getD .skip) (st0 con_slices_Index_sint_int [.c (.ro .int s0), .c (.v (.int .i64 v1))]) (fin TT con_slices_Index_sint_int Try.f68.results.toList [.c .sc] [.c (.ro .int s0), .c (.v (.int .i64 v1))] kk) = S_slices_Index_sint_int s0 v1 (fun r0 => kk (.one (.c (.v (.int .i64 r0)))) []) := by
  rw [g_slices_Index_sint_int]
  have hi0 : (fun s0 v1 xt7 xt8 => ∃ j, iter (evF TT cs_slices_Index_sint_int 19 an_slices_Index_sint_int Try.f68 [1, 0, 1, 0, 0]) nm0_slices_Index_sint_int (kt0_slices_Index_sint_int (fin_slices_Index_sint_int s0 v1 kk)) j (can0_slices_Index_sint_int s0 v1 xt7 xt8)) = (fun s0 v1 xt7 xt8 => ∃ j, L0_slices_Index_sint_int s0 v1 xt7 (fun r0 => kk (.one (.c (.v (.int .i64 r0)))) []) j xt8) := by
    funext s0 v1 xt7 xt8
    refine congrArg Exists (funext fun j => ?_)
    rw [l0_slices_Index_sint_int s0 v1 xt7 kk j xt8]
  rw [hi0]
  rfl
theorem clok_slices_Index_sint_int : ConOK Try.prog cl_slices_Index_sint_int := consNil
theorem cok_slices_Index_sint_int : ConsOK Try.prog 19 cs_slices_Index_sint_int := ⟨clok_slices_Index_sint_int, inlNil⟩
theorem i_slices_Index_sint_int {vs : List A1} {kk : AV → List A1 → Prop} {motive : List A1 → Prop} (h : con_slices_Index_sint_int.F vs kk) (H : ∀ (s0 : List Int) (v1 : Int), F_slices_Index_sint_int s0 v1 (fun r0 => kk (.one (.c (.v (.int .i64 r0)))) []) → motive [.c (.ro .int s0), .c (.v (.int .i64 v1))]) : motive vs := by
  unfold con_slices_Index_sint_int at h
  dsimp only at h
  split at h
  · exact H _ _ h
  · exact h.elim
theorem h_slices_Index_sint_int : Holds Try.prog 68 con_slices_Index_sint_int := by
  refine holds_of_ev (rt := [.c .sc]) (T := TT) (Γ := cs_slices_Index_sint_int) (an := an_slices_Index_sint_int) (N := 19) (c := Try.f68.body.getD .skip) Try.func68 (by kernel_rfl) Try.ntmps68 (by decide) (by decide) mixed tabOK cok_slices_Index_sint_int (by kernel_rfl) ?_
  intro vs kk _ hF
  exact i_slices_Index_sint_int (motive := fun vs => Goes (ev TT cs_slices_Index_sint_int 19 an_slices_Index_sint_int (Try.f68.body.getD .skip) (st0 con_slices_Index_sint_int vs) (fin TT con_slices_Index_sint_int Try.f68.results.toList [.c .sc] vs kk))) hF (fun s0 v1 hF => goes_of (e_slices_Index_sint_int s0 v1 kk) (F_slices_Index_sint_int_S hF))
def con_impl_withoutKey : Con := ⟨[.rd, .rd], true, [.c (.sl .int), .c (.sc)], fun vs k => match vs with
    | [.c (.ro .int list0), .c (.v (.int .i64 key1))] => F_impl_withoutKey list0 key1 (fun r0 => k (.one (.c (.ro .int r0))) [])
    | _ => False, false⟩
def cl_impl_withoutKey : List (FuncId × Con) := []
def nm0_impl_withoutKey : List NStep := [.own 5 .int 90000, .keep [1, 5, 9, 10, 11] [90000]]
def an_impl_withoutKey : Ann := ⟨[], [(3, nm0_impl_withoutKey)], []⟩
def cs_impl_withoutKey : Cons := ⟨cl_impl_withoutKey, [], 0, [], []⟩
def can0_impl_withoutKey (key1 : Int) (list0 : List Int) (xt10 : Int) (xt11 : Int) (xout5 : List Int) : St := ⟨[(1, .one (.c (.v (.int .i64 key1)))), (5, .one (.c (.ow 90000))), (9, .one (.c (.ro .int list0))), (10, .one (.c (.v (.int .i64 xt10)))), (11, .one (.c (.v (.int .i64 xt11))))], [(90000, .row .int xout5)]⟩
def fin_impl_withoutKey (list0 : List Int) (key1 : Int) (kk : AV → List A1 → Prop) : Kt := fin TT con_impl_withoutKey Try.f72.results.toList [.c (.sl .int)] [.c (.ro .int list0), .c (.v (.int .i64 key1))] kk
def kt0_impl_withoutKey (kf : Kt) : Kt := blockK 0 (seqK (evF TT cs_impl_withoutKey 24 an_impl_withoutKey Try.f72 [1, 1, 1]) (kf))
theorem r0_impl_withoutKey (list0 : List Int) (key1 : Int) (xt10 : Int) (kk : AV → List A1 → Prop) (n : Nat) (xt11 : Int) (xout5 : List Int) :
    iter (evF TT cs_impl_withoutKey 24 an_impl_withoutKey Try.f72 [1, 1, 0, 1, 0, 0]) nm0_impl_withoutKey (kt0_impl_withoutKey (fin_impl_withoutKey list0 key1 kk)) (n + 1) (can0_impl_withoutKey key1 list0 xt10 xt11 xout5) = T0_impl_withoutKey key1 list0 xt10 xt11 xout5 (fun r0 => kk (.one (.c (.ro .int r0))) []) (fun xt11 xout5 => iter (evF TT cs_impl_withoutKey 24 an_impl_withoutKey Try.f72 [1, 1, 0, 1, 0, 0]) nm0_impl_withoutKey (kt0_impl_withoutKey (fin_impl_withoutKey list0 key1 kk)) n (can0_impl_withoutKey key1 list0 xt10 xt11 xout5)) := by kernel_rfl
theorem l0_impl_withoutKey (list0 : List Int) (key1 : Int) (xt10 : Int) (kk : AV → List A1 → Prop) : ∀ (n : Nat) (xt11 : Int) (xout5 : List Int), iter (evF TT cs_impl_withoutKey 24 an_impl_withoutKey Try.f72 [1, 1, 0, 1, 0, 0]) nm0_impl_withoutKey (kt0_impl_withoutKey (fin_impl_withoutKey list0 key1 kk)) n (can0_impl_withoutKey key1 list0 xt10 xt11 xout5) = L0_impl_withoutKey key1 list0 xt10 (fun r0 => kk (.one (.c (.ro .int r0))) []) n xt11 xout5 := by
  intro n
  induction n with
  | zero => intros; rfl
  | succ n ih =>
    intro xt11 xout5
    rw [r0_impl_withoutKey list0 key1 xt10 kk n xt11 xout5]
    have hb : (fun xt11 xout5 => iter (evF TT cs_impl_withoutKey 24 an_impl_withoutKey Try.f72 [1, 1, 0, 1, 0, 0]) nm0_impl_withoutKey (kt0_impl_withoutKey (fin_impl_withoutKey list0 key1 kk)) n (can0_impl_withoutKey key1 list0 xt10 xt11 xout5)) = L0_impl_withoutKey key1 list0 xt10 (fun r0 => kk (.one (.c (.ro .int r0))) []) n := by
      funext xt11 xout5; exact ih xt11 xout5
    rw [hb]
    rfl
theorem g_impl_withoutKey (list0 : List Int) (key1 : Int) (kk : AV → List A1 → Prop) :
    ev TT cs_impl_withoutKey 24 an_impl_withoutKey (Try.f72.body.getD .skip) (st0 con_impl_withoutKey [.c (.ro .int list0), .c (.v (.int .i64 key1))]) (fin TT con_impl_withoutKey Try.f72.results.toList [.c (.sl .int)] [.c (.ro .int list0), .c (.v (.int .i64 key1))] kk) = G_impl_withoutKey list0 key1 (fun key1 list0 xt10 xt11 xout5 => ∃ j, iter (evF TT cs_impl_withoutKey 24 an_impl_withoutKey Try.f72 [1, 1, 0, 1, 0, 0]) nm0_impl_withoutKey (kt0_impl_withoutKey (fin_impl_withoutKey list0 key1 kk)) j (can0_impl_withoutKey key1 list0 xt10 xt11 xout5)) := by kernel_rfl
theorem e_impl_withoutKey (list0 : List Int) (key1 : Int) (kk : AV → List A1 → Prop) :
    ev TT cs_impl_withoutKey 24 an_impl_withoutKey (Try.f72.body.getD .skip) (st0 con_impl_withoutKey [.c (.ro .int list0), .c (.v (.int .i64 key1))]) (fin TT con_impl_withoutKey Try.f72.results.toList [.c (.sl .int)] [.c (.ro .int list0), .c (.v (.int .i64 key1))] kk) = S_impl_withoutKey list0 key1 (fun r0 => kk (.one (.c (.ro .int r0))) []) := by
  rw [g_impl_withoutKey]
  have hi0 : (fun key1 list0 xt10 xt11 xout5 => ∃ j, iter (evF TT cs_impl_withoutKey 24 an_impl_withoutKey Try.f72 [1, 1, 0, 1, 0, 0]) nm0_impl_withoutKey (kt0_impl_withoutKey (fin_impl_withoutKey list0 key1 kk)) j (can0_impl_withoutKey key1 list0 xt10 xt11 xout5)) = (fun key1 list0 xt10 xt11 xout5 => ∃ j, L0_impl_withoutKey key1 list0 xt10 (fun r0 => kk (.one (.c (.ro .int r0))) []) j xt11 xout5) := by
    funext key1 list0 xt10 xt11 xout5
    refine congrArg Exists (funext fun j => ?_)
    rw [l0_impl_withoutKey list0 key1 xt10 kk j xt11 xout5]
  rw [hi0]
  rfl
theorem clok_impl_withoutKey : ConOK Try.prog cl_impl_withoutKey := consNil
theorem cok_impl_withoutKey : ConsOK Try.prog 24 cs_impl_withoutKey := ⟨clok_impl_withoutKey, inlNil⟩
theorem i_impl_withoutKey {vs : List A1} {kk : AV → List A1 → Prop} {motive : List A1 → Prop} (h : con_impl_withoutKey.F vs kk) (H : ∀ (list0 : List Int) (key1 : Int), F_impl_withoutKey list0 key1 (fun r0 => kk (.one (.c (.ro .int r0))) []) → motive [.c (.ro .int list0), .c (.v (.int .i64 key1))]) : motive vs := by
  unfold con_impl_withoutKey at h
  dsimp only at h
  split at h
  · exact H _ _ h
  · exact h.elim
theorem h_impl_withoutKey : Holds Try.prog 72 con_impl_withoutKey := by
  refine holds_of_ev (rt := [.c (.sl .int)]) (T := TT) (Γ := cs_impl_withoutKey) (an := an_impl_withoutKey) (N := 24) (c := Try.f72.body.getD .skip) Try.func72 (by kernel_rfl) Try.ntmps72 (by decide) (by decide) mixed tabOK cok_impl_withoutKey (by kernel_rfl) ?_
  intro vs kk _ hF
  exact i_impl_withoutKey (motive := fun vs => Goes (ev TT cs_impl_withoutKey 24 an_impl_withoutKey (Try.f72.body.getD .skip) (st0 con_impl_withoutKey vs) (fin TT con_impl_withoutKey Try.f72.results.toList [.c (.sl .int)] vs kk))) hF (fun list0 key1 hF => goes_of (e_impl_withoutKey list0 key1 kk) (F_impl_withoutKey_S hF))
def con_impl_putFirst : Con := ⟨[.rd, .rd], true, [.c (.sl .int), .c (.sc)], fun vs k => match vs with
    | [.c (.ro .int list0), .c (.v (.int .i64 key1))] => F_impl_putFirst list0 key1 (fun r0 => k (.one (.c (.ro .int r0))) [])
    | _ => False, false⟩
def cl_impl_putFirst : List (FuncId × Con) := []
def an_impl_putFirst : Ann := ⟨[], [], []⟩
def cs_impl_putFirst : Cons := ⟨cl_impl_putFirst, [], 0, [], []⟩
def fin_impl_putFirst (list0 : List Int) (key1 : Int) (kk : AV → List A1 → Prop) : Kt := fin TT con_impl_putFirst Try.f71.results.toList [.c (.sl .int)] [.c (.ro .int list0), .c (.v (.int .i64 key1))] kk
theorem g_impl_putFirst (list0 : List Int) (key1 : Int) (kk : AV → List A1 → Prop) :
    ev TT cs_impl_putFirst 9 an_impl_putFirst (Try.f71.body.getD .skip) (st0 con_impl_putFirst [.c (.ro .int list0), .c (.v (.int .i64 key1))]) (fin TT con_impl_putFirst Try.f71.results.toList [.c (.sl .int)] [.c (.ro .int list0), .c (.v (.int .i64 key1))] kk) = G_impl_putFirst list0 key1 (fun r0 => kk (.one (.c (.ro .int r0))) []) := by kernel_rfl
theorem e_impl_putFirst (list0 : List Int) (key1 : Int) (kk : AV → List A1 → Prop) :
    ev TT cs_impl_putFirst 9 an_impl_putFirst (Try.f71.body.getD .skip) (st0 con_impl_putFirst [.c (.ro .int list0), .c (.v (.int .i64 key1))]) (fin TT con_impl_putFirst Try.f71.results.toList [.c (.sl .int)] [.c (.ro .int list0), .c (.v (.int .i64 key1))] kk) = S_impl_putFirst list0 key1 (fun r0 => kk (.one (.c (.ro .int r0))) []) := by
  rw [g_impl_putFirst]
  rfl
theorem clok_impl_putFirst : ConOK Try.prog cl_impl_putFirst := consNil
theorem cok_impl_putFirst : ConsOK Try.prog 9 cs_impl_putFirst := ⟨clok_impl_putFirst, inlNil⟩
theorem i_impl_putFirst {vs : List A1} {kk : AV → List A1 → Prop} {motive : List A1 → Prop} (h : con_impl_putFirst.F vs kk) (H : ∀ (list0 : List Int) (key1 : Int), F_impl_putFirst list0 key1 (fun r0 => kk (.one (.c (.ro .int r0))) []) → motive [.c (.ro .int list0), .c (.v (.int .i64 key1))]) : motive vs := by
  unfold con_impl_putFirst at h
  dsimp only at h
  split at h
  · exact H _ _ h
  · exact h.elim
theorem h_impl_putFirst : Holds Try.prog 71 con_impl_putFirst := by
  refine holds_of_ev (rt := [.c (.sl .int)]) (T := TT) (Γ := cs_impl_putFirst) (an := an_impl_putFirst) (N := 9) (c := Try.f71.body.getD .skip) Try.func71 (by kernel_rfl) Try.ntmps71 (by decide) (by decide) mixed tabOK cok_impl_putFirst (by kernel_rfl) ?_
  intro vs kk _ hF
  exact i_impl_putFirst (motive := fun vs => Goes (ev TT cs_impl_putFirst 9 an_impl_putFirst (Try.f71.body.getD .skip) (st0 con_impl_putFirst vs) (fin TT con_impl_putFirst Try.f71.results.toList [.c (.sl .int)] vs kk))) hF (fun list0 key1 hF => goes_of (e_impl_putFirst list0 key1 kk) (F_impl_putFirst_S hF))
def con_impl_ReuseDistances : Con := ⟨[.rd], true, [.c (.sl .int)], fun vs k => match vs with
    | [.c (.ro .int t0)] => F_impl_ReuseDistances t0 (fun r0 => k (.one (.c (.ro .int r0))) [])
    | _ => False, false⟩
def cl_impl_ReuseDistances : List (FuncId × Con) := [(50, con_impl_ValidTrace), (68, con_slices_Index_sint_int), (71, con_impl_putFirst), (72, con_impl_withoutKey)]
def nm0_impl_ReuseDistances : List NStep := [.own 4 .int 90000, .keep [3, 4, 14, 15, 16] [192, 90000]]
def an_impl_ReuseDistances : Ann := ⟨[], [(6, nm0_impl_ReuseDistances)], []⟩
def cs_impl_ReuseDistances : Cons := ⟨cl_impl_ReuseDistances, [], 0, [], []⟩
def can0_impl_ReuseDistances (t0 : List Int) (xt15 : Int) (xt16 : Int) (xy12 : List Int) (xrecent4 : List Int) : St := ⟨[(3, .one (.c (.ow 192))), (4, .one (.c (.ow 90000))), (14, .one (.c (.ro .int t0))), (15, .one (.c (.v (.int .i64 xt15)))), (16, .one (.c (.v (.int .i64 xt16))))], [(192, .row .int xy12), (90000, .row .int xrecent4)]⟩
def fin_impl_ReuseDistances (t0 : List Int) (kk : AV → List A1 → Prop) : Kt := fin TT con_impl_ReuseDistances Try.f29.results.toList [.c (.sl .int)] [.c (.ro .int t0)] kk
def kt0_impl_ReuseDistances (kf : Kt) : Kt := blockK 0 (seqK (evF TT cs_impl_ReuseDistances 35 an_impl_ReuseDistances Try.f29 [1, 1, 1, 1, 1]) (kf))
theorem r0_impl_ReuseDistances (t0 : List Int) (xt15 : Int) (kk : AV → List A1 → Prop) (n : Nat) (xt16 : Int) (xy12 : List Int) (xrecent4 : List Int) :
    iter (evF TT cs_impl_ReuseDistances 35 an_impl_ReuseDistances Try.f29 [1, 1, 1, 1, 0, 1, 0, 0]) nm0_impl_ReuseDistances (kt0_impl_ReuseDistances (fin_impl_ReuseDistances t0 kk)) (n + 1) (can0_impl_ReuseDistances t0 xt15 xt16 xy12 xrecent4) = T0_impl_ReuseDistances t0 xt15 xt16 xy12 xrecent4 (fun r0 => kk (.one (.c (.ro .int r0))) []) (fun xt16 xy12 xrecent4 => iter (evF TT cs_impl_ReuseDistances 35 an_impl_ReuseDistances Try.f29 [1, 1, 1, 1, 0, 1, 0, 0]) nm0_impl_ReuseDistances (kt0_impl_ReuseDistances (fin_impl_ReuseDistances t0 kk)) n (can0_impl_ReuseDistances t0 xt15 xt16 xy12 xrecent4)) := by kernel_rfl
theorem l0_impl_ReuseDistances (t0 : List Int) (xt15 : Int) (kk : AV → List A1 → Prop) : ∀ (n : Nat) (xt16 : Int) (xy12 : List Int) (xrecent4 : List Int), iter (evF TT cs_impl_ReuseDistances 35 an_impl_ReuseDistances Try.f29 [1, 1, 1, 1, 0, 1, 0, 0]) nm0_impl_ReuseDistances (kt0_impl_ReuseDistances (fin_impl_ReuseDistances t0 kk)) n (can0_impl_ReuseDistances t0 xt15 xt16 xy12 xrecent4) = L0_impl_ReuseDistances t0 xt15 (fun r0 => kk (.one (.c (.ro .int r0))) []) n xt16 xy12 xrecent4 := by
  intro n
  induction n with
  | zero => intros; rfl
  | succ n ih =>
    intro xt16 xy12 xrecent4
    rw [r0_impl_ReuseDistances t0 xt15 kk n xt16 xy12 xrecent4]
    have hb : (fun xt16 xy12 xrecent4 => iter (evF TT cs_impl_ReuseDistances 35 an_impl_ReuseDistances Try.f29 [1, 1, 1, 1, 0, 1, 0, 0]) nm0_impl_ReuseDistances (kt0_impl_ReuseDistances (fin_impl_ReuseDistances t0 kk)) n (can0_impl_ReuseDistances t0 xt15 xt16 xy12 xrecent4)) = L0_impl_ReuseDistances t0 xt15 (fun r0 => kk (.one (.c (.ro .int r0))) []) n := by
      funext xt16 xy12 xrecent4; exact ih xt16 xy12 xrecent4
    rw [hb]
    rfl
theorem g_impl_ReuseDistances (t0 : List Int) (kk : AV → List A1 → Prop) :
    ev TT cs_impl_ReuseDistances 35 an_impl_ReuseDistances (Try.f29.body.getD .skip) (st0 con_impl_ReuseDistances [.c (.ro .int t0)]) (fin TT con_impl_ReuseDistances Try.f29.results.toList [.c (.sl .int)] [.c (.ro .int t0)] kk) = G_impl_ReuseDistances t0 (fun r0 => kk (.one (.c (.ro .int r0))) []) (fun t0 xt15 xt16 xy12 xrecent4 => ∃ j, iter (evF TT cs_impl_ReuseDistances 35 an_impl_ReuseDistances Try.f29 [1, 1, 1, 1, 0, 1, 0, 0]) nm0_impl_ReuseDistances (kt0_impl_ReuseDistances (fin_impl_ReuseDistances t0 kk)) j (can0_impl_ReuseDistances t0 xt15 xt16 xy12 xrecent4)) := by kernel_rfl
theorem e_impl_ReuseDistances (t0 : List Int) (kk : AV → List A1 → Prop) :
    ev TT cs_impl_ReuseDistances 35 an_impl_ReuseDistances (Try.f29.body.getD .skip) (st0 con_impl_ReuseDistances [.c (.ro .int t0)]) (fin TT con_impl_ReuseDistances Try.f29.results.toList [.c (.sl .int)] [.c (.ro .int t0)] kk) = S_impl_ReuseDistances t0 (fun r0 => kk (.one (.c (.ro .int r0))) []) := by
  rw [g_impl_ReuseDistances]
  have hi0 : (fun t0 xt15 xt16 xy12 xrecent4 => ∃ j, iter (evF TT cs_impl_ReuseDistances 35 an_impl_ReuseDistances Try.f29 [1, 1, 1, 1, 0, 1, 0, 0]) nm0_impl_ReuseDistances (kt0_impl_ReuseDistances (fin_impl_ReuseDistances t0 kk)) j (can0_impl_ReuseDistances t0 xt15 xt16 xy12 xrecent4)) = (fun t0 xt15 xt16 xy12 xrecent4 => ∃ j, L0_impl_ReuseDistances t0 xt15 (fun r0 => kk (.one (.c (.ro .int r0))) []) j xt16 xy12 xrecent4) := by
    funext t0 xt15 xt16 xy12 xrecent4
    refine congrArg Exists (funext fun j => ?_)
    rw [l0_impl_ReuseDistances t0 xt15 kk j xt16 xy12 xrecent4]
  rw [hi0]
  rfl
theorem clok_impl_ReuseDistances : ConOK Try.prog cl_impl_ReuseDistances := consCons h_impl_ValidTrace ⟨Try.f50, Try.func50, by kernel_rfl, ne_of_beq (by kernel_rfl)⟩ (consCons h_slices_Index_sint_int ⟨Try.f68, Try.func68, by kernel_rfl, ne_of_beq (by kernel_rfl)⟩ (consCons h_impl_putFirst ⟨Try.f71, Try.func71, by kernel_rfl, ne_of_beq (by kernel_rfl)⟩ (consCons h_impl_withoutKey ⟨Try.f72, Try.func72, by kernel_rfl, ne_of_beq (by kernel_rfl)⟩ (consNil))))
theorem cok_impl_ReuseDistances : ConsOK Try.prog 35 cs_impl_ReuseDistances := ⟨clok_impl_ReuseDistances, inlNil⟩
theorem i_impl_ReuseDistances {vs : List A1} {kk : AV → List A1 → Prop} {motive : List A1 → Prop} (h : con_impl_ReuseDistances.F vs kk) (H : ∀ (t0 : List Int), F_impl_ReuseDistances t0 (fun r0 => kk (.one (.c (.ro .int r0))) []) → motive [.c (.ro .int t0)]) : motive vs := by
  unfold con_impl_ReuseDistances at h
  dsimp only at h
  split at h
  · exact H _ h
  · exact h.elim
theorem h_impl_ReuseDistances : Holds Try.prog 29 con_impl_ReuseDistances := by
  refine holds_of_ev (rt := [.c (.sl .int)]) (T := TT) (Γ := cs_impl_ReuseDistances) (an := an_impl_ReuseDistances) (N := 35) (c := Try.f29.body.getD .skip) Try.func29 (by kernel_rfl) Try.ntmps29 (by decide) (by decide) mixed tabOK cok_impl_ReuseDistances (by kernel_rfl) ?_
  intro vs kk _ hF
  exact i_impl_ReuseDistances (motive := fun vs => Goes (ev TT cs_impl_ReuseDistances 35 an_impl_ReuseDistances (Try.f29.body.getD .skip) (st0 con_impl_ReuseDistances vs) (fin TT con_impl_ReuseDistances Try.f29.results.toList [.c (.sl .int)] vs kk))) hF (fun t0 hF => goes_of (e_impl_ReuseDistances t0 kk) (F_impl_ReuseDistances_S hF))
def con_impl_HitCurve : Con := ⟨[.rd], true, [.c (.sl .int)], fun vs k => match vs with
    | [.c (.ro .int t0)] => F_impl_HitCurve t0 (fun r0 => k (.one (.c (.ro .int r0))) [])
    | _ => False, false⟩
def cl_impl_HitCurve : List (FuncId × Con) := [(29, con_impl_ReuseDistances), (50, con_impl_ValidTrace)]
def nm1_impl_HitCurve : List NStep := [.keep [3, 6, 12, 13, 14] [160, 192]]
def nm0_impl_HitCurve : List NStep := [.keep [3, 12, 13, 14] [160, 192]]
def an_impl_HitCurve : Ann := ⟨[], [(9, nm1_impl_HitCurve), (5, nm0_impl_HitCurve)], []⟩
def cs_impl_HitCurve : Cons := ⟨cl_impl_HitCurve, [], 0, [], []⟩
def can1_impl_HitCurve (reuseDistances12 : List Int) (xt13 : Int) (xt14 : Int) (xroom6 : Int) (xy10' : List Int) : St := ⟨[(3, .one (.c (.ow 160))), (6, .one (.c (.v (.int .i64 xroom6)))), (12, .one (.c (.ow 192))), (13, .one (.c (.v (.int .i64 xt13)))), (14, .one (.c (.v (.int .i64 xt14))))], [(160, .row .int xy10'), (192, .row .int reuseDistances12)]⟩
def can0_impl_HitCurve (reuseDistances12 : List Int) (xt13 : Int) (xt14 : Int) (xy10 : List Int) : St := ⟨[(3, .one (.c (.ow 160))), (12, .one (.c (.ow 192))), (13, .one (.c (.v (.int .i64 xt13)))), (14, .one (.c (.v (.int .i64 xt14))))], [(160, .row .int xy10), (192, .row .int reuseDistances12)]⟩
def fin_impl_HitCurve (t0 : List Int) (kk : AV → List A1 → Prop) : Kt := fin TT con_impl_HitCurve Try.f33.results.toList [.c (.sl .int)] [.c (.ro .int t0)] kk
def kt1_impl_HitCurve (kf : Kt) (b0 : St → Prop) : Kt := blockK 2 (blockK 1 (seqK (evF TT cs_impl_HitCurve 34 an_impl_HitCurve Try.f33 [1, 1, 1, 0, 1, 0, 0, 1, 1, 1]) (backK nm0_impl_HitCurve b0 (blockK 0 (seqK (evF TT cs_impl_HitCurve 34 an_impl_HitCurve Try.f33 [1, 1, 1, 1]) (kf))))))
def kt0_impl_HitCurve (kf : Kt) : Kt := blockK 0 (seqK (evF TT cs_impl_HitCurve 34 an_impl_HitCurve Try.f33 [1, 1, 1, 1]) (kf))
theorem r1_impl_HitCurve (t0 : List Int) (reuseDistances12 : List Int) (xt13 : Int) (xt14 : Int) (kk : AV → List A1 → Prop) (b0 : St → Prop) (n : Nat) (xroom6 : Int) (xy10' : List Int) :
    iter (evF TT cs_impl_HitCurve 34 an_impl_HitCurve Try.f33 [1, 1, 1, 0, 1, 0, 0, 1, 1, 0, 0, 1, 1, 1, 0, 0]) nm1_impl_HitCurve (kt1_impl_HitCurve (fin_impl_HitCurve t0 kk) b0) (n + 1) (can1_impl_HitCurve reuseDistances12 xt13 xt14 xroom6 xy10') = T1_impl_HitCurve reuseDistances12 xt13 xt14 xroom6 xy10' (fun xt14 xy10 => b0 (can0_impl_HitCurve reuseDistances12 xt13 xt14 xy10)) (fun xroom6 xy10' => iter (evF TT cs_impl_HitCurve 34 an_impl_HitCurve Try.f33 [1, 1, 1, 0, 1, 0, 0, 1, 1, 0, 0, 1, 1, 1, 0, 0]) nm1_impl_HitCurve (kt1_impl_HitCurve (fin_impl_HitCurve t0 kk) b0) n (can1_impl_HitCurve reuseDistances12 xt13 xt14 xroom6 xy10')) := by kernel_rfl
theorem l1_impl_HitCurve (t0 : List Int) (reuseDistances12 : List Int) (xt13 : Int) (xt14 : Int) (kk : AV → List A1 → Prop) (b0 : St → Prop) : ∀ (n : Nat) (xroom6 : Int) (xy10' : List Int), iter (evF TT cs_impl_HitCurve 34 an_impl_HitCurve Try.f33 [1, 1, 1, 0, 1, 0, 0, 1, 1, 0, 0, 1, 1, 1, 0, 0]) nm1_impl_HitCurve (kt1_impl_HitCurve (fin_impl_HitCurve t0 kk) b0) n (can1_impl_HitCurve reuseDistances12 xt13 xt14 xroom6 xy10') = L1_impl_HitCurve reuseDistances12 xt13 xt14 (fun r0 => kk (.one (.c (.ro .int r0))) []) (fun xt14 xy10 => b0 (can0_impl_HitCurve reuseDistances12 xt13 xt14 xy10)) n xroom6 xy10' := by
  intro n
  induction n with
  | zero => intros; rfl
  | succ n ih =>
    intro xroom6 xy10'
    rw [r1_impl_HitCurve t0 reuseDistances12 xt13 xt14 kk b0 n xroom6 xy10']
    have hb : (fun xroom6 xy10' => iter (evF TT cs_impl_HitCurve 34 an_impl_HitCurve Try.f33 [1, 1, 1, 0, 1, 0, 0, 1, 1, 0, 0, 1, 1, 1, 0, 0]) nm1_impl_HitCurve (kt1_impl_HitCurve (fin_impl_HitCurve t0 kk) b0) n (can1_impl_HitCurve reuseDistances12 xt13 xt14 xroom6 xy10')) = L1_impl_HitCurve reuseDistances12 xt13 xt14 (fun r0 => kk (.one (.c (.ro .int r0))) []) (fun xt14 xy10 => b0 (can0_impl_HitCurve reuseDistances12 xt13 xt14 xy10)) n := by
      funext xroom6 xy10'; exact ih xroom6 xy10'
    rw [hb]
    rfl
theorem r0_impl_HitCurve (t0 : List Int) (reuseDistances12 : List Int) (xt13 : Int) (kk : AV → List A1 → Prop) (n : Nat) (xt14 : Int) (xy10 : List Int) :
    iter (evF TT cs_impl_HitCurve 34 an_impl_HitCurve Try.f33 [1, 1, 1, 0, 1, 0, 0]) nm0_impl_HitCurve (kt0_impl_HitCurve (fin_impl_HitCurve t0 kk)) (n + 1) (can0_impl_HitCurve reuseDistances12 xt13 xt14 xy10) = T0_impl_HitCurve reuseDistances12 xt13 xt14 xy10 (fun r0 => kk (.one (.c (.ro .int r0))) []) (fun xt14 xy10 => iter (evF TT cs_impl_HitCurve 34 an_impl_HitCurve Try.f33 [1, 1, 1, 0, 1, 0, 0]) nm0_impl_HitCurve (kt0_impl_HitCurve (fin_impl_HitCurve t0 kk)) n (can0_impl_HitCurve reuseDistances12 xt13 xt14 xy10)) (fun reuseDistances12 xt13 xt14 xroom6 xy10' => ∃ j, iter (evF TT cs_impl_HitCurve 34 an_impl_HitCurve Try.f33 [1, 1, 1, 0, 1, 0, 0, 1, 1, 0, 0, 1, 1, 1, 0, 0]) nm1_impl_HitCurve (kt1_impl_HitCurve (fin_impl_HitCurve t0 kk) (iter (evF TT cs_impl_HitCurve 34 an_impl_HitCurve Try.f33 [1, 1, 1, 0, 1, 0, 0]) nm0_impl_HitCurve (kt0_impl_HitCurve (fin_impl_HitCurve t0 kk)) n)) j (can1_impl_HitCurve reuseDistances12 xt13 xt14 xroom6 xy10')) := by kernel_rfl
theorem l0_impl_HitCurve (t0 : List Int) (reuseDistances12 : List Int) (xt13 : Int) (kk : AV → List A1 → Prop) : ∀ (n : Nat) (xt14 : Int) (xy10 : List Int), iter (evF TT cs_impl_HitCurve 34 an_impl_HitCurve Try.f33 [1, 1, 1, 0, 1, 0, 0]) nm0_impl_HitCurve (kt0_impl_HitCurve (fin_impl_HitCurve t0 kk)) n (can0_impl_HitCurve reuseDistances12 xt13 xt14 xy10) = L0_impl_HitCurve reuseDistances12 xt13 (fun r0 => kk (.one (.c (.ro .int r0))) []) n xt14 xy10 := by
  intro n
  induction n generalizing t0 reuseDistances12 xt13 with
  | zero => intros; rfl
  | succ n ih =>
    intro xt14 xy10
    rw [r0_impl_HitCurve t0 reuseDistances12 xt13 kk n xt14 xy10]
    have hb : ∀ (t0 : List Int) (reuseDistances12 : List Int) (xt13 : Int), (fun xt14 xy10 => iter (evF TT cs_impl_HitCurve 34 an_impl_HitCurve Try.f33 [1, 1, 1, 0, 1, 0, 0]) nm0_impl_HitCurve (kt0_impl_HitCurve (fin_impl_HitCurve t0 kk)) n (can0_impl_HitCurve reuseDistances12 xt13 xt14 xy10)) = L0_impl_HitCurve reuseDistances12 xt13 (fun r0 => kk (.one (.c (.ro .int r0))) []) n := by
      intro t0 reuseDistances12 xt13
      funext xt14 xy10; exact ih t0 reuseDistances12 xt13 xt14 xy10
    have hi1 : (fun reuseDistances12 xt13 xt14 xroom6 xy10' => ∃ j, iter (evF TT cs_impl_HitCurve 34 an_impl_HitCurve Try.f33 [1, 1, 1, 0, 1, 0, 0, 1, 1, 0, 0, 1, 1, 1, 0, 0]) nm1_impl_HitCurve (kt1_impl_HitCurve (fin_impl_HitCurve t0 kk) (iter (evF TT cs_impl_HitCurve 34 an_impl_HitCurve Try.f33 [1, 1, 1, 0, 1, 0, 0]) nm0_impl_HitCurve (kt0_impl_HitCurve (fin_impl_HitCurve t0 kk)) n)) j (can1_impl_HitCurve reuseDistances12 xt13 xt14 xroom6 xy10')) = (fun reuseDistances12 xt13 xt14 xroom6 xy10' => ∃ j, L1_impl_HitCurve reuseDistances12 xt13 xt14 (fun r0 => kk (.one (.c (.ro .int r0))) []) (L0_impl_HitCurve reuseDistances12 xt13 (fun r0 => kk (.one (.c (.ro .int r0))) []) n) j xroom6 xy10') := by
      funext reuseDistances12 xt13 xt14 xroom6 xy10'
      refine congrArg Exists (funext fun j => ?_)
      rw [l1_impl_HitCurve t0 reuseDistances12 xt13 xt14 kk (iter (evF TT cs_impl_HitCurve 34 an_impl_HitCurve Try.f33 [1, 1, 1, 0, 1, 0, 0]) nm0_impl_HitCurve (kt0_impl_HitCurve (fin_impl_HitCurve t0 kk)) n) j xroom6 xy10']
      rw [hb]
    rw [hb, hi1]
    rfl
theorem g_impl_HitCurve (t0 : List Int) (kk : AV → List A1 → Prop) :
    ev TT cs_impl_HitCurve 34 an_impl_HitCurve (Try.f33.body.getD .skip) (st0 con_impl_HitCurve [.c (.ro .int t0)]) (fin TT con_impl_HitCurve Try.f33.results.toList [.c (.sl .int)] [.c (.ro .int t0)] kk) = G_impl_HitCurve t0 (fun r0 => kk (.one (.c (.ro .int r0))) []) (fun reuseDistances12 xt13 xt14 xy10 => ∃ j, iter (evF TT cs_impl_HitCurve 34 an_impl_HitCurve Try.f33 [1, 1, 1, 0, 1, 0, 0]) nm0_impl_HitCurve (kt0_impl_HitCurve (fin_impl_HitCurve t0 kk)) j (can0_impl_HitCurve reuseDistances12 xt13 xt14 xy10)) := by kernel_rfl
theorem e_impl_HitCurve (t0 : List Int) (kk : AV → List A1 → Prop) :
    ev TT cs_impl_HitCurve 34 an_impl_HitCurve (Try.f33.body.getD .skip) (st0 con_impl_HitCurve [.c (.ro .int t0)]) (fin TT con_impl_HitCurve Try.f33.results.toList [.c (.sl .int)] [.c (.ro .int t0)] kk) = S_impl_HitCurve t0 (fun r0 => kk (.one (.c (.ro .int r0))) []) := by
  rw [g_impl_HitCurve]
  have hi0 : (fun reuseDistances12 xt13 xt14 xy10 => ∃ j, iter (evF TT cs_impl_HitCurve 34 an_impl_HitCurve Try.f33 [1, 1, 1, 0, 1, 0, 0]) nm0_impl_HitCurve (kt0_impl_HitCurve (fin_impl_HitCurve t0 kk)) j (can0_impl_HitCurve reuseDistances12 xt13 xt14 xy10)) = (fun reuseDistances12 xt13 xt14 xy10 => ∃ j, L0_impl_HitCurve reuseDistances12 xt13 (fun r0 => kk (.one (.c (.ro .int r0))) []) j xt14 xy10) := by
    funext reuseDistances12 xt13 xt14 xy10
    refine congrArg Exists (funext fun j => ?_)
    rw [l0_impl_HitCurve t0 reuseDistances12 xt13 kk j xt14 xy10]
  rw [hi0]
  rfl
theorem clok_impl_HitCurve : ConOK Try.prog cl_impl_HitCurve := consCons h_impl_ReuseDistances ⟨Try.f29, Try.func29, by kernel_rfl, ne_of_beq (by kernel_rfl)⟩ (consCons h_impl_ValidTrace ⟨Try.f50, Try.func50, by kernel_rfl, ne_of_beq (by kernel_rfl)⟩ (consNil))
theorem cok_impl_HitCurve : ConsOK Try.prog 34 cs_impl_HitCurve := ⟨clok_impl_HitCurve, inlNil⟩
theorem i_impl_HitCurve {vs : List A1} {kk : AV → List A1 → Prop} {motive : List A1 → Prop} (h : con_impl_HitCurve.F vs kk) (H : ∀ (t0 : List Int), F_impl_HitCurve t0 (fun r0 => kk (.one (.c (.ro .int r0))) []) → motive [.c (.ro .int t0)]) : motive vs := by
  unfold con_impl_HitCurve at h
  dsimp only at h
  split at h
  · exact H _ h
  · exact h.elim
theorem h_impl_HitCurve : Holds Try.prog 33 con_impl_HitCurve := by
  refine holds_of_ev (rt := [.c (.sl .int)]) (T := TT) (Γ := cs_impl_HitCurve) (an := an_impl_HitCurve) (N := 34) (c := Try.f33.body.getD .skip) Try.func33 (by kernel_rfl) Try.ntmps33 (by decide) (by decide) mixed tabOK cok_impl_HitCurve (by kernel_rfl) ?_
  intro vs kk _ hF
  exact i_impl_HitCurve (motive := fun vs => Goes (ev TT cs_impl_HitCurve 34 an_impl_HitCurve (Try.f33.body.getD .skip) (st0 con_impl_HitCurve vs) (fin TT con_impl_HitCurve Try.f33.results.toList [.c (.sl .int)] vs kk))) hF (fun t0 hF => goes_of (e_impl_HitCurve t0 kk) (F_impl_HitCurve_S hF))
def con_impl_RoomFor : Con := ⟨[.rd, .rd], true, [.c (.sl .int), .c (.sc)], fun vs k => match vs with
    | [.c (.ro .int t0), .c (.v (.int .i64 hits1))] => F_impl_RoomFor t0 hits1 (fun r0 => k (.one (.c (.v (.int .i64 r0)))) [])
    | _ => False, false⟩
def cl_impl_RoomFor : List (FuncId × Con) := [(33, con_impl_HitCurve), (50, con_impl_ValidTrace)]
def nm0_impl_RoomFor : List NStep := [.keep [1, 15, 16, 17] [240]]
def an_impl_RoomFor : Ann := ⟨[], [(4, nm0_impl_RoomFor)], []⟩
def cs_impl_RoomFor : Cons := ⟨cl_impl_RoomFor, [], 0, [], []⟩
def can0_impl_RoomFor (hitCurve15 : List Int) (hits1 : Int) (xt16 : Int) (xt17 : Int) : St := ⟨[(1, .one (.c (.v (.int .i64 hits1)))), (15, .one (.c (.ow 240))), (16, .one (.c (.v (.int .i64 xt16)))), (17, .one (.c (.v (.int .i64 xt17))))], [(240, .row .int hitCurve15)]⟩
def fin_impl_RoomFor (t0 : List Int) (hits1 : Int) (kk : AV → List A1 → Prop) : Kt := fin TT con_impl_RoomFor Try.f36.results.toList [.c .sc] [.c (.ro .int t0), .c (.v (.int .i64 hits1))] kk
def kt0_impl_RoomFor (kf : Kt) : Kt := blockK 0 (seqK (evF TT cs_impl_RoomFor 28 an_impl_RoomFor Try.f36 [1, 1, 1]) (kf))
theorem r0_impl_RoomFor (t0 : List Int) (hits1 : Int) (hitCurve15 : List Int) (xt16 : Int) (kk : AV → List A1 → Prop) (n : Nat) (xt17 : Int) :
    iter (evF TT cs_impl_RoomFor 28 an_impl_RoomFor Try.f36 [1, 1, 0, 1, 0, 0]) nm0_impl_RoomFor (kt0_impl_RoomFor (fin_impl_RoomFor t0 hits1 kk)) (n + 1) (can0_impl_RoomFor hitCurve15 hits1 xt16 xt17) = T0_impl_RoomFor hitCurve15 hits1 xt16 xt17 (fun r0 => kk (.one (.c (.v (.int .i64 r0)))) []) (fun xt17 => iter (evF TT cs_impl_RoomFor 28 an_impl_RoomFor Try.f36 [1, 1, 0, 1, 0, 0]) nm0_impl_RoomFor (kt0_impl_RoomFor (fin_impl_RoomFor t0 hits1 kk)) n (can0_impl_RoomFor hitCurve15 hits1 xt16 xt17)) := by kernel_rfl
theorem l0_impl_RoomFor (t0 : List Int) (hits1 : Int) (hitCurve15 : List Int) (xt16 : Int) (kk : AV → List A1 → Prop) : ∀ (n : Nat) (xt17 : Int), iter (evF TT cs_impl_RoomFor 28 an_impl_RoomFor Try.f36 [1, 1, 0, 1, 0, 0]) nm0_impl_RoomFor (kt0_impl_RoomFor (fin_impl_RoomFor t0 hits1 kk)) n (can0_impl_RoomFor hitCurve15 hits1 xt16 xt17) = L0_impl_RoomFor hitCurve15 hits1 xt16 (fun r0 => kk (.one (.c (.v (.int .i64 r0)))) []) n xt17 := by
  intro n
  induction n with
  | zero => intros; rfl
  | succ n ih =>
    intro xt17
    rw [r0_impl_RoomFor t0 hits1 hitCurve15 xt16 kk n xt17]
    have hb : (fun xt17 => iter (evF TT cs_impl_RoomFor 28 an_impl_RoomFor Try.f36 [1, 1, 0, 1, 0, 0]) nm0_impl_RoomFor (kt0_impl_RoomFor (fin_impl_RoomFor t0 hits1 kk)) n (can0_impl_RoomFor hitCurve15 hits1 xt16 xt17)) = L0_impl_RoomFor hitCurve15 hits1 xt16 (fun r0 => kk (.one (.c (.v (.int .i64 r0)))) []) n := by
      funext xt17; exact ih xt17
    rw [hb]
    rfl
theorem g_impl_RoomFor (t0 : List Int) (hits1 : Int) (kk : AV → List A1 → Prop) :
    ev TT cs_impl_RoomFor 28 an_impl_RoomFor (Try.f36.body.getD .skip) (st0 con_impl_RoomFor [.c (.ro .int t0), .c (.v (.int .i64 hits1))]) (fin TT con_impl_RoomFor Try.f36.results.toList [.c .sc] [.c (.ro .int t0), .c (.v (.int .i64 hits1))] kk) = G_impl_RoomFor t0 hits1 (fun r0 => kk (.one (.c (.v (.int .i64 r0)))) []) (fun hitCurve15 hits1 xt16 xt17 => ∃ j, iter (evF TT cs_impl_RoomFor 28 an_impl_RoomFor Try.f36 [1, 1, 0, 1, 0, 0]) nm0_impl_RoomFor (kt0_impl_RoomFor (fin_impl_RoomFor t0 hits1 kk)) j (can0_impl_RoomFor hitCurve15 hits1 xt16 xt17)) := by kernel_rfl
theorem e_impl_RoomFor (t0 : List Int) (hits1 : Int) (kk : AV → List A1 → Prop) :
    ev TT cs_impl_RoomFor 28 an_impl_RoomFor (Try.f36.body.getD .skip) (st0 con_impl_RoomFor [.c (.ro .int t0), .c (.v (.int .i64 hits1))]) (fin TT con_impl_RoomFor Try.f36.results.toList [.c .sc] [.c (.ro .int t0), .c (.v (.int .i64 hits1))] kk) = S_impl_RoomFor t0 hits1 (fun r0 => kk (.one (.c (.v (.int .i64 r0)))) []) := by
  rw [g_impl_RoomFor]
  have hi0 : (fun hitCurve15 hits1 xt16 xt17 => ∃ j, iter (evF TT cs_impl_RoomFor 28 an_impl_RoomFor Try.f36 [1, 1, 0, 1, 0, 0]) nm0_impl_RoomFor (kt0_impl_RoomFor (fin_impl_RoomFor t0 hits1 kk)) j (can0_impl_RoomFor hitCurve15 hits1 xt16 xt17)) = (fun hitCurve15 hits1 xt16 xt17 => ∃ j, L0_impl_RoomFor hitCurve15 hits1 xt16 (fun r0 => kk (.one (.c (.v (.int .i64 r0)))) []) j xt17) := by
    funext hitCurve15 hits1 xt16 xt17
    refine congrArg Exists (funext fun j => ?_)
    rw [l0_impl_RoomFor t0 hits1 hitCurve15 xt16 kk j xt17]
  rw [hi0]
  rfl
theorem clok_impl_RoomFor : ConOK Try.prog cl_impl_RoomFor := consCons h_impl_HitCurve ⟨Try.f33, Try.func33, by kernel_rfl, ne_of_beq (by kernel_rfl)⟩ (consCons h_impl_ValidTrace ⟨Try.f50, Try.func50, by kernel_rfl, ne_of_beq (by kernel_rfl)⟩ (consNil))
theorem cok_impl_RoomFor : ConsOK Try.prog 28 cs_impl_RoomFor := ⟨clok_impl_RoomFor, inlNil⟩
theorem i_impl_RoomFor {vs : List A1} {kk : AV → List A1 → Prop} {motive : List A1 → Prop} (h : con_impl_RoomFor.F vs kk) (H : ∀ (t0 : List Int) (hits1 : Int), F_impl_RoomFor t0 hits1 (fun r0 => kk (.one (.c (.v (.int .i64 r0)))) []) → motive [.c (.ro .int t0), .c (.v (.int .i64 hits1))]) : motive vs := by
  unfold con_impl_RoomFor at h
  dsimp only at h
  split at h
  · exact H _ _ h
  · exact h.elim
theorem h_impl_RoomFor : Holds Try.prog 36 con_impl_RoomFor := by
  refine holds_of_ev (rt := [.c .sc]) (T := TT) (Γ := cs_impl_RoomFor) (an := an_impl_RoomFor) (N := 28) (c := Try.f36.body.getD .skip) Try.func36 (by kernel_rfl) Try.ntmps36 (by decide) (by decide) mixed tabOK cok_impl_RoomFor (by kernel_rfl) ?_
  intro vs kk _ hF
  exact i_impl_RoomFor (motive := fun vs => Goes (ev TT cs_impl_RoomFor 28 an_impl_RoomFor (Try.f36.body.getD .skip) (st0 con_impl_RoomFor vs) (fin TT con_impl_RoomFor Try.f36.results.toList [.c .sc] vs kk))) hF (fun t0 hits1 hF => goes_of (e_impl_RoomFor t0 hits1 kk) (F_impl_RoomFor_S hF))
def con_spec_inRange : Con := ⟨[.rd, .rd, .rd], true, [.c (.sc), .c (.sc), .c (.sc)], fun vs k => match vs with
    | [.c (.v (.int .i64 n0)), .c (.v (.int .i64 low1)), .c (.v (.int .i64 high2))] => F_spec_inRange n0 low1 high2 (fun r0 => k (.one (.c (.v (.bool r0)))) [])
    | _ => False, false⟩
def cl_spec_inRange : List (FuncId × Con) := []
def an_spec_inRange : Ann := ⟨[], [], []⟩
def cs_spec_inRange : Cons := ⟨cl_spec_inRange, [], 0, [], []⟩
def fin_spec_inRange (n0 : Int) (low1 : Int) (high2 : Int) (kk : AV → List A1 → Prop) : Kt := fin TT con_spec_inRange Try.f55.results.toList [.c .sc] [.c (.v (.int .i64 n0)), .c (.v (.int .i64 low1)), .c (.v (.int .i64 high2))] kk
theorem g_spec_inRange (n0 : Int) (low1 : Int) (high2 : Int) (kk : AV → List A1 → Prop) :
    ev TT cs_spec_inRange 15 an_spec_inRange (Try.f55.body.getD .skip) (st0 con_spec_inRange [.c (.v (.int .i64 n0)), .c (.v (.int .i64 low1)), .c (.v (.int .i64 high2))]) (fin TT con_spec_inRange Try.f55.results.toList [.c .sc] [.c (.v (.int .i64 n0)), .c (.v (.int .i64 low1)), .c (.v (.int .i64 high2))] kk) = G_spec_inRange n0 low1 high2 (fun r0 => kk (.one (.c (.v (.bool r0)))) []) := by kernel_rfl
theorem e_spec_inRange (n0 : Int) (low1 : Int) (high2 : Int) (kk : AV → List A1 → Prop) :
    ev TT cs_spec_inRange 15 an_spec_inRange (Try.f55.body.getD .skip) (st0 con_spec_inRange [.c (.v (.int .i64 n0)), .c (.v (.int .i64 low1)), .c (.v (.int .i64 high2))]) (fin TT con_spec_inRange Try.f55.results.toList [.c .sc] [.c (.v (.int .i64 n0)), .c (.v (.int .i64 low1)), .c (.v (.int .i64 high2))] kk) = S_spec_inRange n0 low1 high2 (fun r0 => kk (.one (.c (.v (.bool r0)))) []) := by
  rw [g_spec_inRange]
  rfl
theorem clok_spec_inRange : ConOK Try.prog cl_spec_inRange := consNil
theorem cok_spec_inRange : ConsOK Try.prog 15 cs_spec_inRange := ⟨clok_spec_inRange, inlNil⟩
theorem i_spec_inRange {vs : List A1} {kk : AV → List A1 → Prop} {motive : List A1 → Prop} (h : con_spec_inRange.F vs kk) (H : ∀ (n0 : Int) (low1 : Int) (high2 : Int), F_spec_inRange n0 low1 high2 (fun r0 => kk (.one (.c (.v (.bool r0)))) []) → motive [.c (.v (.int .i64 n0)), .c (.v (.int .i64 low1)), .c (.v (.int .i64 high2))]) : motive vs := by
  unfold con_spec_inRange at h
  dsimp only at h
  split at h
  · exact H _ _ _ h
  · exact h.elim
theorem h_spec_inRange : Holds Try.prog 55 con_spec_inRange := by
  refine holds_of_ev (rt := [.c .sc]) (T := TT) (Γ := cs_spec_inRange) (an := an_spec_inRange) (N := 15) (c := Try.f55.body.getD .skip) Try.func55 (by kernel_rfl) Try.ntmps55 (by decide) (by decide) mixed tabOK cok_spec_inRange (by kernel_rfl) ?_
  intro vs kk _ hF
  exact i_spec_inRange (motive := fun vs => Goes (ev TT cs_spec_inRange 15 an_spec_inRange (Try.f55.body.getD .skip) (st0 con_spec_inRange vs) (fin TT con_spec_inRange Try.f55.results.toList [.c .sc] vs kk))) hF (fun n0 low1 high2 hF => goes_of (e_spec_inRange n0 low1 high2 kk) (F_spec_inRange_S hF))
def con_spec_allIn : Con := ⟨[.rd, .rd, .rd], true, [.c (.sl .int), .c (.sc), .c (.sc)], fun vs k => match vs with
    | [.c (.ro .int list0), .c (.v (.int .i64 low1)), .c (.v (.int .i64 high2))] => F_spec_allIn list0 low1 high2 (fun r0 => k (.one (.c (.v (.bool r0)))) [])
    | _ => False, false⟩
def cl_spec_allIn : List (FuncId × Con) := [(55, con_spec_inRange)]
def nm0_spec_allIn : List NStep := [.keep [0, 1, 2, 7] []]
def an_spec_allIn : Ann := ⟨[], [(2, nm0_spec_allIn)], []⟩
def cs_spec_allIn : Cons := ⟨cl_spec_allIn, [], 0, [], []⟩
def can0_spec_allIn (high2 : Int) (list0 : List Int) (low1 : Int) (xi7 : Int) : St := ⟨[(0, .one (.c (.ro .int list0))), (1, .one (.c (.v (.int .i64 low1)))), (2, .one (.c (.v (.int .i64 high2)))), (7, .one (.c (.v (.int .i64 xi7))))], []⟩
def fin_spec_allIn (list0 : List Int) (low1 : Int) (high2 : Int) (kk : AV → List A1 → Prop) : Kt := fin TT con_spec_allIn Try.f83.results.toList [.c .sc] [.c (.ro .int list0), .c (.v (.int .i64 low1)), .c (.v (.int .i64 high2))] kk
def kt0_spec_allIn (kf : Kt) : Kt := blockK 0 (seqK (evF TT cs_spec_allIn 22 an_spec_allIn Try.f83 [1, 1]) (kf))
theorem r0_spec_allIn (list0 : List Int) (low1 : Int) (high2 : Int) (kk : AV → List A1 → Prop) (n : Nat) (xi7 : Int) :
    iter (evF TT cs_spec_allIn 22 an_spec_allIn Try.f83 [1, 0, 1, 0, 0]) nm0_spec_allIn (kt0_spec_allIn (fin_spec_allIn list0 low1 high2 kk)) (n + 1) (can0_spec_allIn high2 list0 low1 xi7) = T0_spec_allIn high2 list0 low1 xi7 (fun r0 => kk (.one (.c (.v (.bool r0)))) []) (fun xi7 => iter (evF TT cs_spec_allIn 22 an_spec_allIn Try.f83 [1, 0, 1, 0, 0]) nm0_spec_allIn (kt0_spec_allIn (fin_spec_allIn list0 low1 high2 kk)) n (can0_spec_allIn high2 list0 low1 xi7)) := by kernel_rfl
theorem l0_spec_allIn (list0 : List Int) (low1 : Int) (high2 : Int) (kk : AV → List A1 → Prop) : ∀ (n : Nat) (xi7 : Int), iter (evF TT cs_spec_allIn 22 an_spec_allIn Try.f83 [1, 0, 1, 0, 0]) nm0_spec_allIn (kt0_spec_allIn (fin_spec_allIn list0 low1 high2 kk)) n (can0_spec_allIn high2 list0 low1 xi7) = L0_spec_allIn high2 list0 low1 (fun r0 => kk (.one (.c (.v (.bool r0)))) []) n xi7 := by
  intro n
  induction n with
  | zero => intros; rfl
  | succ n ih =>
    intro xi7
    rw [r0_spec_allIn list0 low1 high2 kk n xi7]
    have hb : (fun xi7 => iter (evF TT cs_spec_allIn 22 an_spec_allIn Try.f83 [1, 0, 1, 0, 0]) nm0_spec_allIn (kt0_spec_allIn (fin_spec_allIn list0 low1 high2 kk)) n (can0_spec_allIn high2 list0 low1 xi7)) = L0_spec_allIn high2 list0 low1 (fun r0 => kk (.one (.c (.v (.bool r0)))) []) n := by
      funext xi7; exact ih xi7
    rw [hb]
    rfl
theorem g_spec_allIn (list0 : List Int) (low1 : Int) (high2 : Int) (kk : AV → List A1 → Prop) :
    ev TT cs_spec_allIn 22 an_spec_allIn (Try.f83.body.getD .skip) (st0 con_spec_allIn [.c (.ro .int list0), .c (.v (.int .i64 low1)), .c (.v (.int .i64 high2))]) (fin TT con_spec_allIn Try.f83.results.toList [.c .sc] [.c (.ro .int list0), .c (.v (.int .i64 low1)), .c (.v (.int .i64 high2))] kk) = G_spec_allIn list0 low1 high2 (fun high2 list0 low1 xi7 => ∃ j, iter (evF TT cs_spec_allIn 22 an_spec_allIn Try.f83 [1, 0, 1, 0, 0]) nm0_spec_allIn (kt0_spec_allIn (fin_spec_allIn list0 low1 high2 kk)) j (can0_spec_allIn high2 list0 low1 xi7)) := by kernel_rfl
theorem e_spec_allIn (list0 : List Int) (low1 : Int) (high2 : Int) (kk : AV → List A1 → Prop) :
    ev TT cs_spec_allIn 22 an_spec_allIn (Try.f83.body.getD .skip) (st0 con_spec_allIn [.c (.ro .int list0), .c (.v (.int .i64 low1)), .c (.v (.int .i64 high2))]) (fin TT con_spec_allIn Try.f83.results.toList [.c .sc] [.c (.ro .int list0), .c (.v (.int .i64 low1)), .c (.v (.int .i64 high2))] kk) = S_spec_allIn list0 low1 high2 (fun r0 => kk (.one (.c (.v (.bool r0)))) []) := by
  rw [g_spec_allIn]
  have hi0 : (fun high2 list0 low1 xi7 => ∃ j, iter (evF TT cs_spec_allIn 22 an_spec_allIn Try.f83 [1, 0, 1, 0, 0]) nm0_spec_allIn (kt0_spec_allIn (fin_spec_allIn list0 low1 high2 kk)) j (can0_spec_allIn high2 list0 low1 xi7)) = (fun high2 list0 low1 xi7 => ∃ j, L0_spec_allIn high2 list0 low1 (fun r0 => kk (.one (.c (.v (.bool r0)))) []) j xi7) := by
    funext high2 list0 low1 xi7
    refine congrArg Exists (funext fun j => ?_)
    rw [l0_spec_allIn list0 low1 high2 kk j xi7]
  rw [hi0]
  rfl
theorem clok_spec_allIn : ConOK Try.prog cl_spec_allIn := consCons h_spec_inRange ⟨Try.f55, Try.func55, by kernel_rfl, ne_of_beq (by kernel_rfl)⟩ (consNil)
theorem cok_spec_allIn : ConsOK Try.prog 22 cs_spec_allIn := ⟨clok_spec_allIn, inlNil⟩
theorem i_spec_allIn {vs : List A1} {kk : AV → List A1 → Prop} {motive : List A1 → Prop} (h : con_spec_allIn.F vs kk) (H : ∀ (list0 : List Int) (low1 : Int) (high2 : Int), F_spec_allIn list0 low1 high2 (fun r0 => kk (.one (.c (.v (.bool r0)))) []) → motive [.c (.ro .int list0), .c (.v (.int .i64 low1)), .c (.v (.int .i64 high2))]) : motive vs := by
  unfold con_spec_allIn at h
  dsimp only at h
  split at h
  · exact H _ _ _ h
  · exact h.elim
theorem h_spec_allIn : Holds Try.prog 83 con_spec_allIn := by
  refine holds_of_ev (rt := [.c .sc]) (T := TT) (Γ := cs_spec_allIn) (an := an_spec_allIn) (N := 22) (c := Try.f83.body.getD .skip) Try.func83 (by kernel_rfl) Try.ntmps83 (by decide) (by decide) mixed tabOK cok_spec_allIn (by kernel_rfl) ?_
  intro vs kk _ hF
  exact i_spec_allIn (motive := fun vs => Goes (ev TT cs_spec_allIn 22 an_spec_allIn (Try.f83.body.getD .skip) (st0 con_spec_allIn vs) (fin TT con_spec_allIn Try.f83.results.toList [.c .sc] vs kk))) hF (fun list0 low1 high2 hF => goes_of (e_spec_allIn list0 low1 high2 kk) (F_spec_allIn_S hF))
def con_spec_validTrace : Con := ⟨[.rd], true, [.c (.sl .int)], fun vs k => match vs with
    | [.c (.ro .int t0)] => F_spec_validTrace t0 (fun r0 => k (.one (.c (.v (.bool r0)))) [])
    | _ => False, false⟩
def cl_spec_validTrace : List (FuncId × Con) := [(83, con_spec_allIn)]
def an_spec_validTrace : Ann := ⟨[], [], []⟩
def cs_spec_validTrace : Cons := ⟨cl_spec_validTrace, [], 0, [], []⟩
def fin_spec_validTrace (t0 : List Int) (kk : AV → List A1 → Prop) : Kt := fin TT con_spec_validTrace Try.f54.results.toList [.c .sc] [.c (.ro .int t0)] kk
theorem g_spec_validTrace (t0 : List Int) (kk : AV → List A1 → Prop) :
    ev TT cs_spec_validTrace 10 an_spec_validTrace (Try.f54.body.getD .skip) (st0 con_spec_validTrace [.c (.ro .int t0)]) (fin TT con_spec_validTrace Try.f54.results.toList [.c .sc] [.c (.ro .int t0)] kk) = G_spec_validTrace t0 (fun r0 => kk (.one (.c (.v (.bool r0)))) []) := by kernel_rfl
theorem e_spec_validTrace (t0 : List Int) (kk : AV → List A1 → Prop) :
    ev TT cs_spec_validTrace 10 an_spec_validTrace (Try.f54.body.getD .skip) (st0 con_spec_validTrace [.c (.ro .int t0)]) (fin TT con_spec_validTrace Try.f54.results.toList [.c .sc] [.c (.ro .int t0)] kk) = S_spec_validTrace t0 (fun r0 => kk (.one (.c (.v (.bool r0)))) []) := by
  rw [g_spec_validTrace]
  rfl
theorem clok_spec_validTrace : ConOK Try.prog cl_spec_validTrace := consCons h_spec_allIn ⟨Try.f83, Try.func83, by kernel_rfl, ne_of_beq (by kernel_rfl)⟩ (consNil)
theorem cok_spec_validTrace : ConsOK Try.prog 10 cs_spec_validTrace := ⟨clok_spec_validTrace, inlNil⟩
theorem i_spec_validTrace {vs : List A1} {kk : AV → List A1 → Prop} {motive : List A1 → Prop} (h : con_spec_validTrace.F vs kk) (H : ∀ (t0 : List Int), F_spec_validTrace t0 (fun r0 => kk (.one (.c (.v (.bool r0)))) []) → motive [.c (.ro .int t0)]) : motive vs := by
  unfold con_spec_validTrace at h
  dsimp only at h
  split at h
  · exact H _ h
  · exact h.elim
theorem h_spec_validTrace : Holds Try.prog 54 con_spec_validTrace := by
  refine holds_of_ev (rt := [.c .sc]) (T := TT) (Γ := cs_spec_validTrace) (an := an_spec_validTrace) (N := 10) (c := Try.f54.body.getD .skip) Try.func54 (by kernel_rfl) Try.ntmps54 (by decide) (by decide) mixed tabOK cok_spec_validTrace (by kernel_rfl) ?_
  intro vs kk _ hF
  exact i_spec_validTrace (motive := fun vs => Goes (ev TT cs_spec_validTrace 10 an_spec_validTrace (Try.f54.body.getD .skip) (st0 con_spec_validTrace vs) (fin TT con_spec_validTrace Try.f54.results.toList [.c .sc] vs kk))) hF (fun t0 hF => goes_of (e_spec_validTrace t0 kk) (F_spec_validTrace_S hF))
def con_spec_placeOf : Con := ⟨[.rd, .rd], true, [.c (.sl .int), .c (.sc)], fun vs k => match vs with
    | [.c (.ro .int list0), .c (.v (.int .i64 n1))] => F_spec_placeOf list0 n1 (fun r0 => k (.one (.c (.v (.int .i64 r0)))) [])
    | _ => False, false⟩
def cl_spec_placeOf : List (FuncId × Con) := []
def nm0_spec_placeOf : List NStep := [.keep [0, 1, 5] []]
def an_spec_placeOf : Ann := ⟨[], [(2, nm0_spec_placeOf)], []⟩
def cs_spec_placeOf : Cons := ⟨cl_spec_placeOf, [], 0, [], []⟩
def can0_spec_placeOf (list0 : List Int) (n1 : Int) (xi5 : Int) : St := ⟨[(0, .one (.c (.ro .int list0))), (1, .one (.c (.v (.int .i64 n1)))), (5, .one (.c (.v (.int .i64 xi5))))], []⟩
def fin_spec_placeOf (list0 : List Int) (n1 : Int) (kk : AV → List A1 → Prop) : Kt := fin TT con_spec_placeOf Try.f70.results.toList [.c .sc] [.c (.ro .int list0), .c (.v (.int .i64 n1))] kk
def kt0_spec_placeOf (kf : Kt) : Kt := blockK 0 (seqK (evF TT cs_spec_placeOf 19 an_spec_placeOf Try.f70 [1, 1]) (kf))
theorem r0_spec_placeOf (list0 : List Int) (n1 : Int) (kk : AV → List A1 → Prop) (n : Nat) (xi5 : Int) :
    iter (evF TT cs_spec_placeOf 19 an_spec_placeOf Try.f70 [1, 0, 1, 0, 0]) nm0_spec_placeOf (kt0_spec_placeOf (fin_spec_placeOf list0 n1 kk)) (n + 1) (can0_spec_placeOf list0 n1 xi5) = T0_spec_placeOf list0 n1 xi5 (fun r0 => kk (.one (.c (.v (.int .i64 r0)))) []) (fun xi5 => iter (evF TT cs_spec_placeOf 19 an_spec_placeOf Try.f70 [1, 0, 1, 0, 0]) nm0_spec_placeOf (kt0_spec_placeOf (fin_spec_placeOf list0 n1 kk)) n (can0_spec_placeOf list0 n1 xi5)) := by kernel_rfl
theorem l0_spec_placeOf (list0 : List Int) (n1 : Int) (kk : AV → List A1 → Prop) : ∀ (n : Nat) (xi5 : Int), iter (evF TT cs_spec_placeOf 19 an_spec_placeOf Try.f70 [1, 0, 1, 0, 0]) nm0_spec_placeOf (kt0_spec_placeOf (fin_spec_placeOf list0 n1 kk)) n (can0_spec_placeOf list0 n1 xi5) = L0_spec_placeOf list0 n1 (fun r0 => kk (.one (.c (.v (.int .i64 r0)))) []) n xi5 := by
  intro n
  induction n with
  | zero => intros; rfl
  | succ n ih =>
    intro xi5
    rw [r0_spec_placeOf list0 n1 kk n xi5]
    have hb : (fun xi5 => iter (evF TT cs_spec_placeOf 19 an_spec_placeOf Try.f70 [1, 0, 1, 0, 0]) nm0_spec_placeOf (kt0_spec_placeOf (fin_spec_placeOf list0 n1 kk)) n (can0_spec_placeOf list0 n1 xi5)) = L0_spec_placeOf list0 n1 (fun r0 => kk (.one (.c (.v (.int .i64 r0)))) []) n := by
      funext xi5; exact ih xi5
    rw [hb]
    rfl
theorem g_spec_placeOf (list0 : List Int) (n1 : Int) (kk : AV → List A1 → Prop) :
    ev TT cs_spec_placeOf 19 an_spec_placeOf (Try.f70.body.getD .skip) (st0 con_spec_placeOf [.c (.ro .int list0), .c (.v (.int .i64 n1))]) (fin TT con_spec_placeOf Try.f70.results.toList [.c .sc] [.c (.ro .int list0), .c (.v (.int .i64 n1))] kk) = G_spec_placeOf list0 n1 (fun list0 n1 xi5 => ∃ j, iter (evF TT cs_spec_placeOf 19 an_spec_placeOf Try.f70 [1, 0, 1, 0, 0]) nm0_spec_placeOf (kt0_spec_placeOf (fin_spec_placeOf list0 n1 kk)) j (can0_spec_placeOf list0 n1 xi5)) := by kernel_rfl
theorem e_spec_placeOf (list0 : List Int) (n1 : Int) (kk : AV → List A1 → Prop) :
    ev TT cs_spec_placeOf 19 an_spec_placeOf (Try.f70.body.getD .skip) (st0 con_spec_placeOf [.c (.ro .int list0), .c (.v (.int .i64 n1))]) (fin TT con_spec_placeOf Try.f70.results.toList [.c .sc] [.c (.ro .int list0), .c (.v (.int .i64 n1))] kk) = S_spec_placeOf list0 n1 (fun r0 => kk (.one (.c (.v (.int .i64 r0)))) []) := by
  rw [g_spec_placeOf]
  have hi0 : (fun list0 n1 xi5 => ∃ j, iter (evF TT cs_spec_placeOf 19 an_spec_placeOf Try.f70 [1, 0, 1, 0, 0]) nm0_spec_placeOf (kt0_spec_placeOf (fin_spec_placeOf list0 n1 kk)) j (can0_spec_placeOf list0 n1 xi5)) = (fun list0 n1 xi5 => ∃ j, L0_spec_placeOf list0 n1 (fun r0 => kk (.one (.c (.v (.int .i64 r0)))) []) j xi5) := by
    funext list0 n1 xi5
    refine congrArg Exists (funext fun j => ?_)
    rw [l0_spec_placeOf list0 n1 kk j xi5]
  rw [hi0]
  rfl
theorem clok_spec_placeOf : ConOK Try.prog cl_spec_placeOf := consNil
theorem cok_spec_placeOf : ConsOK Try.prog 19 cs_spec_placeOf := ⟨clok_spec_placeOf, inlNil⟩
theorem i_spec_placeOf {vs : List A1} {kk : AV → List A1 → Prop} {motive : List A1 → Prop} (h : con_spec_placeOf.F vs kk) (H : ∀ (list0 : List Int) (n1 : Int), F_spec_placeOf list0 n1 (fun r0 => kk (.one (.c (.v (.int .i64 r0)))) []) → motive [.c (.ro .int list0), .c (.v (.int .i64 n1))]) : motive vs := by
  unfold con_spec_placeOf at h
  dsimp only at h
  split at h
  · exact H _ _ h
  · exact h.elim
theorem h_spec_placeOf : Holds Try.prog 70 con_spec_placeOf := by
  refine holds_of_ev (rt := [.c .sc]) (T := TT) (Γ := cs_spec_placeOf) (an := an_spec_placeOf) (N := 19) (c := Try.f70.body.getD .skip) Try.func70 (by kernel_rfl) Try.ntmps70 (by decide) (by decide) mixed tabOK cok_spec_placeOf (by kernel_rfl) ?_
  intro vs kk _ hF
  exact i_spec_placeOf (motive := fun vs => Goes (ev TT cs_spec_placeOf 19 an_spec_placeOf (Try.f70.body.getD .skip) (st0 con_spec_placeOf vs) (fin TT con_spec_placeOf Try.f70.results.toList [.c .sc] vs kk))) hF (fun list0 n1 hF => goes_of (e_spec_placeOf list0 n1 kk) (F_spec_placeOf_S hF))
def con_spec_isIn : Con := ⟨[.rd, .rd], true, [.c (.sl .int), .c (.sc)], fun vs k => match vs with
    | [.c (.ro .int list0), .c (.v (.int .i64 n1))] => F_spec_isIn list0 n1 (fun r0 => k (.one (.c (.v (.bool r0)))) [])
    | _ => False, false⟩
def cl_spec_isIn : List (FuncId × Con) := [(70, con_spec_placeOf)]
def an_spec_isIn : Ann := ⟨[], [], []⟩
def cs_spec_isIn : Cons := ⟨cl_spec_isIn, [], 0, [], []⟩
def fin_spec_isIn (list0 : List Int) (n1 : Int) (kk : AV → List A1 → Prop) : Kt := fin TT con_spec_isIn Try.f84.results.toList [.c .sc] [.c (.ro .int list0), .c (.v (.int .i64 n1))] kk
theorem g_spec_isIn (list0 : List Int) (n1 : Int) (kk : AV → List A1 → Prop) :
    ev TT cs_spec_isIn 9 an_spec_isIn (Try.f84.body.getD .skip) (st0 con_spec_isIn [.c (.ro .int list0), .c (.v (.int .i64 n1))]) (fin TT con_spec_isIn Try.f84.results.toList [.c .sc] [.c (.ro .int list0), .c (.v (.int .i64 n1))] kk) = G_spec_isIn list0 n1 (fun r0 => kk (.one (.c (.v (.bool r0)))) []) := by kernel_rfl
theorem e_spec_isIn (list0 : List Int) (n1 : Int) (kk : AV → List A1 → Prop) :
    ev TT cs_spec_isIn 9 an_spec_isIn (Try.f84.body.getD .skip) (st0 con_spec_isIn [.c (.ro .int list0), .c (.v (.int .i64 n1))]) (fin TT con_spec_isIn Try.f84.results.toList [.c .sc] [.c (.ro .int list0), .c (.v (.int .i64 n1))] kk) = S_spec_isIn list0 n1 (fun r0 => kk (.one (.c (.v (.bool r0)))) []) := by
  rw [g_spec_isIn]
  rfl
theorem clok_spec_isIn : ConOK Try.prog cl_spec_isIn := consCons h_spec_placeOf ⟨Try.f70, Try.func70, by kernel_rfl, ne_of_beq (by kernel_rfl)⟩ (consNil)
theorem cok_spec_isIn : ConsOK Try.prog 9 cs_spec_isIn := ⟨clok_spec_isIn, inlNil⟩
theorem i_spec_isIn {vs : List A1} {kk : AV → List A1 → Prop} {motive : List A1 → Prop} (h : con_spec_isIn.F vs kk) (H : ∀ (list0 : List Int) (n1 : Int), F_spec_isIn list0 n1 (fun r0 => kk (.one (.c (.v (.bool r0)))) []) → motive [.c (.ro .int list0), .c (.v (.int .i64 n1))]) : motive vs := by
  unfold con_spec_isIn at h
  dsimp only at h
  split at h
  · exact H _ _ h
  · exact h.elim
theorem h_spec_isIn : Holds Try.prog 84 con_spec_isIn := by
  refine holds_of_ev (rt := [.c .sc]) (T := TT) (Γ := cs_spec_isIn) (an := an_spec_isIn) (N := 9) (c := Try.f84.body.getD .skip) Try.func84 (by kernel_rfl) Try.ntmps84 (by decide) (by decide) mixed tabOK cok_spec_isIn (by kernel_rfl) ?_
  intro vs kk _ hF
  exact i_spec_isIn (motive := fun vs => Goes (ev TT cs_spec_isIn 9 an_spec_isIn (Try.f84.body.getD .skip) (st0 con_spec_isIn vs) (fin TT con_spec_isIn Try.f84.results.toList [.c .sc] vs kk))) hF (fun list0 n1 hF => goes_of (e_spec_isIn list0 n1 kk) (F_spec_isIn_S hF))
def con_spec_distance : Con := ⟨[.rd, .rd], true, [.c (.sl .int), .c (.sc)], fun vs k => match vs with
    | [.c (.ro .int t0), .c (.v (.int .i64 at1))] => F_spec_distance t0 at1 (fun r0 => k (.one (.c (.v (.int .i64 r0)))) [])
    | _ => False, false⟩
def cl_spec_distance : List (FuncId × Con) := [(84, con_spec_isIn)]
def nm0_spec_distance : List NStep := [.own 5 .int 90000, .keep [0, 1, 5, 6] [90000]]
def an_spec_distance : Ann := ⟨[(5, .take 0 (.take 1 (.take 2 (.take 3 (.take 4 (.take 5 (.take 6 (.take 7 (.take 8 (.done))))))))), [])], [(3, nm0_spec_distance)], []⟩
def cs_spec_distance : Cons := ⟨cl_spec_distance, [], 0, [], []⟩
def can0_spec_distance (at1 : Int) (t0 : List Int) (xi6 : Int) (xseen5 : List Int) : St := ⟨[(0, .one (.c (.ro .int t0))), (1, .one (.c (.v (.int .i64 at1)))), (5, .one (.c (.ow 90000))), (6, .one (.c (.v (.int .i64 xi6))))], [(90000, .row .int xseen5)]⟩
def fin_spec_distance (t0 : List Int) (at1 : Int) (kk : AV → List A1 → Prop) : Kt := fin TT con_spec_distance Try.f73.results.toList [.c .sc] [.c (.ro .int t0), .c (.v (.int .i64 at1))] kk
def kt0_spec_distance (kf : Kt) : Kt := blockK 0 (seqK (evF TT cs_spec_distance 40 an_spec_distance Try.f73 [1, 1, 1]) (kf))
theorem r0_spec_distance (t0 : List Int) (at1 : Int) (kk : AV → List A1 → Prop) (n : Nat) (xi6 : Int) (xseen5 : List Int) :
    iter (evF TT cs_spec_distance 40 an_spec_distance Try.f73 [1, 1, 0, 1, 0, 0]) nm0_spec_distance (kt0_spec_distance (fin_spec_distance t0 at1 kk)) (n + 1) (can0_spec_distance at1 t0 xi6 xseen5) = T0_spec_distance at1 t0 xi6 xseen5 (fun r0 => kk (.one (.c (.v (.int .i64 r0)))) []) (fun xi6 xseen5 => iter (evF TT cs_spec_distance 40 an_spec_distance Try.f73 [1, 1, 0, 1, 0, 0]) nm0_spec_distance (kt0_spec_distance (fin_spec_distance t0 at1 kk)) n (can0_spec_distance at1 t0 xi6 xseen5)) := by kernel_rfl
theorem l0_spec_distance (t0 : List Int) (at1 : Int) (kk : AV → List A1 → Prop) : ∀ (n : Nat) (xi6 : Int) (xseen5 : List Int), iter (evF TT cs_spec_distance 40 an_spec_distance Try.f73 [1, 1, 0, 1, 0, 0]) nm0_spec_distance (kt0_spec_distance (fin_spec_distance t0 at1 kk)) n (can0_spec_distance at1 t0 xi6 xseen5) = L0_spec_distance at1 t0 (fun r0 => kk (.one (.c (.v (.int .i64 r0)))) []) n xi6 xseen5 := by
  intro n
  induction n with
  | zero => intros; rfl
  | succ n ih =>
    intro xi6 xseen5
    rw [r0_spec_distance t0 at1 kk n xi6 xseen5]
    have hb : (fun xi6 xseen5 => iter (evF TT cs_spec_distance 40 an_spec_distance Try.f73 [1, 1, 0, 1, 0, 0]) nm0_spec_distance (kt0_spec_distance (fin_spec_distance t0 at1 kk)) n (can0_spec_distance at1 t0 xi6 xseen5)) = L0_spec_distance at1 t0 (fun r0 => kk (.one (.c (.v (.int .i64 r0)))) []) n := by
      funext xi6 xseen5; exact ih xi6 xseen5
    rw [hb]
    rfl
theorem g_spec_distance (t0 : List Int) (at1 : Int) (kk : AV → List A1 → Prop) :
    ev TT cs_spec_distance 40 an_spec_distance (Try.f73.body.getD .skip) (st0 con_spec_distance [.c (.ro .int t0), .c (.v (.int .i64 at1))]) (fin TT con_spec_distance Try.f73.results.toList [.c .sc] [.c (.ro .int t0), .c (.v (.int .i64 at1))] kk) = G_spec_distance t0 at1 (fun at1 t0 xi6 xseen5 => ∃ j, iter (evF TT cs_spec_distance 40 an_spec_distance Try.f73 [1, 1, 0, 1, 0, 0]) nm0_spec_distance (kt0_spec_distance (fin_spec_distance t0 at1 kk)) j (can0_spec_distance at1 t0 xi6 xseen5)) := by kernel_rfl
theorem e_spec_distance (t0 : List Int) (at1 : Int) (kk : AV → List A1 → Prop) :
    ev TT cs_spec_distance 40 an_spec_distance (Try.f73.body.getD .skip) (st0 con_spec_distance [.c (.ro .int t0), .c (.v (.int .i64 at1))]) (fin TT con_spec_distance Try.f73.results.toList [.c .sc] [.c (.ro .int t0), .c (.v (.int .i64 at1))] kk) = S_spec_distance t0 at1 (fun r0 => kk (.one (.c (.v (.int .i64 r0)))) []) := by
  rw [g_spec_distance]
  have hi0 : (fun at1 t0 xi6 xseen5 => ∃ j, iter (evF TT cs_spec_distance 40 an_spec_distance Try.f73 [1, 1, 0, 1, 0, 0]) nm0_spec_distance (kt0_spec_distance (fin_spec_distance t0 at1 kk)) j (can0_spec_distance at1 t0 xi6 xseen5)) = (fun at1 t0 xi6 xseen5 => ∃ j, L0_spec_distance at1 t0 (fun r0 => kk (.one (.c (.v (.int .i64 r0)))) []) j xi6 xseen5) := by
    funext at1 t0 xi6 xseen5
    refine congrArg Exists (funext fun j => ?_)
    rw [l0_spec_distance t0 at1 kk j xi6 xseen5]
  rw [hi0]
  rfl
theorem clok_spec_distance : ConOK Try.prog cl_spec_distance := consCons h_spec_isIn ⟨Try.f84, Try.func84, by kernel_rfl, ne_of_beq (by kernel_rfl)⟩ (consNil)
theorem cok_spec_distance : ConsOK Try.prog 40 cs_spec_distance := ⟨clok_spec_distance, inlNil⟩
theorem i_spec_distance {vs : List A1} {kk : AV → List A1 → Prop} {motive : List A1 → Prop} (h : con_spec_distance.F vs kk) (H : ∀ (t0 : List Int) (at1 : Int), F_spec_distance t0 at1 (fun r0 => kk (.one (.c (.v (.int .i64 r0)))) []) → motive [.c (.ro .int t0), .c (.v (.int .i64 at1))]) : motive vs := by
  unfold con_spec_distance at h
  dsimp only at h
  split at h
  · exact H _ _ h
  · exact h.elim
theorem h_spec_distance : Holds Try.prog 73 con_spec_distance := by
  refine holds_of_ev (rt := [.c .sc]) (T := TT) (Γ := cs_spec_distance) (an := an_spec_distance) (N := 40) (c := Try.f73.body.getD .skip) Try.func73 (by kernel_rfl) Try.ntmps73 (by decide) (by decide) mixed tabOK cok_spec_distance (by kernel_rfl) ?_
  intro vs kk _ hF
  exact i_spec_distance (motive := fun vs => Goes (ev TT cs_spec_distance 40 an_spec_distance (Try.f73.body.getD .skip) (st0 con_spec_distance vs) (fin TT con_spec_distance Try.f73.results.toList [.c .sc] vs kk))) hF (fun t0 at1 hF => goes_of (e_spec_distance t0 at1 kk) (F_spec_distance_S hF))
def con_spec_HitCurve : Con := ⟨[.rd], true, [.c (.sl .int)], fun vs k => match vs with
    | [.c (.ro .int t0)] => F_spec_HitCurve t0 (fun r0 => k (.one (.c (.ro .int r0))) [])
    | _ => False, false⟩
def cl_spec_HitCurve : List (FuncId × Con) := [(54, con_spec_validTrace), (73, con_spec_distance)]
def nm1_spec_HitCurve : List NStep := [.keep [0, 3, 4, 6] [112]]
def nm0_spec_HitCurve : List NStep := [.keep [0, 3, 4] [112]]
def an_spec_HitCurve : Ann := ⟨[], [(9, nm1_spec_HitCurve), (5, nm0_spec_HitCurve)], []⟩
def cs_spec_HitCurve : Cons := ⟨cl_spec_HitCurve, [], 0, [], []⟩
def can1_spec_HitCurve (t0 : List Int) (xi4 : Int) (xroom6 : Int) (xy7' : List Int) : St := ⟨[(0, .one (.c (.ro .int t0))), (3, .one (.c (.ow 112))), (4, .one (.c (.v (.int .i64 xi4)))), (6, .one (.c (.v (.int .i64 xroom6))))], [(112, .row .int xy7')]⟩
def can0_spec_HitCurve (t0 : List Int) (xi4 : Int) (xy7 : List Int) : St := ⟨[(0, .one (.c (.ro .int t0))), (3, .one (.c (.ow 112))), (4, .one (.c (.v (.int .i64 xi4))))], [(112, .row .int xy7)]⟩
def fin_spec_HitCurve (t0 : List Int) (kk : AV → List A1 → Prop) : Kt := fin TT con_spec_HitCurve Try.f34.results.toList [.c (.sl .int)] [.c (.ro .int t0)] kk
def kt1_spec_HitCurve (kf : Kt) (b0 : St → Prop) : Kt := blockK 2 (blockK 1 (seqK (evF TT cs_spec_HitCurve 40 an_spec_HitCurve Try.f34 [1, 1, 1, 0, 1, 0, 0, 1, 1]) (backK nm0_spec_HitCurve b0 (blockK 0 (seqK (evF TT cs_spec_HitCurve 40 an_spec_HitCurve Try.f34 [1, 1, 1, 1]) (kf))))))
def kt0_spec_HitCurve (kf : Kt) : Kt := blockK 0 (seqK (evF TT cs_spec_HitCurve 40 an_spec_HitCurve Try.f34 [1, 1, 1, 1]) (kf))
theorem r1_spec_HitCurve (t0 : List Int) (xi4 : Int) (kk : AV → List A1 → Prop) (b0 : St → Prop) (n : Nat) (xroom6 : Int) (xy7' : List Int) :
    iter (evF TT cs_spec_HitCurve 40 an_spec_HitCurve Try.f34 [1, 1, 1, 0, 1, 0, 0, 1, 0, 0, 1, 1, 0, 0]) nm1_spec_HitCurve (kt1_spec_HitCurve (fin_spec_HitCurve t0 kk) b0) (n + 1) (can1_spec_HitCurve t0 xi4 xroom6 xy7') = T1_spec_HitCurve t0 xi4 xroom6 xy7' (fun xi4 xy7 => b0 (can0_spec_HitCurve t0 xi4 xy7)) (fun xroom6 xy7' => iter (evF TT cs_spec_HitCurve 40 an_spec_HitCurve Try.f34 [1, 1, 1, 0, 1, 0, 0, 1, 0, 0, 1, 1, 0, 0]) nm1_spec_HitCurve (kt1_spec_HitCurve (fin_spec_HitCurve t0 kk) b0) n (can1_spec_HitCurve t0 xi4 xroom6 xy7')) := by kernel_rfl
theorem l1_spec_HitCurve (t0 : List Int) (xi4 : Int) (kk : AV → List A1 → Prop) (b0 : St → Prop) : ∀ (n : Nat) (xroom6 : Int) (xy7' : List Int), iter (evF TT cs_spec_HitCurve 40 an_spec_HitCurve Try.f34 [1, 1, 1, 0, 1, 0, 0, 1, 0, 0, 1, 1, 0, 0]) nm1_spec_HitCurve (kt1_spec_HitCurve (fin_spec_HitCurve t0 kk) b0) n (can1_spec_HitCurve t0 xi4 xroom6 xy7') = L1_spec_HitCurve t0 xi4 (fun r0 => kk (.one (.c (.ro .int r0))) []) (fun xi4 xy7 => b0 (can0_spec_HitCurve t0 xi4 xy7)) n xroom6 xy7' := by
  intro n
  induction n with
  | zero => intros; rfl
  | succ n ih =>
    intro xroom6 xy7'
    rw [r1_spec_HitCurve t0 xi4 kk b0 n xroom6 xy7']
    have hb : (fun xroom6 xy7' => iter (evF TT cs_spec_HitCurve 40 an_spec_HitCurve Try.f34 [1, 1, 1, 0, 1, 0, 0, 1, 0, 0, 1, 1, 0, 0]) nm1_spec_HitCurve (kt1_spec_HitCurve (fin_spec_HitCurve t0 kk) b0) n (can1_spec_HitCurve t0 xi4 xroom6 xy7')) = L1_spec_HitCurve t0 xi4 (fun r0 => kk (.one (.c (.ro .int r0))) []) (fun xi4 xy7 => b0 (can0_spec_HitCurve t0 xi4 xy7)) n := by
      funext xroom6 xy7'; exact ih xroom6 xy7'
    rw [hb]
    rfl
theorem r0_spec_HitCurve (t0 : List Int) (kk : AV → List A1 → Prop) (n : Nat) (xi4 : Int) (xy7 : List Int) :
    iter (evF TT cs_spec_HitCurve 40 an_spec_HitCurve Try.f34 [1, 1, 1, 0, 1, 0, 0]) nm0_spec_HitCurve (kt0_spec_HitCurve (fin_spec_HitCurve t0 kk)) (n + 1) (can0_spec_HitCurve t0 xi4 xy7) = T0_spec_HitCurve t0 xi4 xy7 (fun r0 => kk (.one (.c (.ro .int r0))) []) (fun t0 xi4 xroom6 xy7' => ∃ j, iter (evF TT cs_spec_HitCurve 40 an_spec_HitCurve Try.f34 [1, 1, 1, 0, 1, 0, 0, 1, 0, 0, 1, 1, 0, 0]) nm1_spec_HitCurve (kt1_spec_HitCurve (fin_spec_HitCurve t0 kk) (iter (evF TT cs_spec_HitCurve 40 an_spec_HitCurve Try.f34 [1, 1, 1, 0, 1, 0, 0]) nm0_spec_HitCurve (kt0_spec_HitCurve (fin_spec_HitCurve t0 kk)) n)) j (can1_spec_HitCurve t0 xi4 xroom6 xy7')) := by kernel_rfl
theorem l0_spec_HitCurve (t0 : List Int) (kk : AV → List A1 → Prop) : ∀ (n : Nat) (xi4 : Int) (xy7 : List Int), iter (evF TT cs_spec_HitCurve 40 an_spec_HitCurve Try.f34 [1, 1, 1, 0, 1, 0, 0]) nm0_spec_HitCurve (kt0_spec_HitCurve (fin_spec_HitCurve t0 kk)) n (can0_spec_HitCurve t0 xi4 xy7) = L0_spec_HitCurve t0 (fun r0 => kk (.one (.c (.ro .int r0))) []) n xi4 xy7 := by
  intro n
  induction n generalizing t0 with
  | zero => intros; rfl
  | succ n ih =>
    intro xi4 xy7
    rw [r0_spec_HitCurve t0 kk n xi4 xy7]
    have hb : ∀ (t0 : List Int), (fun xi4 xy7 => iter (evF TT cs_spec_HitCurve 40 an_spec_HitCurve Try.f34 [1, 1, 1, 0, 1, 0, 0]) nm0_spec_HitCurve (kt0_spec_HitCurve (fin_spec_HitCurve t0 kk)) n (can0_spec_HitCurve t0 xi4 xy7)) = L0_spec_HitCurve t0 (fun r0 => kk (.one (.c (.ro .int r0))) []) n := by
      intro t0
      funext xi4 xy7; exact ih t0 xi4 xy7
    have hi1 : (fun t0 xi4 xroom6 xy7' => ∃ j, iter (evF TT cs_spec_HitCurve 40 an_spec_HitCurve Try.f34 [1, 1, 1, 0, 1, 0, 0, 1, 0, 0, 1, 1, 0, 0]) nm1_spec_HitCurve (kt1_spec_HitCurve (fin_spec_HitCurve t0 kk) (iter (evF TT cs_spec_HitCurve 40 an_spec_HitCurve Try.f34 [1, 1, 1, 0, 1, 0, 0]) nm0_spec_HitCurve (kt0_spec_HitCurve (fin_spec_HitCurve t0 kk)) n)) j (can1_spec_HitCurve t0 xi4 xroom6 xy7')) = (fun t0 xi4 xroom6 xy7' => ∃ j, L1_spec_HitCurve t0 xi4 (fun r0 => kk (.one (.c (.ro .int r0))) []) (L0_spec_HitCurve t0 (fun r0 => kk (.one (.c (.ro .int r0))) []) n) j xroom6 xy7') := by
      funext t0 xi4 xroom6 xy7'
      refine congrArg Exists (funext fun j => ?_)
      rw [l1_spec_HitCurve t0 xi4 kk (iter (evF TT cs_spec_HitCurve 40 an_spec_HitCurve Try.f34 [1, 1, 1, 0, 1, 0, 0]) nm0_spec_HitCurve (kt0_spec_HitCurve (fin_spec_HitCurve t0 kk)) n) j xroom6 xy7']
      rw [hb]
    rw [hi1]
    rfl
theorem g_spec_HitCurve (t0 : List Int) (kk : AV → List A1 → Prop) :
    ev TT cs_spec_HitCurve 40 an_spec_HitCurve (Try.f34.body.getD .skip) (st0 con_spec_HitCurve [.c (.ro .int t0)]) (fin TT con_spec_HitCurve Try.f34.results.toList [.c (.sl .int)] [.c (.ro .int t0)] kk) = G_spec_HitCurve t0 (fun r0 => kk (.one (.c (.ro .int r0))) []) (fun t0 xi4 xy7 => ∃ j, iter (evF TT cs_spec_HitCurve 40 an_spec_HitCurve Try.f34 [1, 1, 1, 0, 1, 0, 0]) nm0_spec_HitCurve (kt0_spec_HitCurve (fin_spec_HitCurve t0 kk)) j (can0_spec_HitCurve t0 xi4 xy7)) := by kernel_rfl
theorem e_spec_HitCurve (t0 : List Int) (kk : AV → List A1 → Prop) :
    ev TT cs_spec_HitCurve 40 an_spec_HitCurve (Try.f34.body.getD .skip) (st0 con_spec_HitCurve [.c (.ro .int t0)]) (fin TT con_spec_HitCurve Try.f34.results.toList [.c (.sl .int)] [.c (.ro .int t0)] kk) = S_spec_HitCurve t0 (fun r0 => kk (.one (.c (.ro .int r0))) []) := by
  rw [g_spec_HitCurve]
  have hi0 : (fun t0 xi4 xy7 => ∃ j, iter (evF TT cs_spec_HitCurve 40 an_spec_HitCurve Try.f34 [1, 1, 1, 0, 1, 0, 0]) nm0_spec_HitCurve (kt0_spec_HitCurve (fin_spec_HitCurve t0 kk)) j (can0_spec_HitCurve t0 xi4 xy7)) = (fun t0 xi4 xy7 => ∃ j, L0_spec_HitCurve t0 (fun r0 => kk (.one (.c (.ro .int r0))) []) j xi4 xy7) := by
    funext t0 xi4 xy7
    refine congrArg Exists (funext fun j => ?_)
    rw [l0_spec_HitCurve t0 kk j xi4 xy7]
  rw [hi0]
  rfl
theorem clok_spec_HitCurve : ConOK Try.prog cl_spec_HitCurve := consCons h_spec_validTrace ⟨Try.f54, Try.func54, by kernel_rfl, ne_of_beq (by kernel_rfl)⟩ (consCons h_spec_distance ⟨Try.f73, Try.func73, by kernel_rfl, ne_of_beq (by kernel_rfl)⟩ (consNil))
theorem cok_spec_HitCurve : ConsOK Try.prog 40 cs_spec_HitCurve := ⟨clok_spec_HitCurve, inlNil⟩
theorem i_spec_HitCurve {vs : List A1} {kk : AV → List A1 → Prop} {motive : List A1 → Prop} (h : con_spec_HitCurve.F vs kk) (H : ∀ (t0 : List Int), F_spec_HitCurve t0 (fun r0 => kk (.one (.c (.ro .int r0))) []) → motive [.c (.ro .int t0)]) : motive vs := by
  unfold con_spec_HitCurve at h
  dsimp only at h
  split at h
  · exact H _ h
  · exact h.elim
theorem h_spec_HitCurve : Holds Try.prog 34 con_spec_HitCurve := by
  refine holds_of_ev (rt := [.c (.sl .int)]) (T := TT) (Γ := cs_spec_HitCurve) (an := an_spec_HitCurve) (N := 40) (c := Try.f34.body.getD .skip) Try.func34 (by kernel_rfl) Try.ntmps34 (by decide) (by decide) mixed tabOK cok_spec_HitCurve (by kernel_rfl) ?_
  intro vs kk _ hF
  exact i_spec_HitCurve (motive := fun vs => Goes (ev TT cs_spec_HitCurve 40 an_spec_HitCurve (Try.f34.body.getD .skip) (st0 con_spec_HitCurve vs) (fin TT con_spec_HitCurve Try.f34.results.toList [.c (.sl .int)] vs kk))) hF (fun t0 hF => goes_of (e_spec_HitCurve t0 kk) (F_spec_HitCurve_S hF))
def con_spec_RoomFor : Con := ⟨[.rd, .rd], true, [.c (.sl .int), .c (.sc)], fun vs k => match vs with
    | [.c (.ro .int t0), .c (.v (.int .i64 hits1))] => F_spec_RoomFor t0 hits1 (fun r0 => k (.one (.c (.v (.int .i64 r0)))) [])
    | _ => False, false⟩
def cl_spec_RoomFor : List (FuncId × Con) := [(34, con_spec_HitCurve), (54, con_spec_validTrace)]
def nm0_spec_RoomFor : List NStep := [.keep [1, 5, 6] [240]]
def an_spec_RoomFor : Ann := ⟨[], [(5, nm0_spec_RoomFor)], []⟩
def cs_spec_RoomFor : Cons := ⟨cl_spec_RoomFor, [], 0, [], []⟩
def can0_spec_RoomFor (hitCurve15 : List Int) (hits1 : Int) (xi6 : Int) : St := ⟨[(1, .one (.c (.v (.int .i64 hits1)))), (5, .one (.c (.ow 240))), (6, .one (.c (.v (.int .i64 xi6))))], [(240, .row .int hitCurve15)]⟩
def fin_spec_RoomFor (t0 : List Int) (hits1 : Int) (kk : AV → List A1 → Prop) : Kt := fin TT con_spec_RoomFor Try.f37.results.toList [.c .sc] [.c (.ro .int t0), .c (.v (.int .i64 hits1))] kk
def kt0_spec_RoomFor (kf : Kt) : Kt := blockK 0 (seqK (evF TT cs_spec_RoomFor 30 an_spec_RoomFor Try.f37 [1, 1, 1, 1]) (kf))
theorem r0_spec_RoomFor (t0 : List Int) (hits1 : Int) (hitCurve15 : List Int) (kk : AV → List A1 → Prop) (n : Nat) (xi6 : Int) :
    iter (evF TT cs_spec_RoomFor 30 an_spec_RoomFor Try.f37 [1, 1, 1, 0, 1, 0, 0]) nm0_spec_RoomFor (kt0_spec_RoomFor (fin_spec_RoomFor t0 hits1 kk)) (n + 1) (can0_spec_RoomFor hitCurve15 hits1 xi6) = T0_spec_RoomFor hitCurve15 hits1 xi6 (fun r0 => kk (.one (.c (.v (.int .i64 r0)))) []) (fun xi6 => iter (evF TT cs_spec_RoomFor 30 an_spec_RoomFor Try.f37 [1, 1, 1, 0, 1, 0, 0]) nm0_spec_RoomFor (kt0_spec_RoomFor (fin_spec_RoomFor t0 hits1 kk)) n (can0_spec_RoomFor hitCurve15 hits1 xi6)) := by kernel_rfl
theorem l0_spec_RoomFor (t0 : List Int) (hits1 : Int) (hitCurve15 : List Int) (kk : AV → List A1 → Prop) : ∀ (n : Nat) (xi6 : Int), iter (evF TT cs_spec_RoomFor 30 an_spec_RoomFor Try.f37 [1, 1, 1, 0, 1, 0, 0]) nm0_spec_RoomFor (kt0_spec_RoomFor (fin_spec_RoomFor t0 hits1 kk)) n (can0_spec_RoomFor hitCurve15 hits1 xi6) = L0_spec_RoomFor hitCurve15 hits1 (fun r0 => kk (.one (.c (.v (.int .i64 r0)))) []) n xi6 := by
  intro n
  induction n with
  | zero => intros; rfl
  | succ n ih =>
    intro xi6
    rw [r0_spec_RoomFor t0 hits1 hitCurve15 kk n xi6]
    have hb : (fun xi6 => iter (evF TT cs_spec_RoomFor 30 an_spec_RoomFor Try.f37 [1, 1, 1, 0, 1, 0, 0]) nm0_spec_RoomFor (kt0_spec_RoomFor (fin_spec_RoomFor t0 hits1 kk)) n (can0_spec_RoomFor hitCurve15 hits1 xi6)) = L0_spec_RoomFor hitCurve15 hits1 (fun r0 => kk (.one (.c (.v (.int .i64 r0)))) []) n := by
      funext xi6; exact ih xi6
    rw [hb]
    rfl
theorem g_spec_RoomFor (t0 : List Int) (hits1 : Int) (kk : AV → List A1 → Prop) :
    ev TT cs_spec_RoomFor 30 an_spec_RoomFor (Try.f37.body.getD .skip) (st0 con_spec_RoomFor [.c (.ro .int t0), .c (.v (.int .i64 hits1))]) (fin TT con_spec_RoomFor Try.f37.results.toList [.c .sc] [.c (.ro .int t0), .c (.v (.int .i64 hits1))] kk) = G_spec_RoomFor t0 hits1 (fun r0 => kk (.one (.c (.v (.int .i64 r0)))) []) (fun hitCurve15 hits1 xi6 => ∃ j, iter (evF TT cs_spec_RoomFor 30 an_spec_RoomFor Try.f37 [1, 1, 1, 0, 1, 0, 0]) nm0_spec_RoomFor (kt0_spec_RoomFor (fin_spec_RoomFor t0 hits1 kk)) j (can0_spec_RoomFor hitCurve15 hits1 xi6)) := by kernel_rfl
theorem e_spec_RoomFor (t0 : List Int) (hits1 : Int) (kk : AV → List A1 → Prop) :
    ev TT cs_spec_RoomFor 30 an_spec_RoomFor (Try.f37.body.getD .skip) (st0 con_spec_RoomFor [.c (.ro .int t0), .c (.v (.int .i64 hits1))]) (fin TT con_spec_RoomFor Try.f37.results.toList [.c .sc] [.c (.ro .int t0), .c (.v (.int .i64 hits1))] kk) = S_spec_RoomFor t0 hits1 (fun r0 => kk (.one (.c (.v (.int .i64 r0)))) []) := by
  rw [g_spec_RoomFor]
  have hi0 : (fun hitCurve15 hits1 xi6 => ∃ j, iter (evF TT cs_spec_RoomFor 30 an_spec_RoomFor Try.f37 [1, 1, 1, 0, 1, 0, 0]) nm0_spec_RoomFor (kt0_spec_RoomFor (fin_spec_RoomFor t0 hits1 kk)) j (can0_spec_RoomFor hitCurve15 hits1 xi6)) = (fun hitCurve15 hits1 xi6 => ∃ j, L0_spec_RoomFor hitCurve15 hits1 (fun r0 => kk (.one (.c (.v (.int .i64 r0)))) []) j xi6) := by
    funext hitCurve15 hits1 xi6
    refine congrArg Exists (funext fun j => ?_)
    rw [l0_spec_RoomFor t0 hits1 hitCurve15 kk j xi6]
  rw [hi0]
  rfl
theorem clok_spec_RoomFor : ConOK Try.prog cl_spec_RoomFor := consCons h_spec_HitCurve ⟨Try.f34, Try.func34, by kernel_rfl, ne_of_beq (by kernel_rfl)⟩ (consCons h_spec_validTrace ⟨Try.f54, Try.func54, by kernel_rfl, ne_of_beq (by kernel_rfl)⟩ (consNil))
theorem cok_spec_RoomFor : ConsOK Try.prog 30 cs_spec_RoomFor := ⟨clok_spec_RoomFor, inlNil⟩
theorem i_spec_RoomFor {vs : List A1} {kk : AV → List A1 → Prop} {motive : List A1 → Prop} (h : con_spec_RoomFor.F vs kk) (H : ∀ (t0 : List Int) (hits1 : Int), F_spec_RoomFor t0 hits1 (fun r0 => kk (.one (.c (.v (.int .i64 r0)))) []) → motive [.c (.ro .int t0), .c (.v (.int .i64 hits1))]) : motive vs := by
  unfold con_spec_RoomFor at h
  dsimp only at h
  split at h
  · exact H _ _ h
  · exact h.elim
theorem h_spec_RoomFor : Holds Try.prog 37 con_spec_RoomFor := by
  refine holds_of_ev (rt := [.c .sc]) (T := TT) (Γ := cs_spec_RoomFor) (an := an_spec_RoomFor) (N := 30) (c := Try.f37.body.getD .skip) Try.func37 (by kernel_rfl) Try.ntmps37 (by decide) (by decide) mixed tabOK cok_spec_RoomFor (by kernel_rfl) ?_
  intro vs kk _ hF
  exact i_spec_RoomFor (motive := fun vs => Goes (ev TT cs_spec_RoomFor 30 an_spec_RoomFor (Try.f37.body.getD .skip) (st0 con_spec_RoomFor vs) (fin TT con_spec_RoomFor Try.f37.results.toList [.c .sc] vs kk))) hF (fun t0 hits1 hF => goes_of (e_spec_RoomFor t0 hits1 kk) (F_spec_RoomFor_S hF))
def con_laws_FnRoomForMore : Con := ⟨[.rd], true, [.c (.sl .u8)], fun vs k => match vs with
    | [.c (.ro .u8 code0)] => F_laws_FnRoomForMore code0 (fun r0 => k (.one (.c (.v (.bool r0)))) [])
    | _ => False, false⟩
def cl_laws_FnRoomForMore : List (FuncId × Con) := [(35, con_spec_DrawRoomFor), (36, con_impl_RoomFor), (37, con_spec_RoomFor)]
def an_laws_FnRoomForMore : Ann := ⟨[], [], []⟩
def cs_laws_FnRoomForMore : Cons := ⟨cl_laws_FnRoomForMore, [], 0, [], []⟩
def fin_laws_FnRoomForMore (code0 : List Int) (kk : AV → List A1 → Prop) : Kt := fin TT con_laws_FnRoomForMore Try.f8.results.toList [.c .sc] [.c (.ro .u8 code0)] kk
theorem g_laws_FnRoomForMore (code0 : List Int) (kk : AV → List A1 → Prop) :
    ev TT cs_laws_FnRoomForMore 43 an_laws_FnRoomForMore (Try.f8.body.getD .skip) (st0 con_laws_FnRoomForMore [.c (.ro .u8 code0)]) (fin TT con_laws_FnRoomForMore Try.f8.results.toList [.c .sc] [.c (.ro .u8 code0)] kk) = G_laws_FnRoomForMore code0 (fun r0 => kk (.one (.c (.v (.bool r0)))) []) := by kernel_rfl
theorem e_laws_FnRoomForMore (code0 : List Int) (kk : AV → List A1 → Prop) :
    ev TT cs_laws_FnRoomForMore 43 an_laws_FnRoomForMore (Try.f8.body.getD .skip) (st0 con_laws_FnRoomForMore [.c (.ro .u8 code0)]) (fin TT con_laws_FnRoomForMore Try.f8.results.toList [.c .sc] [.c (.ro .u8 code0)] kk) = S_laws_FnRoomForMore code0 (fun r0 => kk (.one (.c (.v (.bool r0)))) []) := by
  rw [g_laws_FnRoomForMore]
  rfl
theorem clok_laws_FnRoomForMore : ConOK Try.prog cl_laws_FnRoomForMore := consCons h_spec_DrawRoomFor ⟨Try.f35, Try.func35, by kernel_rfl, ne_of_beq (by kernel_rfl)⟩ (consCons h_impl_RoomFor ⟨Try.f36, Try.func36, by kernel_rfl, ne_of_beq (by kernel_rfl)⟩ (consCons h_spec_RoomFor ⟨Try.f37, Try.func37, by kernel_rfl, ne_of_beq (by kernel_rfl)⟩ (consNil)))
theorem cok_laws_FnRoomForMore : ConsOK Try.prog 43 cs_laws_FnRoomForMore := ⟨clok_laws_FnRoomForMore, inlNil⟩
theorem i_laws_FnRoomForMore {vs : List A1} {kk : AV → List A1 → Prop} {motive : List A1 → Prop} (h : con_laws_FnRoomForMore.F vs kk) (H : ∀ (code0 : List Int), F_laws_FnRoomForMore code0 (fun r0 => kk (.one (.c (.v (.bool r0)))) []) → motive [.c (.ro .u8 code0)]) : motive vs := by
  unfold con_laws_FnRoomForMore at h
  dsimp only at h
  split at h
  · exact H _ h
  · exact h.elim
theorem h_laws_FnRoomForMore : Holds Try.prog 8 con_laws_FnRoomForMore := by
  refine holds_of_ev (rt := [.c .sc]) (T := TT) (Γ := cs_laws_FnRoomForMore) (an := an_laws_FnRoomForMore) (N := 43) (c := Try.f8.body.getD .skip) Try.func8 (by kernel_rfl) Try.ntmps8 (by decide) (by decide) mixed tabOK cok_laws_FnRoomForMore (by kernel_rfl) ?_
  intro vs kk _ hF
  exact i_laws_FnRoomForMore (motive := fun vs => Goes (ev TT cs_laws_FnRoomForMore 43 an_laws_FnRoomForMore (Try.f8.body.getD .skip) (st0 con_laws_FnRoomForMore vs) (fin TT con_laws_FnRoomForMore Try.f8.results.toList [.c .sc] vs kk))) hF (fun code0 hF => goes_of (e_laws_FnRoomForMore code0 kk) (F_laws_FnRoomForMore_S hF))
end Go.Ev
