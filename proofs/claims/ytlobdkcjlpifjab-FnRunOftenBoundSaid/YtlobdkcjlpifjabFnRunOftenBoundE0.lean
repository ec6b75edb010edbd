/- What the evaluator gives for these functions: their contracts. No statement is proved here. -/
import Derived.Test.YtlobdkcjlpifjabFnRunOftenBoundP1
import Derived.Test.YtlobdkcjlpifjabTt
namespace Go.Ev
set_option linter.unusedVariables false
set_option maxRecDepth 100000
open Go Go.Proofs
def con_spec_newReader : Con := ⟨[.rd], true, [.c (.sl .u8)], fun vs k => match vs with
    | [.c (.ro .u8 code0)] => F_spec_newReader code0 (fun r0 r1 => k (.one (.agg [.ro .u8 r0, .v (.int .i64 r1)])) [])
    | _ => False, true⟩
def cl_spec_newReader : List (FuncId × Con) := []
def an_spec_newReader : Ann := ⟨[], [], []⟩
def cs_spec_newReader : Cons := ⟨cl_spec_newReader, [], 0, [], []⟩
def fin_spec_newReader (code0 : List Int) (kk : AV → List A1 → Prop) : Kt := finB Try.f51.results.toList [.sl .u8, .sc] kk
theorem g_spec_newReader (code0 : List Int) (kk : AV → List A1 → Prop) :
    ev TT cs_spec_newReader 11 an_spec_newReader (Try.f51.body.getD .skip) (st0 con_spec_newReader [.c (.ro .u8 code0)]) (finB Try.f51.results.toList [.sl .u8, .sc] kk) = G_spec_newReader code0 (fun r0 r1 => kk (.one (.agg [.ro .u8 r0, .v (.int .i64 r1)])) []) := by kernel_rfl
theorem e_spec_newReader (code0 : List Int) (kk : AV → List A1 → Prop) :
    ev TT cs_spec_newReader 11 an_spec_newReader (Try.f51.body.getD .skip) (st0 con_spec_newReader [.c (.ro .u8 code0)]) (finB Try.f51.results.toList [.sl .u8, .sc] kk) = S_spec_newReader code0 (fun r0 r1 => kk (.one (.agg [.ro .u8 r0, .v (.int .i64 r1)])) []) := by
  rw [g_spec_newReader]
  rfl
theorem clok_spec_newReader : ConOK Try.prog cl_spec_newReader := consNil
theorem cok_spec_newReader : ConsOK Try.prog 11 cs_spec_newReader := ⟨clok_spec_newReader, inlNil⟩
theorem i_spec_newReader {vs : List A1} {kk : AV → List A1 → Prop} {motive : List A1 → Prop} (h : con_spec_newReader.F vs kk) (H : ∀ (code0 : List Int), F_spec_newReader code0 (fun r0 r1 => kk (.one (.agg [.ro .u8 r0, .v (.int .i64 r1)])) []) → motive [.c (.ro .u8 code0)]) : motive vs := by
  unfold con_spec_newReader at h
  dsimp only at h
  split at h
  · exact H _ h
  · exact h.elim
theorem h_spec_newReader : HoldsB Try.prog 51 con_spec_newReader := by
  refine holdsB_of_ev (ts := [.sl .u8, .sc]) (T := TT) (Γ := cs_spec_newReader) (an := an_spec_newReader) (N := 11) (c := Try.f51.body.getD .skip) Try.func51 (by kernel_rfl) Try.ntmps51 (by decide) (by decide) mixed tabOK cok_spec_newReader (by kernel_rfl) ?_
  intro vs kk _ hF
  exact i_spec_newReader (motive := fun vs => Goes (ev TT cs_spec_newReader 11 an_spec_newReader (Try.f51.body.getD .skip) (st0 con_spec_newReader vs) (finB Try.f51.results.toList [.sl .u8, .sc] kk))) hF (fun code0 hF => goes_of (e_spec_newReader code0 kk) (F_spec_newReader_S hF))
def con_spec_reader_pick : Con := ⟨[.mu, .rd], true, [.ptr [.sl .u8, .sc], .c (.sc)], fun vs k => match vs with
    | [.ptr [.ro .u8 r0b, .v (.int .i64 r0p)], .c (.v (.int .i64 n1))] => F_spec_reader_pick r0b r0p n1 (fun r0 r1 r2 => k (.one (.c (.v (.int .i64 r0)))) [.ptr [.ro .u8 r1, .v (.int .i64 r2)]])
    | _ => False, false⟩
def cl_spec_reader_pick : List (FuncId × Con) := []
def an_spec_reader_pick : Ann := ⟨[(7, .take 0 (.take 1 (.take 2 (.take 3 (.take 4 (.take 5 (.take 6 (.take 7 (.take 8 (.take 9 (.take 10 (.take 11 (.take 12 (.take 13 (.take 14 (.take 15 (.take 16 (.take 17 (.take 18 (.take 19 (.take 20 (.take 21 (.take 22 (.take 23 (.take 24 (.take 25 (.take 26 (.take 27 (.take 28 (.take 29 (.take 30 (.take 31 (.take 32 (.take 33 (.take 34 (.take 35 (.take 36 (.take 37 (.take 38 (.take 39 (.take 40 (.take 41 (.take 42 (.take 43 (.take 44 (.take 45 (.done)))))))))))))))))))))))))))))))))))))))))))))), [100000])], [], []⟩
def cs_spec_reader_pick : Cons := ⟨cl_spec_reader_pick, [], 0, [], []⟩
def fin_spec_reader_pick (r0b : List Int) (r0p : Int) (n1 : Int) (kk : AV → List A1 → Prop) : Kt := fin TT con_spec_reader_pick Try.f59.results.toList [.c .sc] [.ptr [.ro .u8 r0b, .v (.int .i64 r0p)], .c (.v (.int .i64 n1))] kk
theorem g_spec_reader_pick (r0b : List Int) (r0p : Int) (n1 : Int) (kk : AV → List A1 → Prop) :
    ev TT cs_spec_reader_pick 99 an_spec_reader_pick (Try.f59.body.getD .skip) (st0 con_spec_reader_pick [.ptr [.ro .u8 r0b, .v (.int .i64 r0p)], .c (.v (.int .i64 n1))]) (fin TT con_spec_reader_pick Try.f59.results.toList [.c .sc] [.ptr [.ro .u8 r0b, .v (.int .i64 r0p)], .c (.v (.int .i64 n1))] kk) = G_spec_reader_pick r0b r0p n1 (fun r0 r1 r2 => kk (.one (.c (.v (.int .i64 r0)))) [.ptr [.ro .u8 r1, .v (.int .i64 r2)]]) := by kernel_rfl
theorem e_spec_reader_pick (r0b : List Int) (r0p : Int) (n1 : Int) (kk : AV → List A1 → Prop) :
    ev TT cs_spec_reader_pick 99 an_spec_reader_pick (Try.f59.body.getD .skip) (st0 con_spec_reader_pick [.ptr [.ro .u8 r0b, .v (.int .i64 r0p)], .c (.v (.int .i64 n1))]) (fin TT con_spec_reader_pick Try.f59.results.toList [.c .sc] [.ptr [.ro .u8 r0b, .v (.int .i64 r0p)], .c (.v (.int .i64 n1))] kk) = S_spec_reader_pick r0b r0p n1 (fun r0 r1 r2 => kk (.one (.c (.v (.int .i64 r0)))) [.ptr [.ro .u8 r1, .v (.int .i64 r2)]]) := by
  rw [g_spec_reader_pick]
  rfl
theorem clok_spec_reader_pick : ConOK Try.prog cl_spec_reader_pick := consNil
theorem cok_spec_reader_pick : ConsOK Try.prog 99 cs_spec_reader_pick := ⟨clok_spec_reader_pick, inlNil⟩
theorem i_spec_reader_pick {vs : List A1} {kk : AV → List A1 → Prop} {motive : List A1 → Prop} (h : con_spec_reader_pick.F vs kk) (H : ∀ (r0b : List Int) (r0p : Int) (n1 : Int), F_spec_reader_pick r0b r0p n1 (fun r0 r1 r2 => kk (.one (.c (.v (.int .i64 r0)))) [.ptr [.ro .u8 r1, .v (.int .i64 r2)]]) → motive [.ptr [.ro .u8 r0b, .v (.int .i64 r0p)], .c (.v (.int .i64 n1))]) : motive vs := by
  unfold con_spec_reader_pick at h
  dsimp only at h
  split at h
  · exact H _ _ _ h
  · exact h.elim
theorem h_spec_reader_pick : Holds Try.prog 59 con_spec_reader_pick := by
  refine holds_of_ev (rt := [.c .sc]) (T := TT) (Γ := cs_spec_reader_pick) (an := an_spec_reader_pick) (N := 99) (c := Try.f59.body.getD .skip) Try.func59 (by kernel_rfl) Try.ntmps59 (by decide) (by decide) mixed tabOK cok_spec_reader_pick (by kernel_rfl) ?_
  intro vs kk _ hF
  exact i_spec_reader_pick (motive := fun vs => Goes (ev TT cs_spec_reader_pick 99 an_spec_reader_pick (Try.f59.body.getD .skip) (st0 con_spec_reader_pick vs) (fin TT con_spec_reader_pick Try.f59.results.toList [.c .sc] vs kk))) hF (fun r0b r0p n1 hF => goes_of (e_spec_reader_pick r0b r0p n1 kk) (F_spec_reader_pick_S hF))
def con_spec_reader_one : Con := ⟨[.mu, .rd], true, [.ptr [.sl .u8, .sc], .c (.sl .int)], fun vs k => match vs with
    | [.ptr [.ro .u8 r0b, .v (.int .i64 r0p)], .c (.ro .int list1)] => F_spec_reader_one r0b r0p list1 (fun r0 r1 r2 => k (.one (.c (.v (.int .i64 r0)))) [.ptr [.ro .u8 r1, .v (.int .i64 r2)]])
    | _ => False, false⟩
def cl_spec_reader_one : List (FuncId × Con) := [(59, con_spec_reader_pick)]
def an_spec_reader_one : Ann := ⟨[], [], []⟩
def cs_spec_reader_one : Cons := ⟨cl_spec_reader_one, [], 0, [], []⟩
def fin_spec_reader_one (r0b : List Int) (r0p : Int) (list1 : List Int) (kk : AV → List A1 → Prop) : Kt := fin TT con_spec_reader_one Try.f57.results.toList [.c .sc] [.ptr [.ro .u8 r0b, .v (.int .i64 r0p)], .c (.ro .int list1)] kk
theorem g_spec_reader_one (r0b : List Int) (r0p : Int) (list1 : List Int) (kk : AV → List A1 → Prop) :
    ev TT cs_spec_reader_one 12 an_spec_reader_one (Try.f57.body.getD .skip) (st0 con_spec_reader_one [.ptr [.ro .u8 r0b, .v (.int .i64 r0p)], .c (.ro .int list1)]) (fin TT con_spec_reader_one Try.f57.results.toList [.c .sc] [.ptr [.ro .u8 r0b, .v (.int .i64 r0p)], .c (.ro .int list1)] kk) = G_spec_reader_one r0b r0p list1 (fun r0 r1 r2 => kk (.one (.c (.v (.int .i64 r0)))) [.ptr [.ro .u8 r1, .v (.int .i64 r2)]]) := by kernel_rfl
theorem e_spec_reader_one (r0b : List Int) (r0p : Int) (list1 : List Int) (kk : AV → List A1 → Prop) :
    ev TT cs_spec_reader_one 12 an_spec_reader_one (Try.f57.body.getD .skip) (st0 con_spec_reader_one [.ptr [.ro .u8 r0b, .v (.int .i64 r0p)], .c (.ro .int list1)]) (fin TT con_spec_reader_one Try.f57.results.toList [.c .sc] [.ptr [.ro .u8 r0b, .v (.int .i64 r0p)], .c (.ro .int list1)] kk) = S_spec_reader_one r0b r0p list1 (fun r0 r1 r2 => kk (.one (.c (.v (.int .i64 r0)))) [.ptr [.ro .u8 r1, .v (.int .i64 r2)]]) := by
  rw [g_spec_reader_one]
  rfl
theorem clok_spec_reader_one : ConOK Try.prog cl_spec_reader_one := consCons h_spec_reader_pick ⟨Try.f59, Try.func59, by kernel_rfl, ne_of_beq (by kernel_rfl)⟩ (consNil)
theorem cok_spec_reader_one : ConsOK Try.prog 12 cs_spec_reader_one := ⟨clok_spec_reader_one, inlNil⟩
theorem i_spec_reader_one {vs : List A1} {kk : AV → List A1 → Prop} {motive : List A1 → Prop} (h : con_spec_reader_one.F vs kk) (H : ∀ (r0b : List Int) (r0p : Int) (list1 : List Int), F_spec_reader_one r0b r0p list1 (fun r0 r1 r2 => kk (.one (.c (.v (.int .i64 r0)))) [.ptr [.ro .u8 r1, .v (.int .i64 r2)]]) → motive [.ptr [.ro .u8 r0b, .v (.int .i64 r0p)], .c (.ro .int list1)]) : motive vs := by
  unfold con_spec_reader_one at h
  dsimp only at h
  split at h
  · exact H _ _ _ h
  · exact h.elim
theorem h_spec_reader_one : Holds Try.prog 57 con_spec_reader_one := by
  refine holds_of_ev (rt := [.c .sc]) (T := TT) (Γ := cs_spec_reader_one) (an := an_spec_reader_one) (N := 12) (c := Try.f57.body.getD .skip) Try.func57 (by kernel_rfl) Try.ntmps57 (by decide) (by decide) mixed tabOK cok_spec_reader_one (by kernel_rfl) ?_
  intro vs kk _ hF
  exact i_spec_reader_one (motive := fun vs => Goes (ev TT cs_spec_reader_one 12 an_spec_reader_one (Try.f57.body.getD .skip) (st0 con_spec_reader_one vs) (fin TT con_spec_reader_one Try.f57.results.toList [.c .sc] vs kk))) hF (fun r0b r0p list1 hF => goes_of (e_spec_reader_one r0b r0p list1 kk) (F_spec_reader_one_S hF))
def con_spec_copyInts : Con := ⟨[.rd], true, [.c (.sl .int)], fun vs k => match vs with
    | [.c (.ro .int list0)] => F_spec_copyInts list0 (fun r0 => k (.one (.c (.ro .int r0))) [])
    | _ => False, false⟩
def cl_spec_copyInts : List (FuncId × Con) := []
def an_spec_copyInts : Ann := ⟨[], [], []⟩
def cs_spec_copyInts : Cons := ⟨cl_spec_copyInts, [], 0, [], []⟩
def fin_spec_copyInts (list0 : List Int) (kk : AV → List A1 → Prop) : Kt := fin TT con_spec_copyInts Try.f99.results.toList [.c (.sl .int)] [.c (.ro .int list0)] kk
theorem g_spec_copyInts (list0 : List Int) (kk : AV → List A1 → Prop) :
    ev TT cs_spec_copyInts 6 an_spec_copyInts (Try.f99.body.getD .skip) (st0 con_spec_copyInts [.c (.ro .int list0)]) (fin TT con_spec_copyInts Try.f99.results.toList [.c (.sl .int)] [.c (.ro .int list0)] kk) = G_spec_copyInts list0 (fun r0 => kk (.one (.c (.ro .int r0))) []) := by kernel_rfl
theorem e_spec_copyInts (list0 : List Int) (kk : AV → List A1 → Prop) :
    ev TT cs_spec_copyInts 6 an_spec_copyInts (Try.f99.body.getD .skip) (st0 con_spec_copyInts [.c (.ro .int list0)]) (fin TT con_spec_copyInts Try.f99.results.toList [.c (.sl .int)] [.c (.ro .int list0)] kk) = S_spec_copyInts list0 (fun r0 => kk (.one (.c (.ro .int r0))) []) := by
  rw [g_spec_copyInts]
  rfl
theorem clok_spec_copyInts : ConOK Try.prog cl_spec_copyInts := consNil
theorem cok_spec_copyInts : ConsOK Try.prog 6 cs_spec_copyInts := ⟨clok_spec_copyInts, inlNil⟩
theorem i_spec_copyInts {vs : List A1} {kk : AV → List A1 → Prop} {motive : List A1 → Prop} (h : con_spec_copyInts.F vs kk) (H : ∀ (list0 : List Int), F_spec_copyInts list0 (fun r0 => kk (.one (.c (.ro .int r0))) []) → motive [.c (.ro .int list0)]) : motive vs := by
  unfold con_spec_copyInts at h
  dsimp only at h
  split at h
  · exact H _ h
  · exact h.elim
theorem h_spec_copyInts : Holds Try.prog 99 con_spec_copyInts := by
  refine holds_of_ev (rt := [.c (.sl .int)]) (T := TT) (Γ := cs_spec_copyInts) (an := an_spec_copyInts) (N := 6) (c := Try.f99.body.getD .skip) Try.func99 (by kernel_rfl) Try.ntmps99 (by decide) (by decide) mixed tabOK cok_spec_copyInts (by kernel_rfl) ?_
  intro vs kk _ hF
  exact i_spec_copyInts (motive := fun vs => Goes (ev TT cs_spec_copyInts 6 an_spec_copyInts (Try.f99.body.getD .skip) (st0 con_spec_copyInts vs) (fin TT con_spec_copyInts Try.f99.results.toList [.c (.sl .int)] vs kk))) hF (fun list0 hF => goes_of (e_spec_copyInts list0 kk) (F_spec_copyInts_S hF))
def con_spec_reader_spoil : Con := ⟨[.mu, .rd, .rd], true, [.ptr [.sl .u8, .sc], .c (.sl .int), .c (.sc)], fun vs k => match vs with
    | [.ptr [.ro .u8 r0b, .v (.int .i64 r0p)], .c (.ro .int list1), .c (.v (.int .i64 n2))] => F_spec_reader_spoil r0b r0p list1 n2 (fun r0 r1 r2 => k (.one (.c (.ro .int r0))) [.ptr [.ro .u8 r1, .v (.int .i64 r2)]])
    | _ => False, false⟩
def cl_spec_reader_spoil : List (FuncId × Con) := [(57, con_spec_reader_one), (59, con_spec_reader_pick), (99, con_spec_copyInts)]
def an_spec_reader_spoil : Ann := ⟨[], [], []⟩
def cs_spec_reader_spoil : Cons := ⟨cl_spec_reader_spoil, [], 0, [], []⟩
def fin_spec_reader_spoil (r0b : List Int) (r0p : Int) (list1 : List Int) (n2 : Int) (kk : AV → List A1 → Prop) : Kt := fin TT con_spec_reader_spoil Try.f88.results.toList [.c (.sl .int)] [.ptr [.ro .u8 r0b, .v (.int .i64 r0p)], .c (.ro .int list1), .c (.v (.int .i64 n2))] kk
theorem g_spec_reader_spoil (r0b : List Int) (r0p : Int) (list1 : List Int) (n2 : Int) (kk : AV → List A1 → Prop) :
    ev TT cs_spec_reader_spoil 41 an_spec_reader_spoil (Try.f88.body.getD .skip) (st0 con_spec_reader_spoil [.ptr [.ro .u8 r0b, .v (.int .i64 r0p)], .c (.ro .int list1), .c (.v (.int .i64 n2))]) (fin TT con_spec_reader_spoil Try.f88.results.toList [.c (.sl .int)] [.ptr [.ro .u8 r0b, .v (.int .i64 r0p)], .c (.ro .int list1), .c (.v (.int .i64 n2))] kk) = G_spec_reader_spoil r0b r0p list1 n2 (fun r0 r1 r2 => kk (.one (.c (.ro .int r0))) [.ptr [.ro .u8 r1, .v (.int .i64 r2)]]) := by kernel_rfl
theorem e_spec_reader_spoil (r0b : List Int) (r0p : Int) (list1 : List Int) (n2 : Int) (kk : AV → List A1 → Prop) :
    ev TT cs_spec_reader_spoil 41 an_spec_reader_spoil (Try.f88.body.getD .skip) (st0 con_spec_reader_spoil [.ptr [.ro .u8 r0b, .v (.int .i64 r0p)], .c (.ro .int list1), .c (.v (.int .i64 n2))]) (fin TT con_spec_reader_spoil Try.f88.results.toList [.c (.sl .int)] [.ptr [.ro .u8 r0b, .v (.int .i64 r0p)], .c (.ro .int list1), .c (.v (.int .i64 n2))] kk) = S_spec_reader_spoil r0b r0p list1 n2 (fun r0 r1 r2 => kk (.one (.c (.ro .int r0))) [.ptr [.ro .u8 r1, .v (.int .i64 r2)]]) := by
  rw [g_spec_reader_spoil]
  rfl
theorem clok_spec_reader_spoil : ConOK Try.prog cl_spec_reader_spoil := consCons h_spec_reader_one ⟨Try.f57, Try.func57, by kernel_rfl, ne_of_beq (by kernel_rfl)⟩ (consCons h_spec_reader_pick ⟨Try.f59, Try.func59, by kernel_rfl, ne_of_beq (by kernel_rfl)⟩ (consCons h_spec_copyInts ⟨Try.f99, Try.func99, by kernel_rfl, ne_of_beq (by kernel_rfl)⟩ (consNil)))
theorem cok_spec_reader_spoil : ConsOK Try.prog 41 cs_spec_reader_spoil := ⟨clok_spec_reader_spoil, inlNil⟩
theorem i_spec_reader_spoil {vs : List A1} {kk : AV → List A1 → Prop} {motive : List A1 → Prop} (h : con_spec_reader_spoil.F vs kk) (H : ∀ (r0b : List Int) (r0p : Int) (list1 : List Int) (n2 : Int), F_spec_reader_spoil r0b r0p list1 n2 (fun r0 r1 r2 => kk (.one (.c (.ro .int r0))) [.ptr [.ro .u8 r1, .v (.int .i64 r2)]]) → motive [.ptr [.ro .u8 r0b, .v (.int .i64 r0p)], .c (.ro .int list1), .c (.v (.int .i64 n2))]) : motive vs := by
  unfold con_spec_reader_spoil at h
  dsimp only at h
  split at h
  · exact H _ _ _ _ h
  · exact h.elim
theorem h_spec_reader_spoil : Holds Try.prog 88 con_spec_reader_spoil := by
  refine holds_of_ev (rt := [.c (.sl .int)]) (T := TT) (Γ := cs_spec_reader_spoil) (an := an_spec_reader_spoil) (N := 41) (c := Try.f88.body.getD .skip) Try.func88 (by kernel_rfl) Try.ntmps88 (by decide) (by decide) mixed tabOK cok_spec_reader_spoil (by kernel_rfl) ?_
  intro vs kk _ hF
  exact i_spec_reader_spoil (motive := fun vs => Goes (ev TT cs_spec_reader_spoil 41 an_spec_reader_spoil (Try.f88.body.getD .skip) (st0 con_spec_reader_spoil vs) (fin TT con_spec_reader_spoil Try.f88.results.toList [.c (.sl .int)] vs kk))) hF (fun r0b r0p list1 n2 hF => goes_of (e_spec_reader_spoil r0b r0p list1 n2 kk) (F_spec_reader_spoil_S hF))
def con_spec_someTrace : Con := ⟨[.mu], true, [.ptr [.sl .u8, .sc]], fun vs k => match vs with
    | [.ptr [.ro .u8 r0b, .v (.int .i64 r0p)]] => F_spec_someTrace r0b r0p (fun r0 r1 r2 => k (.one (.c (.ro .int r0))) [.ptr [.ro .u8 r1, .v (.int .i64 r2)]])
    | _ => False, false⟩
def cl_spec_someTrace : List (FuncId × Con) := [(57, con_spec_reader_one), (59, con_spec_reader_pick), (88, con_spec_reader_spoil)]
def nm0_spec_someTrace : List NStep := [.own 3 .int 90000, .keep [0, 3, 4, 5] [100000, 90000]]
def an_spec_someTrace : Ann := ⟨[], [(4, nm0_spec_someTrace)], []⟩
def cs_spec_someTrace : Cons := ⟨cl_spec_someTrace, [], 0, [], []⟩
def can0_spec_someTrace (one10 : Int) (xn5 : Int) (xb100000c0 : List Int) (xb100000c1 : Int) (xout3 : List Int) : St := ⟨[(0, .one (.c (.pb 100000 0))), (3, .one (.c (.ow 90000))), (4, .one (.c (.v (.int .i64 one10)))), (5, .one (.c (.v (.int .i64 xn5))))], [(100000, .box [.ro .u8 xb100000c0, .v (.int .i64 xb100000c1)]), (90000, .row .int xout3)]⟩
def fin_spec_someTrace (r0b : List Int) (r0p : Int) (kk : AV → List A1 → Prop) : Kt := fin TT con_spec_someTrace Try.f50.results.toList [.c (.sl .int)] [.ptr [.ro .u8 r0b, .v (.int .i64 r0p)]] kk
def kt0_spec_someTrace (kf : Kt) : Kt := blockK 0 (seqK (evF TT cs_spec_someTrace 56 an_spec_someTrace Try.f50 [1, 1, 1, 1]) (kf))
theorem r0_spec_someTrace (r0b : List Int) (r0p : Int) (one10 : Int) (kk : AV → List A1 → Prop) (n : Nat) (xn5 : Int) (xb100000c0 : List Int) (xb100000c1 : Int) (xout3 : List Int) :
    iter (evF TT cs_spec_someTrace 56 an_spec_someTrace Try.f50 [1, 1, 1, 0, 1, 0, 0]) nm0_spec_someTrace (kt0_spec_someTrace (fin_spec_someTrace r0b r0p kk)) (n + 1) (can0_spec_someTrace one10 xn5 xb100000c0 xb100000c1 xout3) = T0_spec_someTrace one10 xn5 xb100000c0 xb100000c1 xout3 (fun r0 r1 r2 => kk (.one (.c (.ro .int r0))) [.ptr [.ro .u8 r1, .v (.int .i64 r2)]]) (fun xn5 xb100000c0 xb100000c1 xout3 => iter (evF TT cs_spec_someTrace 56 an_spec_someTrace Try.f50 [1, 1, 1, 0, 1, 0, 0]) nm0_spec_someTrace (kt0_spec_someTrace (fin_spec_someTrace r0b r0p kk)) n (can0_spec_someTrace one10 xn5 xb100000c0 xb100000c1 xout3)) := by kernel_rfl
theorem l0_spec_someTrace (r0b : List Int) (r0p : Int) (one10 : Int) (kk : AV → List A1 → Prop) : ∀ (n : Nat) (xn5 : Int) (xb100000c0 : List Int) (xb100000c1 : Int) (xout3 : List Int), iter (evF TT cs_spec_someTrace 56 an_spec_someTrace Try.f50 [1, 1, 1, 0, 1, 0, 0]) nm0_spec_someTrace (kt0_spec_someTrace (fin_spec_someTrace r0b r0p kk)) n (can0_spec_someTrace one10 xn5 xb100000c0 xb100000c1 xout3) = L0_spec_someTrace one10 (fun r0 r1 r2 => kk (.one (.c (.ro .int r0))) [.ptr [.ro .u8 r1, .v (.int .i64 r2)]]) n xn5 xb100000c0 xb100000c1 xout3 := by
  intro n
  induction n with
  | zero => intros; rfl
  | succ n ih =>
    intro xn5 xb100000c0 xb100000c1 xout3
    rw [r0_spec_someTrace r0b r0p one10 kk n xn5 xb100000c0 xb100000c1 xout3]
    have hb : (fun xn5 xb100000c0 xb100000c1 xout3 => iter (evF TT cs_spec_someTrace 56 an_spec_someTrace Try.f50 [1, 1, 1, 0, 1, 0, 0]) nm0_spec_someTrace (kt0_spec_someTrace (fin_spec_someTrace r0b r0p kk)) n (can0_spec_someTrace one10 xn5 xb100000c0 xb100000c1 xout3)) = L0_spec_someTrace one10 (fun r0 r1 r2 => kk (.one (.c (.ro .int r0))) [.ptr [.ro .u8 r1, .v (.int .i64 r2)]]) n := by
      funext xn5 xb100000c0 xb100000c1 xout3; exact ih xn5 xb100000c0 xb100000c1 xout3
    rw [hb]
    rfl
theorem g_spec_someTrace (r0b : List Int) (r0p : Int) (kk : AV → List A1 → Prop) :
    ev TT cs_spec_someTrace 56 an_spec_someTrace (Try.f50.body.getD .skip) (st0 con_spec_someTrace [.ptr [.ro .u8 r0b, .v (.int .i64 r0p)]]) (fin TT con_spec_someTrace Try.f50.results.toList [.c (.sl .int)] [.ptr [.ro .u8 r0b, .v (.int .i64 r0p)]] kk) = G_spec_someTrace r0b r0p (fun one10 xn5 xb100000c0 xb100000c1 xout3 => ∃ j, iter (evF TT cs_spec_someTrace 56 an_spec_someTrace Try.f50 [1, 1, 1, 0, 1, 0, 0]) nm0_spec_someTrace (kt0_spec_someTrace (fin_spec_someTrace r0b r0p kk)) j (can0_spec_someTrace one10 xn5 xb100000c0 xb100000c1 xout3)) := by kernel_rfl
theorem e_spec_someTrace (r0b : List Int) (r0p : Int) (kk : AV → List A1 → Prop) :
    ev TT cs_spec_someTrace 56 an_spec_someTrace (Try.f50.body.getD .skip) (st0 con_spec_someTrace [.ptr [.ro .u8 r0b, .v (.int .i64 r0p)]]) (fin TT con_spec_someTrace Try.f50.results.toList [.c (.sl .int)] [.ptr [.ro .u8 r0b, .v (.int .i64 r0p)]] kk) = S_spec_someTrace r0b r0p (fun r0 r1 r2 => kk (.one (.c (.ro .int r0))) [.ptr [.ro .u8 r1, .v (.int .i64 r2)]]) := by
  rw [g_spec_someTrace]
  have hi0 : (fun one10 xn5 xb100000c0 xb100000c1 xout3 => ∃ j, iter (evF TT cs_spec_someTrace 56 an_spec_someTrace Try.f50 [1, 1, 1, 0, 1, 0, 0]) nm0_spec_someTrace (kt0_spec_someTrace (fin_spec_someTrace r0b r0p kk)) j (can0_spec_someTrace one10 xn5 xb100000c0 xb100000c1 xout3)) = (fun one10 xn5 xb100000c0 xb100000c1 xout3 => ∃ j, L0_spec_someTrace one10 (fun r0 r1 r2 => kk (.one (.c (.ro .int r0))) [.ptr [.ro .u8 r1, .v (.int .i64 r2)]]) j xn5 xb100000c0 xb100000c1 xout3) := by
    funext one10 xn5 xb100000c0 xb100000c1 xout3
    refine congrArg Exists (funext fun j => ?_)
    rw [l0_spec_someTrace r0b r0p one10 kk j xn5 xb100000c0 xb100000c1 xout3]
  rw [hi0]
  rfl
theorem clok_spec_someTrace : ConOK Try.prog cl_spec_someTrace := consCons h_spec_reader_one ⟨Try.f57, Try.func57, by kernel_rfl, ne_of_beq (by kernel_rfl)⟩ (consCons h_spec_reader_pick ⟨Try.f59, Try.func59, by kernel_rfl, ne_of_beq (by kernel_rfl)⟩ (consCons h_spec_reader_spoil ⟨Try.f88, Try.func88, by kernel_rfl, ne_of_beq (by kernel_rfl)⟩ (consNil)))
theorem cok_spec_someTrace : ConsOK Try.prog 56 cs_spec_someTrace := ⟨clok_spec_someTrace, inlNil⟩
theorem i_spec_someTrace {vs : List A1} {kk : AV → List A1 → Prop} {motive : List A1 → Prop} (h : con_spec_someTrace.F vs kk) (H : ∀ (r0b : List Int) (r0p : Int), F_spec_someTrace r0b r0p (fun r0 r1 r2 => kk (.one (.c (.ro .int r0))) [.ptr [.ro .u8 r1, .v (.int .i64 r2)]]) → motive [.ptr [.ro .u8 r0b, .v (.int .i64 r0p)]]) : motive vs := by
  unfold con_spec_someTrace at h
  dsimp only at h
  split at h
  · exact H _ _ h
  · exact h.elim
theorem h_spec_someTrace : Holds Try.prog 50 con_spec_someTrace := by
  refine holds_of_ev (rt := [.c (.sl .int)]) (T := TT) (Γ := cs_spec_someTrace) (an := an_spec_someTrace) (N := 56) (c := Try.f50.body.getD .skip) Try.func50 (by kernel_rfl) Try.ntmps50 (by decide) (by decide) mixed tabOK cok_spec_someTrace (by kernel_rfl) ?_
  intro vs kk _ hF
  exact i_spec_someTrace (motive := fun vs => Goes (ev TT cs_spec_someTrace 56 an_spec_someTrace (Try.f50.body.getD .skip) (st0 con_spec_someTrace vs) (fin TT con_spec_someTrace Try.f50.results.toList [.c (.sl .int)] vs kk))) hF (fun r0b r0p hF => goes_of (e_spec_someTrace r0b r0p kk) (F_spec_someTrace_S hF))
def con_spec_someRoom : Con := ⟨[.mu], true, [.ptr [.sl .u8, .sc]], fun vs k => match vs with
    | [.ptr [.ro .u8 r0b, .v (.int .i64 r0p)]] => F_spec_someRoom r0b r0p (fun r0 r1 r2 => k (.one (.c (.v (.int .i64 r0)))) [.ptr [.ro .u8 r1, .v (.int .i64 r2)]])
    | _ => False, false⟩
def cl_spec_someRoom : List (FuncId × Con) := [(57, con_spec_reader_one)]
def an_spec_someRoom : Ann := ⟨[], [], []⟩
def cs_spec_someRoom : Cons := ⟨cl_spec_someRoom, [], 0, [], []⟩
def fin_spec_someRoom (r0b : List Int) (r0p : Int) (kk : AV → List A1 → Prop) : Kt := fin TT con_spec_someRoom Try.f65.results.toList [.c .sc] [.ptr [.ro .u8 r0b, .v (.int .i64 r0p)]] kk
theorem g_spec_someRoom (r0b : List Int) (r0p : Int) (kk : AV → List A1 → Prop) :
    ev TT cs_spec_someRoom 6 an_spec_someRoom (Try.f65.body.getD .skip) (st0 con_spec_someRoom [.ptr [.ro .u8 r0b, .v (.int .i64 r0p)]]) (fin TT con_spec_someRoom Try.f65.results.toList [.c .sc] [.ptr [.ro .u8 r0b, .v (.int .i64 r0p)]] kk) = G_spec_someRoom r0b r0p (fun r0 r1 r2 => kk (.one (.c (.v (.int .i64 r0)))) [.ptr [.ro .u8 r1, .v (.int .i64 r2)]]) := by kernel_rfl
theorem e_spec_someRoom (r0b : List Int) (r0p : Int) (kk : AV → List A1 → Prop) :
    ev TT cs_spec_someRoom 6 an_spec_someRoom (Try.f65.body.getD .skip) (st0 con_spec_someRoom [.ptr [.ro .u8 r0b, .v (.int .i64 r0p)]]) (fin TT con_spec_someRoom Try.f65.results.toList [.c .sc] [.ptr [.ro .u8 r0b, .v (.int .i64 r0p)]] kk) = S_spec_someRoom r0b r0p (fun r0 r1 r2 => kk (.one (.c (.v (.int .i64 r0)))) [.ptr [.ro .u8 r1, .v (.int .i64 r2)]]) := by
  rw [g_spec_someRoom]
  rfl
theorem clok_spec_someRoom : ConOK Try.prog cl_spec_someRoom := consCons h_spec_reader_one ⟨Try.f57, Try.func57, by kernel_rfl, ne_of_beq (by kernel_rfl)⟩ (consNil)
theorem cok_spec_someRoom : ConsOK Try.prog 6 cs_spec_someRoom := ⟨clok_spec_someRoom, inlNil⟩
theorem i_spec_someRoom {vs : List A1} {kk : AV → List A1 → Prop} {motive : List A1 → Prop} (h : con_spec_someRoom.F vs kk) (H : ∀ (r0b : List Int) (r0p : Int), F_spec_someRoom r0b r0p (fun r0 r1 r2 => kk (.one (.c (.v (.int .i64 r0)))) [.ptr [.ro .u8 r1, .v (.int .i64 r2)]]) → motive [.ptr [.ro .u8 r0b, .v (.int .i64 r0p)]]) : motive vs := by
  unfold con_spec_someRoom at h
  dsimp only at h
  split at h
  · exact H _ _ h
  · exact h.elim
theorem h_spec_someRoom : Holds Try.prog 65 con_spec_someRoom := by
  refine holds_of_ev (rt := [.c .sc]) (T := TT) (Γ := cs_spec_someRoom) (an := an_spec_someRoom) (N := 6) (c := Try.f65.body.getD .skip) Try.func65 (by kernel_rfl) Try.ntmps65 (by decide) (by decide) mixed tabOK cok_spec_someRoom (by kernel_rfl) ?_
  intro vs kk _ hF
  exact i_spec_someRoom (motive := fun vs => Goes (ev TT cs_spec_someRoom 6 an_spec_someRoom (Try.f65.body.getD .skip) (st0 con_spec_someRoom vs) (fin TT con_spec_someRoom Try.f65.results.toList [.c .sc] vs kk))) hF (fun r0b r0p hF => goes_of (e_spec_someRoom r0b r0p kk) (F_spec_someRoom_S hF))
def con_spec_DrawRunRecent : Con := ⟨[.rd], true, [.c (.sl .u8)], fun vs k => match vs with
    | [.c (.ro .u8 code0)] => F_spec_DrawRunRecent code0 (fun r0 r1 => k (.tup [.c (.ro .int r0), .c (.v (.int .i64 r1))]) [])
    | _ => False, false⟩
def cl_spec_DrawRunRecent : List (FuncId × Con) := [(50, con_spec_someTrace), (51, con_spec_newReader), (65, con_spec_someRoom)]
def an_spec_DrawRunRecent : Ann := ⟨[], [], []⟩
def cs_spec_DrawRunRecent : Cons := ⟨cl_spec_DrawRunRecent, [], 0, [], []⟩
def fin_spec_DrawRunRecent (code0 : List Int) (kk : AV → List A1 → Prop) : Kt := fin TT con_spec_DrawRunRecent Try.f28.results.toList [.c (.sl .int), .c .sc] [.c (.ro .u8 code0)] kk
theorem g_spec_DrawRunRecent (code0 : List Int) (kk : AV → List A1 → Prop) :
    ev TT cs_spec_DrawRunRecent 13 an_spec_DrawRunRecent (Try.f28.body.getD .skip) (st0 con_spec_DrawRunRecent [.c (.ro .u8 code0)]) (fin TT con_spec_DrawRunRecent Try.f28.results.toList [.c (.sl .int), .c .sc] [.c (.ro .u8 code0)] kk) = G_spec_DrawRunRecent code0 (fun r0 r1 => kk (.tup [.c (.ro .int r0), .c (.v (.int .i64 r1))]) []) := by kernel_rfl
theorem e_spec_DrawRunRecent (code0 : List Int) (kk : AV → List A1 → Prop) :
    ev TT cs_spec_DrawRunRecent 13 an_spec_DrawRunRecent (Try.f28.body.getD .skip) (st0 con_spec_DrawRunRecent [.c (.ro .u8 code0)]) (fin TT con_spec_DrawRunRecent Try.f28.results.toList [.c (.sl .int), .c .sc] [.c (.ro .u8 code0)] kk) = S_spec_DrawRunRecent code0 (fun r0 r1 => kk (.tup [.c (.ro .int r0), .c (.v (.int .i64 r1))]) []) := by
  rw [g_spec_DrawRunRecent]
  rfl
theorem clok_spec_DrawRunRecent : ConOK Try.prog cl_spec_DrawRunRecent := consCons h_spec_someTrace ⟨Try.f50, Try.func50, by kernel_rfl, ne_of_beq (by kernel_rfl)⟩ (consCons h_spec_newReader ⟨Try.f51, Try.func51, by kernel_rfl, ne_of_beq (by kernel_rfl)⟩ (consCons h_spec_someRoom ⟨Try.f65, Try.func65, by kernel_rfl, ne_of_beq (by kernel_rfl)⟩ (consNil)))
theorem cok_spec_DrawRunRecent : ConsOK Try.prog 13 cs_spec_DrawRunRecent := ⟨clok_spec_DrawRunRecent, inlNil⟩
theorem i_spec_DrawRunRecent {vs : List A1} {kk : AV → List A1 → Prop} {motive : List A1 → Prop} (h : con_spec_DrawRunRecent.F vs kk) (H : ∀ (code0 : List Int), F_spec_DrawRunRecent code0 (fun r0 r1 => kk (.tup [.c (.ro .int r0), .c (.v (.int .i64 r1))]) []) → motive [.c (.ro .u8 code0)]) : motive vs := by
  unfold con_spec_DrawRunRecent at h
  dsimp only at h
  split at h
  · exact H _ h
  · exact h.elim
theorem h_spec_DrawRunRecent : Holds Try.prog 28 con_spec_DrawRunRecent := by
  refine holds_of_ev (rt := [.c (.sl .int), .c .sc]) (T := TT) (Γ := cs_spec_DrawRunRecent) (an := an_spec_DrawRunRecent) (N := 13) (c := Try.f28.body.getD .skip) Try.func28 (by kernel_rfl) Try.ntmps28 (by decide) (by decide) mixed tabOK cok_spec_DrawRunRecent (by kernel_rfl) ?_
  intro vs kk _ hF
  exact i_spec_DrawRunRecent (motive := fun vs => Goes (ev TT cs_spec_DrawRunRecent 13 an_spec_DrawRunRecent (Try.f28.body.getD .skip) (st0 con_spec_DrawRunRecent vs) (fin TT con_spec_DrawRunRecent Try.f28.results.toList [.c (.sl .int), .c .sc] vs kk))) hF (fun code0 hF => goes_of (e_spec_DrawRunRecent code0 kk) (F_spec_DrawRunRecent_S hF))
def con_spec_DrawRunOften : Con := ⟨[.rd], true, [.c (.sl .u8)], fun vs k => match vs with
    | [.c (.ro .u8 code0)] => F_spec_DrawRunOften code0 (fun r0 r1 => k (.tup [.c (.ro .int r0), .c (.v (.int .i64 r1))]) [])
    | _ => False, false⟩
def cl_spec_DrawRunOften : List (FuncId × Con) := [(28, con_spec_DrawRunRecent)]
def an_spec_DrawRunOften : Ann := ⟨[], [], []⟩
def cs_spec_DrawRunOften : Cons := ⟨cl_spec_DrawRunOften, [], 0, [], []⟩
def fin_spec_DrawRunOften (code0 : List Int) (kk : AV → List A1 → Prop) : Kt := fin TT con_spec_DrawRunOften Try.f45.results.toList [.c (.sl .int), .c .sc] [.c (.ro .u8 code0)] kk
theorem g_spec_DrawRunOften (code0 : List Int) (kk : AV → List A1 → Prop) :
    ev TT cs_spec_DrawRunOften 8 an_spec_DrawRunOften (Try.f45.body.getD .skip) (st0 con_spec_DrawRunOften [.c (.ro .u8 code0)]) (fin TT con_spec_DrawRunOften Try.f45.results.toList [.c (.sl .int), .c .sc] [.c (.ro .u8 code0)] kk) = G_spec_DrawRunOften code0 (fun r0 r1 => kk (.tup [.c (.ro .int r0), .c (.v (.int .i64 r1))]) []) := by kernel_rfl
theorem e_spec_DrawRunOften (code0 : List Int) (kk : AV → List A1 → Prop) :
    ev TT cs_spec_DrawRunOften 8 an_spec_DrawRunOften (Try.f45.body.getD .skip) (st0 con_spec_DrawRunOften [.c (.ro .u8 code0)]) (fin TT con_spec_DrawRunOften Try.f45.results.toList [.c (.sl .int), .c .sc] [.c (.ro .u8 code0)] kk) = S_spec_DrawRunOften code0 (fun r0 r1 => kk (.tup [.c (.ro .int r0), .c (.v (.int .i64 r1))]) []) := by
  rw [g_spec_DrawRunOften]
  rfl
theorem clok_spec_DrawRunOften : ConOK Try.prog cl_spec_DrawRunOften := consCons h_spec_DrawRunRecent ⟨Try.f28, Try.func28, by kernel_rfl, ne_of_beq (by kernel_rfl)⟩ (consNil)
theorem cok_spec_DrawRunOften : ConsOK Try.prog 8 cs_spec_DrawRunOften := ⟨clok_spec_DrawRunOften, inlNil⟩
theorem i_spec_DrawRunOften {vs : List A1} {kk : AV → List A1 → Prop} {motive : List A1 → Prop} (h : con_spec_DrawRunOften.F vs kk) (H : ∀ (code0 : List Int), F_spec_DrawRunOften code0 (fun r0 r1 => kk (.tup [.c (.ro .int r0), .c (.v (.int .i64 r1))]) []) → motive [.c (.ro .u8 code0)]) : motive vs := by
  unfold con_spec_DrawRunOften at h
  dsimp only at h
  split at h
  · exact H _ h
  · exact h.elim
theorem h_spec_DrawRunOften : Holds Try.prog 45 con_spec_DrawRunOften := by
  refine holds_of_ev (rt := [.c (.sl .int), .c .sc]) (T := TT) (Γ := cs_spec_DrawRunOften) (an := an_spec_DrawRunOften) (N := 8) (c := Try.f45.body.getD .skip) Try.func45 (by kernel_rfl) Try.ntmps45 (by decide) (by decide) mixed tabOK cok_spec_DrawRunOften (by kernel_rfl) ?_
  intro vs kk _ hF
  exact i_spec_DrawRunOften (motive := fun vs => Goes (ev TT cs_spec_DrawRunOften 8 an_spec_DrawRunOften (Try.f45.body.getD .skip) (st0 con_spec_DrawRunOften vs) (fin TT con_spec_DrawRunOften Try.f45.results.toList [.c (.sl .int), .c .sc] vs kk))) hF (fun code0 hF => goes_of (e_spec_DrawRunOften code0 kk) (F_spec_DrawRunOften_S hF))
def con_impl_validKey : Con := ⟨[.rd], true, [.c (.sc)], fun vs k => match vs with
    | [.c (.v (.int .i64 key0))] => F_impl_validKey key0 (fun r0 => k (.one (.c (.v (.bool r0)))) [])
    | _ => False, false⟩
def cl_impl_validKey : List (FuncId × Con) := []
def an_impl_validKey : Ann := ⟨[], [], []⟩
def cs_impl_validKey : Cons := ⟨cl_impl_validKey, [], 0, [], []⟩
def fin_impl_validKey (key0 : Int) (kk : AV → List A1 → Prop) : Kt := fin TT con_impl_validKey Try.f58.results.toList [.c .sc] [.c (.v (.int .i64 key0))] kk
theorem g_impl_validKey (key0 : Int) (kk : AV → List A1 → Prop) :
    ev TT cs_impl_validKey 9 an_impl_validKey (Try.f58.body.getD .skip) (st0 con_impl_validKey [.c (.v (.int .i64 key0))]) (fin TT con_impl_validKey Try.f58.results.toList [.c .sc] [.c (.v (.int .i64 key0))] kk) = G_impl_validKey key0 (fun r0 => kk (.one (.c (.v (.bool r0)))) []) := by kernel_rfl
theorem e_impl_validKey (key0 : Int) (kk : AV → List A1 → Prop) :
    ev TT cs_impl_validKey 9 an_impl_validKey (Try.f58.body.getD .skip) (st0 con_impl_validKey [.c (.v (.int .i64 key0))]) (fin TT con_impl_validKey Try.f58.results.toList [.c .sc] [.c (.v (.int .i64 key0))] kk) = S_impl_validKey key0 (fun r0 => kk (.one (.c (.v (.bool r0)))) []) := by
  rw [g_impl_validKey]
  rfl
theorem clok_impl_validKey : ConOK Try.prog cl_impl_validKey := consNil
theorem cok_impl_validKey : ConsOK Try.prog 9 cs_impl_validKey := ⟨clok_impl_validKey, inlNil⟩
theorem i_impl_validKey {vs : List A1} {kk : AV → List A1 → Prop} {motive : List A1 → Prop} (h : con_impl_validKey.F vs kk) (H : ∀ (key0 : Int), F_impl_validKey key0 (fun r0 => kk (.one (.c (.v (.bool r0)))) []) → motive [.c (.v (.int .i64 key0))]) : motive vs := by
  unfold con_impl_validKey at h
  dsimp only at h
  split at h
  · exact H _ h
  · exact h.elim
theorem h_impl_validKey : Holds Try.prog 58 con_impl_validKey := by
  refine holds_of_ev (rt := [.c .sc]) (T := TT) (Γ := cs_impl_validKey) (an := an_impl_validKey) (N := 9) (c := Try.f58.body.getD .skip) Try.func58 (by kernel_rfl) Try.ntmps58 (by decide) (by decide) mixed tabOK cok_impl_validKey (by kernel_rfl) ?_
  intro vs kk _ hF
  exact i_impl_validKey (motive := fun vs => Goes (ev TT cs_impl_validKey 9 an_impl_validKey (Try.f58.body.getD .skip) (st0 con_impl_validKey vs) (fin TT con_impl_validKey Try.f58.results.toList [.c .sc] vs kk))) hF (fun key0 hF => goes_of (e_impl_validKey key0 kk) (F_impl_validKey_S hF))
def con_impl_ValidTrace : Con := ⟨[.rd], true, [.c (.sl .int)], fun vs k => match vs with
    | [.c (.ro .int t0)] => F_impl_ValidTrace t0 (fun r0 => k (.one (.c (.v (.bool r0)))) [])
    | _ => False, false⟩
def cl_impl_ValidTrace : List (FuncId × Con) := [(58, con_impl_validKey)]
def nm0_impl_ValidTrace : List NStep := [.keep [8, 9, 10] []]
def an_impl_ValidTrace : Ann := ⟨[], [(4, nm0_impl_ValidTrace)], []⟩
def cs_impl_ValidTrace : Cons := ⟨cl_impl_ValidTrace, [], 0, [], []⟩
def can0_impl_ValidTrace (t0 : List Int) (xt9 : Int) (xt10 : Int) : St := ⟨[(8, .one (.c (.ro .int t0))), (9, .one (.c (.v (.int .i64 xt9)))), (10, .one (.c (.v (.int .i64 xt10))))], []⟩
def fin_impl_ValidTrace (t0 : List Int) (kk : AV → List A1 → Prop) : Kt := fin TT con_impl_ValidTrace Try.f23.results.toList [.c .sc] [.c (.ro .int t0)] kk
def kt0_impl_ValidTrace (kf : Kt) : Kt := blockK 0 (seqK (evF TT cs_impl_ValidTrace 18 an_impl_ValidTrace Try.f23 [1, 1, 1]) (kf))
theorem r0_impl_ValidTrace (t0 : List Int) (xt9 : Int) (kk : AV → List A1 → Prop) (n : Nat) (xt10 : Int) :
    iter (evF TT cs_impl_ValidTrace 18 an_impl_ValidTrace Try.f23 [1, 1, 0, 1, 0, 0]) nm0_impl_ValidTrace (kt0_impl_ValidTrace (fin_impl_ValidTrace t0 kk)) (n + 1) (can0_impl_ValidTrace t0 xt9 xt10) = T0_impl_ValidTrace t0 xt9 xt10 (fun r0 => kk (.one (.c (.v (.bool r0)))) []) (fun xt10 => iter (evF TT cs_impl_ValidTrace 18 an_impl_ValidTrace Try.f23 [1, 1, 0, 1, 0, 0]) nm0_impl_ValidTrace (kt0_impl_ValidTrace (fin_impl_ValidTrace t0 kk)) n (can0_impl_ValidTrace t0 xt9 xt10)) := by kernel_rfl
theorem l0_impl_ValidTrace (t0 : List Int) (xt9 : Int) (kk : AV → List A1 → Prop) : ∀ (n : Nat) (xt10 : Int), iter (evF TT cs_impl_ValidTrace 18 an_impl_ValidTrace Try.f23 [1, 1, 0, 1, 0, 0]) nm0_impl_ValidTrace (kt0_impl_ValidTrace (fin_impl_ValidTrace t0 kk)) n (can0_impl_ValidTrace t0 xt9 xt10) = L0_impl_ValidTrace t0 xt9 (fun r0 => kk (.one (.c (.v (.bool r0)))) []) n xt10 := by
  intro n
  induction n with
  | zero => intros; rfl
  | succ n ih =>
    intro xt10
    rw [r0_impl_ValidTrace t0 xt9 kk n xt10]
    have hb : (fun xt10 => iter (evF TT cs_impl_ValidTrace 18 an_impl_ValidTrace Try.f23 [1, 1, 0, 1, 0, 0]) nm0_impl_ValidTrace (kt0_impl_ValidTrace (fin_impl_ValidTrace t0 kk)) n (can0_impl_ValidTrace t0 xt9 xt10)) = L0_impl_ValidTrace t0 xt9 (fun r0 => kk (.one (.c (.v (.bool r0)))) []) n := by
      funext xt10; exact ih xt10
    rw [hb]
    rfl
theorem g_impl_ValidTrace (t0 : List Int) (kk : AV → List A1 → Prop) :
    ev TT cs_impl_ValidTrace 18 an_impl_ValidTrace (Try.f23.body.getD .skip) (st0 con_impl_ValidTrace [.c (.ro .int t0)]) (fin TT con_impl_ValidTrace Try.f23.results.toList [.c .sc] [.c (.ro .int t0)] kk) = G_impl_ValidTrace t0 (fun r0 => kk (.one (.c (.v (.bool r0)))) []) (fun t0 xt9 xt10 => ∃ j, iter (evF TT cs_impl_ValidTrace 18 an_impl_ValidTrace Try.f23 [1, 1, 0, 1, 0, 0]) nm0_impl_ValidTrace (kt0_impl_ValidTrace (fin_impl_ValidTrace t0 kk)) j (can0_impl_ValidTrace t0 xt9 xt10)) := by kernel_rfl
theorem e_impl_ValidTrace (t0 : List Int) (kk : AV → List A1 → Prop) :
    ev TT cs_impl_ValidTrace 18 an_impl_ValidTrace (Try.f23.body.getD .skip) (st0 con_impl_ValidTrace [.c (.ro .int t0)]) (fin TT con_impl_ValidTrace Try.f23.results.toList [.c .sc] [.c (.ro .int t0)] kk) = S_impl_ValidTrace t0 (fun r0 => kk (.one (.c (.v (.bool r0)))) []) := by
  rw [g_impl_ValidTrace]
  have hi0 : (fun t0 xt9 xt10 => ∃ j, iter (evF TT cs_impl_ValidTrace 18 an_impl_ValidTrace Try.f23 [1, 1, 0, 1, 0, 0]) nm0_impl_ValidTrace (kt0_impl_ValidTrace (fin_impl_ValidTrace t0 kk)) j (can0_impl_ValidTrace t0 xt9 xt10)) = (fun t0 xt9 xt10 => ∃ j, L0_impl_ValidTrace t0 xt9 (fun r0 => kk (.one (.c (.v (.bool r0)))) []) j xt10) := by
    funext t0 xt9 xt10
    refine congrArg Exists (funext fun j => ?_)
    rw [l0_impl_ValidTrace t0 xt9 kk j xt10]
  rw [hi0]
  rfl
theorem clok_impl_ValidTrace : ConOK Try.prog cl_impl_ValidTrace := consCons h_impl_validKey ⟨Try.f58, Try.func58, by kernel_rfl, ne_of_beq (by kernel_rfl)⟩ (consNil)
theorem cok_impl_ValidTrace : ConsOK Try.prog 18 cs_impl_ValidTrace := ⟨clok_impl_ValidTrace, inlNil⟩
theorem i_impl_ValidTrace {vs : List A1} {kk : AV → List A1 → Prop} {motive : List A1 → Prop} (h : con_impl_ValidTrace.F vs kk) (H : ∀ (t0 : List Int), F_impl_ValidTrace t0 (fun r0 => kk (.one (.c (.v (.bool r0)))) []) → motive [.c (.ro .int t0)]) : motive vs := by
  unfold con_impl_ValidTrace at h
  dsimp only at h
  split at h
  · exact H _ h
  · exact h.elim
theorem h_impl_ValidTrace : Holds Try.prog 23 con_impl_ValidTrace := by
  refine holds_of_ev (rt := [.c .sc]) (T := TT) (Γ := cs_impl_ValidTrace) (an := an_impl_ValidTrace) (N := 18) (c := Try.f23.body.getD .skip) Try.func23 (by kernel_rfl) Try.ntmps23 (by decide) (by decide) mixed tabOK cok_impl_ValidTrace (by kernel_rfl) ?_
  intro vs kk _ hF
  exact i_impl_ValidTrace (motive := fun vs => Goes (ev TT cs_impl_ValidTrace 18 an_impl_ValidTrace (Try.f23.body.getD .skip) (st0 con_impl_ValidTrace vs) (fin TT con_impl_ValidTrace Try.f23.results.toList [.c .sc] vs kk))) hF (fun t0 hF => goes_of (e_impl_ValidTrace t0 kk) (F_impl_ValidTrace_S hF))
def con_impl_validRoom : Con := ⟨[.rd], true, [.c (.sc)], fun vs k => match vs with
    | [.c (.v (.int .i64 room0))] => F_impl_validRoom room0 (fun r0 => k (.one (.c (.v (.bool r0)))) [])
    | _ => False, false⟩
def cl_impl_validRoom : List (FuncId × Con) := []
def an_impl_validRoom : Ann := ⟨[], [], []⟩
def cs_impl_validRoom : Cons := ⟨cl_impl_validRoom, [], 0, [], []⟩
def fin_impl_validRoom (room0 : Int) (kk : AV → List A1 → Prop) : Kt := fin TT con_impl_validRoom Try.f69.results.toList [.c .sc] [.c (.v (.int .i64 room0))] kk
theorem g_impl_validRoom (room0 : Int) (kk : AV → List A1 → Prop) :
    ev TT cs_impl_validRoom 9 an_impl_validRoom (Try.f69.body.getD .skip) (st0 con_impl_validRoom [.c (.v (.int .i64 room0))]) (fin TT con_impl_validRoom Try.f69.results.toList [.c .sc] [.c (.v (.int .i64 room0))] kk) = G_impl_validRoom room0 (fun r0 => kk (.one (.c (.v (.bool r0)))) []) := by kernel_rfl
theorem e_impl_validRoom (room0 : Int) (kk : AV → List A1 → Prop) :
    ev TT cs_impl_validRoom 9 an_impl_validRoom (Try.f69.body.getD .skip) (st0 con_impl_validRoom [.c (.v (.int .i64 room0))]) (fin TT con_impl_validRoom Try.f69.results.toList [.c .sc] [.c (.v (.int .i64 room0))] kk) = S_impl_validRoom room0 (fun r0 => kk (.one (.c (.v (.bool r0)))) []) := by
  rw [g_impl_validRoom]
  rfl
theorem clok_impl_validRoom : ConOK Try.prog cl_impl_validRoom := consNil
theorem cok_impl_validRoom : ConsOK Try.prog 9 cs_impl_validRoom := ⟨clok_impl_validRoom, inlNil⟩
theorem i_impl_validRoom {vs : List A1} {kk : AV → List A1 → Prop} {motive : List A1 → Prop} (h : con_impl_validRoom.F vs kk) (H : ∀ (room0 : Int), F_impl_validRoom room0 (fun r0 => kk (.one (.c (.v (.bool r0)))) []) → motive [.c (.v (.int .i64 room0))]) : motive vs := by
  unfold con_impl_validRoom at h
  dsimp only at h
  split at h
  · exact H _ h
  · exact h.elim
theorem h_impl_validRoom : Holds Try.prog 69 con_impl_validRoom := by
  refine holds_of_ev (rt := [.c .sc]) (T := TT) (Γ := cs_impl_validRoom) (an := an_impl_validRoom) (N := 9) (c := Try.f69.body.getD .skip) Try.func69 (by kernel_rfl) Try.ntmps69 (by decide) (by decide) mixed tabOK cok_impl_validRoom (by kernel_rfl) ?_
  intro vs kk _ hF
  exact i_impl_validRoom (motive := fun vs => Goes (ev TT cs_impl_validRoom 9 an_impl_validRoom (Try.f69.body.getD .skip) (st0 con_impl_validRoom vs) (fin TT con_impl_validRoom Try.f69.results.toList [.c .sc] vs kk))) hF (fun room0 hF => goes_of (e_impl_validRoom room0 kk) (F_impl_validRoom_S hF))
def con_impl_validTime : Con := ⟨[.rd], true, [.c (.sc)], fun vs k => match vs with
    | [.c (.v (.int .i64 time0))] => F_impl_validTime time0 (fun r0 => k (.one (.c (.v (.bool r0)))) [])
    | _ => False, false⟩
def cl_impl_validTime : List (FuncId × Con) := []
def an_impl_validTime : Ann := ⟨[], [], []⟩
def cs_impl_validTime : Cons := ⟨cl_impl_validTime, [], 0, [], []⟩
def fin_impl_validTime (time0 : Int) (kk : AV → List A1 → Prop) : Kt := fin TT con_impl_validTime Try.f101.results.toList [.c .sc] [.c (.v (.int .i64 time0))] kk
theorem g_impl_validTime (time0 : Int) (kk : AV → List A1 → Prop) :
    ev TT cs_impl_validTime 9 an_impl_validTime (Try.f101.body.getD .skip) (st0 con_impl_validTime [.c (.v (.int .i64 time0))]) (fin TT con_impl_validTime Try.f101.results.toList [.c .sc] [.c (.v (.int .i64 time0))] kk) = G_impl_validTime time0 (fun r0 => kk (.one (.c (.v (.bool r0)))) []) := by kernel_rfl
theorem e_impl_validTime (time0 : Int) (kk : AV → List A1 → Prop) :
    ev TT cs_impl_validTime 9 an_impl_validTime (Try.f101.body.getD .skip) (st0 con_impl_validTime [.c (.v (.int .i64 time0))]) (fin TT con_impl_validTime Try.f101.results.toList [.c .sc] [.c (.v (.int .i64 time0))] kk) = S_impl_validTime time0 (fun r0 => kk (.one (.c (.v (.bool r0)))) []) := by
  rw [g_impl_validTime]
  rfl
theorem clok_impl_validTime : ConOK Try.prog cl_impl_validTime := consNil
theorem cok_impl_validTime : ConsOK Try.prog 9 cs_impl_validTime := ⟨clok_impl_validTime, inlNil⟩
theorem i_impl_validTime {vs : List A1} {kk : AV → List A1 → Prop} {motive : List A1 → Prop} (h : con_impl_validTime.F vs kk) (H : ∀ (time0 : Int), F_impl_validTime time0 (fun r0 => kk (.one (.c (.v (.bool r0)))) []) → motive [.c (.v (.int .i64 time0))]) : motive vs := by
  unfold con_impl_validTime at h
  dsimp only at h
  split at h
  · exact H _ h
  · exact h.elim
theorem h_impl_validTime : Holds Try.prog 101 con_impl_validTime := by
  refine holds_of_ev (rt := [.c .sc]) (T := TT) (Γ := cs_impl_validTime) (an := an_impl_validTime) (N := 9) (c := Try.f101.body.getD .skip) Try.func101 (by kernel_rfl) Try.ntmps101 (by decide) (by decide) mixed tabOK cok_impl_validTime (by kernel_rfl) ?_
  intro vs kk _ hF
  exact i_impl_validTime (motive := fun vs => Goes (ev TT cs_impl_validTime 9 an_impl_validTime (Try.f101.body.getD .skip) (st0 con_impl_validTime vs) (fin TT con_impl_validTime Try.f101.results.toList [.c .sc] vs kk))) hF (fun time0 hF => goes_of (e_impl_validTime time0 kk) (F_impl_validTime_S hF))
def con_impl_validEntry : Con := ⟨[.rd], true, [.agg [.sc, .sc, .sc]], fun vs k => match vs with
    | [.agg [.v (.int .i64 e0Key), .v (.int .i64 e0Count), .v (.int .i64 e0Last)]] => F_impl_validEntry e0Key e0Count e0Last (fun r0 => k (.one (.c (.v (.bool r0)))) [])
    | _ => False, false⟩
def cl_impl_validEntry : List (FuncId × Con) := [(58, con_impl_validKey), (101, con_impl_validTime)]
def an_impl_validEntry : Ann := ⟨[], [], []⟩
def cs_impl_validEntry : Cons := ⟨cl_impl_validEntry, [], 0, [], []⟩
def fin_impl_validEntry (e0Key : Int) (e0Count : Int) (e0Last : Int) (kk : AV → List A1 → Prop) : Kt := fin TT con_impl_validEntry Try.f85.results.toList [.c .sc] [.agg [.v (.int .i64 e0Key), .v (.int .i64 e0Count), .v (.int .i64 e0Last)]] kk
theorem g_impl_validEntry (e0Key : Int) (e0Count : Int) (e0Last : Int) (kk : AV → List A1 → Prop) :
    ev TT cs_impl_validEntry 21 an_impl_validEntry (Try.f85.body.getD .skip) (st0 con_impl_validEntry [.agg [.v (.int .i64 e0Key), .v (.int .i64 e0Count), .v (.int .i64 e0Last)]]) (fin TT con_impl_validEntry Try.f85.results.toList [.c .sc] [.agg [.v (.int .i64 e0Key), .v (.int .i64 e0Count), .v (.int .i64 e0Last)]] kk) = G_impl_validEntry e0Key e0Count e0Last (fun r0 => kk (.one (.c (.v (.bool r0)))) []) := by kernel_rfl
theorem e_impl_validEntry (e0Key : Int) (e0Count : Int) (e0Last : Int) (kk : AV → List A1 → Prop) :
    ev TT cs_impl_validEntry 21 an_impl_validEntry (Try.f85.body.getD .skip) (st0 con_impl_validEntry [.agg [.v (.int .i64 e0Key), .v (.int .i64 e0Count), .v (.int .i64 e0Last)]]) (fin TT con_impl_validEntry Try.f85.results.toList [.c .sc] [.agg [.v (.int .i64 e0Key), .v (.int .i64 e0Count), .v (.int .i64 e0Last)]] kk) = S_impl_validEntry e0Key e0Count e0Last (fun r0 => kk (.one (.c (.v (.bool r0)))) []) := by
  rw [g_impl_validEntry]
  rfl
theorem clok_impl_validEntry : ConOK Try.prog cl_impl_validEntry := consCons h_impl_validKey ⟨Try.f58, Try.func58, by kernel_rfl, ne_of_beq (by kernel_rfl)⟩ (consCons h_impl_validTime ⟨Try.f101, Try.func101, by kernel_rfl, ne_of_beq (by kernel_rfl)⟩ (consNil))
theorem cok_impl_validEntry : ConsOK Try.prog 21 cs_impl_validEntry := ⟨clok_impl_validEntry, inlNil⟩
theorem i_impl_validEntry {vs : List A1} {kk : AV → List A1 → Prop} {motive : List A1 → Prop} (h : con_impl_validEntry.F vs kk) (H : ∀ (e0Key : Int) (e0Count : Int) (e0Last : Int), F_impl_validEntry e0Key e0Count e0Last (fun r0 => kk (.one (.c (.v (.bool r0)))) []) → motive [.agg [.v (.int .i64 e0Key), .v (.int .i64 e0Count), .v (.int .i64 e0Last)]]) : motive vs := by
  unfold con_impl_validEntry at h
  dsimp only at h
  split at h
  · exact H _ _ _ h
  · exact h.elim
theorem h_impl_validEntry : Holds Try.prog 85 con_impl_validEntry := by
  refine holds_of_ev (rt := [.c .sc]) (T := TT) (Γ := cs_impl_validEntry) (an := an_impl_validEntry) (N := 21) (c := Try.f85.body.getD .skip) Try.func85 (by kernel_rfl) Try.ntmps85 (by decide) (by decide) mixed tabOK cok_impl_validEntry (by kernel_rfl) ?_
  intro vs kk _ hF
  exact i_impl_validEntry (motive := fun vs => Goes (ev TT cs_impl_validEntry 21 an_impl_validEntry (Try.f85.body.getD .skip) (st0 con_impl_validEntry vs) (fin TT con_impl_validEntry Try.f85.results.toList [.c .sc] vs kk))) hF (fun e0Key e0Count e0Last hF => goes_of (e_impl_validEntry e0Key e0Count e0Last kk) (F_impl_validEntry_S hF))
def con_impl_Entry_collides : Con := ⟨[.rd, .rd], true, [.agg [.sc, .sc, .sc], .agg [.sc, .sc, .sc]], fun vs k => match vs with
    | [.agg [.v (.int .i64 e0Key), .v (.int .i64 e0Count), .v (.int .i64 e0Last)], .agg [.v (.int .i64 other1Key), .v (.int .i64 other1Count), .v (.int .i64 other1Last)]] => F_impl_Entry_collides e0Key e0Count e0Last other1Key other1Count other1Last (fun r0 => k (.one (.c (.v (.bool r0)))) [])
    | _ => False, false⟩
def cl_impl_Entry_collides : List (FuncId × Con) := []
def an_impl_Entry_collides : Ann := ⟨[], [], []⟩
def cs_impl_Entry_collides : Cons := ⟨cl_impl_Entry_collides, [], 0, [], []⟩
def fin_impl_Entry_collides (e0Key : Int) (e0Count : Int) (e0Last : Int) (other1Key : Int) (other1Count : Int) (other1Last : Int) (kk : AV → List A1 → Prop) : Kt := fin TT con_impl_Entry_collides Try.f87.results.toList [.c .sc] [.agg [.v (.int .i64 e0Key), .v (.int .i64 e0Count), .v (.int .i64 e0Last)], .agg [.v (.int .i64 other1Key), .v (.int .i64 other1Count), .v (.int .i64 other1Last)]] kk
theorem g_impl_Entry_collides (e0Key : Int) (e0Count : Int) (e0Last : Int) (other1Key : Int) (other1Count : Int) (other1Last : Int) (kk : AV → List A1 → Prop) :
    ev TT cs_impl_Entry_collides 17 an_impl_Entry_collides (Try.f87.body.getD .skip) (st0 con_impl_Entry_collides [.agg [.v (.int .i64 e0Key), .v (.int .i64 e0Count), .v (.int .i64 e0Last)], .agg [.v (.int .i64 other1Key), .v (.int .i64 other1Count), .v (.int .i64 other1Last)]]) (fin TT con_impl_Entry_collides Try.f87.results.toList [.c .sc] [.agg [.v (.int .i64 e0Key), .v (.int .i64 e0Count), .v (.int .i64 e0Last)], .agg [.v (.int .i64 other1Key), .v (.int .i64 other1Count), .v (.int .i64 other1Last)]] kk) = G_impl_Entry_collides e0Key e0Count e0Last other1Key other1Count other1Last (fun r0 => kk (.one (.c (.v (.bool r0)))) []) := by kernel_rfl
theorem e_impl_Entry_collides (e0Key : Int) (e0Count : Int) (e0Last : Int) (other1Key : Int) (other1Count : Int) (other1Last : Int) (kk : AV → List A1 → Prop) :
    ev TT cs_impl_Entry_collides 17 an_impl_Entry_collides (Try.f87.body.getD .skip) (st0 con_impl_Entry_collides [.agg [.v (.int .i64 e0Key), .v (.int .i64 e0Count), .v (.int .i64 e0Last)], .agg [.v (.int .i64 other1Key), .v (.int .i64 other1Count), .v (.int .i64 other1Last)]]) (fin TT con_impl_Entry_collides Try.f87.results.toList [.c .sc] [.agg [.v (.int .i64 e0Key), .v (.int .i64 e0Count), .v (.int .i64 e0Last)], .agg [.v (.int .i64 other1Key), .v (.int .i64 other1Count), .v (.int .i64 other1Last)]] kk) = S_impl_Entry_collides e0Key e0Count e0Last other1Key other1Count other1Last (fun r0 => kk (.one (.c (.v (.bool r0)))) []) := by
  rw [g_impl_Entry_collides]
  rfl
theorem clok_impl_Entry_collides : ConOK Try.prog cl_impl_Entry_collides := consNil
theorem cok_impl_Entry_collides : ConsOK Try.prog 17 cs_impl_Entry_collides := ⟨clok_impl_Entry_collides, inlNil⟩
theorem i_impl_Entry_collides {vs : List A1} {kk : AV → List A1 → Prop} {motive : List A1 → Prop} (h : con_impl_Entry_collides.F vs kk) (H : ∀ (e0Key : Int) (e0Count : Int) (e0Last : Int) (other1Key : Int) (other1Count : Int) (other1Last : Int), F_impl_Entry_collides e0Key e0Count e0Last other1Key other1Count other1Last (fun r0 => kk (.one (.c (.v (.bool r0)))) []) → motive [.agg [.v (.int .i64 e0Key), .v (.int .i64 e0Count), .v (.int .i64 e0Last)], .agg [.v (.int .i64 other1Key), .v (.int .i64 other1Count), .v (.int .i64 other1Last)]]) : motive vs := by
  unfold con_impl_Entry_collides at h
  dsimp only at h
  split at h
  · exact H _ _ _ _ _ _ h
  · exact h.elim
theorem h_impl_Entry_collides : Holds Try.prog 87 con_impl_Entry_collides := by
  refine holds_of_ev (rt := [.c .sc]) (T := TT) (Γ := cs_impl_Entry_collides) (an := an_impl_Entry_collides) (N := 17) (c := Try.f87.body.getD .skip) Try.func87 (by kernel_rfl) Try.ntmps87 (by decide) (by decide) mixed tabOK cok_impl_Entry_collides (by kernel_rfl) ?_
  intro vs kk _ hF
  exact i_impl_Entry_collides (motive := fun vs => Goes (ev TT cs_impl_Entry_collides 17 an_impl_Entry_collides (Try.f87.body.getD .skip) (st0 con_impl_Entry_collides vs) (fin TT con_impl_Entry_collides Try.f87.results.toList [.c .sc] vs kk))) hF (fun e0Key e0Count e0Last other1Key other1Count other1Last hF => goes_of (e_impl_Entry_collides e0Key e0Count e0Last other1Key other1Count other1Last kk) (F_impl_Entry_collides_S hF))
def con_slices_IndexFunc_Entry_Entry : Con := ⟨[.rd, .rd], true, [.c (.sl .iii), .c (.fn)], fun vs k => match vs with
    | [.c (.ro .iii s0), .c (.v (.func (.func 87) ⟨[.agg ⟨[.int .i64 f1fa00, .int .i64 f1fa01, .int .i64 f1fa02]⟩]⟩ ⟨[]⟩))] => F_slices_IndexFunc_Entry_Entry_Entry_collides s0 f1fa00 f1fa01 f1fa02 (fun r0 => k (.one (.c (.v (.int .i64 r0)))) [])
    | _ => False, false⟩
def cl_slices_IndexFunc_Entry_Entry_Entry_collides : List (FuncId × Con) := [(87, con_impl_Entry_collides)]
def nm0_slices_IndexFunc_Entry_Entry_Entry_collides : List NStep := [.keep [0, 1, 7, 8] []]
def an_slices_IndexFunc_Entry_Entry_Entry_collides : Ann := ⟨[], [(2, nm0_slices_IndexFunc_Entry_Entry_Entry_collides)], []⟩
def cs_slices_IndexFunc_Entry_Entry_Entry_collides : Cons := ⟨cl_slices_IndexFunc_Entry_Entry_Entry_collides, [], 0, [], []⟩
def can0_slices_IndexFunc_Entry_Entry_Entry_collides (f1fa00 : Int) (f1fa01 : Int) (f1fa02 : Int) (s0 : List (Int × Int × Int)) (xt7 : Int) (xt8 : Int) : St := ⟨[(0, .one (.c (.ro .iii s0))), (1, .one (.c (.v (.func (.func 87) ⟨[.agg ⟨[.int .i64 f1fa00, .int .i64 f1fa01, .int .i64 f1fa02]⟩]⟩ ⟨[]⟩)))), (7, .one (.c (.v (.int .i64 xt7)))), (8, .one (.c (.v (.int .i64 xt8))))], []⟩
def fin_slices_IndexFunc_Entry_Entry_Entry_collides (s0 : List (Int × Int × Int)) (f1fa00 : Int) (f1fa01 : Int) (f1fa02 : Int) (kk : AV → List A1 → Prop) : Kt := fin TT con_slices_IndexFunc_Entry_Entry Try.f106.results.toList [.c .sc] [.c (.ro .iii s0), .c (.v (.func (.func 87) ⟨[.agg ⟨[.int .i64 f1fa00, .int .i64 f1fa01, .int .i64 f1fa02]⟩]⟩ ⟨[]⟩))] kk
def kt0_slices_IndexFunc_Entry_Entry_Entry_collides (kf : Kt) : Kt := blockK 0 (seqK (evF TT cs_slices_IndexFunc_Entry_Entry_Entry_collides 19 an_slices_IndexFunc_Entry_Entry_Entry_collides Try.f106 [1, 1]) (kf))
theorem r0_slices_IndexFunc_Entry_Entry_Entry_collides (s0 : List (Int × Int × Int)) (f1fa00 : Int) (f1fa01 : Int) (f1fa02 : Int) (xt7 : Int) (kk : AV → List A1 → Prop) (n : Nat) (xt8 : Int) :
    iter (evF TT cs_slices_IndexFunc_Entry_Entry_Entry_collides 19 an_slices_IndexFunc_Entry_Entry_Entry_collides Try.f106 [1, 0, 1, 0, 0]) nm0_slices_IndexFunc_Entry_Entry_Entry_collides (kt0_slices_IndexFunc_Entry_Entry_Entry_collides (fin_slices_IndexFunc_Entry_Entry_Entry_collides s0 f1fa00 f1fa01 f1fa02 kk)) (n + 1) (can0_slices_IndexFunc_Entry_Entry_Entry_collides f1fa00 f1fa01 f1fa02 s0 xt7 xt8) = T0_slices_IndexFunc_Entry_Entry_Entry_collides f1fa00 f1fa01 f1fa02 s0 xt7 xt8 (fun r0 => kk (.one (.c (.v (.int .i64 r0)))) []) (fun xt8 => iter (evF TT cs_slices_IndexFunc_Entry_Entry_Entry_collides 19 an_slices_IndexFunc_Entry_Entry_Entry_collides Try.f106 [1, 0, 1, 0, 0]) nm0_slices_IndexFunc_Entry_Entry_Entry_collides (kt0_slices_IndexFunc_Entry_Entry_Entry_collides (fin_slices_IndexFunc_Entry_Entry_Entry_collides s0 f1fa00 f1fa01 f1fa02 kk)) n (can0_slices_IndexFunc_Entry_Entry_Entry_collides f1fa00 f1fa01 f1fa02 s0 xt7 xt8)) := by kernel_rfl
theorem l0_slices_IndexFunc_Entry_Entry_Entry_collides (s0 : List (Int × Int × Int)) (f1fa00 : Int) (f1fa01 : Int) (f1fa02 : Int) (xt7 : Int) (kk : AV → List A1 → Prop) : ∀ (n : Nat) (xt8 : Int), iter (evF TT cs_slices_IndexFunc_Entry_Entry_Entry_collides 19 an_slices_IndexFunc_Entry_Entry_Entry_collides Try.f106 [1, 0, 1, 0, 0]) nm0_slices_IndexFunc_Entry_Entry_Entry_collides (kt0_slices_IndexFunc_Entry_Entry_Entry_collides (fin_slices_IndexFunc_Entry_Entry_Entry_collides s0 f1fa00 f1fa01 f1fa02 kk)) n (can0_slices_IndexFunc_Entry_Entry_Entry_collides f1fa00 f1fa01 f1fa02 s0 xt7 xt8) = L0_slices_IndexFunc_Entry_Entry_Entry_collides f1fa00 f1fa01 f1fa02 s0 xt7 (fun r0 => kk (.one (.c (.v (.int .i64 r0)))) []) n xt8 := by
  intro n
  induction n with
  | zero => intros; rfl
  | succ n ih =>
    intro xt8
    rw [r0_slices_IndexFunc_Entry_Entry_Entry_collides s0 f1fa00 f1fa01 f1fa02 xt7 kk n xt8]
    have hb : (fun xt8 => iter (evF TT cs_slices_IndexFunc_Entry_Entry_Entry_collides 19 an_slices_IndexFunc_Entry_Entry_Entry_collides Try.f106 [1, 0, 1, 0, 0]) nm0_slices_IndexFunc_Entry_Entry_Entry_collides (kt0_slices_IndexFunc_Entry_Entry_Entry_collides (fin_slices_IndexFunc_Entry_Entry_Entry_collides s0 f1fa00 f1fa01 f1fa02 kk)) n (can0_slices_IndexFunc_Entry_Entry_Entry_collides f1fa00 f1fa01 f1fa02 s0 xt7 xt8)) = L0_slices_IndexFunc_Entry_Entry_Entry_collides f1fa00 f1fa01 f1fa02 s0 xt7 (fun r0 => kk (.one (.c (.v (.int .i64 r0)))) []) n := by
      funext xt8; exact ih xt8
    rw [hb]
    rfl
theorem g_slices_IndexFunc_Entry_Entry_Entry_collides (s0 : List (Int × Int × Int)) (f1fa00 : Int) (f1fa01 : Int) (f1fa02 : Int) (kk : AV → List A1 → Prop) :
    ev TT cs_slices_IndexFunc_Entry_Entry_Entry_collides 19 an_slices_IndexFunc_Entry_Entry_Entry_collides (Try.f106.body.getD .skip) (st0 con_slices_IndexFunc_Entry_Entry [.c (.ro .iii s0), .c (.v (.func (.func 87) ⟨[.agg ⟨[.int .i64 f1fa00, .int .i64 f1fa01, .int .i64 f1fa02]⟩]⟩ ⟨[]⟩))]) (fin TT con_slices_IndexFunc_Entry_Entry Try.f106.results.toList [.c .sc] [.c (.ro .iii s0), .c (.v (.func (.func 87) ⟨[.agg ⟨[.int .i64 f1fa00, .int .i64 f1fa01, .int .i64 f1fa02]⟩]⟩ ⟨[]⟩))] kk) = G_slices_IndexFunc_Entry_Entry_Entry_collides s0 f1fa00 f1fa01 f1fa02 (fun f1fa00 f1fa01 f1fa02 s0 xt7 xt8 => ∃ j, iter (evF TT cs_slices_IndexFunc_Entry_Entry_Entry_collides 19 an_slices_IndexFunc_Entry_Entry_Entry_collides Try.f106 [1, 0, 1, 0, 0]) nm0_slices_IndexFunc_Entry_Entry_Entry_collides (kt0_slices_IndexFunc_Entry_Entry_Entry_collides (fin_slices_IndexFunc_Entry_Entry_Entry_collides s0 f1fa00 f1fa01 f1fa02 kk)) j (can0_slices_IndexFunc_Entry_Entry_Entry_collides f1fa00 f1fa01 f1fa02 s0 xt7 xt8)) := by kernel_rfl
theorem e_slices_IndexFunc_Entry_Entry_Entry_collides (s0 : List (Int × Int × Int)) (f1fa00 : Int) (f1fa01 : Int) (f1fa02 : Int) (kk : AV → List A1 → Prop) :
    ev TT cs_slices_IndexFunc_Entry_Entry_Entry_collides 19 an_slices_IndexFunc_Entry_Entry_Entry_collides (Try.f106.body.getD .skip) (st0 con_slices_IndexFunc_Entry_Entry [.c (.ro .iii s0), .c (.v (.func (.func 87) ⟨[.agg ⟨[.int .i64 f1fa00, .int .i64 f1fa01, .int .i64 f1fa02]⟩]⟩ ⟨[]⟩))]) (fin TT con_slices_IndexFunc_Entry_Entry Try.f106.results.toList [.c .sc] [.c (.ro .iii s0), .c (.v (.func (.func 87) ⟨[.agg ⟨[.int .i64 f1fa00, .int .i64 f1fa01, .int .i64 f1fa02]⟩]⟩ ⟨[]⟩))] kk) = S_slices_IndexFunc_Entry_Entry_Entry_collides s0 f1fa00 f1fa01 f1fa02 (fun r0 => kk (.one (.c (.v (.int .i64 r0)))) []) := by
  rw [g_slices_IndexFunc_Entry_Entry_Entry_collides]
  have hi0 : (fun f1fa00 f1fa01 f1fa02 s0 xt7 xt8 => ∃ j, iter (evF TT cs_slices_IndexFunc_Entry_Entry_Entry_collides 19 an_slices_IndexFunc_Entry_Entry_Entry_collides Try.f106 [1, 0, 1, 0, 0]) nm0_slices_IndexFunc_Entry_Entry_Entry_collides (kt0_slices_IndexFunc_Entry_Entry_Entry_collides (fin_slices_IndexFunc_Entry_Entry_Entry_collides s0 f1fa00 f1fa01 f1fa02 kk)) j (can0_slices_IndexFunc_Entry_Entry_Entry_collides f1fa00 f1fa01 f1fa02 s0 xt7 xt8)) = (fun f1fa00 f1fa01 f1fa02 s0 xt7 xt8 => ∃ j, L0_slices_IndexFunc_Entry_Entry_Entry_collides f1fa00 f1fa01 f1fa02 s0 xt7 (fun r0 => kk (.one (.c (.v (.int .i64 r0)))) []) j xt8) := by
    funext f1fa00 f1fa01 f1fa02 s0 xt7 xt8
    refine congrArg Exists (funext fun j => ?_)
    rw [l0_slices_IndexFunc_Entry_Entry_Entry_collides s0 f1fa00 f1fa01 f1fa02 xt7 kk j xt8]
  rw [hi0]
  rfl
theorem clok_slices_IndexFunc_Entry_Entry_Entry_collides : ConOK Try.prog cl_slices_IndexFunc_Entry_Entry_Entry_collides := consCons h_impl_Entry_collides ⟨Try.f87, Try.func87, by kernel_rfl, ne_of_beq (by kernel_rfl)⟩ (consNil)
theorem cok_slices_IndexFunc_Entry_Entry_Entry_collides : ConsOK Try.prog 19 cs_slices_IndexFunc_Entry_Entry_Entry_collides := ⟨clok_slices_IndexFunc_Entry_Entry_Entry_collides, inlNil⟩
theorem i_slices_IndexFunc_Entry_Entry_Entry_collides {vs : List A1} {kk : AV → List A1 → Prop} {motive : List A1 → Prop} (h : con_slices_IndexFunc_Entry_Entry.F vs kk) (H : ∀ (s0 : List (Int × Int × Int)) (f1fa00 : Int) (f1fa01 : Int) (f1fa02 : Int), F_slices_IndexFunc_Entry_Entry_Entry_collides s0 f1fa00 f1fa01 f1fa02 (fun r0 => kk (.one (.c (.v (.int .i64 r0)))) []) → motive [.c (.ro .iii s0), .c (.v (.func (.func 87) ⟨[.agg ⟨[.int .i64 f1fa00, .int .i64 f1fa01, .int .i64 f1fa02]⟩]⟩ ⟨[]⟩))]) : motive vs := by
  unfold con_slices_IndexFunc_Entry_Entry at h
  dsimp only at h
  split at h
  · exact H _ _ _ _ h
  · exact h.elim
theorem h_slices_IndexFunc_Entry_Entry : Holds Try.prog 106 con_slices_IndexFunc_Entry_Entry := by
  refine holds_of_ev (rt := [.c .sc]) (T := TT) (Γ := cs_slices_IndexFunc_Entry_Entry_Entry_collides) (an := an_slices_IndexFunc_Entry_Entry_Entry_collides) (N := 19) (c := Try.f106.body.getD .skip) Try.func106 (by kernel_rfl) Try.ntmps106 (by decide) (by decide) mixed tabOK cok_slices_IndexFunc_Entry_Entry_Entry_collides (by kernel_rfl) ?_
  intro vs kk _ hF
  exact i_slices_IndexFunc_Entry_Entry_Entry_collides (motive := fun vs => Goes (ev TT cs_slices_IndexFunc_Entry_Entry_Entry_collides 19 an_slices_IndexFunc_Entry_Entry_Entry_collides (Try.f106.body.getD .skip) (st0 con_slices_IndexFunc_Entry_Entry vs) (fin TT con_slices_IndexFunc_Entry_Entry Try.f106.results.toList [.c .sc] vs kk))) hF (fun s0 f1fa00 f1fa01 f1fa02 hF => goes_of (e_slices_IndexFunc_Entry_Entry_Entry_collides s0 f1fa00 f1fa01 f1fa02 kk) (F_slices_IndexFunc_Entry_Entry_Entry_collides_S hF))
def con_slices_ContainsFunc_Entry_Entry : Con := ⟨[.rd, .rd], true, [.c (.sl .iii), .c (.fn)], fun vs k => match vs with
    | [.c (.ro .iii s0), .c (.v (.func (.func 87) ⟨[.agg ⟨[.int .i64 f1fa00, .int .i64 f1fa01, .int .i64 f1fa02]⟩]⟩ ⟨[]⟩))] => F_slices_ContainsFunc_Entry_Entry_Entry_collides s0 f1fa00 f1fa01 f1fa02 (fun r0 => k (.one (.c (.v (.bool r0)))) [])
    | _ => False, false⟩
def cl_slices_ContainsFunc_Entry_Entry_Entry_collides : List (FuncId × Con) := [(106, con_slices_IndexFunc_Entry_Entry)]
def an_slices_ContainsFunc_Entry_Entry_Entry_collides : Ann := ⟨[], [], []⟩
def cs_slices_ContainsFunc_Entry_Entry_Entry_collides : Cons := ⟨cl_slices_ContainsFunc_Entry_Entry_Entry_collides, [], 0, [], []⟩
def fin_slices_ContainsFunc_Entry_Entry_Entry_collides (s0 : List (Int × Int × Int)) (f1fa00 : Int) (f1fa01 : Int) (f1fa02 : Int) (kk : AV → List A1 → Prop) : Kt := fin TT con_slices_ContainsFunc_Entry_Entry Try.f86.results.toList [.c .sc] [.c (.ro .iii s0), .c (.v (.func (.func 87) ⟨[.agg ⟨[.int .i64 f1fa00, .int .i64 f1fa01, .int .i64 f1fa02]⟩]⟩ ⟨[]⟩))] kk
theorem g_slices_ContainsFunc_Entry_Entry_Entry_collides (s0 : List (Int × Int × Int)) (f1fa00 : Int) (f1fa01 : Int) (f1fa02 : Int) (kk : AV → List A1 → Prop) :
    ev TT cs_slices_ContainsFunc_Entry_Entry_Entry_collides 9 an_slices_ContainsFunc_Entry_Entry_Entry_collides (Try.f86.body.getD .skip) (st0 con_slices_ContainsFunc_Entry_Entry [.c (.ro .iii s0), .c (.v (.func (.func 87) ⟨[.agg ⟨[.int .i64 f1fa00, .int .i64 f1fa01, .int .i64 f1fa02]⟩]⟩ ⟨[]⟩))]) (fin TT con_slices_ContainsFunc_Entry_Entry Try.f86.results.toList [.c .sc] [.c (.ro .iii s0), .c (.v (.func (.func 87) ⟨[.agg ⟨[.int .i64 f1fa00, .int .i64 f1fa01, .int .i64 f1fa02]⟩]⟩ ⟨[]⟩))] kk) = G_slices_ContainsFunc_Entry_Entry_Entry_collides s0 f1fa00 f1fa01 f1fa02 (fun r0 => kk (.one (.c (.v (.bool r0)))) []) := by kernel_rfl
theorem e_slices_ContainsFunc_Entry_Entry_Entry_collides (s0 : List (Int × Int × Int)) (f1fa00 : Int) (f1fa01 : Int) (f1fa02 : Int) (kk : AV → List A1 → Prop) :
    ev TT cs_slices_ContainsFunc_Entry_Entry_Entry_collides 9 an_slices_ContainsFunc_Entry_Entry_Entry_collides (Try.f86.body.getD .skip) (st0 con_slices_ContainsFunc_Entry_Entry [.c (.ro .iii s0), .c (.v (.func (.func 87) ⟨[.agg ⟨[.int .i64 f1fa00, .int .i64 f1fa01, .int .i64 f1fa02]⟩]⟩ ⟨[]⟩))]) (fin TT con_slices_ContainsFunc_Entry_Entry Try.f86.results.toList [.c .sc] [.c (.ro .iii s0), .c (.v (.func (.func 87) ⟨[.agg ⟨[.int .i64 f1fa00, .int .i64 f1fa01, .int .i64 f1fa02]⟩]⟩ ⟨[]⟩))] kk) = S_slices_ContainsFunc_Entry_Entry_Entry_collides s0 f1fa00 f1fa01 f1fa02 (fun r0 => kk (.one (.c (.v (.bool r0)))) []) := by
  rw [g_slices_ContainsFunc_Entry_Entry_Entry_collides]
  rfl
theorem clok_slices_ContainsFunc_Entry_Entry_Entry_collides : ConOK Try.prog cl_slices_ContainsFunc_Entry_Entry_Entry_collides := consCons h_slices_IndexFunc_Entry_Entry ⟨Try.f106, Try.func106, by kernel_rfl, ne_of_beq (by kernel_rfl)⟩ (consNil)
theorem cok_slices_ContainsFunc_Entry_Entry_Entry_collides : ConsOK Try.prog 9 cs_slices_ContainsFunc_Entry_Entry_Entry_collides := ⟨clok_slices_ContainsFunc_Entry_Entry_Entry_collides, inlNil⟩
theorem i_slices_ContainsFunc_Entry_Entry_Entry_collides {vs : List A1} {kk : AV → List A1 → Prop} {motive : List A1 → Prop} (h : con_slices_ContainsFunc_Entry_Entry.F vs kk) (H : ∀ (s0 : List (Int × Int × Int)) (f1fa00 : Int) (f1fa01 : Int) (f1fa02 : Int), F_slices_ContainsFunc_Entry_Entry_Entry_collides s0 f1fa00 f1fa01 f1fa02 (fun r0 => kk (.one (.c (.v (.bool r0)))) []) → motive [.c (.ro .iii s0), .c (.v (.func (.func 87) ⟨[.agg ⟨[.int .i64 f1fa00, .int .i64 f1fa01, .int .i64 f1fa02]⟩]⟩ ⟨[]⟩))]) : motive vs := by
  unfold con_slices_ContainsFunc_Entry_Entry at h
  dsimp only at h
  split at h
  · exact H _ _ _ _ h
  · exact h.elim
theorem h_slices_ContainsFunc_Entry_Entry : Holds Try.prog 86 con_slices_ContainsFunc_Entry_Entry := by
  refine holds_of_ev (rt := [.c .sc]) (T := TT) (Γ := cs_slices_ContainsFunc_Entry_Entry_Entry_collides) (an := an_slices_ContainsFunc_Entry_Entry_Entry_collides) (N := 9) (c := Try.f86.body.getD .skip) Try.func86 (by kernel_rfl) Try.ntmps86 (by decide) (by decide) mixed tabOK cok_slices_ContainsFunc_Entry_Entry_Entry_collides (by kernel_rfl) ?_
  intro vs kk _ hF
  exact i_slices_ContainsFunc_Entry_Entry_Entry_collides (motive := fun vs => Goes (ev TT cs_slices_ContainsFunc_Entry_Entry_Entry_collides 9 an_slices_ContainsFunc_Entry_Entry_Entry_collides (Try.f86.body.getD .skip) (st0 con_slices_ContainsFunc_Entry_Entry vs) (fin TT con_slices_ContainsFunc_Entry_Entry Try.f86.results.toList [.c .sc] vs kk))) hF (fun s0 f1fa00 f1fa01 f1fa02 hF => goes_of (e_slices_ContainsFunc_Entry_Entry_Entry_collides s0 f1fa00 f1fa01 f1fa02 kk) (F_slices_ContainsFunc_Entry_Entry_Entry_collides_S hF))
def con_impl_ValidEntries : Con := ⟨[.rd, .rd], true, [.c (.sl .iii), .c (.sc)], fun vs k => match vs with
    | [.c (.ro .iii list0), .c (.v (.int .i64 room1))] => F_impl_ValidEntries list0 room1 (fun r0 => k (.one (.c (.v (.bool r0)))) [])
    | _ => False, false⟩
def cl_impl_ValidEntries : List (FuncId × Con) := [(69, con_impl_validRoom), (85, con_impl_validEntry), (86, con_slices_ContainsFunc_Entry_Entry)]
def nm0_impl_ValidEntries : List NStep := [.keep [0, 16, 17, 18] []]
def an_impl_ValidEntries : Ann := ⟨[(6, .take 0 (.alt 1 (.take 2 (.take 3 (.take 4 (.take 5 (.take 6 (.take 7 (.take 8 (.alt 9 (.take 10 (.done)) (.none))))))))) (.none)), [96])], [(4, nm0_impl_ValidEntries)], []⟩
def cs_impl_ValidEntries : Cons := ⟨cl_impl_ValidEntries, [], 0, [], []⟩
def can0_impl_ValidEntries (list0 : List (Int × Int × Int)) (xt17 : Int) (xt18 : Int) : St := ⟨[(0, .one (.c (.ro .iii list0))), (16, .one (.c (.ro .iii list0))), (17, .one (.c (.v (.int .i64 xt17)))), (18, .one (.c (.v (.int .i64 xt18))))], []⟩
def fin_impl_ValidEntries (list0 : List (Int × Int × Int)) (room1 : Int) (kk : AV → List A1 → Prop) : Kt := fin TT con_impl_ValidEntries Try.f49.results.toList [.c .sc] [.c (.ro .iii list0), .c (.v (.int .i64 room1))] kk
def kt0_impl_ValidEntries (kf : Kt) : Kt := blockK 0 (seqK (evF TT cs_impl_ValidEntries 35 an_impl_ValidEntries Try.f49 [1, 1, 1]) (kf))
theorem r0_impl_ValidEntries (list0 : List (Int × Int × Int)) (room1 : Int) (xt17 : Int) (kk : AV → List A1 → Prop) (n : Nat) (xt18 : Int) :
    iter (evF TT cs_impl_ValidEntries 35 an_impl_ValidEntries Try.f49 [1, 1, 0, 1, 0, 0]) nm0_impl_ValidEntries (kt0_impl_ValidEntries (fin_impl_ValidEntries list0 room1 kk)) (n + 1) (can0_impl_ValidEntries list0 xt17 xt18) = T0_impl_ValidEntries list0 xt17 xt18 (fun r0 => kk (.one (.c (.v (.bool r0)))) []) (fun xt18 => iter (evF TT cs_impl_ValidEntries 35 an_impl_ValidEntries Try.f49 [1, 1, 0, 1, 0, 0]) nm0_impl_ValidEntries (kt0_impl_ValidEntries (fin_impl_ValidEntries list0 room1 kk)) n (can0_impl_ValidEntries list0 xt17 xt18)) := by kernel_rfl
theorem l0_impl_ValidEntries (list0 : List (Int × Int × Int)) (room1 : Int) (xt17 : Int) (kk : AV → List A1 → Prop) : ∀ (n : Nat) (xt18 : Int), iter (evF TT cs_impl_ValidEntries 35 an_impl_ValidEntries Try.f49 [1, 1, 0, 1, 0, 0]) nm0_impl_ValidEntries (kt0_impl_ValidEntries (fin_impl_ValidEntries list0 room1 kk)) n (can0_impl_ValidEntries list0 xt17 xt18) = L0_impl_ValidEntries list0 xt17 (fun r0 => kk (.one (.c (.v (.bool r0)))) []) n xt18 := by
  intro n
  induction n with
  | zero => intros; rfl
  | succ n ih =>
    intro xt18
    rw [r0_impl_ValidEntries list0 room1 xt17 kk n xt18]
    have hb : (fun xt18 => iter (evF TT cs_impl_ValidEntries 35 an_impl_ValidEntries Try.f49 [1, 1, 0, 1, 0, 0]) nm0_impl_ValidEntries (kt0_impl_ValidEntries (fin_impl_ValidEntries list0 room1 kk)) n (can0_impl_ValidEntries list0 xt17 xt18)) = L0_impl_ValidEntries list0 xt17 (fun r0 => kk (.one (.c (.v (.bool r0)))) []) n := by
      funext xt18; exact ih xt18
    rw [hb]
    rw [T0_impl_ValidEntries_eq]
    rfl
theorem g_impl_ValidEntries (list0 : List (Int × Int × Int)) (room1 : Int) (kk : AV → List A1 → Prop) :
    ev TT cs_impl_ValidEntries 35 an_impl_ValidEntries (Try.f49.body.getD .skip) (st0 con_impl_ValidEntries [.c (.ro .iii list0), .c (.v (.int .i64 room1))]) (fin TT con_impl_ValidEntries Try.f49.results.toList [.c .sc] [.c (.ro .iii list0), .c (.v (.int .i64 room1))] kk) = G_impl_ValidEntries list0 room1 (fun r0 => kk (.one (.c (.v (.bool r0)))) []) (fun list0 xt17 xt18 => ∃ j, iter (evF TT cs_impl_ValidEntries 35 an_impl_ValidEntries Try.f49 [1, 1, 0, 1, 0, 0]) nm0_impl_ValidEntries (kt0_impl_ValidEntries (fin_impl_ValidEntries list0 room1 kk)) j (can0_impl_ValidEntries list0 xt17 xt18)) := by kernel_rfl
theorem e_impl_ValidEntries (list0 : List (Int × Int × Int)) (room1 : Int) (kk : AV → List A1 → Prop) :
    ev TT cs_impl_ValidEntries 35 an_impl_ValidEntries (Try.f49.body.getD .skip) (st0 con_impl_ValidEntries [.c (.ro .iii list0), .c (.v (.int .i64 room1))]) (fin TT con_impl_ValidEntries Try.f49.results.toList [.c .sc] [.c (.ro .iii list0), .c (.v (.int .i64 room1))] kk) = S_impl_ValidEntries list0 room1 (fun r0 => kk (.one (.c (.v (.bool r0)))) []) := by
  rw [g_impl_ValidEntries]
  have hi0 : (fun list0 xt17 xt18 => ∃ j, iter (evF TT cs_impl_ValidEntries 35 an_impl_ValidEntries Try.f49 [1, 1, 0, 1, 0, 0]) nm0_impl_ValidEntries (kt0_impl_ValidEntries (fin_impl_ValidEntries list0 room1 kk)) j (can0_impl_ValidEntries list0 xt17 xt18)) = (fun list0 xt17 xt18 => ∃ j, L0_impl_ValidEntries list0 xt17 (fun r0 => kk (.one (.c (.v (.bool r0)))) []) j xt18) := by
    funext list0 xt17 xt18
    refine congrArg Exists (funext fun j => ?_)
    rw [l0_impl_ValidEntries list0 room1 xt17 kk j xt18]
  rw [hi0]
  rfl
theorem clok_impl_ValidEntries : ConOK Try.prog cl_impl_ValidEntries := consCons h_impl_validRoom ⟨Try.f69, Try.func69, by kernel_rfl, ne_of_beq (by kernel_rfl)⟩ (consCons h_impl_validEntry ⟨Try.f85, Try.func85, by kernel_rfl, ne_of_beq (by kernel_rfl)⟩ (consCons h_slices_ContainsFunc_Entry_Entry ⟨Try.f86, Try.func86, by kernel_rfl, ne_of_beq (by kernel_rfl)⟩ (consNil)))
theorem cok_impl_ValidEntries : ConsOK Try.prog 35 cs_impl_ValidEntries := ⟨clok_impl_ValidEntries, inlNil⟩
theorem i_impl_ValidEntries {vs : List A1} {kk : AV → List A1 → Prop} {motive : List A1 → Prop} (h : con_impl_ValidEntries.F vs kk) (H : ∀ (list0 : List (Int × Int × Int)) (room1 : Int), F_impl_ValidEntries list0 room1 (fun r0 => kk (.one (.c (.v (.bool r0)))) []) → motive [.c (.ro .iii list0), .c (.v (.int .i64 room1))]) : motive vs := by
  unfold con_impl_ValidEntries at h
  dsimp only at h
  split at h
  · exact H _ _ h
  · exact h.elim
theorem h_impl_ValidEntries : Holds Try.prog 49 con_impl_ValidEntries := by
  refine holds_of_ev (rt := [.c .sc]) (T := TT) (Γ := cs_impl_ValidEntries) (an := an_impl_ValidEntries) (N := 35) (c := Try.f49.body.getD .skip) Try.func49 (by kernel_rfl) Try.ntmps49 (by decide) (by decide) mixed tabOK cok_impl_ValidEntries (by kernel_rfl) ?_
  intro vs kk _ hF
  exact i_impl_ValidEntries (motive := fun vs => Goes (ev TT cs_impl_ValidEntries 35 an_impl_ValidEntries (Try.f49.body.getD .skip) (st0 con_impl_ValidEntries vs) (fin TT con_impl_ValidEntries Try.f49.results.toList [.c .sc] vs kk))) hF (fun list0 room1 hF => goes_of (e_impl_ValidEntries list0 room1 kk) (F_impl_ValidEntries_S hF))
def con_cmp_isNaN_int : Con := ⟨[.rd], true, [.c (.sc)], fun vs k => match vs with
    | [.c (.v (.int .i64 x0))] => F_cmp_isNaN_int x0 (fun r0 => k (.one (.c (.v (.bool r0)))) [])
    | _ => False, false⟩
def cl_cmp_isNaN_int : List (FuncId × Con) := []
def an_cmp_isNaN_int : Ann := ⟨[], [], []⟩
def cs_cmp_isNaN_int : Cons := ⟨cl_cmp_isNaN_int, [], 0, [], []⟩
def fin_cmp_isNaN_int (x0 : Int) (kk : AV → List A1 → Prop) : Kt := fin TT con_cmp_isNaN_int Try.f112.results.toList [.c .sc] [.c (.v (.int .i64 x0))] kk
theorem g_cmp_isNaN_int (x0 : Int) (kk : AV → List A1 → Prop) :
    ev TT cs_cmp_isNaN_int 6 an_cmp_isNaN_int (Try.f112.body.getD .skip) (st0 con_cmp_isNaN_int [.c (.v (.int .i64 x0))]) (fin TT con_cmp_isNaN_int Try.f112.results.toList [.c .sc] [.c (.v (.int .i64 x0))] kk) = G_cmp_isNaN_int x0 (fun r0 => kk (.one (.c (.v (.bool r0)))) []) := by kernel_rfl
theorem e_cmp_isNaN_int (x0 : Int) (kk : AV → List A1 → Prop) :
    ev TT cs_cmp_isNaN_int 6 an_cmp_isNaN_int (Try.f112.body.getD .skip) (st0 con_cmp_isNaN_int [.c (.v (.int .i64 x0))]) (fin TT con_cmp_isNaN_int Try.f112.results.toList [.c .sc] [.c (.v (.int .i64 x0))] kk) = S_cmp_isNaN_int x0 (fun r0 => kk (.one (.c (.v (.bool r0)))) []) := by
  rw [g_cmp_isNaN_int]
  rfl
theorem clok_cmp_isNaN_int : ConOK Try.prog cl_cmp_isNaN_int := consNil
theorem cok_cmp_isNaN_int : ConsOK Try.prog 6 cs_cmp_isNaN_int := ⟨clok_cmp_isNaN_int, inlNil⟩
theorem i_cmp_isNaN_int {vs : List A1} {kk : AV → List A1 → Prop} {motive : List A1 → Prop} (h : con_cmp_isNaN_int.F vs kk) (H : ∀ (x0 : Int), F_cmp_isNaN_int x0 (fun r0 => kk (.one (.c (.v (.bool r0)))) []) → motive [.c (.v (.int .i64 x0))]) : motive vs := by
  unfold con_cmp_isNaN_int at h
  dsimp only at h
  split at h
  · exact H _ h
  · exact h.elim
theorem h_cmp_isNaN_int : Holds Try.prog 112 con_cmp_isNaN_int := by
  refine holds_of_ev (rt := [.c .sc]) (T := TT) (Γ := cs_cmp_isNaN_int) (an := an_cmp_isNaN_int) (N := 6) (c := Try.f112.body.getD .skip) Try.func112 (by kernel_rfl) Try.ntmps112 (by decide) (by decide) mixed tabOK cok_cmp_isNaN_int (by kernel_rfl) ?_
  intro vs kk _ hF
  exact i_cmp_isNaN_int (motive := fun vs => Goes (ev TT cs_cmp_isNaN_int 6 an_cmp_isNaN_int (Try.f112.body.getD .skip) (st0 con_cmp_isNaN_int vs) (fin TT con_cmp_isNaN_int Try.f112.results.toList [.c .sc] vs kk))) hF (fun x0 hF => goes_of (e_cmp_isNaN_int x0 kk) (F_cmp_isNaN_int_S hF))
def con_cmp_Compare_int : Con := ⟨[.rd, .rd], true, [.c (.sc), .c (.sc)], fun vs k => match vs with
    | [.c (.v (.int .i64 x0)), .c (.v (.int .i64 y1))] => F_cmp_Compare_int x0 y1 (fun r0 => k (.one (.c (.v (.int .i64 r0)))) [])
    | _ => False, false⟩
def cl_cmp_Compare_int : List (FuncId × Con) := [(112, con_cmp_isNaN_int)]
def an_cmp_Compare_int : Ann := ⟨[], [], []⟩
def cs_cmp_Compare_int : Cons := ⟨cl_cmp_Compare_int, [], 0, [], []⟩
def fin_cmp_Compare_int (x0 : Int) (y1 : Int) (kk : AV → List A1 → Prop) : Kt := fin TT con_cmp_Compare_int Try.f110.results.toList [.c .sc] [.c (.v (.int .i64 x0)), .c (.v (.int .i64 y1))] kk
theorem g_cmp_Compare_int (x0 : Int) (y1 : Int) (kk : AV → List A1 → Prop) :
    ev TT cs_cmp_Compare_int 20 an_cmp_Compare_int (Try.f110.body.getD .skip) (st0 con_cmp_Compare_int [.c (.v (.int .i64 x0)), .c (.v (.int .i64 y1))]) (fin TT con_cmp_Compare_int Try.f110.results.toList [.c .sc] [.c (.v (.int .i64 x0)), .c (.v (.int .i64 y1))] kk) = G_cmp_Compare_int x0 y1 (fun r0 => kk (.one (.c (.v (.int .i64 r0)))) []) := by kernel_rfl
theorem e_cmp_Compare_int (x0 : Int) (y1 : Int) (kk : AV → List A1 → Prop) :
    ev TT cs_cmp_Compare_int 20 an_cmp_Compare_int (Try.f110.body.getD .skip) (st0 con_cmp_Compare_int [.c (.v (.int .i64 x0)), .c (.v (.int .i64 y1))]) (fin TT con_cmp_Compare_int Try.f110.results.toList [.c .sc] [.c (.v (.int .i64 x0)), .c (.v (.int .i64 y1))] kk) = S_cmp_Compare_int x0 y1 (fun r0 => kk (.one (.c (.v (.int .i64 r0)))) []) := by
  rw [g_cmp_Compare_int]
  rfl
theorem clok_cmp_Compare_int : ConOK Try.prog cl_cmp_Compare_int := consCons h_cmp_isNaN_int ⟨Try.f112, Try.func112, by kernel_rfl, ne_of_beq (by kernel_rfl)⟩ (consNil)
theorem cok_cmp_Compare_int : ConsOK Try.prog 20 cs_cmp_Compare_int := ⟨clok_cmp_Compare_int, inlNil⟩
theorem i_cmp_Compare_int {vs : List A1} {kk : AV → List A1 → Prop} {motive : List A1 → Prop} (h : con_cmp_Compare_int.F vs kk) (H : ∀ (x0 : Int) (y1 : Int), F_cmp_Compare_int x0 y1 (fun r0 => kk (.one (.c (.v (.int .i64 r0)))) []) → motive [.c (.v (.int .i64 x0)), .c (.v (.int .i64 y1))]) : motive vs := by
  unfold con_cmp_Compare_int at h
  dsimp only at h
  split at h
  · exact H _ _ h
  · exact h.elim
theorem h_cmp_Compare_int : Holds Try.prog 110 con_cmp_Compare_int := by
  refine holds_of_ev (rt := [.c .sc]) (T := TT) (Γ := cs_cmp_Compare_int) (an := an_cmp_Compare_int) (N := 20) (c := Try.f110.body.getD .skip) Try.func110 (by kernel_rfl) Try.ntmps110 (by decide) (by decide) mixed tabOK cok_cmp_Compare_int (by kernel_rfl) ?_
  intro vs kk _ hF
  exact i_cmp_Compare_int (motive := fun vs => Goes (ev TT cs_cmp_Compare_int 20 an_cmp_Compare_int (Try.f110.body.getD .skip) (st0 con_cmp_Compare_int vs) (fin TT con_cmp_Compare_int Try.f110.results.toList [.c .sc] vs kk))) hF (fun x0 y1 hF => goes_of (e_cmp_Compare_int x0 y1 kk) (F_cmp_Compare_int_S hF))
def con_cmp_Or_int : Con := ⟨[.rd], true, [.c (.sl .int)], fun vs k => match vs with
    | [.c (.ro .int vals0)] => F_cmp_Or_int vals0 (fun r0 => k (.one (.c (.v (.int .i64 r0)))) [])
    | _ => False, false⟩
def cl_cmp_Or_int : List (FuncId × Con) := []
def nm0_cmp_Or_int : List NStep := [.keep [3, 6, 7, 8] []]
def an_cmp_Or_int : Ann := ⟨[], [(3, nm0_cmp_Or_int)], []⟩
def cs_cmp_Or_int : Cons := ⟨cl_cmp_Or_int, [], 0, [], []⟩
def can0_cmp_Or_int (vals0 : List Int) (xt7 : Int) (xt8 : Int) : St := ⟨[(3, .one (.c (.v (.int .i64 0)))), (6, .one (.c (.ro .int vals0))), (7, .one (.c (.v (.int .i64 xt7)))), (8, .one (.c (.v (.int .i64 xt8))))], []⟩
def fin_cmp_Or_int (vals0 : List Int) (kk : AV → List A1 → Prop) : Kt := fin TT con_cmp_Or_int Try.f109.results.toList [.c .sc] [.c (.ro .int vals0)] kk
def kt0_cmp_Or_int (kf : Kt) : Kt := blockK 0 (seqK (evF TT cs_cmp_Or_int 18 an_cmp_Or_int Try.f109 [1, 1, 1]) (kf))
theorem r0_cmp_Or_int (vals0 : List Int) (xt7 : Int) (kk : AV → List A1 → Prop) (n : Nat) (xt8 : Int) :
    iter (evF TT cs_cmp_Or_int 18 an_cmp_Or_int Try.f109 [1, 1, 0, 1, 0, 0]) nm0_cmp_Or_int (kt0_cmp_Or_int (fin_cmp_Or_int vals0 kk)) (n + 1) (can0_cmp_Or_int vals0 xt7 xt8) = T0_cmp_Or_int vals0 xt7 xt8 (fun r0 => kk (.one (.c (.v (.int .i64 r0)))) []) (fun xt8 => iter (evF TT cs_cmp_Or_int 18 an_cmp_Or_int Try.f109 [1, 1, 0, 1, 0, 0]) nm0_cmp_Or_int (kt0_cmp_Or_int (fin_cmp_Or_int vals0 kk)) n (can0_cmp_Or_int vals0 xt7 xt8)) := by kernel_rfl
theorem l0_cmp_Or_int (vals0 : List Int) (xt7 : Int) (kk : AV → List A1 → Prop) : ∀ (n : Nat) (xt8 : Int), iter (evF TT cs_cmp_Or_int 18 an_cmp_Or_int Try.f109 [1, 1, 0, 1, 0, 0]) nm0_cmp_Or_int (kt0_cmp_Or_int (fin_cmp_Or_int vals0 kk)) n (can0_cmp_Or_int vals0 xt7 xt8) = L0_cmp_Or_int vals0 xt7 (fun r0 => kk (.one (.c (.v (.int .i64 r0)))) []) n xt8 := by
  intro n
  induction n with
  | zero => intros; rfl
  | succ n ih =>
    intro xt8
    rw [r0_cmp_Or_int vals0 xt7 kk n xt8]
    have hb : (fun xt8 => iter (evF TT cs_cmp_Or_int 18 an_cmp_Or_int Try.f109 [1, 1, 0, 1, 0, 0]) nm0_cmp_Or_int (kt0_cmp_Or_int (fin_cmp_Or_int vals0 kk)) n (can0_cmp_Or_int vals0 xt7 xt8)) = L0_cmp_Or_int vals0 xt7 (fun r0 => kk (.one (.c (.v (.int .i64 r0)))) []) n := by
      funext xt8; exact ih xt8
    rw [hb]
    rfl
theorem g_cmp_Or_int (vals0 : List Int) (kk : AV → List A1 → Prop) :
    ev TT cs_cmp_Or_int 18 an_cmp_Or_int (Try.f109.body.getD .skip) (st0 con_cmp_Or_int [.c (.ro .int vals0)]) (fin TT con_cmp_Or_int Try.f109.results.toList [.c .sc] [.c (.ro .int vals0)] kk) = G_cmp_Or_int vals0 (fun vals0 xt7 xt8 => ∃ j, iter (evF TT cs_cmp_Or_int 18 an_cmp_Or_int Try.f109 [1, 1, 0, 1, 0, 0]) nm0_cmp_Or_int (kt0_cmp_Or_int (fin_cmp_Or_int vals0 kk)) j (can0_cmp_Or_int vals0 xt7 xt8)) := by kernel_rfl
theorem e_cmp_Or_int (vals0 : List Int) (kk : AV → List A1 → Prop) :
    ev TT cs_cmp_Or_int 18 an_cmp_Or_int (Try.f109.body.getD .skip) (st0 con_cmp_Or_int [.c (.ro .int vals0)]) (fin TT con_cmp_Or_int Try.f109.results.toList [.c .sc] [.c (.ro .int vals0)] kk) = S_cmp_Or_int vals0 (fun r0 => kk (.one (.c (.v (.int .i64 r0)))) []) := by
  rw [g_cmp_Or_int]
  have hi0 : (fun vals0 xt7 xt8 => ∃ j, iter (evF TT cs_cmp_Or_int 18 an_cmp_Or_int Try.f109 [1, 1, 0, 1, 0, 0]) nm0_cmp_Or_int (kt0_cmp_Or_int (fin_cmp_Or_int vals0 kk)) j (can0_cmp_Or_int vals0 xt7 xt8)) = (fun vals0 xt7 xt8 => ∃ j, L0_cmp_Or_int vals0 xt7 (fun r0 => kk (.one (.c (.v (.int .i64 r0)))) []) j xt8) := by
    funext vals0 xt7 xt8
    refine congrArg Exists (funext fun j => ?_)
    rw [l0_cmp_Or_int vals0 xt7 kk j xt8]
  rw [hi0]
  rfl
theorem clok_cmp_Or_int : ConOK Try.prog cl_cmp_Or_int := consNil
theorem cok_cmp_Or_int : ConsOK Try.prog 18 cs_cmp_Or_int := ⟨clok_cmp_Or_int, inlNil⟩
theorem i_cmp_Or_int {vs : List A1} {kk : AV → List A1 → Prop} {motive : List A1 → Prop} (h : con_cmp_Or_int.F vs kk) (H : ∀ (vals0 : List Int), F_cmp_Or_int vals0 (fun r0 => kk (.one (.c (.v (.int .i64 r0)))) []) → motive [.c (.ro .int vals0)]) : motive vs := by
  unfold con_cmp_Or_int at h
  dsimp only at h
  split at h
  · exact H _ h
  · exact h.elim
theorem h_cmp_Or_int : Holds Try.prog 109 con_cmp_Or_int := by
  refine holds_of_ev (rt := [.c .sc]) (T := TT) (Γ := cs_cmp_Or_int) (an := an_cmp_Or_int) (N := 18) (c := Try.f109.body.getD .skip) Try.func109 (by kernel_rfl) Try.ntmps109 (by decide) (by decide) mixed tabOK cok_cmp_Or_int (by kernel_rfl) ?_
  intro vs kk _ hF
  exact i_cmp_Or_int (motive := fun vs => Goes (ev TT cs_cmp_Or_int 18 an_cmp_Or_int (Try.f109.body.getD .skip) (st0 con_cmp_Or_int vs) (fin TT con_cmp_Or_int Try.f109.results.toList [.c .sc] vs kk))) hF (fun vals0 hF => goes_of (e_cmp_Or_int vals0 kk) (F_cmp_Or_int_S hF))
def con_impl_rarestEntry_1 : Con := ⟨[.rd, .rd], true, [.agg [.sc, .sc, .sc], .agg [.sc, .sc, .sc]], fun vs k => match vs with
    | [.agg [.v (.int .i64 a0Key), .v (.int .i64 a0Count), .v (.int .i64 a0Last)], .agg [.v (.int .i64 b1Key), .v (.int .i64 b1Count), .v (.int .i64 b1Last)]] => F_impl_rarestEntry_1 a0Key a0Count a0Last b1Key b1Count b1Last (fun r0 => k (.one (.c (.v (.int .i64 r0)))) [])
    | _ => False, false⟩
def cl_impl_rarestEntry_1 : List (FuncId × Con) := [(109, con_cmp_Or_int), (110, con_cmp_Compare_int)]
def an_impl_rarestEntry_1 : Ann := ⟨[(1, .take 0 (.take 1 (.take 2 (.take 3 (.take 5 (.take 6 (.take 7 (.take 8 (.alt 4 (.alt 9 (.alt 10 (.alt 11 (.take 12 (.done)) (.none)) (.none)) (.none)) (.none))))))))), [32, 48])], [], []⟩
def cs_impl_rarestEntry_1 : Cons := ⟨cl_impl_rarestEntry_1, [], 0, [], []⟩
def fin_impl_rarestEntry_1 (a0Key : Int) (a0Count : Int) (a0Last : Int) (b1Key : Int) (b1Count : Int) (b1Last : Int) (kk : AV → List A1 → Prop) : Kt := fin TT con_impl_rarestEntry_1 Try.f108.results.toList [.c .sc] [.agg [.v (.int .i64 a0Key), .v (.int .i64 a0Count), .v (.int .i64 a0Last)], .agg [.v (.int .i64 b1Key), .v (.int .i64 b1Count), .v (.int .i64 b1Last)]] kk
theorem g_impl_rarestEntry_1 (a0Key : Int) (a0Count : Int) (a0Last : Int) (b1Key : Int) (b1Count : Int) (b1Last : Int) (kk : AV → List A1 → Prop) :
    ev TT cs_impl_rarestEntry_1 17 an_impl_rarestEntry_1 (Try.f108.body.getD .skip) (st0 con_impl_rarestEntry_1 [.agg [.v (.int .i64 a0Key), .v (.int .i64 a0Count), .v (.int .i64 a0Last)], .agg [.v (.int .i64 b1Key), .v (.int .i64 b1Count), .v (.int .i64 b1Last)]]) (fin TT con_impl_rarestEntry_1 Try.f108.results.toList [.c .sc] [.agg [.v (.int .i64 a0Key), .v (.int .i64 a0Count), .v (.int .i64 a0Last)], .agg [.v (.int .i64 b1Key), .v (.int .i64 b1Count), .v (.int .i64 b1Last)]] kk) = G_impl_rarestEntry_1 a0Key a0Count a0Last b1Key b1Count b1Last (fun r0 => kk (.one (.c (.v (.int .i64 r0)))) []) := by kernel_rfl
theorem e_impl_rarestEntry_1 (a0Key : Int) (a0Count : Int) (a0Last : Int) (b1Key : Int) (b1Count : Int) (b1Last : Int) (kk : AV → List A1 → Prop) :
    ev TT cs_impl_rarestEntry_1 17 an_impl_rarestEntry_1 (Try.f108.body.getD .skip) (st0 con_impl_rarestEntry_1 [.agg [.v (.int .i64 a0Key), .v (.int .i64 a0Count), .v (.int .i64 a0Last)], .agg [.v (.int .i64 b1Key), .v (.int .i64 b1Count), .v (.int .i64 b1Last)]]) (fin TT con_impl_rarestEntry_1 Try.f108.results.toList [.c .sc] [.agg [.v (.int .i64 a0Key), .v (.int .i64 a0Count), .v (.int .i64 a0Last)], .agg [.v (.int .i64 b1Key), .v (.int .i64 b1Count), .v (.int .i64 b1Last)]] kk) = S_impl_rarestEntry_1 a0Key a0Count a0Last b1Key b1Count b1Last (fun r0 => kk (.one (.c (.v (.int .i64 r0)))) []) := by
  rw [g_impl_rarestEntry_1]
  rw [G_impl_rarestEntry_1_eq]
  rfl
theorem clok_impl_rarestEntry_1 : ConOK Try.prog cl_impl_rarestEntry_1 := consCons h_cmp_Or_int ⟨Try.f109, Try.func109, by kernel_rfl, ne_of_beq (by kernel_rfl)⟩ (consCons h_cmp_Compare_int ⟨Try.f110, Try.func110, by kernel_rfl, ne_of_beq (by kernel_rfl)⟩ (consNil))
theorem cok_impl_rarestEntry_1 : ConsOK Try.prog 17 cs_impl_rarestEntry_1 := ⟨clok_impl_rarestEntry_1, inlNil⟩
theorem i_impl_rarestEntry_1 {vs : List A1} {kk : AV → List A1 → Prop} {motive : List A1 → Prop} (h : con_impl_rarestEntry_1.F vs kk) (H : ∀ (a0Key : Int) (a0Count : Int) (a0Last : Int) (b1Key : Int) (b1Count : Int) (b1Last : Int), F_impl_rarestEntry_1 a0Key a0Count a0Last b1Key b1Count b1Last (fun r0 => kk (.one (.c (.v (.int .i64 r0)))) []) → motive [.agg [.v (.int .i64 a0Key), .v (.int .i64 a0Count), .v (.int .i64 a0Last)], .agg [.v (.int .i64 b1Key), .v (.int .i64 b1Count), .v (.int .i64 b1Last)]]) : motive vs := by
  unfold con_impl_rarestEntry_1 at h
  dsimp only at h
  split at h
  · exact H _ _ _ _ _ _ h
  · exact h.elim
theorem h_impl_rarestEntry_1 : Holds Try.prog 108 con_impl_rarestEntry_1 := by
  refine holds_of_ev (rt := [.c .sc]) (T := TT) (Γ := cs_impl_rarestEntry_1) (an := an_impl_rarestEntry_1) (N := 17) (c := Try.f108.body.getD .skip) Try.func108 (by kernel_rfl) Try.ntmps108 (by decide) (by decide) mixed tabOK cok_impl_rarestEntry_1 (by kernel_rfl) ?_
  intro vs kk _ hF
  exact i_impl_rarestEntry_1 (motive := fun vs => Goes (ev TT cs_impl_rarestEntry_1 17 an_impl_rarestEntry_1 (Try.f108.body.getD .skip) (st0 con_impl_rarestEntry_1 vs) (fin TT con_impl_rarestEntry_1 Try.f108.results.toList [.c .sc] vs kk))) hF (fun a0Key a0Count a0Last b1Key b1Count b1Last hF => goes_of (e_impl_rarestEntry_1 a0Key a0Count a0Last b1Key b1Count b1Last kk) (F_impl_rarestEntry_1_S hF))
def con_slices_MinFunc_Entry_Entry : Con := ⟨[.rd, .rd], true, [.c (.sl .iii), .c (.fn)], fun vs k => match vs with
    | [.c (.ro .iii x0), .c (.v (.func (.func 108) ⟨[]⟩ ⟨[]⟩))] => F_slices_MinFunc_Entry_Entry_rarestEntry_1 x0 (fun r0 r1 r2 => k (.one (.agg [.v (.int .i64 r0), .v (.int .i64 r1), .v (.int .i64 r2)])) [])
    | _ => False, false⟩
def cl_slices_MinFunc_Entry_Entry_rarestEntry_1 : List (FuncId × Con) := [(108, con_impl_rarestEntry_1)]
def nm0_slices_MinFunc_Entry_Entry_rarestEntry_1 : List NStep := [.keep [0, 1, 4, 5, 6] [64, 80]]
def an_slices_MinFunc_Entry_Entry_rarestEntry_1 : Ann := ⟨[(7, .take 0 (.take 1 (.take 2 (.take 3 (.take 4 (.take 5 (.alt 6 (.take 7 (.done)) (.none))))))), [80])], [(5, nm0_slices_MinFunc_Entry_Entry_rarestEntry_1)], []⟩
def cs_slices_MinFunc_Entry_Entry_rarestEntry_1 : Cons := ⟨cl_slices_MinFunc_Entry_Entry_rarestEntry_1, [], 0, [], []⟩
def can0_slices_MinFunc_Entry_Entry_rarestEntry_1 (x0 : List (Int × Int × Int)) (xi6 : Int) (xb5c0 : Int) (xb5c1 : Int) (xb5c2 : Int) : St := ⟨[(0, .one (.c (.ro .iii x0))), (1, .one (.c (.v (.func (.func 108) ⟨[]⟩ ⟨[]⟩)))), (4, .one (.c (.pb 64 0))), (5, .one (.c (.pb 80 0))), (6, .one (.c (.v (.int .i64 xi6))))], [(64, .box [.v (.int .i64 0), .v (.int .i64 0), .v (.int .i64 0)]), (80, .box [.v (.int .i64 xb5c0), .v (.int .i64 xb5c1), .v (.int .i64 xb5c2)])]⟩
def fin_slices_MinFunc_Entry_Entry_rarestEntry_1 (x0 : List (Int × Int × Int)) (kk : AV → List A1 → Prop) : Kt := fin TT con_slices_MinFunc_Entry_Entry Try.f107.results.toList [.agg [.sc, .sc, .sc]] [.c (.ro .iii x0), .c (.v (.func (.func 108) ⟨[]⟩ ⟨[]⟩))] kk
def kt0_slices_MinFunc_Entry_Entry_rarestEntry_1 (kf : Kt) : Kt := blockK 0 (seqK (evF TT cs_slices_MinFunc_Entry_Entry_rarestEntry_1 33 an_slices_MinFunc_Entry_Entry_rarestEntry_1 Try.f107 [1, 1, 1, 1]) (kf))
theorem r0_slices_MinFunc_Entry_Entry_rarestEntry_1 (x0 : List (Int × Int × Int)) (kk : AV → List A1 → Prop) (n : Nat) (xi6 : Int) (xb5c0 : Int) (xb5c1 : Int) (xb5c2 : Int) :
    iter (evF TT cs_slices_MinFunc_Entry_Entry_rarestEntry_1 33 an_slices_MinFunc_Entry_Entry_rarestEntry_1 Try.f107 [1, 1, 1, 0, 1, 0, 0]) nm0_slices_MinFunc_Entry_Entry_rarestEntry_1 (kt0_slices_MinFunc_Entry_Entry_rarestEntry_1 (fin_slices_MinFunc_Entry_Entry_rarestEntry_1 x0 kk)) (n + 1) (can0_slices_MinFunc_Entry_Entry_rarestEntry_1 x0 xi6 xb5c0 xb5c1 xb5c2) = T0_slices_MinFunc_Entry_Entry_rarestEntry_1 x0 xi6 xb5c0 xb5c1 xb5c2 (fun r0 r1 r2 => kk (.one (.agg [.v (.int .i64 r0), .v (.int .i64 r1), .v (.int .i64 r2)])) []) (fun xi6 xb5c0 xb5c1 xb5c2 => iter (evF TT cs_slices_MinFunc_Entry_Entry_rarestEntry_1 33 an_slices_MinFunc_Entry_Entry_rarestEntry_1 Try.f107 [1, 1, 1, 0, 1, 0, 0]) nm0_slices_MinFunc_Entry_Entry_rarestEntry_1 (kt0_slices_MinFunc_Entry_Entry_rarestEntry_1 (fin_slices_MinFunc_Entry_Entry_rarestEntry_1 x0 kk)) n (can0_slices_MinFunc_Entry_Entry_rarestEntry_1 x0 xi6 xb5c0 xb5c1 xb5c2)) := by kernel_rfl
theorem l0_slices_MinFunc_Entry_Entry_rarestEntry_1 (x0 : List (Int × Int × Int)) (kk : AV → List A1 → Prop) : ∀ (n : Nat) (xi6 : Int) (xb5c0 : Int) (xb5c1 : Int) (xb5c2 : Int), iter (evF TT cs_slices_MinFunc_Entry_Entry_rarestEntry_1 33 an_slices_MinFunc_Entry_Entry_rarestEntry_1 Try.f107 [1, 1, 1, 0, 1, 0, 0]) nm0_slices_MinFunc_Entry_Entry_rarestEntry_1 (kt0_slices_MinFunc_Entry_Entry_rarestEntry_1 (fin_slices_MinFunc_Entry_Entry_rarestEntry_1 x0 kk)) n (can0_slices_MinFunc_Entry_Entry_rarestEntry_1 x0 xi6 xb5c0 xb5c1 xb5c2) = L0_slices_MinFunc_Entry_Entry_rarestEntry_1 x0 (fun r0 r1 r2 => kk (.one (.agg [.v (.int .i64 r0), .v (.int .i64 r1), .v (.int .i64 r2)])) []) n xi6 xb5c0 xb5c1 xb5c2 := by
  intro n
  induction n with
  | zero => intros; rfl
  | succ n ih =>
    intro xi6 xb5c0 xb5c1 xb5c2
    rw [r0_slices_MinFunc_Entry_Entry_rarestEntry_1 x0 kk n xi6 xb5c0 xb5c1 xb5c2]
    have hb : (fun xi6 xb5c0 xb5c1 xb5c2 => iter (evF TT cs_slices_MinFunc_Entry_Entry_rarestEntry_1 33 an_slices_MinFunc_Entry_Entry_rarestEntry_1 Try.f107 [1, 1, 1, 0, 1, 0, 0]) nm0_slices_MinFunc_Entry_Entry_rarestEntry_1 (kt0_slices_MinFunc_Entry_Entry_rarestEntry_1 (fin_slices_MinFunc_Entry_Entry_rarestEntry_1 x0 kk)) n (can0_slices_MinFunc_Entry_Entry_rarestEntry_1 x0 xi6 xb5c0 xb5c1 xb5c2)) = L0_slices_MinFunc_Entry_Entry_rarestEntry_1 x0 (fun r0 r1 r2 => kk (.one (.agg [.v (.int .i64 r0), .v (.int .i64 r1), .v (.int .i64 r2)])) []) n := by
      funext xi6 xb5c0 xb5c1 xb5c2; exact ih xi6 xb5c0 xb5c1 xb5c2
    rw [hb]
    rw [T0_slices_MinFunc_Entry_Entry_rarestEntry_1_eq]
    rfl
theorem g_slices_MinFunc_Entry_Entry_rarestEntry_1 (x0 : List (Int × Int × Int)) (kk : AV → List A1 → Prop) :
    ev TT cs_slices_MinFunc_Entry_Entry_rarestEntry_1 33 an_slices_MinFunc_Entry_Entry_rarestEntry_1 (Try.f107.body.getD .skip) (st0 con_slices_MinFunc_Entry_Entry [.c (.ro .iii x0), .c (.v (.func (.func 108) ⟨[]⟩ ⟨[]⟩))]) (fin TT con_slices_MinFunc_Entry_Entry Try.f107.results.toList [.agg [.sc, .sc, .sc]] [.c (.ro .iii x0), .c (.v (.func (.func 108) ⟨[]⟩ ⟨[]⟩))] kk) = G_slices_MinFunc_Entry_Entry_rarestEntry_1 x0 (fun x0 xi6 xb5c0 xb5c1 xb5c2 => ∃ j, iter (evF TT cs_slices_MinFunc_Entry_Entry_rarestEntry_1 33 an_slices_MinFunc_Entry_Entry_rarestEntry_1 Try.f107 [1, 1, 1, 0, 1, 0, 0]) nm0_slices_MinFunc_Entry_Entry_rarestEntry_1 (kt0_slices_MinFunc_Entry_Entry_rarestEntry_1 (fin_slices_MinFunc_Entry_Entry_rarestEntry_1 x0 kk)) j (can0_slices_MinFunc_Entry_Entry_rarestEntry_1 x0 xi6 xb5c0 xb5c1 xb5c2)) := by kernel_rfl
theorem e_slices_MinFunc_Entry_Entry_rarestEntry_1 (x0 : List (Int × Int × Int)) (kk : AV → List A1 → Prop) :
    ev TT cs_slices_MinFunc_Entry_Entry_rarestEntry_1 33 an_slices_MinFunc_Entry_Entry_rarestEntry_1 (Try.f107.body.getD .skip) (st0 con_slices_MinFunc_Entry_Entry [.c (.ro .iii x0), .c (.v (.func (.func 108) ⟨[]⟩ ⟨[]⟩))]) (fin TT con_slices_MinFunc_Entry_Entry Try.f107.results.toList [.agg [.sc, .sc, .sc]] [.c (.ro .iii x0), .c (.v (.func (.func 108) ⟨[]⟩ ⟨[]⟩))] kk) = S_slices_MinFunc_Entry_Entry_rarestEntry_1 x0 (fun r0 r1 r2 => kk (.one (.agg [.v (.int .i64 r0), .v (.int .i64 r1), .v (.int .i64 r2)])) []) := by
  rw [g_slices_MinFunc_Entry_Entry_rarestEntry_1]
  have hi0 : (fun x0 xi6 xb5c0 xb5c1 xb5c2 => ∃ j, iter (evF TT cs_slices_MinFunc_Entry_Entry_rarestEntry_1 33 an_slices_MinFunc_Entry_Entry_rarestEntry_1 Try.f107 [1, 1, 1, 0, 1, 0, 0]) nm0_slices_MinFunc_Entry_Entry_rarestEntry_1 (kt0_slices_MinFunc_Entry_Entry_rarestEntry_1 (fin_slices_MinFunc_Entry_Entry_rarestEntry_1 x0 kk)) j (can0_slices_MinFunc_Entry_Entry_rarestEntry_1 x0 xi6 xb5c0 xb5c1 xb5c2)) = (fun x0 xi6 xb5c0 xb5c1 xb5c2 => ∃ j, L0_slices_MinFunc_Entry_Entry_rarestEntry_1 x0 (fun r0 r1 r2 => kk (.one (.agg [.v (.int .i64 r0), .v (.int .i64 r1), .v (.int .i64 r2)])) []) j xi6 xb5c0 xb5c1 xb5c2) := by
    funext x0 xi6 xb5c0 xb5c1 xb5c2
    refine congrArg Exists (funext fun j => ?_)
    rw [l0_slices_MinFunc_Entry_Entry_rarestEntry_1 x0 kk j xi6 xb5c0 xb5c1 xb5c2]
  rw [hi0]
  rfl
theorem clok_slices_MinFunc_Entry_Entry_rarestEntry_1 : ConOK Try.prog cl_slices_MinFunc_Entry_Entry_rarestEntry_1 := consCons h_impl_rarestEntry_1 ⟨Try.f108, Try.func108, by kernel_rfl, ne_of_beq (by kernel_rfl)⟩ (consNil)
theorem cok_slices_MinFunc_Entry_Entry_rarestEntry_1 : ConsOK Try.prog 33 cs_slices_MinFunc_Entry_Entry_rarestEntry_1 := ⟨clok_slices_MinFunc_Entry_Entry_rarestEntry_1, inlNil⟩
theorem i_slices_MinFunc_Entry_Entry_rarestEntry_1 {vs : List A1} {kk : AV → List A1 → Prop} {motive : List A1 → Prop} (h : con_slices_MinFunc_Entry_Entry.F vs kk) (H : ∀ (x0 : List (Int × Int × Int)), F_slices_MinFunc_Entry_Entry_rarestEntry_1 x0 (fun r0 r1 r2 => kk (.one (.agg [.v (.int .i64 r0), .v (.int .i64 r1), .v (.int .i64 r2)])) []) → motive [.c (.ro .iii x0), .c (.v (.func (.func 108) ⟨[]⟩ ⟨[]⟩))]) : motive vs := by
  unfold con_slices_MinFunc_Entry_Entry at h
  dsimp only at h
  split at h
  · exact H _ h
  · exact h.elim
theorem h_slices_MinFunc_Entry_Entry : Holds Try.prog 107 con_slices_MinFunc_Entry_Entry := by
  refine holds_of_ev (rt := [.agg [.sc, .sc, .sc]]) (T := TT) (Γ := cs_slices_MinFunc_Entry_Entry_rarestEntry_1) (an := an_slices_MinFunc_Entry_Entry_rarestEntry_1) (N := 33) (c := Try.f107.body.getD .skip) Try.func107 (by kernel_rfl) Try.ntmps107 (by decide) (by decide) mixed tabOK cok_slices_MinFunc_Entry_Entry_rarestEntry_1 (by kernel_rfl) ?_
  intro vs kk _ hF
  exact i_slices_MinFunc_Entry_Entry_rarestEntry_1 (motive := fun vs => Goes (ev TT cs_slices_MinFunc_Entry_Entry_rarestEntry_1 33 an_slices_MinFunc_Entry_Entry_rarestEntry_1 (Try.f107.body.getD .skip) (st0 con_slices_MinFunc_Entry_Entry vs) (fin TT con_slices_MinFunc_Entry_Entry Try.f107.results.toList [.agg [.sc, .sc, .sc]] vs kk))) hF (fun x0 hF => goes_of (e_slices_MinFunc_Entry_Entry_rarestEntry_1 x0 kk) (F_slices_MinFunc_Entry_Entry_rarestEntry_1_S hF))
def con_impl_rarestEntry : Con := ⟨[.rd], true, [.c (.sl .iii)], fun vs k => match vs with
    | [.c (.ro .iii list0)] => F_impl_rarestEntry list0 (fun r0 r1 r2 => k (.one (.agg [.v (.int .i64 r0), .v (.int .i64 r1), .v (.int .i64 r2)])) [])
    | _ => False, false⟩
def cl_impl_rarestEntry : List (FuncId × Con) := [(107, con_slices_MinFunc_Entry_Entry)]
def an_impl_rarestEntry : Ann := ⟨[], [], []⟩
def cs_impl_rarestEntry : Cons := ⟨cl_impl_rarestEntry, [], 0, [], []⟩
def fin_impl_rarestEntry (list0 : List (Int × Int × Int)) (kk : AV → List A1 → Prop) : Kt := fin TT con_impl_rarestEntry Try.f103.results.toList [.agg [.sc, .sc, .sc]] [.c (.ro .iii list0)] kk
theorem g_impl_rarestEntry (list0 : List (Int × Int × Int)) (kk : AV → List A1 → Prop) :
    ev TT cs_impl_rarestEntry 5 an_impl_rarestEntry (Try.f103.body.getD .skip) (st0 con_impl_rarestEntry [.c (.ro .iii list0)]) (fin TT con_impl_rarestEntry Try.f103.results.toList [.agg [.sc, .sc, .sc]] [.c (.ro .iii list0)] kk) = G_impl_rarestEntry list0 (fun r0 r1 r2 => kk (.one (.agg [.v (.int .i64 r0), .v (.int .i64 r1), .v (.int .i64 r2)])) []) := by kernel_rfl
theorem e_impl_rarestEntry (list0 : List (Int × Int × Int)) (kk : AV → List A1 → Prop) :
    ev TT cs_impl_rarestEntry 5 an_impl_rarestEntry (Try.f103.body.getD .skip) (st0 con_impl_rarestEntry [.c (.ro .iii list0)]) (fin TT con_impl_rarestEntry Try.f103.results.toList [.agg [.sc, .sc, .sc]] [.c (.ro .iii list0)] kk) = S_impl_rarestEntry list0 (fun r0 r1 r2 => kk (.one (.agg [.v (.int .i64 r0), .v (.int .i64 r1), .v (.int .i64 r2)])) []) := by
  rw [g_impl_rarestEntry]
  rfl
theorem clok_impl_rarestEntry : ConOK Try.prog cl_impl_rarestEntry := consCons h_slices_MinFunc_Entry_Entry ⟨Try.f107, Try.func107, by kernel_rfl, ne_of_beq (by kernel_rfl)⟩ (consNil)
theorem cok_impl_rarestEntry : ConsOK Try.prog 5 cs_impl_rarestEntry := ⟨clok_impl_rarestEntry, inlNil⟩
theorem i_impl_rarestEntry {vs : List A1} {kk : AV → List A1 → Prop} {motive : List A1 → Prop} (h : con_impl_rarestEntry.F vs kk) (H : ∀ (list0 : List (Int × Int × Int)), F_impl_rarestEntry list0 (fun r0 r1 r2 => kk (.one (.agg [.v (.int .i64 r0), .v (.int .i64 r1), .v (.int .i64 r2)])) []) → motive [.c (.ro .iii list0)]) : motive vs := by
  unfold con_impl_rarestEntry at h
  dsimp only at h
  split at h
  · exact H _ h
  · exact h.elim
theorem h_impl_rarestEntry : Holds Try.prog 103 con_impl_rarestEntry := by
  refine holds_of_ev (rt := [.agg [.sc, .sc, .sc]]) (T := TT) (Γ := cs_impl_rarestEntry) (an := an_impl_rarestEntry) (N := 5) (c := Try.f103.body.getD .skip) Try.func103 (by kernel_rfl) Try.ntmps103 (by decide) (by decide) mixed tabOK cok_impl_rarestEntry (by kernel_rfl) ?_
  intro vs kk _ hF
  exact i_impl_rarestEntry (motive := fun vs => Goes (ev TT cs_impl_rarestEntry 5 an_impl_rarestEntry (Try.f103.body.getD .skip) (st0 con_impl_rarestEntry vs) (fin TT con_impl_rarestEntry Try.f103.results.toList [.agg [.sc, .sc, .sc]] vs kk))) hF (fun list0 hF => goes_of (e_impl_rarestEntry list0 kk) (F_impl_rarestEntry_S hF))
def con_slices_Index_Entry_Entry : Con := ⟨[.rd, .rd], true, [.c (.sl .iii), .agg [.sc, .sc, .sc]], fun vs k => match vs with
    | [.c (.ro .iii s0), .agg [.v (.int .i64 v1Key), .v (.int .i64 v1Count), .v (.int .i64 v1Last)]] => F_slices_Index_Entry_Entry s0 v1Key v1Count v1Last (fun r0 => k (.one (.c (.v (.int .i64 r0)))) [])
    | _ => False, false⟩
def cl_slices_Index_Entry_Entry : List (FuncId × Con) := []
def nm0_slices_Index_Entry_Entry : List NStep := [.keep [0, 3, 7, 8] [48]]
def an_slices_Index_Entry_Entry : Ann := ⟨[(4, .take 0 (.take 1 (.take 2 (.take 3 (.take 4 (.take 5 (.done)))))), [48])], [(2, nm0_slices_Index_Entry_Entry)], []⟩
def cs_slices_Index_Entry_Entry : Cons := ⟨cl_slices_Index_Entry_Entry, [], 0, [], []⟩
def can0_slices_Index_Entry_Entry (s0 : List (Int × Int × Int)) (v1Count : Int) (v1Key : Int) (v1Last : Int) (xt7 : Int) (xt8 : Int) : St := ⟨[(0, .one (.c (.ro .iii s0))), (3, .one (.c (.pb 48 0))), (7, .one (.c (.v (.int .i64 xt7)))), (8, .one (.c (.v (.int .i64 xt8))))], [(48, .box [.v (.int .i64 v1Key), .v (.int .i64 v1Count), .v (.int .i64 v1Last)])]⟩
def fin_slices_Index_Entry_Entry (s0 : List (Int × Int × Int)) (v1Key : Int) (v1Count : Int) (v1Last : Int) (kk : AV → List A1 → Prop) : Kt := fin TT con_slices_Index_Entry_Entry Try.f102.results.toList [.c .sc] [.c (.ro .iii s0), .agg [.v (.int .i64 v1Key), .v (.int .i64 v1Count), .v (.int .i64 v1Last)]] kk
def kt0_slices_Index_Entry_Entry (kf : Kt) : Kt := blockK 0 (seqK (evF TT cs_slices_Index_Entry_Entry 19 an_slices_Index_Entry_Entry Try.f102 [1, 1]) (kf))
theorem r0_slices_Index_Entry_Entry (s0 : List (Int × Int × Int)) (v1Key : Int) (v1Count : Int) (v1Last : Int) (xt7 : Int) (kk : AV → List A1 → Prop) (n : Nat) (xt8 : Int) :
    iter (evF TT cs_slices_Index_Entry_Entry 19 an_slices_Index_Entry_Entry Try.f102 [1, 0, 1, 0, 0]) nm0_slices_Index_Entry_Entry (kt0_slices_Index_Entry_Entry (fin_slices_Index_Entry_Entry s0 v1Key v1Count v1Last kk)) (n + 1) (can0_slices_Index_Entry_Entry s0 v1Count v1Key v1Last xt7 xt8) = T0_slices_Index_Entry_Entry s0 v1Count v1Key v1Last xt7 xt8 (fun r0 => kk (.one (.c (.v (.int .i64 r0)))) []) (fun xt8 => iter (evF TT cs_slices_Index_Entry_Entry 19 an_slices_Index_Entry_Entry Try.f102 [1, 0, 1, 0, 0]) nm0_slices_Index_Entry_Entry (kt0_slices_Index_Entry_Entry (fin_slices_Index_Entry_Entry s0 v1Key v1Count v1Last kk)) n (can0_slices_Index_Entry_Entry s0 v1Count v1Key v1Last xt7 xt8)) := by kernel_rfl
theorem l0_slices_Index_Entry_Entry (s0 : List (Int × Int × Int)) (v1Key : Int) (v1Count : Int) (v1Last : Int) (xt7 : Int) (kk : AV → List A1 → Prop) : ∀ (n : Nat) (xt8 : Int), iter (evF TT cs_slices_Index_Entry_Entry 19 an_slices_Index_Entry_Entry Try.f102 [1, 0, 1, 0, 0]) nm0_slices_Index_Entry_Entry (kt0_slices_Index_Entry_Entry (fin_slices_Index_Entry_Entry s0 v1Key v1Count v1Last kk)) n (can0_slices_Index_Entry_Entry s0 v1Count v1Key v1Last xt7 xt8) = L0_slices_Index_Entry_Entry s0 v1Count v1Key v1Last xt7 (fun r0 => kk (.one (.c (.v (.int .i64 r0)))) []) n xt8 := by
  intro n
  induction n with
  | zero => intros; rfl
  | succ n ih =>
    intro xt8
    rw [r0_slices_Index_Entry_Entry s0 v1Key v1Count v1Last xt7 kk n xt8]
    have hb : (fun xt8 => iter (evF TT cs_slices_Index_Entry_Entry 19 an_slices_Index_Entry_Entry Try.f102 [1, 0, 1, 0, 0]) nm0_slices_Index_Entry_Entry (kt0_slices_Index_Entry_Entry (fin_slices_Index_Entry_Entry s0 v1Key v1Count v1Last kk)) n (can0_slices_Index_Entry_Entry s0 v1Count v1Key v1Last xt7 xt8)) = L0_slices_Index_Entry_Entry s0 v1Count v1Key v1Last xt7 (fun r0 => kk (.one (.c (.v (.int .i64 r0)))) []) n := by
      funext xt8; exact ih xt8
    rw [hb]
    rfl
theorem g_slices_Index_Entry_Entry (s0 : List (Int × Int × Int)) (v1Key : Int) (v1Count : Int) (v1Last : Int) (kk : AV → List A1 → Prop) :
    ev TT cs_slices_Index_Entry_Entry 19 an_slices_Index_Entry_Entry (Try.f102.body.getD .skip) (st0 con_slices_Index_Entry_Entry [.c (.ro .iii s0), .agg [.v (.int .i64 v1Key), .v (.int .i64 v1Count), .v (.int .i64 v1Last)]]) (fin TT con_slices_Index_Entry_Entry Try.f102.results.toList [.c .sc] [.c (.ro .iii s0), .agg [.v (.int .i64 v1Key), .v (.int .i64 v1Count), .v (.int .i64 v1Last)]] kk) = G_slices_Index_Entry_Entry s0 v1Key v1Count v1Last (fun s0 v1Count v1Key v1Last xt7 xt8 => ∃ j, iter (evF TT cs_slices_Index_Entry_Entry 19 an_slices_Index_Entry_Entry Try.f102 [1, 0, 1, 0, 0]) nm0_slices_Index_Entry_Entry (kt0_slices_Index_Entry_Entry (fin_slices_Index_Entry_Entry s0 v1Key v1Count v1Last kk)) j (can0_slices_Index_Entry_Entry s0 v1Count v1Key v1Last xt7 xt8)) := by kernel_rfl
theorem e_slices_Index_Entry_Entry (s0 : List (Int × Int × Int)) (v1Key : Int) (v1Count : Int) (v1Last : Int) (kk : AV → List A1 → Prop) :
    ev TT cs_slices_Index_Entry_Entry 19 an_slices_Index_Entry_Entry (Try.f102.body.getD .skip) (st0 con_slices_Index_Entry_Entry [.c (.ro .iii s0), .agg [.v (.int .i64 v1Key), .v (.int .i64 v1Count), .v (.int .i64 v1Last)]]) (fin TT con_slices_Index_Entry_Entry Try.f102.results.toList [.c .sc] [.c (.ro .iii s0), .agg [.v (.int .i64 v1Key), .v (.int .i64 v1Count), .v (.int .i64 v1Last)]] kk) = S_slices_Index_Entry_Entry s0 v1Key v1Count v1Last (fun r0 => kk (.one (.c (.v (.int .i64 r0)))) []) := by
  rw [g_slices_Index_Entry_Entry]
  have hi0 : (fun s0 v1Count v1Key v1Last xt7 xt8 => ∃ j, iter (evF TT cs_slices_Index_Entry_Entry 19 an_slices_Index_Entry_Entry Try.f102 [1, 0, 1, 0, 0]) nm0_slices_Index_Entry_Entry (kt0_slices_Index_Entry_Entry (fin_slices_Index_Entry_Entry s0 v1Key v1Count v1Last kk)) j (can0_slices_Index_Entry_Entry s0 v1Count v1Key v1Last xt7 xt8)) = (fun s0 v1Count v1Key v1Last xt7 xt8 => ∃ j, L0_slices_Index_Entry_Entry s0 v1Count v1Key v1Last xt7 (fun r0 => kk (.one (.c (.v (.int .i64 r0)))) []) j xt8) := by
    funext s0 v1Count v1Key v1Last xt7 xt8
    refine congrArg Exists (funext fun j => ?_)
    rw [l0_slices_Index_Entry_Entry s0 v1Key v1Count v1Last xt7 kk j xt8]
  rw [hi0]
  rfl
theorem clok_slices_Index_Entry_Entry : ConOK Try.prog cl_slices_Index_Entry_Entry := consNil
theorem cok_slices_Index_Entry_Entry : ConsOK Try.prog 19 cs_slices_Index_Entry_Entry := ⟨clok_slices_Index_Entry_Entry, inlNil⟩
theorem i_slices_Index_Entry_Entry {vs : List A1} {kk : AV → List A1 → Prop} {motive : List A1 → Prop} (h : con_slices_Index_Entry_Entry.F vs kk) (H : ∀ (s0 : List (Int × Int × Int)) (v1Key : Int) (v1Count : Int) (v1Last : Int), F_slices_Index_Entry_Entry s0 v1Key v1Count v1Last (fun r0 => kk (.one (.c (.v (.int .i64 r0)))) []) → motive [.c (.ro .iii s0), .agg [.v (.int .i64 v1Key), .v (.int .i64 v1Count), .v (.int .i64 v1Last)]]) : motive vs := by
  unfold con_slices_Index_Entry_Entry at h
  dsimp only at h
  split at h
  · exact H _ _ _ _ h
  · exact h.elim
theorem h_slices_Index_Entry_Entry : Holds Try.prog 102 con_slices_Index_Entry_Entry := by
  refine holds_of_ev (rt := [.c .sc]) (T := TT) (Γ := cs_slices_Index_Entry_Entry) (an := an_slices_Index_Entry_Entry) (N := 19) (c := Try.f102.body.getD .skip) Try.func102 (by kernel_rfl) Try.ntmps102 (by decide) (by decide) mixed tabOK cok_slices_Index_Entry_Entry (by kernel_rfl) ?_
  intro vs kk _ hF
  exact i_slices_Index_Entry_Entry (motive := fun vs => Goes (ev TT cs_slices_Index_Entry_Entry 19 an_slices_Index_Entry_Entry (Try.f102.body.getD .skip) (st0 con_slices_Index_Entry_Entry vs) (fin TT con_slices_Index_Entry_Entry Try.f102.results.toList [.c .sc] vs kk))) hF (fun s0 v1Key v1Count v1Last hF => goes_of (e_slices_Index_Entry_Entry s0 v1Key v1Count v1Last kk) (F_slices_Index_Entry_Entry_S hF))
def con_slices_Delete_Entry_Entry : Con := ⟨[.mv, .rd, .rd], true, [.c (.sl .iii), .c (.sc), .c (.sc)], fun vs k => match vs with
    | [.c (.ro .iii s0), .c (.v (.int .i64 i1)), .c (.v (.int .i64 j2))] => F_slices_Delete_Entry_Entry s0 i1 j2 (fun r0 => k (.one (.c (.ro .iii r0))) [])
    | _ => False, false⟩
def cl_slices_Delete_Entry_Entry : List (FuncId × Con) := []
def an_slices_Delete_Entry_Entry : Ann := ⟨[(5, .take 0 (.take 1 (.take 2 (.take 3 (.take 4 (.take 5 (.alt 6 (.take 7 (.done)) (.none))))))), [])], [], []⟩
def cs_slices_Delete_Entry_Entry : Cons := ⟨cl_slices_Delete_Entry_Entry, [], 0, [], []⟩
def fin_slices_Delete_Entry_Entry (s0 : List (Int × Int × Int)) (i1 : Int) (j2 : Int) (kk : AV → List A1 → Prop) : Kt := fin TT con_slices_Delete_Entry_Entry Try.f104.results.toList [.c (.sl .iii)] [.c (.ro .iii s0), .c (.v (.int .i64 i1)), .c (.v (.int .i64 j2))] kk
theorem g_slices_Delete_Entry_Entry (s0 : List (Int × Int × Int)) (i1 : Int) (j2 : Int) (kk : AV → List A1 → Prop) :
    ev TT cs_slices_Delete_Entry_Entry 33 an_slices_Delete_Entry_Entry (Try.f104.body.getD .skip) (st0 con_slices_Delete_Entry_Entry [.c (.ro .iii s0), .c (.v (.int .i64 i1)), .c (.v (.int .i64 j2))]) (fin TT con_slices_Delete_Entry_Entry Try.f104.results.toList [.c (.sl .iii)] [.c (.ro .iii s0), .c (.v (.int .i64 i1)), .c (.v (.int .i64 j2))] kk) = G_slices_Delete_Entry_Entry s0 i1 j2 (fun r0 => kk (.one (.c (.ro .iii r0))) []) := by kernel_rfl
theorem e_slices_Delete_Entry_Entry (s0 : List (Int × Int × Int)) (i1 : Int) (j2 : Int) (kk : AV → List A1 → Prop) :
    ev TT cs_slices_Delete_Entry_Entry 33 an_slices_Delete_Entry_Entry (Try.f104.body.getD .skip) (st0 con_slices_Delete_Entry_Entry [.c (.ro .iii s0), .c (.v (.int .i64 i1)), .c (.v (.int .i64 j2))]) (fin TT con_slices_Delete_Entry_Entry Try.f104.results.toList [.c (.sl .iii)] [.c (.ro .iii s0), .c (.v (.int .i64 i1)), .c (.v (.int .i64 j2))] kk) = S_slices_Delete_Entry_Entry s0 i1 j2 (fun r0 => kk (.one (.c (.ro .iii r0))) []) := by
  rw [g_slices_Delete_Entry_Entry]
  rw [G_slices_Delete_Entry_Entry_eq]
  rfl
theorem clok_slices_Delete_Entry_Entry : ConOK Try.prog cl_slices_Delete_Entry_Entry := consNil
theorem cok_slices_Delete_Entry_Entry : ConsOK Try.prog 33 cs_slices_Delete_Entry_Entry := ⟨clok_slices_Delete_Entry_Entry, inlNil⟩
theorem i_slices_Delete_Entry_Entry {vs : List A1} {kk : AV → List A1 → Prop} {motive : List A1 → Prop} (h : con_slices_Delete_Entry_Entry.F vs kk) (H : ∀ (s0 : List (Int × Int × Int)) (i1 : Int) (j2 : Int), F_slices_Delete_Entry_Entry s0 i1 j2 (fun r0 => kk (.one (.c (.ro .iii r0))) []) → motive [.c (.ro .iii s0), .c (.v (.int .i64 i1)), .c (.v (.int .i64 j2))]) : motive vs := by
  unfold con_slices_Delete_Entry_Entry at h
  dsimp only at h
  split at h
  · exact H _ _ _ h
  · exact h.elim
theorem h_slices_Delete_Entry_Entry : Holds Try.prog 104 con_slices_Delete_Entry_Entry := by
  refine holds_of_ev (rt := [.c (.sl .iii)]) (T := TT) (Γ := cs_slices_Delete_Entry_Entry) (an := an_slices_Delete_Entry_Entry) (N := 33) (c := Try.f104.body.getD .skip) Try.func104 (by kernel_rfl) Try.ntmps104 (by decide) (by decide) mixed tabOK cok_slices_Delete_Entry_Entry (by kernel_rfl) ?_
  intro vs kk _ hF
  exact i_slices_Delete_Entry_Entry (motive := fun vs => Goes (ev TT cs_slices_Delete_Entry_Entry 33 an_slices_Delete_Entry_Entry (Try.f104.body.getD .skip) (st0 con_slices_Delete_Entry_Entry vs) (fin TT con_slices_Delete_Entry_Entry Try.f104.results.toList [.c (.sl .iii)] vs kk))) hF (fun s0 i1 j2 hF => goes_of (e_slices_Delete_Entry_Entry s0 i1 j2 kk) (F_slices_Delete_Entry_Entry_S hF))
def con_impl_UseOften : Con := ⟨[.rd, .rd, .rd, .rd], true, [.c (.sl .iii), .c (.sc), .c (.sc), .c (.sc)], fun vs k => match vs with
    | [.c (.ro .iii list0), .c (.v (.int .i64 room1)), .c (.v (.int .i64 key2)), .c (.v (.int .i64 now3))] => F_impl_UseOften list0 room1 key2 now3 (fun r0 r1 => k (.tup [.c (.ro .iii r0), .c (.v (.bool r1))]) [])
    | _ => False, false⟩
def cl_impl_UseOften : List (FuncId × Con) := [(49, con_impl_ValidEntries), (58, con_impl_validKey), (101, con_impl_validTime), (102, con_slices_Index_Entry_Entry), (103, con_impl_rarestEntry), (104, con_slices_Delete_Entry_Entry)]
def nm0_impl_UseOften : List NStep := [.own 10 .iii 90000, .keep [1, 2, 3, 10, 11, 30, 31, 32] [90000]]
def an_impl_UseOften : Ann := ⟨[], [(6, nm0_impl_UseOften)], []⟩
def cs_impl_UseOften : Cons := ⟨cl_impl_UseOften, [], 0, [], []⟩
def can0_impl_UseOften (key2 : Int) (list0 : List (Int × Int × Int)) (now3 : Int) (room1 : Int) (xt31 : Int) (xthere11 : Bool) (xt32 : Int) (xout10 : List (Int × Int × Int)) : St := ⟨[(1, .one (.c (.v (.int .i64 room1)))), (2, .one (.c (.v (.int .i64 key2)))), (3, .one (.c (.v (.int .i64 now3)))), (10, .one (.c (.ow 90000))), (11, .one (.c (.v (.bool xthere11)))), (30, .one (.c (.ro .iii list0))), (31, .one (.c (.v (.int .i64 xt31)))), (32, .one (.c (.v (.int .i64 xt32))))], [(90000, .row .iii xout10)]⟩
def fin_impl_UseOften (list0 : List (Int × Int × Int)) (room1 : Int) (key2 : Int) (now3 : Int) (kk : AV → List A1 → Prop) : Kt := fin TT con_impl_UseOften Try.f83.results.toList [.c (.sl .iii), .c .sc] [.c (.ro .iii list0), .c (.v (.int .i64 room1)), .c (.v (.int .i64 key2)), .c (.v (.int .i64 now3))] kk
def kt0_impl_UseOften (kf : Kt) : Kt := blockK 0 (seqK (evF TT cs_impl_UseOften 77 an_impl_UseOften Try.f83 [1, 1, 1, 1, 1]) (kf))
theorem r0_impl_UseOften (list0 : List (Int × Int × Int)) (room1 : Int) (key2 : Int) (now3 : Int) (xt31 : Int) (kk : AV → List A1 → Prop) (n : Nat) (xthere11 : Bool) (xt32 : Int) (xout10 : List (Int × Int × Int)) :
    iter (evF TT cs_impl_UseOften 77 an_impl_UseOften Try.f83 [1, 1, 1, 1, 0, 1, 0, 0]) nm0_impl_UseOften (kt0_impl_UseOften (fin_impl_UseOften list0 room1 key2 now3 kk)) (n + 1) (can0_impl_UseOften key2 list0 now3 room1 xt31 xthere11 xt32 xout10) = T0_impl_UseOften key2 list0 now3 room1 xt31 xthere11 xt32 xout10 (fun r0 r1 => kk (.tup [.c (.ro .iii r0), .c (.v (.bool r1))]) []) (fun xthere11 xt32 xout10 => iter (evF TT cs_impl_UseOften 77 an_impl_UseOften Try.f83 [1, 1, 1, 1, 0, 1, 0, 0]) nm0_impl_UseOften (kt0_impl_UseOften (fin_impl_UseOften list0 room1 key2 now3 kk)) n (can0_impl_UseOften key2 list0 now3 room1 xt31 xthere11 xt32 xout10)) := by kernel_rfl
theorem l0_impl_UseOften (list0 : List (Int × Int × Int)) (room1 : Int) (key2 : Int) (now3 : Int) (xt31 : Int) (kk : AV → List A1 → Prop) : ∀ (n : Nat) (xthere11 : Bool) (xt32 : Int) (xout10 : List (Int × Int × Int)), iter (evF TT cs_impl_UseOften 77 an_impl_UseOften Try.f83 [1, 1, 1, 1, 0, 1, 0, 0]) nm0_impl_UseOften (kt0_impl_UseOften (fin_impl_UseOften list0 room1 key2 now3 kk)) n (can0_impl_UseOften key2 list0 now3 room1 xt31 xthere11 xt32 xout10) = L0_impl_UseOften key2 list0 now3 room1 xt31 (fun r0 r1 => kk (.tup [.c (.ro .iii r0), .c (.v (.bool r1))]) []) n xthere11 xt32 xout10 := by
  intro n
  induction n with
  | zero => intros; rfl
  | succ n ih =>
    intro xthere11 xt32 xout10
    rw [r0_impl_UseOften list0 room1 key2 now3 xt31 kk n xthere11 xt32 xout10]
    have hb : (fun xthere11 xt32 xout10 => iter (evF TT cs_impl_UseOften 77 an_impl_UseOften Try.f83 [1, 1, 1, 1, 0, 1, 0, 0]) nm0_impl_UseOften (kt0_impl_UseOften (fin_impl_UseOften list0 room1 key2 now3 kk)) n (can0_impl_UseOften key2 list0 now3 room1 xt31 xthere11 xt32 xout10)) = L0_impl_UseOften key2 list0 now3 room1 xt31 (fun r0 r1 => kk (.tup [.c (.ro .iii r0), .c (.v (.bool r1))]) []) n := by
      funext xthere11 xt32 xout10; exact ih xthere11 xt32 xout10
    rw [hb]
    rfl
theorem g_impl_UseOften (list0 : List (Int × Int × Int)) (room1 : Int) (key2 : Int) (now3 : Int) (kk : AV → List A1 → Prop) :
    ev TT cs_impl_UseOften 77 an_impl_UseOften (Try.f83.body.getD .skip) (st0 con_impl_UseOften [.c (.ro .iii list0), .c (.v (.int .i64 room1)), .c (.v (.int .i64 key2)), .c (.v (.int .i64 now3))]) (fin TT con_impl_UseOften Try.f83.results.toList [.c (.sl .iii), .c .sc] [.c (.ro .iii list0), .c (.v (.int .i64 room1)), .c (.v (.int .i64 key2)), .c (.v (.int .i64 now3))] kk) = G_impl_UseOften list0 room1 key2 now3 (fun r0 r1 => kk (.tup [.c (.ro .iii r0), .c (.v (.bool r1))]) []) (fun key2 list0 now3 room1 xt31 xthere11 xt32 xout10 => ∃ j, iter (evF TT cs_impl_UseOften 77 an_impl_UseOften Try.f83 [1, 1, 1, 1, 0, 1, 0, 0]) nm0_impl_UseOften (kt0_impl_UseOften (fin_impl_UseOften list0 room1 key2 now3 kk)) j (can0_impl_UseOften key2 list0 now3 room1 xt31 xthere11 xt32 xout10)) := by kernel_rfl
theorem e_impl_UseOften (list0 : List (Int × Int × Int)) (room1 : Int) (key2 : Int) (now3 : Int) (kk : AV → List A1 → Prop) :
    ev TT cs_impl_UseOften 77 an_impl_UseOften (Try.f83.body.getD .skip) (st0 con_impl_UseOften [.c (.ro .iii list0), .c (.v (.int .i64 room1)), .c (.v (.int .i64 key2)), .c (.v (.int .i64 now3))]) (fin TT con_impl_UseOften Try.f83.results.toList [.c (.sl .iii), .c .sc] [.c (.ro .iii list0), .c (.v (.int .i64 room1)), .c (.v (.int .i64 key2)), .c (.v (.int .i64 now3))] kk) = S_impl_UseOften list0 room1 key2 now3 (fun r0 r1 => kk (.tup [.c (.ro .iii r0), .c (.v (.bool r1))]) []) := by
  rw [g_impl_UseOften]
  have hi0 : (fun key2 list0 now3 room1 xt31 xthere11 xt32 xout10 => ∃ j, iter (evF TT cs_impl_UseOften 77 an_impl_UseOften Try.f83 [1, 1, 1, 1, 0, 1, 0, 0]) nm0_impl_UseOften (kt0_impl_UseOften (fin_impl_UseOften list0 room1 key2 now3 kk)) j (can0_impl_UseOften key2 list0 now3 room1 xt31 xthere11 xt32 xout10)) = (fun key2 list0 now3 room1 xt31 xthere11 xt32 xout10 => ∃ j, L0_impl_UseOften key2 list0 now3 room1 xt31 (fun r0 r1 => kk (.tup [.c (.ro .iii r0), .c (.v (.bool r1))]) []) j xthere11 xt32 xout10) := by
    funext key2 list0 now3 room1 xt31 xthere11 xt32 xout10
    refine congrArg Exists (funext fun j => ?_)
    rw [l0_impl_UseOften list0 room1 key2 now3 xt31 kk j xthere11 xt32 xout10]
  rw [hi0]
  rfl
theorem clok_impl_UseOften : ConOK Try.prog cl_impl_UseOften := consCons h_impl_ValidEntries ⟨Try.f49, Try.func49, by kernel_rfl, ne_of_beq (by kernel_rfl)⟩ (consCons h_impl_validKey ⟨Try.f58, Try.func58, by kernel_rfl, ne_of_beq (by kernel_rfl)⟩ (consCons h_impl_validTime ⟨Try.f101, Try.func101, by kernel_rfl, ne_of_beq (by kernel_rfl)⟩ (consCons h_slices_Index_Entry_Entry ⟨Try.f102, Try.func102, by kernel_rfl, ne_of_beq (by kernel_rfl)⟩ (consCons h_impl_rarestEntry ⟨Try.f103, Try.func103, by kernel_rfl, ne_of_beq (by kernel_rfl)⟩ (consCons h_slices_Delete_Entry_Entry ⟨Try.f104, Try.func104, by kernel_rfl, ne_of_beq (by kernel_rfl)⟩ (consNil))))))
theorem cok_impl_UseOften : ConsOK Try.prog 77 cs_impl_UseOften := ⟨clok_impl_UseOften, inlNil⟩
theorem i_impl_UseOften {vs : List A1} {kk : AV → List A1 → Prop} {motive : List A1 → Prop} (h : con_impl_UseOften.F vs kk) (H : ∀ (list0 : List (Int × Int × Int)) (room1 : Int) (key2 : Int) (now3 : Int), F_impl_UseOften list0 room1 key2 now3 (fun r0 r1 => kk (.tup [.c (.ro .iii r0), .c (.v (.bool r1))]) []) → motive [.c (.ro .iii list0), .c (.v (.int .i64 room1)), .c (.v (.int .i64 key2)), .c (.v (.int .i64 now3))]) : motive vs := by
  unfold con_impl_UseOften at h
  dsimp only at h
  split at h
  · exact H _ _ _ _ h
  · exact h.elim
theorem h_impl_UseOften : Holds Try.prog 83 con_impl_UseOften := by
  refine holds_of_ev (rt := [.c (.sl .iii), .c .sc]) (T := TT) (Γ := cs_impl_UseOften) (an := an_impl_UseOften) (N := 77) (c := Try.f83.body.getD .skip) Try.func83 (by kernel_rfl) Try.ntmps83 (by decide) (by decide) mixed tabOK cok_impl_UseOften (by kernel_rfl) ?_
  intro vs kk _ hF
  exact i_impl_UseOften (motive := fun vs => Goes (ev TT cs_impl_UseOften 77 an_impl_UseOften (Try.f83.body.getD .skip) (st0 con_impl_UseOften vs) (fin TT con_impl_UseOften Try.f83.results.toList [.c (.sl .iii), .c .sc] vs kk))) hF (fun list0 room1 key2 now3 hF => goes_of (e_impl_UseOften list0 room1 key2 now3 kk) (F_impl_UseOften_S hF))
def con_impl_RunOften : Con := ⟨[.rd, .rd], true, [.c (.sl .int), .c (.sc)], fun vs k => match vs with
    | [.c (.ro .int t0), .c (.v (.int .i64 room1))] => F_impl_RunOften t0 room1 (fun r0 r1 => k (.tup [.c (.ro .iii r0), .c (.v (.int .i64 r1))]) [])
    | _ => False, false⟩
def cl_impl_RunOften : List (FuncId × Con) := [(23, con_impl_ValidTrace), (69, con_impl_validRoom), (83, con_impl_UseOften)]
def nm0_impl_RunOften : List NStep := [.own 1 .iii 90000, .keep [1, 2, 8, 13, 14, 15, 1000004, 1000005] [90000, 96]]
def an_impl_RunOften_i2 : Ann := ⟨[], [], []⟩
def cs_impl_RunOften_i2 : Cons := ⟨cl_impl_RunOften, [], 896, [], []⟩
def an_impl_RunOften_i1 : Ann := ⟨[], [(3, nm0_impl_RunOften)], []⟩
def cs_impl_RunOften_i1 : Cons := ⟨cl_impl_RunOften, [(23, ⟨82, inlG TT cs_impl_RunOften_i2 33 22 an_impl_RunOften_i2 (Try.f82.body.getD .skip) Try.f82.results.toList⟩)], 352, [], []⟩
def an_impl_RunOften : Ann := ⟨[], [], []⟩
def cs_impl_RunOften : Cons := ⟨cl_impl_RunOften, [(18, ⟨81, inlG TT cs_impl_RunOften_i1 21 33 an_impl_RunOften_i1 (Try.f81.body.getD .skip) Try.f81.results.toList⟩)], 0, [], []⟩
def can0_impl_RunOften (room1 : Int) (t0 : List Int) (xt14i1 : Int) (xhits8i1 : Int) (xt15i1 : Int) (xcache1 : List (Int × Int × Int)) (xb6c0 : Int) : St := ⟨[(1, .one (.c (.ow 90000))), (2, .one (.c (.cl 82 [.k (.int .i64 room1), .b 96]))), (8, .one (.c (.v (.int .i64 xhits8i1)))), (13, .one (.c (.ro .int t0))), (14, .one (.c (.v (.int .i64 xt14i1)))), (15, .one (.c (.v (.int .i64 xt15i1)))), (1000004, .one (.c (.nil))), (1000005, .one (.c (.v (.int .i64 0))))], [(90000, .row .iii xcache1), (96, .box [.v (.int .i64 xb6c0)])]⟩
def fin_impl_RunOften (t0 : List Int) (room1 : Int) (kk : AV → List A1 → Prop) : Kt := fin TT con_impl_RunOften Try.f46.results.toList [.c (.sl .iii), .c .sc] [.c (.ro .int t0), .c (.v (.int .i64 room1))] kk
def kt0_impl_RunOften (kf : Kt) : Kt := blockK 0 (seqK (evF TT cs_impl_RunOften_i1 33 an_impl_RunOften_i1 Try.f81 [1, 1, 1]) (inlK TT 21 Try.f81 (some 18) (regK TT cs_impl_RunOften 21 3 (seqK (evF TT cs_impl_RunOften 21 an_impl_RunOften Try.f46 [1, 1, 1, 1]) (kf)) (subc [1, 1, 1, 0] (Try.f46.body.getD .skip)))))
theorem r0_impl_RunOften (t0 : List Int) (room1 : Int) (xt14i1 : Int) (kk : AV → List A1 → Prop) (n : Nat) (xhits8i1 : Int) (xt15i1 : Int) (xcache1 : List (Int × Int × Int)) (xb6c0 : Int) :
    iter (evF TT cs_impl_RunOften_i1 33 an_impl_RunOften_i1 Try.f81 [1, 1, 0, 1, 0, 0]) nm0_impl_RunOften (kt0_impl_RunOften (fin_impl_RunOften t0 room1 kk)) (n + 1) (can0_impl_RunOften room1 t0 xt14i1 xhits8i1 xt15i1 xcache1 xb6c0) = T0_impl_RunOften room1 t0 xt14i1 xhits8i1 xt15i1 xcache1 xb6c0 (fun r0 r1 => kk (.tup [.c (.ro .iii r0), .c (.v (.int .i64 r1))]) []) (fun xhits8i1 xt15i1 xcache1 xb6c0 => iter (evF TT cs_impl_RunOften_i1 33 an_impl_RunOften_i1 Try.f81 [1, 1, 0, 1, 0, 0]) nm0_impl_RunOften (kt0_impl_RunOften (fin_impl_RunOften t0 room1 kk)) n (can0_impl_RunOften room1 t0 xt14i1 xhits8i1 xt15i1 xcache1 xb6c0)) := by kernel_rfl
theorem l0_impl_RunOften (t0 : List Int) (room1 : Int) (xt14i1 : Int) (kk : AV → List A1 → Prop) : ∀ (n : Nat) (xhits8i1 : Int) (xt15i1 : Int) (xcache1 : List (Int × Int × Int)) (xb6c0 : Int), iter (evF TT cs_impl_RunOften_i1 33 an_impl_RunOften_i1 Try.f81 [1, 1, 0, 1, 0, 0]) nm0_impl_RunOften (kt0_impl_RunOften (fin_impl_RunOften t0 room1 kk)) n (can0_impl_RunOften room1 t0 xt14i1 xhits8i1 xt15i1 xcache1 xb6c0) = L0_impl_RunOften room1 t0 xt14i1 (fun r0 r1 => kk (.tup [.c (.ro .iii r0), .c (.v (.int .i64 r1))]) []) n xhits8i1 xt15i1 xcache1 xb6c0 := by
  intro n
  induction n with
  | zero => intros; rfl
  | succ n ih =>
    intro xhits8i1 xt15i1 xcache1 xb6c0
    rw [r0_impl_RunOften t0 room1 xt14i1 kk n xhits8i1 xt15i1 xcache1 xb6c0]
    have hb : (fun xhits8i1 xt15i1 xcache1 xb6c0 => iter (evF TT cs_impl_RunOften_i1 33 an_impl_RunOften_i1 Try.f81 [1, 1, 0, 1, 0, 0]) nm0_impl_RunOften (kt0_impl_RunOften (fin_impl_RunOften t0 room1 kk)) n (can0_impl_RunOften room1 t0 xt14i1 xhits8i1 xt15i1 xcache1 xb6c0)) = L0_impl_RunOften room1 t0 xt14i1 (fun r0 r1 => kk (.tup [.c (.ro .iii r0), .c (.v (.int .i64 r1))]) []) n := by
      funext xhits8i1 xt15i1 xcache1 xb6c0; exact ih xhits8i1 xt15i1 xcache1 xb6c0
    rw [hb]
    rfl
theorem g_impl_RunOften (t0 : List Int) (room1 : Int) (kk : AV → List A1 → Prop) :
    ev TT cs_impl_RunOften 21 an_impl_RunOften (Try.f46.body.getD .skip) (st0 con_impl_RunOften [.c (.ro .int t0), .c (.v (.int .i64 room1))]) (fin TT con_impl_RunOften Try.f46.results.toList [.c (.sl .iii), .c .sc] [.c (.ro .int t0), .c (.v (.int .i64 room1))] kk) = G_impl_RunOften t0 room1 (fun r0 r1 => kk (.tup [.c (.ro .iii r0), .c (.v (.int .i64 r1))]) []) (fun room1 t0 xt14i1 xhits8i1 xt15i1 xcache1 xb6c0 => ∃ j, iter (evF TT cs_impl_RunOften_i1 33 an_impl_RunOften_i1 Try.f81 [1, 1, 0, 1, 0, 0]) nm0_impl_RunOften (kt0_impl_RunOften (fin_impl_RunOften t0 room1 kk)) j (can0_impl_RunOften room1 t0 xt14i1 xhits8i1 xt15i1 xcache1 xb6c0)) := by kernel_rfl
theorem e_impl_RunOften (t0 : List Int) (room1 : Int) (kk : AV → List A1 → Prop) :
    ev TT cs_impl_RunOften 21 an_impl_RunOften (Try.f46.body.getD .skip) (st0 con_impl_RunOften [.c (.ro .int t0), .c (.v (.int .i64 room1))]) (fin TT con_impl_RunOften Try.f46.results.toList [.c (.sl .iii), .c .sc] [.c (.ro .int t0), .c (.v (.int .i64 room1))] kk) = S_impl_RunOften t0 room1 (fun r0 r1 => kk (.tup [.c (.ro .iii r0), .c (.v (.int .i64 r1))]) []) := by
  rw [g_impl_RunOften]
  have hi0 : (fun room1 t0 xt14i1 xhits8i1 xt15i1 xcache1 xb6c0 => ∃ j, iter (evF TT cs_impl_RunOften_i1 33 an_impl_RunOften_i1 Try.f81 [1, 1, 0, 1, 0, 0]) nm0_impl_RunOften (kt0_impl_RunOften (fin_impl_RunOften t0 room1 kk)) j (can0_impl_RunOften room1 t0 xt14i1 xhits8i1 xt15i1 xcache1 xb6c0)) = (fun room1 t0 xt14i1 xhits8i1 xt15i1 xcache1 xb6c0 => ∃ j, L0_impl_RunOften room1 t0 xt14i1 (fun r0 r1 => kk (.tup [.c (.ro .iii r0), .c (.v (.int .i64 r1))]) []) j xhits8i1 xt15i1 xcache1 xb6c0) := by
    funext room1 t0 xt14i1 xhits8i1 xt15i1 xcache1 xb6c0
    refine congrArg Exists (funext fun j => ?_)
    rw [l0_impl_RunOften t0 room1 xt14i1 kk j xhits8i1 xt15i1 xcache1 xb6c0]
  rw [hi0]
  rfl
theorem clok_impl_RunOften : ConOK Try.prog cl_impl_RunOften := consCons h_impl_ValidTrace ⟨Try.f23, Try.func23, by kernel_rfl, ne_of_beq (by kernel_rfl)⟩ (consCons h_impl_validRoom ⟨Try.f69, Try.func69, by kernel_rfl, ne_of_beq (by kernel_rfl)⟩ (consCons h_impl_UseOften ⟨Try.f83, Try.func83, by kernel_rfl, ne_of_beq (by kernel_rfl)⟩ (consNil)))
theorem cok_impl_RunOften_i2 : ConsOK Try.prog 22 cs_impl_RunOften_i2 := ⟨clok_impl_RunOften, inlNil⟩
theorem cok_impl_RunOften_i1 : ConsOK Try.prog 33 cs_impl_RunOften_i1 := ⟨clok_impl_RunOften, inlCons (inl_ok Try.func82 (by kernel_rfl) (ne_of_beq (by kernel_rfl)) Try.ntmps82 (by decide) mixed tabOK cok_impl_RunOften_i2 (by kernel_rfl)) (inlNil)⟩
theorem cok_impl_RunOften : ConsOK Try.prog 21 cs_impl_RunOften := ⟨clok_impl_RunOften, inlCons (inl_ok Try.func81 (by kernel_rfl) (ne_of_beq (by kernel_rfl)) Try.ntmps81 (by decide) mixed tabOK cok_impl_RunOften_i1 (by kernel_rfl)) (inlNil)⟩
theorem i_impl_RunOften {vs : List A1} {kk : AV → List A1 → Prop} {motive : List A1 → Prop} (h : con_impl_RunOften.F vs kk) (H : ∀ (t0 : List Int) (room1 : Int), F_impl_RunOften t0 room1 (fun r0 r1 => kk (.tup [.c (.ro .iii r0), .c (.v (.int .i64 r1))]) []) → motive [.c (.ro .int t0), .c (.v (.int .i64 room1))]) : motive vs := by
  unfold con_impl_RunOften at h
  dsimp only at h
  split at h
  · exact H _ _ h
  · exact h.elim
theorem h_impl_RunOften : Holds Try.prog 46 con_impl_RunOften := by
  refine holds_of_ev (rt := [.c (.sl .iii), .c .sc]) (T := TT) (Γ := cs_impl_RunOften) (an := an_impl_RunOften) (N := 21) (c := Try.f46.body.getD .skip) Try.func46 (by kernel_rfl) Try.ntmps46 (by decide) (by decide) mixed tabOK cok_impl_RunOften (by kernel_rfl) ?_
  intro vs kk _ hF
  exact i_impl_RunOften (motive := fun vs => Goes (ev TT cs_impl_RunOften 21 an_impl_RunOften (Try.f46.body.getD .skip) (st0 con_impl_RunOften vs) (fin TT con_impl_RunOften Try.f46.results.toList [.c (.sl .iii), .c .sc] vs kk))) hF (fun t0 room1 hF => goes_of (e_impl_RunOften t0 room1 kk) (F_impl_RunOften_S hF))
def con_spec_inRange : Con := ⟨[.rd, .rd, .rd], true, [.c (.sc), .c (.sc), .c (.sc)], fun vs k => match vs with
    | [.c (.v (.int .i64 n0)), .c (.v (.int .i64 low1)), .c (.v (.int .i64 high2))] => F_spec_inRange n0 low1 high2 (fun r0 => k (.one (.c (.v (.bool r0)))) [])
    | _ => False, false⟩
def cl_spec_inRange : List (FuncId × Con) := []
def an_spec_inRange : Ann := ⟨[], [], []⟩
def cs_spec_inRange : Cons := ⟨cl_spec_inRange, [], 0, [], []⟩
def fin_spec_inRange (n0 : Int) (low1 : Int) (high2 : Int) (kk : AV → List A1 → Prop) : Kt := fin TT con_spec_inRange Try.f61.results.toList [.c .sc] [.c (.v (.int .i64 n0)), .c (.v (.int .i64 low1)), .c (.v (.int .i64 high2))] kk
theorem g_spec_inRange (n0 : Int) (low1 : Int) (high2 : Int) (kk : AV → List A1 → Prop) :
    ev TT cs_spec_inRange 15 an_spec_inRange (Try.f61.body.getD .skip) (st0 con_spec_inRange [.c (.v (.int .i64 n0)), .c (.v (.int .i64 low1)), .c (.v (.int .i64 high2))]) (fin TT con_spec_inRange Try.f61.results.toList [.c .sc] [.c (.v (.int .i64 n0)), .c (.v (.int .i64 low1)), .c (.v (.int .i64 high2))] kk) = G_spec_inRange n0 low1 high2 (fun r0 => kk (.one (.c (.v (.bool r0)))) []) := by kernel_rfl
theorem e_spec_inRange (n0 : Int) (low1 : Int) (high2 : Int) (kk : AV → List A1 → Prop) :
    ev TT cs_spec_inRange 15 an_spec_inRange (Try.f61.body.getD .skip) (st0 con_spec_inRange [.c (.v (.int .i64 n0)), .c (.v (.int .i64 low1)), .c (.v (.int .i64 high2))]) (fin TT con_spec_inRange Try.f61.results.toList [.c .sc] [.c (.v (.int .i64 n0)), .c (.v (.int .i64 low1)), .c (.v (.int .i64 high2))] kk) = S_spec_inRange n0 low1 high2 (fun r0 => kk (.one (.c (.v (.bool r0)))) []) := by
  rw [g_spec_inRange]
  rfl
theorem clok_spec_inRange : ConOK Try.prog cl_spec_inRange := consNil
theorem cok_spec_inRange : ConsOK Try.prog 15 cs_spec_inRange := ⟨clok_spec_inRange, inlNil⟩
theorem i_spec_inRange {vs : List A1} {kk : AV → List A1 → Prop} {motive : List A1 → Prop} (h : con_spec_inRange.F vs kk) (H : ∀ (n0 : Int) (low1 : Int) (high2 : Int), F_spec_inRange n0 low1 high2 (fun r0 => kk (.one (.c (.v (.bool r0)))) []) → motive [.c (.v (.int .i64 n0)), .c (.v (.int .i64 low1)), .c (.v (.int .i64 high2))]) : motive vs := by
  unfold con_spec_inRange at h
  dsimp only at h
  split at h
  · exact H _ _ _ h
  · exact h.elim
theorem h_spec_inRange : Holds Try.prog 61 con_spec_inRange := by
  refine holds_of_ev (rt := [.c .sc]) (T := TT) (Γ := cs_spec_inRange) (an := an_spec_inRange) (N := 15) (c := Try.f61.body.getD .skip) Try.func61 (by kernel_rfl) Try.ntmps61 (by decide) (by decide) mixed tabOK cok_spec_inRange (by kernel_rfl) ?_
  intro vs kk _ hF
  exact i_spec_inRange (motive := fun vs => Goes (ev TT cs_spec_inRange 15 an_spec_inRange (Try.f61.body.getD .skip) (st0 con_spec_inRange vs) (fin TT con_spec_inRange Try.f61.results.toList [.c .sc] vs kk))) hF (fun n0 low1 high2 hF => goes_of (e_spec_inRange n0 low1 high2 kk) (F_spec_inRange_S hF))
def con_spec_allIn : Con := ⟨[.rd, .rd, .rd], true, [.c (.sl .int), .c (.sc), .c (.sc)], fun vs k => match vs with
    | [.c (.ro .int list0), .c (.v (.int .i64 low1)), .c (.v (.int .i64 high2))] => F_spec_allIn list0 low1 high2 (fun r0 => k (.one (.c (.v (.bool r0)))) [])
    | _ => False, false⟩
def cl_spec_allIn : List (FuncId × Con) := [(61, con_spec_inRange)]
def nm0_spec_allIn : List NStep := [.keep [0, 1, 2, 7] []]
def an_spec_allIn : Ann := ⟨[], [(2, nm0_spec_allIn)], []⟩
def cs_spec_allIn : Cons := ⟨cl_spec_allIn, [], 0, [], []⟩
def can0_spec_allIn (high2 : Int) (list0 : List Int) (low1 : Int) (xi7 : Int) : St := ⟨[(0, .one (.c (.ro .int list0))), (1, .one (.c (.v (.int .i64 low1)))), (2, .one (.c (.v (.int .i64 high2)))), (7, .one (.c (.v (.int .i64 xi7))))], []⟩
def fin_spec_allIn (list0 : List Int) (low1 : Int) (high2 : Int) (kk : AV → List A1 → Prop) : Kt := fin TT con_spec_allIn Try.f91.results.toList [.c .sc] [.c (.ro .int list0), .c (.v (.int .i64 low1)), .c (.v (.int .i64 high2))] kk
def kt0_spec_allIn (kf : Kt) : Kt := blockK 0 (seqK (evF TT cs_spec_allIn 22 an_spec_allIn Try.f91 [1, 1]) (kf))
theorem r0_spec_allIn (list0 : List Int) (low1 : Int) (high2 : Int) (kk : AV → List A1 → Prop) (n : Nat) (xi7 : Int) :
    iter (evF TT cs_spec_allIn 22 an_spec_allIn Try.f91 [1, 0, 1, 0, 0]) nm0_spec_allIn (kt0_spec_allIn (fin_spec_allIn list0 low1 high2 kk)) (n + 1) (can0_spec_allIn high2 list0 low1 xi7) = T0_spec_allIn high2 list0 low1 xi7 (fun r0 => kk (.one (.c (.v (.bool r0)))) []) (fun xi7 => iter (evF TT cs_spec_allIn 22 an_spec_allIn Try.f91 [1, 0, 1, 0, 0]) nm0_spec_allIn (kt0_spec_allIn (fin_spec_allIn list0 low1 high2 kk)) n (can0_spec_allIn high2 list0 low1 xi7)) := by kernel_rfl
theorem l0_spec_allIn (list0 : List Int) (low1 : Int) (high2 : Int) (kk : AV → List A1 → Prop) : ∀ (n : Nat) (xi7 : Int), iter (evF TT cs_spec_allIn 22 an_spec_allIn Try.f91 [1, 0, 1, 0, 0]) nm0_spec_allIn (kt0_spec_allIn (fin_spec_allIn list0 low1 high2 kk)) n (can0_spec_allIn high2 list0 low1 xi7) = L0_spec_allIn high2 list0 low1 (fun r0 => kk (.one (.c (.v (.bool r0)))) []) n xi7 := by
  intro n
  induction n with
  | zero => intros; rfl
  | succ n ih =>
    intro xi7
    rw [r0_spec_allIn list0 low1 high2 kk n xi7]
    have hb : (fun xi7 => iter (evF TT cs_spec_allIn 22 an_spec_allIn Try.f91 [1, 0, 1, 0, 0]) nm0_spec_allIn (kt0_spec_allIn (fin_spec_allIn list0 low1 high2 kk)) n (can0_spec_allIn high2 list0 low1 xi7)) = L0_spec_allIn high2 list0 low1 (fun r0 => kk (.one (.c (.v (.bool r0)))) []) n := by
      funext xi7; exact ih xi7
    rw [hb]
    rfl
theorem g_spec_allIn (list0 : List Int) (low1 : Int) (high2 : Int) (kk : AV → List A1 → Prop) :
    ev TT cs_spec_allIn 22 an_spec_allIn (Try.f91.body.getD .skip) (st0 con_spec_allIn [.c (.ro .int list0), .c (.v (.int .i64 low1)), .c (.v (.int .i64 high2))]) (fin TT con_spec_allIn Try.f91.results.toList [.c .sc] [.c (.ro .int list0), .c (.v (.int .i64 low1)), .c (.v (.int .i64 high2))] kk) = G_spec_allIn list0 low1 high2 (fun high2 list0 low1 xi7 => ∃ j, iter (evF TT cs_spec_allIn 22 an_spec_allIn Try.f91 [1, 0, 1, 0, 0]) nm0_spec_allIn (kt0_spec_allIn (fin_spec_allIn list0 low1 high2 kk)) j (can0_spec_allIn high2 list0 low1 xi7)) := by kernel_rfl
theorem e_spec_allIn (list0 : List Int) (low1 : Int) (high2 : Int) (kk : AV → List A1 → Prop) :
    ev TT cs_spec_allIn 22 an_spec_allIn (Try.f91.body.getD .skip) (st0 con_spec_allIn [.c (.ro .int list0), .c (.v (.int .i64 low1)), .c (.v (.int .i64 high2))]) (fin TT con_spec_allIn Try.f91.results.toList [.c .sc] [.c (.ro .int list0), .c (.v (.int .i64 low1)), .c (.v (.int .i64 high2))] kk) = S_spec_allIn list0 low1 high2 (fun r0 => kk (.one (.c (.v (.bool r0)))) []) := by
  rw [g_spec_allIn]
  have hi0 : (fun high2 list0 low1 xi7 => ∃ j, iter (evF TT cs_spec_allIn 22 an_spec_allIn Try.f91 [1, 0, 1, 0, 0]) nm0_spec_allIn (kt0_spec_allIn (fin_spec_allIn list0 low1 high2 kk)) j (can0_spec_allIn high2 list0 low1 xi7)) = (fun high2 list0 low1 xi7 => ∃ j, L0_spec_allIn high2 list0 low1 (fun r0 => kk (.one (.c (.v (.bool r0)))) []) j xi7) := by
    funext high2 list0 low1 xi7
    refine congrArg Exists (funext fun j => ?_)
    rw [l0_spec_allIn list0 low1 high2 kk j xi7]
  rw [hi0]
  rfl
theorem clok_spec_allIn : ConOK Try.prog cl_spec_allIn := consCons h_spec_inRange ⟨Try.f61, Try.func61, by kernel_rfl, ne_of_beq (by kernel_rfl)⟩ (consNil)
theorem cok_spec_allIn : ConsOK Try.prog 22 cs_spec_allIn := ⟨clok_spec_allIn, inlNil⟩
theorem i_spec_allIn {vs : List A1} {kk : AV → List A1 → Prop} {motive : List A1 → Prop} (h : con_spec_allIn.F vs kk) (H : ∀ (list0 : List Int) (low1 : Int) (high2 : Int), F_spec_allIn list0 low1 high2 (fun r0 => kk (.one (.c (.v (.bool r0)))) []) → motive [.c (.ro .int list0), .c (.v (.int .i64 low1)), .c (.v (.int .i64 high2))]) : motive vs := by
  unfold con_spec_allIn at h
  dsimp only at h
  split at h
  · exact H _ _ _ h
  · exact h.elim
theorem h_spec_allIn : Holds Try.prog 91 con_spec_allIn := by
  refine holds_of_ev (rt := [.c .sc]) (T := TT) (Γ := cs_spec_allIn) (an := an_spec_allIn) (N := 22) (c := Try.f91.body.getD .skip) Try.func91 (by kernel_rfl) Try.ntmps91 (by decide) (by decide) mixed tabOK cok_spec_allIn (by kernel_rfl) ?_
  intro vs kk _ hF
  exact i_spec_allIn (motive := fun vs => Goes (ev TT cs_spec_allIn 22 an_spec_allIn (Try.f91.body.getD .skip) (st0 con_spec_allIn vs) (fin TT con_spec_allIn Try.f91.results.toList [.c .sc] vs kk))) hF (fun list0 low1 high2 hF => goes_of (e_spec_allIn list0 low1 high2 kk) (F_spec_allIn_S hF))
def con_spec_validTrace : Con := ⟨[.rd], true, [.c (.sl .int)], fun vs k => match vs with
    | [.c (.ro .int t0)] => F_spec_validTrace t0 (fun r0 => k (.one (.c (.v (.bool r0)))) [])
    | _ => False, false⟩
def cl_spec_validTrace : List (FuncId × Con) := [(91, con_spec_allIn)]
def an_spec_validTrace : Ann := ⟨[], [], []⟩
def cs_spec_validTrace : Cons := ⟨cl_spec_validTrace, [], 0, [], []⟩
def fin_spec_validTrace (t0 : List Int) (kk : AV → List A1 → Prop) : Kt := fin TT con_spec_validTrace Try.f53.results.toList [.c .sc] [.c (.ro .int t0)] kk
theorem g_spec_validTrace (t0 : List Int) (kk : AV → List A1 → Prop) :
    ev TT cs_spec_validTrace 10 an_spec_validTrace (Try.f53.body.getD .skip) (st0 con_spec_validTrace [.c (.ro .int t0)]) (fin TT con_spec_validTrace Try.f53.results.toList [.c .sc] [.c (.ro .int t0)] kk) = G_spec_validTrace t0 (fun r0 => kk (.one (.c (.v (.bool r0)))) []) := by kernel_rfl
theorem e_spec_validTrace (t0 : List Int) (kk : AV → List A1 → Prop) :
    ev TT cs_spec_validTrace 10 an_spec_validTrace (Try.f53.body.getD .skip) (st0 con_spec_validTrace [.c (.ro .int t0)]) (fin TT con_spec_validTrace Try.f53.results.toList [.c .sc] [.c (.ro .int t0)] kk) = S_spec_validTrace t0 (fun r0 => kk (.one (.c (.v (.bool r0)))) []) := by
  rw [g_spec_validTrace]
  rfl
theorem clok_spec_validTrace : ConOK Try.prog cl_spec_validTrace := consCons h_spec_allIn ⟨Try.f91, Try.func91, by kernel_rfl, ne_of_beq (by kernel_rfl)⟩ (consNil)
theorem cok_spec_validTrace : ConsOK Try.prog 10 cs_spec_validTrace := ⟨clok_spec_validTrace, inlNil⟩
theorem i_spec_validTrace {vs : List A1} {kk : AV → List A1 → Prop} {motive : List A1 → Prop} (h : con_spec_validTrace.F vs kk) (H : ∀ (t0 : List Int), F_spec_validTrace t0 (fun r0 => kk (.one (.c (.v (.bool r0)))) []) → motive [.c (.ro .int t0)]) : motive vs := by
  unfold con_spec_validTrace at h
  dsimp only at h
  split at h
  · exact H _ h
  · exact h.elim
theorem h_spec_validTrace : Holds Try.prog 53 con_spec_validTrace := by
  refine holds_of_ev (rt := [.c .sc]) (T := TT) (Γ := cs_spec_validTrace) (an := an_spec_validTrace) (N := 10) (c := Try.f53.body.getD .skip) Try.func53 (by kernel_rfl) Try.ntmps53 (by decide) (by decide) mixed tabOK cok_spec_validTrace (by kernel_rfl) ?_
  intro vs kk _ hF
  exact i_spec_validTrace (motive := fun vs => Goes (ev TT cs_spec_validTrace 10 an_spec_validTrace (Try.f53.body.getD .skip) (st0 con_spec_validTrace vs) (fin TT con_spec_validTrace Try.f53.results.toList [.c .sc] vs kk))) hF (fun t0 hF => goes_of (e_spec_validTrace t0 kk) (F_spec_validTrace_S hF))
def con_spec_rarer : Con := ⟨[.rd, .rd], true, [.agg [.sc, .sc, .sc], .agg [.sc, .sc, .sc]], fun vs k => match vs with
    | [.agg [.v (.int .i64 a0Key), .v (.int .i64 a0Count), .v (.int .i64 a0Last)], .agg [.v (.int .i64 b1Key), .v (.int .i64 b1Count), .v (.int .i64 b1Last)]] => F_spec_rarer a0Key a0Count a0Last b1Key b1Count b1Last (fun r0 => k (.one (.c (.v (.bool r0)))) [])
    | _ => False, false⟩
def cl_spec_rarer : List (FuncId × Con) := []
def an_spec_rarer : Ann := ⟨[], [], []⟩
def cs_spec_rarer : Cons := ⟨cl_spec_rarer, [], 0, [], []⟩
def fin_spec_rarer (a0Key : Int) (a0Count : Int) (a0Last : Int) (b1Key : Int) (b1Count : Int) (b1Last : Int) (kk : AV → List A1 → Prop) : Kt := fin TT con_spec_rarer Try.f111.results.toList [.c .sc] [.agg [.v (.int .i64 a0Key), .v (.int .i64 a0Count), .v (.int .i64 a0Last)], .agg [.v (.int .i64 b1Key), .v (.int .i64 b1Count), .v (.int .i64 b1Last)]] kk
theorem g_spec_rarer (a0Key : Int) (a0Count : Int) (a0Last : Int) (b1Key : Int) (b1Count : Int) (b1Last : Int) (kk : AV → List A1 → Prop) :
    ev TT cs_spec_rarer 24 an_spec_rarer (Try.f111.body.getD .skip) (st0 con_spec_rarer [.agg [.v (.int .i64 a0Key), .v (.int .i64 a0Count), .v (.int .i64 a0Last)], .agg [.v (.int .i64 b1Key), .v (.int .i64 b1Count), .v (.int .i64 b1Last)]]) (fin TT con_spec_rarer Try.f111.results.toList [.c .sc] [.agg [.v (.int .i64 a0Key), .v (.int .i64 a0Count), .v (.int .i64 a0Last)], .agg [.v (.int .i64 b1Key), .v (.int .i64 b1Count), .v (.int .i64 b1Last)]] kk) = G_spec_rarer a0Key a0Count a0Last b1Key b1Count b1Last (fun r0 => kk (.one (.c (.v (.bool r0)))) []) := by kernel_rfl
theorem e_spec_rarer (a0Key : Int) (a0Count : Int) (a0Last : Int) (b1Key : Int) (b1Count : Int) (b1Last : Int) (kk : AV → List A1 → Prop) :
    ev TT cs_spec_rarer 24 an_spec_rarer (Try.f111.body.getD .skip) (st0 con_spec_rarer [.agg [.v (.int .i64 a0Key), .v (.int .i64 a0Count), .v (.int .i64 a0Last)], .agg [.v (.int .i64 b1Key), .v (.int .i64 b1Count), .v (.int .i64 b1Last)]]) (fin TT con_spec_rarer Try.f111.results.toList [.c .sc] [.agg [.v (.int .i64 a0Key), .v (.int .i64 a0Count), .v (.int .i64 a0Last)], .agg [.v (.int .i64 b1Key), .v (.int .i64 b1Count), .v (.int .i64 b1Last)]] kk) = S_spec_rarer a0Key a0Count a0Last b1Key b1Count b1Last (fun r0 => kk (.one (.c (.v (.bool r0)))) []) := by
  rw [g_spec_rarer]
  rfl
theorem clok_spec_rarer : ConOK Try.prog cl_spec_rarer := consNil
theorem cok_spec_rarer : ConsOK Try.prog 24 cs_spec_rarer := ⟨clok_spec_rarer, inlNil⟩
theorem i_spec_rarer {vs : List A1} {kk : AV → List A1 → Prop} {motive : List A1 → Prop} (h : con_spec_rarer.F vs kk) (H : ∀ (a0Key : Int) (a0Count : Int) (a0Last : Int) (b1Key : Int) (b1Count : Int) (b1Last : Int), F_spec_rarer a0Key a0Count a0Last b1Key b1Count b1Last (fun r0 => kk (.one (.c (.v (.bool r0)))) []) → motive [.agg [.v (.int .i64 a0Key), .v (.int .i64 a0Count), .v (.int .i64 a0Last)], .agg [.v (.int .i64 b1Key), .v (.int .i64 b1Count), .v (.int .i64 b1Last)]]) : motive vs := by
  unfold con_spec_rarer at h
  dsimp only at h
  split at h
  · exact H _ _ _ _ _ _ h
  · exact h.elim
theorem h_spec_rarer : Holds Try.prog 111 con_spec_rarer := by
  refine holds_of_ev (rt := [.c .sc]) (T := TT) (Γ := cs_spec_rarer) (an := an_spec_rarer) (N := 24) (c := Try.f111.body.getD .skip) Try.func111 (by kernel_rfl) Try.ntmps111 (by decide) (by decide) mixed tabOK cok_spec_rarer (by kernel_rfl) ?_
  intro vs kk _ hF
  exact i_spec_rarer (motive := fun vs => Goes (ev TT cs_spec_rarer 24 an_spec_rarer (Try.f111.body.getD .skip) (st0 con_spec_rarer vs) (fin TT con_spec_rarer Try.f111.results.toList [.c .sc] vs kk))) hF (fun a0Key a0Count a0Last b1Key b1Count b1Last hF => goes_of (e_spec_rarer a0Key a0Count a0Last b1Key b1Count b1Last kk) (F_spec_rarer_S hF))
def con_spec_rarest : Con := ⟨[.rd], true, [.c (.sl .iii)], fun vs k => match vs with
    | [.c (.ro .iii list0)] => F_spec_rarest list0 (fun r0 => k (.one (.c (.v (.int .i64 r0)))) [])
    | _ => False, false⟩
def cl_spec_rarest : List (FuncId × Con) := [(111, con_spec_rarer)]
def nm0_spec_rarest : List NStep := [.keep [0, 3, 4] []]
def an_spec_rarest : Ann := ⟨[(5, .take 0 (.take 1 (.take 2 (.take 3 (.take 4 (.take 5 (.take 6 (.take 7 (.alt 8 (.done) (.none))))))))), [])], [(3, nm0_spec_rarest)], []⟩
def cs_spec_rarest : Cons := ⟨cl_spec_rarest, [], 0, [], []⟩
def can0_spec_rarest (list0 : List (Int × Int × Int)) (xat3 : Int) (xi4 : Int) : St := ⟨[(0, .one (.c (.ro .iii list0))), (3, .one (.c (.v (.int .i64 xat3)))), (4, .one (.c (.v (.int .i64 xi4))))], []⟩
def fin_spec_rarest (list0 : List (Int × Int × Int)) (kk : AV → List A1 → Prop) : Kt := fin TT con_spec_rarest Try.f105.results.toList [.c .sc] [.c (.ro .iii list0)] kk
def kt0_spec_rarest (kf : Kt) : Kt := blockK 0 (seqK (evF TT cs_spec_rarest 22 an_spec_rarest Try.f105 [1, 1, 1]) (kf))
theorem r0_spec_rarest (list0 : List (Int × Int × Int)) (kk : AV → List A1 → Prop) (n : Nat) (xat3 : Int) (xi4 : Int) :
    iter (evF TT cs_spec_rarest 22 an_spec_rarest Try.f105 [1, 1, 0, 1, 0, 0]) nm0_spec_rarest (kt0_spec_rarest (fin_spec_rarest list0 kk)) (n + 1) (can0_spec_rarest list0 xat3 xi4) = T0_spec_rarest list0 xat3 xi4 (fun r0 => kk (.one (.c (.v (.int .i64 r0)))) []) (fun xat3 xi4 => iter (evF TT cs_spec_rarest 22 an_spec_rarest Try.f105 [1, 1, 0, 1, 0, 0]) nm0_spec_rarest (kt0_spec_rarest (fin_spec_rarest list0 kk)) n (can0_spec_rarest list0 xat3 xi4)) := by kernel_rfl
theorem l0_spec_rarest (list0 : List (Int × Int × Int)) (kk : AV → List A1 → Prop) : ∀ (n : Nat) (xat3 : Int) (xi4 : Int), iter (evF TT cs_spec_rarest 22 an_spec_rarest Try.f105 [1, 1, 0, 1, 0, 0]) nm0_spec_rarest (kt0_spec_rarest (fin_spec_rarest list0 kk)) n (can0_spec_rarest list0 xat3 xi4) = L0_spec_rarest list0 (fun r0 => kk (.one (.c (.v (.int .i64 r0)))) []) n xat3 xi4 := by
  intro n
  induction n with
  | zero => intros; rfl
  | succ n ih =>
    intro xat3 xi4
    rw [r0_spec_rarest list0 kk n xat3 xi4]
    have hb : (fun xat3 xi4 => iter (evF TT cs_spec_rarest 22 an_spec_rarest Try.f105 [1, 1, 0, 1, 0, 0]) nm0_spec_rarest (kt0_spec_rarest (fin_spec_rarest list0 kk)) n (can0_spec_rarest list0 xat3 xi4)) = L0_spec_rarest list0 (fun r0 => kk (.one (.c (.v (.int .i64 r0)))) []) n := by
      funext xat3 xi4; exact ih xat3 xi4
    rw [hb]
    rw [T0_spec_rarest_eq]
    rfl
theorem g_spec_rarest (list0 : List (Int × Int × Int)) (kk : AV → List A1 → Prop) :
    ev TT cs_spec_rarest 22 an_spec_rarest (Try.f105.body.getD .skip) (st0 con_spec_rarest [.c (.ro .iii list0)]) (fin TT con_spec_rarest Try.f105.results.toList [.c .sc] [.c (.ro .iii list0)] kk) = G_spec_rarest list0 (fun list0 xat3 xi4 => ∃ j, iter (evF TT cs_spec_rarest 22 an_spec_rarest Try.f105 [1, 1, 0, 1, 0, 0]) nm0_spec_rarest (kt0_spec_rarest (fin_spec_rarest list0 kk)) j (can0_spec_rarest list0 xat3 xi4)) := by kernel_rfl
theorem e_spec_rarest (list0 : List (Int × Int × Int)) (kk : AV → List A1 → Prop) :
    ev TT cs_spec_rarest 22 an_spec_rarest (Try.f105.body.getD .skip) (st0 con_spec_rarest [.c (.ro .iii list0)]) (fin TT con_spec_rarest Try.f105.results.toList [.c .sc] [.c (.ro .iii list0)] kk) = S_spec_rarest list0 (fun r0 => kk (.one (.c (.v (.int .i64 r0)))) []) := by
  rw [g_spec_rarest]
  have hi0 : (fun list0 xat3 xi4 => ∃ j, iter (evF TT cs_spec_rarest 22 an_spec_rarest Try.f105 [1, 1, 0, 1, 0, 0]) nm0_spec_rarest (kt0_spec_rarest (fin_spec_rarest list0 kk)) j (can0_spec_rarest list0 xat3 xi4)) = (fun list0 xat3 xi4 => ∃ j, L0_spec_rarest list0 (fun r0 => kk (.one (.c (.v (.int .i64 r0)))) []) j xat3 xi4) := by
    funext list0 xat3 xi4
    refine congrArg Exists (funext fun j => ?_)
    rw [l0_spec_rarest list0 kk j xat3 xi4]
  rw [hi0]
  rfl
theorem clok_spec_rarest : ConOK Try.prog cl_spec_rarest := consCons h_spec_rarer ⟨Try.f111, Try.func111, by kernel_rfl, ne_of_beq (by kernel_rfl)⟩ (consNil)
theorem cok_spec_rarest : ConsOK Try.prog 22 cs_spec_rarest := ⟨clok_spec_rarest, inlNil⟩
theorem i_spec_rarest {vs : List A1} {kk : AV → List A1 → Prop} {motive : List A1 → Prop} (h : con_spec_rarest.F vs kk) (H : ∀ (list0 : List (Int × Int × Int)), F_spec_rarest list0 (fun r0 => kk (.one (.c (.v (.int .i64 r0)))) []) → motive [.c (.ro .iii list0)]) : motive vs := by
  unfold con_spec_rarest at h
  dsimp only at h
  split at h
  · exact H _ h
  · exact h.elim
theorem h_spec_rarest : Holds Try.prog 105 con_spec_rarest := by
  refine holds_of_ev (rt := [.c .sc]) (T := TT) (Γ := cs_spec_rarest) (an := an_spec_rarest) (N := 22) (c := Try.f105.body.getD .skip) Try.func105 (by kernel_rfl) Try.ntmps105 (by decide) (by decide) mixed tabOK cok_spec_rarest (by kernel_rfl) ?_
  intro vs kk _ hF
  exact i_spec_rarest (motive := fun vs => Goes (ev TT cs_spec_rarest 22 an_spec_rarest (Try.f105.body.getD .skip) (st0 con_spec_rarest vs) (fin TT con_spec_rarest Try.f105.results.toList [.c .sc] vs kk))) hF (fun list0 hF => goes_of (e_spec_rarest list0 kk) (F_spec_rarest_S hF))
def con_spec_often : Con := ⟨[.rd, .rd, .rd, .rd], true, [.c (.sl .iii), .c (.sc), .c (.sc), .c (.sc)], fun vs k => match vs with
    | [.c (.ro .iii list0), .c (.v (.int .i64 room1)), .c (.v (.int .i64 key2)), .c (.v (.int .i64 now3))] => F_spec_often list0 room1 key2 now3 (fun r0 r1 => k (.tup [.c (.ro .iii r0), .c (.v (.bool r1))]) [])
    | _ => False, false⟩
def cl_spec_often : List (FuncId × Con) := [(105, con_spec_rarest)]
def nm0_spec_often : List NStep := [.keep [1, 2, 3, 10, 11] [240]]
def an_spec_often : Ann := ⟨[(10, .take 0 (.take 1 (.take 2 (.take 3 (.take 4 (.take 5 (.take 6 (.alt 7 (.take 8 (.done)) (.none)))))))), [])], [(3, nm0_spec_often)], []⟩
def cs_spec_often : Cons := ⟨cl_spec_often, [], 0, [], []⟩
def can0_spec_often (key2 : Int) (list0 : List (Int × Int × Int)) (now3 : Int) (room1 : Int) (xi11 : Int) : St := ⟨[(1, .one (.c (.v (.int .i64 room1)))), (2, .one (.c (.v (.int .i64 key2)))), (3, .one (.c (.v (.int .i64 now3)))), (10, .one (.c (.ow 240))), (11, .one (.c (.v (.int .i64 xi11))))], [(240, .row .iii list0)]⟩
def fin_spec_often (list0 : List (Int × Int × Int)) (room1 : Int) (key2 : Int) (now3 : Int) (kk : AV → List A1 → Prop) : Kt := fin TT con_spec_often Try.f84.results.toList [.c (.sl .iii), .c .sc] [.c (.ro .iii list0), .c (.v (.int .i64 room1)), .c (.v (.int .i64 key2)), .c (.v (.int .i64 now3))] kk
def kt0_spec_often (kf : Kt) : Kt := blockK 0 (seqK (evF TT cs_spec_often 63 an_spec_often Try.f84 [1, 1, 1]) (kf))
theorem r0_spec_often (list0 : List (Int × Int × Int)) (room1 : Int) (key2 : Int) (now3 : Int) (kk : AV → List A1 → Prop) (n : Nat) (xi11 : Int) :
    iter (evF TT cs_spec_often 63 an_spec_often Try.f84 [1, 1, 0, 1, 0, 0]) nm0_spec_often (kt0_spec_often (fin_spec_often list0 room1 key2 now3 kk)) (n + 1) (can0_spec_often key2 list0 now3 room1 xi11) = T0_spec_often key2 list0 now3 room1 xi11 (fun r0 r1 => kk (.tup [.c (.ro .iii r0), .c (.v (.bool r1))]) []) (fun xi11 => iter (evF TT cs_spec_often 63 an_spec_often Try.f84 [1, 1, 0, 1, 0, 0]) nm0_spec_often (kt0_spec_often (fin_spec_often list0 room1 key2 now3 kk)) n (can0_spec_often key2 list0 now3 room1 xi11)) := by kernel_rfl
theorem l0_spec_often (list0 : List (Int × Int × Int)) (room1 : Int) (key2 : Int) (now3 : Int) (kk : AV → List A1 → Prop) : ∀ (n : Nat) (xi11 : Int), iter (evF TT cs_spec_often 63 an_spec_often Try.f84 [1, 1, 0, 1, 0, 0]) nm0_spec_often (kt0_spec_often (fin_spec_often list0 room1 key2 now3 kk)) n (can0_spec_often key2 list0 now3 room1 xi11) = L0_spec_often key2 list0 now3 room1 (fun r0 r1 => kk (.tup [.c (.ro .iii r0), .c (.v (.bool r1))]) []) n xi11 := by
  intro n
  induction n with
  | zero => intros; rfl
  | succ n ih =>
    intro xi11
    rw [r0_spec_often list0 room1 key2 now3 kk n xi11]
    have hb : (fun xi11 => iter (evF TT cs_spec_often 63 an_spec_often Try.f84 [1, 1, 0, 1, 0, 0]) nm0_spec_often (kt0_spec_often (fin_spec_often list0 room1 key2 now3 kk)) n (can0_spec_often key2 list0 now3 room1 xi11)) = L0_spec_often key2 list0 now3 room1 (fun r0 r1 => kk (.tup [.c (.ro .iii r0), .c (.v (.bool r1))]) []) n := by
      funext xi11; exact ih xi11
    rw [hb]
    rw [T0_spec_often_eq]
    rfl
theorem g_spec_often (list0 : List (Int × Int × Int)) (room1 : Int) (key2 : Int) (now3 : Int) (kk : AV → List A1 → Prop) :
    ev TT cs_spec_often 63 an_spec_often (Try.f84.body.getD .skip) (st0 con_spec_often [.c (.ro .iii list0), .c (.v (.int .i64 room1)), .c (.v (.int .i64 key2)), .c (.v (.int .i64 now3))]) (fin TT con_spec_often Try.f84.results.toList [.c (.sl .iii), .c .sc] [.c (.ro .iii list0), .c (.v (.int .i64 room1)), .c (.v (.int .i64 key2)), .c (.v (.int .i64 now3))] kk) = G_spec_often list0 room1 key2 now3 (fun key2 list0 now3 room1 xi11 => ∃ j, iter (evF TT cs_spec_often 63 an_spec_often Try.f84 [1, 1, 0, 1, 0, 0]) nm0_spec_often (kt0_spec_often (fin_spec_often list0 room1 key2 now3 kk)) j (can0_spec_often key2 list0 now3 room1 xi11)) := by kernel_rfl
theorem e_spec_often (list0 : List (Int × Int × Int)) (room1 : Int) (key2 : Int) (now3 : Int) (kk : AV → List A1 → Prop) :
    ev TT cs_spec_often 63 an_spec_often (Try.f84.body.getD .skip) (st0 con_spec_often [.c (.ro .iii list0), .c (.v (.int .i64 room1)), .c (.v (.int .i64 key2)), .c (.v (.int .i64 now3))]) (fin TT con_spec_often Try.f84.results.toList [.c (.sl .iii), .c .sc] [.c (.ro .iii list0), .c (.v (.int .i64 room1)), .c (.v (.int .i64 key2)), .c (.v (.int .i64 now3))] kk) = S_spec_often list0 room1 key2 now3 (fun r0 r1 => kk (.tup [.c (.ro .iii r0), .c (.v (.bool r1))]) []) := by
  rw [g_spec_often]
  have hi0 : (fun key2 list0 now3 room1 xi11 => ∃ j, iter (evF TT cs_spec_often 63 an_spec_often Try.f84 [1, 1, 0, 1, 0, 0]) nm0_spec_often (kt0_spec_often (fin_spec_often list0 room1 key2 now3 kk)) j (can0_spec_often key2 list0 now3 room1 xi11)) = (fun key2 list0 now3 room1 xi11 => ∃ j, L0_spec_often key2 list0 now3 room1 (fun r0 r1 => kk (.tup [.c (.ro .iii r0), .c (.v (.bool r1))]) []) j xi11) := by
    funext key2 list0 now3 room1 xi11
    refine congrArg Exists (funext fun j => ?_)
    rw [l0_spec_often list0 room1 key2 now3 kk j xi11]
  rw [hi0]
  rfl
theorem clok_spec_often : ConOK Try.prog cl_spec_often := consCons h_spec_rarest ⟨Try.f105, Try.func105, by kernel_rfl, ne_of_beq (by kernel_rfl)⟩ (consNil)
theorem cok_spec_often : ConsOK Try.prog 63 cs_spec_often := ⟨clok_spec_often, inlNil⟩
theorem i_spec_often {vs : List A1} {kk : AV → List A1 → Prop} {motive : List A1 → Prop} (h : con_spec_often.F vs kk) (H : ∀ (list0 : List (Int × Int × Int)) (room1 : Int) (key2 : Int) (now3 : Int), F_spec_often list0 room1 key2 now3 (fun r0 r1 => kk (.tup [.c (.ro .iii r0), .c (.v (.bool r1))]) []) → motive [.c (.ro .iii list0), .c (.v (.int .i64 room1)), .c (.v (.int .i64 key2)), .c (.v (.int .i64 now3))]) : motive vs := by
  unfold con_spec_often at h
  dsimp only at h
  split at h
  · exact H _ _ _ _ h
  · exact h.elim
theorem h_spec_often : Holds Try.prog 84 con_spec_often := by
  refine holds_of_ev (rt := [.c (.sl .iii), .c .sc]) (T := TT) (Γ := cs_spec_often) (an := an_spec_often) (N := 63) (c := Try.f84.body.getD .skip) Try.func84 (by kernel_rfl) Try.ntmps84 (by decide) (by decide) mixed tabOK cok_spec_often (by kernel_rfl) ?_
  intro vs kk _ hF
  exact i_spec_often (motive := fun vs => Goes (ev TT cs_spec_often 63 an_spec_often (Try.f84.body.getD .skip) (st0 con_spec_often vs) (fin TT con_spec_often Try.f84.results.toList [.c (.sl .iii), .c .sc] vs kk))) hF (fun list0 room1 key2 now3 hF => goes_of (e_spec_often list0 room1 key2 now3 kk) (F_spec_often_S hF))
def con_spec_toInt : Con := ⟨[.rd], true, [.c (.sc)], fun vs k => match vs with
    | [.c (.v (.bool b0))] => F_spec_toInt b0 (fun r0 => k (.one (.c (.v (.int .i64 r0)))) [])
    | _ => False, false⟩
def cl_spec_toInt : List (FuncId × Con) := []
def an_spec_toInt : Ann := ⟨[], [], []⟩
def cs_spec_toInt : Cons := ⟨cl_spec_toInt, [], 0, [], []⟩
def fin_spec_toInt (b0 : Bool) (kk : AV → List A1 → Prop) : Kt := fin TT con_spec_toInt Try.f62.results.toList [.c .sc] [.c (.v (.bool b0))] kk
theorem g_spec_toInt (b0 : Bool) (kk : AV → List A1 → Prop) :
    ev TT cs_spec_toInt 4 an_spec_toInt (Try.f62.body.getD .skip) (st0 con_spec_toInt [.c (.v (.bool b0))]) (fin TT con_spec_toInt Try.f62.results.toList [.c .sc] [.c (.v (.bool b0))] kk) = G_spec_toInt b0 (fun r0 => kk (.one (.c (.v (.int .i64 r0)))) []) := by kernel_rfl
theorem e_spec_toInt (b0 : Bool) (kk : AV → List A1 → Prop) :
    ev TT cs_spec_toInt 4 an_spec_toInt (Try.f62.body.getD .skip) (st0 con_spec_toInt [.c (.v (.bool b0))]) (fin TT con_spec_toInt Try.f62.results.toList [.c .sc] [.c (.v (.bool b0))] kk) = S_spec_toInt b0 (fun r0 => kk (.one (.c (.v (.int .i64 r0)))) []) := by
  rw [g_spec_toInt]
  rfl
theorem clok_spec_toInt : ConOK Try.prog cl_spec_toInt := consNil
theorem cok_spec_toInt : ConsOK Try.prog 4 cs_spec_toInt := ⟨clok_spec_toInt, inlNil⟩
theorem i_spec_toInt {vs : List A1} {kk : AV → List A1 → Prop} {motive : List A1 → Prop} (h : con_spec_toInt.F vs kk) (H : ∀ (b0 : Bool), F_spec_toInt b0 (fun r0 => kk (.one (.c (.v (.int .i64 r0)))) []) → motive [.c (.v (.bool b0))]) : motive vs := by
  unfold con_spec_toInt at h
  dsimp only at h
  split at h
  · exact H _ h
  · exact h.elim
theorem h_spec_toInt : Holds Try.prog 62 con_spec_toInt := by
  refine holds_of_ev (rt := [.c .sc]) (T := TT) (Γ := cs_spec_toInt) (an := an_spec_toInt) (N := 4) (c := Try.f62.body.getD .skip) Try.func62 (by kernel_rfl) Try.ntmps62 (by decide) (by decide) mixed tabOK cok_spec_toInt (by kernel_rfl) ?_
  intro vs kk _ hF
  exact i_spec_toInt (motive := fun vs => Goes (ev TT cs_spec_toInt 4 an_spec_toInt (Try.f62.body.getD .skip) (st0 con_spec_toInt vs) (fin TT con_spec_toInt Try.f62.results.toList [.c .sc] vs kk))) hF (fun b0 hF => goes_of (e_spec_toInt b0 kk) (F_spec_toInt_S hF))
def con_spec_RunOften : Con := ⟨[.rd, .rd], true, [.c (.sl .int), .c (.sc)], fun vs k => match vs with
    | [.c (.ro .int t0), .c (.v (.int .i64 room1))] => F_spec_RunOften t0 room1 (fun r0 r1 => k (.tup [.c (.ro .iii r0), .c (.v (.int .i64 r1))]) [])
    | _ => False, false⟩
def cl_spec_RunOften : List (FuncId × Con) := [(53, con_spec_validTrace), (61, con_spec_inRange), (62, con_spec_toInt), (84, con_spec_often)]
def nm0_spec_RunOften : List NStep := [.own 6 .iii 90000, .keep [0, 1, 6, 7, 8] [90000]]
def an_spec_RunOften : Ann := ⟨[], [(6, nm0_spec_RunOften)], []⟩
def cs_spec_RunOften : Cons := ⟨cl_spec_RunOften, [], 0, [], []⟩
def can0_spec_RunOften (room1 : Int) (t0 : List Int) (xn7 : Int) (xi8 : Int) (xlist6 : List (Int × Int × Int)) : St := ⟨[(0, .one (.c (.ro .int t0))), (1, .one (.c (.v (.int .i64 room1)))), (6, .one (.c (.ow 90000))), (7, .one (.c (.v (.int .i64 xn7)))), (8, .one (.c (.v (.int .i64 xi8))))], [(90000, .row .iii xlist6)]⟩
def fin_spec_RunOften (t0 : List Int) (room1 : Int) (kk : AV → List A1 → Prop) : Kt := fin TT con_spec_RunOften Try.f47.results.toList [.c (.sl .iii), .c .sc] [.c (.ro .int t0), .c (.v (.int .i64 room1))] kk
def kt0_spec_RunOften (kf : Kt) : Kt := blockK 0 (seqK (evF TT cs_spec_RunOften 42 an_spec_RunOften Try.f47 [1, 1, 1, 1, 1]) (kf))
theorem r0_spec_RunOften (t0 : List Int) (room1 : Int) (kk : AV → List A1 → Prop) (n : Nat) (xn7 : Int) (xi8 : Int) (xlist6 : List (Int × Int × Int)) :
    iter (evF TT cs_spec_RunOften 42 an_spec_RunOften Try.f47 [1, 1, 1, 1, 0, 1, 0, 0]) nm0_spec_RunOften (kt0_spec_RunOften (fin_spec_RunOften t0 room1 kk)) (n + 1) (can0_spec_RunOften room1 t0 xn7 xi8 xlist6) = T0_spec_RunOften room1 t0 xn7 xi8 xlist6 (fun r0 r1 => kk (.tup [.c (.ro .iii r0), .c (.v (.int .i64 r1))]) []) (fun xn7 xi8 xlist6 => iter (evF TT cs_spec_RunOften 42 an_spec_RunOften Try.f47 [1, 1, 1, 1, 0, 1, 0, 0]) nm0_spec_RunOften (kt0_spec_RunOften (fin_spec_RunOften t0 room1 kk)) n (can0_spec_RunOften room1 t0 xn7 xi8 xlist6)) := by kernel_rfl
theorem l0_spec_RunOften (t0 : List Int) (room1 : Int) (kk : AV → List A1 → Prop) : ∀ (n : Nat) (xn7 : Int) (xi8 : Int) (xlist6 : List (Int × Int × Int)), iter (evF TT cs_spec_RunOften 42 an_spec_RunOften Try.f47 [1, 1, 1, 1, 0, 1, 0, 0]) nm0_spec_RunOften (kt0_spec_RunOften (fin_spec_RunOften t0 room1 kk)) n (can0_spec_RunOften room1 t0 xn7 xi8 xlist6) = L0_spec_RunOften room1 t0 (fun r0 r1 => kk (.tup [.c (.ro .iii r0), .c (.v (.int .i64 r1))]) []) n xn7 xi8 xlist6 := by
  intro n
  induction n with
  | zero => intros; rfl
  | succ n ih =>
    intro xn7 xi8 xlist6
    rw [r0_spec_RunOften t0 room1 kk n xn7 xi8 xlist6]
    have hb : (fun xn7 xi8 xlist6 => iter (evF TT cs_spec_RunOften 42 an_spec_RunOften Try.f47 [1, 1, 1, 1, 0, 1, 0, 0]) nm0_spec_RunOften (kt0_spec_RunOften (fin_spec_RunOften t0 room1 kk)) n (can0_spec_RunOften room1 t0 xn7 xi8 xlist6)) = L0_spec_RunOften room1 t0 (fun r0 r1 => kk (.tup [.c (.ro .iii r0), .c (.v (.int .i64 r1))]) []) n := by
      funext xn7 xi8 xlist6; exact ih xn7 xi8 xlist6
    rw [hb]
    rfl
theorem g_spec_RunOften (t0 : List Int) (room1 : Int) (kk : AV → List A1 → Prop) :
    ev TT cs_spec_RunOften 42 an_spec_RunOften (Try.f47.body.getD .skip) (st0 con_spec_RunOften [.c (.ro .int t0), .c (.v (.int .i64 room1))]) (fin TT con_spec_RunOften Try.f47.results.toList [.c (.sl .iii), .c .sc] [.c (.ro .int t0), .c (.v (.int .i64 room1))] kk) = G_spec_RunOften t0 room1 (fun r0 r1 => kk (.tup [.c (.ro .iii r0), .c (.v (.int .i64 r1))]) []) (fun room1 t0 xn7 xi8 xlist6 => ∃ j, iter (evF TT cs_spec_RunOften 42 an_spec_RunOften Try.f47 [1, 1, 1, 1, 0, 1, 0, 0]) nm0_spec_RunOften (kt0_spec_RunOften (fin_spec_RunOften t0 room1 kk)) j (can0_spec_RunOften room1 t0 xn7 xi8 xlist6)) := by kernel_rfl
theorem e_spec_RunOften (t0 : List Int) (room1 : Int) (kk : AV → List A1 → Prop) :
    ev TT cs_spec_RunOften 42 an_spec_RunOften (Try.f47.body.getD .skip) (st0 con_spec_RunOften [.c (.ro .int t0), .c (.v (.int .i64 room1))]) (fin TT con_spec_RunOften Try.f47.results.toList [.c (.sl .iii), .c .sc] [.c (.ro .int t0), .c (.v (.int .i64 room1))] kk) = S_spec_RunOften t0 room1 (fun r0 r1 => kk (.tup [.c (.ro .iii r0), .c (.v (.int .i64 r1))]) []) := by
  rw [g_spec_RunOften]
  have hi0 : (fun room1 t0 xn7 xi8 xlist6 => ∃ j, iter (evF TT cs_spec_RunOften 42 an_spec_RunOften Try.f47 [1, 1, 1, 1, 0, 1, 0, 0]) nm0_spec_RunOften (kt0_spec_RunOften (fin_spec_RunOften t0 room1 kk)) j (can0_spec_RunOften room1 t0 xn7 xi8 xlist6)) = (fun room1 t0 xn7 xi8 xlist6 => ∃ j, L0_spec_RunOften room1 t0 (fun r0 r1 => kk (.tup [.c (.ro .iii r0), .c (.v (.int .i64 r1))]) []) j xn7 xi8 xlist6) := by
    funext room1 t0 xn7 xi8 xlist6
    refine congrArg Exists (funext fun j => ?_)
    rw [l0_spec_RunOften t0 room1 kk j xn7 xi8 xlist6]
  rw [hi0]
  rfl
theorem clok_spec_RunOften : ConOK Try.prog cl_spec_RunOften := consCons h_spec_validTrace ⟨Try.f53, Try.func53, by kernel_rfl, ne_of_beq (by kernel_rfl)⟩ (consCons h_spec_inRange ⟨Try.f61, Try.func61, by kernel_rfl, ne_of_beq (by kernel_rfl)⟩ (consCons h_spec_toInt ⟨Try.f62, Try.func62, by kernel_rfl, ne_of_beq (by kernel_rfl)⟩ (consCons h_spec_often ⟨Try.f84, Try.func84, by kernel_rfl, ne_of_beq (by kernel_rfl)⟩ (consNil))))
theorem cok_spec_RunOften : ConsOK Try.prog 42 cs_spec_RunOften := ⟨clok_spec_RunOften, inlNil⟩
theorem i_spec_RunOften {vs : List A1} {kk : AV → List A1 → Prop} {motive : List A1 → Prop} (h : con_spec_RunOften.F vs kk) (H : ∀ (t0 : List Int) (room1 : Int), F_spec_RunOften t0 room1 (fun r0 r1 => kk (.tup [.c (.ro .iii r0), .c (.v (.int .i64 r1))]) []) → motive [.c (.ro .int t0), .c (.v (.int .i64 room1))]) : motive vs := by
  unfold con_spec_RunOften at h
  dsimp only at h
  split at h
  · exact H _ _ h
  · exact h.elim
theorem h_spec_RunOften : Holds Try.prog 47 con_spec_RunOften := by
  refine holds_of_ev (rt := [.c (.sl .iii), .c .sc]) (T := TT) (Γ := cs_spec_RunOften) (an := an_spec_RunOften) (N := 42) (c := Try.f47.body.getD .skip) Try.func47 (by kernel_rfl) Try.ntmps47 (by decide) (by decide) mixed tabOK cok_spec_RunOften (by kernel_rfl) ?_
  intro vs kk _ hF
  exact i_spec_RunOften (motive := fun vs => Goes (ev TT cs_spec_RunOften 42 an_spec_RunOften (Try.f47.body.getD .skip) (st0 con_spec_RunOften vs) (fin TT con_spec_RunOften Try.f47.results.toList [.c (.sl .iii), .c .sc] vs kk))) hF (fun t0 room1 hF => goes_of (e_spec_RunOften t0 room1 kk) (F_spec_RunOften_S hF))
def con_laws_equalEntries : Con := ⟨[.rd, .rd], true, [.c (.sl .iii), .c (.sl .iii)], fun vs k => match vs with
    | [.c (.ro .iii a0), .c (.ro .iii b1)] => F_laws_equalEntries a0 b1 (fun r0 => k (.one (.c (.v (.bool r0)))) [])
    | _ => False, false⟩
def cl_laws_equalEntries : List (FuncId × Con) := []
def nm0_laws_equalEntries : List NStep := [.keep [0, 1, 5] []]
def an_laws_equalEntries : Ann := ⟨[(6, .take 0 (.take 1 (.take 2 (.take 3 (.take 4 (.take 5 (.take 6 (.take 7 (.take 8 (.done))))))))), [])], [(4, nm0_laws_equalEntries)], []⟩
def cs_laws_equalEntries : Cons := ⟨cl_laws_equalEntries, [], 0, [], []⟩
def can0_laws_equalEntries (a0 : List (Int × Int × Int)) (b1 : List (Int × Int × Int)) (xi5 : Int) : St := ⟨[(0, .one (.c (.ro .iii a0))), (1, .one (.c (.ro .iii b1))), (5, .one (.c (.v (.int .i64 xi5))))], []⟩
def fin_laws_equalEntries (a0 : List (Int × Int × Int)) (b1 : List (Int × Int × Int)) (kk : AV → List A1 → Prop) : Kt := fin TT con_laws_equalEntries Try.f48.results.toList [.c .sc] [.c (.ro .iii a0), .c (.ro .iii b1)] kk
def kt0_laws_equalEntries (kf : Kt) : Kt := blockK 0 (seqK (evF TT cs_laws_equalEntries 26 an_laws_equalEntries Try.f48 [1, 1, 1]) (kf))
theorem r0_laws_equalEntries (a0 : List (Int × Int × Int)) (b1 : List (Int × Int × Int)) (kk : AV → List A1 → Prop) (n : Nat) (xi5 : Int) :
    iter (evF TT cs_laws_equalEntries 26 an_laws_equalEntries Try.f48 [1, 1, 0, 1, 0, 0]) nm0_laws_equalEntries (kt0_laws_equalEntries (fin_laws_equalEntries a0 b1 kk)) (n + 1) (can0_laws_equalEntries a0 b1 xi5) = T0_laws_equalEntries a0 b1 xi5 (fun r0 => kk (.one (.c (.v (.bool r0)))) []) (fun xi5 => iter (evF TT cs_laws_equalEntries 26 an_laws_equalEntries Try.f48 [1, 1, 0, 1, 0, 0]) nm0_laws_equalEntries (kt0_laws_equalEntries (fin_laws_equalEntries a0 b1 kk)) n (can0_laws_equalEntries a0 b1 xi5)) := by kernel_rfl
theorem l0_laws_equalEntries (a0 : List (Int × Int × Int)) (b1 : List (Int × Int × Int)) (kk : AV → List A1 → Prop) : ∀ (n : Nat) (xi5 : Int), iter (evF TT cs_laws_equalEntries 26 an_laws_equalEntries Try.f48 [1, 1, 0, 1, 0, 0]) nm0_laws_equalEntries (kt0_laws_equalEntries (fin_laws_equalEntries a0 b1 kk)) n (can0_laws_equalEntries a0 b1 xi5) = L0_laws_equalEntries a0 b1 (fun r0 => kk (.one (.c (.v (.bool r0)))) []) n xi5 := by
  intro n
  induction n with
  | zero => intros; rfl
  | succ n ih =>
    intro xi5
    rw [r0_laws_equalEntries a0 b1 kk n xi5]
    have hb : (fun xi5 => iter (evF TT cs_laws_equalEntries 26 an_laws_equalEntries Try.f48 [1, 1, 0, 1, 0, 0]) nm0_laws_equalEntries (kt0_laws_equalEntries (fin_laws_equalEntries a0 b1 kk)) n (can0_laws_equalEntries a0 b1 xi5)) = L0_laws_equalEntries a0 b1 (fun r0 => kk (.one (.c (.v (.bool r0)))) []) n := by
      funext xi5; exact ih xi5
    rw [hb]
    rfl
theorem g_laws_equalEntries (a0 : List (Int × Int × Int)) (b1 : List (Int × Int × Int)) (kk : AV → List A1 → Prop) :
    ev TT cs_laws_equalEntries 26 an_laws_equalEntries (Try.f48.body.getD .skip) (st0 con_laws_equalEntries [.c (.ro .iii a0), .c (.ro .iii b1)]) (fin TT con_laws_equalEntries Try.f48.results.toList [.c .sc] [.c (.ro .iii a0), .c (.ro .iii b1)] kk) = G_laws_equalEntries a0 b1 (fun r0 => kk (.one (.c (.v (.bool r0)))) []) (fun a0 b1 xi5 => ∃ j, iter (evF TT cs_laws_equalEntries 26 an_laws_equalEntries Try.f48 [1, 1, 0, 1, 0, 0]) nm0_laws_equalEntries (kt0_laws_equalEntries (fin_laws_equalEntries a0 b1 kk)) j (can0_laws_equalEntries a0 b1 xi5)) := by kernel_rfl
theorem e_laws_equalEntries (a0 : List (Int × Int × Int)) (b1 : List (Int × Int × Int)) (kk : AV → List A1 → Prop) :
    ev TT cs_laws_equalEntries 26 an_laws_equalEntries (Try.f48.body.getD .skip) (st0 con_laws_equalEntries [.c (.ro .iii a0), .c (.ro .iii b1)]) (fin TT con_laws_equalEntries Try.f48.results.toList [.c .sc] [.c (.ro .iii a0), .c (.ro .iii b1)] kk) = S_laws_equalEntries a0 b1 (fun r0 => kk (.one (.c (.v (.bool r0)))) []) := by
  rw [g_laws_equalEntries]
  have hi0 : (fun a0 b1 xi5 => ∃ j, iter (evF TT cs_laws_equalEntries 26 an_laws_equalEntries Try.f48 [1, 1, 0, 1, 0, 0]) nm0_laws_equalEntries (kt0_laws_equalEntries (fin_laws_equalEntries a0 b1 kk)) j (can0_laws_equalEntries a0 b1 xi5)) = (fun a0 b1 xi5 => ∃ j, L0_laws_equalEntries a0 b1 (fun r0 => kk (.one (.c (.v (.bool r0)))) []) j xi5) := by
    funext a0 b1 xi5
    refine congrArg Exists (funext fun j => ?_)
    rw [l0_laws_equalEntries a0 b1 kk j xi5]
  rw [hi0]
  rfl
theorem clok_laws_equalEntries : ConOK Try.prog cl_laws_equalEntries := consNil
theorem cok_laws_equalEntries : ConsOK Try.prog 26 cs_laws_equalEntries := ⟨clok_laws_equalEntries, inlNil⟩
theorem i_laws_equalEntries {vs : List A1} {kk : AV → List A1 → Prop} {motive : List A1 → Prop} (h : con_laws_equalEntries.F vs kk) (H : ∀ (a0 : List (Int × Int × Int)) (b1 : List (Int × Int × Int)), F_laws_equalEntries a0 b1 (fun r0 => kk (.one (.c (.v (.bool r0)))) []) → motive [.c (.ro .iii a0), .c (.ro .iii b1)]) : motive vs := by
  unfold con_laws_equalEntries at h
  dsimp only at h
  split at h
  · exact H _ _ h
  · exact h.elim
theorem h_laws_equalEntries : Holds Try.prog 48 con_laws_equalEntries := by
  refine holds_of_ev (rt := [.c .sc]) (T := TT) (Γ := cs_laws_equalEntries) (an := an_laws_equalEntries) (N := 26) (c := Try.f48.body.getD .skip) Try.func48 (by kernel_rfl) Try.ntmps48 (by decide) (by decide) mixed tabOK cok_laws_equalEntries (by kernel_rfl) ?_
  intro vs kk _ hF
  exact i_laws_equalEntries (motive := fun vs => Goes (ev TT cs_laws_equalEntries 26 an_laws_equalEntries (Try.f48.body.getD .skip) (st0 con_laws_equalEntries vs) (fin TT con_laws_equalEntries Try.f48.results.toList [.c .sc] vs kk))) hF (fun a0 b1 hF => goes_of (e_laws_equalEntries a0 b1 kk) (F_laws_equalEntries_S hF))
def con_slices_Index_sint_int : Con := ⟨[.rd, .rd], true, [.c (.sl .int), .c (.sc)], fun vs k => match vs with
    | [.c (.ro .int s0), .c (.v (.int .i64 v1))] => F_slices_Index_sint_int s0 v1 (fun r0 => k (.one (.c (.v (.int .i64 r0)))) [])
    | _ => False, false⟩
def cl_slices_Index_sint_int : List (FuncId × Con) := []
def nm0_slices_Index_sint_int : List NStep := [.keep [0, 1, 7, 8] []]
def an_slices_Index_sint_int : Ann := ⟨[], [(2, nm0_slices_Index_sint_int)], []⟩
def cs_slices_Index_sint_int : Cons := ⟨cl_slices_Index_sint_int, [], 0, [], []⟩
def can0_slices_Index_sint_int (s0 : List Int) (v1 : Int) (xt7 : Int) (xt8 : Int) : St := ⟨[(0, .one (.c (.ro .int s0))), (1, .one (.c (.v (.int .i64 v1)))), (7, .one (.c (.v (.int .i64 xt7)))), (8, .one (.c (.v (.int .i64 xt8))))], []⟩
def fin_slices_Index_sint_int (s0 : List Int) (v1 : Int) (kk : AV → List A1 → Prop) : Kt := fin TT con_slices_Index_sint_int Try.f89.results.toList [.c .sc] [.c (.ro .int s0), .c (.v (.int .i64 v1))] kk
def kt0_slices_Index_sint_int (kf : Kt) : Kt := blockK 0 (seqK (evF TT cs_slices_Index_sint_int 19 an_slices_Index_sint_int Try.f89 [1, 1]) (kf))
theorem r0_slices_Index_sint_int (s0 : List Int) (v1 : Int) (xt7 : Int) (kk : AV → List A1 → Prop) (n : Nat) (xt8 : Int) :
    iter (evF TT cs_slices_Index_sint_int 19 an_slices_Index_sint_int Try.f89 [1, 0, 1, 0, 0]) nm0_slices_Index_sint_int (kt0_slices_Index_sint_int (fin_slices_Index_sint_int s0 v1 kk)) (n + 1) (can0_slices_Index_sint_int s0 v1 xt7 xt8) = T0_slices_Index_sint_int s0 v1 xt7 xt8 (fun r0 => kk (.one (.c (.v (.int .i64 r0)))) []) (fun xt8 => iter (evF TT cs_slices_Index_sint_int 19 an_slices_Index_sint_int Try.f89 [1, 0, 1, 0, 0]) nm0_slices_Index_sint_int (kt0_slices_Index_sint_int (fin_slices_Index_sint_int s0 v1 kk)) n (can0_slices_Index_sint_int s0 v1 xt7 xt8)) := by kernel_rfl
theorem l0_slices_Index_sint_int (s0 : List Int) (v1 : Int) (xt7 : Int) (kk : AV → List A1 → Prop) : ∀ (n : Nat) (xt8 : Int), iter (evF TT cs_slices_Index_sint_int 19 an_slices_Index_sint_int Try.f89 [1, 0, 1, 0, 0]) nm0_slices_Index_sint_int (kt0_slices_Index_sint_int (fin_slices_Index_sint_int s0 v1 kk)) n (can0_slices_Index_sint_int s0 v1 xt7 xt8) = L0_slices_Index_sint_int s0 v1 xt7 (fun r0 => kk (.one (.c (.v (.int .i64 r0)))) []) n xt8 := by
  intro n
  induction n with
  | zero => intros; rfl
  | succ n ih =>
    intro xt8
    rw [r0_slices_Index_sint_int s0 v1 xt7 kk n xt8]
    have hb : (fun xt8 => iter (evF TT cs_slices_Index_sint_int 19 an_slices_Index_sint_int Try.f89 [1, 0, 1, 0, 0]) nm0_slices_Index_sint_int (kt0_slices_Index_sint_int (fin_slices_Index_sint_int s0 v1 kk)) n (can0_slices_Index_sint_int s0 v1 xt7 xt8)) = L0_slices_Index_sint_int s0 v1 xt7 (fun r0 => kk (.one (.c (.v (.int .i64 r0)))) []) n := by
      funext xt8; exact ih xt8
    rw [hb]
    rfl
theorem g_slices_Index_sint_int (s0 : List Int) (v1 : Int) (kk : AV → List A1 → Prop) :
    ev TT cs_slices_Index_sint_int 19 an_slices_Index_sint_int (Try.f89.body.getD .skip) (st0 con_slices_Index_sint_int [.c (.ro .int s0), .c (.v (.int .i64 v1))]) (fin TT con_slices_Index_sint_int Try.f89.results.toList [.c .sc] [.c (.ro .int s0), .c (.v (.int .i64 v1))] kk) = G_slices_Index_sint_int s0 v1 (fun s0 v1 xt7 xt8 => ∃ j, iter (evF TT cs_slices_Index_sint_int 19 an_slices_Index_sint_int Try.f89 [1, 0, 1, 0, 0]) nm0_slices_Index_sint_int (kt0_slices_Index_sint_int (fin_slices_Index_sint_int s0 v1 kk)) j (can0_slices_Index_sint_int s0 v1 xt7 xt8)) := by kernel_rfl
theorem e_slices_Index_sint_int (s0 : List Int) (v1 : Int) (kk : AV → List A1 → Prop) :
    ev TT cs_slices_Index_sint_int 19 an_slices_Index_sint_int (Try.f89.body.getD .skip) (st0 con_slices_Index_sint_int [.c (.ro .int s0), .c (.v (.int .i64 v1))]) (fin TT con_slices_Index_sint_int Try.f89.results.toList [.c .sc] [.c (.ro .int s0), .c (.v (.int .i64 v1))] kk) = S_slices_Index_sint_int s0 v1 (fun r0 => kk (.one (.c (.v (.int .i64 r0)))) []) := by
  rw [g_slices_Index_sint_int]
  have hi0 : (fun s0 v1 xt7 xt8 => ∃ j, iter (evF TT cs_slices_Index_sint_int 19 an_slices_Index_sint_int Try.f89 [1, 0, 1, 0, 0]) nm0_slices_Index_sint_int (kt0_slices_Index_sint_int (fin_slices_Index_sint_int s0 v1 kk)) j (can0_slices_Index_sint_int s0 v1 xt7 xt8)) = (fun s0 v1 xt7 xt8 => ∃ j, L0_slices_Index_sint_int s0 v1 xt7 (fun r0 => kk (.one (.c (.v (.int .i64 r0)))) []) j xt8) := by
    funext s0 v1 xt7 xt8
    refine congrArg Exists (funext fun j => ?_)
    rw [l0_slices_Index_sint_int s0 v1 xt7 kk j xt8]
  rw [hi0]
  rfl
theorem clok_slices_Index_sint_int : ConOK Try.prog cl_slices_Index_sint_int := consNil
theorem cok_slices_Index_sint_int : ConsOK Try.prog 19 cs_slices_Index_sint_int := ⟨clok_slices_Index_sint_int, inlNil⟩
theorem i_slices_Index_sint_int {vs : List A1} {kk : AV → List A1 → Prop} {motive : List A1 → Prop} (h : con_slices_Index_sint_int.F vs kk) (H : ∀ (s0 : List Int) (v1 : Int), F_slices_Index_sint_int s0 v1 (fun r0 => kk (.one (.c (.v (.int .i64 r0)))) []) → motive [.c (.ro .int s0), .c (.v (.int .i64 v1))]) : motive vs := by
  unfold con_slices_Index_sint_int at h
  dsimp only at h
  split at h
  · exact H _ _ h
  · exact h.elim
theorem h_slices_Index_sint_int : Holds Try.prog 89 con_slices_Index_sint_int := by
  refine holds_of_ev (rt := [.c .sc]) (T := TT) (Γ := cs_slices_Index_sint_int) (an := an_slices_Index_sint_int) (N := 19) (c := Try.f89.body.getD .skip) Try.func89 (by kernel_rfl) Try.ntmps89 (by decide) (by decide) mixed tabOK cok_slices_Index_sint_int (by kernel_rfl) ?_
  intro vs kk _ hF
  exact i_slices_Index_sint_int (motive := fun vs => Goes (ev TT cs_slices_Index_sint_int 19 an_slices_Index_sint_int (Try.f89.body.getD .skip) (st0 con_slices_Index_sint_int vs) (fin TT con_slices_Index_sint_int Try.f89.results.toList [.c .sc] vs kk))) hF (fun s0 v1 hF => goes_of (e_slices_Index_sint_int s0 v1 kk) (F_slices_Index_sint_int_S hF))
def con_slices_Contains_sint_int : Con := ⟨[.rd, .rd], true, [.c (.sl .int), .c (.sc)], fun vs k => match vs with
    | [.c (.ro .int s0), .c (.v (.int .i64 v1))] => F_slices_Contains_sint_int s0 v1 (fun r0 => k (.one (.c (.v (.bool r0)))) [])
    | _ => False, false⟩
def cl_slices_Contains_sint_int : List (FuncId × Con) := [(89, con_slices_Index_sint_int)]
def an_slices_Contains_sint_int : Ann := ⟨[], [], []⟩
def cs_slices_Contains_sint_int : Cons := ⟨cl_slices_Contains_sint_int, [], 0, [], []⟩
def fin_slices_Contains_sint_int (s0 : List Int) (v1 : Int) (kk : AV → List A1 → Prop) : Kt := fin TT con_slices_Contains_sint_int Try.f64.results.toList [.c .sc] [.c (.ro .int s0), .c (.v (.int .i64 v1))] kk
theorem g_slices_Contains_sint_int (s0 : List Int) (v1 : Int) (kk : AV → List A1 → Prop) :
    ev TT cs_slices_Contains_sint_int 9 an_slices_Contains_sint_int (Try.f64.body.getD .skip) (st0 con_slices_Contains_sint_int [.c (.ro .int s0), .c (.v (.int .i64 v1))]) (fin TT con_slices_Contains_sint_int Try.f64.results.toList [.c .sc] [.c (.ro .int s0), .c (.v (.int .i64 v1))] kk) = G_slices_Contains_sint_int s0 v1 (fun r0 => kk (.one (.c (.v (.bool r0)))) []) := by kernel_rfl
theorem e_slices_Contains_sint_int (s0 : List Int) (v1 : Int) (kk : AV → List A1 → Prop) :
    ev TT cs_slices_Contains_sint_int 9 an_slices_Contains_sint_int (Try.f64.body.getD .skip) (st0 con_slices_Contains_sint_int [.c (.ro .int s0), .c (.v (.int .i64 v1))]) (fin TT con_slices_Contains_sint_int Try.f64.results.toList [.c .sc] [.c (.ro .int s0), .c (.v (.int .i64 v1))] kk) = S_slices_Contains_sint_int s0 v1 (fun r0 => kk (.one (.c (.v (.bool r0)))) []) := by
  rw [g_slices_Contains_sint_int]
  rfl
theorem clok_slices_Contains_sint_int : ConOK Try.prog cl_slices_Contains_sint_int := consCons h_slices_Index_sint_int ⟨Try.f89, Try.func89, by kernel_rfl, ne_of_beq (by kernel_rfl)⟩ (consNil)
theorem cok_slices_Contains_sint_int : ConsOK Try.prog 9 cs_slices_Contains_sint_int := ⟨clok_slices_Contains_sint_int, inlNil⟩
theorem i_slices_Contains_sint_int {vs : List A1} {kk : AV → List A1 → Prop} {motive : List A1 → Prop} (h : con_slices_Contains_sint_int.F vs kk) (H : ∀ (s0 : List Int) (v1 : Int), F_slices_Contains_sint_int s0 v1 (fun r0 => kk (.one (.c (.v (.bool r0)))) []) → motive [.c (.ro .int s0), .c (.v (.int .i64 v1))]) : motive vs := by
  unfold con_slices_Contains_sint_int at h
  dsimp only at h
  split at h
  · exact H _ _ h
  · exact h.elim
theorem h_slices_Contains_sint_int : Holds Try.prog 64 con_slices_Contains_sint_int := by
  refine holds_of_ev (rt := [.c .sc]) (T := TT) (Γ := cs_slices_Contains_sint_int) (an := an_slices_Contains_sint_int) (N := 9) (c := Try.f64.body.getD .skip) Try.func64 (by kernel_rfl) Try.ntmps64 (by decide) (by decide) mixed tabOK cok_slices_Contains_sint_int (by kernel_rfl) ?_
  intro vs kk _ hF
  exact i_slices_Contains_sint_int (motive := fun vs => Goes (ev TT cs_slices_Contains_sint_int 9 an_slices_Contains_sint_int (Try.f64.body.getD .skip) (st0 con_slices_Contains_sint_int vs) (fin TT con_slices_Contains_sint_int Try.f64.results.toList [.c .sc] vs kk))) hF (fun s0 v1 hF => goes_of (e_slices_Contains_sint_int s0 v1 kk) (F_slices_Contains_sint_int_S hF))
def con_impl_NewKeys : Con := ⟨[.rd], true, [.c (.sl .int)], fun vs k => match vs with
    | [.c (.ro .int t0)] => F_impl_NewKeys t0 (fun r0 => k (.one (.c (.v (.int .i64 r0)))) [])
    | _ => False, false⟩
def cl_impl_NewKeys : List (FuncId × Con) := [(23, con_impl_ValidTrace), (64, con_slices_Contains_sint_int)]
def nm0_impl_NewKeys : List NStep := [.keep [0, 3, 9, 10, 11] []]
def an_impl_NewKeys : Ann := ⟨[], [(5, nm0_impl_NewKeys)], []⟩
def cs_impl_NewKeys : Cons := ⟨cl_impl_NewKeys, [], 0, [], []⟩
def can0_impl_NewKeys (t0 : List Int) (xt10 : Int) (xcount3 : Int) (xt11 : Int) : St := ⟨[(0, .one (.c (.ro .int t0))), (3, .one (.c (.v (.int .i64 xcount3)))), (9, .one (.c (.ro .int t0))), (10, .one (.c (.v (.int .i64 xt10)))), (11, .one (.c (.v (.int .i64 xt11))))], []⟩
def fin_impl_NewKeys (t0 : List Int) (kk : AV → List A1 → Prop) : Kt := fin TT con_impl_NewKeys Try.f27.results.toList [.c .sc] [.c (.ro .int t0)] kk
def kt0_impl_NewKeys (kf : Kt) : Kt := blockK 0 (seqK (evF TT cs_impl_NewKeys 26 an_impl_NewKeys Try.f27 [1, 1, 1, 1]) (kf))
theorem r0_impl_NewKeys (t0 : List Int) (xt10 : Int) (kk : AV → List A1 → Prop) (n : Nat) (xcount3 : Int) (xt11 : Int) :
    iter (evF TT cs_impl_NewKeys 26 an_impl_NewKeys Try.f27 [1, 1, 1, 0, 1, 0, 0]) nm0_impl_NewKeys (kt0_impl_NewKeys (fin_impl_NewKeys t0 kk)) (n + 1) (can0_impl_NewKeys t0 xt10 xcount3 xt11) = T0_impl_NewKeys t0 xt10 xcount3 xt11 (fun r0 => kk (.one (.c (.v (.int .i64 r0)))) []) (fun xcount3 xt11 => iter (evF TT cs_impl_NewKeys 26 an_impl_NewKeys Try.f27 [1, 1, 1, 0, 1, 0, 0]) nm0_impl_NewKeys (kt0_impl_NewKeys (fin_impl_NewKeys t0 kk)) n (can0_impl_NewKeys t0 xt10 xcount3 xt11)) := by kernel_rfl
theorem l0_impl_NewKeys (t0 : List Int) (xt10 : Int) (kk : AV → List A1 → Prop) : ∀ (n : Nat) (xcount3 : Int) (xt11 : Int), iter (evF TT cs_impl_NewKeys 26 an_impl_NewKeys Try.f27 [1, 1, 1, 0, 1, 0, 0]) nm0_impl_NewKeys (kt0_impl_NewKeys (fin_impl_NewKeys t0 kk)) n (can0_impl_NewKeys t0 xt10 xcount3 xt11) = L0_impl_NewKeys t0 xt10 (fun r0 => kk (.one (.c (.v (.int .i64 r0)))) []) n xcount3 xt11 := by
  intro n
  induction n with
  | zero => intros; rfl
  | succ n ih =>
    intro xcount3 xt11
    rw [r0_impl_NewKeys t0 xt10 kk n xcount3 xt11]
    have hb : (fun xcount3 xt11 => iter (evF TT cs_impl_NewKeys 26 an_impl_NewKeys Try.f27 [1, 1, 1, 0, 1, 0, 0]) nm0_impl_NewKeys (kt0_impl_NewKeys (fin_impl_NewKeys t0 kk)) n (can0_impl_NewKeys t0 xt10 xcount3 xt11)) = L0_impl_NewKeys t0 xt10 (fun r0 => kk (.one (.c (.v (.int .i64 r0)))) []) n := by
      funext xcount3 xt11; exact ih xcount3 xt11
    rw [hb]
    rfl
theorem g_impl_NewKeys (t0 : List Int) (kk : AV → List A1 → Prop) :
    ev TT cs_impl_NewKeys 26 an_impl_NewKeys (Try.f27.body.getD .skip) (st0 con_impl_NewKeys [.c (.ro .int t0)]) (fin TT con_impl_NewKeys Try.f27.results.toList [.c .sc] [.c (.ro .int t0)] kk) = G_impl_NewKeys t0 (fun r0 => kk (.one (.c (.v (.int .i64 r0)))) []) (fun t0 xt10 xcount3 xt11 => ∃ j, iter (evF TT cs_impl_NewKeys 26 an_impl_NewKeys Try.f27 [1, 1, 1, 0, 1, 0, 0]) nm0_impl_NewKeys (kt0_impl_NewKeys (fin_impl_NewKeys t0 kk)) j (can0_impl_NewKeys t0 xt10 xcount3 xt11)) := by kernel_rfl
theorem e_impl_NewKeys (t0 : List Int) (kk : AV → List A1 → Prop) :
    ev TT cs_impl_NewKeys 26 an_impl_NewKeys (Try.f27.body.getD .skip) (st0 con_impl_NewKeys [.c (.ro .int t0)]) (fin TT con_impl_NewKeys Try.f27.results.toList [.c .sc] [.c (.ro .int t0)] kk) = S_impl_NewKeys t0 (fun r0 => kk (.one (.c (.v (.int .i64 r0)))) []) := by
  rw [g_impl_NewKeys]
  have hi0 : (fun t0 xt10 xcount3 xt11 => ∃ j, iter (evF TT cs_impl_NewKeys 26 an_impl_NewKeys Try.f27 [1, 1, 1, 0, 1, 0, 0]) nm0_impl_NewKeys (kt0_impl_NewKeys (fin_impl_NewKeys t0 kk)) j (can0_impl_NewKeys t0 xt10 xcount3 xt11)) = (fun t0 xt10 xcount3 xt11 => ∃ j, L0_impl_NewKeys t0 xt10 (fun r0 => kk (.one (.c (.v (.int .i64 r0)))) []) j xcount3 xt11) := by
    funext t0 xt10 xcount3 xt11
    refine congrArg Exists (funext fun j => ?_)
    rw [l0_impl_NewKeys t0 xt10 kk j xcount3 xt11]
  rw [hi0]
  rfl
theorem clok_impl_NewKeys : ConOK Try.prog cl_impl_NewKeys := consCons h_impl_ValidTrace ⟨Try.f23, Try.func23, by kernel_rfl, ne_of_beq (by kernel_rfl)⟩ (consCons h_slices_Contains_sint_int ⟨Try.f64, Try.func64, by kernel_rfl, ne_of_beq (by kernel_rfl)⟩ (consNil))
theorem cok_impl_NewKeys : ConsOK Try.prog 26 cs_impl_NewKeys := ⟨clok_impl_NewKeys, inlNil⟩
theorem i_impl_NewKeys {vs : List A1} {kk : AV → List A1 → Prop} {motive : List A1 → Prop} (h : con_impl_NewKeys.F vs kk) (H : ∀ (t0 : List Int), F_impl_NewKeys t0 (fun r0 => kk (.one (.c (.v (.int .i64 r0)))) []) → motive [.c (.ro .int t0)]) : motive vs := by
  unfold con_impl_NewKeys at h
  dsimp only at h
  split at h
  · exact H _ h
  · exact h.elim
theorem h_impl_NewKeys : Holds Try.prog 27 con_impl_NewKeys := by
  refine holds_of_ev (rt := [.c .sc]) (T := TT) (Γ := cs_impl_NewKeys) (an := an_impl_NewKeys) (N := 26) (c := Try.f27.body.getD .skip) Try.func27 (by kernel_rfl) Try.ntmps27 (by decide) (by decide) mixed tabOK cok_impl_NewKeys (by kernel_rfl) ?_
  intro vs kk _ hF
  exact i_impl_NewKeys (motive := fun vs => Goes (ev TT cs_impl_NewKeys 26 an_impl_NewKeys (Try.f27.body.getD .skip) (st0 con_impl_NewKeys vs) (fin TT con_impl_NewKeys Try.f27.results.toList [.c .sc] vs kk))) hF (fun t0 hF => goes_of (e_impl_NewKeys t0 kk) (F_impl_NewKeys_S hF))
def con_laws_FnRunOftenBound : Con := ⟨[.rd], true, [.c (.sl .u8)], fun vs k => match vs with
    | [.c (.ro .u8 code0)] => F_laws_FnRunOftenBound code0 (fun r0 => k (.one (.c (.v (.bool r0)))) [])
    | _ => False, false⟩
def cl_laws_FnRunOftenBound : List (FuncId × Con) := [(27, con_impl_NewKeys), (45, con_spec_DrawRunOften), (46, con_impl_RunOften), (47, con_spec_RunOften), (48, con_laws_equalEntries), (49, con_impl_ValidEntries)]
def an_laws_FnRunOftenBound : Ann := ⟨[], [], []⟩
def cs_laws_FnRunOftenBound : Cons := ⟨cl_laws_FnRunOftenBound, [], 0, [], []⟩
def fin_laws_FnRunOftenBound (code0 : List Int) (kk : AV → List A1 → Prop) : Kt := fin TT con_laws_FnRunOftenBound Try.f14.results.toList [.c .sc] [.c (.ro .u8 code0)] kk
theorem g_laws_FnRunOftenBound (code0 : List Int) (kk : AV → List A1 → Prop) :
    ev TT cs_laws_FnRunOftenBound 71 an_laws_FnRunOftenBound (Try.f14.body.getD .skip) (st0 con_laws_FnRunOftenBound [.c (.ro .u8 code0)]) (fin TT con_laws_FnRunOftenBound Try.f14.results.toList [.c .sc] [.c (.ro .u8 code0)] kk) = G_laws_FnRunOftenBound code0 (fun r0 => kk (.one (.c (.v (.bool r0)))) []) := by kernel_rfl
theorem e_laws_FnRunOftenBound (code0 : List Int) (kk : AV → List A1 → Prop) :
    ev TT cs_laws_FnRunOftenBound 71 an_laws_FnRunOftenBound (Try.f14.body.getD .skip) (st0 con_laws_FnRunOftenBound [.c (.ro .u8 code0)]) (fin TT con_laws_FnRunOftenBound Try.f14.results.toList [.c .sc] [.c (.ro .u8 code0)] kk) = S_laws_FnRunOftenBound code0 (fun r0 => kk (.one (.c (.v (.bool r0)))) []) := by
  rw [g_laws_FnRunOftenBound]
  rfl
theorem clok_laws_FnRunOftenBound : ConOK Try.prog cl_laws_FnRunOftenBound := consCons h_impl_NewKeys ⟨Try.f27, Try.func27, by kernel_rfl, ne_of_beq (by kernel_rfl)⟩ (consCons h_spec_DrawRunOften ⟨Try.f45, Try.func45, by kernel_rfl, ne_of_beq (by kernel_rfl)⟩ (consCons h_impl_RunOften ⟨Try.f46, Try.func46, by kernel_rfl, ne_of_beq (by kernel_rfl)⟩ (consCons h_spec_RunOften ⟨Try.f47, Try.func47, by kernel_rfl, ne_of_beq (by kernel_rfl)⟩ (consCons h_laws_equalEntries ⟨Try.f48, Try.func48, by kernel_rfl, ne_of_beq (by kernel_rfl)⟩ (consCons h_impl_ValidEntries ⟨Try.f49, Try.func49, by kernel_rfl, ne_of_beq (by kernel_rfl)⟩ (consNil))))))
theorem cok_laws_FnRunOftenBound : ConsOK Try.prog 71 cs_laws_FnRunOftenBound := ⟨clok_laws_FnRunOftenBound, inlNil⟩
theorem i_laws_FnRunOftenBound {vs : List A1} {kk : AV → List A1 → Prop} {motive : List A1 → Prop} (h : con_laws_FnRunOftenBound.F vs kk) (H : ∀ (code0 : List Int), F_laws_FnRunOftenBound code0 (fun r0 => kk (.one (.c (.v (.bool r0)))) []) → motive [.c (.ro .u8 code0)]) : motive vs := by
  unfold con_laws_FnRunOftenBound at h
  dsimp only at h
  split at h
  · exact H _ h
  · exact h.elim
theorem h_laws_FnRunOftenBound : Holds Try.prog 14 con_laws_FnRunOftenBound := by
  refine holds_of_ev (rt := [.c .sc]) (T := TT) (Γ := cs_laws_FnRunOftenBound) (an := an_laws_FnRunOftenBound) (N := 71) (c := Try.f14.body.getD .skip) Try.func14 (by kernel_rfl) Try.ntmps14 (by decide) (by decide) mixed tabOK cok_laws_FnRunOftenBound (by kernel_rfl) ?_
  intro vs kk _ hF
  exact i_laws_FnRunOftenBound (motive := fun vs => Goes (ev TT cs_laws_FnRunOftenBound 71 an_laws_FnRunOftenBound (Try.f14.body.getD .skip) (st0 con_laws_FnRunOftenBound vs) (fin TT con_laws_FnRunOftenBound Try.f14.results.toList [.c .sc] vs kk))) hF (fun code0 hF => goes_of (e_laws_FnRunOftenBound code0 kk) (F_laws_FnRunOftenBound_S hF))
end Go.Ev
