/- What the evaluator gives for these functions: their contracts. No statement is proved here. -/
import Derived.Test.YtemhpncmhdcheaaFnRunFirstLoopP0
import Derived.Test.YtemhpncmhdcheaaTt
namespace Go.Ev
set_option linter.unusedVariables false
set_option linter.unusedSimpArgs false
set_option maxRecDepth 100000
open Go Go.Proofs
def con_spec_newReader : Con := ⟨[.rd], true, [.c (.sl .u8)], fun vs k => match vs with
    | [.c (.ro .u8 code0)] => F_spec_newReader code0 (fun r0 r1 => k (.one (.agg [.ro .u8 r0, .v (.int .i64 r1)])) [])
    | _ => False, true⟩
def cl_spec_newReader : List (FuncId × Con) := []
def an_spec_newReader : Ann := ⟨[], [], [], []⟩
def cs_spec_newReader : Cons := ⟨cl_spec_newReader, [], 0, [], [], []⟩
def fin_spec_newReader (code0 : List Int) (kk : AV → List A1 → Prop) : Kt := finB Try.f54.results.toList [.sl .u8, .sc] kk
theorem g_spec_newReader (code0 : List Int) (kk : AV → List A1 → Prop) :
    ev TT cs_spec_newReader 11 an_spec_newReader (Try.f54.body.getD .skip) (st0 con_spec_newReader [.c (.ro .u8 code0)]) (finB Try.f54.results.toList [.sl .u8, .sc] kk) = G_spec_newReader code0 (fun r0 r1 => kk (.one (.agg [.ro .u8 r0, .v (.int .i64 r1)])) []) := by kernel_rfl
theorem e_spec_newReader (code0 : List Int) (kk : AV → List A1 → Prop) :
    ev TT cs_spec_newReader 11 an_spec_newReader (Try.f54.body.getD .skip) (st0 con_spec_newReader [.c (.ro .u8 code0)]) (finB Try.f54.results.toList [.sl .u8, .sc] kk) = S_spec_newReader code0 (fun r0 r1 => kk (.one (.agg [.ro .u8 r0, .v (.int .i64 r1)])) []) := by
  rw [g_spec_newReader]
  rfl
theorem clok_spec_newReader : ConOK Try.prog cl_spec_newReader := consNil
theorem cok_spec_newReader : ConsOK Try.prog 11 cs_spec_newReader := ⟨clok_spec_newReader, inlNil, ovNil⟩
theorem i_spec_newReader {vs : List A1} {kk : AV → List A1 → Prop} {motive : List A1 → Prop} (h : con_spec_newReader.F vs kk) (H : ∀ (code0 : List Int), F_spec_newReader code0 (fun r0 r1 => kk (.one (.agg [.ro .u8 r0, .v (.int .i64 r1)])) []) → motive [.c (.ro .u8 code0)]) : motive vs := by
  unfold con_spec_newReader at h
  dsimp only at h
  split at h
  · exact H _ h
  · exact h.elim
theorem h_spec_newReader : HoldsB Try.prog 54 con_spec_newReader := by
  refine holdsB_of_ev (ts := [.sl .u8, .sc]) (T := TT) (Γ := cs_spec_newReader) (an := an_spec_newReader) (N := 11) (c := Try.f54.body.getD .skip) Try.func54 (by kernel_rfl) Try.ntmps54 (by decide) (by decide) mixed tabOK cok_spec_newReader (by kernel_rfl) ?_
  intro vs kk _ hF
  exact i_spec_newReader (motive := fun vs => Goes (ev TT cs_spec_newReader 11 an_spec_newReader (Try.f54.body.getD .skip) (st0 con_spec_newReader vs) (finB Try.f54.results.toList [.sl .u8, .sc] kk))) hF (fun code0 hF => goes_of (e_spec_newReader code0 kk) (F_spec_newReader_S hF))
def con_spec_reader_pick : Con := ⟨[.mu, .rd], true, [.ptr [.sl .u8, .sc], .c (.sc)], fun vs k => match vs with
    | [.ptr [.ro .u8 r0b, .v (.int .i64 r0p)], .c (.v (.int .i64 n1))] => F_spec_reader_pick r0b r0p n1 (fun r0 r1 r2 => k (.one (.c (.v (.int .i64 r0)))) [.ptr [.ro .u8 r1, .v (.int .i64 r2)]])
    | _ => False, false⟩
def cl_spec_reader_pick : List (FuncId × Con) := []
def an_spec_reader_pick : Ann := ⟨[(7, .take 0 (.take 1 (.take 2 (.take 3 (.take 4 (.take 5 (.take 6 (.take 7 (.take 8 (.take 9 (.take 10 (.take 11 (.take 12 (.take 13 (.take 14 (.take 15 (.take 16 (.take 17 (.take 18 (.take 19 (.take 20 (.take 21 (.take 22 (.take 23 (.take 24 (.take 25 (.take 26 (.take 27 (.take 28 (.take 29 (.take 30 (.take 31 (.take 32 (.take 33 (.take 34 (.take 35 (.take 36 (.take 37 (.take 38 (.take 39 (.take 40 (.take 41 (.take 42 (.take 43 (.take 44 (.take 45 (.done)))))))))))))))))))))))))))))))))))))))))))))), [100000])], [], [], []⟩
def cs_spec_reader_pick : Cons := ⟨cl_spec_reader_pick, [], 0, [], [], []⟩
def fin_spec_reader_pick (r0b : List Int) (r0p : Int) (n1 : Int) (kk : AV → List A1 → Prop) : Kt := fin TT con_spec_reader_pick Try.f62.results.toList [.c .sc] [.ptr [.ro .u8 r0b, .v (.int .i64 r0p)], .c (.v (.int .i64 n1))] kk
theorem g_spec_reader_pick (r0b : List Int) (r0p : Int) (n1 : Int) (kk : AV → List A1 → Prop) :
    ev TT cs_spec_reader_pick 99 an_spec_reader_pick (Try.f62.body.getD .skip) (st0 con_spec_reader_pick [.ptr [.ro .u8 r0b, .v (.int .i64 r0p)], .c (.v (.int .i64 n1))]) (fin TT con_spec_reader_pick Try.f62.results.toList [.c .sc] [.ptr [.ro .u8 r0b, .v (.int .i64 r0p)], .c (.v (.int .i64 n1))] kk) = G_spec_reader_pick r0b r0p n1 (fun r0 r1 r2 => kk (.one (.c (.v (.int .i64 r0)))) [.ptr [.ro .u8 r1, .v (.int .i64 r2)]]) := by kernel_rfl
theorem e_spec_reader_pick (r0b : List Int) (r0p : Int) (n1 : Int) (kk : AV → List A1 → Prop) :
    ev TT cs_spec_reader_pick 99 an_spec_reader_pick (Try.f62.body.getD .skip) (st0 con_spec_reader_pick [.ptr [.ro .u8 r0b, .v (.int .i64 r0p)], .c (.v (.int .i64 n1))]) (fin TT con_spec_reader_pick Try.f62.results.toList [.c .sc] [.ptr [.ro .u8 r0b, .v (.int .i64 r0p)], .c (.v (.int .i64 n1))] kk) = S_spec_reader_pick r0b r0p n1 (fun r0 r1 r2 => kk (.one (.c (.v (.int .i64 r0)))) [.ptr [.ro .u8 r1, .v (.int .i64 r2)]]) := by
  rw [g_spec_reader_pick]
  rfl
theorem clok_spec_reader_pick : ConOK Try.prog cl_spec_reader_pick := consNil
theorem cok_spec_reader_pick : ConsOK Try.prog 99 cs_spec_reader_pick := ⟨clok_spec_reader_pick, inlNil, ovNil⟩
theorem i_spec_reader_pick {vs : List A1} {kk : AV → List A1 → Prop} {motive : List A1 → Prop} (h : con_spec_reader_pick.F vs kk) (H : ∀ (r0b : List Int) (r0p : Int) (n1 : Int), F_spec_reader_pick r0b r0p n1 (fun r0 r1 r2 => kk (.one (.c (.v (.int .i64 r0)))) [.ptr [.ro .u8 r1, .v (.int .i64 r2)]]) → motive [.ptr [.ro .u8 r0b, .v (.int .i64 r0p)], .c (.v (.int .i64 n1))]) : motive vs := by
  unfold con_spec_reader_pick at h
  dsimp only at h
  split at h
  · exact H _ _ _ h
  · exact h.elim
theorem h_spec_reader_pick : Holds Try.prog 62 con_spec_reader_pick := by
  refine holds_of_ev (rt := [.c .sc]) (T := TT) (Γ := cs_spec_reader_pick) (an := an_spec_reader_pick) (N := 99) (c := Try.f62.body.getD .skip) Try.func62 (by kernel_rfl) Try.ntmps62 (by decide) (by decide) mixed tabOK cok_spec_reader_pick (by kernel_rfl) ?_
  intro vs kk _ hF
  exact i_spec_reader_pick (motive := fun vs => Goes (ev TT cs_spec_reader_pick 99 an_spec_reader_pick (Try.f62.body.getD .skip) (st0 con_spec_reader_pick vs) (fin TT con_spec_reader_pick Try.f62.results.toList [.c .sc] vs kk))) hF (fun r0b r0p n1 hF => goes_of (e_spec_reader_pick r0b r0p n1 kk) (F_spec_reader_pick_S hF))
def con_spec_reader_one : Con := ⟨[.mu, .rd], true, [.ptr [.sl .u8, .sc], .c (.sl .int)], fun vs k => match vs with
    | [.ptr [.ro .u8 r0b, .v (.int .i64 r0p)], .c (.ro .int list1)] => F_spec_reader_one r0b r0p list1 (fun r0 r1 r2 => k (.one (.c (.v (.int .i64 r0)))) [.ptr [.ro .u8 r1, .v (.int .i64 r2)]])
    | _ => False, false⟩
def cl_spec_reader_one : List (FuncId × Con) := [(62, con_spec_reader_pick)]
def an_spec_reader_one : Ann := ⟨[], [], [], []⟩
def cs_spec_reader_one : Cons := ⟨cl_spec_reader_one, [], 0, [], [], []⟩
def fin_spec_reader_one (r0b : List Int) (r0p : Int) (list1 : List Int) (kk : AV → List A1 → Prop) : Kt := fin TT con_spec_reader_one Try.f55.results.toList [.c .sc] [.ptr [.ro .u8 r0b, .v (.int .i64 r0p)], .c (.ro .int list1)] kk
theorem g_spec_reader_one (r0b : List Int) (r0p : Int) (list1 : List Int) (kk : AV → List A1 → Prop) :
    ev TT cs_spec_reader_one 12 an_spec_reader_one (Try.f55.body.getD .skip) (st0 con_spec_reader_one [.ptr [.ro .u8 r0b, .v (.int .i64 r0p)], .c (.ro .int list1)]) (fin TT con_spec_reader_one Try.f55.results.toList [.c .sc] [.ptr [.ro .u8 r0b, .v (.int .i64 r0p)], .c (.ro .int list1)] kk) = G_spec_reader_one r0b r0p list1 (fun r0 r1 r2 => kk (.one (.c (.v (.int .i64 r0)))) [.ptr [.ro .u8 r1, .v (.int .i64 r2)]]) := by kernel_rfl
theorem e_spec_reader_one (r0b : List Int) (r0p : Int) (list1 : List Int) (kk : AV → List A1 → Prop) :
    ev TT cs_spec_reader_one 12 an_spec_reader_one (Try.f55.body.getD .skip) (st0 con_spec_reader_one [.ptr [.ro .u8 r0b, .v (.int .i64 r0p)], .c (.ro .int list1)]) (fin TT con_spec_reader_one Try.f55.results.toList [.c .sc] [.ptr [.ro .u8 r0b, .v (.int .i64 r0p)], .c (.ro .int list1)] kk) = S_spec_reader_one r0b r0p list1 (fun r0 r1 r2 => kk (.one (.c (.v (.int .i64 r0)))) [.ptr [.ro .u8 r1, .v (.int .i64 r2)]]) := by
  rw [g_spec_reader_one]
  rfl
theorem clok_spec_reader_one : ConOK Try.prog cl_spec_reader_one := consCons h_spec_reader_pick ⟨Try.f62, Try.func62, by kernel_rfl, ne_of_beq (by kernel_rfl)⟩ (consNil)
theorem cok_spec_reader_one : ConsOK Try.prog 12 cs_spec_reader_one := ⟨clok_spec_reader_one, inlNil, ovNil⟩
theorem i_spec_reader_one {vs : List A1} {kk : AV → List A1 → Prop} {motive : List A1 → Prop} (h : con_spec_reader_one.F vs kk) (H : ∀ (r0b : List Int) (r0p : Int) (list1 : List Int), F_spec_reader_one r0b r0p list1 (fun r0 r1 r2 => kk (.one (.c (.v (.int .i64 r0)))) [.ptr [.ro .u8 r1, .v (.int .i64 r2)]]) → motive [.ptr [.ro .u8 r0b, .v (.int .i64 r0p)], .c (.ro .int list1)]) : motive vs := by
  unfold con_spec_reader_one at h
  dsimp only at h
  split at h
  · exact H _ _ _ h
  · exact h.elim
theorem h_spec_reader_one : Holds Try.prog 55 con_spec_reader_one := by
  refine holds_of_ev (rt := [.c .sc]) (T := TT) (Γ := cs_spec_reader_one) (an := an_spec_reader_one) (N := 12) (c := Try.f55.body.getD .skip) Try.func55 (by kernel_rfl) Try.ntmps55 (by decide) (by decide) mixed tabOK cok_spec_reader_one (by kernel_rfl) ?_
  intro vs kk _ hF
  exact i_spec_reader_one (motive := fun vs => Goes (ev TT cs_spec_reader_one 12 an_spec_reader_one (Try.f55.body.getD .skip) (st0 con_spec_reader_one vs) (fin TT con_spec_reader_one Try.f55.results.toList [.c .sc] vs kk))) hF (fun r0b r0p list1 hF => goes_of (e_spec_reader_one r0b r0p list1 kk) (F_spec_reader_one_S hF))
def con_spec_copyInts : Con := ⟨[.rd], true, [.c (.sl .int)], fun vs k => match vs with
    | [.c (.ro .int list0)] => F_spec_copyInts list0 (fun r0 => k (.one (.c (.ro .int r0))) [])
    | _ => False, false⟩
def cl_spec_copyInts : List (FuncId × Con) := []
def an_spec_copyInts : Ann := ⟨[], [], [], []⟩
def cs_spec_copyInts : Cons := ⟨cl_spec_copyInts, [], 0, [], [], []⟩
def fin_spec_copyInts (list0 : List Int) (kk : AV → List A1 → Prop) : Kt := fin TT con_spec_copyInts Try.f76.results.toList [.c (.sl .int)] [.c (.ro .int list0)] kk
theorem g_spec_copyInts (list0 : List Int) (kk : AV → List A1 → Prop) :
    ev TT cs_spec_copyInts 6 an_spec_copyInts (Try.f76.body.getD .skip) (st0 con_spec_copyInts [.c (.ro .int list0)]) (fin TT con_spec_copyInts Try.f76.results.toList [.c (.sl .int)] [.c (.ro .int list0)] kk) = G_spec_copyInts list0 (fun r0 => kk (.one (.c (.ro .int r0))) []) := by kernel_rfl
theorem e_spec_copyInts (list0 : List Int) (kk : AV → List A1 → Prop) :
    ev TT cs_spec_copyInts 6 an_spec_copyInts (Try.f76.body.getD .skip) (st0 con_spec_copyInts [.c (.ro .int list0)]) (fin TT con_spec_copyInts Try.f76.results.toList [.c (.sl .int)] [.c (.ro .int list0)] kk) = S_spec_copyInts list0 (fun r0 => kk (.one (.c (.ro .int r0))) []) := by
  rw [g_spec_copyInts]
  rfl
theorem clok_spec_copyInts : ConOK Try.prog cl_spec_copyInts := consNil
theorem cok_spec_copyInts : ConsOK Try.prog 6 cs_spec_copyInts := ⟨clok_spec_copyInts, inlNil, ovNil⟩
theorem i_spec_copyInts {vs : List A1} {kk : AV → List A1 → Prop} {motive : List A1 → Prop} (h : con_spec_copyInts.F vs kk) (H : ∀ (list0 : List Int), F_spec_copyInts list0 (fun r0 => kk (.one (.c (.ro .int r0))) []) → motive [.c (.ro .int list0)]) : motive vs := by
  unfold con_spec_copyInts at h
  dsimp only at h
  split at h
  · exact H _ h
  · exact h.elim
theorem h_spec_copyInts : Holds Try.prog 76 con_spec_copyInts := by
  refine holds_of_ev (rt := [.c (.sl .int)]) (T := TT) (Γ := cs_spec_copyInts) (an := an_spec_copyInts) (N := 6) (c := Try.f76.body.getD .skip) Try.func76 (by kernel_rfl) Try.ntmps76 (by decide) (by decide) mixed tabOK cok_spec_copyInts (by kernel_rfl) ?_
  intro vs kk _ hF
  exact i_spec_copyInts (motive := fun vs => Goes (ev TT cs_spec_copyInts 6 an_spec_copyInts (Try.f76.body.getD .skip) (st0 con_spec_copyInts vs) (fin TT con_spec_copyInts Try.f76.results.toList [.c (.sl .int)] vs kk))) hF (fun list0 hF => goes_of (e_spec_copyInts list0 kk) (F_spec_copyInts_S hF))
def con_spec_reader_spoil : Con := ⟨[.mu, .rd, .rd], true, [.ptr [.sl .u8, .sc], .c (.sl .int), .c (.sc)], fun vs k => match vs with
    | [.ptr [.ro .u8 r0b, .v (.int .i64 r0p)], .c (.ro .int list1), .c (.v (.int .i64 n2))] => F_spec_reader_spoil r0b r0p list1 n2 (fun r0 r1 r2 => k (.one (.c (.ro .int r0))) [.ptr [.ro .u8 r1, .v (.int .i64 r2)]])
    | _ => False, false⟩
def cl_spec_reader_spoil : List (FuncId × Con) := [(55, con_spec_reader_one), (62, con_spec_reader_pick), (76, con_spec_copyInts)]
def an_spec_reader_spoil : Ann := ⟨[], [], [], []⟩
def cs_spec_reader_spoil : Cons := ⟨cl_spec_reader_spoil, [], 0, [], [], []⟩
def fin_spec_reader_spoil (r0b : List Int) (r0p : Int) (list1 : List Int) (n2 : Int) (kk : AV → List A1 → Prop) : Kt := fin TT con_spec_reader_spoil Try.f77.results.toList [.c (.sl .int)] [.ptr [.ro .u8 r0b, .v (.int .i64 r0p)], .c (.ro .int list1), .c (.v (.int .i64 n2))] kk
theorem g_spec_reader_spoil (r0b : List Int) (r0p : Int) (list1 : List Int) (n2 : Int) (kk : AV → List A1 → Prop) :
    ev TT cs_spec_reader_spoil 41 an_spec_reader_spoil (Try.f77.body.getD .skip) (st0 con_spec_reader_spoil [.ptr [.ro .u8 r0b, .v (.int .i64 r0p)], .c (.ro .int list1), .c (.v (.int .i64 n2))]) (fin TT con_spec_reader_spoil Try.f77.results.toList [.c (.sl .int)] [.ptr [.ro .u8 r0b, .v (.int .i64 r0p)], .c (.ro .int list1), .c (.v (.int .i64 n2))] kk) = G_spec_reader_spoil r0b r0p list1 n2 (fun r0 r1 r2 => kk (.one (.c (.ro .int r0))) [.ptr [.ro .u8 r1, .v (.int .i64 r2)]]) := by kernel_rfl
theorem e_spec_reader_spoil (r0b : List Int) (r0p : Int) (list1 : List Int) (n2 : Int) (kk : AV → List A1 → Prop) :
    ev TT cs_spec_reader_spoil 41 an_spec_reader_spoil (Try.f77.body.getD .skip) (st0 con_spec_reader_spoil [.ptr [.ro .u8 r0b, .v (.int .i64 r0p)], .c (.ro .int list1), .c (.v (.int .i64 n2))]) (fin TT con_spec_reader_spoil Try.f77.results.toList [.c (.sl .int)] [.ptr [.ro .u8 r0b, .v (.int .i64 r0p)], .c (.ro .int list1), .c (.v (.int .i64 n2))] kk) = S_spec_reader_spoil r0b r0p list1 n2 (fun r0 r1 r2 => kk (.one (.c (.ro .int r0))) [.ptr [.ro .u8 r1, .v (.int .i64 r2)]]) := by
  rw [g_spec_reader_spoil]
  rfl
theorem clok_spec_reader_spoil : ConOK Try.prog cl_spec_reader_spoil := consCons h_spec_reader_one ⟨Try.f55, Try.func55, by kernel_rfl, ne_of_beq (by kernel_rfl)⟩ (consCons h_spec_reader_pick ⟨Try.f62, Try.func62, by kernel_rfl, ne_of_beq (by kernel_rfl)⟩ (consCons h_spec_copyInts ⟨Try.f76, Try.func76, by kernel_rfl, ne_of_beq (by kernel_rfl)⟩ (consNil)))
theorem cok_spec_reader_spoil : ConsOK Try.prog 41 cs_spec_reader_spoil := ⟨clok_spec_reader_spoil, inlNil, ovNil⟩
theorem i_spec_reader_spoil {vs : List A1} {kk : AV → List A1 → Prop} {motive : List A1 → Prop} (h : con_spec_reader_spoil.F vs kk) (H : ∀ (r0b : List Int) (r0p : Int) (list1 : List Int) (n2 : Int), F_spec_reader_spoil r0b r0p list1 n2 (fun r0 r1 r2 => kk (.one (.c (.ro .int r0))) [.ptr [.ro .u8 r1, .v (.int .i64 r2)]]) → motive [.ptr [.ro .u8 r0b, .v (.int .i64 r0p)], .c (.ro .int list1), .c (.v (.int .i64 n2))]) : motive vs := by
  unfold con_spec_reader_spoil at h
  dsimp only at h
  split at h
  · exact H _ _ _ _ h
  · exact h.elim
theorem h_spec_reader_spoil : Holds Try.prog 77 con_spec_reader_spoil := by
  refine holds_of_ev (rt := [.c (.sl .int)]) (T := TT) (Γ := cs_spec_reader_spoil) (an := an_spec_reader_spoil) (N := 41) (c := Try.f77.body.getD .skip) Try.func77 (by kernel_rfl) Try.ntmps77 (by decide) (by decide) mixed tabOK cok_spec_reader_spoil (by kernel_rfl) ?_
  intro vs kk _ hF
  exact i_spec_reader_spoil (motive := fun vs => Goes (ev TT cs_spec_reader_spoil 41 an_spec_reader_spoil (Try.f77.body.getD .skip) (st0 con_spec_reader_spoil vs) (fin TT con_spec_reader_spoil Try.f77.results.toList [.c (.sl .int)] vs kk))) hF (fun r0b r0p list1 n2 hF => goes_of (e_spec_reader_spoil r0b r0p list1 n2 kk) (F_spec_reader_spoil_S hF))
def con_spec_someTrace : Con := ⟨[.mu], true, [.ptr [.sl .u8, .sc]], fun vs k => match vs with
    | [.ptr [.ro .u8 r0b, .v (.int .i64 r0p)]] => F_spec_someTrace r0b r0p (fun r0 r1 r2 => k (.one (.c (.ro .int r0))) [.ptr [.ro .u8 r1, .v (.int .i64 r2)]])
    | _ => False, false⟩
def cl_spec_someTrace : List (FuncId × Con) := [(55, con_spec_reader_one), (62, con_spec_reader_pick), (77, con_spec_reader_spoil)]
def nm0_spec_someTrace : List NStep := [.own 3 .int 90000, .keep [0, 3, 4, 5] [100000, 90000]]
def an_spec_someTrace : Ann := ⟨[], [(4, nm0_spec_someTrace)], [], []⟩
def cs_spec_someTrace : Cons := ⟨cl_spec_someTrace, [], 0, [], [], []⟩
def can0_spec_someTrace (one10 : Int) (xn5 : Int) (xb100000c0 : List Int) (xb100000c1 : Int) (xout3 : List Int) : St := ⟨[(0, .one (.c (.pb 100000 0))), (3, .one (.c (.ow 90000))), (4, .one (.c (.v (.int .i64 one10)))), (5, .one (.c (.v (.int .i64 xn5))))], [(100000, .box [.ro .u8 xb100000c0, .v (.int .i64 xb100000c1)]), (90000, .row .int xout3)]⟩
def fin_spec_someTrace (r0b : List Int) (r0p : Int) (kk : AV → List A1 → Prop) : Kt := fin TT con_spec_someTrace Try.f61.results.toList [.c (.sl .int)] [.ptr [.ro .u8 r0b, .v (.int .i64 r0p)]] kk
def kt0_spec_someTrace (kf : Kt) : Kt := blockK 0 (seqK (evF TT cs_spec_someTrace 56 an_spec_someTrace Try.f61 [1, 1, 1, 1]) (kf))
theorem r0_spec_someTrace (r0b : List Int) (r0p : Int) (one10 : Int) (kk : AV → List A1 → Prop) (n : Nat) (xn5 : Int) (xb100000c0 : List Int) (xb100000c1 : Int) (xout3 : List Int) :
    iter (evF TT cs_spec_someTrace 56 an_spec_someTrace Try.f61 [1, 1, 1, 0, 1, 0, 0]) nm0_spec_someTrace (kt0_spec_someTrace (fin_spec_someTrace r0b r0p kk)) (n + 1) (can0_spec_someTrace one10 xn5 xb100000c0 xb100000c1 xout3) = T0_spec_someTrace one10 xn5 xb100000c0 xb100000c1 xout3 (fun r0 r1 r2 => kk (.one (.c (.ro .int r0))) [.ptr [.ro .u8 r1, .v (.int .i64 r2)]]) (fun xn5 xb100000c0 xb100000c1 xout3 => iter (evF TT cs_spec_someTrace 56 an_spec_someTrace Try.f61 [1, 1, 1, 0, 1, 0, 0]) nm0_spec_someTrace (kt0_spec_someTrace (fin_spec_someTrace r0b r0p kk)) n (can0_spec_someTrace one10 xn5 xb100000c0 xb100000c1 xout3)) := by kernel_rfl
theorem l0_spec_someTrace (r0b : List Int) (r0p : Int) (one10 : Int) (kk : AV → List A1 → Prop) : ∀ (n : Nat) (xn5 : Int) (xb100000c0 : List Int) (xb100000c1 : Int) (xout3 : List Int), iter (evF TT cs_spec_someTrace 56 an_spec_someTrace Try.f61 [1, 1, 1, 0, 1, 0, 0]) nm0_spec_someTrace (kt0_spec_someTrace (fin_spec_someTrace r0b r0p kk)) n (can0_spec_someTrace one10 xn5 xb100000c0 xb100000c1 xout3) = L0_spec_someTrace one10 (fun r0 r1 r2 => kk (.one (.c (.ro .int r0))) [.ptr [.ro .u8 r1, .v (.int .i64 r2)]]) n xn5 xb100000c0 xb100000c1 xout3 := by
  intro n
  induction n with
  | zero => intros; rfl
  | succ n ih =>
    intro xn5 xb100000c0 xb100000c1 xout3
    rw [r0_spec_someTrace r0b r0p one10 kk n xn5 xb100000c0 xb100000c1 xout3]
    have hb : (fun xn5 xb100000c0 xb100000c1 xout3 => iter (evF TT cs_spec_someTrace 56 an_spec_someTrace Try.f61 [1, 1, 1, 0, 1, 0, 0]) nm0_spec_someTrace (kt0_spec_someTrace (fin_spec_someTrace r0b r0p kk)) n (can0_spec_someTrace one10 xn5 xb100000c0 xb100000c1 xout3)) = L0_spec_someTrace one10 (fun r0 r1 r2 => kk (.one (.c (.ro .int r0))) [.ptr [.ro .u8 r1, .v (.int .i64 r2)]]) n := by
      funext xn5 xb100000c0 xb100000c1 xout3; exact ih xn5 xb100000c0 xb100000c1 xout3
    rw [hb]
    rfl
theorem g_spec_someTrace (r0b : List Int) (r0p : Int) (kk : AV → List A1 → Prop) :
    ev TT cs_spec_someTrace 56 an_spec_someTrace (Try.f61.body.getD .skip) (st0 con_spec_someTrace [.ptr [.ro .u8 r0b, .v (.int .i64 r0p)]]) (fin TT con_spec_someTrace Try.f61.results.toList [.c (.sl .int)] [.ptr [.ro .u8 r0b, .v (.int .i64 r0p)]] kk) = G_spec_someTrace r0b r0p (fun one10 xn5 xb100000c0 xb100000c1 xout3 => ∃ j, iter (evF TT cs_spec_someTrace 56 an_spec_someTrace Try.f61 [1, 1, 1, 0, 1, 0, 0]) nm0_spec_someTrace (kt0_spec_someTrace (fin_spec_someTrace r0b r0p kk)) j (can0_spec_someTrace one10 xn5 xb100000c0 xb100000c1 xout3)) := by kernel_rfl
theorem e_spec_someTrace (r0b : List Int) (r0p : Int) (kk : AV → List A1 → Prop) :
    ev TT cs_spec_someTrace 56 an_spec_someTrace (Try.f61.body.getD .skip) (st0 con_spec_someTrace [.ptr [.ro .u8 r0b, .v (.int .i64 r0p)]]) (fin TT con_spec_someTrace Try.f61.results.toList [.c (.sl .int)] [.ptr [.ro .u8 r0b, .v (.int .i64 r0p)]] kk) = S_spec_someTrace r0b r0p (fun r0 r1 r2 => kk (.one (.c (.ro .int r0))) [.ptr [.ro .u8 r1, .v (.int .i64 r2)]]) := by
  rw [g_spec_someTrace]
  have hi0 : (fun one10 xn5 xb100000c0 xb100000c1 xout3 => ∃ j, iter (evF TT cs_spec_someTrace 56 an_spec_someTrace Try.f61 [1, 1, 1, 0, 1, 0, 0]) nm0_spec_someTrace (kt0_spec_someTrace (fin_spec_someTrace r0b r0p kk)) j (can0_spec_someTrace one10 xn5 xb100000c0 xb100000c1 xout3)) = (fun one10 xn5 xb100000c0 xb100000c1 xout3 => ∃ j, L0_spec_someTrace one10 (fun r0 r1 r2 => kk (.one (.c (.ro .int r0))) [.ptr [.ro .u8 r1, .v (.int .i64 r2)]]) j xn5 xb100000c0 xb100000c1 xout3) := by
    funext one10 xn5 xb100000c0 xb100000c1 xout3
    refine congrArg Exists (funext fun j => ?_)
    rw [l0_spec_someTrace r0b r0p one10 kk j xn5 xb100000c0 xb100000c1 xout3]
  rw [hi0]
  rfl
theorem clok_spec_someTrace : ConOK Try.prog cl_spec_someTrace := consCons h_spec_reader_one ⟨Try.f55, Try.func55, by kernel_rfl, ne_of_beq (by kernel_rfl)⟩ (consCons h_spec_reader_pick ⟨Try.f62, Try.func62, by kernel_rfl, ne_of_beq (by kernel_rfl)⟩ (consCons h_spec_reader_spoil ⟨Try.f77, Try.func77, by kernel_rfl, ne_of_beq (by kernel_rfl)⟩ (consNil)))
theorem cok_spec_someTrace : ConsOK Try.prog 56 cs_spec_someTrace := ⟨clok_spec_someTrace, inlNil, ovNil⟩
theorem i_spec_someTrace {vs : List A1} {kk : AV → List A1 → Prop} {motive : List A1 → Prop} (h : con_spec_someTrace.F vs kk) (H : ∀ (r0b : List Int) (r0p : Int), F_spec_someTrace r0b r0p (fun r0 r1 r2 => kk (.one (.c (.ro .int r0))) [.ptr [.ro .u8 r1, .v (.int .i64 r2)]]) → motive [.ptr [.ro .u8 r0b, .v (.int .i64 r0p)]]) : motive vs := by
  unfold con_spec_someTrace at h
  dsimp only at h
  split at h
  · exact H _ _ h
  · exact h.elim
theorem h_spec_someTrace : Holds Try.prog 61 con_spec_someTrace := by
  refine holds_of_ev (rt := [.c (.sl .int)]) (T := TT) (Γ := cs_spec_someTrace) (an := an_spec_someTrace) (N := 56) (c := Try.f61.body.getD .skip) Try.func61 (by kernel_rfl) Try.ntmps61 (by decide) (by decide) mixed tabOK cok_spec_someTrace (by kernel_rfl) ?_
  intro vs kk _ hF
  exact i_spec_someTrace (motive := fun vs => Goes (ev TT cs_spec_someTrace 56 an_spec_someTrace (Try.f61.body.getD .skip) (st0 con_spec_someTrace vs) (fin TT con_spec_someTrace Try.f61.results.toList [.c (.sl .int)] vs kk))) hF (fun r0b r0p hF => goes_of (e_spec_someTrace r0b r0p kk) (F_spec_someTrace_S hF))
def con_spec_someRoom : Con := ⟨[.mu], true, [.ptr [.sl .u8, .sc]], fun vs k => match vs with
    | [.ptr [.ro .u8 r0b, .v (.int .i64 r0p)]] => F_spec_someRoom r0b r0p (fun r0 r1 r2 => k (.one (.c (.v (.int .i64 r0)))) [.ptr [.ro .u8 r1, .v (.int .i64 r2)]])
    | _ => False, false⟩
def cl_spec_someRoom : List (FuncId × Con) := [(55, con_spec_reader_one)]
def an_spec_someRoom : Ann := ⟨[], [], [], []⟩
def cs_spec_someRoom : Cons := ⟨cl_spec_someRoom, [], 0, [], [], []⟩
def fin_spec_someRoom (r0b : List Int) (r0p : Int) (kk : AV → List A1 → Prop) : Kt := fin TT con_spec_someRoom Try.f66.results.toList [.c .sc] [.ptr [.ro .u8 r0b, .v (.int .i64 r0p)]] kk
theorem g_spec_someRoom (r0b : List Int) (r0p : Int) (kk : AV → List A1 → Prop) :
    ev TT cs_spec_someRoom 6 an_spec_someRoom (Try.f66.body.getD .skip) (st0 con_spec_someRoom [.ptr [.ro .u8 r0b, .v (.int .i64 r0p)]]) (fin TT con_spec_someRoom Try.f66.results.toList [.c .sc] [.ptr [.ro .u8 r0b, .v (.int .i64 r0p)]] kk) = G_spec_someRoom r0b r0p (fun r0 r1 r2 => kk (.one (.c (.v (.int .i64 r0)))) [.ptr [.ro .u8 r1, .v (.int .i64 r2)]]) := by kernel_rfl
theorem e_spec_someRoom (r0b : List Int) (r0p : Int) (kk : AV → List A1 → Prop) :
    ev TT cs_spec_someRoom 6 an_spec_someRoom (Try.f66.body.getD .skip) (st0 con_spec_someRoom [.ptr [.ro .u8 r0b, .v (.int .i64 r0p)]]) (fin TT con_spec_someRoom Try.f66.results.toList [.c .sc] [.ptr [.ro .u8 r0b, .v (.int .i64 r0p)]] kk) = S_spec_someRoom r0b r0p (fun r0 r1 r2 => kk (.one (.c (.v (.int .i64 r0)))) [.ptr [.ro .u8 r1, .v (.int .i64 r2)]]) := by
  rw [g_spec_someRoom]
  rfl
theorem clok_spec_someRoom : ConOK Try.prog cl_spec_someRoom := consCons h_spec_reader_one ⟨Try.f55, Try.func55, by kernel_rfl, ne_of_beq (by kernel_rfl)⟩ (consNil)
theorem cok_spec_someRoom : ConsOK Try.prog 6 cs_spec_someRoom := ⟨clok_spec_someRoom, inlNil, ovNil⟩
theorem i_spec_someRoom {vs : List A1} {kk : AV → List A1 → Prop} {motive : List A1 → Prop} (h : con_spec_someRoom.F vs kk) (H : ∀ (r0b : List Int) (r0p : Int), F_spec_someRoom r0b r0p (fun r0 r1 r2 => kk (.one (.c (.v (.int .i64 r0)))) [.ptr [.ro .u8 r1, .v (.int .i64 r2)]]) → motive [.ptr [.ro .u8 r0b, .v (.int .i64 r0p)]]) : motive vs := by
  unfold con_spec_someRoom at h
  dsimp only at h
  split at h
  · exact H _ _ h
  · exact h.elim
theorem h_spec_someRoom : Holds Try.prog 66 con_spec_someRoom := by
  refine holds_of_ev (rt := [.c .sc]) (T := TT) (Γ := cs_spec_someRoom) (an := an_spec_someRoom) (N := 6) (c := Try.f66.body.getD .skip) Try.func66 (by kernel_rfl) Try.ntmps66 (by decide) (by decide) mixed tabOK cok_spec_someRoom (by kernel_rfl) ?_
  intro vs kk _ hF
  exact i_spec_someRoom (motive := fun vs => Goes (ev TT cs_spec_someRoom 6 an_spec_someRoom (Try.f66.body.getD .skip) (st0 con_spec_someRoom vs) (fin TT con_spec_someRoom Try.f66.results.toList [.c .sc] vs kk))) hF (fun r0b r0p hF => goes_of (e_spec_someRoom r0b r0p kk) (F_spec_someRoom_S hF))
def con_spec_DrawRunRecent : Con := ⟨[.rd], true, [.c (.sl .u8)], fun vs k => match vs with
    | [.c (.ro .u8 code0)] => F_spec_DrawRunRecent code0 (fun r0 r1 => k (.tup [.c (.ro .int r0), .c (.v (.int .i64 r1))]) [])
    | _ => False, false⟩
def cl_spec_DrawRunRecent : List (FuncId × Con) := [(54, con_spec_newReader), (61, con_spec_someTrace), (66, con_spec_someRoom)]
def an_spec_DrawRunRecent : Ann := ⟨[], [], [], []⟩
def cs_spec_DrawRunRecent : Cons := ⟨cl_spec_DrawRunRecent, [], 0, [], [], []⟩
def fin_spec_DrawRunRecent (code0 : List Int) (kk : AV → List A1 → Prop) : Kt := fin TT con_spec_DrawRunRecent Try.f41.results.toList [.c (.sl .int), .c .sc] [.c (.ro .u8 code0)] kk
theorem g_spec_DrawRunRecent (code0 : List Int) (kk : AV → List A1 → Prop) :
    ev TT cs_spec_DrawRunRecent 13 an_spec_DrawRunRecent (Try.f41.body.getD .skip) (st0 con_spec_DrawRunRecent [.c (.ro .u8 code0)]) (fin TT con_spec_DrawRunRecent Try.f41.results.toList [.c (.sl .int), .c .sc] [.c (.ro .u8 code0)] kk) = G_spec_DrawRunRecent code0 (fun r0 r1 => kk (.tup [.c (.ro .int r0), .c (.v (.int .i64 r1))]) []) := by kernel_rfl
theorem e_spec_DrawRunRecent (code0 : List Int) (kk : AV → List A1 → Prop) :
    ev TT cs_spec_DrawRunRecent 13 an_spec_DrawRunRecent (Try.f41.body.getD .skip) (st0 con_spec_DrawRunRecent [.c (.ro .u8 code0)]) (fin TT con_spec_DrawRunRecent Try.f41.results.toList [.c (.sl .int), .c .sc] [.c (.ro .u8 code0)] kk) = S_spec_DrawRunRecent code0 (fun r0 r1 => kk (.tup [.c (.ro .int r0), .c (.v (.int .i64 r1))]) []) := by
  rw [g_spec_DrawRunRecent]
  rfl
theorem clok_spec_DrawRunRecent : ConOK Try.prog cl_spec_DrawRunRecent := consCons h_spec_newReader ⟨Try.f54, Try.func54, by kernel_rfl, ne_of_beq (by kernel_rfl)⟩ (consCons h_spec_someTrace ⟨Try.f61, Try.func61, by kernel_rfl, ne_of_beq (by kernel_rfl)⟩ (consCons h_spec_someRoom ⟨Try.f66, Try.func66, by kernel_rfl, ne_of_beq (by kernel_rfl)⟩ (consNil)))
theorem cok_spec_DrawRunRecent : ConsOK Try.prog 13 cs_spec_DrawRunRecent := ⟨clok_spec_DrawRunRecent, inlNil, ovNil⟩
theorem i_spec_DrawRunRecent {vs : List A1} {kk : AV → List A1 → Prop} {motive : List A1 → Prop} (h : con_spec_DrawRunRecent.F vs kk) (H : ∀ (code0 : List Int), F_spec_DrawRunRecent code0 (fun r0 r1 => kk (.tup [.c (.ro .int r0), .c (.v (.int .i64 r1))]) []) → motive [.c (.ro .u8 code0)]) : motive vs := by
  unfold con_spec_DrawRunRecent at h
  dsimp only at h
  split at h
  · exact H _ h
  · exact h.elim
theorem h_spec_DrawRunRecent : Holds Try.prog 41 con_spec_DrawRunRecent := by
  refine holds_of_ev (rt := [.c (.sl .int), .c .sc]) (T := TT) (Γ := cs_spec_DrawRunRecent) (an := an_spec_DrawRunRecent) (N := 13) (c := Try.f41.body.getD .skip) Try.func41 (by kernel_rfl) Try.ntmps41 (by decide) (by decide) mixed tabOK cok_spec_DrawRunRecent (by kernel_rfl) ?_
  intro vs kk _ hF
  exact i_spec_DrawRunRecent (motive := fun vs => Goes (ev TT cs_spec_DrawRunRecent 13 an_spec_DrawRunRecent (Try.f41.body.getD .skip) (st0 con_spec_DrawRunRecent vs) (fin TT con_spec_DrawRunRecent Try.f41.results.toList [.c (.sl .int), .c .sc] vs kk))) hF (fun code0 hF => goes_of (e_spec_DrawRunRecent code0 kk) (F_spec_DrawRunRecent_S hF))
def con_spec_DrawRunFirst : Con := ⟨[.rd], true, [.c (.sl .u8)], fun vs k => match vs with
    | [.c (.ro .u8 code0)] => F_spec_DrawRunFirst code0 (fun r0 r1 => k (.tup [.c (.ro .int r0), .c (.v (.int .i64 r1))]) [])
    | _ => False, false⟩
def cl_spec_DrawRunFirst : List (FuncId × Con) := [(41, con_spec_DrawRunRecent)]
def an_spec_DrawRunFirst : Ann := ⟨[], [], [], []⟩
def cs_spec_DrawRunFirst : Cons := ⟨cl_spec_DrawRunFirst, [], 0, [], [], []⟩
def fin_spec_DrawRunFirst (code0 : List Int) (kk : AV → List A1 → Prop) : Kt := fin TT con_spec_DrawRunFirst Try.f13.results.toList [.c (.sl .int), .c .sc] [.c (.ro .u8 code0)] kk
theorem g_spec_DrawRunFirst (code0 : List Int) (kk : AV → List A1 → Prop) :
    ev TT cs_spec_DrawRunFirst 8 an_spec_DrawRunFirst (Try.f13.body.getD .skip) (st0 con_spec_DrawRunFirst [.c (.ro .u8 code0)]) (fin TT con_spec_DrawRunFirst Try.f13.results.toList [.c (.sl .int), .c .sc] [.c (.ro .u8 code0)] kk) = G_spec_DrawRunFirst code0 (fun r0 r1 => kk (.tup [.c (.ro .int r0), .c (.v (.int .i64 r1))]) []) := by kernel_rfl
theorem e_spec_DrawRunFirst (code0 : List Int) (kk : AV → List A1 → Prop) :
    ev TT cs_spec_DrawRunFirst 8 an_spec_DrawRunFirst (Try.f13.body.getD .skip) (st0 con_spec_DrawRunFirst [.c (.ro .u8 code0)]) (fin TT con_spec_DrawRunFirst Try.f13.results.toList [.c (.sl .int), .c .sc] [.c (.ro .u8 code0)] kk) = S_spec_DrawRunFirst code0 (fun r0 r1 => kk (.tup [.c (.ro .int r0), .c (.v (.int .i64 r1))]) []) := by
  rw [g_spec_DrawRunFirst]
  rfl
theorem clok_spec_DrawRunFirst : ConOK Try.prog cl_spec_DrawRunFirst := consCons h_spec_DrawRunRecent ⟨Try.f41, Try.func41, by kernel_rfl, ne_of_beq (by kernel_rfl)⟩ (consNil)
theorem cok_spec_DrawRunFirst : ConsOK Try.prog 8 cs_spec_DrawRunFirst := ⟨clok_spec_DrawRunFirst, inlNil, ovNil⟩
theorem i_spec_DrawRunFirst {vs : List A1} {kk : AV → List A1 → Prop} {motive : List A1 → Prop} (h : con_spec_DrawRunFirst.F vs kk) (H : ∀ (code0 : List Int), F_spec_DrawRunFirst code0 (fun r0 r1 => kk (.tup [.c (.ro .int r0), .c (.v (.int .i64 r1))]) []) → motive [.c (.ro .u8 code0)]) : motive vs := by
  unfold con_spec_DrawRunFirst at h
  dsimp only at h
  split at h
  · exact H _ h
  · exact h.elim
theorem h_spec_DrawRunFirst : Holds Try.prog 13 con_spec_DrawRunFirst := by
  refine holds_of_ev (rt := [.c (.sl .int), .c .sc]) (T := TT) (Γ := cs_spec_DrawRunFirst) (an := an_spec_DrawRunFirst) (N := 8) (c := Try.f13.body.getD .skip) Try.func13 (by kernel_rfl) Try.ntmps13 (by decide) (by decide) mixed tabOK cok_spec_DrawRunFirst (by kernel_rfl) ?_
  intro vs kk _ hF
  exact i_spec_DrawRunFirst (motive := fun vs => Goes (ev TT cs_spec_DrawRunFirst 8 an_spec_DrawRunFirst (Try.f13.body.getD .skip) (st0 con_spec_DrawRunFirst vs) (fin TT con_spec_DrawRunFirst Try.f13.results.toList [.c (.sl .int), .c .sc] vs kk))) hF (fun code0 hF => goes_of (e_spec_DrawRunFirst code0 kk) (F_spec_DrawRunFirst_S hF))
def con_impl_validKey : Con := ⟨[.rd], true, [.c (.sc)], fun vs k => match vs with
    | [.c (.v (.int .i64 key0))] => F_impl_validKey key0 (fun r0 => k (.one (.c (.v (.bool r0)))) [])
    | _ => False, false⟩
def cl_impl_validKey : List (FuncId × Con) := []
def an_impl_validKey : Ann := ⟨[], [], [], []⟩
def cs_impl_validKey : Cons := ⟨cl_impl_validKey, [], 0, [], [], []⟩
def fin_impl_validKey (key0 : Int) (kk : AV → List A1 → Prop) : Kt := fin TT con_impl_validKey Try.f56.results.toList [.c .sc] [.c (.v (.int .i64 key0))] kk
theorem g_impl_validKey (key0 : Int) (kk : AV → List A1 → Prop) :
    ev TT cs_impl_validKey 9 an_impl_validKey (Try.f56.body.getD .skip) (st0 con_impl_validKey [.c (.v (.int .i64 key0))]) (fin TT con_impl_validKey Try.f56.results.toList [.c .sc] [.c (.v (.int .i64 key0))] kk) = G_impl_validKey key0 (fun r0 => kk (.one (.c (.v (.bool r0)))) []) := by kernel_rfl
theorem e_impl_validKey (key0 : Int) (kk : AV → List A1 → Prop) :
    ev TT cs_impl_validKey 9 an_impl_validKey (Try.f56.body.getD .skip) (st0 con_impl_validKey [.c (.v (.int .i64 key0))]) (fin TT con_impl_validKey Try.f56.results.toList [.c .sc] [.c (.v (.int .i64 key0))] kk) = S_impl_validKey key0 (fun r0 => kk (.one (.c (.v (.bool r0)))) []) := by
  rw [g_impl_validKey]
  rfl
theorem clok_impl_validKey : ConOK Try.prog cl_impl_validKey := consNil
theorem cok_impl_validKey : ConsOK Try.prog 9 cs_impl_validKey := ⟨clok_impl_validKey, inlNil, ovNil⟩
theorem i_impl_validKey {vs : List A1} {kk : AV → List A1 → Prop} {motive : List A1 → Prop} (h : con_impl_validKey.F vs kk) (H : ∀ (key0 : Int), F_impl_validKey key0 (fun r0 => kk (.one (.c (.v (.bool r0)))) []) → motive [.c (.v (.int .i64 key0))]) : motive vs := by
  unfold con_impl_validKey at h
  dsimp only at h
  split at h
  · exact H _ h
  · exact h.elim
theorem h_impl_validKey : Holds Try.prog 56 con_impl_validKey := by
  refine holds_of_ev (rt := [.c .sc]) (T := TT) (Γ := cs_impl_validKey) (an := an_impl_validKey) (N := 9) (c := Try.f56.body.getD .skip) Try.func56 (by kernel_rfl) Try.ntmps56 (by decide) (by decide) mixed tabOK cok_impl_validKey (by kernel_rfl) ?_
  intro vs kk _ hF
  exact i_impl_validKey (motive := fun vs => Goes (ev TT cs_impl_validKey 9 an_impl_validKey (Try.f56.body.getD .skip) (st0 con_impl_validKey vs) (fin TT con_impl_validKey Try.f56.results.toList [.c .sc] vs kk))) hF (fun key0 hF => goes_of (e_impl_validKey key0 kk) (F_impl_validKey_S hF))
def con_impl_ValidTrace : Con := ⟨[.rd], true, [.c (.sl .int)], fun vs k => match vs with
    | [.c (.ro .int t0)] => F_impl_ValidTrace t0 (fun r0 => k (.one (.c (.v (.bool r0)))) [])
    | _ => False, false⟩
def cl_impl_ValidTrace : List (FuncId × Con) := [(56, con_impl_validKey)]
def nm0_impl_ValidTrace : List NStep := [.keep [8, 9, 10] []]
def an_impl_ValidTrace : Ann := ⟨[], [(4, nm0_impl_ValidTrace)], [], []⟩
def cs_impl_ValidTrace : Cons := ⟨cl_impl_ValidTrace, [], 0, [], [], []⟩
def can0_impl_ValidTrace (t0 : List Int) (xt9 : Int) (xt10 : Int) : St := ⟨[(8, .one (.c (.ro .int t0))), (9, .one (.c (.v (.int .i64 xt9)))), (10, .one (.c (.v (.int .i64 xt10))))], []⟩
def fin_impl_ValidTrace (t0 : List Int) (kk : AV → List A1 → Prop) : Kt := fin TT con_impl_ValidTrace Try.f26.results.toList [.c .sc] [.c (.ro .int t0)] kk
def kt0_impl_ValidTrace (kf : Kt) : Kt := blockK 0 (seqK (evF TT cs_impl_ValidTrace 18 an_impl_ValidTrace Try.f26 [1, 1, 1]) (kf))
theorem r0_impl_ValidTrace (t0 : List Int) (xt9 : Int) (kk : AV → List A1 → Prop) (n : Nat) (xt10 : Int) :
    iter (evF TT cs_impl_ValidTrace 18 an_impl_ValidTrace Try.f26 [1, 1, 0, 1, 0, 0]) nm0_impl_ValidTrace (kt0_impl_ValidTrace (fin_impl_ValidTrace t0 kk)) (n + 1) (can0_impl_ValidTrace t0 xt9 xt10) = T0_impl_ValidTrace t0 xt9 xt10 (fun r0 => kk (.one (.c (.v (.bool r0)))) []) (fun xt10 => iter (evF TT cs_impl_ValidTrace 18 an_impl_ValidTrace Try.f26 [1, 1, 0, 1, 0, 0]) nm0_impl_ValidTrace (kt0_impl_ValidTrace (fin_impl_ValidTrace t0 kk)) n (can0_impl_ValidTrace t0 xt9 xt10)) := by kernel_rfl
theorem l0_impl_ValidTrace (t0 : List Int) (xt9 : Int) (kk : AV → List A1 → Prop) : ∀ (n : Nat) (xt10 : Int), iter (evF TT cs_impl_ValidTrace 18 an_impl_ValidTrace Try.f26 [1, 1, 0, 1, 0, 0]) nm0_impl_ValidTrace (kt0_impl_ValidTrace (fin_impl_ValidTrace t0 kk)) n (can0_impl_ValidTrace t0 xt9 xt10) = L0_impl_ValidTrace t0 xt9 (fun r0 => kk (.one (.c (.v (.bool r0)))) []) n xt10 := by
  intro n
  induction n with
  | zero => intros; rfl
  | succ n ih =>
    intro xt10
    rw [r0_impl_ValidTrace t0 xt9 kk n xt10]
    have hb : (fun xt10 => iter (evF TT cs_impl_ValidTrace 18 an_impl_ValidTrace Try.f26 [1, 1, 0, 1, 0, 0]) nm0_impl_ValidTrace (kt0_impl_ValidTrace (fin_impl_ValidTrace t0 kk)) n (can0_impl_ValidTrace t0 xt9 xt10)) = L0_impl_ValidTrace t0 xt9 (fun r0 => kk (.one (.c (.v (.bool r0)))) []) n := by
      funext xt10; exact ih xt10
    rw [hb]
    rfl
theorem g_impl_ValidTrace (t0 : List Int) (kk : AV → List A1 → Prop) :
    ev TT cs_impl_ValidTrace 18 an_impl_ValidTrace (Try.f26.body.getD .skip) (st0 con_impl_ValidTrace [.c (.ro .int t0)]) (fin TT con_impl_ValidTrace Try.f26.results.toList [.c .sc] [.c (.ro .int t0)] kk) = G_impl_ValidTrace t0 (fun r0 => kk (.one (.c (.v (.bool r0)))) []) (fun t0 xt9 xt10 => ∃ j, iter (evF TT cs_impl_ValidTrace 18 an_impl_ValidTrace Try.f26 [1, 1, 0, 1, 0, 0]) nm0_impl_ValidTrace (kt0_impl_ValidTrace (fin_impl_ValidTrace t0 kk)) j (can0_impl_ValidTrace t0 xt9 xt10)) := by kernel_rfl
theorem e_impl_ValidTrace (t0 : List Int) (kk : AV → List A1 → Prop) :
    ev TT cs_impl_ValidTrace 18 an_impl_ValidTrace (Try.f26.body.getD .skip) (st0 con_impl_ValidTrace [.c (.ro .int t0)]) (fin TT con_impl_ValidTrace Try.f26.results.toList [.c .sc] [.c (.ro .int t0)] kk) = S_impl_ValidTrace t0 (fun r0 => kk (.one (.c (.v (.bool r0)))) []) := by
  rw [g_impl_ValidTrace]
  have hi0 : (fun t0 xt9 xt10 => ∃ j, iter (evF TT cs_impl_ValidTrace 18 an_impl_ValidTrace Try.f26 [1, 1, 0, 1, 0, 0]) nm0_impl_ValidTrace (kt0_impl_ValidTrace (fin_impl_ValidTrace t0 kk)) j (can0_impl_ValidTrace t0 xt9 xt10)) = (fun t0 xt9 xt10 => ∃ j, L0_impl_ValidTrace t0 xt9 (fun r0 => kk (.one (.c (.v (.bool r0)))) []) j xt10) := by
    funext t0 xt9 xt10
    refine congrArg Exists (funext fun j => ?_)
    rw [l0_impl_ValidTrace t0 xt9 kk j xt10]
  rw [hi0]
  rfl
theorem clok_impl_ValidTrace : ConOK Try.prog cl_impl_ValidTrace := consCons h_impl_validKey ⟨Try.f56, Try.func56, by kernel_rfl, ne_of_beq (by kernel_rfl)⟩ (consNil)
theorem cok_impl_ValidTrace : ConsOK Try.prog 18 cs_impl_ValidTrace := ⟨clok_impl_ValidTrace, inlNil, ovNil⟩
theorem i_impl_ValidTrace {vs : List A1} {kk : AV → List A1 → Prop} {motive : List A1 → Prop} (h : con_impl_ValidTrace.F vs kk) (H : ∀ (t0 : List Int), F_impl_ValidTrace t0 (fun r0 => kk (.one (.c (.v (.bool r0)))) []) → motive [.c (.ro .int t0)]) : motive vs := by
  unfold con_impl_ValidTrace at h
  dsimp only at h
  split at h
  · exact H _ h
  · exact h.elim
theorem h_impl_ValidTrace : Holds Try.prog 26 con_impl_ValidTrace := by
  refine holds_of_ev (rt := [.c .sc]) (T := TT) (Γ := cs_impl_ValidTrace) (an := an_impl_ValidTrace) (N := 18) (c := Try.f26.body.getD .skip) Try.func26 (by kernel_rfl) Try.ntmps26 (by decide) (by decide) mixed tabOK cok_impl_ValidTrace (by kernel_rfl) ?_
  intro vs kk _ hF
  exact i_impl_ValidTrace (motive := fun vs => Goes (ev TT cs_impl_ValidTrace 18 an_impl_ValidTrace (Try.f26.body.getD .skip) (st0 con_impl_ValidTrace vs) (fin TT con_impl_ValidTrace Try.f26.results.toList [.c .sc] vs kk))) hF (fun t0 hF => goes_of (e_impl_ValidTrace t0 kk) (F_impl_ValidTrace_S hF))
def con_impl_validRoom : Con := ⟨[.rd], true, [.c (.sc)], fun vs k => match vs with
    | [.c (.v (.int .i64 room0))] => F_impl_validRoom room0 (fun r0 => k (.one (.c (.v (.bool r0)))) [])
    | _ => False, false⟩
def cl_impl_validRoom : List (FuncId × Con) := []
def an_impl_validRoom : Ann := ⟨[], [], [], []⟩
def cs_impl_validRoom : Cons := ⟨cl_impl_validRoom, [], 0, [], [], []⟩
def fin_impl_validRoom (room0 : Int) (kk : AV → List A1 → Prop) : Kt := fin TT con_impl_validRoom Try.f49.results.toList [.c .sc] [.c (.v (.int .i64 room0))] kk
theorem g_impl_validRoom (room0 : Int) (kk : AV → List A1 → Prop) :
    ev TT cs_impl_validRoom 9 an_impl_validRoom (Try.f49.body.getD .skip) (st0 con_impl_validRoom [.c (.v (.int .i64 room0))]) (fin TT con_impl_validRoom Try.f49.results.toList [.c .sc] [.c (.v (.int .i64 room0))] kk) = G_impl_validRoom room0 (fun r0 => kk (.one (.c (.v (.bool r0)))) []) := by kernel_rfl
theorem e_impl_validRoom (room0 : Int) (kk : AV → List A1 → Prop) :
    ev TT cs_impl_validRoom 9 an_impl_validRoom (Try.f49.body.getD .skip) (st0 con_impl_validRoom [.c (.v (.int .i64 room0))]) (fin TT con_impl_validRoom Try.f49.results.toList [.c .sc] [.c (.v (.int .i64 room0))] kk) = S_impl_validRoom room0 (fun r0 => kk (.one (.c (.v (.bool r0)))) []) := by
  rw [g_impl_validRoom]
  rfl
theorem clok_impl_validRoom : ConOK Try.prog cl_impl_validRoom := consNil
theorem cok_impl_validRoom : ConsOK Try.prog 9 cs_impl_validRoom := ⟨clok_impl_validRoom, inlNil, ovNil⟩
theorem i_impl_validRoom {vs : List A1} {kk : AV → List A1 → Prop} {motive : List A1 → Prop} (h : con_impl_validRoom.F vs kk) (H : ∀ (room0 : Int), F_impl_validRoom room0 (fun r0 => kk (.one (.c (.v (.bool r0)))) []) → motive [.c (.v (.int .i64 room0))]) : motive vs := by
  unfold con_impl_validRoom at h
  dsimp only at h
  split at h
  · exact H _ h
  · exact h.elim
theorem h_impl_validRoom : Holds Try.prog 49 con_impl_validRoom := by
  refine holds_of_ev (rt := [.c .sc]) (T := TT) (Γ := cs_impl_validRoom) (an := an_impl_validRoom) (N := 9) (c := Try.f49.body.getD .skip) Try.func49 (by kernel_rfl) Try.ntmps49 (by decide) (by decide) mixed tabOK cok_impl_validRoom (by kernel_rfl) ?_
  intro vs kk _ hF
  exact i_impl_validRoom (motive := fun vs => Goes (ev TT cs_impl_validRoom 9 an_impl_validRoom (Try.f49.body.getD .skip) (st0 con_impl_validRoom vs) (fin TT con_impl_validRoom Try.f49.results.toList [.c .sc] vs kk))) hF (fun room0 hF => goes_of (e_impl_validRoom room0 kk) (F_impl_validRoom_S hF))
def con_slices_Index_sint_int : Con := ⟨[.rd, .rd], true, [.c (.sl .int), .c (.sc)], fun vs k => match vs with
    | [.c (.ro .int s0), .c (.v (.int .i64 v1))] => F_slices_Index_sint_int s0 v1 (fun r0 => k (.one (.c (.v (.int .i64 r0)))) [])
    | _ => False, false⟩
def cl_slices_Index_sint_int : List (FuncId × Con) := []
def nm0_slices_Index_sint_int : List NStep := [.keep [0, 1, 7, 8] []]
def an_slices_Index_sint_int : Ann := ⟨[], [(2, nm0_slices_Index_sint_int)], [], []⟩
def cs_slices_Index_sint_int : Cons := ⟨cl_slices_Index_sint_int, [], 0, [], [], []⟩
def can0_slices_Index_sint_int (s0 : List Int) (v1 : Int) (xt7 : Int) (xt8 : Int) : St := ⟨[(0, .one (.c (.ro .int s0))), (1, .one (.c (.v (.int .i64 v1)))), (7, .one (.c (.v (.int .i64 xt7)))), (8, .one (.c (.v (.int .i64 xt8))))], []⟩
def fin_slices_Index_sint_int (s0 : List Int) (v1 : Int) (kk : AV → List A1 → Prop) : Kt := fin TT con_slices_Index_sint_int Try.f58.results.toList [.c .sc] [.c (.ro .int s0), .c (.v (.int .i64 v1))] kk
def kt0_slices_Index_sint_int (kf : Kt) : Kt := blockK 0 (seqK (evF TT cs_slices_Index_sint_int 19 an_slices_Index_sint_int Try.f58 [1, 1]) (kf))
theorem r0_slices_Index_sint_int (s0 : List Int) (v1 : Int) (xt7 : Int) (kk : AV → List A1 → Prop) (n : Nat) (xt8 : Int) :
    iter (evF TT cs_slices_Index_sint_int 19 an_slices_Index_sint_int Try.f58 [1, 0, 1, 0, 0]) nm0_slices_Index_sint_int (kt0_slices_Index_sint_int (fin_slices_Index_sint_int s0 v1 kk)) (n + 1) (can0_slices_Index_sint_int s0 v1 xt7 xt8) = T0_slices_Index_sint_int s0 v1 xt7 xt8 (fun r0 => kk (.one (.c (.v (.int .i64 r0)))) []) (fun xt8 => iter (evF TT cs_slices_Index_sint_int 19 an_slices_Index_sint_int Try.f58 [1, 0, 1, 0, 0]) nm0_slices_Index_sint_int (kt0_slices_Index_sint_int (fin_slices_Index_sint_int s0 v1 kk)) n (can0_slices_Index_sint_int s0 v1 xt7 xt8)) := by kernel_rfl
theorem l0_slices_Index_sint_int (s0 : List Int) (v1 : Int) (xt7 : Int) (kk : AV → List A1 → Prop) : ∀ (n : Nat) (xt8 : Int), iter (evF TT cs_slices_Index_sint_int 19 an_slices_Index_sint_int Try.f58 [1, 0, 1, 0, 0]) nm0_slices_Index_sint_int (kt0_slices_Index_sint_int (fin_slices_Index_sint_int s0 v1 kk)) n (can0_slices_Index_sint_int s0 v1 xt7 xt8) = L0_slices_Index_sint_int s0 v1 xt7 (fun r0 => kk (.one (.c (.v (.int .i64 r0)))) []) n xt8 := by
  intro n
  induction n with
  | zero => intros; rfl
  | succ n ih =>
    intro xt8
    rw [r0_slices_Index_sint_int s0 v1 xt7 kk n xt8]
    have hb : (fun xt8 => iter (evF TT cs_slices_Index_sint_int 19 an_slices_Index_sint_int Try.f58 [1, 0, 1, 0, 0]) nm0_slices_Index_sint_int (kt0_slices_Index_sint_int (fin_slices_Index_sint_int s0 v1 kk)) n (can0_slices_Index_sint_int s0 v1 xt7 xt8)) = L0_slices_Index_sint_int s0 v1 xt7 (fun r0 => kk (.one (.c (.v (.int .i64 r0)))) []) n := by
      funext xt8; exact ih xt8
    rw [hb]
    rfl
theorem g_slices_Index_sint_int (s0 : List Int) (v1 : Int) (kk : AV → List A1 → Prop) :
    ev TT cs_slices_Index_sint_int 19 an_slices_Index_sint_int (Try.f58.body.getD .skip) (st0 con_slices_Index_sint_int [.c (.ro .int s0), .c (.v (.int .i64 v1))]) (fin TT con_slices_Index_sint_int Try.f58.results.toList [.c .sc] [.c (.ro .int s0), .c (.v (.int .i64 v1))] kk) = G_slices_Index_sint_int s0 v1 (fun s0 v1 xt7 xt8 => ∃ j, iter (evF TT cs_slices_Index_sint_int 19 an_slices_Index_sint_int Try.f58 [1, 0, 1, 0, 0]) nm0_slices_Index_sint_int (kt0_slices_Index_sint_int (fin_slices_Index_sint_int s0 v1 kk)) j (can0_slices_Index_sint_int s0 v1 xt7 xt8)) := by kernel_rfl
theorem e_slices_Index_sint_int (s0 : List Int) (v1 : Int) (kk : AV → List A1 → Prop) :
    ev TT cs_slices_Index_sint_int 19 an_slices_Index_sint_int (Try.f58.body.getD .skip) (st0 con_slices_Index_sint_int [.c (.ro .int s0), .c (.v (.int .i64 v1))]) (fin TT con_slices_Index_sint_int Try.f58.results.toList [.c .sc] [.c (.ro .int s0), .c (.v (.int .i64 v1))] kk) = S_slices_Index_sint_int s0 v1 (fun r0 => kk (.one (.c (.v (.int .i64 r0)))) []) := by
  rw [g_slices_Index_sint_int]
  have hi0 : (fun s0 v1 xt7 xt8 => ∃ j, iter (evF TT cs_slices_Index_sint_int 19 an_slices_Index_sint_int Try.f58 [1, 0, 1, 0, 0]) nm0_slices_Index_sint_int (kt0_slices_Index_sint_int (fin_slices_Index_sint_int s0 v1 kk)) j (can0_slices_Index_sint_int s0 v1 xt7 xt8)) = (fun s0 v1 xt7 xt8 => ∃ j, L0_slices_Index_sint_int s0 v1 xt7 (fun r0 => kk (.one (.c (.v (.int .i64 r0)))) []) j xt8) := by
    funext s0 v1 xt7 xt8
    refine congrArg Exists (funext fun j => ?_)
    rw [l0_slices_Index_sint_int s0 v1 xt7 kk j xt8]
  rw [hi0]
  rfl
theorem clok_slices_Index_sint_int : ConOK Try.prog cl_slices_Index_sint_int := consNil
theorem cok_slices_Index_sint_int : ConsOK Try.prog 19 cs_slices_Index_sint_int := ⟨clok_slices_Index_sint_int, inlNil, ovNil⟩
theorem i_slices_Index_sint_int {vs : List A1} {kk : AV → List A1 → Prop} {motive : List A1 → Prop} (h : con_slices_Index_sint_int.F vs kk) (H : ∀ (s0 : List Int) (v1 : Int), F_slices_Index_sint_int s0 v1 (fun r0 => kk (.one (.c (.v (.int .i64 r0)))) []) → motive [.c (.ro .int s0), .c (.v (.int .i64 v1))]) : motive vs := by
  unfold con_slices_Index_sint_int at h
  dsimp only at h
  split at h
  · exact H _ _ h
  · exact h.elim
theorem h_slices_Index_sint_int : Holds Try.prog 58 con_slices_Index_sint_int := by
  refine holds_of_ev (rt := [.c .sc]) (T := TT) (Γ := cs_slices_Index_sint_int) (an := an_slices_Index_sint_int) (N := 19) (c := Try.f58.body.getD .skip) Try.func58 (by kernel_rfl) Try.ntmps58 (by decide) (by decide) mixed tabOK cok_slices_Index_sint_int (by kernel_rfl) ?_
  intro vs kk _ hF
  exact i_slices_Index_sint_int (motive := fun vs => Goes (ev TT cs_slices_Index_sint_int 19 an_slices_Index_sint_int (Try.f58.body.getD .skip) (st0 con_slices_Index_sint_int vs) (fin TT con_slices_Index_sint_int Try.f58.results.toList [.c .sc] vs kk))) hF (fun s0 v1 hF => goes_of (e_slices_Index_sint_int s0 v1 kk) (F_slices_Index_sint_int_S hF))
def con_slices_Contains_sint_int : Con := ⟨[.rd, .rd], true, [.c (.sl .int), .c (.sc)], fun vs k => match vs with
    | [.c (.ro .int s0), .c (.v (.int .i64 v1))] => F_slices_Contains_sint_int s0 v1 (fun r0 => k (.one (.c (.v (.bool r0)))) [])
    | _ => False, false⟩
def cl_slices_Contains_sint_int : List (FuncId × Con) := [(58, con_slices_Index_sint_int)]
def an_slices_Contains_sint_int : Ann := ⟨[], [], [], []⟩
def cs_slices_Contains_sint_int : Cons := ⟨cl_slices_Contains_sint_int, [], 0, [], [], []⟩
def fin_slices_Contains_sint_int (s0 : List Int) (v1 : Int) (kk : AV → List A1 → Prop) : Kt := fin TT con_slices_Contains_sint_int Try.f57.results.toList [.c .sc] [.c (.ro .int s0), .c (.v (.int .i64 v1))] kk
theorem g_slices_Contains_sint_int (s0 : List Int) (v1 : Int) (kk : AV → List A1 → Prop) :
    ev TT cs_slices_Contains_sint_int 9 an_slices_Contains_sint_int (Try.f57.body.getD .skip) (st0 con_slices_Contains_sint_int [.c (.ro .int s0), .c (.v (.int .i64 v1))]) (fin TT con_slices_Contains_sint_int Try.f57.results.toList [.c .sc] [.c (.ro .int s0), .c (.v (.int .i64 v1))] kk) = G_slices_Contains_sint_int s0 v1 (fun r0 => kk (.one (.c (.v (.bool r0)))) []) := by kernel_rfl
theorem e_slices_Contains_sint_int (s0 : List Int) (v1 : Int) (kk : AV → List A1 → Prop) :
    ev TT cs_slices_Contains_sint_int 9 an_slices_Contains_sint_int (Try.f57.body.getD .skip) (st0 con_slices_Contains_sint_int [.c (.ro .int s0), .c (.v (.int .i64 v1))]) (fin TT con_slices_Contains_sint_int Try.f57.results.toList [.c .sc] [.c (.ro .int s0), .c (.v (.int .i64 v1))] kk) = S_slices_Contains_sint_int s0 v1 (fun r0 => kk (.one (.c (.v (.bool r0)))) []) := by
  rw [g_slices_Contains_sint_int]
  rfl
theorem clok_slices_Contains_sint_int : ConOK Try.prog cl_slices_Contains_sint_int := consCons h_slices_Index_sint_int ⟨Try.f58, Try.func58, by kernel_rfl, ne_of_beq (by kernel_rfl)⟩ (consNil)
theorem cok_slices_Contains_sint_int : ConsOK Try.prog 9 cs_slices_Contains_sint_int := ⟨clok_slices_Contains_sint_int, inlNil, ovNil⟩
theorem i_slices_Contains_sint_int {vs : List A1} {kk : AV → List A1 → Prop} {motive : List A1 → Prop} (h : con_slices_Contains_sint_int.F vs kk) (H : ∀ (s0 : List Int) (v1 : Int), F_slices_Contains_sint_int s0 v1 (fun r0 => kk (.one (.c (.v (.bool r0)))) []) → motive [.c (.ro .int s0), .c (.v (.int .i64 v1))]) : motive vs := by
  unfold con_slices_Contains_sint_int at h
  dsimp only at h
  split at h
  · exact H _ _ h
  · exact h.elim
theorem h_slices_Contains_sint_int : Holds Try.prog 57 con_slices_Contains_sint_int := by
  refine holds_of_ev (rt := [.c .sc]) (T := TT) (Γ := cs_slices_Contains_sint_int) (an := an_slices_Contains_sint_int) (N := 9) (c := Try.f57.body.getD .skip) Try.func57 (by kernel_rfl) Try.ntmps57 (by decide) (by decide) mixed tabOK cok_slices_Contains_sint_int (by kernel_rfl) ?_
  intro vs kk _ hF
  exact i_slices_Contains_sint_int (motive := fun vs => Goes (ev TT cs_slices_Contains_sint_int 9 an_slices_Contains_sint_int (Try.f57.body.getD .skip) (st0 con_slices_Contains_sint_int vs) (fin TT con_slices_Contains_sint_int Try.f57.results.toList [.c .sc] vs kk))) hF (fun s0 v1 hF => goes_of (e_slices_Contains_sint_int s0 v1 kk) (F_slices_Contains_sint_int_S hF))
def con_impl_differentKeys : Con := ⟨[.rd], true, [.c (.sl .int)], fun vs k => match vs with
    | [.c (.ro .int list0)] => F_impl_differentKeys list0 (fun r0 => k (.one (.c (.v (.bool r0)))) [])
    | _ => False, false⟩
def cl_impl_differentKeys : List (FuncId × Con) := [(56, con_impl_validKey), (57, con_slices_Contains_sint_int)]
def nm0_impl_differentKeys : List NStep := [.keep [0, 5, 6, 7] []]
def an_impl_differentKeys : Ann := ⟨[], [(2, nm0_impl_differentKeys)], [], []⟩
def cs_impl_differentKeys : Cons := ⟨cl_impl_differentKeys, [], 0, [], [], []⟩
def can0_impl_differentKeys (list0 : List Int) (xt6 : Int) (xt7 : Int) : St := ⟨[(0, .one (.c (.ro .int list0))), (5, .one (.c (.ro .int list0))), (6, .one (.c (.v (.int .i64 xt6)))), (7, .one (.c (.v (.int .i64 xt7))))], []⟩
def fin_impl_differentKeys (list0 : List Int) (kk : AV → List A1 → Prop) : Kt := fin TT con_impl_differentKeys Try.f82.results.toList [.c .sc] [.c (.ro .int list0)] kk
def kt0_impl_differentKeys (kf : Kt) : Kt := blockK 0 (seqK (evF TT cs_impl_differentKeys 23 an_impl_differentKeys Try.f82 [1, 1]) (kf))
theorem r0_impl_differentKeys (list0 : List Int) (xt6 : Int) (kk : AV → List A1 → Prop) (n : Nat) (xt7 : Int) :
    iter (evF TT cs_impl_differentKeys 23 an_impl_differentKeys Try.f82 [1, 0, 1, 0, 0]) nm0_impl_differentKeys (kt0_impl_differentKeys (fin_impl_differentKeys list0 kk)) (n + 1) (can0_impl_differentKeys list0 xt6 xt7) = T0_impl_differentKeys list0 xt6 xt7 (fun r0 => kk (.one (.c (.v (.bool r0)))) []) (fun xt7 => iter (evF TT cs_impl_differentKeys 23 an_impl_differentKeys Try.f82 [1, 0, 1, 0, 0]) nm0_impl_differentKeys (kt0_impl_differentKeys (fin_impl_differentKeys list0 kk)) n (can0_impl_differentKeys list0 xt6 xt7)) := by kernel_rfl
theorem l0_impl_differentKeys (list0 : List Int) (xt6 : Int) (kk : AV → List A1 → Prop) : ∀ (n : Nat) (xt7 : Int), iter (evF TT cs_impl_differentKeys 23 an_impl_differentKeys Try.f82 [1, 0, 1, 0, 0]) nm0_impl_differentKeys (kt0_impl_differentKeys (fin_impl_differentKeys list0 kk)) n (can0_impl_differentKeys list0 xt6 xt7) = L0_impl_differentKeys list0 xt6 (fun r0 => kk (.one (.c (.v (.bool r0)))) []) n xt7 := by
  intro n
  induction n with
  | zero => intros; rfl
  | succ n ih =>
    intro xt7
    rw [r0_impl_differentKeys list0 xt6 kk n xt7]
    have hb : (fun xt7 => iter (evF TT cs_impl_differentKeys 23 an_impl_differentKeys Try.f82 [1, 0, 1, 0, 0]) nm0_impl_differentKeys (kt0_impl_differentKeys (fin_impl_differentKeys list0 kk)) n (can0_impl_differentKeys list0 xt6 xt7)) = L0_impl_differentKeys list0 xt6 (fun r0 => kk (.one (.c (.v (.bool r0)))) []) n := by
      funext xt7; exact ih xt7
    rw [hb]
    rfl
theorem g_impl_differentKeys (list0 : List Int) (kk : AV → List A1 → Prop) :
    ev TT cs_impl_differentKeys 23 an_impl_differentKeys (Try.f82.body.getD .skip) (st0 con_impl_differentKeys [.c (.ro .int list0)]) (fin TT con_impl_differentKeys Try.f82.results.toList [.c .sc] [.c (.ro .int list0)] kk) = G_impl_differentKeys list0 (fun list0 xt6 xt7 => ∃ j, iter (evF TT cs_impl_differentKeys 23 an_impl_differentKeys Try.f82 [1, 0, 1, 0, 0]) nm0_impl_differentKeys (kt0_impl_differentKeys (fin_impl_differentKeys list0 kk)) j (can0_impl_differentKeys list0 xt6 xt7)) := by kernel_rfl
theorem e_impl_differentKeys (list0 : List Int) (kk : AV → List A1 → Prop) :
    ev TT cs_impl_differentKeys 23 an_impl_differentKeys (Try.f82.body.getD .skip) (st0 con_impl_differentKeys [.c (.ro .int list0)]) (fin TT con_impl_differentKeys Try.f82.results.toList [.c .sc] [.c (.ro .int list0)] kk) = S_impl_differentKeys list0 (fun r0 => kk (.one (.c (.v (.bool r0)))) []) := by
  rw [g_impl_differentKeys]
  have hi0 : (fun list0 xt6 xt7 => ∃ j, iter (evF TT cs_impl_differentKeys 23 an_impl_differentKeys Try.f82 [1, 0, 1, 0, 0]) nm0_impl_differentKeys (kt0_impl_differentKeys (fin_impl_differentKeys list0 kk)) j (can0_impl_differentKeys list0 xt6 xt7)) = (fun list0 xt6 xt7 => ∃ j, L0_impl_differentKeys list0 xt6 (fun r0 => kk (.one (.c (.v (.bool r0)))) []) j xt7) := by
    funext list0 xt6 xt7
    refine congrArg Exists (funext fun j => ?_)
    rw [l0_impl_differentKeys list0 xt6 kk j xt7]
  rw [hi0]
  rfl
theorem clok_impl_differentKeys : ConOK Try.prog cl_impl_differentKeys := consCons h_impl_validKey ⟨Try.f56, Try.func56, by kernel_rfl, ne_of_beq (by kernel_rfl)⟩ (consCons h_slices_Contains_sint_int ⟨Try.f57, Try.func57, by kernel_rfl, ne_of_beq (by kernel_rfl)⟩ (consNil))
theorem cok_impl_differentKeys : ConsOK Try.prog 23 cs_impl_differentKeys := ⟨clok_impl_differentKeys, inlNil, ovNil⟩
theorem i_impl_differentKeys {vs : List A1} {kk : AV → List A1 → Prop} {motive : List A1 → Prop} (h : con_impl_differentKeys.F vs kk) (H : ∀ (list0 : List Int), F_impl_differentKeys list0 (fun r0 => kk (.one (.c (.v (.bool r0)))) []) → motive [.c (.ro .int list0)]) : motive vs := by
  unfold con_impl_differentKeys at h
  dsimp only at h
  split at h
  · exact H _ h
  · exact h.elim
theorem h_impl_differentKeys : Holds Try.prog 82 con_impl_differentKeys := by
  refine holds_of_ev (rt := [.c .sc]) (T := TT) (Γ := cs_impl_differentKeys) (an := an_impl_differentKeys) (N := 23) (c := Try.f82.body.getD .skip) Try.func82 (by kernel_rfl) Try.ntmps82 (by decide) (by decide) mixed tabOK cok_impl_differentKeys (by kernel_rfl) ?_
  intro vs kk _ hF
  exact i_impl_differentKeys (motive := fun vs => Goes (ev TT cs_impl_differentKeys 23 an_impl_differentKeys (Try.f82.body.getD .skip) (st0 con_impl_differentKeys vs) (fin TT con_impl_differentKeys Try.f82.results.toList [.c .sc] vs kk))) hF (fun list0 hF => goes_of (e_impl_differentKeys list0 kk) (F_impl_differentKeys_S hF))
def con_impl_ValidKeys : Con := ⟨[.rd, .rd], true, [.c (.sl .int), .c (.sc)], fun vs k => match vs with
    | [.c (.ro .int list0), .c (.v (.int .i64 room1))] => F_impl_ValidKeys list0 room1 (fun r0 => k (.one (.c (.v (.bool r0)))) [])
    | _ => False, false⟩
def cl_impl_ValidKeys : List (FuncId × Con) := [(49, con_impl_validRoom), (82, con_impl_differentKeys)]
def an_impl_ValidKeys : Ann := ⟨[], [], [], []⟩
def cs_impl_ValidKeys : Cons := ⟨cl_impl_ValidKeys, [], 0, [], [], []⟩
def fin_impl_ValidKeys (list0 : List Int) (room1 : Int) (kk : AV → List A1 → Prop) : Kt := fin TT con_impl_ValidKeys Try.f69.results.toList [.c .sc] [.c (.ro .int list0), .c (.v (.int .i64 room1))] kk
theorem g_impl_ValidKeys (list0 : List Int) (room1 : Int) (kk : AV → List A1 → Prop) :
    ev TT cs_impl_ValidKeys 17 an_impl_ValidKeys (Try.f69.body.getD .skip) (st0 con_impl_ValidKeys [.c (.ro .int list0), .c (.v (.int .i64 room1))]) (fin TT con_impl_ValidKeys Try.f69.results.toList [.c .sc] [.c (.ro .int list0), .c (.v (.int .i64 room1))] kk) = G_impl_ValidKeys list0 room1 (fun r0 => kk (.one (.c (.v (.bool r0)))) []) := by kernel_rfl
theorem e_impl_ValidKeys (list0 : List Int) (room1 : Int) (kk : AV → List A1 → Prop) :
    ev TT cs_impl_ValidKeys 17 an_impl_ValidKeys (Try.f69.body.getD .skip) (st0 con_impl_ValidKeys [.c (.ro .int list0), .c (.v (.int .i64 room1))]) (fin TT con_impl_ValidKeys Try.f69.results.toList [.c .sc] [.c (.ro .int list0), .c (.v (.int .i64 room1))] kk) = S_impl_ValidKeys list0 room1 (fun r0 => kk (.one (.c (.v (.bool r0)))) []) := by
  rw [g_impl_ValidKeys]
  rfl
theorem clok_impl_ValidKeys : ConOK Try.prog cl_impl_ValidKeys := consCons h_impl_validRoom ⟨Try.f49, Try.func49, by kernel_rfl, ne_of_beq (by kernel_rfl)⟩ (consCons h_impl_differentKeys ⟨Try.f82, Try.func82, by kernel_rfl, ne_of_beq (by kernel_rfl)⟩ (consNil))
theorem cok_impl_ValidKeys : ConsOK Try.prog 17 cs_impl_ValidKeys := ⟨clok_impl_ValidKeys, inlNil, ovNil⟩
theorem i_impl_ValidKeys {vs : List A1} {kk : AV → List A1 → Prop} {motive : List A1 → Prop} (h : con_impl_ValidKeys.F vs kk) (H : ∀ (list0 : List Int) (room1 : Int), F_impl_ValidKeys list0 room1 (fun r0 => kk (.one (.c (.v (.bool r0)))) []) → motive [.c (.ro .int list0), .c (.v (.int .i64 room1))]) : motive vs := by
  unfold con_impl_ValidKeys at h
  dsimp only at h
  split at h
  · exact H _ _ h
  · exact h.elim
theorem h_impl_ValidKeys : Holds Try.prog 69 con_impl_ValidKeys := by
  refine holds_of_ev (rt := [.c .sc]) (T := TT) (Γ := cs_impl_ValidKeys) (an := an_impl_ValidKeys) (N := 17) (c := Try.f69.body.getD .skip) Try.func69 (by kernel_rfl) Try.ntmps69 (by decide) (by decide) mixed tabOK cok_impl_ValidKeys (by kernel_rfl) ?_
  intro vs kk _ hF
  exact i_impl_ValidKeys (motive := fun vs => Goes (ev TT cs_impl_ValidKeys 17 an_impl_ValidKeys (Try.f69.body.getD .skip) (st0 con_impl_ValidKeys vs) (fin TT con_impl_ValidKeys Try.f69.results.toList [.c .sc] vs kk))) hF (fun list0 room1 hF => goes_of (e_impl_ValidKeys list0 room1 kk) (F_impl_ValidKeys_S hF))
def con_impl_UseFirst : Con := ⟨[.rd, .rd, .rd], true, [.c (.sl .int), .c (.sc), .c (.sc)], fun vs k => match vs with
    | [.c (.ro .int list0), .c (.v (.int .i64 room1)), .c (.v (.int .i64 key2))] => F_impl_UseFirst list0 room1 key2 (fun r0 r1 => k (.tup [.c (.ro .int r0), .c (.v (.bool r1))]) [])
    | _ => False, false⟩
def cl_impl_UseFirst : List (FuncId × Con) := [(56, con_impl_validKey), (57, con_slices_Contains_sint_int), (69, con_impl_ValidKeys)]
def an_impl_UseFirst : Ann := ⟨[], [], [], []⟩
def cs_impl_UseFirst : Cons := ⟨cl_impl_UseFirst, [], 0, [], [], []⟩
def fin_impl_UseFirst (list0 : List Int) (room1 : Int) (key2 : Int) (kk : AV → List A1 → Prop) : Kt := fin TT con_impl_UseFirst Try.f43.results.toList [.c (.sl .int), .c .sc] [.c (.ro .int list0), .c (.v (.int .i64 room1)), .c (.v (.int .i64 key2))] kk
theorem g_impl_UseFirst (list0 : List Int) (room1 : Int) (key2 : Int) (kk : AV → List A1 → Prop) :
    ev TT cs_impl_UseFirst 36 an_impl_UseFirst (Try.f43.body.getD .skip) (st0 con_impl_UseFirst [.c (.ro .int list0), .c (.v (.int .i64 room1)), .c (.v (.int .i64 key2))]) (fin TT con_impl_UseFirst Try.f43.results.toList [.c (.sl .int), .c .sc] [.c (.ro .int list0), .c (.v (.int .i64 room1)), .c (.v (.int .i64 key2))] kk) = G_impl_UseFirst list0 room1 key2 (fun r0 r1 => kk (.tup [.c (.ro .int r0), .c (.v (.bool r1))]) []) := by kernel_rfl
theorem e_impl_UseFirst (list0 : List Int) (room1 : Int) (key2 : Int) (kk : AV → List A1 → Prop) :
    ev TT cs_impl_UseFirst 36 an_impl_UseFirst (Try.f43.body.getD .skip) (st0 con_impl_UseFirst [.c (.ro .int list0), .c (.v (.int .i64 room1)), .c (.v (.int .i64 key2))]) (fin TT con_impl_UseFirst Try.f43.results.toList [.c (.sl .int), .c .sc] [.c (.ro .int list0), .c (.v (.int .i64 room1)), .c (.v (.int .i64 key2))] kk) = S_impl_UseFirst list0 room1 key2 (fun r0 r1 => kk (.tup [.c (.ro .int r0), .c (.v (.bool r1))]) []) := by
  rw [g_impl_UseFirst]
  rfl
theorem clok_impl_UseFirst : ConOK Try.prog cl_impl_UseFirst := consCons h_impl_validKey ⟨Try.f56, Try.func56, by kernel_rfl, ne_of_beq (by kernel_rfl)⟩ (consCons h_slices_Contains_sint_int ⟨Try.f57, Try.func57, by kernel_rfl, ne_of_beq (by kernel_rfl)⟩ (consCons h_impl_ValidKeys ⟨Try.f69, Try.func69, by kernel_rfl, ne_of_beq (by kernel_rfl)⟩ (consNil)))
theorem cok_impl_UseFirst : ConsOK Try.prog 36 cs_impl_UseFirst := ⟨clok_impl_UseFirst, inlNil, ovNil⟩
theorem i_impl_UseFirst {vs : List A1} {kk : AV → List A1 → Prop} {motive : List A1 → Prop} (h : con_impl_UseFirst.F vs kk) (H : ∀ (list0 : List Int) (room1 : Int) (key2 : Int), F_impl_UseFirst list0 room1 key2 (fun r0 r1 => kk (.tup [.c (.ro .int r0), .c (.v (.bool r1))]) []) → motive [.c (.ro .int list0), .c (.v (.int .i64 room1)), .c (.v (.int .i64 key2))]) : motive vs := by
  unfold con_impl_UseFirst at h
  dsimp only at h
  split at h
  · exact H _ _ _ h
  · exact h.elim
theorem h_impl_UseFirst : Holds Try.prog 43 con_impl_UseFirst := by
  refine holds_of_ev (rt := [.c (.sl .int), .c .sc]) (T := TT) (Γ := cs_impl_UseFirst) (an := an_impl_UseFirst) (N := 36) (c := Try.f43.body.getD .skip) Try.func43 (by kernel_rfl) Try.ntmps43 (by decide) (by decide) mixed tabOK cok_impl_UseFirst (by kernel_rfl) ?_
  intro vs kk _ hF
  exact i_impl_UseFirst (motive := fun vs => Goes (ev TT cs_impl_UseFirst 36 an_impl_UseFirst (Try.f43.body.getD .skip) (st0 con_impl_UseFirst vs) (fin TT con_impl_UseFirst Try.f43.results.toList [.c (.sl .int), .c .sc] vs kk))) hF (fun list0 room1 key2 hF => goes_of (e_impl_UseFirst list0 room1 key2 kk) (F_impl_UseFirst_S hF))
def con_impl_putFirst : Con := ⟨[.rd, .rd], true, [.c (.sl .int), .c (.sc)], fun vs k => match vs with
    | [.c (.ro .int list0), .c (.v (.int .i64 key1))] => F_impl_putFirst list0 key1 (fun r0 => k (.one (.c (.ro .int r0))) [])
    | _ => False, false⟩
def cl_impl_putFirst : List (FuncId × Con) := []
def an_impl_putFirst : Ann := ⟨[], [], [], []⟩
def cs_impl_putFirst : Cons := ⟨cl_impl_putFirst, [], 0, [], [], []⟩
def fin_impl_putFirst (list0 : List Int) (key1 : Int) (kk : AV → List A1 → Prop) : Kt := fin TT con_impl_putFirst Try.f59.results.toList [.c (.sl .int)] [.c (.ro .int list0), .c (.v (.int .i64 key1))] kk
theorem g_impl_putFirst (list0 : List Int) (key1 : Int) (kk : AV → List A1 → Prop) :
    ev TT cs_impl_putFirst 9 an_impl_putFirst (Try.f59.body.getD .skip) (st0 con_impl_putFirst [.c (.ro .int list0), .c (.v (.int .i64 key1))]) (fin TT con_impl_putFirst Try.f59.results.toList [.c (.sl .int)] [.c (.ro .int list0), .c (.v (.int .i64 key1))] kk) = G_impl_putFirst list0 key1 (fun r0 => kk (.one (.c (.ro .int r0))) []) := by kernel_rfl
theorem e_impl_putFirst (list0 : List Int) (key1 : Int) (kk : AV → List A1 → Prop) :
    ev TT cs_impl_putFirst 9 an_impl_putFirst (Try.f59.body.getD .skip) (st0 con_impl_putFirst [.c (.ro .int list0), .c (.v (.int .i64 key1))]) (fin TT con_impl_putFirst Try.f59.results.toList [.c (.sl .int)] [.c (.ro .int list0), .c (.v (.int .i64 key1))] kk) = S_impl_putFirst list0 key1 (fun r0 => kk (.one (.c (.ro .int r0))) []) := by
  rw [g_impl_putFirst]
  rfl
theorem clok_impl_putFirst : ConOK Try.prog cl_impl_putFirst := consNil
theorem cok_impl_putFirst : ConsOK Try.prog 9 cs_impl_putFirst := ⟨clok_impl_putFirst, inlNil, ovNil⟩
theorem i_impl_putFirst {vs : List A1} {kk : AV → List A1 → Prop} {motive : List A1 → Prop} (h : con_impl_putFirst.F vs kk) (H : ∀ (list0 : List Int) (key1 : Int), F_impl_putFirst list0 key1 (fun r0 => kk (.one (.c (.ro .int r0))) []) → motive [.c (.ro .int list0), .c (.v (.int .i64 key1))]) : motive vs := by
  unfold con_impl_putFirst at h
  dsimp only at h
  split at h
  · exact H _ _ h
  · exact h.elim
theorem h_impl_putFirst : Holds Try.prog 59 con_impl_putFirst := by
  refine holds_of_ev (rt := [.c (.sl .int)]) (T := TT) (Γ := cs_impl_putFirst) (an := an_impl_putFirst) (N := 9) (c := Try.f59.body.getD .skip) Try.func59 (by kernel_rfl) Try.ntmps59 (by decide) (by decide) mixed tabOK cok_impl_putFirst (by kernel_rfl) ?_
  intro vs kk _ hF
  exact i_impl_putFirst (motive := fun vs => Goes (ev TT cs_impl_putFirst 9 an_impl_putFirst (Try.f59.body.getD .skip) (st0 con_impl_putFirst vs) (fin TT con_impl_putFirst Try.f59.results.toList [.c (.sl .int)] vs kk))) hF (fun list0 key1 hF => goes_of (e_impl_putFirst list0 key1 kk) (F_impl_putFirst_S hF))
def con_impl_withoutKey : Con := ⟨[.rd, .rd], true, [.c (.sl .int), .c (.sc)], fun vs k => match vs with
    | [.c (.ro .int list0), .c (.v (.int .i64 key1))] => F_impl_withoutKey list0 key1 (fun r0 => k (.one (.c (.ro .int r0))) [])
    | _ => False, false⟩
def cl_impl_withoutKey : List (FuncId × Con) := []
def nm0_impl_withoutKey : List NStep := [.own 5 .int 90000, .keep [1, 5, 9, 10, 11] [90000]]
def an_impl_withoutKey : Ann := ⟨[], [(3, nm0_impl_withoutKey)], [], []⟩
def cs_impl_withoutKey : Cons := ⟨cl_impl_withoutKey, [], 0, [], [], []⟩
def can0_impl_withoutKey (key1 : Int) (list0 : List Int) (xt10 : Int) (xt11 : Int) (xout5 : List Int) : St := ⟨[(1, .one (.c (.v (.int .i64 key1)))), (5, .one (.c (.ow 90000))), (9, .one (.c (.ro .int list0))), (10, .one (.c (.v (.int .i64 xt10)))), (11, .one (.c (.v (.int .i64 xt11))))], [(90000, .row .int xout5)]⟩
def fin_impl_withoutKey (list0 : List Int) (key1 : Int) (kk : AV → List A1 → Prop) : Kt := fin TT con_impl_withoutKey Try.f60.results.toList [.c (.sl .int)] [.c (.ro .int list0), .c (.v (.int .i64 key1))] kk
def kt0_impl_withoutKey (kf : Kt) : Kt := blockK 0 (seqK (evF TT cs_impl_withoutKey 24 an_impl_withoutKey Try.f60 [1, 1, 1]) (kf))
theorem r0_impl_withoutKey (list0 : List Int) (key1 : Int) (xt10 : Int) (kk : AV → List A1 → Prop) (n : Nat) (xt11 : Int) (xout5 : List Int) :
    iter (evF TT cs_impl_withoutKey 24 an_impl_withoutKey Try.f60 [1, 1, 0, 1, 0, 0]) nm0_impl_withoutKey (kt0_impl_withoutKey (fin_impl_withoutKey list0 key1 kk)) (n + 1) (can0_impl_withoutKey key1 list0 xt10 xt11 xout5) = T0_impl_withoutKey key1 list0 xt10 xt11 xout5 (fun r0 => kk (.one (.c (.ro .int r0))) []) (fun xt11 xout5 => iter (evF TT cs_impl_withoutKey 24 an_impl_withoutKey Try.f60 [1, 1, 0, 1, 0, 0]) nm0_impl_withoutKey (kt0_impl_withoutKey (fin_impl_withoutKey list0 key1 kk)) n (can0_impl_withoutKey key1 list0 xt10 xt11 xout5)) := by kernel_rfl
theorem l0_impl_withoutKey (list0 : List Int) (key1 : Int) (xt10 : Int) (kk : AV → List A1 → Prop) : ∀ (n : Nat) (xt11 : Int) (xout5 : List Int), iter (evF TT cs_impl_withoutKey 24 an_impl_withoutKey Try.f60 [1, 1, 0, 1, 0, 0]) nm0_impl_withoutKey (kt0_impl_withoutKey (fin_impl_withoutKey list0 key1 kk)) n (can0_impl_withoutKey key1 list0 xt10 xt11 xout5) = L0_impl_withoutKey key1 list0 xt10 (fun r0 => kk (.one (.c (.ro .int r0))) []) n xt11 xout5 := by
  intro n
  induction n with
  | zero => intros; rfl
  | succ n ih =>
    intro xt11 xout5
    rw [r0_impl_withoutKey list0 key1 xt10 kk n xt11 xout5]
    have hb : (fun xt11 xout5 => iter (evF TT cs_impl_withoutKey 24 an_impl_withoutKey Try.f60 [1, 1, 0, 1, 0, 0]) nm0_impl_withoutKey (kt0_impl_withoutKey (fin_impl_withoutKey list0 key1 kk)) n (can0_impl_withoutKey key1 list0 xt10 xt11 xout5)) = L0_impl_withoutKey key1 list0 xt10 (fun r0 => kk (.one (.c (.ro .int r0))) []) n := by
      funext xt11 xout5; exact ih xt11 xout5
    rw [hb]
    rfl
theorem g_impl_withoutKey (list0 : List Int) (key1 : Int) (kk : AV → List A1 → Prop) :
    ev TT cs_impl_withoutKey 24 an_impl_withoutKey (Try.f60.body.getD .skip) (st0 con_impl_withoutKey [.c (.ro .int list0), .c (.v (.int .i64 key1))]) (fin TT con_impl_withoutKey Try.f60.results.toList [.c (.sl .int)] [.c (.ro .int list0), .c (.v (.int .i64 key1))] kk) = G_impl_withoutKey list0 key1 (fun key1 list0 xt10 xt11 xout5 => ∃ j, iter (evF TT cs_impl_withoutKey 24 an_impl_withoutKey Try.f60 [1, 1, 0, 1, 0, 0]) nm0_impl_withoutKey (kt0_impl_withoutKey (fin_impl_withoutKey list0 key1 kk)) j (can0_impl_withoutKey key1 list0 xt10 xt11 xout5)) := by kernel_rfl
theorem e_impl_withoutKey (list0 : List Int) (key1 : Int) (kk : AV → List A1 → Prop) :
    ev TT cs_impl_withoutKey 24 an_impl_withoutKey (Try.f60.body.getD .skip) (st0 con_impl_withoutKey [.c (.ro .int list0), .c (.v (.int .i64 key1))]) (fin TT con_impl_withoutKey Try.f60.results.toList [.c (.sl .int)] [.c (.ro .int list0), .c (.v (.int .i64 key1))] kk) = S_impl_withoutKey list0 key1 (fun r0 => kk (.one (.c (.ro .int r0))) []) := by
  rw [g_impl_withoutKey]
  have hi0 : (fun key1 list0 xt10 xt11 xout5 => ∃ j, iter (evF TT cs_impl_withoutKey 24 an_impl_withoutKey Try.f60 [1, 1, 0, 1, 0, 0]) nm0_impl_withoutKey (kt0_impl_withoutKey (fin_impl_withoutKey list0 key1 kk)) j (can0_impl_withoutKey key1 list0 xt10 xt11 xout5)) = (fun key1 list0 xt10 xt11 xout5 => ∃ j, L0_impl_withoutKey key1 list0 xt10 (fun r0 => kk (.one (.c (.ro .int r0))) []) j xt11 xout5) := by
    funext key1 list0 xt10 xt11 xout5
    refine congrArg Exists (funext fun j => ?_)
    rw [l0_impl_withoutKey list0 key1 xt10 kk j xt11 xout5]
  rw [hi0]
  rfl
theorem clok_impl_withoutKey : ConOK Try.prog cl_impl_withoutKey := consNil
theorem cok_impl_withoutKey : ConsOK Try.prog 24 cs_impl_withoutKey := ⟨clok_impl_withoutKey, inlNil, ovNil⟩
theorem i_impl_withoutKey {vs : List A1} {kk : AV → List A1 → Prop} {motive : List A1 → Prop} (h : con_impl_withoutKey.F vs kk) (H : ∀ (list0 : List Int) (key1 : Int), F_impl_withoutKey list0 key1 (fun r0 => kk (.one (.c (.ro .int r0))) []) → motive [.c (.ro .int list0), .c (.v (.int .i64 key1))]) : motive vs := by
  unfold con_impl_withoutKey at h
  dsimp only at h
  split at h
  · exact H _ _ h
  · exact h.elim
theorem h_impl_withoutKey : Holds Try.prog 60 con_impl_withoutKey := by
  refine holds_of_ev (rt := [.c (.sl .int)]) (T := TT) (Γ := cs_impl_withoutKey) (an := an_impl_withoutKey) (N := 24) (c := Try.f60.body.getD .skip) Try.func60 (by kernel_rfl) Try.ntmps60 (by decide) (by decide) mixed tabOK cok_impl_withoutKey (by kernel_rfl) ?_
  intro vs kk _ hF
  exact i_impl_withoutKey (motive := fun vs => Goes (ev TT cs_impl_withoutKey 24 an_impl_withoutKey (Try.f60.body.getD .skip) (st0 con_impl_withoutKey vs) (fin TT con_impl_withoutKey Try.f60.results.toList [.c (.sl .int)] vs kk))) hF (fun list0 key1 hF => goes_of (e_impl_withoutKey list0 key1 kk) (F_impl_withoutKey_S hF))
def con_impl_UseRecent : Con := ⟨[.rd, .rd, .rd], true, [.c (.sl .int), .c (.sc), .c (.sc)], fun vs k => match vs with
    | [.c (.ro .int list0), .c (.v (.int .i64 room1)), .c (.v (.int .i64 key2))] => F_impl_UseRecent list0 room1 key2 (fun r0 r1 => k (.tup [.c (.ro .int r0), .c (.v (.bool r1))]) [])
    | _ => False, false⟩
def cl_impl_UseRecent : List (FuncId × Con) := [(56, con_impl_validKey), (57, con_slices_Contains_sint_int), (59, con_impl_putFirst), (60, con_impl_withoutKey), (69, con_impl_ValidKeys)]
def an_impl_UseRecent : Ann := ⟨[(4, .take 0 (.take 1 (.take 2 (.take 3 (.take 4 (.take 5 (.take 6 (.take 7 (.alt 8 (.take 9 (.take 10 (.done))) (.none))))))))), [])], [], [], []⟩
def cs_impl_UseRecent : Cons := ⟨cl_impl_UseRecent, [], 0, [], [], []⟩
def fin_impl_UseRecent (list0 : List Int) (room1 : Int) (key2 : Int) (kk : AV → List A1 → Prop) : Kt := fin TT con_impl_UseRecent Try.f48.results.toList [.c (.sl .int), .c .sc] [.c (.ro .int list0), .c (.v (.int .i64 room1)), .c (.v (.int .i64 key2))] kk
theorem g_impl_UseRecent (list0 : List Int) (room1 : Int) (key2 : Int) (kk : AV → List A1 → Prop) :
    ev TT cs_impl_UseRecent 32 an_impl_UseRecent (Try.f48.body.getD .skip) (st0 con_impl_UseRecent [.c (.ro .int list0), .c (.v (.int .i64 room1)), .c (.v (.int .i64 key2))]) (fin TT con_impl_UseRecent Try.f48.results.toList [.c (.sl .int), .c .sc] [.c (.ro .int list0), .c (.v (.int .i64 room1)), .c (.v (.int .i64 key2))] kk) = G_impl_UseRecent list0 room1 key2 (fun r0 r1 => kk (.tup [.c (.ro .int r0), .c (.v (.bool r1))]) []) := by kernel_rfl
theorem e_impl_UseRecent (list0 : List Int) (room1 : Int) (key2 : Int) (kk : AV → List A1 → Prop) :
    ev TT cs_impl_UseRecent 32 an_impl_UseRecent (Try.f48.body.getD .skip) (st0 con_impl_UseRecent [.c (.ro .int list0), .c (.v (.int .i64 room1)), .c (.v (.int .i64 key2))]) (fin TT con_impl_UseRecent Try.f48.results.toList [.c (.sl .int), .c .sc] [.c (.ro .int list0), .c (.v (.int .i64 room1)), .c (.v (.int .i64 key2))] kk) = S_impl_UseRecent list0 room1 key2 (fun r0 r1 => kk (.tup [.c (.ro .int r0), .c (.v (.bool r1))]) []) := by
  rw [g_impl_UseRecent]
  rw [G_impl_UseRecent_eq]
  rfl
theorem clok_impl_UseRecent : ConOK Try.prog cl_impl_UseRecent := consCons h_impl_validKey ⟨Try.f56, Try.func56, by kernel_rfl, ne_of_beq (by kernel_rfl)⟩ (consCons h_slices_Contains_sint_int ⟨Try.f57, Try.func57, by kernel_rfl, ne_of_beq (by kernel_rfl)⟩ (consCons h_impl_putFirst ⟨Try.f59, Try.func59, by kernel_rfl, ne_of_beq (by kernel_rfl)⟩ (consCons h_impl_withoutKey ⟨Try.f60, Try.func60, by kernel_rfl, ne_of_beq (by kernel_rfl)⟩ (consCons h_impl_ValidKeys ⟨Try.f69, Try.func69, by kernel_rfl, ne_of_beq (by kernel_rfl)⟩ (consNil)))))
theorem cok_impl_UseRecent : ConsOK Try.prog 32 cs_impl_UseRecent := ⟨clok_impl_UseRecent, inlNil, ovNil⟩
theorem i_impl_UseRecent {vs : List A1} {kk : AV → List A1 → Prop} {motive : List A1 → Prop} (h : con_impl_UseRecent.F vs kk) (H : ∀ (list0 : List Int) (room1 : Int) (key2 : Int), F_impl_UseRecent list0 room1 key2 (fun r0 r1 => kk (.tup [.c (.ro .int r0), .c (.v (.bool r1))]) []) → motive [.c (.ro .int list0), .c (.v (.int .i64 room1)), .c (.v (.int .i64 key2))]) : motive vs := by
  unfold con_impl_UseRecent at h
  dsimp only at h
  split at h
  · exact H _ _ _ h
  · exact h.elim
theorem h_impl_UseRecent : Holds Try.prog 48 con_impl_UseRecent := by
  refine holds_of_ev (rt := [.c (.sl .int), .c .sc]) (T := TT) (Γ := cs_impl_UseRecent) (an := an_impl_UseRecent) (N := 32) (c := Try.f48.body.getD .skip) Try.func48 (by kernel_rfl) Try.ntmps48 (by decide) (by decide) mixed tabOK cok_impl_UseRecent (by kernel_rfl) ?_
  intro vs kk _ hF
  exact i_impl_UseRecent (motive := fun vs => Goes (ev TT cs_impl_UseRecent 32 an_impl_UseRecent (Try.f48.body.getD .skip) (st0 con_impl_UseRecent vs) (fin TT con_impl_UseRecent Try.f48.results.toList [.c (.sl .int), .c .sc] vs kk))) hF (fun list0 room1 key2 hF => goes_of (e_impl_UseRecent list0 room1 key2 kk) (F_impl_UseRecent_S hF))
def con_impl_runTrace_1 : Con := ⟨[.rd, .rd, .rd, .rd], true, [.c (.sl .int), .c (.sc), .c (.pe), .c (.pe)], fun vs k => match vs with
    | [.c (.ro .int list0), .c (.v (.int .i64 key1)), .c (.pe [.func (.func 43) ⟨[]⟩ ⟨[]⟩] 0), .c (.pe [.int .i64 cap1] 0)] => F_impl_runTrace_1_UseFirst list0 key1 cap1 (fun r0 r1 => k (.tup [.c (.ro .int r0), .c (.v (.bool r1))]) [])
    | [.c (.ro .int list0), .c (.v (.int .i64 key1)), .c (.pe [.func (.func 48) ⟨[]⟩ ⟨[]⟩] 0), .c (.pe [.int .i64 cap1] 0)] => F_impl_runTrace_1_UseRecent list0 key1 cap1 (fun r0 r1 => k (.tup [.c (.ro .int r0), .c (.v (.bool r1))]) [])
    | _ => False, false⟩
def con_impl_runTrace_1_UseFirst : Con := { con_impl_runTrace_1 with F := fun vs k => match vs with
    | [.c (.ro .int list0), .c (.v (.int .i64 key1)), .c (.pe [.func (.func 43) ⟨[]⟩ ⟨[]⟩] 0), .c (.pe [.int .i64 cap1] 0)] => F_impl_runTrace_1_UseFirst list0 key1 cap1 (fun r0 r1 => k (.tup [.c (.ro .int r0), .c (.v (.bool r1))]) [])
    | _ => False }
def con_impl_runTrace_1_UseRecent : Con := { con_impl_runTrace_1 with F := fun vs k => match vs with
    | [.c (.ro .int list0), .c (.v (.int .i64 key1)), .c (.pe [.func (.func 48) ⟨[]⟩ ⟨[]⟩] 0), .c (.pe [.int .i64 cap1] 0)] => F_impl_runTrace_1_UseRecent list0 key1 cap1 (fun r0 r1 => k (.tup [.c (.ro .int r0), .c (.v (.bool r1))]) [])
    | _ => False }
def cl_impl_runTrace_1_UseFirst : List (FuncId × Con) := [(43, con_impl_UseFirst)]
def an_impl_runTrace_1_UseFirst : Ann := ⟨[], [], [], []⟩
def cs_impl_runTrace_1_UseFirst : Cons := ⟨cl_impl_runTrace_1_UseFirst, [], 0, [], [], []⟩
def fin_impl_runTrace_1_UseFirst (list0 : List Int) (key1 : Int) (cap1 : Int) (kk : AV → List A1 → Prop) : Kt := fin TT con_impl_runTrace_1_UseFirst Try.f68.results.toList [.c (.sl .int), .c .sc] [.c (.ro .int list0), .c (.v (.int .i64 key1)), .c (.pe [.func (.func 43) ⟨[]⟩ ⟨[]⟩] 0), .c (.pe [.int .i64 cap1] 0)] kk
theorem g_impl_runTrace_1_UseFirst (list0 : List Int) (key1 : Int) (cap1 : Int) (kk : AV → List A1 → Prop) :
    ev TT cs_impl_runTrace_1_UseFirst 15 an_impl_runTrace_1_UseFirst (Try.f68.body.getD .skip) (st0 con_impl_runTrace_1_UseFirst [.c (.ro .int list0), .c (.v (.int .i64 key1)), .c (.pe [.func (.func 43) ⟨[]⟩ ⟨[]⟩] 0), .c (.pe [.int .i64 cap1] 0)]) (fin TT con_impl_runTrace_1_UseFirst Try.f68.results.toList [.c (.sl .int), .c .sc] [.c (.ro .int list0), .c (.v (.int .i64 key1)), .c (.pe [.func (.func 43) ⟨[]⟩ ⟨[]⟩] 0), .c (.pe [.int .i64 cap1] 0)] kk) = G_impl_runTrace_1_UseFirst list0 key1 cap1 (fun r0 r1 => kk (.tup [.c (.ro .int r0), .c (.v (.bool r1))]) []) := by kernel_rfl
theorem e_impl_runTrace_1_UseFirst (list0 : List Int) (key1 : Int) (cap1 : Int) (kk : AV → List A1 → Prop) :
    ev TT cs_impl_runTrace_1_UseFirst 15 an_impl_runTrace_1_UseFirst (Try.f68.body.getD .skip) (st0 con_impl_runTrace_1_UseFirst [.c (.ro .int list0), .c (.v (.int .i64 key1)), .c (.pe [.func (.func 43) ⟨[]⟩ ⟨[]⟩] 0), .c (.pe [.int .i64 cap1] 0)]) (fin TT con_impl_runTrace_1_UseFirst Try.f68.results.toList [.c (.sl .int), .c .sc] [.c (.ro .int list0), .c (.v (.int .i64 key1)), .c (.pe [.func (.func 43) ⟨[]⟩ ⟨[]⟩] 0), .c (.pe [.int .i64 cap1] 0)] kk) = S_impl_runTrace_1_UseFirst list0 key1 cap1 (fun r0 r1 => kk (.tup [.c (.ro .int r0), .c (.v (.bool r1))]) []) := by
  rw [g_impl_runTrace_1_UseFirst]
  rfl
theorem clok_impl_runTrace_1_UseFirst : ConOK Try.prog cl_impl_runTrace_1_UseFirst := consCons h_impl_UseFirst ⟨Try.f43, Try.func43, by kernel_rfl, ne_of_beq (by kernel_rfl)⟩ (consNil)
theorem cok_impl_runTrace_1_UseFirst : ConsOK Try.prog 15 cs_impl_runTrace_1_UseFirst := ⟨clok_impl_runTrace_1_UseFirst, inlNil, ovNil⟩
def cl_impl_runTrace_1_UseRecent : List (FuncId × Con) := [(48, con_impl_UseRecent)]
def an_impl_runTrace_1_UseRecent : Ann := ⟨[], [], [], []⟩
def cs_impl_runTrace_1_UseRecent : Cons := ⟨cl_impl_runTrace_1_UseRecent, [], 0, [], [], []⟩
def fin_impl_runTrace_1_UseRecent (list0 : List Int) (key1 : Int) (cap1 : Int) (kk : AV → List A1 → Prop) : Kt := fin TT con_impl_runTrace_1_UseRecent Try.f68.results.toList [.c (.sl .int), .c .sc] [.c (.ro .int list0), .c (.v (.int .i64 key1)), .c (.pe [.func (.func 48) ⟨[]⟩ ⟨[]⟩] 0), .c (.pe [.int .i64 cap1] 0)] kk
theorem g_impl_runTrace_1_UseRecent (list0 : List Int) (key1 : Int) (cap1 : Int) (kk : AV → List A1 → Prop) :
    ev TT cs_impl_runTrace_1_UseRecent 15 an_impl_runTrace_1_UseRecent (Try.f68.body.getD .skip) (st0 con_impl_runTrace_1_UseRecent [.c (.ro .int list0), .c (.v (.int .i64 key1)), .c (.pe [.func (.func 48) ⟨[]⟩ ⟨[]⟩] 0), .c (.pe [.int .i64 cap1] 0)]) (fin TT con_impl_runTrace_1_UseRecent Try.f68.results.toList [.c (.sl .int), .c .sc] [.c (.ro .int list0), .c (.v (.int .i64 key1)), .c (.pe [.func (.func 48) ⟨[]⟩ ⟨[]⟩] 0), .c (.pe [.int .i64 cap1] 0)] kk) = G_impl_runTrace_1_UseRecent list0 key1 cap1 (fun r0 r1 => kk (.tup [.c (.ro .int r0), .c (.v (.bool r1))]) []) := by kernel_rfl
theorem e_impl_runTrace_1_UseRecent (list0 : List Int) (key1 : Int) (cap1 : Int) (kk : AV → List A1 → Prop) :
    ev TT cs_impl_runTrace_1_UseRecent 15 an_impl_runTrace_1_UseRecent (Try.f68.body.getD .skip) (st0 con_impl_runTrace_1_UseRecent [.c (.ro .int list0), .c (.v (.int .i64 key1)), .c (.pe [.func (.func 48) ⟨[]⟩ ⟨[]⟩] 0), .c (.pe [.int .i64 cap1] 0)]) (fin TT con_impl_runTrace_1_UseRecent Try.f68.results.toList [.c (.sl .int), .c .sc] [.c (.ro .int list0), .c (.v (.int .i64 key1)), .c (.pe [.func (.func 48) ⟨[]⟩ ⟨[]⟩] 0), .c (.pe [.int .i64 cap1] 0)] kk) = S_impl_runTrace_1_UseRecent list0 key1 cap1 (fun r0 r1 => kk (.tup [.c (.ro .int r0), .c (.v (.bool r1))]) []) := by
  rw [g_impl_runTrace_1_UseRecent]
  rfl
theorem clok_impl_runTrace_1_UseRecent : ConOK Try.prog cl_impl_runTrace_1_UseRecent := consCons h_impl_UseRecent ⟨Try.f48, Try.func48, by kernel_rfl, ne_of_beq (by kernel_rfl)⟩ (consNil)
theorem cok_impl_runTrace_1_UseRecent : ConsOK Try.prog 15 cs_impl_runTrace_1_UseRecent := ⟨clok_impl_runTrace_1_UseRecent, inlNil, ovNil⟩
theorem i_impl_runTrace_1_UseFirst {vs : List A1} {kk : AV → List A1 → Prop} {motive : List A1 → Prop} (h : con_impl_runTrace_1_UseFirst.F vs kk) (H : ∀ (list0 : List Int) (key1 : Int) (cap1 : Int), F_impl_runTrace_1_UseFirst list0 key1 cap1 (fun r0 r1 => kk (.tup [.c (.ro .int r0), .c (.v (.bool r1))]) []) → motive [.c (.ro .int list0), .c (.v (.int .i64 key1)), .c (.pe [.func (.func 43) ⟨[]⟩ ⟨[]⟩] 0), .c (.pe [.int .i64 cap1] 0)]) : motive vs := by
  unfold con_impl_runTrace_1_UseFirst at h
  dsimp only at h
  split at h
  · exact H _ _ _ h
  · exact h.elim
theorem h_impl_runTrace_1_UseFirst : Holds Try.prog 68 con_impl_runTrace_1_UseFirst := by
  refine holds_of_ev (rt := [.c (.sl .int), .c .sc]) (T := TT) (Γ := cs_impl_runTrace_1_UseFirst) (an := an_impl_runTrace_1_UseFirst) (N := 15) (c := Try.f68.body.getD .skip) Try.func68 (by kernel_rfl) Try.ntmps68 (by decide) (by decide) mixed tabOK cok_impl_runTrace_1_UseFirst (by kernel_rfl) ?_
  intro vs kk _ hF
  exact i_impl_runTrace_1_UseFirst (motive := fun vs => Goes (ev TT cs_impl_runTrace_1_UseFirst 15 an_impl_runTrace_1_UseFirst (Try.f68.body.getD .skip) (st0 con_impl_runTrace_1_UseFirst vs) (fin TT con_impl_runTrace_1_UseFirst Try.f68.results.toList [.c (.sl .int), .c .sc] vs kk))) hF (fun list0 key1 cap1 hF => goes_of (e_impl_runTrace_1_UseFirst list0 key1 cap1 kk) (F_impl_runTrace_1_UseFirst_S hF))
theorem i_impl_runTrace_1_UseRecent {vs : List A1} {kk : AV → List A1 → Prop} {motive : List A1 → Prop} (h : con_impl_runTrace_1_UseRecent.F vs kk) (H : ∀ (list0 : List Int) (key1 : Int) (cap1 : Int), F_impl_runTrace_1_UseRecent list0 key1 cap1 (fun r0 r1 => kk (.tup [.c (.ro .int r0), .c (.v (.bool r1))]) []) → motive [.c (.ro .int list0), .c (.v (.int .i64 key1)), .c (.pe [.func (.func 48) ⟨[]⟩ ⟨[]⟩] 0), .c (.pe [.int .i64 cap1] 0)]) : motive vs := by
  unfold con_impl_runTrace_1_UseRecent at h
  dsimp only at h
  split at h
  · exact H _ _ _ h
  · exact h.elim
theorem h_impl_runTrace_1_UseRecent : Holds Try.prog 68 con_impl_runTrace_1_UseRecent := by
  refine holds_of_ev (rt := [.c (.sl .int), .c .sc]) (T := TT) (Γ := cs_impl_runTrace_1_UseRecent) (an := an_impl_runTrace_1_UseRecent) (N := 15) (c := Try.f68.body.getD .skip) Try.func68 (by kernel_rfl) Try.ntmps68 (by decide) (by decide) mixed tabOK cok_impl_runTrace_1_UseRecent (by kernel_rfl) ?_
  intro vs kk _ hF
  exact i_impl_runTrace_1_UseRecent (motive := fun vs => Goes (ev TT cs_impl_runTrace_1_UseRecent 15 an_impl_runTrace_1_UseRecent (Try.f68.body.getD .skip) (st0 con_impl_runTrace_1_UseRecent vs) (fin TT con_impl_runTrace_1_UseRecent Try.f68.results.toList [.c (.sl .int), .c .sc] vs kk))) hF (fun list0 key1 cap1 hF => goes_of (e_impl_runTrace_1_UseRecent list0 key1 cap1 kk) (F_impl_runTrace_1_UseRecent_S hF))
theorem h_impl_runTrace_1 : Holds Try.prog 68 con_impl_runTrace_1 := by
  refine holds_of_any fun vs kk h => ?_
  unfold con_impl_runTrace_1 at h
  dsimp only at h
  split at h
  · exact ⟨con_impl_runTrace_1_UseFirst.F, h_impl_runTrace_1_UseFirst, h⟩
  · exact ⟨con_impl_runTrace_1_UseRecent.F, h_impl_runTrace_1_UseRecent, h⟩
  · exact h.elim
def con_impl_useAll_sint : Con := ⟨[.rd, .mv, .rd], true, [.c (.sl .int), .c (.sl .int), .c (.fn)], fun vs k => match vs with
    | [.c (.ro .int t0), .c (.ro .int cache1), .c (.cl 68 [.k (.func (.func 43) ⟨[]⟩ ⟨[]⟩), .k (.int .i64 use2c1)])] => F_impl_useAll_sint_runTrace_1_UseFirst t0 cache1 use2c1 (fun r0 r1 => k (.tup [.c (.ro .int r0), .c (.v (.int .i64 r1))]) [])
    | [.c (.ro .int t0), .c (.ro .int cache1), .c (.cl 68 [.k (.func (.func 48) ⟨[]⟩ ⟨[]⟩), .k (.int .i64 use2c1)])] => F_impl_useAll_sint_runTrace_1_UseRecent t0 cache1 use2c1 (fun r0 r1 => k (.tup [.c (.ro .int r0), .c (.v (.int .i64 r1))]) [])
    | _ => False, false⟩
def con_impl_useAll_sint_runTrace_1_UseFirst : Con := { con_impl_useAll_sint with F := fun vs k => match vs with
    | [.c (.ro .int t0), .c (.ro .int cache1), .c (.cl 68 [.k (.func (.func 43) ⟨[]⟩ ⟨[]⟩), .k (.int .i64 use2c1)])] => F_impl_useAll_sint_runTrace_1_UseFirst t0 cache1 use2c1 (fun r0 r1 => k (.tup [.c (.ro .int r0), .c (.v (.int .i64 r1))]) [])
    | _ => False }
def con_impl_useAll_sint_runTrace_1_UseRecent : Con := { con_impl_useAll_sint with F := fun vs k => match vs with
    | [.c (.ro .int t0), .c (.ro .int cache1), .c (.cl 68 [.k (.func (.func 48) ⟨[]⟩ ⟨[]⟩), .k (.int .i64 use2c1)])] => F_impl_useAll_sint_runTrace_1_UseRecent t0 cache1 use2c1 (fun r0 r1 => k (.tup [.c (.ro .int r0), .c (.v (.int .i64 r1))]) [])
    | _ => False }
def cl_impl_useAll_sint_runTrace_1_UseFirst : List (FuncId × Con) := [(68, con_impl_runTrace_1)]
def nm0_impl_useAll_sint_runTrace_1_UseFirst : List NStep := [.own 1 .int 90000, .keep [1, 2, 8, 13, 14, 15] [90000]]
def an_impl_useAll_sint_runTrace_1_UseFirst : Ann := ⟨[], [(3, nm0_impl_useAll_sint_runTrace_1_UseFirst)], [], []⟩
def cs_impl_useAll_sint_runTrace_1_UseFirst : Cons := ⟨cl_impl_useAll_sint_runTrace_1_UseFirst, [], 0, [], [], []⟩
def can0_impl_useAll_sint_runTrace_1_UseFirst (t0 : List Int) (use2c1 : Int) (xt14 : Int) (xhits8 : Int) (xt15 : Int) (xcache1 : List Int) : St := ⟨[(1, .one (.c (.ow 90000))), (2, .one (.c (.cl 68 [.k (.func (.func 43) ⟨[]⟩ ⟨[]⟩), .k (.int .i64 use2c1)]))), (8, .one (.c (.v (.int .i64 xhits8)))), (13, .one (.c (.ro .int t0))), (14, .one (.c (.v (.int .i64 xt14)))), (15, .one (.c (.v (.int .i64 xt15))))], [(90000, .row .int xcache1)]⟩
def fin_impl_useAll_sint_runTrace_1_UseFirst (t0 : List Int) (cache1 : List Int) (use2c1 : Int) (kk : AV → List A1 → Prop) : Kt := fin TT con_impl_useAll_sint_runTrace_1_UseFirst Try.f67.results.toList [.c (.sl .int), .c .sc] [.c (.ro .int t0), .c (.ro .int cache1), .c (.cl 68 [.k (.func (.func 43) ⟨[]⟩ ⟨[]⟩), .k (.int .i64 use2c1)])] kk
def kt0_impl_useAll_sint_runTrace_1_UseFirst (kf : Kt) : Kt := blockK 0 (seqK (evF TT cs_impl_useAll_sint_runTrace_1_UseFirst 33 an_impl_useAll_sint_runTrace_1_UseFirst Try.f67 [1, 1, 1]) (kf))
theorem r0_impl_useAll_sint_runTrace_1_UseFirst (t0 : List Int) (cache1 : List Int) (use2c1 : Int) (xt14 : Int) (kk : AV → List A1 → Prop) (n : Nat) (xhits8 : Int) (xt15 : Int) (xcache1 : List Int) :
    iter (evF TT cs_impl_useAll_sint_runTrace_1_UseFirst 33 an_impl_useAll_sint_runTrace_1_UseFirst Try.f67 [1, 1, 0, 1, 0, 0]) nm0_impl_useAll_sint_runTrace_1_UseFirst (kt0_impl_useAll_sint_runTrace_1_UseFirst (fin_impl_useAll_sint_runTrace_1_UseFirst t0 cache1 use2c1 kk)) (n + 1) (can0_impl_useAll_sint_runTrace_1_UseFirst t0 use2c1 xt14 xhits8 xt15 xcache1) = T0_impl_useAll_sint_runTrace_1_UseFirst t0 use2c1 xt14 xhits8 xt15 xcache1 (fun r0 r1 => kk (.tup [.c (.ro .int r0), .c (.v (.int .i64 r1))]) []) (fun xhits8 xt15 xcache1 => iter (evF TT cs_impl_useAll_sint_runTrace_1_UseFirst 33 an_impl_useAll_sint_runTrace_1_UseFirst Try.f67 [1, 1, 0, 1, 0, 0]) nm0_impl_useAll_sint_runTrace_1_UseFirst (kt0_impl_useAll_sint_runTrace_1_UseFirst (fin_impl_useAll_sint_runTrace_1_UseFirst t0 cache1 use2c1 kk)) n (can0_impl_useAll_sint_runTrace_1_UseFirst t0 use2c1 xt14 xhits8 xt15 xcache1)) := by kernel_rfl
theorem l0_impl_useAll_sint_runTrace_1_UseFirst (t0 : List Int) (cache1 : List Int) (use2c1 : Int) (xt14 : Int) (kk : AV → List A1 → Prop) : ∀ (n : Nat) (xhits8 : Int) (xt15 : Int) (xcache1 : List Int), iter (evF TT cs_impl_useAll_sint_runTrace_1_UseFirst 33 an_impl_useAll_sint_runTrace_1_UseFirst Try.f67 [1, 1, 0, 1, 0, 0]) nm0_impl_useAll_sint_runTrace_1_UseFirst (kt0_impl_useAll_sint_runTrace_1_UseFirst (fin_impl_useAll_sint_runTrace_1_UseFirst t0 cache1 use2c1 kk)) n (can0_impl_useAll_sint_runTrace_1_UseFirst t0 use2c1 xt14 xhits8 xt15 xcache1) = L0_impl_useAll_sint_runTrace_1_UseFirst t0 use2c1 xt14 (fun r0 r1 => kk (.tup [.c (.ro .int r0), .c (.v (.int .i64 r1))]) []) n xhits8 xt15 xcache1 := by
  intro n
  induction n with
  | zero => intros; rfl
  | succ n ih =>
    intro xhits8 xt15 xcache1
    rw [r0_impl_useAll_sint_runTrace_1_UseFirst t0 cache1 use2c1 xt14 kk n xhits8 xt15 xcache1]
    have hb : (fun xhits8 xt15 xcache1 => iter (evF TT cs_impl_useAll_sint_runTrace_1_UseFirst 33 an_impl_useAll_sint_runTrace_1_UseFirst Try.f67 [1, 1, 0, 1, 0, 0]) nm0_impl_useAll_sint_runTrace_1_UseFirst (kt0_impl_useAll_sint_runTrace_1_UseFirst (fin_impl_useAll_sint_runTrace_1_UseFirst t0 cache1 use2c1 kk)) n (can0_impl_useAll_sint_runTrace_1_UseFirst t0 use2c1 xt14 xhits8 xt15 xcache1)) = L0_impl_useAll_sint_runTrace_1_UseFirst t0 use2c1 xt14 (fun r0 r1 => kk (.tup [.c (.ro .int r0), .c (.v (.int .i64 r1))]) []) n := by
      funext xhits8 xt15 xcache1; exact ih xhits8 xt15 xcache1
    rw [hb]
    rfl
theorem g_impl_useAll_sint_runTrace_1_UseFirst (t0 : List Int) (cache1 : List Int) (use2c1 : Int) (kk : AV → List A1 → Prop) :
    ev TT cs_impl_useAll_sint_runTrace_1_UseFirst 33 an_impl_useAll_sint_runTrace_1_UseFirst (Try.f67.body.getD .skip) (st0 con_impl_useAll_sint_runTrace_1_UseFirst [.c (.ro .int t0), .c (.ro .int cache1), .c (.cl 68 [.k (.func (.func 43) ⟨[]⟩ ⟨[]⟩), .k (.int .i64 use2c1)])]) (fin TT con_impl_useAll_sint_runTrace_1_UseFirst Try.f67.results.toList [.c (.sl .int), .c .sc] [.c (.ro .int t0), .c (.ro .int cache1), .c (.cl 68 [.k (.func (.func 43) ⟨[]⟩ ⟨[]⟩), .k (.int .i64 use2c1)])] kk) = G_impl_useAll_sint_runTrace_1_UseFirst t0 cache1 use2c1 (fun t0 use2c1 xt14 xhits8 xt15 xcache1 => ∃ j, iter (evF TT cs_impl_useAll_sint_runTrace_1_UseFirst 33 an_impl_useAll_sint_runTrace_1_UseFirst Try.f67 [1, 1, 0, 1, 0, 0]) nm0_impl_useAll_sint_runTrace_1_UseFirst (kt0_impl_useAll_sint_runTrace_1_UseFirst (fin_impl_useAll_sint_runTrace_1_UseFirst t0 cache1 use2c1 kk)) j (can0_impl_useAll_sint_runTrace_1_UseFirst t0 use2c1 xt14 xhits8 xt15 xcache1)) := by kernel_rfl
theorem e_impl_useAll_sint_runTrace_1_UseFirst (t0 : List Int) (cache1 : List Int) (use2c1 : Int) (kk : AV → List A1 → Prop) :
    ev TT cs_impl_useAll_sint_runTrace_1_UseFirst 33 an_impl_useAll_sint_runTrace_1_UseFirst (Try.f67.body.getD .skip) (st0 con_impl_useAll_sint_runTrace_1_UseFirst [.c (.ro .int t0), .c (.ro .int cache1), .c (.cl 68 [.k (.func (.func 43) ⟨[]⟩ ⟨[]⟩), .k (.int .i64 use2c1)])]) (fin TT con_impl_useAll_sint_runTrace_1_UseFirst Try.f67.results.toList [.c (.sl .int), .c .sc] [.c (.ro .int t0), .c (.ro .int cache1), .c (.cl 68 [.k (.func (.func 43) ⟨[]⟩ ⟨[]⟩), .k (.int .i64 use2c1)])] kk) = S_impl_useAll_sint_runTrace_1_UseFirst t0 cache1 use2c1 (fun r0 r1 => kk (.tup [.c (.ro .int r0), .c (.v (.int .i64 r1))]) []) := by
  rw [g_impl_useAll_sint_runTrace_1_UseFirst]
  have hi0 : (fun t0 use2c1 xt14 xhits8 xt15 xcache1 => ∃ j, iter (evF TT cs_impl_useAll_sint_runTrace_1_UseFirst 33 an_impl_useAll_sint_runTrace_1_UseFirst Try.f67 [1, 1, 0, 1, 0, 0]) nm0_impl_useAll_sint_runTrace_1_UseFirst (kt0_impl_useAll_sint_runTrace_1_UseFirst (fin_impl_useAll_sint_runTrace_1_UseFirst t0 cache1 use2c1 kk)) j (can0_impl_useAll_sint_runTrace_1_UseFirst t0 use2c1 xt14 xhits8 xt15 xcache1)) = (fun t0 use2c1 xt14 xhits8 xt15 xcache1 => ∃ j, L0_impl_useAll_sint_runTrace_1_UseFirst t0 use2c1 xt14 (fun r0 r1 => kk (.tup [.c (.ro .int r0), .c (.v (.int .i64 r1))]) []) j xhits8 xt15 xcache1) := by
    funext t0 use2c1 xt14 xhits8 xt15 xcache1
    refine congrArg Exists (funext fun j => ?_)
    rw [l0_impl_useAll_sint_runTrace_1_UseFirst t0 cache1 use2c1 xt14 kk j xhits8 xt15 xcache1]
  rw [hi0]
  rfl
theorem clok_impl_useAll_sint_runTrace_1_UseFirst : ConOK Try.prog cl_impl_useAll_sint_runTrace_1_UseFirst := consCons h_impl_runTrace_1 ⟨Try.f68, Try.func68, by kernel_rfl, ne_of_beq (by kernel_rfl)⟩ (consNil)
theorem cok_impl_useAll_sint_runTrace_1_UseFirst : ConsOK Try.prog 33 cs_impl_useAll_sint_runTrace_1_UseFirst := ⟨clok_impl_useAll_sint_runTrace_1_UseFirst, inlNil, ovNil⟩
def cl_impl_useAll_sint_runTrace_1_UseRecent : List (FuncId × Con) := [(68, con_impl_runTrace_1)]
def nm0_impl_useAll_sint_runTrace_1_UseRecent : List NStep := [.own 1 .int 90000, .keep [1, 2, 8, 13, 14, 15] [90000]]
def an_impl_useAll_sint_runTrace_1_UseRecent : Ann := ⟨[], [(3, nm0_impl_useAll_sint_runTrace_1_UseRecent)], [], []⟩
def cs_impl_useAll_sint_runTrace_1_UseRecent : Cons := ⟨cl_impl_useAll_sint_runTrace_1_UseRecent, [], 0, [], [], []⟩
def can0_impl_useAll_sint_runTrace_1_UseRecent (t0 : List Int) (use2c1 : Int) (xt14 : Int) (xhits8 : Int) (xt15 : Int) (xcache1 : List Int) : St := ⟨[(1, .one (.c (.ow 90000))), (2, .one (.c (.cl 68 [.k (.func (.func 48) ⟨[]⟩ ⟨[]⟩), .k (.int .i64 use2c1)]))), (8, .one (.c (.v (.int .i64 xhits8)))), (13, .one (.c (.ro .int t0))), (14, .one (.c (.v (.int .i64 xt14)))), (15, .one (.c (.v (.int .i64 xt15))))], [(90000, .row .int xcache1)]⟩
def fin_impl_useAll_sint_runTrace_1_UseRecent (t0 : List Int) (cache1 : List Int) (use2c1 : Int) (kk : AV → List A1 → Prop) : Kt := fin TT con_impl_useAll_sint_runTrace_1_UseRecent Try.f67.results.toList [.c (.sl .int), .c .sc] [.c (.ro .int t0), .c (.ro .int cache1), .c (.cl 68 [.k (.func (.func 48) ⟨[]⟩ ⟨[]⟩), .k (.int .i64 use2c1)])] kk
def kt0_impl_useAll_sint_runTrace_1_UseRecent (kf : Kt) : Kt := blockK 0 (seqK (evF TT cs_impl_useAll_sint_runTrace_1_UseRecent 33 an_impl_useAll_sint_runTrace_1_UseRecent Try.f67 [1, 1, 1]) (kf))
theorem r0_impl_useAll_sint_runTrace_1_UseRecent (t0 : List Int) (cache1 : List Int) (use2c1 : Int) (xt14 : Int) (kk : AV → List A1 → Prop) (n : Nat) (xhits8 : Int) (xt15 : Int) (xcache1 : List Int) :
    iter (evF TT cs_impl_useAll_sint_runTrace_1_UseRecent 33 an_impl_useAll_sint_runTrace_1_UseRecent Try.f67 [1, 1, 0, 1, 0, 0]) nm0_impl_useAll_sint_runTrace_1_UseRecent (kt0_impl_useAll_sint_runTrace_1_UseRecent (fin_impl_useAll_sint_runTrace_1_UseRecent t0 cache1 use2c1 kk)) (n + 1) (can0_impl_useAll_sint_runTrace_1_UseRecent t0 use2c1 xt14 xhits8 xt15 xcache1) = T0_impl_useAll_sint_runTrace_1_UseRecent t0 use2c1 xt14 xhits8 xt15 xcache1 (fun r0 r1 => kk (.tup [.c (.ro .int r0), .c (.v (.int .i64 r1))]) []) (fun xhits8 xt15 xcache1 => iter (evF TT cs_impl_useAll_sint_runTrace_1_UseRecent 33 an_impl_useAll_sint_runTrace_1_UseRecent Try.f67 [1, 1, 0, 1, 0, 0]) nm0_impl_useAll_sint_runTrace_1_UseRecent (kt0_impl_useAll_sint_runTrace_1_UseRecent (fin_impl_useAll_sint_runTrace_1_UseRecent t0 cache1 use2c1 kk)) n (can0_impl_useAll_sint_runTrace_1_UseRecent t0 use2c1 xt14 xhits8 xt15 xcache1)) := by kernel_rfl
theorem l0_impl_useAll_sint_runTrace_1_UseRecent (t0 : List Int) (cache1 : List Int) (use2c1 : Int) (xt14 : Int) (kk : AV → List A1 → Prop) : ∀ (n : Nat) (xhits8 : Int) (xt15 : Int) (xcache1 : List Int), iter (evF TT cs_impl_useAll_sint_runTrace_1_UseRecent 33 an_impl_useAll_sint_runTrace_1_UseRecent Try.f67 [1, 1, 0, 1, 0, 0]) nm0_impl_useAll_sint_runTrace_1_UseRecent (kt0_impl_useAll_sint_runTrace_1_UseRecent (fin_impl_useAll_sint_runTrace_1_UseRecent t0 cache1 use2c1 kk)) n (can0_impl_useAll_sint_runTrace_1_UseRecent t0 use2c1 xt14 xhits8 xt15 xcache1) = L0_impl_useAll_sint_runTrace_1_UseRecent t0 use2c1 xt14 (fun r0 r1 => kk (.tup [.c (.ro .int r0), .c (.v (.int .i64 r1))]) []) n xhits8 xt15 xcache1 := by
  intro n
  induction n with
  | zero => intros; rfl
  | succ n ih =>
    intro xhits8 xt15 xcache1
    rw [r0_impl_useAll_sint_runTrace_1_UseRecent t0 cache1 use2c1 xt14 kk n xhits8 xt15 xcache1]
    have hb : (fun xhits8 xt15 xcache1 => iter (evF TT cs_impl_useAll_sint_runTrace_1_UseRecent 33 an_impl_useAll_sint_runTrace_1_UseRecent Try.f67 [1, 1, 0, 1, 0, 0]) nm0_impl_useAll_sint_runTrace_1_UseRecent (kt0_impl_useAll_sint_runTrace_1_UseRecent (fin_impl_useAll_sint_runTrace_1_UseRecent t0 cache1 use2c1 kk)) n (can0_impl_useAll_sint_runTrace_1_UseRecent t0 use2c1 xt14 xhits8 xt15 xcache1)) = L0_impl_useAll_sint_runTrace_1_UseRecent t0 use2c1 xt14 (fun r0 r1 => kk (.tup [.c (.ro .int r0), .c (.v (.int .i64 r1))]) []) n := by
      funext xhits8 xt15 xcache1; exact ih xhits8 xt15 xcache1
    rw [hb]
    rfl
theorem g_impl_useAll_sint_runTrace_1_UseRecent (t0 : List Int) (cache1 : List Int) (use2c1 : Int) (kk : AV → List A1 → Prop) :
    ev TT cs_impl_useAll_sint_runTrace_1_UseRecent 33 an_impl_useAll_sint_runTrace_1_UseRecent (Try.f67.body.getD .skip) (st0 con_impl_useAll_sint_runTrace_1_UseRecent [.c (.ro .int t0), .c (.ro .int cache1), .c (.cl 68 [.k (.func (.func 48) ⟨[]⟩ ⟨[]⟩), .k (.int .i64 use2c1)])]) (fin TT con_impl_useAll_sint_runTrace_1_UseRecent Try.f67.results.toList [.c (.sl .int), .c .sc] [.c (.ro .int t0), .c (.ro .int cache1), .c (.cl 68 [.k (.func (.func 48) ⟨[]⟩ ⟨[]⟩), .k (.int .i64 use2c1)])] kk) = G_impl_useAll_sint_runTrace_1_UseRecent t0 cache1 use2c1 (fun t0 use2c1 xt14 xhits8 xt15 xcache1 => ∃ j, iter (evF TT cs_impl_useAll_sint_runTrace_1_UseRecent 33 an_impl_useAll_sint_runTrace_1_UseRecent Try.f67 [1, 1, 0, 1, 0, 0]) nm0_impl_useAll_sint_runTrace_1_UseRecent (kt0_impl_useAll_sint_runTrace_1_UseRecent (fin_impl_useAll_sint_runTrace_1_UseRecent t0 cache1 use2c1 kk)) j (can0_impl_useAll_sint_runTrace_1_UseRecent t0 use2c1 xt14 xhits8 xt15 xcache1)) := by kernel_rfl
theorem e_impl_useAll_sint_runTrace_1_UseRecent (t0 : List Int) (cache1 : List Int) (use2c1 : Int) (kk : AV → List A1 → Prop) :
    ev TT cs_impl_useAll_sint_runTrace_1_UseRecent 33 an_impl_useAll_sint_runTrace_1_UseRecent (Try.f67.body.getD .skip) (st0 con_impl_useAll_sint_runTrace_1_UseRecent [.c (.ro .int t0), .c (.ro .int cache1), .c (.cl 68 [.k (.func (.func 48) ⟨[]⟩ ⟨[]⟩), .k (.int .i64 use2c1)])]) (fin TT con_impl_useAll_sint_runTrace_1_UseRecent Try.f67.results.toList [.c (.sl .int), .c .sc] [.c (.ro .int t0), .c (.ro .int cache1), .c (.cl 68 [.k (.func (.func 48) ⟨[]⟩ ⟨[]⟩), .k (.int .i64 use2c1)])] kk) = S_impl_useAll_sint_runTrace_1_UseRecent t0 cache1 use2c1 (fun r0 r1 => kk (.tup [.c (.ro .int r0), .c (.v (.int .i64 r1))]) []) := by
  rw [g_impl_useAll_sint_runTrace_1_UseRecent]
  have hi0 : (fun t0 use2c1 xt14 xhits8 xt15 xcache1 => ∃ j, iter (evF TT cs_impl_useAll_sint_runTrace_1_UseRecent 33 an_impl_useAll_sint_runTrace_1_UseRecent Try.f67 [1, 1, 0, 1, 0, 0]) nm0_impl_useAll_sint_runTrace_1_UseRecent (kt0_impl_useAll_sint_runTrace_1_UseRecent (fin_impl_useAll_sint_runTrace_1_UseRecent t0 cache1 use2c1 kk)) j (can0_impl_useAll_sint_runTrace_1_UseRecent t0 use2c1 xt14 xhits8 xt15 xcache1)) = (fun t0 use2c1 xt14 xhits8 xt15 xcache1 => ∃ j, L0_impl_useAll_sint_runTrace_1_UseRecent t0 use2c1 xt14 (fun r0 r1 => kk (.tup [.c (.ro .int r0), .c (.v (.int .i64 r1))]) []) j xhits8 xt15 xcache1) := by
    funext t0 use2c1 xt14 xhits8 xt15 xcache1
    refine congrArg Exists (funext fun j => ?_)
    rw [l0_impl_useAll_sint_runTrace_1_UseRecent t0 cache1 use2c1 xt14 kk j xhits8 xt15 xcache1]
  rw [hi0]
  rfl
theorem clok_impl_useAll_sint_runTrace_1_UseRecent : ConOK Try.prog cl_impl_useAll_sint_runTrace_1_UseRecent := consCons h_impl_runTrace_1 ⟨Try.f68, Try.func68, by kernel_rfl, ne_of_beq (by kernel_rfl)⟩ (consNil)
theorem cok_impl_useAll_sint_runTrace_1_UseRecent : ConsOK Try.prog 33 cs_impl_useAll_sint_runTrace_1_UseRecent := ⟨clok_impl_useAll_sint_runTrace_1_UseRecent, inlNil, ovNil⟩
theorem i_impl_useAll_sint_runTrace_1_UseFirst {vs : List A1} {kk : AV → List A1 → Prop} {motive : List A1 → Prop} (h : con_impl_useAll_sint_runTrace_1_UseFirst.F vs kk) (H : ∀ (t0 : List Int) (cache1 : List Int) (use2c1 : Int), F_impl_useAll_sint_runTrace_1_UseFirst t0 cache1 use2c1 (fun r0 r1 => kk (.tup [.c (.ro .int r0), .c (.v (.int .i64 r1))]) []) → motive [.c (.ro .int t0), .c (.ro .int cache1), .c (.cl 68 [.k (.func (.func 43) ⟨[]⟩ ⟨[]⟩), .k (.int .i64 use2c1)])]) : motive vs := by
  unfold con_impl_useAll_sint_runTrace_1_UseFirst at h
  dsimp only at h
  split at h
  · exact H _ _ _ h
  · exact h.elim
theorem h_impl_useAll_sint_runTrace_1_UseFirst : Holds Try.prog 67 con_impl_useAll_sint_runTrace_1_UseFirst := by
  refine holds_of_ev (rt := [.c (.sl .int), .c .sc]) (T := TT) (Γ := cs_impl_useAll_sint_runTrace_1_UseFirst) (an := an_impl_useAll_sint_runTrace_1_UseFirst) (N := 33) (c := Try.f67.body.getD .skip) Try.func67 (by kernel_rfl) Try.ntmps67 (by decide) (by decide) mixed tabOK cok_impl_useAll_sint_runTrace_1_UseFirst (by kernel_rfl) ?_
  intro vs kk _ hF
  exact i_impl_useAll_sint_runTrace_1_UseFirst (motive := fun vs => Goes (ev TT cs_impl_useAll_sint_runTrace_1_UseFirst 33 an_impl_useAll_sint_runTrace_1_UseFirst (Try.f67.body.getD .skip) (st0 con_impl_useAll_sint_runTrace_1_UseFirst vs) (fin TT con_impl_useAll_sint_runTrace_1_UseFirst Try.f67.results.toList [.c (.sl .int), .c .sc] vs kk))) hF (fun t0 cache1 use2c1 hF => goes_of (e_impl_useAll_sint_runTrace_1_UseFirst t0 cache1 use2c1 kk) (F_impl_useAll_sint_runTrace_1_UseFirst_S hF))
theorem i_impl_useAll_sint_runTrace_1_UseRecent {vs : List A1} {kk : AV → List A1 → Prop} {motive : List A1 → Prop} (h : con_impl_useAll_sint_runTrace_1_UseRecent.F vs kk) (H : ∀ (t0 : List Int) (cache1 : List Int) (use2c1 : Int), F_impl_useAll_sint_runTrace_1_UseRecent t0 cache1 use2c1 (fun r0 r1 => kk (.tup [.c (.ro .int r0), .c (.v (.int .i64 r1))]) []) → motive [.c (.ro .int t0), .c (.ro .int cache1), .c (.cl 68 [.k (.func (.func 48) ⟨[]⟩ ⟨[]⟩), .k (.int .i64 use2c1)])]) : motive vs := by
  unfold con_impl_useAll_sint_runTrace_1_UseRecent at h
  dsimp only at h
  split at h
  · exact H _ _ _ h
  · exact h.elim
theorem h_impl_useAll_sint_runTrace_1_UseRecent : Holds Try.prog 67 con_impl_useAll_sint_runTrace_1_UseRecent := by
  refine holds_of_ev (rt := [.c (.sl .int), .c .sc]) (T := TT) (Γ := cs_impl_useAll_sint_runTrace_1_UseRecent) (an := an_impl_useAll_sint_runTrace_1_UseRecent) (N := 33) (c := Try.f67.body.getD .skip) Try.func67 (by kernel_rfl) Try.ntmps67 (by decide) (by decide) mixed tabOK cok_impl_useAll_sint_runTrace_1_UseRecent (by kernel_rfl) ?_
  intro vs kk _ hF
  exact i_impl_useAll_sint_runTrace_1_UseRecent (motive := fun vs => Goes (ev TT cs_impl_useAll_sint_runTrace_1_UseRecent 33 an_impl_useAll_sint_runTrace_1_UseRecent (Try.f67.body.getD .skip) (st0 con_impl_useAll_sint_runTrace_1_UseRecent vs) (fin TT con_impl_useAll_sint_runTrace_1_UseRecent Try.f67.results.toList [.c (.sl .int), .c .sc] vs kk))) hF (fun t0 cache1 use2c1 hF => goes_of (e_impl_useAll_sint_runTrace_1_UseRecent t0 cache1 use2c1 kk) (F_impl_useAll_sint_runTrace_1_UseRecent_S hF))
theorem h_impl_useAll_sint : Holds Try.prog 67 con_impl_useAll_sint := by
  refine holds_of_any fun vs kk h => ?_
  unfold con_impl_useAll_sint at h
  dsimp only at h
  split at h
  · exact ⟨con_impl_useAll_sint_runTrace_1_UseFirst.F, h_impl_useAll_sint_runTrace_1_UseFirst, h⟩
  · exact ⟨con_impl_useAll_sint_runTrace_1_UseRecent.F, h_impl_useAll_sint_runTrace_1_UseRecent, h⟩
  · exact h.elim
def con_impl_runTrace : Con := ⟨[.rd, .rd, .rd], true, [.c (.sl .int), .c (.sc), .c (.fn)], fun vs k => match vs with
    | [.c (.ro .int t0), .c (.v (.int .i64 room1)), .c (.v (.func (.func 43) ⟨[]⟩ ⟨[]⟩))] => F_impl_runTrace_UseFirst t0 room1 (fun r0 r1 => k (.tup [.c (.ro .int r0), .c (.v (.int .i64 r1))]) [])
    | [.c (.ro .int t0), .c (.v (.int .i64 room1)), .c (.v (.func (.func 48) ⟨[]⟩ ⟨[]⟩))] => F_impl_runTrace_UseRecent t0 room1 (fun r0 r1 => k (.tup [.c (.ro .int r0), .c (.v (.int .i64 r1))]) [])
    | _ => False, false⟩
def con_impl_runTrace_UseFirst : Con := { con_impl_runTrace with F := fun vs k => match vs with
    | [.c (.ro .int t0), .c (.v (.int .i64 room1)), .c (.v (.func (.func 43) ⟨[]⟩ ⟨[]⟩))] => F_impl_runTrace_UseFirst t0 room1 (fun r0 r1 => k (.tup [.c (.ro .int r0), .c (.v (.int .i64 r1))]) [])
    | _ => False }
def con_impl_runTrace_UseRecent : Con := { con_impl_runTrace with F := fun vs k => match vs with
    | [.c (.ro .int t0), .c (.v (.int .i64 room1)), .c (.v (.func (.func 48) ⟨[]⟩ ⟨[]⟩))] => F_impl_runTrace_UseRecent t0 room1 (fun r0 r1 => k (.tup [.c (.ro .int r0), .c (.v (.int .i64 r1))]) [])
    | _ => False }
def cl_impl_runTrace_UseFirst : List (FuncId × Con) := [(26, con_impl_ValidTrace), (49, con_impl_validRoom), (67, con_impl_useAll_sint)]
def an_impl_runTrace_UseFirst : Ann := ⟨[], [], [], []⟩
def cs_impl_runTrace_UseFirst : Cons := ⟨cl_impl_runTrace_UseFirst, [], 0, [], [], []⟩
def fin_impl_runTrace_UseFirst (t0 : List Int) (room1 : Int) (kk : AV → List A1 → Prop) : Kt := fin TT con_impl_runTrace_UseFirst Try.f42.results.toList [.c (.sl .int), .c .sc] [.c (.ro .int t0), .c (.v (.int .i64 room1)), .c (.v (.func (.func 43) ⟨[]⟩ ⟨[]⟩))] kk
theorem g_impl_runTrace_UseFirst (t0 : List Int) (room1 : Int) (kk : AV → List A1 → Prop) :
    ev TT cs_impl_runTrace_UseFirst 22 an_impl_runTrace_UseFirst (Try.f42.body.getD .skip) (st0 con_impl_runTrace_UseFirst [.c (.ro .int t0), .c (.v (.int .i64 room1)), .c (.v (.func (.func 43) ⟨[]⟩ ⟨[]⟩))]) (fin TT con_impl_runTrace_UseFirst Try.f42.results.toList [.c (.sl .int), .c .sc] [.c (.ro .int t0), .c (.v (.int .i64 room1)), .c (.v (.func (.func 43) ⟨[]⟩ ⟨[]⟩))] kk) = G_impl_runTrace_UseFirst t0 room1 (fun r0 r1 => kk (.tup [.c (.ro .int r0), .c (.v (.int .i64 r1))]) []) := by kernel_rfl
theorem e_impl_runTrace_UseFirst (t0 : List Int) (room1 : Int) (kk : AV → List A1 → Prop) :
    ev TT cs_impl_runTrace_UseFirst 22 an_impl_runTrace_UseFirst (Try.f42.body.getD .skip) (st0 con_impl_runTrace_UseFirst [.c (.ro .int t0), .c (.v (.int .i64 room1)), .c (.v (.func (.func 43) ⟨[]⟩ ⟨[]⟩))]) (fin TT con_impl_runTrace_UseFirst Try.f42.results.toList [.c (.sl .int), .c .sc] [.c (.ro .int t0), .c (.v (.int .i64 room1)), .c (.v (.func (.func 43) ⟨[]⟩ ⟨[]⟩))] kk) = S_impl_runTrace_UseFirst t0 room1 (fun r0 r1 => kk (.tup [.c (.ro .int r0), .c (.v (.int .i64 r1))]) []) := by
  rw [g_impl_runTrace_UseFirst]
  rfl
theorem clok_impl_runTrace_UseFirst : ConOK Try.prog cl_impl_runTrace_UseFirst := consCons h_impl_ValidTrace ⟨Try.f26, Try.func26, by kernel_rfl, ne_of_beq (by kernel_rfl)⟩ (consCons h_impl_validRoom ⟨Try.f49, Try.func49, by kernel_rfl, ne_of_beq (by kernel_rfl)⟩ (consCons h_impl_useAll_sint ⟨Try.f67, Try.func67, by kernel_rfl, ne_of_beq (by kernel_rfl)⟩ (consNil)))
theorem cok_impl_runTrace_UseFirst : ConsOK Try.prog 22 cs_impl_runTrace_UseFirst := ⟨clok_impl_runTrace_UseFirst, inlNil, ovNil⟩
def cl_impl_runTrace_UseRecent : List (FuncId × Con) := [(26, con_impl_ValidTrace), (49, con_impl_validRoom), (67, con_impl_useAll_sint)]
def an_impl_runTrace_UseRecent : Ann := ⟨[], [], [], []⟩
def cs_impl_runTrace_UseRecent : Cons := ⟨cl_impl_runTrace_UseRecent, [], 0, [], [], []⟩
def fin_impl_runTrace_UseRecent (t0 : List Int) (room1 : Int) (kk : AV → List A1 → Prop) : Kt := fin TT con_impl_runTrace_UseRecent Try.f42.results.toList [.c (.sl .int), .c .sc] [.c (.ro .int t0), .c (.v (.int .i64 room1)), .c (.v (.func (.func 48) ⟨[]⟩ ⟨[]⟩))] kk
theorem g_impl_runTrace_UseRecent (t0 : List Int) (room1 : Int) (kk : AV → List A1 → Prop) :
    ev TT cs_impl_runTrace_UseRecent 22 an_impl_runTrace_UseRecent (Try.f42.body.getD .skip) (st0 con_impl_runTrace_UseRecent [.c (.ro .int t0), .c (.v (.int .i64 room1)), .c (.v (.func (.func 48) ⟨[]⟩ ⟨[]⟩))]) (fin TT con_impl_runTrace_UseRecent Try.f42.results.toList [.c (.sl .int), .c .sc] [.c (.ro .int t0), .c (.v (.int .i64 room1)), .c (.v (.func (.func 48) ⟨[]⟩ ⟨[]⟩))] kk) = G_impl_runTrace_UseRecent t0 room1 (fun r0 r1 => kk (.tup [.c (.ro .int r0), .c (.v (.int .i64 r1))]) []) := by kernel_rfl
theorem e_impl_runTrace_UseRecent (t0 : List Int) (room1 : Int) (kk : AV → List A1 → Prop) :
    ev TT cs_impl_runTrace_UseRecent 22 an_impl_runTrace_UseRecent (Try.f42.body.getD .skip) (st0 con_impl_runTrace_UseRecent [.c (.ro .int t0), .c (.v (.int .i64 room1)), .c (.v (.func (.func 48) ⟨[]⟩ ⟨[]⟩))]) (fin TT con_impl_runTrace_UseRecent Try.f42.results.toList [.c (.sl .int), .c .sc] [.c (.ro .int t0), .c (.v (.int .i64 room1)), .c (.v (.func (.func 48) ⟨[]⟩ ⟨[]⟩))] kk) = S_impl_runTrace_UseRecent t0 room1 (fun r0 r1 => kk (.tup [.c (.ro .int r0), .c (.v (.int .i64 r1))]) []) := by
  rw [g_impl_runTrace_UseRecent]
  rfl
theorem clok_impl_runTrace_UseRecent : ConOK Try.prog cl_impl_runTrace_UseRecent := consCons h_impl_ValidTrace ⟨Try.f26, Try.func26, by kernel_rfl, ne_of_beq (by kernel_rfl)⟩ (consCons h_impl_validRoom ⟨Try.f49, Try.func49, by kernel_rfl, ne_of_beq (by kernel_rfl)⟩ (consCons h_impl_useAll_sint ⟨Try.f67, Try.func67, by kernel_rfl, ne_of_beq (by kernel_rfl)⟩ (consNil)))
theorem cok_impl_runTrace_UseRecent : ConsOK Try.prog 22 cs_impl_runTrace_UseRecent := ⟨clok_impl_runTrace_UseRecent, inlNil, ovNil⟩
theorem i_impl_runTrace_UseFirst {vs : List A1} {kk : AV → List A1 → Prop} {motive : List A1 → Prop} (h : con_impl_runTrace_UseFirst.F vs kk) (H : ∀ (t0 : List Int) (room1 : Int), F_impl_runTrace_UseFirst t0 room1 (fun r0 r1 => kk (.tup [.c (.ro .int r0), .c (.v (.int .i64 r1))]) []) → motive [.c (.ro .int t0), .c (.v (.int .i64 room1)), .c (.v (.func (.func 43) ⟨[]⟩ ⟨[]⟩))]) : motive vs := by
  unfold con_impl_runTrace_UseFirst at h
  dsimp only at h
  split at h
  · exact H _ _ h
  · exact h.elim
theorem h_impl_runTrace_UseFirst : Holds Try.prog 42 con_impl_runTrace_UseFirst := by
  refine holds_of_ev (rt := [.c (.sl .int), .c .sc]) (T := TT) (Γ := cs_impl_runTrace_UseFirst) (an := an_impl_runTrace_UseFirst) (N := 22) (c := Try.f42.body.getD .skip) Try.func42 (by kernel_rfl) Try.ntmps42 (by decide) (by decide) mixed tabOK cok_impl_runTrace_UseFirst (by kernel_rfl) ?_
  intro vs kk _ hF
  exact i_impl_runTrace_UseFirst (motive := fun vs => Goes (ev TT cs_impl_runTrace_UseFirst 22 an_impl_runTrace_UseFirst (Try.f42.body.getD .skip) (st0 con_impl_runTrace_UseFirst vs) (fin TT con_impl_runTrace_UseFirst Try.f42.results.toList [.c (.sl .int), .c .sc] vs kk))) hF (fun t0 room1 hF => goes_of (e_impl_runTrace_UseFirst t0 room1 kk) (F_impl_runTrace_UseFirst_S hF))
theorem i_impl_runTrace_UseRecent {vs : List A1} {kk : AV → List A1 → Prop} {motive : List A1 → Prop} (h : con_impl_runTrace_UseRecent.F vs kk) (H : ∀ (t0 : List Int) (room1 : Int), F_impl_runTrace_UseRecent t0 room1 (fun r0 r1 => kk (.tup [.c (.ro .int r0), .c (.v (.int .i64 r1))]) []) → motive [.c (.ro .int t0), .c (.v (.int .i64 room1)), .c (.v (.func (.func 48) ⟨[]⟩ ⟨[]⟩))]) : motive vs := by
  unfold con_impl_runTrace_UseRecent at h
  dsimp only at h
  split at h
  · exact H _ _ h
  · exact h.elim
theorem h_impl_runTrace_UseRecent : Holds Try.prog 42 con_impl_runTrace_UseRecent := by
  refine holds_of_ev (rt := [.c (.sl .int), .c .sc]) (T := TT) (Γ := cs_impl_runTrace_UseRecent) (an := an_impl_runTrace_UseRecent) (N := 22) (c := Try.f42.body.getD .skip) Try.func42 (by kernel_rfl) Try.ntmps42 (by decide) (by decide) mixed tabOK cok_impl_runTrace_UseRecent (by kernel_rfl) ?_
  intro vs kk _ hF
  exact i_impl_runTrace_UseRecent (motive := fun vs => Goes (ev TT cs_impl_runTrace_UseRecent 22 an_impl_runTrace_UseRecent (Try.f42.body.getD .skip) (st0 con_impl_runTrace_UseRecent vs) (fin TT con_impl_runTrace_UseRecent Try.f42.results.toList [.c (.sl .int), .c .sc] vs kk))) hF (fun t0 room1 hF => goes_of (e_impl_runTrace_UseRecent t0 room1 kk) (F_impl_runTrace_UseRecent_S hF))
theorem h_impl_runTrace : Holds Try.prog 42 con_impl_runTrace := by
  refine holds_of_any fun vs kk h => ?_
  unfold con_impl_runTrace at h
  dsimp only at h
  split at h
  · exact ⟨con_impl_runTrace_UseFirst.F, h_impl_runTrace_UseFirst, h⟩
  · exact ⟨con_impl_runTrace_UseRecent.F, h_impl_runTrace_UseRecent, h⟩
  · exact h.elim
def con_impl_RunFirst : Con := ⟨[.rd, .rd], true, [.c (.sl .int), .c (.sc)], fun vs k => match vs with
    | [.c (.ro .int t0), .c (.v (.int .i64 room1))] => F_impl_RunFirst t0 room1 (fun r0 r1 => k (.tup [.c (.ro .int r0), .c (.v (.int .i64 r1))]) [])
    | _ => False, false⟩
def cl_impl_RunFirst : List (FuncId × Con) := [(42, con_impl_runTrace)]
def an_impl_RunFirst : Ann := ⟨[], [], [], []⟩
def cs_impl_RunFirst : Cons := ⟨cl_impl_RunFirst, [], 0, [], [], []⟩
def fin_impl_RunFirst (t0 : List Int) (room1 : Int) (kk : AV → List A1 → Prop) : Kt := fin TT con_impl_RunFirst Try.f14.results.toList [.c (.sl .int), .c .sc] [.c (.ro .int t0), .c (.v (.int .i64 room1))] kk
theorem g_impl_RunFirst (t0 : List Int) (room1 : Int) (kk : AV → List A1 → Prop) :
    ev TT cs_impl_RunFirst 11 an_impl_RunFirst (Try.f14.body.getD .skip) (st0 con_impl_RunFirst [.c (.ro .int t0), .c (.v (.int .i64 room1))]) (fin TT con_impl_RunFirst Try.f14.results.toList [.c (.sl .int), .c .sc] [.c (.ro .int t0), .c (.v (.int .i64 room1))] kk) = G_impl_RunFirst t0 room1 (fun r0 r1 => kk (.tup [.c (.ro .int r0), .c (.v (.int .i64 r1))]) []) := by kernel_rfl
theorem e_impl_RunFirst (t0 : List Int) (room1 : Int) (kk : AV → List A1 → Prop) :
    ev TT cs_impl_RunFirst 11 an_impl_RunFirst (Try.f14.body.getD .skip) (st0 con_impl_RunFirst [.c (.ro .int t0), .c (.v (.int .i64 room1))]) (fin TT con_impl_RunFirst Try.f14.results.toList [.c (.sl .int), .c .sc] [.c (.ro .int t0), .c (.v (.int .i64 room1))] kk) = S_impl_RunFirst t0 room1 (fun r0 r1 => kk (.tup [.c (.ro .int r0), .c (.v (.int .i64 r1))]) []) := by
  rw [g_impl_RunFirst]
  rfl
theorem clok_impl_RunFirst : ConOK Try.prog cl_impl_RunFirst := consCons h_impl_runTrace ⟨Try.f42, Try.func42, by kernel_rfl, ne_of_beq (by kernel_rfl)⟩ (consNil)
theorem cok_impl_RunFirst : ConsOK Try.prog 11 cs_impl_RunFirst := ⟨clok_impl_RunFirst, inlNil, ovNil⟩
theorem i_impl_RunFirst {vs : List A1} {kk : AV → List A1 → Prop} {motive : List A1 → Prop} (h : con_impl_RunFirst.F vs kk) (H : ∀ (t0 : List Int) (room1 : Int), F_impl_RunFirst t0 room1 (fun r0 r1 => kk (.tup [.c (.ro .int r0), .c (.v (.int .i64 r1))]) []) → motive [.c (.ro .int t0), .c (.v (.int .i64 room1))]) : motive vs := by
  unfold con_impl_RunFirst at h
  dsimp only at h
  split at h
  · exact H _ _ h
  · exact h.elim
theorem h_impl_RunFirst : Holds Try.prog 14 con_impl_RunFirst := by
  refine holds_of_ev (rt := [.c (.sl .int), .c .sc]) (T := TT) (Γ := cs_impl_RunFirst) (an := an_impl_RunFirst) (N := 11) (c := Try.f14.body.getD .skip) Try.func14 (by kernel_rfl) Try.ntmps14 (by decide) (by decide) mixed tabOK cok_impl_RunFirst (by kernel_rfl) ?_
  intro vs kk _ hF
  exact i_impl_RunFirst (motive := fun vs => Goes (ev TT cs_impl_RunFirst 11 an_impl_RunFirst (Try.f14.body.getD .skip) (st0 con_impl_RunFirst vs) (fin TT con_impl_RunFirst Try.f14.results.toList [.c (.sl .int), .c .sc] vs kk))) hF (fun t0 room1 hF => goes_of (e_impl_RunFirst t0 room1 kk) (F_impl_RunFirst_S hF))
def con_spec_inRange : Con := ⟨[.rd, .rd, .rd], true, [.c (.sc), .c (.sc), .c (.sc)], fun vs k => match vs with
    | [.c (.v (.int .i64 n0)), .c (.v (.int .i64 low1)), .c (.v (.int .i64 high2))] => F_spec_inRange n0 low1 high2 (fun r0 => k (.one (.c (.v (.bool r0)))) [])
    | _ => False, false⟩
def cl_spec_inRange : List (FuncId × Con) := []
def an_spec_inRange : Ann := ⟨[], [], [], []⟩
def cs_spec_inRange : Cons := ⟨cl_spec_inRange, [], 0, [], [], []⟩
def fin_spec_inRange (n0 : Int) (low1 : Int) (high2 : Int) (kk : AV → List A1 → Prop) : Kt := fin TT con_spec_inRange Try.f45.results.toList [.c .sc] [.c (.v (.int .i64 n0)), .c (.v (.int .i64 low1)), .c (.v (.int .i64 high2))] kk
theorem g_spec_inRange (n0 : Int) (low1 : Int) (high2 : Int) (kk : AV → List A1 → Prop) :
    ev TT cs_spec_inRange 15 an_spec_inRange (Try.f45.body.getD .skip) (st0 con_spec_inRange [.c (.v (.int .i64 n0)), .c (.v (.int .i64 low1)), .c (.v (.int .i64 high2))]) (fin TT con_spec_inRange Try.f45.results.toList [.c .sc] [.c (.v (.int .i64 n0)), .c (.v (.int .i64 low1)), .c (.v (.int .i64 high2))] kk) = G_spec_inRange n0 low1 high2 (fun r0 => kk (.one (.c (.v (.bool r0)))) []) := by kernel_rfl
theorem e_spec_inRange (n0 : Int) (low1 : Int) (high2 : Int) (kk : AV → List A1 → Prop) :
    ev TT cs_spec_inRange 15 an_spec_inRange (Try.f45.body.getD .skip) (st0 con_spec_inRange [.c (.v (.int .i64 n0)), .c (.v (.int .i64 low1)), .c (.v (.int .i64 high2))]) (fin TT con_spec_inRange Try.f45.results.toList [.c .sc] [.c (.v (.int .i64 n0)), .c (.v (.int .i64 low1)), .c (.v (.int .i64 high2))] kk) = S_spec_inRange n0 low1 high2 (fun r0 => kk (.one (.c (.v (.bool r0)))) []) := by
  rw [g_spec_inRange]
  rfl
theorem clok_spec_inRange : ConOK Try.prog cl_spec_inRange := consNil
theorem cok_spec_inRange : ConsOK Try.prog 15 cs_spec_inRange := ⟨clok_spec_inRange, inlNil, ovNil⟩
theorem i_spec_inRange {vs : List A1} {kk : AV → List A1 → Prop} {motive : List A1 → Prop} (h : con_spec_inRange.F vs kk) (H : ∀ (n0 : Int) (low1 : Int) (high2 : Int), F_spec_inRange n0 low1 high2 (fun r0 => kk (.one (.c (.v (.bool r0)))) []) → motive [.c (.v (.int .i64 n0)), .c (.v (.int .i64 low1)), .c (.v (.int .i64 high2))]) : motive vs := by
  unfold con_spec_inRange at h
  dsimp only at h
  split at h
  · exact H _ _ _ h
  · exact h.elim
theorem h_spec_inRange : Holds Try.prog 45 con_spec_inRange := by
  refine holds_of_ev (rt := [.c .sc]) (T := TT) (Γ := cs_spec_inRange) (an := an_spec_inRange) (N := 15) (c := Try.f45.body.getD .skip) Try.func45 (by kernel_rfl) Try.ntmps45 (by decide) (by decide) mixed tabOK cok_spec_inRange (by kernel_rfl) ?_
  intro vs kk _ hF
  exact i_spec_inRange (motive := fun vs => Goes (ev TT cs_spec_inRange 15 an_spec_inRange (Try.f45.body.getD .skip) (st0 con_spec_inRange vs) (fin TT con_spec_inRange Try.f45.results.toList [.c .sc] vs kk))) hF (fun n0 low1 high2 hF => goes_of (e_spec_inRange n0 low1 high2 kk) (F_spec_inRange_S hF))
def con_spec_allIn : Con := ⟨[.rd, .rd, .rd], true, [.c (.sl .int), .c (.sc), .c (.sc)], fun vs k => match vs with
    | [.c (.ro .int list0), .c (.v (.int .i64 low1)), .c (.v (.int .i64 high2))] => F_spec_allIn list0 low1 high2 (fun r0 => k (.one (.c (.v (.bool r0)))) [])
    | _ => False, false⟩
def cl_spec_allIn : List (FuncId × Con) := [(45, con_spec_inRange)]
def nm0_spec_allIn : List NStep := [.keep [0, 1, 2, 7] []]
def an_spec_allIn : Ann := ⟨[], [(2, nm0_spec_allIn)], [], []⟩
def cs_spec_allIn : Cons := ⟨cl_spec_allIn, [], 0, [], [], []⟩
def can0_spec_allIn (high2 : Int) (list0 : List Int) (low1 : Int) (xi7 : Int) : St := ⟨[(0, .one (.c (.ro .int list0))), (1, .one (.c (.v (.int .i64 low1)))), (2, .one (.c (.v (.int .i64 high2)))), (7, .one (.c (.v (.int .i64 xi7))))], []⟩
def fin_spec_allIn (list0 : List Int) (low1 : Int) (high2 : Int) (kk : AV → List A1 → Prop) : Kt := fin TT con_spec_allIn Try.f70.results.toList [.c .sc] [.c (.ro .int list0), .c (.v (.int .i64 low1)), .c (.v (.int .i64 high2))] kk
def kt0_spec_allIn (kf : Kt) : Kt := blockK 0 (seqK (evF TT cs_spec_allIn 22 an_spec_allIn Try.f70 [1, 1]) (kf))
theorem r0_spec_allIn (list0 : List Int) (low1 : Int) (high2 : Int) (kk : AV → List A1 → Prop) (n : Nat) (xi7 : Int) :
    iter (evF TT cs_spec_allIn 22 an_spec_allIn Try.f70 [1, 0, 1, 0, 0]) nm0_spec_allIn (kt0_spec_allIn (fin_spec_allIn list0 low1 high2 kk)) (n + 1) (can0_spec_allIn high2 list0 low1 xi7) = T0_spec_allIn high2 list0 low1 xi7 (fun r0 => kk (.one (.c (.v (.bool r0)))) []) (fun xi7 => iter (evF TT cs_spec_allIn 22 an_spec_allIn Try.f70 [1, 0, 1, 0, 0]) nm0_spec_allIn (kt0_spec_allIn (fin_spec_allIn list0 low1 high2 kk)) n (can0_spec_allIn high2 list0 low1 xi7)) := by kernel_rfl
theorem l0_spec_allIn (list0 : List Int) (low1 : Int) (high2 : Int) (kk : AV → List A1 → Prop) : ∀ (n : Nat) (xi7 : Int), iter (evF TT cs_spec_allIn 22 an_spec_allIn Try.f70 [1, 0, 1, 0, 0]) nm0_spec_allIn (kt0_spec_allIn (fin_spec_allIn list0 low1 high2 kk)) n (can0_spec_allIn high2 list0 low1 xi7) = L0_spec_allIn high2 list0 low1 (fun r0 => kk (.one (.c (.v (.bool r0)))) []) n xi7 := by
  intro n
  induction n with
  | zero => intros; rfl
  | succ n ih =>
    intro xi7
    rw [r0_spec_allIn list0 low1 high2 kk n xi7]
    have hb : (fun xi7 => iter (evF TT cs_spec_allIn 22 an_spec_allIn Try.f70 [1, 0, 1, 0, 0]) nm0_spec_allIn (kt0_spec_allIn (fin_spec_allIn list0 low1 high2 kk)) n (can0_spec_allIn high2 list0 low1 xi7)) = L0_spec_allIn high2 list0 low1 (fun r0 => kk (.one (.c (.v (.bool r0)))) []) n := by
      funext xi7; exact ih xi7
    rw [hb]
    rfl
theorem g_spec_allIn (list0 : List Int) (low1 : Int) (high2 : Int) (kk : AV → List A1 → Prop) :
    ev TT cs_spec_allIn 22 an_spec_allIn (Try.f70.body.getD .skip) (st0 con_spec_allIn [.c (.ro .int list0), .c (.v (.int .i64 low1)), .c (.v (.int .i64 high2))]) (fin TT con_spec_allIn Try.f70.results.toList [.c .sc] [.c (.ro .int list0), .c (.v (.int .i64 low1)), .c (.v (.int .i64 high2))] kk) = G_spec_allIn list0 low1 high2 (fun high2 list0 low1 xi7 => ∃ j, iter (evF TT cs_spec_allIn 22 an_spec_allIn Try.f70 [1, 0, 1, 0, 0]) nm0_spec_allIn (kt0_spec_allIn (fin_spec_allIn list0 low1 high2 kk)) j (can0_spec_allIn high2 list0 low1 xi7)) := by kernel_rfl
theorem e_spec_allIn (list0 : List Int) (low1 : Int) (high2 : Int) (kk : AV → List A1 → Prop) :
    ev TT cs_spec_allIn 22 an_spec_allIn (Try.f70.body.getD .skip) (st0 con_spec_allIn [.c (.ro .int list0), .c (.v (.int .i64 low1)), .c (.v (.int .i64 high2))]) (fin TT con_spec_allIn Try.f70.results.toList [.c .sc] [.c (.ro .int list0), .c (.v (.int .i64 low1)), .c (.v (.int .i64 high2))] kk) = S_spec_allIn list0 low1 high2 (fun r0 => kk (.one (.c (.v (.bool r0)))) []) := by
  rw [g_spec_allIn]
  have hi0 : (fun high2 list0 low1 xi7 => ∃ j, iter (evF TT cs_spec_allIn 22 an_spec_allIn Try.f70 [1, 0, 1, 0, 0]) nm0_spec_allIn (kt0_spec_allIn (fin_spec_allIn list0 low1 high2 kk)) j (can0_spec_allIn high2 list0 low1 xi7)) = (fun high2 list0 low1 xi7 => ∃ j, L0_spec_allIn high2 list0 low1 (fun r0 => kk (.one (.c (.v (.bool r0)))) []) j xi7) := by
    funext high2 list0 low1 xi7
    refine congrArg Exists (funext fun j => ?_)
    rw [l0_spec_allIn list0 low1 high2 kk j xi7]
  rw [hi0]
  rfl
theorem clok_spec_allIn : ConOK Try.prog cl_spec_allIn := consCons h_spec_inRange ⟨Try.f45, Try.func45, by kernel_rfl, ne_of_beq (by kernel_rfl)⟩ (consNil)
theorem cok_spec_allIn : ConsOK Try.prog 22 cs_spec_allIn := ⟨clok_spec_allIn, inlNil, ovNil⟩
theorem i_spec_allIn {vs : List A1} {kk : AV → List A1 → Prop} {motive : List A1 → Prop} (h : con_spec_allIn.F vs kk) (H : ∀ (list0 : List Int) (low1 : Int) (high2 : Int), F_spec_allIn list0 low1 high2 (fun r0 => kk (.one (.c (.v (.bool r0)))) []) → motive [.c (.ro .int list0), .c (.v (.int .i64 low1)), .c (.v (.int .i64 high2))]) : motive vs := by
  unfold con_spec_allIn at h
  dsimp only at h
  split at h
  · exact H _ _ _ h
  · exact h.elim
theorem h_spec_allIn : Holds Try.prog 70 con_spec_allIn := by
  refine holds_of_ev (rt := [.c .sc]) (T := TT) (Γ := cs_spec_allIn) (an := an_spec_allIn) (N := 22) (c := Try.f70.body.getD .skip) Try.func70 (by kernel_rfl) Try.ntmps70 (by decide) (by decide) mixed tabOK cok_spec_allIn (by kernel_rfl) ?_
  intro vs kk _ hF
  exact i_spec_allIn (motive := fun vs => Goes (ev TT cs_spec_allIn 22 an_spec_allIn (Try.f70.body.getD .skip) (st0 con_spec_allIn vs) (fin TT con_spec_allIn Try.f70.results.toList [.c .sc] vs kk))) hF (fun list0 low1 high2 hF => goes_of (e_spec_allIn list0 low1 high2 kk) (F_spec_allIn_S hF))
def con_spec_validTrace : Con := ⟨[.rd], true, [.c (.sl .int)], fun vs k => match vs with
    | [.c (.ro .int t0)] => F_spec_validTrace t0 (fun r0 => k (.one (.c (.v (.bool r0)))) [])
    | _ => False, false⟩
def cl_spec_validTrace : List (FuncId × Con) := [(70, con_spec_allIn)]
def an_spec_validTrace : Ann := ⟨[], [], [], []⟩
def cs_spec_validTrace : Cons := ⟨cl_spec_validTrace, [], 0, [], [], []⟩
def fin_spec_validTrace (t0 : List Int) (kk : AV → List A1 → Prop) : Kt := fin TT con_spec_validTrace Try.f44.results.toList [.c .sc] [.c (.ro .int t0)] kk
theorem g_spec_validTrace (t0 : List Int) (kk : AV → List A1 → Prop) :
    ev TT cs_spec_validTrace 10 an_spec_validTrace (Try.f44.body.getD .skip) (st0 con_spec_validTrace [.c (.ro .int t0)]) (fin TT con_spec_validTrace Try.f44.results.toList [.c .sc] [.c (.ro .int t0)] kk) = G_spec_validTrace t0 (fun r0 => kk (.one (.c (.v (.bool r0)))) []) := by kernel_rfl
theorem e_spec_validTrace (t0 : List Int) (kk : AV → List A1 → Prop) :
    ev TT cs_spec_validTrace 10 an_spec_validTrace (Try.f44.body.getD .skip) (st0 con_spec_validTrace [.c (.ro .int t0)]) (fin TT con_spec_validTrace Try.f44.results.toList [.c .sc] [.c (.ro .int t0)] kk) = S_spec_validTrace t0 (fun r0 => kk (.one (.c (.v (.bool r0)))) []) := by
  rw [g_spec_validTrace]
  rfl
theorem clok_spec_validTrace : ConOK Try.prog cl_spec_validTrace := consCons h_spec_allIn ⟨Try.f70, Try.func70, by kernel_rfl, ne_of_beq (by kernel_rfl)⟩ (consNil)
theorem cok_spec_validTrace : ConsOK Try.prog 10 cs_spec_validTrace := ⟨clok_spec_validTrace, inlNil, ovNil⟩
theorem i_spec_validTrace {vs : List A1} {kk : AV → List A1 → Prop} {motive : List A1 → Prop} (h : con_spec_validTrace.F vs kk) (H : ∀ (t0 : List Int), F_spec_validTrace t0 (fun r0 => kk (.one (.c (.v (.bool r0)))) []) → motive [.c (.ro .int t0)]) : motive vs := by
  unfold con_spec_validTrace at h
  dsimp only at h
  split at h
  · exact H _ h
  · exact h.elim
theorem h_spec_validTrace : Holds Try.prog 44 con_spec_validTrace := by
  refine holds_of_ev (rt := [.c .sc]) (T := TT) (Γ := cs_spec_validTrace) (an := an_spec_validTrace) (N := 10) (c := Try.f44.body.getD .skip) Try.func44 (by kernel_rfl) Try.ntmps44 (by decide) (by decide) mixed tabOK cok_spec_validTrace (by kernel_rfl) ?_
  intro vs kk _ hF
  exact i_spec_validTrace (motive := fun vs => Goes (ev TT cs_spec_validTrace 10 an_spec_validTrace (Try.f44.body.getD .skip) (st0 con_spec_validTrace vs) (fin TT con_spec_validTrace Try.f44.results.toList [.c .sc] vs kk))) hF (fun t0 hF => goes_of (e_spec_validTrace t0 kk) (F_spec_validTrace_S hF))
def con_spec_placeOf : Con := ⟨[.rd, .rd], true, [.c (.sl .int), .c (.sc)], fun vs k => match vs with
    | [.c (.ro .int list0), .c (.v (.int .i64 n1))] => F_spec_placeOf list0 n1 (fun r0 => k (.one (.c (.v (.int .i64 r0)))) [])
    | _ => False, false⟩
def cl_spec_placeOf : List (FuncId × Con) := []
def nm0_spec_placeOf : List NStep := [.keep [0, 1, 5] []]
def an_spec_placeOf : Ann := ⟨[], [(2, nm0_spec_placeOf)], [], []⟩
def cs_spec_placeOf : Cons := ⟨cl_spec_placeOf, [], 0, [], [], []⟩
def can0_spec_placeOf (list0 : List Int) (n1 : Int) (xi5 : Int) : St := ⟨[(0, .one (.c (.ro .int list0))), (1, .one (.c (.v (.int .i64 n1)))), (5, .one (.c (.v (.int .i64 xi5))))], []⟩
def fin_spec_placeOf (list0 : List Int) (n1 : Int) (kk : AV → List A1 → Prop) : Kt := fin TT con_spec_placeOf Try.f75.results.toList [.c .sc] [.c (.ro .int list0), .c (.v (.int .i64 n1))] kk
def kt0_spec_placeOf (kf : Kt) : Kt := blockK 0 (seqK (evF TT cs_spec_placeOf 19 an_spec_placeOf Try.f75 [1, 1]) (kf))
theorem r0_spec_placeOf (list0 : List Int) (n1 : Int) (kk : AV → List A1 → Prop) (n : Nat) (xi5 : Int) :
    iter (evF TT cs_spec_placeOf 19 an_spec_placeOf Try.f75 [1, 0, 1, 0, 0]) nm0_spec_placeOf (kt0_spec_placeOf (fin_spec_placeOf list0 n1 kk)) (n + 1) (can0_spec_placeOf list0 n1 xi5) = T0_spec_placeOf list0 n1 xi5 (fun r0 => kk (.one (.c (.v (.int .i64 r0)))) []) (fun xi5 => iter (evF TT cs_spec_placeOf 19 an_spec_placeOf Try.f75 [1, 0, 1, 0, 0]) nm0_spec_placeOf (kt0_spec_placeOf (fin_spec_placeOf list0 n1 kk)) n (can0_spec_placeOf list0 n1 xi5)) := by kernel_rfl
theorem l0_spec_placeOf (list0 : List Int) (n1 : Int) (kk : AV → List A1 → Prop) : ∀ (n : Nat) (xi5 : Int), iter (evF TT cs_spec_placeOf 19 an_spec_placeOf Try.f75 [1, 0, 1, 0, 0]) nm0_spec_placeOf (kt0_spec_placeOf (fin_spec_placeOf list0 n1 kk)) n (can0_spec_placeOf list0 n1 xi5) = L0_spec_placeOf list0 n1 (fun r0 => kk (.one (.c (.v (.int .i64 r0)))) []) n xi5 := by
  intro n
  induction n with
  | zero => intros; rfl
  | succ n ih =>
    intro xi5
    rw [r0_spec_placeOf list0 n1 kk n xi5]
    have hb : (fun xi5 => iter (evF TT cs_spec_placeOf 19 an_spec_placeOf Try.f75 [1, 0, 1, 0, 0]) nm0_spec_placeOf (kt0_spec_placeOf (fin_spec_placeOf list0 n1 kk)) n (can0_spec_placeOf list0 n1 xi5)) = L0_spec_placeOf list0 n1 (fun r0 => kk (.one (.c (.v (.int .i64 r0)))) []) n := by
      funext xi5; exact ih xi5
    rw [hb]
    rfl
theorem g_spec_placeOf (list0 : List Int) (n1 : Int) (kk : AV → List A1 → Prop) :
    ev TT cs_spec_placeOf 19 an_spec_placeOf (Try.f75.body.getD .skip) (st0 con_spec_placeOf [.c (.ro .int list0), .c (.v (.int .i64 n1))]) (fin TT con_spec_placeOf Try.f75.results.toList [.c .sc] [.c (.ro .int list0), .c (.v (.int .i64 n1))] kk) = G_spec_placeOf list0 n1 (fun list0 n1 xi5 => ∃ j, iter (evF TT cs_spec_placeOf 19 an_spec_placeOf Try.f75 [1, 0, 1, 0, 0]) nm0_spec_placeOf (kt0_spec_placeOf (fin_spec_placeOf list0 n1 kk)) j (can0_spec_placeOf list0 n1 xi5)) := by kernel_rfl
theorem e_spec_placeOf (list0 : List Int) (n1 : Int) (kk : AV → List A1 → Prop) :
    ev TT cs_spec_placeOf 19 an_spec_placeOf (Try.f75.body.getD .skip) (st0 con_spec_placeOf [.c (.ro .int list0), .c (.v (.int .i64 n1))]) (fin TT con_spec_placeOf Try.f75.results.toList [.c .sc] [.c (.ro .int list0), .c (.v (.int .i64 n1))] kk) = S_spec_placeOf list0 n1 (fun r0 => kk (.one (.c (.v (.int .i64 r0)))) []) := by
  rw [g_spec_placeOf]
  have hi0 : (fun list0 n1 xi5 => ∃ j, iter (evF TT cs_spec_placeOf 19 an_spec_placeOf Try.f75 [1, 0, 1, 0, 0]) nm0_spec_placeOf (kt0_spec_placeOf (fin_spec_placeOf list0 n1 kk)) j (can0_spec_placeOf list0 n1 xi5)) = (fun list0 n1 xi5 => ∃ j, L0_spec_placeOf list0 n1 (fun r0 => kk (.one (.c (.v (.int .i64 r0)))) []) j xi5) := by
    funext list0 n1 xi5
    refine congrArg Exists (funext fun j => ?_)
    rw [l0_spec_placeOf list0 n1 kk j xi5]
  rw [hi0]
  rfl
theorem clok_spec_placeOf : ConOK Try.prog cl_spec_placeOf := consNil
theorem cok_spec_placeOf : ConsOK Try.prog 19 cs_spec_placeOf := ⟨clok_spec_placeOf, inlNil, ovNil⟩
theorem i_spec_placeOf {vs : List A1} {kk : AV → List A1 → Prop} {motive : List A1 → Prop} (h : con_spec_placeOf.F vs kk) (H : ∀ (list0 : List Int) (n1 : Int), F_spec_placeOf list0 n1 (fun r0 => kk (.one (.c (.v (.int .i64 r0)))) []) → motive [.c (.ro .int list0), .c (.v (.int .i64 n1))]) : motive vs := by
  unfold con_spec_placeOf at h
  dsimp only at h
  split at h
  · exact H _ _ h
  · exact h.elim
theorem h_spec_placeOf : Holds Try.prog 75 con_spec_placeOf := by
  refine holds_of_ev (rt := [.c .sc]) (T := TT) (Γ := cs_spec_placeOf) (an := an_spec_placeOf) (N := 19) (c := Try.f75.body.getD .skip) Try.func75 (by kernel_rfl) Try.ntmps75 (by decide) (by decide) mixed tabOK cok_spec_placeOf (by kernel_rfl) ?_
  intro vs kk _ hF
  exact i_spec_placeOf (motive := fun vs => Goes (ev TT cs_spec_placeOf 19 an_spec_placeOf (Try.f75.body.getD .skip) (st0 con_spec_placeOf vs) (fin TT con_spec_placeOf Try.f75.results.toList [.c .sc] vs kk))) hF (fun list0 n1 hF => goes_of (e_spec_placeOf list0 n1 kk) (F_spec_placeOf_S hF))
def con_spec_isIn : Con := ⟨[.rd, .rd], true, [.c (.sl .int), .c (.sc)], fun vs k => match vs with
    | [.c (.ro .int list0), .c (.v (.int .i64 n1))] => F_spec_isIn list0 n1 (fun r0 => k (.one (.c (.v (.bool r0)))) [])
    | _ => False, false⟩
def cl_spec_isIn : List (FuncId × Con) := [(75, con_spec_placeOf)]
def an_spec_isIn : Ann := ⟨[], [], [], []⟩
def cs_spec_isIn : Cons := ⟨cl_spec_isIn, [], 0, [], [], []⟩
def fin_spec_isIn (list0 : List Int) (n1 : Int) (kk : AV → List A1 → Prop) : Kt := fin TT con_spec_isIn Try.f71.results.toList [.c .sc] [.c (.ro .int list0), .c (.v (.int .i64 n1))] kk
theorem g_spec_isIn (list0 : List Int) (n1 : Int) (kk : AV → List A1 → Prop) :
    ev TT cs_spec_isIn 9 an_spec_isIn (Try.f71.body.getD .skip) (st0 con_spec_isIn [.c (.ro .int list0), .c (.v (.int .i64 n1))]) (fin TT con_spec_isIn Try.f71.results.toList [.c .sc] [.c (.ro .int list0), .c (.v (.int .i64 n1))] kk) = G_spec_isIn list0 n1 (fun r0 => kk (.one (.c (.v (.bool r0)))) []) := by kernel_rfl
theorem e_spec_isIn (list0 : List Int) (n1 : Int) (kk : AV → List A1 → Prop) :
    ev TT cs_spec_isIn 9 an_spec_isIn (Try.f71.body.getD .skip) (st0 con_spec_isIn [.c (.ro .int list0), .c (.v (.int .i64 n1))]) (fin TT con_spec_isIn Try.f71.results.toList [.c .sc] [.c (.ro .int list0), .c (.v (.int .i64 n1))] kk) = S_spec_isIn list0 n1 (fun r0 => kk (.one (.c (.v (.bool r0)))) []) := by
  rw [g_spec_isIn]
  rfl
theorem clok_spec_isIn : ConOK Try.prog cl_spec_isIn := consCons h_spec_placeOf ⟨Try.f75, Try.func75, by kernel_rfl, ne_of_beq (by kernel_rfl)⟩ (consNil)
theorem cok_spec_isIn : ConsOK Try.prog 9 cs_spec_isIn := ⟨clok_spec_isIn, inlNil, ovNil⟩
theorem i_spec_isIn {vs : List A1} {kk : AV → List A1 → Prop} {motive : List A1 → Prop} (h : con_spec_isIn.F vs kk) (H : ∀ (list0 : List Int) (n1 : Int), F_spec_isIn list0 n1 (fun r0 => kk (.one (.c (.v (.bool r0)))) []) → motive [.c (.ro .int list0), .c (.v (.int .i64 n1))]) : motive vs := by
  unfold con_spec_isIn at h
  dsimp only at h
  split at h
  · exact H _ _ h
  · exact h.elim
theorem h_spec_isIn : Holds Try.prog 71 con_spec_isIn := by
  refine holds_of_ev (rt := [.c .sc]) (T := TT) (Γ := cs_spec_isIn) (an := an_spec_isIn) (N := 9) (c := Try.f71.body.getD .skip) Try.func71 (by kernel_rfl) Try.ntmps71 (by decide) (by decide) mixed tabOK cok_spec_isIn (by kernel_rfl) ?_
  intro vs kk _ hF
  exact i_spec_isIn (motive := fun vs => Goes (ev TT cs_spec_isIn 9 an_spec_isIn (Try.f71.body.getD .skip) (st0 con_spec_isIn vs) (fin TT con_spec_isIn Try.f71.results.toList [.c .sc] vs kk))) hF (fun list0 n1 hF => goes_of (e_spec_isIn list0 n1 kk) (F_spec_isIn_S hF))
def con_spec_first : Con := ⟨[.rd, .rd, .rd], false, [.c (.sl .int), .c (.sc), .c (.sc)], fun vs k => match vs with
    | [.c (.ro .int list0), .c (.v (.int .i64 room1)), .c (.v (.int .i64 key2))] => F_spec_first list0 room1 key2 (fun r0 r1 => k (.tup [.c (.ro .int r0), .c (.v (.bool r1))]) [])
    | _ => False, false⟩
def cl_spec_first : List (FuncId × Con) := [(71, con_spec_isIn)]
def an_spec_first : Ann := ⟨[], [], [], []⟩
def cs_spec_first : Cons := ⟨cl_spec_first, [], 0, [], [], []⟩
def fin_spec_first (list0 : List Int) (room1 : Int) (key2 : Int) (kk : AV → List A1 → Prop) : Kt := fin TT con_spec_first Try.f46.results.toList [.c (.sl .int), .c .sc] [.c (.ro .int list0), .c (.v (.int .i64 room1)), .c (.v (.int .i64 key2))] kk
theorem g_spec_first (list0 : List Int) (room1 : Int) (key2 : Int) (kk : AV → List A1 → Prop) :
    ev TT cs_spec_first 26 an_spec_first (Try.f46.body.getD .skip) (st0 con_spec_first [.c (.ro .int list0), .c (.v (.int .i64 room1)), .c (.v (.int .i64 key2))]) (fin TT con_spec_first Try.f46.results.toList [.c (.sl .int), .c .sc] [.c (.ro .int list0), .c (.v (.int .i64 room1)), .c (.v (.int .i64 key2))] kk) = G_spec_first list0 room1 key2 (fun r0 r1 => kk (.tup [.c (.ro .int r0), .c (.v (.bool r1))]) []) := by kernel_rfl
theorem e_spec_first (list0 : List Int) (room1 : Int) (key2 : Int) (kk : AV → List A1 → Prop) :
    ev TT cs_spec_first 26 an_spec_first (Try.f46.body.getD .skip) (st0 con_spec_first [.c (.ro .int list0), .c (.v (.int .i64 room1)), .c (.v (.int .i64 key2))]) (fin TT con_spec_first Try.f46.results.toList [.c (.sl .int), .c .sc] [.c (.ro .int list0), .c (.v (.int .i64 room1)), .c (.v (.int .i64 key2))] kk) = S_spec_first list0 room1 key2 (fun r0 r1 => kk (.tup [.c (.ro .int r0), .c (.v (.bool r1))]) []) := by
  rw [g_spec_first]
  rfl
theorem clok_spec_first : ConOK Try.prog cl_spec_first := consCons h_spec_isIn ⟨Try.f71, Try.func71, by kernel_rfl, ne_of_beq (by kernel_rfl)⟩ (consNil)
theorem cok_spec_first : ConsOK Try.prog 26 cs_spec_first := ⟨clok_spec_first, inlNil, ovNil⟩
theorem i_spec_first {vs : List A1} {kk : AV → List A1 → Prop} {motive : List A1 → Prop} (h : con_spec_first.F vs kk) (H : ∀ (list0 : List Int) (room1 : Int) (key2 : Int), F_spec_first list0 room1 key2 (fun r0 r1 => kk (.tup [.c (.ro .int r0), .c (.v (.bool r1))]) []) → motive [.c (.ro .int list0), .c (.v (.int .i64 room1)), .c (.v (.int .i64 key2))]) : motive vs := by
  unfold con_spec_first at h
  dsimp only at h
  split at h
  · exact H _ _ _ h
  · exact h.elim
theorem h_spec_first : Holds Try.prog 46 con_spec_first := by
  refine holds_of_ev (rt := [.c (.sl .int), .c .sc]) (T := TT) (Γ := cs_spec_first) (an := an_spec_first) (N := 26) (c := Try.f46.body.getD .skip) Try.func46 (by kernel_rfl) Try.ntmps46 (by decide) (by decide) mixed tabOK cok_spec_first (by kernel_rfl) ?_
  intro vs kk _ hF
  exact i_spec_first (motive := fun vs => Goes (ev TT cs_spec_first 26 an_spec_first (Try.f46.body.getD .skip) (st0 con_spec_first vs) (fin TT con_spec_first Try.f46.results.toList [.c (.sl .int), .c .sc] vs kk))) hF (fun list0 room1 key2 hF => goes_of (e_spec_first list0 room1 key2 kk) (F_spec_first_S hF))
def con_spec_toInt : Con := ⟨[.rd], true, [.c (.sc)], fun vs k => match vs with
    | [.c (.v (.bool b0))] => F_spec_toInt b0 (fun r0 => k (.one (.c (.v (.int .i64 r0)))) [])
    | _ => False, false⟩
def cl_spec_toInt : List (FuncId × Con) := []
def an_spec_toInt : Ann := ⟨[], [], [], []⟩
def cs_spec_toInt : Cons := ⟨cl_spec_toInt, [], 0, [], [], []⟩
def fin_spec_toInt (b0 : Bool) (kk : AV → List A1 → Prop) : Kt := fin TT con_spec_toInt Try.f47.results.toList [.c .sc] [.c (.v (.bool b0))] kk
theorem g_spec_toInt (b0 : Bool) (kk : AV → List A1 → Prop) :
    ev TT cs_spec_toInt 4 an_spec_toInt (Try.f47.body.getD .skip) (st0 con_spec_toInt [.c (.v (.bool b0))]) (fin TT con_spec_toInt Try.f47.results.toList [.c .sc] [.c (.v (.bool b0))] kk) = G_spec_toInt b0 (fun r0 => kk (.one (.c (.v (.int .i64 r0)))) []) := by kernel_rfl
theorem e_spec_toInt (b0 : Bool) (kk : AV → List A1 → Prop) :
    ev TT cs_spec_toInt 4 an_spec_toInt (Try.f47.body.getD .skip) (st0 con_spec_toInt [.c (.v (.bool b0))]) (fin TT con_spec_toInt Try.f47.results.toList [.c .sc] [.c (.v (.bool b0))] kk) = S_spec_toInt b0 (fun r0 => kk (.one (.c (.v (.int .i64 r0)))) []) := by
  rw [g_spec_toInt]
  rfl
theorem clok_spec_toInt : ConOK Try.prog cl_spec_toInt := consNil
theorem cok_spec_toInt : ConsOK Try.prog 4 cs_spec_toInt := ⟨clok_spec_toInt, inlNil, ovNil⟩
theorem i_spec_toInt {vs : List A1} {kk : AV → List A1 → Prop} {motive : List A1 → Prop} (h : con_spec_toInt.F vs kk) (H : ∀ (b0 : Bool), F_spec_toInt b0 (fun r0 => kk (.one (.c (.v (.int .i64 r0)))) []) → motive [.c (.v (.bool b0))]) : motive vs := by
  unfold con_spec_toInt at h
  dsimp only at h
  split at h
  · exact H _ h
  · exact h.elim
theorem h_spec_toInt : Holds Try.prog 47 con_spec_toInt := by
  refine holds_of_ev (rt := [.c .sc]) (T := TT) (Γ := cs_spec_toInt) (an := an_spec_toInt) (N := 4) (c := Try.f47.body.getD .skip) Try.func47 (by kernel_rfl) Try.ntmps47 (by decide) (by decide) mixed tabOK cok_spec_toInt (by kernel_rfl) ?_
  intro vs kk _ hF
  exact i_spec_toInt (motive := fun vs => Goes (ev TT cs_spec_toInt 4 an_spec_toInt (Try.f47.body.getD .skip) (st0 con_spec_toInt vs) (fin TT con_spec_toInt Try.f47.results.toList [.c .sc] vs kk))) hF (fun b0 hF => goes_of (e_spec_toInt b0 kk) (F_spec_toInt_S hF))
def con_spec_RunFirst : Con := ⟨[.rd, .rd], true, [.c (.sl .int), .c (.sc)], fun vs k => match vs with
    | [.c (.ro .int t0), .c (.v (.int .i64 room1))] => F_spec_RunFirst t0 room1 (fun r0 r1 => k (.tup [.c (.ro .int r0), .c (.v (.int .i64 r1))]) [])
    | _ => False, false⟩
def cl_spec_RunFirst : List (FuncId × Con) := [(44, con_spec_validTrace), (45, con_spec_inRange), (46, con_spec_first), (47, con_spec_toInt)]
def nm0_spec_RunFirst : List NStep := [.frz 6 .int, .keep [0, 1, 6, 7, 8] []]
def an_spec_RunFirst : Ann := ⟨[], [(6, nm0_spec_RunFirst)], [], []⟩
def cs_spec_RunFirst : Cons := ⟨cl_spec_RunFirst, [], 0, [], [], []⟩
def can0_spec_RunFirst (room1 : Int) (t0 : List Int) (xlist6 : List Int) (xn7 : Int) (xi8 : Int) : St := ⟨[(0, .one (.c (.ro .int t0))), (1, .one (.c (.v (.int .i64 room1)))), (6, .one (.c (.ro .int xlist6))), (7, .one (.c (.v (.int .i64 xn7)))), (8, .one (.c (.v (.int .i64 xi8))))], []⟩
def fin_spec_RunFirst (t0 : List Int) (room1 : Int) (kk : AV → List A1 → Prop) : Kt := fin TT con_spec_RunFirst Try.f15.results.toList [.c (.sl .int), .c .sc] [.c (.ro .int t0), .c (.v (.int .i64 room1))] kk
def kt0_spec_RunFirst (kf : Kt) : Kt := blockK 0 (seqK (evF TT cs_spec_RunFirst 43 an_spec_RunFirst Try.f15 [1, 1, 1, 1, 1]) (kf))
theorem r0_spec_RunFirst (t0 : List Int) (room1 : Int) (kk : AV → List A1 → Prop) (n : Nat) (xlist6 : List Int) (xn7 : Int) (xi8 : Int) :
    iter (evF TT cs_spec_RunFirst 43 an_spec_RunFirst Try.f15 [1, 1, 1, 1, 0, 1, 0, 0]) nm0_spec_RunFirst (kt0_spec_RunFirst (fin_spec_RunFirst t0 room1 kk)) (n + 1) (can0_spec_RunFirst room1 t0 xlist6 xn7 xi8) = T0_spec_RunFirst room1 t0 xlist6 xn7 xi8 (fun r0 r1 => kk (.tup [.c (.ro .int r0), .c (.v (.int .i64 r1))]) []) (fun xlist6 xn7 xi8 => iter (evF TT cs_spec_RunFirst 43 an_spec_RunFirst Try.f15 [1, 1, 1, 1, 0, 1, 0, 0]) nm0_spec_RunFirst (kt0_spec_RunFirst (fin_spec_RunFirst t0 room1 kk)) n (can0_spec_RunFirst room1 t0 xlist6 xn7 xi8)) := by kernel_rfl
theorem l0_spec_RunFirst (t0 : List Int) (room1 : Int) (kk : AV → List A1 → Prop) : ∀ (n : Nat) (xlist6 : List Int) (xn7 : Int) (xi8 : Int), iter (evF TT cs_spec_RunFirst 43 an_spec_RunFirst Try.f15 [1, 1, 1, 1, 0, 1, 0, 0]) nm0_spec_RunFirst (kt0_spec_RunFirst (fin_spec_RunFirst t0 room1 kk)) n (can0_spec_RunFirst room1 t0 xlist6 xn7 xi8) = L0_spec_RunFirst room1 t0 (fun r0 r1 => kk (.tup [.c (.ro .int r0), .c (.v (.int .i64 r1))]) []) n xlist6 xn7 xi8 := by
  intro n
  induction n with
  | zero => intros; rfl
  | succ n ih =>
    intro xlist6 xn7 xi8
    rw [r0_spec_RunFirst t0 room1 kk n xlist6 xn7 xi8]
    have hb : (fun xlist6 xn7 xi8 => iter (evF TT cs_spec_RunFirst 43 an_spec_RunFirst Try.f15 [1, 1, 1, 1, 0, 1, 0, 0]) nm0_spec_RunFirst (kt0_spec_RunFirst (fin_spec_RunFirst t0 room1 kk)) n (can0_spec_RunFirst room1 t0 xlist6 xn7 xi8)) = L0_spec_RunFirst room1 t0 (fun r0 r1 => kk (.tup [.c (.ro .int r0), .c (.v (.int .i64 r1))]) []) n := by
      funext xlist6 xn7 xi8; exact ih xlist6 xn7 xi8
    rw [hb]
    rfl
theorem g_spec_RunFirst (t0 : List Int) (room1 : Int) (kk : AV → List A1 → Prop) :
    ev TT cs_spec_RunFirst 43 an_spec_RunFirst (Try.f15.body.getD .skip) (st0 con_spec_RunFirst [.c (.ro .int t0), .c (.v (.int .i64 room1))]) (fin TT con_spec_RunFirst Try.f15.results.toList [.c (.sl .int), .c .sc] [.c (.ro .int t0), .c (.v (.int .i64 room1))] kk) = G_spec_RunFirst t0 room1 (fun r0 r1 => kk (.tup [.c (.ro .int r0), .c (.v (.int .i64 r1))]) []) (fun room1 t0 xlist6 xn7 xi8 => ∃ j, iter (evF TT cs_spec_RunFirst 43 an_spec_RunFirst Try.f15 [1, 1, 1, 1, 0, 1, 0, 0]) nm0_spec_RunFirst (kt0_spec_RunFirst (fin_spec_RunFirst t0 room1 kk)) j (can0_spec_RunFirst room1 t0 xlist6 xn7 xi8)) := by kernel_rfl
theorem e_spec_RunFirst (t0 : List Int) (room1 : Int) (kk : AV → List A1 → Prop) :
    ev TT cs_spec_RunFirst 43 an_spec_RunFirst (Try.f15.body.getD .skip) (st0 con_spec_RunFirst [.c (.ro .int t0), .c (.v (.int .i64 room1))]) (fin TT con_spec_RunFirst Try.f15.results.toList [.c (.sl .int), .c .sc] [.c (.ro .int t0), .c (.v (.int .i64 room1))] kk) = S_spec_RunFirst t0 room1 (fun r0 r1 => kk (.tup [.c (.ro .int r0), .c (.v (.int .i64 r1))]) []) := by
  rw [g_spec_RunFirst]
  have hi0 : (fun room1 t0 xlist6 xn7 xi8 => ∃ j, iter (evF TT cs_spec_RunFirst 43 an_spec_RunFirst Try.f15 [1, 1, 1, 1, 0, 1, 0, 0]) nm0_spec_RunFirst (kt0_spec_RunFirst (fin_spec_RunFirst t0 room1 kk)) j (can0_spec_RunFirst room1 t0 xlist6 xn7 xi8)) = (fun room1 t0 xlist6 xn7 xi8 => ∃ j, L0_spec_RunFirst room1 t0 (fun r0 r1 => kk (.tup [.c (.ro .int r0), .c (.v (.int .i64 r1))]) []) j xlist6 xn7 xi8) := by
    funext room1 t0 xlist6 xn7 xi8
    refine congrArg Exists (funext fun j => ?_)
    rw [l0_spec_RunFirst t0 room1 kk j xlist6 xn7 xi8]
  rw [hi0]
  rfl
theorem clok_spec_RunFirst : ConOK Try.prog cl_spec_RunFirst := consCons h_spec_validTrace ⟨Try.f44, Try.func44, by kernel_rfl, ne_of_beq (by kernel_rfl)⟩ (consCons h_spec_inRange ⟨Try.f45, Try.func45, by kernel_rfl, ne_of_beq (by kernel_rfl)⟩ (consCons h_spec_first ⟨Try.f46, Try.func46, by kernel_rfl, ne_of_beq (by kernel_rfl)⟩ (consCons h_spec_toInt ⟨Try.f47, Try.func47, by kernel_rfl, ne_of_beq (by kernel_rfl)⟩ (consNil))))
theorem cok_spec_RunFirst : ConsOK Try.prog 43 cs_spec_RunFirst := ⟨clok_spec_RunFirst, inlNil, ovNil⟩
theorem i_spec_RunFirst {vs : List A1} {kk : AV → List A1 → Prop} {motive : List A1 → Prop} (h : con_spec_RunFirst.F vs kk) (H : ∀ (t0 : List Int) (room1 : Int), F_spec_RunFirst t0 room1 (fun r0 r1 => kk (.tup [.c (.ro .int r0), .c (.v (.int .i64 r1))]) []) → motive [.c (.ro .int t0), .c (.v (.int .i64 room1))]) : motive vs := by
  unfold con_spec_RunFirst at h
  dsimp only at h
  split at h
  · exact H _ _ h
  · exact h.elim
theorem h_spec_RunFirst : Holds Try.prog 15 con_spec_RunFirst := by
  refine holds_of_ev (rt := [.c (.sl .int), .c .sc]) (T := TT) (Γ := cs_spec_RunFirst) (an := an_spec_RunFirst) (N := 43) (c := Try.f15.body.getD .skip) Try.func15 (by kernel_rfl) Try.ntmps15 (by decide) (by decide) mixed tabOK cok_spec_RunFirst (by kernel_rfl) ?_
  intro vs kk _ hF
  exact i_spec_RunFirst (motive := fun vs => Goes (ev TT cs_spec_RunFirst 43 an_spec_RunFirst (Try.f15.body.getD .skip) (st0 con_spec_RunFirst vs) (fin TT con_spec_RunFirst Try.f15.results.toList [.c (.sl .int), .c .sc] vs kk))) hF (fun t0 room1 hF => goes_of (e_spec_RunFirst t0 room1 kk) (F_spec_RunFirst_S hF))
def con_laws_equalInts : Con := ⟨[.rd, .rd], true, [.c (.sl .int), .c (.sl .int)], fun vs k => match vs with
    | [.c (.ro .int a0), .c (.ro .int b1)] => F_laws_equalInts a0 b1 (fun r0 => k (.one (.c (.v (.bool r0)))) [])
    | _ => False, false⟩
def cl_laws_equalInts : List (FuncId × Con) := []
def nm0_laws_equalInts : List NStep := [.keep [0, 1, 5] []]
def an_laws_equalInts : Ann := ⟨[(6, .take 0 (.take 1 (.take 2 (.take 3 (.take 4 (.take 5 (.take 6 (.take 7 (.take 8 (.done))))))))), [])], [(4, nm0_laws_equalInts)], [], []⟩
def cs_laws_equalInts : Cons := ⟨cl_laws_equalInts, [], 0, [], [], []⟩
def can0_laws_equalInts (a0 : List Int) (b1 : List Int) (xi5 : Int) : St := ⟨[(0, .one (.c (.ro .int a0))), (1, .one (.c (.ro .int b1))), (5, .one (.c (.v (.int .i64 xi5))))], []⟩
def fin_laws_equalInts (a0 : List Int) (b1 : List Int) (kk : AV → List A1 → Prop) : Kt := fin TT con_laws_equalInts Try.f16.results.toList [.c .sc] [.c (.ro .int a0), .c (.ro .int b1)] kk
def kt0_laws_equalInts (kf : Kt) : Kt := blockK 0 (seqK (evF TT cs_laws_equalInts 26 an_laws_equalInts Try.f16 [1, 1, 1]) (kf))
theorem r0_laws_equalInts (a0 : List Int) (b1 : List Int) (kk : AV → List A1 → Prop) (n : Nat) (xi5 : Int) :
    iter (evF TT cs_laws_equalInts 26 an_laws_equalInts Try.f16 [1, 1, 0, 1, 0, 0]) nm0_laws_equalInts (kt0_laws_equalInts (fin_laws_equalInts a0 b1 kk)) (n + 1) (can0_laws_equalInts a0 b1 xi5) = T0_laws_equalInts a0 b1 xi5 (fun r0 => kk (.one (.c (.v (.bool r0)))) []) (fun xi5 => iter (evF TT cs_laws_equalInts 26 an_laws_equalInts Try.f16 [1, 1, 0, 1, 0, 0]) nm0_laws_equalInts (kt0_laws_equalInts (fin_laws_equalInts a0 b1 kk)) n (can0_laws_equalInts a0 b1 xi5)) := by kernel_rfl
theorem l0_laws_equalInts (a0 : List Int) (b1 : List Int) (kk : AV → List A1 → Prop) : ∀ (n : Nat) (xi5 : Int), iter (evF TT cs_laws_equalInts 26 an_laws_equalInts Try.f16 [1, 1, 0, 1, 0, 0]) nm0_laws_equalInts (kt0_laws_equalInts (fin_laws_equalInts a0 b1 kk)) n (can0_laws_equalInts a0 b1 xi5) = L0_laws_equalInts a0 b1 (fun r0 => kk (.one (.c (.v (.bool r0)))) []) n xi5 := by
  intro n
  induction n with
  | zero => intros; rfl
  | succ n ih =>
    intro xi5
    rw [r0_laws_equalInts a0 b1 kk n xi5]
    have hb : (fun xi5 => iter (evF TT cs_laws_equalInts 26 an_laws_equalInts Try.f16 [1, 1, 0, 1, 0, 0]) nm0_laws_equalInts (kt0_laws_equalInts (fin_laws_equalInts a0 b1 kk)) n (can0_laws_equalInts a0 b1 xi5)) = L0_laws_equalInts a0 b1 (fun r0 => kk (.one (.c (.v (.bool r0)))) []) n := by
      funext xi5; exact ih xi5
    rw [hb]
    rfl
theorem g_laws_equalInts (a0 : List Int) (b1 : List Int) (kk : AV → List A1 → Prop) :
    ev TT cs_laws_equalInts 26 an_laws_equalInts (Try.f16.body.getD .skip) (st0 con_laws_equalInts [.c (.ro .int a0), .c (.ro .int b1)]) (fin TT con_laws_equalInts Try.f16.results.toList [.c .sc] [.c (.ro .int a0), .c (.ro .int b1)] kk) = G_laws_equalInts a0 b1 (fun r0 => kk (.one (.c (.v (.bool r0)))) []) (fun a0 b1 xi5 => ∃ j, iter (evF TT cs_laws_equalInts 26 an_laws_equalInts Try.f16 [1, 1, 0, 1, 0, 0]) nm0_laws_equalInts (kt0_laws_equalInts (fin_laws_equalInts a0 b1 kk)) j (can0_laws_equalInts a0 b1 xi5)) := by kernel_rfl
theorem e_laws_equalInts (a0 : List Int) (b1 : List Int) (kk : AV → List A1 → Prop) :
    ev TT cs_laws_equalInts 26 an_laws_equalInts (Try.f16.body.getD .skip) (st0 con_laws_equalInts [.c (.ro .int a0), .c (.ro .int b1)]) (fin TT con_laws_equalInts Try.f16.results.toList [.c .sc] [.c (.ro .int a0), .c (.ro .int b1)] kk) = S_laws_equalInts a0 b1 (fun r0 => kk (.one (.c (.v (.bool r0)))) []) := by
  rw [g_laws_equalInts]
  have hi0 : (fun a0 b1 xi5 => ∃ j, iter (evF TT cs_laws_equalInts 26 an_laws_equalInts Try.f16 [1, 1, 0, 1, 0, 0]) nm0_laws_equalInts (kt0_laws_equalInts (fin_laws_equalInts a0 b1 kk)) j (can0_laws_equalInts a0 b1 xi5)) = (fun a0 b1 xi5 => ∃ j, L0_laws_equalInts a0 b1 (fun r0 => kk (.one (.c (.v (.bool r0)))) []) j xi5) := by
    funext a0 b1 xi5
    refine congrArg Exists (funext fun j => ?_)
    rw [l0_laws_equalInts a0 b1 kk j xi5]
  rw [hi0]
  rfl
theorem clok_laws_equalInts : ConOK Try.prog cl_laws_equalInts := consNil
theorem cok_laws_equalInts : ConsOK Try.prog 26 cs_laws_equalInts := ⟨clok_laws_equalInts, inlNil, ovNil⟩
theorem i_laws_equalInts {vs : List A1} {kk : AV → List A1 → Prop} {motive : List A1 → Prop} (h : con_laws_equalInts.F vs kk) (H : ∀ (a0 : List Int) (b1 : List Int), F_laws_equalInts a0 b1 (fun r0 => kk (.one (.c (.v (.bool r0)))) []) → motive [.c (.ro .int a0), .c (.ro .int b1)]) : motive vs := by
  unfold con_laws_equalInts at h
  dsimp only at h
  split at h
  · exact H _ _ h
  · exact h.elim
theorem h_laws_equalInts : Holds Try.prog 16 con_laws_equalInts := by
  refine holds_of_ev (rt := [.c .sc]) (T := TT) (Γ := cs_laws_equalInts) (an := an_laws_equalInts) (N := 26) (c := Try.f16.body.getD .skip) Try.func16 (by kernel_rfl) Try.ntmps16 (by decide) (by decide) mixed tabOK cok_laws_equalInts (by kernel_rfl) ?_
  intro vs kk _ hF
  exact i_laws_equalInts (motive := fun vs => Goes (ev TT cs_laws_equalInts 26 an_laws_equalInts (Try.f16.body.getD .skip) (st0 con_laws_equalInts vs) (fin TT con_laws_equalInts Try.f16.results.toList [.c .sc] vs kk))) hF (fun a0 b1 hF => goes_of (e_laws_equalInts a0 b1 kk) (F_laws_equalInts_S hF))
def con_impl_LoopTrace : Con := ⟨[.rd, .rd], true, [.c (.sc), .c (.sc)], fun vs k => match vs with
    | [.c (.v (.int .i64 n0)), .c (.v (.int .i64 length1))] => F_impl_LoopTrace n0 length1 (fun r0 => k (.one (.c (.ro .int r0))) [])
    | _ => False, false⟩
def cl_impl_LoopTrace : List (FuncId × Con) := []
def nm0_impl_LoopTrace : List NStep := [.keep [0, 5, 24, 25] [352]]
def an_impl_LoopTrace : Ann := ⟨[], [(5, nm0_impl_LoopTrace)], [], []⟩
def cs_impl_LoopTrace : Cons := ⟨cl_impl_LoopTrace, [], 0, [], [], []⟩
def can0_impl_LoopTrace (n0 : Int) (xt24 : Int) (xt25 : Int) (xy22 : List Int) : St := ⟨[(0, .one (.c (.v (.int .i64 n0)))), (5, .one (.c (.ow 352))), (24, .one (.c (.v (.int .i64 xt24)))), (25, .one (.c (.v (.int .i64 xt25))))], [(352, .row .int xy22)]⟩
def fin_impl_LoopTrace (n0 : Int) (length1 : Int) (kk : AV → List A1 → Prop) : Kt := fin TT con_impl_LoopTrace Try.f17.results.toList [.c (.sl .int)] [.c (.v (.int .i64 n0)), .c (.v (.int .i64 length1))] kk
def kt0_impl_LoopTrace (kf : Kt) : Kt := blockK 0 (seqK (evF TT cs_impl_LoopTrace 36 an_impl_LoopTrace Try.f17 [1, 1, 1, 1]) (kf))
theorem r0_impl_LoopTrace (n0 : Int) (length1 : Int) (xt24 : Int) (kk : AV → List A1 → Prop) (n : Nat) (xt25 : Int) (xy22 : List Int) :
    iter (evF TT cs_impl_LoopTrace 36 an_impl_LoopTrace Try.f17 [1, 1, 1, 0, 1, 0, 0]) nm0_impl_LoopTrace (kt0_impl_LoopTrace (fin_impl_LoopTrace n0 length1 kk)) (n + 1) (can0_impl_LoopTrace n0 xt24 xt25 xy22) = T0_impl_LoopTrace n0 xt24 xt25 xy22 (fun r0 => kk (.one (.c (.ro .int r0))) []) (fun xt25 xy22 => iter (evF TT cs_impl_LoopTrace 36 an_impl_LoopTrace Try.f17 [1, 1, 1, 0, 1, 0, 0]) nm0_impl_LoopTrace (kt0_impl_LoopTrace (fin_impl_LoopTrace n0 length1 kk)) n (can0_impl_LoopTrace n0 xt24 xt25 xy22)) := by kernel_rfl
theorem l0_impl_LoopTrace (n0 : Int) (length1 : Int) (xt24 : Int) (kk : AV → List A1 → Prop) : ∀ (n : Nat) (xt25 : Int) (xy22 : List Int), iter (evF TT cs_impl_LoopTrace 36 an_impl_LoopTrace Try.f17 [1, 1, 1, 0, 1, 0, 0]) nm0_impl_LoopTrace (kt0_impl_LoopTrace (fin_impl_LoopTrace n0 length1 kk)) n (can0_impl_LoopTrace n0 xt24 xt25 xy22) = L0_impl_LoopTrace n0 xt24 (fun r0 => kk (.one (.c (.ro .int r0))) []) n xt25 xy22 := by
  intro n
  induction n with
  | zero => intros; rfl
  | succ n ih =>
    intro xt25 xy22
    rw [r0_impl_LoopTrace n0 length1 xt24 kk n xt25 xy22]
    have hb : (fun xt25 xy22 => iter (evF TT cs_impl_LoopTrace 36 an_impl_LoopTrace Try.f17 [1, 1, 1, 0, 1, 0, 0]) nm0_impl_LoopTrace (kt0_impl_LoopTrace (fin_impl_LoopTrace n0 length1 kk)) n (can0_impl_LoopTrace n0 xt24 xt25 xy22)) = L0_impl_LoopTrace n0 xt24 (fun r0 => kk (.one (.c (.ro .int r0))) []) n := by
      funext xt25 xy22; exact ih xt25 xy22
    rw [hb]
    rfl
theorem g_impl_LoopTrace (n0 : Int) (length1 : Int) (kk : AV → List A1 → Prop) :
    ev TT cs_impl_LoopTrace 36 an_impl_LoopTrace (Try.f17.body.getD .skip) (st0 con_impl_LoopTrace [.c (.v (.int .i64 n0)), .c (.v (.int .i64 length1))]) (fin TT con_impl_LoopTrace Try.f17.results.toList [.c (.sl .int)] [.c (.v (.int .i64 n0)), .c (.v (.int .i64 length1))] kk) = G_impl_LoopTrace n0 length1 (fun r0 => kk (.one (.c (.ro .int r0))) []) (fun n0 xt24 xt25 xy22 => ∃ j, iter (evF TT cs_impl_LoopTrace 36 an_impl_LoopTrace Try.f17 [1, 1, 1, 0, 1, 0, 0]) nm0_impl_LoopTrace (kt0_impl_LoopTrace (fin_impl_LoopTrace n0 length1 kk)) j (can0_impl_LoopTrace n0 xt24 xt25 xy22)) := by kernel_rfl
theorem e_impl_LoopTrace (n0 : Int) (length1 : Int) (kk : AV → List A1 → Prop) :
    ev TT cs_impl_LoopTrace 36 an_impl_LoopTrace (Try.f17.body.getD .skip) (st0 con_impl_LoopTrace [.c (.v (.int .i64 n0)), .c (.v (.int .i64 length1))]) (fin TT con_impl_LoopTrace Try.f17.results.toList [.c (.sl .int)] [.c (.v (.int .i64 n0)), .c (.v (.int .i64 length1))] kk) = S_impl_LoopTrace n0 length1 (fun r0 => kk (.one (.c (.ro .int r0))) []) := by
  rw [g_impl_LoopTrace]
  have hi0 : (fun n0 xt24 xt25 xy22 => ∃ j, iter (evF TT cs_impl_LoopTrace 36 an_impl_LoopTrace Try.f17 [1, 1, 1, 0, 1, 0, 0]) nm0_impl_LoopTrace (kt0_impl_LoopTrace (fin_impl_LoopTrace n0 length1 kk)) j (can0_impl_LoopTrace n0 xt24 xt25 xy22)) = (fun n0 xt24 xt25 xy22 => ∃ j, L0_impl_LoopTrace n0 xt24 (fun r0 => kk (.one (.c (.ro .int r0))) []) j xt25 xy22) := by
    funext n0 xt24 xt25 xy22
    refine congrArg Exists (funext fun j => ?_)
    rw [l0_impl_LoopTrace n0 length1 xt24 kk j xt25 xy22]
  rw [hi0]
  rfl
theorem clok_impl_LoopTrace : ConOK Try.prog cl_impl_LoopTrace := consNil
theorem cok_impl_LoopTrace : ConsOK Try.prog 36 cs_impl_LoopTrace := ⟨clok_impl_LoopTrace, inlNil, ovNil⟩
theorem i_impl_LoopTrace {vs : List A1} {kk : AV → List A1 → Prop} {motive : List A1 → Prop} (h : con_impl_LoopTrace.F vs kk) (H : ∀ (n0 : Int) (length1 : Int), F_impl_LoopTrace n0 length1 (fun r0 => kk (.one (.c (.ro .int r0))) []) → motive [.c (.v (.int .i64 n0)), .c (.v (.int .i64 length1))]) : motive vs := by
  unfold con_impl_LoopTrace at h
  dsimp only at h
  split at h
  · exact H _ _ h
  · exact h.elim
theorem h_impl_LoopTrace : Holds Try.prog 17 con_impl_LoopTrace := by
  refine holds_of_ev (rt := [.c (.sl .int)]) (T := TT) (Γ := cs_impl_LoopTrace) (an := an_impl_LoopTrace) (N := 36) (c := Try.f17.body.getD .skip) Try.func17 (by kernel_rfl) Try.ntmps17 (by decide) (by decide) mixed tabOK cok_impl_LoopTrace (by kernel_rfl) ?_
  intro vs kk _ hF
  exact i_impl_LoopTrace (motive := fun vs => Goes (ev TT cs_impl_LoopTrace 36 an_impl_LoopTrace (Try.f17.body.getD .skip) (st0 con_impl_LoopTrace vs) (fin TT con_impl_LoopTrace Try.f17.results.toList [.c (.sl .int)] vs kk))) hF (fun n0 length1 hF => goes_of (e_impl_LoopTrace n0 length1 kk) (F_impl_LoopTrace_S hF))
def con_impl_RunRecent : Con := ⟨[.rd, .rd], true, [.c (.sl .int), .c (.sc)], fun vs k => match vs with
    | [.c (.ro .int t0), .c (.v (.int .i64 room1))] => F_impl_RunRecent t0 room1 (fun r0 r1 => k (.tup [.c (.ro .int r0), .c (.v (.int .i64 r1))]) [])
    | _ => False, false⟩
def cl_impl_RunRecent : List (FuncId × Con) := [(42, con_impl_runTrace)]
def an_impl_RunRecent : Ann := ⟨[], [], [], []⟩
def cs_impl_RunRecent : Cons := ⟨cl_impl_RunRecent, [], 0, [], [], []⟩
def fin_impl_RunRecent (t0 : List Int) (room1 : Int) (kk : AV → List A1 → Prop) : Kt := fin TT con_impl_RunRecent Try.f18.results.toList [.c (.sl .int), .c .sc] [.c (.ro .int t0), .c (.v (.int .i64 room1))] kk
theorem g_impl_RunRecent (t0 : List Int) (room1 : Int) (kk : AV → List A1 → Prop) :
    ev TT cs_impl_RunRecent 11 an_impl_RunRecent (Try.f18.body.getD .skip) (st0 con_impl_RunRecent [.c (.ro .int t0), .c (.v (.int .i64 room1))]) (fin TT con_impl_RunRecent Try.f18.results.toList [.c (.sl .int), .c .sc] [.c (.ro .int t0), .c (.v (.int .i64 room1))] kk) = G_impl_RunRecent t0 room1 (fun r0 r1 => kk (.tup [.c (.ro .int r0), .c (.v (.int .i64 r1))]) []) := by kernel_rfl
theorem e_impl_RunRecent (t0 : List Int) (room1 : Int) (kk : AV → List A1 → Prop) :
    ev TT cs_impl_RunRecent 11 an_impl_RunRecent (Try.f18.body.getD .skip) (st0 con_impl_RunRecent [.c (.ro .int t0), .c (.v (.int .i64 room1))]) (fin TT con_impl_RunRecent Try.f18.results.toList [.c (.sl .int), .c .sc] [.c (.ro .int t0), .c (.v (.int .i64 room1))] kk) = S_impl_RunRecent t0 room1 (fun r0 r1 => kk (.tup [.c (.ro .int r0), .c (.v (.int .i64 r1))]) []) := by
  rw [g_impl_RunRecent]
  rfl
theorem clok_impl_RunRecent : ConOK Try.prog cl_impl_RunRecent := consCons h_impl_runTrace ⟨Try.f42, Try.func42, by kernel_rfl, ne_of_beq (by kernel_rfl)⟩ (consNil)
theorem cok_impl_RunRecent : ConsOK Try.prog 11 cs_impl_RunRecent := ⟨clok_impl_RunRecent, inlNil, ovNil⟩
theorem i_impl_RunRecent {vs : List A1} {kk : AV → List A1 → Prop} {motive : List A1 → Prop} (h : con_impl_RunRecent.F vs kk) (H : ∀ (t0 : List Int) (room1 : Int), F_impl_RunRecent t0 room1 (fun r0 r1 => kk (.tup [.c (.ro .int r0), .c (.v (.int .i64 r1))]) []) → motive [.c (.ro .int t0), .c (.v (.int .i64 room1))]) : motive vs := by
  unfold con_impl_RunRecent at h
  dsimp only at h
  split at h
  · exact H _ _ h
  · exact h.elim
theorem h_impl_RunRecent : Holds Try.prog 18 con_impl_RunRecent := by
  refine holds_of_ev (rt := [.c (.sl .int), .c .sc]) (T := TT) (Γ := cs_impl_RunRecent) (an := an_impl_RunRecent) (N := 11) (c := Try.f18.body.getD .skip) Try.func18 (by kernel_rfl) Try.ntmps18 (by decide) (by decide) mixed tabOK cok_impl_RunRecent (by kernel_rfl) ?_
  intro vs kk _ hF
  exact i_impl_RunRecent (motive := fun vs => Goes (ev TT cs_impl_RunRecent 11 an_impl_RunRecent (Try.f18.body.getD .skip) (st0 con_impl_RunRecent vs) (fin TT con_impl_RunRecent Try.f18.results.toList [.c (.sl .int), .c .sc] vs kk))) hF (fun t0 room1 hF => goes_of (e_impl_RunRecent t0 room1 kk) (F_impl_RunRecent_S hF))
def con_laws_FnRunFirstLoop : Con := ⟨[.rd], true, [.c (.sl .u8)], fun vs k => match vs with
    | [.c (.ro .u8 code0)] => F_laws_FnRunFirstLoop code0 (fun r0 => k (.one (.c (.v (.bool r0)))) [])
    | _ => False, false⟩
def cl_laws_FnRunFirstLoop : List (FuncId × Con) := [(13, con_spec_DrawRunFirst), (14, con_impl_RunFirst), (15, con_spec_RunFirst), (16, con_laws_equalInts), (17, con_impl_LoopTrace), (18, con_impl_RunRecent)]
def an_laws_FnRunFirstLoop : Ann := ⟨[], [], [], []⟩
def cs_laws_FnRunFirstLoop : Cons := ⟨cl_laws_FnRunFirstLoop, [], 0, [], [], []⟩
def fin_laws_FnRunFirstLoop (code0 : List Int) (kk : AV → List A1 → Prop) : Kt := fin TT con_laws_FnRunFirstLoop Try.f3.results.toList [.c .sc] [.c (.ro .u8 code0)] kk
theorem g_laws_FnRunFirstLoop (code0 : List Int) (kk : AV → List A1 → Prop) :
    ev TT cs_laws_FnRunFirstLoop 91 an_laws_FnRunFirstLoop (Try.f3.body.getD .skip) (st0 con_laws_FnRunFirstLoop [.c (.ro .u8 code0)]) (fin TT con_laws_FnRunFirstLoop Try.f3.results.toList [.c .sc] [.c (.ro .u8 code0)] kk) = G_laws_FnRunFirstLoop code0 (fun r0 => kk (.one (.c (.v (.bool r0)))) []) := by kernel_rfl
theorem e_laws_FnRunFirstLoop (code0 : List Int) (kk : AV → List A1 → Prop) :
    ev TT cs_laws_FnRunFirstLoop 91 an_laws_FnRunFirstLoop (Try.f3.body.getD .skip) (st0 con_laws_FnRunFirstLoop [.c (.ro .u8 code0)]) (fin TT con_laws_FnRunFirstLoop Try.f3.results.toList [.c .sc] [.c (.ro .u8 code0)] kk) = S_laws_FnRunFirstLoop code0 (fun r0 => kk (.one (.c (.v (.bool r0)))) []) := by
  rw [g_laws_FnRunFirstLoop]
  rfl
theorem clok_laws_FnRunFirstLoop : ConOK Try.prog cl_laws_FnRunFirstLoop := consCons h_spec_DrawRunFirst ⟨Try.f13, Try.func13, by kernel_rfl, ne_of_beq (by kernel_rfl)⟩ (consCons h_impl_RunFirst ⟨Try.f14, Try.func14, by kernel_rfl, ne_of_beq (by kernel_rfl)⟩ (consCons h_spec_RunFirst ⟨Try.f15, Try.func15, by kernel_rfl, ne_of_beq (by kernel_rfl)⟩ (consCons h_laws_equalInts ⟨Try.f16, Try.func16, by kernel_rfl, ne_of_beq (by kernel_rfl)⟩ (consCons h_impl_LoopTrace ⟨Try.f17, Try.func17, by kernel_rfl, ne_of_beq (by kernel_rfl)⟩ (consCons h_impl_RunRecent ⟨Try.f18, Try.func18, by kernel_rfl, ne_of_beq (by kernel_rfl)⟩ (consNil))))))
theorem cok_laws_FnRunFirstLoop : ConsOK Try.prog 91 cs_laws_FnRunFirstLoop := ⟨clok_laws_FnRunFirstLoop, inlNil, ovNil⟩
theorem i_laws_FnRunFirstLoop {vs : List A1} {kk : AV → List A1 → Prop} {motive : List A1 → Prop} (h : con_laws_FnRunFirstLoop.F vs kk) (H : ∀ (code0 : List Int), F_laws_FnRunFirstLoop code0 (fun r0 => kk (.one (.c (.v (.bool r0)))) []) → motive [.c (.ro .u8 code0)]) : motive vs := by
  unfold con_laws_FnRunFirstLoop at h
  dsimp only at h
  split at h
  · exact H _ h
  · exact h.elim
theorem h_laws_FnRunFirstLoop : Holds Try.prog 3 con_laws_FnRunFirstLoop := by
  refine holds_of_ev (rt := [.c .sc]) (T := TT) (Γ := cs_laws_FnRunFirstLoop) (an := an_laws_FnRunFirstLoop) (N := 91) (c := Try.f3.body.getD .skip) Try.func3 (by kernel_rfl) Try.ntmps3 (by decide) (by decide) mixed tabOK cok_laws_FnRunFirstLoop (by kernel_rfl) ?_
  intro vs kk _ hF
  exact i_laws_FnRunFirstLoop (motive := fun vs => Goes (ev TT cs_laws_FnRunFirstLoop 91 an_laws_FnRunFirstLoop (Try.f3.body.getD .skip) (st0 con_laws_FnRunFirstLoop vs) (fin TT con_laws_FnRunFirstLoop Try.f3.results.toList [.c .sc] vs kk))) hF (fun code0 hF => goes_of (e_laws_FnRunFirstLoop code0 kk) (F_laws_FnRunFirstLoop_S hF))
end Go.Ev
