/- What the evaluator gives for these functions: their contracts. No statement is proved here. -/
import Derived.Test.YtemhpncmhdcheaaFnRunClockFirstP0
import Derived.Test.YtemhpncmhdcheaaTt
namespace Go.Ev
set_option linter.unusedVariables false
set_option linter.unusedSimpArgs false
set_option maxRecDepth 100000
open Go Go.Proofs
def con_spec_newReader : Con := ⟨[.rd], true, [.c (.sl .u8)], fun vs k => match vs with
    | [.c (.ro .u8 code0)] => F_spec_newReader code0 (fun r0 r1 => k (.one (.agg [.ro .u8 r0, .v (.int .i64 r1)])) [])
    | _ => False, true⟩
def cl_spec_newReader : List (FuncId × Con) := []
def an_spec_newReader : Ann := ⟨[], [], [], []⟩
def cs_spec_newReader : Cons := ⟨cl_spec_newReader, [], 0, [], [], []⟩
def fin_spec_newReader (code0 : List Int) (kk : AV → List A1 → Prop) : Kt := finB Try.f54.results.toList [.sl .u8, .sc] kk
theorem g_spec_newReader (code0 : List Int) (kk : AV → List A1 → Prop) :
    ev TT cs_spec_newReader 11 an_spec_newReader (Try.f54.body.getD .skip) (st0 con_spec_newReader [.c (.ro .u8 code0)]) (finB Try.f54.results.toList [.sl .u8, .sc] kk) = G_spec_newReader code0 (fun r0 r1 => kk (.one (.agg [.ro .u8 r0, .v (.int .i64 r1)])) []) := by kernel_rfl
theorem e_spec_newReader (code0 : List Int) (kk : AV → List A1 → Prop) :
    ev TT cs_spec_newReader 11 an_spec_newReader (Try.f54.body.getD .skip) (st0 con_spec_newReader [.c (.ro .u8 code0)]) (finB Try.f54.results.toList [.sl .u8, .sc] kk) = S_spec_newReader code0 (fun r0 r1 => kk (.one (.agg [.ro .u8 r0, .v (.int .i64 r1)])) []) := by
  rw [g_spec_newReader]
  rfl
theorem clok_spec_newReader : ConOK Try.prog cl_spec_newReader := consNil
theorem cok_spec_newReader : ConsOK Try.prog 11 cs_spec_newReader := ⟨clok_spec_newReader, inlNil, ovNil⟩
theorem i_spec_newReader {vs : List A1} {kk : AV → List A1 → Prop} {motive : List A1 → Prop} (h : con_spec_newReader.F vs kk) (H : ∀ (code0 : List Int), F_spec_newReader code0 (fun r0 r1 => kk (.one (.agg [.ro .u8 r0, .v (.int .i64 r1)])) []) → motive [.c (.ro .u8 code0)]) : motive vs := by
  unfold con_spec_newReader at h
  dsimp only at h
  split at h
  · exact H _ h
  · exact h.elim
theorem h_spec_newReader : HoldsB Try.prog 54 con_spec_newReader := by
  refine holdsB_of_ev (ts := [.sl .u8, .sc]) (T := TT) (Γ := cs_spec_newReader) (an := an_spec_newReader) (N := 11) (c := Try.f54.body.getD .skip) Try.func54 (by kernel_rfl) Try.ntmps54 (by decide) (by decide) mixed tabOK cok_spec_newReader (by kernel_rfl) ?_
  intro vs kk _ hF
  exact i_spec_newReader (motive := fun vs => Goes (ev TT cs_spec_newReader 11 an_spec_newReader (Try.f54.body.getD .skip) (st0 con_spec_newReader vs) (finB Try.f54.results.toList [.sl .u8, .sc] kk))) hF (fun code0 hF => goes_of (e_spec_newReader code0 kk) (F_spec_newReader_S hF))
def con_spec_reader_pick : Con := ⟨[.mu, .rd], true, [.ptr [.sl .u8, .sc], .c (.sc)], fun vs k => match vs with
    | [.ptr [.ro .u8 r0b, .v (.int .i64 r0p)], .c (.v (.int .i64 n1))] => F_spec_reader_pick r0b r0p n1 (fun r0 r1 r2 => k (.one (.c (.v (.int .i64 r0)))) [.ptr [.ro .u8 r1, .v (.int .i64 r2)]])
    | _ => False, false⟩
def cl_spec_reader_pick : List (FuncId × Con) := []
def an_spec_reader_pick : Ann := ⟨[(7, .take 0 (.take 1 (.take 2 (.take 3 (.take 4 (.take 5 (.take 6 (.take 7 (.take 8 (.take 9 (.take 10 (.take 11 (.take 12 (.take 13 (.take 14 (.take 15 (.take 16 (.take 17 (.take 18 (.take 19 (.take 20 (.take 21 (.take 22 (.take 23 (.take 24 (.take 25 (.take 26 (.take 27 (.take 28 (.take 29 (.take 30 (.take 31 (.take 32 (.take 33 (.take 34 (.take 35 (.take 36 (.take 37 (.take 38 (.take 39 (.take 40 (.take 41 (.take 42 (.take 43 (.take 44 (.take 45 (.done)))))))))))))))))))))))))))))))))))))))))))))), [100000])], [], [], []⟩
def cs_spec_reader_pick : Cons := ⟨cl_spec_reader_pick, [], 0, [], [], []⟩
def fin_spec_reader_pick (r0b : List Int) (r0p : Int) (n1 : Int) (kk : AV → List A1 → Prop) : Kt := fin TT con_spec_reader_pick Try.f62.results.toList [.c .sc] [.ptr [.ro .u8 r0b, .v (.int .i64 r0p)], .c (.v (.int .i64 n1))] kk
theorem g_spec_reader_pick (r0b : List Int) (r0p : Int) (n1 : Int) (kk : AV → List A1 → Prop) :
    ev TT cs_spec_reader_pick 99 an_spec_reader_pick (Try.f62.body.getD .skip) (st0 con_spec_reader_pick [.ptr [.ro .u8 r0b, .v (.int .i64 r0p)], .c (.v (.int .i64 n1))]) (fin TT con_spec_reader_pick Try.f62.results.toList [.c .sc] [.ptr [.ro .u8 r0b, .v (.int .i64 r0p)], .c (.v (.int .i64 n1))] kk) = G_spec_reader_pick r0b r0p n1 (fun r0 r1 r2 => kk (.one (.c (.v (.int .i64 r0)))) [.ptr [.ro .u8 r1, .v (.int .i64 r2)]]) := by kernel_rfl
theorem e_spec_reader_pick (r0b : List Int) (r0p : Int) (n1 : Int) (kk : AV → List A1 → Prop) :
    ev TT cs_spec_reader_pick 99 an_spec_reader_pick (Try.f62.body.getD .skip) (st0 con_spec_reader_pick [.ptr [.ro .u8 r0b, .v (.int .i64 r0p)], .c (.v (.int .i64 n1))]) (fin TT con_spec_reader_pick Try.f62.results.toList [.c .sc] [.ptr [.ro .u8 r0b, .v (.int .i64 r0p)], .c (.v (.int .i64 n1))] kk) = S_spec_reader_pick r0b r0p n1 (fun r0 r1 r2 => kk (.one (.c (.v (.int .i64 r0)))) [.ptr [.ro .u8 r1, .v (.int .i64 r2)]]) := by
  rw [g_spec_reader_pick]
  rfl
theorem clok_spec_reader_pick : ConOK Try.prog cl_spec_reader_pick := consNil
theorem cok_spec_reader_pick : ConsOK Try.prog 99 cs_spec_reader_pick := ⟨clok_spec_reader_pick, inlNil, ovNil⟩
theorem i_spec_reader_pick {vs : List A1} {kk : AV → List A1 → Prop} {motive : List A1 → Prop} (h : con_spec_reader_pick.F vs kk) (H : ∀ (r0b : List Int) (r0p : Int) (n1 : Int), F_spec_reader_pick r0b r0p n1 (fun r0 r1 r2 => kk (.one (.c (.v (.int .i64 r0)))) [.ptr [.ro .u8 r1, .v (.int .i64 r2)]]) → motive [.ptr [.ro .u8 r0b, .v (.int .i64 r0p)], .c (.v (.int .i64 n1))]) : motive vs := by
  unfold con_spec_reader_pick at h
  dsimp only at h
  split at h
  · exact H _ _ _ h
  · exact h.elim
theorem h_spec_reader_pick : Holds Try.prog 62 con_spec_reader_pick := by
  refine holds_of_ev (rt := [.c .sc]) (T := TT) (Γ := cs_spec_reader_pick) (an := an_spec_reader_pick) (N := 99) (c := Try.f62.body.getD .skip) Try.func62 (by kernel_rfl) Try.ntmps62 (by decide) (by decide) mixed tabOK cok_spec_reader_pick (by kernel_rfl) ?_
  intro vs kk _ hF
  exact i_spec_reader_pick (motive := fun vs => Goes (ev TT cs_spec_reader_pick 99 an_spec_reader_pick (Try.f62.body.getD .skip) (st0 con_spec_reader_pick vs) (fin TT con_spec_reader_pick Try.f62.results.toList [.c .sc] vs kk))) hF (fun r0b r0p n1 hF => goes_of (e_spec_reader_pick r0b r0p n1 kk) (F_spec_reader_pick_S hF))
def con_spec_reader_one : Con := ⟨[.mu, .rd], true, [.ptr [.sl .u8, .sc], .c (.sl .int)], fun vs k => match vs with
    | [.ptr [.ro .u8 r0b, .v (.int .i64 r0p)], .c (.ro .int list1)] => F_spec_reader_one r0b r0p list1 (fun r0 r1 r2 => k (.one (.c (.v (.int .i64 r0)))) [.ptr [.ro .u8 r1, .v (.int .i64 r2)]])
    | _ => False, false⟩
def cl_spec_reader_one : List (FuncId × Con) := [(62, con_spec_reader_pick)]
def an_spec_reader_one : Ann := ⟨[], [], [], []⟩
def cs_spec_reader_one : Cons := ⟨cl_spec_reader_one, [], 0, [], [], []⟩
def fin_spec_reader_one (r0b : List Int) (r0p : Int) (list1 : List Int) (kk : AV → List A1 → Prop) : Kt := fin TT con_spec_reader_one Try.f55.results.toList [.c .sc] [.ptr [.ro .u8 r0b, .v (.int .i64 r0p)], .c (.ro .int list1)] kk
theorem g_spec_reader_one (r0b : List Int) (r0p : Int) (list1 : List Int) (kk : AV → List A1 → Prop) :
    ev TT cs_spec_reader_one 12 an_spec_reader_one (Try.f55.body.getD .skip) (st0 con_spec_reader_one [.ptr [.ro .u8 r0b, .v (.int .i64 r0p)], .c (.ro .int list1)]) (fin TT con_spec_reader_one Try.f55.results.toList [.c .sc] [.ptr [.ro .u8 r0b, .v (.int .i64 r0p)], .c (.ro .int list1)] kk) = G_spec_reader_one r0b r0p list1 (fun r0 r1 r2 => kk (.one (.c (.v (.int .i64 r0)))) [.ptr [.ro .u8 r1, .v (.int .i64 r2)]]) := by kernel_rfl
theorem e_spec_reader_one (r0b : List Int) (r0p : Int) (list1 : List Int) (kk : AV → List A1 → Prop) :
    ev TT cs_spec_reader_one 12 an_spec_reader_one (Try.f55.body.getD .skip) (st0 con_spec_reader_one [.ptr [.ro .u8 r0b, .v (.int .i64 r0p)], .c (.ro .int list1)]) (fin TT con_spec_reader_one Try.f55.results.toList [.c .sc] [.ptr [.ro .u8 r0b, .v (.int .i64 r0p)], .c (.ro .int list1)] kk) = S_spec_reader_one r0b r0p list1 (fun r0 r1 r2 => kk (.one (.c (.v (.int .i64 r0)))) [.ptr [.ro .u8 r1, .v (.int .i64 r2)]]) := by
  rw [g_spec_reader_one]
  rfl
theorem clok_spec_reader_one : ConOK Try.prog cl_spec_reader_one := consCons h_spec_reader_pick ⟨Try.f62, Try.func62, by kernel_rfl, ne_of_beq (by kernel_rfl)⟩ (consNil)
theorem cok_spec_reader_one : ConsOK Try.prog 12 cs_spec_reader_one := ⟨clok_spec_reader_one, inlNil, ovNil⟩
theorem i_spec_reader_one {vs : List A1} {kk : AV → List A1 → Prop} {motive : List A1 → Prop} (h : con_spec_reader_one.F vs kk) (H : ∀ (r0b : List Int) (r0p : Int) (list1 : List Int), F_spec_reader_one r0b r0p list1 (fun r0 r1 r2 => kk (.one (.c (.v (.int .i64 r0)))) [.ptr [.ro .u8 r1, .v (.int .i64 r2)]]) → motive [.ptr [.ro .u8 r0b, .v (.int .i64 r0p)], .c (.ro .int list1)]) : motive vs := by
  unfold con_spec_reader_one at h
  dsimp only at h
  split at h
  · exact H _ _ _ h
  · exact h.elim
theorem h_spec_reader_one : Holds Try.prog 55 con_spec_reader_one := by
  refine holds_of_ev (rt := [.c .sc]) (T := TT) (Γ := cs_spec_reader_one) (an := an_spec_reader_one) (N := 12) (c := Try.f55.body.getD .skip) Try.func55 (by kernel_rfl) Try.ntmps55 (by decide) (by decide) mixed tabOK cok_spec_reader_one (by kernel_rfl) ?_
  intro vs kk _ hF
  exact i_spec_reader_one (motive := fun vs => Goes (ev TT cs_spec_reader_one 12 an_spec_reader_one (Try.f55.body.getD .skip) (st0 con_spec_reader_one vs) (fin TT con_spec_reader_one Try.f55.results.toList [.c .sc] vs kk))) hF (fun r0b r0p list1 hF => goes_of (e_spec_reader_one r0b r0p list1 kk) (F_spec_reader_one_S hF))
def con_spec_copyInts : Con := ⟨[.rd], true, [.c (.sl .int)], fun vs k => match vs with
    | [.c (.ro .int list0)] => F_spec_copyInts list0 (fun r0 => k (.one (.c (.ro .int r0))) [])
    | _ => False, false⟩
def cl_spec_copyInts : List (FuncId × Con) := []
def an_spec_copyInts : Ann := ⟨[], [], [], []⟩
def cs_spec_copyInts : Cons := ⟨cl_spec_copyInts, [], 0, [], [], []⟩
def fin_spec_copyInts (list0 : List Int) (kk : AV → List A1 → Prop) : Kt := fin TT con_spec_copyInts Try.f76.results.toList [.c (.sl .int)] [.c (.ro .int list0)] kk
theorem g_spec_copyInts (list0 : List Int) (kk : AV → List A1 → Prop) :
    ev TT cs_spec_copyInts 6 an_spec_copyInts (Try.f76.body.getD .skip) (st0 con_spec_copyInts [.c (.ro .int list0)]) (fin TT con_spec_copyInts Try.f76.results.toList [.c (.sl .int)] [.c (.ro .int list0)] kk) = G_spec_copyInts list0 (fun r0 => kk (.one (.c (.ro .int r0))) []) := by kernel_rfl
theorem e_spec_copyInts (list0 : List Int) (kk : AV → List A1 → Prop) :
    ev TT cs_spec_copyInts 6 an_spec_copyInts (Try.f76.body.getD .skip) (st0 con_spec_copyInts [.c (.ro .int list0)]) (fin TT con_spec_copyInts Try.f76.results.toList [.c (.sl .int)] [.c (.ro .int list0)] kk) = S_spec_copyInts list0 (fun r0 => kk (.one (.c (.ro .int r0))) []) := by
  rw [g_spec_copyInts]
  rfl
theorem clok_spec_copyInts : ConOK Try.prog cl_spec_copyInts := consNil
theorem cok_spec_copyInts : ConsOK Try.prog 6 cs_spec_copyInts := ⟨clok_spec_copyInts, inlNil, ovNil⟩
theorem i_spec_copyInts {vs : List A1} {kk : AV → List A1 → Prop} {motive : List A1 → Prop} (h : con_spec_copyInts.F vs kk) (H : ∀ (list0 : List Int), F_spec_copyInts list0 (fun r0 => kk (.one (.c (.ro .int r0))) []) → motive [.c (.ro .int list0)]) : motive vs := by
  unfold con_spec_copyInts at h
  dsimp only at h
  split at h
  · exact H _ h
  · exact h.elim
theorem h_spec_copyInts : Holds Try.prog 76 con_spec_copyInts := by
  refine holds_of_ev (rt := [.c (.sl .int)]) (T := TT) (Γ := cs_spec_copyInts) (an := an_spec_copyInts) (N := 6) (c := Try.f76.body.getD .skip) Try.func76 (by kernel_rfl) Try.ntmps76 (by decide) (by decide) mixed tabOK cok_spec_copyInts (by kernel_rfl) ?_
  intro vs kk _ hF
  exact i_spec_copyInts (motive := fun vs => Goes (ev TT cs_spec_copyInts 6 an_spec_copyInts (Try.f76.body.getD .skip) (st0 con_spec_copyInts vs) (fin TT con_spec_copyInts Try.f76.results.toList [.c (.sl .int)] vs kk))) hF (fun list0 hF => goes_of (e_spec_copyInts list0 kk) (F_spec_copyInts_S hF))
def con_spec_reader_spoil : Con := ⟨[.mu, .rd, .rd], true, [.ptr [.sl .u8, .sc], .c (.sl .int), .c (.sc)], fun vs k => match vs with
    | [.ptr [.ro .u8 r0b, .v (.int .i64 r0p)], .c (.ro .int list1), .c (.v (.int .i64 n2))] => F_spec_reader_spoil r0b r0p list1 n2 (fun r0 r1 r2 => k (.one (.c (.ro .int r0))) [.ptr [.ro .u8 r1, .v (.int .i64 r2)]])
    | _ => False, false⟩
def cl_spec_reader_spoil : List (FuncId × Con) := [(55, con_spec_reader_one), (62, con_spec_reader_pick), (76, con_spec_copyInts)]
def an_spec_reader_spoil : Ann := ⟨[], [], [], []⟩
def cs_spec_reader_spoil : Cons := ⟨cl_spec_reader_spoil, [], 0, [], [], []⟩
def fin_spec_reader_spoil (r0b : List Int) (r0p : Int) (list1 : List Int) (n2 : Int) (kk : AV → List A1 → Prop) : Kt := fin TT con_spec_reader_spoil Try.f77.results.toList [.c (.sl .int)] [.ptr [.ro .u8 r0b, .v (.int .i64 r0p)], .c (.ro .int list1), .c (.v (.int .i64 n2))] kk
theorem g_spec_reader_spoil (r0b : List Int) (r0p : Int) (list1 : List Int) (n2 : Int) (kk : AV → List A1 → Prop) :
    ev TT cs_spec_reader_spoil 41 an_spec_reader_spoil (Try.f77.body.getD .skip) (st0 con_spec_reader_spoil [.ptr [.ro .u8 r0b, .v (.int .i64 r0p)], .c (.ro .int list1), .c (.v (.int .i64 n2))]) (fin TT con_spec_reader_spoil Try.f77.results.toList [.c (.sl .int)] [.ptr [.ro .u8 r0b, .v (.int .i64 r0p)], .c (.ro .int list1), .c (.v (.int .i64 n2))] kk) = G_spec_reader_spoil r0b r0p list1 n2 (fun r0 r1 r2 => kk (.one (.c (.ro .int r0))) [.ptr [.ro .u8 r1, .v (.int .i64 r2)]]) := by kernel_rfl
theorem e_spec_reader_spoil (r0b : List Int) (r0p : Int) (list1 : List Int) (n2 : Int) (kk : AV → List A1 → Prop) :
    ev TT cs_spec_reader_spoil 41 an_spec_reader_spoil (Try.f77.body.getD .skip) (st0 con_spec_reader_spoil [.ptr [.ro .u8 r0b, .v (.int .i64 r0p)], .c (.ro .int list1), .c (.v (.int .i64 n2))]) (fin TT con_spec_reader_spoil Try.f77.results.toList [.c (.sl .int)] [.ptr [.ro .u8 r0b, .v (.int .i64 r0p)], .c (.ro .int list1), .c (.v (.int .i64 n2))] kk) = S_spec_reader_spoil r0b r0p list1 n2 (fun r0 r1 r2 => kk (.one (.c (.ro .int r0))) [.ptr [.ro .u8 r1, .v (.int .i64 r2)]]) := by
  rw [g_spec_reader_spoil]
  rfl
theorem clok_spec_reader_spoil : ConOK Try.prog cl_spec_reader_spoil := consCons h_spec_reader_one ⟨Try.f55, Try.func55, by kernel_rfl, ne_of_beq (by kernel_rfl)⟩ (consCons h_spec_reader_pick ⟨Try.f62, Try.func62, by kernel_rfl, ne_of_beq (by kernel_rfl)⟩ (consCons h_spec_copyInts ⟨Try.f76, Try.func76, by kernel_rfl, ne_of_beq (by kernel_rfl)⟩ (consNil)))
theorem cok_spec_reader_spoil : ConsOK Try.prog 41 cs_spec_reader_spoil := ⟨clok_spec_reader_spoil, inlNil, ovNil⟩
theorem i_spec_reader_spoil {vs : List A1} {kk : AV → List A1 → Prop} {motive : List A1 → Prop} (h : con_spec_reader_spoil.F vs kk) (H : ∀ (r0b : List Int) (r0p : Int) (list1 : List Int) (n2 : Int), F_spec_reader_spoil r0b r0p list1 n2 (fun r0 r1 r2 => kk (.one (.c (.ro .int r0))) [.ptr [.ro .u8 r1, .v (.int .i64 r2)]]) → motive [.ptr [.ro .u8 r0b, .v (.int .i64 r0p)], .c (.ro .int list1), .c (.v (.int .i64 n2))]) : motive vs := by
  unfold con_spec_reader_spoil at h
  dsimp only at h
  split at h
  · exact H _ _ _ _ h
  · exact h.elim
theorem h_spec_reader_spoil : Holds Try.prog 77 con_spec_reader_spoil := by
  refine holds_of_ev (rt := [.c (.sl .int)]) (T := TT) (Γ := cs_spec_reader_spoil) (an := an_spec_reader_spoil) (N := 41) (c := Try.f77.body.getD .skip) Try.func77 (by kernel_rfl) Try.ntmps77 (by decide) (by decide) mixed tabOK cok_spec_reader_spoil (by kernel_rfl) ?_
  intro vs kk _ hF
  exact i_spec_reader_spoil (motive := fun vs => Goes (ev TT cs_spec_reader_spoil 41 an_spec_reader_spoil (Try.f77.body.getD .skip) (st0 con_spec_reader_spoil vs) (fin TT con_spec_reader_spoil Try.f77.results.toList [.c (.sl .int)] vs kk))) hF (fun r0b r0p list1 n2 hF => goes_of (e_spec_reader_spoil r0b r0p list1 n2 kk) (F_spec_reader_spoil_S hF))
def con_spec_someTrace : Con := ⟨[.mu], true, [.ptr [.sl .u8, .sc]], fun vs k => match vs with
    | [.ptr [.ro .u8 r0b, .v (.int .i64 r0p)]] => F_spec_someTrace r0b r0p (fun r0 r1 r2 => k (.one (.c (.ro .int r0))) [.ptr [.ro .u8 r1, .v (.int .i64 r2)]])
    | _ => False, false⟩
def cl_spec_someTrace : List (FuncId × Con) := [(55, con_spec_reader_one), (62, con_spec_reader_pick), (77, con_spec_reader_spoil)]
def nm0_spec_someTrace : List NStep := [.own 3 .int 90000, .keep [0, 3, 4, 5] [100000, 90000]]
def an_spec_someTrace : Ann := ⟨[], [(4, nm0_spec_someTrace)], [], []⟩
def cs_spec_someTrace : Cons := ⟨cl_spec_someTrace, [], 0, [], [], []⟩
def can0_spec_someTrace (one10 : Int) (xn5 : Int) (xb100000c0 : List Int) (xb100000c1 : Int) (xout3 : List Int) : St := ⟨[(0, .one (.c (.pb 100000 0))), (3, .one (.c (.ow 90000))), (4, .one (.c (.v (.int .i64 one10)))), (5, .one (.c (.v (.int .i64 xn5))))], [(100000, .box [.ro .u8 xb100000c0, .v (.int .i64 xb100000c1)]), (90000, .row .int xout3)]⟩
def fin_spec_someTrace (r0b : List Int) (r0p : Int) (kk : AV → List A1 → Prop) : Kt := fin TT con_spec_someTrace Try.f61.results.toList [.c (.sl .int)] [.ptr [.ro .u8 r0b, .v (.int .i64 r0p)]] kk
def kt0_spec_someTrace (kf : Kt) : Kt := blockK 0 (seqK (evF TT cs_spec_someTrace 56 an_spec_someTrace Try.f61 [1, 1, 1, 1]) (kf))
theorem r0_spec_someTrace (r0b : List Int) (r0p : Int) (one10 : Int) (kk : AV → List A1 → Prop) (n : Nat) (xn5 : Int) (xb100000c0 : List Int) (xb100000c1 : Int) (xout3 : List Int) :
    iter (evF TT cs_spec_someTrace 56 an_spec_someTrace Try.f61 [1, 1, 1, 0, 1, 0, 0]) nm0_spec_someTrace (kt0_spec_someTrace (fin_spec_someTrace r0b r0p kk)) (n + 1) (can0_spec_someTrace one10 xn5 xb100000c0 xb100000c1 xout3) = T0_spec_someTrace one10 xn5 xb100000c0 xb100000c1 xout3 (fun r0 r1 r2 => kk (.one (.c (.ro .int r0))) [.ptr [.ro .u8 r1, .v (.int .i64 r2)]]) (fun xn5 xb100000c0 xb100000c1 xout3 => iter (evF TT cs_spec_someTrace 56 an_spec_someTrace Try.f61 [1, 1, 1, 0, 1, 0, 0]) nm0_spec_someTrace (kt0_spec_someTrace (fin_spec_someTrace r0b r0p kk)) n (can0_spec_someTrace one10 xn5 xb100000c0 xb100000c1 xout3)) := by kernel_rfl
theorem l0_spec_someTrace (r0b : List Int) (r0p : Int) (one10 : Int) (kk : AV → List A1 → Prop) : ∀ (n : Nat) (xn5 : Int) (xb100000c0 : List Int) (xb100000c1 : Int) (xout3 : List Int), iter (evF TT cs_spec_someTrace 56 an_spec_someTrace Try.f61 [1, 1, 1, 0, 1, 0, 0]) nm0_spec_someTrace (kt0_spec_someTrace (fin_spec_someTrace r0b r0p kk)) n (can0_spec_someTrace one10 xn5 xb100000c0 xb100000c1 xout3) = L0_spec_someTrace one10 (fun r0 r1 r2 => kk (.one (.c (.ro .int r0))) [.ptr [.ro .u8 r1, .v (.int .i64 r2)]]) n xn5 xb100000c0 xb100000c1 xout3 := by
  intro n
  induction n with
  | zero => intros; rfl
  | succ n ih =>
    intro xn5 xb100000c0 xb100000c1 xout3
    rw [r0_spec_someTrace r0b r0p one10 kk n xn5 xb100000c0 xb100000c1 xout3]
    have hb : (fun xn5 xb100000c0 xb100000c1 xout3 => iter (evF TT cs_spec_someTrace 56 an_spec_someTrace Try.f61 [1, 1, 1, 0, 1, 0, 0]) nm0_spec_someTrace (kt0_spec_someTrace (fin_spec_someTrace r0b r0p kk)) n (can0_spec_someTrace one10 xn5 xb100000c0 xb100000c1 xout3)) = L0_spec_someTrace one10 (fun r0 r1 r2 => kk (.one (.c (.ro .int r0))) [.ptr [.ro .u8 r1, .v (.int .i64 r2)]]) n := by
      funext xn5 xb100000c0 xb100000c1 xout3; exact ih xn5 xb100000c0 xb100000c1 xout3
    rw [hb]
    rfl
theorem g_spec_someTrace (r0b : List Int) (r0p : Int) (kk : AV → List A1 → Prop) :
    ev TT cs_spec_someTrace 56 an_spec_someTrace (Try.f61.body.getD .skip) (st0 con_spec_someTrace [.ptr [.ro .u8 r0b, .v (.int .i64 r0p)]]) (fin TT con_spec_someTrace Try.f61.results.toList [.c (.sl .int)] [.ptr [.ro .u8 r0b, .v (.int .i64 r0p)]] kk) = G_spec_someTrace r0b r0p (fun one10 xn5 xb100000c0 xb100000c1 xout3 => ∃ j, iter (evF TT cs_spec_someTrace 56 an_spec_someTrace Try.f61 [1, 1, 1, 0, 1, 0, 0]) nm0_spec_someTrace (kt0_spec_someTrace (fin_spec_someTrace r0b r0p kk)) j (can0_spec_someTrace one10 xn5 xb100000c0 xb100000c1 xout3)) := by kernel_rfl
theorem e_spec_someTrace (r0b : List Int) (r0p : Int) (kk : AV → List A1 → Prop) :
    ev TT cs_spec_someTrace 56 an_spec_someTrace (Try.f61.body.getD .skip) (st0 con_spec_someTrace [.ptr [.ro .u8 r0b, .v (.int .i64 r0p)]]) (fin TT con_spec_someTrace Try.f61.results.toList [.c (.sl .int)] [.ptr [.ro .u8 r0b, .v (.int .i64 r0p)]] kk) = S_spec_someTrace r0b r0p (fun r0 r1 r2 => kk (.one (.c (.ro .int r0))) [.ptr [.ro .u8 r1, .v (.int .i64 r2)]]) := by
  rw [g_spec_someTrace]
  have hi0 : (fun one10 xn5 xb100000c0 xb100000c1 xout3 => ∃ j, iter (evF TT cs_spec_someTrace 56 an_spec_someTrace Try.f61 [1, 1, 1, 0, 1, 0, 0]) nm0_spec_someTrace (kt0_spec_someTrace (fin_spec_someTrace r0b r0p kk)) j (can0_spec_someTrace one10 xn5 xb100000c0 xb100000c1 xout3)) = (fun one10 xn5 xb100000c0 xb100000c1 xout3 => ∃ j, L0_spec_someTrace one10 (fun r0 r1 r2 => kk (.one (.c (.ro .int r0))) [.ptr [.ro .u8 r1, .v (.int .i64 r2)]]) j xn5 xb100000c0 xb100000c1 xout3) := by
    funext one10 xn5 xb100000c0 xb100000c1 xout3
    refine congrArg Exists (funext fun j => ?_)
    rw [l0_spec_someTrace r0b r0p one10 kk j xn5 xb100000c0 xb100000c1 xout3]
  rw [hi0]
  rfl
theorem clok_spec_someTrace : ConOK Try.prog cl_spec_someTrace := consCons h_spec_reader_one ⟨Try.f55, Try.func55, by kernel_rfl, ne_of_beq (by kernel_rfl)⟩ (consCons h_spec_reader_pick ⟨Try.f62, Try.func62, by kernel_rfl, ne_of_beq (by kernel_rfl)⟩ (consCons h_spec_reader_spoil ⟨Try.f77, Try.func77, by kernel_rfl, ne_of_beq (by kernel_rfl)⟩ (consNil)))
theorem cok_spec_someTrace : ConsOK Try.prog 56 cs_spec_someTrace := ⟨clok_spec_someTrace, inlNil, ovNil⟩
theorem i_spec_someTrace {vs : List A1} {kk : AV → List A1 → Prop} {motive : List A1 → Prop} (h : con_spec_someTrace.F vs kk) (H : ∀ (r0b : List Int) (r0p : Int), F_spec_someTrace r0b r0p (fun r0 r1 r2 => kk (.one (.c (.ro .int r0))) [.ptr [.ro .u8 r1, .v (.int .i64 r2)]]) → motive [.ptr [.ro .u8 r0b, .v (.int .i64 r0p)]]) : motive vs := by
  unfold con_spec_someTrace at h
  dsimp only at h
  split at h
  · exact H _ _ h
  · exact h.elim
theorem h_spec_someTrace : Holds Try.prog 61 con_spec_someTrace := by
  refine holds_of_ev (rt := [.c (.sl .int)]) (T := TT) (Γ := cs_spec_someTrace) (an := an_spec_someTrace) (N := 56) (c := Try.f61.body.getD .skip) Try.func61 (by kernel_rfl) Try.ntmps61 (by decide) (by decide) mixed tabOK cok_spec_someTrace (by kernel_rfl) ?_
  intro vs kk _ hF
  exact i_spec_someTrace (motive := fun vs => Goes (ev TT cs_spec_someTrace 56 an_spec_someTrace (Try.f61.body.getD .skip) (st0 con_spec_someTrace vs) (fin TT con_spec_someTrace Try.f61.results.toList [.c (.sl .int)] vs kk))) hF (fun r0b r0p hF => goes_of (e_spec_someTrace r0b r0p kk) (F_spec_someTrace_S hF))
def con_spec_someRoom : Con := ⟨[.mu], true, [.ptr [.sl .u8, .sc]], fun vs k => match vs with
    | [.ptr [.ro .u8 r0b, .v (.int .i64 r0p)]] => F_spec_someRoom r0b r0p (fun r0 r1 r2 => k (.one (.c (.v (.int .i64 r0)))) [.ptr [.ro .u8 r1, .v (.int .i64 r2)]])
    | _ => False, false⟩
def cl_spec_someRoom : List (FuncId × Con) := [(55, con_spec_reader_one)]
def an_spec_someRoom : Ann := ⟨[], [], [], []⟩
def cs_spec_someRoom : Cons := ⟨cl_spec_someRoom, [], 0, [], [], []⟩
def fin_spec_someRoom (r0b : List Int) (r0p : Int) (kk : AV → List A1 → Prop) : Kt := fin TT con_spec_someRoom Try.f66.results.toList [.c .sc] [.ptr [.ro .u8 r0b, .v (.int .i64 r0p)]] kk
theorem g_spec_someRoom (r0b : List Int) (r0p : Int) (kk : AV → List A1 → Prop) :
    ev TT cs_spec_someRoom 6 an_spec_someRoom (Try.f66.body.getD .skip) (st0 con_spec_someRoom [.ptr [.ro .u8 r0b, .v (.int .i64 r0p)]]) (fin TT con_spec_someRoom Try.f66.results.toList [.c .sc] [.ptr [.ro .u8 r0b, .v (.int .i64 r0p)]] kk) = G_spec_someRoom r0b r0p (fun r0 r1 r2 => kk (.one (.c (.v (.int .i64 r0)))) [.ptr [.ro .u8 r1, .v (.int .i64 r2)]]) := by kernel_rfl
theorem e_spec_someRoom (r0b : List Int) (r0p : Int) (kk : AV → List A1 → Prop) :
    ev TT cs_spec_someRoom 6 an_spec_someRoom (Try.f66.body.getD .skip) (st0 con_spec_someRoom [.ptr [.ro .u8 r0b, .v (.int .i64 r0p)]]) (fin TT con_spec_someRoom Try.f66.results.toList [.c .sc] [.ptr [.ro .u8 r0b, .v (.int .i64 r0p)]] kk) = S_spec_someRoom r0b r0p (fun r0 r1 r2 => kk (.one (.c (.v (.int .i64 r0)))) [.ptr [.ro .u8 r1, .v (.int .i64 r2)]]) := by
  rw [g_spec_someRoom]
  rfl
theorem clok_spec_someRoom : ConOK Try.prog cl_spec_someRoom := consCons h_spec_reader_one ⟨Try.f55, Try.func55, by kernel_rfl, ne_of_beq (by kernel_rfl)⟩ (consNil)
theorem cok_spec_someRoom : ConsOK Try.prog 6 cs_spec_someRoom := ⟨clok_spec_someRoom, inlNil, ovNil⟩
theorem i_spec_someRoom {vs : List A1} {kk : AV → List A1 → Prop} {motive : List A1 → Prop} (h : con_spec_someRoom.F vs kk) (H : ∀ (r0b : List Int) (r0p : Int), F_spec_someRoom r0b r0p (fun r0 r1 r2 => kk (.one (.c (.v (.int .i64 r0)))) [.ptr [.ro .u8 r1, .v (.int .i64 r2)]]) → motive [.ptr [.ro .u8 r0b, .v (.int .i64 r0p)]]) : motive vs := by
  unfold con_spec_someRoom at h
  dsimp only at h
  split at h
  · exact H _ _ h
  · exact h.elim
theorem h_spec_someRoom : Holds Try.prog 66 con_spec_someRoom := by
  refine holds_of_ev (rt := [.c .sc]) (T := TT) (Γ := cs_spec_someRoom) (an := an_spec_someRoom) (N := 6) (c := Try.f66.body.getD .skip) Try.func66 (by kernel_rfl) Try.ntmps66 (by decide) (by decide) mixed tabOK cok_spec_someRoom (by kernel_rfl) ?_
  intro vs kk _ hF
  exact i_spec_someRoom (motive := fun vs => Goes (ev TT cs_spec_someRoom 6 an_spec_someRoom (Try.f66.body.getD .skip) (st0 con_spec_someRoom vs) (fin TT con_spec_someRoom Try.f66.results.toList [.c .sc] vs kk))) hF (fun r0b r0p hF => goes_of (e_spec_someRoom r0b r0p kk) (F_spec_someRoom_S hF))
def con_spec_DrawRunRecent : Con := ⟨[.rd], true, [.c (.sl .u8)], fun vs k => match vs with
    | [.c (.ro .u8 code0)] => F_spec_DrawRunRecent code0 (fun r0 r1 => k (.tup [.c (.ro .int r0), .c (.v (.int .i64 r1))]) [])
    | _ => False, false⟩
def cl_spec_DrawRunRecent : List (FuncId × Con) := [(54, con_spec_newReader), (61, con_spec_someTrace), (66, con_spec_someRoom)]
def an_spec_DrawRunRecent : Ann := ⟨[], [], [], []⟩
def cs_spec_DrawRunRecent : Cons := ⟨cl_spec_DrawRunRecent, [], 0, [], [], []⟩
def fin_spec_DrawRunRecent (code0 : List Int) (kk : AV → List A1 → Prop) : Kt := fin TT con_spec_DrawRunRecent Try.f41.results.toList [.c (.sl .int), .c .sc] [.c (.ro .u8 code0)] kk
theorem g_spec_DrawRunRecent (code0 : List Int) (kk : AV → List A1 → Prop) :
    ev TT cs_spec_DrawRunRecent 13 an_spec_DrawRunRecent (Try.f41.body.getD .skip) (st0 con_spec_DrawRunRecent [.c (.ro .u8 code0)]) (fin TT con_spec_DrawRunRecent Try.f41.results.toList [.c (.sl .int), .c .sc] [.c (.ro .u8 code0)] kk) = G_spec_DrawRunRecent code0 (fun r0 r1 => kk (.tup [.c (.ro .int r0), .c (.v (.int .i64 r1))]) []) := by kernel_rfl
theorem e_spec_DrawRunRecent (code0 : List Int) (kk : AV → List A1 → Prop) :
    ev TT cs_spec_DrawRunRecent 13 an_spec_DrawRunRecent (Try.f41.body.getD .skip) (st0 con_spec_DrawRunRecent [.c (.ro .u8 code0)]) (fin TT con_spec_DrawRunRecent Try.f41.results.toList [.c (.sl .int), .c .sc] [.c (.ro .u8 code0)] kk) = S_spec_DrawRunRecent code0 (fun r0 r1 => kk (.tup [.c (.ro .int r0), .c (.v (.int .i64 r1))]) []) := by
  rw [g_spec_DrawRunRecent]
  rfl
theorem clok_spec_DrawRunRecent : ConOK Try.prog cl_spec_DrawRunRecent := consCons h_spec_newReader ⟨Try.f54, Try.func54, by kernel_rfl, ne_of_beq (by kernel_rfl)⟩ (consCons h_spec_someTrace ⟨Try.f61, Try.func61, by kernel_rfl, ne_of_beq (by kernel_rfl)⟩ (consCons h_spec_someRoom ⟨Try.f66, Try.func66, by kernel_rfl, ne_of_beq (by kernel_rfl)⟩ (consNil)))
theorem cok_spec_DrawRunRecent : ConsOK Try.prog 13 cs_spec_DrawRunRecent := ⟨clok_spec_DrawRunRecent, inlNil, ovNil⟩
theorem i_spec_DrawRunRecent {vs : List A1} {kk : AV → List A1 → Prop} {motive : List A1 → Prop} (h : con_spec_DrawRunRecent.F vs kk) (H : ∀ (code0 : List Int), F_spec_DrawRunRecent code0 (fun r0 r1 => kk (.tup [.c (.ro .int r0), .c (.v (.int .i64 r1))]) []) → motive [.c (.ro .u8 code0)]) : motive vs := by
  unfold con_spec_DrawRunRecent at h
  dsimp only at h
  split at h
  · exact H _ h
  · exact h.elim
theorem h_spec_DrawRunRecent : Holds Try.prog 41 con_spec_DrawRunRecent := by
  refine holds_of_ev (rt := [.c (.sl .int), .c .sc]) (T := TT) (Γ := cs_spec_DrawRunRecent) (an := an_spec_DrawRunRecent) (N := 13) (c := Try.f41.body.getD .skip) Try.func41 (by kernel_rfl) Try.ntmps41 (by decide) (by decide) mixed tabOK cok_spec_DrawRunRecent (by kernel_rfl) ?_
  intro vs kk _ hF
  exact i_spec_DrawRunRecent (motive := fun vs => Goes (ev TT cs_spec_DrawRunRecent 13 an_spec_DrawRunRecent (Try.f41.body.getD .skip) (st0 con_spec_DrawRunRecent vs) (fin TT con_spec_DrawRunRecent Try.f41.results.toList [.c (.sl .int), .c .sc] vs kk))) hF (fun code0 hF => goes_of (e_spec_DrawRunRecent code0 kk) (F_spec_DrawRunRecent_S hF))
def con_spec_DrawRunClock : Con := ⟨[.rd], true, [.c (.sl .u8)], fun vs k => match vs with
    | [.c (.ro .u8 code0)] => F_spec_DrawRunClock code0 (fun r0 r1 => k (.tup [.c (.ro .int r0), .c (.v (.int .i64 r1))]) [])
    | _ => False, false⟩
def cl_spec_DrawRunClock : List (FuncId × Con) := [(41, con_spec_DrawRunRecent)]
def an_spec_DrawRunClock : Ann := ⟨[], [], [], []⟩
def cs_spec_DrawRunClock : Cons := ⟨cl_spec_DrawRunClock, [], 0, [], [], []⟩
def fin_spec_DrawRunClock (code0 : List Int) (kk : AV → List A1 → Prop) : Kt := fin TT con_spec_DrawRunClock Try.f19.results.toList [.c (.sl .int), .c .sc] [.c (.ro .u8 code0)] kk
theorem g_spec_DrawRunClock (code0 : List Int) (kk : AV → List A1 → Prop) :
    ev TT cs_spec_DrawRunClock 8 an_spec_DrawRunClock (Try.f19.body.getD .skip) (st0 con_spec_DrawRunClock [.c (.ro .u8 code0)]) (fin TT con_spec_DrawRunClock Try.f19.results.toList [.c (.sl .int), .c .sc] [.c (.ro .u8 code0)] kk) = G_spec_DrawRunClock code0 (fun r0 r1 => kk (.tup [.c (.ro .int r0), .c (.v (.int .i64 r1))]) []) := by kernel_rfl
theorem e_spec_DrawRunClock (code0 : List Int) (kk : AV → List A1 → Prop) :
    ev TT cs_spec_DrawRunClock 8 an_spec_DrawRunClock (Try.f19.body.getD .skip) (st0 con_spec_DrawRunClock [.c (.ro .u8 code0)]) (fin TT con_spec_DrawRunClock Try.f19.results.toList [.c (.sl .int), .c .sc] [.c (.ro .u8 code0)] kk) = S_spec_DrawRunClock code0 (fun r0 r1 => kk (.tup [.c (.ro .int r0), .c (.v (.int .i64 r1))]) []) := by
  rw [g_spec_DrawRunClock]
  rfl
theorem clok_spec_DrawRunClock : ConOK Try.prog cl_spec_DrawRunClock := consCons h_spec_DrawRunRecent ⟨Try.f41, Try.func41, by kernel_rfl, ne_of_beq (by kernel_rfl)⟩ (consNil)
theorem cok_spec_DrawRunClock : ConsOK Try.prog 8 cs_spec_DrawRunClock := ⟨clok_spec_DrawRunClock, inlNil, ovNil⟩
theorem i_spec_DrawRunClock {vs : List A1} {kk : AV → List A1 → Prop} {motive : List A1 → Prop} (h : con_spec_DrawRunClock.F vs kk) (H : ∀ (code0 : List Int), F_spec_DrawRunClock code0 (fun r0 r1 => kk (.tup [.c (.ro .int r0), .c (.v (.int .i64 r1))]) []) → motive [.c (.ro .u8 code0)]) : motive vs := by
  unfold con_spec_DrawRunClock at h
  dsimp only at h
  split at h
  · exact H _ h
  · exact h.elim
theorem h_spec_DrawRunClock : Holds Try.prog 19 con_spec_DrawRunClock := by
  refine holds_of_ev (rt := [.c (.sl .int), .c .sc]) (T := TT) (Γ := cs_spec_DrawRunClock) (an := an_spec_DrawRunClock) (N := 8) (c := Try.f19.body.getD .skip) Try.func19 (by kernel_rfl) Try.ntmps19 (by decide) (by decide) mixed tabOK cok_spec_DrawRunClock (by kernel_rfl) ?_
  intro vs kk _ hF
  exact i_spec_DrawRunClock (motive := fun vs => Goes (ev TT cs_spec_DrawRunClock 8 an_spec_DrawRunClock (Try.f19.body.getD .skip) (st0 con_spec_DrawRunClock vs) (fin TT con_spec_DrawRunClock Try.f19.results.toList [.c (.sl .int), .c .sc] vs kk))) hF (fun code0 hF => goes_of (e_spec_DrawRunClock code0 kk) (F_spec_DrawRunClock_S hF))
def con_impl_validKey : Con := ⟨[.rd], true, [.c (.sc)], fun vs k => match vs with
    | [.c (.v (.int .i64 key0))] => F_impl_validKey key0 (fun r0 => k (.one (.c (.v (.bool r0)))) [])
    | _ => False, false⟩
def cl_impl_validKey : List (FuncId × Con) := []
def an_impl_validKey : Ann := ⟨[], [], [], []⟩
def cs_impl_validKey : Cons := ⟨cl_impl_validKey, [], 0, [], [], []⟩
def fin_impl_validKey (key0 : Int) (kk : AV → List A1 → Prop) : Kt := fin TT con_impl_validKey Try.f56.results.toList [.c .sc] [.c (.v (.int .i64 key0))] kk
theorem g_impl_validKey (key0 : Int) (kk : AV → List A1 → Prop) :
    ev TT cs_impl_validKey 9 an_impl_validKey (Try.f56.body.getD .skip) (st0 con_impl_validKey [.c (.v (.int .i64 key0))]) (fin TT con_impl_validKey Try.f56.results.toList [.c .sc] [.c (.v (.int .i64 key0))] kk) = G_impl_validKey key0 (fun r0 => kk (.one (.c (.v (.bool r0)))) []) := by kernel_rfl
theorem e_impl_validKey (key0 : Int) (kk : AV → List A1 → Prop) :
    ev TT cs_impl_validKey 9 an_impl_validKey (Try.f56.body.getD .skip) (st0 con_impl_validKey [.c (.v (.int .i64 key0))]) (fin TT con_impl_validKey Try.f56.results.toList [.c .sc] [.c (.v (.int .i64 key0))] kk) = S_impl_validKey key0 (fun r0 => kk (.one (.c (.v (.bool r0)))) []) := by
  rw [g_impl_validKey]
  rfl
theorem clok_impl_validKey : ConOK Try.prog cl_impl_validKey := consNil
theorem cok_impl_validKey : ConsOK Try.prog 9 cs_impl_validKey := ⟨clok_impl_validKey, inlNil, ovNil⟩
theorem i_impl_validKey {vs : List A1} {kk : AV → List A1 → Prop} {motive : List A1 → Prop} (h : con_impl_validKey.F vs kk) (H : ∀ (key0 : Int), F_impl_validKey key0 (fun r0 => kk (.one (.c (.v (.bool r0)))) []) → motive [.c (.v (.int .i64 key0))]) : motive vs := by
  unfold con_impl_validKey at h
  dsimp only at h
  split at h
  · exact H _ h
  · exact h.elim
theorem h_impl_validKey : Holds Try.prog 56 con_impl_validKey := by
  refine holds_of_ev (rt := [.c .sc]) (T := TT) (Γ := cs_impl_validKey) (an := an_impl_validKey) (N := 9) (c := Try.f56.body.getD .skip) Try.func56 (by kernel_rfl) Try.ntmps56 (by decide) (by decide) mixed tabOK cok_impl_validKey (by kernel_rfl) ?_
  intro vs kk _ hF
  exact i_impl_validKey (motive := fun vs => Goes (ev TT cs_impl_validKey 9 an_impl_validKey (Try.f56.body.getD .skip) (st0 con_impl_validKey vs) (fin TT con_impl_validKey Try.f56.results.toList [.c .sc] vs kk))) hF (fun key0 hF => goes_of (e_impl_validKey key0 kk) (F_impl_validKey_S hF))
def con_impl_ValidTrace : Con := ⟨[.rd], true, [.c (.sl .int)], fun vs k => match vs with
    | [.c (.ro .int t0)] => F_impl_ValidTrace t0 (fun r0 => k (.one (.c (.v (.bool r0)))) [])
    | _ => False, false⟩
def cl_impl_ValidTrace : List (FuncId × Con) := [(56, con_impl_validKey)]
def nm0_impl_ValidTrace : List NStep := [.keep [8, 9, 10] []]
def an_impl_ValidTrace : Ann := ⟨[], [(4, nm0_impl_ValidTrace)], [], []⟩
def cs_impl_ValidTrace : Cons := ⟨cl_impl_ValidTrace, [], 0, [], [], []⟩
def can0_impl_ValidTrace (t0 : List Int) (xt9 : Int) (xt10 : Int) : St := ⟨[(8, .one (.c (.ro .int t0))), (9, .one (.c (.v (.int .i64 xt9)))), (10, .one (.c (.v (.int .i64 xt10))))], []⟩
def fin_impl_ValidTrace (t0 : List Int) (kk : AV → List A1 → Prop) : Kt := fin TT con_impl_ValidTrace Try.f26.results.toList [.c .sc] [.c (.ro .int t0)] kk
def kt0_impl_ValidTrace (kf : Kt) : Kt := blockK 0 (seqK (evF TT cs_impl_ValidTrace 18 an_impl_ValidTrace Try.f26 [1, 1, 1]) (kf))
theorem r0_impl_ValidTrace (t0 : List Int) (xt9 : Int) (kk : AV → List A1 → Prop) (n : Nat) (xt10 : Int) :
    iter (evF TT cs_impl_ValidTrace 18 an_impl_ValidTrace Try.f26 [1, 1, 0, 1, 0, 0]) nm0_impl_ValidTrace (kt0_impl_ValidTrace (fin_impl_ValidTrace t0 kk)) (n + 1) (can0_impl_ValidTrace t0 xt9 xt10) = T0_impl_ValidTrace t0 xt9 xt10 (fun r0 => kk (.one (.c (.v (.bool r0)))) []) (fun xt10 => iter (evF TT cs_impl_ValidTrace 18 an_impl_ValidTrace Try.f26 [1, 1, 0, 1, 0, 0]) nm0_impl_ValidTrace (kt0_impl_ValidTrace (fin_impl_ValidTrace t0 kk)) n (can0_impl_ValidTrace t0 xt9 xt10)) := by kernel_rfl
theorem l0_impl_ValidTrace (t0 : List Int) (xt9 : Int) (kk : AV → List A1 → Prop) : ∀ (n : Nat) (xt10 : Int), iter (evF TT cs_impl_ValidTrace 18 an_impl_ValidTrace Try.f26 [1, 1, 0, 1, 0, 0]) nm0_impl_ValidTrace (kt0_impl_ValidTrace (fin_impl_ValidTrace t0 kk)) n (can0_impl_ValidTrace t0 xt9 xt10) = L0_impl_ValidTrace t0 xt9 (fun r0 => kk (.one (.c (.v (.bool r0)))) []) n xt10 := by
  intro n
  induction n with
  | zero => intros; rfl
  | succ n ih =>
    intro xt10
    rw [r0_impl_ValidTrace t0 xt9 kk n xt10]
    have hb : (fun xt10 => iter (evF TT cs_impl_ValidTrace 18 an_impl_ValidTrace Try.f26 [1, 1, 0, 1, 0, 0]) nm0_impl_ValidTrace (kt0_impl_ValidTrace (fin_impl_ValidTrace t0 kk)) n (can0_impl_ValidTrace t0 xt9 xt10)) = L0_impl_ValidTrace t0 xt9 (fun r0 => kk (.one (.c (.v (.bool r0)))) []) n := by
      funext xt10; exact ih xt10
    rw [hb]
    rfl
theorem g_impl_ValidTrace (t0 : List Int) (kk : AV → List A1 → Prop) :
    ev TT cs_impl_ValidTrace 18 an_impl_ValidTrace (Try.f26.body.getD .skip) (st0 con_impl_ValidTrace [.c (.ro .int t0)]) (fin TT con_impl_ValidTrace Try.f26.results.toList [.c .sc] [.c (.ro .int t0)] kk) = G_impl_ValidTrace t0 (fun r0 => kk (.one (.c (.v (.bool r0)))) []) (fun t0 xt9 xt10 => ∃ j, iter (evF TT cs_impl_ValidTrace 18 an_impl_ValidTrace Try.f26 [1, 1, 0, 1, 0, 0]) nm0_impl_ValidTrace (kt0_impl_ValidTrace (fin_impl_ValidTrace t0 kk)) j (can0_impl_ValidTrace t0 xt9 xt10)) := by kernel_rfl
theorem e_impl_ValidTrace (t0 : List Int) (kk : AV → List A1 → Prop) :
    ev TT cs_impl_ValidTrace 18 an_impl_ValidTrace (Try.f26.body.getD .skip) (st0 con_impl_ValidTrace [.c (.ro .int t0)]) (fin TT con_impl_ValidTrace Try.f26.results.toList [.c .sc] [.c (.ro .int t0)] kk) = S_impl_ValidTrace t0 (fun r0 => kk (.one (.c (.v (.bool r0)))) []) := by
  rw [g_impl_ValidTrace]
  have hi0 : (fun t0 xt9 xt10 => ∃ j, iter (evF TT cs_impl_ValidTrace 18 an_impl_ValidTrace Try.f26 [1, 1, 0, 1, 0, 0]) nm0_impl_ValidTrace (kt0_impl_ValidTrace (fin_impl_ValidTrace t0 kk)) j (can0_impl_ValidTrace t0 xt9 xt10)) = (fun t0 xt9 xt10 => ∃ j, L0_impl_ValidTrace t0 xt9 (fun r0 => kk (.one (.c (.v (.bool r0)))) []) j xt10) := by
    funext t0 xt9 xt10
    refine congrArg Exists (funext fun j => ?_)
    rw [l0_impl_ValidTrace t0 xt9 kk j xt10]
  rw [hi0]
  rfl
theorem clok_impl_ValidTrace : ConOK Try.prog cl_impl_ValidTrace := consCons h_impl_validKey ⟨Try.f56, Try.func56, by kernel_rfl, ne_of_beq (by kernel_rfl)⟩ (consNil)
theorem cok_impl_ValidTrace : ConsOK Try.prog 18 cs_impl_ValidTrace := ⟨clok_impl_ValidTrace, inlNil, ovNil⟩
theorem i_impl_ValidTrace {vs : List A1} {kk : AV → List A1 → Prop} {motive : List A1 → Prop} (h : con_impl_ValidTrace.F vs kk) (H : ∀ (t0 : List Int), F_impl_ValidTrace t0 (fun r0 => kk (.one (.c (.v (.bool r0)))) []) → motive [.c (.ro .int t0)]) : motive vs := by
  unfold con_impl_ValidTrace at h
  dsimp only at h
  split at h
  · exact H _ h
  · exact h.elim
theorem h_impl_ValidTrace : Holds Try.prog 26 con_impl_ValidTrace := by
  refine holds_of_ev (rt := [.c .sc]) (T := TT) (Γ := cs_impl_ValidTrace) (an := an_impl_ValidTrace) (N := 18) (c := Try.f26.body.getD .skip) Try.func26 (by kernel_rfl) Try.ntmps26 (by decide) (by decide) mixed tabOK cok_impl_ValidTrace (by kernel_rfl) ?_
  intro vs kk _ hF
  exact i_impl_ValidTrace (motive := fun vs => Goes (ev TT cs_impl_ValidTrace 18 an_impl_ValidTrace (Try.f26.body.getD .skip) (st0 con_impl_ValidTrace vs) (fin TT con_impl_ValidTrace Try.f26.results.toList [.c .sc] vs kk))) hF (fun t0 hF => goes_of (e_impl_ValidTrace t0 kk) (F_impl_ValidTrace_S hF))
def con_impl_validRoom : Con := ⟨[.rd], true, [.c (.sc)], fun vs k => match vs with
    | [.c (.v (.int .i64 room0))] => F_impl_validRoom room0 (fun r0 => k (.one (.c (.v (.bool r0)))) [])
    | _ => False, false⟩
def cl_impl_validRoom : List (FuncId × Con) := []
def an_impl_validRoom : Ann := ⟨[], [], [], []⟩
def cs_impl_validRoom : Cons := ⟨cl_impl_validRoom, [], 0, [], [], []⟩
def fin_impl_validRoom (room0 : Int) (kk : AV → List A1 → Prop) : Kt := fin TT con_impl_validRoom Try.f49.results.toList [.c .sc] [.c (.v (.int .i64 room0))] kk
theorem g_impl_validRoom (room0 : Int) (kk : AV → List A1 → Prop) :
    ev TT cs_impl_validRoom 9 an_impl_validRoom (Try.f49.body.getD .skip) (st0 con_impl_validRoom [.c (.v (.int .i64 room0))]) (fin TT con_impl_validRoom Try.f49.results.toList [.c .sc] [.c (.v (.int .i64 room0))] kk) = G_impl_validRoom room0 (fun r0 => kk (.one (.c (.v (.bool r0)))) []) := by kernel_rfl
theorem e_impl_validRoom (room0 : Int) (kk : AV → List A1 → Prop) :
    ev TT cs_impl_validRoom 9 an_impl_validRoom (Try.f49.body.getD .skip) (st0 con_impl_validRoom [.c (.v (.int .i64 room0))]) (fin TT con_impl_validRoom Try.f49.results.toList [.c .sc] [.c (.v (.int .i64 room0))] kk) = S_impl_validRoom room0 (fun r0 => kk (.one (.c (.v (.bool r0)))) []) := by
  rw [g_impl_validRoom]
  rfl
theorem clok_impl_validRoom : ConOK Try.prog cl_impl_validRoom := consNil
theorem cok_impl_validRoom : ConsOK Try.prog 9 cs_impl_validRoom := ⟨clok_impl_validRoom, inlNil, ovNil⟩
theorem i_impl_validRoom {vs : List A1} {kk : AV → List A1 → Prop} {motive : List A1 → Prop} (h : con_impl_validRoom.F vs kk) (H : ∀ (room0 : Int), F_impl_validRoom room0 (fun r0 => kk (.one (.c (.v (.bool r0)))) []) → motive [.c (.v (.int .i64 room0))]) : motive vs := by
  unfold con_impl_validRoom at h
  dsimp only at h
  split at h
  · exact H _ h
  · exact h.elim
theorem h_impl_validRoom : Holds Try.prog 49 con_impl_validRoom := by
  refine holds_of_ev (rt := [.c .sc]) (T := TT) (Γ := cs_impl_validRoom) (an := an_impl_validRoom) (N := 9) (c := Try.f49.body.getD .skip) Try.func49 (by kernel_rfl) Try.ntmps49 (by decide) (by decide) mixed tabOK cok_impl_validRoom (by kernel_rfl) ?_
  intro vs kk _ hF
  exact i_impl_validRoom (motive := fun vs => Goes (ev TT cs_impl_validRoom 9 an_impl_validRoom (Try.f49.body.getD .skip) (st0 con_impl_validRoom vs) (fin TT con_impl_validRoom Try.f49.results.toList [.c .sc] vs kk))) hF (fun room0 hF => goes_of (e_impl_validRoom room0 kk) (F_impl_validRoom_S hF))
def con_slices_Index_sint_int : Con := ⟨[.rd, .rd], true, [.c (.sl .int), .c (.sc)], fun vs k => match vs with
    | [.c (.ro .int s0), .c (.v (.int .i64 v1))] => F_slices_Index_sint_int s0 v1 (fun r0 => k (.one (.c (.v (.int .i64 r0)))) [])
    | _ => False, false⟩
def cl_slices_Index_sint_int : List (FuncId × Con) := []
def nm0_slices_Index_sint_int : List NStep := [.keep [0, 1, 7, 8] []]
def an_slices_Index_sint_int : Ann := ⟨[], [(2, nm0_slices_Index_sint_int)], [], []⟩
def cs_slices_Index_sint_int : Cons := ⟨cl_slices_Index_sint_int, [], 0, [], [], []⟩
def can0_slices_Index_sint_int (s0 : List Int) (v1 : Int) (xt7 : Int) (xt8 : Int) : St := ⟨[(0, .one (.c (.ro .int s0))), (1, .one (.c (.v (.int .i64 v1)))), (7, .one (.c (.v (.int .i64 xt7)))), (8, .one (.c (.v (.int .i64 xt8))))], []⟩
def fin_slices_Index_sint_int (s0 : List Int) (v1 : Int) (kk : AV → List A1 → Prop) : Kt := fin TT con_slices_Index_sint_int Try.f58.results.toList [.c .sc] [.c (.ro .int s0), .c (.v (.int .i64 v1))] kk
def kt0_slices_Index_sint_int (kf : Kt) : Kt := blockK 0 (seqK (evF TT cs_slices_Index_sint_int 19 an_slices_Index_sint_int Try.f58 [1, 1]) (kf))
theorem r0_slices_Index_sint_int (s0 : List Int) (v1 : Int) (xt7 : Int) (kk : AV → List A1 → Prop) (n : Nat) (xt8 : Int) :
    iter (evF TT cs_slices_Index_sint_int 19 an_slices_Index_sint_int Try.f58 [1, 0, 1, 0, 0]) nm0_slices_Index_sint_int (kt0_slices_Index_sint_int (fin_slices_Index_sint_int s0 v1 kk)) (n + 1) (can0_slices_Index_sint_int s0 v1 xt7 xt8) = T0_slices_Index_sint_int s0 v1 xt7 xt8 (fun r0 => kk (.one (.c (.v (.int .i64 r0)))) []) (fun xt8 => iter (evF TT cs_slices_Index_sint_int 19 an_slices_Index_sint_int Try.f58 [1, 0, 1, 0, 0]) nm0_slices_Index_sint_int (kt0_slices_Index_sint_int (fin_slices_Index_sint_int s0 v1 kk)) n (can0_slices_Index_sint_int s0 v1 xt7 xt8)) := by kernel_rfl
theorem l0_slices_Index_sint_int (s0 : List Int) (v1 : Int) (xt7 : Int) (kk : AV → List A1 → Prop) : ∀ (n : Nat) (xt8 : Int), iter (evF TT cs_slices_Index_sint_int 19 an_slices_Index_sint_int Try.f58 [1, 0, 1, 0, 0]) nm0_slices_Index_sint_int (kt0_slices_Index_sint_int (fin_slices_Index_sint_int s0 v1 kk)) n (can0_slices_Index_sint_int s0 v1 xt7 xt8) = L0_slices_Index_sint_int s0 v1 xt7 (fun r0 => kk (.one (.c (.v (.int .i64 r0)))) []) n xt8 := by
  intro n
  induction n with
  | zero => intros; rfl
  | succ n ih =>
    intro xt8
    rw [r0_slices_Index_sint_int s0 v1 xt7 kk n xt8]
    have hb : (fun xt8 => iter (evF TT cs_slices_Index_sint_int 19 an_slices_Index_sint_int Try.f58 [1, 0, 1, 0, 0]) nm0_slices_Index_sint_int (kt0_slices_Index_sint_int (fin_slices_Index_sint_int s0 v1 kk)) n (can0_slices_Index_sint_int s0 v1 xt7 xt8)) = L0_slices_Index_sint_int s0 v1 xt7 (fun r0 => kk (.one (.c (.v (.int .i64 r0)))) []) n := by
      funext xt8; exact ih xt8
    rw [hb]
    rfl
theorem g_slices_Index_sint_int (s0 : List Int) (v1 : Int) (kk : AV → List A1 → Prop) :
    ev TT cs_slices_Index_sint_int 19 an_slices_Index_sint_int (Try.f58.body.getD .skip) (st0 con_slices_Index_sint_int [.c (.ro .int s0), .c (.v (.int .i64 v1))]) (fin TT con_slices_Index_sint_int Try.f58.results.toList [.c .sc] [.c (.ro .int s0), .c (.v (.int .i64 v1))] kk) = G_slices_Index_sint_int s0 v1 (fun s0 v1 xt7 xt8 => ∃ j, iter (evF TT cs_slices_Index_sint_int 19 an_slices_Index_sint_int Try.f58 [1, 0, 1, 0, 0]) nm0_slices_Index_sint_int (kt0_slices_Index_sint_int (fin_slices_Index_sint_int s0 v1 kk)) j (can0_slices_Index_sint_int s0 v1 xt7 xt8)) := by kernel_rfl
theorem e_slices_Index_sint_int (s0 : List Int) (v1 : Int) (kk : AV → List A1 → Prop) :
    ev TT cs_slices_Index_sint_int 19 an_slices_Index_sint_int (Try.f58.body.getD .skip) (st0 con_slices_Index_sint_int [.c (.ro .int s0), .c (.v (.int .i64 v1))]) (fin TT con_slices_Index_sint_int Try.f58.results.toList [.c .sc] [.c (.ro .int s0), .c (.v (.int .i64 v1))] kk) = S_slices_Index_sint_int s0 v1 (fun r0 => kk (.one (.c (.v (.int .i64 r0)))) []) := by
  rw [g_slices_Index_sint_int]
  have hi0 : (fun s0 v1 xt7 xt8 => ∃ j, iter (evF TT cs_slices_Index_sint_int 19 an_slices_Index_sint_int Try.f58 [1, 0, 1, 0, 0]) nm0_slices_Index_sint_int (kt0_slices_Index_sint_int (fin_slices_Index_sint_int s0 v1 kk)) j (can0_slices_Index_sint_int s0 v1 xt7 xt8)) = (fun s0 v1 xt7 xt8 => ∃ j, L0_slices_Index_sint_int s0 v1 xt7 (fun r0 => kk (.one (.c (.v (.int .i64 r0)))) []) j xt8) := by
    funext s0 v1 xt7 xt8
    refine congrArg Exists (funext fun j => ?_)
    rw [l0_slices_Index_sint_int s0 v1 xt7 kk j xt8]
  rw [hi0]
  rfl
theorem clok_slices_Index_sint_int : ConOK Try.prog cl_slices_Index_sint_int := consNil
theorem cok_slices_Index_sint_int : ConsOK Try.prog 19 cs_slices_Index_sint_int := ⟨clok_slices_Index_sint_int, inlNil, ovNil⟩
theorem i_slices_Index_sint_int {vs : List A1} {kk : AV → List A1 → Prop} {motive : List A1 → Prop} (h : con_slices_Index_sint_int.F vs kk) (H : ∀ (s0 : List Int) (v1 : Int), F_slices_Index_sint_int s0 v1 (fun r0 => kk (.one (.c (.v (.int .i64 r0)))) []) → motive [.c (.ro .int s0), .c (.v (.int .i64 v1))]) : motive vs := by
  unfold con_slices_Index_sint_int at h
  dsimp only at h
  split at h
  · exact H _ _ h
  · exact h.elim
theorem h_slices_Index_sint_int : Holds Try.prog 58 con_slices_Index_sint_int := by
  refine holds_of_ev (rt := [.c .sc]) (T := TT) (Γ := cs_slices_Index_sint_int) (an := an_slices_Index_sint_int) (N := 19) (c := Try.f58.body.getD .skip) Try.func58 (by kernel_rfl) Try.ntmps58 (by decide) (by decide) mixed tabOK cok_slices_Index_sint_int (by kernel_rfl) ?_
  intro vs kk _ hF
  exact i_slices_Index_sint_int (motive := fun vs => Goes (ev TT cs_slices_Index_sint_int 19 an_slices_Index_sint_int (Try.f58.body.getD .skip) (st0 con_slices_Index_sint_int vs) (fin TT con_slices_Index_sint_int Try.f58.results.toList [.c .sc] vs kk))) hF (fun s0 v1 hF => goes_of (e_slices_Index_sint_int s0 v1 kk) (F_slices_Index_sint_int_S hF))
def con_slices_Contains_sint_int : Con := ⟨[.rd, .rd], true, [.c (.sl .int), .c (.sc)], fun vs k => match vs with
    | [.c (.ro .int s0), .c (.v (.int .i64 v1))] => F_slices_Contains_sint_int s0 v1 (fun r0 => k (.one (.c (.v (.bool r0)))) [])
    | _ => False, false⟩
def cl_slices_Contains_sint_int : List (FuncId × Con) := [(58, con_slices_Index_sint_int)]
def an_slices_Contains_sint_int : Ann := ⟨[], [], [], []⟩
def cs_slices_Contains_sint_int : Cons := ⟨cl_slices_Contains_sint_int, [], 0, [], [], []⟩
def fin_slices_Contains_sint_int (s0 : List Int) (v1 : Int) (kk : AV → List A1 → Prop) : Kt := fin TT con_slices_Contains_sint_int Try.f57.results.toList [.c .sc] [.c (.ro .int s0), .c (.v (.int .i64 v1))] kk
theorem g_slices_Contains_sint_int (s0 : List Int) (v1 : Int) (kk : AV → List A1 → Prop) :
    ev TT cs_slices_Contains_sint_int 9 an_slices_Contains_sint_int (Try.f57.body.getD .skip) (st0 con_slices_Contains_sint_int [.c (.ro .int s0), .c (.v (.int .i64 v1))]) (fin TT con_slices_Contains_sint_int Try.f57.results.toList [.c .sc] [.c (.ro .int s0), .c (.v (.int .i64 v1))] kk) = G_slices_Contains_sint_int s0 v1 (fun r0 => kk (.one (.c (.v (.bool r0)))) []) := by kernel_rfl
theorem e_slices_Contains_sint_int (s0 : List Int) (v1 : Int) (kk : AV → List A1 → Prop) :
    ev TT cs_slices_Contains_sint_int 9 an_slices_Contains_sint_int (Try.f57.body.getD .skip) (st0 con_slices_Contains_sint_int [.c (.ro .int s0), .c (.v (.int .i64 v1))]) (fin TT con_slices_Contains_sint_int Try.f57.results.toList [.c .sc] [.c (.ro .int s0), .c (.v (.int .i64 v1))] kk) = S_slices_Contains_sint_int s0 v1 (fun r0 => kk (.one (.c (.v (.bool r0)))) []) := by
  rw [g_slices_Contains_sint_int]
  rfl
theorem clok_slices_Contains_sint_int : ConOK Try.prog cl_slices_Contains_sint_int := consCons h_slices_Index_sint_int ⟨Try.f58, Try.func58, by kernel_rfl, ne_of_beq (by kernel_rfl)⟩ (consNil)
theorem cok_slices_Contains_sint_int : ConsOK Try.prog 9 cs_slices_Contains_sint_int := ⟨clok_slices_Contains_sint_int, inlNil, ovNil⟩
theorem i_slices_Contains_sint_int {vs : List A1} {kk : AV → List A1 → Prop} {motive : List A1 → Prop} (h : con_slices_Contains_sint_int.F vs kk) (H : ∀ (s0 : List Int) (v1 : Int), F_slices_Contains_sint_int s0 v1 (fun r0 => kk (.one (.c (.v (.bool r0)))) []) → motive [.c (.ro .int s0), .c (.v (.int .i64 v1))]) : motive vs := by
  unfold con_slices_Contains_sint_int at h
  dsimp only at h
  split at h
  · exact H _ _ h
  · exact h.elim
theorem h_slices_Contains_sint_int : Holds Try.prog 57 con_slices_Contains_sint_int := by
  refine holds_of_ev (rt := [.c .sc]) (T := TT) (Γ := cs_slices_Contains_sint_int) (an := an_slices_Contains_sint_int) (N := 9) (c := Try.f57.body.getD .skip) Try.func57 (by kernel_rfl) Try.ntmps57 (by decide) (by decide) mixed tabOK cok_slices_Contains_sint_int (by kernel_rfl) ?_
  intro vs kk _ hF
  exact i_slices_Contains_sint_int (motive := fun vs => Goes (ev TT cs_slices_Contains_sint_int 9 an_slices_Contains_sint_int (Try.f57.body.getD .skip) (st0 con_slices_Contains_sint_int vs) (fin TT con_slices_Contains_sint_int Try.f57.results.toList [.c .sc] vs kk))) hF (fun s0 v1 hF => goes_of (e_slices_Contains_sint_int s0 v1 kk) (F_slices_Contains_sint_int_S hF))
def con_impl_differentKeys : Con := ⟨[.rd], true, [.c (.sl .int)], fun vs k => match vs with
    | [.c (.ro .int list0)] => F_impl_differentKeys list0 (fun r0 => k (.one (.c (.v (.bool r0)))) [])
    | _ => False, false⟩
def cl_impl_differentKeys : List (FuncId × Con) := [(56, con_impl_validKey), (57, con_slices_Contains_sint_int)]
def nm0_impl_differentKeys : List NStep := [.keep [0, 5, 6, 7] []]
def an_impl_differentKeys : Ann := ⟨[], [(2, nm0_impl_differentKeys)], [], []⟩
def cs_impl_differentKeys : Cons := ⟨cl_impl_differentKeys, [], 0, [], [], []⟩
def can0_impl_differentKeys (list0 : List Int) (xt6 : Int) (xt7 : Int) : St := ⟨[(0, .one (.c (.ro .int list0))), (5, .one (.c (.ro .int list0))), (6, .one (.c (.v (.int .i64 xt6)))), (7, .one (.c (.v (.int .i64 xt7))))], []⟩
def fin_impl_differentKeys (list0 : List Int) (kk : AV → List A1 → Prop) : Kt := fin TT con_impl_differentKeys Try.f82.results.toList [.c .sc] [.c (.ro .int list0)] kk
def kt0_impl_differentKeys (kf : Kt) : Kt := blockK 0 (seqK (evF TT cs_impl_differentKeys 23 an_impl_differentKeys Try.f82 [1, 1]) (kf))
theorem r0_impl_differentKeys (list0 : List Int) (xt6 : Int) (kk : AV → List A1 → Prop) (n : Nat) (xt7 : Int) :
    iter (evF TT cs_impl_differentKeys 23 an_impl_differentKeys Try.f82 [1, 0, 1, 0, 0]) nm0_impl_differentKeys (kt0_impl_differentKeys (fin_impl_differentKeys list0 kk)) (n + 1) (can0_impl_differentKeys list0 xt6 xt7) = T0_impl_differentKeys list0 xt6 xt7 (fun r0 => kk (.one (.c (.v (.bool r0)))) []) (fun xt7 => iter (evF TT cs_impl_differentKeys 23 an_impl_differentKeys Try.f82 [1, 0, 1, 0, 0]) nm0_impl_differentKeys (kt0_impl_differentKeys (fin_impl_differentKeys list0 kk)) n (can0_impl_differentKeys list0 xt6 xt7)) := by kernel_rfl
theorem l0_impl_differentKeys (list0 : List Int) (xt6 : Int) (kk : AV → List A1 → Prop) : ∀ (n : Nat) (xt7 : Int), iter (evF TT cs_impl_differentKeys 23 an_impl_differentKeys Try.f82 [1, 0, 1, 0, 0]) nm0_impl_differentKeys (kt0_impl_differentKeys (fin_impl_differentKeys list0 kk)) n (can0_impl_differentKeys list0 xt6 xt7) = L0_impl_differentKeys list0 xt6 (fun r0 => kk (.one (.c (.v (.bool r0)))) []) n xt7 := by
  intro n
  induction n with
  | zero => intros; rfl
  | succ n ih =>
    intro xt7
    rw [r0_impl_differentKeys list0 xt6 kk n xt7]
    have hb : (fun xt7 => iter (evF TT cs_impl_differentKeys 23 an_impl_differentKeys Try.f82 [1, 0, 1, 0, 0]) nm0_impl_differentKeys (kt0_impl_differentKeys (fin_impl_differentKeys list0 kk)) n (can0_impl_differentKeys list0 xt6 xt7)) = L0_impl_differentKeys list0 xt6 (fun r0 => kk (.one (.c (.v (.bool r0)))) []) n := by
      funext xt7; exact ih xt7
    rw [hb]
    rfl
theorem g_impl_differentKeys (list0 : List Int) (kk : AV → List A1 → Prop) :
    ev TT cs_impl_differentKeys 23 an_impl_differentKeys (Try.f82.body.getD .skip) (st0 con_impl_differentKeys [.c (.ro .int list0)]) (fin TT con_impl_differentKeys Try.f82.results.toList [.c .sc] [.c (.ro .int list0)] kk) = G_impl_differentKeys list0 (fun list0 xt6 xt7 => ∃ j, iter (evF TT cs_impl_differentKeys 23 an_impl_differentKeys Try.f82 [1, 0, 1, 0, 0]) nm0_impl_differentKeys (kt0_impl_differentKeys (fin_impl_differentKeys list0 kk)) j (can0_impl_differentKeys list0 xt6 xt7)) := by kernel_rfl
theorem e_impl_differentKeys (list0 : List Int) (kk : AV → List A1 → Prop) :
    ev TT cs_impl_differentKeys 23 an_impl_differentKeys (Try.f82.body.getD .skip) (st0 con_impl_differentKeys [.c (.ro .int list0)]) (fin TT con_impl_differentKeys Try.f82.results.toList [.c .sc] [.c (.ro .int list0)] kk) = S_impl_differentKeys list0 (fun r0 => kk (.one (.c (.v (.bool r0)))) []) := by
  rw [g_impl_differentKeys]
  have hi0 : (fun list0 xt6 xt7 => ∃ j, iter (evF TT cs_impl_differentKeys 23 an_impl_differentKeys Try.f82 [1, 0, 1, 0, 0]) nm0_impl_differentKeys (kt0_impl_differentKeys (fin_impl_differentKeys list0 kk)) j (can0_impl_differentKeys list0 xt6 xt7)) = (fun list0 xt6 xt7 => ∃ j, L0_impl_differentKeys list0 xt6 (fun r0 => kk (.one (.c (.v (.bool r0)))) []) j xt7) := by
    funext list0 xt6 xt7
    refine congrArg Exists (funext fun j => ?_)
    rw [l0_impl_differentKeys list0 xt6 kk j xt7]
  rw [hi0]
  rfl
theorem clok_impl_differentKeys : ConOK Try.prog cl_impl_differentKeys := consCons h_impl_validKey ⟨Try.f56, Try.func56, by kernel_rfl, ne_of_beq (by kernel_rfl)⟩ (consCons h_slices_Contains_sint_int ⟨Try.f57, Try.func57, by kernel_rfl, ne_of_beq (by kernel_rfl)⟩ (consNil))
theorem cok_impl_differentKeys : ConsOK Try.prog 23 cs_impl_differentKeys := ⟨clok_impl_differentKeys, inlNil, ovNil⟩
theorem i_impl_differentKeys {vs : List A1} {kk : AV → List A1 → Prop} {motive : List A1 → Prop} (h : con_impl_differentKeys.F vs kk) (H : ∀ (list0 : List Int), F_impl_differentKeys list0 (fun r0 => kk (.one (.c (.v (.bool r0)))) []) → motive [.c (.ro .int list0)]) : motive vs := by
  unfold con_impl_differentKeys at h
  dsimp only at h
  split at h
  · exact H _ h
  · exact h.elim
theorem h_impl_differentKeys : Holds Try.prog 82 con_impl_differentKeys := by
  refine holds_of_ev (rt := [.c .sc]) (T := TT) (Γ := cs_impl_differentKeys) (an := an_impl_differentKeys) (N := 23) (c := Try.f82.body.getD .skip) Try.func82 (by kernel_rfl) Try.ntmps82 (by decide) (by decide) mixed tabOK cok_impl_differentKeys (by kernel_rfl) ?_
  intro vs kk _ hF
  exact i_impl_differentKeys (motive := fun vs => Goes (ev TT cs_impl_differentKeys 23 an_impl_differentKeys (Try.f82.body.getD .skip) (st0 con_impl_differentKeys vs) (fin TT con_impl_differentKeys Try.f82.results.toList [.c .sc] vs kk))) hF (fun list0 hF => goes_of (e_impl_differentKeys list0 kk) (F_impl_differentKeys_S hF))
def con_impl_ValidKeys : Con := ⟨[.rd, .rd], true, [.c (.sl .int), .c (.sc)], fun vs k => match vs with
    | [.c (.ro .int list0), .c (.v (.int .i64 room1))] => F_impl_ValidKeys list0 room1 (fun r0 => k (.one (.c (.v (.bool r0)))) [])
    | _ => False, false⟩
def cl_impl_ValidKeys : List (FuncId × Con) := [(49, con_impl_validRoom), (82, con_impl_differentKeys)]
def an_impl_ValidKeys : Ann := ⟨[], [], [], []⟩
def cs_impl_ValidKeys : Cons := ⟨cl_impl_ValidKeys, [], 0, [], [], []⟩
def fin_impl_ValidKeys (list0 : List Int) (room1 : Int) (kk : AV → List A1 → Prop) : Kt := fin TT con_impl_ValidKeys Try.f69.results.toList [.c .sc] [.c (.ro .int list0), .c (.v (.int .i64 room1))] kk
theorem g_impl_ValidKeys (list0 : List Int) (room1 : Int) (kk : AV → List A1 → Prop) :
    ev TT cs_impl_ValidKeys 17 an_impl_ValidKeys (Try.f69.body.getD .skip) (st0 con_impl_ValidKeys [.c (.ro .int list0), .c (.v (.int .i64 room1))]) (fin TT con_impl_ValidKeys Try.f69.results.toList [.c .sc] [.c (.ro .int list0), .c (.v (.int .i64 room1))] kk) = G_impl_ValidKeys list0 room1 (fun r0 => kk (.one (.c (.v (.bool r0)))) []) := by kernel_rfl
theorem e_impl_ValidKeys (list0 : List Int) (room1 : Int) (kk : AV → List A1 → Prop) :
    ev TT cs_impl_ValidKeys 17 an_impl_ValidKeys (Try.f69.body.getD .skip) (st0 con_impl_ValidKeys [.c (.ro .int list0), .c (.v (.int .i64 room1))]) (fin TT con_impl_ValidKeys Try.f69.results.toList [.c .sc] [.c (.ro .int list0), .c (.v (.int .i64 room1))] kk) = S_impl_ValidKeys list0 room1 (fun r0 => kk (.one (.c (.v (.bool r0)))) []) := by
  rw [g_impl_ValidKeys]
  rfl
theorem clok_impl_ValidKeys : ConOK Try.prog cl_impl_ValidKeys := consCons h_impl_validRoom ⟨Try.f49, Try.func49, by kernel_rfl, ne_of_beq (by kernel_rfl)⟩ (consCons h_impl_differentKeys ⟨Try.f82, Try.func82, by kernel_rfl, ne_of_beq (by kernel_rfl)⟩ (consNil))
theorem cok_impl_ValidKeys : ConsOK Try.prog 17 cs_impl_ValidKeys := ⟨clok_impl_ValidKeys, inlNil, ovNil⟩
theorem i_impl_ValidKeys {vs : List A1} {kk : AV → List A1 → Prop} {motive : List A1 → Prop} (h : con_impl_ValidKeys.F vs kk) (H : ∀ (list0 : List Int) (room1 : Int), F_impl_ValidKeys list0 room1 (fun r0 => kk (.one (.c (.v (.bool r0)))) []) → motive [.c (.ro .int list0), .c (.v (.int .i64 room1))]) : motive vs := by
  unfold con_impl_ValidKeys at h
  dsimp only at h
  split at h
  · exact H _ _ h
  · exact h.elim
theorem h_impl_ValidKeys : Holds Try.prog 69 con_impl_ValidKeys := by
  refine holds_of_ev (rt := [.c .sc]) (T := TT) (Γ := cs_impl_ValidKeys) (an := an_impl_ValidKeys) (N := 17) (c := Try.f69.body.getD .skip) Try.func69 (by kernel_rfl) Try.ntmps69 (by decide) (by decide) mixed tabOK cok_impl_ValidKeys (by kernel_rfl) ?_
  intro vs kk _ hF
  exact i_impl_ValidKeys (motive := fun vs => Goes (ev TT cs_impl_ValidKeys 17 an_impl_ValidKeys (Try.f69.body.getD .skip) (st0 con_impl_ValidKeys vs) (fin TT con_impl_ValidKeys Try.f69.results.toList [.c .sc] vs kk))) hF (fun list0 room1 hF => goes_of (e_impl_ValidKeys list0 room1 kk) (F_impl_ValidKeys_S hF))
def con_impl_ValidClock : Con := ⟨[.rd], true, [.agg [.sc, .sl .int, .sl .bool, .sc]], fun vs k => match vs with
    | [.agg [.v (.int .i64 c0Room), .ro .int c0Keys, .ro .bool c0Used, .v (.int .i64 c0Hand)]] => F_impl_ValidClock c0Room c0Keys c0Used c0Hand (fun r0 => k (.one (.c (.v (.bool r0)))) [])
    | _ => False, false⟩
def cl_impl_ValidClock : List (FuncId × Con) := [(69, con_impl_ValidKeys)]
def an_impl_ValidClock : Ann := ⟨[], [], [], []⟩
def cs_impl_ValidClock : Cons := ⟨cl_impl_ValidClock, [], 0, [], [], []⟩
def fin_impl_ValidClock (c0Room : Int) (c0Keys : List Int) (c0Used : List Bool) (c0Hand : Int) (kk : AV → List A1 → Prop) : Kt := fin TT con_impl_ValidClock Try.f72.results.toList [.c .sc] [.agg [.v (.int .i64 c0Room), .ro .int c0Keys, .ro .bool c0Used, .v (.int .i64 c0Hand)]] kk
theorem g_impl_ValidClock (c0Room : Int) (c0Keys : List Int) (c0Used : List Bool) (c0Hand : Int) (kk : AV → List A1 → Prop) :
    ev TT cs_impl_ValidClock 38 an_impl_ValidClock (Try.f72.body.getD .skip) (st0 con_impl_ValidClock [.agg [.v (.int .i64 c0Room), .ro .int c0Keys, .ro .bool c0Used, .v (.int .i64 c0Hand)]]) (fin TT con_impl_ValidClock Try.f72.results.toList [.c .sc] [.agg [.v (.int .i64 c0Room), .ro .int c0Keys, .ro .bool c0Used, .v (.int .i64 c0Hand)]] kk) = G_impl_ValidClock c0Room c0Keys c0Used c0Hand (fun r0 => kk (.one (.c (.v (.bool r0)))) []) := by kernel_rfl
theorem e_impl_ValidClock (c0Room : Int) (c0Keys : List Int) (c0Used : List Bool) (c0Hand : Int) (kk : AV → List A1 → Prop) :
    ev TT cs_impl_ValidClock 38 an_impl_ValidClock (Try.f72.body.getD .skip) (st0 con_impl_ValidClock [.agg [.v (.int .i64 c0Room), .ro .int c0Keys, .ro .bool c0Used, .v (.int .i64 c0Hand)]]) (fin TT con_impl_ValidClock Try.f72.results.toList [.c .sc] [.agg [.v (.int .i64 c0Room), .ro .int c0Keys, .ro .bool c0Used, .v (.int .i64 c0Hand)]] kk) = S_impl_ValidClock c0Room c0Keys c0Used c0Hand (fun r0 => kk (.one (.c (.v (.bool r0)))) []) := by
  rw [g_impl_ValidClock]
  rfl
theorem clok_impl_ValidClock : ConOK Try.prog cl_impl_ValidClock := consCons h_impl_ValidKeys ⟨Try.f69, Try.func69, by kernel_rfl, ne_of_beq (by kernel_rfl)⟩ (consNil)
theorem cok_impl_ValidClock : ConsOK Try.prog 38 cs_impl_ValidClock := ⟨clok_impl_ValidClock, inlNil, ovNil⟩
theorem i_impl_ValidClock {vs : List A1} {kk : AV → List A1 → Prop} {motive : List A1 → Prop} (h : con_impl_ValidClock.F vs kk) (H : ∀ (c0Room : Int) (c0Keys : List Int) (c0Used : List Bool) (c0Hand : Int), F_impl_ValidClock c0Room c0Keys c0Used c0Hand (fun r0 => kk (.one (.c (.v (.bool r0)))) []) → motive [.agg [.v (.int .i64 c0Room), .ro .int c0Keys, .ro .bool c0Used, .v (.int .i64 c0Hand)]]) : motive vs := by
  unfold con_impl_ValidClock at h
  dsimp only at h
  split at h
  · exact H _ _ _ _ h
  · exact h.elim
theorem h_impl_ValidClock : Holds Try.prog 72 con_impl_ValidClock := by
  refine holds_of_ev (rt := [.c .sc]) (T := TT) (Γ := cs_impl_ValidClock) (an := an_impl_ValidClock) (N := 38) (c := Try.f72.body.getD .skip) Try.func72 (by kernel_rfl) Try.ntmps72 (by decide) (by decide) mixed tabOK cok_impl_ValidClock (by kernel_rfl) ?_
  intro vs kk _ hF
  exact i_impl_ValidClock (motive := fun vs => Goes (ev TT cs_impl_ValidClock 38 an_impl_ValidClock (Try.f72.body.getD .skip) (st0 con_impl_ValidClock vs) (fin TT con_impl_ValidClock Try.f72.results.toList [.c .sc] vs kk))) hF (fun c0Room c0Keys c0Used c0Hand hF => goes_of (e_impl_ValidClock c0Room c0Keys c0Used c0Hand kk) (F_impl_ValidClock_S hF))
def con_impl_nextPlace : Con := ⟨[.rd], true, [.agg [.sc, .sl .int, .sl .bool, .sc]], fun vs k => match vs with
    | [.agg [.v (.int .i64 c0Room), .ro .int c0Keys, .ro .bool c0Used, .v (.int .i64 c0Hand)]] => F_impl_nextPlace c0Room c0Keys c0Used c0Hand (fun r0 => k (.one (.c (.v (.int .i64 r0)))) [])
    | _ => False, false⟩
def cl_impl_nextPlace : List (FuncId × Con) := []
def an_impl_nextPlace : Ann := ⟨[], [], [], []⟩
def cs_impl_nextPlace : Cons := ⟨cl_impl_nextPlace, [], 0, [], [], []⟩
def fin_impl_nextPlace (c0Room : Int) (c0Keys : List Int) (c0Used : List Bool) (c0Hand : Int) (kk : AV → List A1 → Prop) : Kt := fin TT con_impl_nextPlace Try.f73.results.toList [.c .sc] [.agg [.v (.int .i64 c0Room), .ro .int c0Keys, .ro .bool c0Used, .v (.int .i64 c0Hand)]] kk
theorem g_impl_nextPlace (c0Room : Int) (c0Keys : List Int) (c0Used : List Bool) (c0Hand : Int) (kk : AV → List A1 → Prop) :
    ev TT cs_impl_nextPlace 10 an_impl_nextPlace (Try.f73.body.getD .skip) (st0 con_impl_nextPlace [.agg [.v (.int .i64 c0Room), .ro .int c0Keys, .ro .bool c0Used, .v (.int .i64 c0Hand)]]) (fin TT con_impl_nextPlace Try.f73.results.toList [.c .sc] [.agg [.v (.int .i64 c0Room), .ro .int c0Keys, .ro .bool c0Used, .v (.int .i64 c0Hand)]] kk) = G_impl_nextPlace c0Room c0Keys c0Used c0Hand (fun r0 => kk (.one (.c (.v (.int .i64 r0)))) []) := by kernel_rfl
theorem e_impl_nextPlace (c0Room : Int) (c0Keys : List Int) (c0Used : List Bool) (c0Hand : Int) (kk : AV → List A1 → Prop) :
    ev TT cs_impl_nextPlace 10 an_impl_nextPlace (Try.f73.body.getD .skip) (st0 con_impl_nextPlace [.agg [.v (.int .i64 c0Room), .ro .int c0Keys, .ro .bool c0Used, .v (.int .i64 c0Hand)]]) (fin TT con_impl_nextPlace Try.f73.results.toList [.c .sc] [.agg [.v (.int .i64 c0Room), .ro .int c0Keys, .ro .bool c0Used, .v (.int .i64 c0Hand)]] kk) = S_impl_nextPlace c0Room c0Keys c0Used c0Hand (fun r0 => kk (.one (.c (.v (.int .i64 r0)))) []) := by
  rw [g_impl_nextPlace]
  rfl
theorem clok_impl_nextPlace : ConOK Try.prog cl_impl_nextPlace := consNil
theorem cok_impl_nextPlace : ConsOK Try.prog 10 cs_impl_nextPlace := ⟨clok_impl_nextPlace, inlNil, ovNil⟩
theorem i_impl_nextPlace {vs : List A1} {kk : AV → List A1 → Prop} {motive : List A1 → Prop} (h : con_impl_nextPlace.F vs kk) (H : ∀ (c0Room : Int) (c0Keys : List Int) (c0Used : List Bool) (c0Hand : Int), F_impl_nextPlace c0Room c0Keys c0Used c0Hand (fun r0 => kk (.one (.c (.v (.int .i64 r0)))) []) → motive [.agg [.v (.int .i64 c0Room), .ro .int c0Keys, .ro .bool c0Used, .v (.int .i64 c0Hand)]]) : motive vs := by
  unfold con_impl_nextPlace at h
  dsimp only at h
  split at h
  · exact H _ _ _ _ h
  · exact h.elim
theorem h_impl_nextPlace : Holds Try.prog 73 con_impl_nextPlace := by
  refine holds_of_ev (rt := [.c .sc]) (T := TT) (Γ := cs_impl_nextPlace) (an := an_impl_nextPlace) (N := 10) (c := Try.f73.body.getD .skip) Try.func73 (by kernel_rfl) Try.ntmps73 (by decide) (by decide) mixed tabOK cok_impl_nextPlace (by kernel_rfl) ?_
  intro vs kk _ hF
  exact i_impl_nextPlace (motive := fun vs => Goes (ev TT cs_impl_nextPlace 10 an_impl_nextPlace (Try.f73.body.getD .skip) (st0 con_impl_nextPlace vs) (fin TT con_impl_nextPlace Try.f73.results.toList [.c .sc] vs kk))) hF (fun c0Room c0Keys c0Used c0Hand hF => goes_of (e_impl_nextPlace c0Room c0Keys c0Used c0Hand kk) (F_impl_nextPlace_S hF))
def con_impl_UseClock : Con := ⟨[.rd, .rd], true, [.agg [.sc, .sl .int, .sl .bool, .sc], .c (.sc)], fun vs k => match vs with
    | [.agg [.v (.int .i64 c0Room), .ro .int c0Keys, .ro .bool c0Used, .v (.int .i64 c0Hand)], .c (.v (.int .i64 key1))] => F_impl_UseClock c0Room c0Keys c0Used c0Hand key1 (fun r0 r1 r2 r3 r4 => k (.tup [.agg [.v (.int .i64 r0), .ro .int r1, .ro .bool r2, .v (.int .i64 r3)], .c (.v (.bool r4))]) [])
    | _ => False, false⟩
def cl_impl_UseClock : List (FuncId × Con) := [(56, con_impl_validKey), (58, con_slices_Index_sint_int), (72, con_impl_ValidClock), (73, con_impl_nextPlace)]
def nm0_impl_UseClock : List NStep := [.keep [1, 4, 6] [64, 96, 352, 416]]
def an_impl_UseClock : Ann := ⟨[(3, .take 0 (.take 1 (.take 3 (.take 4 (.take 7 (.take 8 (.take 10 (.take 11 (.alt 2 (.alt 5 (.alt 6 (.alt 9 (.take 12 (.alt 13 (.alt 14 (.done) (.none)) (.none))) (.alt 13 (.alt 9 (.take 12 (.alt 14 (.done) (.none))) (.none)) (.none))) (.alt 13 (.alt 6 (.alt 9 (.take 12 (.alt 14 (.done) (.none))) (.none)) (.none)) (.none))) (.alt 6 (.alt 5 (.alt 9 (.take 12 (.alt 13 (.alt 14 (.done) (.none)) (.none))) (.alt 13 (.alt 9 (.take 12 (.alt 14 (.done) (.none))) (.none)) (.none))) (.alt 13 (.alt 5 (.alt 9 (.take 12 (.alt 14 (.done) (.none))) (.none)) (.none)) (.none))) (.alt 13 (.alt 5 (.alt 6 (.alt 9 (.take 12 (.alt 14 (.done) (.none))) (.none)) (.none)) (.alt 6 (.alt 5 (.alt 9 (.take 12 (.alt 14 (.done) (.none))) (.none)) (.none)) (.none))) (.none)))) (.alt 6 (.alt 2 (.alt 5 (.alt 9 (.take 12 (.alt 13 (.alt 14 (.done) (.none)) (.none))) (.alt 13 (.alt 9 (.take 12 (.alt 14 (.done) (.none))) (.none)) (.none))) (.alt 13 (.alt 5 (.alt 9 (.take 12 (.alt 14 (.done) (.none))) (.none)) (.none)) (.none))) (.alt 13 (.alt 2 (.alt 5 (.alt 9 (.take 12 (.alt 14 (.done) (.none))) (.none)) (.none)) (.none)) (.none))) (.alt 13 (.alt 2 (.alt 5 (.alt 6 (.alt 9 (.take 12 (.alt 14 (.done) (.none))) (.none)) (.none)) (.alt 6 (.alt 5 (.alt 9 (.take 12 (.alt 14 (.done) (.none))) (.none)) (.none)) (.none))) (.alt 6 (.alt 2 (.alt 5 (.alt 9 (.take 12 (.alt 14 (.done) (.none))) (.none)) (.none)) (.none)) (.none))) (.none))))))))))), [32])], [(12, nm0_impl_UseClock)], [], []⟩
def cs_impl_UseClock : Cons := ⟨cl_impl_UseClock, [], 0, [], [], []⟩
def can0_impl_UseClock (c0Keys : List Int) (c0Room : Int) (key1 : Int) (xb6c3 : Int) (xy26 : List Bool) : St := ⟨[(1, .one (.c (.v (.int .i64 key1)))), (4, .one (.c (.pb 64 0))), (6, .one (.c (.pb 96 0)))], [(64, .box [.v (.int .i64 0), .nil, .nil, .v (.int .i64 0)]), (96, .box [.v (.int .i64 c0Room), .ow 352, .ow 416, .v (.int .i64 xb6c3)]), (352, .row .int c0Keys), (416, .row .bool xy26)]⟩
def fin_impl_UseClock (c0Room : Int) (c0Keys : List Int) (c0Used : List Bool) (c0Hand : Int) (key1 : Int) (kk : AV → List A1 → Prop) : Kt := fin TT con_impl_UseClock Try.f51.results.toList [.agg [.sc, .sl .int, .sl .bool, .sc], .c .sc] [.agg [.v (.int .i64 c0Room), .ro .int c0Keys, .ro .bool c0Used, .v (.int .i64 c0Hand)], .c (.v (.int .i64 key1))] kk
def kt0_impl_UseClock (kf : Kt) : Kt := blockK 0 (seqK (evF TT cs_impl_UseClock 83 an_impl_UseClock Try.f51 [1, 1, 1, 1, 1, 1]) (kf))
theorem r0_impl_UseClock (c0Room : Int) (c0Keys : List Int) (c0Used : List Bool) (c0Hand : Int) (key1 : Int) (kk : AV → List A1 → Prop) (n : Nat) (xb6c3 : Int) (xy26 : List Bool) :
    iter (evF TT cs_impl_UseClock 83 an_impl_UseClock Try.f51 [1, 1, 1, 1, 1, 0, 0, 0]) nm0_impl_UseClock (kt0_impl_UseClock (fin_impl_UseClock c0Room c0Keys c0Used c0Hand key1 kk)) (n + 1) (can0_impl_UseClock c0Keys c0Room key1 xb6c3 xy26) = T0_impl_UseClock c0Keys c0Room key1 xb6c3 xy26 (fun r0 r1 r2 r3 r4 => kk (.tup [.agg [.v (.int .i64 r0), .ro .int r1, .ro .bool r2, .v (.int .i64 r3)], .c (.v (.bool r4))]) []) (fun xb6c3 xy26 => iter (evF TT cs_impl_UseClock 83 an_impl_UseClock Try.f51 [1, 1, 1, 1, 1, 0, 0, 0]) nm0_impl_UseClock (kt0_impl_UseClock (fin_impl_UseClock c0Room c0Keys c0Used c0Hand key1 kk)) n (can0_impl_UseClock c0Keys c0Room key1 xb6c3 xy26)) := by kernel_rfl
theorem l0_impl_UseClock (c0Room : Int) (c0Keys : List Int) (c0Used : List Bool) (c0Hand : Int) (key1 : Int) (kk : AV → List A1 → Prop) : ∀ (n : Nat) (xb6c3 : Int) (xy26 : List Bool), iter (evF TT cs_impl_UseClock 83 an_impl_UseClock Try.f51 [1, 1, 1, 1, 1, 0, 0, 0]) nm0_impl_UseClock (kt0_impl_UseClock (fin_impl_UseClock c0Room c0Keys c0Used c0Hand key1 kk)) n (can0_impl_UseClock c0Keys c0Room key1 xb6c3 xy26) = L0_impl_UseClock c0Keys c0Room key1 (fun r0 r1 r2 r3 r4 => kk (.tup [.agg [.v (.int .i64 r0), .ro .int r1, .ro .bool r2, .v (.int .i64 r3)], .c (.v (.bool r4))]) []) n xb6c3 xy26 := by
  intro n
  induction n with
  | zero => intros; rfl
  | succ n ih =>
    intro xb6c3 xy26
    rw [r0_impl_UseClock c0Room c0Keys c0Used c0Hand key1 kk n xb6c3 xy26]
    have hb : (fun xb6c3 xy26 => iter (evF TT cs_impl_UseClock 83 an_impl_UseClock Try.f51 [1, 1, 1, 1, 1, 0, 0, 0]) nm0_impl_UseClock (kt0_impl_UseClock (fin_impl_UseClock c0Room c0Keys c0Used c0Hand key1 kk)) n (can0_impl_UseClock c0Keys c0Room key1 xb6c3 xy26)) = L0_impl_UseClock c0Keys c0Room key1 (fun r0 r1 r2 r3 r4 => kk (.tup [.agg [.v (.int .i64 r0), .ro .int r1, .ro .bool r2, .v (.int .i64 r3)], .c (.v (.bool r4))]) []) n := by
      funext xb6c3 xy26; exact ih xb6c3 xy26
    rw [hb]
    rfl
theorem g_impl_UseClock (c0Room : Int) (c0Keys : List Int) (c0Used : List Bool) (c0Hand : Int) (key1 : Int) (kk : AV → List A1 → Prop) :
    ev TT cs_impl_UseClock 83 an_impl_UseClock (Try.f51.body.getD .skip) (st0 con_impl_UseClock [.agg [.v (.int .i64 c0Room), .ro .int c0Keys, .ro .bool c0Used, .v (.int .i64 c0Hand)], .c (.v (.int .i64 key1))]) (fin TT con_impl_UseClock Try.f51.results.toList [.agg [.sc, .sl .int, .sl .bool, .sc], .c .sc] [.agg [.v (.int .i64 c0Room), .ro .int c0Keys, .ro .bool c0Used, .v (.int .i64 c0Hand)], .c (.v (.int .i64 key1))] kk) = G_impl_UseClock c0Room c0Keys c0Used c0Hand key1 (fun r0 r1 r2 r3 r4 => kk (.tup [.agg [.v (.int .i64 r0), .ro .int r1, .ro .bool r2, .v (.int .i64 r3)], .c (.v (.bool r4))]) []) (fun c0Keys c0Room key1 xb6c3 xy26 => ∃ j, iter (evF TT cs_impl_UseClock 83 an_impl_UseClock Try.f51 [1, 1, 1, 1, 1, 0, 0, 0]) nm0_impl_UseClock (kt0_impl_UseClock (fin_impl_UseClock c0Room c0Keys c0Used c0Hand key1 kk)) j (can0_impl_UseClock c0Keys c0Room key1 xb6c3 xy26)) := by kernel_rfl
theorem e_impl_UseClock (c0Room : Int) (c0Keys : List Int) (c0Used : List Bool) (c0Hand : Int) (key1 : Int) (kk : AV → List A1 → Prop) :
    ev TT cs_impl_UseClock 83 an_impl_UseClock (Try.f51.body.getD .skip) (st0 con_impl_UseClock [.agg [.v (.int .i64 c0Room), .ro .int c0Keys, .ro .bool c0Used, .v (.int .i64 c0Hand)], .c (.v (.int .i64 key1))]) (fin TT con_impl_UseClock Try.f51.results.toList [.agg [.sc, .sl .int, .sl .bool, .sc], .c .sc] [.agg [.v (.int .i64 c0Room), .ro .int c0Keys, .ro .bool c0Used, .v (.int .i64 c0Hand)], .c (.v (.int .i64 key1))] kk) = S_impl_UseClock c0Room c0Keys c0Used c0Hand key1 (fun r0 r1 r2 r3 r4 => kk (.tup [.agg [.v (.int .i64 r0), .ro .int r1, .ro .bool r2, .v (.int .i64 r3)], .c (.v (.bool r4))]) []) := by
  rw [g_impl_UseClock]
  have hi0 : (fun c0Keys c0Room key1 xb6c3 xy26 => ∃ j, iter (evF TT cs_impl_UseClock 83 an_impl_UseClock Try.f51 [1, 1, 1, 1, 1, 0, 0, 0]) nm0_impl_UseClock (kt0_impl_UseClock (fin_impl_UseClock c0Room c0Keys c0Used c0Hand key1 kk)) j (can0_impl_UseClock c0Keys c0Room key1 xb6c3 xy26)) = (fun c0Keys c0Room key1 xb6c3 xy26 => ∃ j, L0_impl_UseClock c0Keys c0Room key1 (fun r0 r1 r2 r3 r4 => kk (.tup [.agg [.v (.int .i64 r0), .ro .int r1, .ro .bool r2, .v (.int .i64 r3)], .c (.v (.bool r4))]) []) j xb6c3 xy26) := by
    funext c0Keys c0Room key1 xb6c3 xy26
    refine congrArg Exists (funext fun j => ?_)
    rw [l0_impl_UseClock c0Room c0Keys c0Used c0Hand key1 kk j xb6c3 xy26]
  rw [hi0]
  rw [G_impl_UseClock_eq]
  rfl
theorem clok_impl_UseClock : ConOK Try.prog cl_impl_UseClock := consCons h_impl_validKey ⟨Try.f56, Try.func56, by kernel_rfl, ne_of_beq (by kernel_rfl)⟩ (consCons h_slices_Index_sint_int ⟨Try.f58, Try.func58, by kernel_rfl, ne_of_beq (by kernel_rfl)⟩ (consCons h_impl_ValidClock ⟨Try.f72, Try.func72, by kernel_rfl, ne_of_beq (by kernel_rfl)⟩ (consCons h_impl_nextPlace ⟨Try.f73, Try.func73, by kernel_rfl, ne_of_beq (by kernel_rfl)⟩ (consNil))))
theorem cok_impl_UseClock : ConsOK Try.prog 83 cs_impl_UseClock := ⟨clok_impl_UseClock, inlNil, ovNil⟩
theorem i_impl_UseClock {vs : List A1} {kk : AV → List A1 → Prop} {motive : List A1 → Prop} (h : con_impl_UseClock.F vs kk) (H : ∀ (c0Room : Int) (c0Keys : List Int) (c0Used : List Bool) (c0Hand : Int) (key1 : Int), F_impl_UseClock c0Room c0Keys c0Used c0Hand key1 (fun r0 r1 r2 r3 r4 => kk (.tup [.agg [.v (.int .i64 r0), .ro .int r1, .ro .bool r2, .v (.int .i64 r3)], .c (.v (.bool r4))]) []) → motive [.agg [.v (.int .i64 c0Room), .ro .int c0Keys, .ro .bool c0Used, .v (.int .i64 c0Hand)], .c (.v (.int .i64 key1))]) : motive vs := by
  unfold con_impl_UseClock at h
  dsimp only at h
  split at h
  · exact H _ _ _ _ _ h
  · exact h.elim
theorem h_impl_UseClock : Holds Try.prog 51 con_impl_UseClock := by
  refine holds_of_ev (rt := [.agg [.sc, .sl .int, .sl .bool, .sc], .c .sc]) (T := TT) (Γ := cs_impl_UseClock) (an := an_impl_UseClock) (N := 83) (c := Try.f51.body.getD .skip) Try.func51 (by kernel_rfl) Try.ntmps51 (by decide) (by decide) mixed tabOK cok_impl_UseClock (by kernel_rfl) ?_
  intro vs kk _ hF
  exact i_impl_UseClock (motive := fun vs => Goes (ev TT cs_impl_UseClock 83 an_impl_UseClock (Try.f51.body.getD .skip) (st0 con_impl_UseClock vs) (fin TT con_impl_UseClock Try.f51.results.toList [.agg [.sc, .sl .int, .sl .bool, .sc], .c .sc] vs kk))) hF (fun c0Room c0Keys c0Used c0Hand key1 hF => goes_of (e_impl_UseClock c0Room c0Keys c0Used c0Hand key1 kk) (F_impl_UseClock_S hF))
def con_impl_useAll_Clock : Con := ⟨[.rd, .mv, .rd], true, [.c (.sl .int), .agg [.sc, .sl .int, .sl .bool, .sc], .c (.fn)], fun vs k => match vs with
    | [.c (.ro .int t0), .agg [.v (.int .i64 cache1Room), .ro .int cache1Keys, .ro .bool cache1Used, .v (.int .i64 cache1Hand)], .c (.v (.func (.func 51) ⟨[]⟩ ⟨[]⟩))] => F_impl_useAll_Clock_UseClock t0 cache1Room cache1Keys cache1Used cache1Hand (fun r0 r1 r2 r3 r4 => k (.tup [.agg [.v (.int .i64 r0), .ro .int r1, .ro .bool r2, .v (.int .i64 r3)], .c (.v (.int .i64 r4))]) [])
    | _ => False, false⟩
def cl_impl_useAll_Clock_UseClock : List (FuncId × Con) := [(51, con_impl_UseClock)]
def nm0_impl_useAll_Clock_UseClock : List NStep := [.ownc 64 1 .int 90000, .ownc 64 2 .bool 90001, .keep [2, 4, 6, 8, 13, 14, 15] [64, 90000, 90001, 96]]
def an_impl_useAll_Clock_UseClock : Ann := ⟨[], [(3, nm0_impl_useAll_Clock_UseClock)], [], []⟩
def cs_impl_useAll_Clock_UseClock : Cons := ⟨cl_impl_useAll_Clock_UseClock, [], 0, [], [], []⟩
def can0_impl_useAll_Clock_UseClock (t0 : List Int) (xt14 : Int) (xhits8 : Int) (xt15 : Int) (xb4c0 : Int) (xb4c3 : Int) (xb4c1 : List Int) (xb4c2 : List Bool) : St := ⟨[(2, .one (.c (.v (.func (.func 51) ⟨[]⟩ ⟨[]⟩)))), (4, .one (.c (.pb 64 0))), (6, .one (.c (.pb 96 0))), (8, .one (.c (.v (.int .i64 xhits8)))), (13, .one (.c (.ro .int t0))), (14, .one (.c (.v (.int .i64 xt14)))), (15, .one (.c (.v (.int .i64 xt15))))], [(64, .box [.v (.int .i64 xb4c0), .ow 90000, .ow 90001, .v (.int .i64 xb4c3)]), (90000, .row .int xb4c1), (90001, .row .bool xb4c2), (96, .box [.v (.int .i64 0), .nil, .nil, .v (.int .i64 0)])]⟩
def fin_impl_useAll_Clock_UseClock (t0 : List Int) (cache1Room : Int) (cache1Keys : List Int) (cache1Used : List Bool) (cache1Hand : Int) (kk : AV → List A1 → Prop) : Kt := fin TT con_impl_useAll_Clock Try.f50.results.toList [.agg [.sc, .sl .int, .sl .bool, .sc], .c .sc] [.c (.ro .int t0), .agg [.v (.int .i64 cache1Room), .ro .int cache1Keys, .ro .bool cache1Used, .v (.int .i64 cache1Hand)], .c (.v (.func (.func 51) ⟨[]⟩ ⟨[]⟩))] kk
def kt0_impl_useAll_Clock_UseClock (kf : Kt) : Kt := blockK 0 (seqK (evF TT cs_impl_useAll_Clock_UseClock 33 an_impl_useAll_Clock_UseClock Try.f50 [1, 1, 1]) (kf))
theorem r0_impl_useAll_Clock_UseClock (t0 : List Int) (cache1Room : Int) (cache1Keys : List Int) (cache1Used : List Bool) (cache1Hand : Int) (xt14 : Int) (kk : AV → List A1 → Prop) (n : Nat) (xhits8 : Int) (xt15 : Int) (xb4c0 : Int) (xb4c3 : Int) (xb4c1 : List Int) (xb4c2 : List Bool) :
    iter (evF TT cs_impl_useAll_Clock_UseClock 33 an_impl_useAll_Clock_UseClock Try.f50 [1, 1, 0, 1, 0, 0]) nm0_impl_useAll_Clock_UseClock (kt0_impl_useAll_Clock_UseClock (fin_impl_useAll_Clock_UseClock t0 cache1Room cache1Keys cache1Used cache1Hand kk)) (n + 1) (can0_impl_useAll_Clock_UseClock t0 xt14 xhits8 xt15 xb4c0 xb4c3 xb4c1 xb4c2) = T0_impl_useAll_Clock_UseClock t0 xt14 xhits8 xt15 xb4c0 xb4c3 xb4c1 xb4c2 (fun r0 r1 r2 r3 r4 => kk (.tup [.agg [.v (.int .i64 r0), .ro .int r1, .ro .bool r2, .v (.int .i64 r3)], .c (.v (.int .i64 r4))]) []) (fun xhits8 xt15 xb4c0 xb4c3 xb4c1 xb4c2 => iter (evF TT cs_impl_useAll_Clock_UseClock 33 an_impl_useAll_Clock_UseClock Try.f50 [1, 1, 0, 1, 0, 0]) nm0_impl_useAll_Clock_UseClock (kt0_impl_useAll_Clock_UseClock (fin_impl_useAll_Clock_UseClock t0 cache1Room cache1Keys cache1Used cache1Hand kk)) n (can0_impl_useAll_Clock_UseClock t0 xt14 xhits8 xt15 xb4c0 xb4c3 xb4c1 xb4c2)) := by kernel_rfl
theorem l0_impl_useAll_Clock_UseClock (t0 : List Int) (cache1Room : Int) (cache1Keys : List Int) (cache1Used : List Bool) (cache1Hand : Int) (xt14 : Int) (kk : AV → List A1 → Prop) : ∀ (n : Nat) (xhits8 : Int) (xt15 : Int) (xb4c0 : Int) (xb4c3 : Int) (xb4c1 : List Int) (xb4c2 : List Bool), iter (evF TT cs_impl_useAll_Clock_UseClock 33 an_impl_useAll_Clock_UseClock Try.f50 [1, 1, 0, 1, 0, 0]) nm0_impl_useAll_Clock_UseClock (kt0_impl_useAll_Clock_UseClock (fin_impl_useAll_Clock_UseClock t0 cache1Room cache1Keys cache1Used cache1Hand kk)) n (can0_impl_useAll_Clock_UseClock t0 xt14 xhits8 xt15 xb4c0 xb4c3 xb4c1 xb4c2) = L0_impl_useAll_Clock_UseClock t0 xt14 (fun r0 r1 r2 r3 r4 => kk (.tup [.agg [.v (.int .i64 r0), .ro .int r1, .ro .bool r2, .v (.int .i64 r3)], .c (.v (.int .i64 r4))]) []) n xhits8 xt15 xb4c0 xb4c3 xb4c1 xb4c2 := by
  intro n
  induction n with
  | zero => intros; rfl
  | succ n ih =>
    intro xhits8 xt15 xb4c0 xb4c3 xb4c1 xb4c2
    rw [r0_impl_useAll_Clock_UseClock t0 cache1Room cache1Keys cache1Used cache1Hand xt14 kk n xhits8 xt15 xb4c0 xb4c3 xb4c1 xb4c2]
    have hb : (fun xhits8 xt15 xb4c0 xb4c3 xb4c1 xb4c2 => iter (evF TT cs_impl_useAll_Clock_UseClock 33 an_impl_useAll_Clock_UseClock Try.f50 [1, 1, 0, 1, 0, 0]) nm0_impl_useAll_Clock_UseClock (kt0_impl_useAll_Clock_UseClock (fin_impl_useAll_Clock_UseClock t0 cache1Room cache1Keys cache1Used cache1Hand kk)) n (can0_impl_useAll_Clock_UseClock t0 xt14 xhits8 xt15 xb4c0 xb4c3 xb4c1 xb4c2)) = L0_impl_useAll_Clock_UseClock t0 xt14 (fun r0 r1 r2 r3 r4 => kk (.tup [.agg [.v (.int .i64 r0), .ro .int r1, .ro .bool r2, .v (.int .i64 r3)], .c (.v (.int .i64 r4))]) []) n := by
      funext xhits8 xt15 xb4c0 xb4c3 xb4c1 xb4c2; exact ih xhits8 xt15 xb4c0 xb4c3 xb4c1 xb4c2
    rw [hb]
    rfl
theorem g_impl_useAll_Clock_UseClock (t0 : List Int) (cache1Room : Int) (cache1Keys : List Int) (cache1Used : List Bool) (cache1Hand : Int) (kk : AV → List A1 → Prop) :
    ev TT cs_impl_useAll_Clock_UseClock 33 an_impl_useAll_Clock_UseClock (Try.f50.body.getD .skip) (st0 con_impl_useAll_Clock [.c (.ro .int t0), .agg [.v (.int .i64 cache1Room), .ro .int cache1Keys, .ro .bool cache1Used, .v (.int .i64 cache1Hand)], .c (.v (.func (.func 51) ⟨[]⟩ ⟨[]⟩))]) (fin TT con_impl_useAll_Clock Try.f50.results.toList [.agg [.sc, .sl .int, .sl .bool, .sc], .c .sc] [.c (.ro .int t0), .agg [.v (.int .i64 cache1Room), .ro .int cache1Keys, .ro .bool cache1Used, .v (.int .i64 cache1Hand)], .c (.v (.func (.func 51) ⟨[]⟩ ⟨[]⟩))] kk) = G_impl_useAll_Clock_UseClock t0 cache1Room cache1Keys cache1Used cache1Hand (fun t0 xt14 xhits8 xt15 xb4c0 xb4c3 xb4c1 xb4c2 => ∃ j, iter (evF TT cs_impl_useAll_Clock_UseClock 33 an_impl_useAll_Clock_UseClock Try.f50 [1, 1, 0, 1, 0, 0]) nm0_impl_useAll_Clock_UseClock (kt0_impl_useAll_Clock_UseClock (fin_impl_useAll_Clock_UseClock t0 cache1Room cache1Keys cache1Used cache1Hand kk)) j (can0_impl_useAll_Clock_UseClock t0 xt14 xhits8 xt15 xb4c0 xb4c3 xb4c1 xb4c2)) := by kernel_rfl
theorem e_impl_useAll_Clock_UseClock (t0 : List Int) (cache1Room : Int) (cache1Keys : List Int) (cache1Used : List Bool) (cache1Hand : Int) (kk : AV → List A1 → Prop) :
    ev TT cs_impl_useAll_Clock_UseClock 33 an_impl_useAll_Clock_UseClock (Try.f50.body.getD .skip) (st0 con_impl_useAll_Clock [.c (.ro .int t0), .agg [.v (.int .i64 cache1Room), .ro .int cache1Keys, .ro .bool cache1Used, .v (.int .i64 cache1Hand)], .c (.v (.func (.func 51) ⟨[]⟩ ⟨[]⟩))]) (fin TT con_impl_useAll_Clock Try.f50.results.toList [.agg [.sc, .sl .int, .sl .bool, .sc], .c .sc] [.c (.ro .int t0), .agg [.v (.int .i64 cache1Room), .ro .int cache1Keys, .ro .bool cache1Used, .v (.int .i64 cache1Hand)], .c (.v (.func (.func 51) ⟨[]⟩ ⟨[]⟩))] kk) = S_impl_useAll_Clock_UseClock t0 cache1Room cache1Keys cache1Used cache1Hand (fun r0 r1 r2 r3 r4 => kk (.tup [.agg [.v (.int .i64 r0), .ro .int r1, .ro .bool r2, .v (.int .i64 r3)], .c (.v (.int .i64 r4))]) []) := by
  rw [g_impl_useAll_Clock_UseClock]
  have hi0 : (fun t0 xt14 xhits8 xt15 xb4c0 xb4c3 xb4c1 xb4c2 => ∃ j, iter (evF TT cs_impl_useAll_Clock_UseClock 33 an_impl_useAll_Clock_UseClock Try.f50 [1, 1, 0, 1, 0, 0]) nm0_impl_useAll_Clock_UseClock (kt0_impl_useAll_Clock_UseClock (fin_impl_useAll_Clock_UseClock t0 cache1Room cache1Keys cache1Used cache1Hand kk)) j (can0_impl_useAll_Clock_UseClock t0 xt14 xhits8 xt15 xb4c0 xb4c3 xb4c1 xb4c2)) = (fun t0 xt14 xhits8 xt15 xb4c0 xb4c3 xb4c1 xb4c2 => ∃ j, L0_impl_useAll_Clock_UseClock t0 xt14 (fun r0 r1 r2 r3 r4 => kk (.tup [.agg [.v (.int .i64 r0), .ro .int r1, .ro .bool r2, .v (.int .i64 r3)], .c (.v (.int .i64 r4))]) []) j xhits8 xt15 xb4c0 xb4c3 xb4c1 xb4c2) := by
    funext t0 xt14 xhits8 xt15 xb4c0 xb4c3 xb4c1 xb4c2
    refine congrArg Exists (funext fun j => ?_)
    rw [l0_impl_useAll_Clock_UseClock t0 cache1Room cache1Keys cache1Used cache1Hand xt14 kk j xhits8 xt15 xb4c0 xb4c3 xb4c1 xb4c2]
  rw [hi0]
  rfl
theorem clok_impl_useAll_Clock_UseClock : ConOK Try.prog cl_impl_useAll_Clock_UseClock := consCons h_impl_UseClock ⟨Try.f51, Try.func51, by kernel_rfl, ne_of_beq (by kernel_rfl)⟩ (consNil)
theorem cok_impl_useAll_Clock_UseClock : ConsOK Try.prog 33 cs_impl_useAll_Clock_UseClock := ⟨clok_impl_useAll_Clock_UseClock, inlNil, ovNil⟩
theorem i_impl_useAll_Clock_UseClock {vs : List A1} {kk : AV → List A1 → Prop} {motive : List A1 → Prop} (h : con_impl_useAll_Clock.F vs kk) (H : ∀ (t0 : List Int) (cache1Room : Int) (cache1Keys : List Int) (cache1Used : List Bool) (cache1Hand : Int), F_impl_useAll_Clock_UseClock t0 cache1Room cache1Keys cache1Used cache1Hand (fun r0 r1 r2 r3 r4 => kk (.tup [.agg [.v (.int .i64 r0), .ro .int r1, .ro .bool r2, .v (.int .i64 r3)], .c (.v (.int .i64 r4))]) []) → motive [.c (.ro .int t0), .agg [.v (.int .i64 cache1Room), .ro .int cache1Keys, .ro .bool cache1Used, .v (.int .i64 cache1Hand)], .c (.v (.func (.func 51) ⟨[]⟩ ⟨[]⟩))]) : motive vs := by
  unfold con_impl_useAll_Clock at h
  dsimp only at h
  split at h
  · exact H _ _ _ _ _ h
  · exact h.elim
theorem h_impl_useAll_Clock : Holds Try.prog 50 con_impl_useAll_Clock := by
  refine holds_of_ev (rt := [.agg [.sc, .sl .int, .sl .bool, .sc], .c .sc]) (T := TT) (Γ := cs_impl_useAll_Clock_UseClock) (an := an_impl_useAll_Clock_UseClock) (N := 33) (c := Try.f50.body.getD .skip) Try.func50 (by kernel_rfl) Try.ntmps50 (by decide) (by decide) mixed tabOK cok_impl_useAll_Clock_UseClock (by kernel_rfl) ?_
  intro vs kk _ hF
  exact i_impl_useAll_Clock_UseClock (motive := fun vs => Goes (ev TT cs_impl_useAll_Clock_UseClock 33 an_impl_useAll_Clock_UseClock (Try.f50.body.getD .skip) (st0 con_impl_useAll_Clock vs) (fin TT con_impl_useAll_Clock Try.f50.results.toList [.agg [.sc, .sl .int, .sl .bool, .sc], .c .sc] vs kk))) hF (fun t0 cache1Room cache1Keys cache1Used cache1Hand hF => goes_of (e_impl_useAll_Clock_UseClock t0 cache1Room cache1Keys cache1Used cache1Hand kk) (F_impl_useAll_Clock_UseClock_S hF))
def con_impl_RunClock : Con := ⟨[.rd, .rd], true, [.c (.sl .int), .c (.sc)], fun vs k => match vs with
    | [.c (.ro .int t0), .c (.v (.int .i64 room1))] => F_impl_RunClock t0 room1 (fun r0 r1 r2 r3 r4 => k (.tup [.agg [.v (.int .i64 r0), .ro .int r1, .ro .bool r2, .v (.int .i64 r3)], .c (.v (.int .i64 r4))]) [])
    | _ => False, false⟩
def cl_impl_RunClock : List (FuncId × Con) := [(26, con_impl_ValidTrace), (49, con_impl_validRoom), (50, con_impl_useAll_Clock)]
def an_impl_RunClock : Ann := ⟨[], [], [], []⟩
def cs_impl_RunClock : Cons := ⟨cl_impl_RunClock, [], 0, [], [], []⟩
def fin_impl_RunClock (t0 : List Int) (room1 : Int) (kk : AV → List A1 → Prop) : Kt := fin TT con_impl_RunClock Try.f20.results.toList [.agg [.sc, .sl .int, .sl .bool, .sc], .c .sc] [.c (.ro .int t0), .c (.v (.int .i64 room1))] kk
theorem g_impl_RunClock (t0 : List Int) (room1 : Int) (kk : AV → List A1 → Prop) :
    ev TT cs_impl_RunClock 21 an_impl_RunClock (Try.f20.body.getD .skip) (st0 con_impl_RunClock [.c (.ro .int t0), .c (.v (.int .i64 room1))]) (fin TT con_impl_RunClock Try.f20.results.toList [.agg [.sc, .sl .int, .sl .bool, .sc], .c .sc] [.c (.ro .int t0), .c (.v (.int .i64 room1))] kk) = G_impl_RunClock t0 room1 (fun r0 r1 r2 r3 r4 => kk (.tup [.agg [.v (.int .i64 r0), .ro .int r1, .ro .bool r2, .v (.int .i64 r3)], .c (.v (.int .i64 r4))]) []) := by kernel_rfl
theorem e_impl_RunClock (t0 : List Int) (room1 : Int) (kk : AV → List A1 → Prop) :
    ev TT cs_impl_RunClock 21 an_impl_RunClock (Try.f20.body.getD .skip) (st0 con_impl_RunClock [.c (.ro .int t0), .c (.v (.int .i64 room1))]) (fin TT con_impl_RunClock Try.f20.results.toList [.agg [.sc, .sl .int, .sl .bool, .sc], .c .sc] [.c (.ro .int t0), .c (.v (.int .i64 room1))] kk) = S_impl_RunClock t0 room1 (fun r0 r1 r2 r3 r4 => kk (.tup [.agg [.v (.int .i64 r0), .ro .int r1, .ro .bool r2, .v (.int .i64 r3)], .c (.v (.int .i64 r4))]) []) := by
  rw [g_impl_RunClock]
  rfl
theorem clok_impl_RunClock : ConOK Try.prog cl_impl_RunClock := consCons h_impl_ValidTrace ⟨Try.f26, Try.func26, by kernel_rfl, ne_of_beq (by kernel_rfl)⟩ (consCons h_impl_validRoom ⟨Try.f49, Try.func49, by kernel_rfl, ne_of_beq (by kernel_rfl)⟩ (consCons h_impl_useAll_Clock ⟨Try.f50, Try.func50, by kernel_rfl, ne_of_beq (by kernel_rfl)⟩ (consNil)))
theorem cok_impl_RunClock : ConsOK Try.prog 21 cs_impl_RunClock := ⟨clok_impl_RunClock, inlNil, ovNil⟩
theorem i_impl_RunClock {vs : List A1} {kk : AV → List A1 → Prop} {motive : List A1 → Prop} (h : con_impl_RunClock.F vs kk) (H : ∀ (t0 : List Int) (room1 : Int), F_impl_RunClock t0 room1 (fun r0 r1 r2 r3 r4 => kk (.tup [.agg [.v (.int .i64 r0), .ro .int r1, .ro .bool r2, .v (.int .i64 r3)], .c (.v (.int .i64 r4))]) []) → motive [.c (.ro .int t0), .c (.v (.int .i64 room1))]) : motive vs := by
  unfold con_impl_RunClock at h
  dsimp only at h
  split at h
  · exact H _ _ h
  · exact h.elim
theorem h_impl_RunClock : Holds Try.prog 20 con_impl_RunClock := by
  refine holds_of_ev (rt := [.agg [.sc, .sl .int, .sl .bool, .sc], .c .sc]) (T := TT) (Γ := cs_impl_RunClock) (an := an_impl_RunClock) (N := 21) (c := Try.f20.body.getD .skip) Try.func20 (by kernel_rfl) Try.ntmps20 (by decide) (by decide) mixed tabOK cok_impl_RunClock (by kernel_rfl) ?_
  intro vs kk _ hF
  exact i_impl_RunClock (motive := fun vs => Goes (ev TT cs_impl_RunClock 21 an_impl_RunClock (Try.f20.body.getD .skip) (st0 con_impl_RunClock vs) (fin TT con_impl_RunClock Try.f20.results.toList [.agg [.sc, .sl .int, .sl .bool, .sc], .c .sc] vs kk))) hF (fun t0 room1 hF => goes_of (e_impl_RunClock t0 room1 kk) (F_impl_RunClock_S hF))
def con_spec_inRange : Con := ⟨[.rd, .rd, .rd], true, [.c (.sc), .c (.sc), .c (.sc)], fun vs k => match vs with
    | [.c (.v (.int .i64 n0)), .c (.v (.int .i64 low1)), .c (.v (.int .i64 high2))] => F_spec_inRange n0 low1 high2 (fun r0 => k (.one (.c (.v (.bool r0)))) [])
    | _ => False, false⟩
def cl_spec_inRange : List (FuncId × Con) := []
def an_spec_inRange : Ann := ⟨[], [], [], []⟩
def cs_spec_inRange : Cons := ⟨cl_spec_inRange, [], 0, [], [], []⟩
def fin_spec_inRange (n0 : Int) (low1 : Int) (high2 : Int) (kk : AV → List A1 → Prop) : Kt := fin TT con_spec_inRange Try.f45.results.toList [.c .sc] [.c (.v (.int .i64 n0)), .c (.v (.int .i64 low1)), .c (.v (.int .i64 high2))] kk
theorem g_spec_inRange (n0 : Int) (low1 : Int) (high2 : Int) (kk : AV → List A1 → Prop) :
    ev TT cs_spec_inRange 15 an_spec_inRange (Try.f45.body.getD .skip) (st0 con_spec_inRange [.c (.v (.int .i64 n0)), .c (.v (.int .i64 low1)), .c (.v (.int .i64 high2))]) (fin TT con_spec_inRange Try.f45.results.toList [.c .sc] [.c (.v (.int .i64 n0)), .c (.v (.int .i64 low1)), .c (.v (.int .i64 high2))] kk) = G_spec_inRange n0 low1 high2 (fun r0 => kk (.one (.c (.v (.bool r0)))) []) := by kernel_rfl
theorem e_spec_inRange (n0 : Int) (low1 : Int) (high2 : Int) (kk : AV → List A1 → Prop) :
    ev TT cs_spec_inRange 15 an_spec_inRange (Try.f45.body.getD .skip) (st0 con_spec_inRange [.c (.v (.int .i64 n0)), .c (.v (.int .i64 low1)), .c (.v (.int .i64 high2))]) (fin TT con_spec_inRange Try.f45.results.toList [.c .sc] [.c (.v (.int .i64 n0)), .c (.v (.int .i64 low1)), .c (.v (.int .i64 high2))] kk) = S_spec_inRange n0 low1 high2 (fun r0 => kk (.one (.c (.v (.bool r0)))) []) := by
  rw [g_spec_inRange]
  rfl
theorem clok_spec_inRange : ConOK Try.prog cl_spec_inRange := consNil
theorem cok_spec_inRange : ConsOK Try.prog 15 cs_spec_inRange := ⟨clok_spec_inRange, inlNil, ovNil⟩
theorem i_spec_inRange {vs : List A1} {kk : AV → List A1 → Prop} {motive : List A1 → Prop} (h : con_spec_inRange.F vs kk) (H : ∀ (n0 : Int) (low1 : Int) (high2 : Int), F_spec_inRange n0 low1 high2 (fun r0 => kk (.one (.c (.v (.bool r0)))) []) → motive [.c (.v (.int .i64 n0)), .c (.v (.int .i64 low1)), .c (.v (.int .i64 high2))]) : motive vs := by
  unfold con_spec_inRange at h
  dsimp only at h
  split at h
  · exact H _ _ _ h
  · exact h.elim
theorem h_spec_inRange : Holds Try.prog 45 con_spec_inRange := by
  refine holds_of_ev (rt := [.c .sc]) (T := TT) (Γ := cs_spec_inRange) (an := an_spec_inRange) (N := 15) (c := Try.f45.body.getD .skip) Try.func45 (by kernel_rfl) Try.ntmps45 (by decide) (by decide) mixed tabOK cok_spec_inRange (by kernel_rfl) ?_
  intro vs kk _ hF
  exact i_spec_inRange (motive := fun vs => Goes (ev TT cs_spec_inRange 15 an_spec_inRange (Try.f45.body.getD .skip) (st0 con_spec_inRange vs) (fin TT con_spec_inRange Try.f45.results.toList [.c .sc] vs kk))) hF (fun n0 low1 high2 hF => goes_of (e_spec_inRange n0 low1 high2 kk) (F_spec_inRange_S hF))
def con_spec_allIn : Con := ⟨[.rd, .rd, .rd], true, [.c (.sl .int), .c (.sc), .c (.sc)], fun vs k => match vs with
    | [.c (.ro .int list0), .c (.v (.int .i64 low1)), .c (.v (.int .i64 high2))] => F_spec_allIn list0 low1 high2 (fun r0 => k (.one (.c (.v (.bool r0)))) [])
    | _ => False, false⟩
def cl_spec_allIn : List (FuncId × Con) := [(45, con_spec_inRange)]
def nm0_spec_allIn : List NStep := [.keep [0, 1, 2, 7] []]
def an_spec_allIn : Ann := ⟨[], [(2, nm0_spec_allIn)], [], []⟩
def cs_spec_allIn : Cons := ⟨cl_spec_allIn, [], 0, [], [], []⟩
def can0_spec_allIn (high2 : Int) (list0 : List Int) (low1 : Int) (xi7 : Int) : St := ⟨[(0, .one (.c (.ro .int list0))), (1, .one (.c (.v (.int .i64 low1)))), (2, .one (.c (.v (.int .i64 high2)))), (7, .one (.c (.v (.int .i64 xi7))))], []⟩
def fin_spec_allIn (list0 : List Int) (low1 : Int) (high2 : Int) (kk : AV → List A1 → Prop) : Kt := fin TT con_spec_allIn Try.f70.results.toList [.c .sc] [.c (.ro .int list0), .c (.v (.int .i64 low1)), .c (.v (.int .i64 high2))] kk
def kt0_spec_allIn (kf : Kt) : Kt := blockK 0 (seqK (evF TT cs_spec_allIn 22 an_spec_allIn Try.f70 [1, 1]) (kf))
theorem r0_spec_allIn (list0 : List Int) (low1 : Int) (high2 : Int) (kk : AV → List A1 → Prop) (n : Nat) (xi7 : Int) :
    iter (evF TT cs_spec_allIn 22 an_spec_allIn Try.f70 [1, 0, 1, 0, 0]) nm0_spec_allIn (kt0_spec_allIn (fin_spec_allIn list0 low1 high2 kk)) (n + 1) (can0_spec_allIn high2 list0 low1 xi7) = T0_spec_allIn high2 list0 low1 xi7 (fun r0 => kk (.one (.c (.v (.bool r0)))) []) (fun xi7 => iter (evF TT cs_spec_allIn 22 an_spec_allIn Try.f70 [1, 0, 1, 0, 0]) nm0_spec_allIn (kt0_spec_allIn (fin_spec_allIn list0 low1 high2 kk)) n (can0_spec_allIn high2 list0 low1 xi7)) := by kernel_rfl
theorem l0_spec_allIn (list0 : List Int) (low1 : Int) (high2 : Int) (kk : AV → List A1 → Prop) : ∀ (n : Nat) (xi7 : Int), iter (evF TT cs_spec_allIn 22 an_spec_allIn Try.f70 [1, 0, 1, 0, 0]) nm0_spec_allIn (kt0_spec_allIn (fin_spec_allIn list0 low1 high2 kk)) n (can0_spec_allIn high2 list0 low1 xi7) = L0_spec_allIn high2 list0 low1 (fun r0 => kk (.one (.c (.v (.bool r0)))) []) n xi7 := by
  intro n
  induction n with
  | zero => intros; rfl
  | succ n ih =>
    intro xi7
    rw [r0_spec_allIn list0 low1 high2 kk n xi7]
    have hb : (fun xi7 => iter (evF TT cs_spec_allIn 22 an_spec_allIn Try.f70 [1, 0, 1, 0, 0]) nm0_spec_allIn (kt0_spec_allIn (fin_spec_allIn list0 low1 high2 kk)) n (can0_spec_allIn high2 list0 low1 xi7)) = L0_spec_allIn high2 list0 low1 (fun r0 => kk (.one (.c (.v (.bool r0)))) []) n := by
      funext xi7; exact ih xi7
    rw [hb]
    rfl
theorem g_spec_allIn (list0 : List Int) (low1 : Int) (high2 : Int) (kk : AV → List A1 → Prop) :
    ev TT cs_spec_allIn 22 an_spec_allIn (Try.f70.body.getD .skip) (st0 con_spec_allIn [.c (.ro .int list0), .c (.v (.int .i64 low1)), .c (.v (.int .i64 high2))]) (fin TT con_spec_allIn Try.f70.results.toList [.c .sc] [.c (.ro .int list0), .c (.v (.int .i64 low1)), .c (.v (.int .i64 high2))] kk) = G_spec_allIn list0 low1 high2 (fun high2 list0 low1 xi7 => ∃ j, iter (evF TT cs_spec_allIn 22 an_spec_allIn Try.f70 [1, 0, 1, 0, 0]) nm0_spec_allIn (kt0_spec_allIn (fin_spec_allIn list0 low1 high2 kk)) j (can0_spec_allIn high2 list0 low1 xi7)) := by kernel_rfl
theorem e_spec_allIn (list0 : List Int) (low1 : Int) (high2 : Int) (kk : AV → List A1 → Prop) :
    ev TT cs_spec_allIn 22 an_spec_allIn (Try.f70.body.getD .skip) (st0 con_spec_allIn [.c (.ro .int list0), .c (.v (.int .i64 low1)), .c (.v (.int .i64 high2))]) (fin TT con_spec_allIn Try.f70.results.toList [.c .sc] [.c (.ro .int list0), .c (.v (.int .i64 low1)), .c (.v (.int .i64 high2))] kk) = S_spec_allIn list0 low1 high2 (fun r0 => kk (.one (.c (.v (.bool r0)))) []) := by
  rw [g_spec_allIn]
  have hi0 : (fun high2 list0 low1 xi7 => ∃ j, iter (evF TT cs_spec_allIn 22 an_spec_allIn Try.f70 [1, 0, 1, 0, 0]) nm0_spec_allIn (kt0_spec_allIn (fin_spec_allIn list0 low1 high2 kk)) j (can0_spec_allIn high2 list0 low1 xi7)) = (fun high2 list0 low1 xi7 => ∃ j, L0_spec_allIn high2 list0 low1 (fun r0 => kk (.one (.c (.v (.bool r0)))) []) j xi7) := by
    funext high2 list0 low1 xi7
    refine congrArg Exists (funext fun j => ?_)
    rw [l0_spec_allIn list0 low1 high2 kk j xi7]
  rw [hi0]
  rfl
theorem clok_spec_allIn : ConOK Try.prog cl_spec_allIn := consCons h_spec_inRange ⟨Try.f45, Try.func45, by kernel_rfl, ne_of_beq (by kernel_rfl)⟩ (consNil)
theorem cok_spec_allIn : ConsOK Try.prog 22 cs_spec_allIn := ⟨clok_spec_allIn, inlNil, ovNil⟩
theorem i_spec_allIn {vs : List A1} {kk : AV → List A1 → Prop} {motive : List A1 → Prop} (h : con_spec_allIn.F vs kk) (H : ∀ (list0 : List Int) (low1 : Int) (high2 : Int), F_spec_allIn list0 low1 high2 (fun r0 => kk (.one (.c (.v (.bool r0)))) []) → motive [.c (.ro .int list0), .c (.v (.int .i64 low1)), .c (.v (.int .i64 high2))]) : motive vs := by
  unfold con_spec_allIn at h
  dsimp only at h
  split at h
  · exact H _ _ _ h
  · exact h.elim
theorem h_spec_allIn : Holds Try.prog 70 con_spec_allIn := by
  refine holds_of_ev (rt := [.c .sc]) (T := TT) (Γ := cs_spec_allIn) (an := an_spec_allIn) (N := 22) (c := Try.f70.body.getD .skip) Try.func70 (by kernel_rfl) Try.ntmps70 (by decide) (by decide) mixed tabOK cok_spec_allIn (by kernel_rfl) ?_
  intro vs kk _ hF
  exact i_spec_allIn (motive := fun vs => Goes (ev TT cs_spec_allIn 22 an_spec_allIn (Try.f70.body.getD .skip) (st0 con_spec_allIn vs) (fin TT con_spec_allIn Try.f70.results.toList [.c .sc] vs kk))) hF (fun list0 low1 high2 hF => goes_of (e_spec_allIn list0 low1 high2 kk) (F_spec_allIn_S hF))
def con_spec_validTrace : Con := ⟨[.rd], true, [.c (.sl .int)], fun vs k => match vs with
    | [.c (.ro .int t0)] => F_spec_validTrace t0 (fun r0 => k (.one (.c (.v (.bool r0)))) [])
    | _ => False, false⟩
def cl_spec_validTrace : List (FuncId × Con) := [(70, con_spec_allIn)]
def an_spec_validTrace : Ann := ⟨[], [], [], []⟩
def cs_spec_validTrace : Cons := ⟨cl_spec_validTrace, [], 0, [], [], []⟩
def fin_spec_validTrace (t0 : List Int) (kk : AV → List A1 → Prop) : Kt := fin TT con_spec_validTrace Try.f44.results.toList [.c .sc] [.c (.ro .int t0)] kk
theorem g_spec_validTrace (t0 : List Int) (kk : AV → List A1 → Prop) :
    ev TT cs_spec_validTrace 10 an_spec_validTrace (Try.f44.body.getD .skip) (st0 con_spec_validTrace [.c (.ro .int t0)]) (fin TT con_spec_validTrace Try.f44.results.toList [.c .sc] [.c (.ro .int t0)] kk) = G_spec_validTrace t0 (fun r0 => kk (.one (.c (.v (.bool r0)))) []) := by kernel_rfl
theorem e_spec_validTrace (t0 : List Int) (kk : AV → List A1 → Prop) :
    ev TT cs_spec_validTrace 10 an_spec_validTrace (Try.f44.body.getD .skip) (st0 con_spec_validTrace [.c (.ro .int t0)]) (fin TT con_spec_validTrace Try.f44.results.toList [.c .sc] [.c (.ro .int t0)] kk) = S_spec_validTrace t0 (fun r0 => kk (.one (.c (.v (.bool r0)))) []) := by
  rw [g_spec_validTrace]
  rfl
theorem clok_spec_validTrace : ConOK Try.prog cl_spec_validTrace := consCons h_spec_allIn ⟨Try.f70, Try.func70, by kernel_rfl, ne_of_beq (by kernel_rfl)⟩ (consNil)
theorem cok_spec_validTrace : ConsOK Try.prog 10 cs_spec_validTrace := ⟨clok_spec_validTrace, inlNil, ovNil⟩
theorem i_spec_validTrace {vs : List A1} {kk : AV → List A1 → Prop} {motive : List A1 → Prop} (h : con_spec_validTrace.F vs kk) (H : ∀ (t0 : List Int), F_spec_validTrace t0 (fun r0 => kk (.one (.c (.v (.bool r0)))) []) → motive [.c (.ro .int t0)]) : motive vs := by
  unfold con_spec_validTrace at h
  dsimp only at h
  split at h
  · exact H _ h
  · exact h.elim
theorem h_spec_validTrace : Holds Try.prog 44 con_spec_validTrace := by
  refine holds_of_ev (rt := [.c .sc]) (T := TT) (Γ := cs_spec_validTrace) (an := an_spec_validTrace) (N := 10) (c := Try.f44.body.getD .skip) Try.func44 (by kernel_rfl) Try.ntmps44 (by decide) (by decide) mixed tabOK cok_spec_validTrace (by kernel_rfl) ?_
  intro vs kk _ hF
  exact i_spec_validTrace (motive := fun vs => Goes (ev TT cs_spec_validTrace 10 an_spec_validTrace (Try.f44.body.getD .skip) (st0 con_spec_validTrace vs) (fin TT con_spec_validTrace Try.f44.results.toList [.c .sc] vs kk))) hF (fun t0 hF => goes_of (e_spec_validTrace t0 kk) (F_spec_validTrace_S hF))
def con_spec_copyClock : Con := ⟨[.rd], true, [.agg [.sc, .sl .int, .sl .bool, .sc]], fun vs k => match vs with
    | [.agg [.v (.int .i64 c0Room), .ro .int c0Keys, .ro .bool c0Used, .v (.int .i64 c0Hand)]] => F_spec_copyClock c0Room c0Keys c0Used c0Hand (fun r0 r1 r2 r3 => k (.one (.agg [.v (.int .i64 r0), .ro .int r1, .ro .bool r2, .v (.int .i64 r3)])) [])
    | _ => False, false⟩
def cl_spec_copyClock : List (FuncId × Con) := [(76, con_spec_copyInts)]
def an_spec_copyClock : Ann := ⟨[(1, .take 0 (.take 1 (.take 2 (.take 3 (.take 6 (.take 7 (.take 9 (.take 10 (.alt 4 (.alt 5 (.alt 8 (.take 11 (.alt 12 (.done) (.none))) (.none)) (.none)) (.alt 5 (.alt 4 (.alt 8 (.take 11 (.alt 12 (.done) (.none))) (.none)) (.none)) (.none)))))))))), [16])], [], [], []⟩
def cs_spec_copyClock : Cons := ⟨cl_spec_copyClock, [], 0, [], [], []⟩
def fin_spec_copyClock (c0Room : Int) (c0Keys : List Int) (c0Used : List Bool) (c0Hand : Int) (kk : AV → List A1 → Prop) : Kt := fin TT con_spec_copyClock Try.f74.results.toList [.agg [.sc, .sl .int, .sl .bool, .sc]] [.agg [.v (.int .i64 c0Room), .ro .int c0Keys, .ro .bool c0Used, .v (.int .i64 c0Hand)]] kk
theorem g_spec_copyClock (c0Room : Int) (c0Keys : List Int) (c0Used : List Bool) (c0Hand : Int) (kk : AV → List A1 → Prop) :
    ev TT cs_spec_copyClock 15 an_spec_copyClock (Try.f74.body.getD .skip) (st0 con_spec_copyClock [.agg [.v (.int .i64 c0Room), .ro .int c0Keys, .ro .bool c0Used, .v (.int .i64 c0Hand)]]) (fin TT con_spec_copyClock Try.f74.results.toList [.agg [.sc, .sl .int, .sl .bool, .sc]] [.agg [.v (.int .i64 c0Room), .ro .int c0Keys, .ro .bool c0Used, .v (.int .i64 c0Hand)]] kk) = G_spec_copyClock c0Room c0Keys c0Used c0Hand (fun r0 r1 r2 r3 => kk (.one (.agg [.v (.int .i64 r0), .ro .int r1, .ro .bool r2, .v (.int .i64 r3)])) []) := by kernel_rfl
theorem e_spec_copyClock (c0Room : Int) (c0Keys : List Int) (c0Used : List Bool) (c0Hand : Int) (kk : AV → List A1 → Prop) :
    ev TT cs_spec_copyClock 15 an_spec_copyClock (Try.f74.body.getD .skip) (st0 con_spec_copyClock [.agg [.v (.int .i64 c0Room), .ro .int c0Keys, .ro .bool c0Used, .v (.int .i64 c0Hand)]]) (fin TT con_spec_copyClock Try.f74.results.toList [.agg [.sc, .sl .int, .sl .bool, .sc]] [.agg [.v (.int .i64 c0Room), .ro .int c0Keys, .ro .bool c0Used, .v (.int .i64 c0Hand)]] kk) = S_spec_copyClock c0Room c0Keys c0Used c0Hand (fun r0 r1 r2 r3 => kk (.one (.agg [.v (.int .i64 r0), .ro .int r1, .ro .bool r2, .v (.int .i64 r3)])) []) := by
  rw [g_spec_copyClock]
  rw [G_spec_copyClock_eq]
  rfl
theorem clok_spec_copyClock : ConOK Try.prog cl_spec_copyClock := consCons h_spec_copyInts ⟨Try.f76, Try.func76, by kernel_rfl, ne_of_beq (by kernel_rfl)⟩ (consNil)
theorem cok_spec_copyClock : ConsOK Try.prog 15 cs_spec_copyClock := ⟨clok_spec_copyClock, inlNil, ovNil⟩
theorem i_spec_copyClock {vs : List A1} {kk : AV → List A1 → Prop} {motive : List A1 → Prop} (h : con_spec_copyClock.F vs kk) (H : ∀ (c0Room : Int) (c0Keys : List Int) (c0Used : List Bool) (c0Hand : Int), F_spec_copyClock c0Room c0Keys c0Used c0Hand (fun r0 r1 r2 r3 => kk (.one (.agg [.v (.int .i64 r0), .ro .int r1, .ro .bool r2, .v (.int .i64 r3)])) []) → motive [.agg [.v (.int .i64 c0Room), .ro .int c0Keys, .ro .bool c0Used, .v (.int .i64 c0Hand)]]) : motive vs := by
  unfold con_spec_copyClock at h
  dsimp only at h
  split at h
  · exact H _ _ _ _ h
  · exact h.elim
theorem h_spec_copyClock : Holds Try.prog 74 con_spec_copyClock := by
  refine holds_of_ev (rt := [.agg [.sc, .sl .int, .sl .bool, .sc]]) (T := TT) (Γ := cs_spec_copyClock) (an := an_spec_copyClock) (N := 15) (c := Try.f74.body.getD .skip) Try.func74 (by kernel_rfl) Try.ntmps74 (by decide) (by decide) mixed tabOK cok_spec_copyClock (by kernel_rfl) ?_
  intro vs kk _ hF
  exact i_spec_copyClock (motive := fun vs => Goes (ev TT cs_spec_copyClock 15 an_spec_copyClock (Try.f74.body.getD .skip) (st0 con_spec_copyClock vs) (fin TT con_spec_copyClock Try.f74.results.toList [.agg [.sc, .sl .int, .sl .bool, .sc]] vs kk))) hF (fun c0Room c0Keys c0Used c0Hand hF => goes_of (e_spec_copyClock c0Room c0Keys c0Used c0Hand kk) (F_spec_copyClock_S hF))
def con_spec_placeOf : Con := ⟨[.rd, .rd], true, [.c (.sl .int), .c (.sc)], fun vs k => match vs with
    | [.c (.ro .int list0), .c (.v (.int .i64 n1))] => F_spec_placeOf list0 n1 (fun r0 => k (.one (.c (.v (.int .i64 r0)))) [])
    | _ => False, false⟩
def cl_spec_placeOf : List (FuncId × Con) := []
def nm0_spec_placeOf : List NStep := [.keep [0, 1, 5] []]
def an_spec_placeOf : Ann := ⟨[], [(2, nm0_spec_placeOf)], [], []⟩
def cs_spec_placeOf : Cons := ⟨cl_spec_placeOf, [], 0, [], [], []⟩
def can0_spec_placeOf (list0 : List Int) (n1 : Int) (xi5 : Int) : St := ⟨[(0, .one (.c (.ro .int list0))), (1, .one (.c (.v (.int .i64 n1)))), (5, .one (.c (.v (.int .i64 xi5))))], []⟩
def fin_spec_placeOf (list0 : List Int) (n1 : Int) (kk : AV → List A1 → Prop) : Kt := fin TT con_spec_placeOf Try.f75.results.toList [.c .sc] [.c (.ro .int list0), .c (.v (.int .i64 n1))] kk
def kt0_spec_placeOf (kf : Kt) : Kt := blockK 0 (seqK (evF TT cs_spec_placeOf 19 an_spec_placeOf Try.f75 [1, 1]) (kf))
theorem r0_spec_placeOf (list0 : List Int) (n1 : Int) (kk : AV → List A1 → Prop) (n : Nat) (xi5 : Int) :
    iter (evF TT cs_spec_placeOf 19 an_spec_placeOf Try.f75 [1, 0, 1, 0, 0]) nm0_spec_placeOf (kt0_spec_placeOf (fin_spec_placeOf list0 n1 kk)) (n + 1) (can0_spec_placeOf list0 n1 xi5) = T0_spec_placeOf list0 n1 xi5 (fun r0 => kk (.one (.c (.v (.int .i64 r0)))) []) (fun xi5 => iter (evF TT cs_spec_placeOf 19 an_spec_placeOf Try.f75 [1, 0, 1, 0, 0]) nm0_spec_placeOf (kt0_spec_placeOf (fin_spec_placeOf list0 n1 kk)) n (can0_spec_placeOf list0 n1 xi5)) := by kernel_rfl
theorem l0_spec_placeOf (list0 : List Int) (n1 : Int) (kk : AV → List A1 → Prop) : ∀ (n : Nat) (xi5 : Int), iter (evF TT cs_spec_placeOf 19 an_spec_placeOf Try.f75 [1, 0, 1, 0, 0]) nm0_spec_placeOf (kt0_spec_placeOf (fin_spec_placeOf list0 n1 kk)) n (can0_spec_placeOf list0 n1 xi5) = L0_spec_placeOf list0 n1 (fun r0 => kk (.one (.c (.v (.int .i64 r0)))) []) n xi5 := by
  intro n
  induction n with
  | zero => intros; rfl
  | succ n ih =>
    intro xi5
    rw [r0_spec_placeOf list0 n1 kk n xi5]
    have hb : (fun xi5 => iter (evF TT cs_spec_placeOf 19 an_spec_placeOf Try.f75 [1, 0, 1, 0, 0]) nm0_spec_placeOf (kt0_spec_placeOf (fin_spec_placeOf list0 n1 kk)) n (can0_spec_placeOf list0 n1 xi5)) = L0_spec_placeOf list0 n1 (fun r0 => kk (.one (.c (.v (.int .i64 r0)))) []) n := by
      funext xi5; exact ih xi5
    rw [hb]
    rfl
theorem g_spec_placeOf (list0 : List Int) (n1 : Int) (kk : AV → List A1 → Prop) :
    ev TT cs_spec_placeOf 19 an_spec_placeOf (Try.f75.body.getD .skip) (st0 con_spec_placeOf [.c (.ro .int list0), .c (.v (.int .i64 n1))]) (fin TT con_spec_placeOf Try.f75.results.toList [.c .sc] [.c (.ro .int list0), .c (.v (.int .i64 n1))] kk) = G_spec_placeOf list0 n1 (fun list0 n1 xi5 => ∃ j, iter (evF TT cs_spec_placeOf 19 an_spec_placeOf Try.f75 [1, 0, 1, 0, 0]) nm0_spec_placeOf (kt0_spec_placeOf (fin_spec_placeOf list0 n1 kk)) j (can0_spec_placeOf list0 n1 xi5)) := by kernel_rfl
theorem e_spec_placeOf (list0 : List Int) (n1 : Int) (kk : AV → List A1 → Prop) :
    ev TT cs_spec_placeOf 19 an_spec_placeOf (Try.f75.body.getD .skip) (st0 con_spec_placeOf [.c (.ro .int list0), .c (.v (.int .i64 n1))]) (fin TT con_spec_placeOf Try.f75.results.toList [.c .sc] [.c (.ro .int list0), .c (.v (.int .i64 n1))] kk) = S_spec_placeOf list0 n1 (fun r0 => kk (.one (.c (.v (.int .i64 r0)))) []) := by
  rw [g_spec_placeOf]
  have hi0 : (fun list0 n1 xi5 => ∃ j, iter (evF TT cs_spec_placeOf 19 an_spec_placeOf Try.f75 [1, 0, 1, 0, 0]) nm0_spec_placeOf (kt0_spec_placeOf (fin_spec_placeOf list0 n1 kk)) j (can0_spec_placeOf list0 n1 xi5)) = (fun list0 n1 xi5 => ∃ j, L0_spec_placeOf list0 n1 (fun r0 => kk (.one (.c (.v (.int .i64 r0)))) []) j xi5) := by
    funext list0 n1 xi5
    refine congrArg Exists (funext fun j => ?_)
    rw [l0_spec_placeOf list0 n1 kk j xi5]
  rw [hi0]
  rfl
theorem clok_spec_placeOf : ConOK Try.prog cl_spec_placeOf := consNil
theorem cok_spec_placeOf : ConsOK Try.prog 19 cs_spec_placeOf := ⟨clok_spec_placeOf, inlNil, ovNil⟩
theorem i_spec_placeOf {vs : List A1} {kk : AV → List A1 → Prop} {motive : List A1 → Prop} (h : con_spec_placeOf.F vs kk) (H : ∀ (list0 : List Int) (n1 : Int), F_spec_placeOf list0 n1 (fun r0 => kk (.one (.c (.v (.int .i64 r0)))) []) → motive [.c (.ro .int list0), .c (.v (.int .i64 n1))]) : motive vs := by
  unfold con_spec_placeOf at h
  dsimp only at h
  split at h
  · exact H _ _ h
  · exact h.elim
theorem h_spec_placeOf : Holds Try.prog 75 con_spec_placeOf := by
  refine holds_of_ev (rt := [.c .sc]) (T := TT) (Γ := cs_spec_placeOf) (an := an_spec_placeOf) (N := 19) (c := Try.f75.body.getD .skip) Try.func75 (by kernel_rfl) Try.ntmps75 (by decide) (by decide) mixed tabOK cok_spec_placeOf (by kernel_rfl) ?_
  intro vs kk _ hF
  exact i_spec_placeOf (motive := fun vs => Goes (ev TT cs_spec_placeOf 19 an_spec_placeOf (Try.f75.body.getD .skip) (st0 con_spec_placeOf vs) (fin TT con_spec_placeOf Try.f75.results.toList [.c .sc] vs kk))) hF (fun list0 n1 hF => goes_of (e_spec_placeOf list0 n1 kk) (F_spec_placeOf_S hF))
def con_spec_tick : Con := ⟨[.rd, .rd], true, [.agg [.sc, .sl .int, .sl .bool, .sc], .c (.sc)], fun vs k => match vs with
    | [.agg [.v (.int .i64 c0Room), .ro .int c0Keys, .ro .bool c0Used, .v (.int .i64 c0Hand)], .c (.v (.int .i64 key1))] => F_spec_tick c0Room c0Keys c0Used c0Hand key1 (fun r0 r1 r2 r3 r4 => k (.tup [.agg [.v (.int .i64 r0), .ro .int r1, .ro .bool r2, .v (.int .i64 r3)], .c (.v (.bool r4))]) [])
    | _ => False, false⟩
def cl_spec_tick : List (FuncId × Con) := [(74, con_spec_copyClock), (75, con_spec_placeOf), (76, con_spec_copyInts)]
def nm0_spec_tick : List NStep := [.keep [1, 4, 6] [64, 96, 144, 145]]
def an_spec_tick : Ann := ⟨[], [(10, nm0_spec_tick)], [], []⟩
def cs_spec_tick : Cons := ⟨cl_spec_tick, [], 0, [], [], []⟩
def can0_spec_tick (copyClock9Keys : List Int) (copyClock9Room : Int) (key1 : Int) (xb6c3 : Int) (xy9 : List Bool) : St := ⟨[(1, .one (.c (.v (.int .i64 key1)))), (4, .one (.c (.pb 64 0))), (6, .one (.c (.pb 96 0)))], [(64, .box [.v (.int .i64 0), .nil, .nil, .v (.int .i64 0)]), (96, .box [.v (.int .i64 copyClock9Room), .ow 144, .ow 145, .v (.int .i64 xb6c3)]), (144, .row .int copyClock9Keys), (145, .row .bool xy9)]⟩
def fin_spec_tick (c0Room : Int) (c0Keys : List Int) (c0Used : List Bool) (c0Hand : Int) (key1 : Int) (kk : AV → List A1 → Prop) : Kt := fin TT con_spec_tick Try.f52.results.toList [.agg [.sc, .sl .int, .sl .bool, .sc], .c .sc] [.agg [.v (.int .i64 c0Room), .ro .int c0Keys, .ro .bool c0Used, .v (.int .i64 c0Hand)], .c (.v (.int .i64 key1))] kk
def kt0_spec_tick (kf : Kt) : Kt := blockK 0 (seqK (evF TT cs_spec_tick 74 an_spec_tick Try.f52 [1, 1, 1, 1, 1, 1]) (kf))
theorem r0_spec_tick (c0Room : Int) (c0Keys : List Int) (c0Used : List Bool) (c0Hand : Int) (key1 : Int) (copyClock9Keys : List Int) (copyClock9Room : Int) (kk : AV → List A1 → Prop) (n : Nat) (xb6c3 : Int) (xy9 : List Bool) :
    iter (evF TT cs_spec_tick 74 an_spec_tick Try.f52 [1, 1, 1, 1, 1, 0, 0, 0]) nm0_spec_tick (kt0_spec_tick (fin_spec_tick c0Room c0Keys c0Used c0Hand key1 kk)) (n + 1) (can0_spec_tick copyClock9Keys copyClock9Room key1 xb6c3 xy9) = T0_spec_tick copyClock9Keys copyClock9Room key1 xb6c3 xy9 (fun r0 r1 r2 r3 r4 => kk (.tup [.agg [.v (.int .i64 r0), .ro .int r1, .ro .bool r2, .v (.int .i64 r3)], .c (.v (.bool r4))]) []) (fun xb6c3 xy9 => iter (evF TT cs_spec_tick 74 an_spec_tick Try.f52 [1, 1, 1, 1, 1, 0, 0, 0]) nm0_spec_tick (kt0_spec_tick (fin_spec_tick c0Room c0Keys c0Used c0Hand key1 kk)) n (can0_spec_tick copyClock9Keys copyClock9Room key1 xb6c3 xy9)) := by kernel_rfl
theorem l0_spec_tick (c0Room : Int) (c0Keys : List Int) (c0Used : List Bool) (c0Hand : Int) (key1 : Int) (copyClock9Keys : List Int) (copyClock9Room : Int) (kk : AV → List A1 → Prop) : ∀ (n : Nat) (xb6c3 : Int) (xy9 : List Bool), iter (evF TT cs_spec_tick 74 an_spec_tick Try.f52 [1, 1, 1, 1, 1, 0, 0, 0]) nm0_spec_tick (kt0_spec_tick (fin_spec_tick c0Room c0Keys c0Used c0Hand key1 kk)) n (can0_spec_tick copyClock9Keys copyClock9Room key1 xb6c3 xy9) = L0_spec_tick copyClock9Keys copyClock9Room key1 (fun r0 r1 r2 r3 r4 => kk (.tup [.agg [.v (.int .i64 r0), .ro .int r1, .ro .bool r2, .v (.int .i64 r3)], .c (.v (.bool r4))]) []) n xb6c3 xy9 := by
  intro n
  induction n with
  | zero => intros; rfl
  | succ n ih =>
    intro xb6c3 xy9
    rw [r0_spec_tick c0Room c0Keys c0Used c0Hand key1 copyClock9Keys copyClock9Room kk n xb6c3 xy9]
    have hb : (fun xb6c3 xy9 => iter (evF TT cs_spec_tick 74 an_spec_tick Try.f52 [1, 1, 1, 1, 1, 0, 0, 0]) nm0_spec_tick (kt0_spec_tick (fin_spec_tick c0Room c0Keys c0Used c0Hand key1 kk)) n (can0_spec_tick copyClock9Keys copyClock9Room key1 xb6c3 xy9)) = L0_spec_tick copyClock9Keys copyClock9Room key1 (fun r0 r1 r2 r3 r4 => kk (.tup [.agg [.v (.int .i64 r0), .ro .int r1, .ro .bool r2, .v (.int .i64 r3)], .c (.v (.bool r4))]) []) n := by
      funext xb6c3 xy9; exact ih xb6c3 xy9
    rw [hb]
    rfl
theorem g_spec_tick (c0Room : Int) (c0Keys : List Int) (c0Used : List Bool) (c0Hand : Int) (key1 : Int) (kk : AV → List A1 → Prop) :
    ev TT cs_spec_tick 74 an_spec_tick (Try.f52.body.getD .skip) (st0 con_spec_tick [.agg [.v (.int .i64 c0Room), .ro .int c0Keys, .ro .bool c0Used, .v (.int .i64 c0Hand)], .c (.v (.int .i64 key1))]) (fin TT con_spec_tick Try.f52.results.toList [.agg [.sc, .sl .int, .sl .bool, .sc], .c .sc] [.agg [.v (.int .i64 c0Room), .ro .int c0Keys, .ro .bool c0Used, .v (.int .i64 c0Hand)], .c (.v (.int .i64 key1))] kk) = G_spec_tick c0Room c0Keys c0Used c0Hand key1 (fun r0 r1 r2 r3 r4 => kk (.tup [.agg [.v (.int .i64 r0), .ro .int r1, .ro .bool r2, .v (.int .i64 r3)], .c (.v (.bool r4))]) []) (fun copyClock9Keys copyClock9Room key1 xb6c3 xy9 => ∃ j, iter (evF TT cs_spec_tick 74 an_spec_tick Try.f52 [1, 1, 1, 1, 1, 0, 0, 0]) nm0_spec_tick (kt0_spec_tick (fin_spec_tick c0Room c0Keys c0Used c0Hand key1 kk)) j (can0_spec_tick copyClock9Keys copyClock9Room key1 xb6c3 xy9)) := by kernel_rfl
theorem e_spec_tick (c0Room : Int) (c0Keys : List Int) (c0Used : List Bool) (c0Hand : Int) (key1 : Int) (kk : AV → List A1 → Prop) :
    ev TT cs_spec_tick 74 an_spec_tick (Try.f52.body.getD .skip) (st0 con_spec_tick [.agg [.v (.int .i64 c0Room), .ro .int c0Keys, .ro .bool c0Used, .v (.int .i64 c0Hand)], .c (.v (.int .i64 key1))]) (fin TT con_spec_tick Try.f52.results.toList [.agg [.sc, .sl .int, .sl .bool, .sc], .c .sc] [.agg [.v (.int .i64 c0Room), .ro .int c0Keys, .ro .bool c0Used, .v (.int .i64 c0Hand)], .c (.v (.int .i64 key1))] kk) = S_spec_tick c0Room c0Keys c0Used c0Hand key1 (fun r0 r1 r2 r3 r4 => kk (.tup [.agg [.v (.int .i64 r0), .ro .int r1, .ro .bool r2, .v (.int .i64 r3)], .c (.v (.bool r4))]) []) := by
  rw [g_spec_tick]
  have hi0 : (fun copyClock9Keys copyClock9Room key1 xb6c3 xy9 => ∃ j, iter (evF TT cs_spec_tick 74 an_spec_tick Try.f52 [1, 1, 1, 1, 1, 0, 0, 0]) nm0_spec_tick (kt0_spec_tick (fin_spec_tick c0Room c0Keys c0Used c0Hand key1 kk)) j (can0_spec_tick copyClock9Keys copyClock9Room key1 xb6c3 xy9)) = (fun copyClock9Keys copyClock9Room key1 xb6c3 xy9 => ∃ j, L0_spec_tick copyClock9Keys copyClock9Room key1 (fun r0 r1 r2 r3 r4 => kk (.tup [.agg [.v (.int .i64 r0), .ro .int r1, .ro .bool r2, .v (.int .i64 r3)], .c (.v (.bool r4))]) []) j xb6c3 xy9) := by
    funext copyClock9Keys copyClock9Room key1 xb6c3 xy9
    refine congrArg Exists (funext fun j => ?_)
    rw [l0_spec_tick c0Room c0Keys c0Used c0Hand key1 copyClock9Keys copyClock9Room kk j xb6c3 xy9]
  rw [hi0]
  rfl
theorem clok_spec_tick : ConOK Try.prog cl_spec_tick := consCons h_spec_copyClock ⟨Try.f74, Try.func74, by kernel_rfl, ne_of_beq (by kernel_rfl)⟩ (consCons h_spec_placeOf ⟨Try.f75, Try.func75, by kernel_rfl, ne_of_beq (by kernel_rfl)⟩ (consCons h_spec_copyInts ⟨Try.f76, Try.func76, by kernel_rfl, ne_of_beq (by kernel_rfl)⟩ (consNil)))
theorem cok_spec_tick : ConsOK Try.prog 74 cs_spec_tick := ⟨clok_spec_tick, inlNil, ovNil⟩
theorem i_spec_tick {vs : List A1} {kk : AV → List A1 → Prop} {motive : List A1 → Prop} (h : con_spec_tick.F vs kk) (H : ∀ (c0Room : Int) (c0Keys : List Int) (c0Used : List Bool) (c0Hand : Int) (key1 : Int), F_spec_tick c0Room c0Keys c0Used c0Hand key1 (fun r0 r1 r2 r3 r4 => kk (.tup [.agg [.v (.int .i64 r0), .ro .int r1, .ro .bool r2, .v (.int .i64 r3)], .c (.v (.bool r4))]) []) → motive [.agg [.v (.int .i64 c0Room), .ro .int c0Keys, .ro .bool c0Used, .v (.int .i64 c0Hand)], .c (.v (.int .i64 key1))]) : motive vs := by
  unfold con_spec_tick at h
  dsimp only at h
  split at h
  · exact H _ _ _ _ _ h
  · exact h.elim
theorem h_spec_tick : Holds Try.prog 52 con_spec_tick := by
  refine holds_of_ev (rt := [.agg [.sc, .sl .int, .sl .bool, .sc], .c .sc]) (T := TT) (Γ := cs_spec_tick) (an := an_spec_tick) (N := 74) (c := Try.f52.body.getD .skip) Try.func52 (by kernel_rfl) Try.ntmps52 (by decide) (by decide) mixed tabOK cok_spec_tick (by kernel_rfl) ?_
  intro vs kk _ hF
  exact i_spec_tick (motive := fun vs => Goes (ev TT cs_spec_tick 74 an_spec_tick (Try.f52.body.getD .skip) (st0 con_spec_tick vs) (fin TT con_spec_tick Try.f52.results.toList [.agg [.sc, .sl .int, .sl .bool, .sc], .c .sc] vs kk))) hF (fun c0Room c0Keys c0Used c0Hand key1 hF => goes_of (e_spec_tick c0Room c0Keys c0Used c0Hand key1 kk) (F_spec_tick_S hF))
def con_spec_toInt : Con := ⟨[.rd], true, [.c (.sc)], fun vs k => match vs with
    | [.c (.v (.bool b0))] => F_spec_toInt b0 (fun r0 => k (.one (.c (.v (.int .i64 r0)))) [])
    | _ => False, false⟩
def cl_spec_toInt : List (FuncId × Con) := []
def an_spec_toInt : Ann := ⟨[], [], [], []⟩
def cs_spec_toInt : Cons := ⟨cl_spec_toInt, [], 0, [], [], []⟩
def fin_spec_toInt (b0 : Bool) (kk : AV → List A1 → Prop) : Kt := fin TT con_spec_toInt Try.f47.results.toList [.c .sc] [.c (.v (.bool b0))] kk
theorem g_spec_toInt (b0 : Bool) (kk : AV → List A1 → Prop) :
    ev TT cs_spec_toInt 4 an_spec_toInt (Try.f47.body.getD .skip) (st0 con_spec_toInt [.c (.v (.bool b0))]) (fin TT con_spec_toInt Try.f47.results.toList [.c .sc] [.c (.v (.bool b0))] kk) = G_spec_toInt b0 (fun r0 => kk (.one (.c (.v (.int .i64 r0)))) []) := by kernel_rfl
theorem e_spec_toInt (b0 : Bool) (kk : AV → List A1 → Prop) :
    ev TT cs_spec_toInt 4 an_spec_toInt (Try.f47.body.getD .skip) (st0 con_spec_toInt [.c (.v (.bool b0))]) (fin TT con_spec_toInt Try.f47.results.toList [.c .sc] [.c (.v (.bool b0))] kk) = S_spec_toInt b0 (fun r0 => kk (.one (.c (.v (.int .i64 r0)))) []) := by
  rw [g_spec_toInt]
  rfl
theorem clok_spec_toInt : ConOK Try.prog cl_spec_toInt := consNil
theorem cok_spec_toInt : ConsOK Try.prog 4 cs_spec_toInt := ⟨clok_spec_toInt, inlNil, ovNil⟩
theorem i_spec_toInt {vs : List A1} {kk : AV → List A1 → Prop} {motive : List A1 → Prop} (h : con_spec_toInt.F vs kk) (H : ∀ (b0 : Bool), F_spec_toInt b0 (fun r0 => kk (.one (.c (.v (.int .i64 r0)))) []) → motive [.c (.v (.bool b0))]) : motive vs := by
  unfold con_spec_toInt at h
  dsimp only at h
  split at h
  · exact H _ h
  · exact h.elim
theorem h_spec_toInt : Holds Try.prog 47 con_spec_toInt := by
  refine holds_of_ev (rt := [.c .sc]) (T := TT) (Γ := cs_spec_toInt) (an := an_spec_toInt) (N := 4) (c := Try.f47.body.getD .skip) Try.func47 (by kernel_rfl) Try.ntmps47 (by decide) (by decide) mixed tabOK cok_spec_toInt (by kernel_rfl) ?_
  intro vs kk _ hF
  exact i_spec_toInt (motive := fun vs => Goes (ev TT cs_spec_toInt 4 an_spec_toInt (Try.f47.body.getD .skip) (st0 con_spec_toInt vs) (fin TT con_spec_toInt Try.f47.results.toList [.c .sc] vs kk))) hF (fun b0 hF => goes_of (e_spec_toInt b0 kk) (F_spec_toInt_S hF))
def con_spec_RunClock : Con := ⟨[.rd, .rd], true, [.c (.sl .int), .c (.sc)], fun vs k => match vs with
    | [.c (.ro .int t0), .c (.v (.int .i64 room1))] => F_spec_RunClock t0 room1 (fun r0 r1 r2 r3 r4 => k (.tup [.agg [.v (.int .i64 r0), .ro .int r1, .ro .bool r2, .v (.int .i64 r3)], .c (.v (.int .i64 r4))]) [])
    | _ => False, false⟩
def cl_spec_RunClock : List (FuncId × Con) := [(44, con_spec_validTrace), (45, con_spec_inRange), (47, con_spec_toInt), (52, con_spec_tick)]
def nm0_spec_RunClock : List NStep := [.ownc 96 1 .int 90000, .ownc 96 2 .bool 90001, .keep [0, 4, 6, 7, 8] [64, 96, 90000, 90001]]
def an_spec_RunClock : Ann := ⟨[(9, .take 1 (.take 2 (.take 3 (.take 4 (.alt 0 (.alt 5 (.take 6 (.take 7 (.take 8 (.alt 9 (.take 10 (.done)) (.none))))) (.none)) (.none))))), [])], [(6, nm0_spec_RunClock)], [], []⟩
def cs_spec_RunClock : Cons := ⟨cl_spec_RunClock, [], 0, [], [], []⟩
def can0_spec_RunClock (t0 : List Int) (xn7 : Int) (xi8 : Int) (xb6c0 : Int) (xb6c3 : Int) (xb6c1 : List Int) (xb6c2 : List Bool) : St := ⟨[(0, .one (.c (.ro .int t0))), (4, .one (.c (.pb 64 0))), (6, .one (.c (.pb 96 0))), (7, .one (.c (.v (.int .i64 xn7)))), (8, .one (.c (.v (.int .i64 xi8))))], [(64, .box [.v (.int .i64 0), .nil, .nil, .v (.int .i64 0)]), (96, .box [.v (.int .i64 xb6c0), .ow 90000, .ow 90001, .v (.int .i64 xb6c3)]), (90000, .row .int xb6c1), (90001, .row .bool xb6c2)]⟩
def fin_spec_RunClock (t0 : List Int) (room1 : Int) (kk : AV → List A1 → Prop) : Kt := fin TT con_spec_RunClock Try.f21.results.toList [.agg [.sc, .sl .int, .sl .bool, .sc], .c .sc] [.c (.ro .int t0), .c (.v (.int .i64 room1))] kk
def kt0_spec_RunClock (kf : Kt) : Kt := blockK 0 (seqK (evF TT cs_spec_RunClock 44 an_spec_RunClock Try.f21 [1, 1, 1, 1, 1]) (kf))
theorem r0_spec_RunClock (t0 : List Int) (room1 : Int) (kk : AV → List A1 → Prop) (n : Nat) (xn7 : Int) (xi8 : Int) (xb6c0 : Int) (xb6c3 : Int) (xb6c1 : List Int) (xb6c2 : List Bool) :
    iter (evF TT cs_spec_RunClock 44 an_spec_RunClock Try.f21 [1, 1, 1, 1, 0, 1, 0, 0]) nm0_spec_RunClock (kt0_spec_RunClock (fin_spec_RunClock t0 room1 kk)) (n + 1) (can0_spec_RunClock t0 xn7 xi8 xb6c0 xb6c3 xb6c1 xb6c2) = T0_spec_RunClock t0 xn7 xi8 xb6c0 xb6c3 xb6c1 xb6c2 (fun r0 r1 r2 r3 r4 => kk (.tup [.agg [.v (.int .i64 r0), .ro .int r1, .ro .bool r2, .v (.int .i64 r3)], .c (.v (.int .i64 r4))]) []) (fun xn7 xi8 xb6c0 xb6c3 xb6c1 xb6c2 => iter (evF TT cs_spec_RunClock 44 an_spec_RunClock Try.f21 [1, 1, 1, 1, 0, 1, 0, 0]) nm0_spec_RunClock (kt0_spec_RunClock (fin_spec_RunClock t0 room1 kk)) n (can0_spec_RunClock t0 xn7 xi8 xb6c0 xb6c3 xb6c1 xb6c2)) := by kernel_rfl
theorem l0_spec_RunClock (t0 : List Int) (room1 : Int) (kk : AV → List A1 → Prop) : ∀ (n : Nat) (xn7 : Int) (xi8 : Int) (xb6c0 : Int) (xb6c3 : Int) (xb6c1 : List Int) (xb6c2 : List Bool), iter (evF TT cs_spec_RunClock 44 an_spec_RunClock Try.f21 [1, 1, 1, 1, 0, 1, 0, 0]) nm0_spec_RunClock (kt0_spec_RunClock (fin_spec_RunClock t0 room1 kk)) n (can0_spec_RunClock t0 xn7 xi8 xb6c0 xb6c3 xb6c1 xb6c2) = L0_spec_RunClock t0 (fun r0 r1 r2 r3 r4 => kk (.tup [.agg [.v (.int .i64 r0), .ro .int r1, .ro .bool r2, .v (.int .i64 r3)], .c (.v (.int .i64 r4))]) []) n xn7 xi8 xb6c0 xb6c3 xb6c1 xb6c2 := by
  intro n
  induction n with
  | zero => intros; rfl
  | succ n ih =>
    intro xn7 xi8 xb6c0 xb6c3 xb6c1 xb6c2
    rw [r0_spec_RunClock t0 room1 kk n xn7 xi8 xb6c0 xb6c3 xb6c1 xb6c2]
    have hb : (fun xn7 xi8 xb6c0 xb6c3 xb6c1 xb6c2 => iter (evF TT cs_spec_RunClock 44 an_spec_RunClock Try.f21 [1, 1, 1, 1, 0, 1, 0, 0]) nm0_spec_RunClock (kt0_spec_RunClock (fin_spec_RunClock t0 room1 kk)) n (can0_spec_RunClock t0 xn7 xi8 xb6c0 xb6c3 xb6c1 xb6c2)) = L0_spec_RunClock t0 (fun r0 r1 r2 r3 r4 => kk (.tup [.agg [.v (.int .i64 r0), .ro .int r1, .ro .bool r2, .v (.int .i64 r3)], .c (.v (.int .i64 r4))]) []) n := by
      funext xn7 xi8 xb6c0 xb6c3 xb6c1 xb6c2; exact ih xn7 xi8 xb6c0 xb6c3 xb6c1 xb6c2
    rw [hb]
    rw [T0_spec_RunClock_eq]
    rfl
theorem g_spec_RunClock (t0 : List Int) (room1 : Int) (kk : AV → List A1 → Prop) :
    ev TT cs_spec_RunClock 44 an_spec_RunClock (Try.f21.body.getD .skip) (st0 con_spec_RunClock [.c (.ro .int t0), .c (.v (.int .i64 room1))]) (fin TT con_spec_RunClock Try.f21.results.toList [.agg [.sc, .sl .int, .sl .bool, .sc], .c .sc] [.c (.ro .int t0), .c (.v (.int .i64 room1))] kk) = G_spec_RunClock t0 room1 (fun r0 r1 r2 r3 r4 => kk (.tup [.agg [.v (.int .i64 r0), .ro .int r1, .ro .bool r2, .v (.int .i64 r3)], .c (.v (.int .i64 r4))]) []) (fun t0 xn7 xi8 xb6c0 xb6c3 xb6c1 xb6c2 => ∃ j, iter (evF TT cs_spec_RunClock 44 an_spec_RunClock Try.f21 [1, 1, 1, 1, 0, 1, 0, 0]) nm0_spec_RunClock (kt0_spec_RunClock (fin_spec_RunClock t0 room1 kk)) j (can0_spec_RunClock t0 xn7 xi8 xb6c0 xb6c3 xb6c1 xb6c2)) := by kernel_rfl
theorem e_spec_RunClock (t0 : List Int) (room1 : Int) (kk : AV → List A1 → Prop) :
    ev TT cs_spec_RunClock 44 an_spec_RunClock (Try.f21.body.getD .skip) (st0 con_spec_RunClock [.c (.ro .int t0), .c (.v (.int .i64 room1))]) (fin TT con_spec_RunClock Try.f21.results.toList [.agg [.sc, .sl .int, .sl .bool, .sc], .c .sc] [.c (.ro .int t0), .c (.v (.int .i64 room1))] kk) = S_spec_RunClock t0 room1 (fun r0 r1 r2 r3 r4 => kk (.tup [.agg [.v (.int .i64 r0), .ro .int r1, .ro .bool r2, .v (.int .i64 r3)], .c (.v (.int .i64 r4))]) []) := by
  rw [g_spec_RunClock]
  have hi0 : (fun t0 xn7 xi8 xb6c0 xb6c3 xb6c1 xb6c2 => ∃ j, iter (evF TT cs_spec_RunClock 44 an_spec_RunClock Try.f21 [1, 1, 1, 1, 0, 1, 0, 0]) nm0_spec_RunClock (kt0_spec_RunClock (fin_spec_RunClock t0 room1 kk)) j (can0_spec_RunClock t0 xn7 xi8 xb6c0 xb6c3 xb6c1 xb6c2)) = (fun t0 xn7 xi8 xb6c0 xb6c3 xb6c1 xb6c2 => ∃ j, L0_spec_RunClock t0 (fun r0 r1 r2 r3 r4 => kk (.tup [.agg [.v (.int .i64 r0), .ro .int r1, .ro .bool r2, .v (.int .i64 r3)], .c (.v (.int .i64 r4))]) []) j xn7 xi8 xb6c0 xb6c3 xb6c1 xb6c2) := by
    funext t0 xn7 xi8 xb6c0 xb6c3 xb6c1 xb6c2
    refine congrArg Exists (funext fun j => ?_)
    rw [l0_spec_RunClock t0 room1 kk j xn7 xi8 xb6c0 xb6c3 xb6c1 xb6c2]
  rw [hi0]
  rfl
theorem clok_spec_RunClock : ConOK Try.prog cl_spec_RunClock := consCons h_spec_validTrace ⟨Try.f44, Try.func44, by kernel_rfl, ne_of_beq (by kernel_rfl)⟩ (consCons h_spec_inRange ⟨Try.f45, Try.func45, by kernel_rfl, ne_of_beq (by kernel_rfl)⟩ (consCons h_spec_toInt ⟨Try.f47, Try.func47, by kernel_rfl, ne_of_beq (by kernel_rfl)⟩ (consCons h_spec_tick ⟨Try.f52, Try.func52, by kernel_rfl, ne_of_beq (by kernel_rfl)⟩ (consNil))))
theorem cok_spec_RunClock : ConsOK Try.prog 44 cs_spec_RunClock := ⟨clok_spec_RunClock, inlNil, ovNil⟩
theorem i_spec_RunClock {vs : List A1} {kk : AV → List A1 → Prop} {motive : List A1 → Prop} (h : con_spec_RunClock.F vs kk) (H : ∀ (t0 : List Int) (room1 : Int), F_spec_RunClock t0 room1 (fun r0 r1 r2 r3 r4 => kk (.tup [.agg [.v (.int .i64 r0), .ro .int r1, .ro .bool r2, .v (.int .i64 r3)], .c (.v (.int .i64 r4))]) []) → motive [.c (.ro .int t0), .c (.v (.int .i64 room1))]) : motive vs := by
  unfold con_spec_RunClock at h
  dsimp only at h
  split at h
  · exact H _ _ h
  · exact h.elim
theorem h_spec_RunClock : Holds Try.prog 21 con_spec_RunClock := by
  refine holds_of_ev (rt := [.agg [.sc, .sl .int, .sl .bool, .sc], .c .sc]) (T := TT) (Γ := cs_spec_RunClock) (an := an_spec_RunClock) (N := 44) (c := Try.f21.body.getD .skip) Try.func21 (by kernel_rfl) Try.ntmps21 (by decide) (by decide) mixed tabOK cok_spec_RunClock (by kernel_rfl) ?_
  intro vs kk _ hF
  exact i_spec_RunClock (motive := fun vs => Goes (ev TT cs_spec_RunClock 44 an_spec_RunClock (Try.f21.body.getD .skip) (st0 con_spec_RunClock vs) (fin TT con_spec_RunClock Try.f21.results.toList [.agg [.sc, .sl .int, .sl .bool, .sc], .c .sc] vs kk))) hF (fun t0 room1 hF => goes_of (e_spec_RunClock t0 room1 kk) (F_spec_RunClock_S hF))
def con_laws_equalInts : Con := ⟨[.rd, .rd], true, [.c (.sl .int), .c (.sl .int)], fun vs k => match vs with
    | [.c (.ro .int a0), .c (.ro .int b1)] => F_laws_equalInts a0 b1 (fun r0 => k (.one (.c (.v (.bool r0)))) [])
    | _ => False, false⟩
def cl_laws_equalInts : List (FuncId × Con) := []
def nm0_laws_equalInts : List NStep := [.keep [0, 1, 5] []]
def an_laws_equalInts : Ann := ⟨[(6, .take 0 (.take 1 (.take 2 (.take 3 (.take 4 (.take 5 (.take 6 (.take 7 (.take 8 (.done))))))))), [])], [(4, nm0_laws_equalInts)], [], []⟩
def cs_laws_equalInts : Cons := ⟨cl_laws_equalInts, [], 0, [], [], []⟩
def can0_laws_equalInts (a0 : List Int) (b1 : List Int) (xi5 : Int) : St := ⟨[(0, .one (.c (.ro .int a0))), (1, .one (.c (.ro .int b1))), (5, .one (.c (.v (.int .i64 xi5))))], []⟩
def fin_laws_equalInts (a0 : List Int) (b1 : List Int) (kk : AV → List A1 → Prop) : Kt := fin TT con_laws_equalInts Try.f16.results.toList [.c .sc] [.c (.ro .int a0), .c (.ro .int b1)] kk
def kt0_laws_equalInts (kf : Kt) : Kt := blockK 0 (seqK (evF TT cs_laws_equalInts 26 an_laws_equalInts Try.f16 [1, 1, 1]) (kf))
theorem r0_laws_equalInts (a0 : List Int) (b1 : List Int) (kk : AV → List A1 → Prop) (n : Nat) (xi5 : Int) :
    iter (evF TT cs_laws_equalInts 26 an_laws_equalInts Try.f16 [1, 1, 0, 1, 0, 0]) nm0_laws_equalInts (kt0_laws_equalInts (fin_laws_equalInts a0 b1 kk)) (n + 1) (can0_laws_equalInts a0 b1 xi5) = T0_laws_equalInts a0 b1 xi5 (fun r0 => kk (.one (.c (.v (.bool r0)))) []) (fun xi5 => iter (evF TT cs_laws_equalInts 26 an_laws_equalInts Try.f16 [1, 1, 0, 1, 0, 0]) nm0_laws_equalInts (kt0_laws_equalInts (fin_laws_equalInts a0 b1 kk)) n (can0_laws_equalInts a0 b1 xi5)) := by kernel_rfl
theorem l0_laws_equalInts (a0 : List Int) (b1 : List Int) (kk : AV → List A1 → Prop) : ∀ (n : Nat) (xi5 : Int), iter (evF TT cs_laws_equalInts 26 an_laws_equalInts Try.f16 [1, 1, 0, 1, 0, 0]) nm0_laws_equalInts (kt0_laws_equalInts (fin_laws_equalInts a0 b1 kk)) n (can0_laws_equalInts a0 b1 xi5) = L0_laws_equalInts a0 b1 (fun r0 => kk (.one (.c (.v (.bool r0)))) []) n xi5 := by
  intro n
  induction n with
  | zero => intros; rfl
  | succ n ih =>
    intro xi5
    rw [r0_laws_equalInts a0 b1 kk n xi5]
    have hb : (fun xi5 => iter (evF TT cs_laws_equalInts 26 an_laws_equalInts Try.f16 [1, 1, 0, 1, 0, 0]) nm0_laws_equalInts (kt0_laws_equalInts (fin_laws_equalInts a0 b1 kk)) n (can0_laws_equalInts a0 b1 xi5)) = L0_laws_equalInts a0 b1 (fun r0 => kk (.one (.c (.v (.bool r0)))) []) n := by
      funext xi5; exact ih xi5
    rw [hb]
    rfl
theorem g_laws_equalInts (a0 : List Int) (b1 : List Int) (kk : AV → List A1 → Prop) :
    ev TT cs_laws_equalInts 26 an_laws_equalInts (Try.f16.body.getD .skip) (st0 con_laws_equalInts [.c (.ro .int a0), .c (.ro .int b1)]) (fin TT con_laws_equalInts Try.f16.results.toList [.c .sc] [.c (.ro .int a0), .c (.ro .int b1)] kk) = G_laws_equalInts a0 b1 (fun r0 => kk (.one (.c (.v (.bool r0)))) []) (fun a0 b1 xi5 => ∃ j, iter (evF TT cs_laws_equalInts 26 an_laws_equalInts Try.f16 [1, 1, 0, 1, 0, 0]) nm0_laws_equalInts (kt0_laws_equalInts (fin_laws_equalInts a0 b1 kk)) j (can0_laws_equalInts a0 b1 xi5)) := by kernel_rfl
theorem e_laws_equalInts (a0 : List Int) (b1 : List Int) (kk : AV → List A1 → Prop) :
    ev TT cs_laws_equalInts 26 an_laws_equalInts (Try.f16.body.getD .skip) (st0 con_laws_equalInts [.c (.ro .int a0), .c (.ro .int b1)]) (fin TT con_laws_equalInts Try.f16.results.toList [.c .sc] [.c (.ro .int a0), .c (.ro .int b1)] kk) = S_laws_equalInts a0 b1 (fun r0 => kk (.one (.c (.v (.bool r0)))) []) := by
  rw [g_laws_equalInts]
  have hi0 : (fun a0 b1 xi5 => ∃ j, iter (evF TT cs_laws_equalInts 26 an_laws_equalInts Try.f16 [1, 1, 0, 1, 0, 0]) nm0_laws_equalInts (kt0_laws_equalInts (fin_laws_equalInts a0 b1 kk)) j (can0_laws_equalInts a0 b1 xi5)) = (fun a0 b1 xi5 => ∃ j, L0_laws_equalInts a0 b1 (fun r0 => kk (.one (.c (.v (.bool r0)))) []) j xi5) := by
    funext a0 b1 xi5
    refine congrArg Exists (funext fun j => ?_)
    rw [l0_laws_equalInts a0 b1 kk j xi5]
  rw [hi0]
  rfl
theorem clok_laws_equalInts : ConOK Try.prog cl_laws_equalInts := consNil
theorem cok_laws_equalInts : ConsOK Try.prog 26 cs_laws_equalInts := ⟨clok_laws_equalInts, inlNil, ovNil⟩
theorem i_laws_equalInts {vs : List A1} {kk : AV → List A1 → Prop} {motive : List A1 → Prop} (h : con_laws_equalInts.F vs kk) (H : ∀ (a0 : List Int) (b1 : List Int), F_laws_equalInts a0 b1 (fun r0 => kk (.one (.c (.v (.bool r0)))) []) → motive [.c (.ro .int a0), .c (.ro .int b1)]) : motive vs := by
  unfold con_laws_equalInts at h
  dsimp only at h
  split at h
  · exact H _ _ h
  · exact h.elim
theorem h_laws_equalInts : Holds Try.prog 16 con_laws_equalInts := by
  refine holds_of_ev (rt := [.c .sc]) (T := TT) (Γ := cs_laws_equalInts) (an := an_laws_equalInts) (N := 26) (c := Try.f16.body.getD .skip) Try.func16 (by kernel_rfl) Try.ntmps16 (by decide) (by decide) mixed tabOK cok_laws_equalInts (by kernel_rfl) ?_
  intro vs kk _ hF
  exact i_laws_equalInts (motive := fun vs => Goes (ev TT cs_laws_equalInts 26 an_laws_equalInts (Try.f16.body.getD .skip) (st0 con_laws_equalInts vs) (fin TT con_laws_equalInts Try.f16.results.toList [.c .sc] vs kk))) hF (fun a0 b1 hF => goes_of (e_laws_equalInts a0 b1 kk) (F_laws_equalInts_S hF))
def con_laws_equalBools : Con := ⟨[.rd, .rd], true, [.c (.sl .bool), .c (.sl .bool)], fun vs k => match vs with
    | [.c (.ro .bool a0), .c (.ro .bool b1)] => F_laws_equalBools a0 b1 (fun r0 => k (.one (.c (.v (.bool r0)))) [])
    | _ => False, false⟩
def cl_laws_equalBools : List (FuncId × Con) := []
def nm0_laws_equalBools : List NStep := [.keep [0, 1, 5] []]
def an_laws_equalBools : Ann := ⟨[(6, .take 0 (.take 1 (.take 2 (.take 3 (.take 4 (.take 5 (.take 6 (.take 7 (.take 8 (.done))))))))), [])], [(4, nm0_laws_equalBools)], [], []⟩
def cs_laws_equalBools : Cons := ⟨cl_laws_equalBools, [], 0, [], [], []⟩
def can0_laws_equalBools (a0 : List Bool) (b1 : List Bool) (xi5 : Int) : St := ⟨[(0, .one (.c (.ro .bool a0))), (1, .one (.c (.ro .bool b1))), (5, .one (.c (.v (.int .i64 xi5))))], []⟩
def fin_laws_equalBools (a0 : List Bool) (b1 : List Bool) (kk : AV → List A1 → Prop) : Kt := fin TT con_laws_equalBools Try.f53.results.toList [.c .sc] [.c (.ro .bool a0), .c (.ro .bool b1)] kk
def kt0_laws_equalBools (kf : Kt) : Kt := blockK 0 (seqK (evF TT cs_laws_equalBools 26 an_laws_equalBools Try.f53 [1, 1, 1]) (kf))
theorem r0_laws_equalBools (a0 : List Bool) (b1 : List Bool) (kk : AV → List A1 → Prop) (n : Nat) (xi5 : Int) :
    iter (evF TT cs_laws_equalBools 26 an_laws_equalBools Try.f53 [1, 1, 0, 1, 0, 0]) nm0_laws_equalBools (kt0_laws_equalBools (fin_laws_equalBools a0 b1 kk)) (n + 1) (can0_laws_equalBools a0 b1 xi5) = T0_laws_equalBools a0 b1 xi5 (fun r0 => kk (.one (.c (.v (.bool r0)))) []) (fun xi5 => iter (evF TT cs_laws_equalBools 26 an_laws_equalBools Try.f53 [1, 1, 0, 1, 0, 0]) nm0_laws_equalBools (kt0_laws_equalBools (fin_laws_equalBools a0 b1 kk)) n (can0_laws_equalBools a0 b1 xi5)) := by kernel_rfl
theorem l0_laws_equalBools (a0 : List Bool) (b1 : List Bool) (kk : AV → List A1 → Prop) : ∀ (n : Nat) (xi5 : Int), iter (evF TT cs_laws_equalBools 26 an_laws_equalBools Try.f53 [1, 1, 0, 1, 0, 0]) nm0_laws_equalBools (kt0_laws_equalBools (fin_laws_equalBools a0 b1 kk)) n (can0_laws_equalBools a0 b1 xi5) = L0_laws_equalBools a0 b1 (fun r0 => kk (.one (.c (.v (.bool r0)))) []) n xi5 := by
  intro n
  induction n with
  | zero => intros; rfl
  | succ n ih =>
    intro xi5
    rw [r0_laws_equalBools a0 b1 kk n xi5]
    have hb : (fun xi5 => iter (evF TT cs_laws_equalBools 26 an_laws_equalBools Try.f53 [1, 1, 0, 1, 0, 0]) nm0_laws_equalBools (kt0_laws_equalBools (fin_laws_equalBools a0 b1 kk)) n (can0_laws_equalBools a0 b1 xi5)) = L0_laws_equalBools a0 b1 (fun r0 => kk (.one (.c (.v (.bool r0)))) []) n := by
      funext xi5; exact ih xi5
    rw [hb]
    rfl
theorem g_laws_equalBools (a0 : List Bool) (b1 : List Bool) (kk : AV → List A1 → Prop) :
    ev TT cs_laws_equalBools 26 an_laws_equalBools (Try.f53.body.getD .skip) (st0 con_laws_equalBools [.c (.ro .bool a0), .c (.ro .bool b1)]) (fin TT con_laws_equalBools Try.f53.results.toList [.c .sc] [.c (.ro .bool a0), .c (.ro .bool b1)] kk) = G_laws_equalBools a0 b1 (fun r0 => kk (.one (.c (.v (.bool r0)))) []) (fun a0 b1 xi5 => ∃ j, iter (evF TT cs_laws_equalBools 26 an_laws_equalBools Try.f53 [1, 1, 0, 1, 0, 0]) nm0_laws_equalBools (kt0_laws_equalBools (fin_laws_equalBools a0 b1 kk)) j (can0_laws_equalBools a0 b1 xi5)) := by kernel_rfl
theorem e_laws_equalBools (a0 : List Bool) (b1 : List Bool) (kk : AV → List A1 → Prop) :
    ev TT cs_laws_equalBools 26 an_laws_equalBools (Try.f53.body.getD .skip) (st0 con_laws_equalBools [.c (.ro .bool a0), .c (.ro .bool b1)]) (fin TT con_laws_equalBools Try.f53.results.toList [.c .sc] [.c (.ro .bool a0), .c (.ro .bool b1)] kk) = S_laws_equalBools a0 b1 (fun r0 => kk (.one (.c (.v (.bool r0)))) []) := by
  rw [g_laws_equalBools]
  have hi0 : (fun a0 b1 xi5 => ∃ j, iter (evF TT cs_laws_equalBools 26 an_laws_equalBools Try.f53 [1, 1, 0, 1, 0, 0]) nm0_laws_equalBools (kt0_laws_equalBools (fin_laws_equalBools a0 b1 kk)) j (can0_laws_equalBools a0 b1 xi5)) = (fun a0 b1 xi5 => ∃ j, L0_laws_equalBools a0 b1 (fun r0 => kk (.one (.c (.v (.bool r0)))) []) j xi5) := by
    funext a0 b1 xi5
    refine congrArg Exists (funext fun j => ?_)
    rw [l0_laws_equalBools a0 b1 kk j xi5]
  rw [hi0]
  rfl
theorem clok_laws_equalBools : ConOK Try.prog cl_laws_equalBools := consNil
theorem cok_laws_equalBools : ConsOK Try.prog 26 cs_laws_equalBools := ⟨clok_laws_equalBools, inlNil, ovNil⟩
theorem i_laws_equalBools {vs : List A1} {kk : AV → List A1 → Prop} {motive : List A1 → Prop} (h : con_laws_equalBools.F vs kk) (H : ∀ (a0 : List Bool) (b1 : List Bool), F_laws_equalBools a0 b1 (fun r0 => kk (.one (.c (.v (.bool r0)))) []) → motive [.c (.ro .bool a0), .c (.ro .bool b1)]) : motive vs := by
  unfold con_laws_equalBools at h
  dsimp only at h
  split at h
  · exact H _ _ h
  · exact h.elim
theorem h_laws_equalBools : Holds Try.prog 53 con_laws_equalBools := by
  refine holds_of_ev (rt := [.c .sc]) (T := TT) (Γ := cs_laws_equalBools) (an := an_laws_equalBools) (N := 26) (c := Try.f53.body.getD .skip) Try.func53 (by kernel_rfl) Try.ntmps53 (by decide) (by decide) mixed tabOK cok_laws_equalBools (by kernel_rfl) ?_
  intro vs kk _ hF
  exact i_laws_equalBools (motive := fun vs => Goes (ev TT cs_laws_equalBools 26 an_laws_equalBools (Try.f53.body.getD .skip) (st0 con_laws_equalBools vs) (fin TT con_laws_equalBools Try.f53.results.toList [.c .sc] vs kk))) hF (fun a0 b1 hF => goes_of (e_laws_equalBools a0 b1 kk) (F_laws_equalBools_S hF))
def con_laws_equalClock : Con := ⟨[.rd, .rd], true, [.agg [.sc, .sl .int, .sl .bool, .sc], .agg [.sc, .sl .int, .sl .bool, .sc]], fun vs k => match vs with
    | [.agg [.v (.int .i64 a0Room), .ro .int a0Keys, .ro .bool a0Used, .v (.int .i64 a0Hand)], .agg [.v (.int .i64 b1Room), .ro .int b1Keys, .ro .bool b1Used, .v (.int .i64 b1Hand)]] => F_laws_equalClock a0Room a0Keys a0Used a0Hand b1Room b1Keys b1Used b1Hand (fun r0 => k (.one (.c (.v (.bool r0)))) [])
    | _ => False, false⟩
def cl_laws_equalClock : List (FuncId × Con) := [(16, con_laws_equalInts), (53, con_laws_equalBools)]
def an_laws_equalClock : Ann := ⟨[], [], [], []⟩
def cs_laws_equalClock : Cons := ⟨cl_laws_equalClock, [], 0, [], [], []⟩
def fin_laws_equalClock (a0Room : Int) (a0Keys : List Int) (a0Used : List Bool) (a0Hand : Int) (b1Room : Int) (b1Keys : List Int) (b1Used : List Bool) (b1Hand : Int) (kk : AV → List A1 → Prop) : Kt := fin TT con_laws_equalClock Try.f22.results.toList [.c .sc] [.agg [.v (.int .i64 a0Room), .ro .int a0Keys, .ro .bool a0Used, .v (.int .i64 a0Hand)], .agg [.v (.int .i64 b1Room), .ro .int b1Keys, .ro .bool b1Used, .v (.int .i64 b1Hand)]] kk
theorem g_laws_equalClock (a0Room : Int) (a0Keys : List Int) (a0Used : List Bool) (a0Hand : Int) (b1Room : Int) (b1Keys : List Int) (b1Used : List Bool) (b1Hand : Int) (kk : AV → List A1 → Prop) :
    ev TT cs_laws_equalClock 31 an_laws_equalClock (Try.f22.body.getD .skip) (st0 con_laws_equalClock [.agg [.v (.int .i64 a0Room), .ro .int a0Keys, .ro .bool a0Used, .v (.int .i64 a0Hand)], .agg [.v (.int .i64 b1Room), .ro .int b1Keys, .ro .bool b1Used, .v (.int .i64 b1Hand)]]) (fin TT con_laws_equalClock Try.f22.results.toList [.c .sc] [.agg [.v (.int .i64 a0Room), .ro .int a0Keys, .ro .bool a0Used, .v (.int .i64 a0Hand)], .agg [.v (.int .i64 b1Room), .ro .int b1Keys, .ro .bool b1Used, .v (.int .i64 b1Hand)]] kk) = G_laws_equalClock a0Room a0Keys a0Used a0Hand b1Room b1Keys b1Used b1Hand (fun r0 => kk (.one (.c (.v (.bool r0)))) []) := by kernel_rfl
theorem e_laws_equalClock (a0Room : Int) (a0Keys : List Int) (a0Used : List Bool) (a0Hand : Int) (b1Room : Int) (b1Keys : List Int) (b1Used : List Bool) (b1Hand : Int) (kk : AV → List A1 → Prop) :
    ev TT cs_laws_equalClock 31 an_laws_equalClock (Try.f22.body.getD .skip) (st0 con_laws_equalClock [.agg [.v (.int .i64 a0Room), .ro .int a0Keys, .ro .bool a0Used, .v (.int .i64 a0Hand)], .agg [.v (.int .i64 b1Room), .ro .int b1Keys, .ro .bool b1Used, .v (.int .i64 b1Hand)]]) (fin TT con_laws_equalClock Try.f22.results.toList [.c .sc] [.agg [.v (.int .i64 a0Room), .ro .int a0Keys, .ro .bool a0Used, .v (.int .i64 a0Hand)], .agg [.v (.int .i64 b1Room), .ro .int b1Keys, .ro .bool b1Used, .v (.int .i64 b1Hand)]] kk) = S_laws_equalClock a0Room a0Keys a0Used a0Hand b1Room b1Keys b1Used b1Hand (fun r0 => kk (.one (.c (.v (.bool r0)))) []) := by
  rw [g_laws_equalClock]
  rfl
theorem clok_laws_equalClock : ConOK Try.prog cl_laws_equalClock := consCons h_laws_equalInts ⟨Try.f16, Try.func16, by kernel_rfl, ne_of_beq (by kernel_rfl)⟩ (consCons h_laws_equalBools ⟨Try.f53, Try.func53, by kernel_rfl, ne_of_beq (by kernel_rfl)⟩ (consNil))
theorem cok_laws_equalClock : ConsOK Try.prog 31 cs_laws_equalClock := ⟨clok_laws_equalClock, inlNil, ovNil⟩
theorem i_laws_equalClock {vs : List A1} {kk : AV → List A1 → Prop} {motive : List A1 → Prop} (h : con_laws_equalClock.F vs kk) (H : ∀ (a0Room : Int) (a0Keys : List Int) (a0Used : List Bool) (a0Hand : Int) (b1Room : Int) (b1Keys : List Int) (b1Used : List Bool) (b1Hand : Int), F_laws_equalClock a0Room a0Keys a0Used a0Hand b1Room b1Keys b1Used b1Hand (fun r0 => kk (.one (.c (.v (.bool r0)))) []) → motive [.agg [.v (.int .i64 a0Room), .ro .int a0Keys, .ro .bool a0Used, .v (.int .i64 a0Hand)], .agg [.v (.int .i64 b1Room), .ro .int b1Keys, .ro .bool b1Used, .v (.int .i64 b1Hand)]]) : motive vs := by
  unfold con_laws_equalClock at h
  dsimp only at h
  split at h
  · exact H _ _ _ _ _ _ _ _ h
  · exact h.elim
theorem h_laws_equalClock : Holds Try.prog 22 con_laws_equalClock := by
  refine holds_of_ev (rt := [.c .sc]) (T := TT) (Γ := cs_laws_equalClock) (an := an_laws_equalClock) (N := 31) (c := Try.f22.body.getD .skip) Try.func22 (by kernel_rfl) Try.ntmps22 (by decide) (by decide) mixed tabOK cok_laws_equalClock (by kernel_rfl) ?_
  intro vs kk _ hF
  exact i_laws_equalClock (motive := fun vs => Goes (ev TT cs_laws_equalClock 31 an_laws_equalClock (Try.f22.body.getD .skip) (st0 con_laws_equalClock vs) (fin TT con_laws_equalClock Try.f22.results.toList [.c .sc] vs kk))) hF (fun a0Room a0Keys a0Used a0Hand b1Room b1Keys b1Used b1Hand hF => goes_of (e_laws_equalClock a0Room a0Keys a0Used a0Hand b1Room b1Keys b1Used b1Hand kk) (F_laws_equalClock_S hF))
def con_impl_LoopTrace : Con := ⟨[.rd, .rd], true, [.c (.sc), .c (.sc)], fun vs k => match vs with
    | [.c (.v (.int .i64 n0)), .c (.v (.int .i64 length1))] => F_impl_LoopTrace n0 length1 (fun r0 => k (.one (.c (.ro .int r0))) [])
    | _ => False, false⟩
def cl_impl_LoopTrace : List (FuncId × Con) := []
def nm0_impl_LoopTrace : List NStep := [.keep [0, 5, 24, 25] [352]]
def an_impl_LoopTrace : Ann := ⟨[], [(5, nm0_impl_LoopTrace)], [], []⟩
def cs_impl_LoopTrace : Cons := ⟨cl_impl_LoopTrace, [], 0, [], [], []⟩
def can0_impl_LoopTrace (n0 : Int) (xt24 : Int) (xt25 : Int) (xy22 : List Int) : St := ⟨[(0, .one (.c (.v (.int .i64 n0)))), (5, .one (.c (.ow 352))), (24, .one (.c (.v (.int .i64 xt24)))), (25, .one (.c (.v (.int .i64 xt25))))], [(352, .row .int xy22)]⟩
def fin_impl_LoopTrace (n0 : Int) (length1 : Int) (kk : AV → List A1 → Prop) : Kt := fin TT con_impl_LoopTrace Try.f17.results.toList [.c (.sl .int)] [.c (.v (.int .i64 n0)), .c (.v (.int .i64 length1))] kk
def kt0_impl_LoopTrace (kf : Kt) : Kt := blockK 0 (seqK (evF TT cs_impl_LoopTrace 36 an_impl_LoopTrace Try.f17 [1, 1, 1, 1]) (kf))
theorem r0_impl_LoopTrace (n0 : Int) (length1 : Int) (xt24 : Int) (kk : AV → List A1 → Prop) (n : Nat) (xt25 : Int) (xy22 : List Int) :
    iter (evF TT cs_impl_LoopTrace 36 an_impl_LoopTrace Try.f17 [1, 1, 1, 0, 1, 0, 0]) nm0_impl_LoopTrace (kt0_impl_LoopTrace (fin_impl_LoopTrace n0 length1 kk)) (n + 1) (can0_impl_LoopTrace n0 xt24 xt25 xy22) = T0_impl_LoopTrace n0 xt24 xt25 xy22 (fun r0 => kk (.one (.c (.ro .int r0))) []) (fun xt25 xy22 => iter (evF TT cs_impl_LoopTrace 36 an_impl_LoopTrace Try.f17 [1, 1, 1, 0, 1, 0, 0]) nm0_impl_LoopTrace (kt0_impl_LoopTrace (fin_impl_LoopTrace n0 length1 kk)) n (can0_impl_LoopTrace n0 xt24 xt25 xy22)) := by kernel_rfl
theorem l0_impl_LoopTrace (n0 : Int) (length1 : Int) (xt24 : Int) (kk : AV → List A1 → Prop) : ∀ (n : Nat) (xt25 : Int) (xy22 : List Int), iter (evF TT cs_impl_LoopTrace 36 an_impl_LoopTrace Try.f17 [1, 1, 1, 0, 1, 0, 0]) nm0_impl_LoopTrace (kt0_impl_LoopTrace (fin_impl_LoopTrace n0 length1 kk)) n (can0_impl_LoopTrace n0 xt24 xt25 xy22) = L0_impl_LoopTrace n0 xt24 (fun r0 => kk (.one (.c (.ro .int r0))) []) n xt25 xy22 := by
  intro n
  induction n with
  | zero => intros; rfl
  | succ n ih =>
    intro xt25 xy22
    rw [r0_impl_LoopTrace n0 length1 xt24 kk n xt25 xy22]
    have hb : (fun xt25 xy22 => iter (evF TT cs_impl_LoopTrace 36 an_impl_LoopTrace Try.f17 [1, 1, 1, 0, 1, 0, 0]) nm0_impl_LoopTrace (kt0_impl_LoopTrace (fin_impl_LoopTrace n0 length1 kk)) n (can0_impl_LoopTrace n0 xt24 xt25 xy22)) = L0_impl_LoopTrace n0 xt24 (fun r0 => kk (.one (.c (.ro .int r0))) []) n := by
      funext xt25 xy22; exact ih xt25 xy22
    rw [hb]
    rfl
theorem g_impl_LoopTrace (n0 : Int) (length1 : Int) (kk : AV → List A1 → Prop) :
    ev TT cs_impl_LoopTrace 36 an_impl_LoopTrace (Try.f17.body.getD .skip) (st0 con_impl_LoopTrace [.c (.v (.int .i64 n0)), .c (.v (.int .i64 length1))]) (fin TT con_impl_LoopTrace Try.f17.results.toList [.c (.sl .int)] [.c (.v (.int .i64 n0)), .c (.v (.int .i64 length1))] kk) = G_impl_LoopTrace n0 length1 (fun r0 => kk (.one (.c (.ro .int r0))) []) (fun n0 xt24 xt25 xy22 => ∃ j, iter (evF TT cs_impl_LoopTrace 36 an_impl_LoopTrace Try.f17 [1, 1, 1, 0, 1, 0, 0]) nm0_impl_LoopTrace (kt0_impl_LoopTrace (fin_impl_LoopTrace n0 length1 kk)) j (can0_impl_LoopTrace n0 xt24 xt25 xy22)) := by kernel_rfl
theorem e_impl_LoopTrace (n0 : Int) (length1 : Int) (kk : AV → List A1 → Prop) :
    ev TT cs_impl_LoopTrace 36 an_impl_LoopTrace (Try.f17.body.getD .skip) (st0 con_impl_LoopTrace [.c (.v (.int .i64 n0)), .c (.v (.int .i64 length1))]) (fin TT con_impl_LoopTrace Try.f17.results.toList [.c (.sl .int)] [.c (.v (.int .i64 n0)), .c (.v (.int .i64 length1))] kk) = S_impl_LoopTrace n0 length1 (fun r0 => kk (.one (.c (.ro .int r0))) []) := by
  rw [g_impl_LoopTrace]
  have hi0 : (fun n0 xt24 xt25 xy22 => ∃ j, iter (evF TT cs_impl_LoopTrace 36 an_impl_LoopTrace Try.f17 [1, 1, 1, 0, 1, 0, 0]) nm0_impl_LoopTrace (kt0_impl_LoopTrace (fin_impl_LoopTrace n0 length1 kk)) j (can0_impl_LoopTrace n0 xt24 xt25 xy22)) = (fun n0 xt24 xt25 xy22 => ∃ j, L0_impl_LoopTrace n0 xt24 (fun r0 => kk (.one (.c (.ro .int r0))) []) j xt25 xy22) := by
    funext n0 xt24 xt25 xy22
    refine congrArg Exists (funext fun j => ?_)
    rw [l0_impl_LoopTrace n0 length1 xt24 kk j xt25 xy22]
  rw [hi0]
  rfl
theorem clok_impl_LoopTrace : ConOK Try.prog cl_impl_LoopTrace := consNil
theorem cok_impl_LoopTrace : ConsOK Try.prog 36 cs_impl_LoopTrace := ⟨clok_impl_LoopTrace, inlNil, ovNil⟩
theorem i_impl_LoopTrace {vs : List A1} {kk : AV → List A1 → Prop} {motive : List A1 → Prop} (h : con_impl_LoopTrace.F vs kk) (H : ∀ (n0 : Int) (length1 : Int), F_impl_LoopTrace n0 length1 (fun r0 => kk (.one (.c (.ro .int r0))) []) → motive [.c (.v (.int .i64 n0)), .c (.v (.int .i64 length1))]) : motive vs := by
  unfold con_impl_LoopTrace at h
  dsimp only at h
  split at h
  · exact H _ _ h
  · exact h.elim
theorem h_impl_LoopTrace : Holds Try.prog 17 con_impl_LoopTrace := by
  refine holds_of_ev (rt := [.c (.sl .int)]) (T := TT) (Γ := cs_impl_LoopTrace) (an := an_impl_LoopTrace) (N := 36) (c := Try.f17.body.getD .skip) Try.func17 (by kernel_rfl) Try.ntmps17 (by decide) (by decide) mixed tabOK cok_impl_LoopTrace (by kernel_rfl) ?_
  intro vs kk _ hF
  exact i_impl_LoopTrace (motive := fun vs => Goes (ev TT cs_impl_LoopTrace 36 an_impl_LoopTrace (Try.f17.body.getD .skip) (st0 con_impl_LoopTrace vs) (fin TT con_impl_LoopTrace Try.f17.results.toList [.c (.sl .int)] vs kk))) hF (fun n0 length1 hF => goes_of (e_impl_LoopTrace n0 length1 kk) (F_impl_LoopTrace_S hF))
def con_impl_UseFirst : Con := ⟨[.rd, .rd, .rd], true, [.c (.sl .int), .c (.sc), .c (.sc)], fun vs k => match vs with
    | [.c (.ro .int list0), .c (.v (.int .i64 room1)), .c (.v (.int .i64 key2))] => F_impl_UseFirst list0 room1 key2 (fun r0 r1 => k (.tup [.c (.ro .int r0), .c (.v (.bool r1))]) [])
    | _ => False, false⟩
def cl_impl_UseFirst : List (FuncId × Con) := [(56, con_impl_validKey), (57, con_slices_Contains_sint_int), (69, con_impl_ValidKeys)]
def an_impl_UseFirst : Ann := ⟨[], [], [], []⟩
def cs_impl_UseFirst : Cons := ⟨cl_impl_UseFirst, [], 0, [], [], []⟩
def fin_impl_UseFirst (list0 : List Int) (room1 : Int) (key2 : Int) (kk : AV → List A1 → Prop) : Kt := fin TT con_impl_UseFirst Try.f43.results.toList [.c (.sl .int), .c .sc] [.c (.ro .int list0), .c (.v (.int .i64 room1)), .c (.v (.int .i64 key2))] kk
theorem g_impl_UseFirst (list0 : List Int) (room1 : Int) (key2 : Int) (kk : AV → List A1 → Prop) :
    ev TT cs_impl_UseFirst 36 an_impl_UseFirst (Try.f43.body.getD .skip) (st0 con_impl_UseFirst [.c (.ro .int list0), .c (.v (.int .i64 room1)), .c (.v (.int .i64 key2))]) (fin TT con_impl_UseFirst Try.f43.results.toList [.c (.sl .int), .c .sc] [.c (.ro .int list0), .c (.v (.int .i64 room1)), .c (.v (.int .i64 key2))] kk) = G_impl_UseFirst list0 room1 key2 (fun r0 r1 => kk (.tup [.c (.ro .int r0), .c (.v (.bool r1))]) []) := by kernel_rfl
theorem e_impl_UseFirst (list0 : List Int) (room1 : Int) (key2 : Int) (kk : AV → List A1 → Prop) :
    ev TT cs_impl_UseFirst 36 an_impl_UseFirst (Try.f43.body.getD .skip) (st0 con_impl_UseFirst [.c (.ro .int list0), .c (.v (.int .i64 room1)), .c (.v (.int .i64 key2))]) (fin TT con_impl_UseFirst Try.f43.results.toList [.c (.sl .int), .c .sc] [.c (.ro .int list0), .c (.v (.int .i64 room1)), .c (.v (.int .i64 key2))] kk) = S_impl_UseFirst list0 room1 key2 (fun r0 r1 => kk (.tup [.c (.ro .int r0), .c (.v (.bool r1))]) []) := by
  rw [g_impl_UseFirst]
  rfl
theorem clok_impl_UseFirst : ConOK Try.prog cl_impl_UseFirst := consCons h_impl_validKey ⟨Try.f56, Try.func56, by kernel_rfl, ne_of_beq (by kernel_rfl)⟩ (consCons h_slices_Contains_sint_int ⟨Try.f57, Try.func57, by kernel_rfl, ne_of_beq (by kernel_rfl)⟩ (consCons h_impl_ValidKeys ⟨Try.f69, Try.func69, by kernel_rfl, ne_of_beq (by kernel_rfl)⟩ (consNil)))
theorem cok_impl_UseFirst : ConsOK Try.prog 36 cs_impl_UseFirst := ⟨clok_impl_UseFirst, inlNil, ovNil⟩
theorem i_impl_UseFirst {vs : List A1} {kk : AV → List A1 → Prop} {motive : List A1 → Prop} (h : con_impl_UseFirst.F vs kk) (H : ∀ (list0 : List Int) (room1 : Int) (key2 : Int), F_impl_UseFirst list0 room1 key2 (fun r0 r1 => kk (.tup [.c (.ro .int r0), .c (.v (.bool r1))]) []) → motive [.c (.ro .int list0), .c (.v (.int .i64 room1)), .c (.v (.int .i64 key2))]) : motive vs := by
  unfold con_impl_UseFirst at h
  dsimp only at h
  split at h
  · exact H _ _ _ h
  · exact h.elim
theorem h_impl_UseFirst : Holds Try.prog 43 con_impl_UseFirst := by
  refine holds_of_ev (rt := [.c (.sl .int), .c .sc]) (T := TT) (Γ := cs_impl_UseFirst) (an := an_impl_UseFirst) (N := 36) (c := Try.f43.body.getD .skip) Try.func43 (by kernel_rfl) Try.ntmps43 (by decide) (by decide) mixed tabOK cok_impl_UseFirst (by kernel_rfl) ?_
  intro vs kk _ hF
  exact i_impl_UseFirst (motive := fun vs => Goes (ev TT cs_impl_UseFirst 36 an_impl_UseFirst (Try.f43.body.getD .skip) (st0 con_impl_UseFirst vs) (fin TT con_impl_UseFirst Try.f43.results.toList [.c (.sl .int), .c .sc] vs kk))) hF (fun list0 room1 key2 hF => goes_of (e_impl_UseFirst list0 room1 key2 kk) (F_impl_UseFirst_S hF))
def con_impl_runTrace_1 : Con := ⟨[.rd, .rd, .rd, .rd], true, [.c (.sl .int), .c (.sc), .c (.pe), .c (.pe)], fun vs k => match vs with
    | [.c (.ro .int list0), .c (.v (.int .i64 key1)), .c (.pe [.func (.func 43) ⟨[]⟩ ⟨[]⟩] 0), .c (.pe [.int .i64 cap1] 0)] => F_impl_runTrace_1_UseFirst list0 key1 cap1 (fun r0 r1 => k (.tup [.c (.ro .int r0), .c (.v (.bool r1))]) [])
    | _ => False, false⟩
def cl_impl_runTrace_1_UseFirst : List (FuncId × Con) := [(43, con_impl_UseFirst)]
def an_impl_runTrace_1_UseFirst : Ann := ⟨[], [], [], []⟩
def cs_impl_runTrace_1_UseFirst : Cons := ⟨cl_impl_runTrace_1_UseFirst, [], 0, [], [], []⟩
def fin_impl_runTrace_1_UseFirst (list0 : List Int) (key1 : Int) (cap1 : Int) (kk : AV → List A1 → Prop) : Kt := fin TT con_impl_runTrace_1 Try.f68.results.toList [.c (.sl .int), .c .sc] [.c (.ro .int list0), .c (.v (.int .i64 key1)), .c (.pe [.func (.func 43) ⟨[]⟩ ⟨[]⟩] 0), .c (.pe [.int .i64 cap1] 0)] kk
theorem g_impl_runTrace_1_UseFirst (list0 : List Int) (key1 : Int) (cap1 : Int) (kk : AV → List A1 → Prop) :
    ev TT cs_impl_runTrace_1_UseFirst 15 an_impl_runTrace_1_UseFirst (Try.f68.body.getD .skip) (st0 con_impl_runTrace_1 [.c (.ro .int list0), .c (.v (.int .i64 key1)), .c (.pe [.func (.func 43) ⟨[]⟩ ⟨[]⟩] 0), .c (.pe [.int .i64 cap1] 0)]) (fin TT con_impl_runTrace_1 Try.f68.results.toList [.c (.sl .int), .c .sc] [.c (.ro .int list0), .c (.v (.int .i64 key1)), .c (.pe [.func (.func 43) ⟨[]⟩ ⟨[]⟩] 0), .c (.pe [.int .i64 cap1] 0)] kk) = G_impl_runTrace_1_UseFirst list0 key1 cap1 (fun r0 r1 => kk (.tup [.c (.ro .int r0), .c (.v (.bool r1))]) []) := by kernel_rfl
theorem e_impl_runTrace_1_UseFirst (list0 : List Int) (key1 : Int) (cap1 : Int) (kk : AV → List A1 → Prop) :
    ev TT cs_impl_runTrace_1_UseFirst 15 an_impl_runTrace_1_UseFirst (Try.f68.body.getD .skip) (st0 con_impl_runTrace_1 [.c (.ro .int list0), .c (.v (.int .i64 key1)), .c (.pe [.func (.func 43) ⟨[]⟩ ⟨[]⟩] 0), .c (.pe [.int .i64 cap1] 0)]) (fin TT con_impl_runTrace_1 Try.f68.results.toList [.c (.sl .int), .c .sc] [.c (.ro .int list0), .c (.v (.int .i64 key1)), .c (.pe [.func (.func 43) ⟨[]⟩ ⟨[]⟩] 0), .c (.pe [.int .i64 cap1] 0)] kk) = S_impl_runTrace_1_UseFirst list0 key1 cap1 (fun r0 r1 => kk (.tup [.c (.ro .int r0), .c (.v (.bool r1))]) []) := by
  rw [g_impl_runTrace_1_UseFirst]
  rfl
theorem clok_impl_runTrace_1_UseFirst : ConOK Try.prog cl_impl_runTrace_1_UseFirst := consCons h_impl_UseFirst ⟨Try.f43, Try.func43, by kernel_rfl, ne_of_beq (by kernel_rfl)⟩ (consNil)
theorem cok_impl_runTrace_1_UseFirst : ConsOK Try.prog 15 cs_impl_runTrace_1_UseFirst := ⟨clok_impl_runTrace_1_UseFirst, inlNil, ovNil⟩
theorem i_impl_runTrace_1_UseFirst {vs : List A1} {kk : AV → List A1 → Prop} {motive : List A1 → Prop} (h : con_impl_runTrace_1.F vs kk) (H : ∀ (list0 : List Int) (key1 : Int) (cap1 : Int), F_impl_runTrace_1_UseFirst list0 key1 cap1 (fun r0 r1 => kk (.tup [.c (.ro .int r0), .c (.v (.bool r1))]) []) → motive [.c (.ro .int list0), .c (.v (.int .i64 key1)), .c (.pe [.func (.func 43) ⟨[]⟩ ⟨[]⟩] 0), .c (.pe [.int .i64 cap1] 0)]) : motive vs := by
  unfold con_impl_runTrace_1 at h
  dsimp only at h
  split at h
  · exact H _ _ _ h
  · exact h.elim
theorem h_impl_runTrace_1 : Holds Try.prog 68 con_impl_runTrace_1 := by
  refine holds_of_ev (rt := [.c (.sl .int), .c .sc]) (T := TT) (Γ := cs_impl_runTrace_1_UseFirst) (an := an_impl_runTrace_1_UseFirst) (N := 15) (c := Try.f68.body.getD .skip) Try.func68 (by kernel_rfl) Try.ntmps68 (by decide) (by decide) mixed tabOK cok_impl_runTrace_1_UseFirst (by kernel_rfl) ?_
  intro vs kk _ hF
  exact i_impl_runTrace_1_UseFirst (motive := fun vs => Goes (ev TT cs_impl_runTrace_1_UseFirst 15 an_impl_runTrace_1_UseFirst (Try.f68.body.getD .skip) (st0 con_impl_runTrace_1 vs) (fin TT con_impl_runTrace_1 Try.f68.results.toList [.c (.sl .int), .c .sc] vs kk))) hF (fun list0 key1 cap1 hF => goes_of (e_impl_runTrace_1_UseFirst list0 key1 cap1 kk) (F_impl_runTrace_1_UseFirst_S hF))
def con_impl_useAll_sint : Con := ⟨[.rd, .mv, .rd], true, [.c (.sl .int), .c (.sl .int), .c (.fn)], fun vs k => match vs with
    | [.c (.ro .int t0), .c (.ro .int cache1), .c (.cl 68 [.k (.func (.func 43) ⟨[]⟩ ⟨[]⟩), .k (.int .i64 use2c1)])] => F_impl_useAll_sint_runTrace_1_UseFirst t0 cache1 use2c1 (fun r0 r1 => k (.tup [.c (.ro .int r0), .c (.v (.int .i64 r1))]) [])
    | _ => False, false⟩
def cl_impl_useAll_sint_runTrace_1_UseFirst : List (FuncId × Con) := [(68, con_impl_runTrace_1)]
def nm0_impl_useAll_sint_runTrace_1_UseFirst : List NStep := [.own 1 .int 90000, .keep [1, 2, 8, 13, 14, 15] [90000]]
def an_impl_useAll_sint_runTrace_1_UseFirst : Ann := ⟨[], [(3, nm0_impl_useAll_sint_runTrace_1_UseFirst)], [], []⟩
def cs_impl_useAll_sint_runTrace_1_UseFirst : Cons := ⟨cl_impl_useAll_sint_runTrace_1_UseFirst, [], 0, [], [], []⟩
def can0_impl_useAll_sint_runTrace_1_UseFirst (t0 : List Int) (use2c1 : Int) (xt14 : Int) (xhits8 : Int) (xt15 : Int) (xcache1 : List Int) : St := ⟨[(1, .one (.c (.ow 90000))), (2, .one (.c (.cl 68 [.k (.func (.func 43) ⟨[]⟩ ⟨[]⟩), .k (.int .i64 use2c1)]))), (8, .one (.c (.v (.int .i64 xhits8)))), (13, .one (.c (.ro .int t0))), (14, .one (.c (.v (.int .i64 xt14)))), (15, .one (.c (.v (.int .i64 xt15))))], [(90000, .row .int xcache1)]⟩
def fin_impl_useAll_sint_runTrace_1_UseFirst (t0 : List Int) (cache1 : List Int) (use2c1 : Int) (kk : AV → List A1 → Prop) : Kt := fin TT con_impl_useAll_sint Try.f67.results.toList [.c (.sl .int), .c .sc] [.c (.ro .int t0), .c (.ro .int cache1), .c (.cl 68 [.k (.func (.func 43) ⟨[]⟩ ⟨[]⟩), .k (.int .i64 use2c1)])] kk
def kt0_impl_useAll_sint_runTrace_1_UseFirst (kf : Kt) : Kt := blockK 0 (seqK (evF TT cs_impl_useAll_sint_runTrace_1_UseFirst 33 an_impl_useAll_sint_runTrace_1_UseFirst Try.f67 [1, 1, 1]) (kf))
theorem r0_impl_useAll_sint_runTrace_1_UseFirst (t0 : List Int) (cache1 : List Int) (use2c1 : Int) (xt14 : Int) (kk : AV → List A1 → Prop) (n : Nat) (xhits8 : Int) (xt15 : Int) (xcache1 : List Int) :
    iter (evF TT cs_impl_useAll_sint_runTrace_1_UseFirst 33 an_impl_useAll_sint_runTrace_1_UseFirst Try.f67 [1, 1, 0, 1, 0, 0]) nm0_impl_useAll_sint_runTrace_1_UseFirst (kt0_impl_useAll_sint_runTrace_1_UseFirst (fin_impl_useAll_sint_runTrace_1_UseFirst t0 cache1 use2c1 kk)) (n + 1) (can0_impl_useAll_sint_runTrace_1_UseFirst t0 use2c1 xt14 xhits8 xt15 xcache1) = T0_impl_useAll_sint_runTrace_1_UseFirst t0 use2c1 xt14 xhits8 xt15 xcache1 (fun r0 r1 => kk (.tup [.c (.ro .int r0), .c (.v (.int .i64 r1))]) []) (fun xhits8 xt15 xcache1 => iter (evF TT cs_impl_useAll_sint_runTrace_1_UseFirst 33 an_impl_useAll_sint_runTrace_1_UseFirst Try.f67 [1, 1, 0, 1, 0, 0]) nm0_impl_useAll_sint_runTrace_1_UseFirst (kt0_impl_useAll_sint_runTrace_1_UseFirst (fin_impl_useAll_sint_runTrace_1_UseFirst t0 cache1 use2c1 kk)) n (can0_impl_useAll_sint_runTrace_1_UseFirst t0 use2c1 xt14 xhits8 xt15 xcache1)) := by kernel_rfl
theorem l0_impl_useAll_sint_runTrace_1_UseFirst (t0 : List Int) (cache1 : List Int) (use2c1 : Int) (xt14 : Int) (kk : AV → List A1 → Prop) : ∀ (n : Nat) (xhits8 : Int) (xt15 : Int) (xcache1 : List Int), iter (evF TT cs_impl_useAll_sint_runTrace_1_UseFirst 33 an_impl_useAll_sint_runTrace_1_UseFirst Try.f67 [1, 1, 0, 1, 0, 0]) nm0_impl_useAll_sint_runTrace_1_UseFirst (kt0_impl_useAll_sint_runTrace_1_UseFirst (fin_impl_useAll_sint_runTrace_1_UseFirst t0 cache1 use2c1 kk)) n (can0_impl_useAll_sint_runTrace_1_UseFirst t0 use2c1 xt14 xhits8 xt15 xcache1) = L0_impl_useAll_sint_runTrace_1_UseFirst t0 use2c1 xt14 (fun r0 r1 => kk (.tup [.c (.ro .int r0), .c (.v (.int .i64 r1))]) []) n xhits8 xt15 xcache1 := by
  intro n
  induction n with
  | zero => intros; rfl
  | succ n ih =>
    intro xhits8 xt15 xcache1
    rw [r0_impl_useAll_sint_runTrace_1_UseFirst t0 cache1 use2c1 xt14 kk n xhits8 xt15 xcache1]
    have hb : (fun xhits8 xt15 xcache1 => iter (evF TT cs_impl_useAll_sint_runTrace_1_UseFirst 33 an_impl_useAll_sint_runTrace_1_UseFirst Try.f67 [1, 1, 0, 1, 0, 0]) nm0_impl_useAll_sint_runTrace_1_UseFirst (kt0_impl_useAll_sint_runTrace_1_UseFirst (fin_impl_useAll_sint_runTrace_1_UseFirst t0 cache1 use2c1 kk)) n (can0_impl_useAll_sint_runTrace_1_UseFirst t0 use2c1 xt14 xhits8 xt15 xcache1)) = L0_impl_useAll_sint_runTrace_1_UseFirst t0 use2c1 xt14 (fun r0 r1 => kk (.tup [.c (.ro .int r0), .c (.v (.int .i64 r1))]) []) n := by
      funext xhits8 xt15 xcache1; exact ih xhits8 xt15 xcache1
    rw [hb]
    rfl
theorem g_impl_useAll_sint_runTrace_1_UseFirst (t0 : List Int) (cache1 : List Int) (use2c1 : Int) (kk : AV → List A1 → Prop) :
    ev TT cs_impl_useAll_sint_runTrace_1_UseFirst 33 an_impl_useAll_sint_runTrace_1_UseFirst (Try.f67.body.getD .skip) (st0 con_impl_useAll_sint [.c (.ro .int t0), .c (.ro .int cache1), .c (.cl 68 [.k (.func (.func 43) ⟨[]⟩ ⟨[]⟩), .k (.int .i64 use2c1)])]) (fin TT con_impl_useAll_sint Try.f67.results.toList [.c (.sl .int), .c .sc] [.c (.ro .int t0), .c (.ro .int cache1), .c (.cl 68 [.k (.func (.func 43) ⟨[]⟩ ⟨[]⟩), .k (.int .i64 use2c1)])] kk) = G_impl_useAll_sint_runTrace_1_UseFirst t0 cache1 use2c1 (fun t0 use2c1 xt14 xhits8 xt15 xcache1 => ∃ j, iter (evF TT cs_impl_useAll_sint_runTrace_1_UseFirst 33 an_impl_useAll_sint_runTrace_1_UseFirst Try.f67 [1, 1, 0, 1, 0, 0]) nm0_impl_useAll_sint_runTrace_1_UseFirst (kt0_impl_useAll_sint_runTrace_1_UseFirst (fin_impl_useAll_sint_runTrace_1_UseFirst t0 cache1 use2c1 kk)) j (can0_impl_useAll_sint_runTrace_1_UseFirst t0 use2c1 xt14 xhits8 xt15 xcache1)) := by kernel_rfl
theorem e_impl_useAll_sint_runTrace_1_UseFirst (t0 : List Int) (cache1 : List Int) (use2c1 : Int) (kk : AV → List A1 → Prop) :
    ev TT cs_impl_useAll_sint_runTrace_1_UseFirst 33 an_impl_useAll_sint_runTrace_1_UseFirst (Try.f67.body.getD .skip) (st0 con_impl_useAll_sint [.c (.ro .int t0), .c (.ro .int cache1), .c (.cl 68 [.k (.func (.func 43) ⟨[]⟩ ⟨[]⟩), .k (.int .i64 use2c1)])]) (fin TT con_impl_useAll_sint Try.f67.results.toList [.c (.sl .int), .c .sc] [.c (.ro .int t0), .c (.ro .int cache1), .c (.cl 68 [.k (.func (.func 43) ⟨[]⟩ ⟨[]⟩), .k (.int .i64 use2c1)])] kk) = S_impl_useAll_sint_runTrace_1_UseFirst t0 cache1 use2c1 (fun r0 r1 => kk (.tup [.c (.ro .int r0), .c (.v (.int .i64 r1))]) []) := by
  rw [g_impl_useAll_sint_runTrace_1_UseFirst]
  have hi0 : (fun t0 use2c1 xt14 xhits8 xt15 xcache1 => ∃ j, iter (evF TT cs_impl_useAll_sint_runTrace_1_UseFirst 33 an_impl_useAll_sint_runTrace_1_UseFirst Try.f67 [1, 1, 0, 1, 0, 0]) nm0_impl_useAll_sint_runTrace_1_UseFirst (kt0_impl_useAll_sint_runTrace_1_UseFirst (fin_impl_useAll_sint_runTrace_1_UseFirst t0 cache1 use2c1 kk)) j (can0_impl_useAll_sint_runTrace_1_UseFirst t0 use2c1 xt14 xhits8 xt15 xcache1)) = (fun t0 use2c1 xt14 xhits8 xt15 xcache1 => ∃ j, L0_impl_useAll_sint_runTrace_1_UseFirst t0 use2c1 xt14 (fun r0 r1 => kk (.tup [.c (.ro .int r0), .c (.v (.int .i64 r1))]) []) j xhits8 xt15 xcache1) := by
    funext t0 use2c1 xt14 xhits8 xt15 xcache1
    refine congrArg Exists (funext fun j => ?_)
    rw [l0_impl_useAll_sint_runTrace_1_UseFirst t0 cache1 use2c1 xt14 kk j xhits8 xt15 xcache1]
  rw [hi0]
  rfl
theorem clok_impl_useAll_sint_runTrace_1_UseFirst : ConOK Try.prog cl_impl_useAll_sint_runTrace_1_UseFirst := consCons h_impl_runTrace_1 ⟨Try.f68, Try.func68, by kernel_rfl, ne_of_beq (by kernel_rfl)⟩ (consNil)
theorem cok_impl_useAll_sint_runTrace_1_UseFirst : ConsOK Try.prog 33 cs_impl_useAll_sint_runTrace_1_UseFirst := ⟨clok_impl_useAll_sint_runTrace_1_UseFirst, inlNil, ovNil⟩
theorem i_impl_useAll_sint_runTrace_1_UseFirst {vs : List A1} {kk : AV → List A1 → Prop} {motive : List A1 → Prop} (h : con_impl_useAll_sint.F vs kk) (H : ∀ (t0 : List Int) (cache1 : List Int) (use2c1 : Int), F_impl_useAll_sint_runTrace_1_UseFirst t0 cache1 use2c1 (fun r0 r1 => kk (.tup [.c (.ro .int r0), .c (.v (.int .i64 r1))]) []) → motive [.c (.ro .int t0), .c (.ro .int cache1), .c (.cl 68 [.k (.func (.func 43) ⟨[]⟩ ⟨[]⟩), .k (.int .i64 use2c1)])]) : motive vs := by
  unfold con_impl_useAll_sint at h
  dsimp only at h
  split at h
  · exact H _ _ _ h
  · exact h.elim
theorem h_impl_useAll_sint : Holds Try.prog 67 con_impl_useAll_sint := by
  refine holds_of_ev (rt := [.c (.sl .int), .c .sc]) (T := TT) (Γ := cs_impl_useAll_sint_runTrace_1_UseFirst) (an := an_impl_useAll_sint_runTrace_1_UseFirst) (N := 33) (c := Try.f67.body.getD .skip) Try.func67 (by kernel_rfl) Try.ntmps67 (by decide) (by decide) mixed tabOK cok_impl_useAll_sint_runTrace_1_UseFirst (by kernel_rfl) ?_
  intro vs kk _ hF
  exact i_impl_useAll_sint_runTrace_1_UseFirst (motive := fun vs => Goes (ev TT cs_impl_useAll_sint_runTrace_1_UseFirst 33 an_impl_useAll_sint_runTrace_1_UseFirst (Try.f67.body.getD .skip) (st0 con_impl_useAll_sint vs) (fin TT con_impl_useAll_sint Try.f67.results.toList [.c (.sl .int), .c .sc] vs kk))) hF (fun t0 cache1 use2c1 hF => goes_of (e_impl_useAll_sint_runTrace_1_UseFirst t0 cache1 use2c1 kk) (F_impl_useAll_sint_runTrace_1_UseFirst_S hF))
def con_impl_runTrace : Con := ⟨[.rd, .rd, .rd], true, [.c (.sl .int), .c (.sc), .c (.fn)], fun vs k => match vs with
    | [.c (.ro .int t0), .c (.v (.int .i64 room1)), .c (.v (.func (.func 43) ⟨[]⟩ ⟨[]⟩))] => F_impl_runTrace_UseFirst t0 room1 (fun r0 r1 => k (.tup [.c (.ro .int r0), .c (.v (.int .i64 r1))]) [])
    | _ => False, false⟩
def cl_impl_runTrace_UseFirst : List (FuncId × Con) := [(26, con_impl_ValidTrace), (49, con_impl_validRoom), (67, con_impl_useAll_sint)]
def an_impl_runTrace_UseFirst : Ann := ⟨[], [], [], []⟩
def cs_impl_runTrace_UseFirst : Cons := ⟨cl_impl_runTrace_UseFirst, [], 0, [], [], []⟩
def fin_impl_runTrace_UseFirst (t0 : List Int) (room1 : Int) (kk : AV → List A1 → Prop) : Kt := fin TT con_impl_runTrace Try.f42.results.toList [.c (.sl .int), .c .sc] [.c (.ro .int t0), .c (.v (.int .i64 room1)), .c (.v (.func (.func 43) ⟨[]⟩ ⟨[]⟩))] kk
theorem g_impl_runTrace_UseFirst (t0 : List Int) (room1 : Int) (kk : AV → List A1 → Prop) :
    ev TT cs_impl_runTrace_UseFirst 22 an_impl_runTrace_UseFirst (Try.f42.body.getD .skip) (st0 con_impl_runTrace [.c (.ro .int t0), .c (.v (.int .i64 room1)), .c (.v (.func (.func 43) ⟨[]⟩ ⟨[]⟩))]) (fin TT con_impl_runTrace Try.f42.results.toList [.c (.sl .int), .c .sc] [.c (.ro .int t0), .c (.v (.int .i64 room1)), .c (.v (.func (.func 43) ⟨[]⟩ ⟨[]⟩))] kk) = G_impl_runTrace_UseFirst t0 room1 (fun r0 r1 => kk (.tup [.c (.ro .int r0), .c (.v (.int .i64 r1))]) []) := by kernel_rfl
theorem e_impl_runTrace_UseFirst (t0 : List Int) (room1 : Int) (kk : AV → List A1 → Prop) :
    ev TT cs_impl_runTrace_UseFirst 22 an_impl_runTrace_UseFirst (Try.f42.body.getD .skip) (st0 con_impl_runTrace [.c (.ro .int t0), .c (.v (.int .i64 room1)), .c (.v (.func (.func 43) ⟨[]⟩ ⟨[]⟩))]) (fin TT con_impl_runTrace Try.f42.results.toList [.c (.sl .int), .c .sc] [.c (.ro .int t0), .c (.v (.int .i64 room1)), .c (.v (.func (.func 43) ⟨[]⟩ ⟨[]⟩))] kk) = S_impl_runTrace_UseFirst t0 room1 (fun r0 r1 => kk (.tup [.c (.ro .int r0), .c (.v (.int .i64 r1))]) []) := by
  rw [g_impl_runTrace_UseFirst]
  rfl
theorem clok_impl_runTrace_UseFirst : ConOK Try.prog cl_impl_runTrace_UseFirst := consCons h_impl_ValidTrace ⟨Try.f26, Try.func26, by kernel_rfl, ne_of_beq (by kernel_rfl)⟩ (consCons h_impl_validRoom ⟨Try.f49, Try.func49, by kernel_rfl, ne_of_beq (by kernel_rfl)⟩ (consCons h_impl_useAll_sint ⟨Try.f67, Try.func67, by kernel_rfl, ne_of_beq (by kernel_rfl)⟩ (consNil)))
theorem cok_impl_runTrace_UseFirst : ConsOK Try.prog 22 cs_impl_runTrace_UseFirst := ⟨clok_impl_runTrace_UseFirst, inlNil, ovNil⟩
theorem i_impl_runTrace_UseFirst {vs : List A1} {kk : AV → List A1 → Prop} {motive : List A1 → Prop} (h : con_impl_runTrace.F vs kk) (H : ∀ (t0 : List Int) (room1 : Int), F_impl_runTrace_UseFirst t0 room1 (fun r0 r1 => kk (.tup [.c (.ro .int r0), .c (.v (.int .i64 r1))]) []) → motive [.c (.ro .int t0), .c (.v (.int .i64 room1)), .c (.v (.func (.func 43) ⟨[]⟩ ⟨[]⟩))]) : motive vs := by
  unfold con_impl_runTrace at h
  dsimp only at h
  split at h
  · exact H _ _ h
  · exact h.elim
theorem h_impl_runTrace : Holds Try.prog 42 con_impl_runTrace := by
  refine holds_of_ev (rt := [.c (.sl .int), .c .sc]) (T := TT) (Γ := cs_impl_runTrace_UseFirst) (an := an_impl_runTrace_UseFirst) (N := 22) (c := Try.f42.body.getD .skip) Try.func42 (by kernel_rfl) Try.ntmps42 (by decide) (by decide) mixed tabOK cok_impl_runTrace_UseFirst (by kernel_rfl) ?_
  intro vs kk _ hF
  exact i_impl_runTrace_UseFirst (motive := fun vs => Goes (ev TT cs_impl_runTrace_UseFirst 22 an_impl_runTrace_UseFirst (Try.f42.body.getD .skip) (st0 con_impl_runTrace vs) (fin TT con_impl_runTrace Try.f42.results.toList [.c (.sl .int), .c .sc] vs kk))) hF (fun t0 room1 hF => goes_of (e_impl_runTrace_UseFirst t0 room1 kk) (F_impl_runTrace_UseFirst_S hF))
def con_impl_RunFirst : Con := ⟨[.rd, .rd], true, [.c (.sl .int), .c (.sc)], fun vs k => match vs with
    | [.c (.ro .int t0), .c (.v (.int .i64 room1))] => F_impl_RunFirst t0 room1 (fun r0 r1 => k (.tup [.c (.ro .int r0), .c (.v (.int .i64 r1))]) [])
    | _ => False, false⟩
def cl_impl_RunFirst : List (FuncId × Con) := [(42, con_impl_runTrace)]
def an_impl_RunFirst : Ann := ⟨[], [], [], []⟩
def cs_impl_RunFirst : Cons := ⟨cl_impl_RunFirst, [], 0, [], [], []⟩
def fin_impl_RunFirst (t0 : List Int) (room1 : Int) (kk : AV → List A1 → Prop) : Kt := fin TT con_impl_RunFirst Try.f14.results.toList [.c (.sl .int), .c .sc] [.c (.ro .int t0), .c (.v (.int .i64 room1))] kk
theorem g_impl_RunFirst (t0 : List Int) (room1 : Int) (kk : AV → List A1 → Prop) :
    ev TT cs_impl_RunFirst 11 an_impl_RunFirst (Try.f14.body.getD .skip) (st0 con_impl_RunFirst [.c (.ro .int t0), .c (.v (.int .i64 room1))]) (fin TT con_impl_RunFirst Try.f14.results.toList [.c (.sl .int), .c .sc] [.c (.ro .int t0), .c (.v (.int .i64 room1))] kk) = G_impl_RunFirst t0 room1 (fun r0 r1 => kk (.tup [.c (.ro .int r0), .c (.v (.int .i64 r1))]) []) := by kernel_rfl
theorem e_impl_RunFirst (t0 : List Int) (room1 : Int) (kk : AV → List A1 → Prop) :
    ev TT cs_impl_RunFirst 11 an_impl_RunFirst (Try.f14.body.getD .skip) (st0 con_impl_RunFirst [.c (.ro .int t0), .c (.v (.int .i64 room1))]) (fin TT con_impl_RunFirst Try.f14.results.toList [.c (.sl .int), .c .sc] [.c (.ro .int t0), .c (.v (.int .i64 room1))] kk) = S_impl_RunFirst t0 room1 (fun r0 r1 => kk (.tup [.c (.ro .int r0), .c (.v (.int .i64 r1))]) []) := by
  rw [g_impl_RunFirst]
  rfl
theorem clok_impl_RunFirst : ConOK Try.prog cl_impl_RunFirst := consCons h_impl_runTrace ⟨Try.f42, Try.func42, by kernel_rfl, ne_of_beq (by kernel_rfl)⟩ (consNil)
theorem cok_impl_RunFirst : ConsOK Try.prog 11 cs_impl_RunFirst := ⟨clok_impl_RunFirst, inlNil, ovNil⟩
theorem i_impl_RunFirst {vs : List A1} {kk : AV → List A1 → Prop} {motive : List A1 → Prop} (h : con_impl_RunFirst.F vs kk) (H : ∀ (t0 : List Int) (room1 : Int), F_impl_RunFirst t0 room1 (fun r0 r1 => kk (.tup [.c (.ro .int r0), .c (.v (.int .i64 r1))]) []) → motive [.c (.ro .int t0), .c (.v (.int .i64 room1))]) : motive vs := by
  unfold con_impl_RunFirst at h
  dsimp only at h
  split at h
  · exact H _ _ h
  · exact h.elim
theorem h_impl_RunFirst : Holds Try.prog 14 con_impl_RunFirst := by
  refine holds_of_ev (rt := [.c (.sl .int), .c .sc]) (T := TT) (Γ := cs_impl_RunFirst) (an := an_impl_RunFirst) (N := 11) (c := Try.f14.body.getD .skip) Try.func14 (by kernel_rfl) Try.ntmps14 (by decide) (by decide) mixed tabOK cok_impl_RunFirst (by kernel_rfl) ?_
  intro vs kk _ hF
  exact i_impl_RunFirst (motive := fun vs => Goes (ev TT cs_impl_RunFirst 11 an_impl_RunFirst (Try.f14.body.getD .skip) (st0 con_impl_RunFirst vs) (fin TT con_impl_RunFirst Try.f14.results.toList [.c (.sl .int), .c .sc] vs kk))) hF (fun t0 room1 hF => goes_of (e_impl_RunFirst t0 room1 kk) (F_impl_RunFirst_S hF))
def con_laws_isIn : Con := ⟨[.rd, .rd], true, [.c (.sl .int), .c (.sc)], fun vs k => match vs with
    | [.c (.ro .int list0), .c (.v (.int .i64 n1))] => F_laws_isIn list0 n1 (fun r0 => k (.one (.c (.v (.bool r0)))) [])
    | _ => False, false⟩
def cl_laws_isIn : List (FuncId × Con) := []
def nm0_laws_isIn : List NStep := [.keep [0, 1, 5] []]
def an_laws_isIn : Ann := ⟨[], [(2, nm0_laws_isIn)], [], []⟩
def cs_laws_isIn : Cons := ⟨cl_laws_isIn, [], 0, [], [], []⟩
def can0_laws_isIn (list0 : List Int) (n1 : Int) (xi5 : Int) : St := ⟨[(0, .one (.c (.ro .int list0))), (1, .one (.c (.v (.int .i64 n1)))), (5, .one (.c (.v (.int .i64 xi5))))], []⟩
def fin_laws_isIn (list0 : List Int) (n1 : Int) (kk : AV → List A1 → Prop) : Kt := fin TT con_laws_isIn Try.f23.results.toList [.c .sc] [.c (.ro .int list0), .c (.v (.int .i64 n1))] kk
def kt0_laws_isIn (kf : Kt) : Kt := blockK 0 (seqK (evF TT cs_laws_isIn 18 an_laws_isIn Try.f23 [1, 1]) (kf))
theorem r0_laws_isIn (list0 : List Int) (n1 : Int) (kk : AV → List A1 → Prop) (n : Nat) (xi5 : Int) :
    iter (evF TT cs_laws_isIn 18 an_laws_isIn Try.f23 [1, 0, 1, 0, 0]) nm0_laws_isIn (kt0_laws_isIn (fin_laws_isIn list0 n1 kk)) (n + 1) (can0_laws_isIn list0 n1 xi5) = T0_laws_isIn list0 n1 xi5 (fun r0 => kk (.one (.c (.v (.bool r0)))) []) (fun xi5 => iter (evF TT cs_laws_isIn 18 an_laws_isIn Try.f23 [1, 0, 1, 0, 0]) nm0_laws_isIn (kt0_laws_isIn (fin_laws_isIn list0 n1 kk)) n (can0_laws_isIn list0 n1 xi5)) := by kernel_rfl
theorem l0_laws_isIn (list0 : List Int) (n1 : Int) (kk : AV → List A1 → Prop) : ∀ (n : Nat) (xi5 : Int), iter (evF TT cs_laws_isIn 18 an_laws_isIn Try.f23 [1, 0, 1, 0, 0]) nm0_laws_isIn (kt0_laws_isIn (fin_laws_isIn list0 n1 kk)) n (can0_laws_isIn list0 n1 xi5) = L0_laws_isIn list0 n1 (fun r0 => kk (.one (.c (.v (.bool r0)))) []) n xi5 := by
  intro n
  induction n with
  | zero => intros; rfl
  | succ n ih =>
    intro xi5
    rw [r0_laws_isIn list0 n1 kk n xi5]
    have hb : (fun xi5 => iter (evF TT cs_laws_isIn 18 an_laws_isIn Try.f23 [1, 0, 1, 0, 0]) nm0_laws_isIn (kt0_laws_isIn (fin_laws_isIn list0 n1 kk)) n (can0_laws_isIn list0 n1 xi5)) = L0_laws_isIn list0 n1 (fun r0 => kk (.one (.c (.v (.bool r0)))) []) n := by
      funext xi5; exact ih xi5
    rw [hb]
    rfl
theorem g_laws_isIn (list0 : List Int) (n1 : Int) (kk : AV → List A1 → Prop) :
    ev TT cs_laws_isIn 18 an_laws_isIn (Try.f23.body.getD .skip) (st0 con_laws_isIn [.c (.ro .int list0), .c (.v (.int .i64 n1))]) (fin TT con_laws_isIn Try.f23.results.toList [.c .sc] [.c (.ro .int list0), .c (.v (.int .i64 n1))] kk) = G_laws_isIn list0 n1 (fun list0 n1 xi5 => ∃ j, iter (evF TT cs_laws_isIn 18 an_laws_isIn Try.f23 [1, 0, 1, 0, 0]) nm0_laws_isIn (kt0_laws_isIn (fin_laws_isIn list0 n1 kk)) j (can0_laws_isIn list0 n1 xi5)) := by kernel_rfl
theorem e_laws_isIn (list0 : List Int) (n1 : Int) (kk : AV → List A1 → Prop) :
    ev TT cs_laws_isIn 18 an_laws_isIn (Try.f23.body.getD .skip) (st0 con_laws_isIn [.c (.ro .int list0), .c (.v (.int .i64 n1))]) (fin TT con_laws_isIn Try.f23.results.toList [.c .sc] [.c (.ro .int list0), .c (.v (.int .i64 n1))] kk) = S_laws_isIn list0 n1 (fun r0 => kk (.one (.c (.v (.bool r0)))) []) := by
  rw [g_laws_isIn]
  have hi0 : (fun list0 n1 xi5 => ∃ j, iter (evF TT cs_laws_isIn 18 an_laws_isIn Try.f23 [1, 0, 1, 0, 0]) nm0_laws_isIn (kt0_laws_isIn (fin_laws_isIn list0 n1 kk)) j (can0_laws_isIn list0 n1 xi5)) = (fun list0 n1 xi5 => ∃ j, L0_laws_isIn list0 n1 (fun r0 => kk (.one (.c (.v (.bool r0)))) []) j xi5) := by
    funext list0 n1 xi5
    refine congrArg Exists (funext fun j => ?_)
    rw [l0_laws_isIn list0 n1 kk j xi5]
  rw [hi0]
  rfl
theorem clok_laws_isIn : ConOK Try.prog cl_laws_isIn := consNil
theorem cok_laws_isIn : ConsOK Try.prog 18 cs_laws_isIn := ⟨clok_laws_isIn, inlNil, ovNil⟩
theorem i_laws_isIn {vs : List A1} {kk : AV → List A1 → Prop} {motive : List A1 → Prop} (h : con_laws_isIn.F vs kk) (H : ∀ (list0 : List Int) (n1 : Int), F_laws_isIn list0 n1 (fun r0 => kk (.one (.c (.v (.bool r0)))) []) → motive [.c (.ro .int list0), .c (.v (.int .i64 n1))]) : motive vs := by
  unfold con_laws_isIn at h
  dsimp only at h
  split at h
  · exact H _ _ h
  · exact h.elim
theorem h_laws_isIn : Holds Try.prog 23 con_laws_isIn := by
  refine holds_of_ev (rt := [.c .sc]) (T := TT) (Γ := cs_laws_isIn) (an := an_laws_isIn) (N := 18) (c := Try.f23.body.getD .skip) Try.func23 (by kernel_rfl) Try.ntmps23 (by decide) (by decide) mixed tabOK cok_laws_isIn (by kernel_rfl) ?_
  intro vs kk _ hF
  exact i_laws_isIn (motive := fun vs => Goes (ev TT cs_laws_isIn 18 an_laws_isIn (Try.f23.body.getD .skip) (st0 con_laws_isIn vs) (fin TT con_laws_isIn Try.f23.results.toList [.c .sc] vs kk))) hF (fun list0 n1 hF => goes_of (e_laws_isIn list0 n1 kk) (F_laws_isIn_S hF))
def con_laws_FnRunClockFirst : Con := ⟨[.rd], true, [.c (.sl .u8)], fun vs k => match vs with
    | [.c (.ro .u8 code0)] => F_laws_FnRunClockFirst code0 (fun r0 => k (.one (.c (.v (.bool r0)))) [])
    | _ => False, false⟩
def cl_laws_FnRunClockFirst : List (FuncId × Con) := [(14, con_impl_RunFirst), (17, con_impl_LoopTrace), (19, con_spec_DrawRunClock), (20, con_impl_RunClock), (21, con_spec_RunClock), (22, con_laws_equalClock), (23, con_laws_isIn)]
def nm0_laws_FnRunClockFirst : List NStep := [.keep [10, 11, 12, 14] [160, 992, 993, 1088]]
def an_laws_FnRunClockFirst : Ann := ⟨[(14, .take 0 (.take 1 (.take 2 (.take 3 (.take 4 (.take 5 (.alt 6 (.take 7 (.done)) (.none))))))), [160, 1088])], [(12, nm0_laws_FnRunClockFirst)], [], []⟩
def cs_laws_FnRunClockFirst : Cons := ⟨cl_laws_FnRunClockFirst, [], 0, [], [], []⟩
def can0_laws_FnRunClockFirst (runClock62Hand : Int) (runClock62Keys : List Int) (runClock62Room : Int) (runClock62Used : List Bool) (runClock62r1 : Int) (runFirst68r0 : List Int) (xi14 : Int) : St := ⟨[(10, .one (.c (.pb 160 0))), (11, .one (.c (.v (.int .i64 runClock62r1)))), (12, .one (.c (.ow 1088))), (14, .one (.c (.v (.int .i64 xi14))))], [(160, .box [.v (.int .i64 runClock62Room), .ow 992, .ow 993, .v (.int .i64 runClock62Hand)]), (992, .row .int runClock62Keys), (993, .row .bool runClock62Used), (1088, .row .int runFirst68r0)]⟩
def fin_laws_FnRunClockFirst (code0 : List Int) (kk : AV → List A1 → Prop) : Kt := fin TT con_laws_FnRunClockFirst Try.f4.results.toList [.c .sc] [.c (.ro .u8 code0)] kk
def kt0_laws_FnRunClockFirst (kf : Kt) : Kt := blockK 0 (seqK (evF TT cs_laws_FnRunClockFirst 95 an_laws_FnRunClockFirst Try.f4 [1, 1, 1, 1, 1, 1, 1, 1, 1, 1]) (kf))
theorem r0_laws_FnRunClockFirst (code0 : List Int) (runClock62Hand : Int) (runClock62Keys : List Int) (runClock62Room : Int) (runClock62Used : List Bool) (runClock62r1 : Int) (runFirst68r0 : List Int) (kk : AV → List A1 → Prop) (n : Nat) (xi14 : Int) :
    iter (evF TT cs_laws_FnRunClockFirst 95 an_laws_FnRunClockFirst Try.f4 [1, 1, 1, 1, 1, 1, 1, 1, 1, 0, 1, 0, 0]) nm0_laws_FnRunClockFirst (kt0_laws_FnRunClockFirst (fin_laws_FnRunClockFirst code0 kk)) (n + 1) (can0_laws_FnRunClockFirst runClock62Hand runClock62Keys runClock62Room runClock62Used runClock62r1 runFirst68r0 xi14) = T0_laws_FnRunClockFirst runClock62Hand runClock62Keys runClock62Room runClock62Used runClock62r1 runFirst68r0 xi14 (fun r0 => kk (.one (.c (.v (.bool r0)))) []) (fun xi14 => iter (evF TT cs_laws_FnRunClockFirst 95 an_laws_FnRunClockFirst Try.f4 [1, 1, 1, 1, 1, 1, 1, 1, 1, 0, 1, 0, 0]) nm0_laws_FnRunClockFirst (kt0_laws_FnRunClockFirst (fin_laws_FnRunClockFirst code0 kk)) n (can0_laws_FnRunClockFirst runClock62Hand runClock62Keys runClock62Room runClock62Used runClock62r1 runFirst68r0 xi14)) := by kernel_rfl
theorem l0_laws_FnRunClockFirst (code0 : List Int) (runClock62Hand : Int) (runClock62Keys : List Int) (runClock62Room : Int) (runClock62Used : List Bool) (runClock62r1 : Int) (runFirst68r0 : List Int) (kk : AV → List A1 → Prop) : ∀ (n : Nat) (xi14 : Int), iter (evF TT cs_laws_FnRunClockFirst 95 an_laws_FnRunClockFirst Try.f4 [1, 1, 1, 1, 1, 1, 1, 1, 1, 0, 1, 0, 0]) nm0_laws_FnRunClockFirst (kt0_laws_FnRunClockFirst (fin_laws_FnRunClockFirst code0 kk)) n (can0_laws_FnRunClockFirst runClock62Hand runClock62Keys runClock62Room runClock62Used runClock62r1 runFirst68r0 xi14) = L0_laws_FnRunClockFirst runClock62Hand runClock62Keys runClock62Room runClock62Used runClock62r1 runFirst68r0 (fun r0 => kk (.one (.c (.v (.bool r0)))) []) n xi14 := by
  intro n
  induction n with
  | zero => intros; rfl
  | succ n ih =>
    intro xi14
    rw [r0_laws_FnRunClockFirst code0 runClock62Hand runClock62Keys runClock62Room runClock62Used runClock62r1 runFirst68r0 kk n xi14]
    have hb : (fun xi14 => iter (evF TT cs_laws_FnRunClockFirst 95 an_laws_FnRunClockFirst Try.f4 [1, 1, 1, 1, 1, 1, 1, 1, 1, 0, 1, 0, 0]) nm0_laws_FnRunClockFirst (kt0_laws_FnRunClockFirst (fin_laws_FnRunClockFirst code0 kk)) n (can0_laws_FnRunClockFirst runClock62Hand runClock62Keys runClock62Room runClock62Used runClock62r1 runFirst68r0 xi14)) = L0_laws_FnRunClockFirst runClock62Hand runClock62Keys runClock62Room runClock62Used runClock62r1 runFirst68r0 (fun r0 => kk (.one (.c (.v (.bool r0)))) []) n := by
      funext xi14; exact ih xi14
    rw [hb]
    rw [T0_laws_FnRunClockFirst_eq]
    rfl
theorem g_laws_FnRunClockFirst (code0 : List Int) (kk : AV → List A1 → Prop) :
    ev TT cs_laws_FnRunClockFirst 95 an_laws_FnRunClockFirst (Try.f4.body.getD .skip) (st0 con_laws_FnRunClockFirst [.c (.ro .u8 code0)]) (fin TT con_laws_FnRunClockFirst Try.f4.results.toList [.c .sc] [.c (.ro .u8 code0)] kk) = G_laws_FnRunClockFirst code0 (fun r0 => kk (.one (.c (.v (.bool r0)))) []) (fun runClock62Hand runClock62Keys runClock62Room runClock62Used runClock62r1 runFirst68r0 xi14 => ∃ j, iter (evF TT cs_laws_FnRunClockFirst 95 an_laws_FnRunClockFirst Try.f4 [1, 1, 1, 1, 1, 1, 1, 1, 1, 0, 1, 0, 0]) nm0_laws_FnRunClockFirst (kt0_laws_FnRunClockFirst (fin_laws_FnRunClockFirst code0 kk)) j (can0_laws_FnRunClockFirst runClock62Hand runClock62Keys runClock62Room runClock62Used runClock62r1 runFirst68r0 xi14)) := by kernel_rfl
theorem e_laws_FnRunClockFirst (code0 : List Int) (kk : AV → List A1 → Prop) :
    ev TT cs_laws_FnRunClockFirst 95 an_laws_FnRunClockFirst (Try.f4.body.getD .skip) (st0 con_laws_FnRunClockFirst [.c (.ro .u8 code0)]) (fin TT con_laws_FnRunClockFirst Try.f4.results.toList [.c .sc] [.c (.ro .u8 code0)] kk) = S_laws_FnRunClockFirst code0 (fun r0 => kk (.one (.c (.v (.bool r0)))) []) := by
  rw [g_laws_FnRunClockFirst]
  have hi0 : (fun runClock62Hand runClock62Keys runClock62Room runClock62Used runClock62r1 runFirst68r0 xi14 => ∃ j, iter (evF TT cs_laws_FnRunClockFirst 95 an_laws_FnRunClockFirst Try.f4 [1, 1, 1, 1, 1, 1, 1, 1, 1, 0, 1, 0, 0]) nm0_laws_FnRunClockFirst (kt0_laws_FnRunClockFirst (fin_laws_FnRunClockFirst code0 kk)) j (can0_laws_FnRunClockFirst runClock62Hand runClock62Keys runClock62Room runClock62Used runClock62r1 runFirst68r0 xi14)) = (fun runClock62Hand runClock62Keys runClock62Room runClock62Used runClock62r1 runFirst68r0 xi14 => ∃ j, L0_laws_FnRunClockFirst runClock62Hand runClock62Keys runClock62Room runClock62Used runClock62r1 runFirst68r0 (fun r0 => kk (.one (.c (.v (.bool r0)))) []) j xi14) := by
    funext runClock62Hand runClock62Keys runClock62Room runClock62Used runClock62r1 runFirst68r0 xi14
    refine congrArg Exists (funext fun j => ?_)
    rw [l0_laws_FnRunClockFirst code0 runClock62Hand runClock62Keys runClock62Room runClock62Used runClock62r1 runFirst68r0 kk j xi14]
  rw [hi0]
  rfl
theorem clok_laws_FnRunClockFirst : ConOK Try.prog cl_laws_FnRunClockFirst := consCons h_impl_RunFirst ⟨Try.f14, Try.func14, by kernel_rfl, ne_of_beq (by kernel_rfl)⟩ (consCons h_impl_LoopTrace ⟨Try.f17, Try.func17, by kernel_rfl, ne_of_beq (by kernel_rfl)⟩ (consCons h_spec_DrawRunClock ⟨Try.f19, Try.func19, by kernel_rfl, ne_of_beq (by kernel_rfl)⟩ (consCons h_impl_RunClock ⟨Try.f20, Try.func20, by kernel_rfl, ne_of_beq (by kernel_rfl)⟩ (consCons h_spec_RunClock ⟨Try.f21, Try.func21, by kernel_rfl, ne_of_beq (by kernel_rfl)⟩ (consCons h_laws_equalClock ⟨Try.f22, Try.func22, by kernel_rfl, ne_of_beq (by kernel_rfl)⟩ (consCons h_laws_isIn ⟨Try.f23, Try.func23, by kernel_rfl, ne_of_beq (by kernel_rfl)⟩ (consNil)))))))
theorem cok_laws_FnRunClockFirst : ConsOK Try.prog 95 cs_laws_FnRunClockFirst := ⟨clok_laws_FnRunClockFirst, inlNil, ovNil⟩
theorem i_laws_FnRunClockFirst {vs : List A1} {kk : AV → List A1 → Prop} {motive : List A1 → Prop} (h : con_laws_FnRunClockFirst.F vs kk) (H : ∀ (code0 : List Int), F_laws_FnRunClockFirst code0 (fun r0 => kk (.one (.c (.v (.bool r0)))) []) → motive [.c (.ro .u8 code0)]) : motive vs := by
  unfold con_laws_FnRunClockFirst at h
  dsimp only at h
  split at h
  · exact H _ h
  · exact h.elim
theorem h_laws_FnRunClockFirst : Holds Try.prog 4 con_laws_FnRunClockFirst := by
  refine holds_of_ev (rt := [.c .sc]) (T := TT) (Γ := cs_laws_FnRunClockFirst) (an := an_laws_FnRunClockFirst) (N := 95) (c := Try.f4.body.getD .skip) Try.func4 (by kernel_rfl) Try.ntmps4 (by decide) (by decide) mixed tabOK cok_laws_FnRunClockFirst (by kernel_rfl) ?_
  intro vs kk _ hF
  exact i_laws_FnRunClockFirst (motive := fun vs => Goes (ev TT cs_laws_FnRunClockFirst 95 an_laws_FnRunClockFirst (Try.f4.body.getD .skip) (st0 con_laws_FnRunClockFirst vs) (fin TT con_laws_FnRunClockFirst Try.f4.results.toList [.c .sc] vs kk))) hF (fun code0 hF => goes_of (e_laws_FnRunClockFirst code0 kk) (F_laws_FnRunClockFirst_S hF))
end Go.Ev
