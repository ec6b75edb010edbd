/- What the evaluator gives for these functions: their contracts. No statement is proved here. -/
import Derived.Test.YtacohagnclnkdacFnBestSplitHitsP0
import Derived.Test.YtacohagnclnkdacTt
namespace Go.Ev
set_option linter.unusedVariables false
set_option linter.unusedSimpArgs false
set_option maxRecDepth 100000
open Go Go.Proofs
def con_spec_newReader : Con := ⟨[.rd], true, [.c (.sl .u8)], fun vs k => match vs with
    | [.c (.ro .u8 code0)] => F_spec_newReader code0 (fun r0 r1 => k (.one (.agg [.ro .u8 r0, .v (.int .i64 r1)])) [])
    | _ => False, true⟩
def cl_spec_newReader : List (FuncId × Con) := []
def an_spec_newReader : Ann := ⟨[], [], [], []⟩
def cs_spec_newReader : Cons := ⟨cl_spec_newReader, [], 0, [], [], []⟩
def fin_spec_newReader (code0 : List Int) (kk : AV → List A1 → Prop) : Kt := finB Try.f46.results.toList [.sl .u8, .sc] kk
theorem g_spec_newReader (code0 : List Int) (kk : AV → List A1 → Prop) :
    ev TT cs_spec_newReader 11 an_spec_newReader (Try.f46.body.getD .skip) (st0 con_spec_newReader [.c (.ro .u8 code0)]) (finB Try.f46.results.toList [.sl .u8, .sc] kk) = G_spec_newReader code0 (fun r0 r1 => kk (.one (.agg [.ro .u8 r0, .v (.int .i64 r1)])) []) := by kernel_rfl
theorem e_spec_newReader (code0 : List Int) (kk : AV → List A1 → Prop) :
    ev TT cs_spec_newReader 11 an_spec_newReader (Try.f46.body.getD .skip) (st0 con_spec_newReader [.c (.ro .u8 code0)]) (finB Try.f46.results.toList [.sl .u8, .sc] kk) = S_spec_newReader code0 (fun r0 r1 => kk (.one (.agg [.ro .u8 r0, .v (.int .i64 r1)])) []) := by
  rw [g_spec_newReader]
  rfl
theorem clok_spec_newReader : ConOK Try.prog cl_spec_newReader := consNil
theorem cok_spec_newReader : ConsOK Try.prog 11 cs_spec_newReader := ⟨clok_spec_newReader, inlNil, ovNil⟩
theorem i_spec_newReader {vs : List A1} {kk : AV → List A1 → Prop} {motive : List A1 → Prop} (h : con_spec_newReader.F vs kk) (H : ∀ (code0 : List Int), F_spec_newReader code0 (fun r0 r1 => kk (.one (.agg [.ro .u8 r0, .v (.int .i64 r1)])) []) → motive [.c (.ro .u8 code0)]) : motive vs := by
  unfold con_spec_newReader at h
  dsimp only at h
  split at h
  · exact H _ h
  · exact h.elim
theorem h_spec_newReader : HoldsB Try.prog 46 con_spec_newReader := by
  refine holdsB_of_ev (ts := [.sl .u8, .sc]) (T := TT) (Γ := cs_spec_newReader) (an := an_spec_newReader) (N := 11) (c := Try.f46.body.getD .skip) Try.func46 (by kernel_rfl) Try.ntmps46 (by decide) (by decide) mixed tabOK cok_spec_newReader (by kernel_rfl) ?_
  intro vs kk _ hF
  exact i_spec_newReader (motive := fun vs => Goes (ev TT cs_spec_newReader 11 an_spec_newReader (Try.f46.body.getD .skip) (st0 con_spec_newReader vs) (finB Try.f46.results.toList [.sl .u8, .sc] kk))) hF (fun code0 hF => goes_of (e_spec_newReader code0 kk) (F_spec_newReader_S hF))
def con_spec_reader_pick : Con := ⟨[.mu, .rd], true, [.ptr [.sl .u8, .sc], .c (.sc)], fun vs k => match vs with
    | [.ptr [.ro .u8 r0b, .v (.int .i64 r0p)], .c (.v (.int .i64 n1))] => F_spec_reader_pick r0b r0p n1 (fun r0 r1 r2 => k (.one (.c (.v (.int .i64 r0)))) [.ptr [.ro .u8 r1, .v (.int .i64 r2)]])
    | _ => False, false⟩
def cl_spec_reader_pick : List (FuncId × Con) := []
def an_spec_reader_pick : Ann := ⟨[(7, .take 0 (.take 1 (.take 2 (.take 3 (.take 4 (.take 5 (.take 6 (.take 7 (.take 8 (.take 9 (.take 10 (.take 11 (.take 12 (.take 13 (.take 14 (.take 15 (.take 16 (.take 17 (.take 18 (.take 19 (.take 20 (.take 21 (.take 22 (.take 23 (.take 24 (.take 25 (.take 26 (.take 27 (.take 28 (.take 29 (.take 30 (.take 31 (.take 32 (.take 33 (.take 34 (.take 35 (.take 36 (.take 37 (.take 38 (.take 39 (.take 40 (.take 41 (.take 42 (.take 43 (.take 44 (.take 45 (.done)))))))))))))))))))))))))))))))))))))))))))))), [100000])], [], [], []⟩
def cs_spec_reader_pick : Cons := ⟨cl_spec_reader_pick, [], 0, [], [], []⟩
def fin_spec_reader_pick (r0b : List Int) (r0p : Int) (n1 : Int) (kk : AV → List A1 → Prop) : Kt := fin TT con_spec_reader_pick Try.f89.results.toList [.c .sc] [.ptr [.ro .u8 r0b, .v (.int .i64 r0p)], .c (.v (.int .i64 n1))] kk
theorem g_spec_reader_pick (r0b : List Int) (r0p : Int) (n1 : Int) (kk : AV → List A1 → Prop) :
    ev TT cs_spec_reader_pick 99 an_spec_reader_pick (Try.f89.body.getD .skip) (st0 con_spec_reader_pick [.ptr [.ro .u8 r0b, .v (.int .i64 r0p)], .c (.v (.int .i64 n1))]) (fin TT con_spec_reader_pick Try.f89.results.toList [.c .sc] [.ptr [.ro .u8 r0b, .v (.int .i64 r0p)], .c (.v (.int .i64 n1))] kk) = G_spec_reader_pick r0b r0p n1 (fun r0 r1 r2 => kk (.one (.c (.v (.int .i64 r0)))) [.ptr [.ro .u8 r1, .v (.int .i64 r2)]]) := by kernel_rfl
theorem e_spec_reader_pick (r0b : List Int) (r0p : Int) (n1 : Int) (kk : AV → List A1 → Prop) :
    ev TT cs_spec_reader_pick 99 an_spec_reader_pick (Try.f89.body.getD .skip) (st0 con_spec_reader_pick [.ptr [.ro .u8 r0b, .v (.int .i64 r0p)], .c (.v (.int .i64 n1))]) (fin TT con_spec_reader_pick Try.f89.results.toList [.c .sc] [.ptr [.ro .u8 r0b, .v (.int .i64 r0p)], .c (.v (.int .i64 n1))] kk) = S_spec_reader_pick r0b r0p n1 (fun r0 r1 r2 => kk (.one (.c (.v (.int .i64 r0)))) [.ptr [.ro .u8 r1, .v (.int .i64 r2)]]) := by
  rw [g_spec_reader_pick]
  rfl
theorem clok_spec_reader_pick : ConOK Try.prog cl_spec_reader_pick := consNil
theorem cok_spec_reader_pick : ConsOK Try.prog 99 cs_spec_reader_pick := ⟨clok_spec_reader_pick, inlNil, ovNil⟩
theorem i_spec_reader_pick {vs : List A1} {kk : AV → List A1 → Prop} {motive : List A1 → Prop} (h : con_spec_reader_pick.F vs kk) (H : ∀ (r0b : List Int) (r0p : Int) (n1 : Int), F_spec_reader_pick r0b r0p n1 (fun r0 r1 r2 => kk (.one (.c (.v (.int .i64 r0)))) [.ptr [.ro .u8 r1, .v (.int .i64 r2)]]) → motive [.ptr [.ro .u8 r0b, .v (.int .i64 r0p)], .c (.v (.int .i64 n1))]) : motive vs := by
  unfold con_spec_reader_pick at h
  dsimp only at h
  split at h
  · exact H _ _ _ h
  · exact h.elim
theorem h_spec_reader_pick : Holds Try.prog 89 con_spec_reader_pick := by
  refine holds_of_ev (rt := [.c .sc]) (T := TT) (Γ := cs_spec_reader_pick) (an := an_spec_reader_pick) (N := 99) (c := Try.f89.body.getD .skip) Try.func89 (by kernel_rfl) Try.ntmps89 (by decide) (by decide) mixed tabOK cok_spec_reader_pick (by kernel_rfl) ?_
  intro vs kk _ hF
  exact i_spec_reader_pick (motive := fun vs => Goes (ev TT cs_spec_reader_pick 99 an_spec_reader_pick (Try.f89.body.getD .skip) (st0 con_spec_reader_pick vs) (fin TT con_spec_reader_pick Try.f89.results.toList [.c .sc] vs kk))) hF (fun r0b r0p n1 hF => goes_of (e_spec_reader_pick r0b r0p n1 kk) (F_spec_reader_pick_S hF))
def con_spec_reader_one : Con := ⟨[.mu, .rd], true, [.ptr [.sl .u8, .sc], .c (.sl .int)], fun vs k => match vs with
    | [.ptr [.ro .u8 r0b, .v (.int .i64 r0p)], .c (.ro .int list1)] => F_spec_reader_one r0b r0p list1 (fun r0 r1 r2 => k (.one (.c (.v (.int .i64 r0)))) [.ptr [.ro .u8 r1, .v (.int .i64 r2)]])
    | _ => False, false⟩
def cl_spec_reader_one : List (FuncId × Con) := [(89, con_spec_reader_pick)]
def an_spec_reader_one : Ann := ⟨[], [], [], []⟩
def cs_spec_reader_one : Cons := ⟨cl_spec_reader_one, [], 0, [], [], []⟩
def fin_spec_reader_one (r0b : List Int) (r0p : Int) (list1 : List Int) (kk : AV → List A1 → Prop) : Kt := fin TT con_spec_reader_one Try.f49.results.toList [.c .sc] [.ptr [.ro .u8 r0b, .v (.int .i64 r0p)], .c (.ro .int list1)] kk
theorem g_spec_reader_one (r0b : List Int) (r0p : Int) (list1 : List Int) (kk : AV → List A1 → Prop) :
    ev TT cs_spec_reader_one 12 an_spec_reader_one (Try.f49.body.getD .skip) (st0 con_spec_reader_one [.ptr [.ro .u8 r0b, .v (.int .i64 r0p)], .c (.ro .int list1)]) (fin TT con_spec_reader_one Try.f49.results.toList [.c .sc] [.ptr [.ro .u8 r0b, .v (.int .i64 r0p)], .c (.ro .int list1)] kk) = G_spec_reader_one r0b r0p list1 (fun r0 r1 r2 => kk (.one (.c (.v (.int .i64 r0)))) [.ptr [.ro .u8 r1, .v (.int .i64 r2)]]) := by kernel_rfl
theorem e_spec_reader_one (r0b : List Int) (r0p : Int) (list1 : List Int) (kk : AV → List A1 → Prop) :
    ev TT cs_spec_reader_one 12 an_spec_reader_one (Try.f49.body.getD .skip) (st0 con_spec_reader_one [.ptr [.ro .u8 r0b, .v (.int .i64 r0p)], .c (.ro .int list1)]) (fin TT con_spec_reader_one Try.f49.results.toList [.c .sc] [.ptr [.ro .u8 r0b, .v (.int .i64 r0p)], .c (.ro .int list1)] kk) = S_spec_reader_one r0b r0p list1 (fun r0 r1 r2 => kk (.one (.c (.v (.int .i64 r0)))) [.ptr [.ro .u8 r1, .v (.int .i64 r2)]]) := by
  rw [g_spec_reader_one]
  rfl
theorem clok_spec_reader_one : ConOK Try.prog cl_spec_reader_one := consCons h_spec_reader_pick ⟨Try.f89, Try.func89, by kernel_rfl, ne_of_beq (by kernel_rfl)⟩ (consNil)
theorem cok_spec_reader_one : ConsOK Try.prog 12 cs_spec_reader_one := ⟨clok_spec_reader_one, inlNil, ovNil⟩
theorem i_spec_reader_one {vs : List A1} {kk : AV → List A1 → Prop} {motive : List A1 → Prop} (h : con_spec_reader_one.F vs kk) (H : ∀ (r0b : List Int) (r0p : Int) (list1 : List Int), F_spec_reader_one r0b r0p list1 (fun r0 r1 r2 => kk (.one (.c (.v (.int .i64 r0)))) [.ptr [.ro .u8 r1, .v (.int .i64 r2)]]) → motive [.ptr [.ro .u8 r0b, .v (.int .i64 r0p)], .c (.ro .int list1)]) : motive vs := by
  unfold con_spec_reader_one at h
  dsimp only at h
  split at h
  · exact H _ _ _ h
  · exact h.elim
theorem h_spec_reader_one : Holds Try.prog 49 con_spec_reader_one := by
  refine holds_of_ev (rt := [.c .sc]) (T := TT) (Γ := cs_spec_reader_one) (an := an_spec_reader_one) (N := 12) (c := Try.f49.body.getD .skip) Try.func49 (by kernel_rfl) Try.ntmps49 (by decide) (by decide) mixed tabOK cok_spec_reader_one (by kernel_rfl) ?_
  intro vs kk _ hF
  exact i_spec_reader_one (motive := fun vs => Goes (ev TT cs_spec_reader_one 12 an_spec_reader_one (Try.f49.body.getD .skip) (st0 con_spec_reader_one vs) (fin TT con_spec_reader_one Try.f49.results.toList [.c .sc] vs kk))) hF (fun r0b r0p list1 hF => goes_of (e_spec_reader_one r0b r0p list1 kk) (F_spec_reader_one_S hF))
def con_spec_copyInts : Con := ⟨[.rd], true, [.c (.sl .int)], fun vs k => match vs with
    | [.c (.ro .int list0)] => F_spec_copyInts list0 (fun r0 => k (.one (.c (.ro .int r0))) [])
    | _ => False, false⟩
def cl_spec_copyInts : List (FuncId × Con) := []
def an_spec_copyInts : Ann := ⟨[], [], [], []⟩
def cs_spec_copyInts : Cons := ⟨cl_spec_copyInts, [], 0, [], [], []⟩
def fin_spec_copyInts (list0 : List Int) (kk : AV → List A1 → Prop) : Kt := fin TT con_spec_copyInts Try.f105.results.toList [.c (.sl .int)] [.c (.ro .int list0)] kk
theorem g_spec_copyInts (list0 : List Int) (kk : AV → List A1 → Prop) :
    ev TT cs_spec_copyInts 6 an_spec_copyInts (Try.f105.body.getD .skip) (st0 con_spec_copyInts [.c (.ro .int list0)]) (fin TT con_spec_copyInts Try.f105.results.toList [.c (.sl .int)] [.c (.ro .int list0)] kk) = G_spec_copyInts list0 (fun r0 => kk (.one (.c (.ro .int r0))) []) := by kernel_rfl
theorem e_spec_copyInts (list0 : List Int) (kk : AV → List A1 → Prop) :
    ev TT cs_spec_copyInts 6 an_spec_copyInts (Try.f105.body.getD .skip) (st0 con_spec_copyInts [.c (.ro .int list0)]) (fin TT con_spec_copyInts Try.f105.results.toList [.c (.sl .int)] [.c (.ro .int list0)] kk) = S_spec_copyInts list0 (fun r0 => kk (.one (.c (.ro .int r0))) []) := by
  rw [g_spec_copyInts]
  rfl
theorem clok_spec_copyInts : ConOK Try.prog cl_spec_copyInts := consNil
theorem cok_spec_copyInts : ConsOK Try.prog 6 cs_spec_copyInts := ⟨clok_spec_copyInts, inlNil, ovNil⟩
theorem i_spec_copyInts {vs : List A1} {kk : AV → List A1 → Prop} {motive : List A1 → Prop} (h : con_spec_copyInts.F vs kk) (H : ∀ (list0 : List Int), F_spec_copyInts list0 (fun r0 => kk (.one (.c (.ro .int r0))) []) → motive [.c (.ro .int list0)]) : motive vs := by
  unfold con_spec_copyInts at h
  dsimp only at h
  split at h
  · exact H _ h
  · exact h.elim
theorem h_spec_copyInts : Holds Try.prog 105 con_spec_copyInts := by
  refine holds_of_ev (rt := [.c (.sl .int)]) (T := TT) (Γ := cs_spec_copyInts) (an := an_spec_copyInts) (N := 6) (c := Try.f105.body.getD .skip) Try.func105 (by kernel_rfl) Try.ntmps105 (by decide) (by decide) mixed tabOK cok_spec_copyInts (by kernel_rfl) ?_
  intro vs kk _ hF
  exact i_spec_copyInts (motive := fun vs => Goes (ev TT cs_spec_copyInts 6 an_spec_copyInts (Try.f105.body.getD .skip) (st0 con_spec_copyInts vs) (fin TT con_spec_copyInts Try.f105.results.toList [.c (.sl .int)] vs kk))) hF (fun list0 hF => goes_of (e_spec_copyInts list0 kk) (F_spec_copyInts_S hF))
def con_spec_reader_spoil : Con := ⟨[.mu, .rd, .rd], true, [.ptr [.sl .u8, .sc], .c (.sl .int), .c (.sc)], fun vs k => match vs with
    | [.ptr [.ro .u8 r0b, .v (.int .i64 r0p)], .c (.ro .int list1), .c (.v (.int .i64 n2))] => F_spec_reader_spoil r0b r0p list1 n2 (fun r0 r1 r2 => k (.one (.c (.ro .int r0))) [.ptr [.ro .u8 r1, .v (.int .i64 r2)]])
    | _ => False, false⟩
def cl_spec_reader_spoil : List (FuncId × Con) := [(49, con_spec_reader_one), (89, con_spec_reader_pick), (105, con_spec_copyInts)]
def an_spec_reader_spoil : Ann := ⟨[], [], [], []⟩
def cs_spec_reader_spoil : Cons := ⟨cl_spec_reader_spoil, [], 0, [], [], []⟩
def fin_spec_reader_spoil (r0b : List Int) (r0p : Int) (list1 : List Int) (n2 : Int) (kk : AV → List A1 → Prop) : Kt := fin TT con_spec_reader_spoil Try.f106.results.toList [.c (.sl .int)] [.ptr [.ro .u8 r0b, .v (.int .i64 r0p)], .c (.ro .int list1), .c (.v (.int .i64 n2))] kk
theorem g_spec_reader_spoil (r0b : List Int) (r0p : Int) (list1 : List Int) (n2 : Int) (kk : AV → List A1 → Prop) :
    ev TT cs_spec_reader_spoil 41 an_spec_reader_spoil (Try.f106.body.getD .skip) (st0 con_spec_reader_spoil [.ptr [.ro .u8 r0b, .v (.int .i64 r0p)], .c (.ro .int list1), .c (.v (.int .i64 n2))]) (fin TT con_spec_reader_spoil Try.f106.results.toList [.c (.sl .int)] [.ptr [.ro .u8 r0b, .v (.int .i64 r0p)], .c (.ro .int list1), .c (.v (.int .i64 n2))] kk) = G_spec_reader_spoil r0b r0p list1 n2 (fun r0 r1 r2 => kk (.one (.c (.ro .int r0))) [.ptr [.ro .u8 r1, .v (.int .i64 r2)]]) := by kernel_rfl
theorem e_spec_reader_spoil (r0b : List Int) (r0p : Int) (list1 : List Int) (n2 : Int) (kk : AV → List A1 → Prop) :
    ev TT cs_spec_reader_spoil 41 an_spec_reader_spoil (Try.f106.body.getD .skip) (st0 con_spec_reader_spoil [.ptr [.ro .u8 r0b, .v (.int .i64 r0p)], .c (.ro .int list1), .c (.v (.int .i64 n2))]) (fin TT con_spec_reader_spoil Try.f106.results.toList [.c (.sl .int)] [.ptr [.ro .u8 r0b, .v (.int .i64 r0p)], .c (.ro .int list1), .c (.v (.int .i64 n2))] kk) = S_spec_reader_spoil r0b r0p list1 n2 (fun r0 r1 r2 => kk (.one (.c (.ro .int r0))) [.ptr [.ro .u8 r1, .v (.int .i64 r2)]]) := by
  rw [g_spec_reader_spoil]
  rfl
theorem clok_spec_reader_spoil : ConOK Try.prog cl_spec_reader_spoil := consCons h_spec_reader_one ⟨Try.f49, Try.func49, by kernel_rfl, ne_of_beq (by kernel_rfl)⟩ (consCons h_spec_reader_pick ⟨Try.f89, Try.func89, by kernel_rfl, ne_of_beq (by kernel_rfl)⟩ (consCons h_spec_copyInts ⟨Try.f105, Try.func105, by kernel_rfl, ne_of_beq (by kernel_rfl)⟩ (consNil)))
theorem cok_spec_reader_spoil : ConsOK Try.prog 41 cs_spec_reader_spoil := ⟨clok_spec_reader_spoil, inlNil, ovNil⟩
theorem i_spec_reader_spoil {vs : List A1} {kk : AV → List A1 → Prop} {motive : List A1 → Prop} (h : con_spec_reader_spoil.F vs kk) (H : ∀ (r0b : List Int) (r0p : Int) (list1 : List Int) (n2 : Int), F_spec_reader_spoil r0b r0p list1 n2 (fun r0 r1 r2 => kk (.one (.c (.ro .int r0))) [.ptr [.ro .u8 r1, .v (.int .i64 r2)]]) → motive [.ptr [.ro .u8 r0b, .v (.int .i64 r0p)], .c (.ro .int list1), .c (.v (.int .i64 n2))]) : motive vs := by
  unfold con_spec_reader_spoil at h
  dsimp only at h
  split at h
  · exact H _ _ _ _ h
  · exact h.elim
theorem h_spec_reader_spoil : Holds Try.prog 106 con_spec_reader_spoil := by
  refine holds_of_ev (rt := [.c (.sl .int)]) (T := TT) (Γ := cs_spec_reader_spoil) (an := an_spec_reader_spoil) (N := 41) (c := Try.f106.body.getD .skip) Try.func106 (by kernel_rfl) Try.ntmps106 (by decide) (by decide) mixed tabOK cok_spec_reader_spoil (by kernel_rfl) ?_
  intro vs kk _ hF
  exact i_spec_reader_spoil (motive := fun vs => Goes (ev TT cs_spec_reader_spoil 41 an_spec_reader_spoil (Try.f106.body.getD .skip) (st0 con_spec_reader_spoil vs) (fin TT con_spec_reader_spoil Try.f106.results.toList [.c (.sl .int)] vs kk))) hF (fun r0b r0p list1 n2 hF => goes_of (e_spec_reader_spoil r0b r0p list1 n2 kk) (F_spec_reader_spoil_S hF))
def con_spec_someTrace : Con := ⟨[.mu], true, [.ptr [.sl .u8, .sc]], fun vs k => match vs with
    | [.ptr [.ro .u8 r0b, .v (.int .i64 r0p)]] => F_spec_someTrace r0b r0p (fun r0 r1 r2 => k (.one (.c (.ro .int r0))) [.ptr [.ro .u8 r1, .v (.int .i64 r2)]])
    | _ => False, false⟩
def cl_spec_someTrace : List (FuncId × Con) := [(49, con_spec_reader_one), (89, con_spec_reader_pick), (106, con_spec_reader_spoil)]
def nm0_spec_someTrace : List NStep := [.own 3 .int 90000, .keep [0, 3, 4, 5] [100000, 90000]]
def an_spec_someTrace : Ann := ⟨[], [(4, nm0_spec_someTrace)], [], []⟩
def cs_spec_someTrace : Cons := ⟨cl_spec_someTrace, [], 0, [], [], []⟩
def can0_spec_someTrace (one10 : Int) (xn5 : Int) (xb100000c0 : List Int) (xb100000c1 : Int) (xout3 : List Int) : St := ⟨[(0, .one (.c (.pb 100000 0))), (3, .one (.c (.ow 90000))), (4, .one (.c (.v (.int .i64 one10)))), (5, .one (.c (.v (.int .i64 xn5))))], [(100000, .box [.ro .u8 xb100000c0, .v (.int .i64 xb100000c1)]), (90000, .row .int xout3)]⟩
def fin_spec_someTrace (r0b : List Int) (r0p : Int) (kk : AV → List A1 → Prop) : Kt := fin TT con_spec_someTrace Try.f94.results.toList [.c (.sl .int)] [.ptr [.ro .u8 r0b, .v (.int .i64 r0p)]] kk
def kt0_spec_someTrace (kf : Kt) : Kt := blockK 0 (seqK (evF TT cs_spec_someTrace 56 an_spec_someTrace Try.f94 [1, 1, 1, 1]) (kf))
theorem r0_spec_someTrace (r0b : List Int) (r0p : Int) (one10 : Int) (kk : AV → List A1 → Prop) (n : Nat) (xn5 : Int) (xb100000c0 : List Int) (xb100000c1 : Int) (xout3 : List Int) :
    iter (evF TT cs_spec_someTrace 56 an_spec_someTrace Try.f94 [1, 1, 1, 0, 1, 0, 0]) nm0_spec_someTrace (kt0_spec_someTrace (fin_spec_someTrace r0b r0p kk)) (n + 1) (can0_spec_someTrace one10 xn5 xb100000c0 xb100000c1 xout3) = T0_spec_someTrace one10 xn5 xb100000c0 xb100000c1 xout3 (fun r0 r1 r2 => kk (.one (.c (.ro .int r0))) [.ptr [.ro .u8 r1, .v (.int .i64 r2)]]) (fun xn5 xb100000c0 xb100000c1 xout3 => iter (evF TT cs_spec_someTrace 56 an_spec_someTrace Try.f94 [1, 1, 1, 0, 1, 0, 0]) nm0_spec_someTrace (kt0_spec_someTrace (fin_spec_someTrace r0b r0p kk)) n (can0_spec_someTrace one10 xn5 xb100000c0 xb100000c1 xout3)) := by kernel_rfl
theorem l0_spec_someTrace (r0b : List Int) (r0p : Int) (one10 : Int) (kk : AV → List A1 → Prop) : ∀ (n : Nat) (xn5 : Int) (xb100000c0 : List Int) (xb100000c1 : Int) (xout3 : List Int), iter (evF TT cs_spec_someTrace 56 an_spec_someTrace Try.f94 [1, 1, 1, 0, 1, 0, 0]) nm0_spec_someTrace (kt0_spec_someTrace (fin_spec_someTrace r0b r0p kk)) n (can0_spec_someTrace one10 xn5 xb100000c0 xb100000c1 xout3) = L0_spec_someTrace one10 (fun r0 r1 r2 => kk (.one (.c (.ro .int r0))) [.ptr [.ro .u8 r1, .v (.int .i64 r2)]]) n xn5 xb100000c0 xb100000c1 xout3 := by
  intro n
  induction n with
  | zero => intros; rfl
  | succ n ih =>
    intro xn5 xb100000c0 xb100000c1 xout3
    rw [r0_spec_someTrace r0b r0p one10 kk n xn5 xb100000c0 xb100000c1 xout3]
    have hb : (fun xn5 xb100000c0 xb100000c1 xout3 => iter (evF TT cs_spec_someTrace 56 an_spec_someTrace Try.f94 [1, 1, 1, 0, 1, 0, 0]) nm0_spec_someTrace (kt0_spec_someTrace (fin_spec_someTrace r0b r0p kk)) n (can0_spec_someTrace one10 xn5 xb100000c0 xb100000c1 xout3)) = L0_spec_someTrace one10 (fun r0 r1 r2 => kk (.one (.c (.ro .int r0))) [.ptr [.ro .u8 r1, .v (.int .i64 r2)]]) n := by
      funext xn5 xb100000c0 xb100000c1 xout3; exact ih xn5 xb100000c0 xb100000c1 xout3
    rw [hb]
    rfl
theorem g_spec_someTrace (r0b : List Int) (r0p : Int) (kk : AV → List A1 → Prop) :
    ev TT cs_spec_someTrace 56 an_spec_someTrace (Try.f94.body.getD .skip) (st0 con_spec_someTrace [.ptr [.ro .u8 r0b, .v (.int .i64 r0p)]]) (fin TT con_spec_someTrace Try.f94.results.toList [.c (.sl .int)] [.ptr [.ro .u8 r0b, .v (.int .i64 r0p)]] kk) = G_spec_someTrace r0b r0p (fun one10 xn5 xb100000c0 xb100000c1 xout3 => ∃ j, iter (evF TT cs_spec_someTrace 56 an_spec_someTrace Try.f94 [1, 1, 1, 0, 1, 0, 0]) nm0_spec_someTrace (kt0_spec_someTrace (fin_spec_someTrace r0b r0p kk)) j (can0_spec_someTrace one10 xn5 xb100000c0 xb100000c1 xout3)) := by kernel_rfl
theorem e_spec_someTrace (r0b : List Int) (r0p : Int) (kk : AV → List A1 → Prop) :
    ev TT cs_spec_someTrace 56 an_spec_someTrace (Try.f94.body.getD .skip) (st0 con_spec_someTrace [.ptr [.ro .u8 r0b, .v (.int .i64 r0p)]]) (fin TT con_spec_someTrace Try.f94.results.toList [.c (.sl .int)] [.ptr [.ro .u8 r0b, .v (.int .i64 r0p)]] kk) = S_spec_someTrace r0b r0p (fun r0 r1 r2 => kk (.one (.c (.ro .int r0))) [.ptr [.ro .u8 r1, .v (.int .i64 r2)]]) := by
  rw [g_spec_someTrace]
  have hi0 : (fun one10 xn5 xb100000c0 xb100000c1 xout3 => ∃ j, iter (evF TT cs_spec_someTrace 56 an_spec_someTrace Try.f94 [1, 1, 1, 0, 1, 0, 0]) nm0_spec_someTrace (kt0_spec_someTrace (fin_spec_someTrace r0b r0p kk)) j (can0_spec_someTrace one10 xn5 xb100000c0 xb100000c1 xout3)) = (fun one10 xn5 xb100000c0 xb100000c1 xout3 => ∃ j, L0_spec_someTrace one10 (fun r0 r1 r2 => kk (.one (.c (.ro .int r0))) [.ptr [.ro .u8 r1, .v (.int .i64 r2)]]) j xn5 xb100000c0 xb100000c1 xout3) := by
    funext one10 xn5 xb100000c0 xb100000c1 xout3
    refine congrArg Exists (funext fun j => ?_)
    rw [l0_spec_someTrace r0b r0p one10 kk j xn5 xb100000c0 xb100000c1 xout3]
  rw [hi0]
  rfl
theorem clok_spec_someTrace : ConOK Try.prog cl_spec_someTrace := consCons h_spec_reader_one ⟨Try.f49, Try.func49, by kernel_rfl, ne_of_beq (by kernel_rfl)⟩ (consCons h_spec_reader_pick ⟨Try.f89, Try.func89, by kernel_rfl, ne_of_beq (by kernel_rfl)⟩ (consCons h_spec_reader_spoil ⟨Try.f106, Try.func106, by kernel_rfl, ne_of_beq (by kernel_rfl)⟩ (consNil)))
theorem cok_spec_someTrace : ConsOK Try.prog 56 cs_spec_someTrace := ⟨clok_spec_someTrace, inlNil, ovNil⟩
theorem i_spec_someTrace {vs : List A1} {kk : AV → List A1 → Prop} {motive : List A1 → Prop} (h : con_spec_someTrace.F vs kk) (H : ∀ (r0b : List Int) (r0p : Int), F_spec_someTrace r0b r0p (fun r0 r1 r2 => kk (.one (.c (.ro .int r0))) [.ptr [.ro .u8 r1, .v (.int .i64 r2)]]) → motive [.ptr [.ro .u8 r0b, .v (.int .i64 r0p)]]) : motive vs := by
  unfold con_spec_someTrace at h
  dsimp only at h
  split at h
  · exact H _ _ h
  · exact h.elim
theorem h_spec_someTrace : Holds Try.prog 94 con_spec_someTrace := by
  refine holds_of_ev (rt := [.c (.sl .int)]) (T := TT) (Γ := cs_spec_someTrace) (an := an_spec_someTrace) (N := 56) (c := Try.f94.body.getD .skip) Try.func94 (by kernel_rfl) Try.ntmps94 (by decide) (by decide) mixed tabOK cok_spec_someTrace (by kernel_rfl) ?_
  intro vs kk _ hF
  exact i_spec_someTrace (motive := fun vs => Goes (ev TT cs_spec_someTrace 56 an_spec_someTrace (Try.f94.body.getD .skip) (st0 con_spec_someTrace vs) (fin TT con_spec_someTrace Try.f94.results.toList [.c (.sl .int)] vs kk))) hF (fun r0b r0p hF => goes_of (e_spec_someTrace r0b r0p kk) (F_spec_someTrace_S hF))
def con_spec_someRoom : Con := ⟨[.mu], true, [.ptr [.sl .u8, .sc]], fun vs k => match vs with
    | [.ptr [.ro .u8 r0b, .v (.int .i64 r0p)]] => F_spec_someRoom r0b r0p (fun r0 r1 r2 => k (.one (.c (.v (.int .i64 r0)))) [.ptr [.ro .u8 r1, .v (.int .i64 r2)]])
    | _ => False, false⟩
def cl_spec_someRoom : List (FuncId × Con) := [(49, con_spec_reader_one)]
def an_spec_someRoom : Ann := ⟨[], [], [], []⟩
def cs_spec_someRoom : Cons := ⟨cl_spec_someRoom, [], 0, [], [], []⟩
def fin_spec_someRoom (r0b : List Int) (r0p : Int) (kk : AV → List A1 → Prop) : Kt := fin TT con_spec_someRoom Try.f95.results.toList [.c .sc] [.ptr [.ro .u8 r0b, .v (.int .i64 r0p)]] kk
theorem g_spec_someRoom (r0b : List Int) (r0p : Int) (kk : AV → List A1 → Prop) :
    ev TT cs_spec_someRoom 6 an_spec_someRoom (Try.f95.body.getD .skip) (st0 con_spec_someRoom [.ptr [.ro .u8 r0b, .v (.int .i64 r0p)]]) (fin TT con_spec_someRoom Try.f95.results.toList [.c .sc] [.ptr [.ro .u8 r0b, .v (.int .i64 r0p)]] kk) = G_spec_someRoom r0b r0p (fun r0 r1 r2 => kk (.one (.c (.v (.int .i64 r0)))) [.ptr [.ro .u8 r1, .v (.int .i64 r2)]]) := by kernel_rfl
theorem e_spec_someRoom (r0b : List Int) (r0p : Int) (kk : AV → List A1 → Prop) :
    ev TT cs_spec_someRoom 6 an_spec_someRoom (Try.f95.body.getD .skip) (st0 con_spec_someRoom [.ptr [.ro .u8 r0b, .v (.int .i64 r0p)]]) (fin TT con_spec_someRoom Try.f95.results.toList [.c .sc] [.ptr [.ro .u8 r0b, .v (.int .i64 r0p)]] kk) = S_spec_someRoom r0b r0p (fun r0 r1 r2 => kk (.one (.c (.v (.int .i64 r0)))) [.ptr [.ro .u8 r1, .v (.int .i64 r2)]]) := by
  rw [g_spec_someRoom]
  rfl
theorem clok_spec_someRoom : ConOK Try.prog cl_spec_someRoom := consCons h_spec_reader_one ⟨Try.f49, Try.func49, by kernel_rfl, ne_of_beq (by kernel_rfl)⟩ (consNil)
theorem cok_spec_someRoom : ConsOK Try.prog 6 cs_spec_someRoom := ⟨clok_spec_someRoom, inlNil, ovNil⟩
theorem i_spec_someRoom {vs : List A1} {kk : AV → List A1 → Prop} {motive : List A1 → Prop} (h : con_spec_someRoom.F vs kk) (H : ∀ (r0b : List Int) (r0p : Int), F_spec_someRoom r0b r0p (fun r0 r1 r2 => kk (.one (.c (.v (.int .i64 r0)))) [.ptr [.ro .u8 r1, .v (.int .i64 r2)]]) → motive [.ptr [.ro .u8 r0b, .v (.int .i64 r0p)]]) : motive vs := by
  unfold con_spec_someRoom at h
  dsimp only at h
  split at h
  · exact H _ _ h
  · exact h.elim
theorem h_spec_someRoom : Holds Try.prog 95 con_spec_someRoom := by
  refine holds_of_ev (rt := [.c .sc]) (T := TT) (Γ := cs_spec_someRoom) (an := an_spec_someRoom) (N := 6) (c := Try.f95.body.getD .skip) Try.func95 (by kernel_rfl) Try.ntmps95 (by decide) (by decide) mixed tabOK cok_spec_someRoom (by kernel_rfl) ?_
  intro vs kk _ hF
  exact i_spec_someRoom (motive := fun vs => Goes (ev TT cs_spec_someRoom 6 an_spec_someRoom (Try.f95.body.getD .skip) (st0 con_spec_someRoom vs) (fin TT con_spec_someRoom Try.f95.results.toList [.c .sc] vs kk))) hF (fun r0b r0p hF => goes_of (e_spec_someRoom r0b r0p kk) (F_spec_someRoom_S hF))
def con_spec_DrawRunRecent : Con := ⟨[.rd], true, [.c (.sl .u8)], fun vs k => match vs with
    | [.c (.ro .u8 code0)] => F_spec_DrawRunRecent code0 (fun r0 r1 => k (.tup [.c (.ro .int r0), .c (.v (.int .i64 r1))]) [])
    | _ => False, false⟩
def cl_spec_DrawRunRecent : List (FuncId × Con) := [(46, con_spec_newReader), (94, con_spec_someTrace), (95, con_spec_someRoom)]
def an_spec_DrawRunRecent : Ann := ⟨[], [], [], []⟩
def cs_spec_DrawRunRecent : Cons := ⟨cl_spec_DrawRunRecent, [], 0, [], [], []⟩
def fin_spec_DrawRunRecent (code0 : List Int) (kk : AV → List A1 → Prop) : Kt := fin TT con_spec_DrawRunRecent Try.f64.results.toList [.c (.sl .int), .c .sc] [.c (.ro .u8 code0)] kk
theorem g_spec_DrawRunRecent (code0 : List Int) (kk : AV → List A1 → Prop) :
    ev TT cs_spec_DrawRunRecent 13 an_spec_DrawRunRecent (Try.f64.body.getD .skip) (st0 con_spec_DrawRunRecent [.c (.ro .u8 code0)]) (fin TT con_spec_DrawRunRecent Try.f64.results.toList [.c (.sl .int), .c .sc] [.c (.ro .u8 code0)] kk) = G_spec_DrawRunRecent code0 (fun r0 r1 => kk (.tup [.c (.ro .int r0), .c (.v (.int .i64 r1))]) []) := by kernel_rfl
theorem e_spec_DrawRunRecent (code0 : List Int) (kk : AV → List A1 → Prop) :
    ev TT cs_spec_DrawRunRecent 13 an_spec_DrawRunRecent (Try.f64.body.getD .skip) (st0 con_spec_DrawRunRecent [.c (.ro .u8 code0)]) (fin TT con_spec_DrawRunRecent Try.f64.results.toList [.c (.sl .int), .c .sc] [.c (.ro .u8 code0)] kk) = S_spec_DrawRunRecent code0 (fun r0 r1 => kk (.tup [.c (.ro .int r0), .c (.v (.int .i64 r1))]) []) := by
  rw [g_spec_DrawRunRecent]
  rfl
theorem clok_spec_DrawRunRecent : ConOK Try.prog cl_spec_DrawRunRecent := consCons h_spec_newReader ⟨Try.f46, Try.func46, by kernel_rfl, ne_of_beq (by kernel_rfl)⟩ (consCons h_spec_someTrace ⟨Try.f94, Try.func94, by kernel_rfl, ne_of_beq (by kernel_rfl)⟩ (consCons h_spec_someRoom ⟨Try.f95, Try.func95, by kernel_rfl, ne_of_beq (by kernel_rfl)⟩ (consNil)))
theorem cok_spec_DrawRunRecent : ConsOK Try.prog 13 cs_spec_DrawRunRecent := ⟨clok_spec_DrawRunRecent, inlNil, ovNil⟩
theorem i_spec_DrawRunRecent {vs : List A1} {kk : AV → List A1 → Prop} {motive : List A1 → Prop} (h : con_spec_DrawRunRecent.F vs kk) (H : ∀ (code0 : List Int), F_spec_DrawRunRecent code0 (fun r0 r1 => kk (.tup [.c (.ro .int r0), .c (.v (.int .i64 r1))]) []) → motive [.c (.ro .u8 code0)]) : motive vs := by
  unfold con_spec_DrawRunRecent at h
  dsimp only at h
  split at h
  · exact H _ h
  · exact h.elim
theorem h_spec_DrawRunRecent : Holds Try.prog 64 con_spec_DrawRunRecent := by
  refine holds_of_ev (rt := [.c (.sl .int), .c .sc]) (T := TT) (Γ := cs_spec_DrawRunRecent) (an := an_spec_DrawRunRecent) (N := 13) (c := Try.f64.body.getD .skip) Try.func64 (by kernel_rfl) Try.ntmps64 (by decide) (by decide) mixed tabOK cok_spec_DrawRunRecent (by kernel_rfl) ?_
  intro vs kk _ hF
  exact i_spec_DrawRunRecent (motive := fun vs => Goes (ev TT cs_spec_DrawRunRecent 13 an_spec_DrawRunRecent (Try.f64.body.getD .skip) (st0 con_spec_DrawRunRecent vs) (fin TT con_spec_DrawRunRecent Try.f64.results.toList [.c (.sl .int), .c .sc] vs kk))) hF (fun code0 hF => goes_of (e_spec_DrawRunRecent code0 kk) (F_spec_DrawRunRecent_S hF))
def con_spec_DrawBestSplit : Con := ⟨[.rd], true, [.c (.sl .u8)], fun vs k => match vs with
    | [.c (.ro .u8 code0)] => F_spec_DrawBestSplit code0 (fun r0 r1 => k (.tup [.c (.ro .int r0), .c (.v (.int .i64 r1))]) [])
    | _ => False, false⟩
def cl_spec_DrawBestSplit : List (FuncId × Con) := [(64, con_spec_DrawRunRecent)]
def an_spec_DrawBestSplit : Ann := ⟨[], [], [], []⟩
def cs_spec_DrawBestSplit : Cons := ⟨cl_spec_DrawBestSplit, [], 0, [], [], []⟩
def fin_spec_DrawBestSplit (code0 : List Int) (kk : AV → List A1 → Prop) : Kt := fin TT con_spec_DrawBestSplit Try.f23.results.toList [.c (.sl .int), .c .sc] [.c (.ro .u8 code0)] kk
theorem g_spec_DrawBestSplit (code0 : List Int) (kk : AV → List A1 → Prop) :
    ev TT cs_spec_DrawBestSplit 8 an_spec_DrawBestSplit (Try.f23.body.getD .skip) (st0 con_spec_DrawBestSplit [.c (.ro .u8 code0)]) (fin TT con_spec_DrawBestSplit Try.f23.results.toList [.c (.sl .int), .c .sc] [.c (.ro .u8 code0)] kk) = G_spec_DrawBestSplit code0 (fun r0 r1 => kk (.tup [.c (.ro .int r0), .c (.v (.int .i64 r1))]) []) := by kernel_rfl
theorem e_spec_DrawBestSplit (code0 : List Int) (kk : AV → List A1 → Prop) :
    ev TT cs_spec_DrawBestSplit 8 an_spec_DrawBestSplit (Try.f23.body.getD .skip) (st0 con_spec_DrawBestSplit [.c (.ro .u8 code0)]) (fin TT con_spec_DrawBestSplit Try.f23.results.toList [.c (.sl .int), .c .sc] [.c (.ro .u8 code0)] kk) = S_spec_DrawBestSplit code0 (fun r0 r1 => kk (.tup [.c (.ro .int r0), .c (.v (.int .i64 r1))]) []) := by
  rw [g_spec_DrawBestSplit]
  rfl
theorem clok_spec_DrawBestSplit : ConOK Try.prog cl_spec_DrawBestSplit := consCons h_spec_DrawRunRecent ⟨Try.f64, Try.func64, by kernel_rfl, ne_of_beq (by kernel_rfl)⟩ (consNil)
theorem cok_spec_DrawBestSplit : ConsOK Try.prog 8 cs_spec_DrawBestSplit := ⟨clok_spec_DrawBestSplit, inlNil, ovNil⟩
theorem i_spec_DrawBestSplit {vs : List A1} {kk : AV → List A1 → Prop} {motive : List A1 → Prop} (h : con_spec_DrawBestSplit.F vs kk) (H : ∀ (code0 : List Int), F_spec_DrawBestSplit code0 (fun r0 r1 => kk (.tup [.c (.ro .int r0), .c (.v (.int .i64 r1))]) []) → motive [.c (.ro .u8 code0)]) : motive vs := by
  unfold con_spec_DrawBestSplit at h
  dsimp only at h
  split at h
  · exact H _ h
  · exact h.elim
theorem h_spec_DrawBestSplit : Holds Try.prog 23 con_spec_DrawBestSplit := by
  refine holds_of_ev (rt := [.c (.sl .int), .c .sc]) (T := TT) (Γ := cs_spec_DrawBestSplit) (an := an_spec_DrawBestSplit) (N := 8) (c := Try.f23.body.getD .skip) Try.func23 (by kernel_rfl) Try.ntmps23 (by decide) (by decide) mixed tabOK cok_spec_DrawBestSplit (by kernel_rfl) ?_
  intro vs kk _ hF
  exact i_spec_DrawBestSplit (motive := fun vs => Goes (ev TT cs_spec_DrawBestSplit 8 an_spec_DrawBestSplit (Try.f23.body.getD .skip) (st0 con_spec_DrawBestSplit vs) (fin TT con_spec_DrawBestSplit Try.f23.results.toList [.c (.sl .int), .c .sc] vs kk))) hF (fun code0 hF => goes_of (e_spec_DrawBestSplit code0 kk) (F_spec_DrawBestSplit_S hF))
def con_impl_validKey : Con := ⟨[.rd], true, [.c (.sc)], fun vs k => match vs with
    | [.c (.v (.int .i64 key0))] => F_impl_validKey key0 (fun r0 => k (.one (.c (.v (.bool r0)))) [])
    | _ => False, false⟩
def cl_impl_validKey : List (FuncId × Con) := []
def an_impl_validKey : Ann := ⟨[], [], [], []⟩
def cs_impl_validKey : Cons := ⟨cl_impl_validKey, [], 0, [], [], []⟩
def fin_impl_validKey (key0 : Int) (kk : AV → List A1 → Prop) : Kt := fin TT con_impl_validKey Try.f50.results.toList [.c .sc] [.c (.v (.int .i64 key0))] kk
theorem g_impl_validKey (key0 : Int) (kk : AV → List A1 → Prop) :
    ev TT cs_impl_validKey 9 an_impl_validKey (Try.f50.body.getD .skip) (st0 con_impl_validKey [.c (.v (.int .i64 key0))]) (fin TT con_impl_validKey Try.f50.results.toList [.c .sc] [.c (.v (.int .i64 key0))] kk) = G_impl_validKey key0 (fun r0 => kk (.one (.c (.v (.bool r0)))) []) := by kernel_rfl
theorem e_impl_validKey (key0 : Int) (kk : AV → List A1 → Prop) :
    ev TT cs_impl_validKey 9 an_impl_validKey (Try.f50.body.getD .skip) (st0 con_impl_validKey [.c (.v (.int .i64 key0))]) (fin TT con_impl_validKey Try.f50.results.toList [.c .sc] [.c (.v (.int .i64 key0))] kk) = S_impl_validKey key0 (fun r0 => kk (.one (.c (.v (.bool r0)))) []) := by
  rw [g_impl_validKey]
  rfl
theorem clok_impl_validKey : ConOK Try.prog cl_impl_validKey := consNil
theorem cok_impl_validKey : ConsOK Try.prog 9 cs_impl_validKey := ⟨clok_impl_validKey, inlNil, ovNil⟩
theorem i_impl_validKey {vs : List A1} {kk : AV → List A1 → Prop} {motive : List A1 → Prop} (h : con_impl_validKey.F vs kk) (H : ∀ (key0 : Int), F_impl_validKey key0 (fun r0 => kk (.one (.c (.v (.bool r0)))) []) → motive [.c (.v (.int .i64 key0))]) : motive vs := by
  unfold con_impl_validKey at h
  dsimp only at h
  split at h
  · exact H _ h
  · exact h.elim
theorem h_impl_validKey : Holds Try.prog 50 con_impl_validKey := by
  refine holds_of_ev (rt := [.c .sc]) (T := TT) (Γ := cs_impl_validKey) (an := an_impl_validKey) (N := 9) (c := Try.f50.body.getD .skip) Try.func50 (by kernel_rfl) Try.ntmps50 (by decide) (by decide) mixed tabOK cok_impl_validKey (by kernel_rfl) ?_
  intro vs kk _ hF
  exact i_impl_validKey (motive := fun vs => Goes (ev TT cs_impl_validKey 9 an_impl_validKey (Try.f50.body.getD .skip) (st0 con_impl_validKey vs) (fin TT con_impl_validKey Try.f50.results.toList [.c .sc] vs kk))) hF (fun key0 hF => goes_of (e_impl_validKey key0 kk) (F_impl_validKey_S hF))
def con_impl_ValidTrace : Con := ⟨[.rd], true, [.c (.sl .int)], fun vs k => match vs with
    | [.c (.ro .int t0)] => F_impl_ValidTrace t0 (fun r0 => k (.one (.c (.v (.bool r0)))) [])
    | _ => False, false⟩
def cl_impl_ValidTrace : List (FuncId × Con) := [(50, con_impl_validKey)]
def nm0_impl_ValidTrace : List NStep := [.keep [8, 9, 10] []]
def an_impl_ValidTrace : Ann := ⟨[], [(4, nm0_impl_ValidTrace)], [], []⟩
def cs_impl_ValidTrace : Cons := ⟨cl_impl_ValidTrace, [], 0, [], [], []⟩
def can0_impl_ValidTrace (t0 : List Int) (xt9 : Int) (xt10 : Int) : St := ⟨[(8, .one (.c (.ro .int t0))), (9, .one (.c (.v (.int .i64 xt9)))), (10, .one (.c (.v (.int .i64 xt10))))], []⟩
def fin_impl_ValidTrace (t0 : List Int) (kk : AV → List A1 → Prop) : Kt := fin TT con_impl_ValidTrace Try.f65.results.toList [.c .sc] [.c (.ro .int t0)] kk
def kt0_impl_ValidTrace (kf : Kt) : Kt := blockK 0 (seqK (evF TT cs_impl_ValidTrace 18 an_impl_ValidTrace Try.f65 [1, 1, 1]) (kf))
theorem r0_impl_ValidTrace (t0 : List Int) (xt9 : Int) (kk : AV → List A1 → Prop) (n : Nat) (xt10 : Int) :
    iter (evF TT cs_impl_ValidTrace 18 an_impl_ValidTrace Try.f65 [1, 1, 0, 1, 0, 0]) nm0_impl_ValidTrace (kt0_impl_ValidTrace (fin_impl_ValidTrace t0 kk)) (n + 1) (can0_impl_ValidTrace t0 xt9 xt10) = T0_impl_ValidTrace t0 xt9 xt10 (fun r0 => kk (.one (.c (.v (.bool r0)))) []) (fun xt10 => iter (evF TT cs_impl_ValidTrace 18 an_impl_ValidTrace Try.f65 [1, 1, 0, 1, 0, 0]) nm0_impl_ValidTrace (kt0_impl_ValidTrace (fin_impl_ValidTrace t0 kk)) n (can0_impl_ValidTrace t0 xt9 xt10)) := by kernel_rfl
theorem l0_impl_ValidTrace (t0 : List Int) (xt9 : Int) (kk : AV → List A1 → Prop) : ∀ (n : Nat) (xt10 : Int), iter (evF TT cs_impl_ValidTrace 18 an_impl_ValidTrace Try.f65 [1, 1, 0, 1, 0, 0]) nm0_impl_ValidTrace (kt0_impl_ValidTrace (fin_impl_ValidTrace t0 kk)) n (can0_impl_ValidTrace t0 xt9 xt10) = L0_impl_ValidTrace t0 xt9 (fun r0 => kk (.one (.c (.v (.bool r0)))) []) n xt10 := by
  intro n
  induction n with
  | zero => intros; rfl
  | succ n ih =>
    intro xt10
    rw [r0_impl_ValidTrace t0 xt9 kk n xt10]
    have hb : (fun xt10 => iter (evF TT cs_impl_ValidTrace 18 an_impl_ValidTrace Try.f65 [1, 1, 0, 1, 0, 0]) nm0_impl_ValidTrace (kt0_impl_ValidTrace (fin_impl_ValidTrace t0 kk)) n (can0_impl_ValidTrace t0 xt9 xt10)) = L0_impl_ValidTrace t0 xt9 (fun r0 => kk (.one (.c (.v (.bool r0)))) []) n := by
      funext xt10; exact ih xt10
    rw [hb]
    rfl
theorem g_impl_ValidTrace (t0 : List Int) (kk : AV → List A1 → Prop) :
    ev TT cs_impl_ValidTrace 18 an_impl_ValidTrace (Try.f65.body.getD .skip) (st0 con_impl_ValidTrace [.c (.ro .int t0)]) (fin TT con_impl_ValidTrace Try.f65.results.toList [.c .sc] [.c (.ro .int t0)] kk) = G_impl_ValidTrace t0 (fun r0 => kk (.one (.c (.v (.bool r0)))) []) (fun t0 xt9 xt10 => ∃ j, iter (evF TT cs_impl_ValidTrace 18 an_impl_ValidTrace Try.f65 [1, 1, 0, 1, 0, 0]) nm0_impl_ValidTrace (kt0_impl_ValidTrace (fin_impl_ValidTrace t0 kk)) j (can0_impl_ValidTrace t0 xt9 xt10)) := by kernel_rfl
theorem e_impl_ValidTrace (t0 : List Int) (kk : AV → List A1 → Prop) :
    ev TT cs_impl_ValidTrace 18 an_impl_ValidTrace (Try.f65.body.getD .skip) (st0 con_impl_ValidTrace [.c (.ro .int t0)]) (fin TT con_impl_ValidTrace Try.f65.results.toList [.c .sc] [.c (.ro .int t0)] kk) = S_impl_ValidTrace t0 (fun r0 => kk (.one (.c (.v (.bool r0)))) []) := by
  rw [g_impl_ValidTrace]
  have hi0 : (fun t0 xt9 xt10 => ∃ j, iter (evF TT cs_impl_ValidTrace 18 an_impl_ValidTrace Try.f65 [1, 1, 0, 1, 0, 0]) nm0_impl_ValidTrace (kt0_impl_ValidTrace (fin_impl_ValidTrace t0 kk)) j (can0_impl_ValidTrace t0 xt9 xt10)) = (fun t0 xt9 xt10 => ∃ j, L0_impl_ValidTrace t0 xt9 (fun r0 => kk (.one (.c (.v (.bool r0)))) []) j xt10) := by
    funext t0 xt9 xt10
    refine congrArg Exists (funext fun j => ?_)
    rw [l0_impl_ValidTrace t0 xt9 kk j xt10]
  rw [hi0]
  rfl
theorem clok_impl_ValidTrace : ConOK Try.prog cl_impl_ValidTrace := consCons h_impl_validKey ⟨Try.f50, Try.func50, by kernel_rfl, ne_of_beq (by kernel_rfl)⟩ (consNil)
theorem cok_impl_ValidTrace : ConsOK Try.prog 18 cs_impl_ValidTrace := ⟨clok_impl_ValidTrace, inlNil, ovNil⟩
theorem i_impl_ValidTrace {vs : List A1} {kk : AV → List A1 → Prop} {motive : List A1 → Prop} (h : con_impl_ValidTrace.F vs kk) (H : ∀ (t0 : List Int), F_impl_ValidTrace t0 (fun r0 => kk (.one (.c (.v (.bool r0)))) []) → motive [.c (.ro .int t0)]) : motive vs := by
  unfold con_impl_ValidTrace at h
  dsimp only at h
  split at h
  · exact H _ h
  · exact h.elim
theorem h_impl_ValidTrace : Holds Try.prog 65 con_impl_ValidTrace := by
  refine holds_of_ev (rt := [.c .sc]) (T := TT) (Γ := cs_impl_ValidTrace) (an := an_impl_ValidTrace) (N := 18) (c := Try.f65.body.getD .skip) Try.func65 (by kernel_rfl) Try.ntmps65 (by decide) (by decide) mixed tabOK cok_impl_ValidTrace (by kernel_rfl) ?_
  intro vs kk _ hF
  exact i_impl_ValidTrace (motive := fun vs => Goes (ev TT cs_impl_ValidTrace 18 an_impl_ValidTrace (Try.f65.body.getD .skip) (st0 con_impl_ValidTrace vs) (fin TT con_impl_ValidTrace Try.f65.results.toList [.c .sc] vs kk))) hF (fun t0 hF => goes_of (e_impl_ValidTrace t0 kk) (F_impl_ValidTrace_S hF))
def con_impl_validRoom : Con := ⟨[.rd], true, [.c (.sc)], fun vs k => match vs with
    | [.c (.v (.int .i64 room0))] => F_impl_validRoom room0 (fun r0 => k (.one (.c (.v (.bool r0)))) [])
    | _ => False, false⟩
def cl_impl_validRoom : List (FuncId × Con) := []
def an_impl_validRoom : Ann := ⟨[], [], [], []⟩
def cs_impl_validRoom : Cons := ⟨cl_impl_validRoom, [], 0, [], [], []⟩
def fin_impl_validRoom (room0 : Int) (kk : AV → List A1 → Prop) : Kt := fin TT con_impl_validRoom Try.f66.results.toList [.c .sc] [.c (.v (.int .i64 room0))] kk
theorem g_impl_validRoom (room0 : Int) (kk : AV → List A1 → Prop) :
    ev TT cs_impl_validRoom 9 an_impl_validRoom (Try.f66.body.getD .skip) (st0 con_impl_validRoom [.c (.v (.int .i64 room0))]) (fin TT con_impl_validRoom Try.f66.results.toList [.c .sc] [.c (.v (.int .i64 room0))] kk) = G_impl_validRoom room0 (fun r0 => kk (.one (.c (.v (.bool r0)))) []) := by kernel_rfl
theorem e_impl_validRoom (room0 : Int) (kk : AV → List A1 → Prop) :
    ev TT cs_impl_validRoom 9 an_impl_validRoom (Try.f66.body.getD .skip) (st0 con_impl_validRoom [.c (.v (.int .i64 room0))]) (fin TT con_impl_validRoom Try.f66.results.toList [.c .sc] [.c (.v (.int .i64 room0))] kk) = S_impl_validRoom room0 (fun r0 => kk (.one (.c (.v (.bool r0)))) []) := by
  rw [g_impl_validRoom]
  rfl
theorem clok_impl_validRoom : ConOK Try.prog cl_impl_validRoom := consNil
theorem cok_impl_validRoom : ConsOK Try.prog 9 cs_impl_validRoom := ⟨clok_impl_validRoom, inlNil, ovNil⟩
theorem i_impl_validRoom {vs : List A1} {kk : AV → List A1 → Prop} {motive : List A1 → Prop} (h : con_impl_validRoom.F vs kk) (H : ∀ (room0 : Int), F_impl_validRoom room0 (fun r0 => kk (.one (.c (.v (.bool r0)))) []) → motive [.c (.v (.int .i64 room0))]) : motive vs := by
  unfold con_impl_validRoom at h
  dsimp only at h
  split at h
  · exact H _ h
  · exact h.elim
theorem h_impl_validRoom : Holds Try.prog 66 con_impl_validRoom := by
  refine holds_of_ev (rt := [.c .sc]) (T := TT) (Γ := cs_impl_validRoom) (an := an_impl_validRoom) (N := 9) (c := Try.f66.body.getD .skip) Try.func66 (by kernel_rfl) Try.ntmps66 (by decide) (by decide) mixed tabOK cok_impl_validRoom (by kernel_rfl) ?_
  intro vs kk _ hF
  exact i_impl_validRoom (motive := fun vs => Goes (ev TT cs_impl_validRoom 9 an_impl_validRoom (Try.f66.body.getD .skip) (st0 con_impl_validRoom vs) (fin TT con_impl_validRoom Try.f66.results.toList [.c .sc] vs kk))) hF (fun room0 hF => goes_of (e_impl_validRoom room0 kk) (F_impl_validRoom_S hF))
def con_slices_Index_sint_int : Con := ⟨[.rd, .rd], true, [.c (.sl .int), .c (.sc)], fun vs k => match vs with
    | [.c (.ro .int s0), .c (.v (.int .i64 v1))] => F_slices_Index_sint_int s0 v1 (fun r0 => k (.one (.c (.v (.int .i64 r0)))) [])
    | _ => False, false⟩
def cl_slices_Index_sint_int : List (FuncId × Con) := []
def nm0_slices_Index_sint_int : List NStep := [.keep [0, 1, 7, 8] []]
def an_slices_Index_sint_int : Ann := ⟨[], [(2, nm0_slices_Index_sint_int)], [], []⟩
def cs_slices_Index_sint_int : Cons := ⟨cl_slices_Index_sint_int, [], 0, [], [], []⟩
def can0_slices_Index_sint_int (s0 : List Int) (v1 : Int) (xt7 : Int) (xt8 : Int) : St := ⟨[(0, .one (.c (.ro .int s0))), (1, .one (.c (.v (.int .i64 v1)))), (7, .one (.c (.v (.int .i64 xt7)))), (8, .one (.c (.v (.int .i64 xt8))))], []⟩
def fin_slices_Index_sint_int (s0 : List Int) (v1 : Int) (kk : AV → List A1 → Prop) : Kt := fin TT con_slices_Index_sint_int Try.f100.results.toList [.c .sc] [.c (.ro .int s0), .c (.v (.int .i64 v1))] kk
def kt0_slices_Index_sint_int (kf : Kt) : Kt := blockK 0 (seqK (evF TT cs_slices_Index_sint_int 19 an_slices_Index_sint_int Try.f100 [1, 1]) (kf))
theorem r0_slices_Index_sint_int (s0 : List Int) (v1 : Int) (xt7 : Int) (kk : AV → List A1 → Prop) (n : Nat) (xt8 : Int) :
    iter (evF TT cs_slices_Index_sint_int 19 an_slices_Index_sint_int Try.f100 [1, 0, 1, 0, 0]) nm0_slices_Index_sint_int (kt0_slices_Index_sint_int (fin_slices_Index_sint_int s0 v1 kk)) (n + 1) (can0_slices_Index_sint_int s0 v1 xt7 xt8) = T0_slices_Index_sint_int s0 v1 xt7 xt8 (fun r0 => kk (.one (.c (.v (.int .i64 r0)))) []) (fun xt8 => iter (evF TT cs_slices_Index_sint_int 19 an_slices_Index_sint_int Try.f100 [1, 0, 1, 0, 0]) nm0_slices_Index_sint_int (kt0_slices_Index_sint_int (fin_slices_Index_sint_int s0 v1 kk)) n (can0_slices_Index_sint_int s0 v1 xt7 xt8)) := by kernel_rfl
theorem l0_slices_Index_sint_int (s0 : List Int) (v1 : Int) (xt7 : Int) (kk : AV → List A1 → Prop) : ∀ (n : Nat) (xt8 : Int), iter (evF TT cs_slices_Index_sint_int 19 an_slices_Index_sint_int Try.f100 [1, 0, 1, 0, 0]) nm0_slices_Index_sint_int (kt0_slices_Index_sint_int (fin_slices_Index_sint_int s0 v1 kk)) n (can0_slices_Index_sint_int s0 v1 xt7 xt8) = L0_slices_Index_sint_int s0 v1 xt7 (fun r0 => kk (.one (.c (.v (.int .i64 r0)))) []) n xt8 := by
  intro n
  induction n with
  | zero => intros; rfl
  | succ n ih =>
    intro xt8
    rw [r0_slices_Index_sint_int s0 v1 xt7 kk n xt8]
    have hb : (fun xt8 => iter (evF TT cs_slices_Index_sint_int 19 an_slices_Index_sint_int Try.f100 [1, 0, 1, 0, 0]) nm0_slices_Index_sint_int (kt0_slices_Index_sint_int (fin_slices_Index_sint_int s0 v1 kk)) n (can0_slices_Index_sint_int s0 v1 xt7 xt8)) = L0_slices_Index_sint_int s0 v1 xt7 (fun r0 => kk (.one (.c (.v (.int .i64 r0)))) []) n := by
      funext xt8; exact ih xt8
    rw [hb]
    rfl
theorem g_slices_Index_sint_int (s0 : List Int) (v1 : Int) (kk : AV → List A1 → Prop) :
    ev TT cs_slices_Index_sint_int 19 an_slices_Index_sint_int (Try.f100.body.getD .skip) (st0 con_slices_Index_sint_int [.c (.ro .int s0), .c (.v (.int .i64 v1))]) (fin TT con_slices_Index_sint_int Try.f100.results.toList [.c .sc] [.c (.ro .int s0), .c (.v (.int .i64 v1))] kk) = G_slices_Index_sint_int s0 v1 (fun s0 v1 xt7 xt8 => ∃ j, iter (evF TT cs_slices_Index_sint_int 19 an_slices_Index_sint_int Try.f100 [1, 0, 1, 0, 0]) nm0_slices_Index_sint_int (kt0_slices_Index_sint_int (fin_slices_Index_sint_int s0 v1 kk)) j (can0_slices_Index_sint_int s0 v1 xt7 xt8)) := by kernel_rfl
theorem e_slices_Index_sint_int (s0 : List Int) (v1 : Int) (kk : AV → List A1 → Prop) :
    ev TT cs_slices_Index_sint_int 19 an_slices_Index_sint_int (Try.f100.body.getD .skip) (st0 con_slices_Index_sint_int [.c (.ro .int s0), .c (.v (.int .i64 v1))]) (fin TT con_slices_Index_sint_int Try.f100.results.toList [.c .sc] [.c (.ro .int s0), .c (.v (.int .i64 v1))] kk) = S_slices_Index_sint_int s0 v1 (fun r0 => kk (.one (.c (.v (.int .i64 r0)))) []) := by
  rw [g_slices_Index_sint_int]
  have hi0 : (fun s0 v1 xt7 xt8 => ∃ j, iter (evF TT cs_slices_Index_sint_int 19 an_slices_Index_sint_int Try.f100 [1, 0, 1, 0, 0]) nm0_slices_Index_sint_int (kt0_slices_Index_sint_int (fin_slices_Index_sint_int s0 v1 kk)) j (can0_slices_Index_sint_int s0 v1 xt7 xt8)) = (fun s0 v1 xt7 xt8 => ∃ j, L0_slices_Index_sint_int s0 v1 xt7 (fun r0 => kk (.one (.c (.v (.int .i64 r0)))) []) j xt8) := by
    funext s0 v1 xt7 xt8
    refine congrArg Exists (funext fun j => ?_)
    rw [l0_slices_Index_sint_int s0 v1 xt7 kk j xt8]
  rw [hi0]
  rfl
theorem clok_slices_Index_sint_int : ConOK Try.prog cl_slices_Index_sint_int := consNil
theorem cok_slices_Index_sint_int : ConsOK Try.prog 19 cs_slices_Index_sint_int := ⟨clok_slices_Index_sint_int, inlNil, ovNil⟩
theorem i_slices_Index_sint_int {vs : List A1} {kk : AV → List A1 → Prop} {motive : List A1 → Prop} (h : con_slices_Index_sint_int.F vs kk) (H : ∀ (s0 : List Int) (v1 : Int), F_slices_Index_sint_int s0 v1 (fun r0 => kk (.one (.c (.v (.int .i64 r0)))) []) → motive [.c (.ro .int s0), .c (.v (.int .i64 v1))]) : motive vs := by
  unfold con_slices_Index_sint_int at h
  dsimp only at h
  split at h
  · exact H _ _ h
  · exact h.elim
theorem h_slices_Index_sint_int : Holds Try.prog 100 con_slices_Index_sint_int := by
  refine holds_of_ev (rt := [.c .sc]) (T := TT) (Γ := cs_slices_Index_sint_int) (an := an_slices_Index_sint_int) (N := 19) (c := Try.f100.body.getD .skip) Try.func100 (by kernel_rfl) Try.ntmps100 (by decide) (by decide) mixed tabOK cok_slices_Index_sint_int (by kernel_rfl) ?_
  intro vs kk _ hF
  exact i_slices_Index_sint_int (motive := fun vs => Goes (ev TT cs_slices_Index_sint_int 19 an_slices_Index_sint_int (Try.f100.body.getD .skip) (st0 con_slices_Index_sint_int vs) (fin TT con_slices_Index_sint_int Try.f100.results.toList [.c .sc] vs kk))) hF (fun s0 v1 hF => goes_of (e_slices_Index_sint_int s0 v1 kk) (F_slices_Index_sint_int_S hF))
def con_slices_Contains_sint_int : Con := ⟨[.rd, .rd], true, [.c (.sl .int), .c (.sc)], fun vs k => match vs with
    | [.c (.ro .int s0), .c (.v (.int .i64 v1))] => F_slices_Contains_sint_int s0 v1 (fun r0 => k (.one (.c (.v (.bool r0)))) [])
    | _ => False, false⟩
def cl_slices_Contains_sint_int : List (FuncId × Con) := [(100, con_slices_Index_sint_int)]
def an_slices_Contains_sint_int : Ann := ⟨[], [], [], []⟩
def cs_slices_Contains_sint_int : Cons := ⟨cl_slices_Contains_sint_int, [], 0, [], [], []⟩
def fin_slices_Contains_sint_int (s0 : List Int) (v1 : Int) (kk : AV → List A1 → Prop) : Kt := fin TT con_slices_Contains_sint_int Try.f73.results.toList [.c .sc] [.c (.ro .int s0), .c (.v (.int .i64 v1))] kk
theorem g_slices_Contains_sint_int (s0 : List Int) (v1 : Int) (kk : AV → List A1 → Prop) :
    ev TT cs_slices_Contains_sint_int 9 an_slices_Contains_sint_int (Try.f73.body.getD .skip) (st0 con_slices_Contains_sint_int [.c (.ro .int s0), .c (.v (.int .i64 v1))]) (fin TT con_slices_Contains_sint_int Try.f73.results.toList [.c .sc] [.c (.ro .int s0), .c (.v (.int .i64 v1))] kk) = G_slices_Contains_sint_int s0 v1 (fun r0 => kk (.one (.c (.v (.bool r0)))) []) := by kernel_rfl
theorem e_slices_Contains_sint_int (s0 : List Int) (v1 : Int) (kk : AV → List A1 → Prop) :
    ev TT cs_slices_Contains_sint_int 9 an_slices_Contains_sint_int (Try.f73.body.getD .skip) (st0 con_slices_Contains_sint_int [.c (.ro .int s0), .c (.v (.int .i64 v1))]) (fin TT con_slices_Contains_sint_int Try.f73.results.toList [.c .sc] [.c (.ro .int s0), .c (.v (.int .i64 v1))] kk) = S_slices_Contains_sint_int s0 v1 (fun r0 => kk (.one (.c (.v (.bool r0)))) []) := by
  rw [g_slices_Contains_sint_int]
  rfl
theorem clok_slices_Contains_sint_int : ConOK Try.prog cl_slices_Contains_sint_int := consCons h_slices_Index_sint_int ⟨Try.f100, Try.func100, by kernel_rfl, ne_of_beq (by kernel_rfl)⟩ (consNil)
theorem cok_slices_Contains_sint_int : ConsOK Try.prog 9 cs_slices_Contains_sint_int := ⟨clok_slices_Contains_sint_int, inlNil, ovNil⟩
theorem i_slices_Contains_sint_int {vs : List A1} {kk : AV → List A1 → Prop} {motive : List A1 → Prop} (h : con_slices_Contains_sint_int.F vs kk) (H : ∀ (s0 : List Int) (v1 : Int), F_slices_Contains_sint_int s0 v1 (fun r0 => kk (.one (.c (.v (.bool r0)))) []) → motive [.c (.ro .int s0), .c (.v (.int .i64 v1))]) : motive vs := by
  unfold con_slices_Contains_sint_int at h
  dsimp only at h
  split at h
  · exact H _ _ h
  · exact h.elim
theorem h_slices_Contains_sint_int : Holds Try.prog 73 con_slices_Contains_sint_int := by
  refine holds_of_ev (rt := [.c .sc]) (T := TT) (Γ := cs_slices_Contains_sint_int) (an := an_slices_Contains_sint_int) (N := 9) (c := Try.f73.body.getD .skip) Try.func73 (by kernel_rfl) Try.ntmps73 (by decide) (by decide) mixed tabOK cok_slices_Contains_sint_int (by kernel_rfl) ?_
  intro vs kk _ hF
  exact i_slices_Contains_sint_int (motive := fun vs => Goes (ev TT cs_slices_Contains_sint_int 9 an_slices_Contains_sint_int (Try.f73.body.getD .skip) (st0 con_slices_Contains_sint_int vs) (fin TT con_slices_Contains_sint_int Try.f73.results.toList [.c .sc] vs kk))) hF (fun s0 v1 hF => goes_of (e_slices_Contains_sint_int s0 v1 kk) (F_slices_Contains_sint_int_S hF))
def con_impl_differentKeys : Con := ⟨[.rd], true, [.c (.sl .int)], fun vs k => match vs with
    | [.c (.ro .int list0)] => F_impl_differentKeys list0 (fun r0 => k (.one (.c (.v (.bool r0)))) [])
    | _ => False, false⟩
def cl_impl_differentKeys : List (FuncId × Con) := [(50, con_impl_validKey), (73, con_slices_Contains_sint_int)]
def nm0_impl_differentKeys : List NStep := [.keep [0, 5, 6, 7] []]
def an_impl_differentKeys : Ann := ⟨[], [(2, nm0_impl_differentKeys)], [], []⟩
def cs_impl_differentKeys : Cons := ⟨cl_impl_differentKeys, [], 0, [], [], []⟩
def can0_impl_differentKeys (list0 : List Int) (xt6 : Int) (xt7 : Int) : St := ⟨[(0, .one (.c (.ro .int list0))), (5, .one (.c (.ro .int list0))), (6, .one (.c (.v (.int .i64 xt6)))), (7, .one (.c (.v (.int .i64 xt7))))], []⟩
def fin_impl_differentKeys (list0 : List Int) (kk : AV → List A1 → Prop) : Kt := fin TT con_impl_differentKeys Try.f103.results.toList [.c .sc] [.c (.ro .int list0)] kk
def kt0_impl_differentKeys (kf : Kt) : Kt := blockK 0 (seqK (evF TT cs_impl_differentKeys 23 an_impl_differentKeys Try.f103 [1, 1]) (kf))
theorem r0_impl_differentKeys (list0 : List Int) (xt6 : Int) (kk : AV → List A1 → Prop) (n : Nat) (xt7 : Int) :
    iter (evF TT cs_impl_differentKeys 23 an_impl_differentKeys Try.f103 [1, 0, 1, 0, 0]) nm0_impl_differentKeys (kt0_impl_differentKeys (fin_impl_differentKeys list0 kk)) (n + 1) (can0_impl_differentKeys list0 xt6 xt7) = T0_impl_differentKeys list0 xt6 xt7 (fun r0 => kk (.one (.c (.v (.bool r0)))) []) (fun xt7 => iter (evF TT cs_impl_differentKeys 23 an_impl_differentKeys Try.f103 [1, 0, 1, 0, 0]) nm0_impl_differentKeys (kt0_impl_differentKeys (fin_impl_differentKeys list0 kk)) n (can0_impl_differentKeys list0 xt6 xt7)) := by kernel_rfl
theorem l0_impl_differentKeys (list0 : List Int) (xt6 : Int) (kk : AV → List A1 → Prop) : ∀ (n : Nat) (xt7 : Int), iter (evF TT cs_impl_differentKeys 23 an_impl_differentKeys Try.f103 [1, 0, 1, 0, 0]) nm0_impl_differentKeys (kt0_impl_differentKeys (fin_impl_differentKeys list0 kk)) n (can0_impl_differentKeys list0 xt6 xt7) = L0_impl_differentKeys list0 xt6 (fun r0 => kk (.one (.c (.v (.bool r0)))) []) n xt7 := by
  intro n
  induction n with
  | zero => intros; rfl
  | succ n ih =>
    intro xt7
    rw [r0_impl_differentKeys list0 xt6 kk n xt7]
    have hb : (fun xt7 => iter (evF TT cs_impl_differentKeys 23 an_impl_differentKeys Try.f103 [1, 0, 1, 0, 0]) nm0_impl_differentKeys (kt0_impl_differentKeys (fin_impl_differentKeys list0 kk)) n (can0_impl_differentKeys list0 xt6 xt7)) = L0_impl_differentKeys list0 xt6 (fun r0 => kk (.one (.c (.v (.bool r0)))) []) n := by
      funext xt7; exact ih xt7
    rw [hb]
    rfl
theorem g_impl_differentKeys (list0 : List Int) (kk : AV → List A1 → Prop) :
    ev TT cs_impl_differentKeys 23 an_impl_differentKeys (Try.f103.body.getD .skip) (st0 con_impl_differentKeys [.c (.ro .int list0)]) (fin TT con_impl_differentKeys Try.f103.results.toList [.c .sc] [.c (.ro .int list0)] kk) = G_impl_differentKeys list0 (fun list0 xt6 xt7 => ∃ j, iter (evF TT cs_impl_differentKeys 23 an_impl_differentKeys Try.f103 [1, 0, 1, 0, 0]) nm0_impl_differentKeys (kt0_impl_differentKeys (fin_impl_differentKeys list0 kk)) j (can0_impl_differentKeys list0 xt6 xt7)) := by kernel_rfl
theorem e_impl_differentKeys (list0 : List Int) (kk : AV → List A1 → Prop) :
    ev TT cs_impl_differentKeys 23 an_impl_differentKeys (Try.f103.body.getD .skip) (st0 con_impl_differentKeys [.c (.ro .int list0)]) (fin TT con_impl_differentKeys Try.f103.results.toList [.c .sc] [.c (.ro .int list0)] kk) = S_impl_differentKeys list0 (fun r0 => kk (.one (.c (.v (.bool r0)))) []) := by
  rw [g_impl_differentKeys]
  have hi0 : (fun list0 xt6 xt7 => ∃ j, iter (evF TT cs_impl_differentKeys 23 an_impl_differentKeys Try.f103 [1, 0, 1, 0, 0]) nm0_impl_differentKeys (kt0_impl_differentKeys (fin_impl_differentKeys list0 kk)) j (can0_impl_differentKeys list0 xt6 xt7)) = (fun list0 xt6 xt7 => ∃ j, L0_impl_differentKeys list0 xt6 (fun r0 => kk (.one (.c (.v (.bool r0)))) []) j xt7) := by
    funext list0 xt6 xt7
    refine congrArg Exists (funext fun j => ?_)
    rw [l0_impl_differentKeys list0 xt6 kk j xt7]
  rw [hi0]
  rfl
theorem clok_impl_differentKeys : ConOK Try.prog cl_impl_differentKeys := consCons h_impl_validKey ⟨Try.f50, Try.func50, by kernel_rfl, ne_of_beq (by kernel_rfl)⟩ (consCons h_slices_Contains_sint_int ⟨Try.f73, Try.func73, by kernel_rfl, ne_of_beq (by kernel_rfl)⟩ (consNil))
theorem cok_impl_differentKeys : ConsOK Try.prog 23 cs_impl_differentKeys := ⟨clok_impl_differentKeys, inlNil, ovNil⟩
theorem i_impl_differentKeys {vs : List A1} {kk : AV → List A1 → Prop} {motive : List A1 → Prop} (h : con_impl_differentKeys.F vs kk) (H : ∀ (list0 : List Int), F_impl_differentKeys list0 (fun r0 => kk (.one (.c (.v (.bool r0)))) []) → motive [.c (.ro .int list0)]) : motive vs := by
  unfold con_impl_differentKeys at h
  dsimp only at h
  split at h
  · exact H _ h
  · exact h.elim
theorem h_impl_differentKeys : Holds Try.prog 103 con_impl_differentKeys := by
  refine holds_of_ev (rt := [.c .sc]) (T := TT) (Γ := cs_impl_differentKeys) (an := an_impl_differentKeys) (N := 23) (c := Try.f103.body.getD .skip) Try.func103 (by kernel_rfl) Try.ntmps103 (by decide) (by decide) mixed tabOK cok_impl_differentKeys (by kernel_rfl) ?_
  intro vs kk _ hF
  exact i_impl_differentKeys (motive := fun vs => Goes (ev TT cs_impl_differentKeys 23 an_impl_differentKeys (Try.f103.body.getD .skip) (st0 con_impl_differentKeys vs) (fin TT con_impl_differentKeys Try.f103.results.toList [.c .sc] vs kk))) hF (fun list0 hF => goes_of (e_impl_differentKeys list0 kk) (F_impl_differentKeys_S hF))
def con_impl_ValidKeys : Con := ⟨[.rd, .rd], true, [.c (.sl .int), .c (.sc)], fun vs k => match vs with
    | [.c (.ro .int list0), .c (.v (.int .i64 room1))] => F_impl_ValidKeys list0 room1 (fun r0 => k (.one (.c (.v (.bool r0)))) [])
    | _ => False, false⟩
def cl_impl_ValidKeys : List (FuncId × Con) := [(66, con_impl_validRoom), (103, con_impl_differentKeys)]
def an_impl_ValidKeys : Ann := ⟨[], [], [], []⟩
def cs_impl_ValidKeys : Cons := ⟨cl_impl_ValidKeys, [], 0, [], [], []⟩
def fin_impl_ValidKeys (list0 : List Int) (room1 : Int) (kk : AV → List A1 → Prop) : Kt := fin TT con_impl_ValidKeys Try.f81.results.toList [.c .sc] [.c (.ro .int list0), .c (.v (.int .i64 room1))] kk
theorem g_impl_ValidKeys (list0 : List Int) (room1 : Int) (kk : AV → List A1 → Prop) :
    ev TT cs_impl_ValidKeys 17 an_impl_ValidKeys (Try.f81.body.getD .skip) (st0 con_impl_ValidKeys [.c (.ro .int list0), .c (.v (.int .i64 room1))]) (fin TT con_impl_ValidKeys Try.f81.results.toList [.c .sc] [.c (.ro .int list0), .c (.v (.int .i64 room1))] kk) = G_impl_ValidKeys list0 room1 (fun r0 => kk (.one (.c (.v (.bool r0)))) []) := by kernel_rfl
theorem e_impl_ValidKeys (list0 : List Int) (room1 : Int) (kk : AV → List A1 → Prop) :
    ev TT cs_impl_ValidKeys 17 an_impl_ValidKeys (Try.f81.body.getD .skip) (st0 con_impl_ValidKeys [.c (.ro .int list0), .c (.v (.int .i64 room1))]) (fin TT con_impl_ValidKeys Try.f81.results.toList [.c .sc] [.c (.ro .int list0), .c (.v (.int .i64 room1))] kk) = S_impl_ValidKeys list0 room1 (fun r0 => kk (.one (.c (.v (.bool r0)))) []) := by
  rw [g_impl_ValidKeys]
  rfl
theorem clok_impl_ValidKeys : ConOK Try.prog cl_impl_ValidKeys := consCons h_impl_validRoom ⟨Try.f66, Try.func66, by kernel_rfl, ne_of_beq (by kernel_rfl)⟩ (consCons h_impl_differentKeys ⟨Try.f103, Try.func103, by kernel_rfl, ne_of_beq (by kernel_rfl)⟩ (consNil))
theorem cok_impl_ValidKeys : ConsOK Try.prog 17 cs_impl_ValidKeys := ⟨clok_impl_ValidKeys, inlNil, ovNil⟩
theorem i_impl_ValidKeys {vs : List A1} {kk : AV → List A1 → Prop} {motive : List A1 → Prop} (h : con_impl_ValidKeys.F vs kk) (H : ∀ (list0 : List Int) (room1 : Int), F_impl_ValidKeys list0 room1 (fun r0 => kk (.one (.c (.v (.bool r0)))) []) → motive [.c (.ro .int list0), .c (.v (.int .i64 room1))]) : motive vs := by
  unfold con_impl_ValidKeys at h
  dsimp only at h
  split at h
  · exact H _ _ h
  · exact h.elim
theorem h_impl_ValidKeys : Holds Try.prog 81 con_impl_ValidKeys := by
  refine holds_of_ev (rt := [.c .sc]) (T := TT) (Γ := cs_impl_ValidKeys) (an := an_impl_ValidKeys) (N := 17) (c := Try.f81.body.getD .skip) Try.func81 (by kernel_rfl) Try.ntmps81 (by decide) (by decide) mixed tabOK cok_impl_ValidKeys (by kernel_rfl) ?_
  intro vs kk _ hF
  exact i_impl_ValidKeys (motive := fun vs => Goes (ev TT cs_impl_ValidKeys 17 an_impl_ValidKeys (Try.f81.body.getD .skip) (st0 con_impl_ValidKeys vs) (fin TT con_impl_ValidKeys Try.f81.results.toList [.c .sc] vs kk))) hF (fun list0 room1 hF => goes_of (e_impl_ValidKeys list0 room1 kk) (F_impl_ValidKeys_S hF))
def con_impl_ValidSegments : Con := ⟨[.rd], true, [.agg [.sc, .sc, .sl .int, .sl .int]], fun vs k => match vs with
    | [.agg [.v (.int .i64 s0Trial), .v (.int .i64 s0Safe), .ro .int s0New, .ro .int s0Old]] => F_impl_ValidSegments s0Trial s0Safe s0New s0Old (fun r0 => k (.one (.c (.v (.bool r0)))) [])
    | _ => False, false⟩
def cl_impl_ValidSegments : List (FuncId × Con) := [(73, con_slices_Contains_sint_int), (81, con_impl_ValidKeys)]
def nm0_impl_ValidSegments : List NStep := [.keep [1, 20, 21, 22] [16]]
def an_impl_ValidSegments : Ann := ⟨[], [(4, nm0_impl_ValidSegments)], [], []⟩
def cs_impl_ValidSegments : Cons := ⟨cl_impl_ValidSegments, [], 0, [], [], []⟩
def can0_impl_ValidSegments (s0New : List Int) (s0Old : List Int) (s0Safe : Int) (s0Trial : Int) (xt21 : Int) (xt22 : Int) : St := ⟨[(1, .one (.c (.pb 16 0))), (20, .one (.c (.ro .int s0New))), (21, .one (.c (.v (.int .i64 xt21)))), (22, .one (.c (.v (.int .i64 xt22))))], [(16, .box [.v (.int .i64 s0Trial), .v (.int .i64 s0Safe), .ro .int s0New, .ro .int s0Old])]⟩
def fin_impl_ValidSegments (s0Trial : Int) (s0Safe : Int) (s0New : List Int) (s0Old : List Int) (kk : AV → List A1 → Prop) : Kt := fin TT con_impl_ValidSegments Try.f98.results.toList [.c .sc] [.agg [.v (.int .i64 s0Trial), .v (.int .i64 s0Safe), .ro .int s0New, .ro .int s0Old]] kk
def kt0_impl_ValidSegments (kf : Kt) : Kt := blockK 0 (seqK (evF TT cs_impl_ValidSegments 31 an_impl_ValidSegments Try.f98 [1, 1, 1]) (kf))
theorem r0_impl_ValidSegments (s0Trial : Int) (s0Safe : Int) (s0New : List Int) (s0Old : List Int) (xt21 : Int) (kk : AV → List A1 → Prop) (n : Nat) (xt22 : Int) :
    iter (evF TT cs_impl_ValidSegments 31 an_impl_ValidSegments Try.f98 [1, 1, 0, 1, 0, 0]) nm0_impl_ValidSegments (kt0_impl_ValidSegments (fin_impl_ValidSegments s0Trial s0Safe s0New s0Old kk)) (n + 1) (can0_impl_ValidSegments s0New s0Old s0Safe s0Trial xt21 xt22) = T0_impl_ValidSegments s0New s0Old s0Safe s0Trial xt21 xt22 (fun r0 => kk (.one (.c (.v (.bool r0)))) []) (fun xt22 => iter (evF TT cs_impl_ValidSegments 31 an_impl_ValidSegments Try.f98 [1, 1, 0, 1, 0, 0]) nm0_impl_ValidSegments (kt0_impl_ValidSegments (fin_impl_ValidSegments s0Trial s0Safe s0New s0Old kk)) n (can0_impl_ValidSegments s0New s0Old s0Safe s0Trial xt21 xt22)) := by kernel_rfl
theorem l0_impl_ValidSegments (s0Trial : Int) (s0Safe : Int) (s0New : List Int) (s0Old : List Int) (xt21 : Int) (kk : AV → List A1 → Prop) : ∀ (n : Nat) (xt22 : Int), iter (evF TT cs_impl_ValidSegments 31 an_impl_ValidSegments Try.f98 [1, 1, 0, 1, 0, 0]) nm0_impl_ValidSegments (kt0_impl_ValidSegments (fin_impl_ValidSegments s0Trial s0Safe s0New s0Old kk)) n (can0_impl_ValidSegments s0New s0Old s0Safe s0Trial xt21 xt22) = L0_impl_ValidSegments s0New s0Old s0Safe s0Trial xt21 (fun r0 => kk (.one (.c (.v (.bool r0)))) []) n xt22 := by
  intro n
  induction n with
  | zero => intros; rfl
  | succ n ih =>
    intro xt22
    rw [r0_impl_ValidSegments s0Trial s0Safe s0New s0Old xt21 kk n xt22]
    have hb : (fun xt22 => iter (evF TT cs_impl_ValidSegments 31 an_impl_ValidSegments Try.f98 [1, 1, 0, 1, 0, 0]) nm0_impl_ValidSegments (kt0_impl_ValidSegments (fin_impl_ValidSegments s0Trial s0Safe s0New s0Old kk)) n (can0_impl_ValidSegments s0New s0Old s0Safe s0Trial xt21 xt22)) = L0_impl_ValidSegments s0New s0Old s0Safe s0Trial xt21 (fun r0 => kk (.one (.c (.v (.bool r0)))) []) n := by
      funext xt22; exact ih xt22
    rw [hb]
    rfl
theorem g_impl_ValidSegments (s0Trial : Int) (s0Safe : Int) (s0New : List Int) (s0Old : List Int) (kk : AV → List A1 → Prop) :
    ev TT cs_impl_ValidSegments 31 an_impl_ValidSegments (Try.f98.body.getD .skip) (st0 con_impl_ValidSegments [.agg [.v (.int .i64 s0Trial), .v (.int .i64 s0Safe), .ro .int s0New, .ro .int s0Old]]) (fin TT con_impl_ValidSegments Try.f98.results.toList [.c .sc] [.agg [.v (.int .i64 s0Trial), .v (.int .i64 s0Safe), .ro .int s0New, .ro .int s0Old]] kk) = G_impl_ValidSegments s0Trial s0Safe s0New s0Old (fun r0 => kk (.one (.c (.v (.bool r0)))) []) (fun s0New s0Old s0Safe s0Trial xt21 xt22 => ∃ j, iter (evF TT cs_impl_ValidSegments 31 an_impl_ValidSegments Try.f98 [1, 1, 0, 1, 0, 0]) nm0_impl_ValidSegments (kt0_impl_ValidSegments (fin_impl_ValidSegments s0Trial s0Safe s0New s0Old kk)) j (can0_impl_ValidSegments s0New s0Old s0Safe s0Trial xt21 xt22)) := by kernel_rfl
theorem e_impl_ValidSegments (s0Trial : Int) (s0Safe : Int) (s0New : List Int) (s0Old : List Int) (kk : AV → List A1 → Prop) :
    ev TT cs_impl_ValidSegments 31 an_impl_ValidSegments (Try.f98.body.getD .skip) (st0 con_impl_ValidSegments [.agg [.v (.int .i64 s0Trial), .v (.int .i64 s0Safe), .ro .int s0New, .ro .int s0Old]]) (fin TT con_impl_ValidSegments Try.f98.results.toList [.c .sc] [.agg [.v (.int .i64 s0Trial), .v (.int .i64 s0Safe), .ro .int s0New, .ro .int s0Old]] kk) = S_impl_ValidSegments s0Trial s0Safe s0New s0Old (fun r0 => kk (.one (.c (.v (.bool r0)))) []) := by
  rw [g_impl_ValidSegments]
  have hi0 : (fun s0New s0Old s0Safe s0Trial xt21 xt22 => ∃ j, iter (evF TT cs_impl_ValidSegments 31 an_impl_ValidSegments Try.f98 [1, 1, 0, 1, 0, 0]) nm0_impl_ValidSegments (kt0_impl_ValidSegments (fin_impl_ValidSegments s0Trial s0Safe s0New s0Old kk)) j (can0_impl_ValidSegments s0New s0Old s0Safe s0Trial xt21 xt22)) = (fun s0New s0Old s0Safe s0Trial xt21 xt22 => ∃ j, L0_impl_ValidSegments s0New s0Old s0Safe s0Trial xt21 (fun r0 => kk (.one (.c (.v (.bool r0)))) []) j xt22) := by
    funext s0New s0Old s0Safe s0Trial xt21 xt22
    refine congrArg Exists (funext fun j => ?_)
    rw [l0_impl_ValidSegments s0Trial s0Safe s0New s0Old xt21 kk j xt22]
  rw [hi0]
  rfl
theorem clok_impl_ValidSegments : ConOK Try.prog cl_impl_ValidSegments := consCons h_slices_Contains_sint_int ⟨Try.f73, Try.func73, by kernel_rfl, ne_of_beq (by kernel_rfl)⟩ (consCons h_impl_ValidKeys ⟨Try.f81, Try.func81, by kernel_rfl, ne_of_beq (by kernel_rfl)⟩ (consNil))
theorem cok_impl_ValidSegments : ConsOK Try.prog 31 cs_impl_ValidSegments := ⟨clok_impl_ValidSegments, inlNil, ovNil⟩
theorem i_impl_ValidSegments {vs : List A1} {kk : AV → List A1 → Prop} {motive : List A1 → Prop} (h : con_impl_ValidSegments.F vs kk) (H : ∀ (s0Trial : Int) (s0Safe : Int) (s0New : List Int) (s0Old : List Int), F_impl_ValidSegments s0Trial s0Safe s0New s0Old (fun r0 => kk (.one (.c (.v (.bool r0)))) []) → motive [.agg [.v (.int .i64 s0Trial), .v (.int .i64 s0Safe), .ro .int s0New, .ro .int s0Old]]) : motive vs := by
  unfold con_impl_ValidSegments at h
  dsimp only at h
  split at h
  · exact H _ _ _ _ h
  · exact h.elim
theorem h_impl_ValidSegments : Holds Try.prog 98 con_impl_ValidSegments := by
  refine holds_of_ev (rt := [.c .sc]) (T := TT) (Γ := cs_impl_ValidSegments) (an := an_impl_ValidSegments) (N := 31) (c := Try.f98.body.getD .skip) Try.func98 (by kernel_rfl) Try.ntmps98 (by decide) (by decide) mixed tabOK cok_impl_ValidSegments (by kernel_rfl) ?_
  intro vs kk _ hF
  exact i_impl_ValidSegments (motive := fun vs => Goes (ev TT cs_impl_ValidSegments 31 an_impl_ValidSegments (Try.f98.body.getD .skip) (st0 con_impl_ValidSegments vs) (fin TT con_impl_ValidSegments Try.f98.results.toList [.c .sc] vs kk))) hF (fun s0Trial s0Safe s0New s0Old hF => goes_of (e_impl_ValidSegments s0Trial s0Safe s0New s0Old kk) (F_impl_ValidSegments_S hF))
def con_impl_withoutKey : Con := ⟨[.rd, .rd], true, [.c (.sl .int), .c (.sc)], fun vs k => match vs with
    | [.c (.ro .int list0), .c (.v (.int .i64 key1))] => F_impl_withoutKey list0 key1 (fun r0 => k (.one (.c (.ro .int r0))) [])
    | _ => False, false⟩
def cl_impl_withoutKey : List (FuncId × Con) := []
def nm0_impl_withoutKey : List NStep := [.own 5 .int 90000, .keep [1, 5, 9, 10, 11] [90000]]
def an_impl_withoutKey : Ann := ⟨[], [(3, nm0_impl_withoutKey)], [], []⟩
def cs_impl_withoutKey : Cons := ⟨cl_impl_withoutKey, [], 0, [], [], []⟩
def can0_impl_withoutKey (key1 : Int) (list0 : List Int) (xt10 : Int) (xt11 : Int) (xout5 : List Int) : St := ⟨[(1, .one (.c (.v (.int .i64 key1)))), (5, .one (.c (.ow 90000))), (9, .one (.c (.ro .int list0))), (10, .one (.c (.v (.int .i64 xt10)))), (11, .one (.c (.v (.int .i64 xt11))))], [(90000, .row .int xout5)]⟩
def fin_impl_withoutKey (list0 : List Int) (key1 : Int) (kk : AV → List A1 → Prop) : Kt := fin TT con_impl_withoutKey Try.f74.results.toList [.c (.sl .int)] [.c (.ro .int list0), .c (.v (.int .i64 key1))] kk
def kt0_impl_withoutKey (kf : Kt) : Kt := blockK 0 (seqK (evF TT cs_impl_withoutKey 24 an_impl_withoutKey Try.f74 [1, 1, 1]) (kf))
theorem r0_impl_withoutKey (list0 : List Int) (key1 : Int) (xt10 : Int) (kk : AV → List A1 → Prop) (n : Nat) (xt11 : Int) (xout5 : List Int) :
    iter (evF TT cs_impl_withoutKey 24 an_impl_withoutKey Try.f74 [1, 1, 0, 1, 0, 0]) nm0_impl_withoutKey (kt0_impl_withoutKey (fin_impl_withoutKey list0 key1 kk)) (n + 1) (can0_impl_withoutKey key1 list0 xt10 xt11 xout5) = T0_impl_withoutKey key1 list0 xt10 xt11 xout5 (fun r0 => kk (.one (.c (.ro .int r0))) []) (fun xt11 xout5 => iter (evF TT cs_impl_withoutKey 24 an_impl_withoutKey Try.f74 [1, 1, 0, 1, 0, 0]) nm0_impl_withoutKey (kt0_impl_withoutKey (fin_impl_withoutKey list0 key1 kk)) n (can0_impl_withoutKey key1 list0 xt10 xt11 xout5)) := by kernel_rfl
theorem l0_impl_withoutKey (list0 : List Int) (key1 : Int) (xt10 : Int) (kk : AV → List A1 → Prop) : ∀ (n : Nat) (xt11 : Int) (xout5 : List Int), iter (evF TT cs_impl_withoutKey 24 an_impl_withoutKey Try.f74 [1, 1, 0, 1, 0, 0]) nm0_impl_withoutKey (kt0_impl_withoutKey (fin_impl_withoutKey list0 key1 kk)) n (can0_impl_withoutKey key1 list0 xt10 xt11 xout5) = L0_impl_withoutKey key1 list0 xt10 (fun r0 => kk (.one (.c (.ro .int r0))) []) n xt11 xout5 := by
  intro n
  induction n with
  | zero => intros; rfl
  | succ n ih =>
    intro xt11 xout5
    rw [r0_impl_withoutKey list0 key1 xt10 kk n xt11 xout5]
    have hb : (fun xt11 xout5 => iter (evF TT cs_impl_withoutKey 24 an_impl_withoutKey Try.f74 [1, 1, 0, 1, 0, 0]) nm0_impl_withoutKey (kt0_impl_withoutKey (fin_impl_withoutKey list0 key1 kk)) n (can0_impl_withoutKey key1 list0 xt10 xt11 xout5)) = L0_impl_withoutKey key1 list0 xt10 (fun r0 => kk (.one (.c (.ro .int r0))) []) n := by
      funext xt11 xout5; exact ih xt11 xout5
    rw [hb]
    rfl
theorem g_impl_withoutKey (list0 : List Int) (key1 : Int) (kk : AV → List A1 → Prop) :
    ev TT cs_impl_withoutKey 24 an_impl_withoutKey (Try.f74.body.getD .skip) (st0 con_impl_withoutKey [.c (.ro .int list0), .c (.v (.int .i64 key1))]) (fin TT con_impl_withoutKey Try.f74.results.toList [.c (.sl .int)] [.c (.ro .int list0), .c (.v (.int .i64 key1))] kk) = G_impl_withoutKey list0 key1 (fun key1 list0 xt10 xt11 xout5 => ∃ j, iter (evF TT cs_impl_withoutKey 24 an_impl_withoutKey Try.f74 [1, 1, 0, 1, 0, 0]) nm0_impl_withoutKey (kt0_impl_withoutKey (fin_impl_withoutKey list0 key1 kk)) j (can0_impl_withoutKey key1 list0 xt10 xt11 xout5)) := by kernel_rfl
theorem e_impl_withoutKey (list0 : List Int) (key1 : Int) (kk : AV → List A1 → Prop) :
    ev TT cs_impl_withoutKey 24 an_impl_withoutKey (Try.f74.body.getD .skip) (st0 con_impl_withoutKey [.c (.ro .int list0), .c (.v (.int .i64 key1))]) (fin TT con_impl_withoutKey Try.f74.results.toList [.c (.sl .int)] [.c (.ro .int list0), .c (.v (.int .i64 key1))] kk) = S_impl_withoutKey list0 key1 (fun r0 => kk (.one (.c (.ro .int r0))) []) := by
  rw [g_impl_withoutKey]
  have hi0 : (fun key1 list0 xt10 xt11 xout5 => ∃ j, iter (evF TT cs_impl_withoutKey 24 an_impl_withoutKey Try.f74 [1, 1, 0, 1, 0, 0]) nm0_impl_withoutKey (kt0_impl_withoutKey (fin_impl_withoutKey list0 key1 kk)) j (can0_impl_withoutKey key1 list0 xt10 xt11 xout5)) = (fun key1 list0 xt10 xt11 xout5 => ∃ j, L0_impl_withoutKey key1 list0 xt10 (fun r0 => kk (.one (.c (.ro .int r0))) []) j xt11 xout5) := by
    funext key1 list0 xt10 xt11 xout5
    refine congrArg Exists (funext fun j => ?_)
    rw [l0_impl_withoutKey list0 key1 xt10 kk j xt11 xout5]
  rw [hi0]
  rfl
theorem clok_impl_withoutKey : ConOK Try.prog cl_impl_withoutKey := consNil
theorem cok_impl_withoutKey : ConsOK Try.prog 24 cs_impl_withoutKey := ⟨clok_impl_withoutKey, inlNil, ovNil⟩
theorem i_impl_withoutKey {vs : List A1} {kk : AV → List A1 → Prop} {motive : List A1 → Prop} (h : con_impl_withoutKey.F vs kk) (H : ∀ (list0 : List Int) (key1 : Int), F_impl_withoutKey list0 key1 (fun r0 => kk (.one (.c (.ro .int r0))) []) → motive [.c (.ro .int list0), .c (.v (.int .i64 key1))]) : motive vs := by
  unfold con_impl_withoutKey at h
  dsimp only at h
  split at h
  · exact H _ _ h
  · exact h.elim
theorem h_impl_withoutKey : Holds Try.prog 74 con_impl_withoutKey := by
  refine holds_of_ev (rt := [.c (.sl .int)]) (T := TT) (Γ := cs_impl_withoutKey) (an := an_impl_withoutKey) (N := 24) (c := Try.f74.body.getD .skip) Try.func74 (by kernel_rfl) Try.ntmps74 (by decide) (by decide) mixed tabOK cok_impl_withoutKey (by kernel_rfl) ?_
  intro vs kk _ hF
  exact i_impl_withoutKey (motive := fun vs => Goes (ev TT cs_impl_withoutKey 24 an_impl_withoutKey (Try.f74.body.getD .skip) (st0 con_impl_withoutKey vs) (fin TT con_impl_withoutKey Try.f74.results.toList [.c (.sl .int)] vs kk))) hF (fun list0 key1 hF => goes_of (e_impl_withoutKey list0 key1 kk) (F_impl_withoutKey_S hF))
def con_impl_putFirst : Con := ⟨[.rd, .rd], true, [.c (.sl .int), .c (.sc)], fun vs k => match vs with
    | [.c (.ro .int list0), .c (.v (.int .i64 key1))] => F_impl_putFirst list0 key1 (fun r0 => k (.one (.c (.ro .int r0))) [])
    | _ => False, false⟩
def cl_impl_putFirst : List (FuncId × Con) := []
def an_impl_putFirst : Ann := ⟨[], [], [], []⟩
def cs_impl_putFirst : Cons := ⟨cl_impl_putFirst, [], 0, [], [], []⟩
def fin_impl_putFirst (list0 : List Int) (key1 : Int) (kk : AV → List A1 → Prop) : Kt := fin TT con_impl_putFirst Try.f110.results.toList [.c (.sl .int)] [.c (.ro .int list0), .c (.v (.int .i64 key1))] kk
theorem g_impl_putFirst (list0 : List Int) (key1 : Int) (kk : AV → List A1 → Prop) :
    ev TT cs_impl_putFirst 9 an_impl_putFirst (Try.f110.body.getD .skip) (st0 con_impl_putFirst [.c (.ro .int list0), .c (.v (.int .i64 key1))]) (fin TT con_impl_putFirst Try.f110.results.toList [.c (.sl .int)] [.c (.ro .int list0), .c (.v (.int .i64 key1))] kk) = G_impl_putFirst list0 key1 (fun r0 => kk (.one (.c (.ro .int r0))) []) := by kernel_rfl
theorem e_impl_putFirst (list0 : List Int) (key1 : Int) (kk : AV → List A1 → Prop) :
    ev TT cs_impl_putFirst 9 an_impl_putFirst (Try.f110.body.getD .skip) (st0 con_impl_putFirst [.c (.ro .int list0), .c (.v (.int .i64 key1))]) (fin TT con_impl_putFirst Try.f110.results.toList [.c (.sl .int)] [.c (.ro .int list0), .c (.v (.int .i64 key1))] kk) = S_impl_putFirst list0 key1 (fun r0 => kk (.one (.c (.ro .int r0))) []) := by
  rw [g_impl_putFirst]
  rfl
theorem clok_impl_putFirst : ConOK Try.prog cl_impl_putFirst := consNil
theorem cok_impl_putFirst : ConsOK Try.prog 9 cs_impl_putFirst := ⟨clok_impl_putFirst, inlNil, ovNil⟩
theorem i_impl_putFirst {vs : List A1} {kk : AV → List A1 → Prop} {motive : List A1 → Prop} (h : con_impl_putFirst.F vs kk) (H : ∀ (list0 : List Int) (key1 : Int), F_impl_putFirst list0 key1 (fun r0 => kk (.one (.c (.ro .int r0))) []) → motive [.c (.ro .int list0), .c (.v (.int .i64 key1))]) : motive vs := by
  unfold con_impl_putFirst at h
  dsimp only at h
  split at h
  · exact H _ _ h
  · exact h.elim
theorem h_impl_putFirst : Holds Try.prog 110 con_impl_putFirst := by
  refine holds_of_ev (rt := [.c (.sl .int)]) (T := TT) (Γ := cs_impl_putFirst) (an := an_impl_putFirst) (N := 9) (c := Try.f110.body.getD .skip) Try.func110 (by kernel_rfl) Try.ntmps110 (by decide) (by decide) mixed tabOK cok_impl_putFirst (by kernel_rfl) ?_
  intro vs kk _ hF
  exact i_impl_putFirst (motive := fun vs => Goes (ev TT cs_impl_putFirst 9 an_impl_putFirst (Try.f110.body.getD .skip) (st0 con_impl_putFirst vs) (fin TT con_impl_putFirst Try.f110.results.toList [.c (.sl .int)] vs kk))) hF (fun list0 key1 hF => goes_of (e_impl_putFirst list0 key1 kk) (F_impl_putFirst_S hF))
def con_impl_UseRecent : Con := ⟨[.rd, .rd, .rd], true, [.c (.sl .int), .c (.sc), .c (.sc)], fun vs k => match vs with
    | [.c (.ro .int list0), .c (.v (.int .i64 room1)), .c (.v (.int .i64 key2))] => F_impl_UseRecent list0 room1 key2 (fun r0 r1 => k (.tup [.c (.ro .int r0), .c (.v (.bool r1))]) [])
    | _ => False, false⟩
def cl_impl_UseRecent : List (FuncId × Con) := [(50, con_impl_validKey), (73, con_slices_Contains_sint_int), (74, con_impl_withoutKey), (81, con_impl_ValidKeys), (110, con_impl_putFirst)]
def an_impl_UseRecent : Ann := ⟨[(4, .take 0 (.take 1 (.take 2 (.take 3 (.take 4 (.take 5 (.take 6 (.take 7 (.alt 8 (.take 9 (.take 10 (.done))) (.none))))))))), [])], [], [], []⟩
def cs_impl_UseRecent : Cons := ⟨cl_impl_UseRecent, [], 0, [], [], []⟩
def fin_impl_UseRecent (list0 : List Int) (room1 : Int) (key2 : Int) (kk : AV → List A1 → Prop) : Kt := fin TT con_impl_UseRecent Try.f99.results.toList [.c (.sl .int), .c .sc] [.c (.ro .int list0), .c (.v (.int .i64 room1)), .c (.v (.int .i64 key2))] kk
theorem g_impl_UseRecent (list0 : List Int) (room1 : Int) (key2 : Int) (kk : AV → List A1 → Prop) :
    ev TT cs_impl_UseRecent 32 an_impl_UseRecent (Try.f99.body.getD .skip) (st0 con_impl_UseRecent [.c (.ro .int list0), .c (.v (.int .i64 room1)), .c (.v (.int .i64 key2))]) (fin TT con_impl_UseRecent Try.f99.results.toList [.c (.sl .int), .c .sc] [.c (.ro .int list0), .c (.v (.int .i64 room1)), .c (.v (.int .i64 key2))] kk) = G_impl_UseRecent list0 room1 key2 (fun r0 r1 => kk (.tup [.c (.ro .int r0), .c (.v (.bool r1))]) []) := by kernel_rfl
theorem e_impl_UseRecent (list0 : List Int) (room1 : Int) (key2 : Int) (kk : AV → List A1 → Prop) :
    ev TT cs_impl_UseRecent 32 an_impl_UseRecent (Try.f99.body.getD .skip) (st0 con_impl_UseRecent [.c (.ro .int list0), .c (.v (.int .i64 room1)), .c (.v (.int .i64 key2))]) (fin TT con_impl_UseRecent Try.f99.results.toList [.c (.sl .int), .c .sc] [.c (.ro .int list0), .c (.v (.int .i64 room1)), .c (.v (.int .i64 key2))] kk) = S_impl_UseRecent list0 room1 key2 (fun r0 r1 => kk (.tup [.c (.ro .int r0), .c (.v (.bool r1))]) []) := by
  rw [g_impl_UseRecent]
  rw [G_impl_UseRecent_eq]
  rfl
theorem clok_impl_UseRecent : ConOK Try.prog cl_impl_UseRecent := consCons h_impl_validKey ⟨Try.f50, Try.func50, by kernel_rfl, ne_of_beq (by kernel_rfl)⟩ (consCons h_slices_Contains_sint_int ⟨Try.f73, Try.func73, by kernel_rfl, ne_of_beq (by kernel_rfl)⟩ (consCons h_impl_withoutKey ⟨Try.f74, Try.func74, by kernel_rfl, ne_of_beq (by kernel_rfl)⟩ (consCons h_impl_ValidKeys ⟨Try.f81, Try.func81, by kernel_rfl, ne_of_beq (by kernel_rfl)⟩ (consCons h_impl_putFirst ⟨Try.f110, Try.func110, by kernel_rfl, ne_of_beq (by kernel_rfl)⟩ (consNil)))))
theorem cok_impl_UseRecent : ConsOK Try.prog 32 cs_impl_UseRecent := ⟨clok_impl_UseRecent, inlNil, ovNil⟩
theorem i_impl_UseRecent {vs : List A1} {kk : AV → List A1 → Prop} {motive : List A1 → Prop} (h : con_impl_UseRecent.F vs kk) (H : ∀ (list0 : List Int) (room1 : Int) (key2 : Int), F_impl_UseRecent list0 room1 key2 (fun r0 r1 => kk (.tup [.c (.ro .int r0), .c (.v (.bool r1))]) []) → motive [.c (.ro .int list0), .c (.v (.int .i64 room1)), .c (.v (.int .i64 key2))]) : motive vs := by
  unfold con_impl_UseRecent at h
  dsimp only at h
  split at h
  · exact H _ _ _ h
  · exact h.elim
theorem h_impl_UseRecent : Holds Try.prog 99 con_impl_UseRecent := by
  refine holds_of_ev (rt := [.c (.sl .int), .c .sc]) (T := TT) (Γ := cs_impl_UseRecent) (an := an_impl_UseRecent) (N := 32) (c := Try.f99.body.getD .skip) Try.func99 (by kernel_rfl) Try.ntmps99 (by decide) (by decide) mixed tabOK cok_impl_UseRecent (by kernel_rfl) ?_
  intro vs kk _ hF
  exact i_impl_UseRecent (motive := fun vs => Goes (ev TT cs_impl_UseRecent 32 an_impl_UseRecent (Try.f99.body.getD .skip) (st0 con_impl_UseRecent vs) (fin TT con_impl_UseRecent Try.f99.results.toList [.c (.sl .int), .c .sc] vs kk))) hF (fun list0 room1 key2 hF => goes_of (e_impl_UseRecent list0 room1 key2 kk) (F_impl_UseRecent_S hF))
def con_impl_UseSegments : Con := ⟨[.rd, .rd], true, [.agg [.sc, .sc, .sl .int, .sl .int], .c (.sc)], fun vs k => match vs with
    | [.agg [.v (.int .i64 s0Trial), .v (.int .i64 s0Safe), .ro .int s0New, .ro .int s0Old], .c (.v (.int .i64 key1))] => F_impl_UseSegments s0Trial s0Safe s0New s0Old key1 (fun r0 r1 r2 r3 r4 => k (.tup [.agg [.v (.int .i64 r0), .v (.int .i64 r1), .ro .int r2, .ro .int r3], .c (.v (.bool r4))]) [])
    | _ => False, false⟩
def cl_impl_UseSegments : List (FuncId × Con) := [(50, con_impl_validKey), (73, con_slices_Contains_sint_int), (74, con_impl_withoutKey), (98, con_impl_ValidSegments), (99, con_impl_UseRecent)]
def an_impl_UseSegments : Ann := ⟨[(14, .take 0 (.take 2 (.take 3 (.take 4 (.take 5 (.take 6 (.take 7 (.take 8 (.alt 1 (.alt 9 (.alt 10 (.take 11 (.alt 12 (.done) (.none))) (.none)) (.none)) (.alt 9 (.alt 1 (.alt 10 (.take 11 (.alt 12 (.done) (.none))) (.none)) (.none)) (.none)))))))))), [32]), (15, .take 0 (.take 2 (.take 3 (.take 4 (.alt 1 (.alt 5 (.alt 6 (.take 7 (.alt 8 (.done) (.none))) (.none)) (.none)) (.alt 5 (.alt 1 (.alt 6 (.take 7 (.alt 8 (.done) (.none))) (.none)) (.none)) (.none)))))), [32])], [], [], []⟩
def cs_impl_UseSegments : Cons := ⟨cl_impl_UseSegments, [], 0, [], [], []⟩
def fin_impl_UseSegments (s0Trial : Int) (s0Safe : Int) (s0New : List Int) (s0Old : List Int) (key1 : Int) (kk : AV → List A1 → Prop) : Kt := fin TT con_impl_UseSegments Try.f72.results.toList [.agg [.sc, .sc, .sl .int, .sl .int], .c .sc] [.agg [.v (.int .i64 s0Trial), .v (.int .i64 s0Safe), .ro .int s0New, .ro .int s0Old], .c (.v (.int .i64 key1))] kk
theorem g_impl_UseSegments (s0Trial : Int) (s0Safe : Int) (s0New : List Int) (s0Old : List Int) (key1 : Int) (kk : AV → List A1 → Prop) :
    ev TT cs_impl_UseSegments 101 an_impl_UseSegments (Try.f72.body.getD .skip) (st0 con_impl_UseSegments [.agg [.v (.int .i64 s0Trial), .v (.int .i64 s0Safe), .ro .int s0New, .ro .int s0Old], .c (.v (.int .i64 key1))]) (fin TT con_impl_UseSegments Try.f72.results.toList [.agg [.sc, .sc, .sl .int, .sl .int], .c .sc] [.agg [.v (.int .i64 s0Trial), .v (.int .i64 s0Safe), .ro .int s0New, .ro .int s0Old], .c (.v (.int .i64 key1))] kk) = G_impl_UseSegments s0Trial s0Safe s0New s0Old key1 (fun r0 r1 r2 r3 r4 => kk (.tup [.agg [.v (.int .i64 r0), .v (.int .i64 r1), .ro .int r2, .ro .int r3], .c (.v (.bool r4))]) []) := by kernel_rfl
theorem e_impl_UseSegments (s0Trial : Int) (s0Safe : Int) (s0New : List Int) (s0Old : List Int) (key1 : Int) (kk : AV → List A1 → Prop) :
    ev TT cs_impl_UseSegments 101 an_impl_UseSegments (Try.f72.body.getD .skip) (st0 con_impl_UseSegments [.agg [.v (.int .i64 s0Trial), .v (.int .i64 s0Safe), .ro .int s0New, .ro .int s0Old], .c (.v (.int .i64 key1))]) (fin TT con_impl_UseSegments Try.f72.results.toList [.agg [.sc, .sc, .sl .int, .sl .int], .c .sc] [.agg [.v (.int .i64 s0Trial), .v (.int .i64 s0Safe), .ro .int s0New, .ro .int s0Old], .c (.v (.int .i64 key1))] kk) = S_impl_UseSegments s0Trial s0Safe s0New s0Old key1 (fun r0 r1 r2 r3 r4 => kk (.tup [.agg [.v (.int .i64 r0), .v (.int .i64 r1), .ro .int r2, .ro .int r3], .c (.v (.bool r4))]) []) := by
  rw [g_impl_UseSegments]
  rw [G_impl_UseSegments_eq]
  rfl
theorem clok_impl_UseSegments : ConOK Try.prog cl_impl_UseSegments := consCons h_impl_validKey ⟨Try.f50, Try.func50, by kernel_rfl, ne_of_beq (by kernel_rfl)⟩ (consCons h_slices_Contains_sint_int ⟨Try.f73, Try.func73, by kernel_rfl, ne_of_beq (by kernel_rfl)⟩ (consCons h_impl_withoutKey ⟨Try.f74, Try.func74, by kernel_rfl, ne_of_beq (by kernel_rfl)⟩ (consCons h_impl_ValidSegments ⟨Try.f98, Try.func98, by kernel_rfl, ne_of_beq (by kernel_rfl)⟩ (consCons h_impl_UseRecent ⟨Try.f99, Try.func99, by kernel_rfl, ne_of_beq (by kernel_rfl)⟩ (consNil)))))
theorem cok_impl_UseSegments : ConsOK Try.prog 101 cs_impl_UseSegments := ⟨clok_impl_UseSegments, inlNil, ovNil⟩
theorem i_impl_UseSegments {vs : List A1} {kk : AV → List A1 → Prop} {motive : List A1 → Prop} (h : con_impl_UseSegments.F vs kk) (H : ∀ (s0Trial : Int) (s0Safe : Int) (s0New : List Int) (s0Old : List Int) (key1 : Int), F_impl_UseSegments s0Trial s0Safe s0New s0Old key1 (fun r0 r1 r2 r3 r4 => kk (.tup [.agg [.v (.int .i64 r0), .v (.int .i64 r1), .ro .int r2, .ro .int r3], .c (.v (.bool r4))]) []) → motive [.agg [.v (.int .i64 s0Trial), .v (.int .i64 s0Safe), .ro .int s0New, .ro .int s0Old], .c (.v (.int .i64 key1))]) : motive vs := by
  unfold con_impl_UseSegments at h
  dsimp only at h
  split at h
  · exact H _ _ _ _ _ h
  · exact h.elim
theorem h_impl_UseSegments : Holds Try.prog 72 con_impl_UseSegments := by
  refine holds_of_ev (rt := [.agg [.sc, .sc, .sl .int, .sl .int], .c .sc]) (T := TT) (Γ := cs_impl_UseSegments) (an := an_impl_UseSegments) (N := 101) (c := Try.f72.body.getD .skip) Try.func72 (by kernel_rfl) Try.ntmps72 (by decide) (by decide) mixed tabOK cok_impl_UseSegments (by kernel_rfl) ?_
  intro vs kk _ hF
  exact i_impl_UseSegments (motive := fun vs => Goes (ev TT cs_impl_UseSegments 101 an_impl_UseSegments (Try.f72.body.getD .skip) (st0 con_impl_UseSegments vs) (fin TT con_impl_UseSegments Try.f72.results.toList [.agg [.sc, .sc, .sl .int, .sl .int], .c .sc] vs kk))) hF (fun s0Trial s0Safe s0New s0Old key1 hF => goes_of (e_impl_UseSegments s0Trial s0Safe s0New s0Old key1 kk) (F_impl_UseSegments_S hF))
def con_impl_useAll_Segments : Con := ⟨[.rd, .mv, .rd], true, [.c (.sl .int), .agg [.sc, .sc, .sl .int, .sl .int], .c (.fn)], fun vs k => match vs with
    | [.c (.ro .int t0), .agg [.v (.int .i64 cache1Trial), .v (.int .i64 cache1Safe), .ro .int cache1New, .ro .int cache1Old], .c (.v (.func (.func 72) ⟨[]⟩ ⟨[]⟩))] => F_impl_useAll_Segments_UseSegments t0 cache1Trial cache1Safe cache1New cache1Old (fun r0 r1 r2 r3 r4 => k (.tup [.agg [.v (.int .i64 r0), .v (.int .i64 r1), .ro .int r2, .ro .int r3], .c (.v (.int .i64 r4))]) [])
    | _ => False, false⟩
def cl_impl_useAll_Segments_UseSegments : List (FuncId × Con) := [(72, con_impl_UseSegments)]
def nm0_impl_useAll_Segments_UseSegments : List NStep := [.ownc 64 2 .int 90000, .ownc 64 3 .int 90001, .keep [2, 4, 6, 8, 13, 14, 15] [64, 90000, 90001, 96]]
def an_impl_useAll_Segments_UseSegments : Ann := ⟨[], [(3, nm0_impl_useAll_Segments_UseSegments)], [], []⟩
def cs_impl_useAll_Segments_UseSegments : Cons := ⟨cl_impl_useAll_Segments_UseSegments, [], 0, [], [], []⟩
def can0_impl_useAll_Segments_UseSegments (t0 : List Int) (xt14 : Int) (xhits8 : Int) (xt15 : Int) (xb4c0 : Int) (xb4c1 : Int) (xb4c2 : List Int) (xb4c3 : List Int) : St := ⟨[(2, .one (.c (.v (.func (.func 72) ⟨[]⟩ ⟨[]⟩)))), (4, .one (.c (.pb 64 0))), (6, .one (.c (.pb 96 0))), (8, .one (.c (.v (.int .i64 xhits8)))), (13, .one (.c (.ro .int t0))), (14, .one (.c (.v (.int .i64 xt14)))), (15, .one (.c (.v (.int .i64 xt15))))], [(64, .box [.v (.int .i64 xb4c0), .v (.int .i64 xb4c1), .ow 90000, .ow 90001]), (90000, .row .int xb4c2), (90001, .row .int xb4c3), (96, .box [.v (.int .i64 0), .v (.int .i64 0), .nil, .nil])]⟩
def fin_impl_useAll_Segments_UseSegments (t0 : List Int) (cache1Trial : Int) (cache1Safe : Int) (cache1New : List Int) (cache1Old : List Int) (kk : AV → List A1 → Prop) : Kt := fin TT con_impl_useAll_Segments Try.f71.results.toList [.agg [.sc, .sc, .sl .int, .sl .int], .c .sc] [.c (.ro .int t0), .agg [.v (.int .i64 cache1Trial), .v (.int .i64 cache1Safe), .ro .int cache1New, .ro .int cache1Old], .c (.v (.func (.func 72) ⟨[]⟩ ⟨[]⟩))] kk
def kt0_impl_useAll_Segments_UseSegments (kf : Kt) : Kt := blockK 0 (seqK (evF TT cs_impl_useAll_Segments_UseSegments 33 an_impl_useAll_Segments_UseSegments Try.f71 [1, 1, 1]) (kf))
theorem r0_impl_useAll_Segments_UseSegments (t0 : List Int) (cache1Trial : Int) (cache1Safe : Int) (cache1New : List Int) (cache1Old : List Int) (xt14 : Int) (kk : AV → List A1 → Prop) (n : Nat) (xhits8 : Int) (xt15 : Int) (xb4c0 : Int) (xb4c1 : Int) (xb4c2 : List Int) (xb4c3 : List Int) :
    iter (evF TT cs_impl_useAll_Segments_UseSegments 33 an_impl_useAll_Segments_UseSegments Try.f71 [1, 1, 0, 1, 0, 0]) nm0_impl_useAll_Segments_UseSegments (kt0_impl_useAll_Segments_UseSegments (fin_impl_useAll_Segments_UseSegments t0 cache1Trial cache1Safe cache1New cache1Old kk)) (n + 1) (can0_impl_useAll_Segments_UseSegments t0 xt14 xhits8 xt15 xb4c0 xb4c1 xb4c2 xb4c3) = T0_impl_useAll_Segments_UseSegments t0 xt14 xhits8 xt15 xb4c0 xb4c1 xb4c2 xb4c3 (fun r0 r1 r2 r3 r4 => kk (.tup [.agg [.v (.int .i64 r0), .v (.int .i64 r1), .ro .int r2, .ro .int r3], .c (.v (.int .i64 r4))]) []) (fun xhits8 xt15 xb4c0 xb4c1 xb4c2 xb4c3 => iter (evF TT cs_impl_useAll_Segments_UseSegments 33 an_impl_useAll_Segments_UseSegments Try.f71 [1, 1, 0, 1, 0, 0]) nm0_impl_useAll_Segments_UseSegments (kt0_impl_useAll_Segments_UseSegments (fin_impl_useAll_Segments_UseSegments t0 cache1Trial cache1Safe cache1New cache1Old kk)) n (can0_impl_useAll_Segments_UseSegments t0 xt14 xhits8 xt15 xb4c0 xb4c1 xb4c2 xb4c3)) := by kernel_rfl
theorem l0_impl_useAll_Segments_UseSegments (t0 : List Int) (cache1Trial : Int) (cache1Safe : Int) (cache1New : List Int) (cache1Old : List Int) (xt14 : Int) (kk : AV → List A1 → Prop) : ∀ (n : Nat) (xhits8 : Int) (xt15 : Int) (xb4c0 : Int) (xb4c1 : Int) (xb4c2 : List Int) (xb4c3 : List Int), iter (evF TT cs_impl_useAll_Segments_UseSegments 33 an_impl_useAll_Segments_UseSegments Try.f71 [1, 1, 0, 1, 0, 0]) nm0_impl_useAll_Segments_UseSegments (kt0_impl_useAll_Segments_UseSegments (fin_impl_useAll_Segments_UseSegments t0 cache1Trial cache1Safe cache1New cache1Old kk)) n (can0_impl_useAll_Segments_UseSegments t0 xt14 xhits8 xt15 xb4c0 xb4c1 xb4c2 xb4c3) = L0_impl_useAll_Segments_UseSegments t0 xt14 (fun r0 r1 r2 r3 r4 => kk (.tup [.agg [.v (.int .i64 r0), .v (.int .i64 r1), .ro .int r2, .ro .int r3], .c (.v (.int .i64 r4))]) []) n xhits8 xt15 xb4c0 xb4c1 xb4c2 xb4c3 := by
  intro n
  induction n with
  | zero => intros; rfl
  | succ n ih =>
    intro xhits8 xt15 xb4c0 xb4c1 xb4c2 xb4c3
    rw [r0_impl_useAll_Segments_UseSegments t0 cache1Trial cache1Safe cache1New cache1Old xt14 kk n xhits8 xt15 xb4c0 xb4c1 xb4c2 xb4c3]
    have hb : (fun xhits8 xt15 xb4c0 xb4c1 xb4c2 xb4c3 => iter (evF TT cs_impl_useAll_Segments_UseSegments 33 an_impl_useAll_Segments_UseSegments Try.f71 [1, 1, 0, 1, 0, 0]) nm0_impl_useAll_Segments_UseSegments (kt0_impl_useAll_Segments_UseSegments (fin_impl_useAll_Segments_UseSegments t0 cache1Trial cache1Safe cache1New cache1Old kk)) n (can0_impl_useAll_Segments_UseSegments t0 xt14 xhits8 xt15 xb4c0 xb4c1 xb4c2 xb4c3)) = L0_impl_useAll_Segments_UseSegments t0 xt14 (fun r0 r1 r2 r3 r4 => kk (.tup [.agg [.v (.int .i64 r0), .v (.int .i64 r1), .ro .int r2, .ro .int r3], .c (.v (.int .i64 r4))]) []) n := by
      funext xhits8 xt15 xb4c0 xb4c1 xb4c2 xb4c3; exact ih xhits8 xt15 xb4c0 xb4c1 xb4c2 xb4c3
    rw [hb]
    rfl
theorem g_impl_useAll_Segments_UseSegments (t0 : List Int) (cache1Trial : Int) (cache1Safe : Int) (cache1New : List Int) (cache1Old : List Int) (kk : AV → List A1 → Prop) :
    ev TT cs_impl_useAll_Segments_UseSegments 33 an_impl_useAll_Segments_UseSegments (Try.f71.body.getD .skip) (st0 con_impl_useAll_Segments [.c (.ro .int t0), .agg [.v (.int .i64 cache1Trial), .v (.int .i64 cache1Safe), .ro .int cache1New, .ro .int cache1Old], .c (.v (.func (.func 72) ⟨[]⟩ ⟨[]⟩))]) (fin TT con_impl_useAll_Segments Try.f71.results.toList [.agg [.sc, .sc, .sl .int, .sl .int], .c .sc] [.c (.ro .int t0), .agg [.v (.int .i64 cache1Trial), .v (.int .i64 cache1Safe), .ro .int cache1New, .ro .int cache1Old], .c (.v (.func (.func 72) ⟨[]⟩ ⟨[]⟩))] kk) = G_impl_useAll_Segments_UseSegments t0 cache1Trial cache1Safe cache1New cache1Old (fun t0 xt14 xhits8 xt15 xb4c0 xb4c1 xb4c2 xb4c3 => ∃ j, iter (evF TT cs_impl_useAll_Segments_UseSegments 33 an_impl_useAll_Segments_UseSegments Try.f71 [1, 1, 0, 1, 0, 0]) nm0_impl_useAll_Segments_UseSegments (kt0_impl_useAll_Segments_UseSegments (fin_impl_useAll_Segments_UseSegments t0 cache1Trial cache1Safe cache1New cache1Old kk)) j (can0_impl_useAll_Segments_UseSegments t0 xt14 xhits8 xt15 xb4c0 xb4c1 xb4c2 xb4c3)) := by kernel_rfl
theorem e_impl_useAll_Segments_UseSegments (t0 : List Int) (cache1Trial : Int) (cache1Safe : Int) (cache1New : List Int) (cache1Old : List Int) (kk : AV → List A1 → Prop) :
    ev TT cs_impl_useAll_Segments_UseSegments 33 an_impl_useAll_Segments_UseSegments (Try.f71.body.getD .skip) (st0 con_impl_useAll_Segments [.c (.ro .int t0), .agg [.v (.int .i64 cache1Trial), .v (.int .i64 cache1Safe), .ro .int cache1New, .ro .int cache1Old], .c (.v (.func (.func 72) ⟨[]⟩ ⟨[]⟩))]) (fin TT con_impl_useAll_Segments Try.f71.results.toList [.agg [.sc, .sc, .sl .int, .sl .int], .c .sc] [.c (.ro .int t0), .agg [.v (.int .i64 cache1Trial), .v (.int .i64 cache1Safe), .ro .int cache1New, .ro .int cache1Old], .c (.v (.func (.func 72) ⟨[]⟩ ⟨[]⟩))] kk) = S_impl_useAll_Segments_UseSegments t0 cache1Trial cache1Safe cache1New cache1Old (fun r0 r1 r2 r3 r4 => kk (.tup [.agg [.v (.int .i64 r0), .v (.int .i64 r1), .ro .int r2, .ro .int r3], .c (.v (.int .i64 r4))]) []) := by
  rw [g_impl_useAll_Segments_UseSegments]
  have hi0 : (fun t0 xt14 xhits8 xt15 xb4c0 xb4c1 xb4c2 xb4c3 => ∃ j, iter (evF TT cs_impl_useAll_Segments_UseSegments 33 an_impl_useAll_Segments_UseSegments Try.f71 [1, 1, 0, 1, 0, 0]) nm0_impl_useAll_Segments_UseSegments (kt0_impl_useAll_Segments_UseSegments (fin_impl_useAll_Segments_UseSegments t0 cache1Trial cache1Safe cache1New cache1Old kk)) j (can0_impl_useAll_Segments_UseSegments t0 xt14 xhits8 xt15 xb4c0 xb4c1 xb4c2 xb4c3)) = (fun t0 xt14 xhits8 xt15 xb4c0 xb4c1 xb4c2 xb4c3 => ∃ j, L0_impl_useAll_Segments_UseSegments t0 xt14 (fun r0 r1 r2 r3 r4 => kk (.tup [.agg [.v (.int .i64 r0), .v (.int .i64 r1), .ro .int r2, .ro .int r3], .c (.v (.int .i64 r4))]) []) j xhits8 xt15 xb4c0 xb4c1 xb4c2 xb4c3) := by
    funext t0 xt14 xhits8 xt15 xb4c0 xb4c1 xb4c2 xb4c3
    refine congrArg Exists (funext fun j => ?_)
    rw [l0_impl_useAll_Segments_UseSegments t0 cache1Trial cache1Safe cache1New cache1Old xt14 kk j xhits8 xt15 xb4c0 xb4c1 xb4c2 xb4c3]
  rw [hi0]
  rfl
theorem clok_impl_useAll_Segments_UseSegments : ConOK Try.prog cl_impl_useAll_Segments_UseSegments := consCons h_impl_UseSegments ⟨Try.f72, Try.func72, by kernel_rfl, ne_of_beq (by kernel_rfl)⟩ (consNil)
theorem cok_impl_useAll_Segments_UseSegments : ConsOK Try.prog 33 cs_impl_useAll_Segments_UseSegments := ⟨clok_impl_useAll_Segments_UseSegments, inlNil, ovNil⟩
theorem i_impl_useAll_Segments_UseSegments {vs : List A1} {kk : AV → List A1 → Prop} {motive : List A1 → Prop} (h : con_impl_useAll_Segments.F vs kk) (H : ∀ (t0 : List Int) (cache1Trial : Int) (cache1Safe : Int) (cache1New : List Int) (cache1Old : List Int), F_impl_useAll_Segments_UseSegments t0 cache1Trial cache1Safe cache1New cache1Old (fun r0 r1 r2 r3 r4 => kk (.tup [.agg [.v (.int .i64 r0), .v (.int .i64 r1), .ro .int r2, .ro .int r3], .c (.v (.int .i64 r4))]) []) → motive [.c (.ro .int t0), .agg [.v (.int .i64 cache1Trial), .v (.int .i64 cache1Safe), .ro .int cache1New, .ro .int cache1Old], .c (.v (.func (.func 72) ⟨[]⟩ ⟨[]⟩))]) : motive vs := by
  unfold con_impl_useAll_Segments at h
  dsimp only at h
  split at h
  · exact H _ _ _ _ _ h
  · exact h.elim
theorem h_impl_useAll_Segments : Holds Try.prog 71 con_impl_useAll_Segments := by
  refine holds_of_ev (rt := [.agg [.sc, .sc, .sl .int, .sl .int], .c .sc]) (T := TT) (Γ := cs_impl_useAll_Segments_UseSegments) (an := an_impl_useAll_Segments_UseSegments) (N := 33) (c := Try.f71.body.getD .skip) Try.func71 (by kernel_rfl) Try.ntmps71 (by decide) (by decide) mixed tabOK cok_impl_useAll_Segments_UseSegments (by kernel_rfl) ?_
  intro vs kk _ hF
  exact i_impl_useAll_Segments_UseSegments (motive := fun vs => Goes (ev TT cs_impl_useAll_Segments_UseSegments 33 an_impl_useAll_Segments_UseSegments (Try.f71.body.getD .skip) (st0 con_impl_useAll_Segments vs) (fin TT con_impl_useAll_Segments Try.f71.results.toList [.agg [.sc, .sc, .sl .int, .sl .int], .c .sc] vs kk))) hF (fun t0 cache1Trial cache1Safe cache1New cache1Old hF => goes_of (e_impl_useAll_Segments_UseSegments t0 cache1Trial cache1Safe cache1New cache1Old kk) (F_impl_useAll_Segments_UseSegments_S hF))
def con_impl_RunSegments : Con := ⟨[.rd, .rd, .rd], true, [.c (.sl .int), .c (.sc), .c (.sc)], fun vs k => match vs with
    | [.c (.ro .int t0), .c (.v (.int .i64 trial1)), .c (.v (.int .i64 safe2))] => F_impl_RunSegments t0 trial1 safe2 (fun r0 r1 r2 r3 r4 => k (.tup [.agg [.v (.int .i64 r0), .v (.int .i64 r1), .ro .int r2, .ro .int r3], .c (.v (.int .i64 r4))]) [])
    | _ => False, false⟩
def cl_impl_RunSegments : List (FuncId × Con) := [(65, con_impl_ValidTrace), (66, con_impl_validRoom), (71, con_impl_useAll_Segments)]
def an_impl_RunSegments : Ann := ⟨[], [], [], []⟩
def cs_impl_RunSegments : Cons := ⟨cl_impl_RunSegments, [], 0, [], [], []⟩
def fin_impl_RunSegments (t0 : List Int) (trial1 : Int) (safe2 : Int) (kk : AV → List A1 → Prop) : Kt := fin TT con_impl_RunSegments Try.f26.results.toList [.agg [.sc, .sc, .sl .int, .sl .int], .c .sc] [.c (.ro .int t0), .c (.v (.int .i64 trial1)), .c (.v (.int .i64 safe2))] kk
theorem g_impl_RunSegments (t0 : List Int) (trial1 : Int) (safe2 : Int) (kk : AV → List A1 → Prop) :
    ev TT cs_impl_RunSegments 29 an_impl_RunSegments (Try.f26.body.getD .skip) (st0 con_impl_RunSegments [.c (.ro .int t0), .c (.v (.int .i64 trial1)), .c (.v (.int .i64 safe2))]) (fin TT con_impl_RunSegments Try.f26.results.toList [.agg [.sc, .sc, .sl .int, .sl .int], .c .sc] [.c (.ro .int t0), .c (.v (.int .i64 trial1)), .c (.v (.int .i64 safe2))] kk) = G_impl_RunSegments t0 trial1 safe2 (fun r0 r1 r2 r3 r4 => kk (.tup [.agg [.v (.int .i64 r0), .v (.int .i64 r1), .ro .int r2, .ro .int r3], .c (.v (.int .i64 r4))]) []) := by kernel_rfl
theorem e_impl_RunSegments (t0 : List Int) (trial1 : Int) (safe2 : Int) (kk : AV → List A1 → Prop) :
    ev TT cs_impl_RunSegments 29 an_impl_RunSegments (Try.f26.body.getD .skip) (st0 con_impl_RunSegments [.c (.ro .int t0), .c (.v (.int .i64 trial1)), .c (.v (.int .i64 safe2))]) (fin TT con_impl_RunSegments Try.f26.results.toList [.agg [.sc, .sc, .sl .int, .sl .int], .c .sc] [.c (.ro .int t0), .c (.v (.int .i64 trial1)), .c (.v (.int .i64 safe2))] kk) = S_impl_RunSegments t0 trial1 safe2 (fun r0 r1 r2 r3 r4 => kk (.tup [.agg [.v (.int .i64 r0), .v (.int .i64 r1), .ro .int r2, .ro .int r3], .c (.v (.int .i64 r4))]) []) := by
  rw [g_impl_RunSegments]
  rfl
theorem clok_impl_RunSegments : ConOK Try.prog cl_impl_RunSegments := consCons h_impl_ValidTrace ⟨Try.f65, Try.func65, by kernel_rfl, ne_of_beq (by kernel_rfl)⟩ (consCons h_impl_validRoom ⟨Try.f66, Try.func66, by kernel_rfl, ne_of_beq (by kernel_rfl)⟩ (consCons h_impl_useAll_Segments ⟨Try.f71, Try.func71, by kernel_rfl, ne_of_beq (by kernel_rfl)⟩ (consNil)))
theorem cok_impl_RunSegments : ConsOK Try.prog 29 cs_impl_RunSegments := ⟨clok_impl_RunSegments, inlNil, ovNil⟩
theorem i_impl_RunSegments {vs : List A1} {kk : AV → List A1 → Prop} {motive : List A1 → Prop} (h : con_impl_RunSegments.F vs kk) (H : ∀ (t0 : List Int) (trial1 : Int) (safe2 : Int), F_impl_RunSegments t0 trial1 safe2 (fun r0 r1 r2 r3 r4 => kk (.tup [.agg [.v (.int .i64 r0), .v (.int .i64 r1), .ro .int r2, .ro .int r3], .c (.v (.int .i64 r4))]) []) → motive [.c (.ro .int t0), .c (.v (.int .i64 trial1)), .c (.v (.int .i64 safe2))]) : motive vs := by
  unfold con_impl_RunSegments at h
  dsimp only at h
  split at h
  · exact H _ _ _ h
  · exact h.elim
theorem h_impl_RunSegments : Holds Try.prog 26 con_impl_RunSegments := by
  refine holds_of_ev (rt := [.agg [.sc, .sc, .sl .int, .sl .int], .c .sc]) (T := TT) (Γ := cs_impl_RunSegments) (an := an_impl_RunSegments) (N := 29) (c := Try.f26.body.getD .skip) Try.func26 (by kernel_rfl) Try.ntmps26 (by decide) (by decide) mixed tabOK cok_impl_RunSegments (by kernel_rfl) ?_
  intro vs kk _ hF
  exact i_impl_RunSegments (motive := fun vs => Goes (ev TT cs_impl_RunSegments 29 an_impl_RunSegments (Try.f26.body.getD .skip) (st0 con_impl_RunSegments vs) (fin TT con_impl_RunSegments Try.f26.results.toList [.agg [.sc, .sc, .sl .int, .sl .int], .c .sc] vs kk))) hF (fun t0 trial1 safe2 hF => goes_of (e_impl_RunSegments t0 trial1 safe2 kk) (F_impl_RunSegments_S hF))
def con_impl_BestSplit : Con := ⟨[.rd, .rd], true, [.c (.sl .int), .c (.sc)], fun vs k => match vs with
    | [.c (.ro .int t0), .c (.v (.int .i64 room1))] => F_impl_BestSplit t0 room1 (fun r0 => k (.one (.c (.v (.int .i64 r0)))) [])
    | _ => False, false⟩
def cl_impl_BestSplit : List (FuncId × Con) := [(26, con_impl_RunSegments), (65, con_impl_ValidTrace), (66, con_impl_validRoom)]
def nm0_impl_BestSplit : List NStep := [.keep [1, 2, 7, 8, 9, 1000004] [32]]
def an_impl_BestSplit_i3 : Ann := ⟨[], [], [], []⟩
def cs_impl_BestSplit_i3 : Cons := ⟨cl_impl_BestSplit, [], 1152, [], [], []⟩
def an_impl_BestSplit_i2 : Ann := ⟨[], [], [], []⟩
def cs_impl_BestSplit_i2 : Cons := ⟨cl_impl_BestSplit, [], 864, [], [], []⟩
def an_impl_BestSplit_i1 : Ann := ⟨[], [(3, nm0_impl_BestSplit)], [], []⟩
def cs_impl_BestSplit_i1 : Cons := ⟨cl_impl_BestSplit, [(14, ⟨68, inlG TT cs_impl_BestSplit_i2 31 17 an_impl_BestSplit_i2 (Try.f68.body.getD .skip) Try.f68.results.toList⟩), (24, ⟨68, inlG TT cs_impl_BestSplit_i3 31 17 an_impl_BestSplit_i3 (Try.f68.body.getD .skip) Try.f68.results.toList⟩)], 352, [], [], []⟩
def an_impl_BestSplit : Ann := ⟨[], [], [], []⟩
def cs_impl_BestSplit : Cons := ⟨cl_impl_BestSplit, [(20, ⟨67, inlG TT cs_impl_BestSplit_i1 21 31 an_impl_BestSplit_i1 (Try.f67.body.getD .skip) Try.f67.results.toList⟩)], 0, [], [], []⟩
def can0_impl_BestSplit (room1 : Int) (t0 : List Int) (xto1i1 : Int) (xbest7i1 : Int) (xmost8i1 : Int) (xn9i1 : Int) : St := ⟨[(1, .one (.c (.v (.int .i64 xto1i1)))), (2, .one (.c (.cl 68 [.b 32, .k (.int .i64 room1)]))), (7, .one (.c (.v (.int .i64 xbest7i1)))), (8, .one (.c (.v (.int .i64 xmost8i1)))), (9, .one (.c (.v (.int .i64 xn9i1)))), (1000004, .one (.c (.v (.int .i64 0))))], [(32, .box [.ro .int t0])]⟩
def fin_impl_BestSplit (t0 : List Int) (room1 : Int) (kk : AV → List A1 → Prop) : Kt := fin TT con_impl_BestSplit Try.f24.results.toList [.c .sc] [.c (.ro .int t0), .c (.v (.int .i64 room1))] kk
def kt0_impl_BestSplit (kf : Kt) : Kt := blockK 0 (seqK (evF TT cs_impl_BestSplit_i1 31 an_impl_BestSplit_i1 Try.f67 [1, 1, 1]) (inlK TT 21 Try.f67 (some 20) (regK TT cs_impl_BestSplit 21 3 (seqK (evF TT cs_impl_BestSplit 21 an_impl_BestSplit Try.f24 [1, 1, 1]) (kf)) (subc [1, 1, 0] (Try.f24.body.getD .skip)))))
theorem r0_impl_BestSplit (t0 : List Int) (room1 : Int) (xto1i1 : Int) (kk : AV → List A1 → Prop) (n : Nat) (xbest7i1 : Int) (xmost8i1 : Int) (xn9i1 : Int) :
    iter (evF TT cs_impl_BestSplit_i1 31 an_impl_BestSplit_i1 Try.f67 [1, 1, 0, 1, 0, 0]) nm0_impl_BestSplit (kt0_impl_BestSplit (fin_impl_BestSplit t0 room1 kk)) (n + 1) (can0_impl_BestSplit room1 t0 xto1i1 xbest7i1 xmost8i1 xn9i1) = T0_impl_BestSplit room1 t0 xto1i1 xbest7i1 xmost8i1 xn9i1 (fun r0 => kk (.one (.c (.v (.int .i64 r0)))) []) (fun xbest7i1 xmost8i1 xn9i1 => iter (evF TT cs_impl_BestSplit_i1 31 an_impl_BestSplit_i1 Try.f67 [1, 1, 0, 1, 0, 0]) nm0_impl_BestSplit (kt0_impl_BestSplit (fin_impl_BestSplit t0 room1 kk)) n (can0_impl_BestSplit room1 t0 xto1i1 xbest7i1 xmost8i1 xn9i1)) := by kernel_rfl
theorem l0_impl_BestSplit (t0 : List Int) (room1 : Int) (xto1i1 : Int) (kk : AV → List A1 → Prop) : ∀ (n : Nat) (xbest7i1 : Int) (xmost8i1 : Int) (xn9i1 : Int), iter (evF TT cs_impl_BestSplit_i1 31 an_impl_BestSplit_i1 Try.f67 [1, 1, 0, 1, 0, 0]) nm0_impl_BestSplit (kt0_impl_BestSplit (fin_impl_BestSplit t0 room1 kk)) n (can0_impl_BestSplit room1 t0 xto1i1 xbest7i1 xmost8i1 xn9i1) = L0_impl_BestSplit room1 t0 xto1i1 (fun r0 => kk (.one (.c (.v (.int .i64 r0)))) []) n xbest7i1 xmost8i1 xn9i1 := by
  intro n
  induction n with
  | zero => intros; rfl
  | succ n ih =>
    intro xbest7i1 xmost8i1 xn9i1
    rw [r0_impl_BestSplit t0 room1 xto1i1 kk n xbest7i1 xmost8i1 xn9i1]
    have hb : (fun xbest7i1 xmost8i1 xn9i1 => iter (evF TT cs_impl_BestSplit_i1 31 an_impl_BestSplit_i1 Try.f67 [1, 1, 0, 1, 0, 0]) nm0_impl_BestSplit (kt0_impl_BestSplit (fin_impl_BestSplit t0 room1 kk)) n (can0_impl_BestSplit room1 t0 xto1i1 xbest7i1 xmost8i1 xn9i1)) = L0_impl_BestSplit room1 t0 xto1i1 (fun r0 => kk (.one (.c (.v (.int .i64 r0)))) []) n := by
      funext xbest7i1 xmost8i1 xn9i1; exact ih xbest7i1 xmost8i1 xn9i1
    rw [hb]
    rfl
theorem g_impl_BestSplit (t0 : List Int) (room1 : Int) (kk : AV → List A1 → Prop) :
    ev TT cs_impl_BestSplit 21 an_impl_BestSplit (Try.f24.body.getD .skip) (st0 con_impl_BestSplit [.c (.ro .int t0), .c (.v (.int .i64 room1))]) (fin TT con_impl_BestSplit Try.f24.results.toList [.c .sc] [.c (.ro .int t0), .c (.v (.int .i64 room1))] kk) = G_impl_BestSplit t0 room1 (fun r0 => kk (.one (.c (.v (.int .i64 r0)))) []) (fun room1 t0 xto1i1 xbest7i1 xmost8i1 xn9i1 => ∃ j, iter (evF TT cs_impl_BestSplit_i1 31 an_impl_BestSplit_i1 Try.f67 [1, 1, 0, 1, 0, 0]) nm0_impl_BestSplit (kt0_impl_BestSplit (fin_impl_BestSplit t0 room1 kk)) j (can0_impl_BestSplit room1 t0 xto1i1 xbest7i1 xmost8i1 xn9i1)) := by kernel_rfl
theorem e_impl_BestSplit (t0 : List Int) (room1 : Int) (kk : AV → List A1 → Prop) :
    ev TT cs_impl_BestSplit 21 an_impl_BestSplit (Try.f24.body.getD .skip) (st0 con_impl_BestSplit [.c (.ro .int t0), .c (.v (.int .i64 room1))]) (fin TT con_impl_BestSplit Try.f24.results.toList [.c .sc] [.c (.ro .int t0), .c (.v (.int .i64 room1))] kk) = S_impl_BestSplit t0 room1 (fun r0 => kk (.one (.c (.v (.int .i64 r0)))) []) := by
  rw [g_impl_BestSplit]
  have hi0 : (fun room1 t0 xto1i1 xbest7i1 xmost8i1 xn9i1 => ∃ j, iter (evF TT cs_impl_BestSplit_i1 31 an_impl_BestSplit_i1 Try.f67 [1, 1, 0, 1, 0, 0]) nm0_impl_BestSplit (kt0_impl_BestSplit (fin_impl_BestSplit t0 room1 kk)) j (can0_impl_BestSplit room1 t0 xto1i1 xbest7i1 xmost8i1 xn9i1)) = (fun room1 t0 xto1i1 xbest7i1 xmost8i1 xn9i1 => ∃ j, L0_impl_BestSplit room1 t0 xto1i1 (fun r0 => kk (.one (.c (.v (.int .i64 r0)))) []) j xbest7i1 xmost8i1 xn9i1) := by
    funext room1 t0 xto1i1 xbest7i1 xmost8i1 xn9i1
    refine congrArg Exists (funext fun j => ?_)
    rw [l0_impl_BestSplit t0 room1 xto1i1 kk j xbest7i1 xmost8i1 xn9i1]
  rw [hi0]
  rfl
theorem clok_impl_BestSplit : ConOK Try.prog cl_impl_BestSplit := consCons h_impl_RunSegments ⟨Try.f26, Try.func26, by kernel_rfl, ne_of_beq (by kernel_rfl)⟩ (consCons h_impl_ValidTrace ⟨Try.f65, Try.func65, by kernel_rfl, ne_of_beq (by kernel_rfl)⟩ (consCons h_impl_validRoom ⟨Try.f66, Try.func66, by kernel_rfl, ne_of_beq (by kernel_rfl)⟩ (consNil)))
theorem cok_impl_BestSplit_i3 : ConsOK Try.prog 17 cs_impl_BestSplit_i3 := ⟨clok_impl_BestSplit, inlNil, ovNil⟩
theorem cok_impl_BestSplit_i2 : ConsOK Try.prog 17 cs_impl_BestSplit_i2 := ⟨clok_impl_BestSplit, inlNil, ovNil⟩
theorem cok_impl_BestSplit_i1 : ConsOK Try.prog 31 cs_impl_BestSplit_i1 := ⟨clok_impl_BestSplit, inlCons (inl_ok Try.func68 (by kernel_rfl) (ne_of_beq (by kernel_rfl)) Try.ntmps68 (by decide) mixed tabOK cok_impl_BestSplit_i2 (by kernel_rfl)) (inlCons (inl_ok Try.func68 (by kernel_rfl) (ne_of_beq (by kernel_rfl)) Try.ntmps68 (by decide) mixed tabOK cok_impl_BestSplit_i3 (by kernel_rfl)) (inlNil)), ovNil⟩
theorem cok_impl_BestSplit : ConsOK Try.prog 21 cs_impl_BestSplit := ⟨clok_impl_BestSplit, inlCons (inl_ok Try.func67 (by kernel_rfl) (ne_of_beq (by kernel_rfl)) Try.ntmps67 (by decide) mixed tabOK cok_impl_BestSplit_i1 (by kernel_rfl)) (inlNil), ovNil⟩
theorem i_impl_BestSplit {vs : List A1} {kk : AV → List A1 → Prop} {motive : List A1 → Prop} (h : con_impl_BestSplit.F vs kk) (H : ∀ (t0 : List Int) (room1 : Int), F_impl_BestSplit t0 room1 (fun r0 => kk (.one (.c (.v (.int .i64 r0)))) []) → motive [.c (.ro .int t0), .c (.v (.int .i64 room1))]) : motive vs := by
  unfold con_impl_BestSplit at h
  dsimp only at h
  split at h
  · exact H _ _ h
  · exact h.elim
theorem h_impl_BestSplit : Holds Try.prog 24 con_impl_BestSplit := by
  refine holds_of_ev (rt := [.c .sc]) (T := TT) (Γ := cs_impl_BestSplit) (an := an_impl_BestSplit) (N := 21) (c := Try.f24.body.getD .skip) Try.func24 (by kernel_rfl) Try.ntmps24 (by decide) (by decide) mixed tabOK cok_impl_BestSplit (by kernel_rfl) ?_
  intro vs kk _ hF
  exact i_impl_BestSplit (motive := fun vs => Goes (ev TT cs_impl_BestSplit 21 an_impl_BestSplit (Try.f24.body.getD .skip) (st0 con_impl_BestSplit vs) (fin TT con_impl_BestSplit Try.f24.results.toList [.c .sc] vs kk))) hF (fun t0 room1 hF => goes_of (e_impl_BestSplit t0 room1 kk) (F_impl_BestSplit_S hF))
def con_spec_inRange : Con := ⟨[.rd, .rd, .rd], true, [.c (.sc), .c (.sc), .c (.sc)], fun vs k => match vs with
    | [.c (.v (.int .i64 n0)), .c (.v (.int .i64 low1)), .c (.v (.int .i64 high2))] => F_spec_inRange n0 low1 high2 (fun r0 => k (.one (.c (.v (.bool r0)))) [])
    | _ => False, false⟩
def cl_spec_inRange : List (FuncId × Con) := []
def an_spec_inRange : Ann := ⟨[], [], [], []⟩
def cs_spec_inRange : Cons := ⟨cl_spec_inRange, [], 0, [], [], []⟩
def fin_spec_inRange (n0 : Int) (low1 : Int) (high2 : Int) (kk : AV → List A1 → Prop) : Kt := fin TT con_spec_inRange Try.f54.results.toList [.c .sc] [.c (.v (.int .i64 n0)), .c (.v (.int .i64 low1)), .c (.v (.int .i64 high2))] kk
theorem g_spec_inRange (n0 : Int) (low1 : Int) (high2 : Int) (kk : AV → List A1 → Prop) :
    ev TT cs_spec_inRange 15 an_spec_inRange (Try.f54.body.getD .skip) (st0 con_spec_inRange [.c (.v (.int .i64 n0)), .c (.v (.int .i64 low1)), .c (.v (.int .i64 high2))]) (fin TT con_spec_inRange Try.f54.results.toList [.c .sc] [.c (.v (.int .i64 n0)), .c (.v (.int .i64 low1)), .c (.v (.int .i64 high2))] kk) = G_spec_inRange n0 low1 high2 (fun r0 => kk (.one (.c (.v (.bool r0)))) []) := by kernel_rfl
theorem e_spec_inRange (n0 : Int) (low1 : Int) (high2 : Int) (kk : AV → List A1 → Prop) :
    ev TT cs_spec_inRange 15 an_spec_inRange (Try.f54.body.getD .skip) (st0 con_spec_inRange [.c (.v (.int .i64 n0)), .c (.v (.int .i64 low1)), .c (.v (.int .i64 high2))]) (fin TT con_spec_inRange Try.f54.results.toList [.c .sc] [.c (.v (.int .i64 n0)), .c (.v (.int .i64 low1)), .c (.v (.int .i64 high2))] kk) = S_spec_inRange n0 low1 high2 (fun r0 => kk (.one (.c (.v (.bool r0)))) []) := by
  rw [g_spec_inRange]
  rfl
theorem clok_spec_inRange : ConOK Try.prog cl_spec_inRange := consNil
theorem cok_spec_inRange : ConsOK Try.prog 15 cs_spec_inRange := ⟨clok_spec_inRange, inlNil, ovNil⟩
theorem i_spec_inRange {vs : List A1} {kk : AV → List A1 → Prop} {motive : List A1 → Prop} (h : con_spec_inRange.F vs kk) (H : ∀ (n0 : Int) (low1 : Int) (high2 : Int), F_spec_inRange n0 low1 high2 (fun r0 => kk (.one (.c (.v (.bool r0)))) []) → motive [.c (.v (.int .i64 n0)), .c (.v (.int .i64 low1)), .c (.v (.int .i64 high2))]) : motive vs := by
  unfold con_spec_inRange at h
  dsimp only at h
  split at h
  · exact H _ _ _ h
  · exact h.elim
theorem h_spec_inRange : Holds Try.prog 54 con_spec_inRange := by
  refine holds_of_ev (rt := [.c .sc]) (T := TT) (Γ := cs_spec_inRange) (an := an_spec_inRange) (N := 15) (c := Try.f54.body.getD .skip) Try.func54 (by kernel_rfl) Try.ntmps54 (by decide) (by decide) mixed tabOK cok_spec_inRange (by kernel_rfl) ?_
  intro vs kk _ hF
  exact i_spec_inRange (motive := fun vs => Goes (ev TT cs_spec_inRange 15 an_spec_inRange (Try.f54.body.getD .skip) (st0 con_spec_inRange vs) (fin TT con_spec_inRange Try.f54.results.toList [.c .sc] vs kk))) hF (fun n0 low1 high2 hF => goes_of (e_spec_inRange n0 low1 high2 kk) (F_spec_inRange_S hF))
def con_spec_allIn : Con := ⟨[.rd, .rd, .rd], true, [.c (.sl .int), .c (.sc), .c (.sc)], fun vs k => match vs with
    | [.c (.ro .int list0), .c (.v (.int .i64 low1)), .c (.v (.int .i64 high2))] => F_spec_allIn list0 low1 high2 (fun r0 => k (.one (.c (.v (.bool r0)))) [])
    | _ => False, false⟩
def cl_spec_allIn : List (FuncId × Con) := [(54, con_spec_inRange)]
def nm0_spec_allIn : List NStep := [.keep [0, 1, 2, 7] []]
def an_spec_allIn : Ann := ⟨[], [(2, nm0_spec_allIn)], [], []⟩
def cs_spec_allIn : Cons := ⟨cl_spec_allIn, [], 0, [], [], []⟩
def can0_spec_allIn (high2 : Int) (list0 : List Int) (low1 : Int) (xi7 : Int) : St := ⟨[(0, .one (.c (.ro .int list0))), (1, .one (.c (.v (.int .i64 low1)))), (2, .one (.c (.v (.int .i64 high2)))), (7, .one (.c (.v (.int .i64 xi7))))], []⟩
def fin_spec_allIn (list0 : List Int) (low1 : Int) (high2 : Int) (kk : AV → List A1 → Prop) : Kt := fin TT con_spec_allIn Try.f91.results.toList [.c .sc] [.c (.ro .int list0), .c (.v (.int .i64 low1)), .c (.v (.int .i64 high2))] kk
def kt0_spec_allIn (kf : Kt) : Kt := blockK 0 (seqK (evF TT cs_spec_allIn 22 an_spec_allIn Try.f91 [1, 1]) (kf))
theorem r0_spec_allIn (list0 : List Int) (low1 : Int) (high2 : Int) (kk : AV → List A1 → Prop) (n : Nat) (xi7 : Int) :
    iter (evF TT cs_spec_allIn 22 an_spec_allIn Try.f91 [1, 0, 1, 0, 0]) nm0_spec_allIn (kt0_spec_allIn (fin_spec_allIn list0 low1 high2 kk)) (n + 1) (can0_spec_allIn high2 list0 low1 xi7) = T0_spec_allIn high2 list0 low1 xi7 (fun r0 => kk (.one (.c (.v (.bool r0)))) []) (fun xi7 => iter (evF TT cs_spec_allIn 22 an_spec_allIn Try.f91 [1, 0, 1, 0, 0]) nm0_spec_allIn (kt0_spec_allIn (fin_spec_allIn list0 low1 high2 kk)) n (can0_spec_allIn high2 list0 low1 xi7)) := by kernel_rfl
theorem l0_spec_allIn (list0 : List Int) (low1 : Int) (high2 : Int) (kk : AV → List A1 → Prop) : ∀ (n : Nat) (xi7 : Int), iter (evF TT cs_spec_allIn 22 an_spec_allIn Try.f91 [1, 0, 1, 0, 0]) nm0_spec_allIn (kt0_spec_allIn (fin_spec_allIn list0 low1 high2 kk)) n (can0_spec_allIn high2 list0 low1 xi7) = L0_spec_allIn high2 list0 low1 (fun r0 => kk (.one (.c (.v (.bool r0)))) []) n xi7 := by
  intro n
  induction n with
  | zero => intros; rfl
  | succ n ih =>
    intro xi7
    rw [r0_spec_allIn list0 low1 high2 kk n xi7]
    have hb : (fun xi7 => iter (evF TT cs_spec_allIn 22 an_spec_allIn Try.f91 [1, 0, 1, 0, 0]) nm0_spec_allIn (kt0_spec_allIn (fin_spec_allIn list0 low1 high2 kk)) n (can0_spec_allIn high2 list0 low1 xi7)) = L0_spec_allIn high2 list0 low1 (fun r0 => kk (.one (.c (.v (.bool r0)))) []) n := by
      funext xi7; exact ih xi7
    rw [hb]
    rfl
theorem g_spec_allIn (list0 : List Int) (low1 : Int) (high2 : Int) (kk : AV → List A1 → Prop) :
    ev TT cs_spec_allIn 22 an_spec_allIn (Try.f91.body.getD .skip) (st0 con_spec_allIn [.c (.ro .int list0), .c (.v (.int .i64 low1)), .c (.v (.int .i64 high2))]) (fin TT con_spec_allIn Try.f91.results.toList [.c .sc] [.c (.ro .int list0), .c (.v (.int .i64 low1)), .c (.v (.int .i64 high2))] kk) = G_spec_allIn list0 low1 high2 (fun high2 list0 low1 xi7 => ∃ j, iter (evF TT cs_spec_allIn 22 an_spec_allIn Try.f91 [1, 0, 1, 0, 0]) nm0_spec_allIn (kt0_spec_allIn (fin_spec_allIn list0 low1 high2 kk)) j (can0_spec_allIn high2 list0 low1 xi7)) := by kernel_rfl
theorem e_spec_allIn (list0 : List Int) (low1 : Int) (high2 : Int) (kk : AV → List A1 → Prop) :
    ev TT cs_spec_allIn 22 an_spec_allIn (Try.f91.body.getD .skip) (st0 con_spec_allIn [.c (.ro .int list0), .c (.v (.int .i64 low1)), .c (.v (.int .i64 high2))]) (fin TT con_spec_allIn Try.f91.results.toList [.c .sc] [.c (.ro .int list0), .c (.v (.int .i64 low1)), .c (.v (.int .i64 high2))] kk) = S_spec_allIn list0 low1 high2 (fun r0 => kk (.one (.c (.v (.bool r0)))) []) := by
  rw [g_spec_allIn]
  have hi0 : (fun high2 list0 low1 xi7 => ∃ j, iter (evF TT cs_spec_allIn 22 an_spec_allIn Try.f91 [1, 0, 1, 0, 0]) nm0_spec_allIn (kt0_spec_allIn (fin_spec_allIn list0 low1 high2 kk)) j (can0_spec_allIn high2 list0 low1 xi7)) = (fun high2 list0 low1 xi7 => ∃ j, L0_spec_allIn high2 list0 low1 (fun r0 => kk (.one (.c (.v (.bool r0)))) []) j xi7) := by
    funext high2 list0 low1 xi7
    refine congrArg Exists (funext fun j => ?_)
    rw [l0_spec_allIn list0 low1 high2 kk j xi7]
  rw [hi0]
  rfl
theorem clok_spec_allIn : ConOK Try.prog cl_spec_allIn := consCons h_spec_inRange ⟨Try.f54, Try.func54, by kernel_rfl, ne_of_beq (by kernel_rfl)⟩ (consNil)
theorem cok_spec_allIn : ConsOK Try.prog 22 cs_spec_allIn := ⟨clok_spec_allIn, inlNil, ovNil⟩
theorem i_spec_allIn {vs : List A1} {kk : AV → List A1 → Prop} {motive : List A1 → Prop} (h : con_spec_allIn.F vs kk) (H : ∀ (list0 : List Int) (low1 : Int) (high2 : Int), F_spec_allIn list0 low1 high2 (fun r0 => kk (.one (.c (.v (.bool r0)))) []) → motive [.c (.ro .int list0), .c (.v (.int .i64 low1)), .c (.v (.int .i64 high2))]) : motive vs := by
  unfold con_spec_allIn at h
  dsimp only at h
  split at h
  · exact H _ _ _ h
  · exact h.elim
theorem h_spec_allIn : Holds Try.prog 91 con_spec_allIn := by
  refine holds_of_ev (rt := [.c .sc]) (T := TT) (Γ := cs_spec_allIn) (an := an_spec_allIn) (N := 22) (c := Try.f91.body.getD .skip) Try.func91 (by kernel_rfl) Try.ntmps91 (by decide) (by decide) mixed tabOK cok_spec_allIn (by kernel_rfl) ?_
  intro vs kk _ hF
  exact i_spec_allIn (motive := fun vs => Goes (ev TT cs_spec_allIn 22 an_spec_allIn (Try.f91.body.getD .skip) (st0 con_spec_allIn vs) (fin TT con_spec_allIn Try.f91.results.toList [.c .sc] vs kk))) hF (fun list0 low1 high2 hF => goes_of (e_spec_allIn list0 low1 high2 kk) (F_spec_allIn_S hF))
def con_spec_validTrace : Con := ⟨[.rd], true, [.c (.sl .int)], fun vs k => match vs with
    | [.c (.ro .int t0)] => F_spec_validTrace t0 (fun r0 => k (.one (.c (.v (.bool r0)))) [])
    | _ => False, false⟩
def cl_spec_validTrace : List (FuncId × Con) := [(91, con_spec_allIn)]
def an_spec_validTrace : Ann := ⟨[], [], [], []⟩
def cs_spec_validTrace : Cons := ⟨cl_spec_validTrace, [], 0, [], [], []⟩
def fin_spec_validTrace (t0 : List Int) (kk : AV → List A1 → Prop) : Kt := fin TT con_spec_validTrace Try.f69.results.toList [.c .sc] [.c (.ro .int t0)] kk
theorem g_spec_validTrace (t0 : List Int) (kk : AV → List A1 → Prop) :
    ev TT cs_spec_validTrace 10 an_spec_validTrace (Try.f69.body.getD .skip) (st0 con_spec_validTrace [.c (.ro .int t0)]) (fin TT con_spec_validTrace Try.f69.results.toList [.c .sc] [.c (.ro .int t0)] kk) = G_spec_validTrace t0 (fun r0 => kk (.one (.c (.v (.bool r0)))) []) := by kernel_rfl
theorem e_spec_validTrace (t0 : List Int) (kk : AV → List A1 → Prop) :
    ev TT cs_spec_validTrace 10 an_spec_validTrace (Try.f69.body.getD .skip) (st0 con_spec_validTrace [.c (.ro .int t0)]) (fin TT con_spec_validTrace Try.f69.results.toList [.c .sc] [.c (.ro .int t0)] kk) = S_spec_validTrace t0 (fun r0 => kk (.one (.c (.v (.bool r0)))) []) := by
  rw [g_spec_validTrace]
  rfl
theorem clok_spec_validTrace : ConOK Try.prog cl_spec_validTrace := consCons h_spec_allIn ⟨Try.f91, Try.func91, by kernel_rfl, ne_of_beq (by kernel_rfl)⟩ (consNil)
theorem cok_spec_validTrace : ConsOK Try.prog 10 cs_spec_validTrace := ⟨clok_spec_validTrace, inlNil, ovNil⟩
theorem i_spec_validTrace {vs : List A1} {kk : AV → List A1 → Prop} {motive : List A1 → Prop} (h : con_spec_validTrace.F vs kk) (H : ∀ (t0 : List Int), F_spec_validTrace t0 (fun r0 => kk (.one (.c (.v (.bool r0)))) []) → motive [.c (.ro .int t0)]) : motive vs := by
  unfold con_spec_validTrace at h
  dsimp only at h
  split at h
  · exact H _ h
  · exact h.elim
theorem h_spec_validTrace : Holds Try.prog 69 con_spec_validTrace := by
  refine holds_of_ev (rt := [.c .sc]) (T := TT) (Γ := cs_spec_validTrace) (an := an_spec_validTrace) (N := 10) (c := Try.f69.body.getD .skip) Try.func69 (by kernel_rfl) Try.ntmps69 (by decide) (by decide) mixed tabOK cok_spec_validTrace (by kernel_rfl) ?_
  intro vs kk _ hF
  exact i_spec_validTrace (motive := fun vs => Goes (ev TT cs_spec_validTrace 10 an_spec_validTrace (Try.f69.body.getD .skip) (st0 con_spec_validTrace vs) (fin TT con_spec_validTrace Try.f69.results.toList [.c .sc] vs kk))) hF (fun t0 hF => goes_of (e_spec_validTrace t0 kk) (F_spec_validTrace_S hF))
def con_spec_placeOf : Con := ⟨[.rd, .rd], true, [.c (.sl .int), .c (.sc)], fun vs k => match vs with
    | [.c (.ro .int list0), .c (.v (.int .i64 n1))] => F_spec_placeOf list0 n1 (fun r0 => k (.one (.c (.v (.int .i64 r0)))) [])
    | _ => False, false⟩
def cl_spec_placeOf : List (FuncId × Con) := []
def nm0_spec_placeOf : List NStep := [.keep [0, 1, 5] []]
def an_spec_placeOf : Ann := ⟨[], [(2, nm0_spec_placeOf)], [], []⟩
def cs_spec_placeOf : Cons := ⟨cl_spec_placeOf, [], 0, [], [], []⟩
def can0_spec_placeOf (list0 : List Int) (n1 : Int) (xi5 : Int) : St := ⟨[(0, .one (.c (.ro .int list0))), (1, .one (.c (.v (.int .i64 n1)))), (5, .one (.c (.v (.int .i64 xi5))))], []⟩
def fin_spec_placeOf (list0 : List Int) (n1 : Int) (kk : AV → List A1 → Prop) : Kt := fin TT con_spec_placeOf Try.f107.results.toList [.c .sc] [.c (.ro .int list0), .c (.v (.int .i64 n1))] kk
def kt0_spec_placeOf (kf : Kt) : Kt := blockK 0 (seqK (evF TT cs_spec_placeOf 19 an_spec_placeOf Try.f107 [1, 1]) (kf))
theorem r0_spec_placeOf (list0 : List Int) (n1 : Int) (kk : AV → List A1 → Prop) (n : Nat) (xi5 : Int) :
    iter (evF TT cs_spec_placeOf 19 an_spec_placeOf Try.f107 [1, 0, 1, 0, 0]) nm0_spec_placeOf (kt0_spec_placeOf (fin_spec_placeOf list0 n1 kk)) (n + 1) (can0_spec_placeOf list0 n1 xi5) = T0_spec_placeOf list0 n1 xi5 (fun r0 => kk (.one (.c (.v (.int .i64 r0)))) []) (fun xi5 => iter (evF TT cs_spec_placeOf 19 an_spec_placeOf Try.f107 [1, 0, 1, 0, 0]) nm0_spec_placeOf (kt0_spec_placeOf (fin_spec_placeOf list0 n1 kk)) n (can0_spec_placeOf list0 n1 xi5)) := by kernel_rfl
theorem l0_spec_placeOf (list0 : List Int) (n1 : Int) (kk : AV → List A1 → Prop) : ∀ (n : Nat) (xi5 : Int), iter (evF TT cs_spec_placeOf 19 an_spec_placeOf Try.f107 [1, 0, 1, 0, 0]) nm0_spec_placeOf (kt0_spec_placeOf (fin_spec_placeOf list0 n1 kk)) n (can0_spec_placeOf list0 n1 xi5) = L0_spec_placeOf list0 n1 (fun r0 => kk (.one (.c (.v (.int .i64 r0)))) []) n xi5 := by
  intro n
  induction n with
  | zero => intros; rfl
  | succ n ih =>
    intro xi5
    rw [r0_spec_placeOf list0 n1 kk n xi5]
    have hb : (fun xi5 => iter (evF TT cs_spec_placeOf 19 an_spec_placeOf Try.f107 [1, 0, 1, 0, 0]) nm0_spec_placeOf (kt0_spec_placeOf (fin_spec_placeOf list0 n1 kk)) n (can0_spec_placeOf list0 n1 xi5)) = L0_spec_placeOf list0 n1 (fun r0 => kk (.one (.c (.v (.int .i64 r0)))) []) n := by
      funext xi5; exact ih xi5
    rw [hb]
    rfl
theorem g_spec_placeOf (list0 : List Int) (n1 : Int) (kk : AV → List A1 → Prop) :
    ev TT cs_spec_placeOf 19 an_spec_placeOf (Try.f107.body.getD .skip) (st0 con_spec_placeOf [.c (.ro .int list0), .c (.v (.int .i64 n1))]) (fin TT con_spec_placeOf Try.f107.results.toList [.c .sc] [.c (.ro .int list0), .c (.v (.int .i64 n1))] kk) = G_spec_placeOf list0 n1 (fun list0 n1 xi5 => ∃ j, iter (evF TT cs_spec_placeOf 19 an_spec_placeOf Try.f107 [1, 0, 1, 0, 0]) nm0_spec_placeOf (kt0_spec_placeOf (fin_spec_placeOf list0 n1 kk)) j (can0_spec_placeOf list0 n1 xi5)) := by kernel_rfl
theorem e_spec_placeOf (list0 : List Int) (n1 : Int) (kk : AV → List A1 → Prop) :
    ev TT cs_spec_placeOf 19 an_spec_placeOf (Try.f107.body.getD .skip) (st0 con_spec_placeOf [.c (.ro .int list0), .c (.v (.int .i64 n1))]) (fin TT con_spec_placeOf Try.f107.results.toList [.c .sc] [.c (.ro .int list0), .c (.v (.int .i64 n1))] kk) = S_spec_placeOf list0 n1 (fun r0 => kk (.one (.c (.v (.int .i64 r0)))) []) := by
  rw [g_spec_placeOf]
  have hi0 : (fun list0 n1 xi5 => ∃ j, iter (evF TT cs_spec_placeOf 19 an_spec_placeOf Try.f107 [1, 0, 1, 0, 0]) nm0_spec_placeOf (kt0_spec_placeOf (fin_spec_placeOf list0 n1 kk)) j (can0_spec_placeOf list0 n1 xi5)) = (fun list0 n1 xi5 => ∃ j, L0_spec_placeOf list0 n1 (fun r0 => kk (.one (.c (.v (.int .i64 r0)))) []) j xi5) := by
    funext list0 n1 xi5
    refine congrArg Exists (funext fun j => ?_)
    rw [l0_spec_placeOf list0 n1 kk j xi5]
  rw [hi0]
  rfl
theorem clok_spec_placeOf : ConOK Try.prog cl_spec_placeOf := consNil
theorem cok_spec_placeOf : ConsOK Try.prog 19 cs_spec_placeOf := ⟨clok_spec_placeOf, inlNil, ovNil⟩
theorem i_spec_placeOf {vs : List A1} {kk : AV → List A1 → Prop} {motive : List A1 → Prop} (h : con_spec_placeOf.F vs kk) (H : ∀ (list0 : List Int) (n1 : Int), F_spec_placeOf list0 n1 (fun r0 => kk (.one (.c (.v (.int .i64 r0)))) []) → motive [.c (.ro .int list0), .c (.v (.int .i64 n1))]) : motive vs := by
  unfold con_spec_placeOf at h
  dsimp only at h
  split at h
  · exact H _ _ h
  · exact h.elim
theorem h_spec_placeOf : Holds Try.prog 107 con_spec_placeOf := by
  refine holds_of_ev (rt := [.c .sc]) (T := TT) (Γ := cs_spec_placeOf) (an := an_spec_placeOf) (N := 19) (c := Try.f107.body.getD .skip) Try.func107 (by kernel_rfl) Try.ntmps107 (by decide) (by decide) mixed tabOK cok_spec_placeOf (by kernel_rfl) ?_
  intro vs kk _ hF
  exact i_spec_placeOf (motive := fun vs => Goes (ev TT cs_spec_placeOf 19 an_spec_placeOf (Try.f107.body.getD .skip) (st0 con_spec_placeOf vs) (fin TT con_spec_placeOf Try.f107.results.toList [.c .sc] vs kk))) hF (fun list0 n1 hF => goes_of (e_spec_placeOf list0 n1 kk) (F_spec_placeOf_S hF))
def con_spec_without : Con := ⟨[.rd, .rd], true, [.c (.sl .int), .c (.sc)], fun vs k => match vs with
    | [.c (.ro .int list0), .c (.v (.int .i64 at1))] => F_spec_without list0 at1 (fun r0 => k (.one (.c (.ro .int r0))) [])
    | _ => False, false⟩
def cl_spec_without : List (FuncId × Con) := []
def an_spec_without : Ann := ⟨[(1, .take 1 (.take 2 (.take 3 (.take 5 (.take 6 (.take 7 (.take 8 (.alt 0 (.alt 4 (.alt 9 (.take 10 (.done)) (.none)) (.none)) (.none)))))))), [])], [], [], []⟩
def cs_spec_without : Cons := ⟨cl_spec_without, [], 0, [], [], []⟩
def fin_spec_without (list0 : List Int) (at1 : Int) (kk : AV → List A1 → Prop) : Kt := fin TT con_spec_without Try.f108.results.toList [.c (.sl .int)] [.c (.ro .int list0), .c (.v (.int .i64 at1))] kk
theorem g_spec_without (list0 : List Int) (at1 : Int) (kk : AV → List A1 → Prop) :
    ev TT cs_spec_without 15 an_spec_without (Try.f108.body.getD .skip) (st0 con_spec_without [.c (.ro .int list0), .c (.v (.int .i64 at1))]) (fin TT con_spec_without Try.f108.results.toList [.c (.sl .int)] [.c (.ro .int list0), .c (.v (.int .i64 at1))] kk) = G_spec_without list0 at1 (fun r0 => kk (.one (.c (.ro .int r0))) []) := by kernel_rfl
theorem e_spec_without (list0 : List Int) (at1 : Int) (kk : AV → List A1 → Prop) :
    ev TT cs_spec_without 15 an_spec_without (Try.f108.body.getD .skip) (st0 con_spec_without [.c (.ro .int list0), .c (.v (.int .i64 at1))]) (fin TT con_spec_without Try.f108.results.toList [.c (.sl .int)] [.c (.ro .int list0), .c (.v (.int .i64 at1))] kk) = S_spec_without list0 at1 (fun r0 => kk (.one (.c (.ro .int r0))) []) := by
  rw [g_spec_without]
  rw [G_spec_without_eq]
  rfl
theorem clok_spec_without : ConOK Try.prog cl_spec_without := consNil
theorem cok_spec_without : ConsOK Try.prog 15 cs_spec_without := ⟨clok_spec_without, inlNil, ovNil⟩
theorem i_spec_without {vs : List A1} {kk : AV → List A1 → Prop} {motive : List A1 → Prop} (h : con_spec_without.F vs kk) (H : ∀ (list0 : List Int) (at1 : Int), F_spec_without list0 at1 (fun r0 => kk (.one (.c (.ro .int r0))) []) → motive [.c (.ro .int list0), .c (.v (.int .i64 at1))]) : motive vs := by
  unfold con_spec_without at h
  dsimp only at h
  split at h
  · exact H _ _ h
  · exact h.elim
theorem h_spec_without : Holds Try.prog 108 con_spec_without := by
  refine holds_of_ev (rt := [.c (.sl .int)]) (T := TT) (Γ := cs_spec_without) (an := an_spec_without) (N := 15) (c := Try.f108.body.getD .skip) Try.func108 (by kernel_rfl) Try.ntmps108 (by decide) (by decide) mixed tabOK cok_spec_without (by kernel_rfl) ?_
  intro vs kk _ hF
  exact i_spec_without (motive := fun vs => Goes (ev TT cs_spec_without 15 an_spec_without (Try.f108.body.getD .skip) (st0 con_spec_without vs) (fin TT con_spec_without Try.f108.results.toList [.c (.sl .int)] vs kk))) hF (fun list0 at1 hF => goes_of (e_spec_without list0 at1 kk) (F_spec_without_S hF))
def con_spec_recent : Con := ⟨[.rd, .rd, .rd], true, [.c (.sl .int), .c (.sc), .c (.sc)], fun vs k => match vs with
    | [.c (.ro .int list0), .c (.v (.int .i64 room1)), .c (.v (.int .i64 key2))] => F_spec_recent list0 room1 key2 (fun r0 r1 => k (.tup [.c (.ro .int r0), .c (.v (.bool r1))]) [])
    | _ => False, false⟩
def cl_spec_recent : List (FuncId × Con) := [(107, con_spec_placeOf), (108, con_spec_without)]
def an_spec_recent : Ann := ⟨[], [], [], []⟩
def cs_spec_recent : Cons := ⟨cl_spec_recent, [], 0, [], [], []⟩
def fin_spec_recent (list0 : List Int) (room1 : Int) (key2 : Int) (kk : AV → List A1 → Prop) : Kt := fin TT con_spec_recent Try.f109.results.toList [.c (.sl .int), .c .sc] [.c (.ro .int list0), .c (.v (.int .i64 room1)), .c (.v (.int .i64 key2))] kk
theorem g_spec_recent (list0 : List Int) (room1 : Int) (key2 : Int) (kk : AV → List A1 → Prop) :
    ev TT cs_spec_recent 31 an_spec_recent (Try.f109.body.getD .skip) (st0 con_spec_recent [.c (.ro .int list0), .c (.v (.int .i64 room1)), .c (.v (.int .i64 key2))]) (fin TT con_spec_recent Try.f109.results.toList [.c (.sl .int), .c .sc] [.c (.ro .int list0), .c (.v (.int .i64 room1)), .c (.v (.int .i64 key2))] kk) = G_spec_recent list0 room1 key2 (fun r0 r1 => kk (.tup [.c (.ro .int r0), .c (.v (.bool r1))]) []) := by kernel_rfl
theorem e_spec_recent (list0 : List Int) (room1 : Int) (key2 : Int) (kk : AV → List A1 → Prop) :
    ev TT cs_spec_recent 31 an_spec_recent (Try.f109.body.getD .skip) (st0 con_spec_recent [.c (.ro .int list0), .c (.v (.int .i64 room1)), .c (.v (.int .i64 key2))]) (fin TT con_spec_recent Try.f109.results.toList [.c (.sl .int), .c .sc] [.c (.ro .int list0), .c (.v (.int .i64 room1)), .c (.v (.int .i64 key2))] kk) = S_spec_recent list0 room1 key2 (fun r0 r1 => kk (.tup [.c (.ro .int r0), .c (.v (.bool r1))]) []) := by
  rw [g_spec_recent]
  rfl
theorem clok_spec_recent : ConOK Try.prog cl_spec_recent := consCons h_spec_placeOf ⟨Try.f107, Try.func107, by kernel_rfl, ne_of_beq (by kernel_rfl)⟩ (consCons h_spec_without ⟨Try.f108, Try.func108, by kernel_rfl, ne_of_beq (by kernel_rfl)⟩ (consNil))
theorem cok_spec_recent : ConsOK Try.prog 31 cs_spec_recent := ⟨clok_spec_recent, inlNil, ovNil⟩
theorem i_spec_recent {vs : List A1} {kk : AV → List A1 → Prop} {motive : List A1 → Prop} (h : con_spec_recent.F vs kk) (H : ∀ (list0 : List Int) (room1 : Int) (key2 : Int), F_spec_recent list0 room1 key2 (fun r0 r1 => kk (.tup [.c (.ro .int r0), .c (.v (.bool r1))]) []) → motive [.c (.ro .int list0), .c (.v (.int .i64 room1)), .c (.v (.int .i64 key2))]) : motive vs := by
  unfold con_spec_recent at h
  dsimp only at h
  split at h
  · exact H _ _ _ h
  · exact h.elim
theorem h_spec_recent : Holds Try.prog 109 con_spec_recent := by
  refine holds_of_ev (rt := [.c (.sl .int), .c .sc]) (T := TT) (Γ := cs_spec_recent) (an := an_spec_recent) (N := 31) (c := Try.f109.body.getD .skip) Try.func109 (by kernel_rfl) Try.ntmps109 (by decide) (by decide) mixed tabOK cok_spec_recent (by kernel_rfl) ?_
  intro vs kk _ hF
  exact i_spec_recent (motive := fun vs => Goes (ev TT cs_spec_recent 31 an_spec_recent (Try.f109.body.getD .skip) (st0 con_spec_recent vs) (fin TT con_spec_recent Try.f109.results.toList [.c (.sl .int), .c .sc] vs kk))) hF (fun list0 room1 key2 hF => goes_of (e_spec_recent list0 room1 key2 kk) (F_spec_recent_S hF))
def con_spec_promote : Con := ⟨[.rd, .rd], true, [.agg [.sc, .sc, .sl .int, .sl .int], .c (.sc)], fun vs k => match vs with
    | [.agg [.v (.int .i64 s0Trial), .v (.int .i64 s0Safe), .ro .int s0New, .ro .int s0Old], .c (.v (.int .i64 key1))] => F_spec_promote s0Trial s0Safe s0New s0Old key1 (fun r0 r1 r2 r3 r4 => k (.tup [.agg [.v (.int .i64 r0), .v (.int .i64 r1), .ro .int r2, .ro .int r3], .c (.v (.bool r4))]) [])
    | _ => False, false⟩
def cl_spec_promote : List (FuncId × Con) := [(105, con_spec_copyInts), (107, con_spec_placeOf), (108, con_spec_without), (109, con_spec_recent)]
def an_spec_promote : Ann := ⟨[(1, .take 0 (.take 1 (.take 2 (.take 3 (.take 4 (.take 5 (.take 7 (.take 8 (.alt 6 (.alt 9 (.take 10 (.alt 11 (.alt 12 (.done) (.none)) (.none))) (.alt 11 (.alt 9 (.take 10 (.alt 12 (.done) (.none))) (.none)) (.none))) (.alt 11 (.alt 6 (.alt 9 (.take 10 (.alt 12 (.done) (.none))) (.none)) (.none)) (.none)))))))))), [32])], [], [], []⟩
def cs_spec_promote : Cons := ⟨cl_spec_promote, [], 0, [], [], []⟩
def fin_spec_promote (s0Trial : Int) (s0Safe : Int) (s0New : List Int) (s0Old : List Int) (key1 : Int) (kk : AV → List A1 → Prop) : Kt := fin TT con_spec_promote Try.f96.results.toList [.agg [.sc, .sc, .sl .int, .sl .int], .c .sc] [.agg [.v (.int .i64 s0Trial), .v (.int .i64 s0Safe), .ro .int s0New, .ro .int s0Old], .c (.v (.int .i64 key1))] kk
theorem g_spec_promote (s0Trial : Int) (s0Safe : Int) (s0New : List Int) (s0Old : List Int) (key1 : Int) (kk : AV → List A1 → Prop) :
    ev TT cs_spec_promote 88 an_spec_promote (Try.f96.body.getD .skip) (st0 con_spec_promote [.agg [.v (.int .i64 s0Trial), .v (.int .i64 s0Safe), .ro .int s0New, .ro .int s0Old], .c (.v (.int .i64 key1))]) (fin TT con_spec_promote Try.f96.results.toList [.agg [.sc, .sc, .sl .int, .sl .int], .c .sc] [.agg [.v (.int .i64 s0Trial), .v (.int .i64 s0Safe), .ro .int s0New, .ro .int s0Old], .c (.v (.int .i64 key1))] kk) = G_spec_promote s0Trial s0Safe s0New s0Old key1 (fun r0 r1 r2 r3 r4 => kk (.tup [.agg [.v (.int .i64 r0), .v (.int .i64 r1), .ro .int r2, .ro .int r3], .c (.v (.bool r4))]) []) := by kernel_rfl
theorem e_spec_promote (s0Trial : Int) (s0Safe : Int) (s0New : List Int) (s0Old : List Int) (key1 : Int) (kk : AV → List A1 → Prop) :
    ev TT cs_spec_promote 88 an_spec_promote (Try.f96.body.getD .skip) (st0 con_spec_promote [.agg [.v (.int .i64 s0Trial), .v (.int .i64 s0Safe), .ro .int s0New, .ro .int s0Old], .c (.v (.int .i64 key1))]) (fin TT con_spec_promote Try.f96.results.toList [.agg [.sc, .sc, .sl .int, .sl .int], .c .sc] [.agg [.v (.int .i64 s0Trial), .v (.int .i64 s0Safe), .ro .int s0New, .ro .int s0Old], .c (.v (.int .i64 key1))] kk) = S_spec_promote s0Trial s0Safe s0New s0Old key1 (fun r0 r1 r2 r3 r4 => kk (.tup [.agg [.v (.int .i64 r0), .v (.int .i64 r1), .ro .int r2, .ro .int r3], .c (.v (.bool r4))]) []) := by
  rw [g_spec_promote]
  rw [G_spec_promote_eq]
  rfl
theorem clok_spec_promote : ConOK Try.prog cl_spec_promote := consCons h_spec_copyInts ⟨Try.f105, Try.func105, by kernel_rfl, ne_of_beq (by kernel_rfl)⟩ (consCons h_spec_placeOf ⟨Try.f107, Try.func107, by kernel_rfl, ne_of_beq (by kernel_rfl)⟩ (consCons h_spec_without ⟨Try.f108, Try.func108, by kernel_rfl, ne_of_beq (by kernel_rfl)⟩ (consCons h_spec_recent ⟨Try.f109, Try.func109, by kernel_rfl, ne_of_beq (by kernel_rfl)⟩ (consNil))))
theorem cok_spec_promote : ConsOK Try.prog 88 cs_spec_promote := ⟨clok_spec_promote, inlNil, ovNil⟩
theorem i_spec_promote {vs : List A1} {kk : AV → List A1 → Prop} {motive : List A1 → Prop} (h : con_spec_promote.F vs kk) (H : ∀ (s0Trial : Int) (s0Safe : Int) (s0New : List Int) (s0Old : List Int) (key1 : Int), F_spec_promote s0Trial s0Safe s0New s0Old key1 (fun r0 r1 r2 r3 r4 => kk (.tup [.agg [.v (.int .i64 r0), .v (.int .i64 r1), .ro .int r2, .ro .int r3], .c (.v (.bool r4))]) []) → motive [.agg [.v (.int .i64 s0Trial), .v (.int .i64 s0Safe), .ro .int s0New, .ro .int s0Old], .c (.v (.int .i64 key1))]) : motive vs := by
  unfold con_spec_promote at h
  dsimp only at h
  split at h
  · exact H _ _ _ _ _ h
  · exact h.elim
theorem h_spec_promote : Holds Try.prog 96 con_spec_promote := by
  refine holds_of_ev (rt := [.agg [.sc, .sc, .sl .int, .sl .int], .c .sc]) (T := TT) (Γ := cs_spec_promote) (an := an_spec_promote) (N := 88) (c := Try.f96.body.getD .skip) Try.func96 (by kernel_rfl) Try.ntmps96 (by decide) (by decide) mixed tabOK cok_spec_promote (by kernel_rfl) ?_
  intro vs kk _ hF
  exact i_spec_promote (motive := fun vs => Goes (ev TT cs_spec_promote 88 an_spec_promote (Try.f96.body.getD .skip) (st0 con_spec_promote vs) (fin TT con_spec_promote Try.f96.results.toList [.agg [.sc, .sc, .sl .int, .sl .int], .c .sc] vs kk))) hF (fun s0Trial s0Safe s0New s0Old key1 hF => goes_of (e_spec_promote s0Trial s0Safe s0New s0Old key1 kk) (F_spec_promote_S hF))
def con_spec_toInt : Con := ⟨[.rd], true, [.c (.sc)], fun vs k => match vs with
    | [.c (.v (.bool b0))] => F_spec_toInt b0 (fun r0 => k (.one (.c (.v (.int .i64 r0)))) [])
    | _ => False, false⟩
def cl_spec_toInt : List (FuncId × Con) := []
def an_spec_toInt : Ann := ⟨[], [], [], []⟩
def cs_spec_toInt : Cons := ⟨cl_spec_toInt, [], 0, [], [], []⟩
def fin_spec_toInt (b0 : Bool) (kk : AV → List A1 → Prop) : Kt := fin TT con_spec_toInt Try.f97.results.toList [.c .sc] [.c (.v (.bool b0))] kk
theorem g_spec_toInt (b0 : Bool) (kk : AV → List A1 → Prop) :
    ev TT cs_spec_toInt 4 an_spec_toInt (Try.f97.body.getD .skip) (st0 con_spec_toInt [.c (.v (.bool b0))]) (fin TT con_spec_toInt Try.f97.results.toList [.c .sc] [.c (.v (.bool b0))] kk) = G_spec_toInt b0 (fun r0 => kk (.one (.c (.v (.int .i64 r0)))) []) := by kernel_rfl
theorem e_spec_toInt (b0 : Bool) (kk : AV → List A1 → Prop) :
    ev TT cs_spec_toInt 4 an_spec_toInt (Try.f97.body.getD .skip) (st0 con_spec_toInt [.c (.v (.bool b0))]) (fin TT con_spec_toInt Try.f97.results.toList [.c .sc] [.c (.v (.bool b0))] kk) = S_spec_toInt b0 (fun r0 => kk (.one (.c (.v (.int .i64 r0)))) []) := by
  rw [g_spec_toInt]
  rfl
theorem clok_spec_toInt : ConOK Try.prog cl_spec_toInt := consNil
theorem cok_spec_toInt : ConsOK Try.prog 4 cs_spec_toInt := ⟨clok_spec_toInt, inlNil, ovNil⟩
theorem i_spec_toInt {vs : List A1} {kk : AV → List A1 → Prop} {motive : List A1 → Prop} (h : con_spec_toInt.F vs kk) (H : ∀ (b0 : Bool), F_spec_toInt b0 (fun r0 => kk (.one (.c (.v (.int .i64 r0)))) []) → motive [.c (.v (.bool b0))]) : motive vs := by
  unfold con_spec_toInt at h
  dsimp only at h
  split at h
  · exact H _ h
  · exact h.elim
theorem h_spec_toInt : Holds Try.prog 97 con_spec_toInt := by
  refine holds_of_ev (rt := [.c .sc]) (T := TT) (Γ := cs_spec_toInt) (an := an_spec_toInt) (N := 4) (c := Try.f97.body.getD .skip) Try.func97 (by kernel_rfl) Try.ntmps97 (by decide) (by decide) mixed tabOK cok_spec_toInt (by kernel_rfl) ?_
  intro vs kk _ hF
  exact i_spec_toInt (motive := fun vs => Goes (ev TT cs_spec_toInt 4 an_spec_toInt (Try.f97.body.getD .skip) (st0 con_spec_toInt vs) (fin TT con_spec_toInt Try.f97.results.toList [.c .sc] vs kk))) hF (fun b0 hF => goes_of (e_spec_toInt b0 kk) (F_spec_toInt_S hF))
def con_spec_RunSegments : Con := ⟨[.rd, .rd, .rd], true, [.c (.sl .int), .c (.sc), .c (.sc)], fun vs k => match vs with
    | [.c (.ro .int t0), .c (.v (.int .i64 trial1)), .c (.v (.int .i64 safe2))] => F_spec_RunSegments t0 trial1 safe2 (fun r0 r1 r2 r3 r4 => k (.tup [.agg [.v (.int .i64 r0), .v (.int .i64 r1), .ro .int r2, .ro .int r3], .c (.v (.int .i64 r4))]) [])
    | _ => False, false⟩
def cl_spec_RunSegments : List (FuncId × Con) := [(54, con_spec_inRange), (69, con_spec_validTrace), (96, con_spec_promote), (97, con_spec_toInt)]
def nm0_spec_RunSegments : List NStep := [.ownc 128 2 .int 90000, .ownc 128 3 .int 90001, .keep [0, 6, 8, 9, 10] [96, 128, 90000, 90001]]
def an_spec_RunSegments : Ann := ⟨[(9, .take 1 (.take 2 (.take 3 (.take 4 (.alt 0 (.alt 5 (.take 6 (.take 7 (.take 8 (.alt 9 (.take 10 (.done)) (.none))))) (.none)) (.none))))), [])], [(6, nm0_spec_RunSegments)], [], []⟩
def cs_spec_RunSegments : Cons := ⟨cl_spec_RunSegments, [], 0, [], [], []⟩
def can0_spec_RunSegments (t0 : List Int) (xn9 : Int) (xi10 : Int) (xb8c0 : Int) (xb8c1 : Int) (xb8c2 : List Int) (xb8c3 : List Int) : St := ⟨[(0, .one (.c (.ro .int t0))), (6, .one (.c (.pb 96 0))), (8, .one (.c (.pb 128 0))), (9, .one (.c (.v (.int .i64 xn9)))), (10, .one (.c (.v (.int .i64 xi10))))], [(96, .box [.v (.int .i64 0), .v (.int .i64 0), .nil, .nil]), (128, .box [.v (.int .i64 xb8c0), .v (.int .i64 xb8c1), .ow 90000, .ow 90001]), (90000, .row .int xb8c2), (90001, .row .int xb8c3)]⟩
def fin_spec_RunSegments (t0 : List Int) (trial1 : Int) (safe2 : Int) (kk : AV → List A1 → Prop) : Kt := fin TT con_spec_RunSegments Try.f70.results.toList [.agg [.sc, .sc, .sl .int, .sl .int], .c .sc] [.c (.ro .int t0), .c (.v (.int .i64 trial1)), .c (.v (.int .i64 safe2))] kk
def kt0_spec_RunSegments (kf : Kt) : Kt := blockK 0 (seqK (evF TT cs_spec_RunSegments 52 an_spec_RunSegments Try.f70 [1, 1, 1, 1, 1]) (kf))
theorem r0_spec_RunSegments (t0 : List Int) (trial1 : Int) (safe2 : Int) (kk : AV → List A1 → Prop) (n : Nat) (xn9 : Int) (xi10 : Int) (xb8c0 : Int) (xb8c1 : Int) (xb8c2 : List Int) (xb8c3 : List Int) :
    iter (evF TT cs_spec_RunSegments 52 an_spec_RunSegments Try.f70 [1, 1, 1, 1, 0, 1, 0, 0]) nm0_spec_RunSegments (kt0_spec_RunSegments (fin_spec_RunSegments t0 trial1 safe2 kk)) (n + 1) (can0_spec_RunSegments t0 xn9 xi10 xb8c0 xb8c1 xb8c2 xb8c3) = T0_spec_RunSegments t0 xn9 xi10 xb8c0 xb8c1 xb8c2 xb8c3 (fun r0 r1 r2 r3 r4 => kk (.tup [.agg [.v (.int .i64 r0), .v (.int .i64 r1), .ro .int r2, .ro .int r3], .c (.v (.int .i64 r4))]) []) (fun xn9 xi10 xb8c0 xb8c1 xb8c2 xb8c3 => iter (evF TT cs_spec_RunSegments 52 an_spec_RunSegments Try.f70 [1, 1, 1, 1, 0, 1, 0, 0]) nm0_spec_RunSegments (kt0_spec_RunSegments (fin_spec_RunSegments t0 trial1 safe2 kk)) n (can0_spec_RunSegments t0 xn9 xi10 xb8c0 xb8c1 xb8c2 xb8c3)) := by kernel_rfl
theorem l0_spec_RunSegments (t0 : List Int) (trial1 : Int) (safe2 : Int) (kk : AV → List A1 → Prop) : ∀ (n : Nat) (xn9 : Int) (xi10 : Int) (xb8c0 : Int) (xb8c1 : Int) (xb8c2 : List Int) (xb8c3 : List Int), iter (evF TT cs_spec_RunSegments 52 an_spec_RunSegments Try.f70 [1, 1, 1, 1, 0, 1, 0, 0]) nm0_spec_RunSegments (kt0_spec_RunSegments (fin_spec_RunSegments t0 trial1 safe2 kk)) n (can0_spec_RunSegments t0 xn9 xi10 xb8c0 xb8c1 xb8c2 xb8c3) = L0_spec_RunSegments t0 (fun r0 r1 r2 r3 r4 => kk (.tup [.agg [.v (.int .i64 r0), .v (.int .i64 r1), .ro .int r2, .ro .int r3], .c (.v (.int .i64 r4))]) []) n xn9 xi10 xb8c0 xb8c1 xb8c2 xb8c3 := by
  intro n
  induction n with
  | zero => intros; rfl
  | succ n ih =>
    intro xn9 xi10 xb8c0 xb8c1 xb8c2 xb8c3
    rw [r0_spec_RunSegments t0 trial1 safe2 kk n xn9 xi10 xb8c0 xb8c1 xb8c2 xb8c3]
    have hb : (fun xn9 xi10 xb8c0 xb8c1 xb8c2 xb8c3 => iter (evF TT cs_spec_RunSegments 52 an_spec_RunSegments Try.f70 [1, 1, 1, 1, 0, 1, 0, 0]) nm0_spec_RunSegments (kt0_spec_RunSegments (fin_spec_RunSegments t0 trial1 safe2 kk)) n (can0_spec_RunSegments t0 xn9 xi10 xb8c0 xb8c1 xb8c2 xb8c3)) = L0_spec_RunSegments t0 (fun r0 r1 r2 r3 r4 => kk (.tup [.agg [.v (.int .i64 r0), .v (.int .i64 r1), .ro .int r2, .ro .int r3], .c (.v (.int .i64 r4))]) []) n := by
      funext xn9 xi10 xb8c0 xb8c1 xb8c2 xb8c3; exact ih xn9 xi10 xb8c0 xb8c1 xb8c2 xb8c3
    rw [hb]
    rw [T0_spec_RunSegments_eq]
    rfl
theorem g_spec_RunSegments (t0 : List Int) (trial1 : Int) (safe2 : Int) (kk : AV → List A1 → Prop) :
    ev TT cs_spec_RunSegments 52 an_spec_RunSegments (Try.f70.body.getD .skip) (st0 con_spec_RunSegments [.c (.ro .int t0), .c (.v (.int .i64 trial1)), .c (.v (.int .i64 safe2))]) (fin TT con_spec_RunSegments Try.f70.results.toList [.agg [.sc, .sc, .sl .int, .sl .int], .c .sc] [.c (.ro .int t0), .c (.v (.int .i64 trial1)), .c (.v (.int .i64 safe2))] kk) = G_spec_RunSegments t0 trial1 safe2 (fun r0 r1 r2 r3 r4 => kk (.tup [.agg [.v (.int .i64 r0), .v (.int .i64 r1), .ro .int r2, .ro .int r3], .c (.v (.int .i64 r4))]) []) (fun t0 xn9 xi10 xb8c0 xb8c1 xb8c2 xb8c3 => ∃ j, iter (evF TT cs_spec_RunSegments 52 an_spec_RunSegments Try.f70 [1, 1, 1, 1, 0, 1, 0, 0]) nm0_spec_RunSegments (kt0_spec_RunSegments (fin_spec_RunSegments t0 trial1 safe2 kk)) j (can0_spec_RunSegments t0 xn9 xi10 xb8c0 xb8c1 xb8c2 xb8c3)) := by kernel_rfl
theorem e_spec_RunSegments (t0 : List Int) (trial1 : Int) (safe2 : Int) (kk : AV → List A1 → Prop) :
    ev TT cs_spec_RunSegments 52 an_spec_RunSegments (Try.f70.body.getD .skip) (st0 con_spec_RunSegments [.c (.ro .int t0), .c (.v (.int .i64 trial1)), .c (.v (.int .i64 safe2))]) (fin TT con_spec_RunSegments Try.f70.results.toList [.agg [.sc, .sc, .sl .int, .sl .int], .c .sc] [.c (.ro .int t0), .c (.v (.int .i64 trial1)), .c (.v (.int .i64 safe2))] kk) = S_spec_RunSegments t0 trial1 safe2 (fun r0 r1 r2 r3 r4 => kk (.tup [.agg [.v (.int .i64 r0), .v (.int .i64 r1), .ro .int r2, .ro .int r3], .c (.v (.int .i64 r4))]) []) := by
  rw [g_spec_RunSegments]
  have hi0 : (fun t0 xn9 xi10 xb8c0 xb8c1 xb8c2 xb8c3 => ∃ j, iter (evF TT cs_spec_RunSegments 52 an_spec_RunSegments Try.f70 [1, 1, 1, 1, 0, 1, 0, 0]) nm0_spec_RunSegments (kt0_spec_RunSegments (fin_spec_RunSegments t0 trial1 safe2 kk)) j (can0_spec_RunSegments t0 xn9 xi10 xb8c0 xb8c1 xb8c2 xb8c3)) = (fun t0 xn9 xi10 xb8c0 xb8c1 xb8c2 xb8c3 => ∃ j, L0_spec_RunSegments t0 (fun r0 r1 r2 r3 r4 => kk (.tup [.agg [.v (.int .i64 r0), .v (.int .i64 r1), .ro .int r2, .ro .int r3], .c (.v (.int .i64 r4))]) []) j xn9 xi10 xb8c0 xb8c1 xb8c2 xb8c3) := by
    funext t0 xn9 xi10 xb8c0 xb8c1 xb8c2 xb8c3
    refine congrArg Exists (funext fun j => ?_)
    rw [l0_spec_RunSegments t0 trial1 safe2 kk j xn9 xi10 xb8c0 xb8c1 xb8c2 xb8c3]
  rw [hi0]
  rfl
theorem clok_spec_RunSegments : ConOK Try.prog cl_spec_RunSegments := consCons h_spec_inRange ⟨Try.f54, Try.func54, by kernel_rfl, ne_of_beq (by kernel_rfl)⟩ (consCons h_spec_validTrace ⟨Try.f69, Try.func69, by kernel_rfl, ne_of_beq (by kernel_rfl)⟩ (consCons h_spec_promote ⟨Try.f96, Try.func96, by kernel_rfl, ne_of_beq (by kernel_rfl)⟩ (consCons h_spec_toInt ⟨Try.f97, Try.func97, by kernel_rfl, ne_of_beq (by kernel_rfl)⟩ (consNil))))
theorem cok_spec_RunSegments : ConsOK Try.prog 52 cs_spec_RunSegments := ⟨clok_spec_RunSegments, inlNil, ovNil⟩
theorem i_spec_RunSegments {vs : List A1} {kk : AV → List A1 → Prop} {motive : List A1 → Prop} (h : con_spec_RunSegments.F vs kk) (H : ∀ (t0 : List Int) (trial1 : Int) (safe2 : Int), F_spec_RunSegments t0 trial1 safe2 (fun r0 r1 r2 r3 r4 => kk (.tup [.agg [.v (.int .i64 r0), .v (.int .i64 r1), .ro .int r2, .ro .int r3], .c (.v (.int .i64 r4))]) []) → motive [.c (.ro .int t0), .c (.v (.int .i64 trial1)), .c (.v (.int .i64 safe2))]) : motive vs := by
  unfold con_spec_RunSegments at h
  dsimp only at h
  split at h
  · exact H _ _ _ h
  · exact h.elim
theorem h_spec_RunSegments : Holds Try.prog 70 con_spec_RunSegments := by
  refine holds_of_ev (rt := [.agg [.sc, .sc, .sl .int, .sl .int], .c .sc]) (T := TT) (Γ := cs_spec_RunSegments) (an := an_spec_RunSegments) (N := 52) (c := Try.f70.body.getD .skip) Try.func70 (by kernel_rfl) Try.ntmps70 (by decide) (by decide) mixed tabOK cok_spec_RunSegments (by kernel_rfl) ?_
  intro vs kk _ hF
  exact i_spec_RunSegments (motive := fun vs => Goes (ev TT cs_spec_RunSegments 52 an_spec_RunSegments (Try.f70.body.getD .skip) (st0 con_spec_RunSegments vs) (fin TT con_spec_RunSegments Try.f70.results.toList [.agg [.sc, .sc, .sl .int, .sl .int], .c .sc] vs kk))) hF (fun t0 trial1 safe2 hF => goes_of (e_spec_RunSegments t0 trial1 safe2 kk) (F_spec_RunSegments_S hF))
def con_spec_BestSplit : Con := ⟨[.rd, .rd], true, [.c (.sl .int), .c (.sc)], fun vs k => match vs with
    | [.c (.ro .int t0), .c (.v (.int .i64 room1))] => F_spec_BestSplit t0 room1 (fun r0 => k (.one (.c (.v (.int .i64 r0)))) [])
    | _ => False, false⟩
def cl_spec_BestSplit : List (FuncId × Con) := [(54, con_spec_inRange), (69, con_spec_validTrace), (70, con_spec_RunSegments)]
def nm0_spec_BestSplit : List NStep := [.keep [0, 1, 5, 6, 7] []]
def an_spec_BestSplit : Ann := ⟨[], [(6, nm0_spec_BestSplit)], [], []⟩
def cs_spec_BestSplit : Cons := ⟨cl_spec_BestSplit, [], 0, [], [], []⟩
def can0_spec_BestSplit (room1 : Int) (t0 : List Int) (xat5 : Int) (xmost6 : Int) (xtrial7 : Int) : St := ⟨[(0, .one (.c (.ro .int t0))), (1, .one (.c (.v (.int .i64 room1)))), (5, .one (.c (.v (.int .i64 xat5)))), (6, .one (.c (.v (.int .i64 xmost6)))), (7, .one (.c (.v (.int .i64 xtrial7))))], []⟩
def fin_spec_BestSplit (t0 : List Int) (room1 : Int) (kk : AV → List A1 → Prop) : Kt := fin TT con_spec_BestSplit Try.f25.results.toList [.c .sc] [.c (.ro .int t0), .c (.v (.int .i64 room1))] kk
def kt0_spec_BestSplit (kf : Kt) : Kt := blockK 0 (seqK (evF TT cs_spec_BestSplit 38 an_spec_BestSplit Try.f25 [1, 1, 1, 1, 1]) (kf))
theorem r0_spec_BestSplit (t0 : List Int) (room1 : Int) (kk : AV → List A1 → Prop) (n : Nat) (xat5 : Int) (xmost6 : Int) (xtrial7 : Int) :
    iter (evF TT cs_spec_BestSplit 38 an_spec_BestSplit Try.f25 [1, 1, 1, 1, 0, 1, 0, 0]) nm0_spec_BestSplit (kt0_spec_BestSplit (fin_spec_BestSplit t0 room1 kk)) (n + 1) (can0_spec_BestSplit room1 t0 xat5 xmost6 xtrial7) = T0_spec_BestSplit room1 t0 xat5 xmost6 xtrial7 (fun r0 => kk (.one (.c (.v (.int .i64 r0)))) []) (fun xat5 xmost6 xtrial7 => iter (evF TT cs_spec_BestSplit 38 an_spec_BestSplit Try.f25 [1, 1, 1, 1, 0, 1, 0, 0]) nm0_spec_BestSplit (kt0_spec_BestSplit (fin_spec_BestSplit t0 room1 kk)) n (can0_spec_BestSplit room1 t0 xat5 xmost6 xtrial7)) := by kernel_rfl
theorem l0_spec_BestSplit (t0 : List Int) (room1 : Int) (kk : AV → List A1 → Prop) : ∀ (n : Nat) (xat5 : Int) (xmost6 : Int) (xtrial7 : Int), iter (evF TT cs_spec_BestSplit 38 an_spec_BestSplit Try.f25 [1, 1, 1, 1, 0, 1, 0, 0]) nm0_spec_BestSplit (kt0_spec_BestSplit (fin_spec_BestSplit t0 room1 kk)) n (can0_spec_BestSplit room1 t0 xat5 xmost6 xtrial7) = L0_spec_BestSplit room1 t0 (fun r0 => kk (.one (.c (.v (.int .i64 r0)))) []) n xat5 xmost6 xtrial7 := by
  intro n
  induction n with
  | zero => intros; rfl
  | succ n ih =>
    intro xat5 xmost6 xtrial7
    rw [r0_spec_BestSplit t0 room1 kk n xat5 xmost6 xtrial7]
    have hb : (fun xat5 xmost6 xtrial7 => iter (evF TT cs_spec_BestSplit 38 an_spec_BestSplit Try.f25 [1, 1, 1, 1, 0, 1, 0, 0]) nm0_spec_BestSplit (kt0_spec_BestSplit (fin_spec_BestSplit t0 room1 kk)) n (can0_spec_BestSplit room1 t0 xat5 xmost6 xtrial7)) = L0_spec_BestSplit room1 t0 (fun r0 => kk (.one (.c (.v (.int .i64 r0)))) []) n := by
      funext xat5 xmost6 xtrial7; exact ih xat5 xmost6 xtrial7
    rw [hb]
    rfl
theorem g_spec_BestSplit (t0 : List Int) (room1 : Int) (kk : AV → List A1 → Prop) :
    ev TT cs_spec_BestSplit 38 an_spec_BestSplit (Try.f25.body.getD .skip) (st0 con_spec_BestSplit [.c (.ro .int t0), .c (.v (.int .i64 room1))]) (fin TT con_spec_BestSplit Try.f25.results.toList [.c .sc] [.c (.ro .int t0), .c (.v (.int .i64 room1))] kk) = G_spec_BestSplit t0 room1 (fun r0 => kk (.one (.c (.v (.int .i64 r0)))) []) (fun room1 t0 xat5 xmost6 xtrial7 => ∃ j, iter (evF TT cs_spec_BestSplit 38 an_spec_BestSplit Try.f25 [1, 1, 1, 1, 0, 1, 0, 0]) nm0_spec_BestSplit (kt0_spec_BestSplit (fin_spec_BestSplit t0 room1 kk)) j (can0_spec_BestSplit room1 t0 xat5 xmost6 xtrial7)) := by kernel_rfl
theorem e_spec_BestSplit (t0 : List Int) (room1 : Int) (kk : AV → List A1 → Prop) :
    ev TT cs_spec_BestSplit 38 an_spec_BestSplit (Try.f25.body.getD .skip) (st0 con_spec_BestSplit [.c (.ro .int t0), .c (.v (.int .i64 room1))]) (fin TT con_spec_BestSplit Try.f25.results.toList [.c .sc] [.c (.ro .int t0), .c (.v (.int .i64 room1))] kk) = S_spec_BestSplit t0 room1 (fun r0 => kk (.one (.c (.v (.int .i64 r0)))) []) := by
  rw [g_spec_BestSplit]
  have hi0 : (fun room1 t0 xat5 xmost6 xtrial7 => ∃ j, iter (evF TT cs_spec_BestSplit 38 an_spec_BestSplit Try.f25 [1, 1, 1, 1, 0, 1, 0, 0]) nm0_spec_BestSplit (kt0_spec_BestSplit (fin_spec_BestSplit t0 room1 kk)) j (can0_spec_BestSplit room1 t0 xat5 xmost6 xtrial7)) = (fun room1 t0 xat5 xmost6 xtrial7 => ∃ j, L0_spec_BestSplit room1 t0 (fun r0 => kk (.one (.c (.v (.int .i64 r0)))) []) j xat5 xmost6 xtrial7) := by
    funext room1 t0 xat5 xmost6 xtrial7
    refine congrArg Exists (funext fun j => ?_)
    rw [l0_spec_BestSplit t0 room1 kk j xat5 xmost6 xtrial7]
  rw [hi0]
  rfl
theorem clok_spec_BestSplit : ConOK Try.prog cl_spec_BestSplit := consCons h_spec_inRange ⟨Try.f54, Try.func54, by kernel_rfl, ne_of_beq (by kernel_rfl)⟩ (consCons h_spec_validTrace ⟨Try.f69, Try.func69, by kernel_rfl, ne_of_beq (by kernel_rfl)⟩ (consCons h_spec_RunSegments ⟨Try.f70, Try.func70, by kernel_rfl, ne_of_beq (by kernel_rfl)⟩ (consNil)))
theorem cok_spec_BestSplit : ConsOK Try.prog 38 cs_spec_BestSplit := ⟨clok_spec_BestSplit, inlNil, ovNil⟩
theorem i_spec_BestSplit {vs : List A1} {kk : AV → List A1 → Prop} {motive : List A1 → Prop} (h : con_spec_BestSplit.F vs kk) (H : ∀ (t0 : List Int) (room1 : Int), F_spec_BestSplit t0 room1 (fun r0 => kk (.one (.c (.v (.int .i64 r0)))) []) → motive [.c (.ro .int t0), .c (.v (.int .i64 room1))]) : motive vs := by
  unfold con_spec_BestSplit at h
  dsimp only at h
  split at h
  · exact H _ _ h
  · exact h.elim
theorem h_spec_BestSplit : Holds Try.prog 25 con_spec_BestSplit := by
  refine holds_of_ev (rt := [.c .sc]) (T := TT) (Γ := cs_spec_BestSplit) (an := an_spec_BestSplit) (N := 38) (c := Try.f25.body.getD .skip) Try.func25 (by kernel_rfl) Try.ntmps25 (by decide) (by decide) mixed tabOK cok_spec_BestSplit (by kernel_rfl) ?_
  intro vs kk _ hF
  exact i_spec_BestSplit (motive := fun vs => Goes (ev TT cs_spec_BestSplit 38 an_spec_BestSplit (Try.f25.body.getD .skip) (st0 con_spec_BestSplit vs) (fin TT con_spec_BestSplit Try.f25.results.toList [.c .sc] vs kk))) hF (fun t0 room1 hF => goes_of (e_spec_BestSplit t0 room1 kk) (F_spec_BestSplit_S hF))
def con_impl_validPlace : Con := ⟨[.rd, .rd], true, [.c (.sl .int), .c (.sc)], fun vs k => match vs with
    | [.c (.ro .int t0), .c (.v (.int .i64 place1))] => F_impl_validPlace t0 place1 (fun r0 => k (.one (.c (.v (.bool r0)))) [])
    | _ => False, false⟩
def cl_impl_validPlace : List (FuncId × Con) := []
def an_impl_validPlace : Ann := ⟨[], [], [], []⟩
def cs_impl_validPlace : Cons := ⟨cl_impl_validPlace, [], 0, [], [], []⟩
def fin_impl_validPlace (t0 : List Int) (place1 : Int) (kk : AV → List A1 → Prop) : Kt := fin TT con_impl_validPlace Try.f111.results.toList [.c .sc] [.c (.ro .int t0), .c (.v (.int .i64 place1))] kk
theorem g_impl_validPlace (t0 : List Int) (place1 : Int) (kk : AV → List A1 → Prop) :
    ev TT cs_impl_validPlace 13 an_impl_validPlace (Try.f111.body.getD .skip) (st0 con_impl_validPlace [.c (.ro .int t0), .c (.v (.int .i64 place1))]) (fin TT con_impl_validPlace Try.f111.results.toList [.c .sc] [.c (.ro .int t0), .c (.v (.int .i64 place1))] kk) = G_impl_validPlace t0 place1 (fun r0 => kk (.one (.c (.v (.bool r0)))) []) := by kernel_rfl
theorem e_impl_validPlace (t0 : List Int) (place1 : Int) (kk : AV → List A1 → Prop) :
    ev TT cs_impl_validPlace 13 an_impl_validPlace (Try.f111.body.getD .skip) (st0 con_impl_validPlace [.c (.ro .int t0), .c (.v (.int .i64 place1))]) (fin TT con_impl_validPlace Try.f111.results.toList [.c .sc] [.c (.ro .int t0), .c (.v (.int .i64 place1))] kk) = S_impl_validPlace t0 place1 (fun r0 => kk (.one (.c (.v (.bool r0)))) []) := by
  rw [g_impl_validPlace]
  rfl
theorem clok_impl_validPlace : ConOK Try.prog cl_impl_validPlace := consNil
theorem cok_impl_validPlace : ConsOK Try.prog 13 cs_impl_validPlace := ⟨clok_impl_validPlace, inlNil, ovNil⟩
theorem i_impl_validPlace {vs : List A1} {kk : AV → List A1 → Prop} {motive : List A1 → Prop} (h : con_impl_validPlace.F vs kk) (H : ∀ (t0 : List Int) (place1 : Int), F_impl_validPlace t0 place1 (fun r0 => kk (.one (.c (.v (.bool r0)))) []) → motive [.c (.ro .int t0), .c (.v (.int .i64 place1))]) : motive vs := by
  unfold con_impl_validPlace at h
  dsimp only at h
  split at h
  · exact H _ _ h
  · exact h.elim
theorem h_impl_validPlace : Holds Try.prog 111 con_impl_validPlace := by
  refine holds_of_ev (rt := [.c .sc]) (T := TT) (Γ := cs_impl_validPlace) (an := an_impl_validPlace) (N := 13) (c := Try.f111.body.getD .skip) Try.func111 (by kernel_rfl) Try.ntmps111 (by decide) (by decide) mixed tabOK cok_impl_validPlace (by kernel_rfl) ?_
  intro vs kk _ hF
  exact i_impl_validPlace (motive := fun vs => Goes (ev TT cs_impl_validPlace 13 an_impl_validPlace (Try.f111.body.getD .skip) (st0 con_impl_validPlace vs) (fin TT con_impl_validPlace Try.f111.results.toList [.c .sc] vs kk))) hF (fun t0 place1 hF => goes_of (e_impl_validPlace t0 place1 kk) (F_impl_validPlace_S hF))
def con_impl_NextUse : Con := ⟨[.rd, .rd, .rd], true, [.c (.sl .int), .c (.sc), .c (.sc)], fun vs k => match vs with
    | [.c (.ro .int t0), .c (.v (.int .i64 from1)), .c (.v (.int .i64 key2))] => F_impl_NextUse t0 from1 key2 (fun r0 => k (.one (.c (.v (.int .i64 r0)))) [])
    | _ => False, false⟩
def cl_impl_NextUse : List (FuncId × Con) := [(50, con_impl_validKey), (65, con_impl_ValidTrace), (100, con_slices_Index_sint_int), (111, con_impl_validPlace)]
def an_impl_NextUse : Ann := ⟨[], [], [], []⟩
def cs_impl_NextUse : Cons := ⟨cl_impl_NextUse, [], 0, [], [], []⟩
def fin_impl_NextUse (t0 : List Int) (from1 : Int) (key2 : Int) (kk : AV → List A1 → Prop) : Kt := fin TT con_impl_NextUse Try.f101.results.toList [.c .sc] [.c (.ro .int t0), .c (.v (.int .i64 from1)), .c (.v (.int .i64 key2))] kk
theorem g_impl_NextUse (t0 : List Int) (from1 : Int) (key2 : Int) (kk : AV → List A1 → Prop) :
    ev TT cs_impl_NextUse 34 an_impl_NextUse (Try.f101.body.getD .skip) (st0 con_impl_NextUse [.c (.ro .int t0), .c (.v (.int .i64 from1)), .c (.v (.int .i64 key2))]) (fin TT con_impl_NextUse Try.f101.results.toList [.c .sc] [.c (.ro .int t0), .c (.v (.int .i64 from1)), .c (.v (.int .i64 key2))] kk) = G_impl_NextUse t0 from1 key2 (fun r0 => kk (.one (.c (.v (.int .i64 r0)))) []) := by kernel_rfl
theorem e_impl_NextUse (t0 : List Int) (from1 : Int) (key2 : Int) (kk : AV → List A1 → Prop) :
    ev TT cs_impl_NextUse 34 an_impl_NextUse (Try.f101.body.getD .skip) (st0 con_impl_NextUse [.c (.ro .int t0), .c (.v (.int .i64 from1)), .c (.v (.int .i64 key2))]) (fin TT con_impl_NextUse Try.f101.results.toList [.c .sc] [.c (.ro .int t0), .c (.v (.int .i64 from1)), .c (.v (.int .i64 key2))] kk) = S_impl_NextUse t0 from1 key2 (fun r0 => kk (.one (.c (.v (.int .i64 r0)))) []) := by
  rw [g_impl_NextUse]
  rfl
theorem clok_impl_NextUse : ConOK Try.prog cl_impl_NextUse := consCons h_impl_validKey ⟨Try.f50, Try.func50, by kernel_rfl, ne_of_beq (by kernel_rfl)⟩ (consCons h_impl_ValidTrace ⟨Try.f65, Try.func65, by kernel_rfl, ne_of_beq (by kernel_rfl)⟩ (consCons h_slices_Index_sint_int ⟨Try.f100, Try.func100, by kernel_rfl, ne_of_beq (by kernel_rfl)⟩ (consCons h_impl_validPlace ⟨Try.f111, Try.func111, by kernel_rfl, ne_of_beq (by kernel_rfl)⟩ (consNil))))
theorem cok_impl_NextUse : ConsOK Try.prog 34 cs_impl_NextUse := ⟨clok_impl_NextUse, inlNil, ovNil⟩
theorem i_impl_NextUse {vs : List A1} {kk : AV → List A1 → Prop} {motive : List A1 → Prop} (h : con_impl_NextUse.F vs kk) (H : ∀ (t0 : List Int) (from1 : Int) (key2 : Int), F_impl_NextUse t0 from1 key2 (fun r0 => kk (.one (.c (.v (.int .i64 r0)))) []) → motive [.c (.ro .int t0), .c (.v (.int .i64 from1)), .c (.v (.int .i64 key2))]) : motive vs := by
  unfold con_impl_NextUse at h
  dsimp only at h
  split at h
  · exact H _ _ _ h
  · exact h.elim
theorem h_impl_NextUse : Holds Try.prog 101 con_impl_NextUse := by
  refine holds_of_ev (rt := [.c .sc]) (T := TT) (Γ := cs_impl_NextUse) (an := an_impl_NextUse) (N := 34) (c := Try.f101.body.getD .skip) Try.func101 (by kernel_rfl) Try.ntmps101 (by decide) (by decide) mixed tabOK cok_impl_NextUse (by kernel_rfl) ?_
  intro vs kk _ hF
  exact i_impl_NextUse (motive := fun vs => Goes (ev TT cs_impl_NextUse 34 an_impl_NextUse (Try.f101.body.getD .skip) (st0 con_impl_NextUse vs) (fin TT con_impl_NextUse Try.f101.results.toList [.c .sc] vs kk))) hF (fun t0 from1 key2 hF => goes_of (e_impl_NextUse t0 from1 key2 kk) (F_impl_NextUse_S hF))
def con_impl_latestKey : Con := ⟨[.rd, .rd, .rd], true, [.c (.sl .int), .c (.sc), .c (.sl .int)], fun vs k => match vs with
    | [.c (.ro .int t0), .c (.v (.int .i64 from1)), .c (.ro .int cache2)] => F_impl_latestKey t0 from1 cache2 (fun r0 => k (.one (.c (.v (.int .i64 r0)))) [])
    | _ => False, false⟩
def cl_impl_latestKey : List (FuncId × Con) := [(101, con_impl_NextUse)]
def nm0_impl_latestKey : List NStep := [.keep [0, 1, 7, 13, 14, 15] []]
def an_impl_latestKey : Ann := ⟨[], [(3, nm0_impl_latestKey)], [], []⟩
def cs_impl_latestKey : Cons := ⟨cl_impl_latestKey, [], 0, [], [], []⟩
def can0_impl_latestKey (cache2 : List Int) (from1 : Int) (t0 : List Int) (xt14 : Int) (xlatest7 : Int) (xt15 : Int) : St := ⟨[(0, .one (.c (.ro .int t0))), (1, .one (.c (.v (.int .i64 from1)))), (7, .one (.c (.v (.int .i64 xlatest7)))), (13, .one (.c (.ro .int cache2))), (14, .one (.c (.v (.int .i64 xt14)))), (15, .one (.c (.v (.int .i64 xt15))))], []⟩
def fin_impl_latestKey (t0 : List Int) (from1 : Int) (cache2 : List Int) (kk : AV → List A1 → Prop) : Kt := fin TT con_impl_latestKey Try.f75.results.toList [.c .sc] [.c (.ro .int t0), .c (.v (.int .i64 from1)), .c (.ro .int cache2)] kk
def kt0_impl_latestKey (kf : Kt) : Kt := blockK 0 (seqK (evF TT cs_impl_latestKey 31 an_impl_latestKey Try.f75 [1, 1, 1]) (kf))
theorem r0_impl_latestKey (t0 : List Int) (from1 : Int) (cache2 : List Int) (xt14 : Int) (kk : AV → List A1 → Prop) (n : Nat) (xlatest7 : Int) (xt15 : Int) :
    iter (evF TT cs_impl_latestKey 31 an_impl_latestKey Try.f75 [1, 1, 0, 1, 0, 0]) nm0_impl_latestKey (kt0_impl_latestKey (fin_impl_latestKey t0 from1 cache2 kk)) (n + 1) (can0_impl_latestKey cache2 from1 t0 xt14 xlatest7 xt15) = T0_impl_latestKey cache2 from1 t0 xt14 xlatest7 xt15 (fun r0 => kk (.one (.c (.v (.int .i64 r0)))) []) (fun xlatest7 xt15 => iter (evF TT cs_impl_latestKey 31 an_impl_latestKey Try.f75 [1, 1, 0, 1, 0, 0]) nm0_impl_latestKey (kt0_impl_latestKey (fin_impl_latestKey t0 from1 cache2 kk)) n (can0_impl_latestKey cache2 from1 t0 xt14 xlatest7 xt15)) := by kernel_rfl
theorem l0_impl_latestKey (t0 : List Int) (from1 : Int) (cache2 : List Int) (xt14 : Int) (kk : AV → List A1 → Prop) : ∀ (n : Nat) (xlatest7 : Int) (xt15 : Int), iter (evF TT cs_impl_latestKey 31 an_impl_latestKey Try.f75 [1, 1, 0, 1, 0, 0]) nm0_impl_latestKey (kt0_impl_latestKey (fin_impl_latestKey t0 from1 cache2 kk)) n (can0_impl_latestKey cache2 from1 t0 xt14 xlatest7 xt15) = L0_impl_latestKey cache2 from1 t0 xt14 (fun r0 => kk (.one (.c (.v (.int .i64 r0)))) []) n xlatest7 xt15 := by
  intro n
  induction n with
  | zero => intros; rfl
  | succ n ih =>
    intro xlatest7 xt15
    rw [r0_impl_latestKey t0 from1 cache2 xt14 kk n xlatest7 xt15]
    have hb : (fun xlatest7 xt15 => iter (evF TT cs_impl_latestKey 31 an_impl_latestKey Try.f75 [1, 1, 0, 1, 0, 0]) nm0_impl_latestKey (kt0_impl_latestKey (fin_impl_latestKey t0 from1 cache2 kk)) n (can0_impl_latestKey cache2 from1 t0 xt14 xlatest7 xt15)) = L0_impl_latestKey cache2 from1 t0 xt14 (fun r0 => kk (.one (.c (.v (.int .i64 r0)))) []) n := by
      funext xlatest7 xt15; exact ih xlatest7 xt15
    rw [hb]
    rfl
theorem g_impl_latestKey (t0 : List Int) (from1 : Int) (cache2 : List Int) (kk : AV → List A1 → Prop) :
    ev TT cs_impl_latestKey 31 an_impl_latestKey (Try.f75.body.getD .skip) (st0 con_impl_latestKey [.c (.ro .int t0), .c (.v (.int .i64 from1)), .c (.ro .int cache2)]) (fin TT con_impl_latestKey Try.f75.results.toList [.c .sc] [.c (.ro .int t0), .c (.v (.int .i64 from1)), .c (.ro .int cache2)] kk) = G_impl_latestKey t0 from1 cache2 (fun cache2 from1 t0 xt14 xlatest7 xt15 => ∃ j, iter (evF TT cs_impl_latestKey 31 an_impl_latestKey Try.f75 [1, 1, 0, 1, 0, 0]) nm0_impl_latestKey (kt0_impl_latestKey (fin_impl_latestKey t0 from1 cache2 kk)) j (can0_impl_latestKey cache2 from1 t0 xt14 xlatest7 xt15)) := by kernel_rfl
theorem e_impl_latestKey (t0 : List Int) (from1 : Int) (cache2 : List Int) (kk : AV → List A1 → Prop) :
    ev TT cs_impl_latestKey 31 an_impl_latestKey (Try.f75.body.getD .skip) (st0 con_impl_latestKey [.c (.ro .int t0), .c (.v (.int .i64 from1)), .c (.ro .int cache2)]) (fin TT con_impl_latestKey Try.f75.results.toList [.c .sc] [.c (.ro .int t0), .c (.v (.int .i64 from1)), .c (.ro .int cache2)] kk) = S_impl_latestKey t0 from1 cache2 (fun r0 => kk (.one (.c (.v (.int .i64 r0)))) []) := by
  rw [g_impl_latestKey]
  have hi0 : (fun cache2 from1 t0 xt14 xlatest7 xt15 => ∃ j, iter (evF TT cs_impl_latestKey 31 an_impl_latestKey Try.f75 [1, 1, 0, 1, 0, 0]) nm0_impl_latestKey (kt0_impl_latestKey (fin_impl_latestKey t0 from1 cache2 kk)) j (can0_impl_latestKey cache2 from1 t0 xt14 xlatest7 xt15)) = (fun cache2 from1 t0 xt14 xlatest7 xt15 => ∃ j, L0_impl_latestKey cache2 from1 t0 xt14 (fun r0 => kk (.one (.c (.v (.int .i64 r0)))) []) j xlatest7 xt15) := by
    funext cache2 from1 t0 xt14 xlatest7 xt15
    refine congrArg Exists (funext fun j => ?_)
    rw [l0_impl_latestKey t0 from1 cache2 xt14 kk j xlatest7 xt15]
  rw [hi0]
  rfl
theorem clok_impl_latestKey : ConOK Try.prog cl_impl_latestKey := consCons h_impl_NextUse ⟨Try.f101, Try.func101, by kernel_rfl, ne_of_beq (by kernel_rfl)⟩ (consNil)
theorem cok_impl_latestKey : ConsOK Try.prog 31 cs_impl_latestKey := ⟨clok_impl_latestKey, inlNil, ovNil⟩
theorem i_impl_latestKey {vs : List A1} {kk : AV → List A1 → Prop} {motive : List A1 → Prop} (h : con_impl_latestKey.F vs kk) (H : ∀ (t0 : List Int) (from1 : Int) (cache2 : List Int), F_impl_latestKey t0 from1 cache2 (fun r0 => kk (.one (.c (.v (.int .i64 r0)))) []) → motive [.c (.ro .int t0), .c (.v (.int .i64 from1)), .c (.ro .int cache2)]) : motive vs := by
  unfold con_impl_latestKey at h
  dsimp only at h
  split at h
  · exact H _ _ _ h
  · exact h.elim
theorem h_impl_latestKey : Holds Try.prog 75 con_impl_latestKey := by
  refine holds_of_ev (rt := [.c .sc]) (T := TT) (Γ := cs_impl_latestKey) (an := an_impl_latestKey) (N := 31) (c := Try.f75.body.getD .skip) Try.func75 (by kernel_rfl) Try.ntmps75 (by decide) (by decide) mixed tabOK cok_impl_latestKey (by kernel_rfl) ?_
  intro vs kk _ hF
  exact i_impl_latestKey (motive := fun vs => Goes (ev TT cs_impl_latestKey 31 an_impl_latestKey (Try.f75.body.getD .skip) (st0 con_impl_latestKey vs) (fin TT con_impl_latestKey Try.f75.results.toList [.c .sc] vs kk))) hF (fun t0 from1 cache2 hF => goes_of (e_impl_latestKey t0 from1 cache2 kk) (F_impl_latestKey_S hF))
def con_impl_BestHits : Con := ⟨[.rd, .rd], true, [.c (.sl .int), .c (.sc)], fun vs k => match vs with
    | [.c (.ro .int t0), .c (.v (.int .i64 room1))] => F_impl_BestHits t0 room1 (fun r0 => k (.one (.c (.v (.int .i64 r0)))) [])
    | _ => False, false⟩
def cl_impl_BestHits : List (FuncId × Con) := [(65, con_impl_ValidTrace), (66, con_impl_validRoom), (73, con_slices_Contains_sint_int), (74, con_impl_withoutKey), (75, con_impl_latestKey)]
def nm0_impl_BestHits : List NStep := [.own 5 .int 90000, .keep [0, 1, 5, 6, 18, 19, 20] [90000]]
def an_impl_BestHits : Ann := ⟨[], [(6, nm0_impl_BestHits)], [], []⟩
def cs_impl_BestHits : Cons := ⟨cl_impl_BestHits, [], 0, [], [], []⟩
def can0_impl_BestHits (room1 : Int) (t0 : List Int) (xt19 : Int) (xhits6 : Int) (xt20 : Int) (xcache5 : List Int) : St := ⟨[(0, .one (.c (.ro .int t0))), (1, .one (.c (.v (.int .i64 room1)))), (5, .one (.c (.ow 90000))), (6, .one (.c (.v (.int .i64 xhits6)))), (18, .one (.c (.ro .int t0))), (19, .one (.c (.v (.int .i64 xt19)))), (20, .one (.c (.v (.int .i64 xt20))))], [(90000, .row .int xcache5)]⟩
def fin_impl_BestHits (t0 : List Int) (room1 : Int) (kk : AV → List A1 → Prop) : Kt := fin TT con_impl_BestHits Try.f27.results.toList [.c .sc] [.c (.ro .int t0), .c (.v (.int .i64 room1))] kk
def kt0_impl_BestHits (kf : Kt) : Kt := blockK 0 (seqK (evF TT cs_impl_BestHits 47 an_impl_BestHits Try.f27 [1, 1, 1, 1, 1]) (kf))
theorem r0_impl_BestHits (t0 : List Int) (room1 : Int) (xt19 : Int) (kk : AV → List A1 → Prop) (n : Nat) (xhits6 : Int) (xt20 : Int) (xcache5 : List Int) :
    iter (evF TT cs_impl_BestHits 47 an_impl_BestHits Try.f27 [1, 1, 1, 1, 0, 1, 0, 0]) nm0_impl_BestHits (kt0_impl_BestHits (fin_impl_BestHits t0 room1 kk)) (n + 1) (can0_impl_BestHits room1 t0 xt19 xhits6 xt20 xcache5) = T0_impl_BestHits room1 t0 xt19 xhits6 xt20 xcache5 (fun r0 => kk (.one (.c (.v (.int .i64 r0)))) []) (fun xhits6 xt20 xcache5 => iter (evF TT cs_impl_BestHits 47 an_impl_BestHits Try.f27 [1, 1, 1, 1, 0, 1, 0, 0]) nm0_impl_BestHits (kt0_impl_BestHits (fin_impl_BestHits t0 room1 kk)) n (can0_impl_BestHits room1 t0 xt19 xhits6 xt20 xcache5)) := by kernel_rfl
theorem l0_impl_BestHits (t0 : List Int) (room1 : Int) (xt19 : Int) (kk : AV → List A1 → Prop) : ∀ (n : Nat) (xhits6 : Int) (xt20 : Int) (xcache5 : List Int), iter (evF TT cs_impl_BestHits 47 an_impl_BestHits Try.f27 [1, 1, 1, 1, 0, 1, 0, 0]) nm0_impl_BestHits (kt0_impl_BestHits (fin_impl_BestHits t0 room1 kk)) n (can0_impl_BestHits room1 t0 xt19 xhits6 xt20 xcache5) = L0_impl_BestHits room1 t0 xt19 (fun r0 => kk (.one (.c (.v (.int .i64 r0)))) []) n xhits6 xt20 xcache5 := by
  intro n
  induction n with
  | zero => intros; rfl
  | succ n ih =>
    intro xhits6 xt20 xcache5
    rw [r0_impl_BestHits t0 room1 xt19 kk n xhits6 xt20 xcache5]
    have hb : (fun xhits6 xt20 xcache5 => iter (evF TT cs_impl_BestHits 47 an_impl_BestHits Try.f27 [1, 1, 1, 1, 0, 1, 0, 0]) nm0_impl_BestHits (kt0_impl_BestHits (fin_impl_BestHits t0 room1 kk)) n (can0_impl_BestHits room1 t0 xt19 xhits6 xt20 xcache5)) = L0_impl_BestHits room1 t0 xt19 (fun r0 => kk (.one (.c (.v (.int .i64 r0)))) []) n := by
      funext xhits6 xt20 xcache5; exact ih xhits6 xt20 xcache5
    rw [hb]
    rfl
theorem g_impl_BestHits (t0 : List Int) (room1 : Int) (kk : AV → List A1 → Prop) :
    ev TT cs_impl_BestHits 47 an_impl_BestHits (Try.f27.body.getD .skip) (st0 con_impl_BestHits [.c (.ro .int t0), .c (.v (.int .i64 room1))]) (fin TT con_impl_BestHits Try.f27.results.toList [.c .sc] [.c (.ro .int t0), .c (.v (.int .i64 room1))] kk) = G_impl_BestHits t0 room1 (fun r0 => kk (.one (.c (.v (.int .i64 r0)))) []) (fun room1 t0 xt19 xhits6 xt20 xcache5 => ∃ j, iter (evF TT cs_impl_BestHits 47 an_impl_BestHits Try.f27 [1, 1, 1, 1, 0, 1, 0, 0]) nm0_impl_BestHits (kt0_impl_BestHits (fin_impl_BestHits t0 room1 kk)) j (can0_impl_BestHits room1 t0 xt19 xhits6 xt20 xcache5)) := by kernel_rfl
theorem e_impl_BestHits (t0 : List Int) (room1 : Int) (kk : AV → List A1 → Prop) :
    ev TT cs_impl_BestHits 47 an_impl_BestHits (Try.f27.body.getD .skip) (st0 con_impl_BestHits [.c (.ro .int t0), .c (.v (.int .i64 room1))]) (fin TT con_impl_BestHits Try.f27.results.toList [.c .sc] [.c (.ro .int t0), .c (.v (.int .i64 room1))] kk) = S_impl_BestHits t0 room1 (fun r0 => kk (.one (.c (.v (.int .i64 r0)))) []) := by
  rw [g_impl_BestHits]
  have hi0 : (fun room1 t0 xt19 xhits6 xt20 xcache5 => ∃ j, iter (evF TT cs_impl_BestHits 47 an_impl_BestHits Try.f27 [1, 1, 1, 1, 0, 1, 0, 0]) nm0_impl_BestHits (kt0_impl_BestHits (fin_impl_BestHits t0 room1 kk)) j (can0_impl_BestHits room1 t0 xt19 xhits6 xt20 xcache5)) = (fun room1 t0 xt19 xhits6 xt20 xcache5 => ∃ j, L0_impl_BestHits room1 t0 xt19 (fun r0 => kk (.one (.c (.v (.int .i64 r0)))) []) j xhits6 xt20 xcache5) := by
    funext room1 t0 xt19 xhits6 xt20 xcache5
    refine congrArg Exists (funext fun j => ?_)
    rw [l0_impl_BestHits t0 room1 xt19 kk j xhits6 xt20 xcache5]
  rw [hi0]
  rfl
theorem clok_impl_BestHits : ConOK Try.prog cl_impl_BestHits := consCons h_impl_ValidTrace ⟨Try.f65, Try.func65, by kernel_rfl, ne_of_beq (by kernel_rfl)⟩ (consCons h_impl_validRoom ⟨Try.f66, Try.func66, by kernel_rfl, ne_of_beq (by kernel_rfl)⟩ (consCons h_slices_Contains_sint_int ⟨Try.f73, Try.func73, by kernel_rfl, ne_of_beq (by kernel_rfl)⟩ (consCons h_impl_withoutKey ⟨Try.f74, Try.func74, by kernel_rfl, ne_of_beq (by kernel_rfl)⟩ (consCons h_impl_latestKey ⟨Try.f75, Try.func75, by kernel_rfl, ne_of_beq (by kernel_rfl)⟩ (consNil)))))
theorem cok_impl_BestHits : ConsOK Try.prog 47 cs_impl_BestHits := ⟨clok_impl_BestHits, inlNil, ovNil⟩
theorem i_impl_BestHits {vs : List A1} {kk : AV → List A1 → Prop} {motive : List A1 → Prop} (h : con_impl_BestHits.F vs kk) (H : ∀ (t0 : List Int) (room1 : Int), F_impl_BestHits t0 room1 (fun r0 => kk (.one (.c (.v (.int .i64 r0)))) []) → motive [.c (.ro .int t0), .c (.v (.int .i64 room1))]) : motive vs := by
  unfold con_impl_BestHits at h
  dsimp only at h
  split at h
  · exact H _ _ h
  · exact h.elim
theorem h_impl_BestHits : Holds Try.prog 27 con_impl_BestHits := by
  refine holds_of_ev (rt := [.c .sc]) (T := TT) (Γ := cs_impl_BestHits) (an := an_impl_BestHits) (N := 47) (c := Try.f27.body.getD .skip) Try.func27 (by kernel_rfl) Try.ntmps27 (by decide) (by decide) mixed tabOK cok_impl_BestHits (by kernel_rfl) ?_
  intro vs kk _ hF
  exact i_impl_BestHits (motive := fun vs => Goes (ev TT cs_impl_BestHits 47 an_impl_BestHits (Try.f27.body.getD .skip) (st0 con_impl_BestHits vs) (fin TT con_impl_BestHits Try.f27.results.toList [.c .sc] vs kk))) hF (fun t0 room1 hF => goes_of (e_impl_BestHits t0 room1 kk) (F_impl_BestHits_S hF))
def con_laws_FnBestSplitHits : Con := ⟨[.rd], true, [.c (.sl .u8)], fun vs k => match vs with
    | [.c (.ro .u8 code0)] => F_laws_FnBestSplitHits code0 (fun r0 => k (.one (.c (.v (.bool r0)))) [])
    | _ => False, false⟩
def cl_laws_FnBestSplitHits : List (FuncId × Con) := [(23, con_spec_DrawBestSplit), (24, con_impl_BestSplit), (25, con_spec_BestSplit), (26, con_impl_RunSegments), (27, con_impl_BestHits)]
def an_laws_FnBestSplitHits : Ann := ⟨[], [], [], []⟩
def cs_laws_FnBestSplitHits : Cons := ⟨cl_laws_FnBestSplitHits, [], 0, [], [], []⟩
def fin_laws_FnBestSplitHits (code0 : List Int) (kk : AV → List A1 → Prop) : Kt := fin TT con_laws_FnBestSplitHits Try.f5.results.toList [.c .sc] [.c (.ro .u8 code0)] kk
theorem g_laws_FnBestSplitHits (code0 : List Int) (kk : AV → List A1 → Prop) :
    ev TT cs_laws_FnBestSplitHits 52 an_laws_FnBestSplitHits (Try.f5.body.getD .skip) (st0 con_laws_FnBestSplitHits [.c (.ro .u8 code0)]) (fin TT con_laws_FnBestSplitHits Try.f5.results.toList [.c .sc] [.c (.ro .u8 code0)] kk) = G_laws_FnBestSplitHits code0 (fun r0 => kk (.one (.c (.v (.bool r0)))) []) := by kernel_rfl
theorem e_laws_FnBestSplitHits (code0 : List Int) (kk : AV → List A1 → Prop) :
    ev TT cs_laws_FnBestSplitHits 52 an_laws_FnBestSplitHits (Try.f5.body.getD .skip) (st0 con_laws_FnBestSplitHits [.c (.ro .u8 code0)]) (fin TT con_laws_FnBestSplitHits Try.f5.results.toList [.c .sc] [.c (.ro .u8 code0)] kk) = S_laws_FnBestSplitHits code0 (fun r0 => kk (.one (.c (.v (.bool r0)))) []) := by
  rw [g_laws_FnBestSplitHits]
  rfl
theorem clok_laws_FnBestSplitHits : ConOK Try.prog cl_laws_FnBestSplitHits := consCons h_spec_DrawBestSplit ⟨Try.f23, Try.func23, by kernel_rfl, ne_of_beq (by kernel_rfl)⟩ (consCons h_impl_BestSplit ⟨Try.f24, Try.func24, by kernel_rfl, ne_of_beq (by kernel_rfl)⟩ (consCons h_spec_BestSplit ⟨Try.f25, Try.func25, by kernel_rfl, ne_of_beq (by kernel_rfl)⟩ (consCons h_impl_RunSegments ⟨Try.f26, Try.func26, by kernel_rfl, ne_of_beq (by kernel_rfl)⟩ (consCons h_impl_BestHits ⟨Try.f27, Try.func27, by kernel_rfl, ne_of_beq (by kernel_rfl)⟩ (consNil)))))
theorem cok_laws_FnBestSplitHits : ConsOK Try.prog 52 cs_laws_FnBestSplitHits := ⟨clok_laws_FnBestSplitHits, inlNil, ovNil⟩
theorem i_laws_FnBestSplitHits {vs : List A1} {kk : AV → List A1 → Prop} {motive : List A1 → Prop} (h : con_laws_FnBestSplitHits.F vs kk) (H : ∀ (code0 : List Int), F_laws_FnBestSplitHits code0 (fun r0 => kk (.one (.c (.v (.bool r0)))) []) → motive [.c (.ro .u8 code0)]) : motive vs := by
  unfold con_laws_FnBestSplitHits at h
  dsimp only at h
  split at h
  · exact H _ h
  · exact h.elim
theorem h_laws_FnBestSplitHits : Holds Try.prog 5 con_laws_FnBestSplitHits := by
  refine holds_of_ev (rt := [.c .sc]) (T := TT) (Γ := cs_laws_FnBestSplitHits) (an := an_laws_FnBestSplitHits) (N := 52) (c := Try.f5.body.getD .skip) Try.func5 (by kernel_rfl) Try.ntmps5 (by decide) (by decide) mixed tabOK cok_laws_FnBestSplitHits (by kernel_rfl) ?_
  intro vs kk _ hF
  exact i_laws_FnBestSplitHits (motive := fun vs => Goes (ev TT cs_laws_FnBestSplitHits 52 an_laws_FnBestSplitHits (Try.f5.body.getD .skip) (st0 con_laws_FnBestSplitHits vs) (fin TT con_laws_FnBestSplitHits Try.f5.results.toList [.c .sc] vs kk))) hF (fun code0 hF => goes_of (e_laws_FnBestSplitHits code0 kk) (F_laws_FnBestSplitHits_S hF))
end Go.Ev
