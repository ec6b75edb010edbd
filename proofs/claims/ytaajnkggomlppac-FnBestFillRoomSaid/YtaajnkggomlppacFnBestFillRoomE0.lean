/- What the evaluator gives for these functions: their contracts. No statement is proved here. -/
import Derived.Test.YtaajnkggomlppacFnBestFillRoomP0
import Derived.Test.YtaajnkggomlppacTt
import Derived.Test.YtaajnkggomlppacEvBw
namespace Go.Ev
set_option linter.unusedVariables false
set_option linter.unusedSimpArgs false
set_option maxRecDepth 100000
open Go Go.Proofs
def con_spec_newReader : Con := ⟨[.rd], true, [.c (.sl .u8)], fun vs k => match vs with
    | [.c (.ro .u8 code0)] => F_spec_newReader code0 (fun r0 r1 => k (.one (.agg [.ro .u8 r0, .v (.int .i64 r1)])) [])
    | _ => False, true⟩
def cl_spec_newReader : List (FuncId × Con) := []
def an_spec_newReader : Ann := ⟨[], [], [], []⟩
def cs_spec_newReader : Cons := ⟨cl_spec_newReader, [], 0, [], [], []⟩
def fin_spec_newReader (code0 : List Int) (kk : AV → List A1 → Prop) : Kt := finB Try.f33.results.toList [.sl .u8, .sc] kk
theorem g_spec_newReader (code0 : List Int) (kk : AV → List A1 → Prop) :
    ev TT cs_spec_newReader 11 an_spec_newReader (Try.f33.body.getD .skip) (st0 con_spec_newReader [.c (.ro .u8 code0)]) (finB Try.f33.results.toList [.sl .u8, .sc] kk) = G_spec_newReader code0 (fun r0 r1 => kk (.one (.agg [.ro .u8 r0, .v (.int .i64 r1)])) []) := by kernel_rfl
theorem e_spec_newReader (code0 : List Int) (kk : AV → List A1 → Prop) :
    ev TT cs_spec_newReader 11 an_spec_newReader (Try.f33.body.getD .skip) (st0 con_spec_newReader [.c (.ro .u8 code0)]) (finB Try.f33.results.toList [.sl .u8, .sc] kk) = S_spec_newReader code0 (fun r0 r1 => kk (.one (.agg [.ro .u8 r0, .v (.int .i64 r1)])) []) := by
  rw [g_spec_newReader]
  rfl
theorem clok_spec_newReader : ConOK Try.prog cl_spec_newReader := consNil
theorem cok_spec_newReader : ConsOK Try.prog 11 cs_spec_newReader := ⟨clok_spec_newReader, inlNil, ovNil⟩
theorem i_spec_newReader {vs : List A1} {kk : AV → List A1 → Prop} {motive : List A1 → Prop} (h : con_spec_newReader.F vs kk) (H : ∀ (code0 : List Int), F_spec_newReader code0 (fun r0 r1 => kk (.one (.agg [.ro .u8 r0, .v (.int .i64 r1)])) []) → motive [.c (.ro .u8 code0)]) : motive vs := by
  unfold con_spec_newReader at h
  dsimp only at h
  split at h
  · exact H _ h
  · exact h.elim
theorem h_spec_newReader : HoldsB Try.prog 33 con_spec_newReader := by
  refine holdsB_of_ev (ts := [.sl .u8, .sc]) (T := TT) (Γ := cs_spec_newReader) (an := an_spec_newReader) (N := 11) (c := Try.f33.body.getD .skip) Try.func33 (by kernel_rfl) Try.ntmps33 (by decide) (by decide) mixed tabOK cok_spec_newReader (by kernel_rfl) ?_
  intro vs kk _ hF
  exact i_spec_newReader (motive := fun vs => Goes (ev TT cs_spec_newReader 11 an_spec_newReader (Try.f33.body.getD .skip) (st0 con_spec_newReader vs) (finB Try.f33.results.toList [.sl .u8, .sc] kk))) hF (fun code0 hF => goes_of (e_spec_newReader code0 kk) (F_spec_newReader_S hF))
def con_spec_reader_pick : Con := ⟨[.mu, .rd], true, [.ptr [.sl .u8, .sc], .c (.sc)], fun vs k => match vs with
    | [.ptr [.ro .u8 r0b, .v (.int .i64 r0p)], .c (.v (.int .i64 n1))] => F_spec_reader_pick r0b r0p n1 (fun r0 r1 r2 => k (.one (.c (.v (.int .i64 r0)))) [.ptr [.ro .u8 r1, .v (.int .i64 r2)]])
    | _ => False, false⟩
def cl_spec_reader_pick : List (FuncId × Con) := []
def an_spec_reader_pick : Ann := ⟨[(7, .take 0 (.take 1 (.take 2 (.take 3 (.take 4 (.take 5 (.take 6 (.take 7 (.take 8 (.take 9 (.take 10 (.take 11 (.take 12 (.take 13 (.take 14 (.take 15 (.take 16 (.take 17 (.take 18 (.take 19 (.take 20 (.take 21 (.take 22 (.take 23 (.take 24 (.take 25 (.take 26 (.take 27 (.take 28 (.take 29 (.take 30 (.take 31 (.take 32 (.take 33 (.take 34 (.take 35 (.take 36 (.take 37 (.take 38 (.take 39 (.take 40 (.take 41 (.take 42 (.take 43 (.take 44 (.take 45 (.done)))))))))))))))))))))))))))))))))))))))))))))), [100000])], [], [], []⟩
def cs_spec_reader_pick : Cons := ⟨cl_spec_reader_pick, [], 0, [], [], []⟩
def fin_spec_reader_pick (r0b : List Int) (r0p : Int) (n1 : Int) (kk : AV → List A1 → Prop) : Kt := fin TT con_spec_reader_pick Try.f50.results.toList [.c .sc] [.ptr [.ro .u8 r0b, .v (.int .i64 r0p)], .c (.v (.int .i64 n1))] kk
theorem g_spec_reader_pick (r0b : List Int) (r0p : Int) (n1 : Int) (kk : AV → List A1 → Prop) :
    ev TT cs_spec_reader_pick 99 an_spec_reader_pick (Try.f50.body.getD .skip) (st0 con_spec_reader_pick [.ptr [.ro .u8 r0b, .v (.int .i64 r0p)], .c (.v (.int .i64 n1))]) (fin TT con_spec_reader_pick Try.f50.results.toList [.c .sc] [.ptr [.ro .u8 r0b, .v (.int .i64 r0p)], .c (.v (.int .i64 n1))] kk) = G_spec_reader_pick r0b r0p n1 (fun r0 r1 r2 => kk (.one (.c (.v (.int .i64 r0)))) [.ptr [.ro .u8 r1, .v (.int .i64 r2)]]) := by kernel_rfl
theorem e_spec_reader_pick (r0b : List Int) (r0p : Int) (n1 : Int) (kk : AV → List A1 → Prop) :
    ev TT cs_spec_reader_pick 99 an_spec_reader_pick (Try.f50.body.getD .skip) (st0 con_spec_reader_pick [.ptr [.ro .u8 r0b, .v (.int .i64 r0p)], .c (.v (.int .i64 n1))]) (fin TT con_spec_reader_pick Try.f50.results.toList [.c .sc] [.ptr [.ro .u8 r0b, .v (.int .i64 r0p)], .c (.v (.int .i64 n1))] kk) = S_spec_reader_pick r0b r0p n1 (fun r0 r1 r2 => kk (.one (.c (.v (.int .i64 r0)))) [.ptr [.ro .u8 r1, .v (.int .i64 r2)]]) := by
  rw [g_spec_reader_pick]
  rfl
theorem clok_spec_reader_pick : ConOK Try.prog cl_spec_reader_pick := consNil
theorem cok_spec_reader_pick : ConsOK Try.prog 99 cs_spec_reader_pick := ⟨clok_spec_reader_pick, inlNil, ovNil⟩
theorem i_spec_reader_pick {vs : List A1} {kk : AV → List A1 → Prop} {motive : List A1 → Prop} (h : con_spec_reader_pick.F vs kk) (H : ∀ (r0b : List Int) (r0p : Int) (n1 : Int), F_spec_reader_pick r0b r0p n1 (fun r0 r1 r2 => kk (.one (.c (.v (.int .i64 r0)))) [.ptr [.ro .u8 r1, .v (.int .i64 r2)]]) → motive [.ptr [.ro .u8 r0b, .v (.int .i64 r0p)], .c (.v (.int .i64 n1))]) : motive vs := by
  unfold con_spec_reader_pick at h
  dsimp only at h
  split at h
  · exact H _ _ _ h
  · exact h.elim
theorem h_spec_reader_pick : Holds Try.prog 50 con_spec_reader_pick := by
  refine holds_of_ev (rt := [.c .sc]) (T := TT) (Γ := cs_spec_reader_pick) (an := an_spec_reader_pick) (N := 99) (c := Try.f50.body.getD .skip) Try.func50 (by kernel_rfl) Try.ntmps50 (by decide) (by decide) mixed tabOK cok_spec_reader_pick (by kernel_rfl) ?_
  intro vs kk _ hF
  exact i_spec_reader_pick (motive := fun vs => Goes (ev TT cs_spec_reader_pick 99 an_spec_reader_pick (Try.f50.body.getD .skip) (st0 con_spec_reader_pick vs) (fin TT con_spec_reader_pick Try.f50.results.toList [.c .sc] vs kk))) hF (fun r0b r0p n1 hF => goes_of (e_spec_reader_pick r0b r0p n1 kk) (F_spec_reader_pick_S hF))
def con_spec_reader_one : Con := ⟨[.mu, .rd], true, [.ptr [.sl .u8, .sc], .c (.sl .int)], fun vs k => match vs with
    | [.ptr [.ro .u8 r0b, .v (.int .i64 r0p)], .c (.ro .int list1)] => F_spec_reader_one r0b r0p list1 (fun r0 r1 r2 => k (.one (.c (.v (.int .i64 r0)))) [.ptr [.ro .u8 r1, .v (.int .i64 r2)]])
    | _ => False, false⟩
def cl_spec_reader_one : List (FuncId × Con) := [(50, con_spec_reader_pick)]
def an_spec_reader_one : Ann := ⟨[], [], [], []⟩
def cs_spec_reader_one : Cons := ⟨cl_spec_reader_one, [], 0, [], [], []⟩
def fin_spec_reader_one (r0b : List Int) (r0p : Int) (list1 : List Int) (kk : AV → List A1 → Prop) : Kt := fin TT con_spec_reader_one Try.f34.results.toList [.c .sc] [.ptr [.ro .u8 r0b, .v (.int .i64 r0p)], .c (.ro .int list1)] kk
theorem g_spec_reader_one (r0b : List Int) (r0p : Int) (list1 : List Int) (kk : AV → List A1 → Prop) :
    ev TT cs_spec_reader_one 12 an_spec_reader_one (Try.f34.body.getD .skip) (st0 con_spec_reader_one [.ptr [.ro .u8 r0b, .v (.int .i64 r0p)], .c (.ro .int list1)]) (fin TT con_spec_reader_one Try.f34.results.toList [.c .sc] [.ptr [.ro .u8 r0b, .v (.int .i64 r0p)], .c (.ro .int list1)] kk) = G_spec_reader_one r0b r0p list1 (fun r0 r1 r2 => kk (.one (.c (.v (.int .i64 r0)))) [.ptr [.ro .u8 r1, .v (.int .i64 r2)]]) := by kernel_rfl
theorem e_spec_reader_one (r0b : List Int) (r0p : Int) (list1 : List Int) (kk : AV → List A1 → Prop) :
    ev TT cs_spec_reader_one 12 an_spec_reader_one (Try.f34.body.getD .skip) (st0 con_spec_reader_one [.ptr [.ro .u8 r0b, .v (.int .i64 r0p)], .c (.ro .int list1)]) (fin TT con_spec_reader_one Try.f34.results.toList [.c .sc] [.ptr [.ro .u8 r0b, .v (.int .i64 r0p)], .c (.ro .int list1)] kk) = S_spec_reader_one r0b r0p list1 (fun r0 r1 r2 => kk (.one (.c (.v (.int .i64 r0)))) [.ptr [.ro .u8 r1, .v (.int .i64 r2)]]) := by
  rw [g_spec_reader_one]
  rfl
theorem clok_spec_reader_one : ConOK Try.prog cl_spec_reader_one := consCons h_spec_reader_pick ⟨Try.f50, Try.func50, by kernel_rfl, ne_of_beq (by kernel_rfl)⟩ (consNil)
theorem cok_spec_reader_one : ConsOK Try.prog 12 cs_spec_reader_one := ⟨clok_spec_reader_one, inlNil, ovNil⟩
theorem i_spec_reader_one {vs : List A1} {kk : AV → List A1 → Prop} {motive : List A1 → Prop} (h : con_spec_reader_one.F vs kk) (H : ∀ (r0b : List Int) (r0p : Int) (list1 : List Int), F_spec_reader_one r0b r0p list1 (fun r0 r1 r2 => kk (.one (.c (.v (.int .i64 r0)))) [.ptr [.ro .u8 r1, .v (.int .i64 r2)]]) → motive [.ptr [.ro .u8 r0b, .v (.int .i64 r0p)], .c (.ro .int list1)]) : motive vs := by
  unfold con_spec_reader_one at h
  dsimp only at h
  split at h
  · exact H _ _ _ h
  · exact h.elim
theorem h_spec_reader_one : Holds Try.prog 34 con_spec_reader_one := by
  refine holds_of_ev (rt := [.c .sc]) (T := TT) (Γ := cs_spec_reader_one) (an := an_spec_reader_one) (N := 12) (c := Try.f34.body.getD .skip) Try.func34 (by kernel_rfl) Try.ntmps34 (by decide) (by decide) mixed tabOK cok_spec_reader_one (by kernel_rfl) ?_
  intro vs kk _ hF
  exact i_spec_reader_one (motive := fun vs => Goes (ev TT cs_spec_reader_one 12 an_spec_reader_one (Try.f34.body.getD .skip) (st0 con_spec_reader_one vs) (fin TT con_spec_reader_one Try.f34.results.toList [.c .sc] vs kk))) hF (fun r0b r0p list1 hF => goes_of (e_spec_reader_one r0b r0p list1 kk) (F_spec_reader_one_S hF))
def con_spec_copyInts : Con := ⟨[.rd], true, [.c (.sl .int)], fun vs k => match vs with
    | [.c (.ro .int list0)] => F_spec_copyInts list0 (fun r0 => k (.one (.c (.ro .int r0))) [])
    | _ => False, false⟩
def cl_spec_copyInts : List (FuncId × Con) := []
def an_spec_copyInts : Ann := ⟨[], [], [], []⟩
def cs_spec_copyInts : Cons := ⟨cl_spec_copyInts, [], 0, [], [], []⟩
def fin_spec_copyInts (list0 : List Int) (kk : AV → List A1 → Prop) : Kt := fin TT con_spec_copyInts Try.f49.results.toList [.c (.sl .int)] [.c (.ro .int list0)] kk
theorem g_spec_copyInts (list0 : List Int) (kk : AV → List A1 → Prop) :
    ev TT cs_spec_copyInts 6 an_spec_copyInts (Try.f49.body.getD .skip) (st0 con_spec_copyInts [.c (.ro .int list0)]) (fin TT con_spec_copyInts Try.f49.results.toList [.c (.sl .int)] [.c (.ro .int list0)] kk) = G_spec_copyInts list0 (fun r0 => kk (.one (.c (.ro .int r0))) []) := by kernel_rfl
theorem e_spec_copyInts (list0 : List Int) (kk : AV → List A1 → Prop) :
    ev TT cs_spec_copyInts 6 an_spec_copyInts (Try.f49.body.getD .skip) (st0 con_spec_copyInts [.c (.ro .int list0)]) (fin TT con_spec_copyInts Try.f49.results.toList [.c (.sl .int)] [.c (.ro .int list0)] kk) = S_spec_copyInts list0 (fun r0 => kk (.one (.c (.ro .int r0))) []) := by
  rw [g_spec_copyInts]
  rfl
theorem clok_spec_copyInts : ConOK Try.prog cl_spec_copyInts := consNil
theorem cok_spec_copyInts : ConsOK Try.prog 6 cs_spec_copyInts := ⟨clok_spec_copyInts, inlNil, ovNil⟩
theorem i_spec_copyInts {vs : List A1} {kk : AV → List A1 → Prop} {motive : List A1 → Prop} (h : con_spec_copyInts.F vs kk) (H : ∀ (list0 : List Int), F_spec_copyInts list0 (fun r0 => kk (.one (.c (.ro .int r0))) []) → motive [.c (.ro .int list0)]) : motive vs := by
  unfold con_spec_copyInts at h
  dsimp only at h
  split at h
  · exact H _ h
  · exact h.elim
theorem h_spec_copyInts : Holds Try.prog 49 con_spec_copyInts := by
  refine holds_of_ev (rt := [.c (.sl .int)]) (T := TT) (Γ := cs_spec_copyInts) (an := an_spec_copyInts) (N := 6) (c := Try.f49.body.getD .skip) Try.func49 (by kernel_rfl) Try.ntmps49 (by decide) (by decide) mixed tabOK cok_spec_copyInts (by kernel_rfl) ?_
  intro vs kk _ hF
  exact i_spec_copyInts (motive := fun vs => Goes (ev TT cs_spec_copyInts 6 an_spec_copyInts (Try.f49.body.getD .skip) (st0 con_spec_copyInts vs) (fin TT con_spec_copyInts Try.f49.results.toList [.c (.sl .int)] vs kk))) hF (fun list0 hF => goes_of (e_spec_copyInts list0 kk) (F_spec_copyInts_S hF))
def con_spec_reader_spoil : Con := ⟨[.mu, .rd, .rd], true, [.ptr [.sl .u8, .sc], .c (.sl .int), .c (.sc)], fun vs k => match vs with
    | [.ptr [.ro .u8 r0b, .v (.int .i64 r0p)], .c (.ro .int list1), .c (.v (.int .i64 n2))] => F_spec_reader_spoil r0b r0p list1 n2 (fun r0 r1 r2 => k (.one (.c (.ro .int r0))) [.ptr [.ro .u8 r1, .v (.int .i64 r2)]])
    | _ => False, false⟩
def cl_spec_reader_spoil : List (FuncId × Con) := [(34, con_spec_reader_one), (49, con_spec_copyInts), (50, con_spec_reader_pick)]
def an_spec_reader_spoil : Ann := ⟨[], [], [], []⟩
def cs_spec_reader_spoil : Cons := ⟨cl_spec_reader_spoil, [], 0, [], [], []⟩
def fin_spec_reader_spoil (r0b : List Int) (r0p : Int) (list1 : List Int) (n2 : Int) (kk : AV → List A1 → Prop) : Kt := fin TT con_spec_reader_spoil Try.f35.results.toList [.c (.sl .int)] [.ptr [.ro .u8 r0b, .v (.int .i64 r0p)], .c (.ro .int list1), .c (.v (.int .i64 n2))] kk
theorem g_spec_reader_spoil (r0b : List Int) (r0p : Int) (list1 : List Int) (n2 : Int) (kk : AV → List A1 → Prop) :
    ev TT cs_spec_reader_spoil 41 an_spec_reader_spoil (Try.f35.body.getD .skip) (st0 con_spec_reader_spoil [.ptr [.ro .u8 r0b, .v (.int .i64 r0p)], .c (.ro .int list1), .c (.v (.int .i64 n2))]) (fin TT con_spec_reader_spoil Try.f35.results.toList [.c (.sl .int)] [.ptr [.ro .u8 r0b, .v (.int .i64 r0p)], .c (.ro .int list1), .c (.v (.int .i64 n2))] kk) = G_spec_reader_spoil r0b r0p list1 n2 (fun r0 r1 r2 => kk (.one (.c (.ro .int r0))) [.ptr [.ro .u8 r1, .v (.int .i64 r2)]]) := by kernel_rfl
theorem e_spec_reader_spoil (r0b : List Int) (r0p : Int) (list1 : List Int) (n2 : Int) (kk : AV → List A1 → Prop) :
    ev TT cs_spec_reader_spoil 41 an_spec_reader_spoil (Try.f35.body.getD .skip) (st0 con_spec_reader_spoil [.ptr [.ro .u8 r0b, .v (.int .i64 r0p)], .c (.ro .int list1), .c (.v (.int .i64 n2))]) (fin TT con_spec_reader_spoil Try.f35.results.toList [.c (.sl .int)] [.ptr [.ro .u8 r0b, .v (.int .i64 r0p)], .c (.ro .int list1), .c (.v (.int .i64 n2))] kk) = S_spec_reader_spoil r0b r0p list1 n2 (fun r0 r1 r2 => kk (.one (.c (.ro .int r0))) [.ptr [.ro .u8 r1, .v (.int .i64 r2)]]) := by
  rw [g_spec_reader_spoil]
  rfl
theorem clok_spec_reader_spoil : ConOK Try.prog cl_spec_reader_spoil := consCons h_spec_reader_one ⟨Try.f34, Try.func34, by kernel_rfl, ne_of_beq (by kernel_rfl)⟩ (consCons h_spec_copyInts ⟨Try.f49, Try.func49, by kernel_rfl, ne_of_beq (by kernel_rfl)⟩ (consCons h_spec_reader_pick ⟨Try.f50, Try.func50, by kernel_rfl, ne_of_beq (by kernel_rfl)⟩ (consNil)))
theorem cok_spec_reader_spoil : ConsOK Try.prog 41 cs_spec_reader_spoil := ⟨clok_spec_reader_spoil, inlNil, ovNil⟩
theorem i_spec_reader_spoil {vs : List A1} {kk : AV → List A1 → Prop} {motive : List A1 → Prop} (h : con_spec_reader_spoil.F vs kk) (H : ∀ (r0b : List Int) (r0p : Int) (list1 : List Int) (n2 : Int), F_spec_reader_spoil r0b r0p list1 n2 (fun r0 r1 r2 => kk (.one (.c (.ro .int r0))) [.ptr [.ro .u8 r1, .v (.int .i64 r2)]]) → motive [.ptr [.ro .u8 r0b, .v (.int .i64 r0p)], .c (.ro .int list1), .c (.v (.int .i64 n2))]) : motive vs := by
  unfold con_spec_reader_spoil at h
  dsimp only at h
  split at h
  · exact H _ _ _ _ h
  · exact h.elim
theorem h_spec_reader_spoil : Holds Try.prog 35 con_spec_reader_spoil := by
  refine holds_of_ev (rt := [.c (.sl .int)]) (T := TT) (Γ := cs_spec_reader_spoil) (an := an_spec_reader_spoil) (N := 41) (c := Try.f35.body.getD .skip) Try.func35 (by kernel_rfl) Try.ntmps35 (by decide) (by decide) mixed tabOK cok_spec_reader_spoil (by kernel_rfl) ?_
  intro vs kk _ hF
  exact i_spec_reader_spoil (motive := fun vs => Goes (ev TT cs_spec_reader_spoil 41 an_spec_reader_spoil (Try.f35.body.getD .skip) (st0 con_spec_reader_spoil vs) (fin TT con_spec_reader_spoil Try.f35.results.toList [.c (.sl .int)] vs kk))) hF (fun r0b r0p list1 n2 hF => goes_of (e_spec_reader_spoil r0b r0p list1 n2 kk) (F_spec_reader_spoil_S hF))
def con_spec_DrawBestFill : Con := ⟨[.rd], true, [.c (.sl .u8)], fun vs k => match vs with
    | [.c (.ro .u8 code0)] => F_spec_DrawBestFill code0 (fun r0 r1 r2 => k (.tup [.c (.ro .int r0), .c (.ro .int r1), .c (.v (.int .i64 r2))]) [])
    | _ => False, false⟩
def cl_spec_DrawBestFill : List (FuncId × Con) := [(33, con_spec_newReader), (34, con_spec_reader_one), (35, con_spec_reader_spoil)]
def nm0_spec_DrawBestFill : List NStep := [.own 6 .int 90000, .own 7 .int 90001, .keep [5, 6, 7, 8] [160, 90000, 90001]]
def an_spec_DrawBestFill : Ann := ⟨[], [(5, nm0_spec_DrawBestFill)], [], []⟩
def cs_spec_DrawBestFill : Cons := ⟨cl_spec_DrawBestFill, [], 0, [], [], []⟩
def can0_spec_DrawBestFill (xn8 : Int) (xb10c0 : List Int) (xb10c1 : Int) (xsizes6 : List Int) (xvalues7 : List Int) : St := ⟨[(5, .one (.c (.pb 160 0))), (6, .one (.c (.ow 90000))), (7, .one (.c (.ow 90001))), (8, .one (.c (.v (.int .i64 xn8))))], [(160, .box [.ro .u8 xb10c0, .v (.int .i64 xb10c1)]), (90000, .row .int xsizes6), (90001, .row .int xvalues7)]⟩
def fin_spec_DrawBestFill (code0 : List Int) (kk : AV → List A1 → Prop) : Kt := fin TT con_spec_DrawBestFill Try.f13.results.toList [.c (.sl .int), .c (.sl .int), .c .sc] [.c (.ro .u8 code0)] kk
def kt0_spec_DrawBestFill (kf : Kt) : Kt := blockK 0 (seqK (evF TT cs_spec_DrawBestFill 39 an_spec_DrawBestFill Try.f13 [1, 1, 1, 1, 1]) (kf))
theorem r0_spec_DrawBestFill (code0 : List Int) (kk : AV → List A1 → Prop) (n : Nat) (xn8 : Int) (xb10c0 : List Int) (xb10c1 : Int) (xsizes6 : List Int) (xvalues7 : List Int) :
    iter (evF TT cs_spec_DrawBestFill 39 an_spec_DrawBestFill Try.f13 [1, 1, 1, 1, 0, 1, 0, 0]) nm0_spec_DrawBestFill (kt0_spec_DrawBestFill (fin_spec_DrawBestFill code0 kk)) (n + 1) (can0_spec_DrawBestFill xn8 xb10c0 xb10c1 xsizes6 xvalues7) = T0_spec_DrawBestFill xn8 xb10c0 xb10c1 xsizes6 xvalues7 (fun r0 r1 r2 => kk (.tup [.c (.ro .int r0), .c (.ro .int r1), .c (.v (.int .i64 r2))]) []) (fun xn8 xb10c0 xb10c1 xsizes6 xvalues7 => iter (evF TT cs_spec_DrawBestFill 39 an_spec_DrawBestFill Try.f13 [1, 1, 1, 1, 0, 1, 0, 0]) nm0_spec_DrawBestFill (kt0_spec_DrawBestFill (fin_spec_DrawBestFill code0 kk)) n (can0_spec_DrawBestFill xn8 xb10c0 xb10c1 xsizes6 xvalues7)) := by kernel_rfl
theorem l0_spec_DrawBestFill (code0 : List Int) (kk : AV → List A1 → Prop) : ∀ (n : Nat) (xn8 : Int) (xb10c0 : List Int) (xb10c1 : Int) (xsizes6 : List Int) (xvalues7 : List Int), iter (evF TT cs_spec_DrawBestFill 39 an_spec_DrawBestFill Try.f13 [1, 1, 1, 1, 0, 1, 0, 0]) nm0_spec_DrawBestFill (kt0_spec_DrawBestFill (fin_spec_DrawBestFill code0 kk)) n (can0_spec_DrawBestFill xn8 xb10c0 xb10c1 xsizes6 xvalues7) = L0_spec_DrawBestFill (fun r0 r1 r2 => kk (.tup [.c (.ro .int r0), .c (.ro .int r1), .c (.v (.int .i64 r2))]) []) n xn8 xb10c0 xb10c1 xsizes6 xvalues7 := by
  intro n
  induction n with
  | zero => intros; rfl
  | succ n ih =>
    intro xn8 xb10c0 xb10c1 xsizes6 xvalues7
    rw [r0_spec_DrawBestFill code0 kk n xn8 xb10c0 xb10c1 xsizes6 xvalues7]
    have hb : (fun xn8 xb10c0 xb10c1 xsizes6 xvalues7 => iter (evF TT cs_spec_DrawBestFill 39 an_spec_DrawBestFill Try.f13 [1, 1, 1, 1, 0, 1, 0, 0]) nm0_spec_DrawBestFill (kt0_spec_DrawBestFill (fin_spec_DrawBestFill code0 kk)) n (can0_spec_DrawBestFill xn8 xb10c0 xb10c1 xsizes6 xvalues7)) = L0_spec_DrawBestFill (fun r0 r1 r2 => kk (.tup [.c (.ro .int r0), .c (.ro .int r1), .c (.v (.int .i64 r2))]) []) n := by
      funext xn8 xb10c0 xb10c1 xsizes6 xvalues7; exact ih xn8 xb10c0 xb10c1 xsizes6 xvalues7
    rw [hb]
    rfl
theorem g_spec_DrawBestFill (code0 : List Int) (kk : AV → List A1 → Prop) :
    ev TT cs_spec_DrawBestFill 39 an_spec_DrawBestFill (Try.f13.body.getD .skip) (st0 con_spec_DrawBestFill [.c (.ro .u8 code0)]) (fin TT con_spec_DrawBestFill Try.f13.results.toList [.c (.sl .int), .c (.sl .int), .c .sc] [.c (.ro .u8 code0)] kk) = G_spec_DrawBestFill code0 (fun xn8 xb10c0 xb10c1 xsizes6 xvalues7 => ∃ j, iter (evF TT cs_spec_DrawBestFill 39 an_spec_DrawBestFill Try.f13 [1, 1, 1, 1, 0, 1, 0, 0]) nm0_spec_DrawBestFill (kt0_spec_DrawBestFill (fin_spec_DrawBestFill code0 kk)) j (can0_spec_DrawBestFill xn8 xb10c0 xb10c1 xsizes6 xvalues7)) := by kernel_rfl
theorem e_spec_DrawBestFill (code0 : List Int) (kk : AV → List A1 → Prop) :
    ev TT cs_spec_DrawBestFill 39 an_spec_DrawBestFill (Try.f13.body.getD .skip) (st0 con_spec_DrawBestFill [.c (.ro .u8 code0)]) (fin TT con_spec_DrawBestFill Try.f13.results.toList [.c (.sl .int), .c (.sl .int), .c .sc] [.c (.ro .u8 code0)] kk) = S_spec_DrawBestFill code0 (fun r0 r1 r2 => kk (.tup [.c (.ro .int r0), .c (.ro .int r1), .c (.v (.int .i64 r2))]) []) := by
  rw [g_spec_DrawBestFill]
  have hi0 : (fun xn8 xb10c0 xb10c1 xsizes6 xvalues7 => ∃ j, iter (evF TT cs_spec_DrawBestFill 39 an_spec_DrawBestFill Try.f13 [1, 1, 1, 1, 0, 1, 0, 0]) nm0_spec_DrawBestFill (kt0_spec_DrawBestFill (fin_spec_DrawBestFill code0 kk)) j (can0_spec_DrawBestFill xn8 xb10c0 xb10c1 xsizes6 xvalues7)) = (fun xn8 xb10c0 xb10c1 xsizes6 xvalues7 => ∃ j, L0_spec_DrawBestFill (fun r0 r1 r2 => kk (.tup [.c (.ro .int r0), .c (.ro .int r1), .c (.v (.int .i64 r2))]) []) j xn8 xb10c0 xb10c1 xsizes6 xvalues7) := by
    funext xn8 xb10c0 xb10c1 xsizes6 xvalues7
    refine congrArg Exists (funext fun j => ?_)
    rw [l0_spec_DrawBestFill code0 kk j xn8 xb10c0 xb10c1 xsizes6 xvalues7]
  rw [hi0]
  rfl
theorem clok_spec_DrawBestFill : ConOK Try.prog cl_spec_DrawBestFill := consCons h_spec_newReader ⟨Try.f33, Try.func33, by kernel_rfl, ne_of_beq (by kernel_rfl)⟩ (consCons h_spec_reader_one ⟨Try.f34, Try.func34, by kernel_rfl, ne_of_beq (by kernel_rfl)⟩ (consCons h_spec_reader_spoil ⟨Try.f35, Try.func35, by kernel_rfl, ne_of_beq (by kernel_rfl)⟩ (consNil)))
theorem cok_spec_DrawBestFill : ConsOK Try.prog 39 cs_spec_DrawBestFill := ⟨clok_spec_DrawBestFill, inlNil, ovNil⟩
theorem i_spec_DrawBestFill {vs : List A1} {kk : AV → List A1 → Prop} {motive : List A1 → Prop} (h : con_spec_DrawBestFill.F vs kk) (H : ∀ (code0 : List Int), F_spec_DrawBestFill code0 (fun r0 r1 r2 => kk (.tup [.c (.ro .int r0), .c (.ro .int r1), .c (.v (.int .i64 r2))]) []) → motive [.c (.ro .u8 code0)]) : motive vs := by
  unfold con_spec_DrawBestFill at h
  dsimp only at h
  split at h
  · exact H _ h
  · exact h.elim
theorem h_spec_DrawBestFill : Holds Try.prog 13 con_spec_DrawBestFill := by
  refine holds_of_ev (rt := [.c (.sl .int), .c (.sl .int), .c .sc]) (T := TT) (Γ := cs_spec_DrawBestFill) (an := an_spec_DrawBestFill) (N := 39) (c := Try.f13.body.getD .skip) Try.func13 (by kernel_rfl) Try.ntmps13 (by decide) (by decide) mixed tabOK cok_spec_DrawBestFill (by kernel_rfl) ?_
  intro vs kk _ hF
  exact i_spec_DrawBestFill (motive := fun vs => Goes (ev TT cs_spec_DrawBestFill 39 an_spec_DrawBestFill (Try.f13.body.getD .skip) (st0 con_spec_DrawBestFill vs) (fin TT con_spec_DrawBestFill Try.f13.results.toList [.c (.sl .int), .c (.sl .int), .c .sc] vs kk))) hF (fun code0 hF => goes_of (e_spec_DrawBestFill code0 kk) (F_spec_DrawBestFill_S hF))
def con_impl_validSize : Con := ⟨[.rd], true, [.c (.sc)], fun vs k => match vs with
    | [.c (.v (.int .i64 size0))] => F_impl_validSize size0 (fun r0 => k (.one (.c (.v (.bool r0)))) [])
    | _ => False, false⟩
def cl_impl_validSize : List (FuncId × Con) := []
def an_impl_validSize : Ann := ⟨[], [], [], []⟩
def cs_impl_validSize : Cons := ⟨cl_impl_validSize, [], 0, [], [], []⟩
def fin_impl_validSize (size0 : Int) (kk : AV → List A1 → Prop) : Kt := fin TT con_impl_validSize Try.f43.results.toList [.c .sc] [.c (.v (.int .i64 size0))] kk
theorem g_impl_validSize (size0 : Int) (kk : AV → List A1 → Prop) :
    ev TT cs_impl_validSize 9 an_impl_validSize (Try.f43.body.getD .skip) (st0 con_impl_validSize [.c (.v (.int .i64 size0))]) (fin TT con_impl_validSize Try.f43.results.toList [.c .sc] [.c (.v (.int .i64 size0))] kk) = G_impl_validSize size0 (fun r0 => kk (.one (.c (.v (.bool r0)))) []) := by kernel_rfl
theorem e_impl_validSize (size0 : Int) (kk : AV → List A1 → Prop) :
    ev TT cs_impl_validSize 9 an_impl_validSize (Try.f43.body.getD .skip) (st0 con_impl_validSize [.c (.v (.int .i64 size0))]) (fin TT con_impl_validSize Try.f43.results.toList [.c .sc] [.c (.v (.int .i64 size0))] kk) = S_impl_validSize size0 (fun r0 => kk (.one (.c (.v (.bool r0)))) []) := by
  rw [g_impl_validSize]
  rfl
theorem clok_impl_validSize : ConOK Try.prog cl_impl_validSize := consNil
theorem cok_impl_validSize : ConsOK Try.prog 9 cs_impl_validSize := ⟨clok_impl_validSize, inlNil, ovNil⟩
theorem i_impl_validSize {vs : List A1} {kk : AV → List A1 → Prop} {motive : List A1 → Prop} (h : con_impl_validSize.F vs kk) (H : ∀ (size0 : Int), F_impl_validSize size0 (fun r0 => kk (.one (.c (.v (.bool r0)))) []) → motive [.c (.v (.int .i64 size0))]) : motive vs := by
  unfold con_impl_validSize at h
  dsimp only at h
  split at h
  · exact H _ h
  · exact h.elim
theorem h_impl_validSize : Holds Try.prog 43 con_impl_validSize := by
  refine holds_of_ev (rt := [.c .sc]) (T := TT) (Γ := cs_impl_validSize) (an := an_impl_validSize) (N := 9) (c := Try.f43.body.getD .skip) Try.func43 (by kernel_rfl) Try.ntmps43 (by decide) (by decide) mixed tabOK cok_impl_validSize (by kernel_rfl) ?_
  intro vs kk _ hF
  exact i_impl_validSize (motive := fun vs => Goes (ev TT cs_impl_validSize 9 an_impl_validSize (Try.f43.body.getD .skip) (st0 con_impl_validSize vs) (fin TT con_impl_validSize Try.f43.results.toList [.c .sc] vs kk))) hF (fun size0 hF => goes_of (e_impl_validSize size0 kk) (F_impl_validSize_S hF))
def con_impl_validCount : Con := ⟨[.rd], true, [.c (.sc)], fun vs k => match vs with
    | [.c (.v (.int .i64 count0))] => F_impl_validCount count0 (fun r0 => k (.one (.c (.v (.bool r0)))) [])
    | _ => False, false⟩
def cl_impl_validCount : List (FuncId × Con) := []
def an_impl_validCount : Ann := ⟨[], [], [], []⟩
def cs_impl_validCount : Cons := ⟨cl_impl_validCount, [], 0, [], [], []⟩
def fin_impl_validCount (count0 : Int) (kk : AV → List A1 → Prop) : Kt := fin TT con_impl_validCount Try.f42.results.toList [.c .sc] [.c (.v (.int .i64 count0))] kk
theorem g_impl_validCount (count0 : Int) (kk : AV → List A1 → Prop) :
    ev TT cs_impl_validCount 9 an_impl_validCount (Try.f42.body.getD .skip) (st0 con_impl_validCount [.c (.v (.int .i64 count0))]) (fin TT con_impl_validCount Try.f42.results.toList [.c .sc] [.c (.v (.int .i64 count0))] kk) = G_impl_validCount count0 (fun r0 => kk (.one (.c (.v (.bool r0)))) []) := by kernel_rfl
theorem e_impl_validCount (count0 : Int) (kk : AV → List A1 → Prop) :
    ev TT cs_impl_validCount 9 an_impl_validCount (Try.f42.body.getD .skip) (st0 con_impl_validCount [.c (.v (.int .i64 count0))]) (fin TT con_impl_validCount Try.f42.results.toList [.c .sc] [.c (.v (.int .i64 count0))] kk) = S_impl_validCount count0 (fun r0 => kk (.one (.c (.v (.bool r0)))) []) := by
  rw [g_impl_validCount]
  rfl
theorem clok_impl_validCount : ConOK Try.prog cl_impl_validCount := consNil
theorem cok_impl_validCount : ConsOK Try.prog 9 cs_impl_validCount := ⟨clok_impl_validCount, inlNil, ovNil⟩
theorem i_impl_validCount {vs : List A1} {kk : AV → List A1 → Prop} {motive : List A1 → Prop} (h : con_impl_validCount.F vs kk) (H : ∀ (count0 : Int), F_impl_validCount count0 (fun r0 => kk (.one (.c (.v (.bool r0)))) []) → motive [.c (.v (.int .i64 count0))]) : motive vs := by
  unfold con_impl_validCount at h
  dsimp only at h
  split at h
  · exact H _ h
  · exact h.elim
theorem h_impl_validCount : Holds Try.prog 42 con_impl_validCount := by
  refine holds_of_ev (rt := [.c .sc]) (T := TT) (Γ := cs_impl_validCount) (an := an_impl_validCount) (N := 9) (c := Try.f42.body.getD .skip) Try.func42 (by kernel_rfl) Try.ntmps42 (by decide) (by decide) mixed tabOK cok_impl_validCount (by kernel_rfl) ?_
  intro vs kk _ hF
  exact i_impl_validCount (motive := fun vs => Goes (ev TT cs_impl_validCount 9 an_impl_validCount (Try.f42.body.getD .skip) (st0 con_impl_validCount vs) (fin TT con_impl_validCount Try.f42.results.toList [.c .sc] vs kk))) hF (fun count0 hF => goes_of (e_impl_validCount count0 kk) (F_impl_validCount_S hF))
def con_impl_validChoice : Con := ⟨[.rd, .rd], true, [.c (.sl .int), .c (.sl .int)], fun vs k => match vs with
    | [.c (.ro .int sizes0), .c (.ro .int values1)] => F_impl_validChoice sizes0 values1 (fun r0 => k (.one (.c (.v (.bool r0)))) [])
    | _ => False, false⟩
def cl_impl_validChoice : List (FuncId × Con) := [(42, con_impl_validCount), (43, con_impl_validSize)]
def nm0_impl_validChoice : List NStep := [.keep [0, 1, 17, 18] []]
def an_impl_validChoice : Ann := ⟨[], [(4, nm0_impl_validChoice)], [], []⟩
def cs_impl_validChoice : Cons := ⟨cl_impl_validChoice, [], 0, [], [], []⟩
def can0_impl_validChoice (sizes0 : List Int) (values1 : List Int) (xt17 : Int) (xt18 : Int) : St := ⟨[(0, .one (.c (.ro .int sizes0))), (1, .one (.c (.ro .int values1))), (17, .one (.c (.v (.int .i64 xt17)))), (18, .one (.c (.v (.int .i64 xt18))))], []⟩
def fin_impl_validChoice (sizes0 : List Int) (values1 : List Int) (kk : AV → List A1 → Prop) : Kt := fin TT con_impl_validChoice Try.f36.results.toList [.c .sc] [.c (.ro .int sizes0), .c (.ro .int values1)] kk
def kt0_impl_validChoice (kf : Kt) : Kt := blockK 0 (seqK (evF TT cs_impl_validChoice 36 an_impl_validChoice Try.f36 [1, 1, 1]) (kf))
theorem r0_impl_validChoice (sizes0 : List Int) (values1 : List Int) (xt17 : Int) (kk : AV → List A1 → Prop) (n : Nat) (xt18 : Int) :
    iter (evF TT cs_impl_validChoice 36 an_impl_validChoice Try.f36 [1, 1, 0, 1, 0, 0]) nm0_impl_validChoice (kt0_impl_validChoice (fin_impl_validChoice sizes0 values1 kk)) (n + 1) (can0_impl_validChoice sizes0 values1 xt17 xt18) = T0_impl_validChoice sizes0 values1 xt17 xt18 (fun r0 => kk (.one (.c (.v (.bool r0)))) []) (fun xt18 => iter (evF TT cs_impl_validChoice 36 an_impl_validChoice Try.f36 [1, 1, 0, 1, 0, 0]) nm0_impl_validChoice (kt0_impl_validChoice (fin_impl_validChoice sizes0 values1 kk)) n (can0_impl_validChoice sizes0 values1 xt17 xt18)) := by kernel_rfl
theorem l0_impl_validChoice (sizes0 : List Int) (values1 : List Int) (xt17 : Int) (kk : AV → List A1 → Prop) : ∀ (n : Nat) (xt18 : Int), iter (evF TT cs_impl_validChoice 36 an_impl_validChoice Try.f36 [1, 1, 0, 1, 0, 0]) nm0_impl_validChoice (kt0_impl_validChoice (fin_impl_validChoice sizes0 values1 kk)) n (can0_impl_validChoice sizes0 values1 xt17 xt18) = L0_impl_validChoice sizes0 values1 xt17 (fun r0 => kk (.one (.c (.v (.bool r0)))) []) n xt18 := by
  intro n
  induction n with
  | zero => intros; rfl
  | succ n ih =>
    intro xt18
    rw [r0_impl_validChoice sizes0 values1 xt17 kk n xt18]
    have hb : (fun xt18 => iter (evF TT cs_impl_validChoice 36 an_impl_validChoice Try.f36 [1, 1, 0, 1, 0, 0]) nm0_impl_validChoice (kt0_impl_validChoice (fin_impl_validChoice sizes0 values1 kk)) n (can0_impl_validChoice sizes0 values1 xt17 xt18)) = L0_impl_validChoice sizes0 values1 xt17 (fun r0 => kk (.one (.c (.v (.bool r0)))) []) n := by
      funext xt18; exact ih xt18
    rw [hb]
    rfl
theorem g_impl_validChoice (sizes0 : List Int) (values1 : List Int) (kk : AV → List A1 → Prop) :
    ev TT cs_impl_validChoice 36 an_impl_validChoice (Try.f36.body.getD .skip) (st0 con_impl_validChoice [.c (.ro .int sizes0), .c (.ro .int values1)]) (fin TT con_impl_validChoice Try.f36.results.toList [.c .sc] [.c (.ro .int sizes0), .c (.ro .int values1)] kk) = G_impl_validChoice sizes0 values1 (fun r0 => kk (.one (.c (.v (.bool r0)))) []) (fun sizes0 values1 xt17 xt18 => ∃ j, iter (evF TT cs_impl_validChoice 36 an_impl_validChoice Try.f36 [1, 1, 0, 1, 0, 0]) nm0_impl_validChoice (kt0_impl_validChoice (fin_impl_validChoice sizes0 values1 kk)) j (can0_impl_validChoice sizes0 values1 xt17 xt18)) := by kernel_rfl
theorem e_impl_validChoice (sizes0 : List Int) (values1 : List Int) (kk : AV → List A1 → Prop) :
    ev TT cs_impl_validChoice 36 an_impl_validChoice (Try.f36.body.getD .skip) (st0 con_impl_validChoice [.c (.ro .int sizes0), .c (.ro .int values1)]) (fin TT con_impl_validChoice Try.f36.results.toList [.c .sc] [.c (.ro .int sizes0), .c (.ro .int values1)] kk) = S_impl_validChoice sizes0 values1 (fun r0 => kk (.one (.c (.v (.bool r0)))) []) := by
  rw [g_impl_validChoice]
  have hi0 : (fun sizes0 values1 xt17 xt18 => ∃ j, iter (evF TT cs_impl_validChoice 36 an_impl_validChoice Try.f36 [1, 1, 0, 1, 0, 0]) nm0_impl_validChoice (kt0_impl_validChoice (fin_impl_validChoice sizes0 values1 kk)) j (can0_impl_validChoice sizes0 values1 xt17 xt18)) = (fun sizes0 values1 xt17 xt18 => ∃ j, L0_impl_validChoice sizes0 values1 xt17 (fun r0 => kk (.one (.c (.v (.bool r0)))) []) j xt18) := by
    funext sizes0 values1 xt17 xt18
    refine congrArg Exists (funext fun j => ?_)
    rw [l0_impl_validChoice sizes0 values1 xt17 kk j xt18]
  rw [hi0]
  rfl
theorem clok_impl_validChoice : ConOK Try.prog cl_impl_validChoice := consCons h_impl_validCount ⟨Try.f42, Try.func42, by kernel_rfl, ne_of_beq (by kernel_rfl)⟩ (consCons h_impl_validSize ⟨Try.f43, Try.func43, by kernel_rfl, ne_of_beq (by kernel_rfl)⟩ (consNil))
theorem cok_impl_validChoice : ConsOK Try.prog 36 cs_impl_validChoice := ⟨clok_impl_validChoice, inlNil, ovNil⟩
theorem i_impl_validChoice {vs : List A1} {kk : AV → List A1 → Prop} {motive : List A1 → Prop} (h : con_impl_validChoice.F vs kk) (H : ∀ (sizes0 : List Int) (values1 : List Int), F_impl_validChoice sizes0 values1 (fun r0 => kk (.one (.c (.v (.bool r0)))) []) → motive [.c (.ro .int sizes0), .c (.ro .int values1)]) : motive vs := by
  unfold con_impl_validChoice at h
  dsimp only at h
  split at h
  · exact H _ _ h
  · exact h.elim
theorem h_impl_validChoice : Holds Try.prog 36 con_impl_validChoice := by
  refine holds_of_ev (rt := [.c .sc]) (T := TT) (Γ := cs_impl_validChoice) (an := an_impl_validChoice) (N := 36) (c := Try.f36.body.getD .skip) Try.func36 (by kernel_rfl) Try.ntmps36 (by decide) (by decide) mixed tabOK cok_impl_validChoice (by kernel_rfl) ?_
  intro vs kk _ hF
  exact i_impl_validChoice (motive := fun vs => Goes (ev TT cs_impl_validChoice 36 an_impl_validChoice (Try.f36.body.getD .skip) (st0 con_impl_validChoice vs) (fin TT con_impl_validChoice Try.f36.results.toList [.c .sc] vs kk))) hF (fun sizes0 values1 hF => goes_of (e_impl_validChoice sizes0 values1 kk) (F_impl_validChoice_S hF))
def con_impl_validSpace : Con := ⟨[.rd], true, [.c (.sc)], fun vs k => match vs with
    | [.c (.v (.int .i64 room0))] => F_impl_validSpace room0 (fun r0 => k (.one (.c (.v (.bool r0)))) [])
    | _ => False, false⟩
def cl_impl_validSpace : List (FuncId × Con) := []
def an_impl_validSpace : Ann := ⟨[], [], [], []⟩
def cs_impl_validSpace : Cons := ⟨cl_impl_validSpace, [], 0, [], [], []⟩
def fin_impl_validSpace (room0 : Int) (kk : AV → List A1 → Prop) : Kt := fin TT con_impl_validSpace Try.f37.results.toList [.c .sc] [.c (.v (.int .i64 room0))] kk
theorem g_impl_validSpace (room0 : Int) (kk : AV → List A1 → Prop) :
    ev TT cs_impl_validSpace 9 an_impl_validSpace (Try.f37.body.getD .skip) (st0 con_impl_validSpace [.c (.v (.int .i64 room0))]) (fin TT con_impl_validSpace Try.f37.results.toList [.c .sc] [.c (.v (.int .i64 room0))] kk) = G_impl_validSpace room0 (fun r0 => kk (.one (.c (.v (.bool r0)))) []) := by kernel_rfl
theorem e_impl_validSpace (room0 : Int) (kk : AV → List A1 → Prop) :
    ev TT cs_impl_validSpace 9 an_impl_validSpace (Try.f37.body.getD .skip) (st0 con_impl_validSpace [.c (.v (.int .i64 room0))]) (fin TT con_impl_validSpace Try.f37.results.toList [.c .sc] [.c (.v (.int .i64 room0))] kk) = S_impl_validSpace room0 (fun r0 => kk (.one (.c (.v (.bool r0)))) []) := by
  rw [g_impl_validSpace]
  rfl
theorem clok_impl_validSpace : ConOK Try.prog cl_impl_validSpace := consNil
theorem cok_impl_validSpace : ConsOK Try.prog 9 cs_impl_validSpace := ⟨clok_impl_validSpace, inlNil, ovNil⟩
theorem i_impl_validSpace {vs : List A1} {kk : AV → List A1 → Prop} {motive : List A1 → Prop} (h : con_impl_validSpace.F vs kk) (H : ∀ (room0 : Int), F_impl_validSpace room0 (fun r0 => kk (.one (.c (.v (.bool r0)))) []) → motive [.c (.v (.int .i64 room0))]) : motive vs := by
  unfold con_impl_validSpace at h
  dsimp only at h
  split at h
  · exact H _ h
  · exact h.elim
theorem h_impl_validSpace : Holds Try.prog 37 con_impl_validSpace := by
  refine holds_of_ev (rt := [.c .sc]) (T := TT) (Γ := cs_impl_validSpace) (an := an_impl_validSpace) (N := 9) (c := Try.f37.body.getD .skip) Try.func37 (by kernel_rfl) Try.ntmps37 (by decide) (by decide) mixed tabOK cok_impl_validSpace (by kernel_rfl) ?_
  intro vs kk _ hF
  exact i_impl_validSpace (motive := fun vs => Goes (ev TT cs_impl_validSpace 9 an_impl_validSpace (Try.f37.body.getD .skip) (st0 con_impl_validSpace vs) (fin TT con_impl_validSpace Try.f37.results.toList [.c .sc] vs kk))) hF (fun room0 hF => goes_of (e_impl_validSpace room0 kk) (F_impl_validSpace_S hF))
def con_impl_bestValues : Con := ⟨[.rd, .rd], true, [.c (.sl .int), .c (.sl .int)], fun vs k => match vs with
    | [.c (.ro .int sizes0), .c (.ro .int values1)] => F_impl_bestValues sizes0 values1 (fun r0 => k (.one (.c (.arr r0))) [])
    | _ => False, false⟩
def cs_bv_bk : Cons := ⟨[], [], 900, [], [], []⟩
def an_bv_bk : Ann := ⟨[], [], [], []⟩
def nmR_bv : List NStep := [.keep [3, 4, 5, 11] [48, 64, 80, 916]]
def nmI_bv : List NStep := [.keep [3, 5, 6, 7, 14, 1000003, 1000004, 1000005, 1000011] [48, 64, 80, 916]]
def an_bv : Ann := ⟨[(8, .take 0 (.take 1 (.take 2 (.take 3 (.take 4 (.take 5 (.take 6 (.take 8 (.alt 7 (.take 9 (.alt 10 (.done) (.none))) (.none))))))))), []), (10, .take 0 (.take 1 (.take 2 (.take 3 (.take 4 (.take 5 (.take 7 (.take 8 (.take 9 (.take 10 (.take 11 (.take 12 (.take 13 (.take 14 (.take 15 (.take 16 (.take 17 (.take 21 (.alt 6 (.alt 18 (.take 19 (.take 20 (.take 22 (.alt 23 (.done) (.none))))) (.none)) (.alt 18 (.take 19 (.alt 6 (.take 20 (.take 22 (.alt 23 (.done) (.none)))) (.none))) (.none)))))))))))))))))))), [48])], [(3, nmR_bv), (6, nmI_bv)], [], []⟩
def cs_bv : Cons := ⟨[], [(11, ⟨51, inlG TT cs_bv_bk 55 4 an_bv_bk (Try.f51.body.getD .skip) Try.f51.results.toList⟩)], 0, [], [], []⟩
def rfBody : Code → Code
  | .rangeFunc _ _ _ b => b
  | _ => .skip
def bvCode (f : Func) : Code := f.body.getD .skip
def bvBody (f : Func) : Code := rfBody (subc [1, 1, 0, 1, 0] (bvCode f))
def bvLoop (f : Func) : Code := subc [0, 1, 0, 0] (bvBody f)
def canR_bv (s v t : List Int) : St := ⟨[(3, .one (.c (.pb 48 0))), (4, .one (.c (.pr 64 0 0))), (5, .one (.c (.pr 80 0 0))), (11, .one (.c (.cl 58 [.b 916])))], [(48, .box [.ro .int v]), (64, .row .int (List.replicate 459 (0 : Int))), (80, .row .int t), (916, .box [.ro .int s])]⟩
def canI_bv (s v : List Int) (i x j : Int) (t : List Int) : St := ⟨[(3, .one (.c (.pb 48 0))), (5, .one (.c (.pr 80 0 0))), (6, VI i), (7, VI x), (14, VI j), (1000003, .one (.c (.pb 48 0))), (1000004, .one (.c (.pr 64 0 0))), (1000005, .one (.c (.pr 80 0 0))), (1000011, .one (.c (.cl 58 [.b 916])))], [(48, .box [.ro .int v]), (64, .row .int (List.replicate 459 (0 : Int))), (80, .row .int t), (916, .box [.ro .int s])]⟩
def kE_bv (K : St → Prop) : Kt := blockK 2 (blockK 1 (rndE 55 nmR_bv K))
theorem r0_bv (s v : List Int) (i x : Int) (K : St → Prop) (n : Nat) (j : Int) (t : List Int) :
    iter (fun st k => ev TT cs_bv 55 an_bv (bvLoop Try.f38) st k) nmI_bv (kE_bv K) (n + 1) (canI_bv s v i x j t) = T0_impl_bestValues v i x j t (fun t => K (canR_bv s v t)) (fun j t => iter (fun st k => ev TT cs_bv 55 an_bv (bvLoop Try.f38) st k) nmI_bv (kE_bv K) n (canI_bv s v i x j t)) := by kernel_rfl
theorem l0_bv (s v : List Int) (i x : Int) (K : St → Prop) : ∀ (n : Nat) (j : Int) (t : List Int), iter (fun st k => ev TT cs_bv 55 an_bv (bvLoop Try.f38) st k) nmI_bv (kE_bv K) n (canI_bv s v i x j t) = L0_impl_bestValues v i x (fun t => K (canR_bv s v t)) n j t := by
  intro n
  induction n with
  | zero => intros; rfl
  | succ n ih =>
    intro j t
    rw [r0_bv s v i x K n j t]
    have hb : (fun j t => iter (fun st k => ev TT cs_bv 55 an_bv (bvLoop Try.f38) st k) nmI_bv (kE_bv K) n (canI_bv s v i x j t)) = L0_impl_bestValues v i x (fun t => K (canR_bv s v t)) n := by
      funext j t; exact ih j t
    rw [hb]
    rfl
theorem b0_bv (s v : List Int) (i x : Int) (t : List Int) (K : St → Prop) :
    ev TT cs_bv 55 an_bv (bvBody Try.f38) (rndB 55 12 13 6 7 i x (canR_bv s v t)) (rndE 55 nmR_bv K) = ∃ n, iter (fun st k => ev TT cs_bv 55 an_bv (bvLoop Try.f38) st k) nmI_bv (kE_bv K) n (canI_bv s v i x 0 t) := by kernel_rfl
def fin_bv (s v : List Int) (kk : AV → List A1 → Prop) : Kt := fin TT con_impl_bestValues Try.f38.results.toList [.c .ar] [.c (.ro .int s), .c (.ro .int v)] kk
def kD_bv (s v : List Int) (kk : AV → List A1 → Prop) : Kt := blockK 0 (seqK (fun st k => evX TT cs_bv 55 an_bv [58] (subc [1, 1, 1] (bvCode Try.f38)) st k) (fin_bv s v kk))
theorem d0_bv (s v t : List Int) (kk : AV → List A1 → Prop) :
    kD_bv s v kk .normal (canR_bv s v t) = ((t.length = 459) ∧ (t.length = 459 ∧ (List.replicate 459 (0 : Int)).length = 459) ∧ (t.length = 459) ∧ kk (.one (.c (.arr t))) []) := by kernel_rfl
theorem g0_bv (s v : List Int) (kk : AV → List A1 → Prop) :
    evX TT cs_bv 55 an_bv [58] (bvCode Try.f38) (st0 con_impl_bestValues [.c (.ro .int s), .c (.ro .int v)]) (fin_bv s v kk) =
      (((List.replicate 459 (0 : Int)).length = 459 ∧ (List.replicate 459 (0 : Int)).length = 459) ∧ BwRule TT cs_bv 55 an_bv [58] (.tmp 11) 12 13 6 7 (bvBody Try.f38) nmR_bv (canR_bv s v (List.replicate 459 (0 : Int))) (kD_bv s v kk)) := by kernel_rfl
theorem e_impl_bestValues (s v : List Int) (kk : AV → List A1 → Prop) (h : F_impl_bestValues s v (fun r0 => kk (.one (.c (.arr r0))) [])) :
    Goes (evX TT cs_bv 55 an_bv [58] (bvCode Try.f38) (st0 con_impl_bestValues [.c (.ro .int s), .c (.ro .int v)]) (fin_bv s v kk)) := by
  obtain ⟨I, h0, hs, hd⟩ := F_impl_bestValues_R h
  refine goes_of (g0_bv s v kk) ⟨⟨List.length_replicate, List.length_replicate⟩, ⟨List Int, canR_bv s v, I, List.replicate 459 (0 : Int), 58, 916, s, rfl, rfl, fun t => ⟨rfl, rfl⟩, h0, fun pre i t K hi hl hI hK => ?_, fun t hI => ?_⟩⟩
  · obtain ⟨n, hn⟩ := hs pre i t (fun t => K (canR_bv s v t)) hi hl hI hK
    exact Eq.mpr (b0_bv s v i (s.getD i 0) t K) ⟨n, by rw [l0_bv]; exact hn⟩
  · obtain ⟨h1, h2⟩ := hd t hI
    exact Eq.mpr (d0_bv s v t kk) ⟨h1, ⟨h1, List.length_replicate⟩, h1, h2⟩
theorem cok_bv_bk : ConsOK Try.prog 4 cs_bv_bk := ⟨consNil, inlNil, ovNil⟩
theorem cok_bv : ConsOK Try.prog 55 cs_bv := ⟨consNil, inlCons (inl_ok Try.func51 (by kernel_rfl) (ne_of_beq (by kernel_rfl)) Try.ntmps51 (by decide) mixed tabOK cok_bv_bk (by kernel_rfl)) inlNil, ovNil⟩
theorem h_impl_bestValues : Holds Try.prog 38 con_impl_bestValues := by
  refine holds_of_evX (rt := [.c .ar]) (T := TT) (Γ := cs_bv) (an := an_bv) (bw := [58]) (N := 55) (c := (bvCode Try.f38)) Try.func38 (by kernel_rfl) Try.ntmps38 (by decide) (by decide) mixed tabOK cok_bv (fun f hf => ?_) (by kernel_rfl) (by kernel_rfl) ?_
  · have : f = 58 := by
      unfold memN at hf
      split at hf
      · rename_i hb; exact (Nat.eq_of_beq_eq_true hb).symm
      · cases hf
    subst this
    exact Go.Proofs.Try.bw_ok
  · intro vs kk _ hF
    unfold con_impl_bestValues at hF
    dsimp only at hF
    split at hF
    · exact e_impl_bestValues _ _ _ hF
    · exact hF.elim
def con_impl_BestFill : Con := ⟨[.rd, .rd, .rd], true, [.c (.sl .int), .c (.sl .int), .c (.sc)], fun vs k => match vs with
    | [.c (.ro .int sizes0), .c (.ro .int values1), .c (.v (.int .i64 room2))] => F_impl_BestFill sizes0 values1 room2 (fun r0 => k (.one (.c (.ro .int r0))) [])
    | _ => False, false⟩
def cl_impl_BestFill : List (FuncId × Con) := [(36, con_impl_validChoice), (37, con_impl_validSpace), (38, con_impl_bestValues)]
def nm0_impl_BestFill : List NStep := [.own 8 .int 90000, .keep [1, 2, 7, 8, 24, 25, 26] [112, 90000]]
def an_impl_BestFill : Ann := ⟨[(8, .take 0 (.take 1 (.take 2 (.take 3 (.take 4 (.take 5 (.take 6 (.take 7 (.take 8 (.take 9 (.take 10 (.take 11 (.take 12 (.take 13 (.take 14 (.take 15 (.take 16 (.take 17 (.take 18 (.take 19 (.take 20 (.take 21 (.take 22 (.take 23 (.done)))))))))))))))))))))))), [112])], [(6, nm0_impl_BestFill)], [], []⟩
def cs_impl_BestFill : Cons := ⟨cl_impl_BestFill, [], 0, [], [], []⟩
def can0_impl_BestFill (bestValues22 : List Int) (sizes0 : List Int) (values1 : List Int) (xt25 : Int) (xroom2 : Int) (xt26 : Int) (xout8 : List Int) : St := ⟨[(1, .one (.c (.ro .int values1))), (2, .one (.c (.v (.int .i64 xroom2)))), (7, .one (.c (.pr 112 0 0))), (8, .one (.c (.ow 90000))), (24, .one (.c (.ro .int sizes0))), (25, .one (.c (.v (.int .i64 xt25)))), (26, .one (.c (.v (.int .i64 xt26))))], [(112, .row .int bestValues22), (90000, .row .int xout8)]⟩
def fin_impl_BestFill (sizes0 : List Int) (values1 : List Int) (room2 : Int) (kk : AV → List A1 → Prop) : Kt := fin TT con_impl_BestFill Try.f14.results.toList [.c (.sl .int)] [.c (.ro .int sizes0), .c (.ro .int values1), .c (.v (.int .i64 room2))] kk
def kt0_impl_BestFill (kf : Kt) : Kt := blockK 0 (seqK (evF TT cs_impl_BestFill 64 an_impl_BestFill Try.f14 [1, 1, 1, 1, 1]) (kf))
theorem r0_impl_BestFill (sizes0 : List Int) (values1 : List Int) (room2 : Int) (bestValues22 : List Int) (xt25 : Int) (kk : AV → List A1 → Prop) (n : Nat) (xroom2 : Int) (xt26 : Int) (xout8 : List Int) :
    iter (evF TT cs_impl_BestFill 64 an_impl_BestFill Try.f14 [1, 1, 1, 1, 0, 1, 0, 0]) nm0_impl_BestFill (kt0_impl_BestFill (fin_impl_BestFill sizes0 values1 room2 kk)) (n + 1) (can0_impl_BestFill bestValues22 sizes0 values1 xt25 xroom2 xt26 xout8) = T0_impl_BestFill bestValues22 sizes0 values1 xt25 xroom2 xt26 xout8 (fun r0 => kk (.one (.c (.ro .int r0))) []) (fun xroom2 xt26 xout8 => iter (evF TT cs_impl_BestFill 64 an_impl_BestFill Try.f14 [1, 1, 1, 1, 0, 1, 0, 0]) nm0_impl_BestFill (kt0_impl_BestFill (fin_impl_BestFill sizes0 values1 room2 kk)) n (can0_impl_BestFill bestValues22 sizes0 values1 xt25 xroom2 xt26 xout8)) := by kernel_rfl
theorem l0_impl_BestFill (sizes0 : List Int) (values1 : List Int) (room2 : Int) (bestValues22 : List Int) (xt25 : Int) (kk : AV → List A1 → Prop) : ∀ (n : Nat) (xroom2 : Int) (xt26 : Int) (xout8 : List Int), iter (evF TT cs_impl_BestFill 64 an_impl_BestFill Try.f14 [1, 1, 1, 1, 0, 1, 0, 0]) nm0_impl_BestFill (kt0_impl_BestFill (fin_impl_BestFill sizes0 values1 room2 kk)) n (can0_impl_BestFill bestValues22 sizes0 values1 xt25 xroom2 xt26 xout8) = L0_impl_BestFill bestValues22 sizes0 values1 xt25 (fun r0 => kk (.one (.c (.ro .int r0))) []) n xroom2 xt26 xout8 := by
  intro n
  induction n with
  | zero => intros; rfl
  | succ n ih =>
    intro xroom2 xt26 xout8
    rw [r0_impl_BestFill sizes0 values1 room2 bestValues22 xt25 kk n xroom2 xt26 xout8]
    have hb : (fun xroom2 xt26 xout8 => iter (evF TT cs_impl_BestFill 64 an_impl_BestFill Try.f14 [1, 1, 1, 1, 0, 1, 0, 0]) nm0_impl_BestFill (kt0_impl_BestFill (fin_impl_BestFill sizes0 values1 room2 kk)) n (can0_impl_BestFill bestValues22 sizes0 values1 xt25 xroom2 xt26 xout8)) = L0_impl_BestFill bestValues22 sizes0 values1 xt25 (fun r0 => kk (.one (.c (.ro .int r0))) []) n := by
      funext xroom2 xt26 xout8; exact ih xroom2 xt26 xout8
    rw [hb]
    rfl
theorem g_impl_BestFill (sizes0 : List Int) (values1 : List Int) (room2 : Int) (kk : AV → List A1 → Prop) :
    ev TT cs_impl_BestFill 64 an_impl_BestFill (Try.f14.body.getD .skip) (st0 con_impl_BestFill [.c (.ro .int sizes0), .c (.ro .int values1), .c (.v (.int .i64 room2))]) (fin TT con_impl_BestFill Try.f14.results.toList [.c (.sl .int)] [.c (.ro .int sizes0), .c (.ro .int values1), .c (.v (.int .i64 room2))] kk) = G_impl_BestFill sizes0 values1 room2 (fun r0 => kk (.one (.c (.ro .int r0))) []) (fun bestValues22 sizes0 values1 xt25 xroom2 xt26 xout8 => ∃ j, iter (evF TT cs_impl_BestFill 64 an_impl_BestFill Try.f14 [1, 1, 1, 1, 0, 1, 0, 0]) nm0_impl_BestFill (kt0_impl_BestFill (fin_impl_BestFill sizes0 values1 room2 kk)) j (can0_impl_BestFill bestValues22 sizes0 values1 xt25 xroom2 xt26 xout8)) := by kernel_rfl
theorem e_impl_BestFill (sizes0 : List Int) (values1 : List Int) (room2 : Int) (kk : AV → List A1 → Prop) :
    ev TT cs_impl_BestFill 64 an_impl_BestFill (Try.f14.body.getD .skip) (st0 con_impl_BestFill [.c (.ro .int sizes0), .c (.ro .int values1), .c (.v (.int .i64 room2))]) (fin TT con_impl_BestFill Try.f14.results.toList [.c (.sl .int)] [.c (.ro .int sizes0), .c (.ro .int values1), .c (.v (.int .i64 room2))] kk) = S_impl_BestFill sizes0 values1 room2 (fun r0 => kk (.one (.c (.ro .int r0))) []) := by
  rw [g_impl_BestFill]
  have hi0 : (fun bestValues22 sizes0 values1 xt25 xroom2 xt26 xout8 => ∃ j, iter (evF TT cs_impl_BestFill 64 an_impl_BestFill Try.f14 [1, 1, 1, 1, 0, 1, 0, 0]) nm0_impl_BestFill (kt0_impl_BestFill (fin_impl_BestFill sizes0 values1 room2 kk)) j (can0_impl_BestFill bestValues22 sizes0 values1 xt25 xroom2 xt26 xout8)) = (fun bestValues22 sizes0 values1 xt25 xroom2 xt26 xout8 => ∃ j, L0_impl_BestFill bestValues22 sizes0 values1 xt25 (fun r0 => kk (.one (.c (.ro .int r0))) []) j xroom2 xt26 xout8) := by
    funext bestValues22 sizes0 values1 xt25 xroom2 xt26 xout8
    refine congrArg Exists (funext fun j => ?_)
    rw [l0_impl_BestFill sizes0 values1 room2 bestValues22 xt25 kk j xroom2 xt26 xout8]
  rw [hi0]
  rfl
theorem clok_impl_BestFill : ConOK Try.prog cl_impl_BestFill := consCons h_impl_validChoice ⟨Try.f36, Try.func36, by kernel_rfl, ne_of_beq (by kernel_rfl)⟩ (consCons h_impl_validSpace ⟨Try.f37, Try.func37, by kernel_rfl, ne_of_beq (by kernel_rfl)⟩ (consCons h_impl_bestValues ⟨Try.f38, Try.func38, by kernel_rfl, ne_of_beq (by kernel_rfl)⟩ (consNil)))
theorem cok_impl_BestFill : ConsOK Try.prog 64 cs_impl_BestFill := ⟨clok_impl_BestFill, inlNil, ovNil⟩
theorem i_impl_BestFill {vs : List A1} {kk : AV → List A1 → Prop} {motive : List A1 → Prop} (h : con_impl_BestFill.F vs kk) (H : ∀ (sizes0 : List Int) (values1 : List Int) (room2 : Int), F_impl_BestFill sizes0 values1 room2 (fun r0 => kk (.one (.c (.ro .int r0))) []) → motive [.c (.ro .int sizes0), .c (.ro .int values1), .c (.v (.int .i64 room2))]) : motive vs := by
  unfold con_impl_BestFill at h
  dsimp only at h
  split at h
  · exact H _ _ _ h
  · exact h.elim
theorem h_impl_BestFill : Holds Try.prog 14 con_impl_BestFill := by
  refine holds_of_ev (rt := [.c (.sl .int)]) (T := TT) (Γ := cs_impl_BestFill) (an := an_impl_BestFill) (N := 64) (c := Try.f14.body.getD .skip) Try.func14 (by kernel_rfl) Try.ntmps14 (by decide) (by decide) mixed tabOK cok_impl_BestFill (by kernel_rfl) ?_
  intro vs kk _ hF
  exact i_impl_BestFill (motive := fun vs => Goes (ev TT cs_impl_BestFill 64 an_impl_BestFill (Try.f14.body.getD .skip) (st0 con_impl_BestFill vs) (fin TT con_impl_BestFill Try.f14.results.toList [.c (.sl .int)] vs kk))) hF (fun sizes0 values1 room2 hF => goes_of (e_impl_BestFill sizes0 values1 room2 kk) (F_impl_BestFill_S hF))
def con_spec_inRange : Con := ⟨[.rd, .rd, .rd], true, [.c (.sc), .c (.sc), .c (.sc)], fun vs k => match vs with
    | [.c (.v (.int .i64 n0)), .c (.v (.int .i64 low1)), .c (.v (.int .i64 high2))] => F_spec_inRange n0 low1 high2 (fun r0 => k (.one (.c (.v (.bool r0)))) [])
    | _ => False, false⟩
def cl_spec_inRange : List (FuncId × Con) := []
def an_spec_inRange : Ann := ⟨[], [], [], []⟩
def cs_spec_inRange : Cons := ⟨cl_spec_inRange, [], 0, [], [], []⟩
def fin_spec_inRange (n0 : Int) (low1 : Int) (high2 : Int) (kk : AV → List A1 → Prop) : Kt := fin TT con_spec_inRange Try.f40.results.toList [.c .sc] [.c (.v (.int .i64 n0)), .c (.v (.int .i64 low1)), .c (.v (.int .i64 high2))] kk
theorem g_spec_inRange (n0 : Int) (low1 : Int) (high2 : Int) (kk : AV → List A1 → Prop) :
    ev TT cs_spec_inRange 15 an_spec_inRange (Try.f40.body.getD .skip) (st0 con_spec_inRange [.c (.v (.int .i64 n0)), .c (.v (.int .i64 low1)), .c (.v (.int .i64 high2))]) (fin TT con_spec_inRange Try.f40.results.toList [.c .sc] [.c (.v (.int .i64 n0)), .c (.v (.int .i64 low1)), .c (.v (.int .i64 high2))] kk) = G_spec_inRange n0 low1 high2 (fun r0 => kk (.one (.c (.v (.bool r0)))) []) := by kernel_rfl
theorem e_spec_inRange (n0 : Int) (low1 : Int) (high2 : Int) (kk : AV → List A1 → Prop) :
    ev TT cs_spec_inRange 15 an_spec_inRange (Try.f40.body.getD .skip) (st0 con_spec_inRange [.c (.v (.int .i64 n0)), .c (.v (.int .i64 low1)), .c (.v (.int .i64 high2))]) (fin TT con_spec_inRange Try.f40.results.toList [.c .sc] [.c (.v (.int .i64 n0)), .c (.v (.int .i64 low1)), .c (.v (.int .i64 high2))] kk) = S_spec_inRange n0 low1 high2 (fun r0 => kk (.one (.c (.v (.bool r0)))) []) := by
  rw [g_spec_inRange]
  rfl
theorem clok_spec_inRange : ConOK Try.prog cl_spec_inRange := consNil
theorem cok_spec_inRange : ConsOK Try.prog 15 cs_spec_inRange := ⟨clok_spec_inRange, inlNil, ovNil⟩
theorem i_spec_inRange {vs : List A1} {kk : AV → List A1 → Prop} {motive : List A1 → Prop} (h : con_spec_inRange.F vs kk) (H : ∀ (n0 : Int) (low1 : Int) (high2 : Int), F_spec_inRange n0 low1 high2 (fun r0 => kk (.one (.c (.v (.bool r0)))) []) → motive [.c (.v (.int .i64 n0)), .c (.v (.int .i64 low1)), .c (.v (.int .i64 high2))]) : motive vs := by
  unfold con_spec_inRange at h
  dsimp only at h
  split at h
  · exact H _ _ _ h
  · exact h.elim
theorem h_spec_inRange : Holds Try.prog 40 con_spec_inRange := by
  refine holds_of_ev (rt := [.c .sc]) (T := TT) (Γ := cs_spec_inRange) (an := an_spec_inRange) (N := 15) (c := Try.f40.body.getD .skip) Try.func40 (by kernel_rfl) Try.ntmps40 (by decide) (by decide) mixed tabOK cok_spec_inRange (by kernel_rfl) ?_
  intro vs kk _ hF
  exact i_spec_inRange (motive := fun vs => Goes (ev TT cs_spec_inRange 15 an_spec_inRange (Try.f40.body.getD .skip) (st0 con_spec_inRange vs) (fin TT con_spec_inRange Try.f40.results.toList [.c .sc] vs kk))) hF (fun n0 low1 high2 hF => goes_of (e_spec_inRange n0 low1 high2 kk) (F_spec_inRange_S hF))
def con_spec_allIn : Con := ⟨[.rd, .rd, .rd], true, [.c (.sl .int), .c (.sc), .c (.sc)], fun vs k => match vs with
    | [.c (.ro .int list0), .c (.v (.int .i64 low1)), .c (.v (.int .i64 high2))] => F_spec_allIn list0 low1 high2 (fun r0 => k (.one (.c (.v (.bool r0)))) [])
    | _ => False, false⟩
def cl_spec_allIn : List (FuncId × Con) := [(40, con_spec_inRange)]
def nm0_spec_allIn : List NStep := [.keep [0, 1, 2, 7] []]
def an_spec_allIn : Ann := ⟨[], [(2, nm0_spec_allIn)], [], []⟩
def cs_spec_allIn : Cons := ⟨cl_spec_allIn, [], 0, [], [], []⟩
def can0_spec_allIn (high2 : Int) (list0 : List Int) (low1 : Int) (xi7 : Int) : St := ⟨[(0, .one (.c (.ro .int list0))), (1, .one (.c (.v (.int .i64 low1)))), (2, .one (.c (.v (.int .i64 high2)))), (7, .one (.c (.v (.int .i64 xi7))))], []⟩
def fin_spec_allIn (list0 : List Int) (low1 : Int) (high2 : Int) (kk : AV → List A1 → Prop) : Kt := fin TT con_spec_allIn Try.f39.results.toList [.c .sc] [.c (.ro .int list0), .c (.v (.int .i64 low1)), .c (.v (.int .i64 high2))] kk
def kt0_spec_allIn (kf : Kt) : Kt := blockK 0 (seqK (evF TT cs_spec_allIn 22 an_spec_allIn Try.f39 [1, 1]) (kf))
theorem r0_spec_allIn (list0 : List Int) (low1 : Int) (high2 : Int) (kk : AV → List A1 → Prop) (n : Nat) (xi7 : Int) :
    iter (evF TT cs_spec_allIn 22 an_spec_allIn Try.f39 [1, 0, 1, 0, 0]) nm0_spec_allIn (kt0_spec_allIn (fin_spec_allIn list0 low1 high2 kk)) (n + 1) (can0_spec_allIn high2 list0 low1 xi7) = T0_spec_allIn high2 list0 low1 xi7 (fun r0 => kk (.one (.c (.v (.bool r0)))) []) (fun xi7 => iter (evF TT cs_spec_allIn 22 an_spec_allIn Try.f39 [1, 0, 1, 0, 0]) nm0_spec_allIn (kt0_spec_allIn (fin_spec_allIn list0 low1 high2 kk)) n (can0_spec_allIn high2 list0 low1 xi7)) := by kernel_rfl
theorem l0_spec_allIn (list0 : List Int) (low1 : Int) (high2 : Int) (kk : AV → List A1 → Prop) : ∀ (n : Nat) (xi7 : Int), iter (evF TT cs_spec_allIn 22 an_spec_allIn Try.f39 [1, 0, 1, 0, 0]) nm0_spec_allIn (kt0_spec_allIn (fin_spec_allIn list0 low1 high2 kk)) n (can0_spec_allIn high2 list0 low1 xi7) = L0_spec_allIn high2 list0 low1 (fun r0 => kk (.one (.c (.v (.bool r0)))) []) n xi7 := by
  intro n
  induction n with
  | zero => intros; rfl
  | succ n ih =>
    intro xi7
    rw [r0_spec_allIn list0 low1 high2 kk n xi7]
    have hb : (fun xi7 => iter (evF TT cs_spec_allIn 22 an_spec_allIn Try.f39 [1, 0, 1, 0, 0]) nm0_spec_allIn (kt0_spec_allIn (fin_spec_allIn list0 low1 high2 kk)) n (can0_spec_allIn high2 list0 low1 xi7)) = L0_spec_allIn high2 list0 low1 (fun r0 => kk (.one (.c (.v (.bool r0)))) []) n := by
      funext xi7; exact ih xi7
    rw [hb]
    rfl
theorem g_spec_allIn (list0 : List Int) (low1 : Int) (high2 : Int) (kk : AV → List A1 → Prop) :
    ev TT cs_spec_allIn 22 an_spec_allIn (Try.f39.body.getD .skip) (st0 con_spec_allIn [.c (.ro .int list0), .c (.v (.int .i64 low1)), .c (.v (.int .i64 high2))]) (fin TT con_spec_allIn Try.f39.results.toList [.c .sc] [.c (.ro .int list0), .c (.v (.int .i64 low1)), .c (.v (.int .i64 high2))] kk) = G_spec_allIn list0 low1 high2 (fun high2 list0 low1 xi7 => ∃ j, iter (evF TT cs_spec_allIn 22 an_spec_allIn Try.f39 [1, 0, 1, 0, 0]) nm0_spec_allIn (kt0_spec_allIn (fin_spec_allIn list0 low1 high2 kk)) j (can0_spec_allIn high2 list0 low1 xi7)) := by kernel_rfl
theorem e_spec_allIn (list0 : List Int) (low1 : Int) (high2 : Int) (kk : AV → List A1 → Prop) :
    ev TT cs_spec_allIn 22 an_spec_allIn (Try.f39.body.getD .skip) (st0 con_spec_allIn [.c (.ro .int list0), .c (.v (.int .i64 low1)), .c (.v (.int .i64 high2))]) (fin TT con_spec_allIn Try.f39.results.toList [.c .sc] [.c (.ro .int list0), .c (.v (.int .i64 low1)), .c (.v (.int .i64 high2))] kk) = S_spec_allIn list0 low1 high2 (fun r0 => kk (.one (.c (.v (.bool r0)))) []) := by
  rw [g_spec_allIn]
  have hi0 : (fun high2 list0 low1 xi7 => ∃ j, iter (evF TT cs_spec_allIn 22 an_spec_allIn Try.f39 [1, 0, 1, 0, 0]) nm0_spec_allIn (kt0_spec_allIn (fin_spec_allIn list0 low1 high2 kk)) j (can0_spec_allIn high2 list0 low1 xi7)) = (fun high2 list0 low1 xi7 => ∃ j, L0_spec_allIn high2 list0 low1 (fun r0 => kk (.one (.c (.v (.bool r0)))) []) j xi7) := by
    funext high2 list0 low1 xi7
    refine congrArg Exists (funext fun j => ?_)
    rw [l0_spec_allIn list0 low1 high2 kk j xi7]
  rw [hi0]
  rfl
theorem clok_spec_allIn : ConOK Try.prog cl_spec_allIn := consCons h_spec_inRange ⟨Try.f40, Try.func40, by kernel_rfl, ne_of_beq (by kernel_rfl)⟩ (consNil)
theorem cok_spec_allIn : ConsOK Try.prog 22 cs_spec_allIn := ⟨clok_spec_allIn, inlNil, ovNil⟩
theorem i_spec_allIn {vs : List A1} {kk : AV → List A1 → Prop} {motive : List A1 → Prop} (h : con_spec_allIn.F vs kk) (H : ∀ (list0 : List Int) (low1 : Int) (high2 : Int), F_spec_allIn list0 low1 high2 (fun r0 => kk (.one (.c (.v (.bool r0)))) []) → motive [.c (.ro .int list0), .c (.v (.int .i64 low1)), .c (.v (.int .i64 high2))]) : motive vs := by
  unfold con_spec_allIn at h
  dsimp only at h
  split at h
  · exact H _ _ _ h
  · exact h.elim
theorem h_spec_allIn : Holds Try.prog 39 con_spec_allIn := by
  refine holds_of_ev (rt := [.c .sc]) (T := TT) (Γ := cs_spec_allIn) (an := an_spec_allIn) (N := 22) (c := Try.f39.body.getD .skip) Try.func39 (by kernel_rfl) Try.ntmps39 (by decide) (by decide) mixed tabOK cok_spec_allIn (by kernel_rfl) ?_
  intro vs kk _ hF
  exact i_spec_allIn (motive := fun vs => Goes (ev TT cs_spec_allIn 22 an_spec_allIn (Try.f39.body.getD .skip) (st0 con_spec_allIn vs) (fin TT con_spec_allIn Try.f39.results.toList [.c .sc] vs kk))) hF (fun list0 low1 high2 hF => goes_of (e_spec_allIn list0 low1 high2 kk) (F_spec_allIn_S hF))
def con_spec_fill : Con := ⟨[.rd, .rd, .rd, .rd], true, [.c (.sl .int), .c (.sl .int), .c (.sc), .c (.sc)], fun vs k => match vs with
    | [.c (.ro .int sizes0), .c (.ro .int values1), .c (.v (.int .i64 at2)), .c (.v (.int .i64 room3))] => F_spec_fill sizes0 values1 at2 room3 (fun r0 r1 => k (.tup [.c (.v (.int .i64 r0)), .c (.ro .int r1)]) [])
    | _ => False, false⟩
def conr_spec_fill (nn : Nat) : Con := { con_spec_fill with F := fun vs k => match vs with
    | [.c (.ro .int sizes0), .c (.ro .int values1), .c (.v (.int .i64 at2)), .c (.v (.int .i64 room3))] => Fr_spec_fill nn sizes0 values1 at2 room3 (fun r0 r1 => k (.tup [.c (.v (.int .i64 r0)), .c (.ro .int r1)]) [])
    | _ => False }
def cl_spec_fill (nn : Nat) : List (FuncId × Con) := [(41, conr_spec_fill nn)]
def an_spec_fill : Ann := ⟨[(8, .take 0 (.take 1 (.take 2 (.take 3 (.take 4 (.take 5 (.take 6 (.take 8 (.alt 7 (.alt 9 (.take 10 (.take 11 (.done))) (.none)) (.none))))))))), [])], [], [], []⟩
def cs_spec_fill (nn : Nat) : Cons := ⟨cl_spec_fill nn, [], 0, [], [], []⟩
def fin_spec_fill (nn : Nat) (sizes0 : List Int) (values1 : List Int) (at2 : Int) (room3 : Int) (kk : AV → List A1 → Prop) : Kt := fin TT (conr_spec_fill (nn + 1)) Try.f41.results.toList [.c .sc, .c (.sl .int)] [.c (.ro .int sizes0), .c (.ro .int values1), .c (.v (.int .i64 at2)), .c (.v (.int .i64 room3))] kk
theorem g_spec_fill (nn : Nat) (sizes0 : List Int) (values1 : List Int) (at2 : Int) (room3 : Int) (kk : AV → List A1 → Prop) :
    ev TT (cs_spec_fill nn) 70 an_spec_fill (Try.f41.body.getD .skip) (st0 (conr_spec_fill (nn + 1)) [.c (.ro .int sizes0), .c (.ro .int values1), .c (.v (.int .i64 at2)), .c (.v (.int .i64 room3))]) (fin TT (conr_spec_fill (nn + 1)) Try.f41.results.toList [.c .sc, .c (.sl .int)] [.c (.ro .int sizes0), .c (.ro .int values1), .c (.v (.int .i64 at2)), .c (.v (.int .i64 room3))] kk) = G_spec_fill nn sizes0 values1 at2 room3 (fun r0 r1 => kk (.tup [.c (.v (.int .i64 r0)), .c (.ro .int r1)]) []) := by kernel_rfl
theorem e_spec_fill (nn : Nat) (sizes0 : List Int) (values1 : List Int) (at2 : Int) (room3 : Int) (kk : AV → List A1 → Prop) :
    ev TT (cs_spec_fill nn) 70 an_spec_fill (Try.f41.body.getD .skip) (st0 (conr_spec_fill (nn + 1)) [.c (.ro .int sizes0), .c (.ro .int values1), .c (.v (.int .i64 at2)), .c (.v (.int .i64 room3))]) (fin TT (conr_spec_fill (nn + 1)) Try.f41.results.toList [.c .sc, .c (.sl .int)] [.c (.ro .int sizes0), .c (.ro .int values1), .c (.v (.int .i64 at2)), .c (.v (.int .i64 room3))] kk) = S_spec_fill nn sizes0 values1 at2 room3 (fun r0 r1 => kk (.tup [.c (.v (.int .i64 r0)), .c (.ro .int r1)]) []) := by
  rw [g_spec_fill]
  rw [G_spec_fill_eq]
  rfl
theorem clok_spec_fill (nn : Nat) (hr : Holds Try.prog 41 (conr_spec_fill nn)) : ConOK Try.prog (cl_spec_fill nn) := consCons hr ⟨Try.f41, Try.func41, by kernel_rfl, ne_of_beq (by kernel_rfl)⟩ (consNil)
theorem cok_spec_fill (nn : Nat) (hr : Holds Try.prog 41 (conr_spec_fill nn)) : ConsOK Try.prog 70 (cs_spec_fill nn) := ⟨clok_spec_fill nn hr, inlNil, ovNil⟩
theorem ir_spec_fill (nn : Nat) {vs : List A1} {kk : AV → List A1 → Prop} {motive : List A1 → Prop} (h : (conr_spec_fill nn).F vs kk) (H : ∀ (sizes0 : List Int) (values1 : List Int) (at2 : Int) (room3 : Int), Fr_spec_fill nn sizes0 values1 at2 room3 (fun r0 r1 => kk (.tup [.c (.v (.int .i64 r0)), .c (.ro .int r1)]) []) → motive [.c (.ro .int sizes0), .c (.ro .int values1), .c (.v (.int .i64 at2)), .c (.v (.int .i64 room3))]) : motive vs := by
  unfold conr_spec_fill at h
  dsimp only at h
  split at h
  · exact H _ _ _ _ h
  · exact h.elim
theorem i_spec_fill {vs : List A1} {kk : AV → List A1 → Prop} {motive : List A1 → Prop} (h : (con_spec_fill).F vs kk) (H : ∀ (sizes0 : List Int) (values1 : List Int) (at2 : Int) (room3 : Int), F_spec_fill sizes0 values1 at2 room3 (fun r0 r1 => kk (.tup [.c (.v (.int .i64 r0)), .c (.ro .int r1)]) []) → motive [.c (.ro .int sizes0), .c (.ro .int values1), .c (.v (.int .i64 at2)), .c (.v (.int .i64 room3))]) : motive vs := by
  unfold con_spec_fill at h
  dsimp only at h
  split at h
  · exact H _ _ _ _ h
  · exact h.elim
theorem hr_spec_fill : ∀ nn : Nat, Holds Try.prog 41 (conr_spec_fill nn) := by
  intro nn
  induction nn with
  | zero => intro vs kk h; exact (ir_spec_fill 0 (motive := fun _ => False) h (fun _ _ _ _ hF => absurd hF.1 (Nat.not_lt_zero _))).elim
  | succ nn ih =>
    refine holds_of_ev (rt := [.c .sc, .c (.sl .int)]) (T := TT) (Γ := cs_spec_fill nn) (an := an_spec_fill) (N := 70) (c := Try.f41.body.getD .skip) Try.func41 (by kernel_rfl) Try.ntmps41 (show (cs_spec_fill 0).B + 16 * 70 + 16 ≤ 100000 by decide) (show (conr_spec_fill 0).mu.length ≤ 70 by decide) mixed tabOK (cok_spec_fill nn ih) (by kernel_rfl) ?_
    intro vs kk _ hF
    exact ir_spec_fill (nn + 1) (motive := fun vs => Goes (ev TT (cs_spec_fill nn) 70 an_spec_fill (Try.f41.body.getD .skip) (st0 (conr_spec_fill (nn + 1)) vs) (fin TT (conr_spec_fill (nn + 1)) Try.f41.results.toList [.c .sc, .c (.sl .int)] vs kk))) hF (fun sizes0 values1 at2 room3 hF => goes_of (e_spec_fill nn sizes0 values1 at2 room3 kk) (F_spec_fill_S (Nat.le_of_lt_succ hF.1) hF.2))
theorem h_spec_fill : Holds Try.prog 41 con_spec_fill := by
  refine holds_of_any fun vs kk h => ?_
  exact i_spec_fill (motive := fun vs => ∃ F, Holds Try.prog 41 { con_spec_fill with F := F } ∧ F vs kk) h (fun sizes0 values1 at2 room3 hF => ⟨(conr_spec_fill (M_spec_fill sizes0 values1 at2 room3 + 1)).F, hr_spec_fill _, ⟨Nat.lt_succ_self _, hF⟩⟩)
def con_spec_BestFill : Con := ⟨[.rd, .rd, .rd], true, [.c (.sl .int), .c (.sl .int), .c (.sc)], fun vs k => match vs with
    | [.c (.ro .int sizes0), .c (.ro .int values1), .c (.v (.int .i64 room2))] => F_spec_BestFill sizes0 values1 room2 (fun r0 => k (.one (.c (.ro .int r0))) [])
    | _ => False, false⟩
def cl_spec_BestFill : List (FuncId × Con) := [(39, con_spec_allIn), (40, con_spec_inRange), (41, con_spec_fill)]
def an_spec_BestFill : Ann := ⟨[], [], [], []⟩
def cs_spec_BestFill : Cons := ⟨cl_spec_BestFill, [], 0, [], [], []⟩
def fin_spec_BestFill (sizes0 : List Int) (values1 : List Int) (room2 : Int) (kk : AV → List A1 → Prop) : Kt := fin TT con_spec_BestFill Try.f16.results.toList [.c (.sl .int)] [.c (.ro .int sizes0), .c (.ro .int values1), .c (.v (.int .i64 room2))] kk
theorem g_spec_BestFill (sizes0 : List Int) (values1 : List Int) (room2 : Int) (kk : AV → List A1 → Prop) :
    ev TT cs_spec_BestFill 42 an_spec_BestFill (Try.f16.body.getD .skip) (st0 con_spec_BestFill [.c (.ro .int sizes0), .c (.ro .int values1), .c (.v (.int .i64 room2))]) (fin TT con_spec_BestFill Try.f16.results.toList [.c (.sl .int)] [.c (.ro .int sizes0), .c (.ro .int values1), .c (.v (.int .i64 room2))] kk) = G_spec_BestFill sizes0 values1 room2 (fun r0 => kk (.one (.c (.ro .int r0))) []) := by kernel_rfl
theorem e_spec_BestFill (sizes0 : List Int) (values1 : List Int) (room2 : Int) (kk : AV → List A1 → Prop) :
    ev TT cs_spec_BestFill 42 an_spec_BestFill (Try.f16.body.getD .skip) (st0 con_spec_BestFill [.c (.ro .int sizes0), .c (.ro .int values1), .c (.v (.int .i64 room2))]) (fin TT con_spec_BestFill Try.f16.results.toList [.c (.sl .int)] [.c (.ro .int sizes0), .c (.ro .int values1), .c (.v (.int .i64 room2))] kk) = S_spec_BestFill sizes0 values1 room2 (fun r0 => kk (.one (.c (.ro .int r0))) []) := by
  rw [g_spec_BestFill]
  rfl
theorem clok_spec_BestFill : ConOK Try.prog cl_spec_BestFill := consCons h_spec_allIn ⟨Try.f39, Try.func39, by kernel_rfl, ne_of_beq (by kernel_rfl)⟩ (consCons h_spec_inRange ⟨Try.f40, Try.func40, by kernel_rfl, ne_of_beq (by kernel_rfl)⟩ (consCons h_spec_fill ⟨Try.f41, Try.func41, by kernel_rfl, ne_of_beq (by kernel_rfl)⟩ (consNil)))
theorem cok_spec_BestFill : ConsOK Try.prog 42 cs_spec_BestFill := ⟨clok_spec_BestFill, inlNil, ovNil⟩
theorem i_spec_BestFill {vs : List A1} {kk : AV → List A1 → Prop} {motive : List A1 → Prop} (h : con_spec_BestFill.F vs kk) (H : ∀ (sizes0 : List Int) (values1 : List Int) (room2 : Int), F_spec_BestFill sizes0 values1 room2 (fun r0 => kk (.one (.c (.ro .int r0))) []) → motive [.c (.ro .int sizes0), .c (.ro .int values1), .c (.v (.int .i64 room2))]) : motive vs := by
  unfold con_spec_BestFill at h
  dsimp only at h
  split at h
  · exact H _ _ _ h
  · exact h.elim
theorem h_spec_BestFill : Holds Try.prog 16 con_spec_BestFill := by
  refine holds_of_ev (rt := [.c (.sl .int)]) (T := TT) (Γ := cs_spec_BestFill) (an := an_spec_BestFill) (N := 42) (c := Try.f16.body.getD .skip) Try.func16 (by kernel_rfl) Try.ntmps16 (by decide) (by decide) mixed tabOK cok_spec_BestFill (by kernel_rfl) ?_
  intro vs kk _ hF
  exact i_spec_BestFill (motive := fun vs => Goes (ev TT cs_spec_BestFill 42 an_spec_BestFill (Try.f16.body.getD .skip) (st0 con_spec_BestFill vs) (fin TT con_spec_BestFill Try.f16.results.toList [.c (.sl .int)] vs kk))) hF (fun sizes0 values1 room2 hF => goes_of (e_spec_BestFill sizes0 values1 room2 kk) (F_spec_BestFill_S hF))
def con_laws_equalInts : Con := ⟨[.rd, .rd], true, [.c (.sl .int), .c (.sl .int)], fun vs k => match vs with
    | [.c (.ro .int a0), .c (.ro .int b1)] => F_laws_equalInts a0 b1 (fun r0 => k (.one (.c (.v (.bool r0)))) [])
    | _ => False, false⟩
def cl_laws_equalInts : List (FuncId × Con) := []
def nm0_laws_equalInts : List NStep := [.keep [0, 1, 5] []]
def an_laws_equalInts : Ann := ⟨[(6, .take 0 (.take 1 (.take 2 (.take 3 (.take 4 (.take 5 (.take 6 (.take 7 (.take 8 (.done))))))))), [])], [(4, nm0_laws_equalInts)], [], []⟩
def cs_laws_equalInts : Cons := ⟨cl_laws_equalInts, [], 0, [], [], []⟩
def can0_laws_equalInts (a0 : List Int) (b1 : List Int) (xi5 : Int) : St := ⟨[(0, .one (.c (.ro .int a0))), (1, .one (.c (.ro .int b1))), (5, .one (.c (.v (.int .i64 xi5))))], []⟩
def fin_laws_equalInts (a0 : List Int) (b1 : List Int) (kk : AV → List A1 → Prop) : Kt := fin TT con_laws_equalInts Try.f15.results.toList [.c .sc] [.c (.ro .int a0), .c (.ro .int b1)] kk
def kt0_laws_equalInts (kf : Kt) : Kt := blockK 0 (seqK (evF TT cs_laws_equalInts 26 an_laws_equalInts Try.f15 [1, 1, 1]) (kf))
theorem r0_laws_equalInts (a0 : List Int) (b1 : List Int) (kk : AV → List A1 → Prop) (n : Nat) (xi5 : Int) :
    iter (evF TT cs_laws_equalInts 26 an_laws_equalInts Try.f15 [1, 1, 0, 1, 0, 0]) nm0_laws_equalInts (kt0_laws_equalInts (fin_laws_equalInts a0 b1 kk)) (n + 1) (can0_laws_equalInts a0 b1 xi5) = T0_laws_equalInts a0 b1 xi5 (fun r0 => kk (.one (.c (.v (.bool r0)))) []) (fun xi5 => iter (evF TT cs_laws_equalInts 26 an_laws_equalInts Try.f15 [1, 1, 0, 1, 0, 0]) nm0_laws_equalInts (kt0_laws_equalInts (fin_laws_equalInts a0 b1 kk)) n (can0_laws_equalInts a0 b1 xi5)) := by kernel_rfl
theorem l0_laws_equalInts (a0 : List Int) (b1 : List Int) (kk : AV → List A1 → Prop) : ∀ (n : Nat) (xi5 : Int), iter (evF TT cs_laws_equalInts 26 an_laws_equalInts Try.f15 [1, 1, 0, 1, 0, 0]) nm0_laws_equalInts (kt0_laws_equalInts (fin_laws_equalInts a0 b1 kk)) n (can0_laws_equalInts a0 b1 xi5) = L0_laws_equalInts a0 b1 (fun r0 => kk (.one (.c (.v (.bool r0)))) []) n xi5 := by
  intro n
  induction n with
  | zero => intros; rfl
  | succ n ih =>
    intro xi5
    rw [r0_laws_equalInts a0 b1 kk n xi5]
    have hb : (fun xi5 => iter (evF TT cs_laws_equalInts 26 an_laws_equalInts Try.f15 [1, 1, 0, 1, 0, 0]) nm0_laws_equalInts (kt0_laws_equalInts (fin_laws_equalInts a0 b1 kk)) n (can0_laws_equalInts a0 b1 xi5)) = L0_laws_equalInts a0 b1 (fun r0 => kk (.one (.c (.v (.bool r0)))) []) n := by
      funext xi5; exact ih xi5
    rw [hb]
    rfl
theorem g_laws_equalInts (a0 : List Int) (b1 : List Int) (kk : AV → List A1 → Prop) :
    ev TT cs_laws_equalInts 26 an_laws_equalInts (Try.f15.body.getD .skip) (st0 con_laws_equalInts [.c (.ro .int a0), .c (.ro .int b1)]) (fin TT con_laws_equalInts Try.f15.results.toList [.c .sc] [.c (.ro .int a0), .c (.ro .int b1)] kk) = G_laws_equalInts a0 b1 (fun r0 => kk (.one (.c (.v (.bool r0)))) []) (fun a0 b1 xi5 => ∃ j, iter (evF TT cs_laws_equalInts 26 an_laws_equalInts Try.f15 [1, 1, 0, 1, 0, 0]) nm0_laws_equalInts (kt0_laws_equalInts (fin_laws_equalInts a0 b1 kk)) j (can0_laws_equalInts a0 b1 xi5)) := by kernel_rfl
theorem e_laws_equalInts (a0 : List Int) (b1 : List Int) (kk : AV → List A1 → Prop) :
    ev TT cs_laws_equalInts 26 an_laws_equalInts (Try.f15.body.getD .skip) (st0 con_laws_equalInts [.c (.ro .int a0), .c (.ro .int b1)]) (fin TT con_laws_equalInts Try.f15.results.toList [.c .sc] [.c (.ro .int a0), .c (.ro .int b1)] kk) = S_laws_equalInts a0 b1 (fun r0 => kk (.one (.c (.v (.bool r0)))) []) := by
  rw [g_laws_equalInts]
  have hi0 : (fun a0 b1 xi5 => ∃ j, iter (evF TT cs_laws_equalInts 26 an_laws_equalInts Try.f15 [1, 1, 0, 1, 0, 0]) nm0_laws_equalInts (kt0_laws_equalInts (fin_laws_equalInts a0 b1 kk)) j (can0_laws_equalInts a0 b1 xi5)) = (fun a0 b1 xi5 => ∃ j, L0_laws_equalInts a0 b1 (fun r0 => kk (.one (.c (.v (.bool r0)))) []) j xi5) := by
    funext a0 b1 xi5
    refine congrArg Exists (funext fun j => ?_)
    rw [l0_laws_equalInts a0 b1 kk j xi5]
  rw [hi0]
  rfl
theorem clok_laws_equalInts : ConOK Try.prog cl_laws_equalInts := consNil
theorem cok_laws_equalInts : ConsOK Try.prog 26 cs_laws_equalInts := ⟨clok_laws_equalInts, inlNil, ovNil⟩
theorem i_laws_equalInts {vs : List A1} {kk : AV → List A1 → Prop} {motive : List A1 → Prop} (h : con_laws_equalInts.F vs kk) (H : ∀ (a0 : List Int) (b1 : List Int), F_laws_equalInts a0 b1 (fun r0 => kk (.one (.c (.v (.bool r0)))) []) → motive [.c (.ro .int a0), .c (.ro .int b1)]) : motive vs := by
  unfold con_laws_equalInts at h
  dsimp only at h
  split at h
  · exact H _ _ h
  · exact h.elim
theorem h_laws_equalInts : Holds Try.prog 15 con_laws_equalInts := by
  refine holds_of_ev (rt := [.c .sc]) (T := TT) (Γ := cs_laws_equalInts) (an := an_laws_equalInts) (N := 26) (c := Try.f15.body.getD .skip) Try.func15 (by kernel_rfl) Try.ntmps15 (by decide) (by decide) mixed tabOK cok_laws_equalInts (by kernel_rfl) ?_
  intro vs kk _ hF
  exact i_laws_equalInts (motive := fun vs => Goes (ev TT cs_laws_equalInts 26 an_laws_equalInts (Try.f15.body.getD .skip) (st0 con_laws_equalInts vs) (fin TT con_laws_equalInts Try.f15.results.toList [.c .sc] vs kk))) hF (fun a0 b1 hF => goes_of (e_laws_equalInts a0 b1 kk) (F_laws_equalInts_S hF))
def con_laws_isIn : Con := ⟨[.rd, .rd], true, [.c (.sl .int), .c (.sc)], fun vs k => match vs with
    | [.c (.ro .int list0), .c (.v (.int .i64 n1))] => F_laws_isIn list0 n1 (fun r0 => k (.one (.c (.v (.bool r0)))) [])
    | _ => False, false⟩
def cl_laws_isIn : List (FuncId × Con) := []
def nm0_laws_isIn : List NStep := [.keep [0, 1, 5] []]
def an_laws_isIn : Ann := ⟨[], [(2, nm0_laws_isIn)], [], []⟩
def cs_laws_isIn : Cons := ⟨cl_laws_isIn, [], 0, [], [], []⟩
def can0_laws_isIn (list0 : List Int) (n1 : Int) (xi5 : Int) : St := ⟨[(0, .one (.c (.ro .int list0))), (1, .one (.c (.v (.int .i64 n1)))), (5, .one (.c (.v (.int .i64 xi5))))], []⟩
def fin_laws_isIn (list0 : List Int) (n1 : Int) (kk : AV → List A1 → Prop) : Kt := fin TT con_laws_isIn Try.f17.results.toList [.c .sc] [.c (.ro .int list0), .c (.v (.int .i64 n1))] kk
def kt0_laws_isIn (kf : Kt) : Kt := blockK 0 (seqK (evF TT cs_laws_isIn 18 an_laws_isIn Try.f17 [1, 1]) (kf))
theorem r0_laws_isIn (list0 : List Int) (n1 : Int) (kk : AV → List A1 → Prop) (n : Nat) (xi5 : Int) :
    iter (evF TT cs_laws_isIn 18 an_laws_isIn Try.f17 [1, 0, 1, 0, 0]) nm0_laws_isIn (kt0_laws_isIn (fin_laws_isIn list0 n1 kk)) (n + 1) (can0_laws_isIn list0 n1 xi5) = T0_laws_isIn list0 n1 xi5 (fun r0 => kk (.one (.c (.v (.bool r0)))) []) (fun xi5 => iter (evF TT cs_laws_isIn 18 an_laws_isIn Try.f17 [1, 0, 1, 0, 0]) nm0_laws_isIn (kt0_laws_isIn (fin_laws_isIn list0 n1 kk)) n (can0_laws_isIn list0 n1 xi5)) := by kernel_rfl
theorem l0_laws_isIn (list0 : List Int) (n1 : Int) (kk : AV → List A1 → Prop) : ∀ (n : Nat) (xi5 : Int), iter (evF TT cs_laws_isIn 18 an_laws_isIn Try.f17 [1, 0, 1, 0, 0]) nm0_laws_isIn (kt0_laws_isIn (fin_laws_isIn list0 n1 kk)) n (can0_laws_isIn list0 n1 xi5) = L0_laws_isIn list0 n1 (fun r0 => kk (.one (.c (.v (.bool r0)))) []) n xi5 := by
  intro n
  induction n with
  | zero => intros; rfl
  | succ n ih =>
    intro xi5
    rw [r0_laws_isIn list0 n1 kk n xi5]
    have hb : (fun xi5 => iter (evF TT cs_laws_isIn 18 an_laws_isIn Try.f17 [1, 0, 1, 0, 0]) nm0_laws_isIn (kt0_laws_isIn (fin_laws_isIn list0 n1 kk)) n (can0_laws_isIn list0 n1 xi5)) = L0_laws_isIn list0 n1 (fun r0 => kk (.one (.c (.v (.bool r0)))) []) n := by
      funext xi5; exact ih xi5
    rw [hb]
    rfl
theorem g_laws_isIn (list0 : List Int) (n1 : Int) (kk : AV → List A1 → Prop) :
    ev TT cs_laws_isIn 18 an_laws_isIn (Try.f17.body.getD .skip) (st0 con_laws_isIn [.c (.ro .int list0), .c (.v (.int .i64 n1))]) (fin TT con_laws_isIn Try.f17.results.toList [.c .sc] [.c (.ro .int list0), .c (.v (.int .i64 n1))] kk) = G_laws_isIn list0 n1 (fun list0 n1 xi5 => ∃ j, iter (evF TT cs_laws_isIn 18 an_laws_isIn Try.f17 [1, 0, 1, 0, 0]) nm0_laws_isIn (kt0_laws_isIn (fin_laws_isIn list0 n1 kk)) j (can0_laws_isIn list0 n1 xi5)) := by kernel_rfl
theorem e_laws_isIn (list0 : List Int) (n1 : Int) (kk : AV → List A1 → Prop) :
    ev TT cs_laws_isIn 18 an_laws_isIn (Try.f17.body.getD .skip) (st0 con_laws_isIn [.c (.ro .int list0), .c (.v (.int .i64 n1))]) (fin TT con_laws_isIn Try.f17.results.toList [.c .sc] [.c (.ro .int list0), .c (.v (.int .i64 n1))] kk) = S_laws_isIn list0 n1 (fun r0 => kk (.one (.c (.v (.bool r0)))) []) := by
  rw [g_laws_isIn]
  have hi0 : (fun list0 n1 xi5 => ∃ j, iter (evF TT cs_laws_isIn 18 an_laws_isIn Try.f17 [1, 0, 1, 0, 0]) nm0_laws_isIn (kt0_laws_isIn (fin_laws_isIn list0 n1 kk)) j (can0_laws_isIn list0 n1 xi5)) = (fun list0 n1 xi5 => ∃ j, L0_laws_isIn list0 n1 (fun r0 => kk (.one (.c (.v (.bool r0)))) []) j xi5) := by
    funext list0 n1 xi5
    refine congrArg Exists (funext fun j => ?_)
    rw [l0_laws_isIn list0 n1 kk j xi5]
  rw [hi0]
  rfl
theorem clok_laws_isIn : ConOK Try.prog cl_laws_isIn := consNil
theorem cok_laws_isIn : ConsOK Try.prog 18 cs_laws_isIn := ⟨clok_laws_isIn, inlNil, ovNil⟩
theorem i_laws_isIn {vs : List A1} {kk : AV → List A1 → Prop} {motive : List A1 → Prop} (h : con_laws_isIn.F vs kk) (H : ∀ (list0 : List Int) (n1 : Int), F_laws_isIn list0 n1 (fun r0 => kk (.one (.c (.v (.bool r0)))) []) → motive [.c (.ro .int list0), .c (.v (.int .i64 n1))]) : motive vs := by
  unfold con_laws_isIn at h
  dsimp only at h
  split at h
  · exact H _ _ h
  · exact h.elim
theorem h_laws_isIn : Holds Try.prog 17 con_laws_isIn := by
  refine holds_of_ev (rt := [.c .sc]) (T := TT) (Γ := cs_laws_isIn) (an := an_laws_isIn) (N := 18) (c := Try.f17.body.getD .skip) Try.func17 (by kernel_rfl) Try.ntmps17 (by decide) (by decide) mixed tabOK cok_laws_isIn (by kernel_rfl) ?_
  intro vs kk _ hF
  exact i_laws_isIn (motive := fun vs => Goes (ev TT cs_laws_isIn 18 an_laws_isIn (Try.f17.body.getD .skip) (st0 con_laws_isIn vs) (fin TT con_laws_isIn Try.f17.results.toList [.c .sc] vs kk))) hF (fun list0 n1 hF => goes_of (e_laws_isIn list0 n1 kk) (F_laws_isIn_S hF))
def con_laws_FnBestFillRoom : Con := ⟨[.rd], true, [.c (.sl .u8)], fun vs k => match vs with
    | [.c (.ro .u8 code0)] => F_laws_FnBestFillRoom code0 (fun r0 => k (.one (.c (.v (.bool r0)))) [])
    | _ => False, false⟩
def cl_laws_FnBestFillRoom : List (FuncId × Con) := [(13, con_spec_DrawBestFill), (14, con_impl_BestFill), (15, con_laws_equalInts), (16, con_spec_BestFill), (17, con_laws_isIn)]
def nm0_laws_FnBestFillRoom : List NStep := [.keep [4, 6, 7, 8, 9, 10] [257, 368, 800]]
def an_laws_FnBestFillRoom : Ann := ⟨[], [(11, nm0_laws_FnBestFillRoom)], [], []⟩
def cs_laws_FnBestFillRoom : Cons := ⟨cl_laws_FnBestFillRoom, [], 0, [], [], []⟩
def can0_laws_FnBestFillRoom (bestFill23 : List Int) (bestFill50 : List Int) (drawBestFill16r1 : List Int) (xa8 : Int) (xb9 : Int) (xi10 : Int) : St := ⟨[(4, .one (.c (.ow 257))), (6, .one (.c (.ow 368))), (7, .one (.c (.ow 800))), (8, .one (.c (.v (.int .i64 xa8)))), (9, .one (.c (.v (.int .i64 xb9)))), (10, .one (.c (.v (.int .i64 xi10))))], [(257, .row .int drawBestFill16r1), (368, .row .int bestFill23), (800, .row .int bestFill50)]⟩
def fin_laws_FnBestFillRoom (code0 : List Int) (kk : AV → List A1 → Prop) : Kt := fin TT con_laws_FnBestFillRoom Try.f6.results.toList [.c .sc] [.c (.ro .u8 code0)] kk
def kt0_laws_FnBestFillRoom (kf : Kt) : Kt := blockK 0 (seqK (evF TT cs_laws_FnBestFillRoom 78 an_laws_FnBestFillRoom Try.f6 [1, 1, 1, 1, 1, 1, 1, 1, 1]) (kf))
theorem r0_laws_FnBestFillRoom (code0 : List Int) (bestFill23 : List Int) (bestFill50 : List Int) (drawBestFill16r1 : List Int) (kk : AV → List A1 → Prop) (n : Nat) (xa8 : Int) (xb9 : Int) (xi10 : Int) :
    iter (evF TT cs_laws_FnBestFillRoom 78 an_laws_FnBestFillRoom Try.f6 [1, 1, 1, 1, 1, 1, 1, 1, 0, 1, 0, 0]) nm0_laws_FnBestFillRoom (kt0_laws_FnBestFillRoom (fin_laws_FnBestFillRoom code0 kk)) (n + 1) (can0_laws_FnBestFillRoom bestFill23 bestFill50 drawBestFill16r1 xa8 xb9 xi10) = T0_laws_FnBestFillRoom bestFill23 bestFill50 drawBestFill16r1 xa8 xb9 xi10 (fun r0 => kk (.one (.c (.v (.bool r0)))) []) (fun xa8 xb9 xi10 => iter (evF TT cs_laws_FnBestFillRoom 78 an_laws_FnBestFillRoom Try.f6 [1, 1, 1, 1, 1, 1, 1, 1, 0, 1, 0, 0]) nm0_laws_FnBestFillRoom (kt0_laws_FnBestFillRoom (fin_laws_FnBestFillRoom code0 kk)) n (can0_laws_FnBestFillRoom bestFill23 bestFill50 drawBestFill16r1 xa8 xb9 xi10)) := by kernel_rfl
theorem l0_laws_FnBestFillRoom (code0 : List Int) (bestFill23 : List Int) (bestFill50 : List Int) (drawBestFill16r1 : List Int) (kk : AV → List A1 → Prop) : ∀ (n : Nat) (xa8 : Int) (xb9 : Int) (xi10 : Int), iter (evF TT cs_laws_FnBestFillRoom 78 an_laws_FnBestFillRoom Try.f6 [1, 1, 1, 1, 1, 1, 1, 1, 0, 1, 0, 0]) nm0_laws_FnBestFillRoom (kt0_laws_FnBestFillRoom (fin_laws_FnBestFillRoom code0 kk)) n (can0_laws_FnBestFillRoom bestFill23 bestFill50 drawBestFill16r1 xa8 xb9 xi10) = L0_laws_FnBestFillRoom bestFill23 bestFill50 drawBestFill16r1 (fun r0 => kk (.one (.c (.v (.bool r0)))) []) n xa8 xb9 xi10 := by
  intro n
  induction n with
  | zero => intros; rfl
  | succ n ih =>
    intro xa8 xb9 xi10
    rw [r0_laws_FnBestFillRoom code0 bestFill23 bestFill50 drawBestFill16r1 kk n xa8 xb9 xi10]
    have hb : (fun xa8 xb9 xi10 => iter (evF TT cs_laws_FnBestFillRoom 78 an_laws_FnBestFillRoom Try.f6 [1, 1, 1, 1, 1, 1, 1, 1, 0, 1, 0, 0]) nm0_laws_FnBestFillRoom (kt0_laws_FnBestFillRoom (fin_laws_FnBestFillRoom code0 kk)) n (can0_laws_FnBestFillRoom bestFill23 bestFill50 drawBestFill16r1 xa8 xb9 xi10)) = L0_laws_FnBestFillRoom bestFill23 bestFill50 drawBestFill16r1 (fun r0 => kk (.one (.c (.v (.bool r0)))) []) n := by
      funext xa8 xb9 xi10; exact ih xa8 xb9 xi10
    rw [hb]
    rfl
theorem g_laws_FnBestFillRoom (code0 : List Int) (kk : AV → List A1 → Prop) :
    ev TT cs_laws_FnBestFillRoom 78 an_laws_FnBestFillRoom (Try.f6.body.getD .skip) (st0 con_laws_FnBestFillRoom [.c (.ro .u8 code0)]) (fin TT con_laws_FnBestFillRoom Try.f6.results.toList [.c .sc] [.c (.ro .u8 code0)] kk) = G_laws_FnBestFillRoom code0 (fun r0 => kk (.one (.c (.v (.bool r0)))) []) (fun bestFill23 bestFill50 drawBestFill16r1 xa8 xb9 xi10 => ∃ j, iter (evF TT cs_laws_FnBestFillRoom 78 an_laws_FnBestFillRoom Try.f6 [1, 1, 1, 1, 1, 1, 1, 1, 0, 1, 0, 0]) nm0_laws_FnBestFillRoom (kt0_laws_FnBestFillRoom (fin_laws_FnBestFillRoom code0 kk)) j (can0_laws_FnBestFillRoom bestFill23 bestFill50 drawBestFill16r1 xa8 xb9 xi10)) := by kernel_rfl
theorem e_laws_FnBestFillRoom (code0 : List Int) (kk : AV → List A1 → Prop) :
    ev TT cs_laws_FnBestFillRoom 78 an_laws_FnBestFillRoom (Try.f6.body.getD .skip) (st0 con_laws_FnBestFillRoom [.c (.ro .u8 code0)]) (fin TT con_laws_FnBestFillRoom Try.f6.results.toList [.c .sc] [.c (.ro .u8 code0)] kk) = S_laws_FnBestFillRoom code0 (fun r0 => kk (.one (.c (.v (.bool r0)))) []) := by
  rw [g_laws_FnBestFillRoom]
  have hi0 : (fun bestFill23 bestFill50 drawBestFill16r1 xa8 xb9 xi10 => ∃ j, iter (evF TT cs_laws_FnBestFillRoom 78 an_laws_FnBestFillRoom Try.f6 [1, 1, 1, 1, 1, 1, 1, 1, 0, 1, 0, 0]) nm0_laws_FnBestFillRoom (kt0_laws_FnBestFillRoom (fin_laws_FnBestFillRoom code0 kk)) j (can0_laws_FnBestFillRoom bestFill23 bestFill50 drawBestFill16r1 xa8 xb9 xi10)) = (fun bestFill23 bestFill50 drawBestFill16r1 xa8 xb9 xi10 => ∃ j, L0_laws_FnBestFillRoom bestFill23 bestFill50 drawBestFill16r1 (fun r0 => kk (.one (.c (.v (.bool r0)))) []) j xa8 xb9 xi10) := by
    funext bestFill23 bestFill50 drawBestFill16r1 xa8 xb9 xi10
    refine congrArg Exists (funext fun j => ?_)
    rw [l0_laws_FnBestFillRoom code0 bestFill23 bestFill50 drawBestFill16r1 kk j xa8 xb9 xi10]
  rw [hi0]
  rfl
theorem clok_laws_FnBestFillRoom : ConOK Try.prog cl_laws_FnBestFillRoom := consCons h_spec_DrawBestFill ⟨Try.f13, Try.func13, by kernel_rfl, ne_of_beq (by kernel_rfl)⟩ (consCons h_impl_BestFill ⟨Try.f14, Try.func14, by kernel_rfl, ne_of_beq (by kernel_rfl)⟩ (consCons h_laws_equalInts ⟨Try.f15, Try.func15, by kernel_rfl, ne_of_beq (by kernel_rfl)⟩ (consCons h_spec_BestFill ⟨Try.f16, Try.func16, by kernel_rfl, ne_of_beq (by kernel_rfl)⟩ (consCons h_laws_isIn ⟨Try.f17, Try.func17, by kernel_rfl, ne_of_beq (by kernel_rfl)⟩ (consNil)))))
theorem cok_laws_FnBestFillRoom : ConsOK Try.prog 78 cs_laws_FnBestFillRoom := ⟨clok_laws_FnBestFillRoom, inlNil, ovNil⟩
theorem i_laws_FnBestFillRoom {vs : List A1} {kk : AV → List A1 → Prop} {motive : List A1 → Prop} (h : con_laws_FnBestFillRoom.F vs kk) (H : ∀ (code0 : List Int), F_laws_FnBestFillRoom code0 (fun r0 => kk (.one (.c (.v (.bool r0)))) []) → motive [.c (.ro .u8 code0)]) : motive vs := by
  unfold con_laws_FnBestFillRoom at h
  dsimp only at h
  split at h
  · exact H _ h
  · exact h.elim
theorem h_laws_FnBestFillRoom : Holds Try.prog 6 con_laws_FnBestFillRoom := by
  refine holds_of_ev (rt := [.c .sc]) (T := TT) (Γ := cs_laws_FnBestFillRoom) (an := an_laws_FnBestFillRoom) (N := 78) (c := Try.f6.body.getD .skip) Try.func6 (by kernel_rfl) Try.ntmps6 (by decide) (by decide) mixed tabOK cok_laws_FnBestFillRoom (by kernel_rfl) ?_
  intro vs kk _ hF
  exact i_laws_FnBestFillRoom (motive := fun vs => Goes (ev TT cs_laws_FnBestFillRoom 78 an_laws_FnBestFillRoom (Try.f6.body.getD .skip) (st0 con_laws_FnBestFillRoom vs) (fin TT con_laws_FnBestFillRoom Try.f6.results.toList [.c .sc] vs kk))) hF (fun code0 hF => goes_of (e_laws_FnBestFillRoom code0 kk) (F_laws_FnBestFillRoom_S hF))
end Go.Ev
