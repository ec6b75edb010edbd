/- What the evaluator gives for these functions: their contracts. No statement is proved here. -/
import Derived.Test.YtlobdkcjlpifjadFnUseClockAgainP0
import Derived.Test.YtlobdkcjlpifjadTt
namespace Go.Ev
set_option linter.unusedVariables false
set_option maxRecDepth 100000
open Go Go.Proofs
def con_spec_newReader : Con := ⟨[.rd], true, [.c (.sl .u8)], fun vs k => match vs with
    | [.c (.ro .u8 code0)] => F_spec_newReader code0 (fun r0 r1 => k (.one (.agg [.ro .u8 r0, .v (.int .i64 r1)])) [])
    | _ => False, true⟩
def cl_spec_newReader : List (FuncId × Con) := []
def an_spec_newReader : Ann := ⟨[], [], []⟩
def cs_spec_newReader : Cons := ⟨cl_spec_newReader, [], 0, [], []⟩
def fin_spec_newReader (code0 : List Int) (kk : AV → List A1 → Prop) : Kt := finB Try.f55.results.toList [.sl .u8, .sc] kk
theorem g_spec_newReader (code0 : List Int) (kk : AV → List A1 → Prop) :
    ev TT cs_spec_newReader 11 an_spec_newReader (Try.f55.body.getD .skip) (st0 con_spec_newReader [.c (.ro .u8 code0)]) (finB Try.f55.results.toList [.sl .u8, .sc] kk) = G_spec_newReader code0 (fun r0 r1 => kk (.one (.agg [.ro .u8 r0, .v (.int .i64 r1)])) []) := by kernel_rfl
theorem e_spec_newReader (code0 : List Int) (kk : AV → List A1 → Prop) :
    ev TT cs_spec_newReader 11 an_spec_newReader (Try.f55.body.getD .skip) (st0 con_spec_newReader [.c (.ro .u8 code0)]) (finB Try.f55.results.toList [.sl .u8, .sc] kk) = S_spec_newReader code0 (fun r0 r1 => kk (.one (.agg [.ro .u8 r0, .v (.int .i64 r1)])) []) := by
  rw [g_spec_newReader]
  rfl
theorem clok_spec_newReader : ConOK Try.prog cl_spec_newReader := consNil
theorem cok_spec_newReader : ConsOK Try.prog 11 cs_spec_newReader := ⟨clok_spec_newReader, inlNil⟩
theorem i_spec_newReader {vs : List A1} {kk : AV → List A1 → Prop} {motive : List A1 → Prop} (h : con_spec_newReader.F vs kk) (H : ∀ (code0 : List Int), F_spec_newReader code0 (fun r0 r1 => kk (.one (.agg [.ro .u8 r0, .v (.int .i64 r1)])) []) → motive [.c (.ro .u8 code0)]) : motive vs := by
  unfold con_spec_newReader at h
  dsimp only at h
  split at h
  · exact H _ h
  · exact h.elim
theorem h_spec_newReader : HoldsB Try.prog 55 con_spec_newReader := by
  refine holdsB_of_ev (ts := [.sl .u8, .sc]) (T := TT) (Γ := cs_spec_newReader) (an := an_spec_newReader) (N := 11) (c := Try.f55.body.getD .skip) Try.func55 (by kernel_rfl) Try.ntmps55 (by decide) (by decide) mixed tabOK cok_spec_newReader (by kernel_rfl) ?_
  intro vs kk _ hF
  exact i_spec_newReader (motive := fun vs => Goes (ev TT cs_spec_newReader 11 an_spec_newReader (Try.f55.body.getD .skip) (st0 con_spec_newReader vs) (finB Try.f55.results.toList [.sl .u8, .sc] kk))) hF (fun code0 hF => goes_of (e_spec_newReader code0 kk) (F_spec_newReader_S hF))
def con_spec_reader_pick : Con := ⟨[.mu, .rd], true, [.ptr [.sl .u8, .sc], .c (.sc)], fun vs k => match vs with
    | [.ptr [.ro .u8 r0b, .v (.int .i64 r0p)], .c (.v (.int .i64 n1))] => F_spec_reader_pick r0b r0p n1 (fun r0 r1 r2 => k (.one (.c (.v (.int .i64 r0)))) [.ptr [.ro .u8 r1, .v (.int .i64 r2)]])
    | _ => False, false⟩
def cl_spec_reader_pick : List (FuncId × Con) := []
def an_spec_reader_pick : Ann := ⟨[(7, .take 0 (.take 1 (.take 2 (.take 3 (.take 4 (.take 5 (.take 6 (.take 7 (.take 8 (.take 9 (.take 10 (.take 11 (.take 12 (.take 13 (.take 14 (.take 15 (.take 16 (.take 17 (.take 18 (.take 19 (.take 20 (.take 21 (.take 22 (.take 23 (.take 24 (.take 25 (.take 26 (.take 27 (.take 28 (.take 29 (.take 30 (.take 31 (.take 32 (.take 33 (.take 34 (.take 35 (.take 36 (.take 37 (.take 38 (.take 39 (.take 40 (.take 41 (.take 42 (.take 43 (.take 44 (.take 45 (.done)))))))))))))))))))))))))))))))))))))))))))))), [100000])], [], []⟩
def cs_spec_reader_pick : Cons := ⟨cl_spec_reader_pick, [], 0, [], []⟩
def fin_spec_reader_pick (r0b : List Int) (r0p : Int) (n1 : Int) (kk : AV → List A1 → Prop) : Kt := fin TT con_spec_reader_pick Try.f80.results.toList [.c .sc] [.ptr [.ro .u8 r0b, .v (.int .i64 r0p)], .c (.v (.int .i64 n1))] kk
theorem g_spec_reader_pick (r0b : List Int) (r0p : Int) (n1 : Int) (kk : AV → List A1 → Prop) :
    ev TT cs_spec_reader_pick 99 an_spec_reader_pick (Try.f80.body.getD .skip) (st0 con_spec_reader_pick [.ptr [.ro .u8 r0b, .v (.int .i64 r0p)], .c (.v (.int .i64 n1))]) (fin TT con_spec_reader_pick Try.f80.results.toList [.c .sc] [.ptr [.ro .u8 r0b, .v (.int .i64 r0p)], .c (.v (.int .i64 n1))] kk) = G_spec_reader_pick r0b r0p n1 (fun r0 r1 r2 => kk (.one (.c (.v (.int .i64 r0)))) [.ptr [.ro .u8 r1, .v (.int .i64 r2)]]) := by kernel_rfl
theorem e_spec_reader_pick (r0b : List Int) (r0p : Int) (n1 : Int) (kk : AV → List A1 → Prop) :
    ev TT cs_spec_reader_pick 99 an_spec_reader_pick (Try.f80.body.getD .skip) (st0 con_spec_reader_pick [.ptr [.ro .u8 r0b, .v (.int .i64 r0p)], .c (.v (.int .i64 n1))]) (fin TT con_spec_reader_pick Try.f80.results.toList [.c .sc] [.ptr [.ro .u8 r0b, .v (.int .i64 r0p)], .c (.v (.int .i64 n1))] kk) = S_spec_reader_pick r0b r0p n1 (fun r0 r1 r2 => kk (.one (.c (.v (.int .i64 r0)))) [.ptr [.ro .u8 r1, .v (.int .i64 r2)]]) := by
  rw [g_spec_reader_pick]
  rfl
theorem clok_spec_reader_pick : ConOK Try.prog cl_spec_reader_pick := consNil
theorem cok_spec_reader_pick : ConsOK Try.prog 99 cs_spec_reader_pick := ⟨clok_spec_reader_pick, inlNil⟩
theorem i_spec_reader_pick {vs : List A1} {kk : AV → List A1 → Prop} {motive : List A1 → Prop} (h : con_spec_reader_pick.F vs kk) (H : ∀ (r0b : List Int) (r0p : Int) (n1 : Int), F_spec_reader_pick r0b r0p n1 (fun r0 r1 r2 => kk (.one (.c (.v (.int .i64 r0)))) [.ptr [.ro .u8 r1, .v (.int .i64 r2)]]) → motive [.ptr [.ro .u8 r0b, .v (.int .i64 r0p)], .c (.v (.int .i64 n1))]) : motive vs := by
  unfold con_spec_reader_pick at h
  dsimp only at h
  split at h
  · exact H _ _ _ h
  · exact h.elim
theorem h_spec_reader_pick : Holds Try.prog 80 con_spec_reader_pick := by
  refine holds_of_ev (rt := [.c .sc]) (T := TT) (Γ := cs_spec_reader_pick) (an := an_spec_reader_pick) (N := 99) (c := Try.f80.body.getD .skip) Try.func80 (by kernel_rfl) Try.ntmps80 (by decide) (by decide) mixed tabOK cok_spec_reader_pick (by kernel_rfl) ?_
  intro vs kk _ hF
  exact i_spec_reader_pick (motive := fun vs => Goes (ev TT cs_spec_reader_pick 99 an_spec_reader_pick (Try.f80.body.getD .skip) (st0 con_spec_reader_pick vs) (fin TT con_spec_reader_pick Try.f80.results.toList [.c .sc] vs kk))) hF (fun r0b r0p n1 hF => goes_of (e_spec_reader_pick r0b r0p n1 kk) (F_spec_reader_pick_S hF))
def con_spec_reader_one : Con := ⟨[.mu, .rd], true, [.ptr [.sl .u8, .sc], .c (.sl .int)], fun vs k => match vs with
    | [.ptr [.ro .u8 r0b, .v (.int .i64 r0p)], .c (.ro .int list1)] => F_spec_reader_one r0b r0p list1 (fun r0 r1 r2 => k (.one (.c (.v (.int .i64 r0)))) [.ptr [.ro .u8 r1, .v (.int .i64 r2)]])
    | _ => False, false⟩
def cl_spec_reader_one : List (FuncId × Con) := [(80, con_spec_reader_pick)]
def an_spec_reader_one : Ann := ⟨[], [], []⟩
def cs_spec_reader_one : Cons := ⟨cl_spec_reader_one, [], 0, [], []⟩
def fin_spec_reader_one (r0b : List Int) (r0p : Int) (list1 : List Int) (kk : AV → List A1 → Prop) : Kt := fin TT con_spec_reader_one Try.f79.results.toList [.c .sc] [.ptr [.ro .u8 r0b, .v (.int .i64 r0p)], .c (.ro .int list1)] kk
theorem g_spec_reader_one (r0b : List Int) (r0p : Int) (list1 : List Int) (kk : AV → List A1 → Prop) :
    ev TT cs_spec_reader_one 12 an_spec_reader_one (Try.f79.body.getD .skip) (st0 con_spec_reader_one [.ptr [.ro .u8 r0b, .v (.int .i64 r0p)], .c (.ro .int list1)]) (fin TT con_spec_reader_one Try.f79.results.toList [.c .sc] [.ptr [.ro .u8 r0b, .v (.int .i64 r0p)], .c (.ro .int list1)] kk) = G_spec_reader_one r0b r0p list1 (fun r0 r1 r2 => kk (.one (.c (.v (.int .i64 r0)))) [.ptr [.ro .u8 r1, .v (.int .i64 r2)]]) := by kernel_rfl
theorem e_spec_reader_one (r0b : List Int) (r0p : Int) (list1 : List Int) (kk : AV → List A1 → Prop) :
    ev TT cs_spec_reader_one 12 an_spec_reader_one (Try.f79.body.getD .skip) (st0 con_spec_reader_one [.ptr [.ro .u8 r0b, .v (.int .i64 r0p)], .c (.ro .int list1)]) (fin TT con_spec_reader_one Try.f79.results.toList [.c .sc] [.ptr [.ro .u8 r0b, .v (.int .i64 r0p)], .c (.ro .int list1)] kk) = S_spec_reader_one r0b r0p list1 (fun r0 r1 r2 => kk (.one (.c (.v (.int .i64 r0)))) [.ptr [.ro .u8 r1, .v (.int .i64 r2)]]) := by
  rw [g_spec_reader_one]
  rfl
theorem clok_spec_reader_one : ConOK Try.prog cl_spec_reader_one := consCons h_spec_reader_pick ⟨Try.f80, Try.func80, by kernel_rfl, ne_of_beq (by kernel_rfl)⟩ (consNil)
theorem cok_spec_reader_one : ConsOK Try.prog 12 cs_spec_reader_one := ⟨clok_spec_reader_one, inlNil⟩
theorem i_spec_reader_one {vs : List A1} {kk : AV → List A1 → Prop} {motive : List A1 → Prop} (h : con_spec_reader_one.F vs kk) (H : ∀ (r0b : List Int) (r0p : Int) (list1 : List Int), F_spec_reader_one r0b r0p list1 (fun r0 r1 r2 => kk (.one (.c (.v (.int .i64 r0)))) [.ptr [.ro .u8 r1, .v (.int .i64 r2)]]) → motive [.ptr [.ro .u8 r0b, .v (.int .i64 r0p)], .c (.ro .int list1)]) : motive vs := by
  unfold con_spec_reader_one at h
  dsimp only at h
  split at h
  · exact H _ _ _ h
  · exact h.elim
theorem h_spec_reader_one : Holds Try.prog 79 con_spec_reader_one := by
  refine holds_of_ev (rt := [.c .sc]) (T := TT) (Γ := cs_spec_reader_one) (an := an_spec_reader_one) (N := 12) (c := Try.f79.body.getD .skip) Try.func79 (by kernel_rfl) Try.ntmps79 (by decide) (by decide) mixed tabOK cok_spec_reader_one (by kernel_rfl) ?_
  intro vs kk _ hF
  exact i_spec_reader_one (motive := fun vs => Goes (ev TT cs_spec_reader_one 12 an_spec_reader_one (Try.f79.body.getD .skip) (st0 con_spec_reader_one vs) (fin TT con_spec_reader_one Try.f79.results.toList [.c .sc] vs kk))) hF (fun r0b r0p list1 hF => goes_of (e_spec_reader_one r0b r0p list1 kk) (F_spec_reader_one_S hF))
def con_spec_copyInts : Con := ⟨[.rd], true, [.c (.sl .int)], fun vs k => match vs with
    | [.c (.ro .int list0)] => F_spec_copyInts list0 (fun r0 => k (.one (.c (.ro .int r0))) [])
    | _ => False, false⟩
def cl_spec_copyInts : List (FuncId × Con) := []
def an_spec_copyInts : Ann := ⟨[], [], []⟩
def cs_spec_copyInts : Cons := ⟨cl_spec_copyInts, [], 0, [], []⟩
def fin_spec_copyInts (list0 : List Int) (kk : AV → List A1 → Prop) : Kt := fin TT con_spec_copyInts Try.f68.results.toList [.c (.sl .int)] [.c (.ro .int list0)] kk
theorem g_spec_copyInts (list0 : List Int) (kk : AV → List A1 → Prop) :
    ev TT cs_spec_copyInts 6 an_spec_copyInts (Try.f68.body.getD .skip) (st0 con_spec_copyInts [.c (.ro .int list0)]) (fin TT con_spec_copyInts Try.f68.results.toList [.c (.sl .int)] [.c (.ro .int list0)] kk) = G_spec_copyInts list0 (fun r0 => kk (.one (.c (.ro .int r0))) []) := by kernel_rfl
theorem e_spec_copyInts (list0 : List Int) (kk : AV → List A1 → Prop) :
    ev TT cs_spec_copyInts 6 an_spec_copyInts (Try.f68.body.getD .skip) (st0 con_spec_copyInts [.c (.ro .int list0)]) (fin TT con_spec_copyInts Try.f68.results.toList [.c (.sl .int)] [.c (.ro .int list0)] kk) = S_spec_copyInts list0 (fun r0 => kk (.one (.c (.ro .int r0))) []) := by
  rw [g_spec_copyInts]
  rfl
theorem clok_spec_copyInts : ConOK Try.prog cl_spec_copyInts := consNil
theorem cok_spec_copyInts : ConsOK Try.prog 6 cs_spec_copyInts := ⟨clok_spec_copyInts, inlNil⟩
theorem i_spec_copyInts {vs : List A1} {kk : AV → List A1 → Prop} {motive : List A1 → Prop} (h : con_spec_copyInts.F vs kk) (H : ∀ (list0 : List Int), F_spec_copyInts list0 (fun r0 => kk (.one (.c (.ro .int r0))) []) → motive [.c (.ro .int list0)]) : motive vs := by
  unfold con_spec_copyInts at h
  dsimp only at h
  split at h
  · exact H _ h
  · exact h.elim
theorem h_spec_copyInts : Holds Try.prog 68 con_spec_copyInts := by
  refine holds_of_ev (rt := [.c (.sl .int)]) (T := TT) (Γ := cs_spec_copyInts) (an := an_spec_copyInts) (N := 6) (c := Try.f68.body.getD .skip) Try.func68 (by kernel_rfl) Try.ntmps68 (by decide) (by decide) mixed tabOK cok_spec_copyInts (by kernel_rfl) ?_
  intro vs kk _ hF
  exact i_spec_copyInts (motive := fun vs => Goes (ev TT cs_spec_copyInts 6 an_spec_copyInts (Try.f68.body.getD .skip) (st0 con_spec_copyInts vs) (fin TT con_spec_copyInts Try.f68.results.toList [.c (.sl .int)] vs kk))) hF (fun list0 hF => goes_of (e_spec_copyInts list0 kk) (F_spec_copyInts_S hF))
def con_spec_copyClock : Con := ⟨[.rd], true, [.agg [.sc, .sl .int, .sl .bool, .sc]], fun vs k => match vs with
    | [.agg [.v (.int .i64 c0Room), .ro .int c0Keys, .ro .bool c0Used, .v (.int .i64 c0Hand)]] => F_spec_copyClock c0Room c0Keys c0Used c0Hand (fun r0 r1 r2 r3 => k (.one (.agg [.v (.int .i64 r0), .ro .int r1, .ro .bool r2, .v (.int .i64 r3)])) [])
    | _ => False, false⟩
def cl_spec_copyClock : List (FuncId × Con) := [(68, con_spec_copyInts)]
def an_spec_copyClock : Ann := ⟨[(1, .take 0 (.take 1 (.take 2 (.take 3 (.take 6 (.take 7 (.take 9 (.take 10 (.alt 4 (.alt 5 (.alt 8 (.take 11 (.alt 12 (.done) (.none))) (.none)) (.none)) (.alt 5 (.alt 4 (.alt 8 (.take 11 (.alt 12 (.done) (.none))) (.none)) (.none)) (.none)))))))))), [16])], [], []⟩
def cs_spec_copyClock : Cons := ⟨cl_spec_copyClock, [], 0, [], []⟩
def fin_spec_copyClock (c0Room : Int) (c0Keys : List Int) (c0Used : List Bool) (c0Hand : Int) (kk : AV → List A1 → Prop) : Kt := fin TT con_spec_copyClock Try.f87.results.toList [.agg [.sc, .sl .int, .sl .bool, .sc]] [.agg [.v (.int .i64 c0Room), .ro .int c0Keys, .ro .bool c0Used, .v (.int .i64 c0Hand)]] kk
theorem g_spec_copyClock (c0Room : Int) (c0Keys : List Int) (c0Used : List Bool) (c0Hand : Int) (kk : AV → List A1 → Prop) :
    ev TT cs_spec_copyClock 15 an_spec_copyClock (Try.f87.body.getD .skip) (st0 con_spec_copyClock [.agg [.v (.int .i64 c0Room), .ro .int c0Keys, .ro .bool c0Used, .v (.int .i64 c0Hand)]]) (fin TT con_spec_copyClock Try.f87.results.toList [.agg [.sc, .sl .int, .sl .bool, .sc]] [.agg [.v (.int .i64 c0Room), .ro .int c0Keys, .ro .bool c0Used, .v (.int .i64 c0Hand)]] kk) = G_spec_copyClock c0Room c0Keys c0Used c0Hand (fun r0 r1 r2 r3 => kk (.one (.agg [.v (.int .i64 r0), .ro .int r1, .ro .bool r2, .v (.int .i64 r3)])) []) := by kernel_rfl
theorem e_spec_copyClock (c0Room : Int) (c0Keys : List Int) (c0Used : List Bool) (c0Hand : Int) (kk : AV → List A1 → Prop) :
    ev TT cs_spec_copyClock 15 an_spec_copyClock (Try.f87.body.getD .skip) (st0 con_spec_copyClock [.agg [.v (.int .i64 c0Room), .ro .int c0Keys, .ro .bool c0Used, .v (.int .i64 c0Hand)]]) (fin TT con_spec_copyClock Try.f87.results.toList [.agg [.sc, .sl .int, .sl .bool, .sc]] [.agg [.v (.int .i64 c0Room), .ro .int c0Keys, .ro .bool c0Used, .v (.int .i64 c0Hand)]] kk) = S_spec_copyClock c0Room c0Keys c0Used c0Hand (fun r0 r1 r2 r3 => kk (.one (.agg [.v (.int .i64 r0), .ro .int r1, .ro .bool r2, .v (.int .i64 r3)])) []) := by
  rw [g_spec_copyClock]
  rw [G_spec_copyClock_eq]
  rfl
theorem clok_spec_copyClock : ConOK Try.prog cl_spec_copyClock := consCons h_spec_copyInts ⟨Try.f68, Try.func68, by kernel_rfl, ne_of_beq (by kernel_rfl)⟩ (consNil)
theorem cok_spec_copyClock : ConsOK Try.prog 15 cs_spec_copyClock := ⟨clok_spec_copyClock, inlNil⟩
theorem i_spec_copyClock {vs : List A1} {kk : AV → List A1 → Prop} {motive : List A1 → Prop} (h : con_spec_copyClock.F vs kk) (H : ∀ (c0Room : Int) (c0Keys : List Int) (c0Used : List Bool) (c0Hand : Int), F_spec_copyClock c0Room c0Keys c0Used c0Hand (fun r0 r1 r2 r3 => kk (.one (.agg [.v (.int .i64 r0), .ro .int r1, .ro .bool r2, .v (.int .i64 r3)])) []) → motive [.agg [.v (.int .i64 c0Room), .ro .int c0Keys, .ro .bool c0Used, .v (.int .i64 c0Hand)]]) : motive vs := by
  unfold con_spec_copyClock at h
  dsimp only at h
  split at h
  · exact H _ _ _ _ h
  · exact h.elim
theorem h_spec_copyClock : Holds Try.prog 87 con_spec_copyClock := by
  refine holds_of_ev (rt := [.agg [.sc, .sl .int, .sl .bool, .sc]]) (T := TT) (Γ := cs_spec_copyClock) (an := an_spec_copyClock) (N := 15) (c := Try.f87.body.getD .skip) Try.func87 (by kernel_rfl) Try.ntmps87 (by decide) (by decide) mixed tabOK cok_spec_copyClock (by kernel_rfl) ?_
  intro vs kk _ hF
  exact i_spec_copyClock (motive := fun vs => Goes (ev TT cs_spec_copyClock 15 an_spec_copyClock (Try.f87.body.getD .skip) (st0 con_spec_copyClock vs) (fin TT con_spec_copyClock Try.f87.results.toList [.agg [.sc, .sl .int, .sl .bool, .sc]] vs kk))) hF (fun c0Room c0Keys c0Used c0Hand hF => goes_of (e_spec_copyClock c0Room c0Keys c0Used c0Hand kk) (F_spec_copyClock_S hF))
def con_spec_placeOf : Con := ⟨[.rd, .rd], true, [.c (.sl .int), .c (.sc)], fun vs k => match vs with
    | [.c (.ro .int list0), .c (.v (.int .i64 n1))] => F_spec_placeOf list0 n1 (fun r0 => k (.one (.c (.v (.int .i64 r0)))) [])
    | _ => False, false⟩
def cl_spec_placeOf : List (FuncId × Con) := []
def nm0_spec_placeOf : List NStep := [.keep [0, 1, 5] []]
def an_spec_placeOf : Ann := ⟨[], [(2, nm0_spec_placeOf)], []⟩
def cs_spec_placeOf : Cons := ⟨cl_spec_placeOf, [], 0, [], []⟩
def can0_spec_placeOf (list0 : List Int) (n1 : Int) (xi5 : Int) : St := ⟨[(0, .one (.c (.ro .int list0))), (1, .one (.c (.v (.int .i64 n1)))), (5, .one (.c (.v (.int .i64 xi5))))], []⟩
def fin_spec_placeOf (list0 : List Int) (n1 : Int) (kk : AV → List A1 → Prop) : Kt := fin TT con_spec_placeOf Try.f51.results.toList [.c .sc] [.c (.ro .int list0), .c (.v (.int .i64 n1))] kk
def kt0_spec_placeOf (kf : Kt) : Kt := blockK 0 (seqK (evF TT cs_spec_placeOf 19 an_spec_placeOf Try.f51 [1, 1]) (kf))
theorem r0_spec_placeOf (list0 : List Int) (n1 : Int) (kk : AV → List A1 → Prop) (n : Nat) (xi5 : Int) :
    iter (evF TT cs_spec_placeOf 19 an_spec_placeOf Try.f51 [1, 0, 1, 0, 0]) nm0_spec_placeOf (kt0_spec_placeOf (fin_spec_placeOf list0 n1 kk)) (n + 1) (can0_spec_placeOf list0 n1 xi5) = T0_spec_placeOf list0 n1 xi5 (fun r0 => kk (.one (.c (.v (.int .i64 r0)))) []) (fun xi5 => iter (evF TT cs_spec_placeOf 19 an_spec_placeOf Try.f51 [1, 0, 1, 0, 0]) nm0_spec_placeOf (kt0_spec_placeOf (fin_spec_placeOf list0 n1 kk)) n (can0_spec_placeOf list0 n1 xi5)) := by kernel_rfl
theorem l0_spec_placeOf (list0 : List Int) (n1 : Int) (kk : AV → List A1 → Prop) : ∀ (n : Nat) (xi5 : Int), iter (evF TT cs_spec_placeOf 19 an_spec_placeOf Try.f51 [1, 0, 1, 0, 0]) nm0_spec_placeOf (kt0_spec_placeOf (fin_spec_placeOf list0 n1 kk)) n (can0_spec_placeOf list0 n1 xi5) = L0_spec_placeOf list0 n1 (fun r0 => kk (.one (.c (.v (.int .i64 r0)))) []) n xi5 := by
  intro n
  induction n with
  | zero => intros; rfl
  | succ n ih =>
    intro xi5
    rw [r0_spec_placeOf list0 n1 kk n xi5]
    have hb : (fun xi5 => iter (evF TT cs_spec_placeOf 19 an_spec_placeOf Try.f51 [1, 0, 1, 0, 0]) nm0_spec_placeOf (kt0_spec_placeOf (fin_spec_placeOf list0 n1 kk)) n (can0_spec_placeOf list0 n1 xi5)) = L0_spec_placeOf list0 n1 (fun r0 => kk (.one (.c (.v (.int .i64 r0)))) []) n := by
      funext xi5; exact ih xi5
    rw [hb]
    rfl
theorem g_spec_placeOf (list0 : List Int) (n1 : Int) (kk : AV → List A1 → Prop) :
    ev TT cs_spec_placeOf 19 an_spec_placeOf (Try.f51.body.getD .skip) (st0 con_spec_placeOf [.c (.ro .int list0), .c (.v (.int .i64 n1))]) (fin TT con_spec_placeOf Try.f51.results.toList [.c .sc] [.c (.ro .int list0), .c (.v (.int .i64 n1))] kk) = G_spec_placeOf list0 n1 (fun list0 n1 xi5 => ∃ j, iter (evF TT cs_spec_placeOf 19 an_spec_placeOf Try.f51 [1, 0, 1, 0, 0]) nm0_spec_placeOf (kt0_spec_placeOf (fin_spec_placeOf list0 n1 kk)) j (can0_spec_placeOf list0 n1 xi5)) := by kernel_rfl
theorem e_spec_placeOf (list0 : List Int) (n1 : Int) (kk : AV → List A1 → Prop) :
    ev TT cs_spec_placeOf 19 an_spec_placeOf (Try.f51.body.getD .skip) (st0 con_spec_placeOf [.c (.ro .int list0), .c (.v (.int .i64 n1))]) (fin TT con_spec_placeOf Try.f51.results.toList [.c .sc] [.c (.ro .int list0), .c (.v (.int .i64 n1))] kk) = S_spec_placeOf list0 n1 (fun r0 => kk (.one (.c (.v (.int .i64 r0)))) []) := by
  rw [g_spec_placeOf]
  have hi0 : (fun list0 n1 xi5 => ∃ j, iter (evF TT cs_spec_placeOf 19 an_spec_placeOf Try.f51 [1, 0, 1, 0, 0]) nm0_spec_placeOf (kt0_spec_placeOf (fin_spec_placeOf list0 n1 kk)) j (can0_spec_placeOf list0 n1 xi5)) = (fun list0 n1 xi5 => ∃ j, L0_spec_placeOf list0 n1 (fun r0 => kk (.one (.c (.v (.int .i64 r0)))) []) j xi5) := by
    funext list0 n1 xi5
    refine congrArg Exists (funext fun j => ?_)
    rw [l0_spec_placeOf list0 n1 kk j xi5]
  rw [hi0]
  rfl
theorem clok_spec_placeOf : ConOK Try.prog cl_spec_placeOf := consNil
theorem cok_spec_placeOf : ConsOK Try.prog 19 cs_spec_placeOf := ⟨clok_spec_placeOf, inlNil⟩
theorem i_spec_placeOf {vs : List A1} {kk : AV → List A1 → Prop} {motive : List A1 → Prop} (h : con_spec_placeOf.F vs kk) (H : ∀ (list0 : List Int) (n1 : Int), F_spec_placeOf list0 n1 (fun r0 => kk (.one (.c (.v (.int .i64 r0)))) []) → motive [.c (.ro .int list0), .c (.v (.int .i64 n1))]) : motive vs := by
  unfold con_spec_placeOf at h
  dsimp only at h
  split at h
  · exact H _ _ h
  · exact h.elim
theorem h_spec_placeOf : Holds Try.prog 51 con_spec_placeOf := by
  refine holds_of_ev (rt := [.c .sc]) (T := TT) (Γ := cs_spec_placeOf) (an := an_spec_placeOf) (N := 19) (c := Try.f51.body.getD .skip) Try.func51 (by kernel_rfl) Try.ntmps51 (by decide) (by decide) mixed tabOK cok_spec_placeOf (by kernel_rfl) ?_
  intro vs kk _ hF
  exact i_spec_placeOf (motive := fun vs => Goes (ev TT cs_spec_placeOf 19 an_spec_placeOf (Try.f51.body.getD .skip) (st0 con_spec_placeOf vs) (fin TT con_spec_placeOf Try.f51.results.toList [.c .sc] vs kk))) hF (fun list0 n1 hF => goes_of (e_spec_placeOf list0 n1 kk) (F_spec_placeOf_S hF))
def con_spec_tick : Con := ⟨[.rd, .rd], true, [.agg [.sc, .sl .int, .sl .bool, .sc], .c (.sc)], fun vs k => match vs with
    | [.agg [.v (.int .i64 c0Room), .ro .int c0Keys, .ro .bool c0Used, .v (.int .i64 c0Hand)], .c (.v (.int .i64 key1))] => F_spec_tick c0Room c0Keys c0Used c0Hand key1 (fun r0 r1 r2 r3 r4 => k (.tup [.agg [.v (.int .i64 r0), .ro .int r1, .ro .bool r2, .v (.int .i64 r3)], .c (.v (.bool r4))]) [])
    | _ => False, false⟩
def cl_spec_tick : List (FuncId × Con) := [(51, con_spec_placeOf), (68, con_spec_copyInts), (87, con_spec_copyClock)]
def nm0_spec_tick : List NStep := [.keep [1, 4, 6] [64, 96, 144, 145]]
def an_spec_tick : Ann := ⟨[], [(10, nm0_spec_tick)], []⟩
def cs_spec_tick : Cons := ⟨cl_spec_tick, [], 0, [], []⟩
def can0_spec_tick (copyClock9Keys : List Int) (copyClock9Room : Int) (key1 : Int) (xb6c3 : Int) (xy9 : List Bool) : St := ⟨[(1, .one (.c (.v (.int .i64 key1)))), (4, .one (.c (.pb 64 0))), (6, .one (.c (.pb 96 0)))], [(64, .box [.v (.int .i64 0), .nil, .nil, .v (.int .i64 0)]), (96, .box [.v (.int .i64 copyClock9Room), .ow 144, .ow 145, .v (.int .i64 xb6c3)]), (144, .row .int copyClock9Keys), (145, .row .bool xy9)]⟩
def fin_spec_tick (c0Room : Int) (c0Keys : List Int) (c0Used : List Bool) (c0Hand : Int) (key1 : Int) (kk : AV → List A1 → Prop) : Kt := fin TT con_spec_tick Try.f74.results.toList [.agg [.sc, .sl .int, .sl .bool, .sc], .c .sc] [.agg [.v (.int .i64 c0Room), .ro .int c0Keys, .ro .bool c0Used, .v (.int .i64 c0Hand)], .c (.v (.int .i64 key1))] kk
def kt0_spec_tick (kf : Kt) : Kt := blockK 0 (seqK (evF TT cs_spec_tick 74 an_spec_tick Try.f74 [1, 1, 1, 1, 1, 1]) (kf))
theorem r0_spec_tick (c0Room : Int) (c0Keys : List Int) (c0Used : List Bool) (c0Hand : Int) (key1 : Int) (copyClock9Keys : List Int) (copyClock9Room : Int) (kk : AV → List A1 → Prop) (n : Nat) (xb6c3 : Int) (xy9 : List Bool) :
    iter (evF TT cs_spec_tick 74 an_spec_tick Try.f74 [1, 1, 1, 1, 1, 0, 0, 0]) nm0_spec_tick (kt0_spec_tick (fin_spec_tick c0Room c0Keys c0Used c0Hand key1 kk)) (n + 1) (can0_spec_tick copyClock9Keys copyClock9Room key1 xb6c3 xy9) = T0_spec_tick copyClock9Keys copyClock9Room key1 xb6c3 xy9 (fun r0 r1 r2 r3 r4 => kk (.tup [.agg [.v (.int .i64 r0), .ro .int r1, .ro .bool r2, .v (.int .i64 r3)], .c (.v (.bool r4))]) []) (fun xb6c3 xy9 => iter (evF TT cs_spec_tick 74 an_spec_tick Try.f74 [1, 1, 1, 1, 1, 0, 0, 0]) nm0_spec_tick (kt0_spec_tick (fin_spec_tick c0Room c0Keys c0Used c0Hand key1 kk)) n (can0_spec_tick copyClock9Keys copyClock9Room key1 xb6c3 xy9)) := by kernel_rfl
theorem l0_spec_tick (c0Room : Int) (c0Keys : List Int) (c0Used : List Bool) (c0Hand : Int) (key1 : Int) (copyClock9Keys : List Int) (copyClock9Room : Int) (kk : AV → List A1 → Prop) : ∀ (n : Nat) (xb6c3 : Int) (xy9 : List Bool), iter (evF TT cs_spec_tick 74 an_spec_tick Try.f74 [1, 1, 1, 1, 1, 0, 0, 0]) nm0_spec_tick (kt0_spec_tick (fin_spec_tick c0Room c0Keys c0Used c0Hand key1 kk)) n (can0_spec_tick copyClock9Keys copyClock9Room key1 xb6c3 xy9) = L0_spec_tick copyClock9Keys copyClock9Room key1 (fun r0 r1 r2 r3 r4 => kk (.tup [.agg [.v (.int .i64 r0), .ro .int r1, .ro .bool r2, .v (.int .i64 r3)], .c (.v (.bool r4))]) []) n xb6c3 xy9 := by
  intro n
  induction n with
  | zero => intros; rfl
  | succ n ih =>
    intro xb6c3 xy9
    rw [r0_spec_tick c0Room c0Keys c0Used c0Hand key1 copyClock9Keys copyClock9Room kk n xb6c3 xy9]
    have hb : (fun xb6c3 xy9 => iter (evF TT cs_spec_tick 74 an_spec_tick Try.f74 [1, 1, 1, 1, 1, 0, 0, 0]) nm0_spec_tick (kt0_spec_tick (fin_spec_tick c0Room c0Keys c0Used c0Hand key1 kk)) n (can0_spec_tick copyClock9Keys copyClock9Room key1 xb6c3 xy9)) = L0_spec_tick copyClock9Keys copyClock9Room key1 (fun r0 r1 r2 r3 r4 => kk (.tup [.agg [.v (.int .i64 r0), .ro .int r1, .ro .bool r2, .v (.int .i64 r3)], .c (.v (.bool r4))]) []) n := by
      funext xb6c3 xy9; exact ih xb6c3 xy9
    rw [hb]
    rfl
theorem g_spec_tick (c0Room : Int) (c0Keys : List Int) (c0Used : List Bool) (c0Hand : Int) (key1 : Int) (kk : AV → List A1 → Prop) :
    ev TT cs_spec_tick 74 an_spec_tick (Try.f74.body.getD .skip) (st0 con_spec_tick [.agg [.v (.int .i64 c0Room), .ro .int c0Keys, .ro .bool c0Used, .v (.int .i64 c0Hand)], .c (.v (.int .i64 key1))]) (fin TT con_spec_tick Try.f74.results.toList [.agg [.sc, .sl .int, .sl .bool, .sc], .c .sc] [.agg [.v (.int .i64 c0Room), .ro .int c0Keys, .ro .bool c0Used, .v (.int .i64 c0Hand)], .c (.v (.int .i64 key1))] kk) = G_spec_tick c0Room c0Keys c0Used c0Hand key1 (fun r0 r1 r2 r3 r4 => kk (.tup [.agg [.v (.int .i64 r0), .ro .int r1, .ro .bool r2, .v (.int .i64 r3)], .c (.v (.bool r4))]) []) (fun copyClock9Keys copyClock9Room key1 xb6c3 xy9 => ∃ j, iter (evF TT cs_spec_tick 74 an_spec_tick Try.f74 [1, 1, 1, 1, 1, 0, 0, 0]) nm0_spec_tick (kt0_spec_tick (fin_spec_tick c0Room c0Keys c0Used c0Hand key1 kk)) j (can0_spec_tick copyClock9Keys copyClock9Room key1 xb6c3 xy9)) := by kernel_rfl
theorem e_spec_tick (c0Room : Int) (c0Keys : List Int) (c0Used : List Bool) (c0Hand : Int) (key1 : Int) (kk : AV → List A1 → Prop) :
    ev TT cs_spec_tick 74 an_spec_tick (Try.f74.body.getD .skip) (st0 con_spec_tick [.agg [.v (.int .i64 c0Room), .ro .int c0Keys, .ro .bool c0Used, .v (.int .i64 c0Hand)], .c (.v (.int .i64 key1))]) (fin TT con_spec_tick Try.f74.results.toList [.agg [.sc, .sl .int, .sl .bool, .sc], .c .sc] [.agg [.v (.int .i64 c0Room), .ro .int c0Keys, .ro .bool c0Used, .v (.int .i64 c0Hand)], .c (.v (.int .i64 key1))] kk) = S_spec_tick c0Room c0Keys c0Used c0Hand key1 (fun r0 r1 r2 r3 r4 => kk (.tup [.agg [.v (.int .i64 r0), .ro .int r1, .ro .bool r2, .v (.int .i64 r3)], .c (.v (.bool r4))]) []) := by
  rw [g_spec_tick]
  have hi0 : (fun copyClock9Keys copyClock9Room key1 xb6c3 xy9 => ∃ j, iter (evF TT cs_spec_tick 74 an_spec_tick Try.f74 [1, 1, 1, 1, 1, 0, 0, 0]) nm0_spec_tick (kt0_spec_tick (fin_spec_tick c0Room c0Keys c0Used c0Hand key1 kk)) j (can0_spec_tick copyClock9Keys copyClock9Room key1 xb6c3 xy9)) = (fun copyClock9Keys copyClock9Room key1 xb6c3 xy9 => ∃ j, L0_spec_tick copyClock9Keys copyClock9Room key1 (fun r0 r1 r2 r3 r4 => kk (.tup [.agg [.v (.int .i64 r0), .ro .int r1, .ro .bool r2, .v (.int .i64 r3)], .c (.v (.bool r4))]) []) j xb6c3 xy9) := by
    funext copyClock9Keys copyClock9Room key1 xb6c3 xy9
    refine congrArg Exists (funext fun j => ?_)
    rw [l0_spec_tick c0Room c0Keys c0Used c0Hand key1 copyClock9Keys copyClock9Room kk j xb6c3 xy9]
  rw [hi0]
  rfl
theorem clok_spec_tick : ConOK Try.prog cl_spec_tick := consCons h_spec_placeOf ⟨Try.f51, Try.func51, by kernel_rfl, ne_of_beq (by kernel_rfl)⟩ (consCons h_spec_copyInts ⟨Try.f68, Try.func68, by kernel_rfl, ne_of_beq (by kernel_rfl)⟩ (consCons h_spec_copyClock ⟨Try.f87, Try.func87, by kernel_rfl, ne_of_beq (by kernel_rfl)⟩ (consNil)))
theorem cok_spec_tick : ConsOK Try.prog 74 cs_spec_tick := ⟨clok_spec_tick, inlNil⟩
theorem i_spec_tick {vs : List A1} {kk : AV → List A1 → Prop} {motive : List A1 → Prop} (h : con_spec_tick.F vs kk) (H : ∀ (c0Room : Int) (c0Keys : List Int) (c0Used : List Bool) (c0Hand : Int) (key1 : Int), F_spec_tick c0Room c0Keys c0Used c0Hand key1 (fun r0 r1 r2 r3 r4 => kk (.tup [.agg [.v (.int .i64 r0), .ro .int r1, .ro .bool r2, .v (.int .i64 r3)], .c (.v (.bool r4))]) []) → motive [.agg [.v (.int .i64 c0Room), .ro .int c0Keys, .ro .bool c0Used, .v (.int .i64 c0Hand)], .c (.v (.int .i64 key1))]) : motive vs := by
  unfold con_spec_tick at h
  dsimp only at h
  split at h
  · exact H _ _ _ _ _ h
  · exact h.elim
theorem h_spec_tick : Holds Try.prog 74 con_spec_tick := by
  refine holds_of_ev (rt := [.agg [.sc, .sl .int, .sl .bool, .sc], .c .sc]) (T := TT) (Γ := cs_spec_tick) (an := an_spec_tick) (N := 74) (c := Try.f74.body.getD .skip) Try.func74 (by kernel_rfl) Try.ntmps74 (by decide) (by decide) mixed tabOK cok_spec_tick (by kernel_rfl) ?_
  intro vs kk _ hF
  exact i_spec_tick (motive := fun vs => Goes (ev TT cs_spec_tick 74 an_spec_tick (Try.f74.body.getD .skip) (st0 con_spec_tick vs) (fin TT con_spec_tick Try.f74.results.toList [.agg [.sc, .sl .int, .sl .bool, .sc], .c .sc] vs kk))) hF (fun c0Room c0Keys c0Used c0Hand key1 hF => goes_of (e_spec_tick c0Room c0Keys c0Used c0Hand key1 kk) (F_spec_tick_S hF))
def con_spec_reader_spoil : Con := ⟨[.mu, .rd, .rd], true, [.ptr [.sl .u8, .sc], .c (.sl .int), .c (.sc)], fun vs k => match vs with
    | [.ptr [.ro .u8 r0b, .v (.int .i64 r0p)], .c (.ro .int list1), .c (.v (.int .i64 n2))] => F_spec_reader_spoil r0b r0p list1 n2 (fun r0 r1 r2 => k (.one (.c (.ro .int r0))) [.ptr [.ro .u8 r1, .v (.int .i64 r2)]])
    | _ => False, false⟩
def cl_spec_reader_spoil : List (FuncId × Con) := [(68, con_spec_copyInts), (79, con_spec_reader_one), (80, con_spec_reader_pick)]
def an_spec_reader_spoil : Ann := ⟨[], [], []⟩
def cs_spec_reader_spoil : Cons := ⟨cl_spec_reader_spoil, [], 0, [], []⟩
def fin_spec_reader_spoil (r0b : List Int) (r0p : Int) (list1 : List Int) (n2 : Int) (kk : AV → List A1 → Prop) : Kt := fin TT con_spec_reader_spoil Try.f81.results.toList [.c (.sl .int)] [.ptr [.ro .u8 r0b, .v (.int .i64 r0p)], .c (.ro .int list1), .c (.v (.int .i64 n2))] kk
theorem g_spec_reader_spoil (r0b : List Int) (r0p : Int) (list1 : List Int) (n2 : Int) (kk : AV → List A1 → Prop) :
    ev TT cs_spec_reader_spoil 41 an_spec_reader_spoil (Try.f81.body.getD .skip) (st0 con_spec_reader_spoil [.ptr [.ro .u8 r0b, .v (.int .i64 r0p)], .c (.ro .int list1), .c (.v (.int .i64 n2))]) (fin TT con_spec_reader_spoil Try.f81.results.toList [.c (.sl .int)] [.ptr [.ro .u8 r0b, .v (.int .i64 r0p)], .c (.ro .int list1), .c (.v (.int .i64 n2))] kk) = G_spec_reader_spoil r0b r0p list1 n2 (fun r0 r1 r2 => kk (.one (.c (.ro .int r0))) [.ptr [.ro .u8 r1, .v (.int .i64 r2)]]) := by kernel_rfl
theorem e_spec_reader_spoil (r0b : List Int) (r0p : Int) (list1 : List Int) (n2 : Int) (kk : AV → List A1 → Prop) :
    ev TT cs_spec_reader_spoil 41 an_spec_reader_spoil (Try.f81.body.getD .skip) (st0 con_spec_reader_spoil [.ptr [.ro .u8 r0b, .v (.int .i64 r0p)], .c (.ro .int list1), .c (.v (.int .i64 n2))]) (fin TT con_spec_reader_spoil Try.f81.results.toList [.c (.sl .int)] [.ptr [.ro .u8 r0b, .v (.int .i64 r0p)], .c (.ro .int list1), .c (.v (.int .i64 n2))] kk) = S_spec_reader_spoil r0b r0p list1 n2 (fun r0 r1 r2 => kk (.one (.c (.ro .int r0))) [.ptr [.ro .u8 r1, .v (.int .i64 r2)]]) := by
  rw [g_spec_reader_spoil]
  rfl
theorem clok_spec_reader_spoil : ConOK Try.prog cl_spec_reader_spoil := consCons h_spec_copyInts ⟨Try.f68, Try.func68, by kernel_rfl, ne_of_beq (by kernel_rfl)⟩ (consCons h_spec_reader_one ⟨Try.f79, Try.func79, by kernel_rfl, ne_of_beq (by kernel_rfl)⟩ (consCons h_spec_reader_pick ⟨Try.f80, Try.func80, by kernel_rfl, ne_of_beq (by kernel_rfl)⟩ (consNil)))
theorem cok_spec_reader_spoil : ConsOK Try.prog 41 cs_spec_reader_spoil := ⟨clok_spec_reader_spoil, inlNil⟩
theorem i_spec_reader_spoil {vs : List A1} {kk : AV → List A1 → Prop} {motive : List A1 → Prop} (h : con_spec_reader_spoil.F vs kk) (H : ∀ (r0b : List Int) (r0p : Int) (list1 : List Int) (n2 : Int), F_spec_reader_spoil r0b r0p list1 n2 (fun r0 r1 r2 => kk (.one (.c (.ro .int r0))) [.ptr [.ro .u8 r1, .v (.int .i64 r2)]]) → motive [.ptr [.ro .u8 r0b, .v (.int .i64 r0p)], .c (.ro .int list1), .c (.v (.int .i64 n2))]) : motive vs := by
  unfold con_spec_reader_spoil at h
  dsimp only at h
  split at h
  · exact H _ _ _ _ h
  · exact h.elim
theorem h_spec_reader_spoil : Holds Try.prog 81 con_spec_reader_spoil := by
  refine holds_of_ev (rt := [.c (.sl .int)]) (T := TT) (Γ := cs_spec_reader_spoil) (an := an_spec_reader_spoil) (N := 41) (c := Try.f81.body.getD .skip) Try.func81 (by kernel_rfl) Try.ntmps81 (by decide) (by decide) mixed tabOK cok_spec_reader_spoil (by kernel_rfl) ?_
  intro vs kk _ hF
  exact i_spec_reader_spoil (motive := fun vs => Goes (ev TT cs_spec_reader_spoil 41 an_spec_reader_spoil (Try.f81.body.getD .skip) (st0 con_spec_reader_spoil vs) (fin TT con_spec_reader_spoil Try.f81.results.toList [.c (.sl .int)] vs kk))) hF (fun r0b r0p list1 n2 hF => goes_of (e_spec_reader_spoil r0b r0p list1 n2 kk) (F_spec_reader_spoil_S hF))
def con_spec_someClock : Con := ⟨[.mu], true, [.ptr [.sl .u8, .sc]], fun vs k => match vs with
    | [.ptr [.ro .u8 r0b, .v (.int .i64 r0p)]] => F_spec_someClock r0b r0p (fun r0 r1 r2 r3 r4 r5 => k (.one (.agg [.v (.int .i64 r0), .ro .int r1, .ro .bool r2, .v (.int .i64 r3)])) [.ptr [.ro .u8 r4, .v (.int .i64 r5)]])
    | _ => False, false⟩
def cl_spec_someClock : List (FuncId × Con) := [(74, con_spec_tick), (79, con_spec_reader_one), (80, con_spec_reader_pick), (81, con_spec_reader_spoil)]
def nm0_spec_someClock : List NStep := [.ownc 48 1 .int 90000, .ownc 48 2 .bool 90001, .keep [0, 2, 3, 4] [100000, 32, 48, 90000, 90001]]
def an_spec_someClock : Ann := ⟨[(5, .take 1 (.alt 0 (.alt 2 (.alt 3 (.take 4 (.take 5 (.take 6 (.alt 7 (.done) (.none))))) (.none)) (.none)) (.alt 2 (.alt 0 (.alt 3 (.take 4 (.take 5 (.take 6 (.alt 7 (.done) (.none))))) (.none)) (.none)) (.none))), [])], [(3, nm0_spec_someClock)], []⟩
def cs_spec_someClock : Cons := ⟨cl_spec_someClock, [], 0, [], []⟩
def can0_spec_someClock (xn4 : Int) (xb100000c0 : List Int) (xb100000c1 : Int) (xb3c0 : Int) (xb3c3 : Int) (xb3c1 : List Int) (xb3c2 : List Bool) : St := ⟨[(0, .one (.c (.pb 100000 0))), (2, .one (.c (.pb 32 0))), (3, .one (.c (.pb 48 0))), (4, .one (.c (.v (.int .i64 xn4))))], [(100000, .box [.ro .u8 xb100000c0, .v (.int .i64 xb100000c1)]), (32, .box [.v (.int .i64 0), .nil, .nil, .v (.int .i64 0)]), (48, .box [.v (.int .i64 xb3c0), .ow 90000, .ow 90001, .v (.int .i64 xb3c3)]), (90000, .row .int xb3c1), (90001, .row .bool xb3c2)]⟩
def fin_spec_someClock (r0b : List Int) (r0p : Int) (kk : AV → List A1 → Prop) : Kt := fin TT con_spec_someClock Try.f69.results.toList [.agg [.sc, .sl .int, .sl .bool, .sc]] [.ptr [.ro .u8 r0b, .v (.int .i64 r0p)]] kk
def kt0_spec_someClock (kf : Kt) : Kt := blockK 0 (seqK (evF TT cs_spec_someClock 56 an_spec_someClock Try.f69 [1, 1, 1]) (kf))
theorem r0_spec_someClock (r0b : List Int) (r0p : Int) (kk : AV → List A1 → Prop) (n : Nat) (xn4 : Int) (xb100000c0 : List Int) (xb100000c1 : Int) (xb3c0 : Int) (xb3c3 : Int) (xb3c1 : List Int) (xb3c2 : List Bool) :
    iter (evF TT cs_spec_someClock 56 an_spec_someClock Try.f69 [1, 1, 0, 1, 0, 0]) nm0_spec_someClock (kt0_spec_someClock (fin_spec_someClock r0b r0p kk)) (n + 1) (can0_spec_someClock xn4 xb100000c0 xb100000c1 xb3c0 xb3c3 xb3c1 xb3c2) = T0_spec_someClock xn4 xb100000c0 xb100000c1 xb3c0 xb3c3 xb3c1 xb3c2 (fun r0 r1 r2 r3 r4 r5 => kk (.one (.agg [.v (.int .i64 r0), .ro .int r1, .ro .bool r2, .v (.int .i64 r3)])) [.ptr [.ro .u8 r4, .v (.int .i64 r5)]]) (fun xn4 xb100000c0 xb100000c1 xb3c0 xb3c3 xb3c1 xb3c2 => iter (evF TT cs_spec_someClock 56 an_spec_someClock Try.f69 [1, 1, 0, 1, 0, 0]) nm0_spec_someClock (kt0_spec_someClock (fin_spec_someClock r0b r0p kk)) n (can0_spec_someClock xn4 xb100000c0 xb100000c1 xb3c0 xb3c3 xb3c1 xb3c2)) := by kernel_rfl
theorem l0_spec_someClock (r0b : List Int) (r0p : Int) (kk : AV → List A1 → Prop) : ∀ (n : Nat) (xn4 : Int) (xb100000c0 : List Int) (xb100000c1 : Int) (xb3c0 : Int) (xb3c3 : Int) (xb3c1 : List Int) (xb3c2 : List Bool), iter (evF TT cs_spec_someClock 56 an_spec_someClock Try.f69 [1, 1, 0, 1, 0, 0]) nm0_spec_someClock (kt0_spec_someClock (fin_spec_someClock r0b r0p kk)) n (can0_spec_someClock xn4 xb100000c0 xb100000c1 xb3c0 xb3c3 xb3c1 xb3c2) = L0_spec_someClock (fun r0 r1 r2 r3 r4 r5 => kk (.one (.agg [.v (.int .i64 r0), .ro .int r1, .ro .bool r2, .v (.int .i64 r3)])) [.ptr [.ro .u8 r4, .v (.int .i64 r5)]]) n xn4 xb100000c0 xb100000c1 xb3c0 xb3c3 xb3c1 xb3c2 := by
  intro n
  induction n with
  | zero => intros; rfl
  | succ n ih =>
    intro xn4 xb100000c0 xb100000c1 xb3c0 xb3c3 xb3c1 xb3c2
    rw [r0_spec_someClock r0b r0p kk n xn4 xb100000c0 xb100000c1 xb3c0 xb3c3 xb3c1 xb3c2]
    have hb : (fun xn4 xb100000c0 xb100000c1 xb3c0 xb3c3 xb3c1 xb3c2 => iter (evF TT cs_spec_someClock 56 an_spec_someClock Try.f69 [1, 1, 0, 1, 0, 0]) nm0_spec_someClock (kt0_spec_someClock (fin_spec_someClock r0b r0p kk)) n (can0_spec_someClock xn4 xb100000c0 xb100000c1 xb3c0 xb3c3 xb3c1 xb3c2)) = L0_spec_someClock (fun r0 r1 r2 r3 r4 r5 => kk (.one (.agg [.v (.int .i64 r0), .ro .int r1, .ro .bool r2, .v (.int .i64 r3)])) [.ptr [.ro .u8 r4, .v (.int .i64 r5)]]) n := by
      funext xn4 xb100000c0 xb100000c1 xb3c0 xb3c3 xb3c1 xb3c2; exact ih xn4 xb100000c0 xb100000c1 xb3c0 xb3c3 xb3c1 xb3c2
    rw [hb]
    rw [T0_spec_someClock_eq]
    rfl
theorem g_spec_someClock (r0b : List Int) (r0p : Int) (kk : AV → List A1 → Prop) :
    ev TT cs_spec_someClock 56 an_spec_someClock (Try.f69.body.getD .skip) (st0 con_spec_someClock [.ptr [.ro .u8 r0b, .v (.int .i64 r0p)]]) (fin TT con_spec_someClock Try.f69.results.toList [.agg [.sc, .sl .int, .sl .bool, .sc]] [.ptr [.ro .u8 r0b, .v (.int .i64 r0p)]] kk) = G_spec_someClock r0b r0p (fun xn4 xb100000c0 xb100000c1 xb3c0 xb3c3 xb3c1 xb3c2 => ∃ j, iter (evF TT cs_spec_someClock 56 an_spec_someClock Try.f69 [1, 1, 0, 1, 0, 0]) nm0_spec_someClock (kt0_spec_someClock (fin_spec_someClock r0b r0p kk)) j (can0_spec_someClock xn4 xb100000c0 xb100000c1 xb3c0 xb3c3 xb3c1 xb3c2)) := by kernel_rfl
theorem e_spec_someClock (r0b : List Int) (r0p : Int) (kk : AV → List A1 → Prop) :
    ev TT cs_spec_someClock 56 an_spec_someClock (Try.f69.body.getD .skip) (st0 con_spec_someClock [.ptr [.ro .u8 r0b, .v (.int .i64 r0p)]]) (fin TT con_spec_someClock Try.f69.results.toList [.agg [.sc, .sl .int, .sl .bool, .sc]] [.ptr [.ro .u8 r0b, .v (.int .i64 r0p)]] kk) = S_spec_someClock r0b r0p (fun r0 r1 r2 r3 r4 r5 => kk (.one (.agg [.v (.int .i64 r0), .ro .int r1, .ro .bool r2, .v (.int .i64 r3)])) [.ptr [.ro .u8 r4, .v (.int .i64 r5)]]) := by
  rw [g_spec_someClock]
  have hi0 : (fun xn4 xb100000c0 xb100000c1 xb3c0 xb3c3 xb3c1 xb3c2 => ∃ j, iter (evF TT cs_spec_someClock 56 an_spec_someClock Try.f69 [1, 1, 0, 1, 0, 0]) nm0_spec_someClock (kt0_spec_someClock (fin_spec_someClock r0b r0p kk)) j (can0_spec_someClock xn4 xb100000c0 xb100000c1 xb3c0 xb3c3 xb3c1 xb3c2)) = (fun xn4 xb100000c0 xb100000c1 xb3c0 xb3c3 xb3c1 xb3c2 => ∃ j, L0_spec_someClock (fun r0 r1 r2 r3 r4 r5 => kk (.one (.agg [.v (.int .i64 r0), .ro .int r1, .ro .bool r2, .v (.int .i64 r3)])) [.ptr [.ro .u8 r4, .v (.int .i64 r5)]]) j xn4 xb100000c0 xb100000c1 xb3c0 xb3c3 xb3c1 xb3c2) := by
    funext xn4 xb100000c0 xb100000c1 xb3c0 xb3c3 xb3c1 xb3c2
    refine congrArg Exists (funext fun j => ?_)
    rw [l0_spec_someClock r0b r0p kk j xn4 xb100000c0 xb100000c1 xb3c0 xb3c3 xb3c1 xb3c2]
  rw [hi0]
  rfl
theorem clok_spec_someClock : ConOK Try.prog cl_spec_someClock := consCons h_spec_tick ⟨Try.f74, Try.func74, by kernel_rfl, ne_of_beq (by kernel_rfl)⟩ (consCons h_spec_reader_one ⟨Try.f79, Try.func79, by kernel_rfl, ne_of_beq (by kernel_rfl)⟩ (consCons h_spec_reader_pick ⟨Try.f80, Try.func80, by kernel_rfl, ne_of_beq (by kernel_rfl)⟩ (consCons h_spec_reader_spoil ⟨Try.f81, Try.func81, by kernel_rfl, ne_of_beq (by kernel_rfl)⟩ (consNil))))
theorem cok_spec_someClock : ConsOK Try.prog 56 cs_spec_someClock := ⟨clok_spec_someClock, inlNil⟩
theorem i_spec_someClock {vs : List A1} {kk : AV → List A1 → Prop} {motive : List A1 → Prop} (h : con_spec_someClock.F vs kk) (H : ∀ (r0b : List Int) (r0p : Int), F_spec_someClock r0b r0p (fun r0 r1 r2 r3 r4 r5 => kk (.one (.agg [.v (.int .i64 r0), .ro .int r1, .ro .bool r2, .v (.int .i64 r3)])) [.ptr [.ro .u8 r4, .v (.int .i64 r5)]]) → motive [.ptr [.ro .u8 r0b, .v (.int .i64 r0p)]]) : motive vs := by
  unfold con_spec_someClock at h
  dsimp only at h
  split at h
  · exact H _ _ h
  · exact h.elim
theorem h_spec_someClock : Holds Try.prog 69 con_spec_someClock := by
  refine holds_of_ev (rt := [.agg [.sc, .sl .int, .sl .bool, .sc]]) (T := TT) (Γ := cs_spec_someClock) (an := an_spec_someClock) (N := 56) (c := Try.f69.body.getD .skip) Try.func69 (by kernel_rfl) Try.ntmps69 (by decide) (by decide) mixed tabOK cok_spec_someClock (by kernel_rfl) ?_
  intro vs kk _ hF
  exact i_spec_someClock (motive := fun vs => Goes (ev TT cs_spec_someClock 56 an_spec_someClock (Try.f69.body.getD .skip) (st0 con_spec_someClock vs) (fin TT con_spec_someClock Try.f69.results.toList [.agg [.sc, .sl .int, .sl .bool, .sc]] vs kk))) hF (fun r0b r0p hF => goes_of (e_spec_someClock r0b r0p kk) (F_spec_someClock_S hF))
def con_spec_someKey : Con := ⟨[.mu], true, [.ptr [.sl .u8, .sc]], fun vs k => match vs with
    | [.ptr [.ro .u8 r0b, .v (.int .i64 r0p)]] => F_spec_someKey r0b r0p (fun r0 r1 r2 => k (.one (.c (.v (.int .i64 r0)))) [.ptr [.ro .u8 r1, .v (.int .i64 r2)]])
    | _ => False, false⟩
def cl_spec_someKey : List (FuncId × Con) := [(79, con_spec_reader_one), (80, con_spec_reader_pick)]
def an_spec_someKey : Ann := ⟨[], [], []⟩
def cs_spec_someKey : Cons := ⟨cl_spec_someKey, [], 0, [], []⟩
def fin_spec_someKey (r0b : List Int) (r0p : Int) (kk : AV → List A1 → Prop) : Kt := fin TT con_spec_someKey Try.f59.results.toList [.c .sc] [.ptr [.ro .u8 r0b, .v (.int .i64 r0p)]] kk
theorem g_spec_someKey (r0b : List Int) (r0p : Int) (kk : AV → List A1 → Prop) :
    ev TT cs_spec_someKey 12 an_spec_someKey (Try.f59.body.getD .skip) (st0 con_spec_someKey [.ptr [.ro .u8 r0b, .v (.int .i64 r0p)]]) (fin TT con_spec_someKey Try.f59.results.toList [.c .sc] [.ptr [.ro .u8 r0b, .v (.int .i64 r0p)]] kk) = G_spec_someKey r0b r0p (fun r0 r1 r2 => kk (.one (.c (.v (.int .i64 r0)))) [.ptr [.ro .u8 r1, .v (.int .i64 r2)]]) := by kernel_rfl
theorem e_spec_someKey (r0b : List Int) (r0p : Int) (kk : AV → List A1 → Prop) :
    ev TT cs_spec_someKey 12 an_spec_someKey (Try.f59.body.getD .skip) (st0 con_spec_someKey [.ptr [.ro .u8 r0b, .v (.int .i64 r0p)]]) (fin TT con_spec_someKey Try.f59.results.toList [.c .sc] [.ptr [.ro .u8 r0b, .v (.int .i64 r0p)]] kk) = S_spec_someKey r0b r0p (fun r0 r1 r2 => kk (.one (.c (.v (.int .i64 r0)))) [.ptr [.ro .u8 r1, .v (.int .i64 r2)]]) := by
  rw [g_spec_someKey]
  rfl
theorem clok_spec_someKey : ConOK Try.prog cl_spec_someKey := consCons h_spec_reader_one ⟨Try.f79, Try.func79, by kernel_rfl, ne_of_beq (by kernel_rfl)⟩ (consCons h_spec_reader_pick ⟨Try.f80, Try.func80, by kernel_rfl, ne_of_beq (by kernel_rfl)⟩ (consNil))
theorem cok_spec_someKey : ConsOK Try.prog 12 cs_spec_someKey := ⟨clok_spec_someKey, inlNil⟩
theorem i_spec_someKey {vs : List A1} {kk : AV → List A1 → Prop} {motive : List A1 → Prop} (h : con_spec_someKey.F vs kk) (H : ∀ (r0b : List Int) (r0p : Int), F_spec_someKey r0b r0p (fun r0 r1 r2 => kk (.one (.c (.v (.int .i64 r0)))) [.ptr [.ro .u8 r1, .v (.int .i64 r2)]]) → motive [.ptr [.ro .u8 r0b, .v (.int .i64 r0p)]]) : motive vs := by
  unfold con_spec_someKey at h
  dsimp only at h
  split at h
  · exact H _ _ h
  · exact h.elim
theorem h_spec_someKey : Holds Try.prog 59 con_spec_someKey := by
  refine holds_of_ev (rt := [.c .sc]) (T := TT) (Γ := cs_spec_someKey) (an := an_spec_someKey) (N := 12) (c := Try.f59.body.getD .skip) Try.func59 (by kernel_rfl) Try.ntmps59 (by decide) (by decide) mixed tabOK cok_spec_someKey (by kernel_rfl) ?_
  intro vs kk _ hF
  exact i_spec_someKey (motive := fun vs => Goes (ev TT cs_spec_someKey 12 an_spec_someKey (Try.f59.body.getD .skip) (st0 con_spec_someKey vs) (fin TT con_spec_someKey Try.f59.results.toList [.c .sc] vs kk))) hF (fun r0b r0p hF => goes_of (e_spec_someKey r0b r0p kk) (F_spec_someKey_S hF))
def con_spec_DrawUseClock : Con := ⟨[.rd], true, [.c (.sl .u8)], fun vs k => match vs with
    | [.c (.ro .u8 code0)] => F_spec_DrawUseClock code0 (fun r0 r1 r2 r3 r4 => k (.tup [.agg [.v (.int .i64 r0), .ro .int r1, .ro .bool r2, .v (.int .i64 r3)], .c (.v (.int .i64 r4))]) [])
    | _ => False, false⟩
def cl_spec_DrawUseClock : List (FuncId × Con) := [(55, con_spec_newReader), (59, con_spec_someKey), (69, con_spec_someClock)]
def an_spec_DrawUseClock : Ann := ⟨[(3, .take 0 (.take 1 (.alt 2 (.alt 3 (.take 4 (.done)) (.none)) (.none))), [80])], [], []⟩
def cs_spec_DrawUseClock : Cons := ⟨cl_spec_DrawUseClock, [], 0, [], []⟩
def fin_spec_DrawUseClock (code0 : List Int) (kk : AV → List A1 → Prop) : Kt := fin TT con_spec_DrawUseClock Try.f40.results.toList [.agg [.sc, .sl .int, .sl .bool, .sc], .c .sc] [.c (.ro .u8 code0)] kk
theorem g_spec_DrawUseClock (code0 : List Int) (kk : AV → List A1 → Prop) :
    ev TT cs_spec_DrawUseClock 13 an_spec_DrawUseClock (Try.f40.body.getD .skip) (st0 con_spec_DrawUseClock [.c (.ro .u8 code0)]) (fin TT con_spec_DrawUseClock Try.f40.results.toList [.agg [.sc, .sl .int, .sl .bool, .sc], .c .sc] [.c (.ro .u8 code0)] kk) = G_spec_DrawUseClock code0 (fun r0 r1 r2 r3 r4 => kk (.tup [.agg [.v (.int .i64 r0), .ro .int r1, .ro .bool r2, .v (.int .i64 r3)], .c (.v (.int .i64 r4))]) []) := by kernel_rfl
theorem e_spec_DrawUseClock (code0 : List Int) (kk : AV → List A1 → Prop) :
    ev TT cs_spec_DrawUseClock 13 an_spec_DrawUseClock (Try.f40.body.getD .skip) (st0 con_spec_DrawUseClock [.c (.ro .u8 code0)]) (fin TT con_spec_DrawUseClock Try.f40.results.toList [.agg [.sc, .sl .int, .sl .bool, .sc], .c .sc] [.c (.ro .u8 code0)] kk) = S_spec_DrawUseClock code0 (fun r0 r1 r2 r3 r4 => kk (.tup [.agg [.v (.int .i64 r0), .ro .int r1, .ro .bool r2, .v (.int .i64 r3)], .c (.v (.int .i64 r4))]) []) := by
  rw [g_spec_DrawUseClock]
  rw [G_spec_DrawUseClock_eq]
  rfl
theorem clok_spec_DrawUseClock : ConOK Try.prog cl_spec_DrawUseClock := consCons h_spec_newReader ⟨Try.f55, Try.func55, by kernel_rfl, ne_of_beq (by kernel_rfl)⟩ (consCons h_spec_someKey ⟨Try.f59, Try.func59, by kernel_rfl, ne_of_beq (by kernel_rfl)⟩ (consCons h_spec_someClock ⟨Try.f69, Try.func69, by kernel_rfl, ne_of_beq (by kernel_rfl)⟩ (consNil)))
theorem cok_spec_DrawUseClock : ConsOK Try.prog 13 cs_spec_DrawUseClock := ⟨clok_spec_DrawUseClock, inlNil⟩
theorem i_spec_DrawUseClock {vs : List A1} {kk : AV → List A1 → Prop} {motive : List A1 → Prop} (h : con_spec_DrawUseClock.F vs kk) (H : ∀ (code0 : List Int), F_spec_DrawUseClock code0 (fun r0 r1 r2 r3 r4 => kk (.tup [.agg [.v (.int .i64 r0), .ro .int r1, .ro .bool r2, .v (.int .i64 r3)], .c (.v (.int .i64 r4))]) []) → motive [.c (.ro .u8 code0)]) : motive vs := by
  unfold con_spec_DrawUseClock at h
  dsimp only at h
  split at h
  · exact H _ h
  · exact h.elim
theorem h_spec_DrawUseClock : Holds Try.prog 40 con_spec_DrawUseClock := by
  refine holds_of_ev (rt := [.agg [.sc, .sl .int, .sl .bool, .sc], .c .sc]) (T := TT) (Γ := cs_spec_DrawUseClock) (an := an_spec_DrawUseClock) (N := 13) (c := Try.f40.body.getD .skip) Try.func40 (by kernel_rfl) Try.ntmps40 (by decide) (by decide) mixed tabOK cok_spec_DrawUseClock (by kernel_rfl) ?_
  intro vs kk _ hF
  exact i_spec_DrawUseClock (motive := fun vs => Goes (ev TT cs_spec_DrawUseClock 13 an_spec_DrawUseClock (Try.f40.body.getD .skip) (st0 con_spec_DrawUseClock vs) (fin TT con_spec_DrawUseClock Try.f40.results.toList [.agg [.sc, .sl .int, .sl .bool, .sc], .c .sc] vs kk))) hF (fun code0 hF => goes_of (e_spec_DrawUseClock code0 kk) (F_spec_DrawUseClock_S hF))
def con_impl_validRoom : Con := ⟨[.rd], true, [.c (.sc)], fun vs k => match vs with
    | [.c (.v (.int .i64 room0))] => F_impl_validRoom room0 (fun r0 => k (.one (.c (.v (.bool r0)))) [])
    | _ => False, false⟩
def cl_impl_validRoom : List (FuncId × Con) := []
def an_impl_validRoom : Ann := ⟨[], [], []⟩
def cs_impl_validRoom : Cons := ⟨cl_impl_validRoom, [], 0, [], []⟩
def fin_impl_validRoom (room0 : Int) (kk : AV → List A1 → Prop) : Kt := fin TT con_impl_validRoom Try.f66.results.toList [.c .sc] [.c (.v (.int .i64 room0))] kk
theorem g_impl_validRoom (room0 : Int) (kk : AV → List A1 → Prop) :
    ev TT cs_impl_validRoom 9 an_impl_validRoom (Try.f66.body.getD .skip) (st0 con_impl_validRoom [.c (.v (.int .i64 room0))]) (fin TT con_impl_validRoom Try.f66.results.toList [.c .sc] [.c (.v (.int .i64 room0))] kk) = G_impl_validRoom room0 (fun r0 => kk (.one (.c (.v (.bool r0)))) []) := by kernel_rfl
theorem e_impl_validRoom (room0 : Int) (kk : AV → List A1 → Prop) :
    ev TT cs_impl_validRoom 9 an_impl_validRoom (Try.f66.body.getD .skip) (st0 con_impl_validRoom [.c (.v (.int .i64 room0))]) (fin TT con_impl_validRoom Try.f66.results.toList [.c .sc] [.c (.v (.int .i64 room0))] kk) = S_impl_validRoom room0 (fun r0 => kk (.one (.c (.v (.bool r0)))) []) := by
  rw [g_impl_validRoom]
  rfl
theorem clok_impl_validRoom : ConOK Try.prog cl_impl_validRoom := consNil
theorem cok_impl_validRoom : ConsOK Try.prog 9 cs_impl_validRoom := ⟨clok_impl_validRoom, inlNil⟩
theorem i_impl_validRoom {vs : List A1} {kk : AV → List A1 → Prop} {motive : List A1 → Prop} (h : con_impl_validRoom.F vs kk) (H : ∀ (room0 : Int), F_impl_validRoom room0 (fun r0 => kk (.one (.c (.v (.bool r0)))) []) → motive [.c (.v (.int .i64 room0))]) : motive vs := by
  unfold con_impl_validRoom at h
  dsimp only at h
  split at h
  · exact H _ h
  · exact h.elim
theorem h_impl_validRoom : Holds Try.prog 66 con_impl_validRoom := by
  refine holds_of_ev (rt := [.c .sc]) (T := TT) (Γ := cs_impl_validRoom) (an := an_impl_validRoom) (N := 9) (c := Try.f66.body.getD .skip) Try.func66 (by kernel_rfl) Try.ntmps66 (by decide) (by decide) mixed tabOK cok_impl_validRoom (by kernel_rfl) ?_
  intro vs kk _ hF
  exact i_impl_validRoom (motive := fun vs => Goes (ev TT cs_impl_validRoom 9 an_impl_validRoom (Try.f66.body.getD .skip) (st0 con_impl_validRoom vs) (fin TT con_impl_validRoom Try.f66.results.toList [.c .sc] vs kk))) hF (fun room0 hF => goes_of (e_impl_validRoom room0 kk) (F_impl_validRoom_S hF))
def con_impl_validKey : Con := ⟨[.rd], true, [.c (.sc)], fun vs k => match vs with
    | [.c (.v (.int .i64 key0))] => F_impl_validKey key0 (fun r0 => k (.one (.c (.v (.bool r0)))) [])
    | _ => False, false⟩
def cl_impl_validKey : List (FuncId × Con) := []
def an_impl_validKey : Ann := ⟨[], [], []⟩
def cs_impl_validKey : Cons := ⟨cl_impl_validKey, [], 0, [], []⟩
def fin_impl_validKey (key0 : Int) (kk : AV → List A1 → Prop) : Kt := fin TT con_impl_validKey Try.f60.results.toList [.c .sc] [.c (.v (.int .i64 key0))] kk
theorem g_impl_validKey (key0 : Int) (kk : AV → List A1 → Prop) :
    ev TT cs_impl_validKey 9 an_impl_validKey (Try.f60.body.getD .skip) (st0 con_impl_validKey [.c (.v (.int .i64 key0))]) (fin TT con_impl_validKey Try.f60.results.toList [.c .sc] [.c (.v (.int .i64 key0))] kk) = G_impl_validKey key0 (fun r0 => kk (.one (.c (.v (.bool r0)))) []) := by kernel_rfl
theorem e_impl_validKey (key0 : Int) (kk : AV → List A1 → Prop) :
    ev TT cs_impl_validKey 9 an_impl_validKey (Try.f60.body.getD .skip) (st0 con_impl_validKey [.c (.v (.int .i64 key0))]) (fin TT con_impl_validKey Try.f60.results.toList [.c .sc] [.c (.v (.int .i64 key0))] kk) = S_impl_validKey key0 (fun r0 => kk (.one (.c (.v (.bool r0)))) []) := by
  rw [g_impl_validKey]
  rfl
theorem clok_impl_validKey : ConOK Try.prog cl_impl_validKey := consNil
theorem cok_impl_validKey : ConsOK Try.prog 9 cs_impl_validKey := ⟨clok_impl_validKey, inlNil⟩
theorem i_impl_validKey {vs : List A1} {kk : AV → List A1 → Prop} {motive : List A1 → Prop} (h : con_impl_validKey.F vs kk) (H : ∀ (key0 : Int), F_impl_validKey key0 (fun r0 => kk (.one (.c (.v (.bool r0)))) []) → motive [.c (.v (.int .i64 key0))]) : motive vs := by
  unfold con_impl_validKey at h
  dsimp only at h
  split at h
  · exact H _ h
  · exact h.elim
theorem h_impl_validKey : Holds Try.prog 60 con_impl_validKey := by
  refine holds_of_ev (rt := [.c .sc]) (T := TT) (Γ := cs_impl_validKey) (an := an_impl_validKey) (N := 9) (c := Try.f60.body.getD .skip) Try.func60 (by kernel_rfl) Try.ntmps60 (by decide) (by decide) mixed tabOK cok_impl_validKey (by kernel_rfl) ?_
  intro vs kk _ hF
  exact i_impl_validKey (motive := fun vs => Goes (ev TT cs_impl_validKey 9 an_impl_validKey (Try.f60.body.getD .skip) (st0 con_impl_validKey vs) (fin TT con_impl_validKey Try.f60.results.toList [.c .sc] vs kk))) hF (fun key0 hF => goes_of (e_impl_validKey key0 kk) (F_impl_validKey_S hF))
def con_slices_Index_sint_int : Con := ⟨[.rd, .rd], true, [.c (.sl .int), .c (.sc)], fun vs k => match vs with
    | [.c (.ro .int s0), .c (.v (.int .i64 v1))] => F_slices_Index_sint_int s0 v1 (fun r0 => k (.one (.c (.v (.int .i64 r0)))) [])
    | _ => False, false⟩
def cl_slices_Index_sint_int : List (FuncId × Con) := []
def nm0_slices_Index_sint_int : List NStep := [.keep [0, 1, 7, 8] []]
def an_slices_Index_sint_int : Ann := ⟨[], [(2, nm0_slices_Index_sint_int)], []⟩
def cs_slices_Index_sint_int : Cons := ⟨cl_slices_Index_sint_int, [], 0, [], []⟩
def can0_slices_Index_sint_int (s0 : List Int) (v1 : Int) (xt7 : Int) (xt8 : Int) : St := ⟨[(0, .one (.c (.ro .int s0))), (1, .one (.c (.v (.int .i64 v1)))), (7, .one (.c (.v (.int .i64 xt7)))), (8, .one (.c (.v (.int .i64 xt8))))], []⟩
def fin_slices_Index_sint_int (s0 : List Int) (v1 : Int) (kk : AV → List A1 → Prop) : Kt := fin TT con_slices_Index_sint_int Try.f71.results.toList [.c .sc] [.c (.ro .int s0), .c (.v (.int .i64 v1))] kk
def kt0_slices_Index_sint_int (kf : Kt) : Kt := blockK 0 (seqK (evF TT cs_slices_Index_sint_int 19 an_slices_Index_sint_int Try.f71 [1, 1]) (kf))
theorem r0_slices_Index_sint_int (s0 : List Int) (v1 : Int) (xt7 : Int) (kk : AV → List A1 → Prop) (n : Nat) (xt8 : Int) :
    iter (evF TT cs_slices_Index_sint_int 19 an_slices_Index_sint_int Try.f71 [1, 0, 1, 0, 0]) nm0_slices_Index_sint_int (kt0_slices_Index_sint_int (fin_slices_Index_sint_int s0 v1 kk)) (n + 1) (can0_slices_Index_sint_int s0 v1 xt7 xt8) = T0_slices_Index_sint_int s0 v1 xt7 xt8 (fun r0 => kk (.one (.c (.v (.int .i64 r0)))) []) (fun xt8 => iter (evF TT cs_slices_Index_sint_int 19 an_slices_Index_sint_int Try.f71 [1, 0, 1, 0, 0]) nm0_slices_Index_sint_int (kt0_slices_Index_sint_int (fin_slices_Index_sint_int s0 v1 kk)) n (can0_slices_Index_sint_int s0 v1 xt7 xt8)) := by kernel_rfl
theorem l0_slices_Index_sint_int (s0 : List Int) (v1 : Int) (xt7 : Int) (kk : AV → List A1 → Prop) : ∀ (n : Nat) (xt8 : Int), iter (evF TT cs_slices_Index_sint_int 19 an_slices_Index_sint_int Try.f71 [1, 0, 1, 0, 0]) nm0_slices_Index_sint_int (kt0_slices_Index_sint_int (fin_slices_Index_sint_int s0 v1 kk)) n (can0_slices_Index_sint_int s0 v1 xt7 xt8) = L0_slices_Index_sint_int s0 v1 xt7 (fun r0 => kk (.one (.c (.v (.int .i64 r0)))) []) n xt8 := by
  intro n
  induction n with
  | zero => intros; rfl
  | succ n ih =>
    intro xt8
    rw [r0_slices_Index_sint_int s0 v1 xt7 kk n xt8]
    have hb : (fun xt8 => iter (evF TT cs_slices_Index_sint_int 19 an_slices_Index_sint_int Try.f71 [1, 0, 1, 0, 0]) nm0_slices_Index_sint_int (kt0_slices_Index_sint_int (fin_slices_Index_sint_int s0 v1 kk)) n (can0_slices_Index_sint_int s0 v1 xt7 xt8)) = L0_slices_Index_sint_int s0 v1 xt7 (fun r0 => kk (.one (.c (.v (.int .i64 r0)))) []) n := by
      funext xt8; exact ih xt8
    rw [hb]
    rfl
theorem g_slices_Index_sint_int (s0 : List Int) (v1 : Int) (kk : AV → List A1 → Prop) :
    ev TT cs_slices_Index_sint_int 19 an_slices_Index_sint_int (Try.f71.body.getD .skip) (st0 con_slices_Index_sint_int [.c (.ro .int s0), .c (.v (.int .i64 v1))]) (fin TT con_slices_Index_sint_int Try.f71.results.toList [.c .sc] [.c (.ro .int s0), .c (.v (.int .i64 v1))] kk) = G_slices_Index_sint_int s0 v1 (fun s0 v1 xt7 xt8 => ∃ j, iter (evF TT cs_slices_Index_sint_int 19 an_slices_Index_sint_int Try.f71 [1, 0, 1, 0, 0]) nm0_slices_Index_sint_int (kt0_slices_Index_sint_int (fin_slices_Index_sint_int s0 v1 kk)) j (can0_slices_Index_sint_int s0 v1 xt7 xt8)) := by kernel_rfl
theorem e_slices_Index_sint_int (s0 : List Int) (v1 : Int) (kk : AV → List A1 → Prop) :
    ev TT cs_slices_Index_sint_int 19 an_slices_Index_sint_int (Try.f71.body.getD .skip) (st0 con_slices_Index_sint_int [.c (.ro .int s0), .c (.v (.int .i64 v1))]) (fin TT con_slices_Index_sint_int Try.f71.results.toList [.c .sc] [.c (.ro .int s0), .c (.v (.int .i64 v1))] kk) = S_slices_Index_sint_int s0 v1 (fun r0 => kk (.one (.c (.v (.int .i64 r0)))) []) := by
  rw [g_slices_Index_sint_int]
  have hi0 : (fun s0 v1 xt7 xt8 => ∃ j, iter (evF TT cs_slices_Index_sint_int 19 an_slices_Index_sint_int Try.f71 [1, 0, 1, 0, 0]) nm0_slices_Index_sint_int (kt0_slices_Index_sint_int (fin_slices_Index_sint_int s0 v1 kk)) j (can0_slices_Index_sint_int s0 v1 xt7 xt8)) = (fun s0 v1 xt7 xt8 => ∃ j, L0_slices_Index_sint_int s0 v1 xt7 (fun r0 => kk (.one (.c (.v (.int .i64 r0)))) []) j xt8) := by
    funext s0 v1 xt7 xt8
    refine congrArg Exists (funext fun j => ?_)
    rw [l0_slices_Index_sint_int s0 v1 xt7 kk j xt8]
  rw [hi0]
  rfl
theorem clok_slices_Index_sint_int : ConOK Try.prog cl_slices_Index_sint_int := consNil
theorem cok_slices_Index_sint_int : ConsOK Try.prog 19 cs_slices_Index_sint_int := ⟨clok_slices_Index_sint_int, inlNil⟩
theorem i_slices_Index_sint_int {vs : List A1} {kk : AV → List A1 → Prop} {motive : List A1 → Prop} (h : con_slices_Index_sint_int.F vs kk) (H : ∀ (s0 : List Int) (v1 : Int), F_slices_Index_sint_int s0 v1 (fun r0 => kk (.one (.c (.v (.int .i64 r0)))) []) → motive [.c (.ro .int s0), .c (.v (.int .i64 v1))]) : motive vs := by
  unfold con_slices_Index_sint_int at h
  dsimp only at h
  split at h
  · exact H _ _ h
  · exact h.elim
theorem h_slices_Index_sint_int : Holds Try.prog 71 con_slices_Index_sint_int := by
  refine holds_of_ev (rt := [.c .sc]) (T := TT) (Γ := cs_slices_Index_sint_int) (an := an_slices_Index_sint_int) (N := 19) (c := Try.f71.body.getD .skip) Try.func71 (by kernel_rfl) Try.ntmps71 (by decide) (by decide) mixed tabOK cok_slices_Index_sint_int (by kernel_rfl) ?_
  intro vs kk _ hF
  exact i_slices_Index_sint_int (motive := fun vs => Goes (ev TT cs_slices_Index_sint_int 19 an_slices_Index_sint_int (Try.f71.body.getD .skip) (st0 con_slices_Index_sint_int vs) (fin TT con_slices_Index_sint_int Try.f71.results.toList [.c .sc] vs kk))) hF (fun s0 v1 hF => goes_of (e_slices_Index_sint_int s0 v1 kk) (F_slices_Index_sint_int_S hF))
def con_slices_Contains_sint_int : Con := ⟨[.rd, .rd], true, [.c (.sl .int), .c (.sc)], fun vs k => match vs with
    | [.c (.ro .int s0), .c (.v (.int .i64 v1))] => F_slices_Contains_sint_int s0 v1 (fun r0 => k (.one (.c (.v (.bool r0)))) [])
    | _ => False, false⟩
def cl_slices_Contains_sint_int : List (FuncId × Con) := [(71, con_slices_Index_sint_int)]
def an_slices_Contains_sint_int : Ann := ⟨[], [], []⟩
def cs_slices_Contains_sint_int : Cons := ⟨cl_slices_Contains_sint_int, [], 0, [], []⟩
def fin_slices_Contains_sint_int (s0 : List Int) (v1 : Int) (kk : AV → List A1 → Prop) : Kt := fin TT con_slices_Contains_sint_int Try.f57.results.toList [.c .sc] [.c (.ro .int s0), .c (.v (.int .i64 v1))] kk
theorem g_slices_Contains_sint_int (s0 : List Int) (v1 : Int) (kk : AV → List A1 → Prop) :
    ev TT cs_slices_Contains_sint_int 9 an_slices_Contains_sint_int (Try.f57.body.getD .skip) (st0 con_slices_Contains_sint_int [.c (.ro .int s0), .c (.v (.int .i64 v1))]) (fin TT con_slices_Contains_sint_int Try.f57.results.toList [.c .sc] [.c (.ro .int s0), .c (.v (.int .i64 v1))] kk) = G_slices_Contains_sint_int s0 v1 (fun r0 => kk (.one (.c (.v (.bool r0)))) []) := by kernel_rfl
theorem e_slices_Contains_sint_int (s0 : List Int) (v1 : Int) (kk : AV → List A1 → Prop) :
    ev TT cs_slices_Contains_sint_int 9 an_slices_Contains_sint_int (Try.f57.body.getD .skip) (st0 con_slices_Contains_sint_int [.c (.ro .int s0), .c (.v (.int .i64 v1))]) (fin TT con_slices_Contains_sint_int Try.f57.results.toList [.c .sc] [.c (.ro .int s0), .c (.v (.int .i64 v1))] kk) = S_slices_Contains_sint_int s0 v1 (fun r0 => kk (.one (.c (.v (.bool r0)))) []) := by
  rw [g_slices_Contains_sint_int]
  rfl
theorem clok_slices_Contains_sint_int : ConOK Try.prog cl_slices_Contains_sint_int := consCons h_slices_Index_sint_int ⟨Try.f71, Try.func71, by kernel_rfl, ne_of_beq (by kernel_rfl)⟩ (consNil)
theorem cok_slices_Contains_sint_int : ConsOK Try.prog 9 cs_slices_Contains_sint_int := ⟨clok_slices_Contains_sint_int, inlNil⟩
theorem i_slices_Contains_sint_int {vs : List A1} {kk : AV → List A1 → Prop} {motive : List A1 → Prop} (h : con_slices_Contains_sint_int.F vs kk) (H : ∀ (s0 : List Int) (v1 : Int), F_slices_Contains_sint_int s0 v1 (fun r0 => kk (.one (.c (.v (.bool r0)))) []) → motive [.c (.ro .int s0), .c (.v (.int .i64 v1))]) : motive vs := by
  unfold con_slices_Contains_sint_int at h
  dsimp only at h
  split at h
  · exact H _ _ h
  · exact h.elim
theorem h_slices_Contains_sint_int : Holds Try.prog 57 con_slices_Contains_sint_int := by
  refine holds_of_ev (rt := [.c .sc]) (T := TT) (Γ := cs_slices_Contains_sint_int) (an := an_slices_Contains_sint_int) (N := 9) (c := Try.f57.body.getD .skip) Try.func57 (by kernel_rfl) Try.ntmps57 (by decide) (by decide) mixed tabOK cok_slices_Contains_sint_int (by kernel_rfl) ?_
  intro vs kk _ hF
  exact i_slices_Contains_sint_int (motive := fun vs => Goes (ev TT cs_slices_Contains_sint_int 9 an_slices_Contains_sint_int (Try.f57.body.getD .skip) (st0 con_slices_Contains_sint_int vs) (fin TT con_slices_Contains_sint_int Try.f57.results.toList [.c .sc] vs kk))) hF (fun s0 v1 hF => goes_of (e_slices_Contains_sint_int s0 v1 kk) (F_slices_Contains_sint_int_S hF))
def con_impl_differentKeys : Con := ⟨[.rd], true, [.c (.sl .int)], fun vs k => match vs with
    | [.c (.ro .int list0)] => F_impl_differentKeys list0 (fun r0 => k (.one (.c (.v (.bool r0)))) [])
    | _ => False, false⟩
def cl_impl_differentKeys : List (FuncId × Con) := [(57, con_slices_Contains_sint_int), (60, con_impl_validKey)]
def nm0_impl_differentKeys : List NStep := [.keep [0, 5, 6, 7] []]
def an_impl_differentKeys : Ann := ⟨[], [(2, nm0_impl_differentKeys)], []⟩
def cs_impl_differentKeys : Cons := ⟨cl_impl_differentKeys, [], 0, [], []⟩
def can0_impl_differentKeys (list0 : List Int) (xt6 : Int) (xt7 : Int) : St := ⟨[(0, .one (.c (.ro .int list0))), (5, .one (.c (.ro .int list0))), (6, .one (.c (.v (.int .i64 xt6)))), (7, .one (.c (.v (.int .i64 xt7))))], []⟩
def fin_impl_differentKeys (list0 : List Int) (kk : AV → List A1 → Prop) : Kt := fin TT con_impl_differentKeys Try.f82.results.toList [.c .sc] [.c (.ro .int list0)] kk
def kt0_impl_differentKeys (kf : Kt) : Kt := blockK 0 (seqK (evF TT cs_impl_differentKeys 23 an_impl_differentKeys Try.f82 [1, 1]) (kf))
theorem r0_impl_differentKeys (list0 : List Int) (xt6 : Int) (kk : AV → List A1 → Prop) (n : Nat) (xt7 : Int) :
    iter (evF TT cs_impl_differentKeys 23 an_impl_differentKeys Try.f82 [1, 0, 1, 0, 0]) nm0_impl_differentKeys (kt0_impl_differentKeys (fin_impl_differentKeys list0 kk)) (n + 1) (can0_impl_differentKeys list0 xt6 xt7) = T0_impl_differentKeys list0 xt6 xt7 (fun r0 => kk (.one (.c (.v (.bool r0)))) []) (fun xt7 => iter (evF TT cs_impl_differentKeys 23 an_impl_differentKeys Try.f82 [1, 0, 1, 0, 0]) nm0_impl_differentKeys (kt0_impl_differentKeys (fin_impl_differentKeys list0 kk)) n (can0_impl_differentKeys list0 xt6 xt7)) := by kernel_rfl
theorem l0_impl_differentKeys (list0 : List Int) (xt6 : Int) (kk : AV → List A1 → Prop) : ∀ (n : Nat) (xt7 : Int), iter (evF TT cs_impl_differentKeys 23 an_impl_differentKeys Try.f82 [1, 0, 1, 0, 0]) nm0_impl_differentKeys (kt0_impl_differentKeys (fin_impl_differentKeys list0 kk)) n (can0_impl_differentKeys list0 xt6 xt7) = L0_impl_differentKeys list0 xt6 (fun r0 => kk (.one (.c (.v (.bool r0)))) []) n xt7 := by
  intro n
  induction n with
  | zero => intros; rfl
  | succ n ih =>
    intro xt7
    rw [r0_impl_differentKeys list0 xt6 kk n xt7]
    have hb : (fun xt7 => iter (evF TT cs_impl_differentKeys 23 an_impl_differentKeys Try.f82 [1, 0, 1, 0, 0]) nm0_impl_differentKeys (kt0_impl_differentKeys (fin_impl_differentKeys list0 kk)) n (can0_impl_differentKeys list0 xt6 xt7)) = L0_impl_differentKeys list0 xt6 (fun r0 => kk (.one (.c (.v (.bool r0)))) []) n := by
      funext xt7; exact ih xt7
    rw [hb]
    rfl
theorem g_impl_differentKeys (list0 : List Int) (kk : AV → List A1 → Prop) :
    ev TT cs_impl_differentKeys 23 an_impl_differentKeys (Try.f82.body.getD .skip) (st0 con_impl_differentKeys [.c (.ro .int list0)]) (fin TT con_impl_differentKeys Try.f82.results.toList [.c .sc] [.c (.ro .int list0)] kk) = G_impl_differentKeys list0 (fun list0 xt6 xt7 => ∃ j, iter (evF TT cs_impl_differentKeys 23 an_impl_differentKeys Try.f82 [1, 0, 1, 0, 0]) nm0_impl_differentKeys (kt0_impl_differentKeys (fin_impl_differentKeys list0 kk)) j (can0_impl_differentKeys list0 xt6 xt7)) := by kernel_rfl
theorem e_impl_differentKeys (list0 : List Int) (kk : AV → List A1 → Prop) :
    ev TT cs_impl_differentKeys 23 an_impl_differentKeys (Try.f82.body.getD .skip) (st0 con_impl_differentKeys [.c (.ro .int list0)]) (fin TT con_impl_differentKeys Try.f82.results.toList [.c .sc] [.c (.ro .int list0)] kk) = S_impl_differentKeys list0 (fun r0 => kk (.one (.c (.v (.bool r0)))) []) := by
  rw [g_impl_differentKeys]
  have hi0 : (fun list0 xt6 xt7 => ∃ j, iter (evF TT cs_impl_differentKeys 23 an_impl_differentKeys Try.f82 [1, 0, 1, 0, 0]) nm0_impl_differentKeys (kt0_impl_differentKeys (fin_impl_differentKeys list0 kk)) j (can0_impl_differentKeys list0 xt6 xt7)) = (fun list0 xt6 xt7 => ∃ j, L0_impl_differentKeys list0 xt6 (fun r0 => kk (.one (.c (.v (.bool r0)))) []) j xt7) := by
    funext list0 xt6 xt7
    refine congrArg Exists (funext fun j => ?_)
    rw [l0_impl_differentKeys list0 xt6 kk j xt7]
  rw [hi0]
  rfl
theorem clok_impl_differentKeys : ConOK Try.prog cl_impl_differentKeys := consCons h_slices_Contains_sint_int ⟨Try.f57, Try.func57, by kernel_rfl, ne_of_beq (by kernel_rfl)⟩ (consCons h_impl_validKey ⟨Try.f60, Try.func60, by kernel_rfl, ne_of_beq (by kernel_rfl)⟩ (consNil))
theorem cok_impl_differentKeys : ConsOK Try.prog 23 cs_impl_differentKeys := ⟨clok_impl_differentKeys, inlNil⟩
theorem i_impl_differentKeys {vs : List A1} {kk : AV → List A1 → Prop} {motive : List A1 → Prop} (h : con_impl_differentKeys.F vs kk) (H : ∀ (list0 : List Int), F_impl_differentKeys list0 (fun r0 => kk (.one (.c (.v (.bool r0)))) []) → motive [.c (.ro .int list0)]) : motive vs := by
  unfold con_impl_differentKeys at h
  dsimp only at h
  split at h
  · exact H _ h
  · exact h.elim
theorem h_impl_differentKeys : Holds Try.prog 82 con_impl_differentKeys := by
  refine holds_of_ev (rt := [.c .sc]) (T := TT) (Γ := cs_impl_differentKeys) (an := an_impl_differentKeys) (N := 23) (c := Try.f82.body.getD .skip) Try.func82 (by kernel_rfl) Try.ntmps82 (by decide) (by decide) mixed tabOK cok_impl_differentKeys (by kernel_rfl) ?_
  intro vs kk _ hF
  exact i_impl_differentKeys (motive := fun vs => Goes (ev TT cs_impl_differentKeys 23 an_impl_differentKeys (Try.f82.body.getD .skip) (st0 con_impl_differentKeys vs) (fin TT con_impl_differentKeys Try.f82.results.toList [.c .sc] vs kk))) hF (fun list0 hF => goes_of (e_impl_differentKeys list0 kk) (F_impl_differentKeys_S hF))
def con_impl_ValidKeys : Con := ⟨[.rd, .rd], true, [.c (.sl .int), .c (.sc)], fun vs k => match vs with
    | [.c (.ro .int list0), .c (.v (.int .i64 room1))] => F_impl_ValidKeys list0 room1 (fun r0 => k (.one (.c (.v (.bool r0)))) [])
    | _ => False, false⟩
def cl_impl_ValidKeys : List (FuncId × Con) := [(66, con_impl_validRoom), (82, con_impl_differentKeys)]
def an_impl_ValidKeys : Ann := ⟨[], [], []⟩
def cs_impl_ValidKeys : Cons := ⟨cl_impl_ValidKeys, [], 0, [], []⟩
def fin_impl_ValidKeys (list0 : List Int) (room1 : Int) (kk : AV → List A1 → Prop) : Kt := fin TT con_impl_ValidKeys Try.f56.results.toList [.c .sc] [.c (.ro .int list0), .c (.v (.int .i64 room1))] kk
theorem g_impl_ValidKeys (list0 : List Int) (room1 : Int) (kk : AV → List A1 → Prop) :
    ev TT cs_impl_ValidKeys 17 an_impl_ValidKeys (Try.f56.body.getD .skip) (st0 con_impl_ValidKeys [.c (.ro .int list0), .c (.v (.int .i64 room1))]) (fin TT con_impl_ValidKeys Try.f56.results.toList [.c .sc] [.c (.ro .int list0), .c (.v (.int .i64 room1))] kk) = G_impl_ValidKeys list0 room1 (fun r0 => kk (.one (.c (.v (.bool r0)))) []) := by kernel_rfl
theorem e_impl_ValidKeys (list0 : List Int) (room1 : Int) (kk : AV → List A1 → Prop) :
    ev TT cs_impl_ValidKeys 17 an_impl_ValidKeys (Try.f56.body.getD .skip) (st0 con_impl_ValidKeys [.c (.ro .int list0), .c (.v (.int .i64 room1))]) (fin TT con_impl_ValidKeys Try.f56.results.toList [.c .sc] [.c (.ro .int list0), .c (.v (.int .i64 room1))] kk) = S_impl_ValidKeys list0 room1 (fun r0 => kk (.one (.c (.v (.bool r0)))) []) := by
  rw [g_impl_ValidKeys]
  rfl
theorem clok_impl_ValidKeys : ConOK Try.prog cl_impl_ValidKeys := consCons h_impl_validRoom ⟨Try.f66, Try.func66, by kernel_rfl, ne_of_beq (by kernel_rfl)⟩ (consCons h_impl_differentKeys ⟨Try.f82, Try.func82, by kernel_rfl, ne_of_beq (by kernel_rfl)⟩ (consNil))
theorem cok_impl_ValidKeys : ConsOK Try.prog 17 cs_impl_ValidKeys := ⟨clok_impl_ValidKeys, inlNil⟩
theorem i_impl_ValidKeys {vs : List A1} {kk : AV → List A1 → Prop} {motive : List A1 → Prop} (h : con_impl_ValidKeys.F vs kk) (H : ∀ (list0 : List Int) (room1 : Int), F_impl_ValidKeys list0 room1 (fun r0 => kk (.one (.c (.v (.bool r0)))) []) → motive [.c (.ro .int list0), .c (.v (.int .i64 room1))]) : motive vs := by
  unfold con_impl_ValidKeys at h
  dsimp only at h
  split at h
  · exact H _ _ h
  · exact h.elim
theorem h_impl_ValidKeys : Holds Try.prog 56 con_impl_ValidKeys := by
  refine holds_of_ev (rt := [.c .sc]) (T := TT) (Γ := cs_impl_ValidKeys) (an := an_impl_ValidKeys) (N := 17) (c := Try.f56.body.getD .skip) Try.func56 (by kernel_rfl) Try.ntmps56 (by decide) (by decide) mixed tabOK cok_impl_ValidKeys (by kernel_rfl) ?_
  intro vs kk _ hF
  exact i_impl_ValidKeys (motive := fun vs => Goes (ev TT cs_impl_ValidKeys 17 an_impl_ValidKeys (Try.f56.body.getD .skip) (st0 con_impl_ValidKeys vs) (fin TT con_impl_ValidKeys Try.f56.results.toList [.c .sc] vs kk))) hF (fun list0 room1 hF => goes_of (e_impl_ValidKeys list0 room1 kk) (F_impl_ValidKeys_S hF))
def con_impl_ValidClock : Con := ⟨[.rd], true, [.agg [.sc, .sl .int, .sl .bool, .sc]], fun vs k => match vs with
    | [.agg [.v (.int .i64 c0Room), .ro .int c0Keys, .ro .bool c0Used, .v (.int .i64 c0Hand)]] => F_impl_ValidClock c0Room c0Keys c0Used c0Hand (fun r0 => k (.one (.c (.v (.bool r0)))) [])
    | _ => False, false⟩
def cl_impl_ValidClock : List (FuncId × Con) := [(56, con_impl_ValidKeys)]
def an_impl_ValidClock : Ann := ⟨[], [], []⟩
def cs_impl_ValidClock : Cons := ⟨cl_impl_ValidClock, [], 0, [], []⟩
def fin_impl_ValidClock (c0Room : Int) (c0Keys : List Int) (c0Used : List Bool) (c0Hand : Int) (kk : AV → List A1 → Prop) : Kt := fin TT con_impl_ValidClock Try.f70.results.toList [.c .sc] [.agg [.v (.int .i64 c0Room), .ro .int c0Keys, .ro .bool c0Used, .v (.int .i64 c0Hand)]] kk
theorem g_impl_ValidClock (c0Room : Int) (c0Keys : List Int) (c0Used : List Bool) (c0Hand : Int) (kk : AV → List A1 → Prop) :
    ev TT cs_impl_ValidClock 38 an_impl_ValidClock (Try.f70.body.getD .skip) (st0 con_impl_ValidClock [.agg [.v (.int .i64 c0Room), .ro .int c0Keys, .ro .bool c0Used, .v (.int .i64 c0Hand)]]) (fin TT con_impl_ValidClock Try.f70.results.toList [.c .sc] [.agg [.v (.int .i64 c0Room), .ro .int c0Keys, .ro .bool c0Used, .v (.int .i64 c0Hand)]] kk) = G_impl_ValidClock c0Room c0Keys c0Used c0Hand (fun r0 => kk (.one (.c (.v (.bool r0)))) []) := by kernel_rfl
theorem e_impl_ValidClock (c0Room : Int) (c0Keys : List Int) (c0Used : List Bool) (c0Hand : Int) (kk : AV → List A1 → Prop) :
    ev TT cs_impl_ValidClock 38 an_impl_ValidClock (Try.f70.body.getD .skip) (st0 con_impl_ValidClock [.agg [.v (.int .i64 c0Room), .ro .int c0Keys, .ro .bool c0Used, .v (.int .i64 c0Hand)]]) (fin TT con_impl_ValidClock Try.f70.results.toList [.c .sc] [.agg [.v (.int .i64 c0Room), .ro .int c0Keys, .ro .bool c0Used, .v (.int .i64 c0Hand)]] kk) = S_impl_ValidClock c0Room c0Keys c0Used c0Hand (fun r0 => kk (.one (.c (.v (.bool r0)))) []) := by
  rw [g_impl_ValidClock]
  rfl
theorem clok_impl_ValidClock : ConOK Try.prog cl_impl_ValidClock := consCons h_impl_ValidKeys ⟨Try.f56, Try.func56, by kernel_rfl, ne_of_beq (by kernel_rfl)⟩ (consNil)
theorem cok_impl_ValidClock : ConsOK Try.prog 38 cs_impl_ValidClock := ⟨clok_impl_ValidClock, inlNil⟩
theorem i_impl_ValidClock {vs : List A1} {kk : AV → List A1 → Prop} {motive : List A1 → Prop} (h : con_impl_ValidClock.F vs kk) (H : ∀ (c0Room : Int) (c0Keys : List Int) (c0Used : List Bool) (c0Hand : Int), F_impl_ValidClock c0Room c0Keys c0Used c0Hand (fun r0 => kk (.one (.c (.v (.bool r0)))) []) → motive [.agg [.v (.int .i64 c0Room), .ro .int c0Keys, .ro .bool c0Used, .v (.int .i64 c0Hand)]]) : motive vs := by
  unfold con_impl_ValidClock at h
  dsimp only at h
  split at h
  · exact H _ _ _ _ h
  · exact h.elim
theorem h_impl_ValidClock : Holds Try.prog 70 con_impl_ValidClock := by
  refine holds_of_ev (rt := [.c .sc]) (T := TT) (Γ := cs_impl_ValidClock) (an := an_impl_ValidClock) (N := 38) (c := Try.f70.body.getD .skip) Try.func70 (by kernel_rfl) Try.ntmps70 (by decide) (by decide) mixed tabOK cok_impl_ValidClock (by kernel_rfl) ?_
  intro vs kk _ hF
  exact i_impl_ValidClock (motive := fun vs => Goes (ev TT cs_impl_ValidClock 38 an_impl_ValidClock (Try.f70.body.getD .skip) (st0 con_impl_ValidClock vs) (fin TT con_impl_ValidClock Try.f70.results.toList [.c .sc] vs kk))) hF (fun c0Room c0Keys c0Used c0Hand hF => goes_of (e_impl_ValidClock c0Room c0Keys c0Used c0Hand kk) (F_impl_ValidClock_S hF))
def con_impl_nextPlace : Con := ⟨[.rd], true, [.agg [.sc, .sl .int, .sl .bool, .sc]], fun vs k => match vs with
    | [.agg [.v (.int .i64 c0Room), .ro .int c0Keys, .ro .bool c0Used, .v (.int .i64 c0Hand)]] => F_impl_nextPlace c0Room c0Keys c0Used c0Hand (fun r0 => k (.one (.c (.v (.int .i64 r0)))) [])
    | _ => False, false⟩
def cl_impl_nextPlace : List (FuncId × Con) := []
def an_impl_nextPlace : Ann := ⟨[], [], []⟩
def cs_impl_nextPlace : Cons := ⟨cl_impl_nextPlace, [], 0, [], []⟩
def fin_impl_nextPlace (c0Room : Int) (c0Keys : List Int) (c0Used : List Bool) (c0Hand : Int) (kk : AV → List A1 → Prop) : Kt := fin TT con_impl_nextPlace Try.f72.results.toList [.c .sc] [.agg [.v (.int .i64 c0Room), .ro .int c0Keys, .ro .bool c0Used, .v (.int .i64 c0Hand)]] kk
theorem g_impl_nextPlace (c0Room : Int) (c0Keys : List Int) (c0Used : List Bool) (c0Hand : Int) (kk : AV → List A1 → Prop) :
    ev TT cs_impl_nextPlace 10 an_impl_nextPlace (Try.f72.body.getD .skip) (st0 con_impl_nextPlace [.agg [.v (.int .i64 c0Room), .ro .int c0Keys, .ro .bool c0Used, .v (.int .i64 c0Hand)]]) (fin TT con_impl_nextPlace Try.f72.results.toList [.c .sc] [.agg [.v (.int .i64 c0Room), .ro .int c0Keys, .ro .bool c0Used, .v (.int .i64 c0Hand)]] kk) = G_impl_nextPlace c0Room c0Keys c0Used c0Hand (fun r0 => kk (.one (.c (.v (.int .i64 r0)))) []) := by kernel_rfl
theorem e_impl_nextPlace (c0Room : Int) (c0Keys : List Int) (c0Used : List Bool) (c0Hand : Int) (kk : AV → List A1 → Prop) :
    ev TT cs_impl_nextPlace 10 an_impl_nextPlace (Try.f72.body.getD .skip) (st0 con_impl_nextPlace [.agg [.v (.int .i64 c0Room), .ro .int c0Keys, .ro .bool c0Used, .v (.int .i64 c0Hand)]]) (fin TT con_impl_nextPlace Try.f72.results.toList [.c .sc] [.agg [.v (.int .i64 c0Room), .ro .int c0Keys, .ro .bool c0Used, .v (.int .i64 c0Hand)]] kk) = S_impl_nextPlace c0Room c0Keys c0Used c0Hand (fun r0 => kk (.one (.c (.v (.int .i64 r0)))) []) := by
  rw [g_impl_nextPlace]
  rfl
theorem clok_impl_nextPlace : ConOK Try.prog cl_impl_nextPlace := consNil
theorem cok_impl_nextPlace : ConsOK Try.prog 10 cs_impl_nextPlace := ⟨clok_impl_nextPlace, inlNil⟩
theorem i_impl_nextPlace {vs : List A1} {kk : AV → List A1 → Prop} {motive : List A1 → Prop} (h : con_impl_nextPlace.F vs kk) (H : ∀ (c0Room : Int) (c0Keys : List Int) (c0Used : List Bool) (c0Hand : Int), F_impl_nextPlace c0Room c0Keys c0Used c0Hand (fun r0 => kk (.one (.c (.v (.int .i64 r0)))) []) → motive [.agg [.v (.int .i64 c0Room), .ro .int c0Keys, .ro .bool c0Used, .v (.int .i64 c0Hand)]]) : motive vs := by
  unfold con_impl_nextPlace at h
  dsimp only at h
  split at h
  · exact H _ _ _ _ h
  · exact h.elim
theorem h_impl_nextPlace : Holds Try.prog 72 con_impl_nextPlace := by
  refine holds_of_ev (rt := [.c .sc]) (T := TT) (Γ := cs_impl_nextPlace) (an := an_impl_nextPlace) (N := 10) (c := Try.f72.body.getD .skip) Try.func72 (by kernel_rfl) Try.ntmps72 (by decide) (by decide) mixed tabOK cok_impl_nextPlace (by kernel_rfl) ?_
  intro vs kk _ hF
  exact i_impl_nextPlace (motive := fun vs => Goes (ev TT cs_impl_nextPlace 10 an_impl_nextPlace (Try.f72.body.getD .skip) (st0 con_impl_nextPlace vs) (fin TT con_impl_nextPlace Try.f72.results.toList [.c .sc] vs kk))) hF (fun c0Room c0Keys c0Used c0Hand hF => goes_of (e_impl_nextPlace c0Room c0Keys c0Used c0Hand kk) (F_impl_nextPlace_S hF))
def con_impl_UseClock : Con := ⟨[.rd, .rd], true, [.agg [.sc, .sl .int, .sl .bool, .sc], .c (.sc)], fun vs k => match vs with
    | [.agg [.v (.int .i64 c0Room), .ro .int c0Keys, .ro .bool c0Used, .v (.int .i64 c0Hand)], .c (.v (.int .i64 key1))] => F_impl_UseClock c0Room c0Keys c0Used c0Hand key1 (fun r0 r1 r2 r3 r4 => k (.tup [.agg [.v (.int .i64 r0), .ro .int r1, .ro .bool r2, .v (.int .i64 r3)], .c (.v (.bool r4))]) [])
    | _ => False, false⟩
def cl_impl_UseClock : List (FuncId × Con) := [(60, con_impl_validKey), (70, con_impl_ValidClock), (71, con_slices_Index_sint_int), (72, con_impl_nextPlace)]
def nm0_impl_UseClock : List NStep := [.keep [1, 4, 6] [64, 96, 352, 416]]
def an_impl_UseClock : Ann := ⟨[(3, .take 0 (.take 1 (.take 3 (.take 4 (.take 7 (.take 8 (.take 10 (.take 11 (.alt 2 (.alt 5 (.alt 6 (.alt 9 (.take 12 (.alt 13 (.alt 14 (.done) (.none)) (.none))) (.alt 13 (.alt 9 (.take 12 (.alt 14 (.done) (.none))) (.none)) (.none))) (.alt 13 (.alt 6 (.alt 9 (.take 12 (.alt 14 (.done) (.none))) (.none)) (.none)) (.none))) (.alt 6 (.alt 5 (.alt 9 (.take 12 (.alt 13 (.alt 14 (.done) (.none)) (.none))) (.alt 13 (.alt 9 (.take 12 (.alt 14 (.done) (.none))) (.none)) (.none))) (.alt 13 (.alt 5 (.alt 9 (.take 12 (.alt 14 (.done) (.none))) (.none)) (.none)) (.none))) (.alt 13 (.alt 5 (.alt 6 (.alt 9 (.take 12 (.alt 14 (.done) (.none))) (.none)) (.none)) (.alt 6 (.alt 5 (.alt 9 (.take 12 (.alt 14 (.done) (.none))) (.none)) (.none)) (.none))) (.none)))) (.alt 6 (.alt 2 (.alt 5 (.alt 9 (.take 12 (.alt 13 (.alt 14 (.done) (.none)) (.none))) (.alt 13 (.alt 9 (.take 12 (.alt 14 (.done) (.none))) (.none)) (.none))) (.alt 13 (.alt 5 (.alt 9 (.take 12 (.alt 14 (.done) (.none))) (.none)) (.none)) (.none))) (.alt 13 (.alt 2 (.alt 5 (.alt 9 (.take 12 (.alt 14 (.done) (.none))) (.none)) (.none)) (.none)) (.none))) (.alt 13 (.alt 2 (.alt 5 (.alt 6 (.alt 9 (.take 12 (.alt 14 (.done) (.none))) (.none)) (.none)) (.alt 6 (.alt 5 (.alt 9 (.take 12 (.alt 14 (.done) (.none))) (.none)) (.none)) (.none))) (.alt 6 (.alt 2 (.alt 5 (.alt 9 (.take 12 (.alt 14 (.done) (.none))) (.none)) (.none)) (.none)) (.none))) (.none))))))))))), [32])], [(12, nm0_impl_UseClock)], []⟩
def cs_impl_UseClock : Cons := ⟨cl_impl_UseClock, [], 0, [], []⟩
def can0_impl_UseClock (c0Keys : List Int) (c0Room : Int) (key1 : Int) (xb6c3 : Int) (xy26 : List Bool) : St := ⟨[(1, .one (.c (.v (.int .i64 key1)))), (4, .one (.c (.pb 64 0))), (6, .one (.c (.pb 96 0)))], [(64, .box [.v (.int .i64 0), .nil, .nil, .v (.int .i64 0)]), (96, .box [.v (.int .i64 c0Room), .ow 352, .ow 416, .v (.int .i64 xb6c3)]), (352, .row .int c0Keys), (416, .row .bool xy26)]⟩
def fin_impl_UseClock (c0Room : Int) (c0Keys : List Int) (c0Used : List Bool) (c0Hand : Int) (key1 : Int) (kk : AV → List A1 → Prop) : Kt := fin TT con_impl_UseClock Try.f41.results.toList [.agg [.sc, .sl .int, .sl .bool, .sc], .c .sc] [.agg [.v (.int .i64 c0Room), .ro .int c0Keys, .ro .bool c0Used, .v (.int .i64 c0Hand)], .c (.v (.int .i64 key1))] kk
def kt0_impl_UseClock (kf : Kt) : Kt := blockK 0 (seqK (evF TT cs_impl_UseClock 83 an_impl_UseClock Try.f41 [1, 1, 1, 1, 1, 1]) (kf))
theorem r0_impl_UseClock (c0Room : Int) (c0Keys : List Int) (c0Used : List Bool) (c0Hand : Int) (key1 : Int) (kk : AV → List A1 → Prop) (n : Nat) (xb6c3 : Int) (xy26 : List Bool) :
    iter (evF TT cs_impl_UseClock 83 an_impl_UseClock Try.f41 [1, 1, 1, 1, 1, 0, 0, 0]) nm0_impl_UseClock (kt0_impl_UseClock (fin_impl_UseClock c0Room c0Keys c0Used c0Hand key1 kk)) (n + 1) (can0_impl_UseClock c0Keys c0Room key1 xb6c3 xy26) = T0_impl_UseClock c0Keys c0Room key1 xb6c3 xy26 (fun r0 r1 r2 r3 r4 => kk (.tup [.agg [.v (.int .i64 r0), .ro .int r1, .ro .bool r2, .v (.int .i64 r3)], .c (.v (.bool r4))]) []) (fun xb6c3 xy26 => iter (evF TT cs_impl_UseClock 83 an_impl_UseClock Try.f41 [1, 1, 1, 1, 1, 0, 0, 0]) nm0_impl_UseClock (kt0_impl_UseClock (fin_impl_UseClock c0Room c0Keys c0Used c0Hand key1 kk)) n (can0_impl_UseClock c0Keys c0Room key1 xb6c3 xy26)) := by kernel_rfl
theorem l0_impl_UseClock (c0Room : Int) (c0Keys : List Int) (c0Used : List Bool) (c0Hand : Int) (key1 : Int) (kk : AV → List A1 → Prop) : ∀ (n : Nat) (xb6c3 : Int) (xy26 : List Bool), iter (evF TT cs_impl_UseClock 83 an_impl_UseClock Try.f41 [1, 1, 1, 1, 1, 0, 0, 0]) nm0_impl_UseClock (kt0_impl_UseClock (fin_impl_UseClock c0Room c0Keys c0Used c0Hand key1 kk)) n (can0_impl_UseClock c0Keys c0Room key1 xb6c3 xy26) = L0_impl_UseClock c0Keys c0Room key1 (fun r0 r1 r2 r3 r4 => kk (.tup [.agg [.v (.int .i64 r0), .ro .int r1, .ro .bool r2, .v (.int .i64 r3)], .c (.v (.bool r4))]) []) n xb6c3 xy26 := by
  intro n
  induction n with
  | zero => intros; rfl
  | succ n ih =>
    intro xb6c3 xy26
    rw [r0_impl_UseClock c0Room c0Keys c0Used c0Hand key1 kk n xb6c3 xy26]
    have hb : (fun xb6c3 xy26 => iter (evF TT cs_impl_UseClock 83 an_impl_UseClock Try.f41 [1, 1, 1, 1, 1, 0, 0, 0]) nm0_impl_UseClock (kt0_impl_UseClock (fin_impl_UseClock c0Room c0Keys c0Used c0Hand key1 kk)) n (can0_impl_UseClock c0Keys c0Room key1 xb6c3 xy26)) = L0_impl_UseClock c0Keys c0Room key1 (fun r0 r1 r2 r3 r4 => kk (.tup [.agg [.v (.int .i64 r0), .ro .int r1, .ro .bool r2, .v (.int .i64 r3)], .c (.v (.bool r4))]) []) n := by
      funext xb6c3 xy26; exact ih xb6c3 xy26
    rw [hb]
    rfl
theorem g_impl_UseClock (c0Room : Int) (c0Keys : List Int) (c0Used : List Bool) (c0Hand : Int) (key1 : Int) (kk : AV → List A1 → Prop) :
    ev TT cs_impl_UseClock 83 an_impl_UseClock (Try.f41.body.getD .skip) (st0 con_impl_UseClock [.agg [.v (.int .i64 c0Room), .ro .int c0Keys, .ro .bool c0Used, .v (.int .i64 c0Hand)], .c (.v (.int .i64 key1))]) (fin TT con_impl_UseClock Try.f41.results.toList [.agg [.sc, .sl .int, .sl .bool, .sc], .c .sc] [.agg [.v (.int .i64 c0Room), .ro .int c0Keys, .ro .bool c0Used, .v (.int .i64 c0Hand)], .c (.v (.int .i64 key1))] kk) = G_impl_UseClock c0Room c0Keys c0Used c0Hand key1 (fun r0 r1 r2 r3 r4 => kk (.tup [.agg [.v (.int .i64 r0), .ro .int r1, .ro .bool r2, .v (.int .i64 r3)], .c (.v (.bool r4))]) []) (fun c0Keys c0Room key1 xb6c3 xy26 => ∃ j, iter (evF TT cs_impl_UseClock 83 an_impl_UseClock Try.f41 [1, 1, 1, 1, 1, 0, 0, 0]) nm0_impl_UseClock (kt0_impl_UseClock (fin_impl_UseClock c0Room c0Keys c0Used c0Hand key1 kk)) j (can0_impl_UseClock c0Keys c0Room key1 xb6c3 xy26)) := by kernel_rfl
theorem e_impl_UseClock (c0Room : Int) (c0Keys : List Int) (c0Used : List Bool) (c0Hand : Int) (key1 : Int) (kk : AV → List A1 → Prop) :
    ev TT cs_impl_UseClock 83 an_impl_UseClock (Try.f41.body.getD .skip) (st0 con_impl_UseClock [.agg [.v (.int .i64 c0Room), .ro .int c0Keys, .ro .bool c0Used, .v (.int .i64 c0Hand)], .c (.v (.int .i64 key1))]) (fin TT con_impl_UseClock Try.f41.results.toList [.agg [.sc, .sl .int, .sl .bool, .sc], .c .sc] [.agg [.v (.int .i64 c0Room), .ro .int c0Keys, .ro .bool c0Used, .v (.int .i64 c0Hand)], .c (.v (.int .i64 key1))] kk) = S_impl_UseClock c0Room c0Keys c0Used c0Hand key1 (fun r0 r1 r2 r3 r4 => kk (.tup [.agg [.v (.int .i64 r0), .ro .int r1, .ro .bool r2, .v (.int .i64 r3)], .c (.v (.bool r4))]) []) := by
  rw [g_impl_UseClock]
  have hi0 : (fun c0Keys c0Room key1 xb6c3 xy26 => ∃ j, iter (evF TT cs_impl_UseClock 83 an_impl_UseClock Try.f41 [1, 1, 1, 1, 1, 0, 0, 0]) nm0_impl_UseClock (kt0_impl_UseClock (fin_impl_UseClock c0Room c0Keys c0Used c0Hand key1 kk)) j (can0_impl_UseClock c0Keys c0Room key1 xb6c3 xy26)) = (fun c0Keys c0Room key1 xb6c3 xy26 => ∃ j, L0_impl_UseClock c0Keys c0Room key1 (fun r0 r1 r2 r3 r4 => kk (.tup [.agg [.v (.int .i64 r0), .ro .int r1, .ro .bool r2, .v (.int .i64 r3)], .c (.v (.bool r4))]) []) j xb6c3 xy26) := by
    funext c0Keys c0Room key1 xb6c3 xy26
    refine congrArg Exists (funext fun j => ?_)
    rw [l0_impl_UseClock c0Room c0Keys c0Used c0Hand key1 kk j xb6c3 xy26]
  rw [hi0]
  rw [G_impl_UseClock_eq]
  rfl
theorem clok_impl_UseClock : ConOK Try.prog cl_impl_UseClock := consCons h_impl_validKey ⟨Try.f60, Try.func60, by kernel_rfl, ne_of_beq (by kernel_rfl)⟩ (consCons h_impl_ValidClock ⟨Try.f70, Try.func70, by kernel_rfl, ne_of_beq (by kernel_rfl)⟩ (consCons h_slices_Index_sint_int ⟨Try.f71, Try.func71, by kernel_rfl, ne_of_beq (by kernel_rfl)⟩ (consCons h_impl_nextPlace ⟨Try.f72, Try.func72, by kernel_rfl, ne_of_beq (by kernel_rfl)⟩ (consNil))))
theorem cok_impl_UseClock : ConsOK Try.prog 83 cs_impl_UseClock := ⟨clok_impl_UseClock, inlNil⟩
theorem i_impl_UseClock {vs : List A1} {kk : AV → List A1 → Prop} {motive : List A1 → Prop} (h : con_impl_UseClock.F vs kk) (H : ∀ (c0Room : Int) (c0Keys : List Int) (c0Used : List Bool) (c0Hand : Int) (key1 : Int), F_impl_UseClock c0Room c0Keys c0Used c0Hand key1 (fun r0 r1 r2 r3 r4 => kk (.tup [.agg [.v (.int .i64 r0), .ro .int r1, .ro .bool r2, .v (.int .i64 r3)], .c (.v (.bool r4))]) []) → motive [.agg [.v (.int .i64 c0Room), .ro .int c0Keys, .ro .bool c0Used, .v (.int .i64 c0Hand)], .c (.v (.int .i64 key1))]) : motive vs := by
  unfold con_impl_UseClock at h
  dsimp only at h
  split at h
  · exact H _ _ _ _ _ h
  · exact h.elim
theorem h_impl_UseClock : Holds Try.prog 41 con_impl_UseClock := by
  refine holds_of_ev (rt := [.agg [.sc, .sl .int, .sl .bool, .sc], .c .sc]) (T := TT) (Γ := cs_impl_UseClock) (an := an_impl_UseClock) (N := 83) (c := Try.f41.body.getD .skip) Try.func41 (by kernel_rfl) Try.ntmps41 (by decide) (by decide) mixed tabOK cok_impl_UseClock (by kernel_rfl) ?_
  intro vs kk _ hF
  exact i_impl_UseClock (motive := fun vs => Goes (ev TT cs_impl_UseClock 83 an_impl_UseClock (Try.f41.body.getD .skip) (st0 con_impl_UseClock vs) (fin TT con_impl_UseClock Try.f41.results.toList [.agg [.sc, .sl .int, .sl .bool, .sc], .c .sc] vs kk))) hF (fun c0Room c0Keys c0Used c0Hand key1 hF => goes_of (e_impl_UseClock c0Room c0Keys c0Used c0Hand key1 kk) (F_impl_UseClock_S hF))
def con_spec_inRange : Con := ⟨[.rd, .rd, .rd], true, [.c (.sc), .c (.sc), .c (.sc)], fun vs k => match vs with
    | [.c (.v (.int .i64 n0)), .c (.v (.int .i64 low1)), .c (.v (.int .i64 high2))] => F_spec_inRange n0 low1 high2 (fun r0 => k (.one (.c (.v (.bool r0)))) [])
    | _ => False, false⟩
def cl_spec_inRange : List (FuncId × Con) := []
def an_spec_inRange : Ann := ⟨[], [], []⟩
def cs_spec_inRange : Cons := ⟨cl_spec_inRange, [], 0, [], []⟩
def fin_spec_inRange (n0 : Int) (low1 : Int) (high2 : Int) (kk : AV → List A1 → Prop) : Kt := fin TT con_spec_inRange Try.f49.results.toList [.c .sc] [.c (.v (.int .i64 n0)), .c (.v (.int .i64 low1)), .c (.v (.int .i64 high2))] kk
theorem g_spec_inRange (n0 : Int) (low1 : Int) (high2 : Int) (kk : AV → List A1 → Prop) :
    ev TT cs_spec_inRange 15 an_spec_inRange (Try.f49.body.getD .skip) (st0 con_spec_inRange [.c (.v (.int .i64 n0)), .c (.v (.int .i64 low1)), .c (.v (.int .i64 high2))]) (fin TT con_spec_inRange Try.f49.results.toList [.c .sc] [.c (.v (.int .i64 n0)), .c (.v (.int .i64 low1)), .c (.v (.int .i64 high2))] kk) = G_spec_inRange n0 low1 high2 (fun r0 => kk (.one (.c (.v (.bool r0)))) []) := by kernel_rfl
theorem e_spec_inRange (n0 : Int) (low1 : Int) (high2 : Int) (kk : AV → List A1 → Prop) :
    ev TT cs_spec_inRange 15 an_spec_inRange (Try.f49.body.getD .skip) (st0 con_spec_inRange [.c (.v (.int .i64 n0)), .c (.v (.int .i64 low1)), .c (.v (.int .i64 high2))]) (fin TT con_spec_inRange Try.f49.results.toList [.c .sc] [.c (.v (.int .i64 n0)), .c (.v (.int .i64 low1)), .c (.v (.int .i64 high2))] kk) = S_spec_inRange n0 low1 high2 (fun r0 => kk (.one (.c (.v (.bool r0)))) []) := by
  rw [g_spec_inRange]
  rfl
theorem clok_spec_inRange : ConOK Try.prog cl_spec_inRange := consNil
theorem cok_spec_inRange : ConsOK Try.prog 15 cs_spec_inRange := ⟨clok_spec_inRange, inlNil⟩
theorem i_spec_inRange {vs : List A1} {kk : AV → List A1 → Prop} {motive : List A1 → Prop} (h : con_spec_inRange.F vs kk) (H : ∀ (n0 : Int) (low1 : Int) (high2 : Int), F_spec_inRange n0 low1 high2 (fun r0 => kk (.one (.c (.v (.bool r0)))) []) → motive [.c (.v (.int .i64 n0)), .c (.v (.int .i64 low1)), .c (.v (.int .i64 high2))]) : motive vs := by
  unfold con_spec_inRange at h
  dsimp only at h
  split at h
  · exact H _ _ _ h
  · exact h.elim
theorem h_spec_inRange : Holds Try.prog 49 con_spec_inRange := by
  refine holds_of_ev (rt := [.c .sc]) (T := TT) (Γ := cs_spec_inRange) (an := an_spec_inRange) (N := 15) (c := Try.f49.body.getD .skip) Try.func49 (by kernel_rfl) Try.ntmps49 (by decide) (by decide) mixed tabOK cok_spec_inRange (by kernel_rfl) ?_
  intro vs kk _ hF
  exact i_spec_inRange (motive := fun vs => Goes (ev TT cs_spec_inRange 15 an_spec_inRange (Try.f49.body.getD .skip) (st0 con_spec_inRange vs) (fin TT con_spec_inRange Try.f49.results.toList [.c .sc] vs kk))) hF (fun n0 low1 high2 hF => goes_of (e_spec_inRange n0 low1 high2 kk) (F_spec_inRange_S hF))
def con_spec_allIn : Con := ⟨[.rd, .rd, .rd], true, [.c (.sl .int), .c (.sc), .c (.sc)], fun vs k => match vs with
    | [.c (.ro .int list0), .c (.v (.int .i64 low1)), .c (.v (.int .i64 high2))] => F_spec_allIn list0 low1 high2 (fun r0 => k (.one (.c (.v (.bool r0)))) [])
    | _ => False, false⟩
def cl_spec_allIn : List (FuncId × Con) := [(49, con_spec_inRange)]
def nm0_spec_allIn : List NStep := [.keep [0, 1, 2, 7] []]
def an_spec_allIn : Ann := ⟨[], [(2, nm0_spec_allIn)], []⟩
def cs_spec_allIn : Cons := ⟨cl_spec_allIn, [], 0, [], []⟩
def can0_spec_allIn (high2 : Int) (list0 : List Int) (low1 : Int) (xi7 : Int) : St := ⟨[(0, .one (.c (.ro .int list0))), (1, .one (.c (.v (.int .i64 low1)))), (2, .one (.c (.v (.int .i64 high2)))), (7, .one (.c (.v (.int .i64 xi7))))], []⟩
def fin_spec_allIn (list0 : List Int) (low1 : Int) (high2 : Int) (kk : AV → List A1 → Prop) : Kt := fin TT con_spec_allIn Try.f76.results.toList [.c .sc] [.c (.ro .int list0), .c (.v (.int .i64 low1)), .c (.v (.int .i64 high2))] kk
def kt0_spec_allIn (kf : Kt) : Kt := blockK 0 (seqK (evF TT cs_spec_allIn 22 an_spec_allIn Try.f76 [1, 1]) (kf))
theorem r0_spec_allIn (list0 : List Int) (low1 : Int) (high2 : Int) (kk : AV → List A1 → Prop) (n : Nat) (xi7 : Int) :
    iter (evF TT cs_spec_allIn 22 an_spec_allIn Try.f76 [1, 0, 1, 0, 0]) nm0_spec_allIn (kt0_spec_allIn (fin_spec_allIn list0 low1 high2 kk)) (n + 1) (can0_spec_allIn high2 list0 low1 xi7) = T0_spec_allIn high2 list0 low1 xi7 (fun r0 => kk (.one (.c (.v (.bool r0)))) []) (fun xi7 => iter (evF TT cs_spec_allIn 22 an_spec_allIn Try.f76 [1, 0, 1, 0, 0]) nm0_spec_allIn (kt0_spec_allIn (fin_spec_allIn list0 low1 high2 kk)) n (can0_spec_allIn high2 list0 low1 xi7)) := by kernel_rfl
theorem l0_spec_allIn (list0 : List Int) (low1 : Int) (high2 : Int) (kk : AV → List A1 → Prop) : ∀ (n : Nat) (xi7 : Int), iter (evF TT cs_spec_allIn 22 an_spec_allIn Try.f76 [1, 0, 1, 0, 0]) nm0_spec_allIn (kt0_spec_allIn (fin_spec_allIn list0 low1 high2 kk)) n (can0_spec_allIn high2 list0 low1 xi7) = L0_spec_allIn high2 list0 low1 (fun r0 => kk (.one (.c (.v (.bool r0)))) []) n xi7 := by
  intro n
  induction n with
  | zero => intros; rfl
  | succ n ih =>
    intro xi7
    rw [r0_spec_allIn list0 low1 high2 kk n xi7]
    have hb : (fun xi7 => iter (evF TT cs_spec_allIn 22 an_spec_allIn Try.f76 [1, 0, 1, 0, 0]) nm0_spec_allIn (kt0_spec_allIn (fin_spec_allIn list0 low1 high2 kk)) n (can0_spec_allIn high2 list0 low1 xi7)) = L0_spec_allIn high2 list0 low1 (fun r0 => kk (.one (.c (.v (.bool r0)))) []) n := by
      funext xi7; exact ih xi7
    rw [hb]
    rfl
theorem g_spec_allIn (list0 : List Int) (low1 : Int) (high2 : Int) (kk : AV → List A1 → Prop) :
    ev TT cs_spec_allIn 22 an_spec_allIn (Try.f76.body.getD .skip) (st0 con_spec_allIn [.c (.ro .int list0), .c (.v (.int .i64 low1)), .c (.v (.int .i64 high2))]) (fin TT con_spec_allIn Try.f76.results.toList [.c .sc] [.c (.ro .int list0), .c (.v (.int .i64 low1)), .c (.v (.int .i64 high2))] kk) = G_spec_allIn list0 low1 high2 (fun high2 list0 low1 xi7 => ∃ j, iter (evF TT cs_spec_allIn 22 an_spec_allIn Try.f76 [1, 0, 1, 0, 0]) nm0_spec_allIn (kt0_spec_allIn (fin_spec_allIn list0 low1 high2 kk)) j (can0_spec_allIn high2 list0 low1 xi7)) := by kernel_rfl
theorem e_spec_allIn (list0 : List Int) (low1 : Int) (high2 : Int) (kk : AV → List A1 → Prop) :
    ev TT cs_spec_allIn 22 an_spec_allIn (Try.f76.body.getD .skip) (st0 con_spec_allIn [.c (.ro .int list0), .c (.v (.int .i64 low1)), .c (.v (.int .i64 high2))]) (fin TT con_spec_allIn Try.f76.results.toList [.c .sc] [.c (.ro .int list0), .c (.v (.int .i64 low1)), .c (.v (.int .i64 high2))] kk) = S_spec_allIn list0 low1 high2 (fun r0 => kk (.one (.c (.v (.bool r0)))) []) := by
  rw [g_spec_allIn]
  have hi0 : (fun high2 list0 low1 xi7 => ∃ j, iter (evF TT cs_spec_allIn 22 an_spec_allIn Try.f76 [1, 0, 1, 0, 0]) nm0_spec_allIn (kt0_spec_allIn (fin_spec_allIn list0 low1 high2 kk)) j (can0_spec_allIn high2 list0 low1 xi7)) = (fun high2 list0 low1 xi7 => ∃ j, L0_spec_allIn high2 list0 low1 (fun r0 => kk (.one (.c (.v (.bool r0)))) []) j xi7) := by
    funext high2 list0 low1 xi7
    refine congrArg Exists (funext fun j => ?_)
    rw [l0_spec_allIn list0 low1 high2 kk j xi7]
  rw [hi0]
  rfl
theorem clok_spec_allIn : ConOK Try.prog cl_spec_allIn := consCons h_spec_inRange ⟨Try.f49, Try.func49, by kernel_rfl, ne_of_beq (by kernel_rfl)⟩ (consNil)
theorem cok_spec_allIn : ConsOK Try.prog 22 cs_spec_allIn := ⟨clok_spec_allIn, inlNil⟩
theorem i_spec_allIn {vs : List A1} {kk : AV → List A1 → Prop} {motive : List A1 → Prop} (h : con_spec_allIn.F vs kk) (H : ∀ (list0 : List Int) (low1 : Int) (high2 : Int), F_spec_allIn list0 low1 high2 (fun r0 => kk (.one (.c (.v (.bool r0)))) []) → motive [.c (.ro .int list0), .c (.v (.int .i64 low1)), .c (.v (.int .i64 high2))]) : motive vs := by
  unfold con_spec_allIn at h
  dsimp only at h
  split at h
  · exact H _ _ _ h
  · exact h.elim
theorem h_spec_allIn : Holds Try.prog 76 con_spec_allIn := by
  refine holds_of_ev (rt := [.c .sc]) (T := TT) (Γ := cs_spec_allIn) (an := an_spec_allIn) (N := 22) (c := Try.f76.body.getD .skip) Try.func76 (by kernel_rfl) Try.ntmps76 (by decide) (by decide) mixed tabOK cok_spec_allIn (by kernel_rfl) ?_
  intro vs kk _ hF
  exact i_spec_allIn (motive := fun vs => Goes (ev TT cs_spec_allIn 22 an_spec_allIn (Try.f76.body.getD .skip) (st0 con_spec_allIn vs) (fin TT con_spec_allIn Try.f76.results.toList [.c .sc] vs kk))) hF (fun list0 low1 high2 hF => goes_of (e_spec_allIn list0 low1 high2 kk) (F_spec_allIn_S hF))
def con_spec_distinct : Con := ⟨[.rd], true, [.c (.sl .int)], fun vs k => match vs with
    | [.c (.ro .int list0)] => F_spec_distinct list0 (fun r0 => k (.one (.c (.v (.bool r0)))) [])
    | _ => False, false⟩
def cl_spec_distinct : List (FuncId × Con) := [(51, con_spec_placeOf)]
def nm0_spec_distinct : List NStep := [.keep [0, 3] []]
def an_spec_distinct : Ann := ⟨[], [(2, nm0_spec_distinct)], []⟩
def cs_spec_distinct : Cons := ⟨cl_spec_distinct, [], 0, [], []⟩
def can0_spec_distinct (list0 : List Int) (xi3 : Int) : St := ⟨[(0, .one (.c (.ro .int list0))), (3, .one (.c (.v (.int .i64 xi3))))], []⟩
def fin_spec_distinct (list0 : List Int) (kk : AV → List A1 → Prop) : Kt := fin TT con_spec_distinct Try.f84.results.toList [.c .sc] [.c (.ro .int list0)] kk
def kt0_spec_distinct (kf : Kt) : Kt := blockK 0 (seqK (evF TT cs_spec_distinct 18 an_spec_distinct Try.f84 [1, 1]) (kf))
theorem r0_spec_distinct (list0 : List Int) (kk : AV → List A1 → Prop) (n : Nat) (xi3 : Int) :
    iter (evF TT cs_spec_distinct 18 an_spec_distinct Try.f84 [1, 0, 1, 0, 0]) nm0_spec_distinct (kt0_spec_distinct (fin_spec_distinct list0 kk)) (n + 1) (can0_spec_distinct list0 xi3) = T0_spec_distinct list0 xi3 (fun r0 => kk (.one (.c (.v (.bool r0)))) []) (fun xi3 => iter (evF TT cs_spec_distinct 18 an_spec_distinct Try.f84 [1, 0, 1, 0, 0]) nm0_spec_distinct (kt0_spec_distinct (fin_spec_distinct list0 kk)) n (can0_spec_distinct list0 xi3)) := by kernel_rfl
theorem l0_spec_distinct (list0 : List Int) (kk : AV → List A1 → Prop) : ∀ (n : Nat) (xi3 : Int), iter (evF TT cs_spec_distinct 18 an_spec_distinct Try.f84 [1, 0, 1, 0, 0]) nm0_spec_distinct (kt0_spec_distinct (fin_spec_distinct list0 kk)) n (can0_spec_distinct list0 xi3) = L0_spec_distinct list0 (fun r0 => kk (.one (.c (.v (.bool r0)))) []) n xi3 := by
  intro n
  induction n with
  | zero => intros; rfl
  | succ n ih =>
    intro xi3
    rw [r0_spec_distinct list0 kk n xi3]
    have hb : (fun xi3 => iter (evF TT cs_spec_distinct 18 an_spec_distinct Try.f84 [1, 0, 1, 0, 0]) nm0_spec_distinct (kt0_spec_distinct (fin_spec_distinct list0 kk)) n (can0_spec_distinct list0 xi3)) = L0_spec_distinct list0 (fun r0 => kk (.one (.c (.v (.bool r0)))) []) n := by
      funext xi3; exact ih xi3
    rw [hb]
    rfl
theorem g_spec_distinct (list0 : List Int) (kk : AV → List A1 → Prop) :
    ev TT cs_spec_distinct 18 an_spec_distinct (Try.f84.body.getD .skip) (st0 con_spec_distinct [.c (.ro .int list0)]) (fin TT con_spec_distinct Try.f84.results.toList [.c .sc] [.c (.ro .int list0)] kk) = G_spec_distinct list0 (fun list0 xi3 => ∃ j, iter (evF TT cs_spec_distinct 18 an_spec_distinct Try.f84 [1, 0, 1, 0, 0]) nm0_spec_distinct (kt0_spec_distinct (fin_spec_distinct list0 kk)) j (can0_spec_distinct list0 xi3)) := by kernel_rfl
theorem e_spec_distinct (list0 : List Int) (kk : AV → List A1 → Prop) :
    ev TT cs_spec_distinct 18 an_spec_distinct (Try.f84.body.getD .skip) (st0 con_spec_distinct [.c (.ro .int list0)]) (fin TT con_spec_distinct Try.f84.results.toList [.c .sc] [.c (.ro .int list0)] kk) = S_spec_distinct list0 (fun r0 => kk (.one (.c (.v (.bool r0)))) []) := by
  rw [g_spec_distinct]
  have hi0 : (fun list0 xi3 => ∃ j, iter (evF TT cs_spec_distinct 18 an_spec_distinct Try.f84 [1, 0, 1, 0, 0]) nm0_spec_distinct (kt0_spec_distinct (fin_spec_distinct list0 kk)) j (can0_spec_distinct list0 xi3)) = (fun list0 xi3 => ∃ j, L0_spec_distinct list0 (fun r0 => kk (.one (.c (.v (.bool r0)))) []) j xi3) := by
    funext list0 xi3
    refine congrArg Exists (funext fun j => ?_)
    rw [l0_spec_distinct list0 kk j xi3]
  rw [hi0]
  rfl
theorem clok_spec_distinct : ConOK Try.prog cl_spec_distinct := consCons h_spec_placeOf ⟨Try.f51, Try.func51, by kernel_rfl, ne_of_beq (by kernel_rfl)⟩ (consNil)
theorem cok_spec_distinct : ConsOK Try.prog 18 cs_spec_distinct := ⟨clok_spec_distinct, inlNil⟩
theorem i_spec_distinct {vs : List A1} {kk : AV → List A1 → Prop} {motive : List A1 → Prop} (h : con_spec_distinct.F vs kk) (H : ∀ (list0 : List Int), F_spec_distinct list0 (fun r0 => kk (.one (.c (.v (.bool r0)))) []) → motive [.c (.ro .int list0)]) : motive vs := by
  unfold con_spec_distinct at h
  dsimp only at h
  split at h
  · exact H _ h
  · exact h.elim
theorem h_spec_distinct : Holds Try.prog 84 con_spec_distinct := by
  refine holds_of_ev (rt := [.c .sc]) (T := TT) (Γ := cs_spec_distinct) (an := an_spec_distinct) (N := 18) (c := Try.f84.body.getD .skip) Try.func84 (by kernel_rfl) Try.ntmps84 (by decide) (by decide) mixed tabOK cok_spec_distinct (by kernel_rfl) ?_
  intro vs kk _ hF
  exact i_spec_distinct (motive := fun vs => Goes (ev TT cs_spec_distinct 18 an_spec_distinct (Try.f84.body.getD .skip) (st0 con_spec_distinct vs) (fin TT con_spec_distinct Try.f84.results.toList [.c .sc] vs kk))) hF (fun list0 hF => goes_of (e_spec_distinct list0 kk) (F_spec_distinct_S hF))
def con_spec_validKeys : Con := ⟨[.rd, .rd], true, [.c (.sl .int), .c (.sc)], fun vs k => match vs with
    | [.c (.ro .int list0), .c (.v (.int .i64 room1))] => F_spec_validKeys list0 room1 (fun r0 => k (.one (.c (.v (.bool r0)))) [])
    | _ => False, false⟩
def cl_spec_validKeys : List (FuncId × Con) := [(49, con_spec_inRange), (76, con_spec_allIn), (84, con_spec_distinct)]
def an_spec_validKeys : Ann := ⟨[], [], []⟩
def cs_spec_validKeys : Cons := ⟨cl_spec_validKeys, [], 0, [], []⟩
def fin_spec_validKeys (list0 : List Int) (room1 : Int) (kk : AV → List A1 → Prop) : Kt := fin TT con_spec_validKeys Try.f83.results.toList [.c .sc] [.c (.ro .int list0), .c (.v (.int .i64 room1))] kk
theorem g_spec_validKeys (list0 : List Int) (room1 : Int) (kk : AV → List A1 → Prop) :
    ev TT cs_spec_validKeys 21 an_spec_validKeys (Try.f83.body.getD .skip) (st0 con_spec_validKeys [.c (.ro .int list0), .c (.v (.int .i64 room1))]) (fin TT con_spec_validKeys Try.f83.results.toList [.c .sc] [.c (.ro .int list0), .c (.v (.int .i64 room1))] kk) = G_spec_validKeys list0 room1 (fun r0 => kk (.one (.c (.v (.bool r0)))) []) := by kernel_rfl
theorem e_spec_validKeys (list0 : List Int) (room1 : Int) (kk : AV → List A1 → Prop) :
    ev TT cs_spec_validKeys 21 an_spec_validKeys (Try.f83.body.getD .skip) (st0 con_spec_validKeys [.c (.ro .int list0), .c (.v (.int .i64 room1))]) (fin TT con_spec_validKeys Try.f83.results.toList [.c .sc] [.c (.ro .int list0), .c (.v (.int .i64 room1))] kk) = S_spec_validKeys list0 room1 (fun r0 => kk (.one (.c (.v (.bool r0)))) []) := by
  rw [g_spec_validKeys]
  rfl
theorem clok_spec_validKeys : ConOK Try.prog cl_spec_validKeys := consCons h_spec_inRange ⟨Try.f49, Try.func49, by kernel_rfl, ne_of_beq (by kernel_rfl)⟩ (consCons h_spec_allIn ⟨Try.f76, Try.func76, by kernel_rfl, ne_of_beq (by kernel_rfl)⟩ (consCons h_spec_distinct ⟨Try.f84, Try.func84, by kernel_rfl, ne_of_beq (by kernel_rfl)⟩ (consNil)))
theorem cok_spec_validKeys : ConsOK Try.prog 21 cs_spec_validKeys := ⟨clok_spec_validKeys, inlNil⟩
theorem i_spec_validKeys {vs : List A1} {kk : AV → List A1 → Prop} {motive : List A1 → Prop} (h : con_spec_validKeys.F vs kk) (H : ∀ (list0 : List Int) (room1 : Int), F_spec_validKeys list0 room1 (fun r0 => kk (.one (.c (.v (.bool r0)))) []) → motive [.c (.ro .int list0), .c (.v (.int .i64 room1))]) : motive vs := by
  unfold con_spec_validKeys at h
  dsimp only at h
  split at h
  · exact H _ _ h
  · exact h.elim
theorem h_spec_validKeys : Holds Try.prog 83 con_spec_validKeys := by
  refine holds_of_ev (rt := [.c .sc]) (T := TT) (Γ := cs_spec_validKeys) (an := an_spec_validKeys) (N := 21) (c := Try.f83.body.getD .skip) Try.func83 (by kernel_rfl) Try.ntmps83 (by decide) (by decide) mixed tabOK cok_spec_validKeys (by kernel_rfl) ?_
  intro vs kk _ hF
  exact i_spec_validKeys (motive := fun vs => Goes (ev TT cs_spec_validKeys 21 an_spec_validKeys (Try.f83.body.getD .skip) (st0 con_spec_validKeys vs) (fin TT con_spec_validKeys Try.f83.results.toList [.c .sc] vs kk))) hF (fun list0 room1 hF => goes_of (e_spec_validKeys list0 room1 kk) (F_spec_validKeys_S hF))
def con_spec_validClock : Con := ⟨[.rd], true, [.agg [.sc, .sl .int, .sl .bool, .sc]], fun vs k => match vs with
    | [.agg [.v (.int .i64 c0Room), .ro .int c0Keys, .ro .bool c0Used, .v (.int .i64 c0Hand)]] => F_spec_validClock c0Room c0Keys c0Used c0Hand (fun r0 => k (.one (.c (.v (.bool r0)))) [])
    | _ => False, false⟩
def cl_spec_validClock : List (FuncId × Con) := [(49, con_spec_inRange), (83, con_spec_validKeys)]
def an_spec_validClock : Ann := ⟨[], [], []⟩
def cs_spec_validClock : Cons := ⟨cl_spec_validClock, [], 0, [], []⟩
def fin_spec_validClock (c0Room : Int) (c0Keys : List Int) (c0Used : List Bool) (c0Hand : Int) (kk : AV → List A1 → Prop) : Kt := fin TT con_spec_validClock Try.f73.results.toList [.c .sc] [.agg [.v (.int .i64 c0Room), .ro .int c0Keys, .ro .bool c0Used, .v (.int .i64 c0Hand)]] kk
theorem g_spec_validClock (c0Room : Int) (c0Keys : List Int) (c0Used : List Bool) (c0Hand : Int) (kk : AV → List A1 → Prop) :
    ev TT cs_spec_validClock 43 an_spec_validClock (Try.f73.body.getD .skip) (st0 con_spec_validClock [.agg [.v (.int .i64 c0Room), .ro .int c0Keys, .ro .bool c0Used, .v (.int .i64 c0Hand)]]) (fin TT con_spec_validClock Try.f73.results.toList [.c .sc] [.agg [.v (.int .i64 c0Room), .ro .int c0Keys, .ro .bool c0Used, .v (.int .i64 c0Hand)]] kk) = G_spec_validClock c0Room c0Keys c0Used c0Hand (fun r0 => kk (.one (.c (.v (.bool r0)))) []) := by kernel_rfl
theorem e_spec_validClock (c0Room : Int) (c0Keys : List Int) (c0Used : List Bool) (c0Hand : Int) (kk : AV → List A1 → Prop) :
    ev TT cs_spec_validClock 43 an_spec_validClock (Try.f73.body.getD .skip) (st0 con_spec_validClock [.agg [.v (.int .i64 c0Room), .ro .int c0Keys, .ro .bool c0Used, .v (.int .i64 c0Hand)]]) (fin TT con_spec_validClock Try.f73.results.toList [.c .sc] [.agg [.v (.int .i64 c0Room), .ro .int c0Keys, .ro .bool c0Used, .v (.int .i64 c0Hand)]] kk) = S_spec_validClock c0Room c0Keys c0Used c0Hand (fun r0 => kk (.one (.c (.v (.bool r0)))) []) := by
  rw [g_spec_validClock]
  rfl
theorem clok_spec_validClock : ConOK Try.prog cl_spec_validClock := consCons h_spec_inRange ⟨Try.f49, Try.func49, by kernel_rfl, ne_of_beq (by kernel_rfl)⟩ (consCons h_spec_validKeys ⟨Try.f83, Try.func83, by kernel_rfl, ne_of_beq (by kernel_rfl)⟩ (consNil))
theorem cok_spec_validClock : ConsOK Try.prog 43 cs_spec_validClock := ⟨clok_spec_validClock, inlNil⟩
theorem i_spec_validClock {vs : List A1} {kk : AV → List A1 → Prop} {motive : List A1 → Prop} (h : con_spec_validClock.F vs kk) (H : ∀ (c0Room : Int) (c0Keys : List Int) (c0Used : List Bool) (c0Hand : Int), F_spec_validClock c0Room c0Keys c0Used c0Hand (fun r0 => kk (.one (.c (.v (.bool r0)))) []) → motive [.agg [.v (.int .i64 c0Room), .ro .int c0Keys, .ro .bool c0Used, .v (.int .i64 c0Hand)]]) : motive vs := by
  unfold con_spec_validClock at h
  dsimp only at h
  split at h
  · exact H _ _ _ _ h
  · exact h.elim
theorem h_spec_validClock : Holds Try.prog 73 con_spec_validClock := by
  refine holds_of_ev (rt := [.c .sc]) (T := TT) (Γ := cs_spec_validClock) (an := an_spec_validClock) (N := 43) (c := Try.f73.body.getD .skip) Try.func73 (by kernel_rfl) Try.ntmps73 (by decide) (by decide) mixed tabOK cok_spec_validClock (by kernel_rfl) ?_
  intro vs kk _ hF
  exact i_spec_validClock (motive := fun vs => Goes (ev TT cs_spec_validClock 43 an_spec_validClock (Try.f73.body.getD .skip) (st0 con_spec_validClock vs) (fin TT con_spec_validClock Try.f73.results.toList [.c .sc] vs kk))) hF (fun c0Room c0Keys c0Used c0Hand hF => goes_of (e_spec_validClock c0Room c0Keys c0Used c0Hand kk) (F_spec_validClock_S hF))
def con_spec_UseClock : Con := ⟨[.rd, .rd], true, [.agg [.sc, .sl .int, .sl .bool, .sc], .c (.sc)], fun vs k => match vs with
    | [.agg [.v (.int .i64 c0Room), .ro .int c0Keys, .ro .bool c0Used, .v (.int .i64 c0Hand)], .c (.v (.int .i64 key1))] => F_spec_UseClock c0Room c0Keys c0Used c0Hand key1 (fun r0 r1 r2 r3 r4 => k (.tup [.agg [.v (.int .i64 r0), .ro .int r1, .ro .bool r2, .v (.int .i64 r3)], .c (.v (.bool r4))]) [])
    | _ => False, false⟩
def cl_spec_UseClock : List (FuncId × Con) := [(49, con_spec_inRange), (73, con_spec_validClock), (74, con_spec_tick)]
def an_spec_UseClock : Ann := ⟨[], [], []⟩
def cs_spec_UseClock : Cons := ⟨cl_spec_UseClock, [], 0, [], []⟩
def fin_spec_UseClock (c0Room : Int) (c0Keys : List Int) (c0Used : List Bool) (c0Hand : Int) (key1 : Int) (kk : AV → List A1 → Prop) : Kt := fin TT con_spec_UseClock Try.f42.results.toList [.agg [.sc, .sl .int, .sl .bool, .sc], .c .sc] [.agg [.v (.int .i64 c0Room), .ro .int c0Keys, .ro .bool c0Used, .v (.int .i64 c0Hand)], .c (.v (.int .i64 key1))] kk
theorem g_spec_UseClock (c0Room : Int) (c0Keys : List Int) (c0Used : List Bool) (c0Hand : Int) (key1 : Int) (kk : AV → List A1 → Prop) :
    ev TT cs_spec_UseClock 20 an_spec_UseClock (Try.f42.body.getD .skip) (st0 con_spec_UseClock [.agg [.v (.int .i64 c0Room), .ro .int c0Keys, .ro .bool c0Used, .v (.int .i64 c0Hand)], .c (.v (.int .i64 key1))]) (fin TT con_spec_UseClock Try.f42.results.toList [.agg [.sc, .sl .int, .sl .bool, .sc], .c .sc] [.agg [.v (.int .i64 c0Room), .ro .int c0Keys, .ro .bool c0Used, .v (.int .i64 c0Hand)], .c (.v (.int .i64 key1))] kk) = G_spec_UseClock c0Room c0Keys c0Used c0Hand key1 (fun r0 r1 r2 r3 r4 => kk (.tup [.agg [.v (.int .i64 r0), .ro .int r1, .ro .bool r2, .v (.int .i64 r3)], .c (.v (.bool r4))]) []) := by kernel_rfl
theorem e_spec_UseClock (c0Room : Int) (c0Keys : List Int) (c0Used : List Bool) (c0Hand : Int) (key1 : Int) (kk : AV → List A1 → Prop) :
    ev TT cs_spec_UseClock 20 an_spec_UseClock (Try.f42.body.getD .skip) (st0 con_spec_UseClock [.agg [.v (.int .i64 c0Room), .ro .int c0Keys, .ro .bool c0Used, .v (.int .i64 c0Hand)], .c (.v (.int .i64 key1))]) (fin TT con_spec_UseClock Try.f42.results.toList [.agg [.sc, .sl .int, .sl .bool, .sc], .c .sc] [.agg [.v (.int .i64 c0Room), .ro .int c0Keys, .ro .bool c0Used, .v (.int .i64 c0Hand)], .c (.v (.int .i64 key1))] kk) = S_spec_UseClock c0Room c0Keys c0Used c0Hand key1 (fun r0 r1 r2 r3 r4 => kk (.tup [.agg [.v (.int .i64 r0), .ro .int r1, .ro .bool r2, .v (.int .i64 r3)], .c (.v (.bool r4))]) []) := by
  rw [g_spec_UseClock]
  rfl
theorem clok_spec_UseClock : ConOK Try.prog cl_spec_UseClock := consCons h_spec_inRange ⟨Try.f49, Try.func49, by kernel_rfl, ne_of_beq (by kernel_rfl)⟩ (consCons h_spec_validClock ⟨Try.f73, Try.func73, by kernel_rfl, ne_of_beq (by kernel_rfl)⟩ (consCons h_spec_tick ⟨Try.f74, Try.func74, by kernel_rfl, ne_of_beq (by kernel_rfl)⟩ (consNil)))
theorem cok_spec_UseClock : ConsOK Try.prog 20 cs_spec_UseClock := ⟨clok_spec_UseClock, inlNil⟩
theorem i_spec_UseClock {vs : List A1} {kk : AV → List A1 → Prop} {motive : List A1 → Prop} (h : con_spec_UseClock.F vs kk) (H : ∀ (c0Room : Int) (c0Keys : List Int) (c0Used : List Bool) (c0Hand : Int) (key1 : Int), F_spec_UseClock c0Room c0Keys c0Used c0Hand key1 (fun r0 r1 r2 r3 r4 => kk (.tup [.agg [.v (.int .i64 r0), .ro .int r1, .ro .bool r2, .v (.int .i64 r3)], .c (.v (.bool r4))]) []) → motive [.agg [.v (.int .i64 c0Room), .ro .int c0Keys, .ro .bool c0Used, .v (.int .i64 c0Hand)], .c (.v (.int .i64 key1))]) : motive vs := by
  unfold con_spec_UseClock at h
  dsimp only at h
  split at h
  · exact H _ _ _ _ _ h
  · exact h.elim
theorem h_spec_UseClock : Holds Try.prog 42 con_spec_UseClock := by
  refine holds_of_ev (rt := [.agg [.sc, .sl .int, .sl .bool, .sc], .c .sc]) (T := TT) (Γ := cs_spec_UseClock) (an := an_spec_UseClock) (N := 20) (c := Try.f42.body.getD .skip) Try.func42 (by kernel_rfl) Try.ntmps42 (by decide) (by decide) mixed tabOK cok_spec_UseClock (by kernel_rfl) ?_
  intro vs kk _ hF
  exact i_spec_UseClock (motive := fun vs => Goes (ev TT cs_spec_UseClock 20 an_spec_UseClock (Try.f42.body.getD .skip) (st0 con_spec_UseClock vs) (fin TT con_spec_UseClock Try.f42.results.toList [.agg [.sc, .sl .int, .sl .bool, .sc], .c .sc] vs kk))) hF (fun c0Room c0Keys c0Used c0Hand key1 hF => goes_of (e_spec_UseClock c0Room c0Keys c0Used c0Hand key1 kk) (F_spec_UseClock_S hF))
def con_laws_equalInts : Con := ⟨[.rd, .rd], true, [.c (.sl .int), .c (.sl .int)], fun vs k => match vs with
    | [.c (.ro .int a0), .c (.ro .int b1)] => F_laws_equalInts a0 b1 (fun r0 => k (.one (.c (.v (.bool r0)))) [])
    | _ => False, false⟩
def cl_laws_equalInts : List (FuncId × Con) := []
def nm0_laws_equalInts : List NStep := [.keep [0, 1, 5] []]
def an_laws_equalInts : Ann := ⟨[(6, .take 0 (.take 1 (.take 2 (.take 3 (.take 4 (.take 5 (.take 6 (.take 7 (.take 8 (.done))))))))), [])], [(4, nm0_laws_equalInts)], []⟩
def cs_laws_equalInts : Cons := ⟨cl_laws_equalInts, [], 0, [], []⟩
def can0_laws_equalInts (a0 : List Int) (b1 : List Int) (xi5 : Int) : St := ⟨[(0, .one (.c (.ro .int a0))), (1, .one (.c (.ro .int b1))), (5, .one (.c (.v (.int .i64 xi5))))], []⟩
def fin_laws_equalInts (a0 : List Int) (b1 : List Int) (kk : AV → List A1 → Prop) : Kt := fin TT con_laws_equalInts Try.f34.results.toList [.c .sc] [.c (.ro .int a0), .c (.ro .int b1)] kk
def kt0_laws_equalInts (kf : Kt) : Kt := blockK 0 (seqK (evF TT cs_laws_equalInts 26 an_laws_equalInts Try.f34 [1, 1, 1]) (kf))
theorem r0_laws_equalInts (a0 : List Int) (b1 : List Int) (kk : AV → List A1 → Prop) (n : Nat) (xi5 : Int) :
    iter (evF TT cs_laws_equalInts 26 an_laws_equalInts Try.f34 [1, 1, 0, 1, 0, 0]) nm0_laws_equalInts (kt0_laws_equalInts (fin_laws_equalInts a0 b1 kk)) (n + 1) (can0_laws_equalInts a0 b1 xi5) = T0_laws_equalInts a0 b1 xi5 (fun r0 => kk (.one (.c (.v (.bool r0)))) []) (fun xi5 => iter (evF TT cs_laws_equalInts 26 an_laws_equalInts Try.f34 [1, 1, 0, 1, 0, 0]) nm0_laws_equalInts (kt0_laws_equalInts (fin_laws_equalInts a0 b1 kk)) n (can0_laws_equalInts a0 b1 xi5)) := by kernel_rfl
theorem l0_laws_equalInts (a0 : List Int) (b1 : List Int) (kk : AV → List A1 → Prop) : ∀ (n : Nat) (xi5 : Int), iter (evF TT cs_laws_equalInts 26 an_laws_equalInts Try.f34 [1, 1, 0, 1, 0, 0]) nm0_laws_equalInts (kt0_laws_equalInts (fin_laws_equalInts a0 b1 kk)) n (can0_laws_equalInts a0 b1 xi5) = L0_laws_equalInts a0 b1 (fun r0 => kk (.one (.c (.v (.bool r0)))) []) n xi5 := by
  intro n
  induction n with
  | zero => intros; rfl
  | succ n ih =>
    intro xi5
    rw [r0_laws_equalInts a0 b1 kk n xi5]
    have hb : (fun xi5 => iter (evF TT cs_laws_equalInts 26 an_laws_equalInts Try.f34 [1, 1, 0, 1, 0, 0]) nm0_laws_equalInts (kt0_laws_equalInts (fin_laws_equalInts a0 b1 kk)) n (can0_laws_equalInts a0 b1 xi5)) = L0_laws_equalInts a0 b1 (fun r0 => kk (.one (.c (.v (.bool r0)))) []) n := by
      funext xi5; exact ih xi5
    rw [hb]
    rfl
theorem g_laws_equalInts (a0 : List Int) (b1 : List Int) (kk : AV → List A1 → Prop) :
    ev TT cs_laws_equalInts 26 an_laws_equalInts (Try.f34.body.getD .skip) (st0 con_laws_equalInts [.c (.ro .int a0), .c (.ro .int b1)]) (fin TT con_laws_equalInts Try.f34.results.toList [.c .sc] [.c (.ro .int a0), .c (.ro .int b1)] kk) = G_laws_equalInts a0 b1 (fun r0 => kk (.one (.c (.v (.bool r0)))) []) (fun a0 b1 xi5 => ∃ j, iter (evF TT cs_laws_equalInts 26 an_laws_equalInts Try.f34 [1, 1, 0, 1, 0, 0]) nm0_laws_equalInts (kt0_laws_equalInts (fin_laws_equalInts a0 b1 kk)) j (can0_laws_equalInts a0 b1 xi5)) := by kernel_rfl
theorem e_laws_equalInts (a0 : List Int) (b1 : List Int) (kk : AV → List A1 → Prop) :
    ev TT cs_laws_equalInts 26 an_laws_equalInts (Try.f34.body.getD .skip) (st0 con_laws_equalInts [.c (.ro .int a0), .c (.ro .int b1)]) (fin TT con_laws_equalInts Try.f34.results.toList [.c .sc] [.c (.ro .int a0), .c (.ro .int b1)] kk) = S_laws_equalInts a0 b1 (fun r0 => kk (.one (.c (.v (.bool r0)))) []) := by
  rw [g_laws_equalInts]
  have hi0 : (fun a0 b1 xi5 => ∃ j, iter (evF TT cs_laws_equalInts 26 an_laws_equalInts Try.f34 [1, 1, 0, 1, 0, 0]) nm0_laws_equalInts (kt0_laws_equalInts (fin_laws_equalInts a0 b1 kk)) j (can0_laws_equalInts a0 b1 xi5)) = (fun a0 b1 xi5 => ∃ j, L0_laws_equalInts a0 b1 (fun r0 => kk (.one (.c (.v (.bool r0)))) []) j xi5) := by
    funext a0 b1 xi5
    refine congrArg Exists (funext fun j => ?_)
    rw [l0_laws_equalInts a0 b1 kk j xi5]
  rw [hi0]
  rfl
theorem clok_laws_equalInts : ConOK Try.prog cl_laws_equalInts := consNil
theorem cok_laws_equalInts : ConsOK Try.prog 26 cs_laws_equalInts := ⟨clok_laws_equalInts, inlNil⟩
theorem i_laws_equalInts {vs : List A1} {kk : AV → List A1 → Prop} {motive : List A1 → Prop} (h : con_laws_equalInts.F vs kk) (H : ∀ (a0 : List Int) (b1 : List Int), F_laws_equalInts a0 b1 (fun r0 => kk (.one (.c (.v (.bool r0)))) []) → motive [.c (.ro .int a0), .c (.ro .int b1)]) : motive vs := by
  unfold con_laws_equalInts at h
  dsimp only at h
  split at h
  · exact H _ _ h
  · exact h.elim
theorem h_laws_equalInts : Holds Try.prog 34 con_laws_equalInts := by
  refine holds_of_ev (rt := [.c .sc]) (T := TT) (Γ := cs_laws_equalInts) (an := an_laws_equalInts) (N := 26) (c := Try.f34.body.getD .skip) Try.func34 (by kernel_rfl) Try.ntmps34 (by decide) (by decide) mixed tabOK cok_laws_equalInts (by kernel_rfl) ?_
  intro vs kk _ hF
  exact i_laws_equalInts (motive := fun vs => Goes (ev TT cs_laws_equalInts 26 an_laws_equalInts (Try.f34.body.getD .skip) (st0 con_laws_equalInts vs) (fin TT con_laws_equalInts Try.f34.results.toList [.c .sc] vs kk))) hF (fun a0 b1 hF => goes_of (e_laws_equalInts a0 b1 kk) (F_laws_equalInts_S hF))
def con_laws_equalBools : Con := ⟨[.rd, .rd], true, [.c (.sl .bool), .c (.sl .bool)], fun vs k => match vs with
    | [.c (.ro .bool a0), .c (.ro .bool b1)] => F_laws_equalBools a0 b1 (fun r0 => k (.one (.c (.v (.bool r0)))) [])
    | _ => False, false⟩
def cl_laws_equalBools : List (FuncId × Con) := []
def nm0_laws_equalBools : List NStep := [.keep [0, 1, 5] []]
def an_laws_equalBools : Ann := ⟨[(6, .take 0 (.take 1 (.take 2 (.take 3 (.take 4 (.take 5 (.take 6 (.take 7 (.take 8 (.done))))))))), [])], [(4, nm0_laws_equalBools)], []⟩
def cs_laws_equalBools : Cons := ⟨cl_laws_equalBools, [], 0, [], []⟩
def can0_laws_equalBools (a0 : List Bool) (b1 : List Bool) (xi5 : Int) : St := ⟨[(0, .one (.c (.ro .bool a0))), (1, .one (.c (.ro .bool b1))), (5, .one (.c (.v (.int .i64 xi5))))], []⟩
def fin_laws_equalBools (a0 : List Bool) (b1 : List Bool) (kk : AV → List A1 → Prop) : Kt := fin TT con_laws_equalBools Try.f75.results.toList [.c .sc] [.c (.ro .bool a0), .c (.ro .bool b1)] kk
def kt0_laws_equalBools (kf : Kt) : Kt := blockK 0 (seqK (evF TT cs_laws_equalBools 26 an_laws_equalBools Try.f75 [1, 1, 1]) (kf))
theorem r0_laws_equalBools (a0 : List Bool) (b1 : List Bool) (kk : AV → List A1 → Prop) (n : Nat) (xi5 : Int) :
    iter (evF TT cs_laws_equalBools 26 an_laws_equalBools Try.f75 [1, 1, 0, 1, 0, 0]) nm0_laws_equalBools (kt0_laws_equalBools (fin_laws_equalBools a0 b1 kk)) (n + 1) (can0_laws_equalBools a0 b1 xi5) = T0_laws_equalBools a0 b1 xi5 (fun r0 => kk (.one (.c (.v (.bool r0)))) []) (fun xi5 => iter (evF TT cs_laws_equalBools 26 an_laws_equalBools Try.f75 [1, 1, 0, 1, 0, 0]) nm0_laws_equalBools (kt0_laws_equalBools (fin_laws_equalBools a0 b1 kk)) n (can0_laws_equalBools a0 b1 xi5)) := by kernel_rfl
theorem l0_laws_equalBools (a0 : List Bool) (b1 : List Bool) (kk : AV → List A1 → Prop) : ∀ (n : Nat) (xi5 : Int), iter (evF TT cs_laws_equalBools 26 an_laws_equalBools Try.f75 [1, 1, 0, 1, 0, 0]) nm0_laws_equalBools (kt0_laws_equalBools (fin_laws_equalBools a0 b1 kk)) n (can0_laws_equalBools a0 b1 xi5) = L0_laws_equalBools a0 b1 (fun r0 => kk (.one (.c (.v (.bool r0)))) []) n xi5 := by
  intro n
  induction n with
  | zero => intros; rfl
  | succ n ih =>
    intro xi5
    rw [r0_laws_equalBools a0 b1 kk n xi5]
    have hb : (fun xi5 => iter (evF TT cs_laws_equalBools 26 an_laws_equalBools Try.f75 [1, 1, 0, 1, 0, 0]) nm0_laws_equalBools (kt0_laws_equalBools (fin_laws_equalBools a0 b1 kk)) n (can0_laws_equalBools a0 b1 xi5)) = L0_laws_equalBools a0 b1 (fun r0 => kk (.one (.c (.v (.bool r0)))) []) n := by
      funext xi5; exact ih xi5
    rw [hb]
    rfl
theorem g_laws_equalBools (a0 : List Bool) (b1 : List Bool) (kk : AV → List A1 → Prop) :
    ev TT cs_laws_equalBools 26 an_laws_equalBools (Try.f75.body.getD .skip) (st0 con_laws_equalBools [.c (.ro .bool a0), .c (.ro .bool b1)]) (fin TT con_laws_equalBools Try.f75.results.toList [.c .sc] [.c (.ro .bool a0), .c (.ro .bool b1)] kk) = G_laws_equalBools a0 b1 (fun r0 => kk (.one (.c (.v (.bool r0)))) []) (fun a0 b1 xi5 => ∃ j, iter (evF TT cs_laws_equalBools 26 an_laws_equalBools Try.f75 [1, 1, 0, 1, 0, 0]) nm0_laws_equalBools (kt0_laws_equalBools (fin_laws_equalBools a0 b1 kk)) j (can0_laws_equalBools a0 b1 xi5)) := by kernel_rfl
theorem e_laws_equalBools (a0 : List Bool) (b1 : List Bool) (kk : AV → List A1 → Prop) :
    ev TT cs_laws_equalBools 26 an_laws_equalBools (Try.f75.body.getD .skip) (st0 con_laws_equalBools [.c (.ro .bool a0), .c (.ro .bool b1)]) (fin TT con_laws_equalBools Try.f75.results.toList [.c .sc] [.c (.ro .bool a0), .c (.ro .bool b1)] kk) = S_laws_equalBools a0 b1 (fun r0 => kk (.one (.c (.v (.bool r0)))) []) := by
  rw [g_laws_equalBools]
  have hi0 : (fun a0 b1 xi5 => ∃ j, iter (evF TT cs_laws_equalBools 26 an_laws_equalBools Try.f75 [1, 1, 0, 1, 0, 0]) nm0_laws_equalBools (kt0_laws_equalBools (fin_laws_equalBools a0 b1 kk)) j (can0_laws_equalBools a0 b1 xi5)) = (fun a0 b1 xi5 => ∃ j, L0_laws_equalBools a0 b1 (fun r0 => kk (.one (.c (.v (.bool r0)))) []) j xi5) := by
    funext a0 b1 xi5
    refine congrArg Exists (funext fun j => ?_)
    rw [l0_laws_equalBools a0 b1 kk j xi5]
  rw [hi0]
  rfl
theorem clok_laws_equalBools : ConOK Try.prog cl_laws_equalBools := consNil
theorem cok_laws_equalBools : ConsOK Try.prog 26 cs_laws_equalBools := ⟨clok_laws_equalBools, inlNil⟩
theorem i_laws_equalBools {vs : List A1} {kk : AV → List A1 → Prop} {motive : List A1 → Prop} (h : con_laws_equalBools.F vs kk) (H : ∀ (a0 : List Bool) (b1 : List Bool), F_laws_equalBools a0 b1 (fun r0 => kk (.one (.c (.v (.bool r0)))) []) → motive [.c (.ro .bool a0), .c (.ro .bool b1)]) : motive vs := by
  unfold con_laws_equalBools at h
  dsimp only at h
  split at h
  · exact H _ _ h
  · exact h.elim
theorem h_laws_equalBools : Holds Try.prog 75 con_laws_equalBools := by
  refine holds_of_ev (rt := [.c .sc]) (T := TT) (Γ := cs_laws_equalBools) (an := an_laws_equalBools) (N := 26) (c := Try.f75.body.getD .skip) Try.func75 (by kernel_rfl) Try.ntmps75 (by decide) (by decide) mixed tabOK cok_laws_equalBools (by kernel_rfl) ?_
  intro vs kk _ hF
  exact i_laws_equalBools (motive := fun vs => Goes (ev TT cs_laws_equalBools 26 an_laws_equalBools (Try.f75.body.getD .skip) (st0 con_laws_equalBools vs) (fin TT con_laws_equalBools Try.f75.results.toList [.c .sc] vs kk))) hF (fun a0 b1 hF => goes_of (e_laws_equalBools a0 b1 kk) (F_laws_equalBools_S hF))
def con_laws_equalClock : Con := ⟨[.rd, .rd], true, [.agg [.sc, .sl .int, .sl .bool, .sc], .agg [.sc, .sl .int, .sl .bool, .sc]], fun vs k => match vs with
    | [.agg [.v (.int .i64 a0Room), .ro .int a0Keys, .ro .bool a0Used, .v (.int .i64 a0Hand)], .agg [.v (.int .i64 b1Room), .ro .int b1Keys, .ro .bool b1Used, .v (.int .i64 b1Hand)]] => F_laws_equalClock a0Room a0Keys a0Used a0Hand b1Room b1Keys b1Used b1Hand (fun r0 => k (.one (.c (.v (.bool r0)))) [])
    | _ => False, false⟩
def cl_laws_equalClock : List (FuncId × Con) := [(34, con_laws_equalInts), (75, con_laws_equalBools)]
def an_laws_equalClock : Ann := ⟨[], [], []⟩
def cs_laws_equalClock : Cons := ⟨cl_laws_equalClock, [], 0, [], []⟩
def fin_laws_equalClock (a0Room : Int) (a0Keys : List Int) (a0Used : List Bool) (a0Hand : Int) (b1Room : Int) (b1Keys : List Int) (b1Used : List Bool) (b1Hand : Int) (kk : AV → List A1 → Prop) : Kt := fin TT con_laws_equalClock Try.f43.results.toList [.c .sc] [.agg [.v (.int .i64 a0Room), .ro .int a0Keys, .ro .bool a0Used, .v (.int .i64 a0Hand)], .agg [.v (.int .i64 b1Room), .ro .int b1Keys, .ro .bool b1Used, .v (.int .i64 b1Hand)]] kk
theorem g_laws_equalClock (a0Room : Int) (a0Keys : List Int) (a0Used : List Bool) (a0Hand : Int) (b1Room : Int) (b1Keys : List Int) (b1Used : List Bool) (b1Hand : Int) (kk : AV → List A1 → Prop) :
    ev TT cs_laws_equalClock 31 an_laws_equalClock (Try.f43.body.getD .skip) (st0 con_laws_equalClock [.agg [.v (.int .i64 a0Room), .ro .int a0Keys, .ro .bool a0Used, .v (.int .i64 a0Hand)], .agg [.v (.int .i64 b1Room), .ro .int b1Keys, .ro .bool b1Used, .v (.int .i64 b1Hand)]]) (fin TT con_laws_equalClock Try.f43.results.toList [.c .sc] [.agg [.v (.int .i64 a0Room), .ro .int a0Keys, .ro .bool a0Used, .v (.int .i64 a0Hand)], .agg [.v (.int .i64 b1Room), .ro .int b1Keys, .ro .bool b1Used, .v (.int .i64 b1Hand)]] kk) = G_laws_equalClock a0Room a0Keys a0Used a0Hand b1Room b1Keys b1Used b1Hand (fun r0 => kk (.one (.c (.v (.bool r0)))) []) := by kernel_rfl
theorem e_laws_equalClock (a0Room : Int) (a0Keys : List Int) (a0Used : List Bool) (a0Hand : Int) (b1Room : Int) (b1Keys : List Int) (b1Used : List Bool) (b1Hand : Int) (kk : AV → List A1 → Prop) :
    ev TT cs_laws_equalClock 31 an_laws_equalClock (Try.f43.body.getD .skip) (st0 con_laws_equalClock [.agg [.v (.int .i64 a0Room), .ro .int a0Keys, .ro .bool a0Used, .v (.int .i64 a0Hand)], .agg [.v (.int .i64 b1Room), .ro .int b1Keys, .ro .bool b1Used, .v (.int .i64 b1Hand)]]) (fin TT con_laws_equalClock Try.f43.results.toList [.c .sc] [.agg [.v (.int .i64 a0Room), .ro .int a0Keys, .ro .bool a0Used, .v (.int .i64 a0Hand)], .agg [.v (.int .i64 b1Room), .ro .int b1Keys, .ro .bool b1Used, .v (.int .i64 b1Hand)]] kk) = S_laws_equalClock a0Room a0Keys a0Used a0Hand b1Room b1Keys b1Used b1Hand (fun r0 => kk (.one (.c (.v (.bool r0)))) []) := by
  rw [g_laws_equalClock]
  rfl
theorem clok_laws_equalClock : ConOK Try.prog cl_laws_equalClock := consCons h_laws_equalInts ⟨Try.f34, Try.func34, by kernel_rfl, ne_of_beq (by kernel_rfl)⟩ (consCons h_laws_equalBools ⟨Try.f75, Try.func75, by kernel_rfl, ne_of_beq (by kernel_rfl)⟩ (consNil))
theorem cok_laws_equalClock : ConsOK Try.prog 31 cs_laws_equalClock := ⟨clok_laws_equalClock, inlNil⟩
theorem i_laws_equalClock {vs : List A1} {kk : AV → List A1 → Prop} {motive : List A1 → Prop} (h : con_laws_equalClock.F vs kk) (H : ∀ (a0Room : Int) (a0Keys : List Int) (a0Used : List Bool) (a0Hand : Int) (b1Room : Int) (b1Keys : List Int) (b1Used : List Bool) (b1Hand : Int), F_laws_equalClock a0Room a0Keys a0Used a0Hand b1Room b1Keys b1Used b1Hand (fun r0 => kk (.one (.c (.v (.bool r0)))) []) → motive [.agg [.v (.int .i64 a0Room), .ro .int a0Keys, .ro .bool a0Used, .v (.int .i64 a0Hand)], .agg [.v (.int .i64 b1Room), .ro .int b1Keys, .ro .bool b1Used, .v (.int .i64 b1Hand)]]) : motive vs := by
  unfold con_laws_equalClock at h
  dsimp only at h
  split at h
  · exact H _ _ _ _ _ _ _ _ h
  · exact h.elim
theorem h_laws_equalClock : Holds Try.prog 43 con_laws_equalClock := by
  refine holds_of_ev (rt := [.c .sc]) (T := TT) (Γ := cs_laws_equalClock) (an := an_laws_equalClock) (N := 31) (c := Try.f43.body.getD .skip) Try.func43 (by kernel_rfl) Try.ntmps43 (by decide) (by decide) mixed tabOK cok_laws_equalClock (by kernel_rfl) ?_
  intro vs kk _ hF
  exact i_laws_equalClock (motive := fun vs => Goes (ev TT cs_laws_equalClock 31 an_laws_equalClock (Try.f43.body.getD .skip) (st0 con_laws_equalClock vs) (fin TT con_laws_equalClock Try.f43.results.toList [.c .sc] vs kk))) hF (fun a0Room a0Keys a0Used a0Hand b1Room b1Keys b1Used b1Hand hF => goes_of (e_laws_equalClock a0Room a0Keys a0Used a0Hand b1Room b1Keys b1Used b1Hand kk) (F_laws_equalClock_S hF))
def con_impl_UsedKeys : Con := ⟨[.rd], true, [.agg [.sc, .sl .int, .sl .bool, .sc]], fun vs k => match vs with
    | [.agg [.v (.int .i64 c0Room), .ro .int c0Keys, .ro .bool c0Used, .v (.int .i64 c0Hand)]] => F_impl_UsedKeys c0Room c0Keys c0Used c0Hand (fun r0 => k (.one (.c (.ro .int r0))) [])
    | _ => False, false⟩
def cl_impl_UsedKeys : List (FuncId × Con) := [(70, con_impl_ValidClock)]
def nm0_impl_UsedKeys : List NStep := [.own 3 .int 90000, .keep [1, 3, 11, 12, 13] [16, 90000]]
def an_impl_UsedKeys : Ann := ⟨[], [(5, nm0_impl_UsedKeys)], []⟩
def cs_impl_UsedKeys : Cons := ⟨cl_impl_UsedKeys, [], 0, [], []⟩
def can0_impl_UsedKeys (c0Hand : Int) (c0Keys : List Int) (c0Room : Int) (c0Used : List Bool) (xt12 : Int) (xt13 : Int) (xout3 : List Int) : St := ⟨[(1, .one (.c (.pb 16 0))), (3, .one (.c (.ow 90000))), (11, .one (.c (.ro .int c0Keys))), (12, .one (.c (.v (.int .i64 xt12)))), (13, .one (.c (.v (.int .i64 xt13))))], [(16, .box [.v (.int .i64 c0Room), .ro .int c0Keys, .ro .bool c0Used, .v (.int .i64 c0Hand)]), (90000, .row .int xout3)]⟩
def fin_impl_UsedKeys (c0Room : Int) (c0Keys : List Int) (c0Used : List Bool) (c0Hand : Int) (kk : AV → List A1 → Prop) : Kt := fin TT con_impl_UsedKeys Try.f44.results.toList [.c (.sl .int)] [.agg [.v (.int .i64 c0Room), .ro .int c0Keys, .ro .bool c0Used, .v (.int .i64 c0Hand)]] kk
def kt0_impl_UsedKeys (kf : Kt) : Kt := blockK 0 (seqK (evF TT cs_impl_UsedKeys 29 an_impl_UsedKeys Try.f44 [1, 1, 1, 1]) (kf))
theorem r0_impl_UsedKeys (c0Room : Int) (c0Keys : List Int) (c0Used : List Bool) (c0Hand : Int) (xt12 : Int) (kk : AV → List A1 → Prop) (n : Nat) (xt13 : Int) (xout3 : List Int) :
    iter (evF TT cs_impl_UsedKeys 29 an_impl_UsedKeys Try.f44 [1, 1, 1, 0, 1, 0, 0]) nm0_impl_UsedKeys (kt0_impl_UsedKeys (fin_impl_UsedKeys c0Room c0Keys c0Used c0Hand kk)) (n + 1) (can0_impl_UsedKeys c0Hand c0Keys c0Room c0Used xt12 xt13 xout3) = T0_impl_UsedKeys c0Hand c0Keys c0Room c0Used xt12 xt13 xout3 (fun r0 => kk (.one (.c (.ro .int r0))) []) (fun xt13 xout3 => iter (evF TT cs_impl_UsedKeys 29 an_impl_UsedKeys Try.f44 [1, 1, 1, 0, 1, 0, 0]) nm0_impl_UsedKeys (kt0_impl_UsedKeys (fin_impl_UsedKeys c0Room c0Keys c0Used c0Hand kk)) n (can0_impl_UsedKeys c0Hand c0Keys c0Room c0Used xt12 xt13 xout3)) := by kernel_rfl
theorem l0_impl_UsedKeys (c0Room : Int) (c0Keys : List Int) (c0Used : List Bool) (c0Hand : Int) (xt12 : Int) (kk : AV → List A1 → Prop) : ∀ (n : Nat) (xt13 : Int) (xout3 : List Int), iter (evF TT cs_impl_UsedKeys 29 an_impl_UsedKeys Try.f44 [1, 1, 1, 0, 1, 0, 0]) nm0_impl_UsedKeys (kt0_impl_UsedKeys (fin_impl_UsedKeys c0Room c0Keys c0Used c0Hand kk)) n (can0_impl_UsedKeys c0Hand c0Keys c0Room c0Used xt12 xt13 xout3) = L0_impl_UsedKeys c0Hand c0Keys c0Room c0Used xt12 (fun r0 => kk (.one (.c (.ro .int r0))) []) n xt13 xout3 := by
  intro n
  induction n with
  | zero => intros; rfl
  | succ n ih =>
    intro xt13 xout3
    rw [r0_impl_UsedKeys c0Room c0Keys c0Used c0Hand xt12 kk n xt13 xout3]
    have hb : (fun xt13 xout3 => iter (evF TT cs_impl_UsedKeys 29 an_impl_UsedKeys Try.f44 [1, 1, 1, 0, 1, 0, 0]) nm0_impl_UsedKeys (kt0_impl_UsedKeys (fin_impl_UsedKeys c0Room c0Keys c0Used c0Hand kk)) n (can0_impl_UsedKeys c0Hand c0Keys c0Room c0Used xt12 xt13 xout3)) = L0_impl_UsedKeys c0Hand c0Keys c0Room c0Used xt12 (fun r0 => kk (.one (.c (.ro .int r0))) []) n := by
      funext xt13 xout3; exact ih xt13 xout3
    rw [hb]
    rfl
theorem g_impl_UsedKeys (c0Room : Int) (c0Keys : List Int) (c0Used : List Bool) (c0Hand : Int) (kk : AV → List A1 → Prop) :
    ev TT cs_impl_UsedKeys 29 an_impl_UsedKeys (Try.f44.body.getD .skip) (st0 con_impl_UsedKeys [.agg [.v (.int .i64 c0Room), .ro .int c0Keys, .ro .bool c0Used, .v (.int .i64 c0Hand)]]) (fin TT con_impl_UsedKeys Try.f44.results.toList [.c (.sl .int)] [.agg [.v (.int .i64 c0Room), .ro .int c0Keys, .ro .bool c0Used, .v (.int .i64 c0Hand)]] kk) = G_impl_UsedKeys c0Room c0Keys c0Used c0Hand (fun r0 => kk (.one (.c (.ro .int r0))) []) (fun c0Hand c0Keys c0Room c0Used xt12 xt13 xout3 => ∃ j, iter (evF TT cs_impl_UsedKeys 29 an_impl_UsedKeys Try.f44 [1, 1, 1, 0, 1, 0, 0]) nm0_impl_UsedKeys (kt0_impl_UsedKeys (fin_impl_UsedKeys c0Room c0Keys c0Used c0Hand kk)) j (can0_impl_UsedKeys c0Hand c0Keys c0Room c0Used xt12 xt13 xout3)) := by kernel_rfl
theorem e_impl_UsedKeys (c0Room : Int) (c0Keys : List Int) (c0Used : List Bool) (c0Hand : Int) (kk : AV → List A1 → Prop) :
    ev TT cs_impl_UsedKeys 29 an_impl_UsedKeys (Try.f44.body.getD .skip) (st0 con_impl_UsedKeys [.agg [.v (.int .i64 c0Room), .ro .int c0Keys, .ro .bool c0Used, .v (.int .i64 c0Hand)]]) (fin TT con_impl_UsedKeys Try.f44.results.toList [.c (.sl .int)] [.agg [.v (.int .i64 c0Room), .ro .int c0Keys, .ro .bool c0Used, .v (.int .i64 c0Hand)]] kk) = S_impl_UsedKeys c0Room c0Keys c0Used c0Hand (fun r0 => kk (.one (.c (.ro .int r0))) []) := by
  rw [g_impl_UsedKeys]
  have hi0 : (fun c0Hand c0Keys c0Room c0Used xt12 xt13 xout3 => ∃ j, iter (evF TT cs_impl_UsedKeys 29 an_impl_UsedKeys Try.f44 [1, 1, 1, 0, 1, 0, 0]) nm0_impl_UsedKeys (kt0_impl_UsedKeys (fin_impl_UsedKeys c0Room c0Keys c0Used c0Hand kk)) j (can0_impl_UsedKeys c0Hand c0Keys c0Room c0Used xt12 xt13 xout3)) = (fun c0Hand c0Keys c0Room c0Used xt12 xt13 xout3 => ∃ j, L0_impl_UsedKeys c0Hand c0Keys c0Room c0Used xt12 (fun r0 => kk (.one (.c (.ro .int r0))) []) j xt13 xout3) := by
    funext c0Hand c0Keys c0Room c0Used xt12 xt13 xout3
    refine congrArg Exists (funext fun j => ?_)
    rw [l0_impl_UsedKeys c0Room c0Keys c0Used c0Hand xt12 kk j xt13 xout3]
  rw [hi0]
  rfl
theorem clok_impl_UsedKeys : ConOK Try.prog cl_impl_UsedKeys := consCons h_impl_ValidClock ⟨Try.f70, Try.func70, by kernel_rfl, ne_of_beq (by kernel_rfl)⟩ (consNil)
theorem cok_impl_UsedKeys : ConsOK Try.prog 29 cs_impl_UsedKeys := ⟨clok_impl_UsedKeys, inlNil⟩
theorem i_impl_UsedKeys {vs : List A1} {kk : AV → List A1 → Prop} {motive : List A1 → Prop} (h : con_impl_UsedKeys.F vs kk) (H : ∀ (c0Room : Int) (c0Keys : List Int) (c0Used : List Bool) (c0Hand : Int), F_impl_UsedKeys c0Room c0Keys c0Used c0Hand (fun r0 => kk (.one (.c (.ro .int r0))) []) → motive [.agg [.v (.int .i64 c0Room), .ro .int c0Keys, .ro .bool c0Used, .v (.int .i64 c0Hand)]]) : motive vs := by
  unfold con_impl_UsedKeys at h
  dsimp only at h
  split at h
  · exact H _ _ _ _ h
  · exact h.elim
theorem h_impl_UsedKeys : Holds Try.prog 44 con_impl_UsedKeys := by
  refine holds_of_ev (rt := [.c (.sl .int)]) (T := TT) (Γ := cs_impl_UsedKeys) (an := an_impl_UsedKeys) (N := 29) (c := Try.f44.body.getD .skip) Try.func44 (by kernel_rfl) Try.ntmps44 (by decide) (by decide) mixed tabOK cok_impl_UsedKeys (by kernel_rfl) ?_
  intro vs kk _ hF
  exact i_impl_UsedKeys (motive := fun vs => Goes (ev TT cs_impl_UsedKeys 29 an_impl_UsedKeys (Try.f44.body.getD .skip) (st0 con_impl_UsedKeys vs) (fin TT con_impl_UsedKeys Try.f44.results.toList [.c (.sl .int)] vs kk))) hF (fun c0Room c0Keys c0Used c0Hand hF => goes_of (e_impl_UsedKeys c0Room c0Keys c0Used c0Hand kk) (F_impl_UsedKeys_S hF))
def con_laws_isIn : Con := ⟨[.rd, .rd], true, [.c (.sl .int), .c (.sc)], fun vs k => match vs with
    | [.c (.ro .int list0), .c (.v (.int .i64 n1))] => F_laws_isIn list0 n1 (fun r0 => k (.one (.c (.v (.bool r0)))) [])
    | _ => False, false⟩
def cl_laws_isIn : List (FuncId × Con) := []
def nm0_laws_isIn : List NStep := [.keep [0, 1, 5] []]
def an_laws_isIn : Ann := ⟨[], [(2, nm0_laws_isIn)], []⟩
def cs_laws_isIn : Cons := ⟨cl_laws_isIn, [], 0, [], []⟩
def can0_laws_isIn (list0 : List Int) (n1 : Int) (xi5 : Int) : St := ⟨[(0, .one (.c (.ro .int list0))), (1, .one (.c (.v (.int .i64 n1)))), (5, .one (.c (.v (.int .i64 xi5))))], []⟩
def fin_laws_isIn (list0 : List Int) (n1 : Int) (kk : AV → List A1 → Prop) : Kt := fin TT con_laws_isIn Try.f32.results.toList [.c .sc] [.c (.ro .int list0), .c (.v (.int .i64 n1))] kk
def kt0_laws_isIn (kf : Kt) : Kt := blockK 0 (seqK (evF TT cs_laws_isIn 18 an_laws_isIn Try.f32 [1, 1]) (kf))
theorem r0_laws_isIn (list0 : List Int) (n1 : Int) (kk : AV → List A1 → Prop) (n : Nat) (xi5 : Int) :
    iter (evF TT cs_laws_isIn 18 an_laws_isIn Try.f32 [1, 0, 1, 0, 0]) nm0_laws_isIn (kt0_laws_isIn (fin_laws_isIn list0 n1 kk)) (n + 1) (can0_laws_isIn list0 n1 xi5) = T0_laws_isIn list0 n1 xi5 (fun r0 => kk (.one (.c (.v (.bool r0)))) []) (fun xi5 => iter (evF TT cs_laws_isIn 18 an_laws_isIn Try.f32 [1, 0, 1, 0, 0]) nm0_laws_isIn (kt0_laws_isIn (fin_laws_isIn list0 n1 kk)) n (can0_laws_isIn list0 n1 xi5)) := by kernel_rfl
theorem l0_laws_isIn (list0 : List Int) (n1 : Int) (kk : AV → List A1 → Prop) : ∀ (n : Nat) (xi5 : Int), iter (evF TT cs_laws_isIn 18 an_laws_isIn Try.f32 [1, 0, 1, 0, 0]) nm0_laws_isIn (kt0_laws_isIn (fin_laws_isIn list0 n1 kk)) n (can0_laws_isIn list0 n1 xi5) = L0_laws_isIn list0 n1 (fun r0 => kk (.one (.c (.v (.bool r0)))) []) n xi5 := by
  intro n
  induction n with
  | zero => intros; rfl
  | succ n ih =>
    intro xi5
    rw [r0_laws_isIn list0 n1 kk n xi5]
    have hb : (fun xi5 => iter (evF TT cs_laws_isIn 18 an_laws_isIn Try.f32 [1, 0, 1, 0, 0]) nm0_laws_isIn (kt0_laws_isIn (fin_laws_isIn list0 n1 kk)) n (can0_laws_isIn list0 n1 xi5)) = L0_laws_isIn list0 n1 (fun r0 => kk (.one (.c (.v (.bool r0)))) []) n := by
      funext xi5; exact ih xi5
    rw [hb]
    rfl
theorem g_laws_isIn (list0 : List Int) (n1 : Int) (kk : AV → List A1 → Prop) :
    ev TT cs_laws_isIn 18 an_laws_isIn (Try.f32.body.getD .skip) (st0 con_laws_isIn [.c (.ro .int list0), .c (.v (.int .i64 n1))]) (fin TT con_laws_isIn Try.f32.results.toList [.c .sc] [.c (.ro .int list0), .c (.v (.int .i64 n1))] kk) = G_laws_isIn list0 n1 (fun list0 n1 xi5 => ∃ j, iter (evF TT cs_laws_isIn 18 an_laws_isIn Try.f32 [1, 0, 1, 0, 0]) nm0_laws_isIn (kt0_laws_isIn (fin_laws_isIn list0 n1 kk)) j (can0_laws_isIn list0 n1 xi5)) := by kernel_rfl
theorem e_laws_isIn (list0 : List Int) (n1 : Int) (kk : AV → List A1 → Prop) :
    ev TT cs_laws_isIn 18 an_laws_isIn (Try.f32.body.getD .skip) (st0 con_laws_isIn [.c (.ro .int list0), .c (.v (.int .i64 n1))]) (fin TT con_laws_isIn Try.f32.results.toList [.c .sc] [.c (.ro .int list0), .c (.v (.int .i64 n1))] kk) = S_laws_isIn list0 n1 (fun r0 => kk (.one (.c (.v (.bool r0)))) []) := by
  rw [g_laws_isIn]
  have hi0 : (fun list0 n1 xi5 => ∃ j, iter (evF TT cs_laws_isIn 18 an_laws_isIn Try.f32 [1, 0, 1, 0, 0]) nm0_laws_isIn (kt0_laws_isIn (fin_laws_isIn list0 n1 kk)) j (can0_laws_isIn list0 n1 xi5)) = (fun list0 n1 xi5 => ∃ j, L0_laws_isIn list0 n1 (fun r0 => kk (.one (.c (.v (.bool r0)))) []) j xi5) := by
    funext list0 n1 xi5
    refine congrArg Exists (funext fun j => ?_)
    rw [l0_laws_isIn list0 n1 kk j xi5]
  rw [hi0]
  rfl
theorem clok_laws_isIn : ConOK Try.prog cl_laws_isIn := consNil
theorem cok_laws_isIn : ConsOK Try.prog 18 cs_laws_isIn := ⟨clok_laws_isIn, inlNil⟩
theorem i_laws_isIn {vs : List A1} {kk : AV → List A1 → Prop} {motive : List A1 → Prop} (h : con_laws_isIn.F vs kk) (H : ∀ (list0 : List Int) (n1 : Int), F_laws_isIn list0 n1 (fun r0 => kk (.one (.c (.v (.bool r0)))) []) → motive [.c (.ro .int list0), .c (.v (.int .i64 n1))]) : motive vs := by
  unfold con_laws_isIn at h
  dsimp only at h
  split at h
  · exact H _ _ h
  · exact h.elim
theorem h_laws_isIn : Holds Try.prog 32 con_laws_isIn := by
  refine holds_of_ev (rt := [.c .sc]) (T := TT) (Γ := cs_laws_isIn) (an := an_laws_isIn) (N := 18) (c := Try.f32.body.getD .skip) Try.func32 (by kernel_rfl) Try.ntmps32 (by decide) (by decide) mixed tabOK cok_laws_isIn (by kernel_rfl) ?_
  intro vs kk _ hF
  exact i_laws_isIn (motive := fun vs => Goes (ev TT cs_laws_isIn 18 an_laws_isIn (Try.f32.body.getD .skip) (st0 con_laws_isIn vs) (fin TT con_laws_isIn Try.f32.results.toList [.c .sc] vs kk))) hF (fun list0 n1 hF => goes_of (e_laws_isIn list0 n1 kk) (F_laws_isIn_S hF))
def con_laws_FnUseClockAgain : Con := ⟨[.rd], true, [.c (.sl .u8)], fun vs k => match vs with
    | [.c (.ro .u8 code0)] => F_laws_FnUseClockAgain code0 (fun r0 => k (.one (.c (.v (.bool r0)))) [])
    | _ => False, false⟩
def cl_laws_FnUseClockAgain : List (FuncId × Con) := [(32, con_laws_isIn), (40, con_spec_DrawUseClock), (41, con_impl_UseClock), (42, con_spec_UseClock), (43, con_laws_equalClock), (44, con_impl_UsedKeys)]
def an_laws_FnUseClockAgain : Ann := ⟨[], [], []⟩
def cs_laws_FnUseClockAgain : Cons := ⟨cl_laws_FnUseClockAgain, [], 0, [], []⟩
def fin_laws_FnUseClockAgain (code0 : List Int) (kk : AV → List A1 → Prop) : Kt := fin TT con_laws_FnUseClockAgain Try.f13.results.toList [.c .sc] [.c (.ro .u8 code0)] kk
theorem g_laws_FnUseClockAgain (code0 : List Int) (kk : AV → List A1 → Prop) :
    ev TT cs_laws_FnUseClockAgain 67 an_laws_FnUseClockAgain (Try.f13.body.getD .skip) (st0 con_laws_FnUseClockAgain [.c (.ro .u8 code0)]) (fin TT con_laws_FnUseClockAgain Try.f13.results.toList [.c .sc] [.c (.ro .u8 code0)] kk) = G_laws_FnUseClockAgain code0 (fun r0 => kk (.one (.c (.v (.bool r0)))) []) := by kernel_rfl
theorem e_laws_FnUseClockAgain (code0 : List Int) (kk : AV → List A1 → Prop) :
    ev TT cs_laws_FnUseClockAgain 67 an_laws_FnUseClockAgain (Try.f13.body.getD .skip) (st0 con_laws_FnUseClockAgain [.c (.ro .u8 code0)]) (fin TT con_laws_FnUseClockAgain Try.f13.results.toList [.c .sc] [.c (.ro .u8 code0)] kk) = S_laws_FnUseClockAgain code0 (fun r0 => kk (.one (.c (.v (.bool r0)))) []) := by
  rw [g_laws_FnUseClockAgain]
  rfl
theorem clok_laws_FnUseClockAgain : ConOK Try.prog cl_laws_FnUseClockAgain := consCons h_laws_isIn ⟨Try.f32, Try.func32, by kernel_rfl, ne_of_beq (by kernel_rfl)⟩ (consCons h_spec_DrawUseClock ⟨Try.f40, Try.func40, by kernel_rfl, ne_of_beq (by kernel_rfl)⟩ (consCons h_impl_UseClock ⟨Try.f41, Try.func41, by kernel_rfl, ne_of_beq (by kernel_rfl)⟩ (consCons h_spec_UseClock ⟨Try.f42, Try.func42, by kernel_rfl, ne_of_beq (by kernel_rfl)⟩ (consCons h_laws_equalClock ⟨Try.f43, Try.func43, by kernel_rfl, ne_of_beq (by kernel_rfl)⟩ (consCons h_impl_UsedKeys ⟨Try.f44, Try.func44, by kernel_rfl, ne_of_beq (by kernel_rfl)⟩ (consNil))))))
theorem cok_laws_FnUseClockAgain : ConsOK Try.prog 67 cs_laws_FnUseClockAgain := ⟨clok_laws_FnUseClockAgain, inlNil⟩
theorem i_laws_FnUseClockAgain {vs : List A1} {kk : AV → List A1 → Prop} {motive : List A1 → Prop} (h : con_laws_FnUseClockAgain.F vs kk) (H : ∀ (code0 : List Int), F_laws_FnUseClockAgain code0 (fun r0 => kk (.one (.c (.v (.bool r0)))) []) → motive [.c (.ro .u8 code0)]) : motive vs := by
  unfold con_laws_FnUseClockAgain at h
  dsimp only at h
  split at h
  · exact H _ h
  · exact h.elim
theorem h_laws_FnUseClockAgain : Holds Try.prog 13 con_laws_FnUseClockAgain := by
  refine holds_of_ev (rt := [.c .sc]) (T := TT) (Γ := cs_laws_FnUseClockAgain) (an := an_laws_FnUseClockAgain) (N := 67) (c := Try.f13.body.getD .skip) Try.func13 (by kernel_rfl) Try.ntmps13 (by decide) (by decide) mixed tabOK cok_laws_FnUseClockAgain (by kernel_rfl) ?_
  intro vs kk _ hF
  exact i_laws_FnUseClockAgain (motive := fun vs => Goes (ev TT cs_laws_FnUseClockAgain 67 an_laws_FnUseClockAgain (Try.f13.body.getD .skip) (st0 con_laws_FnUseClockAgain vs) (fin TT con_laws_FnUseClockAgain Try.f13.results.toList [.c .sc] vs kk))) hF (fun code0 hF => goes_of (e_laws_FnUseClockAgain code0 kk) (F_laws_FnUseClockAgain_S hF))
end Go.Ev
