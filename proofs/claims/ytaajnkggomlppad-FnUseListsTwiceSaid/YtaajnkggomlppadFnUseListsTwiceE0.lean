/- What the evaluator gives for these functions: their contracts. No statement is proved here. -/
import Derived.Test.YtaajnkggomlppadFnUseListsTwiceP1
import Derived.Test.YtaajnkggomlppadTt
namespace Go.Ev
set_option linter.unusedVariables false
set_option maxRecDepth 100000
open Go Go.Proofs
def con_spec_newReader : Con := ⟨[.rd], true, [.c (.sl .u8)], fun vs k => match vs with
    | [.c (.ro .u8 code0)] => F_spec_newReader code0 (fun r0 r1 => k (.one (.agg [.ro .u8 r0, .v (.int .i64 r1)])) [])
    | _ => False, true⟩
def cl_spec_newReader : List (FuncId × Con) := []
def an_spec_newReader : Ann := ⟨[], [], [], []⟩
def cs_spec_newReader : Cons := ⟨cl_spec_newReader, [], 0, [], [], []⟩
def fin_spec_newReader (code0 : List Int) (kk : AV → List A1 → Prop) : Kt := finB Try.f32.results.toList [.sl .u8, .sc] kk
theorem g_spec_newReader (code0 : List Int) (kk : AV → List A1 → Prop) :
    ev TT cs_spec_newReader 11 an_spec_newReader (Try.f32.body.getD .skip) (st0 con_spec_newReader [.c (.ro .u8 code0)]) (finB Try.f32.results.toList [.sl .u8, .sc] kk) = G_spec_newReader code0 (fun r0 r1 => kk (.one (.agg [.ro .u8 r0, .v (.int .i64 r1)])) []) := by kernel_rfl
theorem e_spec_newReader (code0 : List Int) (kk : AV → List A1 → Prop) :
    ev TT cs_spec_newReader 11 an_spec_newReader (Try.f32.body.getD .skip) (st0 con_spec_newReader [.c (.ro .u8 code0)]) (finB Try.f32.results.toList [.sl .u8, .sc] kk) = S_spec_newReader code0 (fun r0 r1 => kk (.one (.agg [.ro .u8 r0, .v (.int .i64 r1)])) []) := by
  rw [g_spec_newReader]
  rfl
theorem clok_spec_newReader : ConOK Try.prog cl_spec_newReader := consNil
theorem cok_spec_newReader : ConsOK Try.prog 11 cs_spec_newReader := ⟨clok_spec_newReader, inlNil, ovNil⟩
theorem i_spec_newReader {vs : List A1} {kk : AV → List A1 → Prop} {motive : List A1 → Prop} (h : con_spec_newReader.F vs kk) (H : ∀ (code0 : List Int), F_spec_newReader code0 (fun r0 r1 => kk (.one (.agg [.ro .u8 r0, .v (.int .i64 r1)])) []) → motive [.c (.ro .u8 code0)]) : motive vs := by
  unfold con_spec_newReader at h
  dsimp only at h
  split at h
  · exact H _ h
  · exact h.elim
theorem h_spec_newReader : HoldsB Try.prog 32 con_spec_newReader := by
  refine holdsB_of_ev (ts := [.sl .u8, .sc]) (T := TT) (Γ := cs_spec_newReader) (an := an_spec_newReader) (N := 11) (c := Try.f32.body.getD .skip) Try.func32 (by kernel_rfl) Try.ntmps32 (by decide) (by decide) mixed tabOK cok_spec_newReader (by kernel_rfl) ?_
  intro vs kk _ hF
  exact i_spec_newReader (motive := fun vs => Goes (ev TT cs_spec_newReader 11 an_spec_newReader (Try.f32.body.getD .skip) (st0 con_spec_newReader vs) (finB Try.f32.results.toList [.sl .u8, .sc] kk))) hF (fun code0 hF => goes_of (e_spec_newReader code0 kk) (F_spec_newReader_S hF))
def con_spec_reader_pick : Con := ⟨[.mu, .rd], true, [.ptr [.sl .u8, .sc], .c (.sc)], fun vs k => match vs with
    | [.ptr [.ro .u8 r0b, .v (.int .i64 r0p)], .c (.v (.int .i64 n1))] => F_spec_reader_pick r0b r0p n1 (fun r0 r1 r2 => k (.one (.c (.v (.int .i64 r0)))) [.ptr [.ro .u8 r1, .v (.int .i64 r2)]])
    | _ => False, false⟩
def cl_spec_reader_pick : List (FuncId × Con) := []
def an_spec_reader_pick : Ann := ⟨[(7, .take 0 (.take 1 (.take 2 (.take 3 (.take 4 (.take 5 (.take 6 (.take 7 (.take 8 (.take 9 (.take 10 (.take 11 (.take 12 (.take 13 (.take 14 (.take 15 (.take 16 (.take 17 (.take 18 (.take 19 (.take 20 (.take 21 (.take 22 (.take 23 (.take 24 (.take 25 (.take 26 (.take 27 (.take 28 (.take 29 (.take 30 (.take 31 (.take 32 (.take 33 (.take 34 (.take 35 (.take 36 (.take 37 (.take 38 (.take 39 (.take 40 (.take 41 (.take 42 (.take 43 (.take 44 (.take 45 (.done)))))))))))))))))))))))))))))))))))))))))))))), [100000])], [], [], []⟩
def cs_spec_reader_pick : Cons := ⟨cl_spec_reader_pick, [], 0, [], [], []⟩
def fin_spec_reader_pick (r0b : List Int) (r0p : Int) (n1 : Int) (kk : AV → List A1 → Prop) : Kt := fin TT con_spec_reader_pick Try.f35.results.toList [.c .sc] [.ptr [.ro .u8 r0b, .v (.int .i64 r0p)], .c (.v (.int .i64 n1))] kk
theorem g_spec_reader_pick (r0b : List Int) (r0p : Int) (n1 : Int) (kk : AV → List A1 → Prop) :
    ev TT cs_spec_reader_pick 99 an_spec_reader_pick (Try.f35.body.getD .skip) (st0 con_spec_reader_pick [.ptr [.ro .u8 r0b, .v (.int .i64 r0p)], .c (.v (.int .i64 n1))]) (fin TT con_spec_reader_pick Try.f35.results.toList [.c .sc] [.ptr [.ro .u8 r0b, .v (.int .i64 r0p)], .c (.v (.int .i64 n1))] kk) = G_spec_reader_pick r0b r0p n1 (fun r0 r1 r2 => kk (.one (.c (.v (.int .i64 r0)))) [.ptr [.ro .u8 r1, .v (.int .i64 r2)]]) := by kernel_rfl
theorem e_spec_reader_pick (r0b : List Int) (r0p : Int) (n1 : Int) (kk : AV → List A1 → Prop) :
    ev TT cs_spec_reader_pick 99 an_spec_reader_pick (Try.f35.body.getD .skip) (st0 con_spec_reader_pick [.ptr [.ro .u8 r0b, .v (.int .i64 r0p)], .c (.v (.int .i64 n1))]) (fin TT con_spec_reader_pick Try.f35.results.toList [.c .sc] [.ptr [.ro .u8 r0b, .v (.int .i64 r0p)], .c (.v (.int .i64 n1))] kk) = S_spec_reader_pick r0b r0p n1 (fun r0 r1 r2 => kk (.one (.c (.v (.int .i64 r0)))) [.ptr [.ro .u8 r1, .v (.int .i64 r2)]]) := by
  rw [g_spec_reader_pick]
  rfl
theorem clok_spec_reader_pick : ConOK Try.prog cl_spec_reader_pick := consNil
theorem cok_spec_reader_pick : ConsOK Try.prog 99 cs_spec_reader_pick := ⟨clok_spec_reader_pick, inlNil, ovNil⟩
theorem i_spec_reader_pick {vs : List A1} {kk : AV → List A1 → Prop} {motive : List A1 → Prop} (h : con_spec_reader_pick.F vs kk) (H : ∀ (r0b : List Int) (r0p : Int) (n1 : Int), F_spec_reader_pick r0b r0p n1 (fun r0 r1 r2 => kk (.one (.c (.v (.int .i64 r0)))) [.ptr [.ro .u8 r1, .v (.int .i64 r2)]]) → motive [.ptr [.ro .u8 r0b, .v (.int .i64 r0p)], .c (.v (.int .i64 n1))]) : motive vs := by
  unfold con_spec_reader_pick at h
  dsimp only at h
  split at h
  · exact H _ _ _ h
  · exact h.elim
theorem h_spec_reader_pick : Holds Try.prog 35 con_spec_reader_pick := by
  refine holds_of_ev (rt := [.c .sc]) (T := TT) (Γ := cs_spec_reader_pick) (an := an_spec_reader_pick) (N := 99) (c := Try.f35.body.getD .skip) Try.func35 (by kernel_rfl) Try.ntmps35 (by decide) (by decide) mixed tabOK cok_spec_reader_pick (by kernel_rfl) ?_
  intro vs kk _ hF
  exact i_spec_reader_pick (motive := fun vs => Goes (ev TT cs_spec_reader_pick 99 an_spec_reader_pick (Try.f35.body.getD .skip) (st0 con_spec_reader_pick vs) (fin TT con_spec_reader_pick Try.f35.results.toList [.c .sc] vs kk))) hF (fun r0b r0p n1 hF => goes_of (e_spec_reader_pick r0b r0p n1 kk) (F_spec_reader_pick_S hF))
def con_spec_reader_one : Con := ⟨[.mu, .rd], true, [.ptr [.sl .u8, .sc], .c (.sl .int)], fun vs k => match vs with
    | [.ptr [.ro .u8 r0b, .v (.int .i64 r0p)], .c (.ro .int list1)] => F_spec_reader_one r0b r0p list1 (fun r0 r1 r2 => k (.one (.c (.v (.int .i64 r0)))) [.ptr [.ro .u8 r1, .v (.int .i64 r2)]])
    | _ => False, false⟩
def cl_spec_reader_one : List (FuncId × Con) := [(35, con_spec_reader_pick)]
def an_spec_reader_one : Ann := ⟨[], [], [], []⟩
def cs_spec_reader_one : Cons := ⟨cl_spec_reader_one, [], 0, [], [], []⟩
def fin_spec_reader_one (r0b : List Int) (r0p : Int) (list1 : List Int) (kk : AV → List A1 → Prop) : Kt := fin TT con_spec_reader_one Try.f59.results.toList [.c .sc] [.ptr [.ro .u8 r0b, .v (.int .i64 r0p)], .c (.ro .int list1)] kk
theorem g_spec_reader_one (r0b : List Int) (r0p : Int) (list1 : List Int) (kk : AV → List A1 → Prop) :
    ev TT cs_spec_reader_one 12 an_spec_reader_one (Try.f59.body.getD .skip) (st0 con_spec_reader_one [.ptr [.ro .u8 r0b, .v (.int .i64 r0p)], .c (.ro .int list1)]) (fin TT con_spec_reader_one Try.f59.results.toList [.c .sc] [.ptr [.ro .u8 r0b, .v (.int .i64 r0p)], .c (.ro .int list1)] kk) = G_spec_reader_one r0b r0p list1 (fun r0 r1 r2 => kk (.one (.c (.v (.int .i64 r0)))) [.ptr [.ro .u8 r1, .v (.int .i64 r2)]]) := by kernel_rfl
theorem e_spec_reader_one (r0b : List Int) (r0p : Int) (list1 : List Int) (kk : AV → List A1 → Prop) :
    ev TT cs_spec_reader_one 12 an_spec_reader_one (Try.f59.body.getD .skip) (st0 con_spec_reader_one [.ptr [.ro .u8 r0b, .v (.int .i64 r0p)], .c (.ro .int list1)]) (fin TT con_spec_reader_one Try.f59.results.toList [.c .sc] [.ptr [.ro .u8 r0b, .v (.int .i64 r0p)], .c (.ro .int list1)] kk) = S_spec_reader_one r0b r0p list1 (fun r0 r1 r2 => kk (.one (.c (.v (.int .i64 r0)))) [.ptr [.ro .u8 r1, .v (.int .i64 r2)]]) := by
  rw [g_spec_reader_one]
  rfl
theorem clok_spec_reader_one : ConOK Try.prog cl_spec_reader_one := consCons h_spec_reader_pick ⟨Try.f35, Try.func35, by kernel_rfl, ne_of_beq (by kernel_rfl)⟩ (consNil)
theorem cok_spec_reader_one : ConsOK Try.prog 12 cs_spec_reader_one := ⟨clok_spec_reader_one, inlNil, ovNil⟩
theorem i_spec_reader_one {vs : List A1} {kk : AV → List A1 → Prop} {motive : List A1 → Prop} (h : con_spec_reader_one.F vs kk) (H : ∀ (r0b : List Int) (r0p : Int) (list1 : List Int), F_spec_reader_one r0b r0p list1 (fun r0 r1 r2 => kk (.one (.c (.v (.int .i64 r0)))) [.ptr [.ro .u8 r1, .v (.int .i64 r2)]]) → motive [.ptr [.ro .u8 r0b, .v (.int .i64 r0p)], .c (.ro .int list1)]) : motive vs := by
  unfold con_spec_reader_one at h
  dsimp only at h
  split at h
  · exact H _ _ _ h
  · exact h.elim
theorem h_spec_reader_one : Holds Try.prog 59 con_spec_reader_one := by
  refine holds_of_ev (rt := [.c .sc]) (T := TT) (Γ := cs_spec_reader_one) (an := an_spec_reader_one) (N := 12) (c := Try.f59.body.getD .skip) Try.func59 (by kernel_rfl) Try.ntmps59 (by decide) (by decide) mixed tabOK cok_spec_reader_one (by kernel_rfl) ?_
  intro vs kk _ hF
  exact i_spec_reader_one (motive := fun vs => Goes (ev TT cs_spec_reader_one 12 an_spec_reader_one (Try.f59.body.getD .skip) (st0 con_spec_reader_one vs) (fin TT con_spec_reader_one Try.f59.results.toList [.c .sc] vs kk))) hF (fun r0b r0p list1 hF => goes_of (e_spec_reader_one r0b r0p list1 kk) (F_spec_reader_one_S hF))
def con_spec_copyInts : Con := ⟨[.rd], true, [.c (.sl .int)], fun vs k => match vs with
    | [.c (.ro .int list0)] => F_spec_copyInts list0 (fun r0 => k (.one (.c (.ro .int r0))) [])
    | _ => False, false⟩
def cl_spec_copyInts : List (FuncId × Con) := []
def an_spec_copyInts : Ann := ⟨[], [], [], []⟩
def cs_spec_copyInts : Cons := ⟨cl_spec_copyInts, [], 0, [], [], []⟩
def fin_spec_copyInts (list0 : List Int) (kk : AV → List A1 → Prop) : Kt := fin TT con_spec_copyInts Try.f34.results.toList [.c (.sl .int)] [.c (.ro .int list0)] kk
theorem g_spec_copyInts (list0 : List Int) (kk : AV → List A1 → Prop) :
    ev TT cs_spec_copyInts 6 an_spec_copyInts (Try.f34.body.getD .skip) (st0 con_spec_copyInts [.c (.ro .int list0)]) (fin TT con_spec_copyInts Try.f34.results.toList [.c (.sl .int)] [.c (.ro .int list0)] kk) = G_spec_copyInts list0 (fun r0 => kk (.one (.c (.ro .int r0))) []) := by kernel_rfl
theorem e_spec_copyInts (list0 : List Int) (kk : AV → List A1 → Prop) :
    ev TT cs_spec_copyInts 6 an_spec_copyInts (Try.f34.body.getD .skip) (st0 con_spec_copyInts [.c (.ro .int list0)]) (fin TT con_spec_copyInts Try.f34.results.toList [.c (.sl .int)] [.c (.ro .int list0)] kk) = S_spec_copyInts list0 (fun r0 => kk (.one (.c (.ro .int r0))) []) := by
  rw [g_spec_copyInts]
  rfl
theorem clok_spec_copyInts : ConOK Try.prog cl_spec_copyInts := consNil
theorem cok_spec_copyInts : ConsOK Try.prog 6 cs_spec_copyInts := ⟨clok_spec_copyInts, inlNil, ovNil⟩
theorem i_spec_copyInts {vs : List A1} {kk : AV → List A1 → Prop} {motive : List A1 → Prop} (h : con_spec_copyInts.F vs kk) (H : ∀ (list0 : List Int), F_spec_copyInts list0 (fun r0 => kk (.one (.c (.ro .int r0))) []) → motive [.c (.ro .int list0)]) : motive vs := by
  unfold con_spec_copyInts at h
  dsimp only at h
  split at h
  · exact H _ h
  · exact h.elim
theorem h_spec_copyInts : Holds Try.prog 34 con_spec_copyInts := by
  refine holds_of_ev (rt := [.c (.sl .int)]) (T := TT) (Γ := cs_spec_copyInts) (an := an_spec_copyInts) (N := 6) (c := Try.f34.body.getD .skip) Try.func34 (by kernel_rfl) Try.ntmps34 (by decide) (by decide) mixed tabOK cok_spec_copyInts (by kernel_rfl) ?_
  intro vs kk _ hF
  exact i_spec_copyInts (motive := fun vs => Goes (ev TT cs_spec_copyInts 6 an_spec_copyInts (Try.f34.body.getD .skip) (st0 con_spec_copyInts vs) (fin TT con_spec_copyInts Try.f34.results.toList [.c (.sl .int)] vs kk))) hF (fun list0 hF => goes_of (e_spec_copyInts list0 kk) (F_spec_copyInts_S hF))
def con_spec_copyLists : Con := ⟨[.rd], true, [.agg [.sc, .sc, .sl .int, .sl .int, .sl .int, .sl .int]], fun vs k => match vs with
    | [.agg [.v (.int .i64 a0Room), .v (.int .i64 a0Target), .ro .int a0Once, .ro .int a0Often, .ro .int a0WasOnce, .ro .int a0WasOften]] => F_spec_copyLists a0Room a0Target a0Once a0Often a0WasOnce a0WasOften (fun r0 r1 r2 r3 r4 r5 => k (.one (.agg [.v (.int .i64 r0), .v (.int .i64 r1), .ro .int r2, .ro .int r3, .ro .int r4, .ro .int r5])) [])
    | _ => False, false⟩
def cl_spec_copyLists : List (FuncId × Con) := [(34, con_spec_copyInts)]
def an_spec_copyLists : Ann := ⟨[(1, .take 0 (.take 1 (.take 2 (.take 3 (.take 4 (.take 5 (.take 7 (.take 8 (.take 10 (.take 11 (.take 13 (.take 14 (.alt 6 (.alt 9 (.alt 12 (.alt 15 (.take 16 (.alt 17 (.done) (.none))) (.none)) (.none)) (.none)) (.none))))))))))))), [16])], [], [], []⟩
def cs_spec_copyLists : Cons := ⟨cl_spec_copyLists, [], 0, [], [], []⟩
def fin_spec_copyLists (a0Room : Int) (a0Target : Int) (a0Once : List Int) (a0Often : List Int) (a0WasOnce : List Int) (a0WasOften : List Int) (kk : AV → List A1 → Prop) : Kt := fin TT con_spec_copyLists Try.f56.results.toList [.agg [.sc, .sc, .sl .int, .sl .int, .sl .int, .sl .int]] [.agg [.v (.int .i64 a0Room), .v (.int .i64 a0Target), .ro .int a0Once, .ro .int a0Often, .ro .int a0WasOnce, .ro .int a0WasOften]] kk
theorem g_spec_copyLists (a0Room : Int) (a0Target : Int) (a0Once : List Int) (a0Often : List Int) (a0WasOnce : List Int) (a0WasOften : List Int) (kk : AV → List A1 → Prop) :
    ev TT cs_spec_copyLists 20 an_spec_copyLists (Try.f56.body.getD .skip) (st0 con_spec_copyLists [.agg [.v (.int .i64 a0Room), .v (.int .i64 a0Target), .ro .int a0Once, .ro .int a0Often, .ro .int a0WasOnce, .ro .int a0WasOften]]) (fin TT con_spec_copyLists Try.f56.results.toList [.agg [.sc, .sc, .sl .int, .sl .int, .sl .int, .sl .int]] [.agg [.v (.int .i64 a0Room), .v (.int .i64 a0Target), .ro .int a0Once, .ro .int a0Often, .ro .int a0WasOnce, .ro .int a0WasOften]] kk) = G_spec_copyLists a0Room a0Target a0Once a0Often a0WasOnce a0WasOften (fun r0 r1 r2 r3 r4 r5 => kk (.one (.agg [.v (.int .i64 r0), .v (.int .i64 r1), .ro .int r2, .ro .int r3, .ro .int r4, .ro .int r5])) []) := by kernel_rfl
theorem e_spec_copyLists (a0Room : Int) (a0Target : Int) (a0Once : List Int) (a0Often : List Int) (a0WasOnce : List Int) (a0WasOften : List Int) (kk : AV → List A1 → Prop) :
    ev TT cs_spec_copyLists 20 an_spec_copyLists (Try.f56.body.getD .skip) (st0 con_spec_copyLists [.agg [.v (.int .i64 a0Room), .v (.int .i64 a0Target), .ro .int a0Once, .ro .int a0Often, .ro .int a0WasOnce, .ro .int a0WasOften]]) (fin TT con_spec_copyLists Try.f56.results.toList [.agg [.sc, .sc, .sl .int, .sl .int, .sl .int, .sl .int]] [.agg [.v (.int .i64 a0Room), .v (.int .i64 a0Target), .ro .int a0Once, .ro .int a0Often, .ro .int a0WasOnce, .ro .int a0WasOften]] kk) = S_spec_copyLists a0Room a0Target a0Once a0Often a0WasOnce a0WasOften (fun r0 r1 r2 r3 r4 r5 => kk (.one (.agg [.v (.int .i64 r0), .v (.int .i64 r1), .ro .int r2, .ro .int r3, .ro .int r4, .ro .int r5])) []) := by
  rw [g_spec_copyLists]
  rw [G_spec_copyLists_eq]
  rfl
theorem clok_spec_copyLists : ConOK Try.prog cl_spec_copyLists := consCons h_spec_copyInts ⟨Try.f34, Try.func34, by kernel_rfl, ne_of_beq (by kernel_rfl)⟩ (consNil)
theorem cok_spec_copyLists : ConsOK Try.prog 20 cs_spec_copyLists := ⟨clok_spec_copyLists, inlNil, ovNil⟩
theorem i_spec_copyLists {vs : List A1} {kk : AV → List A1 → Prop} {motive : List A1 → Prop} (h : con_spec_copyLists.F vs kk) (H : ∀ (a0Room : Int) (a0Target : Int) (a0Once : List Int) (a0Often : List Int) (a0WasOnce : List Int) (a0WasOften : List Int), F_spec_copyLists a0Room a0Target a0Once a0Often a0WasOnce a0WasOften (fun r0 r1 r2 r3 r4 r5 => kk (.one (.agg [.v (.int .i64 r0), .v (.int .i64 r1), .ro .int r2, .ro .int r3, .ro .int r4, .ro .int r5])) []) → motive [.agg [.v (.int .i64 a0Room), .v (.int .i64 a0Target), .ro .int a0Once, .ro .int a0Often, .ro .int a0WasOnce, .ro .int a0WasOften]]) : motive vs := by
  unfold con_spec_copyLists at h
  dsimp only at h
  split at h
  · exact H _ _ _ _ _ _ h
  · exact h.elim
theorem h_spec_copyLists : Holds Try.prog 56 con_spec_copyLists := by
  refine holds_of_ev (rt := [.agg [.sc, .sc, .sl .int, .sl .int, .sl .int, .sl .int]]) (T := TT) (Γ := cs_spec_copyLists) (an := an_spec_copyLists) (N := 20) (c := Try.f56.body.getD .skip) Try.func56 (by kernel_rfl) Try.ntmps56 (by decide) (by decide) mixed tabOK cok_spec_copyLists (by kernel_rfl) ?_
  intro vs kk _ hF
  exact i_spec_copyLists (motive := fun vs => Goes (ev TT cs_spec_copyLists 20 an_spec_copyLists (Try.f56.body.getD .skip) (st0 con_spec_copyLists vs) (fin TT con_spec_copyLists Try.f56.results.toList [.agg [.sc, .sc, .sl .int, .sl .int, .sl .int, .sl .int]] vs kk))) hF (fun a0Room a0Target a0Once a0Often a0WasOnce a0WasOften hF => goes_of (e_spec_copyLists a0Room a0Target a0Once a0Often a0WasOnce a0WasOften kk) (F_spec_copyLists_S hF))
def con_spec_placeOf : Con := ⟨[.rd, .rd], true, [.c (.sl .int), .c (.sc)], fun vs k => match vs with
    | [.c (.ro .int list0), .c (.v (.int .i64 n1))] => F_spec_placeOf list0 n1 (fun r0 => k (.one (.c (.v (.int .i64 r0)))) [])
    | _ => False, false⟩
def cl_spec_placeOf : List (FuncId × Con) := []
def nm0_spec_placeOf : List NStep := [.keep [0, 1, 5] []]
def an_spec_placeOf : Ann := ⟨[], [(2, nm0_spec_placeOf)], [], []⟩
def cs_spec_placeOf : Cons := ⟨cl_spec_placeOf, [], 0, [], [], []⟩
def can0_spec_placeOf (list0 : List Int) (n1 : Int) (xi5 : Int) : St := ⟨[(0, .one (.c (.ro .int list0))), (1, .one (.c (.v (.int .i64 n1)))), (5, .one (.c (.v (.int .i64 xi5))))], []⟩
def fin_spec_placeOf (list0 : List Int) (n1 : Int) (kk : AV → List A1 → Prop) : Kt := fin TT con_spec_placeOf Try.f69.results.toList [.c .sc] [.c (.ro .int list0), .c (.v (.int .i64 n1))] kk
def kt0_spec_placeOf (kf : Kt) : Kt := blockK 0 (seqK (evF TT cs_spec_placeOf 19 an_spec_placeOf Try.f69 [1, 1]) (kf))
theorem r0_spec_placeOf (list0 : List Int) (n1 : Int) (kk : AV → List A1 → Prop) (n : Nat) (xi5 : Int) :
    iter (evF TT cs_spec_placeOf 19 an_spec_placeOf Try.f69 [1, 0, 1, 0, 0]) nm0_spec_placeOf (kt0_spec_placeOf (fin_spec_placeOf list0 n1 kk)) (n + 1) (can0_spec_placeOf list0 n1 xi5) = T0_spec_placeOf list0 n1 xi5 (fun r0 => kk (.one (.c (.v (.int .i64 r0)))) []) (fun xi5 => iter (evF TT cs_spec_placeOf 19 an_spec_placeOf Try.f69 [1, 0, 1, 0, 0]) nm0_spec_placeOf (kt0_spec_placeOf (fin_spec_placeOf list0 n1 kk)) n (can0_spec_placeOf list0 n1 xi5)) := by kernel_rfl
theorem l0_spec_placeOf (list0 : List Int) (n1 : Int) (kk : AV → List A1 → Prop) : ∀ (n : Nat) (xi5 : Int), iter (evF TT cs_spec_placeOf 19 an_spec_placeOf Try.f69 [1, 0, 1, 0, 0]) nm0_spec_placeOf (kt0_spec_placeOf (fin_spec_placeOf list0 n1 kk)) n (can0_spec_placeOf list0 n1 xi5) = L0_spec_placeOf list0 n1 (fun r0 => kk (.one (.c (.v (.int .i64 r0)))) []) n xi5 := by
  intro n
  induction n with
  | zero => intros; rfl
  | succ n ih =>
    intro xi5
    rw [r0_spec_placeOf list0 n1 kk n xi5]
    have hb : (fun xi5 => iter (evF TT cs_spec_placeOf 19 an_spec_placeOf Try.f69 [1, 0, 1, 0, 0]) nm0_spec_placeOf (kt0_spec_placeOf (fin_spec_placeOf list0 n1 kk)) n (can0_spec_placeOf list0 n1 xi5)) = L0_spec_placeOf list0 n1 (fun r0 => kk (.one (.c (.v (.int .i64 r0)))) []) n := by
      funext xi5; exact ih xi5
    rw [hb]
    rfl
theorem g_spec_placeOf (list0 : List Int) (n1 : Int) (kk : AV → List A1 → Prop) :
    ev TT cs_spec_placeOf 19 an_spec_placeOf (Try.f69.body.getD .skip) (st0 con_spec_placeOf [.c (.ro .int list0), .c (.v (.int .i64 n1))]) (fin TT con_spec_placeOf Try.f69.results.toList [.c .sc] [.c (.ro .int list0), .c (.v (.int .i64 n1))] kk) = G_spec_placeOf list0 n1 (fun list0 n1 xi5 => ∃ j, iter (evF TT cs_spec_placeOf 19 an_spec_placeOf Try.f69 [1, 0, 1, 0, 0]) nm0_spec_placeOf (kt0_spec_placeOf (fin_spec_placeOf list0 n1 kk)) j (can0_spec_placeOf list0 n1 xi5)) := by kernel_rfl
theorem e_spec_placeOf (list0 : List Int) (n1 : Int) (kk : AV → List A1 → Prop) :
    ev TT cs_spec_placeOf 19 an_spec_placeOf (Try.f69.body.getD .skip) (st0 con_spec_placeOf [.c (.ro .int list0), .c (.v (.int .i64 n1))]) (fin TT con_spec_placeOf Try.f69.results.toList [.c .sc] [.c (.ro .int list0), .c (.v (.int .i64 n1))] kk) = S_spec_placeOf list0 n1 (fun r0 => kk (.one (.c (.v (.int .i64 r0)))) []) := by
  rw [g_spec_placeOf]
  have hi0 : (fun list0 n1 xi5 => ∃ j, iter (evF TT cs_spec_placeOf 19 an_spec_placeOf Try.f69 [1, 0, 1, 0, 0]) nm0_spec_placeOf (kt0_spec_placeOf (fin_spec_placeOf list0 n1 kk)) j (can0_spec_placeOf list0 n1 xi5)) = (fun list0 n1 xi5 => ∃ j, L0_spec_placeOf list0 n1 (fun r0 => kk (.one (.c (.v (.int .i64 r0)))) []) j xi5) := by
    funext list0 n1 xi5
    refine congrArg Exists (funext fun j => ?_)
    rw [l0_spec_placeOf list0 n1 kk j xi5]
  rw [hi0]
  rfl
theorem clok_spec_placeOf : ConOK Try.prog cl_spec_placeOf := consNil
theorem cok_spec_placeOf : ConsOK Try.prog 19 cs_spec_placeOf := ⟨clok_spec_placeOf, inlNil, ovNil⟩
theorem i_spec_placeOf {vs : List A1} {kk : AV → List A1 → Prop} {motive : List A1 → Prop} (h : con_spec_placeOf.F vs kk) (H : ∀ (list0 : List Int) (n1 : Int), F_spec_placeOf list0 n1 (fun r0 => kk (.one (.c (.v (.int .i64 r0)))) []) → motive [.c (.ro .int list0), .c (.v (.int .i64 n1))]) : motive vs := by
  unfold con_spec_placeOf at h
  dsimp only at h
  split at h
  · exact H _ _ h
  · exact h.elim
theorem h_spec_placeOf : Holds Try.prog 69 con_spec_placeOf := by
  refine holds_of_ev (rt := [.c .sc]) (T := TT) (Γ := cs_spec_placeOf) (an := an_spec_placeOf) (N := 19) (c := Try.f69.body.getD .skip) Try.func69 (by kernel_rfl) Try.ntmps69 (by decide) (by decide) mixed tabOK cok_spec_placeOf (by kernel_rfl) ?_
  intro vs kk _ hF
  exact i_spec_placeOf (motive := fun vs => Goes (ev TT cs_spec_placeOf 19 an_spec_placeOf (Try.f69.body.getD .skip) (st0 con_spec_placeOf vs) (fin TT con_spec_placeOf Try.f69.results.toList [.c .sc] vs kk))) hF (fun list0 n1 hF => goes_of (e_spec_placeOf list0 n1 kk) (F_spec_placeOf_S hF))
def con_spec_isIn : Con := ⟨[.rd, .rd], true, [.c (.sl .int), .c (.sc)], fun vs k => match vs with
    | [.c (.ro .int list0), .c (.v (.int .i64 n1))] => F_spec_isIn list0 n1 (fun r0 => k (.one (.c (.v (.bool r0)))) [])
    | _ => False, false⟩
def cl_spec_isIn : List (FuncId × Con) := [(69, con_spec_placeOf)]
def an_spec_isIn : Ann := ⟨[], [], [], []⟩
def cs_spec_isIn : Cons := ⟨cl_spec_isIn, [], 0, [], [], []⟩
def fin_spec_isIn (list0 : List Int) (n1 : Int) (kk : AV → List A1 → Prop) : Kt := fin TT con_spec_isIn Try.f67.results.toList [.c .sc] [.c (.ro .int list0), .c (.v (.int .i64 n1))] kk
theorem g_spec_isIn (list0 : List Int) (n1 : Int) (kk : AV → List A1 → Prop) :
    ev TT cs_spec_isIn 9 an_spec_isIn (Try.f67.body.getD .skip) (st0 con_spec_isIn [.c (.ro .int list0), .c (.v (.int .i64 n1))]) (fin TT con_spec_isIn Try.f67.results.toList [.c .sc] [.c (.ro .int list0), .c (.v (.int .i64 n1))] kk) = G_spec_isIn list0 n1 (fun r0 => kk (.one (.c (.v (.bool r0)))) []) := by kernel_rfl
theorem e_spec_isIn (list0 : List Int) (n1 : Int) (kk : AV → List A1 → Prop) :
    ev TT cs_spec_isIn 9 an_spec_isIn (Try.f67.body.getD .skip) (st0 con_spec_isIn [.c (.ro .int list0), .c (.v (.int .i64 n1))]) (fin TT con_spec_isIn Try.f67.results.toList [.c .sc] [.c (.ro .int list0), .c (.v (.int .i64 n1))] kk) = S_spec_isIn list0 n1 (fun r0 => kk (.one (.c (.v (.bool r0)))) []) := by
  rw [g_spec_isIn]
  rfl
theorem clok_spec_isIn : ConOK Try.prog cl_spec_isIn := consCons h_spec_placeOf ⟨Try.f69, Try.func69, by kernel_rfl, ne_of_beq (by kernel_rfl)⟩ (consNil)
theorem cok_spec_isIn : ConsOK Try.prog 9 cs_spec_isIn := ⟨clok_spec_isIn, inlNil, ovNil⟩
theorem i_spec_isIn {vs : List A1} {kk : AV → List A1 → Prop} {motive : List A1 → Prop} (h : con_spec_isIn.F vs kk) (H : ∀ (list0 : List Int) (n1 : Int), F_spec_isIn list0 n1 (fun r0 => kk (.one (.c (.v (.bool r0)))) []) → motive [.c (.ro .int list0), .c (.v (.int .i64 n1))]) : motive vs := by
  unfold con_spec_isIn at h
  dsimp only at h
  split at h
  · exact H _ _ h
  · exact h.elim
theorem h_spec_isIn : Holds Try.prog 67 con_spec_isIn := by
  refine holds_of_ev (rt := [.c .sc]) (T := TT) (Γ := cs_spec_isIn) (an := an_spec_isIn) (N := 9) (c := Try.f67.body.getD .skip) Try.func67 (by kernel_rfl) Try.ntmps67 (by decide) (by decide) mixed tabOK cok_spec_isIn (by kernel_rfl) ?_
  intro vs kk _ hF
  exact i_spec_isIn (motive := fun vs => Goes (ev TT cs_spec_isIn 9 an_spec_isIn (Try.f67.body.getD .skip) (st0 con_spec_isIn vs) (fin TT con_spec_isIn Try.f67.results.toList [.c .sc] vs kk))) hF (fun list0 n1 hF => goes_of (e_spec_isIn list0 n1 kk) (F_spec_isIn_S hF))
def con_spec_without : Con := ⟨[.rd, .rd], true, [.c (.sl .int), .c (.sc)], fun vs k => match vs with
    | [.c (.ro .int list0), .c (.v (.int .i64 at1))] => F_spec_without list0 at1 (fun r0 => k (.one (.c (.ro .int r0))) [])
    | _ => False, false⟩
def cl_spec_without : List (FuncId × Con) := []
def an_spec_without : Ann := ⟨[(1, .take 1 (.take 2 (.take 3 (.take 5 (.take 6 (.take 7 (.take 8 (.alt 0 (.alt 4 (.alt 9 (.take 10 (.done)) (.none)) (.none)) (.none)))))))), [])], [], [], []⟩
def cs_spec_without : Cons := ⟨cl_spec_without, [], 0, [], [], []⟩
def fin_spec_without (list0 : List Int) (at1 : Int) (kk : AV → List A1 → Prop) : Kt := fin TT con_spec_without Try.f68.results.toList [.c (.sl .int)] [.c (.ro .int list0), .c (.v (.int .i64 at1))] kk
theorem g_spec_without (list0 : List Int) (at1 : Int) (kk : AV → List A1 → Prop) :
    ev TT cs_spec_without 15 an_spec_without (Try.f68.body.getD .skip) (st0 con_spec_without [.c (.ro .int list0), .c (.v (.int .i64 at1))]) (fin TT con_spec_without Try.f68.results.toList [.c (.sl .int)] [.c (.ro .int list0), .c (.v (.int .i64 at1))] kk) = G_spec_without list0 at1 (fun r0 => kk (.one (.c (.ro .int r0))) []) := by kernel_rfl
theorem e_spec_without (list0 : List Int) (at1 : Int) (kk : AV → List A1 → Prop) :
    ev TT cs_spec_without 15 an_spec_without (Try.f68.body.getD .skip) (st0 con_spec_without [.c (.ro .int list0), .c (.v (.int .i64 at1))]) (fin TT con_spec_without Try.f68.results.toList [.c (.sl .int)] [.c (.ro .int list0), .c (.v (.int .i64 at1))] kk) = S_spec_without list0 at1 (fun r0 => kk (.one (.c (.ro .int r0))) []) := by
  rw [g_spec_without]
  rw [G_spec_without_eq]
  rfl
theorem clok_spec_without : ConOK Try.prog cl_spec_without := consNil
theorem cok_spec_without : ConsOK Try.prog 15 cs_spec_without := ⟨clok_spec_without, inlNil, ovNil⟩
theorem i_spec_without {vs : List A1} {kk : AV → List A1 → Prop} {motive : List A1 → Prop} (h : con_spec_without.F vs kk) (H : ∀ (list0 : List Int) (at1 : Int), F_spec_without list0 at1 (fun r0 => kk (.one (.c (.ro .int r0))) []) → motive [.c (.ro .int list0), .c (.v (.int .i64 at1))]) : motive vs := by
  unfold con_spec_without at h
  dsimp only at h
  split at h
  · exact H _ _ h
  · exact h.elim
theorem h_spec_without : Holds Try.prog 68 con_spec_without := by
  refine holds_of_ev (rt := [.c (.sl .int)]) (T := TT) (Γ := cs_spec_without) (an := an_spec_without) (N := 15) (c := Try.f68.body.getD .skip) Try.func68 (by kernel_rfl) Try.ntmps68 (by decide) (by decide) mixed tabOK cok_spec_without (by kernel_rfl) ?_
  intro vs kk _ hF
  exact i_spec_without (motive := fun vs => Goes (ev TT cs_spec_without 15 an_spec_without (Try.f68.body.getD .skip) (st0 con_spec_without vs) (fin TT con_spec_without Try.f68.results.toList [.c (.sl .int)] vs kk))) hF (fun list0 at1 hF => goes_of (e_spec_without list0 at1 kk) (F_spec_without_S hF))
def con_spec_front : Con := ⟨[.rd, .rd], true, [.c (.sl .int), .c (.sc)], fun vs k => match vs with
    | [.c (.ro .int list0), .c (.v (.int .i64 n1))] => F_spec_front list0 n1 (fun r0 => k (.one (.c (.ro .int r0))) [])
    | _ => False, false⟩
def cl_spec_front : List (FuncId × Con) := []
def an_spec_front : Ann := ⟨[], [], [], []⟩
def cs_spec_front : Cons := ⟨cl_spec_front, [], 0, [], [], []⟩
def fin_spec_front (list0 : List Int) (n1 : Int) (kk : AV → List A1 → Prop) : Kt := fin TT con_spec_front Try.f70.results.toList [.c (.sl .int)] [.c (.ro .int list0), .c (.v (.int .i64 n1))] kk
theorem g_spec_front (list0 : List Int) (n1 : Int) (kk : AV → List A1 → Prop) :
    ev TT cs_spec_front 9 an_spec_front (Try.f70.body.getD .skip) (st0 con_spec_front [.c (.ro .int list0), .c (.v (.int .i64 n1))]) (fin TT con_spec_front Try.f70.results.toList [.c (.sl .int)] [.c (.ro .int list0), .c (.v (.int .i64 n1))] kk) = G_spec_front list0 n1 (fun r0 => kk (.one (.c (.ro .int r0))) []) := by kernel_rfl
theorem e_spec_front (list0 : List Int) (n1 : Int) (kk : AV → List A1 → Prop) :
    ev TT cs_spec_front 9 an_spec_front (Try.f70.body.getD .skip) (st0 con_spec_front [.c (.ro .int list0), .c (.v (.int .i64 n1))]) (fin TT con_spec_front Try.f70.results.toList [.c (.sl .int)] [.c (.ro .int list0), .c (.v (.int .i64 n1))] kk) = S_spec_front list0 n1 (fun r0 => kk (.one (.c (.ro .int r0))) []) := by
  rw [g_spec_front]
  rfl
theorem clok_spec_front : ConOK Try.prog cl_spec_front := consNil
theorem cok_spec_front : ConsOK Try.prog 9 cs_spec_front := ⟨clok_spec_front, inlNil, ovNil⟩
theorem i_spec_front {vs : List A1} {kk : AV → List A1 → Prop} {motive : List A1 → Prop} (h : con_spec_front.F vs kk) (H : ∀ (list0 : List Int) (n1 : Int), F_spec_front list0 n1 (fun r0 => kk (.one (.c (.ro .int r0))) []) → motive [.c (.ro .int list0), .c (.v (.int .i64 n1))]) : motive vs := by
  unfold con_spec_front at h
  dsimp only at h
  split at h
  · exact H _ _ h
  · exact h.elim
theorem h_spec_front : Holds Try.prog 70 con_spec_front := by
  refine holds_of_ev (rt := [.c (.sl .int)]) (T := TT) (Γ := cs_spec_front) (an := an_spec_front) (N := 9) (c := Try.f70.body.getD .skip) Try.func70 (by kernel_rfl) Try.ntmps70 (by decide) (by decide) mixed tabOK cok_spec_front (by kernel_rfl) ?_
  intro vs kk _ hF
  exact i_spec_front (motive := fun vs => Goes (ev TT cs_spec_front 9 an_spec_front (Try.f70.body.getD .skip) (st0 con_spec_front vs) (fin TT con_spec_front Try.f70.results.toList [.c (.sl .int)] vs kk))) hF (fun list0 n1 hF => goes_of (e_spec_front list0 n1 kk) (F_spec_front_S hF))
def con_spec_isFull : Con := ⟨[.rd], true, [.agg [.sc, .sc, .sl .int, .sl .int, .sl .int, .sl .int]], fun vs k => match vs with
    | [.agg [.v (.int .i64 a0Room), .v (.int .i64 a0Target), .ro .int a0Once, .ro .int a0Often, .ro .int a0WasOnce, .ro .int a0WasOften]] => F_spec_isFull a0Room a0Target a0Once a0Often a0WasOnce a0WasOften (fun r0 => k (.one (.c (.v (.bool r0)))) [])
    | _ => False, false⟩
def cl_spec_isFull : List (FuncId × Con) := []
def an_spec_isFull : Ann := ⟨[], [], [], []⟩
def cs_spec_isFull : Cons := ⟨cl_spec_isFull, [], 0, [], [], []⟩
def fin_spec_isFull (a0Room : Int) (a0Target : Int) (a0Once : List Int) (a0Often : List Int) (a0WasOnce : List Int) (a0WasOften : List Int) (kk : AV → List A1 → Prop) : Kt := fin TT con_spec_isFull Try.f71.results.toList [.c .sc] [.agg [.v (.int .i64 a0Room), .v (.int .i64 a0Target), .ro .int a0Once, .ro .int a0Often, .ro .int a0WasOnce, .ro .int a0WasOften]] kk
theorem g_spec_isFull (a0Room : Int) (a0Target : Int) (a0Once : List Int) (a0Often : List Int) (a0WasOnce : List Int) (a0WasOften : List Int) (kk : AV → List A1 → Prop) :
    ev TT cs_spec_isFull 13 an_spec_isFull (Try.f71.body.getD .skip) (st0 con_spec_isFull [.agg [.v (.int .i64 a0Room), .v (.int .i64 a0Target), .ro .int a0Once, .ro .int a0Often, .ro .int a0WasOnce, .ro .int a0WasOften]]) (fin TT con_spec_isFull Try.f71.results.toList [.c .sc] [.agg [.v (.int .i64 a0Room), .v (.int .i64 a0Target), .ro .int a0Once, .ro .int a0Often, .ro .int a0WasOnce, .ro .int a0WasOften]] kk) = G_spec_isFull a0Room a0Target a0Once a0Often a0WasOnce a0WasOften (fun r0 => kk (.one (.c (.v (.bool r0)))) []) := by kernel_rfl
theorem e_spec_isFull (a0Room : Int) (a0Target : Int) (a0Once : List Int) (a0Often : List Int) (a0WasOnce : List Int) (a0WasOften : List Int) (kk : AV → List A1 → Prop) :
    ev TT cs_spec_isFull 13 an_spec_isFull (Try.f71.body.getD .skip) (st0 con_spec_isFull [.agg [.v (.int .i64 a0Room), .v (.int .i64 a0Target), .ro .int a0Once, .ro .int a0Often, .ro .int a0WasOnce, .ro .int a0WasOften]]) (fin TT con_spec_isFull Try.f71.results.toList [.c .sc] [.agg [.v (.int .i64 a0Room), .v (.int .i64 a0Target), .ro .int a0Once, .ro .int a0Often, .ro .int a0WasOnce, .ro .int a0WasOften]] kk) = S_spec_isFull a0Room a0Target a0Once a0Often a0WasOnce a0WasOften (fun r0 => kk (.one (.c (.v (.bool r0)))) []) := by
  rw [g_spec_isFull]
  rfl
theorem clok_spec_isFull : ConOK Try.prog cl_spec_isFull := consNil
theorem cok_spec_isFull : ConsOK Try.prog 13 cs_spec_isFull := ⟨clok_spec_isFull, inlNil, ovNil⟩
theorem i_spec_isFull {vs : List A1} {kk : AV → List A1 → Prop} {motive : List A1 → Prop} (h : con_spec_isFull.F vs kk) (H : ∀ (a0Room : Int) (a0Target : Int) (a0Once : List Int) (a0Often : List Int) (a0WasOnce : List Int) (a0WasOften : List Int), F_spec_isFull a0Room a0Target a0Once a0Often a0WasOnce a0WasOften (fun r0 => kk (.one (.c (.v (.bool r0)))) []) → motive [.agg [.v (.int .i64 a0Room), .v (.int .i64 a0Target), .ro .int a0Once, .ro .int a0Often, .ro .int a0WasOnce, .ro .int a0WasOften]]) : motive vs := by
  unfold con_spec_isFull at h
  dsimp only at h
  split at h
  · exact H _ _ _ _ _ _ h
  · exact h.elim
theorem h_spec_isFull : Holds Try.prog 71 con_spec_isFull := by
  refine holds_of_ev (rt := [.c .sc]) (T := TT) (Γ := cs_spec_isFull) (an := an_spec_isFull) (N := 13) (c := Try.f71.body.getD .skip) Try.func71 (by kernel_rfl) Try.ntmps71 (by decide) (by decide) mixed tabOK cok_spec_isFull (by kernel_rfl) ?_
  intro vs kk _ hF
  exact i_spec_isFull (motive := fun vs => Goes (ev TT cs_spec_isFull 13 an_spec_isFull (Try.f71.body.getD .skip) (st0 con_spec_isFull vs) (fin TT con_spec_isFull Try.f71.results.toList [.c .sc] vs kk))) hF (fun a0Room a0Target a0Once a0Often a0WasOnce a0WasOften hF => goes_of (e_spec_isFull a0Room a0Target a0Once a0Often a0WasOnce a0WasOften kk) (F_spec_isFull_S hF))
def con_spec_makeRoom : Con := ⟨[.rd, .rd], false, [.agg [.sc, .sc, .sl .int, .sl .int, .sl .int, .sl .int], .c (.sc)], fun vs k => match vs with
    | [.agg [.v (.int .i64 a0Room), .v (.int .i64 a0Target), .ro .int a0Once, .ro .int a0Often, .ro .int a0WasOnce, .ro .int a0WasOften], .c (.v (.bool was1))] => F_spec_makeRoom a0Room a0Target a0Once a0Often a0WasOnce a0WasOften was1 (fun r0 r1 r2 r3 r4 r5 => k (.one (.agg [.v (.int .i64 r0), .v (.int .i64 r1), .ro .int r2, .ro .int r3, .ro .int r4, .ro .int r5])) [])
    | _ => False, false⟩
def cl_spec_makeRoom : List (FuncId × Con) := [(70, con_spec_front)]
def an_spec_makeRoom : Ann := ⟨[(3, .take 0 (.take 2 (.take 4 (.take 5 (.alt 1 (.alt 3 (.take 6 (.take 7 (.alt 8 (.take 9 (.alt 10 (.done) (.none))) (.none)))) (.none)) (.alt 3 (.take 6 (.take 7 (.alt 1 (.alt 8 (.take 9 (.alt 10 (.done) (.none))) (.none)) (.none)))) (.none)))))), []), (7, .take 0 (.take 2 (.take 4 (.take 5 (.alt 1 (.alt 3 (.take 6 (.take 7 (.alt 8 (.take 9 (.alt 10 (.done) (.none))) (.none)))) (.none)) (.alt 3 (.take 6 (.take 7 (.alt 1 (.alt 8 (.take 9 (.alt 10 (.done) (.none))) (.none)) (.none)))) (.none)))))), [])], [], [], []⟩
def cs_spec_makeRoom : Cons := ⟨cl_spec_makeRoom, [], 0, [], [], []⟩
def fin_spec_makeRoom (a0Room : Int) (a0Target : Int) (a0Once : List Int) (a0Often : List Int) (a0WasOnce : List Int) (a0WasOften : List Int) (was1 : Bool) (kk : AV → List A1 → Prop) : Kt := fin TT con_spec_makeRoom Try.f72.results.toList [.agg [.sc, .sc, .sl .int, .sl .int, .sl .int, .sl .int]] [.agg [.v (.int .i64 a0Room), .v (.int .i64 a0Target), .ro .int a0Once, .ro .int a0Often, .ro .int a0WasOnce, .ro .int a0WasOften], .c (.v (.bool was1))] kk
theorem g_spec_makeRoom (a0Room : Int) (a0Target : Int) (a0Once : List Int) (a0Often : List Int) (a0WasOnce : List Int) (a0WasOften : List Int) (was1 : Bool) (kk : AV → List A1 → Prop) :
    ev TT cs_spec_makeRoom 69 an_spec_makeRoom (Try.f72.body.getD .skip) (st0 con_spec_makeRoom [.agg [.v (.int .i64 a0Room), .v (.int .i64 a0Target), .ro .int a0Once, .ro .int a0Often, .ro .int a0WasOnce, .ro .int a0WasOften], .c (.v (.bool was1))]) (fin TT con_spec_makeRoom Try.f72.results.toList [.agg [.sc, .sc, .sl .int, .sl .int, .sl .int, .sl .int]] [.agg [.v (.int .i64 a0Room), .v (.int .i64 a0Target), .ro .int a0Once, .ro .int a0Often, .ro .int a0WasOnce, .ro .int a0WasOften], .c (.v (.bool was1))] kk) = G_spec_makeRoom a0Room a0Target a0Once a0Often a0WasOnce a0WasOften was1 (fun r0 r1 r2 r3 r4 r5 => kk (.one (.agg [.v (.int .i64 r0), .v (.int .i64 r1), .ro .int r2, .ro .int r3, .ro .int r4, .ro .int r5])) []) := by kernel_rfl
theorem e_spec_makeRoom (a0Room : Int) (a0Target : Int) (a0Once : List Int) (a0Often : List Int) (a0WasOnce : List Int) (a0WasOften : List Int) (was1 : Bool) (kk : AV → List A1 → Prop) :
    ev TT cs_spec_makeRoom 69 an_spec_makeRoom (Try.f72.body.getD .skip) (st0 con_spec_makeRoom [.agg [.v (.int .i64 a0Room), .v (.int .i64 a0Target), .ro .int a0Once, .ro .int a0Often, .ro .int a0WasOnce, .ro .int a0WasOften], .c (.v (.bool was1))]) (fin TT con_spec_makeRoom Try.f72.results.toList [.agg [.sc, .sc, .sl .int, .sl .int, .sl .int, .sl .int]] [.agg [.v (.int .i64 a0Room), .v (.int .i64 a0Target), .ro .int a0Once, .ro .int a0Often, .ro .int a0WasOnce, .ro .int a0WasOften], .c (.v (.bool was1))] kk) = S_spec_makeRoom a0Room a0Target a0Once a0Often a0WasOnce a0WasOften was1 (fun r0 r1 r2 r3 r4 r5 => kk (.one (.agg [.v (.int .i64 r0), .v (.int .i64 r1), .ro .int r2, .ro .int r3, .ro .int r4, .ro .int r5])) []) := by
  rw [g_spec_makeRoom]
  rw [G_spec_makeRoom_eq]
  rfl
theorem clok_spec_makeRoom : ConOK Try.prog cl_spec_makeRoom := consCons h_spec_front ⟨Try.f70, Try.func70, by kernel_rfl, ne_of_beq (by kernel_rfl)⟩ (consNil)
theorem cok_spec_makeRoom : ConsOK Try.prog 69 cs_spec_makeRoom := ⟨clok_spec_makeRoom, inlNil, ovNil⟩
theorem i_spec_makeRoom {vs : List A1} {kk : AV → List A1 → Prop} {motive : List A1 → Prop} (h : con_spec_makeRoom.F vs kk) (H : ∀ (a0Room : Int) (a0Target : Int) (a0Once : List Int) (a0Often : List Int) (a0WasOnce : List Int) (a0WasOften : List Int) (was1 : Bool), F_spec_makeRoom a0Room a0Target a0Once a0Often a0WasOnce a0WasOften was1 (fun r0 r1 r2 r3 r4 r5 => kk (.one (.agg [.v (.int .i64 r0), .v (.int .i64 r1), .ro .int r2, .ro .int r3, .ro .int r4, .ro .int r5])) []) → motive [.agg [.v (.int .i64 a0Room), .v (.int .i64 a0Target), .ro .int a0Once, .ro .int a0Often, .ro .int a0WasOnce, .ro .int a0WasOften], .c (.v (.bool was1))]) : motive vs := by
  unfold con_spec_makeRoom at h
  dsimp only at h
  split at h
  · exact H _ _ _ _ _ _ _ h
  · exact h.elim
theorem h_spec_makeRoom : Holds Try.prog 72 con_spec_makeRoom := by
  refine holds_of_ev (rt := [.agg [.sc, .sc, .sl .int, .sl .int, .sl .int, .sl .int]]) (T := TT) (Γ := cs_spec_makeRoom) (an := an_spec_makeRoom) (N := 69) (c := Try.f72.body.getD .skip) Try.func72 (by kernel_rfl) Try.ntmps72 (by decide) (by decide) mixed tabOK cok_spec_makeRoom (by kernel_rfl) ?_
  intro vs kk _ hF
  exact i_spec_makeRoom (motive := fun vs => Goes (ev TT cs_spec_makeRoom 69 an_spec_makeRoom (Try.f72.body.getD .skip) (st0 con_spec_makeRoom vs) (fin TT con_spec_makeRoom Try.f72.results.toList [.agg [.sc, .sc, .sl .int, .sl .int, .sl .int, .sl .int]] vs kk))) hF (fun a0Room a0Target a0Once a0Often a0WasOnce a0WasOften was1 hF => goes_of (e_spec_makeRoom a0Room a0Target a0Once a0Often a0WasOnce a0WasOften was1 kk) (F_spec_makeRoom_S hF))
def con_spec_fresh : Con := ⟨[.rd, .rd], false, [.agg [.sc, .sc, .sl .int, .sl .int, .sl .int, .sl .int], .c (.sc)], fun vs k => match vs with
    | [.agg [.v (.int .i64 a0Room), .v (.int .i64 a0Target), .ro .int a0Once, .ro .int a0Often, .ro .int a0WasOnce, .ro .int a0WasOften], .c (.v (.int .i64 key1))] => F_spec_fresh a0Room a0Target a0Once a0Often a0WasOnce a0WasOften key1 (fun r0 r1 r2 r3 r4 r5 => k (.one (.agg [.v (.int .i64 r0), .v (.int .i64 r1), .ro .int r2, .ro .int r3, .ro .int r4, .ro .int r5])) [])
    | _ => False, false⟩
def cl_spec_fresh : List (FuncId × Con) := [(70, con_spec_front), (71, con_spec_isFull), (72, con_spec_makeRoom)]
def an_spec_fresh : Ann := ⟨[], [], [], []⟩
def cs_spec_fresh : Cons := ⟨cl_spec_fresh, [], 0, [], [], []⟩
def fin_spec_fresh (a0Room : Int) (a0Target : Int) (a0Once : List Int) (a0Often : List Int) (a0WasOnce : List Int) (a0WasOften : List Int) (key1 : Int) (kk : AV → List A1 → Prop) : Kt := fin TT con_spec_fresh Try.f73.results.toList [.agg [.sc, .sc, .sl .int, .sl .int, .sl .int, .sl .int]] [.agg [.v (.int .i64 a0Room), .v (.int .i64 a0Target), .ro .int a0Once, .ro .int a0Often, .ro .int a0WasOnce, .ro .int a0WasOften], .c (.v (.int .i64 key1))] kk
theorem g_spec_fresh (a0Room : Int) (a0Target : Int) (a0Once : List Int) (a0Often : List Int) (a0WasOnce : List Int) (a0WasOften : List Int) (key1 : Int) (kk : AV → List A1 → Prop) :
    ev TT cs_spec_fresh 80 an_spec_fresh (Try.f73.body.getD .skip) (st0 con_spec_fresh [.agg [.v (.int .i64 a0Room), .v (.int .i64 a0Target), .ro .int a0Once, .ro .int a0Often, .ro .int a0WasOnce, .ro .int a0WasOften], .c (.v (.int .i64 key1))]) (fin TT con_spec_fresh Try.f73.results.toList [.agg [.sc, .sc, .sl .int, .sl .int, .sl .int, .sl .int]] [.agg [.v (.int .i64 a0Room), .v (.int .i64 a0Target), .ro .int a0Once, .ro .int a0Often, .ro .int a0WasOnce, .ro .int a0WasOften], .c (.v (.int .i64 key1))] kk) = G_spec_fresh a0Room a0Target a0Once a0Often a0WasOnce a0WasOften key1 (fun r0 r1 r2 r3 r4 r5 => kk (.one (.agg [.v (.int .i64 r0), .v (.int .i64 r1), .ro .int r2, .ro .int r3, .ro .int r4, .ro .int r5])) []) := by kernel_rfl
theorem e_spec_fresh (a0Room : Int) (a0Target : Int) (a0Once : List Int) (a0Often : List Int) (a0WasOnce : List Int) (a0WasOften : List Int) (key1 : Int) (kk : AV → List A1 → Prop) :
    ev TT cs_spec_fresh 80 an_spec_fresh (Try.f73.body.getD .skip) (st0 con_spec_fresh [.agg [.v (.int .i64 a0Room), .v (.int .i64 a0Target), .ro .int a0Once, .ro .int a0Often, .ro .int a0WasOnce, .ro .int a0WasOften], .c (.v (.int .i64 key1))]) (fin TT con_spec_fresh Try.f73.results.toList [.agg [.sc, .sc, .sl .int, .sl .int, .sl .int, .sl .int]] [.agg [.v (.int .i64 a0Room), .v (.int .i64 a0Target), .ro .int a0Once, .ro .int a0Often, .ro .int a0WasOnce, .ro .int a0WasOften], .c (.v (.int .i64 key1))] kk) = S_spec_fresh a0Room a0Target a0Once a0Often a0WasOnce a0WasOften key1 (fun r0 r1 r2 r3 r4 r5 => kk (.one (.agg [.v (.int .i64 r0), .v (.int .i64 r1), .ro .int r2, .ro .int r3, .ro .int r4, .ro .int r5])) []) := by
  rw [g_spec_fresh]
  rfl
theorem clok_spec_fresh : ConOK Try.prog cl_spec_fresh := consCons h_spec_front ⟨Try.f70, Try.func70, by kernel_rfl, ne_of_beq (by kernel_rfl)⟩ (consCons h_spec_isFull ⟨Try.f71, Try.func71, by kernel_rfl, ne_of_beq (by kernel_rfl)⟩ (consCons h_spec_makeRoom ⟨Try.f72, Try.func72, by kernel_rfl, ne_of_beq (by kernel_rfl)⟩ (consNil)))
theorem cok_spec_fresh : ConsOK Try.prog 80 cs_spec_fresh := ⟨clok_spec_fresh, inlNil, ovNil⟩
theorem i_spec_fresh {vs : List A1} {kk : AV → List A1 → Prop} {motive : List A1 → Prop} (h : con_spec_fresh.F vs kk) (H : ∀ (a0Room : Int) (a0Target : Int) (a0Once : List Int) (a0Often : List Int) (a0WasOnce : List Int) (a0WasOften : List Int) (key1 : Int), F_spec_fresh a0Room a0Target a0Once a0Often a0WasOnce a0WasOften key1 (fun r0 r1 r2 r3 r4 r5 => kk (.one (.agg [.v (.int .i64 r0), .v (.int .i64 r1), .ro .int r2, .ro .int r3, .ro .int r4, .ro .int r5])) []) → motive [.agg [.v (.int .i64 a0Room), .v (.int .i64 a0Target), .ro .int a0Once, .ro .int a0Often, .ro .int a0WasOnce, .ro .int a0WasOften], .c (.v (.int .i64 key1))]) : motive vs := by
  unfold con_spec_fresh at h
  dsimp only at h
  split at h
  · exact H _ _ _ _ _ _ _ h
  · exact h.elim
theorem h_spec_fresh : Holds Try.prog 73 con_spec_fresh := by
  refine holds_of_ev (rt := [.agg [.sc, .sc, .sl .int, .sl .int, .sl .int, .sl .int]]) (T := TT) (Γ := cs_spec_fresh) (an := an_spec_fresh) (N := 80) (c := Try.f73.body.getD .skip) Try.func73 (by kernel_rfl) Try.ntmps73 (by decide) (by decide) mixed tabOK cok_spec_fresh (by kernel_rfl) ?_
  intro vs kk _ hF
  exact i_spec_fresh (motive := fun vs => Goes (ev TT cs_spec_fresh 80 an_spec_fresh (Try.f73.body.getD .skip) (st0 con_spec_fresh vs) (fin TT con_spec_fresh Try.f73.results.toList [.agg [.sc, .sc, .sl .int, .sl .int, .sl .int, .sl .int]] vs kk))) hF (fun a0Room a0Target a0Once a0Often a0WasOnce a0WasOften key1 hF => goes_of (e_spec_fresh a0Room a0Target a0Once a0Often a0WasOnce a0WasOften key1 kk) (F_spec_fresh_S hF))
def con_spec_adapt : Con := ⟨[.rd, .rd], false, [.agg [.sc, .sc, .sl .int, .sl .int, .sl .int, .sl .int], .c (.sc)], fun vs k => match vs with
    | [.agg [.v (.int .i64 old0Room), .v (.int .i64 old0Target), .ro .int old0Once, .ro .int old0Often, .ro .int old0WasOnce, .ro .int old0WasOften], .c (.v (.int .i64 key1))] => F_spec_adapt old0Room old0Target old0Once old0Often old0WasOnce old0WasOften key1 (fun r0 r1 r2 r3 r4 r5 r6 => k (.tup [.agg [.v (.int .i64 r0), .v (.int .i64 r1), .ro .int r2, .ro .int r3, .ro .int r4, .ro .int r5], .c (.v (.bool r6))]) [])
    | _ => False, false⟩
def cl_spec_adapt : List (FuncId × Con) := [(56, con_spec_copyLists), (67, con_spec_isIn), (68, con_spec_without), (69, con_spec_placeOf), (70, con_spec_front), (71, con_spec_isFull), (72, con_spec_makeRoom), (73, con_spec_fresh)]
def an_spec_adapt : Ann := ⟨[(3, .take 0 (.take 2 (.take 4 (.alt 1 (.alt 3 (.alt 5 (.alt 6 (.take 7 (.alt 8 (.done) (.none))) (.none)) (.none)) (.none)) (.alt 3 (.alt 1 (.alt 5 (.alt 6 (.take 7 (.alt 8 (.done) (.none))) (.none)) (.none)) (.alt 5 (.alt 1 (.alt 6 (.take 7 (.alt 8 (.done) (.none))) (.none)) (.none)) (.none))) (.none))))), []), (7, .take 0 (.take 2 (.take 4 (.take 7 (.alt 1 (.alt 3 (.alt 5 (.alt 6 (.alt 8 (.take 9 (.alt 10 (.done) (.none))) (.none)) (.none)) (.none)) (.none)) (.alt 3 (.alt 1 (.alt 5 (.alt 6 (.alt 8 (.take 9 (.alt 10 (.done) (.none))) (.none)) (.none)) (.none)) (.alt 5 (.alt 1 (.alt 6 (.alt 8 (.take 9 (.alt 10 (.done) (.none))) (.none)) (.none)) (.none)) (.none))) (.none)))))), []), (10, .take 0 (.take 2 (.take 4 (.take 7 (.alt 1 (.alt 3 (.alt 5 (.take 6 (.alt 8 (.take 9 (.take 10 (.take 11 (.take 12 (.take 13 (.take 14 (.alt 15 (.done) (.none)))))))) (.none))) (.alt 8 (.take 9 (.alt 5 (.take 6 (.take 10 (.take 11 (.take 12 (.take 13 (.take 14 (.alt 15 (.done) (.none)))))))) (.none))) (.none))) (.alt 5 (.take 6 (.alt 3 (.alt 8 (.take 9 (.take 10 (.take 11 (.take 12 (.take 13 (.take 14 (.alt 15 (.done) (.none)))))))) (.none)) (.alt 8 (.take 9 (.take 10 (.take 11 (.alt 3 (.take 12 (.take 13 (.take 14 (.alt 15 (.done) (.none))))) (.none))))) (.none)))) (.alt 8 (.take 9 (.alt 3 (.alt 5 (.take 6 (.take 10 (.take 11 (.take 12 (.take 13 (.take 14 (.alt 15 (.done) (.none)))))))) (.none)) (.alt 5 (.take 6 (.take 10 (.take 11 (.alt 3 (.take 12 (.take 13 (.take 14 (.alt 15 (.done) (.none))))) (.none))))) (.none)))) (.none)))) (.alt 3 (.alt 1 (.alt 5 (.take 6 (.alt 8 (.take 9 (.take 10 (.take 11 (.take 12 (.take 13 (.take 14 (.alt 15 (.done) (.none)))))))) (.none))) (.alt 8 (.take 9 (.alt 5 (.take 6 (.take 10 (.take 11 (.take 12 (.take 13 (.take 14 (.alt 15 (.done) (.none)))))))) (.none))) (.none))) (.alt 5 (.take 6 (.alt 1 (.alt 8 (.take 9 (.take 10 (.take 11 (.take 12 (.take 13 (.take 14 (.alt 15 (.done) (.none)))))))) (.none)) (.alt 8 (.take 9 (.take 10 (.take 11 (.take 12 (.alt 1 (.take 13 (.take 14 (.alt 15 (.done) (.none)))) (.none)))))) (.none)))) (.alt 8 (.take 9 (.alt 1 (.alt 5 (.take 6 (.take 10 (.take 11 (.take 12 (.take 13 (.take 14 (.alt 15 (.done) (.none)))))))) (.none)) (.alt 5 (.take 6 (.take 10 (.take 11 (.take 12 (.alt 1 (.take 13 (.take 14 (.alt 15 (.done) (.none)))) (.none)))))) (.none)))) (.none)))) (.alt 5 (.take 6 (.alt 1 (.alt 3 (.alt 8 (.take 9 (.take 10 (.take 11 (.take 12 (.take 13 (.take 14 (.alt 15 (.done) (.none)))))))) (.none)) (.alt 8 (.take 9 (.take 10 (.take 11 (.alt 3 (.take 12 (.take 13 (.take 14 (.alt 15 (.done) (.none))))) (.none))))) (.none))) (.alt 3 (.alt 1 (.alt 8 (.take 9 (.take 10 (.take 11 (.take 12 (.take 13 (.take 14 (.alt 15 (.done) (.none)))))))) (.none)) (.alt 8 (.take 9 (.take 10 (.take 11 (.take 12 (.alt 1 (.take 13 (.take 14 (.alt 15 (.done) (.none)))) (.none)))))) (.none))) (.alt 8 (.take 9 (.take 10 (.take 11 (.alt 1 (.alt 3 (.take 12 (.take 13 (.take 14 (.alt 15 (.done) (.none))))) (.none)) (.alt 3 (.take 12 (.alt 1 (.take 13 (.take 14 (.alt 15 (.done) (.none)))) (.none))) (.none)))))) (.none))))) (.alt 8 (.take 9 (.alt 1 (.alt 3 (.alt 5 (.take 6 (.take 10 (.take 11 (.take 12 (.take 13 (.take 14 (.alt 15 (.done) (.none)))))))) (.none)) (.alt 5 (.take 6 (.take 10 (.take 11 (.alt 3 (.take 12 (.take 13 (.take 14 (.alt 15 (.done) (.none))))) (.none))))) (.none))) (.alt 3 (.alt 1 (.alt 5 (.take 6 (.take 10 (.take 11 (.take 12 (.take 13 (.take 14 (.alt 15 (.done) (.none)))))))) (.none)) (.alt 5 (.take 6 (.take 10 (.take 11 (.take 12 (.alt 1 (.take 13 (.take 14 (.alt 15 (.done) (.none)))) (.none)))))) (.none))) (.alt 5 (.take 6 (.take 10 (.take 11 (.alt 1 (.alt 3 (.take 12 (.take 13 (.take 14 (.alt 15 (.done) (.none))))) (.none)) (.alt 3 (.take 12 (.alt 1 (.take 13 (.take 14 (.alt 15 (.done) (.none)))) (.none))) (.none)))))) (.none))))) (.none)))))))), []), (11, .take 0 (.take 2 (.take 4 (.alt 1 (.alt 3 (.alt 5 (.alt 6 (.take 7 (.alt 8 (.done) (.none))) (.none)) (.none)) (.none)) (.alt 3 (.alt 1 (.alt 5 (.alt 6 (.take 7 (.alt 8 (.done) (.none))) (.none)) (.none)) (.alt 5 (.alt 1 (.alt 6 (.take 7 (.alt 8 (.done) (.none))) (.none)) (.none)) (.none))) (.none))))), []), (17, .take 0 (.take 2 (.take 5 (.alt 1 (.alt 3 (.take 4 (.alt 6 (.take 7 (.take 8 (.take 9 (.take 10 (.take 11 (.take 12 (.alt 13 (.done) (.none)))))))) (.none))) (.alt 6 (.take 7 (.alt 3 (.take 4 (.take 8 (.take 9 (.take 10 (.take 11 (.take 12 (.alt 13 (.done) (.none)))))))) (.none))) (.none))) (.alt 3 (.take 4 (.alt 1 (.alt 6 (.take 7 (.take 8 (.take 9 (.take 10 (.take 11 (.take 12 (.alt 13 (.done) (.none)))))))) (.none)) (.alt 6 (.take 7 (.take 8 (.take 9 (.alt 1 (.take 10 (.take 11 (.take 12 (.alt 13 (.done) (.none))))) (.none))))) (.none)))) (.alt 6 (.take 7 (.alt 1 (.alt 3 (.take 4 (.take 8 (.take 9 (.take 10 (.take 11 (.take 12 (.alt 13 (.done) (.none)))))))) (.none)) (.alt 3 (.take 4 (.take 8 (.take 9 (.alt 1 (.take 10 (.take 11 (.take 12 (.alt 13 (.done) (.none))))) (.none))))) (.none)))) (.none)))))), []), (18, .take 0 (.take 2 (.take 4 (.alt 1 (.alt 3 (.alt 5 (.alt 6 (.take 7 (.alt 8 (.done) (.none))) (.none)) (.none)) (.none)) (.alt 3 (.alt 1 (.alt 5 (.alt 6 (.take 7 (.alt 8 (.done) (.none))) (.none)) (.none)) (.alt 5 (.alt 1 (.alt 6 (.take 7 (.alt 8 (.done) (.none))) (.none)) (.none)) (.none))) (.none))))), [])], [], [], []⟩
def cs_spec_adapt : Cons := ⟨cl_spec_adapt, [], 0, [], [], []⟩
def fin_spec_adapt (old0Room : Int) (old0Target : Int) (old0Once : List Int) (old0Often : List Int) (old0WasOnce : List Int) (old0WasOften : List Int) (key1 : Int) (kk : AV → List A1 → Prop) : Kt := fin TT con_spec_adapt Try.f46.results.toList [.agg [.sc, .sc, .sl .int, .sl .int, .sl .int, .sl .int], .c .sc] [.agg [.v (.int .i64 old0Room), .v (.int .i64 old0Target), .ro .int old0Once, .ro .int old0Often, .ro .int old0WasOnce, .ro .int old0WasOften], .c (.v (.int .i64 key1))] kk
theorem g_spec_adapt (old0Room : Int) (old0Target : Int) (old0Once : List Int) (old0Often : List Int) (old0WasOnce : List Int) (old0WasOften : List Int) (key1 : Int) (kk : AV → List A1 → Prop) :
    ev TT cs_spec_adapt 121 an_spec_adapt (Try.f46.body.getD .skip) (st0 con_spec_adapt [.agg [.v (.int .i64 old0Room), .v (.int .i64 old0Target), .ro .int old0Once, .ro .int old0Often, .ro .int old0WasOnce, .ro .int old0WasOften], .c (.v (.int .i64 key1))]) (fin TT con_spec_adapt Try.f46.results.toList [.agg [.sc, .sc, .sl .int, .sl .int, .sl .int, .sl .int], .c .sc] [.agg [.v (.int .i64 old0Room), .v (.int .i64 old0Target), .ro .int old0Once, .ro .int old0Often, .ro .int old0WasOnce, .ro .int old0WasOften], .c (.v (.int .i64 key1))] kk) = G_spec_adapt old0Room old0Target old0Once old0Often old0WasOnce old0WasOften key1 (fun r0 r1 r2 r3 r4 r5 r6 => kk (.tup [.agg [.v (.int .i64 r0), .v (.int .i64 r1), .ro .int r2, .ro .int r3, .ro .int r4, .ro .int r5], .c (.v (.bool r6))]) []) := by kernel_rfl
theorem e_spec_adapt (old0Room : Int) (old0Target : Int) (old0Once : List Int) (old0Often : List Int) (old0WasOnce : List Int) (old0WasOften : List Int) (key1 : Int) (kk : AV → List A1 → Prop) :
    ev TT cs_spec_adapt 121 an_spec_adapt (Try.f46.body.getD .skip) (st0 con_spec_adapt [.agg [.v (.int .i64 old0Room), .v (.int .i64 old0Target), .ro .int old0Once, .ro .int old0Often, .ro .int old0WasOnce, .ro .int old0WasOften], .c (.v (.int .i64 key1))]) (fin TT con_spec_adapt Try.f46.results.toList [.agg [.sc, .sc, .sl .int, .sl .int, .sl .int, .sl .int], .c .sc] [.agg [.v (.int .i64 old0Room), .v (.int .i64 old0Target), .ro .int old0Once, .ro .int old0Often, .ro .int old0WasOnce, .ro .int old0WasOften], .c (.v (.int .i64 key1))] kk) = S_spec_adapt old0Room old0Target old0Once old0Often old0WasOnce old0WasOften key1 (fun r0 r1 r2 r3 r4 r5 r6 => kk (.tup [.agg [.v (.int .i64 r0), .v (.int .i64 r1), .ro .int r2, .ro .int r3, .ro .int r4, .ro .int r5], .c (.v (.bool r6))]) []) := by
  rw [g_spec_adapt]
  rw [G_spec_adapt_eq]
  rfl
theorem clok_spec_adapt : ConOK Try.prog cl_spec_adapt := consCons h_spec_copyLists ⟨Try.f56, Try.func56, by kernel_rfl, ne_of_beq (by kernel_rfl)⟩ (consCons h_spec_isIn ⟨Try.f67, Try.func67, by kernel_rfl, ne_of_beq (by kernel_rfl)⟩ (consCons h_spec_without ⟨Try.f68, Try.func68, by kernel_rfl, ne_of_beq (by kernel_rfl)⟩ (consCons h_spec_placeOf ⟨Try.f69, Try.func69, by kernel_rfl, ne_of_beq (by kernel_rfl)⟩ (consCons h_spec_front ⟨Try.f70, Try.func70, by kernel_rfl, ne_of_beq (by kernel_rfl)⟩ (consCons h_spec_isFull ⟨Try.f71, Try.func71, by kernel_rfl, ne_of_beq (by kernel_rfl)⟩ (consCons h_spec_makeRoom ⟨Try.f72, Try.func72, by kernel_rfl, ne_of_beq (by kernel_rfl)⟩ (consCons h_spec_fresh ⟨Try.f73, Try.func73, by kernel_rfl, ne_of_beq (by kernel_rfl)⟩ (consNil))))))))
theorem cok_spec_adapt : ConsOK Try.prog 121 cs_spec_adapt := ⟨clok_spec_adapt, inlNil, ovNil⟩
theorem i_spec_adapt {vs : List A1} {kk : AV → List A1 → Prop} {motive : List A1 → Prop} (h : con_spec_adapt.F vs kk) (H : ∀ (old0Room : Int) (old0Target : Int) (old0Once : List Int) (old0Often : List Int) (old0WasOnce : List Int) (old0WasOften : List Int) (key1 : Int), F_spec_adapt old0Room old0Target old0Once old0Often old0WasOnce old0WasOften key1 (fun r0 r1 r2 r3 r4 r5 r6 => kk (.tup [.agg [.v (.int .i64 r0), .v (.int .i64 r1), .ro .int r2, .ro .int r3, .ro .int r4, .ro .int r5], .c (.v (.bool r6))]) []) → motive [.agg [.v (.int .i64 old0Room), .v (.int .i64 old0Target), .ro .int old0Once, .ro .int old0Often, .ro .int old0WasOnce, .ro .int old0WasOften], .c (.v (.int .i64 key1))]) : motive vs := by
  unfold con_spec_adapt at h
  dsimp only at h
  split at h
  · exact H _ _ _ _ _ _ _ h
  · exact h.elim
theorem h_spec_adapt : Holds Try.prog 46 con_spec_adapt := by
  refine holds_of_ev (rt := [.agg [.sc, .sc, .sl .int, .sl .int, .sl .int, .sl .int], .c .sc]) (T := TT) (Γ := cs_spec_adapt) (an := an_spec_adapt) (N := 121) (c := Try.f46.body.getD .skip) Try.func46 (by kernel_rfl) Try.ntmps46 (by decide) (by decide) mixed tabOK cok_spec_adapt (by kernel_rfl) ?_
  intro vs kk _ hF
  exact i_spec_adapt (motive := fun vs => Goes (ev TT cs_spec_adapt 121 an_spec_adapt (Try.f46.body.getD .skip) (st0 con_spec_adapt vs) (fin TT con_spec_adapt Try.f46.results.toList [.agg [.sc, .sc, .sl .int, .sl .int, .sl .int, .sl .int], .c .sc] vs kk))) hF (fun old0Room old0Target old0Once old0Often old0WasOnce old0WasOften key1 hF => goes_of (e_spec_adapt old0Room old0Target old0Once old0Often old0WasOnce old0WasOften key1 kk) (F_spec_adapt_S hF))
def con_spec_reader_spoil : Con := ⟨[.mu, .rd, .rd], true, [.ptr [.sl .u8, .sc], .c (.sl .int), .c (.sc)], fun vs k => match vs with
    | [.ptr [.ro .u8 r0b, .v (.int .i64 r0p)], .c (.ro .int list1), .c (.v (.int .i64 n2))] => F_spec_reader_spoil r0b r0p list1 n2 (fun r0 r1 r2 => k (.one (.c (.ro .int r0))) [.ptr [.ro .u8 r1, .v (.int .i64 r2)]])
    | _ => False, false⟩
def cl_spec_reader_spoil : List (FuncId × Con) := [(34, con_spec_copyInts), (35, con_spec_reader_pick), (59, con_spec_reader_one)]
def an_spec_reader_spoil : Ann := ⟨[], [], [], []⟩
def cs_spec_reader_spoil : Cons := ⟨cl_spec_reader_spoil, [], 0, [], [], []⟩
def fin_spec_reader_spoil (r0b : List Int) (r0p : Int) (list1 : List Int) (n2 : Int) (kk : AV → List A1 → Prop) : Kt := fin TT con_spec_reader_spoil Try.f60.results.toList [.c (.sl .int)] [.ptr [.ro .u8 r0b, .v (.int .i64 r0p)], .c (.ro .int list1), .c (.v (.int .i64 n2))] kk
theorem g_spec_reader_spoil (r0b : List Int) (r0p : Int) (list1 : List Int) (n2 : Int) (kk : AV → List A1 → Prop) :
    ev TT cs_spec_reader_spoil 41 an_spec_reader_spoil (Try.f60.body.getD .skip) (st0 con_spec_reader_spoil [.ptr [.ro .u8 r0b, .v (.int .i64 r0p)], .c (.ro .int list1), .c (.v (.int .i64 n2))]) (fin TT con_spec_reader_spoil Try.f60.results.toList [.c (.sl .int)] [.ptr [.ro .u8 r0b, .v (.int .i64 r0p)], .c (.ro .int list1), .c (.v (.int .i64 n2))] kk) = G_spec_reader_spoil r0b r0p list1 n2 (fun r0 r1 r2 => kk (.one (.c (.ro .int r0))) [.ptr [.ro .u8 r1, .v (.int .i64 r2)]]) := by kernel_rfl
theorem e_spec_reader_spoil (r0b : List Int) (r0p : Int) (list1 : List Int) (n2 : Int) (kk : AV → List A1 → Prop) :
    ev TT cs_spec_reader_spoil 41 an_spec_reader_spoil (Try.f60.body.getD .skip) (st0 con_spec_reader_spoil [.ptr [.ro .u8 r0b, .v (.int .i64 r0p)], .c (.ro .int list1), .c (.v (.int .i64 n2))]) (fin TT con_spec_reader_spoil Try.f60.results.toList [.c (.sl .int)] [.ptr [.ro .u8 r0b, .v (.int .i64 r0p)], .c (.ro .int list1), .c (.v (.int .i64 n2))] kk) = S_spec_reader_spoil r0b r0p list1 n2 (fun r0 r1 r2 => kk (.one (.c (.ro .int r0))) [.ptr [.ro .u8 r1, .v (.int .i64 r2)]]) := by
  rw [g_spec_reader_spoil]
  rfl
theorem clok_spec_reader_spoil : ConOK Try.prog cl_spec_reader_spoil := consCons h_spec_copyInts ⟨Try.f34, Try.func34, by kernel_rfl, ne_of_beq (by kernel_rfl)⟩ (consCons h_spec_reader_pick ⟨Try.f35, Try.func35, by kernel_rfl, ne_of_beq (by kernel_rfl)⟩ (consCons h_spec_reader_one ⟨Try.f59, Try.func59, by kernel_rfl, ne_of_beq (by kernel_rfl)⟩ (consNil)))
theorem cok_spec_reader_spoil : ConsOK Try.prog 41 cs_spec_reader_spoil := ⟨clok_spec_reader_spoil, inlNil, ovNil⟩
theorem i_spec_reader_spoil {vs : List A1} {kk : AV → List A1 → Prop} {motive : List A1 → Prop} (h : con_spec_reader_spoil.F vs kk) (H : ∀ (r0b : List Int) (r0p : Int) (list1 : List Int) (n2 : Int), F_spec_reader_spoil r0b r0p list1 n2 (fun r0 r1 r2 => kk (.one (.c (.ro .int r0))) [.ptr [.ro .u8 r1, .v (.int .i64 r2)]]) → motive [.ptr [.ro .u8 r0b, .v (.int .i64 r0p)], .c (.ro .int list1), .c (.v (.int .i64 n2))]) : motive vs := by
  unfold con_spec_reader_spoil at h
  dsimp only at h
  split at h
  · exact H _ _ _ _ h
  · exact h.elim
theorem h_spec_reader_spoil : Holds Try.prog 60 con_spec_reader_spoil := by
  refine holds_of_ev (rt := [.c (.sl .int)]) (T := TT) (Γ := cs_spec_reader_spoil) (an := an_spec_reader_spoil) (N := 41) (c := Try.f60.body.getD .skip) Try.func60 (by kernel_rfl) Try.ntmps60 (by decide) (by decide) mixed tabOK cok_spec_reader_spoil (by kernel_rfl) ?_
  intro vs kk _ hF
  exact i_spec_reader_spoil (motive := fun vs => Goes (ev TT cs_spec_reader_spoil 41 an_spec_reader_spoil (Try.f60.body.getD .skip) (st0 con_spec_reader_spoil vs) (fin TT con_spec_reader_spoil Try.f60.results.toList [.c (.sl .int)] vs kk))) hF (fun r0b r0p list1 n2 hF => goes_of (e_spec_reader_spoil r0b r0p list1 n2 kk) (F_spec_reader_spoil_S hF))
def con_spec_someLists : Con := ⟨[.mu], true, [.ptr [.sl .u8, .sc]], fun vs k => match vs with
    | [.ptr [.ro .u8 r0b, .v (.int .i64 r0p)]] => F_spec_someLists r0b r0p (fun r0 r1 r2 r3 r4 r5 r6 r7 => k (.one (.agg [.v (.int .i64 r0), .v (.int .i64 r1), .ro .int r2, .ro .int r3, .ro .int r4, .ro .int r5])) [.ptr [.ro .u8 r6, .v (.int .i64 r7)]])
    | _ => False, false⟩
def cl_spec_someLists : List (FuncId × Con) := [(35, con_spec_reader_pick), (46, con_spec_adapt), (56, con_spec_copyLists), (59, con_spec_reader_one), (60, con_spec_reader_spoil)]
def nm0_spec_someLists : List NStep := [.frzc 48 2 .int, .frzc 48 3 .int, .frzc 48 4 .int, .frzc 48 5 .int, .keep [0, 2, 3, 4] [100000, 32, 48]]
def an_spec_someLists : Ann := ⟨[(5, .take 1 (.alt 0 (.alt 2 (.alt 3 (.take 4 (.take 5 (.take 6 (.alt 7 (.done) (.none))))) (.none)) (.none)) (.alt 2 (.alt 0 (.alt 3 (.take 4 (.take 5 (.take 6 (.alt 7 (.done) (.none))))) (.none)) (.none)) (.none))), []), (13, .take 0 (.take 2 (.alt 1 (.alt 3 (.alt 4 (.alt 5 (.take 6 (.alt 7 (.done) (.none))) (.none)) (.none)) (.none)) (.alt 3 (.alt 1 (.alt 4 (.alt 5 (.take 6 (.alt 7 (.done) (.none))) (.none)) (.none)) (.alt 4 (.alt 1 (.alt 5 (.take 6 (.alt 7 (.done) (.none))) (.none)) (.none)) (.none))) (.none)))), [])], [(3, nm0_spec_someLists)], [], []⟩
def cs_spec_someLists : Cons := ⟨cl_spec_someLists, [], 0, [], [], []⟩
def can0_spec_someLists (xn4 : Int) (xb100000c0 : List Int) (xb100000c1 : Int) (xb3c0 : Int) (xb3c1 : Int) (xb3c2 : List Int) (xb3c3 : List Int) (xb3c4 : List Int) (xb3c5 : List Int) : St := ⟨[(0, .one (.c (.pb 100000 0))), (2, .one (.c (.pb 32 0))), (3, .one (.c (.pb 48 0))), (4, .one (.c (.v (.int .i64 xn4))))], [(100000, .box [.ro .u8 xb100000c0, .v (.int .i64 xb100000c1)]), (32, .box [.v (.int .i64 0), .v (.int .i64 0), .nil, .nil, .nil, .nil]), (48, .box [.v (.int .i64 xb3c0), .v (.int .i64 xb3c1), .ro .int xb3c2, .ro .int xb3c3, .ro .int xb3c4, .ro .int xb3c5])]⟩
def fin_spec_someLists (r0b : List Int) (r0p : Int) (kk : AV → List A1 → Prop) : Kt := fin TT con_spec_someLists Try.f33.results.toList [.agg [.sc, .sc, .sl .int, .sl .int, .sl .int, .sl .int]] [.ptr [.ro .u8 r0b, .v (.int .i64 r0p)]] kk
def kt0_spec_someLists (kf : Kt) : Kt := blockK 0 (seqK (evF TT cs_spec_someLists 67 an_spec_someLists Try.f33 [1, 1, 1]) (kf))
theorem r0_spec_someLists (r0b : List Int) (r0p : Int) (kk : AV → List A1 → Prop) (n : Nat) (xn4 : Int) (xb100000c0 : List Int) (xb100000c1 : Int) (xb3c0 : Int) (xb3c1 : Int) (xb3c2 : List Int) (xb3c3 : List Int) (xb3c4 : List Int) (xb3c5 : List Int) :
    iter (evF TT cs_spec_someLists 67 an_spec_someLists Try.f33 [1, 1, 0, 1, 0, 0]) nm0_spec_someLists (kt0_spec_someLists (fin_spec_someLists r0b r0p kk)) (n + 1) (can0_spec_someLists xn4 xb100000c0 xb100000c1 xb3c0 xb3c1 xb3c2 xb3c3 xb3c4 xb3c5) = T0_spec_someLists xn4 xb100000c0 xb100000c1 xb3c0 xb3c1 xb3c2 xb3c3 xb3c4 xb3c5 (fun r0 r1 r2 r3 r4 r5 r6 r7 => kk (.one (.agg [.v (.int .i64 r0), .v (.int .i64 r1), .ro .int r2, .ro .int r3, .ro .int r4, .ro .int r5])) [.ptr [.ro .u8 r6, .v (.int .i64 r7)]]) (fun xn4 xb100000c0 xb100000c1 xb3c0 xb3c1 xb3c2 xb3c3 xb3c4 xb3c5 => iter (evF TT cs_spec_someLists 67 an_spec_someLists Try.f33 [1, 1, 0, 1, 0, 0]) nm0_spec_someLists (kt0_spec_someLists (fin_spec_someLists r0b r0p kk)) n (can0_spec_someLists xn4 xb100000c0 xb100000c1 xb3c0 xb3c1 xb3c2 xb3c3 xb3c4 xb3c5)) := by kernel_rfl
theorem l0_spec_someLists (r0b : List Int) (r0p : Int) (kk : AV → List A1 → Prop) : ∀ (n : Nat) (xn4 : Int) (xb100000c0 : List Int) (xb100000c1 : Int) (xb3c0 : Int) (xb3c1 : Int) (xb3c2 : List Int) (xb3c3 : List Int) (xb3c4 : List Int) (xb3c5 : List Int), iter (evF TT cs_spec_someLists 67 an_spec_someLists Try.f33 [1, 1, 0, 1, 0, 0]) nm0_spec_someLists (kt0_spec_someLists (fin_spec_someLists r0b r0p kk)) n (can0_spec_someLists xn4 xb100000c0 xb100000c1 xb3c0 xb3c1 xb3c2 xb3c3 xb3c4 xb3c5) = L0_spec_someLists (fun r0 r1 r2 r3 r4 r5 r6 r7 => kk (.one (.agg [.v (.int .i64 r0), .v (.int .i64 r1), .ro .int r2, .ro .int r3, .ro .int r4, .ro .int r5])) [.ptr [.ro .u8 r6, .v (.int .i64 r7)]]) n xn4 xb100000c0 xb100000c1 xb3c0 xb3c1 xb3c2 xb3c3 xb3c4 xb3c5 := by
  intro n
  induction n with
  | zero => intros; rfl
  | succ n ih =>
    intro xn4 xb100000c0 xb100000c1 xb3c0 xb3c1 xb3c2 xb3c3 xb3c4 xb3c5
    rw [r0_spec_someLists r0b r0p kk n xn4 xb100000c0 xb100000c1 xb3c0 xb3c1 xb3c2 xb3c3 xb3c4 xb3c5]
    have hb : (fun xn4 xb100000c0 xb100000c1 xb3c0 xb3c1 xb3c2 xb3c3 xb3c4 xb3c5 => iter (evF TT cs_spec_someLists 67 an_spec_someLists Try.f33 [1, 1, 0, 1, 0, 0]) nm0_spec_someLists (kt0_spec_someLists (fin_spec_someLists r0b r0p kk)) n (can0_spec_someLists xn4 xb100000c0 xb100000c1 xb3c0 xb3c1 xb3c2 xb3c3 xb3c4 xb3c5)) = L0_spec_someLists (fun r0 r1 r2 r3 r4 r5 r6 r7 => kk (.one (.agg [.v (.int .i64 r0), .v (.int .i64 r1), .ro .int r2, .ro .int r3, .ro .int r4, .ro .int r5])) [.ptr [.ro .u8 r6, .v (.int .i64 r7)]]) n := by
      funext xn4 xb100000c0 xb100000c1 xb3c0 xb3c1 xb3c2 xb3c3 xb3c4 xb3c5; exact ih xn4 xb100000c0 xb100000c1 xb3c0 xb3c1 xb3c2 xb3c3 xb3c4 xb3c5
    rw [hb]
    rw [T0_spec_someLists_eq]
    rfl
theorem g_spec_someLists (r0b : List Int) (r0p : Int) (kk : AV → List A1 → Prop) :
    ev TT cs_spec_someLists 67 an_spec_someLists (Try.f33.body.getD .skip) (st0 con_spec_someLists [.ptr [.ro .u8 r0b, .v (.int .i64 r0p)]]) (fin TT con_spec_someLists Try.f33.results.toList [.agg [.sc, .sc, .sl .int, .sl .int, .sl .int, .sl .int]] [.ptr [.ro .u8 r0b, .v (.int .i64 r0p)]] kk) = G_spec_someLists r0b r0p (fun xn4 xb100000c0 xb100000c1 xb3c0 xb3c1 xb3c2 xb3c3 xb3c4 xb3c5 => ∃ j, iter (evF TT cs_spec_someLists 67 an_spec_someLists Try.f33 [1, 1, 0, 1, 0, 0]) nm0_spec_someLists (kt0_spec_someLists (fin_spec_someLists r0b r0p kk)) j (can0_spec_someLists xn4 xb100000c0 xb100000c1 xb3c0 xb3c1 xb3c2 xb3c3 xb3c4 xb3c5)) := by kernel_rfl
theorem e_spec_someLists (r0b : List Int) (r0p : Int) (kk : AV → List A1 → Prop) :
    ev TT cs_spec_someLists 67 an_spec_someLists (Try.f33.body.getD .skip) (st0 con_spec_someLists [.ptr [.ro .u8 r0b, .v (.int .i64 r0p)]]) (fin TT con_spec_someLists Try.f33.results.toList [.agg [.sc, .sc, .sl .int, .sl .int, .sl .int, .sl .int]] [.ptr [.ro .u8 r0b, .v (.int .i64 r0p)]] kk) = S_spec_someLists r0b r0p (fun r0 r1 r2 r3 r4 r5 r6 r7 => kk (.one (.agg [.v (.int .i64 r0), .v (.int .i64 r1), .ro .int r2, .ro .int r3, .ro .int r4, .ro .int r5])) [.ptr [.ro .u8 r6, .v (.int .i64 r7)]]) := by
  rw [g_spec_someLists]
  have hi0 : (fun xn4 xb100000c0 xb100000c1 xb3c0 xb3c1 xb3c2 xb3c3 xb3c4 xb3c5 => ∃ j, iter (evF TT cs_spec_someLists 67 an_spec_someLists Try.f33 [1, 1, 0, 1, 0, 0]) nm0_spec_someLists (kt0_spec_someLists (fin_spec_someLists r0b r0p kk)) j (can0_spec_someLists xn4 xb100000c0 xb100000c1 xb3c0 xb3c1 xb3c2 xb3c3 xb3c4 xb3c5)) = (fun xn4 xb100000c0 xb100000c1 xb3c0 xb3c1 xb3c2 xb3c3 xb3c4 xb3c5 => ∃ j, L0_spec_someLists (fun r0 r1 r2 r3 r4 r5 r6 r7 => kk (.one (.agg [.v (.int .i64 r0), .v (.int .i64 r1), .ro .int r2, .ro .int r3, .ro .int r4, .ro .int r5])) [.ptr [.ro .u8 r6, .v (.int .i64 r7)]]) j xn4 xb100000c0 xb100000c1 xb3c0 xb3c1 xb3c2 xb3c3 xb3c4 xb3c5) := by
    funext xn4 xb100000c0 xb100000c1 xb3c0 xb3c1 xb3c2 xb3c3 xb3c4 xb3c5
    refine congrArg Exists (funext fun j => ?_)
    rw [l0_spec_someLists r0b r0p kk j xn4 xb100000c0 xb100000c1 xb3c0 xb3c1 xb3c2 xb3c3 xb3c4 xb3c5]
  rw [hi0]
  rfl
theorem clok_spec_someLists : ConOK Try.prog cl_spec_someLists := consCons h_spec_reader_pick ⟨Try.f35, Try.func35, by kernel_rfl, ne_of_beq (by kernel_rfl)⟩ (consCons h_spec_adapt ⟨Try.f46, Try.func46, by kernel_rfl, ne_of_beq (by kernel_rfl)⟩ (consCons h_spec_copyLists ⟨Try.f56, Try.func56, by kernel_rfl, ne_of_beq (by kernel_rfl)⟩ (consCons h_spec_reader_one ⟨Try.f59, Try.func59, by kernel_rfl, ne_of_beq (by kernel_rfl)⟩ (consCons h_spec_reader_spoil ⟨Try.f60, Try.func60, by kernel_rfl, ne_of_beq (by kernel_rfl)⟩ (consNil)))))
theorem cok_spec_someLists : ConsOK Try.prog 67 cs_spec_someLists := ⟨clok_spec_someLists, inlNil, ovNil⟩
theorem i_spec_someLists {vs : List A1} {kk : AV → List A1 → Prop} {motive : List A1 → Prop} (h : con_spec_someLists.F vs kk) (H : ∀ (r0b : List Int) (r0p : Int), F_spec_someLists r0b r0p (fun r0 r1 r2 r3 r4 r5 r6 r7 => kk (.one (.agg [.v (.int .i64 r0), .v (.int .i64 r1), .ro .int r2, .ro .int r3, .ro .int r4, .ro .int r5])) [.ptr [.ro .u8 r6, .v (.int .i64 r7)]]) → motive [.ptr [.ro .u8 r0b, .v (.int .i64 r0p)]]) : motive vs := by
  unfold con_spec_someLists at h
  dsimp only at h
  split at h
  · exact H _ _ h
  · exact h.elim
theorem h_spec_someLists : Holds Try.prog 33 con_spec_someLists := by
  refine holds_of_ev (rt := [.agg [.sc, .sc, .sl .int, .sl .int, .sl .int, .sl .int]]) (T := TT) (Γ := cs_spec_someLists) (an := an_spec_someLists) (N := 67) (c := Try.f33.body.getD .skip) Try.func33 (by kernel_rfl) Try.ntmps33 (by decide) (by decide) mixed tabOK cok_spec_someLists (by kernel_rfl) ?_
  intro vs kk _ hF
  exact i_spec_someLists (motive := fun vs => Goes (ev TT cs_spec_someLists 67 an_spec_someLists (Try.f33.body.getD .skip) (st0 con_spec_someLists vs) (fin TT con_spec_someLists Try.f33.results.toList [.agg [.sc, .sc, .sl .int, .sl .int, .sl .int, .sl .int]] vs kk))) hF (fun r0b r0p hF => goes_of (e_spec_someLists r0b r0p kk) (F_spec_someLists_S hF))
def con_spec_someKey : Con := ⟨[.mu], true, [.ptr [.sl .u8, .sc]], fun vs k => match vs with
    | [.ptr [.ro .u8 r0b, .v (.int .i64 r0p)]] => F_spec_someKey r0b r0p (fun r0 r1 r2 => k (.one (.c (.v (.int .i64 r0)))) [.ptr [.ro .u8 r1, .v (.int .i64 r2)]])
    | _ => False, false⟩
def cl_spec_someKey : List (FuncId × Con) := [(35, con_spec_reader_pick), (59, con_spec_reader_one)]
def an_spec_someKey : Ann := ⟨[], [], [], []⟩
def cs_spec_someKey : Cons := ⟨cl_spec_someKey, [], 0, [], [], []⟩
def fin_spec_someKey (r0b : List Int) (r0p : Int) (kk : AV → List A1 → Prop) : Kt := fin TT con_spec_someKey Try.f36.results.toList [.c .sc] [.ptr [.ro .u8 r0b, .v (.int .i64 r0p)]] kk
theorem g_spec_someKey (r0b : List Int) (r0p : Int) (kk : AV → List A1 → Prop) :
    ev TT cs_spec_someKey 12 an_spec_someKey (Try.f36.body.getD .skip) (st0 con_spec_someKey [.ptr [.ro .u8 r0b, .v (.int .i64 r0p)]]) (fin TT con_spec_someKey Try.f36.results.toList [.c .sc] [.ptr [.ro .u8 r0b, .v (.int .i64 r0p)]] kk) = G_spec_someKey r0b r0p (fun r0 r1 r2 => kk (.one (.c (.v (.int .i64 r0)))) [.ptr [.ro .u8 r1, .v (.int .i64 r2)]]) := by kernel_rfl
theorem e_spec_someKey (r0b : List Int) (r0p : Int) (kk : AV → List A1 → Prop) :
    ev TT cs_spec_someKey 12 an_spec_someKey (Try.f36.body.getD .skip) (st0 con_spec_someKey [.ptr [.ro .u8 r0b, .v (.int .i64 r0p)]]) (fin TT con_spec_someKey Try.f36.results.toList [.c .sc] [.ptr [.ro .u8 r0b, .v (.int .i64 r0p)]] kk) = S_spec_someKey r0b r0p (fun r0 r1 r2 => kk (.one (.c (.v (.int .i64 r0)))) [.ptr [.ro .u8 r1, .v (.int .i64 r2)]]) := by
  rw [g_spec_someKey]
  rfl
theorem clok_spec_someKey : ConOK Try.prog cl_spec_someKey := consCons h_spec_reader_pick ⟨Try.f35, Try.func35, by kernel_rfl, ne_of_beq (by kernel_rfl)⟩ (consCons h_spec_reader_one ⟨Try.f59, Try.func59, by kernel_rfl, ne_of_beq (by kernel_rfl)⟩ (consNil))
theorem cok_spec_someKey : ConsOK Try.prog 12 cs_spec_someKey := ⟨clok_spec_someKey, inlNil, ovNil⟩
theorem i_spec_someKey {vs : List A1} {kk : AV → List A1 → Prop} {motive : List A1 → Prop} (h : con_spec_someKey.F vs kk) (H : ∀ (r0b : List Int) (r0p : Int), F_spec_someKey r0b r0p (fun r0 r1 r2 => kk (.one (.c (.v (.int .i64 r0)))) [.ptr [.ro .u8 r1, .v (.int .i64 r2)]]) → motive [.ptr [.ro .u8 r0b, .v (.int .i64 r0p)]]) : motive vs := by
  unfold con_spec_someKey at h
  dsimp only at h
  split at h
  · exact H _ _ h
  · exact h.elim
theorem h_spec_someKey : Holds Try.prog 36 con_spec_someKey := by
  refine holds_of_ev (rt := [.c .sc]) (T := TT) (Γ := cs_spec_someKey) (an := an_spec_someKey) (N := 12) (c := Try.f36.body.getD .skip) Try.func36 (by kernel_rfl) Try.ntmps36 (by decide) (by decide) mixed tabOK cok_spec_someKey (by kernel_rfl) ?_
  intro vs kk _ hF
  exact i_spec_someKey (motive := fun vs => Goes (ev TT cs_spec_someKey 12 an_spec_someKey (Try.f36.body.getD .skip) (st0 con_spec_someKey vs) (fin TT con_spec_someKey Try.f36.results.toList [.c .sc] vs kk))) hF (fun r0b r0p hF => goes_of (e_spec_someKey r0b r0p kk) (F_spec_someKey_S hF))
def con_spec_DrawUseLists : Con := ⟨[.rd], true, [.c (.sl .u8)], fun vs k => match vs with
    | [.c (.ro .u8 code0)] => F_spec_DrawUseLists code0 (fun r0 r1 r2 r3 r4 r5 r6 => k (.tup [.agg [.v (.int .i64 r0), .v (.int .i64 r1), .ro .int r2, .ro .int r3, .ro .int r4, .ro .int r5], .c (.v (.int .i64 r6))]) [])
    | _ => False, false⟩
def cl_spec_DrawUseLists : List (FuncId × Con) := [(32, con_spec_newReader), (33, con_spec_someLists), (34, con_spec_copyInts), (35, con_spec_reader_pick), (36, con_spec_someKey)]
def an_spec_DrawUseLists : Ann := ⟨[(3, .take 0 (.take 1 (.take 3 (.take 4 (.alt 2 (.alt 5 (.take 6 (.done)) (.none)) (.none))))), [80]), (5, .take 0 (.take 1 (.take 2 (.take 3 (.take 4 (.alt 5 (.take 6 (.take 7 (.alt 8 (.take 9 (.done)) (.none)))) (.none)))))), [80, 256]), (6, .take 0 (.take 1 (.alt 2 (.alt 3 (.take 4 (.done)) (.none)) (.none))), [80])], [], [], []⟩
def cs_spec_DrawUseLists : Cons := ⟨cl_spec_DrawUseLists, [], 0, [], [], []⟩
def fin_spec_DrawUseLists (code0 : List Int) (kk : AV → List A1 → Prop) : Kt := fin TT con_spec_DrawUseLists Try.f13.results.toList [.agg [.sc, .sc, .sl .int, .sl .int, .sl .int, .sl .int], .c .sc] [.c (.ro .u8 code0)] kk
theorem g_spec_DrawUseLists (code0 : List Int) (kk : AV → List A1 → Prop) :
    ev TT cs_spec_DrawUseLists 36 an_spec_DrawUseLists (Try.f13.body.getD .skip) (st0 con_spec_DrawUseLists [.c (.ro .u8 code0)]) (fin TT con_spec_DrawUseLists Try.f13.results.toList [.agg [.sc, .sc, .sl .int, .sl .int, .sl .int, .sl .int], .c .sc] [.c (.ro .u8 code0)] kk) = G_spec_DrawUseLists code0 (fun r0 r1 r2 r3 r4 r5 r6 => kk (.tup [.agg [.v (.int .i64 r0), .v (.int .i64 r1), .ro .int r2, .ro .int r3, .ro .int r4, .ro .int r5], .c (.v (.int .i64 r6))]) []) := by kernel_rfl
theorem e_spec_DrawUseLists (code0 : List Int) (kk : AV → List A1 → Prop) :
    ev TT cs_spec_DrawUseLists 36 an_spec_DrawUseLists (Try.f13.body.getD .skip) (st0 con_spec_DrawUseLists [.c (.ro .u8 code0)]) (fin TT con_spec_DrawUseLists Try.f13.results.toList [.agg [.sc, .sc, .sl .int, .sl .int, .sl .int, .sl .int], .c .sc] [.c (.ro .u8 code0)] kk) = S_spec_DrawUseLists code0 (fun r0 r1 r2 r3 r4 r5 r6 => kk (.tup [.agg [.v (.int .i64 r0), .v (.int .i64 r1), .ro .int r2, .ro .int r3, .ro .int r4, .ro .int r5], .c (.v (.int .i64 r6))]) []) := by
  rw [g_spec_DrawUseLists]
  rw [G_spec_DrawUseLists_eq]
  rfl
theorem clok_spec_DrawUseLists : ConOK Try.prog cl_spec_DrawUseLists := consCons h_spec_newReader ⟨Try.f32, Try.func32, by kernel_rfl, ne_of_beq (by kernel_rfl)⟩ (consCons h_spec_someLists ⟨Try.f33, Try.func33, by kernel_rfl, ne_of_beq (by kernel_rfl)⟩ (consCons h_spec_copyInts ⟨Try.f34, Try.func34, by kernel_rfl, ne_of_beq (by kernel_rfl)⟩ (consCons h_spec_reader_pick ⟨Try.f35, Try.func35, by kernel_rfl, ne_of_beq (by kernel_rfl)⟩ (consCons h_spec_someKey ⟨Try.f36, Try.func36, by kernel_rfl, ne_of_beq (by kernel_rfl)⟩ (consNil)))))
theorem cok_spec_DrawUseLists : ConsOK Try.prog 36 cs_spec_DrawUseLists := ⟨clok_spec_DrawUseLists, inlNil, ovNil⟩
theorem i_spec_DrawUseLists {vs : List A1} {kk : AV → List A1 → Prop} {motive : List A1 → Prop} (h : con_spec_DrawUseLists.F vs kk) (H : ∀ (code0 : List Int), F_spec_DrawUseLists code0 (fun r0 r1 r2 r3 r4 r5 r6 => kk (.tup [.agg [.v (.int .i64 r0), .v (.int .i64 r1), .ro .int r2, .ro .int r3, .ro .int r4, .ro .int r5], .c (.v (.int .i64 r6))]) []) → motive [.c (.ro .u8 code0)]) : motive vs := by
  unfold con_spec_DrawUseLists at h
  dsimp only at h
  split at h
  · exact H _ h
  · exact h.elim
theorem h_spec_DrawUseLists : Holds Try.prog 13 con_spec_DrawUseLists := by
  refine holds_of_ev (rt := [.agg [.sc, .sc, .sl .int, .sl .int, .sl .int, .sl .int], .c .sc]) (T := TT) (Γ := cs_spec_DrawUseLists) (an := an_spec_DrawUseLists) (N := 36) (c := Try.f13.body.getD .skip) Try.func13 (by kernel_rfl) Try.ntmps13 (by decide) (by decide) mixed tabOK cok_spec_DrawUseLists (by kernel_rfl) ?_
  intro vs kk _ hF
  exact i_spec_DrawUseLists (motive := fun vs => Goes (ev TT cs_spec_DrawUseLists 36 an_spec_DrawUseLists (Try.f13.body.getD .skip) (st0 con_spec_DrawUseLists vs) (fin TT con_spec_DrawUseLists Try.f13.results.toList [.agg [.sc, .sc, .sl .int, .sl .int, .sl .int, .sl .int], .c .sc] vs kk))) hF (fun code0 hF => goes_of (e_spec_DrawUseLists code0 kk) (F_spec_DrawUseLists_S hF))
def con_impl_validRoom : Con := ⟨[.rd], true, [.c (.sc)], fun vs k => match vs with
    | [.c (.v (.int .i64 room0))] => F_impl_validRoom room0 (fun r0 => k (.one (.c (.v (.bool r0)))) [])
    | _ => False, false⟩
def cl_impl_validRoom : List (FuncId × Con) := []
def an_impl_validRoom : Ann := ⟨[], [], [], []⟩
def cs_impl_validRoom : Cons := ⟨cl_impl_validRoom, [], 0, [], [], []⟩
def fin_impl_validRoom (room0 : Int) (kk : AV → List A1 → Prop) : Kt := fin TT con_impl_validRoom Try.f48.results.toList [.c .sc] [.c (.v (.int .i64 room0))] kk
theorem g_impl_validRoom (room0 : Int) (kk : AV → List A1 → Prop) :
    ev TT cs_impl_validRoom 9 an_impl_validRoom (Try.f48.body.getD .skip) (st0 con_impl_validRoom [.c (.v (.int .i64 room0))]) (fin TT con_impl_validRoom Try.f48.results.toList [.c .sc] [.c (.v (.int .i64 room0))] kk) = G_impl_validRoom room0 (fun r0 => kk (.one (.c (.v (.bool r0)))) []) := by kernel_rfl
theorem e_impl_validRoom (room0 : Int) (kk : AV → List A1 → Prop) :
    ev TT cs_impl_validRoom 9 an_impl_validRoom (Try.f48.body.getD .skip) (st0 con_impl_validRoom [.c (.v (.int .i64 room0))]) (fin TT con_impl_validRoom Try.f48.results.toList [.c .sc] [.c (.v (.int .i64 room0))] kk) = S_impl_validRoom room0 (fun r0 => kk (.one (.c (.v (.bool r0)))) []) := by
  rw [g_impl_validRoom]
  rfl
theorem clok_impl_validRoom : ConOK Try.prog cl_impl_validRoom := consNil
theorem cok_impl_validRoom : ConsOK Try.prog 9 cs_impl_validRoom := ⟨clok_impl_validRoom, inlNil, ovNil⟩
theorem i_impl_validRoom {vs : List A1} {kk : AV → List A1 → Prop} {motive : List A1 → Prop} (h : con_impl_validRoom.F vs kk) (H : ∀ (room0 : Int), F_impl_validRoom room0 (fun r0 => kk (.one (.c (.v (.bool r0)))) []) → motive [.c (.v (.int .i64 room0))]) : motive vs := by
  unfold con_impl_validRoom at h
  dsimp only at h
  split at h
  · exact H _ h
  · exact h.elim
theorem h_impl_validRoom : Holds Try.prog 48 con_impl_validRoom := by
  refine holds_of_ev (rt := [.c .sc]) (T := TT) (Γ := cs_impl_validRoom) (an := an_impl_validRoom) (N := 9) (c := Try.f48.body.getD .skip) Try.func48 (by kernel_rfl) Try.ntmps48 (by decide) (by decide) mixed tabOK cok_impl_validRoom (by kernel_rfl) ?_
  intro vs kk _ hF
  exact i_impl_validRoom (motive := fun vs => Goes (ev TT cs_impl_validRoom 9 an_impl_validRoom (Try.f48.body.getD .skip) (st0 con_impl_validRoom vs) (fin TT con_impl_validRoom Try.f48.results.toList [.c .sc] vs kk))) hF (fun room0 hF => goes_of (e_impl_validRoom room0 kk) (F_impl_validRoom_S hF))
def con_slices_Concat_sint_int : Con := ⟨[.rd], true, [.c (.sll .int)], fun vs k => match vs with
    | [.c (.rol .int slices0)] => F_slices_Concat_sint_int slices0 (fun r0 => k (.one (.c (.ro .int r0))) [])
    | _ => False, false⟩
def cl_slices_Concat_sint_int : List (FuncId × Con) := []
def nm1_slices_Concat_sint_int : List NStep := [.own 6 .int 90100, .keep [6, 25, 26, 27] [90100]]
def nm0_slices_Concat_sint_int : List NStep := [.keep [0, 3, 9, 10, 11] []]
def an_slices_Concat_sint_int_i1 : Ann := ⟨[], [], [], []⟩
def cs_slices_Concat_sint_int_i1 : Cons := ⟨cl_slices_Concat_sint_int, [], 592, [], [], []⟩
def an_slices_Concat_sint_int : Ann := ⟨[], [(11, nm1_slices_Concat_sint_int), (3, nm0_slices_Concat_sint_int)], [], []⟩
def cs_slices_Concat_sint_int : Cons := ⟨cl_slices_Concat_sint_int, [(24, ⟨74, inlG TT cs_slices_Concat_sint_int_i1 36 27 an_slices_Concat_sint_int_i1 (Try.f74.body.getD .skip) Try.f74.results.toList⟩)], 0, [], [], []⟩
def can1_slices_Concat_sint_int (slices0 : List (List Int)) (xt26 : Int) (xt27 : Int) (xnewslice6 : List Int) : St := ⟨[(6, .one (.c (.ow 90100))), (25, .one (.c (.rol .int slices0))), (26, .one (.c (.v (.int .i64 xt26)))), (27, .one (.c (.v (.int .i64 xt27))))], [(90100, .row .int xnewslice6)]⟩
def can0_slices_Concat_sint_int (slices0 : List (List Int)) (xt10 : Int) (xsize3 : Int) (xt11 : Int) : St := ⟨[(0, .one (.c (.rol .int slices0))), (3, .one (.c (.v (.int .i64 xsize3)))), (9, .one (.c (.rol .int slices0))), (10, .one (.c (.v (.int .i64 xt10)))), (11, .one (.c (.v (.int .i64 xt11))))], []⟩
def fin_slices_Concat_sint_int (slices0 : List (List Int)) (kk : AV → List A1 → Prop) : Kt := fin TT con_slices_Concat_sint_int Try.f50.results.toList [.c (.sl .int)] [.c (.rol .int slices0)] kk
def kt1_slices_Concat_sint_int (kf : Kt) : Kt := blockK 2 (seqK (evF TT cs_slices_Concat_sint_int 36 an_slices_Concat_sint_int Try.f50 [1, 1, 1, 1, 1]) (kf))
def kt0_slices_Concat_sint_int (kf : Kt) : Kt := blockK 0 (seqK (evF TT cs_slices_Concat_sint_int 36 an_slices_Concat_sint_int Try.f50 [1, 1, 1]) (kf))
theorem r1_slices_Concat_sint_int (slices0 : List (List Int)) (kk : AV → List A1 → Prop) (n : Nat) (xt26 : Int) (xt27 : Int) (xnewslice6 : List Int) :
    iter (evF TT cs_slices_Concat_sint_int 36 an_slices_Concat_sint_int Try.f50 [1, 1, 1, 1, 0, 1, 0, 0]) nm1_slices_Concat_sint_int (kt1_slices_Concat_sint_int (fin_slices_Concat_sint_int slices0 kk)) (n + 1) (can1_slices_Concat_sint_int slices0 xt26 xt27 xnewslice6) = T1_slices_Concat_sint_int slices0 xt26 xt27 xnewslice6 (fun r0 => kk (.one (.c (.ro .int r0))) []) (fun xt26 xt27 xnewslice6 => iter (evF TT cs_slices_Concat_sint_int 36 an_slices_Concat_sint_int Try.f50 [1, 1, 1, 1, 0, 1, 0, 0]) nm1_slices_Concat_sint_int (kt1_slices_Concat_sint_int (fin_slices_Concat_sint_int slices0 kk)) n (can1_slices_Concat_sint_int slices0 xt26 xt27 xnewslice6)) := by kernel_rfl
theorem l1_slices_Concat_sint_int (slices0 : List (List Int)) (kk : AV → List A1 → Prop) : ∀ (n : Nat) (xt26 : Int) (xt27 : Int) (xnewslice6 : List Int), iter (evF TT cs_slices_Concat_sint_int 36 an_slices_Concat_sint_int Try.f50 [1, 1, 1, 1, 0, 1, 0, 0]) nm1_slices_Concat_sint_int (kt1_slices_Concat_sint_int (fin_slices_Concat_sint_int slices0 kk)) n (can1_slices_Concat_sint_int slices0 xt26 xt27 xnewslice6) = L1_slices_Concat_sint_int slices0 (fun r0 => kk (.one (.c (.ro .int r0))) []) n xt26 xt27 xnewslice6 := by
  intro n
  induction n with
  | zero => intros; rfl
  | succ n ih =>
    intro xt26 xt27 xnewslice6
    rw [r1_slices_Concat_sint_int slices0 kk n xt26 xt27 xnewslice6]
    have hb : (fun xt26 xt27 xnewslice6 => iter (evF TT cs_slices_Concat_sint_int 36 an_slices_Concat_sint_int Try.f50 [1, 1, 1, 1, 0, 1, 0, 0]) nm1_slices_Concat_sint_int (kt1_slices_Concat_sint_int (fin_slices_Concat_sint_int slices0 kk)) n (can1_slices_Concat_sint_int slices0 xt26 xt27 xnewslice6)) = L1_slices_Concat_sint_int slices0 (fun r0 => kk (.one (.c (.ro .int r0))) []) n := by
      funext xt26 xt27 xnewslice6; exact ih xt26 xt27 xnewslice6
    rw [hb]
    rfl
theorem r0_slices_Concat_sint_int (slices0 : List (List Int)) (xt10 : Int) (kk : AV → List A1 → Prop) (n : Nat) (xsize3 : Int) (xt11 : Int) :
    iter (evF TT cs_slices_Concat_sint_int 36 an_slices_Concat_sint_int Try.f50 [1, 1, 0, 1, 0, 0]) nm0_slices_Concat_sint_int (kt0_slices_Concat_sint_int (fin_slices_Concat_sint_int slices0 kk)) (n + 1) (can0_slices_Concat_sint_int slices0 xt10 xsize3 xt11) = T0_slices_Concat_sint_int slices0 xt10 xsize3 xt11 (fun xsize3 xt11 => iter (evF TT cs_slices_Concat_sint_int 36 an_slices_Concat_sint_int Try.f50 [1, 1, 0, 1, 0, 0]) nm0_slices_Concat_sint_int (kt0_slices_Concat_sint_int (fin_slices_Concat_sint_int slices0 kk)) n (can0_slices_Concat_sint_int slices0 xt10 xsize3 xt11)) (fun slices0 xt26 xt27 xnewslice6 => ∃ j, iter (evF TT cs_slices_Concat_sint_int 36 an_slices_Concat_sint_int Try.f50 [1, 1, 1, 1, 0, 1, 0, 0]) nm1_slices_Concat_sint_int (kt1_slices_Concat_sint_int (fin_slices_Concat_sint_int slices0 kk)) j (can1_slices_Concat_sint_int slices0 xt26 xt27 xnewslice6)) := by kernel_rfl
theorem l0_slices_Concat_sint_int (slices0 : List (List Int)) (xt10 : Int) (kk : AV → List A1 → Prop) : ∀ (n : Nat) (xsize3 : Int) (xt11 : Int), iter (evF TT cs_slices_Concat_sint_int 36 an_slices_Concat_sint_int Try.f50 [1, 1, 0, 1, 0, 0]) nm0_slices_Concat_sint_int (kt0_slices_Concat_sint_int (fin_slices_Concat_sint_int slices0 kk)) n (can0_slices_Concat_sint_int slices0 xt10 xsize3 xt11) = L0_slices_Concat_sint_int slices0 xt10 (fun r0 => kk (.one (.c (.ro .int r0))) []) n xsize3 xt11 := by
  intro n
  induction n generalizing slices0 xt10 with
  | zero => intros; rfl
  | succ n ih =>
    intro xsize3 xt11
    rw [r0_slices_Concat_sint_int slices0 xt10 kk n xsize3 xt11]
    have hb : ∀ (slices0 : List (List Int)) (xt10 : Int), (fun xsize3 xt11 => iter (evF TT cs_slices_Concat_sint_int 36 an_slices_Concat_sint_int Try.f50 [1, 1, 0, 1, 0, 0]) nm0_slices_Concat_sint_int (kt0_slices_Concat_sint_int (fin_slices_Concat_sint_int slices0 kk)) n (can0_slices_Concat_sint_int slices0 xt10 xsize3 xt11)) = L0_slices_Concat_sint_int slices0 xt10 (fun r0 => kk (.one (.c (.ro .int r0))) []) n := by
      intro slices0 xt10
      funext xsize3 xt11; exact ih slices0 xt10 xsize3 xt11
    have hi1 : (fun slices0 xt26 xt27 xnewslice6 => ∃ j, iter (evF TT cs_slices_Concat_sint_int 36 an_slices_Concat_sint_int Try.f50 [1, 1, 1, 1, 0, 1, 0, 0]) nm1_slices_Concat_sint_int (kt1_slices_Concat_sint_int (fin_slices_Concat_sint_int slices0 kk)) j (can1_slices_Concat_sint_int slices0 xt26 xt27 xnewslice6)) = (fun slices0 xt26 xt27 xnewslice6 => ∃ j, L1_slices_Concat_sint_int slices0 (fun r0 => kk (.one (.c (.ro .int r0))) []) j xt26 xt27 xnewslice6) := by
      funext slices0 xt26 xt27 xnewslice6
      refine congrArg Exists (funext fun j => ?_)
      rw [l1_slices_Concat_sint_int slices0 kk j xt26 xt27 xnewslice6]
    rw [hb, hi1]
    rfl
theorem g_slices_Concat_sint_int (slices0 : List (List Int)) (kk : AV → List A1 → Prop) :
    ev TT cs_slices_Concat_sint_int 36 an_slices_Concat_sint_int (Try.f50.body.getD .skip) (st0 con_slices_Concat_sint_int [.c (.rol .int slices0)]) (fin TT con_slices_Concat_sint_int Try.f50.results.toList [.c (.sl .int)] [.c (.rol .int slices0)] kk) = G_slices_Concat_sint_int slices0 (fun slices0 xt10 xsize3 xt11 => ∃ j, iter (evF TT cs_slices_Concat_sint_int 36 an_slices_Concat_sint_int Try.f50 [1, 1, 0, 1, 0, 0]) nm0_slices_Concat_sint_int (kt0_slices_Concat_sint_int (fin_slices_Concat_sint_int slices0 kk)) j (can0_slices_Concat_sint_int slices0 xt10 xsize3 xt11)) := by kernel_rfl
theorem e_slices_Concat_sint_int (slices0 : List (List Int)) (kk : AV → List A1 → Prop) :
    ev TT cs_slices_Concat_sint_int 36 an_slices_Concat_sint_int (Try.f50.body.getD .skip) (st0 con_slices_Concat_sint_int [.c (.rol .int slices0)]) (fin TT con_slices_Concat_sint_int Try.f50.results.toList [.c (.sl .int)] [.c (.rol .int slices0)] kk) = S_slices_Concat_sint_int slices0 (fun r0 => kk (.one (.c (.ro .int r0))) []) := by
  rw [g_slices_Concat_sint_int]
  have hi0 : (fun slices0 xt10 xsize3 xt11 => ∃ j, iter (evF TT cs_slices_Concat_sint_int 36 an_slices_Concat_sint_int Try.f50 [1, 1, 0, 1, 0, 0]) nm0_slices_Concat_sint_int (kt0_slices_Concat_sint_int (fin_slices_Concat_sint_int slices0 kk)) j (can0_slices_Concat_sint_int slices0 xt10 xsize3 xt11)) = (fun slices0 xt10 xsize3 xt11 => ∃ j, L0_slices_Concat_sint_int slices0 xt10 (fun r0 => kk (.one (.c (.ro .int r0))) []) j xsize3 xt11) := by
    funext slices0 xt10 xsize3 xt11
    refine congrArg Exists (funext fun j => ?_)
    rw [l0_slices_Concat_sint_int slices0 xt10 kk j xsize3 xt11]
  rw [hi0]
  rfl
theorem clok_slices_Concat_sint_int : ConOK Try.prog cl_slices_Concat_sint_int := consNil
theorem cok_slices_Concat_sint_int_i1 : ConsOK Try.prog 27 cs_slices_Concat_sint_int_i1 := ⟨clok_slices_Concat_sint_int, inlNil, ovNil⟩
theorem cok_slices_Concat_sint_int : ConsOK Try.prog 36 cs_slices_Concat_sint_int := ⟨clok_slices_Concat_sint_int, inlCons (inl_ok Try.func74 (by kernel_rfl) (ne_of_beq (by kernel_rfl)) Try.ntmps74 (by decide) mixed tabOK cok_slices_Concat_sint_int_i1 (by kernel_rfl)) (inlNil), ovNil⟩
theorem i_slices_Concat_sint_int {vs : List A1} {kk : AV → List A1 → Prop} {motive : List A1 → Prop} (h : con_slices_Concat_sint_int.F vs kk) (H : ∀ (slices0 : List (List Int)), F_slices_Concat_sint_int slices0 (fun r0 => kk (.one (.c (.ro .int r0))) []) → motive [.c (.rol .int slices0)]) : motive vs := by
  unfold con_slices_Concat_sint_int at h
  dsimp only at h
  split at h
  · exact H _ h
  · exact h.elim
theorem h_slices_Concat_sint_int : Holds Try.prog 50 con_slices_Concat_sint_int := by
  refine holds_of_ev (rt := [.c (.sl .int)]) (T := TT) (Γ := cs_slices_Concat_sint_int) (an := an_slices_Concat_sint_int) (N := 36) (c := Try.f50.body.getD .skip) Try.func50 (by kernel_rfl) Try.ntmps50 (by decide) (by decide) mixed tabOK cok_slices_Concat_sint_int (by kernel_rfl) ?_
  intro vs kk _ hF
  exact i_slices_Concat_sint_int (motive := fun vs => Goes (ev TT cs_slices_Concat_sint_int 36 an_slices_Concat_sint_int (Try.f50.body.getD .skip) (st0 con_slices_Concat_sint_int vs) (fin TT con_slices_Concat_sint_int Try.f50.results.toList [.c (.sl .int)] vs kk))) hF (fun slices0 hF => goes_of (e_slices_Concat_sint_int slices0 kk) (F_slices_Concat_sint_int_S hF))
def con_impl_validKey : Con := ⟨[.rd], true, [.c (.sc)], fun vs k => match vs with
    | [.c (.v (.int .i64 key0))] => F_impl_validKey key0 (fun r0 => k (.one (.c (.v (.bool r0)))) [])
    | _ => False, false⟩
def cl_impl_validKey : List (FuncId × Con) := []
def an_impl_validKey : Ann := ⟨[], [], [], []⟩
def cs_impl_validKey : Cons := ⟨cl_impl_validKey, [], 0, [], [], []⟩
def fin_impl_validKey (key0 : Int) (kk : AV → List A1 → Prop) : Kt := fin TT con_impl_validKey Try.f37.results.toList [.c .sc] [.c (.v (.int .i64 key0))] kk
theorem g_impl_validKey (key0 : Int) (kk : AV → List A1 → Prop) :
    ev TT cs_impl_validKey 9 an_impl_validKey (Try.f37.body.getD .skip) (st0 con_impl_validKey [.c (.v (.int .i64 key0))]) (fin TT con_impl_validKey Try.f37.results.toList [.c .sc] [.c (.v (.int .i64 key0))] kk) = G_impl_validKey key0 (fun r0 => kk (.one (.c (.v (.bool r0)))) []) := by kernel_rfl
theorem e_impl_validKey (key0 : Int) (kk : AV → List A1 → Prop) :
    ev TT cs_impl_validKey 9 an_impl_validKey (Try.f37.body.getD .skip) (st0 con_impl_validKey [.c (.v (.int .i64 key0))]) (fin TT con_impl_validKey Try.f37.results.toList [.c .sc] [.c (.v (.int .i64 key0))] kk) = S_impl_validKey key0 (fun r0 => kk (.one (.c (.v (.bool r0)))) []) := by
  rw [g_impl_validKey]
  rfl
theorem clok_impl_validKey : ConOK Try.prog cl_impl_validKey := consNil
theorem cok_impl_validKey : ConsOK Try.prog 9 cs_impl_validKey := ⟨clok_impl_validKey, inlNil, ovNil⟩
theorem i_impl_validKey {vs : List A1} {kk : AV → List A1 → Prop} {motive : List A1 → Prop} (h : con_impl_validKey.F vs kk) (H : ∀ (key0 : Int), F_impl_validKey key0 (fun r0 => kk (.one (.c (.v (.bool r0)))) []) → motive [.c (.v (.int .i64 key0))]) : motive vs := by
  unfold con_impl_validKey at h
  dsimp only at h
  split at h
  · exact H _ h
  · exact h.elim
theorem h_impl_validKey : Holds Try.prog 37 con_impl_validKey := by
  refine holds_of_ev (rt := [.c .sc]) (T := TT) (Γ := cs_impl_validKey) (an := an_impl_validKey) (N := 9) (c := Try.f37.body.getD .skip) Try.func37 (by kernel_rfl) Try.ntmps37 (by decide) (by decide) mixed tabOK cok_impl_validKey (by kernel_rfl) ?_
  intro vs kk _ hF
  exact i_impl_validKey (motive := fun vs => Goes (ev TT cs_impl_validKey 9 an_impl_validKey (Try.f37.body.getD .skip) (st0 con_impl_validKey vs) (fin TT con_impl_validKey Try.f37.results.toList [.c .sc] vs kk))) hF (fun key0 hF => goes_of (e_impl_validKey key0 kk) (F_impl_validKey_S hF))
def con_slices_Index_sint_int : Con := ⟨[.rd, .rd], true, [.c (.sl .int), .c (.sc)], fun vs k => match vs with
    | [.c (.ro .int s0), .c (.v (.int .i64 v1))] => F_slices_Index_sint_int s0 v1 (fun r0 => k (.one (.c (.v (.int .i64 r0)))) [])
    | _ => False, false⟩
def cl_slices_Index_sint_int : List (FuncId × Con) := []
def nm0_slices_Index_sint_int : List NStep := [.keep [0, 1, 7, 8] []]
def an_slices_Index_sint_int : Ann := ⟨[], [(2, nm0_slices_Index_sint_int)], [], []⟩
def cs_slices_Index_sint_int : Cons := ⟨cl_slices_Index_sint_int, [], 0, [], [], []⟩
def can0_slices_Index_sint_int (s0 : List Int) (v1 : Int) (xt7 : Int) (xt8 : Int) : St := ⟨[(0, .one (.c (.ro .int s0))), (1, .one (.c (.v (.int .i64 v1)))), (7, .one (.c (.v (.int .i64 xt7)))), (8, .one (.c (.v (.int .i64 xt8))))], []⟩
def fin_slices_Index_sint_int (s0 : List Int) (v1 : Int) (kk : AV → List A1 → Prop) : Kt := fin TT con_slices_Index_sint_int Try.f61.results.toList [.c .sc] [.c (.ro .int s0), .c (.v (.int .i64 v1))] kk
def kt0_slices_Index_sint_int (kf : Kt) : Kt := blockK 0 (seqK (evF TT cs_slices_Index_sint_int 19 an_slices_Index_sint_int Try.f61 [1, 1]) (kf))
theorem r0_slices_Index_sint_int (s0 : List Int) (v1 : Int) (xt7 : Int) (kk : AV → List A1 → Prop) (n : Nat) (xt8 : Int) :
    iter (evF TT cs_slices_Index_sint_int 19 an_slices_Index_sint_int Try.f61 [1, 0, 1, 0, 0]) nm0_slices_Index_sint_int (kt0_slices_Index_sint_int (fin_slices_Index_sint_int s0 v1 kk)) (n + 1) (can0_slices_Index_sint_int s0 v1 xt7 xt8) = T0_slices_Index_sint_int s0 v1 xt7 xt8 (fun r0 => kk (.one (.c (.v (.int .i64 r0)))) []) (fun xt8 => iter (evF TT cs_slices_Index_sint_int 19 an_slices_Index_sint_int Try.f61 [1, 0, 1, 0, 0]) nm0_slices_Index_sint_int (kt0_slices_Index_sint_int (fin_slices_Index_sint_int s0 v1 kk)) n (can0_slices_Index_sint_int s0 v1 xt7 xt8)) := by kernel_rfl
theorem l0_slices_Index_sint_int (s0 : List Int) (v1 : Int) (xt7 : Int) (kk : AV → List A1 → Prop) : ∀ (n : Nat) (xt8 : Int), iter (evF TT cs_slices_Index_sint_int 19 an_slices_Index_sint_int Try.f61 [1, 0, 1, 0, 0]) nm0_slices_Index_sint_int (kt0_slices_Index_sint_int (fin_slices_Index_sint_int s0 v1 kk)) n (can0_slices_Index_sint_int s0 v1 xt7 xt8) = L0_slices_Index_sint_int s0 v1 xt7 (fun r0 => kk (.one (.c (.v (.int .i64 r0)))) []) n xt8 := by
  intro n
  induction n with
  | zero => intros; rfl
  | succ n ih =>
    intro xt8
    rw [r0_slices_Index_sint_int s0 v1 xt7 kk n xt8]
    have hb : (fun xt8 => iter (evF TT cs_slices_Index_sint_int 19 an_slices_Index_sint_int Try.f61 [1, 0, 1, 0, 0]) nm0_slices_Index_sint_int (kt0_slices_Index_sint_int (fin_slices_Index_sint_int s0 v1 kk)) n (can0_slices_Index_sint_int s0 v1 xt7 xt8)) = L0_slices_Index_sint_int s0 v1 xt7 (fun r0 => kk (.one (.c (.v (.int .i64 r0)))) []) n := by
      funext xt8; exact ih xt8
    rw [hb]
    rfl
theorem g_slices_Index_sint_int (s0 : List Int) (v1 : Int) (kk : AV → List A1 → Prop) :
    ev TT cs_slices_Index_sint_int 19 an_slices_Index_sint_int (Try.f61.body.getD .skip) (st0 con_slices_Index_sint_int [.c (.ro .int s0), .c (.v (.int .i64 v1))]) (fin TT con_slices_Index_sint_int Try.f61.results.toList [.c .sc] [.c (.ro .int s0), .c (.v (.int .i64 v1))] kk) = G_slices_Index_sint_int s0 v1 (fun s0 v1 xt7 xt8 => ∃ j, iter (evF TT cs_slices_Index_sint_int 19 an_slices_Index_sint_int Try.f61 [1, 0, 1, 0, 0]) nm0_slices_Index_sint_int (kt0_slices_Index_sint_int (fin_slices_Index_sint_int s0 v1 kk)) j (can0_slices_Index_sint_int s0 v1 xt7 xt8)) := by kernel_rfl
theorem e_slices_Index_sint_int (s0 : List Int) (v1 : Int) (kk : AV → List A1 → Prop) :
    ev TT cs_slices_Index_sint_int 19 an_slices_Index_sint_int (Try.f61.body.getD .skip) (st0 con_slices_Index_sint_int [.c (.ro .int s0), .c (.v (.int .i64 v1))]) (fin TT con_slices_Index_sint_int Try.f61.results.toList [.c .sc] [.c (.ro .int s0), .c (.v (.int .i64 v1))] kk) = S_slices_Index_sint_int s0 v1 (fun r0 => kk (.one (.c (.v (.int .i64 r0)))) []) := by
  rw [g_slices_Index_sint_int]
  have hi0 : (fun s0 v1 xt7 xt8 => ∃ j, iter (evF TT cs_slices_Index_sint_int 19 an_slices_Index_sint_int Try.f61 [1, 0, 1, 0, 0]) nm0_slices_Index_sint_int (kt0_slices_Index_sint_int (fin_slices_Index_sint_int s0 v1 kk)) j (can0_slices_Index_sint_int s0 v1 xt7 xt8)) = (fun s0 v1 xt7 xt8 => ∃ j, L0_slices_Index_sint_int s0 v1 xt7 (fun r0 => kk (.one (.c (.v (.int .i64 r0)))) []) j xt8) := by
    funext s0 v1 xt7 xt8
    refine congrArg Exists (funext fun j => ?_)
    rw [l0_slices_Index_sint_int s0 v1 xt7 kk j xt8]
  rw [hi0]
  rfl
theorem clok_slices_Index_sint_int : ConOK Try.prog cl_slices_Index_sint_int := consNil
theorem cok_slices_Index_sint_int : ConsOK Try.prog 19 cs_slices_Index_sint_int := ⟨clok_slices_Index_sint_int, inlNil, ovNil⟩
theorem i_slices_Index_sint_int {vs : List A1} {kk : AV → List A1 → Prop} {motive : List A1 → Prop} (h : con_slices_Index_sint_int.F vs kk) (H : ∀ (s0 : List Int) (v1 : Int), F_slices_Index_sint_int s0 v1 (fun r0 => kk (.one (.c (.v (.int .i64 r0)))) []) → motive [.c (.ro .int s0), .c (.v (.int .i64 v1))]) : motive vs := by
  unfold con_slices_Index_sint_int at h
  dsimp only at h
  split at h
  · exact H _ _ h
  · exact h.elim
theorem h_slices_Index_sint_int : Holds Try.prog 61 con_slices_Index_sint_int := by
  refine holds_of_ev (rt := [.c .sc]) (T := TT) (Γ := cs_slices_Index_sint_int) (an := an_slices_Index_sint_int) (N := 19) (c := Try.f61.body.getD .skip) Try.func61 (by kernel_rfl) Try.ntmps61 (by decide) (by decide) mixed tabOK cok_slices_Index_sint_int (by kernel_rfl) ?_
  intro vs kk _ hF
  exact i_slices_Index_sint_int (motive := fun vs => Goes (ev TT cs_slices_Index_sint_int 19 an_slices_Index_sint_int (Try.f61.body.getD .skip) (st0 con_slices_Index_sint_int vs) (fin TT con_slices_Index_sint_int Try.f61.results.toList [.c .sc] vs kk))) hF (fun s0 v1 hF => goes_of (e_slices_Index_sint_int s0 v1 kk) (F_slices_Index_sint_int_S hF))
def con_slices_Contains_sint_int : Con := ⟨[.rd, .rd], true, [.c (.sl .int), .c (.sc)], fun vs k => match vs with
    | [.c (.ro .int s0), .c (.v (.int .i64 v1))] => F_slices_Contains_sint_int s0 v1 (fun r0 => k (.one (.c (.v (.bool r0)))) [])
    | _ => False, false⟩
def cl_slices_Contains_sint_int : List (FuncId × Con) := [(61, con_slices_Index_sint_int)]
def an_slices_Contains_sint_int : Ann := ⟨[], [], [], []⟩
def cs_slices_Contains_sint_int : Cons := ⟨cl_slices_Contains_sint_int, [], 0, [], [], []⟩
def fin_slices_Contains_sint_int (s0 : List Int) (v1 : Int) (kk : AV → List A1 → Prop) : Kt := fin TT con_slices_Contains_sint_int Try.f40.results.toList [.c .sc] [.c (.ro .int s0), .c (.v (.int .i64 v1))] kk
theorem g_slices_Contains_sint_int (s0 : List Int) (v1 : Int) (kk : AV → List A1 → Prop) :
    ev TT cs_slices_Contains_sint_int 9 an_slices_Contains_sint_int (Try.f40.body.getD .skip) (st0 con_slices_Contains_sint_int [.c (.ro .int s0), .c (.v (.int .i64 v1))]) (fin TT con_slices_Contains_sint_int Try.f40.results.toList [.c .sc] [.c (.ro .int s0), .c (.v (.int .i64 v1))] kk) = G_slices_Contains_sint_int s0 v1 (fun r0 => kk (.one (.c (.v (.bool r0)))) []) := by kernel_rfl
theorem e_slices_Contains_sint_int (s0 : List Int) (v1 : Int) (kk : AV → List A1 → Prop) :
    ev TT cs_slices_Contains_sint_int 9 an_slices_Contains_sint_int (Try.f40.body.getD .skip) (st0 con_slices_Contains_sint_int [.c (.ro .int s0), .c (.v (.int .i64 v1))]) (fin TT con_slices_Contains_sint_int Try.f40.results.toList [.c .sc] [.c (.ro .int s0), .c (.v (.int .i64 v1))] kk) = S_slices_Contains_sint_int s0 v1 (fun r0 => kk (.one (.c (.v (.bool r0)))) []) := by
  rw [g_slices_Contains_sint_int]
  rfl
theorem clok_slices_Contains_sint_int : ConOK Try.prog cl_slices_Contains_sint_int := consCons h_slices_Index_sint_int ⟨Try.f61, Try.func61, by kernel_rfl, ne_of_beq (by kernel_rfl)⟩ (consNil)
theorem cok_slices_Contains_sint_int : ConsOK Try.prog 9 cs_slices_Contains_sint_int := ⟨clok_slices_Contains_sint_int, inlNil, ovNil⟩
theorem i_slices_Contains_sint_int {vs : List A1} {kk : AV → List A1 → Prop} {motive : List A1 → Prop} (h : con_slices_Contains_sint_int.F vs kk) (H : ∀ (s0 : List Int) (v1 : Int), F_slices_Contains_sint_int s0 v1 (fun r0 => kk (.one (.c (.v (.bool r0)))) []) → motive [.c (.ro .int s0), .c (.v (.int .i64 v1))]) : motive vs := by
  unfold con_slices_Contains_sint_int at h
  dsimp only at h
  split at h
  · exact H _ _ h
  · exact h.elim
theorem h_slices_Contains_sint_int : Holds Try.prog 40 con_slices_Contains_sint_int := by
  refine holds_of_ev (rt := [.c .sc]) (T := TT) (Γ := cs_slices_Contains_sint_int) (an := an_slices_Contains_sint_int) (N := 9) (c := Try.f40.body.getD .skip) Try.func40 (by kernel_rfl) Try.ntmps40 (by decide) (by decide) mixed tabOK cok_slices_Contains_sint_int (by kernel_rfl) ?_
  intro vs kk _ hF
  exact i_slices_Contains_sint_int (motive := fun vs => Goes (ev TT cs_slices_Contains_sint_int 9 an_slices_Contains_sint_int (Try.f40.body.getD .skip) (st0 con_slices_Contains_sint_int vs) (fin TT con_slices_Contains_sint_int Try.f40.results.toList [.c .sc] vs kk))) hF (fun s0 v1 hF => goes_of (e_slices_Contains_sint_int s0 v1 kk) (F_slices_Contains_sint_int_S hF))
def con_impl_differentKeys : Con := ⟨[.rd], true, [.c (.sl .int)], fun vs k => match vs with
    | [.c (.ro .int list0)] => F_impl_differentKeys list0 (fun r0 => k (.one (.c (.v (.bool r0)))) [])
    | _ => False, false⟩
def cl_impl_differentKeys : List (FuncId × Con) := [(37, con_impl_validKey), (40, con_slices_Contains_sint_int)]
def nm0_impl_differentKeys : List NStep := [.keep [0, 5, 6, 7] []]
def an_impl_differentKeys : Ann := ⟨[], [(2, nm0_impl_differentKeys)], [], []⟩
def cs_impl_differentKeys : Cons := ⟨cl_impl_differentKeys, [], 0, [], [], []⟩
def can0_impl_differentKeys (list0 : List Int) (xt6 : Int) (xt7 : Int) : St := ⟨[(0, .one (.c (.ro .int list0))), (5, .one (.c (.ro .int list0))), (6, .one (.c (.v (.int .i64 xt6)))), (7, .one (.c (.v (.int .i64 xt7))))], []⟩
def fin_impl_differentKeys (list0 : List Int) (kk : AV → List A1 → Prop) : Kt := fin TT con_impl_differentKeys Try.f49.results.toList [.c .sc] [.c (.ro .int list0)] kk
def kt0_impl_differentKeys (kf : Kt) : Kt := blockK 0 (seqK (evF TT cs_impl_differentKeys 23 an_impl_differentKeys Try.f49 [1, 1]) (kf))
theorem r0_impl_differentKeys (list0 : List Int) (xt6 : Int) (kk : AV → List A1 → Prop) (n : Nat) (xt7 : Int) :
    iter (evF TT cs_impl_differentKeys 23 an_impl_differentKeys Try.f49 [1, 0, 1, 0, 0]) nm0_impl_differentKeys (kt0_impl_differentKeys (fin_impl_differentKeys list0 kk)) (n + 1) (can0_impl_differentKeys list0 xt6 xt7) = T0_impl_differentKeys list0 xt6 xt7 (fun r0 => kk (.one (.c (.v (.bool r0)))) []) (fun xt7 => iter (evF TT cs_impl_differentKeys 23 an_impl_differentKeys Try.f49 [1, 0, 1, 0, 0]) nm0_impl_differentKeys (kt0_impl_differentKeys (fin_impl_differentKeys list0 kk)) n (can0_impl_differentKeys list0 xt6 xt7)) := by kernel_rfl
theorem l0_impl_differentKeys (list0 : List Int) (xt6 : Int) (kk : AV → List A1 → Prop) : ∀ (n : Nat) (xt7 : Int), iter (evF TT cs_impl_differentKeys 23 an_impl_differentKeys Try.f49 [1, 0, 1, 0, 0]) nm0_impl_differentKeys (kt0_impl_differentKeys (fin_impl_differentKeys list0 kk)) n (can0_impl_differentKeys list0 xt6 xt7) = L0_impl_differentKeys list0 xt6 (fun r0 => kk (.one (.c (.v (.bool r0)))) []) n xt7 := by
  intro n
  induction n with
  | zero => intros; rfl
  | succ n ih =>
    intro xt7
    rw [r0_impl_differentKeys list0 xt6 kk n xt7]
    have hb : (fun xt7 => iter (evF TT cs_impl_differentKeys 23 an_impl_differentKeys Try.f49 [1, 0, 1, 0, 0]) nm0_impl_differentKeys (kt0_impl_differentKeys (fin_impl_differentKeys list0 kk)) n (can0_impl_differentKeys list0 xt6 xt7)) = L0_impl_differentKeys list0 xt6 (fun r0 => kk (.one (.c (.v (.bool r0)))) []) n := by
      funext xt7; exact ih xt7
    rw [hb]
    rfl
theorem g_impl_differentKeys (list0 : List Int) (kk : AV → List A1 → Prop) :
    ev TT cs_impl_differentKeys 23 an_impl_differentKeys (Try.f49.body.getD .skip) (st0 con_impl_differentKeys [.c (.ro .int list0)]) (fin TT con_impl_differentKeys Try.f49.results.toList [.c .sc] [.c (.ro .int list0)] kk) = G_impl_differentKeys list0 (fun list0 xt6 xt7 => ∃ j, iter (evF TT cs_impl_differentKeys 23 an_impl_differentKeys Try.f49 [1, 0, 1, 0, 0]) nm0_impl_differentKeys (kt0_impl_differentKeys (fin_impl_differentKeys list0 kk)) j (can0_impl_differentKeys list0 xt6 xt7)) := by kernel_rfl
theorem e_impl_differentKeys (list0 : List Int) (kk : AV → List A1 → Prop) :
    ev TT cs_impl_differentKeys 23 an_impl_differentKeys (Try.f49.body.getD .skip) (st0 con_impl_differentKeys [.c (.ro .int list0)]) (fin TT con_impl_differentKeys Try.f49.results.toList [.c .sc] [.c (.ro .int list0)] kk) = S_impl_differentKeys list0 (fun r0 => kk (.one (.c (.v (.bool r0)))) []) := by
  rw [g_impl_differentKeys]
  have hi0 : (fun list0 xt6 xt7 => ∃ j, iter (evF TT cs_impl_differentKeys 23 an_impl_differentKeys Try.f49 [1, 0, 1, 0, 0]) nm0_impl_differentKeys (kt0_impl_differentKeys (fin_impl_differentKeys list0 kk)) j (can0_impl_differentKeys list0 xt6 xt7)) = (fun list0 xt6 xt7 => ∃ j, L0_impl_differentKeys list0 xt6 (fun r0 => kk (.one (.c (.v (.bool r0)))) []) j xt7) := by
    funext list0 xt6 xt7
    refine congrArg Exists (funext fun j => ?_)
    rw [l0_impl_differentKeys list0 xt6 kk j xt7]
  rw [hi0]
  rfl
theorem clok_impl_differentKeys : ConOK Try.prog cl_impl_differentKeys := consCons h_impl_validKey ⟨Try.f37, Try.func37, by kernel_rfl, ne_of_beq (by kernel_rfl)⟩ (consCons h_slices_Contains_sint_int ⟨Try.f40, Try.func40, by kernel_rfl, ne_of_beq (by kernel_rfl)⟩ (consNil))
theorem cok_impl_differentKeys : ConsOK Try.prog 23 cs_impl_differentKeys := ⟨clok_impl_differentKeys, inlNil, ovNil⟩
theorem i_impl_differentKeys {vs : List A1} {kk : AV → List A1 → Prop} {motive : List A1 → Prop} (h : con_impl_differentKeys.F vs kk) (H : ∀ (list0 : List Int), F_impl_differentKeys list0 (fun r0 => kk (.one (.c (.v (.bool r0)))) []) → motive [.c (.ro .int list0)]) : motive vs := by
  unfold con_impl_differentKeys at h
  dsimp only at h
  split at h
  · exact H _ h
  · exact h.elim
theorem h_impl_differentKeys : Holds Try.prog 49 con_impl_differentKeys := by
  refine holds_of_ev (rt := [.c .sc]) (T := TT) (Γ := cs_impl_differentKeys) (an := an_impl_differentKeys) (N := 23) (c := Try.f49.body.getD .skip) Try.func49 (by kernel_rfl) Try.ntmps49 (by decide) (by decide) mixed tabOK cok_impl_differentKeys (by kernel_rfl) ?_
  intro vs kk _ hF
  exact i_impl_differentKeys (motive := fun vs => Goes (ev TT cs_impl_differentKeys 23 an_impl_differentKeys (Try.f49.body.getD .skip) (st0 con_impl_differentKeys vs) (fin TT con_impl_differentKeys Try.f49.results.toList [.c .sc] vs kk))) hF (fun list0 hF => goes_of (e_impl_differentKeys list0 kk) (F_impl_differentKeys_S hF))
def con_impl_ValidLists : Con := ⟨[.rd], true, [.agg [.sc, .sc, .sl .int, .sl .int, .sl .int, .sl .int]], fun vs k => match vs with
    | [.agg [.v (.int .i64 a0Room), .v (.int .i64 a0Target), .ro .int a0Once, .ro .int a0Often, .ro .int a0WasOnce, .ro .int a0WasOften]] => F_impl_ValidLists a0Room a0Target a0Once a0Often a0WasOnce a0WasOften (fun r0 => k (.one (.c (.v (.bool r0)))) [])
    | _ => False, false⟩
def cl_impl_ValidLists : List (FuncId × Con) := [(48, con_impl_validRoom), (49, con_impl_differentKeys), (50, con_slices_Concat_sint_int)]
def an_impl_ValidLists : Ann := ⟨[], [], [], []⟩
def cs_impl_ValidLists : Cons := ⟨cl_impl_ValidLists, [], 0, [], [], []⟩
def fin_impl_ValidLists (a0Room : Int) (a0Target : Int) (a0Once : List Int) (a0Often : List Int) (a0WasOnce : List Int) (a0WasOften : List Int) (kk : AV → List A1 → Prop) : Kt := fin TT con_impl_ValidLists Try.f18.results.toList [.c .sc] [.agg [.v (.int .i64 a0Room), .v (.int .i64 a0Target), .ro .int a0Once, .ro .int a0Often, .ro .int a0WasOnce, .ro .int a0WasOften]] kk
theorem g_impl_ValidLists (a0Room : Int) (a0Target : Int) (a0Once : List Int) (a0Often : List Int) (a0WasOnce : List Int) (a0WasOften : List Int) (kk : AV → List A1 → Prop) :
    ev TT cs_impl_ValidLists 71 an_impl_ValidLists (Try.f18.body.getD .skip) (st0 con_impl_ValidLists [.agg [.v (.int .i64 a0Room), .v (.int .i64 a0Target), .ro .int a0Once, .ro .int a0Often, .ro .int a0WasOnce, .ro .int a0WasOften]]) (fin TT con_impl_ValidLists Try.f18.results.toList [.c .sc] [.agg [.v (.int .i64 a0Room), .v (.int .i64 a0Target), .ro .int a0Once, .ro .int a0Often, .ro .int a0WasOnce, .ro .int a0WasOften]] kk) = G_impl_ValidLists a0Room a0Target a0Once a0Often a0WasOnce a0WasOften (fun r0 => kk (.one (.c (.v (.bool r0)))) []) := by kernel_rfl
theorem e_impl_ValidLists (a0Room : Int) (a0Target : Int) (a0Once : List Int) (a0Often : List Int) (a0WasOnce : List Int) (a0WasOften : List Int) (kk : AV → List A1 → Prop) :
    ev TT cs_impl_ValidLists 71 an_impl_ValidLists (Try.f18.body.getD .skip) (st0 con_impl_ValidLists [.agg [.v (.int .i64 a0Room), .v (.int .i64 a0Target), .ro .int a0Once, .ro .int a0Often, .ro .int a0WasOnce, .ro .int a0WasOften]]) (fin TT con_impl_ValidLists Try.f18.results.toList [.c .sc] [.agg [.v (.int .i64 a0Room), .v (.int .i64 a0Target), .ro .int a0Once, .ro .int a0Often, .ro .int a0WasOnce, .ro .int a0WasOften]] kk) = S_impl_ValidLists a0Room a0Target a0Once a0Often a0WasOnce a0WasOften (fun r0 => kk (.one (.c (.v (.bool r0)))) []) := by
  rw [g_impl_ValidLists]
  rfl
theorem clok_impl_ValidLists : ConOK Try.prog cl_impl_ValidLists := consCons h_impl_validRoom ⟨Try.f48, Try.func48, by kernel_rfl, ne_of_beq (by kernel_rfl)⟩ (consCons h_impl_differentKeys ⟨Try.f49, Try.func49, by kernel_rfl, ne_of_beq (by kernel_rfl)⟩ (consCons h_slices_Concat_sint_int ⟨Try.f50, Try.func50, by kernel_rfl, ne_of_beq (by kernel_rfl)⟩ (consNil)))
theorem cok_impl_ValidLists : ConsOK Try.prog 71 cs_impl_ValidLists := ⟨clok_impl_ValidLists, inlNil, ovNil⟩
theorem i_impl_ValidLists {vs : List A1} {kk : AV → List A1 → Prop} {motive : List A1 → Prop} (h : con_impl_ValidLists.F vs kk) (H : ∀ (a0Room : Int) (a0Target : Int) (a0Once : List Int) (a0Often : List Int) (a0WasOnce : List Int) (a0WasOften : List Int), F_impl_ValidLists a0Room a0Target a0Once a0Often a0WasOnce a0WasOften (fun r0 => kk (.one (.c (.v (.bool r0)))) []) → motive [.agg [.v (.int .i64 a0Room), .v (.int .i64 a0Target), .ro .int a0Once, .ro .int a0Often, .ro .int a0WasOnce, .ro .int a0WasOften]]) : motive vs := by
  unfold con_impl_ValidLists at h
  dsimp only at h
  split at h
  · exact H _ _ _ _ _ _ h
  · exact h.elim
theorem h_impl_ValidLists : Holds Try.prog 18 con_impl_ValidLists := by
  refine holds_of_ev (rt := [.c .sc]) (T := TT) (Γ := cs_impl_ValidLists) (an := an_impl_ValidLists) (N := 71) (c := Try.f18.body.getD .skip) Try.func18 (by kernel_rfl) Try.ntmps18 (by decide) (by decide) mixed tabOK cok_impl_ValidLists (by kernel_rfl) ?_
  intro vs kk _ hF
  exact i_impl_ValidLists (motive := fun vs => Goes (ev TT cs_impl_ValidLists 71 an_impl_ValidLists (Try.f18.body.getD .skip) (st0 con_impl_ValidLists vs) (fin TT con_impl_ValidLists Try.f18.results.toList [.c .sc] vs kk))) hF (fun a0Room a0Target a0Once a0Often a0WasOnce a0WasOften hF => goes_of (e_impl_ValidLists a0Room a0Target a0Once a0Often a0WasOnce a0WasOften kk) (F_impl_ValidLists_S hF))
def con_impl_nextTarget : Con := ⟨[.rd, .rd], true, [.agg [.sc, .sc, .sl .int, .sl .int, .sl .int, .sl .int], .c (.sc)], fun vs k => match vs with
    | [.agg [.v (.int .i64 a0Room), .v (.int .i64 a0Target), .ro .int a0Once, .ro .int a0Often, .ro .int a0WasOnce, .ro .int a0WasOften], .c (.v (.int .i64 key1))] => F_impl_nextTarget a0Room a0Target a0Once a0Often a0WasOnce a0WasOften key1 (fun r0 => k (.one (.c (.v (.int .i64 r0)))) [])
    | _ => False, false⟩
def cl_impl_nextTarget : List (FuncId × Con) := [(40, con_slices_Contains_sint_int)]
def an_impl_nextTarget : Ann := ⟨[(2, .take 0 (.take 1 (.take 2 (.take 3 (.take 4 (.take 5 (.take 6 (.take 7 (.take 8 (.take 9 (.take 10 (.take 11 (.take 12 (.take 13 (.take 14 (.done))))))))))))))), [32]), (4, .take 0 (.take 1 (.take 2 (.take 3 (.take 4 (.take 5 (.take 6 (.take 7 (.take 8 (.take 9 (.take 10 (.take 11 (.take 12 (.done))))))))))))), [32])], [], [], []⟩
def cs_impl_nextTarget : Cons := ⟨cl_impl_nextTarget, [], 0, [], [], []⟩
def fin_impl_nextTarget (a0Room : Int) (a0Target : Int) (a0Once : List Int) (a0Often : List Int) (a0WasOnce : List Int) (a0WasOften : List Int) (key1 : Int) (kk : AV → List A1 → Prop) : Kt := fin TT con_impl_nextTarget Try.f38.results.toList [.c .sc] [.agg [.v (.int .i64 a0Room), .v (.int .i64 a0Target), .ro .int a0Once, .ro .int a0Often, .ro .int a0WasOnce, .ro .int a0WasOften], .c (.v (.int .i64 key1))] kk
theorem g_impl_nextTarget (a0Room : Int) (a0Target : Int) (a0Once : List Int) (a0Often : List Int) (a0WasOnce : List Int) (a0WasOften : List Int) (key1 : Int) (kk : AV → List A1 → Prop) :
    ev TT cs_impl_nextTarget 41 an_impl_nextTarget (Try.f38.body.getD .skip) (st0 con_impl_nextTarget [.agg [.v (.int .i64 a0Room), .v (.int .i64 a0Target), .ro .int a0Once, .ro .int a0Often, .ro .int a0WasOnce, .ro .int a0WasOften], .c (.v (.int .i64 key1))]) (fin TT con_impl_nextTarget Try.f38.results.toList [.c .sc] [.agg [.v (.int .i64 a0Room), .v (.int .i64 a0Target), .ro .int a0Once, .ro .int a0Often, .ro .int a0WasOnce, .ro .int a0WasOften], .c (.v (.int .i64 key1))] kk) = G_impl_nextTarget a0Room a0Target a0Once a0Often a0WasOnce a0WasOften key1 (fun r0 => kk (.one (.c (.v (.int .i64 r0)))) []) := by kernel_rfl
theorem e_impl_nextTarget (a0Room : Int) (a0Target : Int) (a0Once : List Int) (a0Often : List Int) (a0WasOnce : List Int) (a0WasOften : List Int) (key1 : Int) (kk : AV → List A1 → Prop) :
    ev TT cs_impl_nextTarget 41 an_impl_nextTarget (Try.f38.body.getD .skip) (st0 con_impl_nextTarget [.agg [.v (.int .i64 a0Room), .v (.int .i64 a0Target), .ro .int a0Once, .ro .int a0Often, .ro .int a0WasOnce, .ro .int a0WasOften], .c (.v (.int .i64 key1))]) (fin TT con_impl_nextTarget Try.f38.results.toList [.c .sc] [.agg [.v (.int .i64 a0Room), .v (.int .i64 a0Target), .ro .int a0Once, .ro .int a0Often, .ro .int a0WasOnce, .ro .int a0WasOften], .c (.v (.int .i64 key1))] kk) = S_impl_nextTarget a0Room a0Target a0Once a0Often a0WasOnce a0WasOften key1 (fun r0 => kk (.one (.c (.v (.int .i64 r0)))) []) := by
  rw [g_impl_nextTarget]
  rfl
theorem clok_impl_nextTarget : ConOK Try.prog cl_impl_nextTarget := consCons h_slices_Contains_sint_int ⟨Try.f40, Try.func40, by kernel_rfl, ne_of_beq (by kernel_rfl)⟩ (consNil)
theorem cok_impl_nextTarget : ConsOK Try.prog 41 cs_impl_nextTarget := ⟨clok_impl_nextTarget, inlNil, ovNil⟩
theorem i_impl_nextTarget {vs : List A1} {kk : AV → List A1 → Prop} {motive : List A1 → Prop} (h : con_impl_nextTarget.F vs kk) (H : ∀ (a0Room : Int) (a0Target : Int) (a0Once : List Int) (a0Often : List Int) (a0WasOnce : List Int) (a0WasOften : List Int) (key1 : Int), F_impl_nextTarget a0Room a0Target a0Once a0Often a0WasOnce a0WasOften key1 (fun r0 => kk (.one (.c (.v (.int .i64 r0)))) []) → motive [.agg [.v (.int .i64 a0Room), .v (.int .i64 a0Target), .ro .int a0Once, .ro .int a0Often, .ro .int a0WasOnce, .ro .int a0WasOften], .c (.v (.int .i64 key1))]) : motive vs := by
  unfold con_impl_nextTarget at h
  dsimp only at h
  split at h
  · exact H _ _ _ _ _ _ _ h
  · exact h.elim
theorem h_impl_nextTarget : Holds Try.prog 38 con_impl_nextTarget := by
  refine holds_of_ev (rt := [.c .sc]) (T := TT) (Γ := cs_impl_nextTarget) (an := an_impl_nextTarget) (N := 41) (c := Try.f38.body.getD .skip) Try.func38 (by kernel_rfl) Try.ntmps38 (by decide) (by decide) mixed tabOK cok_impl_nextTarget (by kernel_rfl) ?_
  intro vs kk _ hF
  exact i_impl_nextTarget (motive := fun vs => Goes (ev TT cs_impl_nextTarget 41 an_impl_nextTarget (Try.f38.body.getD .skip) (st0 con_impl_nextTarget vs) (fin TT con_impl_nextTarget Try.f38.results.toList [.c .sc] vs kk))) hF (fun a0Room a0Target a0Once a0Often a0WasOnce a0WasOften key1 hF => goes_of (e_impl_nextTarget a0Room a0Target a0Once a0Often a0WasOnce a0WasOften key1 kk) (F_impl_nextTarget_S hF))
def con_impl_withoutKey : Con := ⟨[.rd, .rd], true, [.c (.sl .int), .c (.sc)], fun vs k => match vs with
    | [.c (.ro .int list0), .c (.v (.int .i64 key1))] => F_impl_withoutKey list0 key1 (fun r0 => k (.one (.c (.ro .int r0))) [])
    | _ => False, false⟩
def cl_impl_withoutKey : List (FuncId × Con) := []
def nm0_impl_withoutKey : List NStep := [.own 5 .int 90000, .keep [1, 5, 9, 10, 11] [90000]]
def an_impl_withoutKey : Ann := ⟨[], [(3, nm0_impl_withoutKey)], [], []⟩
def cs_impl_withoutKey : Cons := ⟨cl_impl_withoutKey, [], 0, [], [], []⟩
def can0_impl_withoutKey (key1 : Int) (list0 : List Int) (xt10 : Int) (xt11 : Int) (xout5 : List Int) : St := ⟨[(1, .one (.c (.v (.int .i64 key1)))), (5, .one (.c (.ow 90000))), (9, .one (.c (.ro .int list0))), (10, .one (.c (.v (.int .i64 xt10)))), (11, .one (.c (.v (.int .i64 xt11))))], [(90000, .row .int xout5)]⟩
def fin_impl_withoutKey (list0 : List Int) (key1 : Int) (kk : AV → List A1 → Prop) : Kt := fin TT con_impl_withoutKey Try.f39.results.toList [.c (.sl .int)] [.c (.ro .int list0), .c (.v (.int .i64 key1))] kk
def kt0_impl_withoutKey (kf : Kt) : Kt := blockK 0 (seqK (evF TT cs_impl_withoutKey 24 an_impl_withoutKey Try.f39 [1, 1, 1]) (kf))
theorem r0_impl_withoutKey (list0 : List Int) (key1 : Int) (xt10 : Int) (kk : AV → List A1 → Prop) (n : Nat) (xt11 : Int) (xout5 : List Int) :
    iter (evF TT cs_impl_withoutKey 24 an_impl_withoutKey Try.f39 [1, 1, 0, 1, 0, 0]) nm0_impl_withoutKey (kt0_impl_withoutKey (fin_impl_withoutKey list0 key1 kk)) (n + 1) (can0_impl_withoutKey key1 list0 xt10 xt11 xout5) = T0_impl_withoutKey key1 list0 xt10 xt11 xout5 (fun r0 => kk (.one (.c (.ro .int r0))) []) (fun xt11 xout5 => iter (evF TT cs_impl_withoutKey 24 an_impl_withoutKey Try.f39 [1, 1, 0, 1, 0, 0]) nm0_impl_withoutKey (kt0_impl_withoutKey (fin_impl_withoutKey list0 key1 kk)) n (can0_impl_withoutKey key1 list0 xt10 xt11 xout5)) := by kernel_rfl
theorem l0_impl_withoutKey (list0 : List Int) (key1 : Int) (xt10 : Int) (kk : AV → List A1 → Prop) : ∀ (n : Nat) (xt11 : Int) (xout5 : List Int), iter (evF TT cs_impl_withoutKey 24 an_impl_withoutKey Try.f39 [1, 1, 0, 1, 0, 0]) nm0_impl_withoutKey (kt0_impl_withoutKey (fin_impl_withoutKey list0 key1 kk)) n (can0_impl_withoutKey key1 list0 xt10 xt11 xout5) = L0_impl_withoutKey key1 list0 xt10 (fun r0 => kk (.one (.c (.ro .int r0))) []) n xt11 xout5 := by
  intro n
  induction n with
  | zero => intros; rfl
  | succ n ih =>
    intro xt11 xout5
    rw [r0_impl_withoutKey list0 key1 xt10 kk n xt11 xout5]
    have hb : (fun xt11 xout5 => iter (evF TT cs_impl_withoutKey 24 an_impl_withoutKey Try.f39 [1, 1, 0, 1, 0, 0]) nm0_impl_withoutKey (kt0_impl_withoutKey (fin_impl_withoutKey list0 key1 kk)) n (can0_impl_withoutKey key1 list0 xt10 xt11 xout5)) = L0_impl_withoutKey key1 list0 xt10 (fun r0 => kk (.one (.c (.ro .int r0))) []) n := by
      funext xt11 xout5; exact ih xt11 xout5
    rw [hb]
    rfl
theorem g_impl_withoutKey (list0 : List Int) (key1 : Int) (kk : AV → List A1 → Prop) :
    ev TT cs_impl_withoutKey 24 an_impl_withoutKey (Try.f39.body.getD .skip) (st0 con_impl_withoutKey [.c (.ro .int list0), .c (.v (.int .i64 key1))]) (fin TT con_impl_withoutKey Try.f39.results.toList [.c (.sl .int)] [.c (.ro .int list0), .c (.v (.int .i64 key1))] kk) = G_impl_withoutKey list0 key1 (fun key1 list0 xt10 xt11 xout5 => ∃ j, iter (evF TT cs_impl_withoutKey 24 an_impl_withoutKey Try.f39 [1, 1, 0, 1, 0, 0]) nm0_impl_withoutKey (kt0_impl_withoutKey (fin_impl_withoutKey list0 key1 kk)) j (can0_impl_withoutKey key1 list0 xt10 xt11 xout5)) := by kernel_rfl
theorem e_impl_withoutKey (list0 : List Int) (key1 : Int) (kk : AV → List A1 → Prop) :
    ev TT cs_impl_withoutKey 24 an_impl_withoutKey (Try.f39.body.getD .skip) (st0 con_impl_withoutKey [.c (.ro .int list0), .c (.v (.int .i64 key1))]) (fin TT con_impl_withoutKey Try.f39.results.toList [.c (.sl .int)] [.c (.ro .int list0), .c (.v (.int .i64 key1))] kk) = S_impl_withoutKey list0 key1 (fun r0 => kk (.one (.c (.ro .int r0))) []) := by
  rw [g_impl_withoutKey]
  have hi0 : (fun key1 list0 xt10 xt11 xout5 => ∃ j, iter (evF TT cs_impl_withoutKey 24 an_impl_withoutKey Try.f39 [1, 1, 0, 1, 0, 0]) nm0_impl_withoutKey (kt0_impl_withoutKey (fin_impl_withoutKey list0 key1 kk)) j (can0_impl_withoutKey key1 list0 xt10 xt11 xout5)) = (fun key1 list0 xt10 xt11 xout5 => ∃ j, L0_impl_withoutKey key1 list0 xt10 (fun r0 => kk (.one (.c (.ro .int r0))) []) j xt11 xout5) := by
    funext key1 list0 xt10 xt11 xout5
    refine congrArg Exists (funext fun j => ?_)
    rw [l0_impl_withoutKey list0 key1 xt10 kk j xt11 xout5]
  rw [hi0]
  rfl
theorem clok_impl_withoutKey : ConOK Try.prog cl_impl_withoutKey := consNil
theorem cok_impl_withoutKey : ConsOK Try.prog 24 cs_impl_withoutKey := ⟨clok_impl_withoutKey, inlNil, ovNil⟩
theorem i_impl_withoutKey {vs : List A1} {kk : AV → List A1 → Prop} {motive : List A1 → Prop} (h : con_impl_withoutKey.F vs kk) (H : ∀ (list0 : List Int) (key1 : Int), F_impl_withoutKey list0 key1 (fun r0 => kk (.one (.c (.ro .int r0))) []) → motive [.c (.ro .int list0), .c (.v (.int .i64 key1))]) : motive vs := by
  unfold con_impl_withoutKey at h
  dsimp only at h
  split at h
  · exact H _ _ h
  · exact h.elim
theorem h_impl_withoutKey : Holds Try.prog 39 con_impl_withoutKey := by
  refine holds_of_ev (rt := [.c (.sl .int)]) (T := TT) (Γ := cs_impl_withoutKey) (an := an_impl_withoutKey) (N := 24) (c := Try.f39.body.getD .skip) Try.func39 (by kernel_rfl) Try.ntmps39 (by decide) (by decide) mixed tabOK cok_impl_withoutKey (by kernel_rfl) ?_
  intro vs kk _ hF
  exact i_impl_withoutKey (motive := fun vs => Goes (ev TT cs_impl_withoutKey 24 an_impl_withoutKey (Try.f39.body.getD .skip) (st0 con_impl_withoutKey vs) (fin TT con_impl_withoutKey Try.f39.results.toList [.c (.sl .int)] vs kk))) hF (fun list0 key1 hF => goes_of (e_impl_withoutKey list0 key1 kk) (F_impl_withoutKey_S hF))
def con_impl_putFirst : Con := ⟨[.rd, .rd], true, [.c (.sl .int), .c (.sc)], fun vs k => match vs with
    | [.c (.ro .int list0), .c (.v (.int .i64 key1))] => F_impl_putFirst list0 key1 (fun r0 => k (.one (.c (.ro .int r0))) [])
    | _ => False, false⟩
def cl_impl_putFirst : List (FuncId × Con) := []
def an_impl_putFirst : Ann := ⟨[], [], [], []⟩
def cs_impl_putFirst : Cons := ⟨cl_impl_putFirst, [], 0, [], [], []⟩
def fin_impl_putFirst (list0 : List Int) (key1 : Int) (kk : AV → List A1 → Prop) : Kt := fin TT con_impl_putFirst Try.f43.results.toList [.c (.sl .int)] [.c (.ro .int list0), .c (.v (.int .i64 key1))] kk
theorem g_impl_putFirst (list0 : List Int) (key1 : Int) (kk : AV → List A1 → Prop) :
    ev TT cs_impl_putFirst 9 an_impl_putFirst (Try.f43.body.getD .skip) (st0 con_impl_putFirst [.c (.ro .int list0), .c (.v (.int .i64 key1))]) (fin TT con_impl_putFirst Try.f43.results.toList [.c (.sl .int)] [.c (.ro .int list0), .c (.v (.int .i64 key1))] kk) = G_impl_putFirst list0 key1 (fun r0 => kk (.one (.c (.ro .int r0))) []) := by kernel_rfl
theorem e_impl_putFirst (list0 : List Int) (key1 : Int) (kk : AV → List A1 → Prop) :
    ev TT cs_impl_putFirst 9 an_impl_putFirst (Try.f43.body.getD .skip) (st0 con_impl_putFirst [.c (.ro .int list0), .c (.v (.int .i64 key1))]) (fin TT con_impl_putFirst Try.f43.results.toList [.c (.sl .int)] [.c (.ro .int list0), .c (.v (.int .i64 key1))] kk) = S_impl_putFirst list0 key1 (fun r0 => kk (.one (.c (.ro .int r0))) []) := by
  rw [g_impl_putFirst]
  rfl
theorem clok_impl_putFirst : ConOK Try.prog cl_impl_putFirst := consNil
theorem cok_impl_putFirst : ConsOK Try.prog 9 cs_impl_putFirst := ⟨clok_impl_putFirst, inlNil, ovNil⟩
theorem i_impl_putFirst {vs : List A1} {kk : AV → List A1 → Prop} {motive : List A1 → Prop} (h : con_impl_putFirst.F vs kk) (H : ∀ (list0 : List Int) (key1 : Int), F_impl_putFirst list0 key1 (fun r0 => kk (.one (.c (.ro .int r0))) []) → motive [.c (.ro .int list0), .c (.v (.int .i64 key1))]) : motive vs := by
  unfold con_impl_putFirst at h
  dsimp only at h
  split at h
  · exact H _ _ h
  · exact h.elim
theorem h_impl_putFirst : Holds Try.prog 43 con_impl_putFirst := by
  refine holds_of_ev (rt := [.c (.sl .int)]) (T := TT) (Γ := cs_impl_putFirst) (an := an_impl_putFirst) (N := 9) (c := Try.f43.body.getD .skip) Try.func43 (by kernel_rfl) Try.ntmps43 (by decide) (by decide) mixed tabOK cok_impl_putFirst (by kernel_rfl) ?_
  intro vs kk _ hF
  exact i_impl_putFirst (motive := fun vs => Goes (ev TT cs_impl_putFirst 9 an_impl_putFirst (Try.f43.body.getD .skip) (st0 con_impl_putFirst vs) (fin TT con_impl_putFirst Try.f43.results.toList [.c (.sl .int)] vs kk))) hF (fun list0 key1 hF => goes_of (e_impl_putFirst list0 key1 kk) (F_impl_putFirst_S hF))
def con_impl_UseLists : Con := ⟨[.rd, .rd], true, [.agg [.sc, .sc, .sl .int, .sl .int, .sl .int, .sl .int], .c (.sc)], fun vs k => match vs with
    | [.agg [.v (.int .i64 a0Room), .v (.int .i64 a0Target), .ro .int a0Once, .ro .int a0Often, .ro .int a0WasOnce, .ro .int a0WasOften], .c (.v (.int .i64 key1))] => F_impl_UseLists a0Room a0Target a0Once a0Often a0WasOnce a0WasOften key1 (fun r0 r1 r2 r3 r4 r5 r6 => k (.tup [.agg [.v (.int .i64 r0), .v (.int .i64 r1), .ro .int r2, .ro .int r3, .ro .int r4, .ro .int r5], .c (.v (.bool r6))]) [])
    | _ => False, false⟩
def cl_impl_UseLists : List (FuncId × Con) := [(18, con_impl_ValidLists), (37, con_impl_validKey), (38, con_impl_nextTarget), (39, con_impl_withoutKey), (40, con_slices_Contains_sint_int), (43, con_impl_putFirst)]
def nm5_impl_UseLists : List NStep := [.keep [0, 1000001, 1000004, 1000006, 1000007, 1000009] [96, 90300, 496, 90301, 90302, 64]]
def nm4_impl_UseLists : List NStep := [.keep [0, 4, 5, 1000001, 1000004, 1000006, 1000007, 1000009] [96, 90300, 496, 90301, 90302, 64]]
def nm3_impl_UseLists : List NStep := [.ownc 96 2 .int 90300, .ownc 96 4 .int 90301, .ownc 96 5 .int 90302, .keep [1, 4, 6, 7, 8, 9] [64, 96, 90300, 496, 90301, 90302]]
def nm2_impl_UseLists : List NStep := [.keep [1, 4, 6, 7, 8, 9] [64, 96, 432, 496, 560, 624]]
def nm1_impl_UseLists : List NStep := [.keep [1, 2, 4, 6, 7] [32, 64, 96, 432, 496, 560, 624]]
def nm0_impl_UseLists : List NStep := [.keep [1, 2, 4, 6] [32, 64, 96, 432, 496, 560, 624]]
def an_impl_UseLists_i9 : Ann := ⟨[], [], [], []⟩
def cs_impl_UseLists_i9 : Cons := ⟨cl_impl_UseLists, [], 5328, [], [], []⟩
def an_impl_UseLists_i8 : Ann := ⟨[], [], [], []⟩
def cs_impl_UseLists_i8 : Cons := ⟨cl_impl_UseLists, [], 5184, [], [], []⟩
def an_impl_UseLists_i7 : Ann := ⟨[], [], [], []⟩
def cs_impl_UseLists_i7 : Cons := ⟨cl_impl_UseLists, [], 5040, [], [], []⟩
def an_impl_UseLists_i6 : Ann := ⟨[(0, .take 0 (.take 1 (.take 2 (.take 3 (.take 4 (.take 5 (.take 6 (.take 7 (.take 8 (.take 9 (.take 10 (.take 11 (.done)))))))))))), [96]), (1, .take 0 (.take 1 (.take 2 (.take 3 (.take 4 (.take 5 (.take 6 (.take 7 (.take 8 (.take 9 (.take 10 (.take 11 (.done)))))))))))), [96])], [], [], []⟩
def cs_impl_UseLists_i6 : Cons := ⟨cl_impl_UseLists, [(46, ⟨62, inlG TT cs_impl_UseLists_i7 82 8 an_impl_UseLists_i7 (Try.f62.body.getD .skip) Try.f62.results.toList⟩), (61, ⟨62, inlG TT cs_impl_UseLists_i8 82 8 an_impl_UseLists_i8 (Try.f62.body.getD .skip) Try.f62.results.toList⟩), (79, ⟨62, inlG TT cs_impl_UseLists_i9 82 8 an_impl_UseLists_i9 (Try.f62.body.getD .skip) Try.f62.results.toList⟩)], 3712, [], [], []⟩
def an_impl_UseLists_i5 : Ann := ⟨[], [], [], []⟩
def cs_impl_UseLists_i5 : Cons := ⟨cl_impl_UseLists, [], 3568, [], [], []⟩
def an_impl_UseLists_i4 : Ann := ⟨[(1, .take 0 (.take 2 (.take 3 (.take 4 (.take 5 (.take 6 (.take 7 (.alt 1 (.alt 8 (.alt 9 (.take 10 (.take 11 (.done))) (.none)) (.none)) (.alt 8 (.alt 1 (.alt 9 (.take 10 (.take 11 (.done))) (.none)) (.none)) (.none))))))))), [])], [], [], []⟩
def cs_impl_UseLists_i4 : Cons := ⟨cl_impl_UseLists, [(7, ⟨62, inlG TT cs_impl_UseLists_i5 16 8 an_impl_UseLists_i5 (Try.f62.body.getD .skip) Try.f62.results.toList⟩)], 3296, [], [], []⟩
def an_impl_UseLists_i3 : Ann := ⟨[], [], [], []⟩
def cs_impl_UseLists_i3 : Cons := ⟨cl_impl_UseLists, [], 3152, [], [], []⟩
def an_impl_UseLists_i2 : Ann := ⟨[(1, .take 0 (.take 2 (.take 3 (.take 4 (.take 5 (.take 6 (.take 7 (.alt 1 (.alt 8 (.alt 9 (.take 10 (.take 11 (.done))) (.none)) (.none)) (.alt 8 (.alt 1 (.alt 9 (.take 10 (.take 11 (.done))) (.none)) (.none)) (.none))))))))), [])], [], [], []⟩
def cs_impl_UseLists_i2 : Cons := ⟨cl_impl_UseLists, [(7, ⟨62, inlG TT cs_impl_UseLists_i3 16 8 an_impl_UseLists_i3 (Try.f62.body.getD .skip) Try.f62.results.toList⟩)], 2880, [], [], []⟩
def an_impl_UseLists_i1 : Ann := ⟨[(0, .take 0 (.take 1 (.take 2 (.take 3 (.take 4 (.take 5 (.take 6 (.take 7 (.take 8 (.take 9 (.take 10 (.done))))))))))), [96]), (1, .take 0 (.take 1 (.take 2 (.take 3 (.take 4 (.take 5 (.take 6 (.take 7 (.take 8 (.take 9 (.take 10 (.take 11 (.take 12 (.take 13 (.take 14 (.take 15 (.take 16 (.take 17 (.take 18 (.take 19 (.take 20 (.take 21 (.done)))))))))))))))))))))), [96]), (3, .take 0 (.take 1 (.take 2 (.take 3 (.take 4 (.take 6 (.take 7 (.take 8 (.alt 5 (.alt 9 (.alt 10 (.take 11 (.take 12 (.take 13 (.take 14 (.take 15 (.alt 16 (.take 17 (.take 18 (.alt 19 (.done) (.none)))) (.none))))))) (.none)) (.none)) (.alt 9 (.alt 5 (.alt 10 (.take 11 (.take 12 (.take 13 (.take 14 (.take 15 (.alt 16 (.take 17 (.take 18 (.alt 19 (.done) (.none)))) (.none))))))) (.none)) (.none)) (.none)))))))))), []), (4, .take 0 (.take 1 (.take 2 (.take 3 (.take 4 (.take 6 (.take 7 (.take 8 (.alt 5 (.alt 9 (.alt 10 (.take 11 (.take 12 (.take 13 (.take 14 (.take 15 (.alt 16 (.take 17 (.take 18 (.alt 19 (.done) (.none)))) (.none))))))) (.none)) (.none)) (.alt 9 (.alt 5 (.alt 10 (.take 11 (.take 12 (.take 13 (.take 14 (.take 15 (.alt 16 (.take 17 (.take 18 (.alt 19 (.done) (.none)))) (.none))))))) (.none)) (.none)) (.none)))))))))), [])], [], [(3, nm5_impl_UseLists), (2, nm4_impl_UseLists)], []⟩
def cs_impl_UseLists_i1 : Cons := ⟨cl_impl_UseLists, [(60, ⟨63, inlG TT cs_impl_UseLists_i2 85 16 an_impl_UseLists_i2 (Try.f63.body.getD .skip) Try.f63.results.toList⟩), (78, ⟨63, inlG TT cs_impl_UseLists_i4 85 16 an_impl_UseLists_i4 (Try.f63.body.getD .skip) Try.f63.results.toList⟩)], 1504, [], [], []⟩
def an_impl_UseLists : Ann := ⟨[(3, .take 0 (.take 1 (.take 2 (.take 3 (.take 5 (.take 6 (.take 7 (.take 9 (.take 10 (.take 11 (.take 13 (.take 14 (.take 15 (.take 17 (.take 18 (.take 19 (.alt 4 (.alt 8 (.alt 12 (.alt 16 (.alt 20 (.take 21 (.alt 22 (.alt 23 (.done) (.none)) (.none))) (.alt 22 (.alt 20 (.take 21 (.alt 23 (.done) (.none))) (.none)) (.none))) (.alt 22 (.alt 16 (.alt 20 (.take 21 (.alt 23 (.done) (.none))) (.none)) (.none)) (.none))) (.alt 22 (.alt 12 (.alt 16 (.alt 20 (.take 21 (.alt 23 (.done) (.none))) (.none)) (.none)) (.none)) (.none))) (.alt 22 (.alt 8 (.alt 12 (.alt 16 (.alt 20 (.take 21 (.alt 23 (.done) (.none))) (.none)) (.none)) (.none)) (.none)) (.none))) (.alt 22 (.alt 4 (.alt 8 (.alt 12 (.alt 16 (.alt 20 (.take 21 (.alt 23 (.done) (.none))) (.none)) (.none)) (.none)) (.none)) (.none)) (.none)))))))))))))))))), [32])], [], [(9, nm3_impl_UseLists), (7, nm2_impl_UseLists), (5, nm1_impl_UseLists), (4, nm0_impl_UseLists)], []⟩
def cs_impl_UseLists : Cons := ⟨cl_impl_UseLists, [(67, ⟨41, inlG TT cs_impl_UseLists_i6 93 82 an_impl_UseLists_i6 (Try.f41.body.getD .skip) Try.f41.results.toList⟩), (79, ⟨42, inlG TT cs_impl_UseLists_i1 93 85 an_impl_UseLists_i1 (Try.f42.body.getD .skip) Try.f42.results.toList⟩)], 0, [], [], []⟩
def can5_impl_UseLists (a0Room : Int) (key1 : Int) (nextTarget23 : Int) (withoutKey31 : List Int) (xb6c2 : List Int) (xb6c4 : List Int) (xb6c5 : List Int) (xhit7 : Bool) (xknown9 : Bool) : St := ⟨[(0, .one (.c (.pb 96 0))), (1000001, .one (.c (.v (.int .i64 key1)))), (1000004, .one (.c (.pb 64 0))), (1000006, .one (.c (.pb 96 0))), (1000007, .one (.c (.v (.bool xhit7)))), (1000009, .one (.c (.v (.bool xknown9))))], [(96, .box [.v (.int .i64 a0Room), .v (.int .i64 nextTarget23), .ow 90300, .ow 496, .ow 90301, .ow 90302]), (90300, .row .int xb6c2), (496, .row .int withoutKey31), (90301, .row .int xb6c4), (90302, .row .int xb6c5), (64, .box [.v (.int .i64 0), .v (.int .i64 0), .nil, .nil, .nil, .nil])]⟩
def can4_impl_UseLists (a0Room : Int) (key1 : Int) (nextTarget23 : Int) (withoutKey31 : List Int) (xb6c2 : List Int) (xb6c4 : List Int) (xb6c5 : List Int) (xhit7 : Bool) (xknown9 : Bool) (xmany4i1 : Bool) (xenough5i1 : Bool) : St := ⟨[(0, .one (.c (.pb 96 0))), (4, .one (.c (.v (.bool xmany4i1)))), (5, .one (.c (.v (.bool xenough5i1)))), (1000001, .one (.c (.v (.int .i64 key1)))), (1000004, .one (.c (.pb 64 0))), (1000006, .one (.c (.pb 96 0))), (1000007, .one (.c (.v (.bool xhit7)))), (1000009, .one (.c (.v (.bool xknown9))))], [(96, .box [.v (.int .i64 a0Room), .v (.int .i64 nextTarget23), .ow 90300, .ow 496, .ow 90301, .ow 90302]), (90300, .row .int xb6c2), (496, .row .int withoutKey31), (90301, .row .int xb6c4), (90302, .row .int xb6c5), (64, .box [.v (.int .i64 0), .v (.int .i64 0), .nil, .nil, .nil, .nil])]⟩
def can3_impl_UseLists (a0Room : Int) (contains54 : Bool) (key1 : Int) (nextTarget23 : Int) (withoutKey31 : List Int) (xhit7 : Bool) (xknown9 : Bool) (xb6c2 : List Int) (xb6c4 : List Int) (xb6c5 : List Int) : St := ⟨[(1, .one (.c (.v (.int .i64 key1)))), (4, .one (.c (.pb 64 0))), (6, .one (.c (.pb 96 0))), (7, .one (.c (.v (.bool xhit7)))), (8, .one (.c (.v (.bool contains54)))), (9, .one (.c (.v (.bool xknown9))))], [(64, .box [.v (.int .i64 0), .v (.int .i64 0), .nil, .nil, .nil, .nil]), (96, .box [.v (.int .i64 a0Room), .v (.int .i64 nextTarget23), .ow 90300, .ow 496, .ow 90301, .ow 90302]), (90300, .row .int xb6c2), (496, .row .int withoutKey31), (90301, .row .int xb6c4), (90302, .row .int xb6c5)]⟩
def can2_impl_UseLists (a0Room : Int) (contains54 : Bool) (key1 : Int) (nextTarget23 : Int) (withoutKey27 : List Int) (withoutKey31 : List Int) (withoutKey35 : List Int) (withoutKey39 : List Int) (xhit7 : Bool) (xknown9 : Bool) : St := ⟨[(1, .one (.c (.v (.int .i64 key1)))), (4, .one (.c (.pb 64 0))), (6, .one (.c (.pb 96 0))), (7, .one (.c (.v (.bool xhit7)))), (8, .one (.c (.v (.bool contains54)))), (9, .one (.c (.v (.bool xknown9))))], [(64, .box [.v (.int .i64 0), .v (.int .i64 0), .nil, .nil, .nil, .nil]), (96, .box [.v (.int .i64 a0Room), .v (.int .i64 nextTarget23), .ow 432, .ow 496, .ow 560, .ow 624]), (432, .row .int withoutKey27), (496, .row .int withoutKey31), (560, .row .int withoutKey35), (624, .row .int withoutKey39)]⟩
def can1_impl_UseLists (a0Often : List Int) (a0Once : List Int) (a0Room : Int) (a0Target : Int) (a0WasOften : List Int) (a0WasOnce : List Int) (key1 : Int) (nextTarget23 : Int) (withoutKey27 : List Int) (withoutKey31 : List Int) (withoutKey35 : List Int) (withoutKey39 : List Int) (xhit7 : Bool) : St := ⟨[(1, .one (.c (.v (.int .i64 key1)))), (2, .one (.c (.pb 32 0))), (4, .one (.c (.pb 64 0))), (6, .one (.c (.pb 96 0))), (7, .one (.c (.v (.bool xhit7))))], [(32, .box [.v (.int .i64 a0Room), .v (.int .i64 a0Target), .ro .int a0Once, .ro .int a0Often, .ro .int a0WasOnce, .ro .int a0WasOften]), (64, .box [.v (.int .i64 0), .v (.int .i64 0), .nil, .nil, .nil, .nil]), (96, .box [.v (.int .i64 a0Room), .v (.int .i64 nextTarget23), .ow 432, .ow 496, .ow 560, .ow 624]), (432, .row .int withoutKey27), (496, .row .int withoutKey31), (560, .row .int withoutKey35), (624, .row .int withoutKey39)]⟩
def can0_impl_UseLists (a0Often : List Int) (a0Once : List Int) (a0Room : Int) (a0Target : Int) (a0WasOften : List Int) (a0WasOnce : List Int) (key1 : Int) (nextTarget23 : Int) (withoutKey27 : List Int) (withoutKey31 : List Int) (withoutKey35 : List Int) (withoutKey39 : List Int) : St := ⟨[(1, .one (.c (.v (.int .i64 key1)))), (2, .one (.c (.pb 32 0))), (4, .one (.c (.pb 64 0))), (6, .one (.c (.pb 96 0)))], [(32, .box [.v (.int .i64 a0Room), .v (.int .i64 a0Target), .ro .int a0Once, .ro .int a0Often, .ro .int a0WasOnce, .ro .int a0WasOften]), (64, .box [.v (.int .i64 0), .v (.int .i64 0), .nil, .nil, .nil, .nil]), (96, .box [.v (.int .i64 a0Room), .v (.int .i64 nextTarget23), .ow 432, .ow 496, .ow 560, .ow 624]), (432, .row .int withoutKey27), (496, .row .int withoutKey31), (560, .row .int withoutKey35), (624, .row .int withoutKey39)]⟩
def fin_impl_UseLists (a0Room : Int) (a0Target : Int) (a0Once : List Int) (a0Often : List Int) (a0WasOnce : List Int) (a0WasOften : List Int) (key1 : Int) (kk : AV → List A1 → Prop) : Kt := fin TT con_impl_UseLists Try.f14.results.toList [.agg [.sc, .sc, .sl .int, .sl .int, .sl .int, .sl .int], .c .sc] [.agg [.v (.int .i64 a0Room), .v (.int .i64 a0Target), .ro .int a0Once, .ro .int a0Often, .ro .int a0WasOnce, .ro .int a0WasOften], .c (.v (.int .i64 key1))] kk
def kt5_impl_UseLists (kf : Kt) : Kt := inlK TT 93 Try.f42 (some 79) (regK TT cs_impl_UseLists 93 1 (seqK (evF TT cs_impl_UseLists 93 an_impl_UseLists Try.f14 [1, 1, 1, 1, 1, 1, 1, 1]) (kf)) (subc [1, 1, 1, 1, 1, 1, 1, 0, 1, 0] (Try.f14.body.getD .skip)))
def kt4_impl_UseLists (kf : Kt) : Kt := seqK (evF TT cs_impl_UseLists_i1 85 an_impl_UseLists_i1 Try.f42 [1, 1, 1]) (inlK TT 93 Try.f42 (some 79) (regK TT cs_impl_UseLists 93 1 (seqK (evF TT cs_impl_UseLists 93 an_impl_UseLists Try.f14 [1, 1, 1, 1, 1, 1, 1, 1]) (kf)) (subc [1, 1, 1, 1, 1, 1, 1, 0, 1, 0] (Try.f14.body.getD .skip))))
def kt3_impl_UseLists (kf : Kt) : Kt := seqK (evF TT cs_impl_UseLists 93 an_impl_UseLists Try.f14 [1, 1, 1, 1, 1, 1, 1, 0, 1]) (seqK (evF TT cs_impl_UseLists 93 an_impl_UseLists Try.f14 [1, 1, 1, 1, 1, 1, 1, 1]) (kf))
def kt2_impl_UseLists (kf : Kt) : Kt := seqK (evF TT cs_impl_UseLists 93 an_impl_UseLists Try.f14 [1, 1, 1, 1, 1, 1, 0, 1]) (seqK (evF TT cs_impl_UseLists 93 an_impl_UseLists Try.f14 [1, 1, 1, 1, 1, 1, 1]) (kf))
def kt1_impl_UseLists (kf : Kt) : Kt := seqK (evF TT cs_impl_UseLists 93 an_impl_UseLists Try.f14 [1, 1, 1, 1, 1]) (kf)
def kt0_impl_UseLists (kf : Kt) : Kt := seqK (evF TT cs_impl_UseLists 93 an_impl_UseLists Try.f14 [1, 1, 1, 1]) (kf)
theorem r5_impl_UseLists (a0Room : Int) (a0Target : Int) (a0Once : List Int) (a0Often : List Int) (a0WasOnce : List Int) (a0WasOften : List Int) (key1 : Int) (nextTarget23 : Int) (withoutKey31 : List Int) (xb6c2 : List Int) (xb6c4 : List Int) (xb6c5 : List Int) (xhit7 : Bool) (xknown9 : Bool) (kk : AV → List A1 → Prop) :
    evRunC TT cs_impl_UseLists_i1 85 an_impl_UseLists_i1 (subc [1, 1, 1, 0] (Try.f42.body.getD .skip)) (can5_impl_UseLists a0Room key1 nextTarget23 withoutKey31 xb6c2 xb6c4 xb6c5 xhit7 xknown9) (kt5_impl_UseLists (fin_impl_UseLists a0Room a0Target a0Once a0Often a0WasOnce a0WasOften key1 kk)) = T5_impl_UseLists a0Room key1 nextTarget23 withoutKey31 xb6c2 xb6c4 xb6c5 xhit7 xknown9 (fun r0 r1 r2 r3 r4 r5 r6 => kk (.tup [.agg [.v (.int .i64 r0), .v (.int .i64 r1), .ro .int r2, .ro .int r3, .ro .int r4, .ro .int r5], .c (.v (.bool r6))]) []) := by kernel_rfl
theorem l5_impl_UseLists (a0Room : Int) (a0Target : Int) (a0Once : List Int) (a0Often : List Int) (a0WasOnce : List Int) (a0WasOften : List Int) (key1 : Int) (nextTarget23 : Int) (withoutKey31 : List Int) (xb6c2 : List Int) (xb6c4 : List Int) (xb6c5 : List Int) (xhit7 : Bool) (xknown9 : Bool) (kk : AV → List A1 → Prop) : evRunC TT cs_impl_UseLists_i1 85 an_impl_UseLists_i1 (subc [1, 1, 1, 0] (Try.f42.body.getD .skip)) (can5_impl_UseLists a0Room key1 nextTarget23 withoutKey31 xb6c2 xb6c4 xb6c5 xhit7 xknown9) (kt5_impl_UseLists (fin_impl_UseLists a0Room a0Target a0Once a0Often a0WasOnce a0WasOften key1 kk)) = L5_impl_UseLists a0Room key1 nextTarget23 withoutKey31 xb6c2 xb6c4 xb6c5 xhit7 xknown9 (fun r0 r1 r2 r3 r4 r5 r6 => kk (.tup [.agg [.v (.int .i64 r0), .v (.int .i64 r1), .ro .int r2, .ro .int r3, .ro .int r4, .ro .int r5], .c (.v (.bool r6))]) []) := by
  rw [r5_impl_UseLists a0Room a0Target a0Once a0Often a0WasOnce a0WasOften key1 nextTarget23 withoutKey31 xb6c2 xb6c4 xb6c5 xhit7 xknown9 kk]
  rw [T5_impl_UseLists_eq]
  rfl
theorem r4_impl_UseLists (a0Room : Int) (a0Target : Int) (a0Once : List Int) (a0Often : List Int) (a0WasOnce : List Int) (a0WasOften : List Int) (key1 : Int) (nextTarget23 : Int) (withoutKey31 : List Int) (xb6c2 : List Int) (xb6c4 : List Int) (xb6c5 : List Int) (xhit7 : Bool) (xknown9 : Bool) (kk : AV → List A1 → Prop) (xmany4i1 : Bool) (xenough5i1 : Bool) :
    evRunC TT cs_impl_UseLists_i1 85 an_impl_UseLists_i1 (subc [1, 1, 0] (Try.f42.body.getD .skip)) (can4_impl_UseLists a0Room key1 nextTarget23 withoutKey31 xb6c2 xb6c4 xb6c5 xhit7 xknown9 xmany4i1 xenough5i1) (kt4_impl_UseLists (fin_impl_UseLists a0Room a0Target a0Once a0Often a0WasOnce a0WasOften key1 kk)) = T4_impl_UseLists a0Room key1 nextTarget23 withoutKey31 xb6c2 xb6c4 xb6c5 xhit7 xknown9 xmany4i1 xenough5i1 (fun r0 r1 r2 r3 r4 r5 r6 => kk (.tup [.agg [.v (.int .i64 r0), .v (.int .i64 r1), .ro .int r2, .ro .int r3, .ro .int r4, .ro .int r5], .c (.v (.bool r6))]) []) (fun a0Room key1 nextTarget23 withoutKey31 xb6c2 xb6c4 xb6c5 xhit7 xknown9 => Meets (evRunC TT cs_impl_UseLists_i1 85 an_impl_UseLists_i1 (subc [1, 1, 1, 0] (Try.f42.body.getD .skip)) (can5_impl_UseLists a0Room key1 nextTarget23 withoutKey31 xb6c2 xb6c4 xb6c5 xhit7 xknown9) (kt5_impl_UseLists (fin_impl_UseLists a0Room a0Target a0Once a0Often a0WasOnce a0WasOften key1 kk)))) := by kernel_rfl
theorem l4_impl_UseLists (a0Room : Int) (a0Target : Int) (a0Once : List Int) (a0Often : List Int) (a0WasOnce : List Int) (a0WasOften : List Int) (key1 : Int) (nextTarget23 : Int) (withoutKey31 : List Int) (xb6c2 : List Int) (xb6c4 : List Int) (xb6c5 : List Int) (xhit7 : Bool) (xknown9 : Bool) (kk : AV → List A1 → Prop) (xmany4i1 : Bool) (xenough5i1 : Bool) : evRunC TT cs_impl_UseLists_i1 85 an_impl_UseLists_i1 (subc [1, 1, 0] (Try.f42.body.getD .skip)) (can4_impl_UseLists a0Room key1 nextTarget23 withoutKey31 xb6c2 xb6c4 xb6c5 xhit7 xknown9 xmany4i1 xenough5i1) (kt4_impl_UseLists (fin_impl_UseLists a0Room a0Target a0Once a0Often a0WasOnce a0WasOften key1 kk)) = L4_impl_UseLists a0Room key1 nextTarget23 withoutKey31 xb6c2 xb6c4 xb6c5 xhit7 xknown9 (fun r0 r1 r2 r3 r4 r5 r6 => kk (.tup [.agg [.v (.int .i64 r0), .v (.int .i64 r1), .ro .int r2, .ro .int r3, .ro .int r4, .ro .int r5], .c (.v (.bool r6))]) []) xmany4i1 xenough5i1 := by
  rw [r4_impl_UseLists a0Room a0Target a0Once a0Often a0WasOnce a0WasOften key1 nextTarget23 withoutKey31 xb6c2 xb6c4 xb6c5 xhit7 xknown9 kk xmany4i1 xenough5i1]
  have hi5 : (fun a0Room key1 nextTarget23 withoutKey31 xb6c2 xb6c4 xb6c5 xhit7 xknown9 => Meets (evRunC TT cs_impl_UseLists_i1 85 an_impl_UseLists_i1 (subc [1, 1, 1, 0] (Try.f42.body.getD .skip)) (can5_impl_UseLists a0Room key1 nextTarget23 withoutKey31 xb6c2 xb6c4 xb6c5 xhit7 xknown9) (kt5_impl_UseLists (fin_impl_UseLists a0Room a0Target a0Once a0Often a0WasOnce a0WasOften key1 kk)))) = (fun a0Room key1 nextTarget23 withoutKey31 xb6c2 xb6c4 xb6c5 xhit7 xknown9 => L5_impl_UseLists a0Room key1 nextTarget23 withoutKey31 xb6c2 xb6c4 xb6c5 xhit7 xknown9 (fun r0 r1 r2 r3 r4 r5 r6 => kk (.tup [.agg [.v (.int .i64 r0), .v (.int .i64 r1), .ro .int r2, .ro .int r3, .ro .int r4, .ro .int r5], .c (.v (.bool r6))]) [])) := by
    funext a0Room key1 nextTarget23 withoutKey31 xb6c2 xb6c4 xb6c5 xhit7 xknown9
    rw [meets_eq, l5_impl_UseLists a0Room a0Target a0Once a0Often a0WasOnce a0WasOften key1 nextTarget23 withoutKey31 xb6c2 xb6c4 xb6c5 xhit7 xknown9 kk]
  rw [hi5]
  rw [T4_impl_UseLists_eq]
  rfl
theorem r3_impl_UseLists (a0Room : Int) (a0Target : Int) (a0Once : List Int) (a0Often : List Int) (a0WasOnce : List Int) (a0WasOften : List Int) (key1 : Int) (contains54 : Bool) (nextTarget23 : Int) (withoutKey31 : List Int) (xhit7 : Bool) (xknown9 : Bool) (kk : AV → List A1 → Prop) (xb6c2 : List Int) (xb6c4 : List Int) (xb6c5 : List Int) :
    evRunC TT cs_impl_UseLists 93 an_impl_UseLists (subc [1, 1, 1, 1, 1, 1, 1, 0, 0] (Try.f14.body.getD .skip)) (can3_impl_UseLists a0Room contains54 key1 nextTarget23 withoutKey31 xhit7 xknown9 xb6c2 xb6c4 xb6c5) (kt3_impl_UseLists (fin_impl_UseLists a0Room a0Target a0Once a0Often a0WasOnce a0WasOften key1 kk)) = T3_impl_UseLists a0Room contains54 key1 nextTarget23 withoutKey31 xhit7 xknown9 xb6c2 xb6c4 xb6c5 (fun r0 r1 r2 r3 r4 r5 r6 => kk (.tup [.agg [.v (.int .i64 r0), .v (.int .i64 r1), .ro .int r2, .ro .int r3, .ro .int r4, .ro .int r5], .c (.v (.bool r6))]) []) (fun a0Room key1 nextTarget23 withoutKey31 xb6c2 xb6c4 xb6c5 xhit7 xknown9 xmany4i1 xenough5i1 => Meets (evRunC TT cs_impl_UseLists_i1 85 an_impl_UseLists_i1 (subc [1, 1, 0] (Try.f42.body.getD .skip)) (can4_impl_UseLists a0Room key1 nextTarget23 withoutKey31 xb6c2 xb6c4 xb6c5 xhit7 xknown9 xmany4i1 xenough5i1) (kt4_impl_UseLists (fin_impl_UseLists a0Room a0Target a0Once a0Often a0WasOnce a0WasOften key1 kk)))) := by kernel_rfl
theorem l3_impl_UseLists (a0Room : Int) (a0Target : Int) (a0Once : List Int) (a0Often : List Int) (a0WasOnce : List Int) (a0WasOften : List Int) (key1 : Int) (contains54 : Bool) (nextTarget23 : Int) (withoutKey31 : List Int) (xhit7 : Bool) (xknown9 : Bool) (kk : AV → List A1 → Prop) (xb6c2 : List Int) (xb6c4 : List Int) (xb6c5 : List Int) : evRunC TT cs_impl_UseLists 93 an_impl_UseLists (subc [1, 1, 1, 1, 1, 1, 1, 0, 0] (Try.f14.body.getD .skip)) (can3_impl_UseLists a0Room contains54 key1 nextTarget23 withoutKey31 xhit7 xknown9 xb6c2 xb6c4 xb6c5) (kt3_impl_UseLists (fin_impl_UseLists a0Room a0Target a0Once a0Often a0WasOnce a0WasOften key1 kk)) = L3_impl_UseLists a0Room contains54 key1 nextTarget23 withoutKey31 xhit7 xknown9 (fun r0 r1 r2 r3 r4 r5 r6 => kk (.tup [.agg [.v (.int .i64 r0), .v (.int .i64 r1), .ro .int r2, .ro .int r3, .ro .int r4, .ro .int r5], .c (.v (.bool r6))]) []) xb6c2 xb6c4 xb6c5 := by
  rw [r3_impl_UseLists a0Room a0Target a0Once a0Often a0WasOnce a0WasOften key1 contains54 nextTarget23 withoutKey31 xhit7 xknown9 kk xb6c2 xb6c4 xb6c5]
  have hi4 : (fun a0Room key1 nextTarget23 withoutKey31 xb6c2 xb6c4 xb6c5 xhit7 xknown9 xmany4i1 xenough5i1 => Meets (evRunC TT cs_impl_UseLists_i1 85 an_impl_UseLists_i1 (subc [1, 1, 0] (Try.f42.body.getD .skip)) (can4_impl_UseLists a0Room key1 nextTarget23 withoutKey31 xb6c2 xb6c4 xb6c5 xhit7 xknown9 xmany4i1 xenough5i1) (kt4_impl_UseLists (fin_impl_UseLists a0Room a0Target a0Once a0Often a0WasOnce a0WasOften key1 kk)))) = (fun a0Room key1 nextTarget23 withoutKey31 xb6c2 xb6c4 xb6c5 xhit7 xknown9 xmany4i1 xenough5i1 => L4_impl_UseLists a0Room key1 nextTarget23 withoutKey31 xb6c2 xb6c4 xb6c5 xhit7 xknown9 (fun r0 r1 r2 r3 r4 r5 r6 => kk (.tup [.agg [.v (.int .i64 r0), .v (.int .i64 r1), .ro .int r2, .ro .int r3, .ro .int r4, .ro .int r5], .c (.v (.bool r6))]) []) xmany4i1 xenough5i1) := by
    funext a0Room key1 nextTarget23 withoutKey31 xb6c2 xb6c4 xb6c5 xhit7 xknown9 xmany4i1 xenough5i1
    rw [meets_eq, l4_impl_UseLists a0Room a0Target a0Once a0Often a0WasOnce a0WasOften key1 nextTarget23 withoutKey31 xb6c2 xb6c4 xb6c5 xhit7 xknown9 kk xmany4i1 xenough5i1]
  rw [hi4]
  rfl
theorem r2_impl_UseLists (a0Room : Int) (a0Target : Int) (a0Once : List Int) (a0Often : List Int) (a0WasOnce : List Int) (a0WasOften : List Int) (key1 : Int) (contains54 : Bool) (nextTarget23 : Int) (withoutKey27 : List Int) (withoutKey31 : List Int) (withoutKey35 : List Int) (withoutKey39 : List Int) (xhit7 : Bool) (kk : AV → List A1 → Prop) (xknown9 : Bool) :
    evRunC TT cs_impl_UseLists 93 an_impl_UseLists (subc [1, 1, 1, 1, 1, 1, 0, 0] (Try.f14.body.getD .skip)) (can2_impl_UseLists a0Room contains54 key1 nextTarget23 withoutKey27 withoutKey31 withoutKey35 withoutKey39 xhit7 xknown9) (kt2_impl_UseLists (fin_impl_UseLists a0Room a0Target a0Once a0Often a0WasOnce a0WasOften key1 kk)) = T2_impl_UseLists a0Room contains54 key1 nextTarget23 withoutKey27 withoutKey31 withoutKey35 withoutKey39 xhit7 xknown9 (fun a0Room contains54 key1 nextTarget23 withoutKey31 xhit7 xknown9 xb6c2 xb6c4 xb6c5 => Meets (evRunC TT cs_impl_UseLists 93 an_impl_UseLists (subc [1, 1, 1, 1, 1, 1, 1, 0, 0] (Try.f14.body.getD .skip)) (can3_impl_UseLists a0Room contains54 key1 nextTarget23 withoutKey31 xhit7 xknown9 xb6c2 xb6c4 xb6c5) (kt3_impl_UseLists (fin_impl_UseLists a0Room a0Target a0Once a0Often a0WasOnce a0WasOften key1 kk)))) := by kernel_rfl
theorem l2_impl_UseLists (a0Room : Int) (a0Target : Int) (a0Once : List Int) (a0Often : List Int) (a0WasOnce : List Int) (a0WasOften : List Int) (key1 : Int) (contains54 : Bool) (nextTarget23 : Int) (withoutKey27 : List Int) (withoutKey31 : List Int) (withoutKey35 : List Int) (withoutKey39 : List Int) (xhit7 : Bool) (kk : AV → List A1 → Prop) (xknown9 : Bool) : evRunC TT cs_impl_UseLists 93 an_impl_UseLists (subc [1, 1, 1, 1, 1, 1, 0, 0] (Try.f14.body.getD .skip)) (can2_impl_UseLists a0Room contains54 key1 nextTarget23 withoutKey27 withoutKey31 withoutKey35 withoutKey39 xhit7 xknown9) (kt2_impl_UseLists (fin_impl_UseLists a0Room a0Target a0Once a0Often a0WasOnce a0WasOften key1 kk)) = L2_impl_UseLists a0Room contains54 key1 nextTarget23 withoutKey27 withoutKey31 withoutKey35 withoutKey39 xhit7 (fun r0 r1 r2 r3 r4 r5 r6 => kk (.tup [.agg [.v (.int .i64 r0), .v (.int .i64 r1), .ro .int r2, .ro .int r3, .ro .int r4, .ro .int r5], .c (.v (.bool r6))]) []) xknown9 := by
  rw [r2_impl_UseLists a0Room a0Target a0Once a0Often a0WasOnce a0WasOften key1 contains54 nextTarget23 withoutKey27 withoutKey31 withoutKey35 withoutKey39 xhit7 kk xknown9]
  have hi3 : (fun a0Room contains54 key1 nextTarget23 withoutKey31 xhit7 xknown9 xb6c2 xb6c4 xb6c5 => Meets (evRunC TT cs_impl_UseLists 93 an_impl_UseLists (subc [1, 1, 1, 1, 1, 1, 1, 0, 0] (Try.f14.body.getD .skip)) (can3_impl_UseLists a0Room contains54 key1 nextTarget23 withoutKey31 xhit7 xknown9 xb6c2 xb6c4 xb6c5) (kt3_impl_UseLists (fin_impl_UseLists a0Room a0Target a0Once a0Often a0WasOnce a0WasOften key1 kk)))) = (fun a0Room contains54 key1 nextTarget23 withoutKey31 xhit7 xknown9 xb6c2 xb6c4 xb6c5 => L3_impl_UseLists a0Room contains54 key1 nextTarget23 withoutKey31 xhit7 xknown9 (fun r0 r1 r2 r3 r4 r5 r6 => kk (.tup [.agg [.v (.int .i64 r0), .v (.int .i64 r1), .ro .int r2, .ro .int r3, .ro .int r4, .ro .int r5], .c (.v (.bool r6))]) []) xb6c2 xb6c4 xb6c5) := by
    funext a0Room contains54 key1 nextTarget23 withoutKey31 xhit7 xknown9 xb6c2 xb6c4 xb6c5
    rw [meets_eq, l3_impl_UseLists a0Room a0Target a0Once a0Often a0WasOnce a0WasOften key1 contains54 nextTarget23 withoutKey31 xhit7 xknown9 kk xb6c2 xb6c4 xb6c5]
  rw [hi3]
  rfl
theorem r1_impl_UseLists (a0Room : Int) (a0Target : Int) (a0Once : List Int) (a0Often : List Int) (a0WasOnce : List Int) (a0WasOften : List Int) (key1 : Int) (nextTarget23 : Int) (withoutKey27 : List Int) (withoutKey31 : List Int) (withoutKey35 : List Int) (withoutKey39 : List Int) (kk : AV → List A1 → Prop) (xhit7 : Bool) :
    evRunC TT cs_impl_UseLists 93 an_impl_UseLists (subc [1, 1, 1, 1, 0] (Try.f14.body.getD .skip)) (can1_impl_UseLists a0Often a0Once a0Room a0Target a0WasOften a0WasOnce key1 nextTarget23 withoutKey27 withoutKey31 withoutKey35 withoutKey39 xhit7) (kt1_impl_UseLists (fin_impl_UseLists a0Room a0Target a0Once a0Often a0WasOnce a0WasOften key1 kk)) = T1_impl_UseLists a0Often a0Once a0Room a0Target a0WasOften a0WasOnce key1 nextTarget23 withoutKey27 withoutKey31 withoutKey35 withoutKey39 xhit7 (fun a0Room contains54 key1 nextTarget23 withoutKey27 withoutKey31 withoutKey35 withoutKey39 xhit7 xknown9 => Meets (evRunC TT cs_impl_UseLists 93 an_impl_UseLists (subc [1, 1, 1, 1, 1, 1, 0, 0] (Try.f14.body.getD .skip)) (can2_impl_UseLists a0Room contains54 key1 nextTarget23 withoutKey27 withoutKey31 withoutKey35 withoutKey39 xhit7 xknown9) (kt2_impl_UseLists (fin_impl_UseLists a0Room a0Target a0Once a0Often a0WasOnce a0WasOften key1 kk)))) := by kernel_rfl
theorem l1_impl_UseLists (a0Room : Int) (a0Target : Int) (a0Once : List Int) (a0Often : List Int) (a0WasOnce : List Int) (a0WasOften : List Int) (key1 : Int) (nextTarget23 : Int) (withoutKey27 : List Int) (withoutKey31 : List Int) (withoutKey35 : List Int) (withoutKey39 : List Int) (kk : AV → List A1 → Prop) (xhit7 : Bool) : evRunC TT cs_impl_UseLists 93 an_impl_UseLists (subc [1, 1, 1, 1, 0] (Try.f14.body.getD .skip)) (can1_impl_UseLists a0Often a0Once a0Room a0Target a0WasOften a0WasOnce key1 nextTarget23 withoutKey27 withoutKey31 withoutKey35 withoutKey39 xhit7) (kt1_impl_UseLists (fin_impl_UseLists a0Room a0Target a0Once a0Often a0WasOnce a0WasOften key1 kk)) = L1_impl_UseLists a0Often a0Once a0Room a0Target a0WasOften a0WasOnce key1 nextTarget23 withoutKey27 withoutKey31 withoutKey35 withoutKey39 (fun r0 r1 r2 r3 r4 r5 r6 => kk (.tup [.agg [.v (.int .i64 r0), .v (.int .i64 r1), .ro .int r2, .ro .int r3, .ro .int r4, .ro .int r5], .c (.v (.bool r6))]) []) xhit7 := by
  rw [r1_impl_UseLists a0Room a0Target a0Once a0Often a0WasOnce a0WasOften key1 nextTarget23 withoutKey27 withoutKey31 withoutKey35 withoutKey39 kk xhit7]
  have hi2 : (fun a0Room contains54 key1 nextTarget23 withoutKey27 withoutKey31 withoutKey35 withoutKey39 xhit7 xknown9 => Meets (evRunC TT cs_impl_UseLists 93 an_impl_UseLists (subc [1, 1, 1, 1, 1, 1, 0, 0] (Try.f14.body.getD .skip)) (can2_impl_UseLists a0Room contains54 key1 nextTarget23 withoutKey27 withoutKey31 withoutKey35 withoutKey39 xhit7 xknown9) (kt2_impl_UseLists (fin_impl_UseLists a0Room a0Target a0Once a0Often a0WasOnce a0WasOften key1 kk)))) = (fun a0Room contains54 key1 nextTarget23 withoutKey27 withoutKey31 withoutKey35 withoutKey39 xhit7 xknown9 => L2_impl_UseLists a0Room contains54 key1 nextTarget23 withoutKey27 withoutKey31 withoutKey35 withoutKey39 xhit7 (fun r0 r1 r2 r3 r4 r5 r6 => kk (.tup [.agg [.v (.int .i64 r0), .v (.int .i64 r1), .ro .int r2, .ro .int r3, .ro .int r4, .ro .int r5], .c (.v (.bool r6))]) []) xknown9) := by
    funext a0Room contains54 key1 nextTarget23 withoutKey27 withoutKey31 withoutKey35 withoutKey39 xhit7 xknown9
    rw [meets_eq, l2_impl_UseLists a0Room a0Target a0Once a0Often a0WasOnce a0WasOften key1 contains54 nextTarget23 withoutKey27 withoutKey31 withoutKey35 withoutKey39 xhit7 kk xknown9]
  rw [hi2]
  rfl
theorem r0_impl_UseLists (a0Room : Int) (a0Target : Int) (a0Once : List Int) (a0Often : List Int) (a0WasOnce : List Int) (a0WasOften : List Int) (key1 : Int) (nextTarget23 : Int) (withoutKey27 : List Int) (withoutKey31 : List Int) (withoutKey35 : List Int) (withoutKey39 : List Int) (kk : AV → List A1 → Prop) :
    evRunC TT cs_impl_UseLists 93 an_impl_UseLists (subc [1, 1, 1, 0] (Try.f14.body.getD .skip)) (can0_impl_UseLists a0Often a0Once a0Room a0Target a0WasOften a0WasOnce key1 nextTarget23 withoutKey27 withoutKey31 withoutKey35 withoutKey39) (kt0_impl_UseLists (fin_impl_UseLists a0Room a0Target a0Once a0Often a0WasOnce a0WasOften key1 kk)) = T0_impl_UseLists a0Often a0Once a0Room a0Target a0WasOften a0WasOnce key1 nextTarget23 withoutKey27 withoutKey31 withoutKey35 withoutKey39 (fun a0Often a0Once a0Room a0Target a0WasOften a0WasOnce key1 nextTarget23 withoutKey27 withoutKey31 withoutKey35 withoutKey39 xhit7 => Meets (evRunC TT cs_impl_UseLists 93 an_impl_UseLists (subc [1, 1, 1, 1, 0] (Try.f14.body.getD .skip)) (can1_impl_UseLists a0Often a0Once a0Room a0Target a0WasOften a0WasOnce key1 nextTarget23 withoutKey27 withoutKey31 withoutKey35 withoutKey39 xhit7) (kt1_impl_UseLists (fin_impl_UseLists a0Room a0Target a0Once a0Often a0WasOnce a0WasOften key1 kk)))) := by kernel_rfl
theorem l0_impl_UseLists (a0Room : Int) (a0Target : Int) (a0Once : List Int) (a0Often : List Int) (a0WasOnce : List Int) (a0WasOften : List Int) (key1 : Int) (nextTarget23 : Int) (withoutKey27 : List Int) (withoutKey31 : List Int) (withoutKey35 : List Int) (withoutKey39 : List Int) (kk : AV → List A1 → Prop) : evRunC TT cs_impl_UseLists 93 an_impl_UseLists (subc [1, 1, 1, 0] (Try.f14.body.getD .skip)) (can0_impl_UseLists a0Often a0Once a0Room a0Target a0WasOften a0WasOnce key1 nextTarget23 withoutKey27 withoutKey31 withoutKey35 withoutKey39) (kt0_impl_UseLists (fin_impl_UseLists a0Room a0Target a0Once a0Often a0WasOnce a0WasOften key1 kk)) = L0_impl_UseLists a0Often a0Once a0Room a0Target a0WasOften a0WasOnce key1 nextTarget23 withoutKey27 withoutKey31 withoutKey35 withoutKey39 (fun r0 r1 r2 r3 r4 r5 r6 => kk (.tup [.agg [.v (.int .i64 r0), .v (.int .i64 r1), .ro .int r2, .ro .int r3, .ro .int r4, .ro .int r5], .c (.v (.bool r6))]) []) := by
  rw [r0_impl_UseLists a0Room a0Target a0Once a0Often a0WasOnce a0WasOften key1 nextTarget23 withoutKey27 withoutKey31 withoutKey35 withoutKey39 kk]
  have hi1 : (fun a0Often a0Once a0Room a0Target a0WasOften a0WasOnce key1 nextTarget23 withoutKey27 withoutKey31 withoutKey35 withoutKey39 xhit7 => Meets (evRunC TT cs_impl_UseLists 93 an_impl_UseLists (subc [1, 1, 1, 1, 0] (Try.f14.body.getD .skip)) (can1_impl_UseLists a0Often a0Once a0Room a0Target a0WasOften a0WasOnce key1 nextTarget23 withoutKey27 withoutKey31 withoutKey35 withoutKey39 xhit7) (kt1_impl_UseLists (fin_impl_UseLists a0Room a0Target a0Once a0Often a0WasOnce a0WasOften key1 kk)))) = (fun a0Often a0Once a0Room a0Target a0WasOften a0WasOnce key1 nextTarget23 withoutKey27 withoutKey31 withoutKey35 withoutKey39 xhit7 => L1_impl_UseLists a0Often a0Once a0Room a0Target a0WasOften a0WasOnce key1 nextTarget23 withoutKey27 withoutKey31 withoutKey35 withoutKey39 (fun r0 r1 r2 r3 r4 r5 r6 => kk (.tup [.agg [.v (.int .i64 r0), .v (.int .i64 r1), .ro .int r2, .ro .int r3, .ro .int r4, .ro .int r5], .c (.v (.bool r6))]) []) xhit7) := by
    funext a0Often a0Once a0Room a0Target a0WasOften a0WasOnce key1 nextTarget23 withoutKey27 withoutKey31 withoutKey35 withoutKey39 xhit7
    rw [meets_eq, l1_impl_UseLists a0Room a0Target a0Once a0Often a0WasOnce a0WasOften key1 nextTarget23 withoutKey27 withoutKey31 withoutKey35 withoutKey39 kk xhit7]
  rw [hi1]
  rfl
theorem g_impl_UseLists (a0Room : Int) (a0Target : Int) (a0Once : List Int) (a0Often : List Int) (a0WasOnce : List Int) (a0WasOften : List Int) (key1 : Int) (kk : AV → List A1 → Prop) :
    ev TT cs_impl_UseLists 93 an_impl_UseLists (Try.f14.body.getD .skip) (st0 con_impl_UseLists [.agg [.v (.int .i64 a0Room), .v (.int .i64 a0Target), .ro .int a0Once, .ro .int a0Often, .ro .int a0WasOnce, .ro .int a0WasOften], .c (.v (.int .i64 key1))]) (fin TT con_impl_UseLists Try.f14.results.toList [.agg [.sc, .sc, .sl .int, .sl .int, .sl .int, .sl .int], .c .sc] [.agg [.v (.int .i64 a0Room), .v (.int .i64 a0Target), .ro .int a0Once, .ro .int a0Often, .ro .int a0WasOnce, .ro .int a0WasOften], .c (.v (.int .i64 key1))] kk) = G_impl_UseLists a0Room a0Target a0Once a0Often a0WasOnce a0WasOften key1 (fun r0 r1 r2 r3 r4 r5 r6 => kk (.tup [.agg [.v (.int .i64 r0), .v (.int .i64 r1), .ro .int r2, .ro .int r3, .ro .int r4, .ro .int r5], .c (.v (.bool r6))]) []) (fun a0Often a0Once a0Room a0Target a0WasOften a0WasOnce key1 nextTarget23 withoutKey27 withoutKey31 withoutKey35 withoutKey39 => Meets (evRunC TT cs_impl_UseLists 93 an_impl_UseLists (subc [1, 1, 1, 0] (Try.f14.body.getD .skip)) (can0_impl_UseLists a0Often a0Once a0Room a0Target a0WasOften a0WasOnce key1 nextTarget23 withoutKey27 withoutKey31 withoutKey35 withoutKey39) (kt0_impl_UseLists (fin_impl_UseLists a0Room a0Target a0Once a0Often a0WasOnce a0WasOften key1 kk)))) := by kernel_rfl
theorem e_impl_UseLists (a0Room : Int) (a0Target : Int) (a0Once : List Int) (a0Often : List Int) (a0WasOnce : List Int) (a0WasOften : List Int) (key1 : Int) (kk : AV → List A1 → Prop) :
    ev TT cs_impl_UseLists 93 an_impl_UseLists (Try.f14.body.getD .skip) (st0 con_impl_UseLists [.agg [.v (.int .i64 a0Room), .v (.int .i64 a0Target), .ro .int a0Once, .ro .int a0Often, .ro .int a0WasOnce, .ro .int a0WasOften], .c (.v (.int .i64 key1))]) (fin TT con_impl_UseLists Try.f14.results.toList [.agg [.sc, .sc, .sl .int, .sl .int, .sl .int, .sl .int], .c .sc] [.agg [.v (.int .i64 a0Room), .v (.int .i64 a0Target), .ro .int a0Once, .ro .int a0Often, .ro .int a0WasOnce, .ro .int a0WasOften], .c (.v (.int .i64 key1))] kk) = S_impl_UseLists a0Room a0Target a0Once a0Often a0WasOnce a0WasOften key1 (fun r0 r1 r2 r3 r4 r5 r6 => kk (.tup [.agg [.v (.int .i64 r0), .v (.int .i64 r1), .ro .int r2, .ro .int r3, .ro .int r4, .ro .int r5], .c (.v (.bool r6))]) []) := by
  rw [g_impl_UseLists]
  have hi0 : (fun a0Often a0Once a0Room a0Target a0WasOften a0WasOnce key1 nextTarget23 withoutKey27 withoutKey31 withoutKey35 withoutKey39 => Meets (evRunC TT cs_impl_UseLists 93 an_impl_UseLists (subc [1, 1, 1, 0] (Try.f14.body.getD .skip)) (can0_impl_UseLists a0Often a0Once a0Room a0Target a0WasOften a0WasOnce key1 nextTarget23 withoutKey27 withoutKey31 withoutKey35 withoutKey39) (kt0_impl_UseLists (fin_impl_UseLists a0Room a0Target a0Once a0Often a0WasOnce a0WasOften key1 kk)))) = (fun a0Often a0Once a0Room a0Target a0WasOften a0WasOnce key1 nextTarget23 withoutKey27 withoutKey31 withoutKey35 withoutKey39 => L0_impl_UseLists a0Often a0Once a0Room a0Target a0WasOften a0WasOnce key1 nextTarget23 withoutKey27 withoutKey31 withoutKey35 withoutKey39 (fun r0 r1 r2 r3 r4 r5 r6 => kk (.tup [.agg [.v (.int .i64 r0), .v (.int .i64 r1), .ro .int r2, .ro .int r3, .ro .int r4, .ro .int r5], .c (.v (.bool r6))]) [])) := by
    funext a0Often a0Once a0Room a0Target a0WasOften a0WasOnce key1 nextTarget23 withoutKey27 withoutKey31 withoutKey35 withoutKey39
    rw [meets_eq, l0_impl_UseLists a0Room a0Target a0Once a0Often a0WasOnce a0WasOften key1 nextTarget23 withoutKey27 withoutKey31 withoutKey35 withoutKey39 kk]
  rw [hi0]
  rw [G_impl_UseLists_eq]
  rfl
theorem clok_impl_UseLists : ConOK Try.prog cl_impl_UseLists := consCons h_impl_ValidLists ⟨Try.f18, Try.func18, by kernel_rfl, ne_of_beq (by kernel_rfl)⟩ (consCons h_impl_validKey ⟨Try.f37, Try.func37, by kernel_rfl, ne_of_beq (by kernel_rfl)⟩ (consCons h_impl_nextTarget ⟨Try.f38, Try.func38, by kernel_rfl, ne_of_beq (by kernel_rfl)⟩ (consCons h_impl_withoutKey ⟨Try.f39, Try.func39, by kernel_rfl, ne_of_beq (by kernel_rfl)⟩ (consCons h_slices_Contains_sint_int ⟨Try.f40, Try.func40, by kernel_rfl, ne_of_beq (by kernel_rfl)⟩ (consCons h_impl_putFirst ⟨Try.f43, Try.func43, by kernel_rfl, ne_of_beq (by kernel_rfl)⟩ (consNil))))))
theorem cok_impl_UseLists_i9 : ConsOK Try.prog 8 cs_impl_UseLists_i9 := ⟨clok_impl_UseLists, inlNil, ovNil⟩
theorem cok_impl_UseLists_i8 : ConsOK Try.prog 8 cs_impl_UseLists_i8 := ⟨clok_impl_UseLists, inlNil, ovNil⟩
theorem cok_impl_UseLists_i7 : ConsOK Try.prog 8 cs_impl_UseLists_i7 := ⟨clok_impl_UseLists, inlNil, ovNil⟩
theorem cok_impl_UseLists_i6 : ConsOK Try.prog 82 cs_impl_UseLists_i6 := ⟨clok_impl_UseLists, inlCons (inl_ok Try.func62 (by kernel_rfl) (ne_of_beq (by kernel_rfl)) Try.ntmps62 (by decide) mixed tabOK cok_impl_UseLists_i7 (by kernel_rfl)) (inlCons (inl_ok Try.func62 (by kernel_rfl) (ne_of_beq (by kernel_rfl)) Try.ntmps62 (by decide) mixed tabOK cok_impl_UseLists_i8 (by kernel_rfl)) (inlCons (inl_ok Try.func62 (by kernel_rfl) (ne_of_beq (by kernel_rfl)) Try.ntmps62 (by decide) mixed tabOK cok_impl_UseLists_i9 (by kernel_rfl)) (inlNil))), ovNil⟩
theorem cok_impl_UseLists_i5 : ConsOK Try.prog 8 cs_impl_UseLists_i5 := ⟨clok_impl_UseLists, inlNil, ovNil⟩
theorem cok_impl_UseLists_i4 : ConsOK Try.prog 16 cs_impl_UseLists_i4 := ⟨clok_impl_UseLists, inlCons (inl_ok Try.func62 (by kernel_rfl) (ne_of_beq (by kernel_rfl)) Try.ntmps62 (by decide) mixed tabOK cok_impl_UseLists_i5 (by kernel_rfl)) (inlNil), ovNil⟩
theorem cok_impl_UseLists_i3 : ConsOK Try.prog 8 cs_impl_UseLists_i3 := ⟨clok_impl_UseLists, inlNil, ovNil⟩
theorem cok_impl_UseLists_i2 : ConsOK Try.prog 16 cs_impl_UseLists_i2 := ⟨clok_impl_UseLists, inlCons (inl_ok Try.func62 (by kernel_rfl) (ne_of_beq (by kernel_rfl)) Try.ntmps62 (by decide) mixed tabOK cok_impl_UseLists_i3 (by kernel_rfl)) (inlNil), ovNil⟩
theorem cok_impl_UseLists_i1 : ConsOK Try.prog 85 cs_impl_UseLists_i1 := ⟨clok_impl_UseLists, inlCons (inl_ok Try.func63 (by kernel_rfl) (ne_of_beq (by kernel_rfl)) Try.ntmps63 (by decide) mixed tabOK cok_impl_UseLists_i2 (by kernel_rfl)) (inlCons (inl_ok Try.func63 (by kernel_rfl) (ne_of_beq (by kernel_rfl)) Try.ntmps63 (by decide) mixed tabOK cok_impl_UseLists_i4 (by kernel_rfl)) (inlNil)), ovNil⟩
theorem cok_impl_UseLists : ConsOK Try.prog 93 cs_impl_UseLists := ⟨clok_impl_UseLists, inlCons (inl_ok Try.func41 (by kernel_rfl) (ne_of_beq (by kernel_rfl)) Try.ntmps41 (by decide) mixed tabOK cok_impl_UseLists_i6 (by kernel_rfl)) (inlCons (inl_ok Try.func42 (by kernel_rfl) (ne_of_beq (by kernel_rfl)) Try.ntmps42 (by decide) mixed tabOK cok_impl_UseLists_i1 (by kernel_rfl)) (inlNil)), ovNil⟩
theorem i_impl_UseLists {vs : List A1} {kk : AV → List A1 → Prop} {motive : List A1 → Prop} (h : con_impl_UseLists.F vs kk) (H : ∀ (a0Room : Int) (a0Target : Int) (a0Once : List Int) (a0Often : List Int) (a0WasOnce : List Int) (a0WasOften : List Int) (key1 : Int), F_impl_UseLists a0Room a0Target a0Once a0Often a0WasOnce a0WasOften key1 (fun r0 r1 r2 r3 r4 r5 r6 => kk (.tup [.agg [.v (.int .i64 r0), .v (.int .i64 r1), .ro .int r2, .ro .int r3, .ro .int r4, .ro .int r5], .c (.v (.bool r6))]) []) → motive [.agg [.v (.int .i64 a0Room), .v (.int .i64 a0Target), .ro .int a0Once, .ro .int a0Often, .ro .int a0WasOnce, .ro .int a0WasOften], .c (.v (.int .i64 key1))]) : motive vs := by
  unfold con_impl_UseLists at h
  dsimp only at h
  split at h
  · exact H _ _ _ _ _ _ _ h
  · exact h.elim
theorem h_impl_UseLists : Holds Try.prog 14 con_impl_UseLists := by
  refine holds_of_ev (rt := [.agg [.sc, .sc, .sl .int, .sl .int, .sl .int, .sl .int], .c .sc]) (T := TT) (Γ := cs_impl_UseLists) (an := an_impl_UseLists) (N := 93) (c := Try.f14.body.getD .skip) Try.func14 (by kernel_rfl) Try.ntmps14 (by decide) (by decide) mixed tabOK cok_impl_UseLists (by kernel_rfl) ?_
  intro vs kk _ hF
  exact i_impl_UseLists (motive := fun vs => Goes (ev TT cs_impl_UseLists 93 an_impl_UseLists (Try.f14.body.getD .skip) (st0 con_impl_UseLists vs) (fin TT con_impl_UseLists Try.f14.results.toList [.agg [.sc, .sc, .sl .int, .sl .int, .sl .int, .sl .int], .c .sc] vs kk))) hF (fun a0Room a0Target a0Once a0Often a0WasOnce a0WasOften key1 hF => goes_of (e_impl_UseLists a0Room a0Target a0Once a0Often a0WasOnce a0WasOften key1 kk) (F_impl_UseLists_S hF))
def con_spec_inRange : Con := ⟨[.rd, .rd, .rd], true, [.c (.sc), .c (.sc), .c (.sc)], fun vs k => match vs with
    | [.c (.v (.int .i64 n0)), .c (.v (.int .i64 low1)), .c (.v (.int .i64 high2))] => F_spec_inRange n0 low1 high2 (fun r0 => k (.one (.c (.v (.bool r0)))) [])
    | _ => False, false⟩
def cl_spec_inRange : List (FuncId × Con) := []
def an_spec_inRange : Ann := ⟨[], [], [], []⟩
def cs_spec_inRange : Cons := ⟨cl_spec_inRange, [], 0, [], [], []⟩
def fin_spec_inRange (n0 : Int) (low1 : Int) (high2 : Int) (kk : AV → List A1 → Prop) : Kt := fin TT con_spec_inRange Try.f45.results.toList [.c .sc] [.c (.v (.int .i64 n0)), .c (.v (.int .i64 low1)), .c (.v (.int .i64 high2))] kk
theorem g_spec_inRange (n0 : Int) (low1 : Int) (high2 : Int) (kk : AV → List A1 → Prop) :
    ev TT cs_spec_inRange 15 an_spec_inRange (Try.f45.body.getD .skip) (st0 con_spec_inRange [.c (.v (.int .i64 n0)), .c (.v (.int .i64 low1)), .c (.v (.int .i64 high2))]) (fin TT con_spec_inRange Try.f45.results.toList [.c .sc] [.c (.v (.int .i64 n0)), .c (.v (.int .i64 low1)), .c (.v (.int .i64 high2))] kk) = G_spec_inRange n0 low1 high2 (fun r0 => kk (.one (.c (.v (.bool r0)))) []) := by kernel_rfl
theorem e_spec_inRange (n0 : Int) (low1 : Int) (high2 : Int) (kk : AV → List A1 → Prop) :
    ev TT cs_spec_inRange 15 an_spec_inRange (Try.f45.body.getD .skip) (st0 con_spec_inRange [.c (.v (.int .i64 n0)), .c (.v (.int .i64 low1)), .c (.v (.int .i64 high2))]) (fin TT con_spec_inRange Try.f45.results.toList [.c .sc] [.c (.v (.int .i64 n0)), .c (.v (.int .i64 low1)), .c (.v (.int .i64 high2))] kk) = S_spec_inRange n0 low1 high2 (fun r0 => kk (.one (.c (.v (.bool r0)))) []) := by
  rw [g_spec_inRange]
  rfl
theorem clok_spec_inRange : ConOK Try.prog cl_spec_inRange := consNil
theorem cok_spec_inRange : ConsOK Try.prog 15 cs_spec_inRange := ⟨clok_spec_inRange, inlNil, ovNil⟩
theorem i_spec_inRange {vs : List A1} {kk : AV → List A1 → Prop} {motive : List A1 → Prop} (h : con_spec_inRange.F vs kk) (H : ∀ (n0 : Int) (low1 : Int) (high2 : Int), F_spec_inRange n0 low1 high2 (fun r0 => kk (.one (.c (.v (.bool r0)))) []) → motive [.c (.v (.int .i64 n0)), .c (.v (.int .i64 low1)), .c (.v (.int .i64 high2))]) : motive vs := by
  unfold con_spec_inRange at h
  dsimp only at h
  split at h
  · exact H _ _ _ h
  · exact h.elim
theorem h_spec_inRange : Holds Try.prog 45 con_spec_inRange := by
  refine holds_of_ev (rt := [.c .sc]) (T := TT) (Γ := cs_spec_inRange) (an := an_spec_inRange) (N := 15) (c := Try.f45.body.getD .skip) Try.func45 (by kernel_rfl) Try.ntmps45 (by decide) (by decide) mixed tabOK cok_spec_inRange (by kernel_rfl) ?_
  intro vs kk _ hF
  exact i_spec_inRange (motive := fun vs => Goes (ev TT cs_spec_inRange 15 an_spec_inRange (Try.f45.body.getD .skip) (st0 con_spec_inRange vs) (fin TT con_spec_inRange Try.f45.results.toList [.c .sc] vs kk))) hF (fun n0 low1 high2 hF => goes_of (e_spec_inRange n0 low1 high2 kk) (F_spec_inRange_S hF))
def con_spec_validParts : Con := ⟨[.rd], true, [.agg [.sc, .sc, .sl .int, .sl .int, .sl .int, .sl .int]], fun vs k => match vs with
    | [.agg [.v (.int .i64 a0Room), .v (.int .i64 a0Target), .ro .int a0Once, .ro .int a0Often, .ro .int a0WasOnce, .ro .int a0WasOften]] => F_spec_validParts a0Room a0Target a0Once a0Often a0WasOnce a0WasOften (fun r0 => k (.one (.c (.v (.bool r0)))) [])
    | _ => False, false⟩
def cl_spec_validParts : List (FuncId × Con) := []
def an_spec_validParts : Ann := ⟨[], [], [], []⟩
def cs_spec_validParts : Cons := ⟨cl_spec_validParts, [], 0, [], [], []⟩
def fin_spec_validParts (a0Room : Int) (a0Target : Int) (a0Once : List Int) (a0Often : List Int) (a0WasOnce : List Int) (a0WasOften : List Int) (kk : AV → List A1 → Prop) : Kt := fin TT con_spec_validParts Try.f64.results.toList [.c .sc] [.agg [.v (.int .i64 a0Room), .v (.int .i64 a0Target), .ro .int a0Once, .ro .int a0Often, .ro .int a0WasOnce, .ro .int a0WasOften]] kk
theorem g_spec_validParts (a0Room : Int) (a0Target : Int) (a0Once : List Int) (a0Often : List Int) (a0WasOnce : List Int) (a0WasOften : List Int) (kk : AV → List A1 → Prop) :
    ev TT cs_spec_validParts 42 an_spec_validParts (Try.f64.body.getD .skip) (st0 con_spec_validParts [.agg [.v (.int .i64 a0Room), .v (.int .i64 a0Target), .ro .int a0Once, .ro .int a0Often, .ro .int a0WasOnce, .ro .int a0WasOften]]) (fin TT con_spec_validParts Try.f64.results.toList [.c .sc] [.agg [.v (.int .i64 a0Room), .v (.int .i64 a0Target), .ro .int a0Once, .ro .int a0Often, .ro .int a0WasOnce, .ro .int a0WasOften]] kk) = G_spec_validParts a0Room a0Target a0Once a0Often a0WasOnce a0WasOften (fun r0 => kk (.one (.c (.v (.bool r0)))) []) := by kernel_rfl
theorem e_spec_validParts (a0Room : Int) (a0Target : Int) (a0Once : List Int) (a0Often : List Int) (a0WasOnce : List Int) (a0WasOften : List Int) (kk : AV → List A1 → Prop) :
    ev TT cs_spec_validParts 42 an_spec_validParts (Try.f64.body.getD .skip) (st0 con_spec_validParts [.agg [.v (.int .i64 a0Room), .v (.int .i64 a0Target), .ro .int a0Once, .ro .int a0Often, .ro .int a0WasOnce, .ro .int a0WasOften]]) (fin TT con_spec_validParts Try.f64.results.toList [.c .sc] [.agg [.v (.int .i64 a0Room), .v (.int .i64 a0Target), .ro .int a0Once, .ro .int a0Often, .ro .int a0WasOnce, .ro .int a0WasOften]] kk) = S_spec_validParts a0Room a0Target a0Once a0Often a0WasOnce a0WasOften (fun r0 => kk (.one (.c (.v (.bool r0)))) []) := by
  rw [g_spec_validParts]
  rfl
theorem clok_spec_validParts : ConOK Try.prog cl_spec_validParts := consNil
theorem cok_spec_validParts : ConsOK Try.prog 42 cs_spec_validParts := ⟨clok_spec_validParts, inlNil, ovNil⟩
theorem i_spec_validParts {vs : List A1} {kk : AV → List A1 → Prop} {motive : List A1 → Prop} (h : con_spec_validParts.F vs kk) (H : ∀ (a0Room : Int) (a0Target : Int) (a0Once : List Int) (a0Often : List Int) (a0WasOnce : List Int) (a0WasOften : List Int), F_spec_validParts a0Room a0Target a0Once a0Often a0WasOnce a0WasOften (fun r0 => kk (.one (.c (.v (.bool r0)))) []) → motive [.agg [.v (.int .i64 a0Room), .v (.int .i64 a0Target), .ro .int a0Once, .ro .int a0Often, .ro .int a0WasOnce, .ro .int a0WasOften]]) : motive vs := by
  unfold con_spec_validParts at h
  dsimp only at h
  split at h
  · exact H _ _ _ _ _ _ h
  · exact h.elim
theorem h_spec_validParts : Holds Try.prog 64 con_spec_validParts := by
  refine holds_of_ev (rt := [.c .sc]) (T := TT) (Γ := cs_spec_validParts) (an := an_spec_validParts) (N := 42) (c := Try.f64.body.getD .skip) Try.func64 (by kernel_rfl) Try.ntmps64 (by decide) (by decide) mixed tabOK cok_spec_validParts (by kernel_rfl) ?_
  intro vs kk _ hF
  exact i_spec_validParts (motive := fun vs => Goes (ev TT cs_spec_validParts 42 an_spec_validParts (Try.f64.body.getD .skip) (st0 con_spec_validParts vs) (fin TT con_spec_validParts Try.f64.results.toList [.c .sc] vs kk))) hF (fun a0Room a0Target a0Once a0Often a0WasOnce a0WasOften hF => goes_of (e_spec_validParts a0Room a0Target a0Once a0Often a0WasOnce a0WasOften kk) (F_spec_validParts_S hF))
def con_spec_distinct : Con := ⟨[.rd], true, [.c (.sl .int)], fun vs k => match vs with
    | [.c (.ro .int list0)] => F_spec_distinct list0 (fun r0 => k (.one (.c (.v (.bool r0)))) [])
    | _ => False, false⟩
def cl_spec_distinct : List (FuncId × Con) := [(69, con_spec_placeOf)]
def nm0_spec_distinct : List NStep := [.keep [0, 3] []]
def an_spec_distinct : Ann := ⟨[], [(2, nm0_spec_distinct)], [], []⟩
def cs_spec_distinct : Cons := ⟨cl_spec_distinct, [], 0, [], [], []⟩
def can0_spec_distinct (list0 : List Int) (xi3 : Int) : St := ⟨[(0, .one (.c (.ro .int list0))), (3, .one (.c (.v (.int .i64 xi3))))], []⟩
def fin_spec_distinct (list0 : List Int) (kk : AV → List A1 → Prop) : Kt := fin TT con_spec_distinct Try.f65.results.toList [.c .sc] [.c (.ro .int list0)] kk
def kt0_spec_distinct (kf : Kt) : Kt := blockK 0 (seqK (evF TT cs_spec_distinct 18 an_spec_distinct Try.f65 [1, 1]) (kf))
theorem r0_spec_distinct (list0 : List Int) (kk : AV → List A1 → Prop) (n : Nat) (xi3 : Int) :
    iter (evF TT cs_spec_distinct 18 an_spec_distinct Try.f65 [1, 0, 1, 0, 0]) nm0_spec_distinct (kt0_spec_distinct (fin_spec_distinct list0 kk)) (n + 1) (can0_spec_distinct list0 xi3) = T0_spec_distinct list0 xi3 (fun r0 => kk (.one (.c (.v (.bool r0)))) []) (fun xi3 => iter (evF TT cs_spec_distinct 18 an_spec_distinct Try.f65 [1, 0, 1, 0, 0]) nm0_spec_distinct (kt0_spec_distinct (fin_spec_distinct list0 kk)) n (can0_spec_distinct list0 xi3)) := by kernel_rfl
theorem l0_spec_distinct (list0 : List Int) (kk : AV → List A1 → Prop) : ∀ (n : Nat) (xi3 : Int), iter (evF TT cs_spec_distinct 18 an_spec_distinct Try.f65 [1, 0, 1, 0, 0]) nm0_spec_distinct (kt0_spec_distinct (fin_spec_distinct list0 kk)) n (can0_spec_distinct list0 xi3) = L0_spec_distinct list0 (fun r0 => kk (.one (.c (.v (.bool r0)))) []) n xi3 := by
  intro n
  induction n with
  | zero => intros; rfl
  | succ n ih =>
    intro xi3
    rw [r0_spec_distinct list0 kk n xi3]
    have hb : (fun xi3 => iter (evF TT cs_spec_distinct 18 an_spec_distinct Try.f65 [1, 0, 1, 0, 0]) nm0_spec_distinct (kt0_spec_distinct (fin_spec_distinct list0 kk)) n (can0_spec_distinct list0 xi3)) = L0_spec_distinct list0 (fun r0 => kk (.one (.c (.v (.bool r0)))) []) n := by
      funext xi3; exact ih xi3
    rw [hb]
    rfl
theorem g_spec_distinct (list0 : List Int) (kk : AV → List A1 → Prop) :
    ev TT cs_spec_distinct 18 an_spec_distinct (Try.f65.body.getD .skip) (st0 con_spec_distinct [.c (.ro .int list0)]) (fin TT con_spec_distinct Try.f65.results.toList [.c .sc] [.c (.ro .int list0)] kk) = G_spec_distinct list0 (fun list0 xi3 => ∃ j, iter (evF TT cs_spec_distinct 18 an_spec_distinct Try.f65 [1, 0, 1, 0, 0]) nm0_spec_distinct (kt0_spec_distinct (fin_spec_distinct list0 kk)) j (can0_spec_distinct list0 xi3)) := by kernel_rfl
theorem e_spec_distinct (list0 : List Int) (kk : AV → List A1 → Prop) :
    ev TT cs_spec_distinct 18 an_spec_distinct (Try.f65.body.getD .skip) (st0 con_spec_distinct [.c (.ro .int list0)]) (fin TT con_spec_distinct Try.f65.results.toList [.c .sc] [.c (.ro .int list0)] kk) = S_spec_distinct list0 (fun r0 => kk (.one (.c (.v (.bool r0)))) []) := by
  rw [g_spec_distinct]
  have hi0 : (fun list0 xi3 => ∃ j, iter (evF TT cs_spec_distinct 18 an_spec_distinct Try.f65 [1, 0, 1, 0, 0]) nm0_spec_distinct (kt0_spec_distinct (fin_spec_distinct list0 kk)) j (can0_spec_distinct list0 xi3)) = (fun list0 xi3 => ∃ j, L0_spec_distinct list0 (fun r0 => kk (.one (.c (.v (.bool r0)))) []) j xi3) := by
    funext list0 xi3
    refine congrArg Exists (funext fun j => ?_)
    rw [l0_spec_distinct list0 kk j xi3]
  rw [hi0]
  rfl
theorem clok_spec_distinct : ConOK Try.prog cl_spec_distinct := consCons h_spec_placeOf ⟨Try.f69, Try.func69, by kernel_rfl, ne_of_beq (by kernel_rfl)⟩ (consNil)
theorem cok_spec_distinct : ConsOK Try.prog 18 cs_spec_distinct := ⟨clok_spec_distinct, inlNil, ovNil⟩
theorem i_spec_distinct {vs : List A1} {kk : AV → List A1 → Prop} {motive : List A1 → Prop} (h : con_spec_distinct.F vs kk) (H : ∀ (list0 : List Int), F_spec_distinct list0 (fun r0 => kk (.one (.c (.v (.bool r0)))) []) → motive [.c (.ro .int list0)]) : motive vs := by
  unfold con_spec_distinct at h
  dsimp only at h
  split at h
  · exact H _ h
  · exact h.elim
theorem h_spec_distinct : Holds Try.prog 65 con_spec_distinct := by
  refine holds_of_ev (rt := [.c .sc]) (T := TT) (Γ := cs_spec_distinct) (an := an_spec_distinct) (N := 18) (c := Try.f65.body.getD .skip) Try.func65 (by kernel_rfl) Try.ntmps65 (by decide) (by decide) mixed tabOK cok_spec_distinct (by kernel_rfl) ?_
  intro vs kk _ hF
  exact i_spec_distinct (motive := fun vs => Goes (ev TT cs_spec_distinct 18 an_spec_distinct (Try.f65.body.getD .skip) (st0 con_spec_distinct vs) (fin TT con_spec_distinct Try.f65.results.toList [.c .sc] vs kk))) hF (fun list0 hF => goes_of (e_spec_distinct list0 kk) (F_spec_distinct_S hF))
def con_spec_allIn : Con := ⟨[.rd, .rd, .rd], true, [.c (.sl .int), .c (.sc), .c (.sc)], fun vs k => match vs with
    | [.c (.ro .int list0), .c (.v (.int .i64 low1)), .c (.v (.int .i64 high2))] => F_spec_allIn list0 low1 high2 (fun r0 => k (.one (.c (.v (.bool r0)))) [])
    | _ => False, false⟩
def cl_spec_allIn : List (FuncId × Con) := [(45, con_spec_inRange)]
def nm0_spec_allIn : List NStep := [.keep [0, 1, 2, 7] []]
def an_spec_allIn : Ann := ⟨[], [(2, nm0_spec_allIn)], [], []⟩
def cs_spec_allIn : Cons := ⟨cl_spec_allIn, [], 0, [], [], []⟩
def can0_spec_allIn (high2 : Int) (list0 : List Int) (low1 : Int) (xi7 : Int) : St := ⟨[(0, .one (.c (.ro .int list0))), (1, .one (.c (.v (.int .i64 low1)))), (2, .one (.c (.v (.int .i64 high2)))), (7, .one (.c (.v (.int .i64 xi7))))], []⟩
def fin_spec_allIn (list0 : List Int) (low1 : Int) (high2 : Int) (kk : AV → List A1 → Prop) : Kt := fin TT con_spec_allIn Try.f66.results.toList [.c .sc] [.c (.ro .int list0), .c (.v (.int .i64 low1)), .c (.v (.int .i64 high2))] kk
def kt0_spec_allIn (kf : Kt) : Kt := blockK 0 (seqK (evF TT cs_spec_allIn 22 an_spec_allIn Try.f66 [1, 1]) (kf))
theorem r0_spec_allIn (list0 : List Int) (low1 : Int) (high2 : Int) (kk : AV → List A1 → Prop) (n : Nat) (xi7 : Int) :
    iter (evF TT cs_spec_allIn 22 an_spec_allIn Try.f66 [1, 0, 1, 0, 0]) nm0_spec_allIn (kt0_spec_allIn (fin_spec_allIn list0 low1 high2 kk)) (n + 1) (can0_spec_allIn high2 list0 low1 xi7) = T0_spec_allIn high2 list0 low1 xi7 (fun r0 => kk (.one (.c (.v (.bool r0)))) []) (fun xi7 => iter (evF TT cs_spec_allIn 22 an_spec_allIn Try.f66 [1, 0, 1, 0, 0]) nm0_spec_allIn (kt0_spec_allIn (fin_spec_allIn list0 low1 high2 kk)) n (can0_spec_allIn high2 list0 low1 xi7)) := by kernel_rfl
theorem l0_spec_allIn (list0 : List Int) (low1 : Int) (high2 : Int) (kk : AV → List A1 → Prop) : ∀ (n : Nat) (xi7 : Int), iter (evF TT cs_spec_allIn 22 an_spec_allIn Try.f66 [1, 0, 1, 0, 0]) nm0_spec_allIn (kt0_spec_allIn (fin_spec_allIn list0 low1 high2 kk)) n (can0_spec_allIn high2 list0 low1 xi7) = L0_spec_allIn high2 list0 low1 (fun r0 => kk (.one (.c (.v (.bool r0)))) []) n xi7 := by
  intro n
  induction n with
  | zero => intros; rfl
  | succ n ih =>
    intro xi7
    rw [r0_spec_allIn list0 low1 high2 kk n xi7]
    have hb : (fun xi7 => iter (evF TT cs_spec_allIn 22 an_spec_allIn Try.f66 [1, 0, 1, 0, 0]) nm0_spec_allIn (kt0_spec_allIn (fin_spec_allIn list0 low1 high2 kk)) n (can0_spec_allIn high2 list0 low1 xi7)) = L0_spec_allIn high2 list0 low1 (fun r0 => kk (.one (.c (.v (.bool r0)))) []) n := by
      funext xi7; exact ih xi7
    rw [hb]
    rfl
theorem g_spec_allIn (list0 : List Int) (low1 : Int) (high2 : Int) (kk : AV → List A1 → Prop) :
    ev TT cs_spec_allIn 22 an_spec_allIn (Try.f66.body.getD .skip) (st0 con_spec_allIn [.c (.ro .int list0), .c (.v (.int .i64 low1)), .c (.v (.int .i64 high2))]) (fin TT con_spec_allIn Try.f66.results.toList [.c .sc] [.c (.ro .int list0), .c (.v (.int .i64 low1)), .c (.v (.int .i64 high2))] kk) = G_spec_allIn list0 low1 high2 (fun high2 list0 low1 xi7 => ∃ j, iter (evF TT cs_spec_allIn 22 an_spec_allIn Try.f66 [1, 0, 1, 0, 0]) nm0_spec_allIn (kt0_spec_allIn (fin_spec_allIn list0 low1 high2 kk)) j (can0_spec_allIn high2 list0 low1 xi7)) := by kernel_rfl
theorem e_spec_allIn (list0 : List Int) (low1 : Int) (high2 : Int) (kk : AV → List A1 → Prop) :
    ev TT cs_spec_allIn 22 an_spec_allIn (Try.f66.body.getD .skip) (st0 con_spec_allIn [.c (.ro .int list0), .c (.v (.int .i64 low1)), .c (.v (.int .i64 high2))]) (fin TT con_spec_allIn Try.f66.results.toList [.c .sc] [.c (.ro .int list0), .c (.v (.int .i64 low1)), .c (.v (.int .i64 high2))] kk) = S_spec_allIn list0 low1 high2 (fun r0 => kk (.one (.c (.v (.bool r0)))) []) := by
  rw [g_spec_allIn]
  have hi0 : (fun high2 list0 low1 xi7 => ∃ j, iter (evF TT cs_spec_allIn 22 an_spec_allIn Try.f66 [1, 0, 1, 0, 0]) nm0_spec_allIn (kt0_spec_allIn (fin_spec_allIn list0 low1 high2 kk)) j (can0_spec_allIn high2 list0 low1 xi7)) = (fun high2 list0 low1 xi7 => ∃ j, L0_spec_allIn high2 list0 low1 (fun r0 => kk (.one (.c (.v (.bool r0)))) []) j xi7) := by
    funext high2 list0 low1 xi7
    refine congrArg Exists (funext fun j => ?_)
    rw [l0_spec_allIn list0 low1 high2 kk j xi7]
  rw [hi0]
  rfl
theorem clok_spec_allIn : ConOK Try.prog cl_spec_allIn := consCons h_spec_inRange ⟨Try.f45, Try.func45, by kernel_rfl, ne_of_beq (by kernel_rfl)⟩ (consNil)
theorem cok_spec_allIn : ConsOK Try.prog 22 cs_spec_allIn := ⟨clok_spec_allIn, inlNil, ovNil⟩
theorem i_spec_allIn {vs : List A1} {kk : AV → List A1 → Prop} {motive : List A1 → Prop} (h : con_spec_allIn.F vs kk) (H : ∀ (list0 : List Int) (low1 : Int) (high2 : Int), F_spec_allIn list0 low1 high2 (fun r0 => kk (.one (.c (.v (.bool r0)))) []) → motive [.c (.ro .int list0), .c (.v (.int .i64 low1)), .c (.v (.int .i64 high2))]) : motive vs := by
  unfold con_spec_allIn at h
  dsimp only at h
  split at h
  · exact H _ _ _ h
  · exact h.elim
theorem h_spec_allIn : Holds Try.prog 66 con_spec_allIn := by
  refine holds_of_ev (rt := [.c .sc]) (T := TT) (Γ := cs_spec_allIn) (an := an_spec_allIn) (N := 22) (c := Try.f66.body.getD .skip) Try.func66 (by kernel_rfl) Try.ntmps66 (by decide) (by decide) mixed tabOK cok_spec_allIn (by kernel_rfl) ?_
  intro vs kk _ hF
  exact i_spec_allIn (motive := fun vs => Goes (ev TT cs_spec_allIn 22 an_spec_allIn (Try.f66.body.getD .skip) (st0 con_spec_allIn vs) (fin TT con_spec_allIn Try.f66.results.toList [.c .sc] vs kk))) hF (fun list0 low1 high2 hF => goes_of (e_spec_allIn list0 low1 high2 kk) (F_spec_allIn_S hF))
def con_spec_validLists : Con := ⟨[.rd], true, [.agg [.sc, .sc, .sl .int, .sl .int, .sl .int, .sl .int]], fun vs k => match vs with
    | [.agg [.v (.int .i64 a0Room), .v (.int .i64 a0Target), .ro .int a0Once, .ro .int a0Often, .ro .int a0WasOnce, .ro .int a0WasOften]] => F_spec_validLists a0Room a0Target a0Once a0Often a0WasOnce a0WasOften (fun r0 => k (.one (.c (.v (.bool r0)))) [])
    | _ => False, false⟩
def cl_spec_validLists : List (FuncId × Con) := [(34, con_spec_copyInts), (45, con_spec_inRange), (64, con_spec_validParts), (65, con_spec_distinct), (66, con_spec_allIn)]
def an_spec_validLists : Ann := ⟨[(3, .take 0 (.take 1 (.take 3 (.take 4 (.take 6 (.take 7 (.take 9 (.take 10 (.alt 2 (.alt 5 (.alt 8 (.alt 11 (.take 12 (.done)) (.none)) (.none)) (.none)) (.none))))))))), [16])], [], [], []⟩
def cs_spec_validLists : Cons := ⟨cl_spec_validLists, [], 0, [], [], []⟩
def fin_spec_validLists (a0Room : Int) (a0Target : Int) (a0Once : List Int) (a0Often : List Int) (a0WasOnce : List Int) (a0WasOften : List Int) (kk : AV → List A1 → Prop) : Kt := fin TT con_spec_validLists Try.f44.results.toList [.c .sc] [.agg [.v (.int .i64 a0Room), .v (.int .i64 a0Target), .ro .int a0Once, .ro .int a0Often, .ro .int a0WasOnce, .ro .int a0WasOften]] kk
theorem g_spec_validLists (a0Room : Int) (a0Target : Int) (a0Once : List Int) (a0Often : List Int) (a0WasOnce : List Int) (a0WasOften : List Int) (kk : AV → List A1 → Prop) :
    ev TT cs_spec_validLists 39 an_spec_validLists (Try.f44.body.getD .skip) (st0 con_spec_validLists [.agg [.v (.int .i64 a0Room), .v (.int .i64 a0Target), .ro .int a0Once, .ro .int a0Often, .ro .int a0WasOnce, .ro .int a0WasOften]]) (fin TT con_spec_validLists Try.f44.results.toList [.c .sc] [.agg [.v (.int .i64 a0Room), .v (.int .i64 a0Target), .ro .int a0Once, .ro .int a0Often, .ro .int a0WasOnce, .ro .int a0WasOften]] kk) = G_spec_validLists a0Room a0Target a0Once a0Often a0WasOnce a0WasOften (fun r0 => kk (.one (.c (.v (.bool r0)))) []) := by kernel_rfl
theorem e_spec_validLists (a0Room : Int) (a0Target : Int) (a0Once : List Int) (a0Often : List Int) (a0WasOnce : List Int) (a0WasOften : List Int) (kk : AV → List A1 → Prop) :
    ev TT cs_spec_validLists 39 an_spec_validLists (Try.f44.body.getD .skip) (st0 con_spec_validLists [.agg [.v (.int .i64 a0Room), .v (.int .i64 a0Target), .ro .int a0Once, .ro .int a0Often, .ro .int a0WasOnce, .ro .int a0WasOften]]) (fin TT con_spec_validLists Try.f44.results.toList [.c .sc] [.agg [.v (.int .i64 a0Room), .v (.int .i64 a0Target), .ro .int a0Once, .ro .int a0Often, .ro .int a0WasOnce, .ro .int a0WasOften]] kk) = S_spec_validLists a0Room a0Target a0Once a0Often a0WasOnce a0WasOften (fun r0 => kk (.one (.c (.v (.bool r0)))) []) := by
  rw [g_spec_validLists]
  rw [G_spec_validLists_eq]
  rfl
theorem clok_spec_validLists : ConOK Try.prog cl_spec_validLists := consCons h_spec_copyInts ⟨Try.f34, Try.func34, by kernel_rfl, ne_of_beq (by kernel_rfl)⟩ (consCons h_spec_inRange ⟨Try.f45, Try.func45, by kernel_rfl, ne_of_beq (by kernel_rfl)⟩ (consCons h_spec_validParts ⟨Try.f64, Try.func64, by kernel_rfl, ne_of_beq (by kernel_rfl)⟩ (consCons h_spec_distinct ⟨Try.f65, Try.func65, by kernel_rfl, ne_of_beq (by kernel_rfl)⟩ (consCons h_spec_allIn ⟨Try.f66, Try.func66, by kernel_rfl, ne_of_beq (by kernel_rfl)⟩ (consNil)))))
theorem cok_spec_validLists : ConsOK Try.prog 39 cs_spec_validLists := ⟨clok_spec_validLists, inlNil, ovNil⟩
theorem i_spec_validLists {vs : List A1} {kk : AV → List A1 → Prop} {motive : List A1 → Prop} (h : con_spec_validLists.F vs kk) (H : ∀ (a0Room : Int) (a0Target : Int) (a0Once : List Int) (a0Often : List Int) (a0WasOnce : List Int) (a0WasOften : List Int), F_spec_validLists a0Room a0Target a0Once a0Often a0WasOnce a0WasOften (fun r0 => kk (.one (.c (.v (.bool r0)))) []) → motive [.agg [.v (.int .i64 a0Room), .v (.int .i64 a0Target), .ro .int a0Once, .ro .int a0Often, .ro .int a0WasOnce, .ro .int a0WasOften]]) : motive vs := by
  unfold con_spec_validLists at h
  dsimp only at h
  split at h
  · exact H _ _ _ _ _ _ h
  · exact h.elim
theorem h_spec_validLists : Holds Try.prog 44 con_spec_validLists := by
  refine holds_of_ev (rt := [.c .sc]) (T := TT) (Γ := cs_spec_validLists) (an := an_spec_validLists) (N := 39) (c := Try.f44.body.getD .skip) Try.func44 (by kernel_rfl) Try.ntmps44 (by decide) (by decide) mixed tabOK cok_spec_validLists (by kernel_rfl) ?_
  intro vs kk _ hF
  exact i_spec_validLists (motive := fun vs => Goes (ev TT cs_spec_validLists 39 an_spec_validLists (Try.f44.body.getD .skip) (st0 con_spec_validLists vs) (fin TT con_spec_validLists Try.f44.results.toList [.c .sc] vs kk))) hF (fun a0Room a0Target a0Once a0Often a0WasOnce a0WasOften hF => goes_of (e_spec_validLists a0Room a0Target a0Once a0Often a0WasOnce a0WasOften kk) (F_spec_validLists_S hF))
def con_spec_UseLists : Con := ⟨[.rd, .rd], false, [.agg [.sc, .sc, .sl .int, .sl .int, .sl .int, .sl .int], .c (.sc)], fun vs k => match vs with
    | [.agg [.v (.int .i64 a0Room), .v (.int .i64 a0Target), .ro .int a0Once, .ro .int a0Often, .ro .int a0WasOnce, .ro .int a0WasOften], .c (.v (.int .i64 key1))] => F_spec_UseLists a0Room a0Target a0Once a0Often a0WasOnce a0WasOften key1 (fun r0 r1 r2 r3 r4 r5 r6 => k (.tup [.agg [.v (.int .i64 r0), .v (.int .i64 r1), .ro .int r2, .ro .int r3, .ro .int r4, .ro .int r5], .c (.v (.bool r6))]) [])
    | _ => False, false⟩
def cl_spec_UseLists : List (FuncId × Con) := [(44, con_spec_validLists), (45, con_spec_inRange), (46, con_spec_adapt)]
def an_spec_UseLists : Ann := ⟨[], [], [], []⟩
def cs_spec_UseLists : Cons := ⟨cl_spec_UseLists, [], 0, [], [], []⟩
def fin_spec_UseLists (a0Room : Int) (a0Target : Int) (a0Once : List Int) (a0Often : List Int) (a0WasOnce : List Int) (a0WasOften : List Int) (key1 : Int) (kk : AV → List A1 → Prop) : Kt := fin TT con_spec_UseLists Try.f15.results.toList [.agg [.sc, .sc, .sl .int, .sl .int, .sl .int, .sl .int], .c .sc] [.agg [.v (.int .i64 a0Room), .v (.int .i64 a0Target), .ro .int a0Once, .ro .int a0Often, .ro .int a0WasOnce, .ro .int a0WasOften], .c (.v (.int .i64 key1))] kk
theorem g_spec_UseLists (a0Room : Int) (a0Target : Int) (a0Once : List Int) (a0Often : List Int) (a0WasOnce : List Int) (a0WasOften : List Int) (key1 : Int) (kk : AV → List A1 → Prop) :
    ev TT cs_spec_UseLists 20 an_spec_UseLists (Try.f15.body.getD .skip) (st0 con_spec_UseLists [.agg [.v (.int .i64 a0Room), .v (.int .i64 a0Target), .ro .int a0Once, .ro .int a0Often, .ro .int a0WasOnce, .ro .int a0WasOften], .c (.v (.int .i64 key1))]) (fin TT con_spec_UseLists Try.f15.results.toList [.agg [.sc, .sc, .sl .int, .sl .int, .sl .int, .sl .int], .c .sc] [.agg [.v (.int .i64 a0Room), .v (.int .i64 a0Target), .ro .int a0Once, .ro .int a0Often, .ro .int a0WasOnce, .ro .int a0WasOften], .c (.v (.int .i64 key1))] kk) = G_spec_UseLists a0Room a0Target a0Once a0Often a0WasOnce a0WasOften key1 (fun r0 r1 r2 r3 r4 r5 r6 => kk (.tup [.agg [.v (.int .i64 r0), .v (.int .i64 r1), .ro .int r2, .ro .int r3, .ro .int r4, .ro .int r5], .c (.v (.bool r6))]) []) := by kernel_rfl
theorem e_spec_UseLists (a0Room : Int) (a0Target : Int) (a0Once : List Int) (a0Often : List Int) (a0WasOnce : List Int) (a0WasOften : List Int) (key1 : Int) (kk : AV → List A1 → Prop) :
    ev TT cs_spec_UseLists 20 an_spec_UseLists (Try.f15.body.getD .skip) (st0 con_spec_UseLists [.agg [.v (.int .i64 a0Room), .v (.int .i64 a0Target), .ro .int a0Once, .ro .int a0Often, .ro .int a0WasOnce, .ro .int a0WasOften], .c (.v (.int .i64 key1))]) (fin TT con_spec_UseLists Try.f15.results.toList [.agg [.sc, .sc, .sl .int, .sl .int, .sl .int, .sl .int], .c .sc] [.agg [.v (.int .i64 a0Room), .v (.int .i64 a0Target), .ro .int a0Once, .ro .int a0Often, .ro .int a0WasOnce, .ro .int a0WasOften], .c (.v (.int .i64 key1))] kk) = S_spec_UseLists a0Room a0Target a0Once a0Often a0WasOnce a0WasOften key1 (fun r0 r1 r2 r3 r4 r5 r6 => kk (.tup [.agg [.v (.int .i64 r0), .v (.int .i64 r1), .ro .int r2, .ro .int r3, .ro .int r4, .ro .int r5], .c (.v (.bool r6))]) []) := by
  rw [g_spec_UseLists]
  rfl
theorem clok_spec_UseLists : ConOK Try.prog cl_spec_UseLists := consCons h_spec_validLists ⟨Try.f44, Try.func44, by kernel_rfl, ne_of_beq (by kernel_rfl)⟩ (consCons h_spec_inRange ⟨Try.f45, Try.func45, by kernel_rfl, ne_of_beq (by kernel_rfl)⟩ (consCons h_spec_adapt ⟨Try.f46, Try.func46, by kernel_rfl, ne_of_beq (by kernel_rfl)⟩ (consNil)))
theorem cok_spec_UseLists : ConsOK Try.prog 20 cs_spec_UseLists := ⟨clok_spec_UseLists, inlNil, ovNil⟩
theorem i_spec_UseLists {vs : List A1} {kk : AV → List A1 → Prop} {motive : List A1 → Prop} (h : con_spec_UseLists.F vs kk) (H : ∀ (a0Room : Int) (a0Target : Int) (a0Once : List Int) (a0Often : List Int) (a0WasOnce : List Int) (a0WasOften : List Int) (key1 : Int), F_spec_UseLists a0Room a0Target a0Once a0Often a0WasOnce a0WasOften key1 (fun r0 r1 r2 r3 r4 r5 r6 => kk (.tup [.agg [.v (.int .i64 r0), .v (.int .i64 r1), .ro .int r2, .ro .int r3, .ro .int r4, .ro .int r5], .c (.v (.bool r6))]) []) → motive [.agg [.v (.int .i64 a0Room), .v (.int .i64 a0Target), .ro .int a0Once, .ro .int a0Often, .ro .int a0WasOnce, .ro .int a0WasOften], .c (.v (.int .i64 key1))]) : motive vs := by
  unfold con_spec_UseLists at h
  dsimp only at h
  split at h
  · exact H _ _ _ _ _ _ _ h
  · exact h.elim
theorem h_spec_UseLists : Holds Try.prog 15 con_spec_UseLists := by
  refine holds_of_ev (rt := [.agg [.sc, .sc, .sl .int, .sl .int, .sl .int, .sl .int], .c .sc]) (T := TT) (Γ := cs_spec_UseLists) (an := an_spec_UseLists) (N := 20) (c := Try.f15.body.getD .skip) Try.func15 (by kernel_rfl) Try.ntmps15 (by decide) (by decide) mixed tabOK cok_spec_UseLists (by kernel_rfl) ?_
  intro vs kk _ hF
  exact i_spec_UseLists (motive := fun vs => Goes (ev TT cs_spec_UseLists 20 an_spec_UseLists (Try.f15.body.getD .skip) (st0 con_spec_UseLists vs) (fin TT con_spec_UseLists Try.f15.results.toList [.agg [.sc, .sc, .sl .int, .sl .int, .sl .int, .sl .int], .c .sc] vs kk))) hF (fun a0Room a0Target a0Once a0Often a0WasOnce a0WasOften key1 hF => goes_of (e_spec_UseLists a0Room a0Target a0Once a0Often a0WasOnce a0WasOften key1 kk) (F_spec_UseLists_S hF))
def con_laws_equalInts : Con := ⟨[.rd, .rd], true, [.c (.sl .int), .c (.sl .int)], fun vs k => match vs with
    | [.c (.ro .int a0), .c (.ro .int b1)] => F_laws_equalInts a0 b1 (fun r0 => k (.one (.c (.v (.bool r0)))) [])
    | _ => False, false⟩
def cl_laws_equalInts : List (FuncId × Con) := []
def nm0_laws_equalInts : List NStep := [.keep [0, 1, 5] []]
def an_laws_equalInts : Ann := ⟨[(6, .take 0 (.take 1 (.take 2 (.take 3 (.take 4 (.take 5 (.take 6 (.take 7 (.take 8 (.done))))))))), [])], [(4, nm0_laws_equalInts)], [], []⟩
def cs_laws_equalInts : Cons := ⟨cl_laws_equalInts, [], 0, [], [], []⟩
def can0_laws_equalInts (a0 : List Int) (b1 : List Int) (xi5 : Int) : St := ⟨[(0, .one (.c (.ro .int a0))), (1, .one (.c (.ro .int b1))), (5, .one (.c (.v (.int .i64 xi5))))], []⟩
def fin_laws_equalInts (a0 : List Int) (b1 : List Int) (kk : AV → List A1 → Prop) : Kt := fin TT con_laws_equalInts Try.f47.results.toList [.c .sc] [.c (.ro .int a0), .c (.ro .int b1)] kk
def kt0_laws_equalInts (kf : Kt) : Kt := blockK 0 (seqK (evF TT cs_laws_equalInts 26 an_laws_equalInts Try.f47 [1, 1, 1]) (kf))
theorem r0_laws_equalInts (a0 : List Int) (b1 : List Int) (kk : AV → List A1 → Prop) (n : Nat) (xi5 : Int) :
    iter (evF TT cs_laws_equalInts 26 an_laws_equalInts Try.f47 [1, 1, 0, 1, 0, 0]) nm0_laws_equalInts (kt0_laws_equalInts (fin_laws_equalInts a0 b1 kk)) (n + 1) (can0_laws_equalInts a0 b1 xi5) = T0_laws_equalInts a0 b1 xi5 (fun r0 => kk (.one (.c (.v (.bool r0)))) []) (fun xi5 => iter (evF TT cs_laws_equalInts 26 an_laws_equalInts Try.f47 [1, 1, 0, 1, 0, 0]) nm0_laws_equalInts (kt0_laws_equalInts (fin_laws_equalInts a0 b1 kk)) n (can0_laws_equalInts a0 b1 xi5)) := by kernel_rfl
theorem l0_laws_equalInts (a0 : List Int) (b1 : List Int) (kk : AV → List A1 → Prop) : ∀ (n : Nat) (xi5 : Int), iter (evF TT cs_laws_equalInts 26 an_laws_equalInts Try.f47 [1, 1, 0, 1, 0, 0]) nm0_laws_equalInts (kt0_laws_equalInts (fin_laws_equalInts a0 b1 kk)) n (can0_laws_equalInts a0 b1 xi5) = L0_laws_equalInts a0 b1 (fun r0 => kk (.one (.c (.v (.bool r0)))) []) n xi5 := by
  intro n
  induction n with
  | zero => intros; rfl
  | succ n ih =>
    intro xi5
    rw [r0_laws_equalInts a0 b1 kk n xi5]
    have hb : (fun xi5 => iter (evF TT cs_laws_equalInts 26 an_laws_equalInts Try.f47 [1, 1, 0, 1, 0, 0]) nm0_laws_equalInts (kt0_laws_equalInts (fin_laws_equalInts a0 b1 kk)) n (can0_laws_equalInts a0 b1 xi5)) = L0_laws_equalInts a0 b1 (fun r0 => kk (.one (.c (.v (.bool r0)))) []) n := by
      funext xi5; exact ih xi5
    rw [hb]
    rfl
theorem g_laws_equalInts (a0 : List Int) (b1 : List Int) (kk : AV → List A1 → Prop) :
    ev TT cs_laws_equalInts 26 an_laws_equalInts (Try.f47.body.getD .skip) (st0 con_laws_equalInts [.c (.ro .int a0), .c (.ro .int b1)]) (fin TT con_laws_equalInts Try.f47.results.toList [.c .sc] [.c (.ro .int a0), .c (.ro .int b1)] kk) = G_laws_equalInts a0 b1 (fun r0 => kk (.one (.c (.v (.bool r0)))) []) (fun a0 b1 xi5 => ∃ j, iter (evF TT cs_laws_equalInts 26 an_laws_equalInts Try.f47 [1, 1, 0, 1, 0, 0]) nm0_laws_equalInts (kt0_laws_equalInts (fin_laws_equalInts a0 b1 kk)) j (can0_laws_equalInts a0 b1 xi5)) := by kernel_rfl
theorem e_laws_equalInts (a0 : List Int) (b1 : List Int) (kk : AV → List A1 → Prop) :
    ev TT cs_laws_equalInts 26 an_laws_equalInts (Try.f47.body.getD .skip) (st0 con_laws_equalInts [.c (.ro .int a0), .c (.ro .int b1)]) (fin TT con_laws_equalInts Try.f47.results.toList [.c .sc] [.c (.ro .int a0), .c (.ro .int b1)] kk) = S_laws_equalInts a0 b1 (fun r0 => kk (.one (.c (.v (.bool r0)))) []) := by
  rw [g_laws_equalInts]
  have hi0 : (fun a0 b1 xi5 => ∃ j, iter (evF TT cs_laws_equalInts 26 an_laws_equalInts Try.f47 [1, 1, 0, 1, 0, 0]) nm0_laws_equalInts (kt0_laws_equalInts (fin_laws_equalInts a0 b1 kk)) j (can0_laws_equalInts a0 b1 xi5)) = (fun a0 b1 xi5 => ∃ j, L0_laws_equalInts a0 b1 (fun r0 => kk (.one (.c (.v (.bool r0)))) []) j xi5) := by
    funext a0 b1 xi5
    refine congrArg Exists (funext fun j => ?_)
    rw [l0_laws_equalInts a0 b1 kk j xi5]
  rw [hi0]
  rfl
theorem clok_laws_equalInts : ConOK Try.prog cl_laws_equalInts := consNil
theorem cok_laws_equalInts : ConsOK Try.prog 26 cs_laws_equalInts := ⟨clok_laws_equalInts, inlNil, ovNil⟩
theorem i_laws_equalInts {vs : List A1} {kk : AV → List A1 → Prop} {motive : List A1 → Prop} (h : con_laws_equalInts.F vs kk) (H : ∀ (a0 : List Int) (b1 : List Int), F_laws_equalInts a0 b1 (fun r0 => kk (.one (.c (.v (.bool r0)))) []) → motive [.c (.ro .int a0), .c (.ro .int b1)]) : motive vs := by
  unfold con_laws_equalInts at h
  dsimp only at h
  split at h
  · exact H _ _ h
  · exact h.elim
theorem h_laws_equalInts : Holds Try.prog 47 con_laws_equalInts := by
  refine holds_of_ev (rt := [.c .sc]) (T := TT) (Γ := cs_laws_equalInts) (an := an_laws_equalInts) (N := 26) (c := Try.f47.body.getD .skip) Try.func47 (by kernel_rfl) Try.ntmps47 (by decide) (by decide) mixed tabOK cok_laws_equalInts (by kernel_rfl) ?_
  intro vs kk _ hF
  exact i_laws_equalInts (motive := fun vs => Goes (ev TT cs_laws_equalInts 26 an_laws_equalInts (Try.f47.body.getD .skip) (st0 con_laws_equalInts vs) (fin TT con_laws_equalInts Try.f47.results.toList [.c .sc] vs kk))) hF (fun a0 b1 hF => goes_of (e_laws_equalInts a0 b1 kk) (F_laws_equalInts_S hF))
def con_laws_equalAdaptive : Con := ⟨[.rd, .rd], true, [.agg [.sc, .sc, .sl .int, .sl .int, .sl .int, .sl .int], .agg [.sc, .sc, .sl .int, .sl .int, .sl .int, .sl .int]], fun vs k => match vs with
    | [.agg [.v (.int .i64 a0Room), .v (.int .i64 a0Target), .ro .int a0Once, .ro .int a0Often, .ro .int a0WasOnce, .ro .int a0WasOften], .agg [.v (.int .i64 b1Room), .v (.int .i64 b1Target), .ro .int b1Once, .ro .int b1Often, .ro .int b1WasOnce, .ro .int b1WasOften]] => F_laws_equalAdaptive a0Room a0Target a0Once a0Often a0WasOnce a0WasOften b1Room b1Target b1Once b1Often b1WasOnce b1WasOften (fun r0 => k (.one (.c (.v (.bool r0)))) [])
    | _ => False, false⟩
def cl_laws_equalAdaptive : List (FuncId × Con) := [(47, con_laws_equalInts)]
def an_laws_equalAdaptive : Ann := ⟨[], [], [], []⟩
def cs_laws_equalAdaptive : Cons := ⟨cl_laws_equalAdaptive, [], 0, [], [], []⟩
def fin_laws_equalAdaptive (a0Room : Int) (a0Target : Int) (a0Once : List Int) (a0Often : List Int) (a0WasOnce : List Int) (a0WasOften : List Int) (b1Room : Int) (b1Target : Int) (b1Once : List Int) (b1Often : List Int) (b1WasOnce : List Int) (b1WasOften : List Int) (kk : AV → List A1 → Prop) : Kt := fin TT con_laws_equalAdaptive Try.f16.results.toList [.c .sc] [.agg [.v (.int .i64 a0Room), .v (.int .i64 a0Target), .ro .int a0Once, .ro .int a0Often, .ro .int a0WasOnce, .ro .int a0WasOften], .agg [.v (.int .i64 b1Room), .v (.int .i64 b1Target), .ro .int b1Once, .ro .int b1Often, .ro .int b1WasOnce, .ro .int b1WasOften]] kk
theorem g_laws_equalAdaptive (a0Room : Int) (a0Target : Int) (a0Once : List Int) (a0Often : List Int) (a0WasOnce : List Int) (a0WasOften : List Int) (b1Room : Int) (b1Target : Int) (b1Once : List Int) (b1Often : List Int) (b1WasOnce : List Int) (b1WasOften : List Int) (kk : AV → List A1 → Prop) :
    ev TT cs_laws_equalAdaptive 45 an_laws_equalAdaptive (Try.f16.body.getD .skip) (st0 con_laws_equalAdaptive [.agg [.v (.int .i64 a0Room), .v (.int .i64 a0Target), .ro .int a0Once, .ro .int a0Often, .ro .int a0WasOnce, .ro .int a0WasOften], .agg [.v (.int .i64 b1Room), .v (.int .i64 b1Target), .ro .int b1Once, .ro .int b1Often, .ro .int b1WasOnce, .ro .int b1WasOften]]) (fin TT con_laws_equalAdaptive Try.f16.results.toList [.c .sc] [.agg [.v (.int .i64 a0Room), .v (.int .i64 a0Target), .ro .int a0Once, .ro .int a0Often, .ro .int a0WasOnce, .ro .int a0WasOften], .agg [.v (.int .i64 b1Room), .v (.int .i64 b1Target), .ro .int b1Once, .ro .int b1Often, .ro .int b1WasOnce, .ro .int b1WasOften]] kk) = G_laws_equalAdaptive a0Room a0Target a0Once a0Often a0WasOnce a0WasOften b1Room b1Target b1Once b1Often b1WasOnce b1WasOften (fun r0 => kk (.one (.c (.v (.bool r0)))) []) := by kernel_rfl
theorem e_laws_equalAdaptive (a0Room : Int) (a0Target : Int) (a0Once : List Int) (a0Often : List Int) (a0WasOnce : List Int) (a0WasOften : List Int) (b1Room : Int) (b1Target : Int) (b1Once : List Int) (b1Often : List Int) (b1WasOnce : List Int) (b1WasOften : List Int) (kk : AV → List A1 → Prop) :
    ev TT cs_laws_equalAdaptive 45 an_laws_equalAdaptive (Try.f16.body.getD .skip) (st0 con_laws_equalAdaptive [.agg [.v (.int .i64 a0Room), .v (.int .i64 a0Target), .ro .int a0Once, .ro .int a0Often, .ro .int a0WasOnce, .ro .int a0WasOften], .agg [.v (.int .i64 b1Room), .v (.int .i64 b1Target), .ro .int b1Once, .ro .int b1Often, .ro .int b1WasOnce, .ro .int b1WasOften]]) (fin TT con_laws_equalAdaptive Try.f16.results.toList [.c .sc] [.agg [.v (.int .i64 a0Room), .v (.int .i64 a0Target), .ro .int a0Once, .ro .int a0Often, .ro .int a0WasOnce, .ro .int a0WasOften], .agg [.v (.int .i64 b1Room), .v (.int .i64 b1Target), .ro .int b1Once, .ro .int b1Often, .ro .int b1WasOnce, .ro .int b1WasOften]] kk) = S_laws_equalAdaptive a0Room a0Target a0Once a0Often a0WasOnce a0WasOften b1Room b1Target b1Once b1Often b1WasOnce b1WasOften (fun r0 => kk (.one (.c (.v (.bool r0)))) []) := by
  rw [g_laws_equalAdaptive]
  rfl
theorem clok_laws_equalAdaptive : ConOK Try.prog cl_laws_equalAdaptive := consCons h_laws_equalInts ⟨Try.f47, Try.func47, by kernel_rfl, ne_of_beq (by kernel_rfl)⟩ (consNil)
theorem cok_laws_equalAdaptive : ConsOK Try.prog 45 cs_laws_equalAdaptive := ⟨clok_laws_equalAdaptive, inlNil, ovNil⟩
theorem i_laws_equalAdaptive {vs : List A1} {kk : AV → List A1 → Prop} {motive : List A1 → Prop} (h : con_laws_equalAdaptive.F vs kk) (H : ∀ (a0Room : Int) (a0Target : Int) (a0Once : List Int) (a0Often : List Int) (a0WasOnce : List Int) (a0WasOften : List Int) (b1Room : Int) (b1Target : Int) (b1Once : List Int) (b1Often : List Int) (b1WasOnce : List Int) (b1WasOften : List Int), F_laws_equalAdaptive a0Room a0Target a0Once a0Often a0WasOnce a0WasOften b1Room b1Target b1Once b1Often b1WasOnce b1WasOften (fun r0 => kk (.one (.c (.v (.bool r0)))) []) → motive [.agg [.v (.int .i64 a0Room), .v (.int .i64 a0Target), .ro .int a0Once, .ro .int a0Often, .ro .int a0WasOnce, .ro .int a0WasOften], .agg [.v (.int .i64 b1Room), .v (.int .i64 b1Target), .ro .int b1Once, .ro .int b1Often, .ro .int b1WasOnce, .ro .int b1WasOften]]) : motive vs := by
  unfold con_laws_equalAdaptive at h
  dsimp only at h
  split at h
  · exact H _ _ _ _ _ _ _ _ _ _ _ _ h
  · exact h.elim
theorem h_laws_equalAdaptive : Holds Try.prog 16 con_laws_equalAdaptive := by
  refine holds_of_ev (rt := [.c .sc]) (T := TT) (Γ := cs_laws_equalAdaptive) (an := an_laws_equalAdaptive) (N := 45) (c := Try.f16.body.getD .skip) Try.func16 (by kernel_rfl) Try.ntmps16 (by decide) (by decide) mixed tabOK cok_laws_equalAdaptive (by kernel_rfl) ?_
  intro vs kk _ hF
  exact i_laws_equalAdaptive (motive := fun vs => Goes (ev TT cs_laws_equalAdaptive 45 an_laws_equalAdaptive (Try.f16.body.getD .skip) (st0 con_laws_equalAdaptive vs) (fin TT con_laws_equalAdaptive Try.f16.results.toList [.c .sc] vs kk))) hF (fun a0Room a0Target a0Once a0Often a0WasOnce a0WasOften b1Room b1Target b1Once b1Often b1WasOnce b1WasOften hF => goes_of (e_laws_equalAdaptive a0Room a0Target a0Once a0Often a0WasOnce a0WasOften b1Room b1Target b1Once b1Often b1WasOnce b1WasOften kk) (F_laws_equalAdaptive_S hF))
def con_laws_FnUseListsTwice : Con := ⟨[.rd], true, [.c (.sl .u8)], fun vs k => match vs with
    | [.c (.ro .u8 code0)] => F_laws_FnUseListsTwice code0 (fun r0 => k (.one (.c (.v (.bool r0)))) [])
    | _ => False, false⟩
def cl_laws_FnUseListsTwice : List (FuncId × Con) := [(13, con_spec_DrawUseLists), (14, con_impl_UseLists), (15, con_spec_UseLists), (16, con_laws_equalAdaptive)]
def an_laws_FnUseListsTwice : Ann := ⟨[], [], [], []⟩
def cs_laws_FnUseListsTwice : Cons := ⟨cl_laws_FnUseListsTwice, [], 0, [], [], []⟩
def fin_laws_FnUseListsTwice (code0 : List Int) (kk : AV → List A1 → Prop) : Kt := fin TT con_laws_FnUseListsTwice Try.f8.results.toList [.c .sc] [.c (.ro .u8 code0)] kk
theorem g_laws_FnUseListsTwice (code0 : List Int) (kk : AV → List A1 → Prop) :
    ev TT cs_laws_FnUseListsTwice 81 an_laws_FnUseListsTwice (Try.f8.body.getD .skip) (st0 con_laws_FnUseListsTwice [.c (.ro .u8 code0)]) (fin TT con_laws_FnUseListsTwice Try.f8.results.toList [.c .sc] [.c (.ro .u8 code0)] kk) = G_laws_FnUseListsTwice code0 (fun r0 => kk (.one (.c (.v (.bool r0)))) []) := by kernel_rfl
theorem e_laws_FnUseListsTwice (code0 : List Int) (kk : AV → List A1 → Prop) :
    ev TT cs_laws_FnUseListsTwice 81 an_laws_FnUseListsTwice (Try.f8.body.getD .skip) (st0 con_laws_FnUseListsTwice [.c (.ro .u8 code0)]) (fin TT con_laws_FnUseListsTwice Try.f8.results.toList [.c .sc] [.c (.ro .u8 code0)] kk) = S_laws_FnUseListsTwice code0 (fun r0 => kk (.one (.c (.v (.bool r0)))) []) := by
  rw [g_laws_FnUseListsTwice]
  rfl
theorem clok_laws_FnUseListsTwice : ConOK Try.prog cl_laws_FnUseListsTwice := consCons h_spec_DrawUseLists ⟨Try.f13, Try.func13, by kernel_rfl, ne_of_beq (by kernel_rfl)⟩ (consCons h_impl_UseLists ⟨Try.f14, Try.func14, by kernel_rfl, ne_of_beq (by kernel_rfl)⟩ (consCons h_spec_UseLists ⟨Try.f15, Try.func15, by kernel_rfl, ne_of_beq (by kernel_rfl)⟩ (consCons h_laws_equalAdaptive ⟨Try.f16, Try.func16, by kernel_rfl, ne_of_beq (by kernel_rfl)⟩ (consNil))))
theorem cok_laws_FnUseListsTwice : ConsOK Try.prog 81 cs_laws_FnUseListsTwice := ⟨clok_laws_FnUseListsTwice, inlNil, ovNil⟩
theorem i_laws_FnUseListsTwice {vs : List A1} {kk : AV → List A1 → Prop} {motive : List A1 → Prop} (h : con_laws_FnUseListsTwice.F vs kk) (H : ∀ (code0 : List Int), F_laws_FnUseListsTwice code0 (fun r0 => kk (.one (.c (.v (.bool r0)))) []) → motive [.c (.ro .u8 code0)]) : motive vs := by
  unfold con_laws_FnUseListsTwice at h
  dsimp only at h
  split at h
  · exact H _ h
  · exact h.elim
theorem h_laws_FnUseListsTwice : Holds Try.prog 8 con_laws_FnUseListsTwice := by
  refine holds_of_ev (rt := [.c .sc]) (T := TT) (Γ := cs_laws_FnUseListsTwice) (an := an_laws_FnUseListsTwice) (N := 81) (c := Try.f8.body.getD .skip) Try.func8 (by kernel_rfl) Try.ntmps8 (by decide) (by decide) mixed tabOK cok_laws_FnUseListsTwice (by kernel_rfl) ?_
  intro vs kk _ hF
  exact i_laws_FnUseListsTwice (motive := fun vs => Goes (ev TT cs_laws_FnUseListsTwice 81 an_laws_FnUseListsTwice (Try.f8.body.getD .skip) (st0 con_laws_FnUseListsTwice vs) (fin TT con_laws_FnUseListsTwice Try.f8.results.toList [.c .sc] vs kk))) hF (fun code0 hF => goes_of (e_laws_FnUseListsTwice code0 kk) (F_laws_FnUseListsTwice_S hF))
end Go.Ev
