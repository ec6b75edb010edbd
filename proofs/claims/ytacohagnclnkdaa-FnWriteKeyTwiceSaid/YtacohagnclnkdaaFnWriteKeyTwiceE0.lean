/- What the evaluator gives for these functions: their contracts. No statement is proved here. -/
import Derived.Test.YtacohagnclnkdaaFnWriteKeyTwiceP0
import Derived.Test.YtacohagnclnkdaaTt
namespace Go.Ev
set_option linter.unusedVariables false
set_option linter.unusedSimpArgs false
set_option maxRecDepth 100000
open Go Go.Proofs
def con_spec_newReader : Con := ⟨[.rd], true, [.c (.sl .u8)], fun vs k => match vs with
    | [.c (.ro .u8 code0)] => F_spec_newReader code0 (fun r0 r1 => k (.one (.agg [.ro .u8 r0, .v (.int .i64 r1)])) [])
    | _ => False, true⟩
def cl_spec_newReader : List (FuncId × Con) := []
def an_spec_newReader : Ann := ⟨[], [], [], []⟩
def cs_spec_newReader : Cons := ⟨cl_spec_newReader, [], 0, [], [], []⟩
def fin_spec_newReader (code0 : List Int) (kk : AV → List A1 → Prop) : Kt := finB Try.f35.results.toList [.sl .u8, .sc] kk
theorem g_spec_newReader (code0 : List Int) (kk : AV → List A1 → Prop) :
    ev TT cs_spec_newReader 11 an_spec_newReader (Try.f35.body.getD .skip) (st0 con_spec_newReader [.c (.ro .u8 code0)]) (finB Try.f35.results.toList [.sl .u8, .sc] kk) = G_spec_newReader code0 (fun r0 r1 => kk (.one (.agg [.ro .u8 r0, .v (.int .i64 r1)])) []) := by kernel_rfl
theorem e_spec_newReader (code0 : List Int) (kk : AV → List A1 → Prop) :
    ev TT cs_spec_newReader 11 an_spec_newReader (Try.f35.body.getD .skip) (st0 con_spec_newReader [.c (.ro .u8 code0)]) (finB Try.f35.results.toList [.sl .u8, .sc] kk) = S_spec_newReader code0 (fun r0 r1 => kk (.one (.agg [.ro .u8 r0, .v (.int .i64 r1)])) []) := by
  rw [g_spec_newReader]
  rfl
theorem clok_spec_newReader : ConOK Try.prog cl_spec_newReader := consNil
theorem cok_spec_newReader : ConsOK Try.prog 11 cs_spec_newReader := ⟨clok_spec_newReader, inlNil, ovNil⟩
theorem i_spec_newReader {vs : List A1} {kk : AV → List A1 → Prop} {motive : List A1 → Prop} (h : con_spec_newReader.F vs kk) (H : ∀ (code0 : List Int), F_spec_newReader code0 (fun r0 r1 => kk (.one (.agg [.ro .u8 r0, .v (.int .i64 r1)])) []) → motive [.c (.ro .u8 code0)]) : motive vs := by
  unfold con_spec_newReader at h
  dsimp only at h
  split at h
  · exact H _ h
  · exact h.elim
theorem h_spec_newReader : HoldsB Try.prog 35 con_spec_newReader := by
  refine holdsB_of_ev (ts := [.sl .u8, .sc]) (T := TT) (Γ := cs_spec_newReader) (an := an_spec_newReader) (N := 11) (c := Try.f35.body.getD .skip) Try.func35 (by kernel_rfl) Try.ntmps35 (by decide) (by decide) mixed tabOK cok_spec_newReader (by kernel_rfl) ?_
  intro vs kk _ hF
  exact i_spec_newReader (motive := fun vs => Goes (ev TT cs_spec_newReader 11 an_spec_newReader (Try.f35.body.getD .skip) (st0 con_spec_newReader vs) (finB Try.f35.results.toList [.sl .u8, .sc] kk))) hF (fun code0 hF => goes_of (e_spec_newReader code0 kk) (F_spec_newReader_S hF))
def con_spec_reader_pick : Con := ⟨[.mu, .rd], true, [.ptr [.sl .u8, .sc], .c (.sc)], fun vs k => match vs with
    | [.ptr [.ro .u8 r0b, .v (.int .i64 r0p)], .c (.v (.int .i64 n1))] => F_spec_reader_pick r0b r0p n1 (fun r0 r1 r2 => k (.one (.c (.v (.int .i64 r0)))) [.ptr [.ro .u8 r1, .v (.int .i64 r2)]])
    | _ => False, false⟩
def cl_spec_reader_pick : List (FuncId × Con) := []
def an_spec_reader_pick : Ann := ⟨[(7, .take 0 (.take 1 (.take 2 (.take 3 (.take 4 (.take 5 (.take 6 (.take 7 (.take 8 (.take 9 (.take 10 (.take 11 (.take 12 (.take 13 (.take 14 (.take 15 (.take 16 (.take 17 (.take 18 (.take 19 (.take 20 (.take 21 (.take 22 (.take 23 (.take 24 (.take 25 (.take 26 (.take 27 (.take 28 (.take 29 (.take 30 (.take 31 (.take 32 (.take 33 (.take 34 (.take 35 (.take 36 (.take 37 (.take 38 (.take 39 (.take 40 (.take 41 (.take 42 (.take 43 (.take 44 (.take 45 (.done)))))))))))))))))))))))))))))))))))))))))))))), [100000])], [], [], []⟩
def cs_spec_reader_pick : Cons := ⟨cl_spec_reader_pick, [], 0, [], [], []⟩
def fin_spec_reader_pick (r0b : List Int) (r0p : Int) (n1 : Int) (kk : AV → List A1 → Prop) : Kt := fin TT con_spec_reader_pick Try.f52.results.toList [.c .sc] [.ptr [.ro .u8 r0b, .v (.int .i64 r0p)], .c (.v (.int .i64 n1))] kk
theorem g_spec_reader_pick (r0b : List Int) (r0p : Int) (n1 : Int) (kk : AV → List A1 → Prop) :
    ev TT cs_spec_reader_pick 99 an_spec_reader_pick (Try.f52.body.getD .skip) (st0 con_spec_reader_pick [.ptr [.ro .u8 r0b, .v (.int .i64 r0p)], .c (.v (.int .i64 n1))]) (fin TT con_spec_reader_pick Try.f52.results.toList [.c .sc] [.ptr [.ro .u8 r0b, .v (.int .i64 r0p)], .c (.v (.int .i64 n1))] kk) = G_spec_reader_pick r0b r0p n1 (fun r0 r1 r2 => kk (.one (.c (.v (.int .i64 r0)))) [.ptr [.ro .u8 r1, .v (.int .i64 r2)]]) := by kernel_rfl
theorem e_spec_reader_pick (r0b : List Int) (r0p : Int) (n1 : Int) (kk : AV → List A1 → Prop) :
    ev TT cs_spec_reader_pick 99 an_spec_reader_pick (Try.f52.body.getD .skip) (st0 con_spec_reader_pick [.ptr [.ro .u8 r0b, .v (.int .i64 r0p)], .c (.v (.int .i64 n1))]) (fin TT con_spec_reader_pick Try.f52.results.toList [.c .sc] [.ptr [.ro .u8 r0b, .v (.int .i64 r0p)], .c (.v (.int .i64 n1))] kk) = S_spec_reader_pick r0b r0p n1 (fun r0 r1 r2 => kk (.one (.c (.v (.int .i64 r0)))) [.ptr [.ro .u8 r1, .v (.int .i64 r2)]]) := by
  rw [g_spec_reader_pick]
  rfl
theorem clok_spec_reader_pick : ConOK Try.prog cl_spec_reader_pick := consNil
theorem cok_spec_reader_pick : ConsOK Try.prog 99 cs_spec_reader_pick := ⟨clok_spec_reader_pick, inlNil, ovNil⟩
theorem i_spec_reader_pick {vs : List A1} {kk : AV → List A1 → Prop} {motive : List A1 → Prop} (h : con_spec_reader_pick.F vs kk) (H : ∀ (r0b : List Int) (r0p : Int) (n1 : Int), F_spec_reader_pick r0b r0p n1 (fun r0 r1 r2 => kk (.one (.c (.v (.int .i64 r0)))) [.ptr [.ro .u8 r1, .v (.int .i64 r2)]]) → motive [.ptr [.ro .u8 r0b, .v (.int .i64 r0p)], .c (.v (.int .i64 n1))]) : motive vs := by
  unfold con_spec_reader_pick at h
  dsimp only at h
  split at h
  · exact H _ _ _ h
  · exact h.elim
theorem h_spec_reader_pick : Holds Try.prog 52 con_spec_reader_pick := by
  refine holds_of_ev (rt := [.c .sc]) (T := TT) (Γ := cs_spec_reader_pick) (an := an_spec_reader_pick) (N := 99) (c := Try.f52.body.getD .skip) Try.func52 (by kernel_rfl) Try.ntmps52 (by decide) (by decide) mixed tabOK cok_spec_reader_pick (by kernel_rfl) ?_
  intro vs kk _ hF
  exact i_spec_reader_pick (motive := fun vs => Goes (ev TT cs_spec_reader_pick 99 an_spec_reader_pick (Try.f52.body.getD .skip) (st0 con_spec_reader_pick vs) (fin TT con_spec_reader_pick Try.f52.results.toList [.c .sc] vs kk))) hF (fun r0b r0p n1 hF => goes_of (e_spec_reader_pick r0b r0p n1 kk) (F_spec_reader_pick_S hF))
def con_spec_reader_one : Con := ⟨[.mu, .rd], true, [.ptr [.sl .u8, .sc], .c (.sl .int)], fun vs k => match vs with
    | [.ptr [.ro .u8 r0b, .v (.int .i64 r0p)], .c (.ro .int list1)] => F_spec_reader_one r0b r0p list1 (fun r0 r1 r2 => k (.one (.c (.v (.int .i64 r0)))) [.ptr [.ro .u8 r1, .v (.int .i64 r2)]])
    | _ => False, false⟩
def cl_spec_reader_one : List (FuncId × Con) := [(52, con_spec_reader_pick)]
def an_spec_reader_one : Ann := ⟨[], [], [], []⟩
def cs_spec_reader_one : Cons := ⟨cl_spec_reader_one, [], 0, [], [], []⟩
def fin_spec_reader_one (r0b : List Int) (r0p : Int) (list1 : List Int) (kk : AV → List A1 → Prop) : Kt := fin TT con_spec_reader_one Try.f49.results.toList [.c .sc] [.ptr [.ro .u8 r0b, .v (.int .i64 r0p)], .c (.ro .int list1)] kk
theorem g_spec_reader_one (r0b : List Int) (r0p : Int) (list1 : List Int) (kk : AV → List A1 → Prop) :
    ev TT cs_spec_reader_one 12 an_spec_reader_one (Try.f49.body.getD .skip) (st0 con_spec_reader_one [.ptr [.ro .u8 r0b, .v (.int .i64 r0p)], .c (.ro .int list1)]) (fin TT con_spec_reader_one Try.f49.results.toList [.c .sc] [.ptr [.ro .u8 r0b, .v (.int .i64 r0p)], .c (.ro .int list1)] kk) = G_spec_reader_one r0b r0p list1 (fun r0 r1 r2 => kk (.one (.c (.v (.int .i64 r0)))) [.ptr [.ro .u8 r1, .v (.int .i64 r2)]]) := by kernel_rfl
theorem e_spec_reader_one (r0b : List Int) (r0p : Int) (list1 : List Int) (kk : AV → List A1 → Prop) :
    ev TT cs_spec_reader_one 12 an_spec_reader_one (Try.f49.body.getD .skip) (st0 con_spec_reader_one [.ptr [.ro .u8 r0b, .v (.int .i64 r0p)], .c (.ro .int list1)]) (fin TT con_spec_reader_one Try.f49.results.toList [.c .sc] [.ptr [.ro .u8 r0b, .v (.int .i64 r0p)], .c (.ro .int list1)] kk) = S_spec_reader_one r0b r0p list1 (fun r0 r1 r2 => kk (.one (.c (.v (.int .i64 r0)))) [.ptr [.ro .u8 r1, .v (.int .i64 r2)]]) := by
  rw [g_spec_reader_one]
  rfl
theorem clok_spec_reader_one : ConOK Try.prog cl_spec_reader_one := consCons h_spec_reader_pick ⟨Try.f52, Try.func52, by kernel_rfl, ne_of_beq (by kernel_rfl)⟩ (consNil)
theorem cok_spec_reader_one : ConsOK Try.prog 12 cs_spec_reader_one := ⟨clok_spec_reader_one, inlNil, ovNil⟩
theorem i_spec_reader_one {vs : List A1} {kk : AV → List A1 → Prop} {motive : List A1 → Prop} (h : con_spec_reader_one.F vs kk) (H : ∀ (r0b : List Int) (r0p : Int) (list1 : List Int), F_spec_reader_one r0b r0p list1 (fun r0 r1 r2 => kk (.one (.c (.v (.int .i64 r0)))) [.ptr [.ro .u8 r1, .v (.int .i64 r2)]]) → motive [.ptr [.ro .u8 r0b, .v (.int .i64 r0p)], .c (.ro .int list1)]) : motive vs := by
  unfold con_spec_reader_one at h
  dsimp only at h
  split at h
  · exact H _ _ _ h
  · exact h.elim
theorem h_spec_reader_one : Holds Try.prog 49 con_spec_reader_one := by
  refine holds_of_ev (rt := [.c .sc]) (T := TT) (Γ := cs_spec_reader_one) (an := an_spec_reader_one) (N := 12) (c := Try.f49.body.getD .skip) Try.func49 (by kernel_rfl) Try.ntmps49 (by decide) (by decide) mixed tabOK cok_spec_reader_one (by kernel_rfl) ?_
  intro vs kk _ hF
  exact i_spec_reader_one (motive := fun vs => Goes (ev TT cs_spec_reader_one 12 an_spec_reader_one (Try.f49.body.getD .skip) (st0 con_spec_reader_one vs) (fin TT con_spec_reader_one Try.f49.results.toList [.c .sc] vs kk))) hF (fun r0b r0p list1 hF => goes_of (e_spec_reader_one r0b r0p list1 kk) (F_spec_reader_one_S hF))
def con_spec_copyInts : Con := ⟨[.rd], true, [.c (.sl .int)], fun vs k => match vs with
    | [.c (.ro .int list0)] => F_spec_copyInts list0 (fun r0 => k (.one (.c (.ro .int r0))) [])
    | _ => False, false⟩
def cl_spec_copyInts : List (FuncId × Con) := []
def an_spec_copyInts : Ann := ⟨[], [], [], []⟩
def cs_spec_copyInts : Cons := ⟨cl_spec_copyInts, [], 0, [], [], []⟩
def fin_spec_copyInts (list0 : List Int) (kk : AV → List A1 → Prop) : Kt := fin TT con_spec_copyInts Try.f59.results.toList [.c (.sl .int)] [.c (.ro .int list0)] kk
theorem g_spec_copyInts (list0 : List Int) (kk : AV → List A1 → Prop) :
    ev TT cs_spec_copyInts 6 an_spec_copyInts (Try.f59.body.getD .skip) (st0 con_spec_copyInts [.c (.ro .int list0)]) (fin TT con_spec_copyInts Try.f59.results.toList [.c (.sl .int)] [.c (.ro .int list0)] kk) = G_spec_copyInts list0 (fun r0 => kk (.one (.c (.ro .int r0))) []) := by kernel_rfl
theorem e_spec_copyInts (list0 : List Int) (kk : AV → List A1 → Prop) :
    ev TT cs_spec_copyInts 6 an_spec_copyInts (Try.f59.body.getD .skip) (st0 con_spec_copyInts [.c (.ro .int list0)]) (fin TT con_spec_copyInts Try.f59.results.toList [.c (.sl .int)] [.c (.ro .int list0)] kk) = S_spec_copyInts list0 (fun r0 => kk (.one (.c (.ro .int r0))) []) := by
  rw [g_spec_copyInts]
  rfl
theorem clok_spec_copyInts : ConOK Try.prog cl_spec_copyInts := consNil
theorem cok_spec_copyInts : ConsOK Try.prog 6 cs_spec_copyInts := ⟨clok_spec_copyInts, inlNil, ovNil⟩
theorem i_spec_copyInts {vs : List A1} {kk : AV → List A1 → Prop} {motive : List A1 → Prop} (h : con_spec_copyInts.F vs kk) (H : ∀ (list0 : List Int), F_spec_copyInts list0 (fun r0 => kk (.one (.c (.ro .int r0))) []) → motive [.c (.ro .int list0)]) : motive vs := by
  unfold con_spec_copyInts at h
  dsimp only at h
  split at h
  · exact H _ h
  · exact h.elim
theorem h_spec_copyInts : Holds Try.prog 59 con_spec_copyInts := by
  refine holds_of_ev (rt := [.c (.sl .int)]) (T := TT) (Γ := cs_spec_copyInts) (an := an_spec_copyInts) (N := 6) (c := Try.f59.body.getD .skip) Try.func59 (by kernel_rfl) Try.ntmps59 (by decide) (by decide) mixed tabOK cok_spec_copyInts (by kernel_rfl) ?_
  intro vs kk _ hF
  exact i_spec_copyInts (motive := fun vs => Goes (ev TT cs_spec_copyInts 6 an_spec_copyInts (Try.f59.body.getD .skip) (st0 con_spec_copyInts vs) (fin TT con_spec_copyInts Try.f59.results.toList [.c (.sl .int)] vs kk))) hF (fun list0 hF => goes_of (e_spec_copyInts list0 kk) (F_spec_copyInts_S hF))
def con_spec_copyMemory : Con := ⟨[.rd], true, [.agg [.sl .int, .sl .iib, .sc]], fun vs k => match vs with
    | [.agg [.ro .int m0Store, .ro .iib m0Lines, .v (.int .i64 m0Room)]] => F_spec_copyMemory m0Store m0Lines m0Room (fun r0 r1 r2 => k (.one (.agg [.ro .int r0, .ro .iib r1, .v (.int .i64 r2)])) [])
    | _ => False, false⟩
def cl_spec_copyMemory : List (FuncId × Con) := [(59, con_spec_copyInts)]
def an_spec_copyMemory : Ann := ⟨[(1, .take 0 (.take 1 (.take 4 (.take 5 (.take 7 (.take 8 (.alt 2 (.alt 3 (.alt 6 (.take 9 (.alt 10 (.done) (.none))) (.none)) (.none)) (.alt 3 (.alt 2 (.alt 6 (.take 9 (.alt 10 (.done) (.none))) (.none)) (.none)) (.none)))))))), [16])], [], [], []⟩
def cs_spec_copyMemory : Cons := ⟨cl_spec_copyMemory, [], 0, [], [], []⟩
def fin_spec_copyMemory (m0Store : List Int) (m0Lines : List (Int × Int × Bool)) (m0Room : Int) (kk : AV → List A1 → Prop) : Kt := fin TT con_spec_copyMemory Try.f50.results.toList [.agg [.sl .int, .sl .iib, .sc]] [.agg [.ro .int m0Store, .ro .iib m0Lines, .v (.int .i64 m0Room)]] kk
theorem g_spec_copyMemory (m0Store : List Int) (m0Lines : List (Int × Int × Bool)) (m0Room : Int) (kk : AV → List A1 → Prop) :
    ev TT cs_spec_copyMemory 13 an_spec_copyMemory (Try.f50.body.getD .skip) (st0 con_spec_copyMemory [.agg [.ro .int m0Store, .ro .iib m0Lines, .v (.int .i64 m0Room)]]) (fin TT con_spec_copyMemory Try.f50.results.toList [.agg [.sl .int, .sl .iib, .sc]] [.agg [.ro .int m0Store, .ro .iib m0Lines, .v (.int .i64 m0Room)]] kk) = G_spec_copyMemory m0Store m0Lines m0Room (fun r0 r1 r2 => kk (.one (.agg [.ro .int r0, .ro .iib r1, .v (.int .i64 r2)])) []) := by kernel_rfl
theorem e_spec_copyMemory (m0Store : List Int) (m0Lines : List (Int × Int × Bool)) (m0Room : Int) (kk : AV → List A1 → Prop) :
    ev TT cs_spec_copyMemory 13 an_spec_copyMemory (Try.f50.body.getD .skip) (st0 con_spec_copyMemory [.agg [.ro .int m0Store, .ro .iib m0Lines, .v (.int .i64 m0Room)]]) (fin TT con_spec_copyMemory Try.f50.results.toList [.agg [.sl .int, .sl .iib, .sc]] [.agg [.ro .int m0Store, .ro .iib m0Lines, .v (.int .i64 m0Room)]] kk) = S_spec_copyMemory m0Store m0Lines m0Room (fun r0 r1 r2 => kk (.one (.agg [.ro .int r0, .ro .iib r1, .v (.int .i64 r2)])) []) := by
  rw [g_spec_copyMemory]
  rw [G_spec_copyMemory_eq]
  rfl
theorem clok_spec_copyMemory : ConOK Try.prog cl_spec_copyMemory := consCons h_spec_copyInts ⟨Try.f59, Try.func59, by kernel_rfl, ne_of_beq (by kernel_rfl)⟩ (consNil)
theorem cok_spec_copyMemory : ConsOK Try.prog 13 cs_spec_copyMemory := ⟨clok_spec_copyMemory, inlNil, ovNil⟩
theorem i_spec_copyMemory {vs : List A1} {kk : AV → List A1 → Prop} {motive : List A1 → Prop} (h : con_spec_copyMemory.F vs kk) (H : ∀ (m0Store : List Int) (m0Lines : List (Int × Int × Bool)) (m0Room : Int), F_spec_copyMemory m0Store m0Lines m0Room (fun r0 r1 r2 => kk (.one (.agg [.ro .int r0, .ro .iib r1, .v (.int .i64 r2)])) []) → motive [.agg [.ro .int m0Store, .ro .iib m0Lines, .v (.int .i64 m0Room)]]) : motive vs := by
  unfold con_spec_copyMemory at h
  dsimp only at h
  split at h
  · exact H _ _ _ h
  · exact h.elim
theorem h_spec_copyMemory : Holds Try.prog 50 con_spec_copyMemory := by
  refine holds_of_ev (rt := [.agg [.sl .int, .sl .iib, .sc]]) (T := TT) (Γ := cs_spec_copyMemory) (an := an_spec_copyMemory) (N := 13) (c := Try.f50.body.getD .skip) Try.func50 (by kernel_rfl) Try.ntmps50 (by decide) (by decide) mixed tabOK cok_spec_copyMemory (by kernel_rfl) ?_
  intro vs kk _ hF
  exact i_spec_copyMemory (motive := fun vs => Goes (ev TT cs_spec_copyMemory 13 an_spec_copyMemory (Try.f50.body.getD .skip) (st0 con_spec_copyMemory vs) (fin TT con_spec_copyMemory Try.f50.results.toList [.agg [.sl .int, .sl .iib, .sc]] vs kk))) hF (fun m0Store m0Lines m0Room hF => goes_of (e_spec_copyMemory m0Store m0Lines m0Room kk) (F_spec_copyMemory_S hF))
def con_spec_lineAt : Con := ⟨[.rd, .rd], true, [.agg [.sl .int, .sl .iib, .sc], .c (.sc)], fun vs k => match vs with
    | [.agg [.ro .int m0Store, .ro .iib m0Lines, .v (.int .i64 m0Room)], .c (.v (.int .i64 key1))] => F_spec_lineAt m0Store m0Lines m0Room key1 (fun r0 => k (.one (.c (.v (.int .i64 r0)))) [])
    | _ => False, false⟩
def cl_spec_lineAt : List (FuncId × Con) := []
def nm0_spec_lineAt : List NStep := [.keep [1, 2, 5] [32]]
def an_spec_lineAt : Ann := ⟨[], [(2, nm0_spec_lineAt)], [], []⟩
def cs_spec_lineAt : Cons := ⟨cl_spec_lineAt, [], 0, [], [], []⟩
def can0_spec_lineAt (key1 : Int) (m0Lines : List (Int × Int × Bool)) (m0Room : Int) (m0Store : List Int) (xi5 : Int) : St := ⟨[(1, .one (.c (.v (.int .i64 key1)))), (2, .one (.c (.pb 32 0))), (5, .one (.c (.v (.int .i64 xi5))))], [(32, .box [.ro .int m0Store, .ro .iib m0Lines, .v (.int .i64 m0Room)])]⟩
def fin_spec_lineAt (m0Store : List Int) (m0Lines : List (Int × Int × Bool)) (m0Room : Int) (key1 : Int) (kk : AV → List A1 → Prop) : Kt := fin TT con_spec_lineAt Try.f51.results.toList [.c .sc] [.agg [.ro .int m0Store, .ro .iib m0Lines, .v (.int .i64 m0Room)], .c (.v (.int .i64 key1))] kk
def kt0_spec_lineAt (kf : Kt) : Kt := blockK 0 (seqK (evF TT cs_spec_lineAt 22 an_spec_lineAt Try.f51 [1, 1]) (kf))
theorem r0_spec_lineAt (m0Store : List Int) (m0Lines : List (Int × Int × Bool)) (m0Room : Int) (key1 : Int) (kk : AV → List A1 → Prop) (n : Nat) (xi5 : Int) :
    iter (evF TT cs_spec_lineAt 22 an_spec_lineAt Try.f51 [1, 0, 1, 0, 0]) nm0_spec_lineAt (kt0_spec_lineAt (fin_spec_lineAt m0Store m0Lines m0Room key1 kk)) (n + 1) (can0_spec_lineAt key1 m0Lines m0Room m0Store xi5) = T0_spec_lineAt key1 m0Lines m0Room m0Store xi5 (fun r0 => kk (.one (.c (.v (.int .i64 r0)))) []) (fun xi5 => iter (evF TT cs_spec_lineAt 22 an_spec_lineAt Try.f51 [1, 0, 1, 0, 0]) nm0_spec_lineAt (kt0_spec_lineAt (fin_spec_lineAt m0Store m0Lines m0Room key1 kk)) n (can0_spec_lineAt key1 m0Lines m0Room m0Store xi5)) := by kernel_rfl
theorem l0_spec_lineAt (m0Store : List Int) (m0Lines : List (Int × Int × Bool)) (m0Room : Int) (key1 : Int) (kk : AV → List A1 → Prop) : ∀ (n : Nat) (xi5 : Int), iter (evF TT cs_spec_lineAt 22 an_spec_lineAt Try.f51 [1, 0, 1, 0, 0]) nm0_spec_lineAt (kt0_spec_lineAt (fin_spec_lineAt m0Store m0Lines m0Room key1 kk)) n (can0_spec_lineAt key1 m0Lines m0Room m0Store xi5) = L0_spec_lineAt key1 m0Lines m0Room m0Store (fun r0 => kk (.one (.c (.v (.int .i64 r0)))) []) n xi5 := by
  intro n
  induction n with
  | zero => intros; rfl
  | succ n ih =>
    intro xi5
    rw [r0_spec_lineAt m0Store m0Lines m0Room key1 kk n xi5]
    have hb : (fun xi5 => iter (evF TT cs_spec_lineAt 22 an_spec_lineAt Try.f51 [1, 0, 1, 0, 0]) nm0_spec_lineAt (kt0_spec_lineAt (fin_spec_lineAt m0Store m0Lines m0Room key1 kk)) n (can0_spec_lineAt key1 m0Lines m0Room m0Store xi5)) = L0_spec_lineAt key1 m0Lines m0Room m0Store (fun r0 => kk (.one (.c (.v (.int .i64 r0)))) []) n := by
      funext xi5; exact ih xi5
    rw [hb]
    rfl
theorem g_spec_lineAt (m0Store : List Int) (m0Lines : List (Int × Int × Bool)) (m0Room : Int) (key1 : Int) (kk : AV → List A1 → Prop) :
    ev TT cs_spec_lineAt 22 an_spec_lineAt (Try.f51.body.getD .skip) (st0 con_spec_lineAt [.agg [.ro .int m0Store, .ro .iib m0Lines, .v (.int .i64 m0Room)], .c (.v (.int .i64 key1))]) (fin TT con_spec_lineAt Try.f51.results.toList [.c .sc] [.agg [.ro .int m0Store, .ro .iib m0Lines, .v (.int .i64 m0Room)], .c (.v (.int .i64 key1))] kk) = G_spec_lineAt m0Store m0Lines m0Room key1 (fun key1 m0Lines m0Room m0Store xi5 => ∃ j, iter (evF TT cs_spec_lineAt 22 an_spec_lineAt Try.f51 [1, 0, 1, 0, 0]) nm0_spec_lineAt (kt0_spec_lineAt (fin_spec_lineAt m0Store m0Lines m0Room key1 kk)) j (can0_spec_lineAt key1 m0Lines m0Room m0Store xi5)) := by kernel_rfl
theorem e_spec_lineAt (m0Store : List Int) (m0Lines : List (Int × Int × Bool)) (m0Room : Int) (key1 : Int) (kk : AV → List A1 → Prop) :
    ev TT cs_spec_lineAt 22 an_spec_lineAt (Try.f51.body.getD .skip) (st0 con_spec_lineAt [.agg [.ro .int m0Store, .ro .iib m0Lines, .v (.int .i64 m0Room)], .c (.v (.int .i64 key1))]) (fin TT con_spec_lineAt Try.f51.results.toList [.c .sc] [.agg [.ro .int m0Store, .ro .iib m0Lines, .v (.int .i64 m0Room)], .c (.v (.int .i64 key1))] kk) = S_spec_lineAt m0Store m0Lines m0Room key1 (fun r0 => kk (.one (.c (.v (.int .i64 r0)))) []) := by
  rw [g_spec_lineAt]
  have hi0 : (fun key1 m0Lines m0Room m0Store xi5 => ∃ j, iter (evF TT cs_spec_lineAt 22 an_spec_lineAt Try.f51 [1, 0, 1, 0, 0]) nm0_spec_lineAt (kt0_spec_lineAt (fin_spec_lineAt m0Store m0Lines m0Room key1 kk)) j (can0_spec_lineAt key1 m0Lines m0Room m0Store xi5)) = (fun key1 m0Lines m0Room m0Store xi5 => ∃ j, L0_spec_lineAt key1 m0Lines m0Room m0Store (fun r0 => kk (.one (.c (.v (.int .i64 r0)))) []) j xi5) := by
    funext key1 m0Lines m0Room m0Store xi5
    refine congrArg Exists (funext fun j => ?_)
    rw [l0_spec_lineAt m0Store m0Lines m0Room key1 kk j xi5]
  rw [hi0]
  rfl
theorem clok_spec_lineAt : ConOK Try.prog cl_spec_lineAt := consNil
theorem cok_spec_lineAt : ConsOK Try.prog 22 cs_spec_lineAt := ⟨clok_spec_lineAt, inlNil, ovNil⟩
theorem i_spec_lineAt {vs : List A1} {kk : AV → List A1 → Prop} {motive : List A1 → Prop} (h : con_spec_lineAt.F vs kk) (H : ∀ (m0Store : List Int) (m0Lines : List (Int × Int × Bool)) (m0Room : Int) (key1 : Int), F_spec_lineAt m0Store m0Lines m0Room key1 (fun r0 => kk (.one (.c (.v (.int .i64 r0)))) []) → motive [.agg [.ro .int m0Store, .ro .iib m0Lines, .v (.int .i64 m0Room)], .c (.v (.int .i64 key1))]) : motive vs := by
  unfold con_spec_lineAt at h
  dsimp only at h
  split at h
  · exact H _ _ _ _ h
  · exact h.elim
theorem h_spec_lineAt : Holds Try.prog 51 con_spec_lineAt := by
  refine holds_of_ev (rt := [.c .sc]) (T := TT) (Γ := cs_spec_lineAt) (an := an_spec_lineAt) (N := 22) (c := Try.f51.body.getD .skip) Try.func51 (by kernel_rfl) Try.ntmps51 (by decide) (by decide) mixed tabOK cok_spec_lineAt (by kernel_rfl) ?_
  intro vs kk _ hF
  exact i_spec_lineAt (motive := fun vs => Goes (ev TT cs_spec_lineAt 22 an_spec_lineAt (Try.f51.body.getD .skip) (st0 con_spec_lineAt vs) (fin TT con_spec_lineAt Try.f51.results.toList [.c .sc] vs kk))) hF (fun m0Store m0Lines m0Room key1 hF => goes_of (e_spec_lineAt m0Store m0Lines m0Room key1 kk) (F_spec_lineAt_S hF))
def con_spec_access : Con := ⟨[.rd, .rd], true, [.agg [.sl .int, .sl .iib, .sc], .c (.sc)], fun vs k => match vs with
    | [.agg [.ro .int old0Store, .ro .iib old0Lines, .v (.int .i64 old0Room)], .c (.v (.int .i64 key1))] => F_spec_access old0Store old0Lines old0Room key1 (fun r0 r1 r2 => k (.one (.agg [.ro .int r0, .ro .iib r1, .v (.int .i64 r2)])) [])
    | _ => False, false⟩
def cl_spec_access : List (FuncId × Con) := [(50, con_spec_copyMemory), (51, con_spec_lineAt)]
def an_spec_access : Ann := ⟨[(6, .take 0 (.take 2 (.take 4 (.take 6 (.take 7 (.alt 1 (.take 3 (.alt 5 (.take 8 (.alt 9 (.take 10 (.alt 11 (.done) (.none))) (.none))) (.none))) (.alt 5 (.take 8 (.alt 1 (.take 3 (.alt 9 (.take 10 (.alt 11 (.done) (.none))) (.none))) (.none))) (.none))))))), [])], [], [], []⟩
def cs_spec_access : Cons := ⟨cl_spec_access, [], 0, [], [], []⟩
def fin_spec_access (old0Store : List Int) (old0Lines : List (Int × Int × Bool)) (old0Room : Int) (key1 : Int) (kk : AV → List A1 → Prop) : Kt := fin TT con_spec_access Try.f47.results.toList [.agg [.sl .int, .sl .iib, .sc]] [.agg [.ro .int old0Store, .ro .iib old0Lines, .v (.int .i64 old0Room)], .c (.v (.int .i64 key1))] kk
theorem g_spec_access (old0Store : List Int) (old0Lines : List (Int × Int × Bool)) (old0Room : Int) (key1 : Int) (kk : AV → List A1 → Prop) :
    ev TT cs_spec_access 73 an_spec_access (Try.f47.body.getD .skip) (st0 con_spec_access [.agg [.ro .int old0Store, .ro .iib old0Lines, .v (.int .i64 old0Room)], .c (.v (.int .i64 key1))]) (fin TT con_spec_access Try.f47.results.toList [.agg [.sl .int, .sl .iib, .sc]] [.agg [.ro .int old0Store, .ro .iib old0Lines, .v (.int .i64 old0Room)], .c (.v (.int .i64 key1))] kk) = G_spec_access old0Store old0Lines old0Room key1 (fun r0 r1 r2 => kk (.one (.agg [.ro .int r0, .ro .iib r1, .v (.int .i64 r2)])) []) := by kernel_rfl
theorem e_spec_access (old0Store : List Int) (old0Lines : List (Int × Int × Bool)) (old0Room : Int) (key1 : Int) (kk : AV → List A1 → Prop) :
    ev TT cs_spec_access 73 an_spec_access (Try.f47.body.getD .skip) (st0 con_spec_access [.agg [.ro .int old0Store, .ro .iib old0Lines, .v (.int .i64 old0Room)], .c (.v (.int .i64 key1))]) (fin TT con_spec_access Try.f47.results.toList [.agg [.sl .int, .sl .iib, .sc]] [.agg [.ro .int old0Store, .ro .iib old0Lines, .v (.int .i64 old0Room)], .c (.v (.int .i64 key1))] kk) = S_spec_access old0Store old0Lines old0Room key1 (fun r0 r1 r2 => kk (.one (.agg [.ro .int r0, .ro .iib r1, .v (.int .i64 r2)])) []) := by
  rw [g_spec_access]
  rw [G_spec_access_eq]
  rfl
theorem clok_spec_access : ConOK Try.prog cl_spec_access := consCons h_spec_copyMemory ⟨Try.f50, Try.func50, by kernel_rfl, ne_of_beq (by kernel_rfl)⟩ (consCons h_spec_lineAt ⟨Try.f51, Try.func51, by kernel_rfl, ne_of_beq (by kernel_rfl)⟩ (consNil))
theorem cok_spec_access : ConsOK Try.prog 73 cs_spec_access := ⟨clok_spec_access, inlNil, ovNil⟩
theorem i_spec_access {vs : List A1} {kk : AV → List A1 → Prop} {motive : List A1 → Prop} (h : con_spec_access.F vs kk) (H : ∀ (old0Store : List Int) (old0Lines : List (Int × Int × Bool)) (old0Room : Int) (key1 : Int), F_spec_access old0Store old0Lines old0Room key1 (fun r0 r1 r2 => kk (.one (.agg [.ro .int r0, .ro .iib r1, .v (.int .i64 r2)])) []) → motive [.agg [.ro .int old0Store, .ro .iib old0Lines, .v (.int .i64 old0Room)], .c (.v (.int .i64 key1))]) : motive vs := by
  unfold con_spec_access at h
  dsimp only at h
  split at h
  · exact H _ _ _ _ h
  · exact h.elim
theorem h_spec_access : Holds Try.prog 47 con_spec_access := by
  refine holds_of_ev (rt := [.agg [.sl .int, .sl .iib, .sc]]) (T := TT) (Γ := cs_spec_access) (an := an_spec_access) (N := 73) (c := Try.f47.body.getD .skip) Try.func47 (by kernel_rfl) Try.ntmps47 (by decide) (by decide) mixed tabOK cok_spec_access (by kernel_rfl) ?_
  intro vs kk _ hF
  exact i_spec_access (motive := fun vs => Goes (ev TT cs_spec_access 73 an_spec_access (Try.f47.body.getD .skip) (st0 con_spec_access vs) (fin TT con_spec_access Try.f47.results.toList [.agg [.sl .int, .sl .iib, .sc]] vs kk))) hF (fun old0Store old0Lines old0Room key1 hF => goes_of (e_spec_access old0Store old0Lines old0Room key1 kk) (F_spec_access_S hF))
def con_spec_someMemory : Con := ⟨[.mu], true, [.ptr [.sl .u8, .sc]], fun vs k => match vs with
    | [.ptr [.ro .u8 r0b, .v (.int .i64 r0p)]] => F_spec_someMemory r0b r0p (fun r0 r1 r2 r3 r4 => k (.one (.agg [.ro .int r0, .ro .iib r1, .v (.int .i64 r2)])) [.ptr [.ro .u8 r3, .v (.int .i64 r4)]])
    | _ => False, false⟩
def cl_spec_someMemory : List (FuncId × Con) := [(47, con_spec_access), (49, con_spec_reader_one), (52, con_spec_reader_pick)]
def nm0_spec_someMemory : List NStep := [.ownc 48 0 .int 90000, .ownc 48 1 .iib 90001, .keep [0, 2, 3, 4] [100000, 32, 48, 90000, 90001]]
def an_spec_someMemory : Ann := ⟨[(1, .take 2 (.alt 0 (.alt 1 (.alt 3 (.alt 4 (.take 5 (.alt 6 (.alt 7 (.done) (.none)) (.none))) (.alt 6 (.alt 4 (.take 5 (.alt 7 (.done) (.none))) (.none)) (.none))) (.alt 6 (.alt 3 (.alt 4 (.take 5 (.alt 7 (.done) (.none))) (.none)) (.none)) (.none))) (.alt 3 (.alt 1 (.alt 4 (.take 5 (.alt 6 (.alt 7 (.done) (.none)) (.none))) (.alt 6 (.alt 4 (.take 5 (.alt 7 (.done) (.none))) (.none)) (.none))) (.alt 4 (.alt 1 (.take 5 (.alt 6 (.alt 7 (.done) (.none)) (.none))) (.alt 6 (.alt 1 (.take 5 (.alt 7 (.done) (.none))) (.none)) (.none))) (.alt 6 (.alt 1 (.alt 4 (.take 5 (.alt 7 (.done) (.none))) (.none)) (.alt 4 (.alt 1 (.take 5 (.alt 7 (.done) (.none))) (.none)) (.none))) (.none)))) (.alt 6 (.alt 1 (.alt 3 (.alt 4 (.take 5 (.alt 7 (.done) (.none))) (.none)) (.none)) (.alt 3 (.alt 1 (.alt 4 (.take 5 (.alt 7 (.done) (.none))) (.none)) (.alt 4 (.alt 1 (.take 5 (.alt 7 (.done) (.none))) (.none)) (.none))) (.none))) (.none)))) (.alt 1 (.alt 0 (.alt 3 (.alt 4 (.take 5 (.alt 6 (.alt 7 (.done) (.none)) (.none))) (.alt 6 (.alt 4 (.take 5 (.alt 7 (.done) (.none))) (.none)) (.none))) (.alt 6 (.alt 3 (.alt 4 (.take 5 (.alt 7 (.done) (.none))) (.none)) (.none)) (.none))) (.alt 3 (.alt 0 (.alt 4 (.take 5 (.alt 6 (.alt 7 (.done) (.none)) (.none))) (.alt 6 (.alt 4 (.take 5 (.alt 7 (.done) (.none))) (.none)) (.none))) (.alt 4 (.alt 0 (.take 5 (.alt 6 (.alt 7 (.done) (.none)) (.none))) (.alt 6 (.alt 0 (.take 5 (.alt 7 (.done) (.none))) (.none)) (.none))) (.alt 6 (.alt 0 (.alt 4 (.take 5 (.alt 7 (.done) (.none))) (.none)) (.alt 4 (.alt 0 (.take 5 (.alt 7 (.done) (.none))) (.none)) (.none))) (.none)))) (.alt 6 (.alt 0 (.alt 3 (.alt 4 (.take 5 (.alt 7 (.done) (.none))) (.none)) (.none)) (.alt 3 (.alt 0 (.alt 4 (.take 5 (.alt 7 (.done) (.none))) (.none)) (.alt 4 (.alt 0 (.take 5 (.alt 7 (.done) (.none))) (.none)) (.none))) (.none))) (.none)))) (.alt 3 (.alt 0 (.alt 1 (.alt 4 (.take 5 (.alt 6 (.alt 7 (.done) (.none)) (.none))) (.alt 6 (.alt 4 (.take 5 (.alt 7 (.done) (.none))) (.none)) (.none))) (.alt 4 (.alt 1 (.take 5 (.alt 6 (.alt 7 (.done) (.none)) (.none))) (.alt 6 (.alt 1 (.take 5 (.alt 7 (.done) (.none))) (.none)) (.none))) (.alt 6 (.alt 1 (.alt 4 (.take 5 (.alt 7 (.done) (.none))) (.none)) (.alt 4 (.alt 1 (.take 5 (.alt 7 (.done) (.none))) (.none)) (.none))) (.none)))) (.alt 1 (.alt 0 (.alt 4 (.take 5 (.alt 6 (.alt 7 (.done) (.none)) (.none))) (.alt 6 (.alt 4 (.take 5 (.alt 7 (.done) (.none))) (.none)) (.none))) (.alt 4 (.alt 0 (.take 5 (.alt 6 (.alt 7 (.done) (.none)) (.none))) (.alt 6 (.alt 0 (.take 5 (.alt 7 (.done) (.none))) (.none)) (.none))) (.alt 6 (.alt 0 (.alt 4 (.take 5 (.alt 7 (.done) (.none))) (.none)) (.alt 4 (.alt 0 (.take 5 (.alt 7 (.done) (.none))) (.none)) (.none))) (.none)))) (.alt 4 (.alt 0 (.alt 1 (.take 5 (.alt 6 (.alt 7 (.done) (.none)) (.none))) (.alt 6 (.alt 1 (.take 5 (.alt 7 (.done) (.none))) (.none)) (.none))) (.alt 1 (.alt 0 (.take 5 (.alt 6 (.alt 7 (.done) (.none)) (.none))) (.alt 6 (.alt 0 (.take 5 (.alt 7 (.done) (.none))) (.none)) (.none))) (.alt 6 (.alt 0 (.alt 1 (.take 5 (.alt 7 (.done) (.none))) (.none)) (.alt 1 (.alt 0 (.take 5 (.alt 7 (.done) (.none))) (.none)) (.none))) (.none)))) (.alt 6 (.alt 0 (.alt 1 (.alt 4 (.take 5 (.alt 7 (.done) (.none))) (.none)) (.alt 4 (.alt 1 (.take 5 (.alt 7 (.done) (.none))) (.none)) (.none))) (.alt 1 (.alt 0 (.alt 4 (.take 5 (.alt 7 (.done) (.none))) (.none)) (.alt 4 (.alt 0 (.take 5 (.alt 7 (.done) (.none))) (.none)) (.none))) (.alt 4 (.alt 0 (.alt 1 (.take 5 (.alt 7 (.done) (.none))) (.none)) (.alt 1 (.alt 0 (.take 5 (.alt 7 (.done) (.none))) (.none)) (.none))) (.none)))) (.none))))) (.alt 6 (.alt 0 (.alt 1 (.alt 3 (.alt 4 (.take 5 (.alt 7 (.done) (.none))) (.none)) (.none)) (.alt 3 (.alt 1 (.alt 4 (.take 5 (.alt 7 (.done) (.none))) (.none)) (.alt 4 (.alt 1 (.take 5 (.alt 7 (.done) (.none))) (.none)) (.none))) (.none))) (.alt 1 (.alt 0 (.alt 3 (.alt 4 (.take 5 (.alt 7 (.done) (.none))) (.none)) (.none)) (.alt 3 (.alt 0 (.alt 4 (.take 5 (.alt 7 (.done) (.none))) (.none)) (.alt 4 (.alt 0 (.take 5 (.alt 7 (.done) (.none))) (.none)) (.none))) (.none))) (.alt 3 (.alt 0 (.alt 1 (.alt 4 (.take 5 (.alt 7 (.done) (.none))) (.none)) (.alt 4 (.alt 1 (.take 5 (.alt 7 (.done) (.none))) (.none)) (.none))) (.alt 1 (.alt 0 (.alt 4 (.take 5 (.alt 7 (.done) (.none))) (.none)) (.alt 4 (.alt 0 (.take 5 (.alt 7 (.done) (.none))) (.none)) (.none))) (.alt 4 (.alt 0 (.alt 1 (.take 5 (.alt 7 (.done) (.none))) (.none)) (.alt 1 (.alt 0 (.take 5 (.alt 7 (.done) (.none))) (.none)) (.none))) (.none)))) (.none)))) (.none))))), []), (5, .take 1 (.alt 0 (.alt 2 (.alt 3 (.alt 4 (.done) (.none)) (.none)) (.none)) (.alt 2 (.alt 0 (.alt 3 (.alt 4 (.done) (.none)) (.none)) (.none)) (.none))), []), (7, .take 0 (.take 1 (.take 2 (.alt 3 (.alt 4 (.take 5 (.take 6 (.alt 7 (.done) (.none)))) (.none)) (.none)))), [48]), (13, .take 0 (.take 1 (.take 2 (.take 4 (.alt 3 (.alt 5 (.alt 6 (.take 7 (.alt 8 (.done) (.none))) (.none)) (.none)) (.alt 5 (.alt 3 (.alt 6 (.take 7 (.alt 8 (.done) (.none))) (.none)) (.none)) (.none)))))), [48])], [(3, nm0_spec_someMemory)], [], []⟩
def cs_spec_someMemory : Cons := ⟨cl_spec_someMemory, [], 0, [], [], []⟩
def can0_spec_someMemory (xn4 : Int) (xb100000c0 : List Int) (xb100000c1 : Int) (xb3c2 : Int) (xb3c0 : List Int) (xb3c1 : List (Int × Int × Bool)) : St := ⟨[(0, .one (.c (.pb 100000 0))), (2, .one (.c (.pb 32 0))), (3, .one (.c (.pb 48 0))), (4, .one (.c (.v (.int .i64 xn4))))], [(100000, .box [.ro .u8 xb100000c0, .v (.int .i64 xb100000c1)]), (32, .box [.nil, .nil, .v (.int .i64 0)]), (48, .box [.ow 90000, .ow 90001, .v (.int .i64 xb3c2)]), (90000, .row .int xb3c0), (90001, .row .iib xb3c1)]⟩
def fin_spec_someMemory (r0b : List Int) (r0p : Int) (kk : AV → List A1 → Prop) : Kt := fin TT con_spec_someMemory Try.f34.results.toList [.agg [.sl .int, .sl .iib, .sc]] [.ptr [.ro .u8 r0b, .v (.int .i64 r0p)]] kk
def kt0_spec_someMemory (kf : Kt) : Kt := blockK 0 (seqK (evF TT cs_spec_someMemory 74 an_spec_someMemory Try.f34 [1, 1, 1]) (kf))
theorem r0_spec_someMemory (r0b : List Int) (r0p : Int) (kk : AV → List A1 → Prop) (n : Nat) (xn4 : Int) (xb100000c0 : List Int) (xb100000c1 : Int) (xb3c2 : Int) (xb3c0 : List Int) (xb3c1 : List (Int × Int × Bool)) :
    iter (evF TT cs_spec_someMemory 74 an_spec_someMemory Try.f34 [1, 1, 0, 1, 0, 0]) nm0_spec_someMemory (kt0_spec_someMemory (fin_spec_someMemory r0b r0p kk)) (n + 1) (can0_spec_someMemory xn4 xb100000c0 xb100000c1 xb3c2 xb3c0 xb3c1) = T0_spec_someMemory xn4 xb100000c0 xb100000c1 xb3c2 xb3c0 xb3c1 (fun r0 r1 r2 r3 r4 => kk (.one (.agg [.ro .int r0, .ro .iib r1, .v (.int .i64 r2)])) [.ptr [.ro .u8 r3, .v (.int .i64 r4)]]) (fun xn4 xb100000c0 xb100000c1 xb3c2 xb3c0 xb3c1 => iter (evF TT cs_spec_someMemory 74 an_spec_someMemory Try.f34 [1, 1, 0, 1, 0, 0]) nm0_spec_someMemory (kt0_spec_someMemory (fin_spec_someMemory r0b r0p kk)) n (can0_spec_someMemory xn4 xb100000c0 xb100000c1 xb3c2 xb3c0 xb3c1)) := by kernel_rfl
theorem l0_spec_someMemory (r0b : List Int) (r0p : Int) (kk : AV → List A1 → Prop) : ∀ (n : Nat) (xn4 : Int) (xb100000c0 : List Int) (xb100000c1 : Int) (xb3c2 : Int) (xb3c0 : List Int) (xb3c1 : List (Int × Int × Bool)), iter (evF TT cs_spec_someMemory 74 an_spec_someMemory Try.f34 [1, 1, 0, 1, 0, 0]) nm0_spec_someMemory (kt0_spec_someMemory (fin_spec_someMemory r0b r0p kk)) n (can0_spec_someMemory xn4 xb100000c0 xb100000c1 xb3c2 xb3c0 xb3c1) = L0_spec_someMemory (fun r0 r1 r2 r3 r4 => kk (.one (.agg [.ro .int r0, .ro .iib r1, .v (.int .i64 r2)])) [.ptr [.ro .u8 r3, .v (.int .i64 r4)]]) n xn4 xb100000c0 xb100000c1 xb3c2 xb3c0 xb3c1 := by
  intro n
  induction n with
  | zero => intros; rfl
  | succ n ih =>
    intro xn4 xb100000c0 xb100000c1 xb3c2 xb3c0 xb3c1
    rw [r0_spec_someMemory r0b r0p kk n xn4 xb100000c0 xb100000c1 xb3c2 xb3c0 xb3c1]
    have hb : (fun xn4 xb100000c0 xb100000c1 xb3c2 xb3c0 xb3c1 => iter (evF TT cs_spec_someMemory 74 an_spec_someMemory Try.f34 [1, 1, 0, 1, 0, 0]) nm0_spec_someMemory (kt0_spec_someMemory (fin_spec_someMemory r0b r0p kk)) n (can0_spec_someMemory xn4 xb100000c0 xb100000c1 xb3c2 xb3c0 xb3c1)) = L0_spec_someMemory (fun r0 r1 r2 r3 r4 => kk (.one (.agg [.ro .int r0, .ro .iib r1, .v (.int .i64 r2)])) [.ptr [.ro .u8 r3, .v (.int .i64 r4)]]) n := by
      funext xn4 xb100000c0 xb100000c1 xb3c2 xb3c0 xb3c1; exact ih xn4 xb100000c0 xb100000c1 xb3c2 xb3c0 xb3c1
    rw [hb]
    rw [T0_spec_someMemory_eq]
    rfl
theorem g_spec_someMemory (r0b : List Int) (r0p : Int) (kk : AV → List A1 → Prop) :
    ev TT cs_spec_someMemory 74 an_spec_someMemory (Try.f34.body.getD .skip) (st0 con_spec_someMemory [.ptr [.ro .u8 r0b, .v (.int .i64 r0p)]]) (fin TT con_spec_someMemory Try.f34.results.toList [.agg [.sl .int, .sl .iib, .sc]] [.ptr [.ro .u8 r0b, .v (.int .i64 r0p)]] kk) = G_spec_someMemory r0b r0p (fun xn4 xb100000c0 xb100000c1 xb3c2 xb3c0 xb3c1 => ∃ j, iter (evF TT cs_spec_someMemory 74 an_spec_someMemory Try.f34 [1, 1, 0, 1, 0, 0]) nm0_spec_someMemory (kt0_spec_someMemory (fin_spec_someMemory r0b r0p kk)) j (can0_spec_someMemory xn4 xb100000c0 xb100000c1 xb3c2 xb3c0 xb3c1)) := by kernel_rfl
theorem e_spec_someMemory (r0b : List Int) (r0p : Int) (kk : AV → List A1 → Prop) :
    ev TT cs_spec_someMemory 74 an_spec_someMemory (Try.f34.body.getD .skip) (st0 con_spec_someMemory [.ptr [.ro .u8 r0b, .v (.int .i64 r0p)]]) (fin TT con_spec_someMemory Try.f34.results.toList [.agg [.sl .int, .sl .iib, .sc]] [.ptr [.ro .u8 r0b, .v (.int .i64 r0p)]] kk) = S_spec_someMemory r0b r0p (fun r0 r1 r2 r3 r4 => kk (.one (.agg [.ro .int r0, .ro .iib r1, .v (.int .i64 r2)])) [.ptr [.ro .u8 r3, .v (.int .i64 r4)]]) := by
  rw [g_spec_someMemory]
  have hi0 : (fun xn4 xb100000c0 xb100000c1 xb3c2 xb3c0 xb3c1 => ∃ j, iter (evF TT cs_spec_someMemory 74 an_spec_someMemory Try.f34 [1, 1, 0, 1, 0, 0]) nm0_spec_someMemory (kt0_spec_someMemory (fin_spec_someMemory r0b r0p kk)) j (can0_spec_someMemory xn4 xb100000c0 xb100000c1 xb3c2 xb3c0 xb3c1)) = (fun xn4 xb100000c0 xb100000c1 xb3c2 xb3c0 xb3c1 => ∃ j, L0_spec_someMemory (fun r0 r1 r2 r3 r4 => kk (.one (.agg [.ro .int r0, .ro .iib r1, .v (.int .i64 r2)])) [.ptr [.ro .u8 r3, .v (.int .i64 r4)]]) j xn4 xb100000c0 xb100000c1 xb3c2 xb3c0 xb3c1) := by
    funext xn4 xb100000c0 xb100000c1 xb3c2 xb3c0 xb3c1
    refine congrArg Exists (funext fun j => ?_)
    rw [l0_spec_someMemory r0b r0p kk j xn4 xb100000c0 xb100000c1 xb3c2 xb3c0 xb3c1]
  rw [hi0]
  rw [G_spec_someMemory_eq]
  rfl
theorem clok_spec_someMemory : ConOK Try.prog cl_spec_someMemory := consCons h_spec_access ⟨Try.f47, Try.func47, by kernel_rfl, ne_of_beq (by kernel_rfl)⟩ (consCons h_spec_reader_one ⟨Try.f49, Try.func49, by kernel_rfl, ne_of_beq (by kernel_rfl)⟩ (consCons h_spec_reader_pick ⟨Try.f52, Try.func52, by kernel_rfl, ne_of_beq (by kernel_rfl)⟩ (consNil)))
theorem cok_spec_someMemory : ConsOK Try.prog 74 cs_spec_someMemory := ⟨clok_spec_someMemory, inlNil, ovNil⟩
theorem i_spec_someMemory {vs : List A1} {kk : AV → List A1 → Prop} {motive : List A1 → Prop} (h : con_spec_someMemory.F vs kk) (H : ∀ (r0b : List Int) (r0p : Int), F_spec_someMemory r0b r0p (fun r0 r1 r2 r3 r4 => kk (.one (.agg [.ro .int r0, .ro .iib r1, .v (.int .i64 r2)])) [.ptr [.ro .u8 r3, .v (.int .i64 r4)]]) → motive [.ptr [.ro .u8 r0b, .v (.int .i64 r0p)]]) : motive vs := by
  unfold con_spec_someMemory at h
  dsimp only at h
  split at h
  · exact H _ _ h
  · exact h.elim
theorem h_spec_someMemory : Holds Try.prog 34 con_spec_someMemory := by
  refine holds_of_ev (rt := [.agg [.sl .int, .sl .iib, .sc]]) (T := TT) (Γ := cs_spec_someMemory) (an := an_spec_someMemory) (N := 74) (c := Try.f34.body.getD .skip) Try.func34 (by kernel_rfl) Try.ntmps34 (by decide) (by decide) mixed tabOK cok_spec_someMemory (by kernel_rfl) ?_
  intro vs kk _ hF
  exact i_spec_someMemory (motive := fun vs => Goes (ev TT cs_spec_someMemory 74 an_spec_someMemory (Try.f34.body.getD .skip) (st0 con_spec_someMemory vs) (fin TT con_spec_someMemory Try.f34.results.toList [.agg [.sl .int, .sl .iib, .sc]] vs kk))) hF (fun r0b r0p hF => goes_of (e_spec_someMemory r0b r0p kk) (F_spec_someMemory_S hF))
def con_spec_someKey : Con := ⟨[.mu], true, [.ptr [.sl .u8, .sc]], fun vs k => match vs with
    | [.ptr [.ro .u8 r0b, .v (.int .i64 r0p)]] => F_spec_someKey r0b r0p (fun r0 r1 r2 => k (.one (.c (.v (.int .i64 r0)))) [.ptr [.ro .u8 r1, .v (.int .i64 r2)]])
    | _ => False, false⟩
def cl_spec_someKey : List (FuncId × Con) := [(49, con_spec_reader_one), (52, con_spec_reader_pick)]
def an_spec_someKey : Ann := ⟨[], [], [], []⟩
def cs_spec_someKey : Cons := ⟨cl_spec_someKey, [], 0, [], [], []⟩
def fin_spec_someKey (r0b : List Int) (r0p : Int) (kk : AV → List A1 → Prop) : Kt := fin TT con_spec_someKey Try.f42.results.toList [.c .sc] [.ptr [.ro .u8 r0b, .v (.int .i64 r0p)]] kk
theorem g_spec_someKey (r0b : List Int) (r0p : Int) (kk : AV → List A1 → Prop) :
    ev TT cs_spec_someKey 12 an_spec_someKey (Try.f42.body.getD .skip) (st0 con_spec_someKey [.ptr [.ro .u8 r0b, .v (.int .i64 r0p)]]) (fin TT con_spec_someKey Try.f42.results.toList [.c .sc] [.ptr [.ro .u8 r0b, .v (.int .i64 r0p)]] kk) = G_spec_someKey r0b r0p (fun r0 r1 r2 => kk (.one (.c (.v (.int .i64 r0)))) [.ptr [.ro .u8 r1, .v (.int .i64 r2)]]) := by kernel_rfl
theorem e_spec_someKey (r0b : List Int) (r0p : Int) (kk : AV → List A1 → Prop) :
    ev TT cs_spec_someKey 12 an_spec_someKey (Try.f42.body.getD .skip) (st0 con_spec_someKey [.ptr [.ro .u8 r0b, .v (.int .i64 r0p)]]) (fin TT con_spec_someKey Try.f42.results.toList [.c .sc] [.ptr [.ro .u8 r0b, .v (.int .i64 r0p)]] kk) = S_spec_someKey r0b r0p (fun r0 r1 r2 => kk (.one (.c (.v (.int .i64 r0)))) [.ptr [.ro .u8 r1, .v (.int .i64 r2)]]) := by
  rw [g_spec_someKey]
  rfl
theorem clok_spec_someKey : ConOK Try.prog cl_spec_someKey := consCons h_spec_reader_one ⟨Try.f49, Try.func49, by kernel_rfl, ne_of_beq (by kernel_rfl)⟩ (consCons h_spec_reader_pick ⟨Try.f52, Try.func52, by kernel_rfl, ne_of_beq (by kernel_rfl)⟩ (consNil))
theorem cok_spec_someKey : ConsOK Try.prog 12 cs_spec_someKey := ⟨clok_spec_someKey, inlNil, ovNil⟩
theorem i_spec_someKey {vs : List A1} {kk : AV → List A1 → Prop} {motive : List A1 → Prop} (h : con_spec_someKey.F vs kk) (H : ∀ (r0b : List Int) (r0p : Int), F_spec_someKey r0b r0p (fun r0 r1 r2 => kk (.one (.c (.v (.int .i64 r0)))) [.ptr [.ro .u8 r1, .v (.int .i64 r2)]]) → motive [.ptr [.ro .u8 r0b, .v (.int .i64 r0p)]]) : motive vs := by
  unfold con_spec_someKey at h
  dsimp only at h
  split at h
  · exact H _ _ h
  · exact h.elim
theorem h_spec_someKey : Holds Try.prog 42 con_spec_someKey := by
  refine holds_of_ev (rt := [.c .sc]) (T := TT) (Γ := cs_spec_someKey) (an := an_spec_someKey) (N := 12) (c := Try.f42.body.getD .skip) Try.func42 (by kernel_rfl) Try.ntmps42 (by decide) (by decide) mixed tabOK cok_spec_someKey (by kernel_rfl) ?_
  intro vs kk _ hF
  exact i_spec_someKey (motive := fun vs => Goes (ev TT cs_spec_someKey 12 an_spec_someKey (Try.f42.body.getD .skip) (st0 con_spec_someKey vs) (fin TT con_spec_someKey Try.f42.results.toList [.c .sc] vs kk))) hF (fun r0b r0p hF => goes_of (e_spec_someKey r0b r0p kk) (F_spec_someKey_S hF))
def con_spec_DrawWriteKey : Con := ⟨[.rd], true, [.c (.sl .u8)], fun vs k => match vs with
    | [.c (.ro .u8 code0)] => F_spec_DrawWriteKey code0 (fun r0 r1 r2 r3 r4 => k (.tup [.agg [.ro .int r0, .ro .iib r1, .v (.int .i64 r2)], .c (.v (.int .i64 r3)), .c (.v (.int .i64 r4))]) [])
    | _ => False, false⟩
def cl_spec_DrawWriteKey : List (FuncId × Con) := [(34, con_spec_someMemory), (35, con_spec_newReader), (42, con_spec_someKey), (49, con_spec_reader_one)]
def an_spec_DrawWriteKey : Ann := ⟨[(4, .take 0 (.take 1 (.take 2 (.alt 3 (.alt 4 (.alt 5 (.take 6 (.take 7 (.done))) (.none)) (.none)) (.none)))), [96])], [], [], []⟩
def cs_spec_DrawWriteKey : Cons := ⟨cl_spec_DrawWriteKey, [], 0, [], [], []⟩
def fin_spec_DrawWriteKey (code0 : List Int) (kk : AV → List A1 → Prop) : Kt := fin TT con_spec_DrawWriteKey Try.f23.results.toList [.agg [.sl .int, .sl .iib, .sc], .c .sc, .c .sc] [.c (.ro .u8 code0)] kk
theorem g_spec_DrawWriteKey (code0 : List Int) (kk : AV → List A1 → Prop) :
    ev TT cs_spec_DrawWriteKey 19 an_spec_DrawWriteKey (Try.f23.body.getD .skip) (st0 con_spec_DrawWriteKey [.c (.ro .u8 code0)]) (fin TT con_spec_DrawWriteKey Try.f23.results.toList [.agg [.sl .int, .sl .iib, .sc], .c .sc, .c .sc] [.c (.ro .u8 code0)] kk) = G_spec_DrawWriteKey code0 (fun r0 r1 r2 r3 r4 => kk (.tup [.agg [.ro .int r0, .ro .iib r1, .v (.int .i64 r2)], .c (.v (.int .i64 r3)), .c (.v (.int .i64 r4))]) []) := by kernel_rfl
theorem e_spec_DrawWriteKey (code0 : List Int) (kk : AV → List A1 → Prop) :
    ev TT cs_spec_DrawWriteKey 19 an_spec_DrawWriteKey (Try.f23.body.getD .skip) (st0 con_spec_DrawWriteKey [.c (.ro .u8 code0)]) (fin TT con_spec_DrawWriteKey Try.f23.results.toList [.agg [.sl .int, .sl .iib, .sc], .c .sc, .c .sc] [.c (.ro .u8 code0)] kk) = S_spec_DrawWriteKey code0 (fun r0 r1 r2 r3 r4 => kk (.tup [.agg [.ro .int r0, .ro .iib r1, .v (.int .i64 r2)], .c (.v (.int .i64 r3)), .c (.v (.int .i64 r4))]) []) := by
  rw [g_spec_DrawWriteKey]
  rw [G_spec_DrawWriteKey_eq]
  rfl
theorem clok_spec_DrawWriteKey : ConOK Try.prog cl_spec_DrawWriteKey := consCons h_spec_someMemory ⟨Try.f34, Try.func34, by kernel_rfl, ne_of_beq (by kernel_rfl)⟩ (consCons h_spec_newReader ⟨Try.f35, Try.func35, by kernel_rfl, ne_of_beq (by kernel_rfl)⟩ (consCons h_spec_someKey ⟨Try.f42, Try.func42, by kernel_rfl, ne_of_beq (by kernel_rfl)⟩ (consCons h_spec_reader_one ⟨Try.f49, Try.func49, by kernel_rfl, ne_of_beq (by kernel_rfl)⟩ (consNil))))
theorem cok_spec_DrawWriteKey : ConsOK Try.prog 19 cs_spec_DrawWriteKey := ⟨clok_spec_DrawWriteKey, inlNil, ovNil⟩
theorem i_spec_DrawWriteKey {vs : List A1} {kk : AV → List A1 → Prop} {motive : List A1 → Prop} (h : con_spec_DrawWriteKey.F vs kk) (H : ∀ (code0 : List Int), F_spec_DrawWriteKey code0 (fun r0 r1 r2 r3 r4 => kk (.tup [.agg [.ro .int r0, .ro .iib r1, .v (.int .i64 r2)], .c (.v (.int .i64 r3)), .c (.v (.int .i64 r4))]) []) → motive [.c (.ro .u8 code0)]) : motive vs := by
  unfold con_spec_DrawWriteKey at h
  dsimp only at h
  split at h
  · exact H _ h
  · exact h.elim
theorem h_spec_DrawWriteKey : Holds Try.prog 23 con_spec_DrawWriteKey := by
  refine holds_of_ev (rt := [.agg [.sl .int, .sl .iib, .sc], .c .sc, .c .sc]) (T := TT) (Γ := cs_spec_DrawWriteKey) (an := an_spec_DrawWriteKey) (N := 19) (c := Try.f23.body.getD .skip) Try.func23 (by kernel_rfl) Try.ntmps23 (by decide) (by decide) mixed tabOK cok_spec_DrawWriteKey (by kernel_rfl) ?_
  intro vs kk _ hF
  exact i_spec_DrawWriteKey (motive := fun vs => Goes (ev TT cs_spec_DrawWriteKey 19 an_spec_DrawWriteKey (Try.f23.body.getD .skip) (st0 con_spec_DrawWriteKey vs) (fin TT con_spec_DrawWriteKey Try.f23.results.toList [.agg [.sl .int, .sl .iib, .sc], .c .sc, .c .sc] vs kk))) hF (fun code0 hF => goes_of (e_spec_DrawWriteKey code0 kk) (F_spec_DrawWriteKey_S hF))
def con_impl_validValue : Con := ⟨[.rd], true, [.c (.sc)], fun vs k => match vs with
    | [.c (.v (.int .i64 value0))] => F_impl_validValue value0 (fun r0 => k (.one (.c (.v (.bool r0)))) [])
    | _ => False, false⟩
def cl_impl_validValue : List (FuncId × Con) := []
def an_impl_validValue : Ann := ⟨[], [], [], []⟩
def cs_impl_validValue : Cons := ⟨cl_impl_validValue, [], 0, [], [], []⟩
def fin_impl_validValue (value0 : Int) (kk : AV → List A1 → Prop) : Kt := fin TT con_impl_validValue Try.f39.results.toList [.c .sc] [.c (.v (.int .i64 value0))] kk
theorem g_impl_validValue (value0 : Int) (kk : AV → List A1 → Prop) :
    ev TT cs_impl_validValue 9 an_impl_validValue (Try.f39.body.getD .skip) (st0 con_impl_validValue [.c (.v (.int .i64 value0))]) (fin TT con_impl_validValue Try.f39.results.toList [.c .sc] [.c (.v (.int .i64 value0))] kk) = G_impl_validValue value0 (fun r0 => kk (.one (.c (.v (.bool r0)))) []) := by kernel_rfl
theorem e_impl_validValue (value0 : Int) (kk : AV → List A1 → Prop) :
    ev TT cs_impl_validValue 9 an_impl_validValue (Try.f39.body.getD .skip) (st0 con_impl_validValue [.c (.v (.int .i64 value0))]) (fin TT con_impl_validValue Try.f39.results.toList [.c .sc] [.c (.v (.int .i64 value0))] kk) = S_impl_validValue value0 (fun r0 => kk (.one (.c (.v (.bool r0)))) []) := by
  rw [g_impl_validValue]
  rfl
theorem clok_impl_validValue : ConOK Try.prog cl_impl_validValue := consNil
theorem cok_impl_validValue : ConsOK Try.prog 9 cs_impl_validValue := ⟨clok_impl_validValue, inlNil, ovNil⟩
theorem i_impl_validValue {vs : List A1} {kk : AV → List A1 → Prop} {motive : List A1 → Prop} (h : con_impl_validValue.F vs kk) (H : ∀ (value0 : Int), F_impl_validValue value0 (fun r0 => kk (.one (.c (.v (.bool r0)))) []) → motive [.c (.v (.int .i64 value0))]) : motive vs := by
  unfold con_impl_validValue at h
  dsimp only at h
  split at h
  · exact H _ h
  · exact h.elim
theorem h_impl_validValue : Holds Try.prog 39 con_impl_validValue := by
  refine holds_of_ev (rt := [.c .sc]) (T := TT) (Γ := cs_impl_validValue) (an := an_impl_validValue) (N := 9) (c := Try.f39.body.getD .skip) Try.func39 (by kernel_rfl) Try.ntmps39 (by decide) (by decide) mixed tabOK cok_impl_validValue (by kernel_rfl) ?_
  intro vs kk _ hF
  exact i_impl_validValue (motive := fun vs => Goes (ev TT cs_impl_validValue 9 an_impl_validValue (Try.f39.body.getD .skip) (st0 con_impl_validValue vs) (fin TT con_impl_validValue Try.f39.results.toList [.c .sc] vs kk))) hF (fun value0 hF => goes_of (e_impl_validValue value0 kk) (F_impl_validValue_S hF))
def con_impl_validStore : Con := ⟨[.rd], true, [.c (.sl .int)], fun vs k => match vs with
    | [.c (.ro .int store0)] => F_impl_validStore store0 (fun r0 => k (.one (.c (.v (.bool r0)))) [])
    | _ => False, false⟩
def cl_impl_validStore : List (FuncId × Con) := [(39, con_impl_validValue)]
def nm0_impl_validStore : List NStep := [.keep [8, 9, 10] []]
def an_impl_validStore : Ann := ⟨[], [(4, nm0_impl_validStore)], [], []⟩
def cs_impl_validStore : Cons := ⟨cl_impl_validStore, [], 0, [], [], []⟩
def can0_impl_validStore (store0 : List Int) (xt9 : Int) (xt10 : Int) : St := ⟨[(8, .one (.c (.ro .int store0))), (9, .one (.c (.v (.int .i64 xt9)))), (10, .one (.c (.v (.int .i64 xt10))))], []⟩
def fin_impl_validStore (store0 : List Int) (kk : AV → List A1 → Prop) : Kt := fin TT con_impl_validStore Try.f36.results.toList [.c .sc] [.c (.ro .int store0)] kk
def kt0_impl_validStore (kf : Kt) : Kt := blockK 0 (seqK (evF TT cs_impl_validStore 18 an_impl_validStore Try.f36 [1, 1, 1]) (kf))
theorem r0_impl_validStore (store0 : List Int) (xt9 : Int) (kk : AV → List A1 → Prop) (n : Nat) (xt10 : Int) :
    iter (evF TT cs_impl_validStore 18 an_impl_validStore Try.f36 [1, 1, 0, 1, 0, 0]) nm0_impl_validStore (kt0_impl_validStore (fin_impl_validStore store0 kk)) (n + 1) (can0_impl_validStore store0 xt9 xt10) = T0_impl_validStore store0 xt9 xt10 (fun r0 => kk (.one (.c (.v (.bool r0)))) []) (fun xt10 => iter (evF TT cs_impl_validStore 18 an_impl_validStore Try.f36 [1, 1, 0, 1, 0, 0]) nm0_impl_validStore (kt0_impl_validStore (fin_impl_validStore store0 kk)) n (can0_impl_validStore store0 xt9 xt10)) := by kernel_rfl
theorem l0_impl_validStore (store0 : List Int) (xt9 : Int) (kk : AV → List A1 → Prop) : ∀ (n : Nat) (xt10 : Int), iter (evF TT cs_impl_validStore 18 an_impl_validStore Try.f36 [1, 1, 0, 1, 0, 0]) nm0_impl_validStore (kt0_impl_validStore (fin_impl_validStore store0 kk)) n (can0_impl_validStore store0 xt9 xt10) = L0_impl_validStore store0 xt9 (fun r0 => kk (.one (.c (.v (.bool r0)))) []) n xt10 := by
  intro n
  induction n with
  | zero => intros; rfl
  | succ n ih =>
    intro xt10
    rw [r0_impl_validStore store0 xt9 kk n xt10]
    have hb : (fun xt10 => iter (evF TT cs_impl_validStore 18 an_impl_validStore Try.f36 [1, 1, 0, 1, 0, 0]) nm0_impl_validStore (kt0_impl_validStore (fin_impl_validStore store0 kk)) n (can0_impl_validStore store0 xt9 xt10)) = L0_impl_validStore store0 xt9 (fun r0 => kk (.one (.c (.v (.bool r0)))) []) n := by
      funext xt10; exact ih xt10
    rw [hb]
    rfl
theorem g_impl_validStore (store0 : List Int) (kk : AV → List A1 → Prop) :
    ev TT cs_impl_validStore 18 an_impl_validStore (Try.f36.body.getD .skip) (st0 con_impl_validStore [.c (.ro .int store0)]) (fin TT con_impl_validStore Try.f36.results.toList [.c .sc] [.c (.ro .int store0)] kk) = G_impl_validStore store0 (fun r0 => kk (.one (.c (.v (.bool r0)))) []) (fun store0 xt9 xt10 => ∃ j, iter (evF TT cs_impl_validStore 18 an_impl_validStore Try.f36 [1, 1, 0, 1, 0, 0]) nm0_impl_validStore (kt0_impl_validStore (fin_impl_validStore store0 kk)) j (can0_impl_validStore store0 xt9 xt10)) := by kernel_rfl
theorem e_impl_validStore (store0 : List Int) (kk : AV → List A1 → Prop) :
    ev TT cs_impl_validStore 18 an_impl_validStore (Try.f36.body.getD .skip) (st0 con_impl_validStore [.c (.ro .int store0)]) (fin TT con_impl_validStore Try.f36.results.toList [.c .sc] [.c (.ro .int store0)] kk) = S_impl_validStore store0 (fun r0 => kk (.one (.c (.v (.bool r0)))) []) := by
  rw [g_impl_validStore]
  have hi0 : (fun store0 xt9 xt10 => ∃ j, iter (evF TT cs_impl_validStore 18 an_impl_validStore Try.f36 [1, 1, 0, 1, 0, 0]) nm0_impl_validStore (kt0_impl_validStore (fin_impl_validStore store0 kk)) j (can0_impl_validStore store0 xt9 xt10)) = (fun store0 xt9 xt10 => ∃ j, L0_impl_validStore store0 xt9 (fun r0 => kk (.one (.c (.v (.bool r0)))) []) j xt10) := by
    funext store0 xt9 xt10
    refine congrArg Exists (funext fun j => ?_)
    rw [l0_impl_validStore store0 xt9 kk j xt10]
  rw [hi0]
  rfl
theorem clok_impl_validStore : ConOK Try.prog cl_impl_validStore := consCons h_impl_validValue ⟨Try.f39, Try.func39, by kernel_rfl, ne_of_beq (by kernel_rfl)⟩ (consNil)
theorem cok_impl_validStore : ConsOK Try.prog 18 cs_impl_validStore := ⟨clok_impl_validStore, inlNil, ovNil⟩
theorem i_impl_validStore {vs : List A1} {kk : AV → List A1 → Prop} {motive : List A1 → Prop} (h : con_impl_validStore.F vs kk) (H : ∀ (store0 : List Int), F_impl_validStore store0 (fun r0 => kk (.one (.c (.v (.bool r0)))) []) → motive [.c (.ro .int store0)]) : motive vs := by
  unfold con_impl_validStore at h
  dsimp only at h
  split at h
  · exact H _ h
  · exact h.elim
theorem h_impl_validStore : Holds Try.prog 36 con_impl_validStore := by
  refine holds_of_ev (rt := [.c .sc]) (T := TT) (Γ := cs_impl_validStore) (an := an_impl_validStore) (N := 18) (c := Try.f36.body.getD .skip) Try.func36 (by kernel_rfl) Try.ntmps36 (by decide) (by decide) mixed tabOK cok_impl_validStore (by kernel_rfl) ?_
  intro vs kk _ hF
  exact i_impl_validStore (motive := fun vs => Goes (ev TT cs_impl_validStore 18 an_impl_validStore (Try.f36.body.getD .skip) (st0 con_impl_validStore vs) (fin TT con_impl_validStore Try.f36.results.toList [.c .sc] vs kk))) hF (fun store0 hF => goes_of (e_impl_validStore store0 kk) (F_impl_validStore_S hF))
def con_impl_lineKeys : Con := ⟨[.rd], true, [.c (.sl .iib)], fun vs k => match vs with
    | [.c (.ro .iib lines0)] => F_impl_lineKeys lines0 (fun r0 => k (.one (.c (.ro .int r0))) [])
    | _ => False, false⟩
def cl_impl_lineKeys : List (FuncId × Con) := []
def nm0_impl_lineKeys : List NStep := [.own 3 .int 90000, .keep [3, 7, 8, 9] [90000]]
def an_impl_lineKeys : Ann := ⟨[], [(3, nm0_impl_lineKeys)], [], []⟩
def cs_impl_lineKeys : Cons := ⟨cl_impl_lineKeys, [], 0, [], [], []⟩
def can0_impl_lineKeys (lines0 : List (Int × Int × Bool)) (xt8 : Int) (xt9 : Int) (xout3 : List Int) : St := ⟨[(3, .one (.c (.ow 90000))), (7, .one (.c (.ro .iib lines0))), (8, .one (.c (.v (.int .i64 xt8)))), (9, .one (.c (.v (.int .i64 xt9))))], [(90000, .row .int xout3)]⟩
def fin_impl_lineKeys (lines0 : List (Int × Int × Bool)) (kk : AV → List A1 → Prop) : Kt := fin TT con_impl_lineKeys Try.f38.results.toList [.c (.sl .int)] [.c (.ro .iib lines0)] kk
def kt0_impl_lineKeys (kf : Kt) : Kt := blockK 0 (seqK (evF TT cs_impl_lineKeys 20 an_impl_lineKeys Try.f38 [1, 1, 1]) (kf))
theorem r0_impl_lineKeys (lines0 : List (Int × Int × Bool)) (xt8 : Int) (kk : AV → List A1 → Prop) (n : Nat) (xt9 : Int) (xout3 : List Int) :
    iter (evF TT cs_impl_lineKeys 20 an_impl_lineKeys Try.f38 [1, 1, 0, 1, 0, 0]) nm0_impl_lineKeys (kt0_impl_lineKeys (fin_impl_lineKeys lines0 kk)) (n + 1) (can0_impl_lineKeys lines0 xt8 xt9 xout3) = T0_impl_lineKeys lines0 xt8 xt9 xout3 (fun r0 => kk (.one (.c (.ro .int r0))) []) (fun xt9 xout3 => iter (evF TT cs_impl_lineKeys 20 an_impl_lineKeys Try.f38 [1, 1, 0, 1, 0, 0]) nm0_impl_lineKeys (kt0_impl_lineKeys (fin_impl_lineKeys lines0 kk)) n (can0_impl_lineKeys lines0 xt8 xt9 xout3)) := by kernel_rfl
theorem l0_impl_lineKeys (lines0 : List (Int × Int × Bool)) (xt8 : Int) (kk : AV → List A1 → Prop) : ∀ (n : Nat) (xt9 : Int) (xout3 : List Int), iter (evF TT cs_impl_lineKeys 20 an_impl_lineKeys Try.f38 [1, 1, 0, 1, 0, 0]) nm0_impl_lineKeys (kt0_impl_lineKeys (fin_impl_lineKeys lines0 kk)) n (can0_impl_lineKeys lines0 xt8 xt9 xout3) = L0_impl_lineKeys lines0 xt8 (fun r0 => kk (.one (.c (.ro .int r0))) []) n xt9 xout3 := by
  intro n
  induction n with
  | zero => intros; rfl
  | succ n ih =>
    intro xt9 xout3
    rw [r0_impl_lineKeys lines0 xt8 kk n xt9 xout3]
    have hb : (fun xt9 xout3 => iter (evF TT cs_impl_lineKeys 20 an_impl_lineKeys Try.f38 [1, 1, 0, 1, 0, 0]) nm0_impl_lineKeys (kt0_impl_lineKeys (fin_impl_lineKeys lines0 kk)) n (can0_impl_lineKeys lines0 xt8 xt9 xout3)) = L0_impl_lineKeys lines0 xt8 (fun r0 => kk (.one (.c (.ro .int r0))) []) n := by
      funext xt9 xout3; exact ih xt9 xout3
    rw [hb]
    rfl
theorem g_impl_lineKeys (lines0 : List (Int × Int × Bool)) (kk : AV → List A1 → Prop) :
    ev TT cs_impl_lineKeys 20 an_impl_lineKeys (Try.f38.body.getD .skip) (st0 con_impl_lineKeys [.c (.ro .iib lines0)]) (fin TT con_impl_lineKeys Try.f38.results.toList [.c (.sl .int)] [.c (.ro .iib lines0)] kk) = G_impl_lineKeys lines0 (fun lines0 xt8 xt9 xout3 => ∃ j, iter (evF TT cs_impl_lineKeys 20 an_impl_lineKeys Try.f38 [1, 1, 0, 1, 0, 0]) nm0_impl_lineKeys (kt0_impl_lineKeys (fin_impl_lineKeys lines0 kk)) j (can0_impl_lineKeys lines0 xt8 xt9 xout3)) := by kernel_rfl
theorem e_impl_lineKeys (lines0 : List (Int × Int × Bool)) (kk : AV → List A1 → Prop) :
    ev TT cs_impl_lineKeys 20 an_impl_lineKeys (Try.f38.body.getD .skip) (st0 con_impl_lineKeys [.c (.ro .iib lines0)]) (fin TT con_impl_lineKeys Try.f38.results.toList [.c (.sl .int)] [.c (.ro .iib lines0)] kk) = S_impl_lineKeys lines0 (fun r0 => kk (.one (.c (.ro .int r0))) []) := by
  rw [g_impl_lineKeys]
  have hi0 : (fun lines0 xt8 xt9 xout3 => ∃ j, iter (evF TT cs_impl_lineKeys 20 an_impl_lineKeys Try.f38 [1, 1, 0, 1, 0, 0]) nm0_impl_lineKeys (kt0_impl_lineKeys (fin_impl_lineKeys lines0 kk)) j (can0_impl_lineKeys lines0 xt8 xt9 xout3)) = (fun lines0 xt8 xt9 xout3 => ∃ j, L0_impl_lineKeys lines0 xt8 (fun r0 => kk (.one (.c (.ro .int r0))) []) j xt9 xout3) := by
    funext lines0 xt8 xt9 xout3
    refine congrArg Exists (funext fun j => ?_)
    rw [l0_impl_lineKeys lines0 xt8 kk j xt9 xout3]
  rw [hi0]
  rfl
theorem clok_impl_lineKeys : ConOK Try.prog cl_impl_lineKeys := consNil
theorem cok_impl_lineKeys : ConsOK Try.prog 20 cs_impl_lineKeys := ⟨clok_impl_lineKeys, inlNil, ovNil⟩
theorem i_impl_lineKeys {vs : List A1} {kk : AV → List A1 → Prop} {motive : List A1 → Prop} (h : con_impl_lineKeys.F vs kk) (H : ∀ (lines0 : List (Int × Int × Bool)), F_impl_lineKeys lines0 (fun r0 => kk (.one (.c (.ro .int r0))) []) → motive [.c (.ro .iib lines0)]) : motive vs := by
  unfold con_impl_lineKeys at h
  dsimp only at h
  split at h
  · exact H _ h
  · exact h.elim
theorem h_impl_lineKeys : Holds Try.prog 38 con_impl_lineKeys := by
  refine holds_of_ev (rt := [.c (.sl .int)]) (T := TT) (Γ := cs_impl_lineKeys) (an := an_impl_lineKeys) (N := 20) (c := Try.f38.body.getD .skip) Try.func38 (by kernel_rfl) Try.ntmps38 (by decide) (by decide) mixed tabOK cok_impl_lineKeys (by kernel_rfl) ?_
  intro vs kk _ hF
  exact i_impl_lineKeys (motive := fun vs => Goes (ev TT cs_impl_lineKeys 20 an_impl_lineKeys (Try.f38.body.getD .skip) (st0 con_impl_lineKeys vs) (fin TT con_impl_lineKeys Try.f38.results.toList [.c (.sl .int)] vs kk))) hF (fun lines0 hF => goes_of (e_impl_lineKeys lines0 kk) (F_impl_lineKeys_S hF))
def con_impl_validRoom : Con := ⟨[.rd], true, [.c (.sc)], fun vs k => match vs with
    | [.c (.v (.int .i64 room0))] => F_impl_validRoom room0 (fun r0 => k (.one (.c (.v (.bool r0)))) [])
    | _ => False, false⟩
def cl_impl_validRoom : List (FuncId × Con) := []
def an_impl_validRoom : Ann := ⟨[], [], [], []⟩
def cs_impl_validRoom : Cons := ⟨cl_impl_validRoom, [], 0, [], [], []⟩
def fin_impl_validRoom (room0 : Int) (kk : AV → List A1 → Prop) : Kt := fin TT con_impl_validRoom Try.f53.results.toList [.c .sc] [.c (.v (.int .i64 room0))] kk
theorem g_impl_validRoom (room0 : Int) (kk : AV → List A1 → Prop) :
    ev TT cs_impl_validRoom 9 an_impl_validRoom (Try.f53.body.getD .skip) (st0 con_impl_validRoom [.c (.v (.int .i64 room0))]) (fin TT con_impl_validRoom Try.f53.results.toList [.c .sc] [.c (.v (.int .i64 room0))] kk) = G_impl_validRoom room0 (fun r0 => kk (.one (.c (.v (.bool r0)))) []) := by kernel_rfl
theorem e_impl_validRoom (room0 : Int) (kk : AV → List A1 → Prop) :
    ev TT cs_impl_validRoom 9 an_impl_validRoom (Try.f53.body.getD .skip) (st0 con_impl_validRoom [.c (.v (.int .i64 room0))]) (fin TT con_impl_validRoom Try.f53.results.toList [.c .sc] [.c (.v (.int .i64 room0))] kk) = S_impl_validRoom room0 (fun r0 => kk (.one (.c (.v (.bool r0)))) []) := by
  rw [g_impl_validRoom]
  rfl
theorem clok_impl_validRoom : ConOK Try.prog cl_impl_validRoom := consNil
theorem cok_impl_validRoom : ConsOK Try.prog 9 cs_impl_validRoom := ⟨clok_impl_validRoom, inlNil, ovNil⟩
theorem i_impl_validRoom {vs : List A1} {kk : AV → List A1 → Prop} {motive : List A1 → Prop} (h : con_impl_validRoom.F vs kk) (H : ∀ (room0 : Int), F_impl_validRoom room0 (fun r0 => kk (.one (.c (.v (.bool r0)))) []) → motive [.c (.v (.int .i64 room0))]) : motive vs := by
  unfold con_impl_validRoom at h
  dsimp only at h
  split at h
  · exact H _ h
  · exact h.elim
theorem h_impl_validRoom : Holds Try.prog 53 con_impl_validRoom := by
  refine holds_of_ev (rt := [.c .sc]) (T := TT) (Γ := cs_impl_validRoom) (an := an_impl_validRoom) (N := 9) (c := Try.f53.body.getD .skip) Try.func53 (by kernel_rfl) Try.ntmps53 (by decide) (by decide) mixed tabOK cok_impl_validRoom (by kernel_rfl) ?_
  intro vs kk _ hF
  exact i_impl_validRoom (motive := fun vs => Goes (ev TT cs_impl_validRoom 9 an_impl_validRoom (Try.f53.body.getD .skip) (st0 con_impl_validRoom vs) (fin TT con_impl_validRoom Try.f53.results.toList [.c .sc] vs kk))) hF (fun room0 hF => goes_of (e_impl_validRoom room0 kk) (F_impl_validRoom_S hF))
def con_impl_validKey : Con := ⟨[.rd], true, [.c (.sc)], fun vs k => match vs with
    | [.c (.v (.int .i64 key0))] => F_impl_validKey key0 (fun r0 => k (.one (.c (.v (.bool r0)))) [])
    | _ => False, false⟩
def cl_impl_validKey : List (FuncId × Con) := []
def an_impl_validKey : Ann := ⟨[], [], [], []⟩
def cs_impl_validKey : Cons := ⟨cl_impl_validKey, [], 0, [], [], []⟩
def fin_impl_validKey (key0 : Int) (kk : AV → List A1 → Prop) : Kt := fin TT con_impl_validKey Try.f43.results.toList [.c .sc] [.c (.v (.int .i64 key0))] kk
theorem g_impl_validKey (key0 : Int) (kk : AV → List A1 → Prop) :
    ev TT cs_impl_validKey 9 an_impl_validKey (Try.f43.body.getD .skip) (st0 con_impl_validKey [.c (.v (.int .i64 key0))]) (fin TT con_impl_validKey Try.f43.results.toList [.c .sc] [.c (.v (.int .i64 key0))] kk) = G_impl_validKey key0 (fun r0 => kk (.one (.c (.v (.bool r0)))) []) := by kernel_rfl
theorem e_impl_validKey (key0 : Int) (kk : AV → List A1 → Prop) :
    ev TT cs_impl_validKey 9 an_impl_validKey (Try.f43.body.getD .skip) (st0 con_impl_validKey [.c (.v (.int .i64 key0))]) (fin TT con_impl_validKey Try.f43.results.toList [.c .sc] [.c (.v (.int .i64 key0))] kk) = S_impl_validKey key0 (fun r0 => kk (.one (.c (.v (.bool r0)))) []) := by
  rw [g_impl_validKey]
  rfl
theorem clok_impl_validKey : ConOK Try.prog cl_impl_validKey := consNil
theorem cok_impl_validKey : ConsOK Try.prog 9 cs_impl_validKey := ⟨clok_impl_validKey, inlNil, ovNil⟩
theorem i_impl_validKey {vs : List A1} {kk : AV → List A1 → Prop} {motive : List A1 → Prop} (h : con_impl_validKey.F vs kk) (H : ∀ (key0 : Int), F_impl_validKey key0 (fun r0 => kk (.one (.c (.v (.bool r0)))) []) → motive [.c (.v (.int .i64 key0))]) : motive vs := by
  unfold con_impl_validKey at h
  dsimp only at h
  split at h
  · exact H _ h
  · exact h.elim
theorem h_impl_validKey : Holds Try.prog 43 con_impl_validKey := by
  refine holds_of_ev (rt := [.c .sc]) (T := TT) (Γ := cs_impl_validKey) (an := an_impl_validKey) (N := 9) (c := Try.f43.body.getD .skip) Try.func43 (by kernel_rfl) Try.ntmps43 (by decide) (by decide) mixed tabOK cok_impl_validKey (by kernel_rfl) ?_
  intro vs kk _ hF
  exact i_impl_validKey (motive := fun vs => Goes (ev TT cs_impl_validKey 9 an_impl_validKey (Try.f43.body.getD .skip) (st0 con_impl_validKey vs) (fin TT con_impl_validKey Try.f43.results.toList [.c .sc] vs kk))) hF (fun key0 hF => goes_of (e_impl_validKey key0 kk) (F_impl_validKey_S hF))
def con_slices_Index_sint_int : Con := ⟨[.rd, .rd], true, [.c (.sl .int), .c (.sc)], fun vs k => match vs with
    | [.c (.ro .int s0), .c (.v (.int .i64 v1))] => F_slices_Index_sint_int s0 v1 (fun r0 => k (.one (.c (.v (.int .i64 r0)))) [])
    | _ => False, false⟩
def cl_slices_Index_sint_int : List (FuncId × Con) := []
def nm0_slices_Index_sint_int : List NStep := [.keep [0, 1, 7, 8] []]
def an_slices_Index_sint_int : Ann := ⟨[], [(2, nm0_slices_Index_sint_int)], [], []⟩
def cs_slices_Index_sint_int : Cons := ⟨cl_slices_Index_sint_int, [], 0, [], [], []⟩
def can0_slices_Index_sint_int (s0 : List Int) (v1 : Int) (xt7 : Int) (xt8 : Int) : St := ⟨[(0, .one (.c (.ro .int s0))), (1, .one (.c (.v (.int .i64 v1)))), (7, .one (.c (.v (.int .i64 xt7)))), (8, .one (.c (.v (.int .i64 xt8))))], []⟩
def fin_slices_Index_sint_int (s0 : List Int) (v1 : Int) (kk : AV → List A1 → Prop) : Kt := fin TT con_slices_Index_sint_int Try.f61.results.toList [.c .sc] [.c (.ro .int s0), .c (.v (.int .i64 v1))] kk
def kt0_slices_Index_sint_int (kf : Kt) : Kt := blockK 0 (seqK (evF TT cs_slices_Index_sint_int 19 an_slices_Index_sint_int Try.f61 [1, 1]) (kf))
theorem r0_slices_Index_sint_int (s0 : List Int) (v1 : Int) (xt7 : Int) (kk : AV → List A1 → Prop) (n : Nat) (xt8 : Int) :
    iter (evF TT cs_slices_Index_sint_int 19 an_slices_Index_sint_int Try.f61 [1, 0, 1, 0, 0]) nm0_slices_Index_sint_int (kt0_slices_Index_sint_int (fin_slices_Index_sint_int s0 v1 kk)) (n + 1) (can0_slices_Index_sint_int s0 v1 xt7 xt8) = T0_slices_Index_sint_int s0 v1 xt7 xt8 (fun r0 => kk (.one (.c (.v (.int .i64 r0)))) []) (fun xt8 => iter (evF TT cs_slices_Index_sint_int 19 an_slices_Index_sint_int Try.f61 [1, 0, 1, 0, 0]) nm0_slices_Index_sint_int (kt0_slices_Index_sint_int (fin_slices_Index_sint_int s0 v1 kk)) n (can0_slices_Index_sint_int s0 v1 xt7 xt8)) := by kernel_rfl
theorem l0_slices_Index_sint_int (s0 : List Int) (v1 : Int) (xt7 : Int) (kk : AV → List A1 → Prop) : ∀ (n : Nat) (xt8 : Int), iter (evF TT cs_slices_Index_sint_int 19 an_slices_Index_sint_int Try.f61 [1, 0, 1, 0, 0]) nm0_slices_Index_sint_int (kt0_slices_Index_sint_int (fin_slices_Index_sint_int s0 v1 kk)) n (can0_slices_Index_sint_int s0 v1 xt7 xt8) = L0_slices_Index_sint_int s0 v1 xt7 (fun r0 => kk (.one (.c (.v (.int .i64 r0)))) []) n xt8 := by
  intro n
  induction n with
  | zero => intros; rfl
  | succ n ih =>
    intro xt8
    rw [r0_slices_Index_sint_int s0 v1 xt7 kk n xt8]
    have hb : (fun xt8 => iter (evF TT cs_slices_Index_sint_int 19 an_slices_Index_sint_int Try.f61 [1, 0, 1, 0, 0]) nm0_slices_Index_sint_int (kt0_slices_Index_sint_int (fin_slices_Index_sint_int s0 v1 kk)) n (can0_slices_Index_sint_int s0 v1 xt7 xt8)) = L0_slices_Index_sint_int s0 v1 xt7 (fun r0 => kk (.one (.c (.v (.int .i64 r0)))) []) n := by
      funext xt8; exact ih xt8
    rw [hb]
    rfl
theorem g_slices_Index_sint_int (s0 : List Int) (v1 : Int) (kk : AV → List A1 → Prop) :
    ev TT cs_slices_Index_sint_int 19 an_slices_Index_sint_int (Try.f61.body.getD .skip) (st0 con_slices_Index_sint_int [.c (.ro .int s0), .c (.v (.int .i64 v1))]) (fin TT con_slices_Index_sint_int Try.f61.results.toList [.c .sc] [.c (.ro .int s0), .c (.v (.int .i64 v1))] kk) = G_slices_Index_sint_int s0 v1 (fun s0 v1 xt7 xt8 => ∃ j, iter (evF TT cs_slices_Index_sint_int 19 an_slices_Index_sint_int Try.f61 [1, 0, 1, 0, 0]) nm0_slices_Index_sint_int (kt0_slices_Index_sint_int (fin_slices_Index_sint_int s0 v1 kk)) j (can0_slices_Index_sint_int s0 v1 xt7 xt8)) := by kernel_rfl
theorem e_slices_Index_sint_int (s0 : List Int) (v1 : Int) (kk : AV → List A1 → Prop) :
    ev TT cs_slices_Index_sint_int 19 an_slices_Index_sint_int (Try.f61.body.getD .skip) (st0 con_slices_Index_sint_int [.c (.ro .int s0), .c (.v (.int .i64 v1))]) (fin TT con_slices_Index_sint_int Try.f61.results.toList [.c .sc] [.c (.ro .int s0), .c (.v (.int .i64 v1))] kk) = S_slices_Index_sint_int s0 v1 (fun r0 => kk (.one (.c (.v (.int .i64 r0)))) []) := by
  rw [g_slices_Index_sint_int]
  have hi0 : (fun s0 v1 xt7 xt8 => ∃ j, iter (evF TT cs_slices_Index_sint_int 19 an_slices_Index_sint_int Try.f61 [1, 0, 1, 0, 0]) nm0_slices_Index_sint_int (kt0_slices_Index_sint_int (fin_slices_Index_sint_int s0 v1 kk)) j (can0_slices_Index_sint_int s0 v1 xt7 xt8)) = (fun s0 v1 xt7 xt8 => ∃ j, L0_slices_Index_sint_int s0 v1 xt7 (fun r0 => kk (.one (.c (.v (.int .i64 r0)))) []) j xt8) := by
    funext s0 v1 xt7 xt8
    refine congrArg Exists (funext fun j => ?_)
    rw [l0_slices_Index_sint_int s0 v1 xt7 kk j xt8]
  rw [hi0]
  rfl
theorem clok_slices_Index_sint_int : ConOK Try.prog cl_slices_Index_sint_int := consNil
theorem cok_slices_Index_sint_int : ConsOK Try.prog 19 cs_slices_Index_sint_int := ⟨clok_slices_Index_sint_int, inlNil, ovNil⟩
theorem i_slices_Index_sint_int {vs : List A1} {kk : AV → List A1 → Prop} {motive : List A1 → Prop} (h : con_slices_Index_sint_int.F vs kk) (H : ∀ (s0 : List Int) (v1 : Int), F_slices_Index_sint_int s0 v1 (fun r0 => kk (.one (.c (.v (.int .i64 r0)))) []) → motive [.c (.ro .int s0), .c (.v (.int .i64 v1))]) : motive vs := by
  unfold con_slices_Index_sint_int at h
  dsimp only at h
  split at h
  · exact H _ _ h
  · exact h.elim
theorem h_slices_Index_sint_int : Holds Try.prog 61 con_slices_Index_sint_int := by
  refine holds_of_ev (rt := [.c .sc]) (T := TT) (Γ := cs_slices_Index_sint_int) (an := an_slices_Index_sint_int) (N := 19) (c := Try.f61.body.getD .skip) Try.func61 (by kernel_rfl) Try.ntmps61 (by decide) (by decide) mixed tabOK cok_slices_Index_sint_int (by kernel_rfl) ?_
  intro vs kk _ hF
  exact i_slices_Index_sint_int (motive := fun vs => Goes (ev TT cs_slices_Index_sint_int 19 an_slices_Index_sint_int (Try.f61.body.getD .skip) (st0 con_slices_Index_sint_int vs) (fin TT con_slices_Index_sint_int Try.f61.results.toList [.c .sc] vs kk))) hF (fun s0 v1 hF => goes_of (e_slices_Index_sint_int s0 v1 kk) (F_slices_Index_sint_int_S hF))
def con_slices_Contains_sint_int : Con := ⟨[.rd, .rd], true, [.c (.sl .int), .c (.sc)], fun vs k => match vs with
    | [.c (.ro .int s0), .c (.v (.int .i64 v1))] => F_slices_Contains_sint_int s0 v1 (fun r0 => k (.one (.c (.v (.bool r0)))) [])
    | _ => False, false⟩
def cl_slices_Contains_sint_int : List (FuncId × Con) := [(61, con_slices_Index_sint_int)]
def an_slices_Contains_sint_int : Ann := ⟨[], [], [], []⟩
def cs_slices_Contains_sint_int : Cons := ⟨cl_slices_Contains_sint_int, [], 0, [], [], []⟩
def fin_slices_Contains_sint_int (s0 : List Int) (v1 : Int) (kk : AV → List A1 → Prop) : Kt := fin TT con_slices_Contains_sint_int Try.f60.results.toList [.c .sc] [.c (.ro .int s0), .c (.v (.int .i64 v1))] kk
theorem g_slices_Contains_sint_int (s0 : List Int) (v1 : Int) (kk : AV → List A1 → Prop) :
    ev TT cs_slices_Contains_sint_int 9 an_slices_Contains_sint_int (Try.f60.body.getD .skip) (st0 con_slices_Contains_sint_int [.c (.ro .int s0), .c (.v (.int .i64 v1))]) (fin TT con_slices_Contains_sint_int Try.f60.results.toList [.c .sc] [.c (.ro .int s0), .c (.v (.int .i64 v1))] kk) = G_slices_Contains_sint_int s0 v1 (fun r0 => kk (.one (.c (.v (.bool r0)))) []) := by kernel_rfl
theorem e_slices_Contains_sint_int (s0 : List Int) (v1 : Int) (kk : AV → List A1 → Prop) :
    ev TT cs_slices_Contains_sint_int 9 an_slices_Contains_sint_int (Try.f60.body.getD .skip) (st0 con_slices_Contains_sint_int [.c (.ro .int s0), .c (.v (.int .i64 v1))]) (fin TT con_slices_Contains_sint_int Try.f60.results.toList [.c .sc] [.c (.ro .int s0), .c (.v (.int .i64 v1))] kk) = S_slices_Contains_sint_int s0 v1 (fun r0 => kk (.one (.c (.v (.bool r0)))) []) := by
  rw [g_slices_Contains_sint_int]
  rfl
theorem clok_slices_Contains_sint_int : ConOK Try.prog cl_slices_Contains_sint_int := consCons h_slices_Index_sint_int ⟨Try.f61, Try.func61, by kernel_rfl, ne_of_beq (by kernel_rfl)⟩ (consNil)
theorem cok_slices_Contains_sint_int : ConsOK Try.prog 9 cs_slices_Contains_sint_int := ⟨clok_slices_Contains_sint_int, inlNil, ovNil⟩
theorem i_slices_Contains_sint_int {vs : List A1} {kk : AV → List A1 → Prop} {motive : List A1 → Prop} (h : con_slices_Contains_sint_int.F vs kk) (H : ∀ (s0 : List Int) (v1 : Int), F_slices_Contains_sint_int s0 v1 (fun r0 => kk (.one (.c (.v (.bool r0)))) []) → motive [.c (.ro .int s0), .c (.v (.int .i64 v1))]) : motive vs := by
  unfold con_slices_Contains_sint_int at h
  dsimp only at h
  split at h
  · exact H _ _ h
  · exact h.elim
theorem h_slices_Contains_sint_int : Holds Try.prog 60 con_slices_Contains_sint_int := by
  refine holds_of_ev (rt := [.c .sc]) (T := TT) (Γ := cs_slices_Contains_sint_int) (an := an_slices_Contains_sint_int) (N := 9) (c := Try.f60.body.getD .skip) Try.func60 (by kernel_rfl) Try.ntmps60 (by decide) (by decide) mixed tabOK cok_slices_Contains_sint_int (by kernel_rfl) ?_
  intro vs kk _ hF
  exact i_slices_Contains_sint_int (motive := fun vs => Goes (ev TT cs_slices_Contains_sint_int 9 an_slices_Contains_sint_int (Try.f60.body.getD .skip) (st0 con_slices_Contains_sint_int vs) (fin TT con_slices_Contains_sint_int Try.f60.results.toList [.c .sc] vs kk))) hF (fun s0 v1 hF => goes_of (e_slices_Contains_sint_int s0 v1 kk) (F_slices_Contains_sint_int_S hF))
def con_impl_differentKeys : Con := ⟨[.rd], true, [.c (.sl .int)], fun vs k => match vs with
    | [.c (.ro .int list0)] => F_impl_differentKeys list0 (fun r0 => k (.one (.c (.v (.bool r0)))) [])
    | _ => False, false⟩
def cl_impl_differentKeys : List (FuncId × Con) := [(43, con_impl_validKey), (60, con_slices_Contains_sint_int)]
def nm0_impl_differentKeys : List NStep := [.keep [0, 5, 6, 7] []]
def an_impl_differentKeys : Ann := ⟨[], [(2, nm0_impl_differentKeys)], [], []⟩
def cs_impl_differentKeys : Cons := ⟨cl_impl_differentKeys, [], 0, [], [], []⟩
def can0_impl_differentKeys (list0 : List Int) (xt6 : Int) (xt7 : Int) : St := ⟨[(0, .one (.c (.ro .int list0))), (5, .one (.c (.ro .int list0))), (6, .one (.c (.v (.int .i64 xt6)))), (7, .one (.c (.v (.int .i64 xt7))))], []⟩
def fin_impl_differentKeys (list0 : List Int) (kk : AV → List A1 → Prop) : Kt := fin TT con_impl_differentKeys Try.f54.results.toList [.c .sc] [.c (.ro .int list0)] kk
def kt0_impl_differentKeys (kf : Kt) : Kt := blockK 0 (seqK (evF TT cs_impl_differentKeys 23 an_impl_differentKeys Try.f54 [1, 1]) (kf))
theorem r0_impl_differentKeys (list0 : List Int) (xt6 : Int) (kk : AV → List A1 → Prop) (n : Nat) (xt7 : Int) :
    iter (evF TT cs_impl_differentKeys 23 an_impl_differentKeys Try.f54 [1, 0, 1, 0, 0]) nm0_impl_differentKeys (kt0_impl_differentKeys (fin_impl_differentKeys list0 kk)) (n + 1) (can0_impl_differentKeys list0 xt6 xt7) = T0_impl_differentKeys list0 xt6 xt7 (fun r0 => kk (.one (.c (.v (.bool r0)))) []) (fun xt7 => iter (evF TT cs_impl_differentKeys 23 an_impl_differentKeys Try.f54 [1, 0, 1, 0, 0]) nm0_impl_differentKeys (kt0_impl_differentKeys (fin_impl_differentKeys list0 kk)) n (can0_impl_differentKeys list0 xt6 xt7)) := by kernel_rfl
theorem l0_impl_differentKeys (list0 : List Int) (xt6 : Int) (kk : AV → List A1 → Prop) : ∀ (n : Nat) (xt7 : Int), iter (evF TT cs_impl_differentKeys 23 an_impl_differentKeys Try.f54 [1, 0, 1, 0, 0]) nm0_impl_differentKeys (kt0_impl_differentKeys (fin_impl_differentKeys list0 kk)) n (can0_impl_differentKeys list0 xt6 xt7) = L0_impl_differentKeys list0 xt6 (fun r0 => kk (.one (.c (.v (.bool r0)))) []) n xt7 := by
  intro n
  induction n with
  | zero => intros; rfl
  | succ n ih =>
    intro xt7
    rw [r0_impl_differentKeys list0 xt6 kk n xt7]
    have hb : (fun xt7 => iter (evF TT cs_impl_differentKeys 23 an_impl_differentKeys Try.f54 [1, 0, 1, 0, 0]) nm0_impl_differentKeys (kt0_impl_differentKeys (fin_impl_differentKeys list0 kk)) n (can0_impl_differentKeys list0 xt6 xt7)) = L0_impl_differentKeys list0 xt6 (fun r0 => kk (.one (.c (.v (.bool r0)))) []) n := by
      funext xt7; exact ih xt7
    rw [hb]
    rfl
theorem g_impl_differentKeys (list0 : List Int) (kk : AV → List A1 → Prop) :
    ev TT cs_impl_differentKeys 23 an_impl_differentKeys (Try.f54.body.getD .skip) (st0 con_impl_differentKeys [.c (.ro .int list0)]) (fin TT con_impl_differentKeys Try.f54.results.toList [.c .sc] [.c (.ro .int list0)] kk) = G_impl_differentKeys list0 (fun list0 xt6 xt7 => ∃ j, iter (evF TT cs_impl_differentKeys 23 an_impl_differentKeys Try.f54 [1, 0, 1, 0, 0]) nm0_impl_differentKeys (kt0_impl_differentKeys (fin_impl_differentKeys list0 kk)) j (can0_impl_differentKeys list0 xt6 xt7)) := by kernel_rfl
theorem e_impl_differentKeys (list0 : List Int) (kk : AV → List A1 → Prop) :
    ev TT cs_impl_differentKeys 23 an_impl_differentKeys (Try.f54.body.getD .skip) (st0 con_impl_differentKeys [.c (.ro .int list0)]) (fin TT con_impl_differentKeys Try.f54.results.toList [.c .sc] [.c (.ro .int list0)] kk) = S_impl_differentKeys list0 (fun r0 => kk (.one (.c (.v (.bool r0)))) []) := by
  rw [g_impl_differentKeys]
  have hi0 : (fun list0 xt6 xt7 => ∃ j, iter (evF TT cs_impl_differentKeys 23 an_impl_differentKeys Try.f54 [1, 0, 1, 0, 0]) nm0_impl_differentKeys (kt0_impl_differentKeys (fin_impl_differentKeys list0 kk)) j (can0_impl_differentKeys list0 xt6 xt7)) = (fun list0 xt6 xt7 => ∃ j, L0_impl_differentKeys list0 xt6 (fun r0 => kk (.one (.c (.v (.bool r0)))) []) j xt7) := by
    funext list0 xt6 xt7
    refine congrArg Exists (funext fun j => ?_)
    rw [l0_impl_differentKeys list0 xt6 kk j xt7]
  rw [hi0]
  rfl
theorem clok_impl_differentKeys : ConOK Try.prog cl_impl_differentKeys := consCons h_impl_validKey ⟨Try.f43, Try.func43, by kernel_rfl, ne_of_beq (by kernel_rfl)⟩ (consCons h_slices_Contains_sint_int ⟨Try.f60, Try.func60, by kernel_rfl, ne_of_beq (by kernel_rfl)⟩ (consNil))
theorem cok_impl_differentKeys : ConsOK Try.prog 23 cs_impl_differentKeys := ⟨clok_impl_differentKeys, inlNil, ovNil⟩
theorem i_impl_differentKeys {vs : List A1} {kk : AV → List A1 → Prop} {motive : List A1 → Prop} (h : con_impl_differentKeys.F vs kk) (H : ∀ (list0 : List Int), F_impl_differentKeys list0 (fun r0 => kk (.one (.c (.v (.bool r0)))) []) → motive [.c (.ro .int list0)]) : motive vs := by
  unfold con_impl_differentKeys at h
  dsimp only at h
  split at h
  · exact H _ h
  · exact h.elim
theorem h_impl_differentKeys : Holds Try.prog 54 con_impl_differentKeys := by
  refine holds_of_ev (rt := [.c .sc]) (T := TT) (Γ := cs_impl_differentKeys) (an := an_impl_differentKeys) (N := 23) (c := Try.f54.body.getD .skip) Try.func54 (by kernel_rfl) Try.ntmps54 (by decide) (by decide) mixed tabOK cok_impl_differentKeys (by kernel_rfl) ?_
  intro vs kk _ hF
  exact i_impl_differentKeys (motive := fun vs => Goes (ev TT cs_impl_differentKeys 23 an_impl_differentKeys (Try.f54.body.getD .skip) (st0 con_impl_differentKeys vs) (fin TT con_impl_differentKeys Try.f54.results.toList [.c .sc] vs kk))) hF (fun list0 hF => goes_of (e_impl_differentKeys list0 kk) (F_impl_differentKeys_S hF))
def con_impl_ValidKeys : Con := ⟨[.rd, .rd], true, [.c (.sl .int), .c (.sc)], fun vs k => match vs with
    | [.c (.ro .int list0), .c (.v (.int .i64 room1))] => F_impl_ValidKeys list0 room1 (fun r0 => k (.one (.c (.v (.bool r0)))) [])
    | _ => False, false⟩
def cl_impl_ValidKeys : List (FuncId × Con) := [(53, con_impl_validRoom), (54, con_impl_differentKeys)]
def an_impl_ValidKeys : Ann := ⟨[], [], [], []⟩
def cs_impl_ValidKeys : Cons := ⟨cl_impl_ValidKeys, [], 0, [], [], []⟩
def fin_impl_ValidKeys (list0 : List Int) (room1 : Int) (kk : AV → List A1 → Prop) : Kt := fin TT con_impl_ValidKeys Try.f37.results.toList [.c .sc] [.c (.ro .int list0), .c (.v (.int .i64 room1))] kk
theorem g_impl_ValidKeys (list0 : List Int) (room1 : Int) (kk : AV → List A1 → Prop) :
    ev TT cs_impl_ValidKeys 17 an_impl_ValidKeys (Try.f37.body.getD .skip) (st0 con_impl_ValidKeys [.c (.ro .int list0), .c (.v (.int .i64 room1))]) (fin TT con_impl_ValidKeys Try.f37.results.toList [.c .sc] [.c (.ro .int list0), .c (.v (.int .i64 room1))] kk) = G_impl_ValidKeys list0 room1 (fun r0 => kk (.one (.c (.v (.bool r0)))) []) := by kernel_rfl
theorem e_impl_ValidKeys (list0 : List Int) (room1 : Int) (kk : AV → List A1 → Prop) :
    ev TT cs_impl_ValidKeys 17 an_impl_ValidKeys (Try.f37.body.getD .skip) (st0 con_impl_ValidKeys [.c (.ro .int list0), .c (.v (.int .i64 room1))]) (fin TT con_impl_ValidKeys Try.f37.results.toList [.c .sc] [.c (.ro .int list0), .c (.v (.int .i64 room1))] kk) = S_impl_ValidKeys list0 room1 (fun r0 => kk (.one (.c (.v (.bool r0)))) []) := by
  rw [g_impl_ValidKeys]
  rfl
theorem clok_impl_ValidKeys : ConOK Try.prog cl_impl_ValidKeys := consCons h_impl_validRoom ⟨Try.f53, Try.func53, by kernel_rfl, ne_of_beq (by kernel_rfl)⟩ (consCons h_impl_differentKeys ⟨Try.f54, Try.func54, by kernel_rfl, ne_of_beq (by kernel_rfl)⟩ (consNil))
theorem cok_impl_ValidKeys : ConsOK Try.prog 17 cs_impl_ValidKeys := ⟨clok_impl_ValidKeys, inlNil, ovNil⟩
theorem i_impl_ValidKeys {vs : List A1} {kk : AV → List A1 → Prop} {motive : List A1 → Prop} (h : con_impl_ValidKeys.F vs kk) (H : ∀ (list0 : List Int) (room1 : Int), F_impl_ValidKeys list0 room1 (fun r0 => kk (.one (.c (.v (.bool r0)))) []) → motive [.c (.ro .int list0), .c (.v (.int .i64 room1))]) : motive vs := by
  unfold con_impl_ValidKeys at h
  dsimp only at h
  split at h
  · exact H _ _ h
  · exact h.elim
theorem h_impl_ValidKeys : Holds Try.prog 37 con_impl_ValidKeys := by
  refine holds_of_ev (rt := [.c .sc]) (T := TT) (Γ := cs_impl_ValidKeys) (an := an_impl_ValidKeys) (N := 17) (c := Try.f37.body.getD .skip) Try.func37 (by kernel_rfl) Try.ntmps37 (by decide) (by decide) mixed tabOK cok_impl_ValidKeys (by kernel_rfl) ?_
  intro vs kk _ hF
  exact i_impl_ValidKeys (motive := fun vs => Goes (ev TT cs_impl_ValidKeys 17 an_impl_ValidKeys (Try.f37.body.getD .skip) (st0 con_impl_ValidKeys vs) (fin TT con_impl_ValidKeys Try.f37.results.toList [.c .sc] vs kk))) hF (fun list0 room1 hF => goes_of (e_impl_ValidKeys list0 room1 kk) (F_impl_ValidKeys_S hF))
def con_impl_ValidMemory : Con := ⟨[.rd], true, [.agg [.sl .int, .sl .iib, .sc]], fun vs k => match vs with
    | [.agg [.ro .int m0Store, .ro .iib m0Lines, .v (.int .i64 m0Room)]] => F_impl_ValidMemory m0Store m0Lines m0Room (fun r0 => k (.one (.c (.v (.bool r0)))) [])
    | _ => False, false⟩
def cl_impl_ValidMemory : List (FuncId × Con) := [(36, con_impl_validStore), (37, con_impl_ValidKeys), (38, con_impl_lineKeys), (39, con_impl_validValue)]
def nm0_impl_ValidMemory : List NStep := [.keep [1, 19, 20, 21] [16]]
def an_impl_ValidMemory : Ann := ⟨[(1, .take 0 (.take 1 (.alt 2 (.take 3 (.take 4 (.take 5 (.take 6 (.take 8 (.take 9 (.alt 7 (.alt 10 (.take 11 (.take 12 (.done))) (.none)) (.none)))))))) (.none))), [16]), (6, .take 0 (.take 1 (.alt 2 (.take 3 (.take 4 (.take 5 (.take 6 (.take 7 (.take 8 (.take 9 (.take 10 (.take 11 (.take 12 (.take 13 (.take 14 (.take 15 (.take 16 (.take 17 (.take 18 (.take 19 (.done)))))))))))))))))) (.none))), [16, 64])], [(4, nm0_impl_ValidMemory)], [], []⟩
def cs_impl_ValidMemory : Cons := ⟨cl_impl_ValidMemory, [], 0, [], [], []⟩
def can0_impl_ValidMemory (m0Lines : List (Int × Int × Bool)) (m0Room : Int) (m0Store : List Int) (xt20 : Int) (xt21 : Int) : St := ⟨[(1, .one (.c (.pb 16 0))), (19, .one (.c (.ro .iib m0Lines))), (20, .one (.c (.v (.int .i64 xt20)))), (21, .one (.c (.v (.int .i64 xt21))))], [(16, .box [.ro .int m0Store, .ro .iib m0Lines, .v (.int .i64 m0Room)])]⟩
def fin_impl_ValidMemory (m0Store : List Int) (m0Lines : List (Int × Int × Bool)) (m0Room : Int) (kk : AV → List A1 → Prop) : Kt := fin TT con_impl_ValidMemory Try.f14.results.toList [.c .sc] [.agg [.ro .int m0Store, .ro .iib m0Lines, .v (.int .i64 m0Room)]] kk
def kt0_impl_ValidMemory (kf : Kt) : Kt := blockK 0 (seqK (evF TT cs_impl_ValidMemory 46 an_impl_ValidMemory Try.f14 [1, 1, 1]) (kf))
theorem r0_impl_ValidMemory (m0Store : List Int) (m0Lines : List (Int × Int × Bool)) (m0Room : Int) (xt20 : Int) (kk : AV → List A1 → Prop) (n : Nat) (xt21 : Int) :
    iter (evF TT cs_impl_ValidMemory 46 an_impl_ValidMemory Try.f14 [1, 1, 0, 1, 0, 0]) nm0_impl_ValidMemory (kt0_impl_ValidMemory (fin_impl_ValidMemory m0Store m0Lines m0Room kk)) (n + 1) (can0_impl_ValidMemory m0Lines m0Room m0Store xt20 xt21) = T0_impl_ValidMemory m0Lines m0Room m0Store xt20 xt21 (fun r0 => kk (.one (.c (.v (.bool r0)))) []) (fun xt21 => iter (evF TT cs_impl_ValidMemory 46 an_impl_ValidMemory Try.f14 [1, 1, 0, 1, 0, 0]) nm0_impl_ValidMemory (kt0_impl_ValidMemory (fin_impl_ValidMemory m0Store m0Lines m0Room kk)) n (can0_impl_ValidMemory m0Lines m0Room m0Store xt20 xt21)) := by kernel_rfl
theorem l0_impl_ValidMemory (m0Store : List Int) (m0Lines : List (Int × Int × Bool)) (m0Room : Int) (xt20 : Int) (kk : AV → List A1 → Prop) : ∀ (n : Nat) (xt21 : Int), iter (evF TT cs_impl_ValidMemory 46 an_impl_ValidMemory Try.f14 [1, 1, 0, 1, 0, 0]) nm0_impl_ValidMemory (kt0_impl_ValidMemory (fin_impl_ValidMemory m0Store m0Lines m0Room kk)) n (can0_impl_ValidMemory m0Lines m0Room m0Store xt20 xt21) = L0_impl_ValidMemory m0Lines m0Room m0Store xt20 (fun r0 => kk (.one (.c (.v (.bool r0)))) []) n xt21 := by
  intro n
  induction n with
  | zero => intros; rfl
  | succ n ih =>
    intro xt21
    rw [r0_impl_ValidMemory m0Store m0Lines m0Room xt20 kk n xt21]
    have hb : (fun xt21 => iter (evF TT cs_impl_ValidMemory 46 an_impl_ValidMemory Try.f14 [1, 1, 0, 1, 0, 0]) nm0_impl_ValidMemory (kt0_impl_ValidMemory (fin_impl_ValidMemory m0Store m0Lines m0Room kk)) n (can0_impl_ValidMemory m0Lines m0Room m0Store xt20 xt21)) = L0_impl_ValidMemory m0Lines m0Room m0Store xt20 (fun r0 => kk (.one (.c (.v (.bool r0)))) []) n := by
      funext xt21; exact ih xt21
    rw [hb]
    rw [T0_impl_ValidMemory_eq]
    rfl
theorem g_impl_ValidMemory (m0Store : List Int) (m0Lines : List (Int × Int × Bool)) (m0Room : Int) (kk : AV → List A1 → Prop) :
    ev TT cs_impl_ValidMemory 46 an_impl_ValidMemory (Try.f14.body.getD .skip) (st0 con_impl_ValidMemory [.agg [.ro .int m0Store, .ro .iib m0Lines, .v (.int .i64 m0Room)]]) (fin TT con_impl_ValidMemory Try.f14.results.toList [.c .sc] [.agg [.ro .int m0Store, .ro .iib m0Lines, .v (.int .i64 m0Room)]] kk) = G_impl_ValidMemory m0Store m0Lines m0Room (fun r0 => kk (.one (.c (.v (.bool r0)))) []) (fun m0Lines m0Room m0Store xt20 xt21 => ∃ j, iter (evF TT cs_impl_ValidMemory 46 an_impl_ValidMemory Try.f14 [1, 1, 0, 1, 0, 0]) nm0_impl_ValidMemory (kt0_impl_ValidMemory (fin_impl_ValidMemory m0Store m0Lines m0Room kk)) j (can0_impl_ValidMemory m0Lines m0Room m0Store xt20 xt21)) := by kernel_rfl
theorem e_impl_ValidMemory (m0Store : List Int) (m0Lines : List (Int × Int × Bool)) (m0Room : Int) (kk : AV → List A1 → Prop) :
    ev TT cs_impl_ValidMemory 46 an_impl_ValidMemory (Try.f14.body.getD .skip) (st0 con_impl_ValidMemory [.agg [.ro .int m0Store, .ro .iib m0Lines, .v (.int .i64 m0Room)]]) (fin TT con_impl_ValidMemory Try.f14.results.toList [.c .sc] [.agg [.ro .int m0Store, .ro .iib m0Lines, .v (.int .i64 m0Room)]] kk) = S_impl_ValidMemory m0Store m0Lines m0Room (fun r0 => kk (.one (.c (.v (.bool r0)))) []) := by
  rw [g_impl_ValidMemory]
  have hi0 : (fun m0Lines m0Room m0Store xt20 xt21 => ∃ j, iter (evF TT cs_impl_ValidMemory 46 an_impl_ValidMemory Try.f14 [1, 1, 0, 1, 0, 0]) nm0_impl_ValidMemory (kt0_impl_ValidMemory (fin_impl_ValidMemory m0Store m0Lines m0Room kk)) j (can0_impl_ValidMemory m0Lines m0Room m0Store xt20 xt21)) = (fun m0Lines m0Room m0Store xt20 xt21 => ∃ j, L0_impl_ValidMemory m0Lines m0Room m0Store xt20 (fun r0 => kk (.one (.c (.v (.bool r0)))) []) j xt21) := by
    funext m0Lines m0Room m0Store xt20 xt21
    refine congrArg Exists (funext fun j => ?_)
    rw [l0_impl_ValidMemory m0Store m0Lines m0Room xt20 kk j xt21]
  rw [hi0]
  rw [G_impl_ValidMemory_eq]
  rfl
theorem clok_impl_ValidMemory : ConOK Try.prog cl_impl_ValidMemory := consCons h_impl_validStore ⟨Try.f36, Try.func36, by kernel_rfl, ne_of_beq (by kernel_rfl)⟩ (consCons h_impl_ValidKeys ⟨Try.f37, Try.func37, by kernel_rfl, ne_of_beq (by kernel_rfl)⟩ (consCons h_impl_lineKeys ⟨Try.f38, Try.func38, by kernel_rfl, ne_of_beq (by kernel_rfl)⟩ (consCons h_impl_validValue ⟨Try.f39, Try.func39, by kernel_rfl, ne_of_beq (by kernel_rfl)⟩ (consNil))))
theorem cok_impl_ValidMemory : ConsOK Try.prog 46 cs_impl_ValidMemory := ⟨clok_impl_ValidMemory, inlNil, ovNil⟩
theorem i_impl_ValidMemory {vs : List A1} {kk : AV → List A1 → Prop} {motive : List A1 → Prop} (h : con_impl_ValidMemory.F vs kk) (H : ∀ (m0Store : List Int) (m0Lines : List (Int × Int × Bool)) (m0Room : Int), F_impl_ValidMemory m0Store m0Lines m0Room (fun r0 => kk (.one (.c (.v (.bool r0)))) []) → motive [.agg [.ro .int m0Store, .ro .iib m0Lines, .v (.int .i64 m0Room)]]) : motive vs := by
  unfold con_impl_ValidMemory at h
  dsimp only at h
  split at h
  · exact H _ _ _ h
  · exact h.elim
theorem h_impl_ValidMemory : Holds Try.prog 14 con_impl_ValidMemory := by
  refine holds_of_ev (rt := [.c .sc]) (T := TT) (Γ := cs_impl_ValidMemory) (an := an_impl_ValidMemory) (N := 46) (c := Try.f14.body.getD .skip) Try.func14 (by kernel_rfl) Try.ntmps14 (by decide) (by decide) mixed tabOK cok_impl_ValidMemory (by kernel_rfl) ?_
  intro vs kk _ hF
  exact i_impl_ValidMemory (motive := fun vs => Goes (ev TT cs_impl_ValidMemory 46 an_impl_ValidMemory (Try.f14.body.getD .skip) (st0 con_impl_ValidMemory vs) (fin TT con_impl_ValidMemory Try.f14.results.toList [.c .sc] vs kk))) hF (fun m0Store m0Lines m0Room hF => goes_of (e_impl_ValidMemory m0Store m0Lines m0Room kk) (F_impl_ValidMemory_S hF))
def con_slices_Clone_sint_int : Con := ⟨[.rd], true, [.c (.sl .int)], fun vs k => match vs with
    | [.c (.ro .int s0)] => F_slices_Clone_sint_int s0 (fun r0 => k (.one (.c (.ro .int r0))) [])
    | _ => False, false⟩
def cl_slices_Clone_sint_int : List (FuncId × Con) := []
def an_slices_Clone_sint_int : Ann := ⟨[], [], [], []⟩
def cs_slices_Clone_sint_int : Cons := ⟨cl_slices_Clone_sint_int, [], 0, [], [], []⟩
def fin_slices_Clone_sint_int (s0 : List Int) (kk : AV → List A1 → Prop) : Kt := fin TT con_slices_Clone_sint_int Try.f41.results.toList [.c (.sl .int)] [.c (.ro .int s0)] kk
theorem g_slices_Clone_sint_int (s0 : List Int) (kk : AV → List A1 → Prop) :
    ev TT cs_slices_Clone_sint_int 8 an_slices_Clone_sint_int (Try.f41.body.getD .skip) (st0 con_slices_Clone_sint_int [.c (.ro .int s0)]) (fin TT con_slices_Clone_sint_int Try.f41.results.toList [.c (.sl .int)] [.c (.ro .int s0)] kk) = G_slices_Clone_sint_int s0 (fun r0 => kk (.one (.c (.ro .int r0))) []) := by kernel_rfl
theorem e_slices_Clone_sint_int (s0 : List Int) (kk : AV → List A1 → Prop) :
    ev TT cs_slices_Clone_sint_int 8 an_slices_Clone_sint_int (Try.f41.body.getD .skip) (st0 con_slices_Clone_sint_int [.c (.ro .int s0)]) (fin TT con_slices_Clone_sint_int Try.f41.results.toList [.c (.sl .int)] [.c (.ro .int s0)] kk) = S_slices_Clone_sint_int s0 (fun r0 => kk (.one (.c (.ro .int r0))) []) := by
  rw [g_slices_Clone_sint_int]
  rfl
theorem clok_slices_Clone_sint_int : ConOK Try.prog cl_slices_Clone_sint_int := consNil
theorem cok_slices_Clone_sint_int : ConsOK Try.prog 8 cs_slices_Clone_sint_int := ⟨clok_slices_Clone_sint_int, inlNil, ovNil⟩
theorem i_slices_Clone_sint_int {vs : List A1} {kk : AV → List A1 → Prop} {motive : List A1 → Prop} (h : con_slices_Clone_sint_int.F vs kk) (H : ∀ (s0 : List Int), F_slices_Clone_sint_int s0 (fun r0 => kk (.one (.c (.ro .int r0))) []) → motive [.c (.ro .int s0)]) : motive vs := by
  unfold con_slices_Clone_sint_int at h
  dsimp only at h
  split at h
  · exact H _ h
  · exact h.elim
theorem h_slices_Clone_sint_int : Holds Try.prog 41 con_slices_Clone_sint_int := by
  refine holds_of_ev (rt := [.c (.sl .int)]) (T := TT) (Γ := cs_slices_Clone_sint_int) (an := an_slices_Clone_sint_int) (N := 8) (c := Try.f41.body.getD .skip) Try.func41 (by kernel_rfl) Try.ntmps41 (by decide) (by decide) mixed tabOK cok_slices_Clone_sint_int (by kernel_rfl) ?_
  intro vs kk _ hF
  exact i_slices_Clone_sint_int (motive := fun vs => Goes (ev TT cs_slices_Clone_sint_int 8 an_slices_Clone_sint_int (Try.f41.body.getD .skip) (st0 con_slices_Clone_sint_int vs) (fin TT con_slices_Clone_sint_int Try.f41.results.toList [.c (.sl .int)] vs kk))) hF (fun s0 hF => goes_of (e_slices_Clone_sint_int s0 kk) (F_slices_Clone_sint_int_S hF))
def con_impl_withFirstLine : Con := ⟨[.rd, .rd], true, [.agg [.sl .int, .sl .iib, .sc], .agg [.sc, .sc, .sc]], fun vs k => match vs with
    | [.agg [.ro .int m0Store, .ro .iib m0Lines, .v (.int .i64 m0Room)], .agg [.v (.int .i64 first1Key), .v (.int .i64 first1Value), .v (.bool first1Dirty)]] => F_impl_withFirstLine m0Store m0Lines m0Room first1Key first1Value first1Dirty (fun r0 r1 r2 => k (.one (.agg [.ro .int r0, .ro .iib r1, .v (.int .i64 r2)])) [])
    | _ => False, false⟩
def cl_impl_withFirstLine : List (FuncId × Con) := [(41, con_slices_Clone_sint_int)]
def nm0_impl_withFirstLine : List NStep := [.ownc 80 1 .iib 90000, .keep [3, 4, 5, 18, 19, 20] [48, 64, 80, 176, 90000]]
def an_impl_withFirstLine_i1 : Ann := ⟨[], [], [], []⟩
def cs_impl_withFirstLine_i1 : Cons := ⟨cl_impl_withFirstLine, [], 976, [], [], []⟩
def an_impl_withFirstLine : Ann := ⟨[(1, .take 0 (.take 1 (.take 3 (.take 5 (.take 6 (.alt 2 (.alt 4 (.take 7 (.alt 8 (.alt 9 (.done) (.none)) (.none))) (.alt 8 (.alt 4 (.take 7 (.alt 9 (.done) (.none))) (.none)) (.none))) (.alt 4 (.alt 2 (.take 7 (.alt 8 (.alt 9 (.done) (.none)) (.none))) (.alt 8 (.alt 2 (.take 7 (.alt 9 (.done) (.none))) (.none)) (.none))) (.alt 8 (.alt 2 (.alt 4 (.take 7 (.alt 9 (.done) (.none))) (.none)) (.alt 4 (.alt 2 (.take 7 (.alt 9 (.done) (.none))) (.none)) (.none))) (.none)))))))), [32, 48])], [(3, nm0_impl_withFirstLine)], [], []⟩
def cs_impl_withFirstLine : Cons := ⟨cl_impl_withFirstLine, [(57, ⟨58, inlG TT cs_impl_withFirstLine_i1 60 8 an_impl_withFirstLine_i1 (Try.f58.body.getD .skip) Try.f58.results.toList⟩)], 0, [], [], []⟩
def can0_impl_withFirstLine (clone11 : List Int) (first1Dirty : Bool) (first1Key : Int) (first1Value : Int) (m0Lines : List (Int × Int × Bool)) (m0Room : Int) (xt19 : Int) (xt20 : Int) (xb5c1 : List (Int × Int × Bool)) : St := ⟨[(3, .one (.c (.pb 48 0))), (4, .one (.c (.pb 64 0))), (5, .one (.c (.pb 80 0))), (18, .one (.c (.ro .iib m0Lines))), (19, .one (.c (.v (.int .i64 xt19)))), (20, .one (.c (.v (.int .i64 xt20))))], [(48, .box [.v (.int .i64 first1Key), .v (.int .i64 first1Value), .v (.bool first1Dirty)]), (64, .box [.nil, .nil, .v (.int .i64 0)]), (80, .box [.ow 176, .ow 90000, .v (.int .i64 m0Room)]), (176, .row .int clone11), (90000, .row .iib xb5c1)]⟩
def fin_impl_withFirstLine (m0Store : List Int) (m0Lines : List (Int × Int × Bool)) (m0Room : Int) (first1Key : Int) (first1Value : Int) (first1Dirty : Bool) (kk : AV → List A1 → Prop) : Kt := fin TT con_impl_withFirstLine Try.f45.results.toList [.agg [.sl .int, .sl .iib, .sc]] [.agg [.ro .int m0Store, .ro .iib m0Lines, .v (.int .i64 m0Room)], .agg [.v (.int .i64 first1Key), .v (.int .i64 first1Value), .v (.bool first1Dirty)]] kk
def kt0_impl_withFirstLine (kf : Kt) : Kt := blockK 0 (seqK (evF TT cs_impl_withFirstLine 60 an_impl_withFirstLine Try.f45 [1, 1, 1]) (kf))
theorem r0_impl_withFirstLine (m0Store : List Int) (m0Lines : List (Int × Int × Bool)) (m0Room : Int) (first1Key : Int) (first1Value : Int) (first1Dirty : Bool) (clone11 : List Int) (kk : AV → List A1 → Prop) (n : Nat) (xt19 : Int) (xt20 : Int) (xb5c1 : List (Int × Int × Bool)) :
    iter (evF TT cs_impl_withFirstLine 60 an_impl_withFirstLine Try.f45 [1, 1, 0, 1, 0, 0]) nm0_impl_withFirstLine (kt0_impl_withFirstLine (fin_impl_withFirstLine m0Store m0Lines m0Room first1Key first1Value first1Dirty kk)) (n + 1) (can0_impl_withFirstLine clone11 first1Dirty first1Key first1Value m0Lines m0Room xt19 xt20 xb5c1) = T0_impl_withFirstLine clone11 first1Dirty first1Key first1Value m0Lines m0Room xt19 xt20 xb5c1 (fun r0 r1 r2 => kk (.one (.agg [.ro .int r0, .ro .iib r1, .v (.int .i64 r2)])) []) (fun xt19 xt20 xb5c1 => iter (evF TT cs_impl_withFirstLine 60 an_impl_withFirstLine Try.f45 [1, 1, 0, 1, 0, 0]) nm0_impl_withFirstLine (kt0_impl_withFirstLine (fin_impl_withFirstLine m0Store m0Lines m0Room first1Key first1Value first1Dirty kk)) n (can0_impl_withFirstLine clone11 first1Dirty first1Key first1Value m0Lines m0Room xt19 xt20 xb5c1)) := by kernel_rfl
theorem l0_impl_withFirstLine (m0Store : List Int) (m0Lines : List (Int × Int × Bool)) (m0Room : Int) (first1Key : Int) (first1Value : Int) (first1Dirty : Bool) (clone11 : List Int) (kk : AV → List A1 → Prop) : ∀ (n : Nat) (xt19 : Int) (xt20 : Int) (xb5c1 : List (Int × Int × Bool)), iter (evF TT cs_impl_withFirstLine 60 an_impl_withFirstLine Try.f45 [1, 1, 0, 1, 0, 0]) nm0_impl_withFirstLine (kt0_impl_withFirstLine (fin_impl_withFirstLine m0Store m0Lines m0Room first1Key first1Value first1Dirty kk)) n (can0_impl_withFirstLine clone11 first1Dirty first1Key first1Value m0Lines m0Room xt19 xt20 xb5c1) = L0_impl_withFirstLine clone11 first1Dirty first1Key first1Value m0Lines m0Room (fun r0 r1 r2 => kk (.one (.agg [.ro .int r0, .ro .iib r1, .v (.int .i64 r2)])) []) n xt19 xt20 xb5c1 := by
  intro n
  induction n with
  | zero => intros; rfl
  | succ n ih =>
    intro xt19 xt20 xb5c1
    rw [r0_impl_withFirstLine m0Store m0Lines m0Room first1Key first1Value first1Dirty clone11 kk n xt19 xt20 xb5c1]
    have hb : (fun xt19 xt20 xb5c1 => iter (evF TT cs_impl_withFirstLine 60 an_impl_withFirstLine Try.f45 [1, 1, 0, 1, 0, 0]) nm0_impl_withFirstLine (kt0_impl_withFirstLine (fin_impl_withFirstLine m0Store m0Lines m0Room first1Key first1Value first1Dirty kk)) n (can0_impl_withFirstLine clone11 first1Dirty first1Key first1Value m0Lines m0Room xt19 xt20 xb5c1)) = L0_impl_withFirstLine clone11 first1Dirty first1Key first1Value m0Lines m0Room (fun r0 r1 r2 => kk (.one (.agg [.ro .int r0, .ro .iib r1, .v (.int .i64 r2)])) []) n := by
      funext xt19 xt20 xb5c1; exact ih xt19 xt20 xb5c1
    rw [hb]
    rfl
theorem g_impl_withFirstLine (m0Store : List Int) (m0Lines : List (Int × Int × Bool)) (m0Room : Int) (first1Key : Int) (first1Value : Int) (first1Dirty : Bool) (kk : AV → List A1 → Prop) :
    ev TT cs_impl_withFirstLine 60 an_impl_withFirstLine (Try.f45.body.getD .skip) (st0 con_impl_withFirstLine [.agg [.ro .int m0Store, .ro .iib m0Lines, .v (.int .i64 m0Room)], .agg [.v (.int .i64 first1Key), .v (.int .i64 first1Value), .v (.bool first1Dirty)]]) (fin TT con_impl_withFirstLine Try.f45.results.toList [.agg [.sl .int, .sl .iib, .sc]] [.agg [.ro .int m0Store, .ro .iib m0Lines, .v (.int .i64 m0Room)], .agg [.v (.int .i64 first1Key), .v (.int .i64 first1Value), .v (.bool first1Dirty)]] kk) = G_impl_withFirstLine m0Store m0Lines m0Room first1Key first1Value first1Dirty (fun clone11 first1Dirty first1Key first1Value m0Lines m0Room xt19 xt20 xb5c1 => ∃ j, iter (evF TT cs_impl_withFirstLine 60 an_impl_withFirstLine Try.f45 [1, 1, 0, 1, 0, 0]) nm0_impl_withFirstLine (kt0_impl_withFirstLine (fin_impl_withFirstLine m0Store m0Lines m0Room first1Key first1Value first1Dirty kk)) j (can0_impl_withFirstLine clone11 first1Dirty first1Key first1Value m0Lines m0Room xt19 xt20 xb5c1)) := by kernel_rfl
theorem e_impl_withFirstLine (m0Store : List Int) (m0Lines : List (Int × Int × Bool)) (m0Room : Int) (first1Key : Int) (first1Value : Int) (first1Dirty : Bool) (kk : AV → List A1 → Prop) :
    ev TT cs_impl_withFirstLine 60 an_impl_withFirstLine (Try.f45.body.getD .skip) (st0 con_impl_withFirstLine [.agg [.ro .int m0Store, .ro .iib m0Lines, .v (.int .i64 m0Room)], .agg [.v (.int .i64 first1Key), .v (.int .i64 first1Value), .v (.bool first1Dirty)]]) (fin TT con_impl_withFirstLine Try.f45.results.toList [.agg [.sl .int, .sl .iib, .sc]] [.agg [.ro .int m0Store, .ro .iib m0Lines, .v (.int .i64 m0Room)], .agg [.v (.int .i64 first1Key), .v (.int .i64 first1Value), .v (.bool first1Dirty)]] kk) = S_impl_withFirstLine m0Store m0Lines m0Room first1Key first1Value first1Dirty (fun r0 r1 r2 => kk (.one (.agg [.ro .int r0, .ro .iib r1, .v (.int .i64 r2)])) []) := by
  rw [g_impl_withFirstLine]
  have hi0 : (fun clone11 first1Dirty first1Key first1Value m0Lines m0Room xt19 xt20 xb5c1 => ∃ j, iter (evF TT cs_impl_withFirstLine 60 an_impl_withFirstLine Try.f45 [1, 1, 0, 1, 0, 0]) nm0_impl_withFirstLine (kt0_impl_withFirstLine (fin_impl_withFirstLine m0Store m0Lines m0Room first1Key first1Value first1Dirty kk)) j (can0_impl_withFirstLine clone11 first1Dirty first1Key first1Value m0Lines m0Room xt19 xt20 xb5c1)) = (fun clone11 first1Dirty first1Key first1Value m0Lines m0Room xt19 xt20 xb5c1 => ∃ j, L0_impl_withFirstLine clone11 first1Dirty first1Key first1Value m0Lines m0Room (fun r0 r1 r2 => kk (.one (.agg [.ro .int r0, .ro .iib r1, .v (.int .i64 r2)])) []) j xt19 xt20 xb5c1) := by
    funext clone11 first1Dirty first1Key first1Value m0Lines m0Room xt19 xt20 xb5c1
    refine congrArg Exists (funext fun j => ?_)
    rw [l0_impl_withFirstLine m0Store m0Lines m0Room first1Key first1Value first1Dirty clone11 kk j xt19 xt20 xb5c1]
  rw [hi0]
  rw [G_impl_withFirstLine_eq]
  rfl
theorem clok_impl_withFirstLine : ConOK Try.prog cl_impl_withFirstLine := consCons h_slices_Clone_sint_int ⟨Try.f41, Try.func41, by kernel_rfl, ne_of_beq (by kernel_rfl)⟩ (consNil)
theorem cok_impl_withFirstLine_i1 : ConsOK Try.prog 8 cs_impl_withFirstLine_i1 := ⟨clok_impl_withFirstLine, inlNil, ovNil⟩
theorem cok_impl_withFirstLine : ConsOK Try.prog 60 cs_impl_withFirstLine := ⟨clok_impl_withFirstLine, inlCons (inl_ok Try.func58 (by kernel_rfl) (ne_of_beq (by kernel_rfl)) Try.ntmps58 (by decide) mixed tabOK cok_impl_withFirstLine_i1 (by kernel_rfl)) (inlNil), ovNil⟩
theorem i_impl_withFirstLine {vs : List A1} {kk : AV → List A1 → Prop} {motive : List A1 → Prop} (h : con_impl_withFirstLine.F vs kk) (H : ∀ (m0Store : List Int) (m0Lines : List (Int × Int × Bool)) (m0Room : Int) (first1Key : Int) (first1Value : Int) (first1Dirty : Bool), F_impl_withFirstLine m0Store m0Lines m0Room first1Key first1Value first1Dirty (fun r0 r1 r2 => kk (.one (.agg [.ro .int r0, .ro .iib r1, .v (.int .i64 r2)])) []) → motive [.agg [.ro .int m0Store, .ro .iib m0Lines, .v (.int .i64 m0Room)], .agg [.v (.int .i64 first1Key), .v (.int .i64 first1Value), .v (.bool first1Dirty)]]) : motive vs := by
  unfold con_impl_withFirstLine at h
  dsimp only at h
  split at h
  · exact H _ _ _ _ _ _ h
  · exact h.elim
theorem h_impl_withFirstLine : Holds Try.prog 45 con_impl_withFirstLine := by
  refine holds_of_ev (rt := [.agg [.sl .int, .sl .iib, .sc]]) (T := TT) (Γ := cs_impl_withFirstLine) (an := an_impl_withFirstLine) (N := 60) (c := Try.f45.body.getD .skip) Try.func45 (by kernel_rfl) Try.ntmps45 (by decide) (by decide) mixed tabOK cok_impl_withFirstLine (by kernel_rfl) ?_
  intro vs kk _ hF
  exact i_impl_withFirstLine (motive := fun vs => Goes (ev TT cs_impl_withFirstLine 60 an_impl_withFirstLine (Try.f45.body.getD .skip) (st0 con_impl_withFirstLine vs) (fin TT con_impl_withFirstLine Try.f45.results.toList [.agg [.sl .int, .sl .iib, .sc]] vs kk))) hF (fun m0Store m0Lines m0Room first1Key first1Value first1Dirty hF => goes_of (e_impl_withFirstLine m0Store m0Lines m0Room first1Key first1Value first1Dirty kk) (F_impl_withFirstLine_S hF))
def con_impl_WriteKey : Con := ⟨[.rd, .rd, .rd], true, [.agg [.sl .int, .sl .iib, .sc], .c (.sc), .c (.sc)], fun vs k => match vs with
    | [.agg [.ro .int m0Store, .ro .iib m0Lines, .v (.int .i64 m0Room)], .c (.v (.int .i64 key1)), .c (.v (.int .i64 value2))] => F_impl_WriteKey m0Store m0Lines m0Room key1 value2 (fun r0 r1 r2 r3 => k (.tup [.agg [.ro .int r0, .ro .iib r1, .v (.int .i64 r2)], .c (.v (.bool r3))]) [])
    | _ => False, false⟩
def cl_impl_WriteKey : List (FuncId × Con) := [(14, con_impl_ValidMemory), (39, con_impl_validValue), (43, con_impl_validKey), (45, con_impl_withFirstLine)]
def an_impl_WriteKey : Ann := ⟨[], [], [], []⟩
def cs_impl_WriteKey : Cons := ⟨cl_impl_WriteKey, [], 0, [], [], []⟩
def fin_impl_WriteKey (m0Store : List Int) (m0Lines : List (Int × Int × Bool)) (m0Room : Int) (key1 : Int) (value2 : Int) (kk : AV → List A1 → Prop) : Kt := fin TT con_impl_WriteKey Try.f24.results.toList [.agg [.sl .int, .sl .iib, .sc], .c .sc] [.agg [.ro .int m0Store, .ro .iib m0Lines, .v (.int .i64 m0Room)], .c (.v (.int .i64 key1)), .c (.v (.int .i64 value2))] kk
theorem g_impl_WriteKey (m0Store : List Int) (m0Lines : List (Int × Int × Bool)) (m0Room : Int) (key1 : Int) (value2 : Int) (kk : AV → List A1 → Prop) :
    ev TT cs_impl_WriteKey 27 an_impl_WriteKey (Try.f24.body.getD .skip) (st0 con_impl_WriteKey [.agg [.ro .int m0Store, .ro .iib m0Lines, .v (.int .i64 m0Room)], .c (.v (.int .i64 key1)), .c (.v (.int .i64 value2))]) (fin TT con_impl_WriteKey Try.f24.results.toList [.agg [.sl .int, .sl .iib, .sc], .c .sc] [.agg [.ro .int m0Store, .ro .iib m0Lines, .v (.int .i64 m0Room)], .c (.v (.int .i64 key1)), .c (.v (.int .i64 value2))] kk) = G_impl_WriteKey m0Store m0Lines m0Room key1 value2 (fun r0 r1 r2 r3 => kk (.tup [.agg [.ro .int r0, .ro .iib r1, .v (.int .i64 r2)], .c (.v (.bool r3))]) []) := by kernel_rfl
theorem e_impl_WriteKey (m0Store : List Int) (m0Lines : List (Int × Int × Bool)) (m0Room : Int) (key1 : Int) (value2 : Int) (kk : AV → List A1 → Prop) :
    ev TT cs_impl_WriteKey 27 an_impl_WriteKey (Try.f24.body.getD .skip) (st0 con_impl_WriteKey [.agg [.ro .int m0Store, .ro .iib m0Lines, .v (.int .i64 m0Room)], .c (.v (.int .i64 key1)), .c (.v (.int .i64 value2))]) (fin TT con_impl_WriteKey Try.f24.results.toList [.agg [.sl .int, .sl .iib, .sc], .c .sc] [.agg [.ro .int m0Store, .ro .iib m0Lines, .v (.int .i64 m0Room)], .c (.v (.int .i64 key1)), .c (.v (.int .i64 value2))] kk) = S_impl_WriteKey m0Store m0Lines m0Room key1 value2 (fun r0 r1 r2 r3 => kk (.tup [.agg [.ro .int r0, .ro .iib r1, .v (.int .i64 r2)], .c (.v (.bool r3))]) []) := by
  rw [g_impl_WriteKey]
  rfl
theorem clok_impl_WriteKey : ConOK Try.prog cl_impl_WriteKey := consCons h_impl_ValidMemory ⟨Try.f14, Try.func14, by kernel_rfl, ne_of_beq (by kernel_rfl)⟩ (consCons h_impl_validValue ⟨Try.f39, Try.func39, by kernel_rfl, ne_of_beq (by kernel_rfl)⟩ (consCons h_impl_validKey ⟨Try.f43, Try.func43, by kernel_rfl, ne_of_beq (by kernel_rfl)⟩ (consCons h_impl_withFirstLine ⟨Try.f45, Try.func45, by kernel_rfl, ne_of_beq (by kernel_rfl)⟩ (consNil))))
theorem cok_impl_WriteKey : ConsOK Try.prog 27 cs_impl_WriteKey := ⟨clok_impl_WriteKey, inlNil, ovNil⟩
theorem i_impl_WriteKey {vs : List A1} {kk : AV → List A1 → Prop} {motive : List A1 → Prop} (h : con_impl_WriteKey.F vs kk) (H : ∀ (m0Store : List Int) (m0Lines : List (Int × Int × Bool)) (m0Room : Int) (key1 : Int) (value2 : Int), F_impl_WriteKey m0Store m0Lines m0Room key1 value2 (fun r0 r1 r2 r3 => kk (.tup [.agg [.ro .int r0, .ro .iib r1, .v (.int .i64 r2)], .c (.v (.bool r3))]) []) → motive [.agg [.ro .int m0Store, .ro .iib m0Lines, .v (.int .i64 m0Room)], .c (.v (.int .i64 key1)), .c (.v (.int .i64 value2))]) : motive vs := by
  unfold con_impl_WriteKey at h
  dsimp only at h
  split at h
  · exact H _ _ _ _ _ h
  · exact h.elim
theorem h_impl_WriteKey : Holds Try.prog 24 con_impl_WriteKey := by
  refine holds_of_ev (rt := [.agg [.sl .int, .sl .iib, .sc], .c .sc]) (T := TT) (Γ := cs_impl_WriteKey) (an := an_impl_WriteKey) (N := 27) (c := Try.f24.body.getD .skip) Try.func24 (by kernel_rfl) Try.ntmps24 (by decide) (by decide) mixed tabOK cok_impl_WriteKey (by kernel_rfl) ?_
  intro vs kk _ hF
  exact i_impl_WriteKey (motive := fun vs => Goes (ev TT cs_impl_WriteKey 27 an_impl_WriteKey (Try.f24.body.getD .skip) (st0 con_impl_WriteKey vs) (fin TT con_impl_WriteKey Try.f24.results.toList [.agg [.sl .int, .sl .iib, .sc], .c .sc] vs kk))) hF (fun m0Store m0Lines m0Room key1 value2 hF => goes_of (e_impl_WriteKey m0Store m0Lines m0Room key1 value2 kk) (F_impl_WriteKey_S hF))
def con_spec_inRange : Con := ⟨[.rd, .rd, .rd], true, [.c (.sc), .c (.sc), .c (.sc)], fun vs k => match vs with
    | [.c (.v (.int .i64 n0)), .c (.v (.int .i64 low1)), .c (.v (.int .i64 high2))] => F_spec_inRange n0 low1 high2 (fun r0 => k (.one (.c (.v (.bool r0)))) [])
    | _ => False, false⟩
def cl_spec_inRange : List (FuncId × Con) := []
def an_spec_inRange : Ann := ⟨[], [], [], []⟩
def cs_spec_inRange : Cons := ⟨cl_spec_inRange, [], 0, [], [], []⟩
def fin_spec_inRange (n0 : Int) (low1 : Int) (high2 : Int) (kk : AV → List A1 → Prop) : Kt := fin TT con_spec_inRange Try.f46.results.toList [.c .sc] [.c (.v (.int .i64 n0)), .c (.v (.int .i64 low1)), .c (.v (.int .i64 high2))] kk
theorem g_spec_inRange (n0 : Int) (low1 : Int) (high2 : Int) (kk : AV → List A1 → Prop) :
    ev TT cs_spec_inRange 15 an_spec_inRange (Try.f46.body.getD .skip) (st0 con_spec_inRange [.c (.v (.int .i64 n0)), .c (.v (.int .i64 low1)), .c (.v (.int .i64 high2))]) (fin TT con_spec_inRange Try.f46.results.toList [.c .sc] [.c (.v (.int .i64 n0)), .c (.v (.int .i64 low1)), .c (.v (.int .i64 high2))] kk) = G_spec_inRange n0 low1 high2 (fun r0 => kk (.one (.c (.v (.bool r0)))) []) := by kernel_rfl
theorem e_spec_inRange (n0 : Int) (low1 : Int) (high2 : Int) (kk : AV → List A1 → Prop) :
    ev TT cs_spec_inRange 15 an_spec_inRange (Try.f46.body.getD .skip) (st0 con_spec_inRange [.c (.v (.int .i64 n0)), .c (.v (.int .i64 low1)), .c (.v (.int .i64 high2))]) (fin TT con_spec_inRange Try.f46.results.toList [.c .sc] [.c (.v (.int .i64 n0)), .c (.v (.int .i64 low1)), .c (.v (.int .i64 high2))] kk) = S_spec_inRange n0 low1 high2 (fun r0 => kk (.one (.c (.v (.bool r0)))) []) := by
  rw [g_spec_inRange]
  rfl
theorem clok_spec_inRange : ConOK Try.prog cl_spec_inRange := consNil
theorem cok_spec_inRange : ConsOK Try.prog 15 cs_spec_inRange := ⟨clok_spec_inRange, inlNil, ovNil⟩
theorem i_spec_inRange {vs : List A1} {kk : AV → List A1 → Prop} {motive : List A1 → Prop} (h : con_spec_inRange.F vs kk) (H : ∀ (n0 : Int) (low1 : Int) (high2 : Int), F_spec_inRange n0 low1 high2 (fun r0 => kk (.one (.c (.v (.bool r0)))) []) → motive [.c (.v (.int .i64 n0)), .c (.v (.int .i64 low1)), .c (.v (.int .i64 high2))]) : motive vs := by
  unfold con_spec_inRange at h
  dsimp only at h
  split at h
  · exact H _ _ _ h
  · exact h.elim
theorem h_spec_inRange : Holds Try.prog 46 con_spec_inRange := by
  refine holds_of_ev (rt := [.c .sc]) (T := TT) (Γ := cs_spec_inRange) (an := an_spec_inRange) (N := 15) (c := Try.f46.body.getD .skip) Try.func46 (by kernel_rfl) Try.ntmps46 (by decide) (by decide) mixed tabOK cok_spec_inRange (by kernel_rfl) ?_
  intro vs kk _ hF
  exact i_spec_inRange (motive := fun vs => Goes (ev TT cs_spec_inRange 15 an_spec_inRange (Try.f46.body.getD .skip) (st0 con_spec_inRange vs) (fin TT con_spec_inRange Try.f46.results.toList [.c .sc] vs kk))) hF (fun n0 low1 high2 hF => goes_of (e_spec_inRange n0 low1 high2 kk) (F_spec_inRange_S hF))
def con_spec_allIn : Con := ⟨[.rd, .rd, .rd], true, [.c (.sl .int), .c (.sc), .c (.sc)], fun vs k => match vs with
    | [.c (.ro .int list0), .c (.v (.int .i64 low1)), .c (.v (.int .i64 high2))] => F_spec_allIn list0 low1 high2 (fun r0 => k (.one (.c (.v (.bool r0)))) [])
    | _ => False, false⟩
def cl_spec_allIn : List (FuncId × Con) := [(46, con_spec_inRange)]
def nm0_spec_allIn : List NStep := [.keep [0, 1, 2, 7] []]
def an_spec_allIn : Ann := ⟨[], [(2, nm0_spec_allIn)], [], []⟩
def cs_spec_allIn : Cons := ⟨cl_spec_allIn, [], 0, [], [], []⟩
def can0_spec_allIn (high2 : Int) (list0 : List Int) (low1 : Int) (xi7 : Int) : St := ⟨[(0, .one (.c (.ro .int list0))), (1, .one (.c (.v (.int .i64 low1)))), (2, .one (.c (.v (.int .i64 high2)))), (7, .one (.c (.v (.int .i64 xi7))))], []⟩
def fin_spec_allIn (list0 : List Int) (low1 : Int) (high2 : Int) (kk : AV → List A1 → Prop) : Kt := fin TT con_spec_allIn Try.f55.results.toList [.c .sc] [.c (.ro .int list0), .c (.v (.int .i64 low1)), .c (.v (.int .i64 high2))] kk
def kt0_spec_allIn (kf : Kt) : Kt := blockK 0 (seqK (evF TT cs_spec_allIn 22 an_spec_allIn Try.f55 [1, 1]) (kf))
theorem r0_spec_allIn (list0 : List Int) (low1 : Int) (high2 : Int) (kk : AV → List A1 → Prop) (n : Nat) (xi7 : Int) :
    iter (evF TT cs_spec_allIn 22 an_spec_allIn Try.f55 [1, 0, 1, 0, 0]) nm0_spec_allIn (kt0_spec_allIn (fin_spec_allIn list0 low1 high2 kk)) (n + 1) (can0_spec_allIn high2 list0 low1 xi7) = T0_spec_allIn high2 list0 low1 xi7 (fun r0 => kk (.one (.c (.v (.bool r0)))) []) (fun xi7 => iter (evF TT cs_spec_allIn 22 an_spec_allIn Try.f55 [1, 0, 1, 0, 0]) nm0_spec_allIn (kt0_spec_allIn (fin_spec_allIn list0 low1 high2 kk)) n (can0_spec_allIn high2 list0 low1 xi7)) := by kernel_rfl
theorem l0_spec_allIn (list0 : List Int) (low1 : Int) (high2 : Int) (kk : AV → List A1 → Prop) : ∀ (n : Nat) (xi7 : Int), iter (evF TT cs_spec_allIn 22 an_spec_allIn Try.f55 [1, 0, 1, 0, 0]) nm0_spec_allIn (kt0_spec_allIn (fin_spec_allIn list0 low1 high2 kk)) n (can0_spec_allIn high2 list0 low1 xi7) = L0_spec_allIn high2 list0 low1 (fun r0 => kk (.one (.c (.v (.bool r0)))) []) n xi7 := by
  intro n
  induction n with
  | zero => intros; rfl
  | succ n ih =>
    intro xi7
    rw [r0_spec_allIn list0 low1 high2 kk n xi7]
    have hb : (fun xi7 => iter (evF TT cs_spec_allIn 22 an_spec_allIn Try.f55 [1, 0, 1, 0, 0]) nm0_spec_allIn (kt0_spec_allIn (fin_spec_allIn list0 low1 high2 kk)) n (can0_spec_allIn high2 list0 low1 xi7)) = L0_spec_allIn high2 list0 low1 (fun r0 => kk (.one (.c (.v (.bool r0)))) []) n := by
      funext xi7; exact ih xi7
    rw [hb]
    rfl
theorem g_spec_allIn (list0 : List Int) (low1 : Int) (high2 : Int) (kk : AV → List A1 → Prop) :
    ev TT cs_spec_allIn 22 an_spec_allIn (Try.f55.body.getD .skip) (st0 con_spec_allIn [.c (.ro .int list0), .c (.v (.int .i64 low1)), .c (.v (.int .i64 high2))]) (fin TT con_spec_allIn Try.f55.results.toList [.c .sc] [.c (.ro .int list0), .c (.v (.int .i64 low1)), .c (.v (.int .i64 high2))] kk) = G_spec_allIn list0 low1 high2 (fun high2 list0 low1 xi7 => ∃ j, iter (evF TT cs_spec_allIn 22 an_spec_allIn Try.f55 [1, 0, 1, 0, 0]) nm0_spec_allIn (kt0_spec_allIn (fin_spec_allIn list0 low1 high2 kk)) j (can0_spec_allIn high2 list0 low1 xi7)) := by kernel_rfl
theorem e_spec_allIn (list0 : List Int) (low1 : Int) (high2 : Int) (kk : AV → List A1 → Prop) :
    ev TT cs_spec_allIn 22 an_spec_allIn (Try.f55.body.getD .skip) (st0 con_spec_allIn [.c (.ro .int list0), .c (.v (.int .i64 low1)), .c (.v (.int .i64 high2))]) (fin TT con_spec_allIn Try.f55.results.toList [.c .sc] [.c (.ro .int list0), .c (.v (.int .i64 low1)), .c (.v (.int .i64 high2))] kk) = S_spec_allIn list0 low1 high2 (fun r0 => kk (.one (.c (.v (.bool r0)))) []) := by
  rw [g_spec_allIn]
  have hi0 : (fun high2 list0 low1 xi7 => ∃ j, iter (evF TT cs_spec_allIn 22 an_spec_allIn Try.f55 [1, 0, 1, 0, 0]) nm0_spec_allIn (kt0_spec_allIn (fin_spec_allIn list0 low1 high2 kk)) j (can0_spec_allIn high2 list0 low1 xi7)) = (fun high2 list0 low1 xi7 => ∃ j, L0_spec_allIn high2 list0 low1 (fun r0 => kk (.one (.c (.v (.bool r0)))) []) j xi7) := by
    funext high2 list0 low1 xi7
    refine congrArg Exists (funext fun j => ?_)
    rw [l0_spec_allIn list0 low1 high2 kk j xi7]
  rw [hi0]
  rfl
theorem clok_spec_allIn : ConOK Try.prog cl_spec_allIn := consCons h_spec_inRange ⟨Try.f46, Try.func46, by kernel_rfl, ne_of_beq (by kernel_rfl)⟩ (consNil)
theorem cok_spec_allIn : ConsOK Try.prog 22 cs_spec_allIn := ⟨clok_spec_allIn, inlNil, ovNil⟩
theorem i_spec_allIn {vs : List A1} {kk : AV → List A1 → Prop} {motive : List A1 → Prop} (h : con_spec_allIn.F vs kk) (H : ∀ (list0 : List Int) (low1 : Int) (high2 : Int), F_spec_allIn list0 low1 high2 (fun r0 => kk (.one (.c (.v (.bool r0)))) []) → motive [.c (.ro .int list0), .c (.v (.int .i64 low1)), .c (.v (.int .i64 high2))]) : motive vs := by
  unfold con_spec_allIn at h
  dsimp only at h
  split at h
  · exact H _ _ _ h
  · exact h.elim
theorem h_spec_allIn : Holds Try.prog 55 con_spec_allIn := by
  refine holds_of_ev (rt := [.c .sc]) (T := TT) (Γ := cs_spec_allIn) (an := an_spec_allIn) (N := 22) (c := Try.f55.body.getD .skip) Try.func55 (by kernel_rfl) Try.ntmps55 (by decide) (by decide) mixed tabOK cok_spec_allIn (by kernel_rfl) ?_
  intro vs kk _ hF
  exact i_spec_allIn (motive := fun vs => Goes (ev TT cs_spec_allIn 22 an_spec_allIn (Try.f55.body.getD .skip) (st0 con_spec_allIn vs) (fin TT con_spec_allIn Try.f55.results.toList [.c .sc] vs kk))) hF (fun list0 low1 high2 hF => goes_of (e_spec_allIn list0 low1 high2 kk) (F_spec_allIn_S hF))
def con_spec_validLines : Con := ⟨[.rd, .rd], true, [.c (.sl .iib), .c (.sc)], fun vs k => match vs with
    | [.c (.ro .iib list0), .c (.v (.int .i64 room1))] => F_spec_validLines list0 room1 (fun r0 => k (.one (.c (.v (.bool r0)))) [])
    | _ => False, false⟩
def cl_spec_validLines : List (FuncId × Con) := [(46, con_spec_inRange)]
def nm1_spec_validLines : List NStep := [.keep [0, 1, 5, 6] []]
def nm0_spec_validLines : List NStep := [.keep [0, 1, 5] []]
def an_spec_validLines : Ann := ⟨[(9, .take 0 (.take 1 (.take 2 (.take 3 (.take 4 (.take 5 (.take 6 (.take 7 (.take 8 (.take 9 (.take 10 (.done))))))))))), [])], [(7, nm1_spec_validLines), (2, nm0_spec_validLines)], [], []⟩
def cs_spec_validLines : Cons := ⟨cl_spec_validLines, [], 0, [], [], []⟩
def can1_spec_validLines (list0 : List (Int × Int × Bool)) (room1 : Int) (xi5 : Int) (xk6 : Int) : St := ⟨[(0, .one (.c (.ro .iib list0))), (1, .one (.c (.v (.int .i64 room1)))), (5, .one (.c (.v (.int .i64 xi5)))), (6, .one (.c (.v (.int .i64 xk6))))], []⟩
def can0_spec_validLines (list0 : List (Int × Int × Bool)) (room1 : Int) (xi5 : Int) : St := ⟨[(0, .one (.c (.ro .iib list0))), (1, .one (.c (.v (.int .i64 room1)))), (5, .one (.c (.v (.int .i64 xi5))))], []⟩
def fin_spec_validLines (list0 : List (Int × Int × Bool)) (room1 : Int) (kk : AV → List A1 → Prop) : Kt := fin TT con_spec_validLines Try.f56.results.toList [.c .sc] [.c (.ro .iib list0), .c (.v (.int .i64 room1))] kk
def kt1_spec_validLines (kf : Kt) (b0 : St → Prop) : Kt := blockK 2 (blockK 1 (seqK (evF TT cs_spec_validLines 53 an_spec_validLines Try.f56 [1, 0, 1, 0, 0, 1, 1]) (backK nm0_spec_validLines b0 (blockK 0 (seqK (evF TT cs_spec_validLines 53 an_spec_validLines Try.f56 [1, 1]) (kf))))))
def kt0_spec_validLines (kf : Kt) : Kt := blockK 0 (seqK (evF TT cs_spec_validLines 53 an_spec_validLines Try.f56 [1, 1]) (kf))
theorem r1_spec_validLines (list0 : List (Int × Int × Bool)) (room1 : Int) (xi5 : Int) (kk : AV → List A1 → Prop) (b0 : St → Prop) (n : Nat) (xk6 : Int) :
    iter (evF TT cs_spec_validLines 53 an_spec_validLines Try.f56 [1, 0, 1, 0, 0, 1, 0, 0, 1, 1, 0, 0]) nm1_spec_validLines (kt1_spec_validLines (fin_spec_validLines list0 room1 kk) b0) (n + 1) (can1_spec_validLines list0 room1 xi5 xk6) = T1_spec_validLines list0 room1 xi5 xk6 (fun r0 => kk (.one (.c (.v (.bool r0)))) []) (fun xi5 => b0 (can0_spec_validLines list0 room1 xi5)) (fun xk6 => iter (evF TT cs_spec_validLines 53 an_spec_validLines Try.f56 [1, 0, 1, 0, 0, 1, 0, 0, 1, 1, 0, 0]) nm1_spec_validLines (kt1_spec_validLines (fin_spec_validLines list0 room1 kk) b0) n (can1_spec_validLines list0 room1 xi5 xk6)) := by kernel_rfl
theorem l1_spec_validLines (list0 : List (Int × Int × Bool)) (room1 : Int) (xi5 : Int) (kk : AV → List A1 → Prop) (b0 : St → Prop) : ∀ (n : Nat) (xk6 : Int), iter (evF TT cs_spec_validLines 53 an_spec_validLines Try.f56 [1, 0, 1, 0, 0, 1, 0, 0, 1, 1, 0, 0]) nm1_spec_validLines (kt1_spec_validLines (fin_spec_validLines list0 room1 kk) b0) n (can1_spec_validLines list0 room1 xi5 xk6) = L1_spec_validLines list0 room1 xi5 (fun r0 => kk (.one (.c (.v (.bool r0)))) []) (fun xi5 => b0 (can0_spec_validLines list0 room1 xi5)) n xk6 := by
  intro n
  induction n with
  | zero => intros; rfl
  | succ n ih =>
    intro xk6
    rw [r1_spec_validLines list0 room1 xi5 kk b0 n xk6]
    have hb : (fun xk6 => iter (evF TT cs_spec_validLines 53 an_spec_validLines Try.f56 [1, 0, 1, 0, 0, 1, 0, 0, 1, 1, 0, 0]) nm1_spec_validLines (kt1_spec_validLines (fin_spec_validLines list0 room1 kk) b0) n (can1_spec_validLines list0 room1 xi5 xk6)) = L1_spec_validLines list0 room1 xi5 (fun r0 => kk (.one (.c (.v (.bool r0)))) []) (fun xi5 => b0 (can0_spec_validLines list0 room1 xi5)) n := by
      funext xk6; exact ih xk6
    rw [hb]
    rfl
theorem r0_spec_validLines (list0 : List (Int × Int × Bool)) (room1 : Int) (kk : AV → List A1 → Prop) (n : Nat) (xi5 : Int) :
    iter (evF TT cs_spec_validLines 53 an_spec_validLines Try.f56 [1, 0, 1, 0, 0]) nm0_spec_validLines (kt0_spec_validLines (fin_spec_validLines list0 room1 kk)) (n + 1) (can0_spec_validLines list0 room1 xi5) = T0_spec_validLines list0 room1 xi5 (fun r0 => kk (.one (.c (.v (.bool r0)))) []) (fun list0 room1 xi5 xk6 => ∃ j, iter (evF TT cs_spec_validLines 53 an_spec_validLines Try.f56 [1, 0, 1, 0, 0, 1, 0, 0, 1, 1, 0, 0]) nm1_spec_validLines (kt1_spec_validLines (fin_spec_validLines list0 room1 kk) (iter (evF TT cs_spec_validLines 53 an_spec_validLines Try.f56 [1, 0, 1, 0, 0]) nm0_spec_validLines (kt0_spec_validLines (fin_spec_validLines list0 room1 kk)) n)) j (can1_spec_validLines list0 room1 xi5 xk6)) := by kernel_rfl
theorem l0_spec_validLines (list0 : List (Int × Int × Bool)) (room1 : Int) (kk : AV → List A1 → Prop) : ∀ (n : Nat) (xi5 : Int), iter (evF TT cs_spec_validLines 53 an_spec_validLines Try.f56 [1, 0, 1, 0, 0]) nm0_spec_validLines (kt0_spec_validLines (fin_spec_validLines list0 room1 kk)) n (can0_spec_validLines list0 room1 xi5) = L0_spec_validLines list0 room1 (fun r0 => kk (.one (.c (.v (.bool r0)))) []) n xi5 := by
  intro n
  induction n generalizing list0 room1 with
  | zero => intros; rfl
  | succ n ih =>
    intro xi5
    rw [r0_spec_validLines list0 room1 kk n xi5]
    have hb : ∀ (list0 : List (Int × Int × Bool)) (room1 : Int), (fun xi5 => iter (evF TT cs_spec_validLines 53 an_spec_validLines Try.f56 [1, 0, 1, 0, 0]) nm0_spec_validLines (kt0_spec_validLines (fin_spec_validLines list0 room1 kk)) n (can0_spec_validLines list0 room1 xi5)) = L0_spec_validLines list0 room1 (fun r0 => kk (.one (.c (.v (.bool r0)))) []) n := by
      intro list0 room1
      funext xi5; exact ih list0 room1 xi5
    have hi1 : (fun list0 room1 xi5 xk6 => ∃ j, iter (evF TT cs_spec_validLines 53 an_spec_validLines Try.f56 [1, 0, 1, 0, 0, 1, 0, 0, 1, 1, 0, 0]) nm1_spec_validLines (kt1_spec_validLines (fin_spec_validLines list0 room1 kk) (iter (evF TT cs_spec_validLines 53 an_spec_validLines Try.f56 [1, 0, 1, 0, 0]) nm0_spec_validLines (kt0_spec_validLines (fin_spec_validLines list0 room1 kk)) n)) j (can1_spec_validLines list0 room1 xi5 xk6)) = (fun list0 room1 xi5 xk6 => ∃ j, L1_spec_validLines list0 room1 xi5 (fun r0 => kk (.one (.c (.v (.bool r0)))) []) (L0_spec_validLines list0 room1 (fun r0 => kk (.one (.c (.v (.bool r0)))) []) n) j xk6) := by
      funext list0 room1 xi5 xk6
      refine congrArg Exists (funext fun j => ?_)
      rw [l1_spec_validLines list0 room1 xi5 kk (iter (evF TT cs_spec_validLines 53 an_spec_validLines Try.f56 [1, 0, 1, 0, 0]) nm0_spec_validLines (kt0_spec_validLines (fin_spec_validLines list0 room1 kk)) n) j xk6]
      rw [hb]
    rw [hi1]
    rfl
theorem g_spec_validLines (list0 : List (Int × Int × Bool)) (room1 : Int) (kk : AV → List A1 → Prop) :
    ev TT cs_spec_validLines 53 an_spec_validLines (Try.f56.body.getD .skip) (st0 con_spec_validLines [.c (.ro .iib list0), .c (.v (.int .i64 room1))]) (fin TT con_spec_validLines Try.f56.results.toList [.c .sc] [.c (.ro .iib list0), .c (.v (.int .i64 room1))] kk) = G_spec_validLines list0 room1 (fun list0 room1 xi5 => ∃ j, iter (evF TT cs_spec_validLines 53 an_spec_validLines Try.f56 [1, 0, 1, 0, 0]) nm0_spec_validLines (kt0_spec_validLines (fin_spec_validLines list0 room1 kk)) j (can0_spec_validLines list0 room1 xi5)) := by kernel_rfl
theorem e_spec_validLines (list0 : List (Int × Int × Bool)) (room1 : Int) (kk : AV → List A1 → Prop) :
    ev TT cs_spec_validLines 53 an_spec_validLines (Try.f56.body.getD .skip) (st0 con_spec_validLines [.c (.ro .iib list0), .c (.v (.int .i64 room1))]) (fin TT con_spec_validLines Try.f56.results.toList [.c .sc] [.c (.ro .iib list0), .c (.v (.int .i64 room1))] kk) = S_spec_validLines list0 room1 (fun r0 => kk (.one (.c (.v (.bool r0)))) []) := by
  rw [g_spec_validLines]
  have hi0 : (fun list0 room1 xi5 => ∃ j, iter (evF TT cs_spec_validLines 53 an_spec_validLines Try.f56 [1, 0, 1, 0, 0]) nm0_spec_validLines (kt0_spec_validLines (fin_spec_validLines list0 room1 kk)) j (can0_spec_validLines list0 room1 xi5)) = (fun list0 room1 xi5 => ∃ j, L0_spec_validLines list0 room1 (fun r0 => kk (.one (.c (.v (.bool r0)))) []) j xi5) := by
    funext list0 room1 xi5
    refine congrArg Exists (funext fun j => ?_)
    rw [l0_spec_validLines list0 room1 kk j xi5]
  rw [hi0]
  rfl
theorem clok_spec_validLines : ConOK Try.prog cl_spec_validLines := consCons h_spec_inRange ⟨Try.f46, Try.func46, by kernel_rfl, ne_of_beq (by kernel_rfl)⟩ (consNil)
theorem cok_spec_validLines : ConsOK Try.prog 53 cs_spec_validLines := ⟨clok_spec_validLines, inlNil, ovNil⟩
theorem i_spec_validLines {vs : List A1} {kk : AV → List A1 → Prop} {motive : List A1 → Prop} (h : con_spec_validLines.F vs kk) (H : ∀ (list0 : List (Int × Int × Bool)) (room1 : Int), F_spec_validLines list0 room1 (fun r0 => kk (.one (.c (.v (.bool r0)))) []) → motive [.c (.ro .iib list0), .c (.v (.int .i64 room1))]) : motive vs := by
  unfold con_spec_validLines at h
  dsimp only at h
  split at h
  · exact H _ _ h
  · exact h.elim
theorem h_spec_validLines : Holds Try.prog 56 con_spec_validLines := by
  refine holds_of_ev (rt := [.c .sc]) (T := TT) (Γ := cs_spec_validLines) (an := an_spec_validLines) (N := 53) (c := Try.f56.body.getD .skip) Try.func56 (by kernel_rfl) Try.ntmps56 (by decide) (by decide) mixed tabOK cok_spec_validLines (by kernel_rfl) ?_
  intro vs kk _ hF
  exact i_spec_validLines (motive := fun vs => Goes (ev TT cs_spec_validLines 53 an_spec_validLines (Try.f56.body.getD .skip) (st0 con_spec_validLines vs) (fin TT con_spec_validLines Try.f56.results.toList [.c .sc] vs kk))) hF (fun list0 room1 hF => goes_of (e_spec_validLines list0 room1 kk) (F_spec_validLines_S hF))
def con_spec_cleanLines : Con := ⟨[.rd], true, [.agg [.sl .int, .sl .iib, .sc]], fun vs k => match vs with
    | [.agg [.ro .int m0Store, .ro .iib m0Lines, .v (.int .i64 m0Room)]] => F_spec_cleanLines m0Store m0Lines m0Room (fun r0 => k (.one (.c (.v (.bool r0)))) [])
    | _ => False, false⟩
def cl_spec_cleanLines : List (FuncId × Con) := []
def nm0_spec_cleanLines : List NStep := [.keep [1, 3] [16]]
def an_spec_cleanLines : Ann := ⟨[(4, .take 0 (.take 1 (.take 2 (.take 3 (.take 4 (.take 5 (.take 6 (.take 7 (.take 8 (.take 9 (.take 10 (.take 11 (.take 12 (.take 13 (.take 14 (.take 15 (.take 16 (.take 17 (.take 18 (.take 19 (.take 20 (.take 21 (.take 22 (.take 23 (.take 24 (.take 25 (.done)))))))))))))))))))))))))), [16])], [(2, nm0_spec_cleanLines)], [], []⟩
def cs_spec_cleanLines : Cons := ⟨cl_spec_cleanLines, [], 0, [], [], []⟩
def can0_spec_cleanLines (m0Lines : List (Int × Int × Bool)) (m0Room : Int) (m0Store : List Int) (xi3 : Int) : St := ⟨[(1, .one (.c (.pb 16 0))), (3, .one (.c (.v (.int .i64 xi3))))], [(16, .box [.ro .int m0Store, .ro .iib m0Lines, .v (.int .i64 m0Room)])]⟩
def fin_spec_cleanLines (m0Store : List Int) (m0Lines : List (Int × Int × Bool)) (m0Room : Int) (kk : AV → List A1 → Prop) : Kt := fin TT con_spec_cleanLines Try.f57.results.toList [.c .sc] [.agg [.ro .int m0Store, .ro .iib m0Lines, .v (.int .i64 m0Room)]] kk
def kt0_spec_cleanLines (kf : Kt) : Kt := blockK 0 (seqK (evF TT cs_spec_cleanLines 37 an_spec_cleanLines Try.f57 [1, 1]) (kf))
theorem r0_spec_cleanLines (m0Store : List Int) (m0Lines : List (Int × Int × Bool)) (m0Room : Int) (kk : AV → List A1 → Prop) (n : Nat) (xi3 : Int) :
    iter (evF TT cs_spec_cleanLines 37 an_spec_cleanLines Try.f57 [1, 0, 1, 0, 0]) nm0_spec_cleanLines (kt0_spec_cleanLines (fin_spec_cleanLines m0Store m0Lines m0Room kk)) (n + 1) (can0_spec_cleanLines m0Lines m0Room m0Store xi3) = T0_spec_cleanLines m0Lines m0Room m0Store xi3 (fun r0 => kk (.one (.c (.v (.bool r0)))) []) (fun xi3 => iter (evF TT cs_spec_cleanLines 37 an_spec_cleanLines Try.f57 [1, 0, 1, 0, 0]) nm0_spec_cleanLines (kt0_spec_cleanLines (fin_spec_cleanLines m0Store m0Lines m0Room kk)) n (can0_spec_cleanLines m0Lines m0Room m0Store xi3)) := by kernel_rfl
theorem l0_spec_cleanLines (m0Store : List Int) (m0Lines : List (Int × Int × Bool)) (m0Room : Int) (kk : AV → List A1 → Prop) : ∀ (n : Nat) (xi3 : Int), iter (evF TT cs_spec_cleanLines 37 an_spec_cleanLines Try.f57 [1, 0, 1, 0, 0]) nm0_spec_cleanLines (kt0_spec_cleanLines (fin_spec_cleanLines m0Store m0Lines m0Room kk)) n (can0_spec_cleanLines m0Lines m0Room m0Store xi3) = L0_spec_cleanLines m0Lines m0Room m0Store (fun r0 => kk (.one (.c (.v (.bool r0)))) []) n xi3 := by
  intro n
  induction n with
  | zero => intros; rfl
  | succ n ih =>
    intro xi3
    rw [r0_spec_cleanLines m0Store m0Lines m0Room kk n xi3]
    have hb : (fun xi3 => iter (evF TT cs_spec_cleanLines 37 an_spec_cleanLines Try.f57 [1, 0, 1, 0, 0]) nm0_spec_cleanLines (kt0_spec_cleanLines (fin_spec_cleanLines m0Store m0Lines m0Room kk)) n (can0_spec_cleanLines m0Lines m0Room m0Store xi3)) = L0_spec_cleanLines m0Lines m0Room m0Store (fun r0 => kk (.one (.c (.v (.bool r0)))) []) n := by
      funext xi3; exact ih xi3
    rw [hb]
    rfl
theorem g_spec_cleanLines (m0Store : List Int) (m0Lines : List (Int × Int × Bool)) (m0Room : Int) (kk : AV → List A1 → Prop) :
    ev TT cs_spec_cleanLines 37 an_spec_cleanLines (Try.f57.body.getD .skip) (st0 con_spec_cleanLines [.agg [.ro .int m0Store, .ro .iib m0Lines, .v (.int .i64 m0Room)]]) (fin TT con_spec_cleanLines Try.f57.results.toList [.c .sc] [.agg [.ro .int m0Store, .ro .iib m0Lines, .v (.int .i64 m0Room)]] kk) = G_spec_cleanLines m0Store m0Lines m0Room (fun m0Lines m0Room m0Store xi3 => ∃ j, iter (evF TT cs_spec_cleanLines 37 an_spec_cleanLines Try.f57 [1, 0, 1, 0, 0]) nm0_spec_cleanLines (kt0_spec_cleanLines (fin_spec_cleanLines m0Store m0Lines m0Room kk)) j (can0_spec_cleanLines m0Lines m0Room m0Store xi3)) := by kernel_rfl
theorem e_spec_cleanLines (m0Store : List Int) (m0Lines : List (Int × Int × Bool)) (m0Room : Int) (kk : AV → List A1 → Prop) :
    ev TT cs_spec_cleanLines 37 an_spec_cleanLines (Try.f57.body.getD .skip) (st0 con_spec_cleanLines [.agg [.ro .int m0Store, .ro .iib m0Lines, .v (.int .i64 m0Room)]]) (fin TT con_spec_cleanLines Try.f57.results.toList [.c .sc] [.agg [.ro .int m0Store, .ro .iib m0Lines, .v (.int .i64 m0Room)]] kk) = S_spec_cleanLines m0Store m0Lines m0Room (fun r0 => kk (.one (.c (.v (.bool r0)))) []) := by
  rw [g_spec_cleanLines]
  have hi0 : (fun m0Lines m0Room m0Store xi3 => ∃ j, iter (evF TT cs_spec_cleanLines 37 an_spec_cleanLines Try.f57 [1, 0, 1, 0, 0]) nm0_spec_cleanLines (kt0_spec_cleanLines (fin_spec_cleanLines m0Store m0Lines m0Room kk)) j (can0_spec_cleanLines m0Lines m0Room m0Store xi3)) = (fun m0Lines m0Room m0Store xi3 => ∃ j, L0_spec_cleanLines m0Lines m0Room m0Store (fun r0 => kk (.one (.c (.v (.bool r0)))) []) j xi3) := by
    funext m0Lines m0Room m0Store xi3
    refine congrArg Exists (funext fun j => ?_)
    rw [l0_spec_cleanLines m0Store m0Lines m0Room kk j xi3]
  rw [hi0]
  rfl
theorem clok_spec_cleanLines : ConOK Try.prog cl_spec_cleanLines := consNil
theorem cok_spec_cleanLines : ConsOK Try.prog 37 cs_spec_cleanLines := ⟨clok_spec_cleanLines, inlNil, ovNil⟩
theorem i_spec_cleanLines {vs : List A1} {kk : AV → List A1 → Prop} {motive : List A1 → Prop} (h : con_spec_cleanLines.F vs kk) (H : ∀ (m0Store : List Int) (m0Lines : List (Int × Int × Bool)) (m0Room : Int), F_spec_cleanLines m0Store m0Lines m0Room (fun r0 => kk (.one (.c (.v (.bool r0)))) []) → motive [.agg [.ro .int m0Store, .ro .iib m0Lines, .v (.int .i64 m0Room)]]) : motive vs := by
  unfold con_spec_cleanLines at h
  dsimp only at h
  split at h
  · exact H _ _ _ h
  · exact h.elim
theorem h_spec_cleanLines : Holds Try.prog 57 con_spec_cleanLines := by
  refine holds_of_ev (rt := [.c .sc]) (T := TT) (Γ := cs_spec_cleanLines) (an := an_spec_cleanLines) (N := 37) (c := Try.f57.body.getD .skip) Try.func57 (by kernel_rfl) Try.ntmps57 (by decide) (by decide) mixed tabOK cok_spec_cleanLines (by kernel_rfl) ?_
  intro vs kk _ hF
  exact i_spec_cleanLines (motive := fun vs => Goes (ev TT cs_spec_cleanLines 37 an_spec_cleanLines (Try.f57.body.getD .skip) (st0 con_spec_cleanLines vs) (fin TT con_spec_cleanLines Try.f57.results.toList [.c .sc] vs kk))) hF (fun m0Store m0Lines m0Room hF => goes_of (e_spec_cleanLines m0Store m0Lines m0Room kk) (F_spec_cleanLines_S hF))
def con_spec_validMemory : Con := ⟨[.rd], true, [.agg [.sl .int, .sl .iib, .sc]], fun vs k => match vs with
    | [.agg [.ro .int m0Store, .ro .iib m0Lines, .v (.int .i64 m0Room)]] => F_spec_validMemory m0Store m0Lines m0Room (fun r0 => k (.one (.c (.v (.bool r0)))) [])
    | _ => False, false⟩
def cl_spec_validMemory : List (FuncId × Con) := [(55, con_spec_allIn), (56, con_spec_validLines), (57, con_spec_cleanLines)]
def an_spec_validMemory : Ann := ⟨[], [], [], []⟩
def cs_spec_validMemory : Cons := ⟨cl_spec_validMemory, [], 0, [], [], []⟩
def fin_spec_validMemory (m0Store : List Int) (m0Lines : List (Int × Int × Bool)) (m0Room : Int) (kk : AV → List A1 → Prop) : Kt := fin TT con_spec_validMemory Try.f40.results.toList [.c .sc] [.agg [.ro .int m0Store, .ro .iib m0Lines, .v (.int .i64 m0Room)]] kk
theorem g_spec_validMemory (m0Store : List Int) (m0Lines : List (Int × Int × Bool)) (m0Room : Int) (kk : AV → List A1 → Prop) :
    ev TT cs_spec_validMemory 23 an_spec_validMemory (Try.f40.body.getD .skip) (st0 con_spec_validMemory [.agg [.ro .int m0Store, .ro .iib m0Lines, .v (.int .i64 m0Room)]]) (fin TT con_spec_validMemory Try.f40.results.toList [.c .sc] [.agg [.ro .int m0Store, .ro .iib m0Lines, .v (.int .i64 m0Room)]] kk) = G_spec_validMemory m0Store m0Lines m0Room (fun r0 => kk (.one (.c (.v (.bool r0)))) []) := by kernel_rfl
theorem e_spec_validMemory (m0Store : List Int) (m0Lines : List (Int × Int × Bool)) (m0Room : Int) (kk : AV → List A1 → Prop) :
    ev TT cs_spec_validMemory 23 an_spec_validMemory (Try.f40.body.getD .skip) (st0 con_spec_validMemory [.agg [.ro .int m0Store, .ro .iib m0Lines, .v (.int .i64 m0Room)]]) (fin TT con_spec_validMemory Try.f40.results.toList [.c .sc] [.agg [.ro .int m0Store, .ro .iib m0Lines, .v (.int .i64 m0Room)]] kk) = S_spec_validMemory m0Store m0Lines m0Room (fun r0 => kk (.one (.c (.v (.bool r0)))) []) := by
  rw [g_spec_validMemory]
  rfl
theorem clok_spec_validMemory : ConOK Try.prog cl_spec_validMemory := consCons h_spec_allIn ⟨Try.f55, Try.func55, by kernel_rfl, ne_of_beq (by kernel_rfl)⟩ (consCons h_spec_validLines ⟨Try.f56, Try.func56, by kernel_rfl, ne_of_beq (by kernel_rfl)⟩ (consCons h_spec_cleanLines ⟨Try.f57, Try.func57, by kernel_rfl, ne_of_beq (by kernel_rfl)⟩ (consNil)))
theorem cok_spec_validMemory : ConsOK Try.prog 23 cs_spec_validMemory := ⟨clok_spec_validMemory, inlNil, ovNil⟩
theorem i_spec_validMemory {vs : List A1} {kk : AV → List A1 → Prop} {motive : List A1 → Prop} (h : con_spec_validMemory.F vs kk) (H : ∀ (m0Store : List Int) (m0Lines : List (Int × Int × Bool)) (m0Room : Int), F_spec_validMemory m0Store m0Lines m0Room (fun r0 => kk (.one (.c (.v (.bool r0)))) []) → motive [.agg [.ro .int m0Store, .ro .iib m0Lines, .v (.int .i64 m0Room)]]) : motive vs := by
  unfold con_spec_validMemory at h
  dsimp only at h
  split at h
  · exact H _ _ _ h
  · exact h.elim
theorem h_spec_validMemory : Holds Try.prog 40 con_spec_validMemory := by
  refine holds_of_ev (rt := [.c .sc]) (T := TT) (Γ := cs_spec_validMemory) (an := an_spec_validMemory) (N := 23) (c := Try.f40.body.getD .skip) Try.func40 (by kernel_rfl) Try.ntmps40 (by decide) (by decide) mixed tabOK cok_spec_validMemory (by kernel_rfl) ?_
  intro vs kk _ hF
  exact i_spec_validMemory (motive := fun vs => Goes (ev TT cs_spec_validMemory 23 an_spec_validMemory (Try.f40.body.getD .skip) (st0 con_spec_validMemory vs) (fin TT con_spec_validMemory Try.f40.results.toList [.c .sc] vs kk))) hF (fun m0Store m0Lines m0Room hF => goes_of (e_spec_validMemory m0Store m0Lines m0Room kk) (F_spec_validMemory_S hF))
def con_spec_WriteKey : Con := ⟨[.rd, .rd, .rd], true, [.agg [.sl .int, .sl .iib, .sc], .c (.sc), .c (.sc)], fun vs k => match vs with
    | [.agg [.ro .int m0Store, .ro .iib m0Lines, .v (.int .i64 m0Room)], .c (.v (.int .i64 key1)), .c (.v (.int .i64 value2))] => F_spec_WriteKey m0Store m0Lines m0Room key1 value2 (fun r0 r1 r2 r3 => k (.tup [.agg [.ro .int r0, .ro .iib r1, .v (.int .i64 r2)], .c (.v (.bool r3))]) [])
    | _ => False, false⟩
def cl_spec_WriteKey : List (FuncId × Con) := [(40, con_spec_validMemory), (46, con_spec_inRange), (47, con_spec_access)]
def an_spec_WriteKey : Ann := ⟨[], [], [], []⟩
def cs_spec_WriteKey : Cons := ⟨cl_spec_WriteKey, [], 0, [], [], []⟩
def fin_spec_WriteKey (m0Store : List Int) (m0Lines : List (Int × Int × Bool)) (m0Room : Int) (key1 : Int) (value2 : Int) (kk : AV → List A1 → Prop) : Kt := fin TT con_spec_WriteKey Try.f25.results.toList [.agg [.sl .int, .sl .iib, .sc], .c .sc] [.agg [.ro .int m0Store, .ro .iib m0Lines, .v (.int .i64 m0Room)], .c (.v (.int .i64 key1)), .c (.v (.int .i64 value2))] kk
theorem g_spec_WriteKey (m0Store : List Int) (m0Lines : List (Int × Int × Bool)) (m0Room : Int) (key1 : Int) (value2 : Int) (kk : AV → List A1 → Prop) :
    ev TT cs_spec_WriteKey 33 an_spec_WriteKey (Try.f25.body.getD .skip) (st0 con_spec_WriteKey [.agg [.ro .int m0Store, .ro .iib m0Lines, .v (.int .i64 m0Room)], .c (.v (.int .i64 key1)), .c (.v (.int .i64 value2))]) (fin TT con_spec_WriteKey Try.f25.results.toList [.agg [.sl .int, .sl .iib, .sc], .c .sc] [.agg [.ro .int m0Store, .ro .iib m0Lines, .v (.int .i64 m0Room)], .c (.v (.int .i64 key1)), .c (.v (.int .i64 value2))] kk) = G_spec_WriteKey m0Store m0Lines m0Room key1 value2 (fun r0 r1 r2 r3 => kk (.tup [.agg [.ro .int r0, .ro .iib r1, .v (.int .i64 r2)], .c (.v (.bool r3))]) []) := by kernel_rfl
theorem e_spec_WriteKey (m0Store : List Int) (m0Lines : List (Int × Int × Bool)) (m0Room : Int) (key1 : Int) (value2 : Int) (kk : AV → List A1 → Prop) :
    ev TT cs_spec_WriteKey 33 an_spec_WriteKey (Try.f25.body.getD .skip) (st0 con_spec_WriteKey [.agg [.ro .int m0Store, .ro .iib m0Lines, .v (.int .i64 m0Room)], .c (.v (.int .i64 key1)), .c (.v (.int .i64 value2))]) (fin TT con_spec_WriteKey Try.f25.results.toList [.agg [.sl .int, .sl .iib, .sc], .c .sc] [.agg [.ro .int m0Store, .ro .iib m0Lines, .v (.int .i64 m0Room)], .c (.v (.int .i64 key1)), .c (.v (.int .i64 value2))] kk) = S_spec_WriteKey m0Store m0Lines m0Room key1 value2 (fun r0 r1 r2 r3 => kk (.tup [.agg [.ro .int r0, .ro .iib r1, .v (.int .i64 r2)], .c (.v (.bool r3))]) []) := by
  rw [g_spec_WriteKey]
  rfl
theorem clok_spec_WriteKey : ConOK Try.prog cl_spec_WriteKey := consCons h_spec_validMemory ⟨Try.f40, Try.func40, by kernel_rfl, ne_of_beq (by kernel_rfl)⟩ (consCons h_spec_inRange ⟨Try.f46, Try.func46, by kernel_rfl, ne_of_beq (by kernel_rfl)⟩ (consCons h_spec_access ⟨Try.f47, Try.func47, by kernel_rfl, ne_of_beq (by kernel_rfl)⟩ (consNil)))
theorem cok_spec_WriteKey : ConsOK Try.prog 33 cs_spec_WriteKey := ⟨clok_spec_WriteKey, inlNil, ovNil⟩
theorem i_spec_WriteKey {vs : List A1} {kk : AV → List A1 → Prop} {motive : List A1 → Prop} (h : con_spec_WriteKey.F vs kk) (H : ∀ (m0Store : List Int) (m0Lines : List (Int × Int × Bool)) (m0Room : Int) (key1 : Int) (value2 : Int), F_spec_WriteKey m0Store m0Lines m0Room key1 value2 (fun r0 r1 r2 r3 => kk (.tup [.agg [.ro .int r0, .ro .iib r1, .v (.int .i64 r2)], .c (.v (.bool r3))]) []) → motive [.agg [.ro .int m0Store, .ro .iib m0Lines, .v (.int .i64 m0Room)], .c (.v (.int .i64 key1)), .c (.v (.int .i64 value2))]) : motive vs := by
  unfold con_spec_WriteKey at h
  dsimp only at h
  split at h
  · exact H _ _ _ _ _ h
  · exact h.elim
theorem h_spec_WriteKey : Holds Try.prog 25 con_spec_WriteKey := by
  refine holds_of_ev (rt := [.agg [.sl .int, .sl .iib, .sc], .c .sc]) (T := TT) (Γ := cs_spec_WriteKey) (an := an_spec_WriteKey) (N := 33) (c := Try.f25.body.getD .skip) Try.func25 (by kernel_rfl) Try.ntmps25 (by decide) (by decide) mixed tabOK cok_spec_WriteKey (by kernel_rfl) ?_
  intro vs kk _ hF
  exact i_spec_WriteKey (motive := fun vs => Goes (ev TT cs_spec_WriteKey 33 an_spec_WriteKey (Try.f25.body.getD .skip) (st0 con_spec_WriteKey vs) (fin TT con_spec_WriteKey Try.f25.results.toList [.agg [.sl .int, .sl .iib, .sc], .c .sc] vs kk))) hF (fun m0Store m0Lines m0Room key1 value2 hF => goes_of (e_spec_WriteKey m0Store m0Lines m0Room key1 value2 kk) (F_spec_WriteKey_S hF))
def con_laws_equalInts : Con := ⟨[.rd, .rd], true, [.c (.sl .int), .c (.sl .int)], fun vs k => match vs with
    | [.c (.ro .int a0), .c (.ro .int b1)] => F_laws_equalInts a0 b1 (fun r0 => k (.one (.c (.v (.bool r0)))) [])
    | _ => False, false⟩
def cl_laws_equalInts : List (FuncId × Con) := []
def nm0_laws_equalInts : List NStep := [.keep [0, 1, 5] []]
def an_laws_equalInts : Ann := ⟨[(6, .take 0 (.take 1 (.take 2 (.take 3 (.take 4 (.take 5 (.take 6 (.take 7 (.take 8 (.done))))))))), [])], [(4, nm0_laws_equalInts)], [], []⟩
def cs_laws_equalInts : Cons := ⟨cl_laws_equalInts, [], 0, [], [], []⟩
def can0_laws_equalInts (a0 : List Int) (b1 : List Int) (xi5 : Int) : St := ⟨[(0, .one (.c (.ro .int a0))), (1, .one (.c (.ro .int b1))), (5, .one (.c (.v (.int .i64 xi5))))], []⟩
def fin_laws_equalInts (a0 : List Int) (b1 : List Int) (kk : AV → List A1 → Prop) : Kt := fin TT con_laws_equalInts Try.f30.results.toList [.c .sc] [.c (.ro .int a0), .c (.ro .int b1)] kk
def kt0_laws_equalInts (kf : Kt) : Kt := blockK 0 (seqK (evF TT cs_laws_equalInts 26 an_laws_equalInts Try.f30 [1, 1, 1]) (kf))
theorem r0_laws_equalInts (a0 : List Int) (b1 : List Int) (kk : AV → List A1 → Prop) (n : Nat) (xi5 : Int) :
    iter (evF TT cs_laws_equalInts 26 an_laws_equalInts Try.f30 [1, 1, 0, 1, 0, 0]) nm0_laws_equalInts (kt0_laws_equalInts (fin_laws_equalInts a0 b1 kk)) (n + 1) (can0_laws_equalInts a0 b1 xi5) = T0_laws_equalInts a0 b1 xi5 (fun r0 => kk (.one (.c (.v (.bool r0)))) []) (fun xi5 => iter (evF TT cs_laws_equalInts 26 an_laws_equalInts Try.f30 [1, 1, 0, 1, 0, 0]) nm0_laws_equalInts (kt0_laws_equalInts (fin_laws_equalInts a0 b1 kk)) n (can0_laws_equalInts a0 b1 xi5)) := by kernel_rfl
theorem l0_laws_equalInts (a0 : List Int) (b1 : List Int) (kk : AV → List A1 → Prop) : ∀ (n : Nat) (xi5 : Int), iter (evF TT cs_laws_equalInts 26 an_laws_equalInts Try.f30 [1, 1, 0, 1, 0, 0]) nm0_laws_equalInts (kt0_laws_equalInts (fin_laws_equalInts a0 b1 kk)) n (can0_laws_equalInts a0 b1 xi5) = L0_laws_equalInts a0 b1 (fun r0 => kk (.one (.c (.v (.bool r0)))) []) n xi5 := by
  intro n
  induction n with
  | zero => intros; rfl
  | succ n ih =>
    intro xi5
    rw [r0_laws_equalInts a0 b1 kk n xi5]
    have hb : (fun xi5 => iter (evF TT cs_laws_equalInts 26 an_laws_equalInts Try.f30 [1, 1, 0, 1, 0, 0]) nm0_laws_equalInts (kt0_laws_equalInts (fin_laws_equalInts a0 b1 kk)) n (can0_laws_equalInts a0 b1 xi5)) = L0_laws_equalInts a0 b1 (fun r0 => kk (.one (.c (.v (.bool r0)))) []) n := by
      funext xi5; exact ih xi5
    rw [hb]
    rfl
theorem g_laws_equalInts (a0 : List Int) (b1 : List Int) (kk : AV → List A1 → Prop) :
    ev TT cs_laws_equalInts 26 an_laws_equalInts (Try.f30.body.getD .skip) (st0 con_laws_equalInts [.c (.ro .int a0), .c (.ro .int b1)]) (fin TT con_laws_equalInts Try.f30.results.toList [.c .sc] [.c (.ro .int a0), .c (.ro .int b1)] kk) = G_laws_equalInts a0 b1 (fun r0 => kk (.one (.c (.v (.bool r0)))) []) (fun a0 b1 xi5 => ∃ j, iter (evF TT cs_laws_equalInts 26 an_laws_equalInts Try.f30 [1, 1, 0, 1, 0, 0]) nm0_laws_equalInts (kt0_laws_equalInts (fin_laws_equalInts a0 b1 kk)) j (can0_laws_equalInts a0 b1 xi5)) := by kernel_rfl
theorem e_laws_equalInts (a0 : List Int) (b1 : List Int) (kk : AV → List A1 → Prop) :
    ev TT cs_laws_equalInts 26 an_laws_equalInts (Try.f30.body.getD .skip) (st0 con_laws_equalInts [.c (.ro .int a0), .c (.ro .int b1)]) (fin TT con_laws_equalInts Try.f30.results.toList [.c .sc] [.c (.ro .int a0), .c (.ro .int b1)] kk) = S_laws_equalInts a0 b1 (fun r0 => kk (.one (.c (.v (.bool r0)))) []) := by
  rw [g_laws_equalInts]
  have hi0 : (fun a0 b1 xi5 => ∃ j, iter (evF TT cs_laws_equalInts 26 an_laws_equalInts Try.f30 [1, 1, 0, 1, 0, 0]) nm0_laws_equalInts (kt0_laws_equalInts (fin_laws_equalInts a0 b1 kk)) j (can0_laws_equalInts a0 b1 xi5)) = (fun a0 b1 xi5 => ∃ j, L0_laws_equalInts a0 b1 (fun r0 => kk (.one (.c (.v (.bool r0)))) []) j xi5) := by
    funext a0 b1 xi5
    refine congrArg Exists (funext fun j => ?_)
    rw [l0_laws_equalInts a0 b1 kk j xi5]
  rw [hi0]
  rfl
theorem clok_laws_equalInts : ConOK Try.prog cl_laws_equalInts := consNil
theorem cok_laws_equalInts : ConsOK Try.prog 26 cs_laws_equalInts := ⟨clok_laws_equalInts, inlNil, ovNil⟩
theorem i_laws_equalInts {vs : List A1} {kk : AV → List A1 → Prop} {motive : List A1 → Prop} (h : con_laws_equalInts.F vs kk) (H : ∀ (a0 : List Int) (b1 : List Int), F_laws_equalInts a0 b1 (fun r0 => kk (.one (.c (.v (.bool r0)))) []) → motive [.c (.ro .int a0), .c (.ro .int b1)]) : motive vs := by
  unfold con_laws_equalInts at h
  dsimp only at h
  split at h
  · exact H _ _ h
  · exact h.elim
theorem h_laws_equalInts : Holds Try.prog 30 con_laws_equalInts := by
  refine holds_of_ev (rt := [.c .sc]) (T := TT) (Γ := cs_laws_equalInts) (an := an_laws_equalInts) (N := 26) (c := Try.f30.body.getD .skip) Try.func30 (by kernel_rfl) Try.ntmps30 (by decide) (by decide) mixed tabOK cok_laws_equalInts (by kernel_rfl) ?_
  intro vs kk _ hF
  exact i_laws_equalInts (motive := fun vs => Goes (ev TT cs_laws_equalInts 26 an_laws_equalInts (Try.f30.body.getD .skip) (st0 con_laws_equalInts vs) (fin TT con_laws_equalInts Try.f30.results.toList [.c .sc] vs kk))) hF (fun a0 b1 hF => goes_of (e_laws_equalInts a0 b1 kk) (F_laws_equalInts_S hF))
def con_laws_equalLines : Con := ⟨[.rd, .rd], true, [.c (.sl .iib), .c (.sl .iib)], fun vs k => match vs with
    | [.c (.ro .iib a0), .c (.ro .iib b1)] => F_laws_equalLines a0 b1 (fun r0 => k (.one (.c (.v (.bool r0)))) [])
    | _ => False, false⟩
def cl_laws_equalLines : List (FuncId × Con) := []
def nm0_laws_equalLines : List NStep := [.keep [0, 1, 5] []]
def an_laws_equalLines : Ann := ⟨[(6, .take 0 (.take 1 (.take 2 (.take 3 (.take 4 (.take 5 (.take 6 (.take 7 (.take 8 (.done))))))))), [])], [(4, nm0_laws_equalLines)], [], []⟩
def cs_laws_equalLines : Cons := ⟨cl_laws_equalLines, [], 0, [], [], []⟩
def can0_laws_equalLines (a0 : List (Int × Int × Bool)) (b1 : List (Int × Int × Bool)) (xi5 : Int) : St := ⟨[(0, .one (.c (.ro .iib a0))), (1, .one (.c (.ro .iib b1))), (5, .one (.c (.v (.int .i64 xi5))))], []⟩
def fin_laws_equalLines (a0 : List (Int × Int × Bool)) (b1 : List (Int × Int × Bool)) (kk : AV → List A1 → Prop) : Kt := fin TT con_laws_equalLines Try.f48.results.toList [.c .sc] [.c (.ro .iib a0), .c (.ro .iib b1)] kk
def kt0_laws_equalLines (kf : Kt) : Kt := blockK 0 (seqK (evF TT cs_laws_equalLines 26 an_laws_equalLines Try.f48 [1, 1, 1]) (kf))
theorem r0_laws_equalLines (a0 : List (Int × Int × Bool)) (b1 : List (Int × Int × Bool)) (kk : AV → List A1 → Prop) (n : Nat) (xi5 : Int) :
    iter (evF TT cs_laws_equalLines 26 an_laws_equalLines Try.f48 [1, 1, 0, 1, 0, 0]) nm0_laws_equalLines (kt0_laws_equalLines (fin_laws_equalLines a0 b1 kk)) (n + 1) (can0_laws_equalLines a0 b1 xi5) = T0_laws_equalLines a0 b1 xi5 (fun r0 => kk (.one (.c (.v (.bool r0)))) []) (fun xi5 => iter (evF TT cs_laws_equalLines 26 an_laws_equalLines Try.f48 [1, 1, 0, 1, 0, 0]) nm0_laws_equalLines (kt0_laws_equalLines (fin_laws_equalLines a0 b1 kk)) n (can0_laws_equalLines a0 b1 xi5)) := by kernel_rfl
theorem l0_laws_equalLines (a0 : List (Int × Int × Bool)) (b1 : List (Int × Int × Bool)) (kk : AV → List A1 → Prop) : ∀ (n : Nat) (xi5 : Int), iter (evF TT cs_laws_equalLines 26 an_laws_equalLines Try.f48 [1, 1, 0, 1, 0, 0]) nm0_laws_equalLines (kt0_laws_equalLines (fin_laws_equalLines a0 b1 kk)) n (can0_laws_equalLines a0 b1 xi5) = L0_laws_equalLines a0 b1 (fun r0 => kk (.one (.c (.v (.bool r0)))) []) n xi5 := by
  intro n
  induction n with
  | zero => intros; rfl
  | succ n ih =>
    intro xi5
    rw [r0_laws_equalLines a0 b1 kk n xi5]
    have hb : (fun xi5 => iter (evF TT cs_laws_equalLines 26 an_laws_equalLines Try.f48 [1, 1, 0, 1, 0, 0]) nm0_laws_equalLines (kt0_laws_equalLines (fin_laws_equalLines a0 b1 kk)) n (can0_laws_equalLines a0 b1 xi5)) = L0_laws_equalLines a0 b1 (fun r0 => kk (.one (.c (.v (.bool r0)))) []) n := by
      funext xi5; exact ih xi5
    rw [hb]
    rfl
theorem g_laws_equalLines (a0 : List (Int × Int × Bool)) (b1 : List (Int × Int × Bool)) (kk : AV → List A1 → Prop) :
    ev TT cs_laws_equalLines 26 an_laws_equalLines (Try.f48.body.getD .skip) (st0 con_laws_equalLines [.c (.ro .iib a0), .c (.ro .iib b1)]) (fin TT con_laws_equalLines Try.f48.results.toList [.c .sc] [.c (.ro .iib a0), .c (.ro .iib b1)] kk) = G_laws_equalLines a0 b1 (fun r0 => kk (.one (.c (.v (.bool r0)))) []) (fun a0 b1 xi5 => ∃ j, iter (evF TT cs_laws_equalLines 26 an_laws_equalLines Try.f48 [1, 1, 0, 1, 0, 0]) nm0_laws_equalLines (kt0_laws_equalLines (fin_laws_equalLines a0 b1 kk)) j (can0_laws_equalLines a0 b1 xi5)) := by kernel_rfl
theorem e_laws_equalLines (a0 : List (Int × Int × Bool)) (b1 : List (Int × Int × Bool)) (kk : AV → List A1 → Prop) :
    ev TT cs_laws_equalLines 26 an_laws_equalLines (Try.f48.body.getD .skip) (st0 con_laws_equalLines [.c (.ro .iib a0), .c (.ro .iib b1)]) (fin TT con_laws_equalLines Try.f48.results.toList [.c .sc] [.c (.ro .iib a0), .c (.ro .iib b1)] kk) = S_laws_equalLines a0 b1 (fun r0 => kk (.one (.c (.v (.bool r0)))) []) := by
  rw [g_laws_equalLines]
  have hi0 : (fun a0 b1 xi5 => ∃ j, iter (evF TT cs_laws_equalLines 26 an_laws_equalLines Try.f48 [1, 1, 0, 1, 0, 0]) nm0_laws_equalLines (kt0_laws_equalLines (fin_laws_equalLines a0 b1 kk)) j (can0_laws_equalLines a0 b1 xi5)) = (fun a0 b1 xi5 => ∃ j, L0_laws_equalLines a0 b1 (fun r0 => kk (.one (.c (.v (.bool r0)))) []) j xi5) := by
    funext a0 b1 xi5
    refine congrArg Exists (funext fun j => ?_)
    rw [l0_laws_equalLines a0 b1 kk j xi5]
  rw [hi0]
  rfl
theorem clok_laws_equalLines : ConOK Try.prog cl_laws_equalLines := consNil
theorem cok_laws_equalLines : ConsOK Try.prog 26 cs_laws_equalLines := ⟨clok_laws_equalLines, inlNil, ovNil⟩
theorem i_laws_equalLines {vs : List A1} {kk : AV → List A1 → Prop} {motive : List A1 → Prop} (h : con_laws_equalLines.F vs kk) (H : ∀ (a0 : List (Int × Int × Bool)) (b1 : List (Int × Int × Bool)), F_laws_equalLines a0 b1 (fun r0 => kk (.one (.c (.v (.bool r0)))) []) → motive [.c (.ro .iib a0), .c (.ro .iib b1)]) : motive vs := by
  unfold con_laws_equalLines at h
  dsimp only at h
  split at h
  · exact H _ _ h
  · exact h.elim
theorem h_laws_equalLines : Holds Try.prog 48 con_laws_equalLines := by
  refine holds_of_ev (rt := [.c .sc]) (T := TT) (Γ := cs_laws_equalLines) (an := an_laws_equalLines) (N := 26) (c := Try.f48.body.getD .skip) Try.func48 (by kernel_rfl) Try.ntmps48 (by decide) (by decide) mixed tabOK cok_laws_equalLines (by kernel_rfl) ?_
  intro vs kk _ hF
  exact i_laws_equalLines (motive := fun vs => Goes (ev TT cs_laws_equalLines 26 an_laws_equalLines (Try.f48.body.getD .skip) (st0 con_laws_equalLines vs) (fin TT con_laws_equalLines Try.f48.results.toList [.c .sc] vs kk))) hF (fun a0 b1 hF => goes_of (e_laws_equalLines a0 b1 kk) (F_laws_equalLines_S hF))
def con_laws_equalMemory : Con := ⟨[.rd, .rd], true, [.agg [.sl .int, .sl .iib, .sc], .agg [.sl .int, .sl .iib, .sc]], fun vs k => match vs with
    | [.agg [.ro .int a0Store, .ro .iib a0Lines, .v (.int .i64 a0Room)], .agg [.ro .int b1Store, .ro .iib b1Lines, .v (.int .i64 b1Room)]] => F_laws_equalMemory a0Store a0Lines a0Room b1Store b1Lines b1Room (fun r0 => k (.one (.c (.v (.bool r0)))) [])
    | _ => False, false⟩
def cl_laws_equalMemory : List (FuncId × Con) := [(30, con_laws_equalInts), (48, con_laws_equalLines)]
def an_laws_equalMemory : Ann := ⟨[], [], [], []⟩
def cs_laws_equalMemory : Cons := ⟨cl_laws_equalMemory, [], 0, [], [], []⟩
def fin_laws_equalMemory (a0Store : List Int) (a0Lines : List (Int × Int × Bool)) (a0Room : Int) (b1Store : List Int) (b1Lines : List (Int × Int × Bool)) (b1Room : Int) (kk : AV → List A1 → Prop) : Kt := fin TT con_laws_equalMemory Try.f21.results.toList [.c .sc] [.agg [.ro .int a0Store, .ro .iib a0Lines, .v (.int .i64 a0Room)], .agg [.ro .int b1Store, .ro .iib b1Lines, .v (.int .i64 b1Room)]] kk
theorem g_laws_equalMemory (a0Store : List Int) (a0Lines : List (Int × Int × Bool)) (a0Room : Int) (b1Store : List Int) (b1Lines : List (Int × Int × Bool)) (b1Room : Int) (kk : AV → List A1 → Prop) :
    ev TT cs_laws_equalMemory 24 an_laws_equalMemory (Try.f21.body.getD .skip) (st0 con_laws_equalMemory [.agg [.ro .int a0Store, .ro .iib a0Lines, .v (.int .i64 a0Room)], .agg [.ro .int b1Store, .ro .iib b1Lines, .v (.int .i64 b1Room)]]) (fin TT con_laws_equalMemory Try.f21.results.toList [.c .sc] [.agg [.ro .int a0Store, .ro .iib a0Lines, .v (.int .i64 a0Room)], .agg [.ro .int b1Store, .ro .iib b1Lines, .v (.int .i64 b1Room)]] kk) = G_laws_equalMemory a0Store a0Lines a0Room b1Store b1Lines b1Room (fun r0 => kk (.one (.c (.v (.bool r0)))) []) := by kernel_rfl
theorem e_laws_equalMemory (a0Store : List Int) (a0Lines : List (Int × Int × Bool)) (a0Room : Int) (b1Store : List Int) (b1Lines : List (Int × Int × Bool)) (b1Room : Int) (kk : AV → List A1 → Prop) :
    ev TT cs_laws_equalMemory 24 an_laws_equalMemory (Try.f21.body.getD .skip) (st0 con_laws_equalMemory [.agg [.ro .int a0Store, .ro .iib a0Lines, .v (.int .i64 a0Room)], .agg [.ro .int b1Store, .ro .iib b1Lines, .v (.int .i64 b1Room)]]) (fin TT con_laws_equalMemory Try.f21.results.toList [.c .sc] [.agg [.ro .int a0Store, .ro .iib a0Lines, .v (.int .i64 a0Room)], .agg [.ro .int b1Store, .ro .iib b1Lines, .v (.int .i64 b1Room)]] kk) = S_laws_equalMemory a0Store a0Lines a0Room b1Store b1Lines b1Room (fun r0 => kk (.one (.c (.v (.bool r0)))) []) := by
  rw [g_laws_equalMemory]
  rfl
theorem clok_laws_equalMemory : ConOK Try.prog cl_laws_equalMemory := consCons h_laws_equalInts ⟨Try.f30, Try.func30, by kernel_rfl, ne_of_beq (by kernel_rfl)⟩ (consCons h_laws_equalLines ⟨Try.f48, Try.func48, by kernel_rfl, ne_of_beq (by kernel_rfl)⟩ (consNil))
theorem cok_laws_equalMemory : ConsOK Try.prog 24 cs_laws_equalMemory := ⟨clok_laws_equalMemory, inlNil, ovNil⟩
theorem i_laws_equalMemory {vs : List A1} {kk : AV → List A1 → Prop} {motive : List A1 → Prop} (h : con_laws_equalMemory.F vs kk) (H : ∀ (a0Store : List Int) (a0Lines : List (Int × Int × Bool)) (a0Room : Int) (b1Store : List Int) (b1Lines : List (Int × Int × Bool)) (b1Room : Int), F_laws_equalMemory a0Store a0Lines a0Room b1Store b1Lines b1Room (fun r0 => kk (.one (.c (.v (.bool r0)))) []) → motive [.agg [.ro .int a0Store, .ro .iib a0Lines, .v (.int .i64 a0Room)], .agg [.ro .int b1Store, .ro .iib b1Lines, .v (.int .i64 b1Room)]]) : motive vs := by
  unfold con_laws_equalMemory at h
  dsimp only at h
  split at h
  · exact H _ _ _ _ _ _ h
  · exact h.elim
theorem h_laws_equalMemory : Holds Try.prog 21 con_laws_equalMemory := by
  refine holds_of_ev (rt := [.c .sc]) (T := TT) (Γ := cs_laws_equalMemory) (an := an_laws_equalMemory) (N := 24) (c := Try.f21.body.getD .skip) Try.func21 (by kernel_rfl) Try.ntmps21 (by decide) (by decide) mixed tabOK cok_laws_equalMemory (by kernel_rfl) ?_
  intro vs kk _ hF
  exact i_laws_equalMemory (motive := fun vs => Goes (ev TT cs_laws_equalMemory 24 an_laws_equalMemory (Try.f21.body.getD .skip) (st0 con_laws_equalMemory vs) (fin TT con_laws_equalMemory Try.f21.results.toList [.c .sc] vs kk))) hF (fun a0Store a0Lines a0Room b1Store b1Lines b1Room hF => goes_of (e_laws_equalMemory a0Store a0Lines a0Room b1Store b1Lines b1Room kk) (F_laws_equalMemory_S hF))
def con_laws_FnWriteKeyTwice : Con := ⟨[.rd], true, [.c (.sl .u8)], fun vs k => match vs with
    | [.c (.ro .u8 code0)] => F_laws_FnWriteKeyTwice code0 (fun r0 => k (.one (.c (.v (.bool r0)))) [])
    | _ => False, false⟩
def cl_laws_FnWriteKeyTwice : List (FuncId × Con) := [(21, con_laws_equalMemory), (23, con_spec_DrawWriteKey), (24, con_impl_WriteKey), (25, con_spec_WriteKey)]
def an_laws_FnWriteKeyTwice : Ann := ⟨[], [], [], []⟩
def cs_laws_FnWriteKeyTwice : Cons := ⟨cl_laws_FnWriteKeyTwice, [], 0, [], [], []⟩
def fin_laws_FnWriteKeyTwice (code0 : List Int) (kk : AV → List A1 → Prop) : Kt := fin TT con_laws_FnWriteKeyTwice Try.f7.results.toList [.c .sc] [.c (.ro .u8 code0)] kk
theorem g_laws_FnWriteKeyTwice (code0 : List Int) (kk : AV → List A1 → Prop) :
    ev TT cs_laws_FnWriteKeyTwice 79 an_laws_FnWriteKeyTwice (Try.f7.body.getD .skip) (st0 con_laws_FnWriteKeyTwice [.c (.ro .u8 code0)]) (fin TT con_laws_FnWriteKeyTwice Try.f7.results.toList [.c .sc] [.c (.ro .u8 code0)] kk) = G_laws_FnWriteKeyTwice code0 (fun r0 => kk (.one (.c (.v (.bool r0)))) []) := by kernel_rfl
theorem e_laws_FnWriteKeyTwice (code0 : List Int) (kk : AV → List A1 → Prop) :
    ev TT cs_laws_FnWriteKeyTwice 79 an_laws_FnWriteKeyTwice (Try.f7.body.getD .skip) (st0 con_laws_FnWriteKeyTwice [.c (.ro .u8 code0)]) (fin TT con_laws_FnWriteKeyTwice Try.f7.results.toList [.c .sc] [.c (.ro .u8 code0)] kk) = S_laws_FnWriteKeyTwice code0 (fun r0 => kk (.one (.c (.v (.bool r0)))) []) := by
  rw [g_laws_FnWriteKeyTwice]
  rfl
theorem clok_laws_FnWriteKeyTwice : ConOK Try.prog cl_laws_FnWriteKeyTwice := consCons h_laws_equalMemory ⟨Try.f21, Try.func21, by kernel_rfl, ne_of_beq (by kernel_rfl)⟩ (consCons h_spec_DrawWriteKey ⟨Try.f23, Try.func23, by kernel_rfl, ne_of_beq (by kernel_rfl)⟩ (consCons h_impl_WriteKey ⟨Try.f24, Try.func24, by kernel_rfl, ne_of_beq (by kernel_rfl)⟩ (consCons h_spec_WriteKey ⟨Try.f25, Try.func25, by kernel_rfl, ne_of_beq (by kernel_rfl)⟩ (consNil))))
theorem cok_laws_FnWriteKeyTwice : ConsOK Try.prog 79 cs_laws_FnWriteKeyTwice := ⟨clok_laws_FnWriteKeyTwice, inlNil, ovNil⟩
theorem i_laws_FnWriteKeyTwice {vs : List A1} {kk : AV → List A1 → Prop} {motive : List A1 → Prop} (h : con_laws_FnWriteKeyTwice.F vs kk) (H : ∀ (code0 : List Int), F_laws_FnWriteKeyTwice code0 (fun r0 => kk (.one (.c (.v (.bool r0)))) []) → motive [.c (.ro .u8 code0)]) : motive vs := by
  unfold con_laws_FnWriteKeyTwice at h
  dsimp only at h
  split at h
  · exact H _ h
  · exact h.elim
theorem h_laws_FnWriteKeyTwice : Holds Try.prog 7 con_laws_FnWriteKeyTwice := by
  refine holds_of_ev (rt := [.c .sc]) (T := TT) (Γ := cs_laws_FnWriteKeyTwice) (an := an_laws_FnWriteKeyTwice) (N := 79) (c := Try.f7.body.getD .skip) Try.func7 (by kernel_rfl) Try.ntmps7 (by decide) (by decide) mixed tabOK cok_laws_FnWriteKeyTwice (by kernel_rfl) ?_
  intro vs kk _ hF
  exact i_laws_FnWriteKeyTwice (motive := fun vs => Goes (ev TT cs_laws_FnWriteKeyTwice 79 an_laws_FnWriteKeyTwice (Try.f7.body.getD .skip) (st0 con_laws_FnWriteKeyTwice vs) (fin TT con_laws_FnWriteKeyTwice Try.f7.results.toList [.c .sc] vs kk))) hF (fun code0 hF => goes_of (e_laws_FnWriteKeyTwice code0 kk) (F_laws_FnWriteKeyTwice_S hF))
end Go.Ev
