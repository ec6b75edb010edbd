/- What the evaluator gives for these functions: their contracts. No statement is proved here. -/
import Derived.Test.YtaajnkggomlppabFnValidTiersP0
import Derived.Test.YtaajnkggomlppabTt
namespace Go.Ev
set_option linter.unusedVariables false
set_option maxRecDepth 100000
open Go Go.Proofs
def con_spec_newReader : Con := ⟨[.rd], true, [.c (.sl .u8)], fun vs k => match vs with
    | [.c (.ro .u8 code0)] => F_spec_newReader code0 (fun r0 r1 => k (.one (.agg [.ro .u8 r0, .v (.int .i64 r1)])) [])
    | _ => False, true⟩
def cl_spec_newReader : List (FuncId × Con) := []
def an_spec_newReader : Ann := ⟨[], [], [], []⟩
def cs_spec_newReader : Cons := ⟨cl_spec_newReader, [], 0, [], [], []⟩
def fin_spec_newReader (code0 : List Int) (kk : AV → List A1 → Prop) : Kt := finB Try.f40.results.toList [.sl .u8, .sc] kk
theorem g_spec_newReader (code0 : List Int) (kk : AV → List A1 → Prop) :
    ev TT cs_spec_newReader 11 an_spec_newReader (Try.f40.body.getD .skip) (st0 con_spec_newReader [.c (.ro .u8 code0)]) (finB Try.f40.results.toList [.sl .u8, .sc] kk) = G_spec_newReader code0 (fun r0 r1 => kk (.one (.agg [.ro .u8 r0, .v (.int .i64 r1)])) []) := by kernel_rfl
theorem e_spec_newReader (code0 : List Int) (kk : AV → List A1 → Prop) :
    ev TT cs_spec_newReader 11 an_spec_newReader (Try.f40.body.getD .skip) (st0 con_spec_newReader [.c (.ro .u8 code0)]) (finB Try.f40.results.toList [.sl .u8, .sc] kk) = S_spec_newReader code0 (fun r0 r1 => kk (.one (.agg [.ro .u8 r0, .v (.int .i64 r1)])) []) := by
  rw [g_spec_newReader]
  rfl
theorem clok_spec_newReader : ConOK Try.prog cl_spec_newReader := consNil
theorem cok_spec_newReader : ConsOK Try.prog 11 cs_spec_newReader := ⟨clok_spec_newReader, inlNil, ovNil⟩
theorem i_spec_newReader {vs : List A1} {kk : AV → List A1 → Prop} {motive : List A1 → Prop} (h : con_spec_newReader.F vs kk) (H : ∀ (code0 : List Int), F_spec_newReader code0 (fun r0 r1 => kk (.one (.agg [.ro .u8 r0, .v (.int .i64 r1)])) []) → motive [.c (.ro .u8 code0)]) : motive vs := by
  unfold con_spec_newReader at h
  dsimp only at h
  split at h
  · exact H _ h
  · exact h.elim
theorem h_spec_newReader : HoldsB Try.prog 40 con_spec_newReader := by
  refine holdsB_of_ev (ts := [.sl .u8, .sc]) (T := TT) (Γ := cs_spec_newReader) (an := an_spec_newReader) (N := 11) (c := Try.f40.body.getD .skip) Try.func40 (by kernel_rfl) Try.ntmps40 (by decide) (by decide) mixed tabOK cok_spec_newReader (by kernel_rfl) ?_
  intro vs kk _ hF
  exact i_spec_newReader (motive := fun vs => Goes (ev TT cs_spec_newReader 11 an_spec_newReader (Try.f40.body.getD .skip) (st0 con_spec_newReader vs) (finB Try.f40.results.toList [.sl .u8, .sc] kk))) hF (fun code0 hF => goes_of (e_spec_newReader code0 kk) (F_spec_newReader_S hF))
def con_spec_reader_pick : Con := ⟨[.mu, .rd], true, [.ptr [.sl .u8, .sc], .c (.sc)], fun vs k => match vs with
    | [.ptr [.ro .u8 r0b, .v (.int .i64 r0p)], .c (.v (.int .i64 n1))] => F_spec_reader_pick r0b r0p n1 (fun r0 r1 r2 => k (.one (.c (.v (.int .i64 r0)))) [.ptr [.ro .u8 r1, .v (.int .i64 r2)]])
    | _ => False, false⟩
def cl_spec_reader_pick : List (FuncId × Con) := []
def an_spec_reader_pick : Ann := ⟨[(7, .take 0 (.take 1 (.take 2 (.take 3 (.take 4 (.take 5 (.take 6 (.take 7 (.take 8 (.take 9 (.take 10 (.take 11 (.take 12 (.take 13 (.take 14 (.take 15 (.take 16 (.take 17 (.take 18 (.take 19 (.take 20 (.take 21 (.take 22 (.take 23 (.take 24 (.take 25 (.take 26 (.take 27 (.take 28 (.take 29 (.take 30 (.take 31 (.take 32 (.take 33 (.take 34 (.take 35 (.take 36 (.take 37 (.take 38 (.take 39 (.take 40 (.take 41 (.take 42 (.take 43 (.take 44 (.take 45 (.done)))))))))))))))))))))))))))))))))))))))))))))), [100000])], [], [], []⟩
def cs_spec_reader_pick : Cons := ⟨cl_spec_reader_pick, [], 0, [], [], []⟩
def fin_spec_reader_pick (r0b : List Int) (r0p : Int) (n1 : Int) (kk : AV → List A1 → Prop) : Kt := fin TT con_spec_reader_pick Try.f67.results.toList [.c .sc] [.ptr [.ro .u8 r0b, .v (.int .i64 r0p)], .c (.v (.int .i64 n1))] kk
theorem g_spec_reader_pick (r0b : List Int) (r0p : Int) (n1 : Int) (kk : AV → List A1 → Prop) :
    ev TT cs_spec_reader_pick 99 an_spec_reader_pick (Try.f67.body.getD .skip) (st0 con_spec_reader_pick [.ptr [.ro .u8 r0b, .v (.int .i64 r0p)], .c (.v (.int .i64 n1))]) (fin TT con_spec_reader_pick Try.f67.results.toList [.c .sc] [.ptr [.ro .u8 r0b, .v (.int .i64 r0p)], .c (.v (.int .i64 n1))] kk) = G_spec_reader_pick r0b r0p n1 (fun r0 r1 r2 => kk (.one (.c (.v (.int .i64 r0)))) [.ptr [.ro .u8 r1, .v (.int .i64 r2)]]) := by kernel_rfl
theorem e_spec_reader_pick (r0b : List Int) (r0p : Int) (n1 : Int) (kk : AV → List A1 → Prop) :
    ev TT cs_spec_reader_pick 99 an_spec_reader_pick (Try.f67.body.getD .skip) (st0 con_spec_reader_pick [.ptr [.ro .u8 r0b, .v (.int .i64 r0p)], .c (.v (.int .i64 n1))]) (fin TT con_spec_reader_pick Try.f67.results.toList [.c .sc] [.ptr [.ro .u8 r0b, .v (.int .i64 r0p)], .c (.v (.int .i64 n1))] kk) = S_spec_reader_pick r0b r0p n1 (fun r0 r1 r2 => kk (.one (.c (.v (.int .i64 r0)))) [.ptr [.ro .u8 r1, .v (.int .i64 r2)]]) := by
  rw [g_spec_reader_pick]
  rfl
theorem clok_spec_reader_pick : ConOK Try.prog cl_spec_reader_pick := consNil
theorem cok_spec_reader_pick : ConsOK Try.prog 99 cs_spec_reader_pick := ⟨clok_spec_reader_pick, inlNil, ovNil⟩
theorem i_spec_reader_pick {vs : List A1} {kk : AV → List A1 → Prop} {motive : List A1 → Prop} (h : con_spec_reader_pick.F vs kk) (H : ∀ (r0b : List Int) (r0p : Int) (n1 : Int), F_spec_reader_pick r0b r0p n1 (fun r0 r1 r2 => kk (.one (.c (.v (.int .i64 r0)))) [.ptr [.ro .u8 r1, .v (.int .i64 r2)]]) → motive [.ptr [.ro .u8 r0b, .v (.int .i64 r0p)], .c (.v (.int .i64 n1))]) : motive vs := by
  unfold con_spec_reader_pick at h
  dsimp only at h
  split at h
  · exact H _ _ _ h
  · exact h.elim
theorem h_spec_reader_pick : Holds Try.prog 67 con_spec_reader_pick := by
  refine holds_of_ev (rt := [.c .sc]) (T := TT) (Γ := cs_spec_reader_pick) (an := an_spec_reader_pick) (N := 99) (c := Try.f67.body.getD .skip) Try.func67 (by kernel_rfl) Try.ntmps67 (by decide) (by decide) mixed tabOK cok_spec_reader_pick (by kernel_rfl) ?_
  intro vs kk _ hF
  exact i_spec_reader_pick (motive := fun vs => Goes (ev TT cs_spec_reader_pick 99 an_spec_reader_pick (Try.f67.body.getD .skip) (st0 con_spec_reader_pick vs) (fin TT con_spec_reader_pick Try.f67.results.toList [.c .sc] vs kk))) hF (fun r0b r0p n1 hF => goes_of (e_spec_reader_pick r0b r0p n1 kk) (F_spec_reader_pick_S hF))
def con_spec_reader_one : Con := ⟨[.mu, .rd], true, [.ptr [.sl .u8, .sc], .c (.sl .int)], fun vs k => match vs with
    | [.ptr [.ro .u8 r0b, .v (.int .i64 r0p)], .c (.ro .int list1)] => F_spec_reader_one r0b r0p list1 (fun r0 r1 r2 => k (.one (.c (.v (.int .i64 r0)))) [.ptr [.ro .u8 r1, .v (.int .i64 r2)]])
    | _ => False, false⟩
def cl_spec_reader_one : List (FuncId × Con) := [(67, con_spec_reader_pick)]
def an_spec_reader_one : Ann := ⟨[], [], [], []⟩
def cs_spec_reader_one : Cons := ⟨cl_spec_reader_one, [], 0, [], [], []⟩
def fin_spec_reader_one (r0b : List Int) (r0p : Int) (list1 : List Int) (kk : AV → List A1 → Prop) : Kt := fin TT con_spec_reader_one Try.f66.results.toList [.c .sc] [.ptr [.ro .u8 r0b, .v (.int .i64 r0p)], .c (.ro .int list1)] kk
theorem g_spec_reader_one (r0b : List Int) (r0p : Int) (list1 : List Int) (kk : AV → List A1 → Prop) :
    ev TT cs_spec_reader_one 12 an_spec_reader_one (Try.f66.body.getD .skip) (st0 con_spec_reader_one [.ptr [.ro .u8 r0b, .v (.int .i64 r0p)], .c (.ro .int list1)]) (fin TT con_spec_reader_one Try.f66.results.toList [.c .sc] [.ptr [.ro .u8 r0b, .v (.int .i64 r0p)], .c (.ro .int list1)] kk) = G_spec_reader_one r0b r0p list1 (fun r0 r1 r2 => kk (.one (.c (.v (.int .i64 r0)))) [.ptr [.ro .u8 r1, .v (.int .i64 r2)]]) := by kernel_rfl
theorem e_spec_reader_one (r0b : List Int) (r0p : Int) (list1 : List Int) (kk : AV → List A1 → Prop) :
    ev TT cs_spec_reader_one 12 an_spec_reader_one (Try.f66.body.getD .skip) (st0 con_spec_reader_one [.ptr [.ro .u8 r0b, .v (.int .i64 r0p)], .c (.ro .int list1)]) (fin TT con_spec_reader_one Try.f66.results.toList [.c .sc] [.ptr [.ro .u8 r0b, .v (.int .i64 r0p)], .c (.ro .int list1)] kk) = S_spec_reader_one r0b r0p list1 (fun r0 r1 r2 => kk (.one (.c (.v (.int .i64 r0)))) [.ptr [.ro .u8 r1, .v (.int .i64 r2)]]) := by
  rw [g_spec_reader_one]
  rfl
theorem clok_spec_reader_one : ConOK Try.prog cl_spec_reader_one := consCons h_spec_reader_pick ⟨Try.f67, Try.func67, by kernel_rfl, ne_of_beq (by kernel_rfl)⟩ (consNil)
theorem cok_spec_reader_one : ConsOK Try.prog 12 cs_spec_reader_one := ⟨clok_spec_reader_one, inlNil, ovNil⟩
theorem i_spec_reader_one {vs : List A1} {kk : AV → List A1 → Prop} {motive : List A1 → Prop} (h : con_spec_reader_one.F vs kk) (H : ∀ (r0b : List Int) (r0p : Int) (list1 : List Int), F_spec_reader_one r0b r0p list1 (fun r0 r1 r2 => kk (.one (.c (.v (.int .i64 r0)))) [.ptr [.ro .u8 r1, .v (.int .i64 r2)]]) → motive [.ptr [.ro .u8 r0b, .v (.int .i64 r0p)], .c (.ro .int list1)]) : motive vs := by
  unfold con_spec_reader_one at h
  dsimp only at h
  split at h
  · exact H _ _ _ h
  · exact h.elim
theorem h_spec_reader_one : Holds Try.prog 66 con_spec_reader_one := by
  refine holds_of_ev (rt := [.c .sc]) (T := TT) (Γ := cs_spec_reader_one) (an := an_spec_reader_one) (N := 12) (c := Try.f66.body.getD .skip) Try.func66 (by kernel_rfl) Try.ntmps66 (by decide) (by decide) mixed tabOK cok_spec_reader_one (by kernel_rfl) ?_
  intro vs kk _ hF
  exact i_spec_reader_one (motive := fun vs => Goes (ev TT cs_spec_reader_one 12 an_spec_reader_one (Try.f66.body.getD .skip) (st0 con_spec_reader_one vs) (fin TT con_spec_reader_one Try.f66.results.toList [.c .sc] vs kk))) hF (fun r0b r0p list1 hF => goes_of (e_spec_reader_one r0b r0p list1 kk) (F_spec_reader_one_S hF))
def con_spec_copyInts : Con := ⟨[.rd], true, [.c (.sl .int)], fun vs k => match vs with
    | [.c (.ro .int list0)] => F_spec_copyInts list0 (fun r0 => k (.one (.c (.ro .int r0))) [])
    | _ => False, false⟩
def cl_spec_copyInts : List (FuncId × Con) := []
def an_spec_copyInts : Ann := ⟨[], [], [], []⟩
def cs_spec_copyInts : Cons := ⟨cl_spec_copyInts, [], 0, [], [], []⟩
def fin_spec_copyInts (list0 : List Int) (kk : AV → List A1 → Prop) : Kt := fin TT con_spec_copyInts Try.f62.results.toList [.c (.sl .int)] [.c (.ro .int list0)] kk
theorem g_spec_copyInts (list0 : List Int) (kk : AV → List A1 → Prop) :
    ev TT cs_spec_copyInts 6 an_spec_copyInts (Try.f62.body.getD .skip) (st0 con_spec_copyInts [.c (.ro .int list0)]) (fin TT con_spec_copyInts Try.f62.results.toList [.c (.sl .int)] [.c (.ro .int list0)] kk) = G_spec_copyInts list0 (fun r0 => kk (.one (.c (.ro .int r0))) []) := by kernel_rfl
theorem e_spec_copyInts (list0 : List Int) (kk : AV → List A1 → Prop) :
    ev TT cs_spec_copyInts 6 an_spec_copyInts (Try.f62.body.getD .skip) (st0 con_spec_copyInts [.c (.ro .int list0)]) (fin TT con_spec_copyInts Try.f62.results.toList [.c (.sl .int)] [.c (.ro .int list0)] kk) = S_spec_copyInts list0 (fun r0 => kk (.one (.c (.ro .int r0))) []) := by
  rw [g_spec_copyInts]
  rfl
theorem clok_spec_copyInts : ConOK Try.prog cl_spec_copyInts := consNil
theorem cok_spec_copyInts : ConsOK Try.prog 6 cs_spec_copyInts := ⟨clok_spec_copyInts, inlNil, ovNil⟩
theorem i_spec_copyInts {vs : List A1} {kk : AV → List A1 → Prop} {motive : List A1 → Prop} (h : con_spec_copyInts.F vs kk) (H : ∀ (list0 : List Int), F_spec_copyInts list0 (fun r0 => kk (.one (.c (.ro .int r0))) []) → motive [.c (.ro .int list0)]) : motive vs := by
  unfold con_spec_copyInts at h
  dsimp only at h
  split at h
  · exact H _ h
  · exact h.elim
theorem h_spec_copyInts : Holds Try.prog 62 con_spec_copyInts := by
  refine holds_of_ev (rt := [.c (.sl .int)]) (T := TT) (Γ := cs_spec_copyInts) (an := an_spec_copyInts) (N := 6) (c := Try.f62.body.getD .skip) Try.func62 (by kernel_rfl) Try.ntmps62 (by decide) (by decide) mixed tabOK cok_spec_copyInts (by kernel_rfl) ?_
  intro vs kk _ hF
  exact i_spec_copyInts (motive := fun vs => Goes (ev TT cs_spec_copyInts 6 an_spec_copyInts (Try.f62.body.getD .skip) (st0 con_spec_copyInts vs) (fin TT con_spec_copyInts Try.f62.results.toList [.c (.sl .int)] vs kk))) hF (fun list0 hF => goes_of (e_spec_copyInts list0 kk) (F_spec_copyInts_S hF))
def con_spec_placeOf : Con := ⟨[.rd, .rd], true, [.c (.sl .int), .c (.sc)], fun vs k => match vs with
    | [.c (.ro .int list0), .c (.v (.int .i64 n1))] => F_spec_placeOf list0 n1 (fun r0 => k (.one (.c (.v (.int .i64 r0)))) [])
    | _ => False, false⟩
def cl_spec_placeOf : List (FuncId × Con) := []
def nm0_spec_placeOf : List NStep := [.keep [0, 1, 5] []]
def an_spec_placeOf : Ann := ⟨[], [(2, nm0_spec_placeOf)], [], []⟩
def cs_spec_placeOf : Cons := ⟨cl_spec_placeOf, [], 0, [], [], []⟩
def can0_spec_placeOf (list0 : List Int) (n1 : Int) (xi5 : Int) : St := ⟨[(0, .one (.c (.ro .int list0))), (1, .one (.c (.v (.int .i64 n1)))), (5, .one (.c (.v (.int .i64 xi5))))], []⟩
def fin_spec_placeOf (list0 : List Int) (n1 : Int) (kk : AV → List A1 → Prop) : Kt := fin TT con_spec_placeOf Try.f72.results.toList [.c .sc] [.c (.ro .int list0), .c (.v (.int .i64 n1))] kk
def kt0_spec_placeOf (kf : Kt) : Kt := blockK 0 (seqK (evF TT cs_spec_placeOf 19 an_spec_placeOf Try.f72 [1, 1]) (kf))
theorem r0_spec_placeOf (list0 : List Int) (n1 : Int) (kk : AV → List A1 → Prop) (n : Nat) (xi5 : Int) :
    iter (evF TT cs_spec_placeOf 19 an_spec_placeOf Try.f72 [1, 0, 1, 0, 0]) nm0_spec_placeOf (kt0_spec_placeOf (fin_spec_placeOf list0 n1 kk)) (n + 1) (can0_spec_placeOf list0 n1 xi5) = T0_spec_placeOf list0 n1 xi5 (fun r0 => kk (.one (.c (.v (.int .i64 r0)))) []) (fun xi5 => iter (evF TT cs_spec_placeOf 19 an_spec_placeOf Try.f72 [1, 0, 1, 0, 0]) nm0_spec_placeOf (kt0_spec_placeOf (fin_spec_placeOf list0 n1 kk)) n (can0_spec_placeOf list0 n1 xi5)) := by kernel_rfl
theorem l0_spec_placeOf (list0 : List Int) (n1 : Int) (kk : AV → List A1 → Prop) : ∀ (n : Nat) (xi5 : Int), iter (evF TT cs_spec_placeOf 19 an_spec_placeOf Try.f72 [1, 0, 1, 0, 0]) nm0_spec_placeOf (kt0_spec_placeOf (fin_spec_placeOf list0 n1 kk)) n (can0_spec_placeOf list0 n1 xi5) = L0_spec_placeOf list0 n1 (fun r0 => kk (.one (.c (.v (.int .i64 r0)))) []) n xi5 := by
  intro n
  induction n with
  | zero => intros; rfl
  | succ n ih =>
    intro xi5
    rw [r0_spec_placeOf list0 n1 kk n xi5]
    have hb : (fun xi5 => iter (evF TT cs_spec_placeOf 19 an_spec_placeOf Try.f72 [1, 0, 1, 0, 0]) nm0_spec_placeOf (kt0_spec_placeOf (fin_spec_placeOf list0 n1 kk)) n (can0_spec_placeOf list0 n1 xi5)) = L0_spec_placeOf list0 n1 (fun r0 => kk (.one (.c (.v (.int .i64 r0)))) []) n := by
      funext xi5; exact ih xi5
    rw [hb]
    rfl
theorem g_spec_placeOf (list0 : List Int) (n1 : Int) (kk : AV → List A1 → Prop) :
    ev TT cs_spec_placeOf 19 an_spec_placeOf (Try.f72.body.getD .skip) (st0 con_spec_placeOf [.c (.ro .int list0), .c (.v (.int .i64 n1))]) (fin TT con_spec_placeOf Try.f72.results.toList [.c .sc] [.c (.ro .int list0), .c (.v (.int .i64 n1))] kk) = G_spec_placeOf list0 n1 (fun list0 n1 xi5 => ∃ j, iter (evF TT cs_spec_placeOf 19 an_spec_placeOf Try.f72 [1, 0, 1, 0, 0]) nm0_spec_placeOf (kt0_spec_placeOf (fin_spec_placeOf list0 n1 kk)) j (can0_spec_placeOf list0 n1 xi5)) := by kernel_rfl
theorem e_spec_placeOf (list0 : List Int) (n1 : Int) (kk : AV → List A1 → Prop) :
    ev TT cs_spec_placeOf 19 an_spec_placeOf (Try.f72.body.getD .skip) (st0 con_spec_placeOf [.c (.ro .int list0), .c (.v (.int .i64 n1))]) (fin TT con_spec_placeOf Try.f72.results.toList [.c .sc] [.c (.ro .int list0), .c (.v (.int .i64 n1))] kk) = S_spec_placeOf list0 n1 (fun r0 => kk (.one (.c (.v (.int .i64 r0)))) []) := by
  rw [g_spec_placeOf]
  have hi0 : (fun list0 n1 xi5 => ∃ j, iter (evF TT cs_spec_placeOf 19 an_spec_placeOf Try.f72 [1, 0, 1, 0, 0]) nm0_spec_placeOf (kt0_spec_placeOf (fin_spec_placeOf list0 n1 kk)) j (can0_spec_placeOf list0 n1 xi5)) = (fun list0 n1 xi5 => ∃ j, L0_spec_placeOf list0 n1 (fun r0 => kk (.one (.c (.v (.int .i64 r0)))) []) j xi5) := by
    funext list0 n1 xi5
    refine congrArg Exists (funext fun j => ?_)
    rw [l0_spec_placeOf list0 n1 kk j xi5]
  rw [hi0]
  rfl
theorem clok_spec_placeOf : ConOK Try.prog cl_spec_placeOf := consNil
theorem cok_spec_placeOf : ConsOK Try.prog 19 cs_spec_placeOf := ⟨clok_spec_placeOf, inlNil, ovNil⟩
theorem i_spec_placeOf {vs : List A1} {kk : AV → List A1 → Prop} {motive : List A1 → Prop} (h : con_spec_placeOf.F vs kk) (H : ∀ (list0 : List Int) (n1 : Int), F_spec_placeOf list0 n1 (fun r0 => kk (.one (.c (.v (.int .i64 r0)))) []) → motive [.c (.ro .int list0), .c (.v (.int .i64 n1))]) : motive vs := by
  unfold con_spec_placeOf at h
  dsimp only at h
  split at h
  · exact H _ _ h
  · exact h.elim
theorem h_spec_placeOf : Holds Try.prog 72 con_spec_placeOf := by
  refine holds_of_ev (rt := [.c .sc]) (T := TT) (Γ := cs_spec_placeOf) (an := an_spec_placeOf) (N := 19) (c := Try.f72.body.getD .skip) Try.func72 (by kernel_rfl) Try.ntmps72 (by decide) (by decide) mixed tabOK cok_spec_placeOf (by kernel_rfl) ?_
  intro vs kk _ hF
  exact i_spec_placeOf (motive := fun vs => Goes (ev TT cs_spec_placeOf 19 an_spec_placeOf (Try.f72.body.getD .skip) (st0 con_spec_placeOf vs) (fin TT con_spec_placeOf Try.f72.results.toList [.c .sc] vs kk))) hF (fun list0 n1 hF => goes_of (e_spec_placeOf list0 n1 kk) (F_spec_placeOf_S hF))
def con_spec_without : Con := ⟨[.rd, .rd], true, [.c (.sl .int), .c (.sc)], fun vs k => match vs with
    | [.c (.ro .int list0), .c (.v (.int .i64 at1))] => F_spec_without list0 at1 (fun r0 => k (.one (.c (.ro .int r0))) [])
    | _ => False, false⟩
def cl_spec_without : List (FuncId × Con) := []
def an_spec_without : Ann := ⟨[(1, .take 1 (.take 2 (.take 3 (.take 5 (.take 6 (.take 7 (.take 8 (.alt 0 (.alt 4 (.alt 9 (.take 10 (.done)) (.none)) (.none)) (.none)))))))), [])], [], [], []⟩
def cs_spec_without : Cons := ⟨cl_spec_without, [], 0, [], [], []⟩
def fin_spec_without (list0 : List Int) (at1 : Int) (kk : AV → List A1 → Prop) : Kt := fin TT con_spec_without Try.f74.results.toList [.c (.sl .int)] [.c (.ro .int list0), .c (.v (.int .i64 at1))] kk
theorem g_spec_without (list0 : List Int) (at1 : Int) (kk : AV → List A1 → Prop) :
    ev TT cs_spec_without 15 an_spec_without (Try.f74.body.getD .skip) (st0 con_spec_without [.c (.ro .int list0), .c (.v (.int .i64 at1))]) (fin TT con_spec_without Try.f74.results.toList [.c (.sl .int)] [.c (.ro .int list0), .c (.v (.int .i64 at1))] kk) = G_spec_without list0 at1 (fun r0 => kk (.one (.c (.ro .int r0))) []) := by kernel_rfl
theorem e_spec_without (list0 : List Int) (at1 : Int) (kk : AV → List A1 → Prop) :
    ev TT cs_spec_without 15 an_spec_without (Try.f74.body.getD .skip) (st0 con_spec_without [.c (.ro .int list0), .c (.v (.int .i64 at1))]) (fin TT con_spec_without Try.f74.results.toList [.c (.sl .int)] [.c (.ro .int list0), .c (.v (.int .i64 at1))] kk) = S_spec_without list0 at1 (fun r0 => kk (.one (.c (.ro .int r0))) []) := by
  rw [g_spec_without]
  rw [G_spec_without_eq]
  rfl
theorem clok_spec_without : ConOK Try.prog cl_spec_without := consNil
theorem cok_spec_without : ConsOK Try.prog 15 cs_spec_without := ⟨clok_spec_without, inlNil, ovNil⟩
theorem i_spec_without {vs : List A1} {kk : AV → List A1 → Prop} {motive : List A1 → Prop} (h : con_spec_without.F vs kk) (H : ∀ (list0 : List Int) (at1 : Int), F_spec_without list0 at1 (fun r0 => kk (.one (.c (.ro .int r0))) []) → motive [.c (.ro .int list0), .c (.v (.int .i64 at1))]) : motive vs := by
  unfold con_spec_without at h
  dsimp only at h
  split at h
  · exact H _ _ h
  · exact h.elim
theorem h_spec_without : Holds Try.prog 74 con_spec_without := by
  refine holds_of_ev (rt := [.c (.sl .int)]) (T := TT) (Γ := cs_spec_without) (an := an_spec_without) (N := 15) (c := Try.f74.body.getD .skip) Try.func74 (by kernel_rfl) Try.ntmps74 (by decide) (by decide) mixed tabOK cok_spec_without (by kernel_rfl) ?_
  intro vs kk _ hF
  exact i_spec_without (motive := fun vs => Goes (ev TT cs_spec_without 15 an_spec_without (Try.f74.body.getD .skip) (st0 con_spec_without vs) (fin TT con_spec_without Try.f74.results.toList [.c (.sl .int)] vs kk))) hF (fun list0 at1 hF => goes_of (e_spec_without list0 at1 kk) (F_spec_without_S hF))
def con_spec_front : Con := ⟨[.rd, .rd], true, [.c (.sl .int), .c (.sc)], fun vs k => match vs with
    | [.c (.ro .int list0), .c (.v (.int .i64 n1))] => F_spec_front list0 n1 (fun r0 => k (.one (.c (.ro .int r0))) [])
    | _ => False, false⟩
def cl_spec_front : List (FuncId × Con) := []
def an_spec_front : Ann := ⟨[], [], [], []⟩
def cs_spec_front : Cons := ⟨cl_spec_front, [], 0, [], [], []⟩
def fin_spec_front (list0 : List Int) (n1 : Int) (kk : AV → List A1 → Prop) : Kt := fin TT con_spec_front Try.f73.results.toList [.c (.sl .int)] [.c (.ro .int list0), .c (.v (.int .i64 n1))] kk
theorem g_spec_front (list0 : List Int) (n1 : Int) (kk : AV → List A1 → Prop) :
    ev TT cs_spec_front 9 an_spec_front (Try.f73.body.getD .skip) (st0 con_spec_front [.c (.ro .int list0), .c (.v (.int .i64 n1))]) (fin TT con_spec_front Try.f73.results.toList [.c (.sl .int)] [.c (.ro .int list0), .c (.v (.int .i64 n1))] kk) = G_spec_front list0 n1 (fun r0 => kk (.one (.c (.ro .int r0))) []) := by kernel_rfl
theorem e_spec_front (list0 : List Int) (n1 : Int) (kk : AV → List A1 → Prop) :
    ev TT cs_spec_front 9 an_spec_front (Try.f73.body.getD .skip) (st0 con_spec_front [.c (.ro .int list0), .c (.v (.int .i64 n1))]) (fin TT con_spec_front Try.f73.results.toList [.c (.sl .int)] [.c (.ro .int list0), .c (.v (.int .i64 n1))] kk) = S_spec_front list0 n1 (fun r0 => kk (.one (.c (.ro .int r0))) []) := by
  rw [g_spec_front]
  rfl
theorem clok_spec_front : ConOK Try.prog cl_spec_front := consNil
theorem cok_spec_front : ConsOK Try.prog 9 cs_spec_front := ⟨clok_spec_front, inlNil, ovNil⟩
theorem i_spec_front {vs : List A1} {kk : AV → List A1 → Prop} {motive : List A1 → Prop} (h : con_spec_front.F vs kk) (H : ∀ (list0 : List Int) (n1 : Int), F_spec_front list0 n1 (fun r0 => kk (.one (.c (.ro .int r0))) []) → motive [.c (.ro .int list0), .c (.v (.int .i64 n1))]) : motive vs := by
  unfold con_spec_front at h
  dsimp only at h
  split at h
  · exact H _ _ h
  · exact h.elim
theorem h_spec_front : Holds Try.prog 73 con_spec_front := by
  refine holds_of_ev (rt := [.c (.sl .int)]) (T := TT) (Γ := cs_spec_front) (an := an_spec_front) (N := 9) (c := Try.f73.body.getD .skip) Try.func73 (by kernel_rfl) Try.ntmps73 (by decide) (by decide) mixed tabOK cok_spec_front (by kernel_rfl) ?_
  intro vs kk _ hF
  exact i_spec_front (motive := fun vs => Goes (ev TT cs_spec_front 9 an_spec_front (Try.f73.body.getD .skip) (st0 con_spec_front vs) (fin TT con_spec_front Try.f73.results.toList [.c (.sl .int)] vs kk))) hF (fun list0 n1 hF => goes_of (e_spec_front list0 n1 kk) (F_spec_front_S hF))
def con_spec_fetch : Con := ⟨[.rd, .rd], true, [.agg [.sc, .sc, .sl .int, .sl .int], .c (.sc)], fun vs k => match vs with
    | [.agg [.v (.int .i64 t0Small), .v (.int .i64 t0Large), .ro .int t0Near, .ro .int t0Far], .c (.v (.int .i64 key1))] => F_spec_fetch t0Small t0Large t0Near t0Far key1 (fun r0 r1 r2 r3 r4 => k (.tup [.agg [.v (.int .i64 r0), .v (.int .i64 r1), .ro .int r2, .ro .int r3], .c (.v (.int .i64 r4))]) [])
    | _ => False, false⟩
def cl_spec_fetch : List (FuncId × Con) := [(62, con_spec_copyInts), (72, con_spec_placeOf), (73, con_spec_front), (74, con_spec_without)]
def an_spec_fetch : Ann := ⟨[(1, .take 0 (.take 1 (.take 2 (.take 3 (.take 4 (.take 5 (.take 7 (.take 8 (.alt 6 (.alt 9 (.take 10 (.alt 11 (.alt 12 (.done) (.none)) (.none))) (.alt 11 (.alt 9 (.take 10 (.alt 12 (.done) (.none))) (.none)) (.none))) (.alt 11 (.alt 6 (.alt 9 (.take 10 (.alt 12 (.done) (.none))) (.none)) (.none)) (.none)))))))))), [32]), (13, .take 0 (.take 2 (.take 4 (.alt 1 (.alt 3 (.alt 5 (.take 6 (.take 7 (.alt 8 (.take 9 (.alt 10 (.done) (.none))) (.none)))) (.none)) (.alt 5 (.alt 3 (.take 6 (.take 7 (.alt 8 (.take 9 (.alt 10 (.done) (.none))) (.none)))) (.none)) (.none))) (.alt 3 (.alt 1 (.alt 5 (.take 6 (.take 7 (.alt 8 (.take 9 (.alt 10 (.done) (.none))) (.none)))) (.none)) (.alt 5 (.take 6 (.take 7 (.alt 1 (.alt 8 (.take 9 (.alt 10 (.done) (.none))) (.none)) (.none)))) (.none))) (.alt 5 (.alt 1 (.alt 3 (.take 6 (.take 7 (.alt 8 (.take 9 (.alt 10 (.done) (.none))) (.none)))) (.none)) (.alt 3 (.take 6 (.take 7 (.alt 1 (.alt 8 (.take 9 (.alt 10 (.done) (.none))) (.none)) (.none)))) (.none))) (.none)))))), [768])], [], [], []⟩
def cs_spec_fetch : Cons := ⟨cl_spec_fetch, [], 0, [], [], []⟩
def fin_spec_fetch (t0Small : Int) (t0Large : Int) (t0Near : List Int) (t0Far : List Int) (key1 : Int) (kk : AV → List A1 → Prop) : Kt := fin TT con_spec_fetch Try.f53.results.toList [.agg [.sc, .sc, .sl .int, .sl .int], .c .sc] [.agg [.v (.int .i64 t0Small), .v (.int .i64 t0Large), .ro .int t0Near, .ro .int t0Far], .c (.v (.int .i64 key1))] kk
theorem g_spec_fetch (t0Small : Int) (t0Large : Int) (t0Near : List Int) (t0Far : List Int) (key1 : Int) (kk : AV → List A1 → Prop) :
    ev TT cs_spec_fetch 89 an_spec_fetch (Try.f53.body.getD .skip) (st0 con_spec_fetch [.agg [.v (.int .i64 t0Small), .v (.int .i64 t0Large), .ro .int t0Near, .ro .int t0Far], .c (.v (.int .i64 key1))]) (fin TT con_spec_fetch Try.f53.results.toList [.agg [.sc, .sc, .sl .int, .sl .int], .c .sc] [.agg [.v (.int .i64 t0Small), .v (.int .i64 t0Large), .ro .int t0Near, .ro .int t0Far], .c (.v (.int .i64 key1))] kk) = G_spec_fetch t0Small t0Large t0Near t0Far key1 (fun r0 r1 r2 r3 r4 => kk (.tup [.agg [.v (.int .i64 r0), .v (.int .i64 r1), .ro .int r2, .ro .int r3], .c (.v (.int .i64 r4))]) []) := by kernel_rfl
theorem e_spec_fetch (t0Small : Int) (t0Large : Int) (t0Near : List Int) (t0Far : List Int) (key1 : Int) (kk : AV → List A1 → Prop) :
    ev TT cs_spec_fetch 89 an_spec_fetch (Try.f53.body.getD .skip) (st0 con_spec_fetch [.agg [.v (.int .i64 t0Small), .v (.int .i64 t0Large), .ro .int t0Near, .ro .int t0Far], .c (.v (.int .i64 key1))]) (fin TT con_spec_fetch Try.f53.results.toList [.agg [.sc, .sc, .sl .int, .sl .int], .c .sc] [.agg [.v (.int .i64 t0Small), .v (.int .i64 t0Large), .ro .int t0Near, .ro .int t0Far], .c (.v (.int .i64 key1))] kk) = S_spec_fetch t0Small t0Large t0Near t0Far key1 (fun r0 r1 r2 r3 r4 => kk (.tup [.agg [.v (.int .i64 r0), .v (.int .i64 r1), .ro .int r2, .ro .int r3], .c (.v (.int .i64 r4))]) []) := by
  rw [g_spec_fetch]
  rw [G_spec_fetch_eq]
  rfl
theorem clok_spec_fetch : ConOK Try.prog cl_spec_fetch := consCons h_spec_copyInts ⟨Try.f62, Try.func62, by kernel_rfl, ne_of_beq (by kernel_rfl)⟩ (consCons h_spec_placeOf ⟨Try.f72, Try.func72, by kernel_rfl, ne_of_beq (by kernel_rfl)⟩ (consCons h_spec_front ⟨Try.f73, Try.func73, by kernel_rfl, ne_of_beq (by kernel_rfl)⟩ (consCons h_spec_without ⟨Try.f74, Try.func74, by kernel_rfl, ne_of_beq (by kernel_rfl)⟩ (consNil))))
theorem cok_spec_fetch : ConsOK Try.prog 89 cs_spec_fetch := ⟨clok_spec_fetch, inlNil, ovNil⟩
theorem i_spec_fetch {vs : List A1} {kk : AV → List A1 → Prop} {motive : List A1 → Prop} (h : con_spec_fetch.F vs kk) (H : ∀ (t0Small : Int) (t0Large : Int) (t0Near : List Int) (t0Far : List Int) (key1 : Int), F_spec_fetch t0Small t0Large t0Near t0Far key1 (fun r0 r1 r2 r3 r4 => kk (.tup [.agg [.v (.int .i64 r0), .v (.int .i64 r1), .ro .int r2, .ro .int r3], .c (.v (.int .i64 r4))]) []) → motive [.agg [.v (.int .i64 t0Small), .v (.int .i64 t0Large), .ro .int t0Near, .ro .int t0Far], .c (.v (.int .i64 key1))]) : motive vs := by
  unfold con_spec_fetch at h
  dsimp only at h
  split at h
  · exact H _ _ _ _ _ h
  · exact h.elim
theorem h_spec_fetch : Holds Try.prog 53 con_spec_fetch := by
  refine holds_of_ev (rt := [.agg [.sc, .sc, .sl .int, .sl .int], .c .sc]) (T := TT) (Γ := cs_spec_fetch) (an := an_spec_fetch) (N := 89) (c := Try.f53.body.getD .skip) Try.func53 (by kernel_rfl) Try.ntmps53 (by decide) (by decide) mixed tabOK cok_spec_fetch (by kernel_rfl) ?_
  intro vs kk _ hF
  exact i_spec_fetch (motive := fun vs => Goes (ev TT cs_spec_fetch 89 an_spec_fetch (Try.f53.body.getD .skip) (st0 con_spec_fetch vs) (fin TT con_spec_fetch Try.f53.results.toList [.agg [.sc, .sc, .sl .int, .sl .int], .c .sc] vs kk))) hF (fun t0Small t0Large t0Near t0Far key1 hF => goes_of (e_spec_fetch t0Small t0Large t0Near t0Far key1 kk) (F_spec_fetch_S hF))
def con_spec_reader_spoil : Con := ⟨[.mu, .rd, .rd], true, [.ptr [.sl .u8, .sc], .c (.sl .int), .c (.sc)], fun vs k => match vs with
    | [.ptr [.ro .u8 r0b, .v (.int .i64 r0p)], .c (.ro .int list1), .c (.v (.int .i64 n2))] => F_spec_reader_spoil r0b r0p list1 n2 (fun r0 r1 r2 => k (.one (.c (.ro .int r0))) [.ptr [.ro .u8 r1, .v (.int .i64 r2)]])
    | _ => False, false⟩
def cl_spec_reader_spoil : List (FuncId × Con) := [(62, con_spec_copyInts), (66, con_spec_reader_one), (67, con_spec_reader_pick)]
def an_spec_reader_spoil : Ann := ⟨[], [], [], []⟩
def cs_spec_reader_spoil : Cons := ⟨cl_spec_reader_spoil, [], 0, [], [], []⟩
def fin_spec_reader_spoil (r0b : List Int) (r0p : Int) (list1 : List Int) (n2 : Int) (kk : AV → List A1 → Prop) : Kt := fin TT con_spec_reader_spoil Try.f68.results.toList [.c (.sl .int)] [.ptr [.ro .u8 r0b, .v (.int .i64 r0p)], .c (.ro .int list1), .c (.v (.int .i64 n2))] kk
theorem g_spec_reader_spoil (r0b : List Int) (r0p : Int) (list1 : List Int) (n2 : Int) (kk : AV → List A1 → Prop) :
    ev TT cs_spec_reader_spoil 41 an_spec_reader_spoil (Try.f68.body.getD .skip) (st0 con_spec_reader_spoil [.ptr [.ro .u8 r0b, .v (.int .i64 r0p)], .c (.ro .int list1), .c (.v (.int .i64 n2))]) (fin TT con_spec_reader_spoil Try.f68.results.toList [.c (.sl .int)] [.ptr [.ro .u8 r0b, .v (.int .i64 r0p)], .c (.ro .int list1), .c (.v (.int .i64 n2))] kk) = G_spec_reader_spoil r0b r0p list1 n2 (fun r0 r1 r2 => kk (.one (.c (.ro .int r0))) [.ptr [.ro .u8 r1, .v (.int .i64 r2)]]) := by kernel_rfl
theorem e_spec_reader_spoil (r0b : List Int) (r0p : Int) (list1 : List Int) (n2 : Int) (kk : AV → List A1 → Prop) :
    ev TT cs_spec_reader_spoil 41 an_spec_reader_spoil (Try.f68.body.getD .skip) (st0 con_spec_reader_spoil [.ptr [.ro .u8 r0b, .v (.int .i64 r0p)], .c (.ro .int list1), .c (.v (.int .i64 n2))]) (fin TT con_spec_reader_spoil Try.f68.results.toList [.c (.sl .int)] [.ptr [.ro .u8 r0b, .v (.int .i64 r0p)], .c (.ro .int list1), .c (.v (.int .i64 n2))] kk) = S_spec_reader_spoil r0b r0p list1 n2 (fun r0 r1 r2 => kk (.one (.c (.ro .int r0))) [.ptr [.ro .u8 r1, .v (.int .i64 r2)]]) := by
  rw [g_spec_reader_spoil]
  rfl
theorem clok_spec_reader_spoil : ConOK Try.prog cl_spec_reader_spoil := consCons h_spec_copyInts ⟨Try.f62, Try.func62, by kernel_rfl, ne_of_beq (by kernel_rfl)⟩ (consCons h_spec_reader_one ⟨Try.f66, Try.func66, by kernel_rfl, ne_of_beq (by kernel_rfl)⟩ (consCons h_spec_reader_pick ⟨Try.f67, Try.func67, by kernel_rfl, ne_of_beq (by kernel_rfl)⟩ (consNil)))
theorem cok_spec_reader_spoil : ConsOK Try.prog 41 cs_spec_reader_spoil := ⟨clok_spec_reader_spoil, inlNil, ovNil⟩
theorem i_spec_reader_spoil {vs : List A1} {kk : AV → List A1 → Prop} {motive : List A1 → Prop} (h : con_spec_reader_spoil.F vs kk) (H : ∀ (r0b : List Int) (r0p : Int) (list1 : List Int) (n2 : Int), F_spec_reader_spoil r0b r0p list1 n2 (fun r0 r1 r2 => kk (.one (.c (.ro .int r0))) [.ptr [.ro .u8 r1, .v (.int .i64 r2)]]) → motive [.ptr [.ro .u8 r0b, .v (.int .i64 r0p)], .c (.ro .int list1), .c (.v (.int .i64 n2))]) : motive vs := by
  unfold con_spec_reader_spoil at h
  dsimp only at h
  split at h
  · exact H _ _ _ _ h
  · exact h.elim
theorem h_spec_reader_spoil : Holds Try.prog 68 con_spec_reader_spoil := by
  refine holds_of_ev (rt := [.c (.sl .int)]) (T := TT) (Γ := cs_spec_reader_spoil) (an := an_spec_reader_spoil) (N := 41) (c := Try.f68.body.getD .skip) Try.func68 (by kernel_rfl) Try.ntmps68 (by decide) (by decide) mixed tabOK cok_spec_reader_spoil (by kernel_rfl) ?_
  intro vs kk _ hF
  exact i_spec_reader_spoil (motive := fun vs => Goes (ev TT cs_spec_reader_spoil 41 an_spec_reader_spoil (Try.f68.body.getD .skip) (st0 con_spec_reader_spoil vs) (fin TT con_spec_reader_spoil Try.f68.results.toList [.c (.sl .int)] vs kk))) hF (fun r0b r0p list1 n2 hF => goes_of (e_spec_reader_spoil r0b r0p list1 n2 kk) (F_spec_reader_spoil_S hF))
def con_spec_someTiers : Con := ⟨[.mu], true, [.ptr [.sl .u8, .sc]], fun vs k => match vs with
    | [.ptr [.ro .u8 r0b, .v (.int .i64 r0p)]] => F_spec_someTiers r0b r0p (fun r0 r1 r2 r3 r4 r5 => k (.one (.agg [.v (.int .i64 r0), .v (.int .i64 r1), .ro .int r2, .ro .int r3])) [.ptr [.ro .u8 r4, .v (.int .i64 r5)]])
    | _ => False, false⟩
def cl_spec_someTiers : List (FuncId × Con) := [(53, con_spec_fetch), (66, con_spec_reader_one), (67, con_spec_reader_pick), (68, con_spec_reader_spoil)]
def nm0_spec_someTiers : List NStep := [.ownc 48 2 .int 90000, .ownc 48 3 .int 90001, .keep [0, 2, 3, 4] [100000, 32, 48, 90000, 90001]]
def an_spec_someTiers : Ann := ⟨[(5, .take 1 (.alt 0 (.alt 2 (.alt 3 (.take 4 (.take 5 (.take 6 (.alt 7 (.done) (.none))))) (.none)) (.none)) (.alt 2 (.alt 0 (.alt 3 (.take 4 (.take 5 (.take 6 (.alt 7 (.done) (.none))))) (.none)) (.none)) (.none))), []), (8, .take 0 (.take 2 (.alt 1 (.alt 3 (.alt 4 (.alt 5 (.take 6 (.alt 7 (.done) (.none))) (.none)) (.none)) (.none)) (.alt 3 (.alt 1 (.alt 4 (.alt 5 (.take 6 (.alt 7 (.done) (.none))) (.none)) (.none)) (.alt 4 (.alt 1 (.alt 5 (.take 6 (.alt 7 (.done) (.none))) (.none)) (.none)) (.none))) (.none)))), [])], [(3, nm0_spec_someTiers)], [], []⟩
def cs_spec_someTiers : Cons := ⟨cl_spec_someTiers, [], 0, [], [], []⟩
def can0_spec_someTiers (xn4 : Int) (xb100000c0 : List Int) (xb100000c1 : Int) (xb3c0 : Int) (xb3c1 : Int) (xb3c2 : List Int) (xb3c3 : List Int) : St := ⟨[(0, .one (.c (.pb 100000 0))), (2, .one (.c (.pb 32 0))), (3, .one (.c (.pb 48 0))), (4, .one (.c (.v (.int .i64 xn4))))], [(100000, .box [.ro .u8 xb100000c0, .v (.int .i64 xb100000c1)]), (32, .box [.v (.int .i64 0), .v (.int .i64 0), .nil, .nil]), (48, .box [.v (.int .i64 xb3c0), .v (.int .i64 xb3c1), .ow 90000, .ow 90001]), (90000, .row .int xb3c2), (90001, .row .int xb3c3)]⟩
def fin_spec_someTiers (r0b : List Int) (r0p : Int) (kk : AV → List A1 → Prop) : Kt := fin TT con_spec_someTiers Try.f39.results.toList [.agg [.sc, .sc, .sl .int, .sl .int]] [.ptr [.ro .u8 r0b, .v (.int .i64 r0p)]] kk
def kt0_spec_someTiers (kf : Kt) : Kt := blockK 0 (seqK (evF TT cs_spec_someTiers 55 an_spec_someTiers Try.f39 [1, 1, 1]) (kf))
theorem r0_spec_someTiers (r0b : List Int) (r0p : Int) (kk : AV → List A1 → Prop) (n : Nat) (xn4 : Int) (xb100000c0 : List Int) (xb100000c1 : Int) (xb3c0 : Int) (xb3c1 : Int) (xb3c2 : List Int) (xb3c3 : List Int) :
    iter (evF TT cs_spec_someTiers 55 an_spec_someTiers Try.f39 [1, 1, 0, 1, 0, 0]) nm0_spec_someTiers (kt0_spec_someTiers (fin_spec_someTiers r0b r0p kk)) (n + 1) (can0_spec_someTiers xn4 xb100000c0 xb100000c1 xb3c0 xb3c1 xb3c2 xb3c3) = T0_spec_someTiers xn4 xb100000c0 xb100000c1 xb3c0 xb3c1 xb3c2 xb3c3 (fun r0 r1 r2 r3 r4 r5 => kk (.one (.agg [.v (.int .i64 r0), .v (.int .i64 r1), .ro .int r2, .ro .int r3])) [.ptr [.ro .u8 r4, .v (.int .i64 r5)]]) (fun xn4 xb100000c0 xb100000c1 xb3c0 xb3c1 xb3c2 xb3c3 => iter (evF TT cs_spec_someTiers 55 an_spec_someTiers Try.f39 [1, 1, 0, 1, 0, 0]) nm0_spec_someTiers (kt0_spec_someTiers (fin_spec_someTiers r0b r0p kk)) n (can0_spec_someTiers xn4 xb100000c0 xb100000c1 xb3c0 xb3c1 xb3c2 xb3c3)) := by kernel_rfl
theorem l0_spec_someTiers (r0b : List Int) (r0p : Int) (kk : AV → List A1 → Prop) : ∀ (n : Nat) (xn4 : Int) (xb100000c0 : List Int) (xb100000c1 : Int) (xb3c0 : Int) (xb3c1 : Int) (xb3c2 : List Int) (xb3c3 : List Int), iter (evF TT cs_spec_someTiers 55 an_spec_someTiers Try.f39 [1, 1, 0, 1, 0, 0]) nm0_spec_someTiers (kt0_spec_someTiers (fin_spec_someTiers r0b r0p kk)) n (can0_spec_someTiers xn4 xb100000c0 xb100000c1 xb3c0 xb3c1 xb3c2 xb3c3) = L0_spec_someTiers (fun r0 r1 r2 r3 r4 r5 => kk (.one (.agg [.v (.int .i64 r0), .v (.int .i64 r1), .ro .int r2, .ro .int r3])) [.ptr [.ro .u8 r4, .v (.int .i64 r5)]]) n xn4 xb100000c0 xb100000c1 xb3c0 xb3c1 xb3c2 xb3c3 := by
  intro n
  induction n with
  | zero => intros; rfl
  | succ n ih =>
    intro xn4 xb100000c0 xb100000c1 xb3c0 xb3c1 xb3c2 xb3c3
    rw [r0_spec_someTiers r0b r0p kk n xn4 xb100000c0 xb100000c1 xb3c0 xb3c1 xb3c2 xb3c3]
    have hb : (fun xn4 xb100000c0 xb100000c1 xb3c0 xb3c1 xb3c2 xb3c3 => iter (evF TT cs_spec_someTiers 55 an_spec_someTiers Try.f39 [1, 1, 0, 1, 0, 0]) nm0_spec_someTiers (kt0_spec_someTiers (fin_spec_someTiers r0b r0p kk)) n (can0_spec_someTiers xn4 xb100000c0 xb100000c1 xb3c0 xb3c1 xb3c2 xb3c3)) = L0_spec_someTiers (fun r0 r1 r2 r3 r4 r5 => kk (.one (.agg [.v (.int .i64 r0), .v (.int .i64 r1), .ro .int r2, .ro .int r3])) [.ptr [.ro .u8 r4, .v (.int .i64 r5)]]) n := by
      funext xn4 xb100000c0 xb100000c1 xb3c0 xb3c1 xb3c2 xb3c3; exact ih xn4 xb100000c0 xb100000c1 xb3c0 xb3c1 xb3c2 xb3c3
    rw [hb]
    rw [T0_spec_someTiers_eq]
    rfl
theorem g_spec_someTiers (r0b : List Int) (r0p : Int) (kk : AV → List A1 → Prop) :
    ev TT cs_spec_someTiers 55 an_spec_someTiers (Try.f39.body.getD .skip) (st0 con_spec_someTiers [.ptr [.ro .u8 r0b, .v (.int .i64 r0p)]]) (fin TT con_spec_someTiers Try.f39.results.toList [.agg [.sc, .sc, .sl .int, .sl .int]] [.ptr [.ro .u8 r0b, .v (.int .i64 r0p)]] kk) = G_spec_someTiers r0b r0p (fun xn4 xb100000c0 xb100000c1 xb3c0 xb3c1 xb3c2 xb3c3 => ∃ j, iter (evF TT cs_spec_someTiers 55 an_spec_someTiers Try.f39 [1, 1, 0, 1, 0, 0]) nm0_spec_someTiers (kt0_spec_someTiers (fin_spec_someTiers r0b r0p kk)) j (can0_spec_someTiers xn4 xb100000c0 xb100000c1 xb3c0 xb3c1 xb3c2 xb3c3)) := by kernel_rfl
theorem e_spec_someTiers (r0b : List Int) (r0p : Int) (kk : AV → List A1 → Prop) :
    ev TT cs_spec_someTiers 55 an_spec_someTiers (Try.f39.body.getD .skip) (st0 con_spec_someTiers [.ptr [.ro .u8 r0b, .v (.int .i64 r0p)]]) (fin TT con_spec_someTiers Try.f39.results.toList [.agg [.sc, .sc, .sl .int, .sl .int]] [.ptr [.ro .u8 r0b, .v (.int .i64 r0p)]] kk) = S_spec_someTiers r0b r0p (fun r0 r1 r2 r3 r4 r5 => kk (.one (.agg [.v (.int .i64 r0), .v (.int .i64 r1), .ro .int r2, .ro .int r3])) [.ptr [.ro .u8 r4, .v (.int .i64 r5)]]) := by
  rw [g_spec_someTiers]
  have hi0 : (fun xn4 xb100000c0 xb100000c1 xb3c0 xb3c1 xb3c2 xb3c3 => ∃ j, iter (evF TT cs_spec_someTiers 55 an_spec_someTiers Try.f39 [1, 1, 0, 1, 0, 0]) nm0_spec_someTiers (kt0_spec_someTiers (fin_spec_someTiers r0b r0p kk)) j (can0_spec_someTiers xn4 xb100000c0 xb100000c1 xb3c0 xb3c1 xb3c2 xb3c3)) = (fun xn4 xb100000c0 xb100000c1 xb3c0 xb3c1 xb3c2 xb3c3 => ∃ j, L0_spec_someTiers (fun r0 r1 r2 r3 r4 r5 => kk (.one (.agg [.v (.int .i64 r0), .v (.int .i64 r1), .ro .int r2, .ro .int r3])) [.ptr [.ro .u8 r4, .v (.int .i64 r5)]]) j xn4 xb100000c0 xb100000c1 xb3c0 xb3c1 xb3c2 xb3c3) := by
    funext xn4 xb100000c0 xb100000c1 xb3c0 xb3c1 xb3c2 xb3c3
    refine congrArg Exists (funext fun j => ?_)
    rw [l0_spec_someTiers r0b r0p kk j xn4 xb100000c0 xb100000c1 xb3c0 xb3c1 xb3c2 xb3c3]
  rw [hi0]
  rfl
theorem clok_spec_someTiers : ConOK Try.prog cl_spec_someTiers := consCons h_spec_fetch ⟨Try.f53, Try.func53, by kernel_rfl, ne_of_beq (by kernel_rfl)⟩ (consCons h_spec_reader_one ⟨Try.f66, Try.func66, by kernel_rfl, ne_of_beq (by kernel_rfl)⟩ (consCons h_spec_reader_pick ⟨Try.f67, Try.func67, by kernel_rfl, ne_of_beq (by kernel_rfl)⟩ (consCons h_spec_reader_spoil ⟨Try.f68, Try.func68, by kernel_rfl, ne_of_beq (by kernel_rfl)⟩ (consNil))))
theorem cok_spec_someTiers : ConsOK Try.prog 55 cs_spec_someTiers := ⟨clok_spec_someTiers, inlNil, ovNil⟩
theorem i_spec_someTiers {vs : List A1} {kk : AV → List A1 → Prop} {motive : List A1 → Prop} (h : con_spec_someTiers.F vs kk) (H : ∀ (r0b : List Int) (r0p : Int), F_spec_someTiers r0b r0p (fun r0 r1 r2 r3 r4 r5 => kk (.one (.agg [.v (.int .i64 r0), .v (.int .i64 r1), .ro .int r2, .ro .int r3])) [.ptr [.ro .u8 r4, .v (.int .i64 r5)]]) → motive [.ptr [.ro .u8 r0b, .v (.int .i64 r0p)]]) : motive vs := by
  unfold con_spec_someTiers at h
  dsimp only at h
  split at h
  · exact H _ _ h
  · exact h.elim
theorem h_spec_someTiers : Holds Try.prog 39 con_spec_someTiers := by
  refine holds_of_ev (rt := [.agg [.sc, .sc, .sl .int, .sl .int]]) (T := TT) (Γ := cs_spec_someTiers) (an := an_spec_someTiers) (N := 55) (c := Try.f39.body.getD .skip) Try.func39 (by kernel_rfl) Try.ntmps39 (by decide) (by decide) mixed tabOK cok_spec_someTiers (by kernel_rfl) ?_
  intro vs kk _ hF
  exact i_spec_someTiers (motive := fun vs => Goes (ev TT cs_spec_someTiers 55 an_spec_someTiers (Try.f39.body.getD .skip) (st0 con_spec_someTiers vs) (fin TT con_spec_someTiers Try.f39.results.toList [.agg [.sc, .sc, .sl .int, .sl .int]] vs kk))) hF (fun r0b r0p hF => goes_of (e_spec_someTiers r0b r0p kk) (F_spec_someTiers_S hF))
def con_spec_DrawValidTiers : Con := ⟨[.rd], true, [.c (.sl .u8)], fun vs k => match vs with
    | [.c (.ro .u8 code0)] => F_spec_DrawValidTiers code0 (fun r0 r1 r2 r3 => k (.one (.agg [.v (.int .i64 r0), .v (.int .i64 r1), .ro .int r2, .ro .int r3])) [])
    | _ => False, false⟩
def cl_spec_DrawValidTiers : List (FuncId × Con) := [(39, con_spec_someTiers), (40, con_spec_newReader)]
def an_spec_DrawValidTiers : Ann := ⟨[], [], [], []⟩
def cs_spec_DrawValidTiers : Cons := ⟨cl_spec_DrawValidTiers, [], 0, [], [], []⟩
def fin_spec_DrawValidTiers (code0 : List Int) (kk : AV → List A1 → Prop) : Kt := fin TT con_spec_DrawValidTiers Try.f13.results.toList [.agg [.sc, .sc, .sl .int, .sl .int]] [.c (.ro .u8 code0)] kk
theorem g_spec_DrawValidTiers (code0 : List Int) (kk : AV → List A1 → Prop) :
    ev TT cs_spec_DrawValidTiers 6 an_spec_DrawValidTiers (Try.f13.body.getD .skip) (st0 con_spec_DrawValidTiers [.c (.ro .u8 code0)]) (fin TT con_spec_DrawValidTiers Try.f13.results.toList [.agg [.sc, .sc, .sl .int, .sl .int]] [.c (.ro .u8 code0)] kk) = G_spec_DrawValidTiers code0 (fun r0 r1 r2 r3 => kk (.one (.agg [.v (.int .i64 r0), .v (.int .i64 r1), .ro .int r2, .ro .int r3])) []) := by kernel_rfl
theorem e_spec_DrawValidTiers (code0 : List Int) (kk : AV → List A1 → Prop) :
    ev TT cs_spec_DrawValidTiers 6 an_spec_DrawValidTiers (Try.f13.body.getD .skip) (st0 con_spec_DrawValidTiers [.c (.ro .u8 code0)]) (fin TT con_spec_DrawValidTiers Try.f13.results.toList [.agg [.sc, .sc, .sl .int, .sl .int]] [.c (.ro .u8 code0)] kk) = S_spec_DrawValidTiers code0 (fun r0 r1 r2 r3 => kk (.one (.agg [.v (.int .i64 r0), .v (.int .i64 r1), .ro .int r2, .ro .int r3])) []) := by
  rw [g_spec_DrawValidTiers]
  rfl
theorem clok_spec_DrawValidTiers : ConOK Try.prog cl_spec_DrawValidTiers := consCons h_spec_someTiers ⟨Try.f39, Try.func39, by kernel_rfl, ne_of_beq (by kernel_rfl)⟩ (consCons h_spec_newReader ⟨Try.f40, Try.func40, by kernel_rfl, ne_of_beq (by kernel_rfl)⟩ (consNil))
theorem cok_spec_DrawValidTiers : ConsOK Try.prog 6 cs_spec_DrawValidTiers := ⟨clok_spec_DrawValidTiers, inlNil, ovNil⟩
theorem i_spec_DrawValidTiers {vs : List A1} {kk : AV → List A1 → Prop} {motive : List A1 → Prop} (h : con_spec_DrawValidTiers.F vs kk) (H : ∀ (code0 : List Int), F_spec_DrawValidTiers code0 (fun r0 r1 r2 r3 => kk (.one (.agg [.v (.int .i64 r0), .v (.int .i64 r1), .ro .int r2, .ro .int r3])) []) → motive [.c (.ro .u8 code0)]) : motive vs := by
  unfold con_spec_DrawValidTiers at h
  dsimp only at h
  split at h
  · exact H _ h
  · exact h.elim
theorem h_spec_DrawValidTiers : Holds Try.prog 13 con_spec_DrawValidTiers := by
  refine holds_of_ev (rt := [.agg [.sc, .sc, .sl .int, .sl .int]]) (T := TT) (Γ := cs_spec_DrawValidTiers) (an := an_spec_DrawValidTiers) (N := 6) (c := Try.f13.body.getD .skip) Try.func13 (by kernel_rfl) Try.ntmps13 (by decide) (by decide) mixed tabOK cok_spec_DrawValidTiers (by kernel_rfl) ?_
  intro vs kk _ hF
  exact i_spec_DrawValidTiers (motive := fun vs => Goes (ev TT cs_spec_DrawValidTiers 6 an_spec_DrawValidTiers (Try.f13.body.getD .skip) (st0 con_spec_DrawValidTiers vs) (fin TT con_spec_DrawValidTiers Try.f13.results.toList [.agg [.sc, .sc, .sl .int, .sl .int]] vs kk))) hF (fun code0 hF => goes_of (e_spec_DrawValidTiers code0 kk) (F_spec_DrawValidTiers_S hF))
def con_impl_validRoom : Con := ⟨[.rd], true, [.c (.sc)], fun vs k => match vs with
    | [.c (.v (.int .i64 room0))] => F_impl_validRoom room0 (fun r0 => k (.one (.c (.v (.bool r0)))) [])
    | _ => False, false⟩
def cl_impl_validRoom : List (FuncId × Con) := []
def an_impl_validRoom : Ann := ⟨[], [], [], []⟩
def cs_impl_validRoom : Cons := ⟨cl_impl_validRoom, [], 0, [], [], []⟩
def fin_impl_validRoom (room0 : Int) (kk : AV → List A1 → Prop) : Kt := fin TT con_impl_validRoom Try.f56.results.toList [.c .sc] [.c (.v (.int .i64 room0))] kk
theorem g_impl_validRoom (room0 : Int) (kk : AV → List A1 → Prop) :
    ev TT cs_impl_validRoom 9 an_impl_validRoom (Try.f56.body.getD .skip) (st0 con_impl_validRoom [.c (.v (.int .i64 room0))]) (fin TT con_impl_validRoom Try.f56.results.toList [.c .sc] [.c (.v (.int .i64 room0))] kk) = G_impl_validRoom room0 (fun r0 => kk (.one (.c (.v (.bool r0)))) []) := by kernel_rfl
theorem e_impl_validRoom (room0 : Int) (kk : AV → List A1 → Prop) :
    ev TT cs_impl_validRoom 9 an_impl_validRoom (Try.f56.body.getD .skip) (st0 con_impl_validRoom [.c (.v (.int .i64 room0))]) (fin TT con_impl_validRoom Try.f56.results.toList [.c .sc] [.c (.v (.int .i64 room0))] kk) = S_impl_validRoom room0 (fun r0 => kk (.one (.c (.v (.bool r0)))) []) := by
  rw [g_impl_validRoom]
  rfl
theorem clok_impl_validRoom : ConOK Try.prog cl_impl_validRoom := consNil
theorem cok_impl_validRoom : ConsOK Try.prog 9 cs_impl_validRoom := ⟨clok_impl_validRoom, inlNil, ovNil⟩
theorem i_impl_validRoom {vs : List A1} {kk : AV → List A1 → Prop} {motive : List A1 → Prop} (h : con_impl_validRoom.F vs kk) (H : ∀ (room0 : Int), F_impl_validRoom room0 (fun r0 => kk (.one (.c (.v (.bool r0)))) []) → motive [.c (.v (.int .i64 room0))]) : motive vs := by
  unfold con_impl_validRoom at h
  dsimp only at h
  split at h
  · exact H _ h
  · exact h.elim
theorem h_impl_validRoom : Holds Try.prog 56 con_impl_validRoom := by
  refine holds_of_ev (rt := [.c .sc]) (T := TT) (Γ := cs_impl_validRoom) (an := an_impl_validRoom) (N := 9) (c := Try.f56.body.getD .skip) Try.func56 (by kernel_rfl) Try.ntmps56 (by decide) (by decide) mixed tabOK cok_impl_validRoom (by kernel_rfl) ?_
  intro vs kk _ hF
  exact i_impl_validRoom (motive := fun vs => Goes (ev TT cs_impl_validRoom 9 an_impl_validRoom (Try.f56.body.getD .skip) (st0 con_impl_validRoom vs) (fin TT con_impl_validRoom Try.f56.results.toList [.c .sc] vs kk))) hF (fun room0 hF => goes_of (e_impl_validRoom room0 kk) (F_impl_validRoom_S hF))
def con_impl_validKey : Con := ⟨[.rd], true, [.c (.sc)], fun vs k => match vs with
    | [.c (.v (.int .i64 key0))] => F_impl_validKey key0 (fun r0 => k (.one (.c (.v (.bool r0)))) [])
    | _ => False, false⟩
def cl_impl_validKey : List (FuncId × Con) := []
def an_impl_validKey : Ann := ⟨[], [], [], []⟩
def cs_impl_validKey : Cons := ⟨cl_impl_validKey, [], 0, [], [], []⟩
def fin_impl_validKey (key0 : Int) (kk : AV → List A1 → Prop) : Kt := fin TT con_impl_validKey Try.f46.results.toList [.c .sc] [.c (.v (.int .i64 key0))] kk
theorem g_impl_validKey (key0 : Int) (kk : AV → List A1 → Prop) :
    ev TT cs_impl_validKey 9 an_impl_validKey (Try.f46.body.getD .skip) (st0 con_impl_validKey [.c (.v (.int .i64 key0))]) (fin TT con_impl_validKey Try.f46.results.toList [.c .sc] [.c (.v (.int .i64 key0))] kk) = G_impl_validKey key0 (fun r0 => kk (.one (.c (.v (.bool r0)))) []) := by kernel_rfl
theorem e_impl_validKey (key0 : Int) (kk : AV → List A1 → Prop) :
    ev TT cs_impl_validKey 9 an_impl_validKey (Try.f46.body.getD .skip) (st0 con_impl_validKey [.c (.v (.int .i64 key0))]) (fin TT con_impl_validKey Try.f46.results.toList [.c .sc] [.c (.v (.int .i64 key0))] kk) = S_impl_validKey key0 (fun r0 => kk (.one (.c (.v (.bool r0)))) []) := by
  rw [g_impl_validKey]
  rfl
theorem clok_impl_validKey : ConOK Try.prog cl_impl_validKey := consNil
theorem cok_impl_validKey : ConsOK Try.prog 9 cs_impl_validKey := ⟨clok_impl_validKey, inlNil, ovNil⟩
theorem i_impl_validKey {vs : List A1} {kk : AV → List A1 → Prop} {motive : List A1 → Prop} (h : con_impl_validKey.F vs kk) (H : ∀ (key0 : Int), F_impl_validKey key0 (fun r0 => kk (.one (.c (.v (.bool r0)))) []) → motive [.c (.v (.int .i64 key0))]) : motive vs := by
  unfold con_impl_validKey at h
  dsimp only at h
  split at h
  · exact H _ h
  · exact h.elim
theorem h_impl_validKey : Holds Try.prog 46 con_impl_validKey := by
  refine holds_of_ev (rt := [.c .sc]) (T := TT) (Γ := cs_impl_validKey) (an := an_impl_validKey) (N := 9) (c := Try.f46.body.getD .skip) Try.func46 (by kernel_rfl) Try.ntmps46 (by decide) (by decide) mixed tabOK cok_impl_validKey (by kernel_rfl) ?_
  intro vs kk _ hF
  exact i_impl_validKey (motive := fun vs => Goes (ev TT cs_impl_validKey 9 an_impl_validKey (Try.f46.body.getD .skip) (st0 con_impl_validKey vs) (fin TT con_impl_validKey Try.f46.results.toList [.c .sc] vs kk))) hF (fun key0 hF => goes_of (e_impl_validKey key0 kk) (F_impl_validKey_S hF))
def con_slices_Index_sint_int : Con := ⟨[.rd, .rd], true, [.c (.sl .int), .c (.sc)], fun vs k => match vs with
    | [.c (.ro .int s0), .c (.v (.int .i64 v1))] => F_slices_Index_sint_int s0 v1 (fun r0 => k (.one (.c (.v (.int .i64 r0)))) [])
    | _ => False, false⟩
def cl_slices_Index_sint_int : List (FuncId × Con) := []
def nm0_slices_Index_sint_int : List NStep := [.keep [0, 1, 7, 8] []]
def an_slices_Index_sint_int : Ann := ⟨[], [(2, nm0_slices_Index_sint_int)], [], []⟩
def cs_slices_Index_sint_int : Cons := ⟨cl_slices_Index_sint_int, [], 0, [], [], []⟩
def can0_slices_Index_sint_int (s0 : List Int) (v1 : Int) (xt7 : Int) (xt8 : Int) : St := ⟨[(0, .one (.c (.ro .int s0))), (1, .one (.c (.v (.int .i64 v1)))), (7, .one (.c (.v (.int .i64 xt7)))), (8, .one (.c (.v (.int .i64 xt8))))], []⟩
def fin_slices_Index_sint_int (s0 : List Int) (v1 : Int) (kk : AV → List A1 → Prop) : Kt := fin TT con_slices_Index_sint_int Try.f80.results.toList [.c .sc] [.c (.ro .int s0), .c (.v (.int .i64 v1))] kk
def kt0_slices_Index_sint_int (kf : Kt) : Kt := blockK 0 (seqK (evF TT cs_slices_Index_sint_int 19 an_slices_Index_sint_int Try.f80 [1, 1]) (kf))
theorem r0_slices_Index_sint_int (s0 : List Int) (v1 : Int) (xt7 : Int) (kk : AV → List A1 → Prop) (n : Nat) (xt8 : Int) :
    iter (evF TT cs_slices_Index_sint_int 19 an_slices_Index_sint_int Try.f80 [1, 0, 1, 0, 0]) nm0_slices_Index_sint_int (kt0_slices_Index_sint_int (fin_slices_Index_sint_int s0 v1 kk)) (n + 1) (can0_slices_Index_sint_int s0 v1 xt7 xt8) = T0_slices_Index_sint_int s0 v1 xt7 xt8 (fun r0 => kk (.one (.c (.v (.int .i64 r0)))) []) (fun xt8 => iter (evF TT cs_slices_Index_sint_int 19 an_slices_Index_sint_int Try.f80 [1, 0, 1, 0, 0]) nm0_slices_Index_sint_int (kt0_slices_Index_sint_int (fin_slices_Index_sint_int s0 v1 kk)) n (can0_slices_Index_sint_int s0 v1 xt7 xt8)) := by kernel_rfl
theorem l0_slices_Index_sint_int (s0 : List Int) (v1 : Int) (xt7 : Int) (kk : AV → List A1 → Prop) : ∀ (n : Nat) (xt8 : Int), iter (evF TT cs_slices_Index_sint_int 19 an_slices_Index_sint_int Try.f80 [1, 0, 1, 0, 0]) nm0_slices_Index_sint_int (kt0_slices_Index_sint_int (fin_slices_Index_sint_int s0 v1 kk)) n (can0_slices_Index_sint_int s0 v1 xt7 xt8) = L0_slices_Index_sint_int s0 v1 xt7 (fun r0 => kk (.one (.c (.v (.int .i64 r0)))) []) n xt8 := by
  intro n
  induction n with
  | zero => intros; rfl
  | succ n ih =>
    intro xt8
    rw [r0_slices_Index_sint_int s0 v1 xt7 kk n xt8]
    have hb : (fun xt8 => iter (evF TT cs_slices_Index_sint_int 19 an_slices_Index_sint_int Try.f80 [1, 0, 1, 0, 0]) nm0_slices_Index_sint_int (kt0_slices_Index_sint_int (fin_slices_Index_sint_int s0 v1 kk)) n (can0_slices_Index_sint_int s0 v1 xt7 xt8)) = L0_slices_Index_sint_int s0 v1 xt7 (fun r0 => kk (.one (.c (.v (.int .i64 r0)))) []) n := by
      funext xt8; exact ih xt8
    rw [hb]
    rfl
theorem g_slices_Index_sint_int (s0 : List Int) (v1 : Int) (kk : AV → List A1 → Prop) :
    ev TT cs_slices_Index_sint_int 19 an_slices_Index_sint_int (Try.f80.body.getD .skip) (st0 con_slices_Index_sint_int [.c (.ro .int s0), .c (.v (.int .i64 v1))]) (fin TT con_slices_Index_sint_int Try.f80.results.toList [.c .sc] [.c (.ro .int s0), .c (.v (.int .i64 v1))] kk) = G_slices_Index_sint_int s0 v1 (fun s0 v1 xt7 xt8 => ∃ j, iter (evF TT cs_slices_Index_sint_int 19 an_slices_Index_sint_int Try.f80 [1, 0, 1, 0, 0]) nm0_slices_Index_sint_int (kt0_slices_Index_sint_int (fin_slices_Index_sint_int s0 v1 kk)) j (can0_slices_Index_sint_int s0 v1 xt7 xt8)) := by kernel_rfl
theorem e_slices_Index_sint_int (s0 : List Int) (v1 : Int) (kk : AV → List A1 → Prop) :
    ev TT cs_slices_Index_sint_int 19 an_slices_Index_sint_int (Try.f80.body.getD .skip) (st0 con_slices_Index_sint_int [.c (.ro .int s0), .c (.v (.int .i64 v1))]) (fin TT con_slices_Index_sint_int Try.f80.results.toList [.c .sc] [.c (.ro .int s0), .c (.v (.int .i64 v1))] kk) = S_slices_Index_sint_int s0 v1 (fun r0 => kk (.one (.c (.v (.int .i64 r0)))) []) := by
  rw [g_slices_Index_sint_int]
  have hi0 : (fun s0 v1 xt7 xt8 => ∃ j, iter (evF TT cs_slices_Index_sint_int 19 an_slices_Index_sint_int Try.f80 [1, 0, 1, 0, 0]) nm0_slices_Index_sint_int (kt0_slices_Index_sint_int (fin_slices_Index_sint_int s0 v1 kk)) j (can0_slices_Index_sint_int s0 v1 xt7 xt8)) = (fun s0 v1 xt7 xt8 => ∃ j, L0_slices_Index_sint_int s0 v1 xt7 (fun r0 => kk (.one (.c (.v (.int .i64 r0)))) []) j xt8) := by
    funext s0 v1 xt7 xt8
    refine congrArg Exists (funext fun j => ?_)
    rw [l0_slices_Index_sint_int s0 v1 xt7 kk j xt8]
  rw [hi0]
  rfl
theorem clok_slices_Index_sint_int : ConOK Try.prog cl_slices_Index_sint_int := consNil
theorem cok_slices_Index_sint_int : ConsOK Try.prog 19 cs_slices_Index_sint_int := ⟨clok_slices_Index_sint_int, inlNil, ovNil⟩
theorem i_slices_Index_sint_int {vs : List A1} {kk : AV → List A1 → Prop} {motive : List A1 → Prop} (h : con_slices_Index_sint_int.F vs kk) (H : ∀ (s0 : List Int) (v1 : Int), F_slices_Index_sint_int s0 v1 (fun r0 => kk (.one (.c (.v (.int .i64 r0)))) []) → motive [.c (.ro .int s0), .c (.v (.int .i64 v1))]) : motive vs := by
  unfold con_slices_Index_sint_int at h
  dsimp only at h
  split at h
  · exact H _ _ h
  · exact h.elim
theorem h_slices_Index_sint_int : Holds Try.prog 80 con_slices_Index_sint_int := by
  refine holds_of_ev (rt := [.c .sc]) (T := TT) (Γ := cs_slices_Index_sint_int) (an := an_slices_Index_sint_int) (N := 19) (c := Try.f80.body.getD .skip) Try.func80 (by kernel_rfl) Try.ntmps80 (by decide) (by decide) mixed tabOK cok_slices_Index_sint_int (by kernel_rfl) ?_
  intro vs kk _ hF
  exact i_slices_Index_sint_int (motive := fun vs => Goes (ev TT cs_slices_Index_sint_int 19 an_slices_Index_sint_int (Try.f80.body.getD .skip) (st0 con_slices_Index_sint_int vs) (fin TT con_slices_Index_sint_int Try.f80.results.toList [.c .sc] vs kk))) hF (fun s0 v1 hF => goes_of (e_slices_Index_sint_int s0 v1 kk) (F_slices_Index_sint_int_S hF))
def con_slices_Contains_sint_int : Con := ⟨[.rd, .rd], true, [.c (.sl .int), .c (.sc)], fun vs k => match vs with
    | [.c (.ro .int s0), .c (.v (.int .i64 v1))] => F_slices_Contains_sint_int s0 v1 (fun r0 => k (.one (.c (.v (.bool r0)))) [])
    | _ => False, false⟩
def cl_slices_Contains_sint_int : List (FuncId × Con) := [(80, con_slices_Index_sint_int)]
def an_slices_Contains_sint_int : Ann := ⟨[], [], [], []⟩
def cs_slices_Contains_sint_int : Cons := ⟨cl_slices_Contains_sint_int, [], 0, [], [], []⟩
def fin_slices_Contains_sint_int (s0 : List Int) (v1 : Int) (kk : AV → List A1 → Prop) : Kt := fin TT con_slices_Contains_sint_int Try.f63.results.toList [.c .sc] [.c (.ro .int s0), .c (.v (.int .i64 v1))] kk
theorem g_slices_Contains_sint_int (s0 : List Int) (v1 : Int) (kk : AV → List A1 → Prop) :
    ev TT cs_slices_Contains_sint_int 9 an_slices_Contains_sint_int (Try.f63.body.getD .skip) (st0 con_slices_Contains_sint_int [.c (.ro .int s0), .c (.v (.int .i64 v1))]) (fin TT con_slices_Contains_sint_int Try.f63.results.toList [.c .sc] [.c (.ro .int s0), .c (.v (.int .i64 v1))] kk) = G_slices_Contains_sint_int s0 v1 (fun r0 => kk (.one (.c (.v (.bool r0)))) []) := by kernel_rfl
theorem e_slices_Contains_sint_int (s0 : List Int) (v1 : Int) (kk : AV → List A1 → Prop) :
    ev TT cs_slices_Contains_sint_int 9 an_slices_Contains_sint_int (Try.f63.body.getD .skip) (st0 con_slices_Contains_sint_int [.c (.ro .int s0), .c (.v (.int .i64 v1))]) (fin TT con_slices_Contains_sint_int Try.f63.results.toList [.c .sc] [.c (.ro .int s0), .c (.v (.int .i64 v1))] kk) = S_slices_Contains_sint_int s0 v1 (fun r0 => kk (.one (.c (.v (.bool r0)))) []) := by
  rw [g_slices_Contains_sint_int]
  rfl
theorem clok_slices_Contains_sint_int : ConOK Try.prog cl_slices_Contains_sint_int := consCons h_slices_Index_sint_int ⟨Try.f80, Try.func80, by kernel_rfl, ne_of_beq (by kernel_rfl)⟩ (consNil)
theorem cok_slices_Contains_sint_int : ConsOK Try.prog 9 cs_slices_Contains_sint_int := ⟨clok_slices_Contains_sint_int, inlNil, ovNil⟩
theorem i_slices_Contains_sint_int {vs : List A1} {kk : AV → List A1 → Prop} {motive : List A1 → Prop} (h : con_slices_Contains_sint_int.F vs kk) (H : ∀ (s0 : List Int) (v1 : Int), F_slices_Contains_sint_int s0 v1 (fun r0 => kk (.one (.c (.v (.bool r0)))) []) → motive [.c (.ro .int s0), .c (.v (.int .i64 v1))]) : motive vs := by
  unfold con_slices_Contains_sint_int at h
  dsimp only at h
  split at h
  · exact H _ _ h
  · exact h.elim
theorem h_slices_Contains_sint_int : Holds Try.prog 63 con_slices_Contains_sint_int := by
  refine holds_of_ev (rt := [.c .sc]) (T := TT) (Γ := cs_slices_Contains_sint_int) (an := an_slices_Contains_sint_int) (N := 9) (c := Try.f63.body.getD .skip) Try.func63 (by kernel_rfl) Try.ntmps63 (by decide) (by decide) mixed tabOK cok_slices_Contains_sint_int (by kernel_rfl) ?_
  intro vs kk _ hF
  exact i_slices_Contains_sint_int (motive := fun vs => Goes (ev TT cs_slices_Contains_sint_int 9 an_slices_Contains_sint_int (Try.f63.body.getD .skip) (st0 con_slices_Contains_sint_int vs) (fin TT con_slices_Contains_sint_int Try.f63.results.toList [.c .sc] vs kk))) hF (fun s0 v1 hF => goes_of (e_slices_Contains_sint_int s0 v1 kk) (F_slices_Contains_sint_int_S hF))
def con_impl_differentKeys : Con := ⟨[.rd], true, [.c (.sl .int)], fun vs k => match vs with
    | [.c (.ro .int list0)] => F_impl_differentKeys list0 (fun r0 => k (.one (.c (.v (.bool r0)))) [])
    | _ => False, false⟩
def cl_impl_differentKeys : List (FuncId × Con) := [(46, con_impl_validKey), (63, con_slices_Contains_sint_int)]
def nm0_impl_differentKeys : List NStep := [.keep [0, 5, 6, 7] []]
def an_impl_differentKeys : Ann := ⟨[], [(2, nm0_impl_differentKeys)], [], []⟩
def cs_impl_differentKeys : Cons := ⟨cl_impl_differentKeys, [], 0, [], [], []⟩
def can0_impl_differentKeys (list0 : List Int) (xt6 : Int) (xt7 : Int) : St := ⟨[(0, .one (.c (.ro .int list0))), (5, .one (.c (.ro .int list0))), (6, .one (.c (.v (.int .i64 xt6)))), (7, .one (.c (.v (.int .i64 xt7))))], []⟩
def fin_impl_differentKeys (list0 : List Int) (kk : AV → List A1 → Prop) : Kt := fin TT con_impl_differentKeys Try.f42.results.toList [.c .sc] [.c (.ro .int list0)] kk
def kt0_impl_differentKeys (kf : Kt) : Kt := blockK 0 (seqK (evF TT cs_impl_differentKeys 23 an_impl_differentKeys Try.f42 [1, 1]) (kf))
theorem r0_impl_differentKeys (list0 : List Int) (xt6 : Int) (kk : AV → List A1 → Prop) (n : Nat) (xt7 : Int) :
    iter (evF TT cs_impl_differentKeys 23 an_impl_differentKeys Try.f42 [1, 0, 1, 0, 0]) nm0_impl_differentKeys (kt0_impl_differentKeys (fin_impl_differentKeys list0 kk)) (n + 1) (can0_impl_differentKeys list0 xt6 xt7) = T0_impl_differentKeys list0 xt6 xt7 (fun r0 => kk (.one (.c (.v (.bool r0)))) []) (fun xt7 => iter (evF TT cs_impl_differentKeys 23 an_impl_differentKeys Try.f42 [1, 0, 1, 0, 0]) nm0_impl_differentKeys (kt0_impl_differentKeys (fin_impl_differentKeys list0 kk)) n (can0_impl_differentKeys list0 xt6 xt7)) := by kernel_rfl
theorem l0_impl_differentKeys (list0 : List Int) (xt6 : Int) (kk : AV → List A1 → Prop) : ∀ (n : Nat) (xt7 : Int), iter (evF TT cs_impl_differentKeys 23 an_impl_differentKeys Try.f42 [1, 0, 1, 0, 0]) nm0_impl_differentKeys (kt0_impl_differentKeys (fin_impl_differentKeys list0 kk)) n (can0_impl_differentKeys list0 xt6 xt7) = L0_impl_differentKeys list0 xt6 (fun r0 => kk (.one (.c (.v (.bool r0)))) []) n xt7 := by
  intro n
  induction n with
  | zero => intros; rfl
  | succ n ih =>
    intro xt7
    rw [r0_impl_differentKeys list0 xt6 kk n xt7]
    have hb : (fun xt7 => iter (evF TT cs_impl_differentKeys 23 an_impl_differentKeys Try.f42 [1, 0, 1, 0, 0]) nm0_impl_differentKeys (kt0_impl_differentKeys (fin_impl_differentKeys list0 kk)) n (can0_impl_differentKeys list0 xt6 xt7)) = L0_impl_differentKeys list0 xt6 (fun r0 => kk (.one (.c (.v (.bool r0)))) []) n := by
      funext xt7; exact ih xt7
    rw [hb]
    rfl
theorem g_impl_differentKeys (list0 : List Int) (kk : AV → List A1 → Prop) :
    ev TT cs_impl_differentKeys 23 an_impl_differentKeys (Try.f42.body.getD .skip) (st0 con_impl_differentKeys [.c (.ro .int list0)]) (fin TT con_impl_differentKeys Try.f42.results.toList [.c .sc] [.c (.ro .int list0)] kk) = G_impl_differentKeys list0 (fun list0 xt6 xt7 => ∃ j, iter (evF TT cs_impl_differentKeys 23 an_impl_differentKeys Try.f42 [1, 0, 1, 0, 0]) nm0_impl_differentKeys (kt0_impl_differentKeys (fin_impl_differentKeys list0 kk)) j (can0_impl_differentKeys list0 xt6 xt7)) := by kernel_rfl
theorem e_impl_differentKeys (list0 : List Int) (kk : AV → List A1 → Prop) :
    ev TT cs_impl_differentKeys 23 an_impl_differentKeys (Try.f42.body.getD .skip) (st0 con_impl_differentKeys [.c (.ro .int list0)]) (fin TT con_impl_differentKeys Try.f42.results.toList [.c .sc] [.c (.ro .int list0)] kk) = S_impl_differentKeys list0 (fun r0 => kk (.one (.c (.v (.bool r0)))) []) := by
  rw [g_impl_differentKeys]
  have hi0 : (fun list0 xt6 xt7 => ∃ j, iter (evF TT cs_impl_differentKeys 23 an_impl_differentKeys Try.f42 [1, 0, 1, 0, 0]) nm0_impl_differentKeys (kt0_impl_differentKeys (fin_impl_differentKeys list0 kk)) j (can0_impl_differentKeys list0 xt6 xt7)) = (fun list0 xt6 xt7 => ∃ j, L0_impl_differentKeys list0 xt6 (fun r0 => kk (.one (.c (.v (.bool r0)))) []) j xt7) := by
    funext list0 xt6 xt7
    refine congrArg Exists (funext fun j => ?_)
    rw [l0_impl_differentKeys list0 xt6 kk j xt7]
  rw [hi0]
  rfl
theorem clok_impl_differentKeys : ConOK Try.prog cl_impl_differentKeys := consCons h_impl_validKey ⟨Try.f46, Try.func46, by kernel_rfl, ne_of_beq (by kernel_rfl)⟩ (consCons h_slices_Contains_sint_int ⟨Try.f63, Try.func63, by kernel_rfl, ne_of_beq (by kernel_rfl)⟩ (consNil))
theorem cok_impl_differentKeys : ConsOK Try.prog 23 cs_impl_differentKeys := ⟨clok_impl_differentKeys, inlNil, ovNil⟩
theorem i_impl_differentKeys {vs : List A1} {kk : AV → List A1 → Prop} {motive : List A1 → Prop} (h : con_impl_differentKeys.F vs kk) (H : ∀ (list0 : List Int), F_impl_differentKeys list0 (fun r0 => kk (.one (.c (.v (.bool r0)))) []) → motive [.c (.ro .int list0)]) : motive vs := by
  unfold con_impl_differentKeys at h
  dsimp only at h
  split at h
  · exact H _ h
  · exact h.elim
theorem h_impl_differentKeys : Holds Try.prog 42 con_impl_differentKeys := by
  refine holds_of_ev (rt := [.c .sc]) (T := TT) (Γ := cs_impl_differentKeys) (an := an_impl_differentKeys) (N := 23) (c := Try.f42.body.getD .skip) Try.func42 (by kernel_rfl) Try.ntmps42 (by decide) (by decide) mixed tabOK cok_impl_differentKeys (by kernel_rfl) ?_
  intro vs kk _ hF
  exact i_impl_differentKeys (motive := fun vs => Goes (ev TT cs_impl_differentKeys 23 an_impl_differentKeys (Try.f42.body.getD .skip) (st0 con_impl_differentKeys vs) (fin TT con_impl_differentKeys Try.f42.results.toList [.c .sc] vs kk))) hF (fun list0 hF => goes_of (e_impl_differentKeys list0 kk) (F_impl_differentKeys_S hF))
def con_impl_ValidKeys : Con := ⟨[.rd, .rd], true, [.c (.sl .int), .c (.sc)], fun vs k => match vs with
    | [.c (.ro .int list0), .c (.v (.int .i64 room1))] => F_impl_ValidKeys list0 room1 (fun r0 => k (.one (.c (.v (.bool r0)))) [])
    | _ => False, false⟩
def cl_impl_ValidKeys : List (FuncId × Con) := [(42, con_impl_differentKeys), (56, con_impl_validRoom)]
def an_impl_ValidKeys : Ann := ⟨[], [], [], []⟩
def cs_impl_ValidKeys : Cons := ⟨cl_impl_ValidKeys, [], 0, [], [], []⟩
def fin_impl_ValidKeys (list0 : List Int) (room1 : Int) (kk : AV → List A1 → Prop) : Kt := fin TT con_impl_ValidKeys Try.f41.results.toList [.c .sc] [.c (.ro .int list0), .c (.v (.int .i64 room1))] kk
theorem g_impl_ValidKeys (list0 : List Int) (room1 : Int) (kk : AV → List A1 → Prop) :
    ev TT cs_impl_ValidKeys 17 an_impl_ValidKeys (Try.f41.body.getD .skip) (st0 con_impl_ValidKeys [.c (.ro .int list0), .c (.v (.int .i64 room1))]) (fin TT con_impl_ValidKeys Try.f41.results.toList [.c .sc] [.c (.ro .int list0), .c (.v (.int .i64 room1))] kk) = G_impl_ValidKeys list0 room1 (fun r0 => kk (.one (.c (.v (.bool r0)))) []) := by kernel_rfl
theorem e_impl_ValidKeys (list0 : List Int) (room1 : Int) (kk : AV → List A1 → Prop) :
    ev TT cs_impl_ValidKeys 17 an_impl_ValidKeys (Try.f41.body.getD .skip) (st0 con_impl_ValidKeys [.c (.ro .int list0), .c (.v (.int .i64 room1))]) (fin TT con_impl_ValidKeys Try.f41.results.toList [.c .sc] [.c (.ro .int list0), .c (.v (.int .i64 room1))] kk) = S_impl_ValidKeys list0 room1 (fun r0 => kk (.one (.c (.v (.bool r0)))) []) := by
  rw [g_impl_ValidKeys]
  rfl
theorem clok_impl_ValidKeys : ConOK Try.prog cl_impl_ValidKeys := consCons h_impl_differentKeys ⟨Try.f42, Try.func42, by kernel_rfl, ne_of_beq (by kernel_rfl)⟩ (consCons h_impl_validRoom ⟨Try.f56, Try.func56, by kernel_rfl, ne_of_beq (by kernel_rfl)⟩ (consNil))
theorem cok_impl_ValidKeys : ConsOK Try.prog 17 cs_impl_ValidKeys := ⟨clok_impl_ValidKeys, inlNil, ovNil⟩
theorem i_impl_ValidKeys {vs : List A1} {kk : AV → List A1 → Prop} {motive : List A1 → Prop} (h : con_impl_ValidKeys.F vs kk) (H : ∀ (list0 : List Int) (room1 : Int), F_impl_ValidKeys list0 room1 (fun r0 => kk (.one (.c (.v (.bool r0)))) []) → motive [.c (.ro .int list0), .c (.v (.int .i64 room1))]) : motive vs := by
  unfold con_impl_ValidKeys at h
  dsimp only at h
  split at h
  · exact H _ _ h
  · exact h.elim
theorem h_impl_ValidKeys : Holds Try.prog 41 con_impl_ValidKeys := by
  refine holds_of_ev (rt := [.c .sc]) (T := TT) (Γ := cs_impl_ValidKeys) (an := an_impl_ValidKeys) (N := 17) (c := Try.f41.body.getD .skip) Try.func41 (by kernel_rfl) Try.ntmps41 (by decide) (by decide) mixed tabOK cok_impl_ValidKeys (by kernel_rfl) ?_
  intro vs kk _ hF
  exact i_impl_ValidKeys (motive := fun vs => Goes (ev TT cs_impl_ValidKeys 17 an_impl_ValidKeys (Try.f41.body.getD .skip) (st0 con_impl_ValidKeys vs) (fin TT con_impl_ValidKeys Try.f41.results.toList [.c .sc] vs kk))) hF (fun list0 room1 hF => goes_of (e_impl_ValidKeys list0 room1 kk) (F_impl_ValidKeys_S hF))
def con_slices_Concat_sint_int : Con := ⟨[.rd], true, [.c (.sll .int)], fun vs k => match vs with
    | [.c (.rol .int slices0)] => F_slices_Concat_sint_int slices0 (fun r0 => k (.one (.c (.ro .int r0))) [])
    | _ => False, false⟩
def cl_slices_Concat_sint_int : List (FuncId × Con) := []
def nm1_slices_Concat_sint_int : List NStep := [.own 6 .int 90100, .keep [6, 25, 26, 27] [90100]]
def nm0_slices_Concat_sint_int : List NStep := [.keep [0, 3, 9, 10, 11] []]
def an_slices_Concat_sint_int_i1 : Ann := ⟨[], [], [], []⟩
def cs_slices_Concat_sint_int_i1 : Cons := ⟨cl_slices_Concat_sint_int, [], 592, [], [], []⟩
def an_slices_Concat_sint_int : Ann := ⟨[], [(11, nm1_slices_Concat_sint_int), (3, nm0_slices_Concat_sint_int)], [], []⟩
def cs_slices_Concat_sint_int : Cons := ⟨cl_slices_Concat_sint_int, [(24, ⟨69, inlG TT cs_slices_Concat_sint_int_i1 36 27 an_slices_Concat_sint_int_i1 (Try.f69.body.getD .skip) Try.f69.results.toList⟩)], 0, [], [], []⟩
def can1_slices_Concat_sint_int (slices0 : List (List Int)) (xt26 : Int) (xt27 : Int) (xnewslice6 : List Int) : St := ⟨[(6, .one (.c (.ow 90100))), (25, .one (.c (.rol .int slices0))), (26, .one (.c (.v (.int .i64 xt26)))), (27, .one (.c (.v (.int .i64 xt27))))], [(90100, .row .int xnewslice6)]⟩
def can0_slices_Concat_sint_int (slices0 : List (List Int)) (xt10 : Int) (xsize3 : Int) (xt11 : Int) : St := ⟨[(0, .one (.c (.rol .int slices0))), (3, .one (.c (.v (.int .i64 xsize3)))), (9, .one (.c (.rol .int slices0))), (10, .one (.c (.v (.int .i64 xt10)))), (11, .one (.c (.v (.int .i64 xt11))))], []⟩
def fin_slices_Concat_sint_int (slices0 : List (List Int)) (kk : AV → List A1 → Prop) : Kt := fin TT con_slices_Concat_sint_int Try.f43.results.toList [.c (.sl .int)] [.c (.rol .int slices0)] kk
def kt1_slices_Concat_sint_int (kf : Kt) : Kt := blockK 2 (seqK (evF TT cs_slices_Concat_sint_int 36 an_slices_Concat_sint_int Try.f43 [1, 1, 1, 1, 1]) (kf))
def kt0_slices_Concat_sint_int (kf : Kt) : Kt := blockK 0 (seqK (evF TT cs_slices_Concat_sint_int 36 an_slices_Concat_sint_int Try.f43 [1, 1, 1]) (kf))
theorem r1_slices_Concat_sint_int (slices0 : List (List Int)) (kk : AV → List A1 → Prop) (n : Nat) (xt26 : Int) (xt27 : Int) (xnewslice6 : List Int) :
    iter (evF TT cs_slices_Concat_sint_int 36 an_slices_Concat_sint_int Try.f43 [1, 1, 1, 1, 0, 1, 0, 0]) nm1_slices_Concat_sint_int (kt1_slices_Concat_sint_int (fin_slices_Concat_sint_int slices0 kk)) (n + 1) (can1_slices_Concat_sint_int slices0 xt26 xt27 xnewslice6) = T1_slices_Concat_sint_int slices0 xt26 xt27 xnewslice6 (fun r0 => kk (.one (.c (.ro .int r0))) []) (fun xt26 xt27 xnewslice6 => iter (evF TT cs_slices_Concat_sint_int 36 an_slices_Concat_sint_int Try.f43 [1, 1, 1, 1, 0, 1, 0, 0]) nm1_slices_Concat_sint_int (kt1_slices_Concat_sint_int (fin_slices_Concat_sint_int slices0 kk)) n (can1_slices_Concat_sint_int slices0 xt26 xt27 xnewslice6)) := by kernel_rfl
theorem l1_slices_Concat_sint_int (slices0 : List (List Int)) (kk : AV → List A1 → Prop) : ∀ (n : Nat) (xt26 : Int) (xt27 : Int) (xnewslice6 : List Int), iter (evF TT cs_slices_Concat_sint_int 36 an_slices_Concat_sint_int Try.f43 [1, 1, 1, 1, 0, 1, 0, 0]) nm1_slices_Concat_sint_int (kt1_slices_Concat_sint_int (fin_slices_Concat_sint_int slices0 kk)) n (can1_slices_Concat_sint_int slices0 xt26 xt27 xnewslice6) = L1_slices_Concat_sint_int slices0 (fun r0 => kk (.one (.c (.ro .int r0))) []) n xt26 xt27 xnewslice6 := by
  intro n
  induction n with
  | zero => intros; rfl
  | succ n ih =>
    intro xt26 xt27 xnewslice6
    rw [r1_slices_Concat_sint_int slices0 kk n xt26 xt27 xnewslice6]
    have hb : (fun xt26 xt27 xnewslice6 => iter (evF TT cs_slices_Concat_sint_int 36 an_slices_Concat_sint_int Try.f43 [1, 1, 1, 1, 0, 1, 0, 0]) nm1_slices_Concat_sint_int (kt1_slices_Concat_sint_int (fin_slices_Concat_sint_int slices0 kk)) n (can1_slices_Concat_sint_int slices0 xt26 xt27 xnewslice6)) = L1_slices_Concat_sint_int slices0 (fun r0 => kk (.one (.c (.ro .int r0))) []) n := by
      funext xt26 xt27 xnewslice6; exact ih xt26 xt27 xnewslice6
    rw [hb]
    rfl
theorem r0_slices_Concat_sint_int (slices0 : List (List Int)) (xt10 : Int) (kk : AV → List A1 → Prop) (n : Nat) (xsize3 : Int) (xt11 : Int) :
    iter (evF TT cs_slices_Concat_sint_int 36 an_slices_Concat_sint_int Try.f43 [1, 1, 0, 1, 0, 0]) nm0_slices_Concat_sint_int (kt0_slices_Concat_sint_int (fin_slices_Concat_sint_int slices0 kk)) (n + 1) (can0_slices_Concat_sint_int slices0 xt10 xsize3 xt11) = T0_slices_Concat_sint_int slices0 xt10 xsize3 xt11 (fun xsize3 xt11 => iter (evF TT cs_slices_Concat_sint_int 36 an_slices_Concat_sint_int Try.f43 [1, 1, 0, 1, 0, 0]) nm0_slices_Concat_sint_int (kt0_slices_Concat_sint_int (fin_slices_Concat_sint_int slices0 kk)) n (can0_slices_Concat_sint_int slices0 xt10 xsize3 xt11)) (fun slices0 xt26 xt27 xnewslice6 => ∃ j, iter (evF TT cs_slices_Concat_sint_int 36 an_slices_Concat_sint_int Try.f43 [1, 1, 1, 1, 0, 1, 0, 0]) nm1_slices_Concat_sint_int (kt1_slices_Concat_sint_int (fin_slices_Concat_sint_int slices0 kk)) j (can1_slices_Concat_sint_int slices0 xt26 xt27 xnewslice6)) := by kernel_rfl
theorem l0_slices_Concat_sint_int (slices0 : List (List Int)) (xt10 : Int) (kk : AV → List A1 → Prop) : ∀ (n : Nat) (xsize3 : Int) (xt11 : Int), iter (evF TT cs_slices_Concat_sint_int 36 an_slices_Concat_sint_int Try.f43 [1, 1, 0, 1, 0, 0]) nm0_slices_Concat_sint_int (kt0_slices_Concat_sint_int (fin_slices_Concat_sint_int slices0 kk)) n (can0_slices_Concat_sint_int slices0 xt10 xsize3 xt11) = L0_slices_Concat_sint_int slices0 xt10 (fun r0 => kk (.one (.c (.ro .int r0))) []) n xsize3 xt11 := by
  intro n
  induction n generalizing slices0 xt10 with
  | zero => intros; rfl
  | succ n ih =>
    intro xsize3 xt11
    rw [r0_slices_Concat_sint_int slices0 xt10 kk n xsize3 xt11]
    have hb : ∀ (slices0 : List (List Int)) (xt10 : Int), (fun xsize3 xt11 => iter (evF TT cs_slices_Concat_sint_int 36 an_slices_Concat_sint_int Try.f43 [1, 1, 0, 1, 0, 0]) nm0_slices_Concat_sint_int (kt0_slices_Concat_sint_int (fin_slices_Concat_sint_int slices0 kk)) n (can0_slices_Concat_sint_int slices0 xt10 xsize3 xt11)) = L0_slices_Concat_sint_int slices0 xt10 (fun r0 => kk (.one (.c (.ro .int r0))) []) n := by
      intro slices0 xt10
      funext xsize3 xt11; exact ih slices0 xt10 xsize3 xt11
    have hi1 : (fun slices0 xt26 xt27 xnewslice6 => ∃ j, iter (evF TT cs_slices_Concat_sint_int 36 an_slices_Concat_sint_int Try.f43 [1, 1, 1, 1, 0, 1, 0, 0]) nm1_slices_Concat_sint_int (kt1_slices_Concat_sint_int (fin_slices_Concat_sint_int slices0 kk)) j (can1_slices_Concat_sint_int slices0 xt26 xt27 xnewslice6)) = (fun slices0 xt26 xt27 xnewslice6 => ∃ j, L1_slices_Concat_sint_int slices0 (fun r0 => kk (.one (.c (.ro .int r0))) []) j xt26 xt27 xnewslice6) := by
      funext slices0 xt26 xt27 xnewslice6
      refine congrArg Exists (funext fun j => ?_)
      rw [l1_slices_Concat_sint_int slices0 kk j xt26 xt27 xnewslice6]
    rw [hb, hi1]
    rfl
theorem g_slices_Concat_sint_int (slices0 : List (List Int)) (kk : AV → List A1 → Prop) :
    ev TT cs_slices_Concat_sint_int 36 an_slices_Concat_sint_int (Try.f43.body.getD .skip) (st0 con_slices_Concat_sint_int [.c (.rol .int slices0)]) (fin TT con_slices_Concat_sint_int Try.f43.results.toList [.c (.sl .int)] [.c (.rol .int slices0)] kk) = G_slices_Concat_sint_int slices0 (fun slices0 xt10 xsize3 xt11 => ∃ j, iter (evF TT cs_slices_Concat_sint_int 36 an_slices_Concat_sint_int Try.f43 [1, 1, 0, 1, 0, 0]) nm0_slices_Concat_sint_int (kt0_slices_Concat_sint_int (fin_slices_Concat_sint_int slices0 kk)) j (can0_slices_Concat_sint_int slices0 xt10 xsize3 xt11)) := by kernel_rfl
theorem e_slices_Concat_sint_int (slices0 : List (List Int)) (kk : AV → List A1 → Prop) :
    ev TT cs_slices_Concat_sint_int 36 an_slices_Concat_sint_int (Try.f43.body.getD .skip) (st0 con_slices_Concat_sint_int [.c (.rol .int slices0)]) (fin TT con_slices_Concat_sint_int Try.f43.results.toList [.c (.sl .int)] [.c (.rol .int slices0)] kk) = S_slices_Concat_sint_int slices0 (fun r0 => kk (.one (.c (.ro .int r0))) []) := by
  rw [g_slices_Concat_sint_int]
  have hi0 : (fun slices0 xt10 xsize3 xt11 => ∃ j, iter (evF TT cs_slices_Concat_sint_int 36 an_slices_Concat_sint_int Try.f43 [1, 1, 0, 1, 0, 0]) nm0_slices_Concat_sint_int (kt0_slices_Concat_sint_int (fin_slices_Concat_sint_int slices0 kk)) j (can0_slices_Concat_sint_int slices0 xt10 xsize3 xt11)) = (fun slices0 xt10 xsize3 xt11 => ∃ j, L0_slices_Concat_sint_int slices0 xt10 (fun r0 => kk (.one (.c (.ro .int r0))) []) j xsize3 xt11) := by
    funext slices0 xt10 xsize3 xt11
    refine congrArg Exists (funext fun j => ?_)
    rw [l0_slices_Concat_sint_int slices0 xt10 kk j xsize3 xt11]
  rw [hi0]
  rfl
theorem clok_slices_Concat_sint_int : ConOK Try.prog cl_slices_Concat_sint_int := consNil
theorem cok_slices_Concat_sint_int_i1 : ConsOK Try.prog 27 cs_slices_Concat_sint_int_i1 := ⟨clok_slices_Concat_sint_int, inlNil, ovNil⟩
theorem cok_slices_Concat_sint_int : ConsOK Try.prog 36 cs_slices_Concat_sint_int := ⟨clok_slices_Concat_sint_int, inlCons (inl_ok Try.func69 (by kernel_rfl) (ne_of_beq (by kernel_rfl)) Try.ntmps69 (by decide) mixed tabOK cok_slices_Concat_sint_int_i1 (by kernel_rfl)) (inlNil), ovNil⟩
theorem i_slices_Concat_sint_int {vs : List A1} {kk : AV → List A1 → Prop} {motive : List A1 → Prop} (h : con_slices_Concat_sint_int.F vs kk) (H : ∀ (slices0 : List (List Int)), F_slices_Concat_sint_int slices0 (fun r0 => kk (.one (.c (.ro .int r0))) []) → motive [.c (.rol .int slices0)]) : motive vs := by
  unfold con_slices_Concat_sint_int at h
  dsimp only at h
  split at h
  · exact H _ h
  · exact h.elim
theorem h_slices_Concat_sint_int : Holds Try.prog 43 con_slices_Concat_sint_int := by
  refine holds_of_ev (rt := [.c (.sl .int)]) (T := TT) (Γ := cs_slices_Concat_sint_int) (an := an_slices_Concat_sint_int) (N := 36) (c := Try.f43.body.getD .skip) Try.func43 (by kernel_rfl) Try.ntmps43 (by decide) (by decide) mixed tabOK cok_slices_Concat_sint_int (by kernel_rfl) ?_
  intro vs kk _ hF
  exact i_slices_Concat_sint_int (motive := fun vs => Goes (ev TT cs_slices_Concat_sint_int 36 an_slices_Concat_sint_int (Try.f43.body.getD .skip) (st0 con_slices_Concat_sint_int vs) (fin TT con_slices_Concat_sint_int Try.f43.results.toList [.c (.sl .int)] vs kk))) hF (fun slices0 hF => goes_of (e_slices_Concat_sint_int slices0 kk) (F_slices_Concat_sint_int_S hF))
def con_impl_ValidTiers : Con := ⟨[.rd], true, [.agg [.sc, .sc, .sl .int, .sl .int]], fun vs k => match vs with
    | [.agg [.v (.int .i64 t0Small), .v (.int .i64 t0Large), .ro .int t0Near, .ro .int t0Far]] => F_impl_ValidTiers t0Small t0Large t0Near t0Far (fun r0 => k (.one (.c (.v (.bool r0)))) [])
    | _ => False, false⟩
def cl_impl_ValidTiers : List (FuncId × Con) := [(41, con_impl_ValidKeys), (42, con_impl_differentKeys), (43, con_slices_Concat_sint_int)]
def an_impl_ValidTiers : Ann := ⟨[], [], [], []⟩
def cs_impl_ValidTiers : Cons := ⟨cl_impl_ValidTiers, [], 0, [], [], []⟩
def fin_impl_ValidTiers (t0Small : Int) (t0Large : Int) (t0Near : List Int) (t0Far : List Int) (kk : AV → List A1 → Prop) : Kt := fin TT con_impl_ValidTiers Try.f14.results.toList [.c .sc] [.agg [.v (.int .i64 t0Small), .v (.int .i64 t0Large), .ro .int t0Near, .ro .int t0Far]] kk
theorem g_impl_ValidTiers (t0Small : Int) (t0Large : Int) (t0Near : List Int) (t0Far : List Int) (kk : AV → List A1 → Prop) :
    ev TT cs_impl_ValidTiers 24 an_impl_ValidTiers (Try.f14.body.getD .skip) (st0 con_impl_ValidTiers [.agg [.v (.int .i64 t0Small), .v (.int .i64 t0Large), .ro .int t0Near, .ro .int t0Far]]) (fin TT con_impl_ValidTiers Try.f14.results.toList [.c .sc] [.agg [.v (.int .i64 t0Small), .v (.int .i64 t0Large), .ro .int t0Near, .ro .int t0Far]] kk) = G_impl_ValidTiers t0Small t0Large t0Near t0Far (fun r0 => kk (.one (.c (.v (.bool r0)))) []) := by kernel_rfl
theorem e_impl_ValidTiers (t0Small : Int) (t0Large : Int) (t0Near : List Int) (t0Far : List Int) (kk : AV → List A1 → Prop) :
    ev TT cs_impl_ValidTiers 24 an_impl_ValidTiers (Try.f14.body.getD .skip) (st0 con_impl_ValidTiers [.agg [.v (.int .i64 t0Small), .v (.int .i64 t0Large), .ro .int t0Near, .ro .int t0Far]]) (fin TT con_impl_ValidTiers Try.f14.results.toList [.c .sc] [.agg [.v (.int .i64 t0Small), .v (.int .i64 t0Large), .ro .int t0Near, .ro .int t0Far]] kk) = S_impl_ValidTiers t0Small t0Large t0Near t0Far (fun r0 => kk (.one (.c (.v (.bool r0)))) []) := by
  rw [g_impl_ValidTiers]
  rfl
theorem clok_impl_ValidTiers : ConOK Try.prog cl_impl_ValidTiers := consCons h_impl_ValidKeys ⟨Try.f41, Try.func41, by kernel_rfl, ne_of_beq (by kernel_rfl)⟩ (consCons h_impl_differentKeys ⟨Try.f42, Try.func42, by kernel_rfl, ne_of_beq (by kernel_rfl)⟩ (consCons h_slices_Concat_sint_int ⟨Try.f43, Try.func43, by kernel_rfl, ne_of_beq (by kernel_rfl)⟩ (consNil)))
theorem cok_impl_ValidTiers : ConsOK Try.prog 24 cs_impl_ValidTiers := ⟨clok_impl_ValidTiers, inlNil, ovNil⟩
theorem i_impl_ValidTiers {vs : List A1} {kk : AV → List A1 → Prop} {motive : List A1 → Prop} (h : con_impl_ValidTiers.F vs kk) (H : ∀ (t0Small : Int) (t0Large : Int) (t0Near : List Int) (t0Far : List Int), F_impl_ValidTiers t0Small t0Large t0Near t0Far (fun r0 => kk (.one (.c (.v (.bool r0)))) []) → motive [.agg [.v (.int .i64 t0Small), .v (.int .i64 t0Large), .ro .int t0Near, .ro .int t0Far]]) : motive vs := by
  unfold con_impl_ValidTiers at h
  dsimp only at h
  split at h
  · exact H _ _ _ _ h
  · exact h.elim
theorem h_impl_ValidTiers : Holds Try.prog 14 con_impl_ValidTiers := by
  refine holds_of_ev (rt := [.c .sc]) (T := TT) (Γ := cs_impl_ValidTiers) (an := an_impl_ValidTiers) (N := 24) (c := Try.f14.body.getD .skip) Try.func14 (by kernel_rfl) Try.ntmps14 (by decide) (by decide) mixed tabOK cok_impl_ValidTiers (by kernel_rfl) ?_
  intro vs kk _ hF
  exact i_impl_ValidTiers (motive := fun vs => Goes (ev TT cs_impl_ValidTiers 24 an_impl_ValidTiers (Try.f14.body.getD .skip) (st0 con_impl_ValidTiers vs) (fin TT con_impl_ValidTiers Try.f14.results.toList [.c .sc] vs kk))) hF (fun t0Small t0Large t0Near t0Far hF => goes_of (e_impl_ValidTiers t0Small t0Large t0Near t0Far kk) (F_impl_ValidTiers_S hF))
def con_spec_inRange : Con := ⟨[.rd, .rd, .rd], true, [.c (.sc), .c (.sc), .c (.sc)], fun vs k => match vs with
    | [.c (.v (.int .i64 n0)), .c (.v (.int .i64 low1)), .c (.v (.int .i64 high2))] => F_spec_inRange n0 low1 high2 (fun r0 => k (.one (.c (.v (.bool r0)))) [])
    | _ => False, false⟩
def cl_spec_inRange : List (FuncId × Con) := []
def an_spec_inRange : Ann := ⟨[], [], [], []⟩
def cs_spec_inRange : Cons := ⟨cl_spec_inRange, [], 0, [], [], []⟩
def fin_spec_inRange (n0 : Int) (low1 : Int) (high2 : Int) (kk : AV → List A1 → Prop) : Kt := fin TT con_spec_inRange Try.f52.results.toList [.c .sc] [.c (.v (.int .i64 n0)), .c (.v (.int .i64 low1)), .c (.v (.int .i64 high2))] kk
theorem g_spec_inRange (n0 : Int) (low1 : Int) (high2 : Int) (kk : AV → List A1 → Prop) :
    ev TT cs_spec_inRange 15 an_spec_inRange (Try.f52.body.getD .skip) (st0 con_spec_inRange [.c (.v (.int .i64 n0)), .c (.v (.int .i64 low1)), .c (.v (.int .i64 high2))]) (fin TT con_spec_inRange Try.f52.results.toList [.c .sc] [.c (.v (.int .i64 n0)), .c (.v (.int .i64 low1)), .c (.v (.int .i64 high2))] kk) = G_spec_inRange n0 low1 high2 (fun r0 => kk (.one (.c (.v (.bool r0)))) []) := by kernel_rfl
theorem e_spec_inRange (n0 : Int) (low1 : Int) (high2 : Int) (kk : AV → List A1 → Prop) :
    ev TT cs_spec_inRange 15 an_spec_inRange (Try.f52.body.getD .skip) (st0 con_spec_inRange [.c (.v (.int .i64 n0)), .c (.v (.int .i64 low1)), .c (.v (.int .i64 high2))]) (fin TT con_spec_inRange Try.f52.results.toList [.c .sc] [.c (.v (.int .i64 n0)), .c (.v (.int .i64 low1)), .c (.v (.int .i64 high2))] kk) = S_spec_inRange n0 low1 high2 (fun r0 => kk (.one (.c (.v (.bool r0)))) []) := by
  rw [g_spec_inRange]
  rfl
theorem clok_spec_inRange : ConOK Try.prog cl_spec_inRange := consNil
theorem cok_spec_inRange : ConsOK Try.prog 15 cs_spec_inRange := ⟨clok_spec_inRange, inlNil, ovNil⟩
theorem i_spec_inRange {vs : List A1} {kk : AV → List A1 → Prop} {motive : List A1 → Prop} (h : con_spec_inRange.F vs kk) (H : ∀ (n0 : Int) (low1 : Int) (high2 : Int), F_spec_inRange n0 low1 high2 (fun r0 => kk (.one (.c (.v (.bool r0)))) []) → motive [.c (.v (.int .i64 n0)), .c (.v (.int .i64 low1)), .c (.v (.int .i64 high2))]) : motive vs := by
  unfold con_spec_inRange at h
  dsimp only at h
  split at h
  · exact H _ _ _ h
  · exact h.elim
theorem h_spec_inRange : Holds Try.prog 52 con_spec_inRange := by
  refine holds_of_ev (rt := [.c .sc]) (T := TT) (Γ := cs_spec_inRange) (an := an_spec_inRange) (N := 15) (c := Try.f52.body.getD .skip) Try.func52 (by kernel_rfl) Try.ntmps52 (by decide) (by decide) mixed tabOK cok_spec_inRange (by kernel_rfl) ?_
  intro vs kk _ hF
  exact i_spec_inRange (motive := fun vs => Goes (ev TT cs_spec_inRange 15 an_spec_inRange (Try.f52.body.getD .skip) (st0 con_spec_inRange vs) (fin TT con_spec_inRange Try.f52.results.toList [.c .sc] vs kk))) hF (fun n0 low1 high2 hF => goes_of (e_spec_inRange n0 low1 high2 kk) (F_spec_inRange_S hF))
def con_spec_allIn : Con := ⟨[.rd, .rd, .rd], true, [.c (.sl .int), .c (.sc), .c (.sc)], fun vs k => match vs with
    | [.c (.ro .int list0), .c (.v (.int .i64 low1)), .c (.v (.int .i64 high2))] => F_spec_allIn list0 low1 high2 (fun r0 => k (.one (.c (.v (.bool r0)))) [])
    | _ => False, false⟩
def cl_spec_allIn : List (FuncId × Con) := [(52, con_spec_inRange)]
def nm0_spec_allIn : List NStep := [.keep [0, 1, 2, 7] []]
def an_spec_allIn : Ann := ⟨[], [(2, nm0_spec_allIn)], [], []⟩
def cs_spec_allIn : Cons := ⟨cl_spec_allIn, [], 0, [], [], []⟩
def can0_spec_allIn (high2 : Int) (list0 : List Int) (low1 : Int) (xi7 : Int) : St := ⟨[(0, .one (.c (.ro .int list0))), (1, .one (.c (.v (.int .i64 low1)))), (2, .one (.c (.v (.int .i64 high2)))), (7, .one (.c (.v (.int .i64 xi7))))], []⟩
def fin_spec_allIn (list0 : List Int) (low1 : Int) (high2 : Int) (kk : AV → List A1 → Prop) : Kt := fin TT con_spec_allIn Try.f77.results.toList [.c .sc] [.c (.ro .int list0), .c (.v (.int .i64 low1)), .c (.v (.int .i64 high2))] kk
def kt0_spec_allIn (kf : Kt) : Kt := blockK 0 (seqK (evF TT cs_spec_allIn 22 an_spec_allIn Try.f77 [1, 1]) (kf))
theorem r0_spec_allIn (list0 : List Int) (low1 : Int) (high2 : Int) (kk : AV → List A1 → Prop) (n : Nat) (xi7 : Int) :
    iter (evF TT cs_spec_allIn 22 an_spec_allIn Try.f77 [1, 0, 1, 0, 0]) nm0_spec_allIn (kt0_spec_allIn (fin_spec_allIn list0 low1 high2 kk)) (n + 1) (can0_spec_allIn high2 list0 low1 xi7) = T0_spec_allIn high2 list0 low1 xi7 (fun r0 => kk (.one (.c (.v (.bool r0)))) []) (fun xi7 => iter (evF TT cs_spec_allIn 22 an_spec_allIn Try.f77 [1, 0, 1, 0, 0]) nm0_spec_allIn (kt0_spec_allIn (fin_spec_allIn list0 low1 high2 kk)) n (can0_spec_allIn high2 list0 low1 xi7)) := by kernel_rfl
theorem l0_spec_allIn (list0 : List Int) (low1 : Int) (high2 : Int) (kk : AV → List A1 → Prop) : ∀ (n : Nat) (xi7 : Int), iter (evF TT cs_spec_allIn 22 an_spec_allIn Try.f77 [1, 0, 1, 0, 0]) nm0_spec_allIn (kt0_spec_allIn (fin_spec_allIn list0 low1 high2 kk)) n (can0_spec_allIn high2 list0 low1 xi7) = L0_spec_allIn high2 list0 low1 (fun r0 => kk (.one (.c (.v (.bool r0)))) []) n xi7 := by
  intro n
  induction n with
  | zero => intros; rfl
  | succ n ih =>
    intro xi7
    rw [r0_spec_allIn list0 low1 high2 kk n xi7]
    have hb : (fun xi7 => iter (evF TT cs_spec_allIn 22 an_spec_allIn Try.f77 [1, 0, 1, 0, 0]) nm0_spec_allIn (kt0_spec_allIn (fin_spec_allIn list0 low1 high2 kk)) n (can0_spec_allIn high2 list0 low1 xi7)) = L0_spec_allIn high2 list0 low1 (fun r0 => kk (.one (.c (.v (.bool r0)))) []) n := by
      funext xi7; exact ih xi7
    rw [hb]
    rfl
theorem g_spec_allIn (list0 : List Int) (low1 : Int) (high2 : Int) (kk : AV → List A1 → Prop) :
    ev TT cs_spec_allIn 22 an_spec_allIn (Try.f77.body.getD .skip) (st0 con_spec_allIn [.c (.ro .int list0), .c (.v (.int .i64 low1)), .c (.v (.int .i64 high2))]) (fin TT con_spec_allIn Try.f77.results.toList [.c .sc] [.c (.ro .int list0), .c (.v (.int .i64 low1)), .c (.v (.int .i64 high2))] kk) = G_spec_allIn list0 low1 high2 (fun high2 list0 low1 xi7 => ∃ j, iter (evF TT cs_spec_allIn 22 an_spec_allIn Try.f77 [1, 0, 1, 0, 0]) nm0_spec_allIn (kt0_spec_allIn (fin_spec_allIn list0 low1 high2 kk)) j (can0_spec_allIn high2 list0 low1 xi7)) := by kernel_rfl
theorem e_spec_allIn (list0 : List Int) (low1 : Int) (high2 : Int) (kk : AV → List A1 → Prop) :
    ev TT cs_spec_allIn 22 an_spec_allIn (Try.f77.body.getD .skip) (st0 con_spec_allIn [.c (.ro .int list0), .c (.v (.int .i64 low1)), .c (.v (.int .i64 high2))]) (fin TT con_spec_allIn Try.f77.results.toList [.c .sc] [.c (.ro .int list0), .c (.v (.int .i64 low1)), .c (.v (.int .i64 high2))] kk) = S_spec_allIn list0 low1 high2 (fun r0 => kk (.one (.c (.v (.bool r0)))) []) := by
  rw [g_spec_allIn]
  have hi0 : (fun high2 list0 low1 xi7 => ∃ j, iter (evF TT cs_spec_allIn 22 an_spec_allIn Try.f77 [1, 0, 1, 0, 0]) nm0_spec_allIn (kt0_spec_allIn (fin_spec_allIn list0 low1 high2 kk)) j (can0_spec_allIn high2 list0 low1 xi7)) = (fun high2 list0 low1 xi7 => ∃ j, L0_spec_allIn high2 list0 low1 (fun r0 => kk (.one (.c (.v (.bool r0)))) []) j xi7) := by
    funext high2 list0 low1 xi7
    refine congrArg Exists (funext fun j => ?_)
    rw [l0_spec_allIn list0 low1 high2 kk j xi7]
  rw [hi0]
  rfl
theorem clok_spec_allIn : ConOK Try.prog cl_spec_allIn := consCons h_spec_inRange ⟨Try.f52, Try.func52, by kernel_rfl, ne_of_beq (by kernel_rfl)⟩ (consNil)
theorem cok_spec_allIn : ConsOK Try.prog 22 cs_spec_allIn := ⟨clok_spec_allIn, inlNil, ovNil⟩
theorem i_spec_allIn {vs : List A1} {kk : AV → List A1 → Prop} {motive : List A1 → Prop} (h : con_spec_allIn.F vs kk) (H : ∀ (list0 : List Int) (low1 : Int) (high2 : Int), F_spec_allIn list0 low1 high2 (fun r0 => kk (.one (.c (.v (.bool r0)))) []) → motive [.c (.ro .int list0), .c (.v (.int .i64 low1)), .c (.v (.int .i64 high2))]) : motive vs := by
  unfold con_spec_allIn at h
  dsimp only at h
  split at h
  · exact H _ _ _ h
  · exact h.elim
theorem h_spec_allIn : Holds Try.prog 77 con_spec_allIn := by
  refine holds_of_ev (rt := [.c .sc]) (T := TT) (Γ := cs_spec_allIn) (an := an_spec_allIn) (N := 22) (c := Try.f77.body.getD .skip) Try.func77 (by kernel_rfl) Try.ntmps77 (by decide) (by decide) mixed tabOK cok_spec_allIn (by kernel_rfl) ?_
  intro vs kk _ hF
  exact i_spec_allIn (motive := fun vs => Goes (ev TT cs_spec_allIn 22 an_spec_allIn (Try.f77.body.getD .skip) (st0 con_spec_allIn vs) (fin TT con_spec_allIn Try.f77.results.toList [.c .sc] vs kk))) hF (fun list0 low1 high2 hF => goes_of (e_spec_allIn list0 low1 high2 kk) (F_spec_allIn_S hF))
def con_spec_distinct : Con := ⟨[.rd], true, [.c (.sl .int)], fun vs k => match vs with
    | [.c (.ro .int list0)] => F_spec_distinct list0 (fun r0 => k (.one (.c (.v (.bool r0)))) [])
    | _ => False, false⟩
def cl_spec_distinct : List (FuncId × Con) := [(72, con_spec_placeOf)]
def nm0_spec_distinct : List NStep := [.keep [0, 3] []]
def an_spec_distinct : Ann := ⟨[], [(2, nm0_spec_distinct)], [], []⟩
def cs_spec_distinct : Cons := ⟨cl_spec_distinct, [], 0, [], [], []⟩
def can0_spec_distinct (list0 : List Int) (xi3 : Int) : St := ⟨[(0, .one (.c (.ro .int list0))), (3, .one (.c (.v (.int .i64 xi3))))], []⟩
def fin_spec_distinct (list0 : List Int) (kk : AV → List A1 → Prop) : Kt := fin TT con_spec_distinct Try.f71.results.toList [.c .sc] [.c (.ro .int list0)] kk
def kt0_spec_distinct (kf : Kt) : Kt := blockK 0 (seqK (evF TT cs_spec_distinct 18 an_spec_distinct Try.f71 [1, 1]) (kf))
theorem r0_spec_distinct (list0 : List Int) (kk : AV → List A1 → Prop) (n : Nat) (xi3 : Int) :
    iter (evF TT cs_spec_distinct 18 an_spec_distinct Try.f71 [1, 0, 1, 0, 0]) nm0_spec_distinct (kt0_spec_distinct (fin_spec_distinct list0 kk)) (n + 1) (can0_spec_distinct list0 xi3) = T0_spec_distinct list0 xi3 (fun r0 => kk (.one (.c (.v (.bool r0)))) []) (fun xi3 => iter (evF TT cs_spec_distinct 18 an_spec_distinct Try.f71 [1, 0, 1, 0, 0]) nm0_spec_distinct (kt0_spec_distinct (fin_spec_distinct list0 kk)) n (can0_spec_distinct list0 xi3)) := by kernel_rfl
theorem l0_spec_distinct (list0 : List Int) (kk : AV → List A1 → Prop) : ∀ (n : Nat) (xi3 : Int), iter (evF TT cs_spec_distinct 18 an_spec_distinct Try.f71 [1, 0, 1, 0, 0]) nm0_spec_distinct (kt0_spec_distinct (fin_spec_distinct list0 kk)) n (can0_spec_distinct list0 xi3) = L0_spec_distinct list0 (fun r0 => kk (.one (.c (.v (.bool r0)))) []) n xi3 := by
  intro n
  induction n with
  | zero => intros; rfl
  | succ n ih =>
    intro xi3
    rw [r0_spec_distinct list0 kk n xi3]
    have hb : (fun xi3 => iter (evF TT cs_spec_distinct 18 an_spec_distinct Try.f71 [1, 0, 1, 0, 0]) nm0_spec_distinct (kt0_spec_distinct (fin_spec_distinct list0 kk)) n (can0_spec_distinct list0 xi3)) = L0_spec_distinct list0 (fun r0 => kk (.one (.c (.v (.bool r0)))) []) n := by
      funext xi3; exact ih xi3
    rw [hb]
    rfl
theorem g_spec_distinct (list0 : List Int) (kk : AV → List A1 → Prop) :
    ev TT cs_spec_distinct 18 an_spec_distinct (Try.f71.body.getD .skip) (st0 con_spec_distinct [.c (.ro .int list0)]) (fin TT con_spec_distinct Try.f71.results.toList [.c .sc] [.c (.ro .int list0)] kk) = G_spec_distinct list0 (fun list0 xi3 => ∃ j, iter (evF TT cs_spec_distinct 18 an_spec_distinct Try.f71 [1, 0, 1, 0, 0]) nm0_spec_distinct (kt0_spec_distinct (fin_spec_distinct list0 kk)) j (can0_spec_distinct list0 xi3)) := by kernel_rfl
theorem e_spec_distinct (list0 : List Int) (kk : AV → List A1 → Prop) :
    ev TT cs_spec_distinct 18 an_spec_distinct (Try.f71.body.getD .skip) (st0 con_spec_distinct [.c (.ro .int list0)]) (fin TT con_spec_distinct Try.f71.results.toList [.c .sc] [.c (.ro .int list0)] kk) = S_spec_distinct list0 (fun r0 => kk (.one (.c (.v (.bool r0)))) []) := by
  rw [g_spec_distinct]
  have hi0 : (fun list0 xi3 => ∃ j, iter (evF TT cs_spec_distinct 18 an_spec_distinct Try.f71 [1, 0, 1, 0, 0]) nm0_spec_distinct (kt0_spec_distinct (fin_spec_distinct list0 kk)) j (can0_spec_distinct list0 xi3)) = (fun list0 xi3 => ∃ j, L0_spec_distinct list0 (fun r0 => kk (.one (.c (.v (.bool r0)))) []) j xi3) := by
    funext list0 xi3
    refine congrArg Exists (funext fun j => ?_)
    rw [l0_spec_distinct list0 kk j xi3]
  rw [hi0]
  rfl
theorem clok_spec_distinct : ConOK Try.prog cl_spec_distinct := consCons h_spec_placeOf ⟨Try.f72, Try.func72, by kernel_rfl, ne_of_beq (by kernel_rfl)⟩ (consNil)
theorem cok_spec_distinct : ConsOK Try.prog 18 cs_spec_distinct := ⟨clok_spec_distinct, inlNil, ovNil⟩
theorem i_spec_distinct {vs : List A1} {kk : AV → List A1 → Prop} {motive : List A1 → Prop} (h : con_spec_distinct.F vs kk) (H : ∀ (list0 : List Int), F_spec_distinct list0 (fun r0 => kk (.one (.c (.v (.bool r0)))) []) → motive [.c (.ro .int list0)]) : motive vs := by
  unfold con_spec_distinct at h
  dsimp only at h
  split at h
  · exact H _ h
  · exact h.elim
theorem h_spec_distinct : Holds Try.prog 71 con_spec_distinct := by
  refine holds_of_ev (rt := [.c .sc]) (T := TT) (Γ := cs_spec_distinct) (an := an_spec_distinct) (N := 18) (c := Try.f71.body.getD .skip) Try.func71 (by kernel_rfl) Try.ntmps71 (by decide) (by decide) mixed tabOK cok_spec_distinct (by kernel_rfl) ?_
  intro vs kk _ hF
  exact i_spec_distinct (motive := fun vs => Goes (ev TT cs_spec_distinct 18 an_spec_distinct (Try.f71.body.getD .skip) (st0 con_spec_distinct vs) (fin TT con_spec_distinct Try.f71.results.toList [.c .sc] vs kk))) hF (fun list0 hF => goes_of (e_spec_distinct list0 kk) (F_spec_distinct_S hF))
def con_spec_validKeys : Con := ⟨[.rd, .rd], true, [.c (.sl .int), .c (.sc)], fun vs k => match vs with
    | [.c (.ro .int list0), .c (.v (.int .i64 room1))] => F_spec_validKeys list0 room1 (fun r0 => k (.one (.c (.v (.bool r0)))) [])
    | _ => False, false⟩
def cl_spec_validKeys : List (FuncId × Con) := [(52, con_spec_inRange), (71, con_spec_distinct), (77, con_spec_allIn)]
def an_spec_validKeys : Ann := ⟨[], [], [], []⟩
def cs_spec_validKeys : Cons := ⟨cl_spec_validKeys, [], 0, [], [], []⟩
def fin_spec_validKeys (list0 : List Int) (room1 : Int) (kk : AV → List A1 → Prop) : Kt := fin TT con_spec_validKeys Try.f70.results.toList [.c .sc] [.c (.ro .int list0), .c (.v (.int .i64 room1))] kk
theorem g_spec_validKeys (list0 : List Int) (room1 : Int) (kk : AV → List A1 → Prop) :
    ev TT cs_spec_validKeys 21 an_spec_validKeys (Try.f70.body.getD .skip) (st0 con_spec_validKeys [.c (.ro .int list0), .c (.v (.int .i64 room1))]) (fin TT con_spec_validKeys Try.f70.results.toList [.c .sc] [.c (.ro .int list0), .c (.v (.int .i64 room1))] kk) = G_spec_validKeys list0 room1 (fun r0 => kk (.one (.c (.v (.bool r0)))) []) := by kernel_rfl
theorem e_spec_validKeys (list0 : List Int) (room1 : Int) (kk : AV → List A1 → Prop) :
    ev TT cs_spec_validKeys 21 an_spec_validKeys (Try.f70.body.getD .skip) (st0 con_spec_validKeys [.c (.ro .int list0), .c (.v (.int .i64 room1))]) (fin TT con_spec_validKeys Try.f70.results.toList [.c .sc] [.c (.ro .int list0), .c (.v (.int .i64 room1))] kk) = S_spec_validKeys list0 room1 (fun r0 => kk (.one (.c (.v (.bool r0)))) []) := by
  rw [g_spec_validKeys]
  rfl
theorem clok_spec_validKeys : ConOK Try.prog cl_spec_validKeys := consCons h_spec_inRange ⟨Try.f52, Try.func52, by kernel_rfl, ne_of_beq (by kernel_rfl)⟩ (consCons h_spec_distinct ⟨Try.f71, Try.func71, by kernel_rfl, ne_of_beq (by kernel_rfl)⟩ (consCons h_spec_allIn ⟨Try.f77, Try.func77, by kernel_rfl, ne_of_beq (by kernel_rfl)⟩ (consNil)))
theorem cok_spec_validKeys : ConsOK Try.prog 21 cs_spec_validKeys := ⟨clok_spec_validKeys, inlNil, ovNil⟩
theorem i_spec_validKeys {vs : List A1} {kk : AV → List A1 → Prop} {motive : List A1 → Prop} (h : con_spec_validKeys.F vs kk) (H : ∀ (list0 : List Int) (room1 : Int), F_spec_validKeys list0 room1 (fun r0 => kk (.one (.c (.v (.bool r0)))) []) → motive [.c (.ro .int list0), .c (.v (.int .i64 room1))]) : motive vs := by
  unfold con_spec_validKeys at h
  dsimp only at h
  split at h
  · exact H _ _ h
  · exact h.elim
theorem h_spec_validKeys : Holds Try.prog 70 con_spec_validKeys := by
  refine holds_of_ev (rt := [.c .sc]) (T := TT) (Γ := cs_spec_validKeys) (an := an_spec_validKeys) (N := 21) (c := Try.f70.body.getD .skip) Try.func70 (by kernel_rfl) Try.ntmps70 (by decide) (by decide) mixed tabOK cok_spec_validKeys (by kernel_rfl) ?_
  intro vs kk _ hF
  exact i_spec_validKeys (motive := fun vs => Goes (ev TT cs_spec_validKeys 21 an_spec_validKeys (Try.f70.body.getD .skip) (st0 con_spec_validKeys vs) (fin TT con_spec_validKeys Try.f70.results.toList [.c .sc] vs kk))) hF (fun list0 room1 hF => goes_of (e_spec_validKeys list0 room1 kk) (F_spec_validKeys_S hF))
def con_spec_validTiers : Con := ⟨[.rd], true, [.agg [.sc, .sc, .sl .int, .sl .int]], fun vs k => match vs with
    | [.agg [.v (.int .i64 t0Small), .v (.int .i64 t0Large), .ro .int t0Near, .ro .int t0Far]] => F_spec_validTiers t0Small t0Large t0Near t0Far (fun r0 => k (.one (.c (.v (.bool r0)))) [])
    | _ => False, false⟩
def cl_spec_validTiers : List (FuncId × Con) := [(52, con_spec_inRange), (62, con_spec_copyInts), (70, con_spec_validKeys), (71, con_spec_distinct)]
def an_spec_validTiers : Ann := ⟨[(1, .take 0 (.take 1 (.alt 2 (.take 3 (.take 4 (.take 5 (.alt 6 (.take 7 (.take 8 (.take 9 (.take 10 (.take 11 (.take 12 (.alt 13 (.take 14 (.take 15 (.take 16 (.take 17 (.take 18 (.take 19 (.alt 20 (.take 21 (.take 22 (.take 23 (.take 24 (.take 26 (.take 27 (.alt 25 (.alt 28 (.alt 29 (.take 30 (.take 31 (.done))) (.none)) (.none)) (.none)))))))) (.none)))))))) (.none)))))))) (.none))))) (.none))), [16])], [], [], []⟩
def cs_spec_validTiers : Cons := ⟨cl_spec_validTiers, [], 0, [], [], []⟩
def fin_spec_validTiers (t0Small : Int) (t0Large : Int) (t0Near : List Int) (t0Far : List Int) (kk : AV → List A1 → Prop) : Kt := fin TT con_spec_validTiers Try.f44.results.toList [.c .sc] [.agg [.v (.int .i64 t0Small), .v (.int .i64 t0Large), .ro .int t0Near, .ro .int t0Far]] kk
theorem g_spec_validTiers (t0Small : Int) (t0Large : Int) (t0Near : List Int) (t0Far : List Int) (kk : AV → List A1 → Prop) :
    ev TT cs_spec_validTiers 34 an_spec_validTiers (Try.f44.body.getD .skip) (st0 con_spec_validTiers [.agg [.v (.int .i64 t0Small), .v (.int .i64 t0Large), .ro .int t0Near, .ro .int t0Far]]) (fin TT con_spec_validTiers Try.f44.results.toList [.c .sc] [.agg [.v (.int .i64 t0Small), .v (.int .i64 t0Large), .ro .int t0Near, .ro .int t0Far]] kk) = G_spec_validTiers t0Small t0Large t0Near t0Far (fun r0 => kk (.one (.c (.v (.bool r0)))) []) := by kernel_rfl
theorem e_spec_validTiers (t0Small : Int) (t0Large : Int) (t0Near : List Int) (t0Far : List Int) (kk : AV → List A1 → Prop) :
    ev TT cs_spec_validTiers 34 an_spec_validTiers (Try.f44.body.getD .skip) (st0 con_spec_validTiers [.agg [.v (.int .i64 t0Small), .v (.int .i64 t0Large), .ro .int t0Near, .ro .int t0Far]]) (fin TT con_spec_validTiers Try.f44.results.toList [.c .sc] [.agg [.v (.int .i64 t0Small), .v (.int .i64 t0Large), .ro .int t0Near, .ro .int t0Far]] kk) = S_spec_validTiers t0Small t0Large t0Near t0Far (fun r0 => kk (.one (.c (.v (.bool r0)))) []) := by
  rw [g_spec_validTiers]
  rw [G_spec_validTiers_eq]
  rfl
theorem clok_spec_validTiers : ConOK Try.prog cl_spec_validTiers := consCons h_spec_inRange ⟨Try.f52, Try.func52, by kernel_rfl, ne_of_beq (by kernel_rfl)⟩ (consCons h_spec_copyInts ⟨Try.f62, Try.func62, by kernel_rfl, ne_of_beq (by kernel_rfl)⟩ (consCons h_spec_validKeys ⟨Try.f70, Try.func70, by kernel_rfl, ne_of_beq (by kernel_rfl)⟩ (consCons h_spec_distinct ⟨Try.f71, Try.func71, by kernel_rfl, ne_of_beq (by kernel_rfl)⟩ (consNil))))
theorem cok_spec_validTiers : ConsOK Try.prog 34 cs_spec_validTiers := ⟨clok_spec_validTiers, inlNil, ovNil⟩
theorem i_spec_validTiers {vs : List A1} {kk : AV → List A1 → Prop} {motive : List A1 → Prop} (h : con_spec_validTiers.F vs kk) (H : ∀ (t0Small : Int) (t0Large : Int) (t0Near : List Int) (t0Far : List Int), F_spec_validTiers t0Small t0Large t0Near t0Far (fun r0 => kk (.one (.c (.v (.bool r0)))) []) → motive [.agg [.v (.int .i64 t0Small), .v (.int .i64 t0Large), .ro .int t0Near, .ro .int t0Far]]) : motive vs := by
  unfold con_spec_validTiers at h
  dsimp only at h
  split at h
  · exact H _ _ _ _ h
  · exact h.elim
theorem h_spec_validTiers : Holds Try.prog 44 con_spec_validTiers := by
  refine holds_of_ev (rt := [.c .sc]) (T := TT) (Γ := cs_spec_validTiers) (an := an_spec_validTiers) (N := 34) (c := Try.f44.body.getD .skip) Try.func44 (by kernel_rfl) Try.ntmps44 (by decide) (by decide) mixed tabOK cok_spec_validTiers (by kernel_rfl) ?_
  intro vs kk _ hF
  exact i_spec_validTiers (motive := fun vs => Goes (ev TT cs_spec_validTiers 34 an_spec_validTiers (Try.f44.body.getD .skip) (st0 con_spec_validTiers vs) (fin TT con_spec_validTiers Try.f44.results.toList [.c .sc] vs kk))) hF (fun t0Small t0Large t0Near t0Far hF => goes_of (e_spec_validTiers t0Small t0Large t0Near t0Far kk) (F_spec_validTiers_S hF))
def con_spec_ValidTiers : Con := ⟨[.rd], true, [.agg [.sc, .sc, .sl .int, .sl .int]], fun vs k => match vs with
    | [.agg [.v (.int .i64 t0Small), .v (.int .i64 t0Large), .ro .int t0Near, .ro .int t0Far]] => F_spec_ValidTiers t0Small t0Large t0Near t0Far (fun r0 => k (.one (.c (.v (.bool r0)))) [])
    | _ => False, false⟩
def cl_spec_ValidTiers : List (FuncId × Con) := [(44, con_spec_validTiers)]
def an_spec_ValidTiers : Ann := ⟨[], [], [], []⟩
def cs_spec_ValidTiers : Cons := ⟨cl_spec_ValidTiers, [], 0, [], [], []⟩
def fin_spec_ValidTiers (t0Small : Int) (t0Large : Int) (t0Near : List Int) (t0Far : List Int) (kk : AV → List A1 → Prop) : Kt := fin TT con_spec_ValidTiers Try.f15.results.toList [.c .sc] [.agg [.v (.int .i64 t0Small), .v (.int .i64 t0Large), .ro .int t0Near, .ro .int t0Far]] kk
theorem g_spec_ValidTiers (t0Small : Int) (t0Large : Int) (t0Near : List Int) (t0Far : List Int) (kk : AV → List A1 → Prop) :
    ev TT cs_spec_ValidTiers 5 an_spec_ValidTiers (Try.f15.body.getD .skip) (st0 con_spec_ValidTiers [.agg [.v (.int .i64 t0Small), .v (.int .i64 t0Large), .ro .int t0Near, .ro .int t0Far]]) (fin TT con_spec_ValidTiers Try.f15.results.toList [.c .sc] [.agg [.v (.int .i64 t0Small), .v (.int .i64 t0Large), .ro .int t0Near, .ro .int t0Far]] kk) = G_spec_ValidTiers t0Small t0Large t0Near t0Far (fun r0 => kk (.one (.c (.v (.bool r0)))) []) := by kernel_rfl
theorem e_spec_ValidTiers (t0Small : Int) (t0Large : Int) (t0Near : List Int) (t0Far : List Int) (kk : AV → List A1 → Prop) :
    ev TT cs_spec_ValidTiers 5 an_spec_ValidTiers (Try.f15.body.getD .skip) (st0 con_spec_ValidTiers [.agg [.v (.int .i64 t0Small), .v (.int .i64 t0Large), .ro .int t0Near, .ro .int t0Far]]) (fin TT con_spec_ValidTiers Try.f15.results.toList [.c .sc] [.agg [.v (.int .i64 t0Small), .v (.int .i64 t0Large), .ro .int t0Near, .ro .int t0Far]] kk) = S_spec_ValidTiers t0Small t0Large t0Near t0Far (fun r0 => kk (.one (.c (.v (.bool r0)))) []) := by
  rw [g_spec_ValidTiers]
  rfl
theorem clok_spec_ValidTiers : ConOK Try.prog cl_spec_ValidTiers := consCons h_spec_validTiers ⟨Try.f44, Try.func44, by kernel_rfl, ne_of_beq (by kernel_rfl)⟩ (consNil)
theorem cok_spec_ValidTiers : ConsOK Try.prog 5 cs_spec_ValidTiers := ⟨clok_spec_ValidTiers, inlNil, ovNil⟩
theorem i_spec_ValidTiers {vs : List A1} {kk : AV → List A1 → Prop} {motive : List A1 → Prop} (h : con_spec_ValidTiers.F vs kk) (H : ∀ (t0Small : Int) (t0Large : Int) (t0Near : List Int) (t0Far : List Int), F_spec_ValidTiers t0Small t0Large t0Near t0Far (fun r0 => kk (.one (.c (.v (.bool r0)))) []) → motive [.agg [.v (.int .i64 t0Small), .v (.int .i64 t0Large), .ro .int t0Near, .ro .int t0Far]]) : motive vs := by
  unfold con_spec_ValidTiers at h
  dsimp only at h
  split at h
  · exact H _ _ _ _ h
  · exact h.elim
theorem h_spec_ValidTiers : Holds Try.prog 15 con_spec_ValidTiers := by
  refine holds_of_ev (rt := [.c .sc]) (T := TT) (Γ := cs_spec_ValidTiers) (an := an_spec_ValidTiers) (N := 5) (c := Try.f15.body.getD .skip) Try.func15 (by kernel_rfl) Try.ntmps15 (by decide) (by decide) mixed tabOK cok_spec_ValidTiers (by kernel_rfl) ?_
  intro vs kk _ hF
  exact i_spec_ValidTiers (motive := fun vs => Goes (ev TT cs_spec_ValidTiers 5 an_spec_ValidTiers (Try.f15.body.getD .skip) (st0 con_spec_ValidTiers vs) (fin TT con_spec_ValidTiers Try.f15.results.toList [.c .sc] vs kk))) hF (fun t0Small t0Large t0Near t0Far hF => goes_of (e_spec_ValidTiers t0Small t0Large t0Near t0Far kk) (F_spec_ValidTiers_S hF))
def con_laws_FnValidTiers : Con := ⟨[.rd], true, [.c (.sl .u8)], fun vs k => match vs with
    | [.c (.ro .u8 code0)] => F_laws_FnValidTiers code0 (fun r0 => k (.one (.c (.v (.bool r0)))) [])
    | _ => False, false⟩
def cl_laws_FnValidTiers : List (FuncId × Con) := [(13, con_spec_DrawValidTiers), (14, con_impl_ValidTiers), (15, con_spec_ValidTiers)]
def an_laws_FnValidTiers : Ann := ⟨[], [], [], []⟩
def cs_laws_FnValidTiers : Cons := ⟨cl_laws_FnValidTiers, [], 0, [], [], []⟩
def fin_laws_FnValidTiers (code0 : List Int) (kk : AV → List A1 → Prop) : Kt := fin TT con_laws_FnValidTiers Try.f3.results.toList [.c .sc] [.c (.ro .u8 code0)] kk
theorem g_laws_FnValidTiers (code0 : List Int) (kk : AV → List A1 → Prop) :
    ev TT cs_laws_FnValidTiers 29 an_laws_FnValidTiers (Try.f3.body.getD .skip) (st0 con_laws_FnValidTiers [.c (.ro .u8 code0)]) (fin TT con_laws_FnValidTiers Try.f3.results.toList [.c .sc] [.c (.ro .u8 code0)] kk) = G_laws_FnValidTiers code0 (fun r0 => kk (.one (.c (.v (.bool r0)))) []) := by kernel_rfl
theorem e_laws_FnValidTiers (code0 : List Int) (kk : AV → List A1 → Prop) :
    ev TT cs_laws_FnValidTiers 29 an_laws_FnValidTiers (Try.f3.body.getD .skip) (st0 con_laws_FnValidTiers [.c (.ro .u8 code0)]) (fin TT con_laws_FnValidTiers Try.f3.results.toList [.c .sc] [.c (.ro .u8 code0)] kk) = S_laws_FnValidTiers code0 (fun r0 => kk (.one (.c (.v (.bool r0)))) []) := by
  rw [g_laws_FnValidTiers]
  rfl
theorem clok_laws_FnValidTiers : ConOK Try.prog cl_laws_FnValidTiers := consCons h_spec_DrawValidTiers ⟨Try.f13, Try.func13, by kernel_rfl, ne_of_beq (by kernel_rfl)⟩ (consCons h_impl_ValidTiers ⟨Try.f14, Try.func14, by kernel_rfl, ne_of_beq (by kernel_rfl)⟩ (consCons h_spec_ValidTiers ⟨Try.f15, Try.func15, by kernel_rfl, ne_of_beq (by kernel_rfl)⟩ (consNil)))
theorem cok_laws_FnValidTiers : ConsOK Try.prog 29 cs_laws_FnValidTiers := ⟨clok_laws_FnValidTiers, inlNil, ovNil⟩
theorem i_laws_FnValidTiers {vs : List A1} {kk : AV → List A1 → Prop} {motive : List A1 → Prop} (h : con_laws_FnValidTiers.F vs kk) (H : ∀ (code0 : List Int), F_laws_FnValidTiers code0 (fun r0 => kk (.one (.c (.v (.bool r0)))) []) → motive [.c (.ro .u8 code0)]) : motive vs := by
  unfold con_laws_FnValidTiers at h
  dsimp only at h
  split at h
  · exact H _ h
  · exact h.elim
theorem h_laws_FnValidTiers : Holds Try.prog 3 con_laws_FnValidTiers := by
  refine holds_of_ev (rt := [.c .sc]) (T := TT) (Γ := cs_laws_FnValidTiers) (an := an_laws_FnValidTiers) (N := 29) (c := Try.f3.body.getD .skip) Try.func3 (by kernel_rfl) Try.ntmps3 (by decide) (by decide) mixed tabOK cok_laws_FnValidTiers (by kernel_rfl) ?_
  intro vs kk _ hF
  exact i_laws_FnValidTiers (motive := fun vs => Goes (ev TT cs_laws_FnValidTiers 29 an_laws_FnValidTiers (Try.f3.body.getD .skip) (st0 con_laws_FnValidTiers vs) (fin TT con_laws_FnValidTiers Try.f3.results.toList [.c .sc] vs kk))) hF (fun code0 hF => goes_of (e_laws_FnValidTiers code0 kk) (F_laws_FnValidTiers_S hF))
end Go.Ev
