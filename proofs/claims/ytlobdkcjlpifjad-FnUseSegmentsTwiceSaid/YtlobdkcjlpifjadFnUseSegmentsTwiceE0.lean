/- What the evaluator gives for these functions: their contracts. No statement is proved here. -/
import Derived.Test.YtlobdkcjlpifjadFnUseSegmentsTwiceP0
import Derived.Test.YtlobdkcjlpifjadTt
namespace Go.Ev
set_option linter.unusedVariables false
set_option maxRecDepth 100000
open Go Go.Proofs
def con_spec_newReader : Con := ⟨[.rd], true, [.c (.sl .u8)], fun vs k => match vs with
    | [.c (.ro .u8 code0)] => F_spec_newReader code0 (fun r0 r1 => k (.one (.agg [.ro .u8 r0, .v (.int .i64 r1)])) [])
    | _ => False, true⟩
def cl_spec_newReader : List (FuncId × Con) := []
def an_spec_newReader : Ann := ⟨[], [], []⟩
def cs_spec_newReader : Cons := ⟨cl_spec_newReader, [], 0, [], []⟩
def fin_spec_newReader (code0 : List Int) (kk : AV → List A1 → Prop) : Kt := finB Try.f55.results.toList [.sl .u8, .sc] kk
theorem g_spec_newReader (code0 : List Int) (kk : AV → List A1 → Prop) :
    ev TT cs_spec_newReader 11 an_spec_newReader (Try.f55.body.getD .skip) (st0 con_spec_newReader [.c (.ro .u8 code0)]) (finB Try.f55.results.toList [.sl .u8, .sc] kk) = G_spec_newReader code0 (fun r0 r1 => kk (.one (.agg [.ro .u8 r0, .v (.int .i64 r1)])) []) := by kernel_rfl
theorem e_spec_newReader (code0 : List Int) (kk : AV → List A1 → Prop) :
    ev TT cs_spec_newReader 11 an_spec_newReader (Try.f55.body.getD .skip) (st0 con_spec_newReader [.c (.ro .u8 code0)]) (finB Try.f55.results.toList [.sl .u8, .sc] kk) = S_spec_newReader code0 (fun r0 r1 => kk (.one (.agg [.ro .u8 r0, .v (.int .i64 r1)])) []) := by
  rw [g_spec_newReader]
  rfl
theorem clok_spec_newReader : ConOK Try.prog cl_spec_newReader := consNil
theorem cok_spec_newReader : ConsOK Try.prog 11 cs_spec_newReader := ⟨clok_spec_newReader, inlNil⟩
theorem i_spec_newReader {vs : List A1} {kk : AV → List A1 → Prop} {motive : List A1 → Prop} (h : con_spec_newReader.F vs kk) (H : ∀ (code0 : List Int), F_spec_newReader code0 (fun r0 r1 => kk (.one (.agg [.ro .u8 r0, .v (.int .i64 r1)])) []) → motive [.c (.ro .u8 code0)]) : motive vs := by
  unfold con_spec_newReader at h
  dsimp only at h
  split at h
  · exact H _ h
  · exact h.elim
theorem h_spec_newReader : HoldsB Try.prog 55 con_spec_newReader := by
  refine holdsB_of_ev (ts := [.sl .u8, .sc]) (T := TT) (Γ := cs_spec_newReader) (an := an_spec_newReader) (N := 11) (c := Try.f55.body.getD .skip) Try.func55 (by kernel_rfl) Try.ntmps55 (by decide) (by decide) mixed tabOK cok_spec_newReader (by kernel_rfl) ?_
  intro vs kk _ hF
  exact i_spec_newReader (motive := fun vs => Goes (ev TT cs_spec_newReader 11 an_spec_newReader (Try.f55.body.getD .skip) (st0 con_spec_newReader vs) (finB Try.f55.results.toList [.sl .u8, .sc] kk))) hF (fun code0 hF => goes_of (e_spec_newReader code0 kk) (F_spec_newReader_S hF))
def con_spec_reader_pick : Con := ⟨[.mu, .rd], true, [.ptr [.sl .u8, .sc], .c (.sc)], fun vs k => match vs with
    | [.ptr [.ro .u8 r0b, .v (.int .i64 r0p)], .c (.v (.int .i64 n1))] => F_spec_reader_pick r0b r0p n1 (fun r0 r1 r2 => k (.one (.c (.v (.int .i64 r0)))) [.ptr [.ro .u8 r1, .v (.int .i64 r2)]])
    | _ => False, false⟩
def cl_spec_reader_pick : List (FuncId × Con) := []
def an_spec_reader_pick : Ann := ⟨[(7, .take 0 (.take 1 (.take 2 (.take 3 (.take 4 (.take 5 (.take 6 (.take 7 (.take 8 (.take 9 (.take 10 (.take 11 (.take 12 (.take 13 (.take 14 (.take 15 (.take 16 (.take 17 (.take 18 (.take 19 (.take 20 (.take 21 (.take 22 (.take 23 (.take 24 (.take 25 (.take 26 (.take 27 (.take 28 (.take 29 (.take 30 (.take 31 (.take 32 (.take 33 (.take 34 (.take 35 (.take 36 (.take 37 (.take 38 (.take 39 (.take 40 (.take 41 (.take 42 (.take 43 (.take 44 (.take 45 (.done)))))))))))))))))))))))))))))))))))))))))))))), [100000])], [], []⟩
def cs_spec_reader_pick : Cons := ⟨cl_spec_reader_pick, [], 0, [], []⟩
def fin_spec_reader_pick (r0b : List Int) (r0p : Int) (n1 : Int) (kk : AV → List A1 → Prop) : Kt := fin TT con_spec_reader_pick Try.f80.results.toList [.c .sc] [.ptr [.ro .u8 r0b, .v (.int .i64 r0p)], .c (.v (.int .i64 n1))] kk
theorem g_spec_reader_pick (r0b : List Int) (r0p : Int) (n1 : Int) (kk : AV → List A1 → Prop) :
    ev TT cs_spec_reader_pick 99 an_spec_reader_pick (Try.f80.body.getD .skip) (st0 con_spec_reader_pick [.ptr [.ro .u8 r0b, .v (.int .i64 r0p)], .c (.v (.int .i64 n1))]) (fin TT con_spec_reader_pick Try.f80.results.toList [.c .sc] [.ptr [.ro .u8 r0b, .v (.int .i64 r0p)], .c (.v (.int .i64 n1))] kk) = G_spec_reader_pick r0b r0p n1 (fun r0 r1 r2 => kk (.one (.c (.v (.int .i64 r0)))) [.ptr [.ro .u8 r1, .v (.int .i64 r2)]]) := by kernel_rfl
theorem e_spec_reader_pick (r0b : List Int) (r0p : Int) (n1 : Int) (kk : AV → List A1 → Prop) :
    ev TT cs_spec_reader_pick 99 an_spec_reader_pick (Try.f80.body.getD .skip) (st0 con_spec_reader_pick [.ptr [.ro .u8 r0b, .v (.int .i64 r0p)], .c (.v (.int .i64 n1))]) (fin TT con_spec_reader_pick Try.f80.results.toList [.c .sc] [.ptr [.ro .u8 r0b, .v (.int .i64 r0p)], .c (.v (.int .i64 n1))] kk) = S_spec_reader_pick r0b r0p n1 (fun r0 r1 r2 => kk (.one (.c (.v (.int .i64 r0)))) [.ptr [.ro .u8 r1, .v (.int .i64 r2)]]) := by
  rw [g_spec_reader_pick]
  rfl
theorem clok_spec_reader_pick : ConOK Try.prog cl_spec_reader_pick := consNil
theorem cok_spec_reader_pick : ConsOK Try.prog 99 cs_spec_reader_pick := ⟨clok_spec_reader_pick, inlNil⟩
theorem i_spec_reader_pick {vs : List A1} {kk : AV → List A1 → Prop} {motive : List A1 → Prop} (h : con_spec_reader_pick.F vs kk) (H : ∀ (r0b : List Int) (r0p : Int) (n1 : Int), F_spec_reader_pick r0b r0p n1 (fun r0 r1 r2 => kk (.one (.c (.v (.int .i64 r0)))) [.ptr [.ro .u8 r1, .v (.int .i64 r2)]]) → motive [.ptr [.ro .u8 r0b, .v (.int .i64 r0p)], .c (.v (.int .i64 n1))]) : motive vs := by
  unfold con_spec_reader_pick at h
  dsimp only at h
  split at h
  · exact H _ _ _ h
  · exact h.elim
theorem h_spec_reader_pick : Holds Try.prog 80 con_spec_reader_pick := by
  refine holds_of_ev (rt := [.c .sc]) (T := TT) (Γ := cs_spec_reader_pick) (an := an_spec_reader_pick) (N := 99) (c := Try.f80.body.getD .skip) Try.func80 (by kernel_rfl) Try.ntmps80 (by decide) (by decide) mixed tabOK cok_spec_reader_pick (by kernel_rfl) ?_
  intro vs kk _ hF
  exact i_spec_reader_pick (motive := fun vs => Goes (ev TT cs_spec_reader_pick 99 an_spec_reader_pick (Try.f80.body.getD .skip) (st0 con_spec_reader_pick vs) (fin TT con_spec_reader_pick Try.f80.results.toList [.c .sc] vs kk))) hF (fun r0b r0p n1 hF => goes_of (e_spec_reader_pick r0b r0p n1 kk) (F_spec_reader_pick_S hF))
def con_spec_reader_one : Con := ⟨[.mu, .rd], true, [.ptr [.sl .u8, .sc], .c (.sl .int)], fun vs k => match vs with
    | [.ptr [.ro .u8 r0b, .v (.int .i64 r0p)], .c (.ro .int list1)] => F_spec_reader_one r0b r0p list1 (fun r0 r1 r2 => k (.one (.c (.v (.int .i64 r0)))) [.ptr [.ro .u8 r1, .v (.int .i64 r2)]])
    | _ => False, false⟩
def cl_spec_reader_one : List (FuncId × Con) := [(80, con_spec_reader_pick)]
def an_spec_reader_one : Ann := ⟨[], [], []⟩
def cs_spec_reader_one : Cons := ⟨cl_spec_reader_one, [], 0, [], []⟩
def fin_spec_reader_one (r0b : List Int) (r0p : Int) (list1 : List Int) (kk : AV → List A1 → Prop) : Kt := fin TT con_spec_reader_one Try.f79.results.toList [.c .sc] [.ptr [.ro .u8 r0b, .v (.int .i64 r0p)], .c (.ro .int list1)] kk
theorem g_spec_reader_one (r0b : List Int) (r0p : Int) (list1 : List Int) (kk : AV → List A1 → Prop) :
    ev TT cs_spec_reader_one 12 an_spec_reader_one (Try.f79.body.getD .skip) (st0 con_spec_reader_one [.ptr [.ro .u8 r0b, .v (.int .i64 r0p)], .c (.ro .int list1)]) (fin TT con_spec_reader_one Try.f79.results.toList [.c .sc] [.ptr [.ro .u8 r0b, .v (.int .i64 r0p)], .c (.ro .int list1)] kk) = G_spec_reader_one r0b r0p list1 (fun r0 r1 r2 => kk (.one (.c (.v (.int .i64 r0)))) [.ptr [.ro .u8 r1, .v (.int .i64 r2)]]) := by kernel_rfl
theorem e_spec_reader_one (r0b : List Int) (r0p : Int) (list1 : List Int) (kk : AV → List A1 → Prop) :
    ev TT cs_spec_reader_one 12 an_spec_reader_one (Try.f79.body.getD .skip) (st0 con_spec_reader_one [.ptr [.ro .u8 r0b, .v (.int .i64 r0p)], .c (.ro .int list1)]) (fin TT con_spec_reader_one Try.f79.results.toList [.c .sc] [.ptr [.ro .u8 r0b, .v (.int .i64 r0p)], .c (.ro .int list1)] kk) = S_spec_reader_one r0b r0p list1 (fun r0 r1 r2 => kk (.one (.c (.v (.int .i64 r0)))) [.ptr [.ro .u8 r1, .v (.int .i64 r2)]]) := by
  rw [g_spec_reader_one]
  rfl
theorem clok_spec_reader_one : ConOK Try.prog cl_spec_reader_one := consCons h_spec_reader_pick ⟨Try.f80, Try.func80, by kernel_rfl, ne_of_beq (by kernel_rfl)⟩ (consNil)
theorem cok_spec_reader_one : ConsOK Try.prog 12 cs_spec_reader_one := ⟨clok_spec_reader_one, inlNil⟩
theorem i_spec_reader_one {vs : List A1} {kk : AV → List A1 → Prop} {motive : List A1 → Prop} (h : con_spec_reader_one.F vs kk) (H : ∀ (r0b : List Int) (r0p : Int) (list1 : List Int), F_spec_reader_one r0b r0p list1 (fun r0 r1 r2 => kk (.one (.c (.v (.int .i64 r0)))) [.ptr [.ro .u8 r1, .v (.int .i64 r2)]]) → motive [.ptr [.ro .u8 r0b, .v (.int .i64 r0p)], .c (.ro .int list1)]) : motive vs := by
  unfold con_spec_reader_one at h
  dsimp only at h
  split at h
  · exact H _ _ _ h
  · exact h.elim
theorem h_spec_reader_one : Holds Try.prog 79 con_spec_reader_one := by
  refine holds_of_ev (rt := [.c .sc]) (T := TT) (Γ := cs_spec_reader_one) (an := an_spec_reader_one) (N := 12) (c := Try.f79.body.getD .skip) Try.func79 (by kernel_rfl) Try.ntmps79 (by decide) (by decide) mixed tabOK cok_spec_reader_one (by kernel_rfl) ?_
  intro vs kk _ hF
  exact i_spec_reader_one (motive := fun vs => Goes (ev TT cs_spec_reader_one 12 an_spec_reader_one (Try.f79.body.getD .skip) (st0 con_spec_reader_one vs) (fin TT con_spec_reader_one Try.f79.results.toList [.c .sc] vs kk))) hF (fun r0b r0p list1 hF => goes_of (e_spec_reader_one r0b r0p list1 kk) (F_spec_reader_one_S hF))
def con_spec_copyInts : Con := ⟨[.rd], true, [.c (.sl .int)], fun vs k => match vs with
    | [.c (.ro .int list0)] => F_spec_copyInts list0 (fun r0 => k (.one (.c (.ro .int r0))) [])
    | _ => False, false⟩
def cl_spec_copyInts : List (FuncId × Con) := []
def an_spec_copyInts : Ann := ⟨[], [], []⟩
def cs_spec_copyInts : Cons := ⟨cl_spec_copyInts, [], 0, [], []⟩
def fin_spec_copyInts (list0 : List Int) (kk : AV → List A1 → Prop) : Kt := fin TT con_spec_copyInts Try.f68.results.toList [.c (.sl .int)] [.c (.ro .int list0)] kk
theorem g_spec_copyInts (list0 : List Int) (kk : AV → List A1 → Prop) :
    ev TT cs_spec_copyInts 6 an_spec_copyInts (Try.f68.body.getD .skip) (st0 con_spec_copyInts [.c (.ro .int list0)]) (fin TT con_spec_copyInts Try.f68.results.toList [.c (.sl .int)] [.c (.ro .int list0)] kk) = G_spec_copyInts list0 (fun r0 => kk (.one (.c (.ro .int r0))) []) := by kernel_rfl
theorem e_spec_copyInts (list0 : List Int) (kk : AV → List A1 → Prop) :
    ev TT cs_spec_copyInts 6 an_spec_copyInts (Try.f68.body.getD .skip) (st0 con_spec_copyInts [.c (.ro .int list0)]) (fin TT con_spec_copyInts Try.f68.results.toList [.c (.sl .int)] [.c (.ro .int list0)] kk) = S_spec_copyInts list0 (fun r0 => kk (.one (.c (.ro .int r0))) []) := by
  rw [g_spec_copyInts]
  rfl
theorem clok_spec_copyInts : ConOK Try.prog cl_spec_copyInts := consNil
theorem cok_spec_copyInts : ConsOK Try.prog 6 cs_spec_copyInts := ⟨clok_spec_copyInts, inlNil⟩
theorem i_spec_copyInts {vs : List A1} {kk : AV → List A1 → Prop} {motive : List A1 → Prop} (h : con_spec_copyInts.F vs kk) (H : ∀ (list0 : List Int), F_spec_copyInts list0 (fun r0 => kk (.one (.c (.ro .int r0))) []) → motive [.c (.ro .int list0)]) : motive vs := by
  unfold con_spec_copyInts at h
  dsimp only at h
  split at h
  · exact H _ h
  · exact h.elim
theorem h_spec_copyInts : Holds Try.prog 68 con_spec_copyInts := by
  refine holds_of_ev (rt := [.c (.sl .int)]) (T := TT) (Γ := cs_spec_copyInts) (an := an_spec_copyInts) (N := 6) (c := Try.f68.body.getD .skip) Try.func68 (by kernel_rfl) Try.ntmps68 (by decide) (by decide) mixed tabOK cok_spec_copyInts (by kernel_rfl) ?_
  intro vs kk _ hF
  exact i_spec_copyInts (motive := fun vs => Goes (ev TT cs_spec_copyInts 6 an_spec_copyInts (Try.f68.body.getD .skip) (st0 con_spec_copyInts vs) (fin TT con_spec_copyInts Try.f68.results.toList [.c (.sl .int)] vs kk))) hF (fun list0 hF => goes_of (e_spec_copyInts list0 kk) (F_spec_copyInts_S hF))
def con_spec_placeOf : Con := ⟨[.rd, .rd], true, [.c (.sl .int), .c (.sc)], fun vs k => match vs with
    | [.c (.ro .int list0), .c (.v (.int .i64 n1))] => F_spec_placeOf list0 n1 (fun r0 => k (.one (.c (.v (.int .i64 r0)))) [])
    | _ => False, false⟩
def cl_spec_placeOf : List (FuncId × Con) := []
def nm0_spec_placeOf : List NStep := [.keep [0, 1, 5] []]
def an_spec_placeOf : Ann := ⟨[], [(2, nm0_spec_placeOf)], []⟩
def cs_spec_placeOf : Cons := ⟨cl_spec_placeOf, [], 0, [], []⟩
def can0_spec_placeOf (list0 : List Int) (n1 : Int) (xi5 : Int) : St := ⟨[(0, .one (.c (.ro .int list0))), (1, .one (.c (.v (.int .i64 n1)))), (5, .one (.c (.v (.int .i64 xi5))))], []⟩
def fin_spec_placeOf (list0 : List Int) (n1 : Int) (kk : AV → List A1 → Prop) : Kt := fin TT con_spec_placeOf Try.f51.results.toList [.c .sc] [.c (.ro .int list0), .c (.v (.int .i64 n1))] kk
def kt0_spec_placeOf (kf : Kt) : Kt := blockK 0 (seqK (evF TT cs_spec_placeOf 19 an_spec_placeOf Try.f51 [1, 1]) (kf))
theorem r0_spec_placeOf (list0 : List Int) (n1 : Int) (kk : AV → List A1 → Prop) (n : Nat) (xi5 : Int) :
    iter (evF TT cs_spec_placeOf 19 an_spec_placeOf Try.f51 [1, 0, 1, 0, 0]) nm0_spec_placeOf (kt0_spec_placeOf (fin_spec_placeOf list0 n1 kk)) (n + 1) (can0_spec_placeOf list0 n1 xi5) = T0_spec_placeOf list0 n1 xi5 (fun r0 => kk (.one (.c (.v (.int .i64 r0)))) []) (fun xi5 => iter (evF TT cs_spec_placeOf 19 an_spec_placeOf Try.f51 [1, 0, 1, 0, 0]) nm0_spec_placeOf (kt0_spec_placeOf (fin_spec_placeOf list0 n1 kk)) n (can0_spec_placeOf list0 n1 xi5)) := by kernel_rfl
theorem l0_spec_placeOf (list0 : List Int) (n1 : Int) (kk : AV → List A1 → Prop) : ∀ (n : Nat) (xi5 : Int), iter (evF TT cs_spec_placeOf 19 an_spec_placeOf Try.f51 [1, 0, 1, 0, 0]) nm0_spec_placeOf (kt0_spec_placeOf (fin_spec_placeOf list0 n1 kk)) n (can0_spec_placeOf list0 n1 xi5) = L0_spec_placeOf list0 n1 (fun r0 => kk (.one (.c (.v (.int .i64 r0)))) []) n xi5 := by
  intro n
  induction n with
  | zero => intros; rfl
  | succ n ih =>
    intro xi5
    rw [r0_spec_placeOf list0 n1 kk n xi5]
    have hb : (fun xi5 => iter (evF TT cs_spec_placeOf 19 an_spec_placeOf Try.f51 [1, 0, 1, 0, 0]) nm0_spec_placeOf (kt0_spec_placeOf (fin_spec_placeOf list0 n1 kk)) n (can0_spec_placeOf list0 n1 xi5)) = L0_spec_placeOf list0 n1 (fun r0 => kk (.one (.c (.v (.int .i64 r0)))) []) n := by
      funext xi5; exact ih xi5
    rw [hb]
    rfl
theorem g_spec_placeOf (list0 : List Int) (n1 : Int) (kk : AV → List A1 → Prop) :
    ev TT cs_spec_placeOf 19 an_spec_placeOf (Try.f51.body.getD .skip) (st0 con_spec_placeOf [.c (.ro .int list0), .c (.v (.int .i64 n1))]) (fin TT con_spec_placeOf Try.f51.results.toList [.c .sc] [.c (.ro .int list0), .c (.v (.int .i64 n1))] kk) = G_spec_placeOf list0 n1 (fun list0 n1 xi5 => ∃ j, iter (evF TT cs_spec_placeOf 19 an_spec_placeOf Try.f51 [1, 0, 1, 0, 0]) nm0_spec_placeOf (kt0_spec_placeOf (fin_spec_placeOf list0 n1 kk)) j (can0_spec_placeOf list0 n1 xi5)) := by kernel_rfl
theorem e_spec_placeOf (list0 : List Int) (n1 : Int) (kk : AV → List A1 → Prop) :
    ev TT cs_spec_placeOf 19 an_spec_placeOf (Try.f51.body.getD .skip) (st0 con_spec_placeOf [.c (.ro .int list0), .c (.v (.int .i64 n1))]) (fin TT con_spec_placeOf Try.f51.results.toList [.c .sc] [.c (.ro .int list0), .c (.v (.int .i64 n1))] kk) = S_spec_placeOf list0 n1 (fun r0 => kk (.one (.c (.v (.int .i64 r0)))) []) := by
  rw [g_spec_placeOf]
  have hi0 : (fun list0 n1 xi5 => ∃ j, iter (evF TT cs_spec_placeOf 19 an_spec_placeOf Try.f51 [1, 0, 1, 0, 0]) nm0_spec_placeOf (kt0_spec_placeOf (fin_spec_placeOf list0 n1 kk)) j (can0_spec_placeOf list0 n1 xi5)) = (fun list0 n1 xi5 => ∃ j, L0_spec_placeOf list0 n1 (fun r0 => kk (.one (.c (.v (.int .i64 r0)))) []) j xi5) := by
    funext list0 n1 xi5
    refine congrArg Exists (funext fun j => ?_)
    rw [l0_spec_placeOf list0 n1 kk j xi5]
  rw [hi0]
  rfl
theorem clok_spec_placeOf : ConOK Try.prog cl_spec_placeOf := consNil
theorem cok_spec_placeOf : ConsOK Try.prog 19 cs_spec_placeOf := ⟨clok_spec_placeOf, inlNil⟩
theorem i_spec_placeOf {vs : List A1} {kk : AV → List A1 → Prop} {motive : List A1 → Prop} (h : con_spec_placeOf.F vs kk) (H : ∀ (list0 : List Int) (n1 : Int), F_spec_placeOf list0 n1 (fun r0 => kk (.one (.c (.v (.int .i64 r0)))) []) → motive [.c (.ro .int list0), .c (.v (.int .i64 n1))]) : motive vs := by
  unfold con_spec_placeOf at h
  dsimp only at h
  split at h
  · exact H _ _ h
  · exact h.elim
theorem h_spec_placeOf : Holds Try.prog 51 con_spec_placeOf := by
  refine holds_of_ev (rt := [.c .sc]) (T := TT) (Γ := cs_spec_placeOf) (an := an_spec_placeOf) (N := 19) (c := Try.f51.body.getD .skip) Try.func51 (by kernel_rfl) Try.ntmps51 (by decide) (by decide) mixed tabOK cok_spec_placeOf (by kernel_rfl) ?_
  intro vs kk _ hF
  exact i_spec_placeOf (motive := fun vs => Goes (ev TT cs_spec_placeOf 19 an_spec_placeOf (Try.f51.body.getD .skip) (st0 con_spec_placeOf vs) (fin TT con_spec_placeOf Try.f51.results.toList [.c .sc] vs kk))) hF (fun list0 n1 hF => goes_of (e_spec_placeOf list0 n1 kk) (F_spec_placeOf_S hF))
def con_spec_without : Con := ⟨[.rd, .rd], true, [.c (.sl .int), .c (.sc)], fun vs k => match vs with
    | [.c (.ro .int list0), .c (.v (.int .i64 at1))] => F_spec_without list0 at1 (fun r0 => k (.one (.c (.ro .int r0))) [])
    | _ => False, false⟩
def cl_spec_without : List (FuncId × Con) := []
def an_spec_without : Ann := ⟨[(1, .take 1 (.take 2 (.take 3 (.take 5 (.take 6 (.take 7 (.take 8 (.alt 0 (.alt 4 (.alt 9 (.take 10 (.done)) (.none)) (.none)) (.none)))))))), [])], [], []⟩
def cs_spec_without : Cons := ⟨cl_spec_without, [], 0, [], []⟩
def fin_spec_without (list0 : List Int) (at1 : Int) (kk : AV → List A1 → Prop) : Kt := fin TT con_spec_without Try.f85.results.toList [.c (.sl .int)] [.c (.ro .int list0), .c (.v (.int .i64 at1))] kk
theorem g_spec_without (list0 : List Int) (at1 : Int) (kk : AV → List A1 → Prop) :
    ev TT cs_spec_without 15 an_spec_without (Try.f85.body.getD .skip) (st0 con_spec_without [.c (.ro .int list0), .c (.v (.int .i64 at1))]) (fin TT con_spec_without Try.f85.results.toList [.c (.sl .int)] [.c (.ro .int list0), .c (.v (.int .i64 at1))] kk) = G_spec_without list0 at1 (fun r0 => kk (.one (.c (.ro .int r0))) []) := by kernel_rfl
theorem e_spec_without (list0 : List Int) (at1 : Int) (kk : AV → List A1 → Prop) :
    ev TT cs_spec_without 15 an_spec_without (Try.f85.body.getD .skip) (st0 con_spec_without [.c (.ro .int list0), .c (.v (.int .i64 at1))]) (fin TT con_spec_without Try.f85.results.toList [.c (.sl .int)] [.c (.ro .int list0), .c (.v (.int .i64 at1))] kk) = S_spec_without list0 at1 (fun r0 => kk (.one (.c (.ro .int r0))) []) := by
  rw [g_spec_without]
  rw [G_spec_without_eq]
  rfl
theorem clok_spec_without : ConOK Try.prog cl_spec_without := consNil
theorem cok_spec_without : ConsOK Try.prog 15 cs_spec_without := ⟨clok_spec_without, inlNil⟩
theorem i_spec_without {vs : List A1} {kk : AV → List A1 → Prop} {motive : List A1 → Prop} (h : con_spec_without.F vs kk) (H : ∀ (list0 : List Int) (at1 : Int), F_spec_without list0 at1 (fun r0 => kk (.one (.c (.ro .int r0))) []) → motive [.c (.ro .int list0), .c (.v (.int .i64 at1))]) : motive vs := by
  unfold con_spec_without at h
  dsimp only at h
  split at h
  · exact H _ _ h
  · exact h.elim
theorem h_spec_without : Holds Try.prog 85 con_spec_without := by
  refine holds_of_ev (rt := [.c (.sl .int)]) (T := TT) (Γ := cs_spec_without) (an := an_spec_without) (N := 15) (c := Try.f85.body.getD .skip) Try.func85 (by kernel_rfl) Try.ntmps85 (by decide) (by decide) mixed tabOK cok_spec_without (by kernel_rfl) ?_
  intro vs kk _ hF
  exact i_spec_without (motive := fun vs => Goes (ev TT cs_spec_without 15 an_spec_without (Try.f85.body.getD .skip) (st0 con_spec_without vs) (fin TT con_spec_without Try.f85.results.toList [.c (.sl .int)] vs kk))) hF (fun list0 at1 hF => goes_of (e_spec_without list0 at1 kk) (F_spec_without_S hF))
def con_spec_recent : Con := ⟨[.rd, .rd, .rd], true, [.c (.sl .int), .c (.sc), .c (.sc)], fun vs k => match vs with
    | [.c (.ro .int list0), .c (.v (.int .i64 room1)), .c (.v (.int .i64 key2))] => F_spec_recent list0 room1 key2 (fun r0 r1 => k (.tup [.c (.ro .int r0), .c (.v (.bool r1))]) [])
    | _ => False, false⟩
def cl_spec_recent : List (FuncId × Con) := [(51, con_spec_placeOf), (85, con_spec_without)]
def an_spec_recent : Ann := ⟨[], [], []⟩
def cs_spec_recent : Cons := ⟨cl_spec_recent, [], 0, [], []⟩
def fin_spec_recent (list0 : List Int) (room1 : Int) (key2 : Int) (kk : AV → List A1 → Prop) : Kt := fin TT con_spec_recent Try.f86.results.toList [.c (.sl .int), .c .sc] [.c (.ro .int list0), .c (.v (.int .i64 room1)), .c (.v (.int .i64 key2))] kk
theorem g_spec_recent (list0 : List Int) (room1 : Int) (key2 : Int) (kk : AV → List A1 → Prop) :
    ev TT cs_spec_recent 31 an_spec_recent (Try.f86.body.getD .skip) (st0 con_spec_recent [.c (.ro .int list0), .c (.v (.int .i64 room1)), .c (.v (.int .i64 key2))]) (fin TT con_spec_recent Try.f86.results.toList [.c (.sl .int), .c .sc] [.c (.ro .int list0), .c (.v (.int .i64 room1)), .c (.v (.int .i64 key2))] kk) = G_spec_recent list0 room1 key2 (fun r0 r1 => kk (.tup [.c (.ro .int r0), .c (.v (.bool r1))]) []) := by kernel_rfl
theorem e_spec_recent (list0 : List Int) (room1 : Int) (key2 : Int) (kk : AV → List A1 → Prop) :
    ev TT cs_spec_recent 31 an_spec_recent (Try.f86.body.getD .skip) (st0 con_spec_recent [.c (.ro .int list0), .c (.v (.int .i64 room1)), .c (.v (.int .i64 key2))]) (fin TT con_spec_recent Try.f86.results.toList [.c (.sl .int), .c .sc] [.c (.ro .int list0), .c (.v (.int .i64 room1)), .c (.v (.int .i64 key2))] kk) = S_spec_recent list0 room1 key2 (fun r0 r1 => kk (.tup [.c (.ro .int r0), .c (.v (.bool r1))]) []) := by
  rw [g_spec_recent]
  rfl
theorem clok_spec_recent : ConOK Try.prog cl_spec_recent := consCons h_spec_placeOf ⟨Try.f51, Try.func51, by kernel_rfl, ne_of_beq (by kernel_rfl)⟩ (consCons h_spec_without ⟨Try.f85, Try.func85, by kernel_rfl, ne_of_beq (by kernel_rfl)⟩ (consNil))
theorem cok_spec_recent : ConsOK Try.prog 31 cs_spec_recent := ⟨clok_spec_recent, inlNil⟩
theorem i_spec_recent {vs : List A1} {kk : AV → List A1 → Prop} {motive : List A1 → Prop} (h : con_spec_recent.F vs kk) (H : ∀ (list0 : List Int) (room1 : Int) (key2 : Int), F_spec_recent list0 room1 key2 (fun r0 r1 => kk (.tup [.c (.ro .int r0), .c (.v (.bool r1))]) []) → motive [.c (.ro .int list0), .c (.v (.int .i64 room1)), .c (.v (.int .i64 key2))]) : motive vs := by
  unfold con_spec_recent at h
  dsimp only at h
  split at h
  · exact H _ _ _ h
  · exact h.elim
theorem h_spec_recent : Holds Try.prog 86 con_spec_recent := by
  refine holds_of_ev (rt := [.c (.sl .int), .c .sc]) (T := TT) (Γ := cs_spec_recent) (an := an_spec_recent) (N := 31) (c := Try.f86.body.getD .skip) Try.func86 (by kernel_rfl) Try.ntmps86 (by decide) (by decide) mixed tabOK cok_spec_recent (by kernel_rfl) ?_
  intro vs kk _ hF
  exact i_spec_recent (motive := fun vs => Goes (ev TT cs_spec_recent 31 an_spec_recent (Try.f86.body.getD .skip) (st0 con_spec_recent vs) (fin TT con_spec_recent Try.f86.results.toList [.c (.sl .int), .c .sc] vs kk))) hF (fun list0 room1 key2 hF => goes_of (e_spec_recent list0 room1 key2 kk) (F_spec_recent_S hF))
def con_spec_promote : Con := ⟨[.rd, .rd], true, [.agg [.sc, .sc, .sl .int, .sl .int], .c (.sc)], fun vs k => match vs with
    | [.agg [.v (.int .i64 s0Trial), .v (.int .i64 s0Safe), .ro .int s0New, .ro .int s0Old], .c (.v (.int .i64 key1))] => F_spec_promote s0Trial s0Safe s0New s0Old key1 (fun r0 r1 r2 r3 r4 => k (.tup [.agg [.v (.int .i64 r0), .v (.int .i64 r1), .ro .int r2, .ro .int r3], .c (.v (.bool r4))]) [])
    | _ => False, false⟩
def cl_spec_promote : List (FuncId × Con) := [(51, con_spec_placeOf), (68, con_spec_copyInts), (85, con_spec_without), (86, con_spec_recent)]
def an_spec_promote : Ann := ⟨[(1, .take 0 (.take 1 (.take 2 (.take 3 (.take 4 (.take 5 (.take 7 (.take 8 (.alt 6 (.alt 9 (.take 10 (.alt 11 (.alt 12 (.done) (.none)) (.none))) (.alt 11 (.alt 9 (.take 10 (.alt 12 (.done) (.none))) (.none)) (.none))) (.alt 11 (.alt 6 (.alt 9 (.take 10 (.alt 12 (.done) (.none))) (.none)) (.none)) (.none)))))))))), [32])], [], []⟩
def cs_spec_promote : Cons := ⟨cl_spec_promote, [], 0, [], []⟩
def fin_spec_promote (s0Trial : Int) (s0Safe : Int) (s0New : List Int) (s0Old : List Int) (key1 : Int) (kk : AV → List A1 → Prop) : Kt := fin TT con_spec_promote Try.f63.results.toList [.agg [.sc, .sc, .sl .int, .sl .int], .c .sc] [.agg [.v (.int .i64 s0Trial), .v (.int .i64 s0Safe), .ro .int s0New, .ro .int s0Old], .c (.v (.int .i64 key1))] kk
theorem g_spec_promote (s0Trial : Int) (s0Safe : Int) (s0New : List Int) (s0Old : List Int) (key1 : Int) (kk : AV → List A1 → Prop) :
    ev TT cs_spec_promote 88 an_spec_promote (Try.f63.body.getD .skip) (st0 con_spec_promote [.agg [.v (.int .i64 s0Trial), .v (.int .i64 s0Safe), .ro .int s0New, .ro .int s0Old], .c (.v (.int .i64 key1))]) (fin TT con_spec_promote Try.f63.results.toList [.agg [.sc, .sc, .sl .int, .sl .int], .c .sc] [.agg [.v (.int .i64 s0Trial), .v (.int .i64 s0Safe), .ro .int s0New, .ro .int s0Old], .c (.v (.int .i64 key1))] kk) = G_spec_promote s0Trial s0Safe s0New s0Old key1 (fun r0 r1 r2 r3 r4 => kk (.tup [.agg [.v (.int .i64 r0), .v (.int .i64 r1), .ro .int r2, .ro .int r3], .c (.v (.bool r4))]) []) := by kernel_rfl
theorem e_spec_promote (s0Trial : Int) (s0Safe : Int) (s0New : List Int) (s0Old : List Int) (key1 : Int) (kk : AV → List A1 → Prop) :
    ev TT cs_spec_promote 88 an_spec_promote (Try.f63.body.getD .skip) (st0 con_spec_promote [.agg [.v (.int .i64 s0Trial), .v (.int .i64 s0Safe), .ro .int s0New, .ro .int s0Old], .c (.v (.int .i64 key1))]) (fin TT con_spec_promote Try.f63.results.toList [.agg [.sc, .sc, .sl .int, .sl .int], .c .sc] [.agg [.v (.int .i64 s0Trial), .v (.int .i64 s0Safe), .ro .int s0New, .ro .int s0Old], .c (.v (.int .i64 key1))] kk) = S_spec_promote s0Trial s0Safe s0New s0Old key1 (fun r0 r1 r2 r3 r4 => kk (.tup [.agg [.v (.int .i64 r0), .v (.int .i64 r1), .ro .int r2, .ro .int r3], .c (.v (.bool r4))]) []) := by
  rw [g_spec_promote]
  rw [G_spec_promote_eq]
  rfl
theorem clok_spec_promote : ConOK Try.prog cl_spec_promote := consCons h_spec_placeOf ⟨Try.f51, Try.func51, by kernel_rfl, ne_of_beq (by kernel_rfl)⟩ (consCons h_spec_copyInts ⟨Try.f68, Try.func68, by kernel_rfl, ne_of_beq (by kernel_rfl)⟩ (consCons h_spec_without ⟨Try.f85, Try.func85, by kernel_rfl, ne_of_beq (by kernel_rfl)⟩ (consCons h_spec_recent ⟨Try.f86, Try.func86, by kernel_rfl, ne_of_beq (by kernel_rfl)⟩ (consNil))))
theorem cok_spec_promote : ConsOK Try.prog 88 cs_spec_promote := ⟨clok_spec_promote, inlNil⟩
theorem i_spec_promote {vs : List A1} {kk : AV → List A1 → Prop} {motive : List A1 → Prop} (h : con_spec_promote.F vs kk) (H : ∀ (s0Trial : Int) (s0Safe : Int) (s0New : List Int) (s0Old : List Int) (key1 : Int), F_spec_promote s0Trial s0Safe s0New s0Old key1 (fun r0 r1 r2 r3 r4 => kk (.tup [.agg [.v (.int .i64 r0), .v (.int .i64 r1), .ro .int r2, .ro .int r3], .c (.v (.bool r4))]) []) → motive [.agg [.v (.int .i64 s0Trial), .v (.int .i64 s0Safe), .ro .int s0New, .ro .int s0Old], .c (.v (.int .i64 key1))]) : motive vs := by
  unfold con_spec_promote at h
  dsimp only at h
  split at h
  · exact H _ _ _ _ _ h
  · exact h.elim
theorem h_spec_promote : Holds Try.prog 63 con_spec_promote := by
  refine holds_of_ev (rt := [.agg [.sc, .sc, .sl .int, .sl .int], .c .sc]) (T := TT) (Γ := cs_spec_promote) (an := an_spec_promote) (N := 88) (c := Try.f63.body.getD .skip) Try.func63 (by kernel_rfl) Try.ntmps63 (by decide) (by decide) mixed tabOK cok_spec_promote (by kernel_rfl) ?_
  intro vs kk _ hF
  exact i_spec_promote (motive := fun vs => Goes (ev TT cs_spec_promote 88 an_spec_promote (Try.f63.body.getD .skip) (st0 con_spec_promote vs) (fin TT con_spec_promote Try.f63.results.toList [.agg [.sc, .sc, .sl .int, .sl .int], .c .sc] vs kk))) hF (fun s0Trial s0Safe s0New s0Old key1 hF => goes_of (e_spec_promote s0Trial s0Safe s0New s0Old key1 kk) (F_spec_promote_S hF))
def con_spec_reader_spoil : Con := ⟨[.mu, .rd, .rd], true, [.ptr [.sl .u8, .sc], .c (.sl .int), .c (.sc)], fun vs k => match vs with
    | [.ptr [.ro .u8 r0b, .v (.int .i64 r0p)], .c (.ro .int list1), .c (.v (.int .i64 n2))] => F_spec_reader_spoil r0b r0p list1 n2 (fun r0 r1 r2 => k (.one (.c (.ro .int r0))) [.ptr [.ro .u8 r1, .v (.int .i64 r2)]])
    | _ => False, false⟩
def cl_spec_reader_spoil : List (FuncId × Con) := [(68, con_spec_copyInts), (79, con_spec_reader_one), (80, con_spec_reader_pick)]
def an_spec_reader_spoil : Ann := ⟨[], [], []⟩
def cs_spec_reader_spoil : Cons := ⟨cl_spec_reader_spoil, [], 0, [], []⟩
def fin_spec_reader_spoil (r0b : List Int) (r0p : Int) (list1 : List Int) (n2 : Int) (kk : AV → List A1 → Prop) : Kt := fin TT con_spec_reader_spoil Try.f81.results.toList [.c (.sl .int)] [.ptr [.ro .u8 r0b, .v (.int .i64 r0p)], .c (.ro .int list1), .c (.v (.int .i64 n2))] kk
theorem g_spec_reader_spoil (r0b : List Int) (r0p : Int) (list1 : List Int) (n2 : Int) (kk : AV → List A1 → Prop) :
    ev TT cs_spec_reader_spoil 41 an_spec_reader_spoil (Try.f81.body.getD .skip) (st0 con_spec_reader_spoil [.ptr [.ro .u8 r0b, .v (.int .i64 r0p)], .c (.ro .int list1), .c (.v (.int .i64 n2))]) (fin TT con_spec_reader_spoil Try.f81.results.toList [.c (.sl .int)] [.ptr [.ro .u8 r0b, .v (.int .i64 r0p)], .c (.ro .int list1), .c (.v (.int .i64 n2))] kk) = G_spec_reader_spoil r0b r0p list1 n2 (fun r0 r1 r2 => kk (.one (.c (.ro .int r0))) [.ptr [.ro .u8 r1, .v (.int .i64 r2)]]) := by kernel_rfl
theorem e_spec_reader_spoil (r0b : List Int) (r0p : Int) (list1 : List Int) (n2 : Int) (kk : AV → List A1 → Prop) :
    ev TT cs_spec_reader_spoil 41 an_spec_reader_spoil (Try.f81.body.getD .skip) (st0 con_spec_reader_spoil [.ptr [.ro .u8 r0b, .v (.int .i64 r0p)], .c (.ro .int list1), .c (.v (.int .i64 n2))]) (fin TT con_spec_reader_spoil Try.f81.results.toList [.c (.sl .int)] [.ptr [.ro .u8 r0b, .v (.int .i64 r0p)], .c (.ro .int list1), .c (.v (.int .i64 n2))] kk) = S_spec_reader_spoil r0b r0p list1 n2 (fun r0 r1 r2 => kk (.one (.c (.ro .int r0))) [.ptr [.ro .u8 r1, .v (.int .i64 r2)]]) := by
  rw [g_spec_reader_spoil]
  rfl
theorem clok_spec_reader_spoil : ConOK Try.prog cl_spec_reader_spoil := consCons h_spec_copyInts ⟨Try.f68, Try.func68, by kernel_rfl, ne_of_beq (by kernel_rfl)⟩ (consCons h_spec_reader_one ⟨Try.f79, Try.func79, by kernel_rfl, ne_of_beq (by kernel_rfl)⟩ (consCons h_spec_reader_pick ⟨Try.f80, Try.func80, by kernel_rfl, ne_of_beq (by kernel_rfl)⟩ (consNil)))
theorem cok_spec_reader_spoil : ConsOK Try.prog 41 cs_spec_reader_spoil := ⟨clok_spec_reader_spoil, inlNil⟩
theorem i_spec_reader_spoil {vs : List A1} {kk : AV → List A1 → Prop} {motive : List A1 → Prop} (h : con_spec_reader_spoil.F vs kk) (H : ∀ (r0b : List Int) (r0p : Int) (list1 : List Int) (n2 : Int), F_spec_reader_spoil r0b r0p list1 n2 (fun r0 r1 r2 => kk (.one (.c (.ro .int r0))) [.ptr [.ro .u8 r1, .v (.int .i64 r2)]]) → motive [.ptr [.ro .u8 r0b, .v (.int .i64 r0p)], .c (.ro .int list1), .c (.v (.int .i64 n2))]) : motive vs := by
  unfold con_spec_reader_spoil at h
  dsimp only at h
  split at h
  · exact H _ _ _ _ h
  · exact h.elim
theorem h_spec_reader_spoil : Holds Try.prog 81 con_spec_reader_spoil := by
  refine holds_of_ev (rt := [.c (.sl .int)]) (T := TT) (Γ := cs_spec_reader_spoil) (an := an_spec_reader_spoil) (N := 41) (c := Try.f81.body.getD .skip) Try.func81 (by kernel_rfl) Try.ntmps81 (by decide) (by decide) mixed tabOK cok_spec_reader_spoil (by kernel_rfl) ?_
  intro vs kk _ hF
  exact i_spec_reader_spoil (motive := fun vs => Goes (ev TT cs_spec_reader_spoil 41 an_spec_reader_spoil (Try.f81.body.getD .skip) (st0 con_spec_reader_spoil vs) (fin TT con_spec_reader_spoil Try.f81.results.toList [.c (.sl .int)] vs kk))) hF (fun r0b r0p list1 n2 hF => goes_of (e_spec_reader_spoil r0b r0p list1 n2 kk) (F_spec_reader_spoil_S hF))
def con_spec_someSegments : Con := ⟨[.mu], true, [.ptr [.sl .u8, .sc]], fun vs k => match vs with
    | [.ptr [.ro .u8 r0b, .v (.int .i64 r0p)]] => F_spec_someSegments r0b r0p (fun r0 r1 r2 r3 r4 r5 => k (.one (.agg [.v (.int .i64 r0), .v (.int .i64 r1), .ro .int r2, .ro .int r3])) [.ptr [.ro .u8 r4, .v (.int .i64 r5)]])
    | _ => False, false⟩
def cl_spec_someSegments : List (FuncId × Con) := [(63, con_spec_promote), (79, con_spec_reader_one), (80, con_spec_reader_pick), (81, con_spec_reader_spoil)]
def nm0_spec_someSegments : List NStep := [.ownc 48 2 .int 90000, .ownc 48 3 .int 90001, .keep [0, 2, 3, 4] [100000, 32, 48, 90000, 90001]]
def an_spec_someSegments : Ann := ⟨[(5, .take 1 (.alt 0 (.alt 2 (.alt 3 (.take 4 (.take 5 (.take 6 (.alt 7 (.done) (.none))))) (.none)) (.none)) (.alt 2 (.alt 0 (.alt 3 (.take 4 (.take 5 (.take 6 (.alt 7 (.done) (.none))))) (.none)) (.none)) (.none))), []), (10, .take 0 (.take 2 (.alt 1 (.alt 3 (.alt 4 (.alt 5 (.take 6 (.alt 7 (.done) (.none))) (.none)) (.none)) (.none)) (.alt 3 (.alt 1 (.alt 4 (.alt 5 (.take 6 (.alt 7 (.done) (.none))) (.none)) (.none)) (.alt 4 (.alt 1 (.alt 5 (.take 6 (.alt 7 (.done) (.none))) (.none)) (.none)) (.none))) (.none)))), [])], [(3, nm0_spec_someSegments)], []⟩
def cs_spec_someSegments : Cons := ⟨cl_spec_someSegments, [], 0, [], []⟩
def can0_spec_someSegments (xn4 : Int) (xb100000c0 : List Int) (xb100000c1 : Int) (xb3c0 : Int) (xb3c1 : Int) (xb3c2 : List Int) (xb3c3 : List Int) : St := ⟨[(0, .one (.c (.pb 100000 0))), (2, .one (.c (.pb 32 0))), (3, .one (.c (.pb 48 0))), (4, .one (.c (.v (.int .i64 xn4))))], [(100000, .box [.ro .u8 xb100000c0, .v (.int .i64 xb100000c1)]), (32, .box [.v (.int .i64 0), .v (.int .i64 0), .nil, .nil]), (48, .box [.v (.int .i64 xb3c0), .v (.int .i64 xb3c1), .ow 90000, .ow 90001]), (90000, .row .int xb3c2), (90001, .row .int xb3c3)]⟩
def fin_spec_someSegments (r0b : List Int) (r0p : Int) (kk : AV → List A1 → Prop) : Kt := fin TT con_spec_someSegments Try.f54.results.toList [.agg [.sc, .sc, .sl .int, .sl .int]] [.ptr [.ro .u8 r0b, .v (.int .i64 r0p)]] kk
def kt0_spec_someSegments (kf : Kt) : Kt := blockK 0 (seqK (evF TT cs_spec_someSegments 55 an_spec_someSegments Try.f54 [1, 1, 1]) (kf))
theorem r0_spec_someSegments (r0b : List Int) (r0p : Int) (kk : AV → List A1 → Prop) (n : Nat) (xn4 : Int) (xb100000c0 : List Int) (xb100000c1 : Int) (xb3c0 : Int) (xb3c1 : Int) (xb3c2 : List Int) (xb3c3 : List Int) :
    iter (evF TT cs_spec_someSegments 55 an_spec_someSegments Try.f54 [1, 1, 0, 1, 0, 0]) nm0_spec_someSegments (kt0_spec_someSegments (fin_spec_someSegments r0b r0p kk)) (n + 1) (can0_spec_someSegments xn4 xb100000c0 xb100000c1 xb3c0 xb3c1 xb3c2 xb3c3) = T0_spec_someSegments xn4 xb100000c0 xb100000c1 xb3c0 xb3c1 xb3c2 xb3c3 (fun r0 r1 r2 r3 r4 r5 => kk (.one (.agg [.v (.int .i64 r0), .v (.int .i64 r1), .ro .int r2, .ro .int r3])) [.ptr [.ro .u8 r4, .v (.int .i64 r5)]]) (fun xn4 xb100000c0 xb100000c1 xb3c0 xb3c1 xb3c2 xb3c3 => iter (evF TT cs_spec_someSegments 55 an_spec_someSegments Try.f54 [1, 1, 0, 1, 0, 0]) nm0_spec_someSegments (kt0_spec_someSegments (fin_spec_someSegments r0b r0p kk)) n (can0_spec_someSegments xn4 xb100000c0 xb100000c1 xb3c0 xb3c1 xb3c2 xb3c3)) := by kernel_rfl
theorem l0_spec_someSegments (r0b : List Int) (r0p : Int) (kk : AV → List A1 → Prop) : ∀ (n : Nat) (xn4 : Int) (xb100000c0 : List Int) (xb100000c1 : Int) (xb3c0 : Int) (xb3c1 : Int) (xb3c2 : List Int) (xb3c3 : List Int), iter (evF TT cs_spec_someSegments 55 an_spec_someSegments Try.f54 [1, 1, 0, 1, 0, 0]) nm0_spec_someSegments (kt0_spec_someSegments (fin_spec_someSegments r0b r0p kk)) n (can0_spec_someSegments xn4 xb100000c0 xb100000c1 xb3c0 xb3c1 xb3c2 xb3c3) = L0_spec_someSegments (fun r0 r1 r2 r3 r4 r5 => kk (.one (.agg [.v (.int .i64 r0), .v (.int .i64 r1), .ro .int r2, .ro .int r3])) [.ptr [.ro .u8 r4, .v (.int .i64 r5)]]) n xn4 xb100000c0 xb100000c1 xb3c0 xb3c1 xb3c2 xb3c3 := by
  intro n
  induction n with
  | zero => intros; rfl
  | succ n ih =>
    intro xn4 xb100000c0 xb100000c1 xb3c0 xb3c1 xb3c2 xb3c3
    rw [r0_spec_someSegments r0b r0p kk n xn4 xb100000c0 xb100000c1 xb3c0 xb3c1 xb3c2 xb3c3]
    have hb : (fun xn4 xb100000c0 xb100000c1 xb3c0 xb3c1 xb3c2 xb3c3 => iter (evF TT cs_spec_someSegments 55 an_spec_someSegments Try.f54 [1, 1, 0, 1, 0, 0]) nm0_spec_someSegments (kt0_spec_someSegments (fin_spec_someSegments r0b r0p kk)) n (can0_spec_someSegments xn4 xb100000c0 xb100000c1 xb3c0 xb3c1 xb3c2 xb3c3)) = L0_spec_someSegments (fun r0 r1 r2 r3 r4 r5 => kk (.one (.agg [.v (.int .i64 r0), .v (.int .i64 r1), .ro .int r2, .ro .int r3])) [.ptr [.ro .u8 r4, .v (.int .i64 r5)]]) n := by
      funext xn4 xb100000c0 xb100000c1 xb3c0 xb3c1 xb3c2 xb3c3; exact ih xn4 xb100000c0 xb100000c1 xb3c0 xb3c1 xb3c2 xb3c3
    rw [hb]
    rw [T0_spec_someSegments_eq]
    rfl
theorem g_spec_someSegments (r0b : List Int) (r0p : Int) (kk : AV → List A1 → Prop) :
    ev TT cs_spec_someSegments 55 an_spec_someSegments (Try.f54.body.getD .skip) (st0 con_spec_someSegments [.ptr [.ro .u8 r0b, .v (.int .i64 r0p)]]) (fin TT con_spec_someSegments Try.f54.results.toList [.agg [.sc, .sc, .sl .int, .sl .int]] [.ptr [.ro .u8 r0b, .v (.int .i64 r0p)]] kk) = G_spec_someSegments r0b r0p (fun xn4 xb100000c0 xb100000c1 xb3c0 xb3c1 xb3c2 xb3c3 => ∃ j, iter (evF TT cs_spec_someSegments 55 an_spec_someSegments Try.f54 [1, 1, 0, 1, 0, 0]) nm0_spec_someSegments (kt0_spec_someSegments (fin_spec_someSegments r0b r0p kk)) j (can0_spec_someSegments xn4 xb100000c0 xb100000c1 xb3c0 xb3c1 xb3c2 xb3c3)) := by kernel_rfl
theorem e_spec_someSegments (r0b : List Int) (r0p : Int) (kk : AV → List A1 → Prop) :
    ev TT cs_spec_someSegments 55 an_spec_someSegments (Try.f54.body.getD .skip) (st0 con_spec_someSegments [.ptr [.ro .u8 r0b, .v (.int .i64 r0p)]]) (fin TT con_spec_someSegments Try.f54.results.toList [.agg [.sc, .sc, .sl .int, .sl .int]] [.ptr [.ro .u8 r0b, .v (.int .i64 r0p)]] kk) = S_spec_someSegments r0b r0p (fun r0 r1 r2 r3 r4 r5 => kk (.one (.agg [.v (.int .i64 r0), .v (.int .i64 r1), .ro .int r2, .ro .int r3])) [.ptr [.ro .u8 r4, .v (.int .i64 r5)]]) := by
  rw [g_spec_someSegments]
  have hi0 : (fun xn4 xb100000c0 xb100000c1 xb3c0 xb3c1 xb3c2 xb3c3 => ∃ j, iter (evF TT cs_spec_someSegments 55 an_spec_someSegments Try.f54 [1, 1, 0, 1, 0, 0]) nm0_spec_someSegments (kt0_spec_someSegments (fin_spec_someSegments r0b r0p kk)) j (can0_spec_someSegments xn4 xb100000c0 xb100000c1 xb3c0 xb3c1 xb3c2 xb3c3)) = (fun xn4 xb100000c0 xb100000c1 xb3c0 xb3c1 xb3c2 xb3c3 => ∃ j, L0_spec_someSegments (fun r0 r1 r2 r3 r4 r5 => kk (.one (.agg [.v (.int .i64 r0), .v (.int .i64 r1), .ro .int r2, .ro .int r3])) [.ptr [.ro .u8 r4, .v (.int .i64 r5)]]) j xn4 xb100000c0 xb100000c1 xb3c0 xb3c1 xb3c2 xb3c3) := by
    funext xn4 xb100000c0 xb100000c1 xb3c0 xb3c1 xb3c2 xb3c3
    refine congrArg Exists (funext fun j => ?_)
    rw [l0_spec_someSegments r0b r0p kk j xn4 xb100000c0 xb100000c1 xb3c0 xb3c1 xb3c2 xb3c3]
  rw [hi0]
  rfl
theorem clok_spec_someSegments : ConOK Try.prog cl_spec_someSegments := consCons h_spec_promote ⟨Try.f63, Try.func63, by kernel_rfl, ne_of_beq (by kernel_rfl)⟩ (consCons h_spec_reader_one ⟨Try.f79, Try.func79, by kernel_rfl, ne_of_beq (by kernel_rfl)⟩ (consCons h_spec_reader_pick ⟨Try.f80, Try.func80, by kernel_rfl, ne_of_beq (by kernel_rfl)⟩ (consCons h_spec_reader_spoil ⟨Try.f81, Try.func81, by kernel_rfl, ne_of_beq (by kernel_rfl)⟩ (consNil))))
theorem cok_spec_someSegments : ConsOK Try.prog 55 cs_spec_someSegments := ⟨clok_spec_someSegments, inlNil⟩
theorem i_spec_someSegments {vs : List A1} {kk : AV → List A1 → Prop} {motive : List A1 → Prop} (h : con_spec_someSegments.F vs kk) (H : ∀ (r0b : List Int) (r0p : Int), F_spec_someSegments r0b r0p (fun r0 r1 r2 r3 r4 r5 => kk (.one (.agg [.v (.int .i64 r0), .v (.int .i64 r1), .ro .int r2, .ro .int r3])) [.ptr [.ro .u8 r4, .v (.int .i64 r5)]]) → motive [.ptr [.ro .u8 r0b, .v (.int .i64 r0p)]]) : motive vs := by
  unfold con_spec_someSegments at h
  dsimp only at h
  split at h
  · exact H _ _ h
  · exact h.elim
theorem h_spec_someSegments : Holds Try.prog 54 con_spec_someSegments := by
  refine holds_of_ev (rt := [.agg [.sc, .sc, .sl .int, .sl .int]]) (T := TT) (Γ := cs_spec_someSegments) (an := an_spec_someSegments) (N := 55) (c := Try.f54.body.getD .skip) Try.func54 (by kernel_rfl) Try.ntmps54 (by decide) (by decide) mixed tabOK cok_spec_someSegments (by kernel_rfl) ?_
  intro vs kk _ hF
  exact i_spec_someSegments (motive := fun vs => Goes (ev TT cs_spec_someSegments 55 an_spec_someSegments (Try.f54.body.getD .skip) (st0 con_spec_someSegments vs) (fin TT con_spec_someSegments Try.f54.results.toList [.agg [.sc, .sc, .sl .int, .sl .int]] vs kk))) hF (fun r0b r0p hF => goes_of (e_spec_someSegments r0b r0p kk) (F_spec_someSegments_S hF))
def con_spec_someKey : Con := ⟨[.mu], true, [.ptr [.sl .u8, .sc]], fun vs k => match vs with
    | [.ptr [.ro .u8 r0b, .v (.int .i64 r0p)]] => F_spec_someKey r0b r0p (fun r0 r1 r2 => k (.one (.c (.v (.int .i64 r0)))) [.ptr [.ro .u8 r1, .v (.int .i64 r2)]])
    | _ => False, false⟩
def cl_spec_someKey : List (FuncId × Con) := [(79, con_spec_reader_one), (80, con_spec_reader_pick)]
def an_spec_someKey : Ann := ⟨[], [], []⟩
def cs_spec_someKey : Cons := ⟨cl_spec_someKey, [], 0, [], []⟩
def fin_spec_someKey (r0b : List Int) (r0p : Int) (kk : AV → List A1 → Prop) : Kt := fin TT con_spec_someKey Try.f59.results.toList [.c .sc] [.ptr [.ro .u8 r0b, .v (.int .i64 r0p)]] kk
theorem g_spec_someKey (r0b : List Int) (r0p : Int) (kk : AV → List A1 → Prop) :
    ev TT cs_spec_someKey 12 an_spec_someKey (Try.f59.body.getD .skip) (st0 con_spec_someKey [.ptr [.ro .u8 r0b, .v (.int .i64 r0p)]]) (fin TT con_spec_someKey Try.f59.results.toList [.c .sc] [.ptr [.ro .u8 r0b, .v (.int .i64 r0p)]] kk) = G_spec_someKey r0b r0p (fun r0 r1 r2 => kk (.one (.c (.v (.int .i64 r0)))) [.ptr [.ro .u8 r1, .v (.int .i64 r2)]]) := by kernel_rfl
theorem e_spec_someKey (r0b : List Int) (r0p : Int) (kk : AV → List A1 → Prop) :
    ev TT cs_spec_someKey 12 an_spec_someKey (Try.f59.body.getD .skip) (st0 con_spec_someKey [.ptr [.ro .u8 r0b, .v (.int .i64 r0p)]]) (fin TT con_spec_someKey Try.f59.results.toList [.c .sc] [.ptr [.ro .u8 r0b, .v (.int .i64 r0p)]] kk) = S_spec_someKey r0b r0p (fun r0 r1 r2 => kk (.one (.c (.v (.int .i64 r0)))) [.ptr [.ro .u8 r1, .v (.int .i64 r2)]]) := by
  rw [g_spec_someKey]
  rfl
theorem clok_spec_someKey : ConOK Try.prog cl_spec_someKey := consCons h_spec_reader_one ⟨Try.f79, Try.func79, by kernel_rfl, ne_of_beq (by kernel_rfl)⟩ (consCons h_spec_reader_pick ⟨Try.f80, Try.func80, by kernel_rfl, ne_of_beq (by kernel_rfl)⟩ (consNil))
theorem cok_spec_someKey : ConsOK Try.prog 12 cs_spec_someKey := ⟨clok_spec_someKey, inlNil⟩
theorem i_spec_someKey {vs : List A1} {kk : AV → List A1 → Prop} {motive : List A1 → Prop} (h : con_spec_someKey.F vs kk) (H : ∀ (r0b : List Int) (r0p : Int), F_spec_someKey r0b r0p (fun r0 r1 r2 => kk (.one (.c (.v (.int .i64 r0)))) [.ptr [.ro .u8 r1, .v (.int .i64 r2)]]) → motive [.ptr [.ro .u8 r0b, .v (.int .i64 r0p)]]) : motive vs := by
  unfold con_spec_someKey at h
  dsimp only at h
  split at h
  · exact H _ _ h
  · exact h.elim
theorem h_spec_someKey : Holds Try.prog 59 con_spec_someKey := by
  refine holds_of_ev (rt := [.c .sc]) (T := TT) (Γ := cs_spec_someKey) (an := an_spec_someKey) (N := 12) (c := Try.f59.body.getD .skip) Try.func59 (by kernel_rfl) Try.ntmps59 (by decide) (by decide) mixed tabOK cok_spec_someKey (by kernel_rfl) ?_
  intro vs kk _ hF
  exact i_spec_someKey (motive := fun vs => Goes (ev TT cs_spec_someKey 12 an_spec_someKey (Try.f59.body.getD .skip) (st0 con_spec_someKey vs) (fin TT con_spec_someKey Try.f59.results.toList [.c .sc] vs kk))) hF (fun r0b r0p hF => goes_of (e_spec_someKey r0b r0p kk) (F_spec_someKey_S hF))
def con_spec_DrawUseSegments : Con := ⟨[.rd], true, [.c (.sl .u8)], fun vs k => match vs with
    | [.c (.ro .u8 code0)] => F_spec_DrawUseSegments code0 (fun r0 r1 r2 r3 r4 => k (.tup [.agg [.v (.int .i64 r0), .v (.int .i64 r1), .ro .int r2, .ro .int r3], .c (.v (.int .i64 r4))]) [])
    | _ => False, false⟩
def cl_spec_DrawUseSegments : List (FuncId × Con) := [(54, con_spec_someSegments), (55, con_spec_newReader), (59, con_spec_someKey)]
def an_spec_DrawUseSegments : Ann := ⟨[(3, .take 0 (.take 1 (.alt 2 (.alt 3 (.take 4 (.done)) (.none)) (.none))), [80])], [], []⟩
def cs_spec_DrawUseSegments : Cons := ⟨cl_spec_DrawUseSegments, [], 0, [], []⟩
def fin_spec_DrawUseSegments (code0 : List Int) (kk : AV → List A1 → Prop) : Kt := fin TT con_spec_DrawUseSegments Try.f28.results.toList [.agg [.sc, .sc, .sl .int, .sl .int], .c .sc] [.c (.ro .u8 code0)] kk
theorem g_spec_DrawUseSegments (code0 : List Int) (kk : AV → List A1 → Prop) :
    ev TT cs_spec_DrawUseSegments 13 an_spec_DrawUseSegments (Try.f28.body.getD .skip) (st0 con_spec_DrawUseSegments [.c (.ro .u8 code0)]) (fin TT con_spec_DrawUseSegments Try.f28.results.toList [.agg [.sc, .sc, .sl .int, .sl .int], .c .sc] [.c (.ro .u8 code0)] kk) = G_spec_DrawUseSegments code0 (fun r0 r1 r2 r3 r4 => kk (.tup [.agg [.v (.int .i64 r0), .v (.int .i64 r1), .ro .int r2, .ro .int r3], .c (.v (.int .i64 r4))]) []) := by kernel_rfl
theorem e_spec_DrawUseSegments (code0 : List Int) (kk : AV → List A1 → Prop) :
    ev TT cs_spec_DrawUseSegments 13 an_spec_DrawUseSegments (Try.f28.body.getD .skip) (st0 con_spec_DrawUseSegments [.c (.ro .u8 code0)]) (fin TT con_spec_DrawUseSegments Try.f28.results.toList [.agg [.sc, .sc, .sl .int, .sl .int], .c .sc] [.c (.ro .u8 code0)] kk) = S_spec_DrawUseSegments code0 (fun r0 r1 r2 r3 r4 => kk (.tup [.agg [.v (.int .i64 r0), .v (.int .i64 r1), .ro .int r2, .ro .int r3], .c (.v (.int .i64 r4))]) []) := by
  rw [g_spec_DrawUseSegments]
  rw [G_spec_DrawUseSegments_eq]
  rfl
theorem clok_spec_DrawUseSegments : ConOK Try.prog cl_spec_DrawUseSegments := consCons h_spec_someSegments ⟨Try.f54, Try.func54, by kernel_rfl, ne_of_beq (by kernel_rfl)⟩ (consCons h_spec_newReader ⟨Try.f55, Try.func55, by kernel_rfl, ne_of_beq (by kernel_rfl)⟩ (consCons h_spec_someKey ⟨Try.f59, Try.func59, by kernel_rfl, ne_of_beq (by kernel_rfl)⟩ (consNil)))
theorem cok_spec_DrawUseSegments : ConsOK Try.prog 13 cs_spec_DrawUseSegments := ⟨clok_spec_DrawUseSegments, inlNil⟩
theorem i_spec_DrawUseSegments {vs : List A1} {kk : AV → List A1 → Prop} {motive : List A1 → Prop} (h : con_spec_DrawUseSegments.F vs kk) (H : ∀ (code0 : List Int), F_spec_DrawUseSegments code0 (fun r0 r1 r2 r3 r4 => kk (.tup [.agg [.v (.int .i64 r0), .v (.int .i64 r1), .ro .int r2, .ro .int r3], .c (.v (.int .i64 r4))]) []) → motive [.c (.ro .u8 code0)]) : motive vs := by
  unfold con_spec_DrawUseSegments at h
  dsimp only at h
  split at h
  · exact H _ h
  · exact h.elim
theorem h_spec_DrawUseSegments : Holds Try.prog 28 con_spec_DrawUseSegments := by
  refine holds_of_ev (rt := [.agg [.sc, .sc, .sl .int, .sl .int], .c .sc]) (T := TT) (Γ := cs_spec_DrawUseSegments) (an := an_spec_DrawUseSegments) (N := 13) (c := Try.f28.body.getD .skip) Try.func28 (by kernel_rfl) Try.ntmps28 (by decide) (by decide) mixed tabOK cok_spec_DrawUseSegments (by kernel_rfl) ?_
  intro vs kk _ hF
  exact i_spec_DrawUseSegments (motive := fun vs => Goes (ev TT cs_spec_DrawUseSegments 13 an_spec_DrawUseSegments (Try.f28.body.getD .skip) (st0 con_spec_DrawUseSegments vs) (fin TT con_spec_DrawUseSegments Try.f28.results.toList [.agg [.sc, .sc, .sl .int, .sl .int], .c .sc] vs kk))) hF (fun code0 hF => goes_of (e_spec_DrawUseSegments code0 kk) (F_spec_DrawUseSegments_S hF))
def con_impl_validRoom : Con := ⟨[.rd], true, [.c (.sc)], fun vs k => match vs with
    | [.c (.v (.int .i64 room0))] => F_impl_validRoom room0 (fun r0 => k (.one (.c (.v (.bool r0)))) [])
    | _ => False, false⟩
def cl_impl_validRoom : List (FuncId × Con) := []
def an_impl_validRoom : Ann := ⟨[], [], []⟩
def cs_impl_validRoom : Cons := ⟨cl_impl_validRoom, [], 0, [], []⟩
def fin_impl_validRoom (room0 : Int) (kk : AV → List A1 → Prop) : Kt := fin TT con_impl_validRoom Try.f66.results.toList [.c .sc] [.c (.v (.int .i64 room0))] kk
theorem g_impl_validRoom (room0 : Int) (kk : AV → List A1 → Prop) :
    ev TT cs_impl_validRoom 9 an_impl_validRoom (Try.f66.body.getD .skip) (st0 con_impl_validRoom [.c (.v (.int .i64 room0))]) (fin TT con_impl_validRoom Try.f66.results.toList [.c .sc] [.c (.v (.int .i64 room0))] kk) = G_impl_validRoom room0 (fun r0 => kk (.one (.c (.v (.bool r0)))) []) := by kernel_rfl
theorem e_impl_validRoom (room0 : Int) (kk : AV → List A1 → Prop) :
    ev TT cs_impl_validRoom 9 an_impl_validRoom (Try.f66.body.getD .skip) (st0 con_impl_validRoom [.c (.v (.int .i64 room0))]) (fin TT con_impl_validRoom Try.f66.results.toList [.c .sc] [.c (.v (.int .i64 room0))] kk) = S_impl_validRoom room0 (fun r0 => kk (.one (.c (.v (.bool r0)))) []) := by
  rw [g_impl_validRoom]
  rfl
theorem clok_impl_validRoom : ConOK Try.prog cl_impl_validRoom := consNil
theorem cok_impl_validRoom : ConsOK Try.prog 9 cs_impl_validRoom := ⟨clok_impl_validRoom, inlNil⟩
theorem i_impl_validRoom {vs : List A1} {kk : AV → List A1 → Prop} {motive : List A1 → Prop} (h : con_impl_validRoom.F vs kk) (H : ∀ (room0 : Int), F_impl_validRoom room0 (fun r0 => kk (.one (.c (.v (.bool r0)))) []) → motive [.c (.v (.int .i64 room0))]) : motive vs := by
  unfold con_impl_validRoom at h
  dsimp only at h
  split at h
  · exact H _ h
  · exact h.elim
theorem h_impl_validRoom : Holds Try.prog 66 con_impl_validRoom := by
  refine holds_of_ev (rt := [.c .sc]) (T := TT) (Γ := cs_impl_validRoom) (an := an_impl_validRoom) (N := 9) (c := Try.f66.body.getD .skip) Try.func66 (by kernel_rfl) Try.ntmps66 (by decide) (by decide) mixed tabOK cok_impl_validRoom (by kernel_rfl) ?_
  intro vs kk _ hF
  exact i_impl_validRoom (motive := fun vs => Goes (ev TT cs_impl_validRoom 9 an_impl_validRoom (Try.f66.body.getD .skip) (st0 con_impl_validRoom vs) (fin TT con_impl_validRoom Try.f66.results.toList [.c .sc] vs kk))) hF (fun room0 hF => goes_of (e_impl_validRoom room0 kk) (F_impl_validRoom_S hF))
def con_impl_validKey : Con := ⟨[.rd], true, [.c (.sc)], fun vs k => match vs with
    | [.c (.v (.int .i64 key0))] => F_impl_validKey key0 (fun r0 => k (.one (.c (.v (.bool r0)))) [])
    | _ => False, false⟩
def cl_impl_validKey : List (FuncId × Con) := []
def an_impl_validKey : Ann := ⟨[], [], []⟩
def cs_impl_validKey : Cons := ⟨cl_impl_validKey, [], 0, [], []⟩
def fin_impl_validKey (key0 : Int) (kk : AV → List A1 → Prop) : Kt := fin TT con_impl_validKey Try.f60.results.toList [.c .sc] [.c (.v (.int .i64 key0))] kk
theorem g_impl_validKey (key0 : Int) (kk : AV → List A1 → Prop) :
    ev TT cs_impl_validKey 9 an_impl_validKey (Try.f60.body.getD .skip) (st0 con_impl_validKey [.c (.v (.int .i64 key0))]) (fin TT con_impl_validKey Try.f60.results.toList [.c .sc] [.c (.v (.int .i64 key0))] kk) = G_impl_validKey key0 (fun r0 => kk (.one (.c (.v (.bool r0)))) []) := by kernel_rfl
theorem e_impl_validKey (key0 : Int) (kk : AV → List A1 → Prop) :
    ev TT cs_impl_validKey 9 an_impl_validKey (Try.f60.body.getD .skip) (st0 con_impl_validKey [.c (.v (.int .i64 key0))]) (fin TT con_impl_validKey Try.f60.results.toList [.c .sc] [.c (.v (.int .i64 key0))] kk) = S_impl_validKey key0 (fun r0 => kk (.one (.c (.v (.bool r0)))) []) := by
  rw [g_impl_validKey]
  rfl
theorem clok_impl_validKey : ConOK Try.prog cl_impl_validKey := consNil
theorem cok_impl_validKey : ConsOK Try.prog 9 cs_impl_validKey := ⟨clok_impl_validKey, inlNil⟩
theorem i_impl_validKey {vs : List A1} {kk : AV → List A1 → Prop} {motive : List A1 → Prop} (h : con_impl_validKey.F vs kk) (H : ∀ (key0 : Int), F_impl_validKey key0 (fun r0 => kk (.one (.c (.v (.bool r0)))) []) → motive [.c (.v (.int .i64 key0))]) : motive vs := by
  unfold con_impl_validKey at h
  dsimp only at h
  split at h
  · exact H _ h
  · exact h.elim
theorem h_impl_validKey : Holds Try.prog 60 con_impl_validKey := by
  refine holds_of_ev (rt := [.c .sc]) (T := TT) (Γ := cs_impl_validKey) (an := an_impl_validKey) (N := 9) (c := Try.f60.body.getD .skip) Try.func60 (by kernel_rfl) Try.ntmps60 (by decide) (by decide) mixed tabOK cok_impl_validKey (by kernel_rfl) ?_
  intro vs kk _ hF
  exact i_impl_validKey (motive := fun vs => Goes (ev TT cs_impl_validKey 9 an_impl_validKey (Try.f60.body.getD .skip) (st0 con_impl_validKey vs) (fin TT con_impl_validKey Try.f60.results.toList [.c .sc] vs kk))) hF (fun key0 hF => goes_of (e_impl_validKey key0 kk) (F_impl_validKey_S hF))
def con_slices_Index_sint_int : Con := ⟨[.rd, .rd], true, [.c (.sl .int), .c (.sc)], fun vs k => match vs with
    | [.c (.ro .int s0), .c (.v (.int .i64 v1))] => F_slices_Index_sint_int s0 v1 (fun r0 => k (.one (.c (.v (.int .i64 r0)))) [])
    | _ => False, false⟩
def cl_slices_Index_sint_int : List (FuncId × Con) := []
def nm0_slices_Index_sint_int : List NStep := [.keep [0, 1, 7, 8] []]
def an_slices_Index_sint_int : Ann := ⟨[], [(2, nm0_slices_Index_sint_int)], []⟩
def cs_slices_Index_sint_int : Cons := ⟨cl_slices_Index_sint_int, [], 0, [], []⟩
def can0_slices_Index_sint_int (s0 : List Int) (v1 : Int) (xt7 : Int) (xt8 : Int) : St := ⟨[(0, .one (.c (.ro .int s0))), (1, .one (.c (.v (.int .i64 v1)))), (7, .one (.c (.v (.int .i64 xt7)))), (8, .one (.c (.v (.int .i64 xt8))))], []⟩
def fin_slices_Index_sint_int (s0 : List Int) (v1 : Int) (kk : AV → List A1 → Prop) : Kt := fin TT con_slices_Index_sint_int Try.f71.results.toList [.c .sc] [.c (.ro .int s0), .c (.v (.int .i64 v1))] kk
def kt0_slices_Index_sint_int (kf : Kt) : Kt := blockK 0 (seqK (evF TT cs_slices_Index_sint_int 19 an_slices_Index_sint_int Try.f71 [1, 1]) (kf))
theorem r0_slices_Index_sint_int (s0 : List Int) (v1 : Int) (xt7 : Int) (kk : AV → List A1 → Prop) (n : Nat) (xt8 : Int) :
    iter (evF TT cs_slices_Index_sint_int 19 an_slices_Index_sint_int Try.f71 [1, 0, 1, 0, 0]) nm0_slices_Index_sint_int (kt0_slices_Index_sint_int (fin_slices_Index_sint_int s0 v1 kk)) (n + 1) (can0_slices_Index_sint_int s0 v1 xt7 xt8) = T0_slices_Index_sint_int s0 v1 xt7 xt8 (fun r0 => kk (.one (.c (.v (.int .i64 r0)))) []) (fun xt8 => iter (evF TT cs_slices_Index_sint_int 19 an_slices_Index_sint_int Try.f71 [1, 0, 1, 0, 0]) nm0_slices_Index_sint_int (kt0_slices_Index_sint_int (fin_slices_Index_sint_int s0 v1 kk)) n (can0_slices_Index_sint_int s0 v1 xt7 xt8)) := by kernel_rfl
theorem l0_slices_Index_sint_int (s0 : List Int) (v1 : Int) (xt7 : Int) (kk : AV → List A1 → Prop) : ∀ (n : Nat) (xt8 : Int), iter (evF TT cs_slices_Index_sint_int 19 an_slices_Index_sint_int Try.f71 [1, 0, 1, 0, 0]) nm0_slices_Index_sint_int (kt0_slices_Index_sint_int (fin_slices_Index_sint_int s0 v1 kk)) n (can0_slices_Index_sint_int s0 v1 xt7 xt8) = L0_slices_Index_sint_int s0 v1 xt7 (fun r0 => kk (.one (.c (.v (.int .i64 r0)))) []) n xt8 := by
  intro n
  induction n with
  | zero => intros; rfl
  | succ n ih =>
    intro xt8
    rw [r0_slices_Index_sint_int s0 v1 xt7 kk n xt8]
    have hb : (fun xt8 => iter (evF TT cs_slices_Index_sint_int 19 an_slices_Index_sint_int Try.f71 [1, 0, 1, 0, 0]) nm0_slices_Index_sint_int (kt0_slices_Index_sint_int (fin_slices_Index_sint_int s0 v1 kk)) n (can0_slices_Index_sint_int s0 v1 xt7 xt8)) = L0_slices_Index_sint_int s0 v1 xt7 (fun r0 => kk (.one (.c (.v (.int .i64 r0)))) []) n := by
      funext xt8; exact ih xt8
    rw [hb]
    rfl
theorem g_slices_Index_sint_int (s0 : List Int) (v1 : Int) (kk : AV → List A1 → Prop) :
    ev TT cs_slices_Index_sint_int 19 an_slices_Index_sint_int (Try.f71.body.getD .skip) (st0 con_slices_Index_sint_int [.c (.ro .int s0), .c (.v (.int .i64 v1))]) (fin TT con_slices_Index_sint_int Try.f71.results.toList [.c .sc] [.c (.ro .int s0), .c (.v (.int .i64 v1))] kk) = G_slices_Index_sint_int s0 v1 (fun s0 v1 xt7 xt8 => ∃ j, iter (evF TT cs_slices_Index_sint_int 19 an_slices_Index_sint_int Try.f71 [1, 0, 1, 0, 0]) nm0_slices_Index_sint_int (kt0_slices_Index_sint_int (fin_slices_Index_sint_int s0 v1 kk)) j (can0_slices_Index_sint_int s0 v1 xt7 xt8)) := by kernel_rfl
theorem e_slices_Index_sint_int (s0 : List Int) (v1 : Int) (kk : AV → List A1 → Prop) :
    ev TT cs_slices_Index_sint_int 19 an_slices_Index_sint_int (Try.f71.body.getD .skip) (st0 con_slices_Index_sint_int [.c (.ro .int s0), .c (.v (.int .i64 v1))]) (fin TT con_slices_Index_sint_int Try.f71.results.toList [.c .sc] [.c (.ro .int s0), .c (.v (.int .i64 v1))] kk) = S_slices_Index_sint_int s0 v1 (fun r0 => kk (.one (.c (.v (.int .i64 r0)))) []) := by
  rw [g_slices_Index_sint_int]
  have hi0 : (fun s0 v1 xt7 xt8 => ∃ j, iter (evF TT cs_slices_Index_sint_int 19 an_slices_Index_sint_int Try.f71 [1, 0, 1, 0, 0]) nm0_slices_Index_sint_int (kt0_slices_Index_sint_int (fin_slices_Index_sint_int s0 v1 kk)) j (can0_slices_Index_sint_int s0 v1 xt7 xt8)) = (fun s0 v1 xt7 xt8 => ∃ j, L0_slices_Index_sint_int s0 v1 xt7 (fun r0 => kk (.one (.c (.v (.int .i64 r0)))) []) j xt8) := by
    funext s0 v1 xt7 xt8
    refine congrArg Exists (funext fun j => ?_)
    rw [l0_slices_Index_sint_int s0 v1 xt7 kk j xt8]
  rw [hi0]
  rfl
theorem clok_slices_Index_sint_int : ConOK Try.prog cl_slices_Index_sint_int := consNil
theorem cok_slices_Index_sint_int : ConsOK Try.prog 19 cs_slices_Index_sint_int := ⟨clok_slices_Index_sint_int, inlNil⟩
theorem i_slices_Index_sint_int {vs : List A1} {kk : AV → List A1 → Prop} {motive : List A1 → Prop} (h : con_slices_Index_sint_int.F vs kk) (H : ∀ (s0 : List Int) (v1 : Int), F_slices_Index_sint_int s0 v1 (fun r0 => kk (.one (.c (.v (.int .i64 r0)))) []) → motive [.c (.ro .int s0), .c (.v (.int .i64 v1))]) : motive vs := by
  unfold con_slices_Index_sint_int at h
  dsimp only at h
  split at h
  · exact H _ _ h
  · exact h.elim
theorem h_slices_Index_sint_int : Holds Try.prog 71 con_slices_Index_sint_int := by
  refine holds_of_ev (rt := [.c .sc]) (T := TT) (Γ := cs_slices_Index_sint_int) (an := an_slices_Index_sint_int) (N := 19) (c := Try.f71.body.getD .skip) Try.func71 (by kernel_rfl) Try.ntmps71 (by decide) (by decide) mixed tabOK cok_slices_Index_sint_int (by kernel_rfl) ?_
  intro vs kk _ hF
  exact i_slices_Index_sint_int (motive := fun vs => Goes (ev TT cs_slices_Index_sint_int 19 an_slices_Index_sint_int (Try.f71.body.getD .skip) (st0 con_slices_Index_sint_int vs) (fin TT con_slices_Index_sint_int Try.f71.results.toList [.c .sc] vs kk))) hF (fun s0 v1 hF => goes_of (e_slices_Index_sint_int s0 v1 kk) (F_slices_Index_sint_int_S hF))
def con_slices_Contains_sint_int : Con := ⟨[.rd, .rd], true, [.c (.sl .int), .c (.sc)], fun vs k => match vs with
    | [.c (.ro .int s0), .c (.v (.int .i64 v1))] => F_slices_Contains_sint_int s0 v1 (fun r0 => k (.one (.c (.v (.bool r0)))) [])
    | _ => False, false⟩
def cl_slices_Contains_sint_int : List (FuncId × Con) := [(71, con_slices_Index_sint_int)]
def an_slices_Contains_sint_int : Ann := ⟨[], [], []⟩
def cs_slices_Contains_sint_int : Cons := ⟨cl_slices_Contains_sint_int, [], 0, [], []⟩
def fin_slices_Contains_sint_int (s0 : List Int) (v1 : Int) (kk : AV → List A1 → Prop) : Kt := fin TT con_slices_Contains_sint_int Try.f57.results.toList [.c .sc] [.c (.ro .int s0), .c (.v (.int .i64 v1))] kk
theorem g_slices_Contains_sint_int (s0 : List Int) (v1 : Int) (kk : AV → List A1 → Prop) :
    ev TT cs_slices_Contains_sint_int 9 an_slices_Contains_sint_int (Try.f57.body.getD .skip) (st0 con_slices_Contains_sint_int [.c (.ro .int s0), .c (.v (.int .i64 v1))]) (fin TT con_slices_Contains_sint_int Try.f57.results.toList [.c .sc] [.c (.ro .int s0), .c (.v (.int .i64 v1))] kk) = G_slices_Contains_sint_int s0 v1 (fun r0 => kk (.one (.c (.v (.bool r0)))) []) := by kernel_rfl
theorem e_slices_Contains_sint_int (s0 : List Int) (v1 : Int) (kk : AV → List A1 → Prop) :
    ev TT cs_slices_Contains_sint_int 9 an_slices_Contains_sint_int (Try.f57.body.getD .skip) (st0 con_slices_Contains_sint_int [.c (.ro .int s0), .c (.v (.int .i64 v1))]) (fin TT con_slices_Contains_sint_int Try.f57.results.toList [.c .sc] [.c (.ro .int s0), .c (.v (.int .i64 v1))] kk) = S_slices_Contains_sint_int s0 v1 (fun r0 => kk (.one (.c (.v (.bool r0)))) []) := by
  rw [g_slices_Contains_sint_int]
  rfl
theorem clok_slices_Contains_sint_int : ConOK Try.prog cl_slices_Contains_sint_int := consCons h_slices_Index_sint_int ⟨Try.f71, Try.func71, by kernel_rfl, ne_of_beq (by kernel_rfl)⟩ (consNil)
theorem cok_slices_Contains_sint_int : ConsOK Try.prog 9 cs_slices_Contains_sint_int := ⟨clok_slices_Contains_sint_int, inlNil⟩
theorem i_slices_Contains_sint_int {vs : List A1} {kk : AV → List A1 → Prop} {motive : List A1 → Prop} (h : con_slices_Contains_sint_int.F vs kk) (H : ∀ (s0 : List Int) (v1 : Int), F_slices_Contains_sint_int s0 v1 (fun r0 => kk (.one (.c (.v (.bool r0)))) []) → motive [.c (.ro .int s0), .c (.v (.int .i64 v1))]) : motive vs := by
  unfold con_slices_Contains_sint_int at h
  dsimp only at h
  split at h
  · exact H _ _ h
  · exact h.elim
theorem h_slices_Contains_sint_int : Holds Try.prog 57 con_slices_Contains_sint_int := by
  refine holds_of_ev (rt := [.c .sc]) (T := TT) (Γ := cs_slices_Contains_sint_int) (an := an_slices_Contains_sint_int) (N := 9) (c := Try.f57.body.getD .skip) Try.func57 (by kernel_rfl) Try.ntmps57 (by decide) (by decide) mixed tabOK cok_slices_Contains_sint_int (by kernel_rfl) ?_
  intro vs kk _ hF
  exact i_slices_Contains_sint_int (motive := fun vs => Goes (ev TT cs_slices_Contains_sint_int 9 an_slices_Contains_sint_int (Try.f57.body.getD .skip) (st0 con_slices_Contains_sint_int vs) (fin TT con_slices_Contains_sint_int Try.f57.results.toList [.c .sc] vs kk))) hF (fun s0 v1 hF => goes_of (e_slices_Contains_sint_int s0 v1 kk) (F_slices_Contains_sint_int_S hF))
def con_impl_differentKeys : Con := ⟨[.rd], true, [.c (.sl .int)], fun vs k => match vs with
    | [.c (.ro .int list0)] => F_impl_differentKeys list0 (fun r0 => k (.one (.c (.v (.bool r0)))) [])
    | _ => False, false⟩
def cl_impl_differentKeys : List (FuncId × Con) := [(57, con_slices_Contains_sint_int), (60, con_impl_validKey)]
def nm0_impl_differentKeys : List NStep := [.keep [0, 5, 6, 7] []]
def an_impl_differentKeys : Ann := ⟨[], [(2, nm0_impl_differentKeys)], []⟩
def cs_impl_differentKeys : Cons := ⟨cl_impl_differentKeys, [], 0, [], []⟩
def can0_impl_differentKeys (list0 : List Int) (xt6 : Int) (xt7 : Int) : St := ⟨[(0, .one (.c (.ro .int list0))), (5, .one (.c (.ro .int list0))), (6, .one (.c (.v (.int .i64 xt6)))), (7, .one (.c (.v (.int .i64 xt7))))], []⟩
def fin_impl_differentKeys (list0 : List Int) (kk : AV → List A1 → Prop) : Kt := fin TT con_impl_differentKeys Try.f82.results.toList [.c .sc] [.c (.ro .int list0)] kk
def kt0_impl_differentKeys (kf : Kt) : Kt := blockK 0 (seqK (evF TT cs_impl_differentKeys 23 an_impl_differentKeys Try.f82 [1, 1]) (kf))
theorem r0_impl_differentKeys (list0 : List Int) (xt6 : Int) (kk : AV → List A1 → Prop) (n : Nat) (xt7 : Int) :
    iter (evF TT cs_impl_differentKeys 23 an_impl_differentKeys Try.f82 [1, 0, 1, 0, 0]) nm0_impl_differentKeys (kt0_impl_differentKeys (fin_impl_differentKeys list0 kk)) (n + 1) (can0_impl_differentKeys list0 xt6 xt7) = T0_impl_differentKeys list0 xt6 xt7 (fun r0 => kk (.one (.c (.v (.bool r0)))) []) (fun xt7 => iter (evF TT cs_impl_differentKeys 23 an_impl_differentKeys Try.f82 [1, 0, 1, 0, 0]) nm0_impl_differentKeys (kt0_impl_differentKeys (fin_impl_differentKeys list0 kk)) n (can0_impl_differentKeys list0 xt6 xt7)) := by kernel_rfl
theorem l0_impl_differentKeys (list0 : List Int) (xt6 : Int) (kk : AV → List A1 → Prop) : ∀ (n : Nat) (xt7 : Int), iter (evF TT cs_impl_differentKeys 23 an_impl_differentKeys Try.f82 [1, 0, 1, 0, 0]) nm0_impl_differentKeys (kt0_impl_differentKeys (fin_impl_differentKeys list0 kk)) n (can0_impl_differentKeys list0 xt6 xt7) = L0_impl_differentKeys list0 xt6 (fun r0 => kk (.one (.c (.v (.bool r0)))) []) n xt7 := by
  intro n
  induction n with
  | zero => intros; rfl
  | succ n ih =>
    intro xt7
    rw [r0_impl_differentKeys list0 xt6 kk n xt7]
    have hb : (fun xt7 => iter (evF TT cs_impl_differentKeys 23 an_impl_differentKeys Try.f82 [1, 0, 1, 0, 0]) nm0_impl_differentKeys (kt0_impl_differentKeys (fin_impl_differentKeys list0 kk)) n (can0_impl_differentKeys list0 xt6 xt7)) = L0_impl_differentKeys list0 xt6 (fun r0 => kk (.one (.c (.v (.bool r0)))) []) n := by
      funext xt7; exact ih xt7
    rw [hb]
    rfl
theorem g_impl_differentKeys (list0 : List Int) (kk : AV → List A1 → Prop) :
    ev TT cs_impl_differentKeys 23 an_impl_differentKeys (Try.f82.body.getD .skip) (st0 con_impl_differentKeys [.c (.ro .int list0)]) (fin TT con_impl_differentKeys Try.f82.results.toList [.c .sc] [.c (.ro .int list0)] kk) = G_impl_differentKeys list0 (fun list0 xt6 xt7 => ∃ j, iter (evF TT cs_impl_differentKeys 23 an_impl_differentKeys Try.f82 [1, 0, 1, 0, 0]) nm0_impl_differentKeys (kt0_impl_differentKeys (fin_impl_differentKeys list0 kk)) j (can0_impl_differentKeys list0 xt6 xt7)) := by kernel_rfl
theorem e_impl_differentKeys (list0 : List Int) (kk : AV → List A1 → Prop) :
    ev TT cs_impl_differentKeys 23 an_impl_differentKeys (Try.f82.body.getD .skip) (st0 con_impl_differentKeys [.c (.ro .int list0)]) (fin TT con_impl_differentKeys Try.f82.results.toList [.c .sc] [.c (.ro .int list0)] kk) = S_impl_differentKeys list0 (fun r0 => kk (.one (.c (.v (.bool r0)))) []) := by
  rw [g_impl_differentKeys]
  have hi0 : (fun list0 xt6 xt7 => ∃ j, iter (evF TT cs_impl_differentKeys 23 an_impl_differentKeys Try.f82 [1, 0, 1, 0, 0]) nm0_impl_differentKeys (kt0_impl_differentKeys (fin_impl_differentKeys list0 kk)) j (can0_impl_differentKeys list0 xt6 xt7)) = (fun list0 xt6 xt7 => ∃ j, L0_impl_differentKeys list0 xt6 (fun r0 => kk (.one (.c (.v (.bool r0)))) []) j xt7) := by
    funext list0 xt6 xt7
    refine congrArg Exists (funext fun j => ?_)
    rw [l0_impl_differentKeys list0 xt6 kk j xt7]
  rw [hi0]
  rfl
theorem clok_impl_differentKeys : ConOK Try.prog cl_impl_differentKeys := consCons h_slices_Contains_sint_int ⟨Try.f57, Try.func57, by kernel_rfl, ne_of_beq (by kernel_rfl)⟩ (consCons h_impl_validKey ⟨Try.f60, Try.func60, by kernel_rfl, ne_of_beq (by kernel_rfl)⟩ (consNil))
theorem cok_impl_differentKeys : ConsOK Try.prog 23 cs_impl_differentKeys := ⟨clok_impl_differentKeys, inlNil⟩
theorem i_impl_differentKeys {vs : List A1} {kk : AV → List A1 → Prop} {motive : List A1 → Prop} (h : con_impl_differentKeys.F vs kk) (H : ∀ (list0 : List Int), F_impl_differentKeys list0 (fun r0 => kk (.one (.c (.v (.bool r0)))) []) → motive [.c (.ro .int list0)]) : motive vs := by
  unfold con_impl_differentKeys at h
  dsimp only at h
  split at h
  · exact H _ h
  · exact h.elim
theorem h_impl_differentKeys : Holds Try.prog 82 con_impl_differentKeys := by
  refine holds_of_ev (rt := [.c .sc]) (T := TT) (Γ := cs_impl_differentKeys) (an := an_impl_differentKeys) (N := 23) (c := Try.f82.body.getD .skip) Try.func82 (by kernel_rfl) Try.ntmps82 (by decide) (by decide) mixed tabOK cok_impl_differentKeys (by kernel_rfl) ?_
  intro vs kk _ hF
  exact i_impl_differentKeys (motive := fun vs => Goes (ev TT cs_impl_differentKeys 23 an_impl_differentKeys (Try.f82.body.getD .skip) (st0 con_impl_differentKeys vs) (fin TT con_impl_differentKeys Try.f82.results.toList [.c .sc] vs kk))) hF (fun list0 hF => goes_of (e_impl_differentKeys list0 kk) (F_impl_differentKeys_S hF))
def con_impl_ValidKeys : Con := ⟨[.rd, .rd], true, [.c (.sl .int), .c (.sc)], fun vs k => match vs with
    | [.c (.ro .int list0), .c (.v (.int .i64 room1))] => F_impl_ValidKeys list0 room1 (fun r0 => k (.one (.c (.v (.bool r0)))) [])
    | _ => False, false⟩
def cl_impl_ValidKeys : List (FuncId × Con) := [(66, con_impl_validRoom), (82, con_impl_differentKeys)]
def an_impl_ValidKeys : Ann := ⟨[], [], []⟩
def cs_impl_ValidKeys : Cons := ⟨cl_impl_ValidKeys, [], 0, [], []⟩
def fin_impl_ValidKeys (list0 : List Int) (room1 : Int) (kk : AV → List A1 → Prop) : Kt := fin TT con_impl_ValidKeys Try.f56.results.toList [.c .sc] [.c (.ro .int list0), .c (.v (.int .i64 room1))] kk
theorem g_impl_ValidKeys (list0 : List Int) (room1 : Int) (kk : AV → List A1 → Prop) :
    ev TT cs_impl_ValidKeys 17 an_impl_ValidKeys (Try.f56.body.getD .skip) (st0 con_impl_ValidKeys [.c (.ro .int list0), .c (.v (.int .i64 room1))]) (fin TT con_impl_ValidKeys Try.f56.results.toList [.c .sc] [.c (.ro .int list0), .c (.v (.int .i64 room1))] kk) = G_impl_ValidKeys list0 room1 (fun r0 => kk (.one (.c (.v (.bool r0)))) []) := by kernel_rfl
theorem e_impl_ValidKeys (list0 : List Int) (room1 : Int) (kk : AV → List A1 → Prop) :
    ev TT cs_impl_ValidKeys 17 an_impl_ValidKeys (Try.f56.body.getD .skip) (st0 con_impl_ValidKeys [.c (.ro .int list0), .c (.v (.int .i64 room1))]) (fin TT con_impl_ValidKeys Try.f56.results.toList [.c .sc] [.c (.ro .int list0), .c (.v (.int .i64 room1))] kk) = S_impl_ValidKeys list0 room1 (fun r0 => kk (.one (.c (.v (.bool r0)))) []) := by
  rw [g_impl_ValidKeys]
  rfl
theorem clok_impl_ValidKeys : ConOK Try.prog cl_impl_ValidKeys := consCons h_impl_validRoom ⟨Try.f66, Try.func66, by kernel_rfl, ne_of_beq (by kernel_rfl)⟩ (consCons h_impl_differentKeys ⟨Try.f82, Try.func82, by kernel_rfl, ne_of_beq (by kernel_rfl)⟩ (consNil))
theorem cok_impl_ValidKeys : ConsOK Try.prog 17 cs_impl_ValidKeys := ⟨clok_impl_ValidKeys, inlNil⟩
theorem i_impl_ValidKeys {vs : List A1} {kk : AV → List A1 → Prop} {motive : List A1 → Prop} (h : con_impl_ValidKeys.F vs kk) (H : ∀ (list0 : List Int) (room1 : Int), F_impl_ValidKeys list0 room1 (fun r0 => kk (.one (.c (.v (.bool r0)))) []) → motive [.c (.ro .int list0), .c (.v (.int .i64 room1))]) : motive vs := by
  unfold con_impl_ValidKeys at h
  dsimp only at h
  split at h
  · exact H _ _ h
  · exact h.elim
theorem h_impl_ValidKeys : Holds Try.prog 56 con_impl_ValidKeys := by
  refine holds_of_ev (rt := [.c .sc]) (T := TT) (Γ := cs_impl_ValidKeys) (an := an_impl_ValidKeys) (N := 17) (c := Try.f56.body.getD .skip) Try.func56 (by kernel_rfl) Try.ntmps56 (by decide) (by decide) mixed tabOK cok_impl_ValidKeys (by kernel_rfl) ?_
  intro vs kk _ hF
  exact i_impl_ValidKeys (motive := fun vs => Goes (ev TT cs_impl_ValidKeys 17 an_impl_ValidKeys (Try.f56.body.getD .skip) (st0 con_impl_ValidKeys vs) (fin TT con_impl_ValidKeys Try.f56.results.toList [.c .sc] vs kk))) hF (fun list0 room1 hF => goes_of (e_impl_ValidKeys list0 room1 kk) (F_impl_ValidKeys_S hF))
def con_impl_ValidSegments : Con := ⟨[.rd], true, [.agg [.sc, .sc, .sl .int, .sl .int]], fun vs k => match vs with
    | [.agg [.v (.int .i64 s0Trial), .v (.int .i64 s0Safe), .ro .int s0New, .ro .int s0Old]] => F_impl_ValidSegments s0Trial s0Safe s0New s0Old (fun r0 => k (.one (.c (.v (.bool r0)))) [])
    | _ => False, false⟩
def cl_impl_ValidSegments : List (FuncId × Con) := [(56, con_impl_ValidKeys), (57, con_slices_Contains_sint_int)]
def nm0_impl_ValidSegments : List NStep := [.keep [1, 20, 21, 22] [16]]
def an_impl_ValidSegments : Ann := ⟨[], [(4, nm0_impl_ValidSegments)], []⟩
def cs_impl_ValidSegments : Cons := ⟨cl_impl_ValidSegments, [], 0, [], []⟩
def can0_impl_ValidSegments (s0New : List Int) (s0Old : List Int) (s0Safe : Int) (s0Trial : Int) (xt21 : Int) (xt22 : Int) : St := ⟨[(1, .one (.c (.pb 16 0))), (20, .one (.c (.ro .int s0New))), (21, .one (.c (.v (.int .i64 xt21)))), (22, .one (.c (.v (.int .i64 xt22))))], [(16, .box [.v (.int .i64 s0Trial), .v (.int .i64 s0Safe), .ro .int s0New, .ro .int s0Old])]⟩
def fin_impl_ValidSegments (s0Trial : Int) (s0Safe : Int) (s0New : List Int) (s0Old : List Int) (kk : AV → List A1 → Prop) : Kt := fin TT con_impl_ValidSegments Try.f26.results.toList [.c .sc] [.agg [.v (.int .i64 s0Trial), .v (.int .i64 s0Safe), .ro .int s0New, .ro .int s0Old]] kk
def kt0_impl_ValidSegments (kf : Kt) : Kt := blockK 0 (seqK (evF TT cs_impl_ValidSegments 31 an_impl_ValidSegments Try.f26 [1, 1, 1]) (kf))
theorem r0_impl_ValidSegments (s0Trial : Int) (s0Safe : Int) (s0New : List Int) (s0Old : List Int) (xt21 : Int) (kk : AV → List A1 → Prop) (n : Nat) (xt22 : Int) :
    iter (evF TT cs_impl_ValidSegments 31 an_impl_ValidSegments Try.f26 [1, 1, 0, 1, 0, 0]) nm0_impl_ValidSegments (kt0_impl_ValidSegments (fin_impl_ValidSegments s0Trial s0Safe s0New s0Old kk)) (n + 1) (can0_impl_ValidSegments s0New s0Old s0Safe s0Trial xt21 xt22) = T0_impl_ValidSegments s0New s0Old s0Safe s0Trial xt21 xt22 (fun r0 => kk (.one (.c (.v (.bool r0)))) []) (fun xt22 => iter (evF TT cs_impl_ValidSegments 31 an_impl_ValidSegments Try.f26 [1, 1, 0, 1, 0, 0]) nm0_impl_ValidSegments (kt0_impl_ValidSegments (fin_impl_ValidSegments s0Trial s0Safe s0New s0Old kk)) n (can0_impl_ValidSegments s0New s0Old s0Safe s0Trial xt21 xt22)) := by kernel_rfl
theorem l0_impl_ValidSegments (s0Trial : Int) (s0Safe : Int) (s0New : List Int) (s0Old : List Int) (xt21 : Int) (kk : AV → List A1 → Prop) : ∀ (n : Nat) (xt22 : Int), iter (evF TT cs_impl_ValidSegments 31 an_impl_ValidSegments Try.f26 [1, 1, 0, 1, 0, 0]) nm0_impl_ValidSegments (kt0_impl_ValidSegments (fin_impl_ValidSegments s0Trial s0Safe s0New s0Old kk)) n (can0_impl_ValidSegments s0New s0Old s0Safe s0Trial xt21 xt22) = L0_impl_ValidSegments s0New s0Old s0Safe s0Trial xt21 (fun r0 => kk (.one (.c (.v (.bool r0)))) []) n xt22 := by
  intro n
  induction n with
  | zero => intros; rfl
  | succ n ih =>
    intro xt22
    rw [r0_impl_ValidSegments s0Trial s0Safe s0New s0Old xt21 kk n xt22]
    have hb : (fun xt22 => iter (evF TT cs_impl_ValidSegments 31 an_impl_ValidSegments Try.f26 [1, 1, 0, 1, 0, 0]) nm0_impl_ValidSegments (kt0_impl_ValidSegments (fin_impl_ValidSegments s0Trial s0Safe s0New s0Old kk)) n (can0_impl_ValidSegments s0New s0Old s0Safe s0Trial xt21 xt22)) = L0_impl_ValidSegments s0New s0Old s0Safe s0Trial xt21 (fun r0 => kk (.one (.c (.v (.bool r0)))) []) n := by
      funext xt22; exact ih xt22
    rw [hb]
    rfl
theorem g_impl_ValidSegments (s0Trial : Int) (s0Safe : Int) (s0New : List Int) (s0Old : List Int) (kk : AV → List A1 → Prop) :
    ev TT cs_impl_ValidSegments 31 an_impl_ValidSegments (Try.f26.body.getD .skip) (st0 con_impl_ValidSegments [.agg [.v (.int .i64 s0Trial), .v (.int .i64 s0Safe), .ro .int s0New, .ro .int s0Old]]) (fin TT con_impl_ValidSegments Try.f26.results.toList [.c .sc] [.agg [.v (.int .i64 s0Trial), .v (.int .i64 s0Safe), .ro .int s0New, .ro .int s0Old]] kk) = G_impl_ValidSegments s0Trial s0Safe s0New s0Old (fun r0 => kk (.one (.c (.v (.bool r0)))) []) (fun s0New s0Old s0Safe s0Trial xt21 xt22 => ∃ j, iter (evF TT cs_impl_ValidSegments 31 an_impl_ValidSegments Try.f26 [1, 1, 0, 1, 0, 0]) nm0_impl_ValidSegments (kt0_impl_ValidSegments (fin_impl_ValidSegments s0Trial s0Safe s0New s0Old kk)) j (can0_impl_ValidSegments s0New s0Old s0Safe s0Trial xt21 xt22)) := by kernel_rfl
theorem e_impl_ValidSegments (s0Trial : Int) (s0Safe : Int) (s0New : List Int) (s0Old : List Int) (kk : AV → List A1 → Prop) :
    ev TT cs_impl_ValidSegments 31 an_impl_ValidSegments (Try.f26.body.getD .skip) (st0 con_impl_ValidSegments [.agg [.v (.int .i64 s0Trial), .v (.int .i64 s0Safe), .ro .int s0New, .ro .int s0Old]]) (fin TT con_impl_ValidSegments Try.f26.results.toList [.c .sc] [.agg [.v (.int .i64 s0Trial), .v (.int .i64 s0Safe), .ro .int s0New, .ro .int s0Old]] kk) = S_impl_ValidSegments s0Trial s0Safe s0New s0Old (fun r0 => kk (.one (.c (.v (.bool r0)))) []) := by
  rw [g_impl_ValidSegments]
  have hi0 : (fun s0New s0Old s0Safe s0Trial xt21 xt22 => ∃ j, iter (evF TT cs_impl_ValidSegments 31 an_impl_ValidSegments Try.f26 [1, 1, 0, 1, 0, 0]) nm0_impl_ValidSegments (kt0_impl_ValidSegments (fin_impl_ValidSegments s0Trial s0Safe s0New s0Old kk)) j (can0_impl_ValidSegments s0New s0Old s0Safe s0Trial xt21 xt22)) = (fun s0New s0Old s0Safe s0Trial xt21 xt22 => ∃ j, L0_impl_ValidSegments s0New s0Old s0Safe s0Trial xt21 (fun r0 => kk (.one (.c (.v (.bool r0)))) []) j xt22) := by
    funext s0New s0Old s0Safe s0Trial xt21 xt22
    refine congrArg Exists (funext fun j => ?_)
    rw [l0_impl_ValidSegments s0Trial s0Safe s0New s0Old xt21 kk j xt22]
  rw [hi0]
  rfl
theorem clok_impl_ValidSegments : ConOK Try.prog cl_impl_ValidSegments := consCons h_impl_ValidKeys ⟨Try.f56, Try.func56, by kernel_rfl, ne_of_beq (by kernel_rfl)⟩ (consCons h_slices_Contains_sint_int ⟨Try.f57, Try.func57, by kernel_rfl, ne_of_beq (by kernel_rfl)⟩ (consNil))
theorem cok_impl_ValidSegments : ConsOK Try.prog 31 cs_impl_ValidSegments := ⟨clok_impl_ValidSegments, inlNil⟩
theorem i_impl_ValidSegments {vs : List A1} {kk : AV → List A1 → Prop} {motive : List A1 → Prop} (h : con_impl_ValidSegments.F vs kk) (H : ∀ (s0Trial : Int) (s0Safe : Int) (s0New : List Int) (s0Old : List Int), F_impl_ValidSegments s0Trial s0Safe s0New s0Old (fun r0 => kk (.one (.c (.v (.bool r0)))) []) → motive [.agg [.v (.int .i64 s0Trial), .v (.int .i64 s0Safe), .ro .int s0New, .ro .int s0Old]]) : motive vs := by
  unfold con_impl_ValidSegments at h
  dsimp only at h
  split at h
  · exact H _ _ _ _ h
  · exact h.elim
theorem h_impl_ValidSegments : Holds Try.prog 26 con_impl_ValidSegments := by
  refine holds_of_ev (rt := [.c .sc]) (T := TT) (Γ := cs_impl_ValidSegments) (an := an_impl_ValidSegments) (N := 31) (c := Try.f26.body.getD .skip) Try.func26 (by kernel_rfl) Try.ntmps26 (by decide) (by decide) mixed tabOK cok_impl_ValidSegments (by kernel_rfl) ?_
  intro vs kk _ hF
  exact i_impl_ValidSegments (motive := fun vs => Goes (ev TT cs_impl_ValidSegments 31 an_impl_ValidSegments (Try.f26.body.getD .skip) (st0 con_impl_ValidSegments vs) (fin TT con_impl_ValidSegments Try.f26.results.toList [.c .sc] vs kk))) hF (fun s0Trial s0Safe s0New s0Old hF => goes_of (e_impl_ValidSegments s0Trial s0Safe s0New s0Old kk) (F_impl_ValidSegments_S hF))
def con_impl_withoutKey : Con := ⟨[.rd, .rd], true, [.c (.sl .int), .c (.sc)], fun vs k => match vs with
    | [.c (.ro .int list0), .c (.v (.int .i64 key1))] => F_impl_withoutKey list0 key1 (fun r0 => k (.one (.c (.ro .int r0))) [])
    | _ => False, false⟩
def cl_impl_withoutKey : List (FuncId × Con) := []
def nm0_impl_withoutKey : List NStep := [.own 5 .int 90000, .keep [1, 5, 9, 10, 11] [90000]]
def an_impl_withoutKey : Ann := ⟨[], [(3, nm0_impl_withoutKey)], []⟩
def cs_impl_withoutKey : Cons := ⟨cl_impl_withoutKey, [], 0, [], []⟩
def can0_impl_withoutKey (key1 : Int) (list0 : List Int) (xt10 : Int) (xt11 : Int) (xout5 : List Int) : St := ⟨[(1, .one (.c (.v (.int .i64 key1)))), (5, .one (.c (.ow 90000))), (9, .one (.c (.ro .int list0))), (10, .one (.c (.v (.int .i64 xt10)))), (11, .one (.c (.v (.int .i64 xt11))))], [(90000, .row .int xout5)]⟩
def fin_impl_withoutKey (list0 : List Int) (key1 : Int) (kk : AV → List A1 → Prop) : Kt := fin TT con_impl_withoutKey Try.f62.results.toList [.c (.sl .int)] [.c (.ro .int list0), .c (.v (.int .i64 key1))] kk
def kt0_impl_withoutKey (kf : Kt) : Kt := blockK 0 (seqK (evF TT cs_impl_withoutKey 24 an_impl_withoutKey Try.f62 [1, 1, 1]) (kf))
theorem r0_impl_withoutKey (list0 : List Int) (key1 : Int) (xt10 : Int) (kk : AV → List A1 → Prop) (n : Nat) (xt11 : Int) (xout5 : List Int) :
    iter (evF TT cs_impl_withoutKey 24 an_impl_withoutKey Try.f62 [1, 1, 0, 1, 0, 0]) nm0_impl_withoutKey (kt0_impl_withoutKey (fin_impl_withoutKey list0 key1 kk)) (n + 1) (can0_impl_withoutKey key1 list0 xt10 xt11 xout5) = T0_impl_withoutKey key1 list0 xt10 xt11 xout5 (fun r0 => kk (.one (.c (.ro .int r0))) []) (fun xt11 xout5 => iter (evF TT cs_impl_withoutKey 24 an_impl_withoutKey Try.f62 [1, 1, 0, 1, 0, 0]) nm0_impl_withoutKey (kt0_impl_withoutKey (fin_impl_withoutKey list0 key1 kk)) n (can0_impl_withoutKey key1 list0 xt10 xt11 xout5)) := by kernel_rfl
theorem l0_impl_withoutKey (list0 : List Int) (key1 : Int) (xt10 : Int) (kk : AV → List A1 → Prop) : ∀ (n : Nat) (xt11 : Int) (xout5 : List Int), iter (evF TT cs_impl_withoutKey 24 an_impl_withoutKey Try.f62 [1, 1, 0, 1, 0, 0]) nm0_impl_withoutKey (kt0_impl_withoutKey (fin_impl_withoutKey list0 key1 kk)) n (can0_impl_withoutKey key1 list0 xt10 xt11 xout5) = L0_impl_withoutKey key1 list0 xt10 (fun r0 => kk (.one (.c (.ro .int r0))) []) n xt11 xout5 := by
  intro n
  induction n with
  | zero => intros; rfl
  | succ n ih =>
    intro xt11 xout5
    rw [r0_impl_withoutKey list0 key1 xt10 kk n xt11 xout5]
    have hb : (fun xt11 xout5 => iter (evF TT cs_impl_withoutKey 24 an_impl_withoutKey Try.f62 [1, 1, 0, 1, 0, 0]) nm0_impl_withoutKey (kt0_impl_withoutKey (fin_impl_withoutKey list0 key1 kk)) n (can0_impl_withoutKey key1 list0 xt10 xt11 xout5)) = L0_impl_withoutKey key1 list0 xt10 (fun r0 => kk (.one (.c (.ro .int r0))) []) n := by
      funext xt11 xout5; exact ih xt11 xout5
    rw [hb]
    rfl
theorem g_impl_withoutKey (list0 : List Int) (key1 : Int) (kk : AV → List A1 → Prop) :
    ev TT cs_impl_withoutKey 24 an_impl_withoutKey (Try.f62.body.getD .skip) (st0 con_impl_withoutKey [.c (.ro .int list0), .c (.v (.int .i64 key1))]) (fin TT con_impl_withoutKey Try.f62.results.toList [.c (.sl .int)] [.c (.ro .int list0), .c (.v (.int .i64 key1))] kk) = G_impl_withoutKey list0 key1 (fun key1 list0 xt10 xt11 xout5 => ∃ j, iter (evF TT cs_impl_withoutKey 24 an_impl_withoutKey Try.f62 [1, 1, 0, 1, 0, 0]) nm0_impl_withoutKey (kt0_impl_withoutKey (fin_impl_withoutKey list0 key1 kk)) j (can0_impl_withoutKey key1 list0 xt10 xt11 xout5)) := by kernel_rfl
theorem e_impl_withoutKey (list0 : List Int) (key1 : Int) (kk : AV → List A1 → Prop) :
    ev TT cs_impl_withoutKey 24 an_impl_withoutKey (Try.f62.body.getD .skip) (st0 con_impl_withoutKey [.c (.ro .int list0), .c (.v (.int .i64 key1))]) (fin TT con_impl_withoutKey Try.f62.results.toList [.c (.sl .int)] [.c (.ro .int list0), .c (.v (.int .i64 key1))] kk) = S_impl_withoutKey list0 key1 (fun r0 => kk (.one (.c (.ro .int r0))) []) := by
  rw [g_impl_withoutKey]
  have hi0 : (fun key1 list0 xt10 xt11 xout5 => ∃ j, iter (evF TT cs_impl_withoutKey 24 an_impl_withoutKey Try.f62 [1, 1, 0, 1, 0, 0]) nm0_impl_withoutKey (kt0_impl_withoutKey (fin_impl_withoutKey list0 key1 kk)) j (can0_impl_withoutKey key1 list0 xt10 xt11 xout5)) = (fun key1 list0 xt10 xt11 xout5 => ∃ j, L0_impl_withoutKey key1 list0 xt10 (fun r0 => kk (.one (.c (.ro .int r0))) []) j xt11 xout5) := by
    funext key1 list0 xt10 xt11 xout5
    refine congrArg Exists (funext fun j => ?_)
    rw [l0_impl_withoutKey list0 key1 xt10 kk j xt11 xout5]
  rw [hi0]
  rfl
theorem clok_impl_withoutKey : ConOK Try.prog cl_impl_withoutKey := consNil
theorem cok_impl_withoutKey : ConsOK Try.prog 24 cs_impl_withoutKey := ⟨clok_impl_withoutKey, inlNil⟩
theorem i_impl_withoutKey {vs : List A1} {kk : AV → List A1 → Prop} {motive : List A1 → Prop} (h : con_impl_withoutKey.F vs kk) (H : ∀ (list0 : List Int) (key1 : Int), F_impl_withoutKey list0 key1 (fun r0 => kk (.one (.c (.ro .int r0))) []) → motive [.c (.ro .int list0), .c (.v (.int .i64 key1))]) : motive vs := by
  unfold con_impl_withoutKey at h
  dsimp only at h
  split at h
  · exact H _ _ h
  · exact h.elim
theorem h_impl_withoutKey : Holds Try.prog 62 con_impl_withoutKey := by
  refine holds_of_ev (rt := [.c (.sl .int)]) (T := TT) (Γ := cs_impl_withoutKey) (an := an_impl_withoutKey) (N := 24) (c := Try.f62.body.getD .skip) Try.func62 (by kernel_rfl) Try.ntmps62 (by decide) (by decide) mixed tabOK cok_impl_withoutKey (by kernel_rfl) ?_
  intro vs kk _ hF
  exact i_impl_withoutKey (motive := fun vs => Goes (ev TT cs_impl_withoutKey 24 an_impl_withoutKey (Try.f62.body.getD .skip) (st0 con_impl_withoutKey vs) (fin TT con_impl_withoutKey Try.f62.results.toList [.c (.sl .int)] vs kk))) hF (fun list0 key1 hF => goes_of (e_impl_withoutKey list0 key1 kk) (F_impl_withoutKey_S hF))
def con_impl_putFirst : Con := ⟨[.rd, .rd], true, [.c (.sl .int), .c (.sc)], fun vs k => match vs with
    | [.c (.ro .int list0), .c (.v (.int .i64 key1))] => F_impl_putFirst list0 key1 (fun r0 => k (.one (.c (.ro .int r0))) [])
    | _ => False, false⟩
def cl_impl_putFirst : List (FuncId × Con) := []
def an_impl_putFirst : Ann := ⟨[], [], []⟩
def cs_impl_putFirst : Cons := ⟨cl_impl_putFirst, [], 0, [], []⟩
def fin_impl_putFirst (list0 : List Int) (key1 : Int) (kk : AV → List A1 → Prop) : Kt := fin TT con_impl_putFirst Try.f78.results.toList [.c (.sl .int)] [.c (.ro .int list0), .c (.v (.int .i64 key1))] kk
theorem g_impl_putFirst (list0 : List Int) (key1 : Int) (kk : AV → List A1 → Prop) :
    ev TT cs_impl_putFirst 9 an_impl_putFirst (Try.f78.body.getD .skip) (st0 con_impl_putFirst [.c (.ro .int list0), .c (.v (.int .i64 key1))]) (fin TT con_impl_putFirst Try.f78.results.toList [.c (.sl .int)] [.c (.ro .int list0), .c (.v (.int .i64 key1))] kk) = G_impl_putFirst list0 key1 (fun r0 => kk (.one (.c (.ro .int r0))) []) := by kernel_rfl
theorem e_impl_putFirst (list0 : List Int) (key1 : Int) (kk : AV → List A1 → Prop) :
    ev TT cs_impl_putFirst 9 an_impl_putFirst (Try.f78.body.getD .skip) (st0 con_impl_putFirst [.c (.ro .int list0), .c (.v (.int .i64 key1))]) (fin TT con_impl_putFirst Try.f78.results.toList [.c (.sl .int)] [.c (.ro .int list0), .c (.v (.int .i64 key1))] kk) = S_impl_putFirst list0 key1 (fun r0 => kk (.one (.c (.ro .int r0))) []) := by
  rw [g_impl_putFirst]
  rfl
theorem clok_impl_putFirst : ConOK Try.prog cl_impl_putFirst := consNil
theorem cok_impl_putFirst : ConsOK Try.prog 9 cs_impl_putFirst := ⟨clok_impl_putFirst, inlNil⟩
theorem i_impl_putFirst {vs : List A1} {kk : AV → List A1 → Prop} {motive : List A1 → Prop} (h : con_impl_putFirst.F vs kk) (H : ∀ (list0 : List Int) (key1 : Int), F_impl_putFirst list0 key1 (fun r0 => kk (.one (.c (.ro .int r0))) []) → motive [.c (.ro .int list0), .c (.v (.int .i64 key1))]) : motive vs := by
  unfold con_impl_putFirst at h
  dsimp only at h
  split at h
  · exact H _ _ h
  · exact h.elim
theorem h_impl_putFirst : Holds Try.prog 78 con_impl_putFirst := by
  refine holds_of_ev (rt := [.c (.sl .int)]) (T := TT) (Γ := cs_impl_putFirst) (an := an_impl_putFirst) (N := 9) (c := Try.f78.body.getD .skip) Try.func78 (by kernel_rfl) Try.ntmps78 (by decide) (by decide) mixed tabOK cok_impl_putFirst (by kernel_rfl) ?_
  intro vs kk _ hF
  exact i_impl_putFirst (motive := fun vs => Goes (ev TT cs_impl_putFirst 9 an_impl_putFirst (Try.f78.body.getD .skip) (st0 con_impl_putFirst vs) (fin TT con_impl_putFirst Try.f78.results.toList [.c (.sl .int)] vs kk))) hF (fun list0 key1 hF => goes_of (e_impl_putFirst list0 key1 kk) (F_impl_putFirst_S hF))
def con_impl_UseRecent : Con := ⟨[.rd, .rd, .rd], true, [.c (.sl .int), .c (.sc), .c (.sc)], fun vs k => match vs with
    | [.c (.ro .int list0), .c (.v (.int .i64 room1)), .c (.v (.int .i64 key2))] => F_impl_UseRecent list0 room1 key2 (fun r0 r1 => k (.tup [.c (.ro .int r0), .c (.v (.bool r1))]) [])
    | _ => False, false⟩
def cl_impl_UseRecent : List (FuncId × Con) := [(56, con_impl_ValidKeys), (57, con_slices_Contains_sint_int), (60, con_impl_validKey), (62, con_impl_withoutKey), (78, con_impl_putFirst)]
def an_impl_UseRecent : Ann := ⟨[(4, .take 0 (.take 1 (.take 2 (.take 3 (.take 4 (.take 5 (.take 6 (.take 7 (.alt 8 (.take 9 (.take 10 (.done))) (.none))))))))), [])], [], []⟩
def cs_impl_UseRecent : Cons := ⟨cl_impl_UseRecent, [], 0, [], []⟩
def fin_impl_UseRecent (list0 : List Int) (room1 : Int) (key2 : Int) (kk : AV → List A1 → Prop) : Kt := fin TT con_impl_UseRecent Try.f61.results.toList [.c (.sl .int), .c .sc] [.c (.ro .int list0), .c (.v (.int .i64 room1)), .c (.v (.int .i64 key2))] kk
theorem g_impl_UseRecent (list0 : List Int) (room1 : Int) (key2 : Int) (kk : AV → List A1 → Prop) :
    ev TT cs_impl_UseRecent 32 an_impl_UseRecent (Try.f61.body.getD .skip) (st0 con_impl_UseRecent [.c (.ro .int list0), .c (.v (.int .i64 room1)), .c (.v (.int .i64 key2))]) (fin TT con_impl_UseRecent Try.f61.results.toList [.c (.sl .int), .c .sc] [.c (.ro .int list0), .c (.v (.int .i64 room1)), .c (.v (.int .i64 key2))] kk) = G_impl_UseRecent list0 room1 key2 (fun r0 r1 => kk (.tup [.c (.ro .int r0), .c (.v (.bool r1))]) []) := by kernel_rfl
theorem e_impl_UseRecent (list0 : List Int) (room1 : Int) (key2 : Int) (kk : AV → List A1 → Prop) :
    ev TT cs_impl_UseRecent 32 an_impl_UseRecent (Try.f61.body.getD .skip) (st0 con_impl_UseRecent [.c (.ro .int list0), .c (.v (.int .i64 room1)), .c (.v (.int .i64 key2))]) (fin TT con_impl_UseRecent Try.f61.results.toList [.c (.sl .int), .c .sc] [.c (.ro .int list0), .c (.v (.int .i64 room1)), .c (.v (.int .i64 key2))] kk) = S_impl_UseRecent list0 room1 key2 (fun r0 r1 => kk (.tup [.c (.ro .int r0), .c (.v (.bool r1))]) []) := by
  rw [g_impl_UseRecent]
  rw [G_impl_UseRecent_eq]
  rfl
theorem clok_impl_UseRecent : ConOK Try.prog cl_impl_UseRecent := consCons h_impl_ValidKeys ⟨Try.f56, Try.func56, by kernel_rfl, ne_of_beq (by kernel_rfl)⟩ (consCons h_slices_Contains_sint_int ⟨Try.f57, Try.func57, by kernel_rfl, ne_of_beq (by kernel_rfl)⟩ (consCons h_impl_validKey ⟨Try.f60, Try.func60, by kernel_rfl, ne_of_beq (by kernel_rfl)⟩ (consCons h_impl_withoutKey ⟨Try.f62, Try.func62, by kernel_rfl, ne_of_beq (by kernel_rfl)⟩ (consCons h_impl_putFirst ⟨Try.f78, Try.func78, by kernel_rfl, ne_of_beq (by kernel_rfl)⟩ (consNil)))))
theorem cok_impl_UseRecent : ConsOK Try.prog 32 cs_impl_UseRecent := ⟨clok_impl_UseRecent, inlNil⟩
theorem i_impl_UseRecent {vs : List A1} {kk : AV → List A1 → Prop} {motive : List A1 → Prop} (h : con_impl_UseRecent.F vs kk) (H : ∀ (list0 : List Int) (room1 : Int) (key2 : Int), F_impl_UseRecent list0 room1 key2 (fun r0 r1 => kk (.tup [.c (.ro .int r0), .c (.v (.bool r1))]) []) → motive [.c (.ro .int list0), .c (.v (.int .i64 room1)), .c (.v (.int .i64 key2))]) : motive vs := by
  unfold con_impl_UseRecent at h
  dsimp only at h
  split at h
  · exact H _ _ _ h
  · exact h.elim
theorem h_impl_UseRecent : Holds Try.prog 61 con_impl_UseRecent := by
  refine holds_of_ev (rt := [.c (.sl .int), .c .sc]) (T := TT) (Γ := cs_impl_UseRecent) (an := an_impl_UseRecent) (N := 32) (c := Try.f61.body.getD .skip) Try.func61 (by kernel_rfl) Try.ntmps61 (by decide) (by decide) mixed tabOK cok_impl_UseRecent (by kernel_rfl) ?_
  intro vs kk _ hF
  exact i_impl_UseRecent (motive := fun vs => Goes (ev TT cs_impl_UseRecent 32 an_impl_UseRecent (Try.f61.body.getD .skip) (st0 con_impl_UseRecent vs) (fin TT con_impl_UseRecent Try.f61.results.toList [.c (.sl .int), .c .sc] vs kk))) hF (fun list0 room1 key2 hF => goes_of (e_impl_UseRecent list0 room1 key2 kk) (F_impl_UseRecent_S hF))
def con_impl_UseSegments : Con := ⟨[.rd, .rd], true, [.agg [.sc, .sc, .sl .int, .sl .int], .c (.sc)], fun vs k => match vs with
    | [.agg [.v (.int .i64 s0Trial), .v (.int .i64 s0Safe), .ro .int s0New, .ro .int s0Old], .c (.v (.int .i64 key1))] => F_impl_UseSegments s0Trial s0Safe s0New s0Old key1 (fun r0 r1 r2 r3 r4 => k (.tup [.agg [.v (.int .i64 r0), .v (.int .i64 r1), .ro .int r2, .ro .int r3], .c (.v (.bool r4))]) [])
    | _ => False, false⟩
def cl_impl_UseSegments : List (FuncId × Con) := [(26, con_impl_ValidSegments), (57, con_slices_Contains_sint_int), (60, con_impl_validKey), (61, con_impl_UseRecent), (62, con_impl_withoutKey)]
def an_impl_UseSegments : Ann := ⟨[(14, .take 0 (.take 2 (.take 3 (.take 4 (.take 5 (.take 6 (.take 7 (.take 8 (.alt 1 (.alt 9 (.alt 10 (.take 11 (.alt 12 (.done) (.none))) (.none)) (.none)) (.alt 9 (.alt 1 (.alt 10 (.take 11 (.alt 12 (.done) (.none))) (.none)) (.none)) (.none)))))))))), [32]), (15, .take 0 (.take 2 (.take 3 (.take 4 (.alt 1 (.alt 5 (.alt 6 (.take 7 (.alt 8 (.done) (.none))) (.none)) (.none)) (.alt 5 (.alt 1 (.alt 6 (.take 7 (.alt 8 (.done) (.none))) (.none)) (.none)) (.none)))))), [32])], [], []⟩
def cs_impl_UseSegments : Cons := ⟨cl_impl_UseSegments, [], 0, [], []⟩
def fin_impl_UseSegments (s0Trial : Int) (s0Safe : Int) (s0New : List Int) (s0Old : List Int) (key1 : Int) (kk : AV → List A1 → Prop) : Kt := fin TT con_impl_UseSegments Try.f29.results.toList [.agg [.sc, .sc, .sl .int, .sl .int], .c .sc] [.agg [.v (.int .i64 s0Trial), .v (.int .i64 s0Safe), .ro .int s0New, .ro .int s0Old], .c (.v (.int .i64 key1))] kk
theorem g_impl_UseSegments (s0Trial : Int) (s0Safe : Int) (s0New : List Int) (s0Old : List Int) (key1 : Int) (kk : AV → List A1 → Prop) :
    ev TT cs_impl_UseSegments 101 an_impl_UseSegments (Try.f29.body.getD .skip) (st0 con_impl_UseSegments [.agg [.v (.int .i64 s0Trial), .v (.int .i64 s0Safe), .ro .int s0New, .ro .int s0Old], .c (.v (.int .i64 key1))]) (fin TT con_impl_UseSegments Try.f29.results.toList [.agg [.sc, .sc, .sl .int, .sl .int], .c .sc] [.agg [.v (.int .i64 s0Trial), .v (.int .i64 s0Safe), .ro .int s0New, .ro .int s0Old], .c (.v (.int .i64 key1))] kk) = G_impl_UseSegments s0Trial s0Safe s0New s0Old key1 (fun r0 r1 r2 r3 r4 => kk (.tup [.agg [.v (.int .i64 r0), .v (.int .i64 r1), .ro .int r2, .ro .int r3], .c (.v (.bool r4))]) []) := by kernel_rfl
theorem e_impl_UseSegments (s0Trial : Int) (s0Safe : Int) (s0New : List Int) (s0Old : List Int) (key1 : Int) (kk : AV → List A1 → Prop) :
    ev TT cs_impl_UseSegments 101 an_impl_UseSegments (Try.f29.body.getD .skip) (st0 con_impl_UseSegments [.agg [.v (.int .i64 s0Trial), .v (.int .i64 s0Safe), .ro .int s0New, .ro .int s0Old], .c (.v (.int .i64 key1))]) (fin TT con_impl_UseSegments Try.f29.results.toList [.agg [.sc, .sc, .sl .int, .sl .int], .c .sc] [.agg [.v (.int .i64 s0Trial), .v (.int .i64 s0Safe), .ro .int s0New, .ro .int s0Old], .c (.v (.int .i64 key1))] kk) = S_impl_UseSegments s0Trial s0Safe s0New s0Old key1 (fun r0 r1 r2 r3 r4 => kk (.tup [.agg [.v (.int .i64 r0), .v (.int .i64 r1), .ro .int r2, .ro .int r3], .c (.v (.bool r4))]) []) := by
  rw [g_impl_UseSegments]
  rw [G_impl_UseSegments_eq]
  rfl
theorem clok_impl_UseSegments : ConOK Try.prog cl_impl_UseSegments := consCons h_impl_ValidSegments ⟨Try.f26, Try.func26, by kernel_rfl, ne_of_beq (by kernel_rfl)⟩ (consCons h_slices_Contains_sint_int ⟨Try.f57, Try.func57, by kernel_rfl, ne_of_beq (by kernel_rfl)⟩ (consCons h_impl_validKey ⟨Try.f60, Try.func60, by kernel_rfl, ne_of_beq (by kernel_rfl)⟩ (consCons h_impl_UseRecent ⟨Try.f61, Try.func61, by kernel_rfl, ne_of_beq (by kernel_rfl)⟩ (consCons h_impl_withoutKey ⟨Try.f62, Try.func62, by kernel_rfl, ne_of_beq (by kernel_rfl)⟩ (consNil)))))
theorem cok_impl_UseSegments : ConsOK Try.prog 101 cs_impl_UseSegments := ⟨clok_impl_UseSegments, inlNil⟩
theorem i_impl_UseSegments {vs : List A1} {kk : AV → List A1 → Prop} {motive : List A1 → Prop} (h : con_impl_UseSegments.F vs kk) (H : ∀ (s0Trial : Int) (s0Safe : Int) (s0New : List Int) (s0Old : List Int) (key1 : Int), F_impl_UseSegments s0Trial s0Safe s0New s0Old key1 (fun r0 r1 r2 r3 r4 => kk (.tup [.agg [.v (.int .i64 r0), .v (.int .i64 r1), .ro .int r2, .ro .int r3], .c (.v (.bool r4))]) []) → motive [.agg [.v (.int .i64 s0Trial), .v (.int .i64 s0Safe), .ro .int s0New, .ro .int s0Old], .c (.v (.int .i64 key1))]) : motive vs := by
  unfold con_impl_UseSegments at h
  dsimp only at h
  split at h
  · exact H _ _ _ _ _ h
  · exact h.elim
theorem h_impl_UseSegments : Holds Try.prog 29 con_impl_UseSegments := by
  refine holds_of_ev (rt := [.agg [.sc, .sc, .sl .int, .sl .int], .c .sc]) (T := TT) (Γ := cs_impl_UseSegments) (an := an_impl_UseSegments) (N := 101) (c := Try.f29.body.getD .skip) Try.func29 (by kernel_rfl) Try.ntmps29 (by decide) (by decide) mixed tabOK cok_impl_UseSegments (by kernel_rfl) ?_
  intro vs kk _ hF
  exact i_impl_UseSegments (motive := fun vs => Goes (ev TT cs_impl_UseSegments 101 an_impl_UseSegments (Try.f29.body.getD .skip) (st0 con_impl_UseSegments vs) (fin TT con_impl_UseSegments Try.f29.results.toList [.agg [.sc, .sc, .sl .int, .sl .int], .c .sc] vs kk))) hF (fun s0Trial s0Safe s0New s0Old key1 hF => goes_of (e_impl_UseSegments s0Trial s0Safe s0New s0Old key1 kk) (F_impl_UseSegments_S hF))
def con_spec_inRange : Con := ⟨[.rd, .rd, .rd], true, [.c (.sc), .c (.sc), .c (.sc)], fun vs k => match vs with
    | [.c (.v (.int .i64 n0)), .c (.v (.int .i64 low1)), .c (.v (.int .i64 high2))] => F_spec_inRange n0 low1 high2 (fun r0 => k (.one (.c (.v (.bool r0)))) [])
    | _ => False, false⟩
def cl_spec_inRange : List (FuncId × Con) := []
def an_spec_inRange : Ann := ⟨[], [], []⟩
def cs_spec_inRange : Cons := ⟨cl_spec_inRange, [], 0, [], []⟩
def fin_spec_inRange (n0 : Int) (low1 : Int) (high2 : Int) (kk : AV → List A1 → Prop) : Kt := fin TT con_spec_inRange Try.f49.results.toList [.c .sc] [.c (.v (.int .i64 n0)), .c (.v (.int .i64 low1)), .c (.v (.int .i64 high2))] kk
theorem g_spec_inRange (n0 : Int) (low1 : Int) (high2 : Int) (kk : AV → List A1 → Prop) :
    ev TT cs_spec_inRange 15 an_spec_inRange (Try.f49.body.getD .skip) (st0 con_spec_inRange [.c (.v (.int .i64 n0)), .c (.v (.int .i64 low1)), .c (.v (.int .i64 high2))]) (fin TT con_spec_inRange Try.f49.results.toList [.c .sc] [.c (.v (.int .i64 n0)), .c (.v (.int .i64 low1)), .c (.v (.int .i64 high2))] kk) = G_spec_inRange n0 low1 high2 (fun r0 => kk (.one (.c (.v (.bool r0)))) []) := by kernel_rfl
theorem e_spec_inRange (n0 : Int) (low1 : Int) (high2 : Int) (kk : AV → List A1 → Prop) :
    ev TT cs_spec_inRange 15 an_spec_inRange (Try.f49.body.getD .skip) (st0 con_spec_inRange [.c (.v (.int .i64 n0)), .c (.v (.int .i64 low1)), .c (.v (.int .i64 high2))]) (fin TT con_spec_inRange Try.f49.results.toList [.c .sc] [.c (.v (.int .i64 n0)), .c (.v (.int .i64 low1)), .c (.v (.int .i64 high2))] kk) = S_spec_inRange n0 low1 high2 (fun r0 => kk (.one (.c (.v (.bool r0)))) []) := by
  rw [g_spec_inRange]
  rfl
theorem clok_spec_inRange : ConOK Try.prog cl_spec_inRange := consNil
theorem cok_spec_inRange : ConsOK Try.prog 15 cs_spec_inRange := ⟨clok_spec_inRange, inlNil⟩
theorem i_spec_inRange {vs : List A1} {kk : AV → List A1 → Prop} {motive : List A1 → Prop} (h : con_spec_inRange.F vs kk) (H : ∀ (n0 : Int) (low1 : Int) (high2 : Int), F_spec_inRange n0 low1 high2 (fun r0 => kk (.one (.c (.v (.bool r0)))) []) → motive [.c (.v (.int .i64 n0)), .c (.v (.int .i64 low1)), .c (.v (.int .i64 high2))]) : motive vs := by
  unfold con_spec_inRange at h
  dsimp only at h
  split at h
  · exact H _ _ _ h
  · exact h.elim
theorem h_spec_inRange : Holds Try.prog 49 con_spec_inRange := by
  refine holds_of_ev (rt := [.c .sc]) (T := TT) (Γ := cs_spec_inRange) (an := an_spec_inRange) (N := 15) (c := Try.f49.body.getD .skip) Try.func49 (by kernel_rfl) Try.ntmps49 (by decide) (by decide) mixed tabOK cok_spec_inRange (by kernel_rfl) ?_
  intro vs kk _ hF
  exact i_spec_inRange (motive := fun vs => Goes (ev TT cs_spec_inRange 15 an_spec_inRange (Try.f49.body.getD .skip) (st0 con_spec_inRange vs) (fin TT con_spec_inRange Try.f49.results.toList [.c .sc] vs kk))) hF (fun n0 low1 high2 hF => goes_of (e_spec_inRange n0 low1 high2 kk) (F_spec_inRange_S hF))
def con_spec_allIn : Con := ⟨[.rd, .rd, .rd], true, [.c (.sl .int), .c (.sc), .c (.sc)], fun vs k => match vs with
    | [.c (.ro .int list0), .c (.v (.int .i64 low1)), .c (.v (.int .i64 high2))] => F_spec_allIn list0 low1 high2 (fun r0 => k (.one (.c (.v (.bool r0)))) [])
    | _ => False, false⟩
def cl_spec_allIn : List (FuncId × Con) := [(49, con_spec_inRange)]
def nm0_spec_allIn : List NStep := [.keep [0, 1, 2, 7] []]
def an_spec_allIn : Ann := ⟨[], [(2, nm0_spec_allIn)], []⟩
def cs_spec_allIn : Cons := ⟨cl_spec_allIn, [], 0, [], []⟩
def can0_spec_allIn (high2 : Int) (list0 : List Int) (low1 : Int) (xi7 : Int) : St := ⟨[(0, .one (.c (.ro .int list0))), (1, .one (.c (.v (.int .i64 low1)))), (2, .one (.c (.v (.int .i64 high2)))), (7, .one (.c (.v (.int .i64 xi7))))], []⟩
def fin_spec_allIn (list0 : List Int) (low1 : Int) (high2 : Int) (kk : AV → List A1 → Prop) : Kt := fin TT con_spec_allIn Try.f76.results.toList [.c .sc] [.c (.ro .int list0), .c (.v (.int .i64 low1)), .c (.v (.int .i64 high2))] kk
def kt0_spec_allIn (kf : Kt) : Kt := blockK 0 (seqK (evF TT cs_spec_allIn 22 an_spec_allIn Try.f76 [1, 1]) (kf))
theorem r0_spec_allIn (list0 : List Int) (low1 : Int) (high2 : Int) (kk : AV → List A1 → Prop) (n : Nat) (xi7 : Int) :
    iter (evF TT cs_spec_allIn 22 an_spec_allIn Try.f76 [1, 0, 1, 0, 0]) nm0_spec_allIn (kt0_spec_allIn (fin_spec_allIn list0 low1 high2 kk)) (n + 1) (can0_spec_allIn high2 list0 low1 xi7) = T0_spec_allIn high2 list0 low1 xi7 (fun r0 => kk (.one (.c (.v (.bool r0)))) []) (fun xi7 => iter (evF TT cs_spec_allIn 22 an_spec_allIn Try.f76 [1, 0, 1, 0, 0]) nm0_spec_allIn (kt0_spec_allIn (fin_spec_allIn list0 low1 high2 kk)) n (can0_spec_allIn high2 list0 low1 xi7)) := by kernel_rfl
theorem l0_spec_allIn (list0 : List Int) (low1 : Int) (high2 : Int) (kk : AV → List A1 → Prop) : ∀ (n : Nat) (xi7 : Int), iter (evF TT cs_spec_allIn 22 an_spec_allIn Try.f76 [1, 0, 1, 0, 0]) nm0_spec_allIn (kt0_spec_allIn (fin_spec_allIn list0 low1 high2 kk)) n (can0_spec_allIn high2 list0 low1 xi7) = L0_spec_allIn high2 list0 low1 (fun r0 => kk (.one (.c (.v (.bool r0)))) []) n xi7 := by
  intro n
  induction n with
  | zero => intros; rfl
  | succ n ih =>
    intro xi7
    rw [r0_spec_allIn list0 low1 high2 kk n xi7]
    have hb : (fun xi7 => iter (evF TT cs_spec_allIn 22 an_spec_allIn Try.f76 [1, 0, 1, 0, 0]) nm0_spec_allIn (kt0_spec_allIn (fin_spec_allIn list0 low1 high2 kk)) n (can0_spec_allIn high2 list0 low1 xi7)) = L0_spec_allIn high2 list0 low1 (fun r0 => kk (.one (.c (.v (.bool r0)))) []) n := by
      funext xi7; exact ih xi7
    rw [hb]
    rfl
theorem g_spec_allIn (list0 : List Int) (low1 : Int) (high2 : Int) (kk : AV → List A1 → Prop) :
    ev TT cs_spec_allIn 22 an_spec_allIn (Try.f76.body.getD .skip) (st0 con_spec_allIn [.c (.ro .int list0), .c (.v (.int .i64 low1)), .c (.v (.int .i64 high2))]) (fin TT con_spec_allIn Try.f76.results.toList [.c .sc] [.c (.ro .int list0), .c (.v (.int .i64 low1)), .c (.v (.int .i64 high2))] kk) = G_spec_allIn list0 low1 high2 (fun high2 list0 low1 xi7 => ∃ j, iter (evF TT cs_spec_allIn 22 an_spec_allIn Try.f76 [1, 0, 1, 0, 0]) nm0_spec_allIn (kt0_spec_allIn (fin_spec_allIn list0 low1 high2 kk)) j (can0_spec_allIn high2 list0 low1 xi7)) := by kernel_rfl
theorem e_spec_allIn (list0 : List Int) (low1 : Int) (high2 : Int) (kk : AV → List A1 → Prop) :
    ev TT cs_spec_allIn 22 an_spec_allIn (Try.f76.body.getD .skip) (st0 con_spec_allIn [.c (.ro .int list0), .c (.v (.int .i64 low1)), .c (.v (.int .i64 high2))]) (fin TT con_spec_allIn Try.f76.results.toList [.c .sc] [.c (.ro .int list0), .c (.v (.int .i64 low1)), .c (.v (.int .i64 high2))] kk) = S_spec_allIn list0 low1 high2 (fun r0 => kk (.one (.c (.v (.bool r0)))) []) := by
  rw [g_spec_allIn]
  have hi0 : (fun high2 list0 low1 xi7 => ∃ j, iter (evF TT cs_spec_allIn 22 an_spec_allIn Try.f76 [1, 0, 1, 0, 0]) nm0_spec_allIn (kt0_spec_allIn (fin_spec_allIn list0 low1 high2 kk)) j (can0_spec_allIn high2 list0 low1 xi7)) = (fun high2 list0 low1 xi7 => ∃ j, L0_spec_allIn high2 list0 low1 (fun r0 => kk (.one (.c (.v (.bool r0)))) []) j xi7) := by
    funext high2 list0 low1 xi7
    refine congrArg Exists (funext fun j => ?_)
    rw [l0_spec_allIn list0 low1 high2 kk j xi7]
  rw [hi0]
  rfl
theorem clok_spec_allIn : ConOK Try.prog cl_spec_allIn := consCons h_spec_inRange ⟨Try.f49, Try.func49, by kernel_rfl, ne_of_beq (by kernel_rfl)⟩ (consNil)
theorem cok_spec_allIn : ConsOK Try.prog 22 cs_spec_allIn := ⟨clok_spec_allIn, inlNil⟩
theorem i_spec_allIn {vs : List A1} {kk : AV → List A1 → Prop} {motive : List A1 → Prop} (h : con_spec_allIn.F vs kk) (H : ∀ (list0 : List Int) (low1 : Int) (high2 : Int), F_spec_allIn list0 low1 high2 (fun r0 => kk (.one (.c (.v (.bool r0)))) []) → motive [.c (.ro .int list0), .c (.v (.int .i64 low1)), .c (.v (.int .i64 high2))]) : motive vs := by
  unfold con_spec_allIn at h
  dsimp only at h
  split at h
  · exact H _ _ _ h
  · exact h.elim
theorem h_spec_allIn : Holds Try.prog 76 con_spec_allIn := by
  refine holds_of_ev (rt := [.c .sc]) (T := TT) (Γ := cs_spec_allIn) (an := an_spec_allIn) (N := 22) (c := Try.f76.body.getD .skip) Try.func76 (by kernel_rfl) Try.ntmps76 (by decide) (by decide) mixed tabOK cok_spec_allIn (by kernel_rfl) ?_
  intro vs kk _ hF
  exact i_spec_allIn (motive := fun vs => Goes (ev TT cs_spec_allIn 22 an_spec_allIn (Try.f76.body.getD .skip) (st0 con_spec_allIn vs) (fin TT con_spec_allIn Try.f76.results.toList [.c .sc] vs kk))) hF (fun list0 low1 high2 hF => goes_of (e_spec_allIn list0 low1 high2 kk) (F_spec_allIn_S hF))
def con_spec_distinct : Con := ⟨[.rd], true, [.c (.sl .int)], fun vs k => match vs with
    | [.c (.ro .int list0)] => F_spec_distinct list0 (fun r0 => k (.one (.c (.v (.bool r0)))) [])
    | _ => False, false⟩
def cl_spec_distinct : List (FuncId × Con) := [(51, con_spec_placeOf)]
def nm0_spec_distinct : List NStep := [.keep [0, 3] []]
def an_spec_distinct : Ann := ⟨[], [(2, nm0_spec_distinct)], []⟩
def cs_spec_distinct : Cons := ⟨cl_spec_distinct, [], 0, [], []⟩
def can0_spec_distinct (list0 : List Int) (xi3 : Int) : St := ⟨[(0, .one (.c (.ro .int list0))), (3, .one (.c (.v (.int .i64 xi3))))], []⟩
def fin_spec_distinct (list0 : List Int) (kk : AV → List A1 → Prop) : Kt := fin TT con_spec_distinct Try.f84.results.toList [.c .sc] [.c (.ro .int list0)] kk
def kt0_spec_distinct (kf : Kt) : Kt := blockK 0 (seqK (evF TT cs_spec_distinct 18 an_spec_distinct Try.f84 [1, 1]) (kf))
theorem r0_spec_distinct (list0 : List Int) (kk : AV → List A1 → Prop) (n : Nat) (xi3 : Int) :
    iter (evF TT cs_spec_distinct 18 an_spec_distinct Try.f84 [1, 0, 1, 0, 0]) nm0_spec_distinct (kt0_spec_distinct (fin_spec_distinct list0 kk)) (n + 1) (can0_spec_distinct list0 xi3) = T0_spec_distinct list0 xi3 (fun r0 => kk (.one (.c (.v (.bool r0)))) []) (fun xi3 => iter (evF TT cs_spec_distinct 18 an_spec_distinct Try.f84 [1, 0, 1, 0, 0]) nm0_spec_distinct (kt0_spec_distinct (fin_spec_distinct list0 kk)) n (can0_spec_distinct list0 xi3)) := by kernel_rfl
theorem l0_spec_distinct (list0 : List Int) (kk : AV → List A1 → Prop) : ∀ (n : Nat) (xi3 : Int), iter (evF TT cs_spec_distinct 18 an_spec_distinct Try.f84 [1, 0, 1, 0, 0]) nm0_spec_distinct (kt0_spec_distinct (fin_spec_distinct list0 kk)) n (can0_spec_distinct list0 xi3) = L0_spec_distinct list0 (fun r0 => kk (.one (.c (.v (.bool r0)))) []) n xi3 := by
  intro n
  induction n with
  | zero => intros; rfl
  | succ n ih =>
    intro xi3
    rw [r0_spec_distinct list0 kk n xi3]
    have hb : (fun xi3 => iter (evF TT cs_spec_distinct 18 an_spec_distinct Try.f84 [1, 0, 1, 0, 0]) nm0_spec_distinct (kt0_spec_distinct (fin_spec_distinct list0 kk)) n (can0_spec_distinct list0 xi3)) = L0_spec_distinct list0 (fun r0 => kk (.one (.c (.v (.bool r0)))) []) n := by
      funext xi3; exact ih xi3
    rw [hb]
    rfl
theorem g_spec_distinct (list0 : List Int) (kk : AV → List A1 → Prop) :
    ev TT cs_spec_distinct 18 an_spec_distinct (Try.f84.body.getD .skip) (st0 con_spec_distinct [.c (.ro .int list0)]) (fin TT con_spec_distinct Try.f84.results.toList [.c .sc] [.c (.ro .int list0)] kk) = G_spec_distinct list0 (fun list0 xi3 => ∃ j, iter (evF TT cs_spec_distinct 18 an_spec_distinct Try.f84 [1, 0, 1, 0, 0]) nm0_spec_distinct (kt0_spec_distinct (fin_spec_distinct list0 kk)) j (can0_spec_distinct list0 xi3)) := by kernel_rfl
theorem e_spec_distinct (list0 : List Int) (kk : AV → List A1 → Prop) :
    ev TT cs_spec_distinct 18 an_spec_distinct (Try.f84.body.getD .skip) (st0 con_spec_distinct [.c (.ro .int list0)]) (fin TT con_spec_distinct Try.f84.results.toList [.c .sc] [.c (.ro .int list0)] kk) = S_spec_distinct list0 (fun r0 => kk (.one (.c (.v (.bool r0)))) []) := by
  rw [g_spec_distinct]
  have hi0 : (fun list0 xi3 => ∃ j, iter (evF TT cs_spec_distinct 18 an_spec_distinct Try.f84 [1, 0, 1, 0, 0]) nm0_spec_distinct (kt0_spec_distinct (fin_spec_distinct list0 kk)) j (can0_spec_distinct list0 xi3)) = (fun list0 xi3 => ∃ j, L0_spec_distinct list0 (fun r0 => kk (.one (.c (.v (.bool r0)))) []) j xi3) := by
    funext list0 xi3
    refine congrArg Exists (funext fun j => ?_)
    rw [l0_spec_distinct list0 kk j xi3]
  rw [hi0]
  rfl
theorem clok_spec_distinct : ConOK Try.prog cl_spec_distinct := consCons h_spec_placeOf ⟨Try.f51, Try.func51, by kernel_rfl, ne_of_beq (by kernel_rfl)⟩ (consNil)
theorem cok_spec_distinct : ConsOK Try.prog 18 cs_spec_distinct := ⟨clok_spec_distinct, inlNil⟩
theorem i_spec_distinct {vs : List A1} {kk : AV → List A1 → Prop} {motive : List A1 → Prop} (h : con_spec_distinct.F vs kk) (H : ∀ (list0 : List Int), F_spec_distinct list0 (fun r0 => kk (.one (.c (.v (.bool r0)))) []) → motive [.c (.ro .int list0)]) : motive vs := by
  unfold con_spec_distinct at h
  dsimp only at h
  split at h
  · exact H _ h
  · exact h.elim
theorem h_spec_distinct : Holds Try.prog 84 con_spec_distinct := by
  refine holds_of_ev (rt := [.c .sc]) (T := TT) (Γ := cs_spec_distinct) (an := an_spec_distinct) (N := 18) (c := Try.f84.body.getD .skip) Try.func84 (by kernel_rfl) Try.ntmps84 (by decide) (by decide) mixed tabOK cok_spec_distinct (by kernel_rfl) ?_
  intro vs kk _ hF
  exact i_spec_distinct (motive := fun vs => Goes (ev TT cs_spec_distinct 18 an_spec_distinct (Try.f84.body.getD .skip) (st0 con_spec_distinct vs) (fin TT con_spec_distinct Try.f84.results.toList [.c .sc] vs kk))) hF (fun list0 hF => goes_of (e_spec_distinct list0 kk) (F_spec_distinct_S hF))
def con_spec_validKeys : Con := ⟨[.rd, .rd], true, [.c (.sl .int), .c (.sc)], fun vs k => match vs with
    | [.c (.ro .int list0), .c (.v (.int .i64 room1))] => F_spec_validKeys list0 room1 (fun r0 => k (.one (.c (.v (.bool r0)))) [])
    | _ => False, false⟩
def cl_spec_validKeys : List (FuncId × Con) := [(49, con_spec_inRange), (76, con_spec_allIn), (84, con_spec_distinct)]
def an_spec_validKeys : Ann := ⟨[], [], []⟩
def cs_spec_validKeys : Cons := ⟨cl_spec_validKeys, [], 0, [], []⟩
def fin_spec_validKeys (list0 : List Int) (room1 : Int) (kk : AV → List A1 → Prop) : Kt := fin TT con_spec_validKeys Try.f83.results.toList [.c .sc] [.c (.ro .int list0), .c (.v (.int .i64 room1))] kk
theorem g_spec_validKeys (list0 : List Int) (room1 : Int) (kk : AV → List A1 → Prop) :
    ev TT cs_spec_validKeys 21 an_spec_validKeys (Try.f83.body.getD .skip) (st0 con_spec_validKeys [.c (.ro .int list0), .c (.v (.int .i64 room1))]) (fin TT con_spec_validKeys Try.f83.results.toList [.c .sc] [.c (.ro .int list0), .c (.v (.int .i64 room1))] kk) = G_spec_validKeys list0 room1 (fun r0 => kk (.one (.c (.v (.bool r0)))) []) := by kernel_rfl
theorem e_spec_validKeys (list0 : List Int) (room1 : Int) (kk : AV → List A1 → Prop) :
    ev TT cs_spec_validKeys 21 an_spec_validKeys (Try.f83.body.getD .skip) (st0 con_spec_validKeys [.c (.ro .int list0), .c (.v (.int .i64 room1))]) (fin TT con_spec_validKeys Try.f83.results.toList [.c .sc] [.c (.ro .int list0), .c (.v (.int .i64 room1))] kk) = S_spec_validKeys list0 room1 (fun r0 => kk (.one (.c (.v (.bool r0)))) []) := by
  rw [g_spec_validKeys]
  rfl
theorem clok_spec_validKeys : ConOK Try.prog cl_spec_validKeys := consCons h_spec_inRange ⟨Try.f49, Try.func49, by kernel_rfl, ne_of_beq (by kernel_rfl)⟩ (consCons h_spec_allIn ⟨Try.f76, Try.func76, by kernel_rfl, ne_of_beq (by kernel_rfl)⟩ (consCons h_spec_distinct ⟨Try.f84, Try.func84, by kernel_rfl, ne_of_beq (by kernel_rfl)⟩ (consNil)))
theorem cok_spec_validKeys : ConsOK Try.prog 21 cs_spec_validKeys := ⟨clok_spec_validKeys, inlNil⟩
theorem i_spec_validKeys {vs : List A1} {kk : AV → List A1 → Prop} {motive : List A1 → Prop} (h : con_spec_validKeys.F vs kk) (H : ∀ (list0 : List Int) (room1 : Int), F_spec_validKeys list0 room1 (fun r0 => kk (.one (.c (.v (.bool r0)))) []) → motive [.c (.ro .int list0), .c (.v (.int .i64 room1))]) : motive vs := by
  unfold con_spec_validKeys at h
  dsimp only at h
  split at h
  · exact H _ _ h
  · exact h.elim
theorem h_spec_validKeys : Holds Try.prog 83 con_spec_validKeys := by
  refine holds_of_ev (rt := [.c .sc]) (T := TT) (Γ := cs_spec_validKeys) (an := an_spec_validKeys) (N := 21) (c := Try.f83.body.getD .skip) Try.func83 (by kernel_rfl) Try.ntmps83 (by decide) (by decide) mixed tabOK cok_spec_validKeys (by kernel_rfl) ?_
  intro vs kk _ hF
  exact i_spec_validKeys (motive := fun vs => Goes (ev TT cs_spec_validKeys 21 an_spec_validKeys (Try.f83.body.getD .skip) (st0 con_spec_validKeys vs) (fin TT con_spec_validKeys Try.f83.results.toList [.c .sc] vs kk))) hF (fun list0 room1 hF => goes_of (e_spec_validKeys list0 room1 kk) (F_spec_validKeys_S hF))
def con_spec_validSegments : Con := ⟨[.rd], true, [.agg [.sc, .sc, .sl .int, .sl .int]], fun vs k => match vs with
    | [.agg [.v (.int .i64 s0Trial), .v (.int .i64 s0Safe), .ro .int s0New, .ro .int s0Old]] => F_spec_validSegments s0Trial s0Safe s0New s0Old (fun r0 => k (.one (.c (.v (.bool r0)))) [])
    | _ => False, false⟩
def cl_spec_validSegments : List (FuncId × Con) := [(49, con_spec_inRange), (68, con_spec_copyInts), (83, con_spec_validKeys), (84, con_spec_distinct)]
def an_spec_validSegments : Ann := ⟨[(1, .take 0 (.take 1 (.alt 2 (.take 3 (.take 4 (.take 5 (.alt 6 (.take 7 (.take 8 (.take 9 (.take 10 (.take 11 (.take 12 (.alt 13 (.take 14 (.take 15 (.take 16 (.take 17 (.take 18 (.take 19 (.alt 20 (.take 21 (.take 22 (.take 23 (.take 24 (.take 26 (.take 27 (.alt 25 (.alt 28 (.alt 29 (.take 30 (.take 31 (.done))) (.none)) (.none)) (.none)))))))) (.none)))))))) (.none)))))))) (.none))))) (.none))), [16])], [], []⟩
def cs_spec_validSegments : Cons := ⟨cl_spec_validSegments, [], 0, [], []⟩
def fin_spec_validSegments (s0Trial : Int) (s0Safe : Int) (s0New : List Int) (s0Old : List Int) (kk : AV → List A1 → Prop) : Kt := fin TT con_spec_validSegments Try.f58.results.toList [.c .sc] [.agg [.v (.int .i64 s0Trial), .v (.int .i64 s0Safe), .ro .int s0New, .ro .int s0Old]] kk
theorem g_spec_validSegments (s0Trial : Int) (s0Safe : Int) (s0New : List Int) (s0Old : List Int) (kk : AV → List A1 → Prop) :
    ev TT cs_spec_validSegments 34 an_spec_validSegments (Try.f58.body.getD .skip) (st0 con_spec_validSegments [.agg [.v (.int .i64 s0Trial), .v (.int .i64 s0Safe), .ro .int s0New, .ro .int s0Old]]) (fin TT con_spec_validSegments Try.f58.results.toList [.c .sc] [.agg [.v (.int .i64 s0Trial), .v (.int .i64 s0Safe), .ro .int s0New, .ro .int s0Old]] kk) = G_spec_validSegments s0Trial s0Safe s0New s0Old (fun r0 => kk (.one (.c (.v (.bool r0)))) []) := by kernel_rfl
theorem e_spec_validSegments (s0Trial : Int) (s0Safe : Int) (s0New : List Int) (s0Old : List Int) (kk : AV → List A1 → Prop) :
    ev TT cs_spec_validSegments 34 an_spec_validSegments (Try.f58.body.getD .skip) (st0 con_spec_validSegments [.agg [.v (.int .i64 s0Trial), .v (.int .i64 s0Safe), .ro .int s0New, .ro .int s0Old]]) (fin TT con_spec_validSegments Try.f58.results.toList [.c .sc] [.agg [.v (.int .i64 s0Trial), .v (.int .i64 s0Safe), .ro .int s0New, .ro .int s0Old]] kk) = S_spec_validSegments s0Trial s0Safe s0New s0Old (fun r0 => kk (.one (.c (.v (.bool r0)))) []) := by
  rw [g_spec_validSegments]
  rw [G_spec_validSegments_eq]
  rfl
theorem clok_spec_validSegments : ConOK Try.prog cl_spec_validSegments := consCons h_spec_inRange ⟨Try.f49, Try.func49, by kernel_rfl, ne_of_beq (by kernel_rfl)⟩ (consCons h_spec_copyInts ⟨Try.f68, Try.func68, by kernel_rfl, ne_of_beq (by kernel_rfl)⟩ (consCons h_spec_validKeys ⟨Try.f83, Try.func83, by kernel_rfl, ne_of_beq (by kernel_rfl)⟩ (consCons h_spec_distinct ⟨Try.f84, Try.func84, by kernel_rfl, ne_of_beq (by kernel_rfl)⟩ (consNil))))
theorem cok_spec_validSegments : ConsOK Try.prog 34 cs_spec_validSegments := ⟨clok_spec_validSegments, inlNil⟩
theorem i_spec_validSegments {vs : List A1} {kk : AV → List A1 → Prop} {motive : List A1 → Prop} (h : con_spec_validSegments.F vs kk) (H : ∀ (s0Trial : Int) (s0Safe : Int) (s0New : List Int) (s0Old : List Int), F_spec_validSegments s0Trial s0Safe s0New s0Old (fun r0 => kk (.one (.c (.v (.bool r0)))) []) → motive [.agg [.v (.int .i64 s0Trial), .v (.int .i64 s0Safe), .ro .int s0New, .ro .int s0Old]]) : motive vs := by
  unfold con_spec_validSegments at h
  dsimp only at h
  split at h
  · exact H _ _ _ _ h
  · exact h.elim
theorem h_spec_validSegments : Holds Try.prog 58 con_spec_validSegments := by
  refine holds_of_ev (rt := [.c .sc]) (T := TT) (Γ := cs_spec_validSegments) (an := an_spec_validSegments) (N := 34) (c := Try.f58.body.getD .skip) Try.func58 (by kernel_rfl) Try.ntmps58 (by decide) (by decide) mixed tabOK cok_spec_validSegments (by kernel_rfl) ?_
  intro vs kk _ hF
  exact i_spec_validSegments (motive := fun vs => Goes (ev TT cs_spec_validSegments 34 an_spec_validSegments (Try.f58.body.getD .skip) (st0 con_spec_validSegments vs) (fin TT con_spec_validSegments Try.f58.results.toList [.c .sc] vs kk))) hF (fun s0Trial s0Safe s0New s0Old hF => goes_of (e_spec_validSegments s0Trial s0Safe s0New s0Old kk) (F_spec_validSegments_S hF))
def con_spec_UseSegments : Con := ⟨[.rd, .rd], true, [.agg [.sc, .sc, .sl .int, .sl .int], .c (.sc)], fun vs k => match vs with
    | [.agg [.v (.int .i64 s0Trial), .v (.int .i64 s0Safe), .ro .int s0New, .ro .int s0Old], .c (.v (.int .i64 key1))] => F_spec_UseSegments s0Trial s0Safe s0New s0Old key1 (fun r0 r1 r2 r3 r4 => k (.tup [.agg [.v (.int .i64 r0), .v (.int .i64 r1), .ro .int r2, .ro .int r3], .c (.v (.bool r4))]) [])
    | _ => False, false⟩
def cl_spec_UseSegments : List (FuncId × Con) := [(49, con_spec_inRange), (58, con_spec_validSegments), (63, con_spec_promote)]
def an_spec_UseSegments : Ann := ⟨[], [], []⟩
def cs_spec_UseSegments : Cons := ⟨cl_spec_UseSegments, [], 0, [], []⟩
def fin_spec_UseSegments (s0Trial : Int) (s0Safe : Int) (s0New : List Int) (s0Old : List Int) (key1 : Int) (kk : AV → List A1 → Prop) : Kt := fin TT con_spec_UseSegments Try.f30.results.toList [.agg [.sc, .sc, .sl .int, .sl .int], .c .sc] [.agg [.v (.int .i64 s0Trial), .v (.int .i64 s0Safe), .ro .int s0New, .ro .int s0Old], .c (.v (.int .i64 key1))] kk
theorem g_spec_UseSegments (s0Trial : Int) (s0Safe : Int) (s0New : List Int) (s0Old : List Int) (key1 : Int) (kk : AV → List A1 → Prop) :
    ev TT cs_spec_UseSegments 20 an_spec_UseSegments (Try.f30.body.getD .skip) (st0 con_spec_UseSegments [.agg [.v (.int .i64 s0Trial), .v (.int .i64 s0Safe), .ro .int s0New, .ro .int s0Old], .c (.v (.int .i64 key1))]) (fin TT con_spec_UseSegments Try.f30.results.toList [.agg [.sc, .sc, .sl .int, .sl .int], .c .sc] [.agg [.v (.int .i64 s0Trial), .v (.int .i64 s0Safe), .ro .int s0New, .ro .int s0Old], .c (.v (.int .i64 key1))] kk) = G_spec_UseSegments s0Trial s0Safe s0New s0Old key1 (fun r0 r1 r2 r3 r4 => kk (.tup [.agg [.v (.int .i64 r0), .v (.int .i64 r1), .ro .int r2, .ro .int r3], .c (.v (.bool r4))]) []) := by kernel_rfl
theorem e_spec_UseSegments (s0Trial : Int) (s0Safe : Int) (s0New : List Int) (s0Old : List Int) (key1 : Int) (kk : AV → List A1 → Prop) :
    ev TT cs_spec_UseSegments 20 an_spec_UseSegments (Try.f30.body.getD .skip) (st0 con_spec_UseSegments [.agg [.v (.int .i64 s0Trial), .v (.int .i64 s0Safe), .ro .int s0New, .ro .int s0Old], .c (.v (.int .i64 key1))]) (fin TT con_spec_UseSegments Try.f30.results.toList [.agg [.sc, .sc, .sl .int, .sl .int], .c .sc] [.agg [.v (.int .i64 s0Trial), .v (.int .i64 s0Safe), .ro .int s0New, .ro .int s0Old], .c (.v (.int .i64 key1))] kk) = S_spec_UseSegments s0Trial s0Safe s0New s0Old key1 (fun r0 r1 r2 r3 r4 => kk (.tup [.agg [.v (.int .i64 r0), .v (.int .i64 r1), .ro .int r2, .ro .int r3], .c (.v (.bool r4))]) []) := by
  rw [g_spec_UseSegments]
  rfl
theorem clok_spec_UseSegments : ConOK Try.prog cl_spec_UseSegments := consCons h_spec_inRange ⟨Try.f49, Try.func49, by kernel_rfl, ne_of_beq (by kernel_rfl)⟩ (consCons h_spec_validSegments ⟨Try.f58, Try.func58, by kernel_rfl, ne_of_beq (by kernel_rfl)⟩ (consCons h_spec_promote ⟨Try.f63, Try.func63, by kernel_rfl, ne_of_beq (by kernel_rfl)⟩ (consNil)))
theorem cok_spec_UseSegments : ConsOK Try.prog 20 cs_spec_UseSegments := ⟨clok_spec_UseSegments, inlNil⟩
theorem i_spec_UseSegments {vs : List A1} {kk : AV → List A1 → Prop} {motive : List A1 → Prop} (h : con_spec_UseSegments.F vs kk) (H : ∀ (s0Trial : Int) (s0Safe : Int) (s0New : List Int) (s0Old : List Int) (key1 : Int), F_spec_UseSegments s0Trial s0Safe s0New s0Old key1 (fun r0 r1 r2 r3 r4 => kk (.tup [.agg [.v (.int .i64 r0), .v (.int .i64 r1), .ro .int r2, .ro .int r3], .c (.v (.bool r4))]) []) → motive [.agg [.v (.int .i64 s0Trial), .v (.int .i64 s0Safe), .ro .int s0New, .ro .int s0Old], .c (.v (.int .i64 key1))]) : motive vs := by
  unfold con_spec_UseSegments at h
  dsimp only at h
  split at h
  · exact H _ _ _ _ _ h
  · exact h.elim
theorem h_spec_UseSegments : Holds Try.prog 30 con_spec_UseSegments := by
  refine holds_of_ev (rt := [.agg [.sc, .sc, .sl .int, .sl .int], .c .sc]) (T := TT) (Γ := cs_spec_UseSegments) (an := an_spec_UseSegments) (N := 20) (c := Try.f30.body.getD .skip) Try.func30 (by kernel_rfl) Try.ntmps30 (by decide) (by decide) mixed tabOK cok_spec_UseSegments (by kernel_rfl) ?_
  intro vs kk _ hF
  exact i_spec_UseSegments (motive := fun vs => Goes (ev TT cs_spec_UseSegments 20 an_spec_UseSegments (Try.f30.body.getD .skip) (st0 con_spec_UseSegments vs) (fin TT con_spec_UseSegments Try.f30.results.toList [.agg [.sc, .sc, .sl .int, .sl .int], .c .sc] vs kk))) hF (fun s0Trial s0Safe s0New s0Old key1 hF => goes_of (e_spec_UseSegments s0Trial s0Safe s0New s0Old key1 kk) (F_spec_UseSegments_S hF))
def con_laws_equalInts : Con := ⟨[.rd, .rd], true, [.c (.sl .int), .c (.sl .int)], fun vs k => match vs with
    | [.c (.ro .int a0), .c (.ro .int b1)] => F_laws_equalInts a0 b1 (fun r0 => k (.one (.c (.v (.bool r0)))) [])
    | _ => False, false⟩
def cl_laws_equalInts : List (FuncId × Con) := []
def nm0_laws_equalInts : List NStep := [.keep [0, 1, 5] []]
def an_laws_equalInts : Ann := ⟨[(6, .take 0 (.take 1 (.take 2 (.take 3 (.take 4 (.take 5 (.take 6 (.take 7 (.take 8 (.done))))))))), [])], [(4, nm0_laws_equalInts)], []⟩
def cs_laws_equalInts : Cons := ⟨cl_laws_equalInts, [], 0, [], []⟩
def can0_laws_equalInts (a0 : List Int) (b1 : List Int) (xi5 : Int) : St := ⟨[(0, .one (.c (.ro .int a0))), (1, .one (.c (.ro .int b1))), (5, .one (.c (.v (.int .i64 xi5))))], []⟩
def fin_laws_equalInts (a0 : List Int) (b1 : List Int) (kk : AV → List A1 → Prop) : Kt := fin TT con_laws_equalInts Try.f34.results.toList [.c .sc] [.c (.ro .int a0), .c (.ro .int b1)] kk
def kt0_laws_equalInts (kf : Kt) : Kt := blockK 0 (seqK (evF TT cs_laws_equalInts 26 an_laws_equalInts Try.f34 [1, 1, 1]) (kf))
theorem r0_laws_equalInts (a0 : List Int) (b1 : List Int) (kk : AV → List A1 → Prop) (n : Nat) (xi5 : Int) :
    iter (evF TT cs_laws_equalInts 26 an_laws_equalInts Try.f34 [1, 1, 0, 1, 0, 0]) nm0_laws_equalInts (kt0_laws_equalInts (fin_laws_equalInts a0 b1 kk)) (n + 1) (can0_laws_equalInts a0 b1 xi5) = T0_laws_equalInts a0 b1 xi5 (fun r0 => kk (.one (.c (.v (.bool r0)))) []) (fun xi5 => iter (evF TT cs_laws_equalInts 26 an_laws_equalInts Try.f34 [1, 1, 0, 1, 0, 0]) nm0_laws_equalInts (kt0_laws_equalInts (fin_laws_equalInts a0 b1 kk)) n (can0_laws_equalInts a0 b1 xi5)) := by kernel_rfl
theorem l0_laws_equalInts (a0 : List Int) (b1 : List Int) (kk : AV → List A1 → Prop) : ∀ (n : Nat) (xi5 : Int), iter (evF TT cs_laws_equalInts 26 an_laws_equalInts Try.f34 [1, 1, 0, 1, 0, 0]) nm0_laws_equalInts (kt0_laws_equalInts (fin_laws_equalInts a0 b1 kk)) n (can0_laws_equalInts a0 b1 xi5) = L0_laws_equalInts a0 b1 (fun r0 => kk (.one (.c (.v (.bool r0)))) []) n xi5 := by
  intro n
  induction n with
  | zero => intros; rfl
  | succ n ih =>
    intro xi5
    rw [r0_laws_equalInts a0 b1 kk n xi5]
    have hb : (fun xi5 => iter (evF TT cs_laws_equalInts 26 an_laws_equalInts Try.f34 [1, 1, 0, 1, 0, 0]) nm0_laws_equalInts (kt0_laws_equalInts (fin_laws_equalInts a0 b1 kk)) n (can0_laws_equalInts a0 b1 xi5)) = L0_laws_equalInts a0 b1 (fun r0 => kk (.one (.c (.v (.bool r0)))) []) n := by
      funext xi5; exact ih xi5
    rw [hb]
    rfl
theorem g_laws_equalInts (a0 : List Int) (b1 : List Int) (kk : AV → List A1 → Prop) :
    ev TT cs_laws_equalInts 26 an_laws_equalInts (Try.f34.body.getD .skip) (st0 con_laws_equalInts [.c (.ro .int a0), .c (.ro .int b1)]) (fin TT con_laws_equalInts Try.f34.results.toList [.c .sc] [.c (.ro .int a0), .c (.ro .int b1)] kk) = G_laws_equalInts a0 b1 (fun r0 => kk (.one (.c (.v (.bool r0)))) []) (fun a0 b1 xi5 => ∃ j, iter (evF TT cs_laws_equalInts 26 an_laws_equalInts Try.f34 [1, 1, 0, 1, 0, 0]) nm0_laws_equalInts (kt0_laws_equalInts (fin_laws_equalInts a0 b1 kk)) j (can0_laws_equalInts a0 b1 xi5)) := by kernel_rfl
theorem e_laws_equalInts (a0 : List Int) (b1 : List Int) (kk : AV → List A1 → Prop) :
    ev TT cs_laws_equalInts 26 an_laws_equalInts (Try.f34.body.getD .skip) (st0 con_laws_equalInts [.c (.ro .int a0), .c (.ro .int b1)]) (fin TT con_laws_equalInts Try.f34.results.toList [.c .sc] [.c (.ro .int a0), .c (.ro .int b1)] kk) = S_laws_equalInts a0 b1 (fun r0 => kk (.one (.c (.v (.bool r0)))) []) := by
  rw [g_laws_equalInts]
  have hi0 : (fun a0 b1 xi5 => ∃ j, iter (evF TT cs_laws_equalInts 26 an_laws_equalInts Try.f34 [1, 1, 0, 1, 0, 0]) nm0_laws_equalInts (kt0_laws_equalInts (fin_laws_equalInts a0 b1 kk)) j (can0_laws_equalInts a0 b1 xi5)) = (fun a0 b1 xi5 => ∃ j, L0_laws_equalInts a0 b1 (fun r0 => kk (.one (.c (.v (.bool r0)))) []) j xi5) := by
    funext a0 b1 xi5
    refine congrArg Exists (funext fun j => ?_)
    rw [l0_laws_equalInts a0 b1 kk j xi5]
  rw [hi0]
  rfl
theorem clok_laws_equalInts : ConOK Try.prog cl_laws_equalInts := consNil
theorem cok_laws_equalInts : ConsOK Try.prog 26 cs_laws_equalInts := ⟨clok_laws_equalInts, inlNil⟩
theorem i_laws_equalInts {vs : List A1} {kk : AV → List A1 → Prop} {motive : List A1 → Prop} (h : con_laws_equalInts.F vs kk) (H : ∀ (a0 : List Int) (b1 : List Int), F_laws_equalInts a0 b1 (fun r0 => kk (.one (.c (.v (.bool r0)))) []) → motive [.c (.ro .int a0), .c (.ro .int b1)]) : motive vs := by
  unfold con_laws_equalInts at h
  dsimp only at h
  split at h
  · exact H _ _ h
  · exact h.elim
theorem h_laws_equalInts : Holds Try.prog 34 con_laws_equalInts := by
  refine holds_of_ev (rt := [.c .sc]) (T := TT) (Γ := cs_laws_equalInts) (an := an_laws_equalInts) (N := 26) (c := Try.f34.body.getD .skip) Try.func34 (by kernel_rfl) Try.ntmps34 (by decide) (by decide) mixed tabOK cok_laws_equalInts (by kernel_rfl) ?_
  intro vs kk _ hF
  exact i_laws_equalInts (motive := fun vs => Goes (ev TT cs_laws_equalInts 26 an_laws_equalInts (Try.f34.body.getD .skip) (st0 con_laws_equalInts vs) (fin TT con_laws_equalInts Try.f34.results.toList [.c .sc] vs kk))) hF (fun a0 b1 hF => goes_of (e_laws_equalInts a0 b1 kk) (F_laws_equalInts_S hF))
def con_laws_equalSegments : Con := ⟨[.rd, .rd], true, [.agg [.sc, .sc, .sl .int, .sl .int], .agg [.sc, .sc, .sl .int, .sl .int]], fun vs k => match vs with
    | [.agg [.v (.int .i64 a0Trial), .v (.int .i64 a0Safe), .ro .int a0New, .ro .int a0Old], .agg [.v (.int .i64 b1Trial), .v (.int .i64 b1Safe), .ro .int b1New, .ro .int b1Old]] => F_laws_equalSegments a0Trial a0Safe a0New a0Old b1Trial b1Safe b1New b1Old (fun r0 => k (.one (.c (.v (.bool r0)))) [])
    | _ => False, false⟩
def cl_laws_equalSegments : List (FuncId × Con) := [(34, con_laws_equalInts)]
def an_laws_equalSegments : Ann := ⟨[], [], []⟩
def cs_laws_equalSegments : Cons := ⟨cl_laws_equalSegments, [], 0, [], []⟩
def fin_laws_equalSegments (a0Trial : Int) (a0Safe : Int) (a0New : List Int) (a0Old : List Int) (b1Trial : Int) (b1Safe : Int) (b1New : List Int) (b1Old : List Int) (kk : AV → List A1 → Prop) : Kt := fin TT con_laws_equalSegments Try.f31.results.toList [.c .sc] [.agg [.v (.int .i64 a0Trial), .v (.int .i64 a0Safe), .ro .int a0New, .ro .int a0Old], .agg [.v (.int .i64 b1Trial), .v (.int .i64 b1Safe), .ro .int b1New, .ro .int b1Old]] kk
theorem g_laws_equalSegments (a0Trial : Int) (a0Safe : Int) (a0New : List Int) (a0Old : List Int) (b1Trial : Int) (b1Safe : Int) (b1New : List Int) (b1Old : List Int) (kk : AV → List A1 → Prop) :
    ev TT cs_laws_equalSegments 31 an_laws_equalSegments (Try.f31.body.getD .skip) (st0 con_laws_equalSegments [.agg [.v (.int .i64 a0Trial), .v (.int .i64 a0Safe), .ro .int a0New, .ro .int a0Old], .agg [.v (.int .i64 b1Trial), .v (.int .i64 b1Safe), .ro .int b1New, .ro .int b1Old]]) (fin TT con_laws_equalSegments Try.f31.results.toList [.c .sc] [.agg [.v (.int .i64 a0Trial), .v (.int .i64 a0Safe), .ro .int a0New, .ro .int a0Old], .agg [.v (.int .i64 b1Trial), .v (.int .i64 b1Safe), .ro .int b1New, .ro .int b1Old]] kk) = G_laws_equalSegments a0Trial a0Safe a0New a0Old b1Trial b1Safe b1New b1Old (fun r0 => kk (.one (.c (.v (.bool r0)))) []) := by kernel_rfl
theorem e_laws_equalSegments (a0Trial : Int) (a0Safe : Int) (a0New : List Int) (a0Old : List Int) (b1Trial : Int) (b1Safe : Int) (b1New : List Int) (b1Old : List Int) (kk : AV → List A1 → Prop) :
    ev TT cs_laws_equalSegments 31 an_laws_equalSegments (Try.f31.body.getD .skip) (st0 con_laws_equalSegments [.agg [.v (.int .i64 a0Trial), .v (.int .i64 a0Safe), .ro .int a0New, .ro .int a0Old], .agg [.v (.int .i64 b1Trial), .v (.int .i64 b1Safe), .ro .int b1New, .ro .int b1Old]]) (fin TT con_laws_equalSegments Try.f31.results.toList [.c .sc] [.agg [.v (.int .i64 a0Trial), .v (.int .i64 a0Safe), .ro .int a0New, .ro .int a0Old], .agg [.v (.int .i64 b1Trial), .v (.int .i64 b1Safe), .ro .int b1New, .ro .int b1Old]] kk) = S_laws_equalSegments a0Trial a0Safe a0New a0Old b1Trial b1Safe b1New b1Old (fun r0 => kk (.one (.c (.v (.bool r0)))) []) := by
  rw [g_laws_equalSegments]
  rfl
theorem clok_laws_equalSegments : ConOK Try.prog cl_laws_equalSegments := consCons h_laws_equalInts ⟨Try.f34, Try.func34, by kernel_rfl, ne_of_beq (by kernel_rfl)⟩ (consNil)
theorem cok_laws_equalSegments : ConsOK Try.prog 31 cs_laws_equalSegments := ⟨clok_laws_equalSegments, inlNil⟩
theorem i_laws_equalSegments {vs : List A1} {kk : AV → List A1 → Prop} {motive : List A1 → Prop} (h : con_laws_equalSegments.F vs kk) (H : ∀ (a0Trial : Int) (a0Safe : Int) (a0New : List Int) (a0Old : List Int) (b1Trial : Int) (b1Safe : Int) (b1New : List Int) (b1Old : List Int), F_laws_equalSegments a0Trial a0Safe a0New a0Old b1Trial b1Safe b1New b1Old (fun r0 => kk (.one (.c (.v (.bool r0)))) []) → motive [.agg [.v (.int .i64 a0Trial), .v (.int .i64 a0Safe), .ro .int a0New, .ro .int a0Old], .agg [.v (.int .i64 b1Trial), .v (.int .i64 b1Safe), .ro .int b1New, .ro .int b1Old]]) : motive vs := by
  unfold con_laws_equalSegments at h
  dsimp only at h
  split at h
  · exact H _ _ _ _ _ _ _ _ h
  · exact h.elim
theorem h_laws_equalSegments : Holds Try.prog 31 con_laws_equalSegments := by
  refine holds_of_ev (rt := [.c .sc]) (T := TT) (Γ := cs_laws_equalSegments) (an := an_laws_equalSegments) (N := 31) (c := Try.f31.body.getD .skip) Try.func31 (by kernel_rfl) Try.ntmps31 (by decide) (by decide) mixed tabOK cok_laws_equalSegments (by kernel_rfl) ?_
  intro vs kk _ hF
  exact i_laws_equalSegments (motive := fun vs => Goes (ev TT cs_laws_equalSegments 31 an_laws_equalSegments (Try.f31.body.getD .skip) (st0 con_laws_equalSegments vs) (fin TT con_laws_equalSegments Try.f31.results.toList [.c .sc] vs kk))) hF (fun a0Trial a0Safe a0New a0Old b1Trial b1Safe b1New b1Old hF => goes_of (e_laws_equalSegments a0Trial a0Safe a0New a0Old b1Trial b1Safe b1New b1Old kk) (F_laws_equalSegments_S hF))
def con_laws_FnUseSegmentsTwice : Con := ⟨[.rd], true, [.c (.sl .u8)], fun vs k => match vs with
    | [.c (.ro .u8 code0)] => F_laws_FnUseSegmentsTwice code0 (fun r0 => k (.one (.c (.v (.bool r0)))) [])
    | _ => False, false⟩
def cl_laws_FnUseSegmentsTwice : List (FuncId × Con) := [(28, con_spec_DrawUseSegments), (29, con_impl_UseSegments), (30, con_spec_UseSegments), (31, con_laws_equalSegments)]
def an_laws_FnUseSegmentsTwice : Ann := ⟨[], [], []⟩
def cs_laws_FnUseSegmentsTwice : Cons := ⟨cl_laws_FnUseSegmentsTwice, [], 0, [], []⟩
def fin_laws_FnUseSegmentsTwice (code0 : List Int) (kk : AV → List A1 → Prop) : Kt := fin TT con_laws_FnUseSegmentsTwice Try.f14.results.toList [.c .sc] [.c (.ro .u8 code0)] kk
theorem g_laws_FnUseSegmentsTwice (code0 : List Int) (kk : AV → List A1 → Prop) :
    ev TT cs_laws_FnUseSegmentsTwice 74 an_laws_FnUseSegmentsTwice (Try.f14.body.getD .skip) (st0 con_laws_FnUseSegmentsTwice [.c (.ro .u8 code0)]) (fin TT con_laws_FnUseSegmentsTwice Try.f14.results.toList [.c .sc] [.c (.ro .u8 code0)] kk) = G_laws_FnUseSegmentsTwice code0 (fun r0 => kk (.one (.c (.v (.bool r0)))) []) := by kernel_rfl
theorem e_laws_FnUseSegmentsTwice (code0 : List Int) (kk : AV → List A1 → Prop) :
    ev TT cs_laws_FnUseSegmentsTwice 74 an_laws_FnUseSegmentsTwice (Try.f14.body.getD .skip) (st0 con_laws_FnUseSegmentsTwice [.c (.ro .u8 code0)]) (fin TT con_laws_FnUseSegmentsTwice Try.f14.results.toList [.c .sc] [.c (.ro .u8 code0)] kk) = S_laws_FnUseSegmentsTwice code0 (fun r0 => kk (.one (.c (.v (.bool r0)))) []) := by
  rw [g_laws_FnUseSegmentsTwice]
  rfl
theorem clok_laws_FnUseSegmentsTwice : ConOK Try.prog cl_laws_FnUseSegmentsTwice := consCons h_spec_DrawUseSegments ⟨Try.f28, Try.func28, by kernel_rfl, ne_of_beq (by kernel_rfl)⟩ (consCons h_impl_UseSegments ⟨Try.f29, Try.func29, by kernel_rfl, ne_of_beq (by kernel_rfl)⟩ (consCons h_spec_UseSegments ⟨Try.f30, Try.func30, by kernel_rfl, ne_of_beq (by kernel_rfl)⟩ (consCons h_laws_equalSegments ⟨Try.f31, Try.func31, by kernel_rfl, ne_of_beq (by kernel_rfl)⟩ (consNil))))
theorem cok_laws_FnUseSegmentsTwice : ConsOK Try.prog 74 cs_laws_FnUseSegmentsTwice := ⟨clok_laws_FnUseSegmentsTwice, inlNil⟩
theorem i_laws_FnUseSegmentsTwice {vs : List A1} {kk : AV → List A1 → Prop} {motive : List A1 → Prop} (h : con_laws_FnUseSegmentsTwice.F vs kk) (H : ∀ (code0 : List Int), F_laws_FnUseSegmentsTwice code0 (fun r0 => kk (.one (.c (.v (.bool r0)))) []) → motive [.c (.ro .u8 code0)]) : motive vs := by
  unfold con_laws_FnUseSegmentsTwice at h
  dsimp only at h
  split at h
  · exact H _ h
  · exact h.elim
theorem h_laws_FnUseSegmentsTwice : Holds Try.prog 14 con_laws_FnUseSegmentsTwice := by
  refine holds_of_ev (rt := [.c .sc]) (T := TT) (Γ := cs_laws_FnUseSegmentsTwice) (an := an_laws_FnUseSegmentsTwice) (N := 74) (c := Try.f14.body.getD .skip) Try.func14 (by kernel_rfl) Try.ntmps14 (by decide) (by decide) mixed tabOK cok_laws_FnUseSegmentsTwice (by kernel_rfl) ?_
  intro vs kk _ hF
  exact i_laws_FnUseSegmentsTwice (motive := fun vs => Goes (ev TT cs_laws_FnUseSegmentsTwice 74 an_laws_FnUseSegmentsTwice (Try.f14.body.getD .skip) (st0 con_laws_FnUseSegmentsTwice vs) (fin TT con_laws_FnUseSegmentsTwice Try.f14.results.toList [.c .sc] vs kk))) hF (fun code0 hF => goes_of (e_laws_FnUseSegmentsTwice code0 kk) (F_laws_FnUseSegmentsTwice_S hF))
end Go.Ev
