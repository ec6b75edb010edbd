/- What the evaluator gives for these functions: their contracts. No statement is proved here. -/
import Derived.Test.YtaajnkggomlppaaFnValidWeighedP0
import Derived.Test.YtaajnkggomlppaaTt
namespace Go.Ev
set_option linter.unusedVariables false
set_option maxRecDepth 100000
open Go Go.Proofs
def con_spec_newReader : Con := ⟨[.rd], true, [.c (.sl .u8)], fun vs k => match vs with
    | [.c (.ro .u8 code0)] => F_spec_newReader code0 (fun r0 r1 => k (.one (.agg [.ro .u8 r0, .v (.int .i64 r1)])) [])
    | _ => False, true⟩
def cl_spec_newReader : List (FuncId × Con) := []
def an_spec_newReader : Ann := ⟨[], [], [], []⟩
def cs_spec_newReader : Cons := ⟨cl_spec_newReader, [], 0, [], [], []⟩
def fin_spec_newReader (code0 : List Int) (kk : AV → List A1 → Prop) : Kt := finB Try.f29.results.toList [.sl .u8, .sc] kk
theorem g_spec_newReader (code0 : List Int) (kk : AV → List A1 → Prop) :
    ev TT cs_spec_newReader 11 an_spec_newReader (Try.f29.body.getD .skip) (st0 con_spec_newReader [.c (.ro .u8 code0)]) (finB Try.f29.results.toList [.sl .u8, .sc] kk) = G_spec_newReader code0 (fun r0 r1 => kk (.one (.agg [.ro .u8 r0, .v (.int .i64 r1)])) []) := by kernel_rfl
theorem e_spec_newReader (code0 : List Int) (kk : AV → List A1 → Prop) :
    ev TT cs_spec_newReader 11 an_spec_newReader (Try.f29.body.getD .skip) (st0 con_spec_newReader [.c (.ro .u8 code0)]) (finB Try.f29.results.toList [.sl .u8, .sc] kk) = S_spec_newReader code0 (fun r0 r1 => kk (.one (.agg [.ro .u8 r0, .v (.int .i64 r1)])) []) := by
  rw [g_spec_newReader]
  rfl
theorem clok_spec_newReader : ConOK Try.prog cl_spec_newReader := consNil
theorem cok_spec_newReader : ConsOK Try.prog 11 cs_spec_newReader := ⟨clok_spec_newReader, inlNil, ovNil⟩
theorem i_spec_newReader {vs : List A1} {kk : AV → List A1 → Prop} {motive : List A1 → Prop} (h : con_spec_newReader.F vs kk) (H : ∀ (code0 : List Int), F_spec_newReader code0 (fun r0 r1 => kk (.one (.agg [.ro .u8 r0, .v (.int .i64 r1)])) []) → motive [.c (.ro .u8 code0)]) : motive vs := by
  unfold con_spec_newReader at h
  dsimp only at h
  split at h
  · exact H _ h
  · exact h.elim
theorem h_spec_newReader : HoldsB Try.prog 29 con_spec_newReader := by
  refine holdsB_of_ev (ts := [.sl .u8, .sc]) (T := TT) (Γ := cs_spec_newReader) (an := an_spec_newReader) (N := 11) (c := Try.f29.body.getD .skip) Try.func29 (by kernel_rfl) Try.ntmps29 (by decide) (by decide) mixed tabOK cok_spec_newReader (by kernel_rfl) ?_
  intro vs kk _ hF
  exact i_spec_newReader (motive := fun vs => Goes (ev TT cs_spec_newReader 11 an_spec_newReader (Try.f29.body.getD .skip) (st0 con_spec_newReader vs) (finB Try.f29.results.toList [.sl .u8, .sc] kk))) hF (fun code0 hF => goes_of (e_spec_newReader code0 kk) (F_spec_newReader_S hF))
def con_spec_reader_pick : Con := ⟨[.mu, .rd], true, [.ptr [.sl .u8, .sc], .c (.sc)], fun vs k => match vs with
    | [.ptr [.ro .u8 r0b, .v (.int .i64 r0p)], .c (.v (.int .i64 n1))] => F_spec_reader_pick r0b r0p n1 (fun r0 r1 r2 => k (.one (.c (.v (.int .i64 r0)))) [.ptr [.ro .u8 r1, .v (.int .i64 r2)]])
    | _ => False, false⟩
def cl_spec_reader_pick : List (FuncId × Con) := []
def an_spec_reader_pick : Ann := ⟨[(7, .take 0 (.take 1 (.take 2 (.take 3 (.take 4 (.take 5 (.take 6 (.take 7 (.take 8 (.take 9 (.take 10 (.take 11 (.take 12 (.take 13 (.take 14 (.take 15 (.take 16 (.take 17 (.take 18 (.take 19 (.take 20 (.take 21 (.take 22 (.take 23 (.take 24 (.take 25 (.take 26 (.take 27 (.take 28 (.take 29 (.take 30 (.take 31 (.take 32 (.take 33 (.take 34 (.take 35 (.take 36 (.take 37 (.take 38 (.take 39 (.take 40 (.take 41 (.take 42 (.take 43 (.take 44 (.take 45 (.done)))))))))))))))))))))))))))))))))))))))))))))), [100000])], [], [], []⟩
def cs_spec_reader_pick : Cons := ⟨cl_spec_reader_pick, [], 0, [], [], []⟩
def fin_spec_reader_pick (r0b : List Int) (r0p : Int) (n1 : Int) (kk : AV → List A1 → Prop) : Kt := fin TT con_spec_reader_pick Try.f47.results.toList [.c .sc] [.ptr [.ro .u8 r0b, .v (.int .i64 r0p)], .c (.v (.int .i64 n1))] kk
theorem g_spec_reader_pick (r0b : List Int) (r0p : Int) (n1 : Int) (kk : AV → List A1 → Prop) :
    ev TT cs_spec_reader_pick 99 an_spec_reader_pick (Try.f47.body.getD .skip) (st0 con_spec_reader_pick [.ptr [.ro .u8 r0b, .v (.int .i64 r0p)], .c (.v (.int .i64 n1))]) (fin TT con_spec_reader_pick Try.f47.results.toList [.c .sc] [.ptr [.ro .u8 r0b, .v (.int .i64 r0p)], .c (.v (.int .i64 n1))] kk) = G_spec_reader_pick r0b r0p n1 (fun r0 r1 r2 => kk (.one (.c (.v (.int .i64 r0)))) [.ptr [.ro .u8 r1, .v (.int .i64 r2)]]) := by kernel_rfl
theorem e_spec_reader_pick (r0b : List Int) (r0p : Int) (n1 : Int) (kk : AV → List A1 → Prop) :
    ev TT cs_spec_reader_pick 99 an_spec_reader_pick (Try.f47.body.getD .skip) (st0 con_spec_reader_pick [.ptr [.ro .u8 r0b, .v (.int .i64 r0p)], .c (.v (.int .i64 n1))]) (fin TT con_spec_reader_pick Try.f47.results.toList [.c .sc] [.ptr [.ro .u8 r0b, .v (.int .i64 r0p)], .c (.v (.int .i64 n1))] kk) = S_spec_reader_pick r0b r0p n1 (fun r0 r1 r2 => kk (.one (.c (.v (.int .i64 r0)))) [.ptr [.ro .u8 r1, .v (.int .i64 r2)]]) := by
  rw [g_spec_reader_pick]
  rfl
theorem clok_spec_reader_pick : ConOK Try.prog cl_spec_reader_pick := consNil
theorem cok_spec_reader_pick : ConsOK Try.prog 99 cs_spec_reader_pick := ⟨clok_spec_reader_pick, inlNil, ovNil⟩
theorem i_spec_reader_pick {vs : List A1} {kk : AV → List A1 → Prop} {motive : List A1 → Prop} (h : con_spec_reader_pick.F vs kk) (H : ∀ (r0b : List Int) (r0p : Int) (n1 : Int), F_spec_reader_pick r0b r0p n1 (fun r0 r1 r2 => kk (.one (.c (.v (.int .i64 r0)))) [.ptr [.ro .u8 r1, .v (.int .i64 r2)]]) → motive [.ptr [.ro .u8 r0b, .v (.int .i64 r0p)], .c (.v (.int .i64 n1))]) : motive vs := by
  unfold con_spec_reader_pick at h
  dsimp only at h
  split at h
  · exact H _ _ _ h
  · exact h.elim
theorem h_spec_reader_pick : Holds Try.prog 47 con_spec_reader_pick := by
  refine holds_of_ev (rt := [.c .sc]) (T := TT) (Γ := cs_spec_reader_pick) (an := an_spec_reader_pick) (N := 99) (c := Try.f47.body.getD .skip) Try.func47 (by kernel_rfl) Try.ntmps47 (by decide) (by decide) mixed tabOK cok_spec_reader_pick (by kernel_rfl) ?_
  intro vs kk _ hF
  exact i_spec_reader_pick (motive := fun vs => Goes (ev TT cs_spec_reader_pick 99 an_spec_reader_pick (Try.f47.body.getD .skip) (st0 con_spec_reader_pick vs) (fin TT con_spec_reader_pick Try.f47.results.toList [.c .sc] vs kk))) hF (fun r0b r0p n1 hF => goes_of (e_spec_reader_pick r0b r0p n1 kk) (F_spec_reader_pick_S hF))
def con_spec_reader_one : Con := ⟨[.mu, .rd], true, [.ptr [.sl .u8, .sc], .c (.sl .int)], fun vs k => match vs with
    | [.ptr [.ro .u8 r0b, .v (.int .i64 r0p)], .c (.ro .int list1)] => F_spec_reader_one r0b r0p list1 (fun r0 r1 r2 => k (.one (.c (.v (.int .i64 r0)))) [.ptr [.ro .u8 r1, .v (.int .i64 r2)]])
    | _ => False, false⟩
def cl_spec_reader_one : List (FuncId × Con) := [(47, con_spec_reader_pick)]
def an_spec_reader_one : Ann := ⟨[], [], [], []⟩
def cs_spec_reader_one : Cons := ⟨cl_spec_reader_one, [], 0, [], [], []⟩
def fin_spec_reader_one (r0b : List Int) (r0p : Int) (list1 : List Int) (kk : AV → List A1 → Prop) : Kt := fin TT con_spec_reader_one Try.f39.results.toList [.c .sc] [.ptr [.ro .u8 r0b, .v (.int .i64 r0p)], .c (.ro .int list1)] kk
theorem g_spec_reader_one (r0b : List Int) (r0p : Int) (list1 : List Int) (kk : AV → List A1 → Prop) :
    ev TT cs_spec_reader_one 12 an_spec_reader_one (Try.f39.body.getD .skip) (st0 con_spec_reader_one [.ptr [.ro .u8 r0b, .v (.int .i64 r0p)], .c (.ro .int list1)]) (fin TT con_spec_reader_one Try.f39.results.toList [.c .sc] [.ptr [.ro .u8 r0b, .v (.int .i64 r0p)], .c (.ro .int list1)] kk) = G_spec_reader_one r0b r0p list1 (fun r0 r1 r2 => kk (.one (.c (.v (.int .i64 r0)))) [.ptr [.ro .u8 r1, .v (.int .i64 r2)]]) := by kernel_rfl
theorem e_spec_reader_one (r0b : List Int) (r0p : Int) (list1 : List Int) (kk : AV → List A1 → Prop) :
    ev TT cs_spec_reader_one 12 an_spec_reader_one (Try.f39.body.getD .skip) (st0 con_spec_reader_one [.ptr [.ro .u8 r0b, .v (.int .i64 r0p)], .c (.ro .int list1)]) (fin TT con_spec_reader_one Try.f39.results.toList [.c .sc] [.ptr [.ro .u8 r0b, .v (.int .i64 r0p)], .c (.ro .int list1)] kk) = S_spec_reader_one r0b r0p list1 (fun r0 r1 r2 => kk (.one (.c (.v (.int .i64 r0)))) [.ptr [.ro .u8 r1, .v (.int .i64 r2)]]) := by
  rw [g_spec_reader_one]
  rfl
theorem clok_spec_reader_one : ConOK Try.prog cl_spec_reader_one := consCons h_spec_reader_pick ⟨Try.f47, Try.func47, by kernel_rfl, ne_of_beq (by kernel_rfl)⟩ (consNil)
theorem cok_spec_reader_one : ConsOK Try.prog 12 cs_spec_reader_one := ⟨clok_spec_reader_one, inlNil, ovNil⟩
theorem i_spec_reader_one {vs : List A1} {kk : AV → List A1 → Prop} {motive : List A1 → Prop} (h : con_spec_reader_one.F vs kk) (H : ∀ (r0b : List Int) (r0p : Int) (list1 : List Int), F_spec_reader_one r0b r0p list1 (fun r0 r1 r2 => kk (.one (.c (.v (.int .i64 r0)))) [.ptr [.ro .u8 r1, .v (.int .i64 r2)]]) → motive [.ptr [.ro .u8 r0b, .v (.int .i64 r0p)], .c (.ro .int list1)]) : motive vs := by
  unfold con_spec_reader_one at h
  dsimp only at h
  split at h
  · exact H _ _ _ h
  · exact h.elim
theorem h_spec_reader_one : Holds Try.prog 39 con_spec_reader_one := by
  refine holds_of_ev (rt := [.c .sc]) (T := TT) (Γ := cs_spec_reader_one) (an := an_spec_reader_one) (N := 12) (c := Try.f39.body.getD .skip) Try.func39 (by kernel_rfl) Try.ntmps39 (by decide) (by decide) mixed tabOK cok_spec_reader_one (by kernel_rfl) ?_
  intro vs kk _ hF
  exact i_spec_reader_one (motive := fun vs => Goes (ev TT cs_spec_reader_one 12 an_spec_reader_one (Try.f39.body.getD .skip) (st0 con_spec_reader_one vs) (fin TT con_spec_reader_one Try.f39.results.toList [.c .sc] vs kk))) hF (fun r0b r0p list1 hF => goes_of (e_spec_reader_one r0b r0p list1 kk) (F_spec_reader_one_S hF))
def con_spec_sizeOf : Con := ⟨[.rd], true, [.c (.sl .ii)], fun vs k => match vs with
    | [.c (.ro .ii list0)] => F_spec_sizeOf list0 (fun r0 => k (.one (.c (.v (.int .i64 r0)))) [])
    | _ => False, false⟩
def cl_spec_sizeOf : List (FuncId × Con) := []
def nm0_spec_sizeOf : List NStep := [.keep [0, 3, 4] []]
def an_spec_sizeOf : Ann := ⟨[], [(3, nm0_spec_sizeOf)], [], []⟩
def cs_spec_sizeOf : Cons := ⟨cl_spec_sizeOf, [], 0, [], [], []⟩
def can0_spec_sizeOf (list0 : List (Int × Int)) (xn3 : Int) (xi4 : Int) : St := ⟨[(0, .one (.c (.ro .ii list0))), (3, .one (.c (.v (.int .i64 xn3)))), (4, .one (.c (.v (.int .i64 xi4))))], []⟩
def fin_spec_sizeOf (list0 : List (Int × Int)) (kk : AV → List A1 → Prop) : Kt := fin TT con_spec_sizeOf Try.f37.results.toList [.c .sc] [.c (.ro .ii list0)] kk
def kt0_spec_sizeOf (kf : Kt) : Kt := blockK 0 (seqK (evF TT cs_spec_sizeOf 19 an_spec_sizeOf Try.f37 [1, 1, 1]) (kf))
theorem r0_spec_sizeOf (list0 : List (Int × Int)) (kk : AV → List A1 → Prop) (n : Nat) (xn3 : Int) (xi4 : Int) :
    iter (evF TT cs_spec_sizeOf 19 an_spec_sizeOf Try.f37 [1, 1, 0, 1, 0, 0]) nm0_spec_sizeOf (kt0_spec_sizeOf (fin_spec_sizeOf list0 kk)) (n + 1) (can0_spec_sizeOf list0 xn3 xi4) = T0_spec_sizeOf list0 xn3 xi4 (fun r0 => kk (.one (.c (.v (.int .i64 r0)))) []) (fun xn3 xi4 => iter (evF TT cs_spec_sizeOf 19 an_spec_sizeOf Try.f37 [1, 1, 0, 1, 0, 0]) nm0_spec_sizeOf (kt0_spec_sizeOf (fin_spec_sizeOf list0 kk)) n (can0_spec_sizeOf list0 xn3 xi4)) := by kernel_rfl
theorem l0_spec_sizeOf (list0 : List (Int × Int)) (kk : AV → List A1 → Prop) : ∀ (n : Nat) (xn3 : Int) (xi4 : Int), iter (evF TT cs_spec_sizeOf 19 an_spec_sizeOf Try.f37 [1, 1, 0, 1, 0, 0]) nm0_spec_sizeOf (kt0_spec_sizeOf (fin_spec_sizeOf list0 kk)) n (can0_spec_sizeOf list0 xn3 xi4) = L0_spec_sizeOf list0 (fun r0 => kk (.one (.c (.v (.int .i64 r0)))) []) n xn3 xi4 := by
  intro n
  induction n with
  | zero => intros; rfl
  | succ n ih =>
    intro xn3 xi4
    rw [r0_spec_sizeOf list0 kk n xn3 xi4]
    have hb : (fun xn3 xi4 => iter (evF TT cs_spec_sizeOf 19 an_spec_sizeOf Try.f37 [1, 1, 0, 1, 0, 0]) nm0_spec_sizeOf (kt0_spec_sizeOf (fin_spec_sizeOf list0 kk)) n (can0_spec_sizeOf list0 xn3 xi4)) = L0_spec_sizeOf list0 (fun r0 => kk (.one (.c (.v (.int .i64 r0)))) []) n := by
      funext xn3 xi4; exact ih xn3 xi4
    rw [hb]
    rfl
theorem g_spec_sizeOf (list0 : List (Int × Int)) (kk : AV → List A1 → Prop) :
    ev TT cs_spec_sizeOf 19 an_spec_sizeOf (Try.f37.body.getD .skip) (st0 con_spec_sizeOf [.c (.ro .ii list0)]) (fin TT con_spec_sizeOf Try.f37.results.toList [.c .sc] [.c (.ro .ii list0)] kk) = G_spec_sizeOf list0 (fun list0 xn3 xi4 => ∃ j, iter (evF TT cs_spec_sizeOf 19 an_spec_sizeOf Try.f37 [1, 1, 0, 1, 0, 0]) nm0_spec_sizeOf (kt0_spec_sizeOf (fin_spec_sizeOf list0 kk)) j (can0_spec_sizeOf list0 xn3 xi4)) := by kernel_rfl
theorem e_spec_sizeOf (list0 : List (Int × Int)) (kk : AV → List A1 → Prop) :
    ev TT cs_spec_sizeOf 19 an_spec_sizeOf (Try.f37.body.getD .skip) (st0 con_spec_sizeOf [.c (.ro .ii list0)]) (fin TT con_spec_sizeOf Try.f37.results.toList [.c .sc] [.c (.ro .ii list0)] kk) = S_spec_sizeOf list0 (fun r0 => kk (.one (.c (.v (.int .i64 r0)))) []) := by
  rw [g_spec_sizeOf]
  have hi0 : (fun list0 xn3 xi4 => ∃ j, iter (evF TT cs_spec_sizeOf 19 an_spec_sizeOf Try.f37 [1, 1, 0, 1, 0, 0]) nm0_spec_sizeOf (kt0_spec_sizeOf (fin_spec_sizeOf list0 kk)) j (can0_spec_sizeOf list0 xn3 xi4)) = (fun list0 xn3 xi4 => ∃ j, L0_spec_sizeOf list0 (fun r0 => kk (.one (.c (.v (.int .i64 r0)))) []) j xn3 xi4) := by
    funext list0 xn3 xi4
    refine congrArg Exists (funext fun j => ?_)
    rw [l0_spec_sizeOf list0 kk j xn3 xi4]
  rw [hi0]
  rfl
theorem clok_spec_sizeOf : ConOK Try.prog cl_spec_sizeOf := consNil
theorem cok_spec_sizeOf : ConsOK Try.prog 19 cs_spec_sizeOf := ⟨clok_spec_sizeOf, inlNil, ovNil⟩
theorem i_spec_sizeOf {vs : List A1} {kk : AV → List A1 → Prop} {motive : List A1 → Prop} (h : con_spec_sizeOf.F vs kk) (H : ∀ (list0 : List (Int × Int)), F_spec_sizeOf list0 (fun r0 => kk (.one (.c (.v (.int .i64 r0)))) []) → motive [.c (.ro .ii list0)]) : motive vs := by
  unfold con_spec_sizeOf at h
  dsimp only at h
  split at h
  · exact H _ h
  · exact h.elim
theorem h_spec_sizeOf : Holds Try.prog 37 con_spec_sizeOf := by
  refine holds_of_ev (rt := [.c .sc]) (T := TT) (Γ := cs_spec_sizeOf) (an := an_spec_sizeOf) (N := 19) (c := Try.f37.body.getD .skip) Try.func37 (by kernel_rfl) Try.ntmps37 (by decide) (by decide) mixed tabOK cok_spec_sizeOf (by kernel_rfl) ?_
  intro vs kk _ hF
  exact i_spec_sizeOf (motive := fun vs => Goes (ev TT cs_spec_sizeOf 19 an_spec_sizeOf (Try.f37.body.getD .skip) (st0 con_spec_sizeOf vs) (fin TT con_spec_sizeOf Try.f37.results.toList [.c .sc] vs kk))) hF (fun list0 hF => goes_of (e_spec_sizeOf list0 kk) (F_spec_sizeOf_S hF))
def con_spec_weigh : Con := ⟨[.rd, .rd, .rd, .rd], true, [.c (.sl .ii), .c (.sc), .c (.sc), .c (.sc)], fun vs k => match vs with
    | [.c (.ro .ii list0), .c (.v (.int .i64 room1)), .c (.v (.int .i64 key2)), .c (.v (.int .i64 size3))] => F_spec_weigh list0 room1 key2 size3 (fun r0 r1 => k (.tup [.c (.ro .ii r0), .c (.v (.int .i64 r1))]) [])
    | _ => False, false⟩
def cl_spec_weigh : List (FuncId × Con) := [(37, con_spec_sizeOf)]
def nm1_spec_weigh : List NStep := [.own 10 .ii 90100, .keep [1, 10, 12] [90100]]
def nm0_spec_weigh : List NStep := [.own 10 .ii 90000, .keep [0, 1, 2, 10, 11] [90000]]
def an_spec_weigh : Ann := ⟨[], [(8, nm1_spec_weigh), (3, nm0_spec_weigh)], [], []⟩
def cs_spec_weigh : Cons := ⟨cl_spec_weigh, [], 0, [], [], []⟩
def can1_spec_weigh (room1 : Int) (xn12 : Int) (xout10' : List (Int × Int)) : St := ⟨[(1, .one (.c (.v (.int .i64 room1)))), (10, .one (.c (.ow 90100))), (12, .one (.c (.v (.int .i64 xn12))))], [(90100, .row .ii xout10')]⟩
def can0_spec_weigh (key2 : Int) (list0 : List (Int × Int)) (room1 : Int) (xi11 : Int) (xout10 : List (Int × Int)) : St := ⟨[(0, .one (.c (.ro .ii list0))), (1, .one (.c (.v (.int .i64 room1)))), (2, .one (.c (.v (.int .i64 key2)))), (10, .one (.c (.ow 90000))), (11, .one (.c (.v (.int .i64 xi11))))], [(90000, .row .ii xout10)]⟩
def fin_spec_weigh (list0 : List (Int × Int)) (room1 : Int) (key2 : Int) (size3 : Int) (kk : AV → List A1 → Prop) : Kt := fin TT con_spec_weigh Try.f44.results.toList [.c (.sl .ii), .c .sc] [.c (.ro .ii list0), .c (.v (.int .i64 room1)), .c (.v (.int .i64 key2)), .c (.v (.int .i64 size3))] kk
def kt1_spec_weigh (kf : Kt) : Kt := blockK 2 (seqK (evF TT cs_spec_weigh 50 an_spec_weigh Try.f44 [1, 1, 1, 1, 1]) (kf))
def kt0_spec_weigh (kf : Kt) : Kt := blockK 0 (seqK (evF TT cs_spec_weigh 50 an_spec_weigh Try.f44 [1, 1, 1]) (kf))
theorem r1_spec_weigh (list0 : List (Int × Int)) (room1 : Int) (key2 : Int) (size3 : Int) (kk : AV → List A1 → Prop) (n : Nat) (xn12 : Int) (xout10' : List (Int × Int)) :
    iter (evF TT cs_spec_weigh 50 an_spec_weigh Try.f44 [1, 1, 1, 1, 0, 0, 0]) nm1_spec_weigh (kt1_spec_weigh (fin_spec_weigh list0 room1 key2 size3 kk)) (n + 1) (can1_spec_weigh room1 xn12 xout10') = T1_spec_weigh room1 xn12 xout10' (fun r0 r1 => kk (.tup [.c (.ro .ii r0), .c (.v (.int .i64 r1))]) []) (fun xn12 xout10' => iter (evF TT cs_spec_weigh 50 an_spec_weigh Try.f44 [1, 1, 1, 1, 0, 0, 0]) nm1_spec_weigh (kt1_spec_weigh (fin_spec_weigh list0 room1 key2 size3 kk)) n (can1_spec_weigh room1 xn12 xout10')) := by kernel_rfl
theorem l1_spec_weigh (list0 : List (Int × Int)) (room1 : Int) (key2 : Int) (size3 : Int) (kk : AV → List A1 → Prop) : ∀ (n : Nat) (xn12 : Int) (xout10' : List (Int × Int)), iter (evF TT cs_spec_weigh 50 an_spec_weigh Try.f44 [1, 1, 1, 1, 0, 0, 0]) nm1_spec_weigh (kt1_spec_weigh (fin_spec_weigh list0 room1 key2 size3 kk)) n (can1_spec_weigh room1 xn12 xout10') = L1_spec_weigh room1 (fun r0 r1 => kk (.tup [.c (.ro .ii r0), .c (.v (.int .i64 r1))]) []) n xn12 xout10' := by
  intro n
  induction n with
  | zero => intros; rfl
  | succ n ih =>
    intro xn12 xout10'
    rw [r1_spec_weigh list0 room1 key2 size3 kk n xn12 xout10']
    have hb : (fun xn12 xout10' => iter (evF TT cs_spec_weigh 50 an_spec_weigh Try.f44 [1, 1, 1, 1, 0, 0, 0]) nm1_spec_weigh (kt1_spec_weigh (fin_spec_weigh list0 room1 key2 size3 kk)) n (can1_spec_weigh room1 xn12 xout10')) = L1_spec_weigh room1 (fun r0 r1 => kk (.tup [.c (.ro .ii r0), .c (.v (.int .i64 r1))]) []) n := by
      funext xn12 xout10'; exact ih xn12 xout10'
    rw [hb]
    rfl
theorem r0_spec_weigh (list0 : List (Int × Int)) (room1 : Int) (key2 : Int) (size3 : Int) (kk : AV → List A1 → Prop) (n : Nat) (xi11 : Int) (xout10 : List (Int × Int)) :
    iter (evF TT cs_spec_weigh 50 an_spec_weigh Try.f44 [1, 1, 0, 1, 0, 0]) nm0_spec_weigh (kt0_spec_weigh (fin_spec_weigh list0 room1 key2 size3 kk)) (n + 1) (can0_spec_weigh key2 list0 room1 xi11 xout10) = T0_spec_weigh key2 list0 room1 xi11 xout10 (fun xi11 xout10 => iter (evF TT cs_spec_weigh 50 an_spec_weigh Try.f44 [1, 1, 0, 1, 0, 0]) nm0_spec_weigh (kt0_spec_weigh (fin_spec_weigh list0 room1 key2 size3 kk)) n (can0_spec_weigh key2 list0 room1 xi11 xout10)) (fun room1 xn12 xout10' => ∃ j, iter (evF TT cs_spec_weigh 50 an_spec_weigh Try.f44 [1, 1, 1, 1, 0, 0, 0]) nm1_spec_weigh (kt1_spec_weigh (fin_spec_weigh list0 room1 key2 size3 kk)) j (can1_spec_weigh room1 xn12 xout10')) := by kernel_rfl
theorem l0_spec_weigh (list0 : List (Int × Int)) (room1 : Int) (key2 : Int) (size3 : Int) (kk : AV → List A1 → Prop) : ∀ (n : Nat) (xi11 : Int) (xout10 : List (Int × Int)), iter (evF TT cs_spec_weigh 50 an_spec_weigh Try.f44 [1, 1, 0, 1, 0, 0]) nm0_spec_weigh (kt0_spec_weigh (fin_spec_weigh list0 room1 key2 size3 kk)) n (can0_spec_weigh key2 list0 room1 xi11 xout10) = L0_spec_weigh key2 list0 room1 (fun r0 r1 => kk (.tup [.c (.ro .ii r0), .c (.v (.int .i64 r1))]) []) n xi11 xout10 := by
  intro n
  induction n generalizing list0 room1 key2 size3 with
  | zero => intros; rfl
  | succ n ih =>
    intro xi11 xout10
    rw [r0_spec_weigh list0 room1 key2 size3 kk n xi11 xout10]
    have hb : ∀ (list0 : List (Int × Int)) (room1 : Int) (key2 : Int) (size3 : Int), (fun xi11 xout10 => iter (evF TT cs_spec_weigh 50 an_spec_weigh Try.f44 [1, 1, 0, 1, 0, 0]) nm0_spec_weigh (kt0_spec_weigh (fin_spec_weigh list0 room1 key2 size3 kk)) n (can0_spec_weigh key2 list0 room1 xi11 xout10)) = L0_spec_weigh key2 list0 room1 (fun r0 r1 => kk (.tup [.c (.ro .ii r0), .c (.v (.int .i64 r1))]) []) n := by
      intro list0 room1 key2 size3
      funext xi11 xout10; exact ih list0 room1 key2 size3 xi11 xout10
    have hi1 : (fun room1 xn12 xout10' => ∃ j, iter (evF TT cs_spec_weigh 50 an_spec_weigh Try.f44 [1, 1, 1, 1, 0, 0, 0]) nm1_spec_weigh (kt1_spec_weigh (fin_spec_weigh list0 room1 key2 size3 kk)) j (can1_spec_weigh room1 xn12 xout10')) = (fun room1 xn12 xout10' => ∃ j, L1_spec_weigh room1 (fun r0 r1 => kk (.tup [.c (.ro .ii r0), .c (.v (.int .i64 r1))]) []) j xn12 xout10') := by
      funext room1 xn12 xout10'
      refine congrArg Exists (funext fun j => ?_)
      rw [l1_spec_weigh list0 room1 key2 size3 kk j xn12 xout10']
    rw [hb, hi1]
    rfl
theorem g_spec_weigh (list0 : List (Int × Int)) (room1 : Int) (key2 : Int) (size3 : Int) (kk : AV → List A1 → Prop) :
    ev TT cs_spec_weigh 50 an_spec_weigh (Try.f44.body.getD .skip) (st0 con_spec_weigh [.c (.ro .ii list0), .c (.v (.int .i64 room1)), .c (.v (.int .i64 key2)), .c (.v (.int .i64 size3))]) (fin TT con_spec_weigh Try.f44.results.toList [.c (.sl .ii), .c .sc] [.c (.ro .ii list0), .c (.v (.int .i64 room1)), .c (.v (.int .i64 key2)), .c (.v (.int .i64 size3))] kk) = G_spec_weigh list0 room1 key2 size3 (fun key2 list0 room1 xi11 xout10 => ∃ j, iter (evF TT cs_spec_weigh 50 an_spec_weigh Try.f44 [1, 1, 0, 1, 0, 0]) nm0_spec_weigh (kt0_spec_weigh (fin_spec_weigh list0 room1 key2 size3 kk)) j (can0_spec_weigh key2 list0 room1 xi11 xout10)) := by kernel_rfl
theorem e_spec_weigh (list0 : List (Int × Int)) (room1 : Int) (key2 : Int) (size3 : Int) (kk : AV → List A1 → Prop) :
    ev TT cs_spec_weigh 50 an_spec_weigh (Try.f44.body.getD .skip) (st0 con_spec_weigh [.c (.ro .ii list0), .c (.v (.int .i64 room1)), .c (.v (.int .i64 key2)), .c (.v (.int .i64 size3))]) (fin TT con_spec_weigh Try.f44.results.toList [.c (.sl .ii), .c .sc] [.c (.ro .ii list0), .c (.v (.int .i64 room1)), .c (.v (.int .i64 key2)), .c (.v (.int .i64 size3))] kk) = S_spec_weigh list0 room1 key2 size3 (fun r0 r1 => kk (.tup [.c (.ro .ii r0), .c (.v (.int .i64 r1))]) []) := by
  rw [g_spec_weigh]
  have hi0 : (fun key2 list0 room1 xi11 xout10 => ∃ j, iter (evF TT cs_spec_weigh 50 an_spec_weigh Try.f44 [1, 1, 0, 1, 0, 0]) nm0_spec_weigh (kt0_spec_weigh (fin_spec_weigh list0 room1 key2 size3 kk)) j (can0_spec_weigh key2 list0 room1 xi11 xout10)) = (fun key2 list0 room1 xi11 xout10 => ∃ j, L0_spec_weigh key2 list0 room1 (fun r0 r1 => kk (.tup [.c (.ro .ii r0), .c (.v (.int .i64 r1))]) []) j xi11 xout10) := by
    funext key2 list0 room1 xi11 xout10
    refine congrArg Exists (funext fun j => ?_)
    rw [l0_spec_weigh list0 room1 key2 size3 kk j xi11 xout10]
  rw [hi0]
  rfl
theorem clok_spec_weigh : ConOK Try.prog cl_spec_weigh := consCons h_spec_sizeOf ⟨Try.f37, Try.func37, by kernel_rfl, ne_of_beq (by kernel_rfl)⟩ (consNil)
theorem cok_spec_weigh : ConsOK Try.prog 50 cs_spec_weigh := ⟨clok_spec_weigh, inlNil, ovNil⟩
theorem i_spec_weigh {vs : List A1} {kk : AV → List A1 → Prop} {motive : List A1 → Prop} (h : con_spec_weigh.F vs kk) (H : ∀ (list0 : List (Int × Int)) (room1 : Int) (key2 : Int) (size3 : Int), F_spec_weigh list0 room1 key2 size3 (fun r0 r1 => kk (.tup [.c (.ro .ii r0), .c (.v (.int .i64 r1))]) []) → motive [.c (.ro .ii list0), .c (.v (.int .i64 room1)), .c (.v (.int .i64 key2)), .c (.v (.int .i64 size3))]) : motive vs := by
  unfold con_spec_weigh at h
  dsimp only at h
  split at h
  · exact H _ _ _ _ h
  · exact h.elim
theorem h_spec_weigh : Holds Try.prog 44 con_spec_weigh := by
  refine holds_of_ev (rt := [.c (.sl .ii), .c .sc]) (T := TT) (Γ := cs_spec_weigh) (an := an_spec_weigh) (N := 50) (c := Try.f44.body.getD .skip) Try.func44 (by kernel_rfl) Try.ntmps44 (by decide) (by decide) mixed tabOK cok_spec_weigh (by kernel_rfl) ?_
  intro vs kk _ hF
  exact i_spec_weigh (motive := fun vs => Goes (ev TT cs_spec_weigh 50 an_spec_weigh (Try.f44.body.getD .skip) (st0 con_spec_weigh vs) (fin TT con_spec_weigh Try.f44.results.toList [.c (.sl .ii), .c .sc] vs kk))) hF (fun list0 room1 key2 size3 hF => goes_of (e_spec_weigh list0 room1 key2 size3 kk) (F_spec_weigh_S hF))
def con_spec_someWeighed : Con := ⟨[.mu], true, [.ptr [.sl .u8, .sc]], fun vs k => match vs with
    | [.ptr [.ro .u8 r0b, .v (.int .i64 r0p)]] => F_spec_someWeighed r0b r0p (fun r0 r1 r2 r3 => k (.tup [.c (.ro .ii r0), .c (.v (.int .i64 r1))]) [.ptr [.ro .u8 r2, .v (.int .i64 r3)]])
    | _ => False, false⟩
def cl_spec_someWeighed : List (FuncId × Con) := [(39, con_spec_reader_one), (44, con_spec_weigh), (47, con_spec_reader_pick)]
def nm0_spec_someWeighed : List NStep := [.own 5 .ii 90000, .keep [0, 4, 5, 6] [100000, 90000]]
def an_spec_someWeighed : Ann := ⟨[], [(4, nm0_spec_someWeighed)], [], []⟩
def cs_spec_someWeighed : Cons := ⟨cl_spec_someWeighed, [], 0, [], [], []⟩
def can0_spec_someWeighed (one9 : Int) (xn6 : Int) (xb100000c0 : List Int) (xb100000c1 : Int) (xout5 : List (Int × Int)) : St := ⟨[(0, .one (.c (.pb 100000 0))), (4, .one (.c (.v (.int .i64 one9)))), (5, .one (.c (.ow 90000))), (6, .one (.c (.v (.int .i64 xn6))))], [(100000, .box [.ro .u8 xb100000c0, .v (.int .i64 xb100000c1)]), (90000, .row .ii xout5)]⟩
def fin_spec_someWeighed (r0b : List Int) (r0p : Int) (kk : AV → List A1 → Prop) : Kt := fin TT con_spec_someWeighed Try.f28.results.toList [.c (.sl .ii), .c .sc] [.ptr [.ro .u8 r0b, .v (.int .i64 r0p)]] kk
def kt0_spec_someWeighed (kf : Kt) : Kt := blockK 0 (seqK (evF TT cs_spec_someWeighed 48 an_spec_someWeighed Try.f28 [1, 1, 1, 1]) (kf))
theorem r0_spec_someWeighed (r0b : List Int) (r0p : Int) (one9 : Int) (kk : AV → List A1 → Prop) (n : Nat) (xn6 : Int) (xb100000c0 : List Int) (xb100000c1 : Int) (xout5 : List (Int × Int)) :
    iter (evF TT cs_spec_someWeighed 48 an_spec_someWeighed Try.f28 [1, 1, 1, 0, 1, 0, 0]) nm0_spec_someWeighed (kt0_spec_someWeighed (fin_spec_someWeighed r0b r0p kk)) (n + 1) (can0_spec_someWeighed one9 xn6 xb100000c0 xb100000c1 xout5) = T0_spec_someWeighed one9 xn6 xb100000c0 xb100000c1 xout5 (fun r0 r1 r2 r3 => kk (.tup [.c (.ro .ii r0), .c (.v (.int .i64 r1))]) [.ptr [.ro .u8 r2, .v (.int .i64 r3)]]) (fun xn6 xb100000c0 xb100000c1 xout5 => iter (evF TT cs_spec_someWeighed 48 an_spec_someWeighed Try.f28 [1, 1, 1, 0, 1, 0, 0]) nm0_spec_someWeighed (kt0_spec_someWeighed (fin_spec_someWeighed r0b r0p kk)) n (can0_spec_someWeighed one9 xn6 xb100000c0 xb100000c1 xout5)) := by kernel_rfl
theorem l0_spec_someWeighed (r0b : List Int) (r0p : Int) (one9 : Int) (kk : AV → List A1 → Prop) : ∀ (n : Nat) (xn6 : Int) (xb100000c0 : List Int) (xb100000c1 : Int) (xout5 : List (Int × Int)), iter (evF TT cs_spec_someWeighed 48 an_spec_someWeighed Try.f28 [1, 1, 1, 0, 1, 0, 0]) nm0_spec_someWeighed (kt0_spec_someWeighed (fin_spec_someWeighed r0b r0p kk)) n (can0_spec_someWeighed one9 xn6 xb100000c0 xb100000c1 xout5) = L0_spec_someWeighed one9 (fun r0 r1 r2 r3 => kk (.tup [.c (.ro .ii r0), .c (.v (.int .i64 r1))]) [.ptr [.ro .u8 r2, .v (.int .i64 r3)]]) n xn6 xb100000c0 xb100000c1 xout5 := by
  intro n
  induction n with
  | zero => intros; rfl
  | succ n ih =>
    intro xn6 xb100000c0 xb100000c1 xout5
    rw [r0_spec_someWeighed r0b r0p one9 kk n xn6 xb100000c0 xb100000c1 xout5]
    have hb : (fun xn6 xb100000c0 xb100000c1 xout5 => iter (evF TT cs_spec_someWeighed 48 an_spec_someWeighed Try.f28 [1, 1, 1, 0, 1, 0, 0]) nm0_spec_someWeighed (kt0_spec_someWeighed (fin_spec_someWeighed r0b r0p kk)) n (can0_spec_someWeighed one9 xn6 xb100000c0 xb100000c1 xout5)) = L0_spec_someWeighed one9 (fun r0 r1 r2 r3 => kk (.tup [.c (.ro .ii r0), .c (.v (.int .i64 r1))]) [.ptr [.ro .u8 r2, .v (.int .i64 r3)]]) n := by
      funext xn6 xb100000c0 xb100000c1 xout5; exact ih xn6 xb100000c0 xb100000c1 xout5
    rw [hb]
    rfl
theorem g_spec_someWeighed (r0b : List Int) (r0p : Int) (kk : AV → List A1 → Prop) :
    ev TT cs_spec_someWeighed 48 an_spec_someWeighed (Try.f28.body.getD .skip) (st0 con_spec_someWeighed [.ptr [.ro .u8 r0b, .v (.int .i64 r0p)]]) (fin TT con_spec_someWeighed Try.f28.results.toList [.c (.sl .ii), .c .sc] [.ptr [.ro .u8 r0b, .v (.int .i64 r0p)]] kk) = G_spec_someWeighed r0b r0p (fun one9 xn6 xb100000c0 xb100000c1 xout5 => ∃ j, iter (evF TT cs_spec_someWeighed 48 an_spec_someWeighed Try.f28 [1, 1, 1, 0, 1, 0, 0]) nm0_spec_someWeighed (kt0_spec_someWeighed (fin_spec_someWeighed r0b r0p kk)) j (can0_spec_someWeighed one9 xn6 xb100000c0 xb100000c1 xout5)) := by kernel_rfl
theorem e_spec_someWeighed (r0b : List Int) (r0p : Int) (kk : AV → List A1 → Prop) :
    ev TT cs_spec_someWeighed 48 an_spec_someWeighed (Try.f28.body.getD .skip) (st0 con_spec_someWeighed [.ptr [.ro .u8 r0b, .v (.int .i64 r0p)]]) (fin TT con_spec_someWeighed Try.f28.results.toList [.c (.sl .ii), .c .sc] [.ptr [.ro .u8 r0b, .v (.int .i64 r0p)]] kk) = S_spec_someWeighed r0b r0p (fun r0 r1 r2 r3 => kk (.tup [.c (.ro .ii r0), .c (.v (.int .i64 r1))]) [.ptr [.ro .u8 r2, .v (.int .i64 r3)]]) := by
  rw [g_spec_someWeighed]
  have hi0 : (fun one9 xn6 xb100000c0 xb100000c1 xout5 => ∃ j, iter (evF TT cs_spec_someWeighed 48 an_spec_someWeighed Try.f28 [1, 1, 1, 0, 1, 0, 0]) nm0_spec_someWeighed (kt0_spec_someWeighed (fin_spec_someWeighed r0b r0p kk)) j (can0_spec_someWeighed one9 xn6 xb100000c0 xb100000c1 xout5)) = (fun one9 xn6 xb100000c0 xb100000c1 xout5 => ∃ j, L0_spec_someWeighed one9 (fun r0 r1 r2 r3 => kk (.tup [.c (.ro .ii r0), .c (.v (.int .i64 r1))]) [.ptr [.ro .u8 r2, .v (.int .i64 r3)]]) j xn6 xb100000c0 xb100000c1 xout5) := by
    funext one9 xn6 xb100000c0 xb100000c1 xout5
    refine congrArg Exists (funext fun j => ?_)
    rw [l0_spec_someWeighed r0b r0p one9 kk j xn6 xb100000c0 xb100000c1 xout5]
  rw [hi0]
  rfl
theorem clok_spec_someWeighed : ConOK Try.prog cl_spec_someWeighed := consCons h_spec_reader_one ⟨Try.f39, Try.func39, by kernel_rfl, ne_of_beq (by kernel_rfl)⟩ (consCons h_spec_weigh ⟨Try.f44, Try.func44, by kernel_rfl, ne_of_beq (by kernel_rfl)⟩ (consCons h_spec_reader_pick ⟨Try.f47, Try.func47, by kernel_rfl, ne_of_beq (by kernel_rfl)⟩ (consNil)))
theorem cok_spec_someWeighed : ConsOK Try.prog 48 cs_spec_someWeighed := ⟨clok_spec_someWeighed, inlNil, ovNil⟩
theorem i_spec_someWeighed {vs : List A1} {kk : AV → List A1 → Prop} {motive : List A1 → Prop} (h : con_spec_someWeighed.F vs kk) (H : ∀ (r0b : List Int) (r0p : Int), F_spec_someWeighed r0b r0p (fun r0 r1 r2 r3 => kk (.tup [.c (.ro .ii r0), .c (.v (.int .i64 r1))]) [.ptr [.ro .u8 r2, .v (.int .i64 r3)]]) → motive [.ptr [.ro .u8 r0b, .v (.int .i64 r0p)]]) : motive vs := by
  unfold con_spec_someWeighed at h
  dsimp only at h
  split at h
  · exact H _ _ h
  · exact h.elim
theorem h_spec_someWeighed : Holds Try.prog 28 con_spec_someWeighed := by
  refine holds_of_ev (rt := [.c (.sl .ii), .c .sc]) (T := TT) (Γ := cs_spec_someWeighed) (an := an_spec_someWeighed) (N := 48) (c := Try.f28.body.getD .skip) Try.func28 (by kernel_rfl) Try.ntmps28 (by decide) (by decide) mixed tabOK cok_spec_someWeighed (by kernel_rfl) ?_
  intro vs kk _ hF
  exact i_spec_someWeighed (motive := fun vs => Goes (ev TT cs_spec_someWeighed 48 an_spec_someWeighed (Try.f28.body.getD .skip) (st0 con_spec_someWeighed vs) (fin TT con_spec_someWeighed Try.f28.results.toList [.c (.sl .ii), .c .sc] vs kk))) hF (fun r0b r0p hF => goes_of (e_spec_someWeighed r0b r0p kk) (F_spec_someWeighed_S hF))
def con_spec_DrawValidWeighed : Con := ⟨[.rd], true, [.c (.sl .u8)], fun vs k => match vs with
    | [.c (.ro .u8 code0)] => F_spec_DrawValidWeighed code0 (fun r0 r1 => k (.tup [.c (.ro .ii r0), .c (.v (.int .i64 r1))]) [])
    | _ => False, false⟩
def cl_spec_DrawValidWeighed : List (FuncId × Con) := [(28, con_spec_someWeighed), (29, con_spec_newReader)]
def an_spec_DrawValidWeighed : Ann := ⟨[], [], [], []⟩
def cs_spec_DrawValidWeighed : Cons := ⟨cl_spec_DrawValidWeighed, [], 0, [], [], []⟩
def fin_spec_DrawValidWeighed (code0 : List Int) (kk : AV → List A1 → Prop) : Kt := fin TT con_spec_DrawValidWeighed Try.f13.results.toList [.c (.sl .ii), .c .sc] [.c (.ro .u8 code0)] kk
theorem g_spec_DrawValidWeighed (code0 : List Int) (kk : AV → List A1 → Prop) :
    ev TT cs_spec_DrawValidWeighed 9 an_spec_DrawValidWeighed (Try.f13.body.getD .skip) (st0 con_spec_DrawValidWeighed [.c (.ro .u8 code0)]) (fin TT con_spec_DrawValidWeighed Try.f13.results.toList [.c (.sl .ii), .c .sc] [.c (.ro .u8 code0)] kk) = G_spec_DrawValidWeighed code0 (fun r0 r1 => kk (.tup [.c (.ro .ii r0), .c (.v (.int .i64 r1))]) []) := by kernel_rfl
theorem e_spec_DrawValidWeighed (code0 : List Int) (kk : AV → List A1 → Prop) :
    ev TT cs_spec_DrawValidWeighed 9 an_spec_DrawValidWeighed (Try.f13.body.getD .skip) (st0 con_spec_DrawValidWeighed [.c (.ro .u8 code0)]) (fin TT con_spec_DrawValidWeighed Try.f13.results.toList [.c (.sl .ii), .c .sc] [.c (.ro .u8 code0)] kk) = S_spec_DrawValidWeighed code0 (fun r0 r1 => kk (.tup [.c (.ro .ii r0), .c (.v (.int .i64 r1))]) []) := by
  rw [g_spec_DrawValidWeighed]
  rfl
theorem clok_spec_DrawValidWeighed : ConOK Try.prog cl_spec_DrawValidWeighed := consCons h_spec_someWeighed ⟨Try.f28, Try.func28, by kernel_rfl, ne_of_beq (by kernel_rfl)⟩ (consCons h_spec_newReader ⟨Try.f29, Try.func29, by kernel_rfl, ne_of_beq (by kernel_rfl)⟩ (consNil))
theorem cok_spec_DrawValidWeighed : ConsOK Try.prog 9 cs_spec_DrawValidWeighed := ⟨clok_spec_DrawValidWeighed, inlNil, ovNil⟩
theorem i_spec_DrawValidWeighed {vs : List A1} {kk : AV → List A1 → Prop} {motive : List A1 → Prop} (h : con_spec_DrawValidWeighed.F vs kk) (H : ∀ (code0 : List Int), F_spec_DrawValidWeighed code0 (fun r0 r1 => kk (.tup [.c (.ro .ii r0), .c (.v (.int .i64 r1))]) []) → motive [.c (.ro .u8 code0)]) : motive vs := by
  unfold con_spec_DrawValidWeighed at h
  dsimp only at h
  split at h
  · exact H _ h
  · exact h.elim
theorem h_spec_DrawValidWeighed : Holds Try.prog 13 con_spec_DrawValidWeighed := by
  refine holds_of_ev (rt := [.c (.sl .ii), .c .sc]) (T := TT) (Γ := cs_spec_DrawValidWeighed) (an := an_spec_DrawValidWeighed) (N := 9) (c := Try.f13.body.getD .skip) Try.func13 (by kernel_rfl) Try.ntmps13 (by decide) (by decide) mixed tabOK cok_spec_DrawValidWeighed (by kernel_rfl) ?_
  intro vs kk _ hF
  exact i_spec_DrawValidWeighed (motive := fun vs => Goes (ev TT cs_spec_DrawValidWeighed 9 an_spec_DrawValidWeighed (Try.f13.body.getD .skip) (st0 con_spec_DrawValidWeighed vs) (fin TT con_spec_DrawValidWeighed Try.f13.results.toList [.c (.sl .ii), .c .sc] vs kk))) hF (fun code0 hF => goes_of (e_spec_DrawValidWeighed code0 kk) (F_spec_DrawValidWeighed_S hF))
def con_impl_validSpace : Con := ⟨[.rd], true, [.c (.sc)], fun vs k => match vs with
    | [.c (.v (.int .i64 room0))] => F_impl_validSpace room0 (fun r0 => k (.one (.c (.v (.bool r0)))) [])
    | _ => False, false⟩
def cl_impl_validSpace : List (FuncId × Con) := []
def an_impl_validSpace : Ann := ⟨[], [], [], []⟩
def cs_impl_validSpace : Cons := ⟨cl_impl_validSpace, [], 0, [], [], []⟩
def fin_impl_validSpace (room0 : Int) (kk : AV → List A1 → Prop) : Kt := fin TT con_impl_validSpace Try.f30.results.toList [.c .sc] [.c (.v (.int .i64 room0))] kk
theorem g_impl_validSpace (room0 : Int) (kk : AV → List A1 → Prop) :
    ev TT cs_impl_validSpace 9 an_impl_validSpace (Try.f30.body.getD .skip) (st0 con_impl_validSpace [.c (.v (.int .i64 room0))]) (fin TT con_impl_validSpace Try.f30.results.toList [.c .sc] [.c (.v (.int .i64 room0))] kk) = G_impl_validSpace room0 (fun r0 => kk (.one (.c (.v (.bool r0)))) []) := by kernel_rfl
theorem e_impl_validSpace (room0 : Int) (kk : AV → List A1 → Prop) :
    ev TT cs_impl_validSpace 9 an_impl_validSpace (Try.f30.body.getD .skip) (st0 con_impl_validSpace [.c (.v (.int .i64 room0))]) (fin TT con_impl_validSpace Try.f30.results.toList [.c .sc] [.c (.v (.int .i64 room0))] kk) = S_impl_validSpace room0 (fun r0 => kk (.one (.c (.v (.bool r0)))) []) := by
  rw [g_impl_validSpace]
  rfl
theorem clok_impl_validSpace : ConOK Try.prog cl_impl_validSpace := consNil
theorem cok_impl_validSpace : ConsOK Try.prog 9 cs_impl_validSpace := ⟨clok_impl_validSpace, inlNil, ovNil⟩
theorem i_impl_validSpace {vs : List A1} {kk : AV → List A1 → Prop} {motive : List A1 → Prop} (h : con_impl_validSpace.F vs kk) (H : ∀ (room0 : Int), F_impl_validSpace room0 (fun r0 => kk (.one (.c (.v (.bool r0)))) []) → motive [.c (.v (.int .i64 room0))]) : motive vs := by
  unfold con_impl_validSpace at h
  dsimp only at h
  split at h
  · exact H _ h
  · exact h.elim
theorem h_impl_validSpace : Holds Try.prog 30 con_impl_validSpace := by
  refine holds_of_ev (rt := [.c .sc]) (T := TT) (Γ := cs_impl_validSpace) (an := an_impl_validSpace) (N := 9) (c := Try.f30.body.getD .skip) Try.func30 (by kernel_rfl) Try.ntmps30 (by decide) (by decide) mixed tabOK cok_impl_validSpace (by kernel_rfl) ?_
  intro vs kk _ hF
  exact i_impl_validSpace (motive := fun vs => Goes (ev TT cs_impl_validSpace 9 an_impl_validSpace (Try.f30.body.getD .skip) (st0 con_impl_validSpace vs) (fin TT con_impl_validSpace Try.f30.results.toList [.c .sc] vs kk))) hF (fun room0 hF => goes_of (e_impl_validSpace room0 kk) (F_impl_validSpace_S hF))
def con_impl_validKey : Con := ⟨[.rd], true, [.c (.sc)], fun vs k => match vs with
    | [.c (.v (.int .i64 key0))] => F_impl_validKey key0 (fun r0 => k (.one (.c (.v (.bool r0)))) [])
    | _ => False, false⟩
def cl_impl_validKey : List (FuncId × Con) := []
def an_impl_validKey : Ann := ⟨[], [], [], []⟩
def cs_impl_validKey : Cons := ⟨cl_impl_validKey, [], 0, [], [], []⟩
def fin_impl_validKey (key0 : Int) (kk : AV → List A1 → Prop) : Kt := fin TT con_impl_validKey Try.f31.results.toList [.c .sc] [.c (.v (.int .i64 key0))] kk
theorem g_impl_validKey (key0 : Int) (kk : AV → List A1 → Prop) :
    ev TT cs_impl_validKey 9 an_impl_validKey (Try.f31.body.getD .skip) (st0 con_impl_validKey [.c (.v (.int .i64 key0))]) (fin TT con_impl_validKey Try.f31.results.toList [.c .sc] [.c (.v (.int .i64 key0))] kk) = G_impl_validKey key0 (fun r0 => kk (.one (.c (.v (.bool r0)))) []) := by kernel_rfl
theorem e_impl_validKey (key0 : Int) (kk : AV → List A1 → Prop) :
    ev TT cs_impl_validKey 9 an_impl_validKey (Try.f31.body.getD .skip) (st0 con_impl_validKey [.c (.v (.int .i64 key0))]) (fin TT con_impl_validKey Try.f31.results.toList [.c .sc] [.c (.v (.int .i64 key0))] kk) = S_impl_validKey key0 (fun r0 => kk (.one (.c (.v (.bool r0)))) []) := by
  rw [g_impl_validKey]
  rfl
theorem clok_impl_validKey : ConOK Try.prog cl_impl_validKey := consNil
theorem cok_impl_validKey : ConsOK Try.prog 9 cs_impl_validKey := ⟨clok_impl_validKey, inlNil, ovNil⟩
theorem i_impl_validKey {vs : List A1} {kk : AV → List A1 → Prop} {motive : List A1 → Prop} (h : con_impl_validKey.F vs kk) (H : ∀ (key0 : Int), F_impl_validKey key0 (fun r0 => kk (.one (.c (.v (.bool r0)))) []) → motive [.c (.v (.int .i64 key0))]) : motive vs := by
  unfold con_impl_validKey at h
  dsimp only at h
  split at h
  · exact H _ h
  · exact h.elim
theorem h_impl_validKey : Holds Try.prog 31 con_impl_validKey := by
  refine holds_of_ev (rt := [.c .sc]) (T := TT) (Γ := cs_impl_validKey) (an := an_impl_validKey) (N := 9) (c := Try.f31.body.getD .skip) Try.func31 (by kernel_rfl) Try.ntmps31 (by decide) (by decide) mixed tabOK cok_impl_validKey (by kernel_rfl) ?_
  intro vs kk _ hF
  exact i_impl_validKey (motive := fun vs => Goes (ev TT cs_impl_validKey 9 an_impl_validKey (Try.f31.body.getD .skip) (st0 con_impl_validKey vs) (fin TT con_impl_validKey Try.f31.results.toList [.c .sc] vs kk))) hF (fun key0 hF => goes_of (e_impl_validKey key0 kk) (F_impl_validKey_S hF))
def con_impl_validSize : Con := ⟨[.rd], true, [.c (.sc)], fun vs k => match vs with
    | [.c (.v (.int .i64 size0))] => F_impl_validSize size0 (fun r0 => k (.one (.c (.v (.bool r0)))) [])
    | _ => False, false⟩
def cl_impl_validSize : List (FuncId × Con) := []
def an_impl_validSize : Ann := ⟨[], [], [], []⟩
def cs_impl_validSize : Cons := ⟨cl_impl_validSize, [], 0, [], [], []⟩
def fin_impl_validSize (size0 : Int) (kk : AV → List A1 → Prop) : Kt := fin TT con_impl_validSize Try.f32.results.toList [.c .sc] [.c (.v (.int .i64 size0))] kk
theorem g_impl_validSize (size0 : Int) (kk : AV → List A1 → Prop) :
    ev TT cs_impl_validSize 9 an_impl_validSize (Try.f32.body.getD .skip) (st0 con_impl_validSize [.c (.v (.int .i64 size0))]) (fin TT con_impl_validSize Try.f32.results.toList [.c .sc] [.c (.v (.int .i64 size0))] kk) = G_impl_validSize size0 (fun r0 => kk (.one (.c (.v (.bool r0)))) []) := by kernel_rfl
theorem e_impl_validSize (size0 : Int) (kk : AV → List A1 → Prop) :
    ev TT cs_impl_validSize 9 an_impl_validSize (Try.f32.body.getD .skip) (st0 con_impl_validSize [.c (.v (.int .i64 size0))]) (fin TT con_impl_validSize Try.f32.results.toList [.c .sc] [.c (.v (.int .i64 size0))] kk) = S_impl_validSize size0 (fun r0 => kk (.one (.c (.v (.bool r0)))) []) := by
  rw [g_impl_validSize]
  rfl
theorem clok_impl_validSize : ConOK Try.prog cl_impl_validSize := consNil
theorem cok_impl_validSize : ConsOK Try.prog 9 cs_impl_validSize := ⟨clok_impl_validSize, inlNil, ovNil⟩
theorem i_impl_validSize {vs : List A1} {kk : AV → List A1 → Prop} {motive : List A1 → Prop} (h : con_impl_validSize.F vs kk) (H : ∀ (size0 : Int), F_impl_validSize size0 (fun r0 => kk (.one (.c (.v (.bool r0)))) []) → motive [.c (.v (.int .i64 size0))]) : motive vs := by
  unfold con_impl_validSize at h
  dsimp only at h
  split at h
  · exact H _ h
  · exact h.elim
theorem h_impl_validSize : Holds Try.prog 32 con_impl_validSize := by
  refine holds_of_ev (rt := [.c .sc]) (T := TT) (Γ := cs_impl_validSize) (an := an_impl_validSize) (N := 9) (c := Try.f32.body.getD .skip) Try.func32 (by kernel_rfl) Try.ntmps32 (by decide) (by decide) mixed tabOK cok_impl_validSize (by kernel_rfl) ?_
  intro vs kk _ hF
  exact i_impl_validSize (motive := fun vs => Goes (ev TT cs_impl_validSize 9 an_impl_validSize (Try.f32.body.getD .skip) (st0 con_impl_validSize vs) (fin TT con_impl_validSize Try.f32.results.toList [.c .sc] vs kk))) hF (fun size0 hF => goes_of (e_impl_validSize size0 kk) (F_impl_validSize_S hF))
def con_impl_Weighed_hasKeyOf : Con := ⟨[.rd, .rd], true, [.agg [.sc, .sc], .agg [.sc, .sc]], fun vs k => match vs with
    | [.agg [.v (.int .i64 w0Key), .v (.int .i64 w0Size)], .agg [.v (.int .i64 other1Key), .v (.int .i64 other1Size)]] => F_impl_Weighed_hasKeyOf w0Key w0Size other1Key other1Size (fun r0 => k (.one (.c (.v (.bool r0)))) [])
    | _ => False, false⟩
def cl_impl_Weighed_hasKeyOf : List (FuncId × Con) := []
def an_impl_Weighed_hasKeyOf : Ann := ⟨[], [], [], []⟩
def cs_impl_Weighed_hasKeyOf : Cons := ⟨cl_impl_Weighed_hasKeyOf, [], 0, [], [], []⟩
def fin_impl_Weighed_hasKeyOf (w0Key : Int) (w0Size : Int) (other1Key : Int) (other1Size : Int) (kk : AV → List A1 → Prop) : Kt := fin TT con_impl_Weighed_hasKeyOf Try.f34.results.toList [.c .sc] [.agg [.v (.int .i64 w0Key), .v (.int .i64 w0Size)], .agg [.v (.int .i64 other1Key), .v (.int .i64 other1Size)]] kk
theorem g_impl_Weighed_hasKeyOf (w0Key : Int) (w0Size : Int) (other1Key : Int) (other1Size : Int) (kk : AV → List A1 → Prop) :
    ev TT cs_impl_Weighed_hasKeyOf 10 an_impl_Weighed_hasKeyOf (Try.f34.body.getD .skip) (st0 con_impl_Weighed_hasKeyOf [.agg [.v (.int .i64 w0Key), .v (.int .i64 w0Size)], .agg [.v (.int .i64 other1Key), .v (.int .i64 other1Size)]]) (fin TT con_impl_Weighed_hasKeyOf Try.f34.results.toList [.c .sc] [.agg [.v (.int .i64 w0Key), .v (.int .i64 w0Size)], .agg [.v (.int .i64 other1Key), .v (.int .i64 other1Size)]] kk) = G_impl_Weighed_hasKeyOf w0Key w0Size other1Key other1Size (fun r0 => kk (.one (.c (.v (.bool r0)))) []) := by kernel_rfl
theorem e_impl_Weighed_hasKeyOf (w0Key : Int) (w0Size : Int) (other1Key : Int) (other1Size : Int) (kk : AV → List A1 → Prop) :
    ev TT cs_impl_Weighed_hasKeyOf 10 an_impl_Weighed_hasKeyOf (Try.f34.body.getD .skip) (st0 con_impl_Weighed_hasKeyOf [.agg [.v (.int .i64 w0Key), .v (.int .i64 w0Size)], .agg [.v (.int .i64 other1Key), .v (.int .i64 other1Size)]]) (fin TT con_impl_Weighed_hasKeyOf Try.f34.results.toList [.c .sc] [.agg [.v (.int .i64 w0Key), .v (.int .i64 w0Size)], .agg [.v (.int .i64 other1Key), .v (.int .i64 other1Size)]] kk) = S_impl_Weighed_hasKeyOf w0Key w0Size other1Key other1Size (fun r0 => kk (.one (.c (.v (.bool r0)))) []) := by
  rw [g_impl_Weighed_hasKeyOf]
  rfl
theorem clok_impl_Weighed_hasKeyOf : ConOK Try.prog cl_impl_Weighed_hasKeyOf := consNil
theorem cok_impl_Weighed_hasKeyOf : ConsOK Try.prog 10 cs_impl_Weighed_hasKeyOf := ⟨clok_impl_Weighed_hasKeyOf, inlNil, ovNil⟩
theorem i_impl_Weighed_hasKeyOf {vs : List A1} {kk : AV → List A1 → Prop} {motive : List A1 → Prop} (h : con_impl_Weighed_hasKeyOf.F vs kk) (H : ∀ (w0Key : Int) (w0Size : Int) (other1Key : Int) (other1Size : Int), F_impl_Weighed_hasKeyOf w0Key w0Size other1Key other1Size (fun r0 => kk (.one (.c (.v (.bool r0)))) []) → motive [.agg [.v (.int .i64 w0Key), .v (.int .i64 w0Size)], .agg [.v (.int .i64 other1Key), .v (.int .i64 other1Size)]]) : motive vs := by
  unfold con_impl_Weighed_hasKeyOf at h
  dsimp only at h
  split at h
  · exact H _ _ _ _ h
  · exact h.elim
theorem h_impl_Weighed_hasKeyOf : Holds Try.prog 34 con_impl_Weighed_hasKeyOf := by
  refine holds_of_ev (rt := [.c .sc]) (T := TT) (Γ := cs_impl_Weighed_hasKeyOf) (an := an_impl_Weighed_hasKeyOf) (N := 10) (c := Try.f34.body.getD .skip) Try.func34 (by kernel_rfl) Try.ntmps34 (by decide) (by decide) mixed tabOK cok_impl_Weighed_hasKeyOf (by kernel_rfl) ?_
  intro vs kk _ hF
  exact i_impl_Weighed_hasKeyOf (motive := fun vs => Goes (ev TT cs_impl_Weighed_hasKeyOf 10 an_impl_Weighed_hasKeyOf (Try.f34.body.getD .skip) (st0 con_impl_Weighed_hasKeyOf vs) (fin TT con_impl_Weighed_hasKeyOf Try.f34.results.toList [.c .sc] vs kk))) hF (fun w0Key w0Size other1Key other1Size hF => goes_of (e_impl_Weighed_hasKeyOf w0Key w0Size other1Key other1Size kk) (F_impl_Weighed_hasKeyOf_S hF))
def con_slices_IndexFunc_Weighed_Weighed : Con := ⟨[.rd, .rd], true, [.c (.sl .ii), .c (.fn)], fun vs k => match vs with
    | [.c (.ro .ii s0), .c (.v (.func (.func 34) ⟨[.agg ⟨[.int .i64 f1fa00, .int .i64 f1fa01]⟩]⟩ ⟨[]⟩))] => F_slices_IndexFunc_Weighed_Weighed_Weighed_hasKeyOf s0 f1fa00 f1fa01 (fun r0 => k (.one (.c (.v (.int .i64 r0)))) [])
    | _ => False, false⟩
def cl_slices_IndexFunc_Weighed_Weighed_Weighed_hasKeyOf : List (FuncId × Con) := [(34, con_impl_Weighed_hasKeyOf)]
def nm0_slices_IndexFunc_Weighed_Weighed_Weighed_hasKeyOf : List NStep := [.keep [0, 1, 7, 8] []]
def an_slices_IndexFunc_Weighed_Weighed_Weighed_hasKeyOf : Ann := ⟨[], [(2, nm0_slices_IndexFunc_Weighed_Weighed_Weighed_hasKeyOf)], [], []⟩
def cs_slices_IndexFunc_Weighed_Weighed_Weighed_hasKeyOf : Cons := ⟨cl_slices_IndexFunc_Weighed_Weighed_Weighed_hasKeyOf, [], 0, [], [], []⟩
def can0_slices_IndexFunc_Weighed_Weighed_Weighed_hasKeyOf (f1fa00 : Int) (f1fa01 : Int) (s0 : List (Int × Int)) (xt7 : Int) (xt8 : Int) : St := ⟨[(0, .one (.c (.ro .ii s0))), (1, .one (.c (.v (.func (.func 34) ⟨[.agg ⟨[.int .i64 f1fa00, .int .i64 f1fa01]⟩]⟩ ⟨[]⟩)))), (7, .one (.c (.v (.int .i64 xt7)))), (8, .one (.c (.v (.int .i64 xt8))))], []⟩
def fin_slices_IndexFunc_Weighed_Weighed_Weighed_hasKeyOf (s0 : List (Int × Int)) (f1fa00 : Int) (f1fa01 : Int) (kk : AV → List A1 → Prop) : Kt := fin TT con_slices_IndexFunc_Weighed_Weighed Try.f48.results.toList [.c .sc] [.c (.ro .ii s0), .c (.v (.func (.func 34) ⟨[.agg ⟨[.int .i64 f1fa00, .int .i64 f1fa01]⟩]⟩ ⟨[]⟩))] kk
def kt0_slices_IndexFunc_Weighed_Weighed_Weighed_hasKeyOf (kf : Kt) : Kt := blockK 0 (seqK (evF TT cs_slices_IndexFunc_Weighed_Weighed_Weighed_hasKeyOf 19 an_slices_IndexFunc_Weighed_Weighed_Weighed_hasKeyOf Try.f48 [1, 1]) (kf))
theorem r0_slices_IndexFunc_Weighed_Weighed_Weighed_hasKeyOf (s0 : List (Int × Int)) (f1fa00 : Int) (f1fa01 : Int) (xt7 : Int) (kk : AV → List A1 → Prop) (n : Nat) (xt8 : Int) :
    iter (evF TT cs_slices_IndexFunc_Weighed_Weighed_Weighed_hasKeyOf 19 an_slices_IndexFunc_Weighed_Weighed_Weighed_hasKeyOf Try.f48 [1, 0, 1, 0, 0]) nm0_slices_IndexFunc_Weighed_Weighed_Weighed_hasKeyOf (kt0_slices_IndexFunc_Weighed_Weighed_Weighed_hasKeyOf (fin_slices_IndexFunc_Weighed_Weighed_Weighed_hasKeyOf s0 f1fa00 f1fa01 kk)) (n + 1) (can0_slices_IndexFunc_Weighed_Weighed_Weighed_hasKeyOf f1fa00 f1fa01 s0 xt7 xt8) = T0_slices_IndexFunc_Weighed_Weighed_Weighed_hasKeyOf f1fa00 f1fa01 s0 xt7 xt8 (fun r0 => kk (.one (.c (.v (.int .i64 r0)))) []) (fun xt8 => iter (evF TT cs_slices_IndexFunc_Weighed_Weighed_Weighed_hasKeyOf 19 an_slices_IndexFunc_Weighed_Weighed_Weighed_hasKeyOf Try.f48 [1, 0, 1, 0, 0]) nm0_slices_IndexFunc_Weighed_Weighed_Weighed_hasKeyOf (kt0_slices_IndexFunc_Weighed_Weighed_Weighed_hasKeyOf (fin_slices_IndexFunc_Weighed_Weighed_Weighed_hasKeyOf s0 f1fa00 f1fa01 kk)) n (can0_slices_IndexFunc_Weighed_Weighed_Weighed_hasKeyOf f1fa00 f1fa01 s0 xt7 xt8)) := by kernel_rfl
theorem l0_slices_IndexFunc_Weighed_Weighed_Weighed_hasKeyOf (s0 : List (Int × Int)) (f1fa00 : Int) (f1fa01 : Int) (xt7 : Int) (kk : AV → List A1 → Prop) : ∀ (n : Nat) (xt8 : Int), iter (evF TT cs_slices_IndexFunc_Weighed_Weighed_Weighed_hasKeyOf 19 an_slices_IndexFunc_Weighed_Weighed_Weighed_hasKeyOf Try.f48 [1, 0, 1, 0, 0]) nm0_slices_IndexFunc_Weighed_Weighed_Weighed_hasKeyOf (kt0_slices_IndexFunc_Weighed_Weighed_Weighed_hasKeyOf (fin_slices_IndexFunc_Weighed_Weighed_Weighed_hasKeyOf s0 f1fa00 f1fa01 kk)) n (can0_slices_IndexFunc_Weighed_Weighed_Weighed_hasKeyOf f1fa00 f1fa01 s0 xt7 xt8) = L0_slices_IndexFunc_Weighed_Weighed_Weighed_hasKeyOf f1fa00 f1fa01 s0 xt7 (fun r0 => kk (.one (.c (.v (.int .i64 r0)))) []) n xt8 := by
  intro n
  induction n with
  | zero => intros; rfl
  | succ n ih =>
    intro xt8
    rw [r0_slices_IndexFunc_Weighed_Weighed_Weighed_hasKeyOf s0 f1fa00 f1fa01 xt7 kk n xt8]
    have hb : (fun xt8 => iter (evF TT cs_slices_IndexFunc_Weighed_Weighed_Weighed_hasKeyOf 19 an_slices_IndexFunc_Weighed_Weighed_Weighed_hasKeyOf Try.f48 [1, 0, 1, 0, 0]) nm0_slices_IndexFunc_Weighed_Weighed_Weighed_hasKeyOf (kt0_slices_IndexFunc_Weighed_Weighed_Weighed_hasKeyOf (fin_slices_IndexFunc_Weighed_Weighed_Weighed_hasKeyOf s0 f1fa00 f1fa01 kk)) n (can0_slices_IndexFunc_Weighed_Weighed_Weighed_hasKeyOf f1fa00 f1fa01 s0 xt7 xt8)) = L0_slices_IndexFunc_Weighed_Weighed_Weighed_hasKeyOf f1fa00 f1fa01 s0 xt7 (fun r0 => kk (.one (.c (.v (.int .i64 r0)))) []) n := by
      funext xt8; exact ih xt8
    rw [hb]
    rfl
theorem g_slices_IndexFunc_Weighed_Weighed_Weighed_hasKeyOf (s0 : List (Int × Int)) (f1fa00 : Int) (f1fa01 : Int) (kk : AV → List A1 → Prop) :
    ev TT cs_slices_IndexFunc_Weighed_Weighed_Weighed_hasKeyOf 19 an_slices_IndexFunc_Weighed_Weighed_Weighed_hasKeyOf (Try.f48.body.getD .skip) (st0 con_slices_IndexFunc_Weighed_Weighed [.c (.ro .ii s0), .c (.v (.func (.func 34) ⟨[.agg ⟨[.int .i64 f1fa00, .int .i64 f1fa01]⟩]⟩ ⟨[]⟩))]) (fin TT con_slices_IndexFunc_Weighed_Weighed Try.f48.results.toList [.c .sc] [.c (.ro .ii s0), .c (.v (.func (.func 34) ⟨[.agg ⟨[.int .i64 f1fa00, .int .i64 f1fa01]⟩]⟩ ⟨[]⟩))] kk) = G_slices_IndexFunc_Weighed_Weighed_Weighed_hasKeyOf s0 f1fa00 f1fa01 (fun f1fa00 f1fa01 s0 xt7 xt8 => ∃ j, iter (evF TT cs_slices_IndexFunc_Weighed_Weighed_Weighed_hasKeyOf 19 an_slices_IndexFunc_Weighed_Weighed_Weighed_hasKeyOf Try.f48 [1, 0, 1, 0, 0]) nm0_slices_IndexFunc_Weighed_Weighed_Weighed_hasKeyOf (kt0_slices_IndexFunc_Weighed_Weighed_Weighed_hasKeyOf (fin_slices_IndexFunc_Weighed_Weighed_Weighed_hasKeyOf s0 f1fa00 f1fa01 kk)) j (can0_slices_IndexFunc_Weighed_Weighed_Weighed_hasKeyOf f1fa00 f1fa01 s0 xt7 xt8)) := by kernel_rfl
theorem e_slices_IndexFunc_Weighed_Weighed_Weighed_hasKeyOf (s0 : List (Int × Int)) (f1fa00 : Int) (f1fa01 : Int) (kk : AV → List A1 → Prop) :
    ev TT cs_slices_IndexFunc_Weighed_Weighed_Weighed_hasKeyOf 19 an_slices_IndexFunc_Weighed_Weighed_Weighed_hasKeyOf (Try.f48.body.getD .skip) (st0 con_slices_IndexFunc_Weighed_Weighed [.c (.ro .ii s0), .c (.v (.func (.func 34) ⟨[.agg ⟨[.int .i64 f1fa00, .int .i64 f1fa01]⟩]⟩ ⟨[]⟩))]) (fin TT con_slices_IndexFunc_Weighed_Weighed Try.f48.results.toList [.c .sc] [.c (.ro .ii s0), .c (.v (.func (.func 34) ⟨[.agg ⟨[.int .i64 f1fa00, .int .i64 f1fa01]⟩]⟩ ⟨[]⟩))] kk) = S_slices_IndexFunc_Weighed_Weighed_Weighed_hasKeyOf s0 f1fa00 f1fa01 (fun r0 => kk (.one (.c (.v (.int .i64 r0)))) []) := by
  rw [g_slices_IndexFunc_Weighed_Weighed_Weighed_hasKeyOf]
  have hi0 : (fun f1fa00 f1fa01 s0 xt7 xt8 => ∃ j, iter (evF TT cs_slices_IndexFunc_Weighed_Weighed_Weighed_hasKeyOf 19 an_slices_IndexFunc_Weighed_Weighed_Weighed_hasKeyOf Try.f48 [1, 0, 1, 0, 0]) nm0_slices_IndexFunc_Weighed_Weighed_Weighed_hasKeyOf (kt0_slices_IndexFunc_Weighed_Weighed_Weighed_hasKeyOf (fin_slices_IndexFunc_Weighed_Weighed_Weighed_hasKeyOf s0 f1fa00 f1fa01 kk)) j (can0_slices_IndexFunc_Weighed_Weighed_Weighed_hasKeyOf f1fa00 f1fa01 s0 xt7 xt8)) = (fun f1fa00 f1fa01 s0 xt7 xt8 => ∃ j, L0_slices_IndexFunc_Weighed_Weighed_Weighed_hasKeyOf f1fa00 f1fa01 s0 xt7 (fun r0 => kk (.one (.c (.v (.int .i64 r0)))) []) j xt8) := by
    funext f1fa00 f1fa01 s0 xt7 xt8
    refine congrArg Exists (funext fun j => ?_)
    rw [l0_slices_IndexFunc_Weighed_Weighed_Weighed_hasKeyOf s0 f1fa00 f1fa01 xt7 kk j xt8]
  rw [hi0]
  rfl
theorem clok_slices_IndexFunc_Weighed_Weighed_Weighed_hasKeyOf : ConOK Try.prog cl_slices_IndexFunc_Weighed_Weighed_Weighed_hasKeyOf := consCons h_impl_Weighed_hasKeyOf ⟨Try.f34, Try.func34, by kernel_rfl, ne_of_beq (by kernel_rfl)⟩ (consNil)
theorem cok_slices_IndexFunc_Weighed_Weighed_Weighed_hasKeyOf : ConsOK Try.prog 19 cs_slices_IndexFunc_Weighed_Weighed_Weighed_hasKeyOf := ⟨clok_slices_IndexFunc_Weighed_Weighed_Weighed_hasKeyOf, inlNil, ovNil⟩
theorem i_slices_IndexFunc_Weighed_Weighed_Weighed_hasKeyOf {vs : List A1} {kk : AV → List A1 → Prop} {motive : List A1 → Prop} (h : con_slices_IndexFunc_Weighed_Weighed.F vs kk) (H : ∀ (s0 : List (Int × Int)) (f1fa00 : Int) (f1fa01 : Int), F_slices_IndexFunc_Weighed_Weighed_Weighed_hasKeyOf s0 f1fa00 f1fa01 (fun r0 => kk (.one (.c (.v (.int .i64 r0)))) []) → motive [.c (.ro .ii s0), .c (.v (.func (.func 34) ⟨[.agg ⟨[.int .i64 f1fa00, .int .i64 f1fa01]⟩]⟩ ⟨[]⟩))]) : motive vs := by
  unfold con_slices_IndexFunc_Weighed_Weighed at h
  dsimp only at h
  split at h
  · exact H _ _ _ h
  · exact h.elim
theorem h_slices_IndexFunc_Weighed_Weighed : Holds Try.prog 48 con_slices_IndexFunc_Weighed_Weighed := by
  refine holds_of_ev (rt := [.c .sc]) (T := TT) (Γ := cs_slices_IndexFunc_Weighed_Weighed_Weighed_hasKeyOf) (an := an_slices_IndexFunc_Weighed_Weighed_Weighed_hasKeyOf) (N := 19) (c := Try.f48.body.getD .skip) Try.func48 (by kernel_rfl) Try.ntmps48 (by decide) (by decide) mixed tabOK cok_slices_IndexFunc_Weighed_Weighed_Weighed_hasKeyOf (by kernel_rfl) ?_
  intro vs kk _ hF
  exact i_slices_IndexFunc_Weighed_Weighed_Weighed_hasKeyOf (motive := fun vs => Goes (ev TT cs_slices_IndexFunc_Weighed_Weighed_Weighed_hasKeyOf 19 an_slices_IndexFunc_Weighed_Weighed_Weighed_hasKeyOf (Try.f48.body.getD .skip) (st0 con_slices_IndexFunc_Weighed_Weighed vs) (fin TT con_slices_IndexFunc_Weighed_Weighed Try.f48.results.toList [.c .sc] vs kk))) hF (fun s0 f1fa00 f1fa01 hF => goes_of (e_slices_IndexFunc_Weighed_Weighed_Weighed_hasKeyOf s0 f1fa00 f1fa01 kk) (F_slices_IndexFunc_Weighed_Weighed_Weighed_hasKeyOf_S hF))
def con_slices_ContainsFunc_Weighed_Weighed : Con := ⟨[.rd, .rd], true, [.c (.sl .ii), .c (.fn)], fun vs k => match vs with
    | [.c (.ro .ii s0), .c (.v (.func (.func 34) ⟨[.agg ⟨[.int .i64 f1fa00, .int .i64 f1fa01]⟩]⟩ ⟨[]⟩))] => F_slices_ContainsFunc_Weighed_Weighed_Weighed_hasKeyOf s0 f1fa00 f1fa01 (fun r0 => k (.one (.c (.v (.bool r0)))) [])
    | _ => False, false⟩
def cl_slices_ContainsFunc_Weighed_Weighed_Weighed_hasKeyOf : List (FuncId × Con) := [(48, con_slices_IndexFunc_Weighed_Weighed)]
def an_slices_ContainsFunc_Weighed_Weighed_Weighed_hasKeyOf : Ann := ⟨[], [], [], []⟩
def cs_slices_ContainsFunc_Weighed_Weighed_Weighed_hasKeyOf : Cons := ⟨cl_slices_ContainsFunc_Weighed_Weighed_Weighed_hasKeyOf, [], 0, [], [], []⟩
def fin_slices_ContainsFunc_Weighed_Weighed_Weighed_hasKeyOf (s0 : List (Int × Int)) (f1fa00 : Int) (f1fa01 : Int) (kk : AV → List A1 → Prop) : Kt := fin TT con_slices_ContainsFunc_Weighed_Weighed Try.f33.results.toList [.c .sc] [.c (.ro .ii s0), .c (.v (.func (.func 34) ⟨[.agg ⟨[.int .i64 f1fa00, .int .i64 f1fa01]⟩]⟩ ⟨[]⟩))] kk
theorem g_slices_ContainsFunc_Weighed_Weighed_Weighed_hasKeyOf (s0 : List (Int × Int)) (f1fa00 : Int) (f1fa01 : Int) (kk : AV → List A1 → Prop) :
    ev TT cs_slices_ContainsFunc_Weighed_Weighed_Weighed_hasKeyOf 9 an_slices_ContainsFunc_Weighed_Weighed_Weighed_hasKeyOf (Try.f33.body.getD .skip) (st0 con_slices_ContainsFunc_Weighed_Weighed [.c (.ro .ii s0), .c (.v (.func (.func 34) ⟨[.agg ⟨[.int .i64 f1fa00, .int .i64 f1fa01]⟩]⟩ ⟨[]⟩))]) (fin TT con_slices_ContainsFunc_Weighed_Weighed Try.f33.results.toList [.c .sc] [.c (.ro .ii s0), .c (.v (.func (.func 34) ⟨[.agg ⟨[.int .i64 f1fa00, .int .i64 f1fa01]⟩]⟩ ⟨[]⟩))] kk) = G_slices_ContainsFunc_Weighed_Weighed_Weighed_hasKeyOf s0 f1fa00 f1fa01 (fun r0 => kk (.one (.c (.v (.bool r0)))) []) := by kernel_rfl
theorem e_slices_ContainsFunc_Weighed_Weighed_Weighed_hasKeyOf (s0 : List (Int × Int)) (f1fa00 : Int) (f1fa01 : Int) (kk : AV → List A1 → Prop) :
    ev TT cs_slices_ContainsFunc_Weighed_Weighed_Weighed_hasKeyOf 9 an_slices_ContainsFunc_Weighed_Weighed_Weighed_hasKeyOf (Try.f33.body.getD .skip) (st0 con_slices_ContainsFunc_Weighed_Weighed [.c (.ro .ii s0), .c (.v (.func (.func 34) ⟨[.agg ⟨[.int .i64 f1fa00, .int .i64 f1fa01]⟩]⟩ ⟨[]⟩))]) (fin TT con_slices_ContainsFunc_Weighed_Weighed Try.f33.results.toList [.c .sc] [.c (.ro .ii s0), .c (.v (.func (.func 34) ⟨[.agg ⟨[.int .i64 f1fa00, .int .i64 f1fa01]⟩]⟩ ⟨[]⟩))] kk) = S_slices_ContainsFunc_Weighed_Weighed_Weighed_hasKeyOf s0 f1fa00 f1fa01 (fun r0 => kk (.one (.c (.v (.bool r0)))) []) := by
  rw [g_slices_ContainsFunc_Weighed_Weighed_Weighed_hasKeyOf]
  rfl
theorem clok_slices_ContainsFunc_Weighed_Weighed_Weighed_hasKeyOf : ConOK Try.prog cl_slices_ContainsFunc_Weighed_Weighed_Weighed_hasKeyOf := consCons h_slices_IndexFunc_Weighed_Weighed ⟨Try.f48, Try.func48, by kernel_rfl, ne_of_beq (by kernel_rfl)⟩ (consNil)
theorem cok_slices_ContainsFunc_Weighed_Weighed_Weighed_hasKeyOf : ConsOK Try.prog 9 cs_slices_ContainsFunc_Weighed_Weighed_Weighed_hasKeyOf := ⟨clok_slices_ContainsFunc_Weighed_Weighed_Weighed_hasKeyOf, inlNil, ovNil⟩
theorem i_slices_ContainsFunc_Weighed_Weighed_Weighed_hasKeyOf {vs : List A1} {kk : AV → List A1 → Prop} {motive : List A1 → Prop} (h : con_slices_ContainsFunc_Weighed_Weighed.F vs kk) (H : ∀ (s0 : List (Int × Int)) (f1fa00 : Int) (f1fa01 : Int), F_slices_ContainsFunc_Weighed_Weighed_Weighed_hasKeyOf s0 f1fa00 f1fa01 (fun r0 => kk (.one (.c (.v (.bool r0)))) []) → motive [.c (.ro .ii s0), .c (.v (.func (.func 34) ⟨[.agg ⟨[.int .i64 f1fa00, .int .i64 f1fa01]⟩]⟩ ⟨[]⟩))]) : motive vs := by
  unfold con_slices_ContainsFunc_Weighed_Weighed at h
  dsimp only at h
  split at h
  · exact H _ _ _ h
  · exact h.elim
theorem h_slices_ContainsFunc_Weighed_Weighed : Holds Try.prog 33 con_slices_ContainsFunc_Weighed_Weighed := by
  refine holds_of_ev (rt := [.c .sc]) (T := TT) (Γ := cs_slices_ContainsFunc_Weighed_Weighed_Weighed_hasKeyOf) (an := an_slices_ContainsFunc_Weighed_Weighed_Weighed_hasKeyOf) (N := 9) (c := Try.f33.body.getD .skip) Try.func33 (by kernel_rfl) Try.ntmps33 (by decide) (by decide) mixed tabOK cok_slices_ContainsFunc_Weighed_Weighed_Weighed_hasKeyOf (by kernel_rfl) ?_
  intro vs kk _ hF
  exact i_slices_ContainsFunc_Weighed_Weighed_Weighed_hasKeyOf (motive := fun vs => Goes (ev TT cs_slices_ContainsFunc_Weighed_Weighed_Weighed_hasKeyOf 9 an_slices_ContainsFunc_Weighed_Weighed_Weighed_hasKeyOf (Try.f33.body.getD .skip) (st0 con_slices_ContainsFunc_Weighed_Weighed vs) (fin TT con_slices_ContainsFunc_Weighed_Weighed Try.f33.results.toList [.c .sc] vs kk))) hF (fun s0 f1fa00 f1fa01 hF => goes_of (e_slices_ContainsFunc_Weighed_Weighed_Weighed_hasKeyOf s0 f1fa00 f1fa01 kk) (F_slices_ContainsFunc_Weighed_Weighed_Weighed_hasKeyOf_S hF))
def con_impl_usedSpace : Con := ⟨[.rd], true, [.c (.sl .ii)], fun vs k => match vs with
    | [.c (.ro .ii list0)] => F_impl_usedSpace list0 (fun r0 => k (.one (.c (.v (.int .i64 r0)))) [])
    | _ => False, false⟩
def cl_impl_usedSpace : List (FuncId × Con) := []
def nm0_impl_usedSpace : List NStep := [.keep [3, 6, 7, 8] []]
def an_impl_usedSpace : Ann := ⟨[], [(3, nm0_impl_usedSpace)], [], []⟩
def cs_impl_usedSpace : Cons := ⟨cl_impl_usedSpace, [], 0, [], [], []⟩
def can0_impl_usedSpace (list0 : List (Int × Int)) (xt7 : Int) (xsum3 : Int) (xt8 : Int) : St := ⟨[(3, .one (.c (.v (.int .i64 xsum3)))), (6, .one (.c (.ro .ii list0))), (7, .one (.c (.v (.int .i64 xt7)))), (8, .one (.c (.v (.int .i64 xt8))))], []⟩
def fin_impl_usedSpace (list0 : List (Int × Int)) (kk : AV → List A1 → Prop) : Kt := fin TT con_impl_usedSpace Try.f35.results.toList [.c .sc] [.c (.ro .ii list0)] kk
def kt0_impl_usedSpace (kf : Kt) : Kt := blockK 0 (seqK (evF TT cs_impl_usedSpace 18 an_impl_usedSpace Try.f35 [1, 1, 1]) (kf))
theorem r0_impl_usedSpace (list0 : List (Int × Int)) (xt7 : Int) (kk : AV → List A1 → Prop) (n : Nat) (xsum3 : Int) (xt8 : Int) :
    iter (evF TT cs_impl_usedSpace 18 an_impl_usedSpace Try.f35 [1, 1, 0, 1, 0, 0]) nm0_impl_usedSpace (kt0_impl_usedSpace (fin_impl_usedSpace list0 kk)) (n + 1) (can0_impl_usedSpace list0 xt7 xsum3 xt8) = T0_impl_usedSpace list0 xt7 xsum3 xt8 (fun r0 => kk (.one (.c (.v (.int .i64 r0)))) []) (fun xsum3 xt8 => iter (evF TT cs_impl_usedSpace 18 an_impl_usedSpace Try.f35 [1, 1, 0, 1, 0, 0]) nm0_impl_usedSpace (kt0_impl_usedSpace (fin_impl_usedSpace list0 kk)) n (can0_impl_usedSpace list0 xt7 xsum3 xt8)) := by kernel_rfl
theorem l0_impl_usedSpace (list0 : List (Int × Int)) (xt7 : Int) (kk : AV → List A1 → Prop) : ∀ (n : Nat) (xsum3 : Int) (xt8 : Int), iter (evF TT cs_impl_usedSpace 18 an_impl_usedSpace Try.f35 [1, 1, 0, 1, 0, 0]) nm0_impl_usedSpace (kt0_impl_usedSpace (fin_impl_usedSpace list0 kk)) n (can0_impl_usedSpace list0 xt7 xsum3 xt8) = L0_impl_usedSpace list0 xt7 (fun r0 => kk (.one (.c (.v (.int .i64 r0)))) []) n xsum3 xt8 := by
  intro n
  induction n with
  | zero => intros; rfl
  | succ n ih =>
    intro xsum3 xt8
    rw [r0_impl_usedSpace list0 xt7 kk n xsum3 xt8]
    have hb : (fun xsum3 xt8 => iter (evF TT cs_impl_usedSpace 18 an_impl_usedSpace Try.f35 [1, 1, 0, 1, 0, 0]) nm0_impl_usedSpace (kt0_impl_usedSpace (fin_impl_usedSpace list0 kk)) n (can0_impl_usedSpace list0 xt7 xsum3 xt8)) = L0_impl_usedSpace list0 xt7 (fun r0 => kk (.one (.c (.v (.int .i64 r0)))) []) n := by
      funext xsum3 xt8; exact ih xsum3 xt8
    rw [hb]
    rfl
theorem g_impl_usedSpace (list0 : List (Int × Int)) (kk : AV → List A1 → Prop) :
    ev TT cs_impl_usedSpace 18 an_impl_usedSpace (Try.f35.body.getD .skip) (st0 con_impl_usedSpace [.c (.ro .ii list0)]) (fin TT con_impl_usedSpace Try.f35.results.toList [.c .sc] [.c (.ro .ii list0)] kk) = G_impl_usedSpace list0 (fun list0 xt7 xsum3 xt8 => ∃ j, iter (evF TT cs_impl_usedSpace 18 an_impl_usedSpace Try.f35 [1, 1, 0, 1, 0, 0]) nm0_impl_usedSpace (kt0_impl_usedSpace (fin_impl_usedSpace list0 kk)) j (can0_impl_usedSpace list0 xt7 xsum3 xt8)) := by kernel_rfl
theorem e_impl_usedSpace (list0 : List (Int × Int)) (kk : AV → List A1 → Prop) :
    ev TT cs_impl_usedSpace 18 an_impl_usedSpace (Try.f35.body.getD .skip) (st0 con_impl_usedSpace [.c (.ro .ii list0)]) (fin TT con_impl_usedSpace Try.f35.results.toList [.c .sc] [.c (.ro .ii list0)] kk) = S_impl_usedSpace list0 (fun r0 => kk (.one (.c (.v (.int .i64 r0)))) []) := by
  rw [g_impl_usedSpace]
  have hi0 : (fun list0 xt7 xsum3 xt8 => ∃ j, iter (evF TT cs_impl_usedSpace 18 an_impl_usedSpace Try.f35 [1, 1, 0, 1, 0, 0]) nm0_impl_usedSpace (kt0_impl_usedSpace (fin_impl_usedSpace list0 kk)) j (can0_impl_usedSpace list0 xt7 xsum3 xt8)) = (fun list0 xt7 xsum3 xt8 => ∃ j, L0_impl_usedSpace list0 xt7 (fun r0 => kk (.one (.c (.v (.int .i64 r0)))) []) j xsum3 xt8) := by
    funext list0 xt7 xsum3 xt8
    refine congrArg Exists (funext fun j => ?_)
    rw [l0_impl_usedSpace list0 xt7 kk j xsum3 xt8]
  rw [hi0]
  rfl
theorem clok_impl_usedSpace : ConOK Try.prog cl_impl_usedSpace := consNil
theorem cok_impl_usedSpace : ConsOK Try.prog 18 cs_impl_usedSpace := ⟨clok_impl_usedSpace, inlNil, ovNil⟩
theorem i_impl_usedSpace {vs : List A1} {kk : AV → List A1 → Prop} {motive : List A1 → Prop} (h : con_impl_usedSpace.F vs kk) (H : ∀ (list0 : List (Int × Int)), F_impl_usedSpace list0 (fun r0 => kk (.one (.c (.v (.int .i64 r0)))) []) → motive [.c (.ro .ii list0)]) : motive vs := by
  unfold con_impl_usedSpace at h
  dsimp only at h
  split at h
  · exact H _ h
  · exact h.elim
theorem h_impl_usedSpace : Holds Try.prog 35 con_impl_usedSpace := by
  refine holds_of_ev (rt := [.c .sc]) (T := TT) (Γ := cs_impl_usedSpace) (an := an_impl_usedSpace) (N := 18) (c := Try.f35.body.getD .skip) Try.func35 (by kernel_rfl) Try.ntmps35 (by decide) (by decide) mixed tabOK cok_impl_usedSpace (by kernel_rfl) ?_
  intro vs kk _ hF
  exact i_impl_usedSpace (motive := fun vs => Goes (ev TT cs_impl_usedSpace 18 an_impl_usedSpace (Try.f35.body.getD .skip) (st0 con_impl_usedSpace vs) (fin TT con_impl_usedSpace Try.f35.results.toList [.c .sc] vs kk))) hF (fun list0 hF => goes_of (e_impl_usedSpace list0 kk) (F_impl_usedSpace_S hF))
def con_impl_ValidWeighed : Con := ⟨[.rd, .rd], true, [.c (.sl .ii), .c (.sc)], fun vs k => match vs with
    | [.c (.ro .ii list0), .c (.v (.int .i64 room1))] => F_impl_ValidWeighed list0 room1 (fun r0 => k (.one (.c (.v (.bool r0)))) [])
    | _ => False, false⟩
def cl_impl_ValidWeighed : List (FuncId × Con) := [(30, con_impl_validSpace), (31, con_impl_validKey), (32, con_impl_validSize), (33, con_slices_ContainsFunc_Weighed_Weighed), (35, con_impl_usedSpace)]
def nm0_impl_ValidWeighed : List NStep := [.keep [0, 1, 10, 11, 12] []]
def an_impl_ValidWeighed : Ann := ⟨[(6, .take 0 (.take 1 (.alt 2 (.take 3 (.take 4 (.take 5 (.take 6 (.alt 7 (.take 8 (.take 9 (.take 10 (.take 11 (.take 12 (.take 13 (.take 14 (.take 15 (.alt 16 (.take 17 (.done)) (.none)))))))))) (.none)))))) (.none))), [96])], [(4, nm0_impl_ValidWeighed)], [], []⟩
def cs_impl_ValidWeighed : Cons := ⟨cl_impl_ValidWeighed, [], 0, [], [], []⟩
def can0_impl_ValidWeighed (list0 : List (Int × Int)) (room1 : Int) (xt11 : Int) (xt12 : Int) : St := ⟨[(0, .one (.c (.ro .ii list0))), (1, .one (.c (.v (.int .i64 room1)))), (10, .one (.c (.ro .ii list0))), (11, .one (.c (.v (.int .i64 xt11)))), (12, .one (.c (.v (.int .i64 xt12))))], []⟩
def fin_impl_ValidWeighed (list0 : List (Int × Int)) (room1 : Int) (kk : AV → List A1 → Prop) : Kt := fin TT con_impl_ValidWeighed Try.f14.results.toList [.c .sc] [.c (.ro .ii list0), .c (.v (.int .i64 room1))] kk
def kt0_impl_ValidWeighed (kf : Kt) : Kt := blockK 0 (seqK (evF TT cs_impl_ValidWeighed 40 an_impl_ValidWeighed Try.f14 [1, 1, 1]) (kf))
theorem r0_impl_ValidWeighed (list0 : List (Int × Int)) (room1 : Int) (xt11 : Int) (kk : AV → List A1 → Prop) (n : Nat) (xt12 : Int) :
    iter (evF TT cs_impl_ValidWeighed 40 an_impl_ValidWeighed Try.f14 [1, 1, 0, 1, 0, 0]) nm0_impl_ValidWeighed (kt0_impl_ValidWeighed (fin_impl_ValidWeighed list0 room1 kk)) (n + 1) (can0_impl_ValidWeighed list0 room1 xt11 xt12) = T0_impl_ValidWeighed list0 room1 xt11 xt12 (fun r0 => kk (.one (.c (.v (.bool r0)))) []) (fun xt12 => iter (evF TT cs_impl_ValidWeighed 40 an_impl_ValidWeighed Try.f14 [1, 1, 0, 1, 0, 0]) nm0_impl_ValidWeighed (kt0_impl_ValidWeighed (fin_impl_ValidWeighed list0 room1 kk)) n (can0_impl_ValidWeighed list0 room1 xt11 xt12)) := by kernel_rfl
theorem l0_impl_ValidWeighed (list0 : List (Int × Int)) (room1 : Int) (xt11 : Int) (kk : AV → List A1 → Prop) : ∀ (n : Nat) (xt12 : Int), iter (evF TT cs_impl_ValidWeighed 40 an_impl_ValidWeighed Try.f14 [1, 1, 0, 1, 0, 0]) nm0_impl_ValidWeighed (kt0_impl_ValidWeighed (fin_impl_ValidWeighed list0 room1 kk)) n (can0_impl_ValidWeighed list0 room1 xt11 xt12) = L0_impl_ValidWeighed list0 room1 xt11 (fun r0 => kk (.one (.c (.v (.bool r0)))) []) n xt12 := by
  intro n
  induction n with
  | zero => intros; rfl
  | succ n ih =>
    intro xt12
    rw [r0_impl_ValidWeighed list0 room1 xt11 kk n xt12]
    have hb : (fun xt12 => iter (evF TT cs_impl_ValidWeighed 40 an_impl_ValidWeighed Try.f14 [1, 1, 0, 1, 0, 0]) nm0_impl_ValidWeighed (kt0_impl_ValidWeighed (fin_impl_ValidWeighed list0 room1 kk)) n (can0_impl_ValidWeighed list0 room1 xt11 xt12)) = L0_impl_ValidWeighed list0 room1 xt11 (fun r0 => kk (.one (.c (.v (.bool r0)))) []) n := by
      funext xt12; exact ih xt12
    rw [hb]
    rw [T0_impl_ValidWeighed_eq]
    rfl
theorem g_impl_ValidWeighed (list0 : List (Int × Int)) (room1 : Int) (kk : AV → List A1 → Prop) :
    ev TT cs_impl_ValidWeighed 40 an_impl_ValidWeighed (Try.f14.body.getD .skip) (st0 con_impl_ValidWeighed [.c (.ro .ii list0), .c (.v (.int .i64 room1))]) (fin TT con_impl_ValidWeighed Try.f14.results.toList [.c .sc] [.c (.ro .ii list0), .c (.v (.int .i64 room1))] kk) = G_impl_ValidWeighed list0 room1 (fun r0 => kk (.one (.c (.v (.bool r0)))) []) (fun list0 room1 xt11 xt12 => ∃ j, iter (evF TT cs_impl_ValidWeighed 40 an_impl_ValidWeighed Try.f14 [1, 1, 0, 1, 0, 0]) nm0_impl_ValidWeighed (kt0_impl_ValidWeighed (fin_impl_ValidWeighed list0 room1 kk)) j (can0_impl_ValidWeighed list0 room1 xt11 xt12)) := by kernel_rfl
theorem e_impl_ValidWeighed (list0 : List (Int × Int)) (room1 : Int) (kk : AV → List A1 → Prop) :
    ev TT cs_impl_ValidWeighed 40 an_impl_ValidWeighed (Try.f14.body.getD .skip) (st0 con_impl_ValidWeighed [.c (.ro .ii list0), .c (.v (.int .i64 room1))]) (fin TT con_impl_ValidWeighed Try.f14.results.toList [.c .sc] [.c (.ro .ii list0), .c (.v (.int .i64 room1))] kk) = S_impl_ValidWeighed list0 room1 (fun r0 => kk (.one (.c (.v (.bool r0)))) []) := by
  rw [g_impl_ValidWeighed]
  have hi0 : (fun list0 room1 xt11 xt12 => ∃ j, iter (evF TT cs_impl_ValidWeighed 40 an_impl_ValidWeighed Try.f14 [1, 1, 0, 1, 0, 0]) nm0_impl_ValidWeighed (kt0_impl_ValidWeighed (fin_impl_ValidWeighed list0 room1 kk)) j (can0_impl_ValidWeighed list0 room1 xt11 xt12)) = (fun list0 room1 xt11 xt12 => ∃ j, L0_impl_ValidWeighed list0 room1 xt11 (fun r0 => kk (.one (.c (.v (.bool r0)))) []) j xt12) := by
    funext list0 room1 xt11 xt12
    refine congrArg Exists (funext fun j => ?_)
    rw [l0_impl_ValidWeighed list0 room1 xt11 kk j xt12]
  rw [hi0]
  rfl
theorem clok_impl_ValidWeighed : ConOK Try.prog cl_impl_ValidWeighed := consCons h_impl_validSpace ⟨Try.f30, Try.func30, by kernel_rfl, ne_of_beq (by kernel_rfl)⟩ (consCons h_impl_validKey ⟨Try.f31, Try.func31, by kernel_rfl, ne_of_beq (by kernel_rfl)⟩ (consCons h_impl_validSize ⟨Try.f32, Try.func32, by kernel_rfl, ne_of_beq (by kernel_rfl)⟩ (consCons h_slices_ContainsFunc_Weighed_Weighed ⟨Try.f33, Try.func33, by kernel_rfl, ne_of_beq (by kernel_rfl)⟩ (consCons h_impl_usedSpace ⟨Try.f35, Try.func35, by kernel_rfl, ne_of_beq (by kernel_rfl)⟩ (consNil)))))
theorem cok_impl_ValidWeighed : ConsOK Try.prog 40 cs_impl_ValidWeighed := ⟨clok_impl_ValidWeighed, inlNil, ovNil⟩
theorem i_impl_ValidWeighed {vs : List A1} {kk : AV → List A1 → Prop} {motive : List A1 → Prop} (h : con_impl_ValidWeighed.F vs kk) (H : ∀ (list0 : List (Int × Int)) (room1 : Int), F_impl_ValidWeighed list0 room1 (fun r0 => kk (.one (.c (.v (.bool r0)))) []) → motive [.c (.ro .ii list0), .c (.v (.int .i64 room1))]) : motive vs := by
  unfold con_impl_ValidWeighed at h
  dsimp only at h
  split at h
  · exact H _ _ h
  · exact h.elim
theorem h_impl_ValidWeighed : Holds Try.prog 14 con_impl_ValidWeighed := by
  refine holds_of_ev (rt := [.c .sc]) (T := TT) (Γ := cs_impl_ValidWeighed) (an := an_impl_ValidWeighed) (N := 40) (c := Try.f14.body.getD .skip) Try.func14 (by kernel_rfl) Try.ntmps14 (by decide) (by decide) mixed tabOK cok_impl_ValidWeighed (by kernel_rfl) ?_
  intro vs kk _ hF
  exact i_impl_ValidWeighed (motive := fun vs => Goes (ev TT cs_impl_ValidWeighed 40 an_impl_ValidWeighed (Try.f14.body.getD .skip) (st0 con_impl_ValidWeighed vs) (fin TT con_impl_ValidWeighed Try.f14.results.toList [.c .sc] vs kk))) hF (fun list0 room1 hF => goes_of (e_impl_ValidWeighed list0 room1 kk) (F_impl_ValidWeighed_S hF))
def con_spec_inRange : Con := ⟨[.rd, .rd, .rd], true, [.c (.sc), .c (.sc), .c (.sc)], fun vs k => match vs with
    | [.c (.v (.int .i64 n0)), .c (.v (.int .i64 low1)), .c (.v (.int .i64 high2))] => F_spec_inRange n0 low1 high2 (fun r0 => k (.one (.c (.v (.bool r0)))) [])
    | _ => False, false⟩
def cl_spec_inRange : List (FuncId × Con) := []
def an_spec_inRange : Ann := ⟨[], [], [], []⟩
def cs_spec_inRange : Cons := ⟨cl_spec_inRange, [], 0, [], [], []⟩
def fin_spec_inRange (n0 : Int) (low1 : Int) (high2 : Int) (kk : AV → List A1 → Prop) : Kt := fin TT con_spec_inRange Try.f43.results.toList [.c .sc] [.c (.v (.int .i64 n0)), .c (.v (.int .i64 low1)), .c (.v (.int .i64 high2))] kk
theorem g_spec_inRange (n0 : Int) (low1 : Int) (high2 : Int) (kk : AV → List A1 → Prop) :
    ev TT cs_spec_inRange 15 an_spec_inRange (Try.f43.body.getD .skip) (st0 con_spec_inRange [.c (.v (.int .i64 n0)), .c (.v (.int .i64 low1)), .c (.v (.int .i64 high2))]) (fin TT con_spec_inRange Try.f43.results.toList [.c .sc] [.c (.v (.int .i64 n0)), .c (.v (.int .i64 low1)), .c (.v (.int .i64 high2))] kk) = G_spec_inRange n0 low1 high2 (fun r0 => kk (.one (.c (.v (.bool r0)))) []) := by kernel_rfl
theorem e_spec_inRange (n0 : Int) (low1 : Int) (high2 : Int) (kk : AV → List A1 → Prop) :
    ev TT cs_spec_inRange 15 an_spec_inRange (Try.f43.body.getD .skip) (st0 con_spec_inRange [.c (.v (.int .i64 n0)), .c (.v (.int .i64 low1)), .c (.v (.int .i64 high2))]) (fin TT con_spec_inRange Try.f43.results.toList [.c .sc] [.c (.v (.int .i64 n0)), .c (.v (.int .i64 low1)), .c (.v (.int .i64 high2))] kk) = S_spec_inRange n0 low1 high2 (fun r0 => kk (.one (.c (.v (.bool r0)))) []) := by
  rw [g_spec_inRange]
  rfl
theorem clok_spec_inRange : ConOK Try.prog cl_spec_inRange := consNil
theorem cok_spec_inRange : ConsOK Try.prog 15 cs_spec_inRange := ⟨clok_spec_inRange, inlNil, ovNil⟩
theorem i_spec_inRange {vs : List A1} {kk : AV → List A1 → Prop} {motive : List A1 → Prop} (h : con_spec_inRange.F vs kk) (H : ∀ (n0 : Int) (low1 : Int) (high2 : Int), F_spec_inRange n0 low1 high2 (fun r0 => kk (.one (.c (.v (.bool r0)))) []) → motive [.c (.v (.int .i64 n0)), .c (.v (.int .i64 low1)), .c (.v (.int .i64 high2))]) : motive vs := by
  unfold con_spec_inRange at h
  dsimp only at h
  split at h
  · exact H _ _ _ h
  · exact h.elim
theorem h_spec_inRange : Holds Try.prog 43 con_spec_inRange := by
  refine holds_of_ev (rt := [.c .sc]) (T := TT) (Γ := cs_spec_inRange) (an := an_spec_inRange) (N := 15) (c := Try.f43.body.getD .skip) Try.func43 (by kernel_rfl) Try.ntmps43 (by decide) (by decide) mixed tabOK cok_spec_inRange (by kernel_rfl) ?_
  intro vs kk _ hF
  exact i_spec_inRange (motive := fun vs => Goes (ev TT cs_spec_inRange 15 an_spec_inRange (Try.f43.body.getD .skip) (st0 con_spec_inRange vs) (fin TT con_spec_inRange Try.f43.results.toList [.c .sc] vs kk))) hF (fun n0 low1 high2 hF => goes_of (e_spec_inRange n0 low1 high2 kk) (F_spec_inRange_S hF))
def con_spec_validWeighed : Con := ⟨[.rd, .rd], true, [.c (.sl .ii), .c (.sc)], fun vs k => match vs with
    | [.c (.ro .ii list0), .c (.v (.int .i64 room1))] => F_spec_validWeighed list0 room1 (fun r0 => k (.one (.c (.v (.bool r0)))) [])
    | _ => False, false⟩
def cl_spec_validWeighed : List (FuncId × Con) := [(43, con_spec_inRange)]
def nm1_spec_validWeighed : List NStep := [.keep [0, 1, 5, 6, 7] []]
def nm0_spec_validWeighed : List NStep := [.keep [0, 1, 5, 6] []]
def an_spec_validWeighed : Ann := ⟨[(11, .take 0 (.take 1 (.take 2 (.take 3 (.take 4 (.take 5 (.take 6 (.take 7 (.take 8 (.take 9 (.take 10 (.done))))))))))), [])], [(9, nm1_spec_validWeighed), (3, nm0_spec_validWeighed)], [], []⟩
def cs_spec_validWeighed : Cons := ⟨cl_spec_validWeighed, [], 0, [], [], []⟩
def can1_spec_validWeighed (list0 : List (Int × Int)) (room1 : Int) (xi6 : Int) (xn5' : Int) (xk7 : Int) : St := ⟨[(0, .one (.c (.ro .ii list0))), (1, .one (.c (.v (.int .i64 room1)))), (5, .one (.c (.v (.int .i64 xn5')))), (6, .one (.c (.v (.int .i64 xi6)))), (7, .one (.c (.v (.int .i64 xk7))))], []⟩
def can0_spec_validWeighed (list0 : List (Int × Int)) (room1 : Int) (xn5 : Int) (xi6 : Int) : St := ⟨[(0, .one (.c (.ro .ii list0))), (1, .one (.c (.v (.int .i64 room1)))), (5, .one (.c (.v (.int .i64 xn5)))), (6, .one (.c (.v (.int .i64 xi6))))], []⟩
def fin_spec_validWeighed (list0 : List (Int × Int)) (room1 : Int) (kk : AV → List A1 → Prop) : Kt := fin TT con_spec_validWeighed Try.f36.results.toList [.c .sc] [.c (.ro .ii list0), .c (.v (.int .i64 room1))] kk
def kt1_spec_validWeighed (kf : Kt) (b0 : St → Prop) : Kt := blockK 2 (blockK 1 (seqK (evF TT cs_spec_validWeighed 60 an_spec_validWeighed Try.f36 [1, 1, 0, 1, 0, 0, 1, 1]) (backK nm0_spec_validWeighed b0 (blockK 0 (seqK (evF TT cs_spec_validWeighed 60 an_spec_validWeighed Try.f36 [1, 1, 1]) (kf))))))
def kt0_spec_validWeighed (kf : Kt) : Kt := blockK 0 (seqK (evF TT cs_spec_validWeighed 60 an_spec_validWeighed Try.f36 [1, 1, 1]) (kf))
theorem r1_spec_validWeighed (list0 : List (Int × Int)) (room1 : Int) (xi6 : Int) (xn5' : Int) (kk : AV → List A1 → Prop) (b0 : St → Prop) (n : Nat) (xk7 : Int) :
    iter (evF TT cs_spec_validWeighed 60 an_spec_validWeighed Try.f36 [1, 1, 0, 1, 0, 0, 1, 0, 0, 1, 1, 1, 0, 0]) nm1_spec_validWeighed (kt1_spec_validWeighed (fin_spec_validWeighed list0 room1 kk) b0) (n + 1) (can1_spec_validWeighed list0 room1 xi6 xn5' xk7) = T1_spec_validWeighed list0 room1 xi6 xn5' xk7 (fun r0 => kk (.one (.c (.v (.bool r0)))) []) (fun xn5 xi6 => b0 (can0_spec_validWeighed list0 room1 xn5 xi6)) (fun xk7 => iter (evF TT cs_spec_validWeighed 60 an_spec_validWeighed Try.f36 [1, 1, 0, 1, 0, 0, 1, 0, 0, 1, 1, 1, 0, 0]) nm1_spec_validWeighed (kt1_spec_validWeighed (fin_spec_validWeighed list0 room1 kk) b0) n (can1_spec_validWeighed list0 room1 xi6 xn5' xk7)) := by kernel_rfl
theorem l1_spec_validWeighed (list0 : List (Int × Int)) (room1 : Int) (xi6 : Int) (xn5' : Int) (kk : AV → List A1 → Prop) (b0 : St → Prop) : ∀ (n : Nat) (xk7 : Int), iter (evF TT cs_spec_validWeighed 60 an_spec_validWeighed Try.f36 [1, 1, 0, 1, 0, 0, 1, 0, 0, 1, 1, 1, 0, 0]) nm1_spec_validWeighed (kt1_spec_validWeighed (fin_spec_validWeighed list0 room1 kk) b0) n (can1_spec_validWeighed list0 room1 xi6 xn5' xk7) = L1_spec_validWeighed list0 room1 xi6 xn5' (fun r0 => kk (.one (.c (.v (.bool r0)))) []) (fun xn5 xi6 => b0 (can0_spec_validWeighed list0 room1 xn5 xi6)) n xk7 := by
  intro n
  induction n with
  | zero => intros; rfl
  | succ n ih =>
    intro xk7
    rw [r1_spec_validWeighed list0 room1 xi6 xn5' kk b0 n xk7]
    have hb : (fun xk7 => iter (evF TT cs_spec_validWeighed 60 an_spec_validWeighed Try.f36 [1, 1, 0, 1, 0, 0, 1, 0, 0, 1, 1, 1, 0, 0]) nm1_spec_validWeighed (kt1_spec_validWeighed (fin_spec_validWeighed list0 room1 kk) b0) n (can1_spec_validWeighed list0 room1 xi6 xn5' xk7)) = L1_spec_validWeighed list0 room1 xi6 xn5' (fun r0 => kk (.one (.c (.v (.bool r0)))) []) (fun xn5 xi6 => b0 (can0_spec_validWeighed list0 room1 xn5 xi6)) n := by
      funext xk7; exact ih xk7
    rw [hb]
    rfl
theorem r0_spec_validWeighed (list0 : List (Int × Int)) (room1 : Int) (kk : AV → List A1 → Prop) (n : Nat) (xn5 : Int) (xi6 : Int) :
    iter (evF TT cs_spec_validWeighed 60 an_spec_validWeighed Try.f36 [1, 1, 0, 1, 0, 0]) nm0_spec_validWeighed (kt0_spec_validWeighed (fin_spec_validWeighed list0 room1 kk)) (n + 1) (can0_spec_validWeighed list0 room1 xn5 xi6) = T0_spec_validWeighed list0 room1 xn5 xi6 (fun r0 => kk (.one (.c (.v (.bool r0)))) []) (fun list0 room1 xi6 xn5' xk7 => ∃ j, iter (evF TT cs_spec_validWeighed 60 an_spec_validWeighed Try.f36 [1, 1, 0, 1, 0, 0, 1, 0, 0, 1, 1, 1, 0, 0]) nm1_spec_validWeighed (kt1_spec_validWeighed (fin_spec_validWeighed list0 room1 kk) (iter (evF TT cs_spec_validWeighed 60 an_spec_validWeighed Try.f36 [1, 1, 0, 1, 0, 0]) nm0_spec_validWeighed (kt0_spec_validWeighed (fin_spec_validWeighed list0 room1 kk)) n)) j (can1_spec_validWeighed list0 room1 xi6 xn5' xk7)) := by kernel_rfl
theorem l0_spec_validWeighed (list0 : List (Int × Int)) (room1 : Int) (kk : AV → List A1 → Prop) : ∀ (n : Nat) (xn5 : Int) (xi6 : Int), iter (evF TT cs_spec_validWeighed 60 an_spec_validWeighed Try.f36 [1, 1, 0, 1, 0, 0]) nm0_spec_validWeighed (kt0_spec_validWeighed (fin_spec_validWeighed list0 room1 kk)) n (can0_spec_validWeighed list0 room1 xn5 xi6) = L0_spec_validWeighed list0 room1 (fun r0 => kk (.one (.c (.v (.bool r0)))) []) n xn5 xi6 := by
  intro n
  induction n generalizing list0 room1 with
  | zero => intros; rfl
  | succ n ih =>
    intro xn5 xi6
    rw [r0_spec_validWeighed list0 room1 kk n xn5 xi6]
    have hb : ∀ (list0 : List (Int × Int)) (room1 : Int), (fun xn5 xi6 => iter (evF TT cs_spec_validWeighed 60 an_spec_validWeighed Try.f36 [1, 1, 0, 1, 0, 0]) nm0_spec_validWeighed (kt0_spec_validWeighed (fin_spec_validWeighed list0 room1 kk)) n (can0_spec_validWeighed list0 room1 xn5 xi6)) = L0_spec_validWeighed list0 room1 (fun r0 => kk (.one (.c (.v (.bool r0)))) []) n := by
      intro list0 room1
      funext xn5 xi6; exact ih list0 room1 xn5 xi6
    have hi1 : (fun list0 room1 xi6 xn5' xk7 => ∃ j, iter (evF TT cs_spec_validWeighed 60 an_spec_validWeighed Try.f36 [1, 1, 0, 1, 0, 0, 1, 0, 0, 1, 1, 1, 0, 0]) nm1_spec_validWeighed (kt1_spec_validWeighed (fin_spec_validWeighed list0 room1 kk) (iter (evF TT cs_spec_validWeighed 60 an_spec_validWeighed Try.f36 [1, 1, 0, 1, 0, 0]) nm0_spec_validWeighed (kt0_spec_validWeighed (fin_spec_validWeighed list0 room1 kk)) n)) j (can1_spec_validWeighed list0 room1 xi6 xn5' xk7)) = (fun list0 room1 xi6 xn5' xk7 => ∃ j, L1_spec_validWeighed list0 room1 xi6 xn5' (fun r0 => kk (.one (.c (.v (.bool r0)))) []) (L0_spec_validWeighed list0 room1 (fun r0 => kk (.one (.c (.v (.bool r0)))) []) n) j xk7) := by
      funext list0 room1 xi6 xn5' xk7
      refine congrArg Exists (funext fun j => ?_)
      rw [l1_spec_validWeighed list0 room1 xi6 xn5' kk (iter (evF TT cs_spec_validWeighed 60 an_spec_validWeighed Try.f36 [1, 1, 0, 1, 0, 0]) nm0_spec_validWeighed (kt0_spec_validWeighed (fin_spec_validWeighed list0 room1 kk)) n) j xk7]
      rw [hb]
    rw [hi1]
    rfl
theorem g_spec_validWeighed (list0 : List (Int × Int)) (room1 : Int) (kk : AV → List A1 → Prop) :
    ev TT cs_spec_validWeighed 60 an_spec_validWeighed (Try.f36.body.getD .skip) (st0 con_spec_validWeighed [.c (.ro .ii list0), .c (.v (.int .i64 room1))]) (fin TT con_spec_validWeighed Try.f36.results.toList [.c .sc] [.c (.ro .ii list0), .c (.v (.int .i64 room1))] kk) = G_spec_validWeighed list0 room1 (fun list0 room1 xn5 xi6 => ∃ j, iter (evF TT cs_spec_validWeighed 60 an_spec_validWeighed Try.f36 [1, 1, 0, 1, 0, 0]) nm0_spec_validWeighed (kt0_spec_validWeighed (fin_spec_validWeighed list0 room1 kk)) j (can0_spec_validWeighed list0 room1 xn5 xi6)) := by kernel_rfl
theorem e_spec_validWeighed (list0 : List (Int × Int)) (room1 : Int) (kk : AV → List A1 → Prop) :
    ev TT cs_spec_validWeighed 60 an_spec_validWeighed (Try.f36.body.getD .skip) (st0 con_spec_validWeighed [.c (.ro .ii list0), .c (.v (.int .i64 room1))]) (fin TT con_spec_validWeighed Try.f36.results.toList [.c .sc] [.c (.ro .ii list0), .c (.v (.int .i64 room1))] kk) = S_spec_validWeighed list0 room1 (fun r0 => kk (.one (.c (.v (.bool r0)))) []) := by
  rw [g_spec_validWeighed]
  have hi0 : (fun list0 room1 xn5 xi6 => ∃ j, iter (evF TT cs_spec_validWeighed 60 an_spec_validWeighed Try.f36 [1, 1, 0, 1, 0, 0]) nm0_spec_validWeighed (kt0_spec_validWeighed (fin_spec_validWeighed list0 room1 kk)) j (can0_spec_validWeighed list0 room1 xn5 xi6)) = (fun list0 room1 xn5 xi6 => ∃ j, L0_spec_validWeighed list0 room1 (fun r0 => kk (.one (.c (.v (.bool r0)))) []) j xn5 xi6) := by
    funext list0 room1 xn5 xi6
    refine congrArg Exists (funext fun j => ?_)
    rw [l0_spec_validWeighed list0 room1 kk j xn5 xi6]
  rw [hi0]
  rfl
theorem clok_spec_validWeighed : ConOK Try.prog cl_spec_validWeighed := consCons h_spec_inRange ⟨Try.f43, Try.func43, by kernel_rfl, ne_of_beq (by kernel_rfl)⟩ (consNil)
theorem cok_spec_validWeighed : ConsOK Try.prog 60 cs_spec_validWeighed := ⟨clok_spec_validWeighed, inlNil, ovNil⟩
theorem i_spec_validWeighed {vs : List A1} {kk : AV → List A1 → Prop} {motive : List A1 → Prop} (h : con_spec_validWeighed.F vs kk) (H : ∀ (list0 : List (Int × Int)) (room1 : Int), F_spec_validWeighed list0 room1 (fun r0 => kk (.one (.c (.v (.bool r0)))) []) → motive [.c (.ro .ii list0), .c (.v (.int .i64 room1))]) : motive vs := by
  unfold con_spec_validWeighed at h
  dsimp only at h
  split at h
  · exact H _ _ h
  · exact h.elim
theorem h_spec_validWeighed : Holds Try.prog 36 con_spec_validWeighed := by
  refine holds_of_ev (rt := [.c .sc]) (T := TT) (Γ := cs_spec_validWeighed) (an := an_spec_validWeighed) (N := 60) (c := Try.f36.body.getD .skip) Try.func36 (by kernel_rfl) Try.ntmps36 (by decide) (by decide) mixed tabOK cok_spec_validWeighed (by kernel_rfl) ?_
  intro vs kk _ hF
  exact i_spec_validWeighed (motive := fun vs => Goes (ev TT cs_spec_validWeighed 60 an_spec_validWeighed (Try.f36.body.getD .skip) (st0 con_spec_validWeighed vs) (fin TT con_spec_validWeighed Try.f36.results.toList [.c .sc] vs kk))) hF (fun list0 room1 hF => goes_of (e_spec_validWeighed list0 room1 kk) (F_spec_validWeighed_S hF))
def con_spec_ValidWeighed : Con := ⟨[.rd, .rd], true, [.c (.sl .ii), .c (.sc)], fun vs k => match vs with
    | [.c (.ro .ii list0), .c (.v (.int .i64 room1))] => F_spec_ValidWeighed list0 room1 (fun r0 => k (.one (.c (.v (.bool r0)))) [])
    | _ => False, false⟩
def cl_spec_ValidWeighed : List (FuncId × Con) := [(36, con_spec_validWeighed)]
def an_spec_ValidWeighed : Ann := ⟨[], [], [], []⟩
def cs_spec_ValidWeighed : Cons := ⟨cl_spec_ValidWeighed, [], 0, [], [], []⟩
def fin_spec_ValidWeighed (list0 : List (Int × Int)) (room1 : Int) (kk : AV → List A1 → Prop) : Kt := fin TT con_spec_ValidWeighed Try.f15.results.toList [.c .sc] [.c (.ro .ii list0), .c (.v (.int .i64 room1))] kk
theorem g_spec_ValidWeighed (list0 : List (Int × Int)) (room1 : Int) (kk : AV → List A1 → Prop) :
    ev TT cs_spec_ValidWeighed 8 an_spec_ValidWeighed (Try.f15.body.getD .skip) (st0 con_spec_ValidWeighed [.c (.ro .ii list0), .c (.v (.int .i64 room1))]) (fin TT con_spec_ValidWeighed Try.f15.results.toList [.c .sc] [.c (.ro .ii list0), .c (.v (.int .i64 room1))] kk) = G_spec_ValidWeighed list0 room1 (fun r0 => kk (.one (.c (.v (.bool r0)))) []) := by kernel_rfl
theorem e_spec_ValidWeighed (list0 : List (Int × Int)) (room1 : Int) (kk : AV → List A1 → Prop) :
    ev TT cs_spec_ValidWeighed 8 an_spec_ValidWeighed (Try.f15.body.getD .skip) (st0 con_spec_ValidWeighed [.c (.ro .ii list0), .c (.v (.int .i64 room1))]) (fin TT con_spec_ValidWeighed Try.f15.results.toList [.c .sc] [.c (.ro .ii list0), .c (.v (.int .i64 room1))] kk) = S_spec_ValidWeighed list0 room1 (fun r0 => kk (.one (.c (.v (.bool r0)))) []) := by
  rw [g_spec_ValidWeighed]
  rfl
theorem clok_spec_ValidWeighed : ConOK Try.prog cl_spec_ValidWeighed := consCons h_spec_validWeighed ⟨Try.f36, Try.func36, by kernel_rfl, ne_of_beq (by kernel_rfl)⟩ (consNil)
theorem cok_spec_ValidWeighed : ConsOK Try.prog 8 cs_spec_ValidWeighed := ⟨clok_spec_ValidWeighed, inlNil, ovNil⟩
theorem i_spec_ValidWeighed {vs : List A1} {kk : AV → List A1 → Prop} {motive : List A1 → Prop} (h : con_spec_ValidWeighed.F vs kk) (H : ∀ (list0 : List (Int × Int)) (room1 : Int), F_spec_ValidWeighed list0 room1 (fun r0 => kk (.one (.c (.v (.bool r0)))) []) → motive [.c (.ro .ii list0), .c (.v (.int .i64 room1))]) : motive vs := by
  unfold con_spec_ValidWeighed at h
  dsimp only at h
  split at h
  · exact H _ _ h
  · exact h.elim
theorem h_spec_ValidWeighed : Holds Try.prog 15 con_spec_ValidWeighed := by
  refine holds_of_ev (rt := [.c .sc]) (T := TT) (Γ := cs_spec_ValidWeighed) (an := an_spec_ValidWeighed) (N := 8) (c := Try.f15.body.getD .skip) Try.func15 (by kernel_rfl) Try.ntmps15 (by decide) (by decide) mixed tabOK cok_spec_ValidWeighed (by kernel_rfl) ?_
  intro vs kk _ hF
  exact i_spec_ValidWeighed (motive := fun vs => Goes (ev TT cs_spec_ValidWeighed 8 an_spec_ValidWeighed (Try.f15.body.getD .skip) (st0 con_spec_ValidWeighed vs) (fin TT con_spec_ValidWeighed Try.f15.results.toList [.c .sc] vs kk))) hF (fun list0 room1 hF => goes_of (e_spec_ValidWeighed list0 room1 kk) (F_spec_ValidWeighed_S hF))
def con_impl_FreeSpace : Con := ⟨[.rd, .rd], true, [.c (.sl .ii), .c (.sc)], fun vs k => match vs with
    | [.c (.ro .ii list0), .c (.v (.int .i64 room1))] => F_impl_FreeSpace list0 room1 (fun r0 => k (.one (.c (.v (.int .i64 r0)))) [])
    | _ => False, false⟩
def cl_impl_FreeSpace : List (FuncId × Con) := [(14, con_impl_ValidWeighed), (35, con_impl_usedSpace)]
def an_impl_FreeSpace : Ann := ⟨[], [], [], []⟩
def cs_impl_FreeSpace : Cons := ⟨cl_impl_FreeSpace, [], 0, [], [], []⟩
def fin_impl_FreeSpace (list0 : List (Int × Int)) (room1 : Int) (kk : AV → List A1 → Prop) : Kt := fin TT con_impl_FreeSpace Try.f16.results.toList [.c .sc] [.c (.ro .ii list0), .c (.v (.int .i64 room1))] kk
theorem g_impl_FreeSpace (list0 : List (Int × Int)) (room1 : Int) (kk : AV → List A1 → Prop) :
    ev TT cs_impl_FreeSpace 13 an_impl_FreeSpace (Try.f16.body.getD .skip) (st0 con_impl_FreeSpace [.c (.ro .ii list0), .c (.v (.int .i64 room1))]) (fin TT con_impl_FreeSpace Try.f16.results.toList [.c .sc] [.c (.ro .ii list0), .c (.v (.int .i64 room1))] kk) = G_impl_FreeSpace list0 room1 (fun r0 => kk (.one (.c (.v (.int .i64 r0)))) []) := by kernel_rfl
theorem e_impl_FreeSpace (list0 : List (Int × Int)) (room1 : Int) (kk : AV → List A1 → Prop) :
    ev TT cs_impl_FreeSpace 13 an_impl_FreeSpace (Try.f16.body.getD .skip) (st0 con_impl_FreeSpace [.c (.ro .ii list0), .c (.v (.int .i64 room1))]) (fin TT con_impl_FreeSpace Try.f16.results.toList [.c .sc] [.c (.ro .ii list0), .c (.v (.int .i64 room1))] kk) = S_impl_FreeSpace list0 room1 (fun r0 => kk (.one (.c (.v (.int .i64 r0)))) []) := by
  rw [g_impl_FreeSpace]
  rfl
theorem clok_impl_FreeSpace : ConOK Try.prog cl_impl_FreeSpace := consCons h_impl_ValidWeighed ⟨Try.f14, Try.func14, by kernel_rfl, ne_of_beq (by kernel_rfl)⟩ (consCons h_impl_usedSpace ⟨Try.f35, Try.func35, by kernel_rfl, ne_of_beq (by kernel_rfl)⟩ (consNil))
theorem cok_impl_FreeSpace : ConsOK Try.prog 13 cs_impl_FreeSpace := ⟨clok_impl_FreeSpace, inlNil, ovNil⟩
theorem i_impl_FreeSpace {vs : List A1} {kk : AV → List A1 → Prop} {motive : List A1 → Prop} (h : con_impl_FreeSpace.F vs kk) (H : ∀ (list0 : List (Int × Int)) (room1 : Int), F_impl_FreeSpace list0 room1 (fun r0 => kk (.one (.c (.v (.int .i64 r0)))) []) → motive [.c (.ro .ii list0), .c (.v (.int .i64 room1))]) : motive vs := by
  unfold con_impl_FreeSpace at h
  dsimp only at h
  split at h
  · exact H _ _ h
  · exact h.elim
theorem h_impl_FreeSpace : Holds Try.prog 16 con_impl_FreeSpace := by
  refine holds_of_ev (rt := [.c .sc]) (T := TT) (Γ := cs_impl_FreeSpace) (an := an_impl_FreeSpace) (N := 13) (c := Try.f16.body.getD .skip) Try.func16 (by kernel_rfl) Try.ntmps16 (by decide) (by decide) mixed tabOK cok_impl_FreeSpace (by kernel_rfl) ?_
  intro vs kk _ hF
  exact i_impl_FreeSpace (motive := fun vs => Goes (ev TT cs_impl_FreeSpace 13 an_impl_FreeSpace (Try.f16.body.getD .skip) (st0 con_impl_FreeSpace vs) (fin TT con_impl_FreeSpace Try.f16.results.toList [.c .sc] vs kk))) hF (fun list0 room1 hF => goes_of (e_impl_FreeSpace list0 room1 kk) (F_impl_FreeSpace_S hF))
def con_laws_FnValidWeighed : Con := ⟨[.rd], true, [.c (.sl .u8)], fun vs k => match vs with
    | [.c (.ro .u8 code0)] => F_laws_FnValidWeighed code0 (fun r0 => k (.one (.c (.v (.bool r0)))) [])
    | _ => False, false⟩
def cl_laws_FnValidWeighed : List (FuncId × Con) := [(13, con_spec_DrawValidWeighed), (14, con_impl_ValidWeighed), (15, con_spec_ValidWeighed), (16, con_impl_FreeSpace)]
def an_laws_FnValidWeighed : Ann := ⟨[], [], [], []⟩
def cs_laws_FnValidWeighed : Cons := ⟨cl_laws_FnValidWeighed, [], 0, [], [], []⟩
def fin_laws_FnValidWeighed (code0 : List Int) (kk : AV → List A1 → Prop) : Kt := fin TT con_laws_FnValidWeighed Try.f3.results.toList [.c .sc] [.c (.ro .u8 code0)] kk
theorem g_laws_FnValidWeighed (code0 : List Int) (kk : AV → List A1 → Prop) :
    ev TT cs_laws_FnValidWeighed 53 an_laws_FnValidWeighed (Try.f3.body.getD .skip) (st0 con_laws_FnValidWeighed [.c (.ro .u8 code0)]) (fin TT con_laws_FnValidWeighed Try.f3.results.toList [.c .sc] [.c (.ro .u8 code0)] kk) = G_laws_FnValidWeighed code0 (fun r0 => kk (.one (.c (.v (.bool r0)))) []) := by kernel_rfl
theorem e_laws_FnValidWeighed (code0 : List Int) (kk : AV → List A1 → Prop) :
    ev TT cs_laws_FnValidWeighed 53 an_laws_FnValidWeighed (Try.f3.body.getD .skip) (st0 con_laws_FnValidWeighed [.c (.ro .u8 code0)]) (fin TT con_laws_FnValidWeighed Try.f3.results.toList [.c .sc] [.c (.ro .u8 code0)] kk) = S_laws_FnValidWeighed code0 (fun r0 => kk (.one (.c (.v (.bool r0)))) []) := by
  rw [g_laws_FnValidWeighed]
  rfl
theorem clok_laws_FnValidWeighed : ConOK Try.prog cl_laws_FnValidWeighed := consCons h_spec_DrawValidWeighed ⟨Try.f13, Try.func13, by kernel_rfl, ne_of_beq (by kernel_rfl)⟩ (consCons h_impl_ValidWeighed ⟨Try.f14, Try.func14, by kernel_rfl, ne_of_beq (by kernel_rfl)⟩ (consCons h_spec_ValidWeighed ⟨Try.f15, Try.func15, by kernel_rfl, ne_of_beq (by kernel_rfl)⟩ (consCons h_impl_FreeSpace ⟨Try.f16, Try.func16, by kernel_rfl, ne_of_beq (by kernel_rfl)⟩ (consNil))))
theorem cok_laws_FnValidWeighed : ConsOK Try.prog 53 cs_laws_FnValidWeighed := ⟨clok_laws_FnValidWeighed, inlNil, ovNil⟩
theorem i_laws_FnValidWeighed {vs : List A1} {kk : AV → List A1 → Prop} {motive : List A1 → Prop} (h : con_laws_FnValidWeighed.F vs kk) (H : ∀ (code0 : List Int), F_laws_FnValidWeighed code0 (fun r0 => kk (.one (.c (.v (.bool r0)))) []) → motive [.c (.ro .u8 code0)]) : motive vs := by
  unfold con_laws_FnValidWeighed at h
  dsimp only at h
  split at h
  · exact H _ h
  · exact h.elim
theorem h_laws_FnValidWeighed : Holds Try.prog 3 con_laws_FnValidWeighed := by
  refine holds_of_ev (rt := [.c .sc]) (T := TT) (Γ := cs_laws_FnValidWeighed) (an := an_laws_FnValidWeighed) (N := 53) (c := Try.f3.body.getD .skip) Try.func3 (by kernel_rfl) Try.ntmps3 (by decide) (by decide) mixed tabOK cok_laws_FnValidWeighed (by kernel_rfl) ?_
  intro vs kk _ hF
  exact i_laws_FnValidWeighed (motive := fun vs => Goes (ev TT cs_laws_FnValidWeighed 53 an_laws_FnValidWeighed (Try.f3.body.getD .skip) (st0 con_laws_FnValidWeighed vs) (fin TT con_laws_FnValidWeighed Try.f3.results.toList [.c .sc] vs kk))) hF (fun code0 hF => goes_of (e_laws_FnValidWeighed code0 kk) (F_laws_FnValidWeighed_S hF))
end Go.Ev
