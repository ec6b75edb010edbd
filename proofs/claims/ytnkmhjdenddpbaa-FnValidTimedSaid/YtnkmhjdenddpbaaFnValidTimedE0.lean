/- What the evaluator gives for these functions: their contracts. No statement is proved here. -/
import Derived.Test.YtnkmhjdenddpbaaFnValidTimedP0
import Derived.Test.YtnkmhjdenddpbaaTt
namespace Go.Ev
set_option linter.unusedVariables false
set_option maxRecDepth 100000
open Go Go.Proofs
def con_spec_newReader : Con := ⟨[.rd], true, [.c (.sl .u8)], fun vs k => match vs with
    | [.c (.ro .u8 code0)] => F_spec_newReader code0 (fun r0 r1 => k (.one (.agg [.ro .u8 r0, .v (.int .i64 r1)])) [])
    | _ => False, true⟩
def cl_spec_newReader : List (FuncId × Con) := []
def an_spec_newReader : Ann := ⟨[], [], []⟩
def cs_spec_newReader : Cons := ⟨cl_spec_newReader, [], 0, [], []⟩
def fin_spec_newReader (code0 : List Int) (kk : AV → List A1 → Prop) : Kt := finB Try.f46.results.toList [.sl .u8, .sc] kk
theorem g_spec_newReader (code0 : List Int) (kk : AV → List A1 → Prop) :
    ev TT cs_spec_newReader 11 an_spec_newReader (Try.f46.body.getD .skip) (st0 con_spec_newReader [.c (.ro .u8 code0)]) (finB Try.f46.results.toList [.sl .u8, .sc] kk) = G_spec_newReader code0 (fun r0 r1 => kk (.one (.agg [.ro .u8 r0, .v (.int .i64 r1)])) []) := by kernel_rfl
theorem e_spec_newReader (code0 : List Int) (kk : AV → List A1 → Prop) :
    ev TT cs_spec_newReader 11 an_spec_newReader (Try.f46.body.getD .skip) (st0 con_spec_newReader [.c (.ro .u8 code0)]) (finB Try.f46.results.toList [.sl .u8, .sc] kk) = S_spec_newReader code0 (fun r0 r1 => kk (.one (.agg [.ro .u8 r0, .v (.int .i64 r1)])) []) := by
  rw [g_spec_newReader]
  rfl
theorem clok_spec_newReader : ConOK Try.prog cl_spec_newReader := consNil
theorem cok_spec_newReader : ConsOK Try.prog 11 cs_spec_newReader := ⟨clok_spec_newReader, inlNil⟩
theorem i_spec_newReader {vs : List A1} {kk : AV → List A1 → Prop} {motive : List A1 → Prop} (h : con_spec_newReader.F vs kk) (H : ∀ (code0 : List Int), F_spec_newReader code0 (fun r0 r1 => kk (.one (.agg [.ro .u8 r0, .v (.int .i64 r1)])) []) → motive [.c (.ro .u8 code0)]) : motive vs := by
  unfold con_spec_newReader at h
  dsimp only at h
  split at h
  · exact H _ h
  · exact h.elim
theorem h_spec_newReader : HoldsB Try.prog 46 con_spec_newReader := by
  refine holdsB_of_ev (ts := [.sl .u8, .sc]) (T := TT) (Γ := cs_spec_newReader) (an := an_spec_newReader) (N := 11) (c := Try.f46.body.getD .skip) Try.func46 (by kernel_rfl) Try.ntmps46 (by decide) (by decide) mixed tabOK cok_spec_newReader (by kernel_rfl) ?_
  intro vs kk _ hF
  exact i_spec_newReader (motive := fun vs => Goes (ev TT cs_spec_newReader 11 an_spec_newReader (Try.f46.body.getD .skip) (st0 con_spec_newReader vs) (finB Try.f46.results.toList [.sl .u8, .sc] kk))) hF (fun code0 hF => goes_of (e_spec_newReader code0 kk) (F_spec_newReader_S hF))
def con_spec_reader_pick : Con := ⟨[.mu, .rd], true, [.ptr [.sl .u8, .sc], .c (.sc)], fun vs k => match vs with
    | [.ptr [.ro .u8 r0b, .v (.int .i64 r0p)], .c (.v (.int .i64 n1))] => F_spec_reader_pick r0b r0p n1 (fun r0 r1 r2 => k (.one (.c (.v (.int .i64 r0)))) [.ptr [.ro .u8 r1, .v (.int .i64 r2)]])
    | _ => False, false⟩
def cl_spec_reader_pick : List (FuncId × Con) := []
def an_spec_reader_pick : Ann := ⟨[(7, .take 0 (.take 1 (.take 2 (.take 3 (.take 4 (.take 5 (.take 6 (.take 7 (.take 8 (.take 9 (.take 10 (.take 11 (.take 12 (.take 13 (.take 14 (.take 15 (.take 16 (.take 17 (.take 18 (.take 19 (.take 20 (.take 21 (.take 22 (.take 23 (.take 24 (.take 25 (.take 26 (.take 27 (.take 28 (.take 29 (.take 30 (.take 31 (.take 32 (.take 33 (.take 34 (.take 35 (.take 36 (.take 37 (.take 38 (.take 39 (.take 40 (.take 41 (.take 42 (.take 43 (.take 44 (.take 45 (.done)))))))))))))))))))))))))))))))))))))))))))))), [100000])], [], []⟩
def cs_spec_reader_pick : Cons := ⟨cl_spec_reader_pick, [], 0, [], []⟩
def fin_spec_reader_pick (r0b : List Int) (r0p : Int) (n1 : Int) (kk : AV → List A1 → Prop) : Kt := fin TT con_spec_reader_pick Try.f80.results.toList [.c .sc] [.ptr [.ro .u8 r0b, .v (.int .i64 r0p)], .c (.v (.int .i64 n1))] kk
theorem g_spec_reader_pick (r0b : List Int) (r0p : Int) (n1 : Int) (kk : AV → List A1 → Prop) :
    ev TT cs_spec_reader_pick 99 an_spec_reader_pick (Try.f80.body.getD .skip) (st0 con_spec_reader_pick [.ptr [.ro .u8 r0b, .v (.int .i64 r0p)], .c (.v (.int .i64 n1))]) (fin TT con_spec_reader_pick Try.f80.results.toList [.c .sc] [.ptr [.ro .u8 r0b, .v (.int .i64 r0p)], .c (.v (.int .i64 n1))] kk) = G_spec_reader_pick r0b r0p n1 (fun r0 r1 r2 => kk (.one (.c (.v (.int .i64 r0)))) [.ptr [.ro .u8 r1, .v (.int .i64 r2)]]) := by kernel_rfl
theorem e_spec_reader_pick (r0b : List Int) (r0p : Int) (n1 : Int) (kk : AV → List A1 → Prop) :
    ev TT cs_spec_reader_pick 99 an_spec_reader_pick (Try.f80.body.getD .skip) (st0 con_spec_reader_pick [.ptr [.ro .u8 r0b, .v (.int .i64 r0p)], .c (.v (.int .i64 n1))]) (fin TT con_spec_reader_pick Try.f80.results.toList [.c .sc] [.ptr [.ro .u8 r0b, .v (.int .i64 r0p)], .c (.v (.int .i64 n1))] kk) = S_spec_reader_pick r0b r0p n1 (fun r0 r1 r2 => kk (.one (.c (.v (.int .i64 r0)))) [.ptr [.ro .u8 r1, .v (.int .i64 r2)]]) := by
  rw [g_spec_reader_pick]
  rfl
theorem clok_spec_reader_pick : ConOK Try.prog cl_spec_reader_pick := consNil
theorem cok_spec_reader_pick : ConsOK Try.prog 99 cs_spec_reader_pick := ⟨clok_spec_reader_pick, inlNil⟩
theorem i_spec_reader_pick {vs : List A1} {kk : AV → List A1 → Prop} {motive : List A1 → Prop} (h : con_spec_reader_pick.F vs kk) (H : ∀ (r0b : List Int) (r0p : Int) (n1 : Int), F_spec_reader_pick r0b r0p n1 (fun r0 r1 r2 => kk (.one (.c (.v (.int .i64 r0)))) [.ptr [.ro .u8 r1, .v (.int .i64 r2)]]) → motive [.ptr [.ro .u8 r0b, .v (.int .i64 r0p)], .c (.v (.int .i64 n1))]) : motive vs := by
  unfold con_spec_reader_pick at h
  dsimp only at h
  split at h
  · exact H _ _ _ h
  · exact h.elim
theorem h_spec_reader_pick : Holds Try.prog 80 con_spec_reader_pick := by
  refine holds_of_ev (rt := [.c .sc]) (T := TT) (Γ := cs_spec_reader_pick) (an := an_spec_reader_pick) (N := 99) (c := Try.f80.body.getD .skip) Try.func80 (by kernel_rfl) Try.ntmps80 (by decide) (by decide) mixed tabOK cok_spec_reader_pick (by kernel_rfl) ?_
  intro vs kk _ hF
  exact i_spec_reader_pick (motive := fun vs => Goes (ev TT cs_spec_reader_pick 99 an_spec_reader_pick (Try.f80.body.getD .skip) (st0 con_spec_reader_pick vs) (fin TT con_spec_reader_pick Try.f80.results.toList [.c .sc] vs kk))) hF (fun r0b r0p n1 hF => goes_of (e_spec_reader_pick r0b r0p n1 kk) (F_spec_reader_pick_S hF))
def con_spec_reader_one : Con := ⟨[.mu, .rd], true, [.ptr [.sl .u8, .sc], .c (.sl .int)], fun vs k => match vs with
    | [.ptr [.ro .u8 r0b, .v (.int .i64 r0p)], .c (.ro .int list1)] => F_spec_reader_one r0b r0p list1 (fun r0 r1 r2 => k (.one (.c (.v (.int .i64 r0)))) [.ptr [.ro .u8 r1, .v (.int .i64 r2)]])
    | _ => False, false⟩
def cl_spec_reader_one : List (FuncId × Con) := [(80, con_spec_reader_pick)]
def an_spec_reader_one : Ann := ⟨[], [], []⟩
def cs_spec_reader_one : Cons := ⟨cl_spec_reader_one, [], 0, [], []⟩
def fin_spec_reader_one (r0b : List Int) (r0p : Int) (list1 : List Int) (kk : AV → List A1 → Prop) : Kt := fin TT con_spec_reader_one Try.f76.results.toList [.c .sc] [.ptr [.ro .u8 r0b, .v (.int .i64 r0p)], .c (.ro .int list1)] kk
theorem g_spec_reader_one (r0b : List Int) (r0p : Int) (list1 : List Int) (kk : AV → List A1 → Prop) :
    ev TT cs_spec_reader_one 12 an_spec_reader_one (Try.f76.body.getD .skip) (st0 con_spec_reader_one [.ptr [.ro .u8 r0b, .v (.int .i64 r0p)], .c (.ro .int list1)]) (fin TT con_spec_reader_one Try.f76.results.toList [.c .sc] [.ptr [.ro .u8 r0b, .v (.int .i64 r0p)], .c (.ro .int list1)] kk) = G_spec_reader_one r0b r0p list1 (fun r0 r1 r2 => kk (.one (.c (.v (.int .i64 r0)))) [.ptr [.ro .u8 r1, .v (.int .i64 r2)]]) := by kernel_rfl
theorem e_spec_reader_one (r0b : List Int) (r0p : Int) (list1 : List Int) (kk : AV → List A1 → Prop) :
    ev TT cs_spec_reader_one 12 an_spec_reader_one (Try.f76.body.getD .skip) (st0 con_spec_reader_one [.ptr [.ro .u8 r0b, .v (.int .i64 r0p)], .c (.ro .int list1)]) (fin TT con_spec_reader_one Try.f76.results.toList [.c .sc] [.ptr [.ro .u8 r0b, .v (.int .i64 r0p)], .c (.ro .int list1)] kk) = S_spec_reader_one r0b r0p list1 (fun r0 r1 r2 => kk (.one (.c (.v (.int .i64 r0)))) [.ptr [.ro .u8 r1, .v (.int .i64 r2)]]) := by
  rw [g_spec_reader_one]
  rfl
theorem clok_spec_reader_one : ConOK Try.prog cl_spec_reader_one := consCons h_spec_reader_pick ⟨Try.f80, Try.func80, by kernel_rfl, ne_of_beq (by kernel_rfl)⟩ (consNil)
theorem cok_spec_reader_one : ConsOK Try.prog 12 cs_spec_reader_one := ⟨clok_spec_reader_one, inlNil⟩
theorem i_spec_reader_one {vs : List A1} {kk : AV → List A1 → Prop} {motive : List A1 → Prop} (h : con_spec_reader_one.F vs kk) (H : ∀ (r0b : List Int) (r0p : Int) (list1 : List Int), F_spec_reader_one r0b r0p list1 (fun r0 r1 r2 => kk (.one (.c (.v (.int .i64 r0)))) [.ptr [.ro .u8 r1, .v (.int .i64 r2)]]) → motive [.ptr [.ro .u8 r0b, .v (.int .i64 r0p)], .c (.ro .int list1)]) : motive vs := by
  unfold con_spec_reader_one at h
  dsimp only at h
  split at h
  · exact H _ _ _ h
  · exact h.elim
theorem h_spec_reader_one : Holds Try.prog 76 con_spec_reader_one := by
  refine holds_of_ev (rt := [.c .sc]) (T := TT) (Γ := cs_spec_reader_one) (an := an_spec_reader_one) (N := 12) (c := Try.f76.body.getD .skip) Try.func76 (by kernel_rfl) Try.ntmps76 (by decide) (by decide) mixed tabOK cok_spec_reader_one (by kernel_rfl) ?_
  intro vs kk _ hF
  exact i_spec_reader_one (motive := fun vs => Goes (ev TT cs_spec_reader_one 12 an_spec_reader_one (Try.f76.body.getD .skip) (st0 con_spec_reader_one vs) (fin TT con_spec_reader_one Try.f76.results.toList [.c .sc] vs kk))) hF (fun r0b r0p list1 hF => goes_of (e_spec_reader_one r0b r0p list1 kk) (F_spec_reader_one_S hF))
def con_spec_inRange : Con := ⟨[.rd, .rd, .rd], true, [.c (.sc), .c (.sc), .c (.sc)], fun vs k => match vs with
    | [.c (.v (.int .i64 n0)), .c (.v (.int .i64 low1)), .c (.v (.int .i64 high2))] => F_spec_inRange n0 low1 high2 (fun r0 => k (.one (.c (.v (.bool r0)))) [])
    | _ => False, false⟩
def cl_spec_inRange : List (FuncId × Con) := []
def an_spec_inRange : Ann := ⟨[], [], []⟩
def cs_spec_inRange : Cons := ⟨cl_spec_inRange, [], 0, [], []⟩
def fin_spec_inRange (n0 : Int) (low1 : Int) (high2 : Int) (kk : AV → List A1 → Prop) : Kt := fin TT con_spec_inRange Try.f59.results.toList [.c .sc] [.c (.v (.int .i64 n0)), .c (.v (.int .i64 low1)), .c (.v (.int .i64 high2))] kk
theorem g_spec_inRange (n0 : Int) (low1 : Int) (high2 : Int) (kk : AV → List A1 → Prop) :
    ev TT cs_spec_inRange 15 an_spec_inRange (Try.f59.body.getD .skip) (st0 con_spec_inRange [.c (.v (.int .i64 n0)), .c (.v (.int .i64 low1)), .c (.v (.int .i64 high2))]) (fin TT con_spec_inRange Try.f59.results.toList [.c .sc] [.c (.v (.int .i64 n0)), .c (.v (.int .i64 low1)), .c (.v (.int .i64 high2))] kk) = G_spec_inRange n0 low1 high2 (fun r0 => kk (.one (.c (.v (.bool r0)))) []) := by kernel_rfl
theorem e_spec_inRange (n0 : Int) (low1 : Int) (high2 : Int) (kk : AV → List A1 → Prop) :
    ev TT cs_spec_inRange 15 an_spec_inRange (Try.f59.body.getD .skip) (st0 con_spec_inRange [.c (.v (.int .i64 n0)), .c (.v (.int .i64 low1)), .c (.v (.int .i64 high2))]) (fin TT con_spec_inRange Try.f59.results.toList [.c .sc] [.c (.v (.int .i64 n0)), .c (.v (.int .i64 low1)), .c (.v (.int .i64 high2))] kk) = S_spec_inRange n0 low1 high2 (fun r0 => kk (.one (.c (.v (.bool r0)))) []) := by
  rw [g_spec_inRange]
  rfl
theorem clok_spec_inRange : ConOK Try.prog cl_spec_inRange := consNil
theorem cok_spec_inRange : ConsOK Try.prog 15 cs_spec_inRange := ⟨clok_spec_inRange, inlNil⟩
theorem i_spec_inRange {vs : List A1} {kk : AV → List A1 → Prop} {motive : List A1 → Prop} (h : con_spec_inRange.F vs kk) (H : ∀ (n0 : Int) (low1 : Int) (high2 : Int), F_spec_inRange n0 low1 high2 (fun r0 => kk (.one (.c (.v (.bool r0)))) []) → motive [.c (.v (.int .i64 n0)), .c (.v (.int .i64 low1)), .c (.v (.int .i64 high2))]) : motive vs := by
  unfold con_spec_inRange at h
  dsimp only at h
  split at h
  · exact H _ _ _ h
  · exact h.elim
theorem h_spec_inRange : Holds Try.prog 59 con_spec_inRange := by
  refine holds_of_ev (rt := [.c .sc]) (T := TT) (Γ := cs_spec_inRange) (an := an_spec_inRange) (N := 15) (c := Try.f59.body.getD .skip) Try.func59 (by kernel_rfl) Try.ntmps59 (by decide) (by decide) mixed tabOK cok_spec_inRange (by kernel_rfl) ?_
  intro vs kk _ hF
  exact i_spec_inRange (motive := fun vs => Goes (ev TT cs_spec_inRange 15 an_spec_inRange (Try.f59.body.getD .skip) (st0 con_spec_inRange vs) (fin TT con_spec_inRange Try.f59.results.toList [.c .sc] vs kk))) hF (fun n0 low1 high2 hF => goes_of (e_spec_inRange n0 low1 high2 kk) (F_spec_inRange_S hF))
def con_spec_validTimed : Con := ⟨[.rd], true, [.c (.sl .ii)], fun vs k => match vs with
    | [.c (.ro .ii list0)] => F_spec_validTimed list0 (fun r0 => k (.one (.c (.v (.bool r0)))) [])
    | _ => False, false⟩
def cl_spec_validTimed : List (FuncId × Con) := [(59, con_spec_inRange)]
def nm0_spec_validTimed : List NStep := [.keep [0, 3] []]
def an_spec_validTimed : Ann := ⟨[(4, .take 0 (.take 1 (.take 2 (.take 3 (.take 4 (.alt 5 (.take 6 (.take 7 (.take 8 (.take 9 (.take 10 (.take 11 (.take 12 (.alt 13 (.take 14 (.take 15 (.take 16 (.take 17 (.take 18 (.take 19 (.take 20 (.take 21 (.take 22 (.take 23 (.take 24 (.take 25 (.take 26 (.take 27 (.take 28 (.take 29 (.take 30 (.take 31 (.take 32 (.take 33 (.done))))))))))))))))))))) (.none))))))))) (.none)))))), [])], [(2, nm0_spec_validTimed)], []⟩
def cs_spec_validTimed : Cons := ⟨cl_spec_validTimed, [], 0, [], []⟩
def can0_spec_validTimed (list0 : List (Int × Int)) (xi3 : Int) : St := ⟨[(0, .one (.c (.ro .ii list0))), (3, .one (.c (.v (.int .i64 xi3))))], []⟩
def fin_spec_validTimed (list0 : List (Int × Int)) (kk : AV → List A1 → Prop) : Kt := fin TT con_spec_validTimed Try.f75.results.toList [.c .sc] [.c (.ro .ii list0)] kk
def kt0_spec_validTimed (kf : Kt) : Kt := blockK 0 (seqK (evF TT cs_spec_validTimed 47 an_spec_validTimed Try.f75 [1, 1]) (kf))
theorem r0_spec_validTimed (list0 : List (Int × Int)) (kk : AV → List A1 → Prop) (n : Nat) (xi3 : Int) :
    iter (evF TT cs_spec_validTimed 47 an_spec_validTimed Try.f75 [1, 0, 1, 0, 0]) nm0_spec_validTimed (kt0_spec_validTimed (fin_spec_validTimed list0 kk)) (n + 1) (can0_spec_validTimed list0 xi3) = T0_spec_validTimed list0 xi3 (fun r0 => kk (.one (.c (.v (.bool r0)))) []) (fun xi3 => iter (evF TT cs_spec_validTimed 47 an_spec_validTimed Try.f75 [1, 0, 1, 0, 0]) nm0_spec_validTimed (kt0_spec_validTimed (fin_spec_validTimed list0 kk)) n (can0_spec_validTimed list0 xi3)) := by kernel_rfl
theorem l0_spec_validTimed (list0 : List (Int × Int)) (kk : AV → List A1 → Prop) : ∀ (n : Nat) (xi3 : Int), iter (evF TT cs_spec_validTimed 47 an_spec_validTimed Try.f75 [1, 0, 1, 0, 0]) nm0_spec_validTimed (kt0_spec_validTimed (fin_spec_validTimed list0 kk)) n (can0_spec_validTimed list0 xi3) = L0_spec_validTimed list0 (fun r0 => kk (.one (.c (.v (.bool r0)))) []) n xi3 := by
  intro n
  induction n with
  | zero => intros; rfl
  | succ n ih =>
    intro xi3
    rw [r0_spec_validTimed list0 kk n xi3]
    have hb : (fun xi3 => iter (evF TT cs_spec_validTimed 47 an_spec_validTimed Try.f75 [1, 0, 1, 0, 0]) nm0_spec_validTimed (kt0_spec_validTimed (fin_spec_validTimed list0 kk)) n (can0_spec_validTimed list0 xi3)) = L0_spec_validTimed list0 (fun r0 => kk (.one (.c (.v (.bool r0)))) []) n := by
      funext xi3; exact ih xi3
    rw [hb]
    rw [T0_spec_validTimed_eq]
    rfl
theorem g_spec_validTimed (list0 : List (Int × Int)) (kk : AV → List A1 → Prop) :
    ev TT cs_spec_validTimed 47 an_spec_validTimed (Try.f75.body.getD .skip) (st0 con_spec_validTimed [.c (.ro .ii list0)]) (fin TT con_spec_validTimed Try.f75.results.toList [.c .sc] [.c (.ro .ii list0)] kk) = G_spec_validTimed list0 (fun list0 xi3 => ∃ j, iter (evF TT cs_spec_validTimed 47 an_spec_validTimed Try.f75 [1, 0, 1, 0, 0]) nm0_spec_validTimed (kt0_spec_validTimed (fin_spec_validTimed list0 kk)) j (can0_spec_validTimed list0 xi3)) := by kernel_rfl
theorem e_spec_validTimed (list0 : List (Int × Int)) (kk : AV → List A1 → Prop) :
    ev TT cs_spec_validTimed 47 an_spec_validTimed (Try.f75.body.getD .skip) (st0 con_spec_validTimed [.c (.ro .ii list0)]) (fin TT con_spec_validTimed Try.f75.results.toList [.c .sc] [.c (.ro .ii list0)] kk) = S_spec_validTimed list0 (fun r0 => kk (.one (.c (.v (.bool r0)))) []) := by
  rw [g_spec_validTimed]
  have hi0 : (fun list0 xi3 => ∃ j, iter (evF TT cs_spec_validTimed 47 an_spec_validTimed Try.f75 [1, 0, 1, 0, 0]) nm0_spec_validTimed (kt0_spec_validTimed (fin_spec_validTimed list0 kk)) j (can0_spec_validTimed list0 xi3)) = (fun list0 xi3 => ∃ j, L0_spec_validTimed list0 (fun r0 => kk (.one (.c (.v (.bool r0)))) []) j xi3) := by
    funext list0 xi3
    refine congrArg Exists (funext fun j => ?_)
    rw [l0_spec_validTimed list0 kk j xi3]
  rw [hi0]
  rfl
theorem clok_spec_validTimed : ConOK Try.prog cl_spec_validTimed := consCons h_spec_inRange ⟨Try.f59, Try.func59, by kernel_rfl, ne_of_beq (by kernel_rfl)⟩ (consNil)
theorem cok_spec_validTimed : ConsOK Try.prog 47 cs_spec_validTimed := ⟨clok_spec_validTimed, inlNil⟩
theorem i_spec_validTimed {vs : List A1} {kk : AV → List A1 → Prop} {motive : List A1 → Prop} (h : con_spec_validTimed.F vs kk) (H : ∀ (list0 : List (Int × Int)), F_spec_validTimed list0 (fun r0 => kk (.one (.c (.v (.bool r0)))) []) → motive [.c (.ro .ii list0)]) : motive vs := by
  unfold con_spec_validTimed at h
  dsimp only at h
  split at h
  · exact H _ h
  · exact h.elim
theorem h_spec_validTimed : Holds Try.prog 75 con_spec_validTimed := by
  refine holds_of_ev (rt := [.c .sc]) (T := TT) (Γ := cs_spec_validTimed) (an := an_spec_validTimed) (N := 47) (c := Try.f75.body.getD .skip) Try.func75 (by kernel_rfl) Try.ntmps75 (by decide) (by decide) mixed tabOK cok_spec_validTimed (by kernel_rfl) ?_
  intro vs kk _ hF
  exact i_spec_validTimed (motive := fun vs => Goes (ev TT cs_spec_validTimed 47 an_spec_validTimed (Try.f75.body.getD .skip) (st0 con_spec_validTimed vs) (fin TT con_spec_validTimed Try.f75.results.toList [.c .sc] vs kk))) hF (fun list0 hF => goes_of (e_spec_validTimed list0 kk) (F_spec_validTimed_S hF))
def con_spec_PutTimed : Con := ⟨[.rd, .rd, .rd], true, [.c (.sl .ii), .c (.sc), .c (.sc)], fun vs k => match vs with
    | [.c (.ro .ii list0), .c (.v (.int .i64 key1)), .c (.v (.int .i64 until2))] => F_spec_PutTimed list0 key1 until2 (fun r0 r1 => k (.tup [.c (.ro .ii r0), .c (.v (.bool r1))]) [])
    | _ => False, false⟩
def cl_spec_PutTimed : List (FuncId × Con) := [(59, con_spec_inRange), (75, con_spec_validTimed)]
def nm1_spec_PutTimed : List NStep := [.own 8 .ii 90100, .keep [0, 1, 8, 10] [90100]]
def nm0_spec_PutTimed : List NStep := [.own 8 .ii 90000, .keep [0, 1, 2, 8, 9] [90000]]
def an_spec_PutTimed : Ann := ⟨[], [(11, nm1_spec_PutTimed), (5, nm0_spec_PutTimed)], []⟩
def cs_spec_PutTimed : Cons := ⟨cl_spec_PutTimed, [], 0, [], []⟩
def can1_spec_PutTimed (key1 : Int) (list0 : List (Int × Int)) (xi10 : Int) (xout8' : List (Int × Int)) : St := ⟨[(0, .one (.c (.ro .ii list0))), (1, .one (.c (.v (.int .i64 key1)))), (8, .one (.c (.ow 90100))), (10, .one (.c (.v (.int .i64 xi10))))], [(90100, .row .ii xout8')]⟩
def can0_spec_PutTimed (key1 : Int) (list0 : List (Int × Int)) (until2 : Int) (xi9 : Int) (xout8 : List (Int × Int)) : St := ⟨[(0, .one (.c (.ro .ii list0))), (1, .one (.c (.v (.int .i64 key1)))), (2, .one (.c (.v (.int .i64 until2)))), (8, .one (.c (.ow 90000))), (9, .one (.c (.v (.int .i64 xi9))))], [(90000, .row .ii xout8)]⟩
def fin_spec_PutTimed (list0 : List (Int × Int)) (key1 : Int) (until2 : Int) (kk : AV → List A1 → Prop) : Kt := fin TT con_spec_PutTimed Try.f40.results.toList [.c (.sl .ii), .c .sc] [.c (.ro .ii list0), .c (.v (.int .i64 key1)), .c (.v (.int .i64 until2))] kk
def kt1_spec_PutTimed (kf : Kt) : Kt := blockK 2 (seqK (evF TT cs_spec_PutTimed 75 an_spec_PutTimed Try.f40 [1, 1, 1, 1, 1, 1]) (kf))
def kt0_spec_PutTimed (kf : Kt) : Kt := blockK 0 (seqK (evF TT cs_spec_PutTimed 75 an_spec_PutTimed Try.f40 [1, 1, 1, 1]) (kf))
theorem r1_spec_PutTimed (list0 : List (Int × Int)) (key1 : Int) (until2 : Int) (kk : AV → List A1 → Prop) (n : Nat) (xi10 : Int) (xout8' : List (Int × Int)) :
    iter (evF TT cs_spec_PutTimed 75 an_spec_PutTimed Try.f40 [1, 1, 1, 1, 1, 0, 1, 0, 0]) nm1_spec_PutTimed (kt1_spec_PutTimed (fin_spec_PutTimed list0 key1 until2 kk)) (n + 1) (can1_spec_PutTimed key1 list0 xi10 xout8') = T1_spec_PutTimed key1 list0 xi10 xout8' (fun r0 r1 => kk (.tup [.c (.ro .ii r0), .c (.v (.bool r1))]) []) (fun xi10 xout8' => iter (evF TT cs_spec_PutTimed 75 an_spec_PutTimed Try.f40 [1, 1, 1, 1, 1, 0, 1, 0, 0]) nm1_spec_PutTimed (kt1_spec_PutTimed (fin_spec_PutTimed list0 key1 until2 kk)) n (can1_spec_PutTimed key1 list0 xi10 xout8')) := by kernel_rfl
theorem l1_spec_PutTimed (list0 : List (Int × Int)) (key1 : Int) (until2 : Int) (kk : AV → List A1 → Prop) : ∀ (n : Nat) (xi10 : Int) (xout8' : List (Int × Int)), iter (evF TT cs_spec_PutTimed 75 an_spec_PutTimed Try.f40 [1, 1, 1, 1, 1, 0, 1, 0, 0]) nm1_spec_PutTimed (kt1_spec_PutTimed (fin_spec_PutTimed list0 key1 until2 kk)) n (can1_spec_PutTimed key1 list0 xi10 xout8') = L1_spec_PutTimed key1 list0 (fun r0 r1 => kk (.tup [.c (.ro .ii r0), .c (.v (.bool r1))]) []) n xi10 xout8' := by
  intro n
  induction n with
  | zero => intros; rfl
  | succ n ih =>
    intro xi10 xout8'
    rw [r1_spec_PutTimed list0 key1 until2 kk n xi10 xout8']
    have hb : (fun xi10 xout8' => iter (evF TT cs_spec_PutTimed 75 an_spec_PutTimed Try.f40 [1, 1, 1, 1, 1, 0, 1, 0, 0]) nm1_spec_PutTimed (kt1_spec_PutTimed (fin_spec_PutTimed list0 key1 until2 kk)) n (can1_spec_PutTimed key1 list0 xi10 xout8')) = L1_spec_PutTimed key1 list0 (fun r0 r1 => kk (.tup [.c (.ro .ii r0), .c (.v (.bool r1))]) []) n := by
      funext xi10 xout8'; exact ih xi10 xout8'
    rw [hb]
    rfl
theorem r0_spec_PutTimed (list0 : List (Int × Int)) (key1 : Int) (until2 : Int) (kk : AV → List A1 → Prop) (n : Nat) (xi9 : Int) (xout8 : List (Int × Int)) :
    iter (evF TT cs_spec_PutTimed 75 an_spec_PutTimed Try.f40 [1, 1, 1, 0, 1, 0, 0]) nm0_spec_PutTimed (kt0_spec_PutTimed (fin_spec_PutTimed list0 key1 until2 kk)) (n + 1) (can0_spec_PutTimed key1 list0 until2 xi9 xout8) = T0_spec_PutTimed key1 list0 until2 xi9 xout8 (fun xi9 xout8 => iter (evF TT cs_spec_PutTimed 75 an_spec_PutTimed Try.f40 [1, 1, 1, 0, 1, 0, 0]) nm0_spec_PutTimed (kt0_spec_PutTimed (fin_spec_PutTimed list0 key1 until2 kk)) n (can0_spec_PutTimed key1 list0 until2 xi9 xout8)) (fun key1 list0 xi10 xout8' => ∃ j, iter (evF TT cs_spec_PutTimed 75 an_spec_PutTimed Try.f40 [1, 1, 1, 1, 1, 0, 1, 0, 0]) nm1_spec_PutTimed (kt1_spec_PutTimed (fin_spec_PutTimed list0 key1 until2 kk)) j (can1_spec_PutTimed key1 list0 xi10 xout8')) := by kernel_rfl
theorem l0_spec_PutTimed (list0 : List (Int × Int)) (key1 : Int) (until2 : Int) (kk : AV → List A1 → Prop) : ∀ (n : Nat) (xi9 : Int) (xout8 : List (Int × Int)), iter (evF TT cs_spec_PutTimed 75 an_spec_PutTimed Try.f40 [1, 1, 1, 0, 1, 0, 0]) nm0_spec_PutTimed (kt0_spec_PutTimed (fin_spec_PutTimed list0 key1 until2 kk)) n (can0_spec_PutTimed key1 list0 until2 xi9 xout8) = L0_spec_PutTimed key1 list0 until2 (fun r0 r1 => kk (.tup [.c (.ro .ii r0), .c (.v (.bool r1))]) []) n xi9 xout8 := by
  intro n
  induction n generalizing list0 key1 until2 with
  | zero => intros; rfl
  | succ n ih =>
    intro xi9 xout8
    rw [r0_spec_PutTimed list0 key1 until2 kk n xi9 xout8]
    have hb : ∀ (list0 : List (Int × Int)) (key1 : Int) (until2 : Int), (fun xi9 xout8 => iter (evF TT cs_spec_PutTimed 75 an_spec_PutTimed Try.f40 [1, 1, 1, 0, 1, 0, 0]) nm0_spec_PutTimed (kt0_spec_PutTimed (fin_spec_PutTimed list0 key1 until2 kk)) n (can0_spec_PutTimed key1 list0 until2 xi9 xout8)) = L0_spec_PutTimed key1 list0 until2 (fun r0 r1 => kk (.tup [.c (.ro .ii r0), .c (.v (.bool r1))]) []) n := by
      intro list0 key1 until2
      funext xi9 xout8; exact ih list0 key1 until2 xi9 xout8
    have hi1 : (fun key1 list0 xi10 xout8' => ∃ j, iter (evF TT cs_spec_PutTimed 75 an_spec_PutTimed Try.f40 [1, 1, 1, 1, 1, 0, 1, 0, 0]) nm1_spec_PutTimed (kt1_spec_PutTimed (fin_spec_PutTimed list0 key1 until2 kk)) j (can1_spec_PutTimed key1 list0 xi10 xout8')) = (fun key1 list0 xi10 xout8' => ∃ j, L1_spec_PutTimed key1 list0 (fun r0 r1 => kk (.tup [.c (.ro .ii r0), .c (.v (.bool r1))]) []) j xi10 xout8') := by
      funext key1 list0 xi10 xout8'
      refine congrArg Exists (funext fun j => ?_)
      rw [l1_spec_PutTimed list0 key1 until2 kk j xi10 xout8']
    rw [hb, hi1]
    rfl
theorem g_spec_PutTimed (list0 : List (Int × Int)) (key1 : Int) (until2 : Int) (kk : AV → List A1 → Prop) :
    ev TT cs_spec_PutTimed 75 an_spec_PutTimed (Try.f40.body.getD .skip) (st0 con_spec_PutTimed [.c (.ro .ii list0), .c (.v (.int .i64 key1)), .c (.v (.int .i64 until2))]) (fin TT con_spec_PutTimed Try.f40.results.toList [.c (.sl .ii), .c .sc] [.c (.ro .ii list0), .c (.v (.int .i64 key1)), .c (.v (.int .i64 until2))] kk) = G_spec_PutTimed list0 key1 until2 (fun r0 r1 => kk (.tup [.c (.ro .ii r0), .c (.v (.bool r1))]) []) (fun key1 list0 until2 xi9 xout8 => ∃ j, iter (evF TT cs_spec_PutTimed 75 an_spec_PutTimed Try.f40 [1, 1, 1, 0, 1, 0, 0]) nm0_spec_PutTimed (kt0_spec_PutTimed (fin_spec_PutTimed list0 key1 until2 kk)) j (can0_spec_PutTimed key1 list0 until2 xi9 xout8)) := by kernel_rfl
theorem e_spec_PutTimed (list0 : List (Int × Int)) (key1 : Int) (until2 : Int) (kk : AV → List A1 → Prop) :
    ev TT cs_spec_PutTimed 75 an_spec_PutTimed (Try.f40.body.getD .skip) (st0 con_spec_PutTimed [.c (.ro .ii list0), .c (.v (.int .i64 key1)), .c (.v (.int .i64 until2))]) (fin TT con_spec_PutTimed Try.f40.results.toList [.c (.sl .ii), .c .sc] [.c (.ro .ii list0), .c (.v (.int .i64 key1)), .c (.v (.int .i64 until2))] kk) = S_spec_PutTimed list0 key1 until2 (fun r0 r1 => kk (.tup [.c (.ro .ii r0), .c (.v (.bool r1))]) []) := by
  rw [g_spec_PutTimed]
  have hi0 : (fun key1 list0 until2 xi9 xout8 => ∃ j, iter (evF TT cs_spec_PutTimed 75 an_spec_PutTimed Try.f40 [1, 1, 1, 0, 1, 0, 0]) nm0_spec_PutTimed (kt0_spec_PutTimed (fin_spec_PutTimed list0 key1 until2 kk)) j (can0_spec_PutTimed key1 list0 until2 xi9 xout8)) = (fun key1 list0 until2 xi9 xout8 => ∃ j, L0_spec_PutTimed key1 list0 until2 (fun r0 r1 => kk (.tup [.c (.ro .ii r0), .c (.v (.bool r1))]) []) j xi9 xout8) := by
    funext key1 list0 until2 xi9 xout8
    refine congrArg Exists (funext fun j => ?_)
    rw [l0_spec_PutTimed list0 key1 until2 kk j xi9 xout8]
  rw [hi0]
  rfl
theorem clok_spec_PutTimed : ConOK Try.prog cl_spec_PutTimed := consCons h_spec_inRange ⟨Try.f59, Try.func59, by kernel_rfl, ne_of_beq (by kernel_rfl)⟩ (consCons h_spec_validTimed ⟨Try.f75, Try.func75, by kernel_rfl, ne_of_beq (by kernel_rfl)⟩ (consNil))
theorem cok_spec_PutTimed : ConsOK Try.prog 75 cs_spec_PutTimed := ⟨clok_spec_PutTimed, inlNil⟩
theorem i_spec_PutTimed {vs : List A1} {kk : AV → List A1 → Prop} {motive : List A1 → Prop} (h : con_spec_PutTimed.F vs kk) (H : ∀ (list0 : List (Int × Int)) (key1 : Int) (until2 : Int), F_spec_PutTimed list0 key1 until2 (fun r0 r1 => kk (.tup [.c (.ro .ii r0), .c (.v (.bool r1))]) []) → motive [.c (.ro .ii list0), .c (.v (.int .i64 key1)), .c (.v (.int .i64 until2))]) : motive vs := by
  unfold con_spec_PutTimed at h
  dsimp only at h
  split at h
  · exact H _ _ _ h
  · exact h.elim
theorem h_spec_PutTimed : Holds Try.prog 40 con_spec_PutTimed := by
  refine holds_of_ev (rt := [.c (.sl .ii), .c .sc]) (T := TT) (Γ := cs_spec_PutTimed) (an := an_spec_PutTimed) (N := 75) (c := Try.f40.body.getD .skip) Try.func40 (by kernel_rfl) Try.ntmps40 (by decide) (by decide) mixed tabOK cok_spec_PutTimed (by kernel_rfl) ?_
  intro vs kk _ hF
  exact i_spec_PutTimed (motive := fun vs => Goes (ev TT cs_spec_PutTimed 75 an_spec_PutTimed (Try.f40.body.getD .skip) (st0 con_spec_PutTimed vs) (fin TT con_spec_PutTimed Try.f40.results.toList [.c (.sl .ii), .c .sc] vs kk))) hF (fun list0 key1 until2 hF => goes_of (e_spec_PutTimed list0 key1 until2 kk) (F_spec_PutTimed_S hF))
def con_spec_someTimed : Con := ⟨[.mu], true, [.ptr [.sl .u8, .sc]], fun vs k => match vs with
    | [.ptr [.ro .u8 r0b, .v (.int .i64 r0p)]] => F_spec_someTimed r0b r0p (fun r0 r1 r2 => k (.one (.c (.ro .ii r0))) [.ptr [.ro .u8 r1, .v (.int .i64 r2)]])
    | _ => False, false⟩
def cl_spec_someTimed : List (FuncId × Con) := [(40, con_spec_PutTimed), (76, con_spec_reader_one), (80, con_spec_reader_pick)]
def nm0_spec_someTimed : List NStep := [.own 3 .ii 90000, .keep [0, 3, 4] [100000, 90000]]
def an_spec_someTimed : Ann := ⟨[], [(3, nm0_spec_someTimed)], []⟩
def cs_spec_someTimed : Cons := ⟨cl_spec_someTimed, [], 0, [], []⟩
def can0_spec_someTimed (xn4 : Int) (xb100000c0 : List Int) (xb100000c1 : Int) (xout3 : List (Int × Int)) : St := ⟨[(0, .one (.c (.pb 100000 0))), (3, .one (.c (.ow 90000))), (4, .one (.c (.v (.int .i64 xn4))))], [(100000, .box [.ro .u8 xb100000c0, .v (.int .i64 xb100000c1)]), (90000, .row .ii xout3)]⟩
def fin_spec_someTimed (r0b : List Int) (r0p : Int) (kk : AV → List A1 → Prop) : Kt := fin TT con_spec_someTimed Try.f97.results.toList [.c (.sl .ii)] [.ptr [.ro .u8 r0b, .v (.int .i64 r0p)]] kk
def kt0_spec_someTimed (kf : Kt) : Kt := blockK 0 (seqK (evF TT cs_spec_someTimed 31 an_spec_someTimed Try.f97 [1, 1, 1]) (kf))
theorem r0_spec_someTimed (r0b : List Int) (r0p : Int) (kk : AV → List A1 → Prop) (n : Nat) (xn4 : Int) (xb100000c0 : List Int) (xb100000c1 : Int) (xout3 : List (Int × Int)) :
    iter (evF TT cs_spec_someTimed 31 an_spec_someTimed Try.f97 [1, 1, 0, 1, 0, 0]) nm0_spec_someTimed (kt0_spec_someTimed (fin_spec_someTimed r0b r0p kk)) (n + 1) (can0_spec_someTimed xn4 xb100000c0 xb100000c1 xout3) = T0_spec_someTimed xn4 xb100000c0 xb100000c1 xout3 (fun r0 r1 r2 => kk (.one (.c (.ro .ii r0))) [.ptr [.ro .u8 r1, .v (.int .i64 r2)]]) (fun xn4 xb100000c0 xb100000c1 xout3 => iter (evF TT cs_spec_someTimed 31 an_spec_someTimed Try.f97 [1, 1, 0, 1, 0, 0]) nm0_spec_someTimed (kt0_spec_someTimed (fin_spec_someTimed r0b r0p kk)) n (can0_spec_someTimed xn4 xb100000c0 xb100000c1 xout3)) := by kernel_rfl
theorem l0_spec_someTimed (r0b : List Int) (r0p : Int) (kk : AV → List A1 → Prop) : ∀ (n : Nat) (xn4 : Int) (xb100000c0 : List Int) (xb100000c1 : Int) (xout3 : List (Int × Int)), iter (evF TT cs_spec_someTimed 31 an_spec_someTimed Try.f97 [1, 1, 0, 1, 0, 0]) nm0_spec_someTimed (kt0_spec_someTimed (fin_spec_someTimed r0b r0p kk)) n (can0_spec_someTimed xn4 xb100000c0 xb100000c1 xout3) = L0_spec_someTimed (fun r0 r1 r2 => kk (.one (.c (.ro .ii r0))) [.ptr [.ro .u8 r1, .v (.int .i64 r2)]]) n xn4 xb100000c0 xb100000c1 xout3 := by
  intro n
  induction n with
  | zero => intros; rfl
  | succ n ih =>
    intro xn4 xb100000c0 xb100000c1 xout3
    rw [r0_spec_someTimed r0b r0p kk n xn4 xb100000c0 xb100000c1 xout3]
    have hb : (fun xn4 xb100000c0 xb100000c1 xout3 => iter (evF TT cs_spec_someTimed 31 an_spec_someTimed Try.f97 [1, 1, 0, 1, 0, 0]) nm0_spec_someTimed (kt0_spec_someTimed (fin_spec_someTimed r0b r0p kk)) n (can0_spec_someTimed xn4 xb100000c0 xb100000c1 xout3)) = L0_spec_someTimed (fun r0 r1 r2 => kk (.one (.c (.ro .ii r0))) [.ptr [.ro .u8 r1, .v (.int .i64 r2)]]) n := by
      funext xn4 xb100000c0 xb100000c1 xout3; exact ih xn4 xb100000c0 xb100000c1 xout3
    rw [hb]
    rfl
theorem g_spec_someTimed (r0b : List Int) (r0p : Int) (kk : AV → List A1 → Prop) :
    ev TT cs_spec_someTimed 31 an_spec_someTimed (Try.f97.body.getD .skip) (st0 con_spec_someTimed [.ptr [.ro .u8 r0b, .v (.int .i64 r0p)]]) (fin TT con_spec_someTimed Try.f97.results.toList [.c (.sl .ii)] [.ptr [.ro .u8 r0b, .v (.int .i64 r0p)]] kk) = G_spec_someTimed r0b r0p (fun xn4 xb100000c0 xb100000c1 xout3 => ∃ j, iter (evF TT cs_spec_someTimed 31 an_spec_someTimed Try.f97 [1, 1, 0, 1, 0, 0]) nm0_spec_someTimed (kt0_spec_someTimed (fin_spec_someTimed r0b r0p kk)) j (can0_spec_someTimed xn4 xb100000c0 xb100000c1 xout3)) := by kernel_rfl
theorem e_spec_someTimed (r0b : List Int) (r0p : Int) (kk : AV → List A1 → Prop) :
    ev TT cs_spec_someTimed 31 an_spec_someTimed (Try.f97.body.getD .skip) (st0 con_spec_someTimed [.ptr [.ro .u8 r0b, .v (.int .i64 r0p)]]) (fin TT con_spec_someTimed Try.f97.results.toList [.c (.sl .ii)] [.ptr [.ro .u8 r0b, .v (.int .i64 r0p)]] kk) = S_spec_someTimed r0b r0p (fun r0 r1 r2 => kk (.one (.c (.ro .ii r0))) [.ptr [.ro .u8 r1, .v (.int .i64 r2)]]) := by
  rw [g_spec_someTimed]
  have hi0 : (fun xn4 xb100000c0 xb100000c1 xout3 => ∃ j, iter (evF TT cs_spec_someTimed 31 an_spec_someTimed Try.f97 [1, 1, 0, 1, 0, 0]) nm0_spec_someTimed (kt0_spec_someTimed (fin_spec_someTimed r0b r0p kk)) j (can0_spec_someTimed xn4 xb100000c0 xb100000c1 xout3)) = (fun xn4 xb100000c0 xb100000c1 xout3 => ∃ j, L0_spec_someTimed (fun r0 r1 r2 => kk (.one (.c (.ro .ii r0))) [.ptr [.ro .u8 r1, .v (.int .i64 r2)]]) j xn4 xb100000c0 xb100000c1 xout3) := by
    funext xn4 xb100000c0 xb100000c1 xout3
    refine congrArg Exists (funext fun j => ?_)
    rw [l0_spec_someTimed r0b r0p kk j xn4 xb100000c0 xb100000c1 xout3]
  rw [hi0]
  rfl
theorem clok_spec_someTimed : ConOK Try.prog cl_spec_someTimed := consCons h_spec_PutTimed ⟨Try.f40, Try.func40, by kernel_rfl, ne_of_beq (by kernel_rfl)⟩ (consCons h_spec_reader_one ⟨Try.f76, Try.func76, by kernel_rfl, ne_of_beq (by kernel_rfl)⟩ (consCons h_spec_reader_pick ⟨Try.f80, Try.func80, by kernel_rfl, ne_of_beq (by kernel_rfl)⟩ (consNil)))
theorem cok_spec_someTimed : ConsOK Try.prog 31 cs_spec_someTimed := ⟨clok_spec_someTimed, inlNil⟩
theorem i_spec_someTimed {vs : List A1} {kk : AV → List A1 → Prop} {motive : List A1 → Prop} (h : con_spec_someTimed.F vs kk) (H : ∀ (r0b : List Int) (r0p : Int), F_spec_someTimed r0b r0p (fun r0 r1 r2 => kk (.one (.c (.ro .ii r0))) [.ptr [.ro .u8 r1, .v (.int .i64 r2)]]) → motive [.ptr [.ro .u8 r0b, .v (.int .i64 r0p)]]) : motive vs := by
  unfold con_spec_someTimed at h
  dsimp only at h
  split at h
  · exact H _ _ h
  · exact h.elim
theorem h_spec_someTimed : Holds Try.prog 97 con_spec_someTimed := by
  refine holds_of_ev (rt := [.c (.sl .ii)]) (T := TT) (Γ := cs_spec_someTimed) (an := an_spec_someTimed) (N := 31) (c := Try.f97.body.getD .skip) Try.func97 (by kernel_rfl) Try.ntmps97 (by decide) (by decide) mixed tabOK cok_spec_someTimed (by kernel_rfl) ?_
  intro vs kk _ hF
  exact i_spec_someTimed (motive := fun vs => Goes (ev TT cs_spec_someTimed 31 an_spec_someTimed (Try.f97.body.getD .skip) (st0 con_spec_someTimed vs) (fin TT con_spec_someTimed Try.f97.results.toList [.c (.sl .ii)] vs kk))) hF (fun r0b r0p hF => goes_of (e_spec_someTimed r0b r0p kk) (F_spec_someTimed_S hF))
def con_spec_anyTimed : Con := ⟨[.mu], true, [.ptr [.sl .u8, .sc]], fun vs k => match vs with
    | [.ptr [.ro .u8 r0b, .v (.int .i64 r0p)]] => F_spec_anyTimed r0b r0p (fun r0 r1 r2 => k (.one (.c (.ro .ii r0))) [.ptr [.ro .u8 r1, .v (.int .i64 r2)]])
    | _ => False, false⟩
def cl_spec_anyTimed : List (FuncId × Con) := [(76, con_spec_reader_one), (80, con_spec_reader_pick), (97, con_spec_someTimed)]
def an_spec_anyTimed : Ann := ⟨[], [], []⟩
def cs_spec_anyTimed : Cons := ⟨cl_spec_anyTimed, [], 0, [], []⟩
def fin_spec_anyTimed (r0b : List Int) (r0p : Int) (kk : AV → List A1 → Prop) : Kt := fin TT con_spec_anyTimed Try.f73.results.toList [.c (.sl .ii)] [.ptr [.ro .u8 r0b, .v (.int .i64 r0p)]] kk
theorem g_spec_anyTimed (r0b : List Int) (r0p : Int) (kk : AV → List A1 → Prop) :
    ev TT cs_spec_anyTimed 20 an_spec_anyTimed (Try.f73.body.getD .skip) (st0 con_spec_anyTimed [.ptr [.ro .u8 r0b, .v (.int .i64 r0p)]]) (fin TT con_spec_anyTimed Try.f73.results.toList [.c (.sl .ii)] [.ptr [.ro .u8 r0b, .v (.int .i64 r0p)]] kk) = G_spec_anyTimed r0b r0p (fun r0 r1 r2 => kk (.one (.c (.ro .ii r0))) [.ptr [.ro .u8 r1, .v (.int .i64 r2)]]) := by kernel_rfl
theorem e_spec_anyTimed (r0b : List Int) (r0p : Int) (kk : AV → List A1 → Prop) :
    ev TT cs_spec_anyTimed 20 an_spec_anyTimed (Try.f73.body.getD .skip) (st0 con_spec_anyTimed [.ptr [.ro .u8 r0b, .v (.int .i64 r0p)]]) (fin TT con_spec_anyTimed Try.f73.results.toList [.c (.sl .ii)] [.ptr [.ro .u8 r0b, .v (.int .i64 r0p)]] kk) = S_spec_anyTimed r0b r0p (fun r0 r1 r2 => kk (.one (.c (.ro .ii r0))) [.ptr [.ro .u8 r1, .v (.int .i64 r2)]]) := by
  rw [g_spec_anyTimed]
  rfl
theorem clok_spec_anyTimed : ConOK Try.prog cl_spec_anyTimed := consCons h_spec_reader_one ⟨Try.f76, Try.func76, by kernel_rfl, ne_of_beq (by kernel_rfl)⟩ (consCons h_spec_reader_pick ⟨Try.f80, Try.func80, by kernel_rfl, ne_of_beq (by kernel_rfl)⟩ (consCons h_spec_someTimed ⟨Try.f97, Try.func97, by kernel_rfl, ne_of_beq (by kernel_rfl)⟩ (consNil)))
theorem cok_spec_anyTimed : ConsOK Try.prog 20 cs_spec_anyTimed := ⟨clok_spec_anyTimed, inlNil⟩
theorem i_spec_anyTimed {vs : List A1} {kk : AV → List A1 → Prop} {motive : List A1 → Prop} (h : con_spec_anyTimed.F vs kk) (H : ∀ (r0b : List Int) (r0p : Int), F_spec_anyTimed r0b r0p (fun r0 r1 r2 => kk (.one (.c (.ro .ii r0))) [.ptr [.ro .u8 r1, .v (.int .i64 r2)]]) → motive [.ptr [.ro .u8 r0b, .v (.int .i64 r0p)]]) : motive vs := by
  unfold con_spec_anyTimed at h
  dsimp only at h
  split at h
  · exact H _ _ h
  · exact h.elim
theorem h_spec_anyTimed : Holds Try.prog 73 con_spec_anyTimed := by
  refine holds_of_ev (rt := [.c (.sl .ii)]) (T := TT) (Γ := cs_spec_anyTimed) (an := an_spec_anyTimed) (N := 20) (c := Try.f73.body.getD .skip) Try.func73 (by kernel_rfl) Try.ntmps73 (by decide) (by decide) mixed tabOK cok_spec_anyTimed (by kernel_rfl) ?_
  intro vs kk _ hF
  exact i_spec_anyTimed (motive := fun vs => Goes (ev TT cs_spec_anyTimed 20 an_spec_anyTimed (Try.f73.body.getD .skip) (st0 con_spec_anyTimed vs) (fin TT con_spec_anyTimed Try.f73.results.toList [.c (.sl .ii)] vs kk))) hF (fun r0b r0p hF => goes_of (e_spec_anyTimed r0b r0p kk) (F_spec_anyTimed_S hF))
def con_spec_DrawValidTimed : Con := ⟨[.rd], true, [.c (.sl .u8)], fun vs k => match vs with
    | [.c (.ro .u8 code0)] => F_spec_DrawValidTimed code0 (fun r0 => k (.one (.c (.ro .ii r0))) [])
    | _ => False, false⟩
def cl_spec_DrawValidTimed : List (FuncId × Con) := [(46, con_spec_newReader), (73, con_spec_anyTimed)]
def an_spec_DrawValidTimed : Ann := ⟨[], [], []⟩
def cs_spec_DrawValidTimed : Cons := ⟨cl_spec_DrawValidTimed, [], 0, [], []⟩
def fin_spec_DrawValidTimed (code0 : List Int) (kk : AV → List A1 → Prop) : Kt := fin TT con_spec_DrawValidTimed Try.f35.results.toList [.c (.sl .ii)] [.c (.ro .u8 code0)] kk
theorem g_spec_DrawValidTimed (code0 : List Int) (kk : AV → List A1 → Prop) :
    ev TT cs_spec_DrawValidTimed 6 an_spec_DrawValidTimed (Try.f35.body.getD .skip) (st0 con_spec_DrawValidTimed [.c (.ro .u8 code0)]) (fin TT con_spec_DrawValidTimed Try.f35.results.toList [.c (.sl .ii)] [.c (.ro .u8 code0)] kk) = G_spec_DrawValidTimed code0 (fun r0 => kk (.one (.c (.ro .ii r0))) []) := by kernel_rfl
theorem e_spec_DrawValidTimed (code0 : List Int) (kk : AV → List A1 → Prop) :
    ev TT cs_spec_DrawValidTimed 6 an_spec_DrawValidTimed (Try.f35.body.getD .skip) (st0 con_spec_DrawValidTimed [.c (.ro .u8 code0)]) (fin TT con_spec_DrawValidTimed Try.f35.results.toList [.c (.sl .ii)] [.c (.ro .u8 code0)] kk) = S_spec_DrawValidTimed code0 (fun r0 => kk (.one (.c (.ro .ii r0))) []) := by
  rw [g_spec_DrawValidTimed]
  rfl
theorem clok_spec_DrawValidTimed : ConOK Try.prog cl_spec_DrawValidTimed := consCons h_spec_newReader ⟨Try.f46, Try.func46, by kernel_rfl, ne_of_beq (by kernel_rfl)⟩ (consCons h_spec_anyTimed ⟨Try.f73, Try.func73, by kernel_rfl, ne_of_beq (by kernel_rfl)⟩ (consNil))
theorem cok_spec_DrawValidTimed : ConsOK Try.prog 6 cs_spec_DrawValidTimed := ⟨clok_spec_DrawValidTimed, inlNil⟩
theorem i_spec_DrawValidTimed {vs : List A1} {kk : AV → List A1 → Prop} {motive : List A1 → Prop} (h : con_spec_DrawValidTimed.F vs kk) (H : ∀ (code0 : List Int), F_spec_DrawValidTimed code0 (fun r0 => kk (.one (.c (.ro .ii r0))) []) → motive [.c (.ro .u8 code0)]) : motive vs := by
  unfold con_spec_DrawValidTimed at h
  dsimp only at h
  split at h
  · exact H _ h
  · exact h.elim
theorem h_spec_DrawValidTimed : Holds Try.prog 35 con_spec_DrawValidTimed := by
  refine holds_of_ev (rt := [.c (.sl .ii)]) (T := TT) (Γ := cs_spec_DrawValidTimed) (an := an_spec_DrawValidTimed) (N := 6) (c := Try.f35.body.getD .skip) Try.func35 (by kernel_rfl) Try.ntmps35 (by decide) (by decide) mixed tabOK cok_spec_DrawValidTimed (by kernel_rfl) ?_
  intro vs kk _ hF
  exact i_spec_DrawValidTimed (motive := fun vs => Goes (ev TT cs_spec_DrawValidTimed 6 an_spec_DrawValidTimed (Try.f35.body.getD .skip) (st0 con_spec_DrawValidTimed vs) (fin TT con_spec_DrawValidTimed Try.f35.results.toList [.c (.sl .ii)] vs kk))) hF (fun code0 hF => goes_of (e_spec_DrawValidTimed code0 kk) (F_spec_DrawValidTimed_S hF))
def con_impl_validKey : Con := ⟨[.rd], true, [.c (.sc)], fun vs k => match vs with
    | [.c (.v (.int .i64 key0))] => F_impl_validKey key0 (fun r0 => k (.one (.c (.v (.bool r0)))) [])
    | _ => False, false⟩
def cl_impl_validKey : List (FuncId × Con) := []
def an_impl_validKey : Ann := ⟨[], [], []⟩
def cs_impl_validKey : Cons := ⟨cl_impl_validKey, [], 0, [], []⟩
def fin_impl_validKey (key0 : Int) (kk : AV → List A1 → Prop) : Kt := fin TT con_impl_validKey Try.f53.results.toList [.c .sc] [.c (.v (.int .i64 key0))] kk
theorem g_impl_validKey (key0 : Int) (kk : AV → List A1 → Prop) :
    ev TT cs_impl_validKey 9 an_impl_validKey (Try.f53.body.getD .skip) (st0 con_impl_validKey [.c (.v (.int .i64 key0))]) (fin TT con_impl_validKey Try.f53.results.toList [.c .sc] [.c (.v (.int .i64 key0))] kk) = G_impl_validKey key0 (fun r0 => kk (.one (.c (.v (.bool r0)))) []) := by kernel_rfl
theorem e_impl_validKey (key0 : Int) (kk : AV → List A1 → Prop) :
    ev TT cs_impl_validKey 9 an_impl_validKey (Try.f53.body.getD .skip) (st0 con_impl_validKey [.c (.v (.int .i64 key0))]) (fin TT con_impl_validKey Try.f53.results.toList [.c .sc] [.c (.v (.int .i64 key0))] kk) = S_impl_validKey key0 (fun r0 => kk (.one (.c (.v (.bool r0)))) []) := by
  rw [g_impl_validKey]
  rfl
theorem clok_impl_validKey : ConOK Try.prog cl_impl_validKey := consNil
theorem cok_impl_validKey : ConsOK Try.prog 9 cs_impl_validKey := ⟨clok_impl_validKey, inlNil⟩
theorem i_impl_validKey {vs : List A1} {kk : AV → List A1 → Prop} {motive : List A1 → Prop} (h : con_impl_validKey.F vs kk) (H : ∀ (key0 : Int), F_impl_validKey key0 (fun r0 => kk (.one (.c (.v (.bool r0)))) []) → motive [.c (.v (.int .i64 key0))]) : motive vs := by
  unfold con_impl_validKey at h
  dsimp only at h
  split at h
  · exact H _ h
  · exact h.elim
theorem h_impl_validKey : Holds Try.prog 53 con_impl_validKey := by
  refine holds_of_ev (rt := [.c .sc]) (T := TT) (Γ := cs_impl_validKey) (an := an_impl_validKey) (N := 9) (c := Try.f53.body.getD .skip) Try.func53 (by kernel_rfl) Try.ntmps53 (by decide) (by decide) mixed tabOK cok_impl_validKey (by kernel_rfl) ?_
  intro vs kk _ hF
  exact i_impl_validKey (motive := fun vs => Goes (ev TT cs_impl_validKey 9 an_impl_validKey (Try.f53.body.getD .skip) (st0 con_impl_validKey vs) (fin TT con_impl_validKey Try.f53.results.toList [.c .sc] vs kk))) hF (fun key0 hF => goes_of (e_impl_validKey key0 kk) (F_impl_validKey_S hF))
def con_impl_validTime : Con := ⟨[.rd], true, [.c (.sc)], fun vs k => match vs with
    | [.c (.v (.int .i64 time0))] => F_impl_validTime time0 (fun r0 => k (.one (.c (.v (.bool r0)))) [])
    | _ => False, false⟩
def cl_impl_validTime : List (FuncId × Con) := []
def an_impl_validTime : Ann := ⟨[], [], []⟩
def cs_impl_validTime : Cons := ⟨cl_impl_validTime, [], 0, [], []⟩
def fin_impl_validTime (time0 : Int) (kk : AV → List A1 → Prop) : Kt := fin TT con_impl_validTime Try.f74.results.toList [.c .sc] [.c (.v (.int .i64 time0))] kk
theorem g_impl_validTime (time0 : Int) (kk : AV → List A1 → Prop) :
    ev TT cs_impl_validTime 9 an_impl_validTime (Try.f74.body.getD .skip) (st0 con_impl_validTime [.c (.v (.int .i64 time0))]) (fin TT con_impl_validTime Try.f74.results.toList [.c .sc] [.c (.v (.int .i64 time0))] kk) = G_impl_validTime time0 (fun r0 => kk (.one (.c (.v (.bool r0)))) []) := by kernel_rfl
theorem e_impl_validTime (time0 : Int) (kk : AV → List A1 → Prop) :
    ev TT cs_impl_validTime 9 an_impl_validTime (Try.f74.body.getD .skip) (st0 con_impl_validTime [.c (.v (.int .i64 time0))]) (fin TT con_impl_validTime Try.f74.results.toList [.c .sc] [.c (.v (.int .i64 time0))] kk) = S_impl_validTime time0 (fun r0 => kk (.one (.c (.v (.bool r0)))) []) := by
  rw [g_impl_validTime]
  rfl
theorem clok_impl_validTime : ConOK Try.prog cl_impl_validTime := consNil
theorem cok_impl_validTime : ConsOK Try.prog 9 cs_impl_validTime := ⟨clok_impl_validTime, inlNil⟩
theorem i_impl_validTime {vs : List A1} {kk : AV → List A1 → Prop} {motive : List A1 → Prop} (h : con_impl_validTime.F vs kk) (H : ∀ (time0 : Int), F_impl_validTime time0 (fun r0 => kk (.one (.c (.v (.bool r0)))) []) → motive [.c (.v (.int .i64 time0))]) : motive vs := by
  unfold con_impl_validTime at h
  dsimp only at h
  split at h
  · exact H _ h
  · exact h.elim
theorem h_impl_validTime : Holds Try.prog 74 con_impl_validTime := by
  refine holds_of_ev (rt := [.c .sc]) (T := TT) (Γ := cs_impl_validTime) (an := an_impl_validTime) (N := 9) (c := Try.f74.body.getD .skip) Try.func74 (by kernel_rfl) Try.ntmps74 (by decide) (by decide) mixed tabOK cok_impl_validTime (by kernel_rfl) ?_
  intro vs kk _ hF
  exact i_impl_validTime (motive := fun vs => Goes (ev TT cs_impl_validTime 9 an_impl_validTime (Try.f74.body.getD .skip) (st0 con_impl_validTime vs) (fin TT con_impl_validTime Try.f74.results.toList [.c .sc] vs kk))) hF (fun time0 hF => goes_of (e_impl_validTime time0 kk) (F_impl_validTime_S hF))
def con_impl_ValidTimed : Con := ⟨[.rd], true, [.c (.sl .ii)], fun vs k => match vs with
    | [.c (.ro .ii list0)] => F_impl_ValidTimed list0 (fun r0 => k (.one (.c (.v (.bool r0)))) [])
    | _ => False, false⟩
def cl_impl_ValidTimed : List (FuncId × Con) := [(53, con_impl_validKey), (74, con_impl_validTime)]
def nm0_impl_ValidTimed : List NStep := [.keep [0, 8, 9, 10] []]
def an_impl_ValidTimed : Ann := ⟨[(8, .take 0 (.take 1 (.take 2 (.take 3 (.take 4 (.take 5 (.take 6 (.take 7 (.take 8 (.take 9 (.take 10 (.take 11 (.take 12 (.done))))))))))))), [64])], [(4, nm0_impl_ValidTimed)], []⟩
def cs_impl_ValidTimed : Cons := ⟨cl_impl_ValidTimed, [], 0, [], []⟩
def can0_impl_ValidTimed (list0 : List (Int × Int)) (xt9 : Int) (xt10 : Int) : St := ⟨[(0, .one (.c (.ro .ii list0))), (8, .one (.c (.ro .ii list0))), (9, .one (.c (.v (.int .i64 xt9)))), (10, .one (.c (.v (.int .i64 xt10))))], []⟩
def fin_impl_ValidTimed (list0 : List (Int × Int)) (kk : AV → List A1 → Prop) : Kt := fin TT con_impl_ValidTimed Try.f36.results.toList [.c .sc] [.c (.ro .ii list0)] kk
def kt0_impl_ValidTimed (kf : Kt) : Kt := blockK 0 (seqK (evF TT cs_impl_ValidTimed 39 an_impl_ValidTimed Try.f36 [1, 1, 1]) (kf))
theorem r0_impl_ValidTimed (list0 : List (Int × Int)) (xt9 : Int) (kk : AV → List A1 → Prop) (n : Nat) (xt10 : Int) :
    iter (evF TT cs_impl_ValidTimed 39 an_impl_ValidTimed Try.f36 [1, 1, 0, 1, 0, 0]) nm0_impl_ValidTimed (kt0_impl_ValidTimed (fin_impl_ValidTimed list0 kk)) (n + 1) (can0_impl_ValidTimed list0 xt9 xt10) = T0_impl_ValidTimed list0 xt9 xt10 (fun r0 => kk (.one (.c (.v (.bool r0)))) []) (fun xt10 => iter (evF TT cs_impl_ValidTimed 39 an_impl_ValidTimed Try.f36 [1, 1, 0, 1, 0, 0]) nm0_impl_ValidTimed (kt0_impl_ValidTimed (fin_impl_ValidTimed list0 kk)) n (can0_impl_ValidTimed list0 xt9 xt10)) := by kernel_rfl
theorem l0_impl_ValidTimed (list0 : List (Int × Int)) (xt9 : Int) (kk : AV → List A1 → Prop) : ∀ (n : Nat) (xt10 : Int), iter (evF TT cs_impl_ValidTimed 39 an_impl_ValidTimed Try.f36 [1, 1, 0, 1, 0, 0]) nm0_impl_ValidTimed (kt0_impl_ValidTimed (fin_impl_ValidTimed list0 kk)) n (can0_impl_ValidTimed list0 xt9 xt10) = L0_impl_ValidTimed list0 xt9 (fun r0 => kk (.one (.c (.v (.bool r0)))) []) n xt10 := by
  intro n
  induction n with
  | zero => intros; rfl
  | succ n ih =>
    intro xt10
    rw [r0_impl_ValidTimed list0 xt9 kk n xt10]
    have hb : (fun xt10 => iter (evF TT cs_impl_ValidTimed 39 an_impl_ValidTimed Try.f36 [1, 1, 0, 1, 0, 0]) nm0_impl_ValidTimed (kt0_impl_ValidTimed (fin_impl_ValidTimed list0 kk)) n (can0_impl_ValidTimed list0 xt9 xt10)) = L0_impl_ValidTimed list0 xt9 (fun r0 => kk (.one (.c (.v (.bool r0)))) []) n := by
      funext xt10; exact ih xt10
    rw [hb]
    rfl
theorem g_impl_ValidTimed (list0 : List (Int × Int)) (kk : AV → List A1 → Prop) :
    ev TT cs_impl_ValidTimed 39 an_impl_ValidTimed (Try.f36.body.getD .skip) (st0 con_impl_ValidTimed [.c (.ro .ii list0)]) (fin TT con_impl_ValidTimed Try.f36.results.toList [.c .sc] [.c (.ro .ii list0)] kk) = G_impl_ValidTimed list0 (fun r0 => kk (.one (.c (.v (.bool r0)))) []) (fun list0 xt9 xt10 => ∃ j, iter (evF TT cs_impl_ValidTimed 39 an_impl_ValidTimed Try.f36 [1, 1, 0, 1, 0, 0]) nm0_impl_ValidTimed (kt0_impl_ValidTimed (fin_impl_ValidTimed list0 kk)) j (can0_impl_ValidTimed list0 xt9 xt10)) := by kernel_rfl
theorem e_impl_ValidTimed (list0 : List (Int × Int)) (kk : AV → List A1 → Prop) :
    ev TT cs_impl_ValidTimed 39 an_impl_ValidTimed (Try.f36.body.getD .skip) (st0 con_impl_ValidTimed [.c (.ro .ii list0)]) (fin TT con_impl_ValidTimed Try.f36.results.toList [.c .sc] [.c (.ro .ii list0)] kk) = S_impl_ValidTimed list0 (fun r0 => kk (.one (.c (.v (.bool r0)))) []) := by
  rw [g_impl_ValidTimed]
  have hi0 : (fun list0 xt9 xt10 => ∃ j, iter (evF TT cs_impl_ValidTimed 39 an_impl_ValidTimed Try.f36 [1, 1, 0, 1, 0, 0]) nm0_impl_ValidTimed (kt0_impl_ValidTimed (fin_impl_ValidTimed list0 kk)) j (can0_impl_ValidTimed list0 xt9 xt10)) = (fun list0 xt9 xt10 => ∃ j, L0_impl_ValidTimed list0 xt9 (fun r0 => kk (.one (.c (.v (.bool r0)))) []) j xt10) := by
    funext list0 xt9 xt10
    refine congrArg Exists (funext fun j => ?_)
    rw [l0_impl_ValidTimed list0 xt9 kk j xt10]
  rw [hi0]
  rfl
theorem clok_impl_ValidTimed : ConOK Try.prog cl_impl_ValidTimed := consCons h_impl_validKey ⟨Try.f53, Try.func53, by kernel_rfl, ne_of_beq (by kernel_rfl)⟩ (consCons h_impl_validTime ⟨Try.f74, Try.func74, by kernel_rfl, ne_of_beq (by kernel_rfl)⟩ (consNil))
theorem cok_impl_ValidTimed : ConsOK Try.prog 39 cs_impl_ValidTimed := ⟨clok_impl_ValidTimed, inlNil⟩
theorem i_impl_ValidTimed {vs : List A1} {kk : AV → List A1 → Prop} {motive : List A1 → Prop} (h : con_impl_ValidTimed.F vs kk) (H : ∀ (list0 : List (Int × Int)), F_impl_ValidTimed list0 (fun r0 => kk (.one (.c (.v (.bool r0)))) []) → motive [.c (.ro .ii list0)]) : motive vs := by
  unfold con_impl_ValidTimed at h
  dsimp only at h
  split at h
  · exact H _ h
  · exact h.elim
theorem h_impl_ValidTimed : Holds Try.prog 36 con_impl_ValidTimed := by
  refine holds_of_ev (rt := [.c .sc]) (T := TT) (Γ := cs_impl_ValidTimed) (an := an_impl_ValidTimed) (N := 39) (c := Try.f36.body.getD .skip) Try.func36 (by kernel_rfl) Try.ntmps36 (by decide) (by decide) mixed tabOK cok_impl_ValidTimed (by kernel_rfl) ?_
  intro vs kk _ hF
  exact i_impl_ValidTimed (motive := fun vs => Goes (ev TT cs_impl_ValidTimed 39 an_impl_ValidTimed (Try.f36.body.getD .skip) (st0 con_impl_ValidTimed vs) (fin TT con_impl_ValidTimed Try.f36.results.toList [.c .sc] vs kk))) hF (fun list0 hF => goes_of (e_impl_ValidTimed list0 kk) (F_impl_ValidTimed_S hF))
def con_spec_ValidTimed : Con := ⟨[.rd], true, [.c (.sl .ii)], fun vs k => match vs with
    | [.c (.ro .ii list0)] => F_spec_ValidTimed list0 (fun r0 => k (.one (.c (.v (.bool r0)))) [])
    | _ => False, false⟩
def cl_spec_ValidTimed : List (FuncId × Con) := [(75, con_spec_validTimed)]
def an_spec_ValidTimed : Ann := ⟨[], [], []⟩
def cs_spec_ValidTimed : Cons := ⟨cl_spec_ValidTimed, [], 0, [], []⟩
def fin_spec_ValidTimed (list0 : List (Int × Int)) (kk : AV → List A1 → Prop) : Kt := fin TT con_spec_ValidTimed Try.f37.results.toList [.c .sc] [.c (.ro .ii list0)] kk
theorem g_spec_ValidTimed (list0 : List (Int × Int)) (kk : AV → List A1 → Prop) :
    ev TT cs_spec_ValidTimed 5 an_spec_ValidTimed (Try.f37.body.getD .skip) (st0 con_spec_ValidTimed [.c (.ro .ii list0)]) (fin TT con_spec_ValidTimed Try.f37.results.toList [.c .sc] [.c (.ro .ii list0)] kk) = G_spec_ValidTimed list0 (fun r0 => kk (.one (.c (.v (.bool r0)))) []) := by kernel_rfl
theorem e_spec_ValidTimed (list0 : List (Int × Int)) (kk : AV → List A1 → Prop) :
    ev TT cs_spec_ValidTimed 5 an_spec_ValidTimed (Try.f37.body.getD .skip) (st0 con_spec_ValidTimed [.c (.ro .ii list0)]) (fin TT con_spec_ValidTimed Try.f37.results.toList [.c .sc] [.c (.ro .ii list0)] kk) = S_spec_ValidTimed list0 (fun r0 => kk (.one (.c (.v (.bool r0)))) []) := by
  rw [g_spec_ValidTimed]
  rfl
theorem clok_spec_ValidTimed : ConOK Try.prog cl_spec_ValidTimed := consCons h_spec_validTimed ⟨Try.f75, Try.func75, by kernel_rfl, ne_of_beq (by kernel_rfl)⟩ (consNil)
theorem cok_spec_ValidTimed : ConsOK Try.prog 5 cs_spec_ValidTimed := ⟨clok_spec_ValidTimed, inlNil⟩
theorem i_spec_ValidTimed {vs : List A1} {kk : AV → List A1 → Prop} {motive : List A1 → Prop} (h : con_spec_ValidTimed.F vs kk) (H : ∀ (list0 : List (Int × Int)), F_spec_ValidTimed list0 (fun r0 => kk (.one (.c (.v (.bool r0)))) []) → motive [.c (.ro .ii list0)]) : motive vs := by
  unfold con_spec_ValidTimed at h
  dsimp only at h
  split at h
  · exact H _ h
  · exact h.elim
theorem h_spec_ValidTimed : Holds Try.prog 37 con_spec_ValidTimed := by
  refine holds_of_ev (rt := [.c .sc]) (T := TT) (Γ := cs_spec_ValidTimed) (an := an_spec_ValidTimed) (N := 5) (c := Try.f37.body.getD .skip) Try.func37 (by kernel_rfl) Try.ntmps37 (by decide) (by decide) mixed tabOK cok_spec_ValidTimed (by kernel_rfl) ?_
  intro vs kk _ hF
  exact i_spec_ValidTimed (motive := fun vs => Goes (ev TT cs_spec_ValidTimed 5 an_spec_ValidTimed (Try.f37.body.getD .skip) (st0 con_spec_ValidTimed vs) (fin TT con_spec_ValidTimed Try.f37.results.toList [.c .sc] vs kk))) hF (fun list0 hF => goes_of (e_spec_ValidTimed list0 kk) (F_spec_ValidTimed_S hF))
def con_laws_FnValidTimed : Con := ⟨[.rd], true, [.c (.sl .u8)], fun vs k => match vs with
    | [.c (.ro .u8 code0)] => F_laws_FnValidTimed code0 (fun r0 => k (.one (.c (.v (.bool r0)))) [])
    | _ => False, false⟩
def cl_laws_FnValidTimed : List (FuncId × Con) := [(35, con_spec_DrawValidTimed), (36, con_impl_ValidTimed), (37, con_spec_ValidTimed)]
def an_laws_FnValidTimed : Ann := ⟨[(8, .take 1 (.take 2 (.take 3 (.take 5 (.take 6 (.take 7 (.take 8 (.alt 0 (.alt 4 (.alt 9 (.alt 10 (.take 11 (.alt 12 (.take 13 (.take 14 (.done))) (.none))) (.none)) (.none)) (.none)) (.none)))))))), [])], [], []⟩
def cs_laws_FnValidTimed : Cons := ⟨cl_laws_FnValidTimed, [], 0, [], []⟩
def fin_laws_FnValidTimed (code0 : List Int) (kk : AV → List A1 → Prop) : Kt := fin TT con_laws_FnValidTimed Try.f10.results.toList [.c .sc] [.c (.ro .u8 code0)] kk
theorem g_laws_FnValidTimed (code0 : List Int) (kk : AV → List A1 → Prop) :
    ev TT cs_laws_FnValidTimed 49 an_laws_FnValidTimed (Try.f10.body.getD .skip) (st0 con_laws_FnValidTimed [.c (.ro .u8 code0)]) (fin TT con_laws_FnValidTimed Try.f10.results.toList [.c .sc] [.c (.ro .u8 code0)] kk) = G_laws_FnValidTimed code0 (fun r0 => kk (.one (.c (.v (.bool r0)))) []) := by kernel_rfl
theorem e_laws_FnValidTimed (code0 : List Int) (kk : AV → List A1 → Prop) :
    ev TT cs_laws_FnValidTimed 49 an_laws_FnValidTimed (Try.f10.body.getD .skip) (st0 con_laws_FnValidTimed [.c (.ro .u8 code0)]) (fin TT con_laws_FnValidTimed Try.f10.results.toList [.c .sc] [.c (.ro .u8 code0)] kk) = S_laws_FnValidTimed code0 (fun r0 => kk (.one (.c (.v (.bool r0)))) []) := by
  rw [g_laws_FnValidTimed]
  rw [G_laws_FnValidTimed_eq]
  rfl
theorem clok_laws_FnValidTimed : ConOK Try.prog cl_laws_FnValidTimed := consCons h_spec_DrawValidTimed ⟨Try.f35, Try.func35, by kernel_rfl, ne_of_beq (by kernel_rfl)⟩ (consCons h_impl_ValidTimed ⟨Try.f36, Try.func36, by kernel_rfl, ne_of_beq (by kernel_rfl)⟩ (consCons h_spec_ValidTimed ⟨Try.f37, Try.func37, by kernel_rfl, ne_of_beq (by kernel_rfl)⟩ (consNil)))
theorem cok_laws_FnValidTimed : ConsOK Try.prog 49 cs_laws_FnValidTimed := ⟨clok_laws_FnValidTimed, inlNil⟩
theorem i_laws_FnValidTimed {vs : List A1} {kk : AV → List A1 → Prop} {motive : List A1 → Prop} (h : con_laws_FnValidTimed.F vs kk) (H : ∀ (code0 : List Int), F_laws_FnValidTimed code0 (fun r0 => kk (.one (.c (.v (.bool r0)))) []) → motive [.c (.ro .u8 code0)]) : motive vs := by
  unfold con_laws_FnValidTimed at h
  dsimp only at h
  split at h
  · exact H _ h
  · exact h.elim
theorem h_laws_FnValidTimed : Holds Try.prog 10 con_laws_FnValidTimed := by
  refine holds_of_ev (rt := [.c .sc]) (T := TT) (Γ := cs_laws_FnValidTimed) (an := an_laws_FnValidTimed) (N := 49) (c := Try.f10.body.getD .skip) Try.func10 (by kernel_rfl) Try.ntmps10 (by decide) (by decide) mixed tabOK cok_laws_FnValidTimed (by kernel_rfl) ?_
  intro vs kk _ hF
  exact i_laws_FnValidTimed (motive := fun vs => Goes (ev TT cs_laws_FnValidTimed 49 an_laws_FnValidTimed (Try.f10.body.getD .skip) (st0 con_laws_FnValidTimed vs) (fin TT con_laws_FnValidTimed Try.f10.results.toList [.c .sc] vs kk))) hF (fun code0 hF => goes_of (e_laws_FnValidTimed code0 kk) (F_laws_FnValidTimed_S hF))
end Go.Ev
