/- What the evaluator gives for these functions: their contracts. No statement is proved here. -/
import Derived.Test.YtaajnkggomlppafFnWheelOfTurnP0
import Derived.Test.YtaajnkggomlppafTt
namespace Go.Ev
set_option linter.unusedVariables false
set_option linter.unusedSimpArgs false
set_option maxRecDepth 100000
open Go Go.Proofs
def con_spec_newReader : Con := ⟨[.rd], true, [.c (.sl .u8)], fun vs k => match vs with
    | [.c (.ro .u8 code0)] => F_spec_newReader code0 (fun r0 r1 => k (.one (.agg [.ro .u8 r0, .v (.int .i64 r1)])) [])
    | _ => False, true⟩
def cl_spec_newReader : List (FuncId × Con) := []
def an_spec_newReader : Ann := ⟨[], [], [], []⟩
def cs_spec_newReader : Cons := ⟨cl_spec_newReader, [], 0, [], [], []⟩
def fin_spec_newReader (code0 : List Int) (kk : AV → List A1 → Prop) : Kt := finB Try.f43.results.toList [.sl .u8, .sc] kk
theorem g_spec_newReader (code0 : List Int) (kk : AV → List A1 → Prop) :
    ev TT cs_spec_newReader 11 an_spec_newReader (Try.f43.body.getD .skip) (st0 con_spec_newReader [.c (.ro .u8 code0)]) (finB Try.f43.results.toList [.sl .u8, .sc] kk) = G_spec_newReader code0 (fun r0 r1 => kk (.one (.agg [.ro .u8 r0, .v (.int .i64 r1)])) []) := by kernel_rfl
theorem e_spec_newReader (code0 : List Int) (kk : AV → List A1 → Prop) :
    ev TT cs_spec_newReader 11 an_spec_newReader (Try.f43.body.getD .skip) (st0 con_spec_newReader [.c (.ro .u8 code0)]) (finB Try.f43.results.toList [.sl .u8, .sc] kk) = S_spec_newReader code0 (fun r0 r1 => kk (.one (.agg [.ro .u8 r0, .v (.int .i64 r1)])) []) := by
  rw [g_spec_newReader]
  rfl
theorem clok_spec_newReader : ConOK Try.prog cl_spec_newReader := consNil
theorem cok_spec_newReader : ConsOK Try.prog 11 cs_spec_newReader := ⟨clok_spec_newReader, inlNil, ovNil⟩
theorem i_spec_newReader {vs : List A1} {kk : AV → List A1 → Prop} {motive : List A1 → Prop} (h : con_spec_newReader.F vs kk) (H : ∀ (code0 : List Int), F_spec_newReader code0 (fun r0 r1 => kk (.one (.agg [.ro .u8 r0, .v (.int .i64 r1)])) []) → motive [.c (.ro .u8 code0)]) : motive vs := by
  unfold con_spec_newReader at h
  dsimp only at h
  split at h
  · exact H _ h
  · exact h.elim
theorem h_spec_newReader : HoldsB Try.prog 43 con_spec_newReader := by
  refine holdsB_of_ev (ts := [.sl .u8, .sc]) (T := TT) (Γ := cs_spec_newReader) (an := an_spec_newReader) (N := 11) (c := Try.f43.body.getD .skip) Try.func43 (by kernel_rfl) Try.ntmps43 (by decide) (by decide) mixed tabOK cok_spec_newReader (by kernel_rfl) ?_
  intro vs kk _ hF
  exact i_spec_newReader (motive := fun vs => Goes (ev TT cs_spec_newReader 11 an_spec_newReader (Try.f43.body.getD .skip) (st0 con_spec_newReader vs) (finB Try.f43.results.toList [.sl .u8, .sc] kk))) hF (fun code0 hF => goes_of (e_spec_newReader code0 kk) (F_spec_newReader_S hF))
def con_spec_reader_pick : Con := ⟨[.mu, .rd], true, [.ptr [.sl .u8, .sc], .c (.sc)], fun vs k => match vs with
    | [.ptr [.ro .u8 r0b, .v (.int .i64 r0p)], .c (.v (.int .i64 n1))] => F_spec_reader_pick r0b r0p n1 (fun r0 r1 r2 => k (.one (.c (.v (.int .i64 r0)))) [.ptr [.ro .u8 r1, .v (.int .i64 r2)]])
    | _ => False, false⟩
def cl_spec_reader_pick : List (FuncId × Con) := []
def an_spec_reader_pick : Ann := ⟨[(7, .take 0 (.take 1 (.take 2 (.take 3 (.take 4 (.take 5 (.take 6 (.take 7 (.take 8 (.take 9 (.take 10 (.take 11 (.take 12 (.take 13 (.take 14 (.take 15 (.take 16 (.take 17 (.take 18 (.take 19 (.take 20 (.take 21 (.take 22 (.take 23 (.take 24 (.take 25 (.take 26 (.take 27 (.take 28 (.take 29 (.take 30 (.take 31 (.take 32 (.take 33 (.take 34 (.take 35 (.take 36 (.take 37 (.take 38 (.take 39 (.take 40 (.take 41 (.take 42 (.take 43 (.take 44 (.take 45 (.done)))))))))))))))))))))))))))))))))))))))))))))), [100000])], [], [], []⟩
def cs_spec_reader_pick : Cons := ⟨cl_spec_reader_pick, [], 0, [], [], []⟩
def fin_spec_reader_pick (r0b : List Int) (r0p : Int) (n1 : Int) (kk : AV → List A1 → Prop) : Kt := fin TT con_spec_reader_pick Try.f69.results.toList [.c .sc] [.ptr [.ro .u8 r0b, .v (.int .i64 r0p)], .c (.v (.int .i64 n1))] kk
theorem g_spec_reader_pick (r0b : List Int) (r0p : Int) (n1 : Int) (kk : AV → List A1 → Prop) :
    ev TT cs_spec_reader_pick 99 an_spec_reader_pick (Try.f69.body.getD .skip) (st0 con_spec_reader_pick [.ptr [.ro .u8 r0b, .v (.int .i64 r0p)], .c (.v (.int .i64 n1))]) (fin TT con_spec_reader_pick Try.f69.results.toList [.c .sc] [.ptr [.ro .u8 r0b, .v (.int .i64 r0p)], .c (.v (.int .i64 n1))] kk) = G_spec_reader_pick r0b r0p n1 (fun r0 r1 r2 => kk (.one (.c (.v (.int .i64 r0)))) [.ptr [.ro .u8 r1, .v (.int .i64 r2)]]) := by kernel_rfl
theorem e_spec_reader_pick (r0b : List Int) (r0p : Int) (n1 : Int) (kk : AV → List A1 → Prop) :
    ev TT cs_spec_reader_pick 99 an_spec_reader_pick (Try.f69.body.getD .skip) (st0 con_spec_reader_pick [.ptr [.ro .u8 r0b, .v (.int .i64 r0p)], .c (.v (.int .i64 n1))]) (fin TT con_spec_reader_pick Try.f69.results.toList [.c .sc] [.ptr [.ro .u8 r0b, .v (.int .i64 r0p)], .c (.v (.int .i64 n1))] kk) = S_spec_reader_pick r0b r0p n1 (fun r0 r1 r2 => kk (.one (.c (.v (.int .i64 r0)))) [.ptr [.ro .u8 r1, .v (.int .i64 r2)]]) := by
  rw [g_spec_reader_pick]
  rfl
theorem clok_spec_reader_pick : ConOK Try.prog cl_spec_reader_pick := consNil
theorem cok_spec_reader_pick : ConsOK Try.prog 99 cs_spec_reader_pick := ⟨clok_spec_reader_pick, inlNil, ovNil⟩
theorem i_spec_reader_pick {vs : List A1} {kk : AV → List A1 → Prop} {motive : List A1 → Prop} (h : con_spec_reader_pick.F vs kk) (H : ∀ (r0b : List Int) (r0p : Int) (n1 : Int), F_spec_reader_pick r0b r0p n1 (fun r0 r1 r2 => kk (.one (.c (.v (.int .i64 r0)))) [.ptr [.ro .u8 r1, .v (.int .i64 r2)]]) → motive [.ptr [.ro .u8 r0b, .v (.int .i64 r0p)], .c (.v (.int .i64 n1))]) : motive vs := by
  unfold con_spec_reader_pick at h
  dsimp only at h
  split at h
  · exact H _ _ _ h
  · exact h.elim
theorem h_spec_reader_pick : Holds Try.prog 69 con_spec_reader_pick := by
  refine holds_of_ev (rt := [.c .sc]) (T := TT) (Γ := cs_spec_reader_pick) (an := an_spec_reader_pick) (N := 99) (c := Try.f69.body.getD .skip) Try.func69 (by kernel_rfl) Try.ntmps69 (by decide) (by decide) mixed tabOK cok_spec_reader_pick (by kernel_rfl) ?_
  intro vs kk _ hF
  exact i_spec_reader_pick (motive := fun vs => Goes (ev TT cs_spec_reader_pick 99 an_spec_reader_pick (Try.f69.body.getD .skip) (st0 con_spec_reader_pick vs) (fin TT con_spec_reader_pick Try.f69.results.toList [.c .sc] vs kk))) hF (fun r0b r0p n1 hF => goes_of (e_spec_reader_pick r0b r0p n1 kk) (F_spec_reader_pick_S hF))
def con_spec_reader_one : Con := ⟨[.mu, .rd], true, [.ptr [.sl .u8, .sc], .c (.sl .int)], fun vs k => match vs with
    | [.ptr [.ro .u8 r0b, .v (.int .i64 r0p)], .c (.ro .int list1)] => F_spec_reader_one r0b r0p list1 (fun r0 r1 r2 => k (.one (.c (.v (.int .i64 r0)))) [.ptr [.ro .u8 r1, .v (.int .i64 r2)]])
    | _ => False, false⟩
def cl_spec_reader_one : List (FuncId × Con) := [(69, con_spec_reader_pick)]
def an_spec_reader_one : Ann := ⟨[], [], [], []⟩
def cs_spec_reader_one : Cons := ⟨cl_spec_reader_one, [], 0, [], [], []⟩
def fin_spec_reader_one (r0b : List Int) (r0p : Int) (list1 : List Int) (kk : AV → List A1 → Prop) : Kt := fin TT con_spec_reader_one Try.f70.results.toList [.c .sc] [.ptr [.ro .u8 r0b, .v (.int .i64 r0p)], .c (.ro .int list1)] kk
theorem g_spec_reader_one (r0b : List Int) (r0p : Int) (list1 : List Int) (kk : AV → List A1 → Prop) :
    ev TT cs_spec_reader_one 12 an_spec_reader_one (Try.f70.body.getD .skip) (st0 con_spec_reader_one [.ptr [.ro .u8 r0b, .v (.int .i64 r0p)], .c (.ro .int list1)]) (fin TT con_spec_reader_one Try.f70.results.toList [.c .sc] [.ptr [.ro .u8 r0b, .v (.int .i64 r0p)], .c (.ro .int list1)] kk) = G_spec_reader_one r0b r0p list1 (fun r0 r1 r2 => kk (.one (.c (.v (.int .i64 r0)))) [.ptr [.ro .u8 r1, .v (.int .i64 r2)]]) := by kernel_rfl
theorem e_spec_reader_one (r0b : List Int) (r0p : Int) (list1 : List Int) (kk : AV → List A1 → Prop) :
    ev TT cs_spec_reader_one 12 an_spec_reader_one (Try.f70.body.getD .skip) (st0 con_spec_reader_one [.ptr [.ro .u8 r0b, .v (.int .i64 r0p)], .c (.ro .int list1)]) (fin TT con_spec_reader_one Try.f70.results.toList [.c .sc] [.ptr [.ro .u8 r0b, .v (.int .i64 r0p)], .c (.ro .int list1)] kk) = S_spec_reader_one r0b r0p list1 (fun r0 r1 r2 => kk (.one (.c (.v (.int .i64 r0)))) [.ptr [.ro .u8 r1, .v (.int .i64 r2)]]) := by
  rw [g_spec_reader_one]
  rfl
theorem clok_spec_reader_one : ConOK Try.prog cl_spec_reader_one := consCons h_spec_reader_pick ⟨Try.f69, Try.func69, by kernel_rfl, ne_of_beq (by kernel_rfl)⟩ (consNil)
theorem cok_spec_reader_one : ConsOK Try.prog 12 cs_spec_reader_one := ⟨clok_spec_reader_one, inlNil, ovNil⟩
theorem i_spec_reader_one {vs : List A1} {kk : AV → List A1 → Prop} {motive : List A1 → Prop} (h : con_spec_reader_one.F vs kk) (H : ∀ (r0b : List Int) (r0p : Int) (list1 : List Int), F_spec_reader_one r0b r0p list1 (fun r0 r1 r2 => kk (.one (.c (.v (.int .i64 r0)))) [.ptr [.ro .u8 r1, .v (.int .i64 r2)]]) → motive [.ptr [.ro .u8 r0b, .v (.int .i64 r0p)], .c (.ro .int list1)]) : motive vs := by
  unfold con_spec_reader_one at h
  dsimp only at h
  split at h
  · exact H _ _ _ h
  · exact h.elim
theorem h_spec_reader_one : Holds Try.prog 70 con_spec_reader_one := by
  refine holds_of_ev (rt := [.c .sc]) (T := TT) (Γ := cs_spec_reader_one) (an := an_spec_reader_one) (N := 12) (c := Try.f70.body.getD .skip) Try.func70 (by kernel_rfl) Try.ntmps70 (by decide) (by decide) mixed tabOK cok_spec_reader_one (by kernel_rfl) ?_
  intro vs kk _ hF
  exact i_spec_reader_one (motive := fun vs => Goes (ev TT cs_spec_reader_one 12 an_spec_reader_one (Try.f70.body.getD .skip) (st0 con_spec_reader_one vs) (fin TT con_spec_reader_one Try.f70.results.toList [.c .sc] vs kk))) hF (fun r0b r0p list1 hF => goes_of (e_spec_reader_one r0b r0p list1 kk) (F_spec_reader_one_S hF))
def con_spec_inRange : Con := ⟨[.rd, .rd, .rd], true, [.c (.sc), .c (.sc), .c (.sc)], fun vs k => match vs with
    | [.c (.v (.int .i64 n0)), .c (.v (.int .i64 low1)), .c (.v (.int .i64 high2))] => F_spec_inRange n0 low1 high2 (fun r0 => k (.one (.c (.v (.bool r0)))) [])
    | _ => False, false⟩
def cl_spec_inRange : List (FuncId × Con) := []
def an_spec_inRange : Ann := ⟨[], [], [], []⟩
def cs_spec_inRange : Cons := ⟨cl_spec_inRange, [], 0, [], [], []⟩
def fin_spec_inRange (n0 : Int) (low1 : Int) (high2 : Int) (kk : AV → List A1 → Prop) : Kt := fin TT con_spec_inRange Try.f31.results.toList [.c .sc] [.c (.v (.int .i64 n0)), .c (.v (.int .i64 low1)), .c (.v (.int .i64 high2))] kk
theorem g_spec_inRange (n0 : Int) (low1 : Int) (high2 : Int) (kk : AV → List A1 → Prop) :
    ev TT cs_spec_inRange 15 an_spec_inRange (Try.f31.body.getD .skip) (st0 con_spec_inRange [.c (.v (.int .i64 n0)), .c (.v (.int .i64 low1)), .c (.v (.int .i64 high2))]) (fin TT con_spec_inRange Try.f31.results.toList [.c .sc] [.c (.v (.int .i64 n0)), .c (.v (.int .i64 low1)), .c (.v (.int .i64 high2))] kk) = G_spec_inRange n0 low1 high2 (fun r0 => kk (.one (.c (.v (.bool r0)))) []) := by kernel_rfl
theorem e_spec_inRange (n0 : Int) (low1 : Int) (high2 : Int) (kk : AV → List A1 → Prop) :
    ev TT cs_spec_inRange 15 an_spec_inRange (Try.f31.body.getD .skip) (st0 con_spec_inRange [.c (.v (.int .i64 n0)), .c (.v (.int .i64 low1)), .c (.v (.int .i64 high2))]) (fin TT con_spec_inRange Try.f31.results.toList [.c .sc] [.c (.v (.int .i64 n0)), .c (.v (.int .i64 low1)), .c (.v (.int .i64 high2))] kk) = S_spec_inRange n0 low1 high2 (fun r0 => kk (.one (.c (.v (.bool r0)))) []) := by
  rw [g_spec_inRange]
  rfl
theorem clok_spec_inRange : ConOK Try.prog cl_spec_inRange := consNil
theorem cok_spec_inRange : ConsOK Try.prog 15 cs_spec_inRange := ⟨clok_spec_inRange, inlNil, ovNil⟩
theorem i_spec_inRange {vs : List A1} {kk : AV → List A1 → Prop} {motive : List A1 → Prop} (h : con_spec_inRange.F vs kk) (H : ∀ (n0 : Int) (low1 : Int) (high2 : Int), F_spec_inRange n0 low1 high2 (fun r0 => kk (.one (.c (.v (.bool r0)))) []) → motive [.c (.v (.int .i64 n0)), .c (.v (.int .i64 low1)), .c (.v (.int .i64 high2))]) : motive vs := by
  unfold con_spec_inRange at h
  dsimp only at h
  split at h
  · exact H _ _ _ h
  · exact h.elim
theorem h_spec_inRange : Holds Try.prog 31 con_spec_inRange := by
  refine holds_of_ev (rt := [.c .sc]) (T := TT) (Γ := cs_spec_inRange) (an := an_spec_inRange) (N := 15) (c := Try.f31.body.getD .skip) Try.func31 (by kernel_rfl) Try.ntmps31 (by decide) (by decide) mixed tabOK cok_spec_inRange (by kernel_rfl) ?_
  intro vs kk _ hF
  exact i_spec_inRange (motive := fun vs => Goes (ev TT cs_spec_inRange 15 an_spec_inRange (Try.f31.body.getD .skip) (st0 con_spec_inRange vs) (fin TT con_spec_inRange Try.f31.results.toList [.c .sc] vs kk))) hF (fun n0 low1 high2 hF => goes_of (e_spec_inRange n0 low1 high2 kk) (F_spec_inRange_S hF))
def con_spec_validTimed : Con := ⟨[.rd], true, [.c (.sl .ii)], fun vs k => match vs with
    | [.c (.ro .ii list0)] => F_spec_validTimed list0 (fun r0 => k (.one (.c (.v (.bool r0)))) [])
    | _ => False, false⟩
def cl_spec_validTimed : List (FuncId × Con) := [(31, con_spec_inRange)]
def nm0_spec_validTimed : List NStep := [.keep [0, 3] []]
def an_spec_validTimed : Ann := ⟨[(4, .take 0 (.take 1 (.take 2 (.take 3 (.take 4 (.alt 5 (.take 6 (.take 7 (.take 8 (.take 9 (.take 10 (.take 11 (.take 12 (.alt 13 (.take 14 (.take 15 (.take 16 (.take 17 (.take 18 (.take 19 (.take 20 (.take 21 (.take 22 (.take 23 (.take 24 (.take 25 (.take 26 (.take 27 (.take 28 (.take 29 (.take 30 (.take 31 (.take 32 (.take 33 (.done))))))))))))))))))))) (.none))))))))) (.none)))))), [])], [(2, nm0_spec_validTimed)], [], []⟩
def cs_spec_validTimed : Cons := ⟨cl_spec_validTimed, [], 0, [], [], []⟩
def can0_spec_validTimed (list0 : List (Int × Int)) (xi3 : Int) : St := ⟨[(0, .one (.c (.ro .ii list0))), (3, .one (.c (.v (.int .i64 xi3))))], []⟩
def fin_spec_validTimed (list0 : List (Int × Int)) (kk : AV → List A1 → Prop) : Kt := fin TT con_spec_validTimed Try.f46.results.toList [.c .sc] [.c (.ro .ii list0)] kk
def kt0_spec_validTimed (kf : Kt) : Kt := blockK 0 (seqK (evF TT cs_spec_validTimed 47 an_spec_validTimed Try.f46 [1, 1]) (kf))
theorem r0_spec_validTimed (list0 : List (Int × Int)) (kk : AV → List A1 → Prop) (n : Nat) (xi3 : Int) :
    iter (evF TT cs_spec_validTimed 47 an_spec_validTimed Try.f46 [1, 0, 1, 0, 0]) nm0_spec_validTimed (kt0_spec_validTimed (fin_spec_validTimed list0 kk)) (n + 1) (can0_spec_validTimed list0 xi3) = T0_spec_validTimed list0 xi3 (fun r0 => kk (.one (.c (.v (.bool r0)))) []) (fun xi3 => iter (evF TT cs_spec_validTimed 47 an_spec_validTimed Try.f46 [1, 0, 1, 0, 0]) nm0_spec_validTimed (kt0_spec_validTimed (fin_spec_validTimed list0 kk)) n (can0_spec_validTimed list0 xi3)) := by kernel_rfl
theorem l0_spec_validTimed (list0 : List (Int × Int)) (kk : AV → List A1 → Prop) : ∀ (n : Nat) (xi3 : Int), iter (evF TT cs_spec_validTimed 47 an_spec_validTimed Try.f46 [1, 0, 1, 0, 0]) nm0_spec_validTimed (kt0_spec_validTimed (fin_spec_validTimed list0 kk)) n (can0_spec_validTimed list0 xi3) = L0_spec_validTimed list0 (fun r0 => kk (.one (.c (.v (.bool r0)))) []) n xi3 := by
  intro n
  induction n with
  | zero => intros; rfl
  | succ n ih =>
    intro xi3
    rw [r0_spec_validTimed list0 kk n xi3]
    have hb : (fun xi3 => iter (evF TT cs_spec_validTimed 47 an_spec_validTimed Try.f46 [1, 0, 1, 0, 0]) nm0_spec_validTimed (kt0_spec_validTimed (fin_spec_validTimed list0 kk)) n (can0_spec_validTimed list0 xi3)) = L0_spec_validTimed list0 (fun r0 => kk (.one (.c (.v (.bool r0)))) []) n := by
      funext xi3; exact ih xi3
    rw [hb]
    rw [T0_spec_validTimed_eq]
    rfl
theorem g_spec_validTimed (list0 : List (Int × Int)) (kk : AV → List A1 → Prop) :
    ev TT cs_spec_validTimed 47 an_spec_validTimed (Try.f46.body.getD .skip) (st0 con_spec_validTimed [.c (.ro .ii list0)]) (fin TT con_spec_validTimed Try.f46.results.toList [.c .sc] [.c (.ro .ii list0)] kk) = G_spec_validTimed list0 (fun list0 xi3 => ∃ j, iter (evF TT cs_spec_validTimed 47 an_spec_validTimed Try.f46 [1, 0, 1, 0, 0]) nm0_spec_validTimed (kt0_spec_validTimed (fin_spec_validTimed list0 kk)) j (can0_spec_validTimed list0 xi3)) := by kernel_rfl
theorem e_spec_validTimed (list0 : List (Int × Int)) (kk : AV → List A1 → Prop) :
    ev TT cs_spec_validTimed 47 an_spec_validTimed (Try.f46.body.getD .skip) (st0 con_spec_validTimed [.c (.ro .ii list0)]) (fin TT con_spec_validTimed Try.f46.results.toList [.c .sc] [.c (.ro .ii list0)] kk) = S_spec_validTimed list0 (fun r0 => kk (.one (.c (.v (.bool r0)))) []) := by
  rw [g_spec_validTimed]
  have hi0 : (fun list0 xi3 => ∃ j, iter (evF TT cs_spec_validTimed 47 an_spec_validTimed Try.f46 [1, 0, 1, 0, 0]) nm0_spec_validTimed (kt0_spec_validTimed (fin_spec_validTimed list0 kk)) j (can0_spec_validTimed list0 xi3)) = (fun list0 xi3 => ∃ j, L0_spec_validTimed list0 (fun r0 => kk (.one (.c (.v (.bool r0)))) []) j xi3) := by
    funext list0 xi3
    refine congrArg Exists (funext fun j => ?_)
    rw [l0_spec_validTimed list0 kk j xi3]
  rw [hi0]
  rfl
theorem clok_spec_validTimed : ConOK Try.prog cl_spec_validTimed := consCons h_spec_inRange ⟨Try.f31, Try.func31, by kernel_rfl, ne_of_beq (by kernel_rfl)⟩ (consNil)
theorem cok_spec_validTimed : ConsOK Try.prog 47 cs_spec_validTimed := ⟨clok_spec_validTimed, inlNil, ovNil⟩
theorem i_spec_validTimed {vs : List A1} {kk : AV → List A1 → Prop} {motive : List A1 → Prop} (h : con_spec_validTimed.F vs kk) (H : ∀ (list0 : List (Int × Int)), F_spec_validTimed list0 (fun r0 => kk (.one (.c (.v (.bool r0)))) []) → motive [.c (.ro .ii list0)]) : motive vs := by
  unfold con_spec_validTimed at h
  dsimp only at h
  split at h
  · exact H _ h
  · exact h.elim
theorem h_spec_validTimed : Holds Try.prog 46 con_spec_validTimed := by
  refine holds_of_ev (rt := [.c .sc]) (T := TT) (Γ := cs_spec_validTimed) (an := an_spec_validTimed) (N := 47) (c := Try.f46.body.getD .skip) Try.func46 (by kernel_rfl) Try.ntmps46 (by decide) (by decide) mixed tabOK cok_spec_validTimed (by kernel_rfl) ?_
  intro vs kk _ hF
  exact i_spec_validTimed (motive := fun vs => Goes (ev TT cs_spec_validTimed 47 an_spec_validTimed (Try.f46.body.getD .skip) (st0 con_spec_validTimed vs) (fin TT con_spec_validTimed Try.f46.results.toList [.c .sc] vs kk))) hF (fun list0 hF => goes_of (e_spec_validTimed list0 kk) (F_spec_validTimed_S hF))
def con_spec_PutTimed : Con := ⟨[.rd, .rd, .rd], true, [.c (.sl .ii), .c (.sc), .c (.sc)], fun vs k => match vs with
    | [.c (.ro .ii list0), .c (.v (.int .i64 key1)), .c (.v (.int .i64 until2))] => F_spec_PutTimed list0 key1 until2 (fun r0 r1 => k (.tup [.c (.ro .ii r0), .c (.v (.bool r1))]) [])
    | _ => False, false⟩
def cl_spec_PutTimed : List (FuncId × Con) := [(31, con_spec_inRange), (46, con_spec_validTimed)]
def nm1_spec_PutTimed : List NStep := [.own 8 .ii 90100, .keep [0, 1, 8, 10] [90100]]
def nm0_spec_PutTimed : List NStep := [.own 8 .ii 90000, .keep [0, 1, 2, 8, 9] [90000]]
def an_spec_PutTimed : Ann := ⟨[], [(11, nm1_spec_PutTimed), (5, nm0_spec_PutTimed)], [], []⟩
def cs_spec_PutTimed : Cons := ⟨cl_spec_PutTimed, [], 0, [], [], []⟩
def can1_spec_PutTimed (key1 : Int) (list0 : List (Int × Int)) (xi10 : Int) (xout8' : List (Int × Int)) : St := ⟨[(0, .one (.c (.ro .ii list0))), (1, .one (.c (.v (.int .i64 key1)))), (8, .one (.c (.ow 90100))), (10, .one (.c (.v (.int .i64 xi10))))], [(90100, .row .ii xout8')]⟩
def can0_spec_PutTimed (key1 : Int) (list0 : List (Int × Int)) (until2 : Int) (xi9 : Int) (xout8 : List (Int × Int)) : St := ⟨[(0, .one (.c (.ro .ii list0))), (1, .one (.c (.v (.int .i64 key1)))), (2, .one (.c (.v (.int .i64 until2)))), (8, .one (.c (.ow 90000))), (9, .one (.c (.v (.int .i64 xi9))))], [(90000, .row .ii xout8)]⟩
def fin_spec_PutTimed (list0 : List (Int × Int)) (key1 : Int) (until2 : Int) (kk : AV → List A1 → Prop) : Kt := fin TT con_spec_PutTimed Try.f86.results.toList [.c (.sl .ii), .c .sc] [.c (.ro .ii list0), .c (.v (.int .i64 key1)), .c (.v (.int .i64 until2))] kk
def kt1_spec_PutTimed (kf : Kt) : Kt := blockK 2 (seqK (evF TT cs_spec_PutTimed 75 an_spec_PutTimed Try.f86 [1, 1, 1, 1, 1, 1]) (kf))
def kt0_spec_PutTimed (kf : Kt) : Kt := blockK 0 (seqK (evF TT cs_spec_PutTimed 75 an_spec_PutTimed Try.f86 [1, 1, 1, 1]) (kf))
theorem r1_spec_PutTimed (list0 : List (Int × Int)) (key1 : Int) (until2 : Int) (kk : AV → List A1 → Prop) (n : Nat) (xi10 : Int) (xout8' : List (Int × Int)) :
    iter (evF TT cs_spec_PutTimed 75 an_spec_PutTimed Try.f86 [1, 1, 1, 1, 1, 0, 1, 0, 0]) nm1_spec_PutTimed (kt1_spec_PutTimed (fin_spec_PutTimed list0 key1 until2 kk)) (n + 1) (can1_spec_PutTimed key1 list0 xi10 xout8') = T1_spec_PutTimed key1 list0 xi10 xout8' (fun r0 r1 => kk (.tup [.c (.ro .ii r0), .c (.v (.bool r1))]) []) (fun xi10 xout8' => iter (evF TT cs_spec_PutTimed 75 an_spec_PutTimed Try.f86 [1, 1, 1, 1, 1, 0, 1, 0, 0]) nm1_spec_PutTimed (kt1_spec_PutTimed (fin_spec_PutTimed list0 key1 until2 kk)) n (can1_spec_PutTimed key1 list0 xi10 xout8')) := by kernel_rfl
theorem l1_spec_PutTimed (list0 : List (Int × Int)) (key1 : Int) (until2 : Int) (kk : AV → List A1 → Prop) : ∀ (n : Nat) (xi10 : Int) (xout8' : List (Int × Int)), iter (evF TT cs_spec_PutTimed 75 an_spec_PutTimed Try.f86 [1, 1, 1, 1, 1, 0, 1, 0, 0]) nm1_spec_PutTimed (kt1_spec_PutTimed (fin_spec_PutTimed list0 key1 until2 kk)) n (can1_spec_PutTimed key1 list0 xi10 xout8') = L1_spec_PutTimed key1 list0 (fun r0 r1 => kk (.tup [.c (.ro .ii r0), .c (.v (.bool r1))]) []) n xi10 xout8' := by
  intro n
  induction n with
  | zero => intros; rfl
  | succ n ih =>
    intro xi10 xout8'
    rw [r1_spec_PutTimed list0 key1 until2 kk n xi10 xout8']
    have hb : (fun xi10 xout8' => iter (evF TT cs_spec_PutTimed 75 an_spec_PutTimed Try.f86 [1, 1, 1, 1, 1, 0, 1, 0, 0]) nm1_spec_PutTimed (kt1_spec_PutTimed (fin_spec_PutTimed list0 key1 until2 kk)) n (can1_spec_PutTimed key1 list0 xi10 xout8')) = L1_spec_PutTimed key1 list0 (fun r0 r1 => kk (.tup [.c (.ro .ii r0), .c (.v (.bool r1))]) []) n := by
      funext xi10 xout8'; exact ih xi10 xout8'
    rw [hb]
    rfl
theorem r0_spec_PutTimed (list0 : List (Int × Int)) (key1 : Int) (until2 : Int) (kk : AV → List A1 → Prop) (n : Nat) (xi9 : Int) (xout8 : List (Int × Int)) :
    iter (evF TT cs_spec_PutTimed 75 an_spec_PutTimed Try.f86 [1, 1, 1, 0, 1, 0, 0]) nm0_spec_PutTimed (kt0_spec_PutTimed (fin_spec_PutTimed list0 key1 until2 kk)) (n + 1) (can0_spec_PutTimed key1 list0 until2 xi9 xout8) = T0_spec_PutTimed key1 list0 until2 xi9 xout8 (fun xi9 xout8 => iter (evF TT cs_spec_PutTimed 75 an_spec_PutTimed Try.f86 [1, 1, 1, 0, 1, 0, 0]) nm0_spec_PutTimed (kt0_spec_PutTimed (fin_spec_PutTimed list0 key1 until2 kk)) n (can0_spec_PutTimed key1 list0 until2 xi9 xout8)) (fun key1 list0 xi10 xout8' => ∃ j, iter (evF TT cs_spec_PutTimed 75 an_spec_PutTimed Try.f86 [1, 1, 1, 1, 1, 0, 1, 0, 0]) nm1_spec_PutTimed (kt1_spec_PutTimed (fin_spec_PutTimed list0 key1 until2 kk)) j (can1_spec_PutTimed key1 list0 xi10 xout8')) := by kernel_rfl
theorem l0_spec_PutTimed (list0 : List (Int × Int)) (key1 : Int) (until2 : Int) (kk : AV → List A1 → Prop) : ∀ (n : Nat) (xi9 : Int) (xout8 : List (Int × Int)), iter (evF TT cs_spec_PutTimed 75 an_spec_PutTimed Try.f86 [1, 1, 1, 0, 1, 0, 0]) nm0_spec_PutTimed (kt0_spec_PutTimed (fin_spec_PutTimed list0 key1 until2 kk)) n (can0_spec_PutTimed key1 list0 until2 xi9 xout8) = L0_spec_PutTimed key1 list0 until2 (fun r0 r1 => kk (.tup [.c (.ro .ii r0), .c (.v (.bool r1))]) []) n xi9 xout8 := by
  intro n
  induction n generalizing list0 key1 until2 with
  | zero => intros; rfl
  | succ n ih =>
    intro xi9 xout8
    rw [r0_spec_PutTimed list0 key1 until2 kk n xi9 xout8]
    have hb : ∀ (list0 : List (Int × Int)) (key1 : Int) (until2 : Int), (fun xi9 xout8 => iter (evF TT cs_spec_PutTimed 75 an_spec_PutTimed Try.f86 [1, 1, 1, 0, 1, 0, 0]) nm0_spec_PutTimed (kt0_spec_PutTimed (fin_spec_PutTimed list0 key1 until2 kk)) n (can0_spec_PutTimed key1 list0 until2 xi9 xout8)) = L0_spec_PutTimed key1 list0 until2 (fun r0 r1 => kk (.tup [.c (.ro .ii r0), .c (.v (.bool r1))]) []) n := by
      intro list0 key1 until2
      funext xi9 xout8; exact ih list0 key1 until2 xi9 xout8
    have hi1 : (fun key1 list0 xi10 xout8' => ∃ j, iter (evF TT cs_spec_PutTimed 75 an_spec_PutTimed Try.f86 [1, 1, 1, 1, 1, 0, 1, 0, 0]) nm1_spec_PutTimed (kt1_spec_PutTimed (fin_spec_PutTimed list0 key1 until2 kk)) j (can1_spec_PutTimed key1 list0 xi10 xout8')) = (fun key1 list0 xi10 xout8' => ∃ j, L1_spec_PutTimed key1 list0 (fun r0 r1 => kk (.tup [.c (.ro .ii r0), .c (.v (.bool r1))]) []) j xi10 xout8') := by
      funext key1 list0 xi10 xout8'
      refine congrArg Exists (funext fun j => ?_)
      rw [l1_spec_PutTimed list0 key1 until2 kk j xi10 xout8']
    rw [hb, hi1]
    rfl
theorem g_spec_PutTimed (list0 : List (Int × Int)) (key1 : Int) (until2 : Int) (kk : AV → List A1 → Prop) :
    ev TT cs_spec_PutTimed 75 an_spec_PutTimed (Try.f86.body.getD .skip) (st0 con_spec_PutTimed [.c (.ro .ii list0), .c (.v (.int .i64 key1)), .c (.v (.int .i64 until2))]) (fin TT con_spec_PutTimed Try.f86.results.toList [.c (.sl .ii), .c .sc] [.c (.ro .ii list0), .c (.v (.int .i64 key1)), .c (.v (.int .i64 until2))] kk) = G_spec_PutTimed list0 key1 until2 (fun r0 r1 => kk (.tup [.c (.ro .ii r0), .c (.v (.bool r1))]) []) (fun key1 list0 until2 xi9 xout8 => ∃ j, iter (evF TT cs_spec_PutTimed 75 an_spec_PutTimed Try.f86 [1, 1, 1, 0, 1, 0, 0]) nm0_spec_PutTimed (kt0_spec_PutTimed (fin_spec_PutTimed list0 key1 until2 kk)) j (can0_spec_PutTimed key1 list0 until2 xi9 xout8)) := by kernel_rfl
theorem e_spec_PutTimed (list0 : List (Int × Int)) (key1 : Int) (until2 : Int) (kk : AV → List A1 → Prop) :
    ev TT cs_spec_PutTimed 75 an_spec_PutTimed (Try.f86.body.getD .skip) (st0 con_spec_PutTimed [.c (.ro .ii list0), .c (.v (.int .i64 key1)), .c (.v (.int .i64 until2))]) (fin TT con_spec_PutTimed Try.f86.results.toList [.c (.sl .ii), .c .sc] [.c (.ro .ii list0), .c (.v (.int .i64 key1)), .c (.v (.int .i64 until2))] kk) = S_spec_PutTimed list0 key1 until2 (fun r0 r1 => kk (.tup [.c (.ro .ii r0), .c (.v (.bool r1))]) []) := by
  rw [g_spec_PutTimed]
  have hi0 : (fun key1 list0 until2 xi9 xout8 => ∃ j, iter (evF TT cs_spec_PutTimed 75 an_spec_PutTimed Try.f86 [1, 1, 1, 0, 1, 0, 0]) nm0_spec_PutTimed (kt0_spec_PutTimed (fin_spec_PutTimed list0 key1 until2 kk)) j (can0_spec_PutTimed key1 list0 until2 xi9 xout8)) = (fun key1 list0 until2 xi9 xout8 => ∃ j, L0_spec_PutTimed key1 list0 until2 (fun r0 r1 => kk (.tup [.c (.ro .ii r0), .c (.v (.bool r1))]) []) j xi9 xout8) := by
    funext key1 list0 until2 xi9 xout8
    refine congrArg Exists (funext fun j => ?_)
    rw [l0_spec_PutTimed list0 key1 until2 kk j xi9 xout8]
  rw [hi0]
  rfl
theorem clok_spec_PutTimed : ConOK Try.prog cl_spec_PutTimed := consCons h_spec_inRange ⟨Try.f31, Try.func31, by kernel_rfl, ne_of_beq (by kernel_rfl)⟩ (consCons h_spec_validTimed ⟨Try.f46, Try.func46, by kernel_rfl, ne_of_beq (by kernel_rfl)⟩ (consNil))
theorem cok_spec_PutTimed : ConsOK Try.prog 75 cs_spec_PutTimed := ⟨clok_spec_PutTimed, inlNil, ovNil⟩
theorem i_spec_PutTimed {vs : List A1} {kk : AV → List A1 → Prop} {motive : List A1 → Prop} (h : con_spec_PutTimed.F vs kk) (H : ∀ (list0 : List (Int × Int)) (key1 : Int) (until2 : Int), F_spec_PutTimed list0 key1 until2 (fun r0 r1 => kk (.tup [.c (.ro .ii r0), .c (.v (.bool r1))]) []) → motive [.c (.ro .ii list0), .c (.v (.int .i64 key1)), .c (.v (.int .i64 until2))]) : motive vs := by
  unfold con_spec_PutTimed at h
  dsimp only at h
  split at h
  · exact H _ _ _ h
  · exact h.elim
theorem h_spec_PutTimed : Holds Try.prog 86 con_spec_PutTimed := by
  refine holds_of_ev (rt := [.c (.sl .ii), .c .sc]) (T := TT) (Γ := cs_spec_PutTimed) (an := an_spec_PutTimed) (N := 75) (c := Try.f86.body.getD .skip) Try.func86 (by kernel_rfl) Try.ntmps86 (by decide) (by decide) mixed tabOK cok_spec_PutTimed (by kernel_rfl) ?_
  intro vs kk _ hF
  exact i_spec_PutTimed (motive := fun vs => Goes (ev TT cs_spec_PutTimed 75 an_spec_PutTimed (Try.f86.body.getD .skip) (st0 con_spec_PutTimed vs) (fin TT con_spec_PutTimed Try.f86.results.toList [.c (.sl .ii), .c .sc] vs kk))) hF (fun list0 key1 until2 hF => goes_of (e_spec_PutTimed list0 key1 until2 kk) (F_spec_PutTimed_S hF))
def con_spec_someTimed : Con := ⟨[.mu], true, [.ptr [.sl .u8, .sc]], fun vs k => match vs with
    | [.ptr [.ro .u8 r0b, .v (.int .i64 r0p)]] => F_spec_someTimed r0b r0p (fun r0 r1 r2 => k (.one (.c (.ro .ii r0))) [.ptr [.ro .u8 r1, .v (.int .i64 r2)]])
    | _ => False, false⟩
def cl_spec_someTimed : List (FuncId × Con) := [(69, con_spec_reader_pick), (70, con_spec_reader_one), (86, con_spec_PutTimed)]
def nm0_spec_someTimed : List NStep := [.own 3 .ii 90000, .keep [0, 3, 4] [100000, 90000]]
def an_spec_someTimed : Ann := ⟨[], [(3, nm0_spec_someTimed)], [], []⟩
def cs_spec_someTimed : Cons := ⟨cl_spec_someTimed, [], 0, [], [], []⟩
def can0_spec_someTimed (xn4 : Int) (xb100000c0 : List Int) (xb100000c1 : Int) (xout3 : List (Int × Int)) : St := ⟨[(0, .one (.c (.pb 100000 0))), (3, .one (.c (.ow 90000))), (4, .one (.c (.v (.int .i64 xn4))))], [(100000, .box [.ro .u8 xb100000c0, .v (.int .i64 xb100000c1)]), (90000, .row .ii xout3)]⟩
def fin_spec_someTimed (r0b : List Int) (r0p : Int) (kk : AV → List A1 → Prop) : Kt := fin TT con_spec_someTimed Try.f68.results.toList [.c (.sl .ii)] [.ptr [.ro .u8 r0b, .v (.int .i64 r0p)]] kk
def kt0_spec_someTimed (kf : Kt) : Kt := blockK 0 (seqK (evF TT cs_spec_someTimed 31 an_spec_someTimed Try.f68 [1, 1, 1]) (kf))
theorem r0_spec_someTimed (r0b : List Int) (r0p : Int) (kk : AV → List A1 → Prop) (n : Nat) (xn4 : Int) (xb100000c0 : List Int) (xb100000c1 : Int) (xout3 : List (Int × Int)) :
    iter (evF TT cs_spec_someTimed 31 an_spec_someTimed Try.f68 [1, 1, 0, 1, 0, 0]) nm0_spec_someTimed (kt0_spec_someTimed (fin_spec_someTimed r0b r0p kk)) (n + 1) (can0_spec_someTimed xn4 xb100000c0 xb100000c1 xout3) = T0_spec_someTimed xn4 xb100000c0 xb100000c1 xout3 (fun r0 r1 r2 => kk (.one (.c (.ro .ii r0))) [.ptr [.ro .u8 r1, .v (.int .i64 r2)]]) (fun xn4 xb100000c0 xb100000c1 xout3 => iter (evF TT cs_spec_someTimed 31 an_spec_someTimed Try.f68 [1, 1, 0, 1, 0, 0]) nm0_spec_someTimed (kt0_spec_someTimed (fin_spec_someTimed r0b r0p kk)) n (can0_spec_someTimed xn4 xb100000c0 xb100000c1 xout3)) := by kernel_rfl
theorem l0_spec_someTimed (r0b : List Int) (r0p : Int) (kk : AV → List A1 → Prop) : ∀ (n : Nat) (xn4 : Int) (xb100000c0 : List Int) (xb100000c1 : Int) (xout3 : List (Int × Int)), iter (evF TT cs_spec_someTimed 31 an_spec_someTimed Try.f68 [1, 1, 0, 1, 0, 0]) nm0_spec_someTimed (kt0_spec_someTimed (fin_spec_someTimed r0b r0p kk)) n (can0_spec_someTimed xn4 xb100000c0 xb100000c1 xout3) = L0_spec_someTimed (fun r0 r1 r2 => kk (.one (.c (.ro .ii r0))) [.ptr [.ro .u8 r1, .v (.int .i64 r2)]]) n xn4 xb100000c0 xb100000c1 xout3 := by
  intro n
  induction n with
  | zero => intros; rfl
  | succ n ih =>
    intro xn4 xb100000c0 xb100000c1 xout3
    rw [r0_spec_someTimed r0b r0p kk n xn4 xb100000c0 xb100000c1 xout3]
    have hb : (fun xn4 xb100000c0 xb100000c1 xout3 => iter (evF TT cs_spec_someTimed 31 an_spec_someTimed Try.f68 [1, 1, 0, 1, 0, 0]) nm0_spec_someTimed (kt0_spec_someTimed (fin_spec_someTimed r0b r0p kk)) n (can0_spec_someTimed xn4 xb100000c0 xb100000c1 xout3)) = L0_spec_someTimed (fun r0 r1 r2 => kk (.one (.c (.ro .ii r0))) [.ptr [.ro .u8 r1, .v (.int .i64 r2)]]) n := by
      funext xn4 xb100000c0 xb100000c1 xout3; exact ih xn4 xb100000c0 xb100000c1 xout3
    rw [hb]
    rfl
theorem g_spec_someTimed (r0b : List Int) (r0p : Int) (kk : AV → List A1 → Prop) :
    ev TT cs_spec_someTimed 31 an_spec_someTimed (Try.f68.body.getD .skip) (st0 con_spec_someTimed [.ptr [.ro .u8 r0b, .v (.int .i64 r0p)]]) (fin TT con_spec_someTimed Try.f68.results.toList [.c (.sl .ii)] [.ptr [.ro .u8 r0b, .v (.int .i64 r0p)]] kk) = G_spec_someTimed r0b r0p (fun xn4 xb100000c0 xb100000c1 xout3 => ∃ j, iter (evF TT cs_spec_someTimed 31 an_spec_someTimed Try.f68 [1, 1, 0, 1, 0, 0]) nm0_spec_someTimed (kt0_spec_someTimed (fin_spec_someTimed r0b r0p kk)) j (can0_spec_someTimed xn4 xb100000c0 xb100000c1 xout3)) := by kernel_rfl
theorem e_spec_someTimed (r0b : List Int) (r0p : Int) (kk : AV → List A1 → Prop) :
    ev TT cs_spec_someTimed 31 an_spec_someTimed (Try.f68.body.getD .skip) (st0 con_spec_someTimed [.ptr [.ro .u8 r0b, .v (.int .i64 r0p)]]) (fin TT con_spec_someTimed Try.f68.results.toList [.c (.sl .ii)] [.ptr [.ro .u8 r0b, .v (.int .i64 r0p)]] kk) = S_spec_someTimed r0b r0p (fun r0 r1 r2 => kk (.one (.c (.ro .ii r0))) [.ptr [.ro .u8 r1, .v (.int .i64 r2)]]) := by
  rw [g_spec_someTimed]
  have hi0 : (fun xn4 xb100000c0 xb100000c1 xout3 => ∃ j, iter (evF TT cs_spec_someTimed 31 an_spec_someTimed Try.f68 [1, 1, 0, 1, 0, 0]) nm0_spec_someTimed (kt0_spec_someTimed (fin_spec_someTimed r0b r0p kk)) j (can0_spec_someTimed xn4 xb100000c0 xb100000c1 xout3)) = (fun xn4 xb100000c0 xb100000c1 xout3 => ∃ j, L0_spec_someTimed (fun r0 r1 r2 => kk (.one (.c (.ro .ii r0))) [.ptr [.ro .u8 r1, .v (.int .i64 r2)]]) j xn4 xb100000c0 xb100000c1 xout3) := by
    funext xn4 xb100000c0 xb100000c1 xout3
    refine congrArg Exists (funext fun j => ?_)
    rw [l0_spec_someTimed r0b r0p kk j xn4 xb100000c0 xb100000c1 xout3]
  rw [hi0]
  rfl
theorem clok_spec_someTimed : ConOK Try.prog cl_spec_someTimed := consCons h_spec_reader_pick ⟨Try.f69, Try.func69, by kernel_rfl, ne_of_beq (by kernel_rfl)⟩ (consCons h_spec_reader_one ⟨Try.f70, Try.func70, by kernel_rfl, ne_of_beq (by kernel_rfl)⟩ (consCons h_spec_PutTimed ⟨Try.f86, Try.func86, by kernel_rfl, ne_of_beq (by kernel_rfl)⟩ (consNil)))
theorem cok_spec_someTimed : ConsOK Try.prog 31 cs_spec_someTimed := ⟨clok_spec_someTimed, inlNil, ovNil⟩
theorem i_spec_someTimed {vs : List A1} {kk : AV → List A1 → Prop} {motive : List A1 → Prop} (h : con_spec_someTimed.F vs kk) (H : ∀ (r0b : List Int) (r0p : Int), F_spec_someTimed r0b r0p (fun r0 r1 r2 => kk (.one (.c (.ro .ii r0))) [.ptr [.ro .u8 r1, .v (.int .i64 r2)]]) → motive [.ptr [.ro .u8 r0b, .v (.int .i64 r0p)]]) : motive vs := by
  unfold con_spec_someTimed at h
  dsimp only at h
  split at h
  · exact H _ _ h
  · exact h.elim
theorem h_spec_someTimed : Holds Try.prog 68 con_spec_someTimed := by
  refine holds_of_ev (rt := [.c (.sl .ii)]) (T := TT) (Γ := cs_spec_someTimed) (an := an_spec_someTimed) (N := 31) (c := Try.f68.body.getD .skip) Try.func68 (by kernel_rfl) Try.ntmps68 (by decide) (by decide) mixed tabOK cok_spec_someTimed (by kernel_rfl) ?_
  intro vs kk _ hF
  exact i_spec_someTimed (motive := fun vs => Goes (ev TT cs_spec_someTimed 31 an_spec_someTimed (Try.f68.body.getD .skip) (st0 con_spec_someTimed vs) (fin TT con_spec_someTimed Try.f68.results.toList [.c (.sl .ii)] vs kk))) hF (fun r0b r0p hF => goes_of (e_spec_someTimed r0b r0p kk) (F_spec_someTimed_S hF))
def con_spec_anyTimed : Con := ⟨[.mu], true, [.ptr [.sl .u8, .sc]], fun vs k => match vs with
    | [.ptr [.ro .u8 r0b, .v (.int .i64 r0p)]] => F_spec_anyTimed r0b r0p (fun r0 r1 r2 => k (.one (.c (.ro .ii r0))) [.ptr [.ro .u8 r1, .v (.int .i64 r2)]])
    | _ => False, false⟩
def cl_spec_anyTimed : List (FuncId × Con) := [(68, con_spec_someTimed), (69, con_spec_reader_pick), (70, con_spec_reader_one)]
def an_spec_anyTimed : Ann := ⟨[], [], [], []⟩
def cs_spec_anyTimed : Cons := ⟨cl_spec_anyTimed, [], 0, [], [], []⟩
def fin_spec_anyTimed (r0b : List Int) (r0p : Int) (kk : AV → List A1 → Prop) : Kt := fin TT con_spec_anyTimed Try.f42.results.toList [.c (.sl .ii)] [.ptr [.ro .u8 r0b, .v (.int .i64 r0p)]] kk
theorem g_spec_anyTimed (r0b : List Int) (r0p : Int) (kk : AV → List A1 → Prop) :
    ev TT cs_spec_anyTimed 20 an_spec_anyTimed (Try.f42.body.getD .skip) (st0 con_spec_anyTimed [.ptr [.ro .u8 r0b, .v (.int .i64 r0p)]]) (fin TT con_spec_anyTimed Try.f42.results.toList [.c (.sl .ii)] [.ptr [.ro .u8 r0b, .v (.int .i64 r0p)]] kk) = G_spec_anyTimed r0b r0p (fun r0 r1 r2 => kk (.one (.c (.ro .ii r0))) [.ptr [.ro .u8 r1, .v (.int .i64 r2)]]) := by kernel_rfl
theorem e_spec_anyTimed (r0b : List Int) (r0p : Int) (kk : AV → List A1 → Prop) :
    ev TT cs_spec_anyTimed 20 an_spec_anyTimed (Try.f42.body.getD .skip) (st0 con_spec_anyTimed [.ptr [.ro .u8 r0b, .v (.int .i64 r0p)]]) (fin TT con_spec_anyTimed Try.f42.results.toList [.c (.sl .ii)] [.ptr [.ro .u8 r0b, .v (.int .i64 r0p)]] kk) = S_spec_anyTimed r0b r0p (fun r0 r1 r2 => kk (.one (.c (.ro .ii r0))) [.ptr [.ro .u8 r1, .v (.int .i64 r2)]]) := by
  rw [g_spec_anyTimed]
  rfl
theorem clok_spec_anyTimed : ConOK Try.prog cl_spec_anyTimed := consCons h_spec_someTimed ⟨Try.f68, Try.func68, by kernel_rfl, ne_of_beq (by kernel_rfl)⟩ (consCons h_spec_reader_pick ⟨Try.f69, Try.func69, by kernel_rfl, ne_of_beq (by kernel_rfl)⟩ (consCons h_spec_reader_one ⟨Try.f70, Try.func70, by kernel_rfl, ne_of_beq (by kernel_rfl)⟩ (consNil)))
theorem cok_spec_anyTimed : ConsOK Try.prog 20 cs_spec_anyTimed := ⟨clok_spec_anyTimed, inlNil, ovNil⟩
theorem i_spec_anyTimed {vs : List A1} {kk : AV → List A1 → Prop} {motive : List A1 → Prop} (h : con_spec_anyTimed.F vs kk) (H : ∀ (r0b : List Int) (r0p : Int), F_spec_anyTimed r0b r0p (fun r0 r1 r2 => kk (.one (.c (.ro .ii r0))) [.ptr [.ro .u8 r1, .v (.int .i64 r2)]]) → motive [.ptr [.ro .u8 r0b, .v (.int .i64 r0p)]]) : motive vs := by
  unfold con_spec_anyTimed at h
  dsimp only at h
  split at h
  · exact H _ _ h
  · exact h.elim
theorem h_spec_anyTimed : Holds Try.prog 42 con_spec_anyTimed := by
  refine holds_of_ev (rt := [.c (.sl .ii)]) (T := TT) (Γ := cs_spec_anyTimed) (an := an_spec_anyTimed) (N := 20) (c := Try.f42.body.getD .skip) Try.func42 (by kernel_rfl) Try.ntmps42 (by decide) (by decide) mixed tabOK cok_spec_anyTimed (by kernel_rfl) ?_
  intro vs kk _ hF
  exact i_spec_anyTimed (motive := fun vs => Goes (ev TT cs_spec_anyTimed 20 an_spec_anyTimed (Try.f42.body.getD .skip) (st0 con_spec_anyTimed vs) (fin TT con_spec_anyTimed Try.f42.results.toList [.c (.sl .ii)] vs kk))) hF (fun r0b r0p hF => goes_of (e_spec_anyTimed r0b r0p kk) (F_spec_anyTimed_S hF))
def con_spec_DrawWheelOf : Con := ⟨[.rd], true, [.c (.sl .u8)], fun vs k => match vs with
    | [.c (.ro .u8 code0)] => F_spec_DrawWheelOf code0 (fun r0 => k (.one (.c (.ro .ii r0))) [])
    | _ => False, false⟩
def cl_spec_DrawWheelOf : List (FuncId × Con) := [(42, con_spec_anyTimed), (43, con_spec_newReader)]
def an_spec_DrawWheelOf : Ann := ⟨[], [], [], []⟩
def cs_spec_DrawWheelOf : Cons := ⟨cl_spec_DrawWheelOf, [], 0, [], [], []⟩
def fin_spec_DrawWheelOf (code0 : List Int) (kk : AV → List A1 → Prop) : Kt := fin TT con_spec_DrawWheelOf Try.f16.results.toList [.c (.sl .ii)] [.c (.ro .u8 code0)] kk
theorem g_spec_DrawWheelOf (code0 : List Int) (kk : AV → List A1 → Prop) :
    ev TT cs_spec_DrawWheelOf 6 an_spec_DrawWheelOf (Try.f16.body.getD .skip) (st0 con_spec_DrawWheelOf [.c (.ro .u8 code0)]) (fin TT con_spec_DrawWheelOf Try.f16.results.toList [.c (.sl .ii)] [.c (.ro .u8 code0)] kk) = G_spec_DrawWheelOf code0 (fun r0 => kk (.one (.c (.ro .ii r0))) []) := by kernel_rfl
theorem e_spec_DrawWheelOf (code0 : List Int) (kk : AV → List A1 → Prop) :
    ev TT cs_spec_DrawWheelOf 6 an_spec_DrawWheelOf (Try.f16.body.getD .skip) (st0 con_spec_DrawWheelOf [.c (.ro .u8 code0)]) (fin TT con_spec_DrawWheelOf Try.f16.results.toList [.c (.sl .ii)] [.c (.ro .u8 code0)] kk) = S_spec_DrawWheelOf code0 (fun r0 => kk (.one (.c (.ro .ii r0))) []) := by
  rw [g_spec_DrawWheelOf]
  rfl
theorem clok_spec_DrawWheelOf : ConOK Try.prog cl_spec_DrawWheelOf := consCons h_spec_anyTimed ⟨Try.f42, Try.func42, by kernel_rfl, ne_of_beq (by kernel_rfl)⟩ (consCons h_spec_newReader ⟨Try.f43, Try.func43, by kernel_rfl, ne_of_beq (by kernel_rfl)⟩ (consNil))
theorem cok_spec_DrawWheelOf : ConsOK Try.prog 6 cs_spec_DrawWheelOf := ⟨clok_spec_DrawWheelOf, inlNil, ovNil⟩
theorem i_spec_DrawWheelOf {vs : List A1} {kk : AV → List A1 → Prop} {motive : List A1 → Prop} (h : con_spec_DrawWheelOf.F vs kk) (H : ∀ (code0 : List Int), F_spec_DrawWheelOf code0 (fun r0 => kk (.one (.c (.ro .ii r0))) []) → motive [.c (.ro .u8 code0)]) : motive vs := by
  unfold con_spec_DrawWheelOf at h
  dsimp only at h
  split at h
  · exact H _ h
  · exact h.elim
theorem h_spec_DrawWheelOf : Holds Try.prog 16 con_spec_DrawWheelOf := by
  refine holds_of_ev (rt := [.c (.sl .ii)]) (T := TT) (Γ := cs_spec_DrawWheelOf) (an := an_spec_DrawWheelOf) (N := 6) (c := Try.f16.body.getD .skip) Try.func16 (by kernel_rfl) Try.ntmps16 (by decide) (by decide) mixed tabOK cok_spec_DrawWheelOf (by kernel_rfl) ?_
  intro vs kk _ hF
  exact i_spec_DrawWheelOf (motive := fun vs => Goes (ev TT cs_spec_DrawWheelOf 6 an_spec_DrawWheelOf (Try.f16.body.getD .skip) (st0 con_spec_DrawWheelOf vs) (fin TT con_spec_DrawWheelOf Try.f16.results.toList [.c (.sl .ii)] vs kk))) hF (fun code0 hF => goes_of (e_spec_DrawWheelOf code0 kk) (F_spec_DrawWheelOf_S hF))
def con_impl_validKey : Con := ⟨[.rd], true, [.c (.sc)], fun vs k => match vs with
    | [.c (.v (.int .i64 key0))] => F_impl_validKey key0 (fun r0 => k (.one (.c (.v (.bool r0)))) [])
    | _ => False, false⟩
def cl_impl_validKey : List (FuncId × Con) := []
def an_impl_validKey : Ann := ⟨[], [], [], []⟩
def cs_impl_validKey : Cons := ⟨cl_impl_validKey, [], 0, [], [], []⟩
def fin_impl_validKey (key0 : Int) (kk : AV → List A1 → Prop) : Kt := fin TT con_impl_validKey Try.f47.results.toList [.c .sc] [.c (.v (.int .i64 key0))] kk
theorem g_impl_validKey (key0 : Int) (kk : AV → List A1 → Prop) :
    ev TT cs_impl_validKey 9 an_impl_validKey (Try.f47.body.getD .skip) (st0 con_impl_validKey [.c (.v (.int .i64 key0))]) (fin TT con_impl_validKey Try.f47.results.toList [.c .sc] [.c (.v (.int .i64 key0))] kk) = G_impl_validKey key0 (fun r0 => kk (.one (.c (.v (.bool r0)))) []) := by kernel_rfl
theorem e_impl_validKey (key0 : Int) (kk : AV → List A1 → Prop) :
    ev TT cs_impl_validKey 9 an_impl_validKey (Try.f47.body.getD .skip) (st0 con_impl_validKey [.c (.v (.int .i64 key0))]) (fin TT con_impl_validKey Try.f47.results.toList [.c .sc] [.c (.v (.int .i64 key0))] kk) = S_impl_validKey key0 (fun r0 => kk (.one (.c (.v (.bool r0)))) []) := by
  rw [g_impl_validKey]
  rfl
theorem clok_impl_validKey : ConOK Try.prog cl_impl_validKey := consNil
theorem cok_impl_validKey : ConsOK Try.prog 9 cs_impl_validKey := ⟨clok_impl_validKey, inlNil, ovNil⟩
theorem i_impl_validKey {vs : List A1} {kk : AV → List A1 → Prop} {motive : List A1 → Prop} (h : con_impl_validKey.F vs kk) (H : ∀ (key0 : Int), F_impl_validKey key0 (fun r0 => kk (.one (.c (.v (.bool r0)))) []) → motive [.c (.v (.int .i64 key0))]) : motive vs := by
  unfold con_impl_validKey at h
  dsimp only at h
  split at h
  · exact H _ h
  · exact h.elim
theorem h_impl_validKey : Holds Try.prog 47 con_impl_validKey := by
  refine holds_of_ev (rt := [.c .sc]) (T := TT) (Γ := cs_impl_validKey) (an := an_impl_validKey) (N := 9) (c := Try.f47.body.getD .skip) Try.func47 (by kernel_rfl) Try.ntmps47 (by decide) (by decide) mixed tabOK cok_impl_validKey (by kernel_rfl) ?_
  intro vs kk _ hF
  exact i_impl_validKey (motive := fun vs => Goes (ev TT cs_impl_validKey 9 an_impl_validKey (Try.f47.body.getD .skip) (st0 con_impl_validKey vs) (fin TT con_impl_validKey Try.f47.results.toList [.c .sc] vs kk))) hF (fun key0 hF => goes_of (e_impl_validKey key0 kk) (F_impl_validKey_S hF))
def con_impl_validTime : Con := ⟨[.rd], true, [.c (.sc)], fun vs k => match vs with
    | [.c (.v (.int .i64 time0))] => F_impl_validTime time0 (fun r0 => k (.one (.c (.v (.bool r0)))) [])
    | _ => False, false⟩
def cl_impl_validTime : List (FuncId × Con) := []
def an_impl_validTime : Ann := ⟨[], [], [], []⟩
def cs_impl_validTime : Cons := ⟨cl_impl_validTime, [], 0, [], [], []⟩
def fin_impl_validTime (time0 : Int) (kk : AV → List A1 → Prop) : Kt := fin TT con_impl_validTime Try.f48.results.toList [.c .sc] [.c (.v (.int .i64 time0))] kk
theorem g_impl_validTime (time0 : Int) (kk : AV → List A1 → Prop) :
    ev TT cs_impl_validTime 9 an_impl_validTime (Try.f48.body.getD .skip) (st0 con_impl_validTime [.c (.v (.int .i64 time0))]) (fin TT con_impl_validTime Try.f48.results.toList [.c .sc] [.c (.v (.int .i64 time0))] kk) = G_impl_validTime time0 (fun r0 => kk (.one (.c (.v (.bool r0)))) []) := by kernel_rfl
theorem e_impl_validTime (time0 : Int) (kk : AV → List A1 → Prop) :
    ev TT cs_impl_validTime 9 an_impl_validTime (Try.f48.body.getD .skip) (st0 con_impl_validTime [.c (.v (.int .i64 time0))]) (fin TT con_impl_validTime Try.f48.results.toList [.c .sc] [.c (.v (.int .i64 time0))] kk) = S_impl_validTime time0 (fun r0 => kk (.one (.c (.v (.bool r0)))) []) := by
  rw [g_impl_validTime]
  rfl
theorem clok_impl_validTime : ConOK Try.prog cl_impl_validTime := consNil
theorem cok_impl_validTime : ConsOK Try.prog 9 cs_impl_validTime := ⟨clok_impl_validTime, inlNil, ovNil⟩
theorem i_impl_validTime {vs : List A1} {kk : AV → List A1 → Prop} {motive : List A1 → Prop} (h : con_impl_validTime.F vs kk) (H : ∀ (time0 : Int), F_impl_validTime time0 (fun r0 => kk (.one (.c (.v (.bool r0)))) []) → motive [.c (.v (.int .i64 time0))]) : motive vs := by
  unfold con_impl_validTime at h
  dsimp only at h
  split at h
  · exact H _ h
  · exact h.elim
theorem h_impl_validTime : Holds Try.prog 48 con_impl_validTime := by
  refine holds_of_ev (rt := [.c .sc]) (T := TT) (Γ := cs_impl_validTime) (an := an_impl_validTime) (N := 9) (c := Try.f48.body.getD .skip) Try.func48 (by kernel_rfl) Try.ntmps48 (by decide) (by decide) mixed tabOK cok_impl_validTime (by kernel_rfl) ?_
  intro vs kk _ hF
  exact i_impl_validTime (motive := fun vs => Goes (ev TT cs_impl_validTime 9 an_impl_validTime (Try.f48.body.getD .skip) (st0 con_impl_validTime vs) (fin TT con_impl_validTime Try.f48.results.toList [.c .sc] vs kk))) hF (fun time0 hF => goes_of (e_impl_validTime time0 kk) (F_impl_validTime_S hF))
def con_impl_ValidTimed : Con := ⟨[.rd], true, [.c (.sl .ii)], fun vs k => match vs with
    | [.c (.ro .ii list0)] => F_impl_ValidTimed list0 (fun r0 => k (.one (.c (.v (.bool r0)))) [])
    | _ => False, false⟩
def cl_impl_ValidTimed : List (FuncId × Con) := [(47, con_impl_validKey), (48, con_impl_validTime)]
def nm0_impl_ValidTimed : List NStep := [.keep [0, 8, 9, 10] []]
def an_impl_ValidTimed : Ann := ⟨[(8, .take 0 (.take 1 (.take 2 (.take 3 (.take 4 (.take 5 (.take 6 (.take 7 (.take 8 (.take 9 (.take 10 (.take 11 (.take 12 (.done))))))))))))), [64])], [(4, nm0_impl_ValidTimed)], [], []⟩
def cs_impl_ValidTimed : Cons := ⟨cl_impl_ValidTimed, [], 0, [], [], []⟩
def can0_impl_ValidTimed (list0 : List (Int × Int)) (xt9 : Int) (xt10 : Int) : St := ⟨[(0, .one (.c (.ro .ii list0))), (8, .one (.c (.ro .ii list0))), (9, .one (.c (.v (.int .i64 xt9)))), (10, .one (.c (.v (.int .i64 xt10))))], []⟩
def fin_impl_ValidTimed (list0 : List (Int × Int)) (kk : AV → List A1 → Prop) : Kt := fin TT con_impl_ValidTimed Try.f44.results.toList [.c .sc] [.c (.ro .ii list0)] kk
def kt0_impl_ValidTimed (kf : Kt) : Kt := blockK 0 (seqK (evF TT cs_impl_ValidTimed 39 an_impl_ValidTimed Try.f44 [1, 1, 1]) (kf))
theorem r0_impl_ValidTimed (list0 : List (Int × Int)) (xt9 : Int) (kk : AV → List A1 → Prop) (n : Nat) (xt10 : Int) :
    iter (evF TT cs_impl_ValidTimed 39 an_impl_ValidTimed Try.f44 [1, 1, 0, 1, 0, 0]) nm0_impl_ValidTimed (kt0_impl_ValidTimed (fin_impl_ValidTimed list0 kk)) (n + 1) (can0_impl_ValidTimed list0 xt9 xt10) = T0_impl_ValidTimed list0 xt9 xt10 (fun r0 => kk (.one (.c (.v (.bool r0)))) []) (fun xt10 => iter (evF TT cs_impl_ValidTimed 39 an_impl_ValidTimed Try.f44 [1, 1, 0, 1, 0, 0]) nm0_impl_ValidTimed (kt0_impl_ValidTimed (fin_impl_ValidTimed list0 kk)) n (can0_impl_ValidTimed list0 xt9 xt10)) := by kernel_rfl
theorem l0_impl_ValidTimed (list0 : List (Int × Int)) (xt9 : Int) (kk : AV → List A1 → Prop) : ∀ (n : Nat) (xt10 : Int), iter (evF TT cs_impl_ValidTimed 39 an_impl_ValidTimed Try.f44 [1, 1, 0, 1, 0, 0]) nm0_impl_ValidTimed (kt0_impl_ValidTimed (fin_impl_ValidTimed list0 kk)) n (can0_impl_ValidTimed list0 xt9 xt10) = L0_impl_ValidTimed list0 xt9 (fun r0 => kk (.one (.c (.v (.bool r0)))) []) n xt10 := by
  intro n
  induction n with
  | zero => intros; rfl
  | succ n ih =>
    intro xt10
    rw [r0_impl_ValidTimed list0 xt9 kk n xt10]
    have hb : (fun xt10 => iter (evF TT cs_impl_ValidTimed 39 an_impl_ValidTimed Try.f44 [1, 1, 0, 1, 0, 0]) nm0_impl_ValidTimed (kt0_impl_ValidTimed (fin_impl_ValidTimed list0 kk)) n (can0_impl_ValidTimed list0 xt9 xt10)) = L0_impl_ValidTimed list0 xt9 (fun r0 => kk (.one (.c (.v (.bool r0)))) []) n := by
      funext xt10; exact ih xt10
    rw [hb]
    rfl
theorem g_impl_ValidTimed (list0 : List (Int × Int)) (kk : AV → List A1 → Prop) :
    ev TT cs_impl_ValidTimed 39 an_impl_ValidTimed (Try.f44.body.getD .skip) (st0 con_impl_ValidTimed [.c (.ro .ii list0)]) (fin TT con_impl_ValidTimed Try.f44.results.toList [.c .sc] [.c (.ro .ii list0)] kk) = G_impl_ValidTimed list0 (fun r0 => kk (.one (.c (.v (.bool r0)))) []) (fun list0 xt9 xt10 => ∃ j, iter (evF TT cs_impl_ValidTimed 39 an_impl_ValidTimed Try.f44 [1, 1, 0, 1, 0, 0]) nm0_impl_ValidTimed (kt0_impl_ValidTimed (fin_impl_ValidTimed list0 kk)) j (can0_impl_ValidTimed list0 xt9 xt10)) := by kernel_rfl
theorem e_impl_ValidTimed (list0 : List (Int × Int)) (kk : AV → List A1 → Prop) :
    ev TT cs_impl_ValidTimed 39 an_impl_ValidTimed (Try.f44.body.getD .skip) (st0 con_impl_ValidTimed [.c (.ro .ii list0)]) (fin TT con_impl_ValidTimed Try.f44.results.toList [.c .sc] [.c (.ro .ii list0)] kk) = S_impl_ValidTimed list0 (fun r0 => kk (.one (.c (.v (.bool r0)))) []) := by
  rw [g_impl_ValidTimed]
  have hi0 : (fun list0 xt9 xt10 => ∃ j, iter (evF TT cs_impl_ValidTimed 39 an_impl_ValidTimed Try.f44 [1, 1, 0, 1, 0, 0]) nm0_impl_ValidTimed (kt0_impl_ValidTimed (fin_impl_ValidTimed list0 kk)) j (can0_impl_ValidTimed list0 xt9 xt10)) = (fun list0 xt9 xt10 => ∃ j, L0_impl_ValidTimed list0 xt9 (fun r0 => kk (.one (.c (.v (.bool r0)))) []) j xt10) := by
    funext list0 xt9 xt10
    refine congrArg Exists (funext fun j => ?_)
    rw [l0_impl_ValidTimed list0 xt9 kk j xt10]
  rw [hi0]
  rfl
theorem clok_impl_ValidTimed : ConOK Try.prog cl_impl_ValidTimed := consCons h_impl_validKey ⟨Try.f47, Try.func47, by kernel_rfl, ne_of_beq (by kernel_rfl)⟩ (consCons h_impl_validTime ⟨Try.f48, Try.func48, by kernel_rfl, ne_of_beq (by kernel_rfl)⟩ (consNil))
theorem cok_impl_ValidTimed : ConsOK Try.prog 39 cs_impl_ValidTimed := ⟨clok_impl_ValidTimed, inlNil, ovNil⟩
theorem i_impl_ValidTimed {vs : List A1} {kk : AV → List A1 → Prop} {motive : List A1 → Prop} (h : con_impl_ValidTimed.F vs kk) (H : ∀ (list0 : List (Int × Int)), F_impl_ValidTimed list0 (fun r0 => kk (.one (.c (.v (.bool r0)))) []) → motive [.c (.ro .ii list0)]) : motive vs := by
  unfold con_impl_ValidTimed at h
  dsimp only at h
  split at h
  · exact H _ h
  · exact h.elim
theorem h_impl_ValidTimed : Holds Try.prog 44 con_impl_ValidTimed := by
  refine holds_of_ev (rt := [.c .sc]) (T := TT) (Γ := cs_impl_ValidTimed) (an := an_impl_ValidTimed) (N := 39) (c := Try.f44.body.getD .skip) Try.func44 (by kernel_rfl) Try.ntmps44 (by decide) (by decide) mixed tabOK cok_impl_ValidTimed (by kernel_rfl) ?_
  intro vs kk _ hF
  exact i_impl_ValidTimed (motive := fun vs => Goes (ev TT cs_impl_ValidTimed 39 an_impl_ValidTimed (Try.f44.body.getD .skip) (st0 con_impl_ValidTimed vs) (fin TT con_impl_ValidTimed Try.f44.results.toList [.c .sc] vs kk))) hF (fun list0 hF => goes_of (e_impl_ValidTimed list0 kk) (F_impl_ValidTimed_S hF))
def con_impl_WheelOf : Con := ⟨[.rd], false, [.c (.sl .ii)], fun vs k => match vs with
    | [.c (.ro .ii list0)] => F_impl_WheelOf list0 (fun r0 => k (.one (.c (.rol .int r0))) [])
    | _ => False, false⟩
def cl_impl_WheelOf : List (FuncId × Con) := [(44, con_impl_ValidTimed)]
def nm0_impl_WheelOf : List NStep := [.ownc 160 0 .int 90000, .ownc 160 1 .int 90001, .ownc 160 2 .int 90002, .ownc 160 3 .int 90003, .ownc 160 4 .int 90004, .ownc 160 5 .int 90005, .ownc 160 6 .int 90006, .ownc 160 7 .int 90007, .keep [3, 11, 12, 13] [160, 90000, 90001, 90002, 90003, 90004, 90005, 90006, 90007]]
def an_impl_WheelOf : Ann := ⟨[(8, .take 0 (.take 1 (.take 2 (.take 3 (.take 4 (.take 6 (.take 7 (.alt 5 (.alt 8 (.alt 9 (.take 10 (.alt 11 (.done) (.none))) (.none)) (.none)) (.alt 8 (.alt 5 (.alt 9 (.take 10 (.alt 11 (.done) (.none))) (.none)) (.none)) (.none))))))))), [80])], [(5, nm0_impl_WheelOf)], [], [(8, .sp 6 8), (10, .fz 3)]⟩
def cs_impl_WheelOf : Cons := ⟨cl_impl_WheelOf, [], 0, [], [], []⟩
def can0_impl_WheelOf (list0 : List (Int × Int)) (xt12 : Int) (xt13 : Int) (xb10c0 : List Int) (xb10c1 : List Int) (xb10c2 : List Int) (xb10c3 : List Int) (xb10c4 : List Int) (xb10c5 : List Int) (xb10c6 : List Int) (xb10c7 : List Int) : St := ⟨[(3, .one (.c (.sb 160 8))), (11, .one (.c (.ro .ii list0))), (12, .one (.c (.v (.int .i64 xt12)))), (13, .one (.c (.v (.int .i64 xt13))))], [(160, .box [.ow 90000, .ow 90001, .ow 90002, .ow 90003, .ow 90004, .ow 90005, .ow 90006, .ow 90007]), (90000, .row .int xb10c0), (90001, .row .int xb10c1), (90002, .row .int xb10c2), (90003, .row .int xb10c3), (90004, .row .int xb10c4), (90005, .row .int xb10c5), (90006, .row .int xb10c6), (90007, .row .int xb10c7)]⟩
def fin_impl_WheelOf (list0 : List (Int × Int)) (kk : AV → List A1 → Prop) : Kt := fin TT con_impl_WheelOf Try.f17.results.toList [.c (.sll .int)] [.c (.ro .ii list0)] kk
def kt0_impl_WheelOf (kf : Kt) : Kt := blockK 0 (seqK (evF TT cs_impl_WheelOf 34 an_impl_WheelOf Try.f17 [1, 1, 1, 1]) (kf))
theorem r0_impl_WheelOf (list0 : List (Int × Int)) (xt12 : Int) (kk : AV → List A1 → Prop) (n : Nat) (xt13 : Int) (xb10c0 : List Int) (xb10c1 : List Int) (xb10c2 : List Int) (xb10c3 : List Int) (xb10c4 : List Int) (xb10c5 : List Int) (xb10c6 : List Int) (xb10c7 : List Int) :
    iter (evF TT cs_impl_WheelOf 34 an_impl_WheelOf Try.f17 [1, 1, 1, 0, 1, 0, 0]) nm0_impl_WheelOf (kt0_impl_WheelOf (fin_impl_WheelOf list0 kk)) (n + 1) (can0_impl_WheelOf list0 xt12 xt13 xb10c0 xb10c1 xb10c2 xb10c3 xb10c4 xb10c5 xb10c6 xb10c7) = T0_impl_WheelOf list0 xt12 xt13 xb10c0 xb10c1 xb10c2 xb10c3 xb10c4 xb10c5 xb10c6 xb10c7 (fun r0 => kk (.one (.c (.rol .int r0))) []) (fun xt13 xb10c0 xb10c1 xb10c2 xb10c3 xb10c4 xb10c5 xb10c6 xb10c7 => iter (evF TT cs_impl_WheelOf 34 an_impl_WheelOf Try.f17 [1, 1, 1, 0, 1, 0, 0]) nm0_impl_WheelOf (kt0_impl_WheelOf (fin_impl_WheelOf list0 kk)) n (can0_impl_WheelOf list0 xt12 xt13 xb10c0 xb10c1 xb10c2 xb10c3 xb10c4 xb10c5 xb10c6 xb10c7)) := by kernel_rfl
theorem l0_impl_WheelOf (list0 : List (Int × Int)) (xt12 : Int) (kk : AV → List A1 → Prop) : ∀ (n : Nat) (xt13 : Int) (xb10c0 : List Int) (xb10c1 : List Int) (xb10c2 : List Int) (xb10c3 : List Int) (xb10c4 : List Int) (xb10c5 : List Int) (xb10c6 : List Int) (xb10c7 : List Int), iter (evF TT cs_impl_WheelOf 34 an_impl_WheelOf Try.f17 [1, 1, 1, 0, 1, 0, 0]) nm0_impl_WheelOf (kt0_impl_WheelOf (fin_impl_WheelOf list0 kk)) n (can0_impl_WheelOf list0 xt12 xt13 xb10c0 xb10c1 xb10c2 xb10c3 xb10c4 xb10c5 xb10c6 xb10c7) = L0_impl_WheelOf list0 xt12 (fun r0 => kk (.one (.c (.rol .int r0))) []) n xt13 xb10c0 xb10c1 xb10c2 xb10c3 xb10c4 xb10c5 xb10c6 xb10c7 := by
  intro n
  induction n with
  | zero => intros; rfl
  | succ n ih =>
    intro xt13 xb10c0 xb10c1 xb10c2 xb10c3 xb10c4 xb10c5 xb10c6 xb10c7
    rw [r0_impl_WheelOf list0 xt12 kk n xt13 xb10c0 xb10c1 xb10c2 xb10c3 xb10c4 xb10c5 xb10c6 xb10c7]
    have hb : (fun xt13 xb10c0 xb10c1 xb10c2 xb10c3 xb10c4 xb10c5 xb10c6 xb10c7 => iter (evF TT cs_impl_WheelOf 34 an_impl_WheelOf Try.f17 [1, 1, 1, 0, 1, 0, 0]) nm0_impl_WheelOf (kt0_impl_WheelOf (fin_impl_WheelOf list0 kk)) n (can0_impl_WheelOf list0 xt12 xt13 xb10c0 xb10c1 xb10c2 xb10c3 xb10c4 xb10c5 xb10c6 xb10c7)) = L0_impl_WheelOf list0 xt12 (fun r0 => kk (.one (.c (.rol .int r0))) []) n := by
      funext xt13 xb10c0 xb10c1 xb10c2 xb10c3 xb10c4 xb10c5 xb10c6 xb10c7; exact ih xt13 xb10c0 xb10c1 xb10c2 xb10c3 xb10c4 xb10c5 xb10c6 xb10c7
    rw [hb]
    rw [T0_impl_WheelOf_eq]
    rfl
theorem g_impl_WheelOf (list0 : List (Int × Int)) (kk : AV → List A1 → Prop) :
    ev TT cs_impl_WheelOf 34 an_impl_WheelOf (Try.f17.body.getD .skip) (st0 con_impl_WheelOf [.c (.ro .ii list0)]) (fin TT con_impl_WheelOf Try.f17.results.toList [.c (.sll .int)] [.c (.ro .ii list0)] kk) = G_impl_WheelOf list0 (fun r0 => kk (.one (.c (.rol .int r0))) []) (fun list0 xt12 xt13 xb10c0 xb10c1 xb10c2 xb10c3 xb10c4 xb10c5 xb10c6 xb10c7 => ∃ j, iter (evF TT cs_impl_WheelOf 34 an_impl_WheelOf Try.f17 [1, 1, 1, 0, 1, 0, 0]) nm0_impl_WheelOf (kt0_impl_WheelOf (fin_impl_WheelOf list0 kk)) j (can0_impl_WheelOf list0 xt12 xt13 xb10c0 xb10c1 xb10c2 xb10c3 xb10c4 xb10c5 xb10c6 xb10c7)) := by kernel_rfl
theorem e_impl_WheelOf (list0 : List (Int × Int)) (kk : AV → List A1 → Prop) :
    ev TT cs_impl_WheelOf 34 an_impl_WheelOf (Try.f17.body.getD .skip) (st0 con_impl_WheelOf [.c (.ro .ii list0)]) (fin TT con_impl_WheelOf Try.f17.results.toList [.c (.sll .int)] [.c (.ro .ii list0)] kk) = S_impl_WheelOf list0 (fun r0 => kk (.one (.c (.rol .int r0))) []) := by
  rw [g_impl_WheelOf]
  have hi0 : (fun list0 xt12 xt13 xb10c0 xb10c1 xb10c2 xb10c3 xb10c4 xb10c5 xb10c6 xb10c7 => ∃ j, iter (evF TT cs_impl_WheelOf 34 an_impl_WheelOf Try.f17 [1, 1, 1, 0, 1, 0, 0]) nm0_impl_WheelOf (kt0_impl_WheelOf (fin_impl_WheelOf list0 kk)) j (can0_impl_WheelOf list0 xt12 xt13 xb10c0 xb10c1 xb10c2 xb10c3 xb10c4 xb10c5 xb10c6 xb10c7)) = (fun list0 xt12 xt13 xb10c0 xb10c1 xb10c2 xb10c3 xb10c4 xb10c5 xb10c6 xb10c7 => ∃ j, L0_impl_WheelOf list0 xt12 (fun r0 => kk (.one (.c (.rol .int r0))) []) j xt13 xb10c0 xb10c1 xb10c2 xb10c3 xb10c4 xb10c5 xb10c6 xb10c7) := by
    funext list0 xt12 xt13 xb10c0 xb10c1 xb10c2 xb10c3 xb10c4 xb10c5 xb10c6 xb10c7
    refine congrArg Exists (funext fun j => ?_)
    rw [l0_impl_WheelOf list0 xt12 kk j xt13 xb10c0 xb10c1 xb10c2 xb10c3 xb10c4 xb10c5 xb10c6 xb10c7]
  rw [hi0]
  rfl
theorem clok_impl_WheelOf : ConOK Try.prog cl_impl_WheelOf := consCons h_impl_ValidTimed ⟨Try.f44, Try.func44, by kernel_rfl, ne_of_beq (by kernel_rfl)⟩ (consNil)
theorem cok_impl_WheelOf : ConsOK Try.prog 34 cs_impl_WheelOf := ⟨clok_impl_WheelOf, inlNil, ovNil⟩
theorem i_impl_WheelOf {vs : List A1} {kk : AV → List A1 → Prop} {motive : List A1 → Prop} (h : con_impl_WheelOf.F vs kk) (H : ∀ (list0 : List (Int × Int)), F_impl_WheelOf list0 (fun r0 => kk (.one (.c (.rol .int r0))) []) → motive [.c (.ro .ii list0)]) : motive vs := by
  unfold con_impl_WheelOf at h
  dsimp only at h
  split at h
  · exact H _ h
  · exact h.elim
theorem h_impl_WheelOf : Holds Try.prog 17 con_impl_WheelOf := by
  refine holds_of_ev (rt := [.c (.sll .int)]) (T := TT) (Γ := cs_impl_WheelOf) (an := an_impl_WheelOf) (N := 34) (c := Try.f17.body.getD .skip) Try.func17 (by kernel_rfl) Try.ntmps17 (by decide) (by decide) mixed tabOK cok_impl_WheelOf (by kernel_rfl) ?_
  intro vs kk _ hF
  exact i_impl_WheelOf (motive := fun vs => Goes (ev TT cs_impl_WheelOf 34 an_impl_WheelOf (Try.f17.body.getD .skip) (st0 con_impl_WheelOf vs) (fin TT con_impl_WheelOf Try.f17.results.toList [.c (.sll .int)] vs kk))) hF (fun list0 hF => goes_of (e_impl_WheelOf list0 kk) (F_impl_WheelOf_S hF))
def con_spec_WheelOf : Con := ⟨[.rd], false, [.c (.sl .ii)], fun vs k => match vs with
    | [.c (.ro .ii list0)] => F_spec_WheelOf list0 (fun r0 => k (.one (.c (.rol .int r0))) [])
    | _ => False, false⟩
def cl_spec_WheelOf : List (FuncId × Con) := [(46, con_spec_validTimed)]
def nm7_spec_WheelOf : List NStep := [.own 3 .int 95003, .own 5 .int 90001, .keep [0, 3, 4, 5, 6] [95003, 90001]]
def nm6_spec_WheelOf : List NStep := [.own 3 .int 95003, .own 5 .int 90001, .keep [0, 3, 4, 5, 6] [95003, 90001]]
def nm5_spec_WheelOf : List NStep := [.own 3 .int 95003, .own 5 .int 90001, .keep [0, 3, 4, 5, 6] [95003, 90001]]
def nm4_spec_WheelOf : List NStep := [.own 3 .int 95003, .own 5 .int 90001, .keep [0, 3, 4, 5, 6] [95003, 90001]]
def nm3_spec_WheelOf : List NStep := [.own 3 .int 95003, .own 5 .int 90001, .keep [0, 3, 4, 5, 6] [95003, 90001]]
def nm2_spec_WheelOf : List NStep := [.own 3 .int 95003, .own 5 .int 90001, .keep [0, 3, 4, 5, 6] [95003, 90001]]
def nm1_spec_WheelOf : List NStep := [.own 3 .int 95003, .own 5 .int 90001, .keep [0, 3, 4, 5, 6] [95003, 90001]]
def nm0_spec_WheelOf : List NStep := [.own 3 .int 95003, .own 5 .int 90001, .keep [0, 3, 4, 5, 6] [95003, 90001]]
def an_spec_WheelOf : Ann := ⟨[], [(9, nm0_spec_WheelOf), (5, [.unr 9])], [], [(14, .fz 3)]⟩
def cs_spec_WheelOf : Cons := ⟨cl_spec_WheelOf, [], 0, [], [], []⟩
def can7_spec_WheelOf (list0 : List (Int × Int)) (xkeys5 : List Int) (xkeys5' : List Int) (xkeys5'' : List Int) (xkeys5''' : List Int) (xkeys5'''' : List Int) (xkeys5''''' : List Int) (xkeys5'''''' : List Int) (xi6''''''' : Int) (xkeys5''''''' : List Int) : St := ⟨[(0, .one (.c (.ro .ii list0))), (3, .one (.c (.sb 95003 7))), (4, .one (.c (.v (.int .i64 7)))), (5, .one (.c (.ow 90001))), (6, .one (.c (.v (.int .i64 xi6'''''''))))], [(95003, .box [.ro .int xkeys5, .ro .int xkeys5', .ro .int xkeys5'', .ro .int xkeys5''', .ro .int xkeys5'''', .ro .int xkeys5''''', .ro .int xkeys5'''''']), (90001, .row .int xkeys5''''''')]⟩
def can6_spec_WheelOf (list0 : List (Int × Int)) (xkeys5 : List Int) (xkeys5' : List Int) (xkeys5'' : List Int) (xkeys5''' : List Int) (xkeys5'''' : List Int) (xkeys5''''' : List Int) (xi6'''''' : Int) (xkeys5'''''' : List Int) : St := ⟨[(0, .one (.c (.ro .ii list0))), (3, .one (.c (.sb 95003 6))), (4, .one (.c (.v (.int .i64 6)))), (5, .one (.c (.ow 90001))), (6, .one (.c (.v (.int .i64 xi6''''''))))], [(95003, .box [.ro .int xkeys5, .ro .int xkeys5', .ro .int xkeys5'', .ro .int xkeys5''', .ro .int xkeys5'''', .ro .int xkeys5''''']), (90001, .row .int xkeys5'''''')]⟩
def can5_spec_WheelOf (list0 : List (Int × Int)) (xkeys5 : List Int) (xkeys5' : List Int) (xkeys5'' : List Int) (xkeys5''' : List Int) (xkeys5'''' : List Int) (xi6''''' : Int) (xkeys5''''' : List Int) : St := ⟨[(0, .one (.c (.ro .ii list0))), (3, .one (.c (.sb 95003 5))), (4, .one (.c (.v (.int .i64 5)))), (5, .one (.c (.ow 90001))), (6, .one (.c (.v (.int .i64 xi6'''''))))], [(95003, .box [.ro .int xkeys5, .ro .int xkeys5', .ro .int xkeys5'', .ro .int xkeys5''', .ro .int xkeys5'''']), (90001, .row .int xkeys5''''')]⟩
def can4_spec_WheelOf (list0 : List (Int × Int)) (xkeys5 : List Int) (xkeys5' : List Int) (xkeys5'' : List Int) (xkeys5''' : List Int) (xi6'''' : Int) (xkeys5'''' : List Int) : St := ⟨[(0, .one (.c (.ro .ii list0))), (3, .one (.c (.sb 95003 4))), (4, .one (.c (.v (.int .i64 4)))), (5, .one (.c (.ow 90001))), (6, .one (.c (.v (.int .i64 xi6''''))))], [(95003, .box [.ro .int xkeys5, .ro .int xkeys5', .ro .int xkeys5'', .ro .int xkeys5''']), (90001, .row .int xkeys5'''')]⟩
def can3_spec_WheelOf (list0 : List (Int × Int)) (xkeys5 : List Int) (xkeys5' : List Int) (xkeys5'' : List Int) (xi6''' : Int) (xkeys5''' : List Int) : St := ⟨[(0, .one (.c (.ro .ii list0))), (3, .one (.c (.sb 95003 3))), (4, .one (.c (.v (.int .i64 3)))), (5, .one (.c (.ow 90001))), (6, .one (.c (.v (.int .i64 xi6'''))))], [(95003, .box [.ro .int xkeys5, .ro .int xkeys5', .ro .int xkeys5'']), (90001, .row .int xkeys5''')]⟩
def can2_spec_WheelOf (list0 : List (Int × Int)) (xkeys5 : List Int) (xkeys5' : List Int) (xi6'' : Int) (xkeys5'' : List Int) : St := ⟨[(0, .one (.c (.ro .ii list0))), (3, .one (.c (.sb 95003 2))), (4, .one (.c (.v (.int .i64 2)))), (5, .one (.c (.ow 90001))), (6, .one (.c (.v (.int .i64 xi6''))))], [(95003, .box [.ro .int xkeys5, .ro .int xkeys5']), (90001, .row .int xkeys5'')]⟩
def can1_spec_WheelOf (list0 : List (Int × Int)) (xkeys5 : List Int) (xi6' : Int) (xkeys5' : List Int) : St := ⟨[(0, .one (.c (.ro .ii list0))), (3, .one (.c (.sb 95003 1))), (4, .one (.c (.v (.int .i64 1)))), (5, .one (.c (.ow 90001))), (6, .one (.c (.v (.int .i64 xi6'))))], [(95003, .box [.ro .int xkeys5]), (90001, .row .int xkeys5')]⟩
def can0_spec_WheelOf (list0 : List (Int × Int)) (xi6 : Int) (xkeys5 : List Int) : St := ⟨[(0, .one (.c (.ro .ii list0))), (3, .one (.c (.sb 95003 0))), (4, .one (.c (.v (.int .i64 0)))), (5, .one (.c (.ow 90001))), (6, .one (.c (.v (.int .i64 xi6))))], [(95003, .box []), (90001, .row .int xkeys5)]⟩
def fin_spec_WheelOf (list0 : List (Int × Int)) (kk : AV → List A1 → Prop) : Kt := fin TT con_spec_WheelOf Try.f19.results.toList [.c (.sll .int)] [.c (.ro .ii list0)] kk
def kt7_spec_WheelOf (kf : Kt) : Kt := blockK 2 (seqK (evF TT cs_spec_WheelOf 44 an_spec_WheelOf Try.f19 [1, 1, 1, 0, 1, 0, 0, 1, 0, 0, 1, 1]) (blockK 1 (seqK (evF TT cs_spec_WheelOf 44 an_spec_WheelOf Try.f19 [1, 1, 1, 0, 1, 0, 0, 1, 1]) (backK [] (iter (evF TT cs_spec_WheelOf 44 an_spec_WheelOf Try.f19 [1, 1, 1, 0, 1, 0, 0]) [] (blockK 0 (seqK (evF TT cs_spec_WheelOf 44 an_spec_WheelOf Try.f19 [1, 1, 1, 1]) (kf))) 1) (blockK 0 (seqK (evF TT cs_spec_WheelOf 44 an_spec_WheelOf Try.f19 [1, 1, 1, 1]) (kf)))))))
def kt6_spec_WheelOf (kf : Kt) : Kt := blockK 2 (seqK (evF TT cs_spec_WheelOf 44 an_spec_WheelOf Try.f19 [1, 1, 1, 0, 1, 0, 0, 1, 0, 0, 1, 1]) (blockK 1 (seqK (evF TT cs_spec_WheelOf 44 an_spec_WheelOf Try.f19 [1, 1, 1, 0, 1, 0, 0, 1, 1]) (backK [] (iter (evF TT cs_spec_WheelOf 44 an_spec_WheelOf Try.f19 [1, 1, 1, 0, 1, 0, 0]) [] (blockK 0 (seqK (evF TT cs_spec_WheelOf 44 an_spec_WheelOf Try.f19 [1, 1, 1, 1]) (kf))) 2) (blockK 0 (seqK (evF TT cs_spec_WheelOf 44 an_spec_WheelOf Try.f19 [1, 1, 1, 1]) (kf)))))))
def kt5_spec_WheelOf (kf : Kt) : Kt := blockK 2 (seqK (evF TT cs_spec_WheelOf 44 an_spec_WheelOf Try.f19 [1, 1, 1, 0, 1, 0, 0, 1, 0, 0, 1, 1]) (blockK 1 (seqK (evF TT cs_spec_WheelOf 44 an_spec_WheelOf Try.f19 [1, 1, 1, 0, 1, 0, 0, 1, 1]) (backK [] (iter (evF TT cs_spec_WheelOf 44 an_spec_WheelOf Try.f19 [1, 1, 1, 0, 1, 0, 0]) [] (blockK 0 (seqK (evF TT cs_spec_WheelOf 44 an_spec_WheelOf Try.f19 [1, 1, 1, 1]) (kf))) 3) (blockK 0 (seqK (evF TT cs_spec_WheelOf 44 an_spec_WheelOf Try.f19 [1, 1, 1, 1]) (kf)))))))
def kt4_spec_WheelOf (kf : Kt) : Kt := blockK 2 (seqK (evF TT cs_spec_WheelOf 44 an_spec_WheelOf Try.f19 [1, 1, 1, 0, 1, 0, 0, 1, 0, 0, 1, 1]) (blockK 1 (seqK (evF TT cs_spec_WheelOf 44 an_spec_WheelOf Try.f19 [1, 1, 1, 0, 1, 0, 0, 1, 1]) (backK [] (iter (evF TT cs_spec_WheelOf 44 an_spec_WheelOf Try.f19 [1, 1, 1, 0, 1, 0, 0]) [] (blockK 0 (seqK (evF TT cs_spec_WheelOf 44 an_spec_WheelOf Try.f19 [1, 1, 1, 1]) (kf))) 4) (blockK 0 (seqK (evF TT cs_spec_WheelOf 44 an_spec_WheelOf Try.f19 [1, 1, 1, 1]) (kf)))))))
def kt3_spec_WheelOf (kf : Kt) : Kt := blockK 2 (seqK (evF TT cs_spec_WheelOf 44 an_spec_WheelOf Try.f19 [1, 1, 1, 0, 1, 0, 0, 1, 0, 0, 1, 1]) (blockK 1 (seqK (evF TT cs_spec_WheelOf 44 an_spec_WheelOf Try.f19 [1, 1, 1, 0, 1, 0, 0, 1, 1]) (backK [] (iter (evF TT cs_spec_WheelOf 44 an_spec_WheelOf Try.f19 [1, 1, 1, 0, 1, 0, 0]) [] (blockK 0 (seqK (evF TT cs_spec_WheelOf 44 an_spec_WheelOf Try.f19 [1, 1, 1, 1]) (kf))) 5) (blockK 0 (seqK (evF TT cs_spec_WheelOf 44 an_spec_WheelOf Try.f19 [1, 1, 1, 1]) (kf)))))))
def kt2_spec_WheelOf (kf : Kt) : Kt := blockK 2 (seqK (evF TT cs_spec_WheelOf 44 an_spec_WheelOf Try.f19 [1, 1, 1, 0, 1, 0, 0, 1, 0, 0, 1, 1]) (blockK 1 (seqK (evF TT cs_spec_WheelOf 44 an_spec_WheelOf Try.f19 [1, 1, 1, 0, 1, 0, 0, 1, 1]) (backK [] (iter (evF TT cs_spec_WheelOf 44 an_spec_WheelOf Try.f19 [1, 1, 1, 0, 1, 0, 0]) [] (blockK 0 (seqK (evF TT cs_spec_WheelOf 44 an_spec_WheelOf Try.f19 [1, 1, 1, 1]) (kf))) 6) (blockK 0 (seqK (evF TT cs_spec_WheelOf 44 an_spec_WheelOf Try.f19 [1, 1, 1, 1]) (kf)))))))
def kt1_spec_WheelOf (kf : Kt) : Kt := blockK 2 (seqK (evF TT cs_spec_WheelOf 44 an_spec_WheelOf Try.f19 [1, 1, 1, 0, 1, 0, 0, 1, 0, 0, 1, 1]) (blockK 1 (seqK (evF TT cs_spec_WheelOf 44 an_spec_WheelOf Try.f19 [1, 1, 1, 0, 1, 0, 0, 1, 1]) (backK [] (iter (evF TT cs_spec_WheelOf 44 an_spec_WheelOf Try.f19 [1, 1, 1, 0, 1, 0, 0]) [] (blockK 0 (seqK (evF TT cs_spec_WheelOf 44 an_spec_WheelOf Try.f19 [1, 1, 1, 1]) (kf))) 7) (blockK 0 (seqK (evF TT cs_spec_WheelOf 44 an_spec_WheelOf Try.f19 [1, 1, 1, 1]) (kf)))))))
def kt0_spec_WheelOf (kf : Kt) : Kt := blockK 2 (seqK (evF TT cs_spec_WheelOf 44 an_spec_WheelOf Try.f19 [1, 1, 1, 0, 1, 0, 0, 1, 0, 0, 1, 1]) (blockK 1 (seqK (evF TT cs_spec_WheelOf 44 an_spec_WheelOf Try.f19 [1, 1, 1, 0, 1, 0, 0, 1, 1]) (backK [] (iter (evF TT cs_spec_WheelOf 44 an_spec_WheelOf Try.f19 [1, 1, 1, 0, 1, 0, 0]) [] (blockK 0 (seqK (evF TT cs_spec_WheelOf 44 an_spec_WheelOf Try.f19 [1, 1, 1, 1]) (kf))) 8) (blockK 0 (seqK (evF TT cs_spec_WheelOf 44 an_spec_WheelOf Try.f19 [1, 1, 1, 1]) (kf)))))))
theorem r7_spec_WheelOf (list0 : List (Int × Int)) (xkeys5 : List Int) (xkeys5' : List Int) (xkeys5'' : List Int) (xkeys5''' : List Int) (xkeys5'''' : List Int) (xkeys5''''' : List Int) (xkeys5'''''' : List Int) (kk : AV → List A1 → Prop) (n : Nat) (xi6''''''' : Int) (xkeys5''''''' : List Int) :
    iter (evF TT cs_spec_WheelOf 44 an_spec_WheelOf Try.f19 [1, 1, 1, 0, 1, 0, 0, 1, 0, 0, 1, 0, 1, 0, 0]) nm7_spec_WheelOf (kt7_spec_WheelOf (fin_spec_WheelOf list0 kk)) (n + 1) (can7_spec_WheelOf list0 xkeys5 xkeys5' xkeys5'' xkeys5''' xkeys5'''' xkeys5''''' xkeys5'''''' xi6''''''' xkeys5''''''') = T7_spec_WheelOf list0 xkeys5 xkeys5' xkeys5'' xkeys5''' xkeys5'''' xkeys5''''' xkeys5'''''' xi6''''''' xkeys5''''''' (fun r0 => kk (.one (.c (.rol .int r0))) []) (fun xi6''''''' xkeys5''''''' => iter (evF TT cs_spec_WheelOf 44 an_spec_WheelOf Try.f19 [1, 1, 1, 0, 1, 0, 0, 1, 0, 0, 1, 0, 1, 0, 0]) nm7_spec_WheelOf (kt7_spec_WheelOf (fin_spec_WheelOf list0 kk)) n (can7_spec_WheelOf list0 xkeys5 xkeys5' xkeys5'' xkeys5''' xkeys5'''' xkeys5''''' xkeys5'''''' xi6''''''' xkeys5''''''')) := by kernel_rfl
theorem l7_spec_WheelOf (list0 : List (Int × Int)) (xkeys5 : List Int) (xkeys5' : List Int) (xkeys5'' : List Int) (xkeys5''' : List Int) (xkeys5'''' : List Int) (xkeys5''''' : List Int) (xkeys5'''''' : List Int) (kk : AV → List A1 → Prop) : ∀ (n : Nat) (xi6''''''' : Int) (xkeys5''''''' : List Int), iter (evF TT cs_spec_WheelOf 44 an_spec_WheelOf Try.f19 [1, 1, 1, 0, 1, 0, 0, 1, 0, 0, 1, 0, 1, 0, 0]) nm7_spec_WheelOf (kt7_spec_WheelOf (fin_spec_WheelOf list0 kk)) n (can7_spec_WheelOf list0 xkeys5 xkeys5' xkeys5'' xkeys5''' xkeys5'''' xkeys5''''' xkeys5'''''' xi6''''''' xkeys5''''''') = L7_spec_WheelOf list0 xkeys5 xkeys5' xkeys5'' xkeys5''' xkeys5'''' xkeys5''''' xkeys5'''''' (fun r0 => kk (.one (.c (.rol .int r0))) []) n xi6''''''' xkeys5''''''' := by
  intro n
  induction n with
  | zero => intros; rfl
  | succ n ih =>
    intro xi6''''''' xkeys5'''''''
    rw [r7_spec_WheelOf list0 xkeys5 xkeys5' xkeys5'' xkeys5''' xkeys5'''' xkeys5''''' xkeys5'''''' kk n xi6''''''' xkeys5''''''']
    have hb : (fun xi6''''''' xkeys5''''''' => iter (evF TT cs_spec_WheelOf 44 an_spec_WheelOf Try.f19 [1, 1, 1, 0, 1, 0, 0, 1, 0, 0, 1, 0, 1, 0, 0]) nm7_spec_WheelOf (kt7_spec_WheelOf (fin_spec_WheelOf list0 kk)) n (can7_spec_WheelOf list0 xkeys5 xkeys5' xkeys5'' xkeys5''' xkeys5'''' xkeys5''''' xkeys5'''''' xi6''''''' xkeys5''''''')) = L7_spec_WheelOf list0 xkeys5 xkeys5' xkeys5'' xkeys5''' xkeys5'''' xkeys5''''' xkeys5'''''' (fun r0 => kk (.one (.c (.rol .int r0))) []) n := by
      funext xi6''''''' xkeys5'''''''; exact ih xi6''''''' xkeys5'''''''
    rw [hb]
    rfl
theorem r6_spec_WheelOf (list0 : List (Int × Int)) (xkeys5 : List Int) (xkeys5' : List Int) (xkeys5'' : List Int) (xkeys5''' : List Int) (xkeys5'''' : List Int) (xkeys5''''' : List Int) (kk : AV → List A1 → Prop) (n : Nat) (xi6'''''' : Int) (xkeys5'''''' : List Int) :
    iter (evF TT cs_spec_WheelOf 44 an_spec_WheelOf Try.f19 [1, 1, 1, 0, 1, 0, 0, 1, 0, 0, 1, 0, 1, 0, 0]) nm6_spec_WheelOf (kt6_spec_WheelOf (fin_spec_WheelOf list0 kk)) (n + 1) (can6_spec_WheelOf list0 xkeys5 xkeys5' xkeys5'' xkeys5''' xkeys5'''' xkeys5''''' xi6'''''' xkeys5'''''') = T6_spec_WheelOf list0 xkeys5 xkeys5' xkeys5'' xkeys5''' xkeys5'''' xkeys5''''' xi6'''''' xkeys5'''''' (fun xi6'''''' xkeys5'''''' => iter (evF TT cs_spec_WheelOf 44 an_spec_WheelOf Try.f19 [1, 1, 1, 0, 1, 0, 0, 1, 0, 0, 1, 0, 1, 0, 0]) nm6_spec_WheelOf (kt6_spec_WheelOf (fin_spec_WheelOf list0 kk)) n (can6_spec_WheelOf list0 xkeys5 xkeys5' xkeys5'' xkeys5''' xkeys5'''' xkeys5''''' xi6'''''' xkeys5'''''')) (fun list0 xkeys5 xkeys5' xkeys5'' xkeys5''' xkeys5'''' xkeys5''''' xkeys5'''''' xi6''''''' xkeys5''''''' => ∃ j, iter (evF TT cs_spec_WheelOf 44 an_spec_WheelOf Try.f19 [1, 1, 1, 0, 1, 0, 0, 1, 0, 0, 1, 0, 1, 0, 0]) nm7_spec_WheelOf (kt7_spec_WheelOf (fin_spec_WheelOf list0 kk)) j (can7_spec_WheelOf list0 xkeys5 xkeys5' xkeys5'' xkeys5''' xkeys5'''' xkeys5''''' xkeys5'''''' xi6''''''' xkeys5''''''')) := by kernel_rfl
theorem l6_spec_WheelOf (list0 : List (Int × Int)) (xkeys5 : List Int) (xkeys5' : List Int) (xkeys5'' : List Int) (xkeys5''' : List Int) (xkeys5'''' : List Int) (xkeys5''''' : List Int) (kk : AV → List A1 → Prop) : ∀ (n : Nat) (xi6'''''' : Int) (xkeys5'''''' : List Int), iter (evF TT cs_spec_WheelOf 44 an_spec_WheelOf Try.f19 [1, 1, 1, 0, 1, 0, 0, 1, 0, 0, 1, 0, 1, 0, 0]) nm6_spec_WheelOf (kt6_spec_WheelOf (fin_spec_WheelOf list0 kk)) n (can6_spec_WheelOf list0 xkeys5 xkeys5' xkeys5'' xkeys5''' xkeys5'''' xkeys5''''' xi6'''''' xkeys5'''''') = L6_spec_WheelOf list0 xkeys5 xkeys5' xkeys5'' xkeys5''' xkeys5'''' xkeys5''''' (fun r0 => kk (.one (.c (.rol .int r0))) []) n xi6'''''' xkeys5'''''' := by
  intro n
  induction n generalizing list0 xkeys5 xkeys5' xkeys5'' xkeys5''' xkeys5'''' xkeys5''''' with
  | zero => intros; rfl
  | succ n ih =>
    intro xi6'''''' xkeys5''''''
    rw [r6_spec_WheelOf list0 xkeys5 xkeys5' xkeys5'' xkeys5''' xkeys5'''' xkeys5''''' kk n xi6'''''' xkeys5'''''']
    have hb : ∀ (list0 : List (Int × Int)) (xkeys5 : List Int) (xkeys5' : List Int) (xkeys5'' : List Int) (xkeys5''' : List Int) (xkeys5'''' : List Int) (xkeys5''''' : List Int), (fun xi6'''''' xkeys5'''''' => iter (evF TT cs_spec_WheelOf 44 an_spec_WheelOf Try.f19 [1, 1, 1, 0, 1, 0, 0, 1, 0, 0, 1, 0, 1, 0, 0]) nm6_spec_WheelOf (kt6_spec_WheelOf (fin_spec_WheelOf list0 kk)) n (can6_spec_WheelOf list0 xkeys5 xkeys5' xkeys5'' xkeys5''' xkeys5'''' xkeys5''''' xi6'''''' xkeys5'''''')) = L6_spec_WheelOf list0 xkeys5 xkeys5' xkeys5'' xkeys5''' xkeys5'''' xkeys5''''' (fun r0 => kk (.one (.c (.rol .int r0))) []) n := by
      intro list0 xkeys5 xkeys5' xkeys5'' xkeys5''' xkeys5'''' xkeys5'''''
      funext xi6'''''' xkeys5''''''; exact ih list0 xkeys5 xkeys5' xkeys5'' xkeys5''' xkeys5'''' xkeys5''''' xi6'''''' xkeys5''''''
    have hi7 : (fun list0 xkeys5 xkeys5' xkeys5'' xkeys5''' xkeys5'''' xkeys5''''' xkeys5'''''' xi6''''''' xkeys5''''''' => ∃ j, iter (evF TT cs_spec_WheelOf 44 an_spec_WheelOf Try.f19 [1, 1, 1, 0, 1, 0, 0, 1, 0, 0, 1, 0, 1, 0, 0]) nm7_spec_WheelOf (kt7_spec_WheelOf (fin_spec_WheelOf list0 kk)) j (can7_spec_WheelOf list0 xkeys5 xkeys5' xkeys5'' xkeys5''' xkeys5'''' xkeys5''''' xkeys5'''''' xi6''''''' xkeys5''''''')) = (fun list0 xkeys5 xkeys5' xkeys5'' xkeys5''' xkeys5'''' xkeys5''''' xkeys5'''''' xi6''''''' xkeys5''''''' => ∃ j, L7_spec_WheelOf list0 xkeys5 xkeys5' xkeys5'' xkeys5''' xkeys5'''' xkeys5''''' xkeys5'''''' (fun r0 => kk (.one (.c (.rol .int r0))) []) j xi6''''''' xkeys5''''''') := by
      funext list0 xkeys5 xkeys5' xkeys5'' xkeys5''' xkeys5'''' xkeys5''''' xkeys5'''''' xi6''''''' xkeys5'''''''
      refine congrArg Exists (funext fun j => ?_)
      rw [l7_spec_WheelOf list0 xkeys5 xkeys5' xkeys5'' xkeys5''' xkeys5'''' xkeys5''''' xkeys5'''''' kk j xi6''''''' xkeys5''''''']
    rw [hb, hi7]
    rfl
theorem r5_spec_WheelOf (list0 : List (Int × Int)) (xkeys5 : List Int) (xkeys5' : List Int) (xkeys5'' : List Int) (xkeys5''' : List Int) (xkeys5'''' : List Int) (kk : AV → List A1 → Prop) (n : Nat) (xi6''''' : Int) (xkeys5''''' : List Int) :
    iter (evF TT cs_spec_WheelOf 44 an_spec_WheelOf Try.f19 [1, 1, 1, 0, 1, 0, 0, 1, 0, 0, 1, 0, 1, 0, 0]) nm5_spec_WheelOf (kt5_spec_WheelOf (fin_spec_WheelOf list0 kk)) (n + 1) (can5_spec_WheelOf list0 xkeys5 xkeys5' xkeys5'' xkeys5''' xkeys5'''' xi6''''' xkeys5''''') = T5_spec_WheelOf list0 xkeys5 xkeys5' xkeys5'' xkeys5''' xkeys5'''' xi6''''' xkeys5''''' (fun xi6''''' xkeys5''''' => iter (evF TT cs_spec_WheelOf 44 an_spec_WheelOf Try.f19 [1, 1, 1, 0, 1, 0, 0, 1, 0, 0, 1, 0, 1, 0, 0]) nm5_spec_WheelOf (kt5_spec_WheelOf (fin_spec_WheelOf list0 kk)) n (can5_spec_WheelOf list0 xkeys5 xkeys5' xkeys5'' xkeys5''' xkeys5'''' xi6''''' xkeys5''''')) (fun list0 xkeys5 xkeys5' xkeys5'' xkeys5''' xkeys5'''' xkeys5''''' xi6'''''' xkeys5'''''' => ∃ j, iter (evF TT cs_spec_WheelOf 44 an_spec_WheelOf Try.f19 [1, 1, 1, 0, 1, 0, 0, 1, 0, 0, 1, 0, 1, 0, 0]) nm6_spec_WheelOf (kt6_spec_WheelOf (fin_spec_WheelOf list0 kk)) j (can6_spec_WheelOf list0 xkeys5 xkeys5' xkeys5'' xkeys5''' xkeys5'''' xkeys5''''' xi6'''''' xkeys5'''''')) := by kernel_rfl
theorem l5_spec_WheelOf (list0 : List (Int × Int)) (xkeys5 : List Int) (xkeys5' : List Int) (xkeys5'' : List Int) (xkeys5''' : List Int) (xkeys5'''' : List Int) (kk : AV → List A1 → Prop) : ∀ (n : Nat) (xi6''''' : Int) (xkeys5''''' : List Int), iter (evF TT cs_spec_WheelOf 44 an_spec_WheelOf Try.f19 [1, 1, 1, 0, 1, 0, 0, 1, 0, 0, 1, 0, 1, 0, 0]) nm5_spec_WheelOf (kt5_spec_WheelOf (fin_spec_WheelOf list0 kk)) n (can5_spec_WheelOf list0 xkeys5 xkeys5' xkeys5'' xkeys5''' xkeys5'''' xi6''''' xkeys5''''') = L5_spec_WheelOf list0 xkeys5 xkeys5' xkeys5'' xkeys5''' xkeys5'''' (fun r0 => kk (.one (.c (.rol .int r0))) []) n xi6''''' xkeys5''''' := by
  intro n
  induction n generalizing list0 xkeys5 xkeys5' xkeys5'' xkeys5''' xkeys5'''' with
  | zero => intros; rfl
  | succ n ih =>
    intro xi6''''' xkeys5'''''
    rw [r5_spec_WheelOf list0 xkeys5 xkeys5' xkeys5'' xkeys5''' xkeys5'''' kk n xi6''''' xkeys5''''']
    have hb : ∀ (list0 : List (Int × Int)) (xkeys5 : List Int) (xkeys5' : List Int) (xkeys5'' : List Int) (xkeys5''' : List Int) (xkeys5'''' : List Int), (fun xi6''''' xkeys5''''' => iter (evF TT cs_spec_WheelOf 44 an_spec_WheelOf Try.f19 [1, 1, 1, 0, 1, 0, 0, 1, 0, 0, 1, 0, 1, 0, 0]) nm5_spec_WheelOf (kt5_spec_WheelOf (fin_spec_WheelOf list0 kk)) n (can5_spec_WheelOf list0 xkeys5 xkeys5' xkeys5'' xkeys5''' xkeys5'''' xi6''''' xkeys5''''')) = L5_spec_WheelOf list0 xkeys5 xkeys5' xkeys5'' xkeys5''' xkeys5'''' (fun r0 => kk (.one (.c (.rol .int r0))) []) n := by
      intro list0 xkeys5 xkeys5' xkeys5'' xkeys5''' xkeys5''''
      funext xi6''''' xkeys5'''''; exact ih list0 xkeys5 xkeys5' xkeys5'' xkeys5''' xkeys5'''' xi6''''' xkeys5'''''
    have hi6 : (fun list0 xkeys5 xkeys5' xkeys5'' xkeys5''' xkeys5'''' xkeys5''''' xi6'''''' xkeys5'''''' => ∃ j, iter (evF TT cs_spec_WheelOf 44 an_spec_WheelOf Try.f19 [1, 1, 1, 0, 1, 0, 0, 1, 0, 0, 1, 0, 1, 0, 0]) nm6_spec_WheelOf (kt6_spec_WheelOf (fin_spec_WheelOf list0 kk)) j (can6_spec_WheelOf list0 xkeys5 xkeys5' xkeys5'' xkeys5''' xkeys5'''' xkeys5''''' xi6'''''' xkeys5'''''')) = (fun list0 xkeys5 xkeys5' xkeys5'' xkeys5''' xkeys5'''' xkeys5''''' xi6'''''' xkeys5'''''' => ∃ j, L6_spec_WheelOf list0 xkeys5 xkeys5' xkeys5'' xkeys5''' xkeys5'''' xkeys5''''' (fun r0 => kk (.one (.c (.rol .int r0))) []) j xi6'''''' xkeys5'''''') := by
      funext list0 xkeys5 xkeys5' xkeys5'' xkeys5''' xkeys5'''' xkeys5''''' xi6'''''' xkeys5''''''
      refine congrArg Exists (funext fun j => ?_)
      rw [l6_spec_WheelOf list0 xkeys5 xkeys5' xkeys5'' xkeys5''' xkeys5'''' xkeys5''''' kk j xi6'''''' xkeys5'''''']
    rw [hb, hi6]
    rfl
theorem r4_spec_WheelOf (list0 : List (Int × Int)) (xkeys5 : List Int) (xkeys5' : List Int) (xkeys5'' : List Int) (xkeys5''' : List Int) (kk : AV → List A1 → Prop) (n : Nat) (xi6'''' : Int) (xkeys5'''' : List Int) :
    iter (evF TT cs_spec_WheelOf 44 an_spec_WheelOf Try.f19 [1, 1, 1, 0, 1, 0, 0, 1, 0, 0, 1, 0, 1, 0, 0]) nm4_spec_WheelOf (kt4_spec_WheelOf (fin_spec_WheelOf list0 kk)) (n + 1) (can4_spec_WheelOf list0 xkeys5 xkeys5' xkeys5'' xkeys5''' xi6'''' xkeys5'''') = T4_spec_WheelOf list0 xkeys5 xkeys5' xkeys5'' xkeys5''' xi6'''' xkeys5'''' (fun xi6'''' xkeys5'''' => iter (evF TT cs_spec_WheelOf 44 an_spec_WheelOf Try.f19 [1, 1, 1, 0, 1, 0, 0, 1, 0, 0, 1, 0, 1, 0, 0]) nm4_spec_WheelOf (kt4_spec_WheelOf (fin_spec_WheelOf list0 kk)) n (can4_spec_WheelOf list0 xkeys5 xkeys5' xkeys5'' xkeys5''' xi6'''' xkeys5'''')) (fun list0 xkeys5 xkeys5' xkeys5'' xkeys5''' xkeys5'''' xi6''''' xkeys5''''' => ∃ j, iter (evF TT cs_spec_WheelOf 44 an_spec_WheelOf Try.f19 [1, 1, 1, 0, 1, 0, 0, 1, 0, 0, 1, 0, 1, 0, 0]) nm5_spec_WheelOf (kt5_spec_WheelOf (fin_spec_WheelOf list0 kk)) j (can5_spec_WheelOf list0 xkeys5 xkeys5' xkeys5'' xkeys5''' xkeys5'''' xi6''''' xkeys5''''')) := by kernel_rfl
theorem l4_spec_WheelOf (list0 : List (Int × Int)) (xkeys5 : List Int) (xkeys5' : List Int) (xkeys5'' : List Int) (xkeys5''' : List Int) (kk : AV → List A1 → Prop) : ∀ (n : Nat) (xi6'''' : Int) (xkeys5'''' : List Int), iter (evF TT cs_spec_WheelOf 44 an_spec_WheelOf Try.f19 [1, 1, 1, 0, 1, 0, 0, 1, 0, 0, 1, 0, 1, 0, 0]) nm4_spec_WheelOf (kt4_spec_WheelOf (fin_spec_WheelOf list0 kk)) n (can4_spec_WheelOf list0 xkeys5 xkeys5' xkeys5'' xkeys5''' xi6'''' xkeys5'''') = L4_spec_WheelOf list0 xkeys5 xkeys5' xkeys5'' xkeys5''' (fun r0 => kk (.one (.c (.rol .int r0))) []) n xi6'''' xkeys5'''' := by
  intro n
  induction n generalizing list0 xkeys5 xkeys5' xkeys5'' xkeys5''' with
  | zero => intros; rfl
  | succ n ih =>
    intro xi6'''' xkeys5''''
    rw [r4_spec_WheelOf list0 xkeys5 xkeys5' xkeys5'' xkeys5''' kk n xi6'''' xkeys5'''']
    have hb : ∀ (list0 : List (Int × Int)) (xkeys5 : List Int) (xkeys5' : List Int) (xkeys5'' : List Int) (xkeys5''' : List Int), (fun xi6'''' xkeys5'''' => iter (evF TT cs_spec_WheelOf 44 an_spec_WheelOf Try.f19 [1, 1, 1, 0, 1, 0, 0, 1, 0, 0, 1, 0, 1, 0, 0]) nm4_spec_WheelOf (kt4_spec_WheelOf (fin_spec_WheelOf list0 kk)) n (can4_spec_WheelOf list0 xkeys5 xkeys5' xkeys5'' xkeys5''' xi6'''' xkeys5'''')) = L4_spec_WheelOf list0 xkeys5 xkeys5' xkeys5'' xkeys5''' (fun r0 => kk (.one (.c (.rol .int r0))) []) n := by
      intro list0 xkeys5 xkeys5' xkeys5'' xkeys5'''
      funext xi6'''' xkeys5''''; exact ih list0 xkeys5 xkeys5' xkeys5'' xkeys5''' xi6'''' xkeys5''''
    have hi5 : (fun list0 xkeys5 xkeys5' xkeys5'' xkeys5''' xkeys5'''' xi6''''' xkeys5''''' => ∃ j, iter (evF TT cs_spec_WheelOf 44 an_spec_WheelOf Try.f19 [1, 1, 1, 0, 1, 0, 0, 1, 0, 0, 1, 0, 1, 0, 0]) nm5_spec_WheelOf (kt5_spec_WheelOf (fin_spec_WheelOf list0 kk)) j (can5_spec_WheelOf list0 xkeys5 xkeys5' xkeys5'' xkeys5''' xkeys5'''' xi6''''' xkeys5''''')) = (fun list0 xkeys5 xkeys5' xkeys5'' xkeys5''' xkeys5'''' xi6''''' xkeys5''''' => ∃ j, L5_spec_WheelOf list0 xkeys5 xkeys5' xkeys5'' xkeys5''' xkeys5'''' (fun r0 => kk (.one (.c (.rol .int r0))) []) j xi6''''' xkeys5''''') := by
      funext list0 xkeys5 xkeys5' xkeys5'' xkeys5''' xkeys5'''' xi6''''' xkeys5'''''
      refine congrArg Exists (funext fun j => ?_)
      rw [l5_spec_WheelOf list0 xkeys5 xkeys5' xkeys5'' xkeys5''' xkeys5'''' kk j xi6''''' xkeys5''''']
    rw [hb, hi5]
    rfl
theorem r3_spec_WheelOf (list0 : List (Int × Int)) (xkeys5 : List Int) (xkeys5' : List Int) (xkeys5'' : List Int) (kk : AV → List A1 → Prop) (n : Nat) (xi6''' : Int) (xkeys5''' : List Int) :
    iter (evF TT cs_spec_WheelOf 44 an_spec_WheelOf Try.f19 [1, 1, 1, 0, 1, 0, 0, 1, 0, 0, 1, 0, 1, 0, 0]) nm3_spec_WheelOf (kt3_spec_WheelOf (fin_spec_WheelOf list0 kk)) (n + 1) (can3_spec_WheelOf list0 xkeys5 xkeys5' xkeys5'' xi6''' xkeys5''') = T3_spec_WheelOf list0 xkeys5 xkeys5' xkeys5'' xi6''' xkeys5''' (fun xi6''' xkeys5''' => iter (evF TT cs_spec_WheelOf 44 an_spec_WheelOf Try.f19 [1, 1, 1, 0, 1, 0, 0, 1, 0, 0, 1, 0, 1, 0, 0]) nm3_spec_WheelOf (kt3_spec_WheelOf (fin_spec_WheelOf list0 kk)) n (can3_spec_WheelOf list0 xkeys5 xkeys5' xkeys5'' xi6''' xkeys5''')) (fun list0 xkeys5 xkeys5' xkeys5'' xkeys5''' xi6'''' xkeys5'''' => ∃ j, iter (evF TT cs_spec_WheelOf 44 an_spec_WheelOf Try.f19 [1, 1, 1, 0, 1, 0, 0, 1, 0, 0, 1, 0, 1, 0, 0]) nm4_spec_WheelOf (kt4_spec_WheelOf (fin_spec_WheelOf list0 kk)) j (can4_spec_WheelOf list0 xkeys5 xkeys5' xkeys5'' xkeys5''' xi6'''' xkeys5'''')) := by kernel_rfl
theorem l3_spec_WheelOf (list0 : List (Int × Int)) (xkeys5 : List Int) (xkeys5' : List Int) (xkeys5'' : List Int) (kk : AV → List A1 → Prop) : ∀ (n : Nat) (xi6''' : Int) (xkeys5''' : List Int), iter (evF TT cs_spec_WheelOf 44 an_spec_WheelOf Try.f19 [1, 1, 1, 0, 1, 0, 0, 1, 0, 0, 1, 0, 1, 0, 0]) nm3_spec_WheelOf (kt3_spec_WheelOf (fin_spec_WheelOf list0 kk)) n (can3_spec_WheelOf list0 xkeys5 xkeys5' xkeys5'' xi6''' xkeys5''') = L3_spec_WheelOf list0 xkeys5 xkeys5' xkeys5'' (fun r0 => kk (.one (.c (.rol .int r0))) []) n xi6''' xkeys5''' := by
  intro n
  induction n generalizing list0 xkeys5 xkeys5' xkeys5'' with
  | zero => intros; rfl
  | succ n ih =>
    intro xi6''' xkeys5'''
    rw [r3_spec_WheelOf list0 xkeys5 xkeys5' xkeys5'' kk n xi6''' xkeys5''']
    have hb : ∀ (list0 : List (Int × Int)) (xkeys5 : List Int) (xkeys5' : List Int) (xkeys5'' : List Int), (fun xi6''' xkeys5''' => iter (evF TT cs_spec_WheelOf 44 an_spec_WheelOf Try.f19 [1, 1, 1, 0, 1, 0, 0, 1, 0, 0, 1, 0, 1, 0, 0]) nm3_spec_WheelOf (kt3_spec_WheelOf (fin_spec_WheelOf list0 kk)) n (can3_spec_WheelOf list0 xkeys5 xkeys5' xkeys5'' xi6''' xkeys5''')) = L3_spec_WheelOf list0 xkeys5 xkeys5' xkeys5'' (fun r0 => kk (.one (.c (.rol .int r0))) []) n := by
      intro list0 xkeys5 xkeys5' xkeys5''
      funext xi6''' xkeys5'''; exact ih list0 xkeys5 xkeys5' xkeys5'' xi6''' xkeys5'''
    have hi4 : (fun list0 xkeys5 xkeys5' xkeys5'' xkeys5''' xi6'''' xkeys5'''' => ∃ j, iter (evF TT cs_spec_WheelOf 44 an_spec_WheelOf Try.f19 [1, 1, 1, 0, 1, 0, 0, 1, 0, 0, 1, 0, 1, 0, 0]) nm4_spec_WheelOf (kt4_spec_WheelOf (fin_spec_WheelOf list0 kk)) j (can4_spec_WheelOf list0 xkeys5 xkeys5' xkeys5'' xkeys5''' xi6'''' xkeys5'''')) = (fun list0 xkeys5 xkeys5' xkeys5'' xkeys5''' xi6'''' xkeys5'''' => ∃ j, L4_spec_WheelOf list0 xkeys5 xkeys5' xkeys5'' xkeys5''' (fun r0 => kk (.one (.c (.rol .int r0))) []) j xi6'''' xkeys5'''') := by
      funext list0 xkeys5 xkeys5' xkeys5'' xkeys5''' xi6'''' xkeys5''''
      refine congrArg Exists (funext fun j => ?_)
      rw [l4_spec_WheelOf list0 xkeys5 xkeys5' xkeys5'' xkeys5''' kk j xi6'''' xkeys5'''']
    rw [hb, hi4]
    rfl
theorem r2_spec_WheelOf (list0 : List (Int × Int)) (xkeys5 : List Int) (xkeys5' : List Int) (kk : AV → List A1 → Prop) (n : Nat) (xi6'' : Int) (xkeys5'' : List Int) :
    iter (evF TT cs_spec_WheelOf 44 an_spec_WheelOf Try.f19 [1, 1, 1, 0, 1, 0, 0, 1, 0, 0, 1, 0, 1, 0, 0]) nm2_spec_WheelOf (kt2_spec_WheelOf (fin_spec_WheelOf list0 kk)) (n + 1) (can2_spec_WheelOf list0 xkeys5 xkeys5' xi6'' xkeys5'') = T2_spec_WheelOf list0 xkeys5 xkeys5' xi6'' xkeys5'' (fun xi6'' xkeys5'' => iter (evF TT cs_spec_WheelOf 44 an_spec_WheelOf Try.f19 [1, 1, 1, 0, 1, 0, 0, 1, 0, 0, 1, 0, 1, 0, 0]) nm2_spec_WheelOf (kt2_spec_WheelOf (fin_spec_WheelOf list0 kk)) n (can2_spec_WheelOf list0 xkeys5 xkeys5' xi6'' xkeys5'')) (fun list0 xkeys5 xkeys5' xkeys5'' xi6''' xkeys5''' => ∃ j, iter (evF TT cs_spec_WheelOf 44 an_spec_WheelOf Try.f19 [1, 1, 1, 0, 1, 0, 0, 1, 0, 0, 1, 0, 1, 0, 0]) nm3_spec_WheelOf (kt3_spec_WheelOf (fin_spec_WheelOf list0 kk)) j (can3_spec_WheelOf list0 xkeys5 xkeys5' xkeys5'' xi6''' xkeys5''')) := by kernel_rfl
theorem l2_spec_WheelOf (list0 : List (Int × Int)) (xkeys5 : List Int) (xkeys5' : List Int) (kk : AV → List A1 → Prop) : ∀ (n : Nat) (xi6'' : Int) (xkeys5'' : List Int), iter (evF TT cs_spec_WheelOf 44 an_spec_WheelOf Try.f19 [1, 1, 1, 0, 1, 0, 0, 1, 0, 0, 1, 0, 1, 0, 0]) nm2_spec_WheelOf (kt2_spec_WheelOf (fin_spec_WheelOf list0 kk)) n (can2_spec_WheelOf list0 xkeys5 xkeys5' xi6'' xkeys5'') = L2_spec_WheelOf list0 xkeys5 xkeys5' (fun r0 => kk (.one (.c (.rol .int r0))) []) n xi6'' xkeys5'' := by
  intro n
  induction n generalizing list0 xkeys5 xkeys5' with
  | zero => intros; rfl
  | succ n ih =>
    intro xi6'' xkeys5''
    rw [r2_spec_WheelOf list0 xkeys5 xkeys5' kk n xi6'' xkeys5'']
    have hb : ∀ (list0 : List (Int × Int)) (xkeys5 : List Int) (xkeys5' : List Int), (fun xi6'' xkeys5'' => iter (evF TT cs_spec_WheelOf 44 an_spec_WheelOf Try.f19 [1, 1, 1, 0, 1, 0, 0, 1, 0, 0, 1, 0, 1, 0, 0]) nm2_spec_WheelOf (kt2_spec_WheelOf (fin_spec_WheelOf list0 kk)) n (can2_spec_WheelOf list0 xkeys5 xkeys5' xi6'' xkeys5'')) = L2_spec_WheelOf list0 xkeys5 xkeys5' (fun r0 => kk (.one (.c (.rol .int r0))) []) n := by
      intro list0 xkeys5 xkeys5'
      funext xi6'' xkeys5''; exact ih list0 xkeys5 xkeys5' xi6'' xkeys5''
    have hi3 : (fun list0 xkeys5 xkeys5' xkeys5'' xi6''' xkeys5''' => ∃ j, iter (evF TT cs_spec_WheelOf 44 an_spec_WheelOf Try.f19 [1, 1, 1, 0, 1, 0, 0, 1, 0, 0, 1, 0, 1, 0, 0]) nm3_spec_WheelOf (kt3_spec_WheelOf (fin_spec_WheelOf list0 kk)) j (can3_spec_WheelOf list0 xkeys5 xkeys5' xkeys5'' xi6''' xkeys5''')) = (fun list0 xkeys5 xkeys5' xkeys5'' xi6''' xkeys5''' => ∃ j, L3_spec_WheelOf list0 xkeys5 xkeys5' xkeys5'' (fun r0 => kk (.one (.c (.rol .int r0))) []) j xi6''' xkeys5''') := by
      funext list0 xkeys5 xkeys5' xkeys5'' xi6''' xkeys5'''
      refine congrArg Exists (funext fun j => ?_)
      rw [l3_spec_WheelOf list0 xkeys5 xkeys5' xkeys5'' kk j xi6''' xkeys5''']
    rw [hb, hi3]
    rfl
theorem r1_spec_WheelOf (list0 : List (Int × Int)) (xkeys5 : List Int) (kk : AV → List A1 → Prop) (n : Nat) (xi6' : Int) (xkeys5' : List Int) :
    iter (evF TT cs_spec_WheelOf 44 an_spec_WheelOf Try.f19 [1, 1, 1, 0, 1, 0, 0, 1, 0, 0, 1, 0, 1, 0, 0]) nm1_spec_WheelOf (kt1_spec_WheelOf (fin_spec_WheelOf list0 kk)) (n + 1) (can1_spec_WheelOf list0 xkeys5 xi6' xkeys5') = T1_spec_WheelOf list0 xkeys5 xi6' xkeys5' (fun xi6' xkeys5' => iter (evF TT cs_spec_WheelOf 44 an_spec_WheelOf Try.f19 [1, 1, 1, 0, 1, 0, 0, 1, 0, 0, 1, 0, 1, 0, 0]) nm1_spec_WheelOf (kt1_spec_WheelOf (fin_spec_WheelOf list0 kk)) n (can1_spec_WheelOf list0 xkeys5 xi6' xkeys5')) (fun list0 xkeys5 xkeys5' xi6'' xkeys5'' => ∃ j, iter (evF TT cs_spec_WheelOf 44 an_spec_WheelOf Try.f19 [1, 1, 1, 0, 1, 0, 0, 1, 0, 0, 1, 0, 1, 0, 0]) nm2_spec_WheelOf (kt2_spec_WheelOf (fin_spec_WheelOf list0 kk)) j (can2_spec_WheelOf list0 xkeys5 xkeys5' xi6'' xkeys5'')) := by kernel_rfl
theorem l1_spec_WheelOf (list0 : List (Int × Int)) (xkeys5 : List Int) (kk : AV → List A1 → Prop) : ∀ (n : Nat) (xi6' : Int) (xkeys5' : List Int), iter (evF TT cs_spec_WheelOf 44 an_spec_WheelOf Try.f19 [1, 1, 1, 0, 1, 0, 0, 1, 0, 0, 1, 0, 1, 0, 0]) nm1_spec_WheelOf (kt1_spec_WheelOf (fin_spec_WheelOf list0 kk)) n (can1_spec_WheelOf list0 xkeys5 xi6' xkeys5') = L1_spec_WheelOf list0 xkeys5 (fun r0 => kk (.one (.c (.rol .int r0))) []) n xi6' xkeys5' := by
  intro n
  induction n generalizing list0 xkeys5 with
  | zero => intros; rfl
  | succ n ih =>
    intro xi6' xkeys5'
    rw [r1_spec_WheelOf list0 xkeys5 kk n xi6' xkeys5']
    have hb : ∀ (list0 : List (Int × Int)) (xkeys5 : List Int), (fun xi6' xkeys5' => iter (evF TT cs_spec_WheelOf 44 an_spec_WheelOf Try.f19 [1, 1, 1, 0, 1, 0, 0, 1, 0, 0, 1, 0, 1, 0, 0]) nm1_spec_WheelOf (kt1_spec_WheelOf (fin_spec_WheelOf list0 kk)) n (can1_spec_WheelOf list0 xkeys5 xi6' xkeys5')) = L1_spec_WheelOf list0 xkeys5 (fun r0 => kk (.one (.c (.rol .int r0))) []) n := by
      intro list0 xkeys5
      funext xi6' xkeys5'; exact ih list0 xkeys5 xi6' xkeys5'
    have hi2 : (fun list0 xkeys5 xkeys5' xi6'' xkeys5'' => ∃ j, iter (evF TT cs_spec_WheelOf 44 an_spec_WheelOf Try.f19 [1, 1, 1, 0, 1, 0, 0, 1, 0, 0, 1, 0, 1, 0, 0]) nm2_spec_WheelOf (kt2_spec_WheelOf (fin_spec_WheelOf list0 kk)) j (can2_spec_WheelOf list0 xkeys5 xkeys5' xi6'' xkeys5'')) = (fun list0 xkeys5 xkeys5' xi6'' xkeys5'' => ∃ j, L2_spec_WheelOf list0 xkeys5 xkeys5' (fun r0 => kk (.one (.c (.rol .int r0))) []) j xi6'' xkeys5'') := by
      funext list0 xkeys5 xkeys5' xi6'' xkeys5''
      refine congrArg Exists (funext fun j => ?_)
      rw [l2_spec_WheelOf list0 xkeys5 xkeys5' kk j xi6'' xkeys5'']
    rw [hb, hi2]
    rfl
theorem r0_spec_WheelOf (list0 : List (Int × Int)) (kk : AV → List A1 → Prop) (n : Nat) (xi6 : Int) (xkeys5 : List Int) :
    iter (evF TT cs_spec_WheelOf 44 an_spec_WheelOf Try.f19 [1, 1, 1, 0, 1, 0, 0, 1, 0, 0, 1, 0, 1, 0, 0]) nm0_spec_WheelOf (kt0_spec_WheelOf (fin_spec_WheelOf list0 kk)) (n + 1) (can0_spec_WheelOf list0 xi6 xkeys5) = T0_spec_WheelOf list0 xi6 xkeys5 (fun xi6 xkeys5 => iter (evF TT cs_spec_WheelOf 44 an_spec_WheelOf Try.f19 [1, 1, 1, 0, 1, 0, 0, 1, 0, 0, 1, 0, 1, 0, 0]) nm0_spec_WheelOf (kt0_spec_WheelOf (fin_spec_WheelOf list0 kk)) n (can0_spec_WheelOf list0 xi6 xkeys5)) (fun list0 xkeys5 xi6' xkeys5' => ∃ j, iter (evF TT cs_spec_WheelOf 44 an_spec_WheelOf Try.f19 [1, 1, 1, 0, 1, 0, 0, 1, 0, 0, 1, 0, 1, 0, 0]) nm1_spec_WheelOf (kt1_spec_WheelOf (fin_spec_WheelOf list0 kk)) j (can1_spec_WheelOf list0 xkeys5 xi6' xkeys5')) := by kernel_rfl
theorem l0_spec_WheelOf (list0 : List (Int × Int)) (kk : AV → List A1 → Prop) : ∀ (n : Nat) (xi6 : Int) (xkeys5 : List Int), iter (evF TT cs_spec_WheelOf 44 an_spec_WheelOf Try.f19 [1, 1, 1, 0, 1, 0, 0, 1, 0, 0, 1, 0, 1, 0, 0]) nm0_spec_WheelOf (kt0_spec_WheelOf (fin_spec_WheelOf list0 kk)) n (can0_spec_WheelOf list0 xi6 xkeys5) = L0_spec_WheelOf list0 (fun r0 => kk (.one (.c (.rol .int r0))) []) n xi6 xkeys5 := by
  intro n
  induction n generalizing list0 with
  | zero => intros; rfl
  | succ n ih =>
    intro xi6 xkeys5
    rw [r0_spec_WheelOf list0 kk n xi6 xkeys5]
    have hb : ∀ (list0 : List (Int × Int)), (fun xi6 xkeys5 => iter (evF TT cs_spec_WheelOf 44 an_spec_WheelOf Try.f19 [1, 1, 1, 0, 1, 0, 0, 1, 0, 0, 1, 0, 1, 0, 0]) nm0_spec_WheelOf (kt0_spec_WheelOf (fin_spec_WheelOf list0 kk)) n (can0_spec_WheelOf list0 xi6 xkeys5)) = L0_spec_WheelOf list0 (fun r0 => kk (.one (.c (.rol .int r0))) []) n := by
      intro list0
      funext xi6 xkeys5; exact ih list0 xi6 xkeys5
    have hi1 : (fun list0 xkeys5 xi6' xkeys5' => ∃ j, iter (evF TT cs_spec_WheelOf 44 an_spec_WheelOf Try.f19 [1, 1, 1, 0, 1, 0, 0, 1, 0, 0, 1, 0, 1, 0, 0]) nm1_spec_WheelOf (kt1_spec_WheelOf (fin_spec_WheelOf list0 kk)) j (can1_spec_WheelOf list0 xkeys5 xi6' xkeys5')) = (fun list0 xkeys5 xi6' xkeys5' => ∃ j, L1_spec_WheelOf list0 xkeys5 (fun r0 => kk (.one (.c (.rol .int r0))) []) j xi6' xkeys5') := by
      funext list0 xkeys5 xi6' xkeys5'
      refine congrArg Exists (funext fun j => ?_)
      rw [l1_spec_WheelOf list0 xkeys5 kk j xi6' xkeys5']
    rw [hb, hi1]
    rfl
theorem g_spec_WheelOf (list0 : List (Int × Int)) (kk : AV → List A1 → Prop) :
    ev TT cs_spec_WheelOf 44 an_spec_WheelOf (Try.f19.body.getD .skip) (st0 con_spec_WheelOf [.c (.ro .ii list0)]) (fin TT con_spec_WheelOf Try.f19.results.toList [.c (.sll .int)] [.c (.ro .ii list0)] kk) = G_spec_WheelOf list0 (fun r0 => kk (.one (.c (.rol .int r0))) []) (fun list0 xi6 xkeys5 => ∃ j, iter (evF TT cs_spec_WheelOf 44 an_spec_WheelOf Try.f19 [1, 1, 1, 0, 1, 0, 0, 1, 0, 0, 1, 0, 1, 0, 0]) nm0_spec_WheelOf (kt0_spec_WheelOf (fin_spec_WheelOf list0 kk)) j (can0_spec_WheelOf list0 xi6 xkeys5)) := by kernel_rfl
theorem e_spec_WheelOf (list0 : List (Int × Int)) (kk : AV → List A1 → Prop) :
    ev TT cs_spec_WheelOf 44 an_spec_WheelOf (Try.f19.body.getD .skip) (st0 con_spec_WheelOf [.c (.ro .ii list0)]) (fin TT con_spec_WheelOf Try.f19.results.toList [.c (.sll .int)] [.c (.ro .ii list0)] kk) = S_spec_WheelOf list0 (fun r0 => kk (.one (.c (.rol .int r0))) []) := by
  rw [g_spec_WheelOf]
  have hi0 : (fun list0 xi6 xkeys5 => ∃ j, iter (evF TT cs_spec_WheelOf 44 an_spec_WheelOf Try.f19 [1, 1, 1, 0, 1, 0, 0, 1, 0, 0, 1, 0, 1, 0, 0]) nm0_spec_WheelOf (kt0_spec_WheelOf (fin_spec_WheelOf list0 kk)) j (can0_spec_WheelOf list0 xi6 xkeys5)) = (fun list0 xi6 xkeys5 => ∃ j, L0_spec_WheelOf list0 (fun r0 => kk (.one (.c (.rol .int r0))) []) j xi6 xkeys5) := by
    funext list0 xi6 xkeys5
    refine congrArg Exists (funext fun j => ?_)
    rw [l0_spec_WheelOf list0 kk j xi6 xkeys5]
  rw [hi0]
  rfl
theorem clok_spec_WheelOf : ConOK Try.prog cl_spec_WheelOf := consCons h_spec_validTimed ⟨Try.f46, Try.func46, by kernel_rfl, ne_of_beq (by kernel_rfl)⟩ (consNil)
theorem cok_spec_WheelOf : ConsOK Try.prog 44 cs_spec_WheelOf := ⟨clok_spec_WheelOf, inlNil, ovNil⟩
theorem i_spec_WheelOf {vs : List A1} {kk : AV → List A1 → Prop} {motive : List A1 → Prop} (h : con_spec_WheelOf.F vs kk) (H : ∀ (list0 : List (Int × Int)), F_spec_WheelOf list0 (fun r0 => kk (.one (.c (.rol .int r0))) []) → motive [.c (.ro .ii list0)]) : motive vs := by
  unfold con_spec_WheelOf at h
  dsimp only at h
  split at h
  · exact H _ h
  · exact h.elim
theorem h_spec_WheelOf : Holds Try.prog 19 con_spec_WheelOf := by
  refine holds_of_ev (rt := [.c (.sll .int)]) (T := TT) (Γ := cs_spec_WheelOf) (an := an_spec_WheelOf) (N := 44) (c := Try.f19.body.getD .skip) Try.func19 (by kernel_rfl) Try.ntmps19 (by decide) (by decide) mixed tabOK cok_spec_WheelOf (by kernel_rfl) ?_
  intro vs kk _ hF
  exact i_spec_WheelOf (motive := fun vs => Goes (ev TT cs_spec_WheelOf 44 an_spec_WheelOf (Try.f19.body.getD .skip) (st0 con_spec_WheelOf vs) (fin TT con_spec_WheelOf Try.f19.results.toList [.c (.sll .int)] vs kk))) hF (fun list0 hF => goes_of (e_spec_WheelOf list0 kk) (F_spec_WheelOf_S hF))
def con_laws_equalInts : Con := ⟨[.rd, .rd], true, [.c (.sl .int), .c (.sl .int)], fun vs k => match vs with
    | [.c (.ro .int a0), .c (.ro .int b1)] => F_laws_equalInts a0 b1 (fun r0 => k (.one (.c (.v (.bool r0)))) [])
    | _ => False, false⟩
def cl_laws_equalInts : List (FuncId × Con) := []
def nm0_laws_equalInts : List NStep := [.keep [0, 1, 5] []]
def an_laws_equalInts : Ann := ⟨[(6, .take 0 (.take 1 (.take 2 (.take 3 (.take 4 (.take 5 (.take 6 (.take 7 (.take 8 (.done))))))))), [])], [(4, nm0_laws_equalInts)], [], []⟩
def cs_laws_equalInts : Cons := ⟨cl_laws_equalInts, [], 0, [], [], []⟩
def can0_laws_equalInts (a0 : List Int) (b1 : List Int) (xi5 : Int) : St := ⟨[(0, .one (.c (.ro .int a0))), (1, .one (.c (.ro .int b1))), (5, .one (.c (.v (.int .i64 xi5))))], []⟩
def fin_laws_equalInts (a0 : List Int) (b1 : List Int) (kk : AV → List A1 → Prop) : Kt := fin TT con_laws_equalInts Try.f45.results.toList [.c .sc] [.c (.ro .int a0), .c (.ro .int b1)] kk
def kt0_laws_equalInts (kf : Kt) : Kt := blockK 0 (seqK (evF TT cs_laws_equalInts 26 an_laws_equalInts Try.f45 [1, 1, 1]) (kf))
theorem r0_laws_equalInts (a0 : List Int) (b1 : List Int) (kk : AV → List A1 → Prop) (n : Nat) (xi5 : Int) :
    iter (evF TT cs_laws_equalInts 26 an_laws_equalInts Try.f45 [1, 1, 0, 1, 0, 0]) nm0_laws_equalInts (kt0_laws_equalInts (fin_laws_equalInts a0 b1 kk)) (n + 1) (can0_laws_equalInts a0 b1 xi5) = T0_laws_equalInts a0 b1 xi5 (fun r0 => kk (.one (.c (.v (.bool r0)))) []) (fun xi5 => iter (evF TT cs_laws_equalInts 26 an_laws_equalInts Try.f45 [1, 1, 0, 1, 0, 0]) nm0_laws_equalInts (kt0_laws_equalInts (fin_laws_equalInts a0 b1 kk)) n (can0_laws_equalInts a0 b1 xi5)) := by kernel_rfl
theorem l0_laws_equalInts (a0 : List Int) (b1 : List Int) (kk : AV → List A1 → Prop) : ∀ (n : Nat) (xi5 : Int), iter (evF TT cs_laws_equalInts 26 an_laws_equalInts Try.f45 [1, 1, 0, 1, 0, 0]) nm0_laws_equalInts (kt0_laws_equalInts (fin_laws_equalInts a0 b1 kk)) n (can0_laws_equalInts a0 b1 xi5) = L0_laws_equalInts a0 b1 (fun r0 => kk (.one (.c (.v (.bool r0)))) []) n xi5 := by
  intro n
  induction n with
  | zero => intros; rfl
  | succ n ih =>
    intro xi5
    rw [r0_laws_equalInts a0 b1 kk n xi5]
    have hb : (fun xi5 => iter (evF TT cs_laws_equalInts 26 an_laws_equalInts Try.f45 [1, 1, 0, 1, 0, 0]) nm0_laws_equalInts (kt0_laws_equalInts (fin_laws_equalInts a0 b1 kk)) n (can0_laws_equalInts a0 b1 xi5)) = L0_laws_equalInts a0 b1 (fun r0 => kk (.one (.c (.v (.bool r0)))) []) n := by
      funext xi5; exact ih xi5
    rw [hb]
    rfl
theorem g_laws_equalInts (a0 : List Int) (b1 : List Int) (kk : AV → List A1 → Prop) :
    ev TT cs_laws_equalInts 26 an_laws_equalInts (Try.f45.body.getD .skip) (st0 con_laws_equalInts [.c (.ro .int a0), .c (.ro .int b1)]) (fin TT con_laws_equalInts Try.f45.results.toList [.c .sc] [.c (.ro .int a0), .c (.ro .int b1)] kk) = G_laws_equalInts a0 b1 (fun r0 => kk (.one (.c (.v (.bool r0)))) []) (fun a0 b1 xi5 => ∃ j, iter (evF TT cs_laws_equalInts 26 an_laws_equalInts Try.f45 [1, 1, 0, 1, 0, 0]) nm0_laws_equalInts (kt0_laws_equalInts (fin_laws_equalInts a0 b1 kk)) j (can0_laws_equalInts a0 b1 xi5)) := by kernel_rfl
theorem e_laws_equalInts (a0 : List Int) (b1 : List Int) (kk : AV → List A1 → Prop) :
    ev TT cs_laws_equalInts 26 an_laws_equalInts (Try.f45.body.getD .skip) (st0 con_laws_equalInts [.c (.ro .int a0), .c (.ro .int b1)]) (fin TT con_laws_equalInts Try.f45.results.toList [.c .sc] [.c (.ro .int a0), .c (.ro .int b1)] kk) = S_laws_equalInts a0 b1 (fun r0 => kk (.one (.c (.v (.bool r0)))) []) := by
  rw [g_laws_equalInts]
  have hi0 : (fun a0 b1 xi5 => ∃ j, iter (evF TT cs_laws_equalInts 26 an_laws_equalInts Try.f45 [1, 1, 0, 1, 0, 0]) nm0_laws_equalInts (kt0_laws_equalInts (fin_laws_equalInts a0 b1 kk)) j (can0_laws_equalInts a0 b1 xi5)) = (fun a0 b1 xi5 => ∃ j, L0_laws_equalInts a0 b1 (fun r0 => kk (.one (.c (.v (.bool r0)))) []) j xi5) := by
    funext a0 b1 xi5
    refine congrArg Exists (funext fun j => ?_)
    rw [l0_laws_equalInts a0 b1 kk j xi5]
  rw [hi0]
  rfl
theorem clok_laws_equalInts : ConOK Try.prog cl_laws_equalInts := consNil
theorem cok_laws_equalInts : ConsOK Try.prog 26 cs_laws_equalInts := ⟨clok_laws_equalInts, inlNil, ovNil⟩
theorem i_laws_equalInts {vs : List A1} {kk : AV → List A1 → Prop} {motive : List A1 → Prop} (h : con_laws_equalInts.F vs kk) (H : ∀ (a0 : List Int) (b1 : List Int), F_laws_equalInts a0 b1 (fun r0 => kk (.one (.c (.v (.bool r0)))) []) → motive [.c (.ro .int a0), .c (.ro .int b1)]) : motive vs := by
  unfold con_laws_equalInts at h
  dsimp only at h
  split at h
  · exact H _ _ h
  · exact h.elim
theorem h_laws_equalInts : Holds Try.prog 45 con_laws_equalInts := by
  refine holds_of_ev (rt := [.c .sc]) (T := TT) (Γ := cs_laws_equalInts) (an := an_laws_equalInts) (N := 26) (c := Try.f45.body.getD .skip) Try.func45 (by kernel_rfl) Try.ntmps45 (by decide) (by decide) mixed tabOK cok_laws_equalInts (by kernel_rfl) ?_
  intro vs kk _ hF
  exact i_laws_equalInts (motive := fun vs => Goes (ev TT cs_laws_equalInts 26 an_laws_equalInts (Try.f45.body.getD .skip) (st0 con_laws_equalInts vs) (fin TT con_laws_equalInts Try.f45.results.toList [.c .sc] vs kk))) hF (fun a0 b1 hF => goes_of (e_laws_equalInts a0 b1 kk) (F_laws_equalInts_S hF))
def con_laws_equalLists : Con := ⟨[.rd, .rd], true, [.c (.sll .int), .c (.sll .int)], fun vs k => match vs with
    | [.c (.rol .int a0), .c (.rol .int b1)] => F_laws_equalLists a0 b1 (fun r0 => k (.one (.c (.v (.bool r0)))) [])
    | _ => False, false⟩
def cl_laws_equalLists : List (FuncId × Con) := [(45, con_laws_equalInts)]
def nm0_laws_equalLists : List NStep := [.keep [0, 1, 5] []]
def an_laws_equalLists : Ann := ⟨[(6, .take 0 (.take 1 (.take 2 (.take 3 (.take 4 (.take 5 (.take 6 (.take 7 (.alt 8 (.take 9 (.done)) (.none))))))))), [])], [(4, nm0_laws_equalLists)], [], []⟩
def cs_laws_equalLists : Cons := ⟨cl_laws_equalLists, [], 0, [], [], []⟩
def can0_laws_equalLists (a0 : List (List Int)) (b1 : List (List Int)) (xi5 : Int) : St := ⟨[(0, .one (.c (.rol .int a0))), (1, .one (.c (.rol .int b1))), (5, .one (.c (.v (.int .i64 xi5))))], []⟩
def fin_laws_equalLists (a0 : List (List Int)) (b1 : List (List Int)) (kk : AV → List A1 → Prop) : Kt := fin TT con_laws_equalLists Try.f18.results.toList [.c .sc] [.c (.rol .int a0), .c (.rol .int b1)] kk
def kt0_laws_equalLists (kf : Kt) : Kt := blockK 0 (seqK (evF TT cs_laws_equalLists 27 an_laws_equalLists Try.f18 [1, 1, 1]) (kf))
theorem r0_laws_equalLists (a0 : List (List Int)) (b1 : List (List Int)) (kk : AV → List A1 → Prop) (n : Nat) (xi5 : Int) :
    iter (evF TT cs_laws_equalLists 27 an_laws_equalLists Try.f18 [1, 1, 0, 1, 0, 0]) nm0_laws_equalLists (kt0_laws_equalLists (fin_laws_equalLists a0 b1 kk)) (n + 1) (can0_laws_equalLists a0 b1 xi5) = T0_laws_equalLists a0 b1 xi5 (fun r0 => kk (.one (.c (.v (.bool r0)))) []) (fun xi5 => iter (evF TT cs_laws_equalLists 27 an_laws_equalLists Try.f18 [1, 1, 0, 1, 0, 0]) nm0_laws_equalLists (kt0_laws_equalLists (fin_laws_equalLists a0 b1 kk)) n (can0_laws_equalLists a0 b1 xi5)) := by kernel_rfl
theorem l0_laws_equalLists (a0 : List (List Int)) (b1 : List (List Int)) (kk : AV → List A1 → Prop) : ∀ (n : Nat) (xi5 : Int), iter (evF TT cs_laws_equalLists 27 an_laws_equalLists Try.f18 [1, 1, 0, 1, 0, 0]) nm0_laws_equalLists (kt0_laws_equalLists (fin_laws_equalLists a0 b1 kk)) n (can0_laws_equalLists a0 b1 xi5) = L0_laws_equalLists a0 b1 (fun r0 => kk (.one (.c (.v (.bool r0)))) []) n xi5 := by
  intro n
  induction n with
  | zero => intros; rfl
  | succ n ih =>
    intro xi5
    rw [r0_laws_equalLists a0 b1 kk n xi5]
    have hb : (fun xi5 => iter (evF TT cs_laws_equalLists 27 an_laws_equalLists Try.f18 [1, 1, 0, 1, 0, 0]) nm0_laws_equalLists (kt0_laws_equalLists (fin_laws_equalLists a0 b1 kk)) n (can0_laws_equalLists a0 b1 xi5)) = L0_laws_equalLists a0 b1 (fun r0 => kk (.one (.c (.v (.bool r0)))) []) n := by
      funext xi5; exact ih xi5
    rw [hb]
    rw [T0_laws_equalLists_eq]
    rfl
theorem g_laws_equalLists (a0 : List (List Int)) (b1 : List (List Int)) (kk : AV → List A1 → Prop) :
    ev TT cs_laws_equalLists 27 an_laws_equalLists (Try.f18.body.getD .skip) (st0 con_laws_equalLists [.c (.rol .int a0), .c (.rol .int b1)]) (fin TT con_laws_equalLists Try.f18.results.toList [.c .sc] [.c (.rol .int a0), .c (.rol .int b1)] kk) = G_laws_equalLists a0 b1 (fun r0 => kk (.one (.c (.v (.bool r0)))) []) (fun a0 b1 xi5 => ∃ j, iter (evF TT cs_laws_equalLists 27 an_laws_equalLists Try.f18 [1, 1, 0, 1, 0, 0]) nm0_laws_equalLists (kt0_laws_equalLists (fin_laws_equalLists a0 b1 kk)) j (can0_laws_equalLists a0 b1 xi5)) := by kernel_rfl
theorem e_laws_equalLists (a0 : List (List Int)) (b1 : List (List Int)) (kk : AV → List A1 → Prop) :
    ev TT cs_laws_equalLists 27 an_laws_equalLists (Try.f18.body.getD .skip) (st0 con_laws_equalLists [.c (.rol .int a0), .c (.rol .int b1)]) (fin TT con_laws_equalLists Try.f18.results.toList [.c .sc] [.c (.rol .int a0), .c (.rol .int b1)] kk) = S_laws_equalLists a0 b1 (fun r0 => kk (.one (.c (.v (.bool r0)))) []) := by
  rw [g_laws_equalLists]
  have hi0 : (fun a0 b1 xi5 => ∃ j, iter (evF TT cs_laws_equalLists 27 an_laws_equalLists Try.f18 [1, 1, 0, 1, 0, 0]) nm0_laws_equalLists (kt0_laws_equalLists (fin_laws_equalLists a0 b1 kk)) j (can0_laws_equalLists a0 b1 xi5)) = (fun a0 b1 xi5 => ∃ j, L0_laws_equalLists a0 b1 (fun r0 => kk (.one (.c (.v (.bool r0)))) []) j xi5) := by
    funext a0 b1 xi5
    refine congrArg Exists (funext fun j => ?_)
    rw [l0_laws_equalLists a0 b1 kk j xi5]
  rw [hi0]
  rfl
theorem clok_laws_equalLists : ConOK Try.prog cl_laws_equalLists := consCons h_laws_equalInts ⟨Try.f45, Try.func45, by kernel_rfl, ne_of_beq (by kernel_rfl)⟩ (consNil)
theorem cok_laws_equalLists : ConsOK Try.prog 27 cs_laws_equalLists := ⟨clok_laws_equalLists, inlNil, ovNil⟩
theorem i_laws_equalLists {vs : List A1} {kk : AV → List A1 → Prop} {motive : List A1 → Prop} (h : con_laws_equalLists.F vs kk) (H : ∀ (a0 : List (List Int)) (b1 : List (List Int)), F_laws_equalLists a0 b1 (fun r0 => kk (.one (.c (.v (.bool r0)))) []) → motive [.c (.rol .int a0), .c (.rol .int b1)]) : motive vs := by
  unfold con_laws_equalLists at h
  dsimp only at h
  split at h
  · exact H _ _ h
  · exact h.elim
theorem h_laws_equalLists : Holds Try.prog 18 con_laws_equalLists := by
  refine holds_of_ev (rt := [.c .sc]) (T := TT) (Γ := cs_laws_equalLists) (an := an_laws_equalLists) (N := 27) (c := Try.f18.body.getD .skip) Try.func18 (by kernel_rfl) Try.ntmps18 (by decide) (by decide) mixed tabOK cok_laws_equalLists (by kernel_rfl) ?_
  intro vs kk _ hF
  exact i_laws_equalLists (motive := fun vs => Goes (ev TT cs_laws_equalLists 27 an_laws_equalLists (Try.f18.body.getD .skip) (st0 con_laws_equalLists vs) (fin TT con_laws_equalLists Try.f18.results.toList [.c .sc] vs kk))) hF (fun a0 b1 hF => goes_of (e_laws_equalLists a0 b1 kk) (F_laws_equalLists_S hF))
def con_cmp_isNaN_int : Con := ⟨[.rd], true, [.c (.sc)], fun vs k => match vs with
    | [.c (.v (.int .i64 x0))] => F_cmp_isNaN_int x0 (fun r0 => k (.one (.c (.v (.bool r0)))) [])
    | _ => False, false⟩
def cl_cmp_isNaN_int : List (FuncId × Con) := []
def an_cmp_isNaN_int : Ann := ⟨[], [], [], []⟩
def cs_cmp_isNaN_int : Cons := ⟨cl_cmp_isNaN_int, [], 0, [], [], []⟩
def fin_cmp_isNaN_int (x0 : Int) (kk : AV → List A1 → Prop) : Kt := fin TT con_cmp_isNaN_int Try.f87.results.toList [.c .sc] [.c (.v (.int .i64 x0))] kk
theorem g_cmp_isNaN_int (x0 : Int) (kk : AV → List A1 → Prop) :
    ev TT cs_cmp_isNaN_int 6 an_cmp_isNaN_int (Try.f87.body.getD .skip) (st0 con_cmp_isNaN_int [.c (.v (.int .i64 x0))]) (fin TT con_cmp_isNaN_int Try.f87.results.toList [.c .sc] [.c (.v (.int .i64 x0))] kk) = G_cmp_isNaN_int x0 (fun r0 => kk (.one (.c (.v (.bool r0)))) []) := by kernel_rfl
theorem e_cmp_isNaN_int (x0 : Int) (kk : AV → List A1 → Prop) :
    ev TT cs_cmp_isNaN_int 6 an_cmp_isNaN_int (Try.f87.body.getD .skip) (st0 con_cmp_isNaN_int [.c (.v (.int .i64 x0))]) (fin TT con_cmp_isNaN_int Try.f87.results.toList [.c .sc] [.c (.v (.int .i64 x0))] kk) = S_cmp_isNaN_int x0 (fun r0 => kk (.one (.c (.v (.bool r0)))) []) := by
  rw [g_cmp_isNaN_int]
  rfl
theorem clok_cmp_isNaN_int : ConOK Try.prog cl_cmp_isNaN_int := consNil
theorem cok_cmp_isNaN_int : ConsOK Try.prog 6 cs_cmp_isNaN_int := ⟨clok_cmp_isNaN_int, inlNil, ovNil⟩
theorem i_cmp_isNaN_int {vs : List A1} {kk : AV → List A1 → Prop} {motive : List A1 → Prop} (h : con_cmp_isNaN_int.F vs kk) (H : ∀ (x0 : Int), F_cmp_isNaN_int x0 (fun r0 => kk (.one (.c (.v (.bool r0)))) []) → motive [.c (.v (.int .i64 x0))]) : motive vs := by
  unfold con_cmp_isNaN_int at h
  dsimp only at h
  split at h
  · exact H _ h
  · exact h.elim
theorem h_cmp_isNaN_int : Holds Try.prog 87 con_cmp_isNaN_int := by
  refine holds_of_ev (rt := [.c .sc]) (T := TT) (Γ := cs_cmp_isNaN_int) (an := an_cmp_isNaN_int) (N := 6) (c := Try.f87.body.getD .skip) Try.func87 (by kernel_rfl) Try.ntmps87 (by decide) (by decide) mixed tabOK cok_cmp_isNaN_int (by kernel_rfl) ?_
  intro vs kk _ hF
  exact i_cmp_isNaN_int (motive := fun vs => Goes (ev TT cs_cmp_isNaN_int 6 an_cmp_isNaN_int (Try.f87.body.getD .skip) (st0 con_cmp_isNaN_int vs) (fin TT con_cmp_isNaN_int Try.f87.results.toList [.c .sc] vs kk))) hF (fun x0 hF => goes_of (e_cmp_isNaN_int x0 kk) (F_cmp_isNaN_int_S hF))
def con_cmp_Compare_int : Con := ⟨[.rd, .rd], true, [.c (.sc), .c (.sc)], fun vs k => match vs with
    | [.c (.v (.int .i64 x0)), .c (.v (.int .i64 y1))] => F_cmp_Compare_int x0 y1 (fun r0 => k (.one (.c (.v (.int .i64 r0)))) [])
    | _ => False, false⟩
def cl_cmp_Compare_int : List (FuncId × Con) := [(87, con_cmp_isNaN_int)]
def an_cmp_Compare_int : Ann := ⟨[], [], [], []⟩
def cs_cmp_Compare_int : Cons := ⟨cl_cmp_Compare_int, [], 0, [], [], []⟩
def fin_cmp_Compare_int (x0 : Int) (y1 : Int) (kk : AV → List A1 → Prop) : Kt := fin TT con_cmp_Compare_int Try.f73.results.toList [.c .sc] [.c (.v (.int .i64 x0)), .c (.v (.int .i64 y1))] kk
theorem g_cmp_Compare_int (x0 : Int) (y1 : Int) (kk : AV → List A1 → Prop) :
    ev TT cs_cmp_Compare_int 20 an_cmp_Compare_int (Try.f73.body.getD .skip) (st0 con_cmp_Compare_int [.c (.v (.int .i64 x0)), .c (.v (.int .i64 y1))]) (fin TT con_cmp_Compare_int Try.f73.results.toList [.c .sc] [.c (.v (.int .i64 x0)), .c (.v (.int .i64 y1))] kk) = G_cmp_Compare_int x0 y1 (fun r0 => kk (.one (.c (.v (.int .i64 r0)))) []) := by kernel_rfl
theorem e_cmp_Compare_int (x0 : Int) (y1 : Int) (kk : AV → List A1 → Prop) :
    ev TT cs_cmp_Compare_int 20 an_cmp_Compare_int (Try.f73.body.getD .skip) (st0 con_cmp_Compare_int [.c (.v (.int .i64 x0)), .c (.v (.int .i64 y1))]) (fin TT con_cmp_Compare_int Try.f73.results.toList [.c .sc] [.c (.v (.int .i64 x0)), .c (.v (.int .i64 y1))] kk) = S_cmp_Compare_int x0 y1 (fun r0 => kk (.one (.c (.v (.int .i64 r0)))) []) := by
  rw [g_cmp_Compare_int]
  rfl
theorem clok_cmp_Compare_int : ConOK Try.prog cl_cmp_Compare_int := consCons h_cmp_isNaN_int ⟨Try.f87, Try.func87, by kernel_rfl, ne_of_beq (by kernel_rfl)⟩ (consNil)
theorem cok_cmp_Compare_int : ConsOK Try.prog 20 cs_cmp_Compare_int := ⟨clok_cmp_Compare_int, inlNil, ovNil⟩
theorem i_cmp_Compare_int {vs : List A1} {kk : AV → List A1 → Prop} {motive : List A1 → Prop} (h : con_cmp_Compare_int.F vs kk) (H : ∀ (x0 : Int) (y1 : Int), F_cmp_Compare_int x0 y1 (fun r0 => kk (.one (.c (.v (.int .i64 r0)))) []) → motive [.c (.v (.int .i64 x0)), .c (.v (.int .i64 y1))]) : motive vs := by
  unfold con_cmp_Compare_int at h
  dsimp only at h
  split at h
  · exact H _ _ h
  · exact h.elim
theorem h_cmp_Compare_int : Holds Try.prog 73 con_cmp_Compare_int := by
  refine holds_of_ev (rt := [.c .sc]) (T := TT) (Γ := cs_cmp_Compare_int) (an := an_cmp_Compare_int) (N := 20) (c := Try.f73.body.getD .skip) Try.func73 (by kernel_rfl) Try.ntmps73 (by decide) (by decide) mixed tabOK cok_cmp_Compare_int (by kernel_rfl) ?_
  intro vs kk _ hF
  exact i_cmp_Compare_int (motive := fun vs => Goes (ev TT cs_cmp_Compare_int 20 an_cmp_Compare_int (Try.f73.body.getD .skip) (st0 con_cmp_Compare_int vs) (fin TT con_cmp_Compare_int Try.f73.results.toList [.c .sc] vs kk))) hF (fun x0 y1 hF => goes_of (e_cmp_Compare_int x0 y1 kk) (F_cmp_Compare_int_S hF))
def con_impl_placeOf_1 : Con := ⟨[.rd, .rd], true, [.agg [.sc, .sc], .c (.sc)], fun vs k => match vs with
    | [.agg [.v (.int .i64 timed0Key), .v (.int .i64 timed0Until)], .c (.v (.int .i64 key1))] => F_impl_placeOf_1 timed0Key timed0Until key1 (fun r0 => k (.one (.c (.v (.int .i64 r0)))) [])
    | _ => False, false⟩
def cl_impl_placeOf_1 : List (FuncId × Con) := [(73, con_cmp_Compare_int)]
def an_impl_placeOf_1 : Ann := ⟨[], [], [], []⟩
def cs_impl_placeOf_1 : Cons := ⟨cl_impl_placeOf_1, [], 0, [], [], []⟩
def fin_impl_placeOf_1 (timed0Key : Int) (timed0Until : Int) (key1 : Int) (kk : AV → List A1 → Prop) : Kt := fin TT con_impl_placeOf_1 Try.f72.results.toList [.c .sc] [.agg [.v (.int .i64 timed0Key), .v (.int .i64 timed0Until)], .c (.v (.int .i64 key1))] kk
theorem g_impl_placeOf_1 (timed0Key : Int) (timed0Until : Int) (key1 : Int) (kk : AV → List A1 → Prop) :
    ev TT cs_impl_placeOf_1 9 an_impl_placeOf_1 (Try.f72.body.getD .skip) (st0 con_impl_placeOf_1 [.agg [.v (.int .i64 timed0Key), .v (.int .i64 timed0Until)], .c (.v (.int .i64 key1))]) (fin TT con_impl_placeOf_1 Try.f72.results.toList [.c .sc] [.agg [.v (.int .i64 timed0Key), .v (.int .i64 timed0Until)], .c (.v (.int .i64 key1))] kk) = G_impl_placeOf_1 timed0Key timed0Until key1 (fun r0 => kk (.one (.c (.v (.int .i64 r0)))) []) := by kernel_rfl
theorem e_impl_placeOf_1 (timed0Key : Int) (timed0Until : Int) (key1 : Int) (kk : AV → List A1 → Prop) :
    ev TT cs_impl_placeOf_1 9 an_impl_placeOf_1 (Try.f72.body.getD .skip) (st0 con_impl_placeOf_1 [.agg [.v (.int .i64 timed0Key), .v (.int .i64 timed0Until)], .c (.v (.int .i64 key1))]) (fin TT con_impl_placeOf_1 Try.f72.results.toList [.c .sc] [.agg [.v (.int .i64 timed0Key), .v (.int .i64 timed0Until)], .c (.v (.int .i64 key1))] kk) = S_impl_placeOf_1 timed0Key timed0Until key1 (fun r0 => kk (.one (.c (.v (.int .i64 r0)))) []) := by
  rw [g_impl_placeOf_1]
  rfl
theorem clok_impl_placeOf_1 : ConOK Try.prog cl_impl_placeOf_1 := consCons h_cmp_Compare_int ⟨Try.f73, Try.func73, by kernel_rfl, ne_of_beq (by kernel_rfl)⟩ (consNil)
theorem cok_impl_placeOf_1 : ConsOK Try.prog 9 cs_impl_placeOf_1 := ⟨clok_impl_placeOf_1, inlNil, ovNil⟩
theorem i_impl_placeOf_1 {vs : List A1} {kk : AV → List A1 → Prop} {motive : List A1 → Prop} (h : con_impl_placeOf_1.F vs kk) (H : ∀ (timed0Key : Int) (timed0Until : Int) (key1 : Int), F_impl_placeOf_1 timed0Key timed0Until key1 (fun r0 => kk (.one (.c (.v (.int .i64 r0)))) []) → motive [.agg [.v (.int .i64 timed0Key), .v (.int .i64 timed0Until)], .c (.v (.int .i64 key1))]) : motive vs := by
  unfold con_impl_placeOf_1 at h
  dsimp only at h
  split at h
  · exact H _ _ _ h
  · exact h.elim
theorem h_impl_placeOf_1 : Holds Try.prog 72 con_impl_placeOf_1 := by
  refine holds_of_ev (rt := [.c .sc]) (T := TT) (Γ := cs_impl_placeOf_1) (an := an_impl_placeOf_1) (N := 9) (c := Try.f72.body.getD .skip) Try.func72 (by kernel_rfl) Try.ntmps72 (by decide) (by decide) mixed tabOK cok_impl_placeOf_1 (by kernel_rfl) ?_
  intro vs kk _ hF
  exact i_impl_placeOf_1 (motive := fun vs => Goes (ev TT cs_impl_placeOf_1 9 an_impl_placeOf_1 (Try.f72.body.getD .skip) (st0 con_impl_placeOf_1 vs) (fin TT con_impl_placeOf_1 Try.f72.results.toList [.c .sc] vs kk))) hF (fun timed0Key timed0Until key1 hF => goes_of (e_impl_placeOf_1 timed0Key timed0Until key1 kk) (F_impl_placeOf_1_S hF))
def con_slices_BinarySearchFunc_Timed_Timed_int : Con := ⟨[.rd, .rd, .rd], true, [.c (.sl .ii), .c (.sc), .c (.fn)], fun vs k => match vs with
    | [.c (.ro .ii x0), .c (.v (.int .i64 target1)), .c (.v (.func (.func 72) ⟨[]⟩ ⟨[]⟩))] => F_slices_BinarySearchFunc_Timed_Timed_int_placeOf_1 x0 target1 (fun r0 r1 => k (.tup [.c (.v (.int .i64 r0)), .c (.v (.bool r1))]) [])
    | _ => False, false⟩
def cl_slices_BinarySearchFunc_Timed_Timed_int_placeOf_1 : List (FuncId × Con) := [(72, con_impl_placeOf_1)]
def nm0_slices_BinarySearchFunc_Timed_Timed_int_placeOf_1 : List NStep := [.keep [0, 1, 2, 8, 9, 10] []]
def an_slices_BinarySearchFunc_Timed_Timed_int_placeOf_1 : Ann := ⟨[], [(3, nm0_slices_BinarySearchFunc_Timed_Timed_int_placeOf_1)], [], []⟩
def cs_slices_BinarySearchFunc_Timed_Timed_int_placeOf_1 : Cons := ⟨cl_slices_BinarySearchFunc_Timed_Timed_int_placeOf_1, [], 0, [], [], []⟩
def can0_slices_BinarySearchFunc_Timed_Timed_int_placeOf_1 (target1 : Int) (x0 : List (Int × Int)) (xn8 : Int) (xi9 : Int) (xj10 : Int) : St := ⟨[(0, .one (.c (.ro .ii x0))), (1, .one (.c (.v (.int .i64 target1)))), (2, .one (.c (.v (.func (.func 72) ⟨[]⟩ ⟨[]⟩)))), (8, .one (.c (.v (.int .i64 xn8)))), (9, .one (.c (.v (.int .i64 xi9)))), (10, .one (.c (.v (.int .i64 xj10))))], []⟩
def fin_slices_BinarySearchFunc_Timed_Timed_int_placeOf_1 (x0 : List (Int × Int)) (target1 : Int) (kk : AV → List A1 → Prop) : Kt := fin TT con_slices_BinarySearchFunc_Timed_Timed_int Try.f71.results.toList [.c .sc, .c .sc] [.c (.ro .ii x0), .c (.v (.int .i64 target1)), .c (.v (.func (.func 72) ⟨[]⟩ ⟨[]⟩))] kk
def kt0_slices_BinarySearchFunc_Timed_Timed_int_placeOf_1 (kf : Kt) : Kt := blockK 0 (seqK (evF TT cs_slices_BinarySearchFunc_Timed_Timed_int_placeOf_1 49 an_slices_BinarySearchFunc_Timed_Timed_int_placeOf_1 Try.f71 [1, 1, 1, 1]) (kf))
theorem r0_slices_BinarySearchFunc_Timed_Timed_int_placeOf_1 (x0 : List (Int × Int)) (target1 : Int) (xn8 : Int) (kk : AV → List A1 → Prop) (n : Nat) (xi9 : Int) (xj10 : Int) :
    iter (evF TT cs_slices_BinarySearchFunc_Timed_Timed_int_placeOf_1 49 an_slices_BinarySearchFunc_Timed_Timed_int_placeOf_1 Try.f71 [1, 1, 1, 0, 0, 0]) nm0_slices_BinarySearchFunc_Timed_Timed_int_placeOf_1 (kt0_slices_BinarySearchFunc_Timed_Timed_int_placeOf_1 (fin_slices_BinarySearchFunc_Timed_Timed_int_placeOf_1 x0 target1 kk)) (n + 1) (can0_slices_BinarySearchFunc_Timed_Timed_int_placeOf_1 target1 x0 xn8 xi9 xj10) = T0_slices_BinarySearchFunc_Timed_Timed_int_placeOf_1 target1 x0 xn8 xi9 xj10 (fun r0 r1 => kk (.tup [.c (.v (.int .i64 r0)), .c (.v (.bool r1))]) []) (fun xi9 xj10 => iter (evF TT cs_slices_BinarySearchFunc_Timed_Timed_int_placeOf_1 49 an_slices_BinarySearchFunc_Timed_Timed_int_placeOf_1 Try.f71 [1, 1, 1, 0, 0, 0]) nm0_slices_BinarySearchFunc_Timed_Timed_int_placeOf_1 (kt0_slices_BinarySearchFunc_Timed_Timed_int_placeOf_1 (fin_slices_BinarySearchFunc_Timed_Timed_int_placeOf_1 x0 target1 kk)) n (can0_slices_BinarySearchFunc_Timed_Timed_int_placeOf_1 target1 x0 xn8 xi9 xj10)) := by kernel_rfl
theorem l0_slices_BinarySearchFunc_Timed_Timed_int_placeOf_1 (x0 : List (Int × Int)) (target1 : Int) (xn8 : Int) (kk : AV → List A1 → Prop) : ∀ (n : Nat) (xi9 : Int) (xj10 : Int), iter (evF TT cs_slices_BinarySearchFunc_Timed_Timed_int_placeOf_1 49 an_slices_BinarySearchFunc_Timed_Timed_int_placeOf_1 Try.f71 [1, 1, 1, 0, 0, 0]) nm0_slices_BinarySearchFunc_Timed_Timed_int_placeOf_1 (kt0_slices_BinarySearchFunc_Timed_Timed_int_placeOf_1 (fin_slices_BinarySearchFunc_Timed_Timed_int_placeOf_1 x0 target1 kk)) n (can0_slices_BinarySearchFunc_Timed_Timed_int_placeOf_1 target1 x0 xn8 xi9 xj10) = L0_slices_BinarySearchFunc_Timed_Timed_int_placeOf_1 target1 x0 xn8 (fun r0 r1 => kk (.tup [.c (.v (.int .i64 r0)), .c (.v (.bool r1))]) []) n xi9 xj10 := by
  intro n
  induction n with
  | zero => intros; rfl
  | succ n ih =>
    intro xi9 xj10
    rw [r0_slices_BinarySearchFunc_Timed_Timed_int_placeOf_1 x0 target1 xn8 kk n xi9 xj10]
    have hb : (fun xi9 xj10 => iter (evF TT cs_slices_BinarySearchFunc_Timed_Timed_int_placeOf_1 49 an_slices_BinarySearchFunc_Timed_Timed_int_placeOf_1 Try.f71 [1, 1, 1, 0, 0, 0]) nm0_slices_BinarySearchFunc_Timed_Timed_int_placeOf_1 (kt0_slices_BinarySearchFunc_Timed_Timed_int_placeOf_1 (fin_slices_BinarySearchFunc_Timed_Timed_int_placeOf_1 x0 target1 kk)) n (can0_slices_BinarySearchFunc_Timed_Timed_int_placeOf_1 target1 x0 xn8 xi9 xj10)) = L0_slices_BinarySearchFunc_Timed_Timed_int_placeOf_1 target1 x0 xn8 (fun r0 r1 => kk (.tup [.c (.v (.int .i64 r0)), .c (.v (.bool r1))]) []) n := by
      funext xi9 xj10; exact ih xi9 xj10
    rw [hb]
    rfl
theorem g_slices_BinarySearchFunc_Timed_Timed_int_placeOf_1 (x0 : List (Int × Int)) (target1 : Int) (kk : AV → List A1 → Prop) :
    ev TT cs_slices_BinarySearchFunc_Timed_Timed_int_placeOf_1 49 an_slices_BinarySearchFunc_Timed_Timed_int_placeOf_1 (Try.f71.body.getD .skip) (st0 con_slices_BinarySearchFunc_Timed_Timed_int [.c (.ro .ii x0), .c (.v (.int .i64 target1)), .c (.v (.func (.func 72) ⟨[]⟩ ⟨[]⟩))]) (fin TT con_slices_BinarySearchFunc_Timed_Timed_int Try.f71.results.toList [.c .sc, .c .sc] [.c (.ro .ii x0), .c (.v (.int .i64 target1)), .c (.v (.func (.func 72) ⟨[]⟩ ⟨[]⟩))] kk) = G_slices_BinarySearchFunc_Timed_Timed_int_placeOf_1 x0 target1 (fun target1 x0 xn8 xi9 xj10 => ∃ j, iter (evF TT cs_slices_BinarySearchFunc_Timed_Timed_int_placeOf_1 49 an_slices_BinarySearchFunc_Timed_Timed_int_placeOf_1 Try.f71 [1, 1, 1, 0, 0, 0]) nm0_slices_BinarySearchFunc_Timed_Timed_int_placeOf_1 (kt0_slices_BinarySearchFunc_Timed_Timed_int_placeOf_1 (fin_slices_BinarySearchFunc_Timed_Timed_int_placeOf_1 x0 target1 kk)) j (can0_slices_BinarySearchFunc_Timed_Timed_int_placeOf_1 target1 x0 xn8 xi9 xj10)) := by kernel_rfl
theorem e_slices_BinarySearchFunc_Timed_Timed_int_placeOf_1 (x0 : List (Int × Int)) (target1 : Int) (kk : AV → List A1 → Prop) :
    ev TT cs_slices_BinarySearchFunc_Timed_Timed_int_placeOf_1 49 an_slices_BinarySearchFunc_Timed_Timed_int_placeOf_1 (Try.f71.body.getD .skip) (st0 con_slices_BinarySearchFunc_Timed_Timed_int [.c (.ro .ii x0), .c (.v (.int .i64 target1)), .c (.v (.func (.func 72) ⟨[]⟩ ⟨[]⟩))]) (fin TT con_slices_BinarySearchFunc_Timed_Timed_int Try.f71.results.toList [.c .sc, .c .sc] [.c (.ro .ii x0), .c (.v (.int .i64 target1)), .c (.v (.func (.func 72) ⟨[]⟩ ⟨[]⟩))] kk) = S_slices_BinarySearchFunc_Timed_Timed_int_placeOf_1 x0 target1 (fun r0 r1 => kk (.tup [.c (.v (.int .i64 r0)), .c (.v (.bool r1))]) []) := by
  rw [g_slices_BinarySearchFunc_Timed_Timed_int_placeOf_1]
  have hi0 : (fun target1 x0 xn8 xi9 xj10 => ∃ j, iter (evF TT cs_slices_BinarySearchFunc_Timed_Timed_int_placeOf_1 49 an_slices_BinarySearchFunc_Timed_Timed_int_placeOf_1 Try.f71 [1, 1, 1, 0, 0, 0]) nm0_slices_BinarySearchFunc_Timed_Timed_int_placeOf_1 (kt0_slices_BinarySearchFunc_Timed_Timed_int_placeOf_1 (fin_slices_BinarySearchFunc_Timed_Timed_int_placeOf_1 x0 target1 kk)) j (can0_slices_BinarySearchFunc_Timed_Timed_int_placeOf_1 target1 x0 xn8 xi9 xj10)) = (fun target1 x0 xn8 xi9 xj10 => ∃ j, L0_slices_BinarySearchFunc_Timed_Timed_int_placeOf_1 target1 x0 xn8 (fun r0 r1 => kk (.tup [.c (.v (.int .i64 r0)), .c (.v (.bool r1))]) []) j xi9 xj10) := by
    funext target1 x0 xn8 xi9 xj10
    refine congrArg Exists (funext fun j => ?_)
    rw [l0_slices_BinarySearchFunc_Timed_Timed_int_placeOf_1 x0 target1 xn8 kk j xi9 xj10]
  rw [hi0]
  rfl
theorem clok_slices_BinarySearchFunc_Timed_Timed_int_placeOf_1 : ConOK Try.prog cl_slices_BinarySearchFunc_Timed_Timed_int_placeOf_1 := consCons h_impl_placeOf_1 ⟨Try.f72, Try.func72, by kernel_rfl, ne_of_beq (by kernel_rfl)⟩ (consNil)
theorem cok_slices_BinarySearchFunc_Timed_Timed_int_placeOf_1 : ConsOK Try.prog 49 cs_slices_BinarySearchFunc_Timed_Timed_int_placeOf_1 := ⟨clok_slices_BinarySearchFunc_Timed_Timed_int_placeOf_1, inlNil, ovNil⟩
theorem i_slices_BinarySearchFunc_Timed_Timed_int_placeOf_1 {vs : List A1} {kk : AV → List A1 → Prop} {motive : List A1 → Prop} (h : con_slices_BinarySearchFunc_Timed_Timed_int.F vs kk) (H : ∀ (x0 : List (Int × Int)) (target1 : Int), F_slices_BinarySearchFunc_Timed_Timed_int_placeOf_1 x0 target1 (fun r0 r1 => kk (.tup [.c (.v (.int .i64 r0)), .c (.v (.bool r1))]) []) → motive [.c (.ro .ii x0), .c (.v (.int .i64 target1)), .c (.v (.func (.func 72) ⟨[]⟩ ⟨[]⟩))]) : motive vs := by
  unfold con_slices_BinarySearchFunc_Timed_Timed_int at h
  dsimp only at h
  split at h
  · exact H _ _ h
  · exact h.elim
theorem h_slices_BinarySearchFunc_Timed_Timed_int : Holds Try.prog 71 con_slices_BinarySearchFunc_Timed_Timed_int := by
  refine holds_of_ev (rt := [.c .sc, .c .sc]) (T := TT) (Γ := cs_slices_BinarySearchFunc_Timed_Timed_int_placeOf_1) (an := an_slices_BinarySearchFunc_Timed_Timed_int_placeOf_1) (N := 49) (c := Try.f71.body.getD .skip) Try.func71 (by kernel_rfl) Try.ntmps71 (by decide) (by decide) mixed tabOK cok_slices_BinarySearchFunc_Timed_Timed_int_placeOf_1 (by kernel_rfl) ?_
  intro vs kk _ hF
  exact i_slices_BinarySearchFunc_Timed_Timed_int_placeOf_1 (motive := fun vs => Goes (ev TT cs_slices_BinarySearchFunc_Timed_Timed_int_placeOf_1 49 an_slices_BinarySearchFunc_Timed_Timed_int_placeOf_1 (Try.f71.body.getD .skip) (st0 con_slices_BinarySearchFunc_Timed_Timed_int vs) (fin TT con_slices_BinarySearchFunc_Timed_Timed_int Try.f71.results.toList [.c .sc, .c .sc] vs kk))) hF (fun x0 target1 hF => goes_of (e_slices_BinarySearchFunc_Timed_Timed_int_placeOf_1 x0 target1 kk) (F_slices_BinarySearchFunc_Timed_Timed_int_placeOf_1_S hF))
def con_impl_placeOf : Con := ⟨[.rd, .rd], true, [.c (.sl .ii), .c (.sc)], fun vs k => match vs with
    | [.c (.ro .ii list0), .c (.v (.int .i64 key1))] => F_impl_placeOf list0 key1 (fun r0 r1 => k (.tup [.c (.v (.int .i64 r0)), .c (.v (.bool r1))]) [])
    | _ => False, false⟩
def cl_impl_placeOf : List (FuncId × Con) := [(71, con_slices_BinarySearchFunc_Timed_Timed_int)]
def an_impl_placeOf : Ann := ⟨[], [], [], []⟩
def cs_impl_placeOf : Cons := ⟨cl_impl_placeOf, [], 0, [], [], []⟩
def fin_impl_placeOf (list0 : List (Int × Int)) (key1 : Int) (kk : AV → List A1 → Prop) : Kt := fin TT con_impl_placeOf Try.f49.results.toList [.c .sc, .c .sc] [.c (.ro .ii list0), .c (.v (.int .i64 key1))] kk
theorem g_impl_placeOf (list0 : List (Int × Int)) (key1 : Int) (kk : AV → List A1 → Prop) :
    ev TT cs_impl_placeOf 11 an_impl_placeOf (Try.f49.body.getD .skip) (st0 con_impl_placeOf [.c (.ro .ii list0), .c (.v (.int .i64 key1))]) (fin TT con_impl_placeOf Try.f49.results.toList [.c .sc, .c .sc] [.c (.ro .ii list0), .c (.v (.int .i64 key1))] kk) = G_impl_placeOf list0 key1 (fun r0 r1 => kk (.tup [.c (.v (.int .i64 r0)), .c (.v (.bool r1))]) []) := by kernel_rfl
theorem e_impl_placeOf (list0 : List (Int × Int)) (key1 : Int) (kk : AV → List A1 → Prop) :
    ev TT cs_impl_placeOf 11 an_impl_placeOf (Try.f49.body.getD .skip) (st0 con_impl_placeOf [.c (.ro .ii list0), .c (.v (.int .i64 key1))]) (fin TT con_impl_placeOf Try.f49.results.toList [.c .sc, .c .sc] [.c (.ro .ii list0), .c (.v (.int .i64 key1))] kk) = S_impl_placeOf list0 key1 (fun r0 r1 => kk (.tup [.c (.v (.int .i64 r0)), .c (.v (.bool r1))]) []) := by
  rw [g_impl_placeOf]
  rfl
theorem clok_impl_placeOf : ConOK Try.prog cl_impl_placeOf := consCons h_slices_BinarySearchFunc_Timed_Timed_int ⟨Try.f71, Try.func71, by kernel_rfl, ne_of_beq (by kernel_rfl)⟩ (consNil)
theorem cok_impl_placeOf : ConsOK Try.prog 11 cs_impl_placeOf := ⟨clok_impl_placeOf, inlNil, ovNil⟩
theorem i_impl_placeOf {vs : List A1} {kk : AV → List A1 → Prop} {motive : List A1 → Prop} (h : con_impl_placeOf.F vs kk) (H : ∀ (list0 : List (Int × Int)) (key1 : Int), F_impl_placeOf list0 key1 (fun r0 r1 => kk (.tup [.c (.v (.int .i64 r0)), .c (.v (.bool r1))]) []) → motive [.c (.ro .ii list0), .c (.v (.int .i64 key1))]) : motive vs := by
  unfold con_impl_placeOf at h
  dsimp only at h
  split at h
  · exact H _ _ h
  · exact h.elim
theorem h_impl_placeOf : Holds Try.prog 49 con_impl_placeOf := by
  refine holds_of_ev (rt := [.c .sc, .c .sc]) (T := TT) (Γ := cs_impl_placeOf) (an := an_impl_placeOf) (N := 11) (c := Try.f49.body.getD .skip) Try.func49 (by kernel_rfl) Try.ntmps49 (by decide) (by decide) mixed tabOK cok_impl_placeOf (by kernel_rfl) ?_
  intro vs kk _ hF
  exact i_impl_placeOf (motive := fun vs => Goes (ev TT cs_impl_placeOf 11 an_impl_placeOf (Try.f49.body.getD .skip) (st0 con_impl_placeOf vs) (fin TT con_impl_placeOf Try.f49.results.toList [.c .sc, .c .sc] vs kk))) hF (fun list0 key1 hF => goes_of (e_impl_placeOf list0 key1 kk) (F_impl_placeOf_S hF))
def con_slices_Insert_Timed_Timed : Con := ⟨[.mv, .rd, .rd], true, [.c (.sl .ii), .c (.sc), .c (.sl .ii)], fun vs k => match vs with
    | [.c (.ro .ii s0), .c (.v (.int .i64 i1)), .c (.ro .ii v2)] => F_slices_Insert_Timed_Timed s0 i1 v2 (fun r0 => k (.one (.c (.ro .ii r0))) [])
    | _ => False, false⟩
def cl_slices_Insert_Timed_Timed : List (FuncId × Con) := []
def an_slices_Insert_Timed_Timed : Ann := ⟨[(11, .take 0 (.take 1 (.take 2 (.take 3 (.take 4 (.take 5 (.take 6 (.take 7 (.alt 8 (.done) (.none))))))))), []), (15, .take 0 (.take 1 (.take 2 (.take 3 (.take 4 (.take 5 (.take 6 (.take 7 (.alt 8 (.done) (.none))))))))), [])], [], [], [(8, .op 0), (17, .cl 0)]⟩
def cs_slices_Insert_Timed_Timed : Cons := ⟨cl_slices_Insert_Timed_Timed, [], 0, [], [], [74]⟩
def fin_slices_Insert_Timed_Timed (s0 : List (Int × Int)) (i1 : Int) (v2 : List (Int × Int)) (kk : AV → List A1 → Prop) : Kt := fin TT con_slices_Insert_Timed_Timed Try.f50.results.toList [.c (.sl .ii)] [.c (.ro .ii s0), .c (.v (.int .i64 i1)), .c (.ro .ii v2)] kk
theorem g_slices_Insert_Timed_Timed (s0 : List (Int × Int)) (i1 : Int) (v2 : List (Int × Int)) (kk : AV → List A1 → Prop) :
    ev TT cs_slices_Insert_Timed_Timed 95 an_slices_Insert_Timed_Timed (Try.f50.body.getD .skip) (st0 con_slices_Insert_Timed_Timed [.c (.ro .ii s0), .c (.v (.int .i64 i1)), .c (.ro .ii v2)]) (fin TT con_slices_Insert_Timed_Timed Try.f50.results.toList [.c (.sl .ii)] [.c (.ro .ii s0), .c (.v (.int .i64 i1)), .c (.ro .ii v2)] kk) = G_slices_Insert_Timed_Timed s0 i1 v2 (fun r0 => kk (.one (.c (.ro .ii r0))) []) := by kernel_rfl
theorem e_slices_Insert_Timed_Timed (s0 : List (Int × Int)) (i1 : Int) (v2 : List (Int × Int)) (kk : AV → List A1 → Prop) :
    ev TT cs_slices_Insert_Timed_Timed 95 an_slices_Insert_Timed_Timed (Try.f50.body.getD .skip) (st0 con_slices_Insert_Timed_Timed [.c (.ro .ii s0), .c (.v (.int .i64 i1)), .c (.ro .ii v2)]) (fin TT con_slices_Insert_Timed_Timed Try.f50.results.toList [.c (.sl .ii)] [.c (.ro .ii s0), .c (.v (.int .i64 i1)), .c (.ro .ii v2)] kk) = S_slices_Insert_Timed_Timed s0 i1 v2 (fun r0 => kk (.one (.c (.ro .ii r0))) []) := by
  rw [g_slices_Insert_Timed_Timed]
  rw [G_slices_Insert_Timed_Timed_eq]
  rfl
theorem clok_slices_Insert_Timed_Timed : ConOK Try.prog cl_slices_Insert_Timed_Timed := consNil
theorem cok_slices_Insert_Timed_Timed : ConsOK Try.prog 95 cs_slices_Insert_Timed_Timed := ⟨clok_slices_Insert_Timed_Timed, inlNil, ovCons (ov_tab (tS := 34) (tR := 4) (e := 40) (τ := .ii) tabOK (by kernel_rfl) Try.func74 (by kernel_rfl) (by kernel_rfl) (by kernel_rfl) (by kernel_rfl)) (ovNil)⟩
theorem i_slices_Insert_Timed_Timed {vs : List A1} {kk : AV → List A1 → Prop} {motive : List A1 → Prop} (h : con_slices_Insert_Timed_Timed.F vs kk) (H : ∀ (s0 : List (Int × Int)) (i1 : Int) (v2 : List (Int × Int)), F_slices_Insert_Timed_Timed s0 i1 v2 (fun r0 => kk (.one (.c (.ro .ii r0))) []) → motive [.c (.ro .ii s0), .c (.v (.int .i64 i1)), .c (.ro .ii v2)]) : motive vs := by
  unfold con_slices_Insert_Timed_Timed at h
  dsimp only at h
  split at h
  · exact H _ _ _ h
  · exact h.elim
theorem h_slices_Insert_Timed_Timed : Holds Try.prog 50 con_slices_Insert_Timed_Timed := by
  refine holds_of_ev (rt := [.c (.sl .ii)]) (T := TT) (Γ := cs_slices_Insert_Timed_Timed) (an := an_slices_Insert_Timed_Timed) (N := 95) (c := Try.f50.body.getD .skip) Try.func50 (by kernel_rfl) Try.ntmps50 (by decide) (by decide) mixed tabOK cok_slices_Insert_Timed_Timed (by kernel_rfl) ?_
  intro vs kk _ hF
  exact i_slices_Insert_Timed_Timed (motive := fun vs => Goes (ev TT cs_slices_Insert_Timed_Timed 95 an_slices_Insert_Timed_Timed (Try.f50.body.getD .skip) (st0 con_slices_Insert_Timed_Timed vs) (fin TT con_slices_Insert_Timed_Timed Try.f50.results.toList [.c (.sl .ii)] vs kk))) hF (fun s0 i1 v2 hF => goes_of (e_slices_Insert_Timed_Timed s0 i1 v2 kk) (F_slices_Insert_Timed_Timed_S hF))
def con_impl_PutTimed : Con := ⟨[.rd, .rd, .rd], true, [.c (.sl .ii), .c (.sc), .c (.sc)], fun vs k => match vs with
    | [.c (.ro .ii list0), .c (.v (.int .i64 key1)), .c (.v (.int .i64 until2))] => F_impl_PutTimed list0 key1 until2 (fun r0 r1 => k (.tup [.c (.ro .ii r0), .c (.v (.bool r1))]) [])
    | _ => False, false⟩
def cl_impl_PutTimed : List (FuncId × Con) := [(44, con_impl_ValidTimed), (47, con_impl_validKey), (48, con_impl_validTime), (49, con_impl_placeOf), (50, con_slices_Insert_Timed_Timed)]
def an_impl_PutTimed : Ann := ⟨[], [], [], []⟩
def cs_impl_PutTimed : Cons := ⟨cl_impl_PutTimed, [], 0, [], [], []⟩
def fin_impl_PutTimed (list0 : List (Int × Int)) (key1 : Int) (until2 : Int) (kk : AV → List A1 → Prop) : Kt := fin TT con_impl_PutTimed Try.f21.results.toList [.c (.sl .ii), .c .sc] [.c (.ro .ii list0), .c (.v (.int .i64 key1)), .c (.v (.int .i64 until2))] kk
theorem g_impl_PutTimed (list0 : List (Int × Int)) (key1 : Int) (until2 : Int) (kk : AV → List A1 → Prop) :
    ev TT cs_impl_PutTimed 50 an_impl_PutTimed (Try.f21.body.getD .skip) (st0 con_impl_PutTimed [.c (.ro .ii list0), .c (.v (.int .i64 key1)), .c (.v (.int .i64 until2))]) (fin TT con_impl_PutTimed Try.f21.results.toList [.c (.sl .ii), .c .sc] [.c (.ro .ii list0), .c (.v (.int .i64 key1)), .c (.v (.int .i64 until2))] kk) = G_impl_PutTimed list0 key1 until2 (fun r0 r1 => kk (.tup [.c (.ro .ii r0), .c (.v (.bool r1))]) []) := by kernel_rfl
theorem e_impl_PutTimed (list0 : List (Int × Int)) (key1 : Int) (until2 : Int) (kk : AV → List A1 → Prop) :
    ev TT cs_impl_PutTimed 50 an_impl_PutTimed (Try.f21.body.getD .skip) (st0 con_impl_PutTimed [.c (.ro .ii list0), .c (.v (.int .i64 key1)), .c (.v (.int .i64 until2))]) (fin TT con_impl_PutTimed Try.f21.results.toList [.c (.sl .ii), .c .sc] [.c (.ro .ii list0), .c (.v (.int .i64 key1)), .c (.v (.int .i64 until2))] kk) = S_impl_PutTimed list0 key1 until2 (fun r0 r1 => kk (.tup [.c (.ro .ii r0), .c (.v (.bool r1))]) []) := by
  rw [g_impl_PutTimed]
  rfl
theorem clok_impl_PutTimed : ConOK Try.prog cl_impl_PutTimed := consCons h_impl_ValidTimed ⟨Try.f44, Try.func44, by kernel_rfl, ne_of_beq (by kernel_rfl)⟩ (consCons h_impl_validKey ⟨Try.f47, Try.func47, by kernel_rfl, ne_of_beq (by kernel_rfl)⟩ (consCons h_impl_validTime ⟨Try.f48, Try.func48, by kernel_rfl, ne_of_beq (by kernel_rfl)⟩ (consCons h_impl_placeOf ⟨Try.f49, Try.func49, by kernel_rfl, ne_of_beq (by kernel_rfl)⟩ (consCons h_slices_Insert_Timed_Timed ⟨Try.f50, Try.func50, by kernel_rfl, ne_of_beq (by kernel_rfl)⟩ (consNil)))))
theorem cok_impl_PutTimed : ConsOK Try.prog 50 cs_impl_PutTimed := ⟨clok_impl_PutTimed, inlNil, ovNil⟩
theorem i_impl_PutTimed {vs : List A1} {kk : AV → List A1 → Prop} {motive : List A1 → Prop} (h : con_impl_PutTimed.F vs kk) (H : ∀ (list0 : List (Int × Int)) (key1 : Int) (until2 : Int), F_impl_PutTimed list0 key1 until2 (fun r0 r1 => kk (.tup [.c (.ro .ii r0), .c (.v (.bool r1))]) []) → motive [.c (.ro .ii list0), .c (.v (.int .i64 key1)), .c (.v (.int .i64 until2))]) : motive vs := by
  unfold con_impl_PutTimed at h
  dsimp only at h
  split at h
  · exact H _ _ _ h
  · exact h.elim
theorem h_impl_PutTimed : Holds Try.prog 21 con_impl_PutTimed := by
  refine holds_of_ev (rt := [.c (.sl .ii), .c .sc]) (T := TT) (Γ := cs_impl_PutTimed) (an := an_impl_PutTimed) (N := 50) (c := Try.f21.body.getD .skip) Try.func21 (by kernel_rfl) Try.ntmps21 (by decide) (by decide) mixed tabOK cok_impl_PutTimed (by kernel_rfl) ?_
  intro vs kk _ hF
  exact i_impl_PutTimed (motive := fun vs => Goes (ev TT cs_impl_PutTimed 50 an_impl_PutTimed (Try.f21.body.getD .skip) (st0 con_impl_PutTimed vs) (fin TT con_impl_PutTimed Try.f21.results.toList [.c (.sl .ii), .c .sc] vs kk))) hF (fun list0 key1 until2 hF => goes_of (e_impl_PutTimed list0 key1 until2 kk) (F_impl_PutTimed_S hF))
def con_laws_FnWheelOfTurn : Con := ⟨[.rd], true, [.c (.sl .u8)], fun vs k => match vs with
    | [.c (.ro .u8 code0)] => F_laws_FnWheelOfTurn code0 (fun r0 => k (.one (.c (.v (.bool r0)))) [])
    | _ => False, false⟩
def cl_laws_FnWheelOfTurn : List (FuncId × Con) := [(16, con_spec_DrawWheelOf), (17, con_impl_WheelOf), (18, con_laws_equalLists), (19, con_spec_WheelOf), (21, con_impl_PutTimed)]
def an_laws_FnWheelOfTurn : Ann := ⟨[(7, .take 0 (.take 1 (.take 2 (.take 3 (.take 4 (.take 5 (.take 6 (.take 7 (.take 8 (.take 9 (.alt 10 (.take 11 (.take 12 (.take 13 (.take 14 (.take 15 (.done)))))) (.none))))))))))), [])], [], [], []⟩
def cs_laws_FnWheelOfTurn : Cons := ⟨cl_laws_FnWheelOfTurn, [], 0, [], [], []⟩
def fin_laws_FnWheelOfTurn (code0 : List Int) (kk : AV → List A1 → Prop) : Kt := fin TT con_laws_FnWheelOfTurn Try.f5.results.toList [.c .sc] [.c (.ro .u8 code0)] kk
theorem g_laws_FnWheelOfTurn (code0 : List Int) (kk : AV → List A1 → Prop) :
    ev TT cs_laws_FnWheelOfTurn 55 an_laws_FnWheelOfTurn (Try.f5.body.getD .skip) (st0 con_laws_FnWheelOfTurn [.c (.ro .u8 code0)]) (fin TT con_laws_FnWheelOfTurn Try.f5.results.toList [.c .sc] [.c (.ro .u8 code0)] kk) = G_laws_FnWheelOfTurn code0 (fun r0 => kk (.one (.c (.v (.bool r0)))) []) := by kernel_rfl
theorem e_laws_FnWheelOfTurn (code0 : List Int) (kk : AV → List A1 → Prop) :
    ev TT cs_laws_FnWheelOfTurn 55 an_laws_FnWheelOfTurn (Try.f5.body.getD .skip) (st0 con_laws_FnWheelOfTurn [.c (.ro .u8 code0)]) (fin TT con_laws_FnWheelOfTurn Try.f5.results.toList [.c .sc] [.c (.ro .u8 code0)] kk) = S_laws_FnWheelOfTurn code0 (fun r0 => kk (.one (.c (.v (.bool r0)))) []) := by
  rw [g_laws_FnWheelOfTurn]
  rw [G_laws_FnWheelOfTurn_eq]
  rfl
theorem clok_laws_FnWheelOfTurn : ConOK Try.prog cl_laws_FnWheelOfTurn := consCons h_spec_DrawWheelOf ⟨Try.f16, Try.func16, by kernel_rfl, ne_of_beq (by kernel_rfl)⟩ (consCons h_impl_WheelOf ⟨Try.f17, Try.func17, by kernel_rfl, ne_of_beq (by kernel_rfl)⟩ (consCons h_laws_equalLists ⟨Try.f18, Try.func18, by kernel_rfl, ne_of_beq (by kernel_rfl)⟩ (consCons h_spec_WheelOf ⟨Try.f19, Try.func19, by kernel_rfl, ne_of_beq (by kernel_rfl)⟩ (consCons h_impl_PutTimed ⟨Try.f21, Try.func21, by kernel_rfl, ne_of_beq (by kernel_rfl)⟩ (consNil)))))
theorem cok_laws_FnWheelOfTurn : ConsOK Try.prog 55 cs_laws_FnWheelOfTurn := ⟨clok_laws_FnWheelOfTurn, inlNil, ovNil⟩
theorem i_laws_FnWheelOfTurn {vs : List A1} {kk : AV → List A1 → Prop} {motive : List A1 → Prop} (h : con_laws_FnWheelOfTurn.F vs kk) (H : ∀ (code0 : List Int), F_laws_FnWheelOfTurn code0 (fun r0 => kk (.one (.c (.v (.bool r0)))) []) → motive [.c (.ro .u8 code0)]) : motive vs := by
  unfold con_laws_FnWheelOfTurn at h
  dsimp only at h
  split at h
  · exact H _ h
  · exact h.elim
theorem h_laws_FnWheelOfTurn : Holds Try.prog 5 con_laws_FnWheelOfTurn := by
  refine holds_of_ev (rt := [.c .sc]) (T := TT) (Γ := cs_laws_FnWheelOfTurn) (an := an_laws_FnWheelOfTurn) (N := 55) (c := Try.f5.body.getD .skip) Try.func5 (by kernel_rfl) Try.ntmps5 (by decide) (by decide) mixed tabOK cok_laws_FnWheelOfTurn (by kernel_rfl) ?_
  intro vs kk _ hF
  exact i_laws_FnWheelOfTurn (motive := fun vs => Goes (ev TT cs_laws_FnWheelOfTurn 55 an_laws_FnWheelOfTurn (Try.f5.body.getD .skip) (st0 con_laws_FnWheelOfTurn vs) (fin TT con_laws_FnWheelOfTurn Try.f5.results.toList [.c .sc] vs kk))) hF (fun code0 hF => goes_of (e_laws_FnWheelOfTurn code0 kk) (F_laws_FnWheelOfTurn_S hF))
end Go.Ev
