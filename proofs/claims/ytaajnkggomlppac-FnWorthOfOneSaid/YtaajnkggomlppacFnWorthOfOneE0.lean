/- What the evaluator gives for these functions: their contracts. No statement is proved here. -/
import Derived.Test.YtaajnkggomlppacFnWorthOfOneP0
import Derived.Test.YtaajnkggomlppacTt
namespace Go.Ev
set_option linter.unusedVariables false
set_option maxRecDepth 100000
open Go Go.Proofs
def con_spec_newReader : Con := ⟨[.rd], true, [.c (.sl .u8)], fun vs k => match vs with
    | [.c (.ro .u8 code0)] => F_spec_newReader code0 (fun r0 r1 => k (.one (.agg [.ro .u8 r0, .v (.int .i64 r1)])) [])
    | _ => False, true⟩
def cl_spec_newReader : List (FuncId × Con) := []
def an_spec_newReader : Ann := ⟨[], [], [], []⟩
def cs_spec_newReader : Cons := ⟨cl_spec_newReader, [], 0, [], [], []⟩
def fin_spec_newReader (code0 : List Int) (kk : AV → List A1 → Prop) : Kt := finB Try.f33.results.toList [.sl .u8, .sc] kk
theorem g_spec_newReader (code0 : List Int) (kk : AV → List A1 → Prop) :
    ev TT cs_spec_newReader 11 an_spec_newReader (Try.f33.body.getD .skip) (st0 con_spec_newReader [.c (.ro .u8 code0)]) (finB Try.f33.results.toList [.sl .u8, .sc] kk) = G_spec_newReader code0 (fun r0 r1 => kk (.one (.agg [.ro .u8 r0, .v (.int .i64 r1)])) []) := by kernel_rfl
theorem e_spec_newReader (code0 : List Int) (kk : AV → List A1 → Prop) :
    ev TT cs_spec_newReader 11 an_spec_newReader (Try.f33.body.getD .skip) (st0 con_spec_newReader [.c (.ro .u8 code0)]) (finB Try.f33.results.toList [.sl .u8, .sc] kk) = S_spec_newReader code0 (fun r0 r1 => kk (.one (.agg [.ro .u8 r0, .v (.int .i64 r1)])) []) := by
  rw [g_spec_newReader]
  rfl
theorem clok_spec_newReader : ConOK Try.prog cl_spec_newReader := consNil
theorem cok_spec_newReader : ConsOK Try.prog 11 cs_spec_newReader := ⟨clok_spec_newReader, inlNil, ovNil⟩
theorem i_spec_newReader {vs : List A1} {kk : AV → List A1 → Prop} {motive : List A1 → Prop} (h : con_spec_newReader.F vs kk) (H : ∀ (code0 : List Int), F_spec_newReader code0 (fun r0 r1 => kk (.one (.agg [.ro .u8 r0, .v (.int .i64 r1)])) []) → motive [.c (.ro .u8 code0)]) : motive vs := by
  unfold con_spec_newReader at h
  dsimp only at h
  split at h
  · exact H _ h
  · exact h.elim
theorem h_spec_newReader : HoldsB Try.prog 33 con_spec_newReader := by
  refine holdsB_of_ev (ts := [.sl .u8, .sc]) (T := TT) (Γ := cs_spec_newReader) (an := an_spec_newReader) (N := 11) (c := Try.f33.body.getD .skip) Try.func33 (by kernel_rfl) Try.ntmps33 (by decide) (by decide) mixed tabOK cok_spec_newReader (by kernel_rfl) ?_
  intro vs kk _ hF
  exact i_spec_newReader (motive := fun vs => Goes (ev TT cs_spec_newReader 11 an_spec_newReader (Try.f33.body.getD .skip) (st0 con_spec_newReader vs) (finB Try.f33.results.toList [.sl .u8, .sc] kk))) hF (fun code0 hF => goes_of (e_spec_newReader code0 kk) (F_spec_newReader_S hF))
def con_spec_reader_pick : Con := ⟨[.mu, .rd], true, [.ptr [.sl .u8, .sc], .c (.sc)], fun vs k => match vs with
    | [.ptr [.ro .u8 r0b, .v (.int .i64 r0p)], .c (.v (.int .i64 n1))] => F_spec_reader_pick r0b r0p n1 (fun r0 r1 r2 => k (.one (.c (.v (.int .i64 r0)))) [.ptr [.ro .u8 r1, .v (.int .i64 r2)]])
    | _ => False, false⟩
def cl_spec_reader_pick : List (FuncId × Con) := []
def an_spec_reader_pick : Ann := ⟨[(7, .take 0 (.take 1 (.take 2 (.take 3 (.take 4 (.take 5 (.take 6 (.take 7 (.take 8 (.take 9 (.take 10 (.take 11 (.take 12 (.take 13 (.take 14 (.take 15 (.take 16 (.take 17 (.take 18 (.take 19 (.take 20 (.take 21 (.take 22 (.take 23 (.take 24 (.take 25 (.take 26 (.take 27 (.take 28 (.take 29 (.take 30 (.take 31 (.take 32 (.take 33 (.take 34 (.take 35 (.take 36 (.take 37 (.take 38 (.take 39 (.take 40 (.take 41 (.take 42 (.take 43 (.take 44 (.take 45 (.done)))))))))))))))))))))))))))))))))))))))))))))), [100000])], [], [], []⟩
def cs_spec_reader_pick : Cons := ⟨cl_spec_reader_pick, [], 0, [], [], []⟩
def fin_spec_reader_pick (r0b : List Int) (r0p : Int) (n1 : Int) (kk : AV → List A1 → Prop) : Kt := fin TT con_spec_reader_pick Try.f50.results.toList [.c .sc] [.ptr [.ro .u8 r0b, .v (.int .i64 r0p)], .c (.v (.int .i64 n1))] kk
theorem g_spec_reader_pick (r0b : List Int) (r0p : Int) (n1 : Int) (kk : AV → List A1 → Prop) :
    ev TT cs_spec_reader_pick 99 an_spec_reader_pick (Try.f50.body.getD .skip) (st0 con_spec_reader_pick [.ptr [.ro .u8 r0b, .v (.int .i64 r0p)], .c (.v (.int .i64 n1))]) (fin TT con_spec_reader_pick Try.f50.results.toList [.c .sc] [.ptr [.ro .u8 r0b, .v (.int .i64 r0p)], .c (.v (.int .i64 n1))] kk) = G_spec_reader_pick r0b r0p n1 (fun r0 r1 r2 => kk (.one (.c (.v (.int .i64 r0)))) [.ptr [.ro .u8 r1, .v (.int .i64 r2)]]) := by kernel_rfl
theorem e_spec_reader_pick (r0b : List Int) (r0p : Int) (n1 : Int) (kk : AV → List A1 → Prop) :
    ev TT cs_spec_reader_pick 99 an_spec_reader_pick (Try.f50.body.getD .skip) (st0 con_spec_reader_pick [.ptr [.ro .u8 r0b, .v (.int .i64 r0p)], .c (.v (.int .i64 n1))]) (fin TT con_spec_reader_pick Try.f50.results.toList [.c .sc] [.ptr [.ro .u8 r0b, .v (.int .i64 r0p)], .c (.v (.int .i64 n1))] kk) = S_spec_reader_pick r0b r0p n1 (fun r0 r1 r2 => kk (.one (.c (.v (.int .i64 r0)))) [.ptr [.ro .u8 r1, .v (.int .i64 r2)]]) := by
  rw [g_spec_reader_pick]
  rfl
theorem clok_spec_reader_pick : ConOK Try.prog cl_spec_reader_pick := consNil
theorem cok_spec_reader_pick : ConsOK Try.prog 99 cs_spec_reader_pick := ⟨clok_spec_reader_pick, inlNil, ovNil⟩
theorem i_spec_reader_pick {vs : List A1} {kk : AV → List A1 → Prop} {motive : List A1 → Prop} (h : con_spec_reader_pick.F vs kk) (H : ∀ (r0b : List Int) (r0p : Int) (n1 : Int), F_spec_reader_pick r0b r0p n1 (fun r0 r1 r2 => kk (.one (.c (.v (.int .i64 r0)))) [.ptr [.ro .u8 r1, .v (.int .i64 r2)]]) → motive [.ptr [.ro .u8 r0b, .v (.int .i64 r0p)], .c (.v (.int .i64 n1))]) : motive vs := by
  unfold con_spec_reader_pick at h
  dsimp only at h
  split at h
  · exact H _ _ _ h
  · exact h.elim
theorem h_spec_reader_pick : Holds Try.prog 50 con_spec_reader_pick := by
  refine holds_of_ev (rt := [.c .sc]) (T := TT) (Γ := cs_spec_reader_pick) (an := an_spec_reader_pick) (N := 99) (c := Try.f50.body.getD .skip) Try.func50 (by kernel_rfl) Try.ntmps50 (by decide) (by decide) mixed tabOK cok_spec_reader_pick (by kernel_rfl) ?_
  intro vs kk _ hF
  exact i_spec_reader_pick (motive := fun vs => Goes (ev TT cs_spec_reader_pick 99 an_spec_reader_pick (Try.f50.body.getD .skip) (st0 con_spec_reader_pick vs) (fin TT con_spec_reader_pick Try.f50.results.toList [.c .sc] vs kk))) hF (fun r0b r0p n1 hF => goes_of (e_spec_reader_pick r0b r0p n1 kk) (F_spec_reader_pick_S hF))
def con_spec_reader_one : Con := ⟨[.mu, .rd], true, [.ptr [.sl .u8, .sc], .c (.sl .int)], fun vs k => match vs with
    | [.ptr [.ro .u8 r0b, .v (.int .i64 r0p)], .c (.ro .int list1)] => F_spec_reader_one r0b r0p list1 (fun r0 r1 r2 => k (.one (.c (.v (.int .i64 r0)))) [.ptr [.ro .u8 r1, .v (.int .i64 r2)]])
    | _ => False, false⟩
def cl_spec_reader_one : List (FuncId × Con) := [(50, con_spec_reader_pick)]
def an_spec_reader_one : Ann := ⟨[], [], [], []⟩
def cs_spec_reader_one : Cons := ⟨cl_spec_reader_one, [], 0, [], [], []⟩
def fin_spec_reader_one (r0b : List Int) (r0p : Int) (list1 : List Int) (kk : AV → List A1 → Prop) : Kt := fin TT con_spec_reader_one Try.f34.results.toList [.c .sc] [.ptr [.ro .u8 r0b, .v (.int .i64 r0p)], .c (.ro .int list1)] kk
theorem g_spec_reader_one (r0b : List Int) (r0p : Int) (list1 : List Int) (kk : AV → List A1 → Prop) :
    ev TT cs_spec_reader_one 12 an_spec_reader_one (Try.f34.body.getD .skip) (st0 con_spec_reader_one [.ptr [.ro .u8 r0b, .v (.int .i64 r0p)], .c (.ro .int list1)]) (fin TT con_spec_reader_one Try.f34.results.toList [.c .sc] [.ptr [.ro .u8 r0b, .v (.int .i64 r0p)], .c (.ro .int list1)] kk) = G_spec_reader_one r0b r0p list1 (fun r0 r1 r2 => kk (.one (.c (.v (.int .i64 r0)))) [.ptr [.ro .u8 r1, .v (.int .i64 r2)]]) := by kernel_rfl
theorem e_spec_reader_one (r0b : List Int) (r0p : Int) (list1 : List Int) (kk : AV → List A1 → Prop) :
    ev TT cs_spec_reader_one 12 an_spec_reader_one (Try.f34.body.getD .skip) (st0 con_spec_reader_one [.ptr [.ro .u8 r0b, .v (.int .i64 r0p)], .c (.ro .int list1)]) (fin TT con_spec_reader_one Try.f34.results.toList [.c .sc] [.ptr [.ro .u8 r0b, .v (.int .i64 r0p)], .c (.ro .int list1)] kk) = S_spec_reader_one r0b r0p list1 (fun r0 r1 r2 => kk (.one (.c (.v (.int .i64 r0)))) [.ptr [.ro .u8 r1, .v (.int .i64 r2)]]) := by
  rw [g_spec_reader_one]
  rfl
theorem clok_spec_reader_one : ConOK Try.prog cl_spec_reader_one := consCons h_spec_reader_pick ⟨Try.f50, Try.func50, by kernel_rfl, ne_of_beq (by kernel_rfl)⟩ (consNil)
theorem cok_spec_reader_one : ConsOK Try.prog 12 cs_spec_reader_one := ⟨clok_spec_reader_one, inlNil, ovNil⟩
theorem i_spec_reader_one {vs : List A1} {kk : AV → List A1 → Prop} {motive : List A1 → Prop} (h : con_spec_reader_one.F vs kk) (H : ∀ (r0b : List Int) (r0p : Int) (list1 : List Int), F_spec_reader_one r0b r0p list1 (fun r0 r1 r2 => kk (.one (.c (.v (.int .i64 r0)))) [.ptr [.ro .u8 r1, .v (.int .i64 r2)]]) → motive [.ptr [.ro .u8 r0b, .v (.int .i64 r0p)], .c (.ro .int list1)]) : motive vs := by
  unfold con_spec_reader_one at h
  dsimp only at h
  split at h
  · exact H _ _ _ h
  · exact h.elim
theorem h_spec_reader_one : Holds Try.prog 34 con_spec_reader_one := by
  refine holds_of_ev (rt := [.c .sc]) (T := TT) (Γ := cs_spec_reader_one) (an := an_spec_reader_one) (N := 12) (c := Try.f34.body.getD .skip) Try.func34 (by kernel_rfl) Try.ntmps34 (by decide) (by decide) mixed tabOK cok_spec_reader_one (by kernel_rfl) ?_
  intro vs kk _ hF
  exact i_spec_reader_one (motive := fun vs => Goes (ev TT cs_spec_reader_one 12 an_spec_reader_one (Try.f34.body.getD .skip) (st0 con_spec_reader_one vs) (fin TT con_spec_reader_one Try.f34.results.toList [.c .sc] vs kk))) hF (fun r0b r0p list1 hF => goes_of (e_spec_reader_one r0b r0p list1 kk) (F_spec_reader_one_S hF))
def con_spec_DrawWorthOf : Con := ⟨[.rd], true, [.c (.sl .u8)], fun vs k => match vs with
    | [.c (.ro .u8 code0)] => F_spec_DrawWorthOf code0 (fun r0 r1 r2 => k (.tup [.c (.v (.int .i64 r0)), .c (.v (.int .i64 r1)), .c (.v (.int .i64 r2))]) [])
    | _ => False, false⟩
def cl_spec_DrawWorthOf : List (FuncId × Con) := [(33, con_spec_newReader), (34, con_spec_reader_one)]
def an_spec_DrawWorthOf : Ann := ⟨[], [], [], []⟩
def cs_spec_DrawWorthOf : Cons := ⟨cl_spec_DrawWorthOf, [], 0, [], [], []⟩
def fin_spec_DrawWorthOf (code0 : List Int) (kk : AV → List A1 → Prop) : Kt := fin TT con_spec_DrawWorthOf Try.f22.results.toList [.c .sc, .c .sc, .c .sc] [.c (.ro .u8 code0)] kk
theorem g_spec_DrawWorthOf (code0 : List Int) (kk : AV → List A1 → Prop) :
    ev TT cs_spec_DrawWorthOf 21 an_spec_DrawWorthOf (Try.f22.body.getD .skip) (st0 con_spec_DrawWorthOf [.c (.ro .u8 code0)]) (fin TT con_spec_DrawWorthOf Try.f22.results.toList [.c .sc, .c .sc, .c .sc] [.c (.ro .u8 code0)] kk) = G_spec_DrawWorthOf code0 (fun r0 r1 r2 => kk (.tup [.c (.v (.int .i64 r0)), .c (.v (.int .i64 r1)), .c (.v (.int .i64 r2))]) []) := by kernel_rfl
theorem e_spec_DrawWorthOf (code0 : List Int) (kk : AV → List A1 → Prop) :
    ev TT cs_spec_DrawWorthOf 21 an_spec_DrawWorthOf (Try.f22.body.getD .skip) (st0 con_spec_DrawWorthOf [.c (.ro .u8 code0)]) (fin TT con_spec_DrawWorthOf Try.f22.results.toList [.c .sc, .c .sc, .c .sc] [.c (.ro .u8 code0)] kk) = S_spec_DrawWorthOf code0 (fun r0 r1 r2 => kk (.tup [.c (.v (.int .i64 r0)), .c (.v (.int .i64 r1)), .c (.v (.int .i64 r2))]) []) := by
  rw [g_spec_DrawWorthOf]
  rfl
theorem clok_spec_DrawWorthOf : ConOK Try.prog cl_spec_DrawWorthOf := consCons h_spec_newReader ⟨Try.f33, Try.func33, by kernel_rfl, ne_of_beq (by kernel_rfl)⟩ (consCons h_spec_reader_one ⟨Try.f34, Try.func34, by kernel_rfl, ne_of_beq (by kernel_rfl)⟩ (consNil))
theorem cok_spec_DrawWorthOf : ConsOK Try.prog 21 cs_spec_DrawWorthOf := ⟨clok_spec_DrawWorthOf, inlNil, ovNil⟩
theorem i_spec_DrawWorthOf {vs : List A1} {kk : AV → List A1 → Prop} {motive : List A1 → Prop} (h : con_spec_DrawWorthOf.F vs kk) (H : ∀ (code0 : List Int), F_spec_DrawWorthOf code0 (fun r0 r1 r2 => kk (.tup [.c (.v (.int .i64 r0)), .c (.v (.int .i64 r1)), .c (.v (.int .i64 r2))]) []) → motive [.c (.ro .u8 code0)]) : motive vs := by
  unfold con_spec_DrawWorthOf at h
  dsimp only at h
  split at h
  · exact H _ h
  · exact h.elim
theorem h_spec_DrawWorthOf : Holds Try.prog 22 con_spec_DrawWorthOf := by
  refine holds_of_ev (rt := [.c .sc, .c .sc, .c .sc]) (T := TT) (Γ := cs_spec_DrawWorthOf) (an := an_spec_DrawWorthOf) (N := 21) (c := Try.f22.body.getD .skip) Try.func22 (by kernel_rfl) Try.ntmps22 (by decide) (by decide) mixed tabOK cok_spec_DrawWorthOf (by kernel_rfl) ?_
  intro vs kk _ hF
  exact i_spec_DrawWorthOf (motive := fun vs => Goes (ev TT cs_spec_DrawWorthOf 21 an_spec_DrawWorthOf (Try.f22.body.getD .skip) (st0 con_spec_DrawWorthOf vs) (fin TT con_spec_DrawWorthOf Try.f22.results.toList [.c .sc, .c .sc, .c .sc] vs kk))) hF (fun code0 hF => goes_of (e_spec_DrawWorthOf code0 kk) (F_spec_DrawWorthOf_S hF))
def con_impl_validCount : Con := ⟨[.rd], true, [.c (.sc)], fun vs k => match vs with
    | [.c (.v (.int .i64 count0))] => F_impl_validCount count0 (fun r0 => k (.one (.c (.v (.bool r0)))) [])
    | _ => False, false⟩
def cl_impl_validCount : List (FuncId × Con) := []
def an_impl_validCount : Ann := ⟨[], [], [], []⟩
def cs_impl_validCount : Cons := ⟨cl_impl_validCount, [], 0, [], [], []⟩
def fin_impl_validCount (count0 : Int) (kk : AV → List A1 → Prop) : Kt := fin TT con_impl_validCount Try.f42.results.toList [.c .sc] [.c (.v (.int .i64 count0))] kk
theorem g_impl_validCount (count0 : Int) (kk : AV → List A1 → Prop) :
    ev TT cs_impl_validCount 9 an_impl_validCount (Try.f42.body.getD .skip) (st0 con_impl_validCount [.c (.v (.int .i64 count0))]) (fin TT con_impl_validCount Try.f42.results.toList [.c .sc] [.c (.v (.int .i64 count0))] kk) = G_impl_validCount count0 (fun r0 => kk (.one (.c (.v (.bool r0)))) []) := by kernel_rfl
theorem e_impl_validCount (count0 : Int) (kk : AV → List A1 → Prop) :
    ev TT cs_impl_validCount 9 an_impl_validCount (Try.f42.body.getD .skip) (st0 con_impl_validCount [.c (.v (.int .i64 count0))]) (fin TT con_impl_validCount Try.f42.results.toList [.c .sc] [.c (.v (.int .i64 count0))] kk) = S_impl_validCount count0 (fun r0 => kk (.one (.c (.v (.bool r0)))) []) := by
  rw [g_impl_validCount]
  rfl
theorem clok_impl_validCount : ConOK Try.prog cl_impl_validCount := consNil
theorem cok_impl_validCount : ConsOK Try.prog 9 cs_impl_validCount := ⟨clok_impl_validCount, inlNil, ovNil⟩
theorem i_impl_validCount {vs : List A1} {kk : AV → List A1 → Prop} {motive : List A1 → Prop} (h : con_impl_validCount.F vs kk) (H : ∀ (count0 : Int), F_impl_validCount count0 (fun r0 => kk (.one (.c (.v (.bool r0)))) []) → motive [.c (.v (.int .i64 count0))]) : motive vs := by
  unfold con_impl_validCount at h
  dsimp only at h
  split at h
  · exact H _ h
  · exact h.elim
theorem h_impl_validCount : Holds Try.prog 42 con_impl_validCount := by
  refine holds_of_ev (rt := [.c .sc]) (T := TT) (Γ := cs_impl_validCount) (an := an_impl_validCount) (N := 9) (c := Try.f42.body.getD .skip) Try.func42 (by kernel_rfl) Try.ntmps42 (by decide) (by decide) mixed tabOK cok_impl_validCount (by kernel_rfl) ?_
  intro vs kk _ hF
  exact i_impl_validCount (motive := fun vs => Goes (ev TT cs_impl_validCount 9 an_impl_validCount (Try.f42.body.getD .skip) (st0 con_impl_validCount vs) (fin TT con_impl_validCount Try.f42.results.toList [.c .sc] vs kk))) hF (fun count0 hF => goes_of (e_impl_validCount count0 kk) (F_impl_validCount_S hF))
def con_impl_validSize : Con := ⟨[.rd], true, [.c (.sc)], fun vs k => match vs with
    | [.c (.v (.int .i64 size0))] => F_impl_validSize size0 (fun r0 => k (.one (.c (.v (.bool r0)))) [])
    | _ => False, false⟩
def cl_impl_validSize : List (FuncId × Con) := []
def an_impl_validSize : Ann := ⟨[], [], [], []⟩
def cs_impl_validSize : Cons := ⟨cl_impl_validSize, [], 0, [], [], []⟩
def fin_impl_validSize (size0 : Int) (kk : AV → List A1 → Prop) : Kt := fin TT con_impl_validSize Try.f43.results.toList [.c .sc] [.c (.v (.int .i64 size0))] kk
theorem g_impl_validSize (size0 : Int) (kk : AV → List A1 → Prop) :
    ev TT cs_impl_validSize 9 an_impl_validSize (Try.f43.body.getD .skip) (st0 con_impl_validSize [.c (.v (.int .i64 size0))]) (fin TT con_impl_validSize Try.f43.results.toList [.c .sc] [.c (.v (.int .i64 size0))] kk) = G_impl_validSize size0 (fun r0 => kk (.one (.c (.v (.bool r0)))) []) := by kernel_rfl
theorem e_impl_validSize (size0 : Int) (kk : AV → List A1 → Prop) :
    ev TT cs_impl_validSize 9 an_impl_validSize (Try.f43.body.getD .skip) (st0 con_impl_validSize [.c (.v (.int .i64 size0))]) (fin TT con_impl_validSize Try.f43.results.toList [.c .sc] [.c (.v (.int .i64 size0))] kk) = S_impl_validSize size0 (fun r0 => kk (.one (.c (.v (.bool r0)))) []) := by
  rw [g_impl_validSize]
  rfl
theorem clok_impl_validSize : ConOK Try.prog cl_impl_validSize := consNil
theorem cok_impl_validSize : ConsOK Try.prog 9 cs_impl_validSize := ⟨clok_impl_validSize, inlNil, ovNil⟩
theorem i_impl_validSize {vs : List A1} {kk : AV → List A1 → Prop} {motive : List A1 → Prop} (h : con_impl_validSize.F vs kk) (H : ∀ (size0 : Int), F_impl_validSize size0 (fun r0 => kk (.one (.c (.v (.bool r0)))) []) → motive [.c (.v (.int .i64 size0))]) : motive vs := by
  unfold con_impl_validSize at h
  dsimp only at h
  split at h
  · exact H _ h
  · exact h.elim
theorem h_impl_validSize : Holds Try.prog 43 con_impl_validSize := by
  refine holds_of_ev (rt := [.c .sc]) (T := TT) (Γ := cs_impl_validSize) (an := an_impl_validSize) (N := 9) (c := Try.f43.body.getD .skip) Try.func43 (by kernel_rfl) Try.ntmps43 (by decide) (by decide) mixed tabOK cok_impl_validSize (by kernel_rfl) ?_
  intro vs kk _ hF
  exact i_impl_validSize (motive := fun vs => Goes (ev TT cs_impl_validSize 9 an_impl_validSize (Try.f43.body.getD .skip) (st0 con_impl_validSize vs) (fin TT con_impl_validSize Try.f43.results.toList [.c .sc] vs kk))) hF (fun size0 hF => goes_of (e_impl_validSize size0 kk) (F_impl_validSize_S hF))
def con_impl_WorthOf : Con := ⟨[.rd, .rd, .rd], true, [.c (.sc), .c (.sc), .c (.sc)], fun vs k => match vs with
    | [.c (.v (.int .i64 times0)), .c (.v (.int .i64 cost1)), .c (.v (.int .i64 size2))] => F_impl_WorthOf times0 cost1 size2 (fun r0 => k (.one (.c (.v (.int .i64 r0)))) [])
    | _ => False, false⟩
def cl_impl_WorthOf : List (FuncId × Con) := [(42, con_impl_validCount), (43, con_impl_validSize)]
def an_impl_WorthOf : Ann := ⟨[], [], [], []⟩
def cs_impl_WorthOf : Cons := ⟨cl_impl_WorthOf, [], 0, [], [], []⟩
def fin_impl_WorthOf (times0 : Int) (cost1 : Int) (size2 : Int) (kk : AV → List A1 → Prop) : Kt := fin TT con_impl_WorthOf Try.f23.results.toList [.c .sc] [.c (.v (.int .i64 times0)), .c (.v (.int .i64 cost1)), .c (.v (.int .i64 size2))] kk
theorem g_impl_WorthOf (times0 : Int) (cost1 : Int) (size2 : Int) (kk : AV → List A1 → Prop) :
    ev TT cs_impl_WorthOf 26 an_impl_WorthOf (Try.f23.body.getD .skip) (st0 con_impl_WorthOf [.c (.v (.int .i64 times0)), .c (.v (.int .i64 cost1)), .c (.v (.int .i64 size2))]) (fin TT con_impl_WorthOf Try.f23.results.toList [.c .sc] [.c (.v (.int .i64 times0)), .c (.v (.int .i64 cost1)), .c (.v (.int .i64 size2))] kk) = G_impl_WorthOf times0 cost1 size2 (fun r0 => kk (.one (.c (.v (.int .i64 r0)))) []) := by kernel_rfl
theorem e_impl_WorthOf (times0 : Int) (cost1 : Int) (size2 : Int) (kk : AV → List A1 → Prop) :
    ev TT cs_impl_WorthOf 26 an_impl_WorthOf (Try.f23.body.getD .skip) (st0 con_impl_WorthOf [.c (.v (.int .i64 times0)), .c (.v (.int .i64 cost1)), .c (.v (.int .i64 size2))]) (fin TT con_impl_WorthOf Try.f23.results.toList [.c .sc] [.c (.v (.int .i64 times0)), .c (.v (.int .i64 cost1)), .c (.v (.int .i64 size2))] kk) = S_impl_WorthOf times0 cost1 size2 (fun r0 => kk (.one (.c (.v (.int .i64 r0)))) []) := by
  rw [g_impl_WorthOf]
  rfl
theorem clok_impl_WorthOf : ConOK Try.prog cl_impl_WorthOf := consCons h_impl_validCount ⟨Try.f42, Try.func42, by kernel_rfl, ne_of_beq (by kernel_rfl)⟩ (consCons h_impl_validSize ⟨Try.f43, Try.func43, by kernel_rfl, ne_of_beq (by kernel_rfl)⟩ (consNil))
theorem cok_impl_WorthOf : ConsOK Try.prog 26 cs_impl_WorthOf := ⟨clok_impl_WorthOf, inlNil, ovNil⟩
theorem i_impl_WorthOf {vs : List A1} {kk : AV → List A1 → Prop} {motive : List A1 → Prop} (h : con_impl_WorthOf.F vs kk) (H : ∀ (times0 : Int) (cost1 : Int) (size2 : Int), F_impl_WorthOf times0 cost1 size2 (fun r0 => kk (.one (.c (.v (.int .i64 r0)))) []) → motive [.c (.v (.int .i64 times0)), .c (.v (.int .i64 cost1)), .c (.v (.int .i64 size2))]) : motive vs := by
  unfold con_impl_WorthOf at h
  dsimp only at h
  split at h
  · exact H _ _ _ h
  · exact h.elim
theorem h_impl_WorthOf : Holds Try.prog 23 con_impl_WorthOf := by
  refine holds_of_ev (rt := [.c .sc]) (T := TT) (Γ := cs_impl_WorthOf) (an := an_impl_WorthOf) (N := 26) (c := Try.f23.body.getD .skip) Try.func23 (by kernel_rfl) Try.ntmps23 (by decide) (by decide) mixed tabOK cok_impl_WorthOf (by kernel_rfl) ?_
  intro vs kk _ hF
  exact i_impl_WorthOf (motive := fun vs => Goes (ev TT cs_impl_WorthOf 26 an_impl_WorthOf (Try.f23.body.getD .skip) (st0 con_impl_WorthOf vs) (fin TT con_impl_WorthOf Try.f23.results.toList [.c .sc] vs kk))) hF (fun times0 cost1 size2 hF => goes_of (e_impl_WorthOf times0 cost1 size2 kk) (F_impl_WorthOf_S hF))
def con_spec_inRange : Con := ⟨[.rd, .rd, .rd], true, [.c (.sc), .c (.sc), .c (.sc)], fun vs k => match vs with
    | [.c (.v (.int .i64 n0)), .c (.v (.int .i64 low1)), .c (.v (.int .i64 high2))] => F_spec_inRange n0 low1 high2 (fun r0 => k (.one (.c (.v (.bool r0)))) [])
    | _ => False, false⟩
def cl_spec_inRange : List (FuncId × Con) := []
def an_spec_inRange : Ann := ⟨[], [], [], []⟩
def cs_spec_inRange : Cons := ⟨cl_spec_inRange, [], 0, [], [], []⟩
def fin_spec_inRange (n0 : Int) (low1 : Int) (high2 : Int) (kk : AV → List A1 → Prop) : Kt := fin TT con_spec_inRange Try.f40.results.toList [.c .sc] [.c (.v (.int .i64 n0)), .c (.v (.int .i64 low1)), .c (.v (.int .i64 high2))] kk
theorem g_spec_inRange (n0 : Int) (low1 : Int) (high2 : Int) (kk : AV → List A1 → Prop) :
    ev TT cs_spec_inRange 15 an_spec_inRange (Try.f40.body.getD .skip) (st0 con_spec_inRange [.c (.v (.int .i64 n0)), .c (.v (.int .i64 low1)), .c (.v (.int .i64 high2))]) (fin TT con_spec_inRange Try.f40.results.toList [.c .sc] [.c (.v (.int .i64 n0)), .c (.v (.int .i64 low1)), .c (.v (.int .i64 high2))] kk) = G_spec_inRange n0 low1 high2 (fun r0 => kk (.one (.c (.v (.bool r0)))) []) := by kernel_rfl
theorem e_spec_inRange (n0 : Int) (low1 : Int) (high2 : Int) (kk : AV → List A1 → Prop) :
    ev TT cs_spec_inRange 15 an_spec_inRange (Try.f40.body.getD .skip) (st0 con_spec_inRange [.c (.v (.int .i64 n0)), .c (.v (.int .i64 low1)), .c (.v (.int .i64 high2))]) (fin TT con_spec_inRange Try.f40.results.toList [.c .sc] [.c (.v (.int .i64 n0)), .c (.v (.int .i64 low1)), .c (.v (.int .i64 high2))] kk) = S_spec_inRange n0 low1 high2 (fun r0 => kk (.one (.c (.v (.bool r0)))) []) := by
  rw [g_spec_inRange]
  rfl
theorem clok_spec_inRange : ConOK Try.prog cl_spec_inRange := consNil
theorem cok_spec_inRange : ConsOK Try.prog 15 cs_spec_inRange := ⟨clok_spec_inRange, inlNil, ovNil⟩
theorem i_spec_inRange {vs : List A1} {kk : AV → List A1 → Prop} {motive : List A1 → Prop} (h : con_spec_inRange.F vs kk) (H : ∀ (n0 : Int) (low1 : Int) (high2 : Int), F_spec_inRange n0 low1 high2 (fun r0 => kk (.one (.c (.v (.bool r0)))) []) → motive [.c (.v (.int .i64 n0)), .c (.v (.int .i64 low1)), .c (.v (.int .i64 high2))]) : motive vs := by
  unfold con_spec_inRange at h
  dsimp only at h
  split at h
  · exact H _ _ _ h
  · exact h.elim
theorem h_spec_inRange : Holds Try.prog 40 con_spec_inRange := by
  refine holds_of_ev (rt := [.c .sc]) (T := TT) (Γ := cs_spec_inRange) (an := an_spec_inRange) (N := 15) (c := Try.f40.body.getD .skip) Try.func40 (by kernel_rfl) Try.ntmps40 (by decide) (by decide) mixed tabOK cok_spec_inRange (by kernel_rfl) ?_
  intro vs kk _ hF
  exact i_spec_inRange (motive := fun vs => Goes (ev TT cs_spec_inRange 15 an_spec_inRange (Try.f40.body.getD .skip) (st0 con_spec_inRange vs) (fin TT con_spec_inRange Try.f40.results.toList [.c .sc] vs kk))) hF (fun n0 low1 high2 hF => goes_of (e_spec_inRange n0 low1 high2 kk) (F_spec_inRange_S hF))
def con_spec_WorthOf : Con := ⟨[.rd, .rd, .rd], true, [.c (.sc), .c (.sc), .c (.sc)], fun vs k => match vs with
    | [.c (.v (.int .i64 times0)), .c (.v (.int .i64 cost1)), .c (.v (.int .i64 size2))] => F_spec_WorthOf times0 cost1 size2 (fun r0 => k (.one (.c (.v (.int .i64 r0)))) [])
    | _ => False, false⟩
def cl_spec_WorthOf : List (FuncId × Con) := [(40, con_spec_inRange)]
def an_spec_WorthOf : Ann := ⟨[], [], [], []⟩
def cs_spec_WorthOf : Cons := ⟨cl_spec_WorthOf, [], 0, [], [], []⟩
def fin_spec_WorthOf (times0 : Int) (cost1 : Int) (size2 : Int) (kk : AV → List A1 → Prop) : Kt := fin TT con_spec_WorthOf Try.f24.results.toList [.c .sc] [.c (.v (.int .i64 times0)), .c (.v (.int .i64 cost1)), .c (.v (.int .i64 size2))] kk
theorem g_spec_WorthOf (times0 : Int) (cost1 : Int) (size2 : Int) (kk : AV → List A1 → Prop) :
    ev TT cs_spec_WorthOf 26 an_spec_WorthOf (Try.f24.body.getD .skip) (st0 con_spec_WorthOf [.c (.v (.int .i64 times0)), .c (.v (.int .i64 cost1)), .c (.v (.int .i64 size2))]) (fin TT con_spec_WorthOf Try.f24.results.toList [.c .sc] [.c (.v (.int .i64 times0)), .c (.v (.int .i64 cost1)), .c (.v (.int .i64 size2))] kk) = G_spec_WorthOf times0 cost1 size2 (fun r0 => kk (.one (.c (.v (.int .i64 r0)))) []) := by kernel_rfl
theorem e_spec_WorthOf (times0 : Int) (cost1 : Int) (size2 : Int) (kk : AV → List A1 → Prop) :
    ev TT cs_spec_WorthOf 26 an_spec_WorthOf (Try.f24.body.getD .skip) (st0 con_spec_WorthOf [.c (.v (.int .i64 times0)), .c (.v (.int .i64 cost1)), .c (.v (.int .i64 size2))]) (fin TT con_spec_WorthOf Try.f24.results.toList [.c .sc] [.c (.v (.int .i64 times0)), .c (.v (.int .i64 cost1)), .c (.v (.int .i64 size2))] kk) = S_spec_WorthOf times0 cost1 size2 (fun r0 => kk (.one (.c (.v (.int .i64 r0)))) []) := by
  rw [g_spec_WorthOf]
  rfl
theorem clok_spec_WorthOf : ConOK Try.prog cl_spec_WorthOf := consCons h_spec_inRange ⟨Try.f40, Try.func40, by kernel_rfl, ne_of_beq (by kernel_rfl)⟩ (consNil)
theorem cok_spec_WorthOf : ConsOK Try.prog 26 cs_spec_WorthOf := ⟨clok_spec_WorthOf, inlNil, ovNil⟩
theorem i_spec_WorthOf {vs : List A1} {kk : AV → List A1 → Prop} {motive : List A1 → Prop} (h : con_spec_WorthOf.F vs kk) (H : ∀ (times0 : Int) (cost1 : Int) (size2 : Int), F_spec_WorthOf times0 cost1 size2 (fun r0 => kk (.one (.c (.v (.int .i64 r0)))) []) → motive [.c (.v (.int .i64 times0)), .c (.v (.int .i64 cost1)), .c (.v (.int .i64 size2))]) : motive vs := by
  unfold con_spec_WorthOf at h
  dsimp only at h
  split at h
  · exact H _ _ _ h
  · exact h.elim
theorem h_spec_WorthOf : Holds Try.prog 24 con_spec_WorthOf := by
  refine holds_of_ev (rt := [.c .sc]) (T := TT) (Γ := cs_spec_WorthOf) (an := an_spec_WorthOf) (N := 26) (c := Try.f24.body.getD .skip) Try.func24 (by kernel_rfl) Try.ntmps24 (by decide) (by decide) mixed tabOK cok_spec_WorthOf (by kernel_rfl) ?_
  intro vs kk _ hF
  exact i_spec_WorthOf (motive := fun vs => Goes (ev TT cs_spec_WorthOf 26 an_spec_WorthOf (Try.f24.body.getD .skip) (st0 con_spec_WorthOf vs) (fin TT con_spec_WorthOf Try.f24.results.toList [.c .sc] vs kk))) hF (fun times0 cost1 size2 hF => goes_of (e_spec_WorthOf times0 cost1 size2 kk) (F_spec_WorthOf_S hF))
def con_laws_FnWorthOfOne : Con := ⟨[.rd], true, [.c (.sl .u8)], fun vs k => match vs with
    | [.c (.ro .u8 code0)] => F_laws_FnWorthOfOne code0 (fun r0 => k (.one (.c (.v (.bool r0)))) [])
    | _ => False, false⟩
def cl_laws_FnWorthOfOne : List (FuncId × Con) := [(22, con_spec_DrawWorthOf), (23, con_impl_WorthOf), (24, con_spec_WorthOf)]
def an_laws_FnWorthOfOne : Ann := ⟨[], [], [], []⟩
def cs_laws_FnWorthOfOne : Cons := ⟨cl_laws_FnWorthOfOne, [], 0, [], [], []⟩
def fin_laws_FnWorthOfOne (code0 : List Int) (kk : AV → List A1 → Prop) : Kt := fin TT con_laws_FnWorthOfOne Try.f9.results.toList [.c .sc] [.c (.ro .u8 code0)] kk
theorem g_laws_FnWorthOfOne (code0 : List Int) (kk : AV → List A1 → Prop) :
    ev TT cs_laws_FnWorthOfOne 69 an_laws_FnWorthOfOne (Try.f9.body.getD .skip) (st0 con_laws_FnWorthOfOne [.c (.ro .u8 code0)]) (fin TT con_laws_FnWorthOfOne Try.f9.results.toList [.c .sc] [.c (.ro .u8 code0)] kk) = G_laws_FnWorthOfOne code0 (fun r0 => kk (.one (.c (.v (.bool r0)))) []) := by kernel_rfl
theorem e_laws_FnWorthOfOne (code0 : List Int) (kk : AV → List A1 → Prop) :
    ev TT cs_laws_FnWorthOfOne 69 an_laws_FnWorthOfOne (Try.f9.body.getD .skip) (st0 con_laws_FnWorthOfOne [.c (.ro .u8 code0)]) (fin TT con_laws_FnWorthOfOne Try.f9.results.toList [.c .sc] [.c (.ro .u8 code0)] kk) = S_laws_FnWorthOfOne code0 (fun r0 => kk (.one (.c (.v (.bool r0)))) []) := by
  rw [g_laws_FnWorthOfOne]
  rfl
theorem clok_laws_FnWorthOfOne : ConOK Try.prog cl_laws_FnWorthOfOne := consCons h_spec_DrawWorthOf ⟨Try.f22, Try.func22, by kernel_rfl, ne_of_beq (by kernel_rfl)⟩ (consCons h_impl_WorthOf ⟨Try.f23, Try.func23, by kernel_rfl, ne_of_beq (by kernel_rfl)⟩ (consCons h_spec_WorthOf ⟨Try.f24, Try.func24, by kernel_rfl, ne_of_beq (by kernel_rfl)⟩ (consNil)))
theorem cok_laws_FnWorthOfOne : ConsOK Try.prog 69 cs_laws_FnWorthOfOne := ⟨clok_laws_FnWorthOfOne, inlNil, ovNil⟩
theorem i_laws_FnWorthOfOne {vs : List A1} {kk : AV → List A1 → Prop} {motive : List A1 → Prop} (h : con_laws_FnWorthOfOne.F vs kk) (H : ∀ (code0 : List Int), F_laws_FnWorthOfOne code0 (fun r0 => kk (.one (.c (.v (.bool r0)))) []) → motive [.c (.ro .u8 code0)]) : motive vs := by
  unfold con_laws_FnWorthOfOne at h
  dsimp only at h
  split at h
  · exact H _ h
  · exact h.elim
theorem h_laws_FnWorthOfOne : Holds Try.prog 9 con_laws_FnWorthOfOne := by
  refine holds_of_ev (rt := [.c .sc]) (T := TT) (Γ := cs_laws_FnWorthOfOne) (an := an_laws_FnWorthOfOne) (N := 69) (c := Try.f9.body.getD .skip) Try.func9 (by kernel_rfl) Try.ntmps9 (by decide) (by decide) mixed tabOK cok_laws_FnWorthOfOne (by kernel_rfl) ?_
  intro vs kk _ hF
  exact i_laws_FnWorthOfOne (motive := fun vs => Goes (ev TT cs_laws_FnWorthOfOne 69 an_laws_FnWorthOfOne (Try.f9.body.getD .skip) (st0 con_laws_FnWorthOfOne vs) (fin TT con_laws_FnWorthOfOne Try.f9.results.toList [.c .sc] vs kk))) hF (fun code0 hF => goes_of (e_laws_FnWorthOfOne code0 kk) (F_laws_FnWorthOfOne_S hF))
end Go.Ev
