/- What the evaluator gives for these functions: their contracts. No statement is proved here. -/
import Derived.Test.YtacohagnclnkdabFnRatioOfMissP0
import Derived.Test.YtacohagnclnkdabTt
namespace Go.Ev
set_option linter.unusedVariables false
set_option linter.unusedSimpArgs false
set_option maxRecDepth 100000
open Go Go.Proofs
def con_spec_newReader : Con := ⟨[.rd], true, [.c (.sl .u8)], fun vs k => match vs with
    | [.c (.ro .u8 code0)] => F_spec_newReader code0 (fun r0 r1 => k (.one (.agg [.ro .u8 r0, .v (.int .i64 r1)])) [])
    | _ => False, true⟩
def cl_spec_newReader : List (FuncId × Con) := []
def an_spec_newReader : Ann := ⟨[], [], [], []⟩
def cs_spec_newReader : Cons := ⟨cl_spec_newReader, [], 0, [], [], []⟩
def fin_spec_newReader (code0 : List Int) (kk : AV → List A1 → Prop) : Kt := finB Try.f37.results.toList [.sl .u8, .sc] kk
theorem g_spec_newReader (code0 : List Int) (kk : AV → List A1 → Prop) :
    ev TT cs_spec_newReader 11 an_spec_newReader (Try.f37.body.getD .skip) (st0 con_spec_newReader [.c (.ro .u8 code0)]) (finB Try.f37.results.toList [.sl .u8, .sc] kk) = G_spec_newReader code0 (fun r0 r1 => kk (.one (.agg [.ro .u8 r0, .v (.int .i64 r1)])) []) := by kernel_rfl
theorem e_spec_newReader (code0 : List Int) (kk : AV → List A1 → Prop) :
    ev TT cs_spec_newReader 11 an_spec_newReader (Try.f37.body.getD .skip) (st0 con_spec_newReader [.c (.ro .u8 code0)]) (finB Try.f37.results.toList [.sl .u8, .sc] kk) = S_spec_newReader code0 (fun r0 r1 => kk (.one (.agg [.ro .u8 r0, .v (.int .i64 r1)])) []) := by
  rw [g_spec_newReader]
  rfl
theorem clok_spec_newReader : ConOK Try.prog cl_spec_newReader := consNil
theorem cok_spec_newReader : ConsOK Try.prog 11 cs_spec_newReader := ⟨clok_spec_newReader, inlNil, ovNil⟩
theorem i_spec_newReader {vs : List A1} {kk : AV → List A1 → Prop} {motive : List A1 → Prop} (h : con_spec_newReader.F vs kk) (H : ∀ (code0 : List Int), F_spec_newReader code0 (fun r0 r1 => kk (.one (.agg [.ro .u8 r0, .v (.int .i64 r1)])) []) → motive [.c (.ro .u8 code0)]) : motive vs := by
  unfold con_spec_newReader at h
  dsimp only at h
  split at h
  · exact H _ h
  · exact h.elim
theorem h_spec_newReader : HoldsB Try.prog 37 con_spec_newReader := by
  refine holdsB_of_ev (ts := [.sl .u8, .sc]) (T := TT) (Γ := cs_spec_newReader) (an := an_spec_newReader) (N := 11) (c := Try.f37.body.getD .skip) Try.func37 (by kernel_rfl) Try.ntmps37 (by decide) (by decide) mixed tabOK cok_spec_newReader (by kernel_rfl) ?_
  intro vs kk _ hF
  exact i_spec_newReader (motive := fun vs => Goes (ev TT cs_spec_newReader 11 an_spec_newReader (Try.f37.body.getD .skip) (st0 con_spec_newReader vs) (finB Try.f37.results.toList [.sl .u8, .sc] kk))) hF (fun code0 hF => goes_of (e_spec_newReader code0 kk) (F_spec_newReader_S hF))
def con_spec_reader_pick : Con := ⟨[.mu, .rd], true, [.ptr [.sl .u8, .sc], .c (.sc)], fun vs k => match vs with
    | [.ptr [.ro .u8 r0b, .v (.int .i64 r0p)], .c (.v (.int .i64 n1))] => F_spec_reader_pick r0b r0p n1 (fun r0 r1 r2 => k (.one (.c (.v (.int .i64 r0)))) [.ptr [.ro .u8 r1, .v (.int .i64 r2)]])
    | _ => False, false⟩
def cl_spec_reader_pick : List (FuncId × Con) := []
def an_spec_reader_pick : Ann := ⟨[(7, .take 0 (.take 1 (.take 2 (.take 3 (.take 4 (.take 5 (.take 6 (.take 7 (.take 8 (.take 9 (.take 10 (.take 11 (.take 12 (.take 13 (.take 14 (.take 15 (.take 16 (.take 17 (.take 18 (.take 19 (.take 20 (.take 21 (.take 22 (.take 23 (.take 24 (.take 25 (.take 26 (.take 27 (.take 28 (.take 29 (.take 30 (.take 31 (.take 32 (.take 33 (.take 34 (.take 35 (.take 36 (.take 37 (.take 38 (.take 39 (.take 40 (.take 41 (.take 42 (.take 43 (.take 44 (.take 45 (.done)))))))))))))))))))))))))))))))))))))))))))))), [100000])], [], [], []⟩
def cs_spec_reader_pick : Cons := ⟨cl_spec_reader_pick, [], 0, [], [], []⟩
def fin_spec_reader_pick (r0b : List Int) (r0p : Int) (n1 : Int) (kk : AV → List A1 → Prop) : Kt := fin TT con_spec_reader_pick Try.f40.results.toList [.c .sc] [.ptr [.ro .u8 r0b, .v (.int .i64 r0p)], .c (.v (.int .i64 n1))] kk
theorem g_spec_reader_pick (r0b : List Int) (r0p : Int) (n1 : Int) (kk : AV → List A1 → Prop) :
    ev TT cs_spec_reader_pick 99 an_spec_reader_pick (Try.f40.body.getD .skip) (st0 con_spec_reader_pick [.ptr [.ro .u8 r0b, .v (.int .i64 r0p)], .c (.v (.int .i64 n1))]) (fin TT con_spec_reader_pick Try.f40.results.toList [.c .sc] [.ptr [.ro .u8 r0b, .v (.int .i64 r0p)], .c (.v (.int .i64 n1))] kk) = G_spec_reader_pick r0b r0p n1 (fun r0 r1 r2 => kk (.one (.c (.v (.int .i64 r0)))) [.ptr [.ro .u8 r1, .v (.int .i64 r2)]]) := by kernel_rfl
theorem e_spec_reader_pick (r0b : List Int) (r0p : Int) (n1 : Int) (kk : AV → List A1 → Prop) :
    ev TT cs_spec_reader_pick 99 an_spec_reader_pick (Try.f40.body.getD .skip) (st0 con_spec_reader_pick [.ptr [.ro .u8 r0b, .v (.int .i64 r0p)], .c (.v (.int .i64 n1))]) (fin TT con_spec_reader_pick Try.f40.results.toList [.c .sc] [.ptr [.ro .u8 r0b, .v (.int .i64 r0p)], .c (.v (.int .i64 n1))] kk) = S_spec_reader_pick r0b r0p n1 (fun r0 r1 r2 => kk (.one (.c (.v (.int .i64 r0)))) [.ptr [.ro .u8 r1, .v (.int .i64 r2)]]) := by
  rw [g_spec_reader_pick]
  rfl
theorem clok_spec_reader_pick : ConOK Try.prog cl_spec_reader_pick := consNil
theorem cok_spec_reader_pick : ConsOK Try.prog 99 cs_spec_reader_pick := ⟨clok_spec_reader_pick, inlNil, ovNil⟩
theorem i_spec_reader_pick {vs : List A1} {kk : AV → List A1 → Prop} {motive : List A1 → Prop} (h : con_spec_reader_pick.F vs kk) (H : ∀ (r0b : List Int) (r0p : Int) (n1 : Int), F_spec_reader_pick r0b r0p n1 (fun r0 r1 r2 => kk (.one (.c (.v (.int .i64 r0)))) [.ptr [.ro .u8 r1, .v (.int .i64 r2)]]) → motive [.ptr [.ro .u8 r0b, .v (.int .i64 r0p)], .c (.v (.int .i64 n1))]) : motive vs := by
  unfold con_spec_reader_pick at h
  dsimp only at h
  split at h
  · exact H _ _ _ h
  · exact h.elim
theorem h_spec_reader_pick : Holds Try.prog 40 con_spec_reader_pick := by
  refine holds_of_ev (rt := [.c .sc]) (T := TT) (Γ := cs_spec_reader_pick) (an := an_spec_reader_pick) (N := 99) (c := Try.f40.body.getD .skip) Try.func40 (by kernel_rfl) Try.ntmps40 (by decide) (by decide) mixed tabOK cok_spec_reader_pick (by kernel_rfl) ?_
  intro vs kk _ hF
  exact i_spec_reader_pick (motive := fun vs => Goes (ev TT cs_spec_reader_pick 99 an_spec_reader_pick (Try.f40.body.getD .skip) (st0 con_spec_reader_pick vs) (fin TT con_spec_reader_pick Try.f40.results.toList [.c .sc] vs kk))) hF (fun r0b r0p n1 hF => goes_of (e_spec_reader_pick r0b r0p n1 kk) (F_spec_reader_pick_S hF))
def con_spec_reader_one : Con := ⟨[.mu, .rd], true, [.ptr [.sl .u8, .sc], .c (.sl .int)], fun vs k => match vs with
    | [.ptr [.ro .u8 r0b, .v (.int .i64 r0p)], .c (.ro .int list1)] => F_spec_reader_one r0b r0p list1 (fun r0 r1 r2 => k (.one (.c (.v (.int .i64 r0)))) [.ptr [.ro .u8 r1, .v (.int .i64 r2)]])
    | _ => False, false⟩
def cl_spec_reader_one : List (FuncId × Con) := [(40, con_spec_reader_pick)]
def an_spec_reader_one : Ann := ⟨[], [], [], []⟩
def cs_spec_reader_one : Cons := ⟨cl_spec_reader_one, [], 0, [], [], []⟩
def fin_spec_reader_one (r0b : List Int) (r0p : Int) (list1 : List Int) (kk : AV → List A1 → Prop) : Kt := fin TT con_spec_reader_one Try.f38.results.toList [.c .sc] [.ptr [.ro .u8 r0b, .v (.int .i64 r0p)], .c (.ro .int list1)] kk
theorem g_spec_reader_one (r0b : List Int) (r0p : Int) (list1 : List Int) (kk : AV → List A1 → Prop) :
    ev TT cs_spec_reader_one 12 an_spec_reader_one (Try.f38.body.getD .skip) (st0 con_spec_reader_one [.ptr [.ro .u8 r0b, .v (.int .i64 r0p)], .c (.ro .int list1)]) (fin TT con_spec_reader_one Try.f38.results.toList [.c .sc] [.ptr [.ro .u8 r0b, .v (.int .i64 r0p)], .c (.ro .int list1)] kk) = G_spec_reader_one r0b r0p list1 (fun r0 r1 r2 => kk (.one (.c (.v (.int .i64 r0)))) [.ptr [.ro .u8 r1, .v (.int .i64 r2)]]) := by kernel_rfl
theorem e_spec_reader_one (r0b : List Int) (r0p : Int) (list1 : List Int) (kk : AV → List A1 → Prop) :
    ev TT cs_spec_reader_one 12 an_spec_reader_one (Try.f38.body.getD .skip) (st0 con_spec_reader_one [.ptr [.ro .u8 r0b, .v (.int .i64 r0p)], .c (.ro .int list1)]) (fin TT con_spec_reader_one Try.f38.results.toList [.c .sc] [.ptr [.ro .u8 r0b, .v (.int .i64 r0p)], .c (.ro .int list1)] kk) = S_spec_reader_one r0b r0p list1 (fun r0 r1 r2 => kk (.one (.c (.v (.int .i64 r0)))) [.ptr [.ro .u8 r1, .v (.int .i64 r2)]]) := by
  rw [g_spec_reader_one]
  rfl
theorem clok_spec_reader_one : ConOK Try.prog cl_spec_reader_one := consCons h_spec_reader_pick ⟨Try.f40, Try.func40, by kernel_rfl, ne_of_beq (by kernel_rfl)⟩ (consNil)
theorem cok_spec_reader_one : ConsOK Try.prog 12 cs_spec_reader_one := ⟨clok_spec_reader_one, inlNil, ovNil⟩
theorem i_spec_reader_one {vs : List A1} {kk : AV → List A1 → Prop} {motive : List A1 → Prop} (h : con_spec_reader_one.F vs kk) (H : ∀ (r0b : List Int) (r0p : Int) (list1 : List Int), F_spec_reader_one r0b r0p list1 (fun r0 r1 r2 => kk (.one (.c (.v (.int .i64 r0)))) [.ptr [.ro .u8 r1, .v (.int .i64 r2)]]) → motive [.ptr [.ro .u8 r0b, .v (.int .i64 r0p)], .c (.ro .int list1)]) : motive vs := by
  unfold con_spec_reader_one at h
  dsimp only at h
  split at h
  · exact H _ _ _ h
  · exact h.elim
theorem h_spec_reader_one : Holds Try.prog 38 con_spec_reader_one := by
  refine holds_of_ev (rt := [.c .sc]) (T := TT) (Γ := cs_spec_reader_one) (an := an_spec_reader_one) (N := 12) (c := Try.f38.body.getD .skip) Try.func38 (by kernel_rfl) Try.ntmps38 (by decide) (by decide) mixed tabOK cok_spec_reader_one (by kernel_rfl) ?_
  intro vs kk _ hF
  exact i_spec_reader_one (motive := fun vs => Goes (ev TT cs_spec_reader_one 12 an_spec_reader_one (Try.f38.body.getD .skip) (st0 con_spec_reader_one vs) (fin TT con_spec_reader_one Try.f38.results.toList [.c .sc] vs kk))) hF (fun r0b r0p list1 hF => goes_of (e_spec_reader_one r0b r0p list1 kk) (F_spec_reader_one_S hF))
def con_spec_DrawRatioOf : Con := ⟨[.rd], true, [.c (.sl .u8)], fun vs k => match vs with
    | [.c (.ro .u8 code0)] => F_spec_DrawRatioOf code0 (fun r0 r1 => k (.tup [.c (.v (.int .i64 r0)), .c (.v (.int .i64 r1))]) [])
    | _ => False, false⟩
def cl_spec_DrawRatioOf : List (FuncId × Con) := [(37, con_spec_newReader), (38, con_spec_reader_one)]
def an_spec_DrawRatioOf : Ann := ⟨[], [], [], []⟩
def cs_spec_DrawRatioOf : Cons := ⟨cl_spec_DrawRatioOf, [], 0, [], [], []⟩
def fin_spec_DrawRatioOf (code0 : List Int) (kk : AV → List A1 → Prop) : Kt := fin TT con_spec_DrawRatioOf Try.f13.results.toList [.c .sc, .c .sc] [.c (.ro .u8 code0)] kk
theorem g_spec_DrawRatioOf (code0 : List Int) (kk : AV → List A1 → Prop) :
    ev TT cs_spec_DrawRatioOf 22 an_spec_DrawRatioOf (Try.f13.body.getD .skip) (st0 con_spec_DrawRatioOf [.c (.ro .u8 code0)]) (fin TT con_spec_DrawRatioOf Try.f13.results.toList [.c .sc, .c .sc] [.c (.ro .u8 code0)] kk) = G_spec_DrawRatioOf code0 (fun r0 r1 => kk (.tup [.c (.v (.int .i64 r0)), .c (.v (.int .i64 r1))]) []) := by kernel_rfl
theorem e_spec_DrawRatioOf (code0 : List Int) (kk : AV → List A1 → Prop) :
    ev TT cs_spec_DrawRatioOf 22 an_spec_DrawRatioOf (Try.f13.body.getD .skip) (st0 con_spec_DrawRatioOf [.c (.ro .u8 code0)]) (fin TT con_spec_DrawRatioOf Try.f13.results.toList [.c .sc, .c .sc] [.c (.ro .u8 code0)] kk) = S_spec_DrawRatioOf code0 (fun r0 r1 => kk (.tup [.c (.v (.int .i64 r0)), .c (.v (.int .i64 r1))]) []) := by
  rw [g_spec_DrawRatioOf]
  rfl
theorem clok_spec_DrawRatioOf : ConOK Try.prog cl_spec_DrawRatioOf := consCons h_spec_newReader ⟨Try.f37, Try.func37, by kernel_rfl, ne_of_beq (by kernel_rfl)⟩ (consCons h_spec_reader_one ⟨Try.f38, Try.func38, by kernel_rfl, ne_of_beq (by kernel_rfl)⟩ (consNil))
theorem cok_spec_DrawRatioOf : ConsOK Try.prog 22 cs_spec_DrawRatioOf := ⟨clok_spec_DrawRatioOf, inlNil, ovNil⟩
theorem i_spec_DrawRatioOf {vs : List A1} {kk : AV → List A1 → Prop} {motive : List A1 → Prop} (h : con_spec_DrawRatioOf.F vs kk) (H : ∀ (code0 : List Int), F_spec_DrawRatioOf code0 (fun r0 r1 => kk (.tup [.c (.v (.int .i64 r0)), .c (.v (.int .i64 r1))]) []) → motive [.c (.ro .u8 code0)]) : motive vs := by
  unfold con_spec_DrawRatioOf at h
  dsimp only at h
  split at h
  · exact H _ h
  · exact h.elim
theorem h_spec_DrawRatioOf : Holds Try.prog 13 con_spec_DrawRatioOf := by
  refine holds_of_ev (rt := [.c .sc, .c .sc]) (T := TT) (Γ := cs_spec_DrawRatioOf) (an := an_spec_DrawRatioOf) (N := 22) (c := Try.f13.body.getD .skip) Try.func13 (by kernel_rfl) Try.ntmps13 (by decide) (by decide) mixed tabOK cok_spec_DrawRatioOf (by kernel_rfl) ?_
  intro vs kk _ hF
  exact i_spec_DrawRatioOf (motive := fun vs => Goes (ev TT cs_spec_DrawRatioOf 22 an_spec_DrawRatioOf (Try.f13.body.getD .skip) (st0 con_spec_DrawRatioOf vs) (fin TT con_spec_DrawRatioOf Try.f13.results.toList [.c .sc, .c .sc] vs kk))) hF (fun code0 hF => goes_of (e_spec_DrawRatioOf code0 kk) (F_spec_DrawRatioOf_S hF))
def con_impl_RatioOf : Con := ⟨[.rd, .rd], true, [.c (.sc), .c (.sc)], fun vs k => match vs with
    | [.c (.v (.int .i64 hits0)), .c (.v (.int .i64 uses1))] => F_impl_RatioOf hits0 uses1 (fun r0 => k (.one (.c (.v (.int .i64 r0)))) [])
    | _ => False, false⟩
def cl_impl_RatioOf : List (FuncId × Con) := []
def an_impl_RatioOf : Ann := ⟨[], [], [], []⟩
def cs_impl_RatioOf : Cons := ⟨cl_impl_RatioOf, [], 0, [], [], []⟩
def fin_impl_RatioOf (hits0 : Int) (uses1 : Int) (kk : AV → List A1 → Prop) : Kt := fin TT con_impl_RatioOf Try.f14.results.toList [.c .sc] [.c (.v (.int .i64 hits0)), .c (.v (.int .i64 uses1))] kk
theorem g_impl_RatioOf (hits0 : Int) (uses1 : Int) (kk : AV → List A1 → Prop) :
    ev TT cs_impl_RatioOf 24 an_impl_RatioOf (Try.f14.body.getD .skip) (st0 con_impl_RatioOf [.c (.v (.int .i64 hits0)), .c (.v (.int .i64 uses1))]) (fin TT con_impl_RatioOf Try.f14.results.toList [.c .sc] [.c (.v (.int .i64 hits0)), .c (.v (.int .i64 uses1))] kk) = G_impl_RatioOf hits0 uses1 (fun r0 => kk (.one (.c (.v (.int .i64 r0)))) []) := by kernel_rfl
theorem e_impl_RatioOf (hits0 : Int) (uses1 : Int) (kk : AV → List A1 → Prop) :
    ev TT cs_impl_RatioOf 24 an_impl_RatioOf (Try.f14.body.getD .skip) (st0 con_impl_RatioOf [.c (.v (.int .i64 hits0)), .c (.v (.int .i64 uses1))]) (fin TT con_impl_RatioOf Try.f14.results.toList [.c .sc] [.c (.v (.int .i64 hits0)), .c (.v (.int .i64 uses1))] kk) = S_impl_RatioOf hits0 uses1 (fun r0 => kk (.one (.c (.v (.int .i64 r0)))) []) := by
  rw [g_impl_RatioOf]
  rfl
theorem clok_impl_RatioOf : ConOK Try.prog cl_impl_RatioOf := consNil
theorem cok_impl_RatioOf : ConsOK Try.prog 24 cs_impl_RatioOf := ⟨clok_impl_RatioOf, inlNil, ovNil⟩
theorem i_impl_RatioOf {vs : List A1} {kk : AV → List A1 → Prop} {motive : List A1 → Prop} (h : con_impl_RatioOf.F vs kk) (H : ∀ (hits0 : Int) (uses1 : Int), F_impl_RatioOf hits0 uses1 (fun r0 => kk (.one (.c (.v (.int .i64 r0)))) []) → motive [.c (.v (.int .i64 hits0)), .c (.v (.int .i64 uses1))]) : motive vs := by
  unfold con_impl_RatioOf at h
  dsimp only at h
  split at h
  · exact H _ _ h
  · exact h.elim
theorem h_impl_RatioOf : Holds Try.prog 14 con_impl_RatioOf := by
  refine holds_of_ev (rt := [.c .sc]) (T := TT) (Γ := cs_impl_RatioOf) (an := an_impl_RatioOf) (N := 24) (c := Try.f14.body.getD .skip) Try.func14 (by kernel_rfl) Try.ntmps14 (by decide) (by decide) mixed tabOK cok_impl_RatioOf (by kernel_rfl) ?_
  intro vs kk _ hF
  exact i_impl_RatioOf (motive := fun vs => Goes (ev TT cs_impl_RatioOf 24 an_impl_RatioOf (Try.f14.body.getD .skip) (st0 con_impl_RatioOf vs) (fin TT con_impl_RatioOf Try.f14.results.toList [.c .sc] vs kk))) hF (fun hits0 uses1 hF => goes_of (e_impl_RatioOf hits0 uses1 kk) (F_impl_RatioOf_S hF))
def con_spec_inRange : Con := ⟨[.rd, .rd, .rd], true, [.c (.sc), .c (.sc), .c (.sc)], fun vs k => match vs with
    | [.c (.v (.int .i64 n0)), .c (.v (.int .i64 low1)), .c (.v (.int .i64 high2))] => F_spec_inRange n0 low1 high2 (fun r0 => k (.one (.c (.v (.bool r0)))) [])
    | _ => False, false⟩
def cl_spec_inRange : List (FuncId × Con) := []
def an_spec_inRange : Ann := ⟨[], [], [], []⟩
def cs_spec_inRange : Cons := ⟨cl_spec_inRange, [], 0, [], [], []⟩
def fin_spec_inRange (n0 : Int) (low1 : Int) (high2 : Int) (kk : AV → List A1 → Prop) : Kt := fin TT con_spec_inRange Try.f39.results.toList [.c .sc] [.c (.v (.int .i64 n0)), .c (.v (.int .i64 low1)), .c (.v (.int .i64 high2))] kk
theorem g_spec_inRange (n0 : Int) (low1 : Int) (high2 : Int) (kk : AV → List A1 → Prop) :
    ev TT cs_spec_inRange 15 an_spec_inRange (Try.f39.body.getD .skip) (st0 con_spec_inRange [.c (.v (.int .i64 n0)), .c (.v (.int .i64 low1)), .c (.v (.int .i64 high2))]) (fin TT con_spec_inRange Try.f39.results.toList [.c .sc] [.c (.v (.int .i64 n0)), .c (.v (.int .i64 low1)), .c (.v (.int .i64 high2))] kk) = G_spec_inRange n0 low1 high2 (fun r0 => kk (.one (.c (.v (.bool r0)))) []) := by kernel_rfl
theorem e_spec_inRange (n0 : Int) (low1 : Int) (high2 : Int) (kk : AV → List A1 → Prop) :
    ev TT cs_spec_inRange 15 an_spec_inRange (Try.f39.body.getD .skip) (st0 con_spec_inRange [.c (.v (.int .i64 n0)), .c (.v (.int .i64 low1)), .c (.v (.int .i64 high2))]) (fin TT con_spec_inRange Try.f39.results.toList [.c .sc] [.c (.v (.int .i64 n0)), .c (.v (.int .i64 low1)), .c (.v (.int .i64 high2))] kk) = S_spec_inRange n0 low1 high2 (fun r0 => kk (.one (.c (.v (.bool r0)))) []) := by
  rw [g_spec_inRange]
  rfl
theorem clok_spec_inRange : ConOK Try.prog cl_spec_inRange := consNil
theorem cok_spec_inRange : ConsOK Try.prog 15 cs_spec_inRange := ⟨clok_spec_inRange, inlNil, ovNil⟩
theorem i_spec_inRange {vs : List A1} {kk : AV → List A1 → Prop} {motive : List A1 → Prop} (h : con_spec_inRange.F vs kk) (H : ∀ (n0 : Int) (low1 : Int) (high2 : Int), F_spec_inRange n0 low1 high2 (fun r0 => kk (.one (.c (.v (.bool r0)))) []) → motive [.c (.v (.int .i64 n0)), .c (.v (.int .i64 low1)), .c (.v (.int .i64 high2))]) : motive vs := by
  unfold con_spec_inRange at h
  dsimp only at h
  split at h
  · exact H _ _ _ h
  · exact h.elim
theorem h_spec_inRange : Holds Try.prog 39 con_spec_inRange := by
  refine holds_of_ev (rt := [.c .sc]) (T := TT) (Γ := cs_spec_inRange) (an := an_spec_inRange) (N := 15) (c := Try.f39.body.getD .skip) Try.func39 (by kernel_rfl) Try.ntmps39 (by decide) (by decide) mixed tabOK cok_spec_inRange (by kernel_rfl) ?_
  intro vs kk _ hF
  exact i_spec_inRange (motive := fun vs => Goes (ev TT cs_spec_inRange 15 an_spec_inRange (Try.f39.body.getD .skip) (st0 con_spec_inRange vs) (fin TT con_spec_inRange Try.f39.results.toList [.c .sc] vs kk))) hF (fun n0 low1 high2 hF => goes_of (e_spec_inRange n0 low1 high2 kk) (F_spec_inRange_S hF))
def con_spec_RatioOf : Con := ⟨[.rd, .rd], true, [.c (.sc), .c (.sc)], fun vs k => match vs with
    | [.c (.v (.int .i64 hits0)), .c (.v (.int .i64 uses1))] => F_spec_RatioOf hits0 uses1 (fun r0 => k (.one (.c (.v (.int .i64 r0)))) [])
    | _ => False, false⟩
def cl_spec_RatioOf : List (FuncId × Con) := [(39, con_spec_inRange)]
def an_spec_RatioOf : Ann := ⟨[], [], [], []⟩
def cs_spec_RatioOf : Cons := ⟨cl_spec_RatioOf, [], 0, [], [], []⟩
def fin_spec_RatioOf (hits0 : Int) (uses1 : Int) (kk : AV → List A1 → Prop) : Kt := fin TT con_spec_RatioOf Try.f15.results.toList [.c .sc] [.c (.v (.int .i64 hits0)), .c (.v (.int .i64 uses1))] kk
theorem g_spec_RatioOf (hits0 : Int) (uses1 : Int) (kk : AV → List A1 → Prop) :
    ev TT cs_spec_RatioOf 18 an_spec_RatioOf (Try.f15.body.getD .skip) (st0 con_spec_RatioOf [.c (.v (.int .i64 hits0)), .c (.v (.int .i64 uses1))]) (fin TT con_spec_RatioOf Try.f15.results.toList [.c .sc] [.c (.v (.int .i64 hits0)), .c (.v (.int .i64 uses1))] kk) = G_spec_RatioOf hits0 uses1 (fun r0 => kk (.one (.c (.v (.int .i64 r0)))) []) := by kernel_rfl
theorem e_spec_RatioOf (hits0 : Int) (uses1 : Int) (kk : AV → List A1 → Prop) :
    ev TT cs_spec_RatioOf 18 an_spec_RatioOf (Try.f15.body.getD .skip) (st0 con_spec_RatioOf [.c (.v (.int .i64 hits0)), .c (.v (.int .i64 uses1))]) (fin TT con_spec_RatioOf Try.f15.results.toList [.c .sc] [.c (.v (.int .i64 hits0)), .c (.v (.int .i64 uses1))] kk) = S_spec_RatioOf hits0 uses1 (fun r0 => kk (.one (.c (.v (.int .i64 r0)))) []) := by
  rw [g_spec_RatioOf]
  rfl
theorem clok_spec_RatioOf : ConOK Try.prog cl_spec_RatioOf := consCons h_spec_inRange ⟨Try.f39, Try.func39, by kernel_rfl, ne_of_beq (by kernel_rfl)⟩ (consNil)
theorem cok_spec_RatioOf : ConsOK Try.prog 18 cs_spec_RatioOf := ⟨clok_spec_RatioOf, inlNil, ovNil⟩
theorem i_spec_RatioOf {vs : List A1} {kk : AV → List A1 → Prop} {motive : List A1 → Prop} (h : con_spec_RatioOf.F vs kk) (H : ∀ (hits0 : Int) (uses1 : Int), F_spec_RatioOf hits0 uses1 (fun r0 => kk (.one (.c (.v (.int .i64 r0)))) []) → motive [.c (.v (.int .i64 hits0)), .c (.v (.int .i64 uses1))]) : motive vs := by
  unfold con_spec_RatioOf at h
  dsimp only at h
  split at h
  · exact H _ _ h
  · exact h.elim
theorem h_spec_RatioOf : Holds Try.prog 15 con_spec_RatioOf := by
  refine holds_of_ev (rt := [.c .sc]) (T := TT) (Γ := cs_spec_RatioOf) (an := an_spec_RatioOf) (N := 18) (c := Try.f15.body.getD .skip) Try.func15 (by kernel_rfl) Try.ntmps15 (by decide) (by decide) mixed tabOK cok_spec_RatioOf (by kernel_rfl) ?_
  intro vs kk _ hF
  exact i_spec_RatioOf (motive := fun vs => Goes (ev TT cs_spec_RatioOf 18 an_spec_RatioOf (Try.f15.body.getD .skip) (st0 con_spec_RatioOf vs) (fin TT con_spec_RatioOf Try.f15.results.toList [.c .sc] vs kk))) hF (fun hits0 uses1 hF => goes_of (e_spec_RatioOf hits0 uses1 kk) (F_spec_RatioOf_S hF))
def con_laws_FnRatioOfMiss : Con := ⟨[.rd], true, [.c (.sl .u8)], fun vs k => match vs with
    | [.c (.ro .u8 code0)] => F_laws_FnRatioOfMiss code0 (fun r0 => k (.one (.c (.v (.bool r0)))) [])
    | _ => False, false⟩
def cl_laws_FnRatioOfMiss : List (FuncId × Con) := [(13, con_spec_DrawRatioOf), (14, con_impl_RatioOf), (15, con_spec_RatioOf)]
def an_laws_FnRatioOfMiss : Ann := ⟨[], [], [], []⟩
def cs_laws_FnRatioOfMiss : Cons := ⟨cl_laws_FnRatioOfMiss, [], 0, [], [], []⟩
def fin_laws_FnRatioOfMiss (code0 : List Int) (kk : AV → List A1 → Prop) : Kt := fin TT con_laws_FnRatioOfMiss Try.f4.results.toList [.c .sc] [.c (.ro .u8 code0)] kk
theorem g_laws_FnRatioOfMiss (code0 : List Int) (kk : AV → List A1 → Prop) :
    ev TT cs_laws_FnRatioOfMiss 45 an_laws_FnRatioOfMiss (Try.f4.body.getD .skip) (st0 con_laws_FnRatioOfMiss [.c (.ro .u8 code0)]) (fin TT con_laws_FnRatioOfMiss Try.f4.results.toList [.c .sc] [.c (.ro .u8 code0)] kk) = G_laws_FnRatioOfMiss code0 (fun r0 => kk (.one (.c (.v (.bool r0)))) []) := by kernel_rfl
theorem e_laws_FnRatioOfMiss (code0 : List Int) (kk : AV → List A1 → Prop) :
    ev TT cs_laws_FnRatioOfMiss 45 an_laws_FnRatioOfMiss (Try.f4.body.getD .skip) (st0 con_laws_FnRatioOfMiss [.c (.ro .u8 code0)]) (fin TT con_laws_FnRatioOfMiss Try.f4.results.toList [.c .sc] [.c (.ro .u8 code0)] kk) = S_laws_FnRatioOfMiss code0 (fun r0 => kk (.one (.c (.v (.bool r0)))) []) := by
  rw [g_laws_FnRatioOfMiss]
  rfl
theorem clok_laws_FnRatioOfMiss : ConOK Try.prog cl_laws_FnRatioOfMiss := consCons h_spec_DrawRatioOf ⟨Try.f13, Try.func13, by kernel_rfl, ne_of_beq (by kernel_rfl)⟩ (consCons h_impl_RatioOf ⟨Try.f14, Try.func14, by kernel_rfl, ne_of_beq (by kernel_rfl)⟩ (consCons h_spec_RatioOf ⟨Try.f15, Try.func15, by kernel_rfl, ne_of_beq (by kernel_rfl)⟩ (consNil)))
theorem cok_laws_FnRatioOfMiss : ConsOK Try.prog 45 cs_laws_FnRatioOfMiss := ⟨clok_laws_FnRatioOfMiss, inlNil, ovNil⟩
theorem i_laws_FnRatioOfMiss {vs : List A1} {kk : AV → List A1 → Prop} {motive : List A1 → Prop} (h : con_laws_FnRatioOfMiss.F vs kk) (H : ∀ (code0 : List Int), F_laws_FnRatioOfMiss code0 (fun r0 => kk (.one (.c (.v (.bool r0)))) []) → motive [.c (.ro .u8 code0)]) : motive vs := by
  unfold con_laws_FnRatioOfMiss at h
  dsimp only at h
  split at h
  · exact H _ h
  · exact h.elim
theorem h_laws_FnRatioOfMiss : Holds Try.prog 4 con_laws_FnRatioOfMiss := by
  refine holds_of_ev (rt := [.c .sc]) (T := TT) (Γ := cs_laws_FnRatioOfMiss) (an := an_laws_FnRatioOfMiss) (N := 45) (c := Try.f4.body.getD .skip) Try.func4 (by kernel_rfl) Try.ntmps4 (by decide) (by decide) mixed tabOK cok_laws_FnRatioOfMiss (by kernel_rfl) ?_
  intro vs kk _ hF
  exact i_laws_FnRatioOfMiss (motive := fun vs => Goes (ev TT cs_laws_FnRatioOfMiss 45 an_laws_FnRatioOfMiss (Try.f4.body.getD .skip) (st0 con_laws_FnRatioOfMiss vs) (fin TT con_laws_FnRatioOfMiss Try.f4.results.toList [.c .sc] vs kk))) hF (fun code0 hF => goes_of (e_laws_FnRatioOfMiss code0 kk) (F_laws_FnRatioOfMiss_S hF))
end Go.Ev
