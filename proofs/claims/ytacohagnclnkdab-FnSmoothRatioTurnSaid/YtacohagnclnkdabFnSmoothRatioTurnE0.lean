/- What the evaluator gives for these functions: their contracts. No statement is proved here. -/
import Derived.Test.YtacohagnclnkdabFnSmoothRatioTurnP0
import Derived.Test.YtacohagnclnkdabTt
namespace Go.Ev
set_option linter.unusedVariables false
set_option linter.unusedSimpArgs false
set_option maxRecDepth 100000
open Go Go.Proofs
def con_spec_newReader : Con := ⟨[.rd], true, [.c (.sl .u8)], fun vs k => match vs with
    | [.c (.ro .u8 code0)] => F_spec_newReader code0 (fun r0 r1 => k (.one (.agg [.ro .u8 r0, .v (.int .i64 r1)])) [])
    | _ => False, true⟩
def cl_spec_newReader : List (FuncId × Con) := []
def an_spec_newReader : Ann := ⟨[], [], [], []⟩
def cs_spec_newReader : Cons := ⟨cl_spec_newReader, [], 0, [], [], []⟩
def fin_spec_newReader (code0 : List Int) (kk : AV → List A1 → Prop) : Kt := finB Try.f37.results.toList [.sl .u8, .sc] kk
theorem g_spec_newReader (code0 : List Int) (kk : AV → List A1 → Prop) :
    ev TT cs_spec_newReader 11 an_spec_newReader (Try.f37.body.getD .skip) (st0 con_spec_newReader [.c (.ro .u8 code0)]) (finB Try.f37.results.toList [.sl .u8, .sc] kk) = G_spec_newReader code0 (fun r0 r1 => kk (.one (.agg [.ro .u8 r0, .v (.int .i64 r1)])) []) := by kernel_rfl
theorem e_spec_newReader (code0 : List Int) (kk : AV → List A1 → Prop) :
    ev TT cs_spec_newReader 11 an_spec_newReader (Try.f37.body.getD .skip) (st0 con_spec_newReader [.c (.ro .u8 code0)]) (finB Try.f37.results.toList [.sl .u8, .sc] kk) = S_spec_newReader code0 (fun r0 r1 => kk (.one (.agg [.ro .u8 r0, .v (.int .i64 r1)])) []) := by
  rw [g_spec_newReader]
  rfl
theorem clok_spec_newReader : ConOK Try.prog cl_spec_newReader := consNil
theorem cok_spec_newReader : ConsOK Try.prog 11 cs_spec_newReader := ⟨clok_spec_newReader, inlNil, ovNil⟩
theorem i_spec_newReader {vs : List A1} {kk : AV → List A1 → Prop} {motive : List A1 → Prop} (h : con_spec_newReader.F vs kk) (H : ∀ (code0 : List Int), F_spec_newReader code0 (fun r0 r1 => kk (.one (.agg [.ro .u8 r0, .v (.int .i64 r1)])) []) → motive [.c (.ro .u8 code0)]) : motive vs := by
  unfold con_spec_newReader at h
  dsimp only at h
  split at h
  · exact H _ h
  · exact h.elim
theorem h_spec_newReader : HoldsB Try.prog 37 con_spec_newReader := by
  refine holdsB_of_ev (ts := [.sl .u8, .sc]) (T := TT) (Γ := cs_spec_newReader) (an := an_spec_newReader) (N := 11) (c := Try.f37.body.getD .skip) Try.func37 (by kernel_rfl) Try.ntmps37 (by decide) (by decide) mixed tabOK cok_spec_newReader (by kernel_rfl) ?_
  intro vs kk _ hF
  exact i_spec_newReader (motive := fun vs => Goes (ev TT cs_spec_newReader 11 an_spec_newReader (Try.f37.body.getD .skip) (st0 con_spec_newReader vs) (finB Try.f37.results.toList [.sl .u8, .sc] kk))) hF (fun code0 hF => goes_of (e_spec_newReader code0 kk) (F_spec_newReader_S hF))
def con_spec_reader_pick : Con := ⟨[.mu, .rd], true, [.ptr [.sl .u8, .sc], .c (.sc)], fun vs k => match vs with
    | [.ptr [.ro .u8 r0b, .v (.int .i64 r0p)], .c (.v (.int .i64 n1))] => F_spec_reader_pick r0b r0p n1 (fun r0 r1 r2 => k (.one (.c (.v (.int .i64 r0)))) [.ptr [.ro .u8 r1, .v (.int .i64 r2)]])
    | _ => False, false⟩
def cl_spec_reader_pick : List (FuncId × Con) := []
def an_spec_reader_pick : Ann := ⟨[(7, .take 0 (.take 1 (.take 2 (.take 3 (.take 4 (.take 5 (.take 6 (.take 7 (.take 8 (.take 9 (.take 10 (.take 11 (.take 12 (.take 13 (.take 14 (.take 15 (.take 16 (.take 17 (.take 18 (.take 19 (.take 20 (.take 21 (.take 22 (.take 23 (.take 24 (.take 25 (.take 26 (.take 27 (.take 28 (.take 29 (.take 30 (.take 31 (.take 32 (.take 33 (.take 34 (.take 35 (.take 36 (.take 37 (.take 38 (.take 39 (.take 40 (.take 41 (.take 42 (.take 43 (.take 44 (.take 45 (.done)))))))))))))))))))))))))))))))))))))))))))))), [100000])], [], [], []⟩
def cs_spec_reader_pick : Cons := ⟨cl_spec_reader_pick, [], 0, [], [], []⟩
def fin_spec_reader_pick (r0b : List Int) (r0p : Int) (n1 : Int) (kk : AV → List A1 → Prop) : Kt := fin TT con_spec_reader_pick Try.f40.results.toList [.c .sc] [.ptr [.ro .u8 r0b, .v (.int .i64 r0p)], .c (.v (.int .i64 n1))] kk
theorem g_spec_reader_pick (r0b : List Int) (r0p : Int) (n1 : Int) (kk : AV → List A1 → Prop) :
    ev TT cs_spec_reader_pick 99 an_spec_reader_pick (Try.f40.body.getD .skip) (st0 con_spec_reader_pick [.ptr [.ro .u8 r0b, .v (.int .i64 r0p)], .c (.v (.int .i64 n1))]) (fin TT con_spec_reader_pick Try.f40.results.toList [.c .sc] [.ptr [.ro .u8 r0b, .v (.int .i64 r0p)], .c (.v (.int .i64 n1))] kk) = G_spec_reader_pick r0b r0p n1 (fun r0 r1 r2 => kk (.one (.c (.v (.int .i64 r0)))) [.ptr [.ro .u8 r1, .v (.int .i64 r2)]]) := by kernel_rfl
theorem e_spec_reader_pick (r0b : List Int) (r0p : Int) (n1 : Int) (kk : AV → List A1 → Prop) :
    ev TT cs_spec_reader_pick 99 an_spec_reader_pick (Try.f40.body.getD .skip) (st0 con_spec_reader_pick [.ptr [.ro .u8 r0b, .v (.int .i64 r0p)], .c (.v (.int .i64 n1))]) (fin TT con_spec_reader_pick Try.f40.results.toList [.c .sc] [.ptr [.ro .u8 r0b, .v (.int .i64 r0p)], .c (.v (.int .i64 n1))] kk) = S_spec_reader_pick r0b r0p n1 (fun r0 r1 r2 => kk (.one (.c (.v (.int .i64 r0)))) [.ptr [.ro .u8 r1, .v (.int .i64 r2)]]) := by
  rw [g_spec_reader_pick]
  rfl
theorem clok_spec_reader_pick : ConOK Try.prog cl_spec_reader_pick := consNil
theorem cok_spec_reader_pick : ConsOK Try.prog 99 cs_spec_reader_pick := ⟨clok_spec_reader_pick, inlNil, ovNil⟩
theorem i_spec_reader_pick {vs : List A1} {kk : AV → List A1 → Prop} {motive : List A1 → Prop} (h : con_spec_reader_pick.F vs kk) (H : ∀ (r0b : List Int) (r0p : Int) (n1 : Int), F_spec_reader_pick r0b r0p n1 (fun r0 r1 r2 => kk (.one (.c (.v (.int .i64 r0)))) [.ptr [.ro .u8 r1, .v (.int .i64 r2)]]) → motive [.ptr [.ro .u8 r0b, .v (.int .i64 r0p)], .c (.v (.int .i64 n1))]) : motive vs := by
  unfold con_spec_reader_pick at h
  dsimp only at h
  split at h
  · exact H _ _ _ h
  · exact h.elim
theorem h_spec_reader_pick : Holds Try.prog 40 con_spec_reader_pick := by
  refine holds_of_ev (rt := [.c .sc]) (T := TT) (Γ := cs_spec_reader_pick) (an := an_spec_reader_pick) (N := 99) (c := Try.f40.body.getD .skip) Try.func40 (by kernel_rfl) Try.ntmps40 (by decide) (by decide) mixed tabOK cok_spec_reader_pick (by kernel_rfl) ?_
  intro vs kk _ hF
  exact i_spec_reader_pick (motive := fun vs => Goes (ev TT cs_spec_reader_pick 99 an_spec_reader_pick (Try.f40.body.getD .skip) (st0 con_spec_reader_pick vs) (fin TT con_spec_reader_pick Try.f40.results.toList [.c .sc] vs kk))) hF (fun r0b r0p n1 hF => goes_of (e_spec_reader_pick r0b r0p n1 kk) (F_spec_reader_pick_S hF))
def con_spec_reader_one : Con := ⟨[.mu, .rd], true, [.ptr [.sl .u8, .sc], .c (.sl .int)], fun vs k => match vs with
    | [.ptr [.ro .u8 r0b, .v (.int .i64 r0p)], .c (.ro .int list1)] => F_spec_reader_one r0b r0p list1 (fun r0 r1 r2 => k (.one (.c (.v (.int .i64 r0)))) [.ptr [.ro .u8 r1, .v (.int .i64 r2)]])
    | _ => False, false⟩
def cl_spec_reader_one : List (FuncId × Con) := [(40, con_spec_reader_pick)]
def an_spec_reader_one : Ann := ⟨[], [], [], []⟩
def cs_spec_reader_one : Cons := ⟨cl_spec_reader_one, [], 0, [], [], []⟩
def fin_spec_reader_one (r0b : List Int) (r0p : Int) (list1 : List Int) (kk : AV → List A1 → Prop) : Kt := fin TT con_spec_reader_one Try.f38.results.toList [.c .sc] [.ptr [.ro .u8 r0b, .v (.int .i64 r0p)], .c (.ro .int list1)] kk
theorem g_spec_reader_one (r0b : List Int) (r0p : Int) (list1 : List Int) (kk : AV → List A1 → Prop) :
    ev TT cs_spec_reader_one 12 an_spec_reader_one (Try.f38.body.getD .skip) (st0 con_spec_reader_one [.ptr [.ro .u8 r0b, .v (.int .i64 r0p)], .c (.ro .int list1)]) (fin TT con_spec_reader_one Try.f38.results.toList [.c .sc] [.ptr [.ro .u8 r0b, .v (.int .i64 r0p)], .c (.ro .int list1)] kk) = G_spec_reader_one r0b r0p list1 (fun r0 r1 r2 => kk (.one (.c (.v (.int .i64 r0)))) [.ptr [.ro .u8 r1, .v (.int .i64 r2)]]) := by kernel_rfl
theorem e_spec_reader_one (r0b : List Int) (r0p : Int) (list1 : List Int) (kk : AV → List A1 → Prop) :
    ev TT cs_spec_reader_one 12 an_spec_reader_one (Try.f38.body.getD .skip) (st0 con_spec_reader_one [.ptr [.ro .u8 r0b, .v (.int .i64 r0p)], .c (.ro .int list1)]) (fin TT con_spec_reader_one Try.f38.results.toList [.c .sc] [.ptr [.ro .u8 r0b, .v (.int .i64 r0p)], .c (.ro .int list1)] kk) = S_spec_reader_one r0b r0p list1 (fun r0 r1 r2 => kk (.one (.c (.v (.int .i64 r0)))) [.ptr [.ro .u8 r1, .v (.int .i64 r2)]]) := by
  rw [g_spec_reader_one]
  rfl
theorem clok_spec_reader_one : ConOK Try.prog cl_spec_reader_one := consCons h_spec_reader_pick ⟨Try.f40, Try.func40, by kernel_rfl, ne_of_beq (by kernel_rfl)⟩ (consNil)
theorem cok_spec_reader_one : ConsOK Try.prog 12 cs_spec_reader_one := ⟨clok_spec_reader_one, inlNil, ovNil⟩
theorem i_spec_reader_one {vs : List A1} {kk : AV → List A1 → Prop} {motive : List A1 → Prop} (h : con_spec_reader_one.F vs kk) (H : ∀ (r0b : List Int) (r0p : Int) (list1 : List Int), F_spec_reader_one r0b r0p list1 (fun r0 r1 r2 => kk (.one (.c (.v (.int .i64 r0)))) [.ptr [.ro .u8 r1, .v (.int .i64 r2)]]) → motive [.ptr [.ro .u8 r0b, .v (.int .i64 r0p)], .c (.ro .int list1)]) : motive vs := by
  unfold con_spec_reader_one at h
  dsimp only at h
  split at h
  · exact H _ _ _ h
  · exact h.elim
theorem h_spec_reader_one : Holds Try.prog 38 con_spec_reader_one := by
  refine holds_of_ev (rt := [.c .sc]) (T := TT) (Γ := cs_spec_reader_one) (an := an_spec_reader_one) (N := 12) (c := Try.f38.body.getD .skip) Try.func38 (by kernel_rfl) Try.ntmps38 (by decide) (by decide) mixed tabOK cok_spec_reader_one (by kernel_rfl) ?_
  intro vs kk _ hF
  exact i_spec_reader_one (motive := fun vs => Goes (ev TT cs_spec_reader_one 12 an_spec_reader_one (Try.f38.body.getD .skip) (st0 con_spec_reader_one vs) (fin TT con_spec_reader_one Try.f38.results.toList [.c .sc] vs kk))) hF (fun r0b r0p list1 hF => goes_of (e_spec_reader_one r0b r0p list1 kk) (F_spec_reader_one_S hF))
def con_spec_DrawSmoothRatio : Con := ⟨[.rd], true, [.c (.sl .u8)], fun vs k => match vs with
    | [.c (.ro .u8 code0)] => F_spec_DrawSmoothRatio code0 (fun r0 r1 => k (.tup [.c (.v (.int .i64 r0)), .c (.v (.int .i64 r1))]) [])
    | _ => False, false⟩
def cl_spec_DrawSmoothRatio : List (FuncId × Con) := [(37, con_spec_newReader), (38, con_spec_reader_one), (40, con_spec_reader_pick)]
def an_spec_DrawSmoothRatio : Ann := ⟨[], [], [], []⟩
def cs_spec_DrawSmoothRatio : Cons := ⟨cl_spec_DrawSmoothRatio, [], 0, [], [], []⟩
def fin_spec_DrawSmoothRatio (code0 : List Int) (kk : AV → List A1 → Prop) : Kt := fin TT con_spec_DrawSmoothRatio Try.f16.results.toList [.c .sc, .c .sc] [.c (.ro .u8 code0)] kk
theorem g_spec_DrawSmoothRatio (code0 : List Int) (kk : AV → List A1 → Prop) :
    ev TT cs_spec_DrawSmoothRatio 21 an_spec_DrawSmoothRatio (Try.f16.body.getD .skip) (st0 con_spec_DrawSmoothRatio [.c (.ro .u8 code0)]) (fin TT con_spec_DrawSmoothRatio Try.f16.results.toList [.c .sc, .c .sc] [.c (.ro .u8 code0)] kk) = G_spec_DrawSmoothRatio code0 (fun r0 r1 => kk (.tup [.c (.v (.int .i64 r0)), .c (.v (.int .i64 r1))]) []) := by kernel_rfl
theorem e_spec_DrawSmoothRatio (code0 : List Int) (kk : AV → List A1 → Prop) :
    ev TT cs_spec_DrawSmoothRatio 21 an_spec_DrawSmoothRatio (Try.f16.body.getD .skip) (st0 con_spec_DrawSmoothRatio [.c (.ro .u8 code0)]) (fin TT con_spec_DrawSmoothRatio Try.f16.results.toList [.c .sc, .c .sc] [.c (.ro .u8 code0)] kk) = S_spec_DrawSmoothRatio code0 (fun r0 r1 => kk (.tup [.c (.v (.int .i64 r0)), .c (.v (.int .i64 r1))]) []) := by
  rw [g_spec_DrawSmoothRatio]
  rfl
theorem clok_spec_DrawSmoothRatio : ConOK Try.prog cl_spec_DrawSmoothRatio := consCons h_spec_newReader ⟨Try.f37, Try.func37, by kernel_rfl, ne_of_beq (by kernel_rfl)⟩ (consCons h_spec_reader_one ⟨Try.f38, Try.func38, by kernel_rfl, ne_of_beq (by kernel_rfl)⟩ (consCons h_spec_reader_pick ⟨Try.f40, Try.func40, by kernel_rfl, ne_of_beq (by kernel_rfl)⟩ (consNil)))
theorem cok_spec_DrawSmoothRatio : ConsOK Try.prog 21 cs_spec_DrawSmoothRatio := ⟨clok_spec_DrawSmoothRatio, inlNil, ovNil⟩
theorem i_spec_DrawSmoothRatio {vs : List A1} {kk : AV → List A1 → Prop} {motive : List A1 → Prop} (h : con_spec_DrawSmoothRatio.F vs kk) (H : ∀ (code0 : List Int), F_spec_DrawSmoothRatio code0 (fun r0 r1 => kk (.tup [.c (.v (.int .i64 r0)), .c (.v (.int .i64 r1))]) []) → motive [.c (.ro .u8 code0)]) : motive vs := by
  unfold con_spec_DrawSmoothRatio at h
  dsimp only at h
  split at h
  · exact H _ h
  · exact h.elim
theorem h_spec_DrawSmoothRatio : Holds Try.prog 16 con_spec_DrawSmoothRatio := by
  refine holds_of_ev (rt := [.c .sc, .c .sc]) (T := TT) (Γ := cs_spec_DrawSmoothRatio) (an := an_spec_DrawSmoothRatio) (N := 21) (c := Try.f16.body.getD .skip) Try.func16 (by kernel_rfl) Try.ntmps16 (by decide) (by decide) mixed tabOK cok_spec_DrawSmoothRatio (by kernel_rfl) ?_
  intro vs kk _ hF
  exact i_spec_DrawSmoothRatio (motive := fun vs => Goes (ev TT cs_spec_DrawSmoothRatio 21 an_spec_DrawSmoothRatio (Try.f16.body.getD .skip) (st0 con_spec_DrawSmoothRatio vs) (fin TT con_spec_DrawSmoothRatio Try.f16.results.toList [.c .sc, .c .sc] vs kk))) hF (fun code0 hF => goes_of (e_spec_DrawSmoothRatio code0 kk) (F_spec_DrawSmoothRatio_S hF))
def con_impl_validRatio : Con := ⟨[.rd], true, [.c (.sc)], fun vs k => match vs with
    | [.c (.v (.int .i64 ratio0))] => F_impl_validRatio ratio0 (fun r0 => k (.one (.c (.v (.bool r0)))) [])
    | _ => False, false⟩
def cl_impl_validRatio : List (FuncId × Con) := []
def an_impl_validRatio : Ann := ⟨[], [], [], []⟩
def cs_impl_validRatio : Cons := ⟨cl_impl_validRatio, [], 0, [], [], []⟩
def fin_impl_validRatio (ratio0 : Int) (kk : AV → List A1 → Prop) : Kt := fin TT con_impl_validRatio Try.f41.results.toList [.c .sc] [.c (.v (.int .i64 ratio0))] kk
theorem g_impl_validRatio (ratio0 : Int) (kk : AV → List A1 → Prop) :
    ev TT cs_impl_validRatio 9 an_impl_validRatio (Try.f41.body.getD .skip) (st0 con_impl_validRatio [.c (.v (.int .i64 ratio0))]) (fin TT con_impl_validRatio Try.f41.results.toList [.c .sc] [.c (.v (.int .i64 ratio0))] kk) = G_impl_validRatio ratio0 (fun r0 => kk (.one (.c (.v (.bool r0)))) []) := by kernel_rfl
theorem e_impl_validRatio (ratio0 : Int) (kk : AV → List A1 → Prop) :
    ev TT cs_impl_validRatio 9 an_impl_validRatio (Try.f41.body.getD .skip) (st0 con_impl_validRatio [.c (.v (.int .i64 ratio0))]) (fin TT con_impl_validRatio Try.f41.results.toList [.c .sc] [.c (.v (.int .i64 ratio0))] kk) = S_impl_validRatio ratio0 (fun r0 => kk (.one (.c (.v (.bool r0)))) []) := by
  rw [g_impl_validRatio]
  rfl
theorem clok_impl_validRatio : ConOK Try.prog cl_impl_validRatio := consNil
theorem cok_impl_validRatio : ConsOK Try.prog 9 cs_impl_validRatio := ⟨clok_impl_validRatio, inlNil, ovNil⟩
theorem i_impl_validRatio {vs : List A1} {kk : AV → List A1 → Prop} {motive : List A1 → Prop} (h : con_impl_validRatio.F vs kk) (H : ∀ (ratio0 : Int), F_impl_validRatio ratio0 (fun r0 => kk (.one (.c (.v (.bool r0)))) []) → motive [.c (.v (.int .i64 ratio0))]) : motive vs := by
  unfold con_impl_validRatio at h
  dsimp only at h
  split at h
  · exact H _ h
  · exact h.elim
theorem h_impl_validRatio : Holds Try.prog 41 con_impl_validRatio := by
  refine holds_of_ev (rt := [.c .sc]) (T := TT) (Γ := cs_impl_validRatio) (an := an_impl_validRatio) (N := 9) (c := Try.f41.body.getD .skip) Try.func41 (by kernel_rfl) Try.ntmps41 (by decide) (by decide) mixed tabOK cok_impl_validRatio (by kernel_rfl) ?_
  intro vs kk _ hF
  exact i_impl_validRatio (motive := fun vs => Goes (ev TT cs_impl_validRatio 9 an_impl_validRatio (Try.f41.body.getD .skip) (st0 con_impl_validRatio vs) (fin TT con_impl_validRatio Try.f41.results.toList [.c .sc] vs kk))) hF (fun ratio0 hF => goes_of (e_impl_validRatio ratio0 kk) (F_impl_validRatio_S hF))
def con_impl_SmoothRatio : Con := ⟨[.rd, .rd], true, [.c (.sc), .c (.sc)], fun vs k => match vs with
    | [.c (.v (.int .i64 old0)), .c (.v (.int .i64 now1))] => F_impl_SmoothRatio old0 now1 (fun r0 => k (.one (.c (.v (.int .i64 r0)))) [])
    | _ => False, false⟩
def cl_impl_SmoothRatio : List (FuncId × Con) := [(41, con_impl_validRatio)]
def an_impl_SmoothRatio : Ann := ⟨[], [], [], []⟩
def cs_impl_SmoothRatio : Cons := ⟨cl_impl_SmoothRatio, [], 0, [], [], []⟩
def fin_impl_SmoothRatio (old0 : Int) (now1 : Int) (kk : AV → List A1 → Prop) : Kt := fin TT con_impl_SmoothRatio Try.f17.results.toList [.c .sc] [.c (.v (.int .i64 old0)), .c (.v (.int .i64 now1))] kk
theorem g_impl_SmoothRatio (old0 : Int) (now1 : Int) (kk : AV → List A1 → Prop) :
    ev TT cs_impl_SmoothRatio 19 an_impl_SmoothRatio (Try.f17.body.getD .skip) (st0 con_impl_SmoothRatio [.c (.v (.int .i64 old0)), .c (.v (.int .i64 now1))]) (fin TT con_impl_SmoothRatio Try.f17.results.toList [.c .sc] [.c (.v (.int .i64 old0)), .c (.v (.int .i64 now1))] kk) = G_impl_SmoothRatio old0 now1 (fun r0 => kk (.one (.c (.v (.int .i64 r0)))) []) := by kernel_rfl
theorem e_impl_SmoothRatio (old0 : Int) (now1 : Int) (kk : AV → List A1 → Prop) :
    ev TT cs_impl_SmoothRatio 19 an_impl_SmoothRatio (Try.f17.body.getD .skip) (st0 con_impl_SmoothRatio [.c (.v (.int .i64 old0)), .c (.v (.int .i64 now1))]) (fin TT con_impl_SmoothRatio Try.f17.results.toList [.c .sc] [.c (.v (.int .i64 old0)), .c (.v (.int .i64 now1))] kk) = S_impl_SmoothRatio old0 now1 (fun r0 => kk (.one (.c (.v (.int .i64 r0)))) []) := by
  rw [g_impl_SmoothRatio]
  rfl
theorem clok_impl_SmoothRatio : ConOK Try.prog cl_impl_SmoothRatio := consCons h_impl_validRatio ⟨Try.f41, Try.func41, by kernel_rfl, ne_of_beq (by kernel_rfl)⟩ (consNil)
theorem cok_impl_SmoothRatio : ConsOK Try.prog 19 cs_impl_SmoothRatio := ⟨clok_impl_SmoothRatio, inlNil, ovNil⟩
theorem i_impl_SmoothRatio {vs : List A1} {kk : AV → List A1 → Prop} {motive : List A1 → Prop} (h : con_impl_SmoothRatio.F vs kk) (H : ∀ (old0 : Int) (now1 : Int), F_impl_SmoothRatio old0 now1 (fun r0 => kk (.one (.c (.v (.int .i64 r0)))) []) → motive [.c (.v (.int .i64 old0)), .c (.v (.int .i64 now1))]) : motive vs := by
  unfold con_impl_SmoothRatio at h
  dsimp only at h
  split at h
  · exact H _ _ h
  · exact h.elim
theorem h_impl_SmoothRatio : Holds Try.prog 17 con_impl_SmoothRatio := by
  refine holds_of_ev (rt := [.c .sc]) (T := TT) (Γ := cs_impl_SmoothRatio) (an := an_impl_SmoothRatio) (N := 19) (c := Try.f17.body.getD .skip) Try.func17 (by kernel_rfl) Try.ntmps17 (by decide) (by decide) mixed tabOK cok_impl_SmoothRatio (by kernel_rfl) ?_
  intro vs kk _ hF
  exact i_impl_SmoothRatio (motive := fun vs => Goes (ev TT cs_impl_SmoothRatio 19 an_impl_SmoothRatio (Try.f17.body.getD .skip) (st0 con_impl_SmoothRatio vs) (fin TT con_impl_SmoothRatio Try.f17.results.toList [.c .sc] vs kk))) hF (fun old0 now1 hF => goes_of (e_impl_SmoothRatio old0 now1 kk) (F_impl_SmoothRatio_S hF))
def con_spec_inRange : Con := ⟨[.rd, .rd, .rd], true, [.c (.sc), .c (.sc), .c (.sc)], fun vs k => match vs with
    | [.c (.v (.int .i64 n0)), .c (.v (.int .i64 low1)), .c (.v (.int .i64 high2))] => F_spec_inRange n0 low1 high2 (fun r0 => k (.one (.c (.v (.bool r0)))) [])
    | _ => False, false⟩
def cl_spec_inRange : List (FuncId × Con) := []
def an_spec_inRange : Ann := ⟨[], [], [], []⟩
def cs_spec_inRange : Cons := ⟨cl_spec_inRange, [], 0, [], [], []⟩
def fin_spec_inRange (n0 : Int) (low1 : Int) (high2 : Int) (kk : AV → List A1 → Prop) : Kt := fin TT con_spec_inRange Try.f39.results.toList [.c .sc] [.c (.v (.int .i64 n0)), .c (.v (.int .i64 low1)), .c (.v (.int .i64 high2))] kk
theorem g_spec_inRange (n0 : Int) (low1 : Int) (high2 : Int) (kk : AV → List A1 → Prop) :
    ev TT cs_spec_inRange 15 an_spec_inRange (Try.f39.body.getD .skip) (st0 con_spec_inRange [.c (.v (.int .i64 n0)), .c (.v (.int .i64 low1)), .c (.v (.int .i64 high2))]) (fin TT con_spec_inRange Try.f39.results.toList [.c .sc] [.c (.v (.int .i64 n0)), .c (.v (.int .i64 low1)), .c (.v (.int .i64 high2))] kk) = G_spec_inRange n0 low1 high2 (fun r0 => kk (.one (.c (.v (.bool r0)))) []) := by kernel_rfl
theorem e_spec_inRange (n0 : Int) (low1 : Int) (high2 : Int) (kk : AV → List A1 → Prop) :
    ev TT cs_spec_inRange 15 an_spec_inRange (Try.f39.body.getD .skip) (st0 con_spec_inRange [.c (.v (.int .i64 n0)), .c (.v (.int .i64 low1)), .c (.v (.int .i64 high2))]) (fin TT con_spec_inRange Try.f39.results.toList [.c .sc] [.c (.v (.int .i64 n0)), .c (.v (.int .i64 low1)), .c (.v (.int .i64 high2))] kk) = S_spec_inRange n0 low1 high2 (fun r0 => kk (.one (.c (.v (.bool r0)))) []) := by
  rw [g_spec_inRange]
  rfl
theorem clok_spec_inRange : ConOK Try.prog cl_spec_inRange := consNil
theorem cok_spec_inRange : ConsOK Try.prog 15 cs_spec_inRange := ⟨clok_spec_inRange, inlNil, ovNil⟩
theorem i_spec_inRange {vs : List A1} {kk : AV → List A1 → Prop} {motive : List A1 → Prop} (h : con_spec_inRange.F vs kk) (H : ∀ (n0 : Int) (low1 : Int) (high2 : Int), F_spec_inRange n0 low1 high2 (fun r0 => kk (.one (.c (.v (.bool r0)))) []) → motive [.c (.v (.int .i64 n0)), .c (.v (.int .i64 low1)), .c (.v (.int .i64 high2))]) : motive vs := by
  unfold con_spec_inRange at h
  dsimp only at h
  split at h
  · exact H _ _ _ h
  · exact h.elim
theorem h_spec_inRange : Holds Try.prog 39 con_spec_inRange := by
  refine holds_of_ev (rt := [.c .sc]) (T := TT) (Γ := cs_spec_inRange) (an := an_spec_inRange) (N := 15) (c := Try.f39.body.getD .skip) Try.func39 (by kernel_rfl) Try.ntmps39 (by decide) (by decide) mixed tabOK cok_spec_inRange (by kernel_rfl) ?_
  intro vs kk _ hF
  exact i_spec_inRange (motive := fun vs => Goes (ev TT cs_spec_inRange 15 an_spec_inRange (Try.f39.body.getD .skip) (st0 con_spec_inRange vs) (fin TT con_spec_inRange Try.f39.results.toList [.c .sc] vs kk))) hF (fun n0 low1 high2 hF => goes_of (e_spec_inRange n0 low1 high2 kk) (F_spec_inRange_S hF))
def con_spec_SmoothRatio : Con := ⟨[.rd, .rd], true, [.c (.sc), .c (.sc)], fun vs k => match vs with
    | [.c (.v (.int .i64 old0)), .c (.v (.int .i64 now1))] => F_spec_SmoothRatio old0 now1 (fun r0 => k (.one (.c (.v (.int .i64 r0)))) [])
    | _ => False, false⟩
def cl_spec_SmoothRatio : List (FuncId × Con) := [(39, con_spec_inRange)]
def an_spec_SmoothRatio : Ann := ⟨[], [], [], []⟩
def cs_spec_SmoothRatio : Cons := ⟨cl_spec_SmoothRatio, [], 0, [], [], []⟩
def fin_spec_SmoothRatio (old0 : Int) (now1 : Int) (kk : AV → List A1 → Prop) : Kt := fin TT con_spec_SmoothRatio Try.f18.results.toList [.c .sc] [.c (.v (.int .i64 old0)), .c (.v (.int .i64 now1))] kk
theorem g_spec_SmoothRatio (old0 : Int) (now1 : Int) (kk : AV → List A1 → Prop) :
    ev TT cs_spec_SmoothRatio 19 an_spec_SmoothRatio (Try.f18.body.getD .skip) (st0 con_spec_SmoothRatio [.c (.v (.int .i64 old0)), .c (.v (.int .i64 now1))]) (fin TT con_spec_SmoothRatio Try.f18.results.toList [.c .sc] [.c (.v (.int .i64 old0)), .c (.v (.int .i64 now1))] kk) = G_spec_SmoothRatio old0 now1 (fun r0 => kk (.one (.c (.v (.int .i64 r0)))) []) := by kernel_rfl
theorem e_spec_SmoothRatio (old0 : Int) (now1 : Int) (kk : AV → List A1 → Prop) :
    ev TT cs_spec_SmoothRatio 19 an_spec_SmoothRatio (Try.f18.body.getD .skip) (st0 con_spec_SmoothRatio [.c (.v (.int .i64 old0)), .c (.v (.int .i64 now1))]) (fin TT con_spec_SmoothRatio Try.f18.results.toList [.c .sc] [.c (.v (.int .i64 old0)), .c (.v (.int .i64 now1))] kk) = S_spec_SmoothRatio old0 now1 (fun r0 => kk (.one (.c (.v (.int .i64 r0)))) []) := by
  rw [g_spec_SmoothRatio]
  rfl
theorem clok_spec_SmoothRatio : ConOK Try.prog cl_spec_SmoothRatio := consCons h_spec_inRange ⟨Try.f39, Try.func39, by kernel_rfl, ne_of_beq (by kernel_rfl)⟩ (consNil)
theorem cok_spec_SmoothRatio : ConsOK Try.prog 19 cs_spec_SmoothRatio := ⟨clok_spec_SmoothRatio, inlNil, ovNil⟩
theorem i_spec_SmoothRatio {vs : List A1} {kk : AV → List A1 → Prop} {motive : List A1 → Prop} (h : con_spec_SmoothRatio.F vs kk) (H : ∀ (old0 : Int) (now1 : Int), F_spec_SmoothRatio old0 now1 (fun r0 => kk (.one (.c (.v (.int .i64 r0)))) []) → motive [.c (.v (.int .i64 old0)), .c (.v (.int .i64 now1))]) : motive vs := by
  unfold con_spec_SmoothRatio at h
  dsimp only at h
  split at h
  · exact H _ _ h
  · exact h.elim
theorem h_spec_SmoothRatio : Holds Try.prog 18 con_spec_SmoothRatio := by
  refine holds_of_ev (rt := [.c .sc]) (T := TT) (Γ := cs_spec_SmoothRatio) (an := an_spec_SmoothRatio) (N := 19) (c := Try.f18.body.getD .skip) Try.func18 (by kernel_rfl) Try.ntmps18 (by decide) (by decide) mixed tabOK cok_spec_SmoothRatio (by kernel_rfl) ?_
  intro vs kk _ hF
  exact i_spec_SmoothRatio (motive := fun vs => Goes (ev TT cs_spec_SmoothRatio 19 an_spec_SmoothRatio (Try.f18.body.getD .skip) (st0 con_spec_SmoothRatio vs) (fin TT con_spec_SmoothRatio Try.f18.results.toList [.c .sc] vs kk))) hF (fun old0 now1 hF => goes_of (e_spec_SmoothRatio old0 now1 kk) (F_spec_SmoothRatio_S hF))
def con_laws_FnSmoothRatioTurn : Con := ⟨[.rd], true, [.c (.sl .u8)], fun vs k => match vs with
    | [.c (.ro .u8 code0)] => F_laws_FnSmoothRatioTurn code0 (fun r0 => k (.one (.c (.v (.bool r0)))) [])
    | _ => False, false⟩
def cl_laws_FnSmoothRatioTurn : List (FuncId × Con) := [(16, con_spec_DrawSmoothRatio), (17, con_impl_SmoothRatio), (18, con_spec_SmoothRatio)]
def an_laws_FnSmoothRatioTurn : Ann := ⟨[], [], [], []⟩
def cs_laws_FnSmoothRatioTurn : Cons := ⟨cl_laws_FnSmoothRatioTurn, [], 0, [], [], []⟩
def fin_laws_FnSmoothRatioTurn (code0 : List Int) (kk : AV → List A1 → Prop) : Kt := fin TT con_laws_FnSmoothRatioTurn Try.f6.results.toList [.c .sc] [.c (.ro .u8 code0)] kk
theorem g_laws_FnSmoothRatioTurn (code0 : List Int) (kk : AV → List A1 → Prop) :
    ev TT cs_laws_FnSmoothRatioTurn 39 an_laws_FnSmoothRatioTurn (Try.f6.body.getD .skip) (st0 con_laws_FnSmoothRatioTurn [.c (.ro .u8 code0)]) (fin TT con_laws_FnSmoothRatioTurn Try.f6.results.toList [.c .sc] [.c (.ro .u8 code0)] kk) = G_laws_FnSmoothRatioTurn code0 (fun r0 => kk (.one (.c (.v (.bool r0)))) []) := by kernel_rfl
theorem e_laws_FnSmoothRatioTurn (code0 : List Int) (kk : AV → List A1 → Prop) :
    ev TT cs_laws_FnSmoothRatioTurn 39 an_laws_FnSmoothRatioTurn (Try.f6.body.getD .skip) (st0 con_laws_FnSmoothRatioTurn [.c (.ro .u8 code0)]) (fin TT con_laws_FnSmoothRatioTurn Try.f6.results.toList [.c .sc] [.c (.ro .u8 code0)] kk) = S_laws_FnSmoothRatioTurn code0 (fun r0 => kk (.one (.c (.v (.bool r0)))) []) := by
  rw [g_laws_FnSmoothRatioTurn]
  rfl
theorem clok_laws_FnSmoothRatioTurn : ConOK Try.prog cl_laws_FnSmoothRatioTurn := consCons h_spec_DrawSmoothRatio ⟨Try.f16, Try.func16, by kernel_rfl, ne_of_beq (by kernel_rfl)⟩ (consCons h_impl_SmoothRatio ⟨Try.f17, Try.func17, by kernel_rfl, ne_of_beq (by kernel_rfl)⟩ (consCons h_spec_SmoothRatio ⟨Try.f18, Try.func18, by kernel_rfl, ne_of_beq (by kernel_rfl)⟩ (consNil)))
theorem cok_laws_FnSmoothRatioTurn : ConsOK Try.prog 39 cs_laws_FnSmoothRatioTurn := ⟨clok_laws_FnSmoothRatioTurn, inlNil, ovNil⟩
theorem i_laws_FnSmoothRatioTurn {vs : List A1} {kk : AV → List A1 → Prop} {motive : List A1 → Prop} (h : con_laws_FnSmoothRatioTurn.F vs kk) (H : ∀ (code0 : List Int), F_laws_FnSmoothRatioTurn code0 (fun r0 => kk (.one (.c (.v (.bool r0)))) []) → motive [.c (.ro .u8 code0)]) : motive vs := by
  unfold con_laws_FnSmoothRatioTurn at h
  dsimp only at h
  split at h
  · exact H _ h
  · exact h.elim
theorem h_laws_FnSmoothRatioTurn : Holds Try.prog 6 con_laws_FnSmoothRatioTurn := by
  refine holds_of_ev (rt := [.c .sc]) (T := TT) (Γ := cs_laws_FnSmoothRatioTurn) (an := an_laws_FnSmoothRatioTurn) (N := 39) (c := Try.f6.body.getD .skip) Try.func6 (by kernel_rfl) Try.ntmps6 (by decide) (by decide) mixed tabOK cok_laws_FnSmoothRatioTurn (by kernel_rfl) ?_
  intro vs kk _ hF
  exact i_laws_FnSmoothRatioTurn (motive := fun vs => Goes (ev TT cs_laws_FnSmoothRatioTurn 39 an_laws_FnSmoothRatioTurn (Try.f6.body.getD .skip) (st0 con_laws_FnSmoothRatioTurn vs) (fin TT con_laws_FnSmoothRatioTurn Try.f6.results.toList [.c .sc] vs kk))) hF (fun code0 hF => goes_of (e_laws_FnSmoothRatioTurn code0 kk) (F_laws_FnSmoothRatioTurn_S hF))
end Go.Ev
