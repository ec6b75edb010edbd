/- What the evaluator gives for these functions: their contracts. No statement is proved here. -/
import Derived.Test.YtacohagnclnkdacFnNextClimbStepsP0
import Derived.Test.YtacohagnclnkdacTt
namespace Go.Ev
set_option linter.unusedVariables false
set_option linter.unusedSimpArgs false
set_option maxRecDepth 100000
open Go Go.Proofs
def con_spec_newReader : Con := ⟨[.rd], true, [.c (.sl .u8)], fun vs k => match vs with
    | [.c (.ro .u8 code0)] => F_spec_newReader code0 (fun r0 r1 => k (.one (.agg [.ro .u8 r0, .v (.int .i64 r1)])) [])
    | _ => False, true⟩
def cl_spec_newReader : List (FuncId × Con) := []
def an_spec_newReader : Ann := ⟨[], [], [], []⟩
def cs_spec_newReader : Cons := ⟨cl_spec_newReader, [], 0, [], [], []⟩
def fin_spec_newReader (code0 : List Int) (kk : AV → List A1 → Prop) : Kt := finB Try.f46.results.toList [.sl .u8, .sc] kk
theorem g_spec_newReader (code0 : List Int) (kk : AV → List A1 → Prop) :
    ev TT cs_spec_newReader 11 an_spec_newReader (Try.f46.body.getD .skip) (st0 con_spec_newReader [.c (.ro .u8 code0)]) (finB Try.f46.results.toList [.sl .u8, .sc] kk) = G_spec_newReader code0 (fun r0 r1 => kk (.one (.agg [.ro .u8 r0, .v (.int .i64 r1)])) []) := by kernel_rfl
theorem e_spec_newReader (code0 : List Int) (kk : AV → List A1 → Prop) :
    ev TT cs_spec_newReader 11 an_spec_newReader (Try.f46.body.getD .skip) (st0 con_spec_newReader [.c (.ro .u8 code0)]) (finB Try.f46.results.toList [.sl .u8, .sc] kk) = S_spec_newReader code0 (fun r0 r1 => kk (.one (.agg [.ro .u8 r0, .v (.int .i64 r1)])) []) := by
  rw [g_spec_newReader]
  rfl
theorem clok_spec_newReader : ConOK Try.prog cl_spec_newReader := consNil
theorem cok_spec_newReader : ConsOK Try.prog 11 cs_spec_newReader := ⟨clok_spec_newReader, inlNil, ovNil⟩
theorem i_spec_newReader {vs : List A1} {kk : AV → List A1 → Prop} {motive : List A1 → Prop} (h : con_spec_newReader.F vs kk) (H : ∀ (code0 : List Int), F_spec_newReader code0 (fun r0 r1 => kk (.one (.agg [.ro .u8 r0, .v (.int .i64 r1)])) []) → motive [.c (.ro .u8 code0)]) : motive vs := by
  unfold con_spec_newReader at h
  dsimp only at h
  split at h
  · exact H _ h
  · exact h.elim
theorem h_spec_newReader : HoldsB Try.prog 46 con_spec_newReader := by
  refine holdsB_of_ev (ts := [.sl .u8, .sc]) (T := TT) (Γ := cs_spec_newReader) (an := an_spec_newReader) (N := 11) (c := Try.f46.body.getD .skip) Try.func46 (by kernel_rfl) Try.ntmps46 (by decide) (by decide) mixed tabOK cok_spec_newReader (by kernel_rfl) ?_
  intro vs kk _ hF
  exact i_spec_newReader (motive := fun vs => Goes (ev TT cs_spec_newReader 11 an_spec_newReader (Try.f46.body.getD .skip) (st0 con_spec_newReader vs) (finB Try.f46.results.toList [.sl .u8, .sc] kk))) hF (fun code0 hF => goes_of (e_spec_newReader code0 kk) (F_spec_newReader_S hF))
def con_spec_reader_pick : Con := ⟨[.mu, .rd], true, [.ptr [.sl .u8, .sc], .c (.sc)], fun vs k => match vs with
    | [.ptr [.ro .u8 r0b, .v (.int .i64 r0p)], .c (.v (.int .i64 n1))] => F_spec_reader_pick r0b r0p n1 (fun r0 r1 r2 => k (.one (.c (.v (.int .i64 r0)))) [.ptr [.ro .u8 r1, .v (.int .i64 r2)]])
    | _ => False, false⟩
def cl_spec_reader_pick : List (FuncId × Con) := []
def an_spec_reader_pick : Ann := ⟨[(7, .take 0 (.take 1 (.take 2 (.take 3 (.take 4 (.take 5 (.take 6 (.take 7 (.take 8 (.take 9 (.take 10 (.take 11 (.take 12 (.take 13 (.take 14 (.take 15 (.take 16 (.take 17 (.take 18 (.take 19 (.take 20 (.take 21 (.take 22 (.take 23 (.take 24 (.take 25 (.take 26 (.take 27 (.take 28 (.take 29 (.take 30 (.take 31 (.take 32 (.take 33 (.take 34 (.take 35 (.take 36 (.take 37 (.take 38 (.take 39 (.take 40 (.take 41 (.take 42 (.take 43 (.take 44 (.take 45 (.done)))))))))))))))))))))))))))))))))))))))))))))), [100000])], [], [], []⟩
def cs_spec_reader_pick : Cons := ⟨cl_spec_reader_pick, [], 0, [], [], []⟩
def fin_spec_reader_pick (r0b : List Int) (r0p : Int) (n1 : Int) (kk : AV → List A1 → Prop) : Kt := fin TT con_spec_reader_pick Try.f89.results.toList [.c .sc] [.ptr [.ro .u8 r0b, .v (.int .i64 r0p)], .c (.v (.int .i64 n1))] kk
theorem g_spec_reader_pick (r0b : List Int) (r0p : Int) (n1 : Int) (kk : AV → List A1 → Prop) :
    ev TT cs_spec_reader_pick 99 an_spec_reader_pick (Try.f89.body.getD .skip) (st0 con_spec_reader_pick [.ptr [.ro .u8 r0b, .v (.int .i64 r0p)], .c (.v (.int .i64 n1))]) (fin TT con_spec_reader_pick Try.f89.results.toList [.c .sc] [.ptr [.ro .u8 r0b, .v (.int .i64 r0p)], .c (.v (.int .i64 n1))] kk) = G_spec_reader_pick r0b r0p n1 (fun r0 r1 r2 => kk (.one (.c (.v (.int .i64 r0)))) [.ptr [.ro .u8 r1, .v (.int .i64 r2)]]) := by kernel_rfl
theorem e_spec_reader_pick (r0b : List Int) (r0p : Int) (n1 : Int) (kk : AV → List A1 → Prop) :
    ev TT cs_spec_reader_pick 99 an_spec_reader_pick (Try.f89.body.getD .skip) (st0 con_spec_reader_pick [.ptr [.ro .u8 r0b, .v (.int .i64 r0p)], .c (.v (.int .i64 n1))]) (fin TT con_spec_reader_pick Try.f89.results.toList [.c .sc] [.ptr [.ro .u8 r0b, .v (.int .i64 r0p)], .c (.v (.int .i64 n1))] kk) = S_spec_reader_pick r0b r0p n1 (fun r0 r1 r2 => kk (.one (.c (.v (.int .i64 r0)))) [.ptr [.ro .u8 r1, .v (.int .i64 r2)]]) := by
  rw [g_spec_reader_pick]
  rfl
theorem clok_spec_reader_pick : ConOK Try.prog cl_spec_reader_pick := consNil
theorem cok_spec_reader_pick : ConsOK Try.prog 99 cs_spec_reader_pick := ⟨clok_spec_reader_pick, inlNil, ovNil⟩
theorem i_spec_reader_pick {vs : List A1} {kk : AV → List A1 → Prop} {motive : List A1 → Prop} (h : con_spec_reader_pick.F vs kk) (H : ∀ (r0b : List Int) (r0p : Int) (n1 : Int), F_spec_reader_pick r0b r0p n1 (fun r0 r1 r2 => kk (.one (.c (.v (.int .i64 r0)))) [.ptr [.ro .u8 r1, .v (.int .i64 r2)]]) → motive [.ptr [.ro .u8 r0b, .v (.int .i64 r0p)], .c (.v (.int .i64 n1))]) : motive vs := by
  unfold con_spec_reader_pick at h
  dsimp only at h
  split at h
  · exact H _ _ _ h
  · exact h.elim
theorem h_spec_reader_pick : Holds Try.prog 89 con_spec_reader_pick := by
  refine holds_of_ev (rt := [.c .sc]) (T := TT) (Γ := cs_spec_reader_pick) (an := an_spec_reader_pick) (N := 99) (c := Try.f89.body.getD .skip) Try.func89 (by kernel_rfl) Try.ntmps89 (by decide) (by decide) mixed tabOK cok_spec_reader_pick (by kernel_rfl) ?_
  intro vs kk _ hF
  exact i_spec_reader_pick (motive := fun vs => Goes (ev TT cs_spec_reader_pick 99 an_spec_reader_pick (Try.f89.body.getD .skip) (st0 con_spec_reader_pick vs) (fin TT con_spec_reader_pick Try.f89.results.toList [.c .sc] vs kk))) hF (fun r0b r0p n1 hF => goes_of (e_spec_reader_pick r0b r0p n1 kk) (F_spec_reader_pick_S hF))
def con_spec_reader_one : Con := ⟨[.mu, .rd], true, [.ptr [.sl .u8, .sc], .c (.sl .int)], fun vs k => match vs with
    | [.ptr [.ro .u8 r0b, .v (.int .i64 r0p)], .c (.ro .int list1)] => F_spec_reader_one r0b r0p list1 (fun r0 r1 r2 => k (.one (.c (.v (.int .i64 r0)))) [.ptr [.ro .u8 r1, .v (.int .i64 r2)]])
    | _ => False, false⟩
def cl_spec_reader_one : List (FuncId × Con) := [(89, con_spec_reader_pick)]
def an_spec_reader_one : Ann := ⟨[], [], [], []⟩
def cs_spec_reader_one : Cons := ⟨cl_spec_reader_one, [], 0, [], [], []⟩
def fin_spec_reader_one (r0b : List Int) (r0p : Int) (list1 : List Int) (kk : AV → List A1 → Prop) : Kt := fin TT con_spec_reader_one Try.f49.results.toList [.c .sc] [.ptr [.ro .u8 r0b, .v (.int .i64 r0p)], .c (.ro .int list1)] kk
theorem g_spec_reader_one (r0b : List Int) (r0p : Int) (list1 : List Int) (kk : AV → List A1 → Prop) :
    ev TT cs_spec_reader_one 12 an_spec_reader_one (Try.f49.body.getD .skip) (st0 con_spec_reader_one [.ptr [.ro .u8 r0b, .v (.int .i64 r0p)], .c (.ro .int list1)]) (fin TT con_spec_reader_one Try.f49.results.toList [.c .sc] [.ptr [.ro .u8 r0b, .v (.int .i64 r0p)], .c (.ro .int list1)] kk) = G_spec_reader_one r0b r0p list1 (fun r0 r1 r2 => kk (.one (.c (.v (.int .i64 r0)))) [.ptr [.ro .u8 r1, .v (.int .i64 r2)]]) := by kernel_rfl
theorem e_spec_reader_one (r0b : List Int) (r0p : Int) (list1 : List Int) (kk : AV → List A1 → Prop) :
    ev TT cs_spec_reader_one 12 an_spec_reader_one (Try.f49.body.getD .skip) (st0 con_spec_reader_one [.ptr [.ro .u8 r0b, .v (.int .i64 r0p)], .c (.ro .int list1)]) (fin TT con_spec_reader_one Try.f49.results.toList [.c .sc] [.ptr [.ro .u8 r0b, .v (.int .i64 r0p)], .c (.ro .int list1)] kk) = S_spec_reader_one r0b r0p list1 (fun r0 r1 r2 => kk (.one (.c (.v (.int .i64 r0)))) [.ptr [.ro .u8 r1, .v (.int .i64 r2)]]) := by
  rw [g_spec_reader_one]
  rfl
theorem clok_spec_reader_one : ConOK Try.prog cl_spec_reader_one := consCons h_spec_reader_pick ⟨Try.f89, Try.func89, by kernel_rfl, ne_of_beq (by kernel_rfl)⟩ (consNil)
theorem cok_spec_reader_one : ConsOK Try.prog 12 cs_spec_reader_one := ⟨clok_spec_reader_one, inlNil, ovNil⟩
theorem i_spec_reader_one {vs : List A1} {kk : AV → List A1 → Prop} {motive : List A1 → Prop} (h : con_spec_reader_one.F vs kk) (H : ∀ (r0b : List Int) (r0p : Int) (list1 : List Int), F_spec_reader_one r0b r0p list1 (fun r0 r1 r2 => kk (.one (.c (.v (.int .i64 r0)))) [.ptr [.ro .u8 r1, .v (.int .i64 r2)]]) → motive [.ptr [.ro .u8 r0b, .v (.int .i64 r0p)], .c (.ro .int list1)]) : motive vs := by
  unfold con_spec_reader_one at h
  dsimp only at h
  split at h
  · exact H _ _ _ h
  · exact h.elim
theorem h_spec_reader_one : Holds Try.prog 49 con_spec_reader_one := by
  refine holds_of_ev (rt := [.c .sc]) (T := TT) (Γ := cs_spec_reader_one) (an := an_spec_reader_one) (N := 12) (c := Try.f49.body.getD .skip) Try.func49 (by kernel_rfl) Try.ntmps49 (by decide) (by decide) mixed tabOK cok_spec_reader_one (by kernel_rfl) ?_
  intro vs kk _ hF
  exact i_spec_reader_one (motive := fun vs => Goes (ev TT cs_spec_reader_one 12 an_spec_reader_one (Try.f49.body.getD .skip) (st0 con_spec_reader_one vs) (fin TT con_spec_reader_one Try.f49.results.toList [.c .sc] vs kk))) hF (fun r0b r0p list1 hF => goes_of (e_spec_reader_one r0b r0p list1 kk) (F_spec_reader_one_S hF))
def con_spec_someClimb : Con := ⟨[.mu], true, [.ptr [.sl .u8, .sc]], fun vs k => match vs with
    | [.ptr [.ro .u8 r0b, .v (.int .i64 r0p)]] => F_spec_someClimb r0b r0p (fun r0 r1 r2 r3 r4 => k (.one (.agg [.v (.int .i64 r0), .v (.int .i64 r1), .v (.int .i64 r2)])) [.ptr [.ro .u8 r3, .v (.int .i64 r4)]])
    | _ => False, false⟩
def cl_spec_someClimb : List (FuncId × Con) := [(49, con_spec_reader_one), (89, con_spec_reader_pick)]
def an_spec_someClimb : Ann := ⟨[], [], [], []⟩
def cs_spec_someClimb : Cons := ⟨cl_spec_someClimb, [], 0, [], [], []⟩
def fin_spec_someClimb (r0b : List Int) (r0p : Int) (kk : AV → List A1 → Prop) : Kt := fin TT con_spec_someClimb Try.f59.results.toList [.agg [.sc, .sc, .sc]] [.ptr [.ro .u8 r0b, .v (.int .i64 r0p)]] kk
theorem g_spec_someClimb (r0b : List Int) (r0p : Int) (kk : AV → List A1 → Prop) :
    ev TT cs_spec_someClimb 29 an_spec_someClimb (Try.f59.body.getD .skip) (st0 con_spec_someClimb [.ptr [.ro .u8 r0b, .v (.int .i64 r0p)]]) (fin TT con_spec_someClimb Try.f59.results.toList [.agg [.sc, .sc, .sc]] [.ptr [.ro .u8 r0b, .v (.int .i64 r0p)]] kk) = G_spec_someClimb r0b r0p (fun r0 r1 r2 r3 r4 => kk (.one (.agg [.v (.int .i64 r0), .v (.int .i64 r1), .v (.int .i64 r2)])) [.ptr [.ro .u8 r3, .v (.int .i64 r4)]]) := by kernel_rfl
theorem e_spec_someClimb (r0b : List Int) (r0p : Int) (kk : AV → List A1 → Prop) :
    ev TT cs_spec_someClimb 29 an_spec_someClimb (Try.f59.body.getD .skip) (st0 con_spec_someClimb [.ptr [.ro .u8 r0b, .v (.int .i64 r0p)]]) (fin TT con_spec_someClimb Try.f59.results.toList [.agg [.sc, .sc, .sc]] [.ptr [.ro .u8 r0b, .v (.int .i64 r0p)]] kk) = S_spec_someClimb r0b r0p (fun r0 r1 r2 r3 r4 => kk (.one (.agg [.v (.int .i64 r0), .v (.int .i64 r1), .v (.int .i64 r2)])) [.ptr [.ro .u8 r3, .v (.int .i64 r4)]]) := by
  rw [g_spec_someClimb]
  rfl
theorem clok_spec_someClimb : ConOK Try.prog cl_spec_someClimb := consCons h_spec_reader_one ⟨Try.f49, Try.func49, by kernel_rfl, ne_of_beq (by kernel_rfl)⟩ (consCons h_spec_reader_pick ⟨Try.f89, Try.func89, by kernel_rfl, ne_of_beq (by kernel_rfl)⟩ (consNil))
theorem cok_spec_someClimb : ConsOK Try.prog 29 cs_spec_someClimb := ⟨clok_spec_someClimb, inlNil, ovNil⟩
theorem i_spec_someClimb {vs : List A1} {kk : AV → List A1 → Prop} {motive : List A1 → Prop} (h : con_spec_someClimb.F vs kk) (H : ∀ (r0b : List Int) (r0p : Int), F_spec_someClimb r0b r0p (fun r0 r1 r2 r3 r4 => kk (.one (.agg [.v (.int .i64 r0), .v (.int .i64 r1), .v (.int .i64 r2)])) [.ptr [.ro .u8 r3, .v (.int .i64 r4)]]) → motive [.ptr [.ro .u8 r0b, .v (.int .i64 r0p)]]) : motive vs := by
  unfold con_spec_someClimb at h
  dsimp only at h
  split at h
  · exact H _ _ h
  · exact h.elim
theorem h_spec_someClimb : Holds Try.prog 59 con_spec_someClimb := by
  refine holds_of_ev (rt := [.agg [.sc, .sc, .sc]]) (T := TT) (Γ := cs_spec_someClimb) (an := an_spec_someClimb) (N := 29) (c := Try.f59.body.getD .skip) Try.func59 (by kernel_rfl) Try.ntmps59 (by decide) (by decide) mixed tabOK cok_spec_someClimb (by kernel_rfl) ?_
  intro vs kk _ hF
  exact i_spec_someClimb (motive := fun vs => Goes (ev TT cs_spec_someClimb 29 an_spec_someClimb (Try.f59.body.getD .skip) (st0 con_spec_someClimb vs) (fin TT con_spec_someClimb Try.f59.results.toList [.agg [.sc, .sc, .sc]] vs kk))) hF (fun r0b r0p hF => goes_of (e_spec_someClimb r0b r0p kk) (F_spec_someClimb_S hF))
def con_spec_DrawNextClimb : Con := ⟨[.rd], true, [.c (.sl .u8)], fun vs k => match vs with
    | [.c (.ro .u8 code0)] => F_spec_DrawNextClimb code0 (fun r0 r1 r2 r3 => k (.tup [.agg [.v (.int .i64 r0), .v (.int .i64 r1), .v (.int .i64 r2)], .c (.v (.int .i64 r3))]) [])
    | _ => False, false⟩
def cl_spec_DrawNextClimb : List (FuncId × Con) := [(46, con_spec_newReader), (49, con_spec_reader_one), (59, con_spec_someClimb)]
def an_spec_DrawNextClimb : Ann := ⟨[(3, .take 0 (.take 1 (.alt 2 (.alt 3 (.alt 4 (.take 5 (.done)) (.none)) (.none)) (.none))), [80])], [], [], []⟩
def cs_spec_DrawNextClimb : Cons := ⟨cl_spec_DrawNextClimb, [], 0, [], [], []⟩
def fin_spec_DrawNextClimb (code0 : List Int) (kk : AV → List A1 → Prop) : Kt := fin TT con_spec_DrawNextClimb Try.f20.results.toList [.agg [.sc, .sc, .sc], .c .sc] [.c (.ro .u8 code0)] kk
theorem g_spec_DrawNextClimb (code0 : List Int) (kk : AV → List A1 → Prop) :
    ev TT cs_spec_DrawNextClimb 14 an_spec_DrawNextClimb (Try.f20.body.getD .skip) (st0 con_spec_DrawNextClimb [.c (.ro .u8 code0)]) (fin TT con_spec_DrawNextClimb Try.f20.results.toList [.agg [.sc, .sc, .sc], .c .sc] [.c (.ro .u8 code0)] kk) = G_spec_DrawNextClimb code0 (fun r0 r1 r2 r3 => kk (.tup [.agg [.v (.int .i64 r0), .v (.int .i64 r1), .v (.int .i64 r2)], .c (.v (.int .i64 r3))]) []) := by kernel_rfl
theorem e_spec_DrawNextClimb (code0 : List Int) (kk : AV → List A1 → Prop) :
    ev TT cs_spec_DrawNextClimb 14 an_spec_DrawNextClimb (Try.f20.body.getD .skip) (st0 con_spec_DrawNextClimb [.c (.ro .u8 code0)]) (fin TT con_spec_DrawNextClimb Try.f20.results.toList [.agg [.sc, .sc, .sc], .c .sc] [.c (.ro .u8 code0)] kk) = S_spec_DrawNextClimb code0 (fun r0 r1 r2 r3 => kk (.tup [.agg [.v (.int .i64 r0), .v (.int .i64 r1), .v (.int .i64 r2)], .c (.v (.int .i64 r3))]) []) := by
  rw [g_spec_DrawNextClimb]
  rw [G_spec_DrawNextClimb_eq]
  rfl
theorem clok_spec_DrawNextClimb : ConOK Try.prog cl_spec_DrawNextClimb := consCons h_spec_newReader ⟨Try.f46, Try.func46, by kernel_rfl, ne_of_beq (by kernel_rfl)⟩ (consCons h_spec_reader_one ⟨Try.f49, Try.func49, by kernel_rfl, ne_of_beq (by kernel_rfl)⟩ (consCons h_spec_someClimb ⟨Try.f59, Try.func59, by kernel_rfl, ne_of_beq (by kernel_rfl)⟩ (consNil)))
theorem cok_spec_DrawNextClimb : ConsOK Try.prog 14 cs_spec_DrawNextClimb := ⟨clok_spec_DrawNextClimb, inlNil, ovNil⟩
theorem i_spec_DrawNextClimb {vs : List A1} {kk : AV → List A1 → Prop} {motive : List A1 → Prop} (h : con_spec_DrawNextClimb.F vs kk) (H : ∀ (code0 : List Int), F_spec_DrawNextClimb code0 (fun r0 r1 r2 r3 => kk (.tup [.agg [.v (.int .i64 r0), .v (.int .i64 r1), .v (.int .i64 r2)], .c (.v (.int .i64 r3))]) []) → motive [.c (.ro .u8 code0)]) : motive vs := by
  unfold con_spec_DrawNextClimb at h
  dsimp only at h
  split at h
  · exact H _ h
  · exact h.elim
theorem h_spec_DrawNextClimb : Holds Try.prog 20 con_spec_DrawNextClimb := by
  refine holds_of_ev (rt := [.agg [.sc, .sc, .sc], .c .sc]) (T := TT) (Γ := cs_spec_DrawNextClimb) (an := an_spec_DrawNextClimb) (N := 14) (c := Try.f20.body.getD .skip) Try.func20 (by kernel_rfl) Try.ntmps20 (by decide) (by decide) mixed tabOK cok_spec_DrawNextClimb (by kernel_rfl) ?_
  intro vs kk _ hF
  exact i_spec_DrawNextClimb (motive := fun vs => Goes (ev TT cs_spec_DrawNextClimb 14 an_spec_DrawNextClimb (Try.f20.body.getD .skip) (st0 con_spec_DrawNextClimb vs) (fin TT con_spec_DrawNextClimb Try.f20.results.toList [.agg [.sc, .sc, .sc], .c .sc] vs kk))) hF (fun code0 hF => goes_of (e_spec_DrawNextClimb code0 kk) (F_spec_DrawNextClimb_S hF))
def con_impl_validRatio : Con := ⟨[.rd], true, [.c (.sc)], fun vs k => match vs with
    | [.c (.v (.int .i64 ratio0))] => F_impl_validRatio ratio0 (fun r0 => k (.one (.c (.v (.bool r0)))) [])
    | _ => False, false⟩
def cl_impl_validRatio : List (FuncId × Con) := []
def an_impl_validRatio : Ann := ⟨[], [], [], []⟩
def cs_impl_validRatio : Cons := ⟨cl_impl_validRatio, [], 0, [], [], []⟩
def fin_impl_validRatio (ratio0 : Int) (kk : AV → List A1 → Prop) : Kt := fin TT con_impl_validRatio Try.f61.results.toList [.c .sc] [.c (.v (.int .i64 ratio0))] kk
theorem g_impl_validRatio (ratio0 : Int) (kk : AV → List A1 → Prop) :
    ev TT cs_impl_validRatio 9 an_impl_validRatio (Try.f61.body.getD .skip) (st0 con_impl_validRatio [.c (.v (.int .i64 ratio0))]) (fin TT con_impl_validRatio Try.f61.results.toList [.c .sc] [.c (.v (.int .i64 ratio0))] kk) = G_impl_validRatio ratio0 (fun r0 => kk (.one (.c (.v (.bool r0)))) []) := by kernel_rfl
theorem e_impl_validRatio (ratio0 : Int) (kk : AV → List A1 → Prop) :
    ev TT cs_impl_validRatio 9 an_impl_validRatio (Try.f61.body.getD .skip) (st0 con_impl_validRatio [.c (.v (.int .i64 ratio0))]) (fin TT con_impl_validRatio Try.f61.results.toList [.c .sc] [.c (.v (.int .i64 ratio0))] kk) = S_impl_validRatio ratio0 (fun r0 => kk (.one (.c (.v (.bool r0)))) []) := by
  rw [g_impl_validRatio]
  rfl
theorem clok_impl_validRatio : ConOK Try.prog cl_impl_validRatio := consNil
theorem cok_impl_validRatio : ConsOK Try.prog 9 cs_impl_validRatio := ⟨clok_impl_validRatio, inlNil, ovNil⟩
theorem i_impl_validRatio {vs : List A1} {kk : AV → List A1 → Prop} {motive : List A1 → Prop} (h : con_impl_validRatio.F vs kk) (H : ∀ (ratio0 : Int), F_impl_validRatio ratio0 (fun r0 => kk (.one (.c (.v (.bool r0)))) []) → motive [.c (.v (.int .i64 ratio0))]) : motive vs := by
  unfold con_impl_validRatio at h
  dsimp only at h
  split at h
  · exact H _ h
  · exact h.elim
theorem h_impl_validRatio : Holds Try.prog 61 con_impl_validRatio := by
  refine holds_of_ev (rt := [.c .sc]) (T := TT) (Γ := cs_impl_validRatio) (an := an_impl_validRatio) (N := 9) (c := Try.f61.body.getD .skip) Try.func61 (by kernel_rfl) Try.ntmps61 (by decide) (by decide) mixed tabOK cok_impl_validRatio (by kernel_rfl) ?_
  intro vs kk _ hF
  exact i_impl_validRatio (motive := fun vs => Goes (ev TT cs_impl_validRatio 9 an_impl_validRatio (Try.f61.body.getD .skip) (st0 con_impl_validRatio vs) (fin TT con_impl_validRatio Try.f61.results.toList [.c .sc] vs kk))) hF (fun ratio0 hF => goes_of (e_impl_validRatio ratio0 kk) (F_impl_validRatio_S hF))
def con_impl_ValidClimb : Con := ⟨[.rd], true, [.agg [.sc, .sc, .sc]], fun vs k => match vs with
    | [.agg [.v (.int .i64 c0At), .v (.int .i64 c0Step), .v (.int .i64 c0Ratio)]] => F_impl_ValidClimb c0At c0Step c0Ratio (fun r0 => k (.one (.c (.v (.bool r0)))) [])
    | _ => False, false⟩
def cl_impl_ValidClimb : List (FuncId × Con) := [(61, con_impl_validRatio)]
def an_impl_ValidClimb : Ann := ⟨[], [], [], []⟩
def cs_impl_ValidClimb : Cons := ⟨cl_impl_ValidClimb, [], 0, [], [], []⟩
def fin_impl_ValidClimb (c0At : Int) (c0Step : Int) (c0Ratio : Int) (kk : AV → List A1 → Prop) : Kt := fin TT con_impl_ValidClimb Try.f60.results.toList [.c .sc] [.agg [.v (.int .i64 c0At), .v (.int .i64 c0Step), .v (.int .i64 c0Ratio)]] kk
theorem g_impl_ValidClimb (c0At : Int) (c0Step : Int) (c0Ratio : Int) (kk : AV → List A1 → Prop) :
    ev TT cs_impl_ValidClimb 35 an_impl_ValidClimb (Try.f60.body.getD .skip) (st0 con_impl_ValidClimb [.agg [.v (.int .i64 c0At), .v (.int .i64 c0Step), .v (.int .i64 c0Ratio)]]) (fin TT con_impl_ValidClimb Try.f60.results.toList [.c .sc] [.agg [.v (.int .i64 c0At), .v (.int .i64 c0Step), .v (.int .i64 c0Ratio)]] kk) = G_impl_ValidClimb c0At c0Step c0Ratio (fun r0 => kk (.one (.c (.v (.bool r0)))) []) := by kernel_rfl
theorem e_impl_ValidClimb (c0At : Int) (c0Step : Int) (c0Ratio : Int) (kk : AV → List A1 → Prop) :
    ev TT cs_impl_ValidClimb 35 an_impl_ValidClimb (Try.f60.body.getD .skip) (st0 con_impl_ValidClimb [.agg [.v (.int .i64 c0At), .v (.int .i64 c0Step), .v (.int .i64 c0Ratio)]]) (fin TT con_impl_ValidClimb Try.f60.results.toList [.c .sc] [.agg [.v (.int .i64 c0At), .v (.int .i64 c0Step), .v (.int .i64 c0Ratio)]] kk) = S_impl_ValidClimb c0At c0Step c0Ratio (fun r0 => kk (.one (.c (.v (.bool r0)))) []) := by
  rw [g_impl_ValidClimb]
  rfl
theorem clok_impl_ValidClimb : ConOK Try.prog cl_impl_ValidClimb := consCons h_impl_validRatio ⟨Try.f61, Try.func61, by kernel_rfl, ne_of_beq (by kernel_rfl)⟩ (consNil)
theorem cok_impl_ValidClimb : ConsOK Try.prog 35 cs_impl_ValidClimb := ⟨clok_impl_ValidClimb, inlNil, ovNil⟩
theorem i_impl_ValidClimb {vs : List A1} {kk : AV → List A1 → Prop} {motive : List A1 → Prop} (h : con_impl_ValidClimb.F vs kk) (H : ∀ (c0At : Int) (c0Step : Int) (c0Ratio : Int), F_impl_ValidClimb c0At c0Step c0Ratio (fun r0 => kk (.one (.c (.v (.bool r0)))) []) → motive [.agg [.v (.int .i64 c0At), .v (.int .i64 c0Step), .v (.int .i64 c0Ratio)]]) : motive vs := by
  unfold con_impl_ValidClimb at h
  dsimp only at h
  split at h
  · exact H _ _ _ h
  · exact h.elim
theorem h_impl_ValidClimb : Holds Try.prog 60 con_impl_ValidClimb := by
  refine holds_of_ev (rt := [.c .sc]) (T := TT) (Γ := cs_impl_ValidClimb) (an := an_impl_ValidClimb) (N := 35) (c := Try.f60.body.getD .skip) Try.func60 (by kernel_rfl) Try.ntmps60 (by decide) (by decide) mixed tabOK cok_impl_ValidClimb (by kernel_rfl) ?_
  intro vs kk _ hF
  exact i_impl_ValidClimb (motive := fun vs => Goes (ev TT cs_impl_ValidClimb 35 an_impl_ValidClimb (Try.f60.body.getD .skip) (st0 con_impl_ValidClimb vs) (fin TT con_impl_ValidClimb Try.f60.results.toList [.c .sc] vs kk))) hF (fun c0At c0Step c0Ratio hF => goes_of (e_impl_ValidClimb c0At c0Step c0Ratio kk) (F_impl_ValidClimb_S hF))
def con_impl_turnedStep : Con := ⟨[.rd], true, [.c (.sc)], fun vs k => match vs with
    | [.c (.v (.int .i64 step0))] => F_impl_turnedStep step0 (fun r0 => k (.one (.c (.v (.int .i64 r0)))) [])
    | _ => False, false⟩
def cl_impl_turnedStep : List (FuncId × Con) := []
def an_impl_turnedStep : Ann := ⟨[], [], [], []⟩
def cs_impl_turnedStep : Cons := ⟨cl_impl_turnedStep, [], 0, [], [], []⟩
def fin_impl_turnedStep (step0 : Int) (kk : AV → List A1 → Prop) : Kt := fin TT con_impl_turnedStep Try.f62.results.toList [.c .sc] [.c (.v (.int .i64 step0))] kk
theorem g_impl_turnedStep (step0 : Int) (kk : AV → List A1 → Prop) :
    ev TT cs_impl_turnedStep 14 an_impl_turnedStep (Try.f62.body.getD .skip) (st0 con_impl_turnedStep [.c (.v (.int .i64 step0))]) (fin TT con_impl_turnedStep Try.f62.results.toList [.c .sc] [.c (.v (.int .i64 step0))] kk) = G_impl_turnedStep step0 (fun r0 => kk (.one (.c (.v (.int .i64 r0)))) []) := by kernel_rfl
theorem e_impl_turnedStep (step0 : Int) (kk : AV → List A1 → Prop) :
    ev TT cs_impl_turnedStep 14 an_impl_turnedStep (Try.f62.body.getD .skip) (st0 con_impl_turnedStep [.c (.v (.int .i64 step0))]) (fin TT con_impl_turnedStep Try.f62.results.toList [.c .sc] [.c (.v (.int .i64 step0))] kk) = S_impl_turnedStep step0 (fun r0 => kk (.one (.c (.v (.int .i64 r0)))) []) := by
  rw [g_impl_turnedStep]
  rfl
theorem clok_impl_turnedStep : ConOK Try.prog cl_impl_turnedStep := consNil
theorem cok_impl_turnedStep : ConsOK Try.prog 14 cs_impl_turnedStep := ⟨clok_impl_turnedStep, inlNil, ovNil⟩
theorem i_impl_turnedStep {vs : List A1} {kk : AV → List A1 → Prop} {motive : List A1 → Prop} (h : con_impl_turnedStep.F vs kk) (H : ∀ (step0 : Int), F_impl_turnedStep step0 (fun r0 => kk (.one (.c (.v (.int .i64 r0)))) []) → motive [.c (.v (.int .i64 step0))]) : motive vs := by
  unfold con_impl_turnedStep at h
  dsimp only at h
  split at h
  · exact H _ h
  · exact h.elim
theorem h_impl_turnedStep : Holds Try.prog 62 con_impl_turnedStep := by
  refine holds_of_ev (rt := [.c .sc]) (T := TT) (Γ := cs_impl_turnedStep) (an := an_impl_turnedStep) (N := 14) (c := Try.f62.body.getD .skip) Try.func62 (by kernel_rfl) Try.ntmps62 (by decide) (by decide) mixed tabOK cok_impl_turnedStep (by kernel_rfl) ?_
  intro vs kk _ hF
  exact i_impl_turnedStep (motive := fun vs => Goes (ev TT cs_impl_turnedStep 14 an_impl_turnedStep (Try.f62.body.getD .skip) (st0 con_impl_turnedStep vs) (fin TT con_impl_turnedStep Try.f62.results.toList [.c .sc] vs kk))) hF (fun step0 hF => goes_of (e_impl_turnedStep step0 kk) (F_impl_turnedStep_S hF))
def con_impl_NextClimb : Con := ⟨[.rd, .rd], true, [.agg [.sc, .sc, .sc], .c (.sc)], fun vs k => match vs with
    | [.agg [.v (.int .i64 c0At), .v (.int .i64 c0Step), .v (.int .i64 c0Ratio)], .c (.v (.int .i64 ratio1))] => F_impl_NextClimb c0At c0Step c0Ratio ratio1 (fun r0 r1 r2 r3 => k (.tup [.agg [.v (.int .i64 r0), .v (.int .i64 r1), .v (.int .i64 r2)], .c (.v (.bool r3))]) [])
    | _ => False, false⟩
def cl_impl_NextClimb : List (FuncId × Con) := [(60, con_impl_ValidClimb), (61, con_impl_validRatio), (62, con_impl_turnedStep)]
def an_impl_NextClimb : Ann := ⟨[], [], [], []⟩
def cs_impl_NextClimb : Cons := ⟨cl_impl_NextClimb, [], 0, [], [], []⟩
def fin_impl_NextClimb (c0At : Int) (c0Step : Int) (c0Ratio : Int) (ratio1 : Int) (kk : AV → List A1 → Prop) : Kt := fin TT con_impl_NextClimb Try.f21.results.toList [.agg [.sc, .sc, .sc], .c .sc] [.agg [.v (.int .i64 c0At), .v (.int .i64 c0Step), .v (.int .i64 c0Ratio)], .c (.v (.int .i64 ratio1))] kk
theorem g_impl_NextClimb (c0At : Int) (c0Step : Int) (c0Ratio : Int) (ratio1 : Int) (kk : AV → List A1 → Prop) :
    ev TT cs_impl_NextClimb 34 an_impl_NextClimb (Try.f21.body.getD .skip) (st0 con_impl_NextClimb [.agg [.v (.int .i64 c0At), .v (.int .i64 c0Step), .v (.int .i64 c0Ratio)], .c (.v (.int .i64 ratio1))]) (fin TT con_impl_NextClimb Try.f21.results.toList [.agg [.sc, .sc, .sc], .c .sc] [.agg [.v (.int .i64 c0At), .v (.int .i64 c0Step), .v (.int .i64 c0Ratio)], .c (.v (.int .i64 ratio1))] kk) = G_impl_NextClimb c0At c0Step c0Ratio ratio1 (fun r0 r1 r2 r3 => kk (.tup [.agg [.v (.int .i64 r0), .v (.int .i64 r1), .v (.int .i64 r2)], .c (.v (.bool r3))]) []) := by kernel_rfl
theorem e_impl_NextClimb (c0At : Int) (c0Step : Int) (c0Ratio : Int) (ratio1 : Int) (kk : AV → List A1 → Prop) :
    ev TT cs_impl_NextClimb 34 an_impl_NextClimb (Try.f21.body.getD .skip) (st0 con_impl_NextClimb [.agg [.v (.int .i64 c0At), .v (.int .i64 c0Step), .v (.int .i64 c0Ratio)], .c (.v (.int .i64 ratio1))]) (fin TT con_impl_NextClimb Try.f21.results.toList [.agg [.sc, .sc, .sc], .c .sc] [.agg [.v (.int .i64 c0At), .v (.int .i64 c0Step), .v (.int .i64 c0Ratio)], .c (.v (.int .i64 ratio1))] kk) = S_impl_NextClimb c0At c0Step c0Ratio ratio1 (fun r0 r1 r2 r3 => kk (.tup [.agg [.v (.int .i64 r0), .v (.int .i64 r1), .v (.int .i64 r2)], .c (.v (.bool r3))]) []) := by
  rw [g_impl_NextClimb]
  rfl
theorem clok_impl_NextClimb : ConOK Try.prog cl_impl_NextClimb := consCons h_impl_ValidClimb ⟨Try.f60, Try.func60, by kernel_rfl, ne_of_beq (by kernel_rfl)⟩ (consCons h_impl_validRatio ⟨Try.f61, Try.func61, by kernel_rfl, ne_of_beq (by kernel_rfl)⟩ (consCons h_impl_turnedStep ⟨Try.f62, Try.func62, by kernel_rfl, ne_of_beq (by kernel_rfl)⟩ (consNil)))
theorem cok_impl_NextClimb : ConsOK Try.prog 34 cs_impl_NextClimb := ⟨clok_impl_NextClimb, inlNil, ovNil⟩
theorem i_impl_NextClimb {vs : List A1} {kk : AV → List A1 → Prop} {motive : List A1 → Prop} (h : con_impl_NextClimb.F vs kk) (H : ∀ (c0At : Int) (c0Step : Int) (c0Ratio : Int) (ratio1 : Int), F_impl_NextClimb c0At c0Step c0Ratio ratio1 (fun r0 r1 r2 r3 => kk (.tup [.agg [.v (.int .i64 r0), .v (.int .i64 r1), .v (.int .i64 r2)], .c (.v (.bool r3))]) []) → motive [.agg [.v (.int .i64 c0At), .v (.int .i64 c0Step), .v (.int .i64 c0Ratio)], .c (.v (.int .i64 ratio1))]) : motive vs := by
  unfold con_impl_NextClimb at h
  dsimp only at h
  split at h
  · exact H _ _ _ _ h
  · exact h.elim
theorem h_impl_NextClimb : Holds Try.prog 21 con_impl_NextClimb := by
  refine holds_of_ev (rt := [.agg [.sc, .sc, .sc], .c .sc]) (T := TT) (Γ := cs_impl_NextClimb) (an := an_impl_NextClimb) (N := 34) (c := Try.f21.body.getD .skip) Try.func21 (by kernel_rfl) Try.ntmps21 (by decide) (by decide) mixed tabOK cok_impl_NextClimb (by kernel_rfl) ?_
  intro vs kk _ hF
  exact i_impl_NextClimb (motive := fun vs => Goes (ev TT cs_impl_NextClimb 34 an_impl_NextClimb (Try.f21.body.getD .skip) (st0 con_impl_NextClimb vs) (fin TT con_impl_NextClimb Try.f21.results.toList [.agg [.sc, .sc, .sc], .c .sc] vs kk))) hF (fun c0At c0Step c0Ratio ratio1 hF => goes_of (e_impl_NextClimb c0At c0Step c0Ratio ratio1 kk) (F_impl_NextClimb_S hF))
def con_spec_inRange : Con := ⟨[.rd, .rd, .rd], true, [.c (.sc), .c (.sc), .c (.sc)], fun vs k => match vs with
    | [.c (.v (.int .i64 n0)), .c (.v (.int .i64 low1)), .c (.v (.int .i64 high2))] => F_spec_inRange n0 low1 high2 (fun r0 => k (.one (.c (.v (.bool r0)))) [])
    | _ => False, false⟩
def cl_spec_inRange : List (FuncId × Con) := []
def an_spec_inRange : Ann := ⟨[], [], [], []⟩
def cs_spec_inRange : Cons := ⟨cl_spec_inRange, [], 0, [], [], []⟩
def fin_spec_inRange (n0 : Int) (low1 : Int) (high2 : Int) (kk : AV → List A1 → Prop) : Kt := fin TT con_spec_inRange Try.f54.results.toList [.c .sc] [.c (.v (.int .i64 n0)), .c (.v (.int .i64 low1)), .c (.v (.int .i64 high2))] kk
theorem g_spec_inRange (n0 : Int) (low1 : Int) (high2 : Int) (kk : AV → List A1 → Prop) :
    ev TT cs_spec_inRange 15 an_spec_inRange (Try.f54.body.getD .skip) (st0 con_spec_inRange [.c (.v (.int .i64 n0)), .c (.v (.int .i64 low1)), .c (.v (.int .i64 high2))]) (fin TT con_spec_inRange Try.f54.results.toList [.c .sc] [.c (.v (.int .i64 n0)), .c (.v (.int .i64 low1)), .c (.v (.int .i64 high2))] kk) = G_spec_inRange n0 low1 high2 (fun r0 => kk (.one (.c (.v (.bool r0)))) []) := by kernel_rfl
theorem e_spec_inRange (n0 : Int) (low1 : Int) (high2 : Int) (kk : AV → List A1 → Prop) :
    ev TT cs_spec_inRange 15 an_spec_inRange (Try.f54.body.getD .skip) (st0 con_spec_inRange [.c (.v (.int .i64 n0)), .c (.v (.int .i64 low1)), .c (.v (.int .i64 high2))]) (fin TT con_spec_inRange Try.f54.results.toList [.c .sc] [.c (.v (.int .i64 n0)), .c (.v (.int .i64 low1)), .c (.v (.int .i64 high2))] kk) = S_spec_inRange n0 low1 high2 (fun r0 => kk (.one (.c (.v (.bool r0)))) []) := by
  rw [g_spec_inRange]
  rfl
theorem clok_spec_inRange : ConOK Try.prog cl_spec_inRange := consNil
theorem cok_spec_inRange : ConsOK Try.prog 15 cs_spec_inRange := ⟨clok_spec_inRange, inlNil, ovNil⟩
theorem i_spec_inRange {vs : List A1} {kk : AV → List A1 → Prop} {motive : List A1 → Prop} (h : con_spec_inRange.F vs kk) (H : ∀ (n0 : Int) (low1 : Int) (high2 : Int), F_spec_inRange n0 low1 high2 (fun r0 => kk (.one (.c (.v (.bool r0)))) []) → motive [.c (.v (.int .i64 n0)), .c (.v (.int .i64 low1)), .c (.v (.int .i64 high2))]) : motive vs := by
  unfold con_spec_inRange at h
  dsimp only at h
  split at h
  · exact H _ _ _ h
  · exact h.elim
theorem h_spec_inRange : Holds Try.prog 54 con_spec_inRange := by
  refine holds_of_ev (rt := [.c .sc]) (T := TT) (Γ := cs_spec_inRange) (an := an_spec_inRange) (N := 15) (c := Try.f54.body.getD .skip) Try.func54 (by kernel_rfl) Try.ntmps54 (by decide) (by decide) mixed tabOK cok_spec_inRange (by kernel_rfl) ?_
  intro vs kk _ hF
  exact i_spec_inRange (motive := fun vs => Goes (ev TT cs_spec_inRange 15 an_spec_inRange (Try.f54.body.getD .skip) (st0 con_spec_inRange vs) (fin TT con_spec_inRange Try.f54.results.toList [.c .sc] vs kk))) hF (fun n0 low1 high2 hF => goes_of (e_spec_inRange n0 low1 high2 kk) (F_spec_inRange_S hF))
def con_spec_validClimb : Con := ⟨[.rd], true, [.agg [.sc, .sc, .sc]], fun vs k => match vs with
    | [.agg [.v (.int .i64 c0At), .v (.int .i64 c0Step), .v (.int .i64 c0Ratio)]] => F_spec_validClimb c0At c0Step c0Ratio (fun r0 => k (.one (.c (.v (.bool r0)))) [])
    | _ => False, false⟩
def cl_spec_validClimb : List (FuncId × Con) := [(54, con_spec_inRange)]
def an_spec_validClimb : Ann := ⟨[], [], [], []⟩
def cs_spec_validClimb : Cons := ⟨cl_spec_validClimb, [], 0, [], [], []⟩
def fin_spec_validClimb (c0At : Int) (c0Step : Int) (c0Ratio : Int) (kk : AV → List A1 → Prop) : Kt := fin TT con_spec_validClimb Try.f63.results.toList [.c .sc] [.agg [.v (.int .i64 c0At), .v (.int .i64 c0Step), .v (.int .i64 c0Ratio)]] kk
theorem g_spec_validClimb (c0At : Int) (c0Step : Int) (c0Ratio : Int) (kk : AV → List A1 → Prop) :
    ev TT cs_spec_validClimb 21 an_spec_validClimb (Try.f63.body.getD .skip) (st0 con_spec_validClimb [.agg [.v (.int .i64 c0At), .v (.int .i64 c0Step), .v (.int .i64 c0Ratio)]]) (fin TT con_spec_validClimb Try.f63.results.toList [.c .sc] [.agg [.v (.int .i64 c0At), .v (.int .i64 c0Step), .v (.int .i64 c0Ratio)]] kk) = G_spec_validClimb c0At c0Step c0Ratio (fun r0 => kk (.one (.c (.v (.bool r0)))) []) := by kernel_rfl
theorem e_spec_validClimb (c0At : Int) (c0Step : Int) (c0Ratio : Int) (kk : AV → List A1 → Prop) :
    ev TT cs_spec_validClimb 21 an_spec_validClimb (Try.f63.body.getD .skip) (st0 con_spec_validClimb [.agg [.v (.int .i64 c0At), .v (.int .i64 c0Step), .v (.int .i64 c0Ratio)]]) (fin TT con_spec_validClimb Try.f63.results.toList [.c .sc] [.agg [.v (.int .i64 c0At), .v (.int .i64 c0Step), .v (.int .i64 c0Ratio)]] kk) = S_spec_validClimb c0At c0Step c0Ratio (fun r0 => kk (.one (.c (.v (.bool r0)))) []) := by
  rw [g_spec_validClimb]
  rfl
theorem clok_spec_validClimb : ConOK Try.prog cl_spec_validClimb := consCons h_spec_inRange ⟨Try.f54, Try.func54, by kernel_rfl, ne_of_beq (by kernel_rfl)⟩ (consNil)
theorem cok_spec_validClimb : ConsOK Try.prog 21 cs_spec_validClimb := ⟨clok_spec_validClimb, inlNil, ovNil⟩
theorem i_spec_validClimb {vs : List A1} {kk : AV → List A1 → Prop} {motive : List A1 → Prop} (h : con_spec_validClimb.F vs kk) (H : ∀ (c0At : Int) (c0Step : Int) (c0Ratio : Int), F_spec_validClimb c0At c0Step c0Ratio (fun r0 => kk (.one (.c (.v (.bool r0)))) []) → motive [.agg [.v (.int .i64 c0At), .v (.int .i64 c0Step), .v (.int .i64 c0Ratio)]]) : motive vs := by
  unfold con_spec_validClimb at h
  dsimp only at h
  split at h
  · exact H _ _ _ h
  · exact h.elim
theorem h_spec_validClimb : Holds Try.prog 63 con_spec_validClimb := by
  refine holds_of_ev (rt := [.c .sc]) (T := TT) (Γ := cs_spec_validClimb) (an := an_spec_validClimb) (N := 21) (c := Try.f63.body.getD .skip) Try.func63 (by kernel_rfl) Try.ntmps63 (by decide) (by decide) mixed tabOK cok_spec_validClimb (by kernel_rfl) ?_
  intro vs kk _ hF
  exact i_spec_validClimb (motive := fun vs => Goes (ev TT cs_spec_validClimb 21 an_spec_validClimb (Try.f63.body.getD .skip) (st0 con_spec_validClimb vs) (fin TT con_spec_validClimb Try.f63.results.toList [.c .sc] vs kk))) hF (fun c0At c0Step c0Ratio hF => goes_of (e_spec_validClimb c0At c0Step c0Ratio kk) (F_spec_validClimb_S hF))
def con_spec_NextClimb : Con := ⟨[.rd, .rd], true, [.agg [.sc, .sc, .sc], .c (.sc)], fun vs k => match vs with
    | [.agg [.v (.int .i64 c0At), .v (.int .i64 c0Step), .v (.int .i64 c0Ratio)], .c (.v (.int .i64 ratio1))] => F_spec_NextClimb c0At c0Step c0Ratio ratio1 (fun r0 r1 r2 r3 => k (.tup [.agg [.v (.int .i64 r0), .v (.int .i64 r1), .v (.int .i64 r2)], .c (.v (.bool r3))]) [])
    | _ => False, false⟩
def cl_spec_NextClimb : List (FuncId × Con) := [(54, con_spec_inRange), (63, con_spec_validClimb)]
def an_spec_NextClimb : Ann := ⟨[], [], [], []⟩
def cs_spec_NextClimb : Cons := ⟨cl_spec_NextClimb, [], 0, [], [], []⟩
def fin_spec_NextClimb (c0At : Int) (c0Step : Int) (c0Ratio : Int) (ratio1 : Int) (kk : AV → List A1 → Prop) : Kt := fin TT con_spec_NextClimb Try.f22.results.toList [.agg [.sc, .sc, .sc], .c .sc] [.agg [.v (.int .i64 c0At), .v (.int .i64 c0Step), .v (.int .i64 c0Ratio)], .c (.v (.int .i64 ratio1))] kk
theorem g_spec_NextClimb (c0At : Int) (c0Step : Int) (c0Ratio : Int) (ratio1 : Int) (kk : AV → List A1 → Prop) :
    ev TT cs_spec_NextClimb 43 an_spec_NextClimb (Try.f22.body.getD .skip) (st0 con_spec_NextClimb [.agg [.v (.int .i64 c0At), .v (.int .i64 c0Step), .v (.int .i64 c0Ratio)], .c (.v (.int .i64 ratio1))]) (fin TT con_spec_NextClimb Try.f22.results.toList [.agg [.sc, .sc, .sc], .c .sc] [.agg [.v (.int .i64 c0At), .v (.int .i64 c0Step), .v (.int .i64 c0Ratio)], .c (.v (.int .i64 ratio1))] kk) = G_spec_NextClimb c0At c0Step c0Ratio ratio1 (fun r0 r1 r2 r3 => kk (.tup [.agg [.v (.int .i64 r0), .v (.int .i64 r1), .v (.int .i64 r2)], .c (.v (.bool r3))]) []) := by kernel_rfl
theorem e_spec_NextClimb (c0At : Int) (c0Step : Int) (c0Ratio : Int) (ratio1 : Int) (kk : AV → List A1 → Prop) :
    ev TT cs_spec_NextClimb 43 an_spec_NextClimb (Try.f22.body.getD .skip) (st0 con_spec_NextClimb [.agg [.v (.int .i64 c0At), .v (.int .i64 c0Step), .v (.int .i64 c0Ratio)], .c (.v (.int .i64 ratio1))]) (fin TT con_spec_NextClimb Try.f22.results.toList [.agg [.sc, .sc, .sc], .c .sc] [.agg [.v (.int .i64 c0At), .v (.int .i64 c0Step), .v (.int .i64 c0Ratio)], .c (.v (.int .i64 ratio1))] kk) = S_spec_NextClimb c0At c0Step c0Ratio ratio1 (fun r0 r1 r2 r3 => kk (.tup [.agg [.v (.int .i64 r0), .v (.int .i64 r1), .v (.int .i64 r2)], .c (.v (.bool r3))]) []) := by
  rw [g_spec_NextClimb]
  rfl
theorem clok_spec_NextClimb : ConOK Try.prog cl_spec_NextClimb := consCons h_spec_inRange ⟨Try.f54, Try.func54, by kernel_rfl, ne_of_beq (by kernel_rfl)⟩ (consCons h_spec_validClimb ⟨Try.f63, Try.func63, by kernel_rfl, ne_of_beq (by kernel_rfl)⟩ (consNil))
theorem cok_spec_NextClimb : ConsOK Try.prog 43 cs_spec_NextClimb := ⟨clok_spec_NextClimb, inlNil, ovNil⟩
theorem i_spec_NextClimb {vs : List A1} {kk : AV → List A1 → Prop} {motive : List A1 → Prop} (h : con_spec_NextClimb.F vs kk) (H : ∀ (c0At : Int) (c0Step : Int) (c0Ratio : Int) (ratio1 : Int), F_spec_NextClimb c0At c0Step c0Ratio ratio1 (fun r0 r1 r2 r3 => kk (.tup [.agg [.v (.int .i64 r0), .v (.int .i64 r1), .v (.int .i64 r2)], .c (.v (.bool r3))]) []) → motive [.agg [.v (.int .i64 c0At), .v (.int .i64 c0Step), .v (.int .i64 c0Ratio)], .c (.v (.int .i64 ratio1))]) : motive vs := by
  unfold con_spec_NextClimb at h
  dsimp only at h
  split at h
  · exact H _ _ _ _ h
  · exact h.elim
theorem h_spec_NextClimb : Holds Try.prog 22 con_spec_NextClimb := by
  refine holds_of_ev (rt := [.agg [.sc, .sc, .sc], .c .sc]) (T := TT) (Γ := cs_spec_NextClimb) (an := an_spec_NextClimb) (N := 43) (c := Try.f22.body.getD .skip) Try.func22 (by kernel_rfl) Try.ntmps22 (by decide) (by decide) mixed tabOK cok_spec_NextClimb (by kernel_rfl) ?_
  intro vs kk _ hF
  exact i_spec_NextClimb (motive := fun vs => Goes (ev TT cs_spec_NextClimb 43 an_spec_NextClimb (Try.f22.body.getD .skip) (st0 con_spec_NextClimb vs) (fin TT con_spec_NextClimb Try.f22.results.toList [.agg [.sc, .sc, .sc], .c .sc] vs kk))) hF (fun c0At c0Step c0Ratio ratio1 hF => goes_of (e_spec_NextClimb c0At c0Step c0Ratio ratio1 kk) (F_spec_NextClimb_S hF))
def con_laws_FnNextClimbSteps : Con := ⟨[.rd], true, [.c (.sl .u8)], fun vs k => match vs with
    | [.c (.ro .u8 code0)] => F_laws_FnNextClimbSteps code0 (fun r0 => k (.one (.c (.v (.bool r0)))) [])
    | _ => False, false⟩
def cl_laws_FnNextClimbSteps : List (FuncId × Con) := [(20, con_spec_DrawNextClimb), (21, con_impl_NextClimb), (22, con_spec_NextClimb)]
def nm0_laws_FnNextClimbSteps : List NStep := [.keep [9, 10] [144]]
def an_laws_FnNextClimbSteps : Ann := ⟨[], [(11, nm0_laws_FnNextClimbSteps)], [], []⟩
def cs_laws_FnNextClimbSteps : Cons := ⟨cl_laws_FnNextClimbSteps, [], 0, [], [], []⟩
def can0_laws_FnNextClimbSteps (xi10 : Int) (xb9c0 : Int) (xb9c1 : Int) (xb9c2 : Int) : St := ⟨[(9, .one (.c (.pb 144 0))), (10, .one (.c (.v (.int .i64 xi10))))], [(144, .box [.v (.int .i64 xb9c0), .v (.int .i64 xb9c1), .v (.int .i64 xb9c2)])]⟩
def fin_laws_FnNextClimbSteps (code0 : List Int) (kk : AV → List A1 → Prop) : Kt := fin TT con_laws_FnNextClimbSteps Try.f4.results.toList [.c .sc] [.c (.ro .u8 code0)] kk
def kt0_laws_FnNextClimbSteps (kf : Kt) : Kt := blockK 0 (seqK (evF TT cs_laws_FnNextClimbSteps 78 an_laws_FnNextClimbSteps Try.f4 [1, 1, 1, 1, 1, 1, 1, 1, 1]) (kf))
theorem r0_laws_FnNextClimbSteps (code0 : List Int) (kk : AV → List A1 → Prop) (n : Nat) (xi10 : Int) (xb9c0 : Int) (xb9c1 : Int) (xb9c2 : Int) :
    iter (evF TT cs_laws_FnNextClimbSteps 78 an_laws_FnNextClimbSteps Try.f4 [1, 1, 1, 1, 1, 1, 1, 1, 0, 1, 0, 0]) nm0_laws_FnNextClimbSteps (kt0_laws_FnNextClimbSteps (fin_laws_FnNextClimbSteps code0 kk)) (n + 1) (can0_laws_FnNextClimbSteps xi10 xb9c0 xb9c1 xb9c2) = T0_laws_FnNextClimbSteps xi10 xb9c0 xb9c1 xb9c2 (fun r0 => kk (.one (.c (.v (.bool r0)))) []) (fun xi10 xb9c0 xb9c1 xb9c2 => iter (evF TT cs_laws_FnNextClimbSteps 78 an_laws_FnNextClimbSteps Try.f4 [1, 1, 1, 1, 1, 1, 1, 1, 0, 1, 0, 0]) nm0_laws_FnNextClimbSteps (kt0_laws_FnNextClimbSteps (fin_laws_FnNextClimbSteps code0 kk)) n (can0_laws_FnNextClimbSteps xi10 xb9c0 xb9c1 xb9c2)) := by kernel_rfl
theorem l0_laws_FnNextClimbSteps (code0 : List Int) (kk : AV → List A1 → Prop) : ∀ (n : Nat) (xi10 : Int) (xb9c0 : Int) (xb9c1 : Int) (xb9c2 : Int), iter (evF TT cs_laws_FnNextClimbSteps 78 an_laws_FnNextClimbSteps Try.f4 [1, 1, 1, 1, 1, 1, 1, 1, 0, 1, 0, 0]) nm0_laws_FnNextClimbSteps (kt0_laws_FnNextClimbSteps (fin_laws_FnNextClimbSteps code0 kk)) n (can0_laws_FnNextClimbSteps xi10 xb9c0 xb9c1 xb9c2) = L0_laws_FnNextClimbSteps (fun r0 => kk (.one (.c (.v (.bool r0)))) []) n xi10 xb9c0 xb9c1 xb9c2 := by
  intro n
  induction n with
  | zero => intros; rfl
  | succ n ih =>
    intro xi10 xb9c0 xb9c1 xb9c2
    rw [r0_laws_FnNextClimbSteps code0 kk n xi10 xb9c0 xb9c1 xb9c2]
    have hb : (fun xi10 xb9c0 xb9c1 xb9c2 => iter (evF TT cs_laws_FnNextClimbSteps 78 an_laws_FnNextClimbSteps Try.f4 [1, 1, 1, 1, 1, 1, 1, 1, 0, 1, 0, 0]) nm0_laws_FnNextClimbSteps (kt0_laws_FnNextClimbSteps (fin_laws_FnNextClimbSteps code0 kk)) n (can0_laws_FnNextClimbSteps xi10 xb9c0 xb9c1 xb9c2)) = L0_laws_FnNextClimbSteps (fun r0 => kk (.one (.c (.v (.bool r0)))) []) n := by
      funext xi10 xb9c0 xb9c1 xb9c2; exact ih xi10 xb9c0 xb9c1 xb9c2
    rw [hb]
    rfl
theorem g_laws_FnNextClimbSteps (code0 : List Int) (kk : AV → List A1 → Prop) :
    ev TT cs_laws_FnNextClimbSteps 78 an_laws_FnNextClimbSteps (Try.f4.body.getD .skip) (st0 con_laws_FnNextClimbSteps [.c (.ro .u8 code0)]) (fin TT con_laws_FnNextClimbSteps Try.f4.results.toList [.c .sc] [.c (.ro .u8 code0)] kk) = G_laws_FnNextClimbSteps code0 (fun r0 => kk (.one (.c (.v (.bool r0)))) []) (fun xi10 xb9c0 xb9c1 xb9c2 => ∃ j, iter (evF TT cs_laws_FnNextClimbSteps 78 an_laws_FnNextClimbSteps Try.f4 [1, 1, 1, 1, 1, 1, 1, 1, 0, 1, 0, 0]) nm0_laws_FnNextClimbSteps (kt0_laws_FnNextClimbSteps (fin_laws_FnNextClimbSteps code0 kk)) j (can0_laws_FnNextClimbSteps xi10 xb9c0 xb9c1 xb9c2)) := by kernel_rfl
theorem e_laws_FnNextClimbSteps (code0 : List Int) (kk : AV → List A1 → Prop) :
    ev TT cs_laws_FnNextClimbSteps 78 an_laws_FnNextClimbSteps (Try.f4.body.getD .skip) (st0 con_laws_FnNextClimbSteps [.c (.ro .u8 code0)]) (fin TT con_laws_FnNextClimbSteps Try.f4.results.toList [.c .sc] [.c (.ro .u8 code0)] kk) = S_laws_FnNextClimbSteps code0 (fun r0 => kk (.one (.c (.v (.bool r0)))) []) := by
  rw [g_laws_FnNextClimbSteps]
  have hi0 : (fun xi10 xb9c0 xb9c1 xb9c2 => ∃ j, iter (evF TT cs_laws_FnNextClimbSteps 78 an_laws_FnNextClimbSteps Try.f4 [1, 1, 1, 1, 1, 1, 1, 1, 0, 1, 0, 0]) nm0_laws_FnNextClimbSteps (kt0_laws_FnNextClimbSteps (fin_laws_FnNextClimbSteps code0 kk)) j (can0_laws_FnNextClimbSteps xi10 xb9c0 xb9c1 xb9c2)) = (fun xi10 xb9c0 xb9c1 xb9c2 => ∃ j, L0_laws_FnNextClimbSteps (fun r0 => kk (.one (.c (.v (.bool r0)))) []) j xi10 xb9c0 xb9c1 xb9c2) := by
    funext xi10 xb9c0 xb9c1 xb9c2
    refine congrArg Exists (funext fun j => ?_)
    rw [l0_laws_FnNextClimbSteps code0 kk j xi10 xb9c0 xb9c1 xb9c2]
  rw [hi0]
  rfl
theorem clok_laws_FnNextClimbSteps : ConOK Try.prog cl_laws_FnNextClimbSteps := consCons h_spec_DrawNextClimb ⟨Try.f20, Try.func20, by kernel_rfl, ne_of_beq (by kernel_rfl)⟩ (consCons h_impl_NextClimb ⟨Try.f21, Try.func21, by kernel_rfl, ne_of_beq (by kernel_rfl)⟩ (consCons h_spec_NextClimb ⟨Try.f22, Try.func22, by kernel_rfl, ne_of_beq (by kernel_rfl)⟩ (consNil)))
theorem cok_laws_FnNextClimbSteps : ConsOK Try.prog 78 cs_laws_FnNextClimbSteps := ⟨clok_laws_FnNextClimbSteps, inlNil, ovNil⟩
theorem i_laws_FnNextClimbSteps {vs : List A1} {kk : AV → List A1 → Prop} {motive : List A1 → Prop} (h : con_laws_FnNextClimbSteps.F vs kk) (H : ∀ (code0 : List Int), F_laws_FnNextClimbSteps code0 (fun r0 => kk (.one (.c (.v (.bool r0)))) []) → motive [.c (.ro .u8 code0)]) : motive vs := by
  unfold con_laws_FnNextClimbSteps at h
  dsimp only at h
  split at h
  · exact H _ h
  · exact h.elim
theorem h_laws_FnNextClimbSteps : Holds Try.prog 4 con_laws_FnNextClimbSteps := by
  refine holds_of_ev (rt := [.c .sc]) (T := TT) (Γ := cs_laws_FnNextClimbSteps) (an := an_laws_FnNextClimbSteps) (N := 78) (c := Try.f4.body.getD .skip) Try.func4 (by kernel_rfl) Try.ntmps4 (by decide) (by decide) mixed tabOK cok_laws_FnNextClimbSteps (by kernel_rfl) ?_
  intro vs kk _ hF
  exact i_laws_FnNextClimbSteps (motive := fun vs => Goes (ev TT cs_laws_FnNextClimbSteps 78 an_laws_FnNextClimbSteps (Try.f4.body.getD .skip) (st0 con_laws_FnNextClimbSteps vs) (fin TT con_laws_FnNextClimbSteps Try.f4.results.toList [.c .sc] vs kk))) hF (fun code0 hF => goes_of (e_laws_FnNextClimbSteps code0 kk) (F_laws_FnNextClimbSteps_S hF))
end Go.Ev
