/- What the evaluator gives for these functions: their contracts. No statement is proved here. -/
import Derived.Test.YtacohagnclnkdabFnValidClimbP0
import Derived.Test.YtacohagnclnkdabTt
namespace Go.Ev
set_option linter.unusedVariables false
set_option linter.unusedSimpArgs false
set_option maxRecDepth 100000
open Go Go.Proofs
def con_spec_newReader : Con := ⟨[.rd], true, [.c (.sl .u8)], fun vs k => match vs with
    | [.c (.ro .u8 code0)] => F_spec_newReader code0 (fun r0 r1 => k (.one (.agg [.ro .u8 r0, .v (.int .i64 r1)])) [])
    | _ => False, true⟩
def cl_spec_newReader : List (FuncId × Con) := []
def an_spec_newReader : Ann := ⟨[], [], [], []⟩
def cs_spec_newReader : Cons := ⟨cl_spec_newReader, [], 0, [], [], []⟩
def fin_spec_newReader (code0 : List Int) (kk : AV → List A1 → Prop) : Kt := finB Try.f37.results.toList [.sl .u8, .sc] kk
theorem g_spec_newReader (code0 : List Int) (kk : AV → List A1 → Prop) :
    ev TT cs_spec_newReader 11 an_spec_newReader (Try.f37.body.getD .skip) (st0 con_spec_newReader [.c (.ro .u8 code0)]) (finB Try.f37.results.toList [.sl .u8, .sc] kk) = G_spec_newReader code0 (fun r0 r1 => kk (.one (.agg [.ro .u8 r0, .v (.int .i64 r1)])) []) := by kernel_rfl
theorem e_spec_newReader (code0 : List Int) (kk : AV → List A1 → Prop) :
    ev TT cs_spec_newReader 11 an_spec_newReader (Try.f37.body.getD .skip) (st0 con_spec_newReader [.c (.ro .u8 code0)]) (finB Try.f37.results.toList [.sl .u8, .sc] kk) = S_spec_newReader code0 (fun r0 r1 => kk (.one (.agg [.ro .u8 r0, .v (.int .i64 r1)])) []) := by
  rw [g_spec_newReader]
  rfl
theorem clok_spec_newReader : ConOK Try.prog cl_spec_newReader := consNil
theorem cok_spec_newReader : ConsOK Try.prog 11 cs_spec_newReader := ⟨clok_spec_newReader, inlNil, ovNil⟩
theorem i_spec_newReader {vs : List A1} {kk : AV → List A1 → Prop} {motive : List A1 → Prop} (h : con_spec_newReader.F vs kk) (H : ∀ (code0 : List Int), F_spec_newReader code0 (fun r0 r1 => kk (.one (.agg [.ro .u8 r0, .v (.int .i64 r1)])) []) → motive [.c (.ro .u8 code0)]) : motive vs := by
  unfold con_spec_newReader at h
  dsimp only at h
  split at h
  · exact H _ h
  · exact h.elim
theorem h_spec_newReader : HoldsB Try.prog 37 con_spec_newReader := by
  refine holdsB_of_ev (ts := [.sl .u8, .sc]) (T := TT) (Γ := cs_spec_newReader) (an := an_spec_newReader) (N := 11) (c := Try.f37.body.getD .skip) Try.func37 (by kernel_rfl) Try.ntmps37 (by decide) (by decide) mixed tabOK cok_spec_newReader (by kernel_rfl) ?_
  intro vs kk _ hF
  exact i_spec_newReader (motive := fun vs => Goes (ev TT cs_spec_newReader 11 an_spec_newReader (Try.f37.body.getD .skip) (st0 con_spec_newReader vs) (finB Try.f37.results.toList [.sl .u8, .sc] kk))) hF (fun code0 hF => goes_of (e_spec_newReader code0 kk) (F_spec_newReader_S hF))
def con_spec_reader_pick : Con := ⟨[.mu, .rd], true, [.ptr [.sl .u8, .sc], .c (.sc)], fun vs k => match vs with
    | [.ptr [.ro .u8 r0b, .v (.int .i64 r0p)], .c (.v (.int .i64 n1))] => F_spec_reader_pick r0b r0p n1 (fun r0 r1 r2 => k (.one (.c (.v (.int .i64 r0)))) [.ptr [.ro .u8 r1, .v (.int .i64 r2)]])
    | _ => False, false⟩
def cl_spec_reader_pick : List (FuncId × Con) := []
def an_spec_reader_pick : Ann := ⟨[(7, .take 0 (.take 1 (.take 2 (.take 3 (.take 4 (.take 5 (.take 6 (.take 7 (.take 8 (.take 9 (.take 10 (.take 11 (.take 12 (.take 13 (.take 14 (.take 15 (.take 16 (.take 17 (.take 18 (.take 19 (.take 20 (.take 21 (.take 22 (.take 23 (.take 24 (.take 25 (.take 26 (.take 27 (.take 28 (.take 29 (.take 30 (.take 31 (.take 32 (.take 33 (.take 34 (.take 35 (.take 36 (.take 37 (.take 38 (.take 39 (.take 40 (.take 41 (.take 42 (.take 43 (.take 44 (.take 45 (.done)))))))))))))))))))))))))))))))))))))))))))))), [100000])], [], [], []⟩
def cs_spec_reader_pick : Cons := ⟨cl_spec_reader_pick, [], 0, [], [], []⟩
def fin_spec_reader_pick (r0b : List Int) (r0p : Int) (n1 : Int) (kk : AV → List A1 → Prop) : Kt := fin TT con_spec_reader_pick Try.f40.results.toList [.c .sc] [.ptr [.ro .u8 r0b, .v (.int .i64 r0p)], .c (.v (.int .i64 n1))] kk
theorem g_spec_reader_pick (r0b : List Int) (r0p : Int) (n1 : Int) (kk : AV → List A1 → Prop) :
    ev TT cs_spec_reader_pick 99 an_spec_reader_pick (Try.f40.body.getD .skip) (st0 con_spec_reader_pick [.ptr [.ro .u8 r0b, .v (.int .i64 r0p)], .c (.v (.int .i64 n1))]) (fin TT con_spec_reader_pick Try.f40.results.toList [.c .sc] [.ptr [.ro .u8 r0b, .v (.int .i64 r0p)], .c (.v (.int .i64 n1))] kk) = G_spec_reader_pick r0b r0p n1 (fun r0 r1 r2 => kk (.one (.c (.v (.int .i64 r0)))) [.ptr [.ro .u8 r1, .v (.int .i64 r2)]]) := by kernel_rfl
theorem e_spec_reader_pick (r0b : List Int) (r0p : Int) (n1 : Int) (kk : AV → List A1 → Prop) :
    ev TT cs_spec_reader_pick 99 an_spec_reader_pick (Try.f40.body.getD .skip) (st0 con_spec_reader_pick [.ptr [.ro .u8 r0b, .v (.int .i64 r0p)], .c (.v (.int .i64 n1))]) (fin TT con_spec_reader_pick Try.f40.results.toList [.c .sc] [.ptr [.ro .u8 r0b, .v (.int .i64 r0p)], .c (.v (.int .i64 n1))] kk) = S_spec_reader_pick r0b r0p n1 (fun r0 r1 r2 => kk (.one (.c (.v (.int .i64 r0)))) [.ptr [.ro .u8 r1, .v (.int .i64 r2)]]) := by
  rw [g_spec_reader_pick]
  rfl
theorem clok_spec_reader_pick : ConOK Try.prog cl_spec_reader_pick := consNil
theorem cok_spec_reader_pick : ConsOK Try.prog 99 cs_spec_reader_pick := ⟨clok_spec_reader_pick, inlNil, ovNil⟩
theorem i_spec_reader_pick {vs : List A1} {kk : AV → List A1 → Prop} {motive : List A1 → Prop} (h : con_spec_reader_pick.F vs kk) (H : ∀ (r0b : List Int) (r0p : Int) (n1 : Int), F_spec_reader_pick r0b r0p n1 (fun r0 r1 r2 => kk (.one (.c (.v (.int .i64 r0)))) [.ptr [.ro .u8 r1, .v (.int .i64 r2)]]) → motive [.ptr [.ro .u8 r0b, .v (.int .i64 r0p)], .c (.v (.int .i64 n1))]) : motive vs := by
  unfold con_spec_reader_pick at h
  dsimp only at h
  split at h
  · exact H _ _ _ h
  · exact h.elim
theorem h_spec_reader_pick : Holds Try.prog 40 con_spec_reader_pick := by
  refine holds_of_ev (rt := [.c .sc]) (T := TT) (Γ := cs_spec_reader_pick) (an := an_spec_reader_pick) (N := 99) (c := Try.f40.body.getD .skip) Try.func40 (by kernel_rfl) Try.ntmps40 (by decide) (by decide) mixed tabOK cok_spec_reader_pick (by kernel_rfl) ?_
  intro vs kk _ hF
  exact i_spec_reader_pick (motive := fun vs => Goes (ev TT cs_spec_reader_pick 99 an_spec_reader_pick (Try.f40.body.getD .skip) (st0 con_spec_reader_pick vs) (fin TT con_spec_reader_pick Try.f40.results.toList [.c .sc] vs kk))) hF (fun r0b r0p n1 hF => goes_of (e_spec_reader_pick r0b r0p n1 kk) (F_spec_reader_pick_S hF))
def con_spec_reader_one : Con := ⟨[.mu, .rd], true, [.ptr [.sl .u8, .sc], .c (.sl .int)], fun vs k => match vs with
    | [.ptr [.ro .u8 r0b, .v (.int .i64 r0p)], .c (.ro .int list1)] => F_spec_reader_one r0b r0p list1 (fun r0 r1 r2 => k (.one (.c (.v (.int .i64 r0)))) [.ptr [.ro .u8 r1, .v (.int .i64 r2)]])
    | _ => False, false⟩
def cl_spec_reader_one : List (FuncId × Con) := [(40, con_spec_reader_pick)]
def an_spec_reader_one : Ann := ⟨[], [], [], []⟩
def cs_spec_reader_one : Cons := ⟨cl_spec_reader_one, [], 0, [], [], []⟩
def fin_spec_reader_one (r0b : List Int) (r0p : Int) (list1 : List Int) (kk : AV → List A1 → Prop) : Kt := fin TT con_spec_reader_one Try.f38.results.toList [.c .sc] [.ptr [.ro .u8 r0b, .v (.int .i64 r0p)], .c (.ro .int list1)] kk
theorem g_spec_reader_one (r0b : List Int) (r0p : Int) (list1 : List Int) (kk : AV → List A1 → Prop) :
    ev TT cs_spec_reader_one 12 an_spec_reader_one (Try.f38.body.getD .skip) (st0 con_spec_reader_one [.ptr [.ro .u8 r0b, .v (.int .i64 r0p)], .c (.ro .int list1)]) (fin TT con_spec_reader_one Try.f38.results.toList [.c .sc] [.ptr [.ro .u8 r0b, .v (.int .i64 r0p)], .c (.ro .int list1)] kk) = G_spec_reader_one r0b r0p list1 (fun r0 r1 r2 => kk (.one (.c (.v (.int .i64 r0)))) [.ptr [.ro .u8 r1, .v (.int .i64 r2)]]) := by kernel_rfl
theorem e_spec_reader_one (r0b : List Int) (r0p : Int) (list1 : List Int) (kk : AV → List A1 → Prop) :
    ev TT cs_spec_reader_one 12 an_spec_reader_one (Try.f38.body.getD .skip) (st0 con_spec_reader_one [.ptr [.ro .u8 r0b, .v (.int .i64 r0p)], .c (.ro .int list1)]) (fin TT con_spec_reader_one Try.f38.results.toList [.c .sc] [.ptr [.ro .u8 r0b, .v (.int .i64 r0p)], .c (.ro .int list1)] kk) = S_spec_reader_one r0b r0p list1 (fun r0 r1 r2 => kk (.one (.c (.v (.int .i64 r0)))) [.ptr [.ro .u8 r1, .v (.int .i64 r2)]]) := by
  rw [g_spec_reader_one]
  rfl
theorem clok_spec_reader_one : ConOK Try.prog cl_spec_reader_one := consCons h_spec_reader_pick ⟨Try.f40, Try.func40, by kernel_rfl, ne_of_beq (by kernel_rfl)⟩ (consNil)
theorem cok_spec_reader_one : ConsOK Try.prog 12 cs_spec_reader_one := ⟨clok_spec_reader_one, inlNil, ovNil⟩
theorem i_spec_reader_one {vs : List A1} {kk : AV → List A1 → Prop} {motive : List A1 → Prop} (h : con_spec_reader_one.F vs kk) (H : ∀ (r0b : List Int) (r0p : Int) (list1 : List Int), F_spec_reader_one r0b r0p list1 (fun r0 r1 r2 => kk (.one (.c (.v (.int .i64 r0)))) [.ptr [.ro .u8 r1, .v (.int .i64 r2)]]) → motive [.ptr [.ro .u8 r0b, .v (.int .i64 r0p)], .c (.ro .int list1)]) : motive vs := by
  unfold con_spec_reader_one at h
  dsimp only at h
  split at h
  · exact H _ _ _ h
  · exact h.elim
theorem h_spec_reader_one : Holds Try.prog 38 con_spec_reader_one := by
  refine holds_of_ev (rt := [.c .sc]) (T := TT) (Γ := cs_spec_reader_one) (an := an_spec_reader_one) (N := 12) (c := Try.f38.body.getD .skip) Try.func38 (by kernel_rfl) Try.ntmps38 (by decide) (by decide) mixed tabOK cok_spec_reader_one (by kernel_rfl) ?_
  intro vs kk _ hF
  exact i_spec_reader_one (motive := fun vs => Goes (ev TT cs_spec_reader_one 12 an_spec_reader_one (Try.f38.body.getD .skip) (st0 con_spec_reader_one vs) (fin TT con_spec_reader_one Try.f38.results.toList [.c .sc] vs kk))) hF (fun r0b r0p list1 hF => goes_of (e_spec_reader_one r0b r0p list1 kk) (F_spec_reader_one_S hF))
def con_spec_someClimb : Con := ⟨[.mu], true, [.ptr [.sl .u8, .sc]], fun vs k => match vs with
    | [.ptr [.ro .u8 r0b, .v (.int .i64 r0p)]] => F_spec_someClimb r0b r0p (fun r0 r1 r2 r3 r4 => k (.one (.agg [.v (.int .i64 r0), .v (.int .i64 r1), .v (.int .i64 r2)])) [.ptr [.ro .u8 r3, .v (.int .i64 r4)]])
    | _ => False, false⟩
def cl_spec_someClimb : List (FuncId × Con) := [(38, con_spec_reader_one), (40, con_spec_reader_pick)]
def an_spec_someClimb : Ann := ⟨[], [], [], []⟩
def cs_spec_someClimb : Cons := ⟨cl_spec_someClimb, [], 0, [], [], []⟩
def fin_spec_someClimb (r0b : List Int) (r0p : Int) (kk : AV → List A1 → Prop) : Kt := fin TT con_spec_someClimb Try.f42.results.toList [.agg [.sc, .sc, .sc]] [.ptr [.ro .u8 r0b, .v (.int .i64 r0p)]] kk
theorem g_spec_someClimb (r0b : List Int) (r0p : Int) (kk : AV → List A1 → Prop) :
    ev TT cs_spec_someClimb 29 an_spec_someClimb (Try.f42.body.getD .skip) (st0 con_spec_someClimb [.ptr [.ro .u8 r0b, .v (.int .i64 r0p)]]) (fin TT con_spec_someClimb Try.f42.results.toList [.agg [.sc, .sc, .sc]] [.ptr [.ro .u8 r0b, .v (.int .i64 r0p)]] kk) = G_spec_someClimb r0b r0p (fun r0 r1 r2 r3 r4 => kk (.one (.agg [.v (.int .i64 r0), .v (.int .i64 r1), .v (.int .i64 r2)])) [.ptr [.ro .u8 r3, .v (.int .i64 r4)]]) := by kernel_rfl
theorem e_spec_someClimb (r0b : List Int) (r0p : Int) (kk : AV → List A1 → Prop) :
    ev TT cs_spec_someClimb 29 an_spec_someClimb (Try.f42.body.getD .skip) (st0 con_spec_someClimb [.ptr [.ro .u8 r0b, .v (.int .i64 r0p)]]) (fin TT con_spec_someClimb Try.f42.results.toList [.agg [.sc, .sc, .sc]] [.ptr [.ro .u8 r0b, .v (.int .i64 r0p)]] kk) = S_spec_someClimb r0b r0p (fun r0 r1 r2 r3 r4 => kk (.one (.agg [.v (.int .i64 r0), .v (.int .i64 r1), .v (.int .i64 r2)])) [.ptr [.ro .u8 r3, .v (.int .i64 r4)]]) := by
  rw [g_spec_someClimb]
  rfl
theorem clok_spec_someClimb : ConOK Try.prog cl_spec_someClimb := consCons h_spec_reader_one ⟨Try.f38, Try.func38, by kernel_rfl, ne_of_beq (by kernel_rfl)⟩ (consCons h_spec_reader_pick ⟨Try.f40, Try.func40, by kernel_rfl, ne_of_beq (by kernel_rfl)⟩ (consNil))
theorem cok_spec_someClimb : ConsOK Try.prog 29 cs_spec_someClimb := ⟨clok_spec_someClimb, inlNil, ovNil⟩
theorem i_spec_someClimb {vs : List A1} {kk : AV → List A1 → Prop} {motive : List A1 → Prop} (h : con_spec_someClimb.F vs kk) (H : ∀ (r0b : List Int) (r0p : Int), F_spec_someClimb r0b r0p (fun r0 r1 r2 r3 r4 => kk (.one (.agg [.v (.int .i64 r0), .v (.int .i64 r1), .v (.int .i64 r2)])) [.ptr [.ro .u8 r3, .v (.int .i64 r4)]]) → motive [.ptr [.ro .u8 r0b, .v (.int .i64 r0p)]]) : motive vs := by
  unfold con_spec_someClimb at h
  dsimp only at h
  split at h
  · exact H _ _ h
  · exact h.elim
theorem h_spec_someClimb : Holds Try.prog 42 con_spec_someClimb := by
  refine holds_of_ev (rt := [.agg [.sc, .sc, .sc]]) (T := TT) (Γ := cs_spec_someClimb) (an := an_spec_someClimb) (N := 29) (c := Try.f42.body.getD .skip) Try.func42 (by kernel_rfl) Try.ntmps42 (by decide) (by decide) mixed tabOK cok_spec_someClimb (by kernel_rfl) ?_
  intro vs kk _ hF
  exact i_spec_someClimb (motive := fun vs => Goes (ev TT cs_spec_someClimb 29 an_spec_someClimb (Try.f42.body.getD .skip) (st0 con_spec_someClimb vs) (fin TT con_spec_someClimb Try.f42.results.toList [.agg [.sc, .sc, .sc]] vs kk))) hF (fun r0b r0p hF => goes_of (e_spec_someClimb r0b r0p kk) (F_spec_someClimb_S hF))
def con_spec_DrawValidClimb : Con := ⟨[.rd], true, [.c (.sl .u8)], fun vs k => match vs with
    | [.c (.ro .u8 code0)] => F_spec_DrawValidClimb code0 (fun r0 r1 r2 => k (.one (.agg [.v (.int .i64 r0), .v (.int .i64 r1), .v (.int .i64 r2)])) [])
    | _ => False, false⟩
def cl_spec_DrawValidClimb : List (FuncId × Con) := [(37, con_spec_newReader), (42, con_spec_someClimb)]
def an_spec_DrawValidClimb : Ann := ⟨[], [], [], []⟩
def cs_spec_DrawValidClimb : Cons := ⟨cl_spec_DrawValidClimb, [], 0, [], [], []⟩
def fin_spec_DrawValidClimb (code0 : List Int) (kk : AV → List A1 → Prop) : Kt := fin TT con_spec_DrawValidClimb Try.f19.results.toList [.agg [.sc, .sc, .sc]] [.c (.ro .u8 code0)] kk
theorem g_spec_DrawValidClimb (code0 : List Int) (kk : AV → List A1 → Prop) :
    ev TT cs_spec_DrawValidClimb 6 an_spec_DrawValidClimb (Try.f19.body.getD .skip) (st0 con_spec_DrawValidClimb [.c (.ro .u8 code0)]) (fin TT con_spec_DrawValidClimb Try.f19.results.toList [.agg [.sc, .sc, .sc]] [.c (.ro .u8 code0)] kk) = G_spec_DrawValidClimb code0 (fun r0 r1 r2 => kk (.one (.agg [.v (.int .i64 r0), .v (.int .i64 r1), .v (.int .i64 r2)])) []) := by kernel_rfl
theorem e_spec_DrawValidClimb (code0 : List Int) (kk : AV → List A1 → Prop) :
    ev TT cs_spec_DrawValidClimb 6 an_spec_DrawValidClimb (Try.f19.body.getD .skip) (st0 con_spec_DrawValidClimb [.c (.ro .u8 code0)]) (fin TT con_spec_DrawValidClimb Try.f19.results.toList [.agg [.sc, .sc, .sc]] [.c (.ro .u8 code0)] kk) = S_spec_DrawValidClimb code0 (fun r0 r1 r2 => kk (.one (.agg [.v (.int .i64 r0), .v (.int .i64 r1), .v (.int .i64 r2)])) []) := by
  rw [g_spec_DrawValidClimb]
  rfl
theorem clok_spec_DrawValidClimb : ConOK Try.prog cl_spec_DrawValidClimb := consCons h_spec_newReader ⟨Try.f37, Try.func37, by kernel_rfl, ne_of_beq (by kernel_rfl)⟩ (consCons h_spec_someClimb ⟨Try.f42, Try.func42, by kernel_rfl, ne_of_beq (by kernel_rfl)⟩ (consNil))
theorem cok_spec_DrawValidClimb : ConsOK Try.prog 6 cs_spec_DrawValidClimb := ⟨clok_spec_DrawValidClimb, inlNil, ovNil⟩
theorem i_spec_DrawValidClimb {vs : List A1} {kk : AV → List A1 → Prop} {motive : List A1 → Prop} (h : con_spec_DrawValidClimb.F vs kk) (H : ∀ (code0 : List Int), F_spec_DrawValidClimb code0 (fun r0 r1 r2 => kk (.one (.agg [.v (.int .i64 r0), .v (.int .i64 r1), .v (.int .i64 r2)])) []) → motive [.c (.ro .u8 code0)]) : motive vs := by
  unfold con_spec_DrawValidClimb at h
  dsimp only at h
  split at h
  · exact H _ h
  · exact h.elim
theorem h_spec_DrawValidClimb : Holds Try.prog 19 con_spec_DrawValidClimb := by
  refine holds_of_ev (rt := [.agg [.sc, .sc, .sc]]) (T := TT) (Γ := cs_spec_DrawValidClimb) (an := an_spec_DrawValidClimb) (N := 6) (c := Try.f19.body.getD .skip) Try.func19 (by kernel_rfl) Try.ntmps19 (by decide) (by decide) mixed tabOK cok_spec_DrawValidClimb (by kernel_rfl) ?_
  intro vs kk _ hF
  exact i_spec_DrawValidClimb (motive := fun vs => Goes (ev TT cs_spec_DrawValidClimb 6 an_spec_DrawValidClimb (Try.f19.body.getD .skip) (st0 con_spec_DrawValidClimb vs) (fin TT con_spec_DrawValidClimb Try.f19.results.toList [.agg [.sc, .sc, .sc]] vs kk))) hF (fun code0 hF => goes_of (e_spec_DrawValidClimb code0 kk) (F_spec_DrawValidClimb_S hF))
def con_impl_validRatio : Con := ⟨[.rd], true, [.c (.sc)], fun vs k => match vs with
    | [.c (.v (.int .i64 ratio0))] => F_impl_validRatio ratio0 (fun r0 => k (.one (.c (.v (.bool r0)))) [])
    | _ => False, false⟩
def cl_impl_validRatio : List (FuncId × Con) := []
def an_impl_validRatio : Ann := ⟨[], [], [], []⟩
def cs_impl_validRatio : Cons := ⟨cl_impl_validRatio, [], 0, [], [], []⟩
def fin_impl_validRatio (ratio0 : Int) (kk : AV → List A1 → Prop) : Kt := fin TT con_impl_validRatio Try.f41.results.toList [.c .sc] [.c (.v (.int .i64 ratio0))] kk
theorem g_impl_validRatio (ratio0 : Int) (kk : AV → List A1 → Prop) :
    ev TT cs_impl_validRatio 9 an_impl_validRatio (Try.f41.body.getD .skip) (st0 con_impl_validRatio [.c (.v (.int .i64 ratio0))]) (fin TT con_impl_validRatio Try.f41.results.toList [.c .sc] [.c (.v (.int .i64 ratio0))] kk) = G_impl_validRatio ratio0 (fun r0 => kk (.one (.c (.v (.bool r0)))) []) := by kernel_rfl
theorem e_impl_validRatio (ratio0 : Int) (kk : AV → List A1 → Prop) :
    ev TT cs_impl_validRatio 9 an_impl_validRatio (Try.f41.body.getD .skip) (st0 con_impl_validRatio [.c (.v (.int .i64 ratio0))]) (fin TT con_impl_validRatio Try.f41.results.toList [.c .sc] [.c (.v (.int .i64 ratio0))] kk) = S_impl_validRatio ratio0 (fun r0 => kk (.one (.c (.v (.bool r0)))) []) := by
  rw [g_impl_validRatio]
  rfl
theorem clok_impl_validRatio : ConOK Try.prog cl_impl_validRatio := consNil
theorem cok_impl_validRatio : ConsOK Try.prog 9 cs_impl_validRatio := ⟨clok_impl_validRatio, inlNil, ovNil⟩
theorem i_impl_validRatio {vs : List A1} {kk : AV → List A1 → Prop} {motive : List A1 → Prop} (h : con_impl_validRatio.F vs kk) (H : ∀ (ratio0 : Int), F_impl_validRatio ratio0 (fun r0 => kk (.one (.c (.v (.bool r0)))) []) → motive [.c (.v (.int .i64 ratio0))]) : motive vs := by
  unfold con_impl_validRatio at h
  dsimp only at h
  split at h
  · exact H _ h
  · exact h.elim
theorem h_impl_validRatio : Holds Try.prog 41 con_impl_validRatio := by
  refine holds_of_ev (rt := [.c .sc]) (T := TT) (Γ := cs_impl_validRatio) (an := an_impl_validRatio) (N := 9) (c := Try.f41.body.getD .skip) Try.func41 (by kernel_rfl) Try.ntmps41 (by decide) (by decide) mixed tabOK cok_impl_validRatio (by kernel_rfl) ?_
  intro vs kk _ hF
  exact i_impl_validRatio (motive := fun vs => Goes (ev TT cs_impl_validRatio 9 an_impl_validRatio (Try.f41.body.getD .skip) (st0 con_impl_validRatio vs) (fin TT con_impl_validRatio Try.f41.results.toList [.c .sc] vs kk))) hF (fun ratio0 hF => goes_of (e_impl_validRatio ratio0 kk) (F_impl_validRatio_S hF))
def con_impl_ValidClimb : Con := ⟨[.rd], true, [.agg [.sc, .sc, .sc]], fun vs k => match vs with
    | [.agg [.v (.int .i64 c0At), .v (.int .i64 c0Step), .v (.int .i64 c0Ratio)]] => F_impl_ValidClimb c0At c0Step c0Ratio (fun r0 => k (.one (.c (.v (.bool r0)))) [])
    | _ => False, false⟩
def cl_impl_ValidClimb : List (FuncId × Con) := [(41, con_impl_validRatio)]
def an_impl_ValidClimb : Ann := ⟨[], [], [], []⟩
def cs_impl_ValidClimb : Cons := ⟨cl_impl_ValidClimb, [], 0, [], [], []⟩
def fin_impl_ValidClimb (c0At : Int) (c0Step : Int) (c0Ratio : Int) (kk : AV → List A1 → Prop) : Kt := fin TT con_impl_ValidClimb Try.f20.results.toList [.c .sc] [.agg [.v (.int .i64 c0At), .v (.int .i64 c0Step), .v (.int .i64 c0Ratio)]] kk
theorem g_impl_ValidClimb (c0At : Int) (c0Step : Int) (c0Ratio : Int) (kk : AV → List A1 → Prop) :
    ev TT cs_impl_ValidClimb 35 an_impl_ValidClimb (Try.f20.body.getD .skip) (st0 con_impl_ValidClimb [.agg [.v (.int .i64 c0At), .v (.int .i64 c0Step), .v (.int .i64 c0Ratio)]]) (fin TT con_impl_ValidClimb Try.f20.results.toList [.c .sc] [.agg [.v (.int .i64 c0At), .v (.int .i64 c0Step), .v (.int .i64 c0Ratio)]] kk) = G_impl_ValidClimb c0At c0Step c0Ratio (fun r0 => kk (.one (.c (.v (.bool r0)))) []) := by kernel_rfl
theorem e_impl_ValidClimb (c0At : Int) (c0Step : Int) (c0Ratio : Int) (kk : AV → List A1 → Prop) :
    ev TT cs_impl_ValidClimb 35 an_impl_ValidClimb (Try.f20.body.getD .skip) (st0 con_impl_ValidClimb [.agg [.v (.int .i64 c0At), .v (.int .i64 c0Step), .v (.int .i64 c0Ratio)]]) (fin TT con_impl_ValidClimb Try.f20.results.toList [.c .sc] [.agg [.v (.int .i64 c0At), .v (.int .i64 c0Step), .v (.int .i64 c0Ratio)]] kk) = S_impl_ValidClimb c0At c0Step c0Ratio (fun r0 => kk (.one (.c (.v (.bool r0)))) []) := by
  rw [g_impl_ValidClimb]
  rfl
theorem clok_impl_ValidClimb : ConOK Try.prog cl_impl_ValidClimb := consCons h_impl_validRatio ⟨Try.f41, Try.func41, by kernel_rfl, ne_of_beq (by kernel_rfl)⟩ (consNil)
theorem cok_impl_ValidClimb : ConsOK Try.prog 35 cs_impl_ValidClimb := ⟨clok_impl_ValidClimb, inlNil, ovNil⟩
theorem i_impl_ValidClimb {vs : List A1} {kk : AV → List A1 → Prop} {motive : List A1 → Prop} (h : con_impl_ValidClimb.F vs kk) (H : ∀ (c0At : Int) (c0Step : Int) (c0Ratio : Int), F_impl_ValidClimb c0At c0Step c0Ratio (fun r0 => kk (.one (.c (.v (.bool r0)))) []) → motive [.agg [.v (.int .i64 c0At), .v (.int .i64 c0Step), .v (.int .i64 c0Ratio)]]) : motive vs := by
  unfold con_impl_ValidClimb at h
  dsimp only at h
  split at h
  · exact H _ _ _ h
  · exact h.elim
theorem h_impl_ValidClimb : Holds Try.prog 20 con_impl_ValidClimb := by
  refine holds_of_ev (rt := [.c .sc]) (T := TT) (Γ := cs_impl_ValidClimb) (an := an_impl_ValidClimb) (N := 35) (c := Try.f20.body.getD .skip) Try.func20 (by kernel_rfl) Try.ntmps20 (by decide) (by decide) mixed tabOK cok_impl_ValidClimb (by kernel_rfl) ?_
  intro vs kk _ hF
  exact i_impl_ValidClimb (motive := fun vs => Goes (ev TT cs_impl_ValidClimb 35 an_impl_ValidClimb (Try.f20.body.getD .skip) (st0 con_impl_ValidClimb vs) (fin TT con_impl_ValidClimb Try.f20.results.toList [.c .sc] vs kk))) hF (fun c0At c0Step c0Ratio hF => goes_of (e_impl_ValidClimb c0At c0Step c0Ratio kk) (F_impl_ValidClimb_S hF))
def con_spec_inRange : Con := ⟨[.rd, .rd, .rd], true, [.c (.sc), .c (.sc), .c (.sc)], fun vs k => match vs with
    | [.c (.v (.int .i64 n0)), .c (.v (.int .i64 low1)), .c (.v (.int .i64 high2))] => F_spec_inRange n0 low1 high2 (fun r0 => k (.one (.c (.v (.bool r0)))) [])
    | _ => False, false⟩
def cl_spec_inRange : List (FuncId × Con) := []
def an_spec_inRange : Ann := ⟨[], [], [], []⟩
def cs_spec_inRange : Cons := ⟨cl_spec_inRange, [], 0, [], [], []⟩
def fin_spec_inRange (n0 : Int) (low1 : Int) (high2 : Int) (kk : AV → List A1 → Prop) : Kt := fin TT con_spec_inRange Try.f39.results.toList [.c .sc] [.c (.v (.int .i64 n0)), .c (.v (.int .i64 low1)), .c (.v (.int .i64 high2))] kk
theorem g_spec_inRange (n0 : Int) (low1 : Int) (high2 : Int) (kk : AV → List A1 → Prop) :
    ev TT cs_spec_inRange 15 an_spec_inRange (Try.f39.body.getD .skip) (st0 con_spec_inRange [.c (.v (.int .i64 n0)), .c (.v (.int .i64 low1)), .c (.v (.int .i64 high2))]) (fin TT con_spec_inRange Try.f39.results.toList [.c .sc] [.c (.v (.int .i64 n0)), .c (.v (.int .i64 low1)), .c (.v (.int .i64 high2))] kk) = G_spec_inRange n0 low1 high2 (fun r0 => kk (.one (.c (.v (.bool r0)))) []) := by kernel_rfl
theorem e_spec_inRange (n0 : Int) (low1 : Int) (high2 : Int) (kk : AV → List A1 → Prop) :
    ev TT cs_spec_inRange 15 an_spec_inRange (Try.f39.body.getD .skip) (st0 con_spec_inRange [.c (.v (.int .i64 n0)), .c (.v (.int .i64 low1)), .c (.v (.int .i64 high2))]) (fin TT con_spec_inRange Try.f39.results.toList [.c .sc] [.c (.v (.int .i64 n0)), .c (.v (.int .i64 low1)), .c (.v (.int .i64 high2))] kk) = S_spec_inRange n0 low1 high2 (fun r0 => kk (.one (.c (.v (.bool r0)))) []) := by
  rw [g_spec_inRange]
  rfl
theorem clok_spec_inRange : ConOK Try.prog cl_spec_inRange := consNil
theorem cok_spec_inRange : ConsOK Try.prog 15 cs_spec_inRange := ⟨clok_spec_inRange, inlNil, ovNil⟩
theorem i_spec_inRange {vs : List A1} {kk : AV → List A1 → Prop} {motive : List A1 → Prop} (h : con_spec_inRange.F vs kk) (H : ∀ (n0 : Int) (low1 : Int) (high2 : Int), F_spec_inRange n0 low1 high2 (fun r0 => kk (.one (.c (.v (.bool r0)))) []) → motive [.c (.v (.int .i64 n0)), .c (.v (.int .i64 low1)), .c (.v (.int .i64 high2))]) : motive vs := by
  unfold con_spec_inRange at h
  dsimp only at h
  split at h
  · exact H _ _ _ h
  · exact h.elim
theorem h_spec_inRange : Holds Try.prog 39 con_spec_inRange := by
  refine holds_of_ev (rt := [.c .sc]) (T := TT) (Γ := cs_spec_inRange) (an := an_spec_inRange) (N := 15) (c := Try.f39.body.getD .skip) Try.func39 (by kernel_rfl) Try.ntmps39 (by decide) (by decide) mixed tabOK cok_spec_inRange (by kernel_rfl) ?_
  intro vs kk _ hF
  exact i_spec_inRange (motive := fun vs => Goes (ev TT cs_spec_inRange 15 an_spec_inRange (Try.f39.body.getD .skip) (st0 con_spec_inRange vs) (fin TT con_spec_inRange Try.f39.results.toList [.c .sc] vs kk))) hF (fun n0 low1 high2 hF => goes_of (e_spec_inRange n0 low1 high2 kk) (F_spec_inRange_S hF))
def con_spec_validClimb : Con := ⟨[.rd], true, [.agg [.sc, .sc, .sc]], fun vs k => match vs with
    | [.agg [.v (.int .i64 c0At), .v (.int .i64 c0Step), .v (.int .i64 c0Ratio)]] => F_spec_validClimb c0At c0Step c0Ratio (fun r0 => k (.one (.c (.v (.bool r0)))) [])
    | _ => False, false⟩
def cl_spec_validClimb : List (FuncId × Con) := [(39, con_spec_inRange)]
def an_spec_validClimb : Ann := ⟨[], [], [], []⟩
def cs_spec_validClimb : Cons := ⟨cl_spec_validClimb, [], 0, [], [], []⟩
def fin_spec_validClimb (c0At : Int) (c0Step : Int) (c0Ratio : Int) (kk : AV → List A1 → Prop) : Kt := fin TT con_spec_validClimb Try.f43.results.toList [.c .sc] [.agg [.v (.int .i64 c0At), .v (.int .i64 c0Step), .v (.int .i64 c0Ratio)]] kk
theorem g_spec_validClimb (c0At : Int) (c0Step : Int) (c0Ratio : Int) (kk : AV → List A1 → Prop) :
    ev TT cs_spec_validClimb 21 an_spec_validClimb (Try.f43.body.getD .skip) (st0 con_spec_validClimb [.agg [.v (.int .i64 c0At), .v (.int .i64 c0Step), .v (.int .i64 c0Ratio)]]) (fin TT con_spec_validClimb Try.f43.results.toList [.c .sc] [.agg [.v (.int .i64 c0At), .v (.int .i64 c0Step), .v (.int .i64 c0Ratio)]] kk) = G_spec_validClimb c0At c0Step c0Ratio (fun r0 => kk (.one (.c (.v (.bool r0)))) []) := by kernel_rfl
theorem e_spec_validClimb (c0At : Int) (c0Step : Int) (c0Ratio : Int) (kk : AV → List A1 → Prop) :
    ev TT cs_spec_validClimb 21 an_spec_validClimb (Try.f43.body.getD .skip) (st0 con_spec_validClimb [.agg [.v (.int .i64 c0At), .v (.int .i64 c0Step), .v (.int .i64 c0Ratio)]]) (fin TT con_spec_validClimb Try.f43.results.toList [.c .sc] [.agg [.v (.int .i64 c0At), .v (.int .i64 c0Step), .v (.int .i64 c0Ratio)]] kk) = S_spec_validClimb c0At c0Step c0Ratio (fun r0 => kk (.one (.c (.v (.bool r0)))) []) := by
  rw [g_spec_validClimb]
  rfl
theorem clok_spec_validClimb : ConOK Try.prog cl_spec_validClimb := consCons h_spec_inRange ⟨Try.f39, Try.func39, by kernel_rfl, ne_of_beq (by kernel_rfl)⟩ (consNil)
theorem cok_spec_validClimb : ConsOK Try.prog 21 cs_spec_validClimb := ⟨clok_spec_validClimb, inlNil, ovNil⟩
theorem i_spec_validClimb {vs : List A1} {kk : AV → List A1 → Prop} {motive : List A1 → Prop} (h : con_spec_validClimb.F vs kk) (H : ∀ (c0At : Int) (c0Step : Int) (c0Ratio : Int), F_spec_validClimb c0At c0Step c0Ratio (fun r0 => kk (.one (.c (.v (.bool r0)))) []) → motive [.agg [.v (.int .i64 c0At), .v (.int .i64 c0Step), .v (.int .i64 c0Ratio)]]) : motive vs := by
  unfold con_spec_validClimb at h
  dsimp only at h
  split at h
  · exact H _ _ _ h
  · exact h.elim
theorem h_spec_validClimb : Holds Try.prog 43 con_spec_validClimb := by
  refine holds_of_ev (rt := [.c .sc]) (T := TT) (Γ := cs_spec_validClimb) (an := an_spec_validClimb) (N := 21) (c := Try.f43.body.getD .skip) Try.func43 (by kernel_rfl) Try.ntmps43 (by decide) (by decide) mixed tabOK cok_spec_validClimb (by kernel_rfl) ?_
  intro vs kk _ hF
  exact i_spec_validClimb (motive := fun vs => Goes (ev TT cs_spec_validClimb 21 an_spec_validClimb (Try.f43.body.getD .skip) (st0 con_spec_validClimb vs) (fin TT con_spec_validClimb Try.f43.results.toList [.c .sc] vs kk))) hF (fun c0At c0Step c0Ratio hF => goes_of (e_spec_validClimb c0At c0Step c0Ratio kk) (F_spec_validClimb_S hF))
def con_spec_ValidClimb : Con := ⟨[.rd], true, [.agg [.sc, .sc, .sc]], fun vs k => match vs with
    | [.agg [.v (.int .i64 c0At), .v (.int .i64 c0Step), .v (.int .i64 c0Ratio)]] => F_spec_ValidClimb c0At c0Step c0Ratio (fun r0 => k (.one (.c (.v (.bool r0)))) [])
    | _ => False, false⟩
def cl_spec_ValidClimb : List (FuncId × Con) := [(43, con_spec_validClimb)]
def an_spec_ValidClimb : Ann := ⟨[], [], [], []⟩
def cs_spec_ValidClimb : Cons := ⟨cl_spec_ValidClimb, [], 0, [], [], []⟩
def fin_spec_ValidClimb (c0At : Int) (c0Step : Int) (c0Ratio : Int) (kk : AV → List A1 → Prop) : Kt := fin TT con_spec_ValidClimb Try.f21.results.toList [.c .sc] [.agg [.v (.int .i64 c0At), .v (.int .i64 c0Step), .v (.int .i64 c0Ratio)]] kk
theorem g_spec_ValidClimb (c0At : Int) (c0Step : Int) (c0Ratio : Int) (kk : AV → List A1 → Prop) :
    ev TT cs_spec_ValidClimb 5 an_spec_ValidClimb (Try.f21.body.getD .skip) (st0 con_spec_ValidClimb [.agg [.v (.int .i64 c0At), .v (.int .i64 c0Step), .v (.int .i64 c0Ratio)]]) (fin TT con_spec_ValidClimb Try.f21.results.toList [.c .sc] [.agg [.v (.int .i64 c0At), .v (.int .i64 c0Step), .v (.int .i64 c0Ratio)]] kk) = G_spec_ValidClimb c0At c0Step c0Ratio (fun r0 => kk (.one (.c (.v (.bool r0)))) []) := by kernel_rfl
theorem e_spec_ValidClimb (c0At : Int) (c0Step : Int) (c0Ratio : Int) (kk : AV → List A1 → Prop) :
    ev TT cs_spec_ValidClimb 5 an_spec_ValidClimb (Try.f21.body.getD .skip) (st0 con_spec_ValidClimb [.agg [.v (.int .i64 c0At), .v (.int .i64 c0Step), .v (.int .i64 c0Ratio)]]) (fin TT con_spec_ValidClimb Try.f21.results.toList [.c .sc] [.agg [.v (.int .i64 c0At), .v (.int .i64 c0Step), .v (.int .i64 c0Ratio)]] kk) = S_spec_ValidClimb c0At c0Step c0Ratio (fun r0 => kk (.one (.c (.v (.bool r0)))) []) := by
  rw [g_spec_ValidClimb]
  rfl
theorem clok_spec_ValidClimb : ConOK Try.prog cl_spec_ValidClimb := consCons h_spec_validClimb ⟨Try.f43, Try.func43, by kernel_rfl, ne_of_beq (by kernel_rfl)⟩ (consNil)
theorem cok_spec_ValidClimb : ConsOK Try.prog 5 cs_spec_ValidClimb := ⟨clok_spec_ValidClimb, inlNil, ovNil⟩
theorem i_spec_ValidClimb {vs : List A1} {kk : AV → List A1 → Prop} {motive : List A1 → Prop} (h : con_spec_ValidClimb.F vs kk) (H : ∀ (c0At : Int) (c0Step : Int) (c0Ratio : Int), F_spec_ValidClimb c0At c0Step c0Ratio (fun r0 => kk (.one (.c (.v (.bool r0)))) []) → motive [.agg [.v (.int .i64 c0At), .v (.int .i64 c0Step), .v (.int .i64 c0Ratio)]]) : motive vs := by
  unfold con_spec_ValidClimb at h
  dsimp only at h
  split at h
  · exact H _ _ _ h
  · exact h.elim
theorem h_spec_ValidClimb : Holds Try.prog 21 con_spec_ValidClimb := by
  refine holds_of_ev (rt := [.c .sc]) (T := TT) (Γ := cs_spec_ValidClimb) (an := an_spec_ValidClimb) (N := 5) (c := Try.f21.body.getD .skip) Try.func21 (by kernel_rfl) Try.ntmps21 (by decide) (by decide) mixed tabOK cok_spec_ValidClimb (by kernel_rfl) ?_
  intro vs kk _ hF
  exact i_spec_ValidClimb (motive := fun vs => Goes (ev TT cs_spec_ValidClimb 5 an_spec_ValidClimb (Try.f21.body.getD .skip) (st0 con_spec_ValidClimb vs) (fin TT con_spec_ValidClimb Try.f21.results.toList [.c .sc] vs kk))) hF (fun c0At c0Step c0Ratio hF => goes_of (e_spec_ValidClimb c0At c0Step c0Ratio kk) (F_spec_ValidClimb_S hF))
def con_laws_FnValidClimb : Con := ⟨[.rd], true, [.c (.sl .u8)], fun vs k => match vs with
    | [.c (.ro .u8 code0)] => F_laws_FnValidClimb code0 (fun r0 => k (.one (.c (.v (.bool r0)))) [])
    | _ => False, false⟩
def cl_laws_FnValidClimb : List (FuncId × Con) := [(19, con_spec_DrawValidClimb), (20, con_impl_ValidClimb), (21, con_spec_ValidClimb)]
def an_laws_FnValidClimb : Ann := ⟨[], [], [], []⟩
def cs_laws_FnValidClimb : Cons := ⟨cl_laws_FnValidClimb, [], 0, [], [], []⟩
def fin_laws_FnValidClimb (code0 : List Int) (kk : AV → List A1 → Prop) : Kt := fin TT con_laws_FnValidClimb Try.f7.results.toList [.c .sc] [.c (.ro .u8 code0)] kk
theorem g_laws_FnValidClimb (code0 : List Int) (kk : AV → List A1 → Prop) :
    ev TT cs_laws_FnValidClimb 42 an_laws_FnValidClimb (Try.f7.body.getD .skip) (st0 con_laws_FnValidClimb [.c (.ro .u8 code0)]) (fin TT con_laws_FnValidClimb Try.f7.results.toList [.c .sc] [.c (.ro .u8 code0)] kk) = G_laws_FnValidClimb code0 (fun r0 => kk (.one (.c (.v (.bool r0)))) []) := by kernel_rfl
theorem e_laws_FnValidClimb (code0 : List Int) (kk : AV → List A1 → Prop) :
    ev TT cs_laws_FnValidClimb 42 an_laws_FnValidClimb (Try.f7.body.getD .skip) (st0 con_laws_FnValidClimb [.c (.ro .u8 code0)]) (fin TT con_laws_FnValidClimb Try.f7.results.toList [.c .sc] [.c (.ro .u8 code0)] kk) = S_laws_FnValidClimb code0 (fun r0 => kk (.one (.c (.v (.bool r0)))) []) := by
  rw [g_laws_FnValidClimb]
  rfl
theorem clok_laws_FnValidClimb : ConOK Try.prog cl_laws_FnValidClimb := consCons h_spec_DrawValidClimb ⟨Try.f19, Try.func19, by kernel_rfl, ne_of_beq (by kernel_rfl)⟩ (consCons h_impl_ValidClimb ⟨Try.f20, Try.func20, by kernel_rfl, ne_of_beq (by kernel_rfl)⟩ (consCons h_spec_ValidClimb ⟨Try.f21, Try.func21, by kernel_rfl, ne_of_beq (by kernel_rfl)⟩ (consNil)))
theorem cok_laws_FnValidClimb : ConsOK Try.prog 42 cs_laws_FnValidClimb := ⟨clok_laws_FnValidClimb, inlNil, ovNil⟩
theorem i_laws_FnValidClimb {vs : List A1} {kk : AV → List A1 → Prop} {motive : List A1 → Prop} (h : con_laws_FnValidClimb.F vs kk) (H : ∀ (code0 : List Int), F_laws_FnValidClimb code0 (fun r0 => kk (.one (.c (.v (.bool r0)))) []) → motive [.c (.ro .u8 code0)]) : motive vs := by
  unfold con_laws_FnValidClimb at h
  dsimp only at h
  split at h
  · exact H _ h
  · exact h.elim
theorem h_laws_FnValidClimb : Holds Try.prog 7 con_laws_FnValidClimb := by
  refine holds_of_ev (rt := [.c .sc]) (T := TT) (Γ := cs_laws_FnValidClimb) (an := an_laws_FnValidClimb) (N := 42) (c := Try.f7.body.getD .skip) Try.func7 (by kernel_rfl) Try.ntmps7 (by decide) (by decide) mixed tabOK cok_laws_FnValidClimb (by kernel_rfl) ?_
  intro vs kk _ hF
  exact i_laws_FnValidClimb (motive := fun vs => Goes (ev TT cs_laws_FnValidClimb 42 an_laws_FnValidClimb (Try.f7.body.getD .skip) (st0 con_laws_FnValidClimb vs) (fin TT con_laws_FnValidClimb Try.f7.results.toList [.c .sc] vs kk))) hF (fun code0 hF => goes_of (e_laws_FnValidClimb code0 kk) (F_laws_FnValidClimb_S hF))
end Go.Ev
