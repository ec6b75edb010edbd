/- What the evaluator gives for these functions: their contracts. No statement is proved here. -/
import Derived.Test.YthdedjemjjcjhabFnExactValidEntriesP0
import Derived.Test.YthdedjemjjcjhabTt
namespace Go.Ev
set_option linter.unusedVariables false
set_option maxRecDepth 100000
open Go Go.Proofs
def con_laws_szEntryS : Con := ⟨[.rd, .rd], true, [.c (.sl .iii), .c (.sc)], fun vs k => match vs with
    | [.c (.ro .iii a0), .c (.v (.int .i64 left1))] => F_laws_szEntryS a0 left1 (fun r0 => k (.one (.c (.v (.int .i64 r0)))) [])
    | _ => False, false⟩
def cl_laws_szEntryS : List (FuncId × Con) := []
def an_laws_szEntryS : Ann := ⟨[], [], []⟩
def cs_laws_szEntryS : Cons := ⟨cl_laws_szEntryS, [], 0, [], []⟩
def fin_laws_szEntryS (a0 : List (Int × Int × Int)) (left1 : Int) (kk : AV → List A1 → Prop) : Kt := fin TT con_laws_szEntryS Try.f33.results.toList [.c .sc] [.c (.ro .iii a0), .c (.v (.int .i64 left1))] kk
theorem g_laws_szEntryS (a0 : List (Int × Int × Int)) (left1 : Int) (kk : AV → List A1 → Prop) :
    ev TT cs_laws_szEntryS 12 an_laws_szEntryS (Try.f33.body.getD .skip) (st0 con_laws_szEntryS [.c (.ro .iii a0), .c (.v (.int .i64 left1))]) (fin TT con_laws_szEntryS Try.f33.results.toList [.c .sc] [.c (.ro .iii a0), .c (.v (.int .i64 left1))] kk) = G_laws_szEntryS a0 left1 (fun r0 => kk (.one (.c (.v (.int .i64 r0)))) []) := by kernel_rfl
theorem e_laws_szEntryS (a0 : List (Int × Int × Int)) (left1 : Int) (kk : AV → List A1 → Prop) :
    ev TT cs_laws_szEntryS 12 an_laws_szEntryS (Try.f33.body.getD .skip) (st0 con_laws_szEntryS [.c (.ro .iii a0), .c (.v (.int .i64 left1))]) (fin TT con_laws_szEntryS Try.f33.results.toList [.c .sc] [.c (.ro .iii a0), .c (.v (.int .i64 left1))] kk) = S_laws_szEntryS a0 left1 (fun r0 => kk (.one (.c (.v (.int .i64 r0)))) []) := by
  rw [g_laws_szEntryS]
  rfl
theorem clok_laws_szEntryS : ConOK Try.prog cl_laws_szEntryS := consNil
theorem cok_laws_szEntryS : ConsOK Try.prog 12 cs_laws_szEntryS := ⟨clok_laws_szEntryS, inlNil⟩
theorem i_laws_szEntryS {vs : List A1} {kk : AV → List A1 → Prop} {motive : List A1 → Prop} (h : con_laws_szEntryS.F vs kk) (H : ∀ (a0 : List (Int × Int × Int)) (left1 : Int), F_laws_szEntryS a0 left1 (fun r0 => kk (.one (.c (.v (.int .i64 r0)))) []) → motive [.c (.ro .iii a0), .c (.v (.int .i64 left1))]) : motive vs := by
  unfold con_laws_szEntryS at h
  dsimp only at h
  split at h
  · exact H _ _ h
  · exact h.elim
theorem h_laws_szEntryS : Holds Try.prog 33 con_laws_szEntryS := by
  refine holds_of_ev (rt := [.c .sc]) (T := TT) (Γ := cs_laws_szEntryS) (an := an_laws_szEntryS) (N := 12) (c := Try.f33.body.getD .skip) Try.func33 (by kernel_rfl) Try.ntmps33 (by decide) (by decide) mixed tabOK cok_laws_szEntryS (by kernel_rfl) ?_
  intro vs kk _ hF
  exact i_laws_szEntryS (motive := fun vs => Goes (ev TT cs_laws_szEntryS 12 an_laws_szEntryS (Try.f33.body.getD .skip) (st0 con_laws_szEntryS vs) (fin TT con_laws_szEntryS Try.f33.results.toList [.c .sc] vs kk))) hF (fun a0 left1 hF => goes_of (e_laws_szEntryS a0 left1 kk) (F_laws_szEntryS_S hF))
def con_laws_toEntry : Con := ⟨[.rd], true, [.agg [.sc, .sc, .sc]], fun vs k => match vs with
    | [.agg [.v (.int .i64 a0Key), .v (.int .i64 a0Count), .v (.int .i64 a0Last)]] => F_laws_toEntry a0Key a0Count a0Last (fun r0 r1 r2 => k (.one (.agg [.v (.int .i64 r0), .v (.int .i64 r1), .v (.int .i64 r2)])) [])
    | _ => False, false⟩
def cl_laws_toEntry : List (FuncId × Con) := []
def an_laws_toEntry : Ann := ⟨[], [], []⟩
def cs_laws_toEntry : Cons := ⟨cl_laws_toEntry, [], 0, [], []⟩
def fin_laws_toEntry (a0Key : Int) (a0Count : Int) (a0Last : Int) (kk : AV → List A1 → Prop) : Kt := fin TT con_laws_toEntry Try.f88.results.toList [.agg [.sc, .sc, .sc]] [.agg [.v (.int .i64 a0Key), .v (.int .i64 a0Count), .v (.int .i64 a0Last)]] kk
theorem g_laws_toEntry (a0Key : Int) (a0Count : Int) (a0Last : Int) (kk : AV → List A1 → Prop) :
    ev TT cs_laws_toEntry 14 an_laws_toEntry (Try.f88.body.getD .skip) (st0 con_laws_toEntry [.agg [.v (.int .i64 a0Key), .v (.int .i64 a0Count), .v (.int .i64 a0Last)]]) (fin TT con_laws_toEntry Try.f88.results.toList [.agg [.sc, .sc, .sc]] [.agg [.v (.int .i64 a0Key), .v (.int .i64 a0Count), .v (.int .i64 a0Last)]] kk) = G_laws_toEntry a0Key a0Count a0Last (fun r0 r1 r2 => kk (.one (.agg [.v (.int .i64 r0), .v (.int .i64 r1), .v (.int .i64 r2)])) []) := by kernel_rfl
theorem e_laws_toEntry (a0Key : Int) (a0Count : Int) (a0Last : Int) (kk : AV → List A1 → Prop) :
    ev TT cs_laws_toEntry 14 an_laws_toEntry (Try.f88.body.getD .skip) (st0 con_laws_toEntry [.agg [.v (.int .i64 a0Key), .v (.int .i64 a0Count), .v (.int .i64 a0Last)]]) (fin TT con_laws_toEntry Try.f88.results.toList [.agg [.sc, .sc, .sc]] [.agg [.v (.int .i64 a0Key), .v (.int .i64 a0Count), .v (.int .i64 a0Last)]] kk) = S_laws_toEntry a0Key a0Count a0Last (fun r0 r1 r2 => kk (.one (.agg [.v (.int .i64 r0), .v (.int .i64 r1), .v (.int .i64 r2)])) []) := by
  rw [g_laws_toEntry]
  rfl
theorem clok_laws_toEntry : ConOK Try.prog cl_laws_toEntry := consNil
theorem cok_laws_toEntry : ConsOK Try.prog 14 cs_laws_toEntry := ⟨clok_laws_toEntry, inlNil⟩
theorem i_laws_toEntry {vs : List A1} {kk : AV → List A1 → Prop} {motive : List A1 → Prop} (h : con_laws_toEntry.F vs kk) (H : ∀ (a0Key : Int) (a0Count : Int) (a0Last : Int), F_laws_toEntry a0Key a0Count a0Last (fun r0 r1 r2 => kk (.one (.agg [.v (.int .i64 r0), .v (.int .i64 r1), .v (.int .i64 r2)])) []) → motive [.agg [.v (.int .i64 a0Key), .v (.int .i64 a0Count), .v (.int .i64 a0Last)]]) : motive vs := by
  unfold con_laws_toEntry at h
  dsimp only at h
  split at h
  · exact H _ _ _ h
  · exact h.elim
theorem h_laws_toEntry : Holds Try.prog 88 con_laws_toEntry := by
  refine holds_of_ev (rt := [.agg [.sc, .sc, .sc]]) (T := TT) (Γ := cs_laws_toEntry) (an := an_laws_toEntry) (N := 14) (c := Try.f88.body.getD .skip) Try.func88 (by kernel_rfl) Try.ntmps88 (by decide) (by decide) mixed tabOK cok_laws_toEntry (by kernel_rfl) ?_
  intro vs kk _ hF
  exact i_laws_toEntry (motive := fun vs => Goes (ev TT cs_laws_toEntry 14 an_laws_toEntry (Try.f88.body.getD .skip) (st0 con_laws_toEntry vs) (fin TT con_laws_toEntry Try.f88.results.toList [.agg [.sc, .sc, .sc]] vs kk))) hF (fun a0Key a0Count a0Last hF => goes_of (e_laws_toEntry a0Key a0Count a0Last kk) (F_laws_toEntry_S hF))
def con_laws_toEntryS : Con := ⟨[.rd], true, [.c (.sl .iii)], fun vs k => match vs with
    | [.c (.ro .iii a0)] => F_laws_toEntryS a0 (fun r0 => k (.one (.c (.ro .iii r0))) [])
    | _ => False, false⟩
def cl_laws_toEntryS : List (FuncId × Con) := [(88, con_laws_toEntry)]
def nm0_laws_toEntryS : List NStep := [.keep [0, 3, 4] [112]]
def an_laws_toEntryS : Ann := ⟨[], [(3, nm0_laws_toEntryS)], []⟩
def cs_laws_toEntryS : Cons := ⟨cl_laws_toEntryS, [], 0, [], []⟩
def can0_laws_toEntryS (a0 : List (Int × Int × Int)) (xi4 : Int) (xy7 : List (Int × Int × Int)) : St := ⟨[(0, .one (.c (.ro .iii a0))), (3, .one (.c (.ow 112))), (4, .one (.c (.v (.int .i64 xi4))))], [(112, .row .iii xy7)]⟩
def fin_laws_toEntryS (a0 : List (Int × Int × Int)) (kk : AV → List A1 → Prop) : Kt := fin TT con_laws_toEntryS Try.f35.results.toList [.c (.sl .iii)] [.c (.ro .iii a0)] kk
def kt0_laws_toEntryS (kf : Kt) : Kt := blockK 0 (seqK (evF TT cs_laws_toEntryS 23 an_laws_toEntryS Try.f35 [1, 1, 1]) (kf))
theorem r0_laws_toEntryS (a0 : List (Int × Int × Int)) (kk : AV → List A1 → Prop) (n : Nat) (xi4 : Int) (xy7 : List (Int × Int × Int)) :
    iter (evF TT cs_laws_toEntryS 23 an_laws_toEntryS Try.f35 [1, 1, 0, 1, 0, 0]) nm0_laws_toEntryS (kt0_laws_toEntryS (fin_laws_toEntryS a0 kk)) (n + 1) (can0_laws_toEntryS a0 xi4 xy7) = T0_laws_toEntryS a0 xi4 xy7 (fun r0 => kk (.one (.c (.ro .iii r0))) []) (fun xi4 xy7 => iter (evF TT cs_laws_toEntryS 23 an_laws_toEntryS Try.f35 [1, 1, 0, 1, 0, 0]) nm0_laws_toEntryS (kt0_laws_toEntryS (fin_laws_toEntryS a0 kk)) n (can0_laws_toEntryS a0 xi4 xy7)) := by kernel_rfl
theorem l0_laws_toEntryS (a0 : List (Int × Int × Int)) (kk : AV → List A1 → Prop) : ∀ (n : Nat) (xi4 : Int) (xy7 : List (Int × Int × Int)), iter (evF TT cs_laws_toEntryS 23 an_laws_toEntryS Try.f35 [1, 1, 0, 1, 0, 0]) nm0_laws_toEntryS (kt0_laws_toEntryS (fin_laws_toEntryS a0 kk)) n (can0_laws_toEntryS a0 xi4 xy7) = L0_laws_toEntryS a0 (fun r0 => kk (.one (.c (.ro .iii r0))) []) n xi4 xy7 := by
  intro n
  induction n with
  | zero => intros; rfl
  | succ n ih =>
    intro xi4 xy7
    rw [r0_laws_toEntryS a0 kk n xi4 xy7]
    have hb : (fun xi4 xy7 => iter (evF TT cs_laws_toEntryS 23 an_laws_toEntryS Try.f35 [1, 1, 0, 1, 0, 0]) nm0_laws_toEntryS (kt0_laws_toEntryS (fin_laws_toEntryS a0 kk)) n (can0_laws_toEntryS a0 xi4 xy7)) = L0_laws_toEntryS a0 (fun r0 => kk (.one (.c (.ro .iii r0))) []) n := by
      funext xi4 xy7; exact ih xi4 xy7
    rw [hb]
    rfl
theorem g_laws_toEntryS (a0 : List (Int × Int × Int)) (kk : AV → List A1 → Prop) :
    ev TT cs_laws_toEntryS 23 an_laws_toEntryS (Try.f35.body.getD .skip) (st0 con_laws_toEntryS [.c (.ro .iii a0)]) (fin TT con_laws_toEntryS Try.f35.results.toList [.c (.sl .iii)] [.c (.ro .iii a0)] kk) = G_laws_toEntryS a0 (fun a0 xi4 xy7 => ∃ j, iter (evF TT cs_laws_toEntryS 23 an_laws_toEntryS Try.f35 [1, 1, 0, 1, 0, 0]) nm0_laws_toEntryS (kt0_laws_toEntryS (fin_laws_toEntryS a0 kk)) j (can0_laws_toEntryS a0 xi4 xy7)) := by kernel_rfl
theorem e_laws_toEntryS (a0 : List (Int × Int × Int)) (kk : AV → List A1 → Prop) :
    ev TT cs_laws_toEntryS 23 an_laws_toEntryS (Try.f35.body.getD .skip) (st0 con_laws_toEntryS [.c (.ro .iii a0)]) (fin TT con_laws_toEntryS Try.f35.results.toList [.c (.sl .iii)] [.c (.ro .iii a0)] kk) = S_laws_toEntryS a0 (fun r0 => kk (.one (.c (.ro .iii r0))) []) := by
  rw [g_laws_toEntryS]
  have hi0 : (fun a0 xi4 xy7 => ∃ j, iter (evF TT cs_laws_toEntryS 23 an_laws_toEntryS Try.f35 [1, 1, 0, 1, 0, 0]) nm0_laws_toEntryS (kt0_laws_toEntryS (fin_laws_toEntryS a0 kk)) j (can0_laws_toEntryS a0 xi4 xy7)) = (fun a0 xi4 xy7 => ∃ j, L0_laws_toEntryS a0 (fun r0 => kk (.one (.c (.ro .iii r0))) []) j xi4 xy7) := by
    funext a0 xi4 xy7
    refine congrArg Exists (funext fun j => ?_)
    rw [l0_laws_toEntryS a0 kk j xi4 xy7]
  rw [hi0]
  rfl
theorem clok_laws_toEntryS : ConOK Try.prog cl_laws_toEntryS := consCons h_laws_toEntry ⟨Try.f88, Try.func88, by kernel_rfl, ne_of_beq (by kernel_rfl)⟩ (consNil)
theorem cok_laws_toEntryS : ConsOK Try.prog 23 cs_laws_toEntryS := ⟨clok_laws_toEntryS, inlNil⟩
theorem i_laws_toEntryS {vs : List A1} {kk : AV → List A1 → Prop} {motive : List A1 → Prop} (h : con_laws_toEntryS.F vs kk) (H : ∀ (a0 : List (Int × Int × Int)), F_laws_toEntryS a0 (fun r0 => kk (.one (.c (.ro .iii r0))) []) → motive [.c (.ro .iii a0)]) : motive vs := by
  unfold con_laws_toEntryS at h
  dsimp only at h
  split at h
  · exact H _ h
  · exact h.elim
theorem h_laws_toEntryS : Holds Try.prog 35 con_laws_toEntryS := by
  refine holds_of_ev (rt := [.c (.sl .iii)]) (T := TT) (Γ := cs_laws_toEntryS) (an := an_laws_toEntryS) (N := 23) (c := Try.f35.body.getD .skip) Try.func35 (by kernel_rfl) Try.ntmps35 (by decide) (by decide) mixed tabOK cok_laws_toEntryS (by kernel_rfl) ?_
  intro vs kk _ hF
  exact i_laws_toEntryS (motive := fun vs => Goes (ev TT cs_laws_toEntryS 23 an_laws_toEntryS (Try.f35.body.getD .skip) (st0 con_laws_toEntryS vs) (fin TT con_laws_toEntryS Try.f35.results.toList [.c (.sl .iii)] vs kk))) hF (fun a0 hF => goes_of (e_laws_toEntryS a0 kk) (F_laws_toEntryS_S hF))
def con_spec_inRange : Con := ⟨[.rd, .rd, .rd], true, [.c (.sc), .c (.sc), .c (.sc)], fun vs k => match vs with
    | [.c (.v (.int .i64 n0)), .c (.v (.int .i64 low1)), .c (.v (.int .i64 high2))] => F_spec_inRange n0 low1 high2 (fun r0 => k (.one (.c (.v (.bool r0)))) [])
    | _ => False, false⟩
def cl_spec_inRange : List (FuncId × Con) := []
def an_spec_inRange : Ann := ⟨[], [], []⟩
def cs_spec_inRange : Cons := ⟨cl_spec_inRange, [], 0, [], []⟩
def fin_spec_inRange (n0 : Int) (low1 : Int) (high2 : Int) (kk : AV → List A1 → Prop) : Kt := fin TT con_spec_inRange Try.f60.results.toList [.c .sc] [.c (.v (.int .i64 n0)), .c (.v (.int .i64 low1)), .c (.v (.int .i64 high2))] kk
theorem g_spec_inRange (n0 : Int) (low1 : Int) (high2 : Int) (kk : AV → List A1 → Prop) :
    ev TT cs_spec_inRange 15 an_spec_inRange (Try.f60.body.getD .skip) (st0 con_spec_inRange [.c (.v (.int .i64 n0)), .c (.v (.int .i64 low1)), .c (.v (.int .i64 high2))]) (fin TT con_spec_inRange Try.f60.results.toList [.c .sc] [.c (.v (.int .i64 n0)), .c (.v (.int .i64 low1)), .c (.v (.int .i64 high2))] kk) = G_spec_inRange n0 low1 high2 (fun r0 => kk (.one (.c (.v (.bool r0)))) []) := by kernel_rfl
theorem e_spec_inRange (n0 : Int) (low1 : Int) (high2 : Int) (kk : AV → List A1 → Prop) :
    ev TT cs_spec_inRange 15 an_spec_inRange (Try.f60.body.getD .skip) (st0 con_spec_inRange [.c (.v (.int .i64 n0)), .c (.v (.int .i64 low1)), .c (.v (.int .i64 high2))]) (fin TT con_spec_inRange Try.f60.results.toList [.c .sc] [.c (.v (.int .i64 n0)), .c (.v (.int .i64 low1)), .c (.v (.int .i64 high2))] kk) = S_spec_inRange n0 low1 high2 (fun r0 => kk (.one (.c (.v (.bool r0)))) []) := by
  rw [g_spec_inRange]
  rfl
theorem clok_spec_inRange : ConOK Try.prog cl_spec_inRange := consNil
theorem cok_spec_inRange : ConsOK Try.prog 15 cs_spec_inRange := ⟨clok_spec_inRange, inlNil⟩
theorem i_spec_inRange {vs : List A1} {kk : AV → List A1 → Prop} {motive : List A1 → Prop} (h : con_spec_inRange.F vs kk) (H : ∀ (n0 : Int) (low1 : Int) (high2 : Int), F_spec_inRange n0 low1 high2 (fun r0 => kk (.one (.c (.v (.bool r0)))) []) → motive [.c (.v (.int .i64 n0)), .c (.v (.int .i64 low1)), .c (.v (.int .i64 high2))]) : motive vs := by
  unfold con_spec_inRange at h
  dsimp only at h
  split at h
  · exact H _ _ _ h
  · exact h.elim
theorem h_spec_inRange : Holds Try.prog 60 con_spec_inRange := by
  refine holds_of_ev (rt := [.c .sc]) (T := TT) (Γ := cs_spec_inRange) (an := an_spec_inRange) (N := 15) (c := Try.f60.body.getD .skip) Try.func60 (by kernel_rfl) Try.ntmps60 (by decide) (by decide) mixed tabOK cok_spec_inRange (by kernel_rfl) ?_
  intro vs kk _ hF
  exact i_spec_inRange (motive := fun vs => Goes (ev TT cs_spec_inRange 15 an_spec_inRange (Try.f60.body.getD .skip) (st0 con_spec_inRange vs) (fin TT con_spec_inRange Try.f60.results.toList [.c .sc] vs kk))) hF (fun n0 low1 high2 hF => goes_of (e_spec_inRange n0 low1 high2 kk) (F_spec_inRange_S hF))
def con_spec_validEntries : Con := ⟨[.rd, .rd], true, [.c (.sl .iii), .c (.sc)], fun vs k => match vs with
    | [.c (.ro .iii list0), .c (.v (.int .i64 room1))] => F_spec_validEntries list0 room1 (fun r0 => k (.one (.c (.v (.bool r0)))) [])
    | _ => False, false⟩
def cl_spec_validEntries : List (FuncId × Con) := [(60, con_spec_inRange)]
def nm1_spec_validEntries : List NStep := [.keep [0, 1, 5, 6] []]
def nm0_spec_validEntries : List NStep := [.keep [0, 1, 5] []]
def an_spec_validEntries : Ann := ⟨[(9, .take 0 (.take 1 (.take 2 (.take 3 (.take 4 (.take 5 (.take 6 (.take 7 (.take 8 (.take 9 (.take 10 (.take 11 (.take 12 (.take 13 (.take 14 (.take 15 (.take 16 (.take 17 (.take 18 (.take 19 (.take 20 (.take 21 (.take 22 (.take 23 (.done)))))))))))))))))))))))), [])], [(7, nm1_spec_validEntries), (2, nm0_spec_validEntries)], []⟩
def cs_spec_validEntries : Cons := ⟨cl_spec_validEntries, [], 0, [], []⟩
def can1_spec_validEntries (list0 : List (Int × Int × Int)) (room1 : Int) (xi5 : Int) (xk6 : Int) : St := ⟨[(0, .one (.c (.ro .iii list0))), (1, .one (.c (.v (.int .i64 room1)))), (5, .one (.c (.v (.int .i64 xi5)))), (6, .one (.c (.v (.int .i64 xk6))))], []⟩
def can0_spec_validEntries (list0 : List (Int × Int × Int)) (room1 : Int) (xi5 : Int) : St := ⟨[(0, .one (.c (.ro .iii list0))), (1, .one (.c (.v (.int .i64 room1)))), (5, .one (.c (.v (.int .i64 xi5))))], []⟩
def fin_spec_validEntries (list0 : List (Int × Int × Int)) (room1 : Int) (kk : AV → List A1 → Prop) : Kt := fin TT con_spec_validEntries Try.f85.results.toList [.c .sc] [.c (.ro .iii list0), .c (.v (.int .i64 room1))] kk
def kt1_spec_validEntries (kf : Kt) (b0 : St → Prop) : Kt := blockK 2 (blockK 1 (seqK (evF TT cs_spec_validEntries 75 an_spec_validEntries Try.f85 [1, 0, 1, 0, 0, 1, 1]) (backK nm0_spec_validEntries b0 (blockK 0 (seqK (evF TT cs_spec_validEntries 75 an_spec_validEntries Try.f85 [1, 1]) (kf))))))
def kt0_spec_validEntries (kf : Kt) : Kt := blockK 0 (seqK (evF TT cs_spec_validEntries 75 an_spec_validEntries Try.f85 [1, 1]) (kf))
theorem r1_spec_validEntries (list0 : List (Int × Int × Int)) (room1 : Int) (xi5 : Int) (kk : AV → List A1 → Prop) (b0 : St → Prop) (n : Nat) (xk6 : Int) :
    iter (evF TT cs_spec_validEntries 75 an_spec_validEntries Try.f85 [1, 0, 1, 0, 0, 1, 0, 0, 1, 1, 0, 0]) nm1_spec_validEntries (kt1_spec_validEntries (fin_spec_validEntries list0 room1 kk) b0) (n + 1) (can1_spec_validEntries list0 room1 xi5 xk6) = T1_spec_validEntries list0 room1 xi5 xk6 (fun r0 => kk (.one (.c (.v (.bool r0)))) []) (fun xi5 => b0 (can0_spec_validEntries list0 room1 xi5)) (fun xk6 => iter (evF TT cs_spec_validEntries 75 an_spec_validEntries Try.f85 [1, 0, 1, 0, 0, 1, 0, 0, 1, 1, 0, 0]) nm1_spec_validEntries (kt1_spec_validEntries (fin_spec_validEntries list0 room1 kk) b0) n (can1_spec_validEntries list0 room1 xi5 xk6)) := by kernel_rfl
theorem l1_spec_validEntries (list0 : List (Int × Int × Int)) (room1 : Int) (xi5 : Int) (kk : AV → List A1 → Prop) (b0 : St → Prop) : ∀ (n : Nat) (xk6 : Int), iter (evF TT cs_spec_validEntries 75 an_spec_validEntries Try.f85 [1, 0, 1, 0, 0, 1, 0, 0, 1, 1, 0, 0]) nm1_spec_validEntries (kt1_spec_validEntries (fin_spec_validEntries list0 room1 kk) b0) n (can1_spec_validEntries list0 room1 xi5 xk6) = L1_spec_validEntries list0 room1 xi5 (fun r0 => kk (.one (.c (.v (.bool r0)))) []) (fun xi5 => b0 (can0_spec_validEntries list0 room1 xi5)) n xk6 := by
  intro n
  induction n with
  | zero => intros; rfl
  | succ n ih =>
    intro xk6
    rw [r1_spec_validEntries list0 room1 xi5 kk b0 n xk6]
    have hb : (fun xk6 => iter (evF TT cs_spec_validEntries 75 an_spec_validEntries Try.f85 [1, 0, 1, 0, 0, 1, 0, 0, 1, 1, 0, 0]) nm1_spec_validEntries (kt1_spec_validEntries (fin_spec_validEntries list0 room1 kk) b0) n (can1_spec_validEntries list0 room1 xi5 xk6)) = L1_spec_validEntries list0 room1 xi5 (fun r0 => kk (.one (.c (.v (.bool r0)))) []) (fun xi5 => b0 (can0_spec_validEntries list0 room1 xi5)) n := by
      funext xk6; exact ih xk6
    rw [hb]
    rfl
theorem r0_spec_validEntries (list0 : List (Int × Int × Int)) (room1 : Int) (kk : AV → List A1 → Prop) (n : Nat) (xi5 : Int) :
    iter (evF TT cs_spec_validEntries 75 an_spec_validEntries Try.f85 [1, 0, 1, 0, 0]) nm0_spec_validEntries (kt0_spec_validEntries (fin_spec_validEntries list0 room1 kk)) (n + 1) (can0_spec_validEntries list0 room1 xi5) = T0_spec_validEntries list0 room1 xi5 (fun r0 => kk (.one (.c (.v (.bool r0)))) []) (fun list0 room1 xi5 xk6 => ∃ j, iter (evF TT cs_spec_validEntries 75 an_spec_validEntries Try.f85 [1, 0, 1, 0, 0, 1, 0, 0, 1, 1, 0, 0]) nm1_spec_validEntries (kt1_spec_validEntries (fin_spec_validEntries list0 room1 kk) (iter (evF TT cs_spec_validEntries 75 an_spec_validEntries Try.f85 [1, 0, 1, 0, 0]) nm0_spec_validEntries (kt0_spec_validEntries (fin_spec_validEntries list0 room1 kk)) n)) j (can1_spec_validEntries list0 room1 xi5 xk6)) := by kernel_rfl
theorem l0_spec_validEntries (list0 : List (Int × Int × Int)) (room1 : Int) (kk : AV → List A1 → Prop) : ∀ (n : Nat) (xi5 : Int), iter (evF TT cs_spec_validEntries 75 an_spec_validEntries Try.f85 [1, 0, 1, 0, 0]) nm0_spec_validEntries (kt0_spec_validEntries (fin_spec_validEntries list0 room1 kk)) n (can0_spec_validEntries list0 room1 xi5) = L0_spec_validEntries list0 room1 (fun r0 => kk (.one (.c (.v (.bool r0)))) []) n xi5 := by
  intro n
  induction n generalizing list0 room1 with
  | zero => intros; rfl
  | succ n ih =>
    intro xi5
    rw [r0_spec_validEntries list0 room1 kk n xi5]
    have hb : ∀ (list0 : List (Int × Int × Int)) (room1 : Int), (fun xi5 => iter (evF TT cs_spec_validEntries 75 an_spec_validEntries Try.f85 [1, 0, 1, 0, 0]) nm0_spec_validEntries (kt0_spec_validEntries (fin_spec_validEntries list0 room1 kk)) n (can0_spec_validEntries list0 room1 xi5)) = L0_spec_validEntries list0 room1 (fun r0 => kk (.one (.c (.v (.bool r0)))) []) n := by
      intro list0 room1
      funext xi5; exact ih list0 room1 xi5
    have hi1 : (fun list0 room1 xi5 xk6 => ∃ j, iter (evF TT cs_spec_validEntries 75 an_spec_validEntries Try.f85 [1, 0, 1, 0, 0, 1, 0, 0, 1, 1, 0, 0]) nm1_spec_validEntries (kt1_spec_validEntries (fin_spec_validEntries list0 room1 kk) (iter (evF TT cs_spec_validEntries 75 an_spec_validEntries Try.f85 [1, 0, 1, 0, 0]) nm0_spec_validEntries (kt0_spec_validEntries (fin_spec_validEntries list0 room1 kk)) n)) j (can1_spec_validEntries list0 room1 xi5 xk6)) = (fun list0 room1 xi5 xk6 => ∃ j, L1_spec_validEntries list0 room1 xi5 (fun r0 => kk (.one (.c (.v (.bool r0)))) []) (L0_spec_validEntries list0 room1 (fun r0 => kk (.one (.c (.v (.bool r0)))) []) n) j xk6) := by
      funext list0 room1 xi5 xk6
      refine congrArg Exists (funext fun j => ?_)
      rw [l1_spec_validEntries list0 room1 xi5 kk (iter (evF TT cs_spec_validEntries 75 an_spec_validEntries Try.f85 [1, 0, 1, 0, 0]) nm0_spec_validEntries (kt0_spec_validEntries (fin_spec_validEntries list0 room1 kk)) n) j xk6]
      rw [hb]
    rw [hi1]
    rfl
theorem g_spec_validEntries (list0 : List (Int × Int × Int)) (room1 : Int) (kk : AV → List A1 → Prop) :
    ev TT cs_spec_validEntries 75 an_spec_validEntries (Try.f85.body.getD .skip) (st0 con_spec_validEntries [.c (.ro .iii list0), .c (.v (.int .i64 room1))]) (fin TT con_spec_validEntries Try.f85.results.toList [.c .sc] [.c (.ro .iii list0), .c (.v (.int .i64 room1))] kk) = G_spec_validEntries list0 room1 (fun list0 room1 xi5 => ∃ j, iter (evF TT cs_spec_validEntries 75 an_spec_validEntries Try.f85 [1, 0, 1, 0, 0]) nm0_spec_validEntries (kt0_spec_validEntries (fin_spec_validEntries list0 room1 kk)) j (can0_spec_validEntries list0 room1 xi5)) := by kernel_rfl
theorem e_spec_validEntries (list0 : List (Int × Int × Int)) (room1 : Int) (kk : AV → List A1 → Prop) :
    ev TT cs_spec_validEntries 75 an_spec_validEntries (Try.f85.body.getD .skip) (st0 con_spec_validEntries [.c (.ro .iii list0), .c (.v (.int .i64 room1))]) (fin TT con_spec_validEntries Try.f85.results.toList [.c .sc] [.c (.ro .iii list0), .c (.v (.int .i64 room1))] kk) = S_spec_validEntries list0 room1 (fun r0 => kk (.one (.c (.v (.bool r0)))) []) := by
  rw [g_spec_validEntries]
  have hi0 : (fun list0 room1 xi5 => ∃ j, iter (evF TT cs_spec_validEntries 75 an_spec_validEntries Try.f85 [1, 0, 1, 0, 0]) nm0_spec_validEntries (kt0_spec_validEntries (fin_spec_validEntries list0 room1 kk)) j (can0_spec_validEntries list0 room1 xi5)) = (fun list0 room1 xi5 => ∃ j, L0_spec_validEntries list0 room1 (fun r0 => kk (.one (.c (.v (.bool r0)))) []) j xi5) := by
    funext list0 room1 xi5
    refine congrArg Exists (funext fun j => ?_)
    rw [l0_spec_validEntries list0 room1 kk j xi5]
  rw [hi0]
  rfl
theorem clok_spec_validEntries : ConOK Try.prog cl_spec_validEntries := consCons h_spec_inRange ⟨Try.f60, Try.func60, by kernel_rfl, ne_of_beq (by kernel_rfl)⟩ (consNil)
theorem cok_spec_validEntries : ConsOK Try.prog 75 cs_spec_validEntries := ⟨clok_spec_validEntries, inlNil⟩
theorem i_spec_validEntries {vs : List A1} {kk : AV → List A1 → Prop} {motive : List A1 → Prop} (h : con_spec_validEntries.F vs kk) (H : ∀ (list0 : List (Int × Int × Int)) (room1 : Int), F_spec_validEntries list0 room1 (fun r0 => kk (.one (.c (.v (.bool r0)))) []) → motive [.c (.ro .iii list0), .c (.v (.int .i64 room1))]) : motive vs := by
  unfold con_spec_validEntries at h
  dsimp only at h
  split at h
  · exact H _ _ h
  · exact h.elim
theorem h_spec_validEntries : Holds Try.prog 85 con_spec_validEntries := by
  refine holds_of_ev (rt := [.c .sc]) (T := TT) (Γ := cs_spec_validEntries) (an := an_spec_validEntries) (N := 75) (c := Try.f85.body.getD .skip) Try.func85 (by kernel_rfl) Try.ntmps85 (by decide) (by decide) mixed tabOK cok_spec_validEntries (by kernel_rfl) ?_
  intro vs kk _ hF
  exact i_spec_validEntries (motive := fun vs => Goes (ev TT cs_spec_validEntries 75 an_spec_validEntries (Try.f85.body.getD .skip) (st0 con_spec_validEntries vs) (fin TT con_spec_validEntries Try.f85.results.toList [.c .sc] vs kk))) hF (fun list0 room1 hF => goes_of (e_spec_validEntries list0 room1 kk) (F_spec_validEntries_S hF))
def con_spec_ValidEntries : Con := ⟨[.rd, .rd], true, [.c (.sl .iii), .c (.sc)], fun vs k => match vs with
    | [.c (.ro .iii list0), .c (.v (.int .i64 room1))] => F_spec_ValidEntries list0 room1 (fun r0 => k (.one (.c (.v (.bool r0)))) [])
    | _ => False, false⟩
def cl_spec_ValidEntries : List (FuncId × Con) := [(85, con_spec_validEntries)]
def an_spec_ValidEntries : Ann := ⟨[], [], []⟩
def cs_spec_ValidEntries : Cons := ⟨cl_spec_ValidEntries, [], 0, [], []⟩
def fin_spec_ValidEntries (list0 : List (Int × Int × Int)) (room1 : Int) (kk : AV → List A1 → Prop) : Kt := fin TT con_spec_ValidEntries Try.f34.results.toList [.c .sc] [.c (.ro .iii list0), .c (.v (.int .i64 room1))] kk
theorem g_spec_ValidEntries (list0 : List (Int × Int × Int)) (room1 : Int) (kk : AV → List A1 → Prop) :
    ev TT cs_spec_ValidEntries 8 an_spec_ValidEntries (Try.f34.body.getD .skip) (st0 con_spec_ValidEntries [.c (.ro .iii list0), .c (.v (.int .i64 room1))]) (fin TT con_spec_ValidEntries Try.f34.results.toList [.c .sc] [.c (.ro .iii list0), .c (.v (.int .i64 room1))] kk) = G_spec_ValidEntries list0 room1 (fun r0 => kk (.one (.c (.v (.bool r0)))) []) := by kernel_rfl
theorem e_spec_ValidEntries (list0 : List (Int × Int × Int)) (room1 : Int) (kk : AV → List A1 → Prop) :
    ev TT cs_spec_ValidEntries 8 an_spec_ValidEntries (Try.f34.body.getD .skip) (st0 con_spec_ValidEntries [.c (.ro .iii list0), .c (.v (.int .i64 room1))]) (fin TT con_spec_ValidEntries Try.f34.results.toList [.c .sc] [.c (.ro .iii list0), .c (.v (.int .i64 room1))] kk) = S_spec_ValidEntries list0 room1 (fun r0 => kk (.one (.c (.v (.bool r0)))) []) := by
  rw [g_spec_ValidEntries]
  rfl
theorem clok_spec_ValidEntries : ConOK Try.prog cl_spec_ValidEntries := consCons h_spec_validEntries ⟨Try.f85, Try.func85, by kernel_rfl, ne_of_beq (by kernel_rfl)⟩ (consNil)
theorem cok_spec_ValidEntries : ConsOK Try.prog 8 cs_spec_ValidEntries := ⟨clok_spec_ValidEntries, inlNil⟩
theorem i_spec_ValidEntries {vs : List A1} {kk : AV → List A1 → Prop} {motive : List A1 → Prop} (h : con_spec_ValidEntries.F vs kk) (H : ∀ (list0 : List (Int × Int × Int)) (room1 : Int), F_spec_ValidEntries list0 room1 (fun r0 => kk (.one (.c (.v (.bool r0)))) []) → motive [.c (.ro .iii list0), .c (.v (.int .i64 room1))]) : motive vs := by
  unfold con_spec_ValidEntries at h
  dsimp only at h
  split at h
  · exact H _ _ h
  · exact h.elim
theorem h_spec_ValidEntries : Holds Try.prog 34 con_spec_ValidEntries := by
  refine holds_of_ev (rt := [.c .sc]) (T := TT) (Γ := cs_spec_ValidEntries) (an := an_spec_ValidEntries) (N := 8) (c := Try.f34.body.getD .skip) Try.func34 (by kernel_rfl) Try.ntmps34 (by decide) (by decide) mixed tabOK cok_spec_ValidEntries (by kernel_rfl) ?_
  intro vs kk _ hF
  exact i_spec_ValidEntries (motive := fun vs => Goes (ev TT cs_spec_ValidEntries 8 an_spec_ValidEntries (Try.f34.body.getD .skip) (st0 con_spec_ValidEntries vs) (fin TT con_spec_ValidEntries Try.f34.results.toList [.c .sc] vs kk))) hF (fun list0 room1 hF => goes_of (e_spec_ValidEntries list0 room1 kk) (F_spec_ValidEntries_S hF))
def con_impl_validRoom : Con := ⟨[.rd], true, [.c (.sc)], fun vs k => match vs with
    | [.c (.v (.int .i64 room0))] => F_impl_validRoom room0 (fun r0 => k (.one (.c (.v (.bool r0)))) [])
    | _ => False, false⟩
def cl_impl_validRoom : List (FuncId × Con) := []
def an_impl_validRoom : Ann := ⟨[], [], []⟩
def cs_impl_validRoom : Cons := ⟨cl_impl_validRoom, [], 0, [], []⟩
def fin_impl_validRoom (room0 : Int) (kk : AV → List A1 → Prop) : Kt := fin TT con_impl_validRoom Try.f57.results.toList [.c .sc] [.c (.v (.int .i64 room0))] kk
theorem g_impl_validRoom (room0 : Int) (kk : AV → List A1 → Prop) :
    ev TT cs_impl_validRoom 9 an_impl_validRoom (Try.f57.body.getD .skip) (st0 con_impl_validRoom [.c (.v (.int .i64 room0))]) (fin TT con_impl_validRoom Try.f57.results.toList [.c .sc] [.c (.v (.int .i64 room0))] kk) = G_impl_validRoom room0 (fun r0 => kk (.one (.c (.v (.bool r0)))) []) := by kernel_rfl
theorem e_impl_validRoom (room0 : Int) (kk : AV → List A1 → Prop) :
    ev TT cs_impl_validRoom 9 an_impl_validRoom (Try.f57.body.getD .skip) (st0 con_impl_validRoom [.c (.v (.int .i64 room0))]) (fin TT con_impl_validRoom Try.f57.results.toList [.c .sc] [.c (.v (.int .i64 room0))] kk) = S_impl_validRoom room0 (fun r0 => kk (.one (.c (.v (.bool r0)))) []) := by
  rw [g_impl_validRoom]
  rfl
theorem clok_impl_validRoom : ConOK Try.prog cl_impl_validRoom := consNil
theorem cok_impl_validRoom : ConsOK Try.prog 9 cs_impl_validRoom := ⟨clok_impl_validRoom, inlNil⟩
theorem i_impl_validRoom {vs : List A1} {kk : AV → List A1 → Prop} {motive : List A1 → Prop} (h : con_impl_validRoom.F vs kk) (H : ∀ (room0 : Int), F_impl_validRoom room0 (fun r0 => kk (.one (.c (.v (.bool r0)))) []) → motive [.c (.v (.int .i64 room0))]) : motive vs := by
  unfold con_impl_validRoom at h
  dsimp only at h
  split at h
  · exact H _ h
  · exact h.elim
theorem h_impl_validRoom : Holds Try.prog 57 con_impl_validRoom := by
  refine holds_of_ev (rt := [.c .sc]) (T := TT) (Γ := cs_impl_validRoom) (an := an_impl_validRoom) (N := 9) (c := Try.f57.body.getD .skip) Try.func57 (by kernel_rfl) Try.ntmps57 (by decide) (by decide) mixed tabOK cok_impl_validRoom (by kernel_rfl) ?_
  intro vs kk _ hF
  exact i_impl_validRoom (motive := fun vs => Goes (ev TT cs_impl_validRoom 9 an_impl_validRoom (Try.f57.body.getD .skip) (st0 con_impl_validRoom vs) (fin TT con_impl_validRoom Try.f57.results.toList [.c .sc] vs kk))) hF (fun room0 hF => goes_of (e_impl_validRoom room0 kk) (F_impl_validRoom_S hF))
def con_impl_validKey : Con := ⟨[.rd], true, [.c (.sc)], fun vs k => match vs with
    | [.c (.v (.int .i64 key0))] => F_impl_validKey key0 (fun r0 => k (.one (.c (.v (.bool r0)))) [])
    | _ => False, false⟩
def cl_impl_validKey : List (FuncId × Con) := []
def an_impl_validKey : Ann := ⟨[], [], []⟩
def cs_impl_validKey : Cons := ⟨cl_impl_validKey, [], 0, [], []⟩
def fin_impl_validKey (key0 : Int) (kk : AV → List A1 → Prop) : Kt := fin TT con_impl_validKey Try.f64.results.toList [.c .sc] [.c (.v (.int .i64 key0))] kk
theorem g_impl_validKey (key0 : Int) (kk : AV → List A1 → Prop) :
    ev TT cs_impl_validKey 9 an_impl_validKey (Try.f64.body.getD .skip) (st0 con_impl_validKey [.c (.v (.int .i64 key0))]) (fin TT con_impl_validKey Try.f64.results.toList [.c .sc] [.c (.v (.int .i64 key0))] kk) = G_impl_validKey key0 (fun r0 => kk (.one (.c (.v (.bool r0)))) []) := by kernel_rfl
theorem e_impl_validKey (key0 : Int) (kk : AV → List A1 → Prop) :
    ev TT cs_impl_validKey 9 an_impl_validKey (Try.f64.body.getD .skip) (st0 con_impl_validKey [.c (.v (.int .i64 key0))]) (fin TT con_impl_validKey Try.f64.results.toList [.c .sc] [.c (.v (.int .i64 key0))] kk) = S_impl_validKey key0 (fun r0 => kk (.one (.c (.v (.bool r0)))) []) := by
  rw [g_impl_validKey]
  rfl
theorem clok_impl_validKey : ConOK Try.prog cl_impl_validKey := consNil
theorem cok_impl_validKey : ConsOK Try.prog 9 cs_impl_validKey := ⟨clok_impl_validKey, inlNil⟩
theorem i_impl_validKey {vs : List A1} {kk : AV → List A1 → Prop} {motive : List A1 → Prop} (h : con_impl_validKey.F vs kk) (H : ∀ (key0 : Int), F_impl_validKey key0 (fun r0 => kk (.one (.c (.v (.bool r0)))) []) → motive [.c (.v (.int .i64 key0))]) : motive vs := by
  unfold con_impl_validKey at h
  dsimp only at h
  split at h
  · exact H _ h
  · exact h.elim
theorem h_impl_validKey : Holds Try.prog 64 con_impl_validKey := by
  refine holds_of_ev (rt := [.c .sc]) (T := TT) (Γ := cs_impl_validKey) (an := an_impl_validKey) (N := 9) (c := Try.f64.body.getD .skip) Try.func64 (by kernel_rfl) Try.ntmps64 (by decide) (by decide) mixed tabOK cok_impl_validKey (by kernel_rfl) ?_
  intro vs kk _ hF
  exact i_impl_validKey (motive := fun vs => Goes (ev TT cs_impl_validKey 9 an_impl_validKey (Try.f64.body.getD .skip) (st0 con_impl_validKey vs) (fin TT con_impl_validKey Try.f64.results.toList [.c .sc] vs kk))) hF (fun key0 hF => goes_of (e_impl_validKey key0 kk) (F_impl_validKey_S hF))
def con_impl_validTime : Con := ⟨[.rd], true, [.c (.sc)], fun vs k => match vs with
    | [.c (.v (.int .i64 time0))] => F_impl_validTime time0 (fun r0 => k (.one (.c (.v (.bool r0)))) [])
    | _ => False, false⟩
def cl_impl_validTime : List (FuncId × Con) := []
def an_impl_validTime : Ann := ⟨[], [], []⟩
def cs_impl_validTime : Cons := ⟨cl_impl_validTime, [], 0, [], []⟩
def fin_impl_validTime (time0 : Int) (kk : AV → List A1 → Prop) : Kt := fin TT con_impl_validTime Try.f81.results.toList [.c .sc] [.c (.v (.int .i64 time0))] kk
theorem g_impl_validTime (time0 : Int) (kk : AV → List A1 → Prop) :
    ev TT cs_impl_validTime 9 an_impl_validTime (Try.f81.body.getD .skip) (st0 con_impl_validTime [.c (.v (.int .i64 time0))]) (fin TT con_impl_validTime Try.f81.results.toList [.c .sc] [.c (.v (.int .i64 time0))] kk) = G_impl_validTime time0 (fun r0 => kk (.one (.c (.v (.bool r0)))) []) := by kernel_rfl
theorem e_impl_validTime (time0 : Int) (kk : AV → List A1 → Prop) :
    ev TT cs_impl_validTime 9 an_impl_validTime (Try.f81.body.getD .skip) (st0 con_impl_validTime [.c (.v (.int .i64 time0))]) (fin TT con_impl_validTime Try.f81.results.toList [.c .sc] [.c (.v (.int .i64 time0))] kk) = S_impl_validTime time0 (fun r0 => kk (.one (.c (.v (.bool r0)))) []) := by
  rw [g_impl_validTime]
  rfl
theorem clok_impl_validTime : ConOK Try.prog cl_impl_validTime := consNil
theorem cok_impl_validTime : ConsOK Try.prog 9 cs_impl_validTime := ⟨clok_impl_validTime, inlNil⟩
theorem i_impl_validTime {vs : List A1} {kk : AV → List A1 → Prop} {motive : List A1 → Prop} (h : con_impl_validTime.F vs kk) (H : ∀ (time0 : Int), F_impl_validTime time0 (fun r0 => kk (.one (.c (.v (.bool r0)))) []) → motive [.c (.v (.int .i64 time0))]) : motive vs := by
  unfold con_impl_validTime at h
  dsimp only at h
  split at h
  · exact H _ h
  · exact h.elim
theorem h_impl_validTime : Holds Try.prog 81 con_impl_validTime := by
  refine holds_of_ev (rt := [.c .sc]) (T := TT) (Γ := cs_impl_validTime) (an := an_impl_validTime) (N := 9) (c := Try.f81.body.getD .skip) Try.func81 (by kernel_rfl) Try.ntmps81 (by decide) (by decide) mixed tabOK cok_impl_validTime (by kernel_rfl) ?_
  intro vs kk _ hF
  exact i_impl_validTime (motive := fun vs => Goes (ev TT cs_impl_validTime 9 an_impl_validTime (Try.f81.body.getD .skip) (st0 con_impl_validTime vs) (fin TT con_impl_validTime Try.f81.results.toList [.c .sc] vs kk))) hF (fun time0 hF => goes_of (e_impl_validTime time0 kk) (F_impl_validTime_S hF))
def con_impl_validEntry : Con := ⟨[.rd], true, [.agg [.sc, .sc, .sc]], fun vs k => match vs with
    | [.agg [.v (.int .i64 e0Key), .v (.int .i64 e0Count), .v (.int .i64 e0Last)]] => F_impl_validEntry e0Key e0Count e0Last (fun r0 => k (.one (.c (.v (.bool r0)))) [])
    | _ => False, false⟩
def cl_impl_validEntry : List (FuncId × Con) := [(64, con_impl_validKey), (81, con_impl_validTime)]
def an_impl_validEntry : Ann := ⟨[], [], []⟩
def cs_impl_validEntry : Cons := ⟨cl_impl_validEntry, [], 0, [], []⟩
def fin_impl_validEntry (e0Key : Int) (e0Count : Int) (e0Last : Int) (kk : AV → List A1 → Prop) : Kt := fin TT con_impl_validEntry Try.f89.results.toList [.c .sc] [.agg [.v (.int .i64 e0Key), .v (.int .i64 e0Count), .v (.int .i64 e0Last)]] kk
theorem g_impl_validEntry (e0Key : Int) (e0Count : Int) (e0Last : Int) (kk : AV → List A1 → Prop) :
    ev TT cs_impl_validEntry 21 an_impl_validEntry (Try.f89.body.getD .skip) (st0 con_impl_validEntry [.agg [.v (.int .i64 e0Key), .v (.int .i64 e0Count), .v (.int .i64 e0Last)]]) (fin TT con_impl_validEntry Try.f89.results.toList [.c .sc] [.agg [.v (.int .i64 e0Key), .v (.int .i64 e0Count), .v (.int .i64 e0Last)]] kk) = G_impl_validEntry e0Key e0Count e0Last (fun r0 => kk (.one (.c (.v (.bool r0)))) []) := by kernel_rfl
theorem e_impl_validEntry (e0Key : Int) (e0Count : Int) (e0Last : Int) (kk : AV → List A1 → Prop) :
    ev TT cs_impl_validEntry 21 an_impl_validEntry (Try.f89.body.getD .skip) (st0 con_impl_validEntry [.agg [.v (.int .i64 e0Key), .v (.int .i64 e0Count), .v (.int .i64 e0Last)]]) (fin TT con_impl_validEntry Try.f89.results.toList [.c .sc] [.agg [.v (.int .i64 e0Key), .v (.int .i64 e0Count), .v (.int .i64 e0Last)]] kk) = S_impl_validEntry e0Key e0Count e0Last (fun r0 => kk (.one (.c (.v (.bool r0)))) []) := by
  rw [g_impl_validEntry]
  rfl
theorem clok_impl_validEntry : ConOK Try.prog cl_impl_validEntry := consCons h_impl_validKey ⟨Try.f64, Try.func64, by kernel_rfl, ne_of_beq (by kernel_rfl)⟩ (consCons h_impl_validTime ⟨Try.f81, Try.func81, by kernel_rfl, ne_of_beq (by kernel_rfl)⟩ (consNil))
theorem cok_impl_validEntry : ConsOK Try.prog 21 cs_impl_validEntry := ⟨clok_impl_validEntry, inlNil⟩
theorem i_impl_validEntry {vs : List A1} {kk : AV → List A1 → Prop} {motive : List A1 → Prop} (h : con_impl_validEntry.F vs kk) (H : ∀ (e0Key : Int) (e0Count : Int) (e0Last : Int), F_impl_validEntry e0Key e0Count e0Last (fun r0 => kk (.one (.c (.v (.bool r0)))) []) → motive [.agg [.v (.int .i64 e0Key), .v (.int .i64 e0Count), .v (.int .i64 e0Last)]]) : motive vs := by
  unfold con_impl_validEntry at h
  dsimp only at h
  split at h
  · exact H _ _ _ h
  · exact h.elim
theorem h_impl_validEntry : Holds Try.prog 89 con_impl_validEntry := by
  refine holds_of_ev (rt := [.c .sc]) (T := TT) (Γ := cs_impl_validEntry) (an := an_impl_validEntry) (N := 21) (c := Try.f89.body.getD .skip) Try.func89 (by kernel_rfl) Try.ntmps89 (by decide) (by decide) mixed tabOK cok_impl_validEntry (by kernel_rfl) ?_
  intro vs kk _ hF
  exact i_impl_validEntry (motive := fun vs => Goes (ev TT cs_impl_validEntry 21 an_impl_validEntry (Try.f89.body.getD .skip) (st0 con_impl_validEntry vs) (fin TT con_impl_validEntry Try.f89.results.toList [.c .sc] vs kk))) hF (fun e0Key e0Count e0Last hF => goes_of (e_impl_validEntry e0Key e0Count e0Last kk) (F_impl_validEntry_S hF))
def con_impl_Entry_collides : Con := ⟨[.rd, .rd], true, [.agg [.sc, .sc, .sc], .agg [.sc, .sc, .sc]], fun vs k => match vs with
    | [.agg [.v (.int .i64 e0Key), .v (.int .i64 e0Count), .v (.int .i64 e0Last)], .agg [.v (.int .i64 other1Key), .v (.int .i64 other1Count), .v (.int .i64 other1Last)]] => F_impl_Entry_collides e0Key e0Count e0Last other1Key other1Count other1Last (fun r0 => k (.one (.c (.v (.bool r0)))) [])
    | _ => False, false⟩
def cl_impl_Entry_collides : List (FuncId × Con) := []
def an_impl_Entry_collides : Ann := ⟨[], [], []⟩
def cs_impl_Entry_collides : Cons := ⟨cl_impl_Entry_collides, [], 0, [], []⟩
def fin_impl_Entry_collides (e0Key : Int) (e0Count : Int) (e0Last : Int) (other1Key : Int) (other1Count : Int) (other1Last : Int) (kk : AV → List A1 → Prop) : Kt := fin TT con_impl_Entry_collides Try.f91.results.toList [.c .sc] [.agg [.v (.int .i64 e0Key), .v (.int .i64 e0Count), .v (.int .i64 e0Last)], .agg [.v (.int .i64 other1Key), .v (.int .i64 other1Count), .v (.int .i64 other1Last)]] kk
theorem g_impl_Entry_collides (e0Key : Int) (e0Count : Int) (e0Last : Int) (other1Key : Int) (other1Count : Int) (other1Last : Int) (kk : AV → List A1 → Prop) :
    ev TT cs_impl_Entry_collides 17 an_impl_Entry_collides (Try.f91.body.getD .skip) (st0 con_impl_Entry_collides [.agg [.v (.int .i64 e0Key), .v (.int .i64 e0Count), .v (.int .i64 e0Last)], .agg [.v (.int .i64 other1Key), .v (.int .i64 other1Count), .v (.int .i64 other1Last)]]) (fin TT con_impl_Entry_collides Try.f91.results.toList [.c .sc] [.agg [.v (.int .i64 e0Key), .v (.int .i64 e0Count), .v (.int .i64 e0Last)], .agg [.v (.int .i64 other1Key), .v (.int .i64 other1Count), .v (.int .i64 other1Last)]] kk) = G_impl_Entry_collides e0Key e0Count e0Last other1Key other1Count other1Last (fun r0 => kk (.one (.c (.v (.bool r0)))) []) := by kernel_rfl
theorem e_impl_Entry_collides (e0Key : Int) (e0Count : Int) (e0Last : Int) (other1Key : Int) (other1Count : Int) (other1Last : Int) (kk : AV → List A1 → Prop) :
    ev TT cs_impl_Entry_collides 17 an_impl_Entry_collides (Try.f91.body.getD .skip) (st0 con_impl_Entry_collides [.agg [.v (.int .i64 e0Key), .v (.int .i64 e0Count), .v (.int .i64 e0Last)], .agg [.v (.int .i64 other1Key), .v (.int .i64 other1Count), .v (.int .i64 other1Last)]]) (fin TT con_impl_Entry_collides Try.f91.results.toList [.c .sc] [.agg [.v (.int .i64 e0Key), .v (.int .i64 e0Count), .v (.int .i64 e0Last)], .agg [.v (.int .i64 other1Key), .v (.int .i64 other1Count), .v (.int .i64 other1Last)]] kk) = S_impl_Entry_collides e0Key e0Count e0Last other1Key other1Count other1Last (fun r0 => kk (.one (.c (.v (.bool r0)))) []) := by
  rw [g_impl_Entry_collides]
  rfl
theorem clok_impl_Entry_collides : ConOK Try.prog cl_impl_Entry_collides := consNil
theorem cok_impl_Entry_collides : ConsOK Try.prog 17 cs_impl_Entry_collides := ⟨clok_impl_Entry_collides, inlNil⟩
theorem i_impl_Entry_collides {vs : List A1} {kk : AV → List A1 → Prop} {motive : List A1 → Prop} (h : con_impl_Entry_collides.F vs kk) (H : ∀ (e0Key : Int) (e0Count : Int) (e0Last : Int) (other1Key : Int) (other1Count : Int) (other1Last : Int), F_impl_Entry_collides e0Key e0Count e0Last other1Key other1Count other1Last (fun r0 => kk (.one (.c (.v (.bool r0)))) []) → motive [.agg [.v (.int .i64 e0Key), .v (.int .i64 e0Count), .v (.int .i64 e0Last)], .agg [.v (.int .i64 other1Key), .v (.int .i64 other1Count), .v (.int .i64 other1Last)]]) : motive vs := by
  unfold con_impl_Entry_collides at h
  dsimp only at h
  split at h
  · exact H _ _ _ _ _ _ h
  · exact h.elim
theorem h_impl_Entry_collides : Holds Try.prog 91 con_impl_Entry_collides := by
  refine holds_of_ev (rt := [.c .sc]) (T := TT) (Γ := cs_impl_Entry_collides) (an := an_impl_Entry_collides) (N := 17) (c := Try.f91.body.getD .skip) Try.func91 (by kernel_rfl) Try.ntmps91 (by decide) (by decide) mixed tabOK cok_impl_Entry_collides (by kernel_rfl) ?_
  intro vs kk _ hF
  exact i_impl_Entry_collides (motive := fun vs => Goes (ev TT cs_impl_Entry_collides 17 an_impl_Entry_collides (Try.f91.body.getD .skip) (st0 con_impl_Entry_collides vs) (fin TT con_impl_Entry_collides Try.f91.results.toList [.c .sc] vs kk))) hF (fun e0Key e0Count e0Last other1Key other1Count other1Last hF => goes_of (e_impl_Entry_collides e0Key e0Count e0Last other1Key other1Count other1Last kk) (F_impl_Entry_collides_S hF))
def con_slices_IndexFunc_Entry_Entry : Con := ⟨[.rd, .rd], true, [.c (.sl .iii), .c (.fn)], fun vs k => match vs with
    | [.c (.ro .iii s0), .c (.v (.func (.func 91) ⟨[.agg ⟨[.int .i64 f1fa00, .int .i64 f1fa01, .int .i64 f1fa02]⟩]⟩ ⟨[]⟩))] => F_slices_IndexFunc_Entry_Entry_Entry_collides s0 f1fa00 f1fa01 f1fa02 (fun r0 => k (.one (.c (.v (.int .i64 r0)))) [])
    | _ => False, false⟩
def cl_slices_IndexFunc_Entry_Entry_Entry_collides : List (FuncId × Con) := [(91, con_impl_Entry_collides)]
def nm0_slices_IndexFunc_Entry_Entry_Entry_collides : List NStep := [.keep [0, 1, 7, 8] []]
def an_slices_IndexFunc_Entry_Entry_Entry_collides : Ann := ⟨[], [(2, nm0_slices_IndexFunc_Entry_Entry_Entry_collides)], []⟩
def cs_slices_IndexFunc_Entry_Entry_Entry_collides : Cons := ⟨cl_slices_IndexFunc_Entry_Entry_Entry_collides, [], 0, [], []⟩
def can0_slices_IndexFunc_Entry_Entry_Entry_collides (f1fa00 : Int) (f1fa01 : Int) (f1fa02 : Int) (s0 : List (Int × Int × Int)) (xt7 : Int) (xt8 : Int) : St := ⟨[(0, .one (.c (.ro .iii s0))), (1, .one (.c (.v (.func (.func 91) ⟨[.agg ⟨[.int .i64 f1fa00, .int .i64 f1fa01, .int .i64 f1fa02]⟩]⟩ ⟨[]⟩)))), (7, .one (.c (.v (.int .i64 xt7)))), (8, .one (.c (.v (.int .i64 xt8))))], []⟩
def fin_slices_IndexFunc_Entry_Entry_Entry_collides (s0 : List (Int × Int × Int)) (f1fa00 : Int) (f1fa01 : Int) (f1fa02 : Int) (kk : AV → List A1 → Prop) : Kt := fin TT con_slices_IndexFunc_Entry_Entry Try.f120.results.toList [.c .sc] [.c (.ro .iii s0), .c (.v (.func (.func 91) ⟨[.agg ⟨[.int .i64 f1fa00, .int .i64 f1fa01, .int .i64 f1fa02]⟩]⟩ ⟨[]⟩))] kk
def kt0_slices_IndexFunc_Entry_Entry_Entry_collides (kf : Kt) : Kt := blockK 0 (seqK (evF TT cs_slices_IndexFunc_Entry_Entry_Entry_collides 19 an_slices_IndexFunc_Entry_Entry_Entry_collides Try.f120 [1, 1]) (kf))
theorem r0_slices_IndexFunc_Entry_Entry_Entry_collides (s0 : List (Int × Int × Int)) (f1fa00 : Int) (f1fa01 : Int) (f1fa02 : Int) (xt7 : Int) (kk : AV → List A1 → Prop) (n : Nat) (xt8 : Int) :
    iter (evF TT cs_slices_IndexFunc_Entry_Entry_Entry_collides 19 an_slices_IndexFunc_Entry_Entry_Entry_collides Try.f120 [1, 0, 1, 0, 0]) nm0_slices_IndexFunc_Entry_Entry_Entry_collides (kt0_slices_IndexFunc_Entry_Entry_Entry_collides (fin_slices_IndexFunc_Entry_Entry_Entry_collides s0 f1fa00 f1fa01 f1fa02 kk)) (n + 1) (can0_slices_IndexFunc_Entry_Entry_Entry_collides f1fa00 f1fa01 f1fa02 s0 xt7 xt8) = T0_slices_IndexFunc_Entry_Entry_Entry_collides f1fa00 f1fa01 f1fa02 s0 xt7 xt8 (fun r0 => kk (.one (.c (.v (.int .i64 r0)))) []) (fun xt8 => iter (evF TT cs_slices_IndexFunc_Entry_Entry_Entry_collides 19 an_slices_IndexFunc_Entry_Entry_Entry_collides Try.f120 [1, 0, 1, 0, 0]) nm0_slices_IndexFunc_Entry_Entry_Entry_collides (kt0_slices_IndexFunc_Entry_Entry_Entry_collides (fin_slices_IndexFunc_Entry_Entry_Entry_collides s0 f1fa00 f1fa01 f1fa02 kk)) n (can0_slices_IndexFunc_Entry_Entry_Entry_collides f1fa00 f1fa01 f1fa02 s0 xt7 xt8)) := by kernel_rfl
theorem l0_slices_IndexFunc_Entry_Entry_Entry_collides (s0 : List (Int × Int × Int)) (f1fa00 : Int) (f1fa01 : Int) (f1fa02 : Int) (xt7 : Int) (kk : AV → List A1 → Prop) : ∀ (n : Nat) (xt8 : Int), iter (evF TT cs_slices_IndexFunc_Entry_Entry_Entry_collides 19 an_slices_IndexFunc_Entry_Entry_Entry_collides Try.f120 [1, 0, 1, 0, 0]) nm0_slices_IndexFunc_Entry_Entry_Entry_collides (kt0_slices_IndexFunc_Entry_Entry_Entry_collides (fin_slices_IndexFunc_Entry_Entry_Entry_collides s0 f1fa00 f1fa01 f1fa02 kk)) n (can0_slices_IndexFunc_Entry_Entry_Entry_collides f1fa00 f1fa01 f1fa02 s0 xt7 xt8) = L0_slices_IndexFunc_Entry_Entry_Entry_collides f1fa00 f1fa01 f1fa02 s0 xt7 (fun r0 => kk (.one (.c (.v (.int .i64 r0)))) []) n xt8 := by
  intro n
  induction n with
  | zero => intros; rfl
  | succ n ih =>
    intro xt8
    rw [r0_slices_IndexFunc_Entry_Entry_Entry_collides s0 f1fa00 f1fa01 f1fa02 xt7 kk n xt8]
    have hb : (fun xt8 => iter (evF TT cs_slices_IndexFunc_Entry_Entry_Entry_collides 19 an_slices_IndexFunc_Entry_Entry_Entry_collides Try.f120 [1, 0, 1, 0, 0]) nm0_slices_IndexFunc_Entry_Entry_Entry_collides (kt0_slices_IndexFunc_Entry_Entry_Entry_collides (fin_slices_IndexFunc_Entry_Entry_Entry_collides s0 f1fa00 f1fa01 f1fa02 kk)) n (can0_slices_IndexFunc_Entry_Entry_Entry_collides f1fa00 f1fa01 f1fa02 s0 xt7 xt8)) = L0_slices_IndexFunc_Entry_Entry_Entry_collides f1fa00 f1fa01 f1fa02 s0 xt7 (fun r0 => kk (.one (.c (.v (.int .i64 r0)))) []) n := by
      funext xt8; exact ih xt8
    rw [hb]
    rfl
theorem g_slices_IndexFunc_Entry_Entry_Entry_collides (s0 : List (Int × Int × Int)) (f1fa00 : Int) (f1fa01 : Int) (f1fa02 : Int) (kk : AV → List A1 → Prop) :
    ev TT cs_slices_IndexFunc_Entry_Entry_Entry_collides 19 an_slices_IndexFunc_Entry_Entry_Entry_collides (Try.f120.body.getD .skip) (st0 con_slices_IndexFunc_Entry_Entry [.c (.ro .iii s0), .c (.v (.func (.func 91) ⟨[.agg ⟨[.int .i64 f1fa00, .int .i64 f1fa01, .int .i64 f1fa02]⟩]⟩ ⟨[]⟩))]) (fin TT con_slices_IndexFunc_Entry_Entry Try.f120.results.toList [.c .sc] [.c (.ro .iii s0), .c (.v (.func (.func 91) ⟨[.agg ⟨[.int .i64 f1fa00, .int .i64 f1fa01, .int .i64 f1fa02]⟩]⟩ ⟨[]⟩))] kk) = G_slices_IndexFunc_Entry_Entry_Entry_collides s0 f1fa00 f1fa01 f1fa02 (fun f1fa00 f1fa01 f1fa02 s0 xt7 xt8 => ∃ j, iter (evF TT cs_slices_IndexFunc_Entry_Entry_Entry_collides 19 an_slices_IndexFunc_Entry_Entry_Entry_collides Try.f120 [1, 0, 1, 0, 0]) nm0_slices_IndexFunc_Entry_Entry_Entry_collides (kt0_slices_IndexFunc_Entry_Entry_Entry_collides (fin_slices_IndexFunc_Entry_Entry_Entry_collides s0 f1fa00 f1fa01 f1fa02 kk)) j (can0_slices_IndexFunc_Entry_Entry_Entry_collides f1fa00 f1fa01 f1fa02 s0 xt7 xt8)) := by kernel_rfl
theorem e_slices_IndexFunc_Entry_Entry_Entry_collides (s0 : List (Int × Int × Int)) (f1fa00 : Int) (f1fa01 : Int) (f1fa02 : Int) (kk : AV → List A1 → Prop) :
    ev TT cs_slices_IndexFunc_Entry_Entry_Entry_collides 19 an_slices_IndexFunc_Entry_Entry_Entry_collides (Try.f120.body.getD .skip) (st0 con_slices_IndexFunc_Entry_Entry [.c (.ro .iii s0), .c (.v (.func (.func 91) ⟨[.agg ⟨[.int .i64 f1fa00, .int .i64 f1fa01, .int .i64 f1fa02]⟩]⟩ ⟨[]⟩))]) (fin TT con_slices_IndexFunc_Entry_Entry Try.f120.results.toList [.c .sc] [.c (.ro .iii s0), .c (.v (.func (.func 91) ⟨[.agg ⟨[.int .i64 f1fa00, .int .i64 f1fa01, .int .i64 f1fa02]⟩]⟩ ⟨[]⟩))] kk) = S_slices_IndexFunc_Entry_Entry_Entry_collides s0 f1fa00 f1fa01 f1fa02 (fun r0 => kk (.one (.c (.v (.int .i64 r0)))) []) := by
  rw [g_slices_IndexFunc_Entry_Entry_Entry_collides]
  have hi0 : (fun f1fa00 f1fa01 f1fa02 s0 xt7 xt8 => ∃ j, iter (evF TT cs_slices_IndexFunc_Entry_Entry_Entry_collides 19 an_slices_IndexFunc_Entry_Entry_Entry_collides Try.f120 [1, 0, 1, 0, 0]) nm0_slices_IndexFunc_Entry_Entry_Entry_collides (kt0_slices_IndexFunc_Entry_Entry_Entry_collides (fin_slices_IndexFunc_Entry_Entry_Entry_collides s0 f1fa00 f1fa01 f1fa02 kk)) j (can0_slices_IndexFunc_Entry_Entry_Entry_collides f1fa00 f1fa01 f1fa02 s0 xt7 xt8)) = (fun f1fa00 f1fa01 f1fa02 s0 xt7 xt8 => ∃ j, L0_slices_IndexFunc_Entry_Entry_Entry_collides f1fa00 f1fa01 f1fa02 s0 xt7 (fun r0 => kk (.one (.c (.v (.int .i64 r0)))) []) j xt8) := by
    funext f1fa00 f1fa01 f1fa02 s0 xt7 xt8
    refine congrArg Exists (funext fun j => ?_)
    rw [l0_slices_IndexFunc_Entry_Entry_Entry_collides s0 f1fa00 f1fa01 f1fa02 xt7 kk j xt8]
  rw [hi0]
  rfl
theorem clok_slices_IndexFunc_Entry_Entry_Entry_collides : ConOK Try.prog cl_slices_IndexFunc_Entry_Entry_Entry_collides := consCons h_impl_Entry_collides ⟨Try.f91, Try.func91, by kernel_rfl, ne_of_beq (by kernel_rfl)⟩ (consNil)
theorem cok_slices_IndexFunc_Entry_Entry_Entry_collides : ConsOK Try.prog 19 cs_slices_IndexFunc_Entry_Entry_Entry_collides := ⟨clok_slices_IndexFunc_Entry_Entry_Entry_collides, inlNil⟩
theorem i_slices_IndexFunc_Entry_Entry_Entry_collides {vs : List A1} {kk : AV → List A1 → Prop} {motive : List A1 → Prop} (h : con_slices_IndexFunc_Entry_Entry.F vs kk) (H : ∀ (s0 : List (Int × Int × Int)) (f1fa00 : Int) (f1fa01 : Int) (f1fa02 : Int), F_slices_IndexFunc_Entry_Entry_Entry_collides s0 f1fa00 f1fa01 f1fa02 (fun r0 => kk (.one (.c (.v (.int .i64 r0)))) []) → motive [.c (.ro .iii s0), .c (.v (.func (.func 91) ⟨[.agg ⟨[.int .i64 f1fa00, .int .i64 f1fa01, .int .i64 f1fa02]⟩]⟩ ⟨[]⟩))]) : motive vs := by
  unfold con_slices_IndexFunc_Entry_Entry at h
  dsimp only at h
  split at h
  · exact H _ _ _ _ h
  · exact h.elim
theorem h_slices_IndexFunc_Entry_Entry : Holds Try.prog 120 con_slices_IndexFunc_Entry_Entry := by
  refine holds_of_ev (rt := [.c .sc]) (T := TT) (Γ := cs_slices_IndexFunc_Entry_Entry_Entry_collides) (an := an_slices_IndexFunc_Entry_Entry_Entry_collides) (N := 19) (c := Try.f120.body.getD .skip) Try.func120 (by kernel_rfl) Try.ntmps120 (by decide) (by decide) mixed tabOK cok_slices_IndexFunc_Entry_Entry_Entry_collides (by kernel_rfl) ?_
  intro vs kk _ hF
  exact i_slices_IndexFunc_Entry_Entry_Entry_collides (motive := fun vs => Goes (ev TT cs_slices_IndexFunc_Entry_Entry_Entry_collides 19 an_slices_IndexFunc_Entry_Entry_Entry_collides (Try.f120.body.getD .skip) (st0 con_slices_IndexFunc_Entry_Entry vs) (fin TT con_slices_IndexFunc_Entry_Entry Try.f120.results.toList [.c .sc] vs kk))) hF (fun s0 f1fa00 f1fa01 f1fa02 hF => goes_of (e_slices_IndexFunc_Entry_Entry_Entry_collides s0 f1fa00 f1fa01 f1fa02 kk) (F_slices_IndexFunc_Entry_Entry_Entry_collides_S hF))
def con_slices_ContainsFunc_Entry_Entry : Con := ⟨[.rd, .rd], true, [.c (.sl .iii), .c (.fn)], fun vs k => match vs with
    | [.c (.ro .iii s0), .c (.v (.func (.func 91) ⟨[.agg ⟨[.int .i64 f1fa00, .int .i64 f1fa01, .int .i64 f1fa02]⟩]⟩ ⟨[]⟩))] => F_slices_ContainsFunc_Entry_Entry_Entry_collides s0 f1fa00 f1fa01 f1fa02 (fun r0 => k (.one (.c (.v (.bool r0)))) [])
    | _ => False, false⟩
def cl_slices_ContainsFunc_Entry_Entry_Entry_collides : List (FuncId × Con) := [(120, con_slices_IndexFunc_Entry_Entry)]
def an_slices_ContainsFunc_Entry_Entry_Entry_collides : Ann := ⟨[], [], []⟩
def cs_slices_ContainsFunc_Entry_Entry_Entry_collides : Cons := ⟨cl_slices_ContainsFunc_Entry_Entry_Entry_collides, [], 0, [], []⟩
def fin_slices_ContainsFunc_Entry_Entry_Entry_collides (s0 : List (Int × Int × Int)) (f1fa00 : Int) (f1fa01 : Int) (f1fa02 : Int) (kk : AV → List A1 → Prop) : Kt := fin TT con_slices_ContainsFunc_Entry_Entry Try.f90.results.toList [.c .sc] [.c (.ro .iii s0), .c (.v (.func (.func 91) ⟨[.agg ⟨[.int .i64 f1fa00, .int .i64 f1fa01, .int .i64 f1fa02]⟩]⟩ ⟨[]⟩))] kk
theorem g_slices_ContainsFunc_Entry_Entry_Entry_collides (s0 : List (Int × Int × Int)) (f1fa00 : Int) (f1fa01 : Int) (f1fa02 : Int) (kk : AV → List A1 → Prop) :
    ev TT cs_slices_ContainsFunc_Entry_Entry_Entry_collides 9 an_slices_ContainsFunc_Entry_Entry_Entry_collides (Try.f90.body.getD .skip) (st0 con_slices_ContainsFunc_Entry_Entry [.c (.ro .iii s0), .c (.v (.func (.func 91) ⟨[.agg ⟨[.int .i64 f1fa00, .int .i64 f1fa01, .int .i64 f1fa02]⟩]⟩ ⟨[]⟩))]) (fin TT con_slices_ContainsFunc_Entry_Entry Try.f90.results.toList [.c .sc] [.c (.ro .iii s0), .c (.v (.func (.func 91) ⟨[.agg ⟨[.int .i64 f1fa00, .int .i64 f1fa01, .int .i64 f1fa02]⟩]⟩ ⟨[]⟩))] kk) = G_slices_ContainsFunc_Entry_Entry_Entry_collides s0 f1fa00 f1fa01 f1fa02 (fun r0 => kk (.one (.c (.v (.bool r0)))) []) := by kernel_rfl
theorem e_slices_ContainsFunc_Entry_Entry_Entry_collides (s0 : List (Int × Int × Int)) (f1fa00 : Int) (f1fa01 : Int) (f1fa02 : Int) (kk : AV → List A1 → Prop) :
    ev TT cs_slices_ContainsFunc_Entry_Entry_Entry_collides 9 an_slices_ContainsFunc_Entry_Entry_Entry_collides (Try.f90.body.getD .skip) (st0 con_slices_ContainsFunc_Entry_Entry [.c (.ro .iii s0), .c (.v (.func (.func 91) ⟨[.agg ⟨[.int .i64 f1fa00, .int .i64 f1fa01, .int .i64 f1fa02]⟩]⟩ ⟨[]⟩))]) (fin TT con_slices_ContainsFunc_Entry_Entry Try.f90.results.toList [.c .sc] [.c (.ro .iii s0), .c (.v (.func (.func 91) ⟨[.agg ⟨[.int .i64 f1fa00, .int .i64 f1fa01, .int .i64 f1fa02]⟩]⟩ ⟨[]⟩))] kk) = S_slices_ContainsFunc_Entry_Entry_Entry_collides s0 f1fa00 f1fa01 f1fa02 (fun r0 => kk (.one (.c (.v (.bool r0)))) []) := by
  rw [g_slices_ContainsFunc_Entry_Entry_Entry_collides]
  rfl
theorem clok_slices_ContainsFunc_Entry_Entry_Entry_collides : ConOK Try.prog cl_slices_ContainsFunc_Entry_Entry_Entry_collides := consCons h_slices_IndexFunc_Entry_Entry ⟨Try.f120, Try.func120, by kernel_rfl, ne_of_beq (by kernel_rfl)⟩ (consNil)
theorem cok_slices_ContainsFunc_Entry_Entry_Entry_collides : ConsOK Try.prog 9 cs_slices_ContainsFunc_Entry_Entry_Entry_collides := ⟨clok_slices_ContainsFunc_Entry_Entry_Entry_collides, inlNil⟩
theorem i_slices_ContainsFunc_Entry_Entry_Entry_collides {vs : List A1} {kk : AV → List A1 → Prop} {motive : List A1 → Prop} (h : con_slices_ContainsFunc_Entry_Entry.F vs kk) (H : ∀ (s0 : List (Int × Int × Int)) (f1fa00 : Int) (f1fa01 : Int) (f1fa02 : Int), F_slices_ContainsFunc_Entry_Entry_Entry_collides s0 f1fa00 f1fa01 f1fa02 (fun r0 => kk (.one (.c (.v (.bool r0)))) []) → motive [.c (.ro .iii s0), .c (.v (.func (.func 91) ⟨[.agg ⟨[.int .i64 f1fa00, .int .i64 f1fa01, .int .i64 f1fa02]⟩]⟩ ⟨[]⟩))]) : motive vs := by
  unfold con_slices_ContainsFunc_Entry_Entry at h
  dsimp only at h
  split at h
  · exact H _ _ _ _ h
  · exact h.elim
theorem h_slices_ContainsFunc_Entry_Entry : Holds Try.prog 90 con_slices_ContainsFunc_Entry_Entry := by
  refine holds_of_ev (rt := [.c .sc]) (T := TT) (Γ := cs_slices_ContainsFunc_Entry_Entry_Entry_collides) (an := an_slices_ContainsFunc_Entry_Entry_Entry_collides) (N := 9) (c := Try.f90.body.getD .skip) Try.func90 (by kernel_rfl) Try.ntmps90 (by decide) (by decide) mixed tabOK cok_slices_ContainsFunc_Entry_Entry_Entry_collides (by kernel_rfl) ?_
  intro vs kk _ hF
  exact i_slices_ContainsFunc_Entry_Entry_Entry_collides (motive := fun vs => Goes (ev TT cs_slices_ContainsFunc_Entry_Entry_Entry_collides 9 an_slices_ContainsFunc_Entry_Entry_Entry_collides (Try.f90.body.getD .skip) (st0 con_slices_ContainsFunc_Entry_Entry vs) (fin TT con_slices_ContainsFunc_Entry_Entry Try.f90.results.toList [.c .sc] vs kk))) hF (fun s0 f1fa00 f1fa01 f1fa02 hF => goes_of (e_slices_ContainsFunc_Entry_Entry_Entry_collides s0 f1fa00 f1fa01 f1fa02 kk) (F_slices_ContainsFunc_Entry_Entry_Entry_collides_S hF))
def con_impl_ValidEntries : Con := ⟨[.rd, .rd], true, [.c (.sl .iii), .c (.sc)], fun vs k => match vs with
    | [.c (.ro .iii list0), .c (.v (.int .i64 room1))] => F_impl_ValidEntries list0 room1 (fun r0 => k (.one (.c (.v (.bool r0)))) [])
    | _ => False, false⟩
def cl_impl_ValidEntries : List (FuncId × Con) := [(57, con_impl_validRoom), (89, con_impl_validEntry), (90, con_slices_ContainsFunc_Entry_Entry)]
def nm0_impl_ValidEntries : List NStep := [.keep [0, 16, 17, 18] []]
def an_impl_ValidEntries : Ann := ⟨[(6, .take 0 (.alt 1 (.take 2 (.take 3 (.take 4 (.take 5 (.take 6 (.take 7 (.take 8 (.alt 9 (.take 10 (.done)) (.none))))))))) (.none)), [96])], [(4, nm0_impl_ValidEntries)], []⟩
def cs_impl_ValidEntries : Cons := ⟨cl_impl_ValidEntries, [], 0, [], []⟩
def can0_impl_ValidEntries (list0 : List (Int × Int × Int)) (xt17 : Int) (xt18 : Int) : St := ⟨[(0, .one (.c (.ro .iii list0))), (16, .one (.c (.ro .iii list0))), (17, .one (.c (.v (.int .i64 xt17)))), (18, .one (.c (.v (.int .i64 xt18))))], []⟩
def fin_impl_ValidEntries (list0 : List (Int × Int × Int)) (room1 : Int) (kk : AV → List A1 → Prop) : Kt := fin TT con_impl_ValidEntries Try.f36.results.toList [.c .sc] [.c (.ro .iii list0), .c (.v (.int .i64 room1))] kk
def kt0_impl_ValidEntries (kf : Kt) : Kt := blockK 0 (seqK (evF TT cs_impl_ValidEntries 35 an_impl_ValidEntries Try.f36 [1, 1, 1]) (kf))
theorem r0_impl_ValidEntries (list0 : List (Int × Int × Int)) (room1 : Int) (xt17 : Int) (kk : AV → List A1 → Prop) (n : Nat) (xt18 : Int) :
    iter (evF TT cs_impl_ValidEntries 35 an_impl_ValidEntries Try.f36 [1, 1, 0, 1, 0, 0]) nm0_impl_ValidEntries (kt0_impl_ValidEntries (fin_impl_ValidEntries list0 room1 kk)) (n + 1) (can0_impl_ValidEntries list0 xt17 xt18) = T0_impl_ValidEntries list0 xt17 xt18 (fun r0 => kk (.one (.c (.v (.bool r0)))) []) (fun xt18 => iter (evF TT cs_impl_ValidEntries 35 an_impl_ValidEntries Try.f36 [1, 1, 0, 1, 0, 0]) nm0_impl_ValidEntries (kt0_impl_ValidEntries (fin_impl_ValidEntries list0 room1 kk)) n (can0_impl_ValidEntries list0 xt17 xt18)) := by kernel_rfl
theorem l0_impl_ValidEntries (list0 : List (Int × Int × Int)) (room1 : Int) (xt17 : Int) (kk : AV → List A1 → Prop) : ∀ (n : Nat) (xt18 : Int), iter (evF TT cs_impl_ValidEntries 35 an_impl_ValidEntries Try.f36 [1, 1, 0, 1, 0, 0]) nm0_impl_ValidEntries (kt0_impl_ValidEntries (fin_impl_ValidEntries list0 room1 kk)) n (can0_impl_ValidEntries list0 xt17 xt18) = L0_impl_ValidEntries list0 xt17 (fun r0 => kk (.one (.c (.v (.bool r0)))) []) n xt18 := by
  intro n
  induction n with
  | zero => intros; rfl
  | succ n ih =>
    intro xt18
    rw [r0_impl_ValidEntries list0 room1 xt17 kk n xt18]
    have hb : (fun xt18 => iter (evF TT cs_impl_ValidEntries 35 an_impl_ValidEntries Try.f36 [1, 1, 0, 1, 0, 0]) nm0_impl_ValidEntries (kt0_impl_ValidEntries (fin_impl_ValidEntries list0 room1 kk)) n (can0_impl_ValidEntries list0 xt17 xt18)) = L0_impl_ValidEntries list0 xt17 (fun r0 => kk (.one (.c (.v (.bool r0)))) []) n := by
      funext xt18; exact ih xt18
    rw [hb]
    rw [T0_impl_ValidEntries_eq]
    rfl
theorem g_impl_ValidEntries (list0 : List (Int × Int × Int)) (room1 : Int) (kk : AV → List A1 → Prop) :
    ev TT cs_impl_ValidEntries 35 an_impl_ValidEntries (Try.f36.body.getD .skip) (st0 con_impl_ValidEntries [.c (.ro .iii list0), .c (.v (.int .i64 room1))]) (fin TT con_impl_ValidEntries Try.f36.results.toList [.c .sc] [.c (.ro .iii list0), .c (.v (.int .i64 room1))] kk) = G_impl_ValidEntries list0 room1 (fun r0 => kk (.one (.c (.v (.bool r0)))) []) (fun list0 xt17 xt18 => ∃ j, iter (evF TT cs_impl_ValidEntries 35 an_impl_ValidEntries Try.f36 [1, 1, 0, 1, 0, 0]) nm0_impl_ValidEntries (kt0_impl_ValidEntries (fin_impl_ValidEntries list0 room1 kk)) j (can0_impl_ValidEntries list0 xt17 xt18)) := by kernel_rfl
theorem e_impl_ValidEntries (list0 : List (Int × Int × Int)) (room1 : Int) (kk : AV → List A1 → Prop) :
    ev TT cs_impl_ValidEntries 35 an_impl_ValidEntries (Try.f36.body.getD .skip) (st0 con_impl_ValidEntries [.c (.ro .iii list0), .c (.v (.int .i64 room1))]) (fin TT con_impl_ValidEntries Try.f36.results.toList [.c .sc] [.c (.ro .iii list0), .c (.v (.int .i64 room1))] kk) = S_impl_ValidEntries list0 room1 (fun r0 => kk (.one (.c (.v (.bool r0)))) []) := by
  rw [g_impl_ValidEntries]
  have hi0 : (fun list0 xt17 xt18 => ∃ j, iter (evF TT cs_impl_ValidEntries 35 an_impl_ValidEntries Try.f36 [1, 1, 0, 1, 0, 0]) nm0_impl_ValidEntries (kt0_impl_ValidEntries (fin_impl_ValidEntries list0 room1 kk)) j (can0_impl_ValidEntries list0 xt17 xt18)) = (fun list0 xt17 xt18 => ∃ j, L0_impl_ValidEntries list0 xt17 (fun r0 => kk (.one (.c (.v (.bool r0)))) []) j xt18) := by
    funext list0 xt17 xt18
    refine congrArg Exists (funext fun j => ?_)
    rw [l0_impl_ValidEntries list0 room1 xt17 kk j xt18]
  rw [hi0]
  rfl
theorem clok_impl_ValidEntries : ConOK Try.prog cl_impl_ValidEntries := consCons h_impl_validRoom ⟨Try.f57, Try.func57, by kernel_rfl, ne_of_beq (by kernel_rfl)⟩ (consCons h_impl_validEntry ⟨Try.f89, Try.func89, by kernel_rfl, ne_of_beq (by kernel_rfl)⟩ (consCons h_slices_ContainsFunc_Entry_Entry ⟨Try.f90, Try.func90, by kernel_rfl, ne_of_beq (by kernel_rfl)⟩ (consNil)))
theorem cok_impl_ValidEntries : ConsOK Try.prog 35 cs_impl_ValidEntries := ⟨clok_impl_ValidEntries, inlNil⟩
theorem i_impl_ValidEntries {vs : List A1} {kk : AV → List A1 → Prop} {motive : List A1 → Prop} (h : con_impl_ValidEntries.F vs kk) (H : ∀ (list0 : List (Int × Int × Int)) (room1 : Int), F_impl_ValidEntries list0 room1 (fun r0 => kk (.one (.c (.v (.bool r0)))) []) → motive [.c (.ro .iii list0), .c (.v (.int .i64 room1))]) : motive vs := by
  unfold con_impl_ValidEntries at h
  dsimp only at h
  split at h
  · exact H _ _ h
  · exact h.elim
theorem h_impl_ValidEntries : Holds Try.prog 36 con_impl_ValidEntries := by
  refine holds_of_ev (rt := [.c .sc]) (T := TT) (Γ := cs_impl_ValidEntries) (an := an_impl_ValidEntries) (N := 35) (c := Try.f36.body.getD .skip) Try.func36 (by kernel_rfl) Try.ntmps36 (by decide) (by decide) mixed tabOK cok_impl_ValidEntries (by kernel_rfl) ?_
  intro vs kk _ hF
  exact i_impl_ValidEntries (motive := fun vs => Goes (ev TT cs_impl_ValidEntries 35 an_impl_ValidEntries (Try.f36.body.getD .skip) (st0 con_impl_ValidEntries vs) (fin TT con_impl_ValidEntries Try.f36.results.toList [.c .sc] vs kk))) hF (fun list0 room1 hF => goes_of (e_impl_ValidEntries list0 room1 kk) (F_impl_ValidEntries_S hF))
def con_laws_eqEntry : Con := ⟨[.rd, .rd], true, [.agg [.sc, .sc, .sc], .agg [.sc, .sc, .sc]], fun vs k => match vs with
    | [.agg [.v (.int .i64 a0Key), .v (.int .i64 a0Count), .v (.int .i64 a0Last)], .agg [.v (.int .i64 b1Key), .v (.int .i64 b1Count), .v (.int .i64 b1Last)]] => F_laws_eqEntry a0Key a0Count a0Last b1Key b1Count b1Last (fun r0 => k (.one (.c (.v (.bool r0)))) [])
    | _ => False, false⟩
def cl_laws_eqEntry : List (FuncId × Con) := []
def an_laws_eqEntry : Ann := ⟨[], [], []⟩
def cs_laws_eqEntry : Cons := ⟨cl_laws_eqEntry, [], 0, [], []⟩
def fin_laws_eqEntry (a0Key : Int) (a0Count : Int) (a0Last : Int) (b1Key : Int) (b1Count : Int) (b1Last : Int) (kk : AV → List A1 → Prop) : Kt := fin TT con_laws_eqEntry Try.f92.results.toList [.c .sc] [.agg [.v (.int .i64 a0Key), .v (.int .i64 a0Count), .v (.int .i64 a0Last)], .agg [.v (.int .i64 b1Key), .v (.int .i64 b1Count), .v (.int .i64 b1Last)]] kk
theorem g_laws_eqEntry (a0Key : Int) (a0Count : Int) (a0Last : Int) (b1Key : Int) (b1Count : Int) (b1Last : Int) (kk : AV → List A1 → Prop) :
    ev TT cs_laws_eqEntry 20 an_laws_eqEntry (Try.f92.body.getD .skip) (st0 con_laws_eqEntry [.agg [.v (.int .i64 a0Key), .v (.int .i64 a0Count), .v (.int .i64 a0Last)], .agg [.v (.int .i64 b1Key), .v (.int .i64 b1Count), .v (.int .i64 b1Last)]]) (fin TT con_laws_eqEntry Try.f92.results.toList [.c .sc] [.agg [.v (.int .i64 a0Key), .v (.int .i64 a0Count), .v (.int .i64 a0Last)], .agg [.v (.int .i64 b1Key), .v (.int .i64 b1Count), .v (.int .i64 b1Last)]] kk) = G_laws_eqEntry a0Key a0Count a0Last b1Key b1Count b1Last (fun r0 => kk (.one (.c (.v (.bool r0)))) []) := by kernel_rfl
theorem e_laws_eqEntry (a0Key : Int) (a0Count : Int) (a0Last : Int) (b1Key : Int) (b1Count : Int) (b1Last : Int) (kk : AV → List A1 → Prop) :
    ev TT cs_laws_eqEntry 20 an_laws_eqEntry (Try.f92.body.getD .skip) (st0 con_laws_eqEntry [.agg [.v (.int .i64 a0Key), .v (.int .i64 a0Count), .v (.int .i64 a0Last)], .agg [.v (.int .i64 b1Key), .v (.int .i64 b1Count), .v (.int .i64 b1Last)]]) (fin TT con_laws_eqEntry Try.f92.results.toList [.c .sc] [.agg [.v (.int .i64 a0Key), .v (.int .i64 a0Count), .v (.int .i64 a0Last)], .agg [.v (.int .i64 b1Key), .v (.int .i64 b1Count), .v (.int .i64 b1Last)]] kk) = S_laws_eqEntry a0Key a0Count a0Last b1Key b1Count b1Last (fun r0 => kk (.one (.c (.v (.bool r0)))) []) := by
  rw [g_laws_eqEntry]
  rfl
theorem clok_laws_eqEntry : ConOK Try.prog cl_laws_eqEntry := consNil
theorem cok_laws_eqEntry : ConsOK Try.prog 20 cs_laws_eqEntry := ⟨clok_laws_eqEntry, inlNil⟩
theorem i_laws_eqEntry {vs : List A1} {kk : AV → List A1 → Prop} {motive : List A1 → Prop} (h : con_laws_eqEntry.F vs kk) (H : ∀ (a0Key : Int) (a0Count : Int) (a0Last : Int) (b1Key : Int) (b1Count : Int) (b1Last : Int), F_laws_eqEntry a0Key a0Count a0Last b1Key b1Count b1Last (fun r0 => kk (.one (.c (.v (.bool r0)))) []) → motive [.agg [.v (.int .i64 a0Key), .v (.int .i64 a0Count), .v (.int .i64 a0Last)], .agg [.v (.int .i64 b1Key), .v (.int .i64 b1Count), .v (.int .i64 b1Last)]]) : motive vs := by
  unfold con_laws_eqEntry at h
  dsimp only at h
  split at h
  · exact H _ _ _ _ _ _ h
  · exact h.elim
theorem h_laws_eqEntry : Holds Try.prog 92 con_laws_eqEntry := by
  refine holds_of_ev (rt := [.c .sc]) (T := TT) (Γ := cs_laws_eqEntry) (an := an_laws_eqEntry) (N := 20) (c := Try.f92.body.getD .skip) Try.func92 (by kernel_rfl) Try.ntmps92 (by decide) (by decide) mixed tabOK cok_laws_eqEntry (by kernel_rfl) ?_
  intro vs kk _ hF
  exact i_laws_eqEntry (motive := fun vs => Goes (ev TT cs_laws_eqEntry 20 an_laws_eqEntry (Try.f92.body.getD .skip) (st0 con_laws_eqEntry vs) (fin TT con_laws_eqEntry Try.f92.results.toList [.c .sc] vs kk))) hF (fun a0Key a0Count a0Last b1Key b1Count b1Last hF => goes_of (e_laws_eqEntry a0Key a0Count a0Last b1Key b1Count b1Last kk) (F_laws_eqEntry_S hF))
def con_laws_eqEntryS : Con := ⟨[.rd, .rd], true, [.c (.sl .iii), .c (.sl .iii)], fun vs k => match vs with
    | [.c (.ro .iii a0), .c (.ro .iii b1)] => F_laws_eqEntryS a0 b1 (fun r0 => k (.one (.c (.v (.bool r0)))) [])
    | _ => False, false⟩
def cl_laws_eqEntryS : List (FuncId × Con) := [(92, con_laws_eqEntry)]
def nm0_laws_eqEntryS : List NStep := [.keep [0, 1, 5] []]
def an_laws_eqEntryS : Ann := ⟨[(6, .take 0 (.take 1 (.take 2 (.take 3 (.take 4 (.take 5 (.take 6 (.take 7 (.alt 8 (.take 9 (.done)) (.none))))))))), [])], [(4, nm0_laws_eqEntryS)], []⟩
def cs_laws_eqEntryS : Cons := ⟨cl_laws_eqEntryS, [], 0, [], []⟩
def can0_laws_eqEntryS (a0 : List (Int × Int × Int)) (b1 : List (Int × Int × Int)) (xi5 : Int) : St := ⟨[(0, .one (.c (.ro .iii a0))), (1, .one (.c (.ro .iii b1))), (5, .one (.c (.v (.int .i64 xi5))))], []⟩
def fin_laws_eqEntryS (a0 : List (Int × Int × Int)) (b1 : List (Int × Int × Int)) (kk : AV → List A1 → Prop) : Kt := fin TT con_laws_eqEntryS Try.f37.results.toList [.c .sc] [.c (.ro .iii a0), .c (.ro .iii b1)] kk
def kt0_laws_eqEntryS (kf : Kt) : Kt := blockK 0 (seqK (evF TT cs_laws_eqEntryS 27 an_laws_eqEntryS Try.f37 [1, 1, 1]) (kf))
theorem r0_laws_eqEntryS (a0 : List (Int × Int × Int)) (b1 : List (Int × Int × Int)) (kk : AV → List A1 → Prop) (n : Nat) (xi5 : Int) :
    iter (evF TT cs_laws_eqEntryS 27 an_laws_eqEntryS Try.f37 [1, 1, 0, 1, 0, 0]) nm0_laws_eqEntryS (kt0_laws_eqEntryS (fin_laws_eqEntryS a0 b1 kk)) (n + 1) (can0_laws_eqEntryS a0 b1 xi5) = T0_laws_eqEntryS a0 b1 xi5 (fun r0 => kk (.one (.c (.v (.bool r0)))) []) (fun xi5 => iter (evF TT cs_laws_eqEntryS 27 an_laws_eqEntryS Try.f37 [1, 1, 0, 1, 0, 0]) nm0_laws_eqEntryS (kt0_laws_eqEntryS (fin_laws_eqEntryS a0 b1 kk)) n (can0_laws_eqEntryS a0 b1 xi5)) := by kernel_rfl
theorem l0_laws_eqEntryS (a0 : List (Int × Int × Int)) (b1 : List (Int × Int × Int)) (kk : AV → List A1 → Prop) : ∀ (n : Nat) (xi5 : Int), iter (evF TT cs_laws_eqEntryS 27 an_laws_eqEntryS Try.f37 [1, 1, 0, 1, 0, 0]) nm0_laws_eqEntryS (kt0_laws_eqEntryS (fin_laws_eqEntryS a0 b1 kk)) n (can0_laws_eqEntryS a0 b1 xi5) = L0_laws_eqEntryS a0 b1 (fun r0 => kk (.one (.c (.v (.bool r0)))) []) n xi5 := by
  intro n
  induction n with
  | zero => intros; rfl
  | succ n ih =>
    intro xi5
    rw [r0_laws_eqEntryS a0 b1 kk n xi5]
    have hb : (fun xi5 => iter (evF TT cs_laws_eqEntryS 27 an_laws_eqEntryS Try.f37 [1, 1, 0, 1, 0, 0]) nm0_laws_eqEntryS (kt0_laws_eqEntryS (fin_laws_eqEntryS a0 b1 kk)) n (can0_laws_eqEntryS a0 b1 xi5)) = L0_laws_eqEntryS a0 b1 (fun r0 => kk (.one (.c (.v (.bool r0)))) []) n := by
      funext xi5; exact ih xi5
    rw [hb]
    rw [T0_laws_eqEntryS_eq]
    rfl
theorem g_laws_eqEntryS (a0 : List (Int × Int × Int)) (b1 : List (Int × Int × Int)) (kk : AV → List A1 → Prop) :
    ev TT cs_laws_eqEntryS 27 an_laws_eqEntryS (Try.f37.body.getD .skip) (st0 con_laws_eqEntryS [.c (.ro .iii a0), .c (.ro .iii b1)]) (fin TT con_laws_eqEntryS Try.f37.results.toList [.c .sc] [.c (.ro .iii a0), .c (.ro .iii b1)] kk) = G_laws_eqEntryS a0 b1 (fun r0 => kk (.one (.c (.v (.bool r0)))) []) (fun a0 b1 xi5 => ∃ j, iter (evF TT cs_laws_eqEntryS 27 an_laws_eqEntryS Try.f37 [1, 1, 0, 1, 0, 0]) nm0_laws_eqEntryS (kt0_laws_eqEntryS (fin_laws_eqEntryS a0 b1 kk)) j (can0_laws_eqEntryS a0 b1 xi5)) := by kernel_rfl
theorem e_laws_eqEntryS (a0 : List (Int × Int × Int)) (b1 : List (Int × Int × Int)) (kk : AV → List A1 → Prop) :
    ev TT cs_laws_eqEntryS 27 an_laws_eqEntryS (Try.f37.body.getD .skip) (st0 con_laws_eqEntryS [.c (.ro .iii a0), .c (.ro .iii b1)]) (fin TT con_laws_eqEntryS Try.f37.results.toList [.c .sc] [.c (.ro .iii a0), .c (.ro .iii b1)] kk) = S_laws_eqEntryS a0 b1 (fun r0 => kk (.one (.c (.v (.bool r0)))) []) := by
  rw [g_laws_eqEntryS]
  have hi0 : (fun a0 b1 xi5 => ∃ j, iter (evF TT cs_laws_eqEntryS 27 an_laws_eqEntryS Try.f37 [1, 1, 0, 1, 0, 0]) nm0_laws_eqEntryS (kt0_laws_eqEntryS (fin_laws_eqEntryS a0 b1 kk)) j (can0_laws_eqEntryS a0 b1 xi5)) = (fun a0 b1 xi5 => ∃ j, L0_laws_eqEntryS a0 b1 (fun r0 => kk (.one (.c (.v (.bool r0)))) []) j xi5) := by
    funext a0 b1 xi5
    refine congrArg Exists (funext fun j => ?_)
    rw [l0_laws_eqEntryS a0 b1 kk j xi5]
  rw [hi0]
  rfl
theorem clok_laws_eqEntryS : ConOK Try.prog cl_laws_eqEntryS := consCons h_laws_eqEntry ⟨Try.f92, Try.func92, by kernel_rfl, ne_of_beq (by kernel_rfl)⟩ (consNil)
theorem cok_laws_eqEntryS : ConsOK Try.prog 27 cs_laws_eqEntryS := ⟨clok_laws_eqEntryS, inlNil⟩
theorem i_laws_eqEntryS {vs : List A1} {kk : AV → List A1 → Prop} {motive : List A1 → Prop} (h : con_laws_eqEntryS.F vs kk) (H : ∀ (a0 : List (Int × Int × Int)) (b1 : List (Int × Int × Int)), F_laws_eqEntryS a0 b1 (fun r0 => kk (.one (.c (.v (.bool r0)))) []) → motive [.c (.ro .iii a0), .c (.ro .iii b1)]) : motive vs := by
  unfold con_laws_eqEntryS at h
  dsimp only at h
  split at h
  · exact H _ _ h
  · exact h.elim
theorem h_laws_eqEntryS : Holds Try.prog 37 con_laws_eqEntryS := by
  refine holds_of_ev (rt := [.c .sc]) (T := TT) (Γ := cs_laws_eqEntryS) (an := an_laws_eqEntryS) (N := 27) (c := Try.f37.body.getD .skip) Try.func37 (by kernel_rfl) Try.ntmps37 (by decide) (by decide) mixed tabOK cok_laws_eqEntryS (by kernel_rfl) ?_
  intro vs kk _ hF
  exact i_laws_eqEntryS (motive := fun vs => Goes (ev TT cs_laws_eqEntryS 27 an_laws_eqEntryS (Try.f37.body.getD .skip) (st0 con_laws_eqEntryS vs) (fin TT con_laws_eqEntryS Try.f37.results.toList [.c .sc] vs kk))) hF (fun a0 b1 hF => goes_of (e_laws_eqEntryS a0 b1 kk) (F_laws_eqEntryS_S hF))
def con_laws_FnExactValidEntries : Con := ⟨[.rd, .rd], true, [.c (.sl .iii), .c (.sc)], fun vs k => match vs with
    | [.c (.ro .iii aList0), .c (.v (.int .i64 aRoom1))] => F_laws_FnExactValidEntries aList0 aRoom1 (fun r0 => k (.one (.c (.v (.bool r0)))) [])
    | _ => False, false⟩
def cl_laws_FnExactValidEntries : List (FuncId × Con) := [(33, con_laws_szEntryS), (34, con_spec_ValidEntries), (35, con_laws_toEntryS), (36, con_impl_ValidEntries), (37, con_laws_eqEntryS)]
def an_laws_FnExactValidEntries : Ann := ⟨[], [], []⟩
def cs_laws_FnExactValidEntries : Cons := ⟨cl_laws_FnExactValidEntries, [], 0, [], []⟩
def fin_laws_FnExactValidEntries (aList0 : List (Int × Int × Int)) (aRoom1 : Int) (kk : AV → List A1 → Prop) : Kt := fin TT con_laws_FnExactValidEntries Try.f8.results.toList [.c .sc] [.c (.ro .iii aList0), .c (.v (.int .i64 aRoom1))] kk
theorem g_laws_FnExactValidEntries (aList0 : List (Int × Int × Int)) (aRoom1 : Int) (kk : AV → List A1 → Prop) :
    ev TT cs_laws_FnExactValidEntries 31 an_laws_FnExactValidEntries (Try.f8.body.getD .skip) (st0 con_laws_FnExactValidEntries [.c (.ro .iii aList0), .c (.v (.int .i64 aRoom1))]) (fin TT con_laws_FnExactValidEntries Try.f8.results.toList [.c .sc] [.c (.ro .iii aList0), .c (.v (.int .i64 aRoom1))] kk) = G_laws_FnExactValidEntries aList0 aRoom1 (fun r0 => kk (.one (.c (.v (.bool r0)))) []) := by kernel_rfl
theorem e_laws_FnExactValidEntries (aList0 : List (Int × Int × Int)) (aRoom1 : Int) (kk : AV → List A1 → Prop) :
    ev TT cs_laws_FnExactValidEntries 31 an_laws_FnExactValidEntries (Try.f8.body.getD .skip) (st0 con_laws_FnExactValidEntries [.c (.ro .iii aList0), .c (.v (.int .i64 aRoom1))]) (fin TT con_laws_FnExactValidEntries Try.f8.results.toList [.c .sc] [.c (.ro .iii aList0), .c (.v (.int .i64 aRoom1))] kk) = S_laws_FnExactValidEntries aList0 aRoom1 (fun r0 => kk (.one (.c (.v (.bool r0)))) []) := by
  rw [g_laws_FnExactValidEntries]
  rfl
theorem clok_laws_FnExactValidEntries : ConOK Try.prog cl_laws_FnExactValidEntries := consCons h_laws_szEntryS ⟨Try.f33, Try.func33, by kernel_rfl, ne_of_beq (by kernel_rfl)⟩ (consCons h_spec_ValidEntries ⟨Try.f34, Try.func34, by kernel_rfl, ne_of_beq (by kernel_rfl)⟩ (consCons h_laws_toEntryS ⟨Try.f35, Try.func35, by kernel_rfl, ne_of_beq (by kernel_rfl)⟩ (consCons h_impl_ValidEntries ⟨Try.f36, Try.func36, by kernel_rfl, ne_of_beq (by kernel_rfl)⟩ (consCons h_laws_eqEntryS ⟨Try.f37, Try.func37, by kernel_rfl, ne_of_beq (by kernel_rfl)⟩ (consNil)))))
theorem cok_laws_FnExactValidEntries : ConsOK Try.prog 31 cs_laws_FnExactValidEntries := ⟨clok_laws_FnExactValidEntries, inlNil⟩
theorem i_laws_FnExactValidEntries {vs : List A1} {kk : AV → List A1 → Prop} {motive : List A1 → Prop} (h : con_laws_FnExactValidEntries.F vs kk) (H : ∀ (aList0 : List (Int × Int × Int)) (aRoom1 : Int), F_laws_FnExactValidEntries aList0 aRoom1 (fun r0 => kk (.one (.c (.v (.bool r0)))) []) → motive [.c (.ro .iii aList0), .c (.v (.int .i64 aRoom1))]) : motive vs := by
  unfold con_laws_FnExactValidEntries at h
  dsimp only at h
  split at h
  · exact H _ _ h
  · exact h.elim
theorem h_laws_FnExactValidEntries : Holds Try.prog 8 con_laws_FnExactValidEntries := by
  refine holds_of_ev (rt := [.c .sc]) (T := TT) (Γ := cs_laws_FnExactValidEntries) (an := an_laws_FnExactValidEntries) (N := 31) (c := Try.f8.body.getD .skip) Try.func8 (by kernel_rfl) Try.ntmps8 (by decide) (by decide) mixed tabOK cok_laws_FnExactValidEntries (by kernel_rfl) ?_
  intro vs kk _ hF
  exact i_laws_FnExactValidEntries (motive := fun vs => Goes (ev TT cs_laws_FnExactValidEntries 31 an_laws_FnExactValidEntries (Try.f8.body.getD .skip) (st0 con_laws_FnExactValidEntries vs) (fin TT con_laws_FnExactValidEntries Try.f8.results.toList [.c .sc] vs kk))) hF (fun aList0 aRoom1 hF => goes_of (e_laws_FnExactValidEntries aList0 aRoom1 kk) (F_laws_FnExactValidEntries_S hF))
end Go.Ev
