/- What the evaluator gives for these functions: their contracts. No statement is proved here. -/
import Derived.Test.YtaajnkggomlppaaFnExactValidWeighedP0
import Derived.Test.YtaajnkggomlppaaTt
namespace Go.Ev
set_option linter.unusedVariables false
set_option maxRecDepth 100000
open Go Go.Proofs
def con_laws_szWeighedS : Con := ⟨[.rd, .rd], true, [.c (.sl .ii), .c (.sc)], fun vs k => match vs with
    | [.c (.ro .ii a0), .c (.v (.int .i64 left1))] => F_laws_szWeighedS a0 left1 (fun r0 => k (.one (.c (.v (.int .i64 r0)))) [])
    | _ => False, false⟩
def cl_laws_szWeighedS : List (FuncId × Con) := []
def an_laws_szWeighedS : Ann := ⟨[], [], [], []⟩
def cs_laws_szWeighedS : Cons := ⟨cl_laws_szWeighedS, [], 0, [], [], []⟩
def fin_laws_szWeighedS (a0 : List (Int × Int)) (left1 : Int) (kk : AV → List A1 → Prop) : Kt := fin TT con_laws_szWeighedS Try.f23.results.toList [.c .sc] [.c (.ro .ii a0), .c (.v (.int .i64 left1))] kk
theorem g_laws_szWeighedS (a0 : List (Int × Int)) (left1 : Int) (kk : AV → List A1 → Prop) :
    ev TT cs_laws_szWeighedS 12 an_laws_szWeighedS (Try.f23.body.getD .skip) (st0 con_laws_szWeighedS [.c (.ro .ii a0), .c (.v (.int .i64 left1))]) (fin TT con_laws_szWeighedS Try.f23.results.toList [.c .sc] [.c (.ro .ii a0), .c (.v (.int .i64 left1))] kk) = G_laws_szWeighedS a0 left1 (fun r0 => kk (.one (.c (.v (.int .i64 r0)))) []) := by kernel_rfl
theorem e_laws_szWeighedS (a0 : List (Int × Int)) (left1 : Int) (kk : AV → List A1 → Prop) :
    ev TT cs_laws_szWeighedS 12 an_laws_szWeighedS (Try.f23.body.getD .skip) (st0 con_laws_szWeighedS [.c (.ro .ii a0), .c (.v (.int .i64 left1))]) (fin TT con_laws_szWeighedS Try.f23.results.toList [.c .sc] [.c (.ro .ii a0), .c (.v (.int .i64 left1))] kk) = S_laws_szWeighedS a0 left1 (fun r0 => kk (.one (.c (.v (.int .i64 r0)))) []) := by
  rw [g_laws_szWeighedS]
  rfl
theorem clok_laws_szWeighedS : ConOK Try.prog cl_laws_szWeighedS := consNil
theorem cok_laws_szWeighedS : ConsOK Try.prog 12 cs_laws_szWeighedS := ⟨clok_laws_szWeighedS, inlNil, ovNil⟩
theorem i_laws_szWeighedS {vs : List A1} {kk : AV → List A1 → Prop} {motive : List A1 → Prop} (h : con_laws_szWeighedS.F vs kk) (H : ∀ (a0 : List (Int × Int)) (left1 : Int), F_laws_szWeighedS a0 left1 (fun r0 => kk (.one (.c (.v (.int .i64 r0)))) []) → motive [.c (.ro .ii a0), .c (.v (.int .i64 left1))]) : motive vs := by
  unfold con_laws_szWeighedS at h
  dsimp only at h
  split at h
  · exact H _ _ h
  · exact h.elim
theorem h_laws_szWeighedS : Holds Try.prog 23 con_laws_szWeighedS := by
  refine holds_of_ev (rt := [.c .sc]) (T := TT) (Γ := cs_laws_szWeighedS) (an := an_laws_szWeighedS) (N := 12) (c := Try.f23.body.getD .skip) Try.func23 (by kernel_rfl) Try.ntmps23 (by decide) (by decide) mixed tabOK cok_laws_szWeighedS (by kernel_rfl) ?_
  intro vs kk _ hF
  exact i_laws_szWeighedS (motive := fun vs => Goes (ev TT cs_laws_szWeighedS 12 an_laws_szWeighedS (Try.f23.body.getD .skip) (st0 con_laws_szWeighedS vs) (fin TT con_laws_szWeighedS Try.f23.results.toList [.c .sc] vs kk))) hF (fun a0 left1 hF => goes_of (e_laws_szWeighedS a0 left1 kk) (F_laws_szWeighedS_S hF))
def con_laws_toWeighed : Con := ⟨[.rd], true, [.agg [.sc, .sc]], fun vs k => match vs with
    | [.agg [.v (.int .i64 a0Key), .v (.int .i64 a0Size)]] => F_laws_toWeighed a0Key a0Size (fun r0 r1 => k (.one (.agg [.v (.int .i64 r0), .v (.int .i64 r1)])) [])
    | _ => False, false⟩
def cl_laws_toWeighed : List (FuncId × Con) := []
def an_laws_toWeighed : Ann := ⟨[], [], [], []⟩
def cs_laws_toWeighed : Cons := ⟨cl_laws_toWeighed, [], 0, [], [], []⟩
def fin_laws_toWeighed (a0Key : Int) (a0Size : Int) (kk : AV → List A1 → Prop) : Kt := fin TT con_laws_toWeighed Try.f45.results.toList [.agg [.sc, .sc]] [.agg [.v (.int .i64 a0Key), .v (.int .i64 a0Size)]] kk
theorem g_laws_toWeighed (a0Key : Int) (a0Size : Int) (kk : AV → List A1 → Prop) :
    ev TT cs_laws_toWeighed 11 an_laws_toWeighed (Try.f45.body.getD .skip) (st0 con_laws_toWeighed [.agg [.v (.int .i64 a0Key), .v (.int .i64 a0Size)]]) (fin TT con_laws_toWeighed Try.f45.results.toList [.agg [.sc, .sc]] [.agg [.v (.int .i64 a0Key), .v (.int .i64 a0Size)]] kk) = G_laws_toWeighed a0Key a0Size (fun r0 r1 => kk (.one (.agg [.v (.int .i64 r0), .v (.int .i64 r1)])) []) := by kernel_rfl
theorem e_laws_toWeighed (a0Key : Int) (a0Size : Int) (kk : AV → List A1 → Prop) :
    ev TT cs_laws_toWeighed 11 an_laws_toWeighed (Try.f45.body.getD .skip) (st0 con_laws_toWeighed [.agg [.v (.int .i64 a0Key), .v (.int .i64 a0Size)]]) (fin TT con_laws_toWeighed Try.f45.results.toList [.agg [.sc, .sc]] [.agg [.v (.int .i64 a0Key), .v (.int .i64 a0Size)]] kk) = S_laws_toWeighed a0Key a0Size (fun r0 r1 => kk (.one (.agg [.v (.int .i64 r0), .v (.int .i64 r1)])) []) := by
  rw [g_laws_toWeighed]
  rfl
theorem clok_laws_toWeighed : ConOK Try.prog cl_laws_toWeighed := consNil
theorem cok_laws_toWeighed : ConsOK Try.prog 11 cs_laws_toWeighed := ⟨clok_laws_toWeighed, inlNil, ovNil⟩
theorem i_laws_toWeighed {vs : List A1} {kk : AV → List A1 → Prop} {motive : List A1 → Prop} (h : con_laws_toWeighed.F vs kk) (H : ∀ (a0Key : Int) (a0Size : Int), F_laws_toWeighed a0Key a0Size (fun r0 r1 => kk (.one (.agg [.v (.int .i64 r0), .v (.int .i64 r1)])) []) → motive [.agg [.v (.int .i64 a0Key), .v (.int .i64 a0Size)]]) : motive vs := by
  unfold con_laws_toWeighed at h
  dsimp only at h
  split at h
  · exact H _ _ h
  · exact h.elim
theorem h_laws_toWeighed : Holds Try.prog 45 con_laws_toWeighed := by
  refine holds_of_ev (rt := [.agg [.sc, .sc]]) (T := TT) (Γ := cs_laws_toWeighed) (an := an_laws_toWeighed) (N := 11) (c := Try.f45.body.getD .skip) Try.func45 (by kernel_rfl) Try.ntmps45 (by decide) (by decide) mixed tabOK cok_laws_toWeighed (by kernel_rfl) ?_
  intro vs kk _ hF
  exact i_laws_toWeighed (motive := fun vs => Goes (ev TT cs_laws_toWeighed 11 an_laws_toWeighed (Try.f45.body.getD .skip) (st0 con_laws_toWeighed vs) (fin TT con_laws_toWeighed Try.f45.results.toList [.agg [.sc, .sc]] vs kk))) hF (fun a0Key a0Size hF => goes_of (e_laws_toWeighed a0Key a0Size kk) (F_laws_toWeighed_S hF))
def con_laws_toWeighedS : Con := ⟨[.rd], true, [.c (.sl .ii)], fun vs k => match vs with
    | [.c (.ro .ii a0)] => F_laws_toWeighedS a0 (fun r0 => k (.one (.c (.ro .ii r0))) [])
    | _ => False, false⟩
def cl_laws_toWeighedS : List (FuncId × Con) := [(45, con_laws_toWeighed)]
def nm0_laws_toWeighedS : List NStep := [.keep [0, 3, 4] [112]]
def an_laws_toWeighedS : Ann := ⟨[], [(3, nm0_laws_toWeighedS)], [], []⟩
def cs_laws_toWeighedS : Cons := ⟨cl_laws_toWeighedS, [], 0, [], [], []⟩
def can0_laws_toWeighedS (a0 : List (Int × Int)) (xi4 : Int) (xy7 : List (Int × Int)) : St := ⟨[(0, .one (.c (.ro .ii a0))), (3, .one (.c (.ow 112))), (4, .one (.c (.v (.int .i64 xi4))))], [(112, .row .ii xy7)]⟩
def fin_laws_toWeighedS (a0 : List (Int × Int)) (kk : AV → List A1 → Prop) : Kt := fin TT con_laws_toWeighedS Try.f24.results.toList [.c (.sl .ii)] [.c (.ro .ii a0)] kk
def kt0_laws_toWeighedS (kf : Kt) : Kt := blockK 0 (seqK (evF TT cs_laws_toWeighedS 23 an_laws_toWeighedS Try.f24 [1, 1, 1]) (kf))
theorem r0_laws_toWeighedS (a0 : List (Int × Int)) (kk : AV → List A1 → Prop) (n : Nat) (xi4 : Int) (xy7 : List (Int × Int)) :
    iter (evF TT cs_laws_toWeighedS 23 an_laws_toWeighedS Try.f24 [1, 1, 0, 1, 0, 0]) nm0_laws_toWeighedS (kt0_laws_toWeighedS (fin_laws_toWeighedS a0 kk)) (n + 1) (can0_laws_toWeighedS a0 xi4 xy7) = T0_laws_toWeighedS a0 xi4 xy7 (fun r0 => kk (.one (.c (.ro .ii r0))) []) (fun xi4 xy7 => iter (evF TT cs_laws_toWeighedS 23 an_laws_toWeighedS Try.f24 [1, 1, 0, 1, 0, 0]) nm0_laws_toWeighedS (kt0_laws_toWeighedS (fin_laws_toWeighedS a0 kk)) n (can0_laws_toWeighedS a0 xi4 xy7)) := by kernel_rfl
theorem l0_laws_toWeighedS (a0 : List (Int × Int)) (kk : AV → List A1 → Prop) : ∀ (n : Nat) (xi4 : Int) (xy7 : List (Int × Int)), iter (evF TT cs_laws_toWeighedS 23 an_laws_toWeighedS Try.f24 [1, 1, 0, 1, 0, 0]) nm0_laws_toWeighedS (kt0_laws_toWeighedS (fin_laws_toWeighedS a0 kk)) n (can0_laws_toWeighedS a0 xi4 xy7) = L0_laws_toWeighedS a0 (fun r0 => kk (.one (.c (.ro .ii r0))) []) n xi4 xy7 := by
  intro n
  induction n with
  | zero => intros; rfl
  | succ n ih =>
    intro xi4 xy7
    rw [r0_laws_toWeighedS a0 kk n xi4 xy7]
    have hb : (fun xi4 xy7 => iter (evF TT cs_laws_toWeighedS 23 an_laws_toWeighedS Try.f24 [1, 1, 0, 1, 0, 0]) nm0_laws_toWeighedS (kt0_laws_toWeighedS (fin_laws_toWeighedS a0 kk)) n (can0_laws_toWeighedS a0 xi4 xy7)) = L0_laws_toWeighedS a0 (fun r0 => kk (.one (.c (.ro .ii r0))) []) n := by
      funext xi4 xy7; exact ih xi4 xy7
    rw [hb]
    rfl
theorem g_laws_toWeighedS (a0 : List (Int × Int)) (kk : AV → List A1 → Prop) :
    ev TT cs_laws_toWeighedS 23 an_laws_toWeighedS (Try.f24.body.getD .skip) (st0 con_laws_toWeighedS [.c (.ro .ii a0)]) (fin TT con_laws_toWeighedS Try.f24.results.toList [.c (.sl .ii)] [.c (.ro .ii a0)] kk) = G_laws_toWeighedS a0 (fun a0 xi4 xy7 => ∃ j, iter (evF TT cs_laws_toWeighedS 23 an_laws_toWeighedS Try.f24 [1, 1, 0, 1, 0, 0]) nm0_laws_toWeighedS (kt0_laws_toWeighedS (fin_laws_toWeighedS a0 kk)) j (can0_laws_toWeighedS a0 xi4 xy7)) := by kernel_rfl
theorem e_laws_toWeighedS (a0 : List (Int × Int)) (kk : AV → List A1 → Prop) :
    ev TT cs_laws_toWeighedS 23 an_laws_toWeighedS (Try.f24.body.getD .skip) (st0 con_laws_toWeighedS [.c (.ro .ii a0)]) (fin TT con_laws_toWeighedS Try.f24.results.toList [.c (.sl .ii)] [.c (.ro .ii a0)] kk) = S_laws_toWeighedS a0 (fun r0 => kk (.one (.c (.ro .ii r0))) []) := by
  rw [g_laws_toWeighedS]
  have hi0 : (fun a0 xi4 xy7 => ∃ j, iter (evF TT cs_laws_toWeighedS 23 an_laws_toWeighedS Try.f24 [1, 1, 0, 1, 0, 0]) nm0_laws_toWeighedS (kt0_laws_toWeighedS (fin_laws_toWeighedS a0 kk)) j (can0_laws_toWeighedS a0 xi4 xy7)) = (fun a0 xi4 xy7 => ∃ j, L0_laws_toWeighedS a0 (fun r0 => kk (.one (.c (.ro .ii r0))) []) j xi4 xy7) := by
    funext a0 xi4 xy7
    refine congrArg Exists (funext fun j => ?_)
    rw [l0_laws_toWeighedS a0 kk j xi4 xy7]
  rw [hi0]
  rfl
theorem clok_laws_toWeighedS : ConOK Try.prog cl_laws_toWeighedS := consCons h_laws_toWeighed ⟨Try.f45, Try.func45, by kernel_rfl, ne_of_beq (by kernel_rfl)⟩ (consNil)
theorem cok_laws_toWeighedS : ConsOK Try.prog 23 cs_laws_toWeighedS := ⟨clok_laws_toWeighedS, inlNil, ovNil⟩
theorem i_laws_toWeighedS {vs : List A1} {kk : AV → List A1 → Prop} {motive : List A1 → Prop} (h : con_laws_toWeighedS.F vs kk) (H : ∀ (a0 : List (Int × Int)), F_laws_toWeighedS a0 (fun r0 => kk (.one (.c (.ro .ii r0))) []) → motive [.c (.ro .ii a0)]) : motive vs := by
  unfold con_laws_toWeighedS at h
  dsimp only at h
  split at h
  · exact H _ h
  · exact h.elim
theorem h_laws_toWeighedS : Holds Try.prog 24 con_laws_toWeighedS := by
  refine holds_of_ev (rt := [.c (.sl .ii)]) (T := TT) (Γ := cs_laws_toWeighedS) (an := an_laws_toWeighedS) (N := 23) (c := Try.f24.body.getD .skip) Try.func24 (by kernel_rfl) Try.ntmps24 (by decide) (by decide) mixed tabOK cok_laws_toWeighedS (by kernel_rfl) ?_
  intro vs kk _ hF
  exact i_laws_toWeighedS (motive := fun vs => Goes (ev TT cs_laws_toWeighedS 23 an_laws_toWeighedS (Try.f24.body.getD .skip) (st0 con_laws_toWeighedS vs) (fin TT con_laws_toWeighedS Try.f24.results.toList [.c (.sl .ii)] vs kk))) hF (fun a0 hF => goes_of (e_laws_toWeighedS a0 kk) (F_laws_toWeighedS_S hF))
def con_spec_inRange : Con := ⟨[.rd, .rd, .rd], true, [.c (.sc), .c (.sc), .c (.sc)], fun vs k => match vs with
    | [.c (.v (.int .i64 n0)), .c (.v (.int .i64 low1)), .c (.v (.int .i64 high2))] => F_spec_inRange n0 low1 high2 (fun r0 => k (.one (.c (.v (.bool r0)))) [])
    | _ => False, false⟩
def cl_spec_inRange : List (FuncId × Con) := []
def an_spec_inRange : Ann := ⟨[], [], [], []⟩
def cs_spec_inRange : Cons := ⟨cl_spec_inRange, [], 0, [], [], []⟩
def fin_spec_inRange (n0 : Int) (low1 : Int) (high2 : Int) (kk : AV → List A1 → Prop) : Kt := fin TT con_spec_inRange Try.f43.results.toList [.c .sc] [.c (.v (.int .i64 n0)), .c (.v (.int .i64 low1)), .c (.v (.int .i64 high2))] kk
theorem g_spec_inRange (n0 : Int) (low1 : Int) (high2 : Int) (kk : AV → List A1 → Prop) :
    ev TT cs_spec_inRange 15 an_spec_inRange (Try.f43.body.getD .skip) (st0 con_spec_inRange [.c (.v (.int .i64 n0)), .c (.v (.int .i64 low1)), .c (.v (.int .i64 high2))]) (fin TT con_spec_inRange Try.f43.results.toList [.c .sc] [.c (.v (.int .i64 n0)), .c (.v (.int .i64 low1)), .c (.v (.int .i64 high2))] kk) = G_spec_inRange n0 low1 high2 (fun r0 => kk (.one (.c (.v (.bool r0)))) []) := by kernel_rfl
theorem e_spec_inRange (n0 : Int) (low1 : Int) (high2 : Int) (kk : AV → List A1 → Prop) :
    ev TT cs_spec_inRange 15 an_spec_inRange (Try.f43.body.getD .skip) (st0 con_spec_inRange [.c (.v (.int .i64 n0)), .c (.v (.int .i64 low1)), .c (.v (.int .i64 high2))]) (fin TT con_spec_inRange Try.f43.results.toList [.c .sc] [.c (.v (.int .i64 n0)), .c (.v (.int .i64 low1)), .c (.v (.int .i64 high2))] kk) = S_spec_inRange n0 low1 high2 (fun r0 => kk (.one (.c (.v (.bool r0)))) []) := by
  rw [g_spec_inRange]
  rfl
theorem clok_spec_inRange : ConOK Try.prog cl_spec_inRange := consNil
theorem cok_spec_inRange : ConsOK Try.prog 15 cs_spec_inRange := ⟨clok_spec_inRange, inlNil, ovNil⟩
theorem i_spec_inRange {vs : List A1} {kk : AV → List A1 → Prop} {motive : List A1 → Prop} (h : con_spec_inRange.F vs kk) (H : ∀ (n0 : Int) (low1 : Int) (high2 : Int), F_spec_inRange n0 low1 high2 (fun r0 => kk (.one (.c (.v (.bool r0)))) []) → motive [.c (.v (.int .i64 n0)), .c (.v (.int .i64 low1)), .c (.v (.int .i64 high2))]) : motive vs := by
  unfold con_spec_inRange at h
  dsimp only at h
  split at h
  · exact H _ _ _ h
  · exact h.elim
theorem h_spec_inRange : Holds Try.prog 43 con_spec_inRange := by
  refine holds_of_ev (rt := [.c .sc]) (T := TT) (Γ := cs_spec_inRange) (an := an_spec_inRange) (N := 15) (c := Try.f43.body.getD .skip) Try.func43 (by kernel_rfl) Try.ntmps43 (by decide) (by decide) mixed tabOK cok_spec_inRange (by kernel_rfl) ?_
  intro vs kk _ hF
  exact i_spec_inRange (motive := fun vs => Goes (ev TT cs_spec_inRange 15 an_spec_inRange (Try.f43.body.getD .skip) (st0 con_spec_inRange vs) (fin TT con_spec_inRange Try.f43.results.toList [.c .sc] vs kk))) hF (fun n0 low1 high2 hF => goes_of (e_spec_inRange n0 low1 high2 kk) (F_spec_inRange_S hF))
def con_spec_validWeighed : Con := ⟨[.rd, .rd], true, [.c (.sl .ii), .c (.sc)], fun vs k => match vs with
    | [.c (.ro .ii list0), .c (.v (.int .i64 room1))] => F_spec_validWeighed list0 room1 (fun r0 => k (.one (.c (.v (.bool r0)))) [])
    | _ => False, false⟩
def cl_spec_validWeighed : List (FuncId × Con) := [(43, con_spec_inRange)]
def nm1_spec_validWeighed : List NStep := [.keep [0, 1, 5, 6, 7] []]
def nm0_spec_validWeighed : List NStep := [.keep [0, 1, 5, 6] []]
def an_spec_validWeighed : Ann := ⟨[(11, .take 0 (.take 1 (.take 2 (.take 3 (.take 4 (.take 5 (.take 6 (.take 7 (.take 8 (.take 9 (.take 10 (.done))))))))))), [])], [(9, nm1_spec_validWeighed), (3, nm0_spec_validWeighed)], [], []⟩
def cs_spec_validWeighed : Cons := ⟨cl_spec_validWeighed, [], 0, [], [], []⟩
def can1_spec_validWeighed (list0 : List (Int × Int)) (room1 : Int) (xi6 : Int) (xn5' : Int) (xk7 : Int) : St := ⟨[(0, .one (.c (.ro .ii list0))), (1, .one (.c (.v (.int .i64 room1)))), (5, .one (.c (.v (.int .i64 xn5')))), (6, .one (.c (.v (.int .i64 xi6)))), (7, .one (.c (.v (.int .i64 xk7))))], []⟩
def can0_spec_validWeighed (list0 : List (Int × Int)) (room1 : Int) (xn5 : Int) (xi6 : Int) : St := ⟨[(0, .one (.c (.ro .ii list0))), (1, .one (.c (.v (.int .i64 room1)))), (5, .one (.c (.v (.int .i64 xn5)))), (6, .one (.c (.v (.int .i64 xi6))))], []⟩
def fin_spec_validWeighed (list0 : List (Int × Int)) (room1 : Int) (kk : AV → List A1 → Prop) : Kt := fin TT con_spec_validWeighed Try.f36.results.toList [.c .sc] [.c (.ro .ii list0), .c (.v (.int .i64 room1))] kk
def kt1_spec_validWeighed (kf : Kt) (b0 : St → Prop) : Kt := blockK 2 (blockK 1 (seqK (evF TT cs_spec_validWeighed 60 an_spec_validWeighed Try.f36 [1, 1, 0, 1, 0, 0, 1, 1]) (backK nm0_spec_validWeighed b0 (blockK 0 (seqK (evF TT cs_spec_validWeighed 60 an_spec_validWeighed Try.f36 [1, 1, 1]) (kf))))))
def kt0_spec_validWeighed (kf : Kt) : Kt := blockK 0 (seqK (evF TT cs_spec_validWeighed 60 an_spec_validWeighed Try.f36 [1, 1, 1]) (kf))
theorem r1_spec_validWeighed (list0 : List (Int × Int)) (room1 : Int) (xi6 : Int) (xn5' : Int) (kk : AV → List A1 → Prop) (b0 : St → Prop) (n : Nat) (xk7 : Int) :
    iter (evF TT cs_spec_validWeighed 60 an_spec_validWeighed Try.f36 [1, 1, 0, 1, 0, 0, 1, 0, 0, 1, 1, 1, 0, 0]) nm1_spec_validWeighed (kt1_spec_validWeighed (fin_spec_validWeighed list0 room1 kk) b0) (n + 1) (can1_spec_validWeighed list0 room1 xi6 xn5' xk7) = T1_spec_validWeighed list0 room1 xi6 xn5' xk7 (fun r0 => kk (.one (.c (.v (.bool r0)))) []) (fun xn5 xi6 => b0 (can0_spec_validWeighed list0 room1 xn5 xi6)) (fun xk7 => iter (evF TT cs_spec_validWeighed 60 an_spec_validWeighed Try.f36 [1, 1, 0, 1, 0, 0, 1, 0, 0, 1, 1, 1, 0, 0]) nm1_spec_validWeighed (kt1_spec_validWeighed (fin_spec_validWeighed list0 room1 kk) b0) n (can1_spec_validWeighed list0 room1 xi6 xn5' xk7)) := by kernel_rfl
theorem l1_spec_validWeighed (list0 : List (Int × Int)) (room1 : Int) (xi6 : Int) (xn5' : Int) (kk : AV → List A1 → Prop) (b0 : St → Prop) : ∀ (n : Nat) (xk7 : Int), iter (evF TT cs_spec_validWeighed 60 an_spec_validWeighed Try.f36 [1, 1, 0, 1, 0, 0, 1, 0, 0, 1, 1, 1, 0, 0]) nm1_spec_validWeighed (kt1_spec_validWeighed (fin_spec_validWeighed list0 room1 kk) b0) n (can1_spec_validWeighed list0 room1 xi6 xn5' xk7) = L1_spec_validWeighed list0 room1 xi6 xn5' (fun r0 => kk (.one (.c (.v (.bool r0)))) []) (fun xn5 xi6 => b0 (can0_spec_validWeighed list0 room1 xn5 xi6)) n xk7 := by
  intro n
  induction n with
  | zero => intros; rfl
  | succ n ih =>
    intro xk7
    rw [r1_spec_validWeighed list0 room1 xi6 xn5' kk b0 n xk7]
    have hb : (fun xk7 => iter (evF TT cs_spec_validWeighed 60 an_spec_validWeighed Try.f36 [1, 1, 0, 1, 0, 0, 1, 0, 0, 1, 1, 1, 0, 0]) nm1_spec_validWeighed (kt1_spec_validWeighed (fin_spec_validWeighed list0 room1 kk) b0) n (can1_spec_validWeighed list0 room1 xi6 xn5' xk7)) = L1_spec_validWeighed list0 room1 xi6 xn5' (fun r0 => kk (.one (.c (.v (.bool r0)))) []) (fun xn5 xi6 => b0 (can0_spec_validWeighed list0 room1 xn5 xi6)) n := by
      funext xk7; exact ih xk7
    rw [hb]
    rfl
theorem r0_spec_validWeighed (list0 : List (Int × Int)) (room1 : Int) (kk : AV → List A1 → Prop) (n : Nat) (xn5 : Int) (xi6 : Int) :
    iter (evF TT cs_spec_validWeighed 60 an_spec_validWeighed Try.f36 [1, 1, 0, 1, 0, 0]) nm0_spec_validWeighed (kt0_spec_validWeighed (fin_spec_validWeighed list0 room1 kk)) (n + 1) (can0_spec_validWeighed list0 room1 xn5 xi6) = T0_spec_validWeighed list0 room1 xn5 xi6 (fun r0 => kk (.one (.c (.v (.bool r0)))) []) (fun list0 room1 xi6 xn5' xk7 => ∃ j, iter (evF TT cs_spec_validWeighed 60 an_spec_validWeighed Try.f36 [1, 1, 0, 1, 0, 0, 1, 0, 0, 1, 1, 1, 0, 0]) nm1_spec_validWeighed (kt1_spec_validWeighed (fin_spec_validWeighed list0 room1 kk) (iter (evF TT cs_spec_validWeighed 60 an_spec_validWeighed Try.f36 [1, 1, 0, 1, 0, 0]) nm0_spec_validWeighed (kt0_spec_validWeighed (fin_spec_validWeighed list0 room1 kk)) n)) j (can1_spec_validWeighed list0 room1 xi6 xn5' xk7)) := by kernel_rfl
theorem l0_spec_validWeighed (list0 : List (Int × Int)) (room1 : Int) (kk : AV → List A1 → Prop) : ∀ (n : Nat) (xn5 : Int) (xi6 : Int), iter (evF TT cs_spec_validWeighed 60 an_spec_validWeighed Try.f36 [1, 1, 0, 1, 0, 0]) nm0_spec_validWeighed (kt0_spec_validWeighed (fin_spec_validWeighed list0 room1 kk)) n (can0_spec_validWeighed list0 room1 xn5 xi6) = L0_spec_validWeighed list0 room1 (fun r0 => kk (.one (.c (.v (.bool r0)))) []) n xn5 xi6 := by
  intro n
  induction n generalizing list0 room1 with
  | zero => intros; rfl
  | succ n ih =>
    intro xn5 xi6
    rw [r0_spec_validWeighed list0 room1 kk n xn5 xi6]
    have hb : ∀ (list0 : List (Int × Int)) (room1 : Int), (fun xn5 xi6 => iter (evF TT cs_spec_validWeighed 60 an_spec_validWeighed Try.f36 [1, 1, 0, 1, 0, 0]) nm0_spec_validWeighed (kt0_spec_validWeighed (fin_spec_validWeighed list0 room1 kk)) n (can0_spec_validWeighed list0 room1 xn5 xi6)) = L0_spec_validWeighed list0 room1 (fun r0 => kk (.one (.c (.v (.bool r0)))) []) n := by
      intro list0 room1
      funext xn5 xi6; exact ih list0 room1 xn5 xi6
    have hi1 : (fun list0 room1 xi6 xn5' xk7 => ∃ j, iter (evF TT cs_spec_validWeighed 60 an_spec_validWeighed Try.f36 [1, 1, 0, 1, 0, 0, 1, 0, 0, 1, 1, 1, 0, 0]) nm1_spec_validWeighed (kt1_spec_validWeighed (fin_spec_validWeighed list0 room1 kk) (iter (evF TT cs_spec_validWeighed 60 an_spec_validWeighed Try.f36 [1, 1, 0, 1, 0, 0]) nm0_spec_validWeighed (kt0_spec_validWeighed (fin_spec_validWeighed list0 room1 kk)) n)) j (can1_spec_validWeighed list0 room1 xi6 xn5' xk7)) = (fun list0 room1 xi6 xn5' xk7 => ∃ j, L1_spec_validWeighed list0 room1 xi6 xn5' (fun r0 => kk (.one (.c (.v (.bool r0)))) []) (L0_spec_validWeighed list0 room1 (fun r0 => kk (.one (.c (.v (.bool r0)))) []) n) j xk7) := by
      funext list0 room1 xi6 xn5' xk7
      refine congrArg Exists (funext fun j => ?_)
      rw [l1_spec_validWeighed list0 room1 xi6 xn5' kk (iter (evF TT cs_spec_validWeighed 60 an_spec_validWeighed Try.f36 [1, 1, 0, 1, 0, 0]) nm0_spec_validWeighed (kt0_spec_validWeighed (fin_spec_validWeighed list0 room1 kk)) n) j xk7]
      rw [hb]
    rw [hi1]
    rfl
theorem g_spec_validWeighed (list0 : List (Int × Int)) (room1 : Int) (kk : AV → List A1 → Prop) :
    ev TT cs_spec_validWeighed 60 an_spec_validWeighed (Try.f36.body.getD .skip) (st0 con_spec_validWeighed [.c (.ro .ii list0), .c (.v (.int .i64 room1))]) (fin TT con_spec_validWeighed Try.f36.results.toList [.c .sc] [.c (.ro .ii list0), .c (.v (.int .i64 room1))] kk) = G_spec_validWeighed list0 room1 (fun list0 room1 xn5 xi6 => ∃ j, iter (evF TT cs_spec_validWeighed 60 an_spec_validWeighed Try.f36 [1, 1, 0, 1, 0, 0]) nm0_spec_validWeighed (kt0_spec_validWeighed (fin_spec_validWeighed list0 room1 kk)) j (can0_spec_validWeighed list0 room1 xn5 xi6)) := by kernel_rfl
theorem e_spec_validWeighed (list0 : List (Int × Int)) (room1 : Int) (kk : AV → List A1 → Prop) :
    ev TT cs_spec_validWeighed 60 an_spec_validWeighed (Try.f36.body.getD .skip) (st0 con_spec_validWeighed [.c (.ro .ii list0), .c (.v (.int .i64 room1))]) (fin TT con_spec_validWeighed Try.f36.results.toList [.c .sc] [.c (.ro .ii list0), .c (.v (.int .i64 room1))] kk) = S_spec_validWeighed list0 room1 (fun r0 => kk (.one (.c (.v (.bool r0)))) []) := by
  rw [g_spec_validWeighed]
  have hi0 : (fun list0 room1 xn5 xi6 => ∃ j, iter (evF TT cs_spec_validWeighed 60 an_spec_validWeighed Try.f36 [1, 1, 0, 1, 0, 0]) nm0_spec_validWeighed (kt0_spec_validWeighed (fin_spec_validWeighed list0 room1 kk)) j (can0_spec_validWeighed list0 room1 xn5 xi6)) = (fun list0 room1 xn5 xi6 => ∃ j, L0_spec_validWeighed list0 room1 (fun r0 => kk (.one (.c (.v (.bool r0)))) []) j xn5 xi6) := by
    funext list0 room1 xn5 xi6
    refine congrArg Exists (funext fun j => ?_)
    rw [l0_spec_validWeighed list0 room1 kk j xn5 xi6]
  rw [hi0]
  rfl
theorem clok_spec_validWeighed : ConOK Try.prog cl_spec_validWeighed := consCons h_spec_inRange ⟨Try.f43, Try.func43, by kernel_rfl, ne_of_beq (by kernel_rfl)⟩ (consNil)
theorem cok_spec_validWeighed : ConsOK Try.prog 60 cs_spec_validWeighed := ⟨clok_spec_validWeighed, inlNil, ovNil⟩
theorem i_spec_validWeighed {vs : List A1} {kk : AV → List A1 → Prop} {motive : List A1 → Prop} (h : con_spec_validWeighed.F vs kk) (H : ∀ (list0 : List (Int × Int)) (room1 : Int), F_spec_validWeighed list0 room1 (fun r0 => kk (.one (.c (.v (.bool r0)))) []) → motive [.c (.ro .ii list0), .c (.v (.int .i64 room1))]) : motive vs := by
  unfold con_spec_validWeighed at h
  dsimp only at h
  split at h
  · exact H _ _ h
  · exact h.elim
theorem h_spec_validWeighed : Holds Try.prog 36 con_spec_validWeighed := by
  refine holds_of_ev (rt := [.c .sc]) (T := TT) (Γ := cs_spec_validWeighed) (an := an_spec_validWeighed) (N := 60) (c := Try.f36.body.getD .skip) Try.func36 (by kernel_rfl) Try.ntmps36 (by decide) (by decide) mixed tabOK cok_spec_validWeighed (by kernel_rfl) ?_
  intro vs kk _ hF
  exact i_spec_validWeighed (motive := fun vs => Goes (ev TT cs_spec_validWeighed 60 an_spec_validWeighed (Try.f36.body.getD .skip) (st0 con_spec_validWeighed vs) (fin TT con_spec_validWeighed Try.f36.results.toList [.c .sc] vs kk))) hF (fun list0 room1 hF => goes_of (e_spec_validWeighed list0 room1 kk) (F_spec_validWeighed_S hF))
def con_spec_ValidWeighed : Con := ⟨[.rd, .rd], true, [.c (.sl .ii), .c (.sc)], fun vs k => match vs with
    | [.c (.ro .ii list0), .c (.v (.int .i64 room1))] => F_spec_ValidWeighed list0 room1 (fun r0 => k (.one (.c (.v (.bool r0)))) [])
    | _ => False, false⟩
def cl_spec_ValidWeighed : List (FuncId × Con) := [(36, con_spec_validWeighed)]
def an_spec_ValidWeighed : Ann := ⟨[], [], [], []⟩
def cs_spec_ValidWeighed : Cons := ⟨cl_spec_ValidWeighed, [], 0, [], [], []⟩
def fin_spec_ValidWeighed (list0 : List (Int × Int)) (room1 : Int) (kk : AV → List A1 → Prop) : Kt := fin TT con_spec_ValidWeighed Try.f15.results.toList [.c .sc] [.c (.ro .ii list0), .c (.v (.int .i64 room1))] kk
theorem g_spec_ValidWeighed (list0 : List (Int × Int)) (room1 : Int) (kk : AV → List A1 → Prop) :
    ev TT cs_spec_ValidWeighed 8 an_spec_ValidWeighed (Try.f15.body.getD .skip) (st0 con_spec_ValidWeighed [.c (.ro .ii list0), .c (.v (.int .i64 room1))]) (fin TT con_spec_ValidWeighed Try.f15.results.toList [.c .sc] [.c (.ro .ii list0), .c (.v (.int .i64 room1))] kk) = G_spec_ValidWeighed list0 room1 (fun r0 => kk (.one (.c (.v (.bool r0)))) []) := by kernel_rfl
theorem e_spec_ValidWeighed (list0 : List (Int × Int)) (room1 : Int) (kk : AV → List A1 → Prop) :
    ev TT cs_spec_ValidWeighed 8 an_spec_ValidWeighed (Try.f15.body.getD .skip) (st0 con_spec_ValidWeighed [.c (.ro .ii list0), .c (.v (.int .i64 room1))]) (fin TT con_spec_ValidWeighed Try.f15.results.toList [.c .sc] [.c (.ro .ii list0), .c (.v (.int .i64 room1))] kk) = S_spec_ValidWeighed list0 room1 (fun r0 => kk (.one (.c (.v (.bool r0)))) []) := by
  rw [g_spec_ValidWeighed]
  rfl
theorem clok_spec_ValidWeighed : ConOK Try.prog cl_spec_ValidWeighed := consCons h_spec_validWeighed ⟨Try.f36, Try.func36, by kernel_rfl, ne_of_beq (by kernel_rfl)⟩ (consNil)
theorem cok_spec_ValidWeighed : ConsOK Try.prog 8 cs_spec_ValidWeighed := ⟨clok_spec_ValidWeighed, inlNil, ovNil⟩
theorem i_spec_ValidWeighed {vs : List A1} {kk : AV → List A1 → Prop} {motive : List A1 → Prop} (h : con_spec_ValidWeighed.F vs kk) (H : ∀ (list0 : List (Int × Int)) (room1 : Int), F_spec_ValidWeighed list0 room1 (fun r0 => kk (.one (.c (.v (.bool r0)))) []) → motive [.c (.ro .ii list0), .c (.v (.int .i64 room1))]) : motive vs := by
  unfold con_spec_ValidWeighed at h
  dsimp only at h
  split at h
  · exact H _ _ h
  · exact h.elim
theorem h_spec_ValidWeighed : Holds Try.prog 15 con_spec_ValidWeighed := by
  refine holds_of_ev (rt := [.c .sc]) (T := TT) (Γ := cs_spec_ValidWeighed) (an := an_spec_ValidWeighed) (N := 8) (c := Try.f15.body.getD .skip) Try.func15 (by kernel_rfl) Try.ntmps15 (by decide) (by decide) mixed tabOK cok_spec_ValidWeighed (by kernel_rfl) ?_
  intro vs kk _ hF
  exact i_spec_ValidWeighed (motive := fun vs => Goes (ev TT cs_spec_ValidWeighed 8 an_spec_ValidWeighed (Try.f15.body.getD .skip) (st0 con_spec_ValidWeighed vs) (fin TT con_spec_ValidWeighed Try.f15.results.toList [.c .sc] vs kk))) hF (fun list0 room1 hF => goes_of (e_spec_ValidWeighed list0 room1 kk) (F_spec_ValidWeighed_S hF))
def con_impl_validSpace : Con := ⟨[.rd], true, [.c (.sc)], fun vs k => match vs with
    | [.c (.v (.int .i64 room0))] => F_impl_validSpace room0 (fun r0 => k (.one (.c (.v (.bool r0)))) [])
    | _ => False, false⟩
def cl_impl_validSpace : List (FuncId × Con) := []
def an_impl_validSpace : Ann := ⟨[], [], [], []⟩
def cs_impl_validSpace : Cons := ⟨cl_impl_validSpace, [], 0, [], [], []⟩
def fin_impl_validSpace (room0 : Int) (kk : AV → List A1 → Prop) : Kt := fin TT con_impl_validSpace Try.f30.results.toList [.c .sc] [.c (.v (.int .i64 room0))] kk
theorem g_impl_validSpace (room0 : Int) (kk : AV → List A1 → Prop) :
    ev TT cs_impl_validSpace 9 an_impl_validSpace (Try.f30.body.getD .skip) (st0 con_impl_validSpace [.c (.v (.int .i64 room0))]) (fin TT con_impl_validSpace Try.f30.results.toList [.c .sc] [.c (.v (.int .i64 room0))] kk) = G_impl_validSpace room0 (fun r0 => kk (.one (.c (.v (.bool r0)))) []) := by kernel_rfl
theorem e_impl_validSpace (room0 : Int) (kk : AV → List A1 → Prop) :
    ev TT cs_impl_validSpace 9 an_impl_validSpace (Try.f30.body.getD .skip) (st0 con_impl_validSpace [.c (.v (.int .i64 room0))]) (fin TT con_impl_validSpace Try.f30.results.toList [.c .sc] [.c (.v (.int .i64 room0))] kk) = S_impl_validSpace room0 (fun r0 => kk (.one (.c (.v (.bool r0)))) []) := by
  rw [g_impl_validSpace]
  rfl
theorem clok_impl_validSpace : ConOK Try.prog cl_impl_validSpace := consNil
theorem cok_impl_validSpace : ConsOK Try.prog 9 cs_impl_validSpace := ⟨clok_impl_validSpace, inlNil, ovNil⟩
theorem i_impl_validSpace {vs : List A1} {kk : AV → List A1 → Prop} {motive : List A1 → Prop} (h : con_impl_validSpace.F vs kk) (H : ∀ (room0 : Int), F_impl_validSpace room0 (fun r0 => kk (.one (.c (.v (.bool r0)))) []) → motive [.c (.v (.int .i64 room0))]) : motive vs := by
  unfold con_impl_validSpace at h
  dsimp only at h
  split at h
  · exact H _ h
  · exact h.elim
theorem h_impl_validSpace : Holds Try.prog 30 con_impl_validSpace := by
  refine holds_of_ev (rt := [.c .sc]) (T := TT) (Γ := cs_impl_validSpace) (an := an_impl_validSpace) (N := 9) (c := Try.f30.body.getD .skip) Try.func30 (by kernel_rfl) Try.ntmps30 (by decide) (by decide) mixed tabOK cok_impl_validSpace (by kernel_rfl) ?_
  intro vs kk _ hF
  exact i_impl_validSpace (motive := fun vs => Goes (ev TT cs_impl_validSpace 9 an_impl_validSpace (Try.f30.body.getD .skip) (st0 con_impl_validSpace vs) (fin TT con_impl_validSpace Try.f30.results.toList [.c .sc] vs kk))) hF (fun room0 hF => goes_of (e_impl_validSpace room0 kk) (F_impl_validSpace_S hF))
def con_impl_validKey : Con := ⟨[.rd], true, [.c (.sc)], fun vs k => match vs with
    | [.c (.v (.int .i64 key0))] => F_impl_validKey key0 (fun r0 => k (.one (.c (.v (.bool r0)))) [])
    | _ => False, false⟩
def cl_impl_validKey : List (FuncId × Con) := []
def an_impl_validKey : Ann := ⟨[], [], [], []⟩
def cs_impl_validKey : Cons := ⟨cl_impl_validKey, [], 0, [], [], []⟩
def fin_impl_validKey (key0 : Int) (kk : AV → List A1 → Prop) : Kt := fin TT con_impl_validKey Try.f31.results.toList [.c .sc] [.c (.v (.int .i64 key0))] kk
theorem g_impl_validKey (key0 : Int) (kk : AV → List A1 → Prop) :
    ev TT cs_impl_validKey 9 an_impl_validKey (Try.f31.body.getD .skip) (st0 con_impl_validKey [.c (.v (.int .i64 key0))]) (fin TT con_impl_validKey Try.f31.results.toList [.c .sc] [.c (.v (.int .i64 key0))] kk) = G_impl_validKey key0 (fun r0 => kk (.one (.c (.v (.bool r0)))) []) := by kernel_rfl
theorem e_impl_validKey (key0 : Int) (kk : AV → List A1 → Prop) :
    ev TT cs_impl_validKey 9 an_impl_validKey (Try.f31.body.getD .skip) (st0 con_impl_validKey [.c (.v (.int .i64 key0))]) (fin TT con_impl_validKey Try.f31.results.toList [.c .sc] [.c (.v (.int .i64 key0))] kk) = S_impl_validKey key0 (fun r0 => kk (.one (.c (.v (.bool r0)))) []) := by
  rw [g_impl_validKey]
  rfl
theorem clok_impl_validKey : ConOK Try.prog cl_impl_validKey := consNil
theorem cok_impl_validKey : ConsOK Try.prog 9 cs_impl_validKey := ⟨clok_impl_validKey, inlNil, ovNil⟩
theorem i_impl_validKey {vs : List A1} {kk : AV → List A1 → Prop} {motive : List A1 → Prop} (h : con_impl_validKey.F vs kk) (H : ∀ (key0 : Int), F_impl_validKey key0 (fun r0 => kk (.one (.c (.v (.bool r0)))) []) → motive [.c (.v (.int .i64 key0))]) : motive vs := by
  unfold con_impl_validKey at h
  dsimp only at h
  split at h
  · exact H _ h
  · exact h.elim
theorem h_impl_validKey : Holds Try.prog 31 con_impl_validKey := by
  refine holds_of_ev (rt := [.c .sc]) (T := TT) (Γ := cs_impl_validKey) (an := an_impl_validKey) (N := 9) (c := Try.f31.body.getD .skip) Try.func31 (by kernel_rfl) Try.ntmps31 (by decide) (by decide) mixed tabOK cok_impl_validKey (by kernel_rfl) ?_
  intro vs kk _ hF
  exact i_impl_validKey (motive := fun vs => Goes (ev TT cs_impl_validKey 9 an_impl_validKey (Try.f31.body.getD .skip) (st0 con_impl_validKey vs) (fin TT con_impl_validKey Try.f31.results.toList [.c .sc] vs kk))) hF (fun key0 hF => goes_of (e_impl_validKey key0 kk) (F_impl_validKey_S hF))
def con_impl_validSize : Con := ⟨[.rd], true, [.c (.sc)], fun vs k => match vs with
    | [.c (.v (.int .i64 size0))] => F_impl_validSize size0 (fun r0 => k (.one (.c (.v (.bool r0)))) [])
    | _ => False, false⟩
def cl_impl_validSize : List (FuncId × Con) := []
def an_impl_validSize : Ann := ⟨[], [], [], []⟩
def cs_impl_validSize : Cons := ⟨cl_impl_validSize, [], 0, [], [], []⟩
def fin_impl_validSize (size0 : Int) (kk : AV → List A1 → Prop) : Kt := fin TT con_impl_validSize Try.f32.results.toList [.c .sc] [.c (.v (.int .i64 size0))] kk
theorem g_impl_validSize (size0 : Int) (kk : AV → List A1 → Prop) :
    ev TT cs_impl_validSize 9 an_impl_validSize (Try.f32.body.getD .skip) (st0 con_impl_validSize [.c (.v (.int .i64 size0))]) (fin TT con_impl_validSize Try.f32.results.toList [.c .sc] [.c (.v (.int .i64 size0))] kk) = G_impl_validSize size0 (fun r0 => kk (.one (.c (.v (.bool r0)))) []) := by kernel_rfl
theorem e_impl_validSize (size0 : Int) (kk : AV → List A1 → Prop) :
    ev TT cs_impl_validSize 9 an_impl_validSize (Try.f32.body.getD .skip) (st0 con_impl_validSize [.c (.v (.int .i64 size0))]) (fin TT con_impl_validSize Try.f32.results.toList [.c .sc] [.c (.v (.int .i64 size0))] kk) = S_impl_validSize size0 (fun r0 => kk (.one (.c (.v (.bool r0)))) []) := by
  rw [g_impl_validSize]
  rfl
theorem clok_impl_validSize : ConOK Try.prog cl_impl_validSize := consNil
theorem cok_impl_validSize : ConsOK Try.prog 9 cs_impl_validSize := ⟨clok_impl_validSize, inlNil, ovNil⟩
theorem i_impl_validSize {vs : List A1} {kk : AV → List A1 → Prop} {motive : List A1 → Prop} (h : con_impl_validSize.F vs kk) (H : ∀ (size0 : Int), F_impl_validSize size0 (fun r0 => kk (.one (.c (.v (.bool r0)))) []) → motive [.c (.v (.int .i64 size0))]) : motive vs := by
  unfold con_impl_validSize at h
  dsimp only at h
  split at h
  · exact H _ h
  · exact h.elim
theorem h_impl_validSize : Holds Try.prog 32 con_impl_validSize := by
  refine holds_of_ev (rt := [.c .sc]) (T := TT) (Γ := cs_impl_validSize) (an := an_impl_validSize) (N := 9) (c := Try.f32.body.getD .skip) Try.func32 (by kernel_rfl) Try.ntmps32 (by decide) (by decide) mixed tabOK cok_impl_validSize (by kernel_rfl) ?_
  intro vs kk _ hF
  exact i_impl_validSize (motive := fun vs => Goes (ev TT cs_impl_validSize 9 an_impl_validSize (Try.f32.body.getD .skip) (st0 con_impl_validSize vs) (fin TT con_impl_validSize Try.f32.results.toList [.c .sc] vs kk))) hF (fun size0 hF => goes_of (e_impl_validSize size0 kk) (F_impl_validSize_S hF))
def con_impl_Weighed_hasKeyOf : Con := ⟨[.rd, .rd], true, [.agg [.sc, .sc], .agg [.sc, .sc]], fun vs k => match vs with
    | [.agg [.v (.int .i64 w0Key), .v (.int .i64 w0Size)], .agg [.v (.int .i64 other1Key), .v (.int .i64 other1Size)]] => F_impl_Weighed_hasKeyOf w0Key w0Size other1Key other1Size (fun r0 => k (.one (.c (.v (.bool r0)))) [])
    | _ => False, false⟩
def cl_impl_Weighed_hasKeyOf : List (FuncId × Con) := []
def an_impl_Weighed_hasKeyOf : Ann := ⟨[], [], [], []⟩
def cs_impl_Weighed_hasKeyOf : Cons := ⟨cl_impl_Weighed_hasKeyOf, [], 0, [], [], []⟩
def fin_impl_Weighed_hasKeyOf (w0Key : Int) (w0Size : Int) (other1Key : Int) (other1Size : Int) (kk : AV → List A1 → Prop) : Kt := fin TT con_impl_Weighed_hasKeyOf Try.f34.results.toList [.c .sc] [.agg [.v (.int .i64 w0Key), .v (.int .i64 w0Size)], .agg [.v (.int .i64 other1Key), .v (.int .i64 other1Size)]] kk
theorem g_impl_Weighed_hasKeyOf (w0Key : Int) (w0Size : Int) (other1Key : Int) (other1Size : Int) (kk : AV → List A1 → Prop) :
    ev TT cs_impl_Weighed_hasKeyOf 10 an_impl_Weighed_hasKeyOf (Try.f34.body.getD .skip) (st0 con_impl_Weighed_hasKeyOf [.agg [.v (.int .i64 w0Key), .v (.int .i64 w0Size)], .agg [.v (.int .i64 other1Key), .v (.int .i64 other1Size)]]) (fin TT con_impl_Weighed_hasKeyOf Try.f34.results.toList [.c .sc] [.agg [.v (.int .i64 w0Key), .v (.int .i64 w0Size)], .agg [.v (.int .i64 other1Key), .v (.int .i64 other1Size)]] kk) = G_impl_Weighed_hasKeyOf w0Key w0Size other1Key other1Size (fun r0 => kk (.one (.c (.v (.bool r0)))) []) := by kernel_rfl
theorem e_impl_Weighed_hasKeyOf (w0Key : Int) (w0Size : Int) (other1Key : Int) (other1Size : Int) (kk : AV → List A1 → Prop) :
    ev TT cs_impl_Weighed_hasKeyOf 10 an_impl_Weighed_hasKeyOf (Try.f34.body.getD .skip) (st0 con_impl_Weighed_hasKeyOf [.agg [.v (.int .i64 w0Key), .v (.int .i64 w0Size)], .agg [.v (.int .i64 other1Key), .v (.int .i64 other1Size)]]) (fin TT con_impl_Weighed_hasKeyOf Try.f34.results.toList [.c .sc] [.agg [.v (.int .i64 w0Key), .v (.int .i64 w0Size)], .agg [.v (.int .i64 other1Key), .v (.int .i64 other1Size)]] kk) = S_impl_Weighed_hasKeyOf w0Key w0Size other1Key other1Size (fun r0 => kk (.one (.c (.v (.bool r0)))) []) := by
  rw [g_impl_Weighed_hasKeyOf]
  rfl
theorem clok_impl_Weighed_hasKeyOf : ConOK Try.prog cl_impl_Weighed_hasKeyOf := consNil
theorem cok_impl_Weighed_hasKeyOf : ConsOK Try.prog 10 cs_impl_Weighed_hasKeyOf := ⟨clok_impl_Weighed_hasKeyOf, inlNil, ovNil⟩
theorem i_impl_Weighed_hasKeyOf {vs : List A1} {kk : AV → List A1 → Prop} {motive : List A1 → Prop} (h : con_impl_Weighed_hasKeyOf.F vs kk) (H : ∀ (w0Key : Int) (w0Size : Int) (other1Key : Int) (other1Size : Int), F_impl_Weighed_hasKeyOf w0Key w0Size other1Key other1Size (fun r0 => kk (.one (.c (.v (.bool r0)))) []) → motive [.agg [.v (.int .i64 w0Key), .v (.int .i64 w0Size)], .agg [.v (.int .i64 other1Key), .v (.int .i64 other1Size)]]) : motive vs := by
  unfold con_impl_Weighed_hasKeyOf at h
  dsimp only at h
  split at h
  · exact H _ _ _ _ h
  · exact h.elim
theorem h_impl_Weighed_hasKeyOf : Holds Try.prog 34 con_impl_Weighed_hasKeyOf := by
  refine holds_of_ev (rt := [.c .sc]) (T := TT) (Γ := cs_impl_Weighed_hasKeyOf) (an := an_impl_Weighed_hasKeyOf) (N := 10) (c := Try.f34.body.getD .skip) Try.func34 (by kernel_rfl) Try.ntmps34 (by decide) (by decide) mixed tabOK cok_impl_Weighed_hasKeyOf (by kernel_rfl) ?_
  intro vs kk _ hF
  exact i_impl_Weighed_hasKeyOf (motive := fun vs => Goes (ev TT cs_impl_Weighed_hasKeyOf 10 an_impl_Weighed_hasKeyOf (Try.f34.body.getD .skip) (st0 con_impl_Weighed_hasKeyOf vs) (fin TT con_impl_Weighed_hasKeyOf Try.f34.results.toList [.c .sc] vs kk))) hF (fun w0Key w0Size other1Key other1Size hF => goes_of (e_impl_Weighed_hasKeyOf w0Key w0Size other1Key other1Size kk) (F_impl_Weighed_hasKeyOf_S hF))
def con_slices_IndexFunc_Weighed_Weighed : Con := ⟨[.rd, .rd], true, [.c (.sl .ii), .c (.fn)], fun vs k => match vs with
    | [.c (.ro .ii s0), .c (.v (.func (.func 34) ⟨[.agg ⟨[.int .i64 f1fa00, .int .i64 f1fa01]⟩]⟩ ⟨[]⟩))] => F_slices_IndexFunc_Weighed_Weighed_Weighed_hasKeyOf s0 f1fa00 f1fa01 (fun r0 => k (.one (.c (.v (.int .i64 r0)))) [])
    | _ => False, false⟩
def cl_slices_IndexFunc_Weighed_Weighed_Weighed_hasKeyOf : List (FuncId × Con) := [(34, con_impl_Weighed_hasKeyOf)]
def nm0_slices_IndexFunc_Weighed_Weighed_Weighed_hasKeyOf : List NStep := [.keep [0, 1, 7, 8] []]
def an_slices_IndexFunc_Weighed_Weighed_Weighed_hasKeyOf : Ann := ⟨[], [(2, nm0_slices_IndexFunc_Weighed_Weighed_Weighed_hasKeyOf)], [], []⟩
def cs_slices_IndexFunc_Weighed_Weighed_Weighed_hasKeyOf : Cons := ⟨cl_slices_IndexFunc_Weighed_Weighed_Weighed_hasKeyOf, [], 0, [], [], []⟩
def can0_slices_IndexFunc_Weighed_Weighed_Weighed_hasKeyOf (f1fa00 : Int) (f1fa01 : Int) (s0 : List (Int × Int)) (xt7 : Int) (xt8 : Int) : St := ⟨[(0, .one (.c (.ro .ii s0))), (1, .one (.c (.v (.func (.func 34) ⟨[.agg ⟨[.int .i64 f1fa00, .int .i64 f1fa01]⟩]⟩ ⟨[]⟩)))), (7, .one (.c (.v (.int .i64 xt7)))), (8, .one (.c (.v (.int .i64 xt8))))], []⟩
def fin_slices_IndexFunc_Weighed_Weighed_Weighed_hasKeyOf (s0 : List (Int × Int)) (f1fa00 : Int) (f1fa01 : Int) (kk : AV → List A1 → Prop) : Kt := fin TT con_slices_IndexFunc_Weighed_Weighed Try.f48.results.toList [.c .sc] [.c (.ro .ii s0), .c (.v (.func (.func 34) ⟨[.agg ⟨[.int .i64 f1fa00, .int .i64 f1fa01]⟩]⟩ ⟨[]⟩))] kk
def kt0_slices_IndexFunc_Weighed_Weighed_Weighed_hasKeyOf (kf : Kt) : Kt := blockK 0 (seqK (evF TT cs_slices_IndexFunc_Weighed_Weighed_Weighed_hasKeyOf 19 an_slices_IndexFunc_Weighed_Weighed_Weighed_hasKeyOf Try.f48 [1, 1]) (kf))
theorem r0_slices_IndexFunc_Weighed_Weighed_Weighed_hasKeyOf (s0 : List (Int × Int)) (f1fa00 : Int) (f1fa01 : Int) (xt7 : Int) (kk : AV → List A1 → Prop) (n : Nat) (xt8 : Int) :
    iter (evF TT cs_slices_IndexFunc_Weighed_Weighed_Weighed_hasKeyOf 19 an_slices_IndexFunc_Weighed_Weighed_Weighed_hasKeyOf Try.f48 [1, 0, 1, 0, 0]) nm0_slices_IndexFunc_Weighed_Weighed_Weighed_hasKeyOf (kt0_slices_IndexFunc_Weighed_Weighed_Weighed_hasKeyOf (fin_slices_IndexFunc_Weighed_Weighed_Weighed_hasKeyOf s0 f1fa00 f1fa01 kk)) (n + 1) (can0_slices_IndexFunc_Weighed_Weighed_Weighed_hasKeyOf f1fa00 f1fa01 s0 xt7 xt8) = T0_slices_IndexFunc_Weighed_Weighed_Weighed_hasKeyOf f1fa00 f1fa01 s0 xt7 xt8 (fun r0 => kk (.one (.c (.v (.int .i64 r0)))) []) (fun xt8 => iter (evF TT cs_slices_IndexFunc_Weighed_Weighed_Weighed_hasKeyOf 19 an_slices_IndexFunc_Weighed_Weighed_Weighed_hasKeyOf Try.f48 [1, 0, 1, 0, 0]) nm0_slices_IndexFunc_Weighed_Weighed_Weighed_hasKeyOf (kt0_slices_IndexFunc_Weighed_Weighed_Weighed_hasKeyOf (fin_slices_IndexFunc_Weighed_Weighed_Weighed_hasKeyOf s0 f1fa00 f1fa01 kk)) n (can0_slices_IndexFunc_Weighed_Weighed_Weighed_hasKeyOf f1fa00 f1fa01 s0 xt7 xt8)) := by kernel_rfl
theorem l0_slices_IndexFunc_Weighed_Weighed_Weighed_hasKeyOf (s0 : List (Int × Int)) (f1fa00 : Int) (f1fa01 : Int) (xt7 : Int) (kk : AV → List A1 → Prop) : ∀ (n : Nat) (xt8 : Int), iter (evF TT cs_slices_IndexFunc_Weighed_Weighed_Weighed_hasKeyOf 19 an_slices_IndexFunc_Weighed_Weighed_Weighed_hasKeyOf Try.f48 [1, 0, 1, 0, 0]) nm0_slices_IndexFunc_Weighed_Weighed_Weighed_hasKeyOf (kt0_slices_IndexFunc_Weighed_Weighed_Weighed_hasKeyOf (fin_slices_IndexFunc_Weighed_Weighed_Weighed_hasKeyOf s0 f1fa00 f1fa01 kk)) n (can0_slices_IndexFunc_Weighed_Weighed_Weighed_hasKeyOf f1fa00 f1fa01 s0 xt7 xt8) = L0_slices_IndexFunc_Weighed_Weighed_Weighed_hasKeyOf f1fa00 f1fa01 s0 xt7 (fun r0 => kk (.one (.c (.v (.int .i64 r0)))) []) n xt8 := by
  intro n
  induction n with
  | zero => intros; rfl
  | succ n ih =>
    intro xt8
    rw [r0_slices_IndexFunc_Weighed_Weighed_Weighed_hasKeyOf s0 f1fa00 f1fa01 xt7 kk n xt8]
    have hb : (fun xt8 => iter (evF TT cs_slices_IndexFunc_Weighed_Weighed_Weighed_hasKeyOf 19 an_slices_IndexFunc_Weighed_Weighed_Weighed_hasKeyOf Try.f48 [1, 0, 1, 0, 0]) nm0_slices_IndexFunc_Weighed_Weighed_Weighed_hasKeyOf (kt0_slices_IndexFunc_Weighed_Weighed_Weighed_hasKeyOf (fin_slices_IndexFunc_Weighed_Weighed_Weighed_hasKeyOf s0 f1fa00 f1fa01 kk)) n (can0_slices_IndexFunc_Weighed_Weighed_Weighed_hasKeyOf f1fa00 f1fa01 s0 xt7 xt8)) = L0_slices_IndexFunc_Weighed_Weighed_Weighed_hasKeyOf f1fa00 f1fa01 s0 xt7 (fun r0 => kk (.one (.c (.v (.int .i64 r0)))) []) n := by
      funext xt8; exact ih xt8
    rw [hb]
    rfl
theorem g_slices_IndexFunc_Weighed_Weighed_Weighed_hasKeyOf (s0 : List (Int × Int)) (f1fa00 : Int) (f1fa01 : Int) (kk : AV → List A1 → Prop) :
    ev TT cs_slices_IndexFunc_Weighed_Weighed_Weighed_hasKeyOf 19 an_slices_IndexFunc_Weighed_Weighed_Weighed_hasKeyOf (Try.f48.body.getD .skip) (st0 con_slices_IndexFunc_Weighed_Weighed [.c (.ro .ii s0), .c (.v (.func (.func 34) ⟨[.agg ⟨[.int .i64 f1fa00, .int .i64 f1fa01]⟩]⟩ ⟨[]⟩))]) (fin TT con_slices_IndexFunc_Weighed_Weighed Try.f48.results.toList [.c .sc] [.c (.ro .ii s0), .c (.v (.func (.func 34) ⟨[.agg ⟨[.int .i64 f1fa00, .int .i64 f1fa01]⟩]⟩ ⟨[]⟩))] kk) = G_slices_IndexFunc_Weighed_Weighed_Weighed_hasKeyOf s0 f1fa00 f1fa01 (fun f1fa00 f1fa01 s0 xt7 xt8 => ∃ j, iter (evF TT cs_slices_IndexFunc_Weighed_Weighed_Weighed_hasKeyOf 19 an_slices_IndexFunc_Weighed_Weighed_Weighed_hasKeyOf Try.f48 [1, 0, 1, 0, 0]) nm0_slices_IndexFunc_Weighed_Weighed_Weighed_hasKeyOf (kt0_slices_IndexFunc_Weighed_Weighed_Weighed_hasKeyOf (fin_slices_IndexFunc_Weighed_Weighed_Weighed_hasKeyOf s0 f1fa00 f1fa01 kk)) j (can0_slices_IndexFunc_Weighed_Weighed_Weighed_hasKeyOf f1fa00 f1fa01 s0 xt7 xt8)) := by kernel_rfl
theorem e_slices_IndexFunc_Weighed_Weighed_Weighed_hasKeyOf (s0 : List (Int × Int)) (f1fa00 : Int) (f1fa01 : Int) (kk : AV → List A1 → Prop) :
    ev TT cs_slices_IndexFunc_Weighed_Weighed_Weighed_hasKeyOf 19 an_slices_IndexFunc_Weighed_Weighed_Weighed_hasKeyOf (Try.f48.body.getD .skip) (st0 con_slices_IndexFunc_Weighed_Weighed [.c (.ro .ii s0), .c (.v (.func (.func 34) ⟨[.agg ⟨[.int .i64 f1fa00, .int .i64 f1fa01]⟩]⟩ ⟨[]⟩))]) (fin TT con_slices_IndexFunc_Weighed_Weighed Try.f48.results.toList [.c .sc] [.c (.ro .ii s0), .c (.v (.func (.func 34) ⟨[.agg ⟨[.int .i64 f1fa00, .int .i64 f1fa01]⟩]⟩ ⟨[]⟩))] kk) = S_slices_IndexFunc_Weighed_Weighed_Weighed_hasKeyOf s0 f1fa00 f1fa01 (fun r0 => kk (.one (.c (.v (.int .i64 r0)))) []) := by
  rw [g_slices_IndexFunc_Weighed_Weighed_Weighed_hasKeyOf]
  have hi0 : (fun f1fa00 f1fa01 s0 xt7 xt8 => ∃ j, iter (evF TT cs_slices_IndexFunc_Weighed_Weighed_Weighed_hasKeyOf 19 an_slices_IndexFunc_Weighed_Weighed_Weighed_hasKeyOf Try.f48 [1, 0, 1, 0, 0]) nm0_slices_IndexFunc_Weighed_Weighed_Weighed_hasKeyOf (kt0_slices_IndexFunc_Weighed_Weighed_Weighed_hasKeyOf (fin_slices_IndexFunc_Weighed_Weighed_Weighed_hasKeyOf s0 f1fa00 f1fa01 kk)) j (can0_slices_IndexFunc_Weighed_Weighed_Weighed_hasKeyOf f1fa00 f1fa01 s0 xt7 xt8)) = (fun f1fa00 f1fa01 s0 xt7 xt8 => ∃ j, L0_slices_IndexFunc_Weighed_Weighed_Weighed_hasKeyOf f1fa00 f1fa01 s0 xt7 (fun r0 => kk (.one (.c (.v (.int .i64 r0)))) []) j xt8) := by
    funext f1fa00 f1fa01 s0 xt7 xt8
    refine congrArg Exists (funext fun j => ?_)
    rw [l0_slices_IndexFunc_Weighed_Weighed_Weighed_hasKeyOf s0 f1fa00 f1fa01 xt7 kk j xt8]
  rw [hi0]
  rfl
theorem clok_slices_IndexFunc_Weighed_Weighed_Weighed_hasKeyOf : ConOK Try.prog cl_slices_IndexFunc_Weighed_Weighed_Weighed_hasKeyOf := consCons h_impl_Weighed_hasKeyOf ⟨Try.f34, Try.func34, by kernel_rfl, ne_of_beq (by kernel_rfl)⟩ (consNil)
theorem cok_slices_IndexFunc_Weighed_Weighed_Weighed_hasKeyOf : ConsOK Try.prog 19 cs_slices_IndexFunc_Weighed_Weighed_Weighed_hasKeyOf := ⟨clok_slices_IndexFunc_Weighed_Weighed_Weighed_hasKeyOf, inlNil, ovNil⟩
theorem i_slices_IndexFunc_Weighed_Weighed_Weighed_hasKeyOf {vs : List A1} {kk : AV → List A1 → Prop} {motive : List A1 → Prop} (h : con_slices_IndexFunc_Weighed_Weighed.F vs kk) (H : ∀ (s0 : List (Int × Int)) (f1fa00 : Int) (f1fa01 : Int), F_slices_IndexFunc_Weighed_Weighed_Weighed_hasKeyOf s0 f1fa00 f1fa01 (fun r0 => kk (.one (.c (.v (.int .i64 r0)))) []) → motive [.c (.ro .ii s0), .c (.v (.func (.func 34) ⟨[.agg ⟨[.int .i64 f1fa00, .int .i64 f1fa01]⟩]⟩ ⟨[]⟩))]) : motive vs := by
  unfold con_slices_IndexFunc_Weighed_Weighed at h
  dsimp only at h
  split at h
  · exact H _ _ _ h
  · exact h.elim
theorem h_slices_IndexFunc_Weighed_Weighed : Holds Try.prog 48 con_slices_IndexFunc_Weighed_Weighed := by
  refine holds_of_ev (rt := [.c .sc]) (T := TT) (Γ := cs_slices_IndexFunc_Weighed_Weighed_Weighed_hasKeyOf) (an := an_slices_IndexFunc_Weighed_Weighed_Weighed_hasKeyOf) (N := 19) (c := Try.f48.body.getD .skip) Try.func48 (by kernel_rfl) Try.ntmps48 (by decide) (by decide) mixed tabOK cok_slices_IndexFunc_Weighed_Weighed_Weighed_hasKeyOf (by kernel_rfl) ?_
  intro vs kk _ hF
  exact i_slices_IndexFunc_Weighed_Weighed_Weighed_hasKeyOf (motive := fun vs => Goes (ev TT cs_slices_IndexFunc_Weighed_Weighed_Weighed_hasKeyOf 19 an_slices_IndexFunc_Weighed_Weighed_Weighed_hasKeyOf (Try.f48.body.getD .skip) (st0 con_slices_IndexFunc_Weighed_Weighed vs) (fin TT con_slices_IndexFunc_Weighed_Weighed Try.f48.results.toList [.c .sc] vs kk))) hF (fun s0 f1fa00 f1fa01 hF => goes_of (e_slices_IndexFunc_Weighed_Weighed_Weighed_hasKeyOf s0 f1fa00 f1fa01 kk) (F_slices_IndexFunc_Weighed_Weighed_Weighed_hasKeyOf_S hF))
def con_slices_ContainsFunc_Weighed_Weighed : Con := ⟨[.rd, .rd], true, [.c (.sl .ii), .c (.fn)], fun vs k => match vs with
    | [.c (.ro .ii s0), .c (.v (.func (.func 34) ⟨[.agg ⟨[.int .i64 f1fa00, .int .i64 f1fa01]⟩]⟩ ⟨[]⟩))] => F_slices_ContainsFunc_Weighed_Weighed_Weighed_hasKeyOf s0 f1fa00 f1fa01 (fun r0 => k (.one (.c (.v (.bool r0)))) [])
    | _ => False, false⟩
def cl_slices_ContainsFunc_Weighed_Weighed_Weighed_hasKeyOf : List (FuncId × Con) := [(48, con_slices_IndexFunc_Weighed_Weighed)]
def an_slices_ContainsFunc_Weighed_Weighed_Weighed_hasKeyOf : Ann := ⟨[], [], [], []⟩
def cs_slices_ContainsFunc_Weighed_Weighed_Weighed_hasKeyOf : Cons := ⟨cl_slices_ContainsFunc_Weighed_Weighed_Weighed_hasKeyOf, [], 0, [], [], []⟩
def fin_slices_ContainsFunc_Weighed_Weighed_Weighed_hasKeyOf (s0 : List (Int × Int)) (f1fa00 : Int) (f1fa01 : Int) (kk : AV → List A1 → Prop) : Kt := fin TT con_slices_ContainsFunc_Weighed_Weighed Try.f33.results.toList [.c .sc] [.c (.ro .ii s0), .c (.v (.func (.func 34) ⟨[.agg ⟨[.int .i64 f1fa00, .int .i64 f1fa01]⟩]⟩ ⟨[]⟩))] kk
theorem g_slices_ContainsFunc_Weighed_Weighed_Weighed_hasKeyOf (s0 : List (Int × Int)) (f1fa00 : Int) (f1fa01 : Int) (kk : AV → List A1 → Prop) :
    ev TT cs_slices_ContainsFunc_Weighed_Weighed_Weighed_hasKeyOf 9 an_slices_ContainsFunc_Weighed_Weighed_Weighed_hasKeyOf (Try.f33.body.getD .skip) (st0 con_slices_ContainsFunc_Weighed_Weighed [.c (.ro .ii s0), .c (.v (.func (.func 34) ⟨[.agg ⟨[.int .i64 f1fa00, .int .i64 f1fa01]⟩]⟩ ⟨[]⟩))]) (fin TT con_slices_ContainsFunc_Weighed_Weighed Try.f33.results.toList [.c .sc] [.c (.ro .ii s0), .c (.v (.func (.func 34) ⟨[.agg ⟨[.int .i64 f1fa00, .int .i64 f1fa01]⟩]⟩ ⟨[]⟩))] kk) = G_slices_ContainsFunc_Weighed_Weighed_Weighed_hasKeyOf s0 f1fa00 f1fa01 (fun r0 => kk (.one (.c (.v (.bool r0)))) []) := by kernel_rfl
theorem e_slices_ContainsFunc_Weighed_Weighed_Weighed_hasKeyOf (s0 : List (Int × Int)) (f1fa00 : Int) (f1fa01 : Int) (kk : AV → List A1 → Prop) :
    ev TT cs_slices_ContainsFunc_Weighed_Weighed_Weighed_hasKeyOf 9 an_slices_ContainsFunc_Weighed_Weighed_Weighed_hasKeyOf (Try.f33.body.getD .skip) (st0 con_slices_ContainsFunc_Weighed_Weighed [.c (.ro .ii s0), .c (.v (.func (.func 34) ⟨[.agg ⟨[.int .i64 f1fa00, .int .i64 f1fa01]⟩]⟩ ⟨[]⟩))]) (fin TT con_slices_ContainsFunc_Weighed_Weighed Try.f33.results.toList [.c .sc] [.c (.ro .ii s0), .c (.v (.func (.func 34) ⟨[.agg ⟨[.int .i64 f1fa00, .int .i64 f1fa01]⟩]⟩ ⟨[]⟩))] kk) = S_slices_ContainsFunc_Weighed_Weighed_Weighed_hasKeyOf s0 f1fa00 f1fa01 (fun r0 => kk (.one (.c (.v (.bool r0)))) []) := by
  rw [g_slices_ContainsFunc_Weighed_Weighed_Weighed_hasKeyOf]
  rfl
theorem clok_slices_ContainsFunc_Weighed_Weighed_Weighed_hasKeyOf : ConOK Try.prog cl_slices_ContainsFunc_Weighed_Weighed_Weighed_hasKeyOf := consCons h_slices_IndexFunc_Weighed_Weighed ⟨Try.f48, Try.func48, by kernel_rfl, ne_of_beq (by kernel_rfl)⟩ (consNil)
theorem cok_slices_ContainsFunc_Weighed_Weighed_Weighed_hasKeyOf : ConsOK Try.prog 9 cs_slices_ContainsFunc_Weighed_Weighed_Weighed_hasKeyOf := ⟨clok_slices_ContainsFunc_Weighed_Weighed_Weighed_hasKeyOf, inlNil, ovNil⟩
theorem i_slices_ContainsFunc_Weighed_Weighed_Weighed_hasKeyOf {vs : List A1} {kk : AV → List A1 → Prop} {motive : List A1 → Prop} (h : con_slices_ContainsFunc_Weighed_Weighed.F vs kk) (H : ∀ (s0 : List (Int × Int)) (f1fa00 : Int) (f1fa01 : Int), F_slices_ContainsFunc_Weighed_Weighed_Weighed_hasKeyOf s0 f1fa00 f1fa01 (fun r0 => kk (.one (.c (.v (.bool r0)))) []) → motive [.c (.ro .ii s0), .c (.v (.func (.func 34) ⟨[.agg ⟨[.int .i64 f1fa00, .int .i64 f1fa01]⟩]⟩ ⟨[]⟩))]) : motive vs := by
  unfold con_slices_ContainsFunc_Weighed_Weighed at h
  dsimp only at h
  split at h
  · exact H _ _ _ h
  · exact h.elim
theorem h_slices_ContainsFunc_Weighed_Weighed : Holds Try.prog 33 con_slices_ContainsFunc_Weighed_Weighed := by
  refine holds_of_ev (rt := [.c .sc]) (T := TT) (Γ := cs_slices_ContainsFunc_Weighed_Weighed_Weighed_hasKeyOf) (an := an_slices_ContainsFunc_Weighed_Weighed_Weighed_hasKeyOf) (N := 9) (c := Try.f33.body.getD .skip) Try.func33 (by kernel_rfl) Try.ntmps33 (by decide) (by decide) mixed tabOK cok_slices_ContainsFunc_Weighed_Weighed_Weighed_hasKeyOf (by kernel_rfl) ?_
  intro vs kk _ hF
  exact i_slices_ContainsFunc_Weighed_Weighed_Weighed_hasKeyOf (motive := fun vs => Goes (ev TT cs_slices_ContainsFunc_Weighed_Weighed_Weighed_hasKeyOf 9 an_slices_ContainsFunc_Weighed_Weighed_Weighed_hasKeyOf (Try.f33.body.getD .skip) (st0 con_slices_ContainsFunc_Weighed_Weighed vs) (fin TT con_slices_ContainsFunc_Weighed_Weighed Try.f33.results.toList [.c .sc] vs kk))) hF (fun s0 f1fa00 f1fa01 hF => goes_of (e_slices_ContainsFunc_Weighed_Weighed_Weighed_hasKeyOf s0 f1fa00 f1fa01 kk) (F_slices_ContainsFunc_Weighed_Weighed_Weighed_hasKeyOf_S hF))
def con_impl_usedSpace : Con := ⟨[.rd], true, [.c (.sl .ii)], fun vs k => match vs with
    | [.c (.ro .ii list0)] => F_impl_usedSpace list0 (fun r0 => k (.one (.c (.v (.int .i64 r0)))) [])
    | _ => False, false⟩
def cl_impl_usedSpace : List (FuncId × Con) := []
def nm0_impl_usedSpace : List NStep := [.keep [3, 6, 7, 8] []]
def an_impl_usedSpace : Ann := ⟨[], [(3, nm0_impl_usedSpace)], [], []⟩
def cs_impl_usedSpace : Cons := ⟨cl_impl_usedSpace, [], 0, [], [], []⟩
def can0_impl_usedSpace (list0 : List (Int × Int)) (xt7 : Int) (xsum3 : Int) (xt8 : Int) : St := ⟨[(3, .one (.c (.v (.int .i64 xsum3)))), (6, .one (.c (.ro .ii list0))), (7, .one (.c (.v (.int .i64 xt7)))), (8, .one (.c (.v (.int .i64 xt8))))], []⟩
def fin_impl_usedSpace (list0 : List (Int × Int)) (kk : AV → List A1 → Prop) : Kt := fin TT con_impl_usedSpace Try.f35.results.toList [.c .sc] [.c (.ro .ii list0)] kk
def kt0_impl_usedSpace (kf : Kt) : Kt := blockK 0 (seqK (evF TT cs_impl_usedSpace 18 an_impl_usedSpace Try.f35 [1, 1, 1]) (kf))
theorem r0_impl_usedSpace (list0 : List (Int × Int)) (xt7 : Int) (kk : AV → List A1 → Prop) (n : Nat) (xsum3 : Int) (xt8 : Int) :
    iter (evF TT cs_impl_usedSpace 18 an_impl_usedSpace Try.f35 [1, 1, 0, 1, 0, 0]) nm0_impl_usedSpace (kt0_impl_usedSpace (fin_impl_usedSpace list0 kk)) (n + 1) (can0_impl_usedSpace list0 xt7 xsum3 xt8) = T0_impl_usedSpace list0 xt7 xsum3 xt8 (fun r0 => kk (.one (.c (.v (.int .i64 r0)))) []) (fun xsum3 xt8 => iter (evF TT cs_impl_usedSpace 18 an_impl_usedSpace Try.f35 [1, 1, 0, 1, 0, 0]) nm0_impl_usedSpace (kt0_impl_usedSpace (fin_impl_usedSpace list0 kk)) n (can0_impl_usedSpace list0 xt7 xsum3 xt8)) := by kernel_rfl
theorem l0_impl_usedSpace (list0 : List (Int × Int)) (xt7 : Int) (kk : AV → List A1 → Prop) : ∀ (n : Nat) (xsum3 : Int) (xt8 : Int), iter (evF TT cs_impl_usedSpace 18 an_impl_usedSpace Try.f35 [1, 1, 0, 1, 0, 0]) nm0_impl_usedSpace (kt0_impl_usedSpace (fin_impl_usedSpace list0 kk)) n (can0_impl_usedSpace list0 xt7 xsum3 xt8) = L0_impl_usedSpace list0 xt7 (fun r0 => kk (.one (.c (.v (.int .i64 r0)))) []) n xsum3 xt8 := by
  intro n
  induction n with
  | zero => intros; rfl
  | succ n ih =>
    intro xsum3 xt8
    rw [r0_impl_usedSpace list0 xt7 kk n xsum3 xt8]
    have hb : (fun xsum3 xt8 => iter (evF TT cs_impl_usedSpace 18 an_impl_usedSpace Try.f35 [1, 1, 0, 1, 0, 0]) nm0_impl_usedSpace (kt0_impl_usedSpace (fin_impl_usedSpace list0 kk)) n (can0_impl_usedSpace list0 xt7 xsum3 xt8)) = L0_impl_usedSpace list0 xt7 (fun r0 => kk (.one (.c (.v (.int .i64 r0)))) []) n := by
      funext xsum3 xt8; exact ih xsum3 xt8
    rw [hb]
    rfl
theorem g_impl_usedSpace (list0 : List (Int × Int)) (kk : AV → List A1 → Prop) :
    ev TT cs_impl_usedSpace 18 an_impl_usedSpace (Try.f35.body.getD .skip) (st0 con_impl_usedSpace [.c (.ro .ii list0)]) (fin TT con_impl_usedSpace Try.f35.results.toList [.c .sc] [.c (.ro .ii list0)] kk) = G_impl_usedSpace list0 (fun list0 xt7 xsum3 xt8 => ∃ j, iter (evF TT cs_impl_usedSpace 18 an_impl_usedSpace Try.f35 [1, 1, 0, 1, 0, 0]) nm0_impl_usedSpace (kt0_impl_usedSpace (fin_impl_usedSpace list0 kk)) j (can0_impl_usedSpace list0 xt7 xsum3 xt8)) := by kernel_rfl
theorem e_impl_usedSpace (list0 : List (Int × Int)) (kk : AV → List A1 → Prop) :
    ev TT cs_impl_usedSpace 18 an_impl_usedSpace (Try.f35.body.getD .skip) (st0 con_impl_usedSpace [.c (.ro .ii list0)]) (fin TT con_impl_usedSpace Try.f35.results.toList [.c .sc] [.c (.ro .ii list0)] kk) = S_impl_usedSpace list0 (fun r0 => kk (.one (.c (.v (.int .i64 r0)))) []) := by
  rw [g_impl_usedSpace]
  have hi0 : (fun list0 xt7 xsum3 xt8 => ∃ j, iter (evF TT cs_impl_usedSpace 18 an_impl_usedSpace Try.f35 [1, 1, 0, 1, 0, 0]) nm0_impl_usedSpace (kt0_impl_usedSpace (fin_impl_usedSpace list0 kk)) j (can0_impl_usedSpace list0 xt7 xsum3 xt8)) = (fun list0 xt7 xsum3 xt8 => ∃ j, L0_impl_usedSpace list0 xt7 (fun r0 => kk (.one (.c (.v (.int .i64 r0)))) []) j xsum3 xt8) := by
    funext list0 xt7 xsum3 xt8
    refine congrArg Exists (funext fun j => ?_)
    rw [l0_impl_usedSpace list0 xt7 kk j xsum3 xt8]
  rw [hi0]
  rfl
theorem clok_impl_usedSpace : ConOK Try.prog cl_impl_usedSpace := consNil
theorem cok_impl_usedSpace : ConsOK Try.prog 18 cs_impl_usedSpace := ⟨clok_impl_usedSpace, inlNil, ovNil⟩
theorem i_impl_usedSpace {vs : List A1} {kk : AV → List A1 → Prop} {motive : List A1 → Prop} (h : con_impl_usedSpace.F vs kk) (H : ∀ (list0 : List (Int × Int)), F_impl_usedSpace list0 (fun r0 => kk (.one (.c (.v (.int .i64 r0)))) []) → motive [.c (.ro .ii list0)]) : motive vs := by
  unfold con_impl_usedSpace at h
  dsimp only at h
  split at h
  · exact H _ h
  · exact h.elim
theorem h_impl_usedSpace : Holds Try.prog 35 con_impl_usedSpace := by
  refine holds_of_ev (rt := [.c .sc]) (T := TT) (Γ := cs_impl_usedSpace) (an := an_impl_usedSpace) (N := 18) (c := Try.f35.body.getD .skip) Try.func35 (by kernel_rfl) Try.ntmps35 (by decide) (by decide) mixed tabOK cok_impl_usedSpace (by kernel_rfl) ?_
  intro vs kk _ hF
  exact i_impl_usedSpace (motive := fun vs => Goes (ev TT cs_impl_usedSpace 18 an_impl_usedSpace (Try.f35.body.getD .skip) (st0 con_impl_usedSpace vs) (fin TT con_impl_usedSpace Try.f35.results.toList [.c .sc] vs kk))) hF (fun list0 hF => goes_of (e_impl_usedSpace list0 kk) (F_impl_usedSpace_S hF))
def con_impl_ValidWeighed : Con := ⟨[.rd, .rd], true, [.c (.sl .ii), .c (.sc)], fun vs k => match vs with
    | [.c (.ro .ii list0), .c (.v (.int .i64 room1))] => F_impl_ValidWeighed list0 room1 (fun r0 => k (.one (.c (.v (.bool r0)))) [])
    | _ => False, false⟩
def cl_impl_ValidWeighed : List (FuncId × Con) := [(30, con_impl_validSpace), (31, con_impl_validKey), (32, con_impl_validSize), (33, con_slices_ContainsFunc_Weighed_Weighed), (35, con_impl_usedSpace)]
def nm0_impl_ValidWeighed : List NStep := [.keep [0, 1, 10, 11, 12] []]
def an_impl_ValidWeighed : Ann := ⟨[(6, .take 0 (.take 1 (.alt 2 (.take 3 (.take 4 (.take 5 (.take 6 (.alt 7 (.take 8 (.take 9 (.take 10 (.take 11 (.take 12 (.take 13 (.take 14 (.take 15 (.alt 16 (.take 17 (.done)) (.none)))))))))) (.none)))))) (.none))), [96])], [(4, nm0_impl_ValidWeighed)], [], []⟩
def cs_impl_ValidWeighed : Cons := ⟨cl_impl_ValidWeighed, [], 0, [], [], []⟩
def can0_impl_ValidWeighed (list0 : List (Int × Int)) (room1 : Int) (xt11 : Int) (xt12 : Int) : St := ⟨[(0, .one (.c (.ro .ii list0))), (1, .one (.c (.v (.int .i64 room1)))), (10, .one (.c (.ro .ii list0))), (11, .one (.c (.v (.int .i64 xt11)))), (12, .one (.c (.v (.int .i64 xt12))))], []⟩
def fin_impl_ValidWeighed (list0 : List (Int × Int)) (room1 : Int) (kk : AV → List A1 → Prop) : Kt := fin TT con_impl_ValidWeighed Try.f14.results.toList [.c .sc] [.c (.ro .ii list0), .c (.v (.int .i64 room1))] kk
def kt0_impl_ValidWeighed (kf : Kt) : Kt := blockK 0 (seqK (evF TT cs_impl_ValidWeighed 40 an_impl_ValidWeighed Try.f14 [1, 1, 1]) (kf))
theorem r0_impl_ValidWeighed (list0 : List (Int × Int)) (room1 : Int) (xt11 : Int) (kk : AV → List A1 → Prop) (n : Nat) (xt12 : Int) :
    iter (evF TT cs_impl_ValidWeighed 40 an_impl_ValidWeighed Try.f14 [1, 1, 0, 1, 0, 0]) nm0_impl_ValidWeighed (kt0_impl_ValidWeighed (fin_impl_ValidWeighed list0 room1 kk)) (n + 1) (can0_impl_ValidWeighed list0 room1 xt11 xt12) = T0_impl_ValidWeighed list0 room1 xt11 xt12 (fun r0 => kk (.one (.c (.v (.bool r0)))) []) (fun xt12 => iter (evF TT cs_impl_ValidWeighed 40 an_impl_ValidWeighed Try.f14 [1, 1, 0, 1, 0, 0]) nm0_impl_ValidWeighed (kt0_impl_ValidWeighed (fin_impl_ValidWeighed list0 room1 kk)) n (can0_impl_ValidWeighed list0 room1 xt11 xt12)) := by kernel_rfl
theorem l0_impl_ValidWeighed (list0 : List (Int × Int)) (room1 : Int) (xt11 : Int) (kk : AV → List A1 → Prop) : ∀ (n : Nat) (xt12 : Int), iter (evF TT cs_impl_ValidWeighed 40 an_impl_ValidWeighed Try.f14 [1, 1, 0, 1, 0, 0]) nm0_impl_ValidWeighed (kt0_impl_ValidWeighed (fin_impl_ValidWeighed list0 room1 kk)) n (can0_impl_ValidWeighed list0 room1 xt11 xt12) = L0_impl_ValidWeighed list0 room1 xt11 (fun r0 => kk (.one (.c (.v (.bool r0)))) []) n xt12 := by
  intro n
  induction n with
  | zero => intros; rfl
  | succ n ih =>
    intro xt12
    rw [r0_impl_ValidWeighed list0 room1 xt11 kk n xt12]
    have hb : (fun xt12 => iter (evF TT cs_impl_ValidWeighed 40 an_impl_ValidWeighed Try.f14 [1, 1, 0, 1, 0, 0]) nm0_impl_ValidWeighed (kt0_impl_ValidWeighed (fin_impl_ValidWeighed list0 room1 kk)) n (can0_impl_ValidWeighed list0 room1 xt11 xt12)) = L0_impl_ValidWeighed list0 room1 xt11 (fun r0 => kk (.one (.c (.v (.bool r0)))) []) n := by
      funext xt12; exact ih xt12
    rw [hb]
    rw [T0_impl_ValidWeighed_eq]
    rfl
theorem g_impl_ValidWeighed (list0 : List (Int × Int)) (room1 : Int) (kk : AV → List A1 → Prop) :
    ev TT cs_impl_ValidWeighed 40 an_impl_ValidWeighed (Try.f14.body.getD .skip) (st0 con_impl_ValidWeighed [.c (.ro .ii list0), .c (.v (.int .i64 room1))]) (fin TT con_impl_ValidWeighed Try.f14.results.toList [.c .sc] [.c (.ro .ii list0), .c (.v (.int .i64 room1))] kk) = G_impl_ValidWeighed list0 room1 (fun r0 => kk (.one (.c (.v (.bool r0)))) []) (fun list0 room1 xt11 xt12 => ∃ j, iter (evF TT cs_impl_ValidWeighed 40 an_impl_ValidWeighed Try.f14 [1, 1, 0, 1, 0, 0]) nm0_impl_ValidWeighed (kt0_impl_ValidWeighed (fin_impl_ValidWeighed list0 room1 kk)) j (can0_impl_ValidWeighed list0 room1 xt11 xt12)) := by kernel_rfl
theorem e_impl_ValidWeighed (list0 : List (Int × Int)) (room1 : Int) (kk : AV → List A1 → Prop) :
    ev TT cs_impl_ValidWeighed 40 an_impl_ValidWeighed (Try.f14.body.getD .skip) (st0 con_impl_ValidWeighed [.c (.ro .ii list0), .c (.v (.int .i64 room1))]) (fin TT con_impl_ValidWeighed Try.f14.results.toList [.c .sc] [.c (.ro .ii list0), .c (.v (.int .i64 room1))] kk) = S_impl_ValidWeighed list0 room1 (fun r0 => kk (.one (.c (.v (.bool r0)))) []) := by
  rw [g_impl_ValidWeighed]
  have hi0 : (fun list0 room1 xt11 xt12 => ∃ j, iter (evF TT cs_impl_ValidWeighed 40 an_impl_ValidWeighed Try.f14 [1, 1, 0, 1, 0, 0]) nm0_impl_ValidWeighed (kt0_impl_ValidWeighed (fin_impl_ValidWeighed list0 room1 kk)) j (can0_impl_ValidWeighed list0 room1 xt11 xt12)) = (fun list0 room1 xt11 xt12 => ∃ j, L0_impl_ValidWeighed list0 room1 xt11 (fun r0 => kk (.one (.c (.v (.bool r0)))) []) j xt12) := by
    funext list0 room1 xt11 xt12
    refine congrArg Exists (funext fun j => ?_)
    rw [l0_impl_ValidWeighed list0 room1 xt11 kk j xt12]
  rw [hi0]
  rfl
theorem clok_impl_ValidWeighed : ConOK Try.prog cl_impl_ValidWeighed := consCons h_impl_validSpace ⟨Try.f30, Try.func30, by kernel_rfl, ne_of_beq (by kernel_rfl)⟩ (consCons h_impl_validKey ⟨Try.f31, Try.func31, by kernel_rfl, ne_of_beq (by kernel_rfl)⟩ (consCons h_impl_validSize ⟨Try.f32, Try.func32, by kernel_rfl, ne_of_beq (by kernel_rfl)⟩ (consCons h_slices_ContainsFunc_Weighed_Weighed ⟨Try.f33, Try.func33, by kernel_rfl, ne_of_beq (by kernel_rfl)⟩ (consCons h_impl_usedSpace ⟨Try.f35, Try.func35, by kernel_rfl, ne_of_beq (by kernel_rfl)⟩ (consNil)))))
theorem cok_impl_ValidWeighed : ConsOK Try.prog 40 cs_impl_ValidWeighed := ⟨clok_impl_ValidWeighed, inlNil, ovNil⟩
theorem i_impl_ValidWeighed {vs : List A1} {kk : AV → List A1 → Prop} {motive : List A1 → Prop} (h : con_impl_ValidWeighed.F vs kk) (H : ∀ (list0 : List (Int × Int)) (room1 : Int), F_impl_ValidWeighed list0 room1 (fun r0 => kk (.one (.c (.v (.bool r0)))) []) → motive [.c (.ro .ii list0), .c (.v (.int .i64 room1))]) : motive vs := by
  unfold con_impl_ValidWeighed at h
  dsimp only at h
  split at h
  · exact H _ _ h
  · exact h.elim
theorem h_impl_ValidWeighed : Holds Try.prog 14 con_impl_ValidWeighed := by
  refine holds_of_ev (rt := [.c .sc]) (T := TT) (Γ := cs_impl_ValidWeighed) (an := an_impl_ValidWeighed) (N := 40) (c := Try.f14.body.getD .skip) Try.func14 (by kernel_rfl) Try.ntmps14 (by decide) (by decide) mixed tabOK cok_impl_ValidWeighed (by kernel_rfl) ?_
  intro vs kk _ hF
  exact i_impl_ValidWeighed (motive := fun vs => Goes (ev TT cs_impl_ValidWeighed 40 an_impl_ValidWeighed (Try.f14.body.getD .skip) (st0 con_impl_ValidWeighed vs) (fin TT con_impl_ValidWeighed Try.f14.results.toList [.c .sc] vs kk))) hF (fun list0 room1 hF => goes_of (e_impl_ValidWeighed list0 room1 kk) (F_impl_ValidWeighed_S hF))
def con_laws_eqWeighed : Con := ⟨[.rd, .rd], true, [.agg [.sc, .sc], .agg [.sc, .sc]], fun vs k => match vs with
    | [.agg [.v (.int .i64 a0Key), .v (.int .i64 a0Size)], .agg [.v (.int .i64 b1Key), .v (.int .i64 b1Size)]] => F_laws_eqWeighed a0Key a0Size b1Key b1Size (fun r0 => k (.one (.c (.v (.bool r0)))) [])
    | _ => False, false⟩
def cl_laws_eqWeighed : List (FuncId × Con) := []
def an_laws_eqWeighed : Ann := ⟨[], [], [], []⟩
def cs_laws_eqWeighed : Cons := ⟨cl_laws_eqWeighed, [], 0, [], [], []⟩
def fin_laws_eqWeighed (a0Key : Int) (a0Size : Int) (b1Key : Int) (b1Size : Int) (kk : AV → List A1 → Prop) : Kt := fin TT con_laws_eqWeighed Try.f46.results.toList [.c .sc] [.agg [.v (.int .i64 a0Key), .v (.int .i64 a0Size)], .agg [.v (.int .i64 b1Key), .v (.int .i64 b1Size)]] kk
theorem g_laws_eqWeighed (a0Key : Int) (a0Size : Int) (b1Key : Int) (b1Size : Int) (kk : AV → List A1 → Prop) :
    ev TT cs_laws_eqWeighed 15 an_laws_eqWeighed (Try.f46.body.getD .skip) (st0 con_laws_eqWeighed [.agg [.v (.int .i64 a0Key), .v (.int .i64 a0Size)], .agg [.v (.int .i64 b1Key), .v (.int .i64 b1Size)]]) (fin TT con_laws_eqWeighed Try.f46.results.toList [.c .sc] [.agg [.v (.int .i64 a0Key), .v (.int .i64 a0Size)], .agg [.v (.int .i64 b1Key), .v (.int .i64 b1Size)]] kk) = G_laws_eqWeighed a0Key a0Size b1Key b1Size (fun r0 => kk (.one (.c (.v (.bool r0)))) []) := by kernel_rfl
theorem e_laws_eqWeighed (a0Key : Int) (a0Size : Int) (b1Key : Int) (b1Size : Int) (kk : AV → List A1 → Prop) :
    ev TT cs_laws_eqWeighed 15 an_laws_eqWeighed (Try.f46.body.getD .skip) (st0 con_laws_eqWeighed [.agg [.v (.int .i64 a0Key), .v (.int .i64 a0Size)], .agg [.v (.int .i64 b1Key), .v (.int .i64 b1Size)]]) (fin TT con_laws_eqWeighed Try.f46.results.toList [.c .sc] [.agg [.v (.int .i64 a0Key), .v (.int .i64 a0Size)], .agg [.v (.int .i64 b1Key), .v (.int .i64 b1Size)]] kk) = S_laws_eqWeighed a0Key a0Size b1Key b1Size (fun r0 => kk (.one (.c (.v (.bool r0)))) []) := by
  rw [g_laws_eqWeighed]
  rfl
theorem clok_laws_eqWeighed : ConOK Try.prog cl_laws_eqWeighed := consNil
theorem cok_laws_eqWeighed : ConsOK Try.prog 15 cs_laws_eqWeighed := ⟨clok_laws_eqWeighed, inlNil, ovNil⟩
theorem i_laws_eqWeighed {vs : List A1} {kk : AV → List A1 → Prop} {motive : List A1 → Prop} (h : con_laws_eqWeighed.F vs kk) (H : ∀ (a0Key : Int) (a0Size : Int) (b1Key : Int) (b1Size : Int), F_laws_eqWeighed a0Key a0Size b1Key b1Size (fun r0 => kk (.one (.c (.v (.bool r0)))) []) → motive [.agg [.v (.int .i64 a0Key), .v (.int .i64 a0Size)], .agg [.v (.int .i64 b1Key), .v (.int .i64 b1Size)]]) : motive vs := by
  unfold con_laws_eqWeighed at h
  dsimp only at h
  split at h
  · exact H _ _ _ _ h
  · exact h.elim
theorem h_laws_eqWeighed : Holds Try.prog 46 con_laws_eqWeighed := by
  refine holds_of_ev (rt := [.c .sc]) (T := TT) (Γ := cs_laws_eqWeighed) (an := an_laws_eqWeighed) (N := 15) (c := Try.f46.body.getD .skip) Try.func46 (by kernel_rfl) Try.ntmps46 (by decide) (by decide) mixed tabOK cok_laws_eqWeighed (by kernel_rfl) ?_
  intro vs kk _ hF
  exact i_laws_eqWeighed (motive := fun vs => Goes (ev TT cs_laws_eqWeighed 15 an_laws_eqWeighed (Try.f46.body.getD .skip) (st0 con_laws_eqWeighed vs) (fin TT con_laws_eqWeighed Try.f46.results.toList [.c .sc] vs kk))) hF (fun a0Key a0Size b1Key b1Size hF => goes_of (e_laws_eqWeighed a0Key a0Size b1Key b1Size kk) (F_laws_eqWeighed_S hF))
def con_laws_eqWeighedS : Con := ⟨[.rd, .rd], true, [.c (.sl .ii), .c (.sl .ii)], fun vs k => match vs with
    | [.c (.ro .ii a0), .c (.ro .ii b1)] => F_laws_eqWeighedS a0 b1 (fun r0 => k (.one (.c (.v (.bool r0)))) [])
    | _ => False, false⟩
def cl_laws_eqWeighedS : List (FuncId × Con) := [(46, con_laws_eqWeighed)]
def nm0_laws_eqWeighedS : List NStep := [.keep [0, 1, 5] []]
def an_laws_eqWeighedS : Ann := ⟨[(6, .take 0 (.take 1 (.take 2 (.take 3 (.take 4 (.take 5 (.take 6 (.take 7 (.alt 8 (.take 9 (.done)) (.none))))))))), [])], [(4, nm0_laws_eqWeighedS)], [], []⟩
def cs_laws_eqWeighedS : Cons := ⟨cl_laws_eqWeighedS, [], 0, [], [], []⟩
def can0_laws_eqWeighedS (a0 : List (Int × Int)) (b1 : List (Int × Int)) (xi5 : Int) : St := ⟨[(0, .one (.c (.ro .ii a0))), (1, .one (.c (.ro .ii b1))), (5, .one (.c (.v (.int .i64 xi5))))], []⟩
def fin_laws_eqWeighedS (a0 : List (Int × Int)) (b1 : List (Int × Int)) (kk : AV → List A1 → Prop) : Kt := fin TT con_laws_eqWeighedS Try.f25.results.toList [.c .sc] [.c (.ro .ii a0), .c (.ro .ii b1)] kk
def kt0_laws_eqWeighedS (kf : Kt) : Kt := blockK 0 (seqK (evF TT cs_laws_eqWeighedS 27 an_laws_eqWeighedS Try.f25 [1, 1, 1]) (kf))
theorem r0_laws_eqWeighedS (a0 : List (Int × Int)) (b1 : List (Int × Int)) (kk : AV → List A1 → Prop) (n : Nat) (xi5 : Int) :
    iter (evF TT cs_laws_eqWeighedS 27 an_laws_eqWeighedS Try.f25 [1, 1, 0, 1, 0, 0]) nm0_laws_eqWeighedS (kt0_laws_eqWeighedS (fin_laws_eqWeighedS a0 b1 kk)) (n + 1) (can0_laws_eqWeighedS a0 b1 xi5) = T0_laws_eqWeighedS a0 b1 xi5 (fun r0 => kk (.one (.c (.v (.bool r0)))) []) (fun xi5 => iter (evF TT cs_laws_eqWeighedS 27 an_laws_eqWeighedS Try.f25 [1, 1, 0, 1, 0, 0]) nm0_laws_eqWeighedS (kt0_laws_eqWeighedS (fin_laws_eqWeighedS a0 b1 kk)) n (can0_laws_eqWeighedS a0 b1 xi5)) := by kernel_rfl
theorem l0_laws_eqWeighedS (a0 : List (Int × Int)) (b1 : List (Int × Int)) (kk : AV → List A1 → Prop) : ∀ (n : Nat) (xi5 : Int), iter (evF TT cs_laws_eqWeighedS 27 an_laws_eqWeighedS Try.f25 [1, 1, 0, 1, 0, 0]) nm0_laws_eqWeighedS (kt0_laws_eqWeighedS (fin_laws_eqWeighedS a0 b1 kk)) n (can0_laws_eqWeighedS a0 b1 xi5) = L0_laws_eqWeighedS a0 b1 (fun r0 => kk (.one (.c (.v (.bool r0)))) []) n xi5 := by
  intro n
  induction n with
  | zero => intros; rfl
  | succ n ih =>
    intro xi5
    rw [r0_laws_eqWeighedS a0 b1 kk n xi5]
    have hb : (fun xi5 => iter (evF TT cs_laws_eqWeighedS 27 an_laws_eqWeighedS Try.f25 [1, 1, 0, 1, 0, 0]) nm0_laws_eqWeighedS (kt0_laws_eqWeighedS (fin_laws_eqWeighedS a0 b1 kk)) n (can0_laws_eqWeighedS a0 b1 xi5)) = L0_laws_eqWeighedS a0 b1 (fun r0 => kk (.one (.c (.v (.bool r0)))) []) n := by
      funext xi5; exact ih xi5
    rw [hb]
    rw [T0_laws_eqWeighedS_eq]
    rfl
theorem g_laws_eqWeighedS (a0 : List (Int × Int)) (b1 : List (Int × Int)) (kk : AV → List A1 → Prop) :
    ev TT cs_laws_eqWeighedS 27 an_laws_eqWeighedS (Try.f25.body.getD .skip) (st0 con_laws_eqWeighedS [.c (.ro .ii a0), .c (.ro .ii b1)]) (fin TT con_laws_eqWeighedS Try.f25.results.toList [.c .sc] [.c (.ro .ii a0), .c (.ro .ii b1)] kk) = G_laws_eqWeighedS a0 b1 (fun r0 => kk (.one (.c (.v (.bool r0)))) []) (fun a0 b1 xi5 => ∃ j, iter (evF TT cs_laws_eqWeighedS 27 an_laws_eqWeighedS Try.f25 [1, 1, 0, 1, 0, 0]) nm0_laws_eqWeighedS (kt0_laws_eqWeighedS (fin_laws_eqWeighedS a0 b1 kk)) j (can0_laws_eqWeighedS a0 b1 xi5)) := by kernel_rfl
theorem e_laws_eqWeighedS (a0 : List (Int × Int)) (b1 : List (Int × Int)) (kk : AV → List A1 → Prop) :
    ev TT cs_laws_eqWeighedS 27 an_laws_eqWeighedS (Try.f25.body.getD .skip) (st0 con_laws_eqWeighedS [.c (.ro .ii a0), .c (.ro .ii b1)]) (fin TT con_laws_eqWeighedS Try.f25.results.toList [.c .sc] [.c (.ro .ii a0), .c (.ro .ii b1)] kk) = S_laws_eqWeighedS a0 b1 (fun r0 => kk (.one (.c (.v (.bool r0)))) []) := by
  rw [g_laws_eqWeighedS]
  have hi0 : (fun a0 b1 xi5 => ∃ j, iter (evF TT cs_laws_eqWeighedS 27 an_laws_eqWeighedS Try.f25 [1, 1, 0, 1, 0, 0]) nm0_laws_eqWeighedS (kt0_laws_eqWeighedS (fin_laws_eqWeighedS a0 b1 kk)) j (can0_laws_eqWeighedS a0 b1 xi5)) = (fun a0 b1 xi5 => ∃ j, L0_laws_eqWeighedS a0 b1 (fun r0 => kk (.one (.c (.v (.bool r0)))) []) j xi5) := by
    funext a0 b1 xi5
    refine congrArg Exists (funext fun j => ?_)
    rw [l0_laws_eqWeighedS a0 b1 kk j xi5]
  rw [hi0]
  rfl
theorem clok_laws_eqWeighedS : ConOK Try.prog cl_laws_eqWeighedS := consCons h_laws_eqWeighed ⟨Try.f46, Try.func46, by kernel_rfl, ne_of_beq (by kernel_rfl)⟩ (consNil)
theorem cok_laws_eqWeighedS : ConsOK Try.prog 27 cs_laws_eqWeighedS := ⟨clok_laws_eqWeighedS, inlNil, ovNil⟩
theorem i_laws_eqWeighedS {vs : List A1} {kk : AV → List A1 → Prop} {motive : List A1 → Prop} (h : con_laws_eqWeighedS.F vs kk) (H : ∀ (a0 : List (Int × Int)) (b1 : List (Int × Int)), F_laws_eqWeighedS a0 b1 (fun r0 => kk (.one (.c (.v (.bool r0)))) []) → motive [.c (.ro .ii a0), .c (.ro .ii b1)]) : motive vs := by
  unfold con_laws_eqWeighedS at h
  dsimp only at h
  split at h
  · exact H _ _ h
  · exact h.elim
theorem h_laws_eqWeighedS : Holds Try.prog 25 con_laws_eqWeighedS := by
  refine holds_of_ev (rt := [.c .sc]) (T := TT) (Γ := cs_laws_eqWeighedS) (an := an_laws_eqWeighedS) (N := 27) (c := Try.f25.body.getD .skip) Try.func25 (by kernel_rfl) Try.ntmps25 (by decide) (by decide) mixed tabOK cok_laws_eqWeighedS (by kernel_rfl) ?_
  intro vs kk _ hF
  exact i_laws_eqWeighedS (motive := fun vs => Goes (ev TT cs_laws_eqWeighedS 27 an_laws_eqWeighedS (Try.f25.body.getD .skip) (st0 con_laws_eqWeighedS vs) (fin TT con_laws_eqWeighedS Try.f25.results.toList [.c .sc] vs kk))) hF (fun a0 b1 hF => goes_of (e_laws_eqWeighedS a0 b1 kk) (F_laws_eqWeighedS_S hF))
def con_laws_FnExactValidWeighed : Con := ⟨[.rd, .rd], true, [.c (.sl .ii), .c (.sc)], fun vs k => match vs with
    | [.c (.ro .ii aList0), .c (.v (.int .i64 aRoom1))] => F_laws_FnExactValidWeighed aList0 aRoom1 (fun r0 => k (.one (.c (.v (.bool r0)))) [])
    | _ => False, false⟩
def cl_laws_FnExactValidWeighed : List (FuncId × Con) := [(14, con_impl_ValidWeighed), (15, con_spec_ValidWeighed), (23, con_laws_szWeighedS), (24, con_laws_toWeighedS), (25, con_laws_eqWeighedS)]
def an_laws_FnExactValidWeighed : Ann := ⟨[], [], [], []⟩
def cs_laws_FnExactValidWeighed : Cons := ⟨cl_laws_FnExactValidWeighed, [], 0, [], [], []⟩
def fin_laws_FnExactValidWeighed (aList0 : List (Int × Int)) (aRoom1 : Int) (kk : AV → List A1 → Prop) : Kt := fin TT con_laws_FnExactValidWeighed Try.f10.results.toList [.c .sc] [.c (.ro .ii aList0), .c (.v (.int .i64 aRoom1))] kk
theorem g_laws_FnExactValidWeighed (aList0 : List (Int × Int)) (aRoom1 : Int) (kk : AV → List A1 → Prop) :
    ev TT cs_laws_FnExactValidWeighed 31 an_laws_FnExactValidWeighed (Try.f10.body.getD .skip) (st0 con_laws_FnExactValidWeighed [.c (.ro .ii aList0), .c (.v (.int .i64 aRoom1))]) (fin TT con_laws_FnExactValidWeighed Try.f10.results.toList [.c .sc] [.c (.ro .ii aList0), .c (.v (.int .i64 aRoom1))] kk) = G_laws_FnExactValidWeighed aList0 aRoom1 (fun r0 => kk (.one (.c (.v (.bool r0)))) []) := by kernel_rfl
theorem e_laws_FnExactValidWeighed (aList0 : List (Int × Int)) (aRoom1 : Int) (kk : AV → List A1 → Prop) :
    ev TT cs_laws_FnExactValidWeighed 31 an_laws_FnExactValidWeighed (Try.f10.body.getD .skip) (st0 con_laws_FnExactValidWeighed [.c (.ro .ii aList0), .c (.v (.int .i64 aRoom1))]) (fin TT con_laws_FnExactValidWeighed Try.f10.results.toList [.c .sc] [.c (.ro .ii aList0), .c (.v (.int .i64 aRoom1))] kk) = S_laws_FnExactValidWeighed aList0 aRoom1 (fun r0 => kk (.one (.c (.v (.bool r0)))) []) := by
  rw [g_laws_FnExactValidWeighed]
  rfl
theorem clok_laws_FnExactValidWeighed : ConOK Try.prog cl_laws_FnExactValidWeighed := consCons h_impl_ValidWeighed ⟨Try.f14, Try.func14, by kernel_rfl, ne_of_beq (by kernel_rfl)⟩ (consCons h_spec_ValidWeighed ⟨Try.f15, Try.func15, by kernel_rfl, ne_of_beq (by kernel_rfl)⟩ (consCons h_laws_szWeighedS ⟨Try.f23, Try.func23, by kernel_rfl, ne_of_beq (by kernel_rfl)⟩ (consCons h_laws_toWeighedS ⟨Try.f24, Try.func24, by kernel_rfl, ne_of_beq (by kernel_rfl)⟩ (consCons h_laws_eqWeighedS ⟨Try.f25, Try.func25, by kernel_rfl, ne_of_beq (by kernel_rfl)⟩ (consNil)))))
theorem cok_laws_FnExactValidWeighed : ConsOK Try.prog 31 cs_laws_FnExactValidWeighed := ⟨clok_laws_FnExactValidWeighed, inlNil, ovNil⟩
theorem i_laws_FnExactValidWeighed {vs : List A1} {kk : AV → List A1 → Prop} {motive : List A1 → Prop} (h : con_laws_FnExactValidWeighed.F vs kk) (H : ∀ (aList0 : List (Int × Int)) (aRoom1 : Int), F_laws_FnExactValidWeighed aList0 aRoom1 (fun r0 => kk (.one (.c (.v (.bool r0)))) []) → motive [.c (.ro .ii aList0), .c (.v (.int .i64 aRoom1))]) : motive vs := by
  unfold con_laws_FnExactValidWeighed at h
  dsimp only at h
  split at h
  · exact H _ _ h
  · exact h.elim
theorem h_laws_FnExactValidWeighed : Holds Try.prog 10 con_laws_FnExactValidWeighed := by
  refine holds_of_ev (rt := [.c .sc]) (T := TT) (Γ := cs_laws_FnExactValidWeighed) (an := an_laws_FnExactValidWeighed) (N := 31) (c := Try.f10.body.getD .skip) Try.func10 (by kernel_rfl) Try.ntmps10 (by decide) (by decide) mixed tabOK cok_laws_FnExactValidWeighed (by kernel_rfl) ?_
  intro vs kk _ hF
  exact i_laws_FnExactValidWeighed (motive := fun vs => Goes (ev TT cs_laws_FnExactValidWeighed 31 an_laws_FnExactValidWeighed (Try.f10.body.getD .skip) (st0 con_laws_FnExactValidWeighed vs) (fin TT con_laws_FnExactValidWeighed Try.f10.results.toList [.c .sc] vs kk))) hF (fun aList0 aRoom1 hF => goes_of (e_laws_FnExactValidWeighed aList0 aRoom1 kk) (F_laws_FnExactValidWeighed_S hF))
end Go.Ev
