/- What the evaluator gives for these functions: their contracts. No statement is proved here. -/
import Derived.Test.YtaajnkggomlppacFnExactBestFillP0
import Derived.Test.YtaajnkggomlppacTt
import Derived.Test.YtaajnkggomlppacEvBw
namespace Go.Ev
set_option linter.unusedVariables false
set_option linter.unusedSimpArgs false
set_option maxRecDepth 100000
open Go Go.Proofs
def con_laws_toIntS : Con := ⟨[.rd], true, [.c (.sl .int)], fun vs k => match vs with
    | [.c (.ro .int a0)] => F_laws_toIntS a0 (fun r0 => k (.one (.c (.ro .int r0))) [])
    | _ => False, false⟩
def cl_laws_toIntS : List (FuncId × Con) := []
def nm0_laws_toIntS : List NStep := [.keep [0, 3, 4] [112]]
def an_laws_toIntS : Ann := ⟨[], [(3, nm0_laws_toIntS)], [], []⟩
def cs_laws_toIntS : Cons := ⟨cl_laws_toIntS, [], 0, [], [], []⟩
def can0_laws_toIntS (a0 : List Int) (xi4 : Int) (xy7 : List Int) : St := ⟨[(0, .one (.c (.ro .int a0))), (3, .one (.c (.ow 112))), (4, .one (.c (.v (.int .i64 xi4))))], [(112, .row .int xy7)]⟩
def fin_laws_toIntS (a0 : List Int) (kk : AV → List A1 → Prop) : Kt := fin TT con_laws_toIntS Try.f18.results.toList [.c (.sl .int)] [.c (.ro .int a0)] kk
def kt0_laws_toIntS (kf : Kt) : Kt := blockK 0 (seqK (evF TT cs_laws_toIntS 22 an_laws_toIntS Try.f18 [1, 1, 1]) (kf))
theorem r0_laws_toIntS (a0 : List Int) (kk : AV → List A1 → Prop) (n : Nat) (xi4 : Int) (xy7 : List Int) :
    iter (evF TT cs_laws_toIntS 22 an_laws_toIntS Try.f18 [1, 1, 0, 1, 0, 0]) nm0_laws_toIntS (kt0_laws_toIntS (fin_laws_toIntS a0 kk)) (n + 1) (can0_laws_toIntS a0 xi4 xy7) = T0_laws_toIntS a0 xi4 xy7 (fun r0 => kk (.one (.c (.ro .int r0))) []) (fun xi4 xy7 => iter (evF TT cs_laws_toIntS 22 an_laws_toIntS Try.f18 [1, 1, 0, 1, 0, 0]) nm0_laws_toIntS (kt0_laws_toIntS (fin_laws_toIntS a0 kk)) n (can0_laws_toIntS a0 xi4 xy7)) := by kernel_rfl
theorem l0_laws_toIntS (a0 : List Int) (kk : AV → List A1 → Prop) : ∀ (n : Nat) (xi4 : Int) (xy7 : List Int), iter (evF TT cs_laws_toIntS 22 an_laws_toIntS Try.f18 [1, 1, 0, 1, 0, 0]) nm0_laws_toIntS (kt0_laws_toIntS (fin_laws_toIntS a0 kk)) n (can0_laws_toIntS a0 xi4 xy7) = L0_laws_toIntS a0 (fun r0 => kk (.one (.c (.ro .int r0))) []) n xi4 xy7 := by
  intro n
  induction n with
  | zero => intros; rfl
  | succ n ih =>
    intro xi4 xy7
    rw [r0_laws_toIntS a0 kk n xi4 xy7]
    have hb : (fun xi4 xy7 => iter (evF TT cs_laws_toIntS 22 an_laws_toIntS Try.f18 [1, 1, 0, 1, 0, 0]) nm0_laws_toIntS (kt0_laws_toIntS (fin_laws_toIntS a0 kk)) n (can0_laws_toIntS a0 xi4 xy7)) = L0_laws_toIntS a0 (fun r0 => kk (.one (.c (.ro .int r0))) []) n := by
      funext xi4 xy7; exact ih xi4 xy7
    rw [hb]
    rfl
theorem g_laws_toIntS (a0 : List Int) (kk : AV → List A1 → Prop) :
    ev TT cs_laws_toIntS 22 an_laws_toIntS (Try.f18.body.getD .skip) (st0 con_laws_toIntS [.c (.ro .int a0)]) (fin TT con_laws_toIntS Try.f18.results.toList [.c (.sl .int)] [.c (.ro .int a0)] kk) = G_laws_toIntS a0 (fun a0 xi4 xy7 => ∃ j, iter (evF TT cs_laws_toIntS 22 an_laws_toIntS Try.f18 [1, 1, 0, 1, 0, 0]) nm0_laws_toIntS (kt0_laws_toIntS (fin_laws_toIntS a0 kk)) j (can0_laws_toIntS a0 xi4 xy7)) := by kernel_rfl
theorem e_laws_toIntS (a0 : List Int) (kk : AV → List A1 → Prop) :
    ev TT cs_laws_toIntS 22 an_laws_toIntS (Try.f18.body.getD .skip) (st0 con_laws_toIntS [.c (.ro .int a0)]) (fin TT con_laws_toIntS Try.f18.results.toList [.c (.sl .int)] [.c (.ro .int a0)] kk) = S_laws_toIntS a0 (fun r0 => kk (.one (.c (.ro .int r0))) []) := by
  rw [g_laws_toIntS]
  have hi0 : (fun a0 xi4 xy7 => ∃ j, iter (evF TT cs_laws_toIntS 22 an_laws_toIntS Try.f18 [1, 1, 0, 1, 0, 0]) nm0_laws_toIntS (kt0_laws_toIntS (fin_laws_toIntS a0 kk)) j (can0_laws_toIntS a0 xi4 xy7)) = (fun a0 xi4 xy7 => ∃ j, L0_laws_toIntS a0 (fun r0 => kk (.one (.c (.ro .int r0))) []) j xi4 xy7) := by
    funext a0 xi4 xy7
    refine congrArg Exists (funext fun j => ?_)
    rw [l0_laws_toIntS a0 kk j xi4 xy7]
  rw [hi0]
  rfl
theorem clok_laws_toIntS : ConOK Try.prog cl_laws_toIntS := consNil
theorem cok_laws_toIntS : ConsOK Try.prog 22 cs_laws_toIntS := ⟨clok_laws_toIntS, inlNil, ovNil⟩
theorem i_laws_toIntS {vs : List A1} {kk : AV → List A1 → Prop} {motive : List A1 → Prop} (h : con_laws_toIntS.F vs kk) (H : ∀ (a0 : List Int), F_laws_toIntS a0 (fun r0 => kk (.one (.c (.ro .int r0))) []) → motive [.c (.ro .int a0)]) : motive vs := by
  unfold con_laws_toIntS at h
  dsimp only at h
  split at h
  · exact H _ h
  · exact h.elim
theorem h_laws_toIntS : Holds Try.prog 18 con_laws_toIntS := by
  refine holds_of_ev (rt := [.c (.sl .int)]) (T := TT) (Γ := cs_laws_toIntS) (an := an_laws_toIntS) (N := 22) (c := Try.f18.body.getD .skip) Try.func18 (by kernel_rfl) Try.ntmps18 (by decide) (by decide) mixed tabOK cok_laws_toIntS (by kernel_rfl) ?_
  intro vs kk _ hF
  exact i_laws_toIntS (motive := fun vs => Goes (ev TT cs_laws_toIntS 22 an_laws_toIntS (Try.f18.body.getD .skip) (st0 con_laws_toIntS vs) (fin TT con_laws_toIntS Try.f18.results.toList [.c (.sl .int)] vs kk))) hF (fun a0 hF => goes_of (e_laws_toIntS a0 kk) (F_laws_toIntS_S hF))
def con_spec_inRange : Con := ⟨[.rd, .rd, .rd], true, [.c (.sc), .c (.sc), .c (.sc)], fun vs k => match vs with
    | [.c (.v (.int .i64 n0)), .c (.v (.int .i64 low1)), .c (.v (.int .i64 high2))] => F_spec_inRange n0 low1 high2 (fun r0 => k (.one (.c (.v (.bool r0)))) [])
    | _ => False, false⟩
def cl_spec_inRange : List (FuncId × Con) := []
def an_spec_inRange : Ann := ⟨[], [], [], []⟩
def cs_spec_inRange : Cons := ⟨cl_spec_inRange, [], 0, [], [], []⟩
def fin_spec_inRange (n0 : Int) (low1 : Int) (high2 : Int) (kk : AV → List A1 → Prop) : Kt := fin TT con_spec_inRange Try.f40.results.toList [.c .sc] [.c (.v (.int .i64 n0)), .c (.v (.int .i64 low1)), .c (.v (.int .i64 high2))] kk
theorem g_spec_inRange (n0 : Int) (low1 : Int) (high2 : Int) (kk : AV → List A1 → Prop) :
    ev TT cs_spec_inRange 15 an_spec_inRange (Try.f40.body.getD .skip) (st0 con_spec_inRange [.c (.v (.int .i64 n0)), .c (.v (.int .i64 low1)), .c (.v (.int .i64 high2))]) (fin TT con_spec_inRange Try.f40.results.toList [.c .sc] [.c (.v (.int .i64 n0)), .c (.v (.int .i64 low1)), .c (.v (.int .i64 high2))] kk) = G_spec_inRange n0 low1 high2 (fun r0 => kk (.one (.c (.v (.bool r0)))) []) := by kernel_rfl
theorem e_spec_inRange (n0 : Int) (low1 : Int) (high2 : Int) (kk : AV → List A1 → Prop) :
    ev TT cs_spec_inRange 15 an_spec_inRange (Try.f40.body.getD .skip) (st0 con_spec_inRange [.c (.v (.int .i64 n0)), .c (.v (.int .i64 low1)), .c (.v (.int .i64 high2))]) (fin TT con_spec_inRange Try.f40.results.toList [.c .sc] [.c (.v (.int .i64 n0)), .c (.v (.int .i64 low1)), .c (.v (.int .i64 high2))] kk) = S_spec_inRange n0 low1 high2 (fun r0 => kk (.one (.c (.v (.bool r0)))) []) := by
  rw [g_spec_inRange]
  rfl
theorem clok_spec_inRange : ConOK Try.prog cl_spec_inRange := consNil
theorem cok_spec_inRange : ConsOK Try.prog 15 cs_spec_inRange := ⟨clok_spec_inRange, inlNil, ovNil⟩
theorem i_spec_inRange {vs : List A1} {kk : AV → List A1 → Prop} {motive : List A1 → Prop} (h : con_spec_inRange.F vs kk) (H : ∀ (n0 : Int) (low1 : Int) (high2 : Int), F_spec_inRange n0 low1 high2 (fun r0 => kk (.one (.c (.v (.bool r0)))) []) → motive [.c (.v (.int .i64 n0)), .c (.v (.int .i64 low1)), .c (.v (.int .i64 high2))]) : motive vs := by
  unfold con_spec_inRange at h
  dsimp only at h
  split at h
  · exact H _ _ _ h
  · exact h.elim
theorem h_spec_inRange : Holds Try.prog 40 con_spec_inRange := by
  refine holds_of_ev (rt := [.c .sc]) (T := TT) (Γ := cs_spec_inRange) (an := an_spec_inRange) (N := 15) (c := Try.f40.body.getD .skip) Try.func40 (by kernel_rfl) Try.ntmps40 (by decide) (by decide) mixed tabOK cok_spec_inRange (by kernel_rfl) ?_
  intro vs kk _ hF
  exact i_spec_inRange (motive := fun vs => Goes (ev TT cs_spec_inRange 15 an_spec_inRange (Try.f40.body.getD .skip) (st0 con_spec_inRange vs) (fin TT con_spec_inRange Try.f40.results.toList [.c .sc] vs kk))) hF (fun n0 low1 high2 hF => goes_of (e_spec_inRange n0 low1 high2 kk) (F_spec_inRange_S hF))
def con_spec_allIn : Con := ⟨[.rd, .rd, .rd], true, [.c (.sl .int), .c (.sc), .c (.sc)], fun vs k => match vs with
    | [.c (.ro .int list0), .c (.v (.int .i64 low1)), .c (.v (.int .i64 high2))] => F_spec_allIn list0 low1 high2 (fun r0 => k (.one (.c (.v (.bool r0)))) [])
    | _ => False, false⟩
def cl_spec_allIn : List (FuncId × Con) := [(40, con_spec_inRange)]
def nm0_spec_allIn : List NStep := [.keep [0, 1, 2, 7] []]
def an_spec_allIn : Ann := ⟨[], [(2, nm0_spec_allIn)], [], []⟩
def cs_spec_allIn : Cons := ⟨cl_spec_allIn, [], 0, [], [], []⟩
def can0_spec_allIn (high2 : Int) (list0 : List Int) (low1 : Int) (xi7 : Int) : St := ⟨[(0, .one (.c (.ro .int list0))), (1, .one (.c (.v (.int .i64 low1)))), (2, .one (.c (.v (.int .i64 high2)))), (7, .one (.c (.v (.int .i64 xi7))))], []⟩
def fin_spec_allIn (list0 : List Int) (low1 : Int) (high2 : Int) (kk : AV → List A1 → Prop) : Kt := fin TT con_spec_allIn Try.f39.results.toList [.c .sc] [.c (.ro .int list0), .c (.v (.int .i64 low1)), .c (.v (.int .i64 high2))] kk
def kt0_spec_allIn (kf : Kt) : Kt := blockK 0 (seqK (evF TT cs_spec_allIn 22 an_spec_allIn Try.f39 [1, 1]) (kf))
theorem r0_spec_allIn (list0 : List Int) (low1 : Int) (high2 : Int) (kk : AV → List A1 → Prop) (n : Nat) (xi7 : Int) :
    iter (evF TT cs_spec_allIn 22 an_spec_allIn Try.f39 [1, 0, 1, 0, 0]) nm0_spec_allIn (kt0_spec_allIn (fin_spec_allIn list0 low1 high2 kk)) (n + 1) (can0_spec_allIn high2 list0 low1 xi7) = T0_spec_allIn high2 list0 low1 xi7 (fun r0 => kk (.one (.c (.v (.bool r0)))) []) (fun xi7 => iter (evF TT cs_spec_allIn 22 an_spec_allIn Try.f39 [1, 0, 1, 0, 0]) nm0_spec_allIn (kt0_spec_allIn (fin_spec_allIn list0 low1 high2 kk)) n (can0_spec_allIn high2 list0 low1 xi7)) := by kernel_rfl
theorem l0_spec_allIn (list0 : List Int) (low1 : Int) (high2 : Int) (kk : AV → List A1 → Prop) : ∀ (n : Nat) (xi7 : Int), iter (evF TT cs_spec_allIn 22 an_spec_allIn Try.f39 [1, 0, 1, 0, 0]) nm0_spec_allIn (kt0_spec_allIn (fin_spec_allIn list0 low1 high2 kk)) n (can0_spec_allIn high2 list0 low1 xi7) = L0_spec_allIn high2 list0 low1 (fun r0 => kk (.one (.c (.v (.bool r0)))) []) n xi7 := by
  intro n
  induction n with
  | zero => intros; rfl
  | succ n ih =>
    intro xi7
    rw [r0_spec_allIn list0 low1 high2 kk n xi7]
    have hb : (fun xi7 => iter (evF TT cs_spec_allIn 22 an_spec_allIn Try.f39 [1, 0, 1, 0, 0]) nm0_spec_allIn (kt0_spec_allIn (fin_spec_allIn list0 low1 high2 kk)) n (can0_spec_allIn high2 list0 low1 xi7)) = L0_spec_allIn high2 list0 low1 (fun r0 => kk (.one (.c (.v (.bool r0)))) []) n := by
      funext xi7; exact ih xi7
    rw [hb]
    rfl
theorem g_spec_allIn (list0 : List Int) (low1 : Int) (high2 : Int) (kk : AV → List A1 → Prop) :
    ev TT cs_spec_allIn 22 an_spec_allIn (Try.f39.body.getD .skip) (st0 con_spec_allIn [.c (.ro .int list0), .c (.v (.int .i64 low1)), .c (.v (.int .i64 high2))]) (fin TT con_spec_allIn Try.f39.results.toList [.c .sc] [.c (.ro .int list0), .c (.v (.int .i64 low1)), .c (.v (.int .i64 high2))] kk) = G_spec_allIn list0 low1 high2 (fun high2 list0 low1 xi7 => ∃ j, iter (evF TT cs_spec_allIn 22 an_spec_allIn Try.f39 [1, 0, 1, 0, 0]) nm0_spec_allIn (kt0_spec_allIn (fin_spec_allIn list0 low1 high2 kk)) j (can0_spec_allIn high2 list0 low1 xi7)) := by kernel_rfl
theorem e_spec_allIn (list0 : List Int) (low1 : Int) (high2 : Int) (kk : AV → List A1 → Prop) :
    ev TT cs_spec_allIn 22 an_spec_allIn (Try.f39.body.getD .skip) (st0 con_spec_allIn [.c (.ro .int list0), .c (.v (.int .i64 low1)), .c (.v (.int .i64 high2))]) (fin TT con_spec_allIn Try.f39.results.toList [.c .sc] [.c (.ro .int list0), .c (.v (.int .i64 low1)), .c (.v (.int .i64 high2))] kk) = S_spec_allIn list0 low1 high2 (fun r0 => kk (.one (.c (.v (.bool r0)))) []) := by
  rw [g_spec_allIn]
  have hi0 : (fun high2 list0 low1 xi7 => ∃ j, iter (evF TT cs_spec_allIn 22 an_spec_allIn Try.f39 [1, 0, 1, 0, 0]) nm0_spec_allIn (kt0_spec_allIn (fin_spec_allIn list0 low1 high2 kk)) j (can0_spec_allIn high2 list0 low1 xi7)) = (fun high2 list0 low1 xi7 => ∃ j, L0_spec_allIn high2 list0 low1 (fun r0 => kk (.one (.c (.v (.bool r0)))) []) j xi7) := by
    funext high2 list0 low1 xi7
    refine congrArg Exists (funext fun j => ?_)
    rw [l0_spec_allIn list0 low1 high2 kk j xi7]
  rw [hi0]
  rfl
theorem clok_spec_allIn : ConOK Try.prog cl_spec_allIn := consCons h_spec_inRange ⟨Try.f40, Try.func40, by kernel_rfl, ne_of_beq (by kernel_rfl)⟩ (consNil)
theorem cok_spec_allIn : ConsOK Try.prog 22 cs_spec_allIn := ⟨clok_spec_allIn, inlNil, ovNil⟩
theorem i_spec_allIn {vs : List A1} {kk : AV → List A1 → Prop} {motive : List A1 → Prop} (h : con_spec_allIn.F vs kk) (H : ∀ (list0 : List Int) (low1 : Int) (high2 : Int), F_spec_allIn list0 low1 high2 (fun r0 => kk (.one (.c (.v (.bool r0)))) []) → motive [.c (.ro .int list0), .c (.v (.int .i64 low1)), .c (.v (.int .i64 high2))]) : motive vs := by
  unfold con_spec_allIn at h
  dsimp only at h
  split at h
  · exact H _ _ _ h
  · exact h.elim
theorem h_spec_allIn : Holds Try.prog 39 con_spec_allIn := by
  refine holds_of_ev (rt := [.c .sc]) (T := TT) (Γ := cs_spec_allIn) (an := an_spec_allIn) (N := 22) (c := Try.f39.body.getD .skip) Try.func39 (by kernel_rfl) Try.ntmps39 (by decide) (by decide) mixed tabOK cok_spec_allIn (by kernel_rfl) ?_
  intro vs kk _ hF
  exact i_spec_allIn (motive := fun vs => Goes (ev TT cs_spec_allIn 22 an_spec_allIn (Try.f39.body.getD .skip) (st0 con_spec_allIn vs) (fin TT con_spec_allIn Try.f39.results.toList [.c .sc] vs kk))) hF (fun list0 low1 high2 hF => goes_of (e_spec_allIn list0 low1 high2 kk) (F_spec_allIn_S hF))
def con_spec_fill : Con := ⟨[.rd, .rd, .rd, .rd], true, [.c (.sl .int), .c (.sl .int), .c (.sc), .c (.sc)], fun vs k => match vs with
    | [.c (.ro .int sizes0), .c (.ro .int values1), .c (.v (.int .i64 at2)), .c (.v (.int .i64 room3))] => F_spec_fill sizes0 values1 at2 room3 (fun r0 r1 => k (.tup [.c (.v (.int .i64 r0)), .c (.ro .int r1)]) [])
    | _ => False, false⟩
def conr_spec_fill (nn : Nat) : Con := { con_spec_fill with F := fun vs k => match vs with
    | [.c (.ro .int sizes0), .c (.ro .int values1), .c (.v (.int .i64 at2)), .c (.v (.int .i64 room3))] => Fr_spec_fill nn sizes0 values1 at2 room3 (fun r0 r1 => k (.tup [.c (.v (.int .i64 r0)), .c (.ro .int r1)]) [])
    | _ => False }
def cl_spec_fill (nn : Nat) : List (FuncId × Con) := [(41, conr_spec_fill nn)]
def an_spec_fill : Ann := ⟨[(8, .take 0 (.take 1 (.take 2 (.take 3 (.take 4 (.take 5 (.take 6 (.take 8 (.alt 7 (.alt 9 (.take 10 (.take 11 (.done))) (.none)) (.none))))))))), [])], [], [], []⟩
def cs_spec_fill (nn : Nat) : Cons := ⟨cl_spec_fill nn, [], 0, [], [], []⟩
def fin_spec_fill (nn : Nat) (sizes0 : List Int) (values1 : List Int) (at2 : Int) (room3 : Int) (kk : AV → List A1 → Prop) : Kt := fin TT (conr_spec_fill (nn + 1)) Try.f41.results.toList [.c .sc, .c (.sl .int)] [.c (.ro .int sizes0), .c (.ro .int values1), .c (.v (.int .i64 at2)), .c (.v (.int .i64 room3))] kk
theorem g_spec_fill (nn : Nat) (sizes0 : List Int) (values1 : List Int) (at2 : Int) (room3 : Int) (kk : AV → List A1 → Prop) :
    ev TT (cs_spec_fill nn) 70 an_spec_fill (Try.f41.body.getD .skip) (st0 (conr_spec_fill (nn + 1)) [.c (.ro .int sizes0), .c (.ro .int values1), .c (.v (.int .i64 at2)), .c (.v (.int .i64 room3))]) (fin TT (conr_spec_fill (nn + 1)) Try.f41.results.toList [.c .sc, .c (.sl .int)] [.c (.ro .int sizes0), .c (.ro .int values1), .c (.v (.int .i64 at2)), .c (.v (.int .i64 room3))] kk) = G_spec_fill nn sizes0 values1 at2 room3 (fun r0 r1 => kk (.tup [.c (.v (.int .i64 r0)), .c (.ro .int r1)]) []) := by kernel_rfl
theorem e_spec_fill (nn : Nat) (sizes0 : List Int) (values1 : List Int) (at2 : Int) (room3 : Int) (kk : AV → List A1 → Prop) :
    ev TT (cs_spec_fill nn) 70 an_spec_fill (Try.f41.body.getD .skip) (st0 (conr_spec_fill (nn + 1)) [.c (.ro .int sizes0), .c (.ro .int values1), .c (.v (.int .i64 at2)), .c (.v (.int .i64 room3))]) (fin TT (conr_spec_fill (nn + 1)) Try.f41.results.toList [.c .sc, .c (.sl .int)] [.c (.ro .int sizes0), .c (.ro .int values1), .c (.v (.int .i64 at2)), .c (.v (.int .i64 room3))] kk) = S_spec_fill nn sizes0 values1 at2 room3 (fun r0 r1 => kk (.tup [.c (.v (.int .i64 r0)), .c (.ro .int r1)]) []) := by
  rw [g_spec_fill]
  rw [G_spec_fill_eq]
  rfl
theorem clok_spec_fill (nn : Nat) (hr : Holds Try.prog 41 (conr_spec_fill nn)) : ConOK Try.prog (cl_spec_fill nn) := consCons hr ⟨Try.f41, Try.func41, by kernel_rfl, ne_of_beq (by kernel_rfl)⟩ (consNil)
theorem cok_spec_fill (nn : Nat) (hr : Holds Try.prog 41 (conr_spec_fill nn)) : ConsOK Try.prog 70 (cs_spec_fill nn) := ⟨clok_spec_fill nn hr, inlNil, ovNil⟩
theorem ir_spec_fill (nn : Nat) {vs : List A1} {kk : AV → List A1 → Prop} {motive : List A1 → Prop} (h : (conr_spec_fill nn).F vs kk) (H : ∀ (sizes0 : List Int) (values1 : List Int) (at2 : Int) (room3 : Int), Fr_spec_fill nn sizes0 values1 at2 room3 (fun r0 r1 => kk (.tup [.c (.v (.int .i64 r0)), .c (.ro .int r1)]) []) → motive [.c (.ro .int sizes0), .c (.ro .int values1), .c (.v (.int .i64 at2)), .c (.v (.int .i64 room3))]) : motive vs := by
  unfold conr_spec_fill at h
  dsimp only at h
  split at h
  · exact H _ _ _ _ h
  · exact h.elim
theorem i_spec_fill {vs : List A1} {kk : AV → List A1 → Prop} {motive : List A1 → Prop} (h : (con_spec_fill).F vs kk) (H : ∀ (sizes0 : List Int) (values1 : List Int) (at2 : Int) (room3 : Int), F_spec_fill sizes0 values1 at2 room3 (fun r0 r1 => kk (.tup [.c (.v (.int .i64 r0)), .c (.ro .int r1)]) []) → motive [.c (.ro .int sizes0), .c (.ro .int values1), .c (.v (.int .i64 at2)), .c (.v (.int .i64 room3))]) : motive vs := by
  unfold con_spec_fill at h
  dsimp only at h
  split at h
  · exact H _ _ _ _ h
  · exact h.elim
theorem hr_spec_fill : ∀ nn : Nat, Holds Try.prog 41 (conr_spec_fill nn) := by
  intro nn
  induction nn with
  | zero => intro vs kk h; exact (ir_spec_fill 0 (motive := fun _ => False) h (fun _ _ _ _ hF => absurd hF.1 (Nat.not_lt_zero _))).elim
  | succ nn ih =>
    refine holds_of_ev (rt := [.c .sc, .c (.sl .int)]) (T := TT) (Γ := cs_spec_fill nn) (an := an_spec_fill) (N := 70) (c := Try.f41.body.getD .skip) Try.func41 (by kernel_rfl) Try.ntmps41 (show (cs_spec_fill 0).B + 16 * 70 + 16 ≤ 100000 by decide) (show (conr_spec_fill 0).mu.length ≤ 70 by decide) mixed tabOK (cok_spec_fill nn ih) (by kernel_rfl) ?_
    intro vs kk _ hF
    exact ir_spec_fill (nn + 1) (motive := fun vs => Goes (ev TT (cs_spec_fill nn) 70 an_spec_fill (Try.f41.body.getD .skip) (st0 (conr_spec_fill (nn + 1)) vs) (fin TT (conr_spec_fill (nn + 1)) Try.f41.results.toList [.c .sc, .c (.sl .int)] vs kk))) hF (fun sizes0 values1 at2 room3 hF => goes_of (e_spec_fill nn sizes0 values1 at2 room3 kk) (F_spec_fill_S (Nat.le_of_lt_succ hF.1) hF.2))
theorem h_spec_fill : Holds Try.prog 41 con_spec_fill := by
  refine holds_of_any fun vs kk h => ?_
  exact i_spec_fill (motive := fun vs => ∃ F, Holds Try.prog 41 { con_spec_fill with F := F } ∧ F vs kk) h (fun sizes0 values1 at2 room3 hF => ⟨(conr_spec_fill (M_spec_fill sizes0 values1 at2 room3 + 1)).F, hr_spec_fill _, ⟨Nat.lt_succ_self _, hF⟩⟩)
def con_spec_BestFill : Con := ⟨[.rd, .rd, .rd], true, [.c (.sl .int), .c (.sl .int), .c (.sc)], fun vs k => match vs with
    | [.c (.ro .int sizes0), .c (.ro .int values1), .c (.v (.int .i64 room2))] => F_spec_BestFill sizes0 values1 room2 (fun r0 => k (.one (.c (.ro .int r0))) [])
    | _ => False, false⟩
def cl_spec_BestFill : List (FuncId × Con) := [(39, con_spec_allIn), (40, con_spec_inRange), (41, con_spec_fill)]
def an_spec_BestFill : Ann := ⟨[], [], [], []⟩
def cs_spec_BestFill : Cons := ⟨cl_spec_BestFill, [], 0, [], [], []⟩
def fin_spec_BestFill (sizes0 : List Int) (values1 : List Int) (room2 : Int) (kk : AV → List A1 → Prop) : Kt := fin TT con_spec_BestFill Try.f16.results.toList [.c (.sl .int)] [.c (.ro .int sizes0), .c (.ro .int values1), .c (.v (.int .i64 room2))] kk
theorem g_spec_BestFill (sizes0 : List Int) (values1 : List Int) (room2 : Int) (kk : AV → List A1 → Prop) :
    ev TT cs_spec_BestFill 42 an_spec_BestFill (Try.f16.body.getD .skip) (st0 con_spec_BestFill [.c (.ro .int sizes0), .c (.ro .int values1), .c (.v (.int .i64 room2))]) (fin TT con_spec_BestFill Try.f16.results.toList [.c (.sl .int)] [.c (.ro .int sizes0), .c (.ro .int values1), .c (.v (.int .i64 room2))] kk) = G_spec_BestFill sizes0 values1 room2 (fun r0 => kk (.one (.c (.ro .int r0))) []) := by kernel_rfl
theorem e_spec_BestFill (sizes0 : List Int) (values1 : List Int) (room2 : Int) (kk : AV → List A1 → Prop) :
    ev TT cs_spec_BestFill 42 an_spec_BestFill (Try.f16.body.getD .skip) (st0 con_spec_BestFill [.c (.ro .int sizes0), .c (.ro .int values1), .c (.v (.int .i64 room2))]) (fin TT con_spec_BestFill Try.f16.results.toList [.c (.sl .int)] [.c (.ro .int sizes0), .c (.ro .int values1), .c (.v (.int .i64 room2))] kk) = S_spec_BestFill sizes0 values1 room2 (fun r0 => kk (.one (.c (.ro .int r0))) []) := by
  rw [g_spec_BestFill]
  rfl
theorem clok_spec_BestFill : ConOK Try.prog cl_spec_BestFill := consCons h_spec_allIn ⟨Try.f39, Try.func39, by kernel_rfl, ne_of_beq (by kernel_rfl)⟩ (consCons h_spec_inRange ⟨Try.f40, Try.func40, by kernel_rfl, ne_of_beq (by kernel_rfl)⟩ (consCons h_spec_fill ⟨Try.f41, Try.func41, by kernel_rfl, ne_of_beq (by kernel_rfl)⟩ (consNil)))
theorem cok_spec_BestFill : ConsOK Try.prog 42 cs_spec_BestFill := ⟨clok_spec_BestFill, inlNil, ovNil⟩
theorem i_spec_BestFill {vs : List A1} {kk : AV → List A1 → Prop} {motive : List A1 → Prop} (h : con_spec_BestFill.F vs kk) (H : ∀ (sizes0 : List Int) (values1 : List Int) (room2 : Int), F_spec_BestFill sizes0 values1 room2 (fun r0 => kk (.one (.c (.ro .int r0))) []) → motive [.c (.ro .int sizes0), .c (.ro .int values1), .c (.v (.int .i64 room2))]) : motive vs := by
  unfold con_spec_BestFill at h
  dsimp only at h
  split at h
  · exact H _ _ _ h
  · exact h.elim
theorem h_spec_BestFill : Holds Try.prog 16 con_spec_BestFill := by
  refine holds_of_ev (rt := [.c (.sl .int)]) (T := TT) (Γ := cs_spec_BestFill) (an := an_spec_BestFill) (N := 42) (c := Try.f16.body.getD .skip) Try.func16 (by kernel_rfl) Try.ntmps16 (by decide) (by decide) mixed tabOK cok_spec_BestFill (by kernel_rfl) ?_
  intro vs kk _ hF
  exact i_spec_BestFill (motive := fun vs => Goes (ev TT cs_spec_BestFill 42 an_spec_BestFill (Try.f16.body.getD .skip) (st0 con_spec_BestFill vs) (fin TT con_spec_BestFill Try.f16.results.toList [.c (.sl .int)] vs kk))) hF (fun sizes0 values1 room2 hF => goes_of (e_spec_BestFill sizes0 values1 room2 kk) (F_spec_BestFill_S hF))
def con_impl_validSize : Con := ⟨[.rd], true, [.c (.sc)], fun vs k => match vs with
    | [.c (.v (.int .i64 size0))] => F_impl_validSize size0 (fun r0 => k (.one (.c (.v (.bool r0)))) [])
    | _ => False, false⟩
def cl_impl_validSize : List (FuncId × Con) := []
def an_impl_validSize : Ann := ⟨[], [], [], []⟩
def cs_impl_validSize : Cons := ⟨cl_impl_validSize, [], 0, [], [], []⟩
def fin_impl_validSize (size0 : Int) (kk : AV → List A1 → Prop) : Kt := fin TT con_impl_validSize Try.f43.results.toList [.c .sc] [.c (.v (.int .i64 size0))] kk
theorem g_impl_validSize (size0 : Int) (kk : AV → List A1 → Prop) :
    ev TT cs_impl_validSize 9 an_impl_validSize (Try.f43.body.getD .skip) (st0 con_impl_validSize [.c (.v (.int .i64 size0))]) (fin TT con_impl_validSize Try.f43.results.toList [.c .sc] [.c (.v (.int .i64 size0))] kk) = G_impl_validSize size0 (fun r0 => kk (.one (.c (.v (.bool r0)))) []) := by kernel_rfl
theorem e_impl_validSize (size0 : Int) (kk : AV → List A1 → Prop) :
    ev TT cs_impl_validSize 9 an_impl_validSize (Try.f43.body.getD .skip) (st0 con_impl_validSize [.c (.v (.int .i64 size0))]) (fin TT con_impl_validSize Try.f43.results.toList [.c .sc] [.c (.v (.int .i64 size0))] kk) = S_impl_validSize size0 (fun r0 => kk (.one (.c (.v (.bool r0)))) []) := by
  rw [g_impl_validSize]
  rfl
theorem clok_impl_validSize : ConOK Try.prog cl_impl_validSize := consNil
theorem cok_impl_validSize : ConsOK Try.prog 9 cs_impl_validSize := ⟨clok_impl_validSize, inlNil, ovNil⟩
theorem i_impl_validSize {vs : List A1} {kk : AV → List A1 → Prop} {motive : List A1 → Prop} (h : con_impl_validSize.F vs kk) (H : ∀ (size0 : Int), F_impl_validSize size0 (fun r0 => kk (.one (.c (.v (.bool r0)))) []) → motive [.c (.v (.int .i64 size0))]) : motive vs := by
  unfold con_impl_validSize at h
  dsimp only at h
  split at h
  · exact H _ h
  · exact h.elim
theorem h_impl_validSize : Holds Try.prog 43 con_impl_validSize := by
  refine holds_of_ev (rt := [.c .sc]) (T := TT) (Γ := cs_impl_validSize) (an := an_impl_validSize) (N := 9) (c := Try.f43.body.getD .skip) Try.func43 (by kernel_rfl) Try.ntmps43 (by decide) (by decide) mixed tabOK cok_impl_validSize (by kernel_rfl) ?_
  intro vs kk _ hF
  exact i_impl_validSize (motive := fun vs => Goes (ev TT cs_impl_validSize 9 an_impl_validSize (Try.f43.body.getD .skip) (st0 con_impl_validSize vs) (fin TT con_impl_validSize Try.f43.results.toList [.c .sc] vs kk))) hF (fun size0 hF => goes_of (e_impl_validSize size0 kk) (F_impl_validSize_S hF))
def con_impl_validCount : Con := ⟨[.rd], true, [.c (.sc)], fun vs k => match vs with
    | [.c (.v (.int .i64 count0))] => F_impl_validCount count0 (fun r0 => k (.one (.c (.v (.bool r0)))) [])
    | _ => False, false⟩
def cl_impl_validCount : List (FuncId × Con) := []
def an_impl_validCount : Ann := ⟨[], [], [], []⟩
def cs_impl_validCount : Cons := ⟨cl_impl_validCount, [], 0, [], [], []⟩
def fin_impl_validCount (count0 : Int) (kk : AV → List A1 → Prop) : Kt := fin TT con_impl_validCount Try.f42.results.toList [.c .sc] [.c (.v (.int .i64 count0))] kk
theorem g_impl_validCount (count0 : Int) (kk : AV → List A1 → Prop) :
    ev TT cs_impl_validCount 9 an_impl_validCount (Try.f42.body.getD .skip) (st0 con_impl_validCount [.c (.v (.int .i64 count0))]) (fin TT con_impl_validCount Try.f42.results.toList [.c .sc] [.c (.v (.int .i64 count0))] kk) = G_impl_validCount count0 (fun r0 => kk (.one (.c (.v (.bool r0)))) []) := by kernel_rfl
theorem e_impl_validCount (count0 : Int) (kk : AV → List A1 → Prop) :
    ev TT cs_impl_validCount 9 an_impl_validCount (Try.f42.body.getD .skip) (st0 con_impl_validCount [.c (.v (.int .i64 count0))]) (fin TT con_impl_validCount Try.f42.results.toList [.c .sc] [.c (.v (.int .i64 count0))] kk) = S_impl_validCount count0 (fun r0 => kk (.one (.c (.v (.bool r0)))) []) := by
  rw [g_impl_validCount]
  rfl
theorem clok_impl_validCount : ConOK Try.prog cl_impl_validCount := consNil
theorem cok_impl_validCount : ConsOK Try.prog 9 cs_impl_validCount := ⟨clok_impl_validCount, inlNil, ovNil⟩
theorem i_impl_validCount {vs : List A1} {kk : AV → List A1 → Prop} {motive : List A1 → Prop} (h : con_impl_validCount.F vs kk) (H : ∀ (count0 : Int), F_impl_validCount count0 (fun r0 => kk (.one (.c (.v (.bool r0)))) []) → motive [.c (.v (.int .i64 count0))]) : motive vs := by
  unfold con_impl_validCount at h
  dsimp only at h
  split at h
  · exact H _ h
  · exact h.elim
theorem h_impl_validCount : Holds Try.prog 42 con_impl_validCount := by
  refine holds_of_ev (rt := [.c .sc]) (T := TT) (Γ := cs_impl_validCount) (an := an_impl_validCount) (N := 9) (c := Try.f42.body.getD .skip) Try.func42 (by kernel_rfl) Try.ntmps42 (by decide) (by decide) mixed tabOK cok_impl_validCount (by kernel_rfl) ?_
  intro vs kk _ hF
  exact i_impl_validCount (motive := fun vs => Goes (ev TT cs_impl_validCount 9 an_impl_validCount (Try.f42.body.getD .skip) (st0 con_impl_validCount vs) (fin TT con_impl_validCount Try.f42.results.toList [.c .sc] vs kk))) hF (fun count0 hF => goes_of (e_impl_validCount count0 kk) (F_impl_validCount_S hF))
def con_impl_validChoice : Con := ⟨[.rd, .rd], true, [.c (.sl .int), .c (.sl .int)], fun vs k => match vs with
    | [.c (.ro .int sizes0), .c (.ro .int values1)] => F_impl_validChoice sizes0 values1 (fun r0 => k (.one (.c (.v (.bool r0)))) [])
    | _ => False, false⟩
def cl_impl_validChoice : List (FuncId × Con) := [(42, con_impl_validCount), (43, con_impl_validSize)]
def nm0_impl_validChoice : List NStep := [.keep [0, 1, 17, 18] []]
def an_impl_validChoice : Ann := ⟨[], [(4, nm0_impl_validChoice)], [], []⟩
def cs_impl_validChoice : Cons := ⟨cl_impl_validChoice, [], 0, [], [], []⟩
def can0_impl_validChoice (sizes0 : List Int) (values1 : List Int) (xt17 : Int) (xt18 : Int) : St := ⟨[(0, .one (.c (.ro .int sizes0))), (1, .one (.c (.ro .int values1))), (17, .one (.c (.v (.int .i64 xt17)))), (18, .one (.c (.v (.int .i64 xt18))))], []⟩
def fin_impl_validChoice (sizes0 : List Int) (values1 : List Int) (kk : AV → List A1 → Prop) : Kt := fin TT con_impl_validChoice Try.f36.results.toList [.c .sc] [.c (.ro .int sizes0), .c (.ro .int values1)] kk
def kt0_impl_validChoice (kf : Kt) : Kt := blockK 0 (seqK (evF TT cs_impl_validChoice 36 an_impl_validChoice Try.f36 [1, 1, 1]) (kf))
theorem r0_impl_validChoice (sizes0 : List Int) (values1 : List Int) (xt17 : Int) (kk : AV → List A1 → Prop) (n : Nat) (xt18 : Int) :
    iter (evF TT cs_impl_validChoice 36 an_impl_validChoice Try.f36 [1, 1, 0, 1, 0, 0]) nm0_impl_validChoice (kt0_impl_validChoice (fin_impl_validChoice sizes0 values1 kk)) (n + 1) (can0_impl_validChoice sizes0 values1 xt17 xt18) = T0_impl_validChoice sizes0 values1 xt17 xt18 (fun r0 => kk (.one (.c (.v (.bool r0)))) []) (fun xt18 => iter (evF TT cs_impl_validChoice 36 an_impl_validChoice Try.f36 [1, 1, 0, 1, 0, 0]) nm0_impl_validChoice (kt0_impl_validChoice (fin_impl_validChoice sizes0 values1 kk)) n (can0_impl_validChoice sizes0 values1 xt17 xt18)) := by kernel_rfl
theorem l0_impl_validChoice (sizes0 : List Int) (values1 : List Int) (xt17 : Int) (kk : AV → List A1 → Prop) : ∀ (n : Nat) (xt18 : Int), iter (evF TT cs_impl_validChoice 36 an_impl_validChoice Try.f36 [1, 1, 0, 1, 0, 0]) nm0_impl_validChoice (kt0_impl_validChoice (fin_impl_validChoice sizes0 values1 kk)) n (can0_impl_validChoice sizes0 values1 xt17 xt18) = L0_impl_validChoice sizes0 values1 xt17 (fun r0 => kk (.one (.c (.v (.bool r0)))) []) n xt18 := by
  intro n
  induction n with
  | zero => intros; rfl
  | succ n ih =>
    intro xt18
    rw [r0_impl_validChoice sizes0 values1 xt17 kk n xt18]
    have hb : (fun xt18 => iter (evF TT cs_impl_validChoice 36 an_impl_validChoice Try.f36 [1, 1, 0, 1, 0, 0]) nm0_impl_validChoice (kt0_impl_validChoice (fin_impl_validChoice sizes0 values1 kk)) n (can0_impl_validChoice sizes0 values1 xt17 xt18)) = L0_impl_validChoice sizes0 values1 xt17 (fun r0 => kk (.one (.c (.v (.bool r0)))) []) n := by
      funext xt18; exact ih xt18
    rw [hb]
    rfl
theorem g_impl_validChoice (sizes0 : List Int) (values1 : List Int) (kk : AV → List A1 → Prop) :
    ev TT cs_impl_validChoice 36 an_impl_validChoice (Try.f36.body.getD .skip) (st0 con_impl_validChoice [.c (.ro .int sizes0), .c (.ro .int values1)]) (fin TT con_impl_validChoice Try.f36.results.toList [.c .sc] [.c (.ro .int sizes0), .c (.ro .int values1)] kk) = G_impl_validChoice sizes0 values1 (fun r0 => kk (.one (.c (.v (.bool r0)))) []) (fun sizes0 values1 xt17 xt18 => ∃ j, iter (evF TT cs_impl_validChoice 36 an_impl_validChoice Try.f36 [1, 1, 0, 1, 0, 0]) nm0_impl_validChoice (kt0_impl_validChoice (fin_impl_validChoice sizes0 values1 kk)) j (can0_impl_validChoice sizes0 values1 xt17 xt18)) := by kernel_rfl
theorem e_impl_validChoice (sizes0 : List Int) (values1 : List Int) (kk : AV → List A1 → Prop) :
    ev TT cs_impl_validChoice 36 an_impl_validChoice (Try.f36.body.getD .skip) (st0 con_impl_validChoice [.c (.ro .int sizes0), .c (.ro .int values1)]) (fin TT con_impl_validChoice Try.f36.results.toList [.c .sc] [.c (.ro .int sizes0), .c (.ro .int values1)] kk) = S_impl_validChoice sizes0 values1 (fun r0 => kk (.one (.c (.v (.bool r0)))) []) := by
  rw [g_impl_validChoice]
  have hi0 : (fun sizes0 values1 xt17 xt18 => ∃ j, iter (evF TT cs_impl_validChoice 36 an_impl_validChoice Try.f36 [1, 1, 0, 1, 0, 0]) nm0_impl_validChoice (kt0_impl_validChoice (fin_impl_validChoice sizes0 values1 kk)) j (can0_impl_validChoice sizes0 values1 xt17 xt18)) = (fun sizes0 values1 xt17 xt18 => ∃ j, L0_impl_validChoice sizes0 values1 xt17 (fun r0 => kk (.one (.c (.v (.bool r0)))) []) j xt18) := by
    funext sizes0 values1 xt17 xt18
    refine congrArg Exists (funext fun j => ?_)
    rw [l0_impl_validChoice sizes0 values1 xt17 kk j xt18]
  rw [hi0]
  rfl
theorem clok_impl_validChoice : ConOK Try.prog cl_impl_validChoice := consCons h_impl_validCount ⟨Try.f42, Try.func42, by kernel_rfl, ne_of_beq (by kernel_rfl)⟩ (consCons h_impl_validSize ⟨Try.f43, Try.func43, by kernel_rfl, ne_of_beq (by kernel_rfl)⟩ (consNil))
theorem cok_impl_validChoice : ConsOK Try.prog 36 cs_impl_validChoice := ⟨clok_impl_validChoice, inlNil, ovNil⟩
theorem i_impl_validChoice {vs : List A1} {kk : AV → List A1 → Prop} {motive : List A1 → Prop} (h : con_impl_validChoice.F vs kk) (H : ∀ (sizes0 : List Int) (values1 : List Int), F_impl_validChoice sizes0 values1 (fun r0 => kk (.one (.c (.v (.bool r0)))) []) → motive [.c (.ro .int sizes0), .c (.ro .int values1)]) : motive vs := by
  unfold con_impl_validChoice at h
  dsimp only at h
  split at h
  · exact H _ _ h
  · exact h.elim
theorem h_impl_validChoice : Holds Try.prog 36 con_impl_validChoice := by
  refine holds_of_ev (rt := [.c .sc]) (T := TT) (Γ := cs_impl_validChoice) (an := an_impl_validChoice) (N := 36) (c := Try.f36.body.getD .skip) Try.func36 (by kernel_rfl) Try.ntmps36 (by decide) (by decide) mixed tabOK cok_impl_validChoice (by kernel_rfl) ?_
  intro vs kk _ hF
  exact i_impl_validChoice (motive := fun vs => Goes (ev TT cs_impl_validChoice 36 an_impl_validChoice (Try.f36.body.getD .skip) (st0 con_impl_validChoice vs) (fin TT con_impl_validChoice Try.f36.results.toList [.c .sc] vs kk))) hF (fun sizes0 values1 hF => goes_of (e_impl_validChoice sizes0 values1 kk) (F_impl_validChoice_S hF))
def con_impl_validSpace : Con := ⟨[.rd], true, [.c (.sc)], fun vs k => match vs with
    | [.c (.v (.int .i64 room0))] => F_impl_validSpace room0 (fun r0 => k (.one (.c (.v (.bool r0)))) [])
    | _ => False, false⟩
def cl_impl_validSpace : List (FuncId × Con) := []
def an_impl_validSpace : Ann := ⟨[], [], [], []⟩
def cs_impl_validSpace : Cons := ⟨cl_impl_validSpace, [], 0, [], [], []⟩
def fin_impl_validSpace (room0 : Int) (kk : AV → List A1 → Prop) : Kt := fin TT con_impl_validSpace Try.f37.results.toList [.c .sc] [.c (.v (.int .i64 room0))] kk
theorem g_impl_validSpace (room0 : Int) (kk : AV → List A1 → Prop) :
    ev TT cs_impl_validSpace 9 an_impl_validSpace (Try.f37.body.getD .skip) (st0 con_impl_validSpace [.c (.v (.int .i64 room0))]) (fin TT con_impl_validSpace Try.f37.results.toList [.c .sc] [.c (.v (.int .i64 room0))] kk) = G_impl_validSpace room0 (fun r0 => kk (.one (.c (.v (.bool r0)))) []) := by kernel_rfl
theorem e_impl_validSpace (room0 : Int) (kk : AV → List A1 → Prop) :
    ev TT cs_impl_validSpace 9 an_impl_validSpace (Try.f37.body.getD .skip) (st0 con_impl_validSpace [.c (.v (.int .i64 room0))]) (fin TT con_impl_validSpace Try.f37.results.toList [.c .sc] [.c (.v (.int .i64 room0))] kk) = S_impl_validSpace room0 (fun r0 => kk (.one (.c (.v (.bool r0)))) []) := by
  rw [g_impl_validSpace]
  rfl
theorem clok_impl_validSpace : ConOK Try.prog cl_impl_validSpace := consNil
theorem cok_impl_validSpace : ConsOK Try.prog 9 cs_impl_validSpace := ⟨clok_impl_validSpace, inlNil, ovNil⟩
theorem i_impl_validSpace {vs : List A1} {kk : AV → List A1 → Prop} {motive : List A1 → Prop} (h : con_impl_validSpace.F vs kk) (H : ∀ (room0 : Int), F_impl_validSpace room0 (fun r0 => kk (.one (.c (.v (.bool r0)))) []) → motive [.c (.v (.int .i64 room0))]) : motive vs := by
  unfold con_impl_validSpace at h
  dsimp only at h
  split at h
  · exact H _ h
  · exact h.elim
theorem h_impl_validSpace : Holds Try.prog 37 con_impl_validSpace := by
  refine holds_of_ev (rt := [.c .sc]) (T := TT) (Γ := cs_impl_validSpace) (an := an_impl_validSpace) (N := 9) (c := Try.f37.body.getD .skip) Try.func37 (by kernel_rfl) Try.ntmps37 (by decide) (by decide) mixed tabOK cok_impl_validSpace (by kernel_rfl) ?_
  intro vs kk _ hF
  exact i_impl_validSpace (motive := fun vs => Goes (ev TT cs_impl_validSpace 9 an_impl_validSpace (Try.f37.body.getD .skip) (st0 con_impl_validSpace vs) (fin TT con_impl_validSpace Try.f37.results.toList [.c .sc] vs kk))) hF (fun room0 hF => goes_of (e_impl_validSpace room0 kk) (F_impl_validSpace_S hF))
def con_impl_bestValues : Con := ⟨[.rd, .rd], true, [.c (.sl .int), .c (.sl .int)], fun vs k => match vs with
    | [.c (.ro .int sizes0), .c (.ro .int values1)] => F_impl_bestValues sizes0 values1 (fun r0 => k (.one (.c (.arr r0))) [])
    | _ => False, false⟩
def cs_bv_bk : Cons := ⟨[], [], 900, [], [], []⟩
def an_bv_bk : Ann := ⟨[], [], [], []⟩
def nmR_bv : List NStep := [.keep [3, 4, 5, 11] [48, 64, 80, 916]]
def nmI_bv : List NStep := [.keep [3, 5, 6, 7, 14, 1000003, 1000004, 1000005, 1000011] [48, 64, 80, 916]]
def an_bv : Ann := ⟨[(8, .take 0 (.take 1 (.take 2 (.take 3 (.take 4 (.take 5 (.take 6 (.take 8 (.alt 7 (.take 9 (.alt 10 (.done) (.none))) (.none))))))))), []), (10, .take 0 (.take 1 (.take 2 (.take 3 (.take 4 (.take 5 (.take 7 (.take 8 (.take 9 (.take 10 (.take 11 (.take 12 (.take 13 (.take 14 (.take 15 (.take 16 (.take 17 (.take 21 (.alt 6 (.alt 18 (.take 19 (.take 20 (.take 22 (.alt 23 (.done) (.none))))) (.none)) (.alt 18 (.take 19 (.alt 6 (.take 20 (.take 22 (.alt 23 (.done) (.none)))) (.none))) (.none)))))))))))))))))))), [48])], [(3, nmR_bv), (6, nmI_bv)], [], []⟩
def cs_bv : Cons := ⟨[], [(11, ⟨51, inlG TT cs_bv_bk 55 4 an_bv_bk (Try.f51.body.getD .skip) Try.f51.results.toList⟩)], 0, [], [], []⟩
def rfBody : Code → Code
  | .rangeFunc _ _ _ b => b
  | _ => .skip
def bvCode (f : Func) : Code := f.body.getD .skip
def bvBody (f : Func) : Code := rfBody (subc [1, 1, 0, 1, 0] (bvCode f))
def bvLoop (f : Func) : Code := subc [0, 1, 0, 0] (bvBody f)
def canR_bv (s v t : List Int) : St := ⟨[(3, .one (.c (.pb 48 0))), (4, .one (.c (.pr 64 0 0))), (5, .one (.c (.pr 80 0 0))), (11, .one (.c (.cl 58 [.b 916])))], [(48, .box [.ro .int v]), (64, .row .int (List.replicate 459 (0 : Int))), (80, .row .int t), (916, .box [.ro .int s])]⟩
def canI_bv (s v : List Int) (i x j : Int) (t : List Int) : St := ⟨[(3, .one (.c (.pb 48 0))), (5, .one (.c (.pr 80 0 0))), (6, VI i), (7, VI x), (14, VI j), (1000003, .one (.c (.pb 48 0))), (1000004, .one (.c (.pr 64 0 0))), (1000005, .one (.c (.pr 80 0 0))), (1000011, .one (.c (.cl 58 [.b 916])))], [(48, .box [.ro .int v]), (64, .row .int (List.replicate 459 (0 : Int))), (80, .row .int t), (916, .box [.ro .int s])]⟩
def kE_bv (K : St → Prop) : Kt := blockK 2 (blockK 1 (rndE 55 nmR_bv K))
theorem r0_bv (s v : List Int) (i x : Int) (K : St → Prop) (n : Nat) (j : Int) (t : List Int) :
    iter (fun st k => ev TT cs_bv 55 an_bv (bvLoop Try.f38) st k) nmI_bv (kE_bv K) (n + 1) (canI_bv s v i x j t) = T0_impl_bestValues v i x j t (fun t => K (canR_bv s v t)) (fun j t => iter (fun st k => ev TT cs_bv 55 an_bv (bvLoop Try.f38) st k) nmI_bv (kE_bv K) n (canI_bv s v i x j t)) := by kernel_rfl
theorem l0_bv (s v : List Int) (i x : Int) (K : St → Prop) : ∀ (n : Nat) (j : Int) (t : List Int), iter (fun st k => ev TT cs_bv 55 an_bv (bvLoop Try.f38) st k) nmI_bv (kE_bv K) n (canI_bv s v i x j t) = L0_impl_bestValues v i x (fun t => K (canR_bv s v t)) n j t := by
  intro n
  induction n with
  | zero => intros; rfl
  | succ n ih =>
    intro j t
    rw [r0_bv s v i x K n j t]
    have hb : (fun j t => iter (fun st k => ev TT cs_bv 55 an_bv (bvLoop Try.f38) st k) nmI_bv (kE_bv K) n (canI_bv s v i x j t)) = L0_impl_bestValues v i x (fun t => K (canR_bv s v t)) n := by
      funext j t; exact ih j t
    rw [hb]
    rfl
theorem b0_bv (s v : List Int) (i x : Int) (t : List Int) (K : St → Prop) :
    ev TT cs_bv 55 an_bv (bvBody Try.f38) (rndB 55 12 13 6 7 i x (canR_bv s v t)) (rndE 55 nmR_bv K) = ∃ n, iter (fun st k => ev TT cs_bv 55 an_bv (bvLoop Try.f38) st k) nmI_bv (kE_bv K) n (canI_bv s v i x 0 t) := by kernel_rfl
def fin_bv (s v : List Int) (kk : AV → List A1 → Prop) : Kt := fin TT con_impl_bestValues Try.f38.results.toList [.c .ar] [.c (.ro .int s), .c (.ro .int v)] kk
def kD_bv (s v : List Int) (kk : AV → List A1 → Prop) : Kt := blockK 0 (seqK (fun st k => evX TT cs_bv 55 an_bv [58] (subc [1, 1, 1] (bvCode Try.f38)) st k) (fin_bv s v kk))
theorem d0_bv (s v t : List Int) (kk : AV → List A1 → Prop) :
    kD_bv s v kk .normal (canR_bv s v t) = ((t.length = 459) ∧ (t.length = 459 ∧ (List.replicate 459 (0 : Int)).length = 459) ∧ (t.length = 459) ∧ kk (.one (.c (.arr t))) []) := by kernel_rfl
theorem g0_bv (s v : List Int) (kk : AV → List A1 → Prop) :
    evX TT cs_bv 55 an_bv [58] (bvCode Try.f38) (st0 con_impl_bestValues [.c (.ro .int s), .c (.ro .int v)]) (fin_bv s v kk) =
      (((List.replicate 459 (0 : Int)).length = 459 ∧ (List.replicate 459 (0 : Int)).length = 459) ∧ BwRule TT cs_bv 55 an_bv [58] (.tmp 11) 12 13 6 7 (bvBody Try.f38) nmR_bv (canR_bv s v (List.replicate 459 (0 : Int))) (kD_bv s v kk)) := by kernel_rfl
theorem e_impl_bestValues (s v : List Int) (kk : AV → List A1 → Prop) (h : F_impl_bestValues s v (fun r0 => kk (.one (.c (.arr r0))) [])) :
    Goes (evX TT cs_bv 55 an_bv [58] (bvCode Try.f38) (st0 con_impl_bestValues [.c (.ro .int s), .c (.ro .int v)]) (fin_bv s v kk)) := by
  obtain ⟨I, h0, hs, hd⟩ := F_impl_bestValues_R h
  refine goes_of (g0_bv s v kk) ⟨⟨List.length_replicate, List.length_replicate⟩, ⟨List Int, canR_bv s v, I, List.replicate 459 (0 : Int), 58, 916, s, rfl, rfl, fun t => ⟨rfl, rfl⟩, h0, fun pre i t K hi hl hI hK => ?_, fun t hI => ?_⟩⟩
  · obtain ⟨n, hn⟩ := hs pre i t (fun t => K (canR_bv s v t)) hi hl hI hK
    exact Eq.mpr (b0_bv s v i (s.getD i 0) t K) ⟨n, by rw [l0_bv]; exact hn⟩
  · obtain ⟨h1, h2⟩ := hd t hI
    exact Eq.mpr (d0_bv s v t kk) ⟨h1, ⟨h1, List.length_replicate⟩, h1, h2⟩
theorem cok_bv_bk : ConsOK Try.prog 4 cs_bv_bk := ⟨consNil, inlNil, ovNil⟩
theorem cok_bv : ConsOK Try.prog 55 cs_bv := ⟨consNil, inlCons (inl_ok Try.func51 (by kernel_rfl) (ne_of_beq (by kernel_rfl)) Try.ntmps51 (by decide) mixed tabOK cok_bv_bk (by kernel_rfl)) inlNil, ovNil⟩
theorem h_impl_bestValues : Holds Try.prog 38 con_impl_bestValues := by
  refine holds_of_evX (rt := [.c .ar]) (T := TT) (Γ := cs_bv) (an := an_bv) (bw := [58]) (N := 55) (c := (bvCode Try.f38)) Try.func38 (by kernel_rfl) Try.ntmps38 (by decide) (by decide) mixed tabOK cok_bv (fun f hf => ?_) (by kernel_rfl) (by kernel_rfl) ?_
  · have : f = 58 := by
      unfold memN at hf
      split at hf
      · rename_i hb; exact (Nat.eq_of_beq_eq_true hb).symm
      · cases hf
    subst this
    exact Go.Proofs.Try.bw_ok
  · intro vs kk _ hF
    unfold con_impl_bestValues at hF
    dsimp only at hF
    split at hF
    · exact e_impl_bestValues _ _ _ hF
    · exact hF.elim
def con_impl_BestFill : Con := ⟨[.rd, .rd, .rd], true, [.c (.sl .int), .c (.sl .int), .c (.sc)], fun vs k => match vs with
    | [.c (.ro .int sizes0), .c (.ro .int values1), .c (.v (.int .i64 room2))] => F_impl_BestFill sizes0 values1 room2 (fun r0 => k (.one (.c (.ro .int r0))) [])
    | _ => False, false⟩
def cl_impl_BestFill : List (FuncId × Con) := [(36, con_impl_validChoice), (37, con_impl_validSpace), (38, con_impl_bestValues)]
def nm0_impl_BestFill : List NStep := [.own 8 .int 90000, .keep [1, 2, 7, 8, 24, 25, 26] [112, 90000]]
def an_impl_BestFill : Ann := ⟨[(8, .take 0 (.take 1 (.take 2 (.take 3 (.take 4 (.take 5 (.take 6 (.take 7 (.take 8 (.take 9 (.take 10 (.take 11 (.take 12 (.take 13 (.take 14 (.take 15 (.take 16 (.take 17 (.take 18 (.take 19 (.take 20 (.take 21 (.take 22 (.take 23 (.done)))))))))))))))))))))))), [112])], [(6, nm0_impl_BestFill)], [], []⟩
def cs_impl_BestFill : Cons := ⟨cl_impl_BestFill, [], 0, [], [], []⟩
def can0_impl_BestFill (bestValues22 : List Int) (sizes0 : List Int) (values1 : List Int) (xt25 : Int) (xroom2 : Int) (xt26 : Int) (xout8 : List Int) : St := ⟨[(1, .one (.c (.ro .int values1))), (2, .one (.c (.v (.int .i64 xroom2)))), (7, .one (.c (.pr 112 0 0))), (8, .one (.c (.ow 90000))), (24, .one (.c (.ro .int sizes0))), (25, .one (.c (.v (.int .i64 xt25)))), (26, .one (.c (.v (.int .i64 xt26))))], [(112, .row .int bestValues22), (90000, .row .int xout8)]⟩
def fin_impl_BestFill (sizes0 : List Int) (values1 : List Int) (room2 : Int) (kk : AV → List A1 → Prop) : Kt := fin TT con_impl_BestFill Try.f14.results.toList [.c (.sl .int)] [.c (.ro .int sizes0), .c (.ro .int values1), .c (.v (.int .i64 room2))] kk
def kt0_impl_BestFill (kf : Kt) : Kt := blockK 0 (seqK (evF TT cs_impl_BestFill 64 an_impl_BestFill Try.f14 [1, 1, 1, 1, 1]) (kf))
theorem r0_impl_BestFill (sizes0 : List Int) (values1 : List Int) (room2 : Int) (bestValues22 : List Int) (xt25 : Int) (kk : AV → List A1 → Prop) (n : Nat) (xroom2 : Int) (xt26 : Int) (xout8 : List Int) :
    iter (evF TT cs_impl_BestFill 64 an_impl_BestFill Try.f14 [1, 1, 1, 1, 0, 1, 0, 0]) nm0_impl_BestFill (kt0_impl_BestFill (fin_impl_BestFill sizes0 values1 room2 kk)) (n + 1) (can0_impl_BestFill bestValues22 sizes0 values1 xt25 xroom2 xt26 xout8) = T0_impl_BestFill bestValues22 sizes0 values1 xt25 xroom2 xt26 xout8 (fun r0 => kk (.one (.c (.ro .int r0))) []) (fun xroom2 xt26 xout8 => iter (evF TT cs_impl_BestFill 64 an_impl_BestFill Try.f14 [1, 1, 1, 1, 0, 1, 0, 0]) nm0_impl_BestFill (kt0_impl_BestFill (fin_impl_BestFill sizes0 values1 room2 kk)) n (can0_impl_BestFill bestValues22 sizes0 values1 xt25 xroom2 xt26 xout8)) := by kernel_rfl
theorem l0_impl_BestFill (sizes0 : List Int) (values1 : List Int) (room2 : Int) (bestValues22 : List Int) (xt25 : Int) (kk : AV → List A1 → Prop) : ∀ (n : Nat) (xroom2 : Int) (xt26 : Int) (xout8 : List Int), iter (evF TT cs_impl_BestFill 64 an_impl_BestFill Try.f14 [1, 1, 1, 1, 0, 1, 0, 0]) nm0_impl_BestFill (kt0_impl_BestFill (fin_impl_BestFill sizes0 values1 room2 kk)) n (can0_impl_BestFill bestValues22 sizes0 values1 xt25 xroom2 xt26 xout8) = L0_impl_BestFill bestValues22 sizes0 values1 xt25 (fun r0 => kk (.one (.c (.ro .int r0))) []) n xroom2 xt26 xout8 := by
  intro n
  induction n with
  | zero => intros; rfl
  | succ n ih =>
    intro xroom2 xt26 xout8
    rw [r0_impl_BestFill sizes0 values1 room2 bestValues22 xt25 kk n xroom2 xt26 xout8]
    have hb : (fun xroom2 xt26 xout8 => iter (evF TT cs_impl_BestFill 64 an_impl_BestFill Try.f14 [1, 1, 1, 1, 0, 1, 0, 0]) nm0_impl_BestFill (kt0_impl_BestFill (fin_impl_BestFill sizes0 values1 room2 kk)) n (can0_impl_BestFill bestValues22 sizes0 values1 xt25 xroom2 xt26 xout8)) = L0_impl_BestFill bestValues22 sizes0 values1 xt25 (fun r0 => kk (.one (.c (.ro .int r0))) []) n := by
      funext xroom2 xt26 xout8; exact ih xroom2 xt26 xout8
    rw [hb]
    rfl
theorem g_impl_BestFill (sizes0 : List Int) (values1 : List Int) (room2 : Int) (kk : AV → List A1 → Prop) :
    ev TT cs_impl_BestFill 64 an_impl_BestFill (Try.f14.body.getD .skip) (st0 con_impl_BestFill [.c (.ro .int sizes0), .c (.ro .int values1), .c (.v (.int .i64 room2))]) (fin TT con_impl_BestFill Try.f14.results.toList [.c (.sl .int)] [.c (.ro .int sizes0), .c (.ro .int values1), .c (.v (.int .i64 room2))] kk) = G_impl_BestFill sizes0 values1 room2 (fun r0 => kk (.one (.c (.ro .int r0))) []) (fun bestValues22 sizes0 values1 xt25 xroom2 xt26 xout8 => ∃ j, iter (evF TT cs_impl_BestFill 64 an_impl_BestFill Try.f14 [1, 1, 1, 1, 0, 1, 0, 0]) nm0_impl_BestFill (kt0_impl_BestFill (fin_impl_BestFill sizes0 values1 room2 kk)) j (can0_impl_BestFill bestValues22 sizes0 values1 xt25 xroom2 xt26 xout8)) := by kernel_rfl
theorem e_impl_BestFill (sizes0 : List Int) (values1 : List Int) (room2 : Int) (kk : AV → List A1 → Prop) :
    ev TT cs_impl_BestFill 64 an_impl_BestFill (Try.f14.body.getD .skip) (st0 con_impl_BestFill [.c (.ro .int sizes0), .c (.ro .int values1), .c (.v (.int .i64 room2))]) (fin TT con_impl_BestFill Try.f14.results.toList [.c (.sl .int)] [.c (.ro .int sizes0), .c (.ro .int values1), .c (.v (.int .i64 room2))] kk) = S_impl_BestFill sizes0 values1 room2 (fun r0 => kk (.one (.c (.ro .int r0))) []) := by
  rw [g_impl_BestFill]
  have hi0 : (fun bestValues22 sizes0 values1 xt25 xroom2 xt26 xout8 => ∃ j, iter (evF TT cs_impl_BestFill 64 an_impl_BestFill Try.f14 [1, 1, 1, 1, 0, 1, 0, 0]) nm0_impl_BestFill (kt0_impl_BestFill (fin_impl_BestFill sizes0 values1 room2 kk)) j (can0_impl_BestFill bestValues22 sizes0 values1 xt25 xroom2 xt26 xout8)) = (fun bestValues22 sizes0 values1 xt25 xroom2 xt26 xout8 => ∃ j, L0_impl_BestFill bestValues22 sizes0 values1 xt25 (fun r0 => kk (.one (.c (.ro .int r0))) []) j xroom2 xt26 xout8) := by
    funext bestValues22 sizes0 values1 xt25 xroom2 xt26 xout8
    refine congrArg Exists (funext fun j => ?_)
    rw [l0_impl_BestFill sizes0 values1 room2 bestValues22 xt25 kk j xroom2 xt26 xout8]
  rw [hi0]
  rfl
theorem clok_impl_BestFill : ConOK Try.prog cl_impl_BestFill := consCons h_impl_validChoice ⟨Try.f36, Try.func36, by kernel_rfl, ne_of_beq (by kernel_rfl)⟩ (consCons h_impl_validSpace ⟨Try.f37, Try.func37, by kernel_rfl, ne_of_beq (by kernel_rfl)⟩ (consCons h_impl_bestValues ⟨Try.f38, Try.func38, by kernel_rfl, ne_of_beq (by kernel_rfl)⟩ (consNil)))
theorem cok_impl_BestFill : ConsOK Try.prog 64 cs_impl_BestFill := ⟨clok_impl_BestFill, inlNil, ovNil⟩
theorem i_impl_BestFill {vs : List A1} {kk : AV → List A1 → Prop} {motive : List A1 → Prop} (h : con_impl_BestFill.F vs kk) (H : ∀ (sizes0 : List Int) (values1 : List Int) (room2 : Int), F_impl_BestFill sizes0 values1 room2 (fun r0 => kk (.one (.c (.ro .int r0))) []) → motive [.c (.ro .int sizes0), .c (.ro .int values1), .c (.v (.int .i64 room2))]) : motive vs := by
  unfold con_impl_BestFill at h
  dsimp only at h
  split at h
  · exact H _ _ _ h
  · exact h.elim
theorem h_impl_BestFill : Holds Try.prog 14 con_impl_BestFill := by
  refine holds_of_ev (rt := [.c (.sl .int)]) (T := TT) (Γ := cs_impl_BestFill) (an := an_impl_BestFill) (N := 64) (c := Try.f14.body.getD .skip) Try.func14 (by kernel_rfl) Try.ntmps14 (by decide) (by decide) mixed tabOK cok_impl_BestFill (by kernel_rfl) ?_
  intro vs kk _ hF
  exact i_impl_BestFill (motive := fun vs => Goes (ev TT cs_impl_BestFill 64 an_impl_BestFill (Try.f14.body.getD .skip) (st0 con_impl_BestFill vs) (fin TT con_impl_BestFill Try.f14.results.toList [.c (.sl .int)] vs kk))) hF (fun sizes0 values1 room2 hF => goes_of (e_impl_BestFill sizes0 values1 room2 kk) (F_impl_BestFill_S hF))
def con_laws_eqIntS : Con := ⟨[.rd, .rd], true, [.c (.sl .int), .c (.sl .int)], fun vs k => match vs with
    | [.c (.ro .int a0), .c (.ro .int b1)] => F_laws_eqIntS a0 b1 (fun r0 => k (.one (.c (.v (.bool r0)))) [])
    | _ => False, false⟩
def cl_laws_eqIntS : List (FuncId × Con) := []
def nm0_laws_eqIntS : List NStep := [.keep [0, 1, 5] []]
def an_laws_eqIntS : Ann := ⟨[(6, .take 0 (.take 1 (.take 2 (.take 3 (.take 4 (.take 5 (.take 6 (.take 7 (.take 8 (.done))))))))), [])], [(4, nm0_laws_eqIntS)], [], []⟩
def cs_laws_eqIntS : Cons := ⟨cl_laws_eqIntS, [], 0, [], [], []⟩
def can0_laws_eqIntS (a0 : List Int) (b1 : List Int) (xi5 : Int) : St := ⟨[(0, .one (.c (.ro .int a0))), (1, .one (.c (.ro .int b1))), (5, .one (.c (.v (.int .i64 xi5))))], []⟩
def fin_laws_eqIntS (a0 : List Int) (b1 : List Int) (kk : AV → List A1 → Prop) : Kt := fin TT con_laws_eqIntS Try.f19.results.toList [.c .sc] [.c (.ro .int a0), .c (.ro .int b1)] kk
def kt0_laws_eqIntS (kf : Kt) : Kt := blockK 0 (seqK (evF TT cs_laws_eqIntS 26 an_laws_eqIntS Try.f19 [1, 1, 1]) (kf))
theorem r0_laws_eqIntS (a0 : List Int) (b1 : List Int) (kk : AV → List A1 → Prop) (n : Nat) (xi5 : Int) :
    iter (evF TT cs_laws_eqIntS 26 an_laws_eqIntS Try.f19 [1, 1, 0, 1, 0, 0]) nm0_laws_eqIntS (kt0_laws_eqIntS (fin_laws_eqIntS a0 b1 kk)) (n + 1) (can0_laws_eqIntS a0 b1 xi5) = T0_laws_eqIntS a0 b1 xi5 (fun r0 => kk (.one (.c (.v (.bool r0)))) []) (fun xi5 => iter (evF TT cs_laws_eqIntS 26 an_laws_eqIntS Try.f19 [1, 1, 0, 1, 0, 0]) nm0_laws_eqIntS (kt0_laws_eqIntS (fin_laws_eqIntS a0 b1 kk)) n (can0_laws_eqIntS a0 b1 xi5)) := by kernel_rfl
theorem l0_laws_eqIntS (a0 : List Int) (b1 : List Int) (kk : AV → List A1 → Prop) : ∀ (n : Nat) (xi5 : Int), iter (evF TT cs_laws_eqIntS 26 an_laws_eqIntS Try.f19 [1, 1, 0, 1, 0, 0]) nm0_laws_eqIntS (kt0_laws_eqIntS (fin_laws_eqIntS a0 b1 kk)) n (can0_laws_eqIntS a0 b1 xi5) = L0_laws_eqIntS a0 b1 (fun r0 => kk (.one (.c (.v (.bool r0)))) []) n xi5 := by
  intro n
  induction n with
  | zero => intros; rfl
  | succ n ih =>
    intro xi5
    rw [r0_laws_eqIntS a0 b1 kk n xi5]
    have hb : (fun xi5 => iter (evF TT cs_laws_eqIntS 26 an_laws_eqIntS Try.f19 [1, 1, 0, 1, 0, 0]) nm0_laws_eqIntS (kt0_laws_eqIntS (fin_laws_eqIntS a0 b1 kk)) n (can0_laws_eqIntS a0 b1 xi5)) = L0_laws_eqIntS a0 b1 (fun r0 => kk (.one (.c (.v (.bool r0)))) []) n := by
      funext xi5; exact ih xi5
    rw [hb]
    rfl
theorem g_laws_eqIntS (a0 : List Int) (b1 : List Int) (kk : AV → List A1 → Prop) :
    ev TT cs_laws_eqIntS 26 an_laws_eqIntS (Try.f19.body.getD .skip) (st0 con_laws_eqIntS [.c (.ro .int a0), .c (.ro .int b1)]) (fin TT con_laws_eqIntS Try.f19.results.toList [.c .sc] [.c (.ro .int a0), .c (.ro .int b1)] kk) = G_laws_eqIntS a0 b1 (fun r0 => kk (.one (.c (.v (.bool r0)))) []) (fun a0 b1 xi5 => ∃ j, iter (evF TT cs_laws_eqIntS 26 an_laws_eqIntS Try.f19 [1, 1, 0, 1, 0, 0]) nm0_laws_eqIntS (kt0_laws_eqIntS (fin_laws_eqIntS a0 b1 kk)) j (can0_laws_eqIntS a0 b1 xi5)) := by kernel_rfl
theorem e_laws_eqIntS (a0 : List Int) (b1 : List Int) (kk : AV → List A1 → Prop) :
    ev TT cs_laws_eqIntS 26 an_laws_eqIntS (Try.f19.body.getD .skip) (st0 con_laws_eqIntS [.c (.ro .int a0), .c (.ro .int b1)]) (fin TT con_laws_eqIntS Try.f19.results.toList [.c .sc] [.c (.ro .int a0), .c (.ro .int b1)] kk) = S_laws_eqIntS a0 b1 (fun r0 => kk (.one (.c (.v (.bool r0)))) []) := by
  rw [g_laws_eqIntS]
  have hi0 : (fun a0 b1 xi5 => ∃ j, iter (evF TT cs_laws_eqIntS 26 an_laws_eqIntS Try.f19 [1, 1, 0, 1, 0, 0]) nm0_laws_eqIntS (kt0_laws_eqIntS (fin_laws_eqIntS a0 b1 kk)) j (can0_laws_eqIntS a0 b1 xi5)) = (fun a0 b1 xi5 => ∃ j, L0_laws_eqIntS a0 b1 (fun r0 => kk (.one (.c (.v (.bool r0)))) []) j xi5) := by
    funext a0 b1 xi5
    refine congrArg Exists (funext fun j => ?_)
    rw [l0_laws_eqIntS a0 b1 kk j xi5]
  rw [hi0]
  rfl
theorem clok_laws_eqIntS : ConOK Try.prog cl_laws_eqIntS := consNil
theorem cok_laws_eqIntS : ConsOK Try.prog 26 cs_laws_eqIntS := ⟨clok_laws_eqIntS, inlNil, ovNil⟩
theorem i_laws_eqIntS {vs : List A1} {kk : AV → List A1 → Prop} {motive : List A1 → Prop} (h : con_laws_eqIntS.F vs kk) (H : ∀ (a0 : List Int) (b1 : List Int), F_laws_eqIntS a0 b1 (fun r0 => kk (.one (.c (.v (.bool r0)))) []) → motive [.c (.ro .int a0), .c (.ro .int b1)]) : motive vs := by
  unfold con_laws_eqIntS at h
  dsimp only at h
  split at h
  · exact H _ _ h
  · exact h.elim
theorem h_laws_eqIntS : Holds Try.prog 19 con_laws_eqIntS := by
  refine holds_of_ev (rt := [.c .sc]) (T := TT) (Γ := cs_laws_eqIntS) (an := an_laws_eqIntS) (N := 26) (c := Try.f19.body.getD .skip) Try.func19 (by kernel_rfl) Try.ntmps19 (by decide) (by decide) mixed tabOK cok_laws_eqIntS (by kernel_rfl) ?_
  intro vs kk _ hF
  exact i_laws_eqIntS (motive := fun vs => Goes (ev TT cs_laws_eqIntS 26 an_laws_eqIntS (Try.f19.body.getD .skip) (st0 con_laws_eqIntS vs) (fin TT con_laws_eqIntS Try.f19.results.toList [.c .sc] vs kk))) hF (fun a0 b1 hF => goes_of (e_laws_eqIntS a0 b1 kk) (F_laws_eqIntS_S hF))
def con_laws_markIntS : Con := ⟨[.mu, .rd], true, [.c (.sl .int), .c (.sc)], fun vs k => match vs with
    | [.c (.ro .int a0), .c (.v (.int .i64 k1))] => F_laws_markIntS a0 k1 (fun r0 r1 => k (.one (.c (.v (.int .i64 r0)))) [.c (.ro .int r1)])
    | _ => False, false⟩
def cl_laws_markIntS : List (FuncId × Con) := []
def nm0_laws_markIntS : List NStep := [.keep [0, 1, 5] [100000]]
def an_laws_markIntS : Ann := ⟨[], [(2, nm0_laws_markIntS)], [], []⟩
def cs_laws_markIntS : Cons := ⟨cl_laws_markIntS, [], 0, [], [], []⟩
def can0_laws_markIntS (xk1 : Int) (xi5 : Int) (xy100000 : List Int) : St := ⟨[(0, .one (.c (.ow 100000))), (1, .one (.c (.v (.int .i64 xk1)))), (5, .one (.c (.v (.int .i64 xi5))))], [(100000, .row .int xy100000)]⟩
def fin_laws_markIntS (a0 : List Int) (k1 : Int) (kk : AV → List A1 → Prop) : Kt := fin TT con_laws_markIntS Try.f20.results.toList [.c .sc] [.c (.ro .int a0), .c (.v (.int .i64 k1))] kk
def kt0_laws_markIntS (kf : Kt) : Kt := blockK 0 (seqK (evF TT cs_laws_markIntS 19 an_laws_markIntS Try.f20 [1, 1]) (kf))
theorem r0_laws_markIntS (a0 : List Int) (k1 : Int) (kk : AV → List A1 → Prop) (n : Nat) (xk1 : Int) (xi5 : Int) (xy100000 : List Int) :
    iter (evF TT cs_laws_markIntS 19 an_laws_markIntS Try.f20 [1, 0, 1, 0, 0]) nm0_laws_markIntS (kt0_laws_markIntS (fin_laws_markIntS a0 k1 kk)) (n + 1) (can0_laws_markIntS xk1 xi5 xy100000) = T0_laws_markIntS xk1 xi5 xy100000 (fun r0 r1 => kk (.one (.c (.v (.int .i64 r0)))) [.c (.ro .int r1)]) (fun xk1 xi5 xy100000 => iter (evF TT cs_laws_markIntS 19 an_laws_markIntS Try.f20 [1, 0, 1, 0, 0]) nm0_laws_markIntS (kt0_laws_markIntS (fin_laws_markIntS a0 k1 kk)) n (can0_laws_markIntS xk1 xi5 xy100000)) := by kernel_rfl
theorem l0_laws_markIntS (a0 : List Int) (k1 : Int) (kk : AV → List A1 → Prop) : ∀ (n : Nat) (xk1 : Int) (xi5 : Int) (xy100000 : List Int), iter (evF TT cs_laws_markIntS 19 an_laws_markIntS Try.f20 [1, 0, 1, 0, 0]) nm0_laws_markIntS (kt0_laws_markIntS (fin_laws_markIntS a0 k1 kk)) n (can0_laws_markIntS xk1 xi5 xy100000) = L0_laws_markIntS (fun r0 r1 => kk (.one (.c (.v (.int .i64 r0)))) [.c (.ro .int r1)]) n xk1 xi5 xy100000 := by
  intro n
  induction n with
  | zero => intros; rfl
  | succ n ih =>
    intro xk1 xi5 xy100000
    rw [r0_laws_markIntS a0 k1 kk n xk1 xi5 xy100000]
    have hb : (fun xk1 xi5 xy100000 => iter (evF TT cs_laws_markIntS 19 an_laws_markIntS Try.f20 [1, 0, 1, 0, 0]) nm0_laws_markIntS (kt0_laws_markIntS (fin_laws_markIntS a0 k1 kk)) n (can0_laws_markIntS xk1 xi5 xy100000)) = L0_laws_markIntS (fun r0 r1 => kk (.one (.c (.v (.int .i64 r0)))) [.c (.ro .int r1)]) n := by
      funext xk1 xi5 xy100000; exact ih xk1 xi5 xy100000
    rw [hb]
    rfl
theorem g_laws_markIntS (a0 : List Int) (k1 : Int) (kk : AV → List A1 → Prop) :
    ev TT cs_laws_markIntS 19 an_laws_markIntS (Try.f20.body.getD .skip) (st0 con_laws_markIntS [.c (.ro .int a0), .c (.v (.int .i64 k1))]) (fin TT con_laws_markIntS Try.f20.results.toList [.c .sc] [.c (.ro .int a0), .c (.v (.int .i64 k1))] kk) = G_laws_markIntS a0 k1 (fun xk1 xi5 xy100000 => ∃ j, iter (evF TT cs_laws_markIntS 19 an_laws_markIntS Try.f20 [1, 0, 1, 0, 0]) nm0_laws_markIntS (kt0_laws_markIntS (fin_laws_markIntS a0 k1 kk)) j (can0_laws_markIntS xk1 xi5 xy100000)) := by kernel_rfl
theorem e_laws_markIntS (a0 : List Int) (k1 : Int) (kk : AV → List A1 → Prop) :
    ev TT cs_laws_markIntS 19 an_laws_markIntS (Try.f20.body.getD .skip) (st0 con_laws_markIntS [.c (.ro .int a0), .c (.v (.int .i64 k1))]) (fin TT con_laws_markIntS Try.f20.results.toList [.c .sc] [.c (.ro .int a0), .c (.v (.int .i64 k1))] kk) = S_laws_markIntS a0 k1 (fun r0 r1 => kk (.one (.c (.v (.int .i64 r0)))) [.c (.ro .int r1)]) := by
  rw [g_laws_markIntS]
  have hi0 : (fun xk1 xi5 xy100000 => ∃ j, iter (evF TT cs_laws_markIntS 19 an_laws_markIntS Try.f20 [1, 0, 1, 0, 0]) nm0_laws_markIntS (kt0_laws_markIntS (fin_laws_markIntS a0 k1 kk)) j (can0_laws_markIntS xk1 xi5 xy100000)) = (fun xk1 xi5 xy100000 => ∃ j, L0_laws_markIntS (fun r0 r1 => kk (.one (.c (.v (.int .i64 r0)))) [.c (.ro .int r1)]) j xk1 xi5 xy100000) := by
    funext xk1 xi5 xy100000
    refine congrArg Exists (funext fun j => ?_)
    rw [l0_laws_markIntS a0 k1 kk j xk1 xi5 xy100000]
  rw [hi0]
  rfl
theorem clok_laws_markIntS : ConOK Try.prog cl_laws_markIntS := consNil
theorem cok_laws_markIntS : ConsOK Try.prog 19 cs_laws_markIntS := ⟨clok_laws_markIntS, inlNil, ovNil⟩
theorem i_laws_markIntS {vs : List A1} {kk : AV → List A1 → Prop} {motive : List A1 → Prop} (h : con_laws_markIntS.F vs kk) (H : ∀ (a0 : List Int) (k1 : Int), F_laws_markIntS a0 k1 (fun r0 r1 => kk (.one (.c (.v (.int .i64 r0)))) [.c (.ro .int r1)]) → motive [.c (.ro .int a0), .c (.v (.int .i64 k1))]) : motive vs := by
  unfold con_laws_markIntS at h
  dsimp only at h
  split at h
  · exact H _ _ h
  · exact h.elim
theorem h_laws_markIntS : Holds Try.prog 20 con_laws_markIntS := by
  refine holds_of_ev (rt := [.c .sc]) (T := TT) (Γ := cs_laws_markIntS) (an := an_laws_markIntS) (N := 19) (c := Try.f20.body.getD .skip) Try.func20 (by kernel_rfl) Try.ntmps20 (by decide) (by decide) mixed tabOK cok_laws_markIntS (by kernel_rfl) ?_
  intro vs kk _ hF
  exact i_laws_markIntS (motive := fun vs => Goes (ev TT cs_laws_markIntS 19 an_laws_markIntS (Try.f20.body.getD .skip) (st0 con_laws_markIntS vs) (fin TT con_laws_markIntS Try.f20.results.toList [.c .sc] vs kk))) hF (fun a0 k1 hF => goes_of (e_laws_markIntS a0 k1 kk) (F_laws_markIntS_S hF))
def con_laws_heldIntS : Con := ⟨[.rd, .rd], true, [.c (.sl .int), .c (.sc)], fun vs k => match vs with
    | [.c (.ro .int a0), .c (.v (.int .i64 k1))] => F_laws_heldIntS a0 k1 (fun r0 => k (.one (.c (.v (.int .i64 r0)))) [])
    | _ => False, false⟩
def cl_laws_heldIntS : List (FuncId × Con) := []
def nm0_laws_heldIntS : List NStep := [.keep [0, 1, 5] []]
def an_laws_heldIntS : Ann := ⟨[], [(2, nm0_laws_heldIntS)], [], []⟩
def cs_laws_heldIntS : Cons := ⟨cl_laws_heldIntS, [], 0, [], [], []⟩
def can0_laws_heldIntS (a0 : List Int) (xk1 : Int) (xi5 : Int) : St := ⟨[(0, .one (.c (.ro .int a0))), (1, .one (.c (.v (.int .i64 xk1)))), (5, .one (.c (.v (.int .i64 xi5))))], []⟩
def fin_laws_heldIntS (a0 : List Int) (k1 : Int) (kk : AV → List A1 → Prop) : Kt := fin TT con_laws_heldIntS Try.f21.results.toList [.c .sc] [.c (.ro .int a0), .c (.v (.int .i64 k1))] kk
def kt0_laws_heldIntS (kf : Kt) : Kt := blockK 0 (seqK (evF TT cs_laws_heldIntS 21 an_laws_heldIntS Try.f21 [1, 1]) (kf))
theorem r0_laws_heldIntS (a0 : List Int) (k1 : Int) (kk : AV → List A1 → Prop) (n : Nat) (xk1 : Int) (xi5 : Int) :
    iter (evF TT cs_laws_heldIntS 21 an_laws_heldIntS Try.f21 [1, 0, 1, 0, 0]) nm0_laws_heldIntS (kt0_laws_heldIntS (fin_laws_heldIntS a0 k1 kk)) (n + 1) (can0_laws_heldIntS a0 xk1 xi5) = T0_laws_heldIntS a0 xk1 xi5 (fun r0 => kk (.one (.c (.v (.int .i64 r0)))) []) (fun xk1 xi5 => iter (evF TT cs_laws_heldIntS 21 an_laws_heldIntS Try.f21 [1, 0, 1, 0, 0]) nm0_laws_heldIntS (kt0_laws_heldIntS (fin_laws_heldIntS a0 k1 kk)) n (can0_laws_heldIntS a0 xk1 xi5)) := by kernel_rfl
theorem l0_laws_heldIntS (a0 : List Int) (k1 : Int) (kk : AV → List A1 → Prop) : ∀ (n : Nat) (xk1 : Int) (xi5 : Int), iter (evF TT cs_laws_heldIntS 21 an_laws_heldIntS Try.f21 [1, 0, 1, 0, 0]) nm0_laws_heldIntS (kt0_laws_heldIntS (fin_laws_heldIntS a0 k1 kk)) n (can0_laws_heldIntS a0 xk1 xi5) = L0_laws_heldIntS a0 (fun r0 => kk (.one (.c (.v (.int .i64 r0)))) []) n xk1 xi5 := by
  intro n
  induction n with
  | zero => intros; rfl
  | succ n ih =>
    intro xk1 xi5
    rw [r0_laws_heldIntS a0 k1 kk n xk1 xi5]
    have hb : (fun xk1 xi5 => iter (evF TT cs_laws_heldIntS 21 an_laws_heldIntS Try.f21 [1, 0, 1, 0, 0]) nm0_laws_heldIntS (kt0_laws_heldIntS (fin_laws_heldIntS a0 k1 kk)) n (can0_laws_heldIntS a0 xk1 xi5)) = L0_laws_heldIntS a0 (fun r0 => kk (.one (.c (.v (.int .i64 r0)))) []) n := by
      funext xk1 xi5; exact ih xk1 xi5
    rw [hb]
    rfl
theorem g_laws_heldIntS (a0 : List Int) (k1 : Int) (kk : AV → List A1 → Prop) :
    ev TT cs_laws_heldIntS 21 an_laws_heldIntS (Try.f21.body.getD .skip) (st0 con_laws_heldIntS [.c (.ro .int a0), .c (.v (.int .i64 k1))]) (fin TT con_laws_heldIntS Try.f21.results.toList [.c .sc] [.c (.ro .int a0), .c (.v (.int .i64 k1))] kk) = G_laws_heldIntS a0 k1 (fun a0 xk1 xi5 => ∃ j, iter (evF TT cs_laws_heldIntS 21 an_laws_heldIntS Try.f21 [1, 0, 1, 0, 0]) nm0_laws_heldIntS (kt0_laws_heldIntS (fin_laws_heldIntS a0 k1 kk)) j (can0_laws_heldIntS a0 xk1 xi5)) := by kernel_rfl
theorem e_laws_heldIntS (a0 : List Int) (k1 : Int) (kk : AV → List A1 → Prop) :
    ev TT cs_laws_heldIntS 21 an_laws_heldIntS (Try.f21.body.getD .skip) (st0 con_laws_heldIntS [.c (.ro .int a0), .c (.v (.int .i64 k1))]) (fin TT con_laws_heldIntS Try.f21.results.toList [.c .sc] [.c (.ro .int a0), .c (.v (.int .i64 k1))] kk) = S_laws_heldIntS a0 k1 (fun r0 => kk (.one (.c (.v (.int .i64 r0)))) []) := by
  rw [g_laws_heldIntS]
  have hi0 : (fun a0 xk1 xi5 => ∃ j, iter (evF TT cs_laws_heldIntS 21 an_laws_heldIntS Try.f21 [1, 0, 1, 0, 0]) nm0_laws_heldIntS (kt0_laws_heldIntS (fin_laws_heldIntS a0 k1 kk)) j (can0_laws_heldIntS a0 xk1 xi5)) = (fun a0 xk1 xi5 => ∃ j, L0_laws_heldIntS a0 (fun r0 => kk (.one (.c (.v (.int .i64 r0)))) []) j xk1 xi5) := by
    funext a0 xk1 xi5
    refine congrArg Exists (funext fun j => ?_)
    rw [l0_laws_heldIntS a0 k1 kk j xk1 xi5]
  rw [hi0]
  rfl
theorem clok_laws_heldIntS : ConOK Try.prog cl_laws_heldIntS := consNil
theorem cok_laws_heldIntS : ConsOK Try.prog 21 cs_laws_heldIntS := ⟨clok_laws_heldIntS, inlNil, ovNil⟩
theorem i_laws_heldIntS {vs : List A1} {kk : AV → List A1 → Prop} {motive : List A1 → Prop} (h : con_laws_heldIntS.F vs kk) (H : ∀ (a0 : List Int) (k1 : Int), F_laws_heldIntS a0 k1 (fun r0 => kk (.one (.c (.v (.int .i64 r0)))) []) → motive [.c (.ro .int a0), .c (.v (.int .i64 k1))]) : motive vs := by
  unfold con_laws_heldIntS at h
  dsimp only at h
  split at h
  · exact H _ _ h
  · exact h.elim
theorem h_laws_heldIntS : Holds Try.prog 21 con_laws_heldIntS := by
  refine holds_of_ev (rt := [.c .sc]) (T := TT) (Γ := cs_laws_heldIntS) (an := an_laws_heldIntS) (N := 21) (c := Try.f21.body.getD .skip) Try.func21 (by kernel_rfl) Try.ntmps21 (by decide) (by decide) mixed tabOK cok_laws_heldIntS (by kernel_rfl) ?_
  intro vs kk _ hF
  exact i_laws_heldIntS (motive := fun vs => Goes (ev TT cs_laws_heldIntS 21 an_laws_heldIntS (Try.f21.body.getD .skip) (st0 con_laws_heldIntS vs) (fin TT con_laws_heldIntS Try.f21.results.toList [.c .sc] vs kk))) hF (fun a0 k1 hF => goes_of (e_laws_heldIntS a0 k1 kk) (F_laws_heldIntS_S hF))
def con_laws_FnExactBestFill : Con := ⟨[.rd, .rd, .rd], true, [.c (.sl .int), .c (.sl .int), .c (.sc)], fun vs k => match vs with
    | [.c (.ro .int aSizes0), .c (.ro .int aValues1), .c (.v (.int .i64 aRoom2))] => F_laws_FnExactBestFill aSizes0 aValues1 aRoom2 (fun r0 => k (.one (.c (.v (.bool r0)))) [])
    | _ => False, false⟩
def cl_laws_FnExactBestFill : List (FuncId × Con) := [(14, con_impl_BestFill), (16, con_spec_BestFill), (18, con_laws_toIntS), (19, con_laws_eqIntS), (20, con_laws_markIntS), (21, con_laws_heldIntS)]
def an_laws_FnExactBestFill : Ann := ⟨[], [], [], []⟩
def cs_laws_FnExactBestFill : Cons := ⟨cl_laws_FnExactBestFill, [], 0, [], [], []⟩
def fin_laws_FnExactBestFill (aSizes0 : List Int) (aValues1 : List Int) (aRoom2 : Int) (kk : AV → List A1 → Prop) : Kt := fin TT con_laws_FnExactBestFill Try.f7.results.toList [.c .sc] [.c (.ro .int aSizes0), .c (.ro .int aValues1), .c (.v (.int .i64 aRoom2))] kk
theorem g_laws_FnExactBestFill (aSizes0 : List Int) (aValues1 : List Int) (aRoom2 : Int) (kk : AV → List A1 → Prop) :
    ev TT cs_laws_FnExactBestFill 92 an_laws_FnExactBestFill (Try.f7.body.getD .skip) (st0 con_laws_FnExactBestFill [.c (.ro .int aSizes0), .c (.ro .int aValues1), .c (.v (.int .i64 aRoom2))]) (fin TT con_laws_FnExactBestFill Try.f7.results.toList [.c .sc] [.c (.ro .int aSizes0), .c (.ro .int aValues1), .c (.v (.int .i64 aRoom2))] kk) = G_laws_FnExactBestFill aSizes0 aValues1 aRoom2 (fun r0 => kk (.one (.c (.v (.bool r0)))) []) := by kernel_rfl
theorem e_laws_FnExactBestFill (aSizes0 : List Int) (aValues1 : List Int) (aRoom2 : Int) (kk : AV → List A1 → Prop) :
    ev TT cs_laws_FnExactBestFill 92 an_laws_FnExactBestFill (Try.f7.body.getD .skip) (st0 con_laws_FnExactBestFill [.c (.ro .int aSizes0), .c (.ro .int aValues1), .c (.v (.int .i64 aRoom2))]) (fin TT con_laws_FnExactBestFill Try.f7.results.toList [.c .sc] [.c (.ro .int aSizes0), .c (.ro .int aValues1), .c (.v (.int .i64 aRoom2))] kk) = S_laws_FnExactBestFill aSizes0 aValues1 aRoom2 (fun r0 => kk (.one (.c (.v (.bool r0)))) []) := by
  rw [g_laws_FnExactBestFill]
  rfl
theorem clok_laws_FnExactBestFill : ConOK Try.prog cl_laws_FnExactBestFill := consCons h_impl_BestFill ⟨Try.f14, Try.func14, by kernel_rfl, ne_of_beq (by kernel_rfl)⟩ (consCons h_spec_BestFill ⟨Try.f16, Try.func16, by kernel_rfl, ne_of_beq (by kernel_rfl)⟩ (consCons h_laws_toIntS ⟨Try.f18, Try.func18, by kernel_rfl, ne_of_beq (by kernel_rfl)⟩ (consCons h_laws_eqIntS ⟨Try.f19, Try.func19, by kernel_rfl, ne_of_beq (by kernel_rfl)⟩ (consCons h_laws_markIntS ⟨Try.f20, Try.func20, by kernel_rfl, ne_of_beq (by kernel_rfl)⟩ (consCons h_laws_heldIntS ⟨Try.f21, Try.func21, by kernel_rfl, ne_of_beq (by kernel_rfl)⟩ (consNil))))))
theorem cok_laws_FnExactBestFill : ConsOK Try.prog 92 cs_laws_FnExactBestFill := ⟨clok_laws_FnExactBestFill, inlNil, ovNil⟩
theorem i_laws_FnExactBestFill {vs : List A1} {kk : AV → List A1 → Prop} {motive : List A1 → Prop} (h : con_laws_FnExactBestFill.F vs kk) (H : ∀ (aSizes0 : List Int) (aValues1 : List Int) (aRoom2 : Int), F_laws_FnExactBestFill aSizes0 aValues1 aRoom2 (fun r0 => kk (.one (.c (.v (.bool r0)))) []) → motive [.c (.ro .int aSizes0), .c (.ro .int aValues1), .c (.v (.int .i64 aRoom2))]) : motive vs := by
  unfold con_laws_FnExactBestFill at h
  dsimp only at h
  split at h
  · exact H _ _ _ h
  · exact h.elim
theorem h_laws_FnExactBestFill : Holds Try.prog 7 con_laws_FnExactBestFill := by
  refine holds_of_ev (rt := [.c .sc]) (T := TT) (Γ := cs_laws_FnExactBestFill) (an := an_laws_FnExactBestFill) (N := 92) (c := Try.f7.body.getD .skip) Try.func7 (by kernel_rfl) Try.ntmps7 (by decide) (by decide) mixed tabOK cok_laws_FnExactBestFill (by kernel_rfl) ?_
  intro vs kk _ hF
  exact i_laws_FnExactBestFill (motive := fun vs => Goes (ev TT cs_laws_FnExactBestFill 92 an_laws_FnExactBestFill (Try.f7.body.getD .skip) (st0 con_laws_FnExactBestFill vs) (fin TT con_laws_FnExactBestFill Try.f7.results.toList [.c .sc] vs kk))) hF (fun aSizes0 aValues1 aRoom2 hF => goes_of (e_laws_FnExactBestFill aSizes0 aValues1 aRoom2 kk) (F_laws_FnExactBestFill_S hF))
end Go.Ev
