/- What the evaluator gives for these functions: their contracts. No statement is proved here. -/
import Derived.Test.YtlobdkcjlpifjaeFnExactUseClockP0
import Derived.Test.YtlobdkcjlpifjaeTt
namespace Go.Ev
set_option linter.unusedVariables false
set_option maxRecDepth 100000
open Go Go.Proofs
def con_laws_szIntS : Con := ⟨[.rd, .rd], true, [.c (.sl .int), .c (.sc)], fun vs k => match vs with
    | [.c (.ro .int a0), .c (.v (.int .i64 left1))] => F_laws_szIntS a0 left1 (fun r0 => k (.one (.c (.v (.int .i64 r0)))) [])
    | _ => False, false⟩
def cl_laws_szIntS : List (FuncId × Con) := []
def an_laws_szIntS : Ann := ⟨[], [], []⟩
def cs_laws_szIntS : Cons := ⟨cl_laws_szIntS, [], 0, [], []⟩
def fin_laws_szIntS (a0 : List Int) (left1 : Int) (kk : AV → List A1 → Prop) : Kt := fin TT con_laws_szIntS Try.f53.results.toList [.c .sc] [.c (.ro .int a0), .c (.v (.int .i64 left1))] kk
theorem g_laws_szIntS (a0 : List Int) (left1 : Int) (kk : AV → List A1 → Prop) :
    ev TT cs_laws_szIntS 12 an_laws_szIntS (Try.f53.body.getD .skip) (st0 con_laws_szIntS [.c (.ro .int a0), .c (.v (.int .i64 left1))]) (fin TT con_laws_szIntS Try.f53.results.toList [.c .sc] [.c (.ro .int a0), .c (.v (.int .i64 left1))] kk) = G_laws_szIntS a0 left1 (fun r0 => kk (.one (.c (.v (.int .i64 r0)))) []) := by kernel_rfl
theorem e_laws_szIntS (a0 : List Int) (left1 : Int) (kk : AV → List A1 → Prop) :
    ev TT cs_laws_szIntS 12 an_laws_szIntS (Try.f53.body.getD .skip) (st0 con_laws_szIntS [.c (.ro .int a0), .c (.v (.int .i64 left1))]) (fin TT con_laws_szIntS Try.f53.results.toList [.c .sc] [.c (.ro .int a0), .c (.v (.int .i64 left1))] kk) = S_laws_szIntS a0 left1 (fun r0 => kk (.one (.c (.v (.int .i64 r0)))) []) := by
  rw [g_laws_szIntS]
  rfl
theorem clok_laws_szIntS : ConOK Try.prog cl_laws_szIntS := consNil
theorem cok_laws_szIntS : ConsOK Try.prog 12 cs_laws_szIntS := ⟨clok_laws_szIntS, inlNil⟩
theorem i_laws_szIntS {vs : List A1} {kk : AV → List A1 → Prop} {motive : List A1 → Prop} (h : con_laws_szIntS.F vs kk) (H : ∀ (a0 : List Int) (left1 : Int), F_laws_szIntS a0 left1 (fun r0 => kk (.one (.c (.v (.int .i64 r0)))) []) → motive [.c (.ro .int a0), .c (.v (.int .i64 left1))]) : motive vs := by
  unfold con_laws_szIntS at h
  dsimp only at h
  split at h
  · exact H _ _ h
  · exact h.elim
theorem h_laws_szIntS : Holds Try.prog 53 con_laws_szIntS := by
  refine holds_of_ev (rt := [.c .sc]) (T := TT) (Γ := cs_laws_szIntS) (an := an_laws_szIntS) (N := 12) (c := Try.f53.body.getD .skip) Try.func53 (by kernel_rfl) Try.ntmps53 (by decide) (by decide) mixed tabOK cok_laws_szIntS (by kernel_rfl) ?_
  intro vs kk _ hF
  exact i_laws_szIntS (motive := fun vs => Goes (ev TT cs_laws_szIntS 12 an_laws_szIntS (Try.f53.body.getD .skip) (st0 con_laws_szIntS vs) (fin TT con_laws_szIntS Try.f53.results.toList [.c .sc] vs kk))) hF (fun a0 left1 hF => goes_of (e_laws_szIntS a0 left1 kk) (F_laws_szIntS_S hF))
def con_laws_szBoolS : Con := ⟨[.rd, .rd], true, [.c (.sl .bool), .c (.sc)], fun vs k => match vs with
    | [.c (.ro .bool a0), .c (.v (.int .i64 left1))] => F_laws_szBoolS a0 left1 (fun r0 => k (.one (.c (.v (.int .i64 r0)))) [])
    | _ => False, false⟩
def cl_laws_szBoolS : List (FuncId × Con) := []
def an_laws_szBoolS : Ann := ⟨[], [], []⟩
def cs_laws_szBoolS : Cons := ⟨cl_laws_szBoolS, [], 0, [], []⟩
def fin_laws_szBoolS (a0 : List Bool) (left1 : Int) (kk : AV → List A1 → Prop) : Kt := fin TT con_laws_szBoolS Try.f54.results.toList [.c .sc] [.c (.ro .bool a0), .c (.v (.int .i64 left1))] kk
theorem g_laws_szBoolS (a0 : List Bool) (left1 : Int) (kk : AV → List A1 → Prop) :
    ev TT cs_laws_szBoolS 12 an_laws_szBoolS (Try.f54.body.getD .skip) (st0 con_laws_szBoolS [.c (.ro .bool a0), .c (.v (.int .i64 left1))]) (fin TT con_laws_szBoolS Try.f54.results.toList [.c .sc] [.c (.ro .bool a0), .c (.v (.int .i64 left1))] kk) = G_laws_szBoolS a0 left1 (fun r0 => kk (.one (.c (.v (.int .i64 r0)))) []) := by kernel_rfl
theorem e_laws_szBoolS (a0 : List Bool) (left1 : Int) (kk : AV → List A1 → Prop) :
    ev TT cs_laws_szBoolS 12 an_laws_szBoolS (Try.f54.body.getD .skip) (st0 con_laws_szBoolS [.c (.ro .bool a0), .c (.v (.int .i64 left1))]) (fin TT con_laws_szBoolS Try.f54.results.toList [.c .sc] [.c (.ro .bool a0), .c (.v (.int .i64 left1))] kk) = S_laws_szBoolS a0 left1 (fun r0 => kk (.one (.c (.v (.int .i64 r0)))) []) := by
  rw [g_laws_szBoolS]
  rfl
theorem clok_laws_szBoolS : ConOK Try.prog cl_laws_szBoolS := consNil
theorem cok_laws_szBoolS : ConsOK Try.prog 12 cs_laws_szBoolS := ⟨clok_laws_szBoolS, inlNil⟩
theorem i_laws_szBoolS {vs : List A1} {kk : AV → List A1 → Prop} {motive : List A1 → Prop} (h : con_laws_szBoolS.F vs kk) (H : ∀ (a0 : List Bool) (left1 : Int), F_laws_szBoolS a0 left1 (fun r0 => kk (.one (.c (.v (.int .i64 r0)))) []) → motive [.c (.ro .bool a0), .c (.v (.int .i64 left1))]) : motive vs := by
  unfold con_laws_szBoolS at h
  dsimp only at h
  split at h
  · exact H _ _ h
  · exact h.elim
theorem h_laws_szBoolS : Holds Try.prog 54 con_laws_szBoolS := by
  refine holds_of_ev (rt := [.c .sc]) (T := TT) (Γ := cs_laws_szBoolS) (an := an_laws_szBoolS) (N := 12) (c := Try.f54.body.getD .skip) Try.func54 (by kernel_rfl) Try.ntmps54 (by decide) (by decide) mixed tabOK cok_laws_szBoolS (by kernel_rfl) ?_
  intro vs kk _ hF
  exact i_laws_szBoolS (motive := fun vs => Goes (ev TT cs_laws_szBoolS 12 an_laws_szBoolS (Try.f54.body.getD .skip) (st0 con_laws_szBoolS vs) (fin TT con_laws_szBoolS Try.f54.results.toList [.c .sc] vs kk))) hF (fun a0 left1 hF => goes_of (e_laws_szBoolS a0 left1 kk) (F_laws_szBoolS_S hF))
def con_laws_szClock : Con := ⟨[.rd, .rd], true, [.agg [.sc, .sl .int, .sl .bool, .sc], .c (.sc)], fun vs k => match vs with
    | [.agg [.v (.int .i64 a0Room), .ro .int a0Keys, .ro .bool a0Used, .v (.int .i64 a0Hand)], .c (.v (.int .i64 left1))] => F_laws_szClock a0Room a0Keys a0Used a0Hand left1 (fun r0 => k (.one (.c (.v (.int .i64 r0)))) [])
    | _ => False, false⟩
def cl_laws_szClock : List (FuncId × Con) := [(53, con_laws_szIntS), (54, con_laws_szBoolS)]
def an_laws_szClock : Ann := ⟨[], [], []⟩
def cs_laws_szClock : Cons := ⟨cl_laws_szClock, [], 0, [], []⟩
def fin_laws_szClock (a0Room : Int) (a0Keys : List Int) (a0Used : List Bool) (a0Hand : Int) (left1 : Int) (kk : AV → List A1 → Prop) : Kt := fin TT con_laws_szClock Try.f27.results.toList [.c .sc] [.agg [.v (.int .i64 a0Room), .ro .int a0Keys, .ro .bool a0Used, .v (.int .i64 a0Hand)], .c (.v (.int .i64 left1))] kk
theorem g_laws_szClock (a0Room : Int) (a0Keys : List Int) (a0Used : List Bool) (a0Hand : Int) (left1 : Int) (kk : AV → List A1 → Prop) :
    ev TT cs_laws_szClock 18 an_laws_szClock (Try.f27.body.getD .skip) (st0 con_laws_szClock [.agg [.v (.int .i64 a0Room), .ro .int a0Keys, .ro .bool a0Used, .v (.int .i64 a0Hand)], .c (.v (.int .i64 left1))]) (fin TT con_laws_szClock Try.f27.results.toList [.c .sc] [.agg [.v (.int .i64 a0Room), .ro .int a0Keys, .ro .bool a0Used, .v (.int .i64 a0Hand)], .c (.v (.int .i64 left1))] kk) = G_laws_szClock a0Room a0Keys a0Used a0Hand left1 (fun r0 => kk (.one (.c (.v (.int .i64 r0)))) []) := by kernel_rfl
theorem e_laws_szClock (a0Room : Int) (a0Keys : List Int) (a0Used : List Bool) (a0Hand : Int) (left1 : Int) (kk : AV → List A1 → Prop) :
    ev TT cs_laws_szClock 18 an_laws_szClock (Try.f27.body.getD .skip) (st0 con_laws_szClock [.agg [.v (.int .i64 a0Room), .ro .int a0Keys, .ro .bool a0Used, .v (.int .i64 a0Hand)], .c (.v (.int .i64 left1))]) (fin TT con_laws_szClock Try.f27.results.toList [.c .sc] [.agg [.v (.int .i64 a0Room), .ro .int a0Keys, .ro .bool a0Used, .v (.int .i64 a0Hand)], .c (.v (.int .i64 left1))] kk) = S_laws_szClock a0Room a0Keys a0Used a0Hand left1 (fun r0 => kk (.one (.c (.v (.int .i64 r0)))) []) := by
  rw [g_laws_szClock]
  rfl
theorem clok_laws_szClock : ConOK Try.prog cl_laws_szClock := consCons h_laws_szIntS ⟨Try.f53, Try.func53, by kernel_rfl, ne_of_beq (by kernel_rfl)⟩ (consCons h_laws_szBoolS ⟨Try.f54, Try.func54, by kernel_rfl, ne_of_beq (by kernel_rfl)⟩ (consNil))
theorem cok_laws_szClock : ConsOK Try.prog 18 cs_laws_szClock := ⟨clok_laws_szClock, inlNil⟩
theorem i_laws_szClock {vs : List A1} {kk : AV → List A1 → Prop} {motive : List A1 → Prop} (h : con_laws_szClock.F vs kk) (H : ∀ (a0Room : Int) (a0Keys : List Int) (a0Used : List Bool) (a0Hand : Int) (left1 : Int), F_laws_szClock a0Room a0Keys a0Used a0Hand left1 (fun r0 => kk (.one (.c (.v (.int .i64 r0)))) []) → motive [.agg [.v (.int .i64 a0Room), .ro .int a0Keys, .ro .bool a0Used, .v (.int .i64 a0Hand)], .c (.v (.int .i64 left1))]) : motive vs := by
  unfold con_laws_szClock at h
  dsimp only at h
  split at h
  · exact H _ _ _ _ _ h
  · exact h.elim
theorem h_laws_szClock : Holds Try.prog 27 con_laws_szClock := by
  refine holds_of_ev (rt := [.c .sc]) (T := TT) (Γ := cs_laws_szClock) (an := an_laws_szClock) (N := 18) (c := Try.f27.body.getD .skip) Try.func27 (by kernel_rfl) Try.ntmps27 (by decide) (by decide) mixed tabOK cok_laws_szClock (by kernel_rfl) ?_
  intro vs kk _ hF
  exact i_laws_szClock (motive := fun vs => Goes (ev TT cs_laws_szClock 18 an_laws_szClock (Try.f27.body.getD .skip) (st0 con_laws_szClock vs) (fin TT con_laws_szClock Try.f27.results.toList [.c .sc] vs kk))) hF (fun a0Room a0Keys a0Used a0Hand left1 hF => goes_of (e_laws_szClock a0Room a0Keys a0Used a0Hand left1 kk) (F_laws_szClock_S hF))
def con_laws_toIntS : Con := ⟨[.rd], true, [.c (.sl .int)], fun vs k => match vs with
    | [.c (.ro .int a0)] => F_laws_toIntS a0 (fun r0 => k (.one (.c (.ro .int r0))) [])
    | _ => False, false⟩
def cl_laws_toIntS : List (FuncId × Con) := []
def nm0_laws_toIntS : List NStep := [.keep [0, 3, 4] [112]]
def an_laws_toIntS : Ann := ⟨[], [(3, nm0_laws_toIntS)], []⟩
def cs_laws_toIntS : Cons := ⟨cl_laws_toIntS, [], 0, [], []⟩
def can0_laws_toIntS (a0 : List Int) (xi4 : Int) (xy7 : List Int) : St := ⟨[(0, .one (.c (.ro .int a0))), (3, .one (.c (.ow 112))), (4, .one (.c (.v (.int .i64 xi4))))], [(112, .row .int xy7)]⟩
def fin_laws_toIntS (a0 : List Int) (kk : AV → List A1 → Prop) : Kt := fin TT con_laws_toIntS Try.f16.results.toList [.c (.sl .int)] [.c (.ro .int a0)] kk
def kt0_laws_toIntS (kf : Kt) : Kt := blockK 0 (seqK (evF TT cs_laws_toIntS 22 an_laws_toIntS Try.f16 [1, 1, 1]) (kf))
theorem r0_laws_toIntS (a0 : List Int) (kk : AV → List A1 → Prop) (n : Nat) (xi4 : Int) (xy7 : List Int) :
    iter (evF TT cs_laws_toIntS 22 an_laws_toIntS Try.f16 [1, 1, 0, 1, 0, 0]) nm0_laws_toIntS (kt0_laws_toIntS (fin_laws_toIntS a0 kk)) (n + 1) (can0_laws_toIntS a0 xi4 xy7) = T0_laws_toIntS a0 xi4 xy7 (fun r0 => kk (.one (.c (.ro .int r0))) []) (fun xi4 xy7 => iter (evF TT cs_laws_toIntS 22 an_laws_toIntS Try.f16 [1, 1, 0, 1, 0, 0]) nm0_laws_toIntS (kt0_laws_toIntS (fin_laws_toIntS a0 kk)) n (can0_laws_toIntS a0 xi4 xy7)) := by kernel_rfl
theorem l0_laws_toIntS (a0 : List Int) (kk : AV → List A1 → Prop) : ∀ (n : Nat) (xi4 : Int) (xy7 : List Int), iter (evF TT cs_laws_toIntS 22 an_laws_toIntS Try.f16 [1, 1, 0, 1, 0, 0]) nm0_laws_toIntS (kt0_laws_toIntS (fin_laws_toIntS a0 kk)) n (can0_laws_toIntS a0 xi4 xy7) = L0_laws_toIntS a0 (fun r0 => kk (.one (.c (.ro .int r0))) []) n xi4 xy7 := by
  intro n
  induction n with
  | zero => intros; rfl
  | succ n ih =>
    intro xi4 xy7
    rw [r0_laws_toIntS a0 kk n xi4 xy7]
    have hb : (fun xi4 xy7 => iter (evF TT cs_laws_toIntS 22 an_laws_toIntS Try.f16 [1, 1, 0, 1, 0, 0]) nm0_laws_toIntS (kt0_laws_toIntS (fin_laws_toIntS a0 kk)) n (can0_laws_toIntS a0 xi4 xy7)) = L0_laws_toIntS a0 (fun r0 => kk (.one (.c (.ro .int r0))) []) n := by
      funext xi4 xy7; exact ih xi4 xy7
    rw [hb]
    rfl
theorem g_laws_toIntS (a0 : List Int) (kk : AV → List A1 → Prop) :
    ev TT cs_laws_toIntS 22 an_laws_toIntS (Try.f16.body.getD .skip) (st0 con_laws_toIntS [.c (.ro .int a0)]) (fin TT con_laws_toIntS Try.f16.results.toList [.c (.sl .int)] [.c (.ro .int a0)] kk) = G_laws_toIntS a0 (fun a0 xi4 xy7 => ∃ j, iter (evF TT cs_laws_toIntS 22 an_laws_toIntS Try.f16 [1, 1, 0, 1, 0, 0]) nm0_laws_toIntS (kt0_laws_toIntS (fin_laws_toIntS a0 kk)) j (can0_laws_toIntS a0 xi4 xy7)) := by kernel_rfl
theorem e_laws_toIntS (a0 : List Int) (kk : AV → List A1 → Prop) :
    ev TT cs_laws_toIntS 22 an_laws_toIntS (Try.f16.body.getD .skip) (st0 con_laws_toIntS [.c (.ro .int a0)]) (fin TT con_laws_toIntS Try.f16.results.toList [.c (.sl .int)] [.c (.ro .int a0)] kk) = S_laws_toIntS a0 (fun r0 => kk (.one (.c (.ro .int r0))) []) := by
  rw [g_laws_toIntS]
  have hi0 : (fun a0 xi4 xy7 => ∃ j, iter (evF TT cs_laws_toIntS 22 an_laws_toIntS Try.f16 [1, 1, 0, 1, 0, 0]) nm0_laws_toIntS (kt0_laws_toIntS (fin_laws_toIntS a0 kk)) j (can0_laws_toIntS a0 xi4 xy7)) = (fun a0 xi4 xy7 => ∃ j, L0_laws_toIntS a0 (fun r0 => kk (.one (.c (.ro .int r0))) []) j xi4 xy7) := by
    funext a0 xi4 xy7
    refine congrArg Exists (funext fun j => ?_)
    rw [l0_laws_toIntS a0 kk j xi4 xy7]
  rw [hi0]
  rfl
theorem clok_laws_toIntS : ConOK Try.prog cl_laws_toIntS := consNil
theorem cok_laws_toIntS : ConsOK Try.prog 22 cs_laws_toIntS := ⟨clok_laws_toIntS, inlNil⟩
theorem i_laws_toIntS {vs : List A1} {kk : AV → List A1 → Prop} {motive : List A1 → Prop} (h : con_laws_toIntS.F vs kk) (H : ∀ (a0 : List Int), F_laws_toIntS a0 (fun r0 => kk (.one (.c (.ro .int r0))) []) → motive [.c (.ro .int a0)]) : motive vs := by
  unfold con_laws_toIntS at h
  dsimp only at h
  split at h
  · exact H _ h
  · exact h.elim
theorem h_laws_toIntS : Holds Try.prog 16 con_laws_toIntS := by
  refine holds_of_ev (rt := [.c (.sl .int)]) (T := TT) (Γ := cs_laws_toIntS) (an := an_laws_toIntS) (N := 22) (c := Try.f16.body.getD .skip) Try.func16 (by kernel_rfl) Try.ntmps16 (by decide) (by decide) mixed tabOK cok_laws_toIntS (by kernel_rfl) ?_
  intro vs kk _ hF
  exact i_laws_toIntS (motive := fun vs => Goes (ev TT cs_laws_toIntS 22 an_laws_toIntS (Try.f16.body.getD .skip) (st0 con_laws_toIntS vs) (fin TT con_laws_toIntS Try.f16.results.toList [.c (.sl .int)] vs kk))) hF (fun a0 hF => goes_of (e_laws_toIntS a0 kk) (F_laws_toIntS_S hF))
def con_laws_toBoolS : Con := ⟨[.rd], true, [.c (.sl .bool)], fun vs k => match vs with
    | [.c (.ro .bool a0)] => F_laws_toBoolS a0 (fun r0 => k (.one (.c (.ro .bool r0))) [])
    | _ => False, false⟩
def cl_laws_toBoolS : List (FuncId × Con) := []
def nm0_laws_toBoolS : List NStep := [.keep [0, 3, 4] [112]]
def an_laws_toBoolS : Ann := ⟨[], [(3, nm0_laws_toBoolS)], []⟩
def cs_laws_toBoolS : Cons := ⟨cl_laws_toBoolS, [], 0, [], []⟩
def can0_laws_toBoolS (a0 : List Bool) (xi4 : Int) (xy7 : List Bool) : St := ⟨[(0, .one (.c (.ro .bool a0))), (3, .one (.c (.ow 112))), (4, .one (.c (.v (.int .i64 xi4))))], [(112, .row .bool xy7)]⟩
def fin_laws_toBoolS (a0 : List Bool) (kk : AV → List A1 → Prop) : Kt := fin TT con_laws_toBoolS Try.f56.results.toList [.c (.sl .bool)] [.c (.ro .bool a0)] kk
def kt0_laws_toBoolS (kf : Kt) : Kt := blockK 0 (seqK (evF TT cs_laws_toBoolS 22 an_laws_toBoolS Try.f56 [1, 1, 1]) (kf))
theorem r0_laws_toBoolS (a0 : List Bool) (kk : AV → List A1 → Prop) (n : Nat) (xi4 : Int) (xy7 : List Bool) :
    iter (evF TT cs_laws_toBoolS 22 an_laws_toBoolS Try.f56 [1, 1, 0, 1, 0, 0]) nm0_laws_toBoolS (kt0_laws_toBoolS (fin_laws_toBoolS a0 kk)) (n + 1) (can0_laws_toBoolS a0 xi4 xy7) = T0_laws_toBoolS a0 xi4 xy7 (fun r0 => kk (.one (.c (.ro .bool r0))) []) (fun xi4 xy7 => iter (evF TT cs_laws_toBoolS 22 an_laws_toBoolS Try.f56 [1, 1, 0, 1, 0, 0]) nm0_laws_toBoolS (kt0_laws_toBoolS (fin_laws_toBoolS a0 kk)) n (can0_laws_toBoolS a0 xi4 xy7)) := by kernel_rfl
theorem l0_laws_toBoolS (a0 : List Bool) (kk : AV → List A1 → Prop) : ∀ (n : Nat) (xi4 : Int) (xy7 : List Bool), iter (evF TT cs_laws_toBoolS 22 an_laws_toBoolS Try.f56 [1, 1, 0, 1, 0, 0]) nm0_laws_toBoolS (kt0_laws_toBoolS (fin_laws_toBoolS a0 kk)) n (can0_laws_toBoolS a0 xi4 xy7) = L0_laws_toBoolS a0 (fun r0 => kk (.one (.c (.ro .bool r0))) []) n xi4 xy7 := by
  intro n
  induction n with
  | zero => intros; rfl
  | succ n ih =>
    intro xi4 xy7
    rw [r0_laws_toBoolS a0 kk n xi4 xy7]
    have hb : (fun xi4 xy7 => iter (evF TT cs_laws_toBoolS 22 an_laws_toBoolS Try.f56 [1, 1, 0, 1, 0, 0]) nm0_laws_toBoolS (kt0_laws_toBoolS (fin_laws_toBoolS a0 kk)) n (can0_laws_toBoolS a0 xi4 xy7)) = L0_laws_toBoolS a0 (fun r0 => kk (.one (.c (.ro .bool r0))) []) n := by
      funext xi4 xy7; exact ih xi4 xy7
    rw [hb]
    rfl
theorem g_laws_toBoolS (a0 : List Bool) (kk : AV → List A1 → Prop) :
    ev TT cs_laws_toBoolS 22 an_laws_toBoolS (Try.f56.body.getD .skip) (st0 con_laws_toBoolS [.c (.ro .bool a0)]) (fin TT con_laws_toBoolS Try.f56.results.toList [.c (.sl .bool)] [.c (.ro .bool a0)] kk) = G_laws_toBoolS a0 (fun a0 xi4 xy7 => ∃ j, iter (evF TT cs_laws_toBoolS 22 an_laws_toBoolS Try.f56 [1, 1, 0, 1, 0, 0]) nm0_laws_toBoolS (kt0_laws_toBoolS (fin_laws_toBoolS a0 kk)) j (can0_laws_toBoolS a0 xi4 xy7)) := by kernel_rfl
theorem e_laws_toBoolS (a0 : List Bool) (kk : AV → List A1 → Prop) :
    ev TT cs_laws_toBoolS 22 an_laws_toBoolS (Try.f56.body.getD .skip) (st0 con_laws_toBoolS [.c (.ro .bool a0)]) (fin TT con_laws_toBoolS Try.f56.results.toList [.c (.sl .bool)] [.c (.ro .bool a0)] kk) = S_laws_toBoolS a0 (fun r0 => kk (.one (.c (.ro .bool r0))) []) := by
  rw [g_laws_toBoolS]
  have hi0 : (fun a0 xi4 xy7 => ∃ j, iter (evF TT cs_laws_toBoolS 22 an_laws_toBoolS Try.f56 [1, 1, 0, 1, 0, 0]) nm0_laws_toBoolS (kt0_laws_toBoolS (fin_laws_toBoolS a0 kk)) j (can0_laws_toBoolS a0 xi4 xy7)) = (fun a0 xi4 xy7 => ∃ j, L0_laws_toBoolS a0 (fun r0 => kk (.one (.c (.ro .bool r0))) []) j xi4 xy7) := by
    funext a0 xi4 xy7
    refine congrArg Exists (funext fun j => ?_)
    rw [l0_laws_toBoolS a0 kk j xi4 xy7]
  rw [hi0]
  rfl
theorem clok_laws_toBoolS : ConOK Try.prog cl_laws_toBoolS := consNil
theorem cok_laws_toBoolS : ConsOK Try.prog 22 cs_laws_toBoolS := ⟨clok_laws_toBoolS, inlNil⟩
theorem i_laws_toBoolS {vs : List A1} {kk : AV → List A1 → Prop} {motive : List A1 → Prop} (h : con_laws_toBoolS.F vs kk) (H : ∀ (a0 : List Bool), F_laws_toBoolS a0 (fun r0 => kk (.one (.c (.ro .bool r0))) []) → motive [.c (.ro .bool a0)]) : motive vs := by
  unfold con_laws_toBoolS at h
  dsimp only at h
  split at h
  · exact H _ h
  · exact h.elim
theorem h_laws_toBoolS : Holds Try.prog 56 con_laws_toBoolS := by
  refine holds_of_ev (rt := [.c (.sl .bool)]) (T := TT) (Γ := cs_laws_toBoolS) (an := an_laws_toBoolS) (N := 22) (c := Try.f56.body.getD .skip) Try.func56 (by kernel_rfl) Try.ntmps56 (by decide) (by decide) mixed tabOK cok_laws_toBoolS (by kernel_rfl) ?_
  intro vs kk _ hF
  exact i_laws_toBoolS (motive := fun vs => Goes (ev TT cs_laws_toBoolS 22 an_laws_toBoolS (Try.f56.body.getD .skip) (st0 con_laws_toBoolS vs) (fin TT con_laws_toBoolS Try.f56.results.toList [.c (.sl .bool)] vs kk))) hF (fun a0 hF => goes_of (e_laws_toBoolS a0 kk) (F_laws_toBoolS_S hF))
def con_laws_toClock : Con := ⟨[.rd], true, [.agg [.sc, .sl .int, .sl .bool, .sc]], fun vs k => match vs with
    | [.agg [.v (.int .i64 a0Room), .ro .int a0Keys, .ro .bool a0Used, .v (.int .i64 a0Hand)]] => F_laws_toClock a0Room a0Keys a0Used a0Hand (fun r0 r1 r2 r3 => k (.one (.agg [.v (.int .i64 r0), .ro .int r1, .ro .bool r2, .v (.int .i64 r3)])) [])
    | _ => False, false⟩
def cl_laws_toClock : List (FuncId × Con) := [(16, con_laws_toIntS), (56, con_laws_toBoolS)]
def an_laws_toClock : Ann := ⟨[], [], []⟩
def cs_laws_toClock : Cons := ⟨cl_laws_toClock, [], 0, [], []⟩
def fin_laws_toClock (a0Room : Int) (a0Keys : List Int) (a0Used : List Bool) (a0Hand : Int) (kk : AV → List A1 → Prop) : Kt := fin TT con_laws_toClock Try.f29.results.toList [.agg [.sc, .sl .int, .sl .bool, .sc]] [.agg [.v (.int .i64 a0Room), .ro .int a0Keys, .ro .bool a0Used, .v (.int .i64 a0Hand)]] kk
theorem g_laws_toClock (a0Room : Int) (a0Keys : List Int) (a0Used : List Bool) (a0Hand : Int) (kk : AV → List A1 → Prop) :
    ev TT cs_laws_toClock 19 an_laws_toClock (Try.f29.body.getD .skip) (st0 con_laws_toClock [.agg [.v (.int .i64 a0Room), .ro .int a0Keys, .ro .bool a0Used, .v (.int .i64 a0Hand)]]) (fin TT con_laws_toClock Try.f29.results.toList [.agg [.sc, .sl .int, .sl .bool, .sc]] [.agg [.v (.int .i64 a0Room), .ro .int a0Keys, .ro .bool a0Used, .v (.int .i64 a0Hand)]] kk) = G_laws_toClock a0Room a0Keys a0Used a0Hand (fun r0 r1 r2 r3 => kk (.one (.agg [.v (.int .i64 r0), .ro .int r1, .ro .bool r2, .v (.int .i64 r3)])) []) := by kernel_rfl
theorem e_laws_toClock (a0Room : Int) (a0Keys : List Int) (a0Used : List Bool) (a0Hand : Int) (kk : AV → List A1 → Prop) :
    ev TT cs_laws_toClock 19 an_laws_toClock (Try.f29.body.getD .skip) (st0 con_laws_toClock [.agg [.v (.int .i64 a0Room), .ro .int a0Keys, .ro .bool a0Used, .v (.int .i64 a0Hand)]]) (fin TT con_laws_toClock Try.f29.results.toList [.agg [.sc, .sl .int, .sl .bool, .sc]] [.agg [.v (.int .i64 a0Room), .ro .int a0Keys, .ro .bool a0Used, .v (.int .i64 a0Hand)]] kk) = S_laws_toClock a0Room a0Keys a0Used a0Hand (fun r0 r1 r2 r3 => kk (.one (.agg [.v (.int .i64 r0), .ro .int r1, .ro .bool r2, .v (.int .i64 r3)])) []) := by
  rw [g_laws_toClock]
  rfl
theorem clok_laws_toClock : ConOK Try.prog cl_laws_toClock := consCons h_laws_toIntS ⟨Try.f16, Try.func16, by kernel_rfl, ne_of_beq (by kernel_rfl)⟩ (consCons h_laws_toBoolS ⟨Try.f56, Try.func56, by kernel_rfl, ne_of_beq (by kernel_rfl)⟩ (consNil))
theorem cok_laws_toClock : ConsOK Try.prog 19 cs_laws_toClock := ⟨clok_laws_toClock, inlNil⟩
theorem i_laws_toClock {vs : List A1} {kk : AV → List A1 → Prop} {motive : List A1 → Prop} (h : con_laws_toClock.F vs kk) (H : ∀ (a0Room : Int) (a0Keys : List Int) (a0Used : List Bool) (a0Hand : Int), F_laws_toClock a0Room a0Keys a0Used a0Hand (fun r0 r1 r2 r3 => kk (.one (.agg [.v (.int .i64 r0), .ro .int r1, .ro .bool r2, .v (.int .i64 r3)])) []) → motive [.agg [.v (.int .i64 a0Room), .ro .int a0Keys, .ro .bool a0Used, .v (.int .i64 a0Hand)]]) : motive vs := by
  unfold con_laws_toClock at h
  dsimp only at h
  split at h
  · exact H _ _ _ _ h
  · exact h.elim
theorem h_laws_toClock : Holds Try.prog 29 con_laws_toClock := by
  refine holds_of_ev (rt := [.agg [.sc, .sl .int, .sl .bool, .sc]]) (T := TT) (Γ := cs_laws_toClock) (an := an_laws_toClock) (N := 19) (c := Try.f29.body.getD .skip) Try.func29 (by kernel_rfl) Try.ntmps29 (by decide) (by decide) mixed tabOK cok_laws_toClock (by kernel_rfl) ?_
  intro vs kk _ hF
  exact i_laws_toClock (motive := fun vs => Goes (ev TT cs_laws_toClock 19 an_laws_toClock (Try.f29.body.getD .skip) (st0 con_laws_toClock vs) (fin TT con_laws_toClock Try.f29.results.toList [.agg [.sc, .sl .int, .sl .bool, .sc]] vs kk))) hF (fun a0Room a0Keys a0Used a0Hand hF => goes_of (e_laws_toClock a0Room a0Keys a0Used a0Hand kk) (F_laws_toClock_S hF))
def con_spec_inRange : Con := ⟨[.rd, .rd, .rd], true, [.c (.sc), .c (.sc), .c (.sc)], fun vs k => match vs with
    | [.c (.v (.int .i64 n0)), .c (.v (.int .i64 low1)), .c (.v (.int .i64 high2))] => F_spec_inRange n0 low1 high2 (fun r0 => k (.one (.c (.v (.bool r0)))) [])
    | _ => False, false⟩
def cl_spec_inRange : List (FuncId × Con) := []
def an_spec_inRange : Ann := ⟨[], [], []⟩
def cs_spec_inRange : Cons := ⟨cl_spec_inRange, [], 0, [], []⟩
def fin_spec_inRange (n0 : Int) (low1 : Int) (high2 : Int) (kk : AV → List A1 → Prop) : Kt := fin TT con_spec_inRange Try.f42.results.toList [.c .sc] [.c (.v (.int .i64 n0)), .c (.v (.int .i64 low1)), .c (.v (.int .i64 high2))] kk
theorem g_spec_inRange (n0 : Int) (low1 : Int) (high2 : Int) (kk : AV → List A1 → Prop) :
    ev TT cs_spec_inRange 15 an_spec_inRange (Try.f42.body.getD .skip) (st0 con_spec_inRange [.c (.v (.int .i64 n0)), .c (.v (.int .i64 low1)), .c (.v (.int .i64 high2))]) (fin TT con_spec_inRange Try.f42.results.toList [.c .sc] [.c (.v (.int .i64 n0)), .c (.v (.int .i64 low1)), .c (.v (.int .i64 high2))] kk) = G_spec_inRange n0 low1 high2 (fun r0 => kk (.one (.c (.v (.bool r0)))) []) := by kernel_rfl
theorem e_spec_inRange (n0 : Int) (low1 : Int) (high2 : Int) (kk : AV → List A1 → Prop) :
    ev TT cs_spec_inRange 15 an_spec_inRange (Try.f42.body.getD .skip) (st0 con_spec_inRange [.c (.v (.int .i64 n0)), .c (.v (.int .i64 low1)), .c (.v (.int .i64 high2))]) (fin TT con_spec_inRange Try.f42.results.toList [.c .sc] [.c (.v (.int .i64 n0)), .c (.v (.int .i64 low1)), .c (.v (.int .i64 high2))] kk) = S_spec_inRange n0 low1 high2 (fun r0 => kk (.one (.c (.v (.bool r0)))) []) := by
  rw [g_spec_inRange]
  rfl
theorem clok_spec_inRange : ConOK Try.prog cl_spec_inRange := consNil
theorem cok_spec_inRange : ConsOK Try.prog 15 cs_spec_inRange := ⟨clok_spec_inRange, inlNil⟩
theorem i_spec_inRange {vs : List A1} {kk : AV → List A1 → Prop} {motive : List A1 → Prop} (h : con_spec_inRange.F vs kk) (H : ∀ (n0 : Int) (low1 : Int) (high2 : Int), F_spec_inRange n0 low1 high2 (fun r0 => kk (.one (.c (.v (.bool r0)))) []) → motive [.c (.v (.int .i64 n0)), .c (.v (.int .i64 low1)), .c (.v (.int .i64 high2))]) : motive vs := by
  unfold con_spec_inRange at h
  dsimp only at h
  split at h
  · exact H _ _ _ h
  · exact h.elim
theorem h_spec_inRange : Holds Try.prog 42 con_spec_inRange := by
  refine holds_of_ev (rt := [.c .sc]) (T := TT) (Γ := cs_spec_inRange) (an := an_spec_inRange) (N := 15) (c := Try.f42.body.getD .skip) Try.func42 (by kernel_rfl) Try.ntmps42 (by decide) (by decide) mixed tabOK cok_spec_inRange (by kernel_rfl) ?_
  intro vs kk _ hF
  exact i_spec_inRange (motive := fun vs => Goes (ev TT cs_spec_inRange 15 an_spec_inRange (Try.f42.body.getD .skip) (st0 con_spec_inRange vs) (fin TT con_spec_inRange Try.f42.results.toList [.c .sc] vs kk))) hF (fun n0 low1 high2 hF => goes_of (e_spec_inRange n0 low1 high2 kk) (F_spec_inRange_S hF))
def con_spec_allIn : Con := ⟨[.rd, .rd, .rd], true, [.c (.sl .int), .c (.sc), .c (.sc)], fun vs k => match vs with
    | [.c (.ro .int list0), .c (.v (.int .i64 low1)), .c (.v (.int .i64 high2))] => F_spec_allIn list0 low1 high2 (fun r0 => k (.one (.c (.v (.bool r0)))) [])
    | _ => False, false⟩
def cl_spec_allIn : List (FuncId × Con) := [(42, con_spec_inRange)]
def nm0_spec_allIn : List NStep := [.keep [0, 1, 2, 7] []]
def an_spec_allIn : Ann := ⟨[], [(2, nm0_spec_allIn)], []⟩
def cs_spec_allIn : Cons := ⟨cl_spec_allIn, [], 0, [], []⟩
def can0_spec_allIn (high2 : Int) (list0 : List Int) (low1 : Int) (xi7 : Int) : St := ⟨[(0, .one (.c (.ro .int list0))), (1, .one (.c (.v (.int .i64 low1)))), (2, .one (.c (.v (.int .i64 high2)))), (7, .one (.c (.v (.int .i64 xi7))))], []⟩
def fin_spec_allIn (list0 : List Int) (low1 : Int) (high2 : Int) (kk : AV → List A1 → Prop) : Kt := fin TT con_spec_allIn Try.f68.results.toList [.c .sc] [.c (.ro .int list0), .c (.v (.int .i64 low1)), .c (.v (.int .i64 high2))] kk
def kt0_spec_allIn (kf : Kt) : Kt := blockK 0 (seqK (evF TT cs_spec_allIn 22 an_spec_allIn Try.f68 [1, 1]) (kf))
theorem r0_spec_allIn (list0 : List Int) (low1 : Int) (high2 : Int) (kk : AV → List A1 → Prop) (n : Nat) (xi7 : Int) :
    iter (evF TT cs_spec_allIn 22 an_spec_allIn Try.f68 [1, 0, 1, 0, 0]) nm0_spec_allIn (kt0_spec_allIn (fin_spec_allIn list0 low1 high2 kk)) (n + 1) (can0_spec_allIn high2 list0 low1 xi7) = T0_spec_allIn high2 list0 low1 xi7 (fun r0 => kk (.one (.c (.v (.bool r0)))) []) (fun xi7 => iter (evF TT cs_spec_allIn 22 an_spec_allIn Try.f68 [1, 0, 1, 0, 0]) nm0_spec_allIn (kt0_spec_allIn (fin_spec_allIn list0 low1 high2 kk)) n (can0_spec_allIn high2 list0 low1 xi7)) := by kernel_rfl
theorem l0_spec_allIn (list0 : List Int) (low1 : Int) (high2 : Int) (kk : AV → List A1 → Prop) : ∀ (n : Nat) (xi7 : Int), iter (evF TT cs_spec_allIn 22 an_spec_allIn Try.f68 [1, 0, 1, 0, 0]) nm0_spec_allIn (kt0_spec_allIn (fin_spec_allIn list0 low1 high2 kk)) n (can0_spec_allIn high2 list0 low1 xi7) = L0_spec_allIn high2 list0 low1 (fun r0 => kk (.one (.c (.v (.bool r0)))) []) n xi7 := by
  intro n
  induction n with
  | zero => intros; rfl
  | succ n ih =>
    intro xi7
    rw [r0_spec_allIn list0 low1 high2 kk n xi7]
    have hb : (fun xi7 => iter (evF TT cs_spec_allIn 22 an_spec_allIn Try.f68 [1, 0, 1, 0, 0]) nm0_spec_allIn (kt0_spec_allIn (fin_spec_allIn list0 low1 high2 kk)) n (can0_spec_allIn high2 list0 low1 xi7)) = L0_spec_allIn high2 list0 low1 (fun r0 => kk (.one (.c (.v (.bool r0)))) []) n := by
      funext xi7; exact ih xi7
    rw [hb]
    rfl
theorem g_spec_allIn (list0 : List Int) (low1 : Int) (high2 : Int) (kk : AV → List A1 → Prop) :
    ev TT cs_spec_allIn 22 an_spec_allIn (Try.f68.body.getD .skip) (st0 con_spec_allIn [.c (.ro .int list0), .c (.v (.int .i64 low1)), .c (.v (.int .i64 high2))]) (fin TT con_spec_allIn Try.f68.results.toList [.c .sc] [.c (.ro .int list0), .c (.v (.int .i64 low1)), .c (.v (.int .i64 high2))] kk) = G_spec_allIn list0 low1 high2 (fun high2 list0 low1 xi7 => ∃ j, iter (evF TT cs_spec_allIn 22 an_spec_allIn Try.f68 [1, 0, 1, 0, 0]) nm0_spec_allIn (kt0_spec_allIn (fin_spec_allIn list0 low1 high2 kk)) j (can0_spec_allIn high2 list0 low1 xi7)) := by kernel_rfl
theorem e_spec_allIn (list0 : List Int) (low1 : Int) (high2 : Int) (kk : AV → List A1 → Prop) :
    ev TT cs_spec_allIn 22 an_spec_allIn (Try.f68.body.getD .skip) (st0 con_spec_allIn [.c (.ro .int list0), .c (.v (.int .i64 low1)), .c (.v (.int .i64 high2))]) (fin TT con_spec_allIn Try.f68.results.toList [.c .sc] [.c (.ro .int list0), .c (.v (.int .i64 low1)), .c (.v (.int .i64 high2))] kk) = S_spec_allIn list0 low1 high2 (fun r0 => kk (.one (.c (.v (.bool r0)))) []) := by
  rw [g_spec_allIn]
  have hi0 : (fun high2 list0 low1 xi7 => ∃ j, iter (evF TT cs_spec_allIn 22 an_spec_allIn Try.f68 [1, 0, 1, 0, 0]) nm0_spec_allIn (kt0_spec_allIn (fin_spec_allIn list0 low1 high2 kk)) j (can0_spec_allIn high2 list0 low1 xi7)) = (fun high2 list0 low1 xi7 => ∃ j, L0_spec_allIn high2 list0 low1 (fun r0 => kk (.one (.c (.v (.bool r0)))) []) j xi7) := by
    funext high2 list0 low1 xi7
    refine congrArg Exists (funext fun j => ?_)
    rw [l0_spec_allIn list0 low1 high2 kk j xi7]
  rw [hi0]
  rfl
theorem clok_spec_allIn : ConOK Try.prog cl_spec_allIn := consCons h_spec_inRange ⟨Try.f42, Try.func42, by kernel_rfl, ne_of_beq (by kernel_rfl)⟩ (consNil)
theorem cok_spec_allIn : ConsOK Try.prog 22 cs_spec_allIn := ⟨clok_spec_allIn, inlNil⟩
theorem i_spec_allIn {vs : List A1} {kk : AV → List A1 → Prop} {motive : List A1 → Prop} (h : con_spec_allIn.F vs kk) (H : ∀ (list0 : List Int) (low1 : Int) (high2 : Int), F_spec_allIn list0 low1 high2 (fun r0 => kk (.one (.c (.v (.bool r0)))) []) → motive [.c (.ro .int list0), .c (.v (.int .i64 low1)), .c (.v (.int .i64 high2))]) : motive vs := by
  unfold con_spec_allIn at h
  dsimp only at h
  split at h
  · exact H _ _ _ h
  · exact h.elim
theorem h_spec_allIn : Holds Try.prog 68 con_spec_allIn := by
  refine holds_of_ev (rt := [.c .sc]) (T := TT) (Γ := cs_spec_allIn) (an := an_spec_allIn) (N := 22) (c := Try.f68.body.getD .skip) Try.func68 (by kernel_rfl) Try.ntmps68 (by decide) (by decide) mixed tabOK cok_spec_allIn (by kernel_rfl) ?_
  intro vs kk _ hF
  exact i_spec_allIn (motive := fun vs => Goes (ev TT cs_spec_allIn 22 an_spec_allIn (Try.f68.body.getD .skip) (st0 con_spec_allIn vs) (fin TT con_spec_allIn Try.f68.results.toList [.c .sc] vs kk))) hF (fun list0 low1 high2 hF => goes_of (e_spec_allIn list0 low1 high2 kk) (F_spec_allIn_S hF))
def con_spec_placeOf : Con := ⟨[.rd, .rd], true, [.c (.sl .int), .c (.sc)], fun vs k => match vs with
    | [.c (.ro .int list0), .c (.v (.int .i64 n1))] => F_spec_placeOf list0 n1 (fun r0 => k (.one (.c (.v (.int .i64 r0)))) [])
    | _ => False, false⟩
def cl_spec_placeOf : List (FuncId × Con) := []
def nm0_spec_placeOf : List NStep := [.keep [0, 1, 5] []]
def an_spec_placeOf : Ann := ⟨[], [(2, nm0_spec_placeOf)], []⟩
def cs_spec_placeOf : Cons := ⟨cl_spec_placeOf, [], 0, [], []⟩
def can0_spec_placeOf (list0 : List Int) (n1 : Int) (xi5 : Int) : St := ⟨[(0, .one (.c (.ro .int list0))), (1, .one (.c (.v (.int .i64 n1)))), (5, .one (.c (.v (.int .i64 xi5))))], []⟩
def fin_spec_placeOf (list0 : List Int) (n1 : Int) (kk : AV → List A1 → Prop) : Kt := fin TT con_spec_placeOf Try.f69.results.toList [.c .sc] [.c (.ro .int list0), .c (.v (.int .i64 n1))] kk
def kt0_spec_placeOf (kf : Kt) : Kt := blockK 0 (seqK (evF TT cs_spec_placeOf 19 an_spec_placeOf Try.f69 [1, 1]) (kf))
theorem r0_spec_placeOf (list0 : List Int) (n1 : Int) (kk : AV → List A1 → Prop) (n : Nat) (xi5 : Int) :
    iter (evF TT cs_spec_placeOf 19 an_spec_placeOf Try.f69 [1, 0, 1, 0, 0]) nm0_spec_placeOf (kt0_spec_placeOf (fin_spec_placeOf list0 n1 kk)) (n + 1) (can0_spec_placeOf list0 n1 xi5) = T0_spec_placeOf list0 n1 xi5 (fun r0 => kk (.one (.c (.v (.int .i64 r0)))) []) (fun xi5 => iter (evF TT cs_spec_placeOf 19 an_spec_placeOf Try.f69 [1, 0, 1, 0, 0]) nm0_spec_placeOf (kt0_spec_placeOf (fin_spec_placeOf list0 n1 kk)) n (can0_spec_placeOf list0 n1 xi5)) := by kernel_rfl
theorem l0_spec_placeOf (list0 : List Int) (n1 : Int) (kk : AV → List A1 → Prop) : ∀ (n : Nat) (xi5 : Int), iter (evF TT cs_spec_placeOf 19 an_spec_placeOf Try.f69 [1, 0, 1, 0, 0]) nm0_spec_placeOf (kt0_spec_placeOf (fin_spec_placeOf list0 n1 kk)) n (can0_spec_placeOf list0 n1 xi5) = L0_spec_placeOf list0 n1 (fun r0 => kk (.one (.c (.v (.int .i64 r0)))) []) n xi5 := by
  intro n
  induction n with
  | zero => intros; rfl
  | succ n ih =>
    intro xi5
    rw [r0_spec_placeOf list0 n1 kk n xi5]
    have hb : (fun xi5 => iter (evF TT cs_spec_placeOf 19 an_spec_placeOf Try.f69 [1, 0, 1, 0, 0]) nm0_spec_placeOf (kt0_spec_placeOf (fin_spec_placeOf list0 n1 kk)) n (can0_spec_placeOf list0 n1 xi5)) = L0_spec_placeOf list0 n1 (fun r0 => kk (.one (.c (.v (.int .i64 r0)))) []) n := by
      funext xi5; exact ih xi5
    rw [hb]
    rfl
theorem g_spec_placeOf (list0 : List Int) (n1 : Int) (kk : AV → List A1 → Prop) :
    ev TT cs_spec_placeOf 19 an_spec_placeOf (Try.f69.body.getD .skip) (st0 con_spec_placeOf [.c (.ro .int list0), .c (.v (.int .i64 n1))]) (fin TT con_spec_placeOf Try.f69.results.toList [.c .sc] [.c (.ro .int list0), .c (.v (.int .i64 n1))] kk) = G_spec_placeOf list0 n1 (fun list0 n1 xi5 => ∃ j, iter (evF TT cs_spec_placeOf 19 an_spec_placeOf Try.f69 [1, 0, 1, 0, 0]) nm0_spec_placeOf (kt0_spec_placeOf (fin_spec_placeOf list0 n1 kk)) j (can0_spec_placeOf list0 n1 xi5)) := by kernel_rfl
theorem e_spec_placeOf (list0 : List Int) (n1 : Int) (kk : AV → List A1 → Prop) :
    ev TT cs_spec_placeOf 19 an_spec_placeOf (Try.f69.body.getD .skip) (st0 con_spec_placeOf [.c (.ro .int list0), .c (.v (.int .i64 n1))]) (fin TT con_spec_placeOf Try.f69.results.toList [.c .sc] [.c (.ro .int list0), .c (.v (.int .i64 n1))] kk) = S_spec_placeOf list0 n1 (fun r0 => kk (.one (.c (.v (.int .i64 r0)))) []) := by
  rw [g_spec_placeOf]
  have hi0 : (fun list0 n1 xi5 => ∃ j, iter (evF TT cs_spec_placeOf 19 an_spec_placeOf Try.f69 [1, 0, 1, 0, 0]) nm0_spec_placeOf (kt0_spec_placeOf (fin_spec_placeOf list0 n1 kk)) j (can0_spec_placeOf list0 n1 xi5)) = (fun list0 n1 xi5 => ∃ j, L0_spec_placeOf list0 n1 (fun r0 => kk (.one (.c (.v (.int .i64 r0)))) []) j xi5) := by
    funext list0 n1 xi5
    refine congrArg Exists (funext fun j => ?_)
    rw [l0_spec_placeOf list0 n1 kk j xi5]
  rw [hi0]
  rfl
theorem clok_spec_placeOf : ConOK Try.prog cl_spec_placeOf := consNil
theorem cok_spec_placeOf : ConsOK Try.prog 19 cs_spec_placeOf := ⟨clok_spec_placeOf, inlNil⟩
theorem i_spec_placeOf {vs : List A1} {kk : AV → List A1 → Prop} {motive : List A1 → Prop} (h : con_spec_placeOf.F vs kk) (H : ∀ (list0 : List Int) (n1 : Int), F_spec_placeOf list0 n1 (fun r0 => kk (.one (.c (.v (.int .i64 r0)))) []) → motive [.c (.ro .int list0), .c (.v (.int .i64 n1))]) : motive vs := by
  unfold con_spec_placeOf at h
  dsimp only at h
  split at h
  · exact H _ _ h
  · exact h.elim
theorem h_spec_placeOf : Holds Try.prog 69 con_spec_placeOf := by
  refine holds_of_ev (rt := [.c .sc]) (T := TT) (Γ := cs_spec_placeOf) (an := an_spec_placeOf) (N := 19) (c := Try.f69.body.getD .skip) Try.func69 (by kernel_rfl) Try.ntmps69 (by decide) (by decide) mixed tabOK cok_spec_placeOf (by kernel_rfl) ?_
  intro vs kk _ hF
  exact i_spec_placeOf (motive := fun vs => Goes (ev TT cs_spec_placeOf 19 an_spec_placeOf (Try.f69.body.getD .skip) (st0 con_spec_placeOf vs) (fin TT con_spec_placeOf Try.f69.results.toList [.c .sc] vs kk))) hF (fun list0 n1 hF => goes_of (e_spec_placeOf list0 n1 kk) (F_spec_placeOf_S hF))
def con_spec_distinct : Con := ⟨[.rd], true, [.c (.sl .int)], fun vs k => match vs with
    | [.c (.ro .int list0)] => F_spec_distinct list0 (fun r0 => k (.one (.c (.v (.bool r0)))) [])
    | _ => False, false⟩
def cl_spec_distinct : List (FuncId × Con) := [(69, con_spec_placeOf)]
def nm0_spec_distinct : List NStep := [.keep [0, 3] []]
def an_spec_distinct : Ann := ⟨[], [(2, nm0_spec_distinct)], []⟩
def cs_spec_distinct : Cons := ⟨cl_spec_distinct, [], 0, [], []⟩
def can0_spec_distinct (list0 : List Int) (xi3 : Int) : St := ⟨[(0, .one (.c (.ro .int list0))), (3, .one (.c (.v (.int .i64 xi3))))], []⟩
def fin_spec_distinct (list0 : List Int) (kk : AV → List A1 → Prop) : Kt := fin TT con_spec_distinct Try.f67.results.toList [.c .sc] [.c (.ro .int list0)] kk
def kt0_spec_distinct (kf : Kt) : Kt := blockK 0 (seqK (evF TT cs_spec_distinct 18 an_spec_distinct Try.f67 [1, 1]) (kf))
theorem r0_spec_distinct (list0 : List Int) (kk : AV → List A1 → Prop) (n : Nat) (xi3 : Int) :
    iter (evF TT cs_spec_distinct 18 an_spec_distinct Try.f67 [1, 0, 1, 0, 0]) nm0_spec_distinct (kt0_spec_distinct (fin_spec_distinct list0 kk)) (n + 1) (can0_spec_distinct list0 xi3) = T0_spec_distinct list0 xi3 (fun r0 => kk (.one (.c (.v (.bool r0)))) []) (fun xi3 => iter (evF TT cs_spec_distinct 18 an_spec_distinct Try.f67 [1, 0, 1, 0, 0]) nm0_spec_distinct (kt0_spec_distinct (fin_spec_distinct list0 kk)) n (can0_spec_distinct list0 xi3)) := by kernel_rfl
theorem l0_spec_distinct (list0 : List Int) (kk : AV → List A1 → Prop) : ∀ (n : Nat) (xi3 : Int), iter (evF TT cs_spec_distinct 18 an_spec_distinct Try.f67 [1, 0, 1, 0, 0]) nm0_spec_distinct (kt0_spec_distinct (fin_spec_distinct list0 kk)) n (can0_spec_distinct list0 xi3) = L0_spec_distinct list0 (fun r0 => kk (.one (.c (.v (.bool r0)))) []) n xi3 := by
  intro n
  induction n with
  | zero => intros; rfl
  | succ n ih =>
    intro xi3
    rw [r0_spec_distinct list0 kk n xi3]
    have hb : (fun xi3 => iter (evF TT cs_spec_distinct 18 an_spec_distinct Try.f67 [1, 0, 1, 0, 0]) nm0_spec_distinct (kt0_spec_distinct (fin_spec_distinct list0 kk)) n (can0_spec_distinct list0 xi3)) = L0_spec_distinct list0 (fun r0 => kk (.one (.c (.v (.bool r0)))) []) n := by
      funext xi3; exact ih xi3
    rw [hb]
    rfl
theorem g_spec_distinct (list0 : List Int) (kk : AV → List A1 → Prop) :
    ev TT cs_spec_distinct 18 an_spec_distinct (Try.f67.body.getD .skip) (st0 con_spec_distinct [.c (.ro .int list0)]) (fin TT con_spec_distinct Try.f67.results.toList [.c .sc] [.c (.ro .int list0)] kk) = G_spec_distinct list0 (fun list0 xi3 => ∃ j, iter (evF TT cs_spec_distinct 18 an_spec_distinct Try.f67 [1, 0, 1, 0, 0]) nm0_spec_distinct (kt0_spec_distinct (fin_spec_distinct list0 kk)) j (can0_spec_distinct list0 xi3)) := by kernel_rfl
theorem e_spec_distinct (list0 : List Int) (kk : AV → List A1 → Prop) :
    ev TT cs_spec_distinct 18 an_spec_distinct (Try.f67.body.getD .skip) (st0 con_spec_distinct [.c (.ro .int list0)]) (fin TT con_spec_distinct Try.f67.results.toList [.c .sc] [.c (.ro .int list0)] kk) = S_spec_distinct list0 (fun r0 => kk (.one (.c (.v (.bool r0)))) []) := by
  rw [g_spec_distinct]
  have hi0 : (fun list0 xi3 => ∃ j, iter (evF TT cs_spec_distinct 18 an_spec_distinct Try.f67 [1, 0, 1, 0, 0]) nm0_spec_distinct (kt0_spec_distinct (fin_spec_distinct list0 kk)) j (can0_spec_distinct list0 xi3)) = (fun list0 xi3 => ∃ j, L0_spec_distinct list0 (fun r0 => kk (.one (.c (.v (.bool r0)))) []) j xi3) := by
    funext list0 xi3
    refine congrArg Exists (funext fun j => ?_)
    rw [l0_spec_distinct list0 kk j xi3]
  rw [hi0]
  rfl
theorem clok_spec_distinct : ConOK Try.prog cl_spec_distinct := consCons h_spec_placeOf ⟨Try.f69, Try.func69, by kernel_rfl, ne_of_beq (by kernel_rfl)⟩ (consNil)
theorem cok_spec_distinct : ConsOK Try.prog 18 cs_spec_distinct := ⟨clok_spec_distinct, inlNil⟩
theorem i_spec_distinct {vs : List A1} {kk : AV → List A1 → Prop} {motive : List A1 → Prop} (h : con_spec_distinct.F vs kk) (H : ∀ (list0 : List Int), F_spec_distinct list0 (fun r0 => kk (.one (.c (.v (.bool r0)))) []) → motive [.c (.ro .int list0)]) : motive vs := by
  unfold con_spec_distinct at h
  dsimp only at h
  split at h
  · exact H _ h
  · exact h.elim
theorem h_spec_distinct : Holds Try.prog 67 con_spec_distinct := by
  refine holds_of_ev (rt := [.c .sc]) (T := TT) (Γ := cs_spec_distinct) (an := an_spec_distinct) (N := 18) (c := Try.f67.body.getD .skip) Try.func67 (by kernel_rfl) Try.ntmps67 (by decide) (by decide) mixed tabOK cok_spec_distinct (by kernel_rfl) ?_
  intro vs kk _ hF
  exact i_spec_distinct (motive := fun vs => Goes (ev TT cs_spec_distinct 18 an_spec_distinct (Try.f67.body.getD .skip) (st0 con_spec_distinct vs) (fin TT con_spec_distinct Try.f67.results.toList [.c .sc] vs kk))) hF (fun list0 hF => goes_of (e_spec_distinct list0 kk) (F_spec_distinct_S hF))
def con_spec_validKeys : Con := ⟨[.rd, .rd], true, [.c (.sl .int), .c (.sc)], fun vs k => match vs with
    | [.c (.ro .int list0), .c (.v (.int .i64 room1))] => F_spec_validKeys list0 room1 (fun r0 => k (.one (.c (.v (.bool r0)))) [])
    | _ => False, false⟩
def cl_spec_validKeys : List (FuncId × Con) := [(42, con_spec_inRange), (67, con_spec_distinct), (68, con_spec_allIn)]
def an_spec_validKeys : Ann := ⟨[], [], []⟩
def cs_spec_validKeys : Cons := ⟨cl_spec_validKeys, [], 0, [], []⟩
def fin_spec_validKeys (list0 : List Int) (room1 : Int) (kk : AV → List A1 → Prop) : Kt := fin TT con_spec_validKeys Try.f41.results.toList [.c .sc] [.c (.ro .int list0), .c (.v (.int .i64 room1))] kk
theorem g_spec_validKeys (list0 : List Int) (room1 : Int) (kk : AV → List A1 → Prop) :
    ev TT cs_spec_validKeys 21 an_spec_validKeys (Try.f41.body.getD .skip) (st0 con_spec_validKeys [.c (.ro .int list0), .c (.v (.int .i64 room1))]) (fin TT con_spec_validKeys Try.f41.results.toList [.c .sc] [.c (.ro .int list0), .c (.v (.int .i64 room1))] kk) = G_spec_validKeys list0 room1 (fun r0 => kk (.one (.c (.v (.bool r0)))) []) := by kernel_rfl
theorem e_spec_validKeys (list0 : List Int) (room1 : Int) (kk : AV → List A1 → Prop) :
    ev TT cs_spec_validKeys 21 an_spec_validKeys (Try.f41.body.getD .skip) (st0 con_spec_validKeys [.c (.ro .int list0), .c (.v (.int .i64 room1))]) (fin TT con_spec_validKeys Try.f41.results.toList [.c .sc] [.c (.ro .int list0), .c (.v (.int .i64 room1))] kk) = S_spec_validKeys list0 room1 (fun r0 => kk (.one (.c (.v (.bool r0)))) []) := by
  rw [g_spec_validKeys]
  rfl
theorem clok_spec_validKeys : ConOK Try.prog cl_spec_validKeys := consCons h_spec_inRange ⟨Try.f42, Try.func42, by kernel_rfl, ne_of_beq (by kernel_rfl)⟩ (consCons h_spec_distinct ⟨Try.f67, Try.func67, by kernel_rfl, ne_of_beq (by kernel_rfl)⟩ (consCons h_spec_allIn ⟨Try.f68, Try.func68, by kernel_rfl, ne_of_beq (by kernel_rfl)⟩ (consNil)))
theorem cok_spec_validKeys : ConsOK Try.prog 21 cs_spec_validKeys := ⟨clok_spec_validKeys, inlNil⟩
theorem i_spec_validKeys {vs : List A1} {kk : AV → List A1 → Prop} {motive : List A1 → Prop} (h : con_spec_validKeys.F vs kk) (H : ∀ (list0 : List Int) (room1 : Int), F_spec_validKeys list0 room1 (fun r0 => kk (.one (.c (.v (.bool r0)))) []) → motive [.c (.ro .int list0), .c (.v (.int .i64 room1))]) : motive vs := by
  unfold con_spec_validKeys at h
  dsimp only at h
  split at h
  · exact H _ _ h
  · exact h.elim
theorem h_spec_validKeys : Holds Try.prog 41 con_spec_validKeys := by
  refine holds_of_ev (rt := [.c .sc]) (T := TT) (Γ := cs_spec_validKeys) (an := an_spec_validKeys) (N := 21) (c := Try.f41.body.getD .skip) Try.func41 (by kernel_rfl) Try.ntmps41 (by decide) (by decide) mixed tabOK cok_spec_validKeys (by kernel_rfl) ?_
  intro vs kk _ hF
  exact i_spec_validKeys (motive := fun vs => Goes (ev TT cs_spec_validKeys 21 an_spec_validKeys (Try.f41.body.getD .skip) (st0 con_spec_validKeys vs) (fin TT con_spec_validKeys Try.f41.results.toList [.c .sc] vs kk))) hF (fun list0 room1 hF => goes_of (e_spec_validKeys list0 room1 kk) (F_spec_validKeys_S hF))
def con_spec_validClock : Con := ⟨[.rd], true, [.agg [.sc, .sl .int, .sl .bool, .sc]], fun vs k => match vs with
    | [.agg [.v (.int .i64 c0Room), .ro .int c0Keys, .ro .bool c0Used, .v (.int .i64 c0Hand)]] => F_spec_validClock c0Room c0Keys c0Used c0Hand (fun r0 => k (.one (.c (.v (.bool r0)))) [])
    | _ => False, false⟩
def cl_spec_validClock : List (FuncId × Con) := [(41, con_spec_validKeys), (42, con_spec_inRange)]
def an_spec_validClock : Ann := ⟨[], [], []⟩
def cs_spec_validClock : Cons := ⟨cl_spec_validClock, [], 0, [], []⟩
def fin_spec_validClock (c0Room : Int) (c0Keys : List Int) (c0Used : List Bool) (c0Hand : Int) (kk : AV → List A1 → Prop) : Kt := fin TT con_spec_validClock Try.f55.results.toList [.c .sc] [.agg [.v (.int .i64 c0Room), .ro .int c0Keys, .ro .bool c0Used, .v (.int .i64 c0Hand)]] kk
theorem g_spec_validClock (c0Room : Int) (c0Keys : List Int) (c0Used : List Bool) (c0Hand : Int) (kk : AV → List A1 → Prop) :
    ev TT cs_spec_validClock 43 an_spec_validClock (Try.f55.body.getD .skip) (st0 con_spec_validClock [.agg [.v (.int .i64 c0Room), .ro .int c0Keys, .ro .bool c0Used, .v (.int .i64 c0Hand)]]) (fin TT con_spec_validClock Try.f55.results.toList [.c .sc] [.agg [.v (.int .i64 c0Room), .ro .int c0Keys, .ro .bool c0Used, .v (.int .i64 c0Hand)]] kk) = G_spec_validClock c0Room c0Keys c0Used c0Hand (fun r0 => kk (.one (.c (.v (.bool r0)))) []) := by kernel_rfl
theorem e_spec_validClock (c0Room : Int) (c0Keys : List Int) (c0Used : List Bool) (c0Hand : Int) (kk : AV → List A1 → Prop) :
    ev TT cs_spec_validClock 43 an_spec_validClock (Try.f55.body.getD .skip) (st0 con_spec_validClock [.agg [.v (.int .i64 c0Room), .ro .int c0Keys, .ro .bool c0Used, .v (.int .i64 c0Hand)]]) (fin TT con_spec_validClock Try.f55.results.toList [.c .sc] [.agg [.v (.int .i64 c0Room), .ro .int c0Keys, .ro .bool c0Used, .v (.int .i64 c0Hand)]] kk) = S_spec_validClock c0Room c0Keys c0Used c0Hand (fun r0 => kk (.one (.c (.v (.bool r0)))) []) := by
  rw [g_spec_validClock]
  rfl
theorem clok_spec_validClock : ConOK Try.prog cl_spec_validClock := consCons h_spec_validKeys ⟨Try.f41, Try.func41, by kernel_rfl, ne_of_beq (by kernel_rfl)⟩ (consCons h_spec_inRange ⟨Try.f42, Try.func42, by kernel_rfl, ne_of_beq (by kernel_rfl)⟩ (consNil))
theorem cok_spec_validClock : ConsOK Try.prog 43 cs_spec_validClock := ⟨clok_spec_validClock, inlNil⟩
theorem i_spec_validClock {vs : List A1} {kk : AV → List A1 → Prop} {motive : List A1 → Prop} (h : con_spec_validClock.F vs kk) (H : ∀ (c0Room : Int) (c0Keys : List Int) (c0Used : List Bool) (c0Hand : Int), F_spec_validClock c0Room c0Keys c0Used c0Hand (fun r0 => kk (.one (.c (.v (.bool r0)))) []) → motive [.agg [.v (.int .i64 c0Room), .ro .int c0Keys, .ro .bool c0Used, .v (.int .i64 c0Hand)]]) : motive vs := by
  unfold con_spec_validClock at h
  dsimp only at h
  split at h
  · exact H _ _ _ _ h
  · exact h.elim
theorem h_spec_validClock : Holds Try.prog 55 con_spec_validClock := by
  refine holds_of_ev (rt := [.c .sc]) (T := TT) (Γ := cs_spec_validClock) (an := an_spec_validClock) (N := 43) (c := Try.f55.body.getD .skip) Try.func55 (by kernel_rfl) Try.ntmps55 (by decide) (by decide) mixed tabOK cok_spec_validClock (by kernel_rfl) ?_
  intro vs kk _ hF
  exact i_spec_validClock (motive := fun vs => Goes (ev TT cs_spec_validClock 43 an_spec_validClock (Try.f55.body.getD .skip) (st0 con_spec_validClock vs) (fin TT con_spec_validClock Try.f55.results.toList [.c .sc] vs kk))) hF (fun c0Room c0Keys c0Used c0Hand hF => goes_of (e_spec_validClock c0Room c0Keys c0Used c0Hand kk) (F_spec_validClock_S hF))
def con_spec_copyInts : Con := ⟨[.rd], true, [.c (.sl .int)], fun vs k => match vs with
    | [.c (.ro .int list0)] => F_spec_copyInts list0 (fun r0 => k (.one (.c (.ro .int r0))) [])
    | _ => False, false⟩
def cl_spec_copyInts : List (FuncId × Con) := []
def an_spec_copyInts : Ann := ⟨[], [], []⟩
def cs_spec_copyInts : Cons := ⟨cl_spec_copyInts, [], 0, [], []⟩
def fin_spec_copyInts (list0 : List Int) (kk : AV → List A1 → Prop) : Kt := fin TT con_spec_copyInts Try.f40.results.toList [.c (.sl .int)] [.c (.ro .int list0)] kk
theorem g_spec_copyInts (list0 : List Int) (kk : AV → List A1 → Prop) :
    ev TT cs_spec_copyInts 6 an_spec_copyInts (Try.f40.body.getD .skip) (st0 con_spec_copyInts [.c (.ro .int list0)]) (fin TT con_spec_copyInts Try.f40.results.toList [.c (.sl .int)] [.c (.ro .int list0)] kk) = G_spec_copyInts list0 (fun r0 => kk (.one (.c (.ro .int r0))) []) := by kernel_rfl
theorem e_spec_copyInts (list0 : List Int) (kk : AV → List A1 → Prop) :
    ev TT cs_spec_copyInts 6 an_spec_copyInts (Try.f40.body.getD .skip) (st0 con_spec_copyInts [.c (.ro .int list0)]) (fin TT con_spec_copyInts Try.f40.results.toList [.c (.sl .int)] [.c (.ro .int list0)] kk) = S_spec_copyInts list0 (fun r0 => kk (.one (.c (.ro .int r0))) []) := by
  rw [g_spec_copyInts]
  rfl
theorem clok_spec_copyInts : ConOK Try.prog cl_spec_copyInts := consNil
theorem cok_spec_copyInts : ConsOK Try.prog 6 cs_spec_copyInts := ⟨clok_spec_copyInts, inlNil⟩
theorem i_spec_copyInts {vs : List A1} {kk : AV → List A1 → Prop} {motive : List A1 → Prop} (h : con_spec_copyInts.F vs kk) (H : ∀ (list0 : List Int), F_spec_copyInts list0 (fun r0 => kk (.one (.c (.ro .int r0))) []) → motive [.c (.ro .int list0)]) : motive vs := by
  unfold con_spec_copyInts at h
  dsimp only at h
  split at h
  · exact H _ h
  · exact h.elim
theorem h_spec_copyInts : Holds Try.prog 40 con_spec_copyInts := by
  refine holds_of_ev (rt := [.c (.sl .int)]) (T := TT) (Γ := cs_spec_copyInts) (an := an_spec_copyInts) (N := 6) (c := Try.f40.body.getD .skip) Try.func40 (by kernel_rfl) Try.ntmps40 (by decide) (by decide) mixed tabOK cok_spec_copyInts (by kernel_rfl) ?_
  intro vs kk _ hF
  exact i_spec_copyInts (motive := fun vs => Goes (ev TT cs_spec_copyInts 6 an_spec_copyInts (Try.f40.body.getD .skip) (st0 con_spec_copyInts vs) (fin TT con_spec_copyInts Try.f40.results.toList [.c (.sl .int)] vs kk))) hF (fun list0 hF => goes_of (e_spec_copyInts list0 kk) (F_spec_copyInts_S hF))
def con_spec_copyClock : Con := ⟨[.rd], true, [.agg [.sc, .sl .int, .sl .bool, .sc]], fun vs k => match vs with
    | [.agg [.v (.int .i64 c0Room), .ro .int c0Keys, .ro .bool c0Used, .v (.int .i64 c0Hand)]] => F_spec_copyClock c0Room c0Keys c0Used c0Hand (fun r0 r1 r2 r3 => k (.one (.agg [.v (.int .i64 r0), .ro .int r1, .ro .bool r2, .v (.int .i64 r3)])) [])
    | _ => False, false⟩
def cl_spec_copyClock : List (FuncId × Con) := [(40, con_spec_copyInts)]
def an_spec_copyClock : Ann := ⟨[(1, .take 0 (.take 1 (.take 2 (.take 3 (.take 6 (.take 7 (.take 9 (.take 10 (.alt 4 (.alt 5 (.alt 8 (.take 11 (.alt 12 (.done) (.none))) (.none)) (.none)) (.alt 5 (.alt 4 (.alt 8 (.take 11 (.alt 12 (.done) (.none))) (.none)) (.none)) (.none)))))))))), [16])], [], []⟩
def cs_spec_copyClock : Cons := ⟨cl_spec_copyClock, [], 0, [], []⟩
def fin_spec_copyClock (c0Room : Int) (c0Keys : List Int) (c0Used : List Bool) (c0Hand : Int) (kk : AV → List A1 → Prop) : Kt := fin TT con_spec_copyClock Try.f77.results.toList [.agg [.sc, .sl .int, .sl .bool, .sc]] [.agg [.v (.int .i64 c0Room), .ro .int c0Keys, .ro .bool c0Used, .v (.int .i64 c0Hand)]] kk
theorem g_spec_copyClock (c0Room : Int) (c0Keys : List Int) (c0Used : List Bool) (c0Hand : Int) (kk : AV → List A1 → Prop) :
    ev TT cs_spec_copyClock 15 an_spec_copyClock (Try.f77.body.getD .skip) (st0 con_spec_copyClock [.agg [.v (.int .i64 c0Room), .ro .int c0Keys, .ro .bool c0Used, .v (.int .i64 c0Hand)]]) (fin TT con_spec_copyClock Try.f77.results.toList [.agg [.sc, .sl .int, .sl .bool, .sc]] [.agg [.v (.int .i64 c0Room), .ro .int c0Keys, .ro .bool c0Used, .v (.int .i64 c0Hand)]] kk) = G_spec_copyClock c0Room c0Keys c0Used c0Hand (fun r0 r1 r2 r3 => kk (.one (.agg [.v (.int .i64 r0), .ro .int r1, .ro .bool r2, .v (.int .i64 r3)])) []) := by kernel_rfl
theorem e_spec_copyClock (c0Room : Int) (c0Keys : List Int) (c0Used : List Bool) (c0Hand : Int) (kk : AV → List A1 → Prop) :
    ev TT cs_spec_copyClock 15 an_spec_copyClock (Try.f77.body.getD .skip) (st0 con_spec_copyClock [.agg [.v (.int .i64 c0Room), .ro .int c0Keys, .ro .bool c0Used, .v (.int .i64 c0Hand)]]) (fin TT con_spec_copyClock Try.f77.results.toList [.agg [.sc, .sl .int, .sl .bool, .sc]] [.agg [.v (.int .i64 c0Room), .ro .int c0Keys, .ro .bool c0Used, .v (.int .i64 c0Hand)]] kk) = S_spec_copyClock c0Room c0Keys c0Used c0Hand (fun r0 r1 r2 r3 => kk (.one (.agg [.v (.int .i64 r0), .ro .int r1, .ro .bool r2, .v (.int .i64 r3)])) []) := by
  rw [g_spec_copyClock]
  rw [G_spec_copyClock_eq]
  rfl
theorem clok_spec_copyClock : ConOK Try.prog cl_spec_copyClock := consCons h_spec_copyInts ⟨Try.f40, Try.func40, by kernel_rfl, ne_of_beq (by kernel_rfl)⟩ (consNil)
theorem cok_spec_copyClock : ConsOK Try.prog 15 cs_spec_copyClock := ⟨clok_spec_copyClock, inlNil⟩
theorem i_spec_copyClock {vs : List A1} {kk : AV → List A1 → Prop} {motive : List A1 → Prop} (h : con_spec_copyClock.F vs kk) (H : ∀ (c0Room : Int) (c0Keys : List Int) (c0Used : List Bool) (c0Hand : Int), F_spec_copyClock c0Room c0Keys c0Used c0Hand (fun r0 r1 r2 r3 => kk (.one (.agg [.v (.int .i64 r0), .ro .int r1, .ro .bool r2, .v (.int .i64 r3)])) []) → motive [.agg [.v (.int .i64 c0Room), .ro .int c0Keys, .ro .bool c0Used, .v (.int .i64 c0Hand)]]) : motive vs := by
  unfold con_spec_copyClock at h
  dsimp only at h
  split at h
  · exact H _ _ _ _ h
  · exact h.elim
theorem h_spec_copyClock : Holds Try.prog 77 con_spec_copyClock := by
  refine holds_of_ev (rt := [.agg [.sc, .sl .int, .sl .bool, .sc]]) (T := TT) (Γ := cs_spec_copyClock) (an := an_spec_copyClock) (N := 15) (c := Try.f77.body.getD .skip) Try.func77 (by kernel_rfl) Try.ntmps77 (by decide) (by decide) mixed tabOK cok_spec_copyClock (by kernel_rfl) ?_
  intro vs kk _ hF
  exact i_spec_copyClock (motive := fun vs => Goes (ev TT cs_spec_copyClock 15 an_spec_copyClock (Try.f77.body.getD .skip) (st0 con_spec_copyClock vs) (fin TT con_spec_copyClock Try.f77.results.toList [.agg [.sc, .sl .int, .sl .bool, .sc]] vs kk))) hF (fun c0Room c0Keys c0Used c0Hand hF => goes_of (e_spec_copyClock c0Room c0Keys c0Used c0Hand kk) (F_spec_copyClock_S hF))
def con_spec_tick : Con := ⟨[.rd, .rd], true, [.agg [.sc, .sl .int, .sl .bool, .sc], .c (.sc)], fun vs k => match vs with
    | [.agg [.v (.int .i64 c0Room), .ro .int c0Keys, .ro .bool c0Used, .v (.int .i64 c0Hand)], .c (.v (.int .i64 key1))] => F_spec_tick c0Room c0Keys c0Used c0Hand key1 (fun r0 r1 r2 r3 r4 => k (.tup [.agg [.v (.int .i64 r0), .ro .int r1, .ro .bool r2, .v (.int .i64 r3)], .c (.v (.bool r4))]) [])
    | _ => False, false⟩
def cl_spec_tick : List (FuncId × Con) := [(40, con_spec_copyInts), (69, con_spec_placeOf), (77, con_spec_copyClock)]
def nm0_spec_tick : List NStep := [.keep [1, 4, 6] [64, 96, 144, 145]]
def an_spec_tick : Ann := ⟨[], [(10, nm0_spec_tick)], []⟩
def cs_spec_tick : Cons := ⟨cl_spec_tick, [], 0, [], []⟩
def can0_spec_tick (copyClock9Keys : List Int) (copyClock9Room : Int) (key1 : Int) (xb6c3 : Int) (xy9 : List Bool) : St := ⟨[(1, .one (.c (.v (.int .i64 key1)))), (4, .one (.c (.pb 64 0))), (6, .one (.c (.pb 96 0)))], [(64, .box [.v (.int .i64 0), .nil, .nil, .v (.int .i64 0)]), (96, .box [.v (.int .i64 copyClock9Room), .ow 144, .ow 145, .v (.int .i64 xb6c3)]), (144, .row .int copyClock9Keys), (145, .row .bool xy9)]⟩
def fin_spec_tick (c0Room : Int) (c0Keys : List Int) (c0Used : List Bool) (c0Hand : Int) (key1 : Int) (kk : AV → List A1 → Prop) : Kt := fin TT con_spec_tick Try.f58.results.toList [.agg [.sc, .sl .int, .sl .bool, .sc], .c .sc] [.agg [.v (.int .i64 c0Room), .ro .int c0Keys, .ro .bool c0Used, .v (.int .i64 c0Hand)], .c (.v (.int .i64 key1))] kk
def kt0_spec_tick (kf : Kt) : Kt := blockK 0 (seqK (evF TT cs_spec_tick 74 an_spec_tick Try.f58 [1, 1, 1, 1, 1, 1]) (kf))
theorem r0_spec_tick (c0Room : Int) (c0Keys : List Int) (c0Used : List Bool) (c0Hand : Int) (key1 : Int) (copyClock9Keys : List Int) (copyClock9Room : Int) (kk : AV → List A1 → Prop) (n : Nat) (xb6c3 : Int) (xy9 : List Bool) :
    iter (evF TT cs_spec_tick 74 an_spec_tick Try.f58 [1, 1, 1, 1, 1, 0, 0, 0]) nm0_spec_tick (kt0_spec_tick (fin_spec_tick c0Room c0Keys c0Used c0Hand key1 kk)) (n + 1) (can0_spec_tick copyClock9Keys copyClock9Room key1 xb6c3 xy9) = T0_spec_tick copyClock9Keys copyClock9Room key1 xb6c3 xy9 (fun r0 r1 r2 r3 r4 => kk (.tup [.agg [.v (.int .i64 r0), .ro .int r1, .ro .bool r2, .v (.int .i64 r3)], .c (.v (.bool r4))]) []) (fun xb6c3 xy9 => iter (evF TT cs_spec_tick 74 an_spec_tick Try.f58 [1, 1, 1, 1, 1, 0, 0, 0]) nm0_spec_tick (kt0_spec_tick (fin_spec_tick c0Room c0Keys c0Used c0Hand key1 kk)) n (can0_spec_tick copyClock9Keys copyClock9Room key1 xb6c3 xy9)) := by kernel_rfl
theorem l0_spec_tick (c0Room : Int) (c0Keys : List Int) (c0Used : List Bool) (c0Hand : Int) (key1 : Int) (copyClock9Keys : List Int) (copyClock9Room : Int) (kk : AV → List A1 → Prop) : ∀ (n : Nat) (xb6c3 : Int) (xy9 : List Bool), iter (evF TT cs_spec_tick 74 an_spec_tick Try.f58 [1, 1, 1, 1, 1, 0, 0, 0]) nm0_spec_tick (kt0_spec_tick (fin_spec_tick c0Room c0Keys c0Used c0Hand key1 kk)) n (can0_spec_tick copyClock9Keys copyClock9Room key1 xb6c3 xy9) = L0_spec_tick copyClock9Keys copyClock9Room key1 (fun r0 r1 r2 r3 r4 => kk (.tup [.agg [.v (.int .i64 r0), .ro .int r1, .ro .bool r2, .v (.int .i64 r3)], .c (.v (.bool r4))]) []) n xb6c3 xy9 := by
  intro n
  induction n with
  | zero => intros; rfl
  | succ n ih =>
    intro xb6c3 xy9
    rw [r0_spec_tick c0Room c0Keys c0Used c0Hand key1 copyClock9Keys copyClock9Room kk n xb6c3 xy9]
    have hb : (fun xb6c3 xy9 => iter (evF TT cs_spec_tick 74 an_spec_tick Try.f58 [1, 1, 1, 1, 1, 0, 0, 0]) nm0_spec_tick (kt0_spec_tick (fin_spec_tick c0Room c0Keys c0Used c0Hand key1 kk)) n (can0_spec_tick copyClock9Keys copyClock9Room key1 xb6c3 xy9)) = L0_spec_tick copyClock9Keys copyClock9Room key1 (fun r0 r1 r2 r3 r4 => kk (.tup [.agg [.v (.int .i64 r0), .ro .int r1, .ro .bool r2, .v (.int .i64 r3)], .c (.v (.bool r4))]) []) n := by
      funext xb6c3 xy9; exact ih xb6c3 xy9
    rw [hb]
    rfl
theorem g_spec_tick (c0Room : Int) (c0Keys : List Int) (c0Used : List Bool) (c0Hand : Int) (key1 : Int) (kk : AV → List A1 → Prop) :
    ev TT cs_spec_tick 74 an_spec_tick (Try.f58.body.getD .skip) (st0 con_spec_tick [.agg [.v (.int .i64 c0Room), .ro .int c0Keys, .ro .bool c0Used, .v (.int .i64 c0Hand)], .c (.v (.int .i64 key1))]) (fin TT con_spec_tick Try.f58.results.toList [.agg [.sc, .sl .int, .sl .bool, .sc], .c .sc] [.agg [.v (.int .i64 c0Room), .ro .int c0Keys, .ro .bool c0Used, .v (.int .i64 c0Hand)], .c (.v (.int .i64 key1))] kk) = G_spec_tick c0Room c0Keys c0Used c0Hand key1 (fun r0 r1 r2 r3 r4 => kk (.tup [.agg [.v (.int .i64 r0), .ro .int r1, .ro .bool r2, .v (.int .i64 r3)], .c (.v (.bool r4))]) []) (fun copyClock9Keys copyClock9Room key1 xb6c3 xy9 => ∃ j, iter (evF TT cs_spec_tick 74 an_spec_tick Try.f58 [1, 1, 1, 1, 1, 0, 0, 0]) nm0_spec_tick (kt0_spec_tick (fin_spec_tick c0Room c0Keys c0Used c0Hand key1 kk)) j (can0_spec_tick copyClock9Keys copyClock9Room key1 xb6c3 xy9)) := by kernel_rfl
theorem e_spec_tick (c0Room : Int) (c0Keys : List Int) (c0Used : List Bool) (c0Hand : Int) (key1 : Int) (kk : AV → List A1 → Prop) :
    ev TT cs_spec_tick 74 an_spec_tick (Try.f58.body.getD .skip) (st0 con_spec_tick [.agg [.v (.int .i64 c0Room), .ro .int c0Keys, .ro .bool c0Used, .v (.int .i64 c0Hand)], .c (.v (.int .i64 key1))]) (fin TT con_spec_tick Try.f58.results.toList [.agg [.sc, .sl .int, .sl .bool, .sc], .c .sc] [.agg [.v (.int .i64 c0Room), .ro .int c0Keys, .ro .bool c0Used, .v (.int .i64 c0Hand)], .c (.v (.int .i64 key1))] kk) = S_spec_tick c0Room c0Keys c0Used c0Hand key1 (fun r0 r1 r2 r3 r4 => kk (.tup [.agg [.v (.int .i64 r0), .ro .int r1, .ro .bool r2, .v (.int .i64 r3)], .c (.v (.bool r4))]) []) := by
  rw [g_spec_tick]
  have hi0 : (fun copyClock9Keys copyClock9Room key1 xb6c3 xy9 => ∃ j, iter (evF TT cs_spec_tick 74 an_spec_tick Try.f58 [1, 1, 1, 1, 1, 0, 0, 0]) nm0_spec_tick (kt0_spec_tick (fin_spec_tick c0Room c0Keys c0Used c0Hand key1 kk)) j (can0_spec_tick copyClock9Keys copyClock9Room key1 xb6c3 xy9)) = (fun copyClock9Keys copyClock9Room key1 xb6c3 xy9 => ∃ j, L0_spec_tick copyClock9Keys copyClock9Room key1 (fun r0 r1 r2 r3 r4 => kk (.tup [.agg [.v (.int .i64 r0), .ro .int r1, .ro .bool r2, .v (.int .i64 r3)], .c (.v (.bool r4))]) []) j xb6c3 xy9) := by
    funext copyClock9Keys copyClock9Room key1 xb6c3 xy9
    refine congrArg Exists (funext fun j => ?_)
    rw [l0_spec_tick c0Room c0Keys c0Used c0Hand key1 copyClock9Keys copyClock9Room kk j xb6c3 xy9]
  rw [hi0]
  rfl
theorem clok_spec_tick : ConOK Try.prog cl_spec_tick := consCons h_spec_copyInts ⟨Try.f40, Try.func40, by kernel_rfl, ne_of_beq (by kernel_rfl)⟩ (consCons h_spec_placeOf ⟨Try.f69, Try.func69, by kernel_rfl, ne_of_beq (by kernel_rfl)⟩ (consCons h_spec_copyClock ⟨Try.f77, Try.func77, by kernel_rfl, ne_of_beq (by kernel_rfl)⟩ (consNil)))
theorem cok_spec_tick : ConsOK Try.prog 74 cs_spec_tick := ⟨clok_spec_tick, inlNil⟩
theorem i_spec_tick {vs : List A1} {kk : AV → List A1 → Prop} {motive : List A1 → Prop} (h : con_spec_tick.F vs kk) (H : ∀ (c0Room : Int) (c0Keys : List Int) (c0Used : List Bool) (c0Hand : Int) (key1 : Int), F_spec_tick c0Room c0Keys c0Used c0Hand key1 (fun r0 r1 r2 r3 r4 => kk (.tup [.agg [.v (.int .i64 r0), .ro .int r1, .ro .bool r2, .v (.int .i64 r3)], .c (.v (.bool r4))]) []) → motive [.agg [.v (.int .i64 c0Room), .ro .int c0Keys, .ro .bool c0Used, .v (.int .i64 c0Hand)], .c (.v (.int .i64 key1))]) : motive vs := by
  unfold con_spec_tick at h
  dsimp only at h
  split at h
  · exact H _ _ _ _ _ h
  · exact h.elim
theorem h_spec_tick : Holds Try.prog 58 con_spec_tick := by
  refine holds_of_ev (rt := [.agg [.sc, .sl .int, .sl .bool, .sc], .c .sc]) (T := TT) (Γ := cs_spec_tick) (an := an_spec_tick) (N := 74) (c := Try.f58.body.getD .skip) Try.func58 (by kernel_rfl) Try.ntmps58 (by decide) (by decide) mixed tabOK cok_spec_tick (by kernel_rfl) ?_
  intro vs kk _ hF
  exact i_spec_tick (motive := fun vs => Goes (ev TT cs_spec_tick 74 an_spec_tick (Try.f58.body.getD .skip) (st0 con_spec_tick vs) (fin TT con_spec_tick Try.f58.results.toList [.agg [.sc, .sl .int, .sl .bool, .sc], .c .sc] vs kk))) hF (fun c0Room c0Keys c0Used c0Hand key1 hF => goes_of (e_spec_tick c0Room c0Keys c0Used c0Hand key1 kk) (F_spec_tick_S hF))
def con_spec_UseClock : Con := ⟨[.rd, .rd], true, [.agg [.sc, .sl .int, .sl .bool, .sc], .c (.sc)], fun vs k => match vs with
    | [.agg [.v (.int .i64 c0Room), .ro .int c0Keys, .ro .bool c0Used, .v (.int .i64 c0Hand)], .c (.v (.int .i64 key1))] => F_spec_UseClock c0Room c0Keys c0Used c0Hand key1 (fun r0 r1 r2 r3 r4 => k (.tup [.agg [.v (.int .i64 r0), .ro .int r1, .ro .bool r2, .v (.int .i64 r3)], .c (.v (.bool r4))]) [])
    | _ => False, false⟩
def cl_spec_UseClock : List (FuncId × Con) := [(42, con_spec_inRange), (55, con_spec_validClock), (58, con_spec_tick)]
def an_spec_UseClock : Ann := ⟨[], [], []⟩
def cs_spec_UseClock : Cons := ⟨cl_spec_UseClock, [], 0, [], []⟩
def fin_spec_UseClock (c0Room : Int) (c0Keys : List Int) (c0Used : List Bool) (c0Hand : Int) (key1 : Int) (kk : AV → List A1 → Prop) : Kt := fin TT con_spec_UseClock Try.f32.results.toList [.agg [.sc, .sl .int, .sl .bool, .sc], .c .sc] [.agg [.v (.int .i64 c0Room), .ro .int c0Keys, .ro .bool c0Used, .v (.int .i64 c0Hand)], .c (.v (.int .i64 key1))] kk
theorem g_spec_UseClock (c0Room : Int) (c0Keys : List Int) (c0Used : List Bool) (c0Hand : Int) (key1 : Int) (kk : AV → List A1 → Prop) :
    ev TT cs_spec_UseClock 20 an_spec_UseClock (Try.f32.body.getD .skip) (st0 con_spec_UseClock [.agg [.v (.int .i64 c0Room), .ro .int c0Keys, .ro .bool c0Used, .v (.int .i64 c0Hand)], .c (.v (.int .i64 key1))]) (fin TT con_spec_UseClock Try.f32.results.toList [.agg [.sc, .sl .int, .sl .bool, .sc], .c .sc] [.agg [.v (.int .i64 c0Room), .ro .int c0Keys, .ro .bool c0Used, .v (.int .i64 c0Hand)], .c (.v (.int .i64 key1))] kk) = G_spec_UseClock c0Room c0Keys c0Used c0Hand key1 (fun r0 r1 r2 r3 r4 => kk (.tup [.agg [.v (.int .i64 r0), .ro .int r1, .ro .bool r2, .v (.int .i64 r3)], .c (.v (.bool r4))]) []) := by kernel_rfl
theorem e_spec_UseClock (c0Room : Int) (c0Keys : List Int) (c0Used : List Bool) (c0Hand : Int) (key1 : Int) (kk : AV → List A1 → Prop) :
    ev TT cs_spec_UseClock 20 an_spec_UseClock (Try.f32.body.getD .skip) (st0 con_spec_UseClock [.agg [.v (.int .i64 c0Room), .ro .int c0Keys, .ro .bool c0Used, .v (.int .i64 c0Hand)], .c (.v (.int .i64 key1))]) (fin TT con_spec_UseClock Try.f32.results.toList [.agg [.sc, .sl .int, .sl .bool, .sc], .c .sc] [.agg [.v (.int .i64 c0Room), .ro .int c0Keys, .ro .bool c0Used, .v (.int .i64 c0Hand)], .c (.v (.int .i64 key1))] kk) = S_spec_UseClock c0Room c0Keys c0Used c0Hand key1 (fun r0 r1 r2 r3 r4 => kk (.tup [.agg [.v (.int .i64 r0), .ro .int r1, .ro .bool r2, .v (.int .i64 r3)], .c (.v (.bool r4))]) []) := by
  rw [g_spec_UseClock]
  rfl
theorem clok_spec_UseClock : ConOK Try.prog cl_spec_UseClock := consCons h_spec_inRange ⟨Try.f42, Try.func42, by kernel_rfl, ne_of_beq (by kernel_rfl)⟩ (consCons h_spec_validClock ⟨Try.f55, Try.func55, by kernel_rfl, ne_of_beq (by kernel_rfl)⟩ (consCons h_spec_tick ⟨Try.f58, Try.func58, by kernel_rfl, ne_of_beq (by kernel_rfl)⟩ (consNil)))
theorem cok_spec_UseClock : ConsOK Try.prog 20 cs_spec_UseClock := ⟨clok_spec_UseClock, inlNil⟩
theorem i_spec_UseClock {vs : List A1} {kk : AV → List A1 → Prop} {motive : List A1 → Prop} (h : con_spec_UseClock.F vs kk) (H : ∀ (c0Room : Int) (c0Keys : List Int) (c0Used : List Bool) (c0Hand : Int) (key1 : Int), F_spec_UseClock c0Room c0Keys c0Used c0Hand key1 (fun r0 r1 r2 r3 r4 => kk (.tup [.agg [.v (.int .i64 r0), .ro .int r1, .ro .bool r2, .v (.int .i64 r3)], .c (.v (.bool r4))]) []) → motive [.agg [.v (.int .i64 c0Room), .ro .int c0Keys, .ro .bool c0Used, .v (.int .i64 c0Hand)], .c (.v (.int .i64 key1))]) : motive vs := by
  unfold con_spec_UseClock at h
  dsimp only at h
  split at h
  · exact H _ _ _ _ _ h
  · exact h.elim
theorem h_spec_UseClock : Holds Try.prog 32 con_spec_UseClock := by
  refine holds_of_ev (rt := [.agg [.sc, .sl .int, .sl .bool, .sc], .c .sc]) (T := TT) (Γ := cs_spec_UseClock) (an := an_spec_UseClock) (N := 20) (c := Try.f32.body.getD .skip) Try.func32 (by kernel_rfl) Try.ntmps32 (by decide) (by decide) mixed tabOK cok_spec_UseClock (by kernel_rfl) ?_
  intro vs kk _ hF
  exact i_spec_UseClock (motive := fun vs => Goes (ev TT cs_spec_UseClock 20 an_spec_UseClock (Try.f32.body.getD .skip) (st0 con_spec_UseClock vs) (fin TT con_spec_UseClock Try.f32.results.toList [.agg [.sc, .sl .int, .sl .bool, .sc], .c .sc] vs kk))) hF (fun c0Room c0Keys c0Used c0Hand key1 hF => goes_of (e_spec_UseClock c0Room c0Keys c0Used c0Hand key1 kk) (F_spec_UseClock_S hF))
def con_impl_validRoom : Con := ⟨[.rd], true, [.c (.sc)], fun vs k => match vs with
    | [.c (.v (.int .i64 room0))] => F_impl_validRoom room0 (fun r0 => k (.one (.c (.v (.bool r0)))) [])
    | _ => False, false⟩
def cl_impl_validRoom : List (FuncId × Con) := []
def an_impl_validRoom : Ann := ⟨[], [], []⟩
def cs_impl_validRoom : Cons := ⟨cl_impl_validRoom, [], 0, [], []⟩
def fin_impl_validRoom (room0 : Int) (kk : AV → List A1 → Prop) : Kt := fin TT con_impl_validRoom Try.f71.results.toList [.c .sc] [.c (.v (.int .i64 room0))] kk
theorem g_impl_validRoom (room0 : Int) (kk : AV → List A1 → Prop) :
    ev TT cs_impl_validRoom 9 an_impl_validRoom (Try.f71.body.getD .skip) (st0 con_impl_validRoom [.c (.v (.int .i64 room0))]) (fin TT con_impl_validRoom Try.f71.results.toList [.c .sc] [.c (.v (.int .i64 room0))] kk) = G_impl_validRoom room0 (fun r0 => kk (.one (.c (.v (.bool r0)))) []) := by kernel_rfl
theorem e_impl_validRoom (room0 : Int) (kk : AV → List A1 → Prop) :
    ev TT cs_impl_validRoom 9 an_impl_validRoom (Try.f71.body.getD .skip) (st0 con_impl_validRoom [.c (.v (.int .i64 room0))]) (fin TT con_impl_validRoom Try.f71.results.toList [.c .sc] [.c (.v (.int .i64 room0))] kk) = S_impl_validRoom room0 (fun r0 => kk (.one (.c (.v (.bool r0)))) []) := by
  rw [g_impl_validRoom]
  rfl
theorem clok_impl_validRoom : ConOK Try.prog cl_impl_validRoom := consNil
theorem cok_impl_validRoom : ConsOK Try.prog 9 cs_impl_validRoom := ⟨clok_impl_validRoom, inlNil⟩
theorem i_impl_validRoom {vs : List A1} {kk : AV → List A1 → Prop} {motive : List A1 → Prop} (h : con_impl_validRoom.F vs kk) (H : ∀ (room0 : Int), F_impl_validRoom room0 (fun r0 => kk (.one (.c (.v (.bool r0)))) []) → motive [.c (.v (.int .i64 room0))]) : motive vs := by
  unfold con_impl_validRoom at h
  dsimp only at h
  split at h
  · exact H _ h
  · exact h.elim
theorem h_impl_validRoom : Holds Try.prog 71 con_impl_validRoom := by
  refine holds_of_ev (rt := [.c .sc]) (T := TT) (Γ := cs_impl_validRoom) (an := an_impl_validRoom) (N := 9) (c := Try.f71.body.getD .skip) Try.func71 (by kernel_rfl) Try.ntmps71 (by decide) (by decide) mixed tabOK cok_impl_validRoom (by kernel_rfl) ?_
  intro vs kk _ hF
  exact i_impl_validRoom (motive := fun vs => Goes (ev TT cs_impl_validRoom 9 an_impl_validRoom (Try.f71.body.getD .skip) (st0 con_impl_validRoom vs) (fin TT con_impl_validRoom Try.f71.results.toList [.c .sc] vs kk))) hF (fun room0 hF => goes_of (e_impl_validRoom room0 kk) (F_impl_validRoom_S hF))
def con_impl_validKey : Con := ⟨[.rd], true, [.c (.sc)], fun vs k => match vs with
    | [.c (.v (.int .i64 key0))] => F_impl_validKey key0 (fun r0 => k (.one (.c (.v (.bool r0)))) [])
    | _ => False, false⟩
def cl_impl_validKey : List (FuncId × Con) := []
def an_impl_validKey : Ann := ⟨[], [], []⟩
def cs_impl_validKey : Cons := ⟨cl_impl_validKey, [], 0, [], []⟩
def fin_impl_validKey (key0 : Int) (kk : AV → List A1 → Prop) : Kt := fin TT con_impl_validKey Try.f45.results.toList [.c .sc] [.c (.v (.int .i64 key0))] kk
theorem g_impl_validKey (key0 : Int) (kk : AV → List A1 → Prop) :
    ev TT cs_impl_validKey 9 an_impl_validKey (Try.f45.body.getD .skip) (st0 con_impl_validKey [.c (.v (.int .i64 key0))]) (fin TT con_impl_validKey Try.f45.results.toList [.c .sc] [.c (.v (.int .i64 key0))] kk) = G_impl_validKey key0 (fun r0 => kk (.one (.c (.v (.bool r0)))) []) := by kernel_rfl
theorem e_impl_validKey (key0 : Int) (kk : AV → List A1 → Prop) :
    ev TT cs_impl_validKey 9 an_impl_validKey (Try.f45.body.getD .skip) (st0 con_impl_validKey [.c (.v (.int .i64 key0))]) (fin TT con_impl_validKey Try.f45.results.toList [.c .sc] [.c (.v (.int .i64 key0))] kk) = S_impl_validKey key0 (fun r0 => kk (.one (.c (.v (.bool r0)))) []) := by
  rw [g_impl_validKey]
  rfl
theorem clok_impl_validKey : ConOK Try.prog cl_impl_validKey := consNil
theorem cok_impl_validKey : ConsOK Try.prog 9 cs_impl_validKey := ⟨clok_impl_validKey, inlNil⟩
theorem i_impl_validKey {vs : List A1} {kk : AV → List A1 → Prop} {motive : List A1 → Prop} (h : con_impl_validKey.F vs kk) (H : ∀ (key0 : Int), F_impl_validKey key0 (fun r0 => kk (.one (.c (.v (.bool r0)))) []) → motive [.c (.v (.int .i64 key0))]) : motive vs := by
  unfold con_impl_validKey at h
  dsimp only at h
  split at h
  · exact H _ h
  · exact h.elim
theorem h_impl_validKey : Holds Try.prog 45 con_impl_validKey := by
  refine holds_of_ev (rt := [.c .sc]) (T := TT) (Γ := cs_impl_validKey) (an := an_impl_validKey) (N := 9) (c := Try.f45.body.getD .skip) Try.func45 (by kernel_rfl) Try.ntmps45 (by decide) (by decide) mixed tabOK cok_impl_validKey (by kernel_rfl) ?_
  intro vs kk _ hF
  exact i_impl_validKey (motive := fun vs => Goes (ev TT cs_impl_validKey 9 an_impl_validKey (Try.f45.body.getD .skip) (st0 con_impl_validKey vs) (fin TT con_impl_validKey Try.f45.results.toList [.c .sc] vs kk))) hF (fun key0 hF => goes_of (e_impl_validKey key0 kk) (F_impl_validKey_S hF))
def con_slices_Index_sint_int : Con := ⟨[.rd, .rd], true, [.c (.sl .int), .c (.sc)], fun vs k => match vs with
    | [.c (.ro .int s0), .c (.v (.int .i64 v1))] => F_slices_Index_sint_int s0 v1 (fun r0 => k (.one (.c (.v (.int .i64 r0)))) [])
    | _ => False, false⟩
def cl_slices_Index_sint_int : List (FuncId × Con) := []
def nm0_slices_Index_sint_int : List NStep := [.keep [0, 1, 7, 8] []]
def an_slices_Index_sint_int : Ann := ⟨[], [(2, nm0_slices_Index_sint_int)], []⟩
def cs_slices_Index_sint_int : Cons := ⟨cl_slices_Index_sint_int, [], 0, [], []⟩
def can0_slices_Index_sint_int (s0 : List Int) (v1 : Int) (xt7 : Int) (xt8 : Int) : St := ⟨[(0, .one (.c (.ro .int s0))), (1, .one (.c (.v (.int .i64 v1)))), (7, .one (.c (.v (.int .i64 xt7)))), (8, .one (.c (.v (.int .i64 xt8))))], []⟩
def fin_slices_Index_sint_int (s0 : List Int) (v1 : Int) (kk : AV → List A1 → Prop) : Kt := fin TT con_slices_Index_sint_int Try.f59.results.toList [.c .sc] [.c (.ro .int s0), .c (.v (.int .i64 v1))] kk
def kt0_slices_Index_sint_int (kf : Kt) : Kt := blockK 0 (seqK (evF TT cs_slices_Index_sint_int 19 an_slices_Index_sint_int Try.f59 [1, 1]) (kf))
theorem r0_slices_Index_sint_int (s0 : List Int) (v1 : Int) (xt7 : Int) (kk : AV → List A1 → Prop) (n : Nat) (xt8 : Int) :
    iter (evF TT cs_slices_Index_sint_int 19 an_slices_Index_sint_int Try.f59 [1, 0, 1, 0, 0]) nm0_slices_Index_sint_int (kt0_slices_Index_sint_int (fin_slices_Index_sint_int s0 v1 kk)) (n + 1) (can0_slices_Index_sint_int s0 v1 xt7 xt8) = T0_slices_Index_sint_int s0 v1 xt7 xt8 (fun r0 => kk (.one (.c (.v (.int .i64 r0)))) []) (fun xt8 => iter (evF TT cs_slices_Index_sint_int 19 an_slices_Index_sint_int Try.f59 [1, 0, 1, 0, 0]) nm0_slices_Index_sint_int (kt0_slices_Index_sint_int (fin_slices_Index_sint_int s0 v1 kk)) n (can0_slices_Index_sint_int s0 v1 xt7 xt8)) := by kernel_rfl
theorem l0_slices_Index_sint_int (s0 : List Int) (v1 : Int) (xt7 : Int) (kk : AV → List A1 → Prop) : ∀ (n : Nat) (xt8 : Int), iter (evF TT cs_slices_Index_sint_int 19 an_slices_Index_sint_int Try.f59 [1, 0, 1, 0, 0]) nm0_slices_Index_sint_int (kt0_slices_Index_sint_int (fin_slices_Index_sint_int s0 v1 kk)) n (can0_slices_Index_sint_int s0 v1 xt7 xt8) = L0_slices_Index_sint_int s0 v1 xt7 (fun r0 => kk (.one (.c (.v (.int .i64 r0)))) []) n xt8 := by
  intro n
  induction n with
  | zero => intros; rfl
  | succ n ih =>
    intro xt8
    rw [r0_slices_Index_sint_int s0 v1 xt7 kk n xt8]
    have hb : (fun xt8 => iter (evF TT cs_slices_Index_sint_int 19 an_slices_Index_sint_int Try.f59 [1, 0, 1, 0, 0]) nm0_slices_Index_sint_int (kt0_slices_Index_sint_int (fin_slices_Index_sint_int s0 v1 kk)) n (can0_slices_Index_sint_int s0 v1 xt7 xt8)) = L0_slices_Index_sint_int s0 v1 xt7 (fun r0 => kk (.one (.c (.v (.int .i64 r0)))) []) n := by
      funext xt8; exact ih xt8
    rw [hb]
    rfl
theorem g_slices_Index_sint_int (s0 : List Int) (v1 : Int) (kk : AV → List A1 → Prop) :
    ev TT cs_slices_Index_sint_int 19 an_slices_Index_sint_int (Try.f59.body.getD .skip) (st0 con_slices_Index_sint_int [.c (.ro .int s0), .c (.v (.int .i64 v1))]) (fin TT con_slices_Index_sint_int Try.f59.results.toList [.c .sc] [.c (.ro .int s0), .c (.v (.int .i64 v1))] kk) = G_slices_Index_sint_int s0 v1 (fun s0 v1 xt7 xt8 => ∃ j, iter (evF TT cs_slices_Index_sint_int 19 an_slices_Index_sint_int Try.f59 [1, 0, 1, 0, 0]) nm0_slices_Index_sint_int (kt0_slices_Index_sint_int (fin_slices_Index_sint_int s0 v1 kk)) j (can0_slices_Index_sint_int s0 v1 xt7 xt8)) := by kernel_rfl
theorem e_slices_Index_sint_int (s0 : List Int) (v1 : Int) (kk : AV → List A1 → Prop) :
    ev TT cs_slices_Index_sint_int 19 an_slices_Index_sint_int (Try.f59.body.getD .skip) (st0 con_slices_Index_sint_int [.c (.ro .int s0), .c (.v (.int .i64 v1))]) (fin TT con_slices_Index_sint_int Try.f59.results.toList [.c .sc] [.c (.ro .int s0), .c (.v (.int .i64 v1))] kk) = S_slices_Index_sint_int s0 v1 (fun r0 => kk (.one (.c (.v (.int .i64 r0)))) []) := by
  rw [g_slices_Index_sint_int]
  have hi0 : (fun s0 v1 xt7 xt8 => ∃ j, iter (evF TT cs_slices_Index_sint_int 19 an_slices_Index_sint_int Try.f59 [1, 0, 1, 0, 0]) nm0_slices_Index_sint_int (kt0_slices_Index_sint_int (fin_slices_Index_sint_int s0 v1 kk)) j (can0_slices_Index_sint_int s0 v1 xt7 xt8)) = (fun s0 v1 xt7 xt8 => ∃ j, L0_slices_Index_sint_int s0 v1 xt7 (fun r0 => kk (.one (.c (.v (.int .i64 r0)))) []) j xt8) := by
    funext s0 v1 xt7 xt8
    refine congrArg Exists (funext fun j => ?_)
    rw [l0_slices_Index_sint_int s0 v1 xt7 kk j xt8]
  rw [hi0]
  rfl
theorem clok_slices_Index_sint_int : ConOK Try.prog cl_slices_Index_sint_int := consNil
theorem cok_slices_Index_sint_int : ConsOK Try.prog 19 cs_slices_Index_sint_int := ⟨clok_slices_Index_sint_int, inlNil⟩
theorem i_slices_Index_sint_int {vs : List A1} {kk : AV → List A1 → Prop} {motive : List A1 → Prop} (h : con_slices_Index_sint_int.F vs kk) (H : ∀ (s0 : List Int) (v1 : Int), F_slices_Index_sint_int s0 v1 (fun r0 => kk (.one (.c (.v (.int .i64 r0)))) []) → motive [.c (.ro .int s0), .c (.v (.int .i64 v1))]) : motive vs := by
  unfold con_slices_Index_sint_int at h
  dsimp only at h
  split at h
  · exact H _ _ h
  · exact h.elim
theorem h_slices_Index_sint_int : Holds Try.prog 59 con_slices_Index_sint_int := by
  refine holds_of_ev (rt := [.c .sc]) (T := TT) (Γ := cs_slices_Index_sint_int) (an := an_slices_Index_sint_int) (N := 19) (c := Try.f59.body.getD .skip) Try.func59 (by kernel_rfl) Try.ntmps59 (by decide) (by decide) mixed tabOK cok_slices_Index_sint_int (by kernel_rfl) ?_
  intro vs kk _ hF
  exact i_slices_Index_sint_int (motive := fun vs => Goes (ev TT cs_slices_Index_sint_int 19 an_slices_Index_sint_int (Try.f59.body.getD .skip) (st0 con_slices_Index_sint_int vs) (fin TT con_slices_Index_sint_int Try.f59.results.toList [.c .sc] vs kk))) hF (fun s0 v1 hF => goes_of (e_slices_Index_sint_int s0 v1 kk) (F_slices_Index_sint_int_S hF))
def con_slices_Contains_sint_int : Con := ⟨[.rd, .rd], true, [.c (.sl .int), .c (.sc)], fun vs k => match vs with
    | [.c (.ro .int s0), .c (.v (.int .i64 v1))] => F_slices_Contains_sint_int s0 v1 (fun r0 => k (.one (.c (.v (.bool r0)))) [])
    | _ => False, false⟩
def cl_slices_Contains_sint_int : List (FuncId × Con) := [(59, con_slices_Index_sint_int)]
def an_slices_Contains_sint_int : Ann := ⟨[], [], []⟩
def cs_slices_Contains_sint_int : Cons := ⟨cl_slices_Contains_sint_int, [], 0, [], []⟩
def fin_slices_Contains_sint_int (s0 : List Int) (v1 : Int) (kk : AV → List A1 → Prop) : Kt := fin TT con_slices_Contains_sint_int Try.f48.results.toList [.c .sc] [.c (.ro .int s0), .c (.v (.int .i64 v1))] kk
theorem g_slices_Contains_sint_int (s0 : List Int) (v1 : Int) (kk : AV → List A1 → Prop) :
    ev TT cs_slices_Contains_sint_int 9 an_slices_Contains_sint_int (Try.f48.body.getD .skip) (st0 con_slices_Contains_sint_int [.c (.ro .int s0), .c (.v (.int .i64 v1))]) (fin TT con_slices_Contains_sint_int Try.f48.results.toList [.c .sc] [.c (.ro .int s0), .c (.v (.int .i64 v1))] kk) = G_slices_Contains_sint_int s0 v1 (fun r0 => kk (.one (.c (.v (.bool r0)))) []) := by kernel_rfl
theorem e_slices_Contains_sint_int (s0 : List Int) (v1 : Int) (kk : AV → List A1 → Prop) :
    ev TT cs_slices_Contains_sint_int 9 an_slices_Contains_sint_int (Try.f48.body.getD .skip) (st0 con_slices_Contains_sint_int [.c (.ro .int s0), .c (.v (.int .i64 v1))]) (fin TT con_slices_Contains_sint_int Try.f48.results.toList [.c .sc] [.c (.ro .int s0), .c (.v (.int .i64 v1))] kk) = S_slices_Contains_sint_int s0 v1 (fun r0 => kk (.one (.c (.v (.bool r0)))) []) := by
  rw [g_slices_Contains_sint_int]
  rfl
theorem clok_slices_Contains_sint_int : ConOK Try.prog cl_slices_Contains_sint_int := consCons h_slices_Index_sint_int ⟨Try.f59, Try.func59, by kernel_rfl, ne_of_beq (by kernel_rfl)⟩ (consNil)
theorem cok_slices_Contains_sint_int : ConsOK Try.prog 9 cs_slices_Contains_sint_int := ⟨clok_slices_Contains_sint_int, inlNil⟩
theorem i_slices_Contains_sint_int {vs : List A1} {kk : AV → List A1 → Prop} {motive : List A1 → Prop} (h : con_slices_Contains_sint_int.F vs kk) (H : ∀ (s0 : List Int) (v1 : Int), F_slices_Contains_sint_int s0 v1 (fun r0 => kk (.one (.c (.v (.bool r0)))) []) → motive [.c (.ro .int s0), .c (.v (.int .i64 v1))]) : motive vs := by
  unfold con_slices_Contains_sint_int at h
  dsimp only at h
  split at h
  · exact H _ _ h
  · exact h.elim
theorem h_slices_Contains_sint_int : Holds Try.prog 48 con_slices_Contains_sint_int := by
  refine holds_of_ev (rt := [.c .sc]) (T := TT) (Γ := cs_slices_Contains_sint_int) (an := an_slices_Contains_sint_int) (N := 9) (c := Try.f48.body.getD .skip) Try.func48 (by kernel_rfl) Try.ntmps48 (by decide) (by decide) mixed tabOK cok_slices_Contains_sint_int (by kernel_rfl) ?_
  intro vs kk _ hF
  exact i_slices_Contains_sint_int (motive := fun vs => Goes (ev TT cs_slices_Contains_sint_int 9 an_slices_Contains_sint_int (Try.f48.body.getD .skip) (st0 con_slices_Contains_sint_int vs) (fin TT con_slices_Contains_sint_int Try.f48.results.toList [.c .sc] vs kk))) hF (fun s0 v1 hF => goes_of (e_slices_Contains_sint_int s0 v1 kk) (F_slices_Contains_sint_int_S hF))
def con_impl_differentKeys : Con := ⟨[.rd], true, [.c (.sl .int)], fun vs k => match vs with
    | [.c (.ro .int list0)] => F_impl_differentKeys list0 (fun r0 => k (.one (.c (.v (.bool r0)))) [])
    | _ => False, false⟩
def cl_impl_differentKeys : List (FuncId × Con) := [(45, con_impl_validKey), (48, con_slices_Contains_sint_int)]
def nm0_impl_differentKeys : List NStep := [.keep [0, 5, 6, 7] []]
def an_impl_differentKeys : Ann := ⟨[], [(2, nm0_impl_differentKeys)], []⟩
def cs_impl_differentKeys : Cons := ⟨cl_impl_differentKeys, [], 0, [], []⟩
def can0_impl_differentKeys (list0 : List Int) (xt6 : Int) (xt7 : Int) : St := ⟨[(0, .one (.c (.ro .int list0))), (5, .one (.c (.ro .int list0))), (6, .one (.c (.v (.int .i64 xt6)))), (7, .one (.c (.v (.int .i64 xt7))))], []⟩
def fin_impl_differentKeys (list0 : List Int) (kk : AV → List A1 → Prop) : Kt := fin TT con_impl_differentKeys Try.f72.results.toList [.c .sc] [.c (.ro .int list0)] kk
def kt0_impl_differentKeys (kf : Kt) : Kt := blockK 0 (seqK (evF TT cs_impl_differentKeys 23 an_impl_differentKeys Try.f72 [1, 1]) (kf))
theorem r0_impl_differentKeys (list0 : List Int) (xt6 : Int) (kk : AV → List A1 → Prop) (n : Nat) (xt7 : Int) :
    iter (evF TT cs_impl_differentKeys 23 an_impl_differentKeys Try.f72 [1, 0, 1, 0, 0]) nm0_impl_differentKeys (kt0_impl_differentKeys (fin_impl_differentKeys list0 kk)) (n + 1) (can0_impl_differentKeys list0 xt6 xt7) = T0_impl_differentKeys list0 xt6 xt7 (fun r0 => kk (.one (.c (.v (.bool r0)))) []) (fun xt7 => iter (evF TT cs_impl_differentKeys 23 an_impl_differentKeys Try.f72 [1, 0, 1, 0, 0]) nm0_impl_differentKeys (kt0_impl_differentKeys (fin_impl_differentKeys list0 kk)) n (can0_impl_differentKeys list0 xt6 xt7)) := by kernel_rfl
theorem l0_impl_differentKeys (list0 : List Int) (xt6 : Int) (kk : AV → List A1 → Prop) : ∀ (n : Nat) (xt7 : Int), iter (evF TT cs_impl_differentKeys 23 an_impl_differentKeys Try.f72 [1, 0, 1, 0, 0]) nm0_impl_differentKeys (kt0_impl_differentKeys (fin_impl_differentKeys list0 kk)) n (can0_impl_differentKeys list0 xt6 xt7) = L0_impl_differentKeys list0 xt6 (fun r0 => kk (.one (.c (.v (.bool r0)))) []) n xt7 := by
  intro n
  induction n with
  | zero => intros; rfl
  | succ n ih =>
    intro xt7
    rw [r0_impl_differentKeys list0 xt6 kk n xt7]
    have hb : (fun xt7 => iter (evF TT cs_impl_differentKeys 23 an_impl_differentKeys Try.f72 [1, 0, 1, 0, 0]) nm0_impl_differentKeys (kt0_impl_differentKeys (fin_impl_differentKeys list0 kk)) n (can0_impl_differentKeys list0 xt6 xt7)) = L0_impl_differentKeys list0 xt6 (fun r0 => kk (.one (.c (.v (.bool r0)))) []) n := by
      funext xt7; exact ih xt7
    rw [hb]
    rfl
theorem g_impl_differentKeys (list0 : List Int) (kk : AV → List A1 → Prop) :
    ev TT cs_impl_differentKeys 23 an_impl_differentKeys (Try.f72.body.getD .skip) (st0 con_impl_differentKeys [.c (.ro .int list0)]) (fin TT con_impl_differentKeys Try.f72.results.toList [.c .sc] [.c (.ro .int list0)] kk) = G_impl_differentKeys list0 (fun list0 xt6 xt7 => ∃ j, iter (evF TT cs_impl_differentKeys 23 an_impl_differentKeys Try.f72 [1, 0, 1, 0, 0]) nm0_impl_differentKeys (kt0_impl_differentKeys (fin_impl_differentKeys list0 kk)) j (can0_impl_differentKeys list0 xt6 xt7)) := by kernel_rfl
theorem e_impl_differentKeys (list0 : List Int) (kk : AV → List A1 → Prop) :
    ev TT cs_impl_differentKeys 23 an_impl_differentKeys (Try.f72.body.getD .skip) (st0 con_impl_differentKeys [.c (.ro .int list0)]) (fin TT con_impl_differentKeys Try.f72.results.toList [.c .sc] [.c (.ro .int list0)] kk) = S_impl_differentKeys list0 (fun r0 => kk (.one (.c (.v (.bool r0)))) []) := by
  rw [g_impl_differentKeys]
  have hi0 : (fun list0 xt6 xt7 => ∃ j, iter (evF TT cs_impl_differentKeys 23 an_impl_differentKeys Try.f72 [1, 0, 1, 0, 0]) nm0_impl_differentKeys (kt0_impl_differentKeys (fin_impl_differentKeys list0 kk)) j (can0_impl_differentKeys list0 xt6 xt7)) = (fun list0 xt6 xt7 => ∃ j, L0_impl_differentKeys list0 xt6 (fun r0 => kk (.one (.c (.v (.bool r0)))) []) j xt7) := by
    funext list0 xt6 xt7
    refine congrArg Exists (funext fun j => ?_)
    rw [l0_impl_differentKeys list0 xt6 kk j xt7]
  rw [hi0]
  rfl
theorem clok_impl_differentKeys : ConOK Try.prog cl_impl_differentKeys := consCons h_impl_validKey ⟨Try.f45, Try.func45, by kernel_rfl, ne_of_beq (by kernel_rfl)⟩ (consCons h_slices_Contains_sint_int ⟨Try.f48, Try.func48, by kernel_rfl, ne_of_beq (by kernel_rfl)⟩ (consNil))
theorem cok_impl_differentKeys : ConsOK Try.prog 23 cs_impl_differentKeys := ⟨clok_impl_differentKeys, inlNil⟩
theorem i_impl_differentKeys {vs : List A1} {kk : AV → List A1 → Prop} {motive : List A1 → Prop} (h : con_impl_differentKeys.F vs kk) (H : ∀ (list0 : List Int), F_impl_differentKeys list0 (fun r0 => kk (.one (.c (.v (.bool r0)))) []) → motive [.c (.ro .int list0)]) : motive vs := by
  unfold con_impl_differentKeys at h
  dsimp only at h
  split at h
  · exact H _ h
  · exact h.elim
theorem h_impl_differentKeys : Holds Try.prog 72 con_impl_differentKeys := by
  refine holds_of_ev (rt := [.c .sc]) (T := TT) (Γ := cs_impl_differentKeys) (an := an_impl_differentKeys) (N := 23) (c := Try.f72.body.getD .skip) Try.func72 (by kernel_rfl) Try.ntmps72 (by decide) (by decide) mixed tabOK cok_impl_differentKeys (by kernel_rfl) ?_
  intro vs kk _ hF
  exact i_impl_differentKeys (motive := fun vs => Goes (ev TT cs_impl_differentKeys 23 an_impl_differentKeys (Try.f72.body.getD .skip) (st0 con_impl_differentKeys vs) (fin TT con_impl_differentKeys Try.f72.results.toList [.c .sc] vs kk))) hF (fun list0 hF => goes_of (e_impl_differentKeys list0 kk) (F_impl_differentKeys_S hF))
def con_impl_ValidKeys : Con := ⟨[.rd, .rd], true, [.c (.sl .int), .c (.sc)], fun vs k => match vs with
    | [.c (.ro .int list0), .c (.v (.int .i64 room1))] => F_impl_ValidKeys list0 room1 (fun r0 => k (.one (.c (.v (.bool r0)))) [])
    | _ => False, false⟩
def cl_impl_ValidKeys : List (FuncId × Con) := [(71, con_impl_validRoom), (72, con_impl_differentKeys)]
def an_impl_ValidKeys : Ann := ⟨[], [], []⟩
def cs_impl_ValidKeys : Cons := ⟨cl_impl_ValidKeys, [], 0, [], []⟩
def fin_impl_ValidKeys (list0 : List Int) (room1 : Int) (kk : AV → List A1 → Prop) : Kt := fin TT con_impl_ValidKeys Try.f44.results.toList [.c .sc] [.c (.ro .int list0), .c (.v (.int .i64 room1))] kk
theorem g_impl_ValidKeys (list0 : List Int) (room1 : Int) (kk : AV → List A1 → Prop) :
    ev TT cs_impl_ValidKeys 17 an_impl_ValidKeys (Try.f44.body.getD .skip) (st0 con_impl_ValidKeys [.c (.ro .int list0), .c (.v (.int .i64 room1))]) (fin TT con_impl_ValidKeys Try.f44.results.toList [.c .sc] [.c (.ro .int list0), .c (.v (.int .i64 room1))] kk) = G_impl_ValidKeys list0 room1 (fun r0 => kk (.one (.c (.v (.bool r0)))) []) := by kernel_rfl
theorem e_impl_ValidKeys (list0 : List Int) (room1 : Int) (kk : AV → List A1 → Prop) :
    ev TT cs_impl_ValidKeys 17 an_impl_ValidKeys (Try.f44.body.getD .skip) (st0 con_impl_ValidKeys [.c (.ro .int list0), .c (.v (.int .i64 room1))]) (fin TT con_impl_ValidKeys Try.f44.results.toList [.c .sc] [.c (.ro .int list0), .c (.v (.int .i64 room1))] kk) = S_impl_ValidKeys list0 room1 (fun r0 => kk (.one (.c (.v (.bool r0)))) []) := by
  rw [g_impl_ValidKeys]
  rfl
theorem clok_impl_ValidKeys : ConOK Try.prog cl_impl_ValidKeys := consCons h_impl_validRoom ⟨Try.f71, Try.func71, by kernel_rfl, ne_of_beq (by kernel_rfl)⟩ (consCons h_impl_differentKeys ⟨Try.f72, Try.func72, by kernel_rfl, ne_of_beq (by kernel_rfl)⟩ (consNil))
theorem cok_impl_ValidKeys : ConsOK Try.prog 17 cs_impl_ValidKeys := ⟨clok_impl_ValidKeys, inlNil⟩
theorem i_impl_ValidKeys {vs : List A1} {kk : AV → List A1 → Prop} {motive : List A1 → Prop} (h : con_impl_ValidKeys.F vs kk) (H : ∀ (list0 : List Int) (room1 : Int), F_impl_ValidKeys list0 room1 (fun r0 => kk (.one (.c (.v (.bool r0)))) []) → motive [.c (.ro .int list0), .c (.v (.int .i64 room1))]) : motive vs := by
  unfold con_impl_ValidKeys at h
  dsimp only at h
  split at h
  · exact H _ _ h
  · exact h.elim
theorem h_impl_ValidKeys : Holds Try.prog 44 con_impl_ValidKeys := by
  refine holds_of_ev (rt := [.c .sc]) (T := TT) (Γ := cs_impl_ValidKeys) (an := an_impl_ValidKeys) (N := 17) (c := Try.f44.body.getD .skip) Try.func44 (by kernel_rfl) Try.ntmps44 (by decide) (by decide) mixed tabOK cok_impl_ValidKeys (by kernel_rfl) ?_
  intro vs kk _ hF
  exact i_impl_ValidKeys (motive := fun vs => Goes (ev TT cs_impl_ValidKeys 17 an_impl_ValidKeys (Try.f44.body.getD .skip) (st0 con_impl_ValidKeys vs) (fin TT con_impl_ValidKeys Try.f44.results.toList [.c .sc] vs kk))) hF (fun list0 room1 hF => goes_of (e_impl_ValidKeys list0 room1 kk) (F_impl_ValidKeys_S hF))
def con_impl_ValidClock : Con := ⟨[.rd], true, [.agg [.sc, .sl .int, .sl .bool, .sc]], fun vs k => match vs with
    | [.agg [.v (.int .i64 c0Room), .ro .int c0Keys, .ro .bool c0Used, .v (.int .i64 c0Hand)]] => F_impl_ValidClock c0Room c0Keys c0Used c0Hand (fun r0 => k (.one (.c (.v (.bool r0)))) [])
    | _ => False, false⟩
def cl_impl_ValidClock : List (FuncId × Con) := [(44, con_impl_ValidKeys)]
def an_impl_ValidClock : Ann := ⟨[], [], []⟩
def cs_impl_ValidClock : Cons := ⟨cl_impl_ValidClock, [], 0, [], []⟩
def fin_impl_ValidClock (c0Room : Int) (c0Keys : List Int) (c0Used : List Bool) (c0Hand : Int) (kk : AV → List A1 → Prop) : Kt := fin TT con_impl_ValidClock Try.f30.results.toList [.c .sc] [.agg [.v (.int .i64 c0Room), .ro .int c0Keys, .ro .bool c0Used, .v (.int .i64 c0Hand)]] kk
theorem g_impl_ValidClock (c0Room : Int) (c0Keys : List Int) (c0Used : List Bool) (c0Hand : Int) (kk : AV → List A1 → Prop) :
    ev TT cs_impl_ValidClock 38 an_impl_ValidClock (Try.f30.body.getD .skip) (st0 con_impl_ValidClock [.agg [.v (.int .i64 c0Room), .ro .int c0Keys, .ro .bool c0Used, .v (.int .i64 c0Hand)]]) (fin TT con_impl_ValidClock Try.f30.results.toList [.c .sc] [.agg [.v (.int .i64 c0Room), .ro .int c0Keys, .ro .bool c0Used, .v (.int .i64 c0Hand)]] kk) = G_impl_ValidClock c0Room c0Keys c0Used c0Hand (fun r0 => kk (.one (.c (.v (.bool r0)))) []) := by kernel_rfl
theorem e_impl_ValidClock (c0Room : Int) (c0Keys : List Int) (c0Used : List Bool) (c0Hand : Int) (kk : AV → List A1 → Prop) :
    ev TT cs_impl_ValidClock 38 an_impl_ValidClock (Try.f30.body.getD .skip) (st0 con_impl_ValidClock [.agg [.v (.int .i64 c0Room), .ro .int c0Keys, .ro .bool c0Used, .v (.int .i64 c0Hand)]]) (fin TT con_impl_ValidClock Try.f30.results.toList [.c .sc] [.agg [.v (.int .i64 c0Room), .ro .int c0Keys, .ro .bool c0Used, .v (.int .i64 c0Hand)]] kk) = S_impl_ValidClock c0Room c0Keys c0Used c0Hand (fun r0 => kk (.one (.c (.v (.bool r0)))) []) := by
  rw [g_impl_ValidClock]
  rfl
theorem clok_impl_ValidClock : ConOK Try.prog cl_impl_ValidClock := consCons h_impl_ValidKeys ⟨Try.f44, Try.func44, by kernel_rfl, ne_of_beq (by kernel_rfl)⟩ (consNil)
theorem cok_impl_ValidClock : ConsOK Try.prog 38 cs_impl_ValidClock := ⟨clok_impl_ValidClock, inlNil⟩
theorem i_impl_ValidClock {vs : List A1} {kk : AV → List A1 → Prop} {motive : List A1 → Prop} (h : con_impl_ValidClock.F vs kk) (H : ∀ (c0Room : Int) (c0Keys : List Int) (c0Used : List Bool) (c0Hand : Int), F_impl_ValidClock c0Room c0Keys c0Used c0Hand (fun r0 => kk (.one (.c (.v (.bool r0)))) []) → motive [.agg [.v (.int .i64 c0Room), .ro .int c0Keys, .ro .bool c0Used, .v (.int .i64 c0Hand)]]) : motive vs := by
  unfold con_impl_ValidClock at h
  dsimp only at h
  split at h
  · exact H _ _ _ _ h
  · exact h.elim
theorem h_impl_ValidClock : Holds Try.prog 30 con_impl_ValidClock := by
  refine holds_of_ev (rt := [.c .sc]) (T := TT) (Γ := cs_impl_ValidClock) (an := an_impl_ValidClock) (N := 38) (c := Try.f30.body.getD .skip) Try.func30 (by kernel_rfl) Try.ntmps30 (by decide) (by decide) mixed tabOK cok_impl_ValidClock (by kernel_rfl) ?_
  intro vs kk _ hF
  exact i_impl_ValidClock (motive := fun vs => Goes (ev TT cs_impl_ValidClock 38 an_impl_ValidClock (Try.f30.body.getD .skip) (st0 con_impl_ValidClock vs) (fin TT con_impl_ValidClock Try.f30.results.toList [.c .sc] vs kk))) hF (fun c0Room c0Keys c0Used c0Hand hF => goes_of (e_impl_ValidClock c0Room c0Keys c0Used c0Hand kk) (F_impl_ValidClock_S hF))
def con_impl_nextPlace : Con := ⟨[.rd], true, [.agg [.sc, .sl .int, .sl .bool, .sc]], fun vs k => match vs with
    | [.agg [.v (.int .i64 c0Room), .ro .int c0Keys, .ro .bool c0Used, .v (.int .i64 c0Hand)]] => F_impl_nextPlace c0Room c0Keys c0Used c0Hand (fun r0 => k (.one (.c (.v (.int .i64 r0)))) [])
    | _ => False, false⟩
def cl_impl_nextPlace : List (FuncId × Con) := []
def an_impl_nextPlace : Ann := ⟨[], [], []⟩
def cs_impl_nextPlace : Cons := ⟨cl_impl_nextPlace, [], 0, [], []⟩
def fin_impl_nextPlace (c0Room : Int) (c0Keys : List Int) (c0Used : List Bool) (c0Hand : Int) (kk : AV → List A1 → Prop) : Kt := fin TT con_impl_nextPlace Try.f60.results.toList [.c .sc] [.agg [.v (.int .i64 c0Room), .ro .int c0Keys, .ro .bool c0Used, .v (.int .i64 c0Hand)]] kk
theorem g_impl_nextPlace (c0Room : Int) (c0Keys : List Int) (c0Used : List Bool) (c0Hand : Int) (kk : AV → List A1 → Prop) :
    ev TT cs_impl_nextPlace 10 an_impl_nextPlace (Try.f60.body.getD .skip) (st0 con_impl_nextPlace [.agg [.v (.int .i64 c0Room), .ro .int c0Keys, .ro .bool c0Used, .v (.int .i64 c0Hand)]]) (fin TT con_impl_nextPlace Try.f60.results.toList [.c .sc] [.agg [.v (.int .i64 c0Room), .ro .int c0Keys, .ro .bool c0Used, .v (.int .i64 c0Hand)]] kk) = G_impl_nextPlace c0Room c0Keys c0Used c0Hand (fun r0 => kk (.one (.c (.v (.int .i64 r0)))) []) := by kernel_rfl
theorem e_impl_nextPlace (c0Room : Int) (c0Keys : List Int) (c0Used : List Bool) (c0Hand : Int) (kk : AV → List A1 → Prop) :
    ev TT cs_impl_nextPlace 10 an_impl_nextPlace (Try.f60.body.getD .skip) (st0 con_impl_nextPlace [.agg [.v (.int .i64 c0Room), .ro .int c0Keys, .ro .bool c0Used, .v (.int .i64 c0Hand)]]) (fin TT con_impl_nextPlace Try.f60.results.toList [.c .sc] [.agg [.v (.int .i64 c0Room), .ro .int c0Keys, .ro .bool c0Used, .v (.int .i64 c0Hand)]] kk) = S_impl_nextPlace c0Room c0Keys c0Used c0Hand (fun r0 => kk (.one (.c (.v (.int .i64 r0)))) []) := by
  rw [g_impl_nextPlace]
  rfl
theorem clok_impl_nextPlace : ConOK Try.prog cl_impl_nextPlace := consNil
theorem cok_impl_nextPlace : ConsOK Try.prog 10 cs_impl_nextPlace := ⟨clok_impl_nextPlace, inlNil⟩
theorem i_impl_nextPlace {vs : List A1} {kk : AV → List A1 → Prop} {motive : List A1 → Prop} (h : con_impl_nextPlace.F vs kk) (H : ∀ (c0Room : Int) (c0Keys : List Int) (c0Used : List Bool) (c0Hand : Int), F_impl_nextPlace c0Room c0Keys c0Used c0Hand (fun r0 => kk (.one (.c (.v (.int .i64 r0)))) []) → motive [.agg [.v (.int .i64 c0Room), .ro .int c0Keys, .ro .bool c0Used, .v (.int .i64 c0Hand)]]) : motive vs := by
  unfold con_impl_nextPlace at h
  dsimp only at h
  split at h
  · exact H _ _ _ _ h
  · exact h.elim
theorem h_impl_nextPlace : Holds Try.prog 60 con_impl_nextPlace := by
  refine holds_of_ev (rt := [.c .sc]) (T := TT) (Γ := cs_impl_nextPlace) (an := an_impl_nextPlace) (N := 10) (c := Try.f60.body.getD .skip) Try.func60 (by kernel_rfl) Try.ntmps60 (by decide) (by decide) mixed tabOK cok_impl_nextPlace (by kernel_rfl) ?_
  intro vs kk _ hF
  exact i_impl_nextPlace (motive := fun vs => Goes (ev TT cs_impl_nextPlace 10 an_impl_nextPlace (Try.f60.body.getD .skip) (st0 con_impl_nextPlace vs) (fin TT con_impl_nextPlace Try.f60.results.toList [.c .sc] vs kk))) hF (fun c0Room c0Keys c0Used c0Hand hF => goes_of (e_impl_nextPlace c0Room c0Keys c0Used c0Hand kk) (F_impl_nextPlace_S hF))
def con_impl_UseClock : Con := ⟨[.rd, .rd], true, [.agg [.sc, .sl .int, .sl .bool, .sc], .c (.sc)], fun vs k => match vs with
    | [.agg [.v (.int .i64 c0Room), .ro .int c0Keys, .ro .bool c0Used, .v (.int .i64 c0Hand)], .c (.v (.int .i64 key1))] => F_impl_UseClock c0Room c0Keys c0Used c0Hand key1 (fun r0 r1 r2 r3 r4 => k (.tup [.agg [.v (.int .i64 r0), .ro .int r1, .ro .bool r2, .v (.int .i64 r3)], .c (.v (.bool r4))]) [])
    | _ => False, false⟩
def cl_impl_UseClock : List (FuncId × Con) := [(30, con_impl_ValidClock), (45, con_impl_validKey), (59, con_slices_Index_sint_int), (60, con_impl_nextPlace)]
def nm0_impl_UseClock : List NStep := [.keep [1, 4, 6] [64, 96, 352, 416]]
def an_impl_UseClock : Ann := ⟨[(3, .take 0 (.take 1 (.take 3 (.take 4 (.take 7 (.take 8 (.take 10 (.take 11 (.alt 2 (.alt 5 (.alt 6 (.alt 9 (.take 12 (.alt 13 (.alt 14 (.done) (.none)) (.none))) (.alt 13 (.alt 9 (.take 12 (.alt 14 (.done) (.none))) (.none)) (.none))) (.alt 13 (.alt 6 (.alt 9 (.take 12 (.alt 14 (.done) (.none))) (.none)) (.none)) (.none))) (.alt 6 (.alt 5 (.alt 9 (.take 12 (.alt 13 (.alt 14 (.done) (.none)) (.none))) (.alt 13 (.alt 9 (.take 12 (.alt 14 (.done) (.none))) (.none)) (.none))) (.alt 13 (.alt 5 (.alt 9 (.take 12 (.alt 14 (.done) (.none))) (.none)) (.none)) (.none))) (.alt 13 (.alt 5 (.alt 6 (.alt 9 (.take 12 (.alt 14 (.done) (.none))) (.none)) (.none)) (.alt 6 (.alt 5 (.alt 9 (.take 12 (.alt 14 (.done) (.none))) (.none)) (.none)) (.none))) (.none)))) (.alt 6 (.alt 2 (.alt 5 (.alt 9 (.take 12 (.alt 13 (.alt 14 (.done) (.none)) (.none))) (.alt 13 (.alt 9 (.take 12 (.alt 14 (.done) (.none))) (.none)) (.none))) (.alt 13 (.alt 5 (.alt 9 (.take 12 (.alt 14 (.done) (.none))) (.none)) (.none)) (.none))) (.alt 13 (.alt 2 (.alt 5 (.alt 9 (.take 12 (.alt 14 (.done) (.none))) (.none)) (.none)) (.none)) (.none))) (.alt 13 (.alt 2 (.alt 5 (.alt 6 (.alt 9 (.take 12 (.alt 14 (.done) (.none))) (.none)) (.none)) (.alt 6 (.alt 5 (.alt 9 (.take 12 (.alt 14 (.done) (.none))) (.none)) (.none)) (.none))) (.alt 6 (.alt 2 (.alt 5 (.alt 9 (.take 12 (.alt 14 (.done) (.none))) (.none)) (.none)) (.none)) (.none))) (.none))))))))))), [32])], [(12, nm0_impl_UseClock)], []⟩
def cs_impl_UseClock : Cons := ⟨cl_impl_UseClock, [], 0, [], []⟩
def can0_impl_UseClock (c0Keys : List Int) (c0Room : Int) (key1 : Int) (xb6c3 : Int) (xy26 : List Bool) : St := ⟨[(1, .one (.c (.v (.int .i64 key1)))), (4, .one (.c (.pb 64 0))), (6, .one (.c (.pb 96 0)))], [(64, .box [.v (.int .i64 0), .nil, .nil, .v (.int .i64 0)]), (96, .box [.v (.int .i64 c0Room), .ow 352, .ow 416, .v (.int .i64 xb6c3)]), (352, .row .int c0Keys), (416, .row .bool xy26)]⟩
def fin_impl_UseClock (c0Room : Int) (c0Keys : List Int) (c0Used : List Bool) (c0Hand : Int) (key1 : Int) (kk : AV → List A1 → Prop) : Kt := fin TT con_impl_UseClock Try.f33.results.toList [.agg [.sc, .sl .int, .sl .bool, .sc], .c .sc] [.agg [.v (.int .i64 c0Room), .ro .int c0Keys, .ro .bool c0Used, .v (.int .i64 c0Hand)], .c (.v (.int .i64 key1))] kk
def kt0_impl_UseClock (kf : Kt) : Kt := blockK 0 (seqK (evF TT cs_impl_UseClock 83 an_impl_UseClock Try.f33 [1, 1, 1, 1, 1, 1]) (kf))
theorem r0_impl_UseClock (c0Room : Int) (c0Keys : List Int) (c0Used : List Bool) (c0Hand : Int) (key1 : Int) (kk : AV → List A1 → Prop) (n : Nat) (xb6c3 : Int) (xy26 : List Bool) :
    iter (evF TT cs_impl_UseClock 83 an_impl_UseClock Try.f33 [1, 1, 1, 1, 1, 0, 0, 0]) nm0_impl_UseClock (kt0_impl_UseClock (fin_impl_UseClock c0Room c0Keys c0Used c0Hand key1 kk)) (n + 1) (can0_impl_UseClock c0Keys c0Room key1 xb6c3 xy26) = T0_impl_UseClock c0Keys c0Room key1 xb6c3 xy26 (fun r0 r1 r2 r3 r4 => kk (.tup [.agg [.v (.int .i64 r0), .ro .int r1, .ro .bool r2, .v (.int .i64 r3)], .c (.v (.bool r4))]) []) (fun xb6c3 xy26 => iter (evF TT cs_impl_UseClock 83 an_impl_UseClock Try.f33 [1, 1, 1, 1, 1, 0, 0, 0]) nm0_impl_UseClock (kt0_impl_UseClock (fin_impl_UseClock c0Room c0Keys c0Used c0Hand key1 kk)) n (can0_impl_UseClock c0Keys c0Room key1 xb6c3 xy26)) := by kernel_rfl
theorem l0_impl_UseClock (c0Room : Int) (c0Keys : List Int) (c0Used : List Bool) (c0Hand : Int) (key1 : Int) (kk : AV → List A1 → Prop) : ∀ (n : Nat) (xb6c3 : Int) (xy26 : List Bool), iter (evF TT cs_impl_UseClock 83 an_impl_UseClock Try.f33 [1, 1, 1, 1, 1, 0, 0, 0]) nm0_impl_UseClock (kt0_impl_UseClock (fin_impl_UseClock c0Room c0Keys c0Used c0Hand key1 kk)) n (can0_impl_UseClock c0Keys c0Room key1 xb6c3 xy26) = L0_impl_UseClock c0Keys c0Room key1 (fun r0 r1 r2 r3 r4 => kk (.tup [.agg [.v (.int .i64 r0), .ro .int r1, .ro .bool r2, .v (.int .i64 r3)], .c (.v (.bool r4))]) []) n xb6c3 xy26 := by
  intro n
  induction n with
  | zero => intros; rfl
  | succ n ih =>
    intro xb6c3 xy26
    rw [r0_impl_UseClock c0Room c0Keys c0Used c0Hand key1 kk n xb6c3 xy26]
    have hb : (fun xb6c3 xy26 => iter (evF TT cs_impl_UseClock 83 an_impl_UseClock Try.f33 [1, 1, 1, 1, 1, 0, 0, 0]) nm0_impl_UseClock (kt0_impl_UseClock (fin_impl_UseClock c0Room c0Keys c0Used c0Hand key1 kk)) n (can0_impl_UseClock c0Keys c0Room key1 xb6c3 xy26)) = L0_impl_UseClock c0Keys c0Room key1 (fun r0 r1 r2 r3 r4 => kk (.tup [.agg [.v (.int .i64 r0), .ro .int r1, .ro .bool r2, .v (.int .i64 r3)], .c (.v (.bool r4))]) []) n := by
      funext xb6c3 xy26; exact ih xb6c3 xy26
    rw [hb]
    rfl
theorem g_impl_UseClock (c0Room : Int) (c0Keys : List Int) (c0Used : List Bool) (c0Hand : Int) (key1 : Int) (kk : AV → List A1 → Prop) :
    ev TT cs_impl_UseClock 83 an_impl_UseClock (Try.f33.body.getD .skip) (st0 con_impl_UseClock [.agg [.v (.int .i64 c0Room), .ro .int c0Keys, .ro .bool c0Used, .v (.int .i64 c0Hand)], .c (.v (.int .i64 key1))]) (fin TT con_impl_UseClock Try.f33.results.toList [.agg [.sc, .sl .int, .sl .bool, .sc], .c .sc] [.agg [.v (.int .i64 c0Room), .ro .int c0Keys, .ro .bool c0Used, .v (.int .i64 c0Hand)], .c (.v (.int .i64 key1))] kk) = G_impl_UseClock c0Room c0Keys c0Used c0Hand key1 (fun r0 r1 r2 r3 r4 => kk (.tup [.agg [.v (.int .i64 r0), .ro .int r1, .ro .bool r2, .v (.int .i64 r3)], .c (.v (.bool r4))]) []) (fun c0Keys c0Room key1 xb6c3 xy26 => ∃ j, iter (evF TT cs_impl_UseClock 83 an_impl_UseClock Try.f33 [1, 1, 1, 1, 1, 0, 0, 0]) nm0_impl_UseClock (kt0_impl_UseClock (fin_impl_UseClock c0Room c0Keys c0Used c0Hand key1 kk)) j (can0_impl_UseClock c0Keys c0Room key1 xb6c3 xy26)) := by kernel_rfl
theorem e_impl_UseClock (c0Room : Int) (c0Keys : List Int) (c0Used : List Bool) (c0Hand : Int) (key1 : Int) (kk : AV → List A1 → Prop) :
    ev TT cs_impl_UseClock 83 an_impl_UseClock (Try.f33.body.getD .skip) (st0 con_impl_UseClock [.agg [.v (.int .i64 c0Room), .ro .int c0Keys, .ro .bool c0Used, .v (.int .i64 c0Hand)], .c (.v (.int .i64 key1))]) (fin TT con_impl_UseClock Try.f33.results.toList [.agg [.sc, .sl .int, .sl .bool, .sc], .c .sc] [.agg [.v (.int .i64 c0Room), .ro .int c0Keys, .ro .bool c0Used, .v (.int .i64 c0Hand)], .c (.v (.int .i64 key1))] kk) = S_impl_UseClock c0Room c0Keys c0Used c0Hand key1 (fun r0 r1 r2 r3 r4 => kk (.tup [.agg [.v (.int .i64 r0), .ro .int r1, .ro .bool r2, .v (.int .i64 r3)], .c (.v (.bool r4))]) []) := by
  rw [g_impl_UseClock]
  have hi0 : (fun c0Keys c0Room key1 xb6c3 xy26 => ∃ j, iter (evF TT cs_impl_UseClock 83 an_impl_UseClock Try.f33 [1, 1, 1, 1, 1, 0, 0, 0]) nm0_impl_UseClock (kt0_impl_UseClock (fin_impl_UseClock c0Room c0Keys c0Used c0Hand key1 kk)) j (can0_impl_UseClock c0Keys c0Room key1 xb6c3 xy26)) = (fun c0Keys c0Room key1 xb6c3 xy26 => ∃ j, L0_impl_UseClock c0Keys c0Room key1 (fun r0 r1 r2 r3 r4 => kk (.tup [.agg [.v (.int .i64 r0), .ro .int r1, .ro .bool r2, .v (.int .i64 r3)], .c (.v (.bool r4))]) []) j xb6c3 xy26) := by
    funext c0Keys c0Room key1 xb6c3 xy26
    refine congrArg Exists (funext fun j => ?_)
    rw [l0_impl_UseClock c0Room c0Keys c0Used c0Hand key1 kk j xb6c3 xy26]
  rw [hi0]
  rw [G_impl_UseClock_eq]
  rfl
theorem clok_impl_UseClock : ConOK Try.prog cl_impl_UseClock := consCons h_impl_ValidClock ⟨Try.f30, Try.func30, by kernel_rfl, ne_of_beq (by kernel_rfl)⟩ (consCons h_impl_validKey ⟨Try.f45, Try.func45, by kernel_rfl, ne_of_beq (by kernel_rfl)⟩ (consCons h_slices_Index_sint_int ⟨Try.f59, Try.func59, by kernel_rfl, ne_of_beq (by kernel_rfl)⟩ (consCons h_impl_nextPlace ⟨Try.f60, Try.func60, by kernel_rfl, ne_of_beq (by kernel_rfl)⟩ (consNil))))
theorem cok_impl_UseClock : ConsOK Try.prog 83 cs_impl_UseClock := ⟨clok_impl_UseClock, inlNil⟩
theorem i_impl_UseClock {vs : List A1} {kk : AV → List A1 → Prop} {motive : List A1 → Prop} (h : con_impl_UseClock.F vs kk) (H : ∀ (c0Room : Int) (c0Keys : List Int) (c0Used : List Bool) (c0Hand : Int) (key1 : Int), F_impl_UseClock c0Room c0Keys c0Used c0Hand key1 (fun r0 r1 r2 r3 r4 => kk (.tup [.agg [.v (.int .i64 r0), .ro .int r1, .ro .bool r2, .v (.int .i64 r3)], .c (.v (.bool r4))]) []) → motive [.agg [.v (.int .i64 c0Room), .ro .int c0Keys, .ro .bool c0Used, .v (.int .i64 c0Hand)], .c (.v (.int .i64 key1))]) : motive vs := by
  unfold con_impl_UseClock at h
  dsimp only at h
  split at h
  · exact H _ _ _ _ _ h
  · exact h.elim
theorem h_impl_UseClock : Holds Try.prog 33 con_impl_UseClock := by
  refine holds_of_ev (rt := [.agg [.sc, .sl .int, .sl .bool, .sc], .c .sc]) (T := TT) (Γ := cs_impl_UseClock) (an := an_impl_UseClock) (N := 83) (c := Try.f33.body.getD .skip) Try.func33 (by kernel_rfl) Try.ntmps33 (by decide) (by decide) mixed tabOK cok_impl_UseClock (by kernel_rfl) ?_
  intro vs kk _ hF
  exact i_impl_UseClock (motive := fun vs => Goes (ev TT cs_impl_UseClock 83 an_impl_UseClock (Try.f33.body.getD .skip) (st0 con_impl_UseClock vs) (fin TT con_impl_UseClock Try.f33.results.toList [.agg [.sc, .sl .int, .sl .bool, .sc], .c .sc] vs kk))) hF (fun c0Room c0Keys c0Used c0Hand key1 hF => goes_of (e_impl_UseClock c0Room c0Keys c0Used c0Hand key1 kk) (F_impl_UseClock_S hF))
def con_laws_eqIntS : Con := ⟨[.rd, .rd], true, [.c (.sl .int), .c (.sl .int)], fun vs k => match vs with
    | [.c (.ro .int a0), .c (.ro .int b1)] => F_laws_eqIntS a0 b1 (fun r0 => k (.one (.c (.v (.bool r0)))) [])
    | _ => False, false⟩
def cl_laws_eqIntS : List (FuncId × Con) := []
def nm0_laws_eqIntS : List NStep := [.keep [0, 1, 5] []]
def an_laws_eqIntS : Ann := ⟨[(6, .take 0 (.take 1 (.take 2 (.take 3 (.take 4 (.take 5 (.take 6 (.take 7 (.take 8 (.done))))))))), [])], [(4, nm0_laws_eqIntS)], []⟩
def cs_laws_eqIntS : Cons := ⟨cl_laws_eqIntS, [], 0, [], []⟩
def can0_laws_eqIntS (a0 : List Int) (b1 : List Int) (xi5 : Int) : St := ⟨[(0, .one (.c (.ro .int a0))), (1, .one (.c (.ro .int b1))), (5, .one (.c (.v (.int .i64 xi5))))], []⟩
def fin_laws_eqIntS (a0 : List Int) (b1 : List Int) (kk : AV → List A1 → Prop) : Kt := fin TT con_laws_eqIntS Try.f18.results.toList [.c .sc] [.c (.ro .int a0), .c (.ro .int b1)] kk
def kt0_laws_eqIntS (kf : Kt) : Kt := blockK 0 (seqK (evF TT cs_laws_eqIntS 26 an_laws_eqIntS Try.f18 [1, 1, 1]) (kf))
theorem r0_laws_eqIntS (a0 : List Int) (b1 : List Int) (kk : AV → List A1 → Prop) (n : Nat) (xi5 : Int) :
    iter (evF TT cs_laws_eqIntS 26 an_laws_eqIntS Try.f18 [1, 1, 0, 1, 0, 0]) nm0_laws_eqIntS (kt0_laws_eqIntS (fin_laws_eqIntS a0 b1 kk)) (n + 1) (can0_laws_eqIntS a0 b1 xi5) = T0_laws_eqIntS a0 b1 xi5 (fun r0 => kk (.one (.c (.v (.bool r0)))) []) (fun xi5 => iter (evF TT cs_laws_eqIntS 26 an_laws_eqIntS Try.f18 [1, 1, 0, 1, 0, 0]) nm0_laws_eqIntS (kt0_laws_eqIntS (fin_laws_eqIntS a0 b1 kk)) n (can0_laws_eqIntS a0 b1 xi5)) := by kernel_rfl
theorem l0_laws_eqIntS (a0 : List Int) (b1 : List Int) (kk : AV → List A1 → Prop) : ∀ (n : Nat) (xi5 : Int), iter (evF TT cs_laws_eqIntS 26 an_laws_eqIntS Try.f18 [1, 1, 0, 1, 0, 0]) nm0_laws_eqIntS (kt0_laws_eqIntS (fin_laws_eqIntS a0 b1 kk)) n (can0_laws_eqIntS a0 b1 xi5) = L0_laws_eqIntS a0 b1 (fun r0 => kk (.one (.c (.v (.bool r0)))) []) n xi5 := by
  intro n
  induction n with
  | zero => intros; rfl
  | succ n ih =>
    intro xi5
    rw [r0_laws_eqIntS a0 b1 kk n xi5]
    have hb : (fun xi5 => iter (evF TT cs_laws_eqIntS 26 an_laws_eqIntS Try.f18 [1, 1, 0, 1, 0, 0]) nm0_laws_eqIntS (kt0_laws_eqIntS (fin_laws_eqIntS a0 b1 kk)) n (can0_laws_eqIntS a0 b1 xi5)) = L0_laws_eqIntS a0 b1 (fun r0 => kk (.one (.c (.v (.bool r0)))) []) n := by
      funext xi5; exact ih xi5
    rw [hb]
    rfl
theorem g_laws_eqIntS (a0 : List Int) (b1 : List Int) (kk : AV → List A1 → Prop) :
    ev TT cs_laws_eqIntS 26 an_laws_eqIntS (Try.f18.body.getD .skip) (st0 con_laws_eqIntS [.c (.ro .int a0), .c (.ro .int b1)]) (fin TT con_laws_eqIntS Try.f18.results.toList [.c .sc] [.c (.ro .int a0), .c (.ro .int b1)] kk) = G_laws_eqIntS a0 b1 (fun r0 => kk (.one (.c (.v (.bool r0)))) []) (fun a0 b1 xi5 => ∃ j, iter (evF TT cs_laws_eqIntS 26 an_laws_eqIntS Try.f18 [1, 1, 0, 1, 0, 0]) nm0_laws_eqIntS (kt0_laws_eqIntS (fin_laws_eqIntS a0 b1 kk)) j (can0_laws_eqIntS a0 b1 xi5)) := by kernel_rfl
theorem e_laws_eqIntS (a0 : List Int) (b1 : List Int) (kk : AV → List A1 → Prop) :
    ev TT cs_laws_eqIntS 26 an_laws_eqIntS (Try.f18.body.getD .skip) (st0 con_laws_eqIntS [.c (.ro .int a0), .c (.ro .int b1)]) (fin TT con_laws_eqIntS Try.f18.results.toList [.c .sc] [.c (.ro .int a0), .c (.ro .int b1)] kk) = S_laws_eqIntS a0 b1 (fun r0 => kk (.one (.c (.v (.bool r0)))) []) := by
  rw [g_laws_eqIntS]
  have hi0 : (fun a0 b1 xi5 => ∃ j, iter (evF TT cs_laws_eqIntS 26 an_laws_eqIntS Try.f18 [1, 1, 0, 1, 0, 0]) nm0_laws_eqIntS (kt0_laws_eqIntS (fin_laws_eqIntS a0 b1 kk)) j (can0_laws_eqIntS a0 b1 xi5)) = (fun a0 b1 xi5 => ∃ j, L0_laws_eqIntS a0 b1 (fun r0 => kk (.one (.c (.v (.bool r0)))) []) j xi5) := by
    funext a0 b1 xi5
    refine congrArg Exists (funext fun j => ?_)
    rw [l0_laws_eqIntS a0 b1 kk j xi5]
  rw [hi0]
  rfl
theorem clok_laws_eqIntS : ConOK Try.prog cl_laws_eqIntS := consNil
theorem cok_laws_eqIntS : ConsOK Try.prog 26 cs_laws_eqIntS := ⟨clok_laws_eqIntS, inlNil⟩
theorem i_laws_eqIntS {vs : List A1} {kk : AV → List A1 → Prop} {motive : List A1 → Prop} (h : con_laws_eqIntS.F vs kk) (H : ∀ (a0 : List Int) (b1 : List Int), F_laws_eqIntS a0 b1 (fun r0 => kk (.one (.c (.v (.bool r0)))) []) → motive [.c (.ro .int a0), .c (.ro .int b1)]) : motive vs := by
  unfold con_laws_eqIntS at h
  dsimp only at h
  split at h
  · exact H _ _ h
  · exact h.elim
theorem h_laws_eqIntS : Holds Try.prog 18 con_laws_eqIntS := by
  refine holds_of_ev (rt := [.c .sc]) (T := TT) (Γ := cs_laws_eqIntS) (an := an_laws_eqIntS) (N := 26) (c := Try.f18.body.getD .skip) Try.func18 (by kernel_rfl) Try.ntmps18 (by decide) (by decide) mixed tabOK cok_laws_eqIntS (by kernel_rfl) ?_
  intro vs kk _ hF
  exact i_laws_eqIntS (motive := fun vs => Goes (ev TT cs_laws_eqIntS 26 an_laws_eqIntS (Try.f18.body.getD .skip) (st0 con_laws_eqIntS vs) (fin TT con_laws_eqIntS Try.f18.results.toList [.c .sc] vs kk))) hF (fun a0 b1 hF => goes_of (e_laws_eqIntS a0 b1 kk) (F_laws_eqIntS_S hF))
def con_laws_eqBoolS : Con := ⟨[.rd, .rd], true, [.c (.sl .bool), .c (.sl .bool)], fun vs k => match vs with
    | [.c (.ro .bool a0), .c (.ro .bool b1)] => F_laws_eqBoolS a0 b1 (fun r0 => k (.one (.c (.v (.bool r0)))) [])
    | _ => False, false⟩
def cl_laws_eqBoolS : List (FuncId × Con) := []
def nm0_laws_eqBoolS : List NStep := [.keep [0, 1, 5] []]
def an_laws_eqBoolS : Ann := ⟨[(6, .take 0 (.take 1 (.take 2 (.take 3 (.take 4 (.take 5 (.take 6 (.take 7 (.take 8 (.done))))))))), [])], [(4, nm0_laws_eqBoolS)], []⟩
def cs_laws_eqBoolS : Cons := ⟨cl_laws_eqBoolS, [], 0, [], []⟩
def can0_laws_eqBoolS (a0 : List Bool) (b1 : List Bool) (xi5 : Int) : St := ⟨[(0, .one (.c (.ro .bool a0))), (1, .one (.c (.ro .bool b1))), (5, .one (.c (.v (.int .i64 xi5))))], []⟩
def fin_laws_eqBoolS (a0 : List Bool) (b1 : List Bool) (kk : AV → List A1 → Prop) : Kt := fin TT con_laws_eqBoolS Try.f57.results.toList [.c .sc] [.c (.ro .bool a0), .c (.ro .bool b1)] kk
def kt0_laws_eqBoolS (kf : Kt) : Kt := blockK 0 (seqK (evF TT cs_laws_eqBoolS 26 an_laws_eqBoolS Try.f57 [1, 1, 1]) (kf))
theorem r0_laws_eqBoolS (a0 : List Bool) (b1 : List Bool) (kk : AV → List A1 → Prop) (n : Nat) (xi5 : Int) :
    iter (evF TT cs_laws_eqBoolS 26 an_laws_eqBoolS Try.f57 [1, 1, 0, 1, 0, 0]) nm0_laws_eqBoolS (kt0_laws_eqBoolS (fin_laws_eqBoolS a0 b1 kk)) (n + 1) (can0_laws_eqBoolS a0 b1 xi5) = T0_laws_eqBoolS a0 b1 xi5 (fun r0 => kk (.one (.c (.v (.bool r0)))) []) (fun xi5 => iter (evF TT cs_laws_eqBoolS 26 an_laws_eqBoolS Try.f57 [1, 1, 0, 1, 0, 0]) nm0_laws_eqBoolS (kt0_laws_eqBoolS (fin_laws_eqBoolS a0 b1 kk)) n (can0_laws_eqBoolS a0 b1 xi5)) := by kernel_rfl
theorem l0_laws_eqBoolS (a0 : List Bool) (b1 : List Bool) (kk : AV → List A1 → Prop) : ∀ (n : Nat) (xi5 : Int), iter (evF TT cs_laws_eqBoolS 26 an_laws_eqBoolS Try.f57 [1, 1, 0, 1, 0, 0]) nm0_laws_eqBoolS (kt0_laws_eqBoolS (fin_laws_eqBoolS a0 b1 kk)) n (can0_laws_eqBoolS a0 b1 xi5) = L0_laws_eqBoolS a0 b1 (fun r0 => kk (.one (.c (.v (.bool r0)))) []) n xi5 := by
  intro n
  induction n with
  | zero => intros; rfl
  | succ n ih =>
    intro xi5
    rw [r0_laws_eqBoolS a0 b1 kk n xi5]
    have hb : (fun xi5 => iter (evF TT cs_laws_eqBoolS 26 an_laws_eqBoolS Try.f57 [1, 1, 0, 1, 0, 0]) nm0_laws_eqBoolS (kt0_laws_eqBoolS (fin_laws_eqBoolS a0 b1 kk)) n (can0_laws_eqBoolS a0 b1 xi5)) = L0_laws_eqBoolS a0 b1 (fun r0 => kk (.one (.c (.v (.bool r0)))) []) n := by
      funext xi5; exact ih xi5
    rw [hb]
    rfl
theorem g_laws_eqBoolS (a0 : List Bool) (b1 : List Bool) (kk : AV → List A1 → Prop) :
    ev TT cs_laws_eqBoolS 26 an_laws_eqBoolS (Try.f57.body.getD .skip) (st0 con_laws_eqBoolS [.c (.ro .bool a0), .c (.ro .bool b1)]) (fin TT con_laws_eqBoolS Try.f57.results.toList [.c .sc] [.c (.ro .bool a0), .c (.ro .bool b1)] kk) = G_laws_eqBoolS a0 b1 (fun r0 => kk (.one (.c (.v (.bool r0)))) []) (fun a0 b1 xi5 => ∃ j, iter (evF TT cs_laws_eqBoolS 26 an_laws_eqBoolS Try.f57 [1, 1, 0, 1, 0, 0]) nm0_laws_eqBoolS (kt0_laws_eqBoolS (fin_laws_eqBoolS a0 b1 kk)) j (can0_laws_eqBoolS a0 b1 xi5)) := by kernel_rfl
theorem e_laws_eqBoolS (a0 : List Bool) (b1 : List Bool) (kk : AV → List A1 → Prop) :
    ev TT cs_laws_eqBoolS 26 an_laws_eqBoolS (Try.f57.body.getD .skip) (st0 con_laws_eqBoolS [.c (.ro .bool a0), .c (.ro .bool b1)]) (fin TT con_laws_eqBoolS Try.f57.results.toList [.c .sc] [.c (.ro .bool a0), .c (.ro .bool b1)] kk) = S_laws_eqBoolS a0 b1 (fun r0 => kk (.one (.c (.v (.bool r0)))) []) := by
  rw [g_laws_eqBoolS]
  have hi0 : (fun a0 b1 xi5 => ∃ j, iter (evF TT cs_laws_eqBoolS 26 an_laws_eqBoolS Try.f57 [1, 1, 0, 1, 0, 0]) nm0_laws_eqBoolS (kt0_laws_eqBoolS (fin_laws_eqBoolS a0 b1 kk)) j (can0_laws_eqBoolS a0 b1 xi5)) = (fun a0 b1 xi5 => ∃ j, L0_laws_eqBoolS a0 b1 (fun r0 => kk (.one (.c (.v (.bool r0)))) []) j xi5) := by
    funext a0 b1 xi5
    refine congrArg Exists (funext fun j => ?_)
    rw [l0_laws_eqBoolS a0 b1 kk j xi5]
  rw [hi0]
  rfl
theorem clok_laws_eqBoolS : ConOK Try.prog cl_laws_eqBoolS := consNil
theorem cok_laws_eqBoolS : ConsOK Try.prog 26 cs_laws_eqBoolS := ⟨clok_laws_eqBoolS, inlNil⟩
theorem i_laws_eqBoolS {vs : List A1} {kk : AV → List A1 → Prop} {motive : List A1 → Prop} (h : con_laws_eqBoolS.F vs kk) (H : ∀ (a0 : List Bool) (b1 : List Bool), F_laws_eqBoolS a0 b1 (fun r0 => kk (.one (.c (.v (.bool r0)))) []) → motive [.c (.ro .bool a0), .c (.ro .bool b1)]) : motive vs := by
  unfold con_laws_eqBoolS at h
  dsimp only at h
  split at h
  · exact H _ _ h
  · exact h.elim
theorem h_laws_eqBoolS : Holds Try.prog 57 con_laws_eqBoolS := by
  refine holds_of_ev (rt := [.c .sc]) (T := TT) (Γ := cs_laws_eqBoolS) (an := an_laws_eqBoolS) (N := 26) (c := Try.f57.body.getD .skip) Try.func57 (by kernel_rfl) Try.ntmps57 (by decide) (by decide) mixed tabOK cok_laws_eqBoolS (by kernel_rfl) ?_
  intro vs kk _ hF
  exact i_laws_eqBoolS (motive := fun vs => Goes (ev TT cs_laws_eqBoolS 26 an_laws_eqBoolS (Try.f57.body.getD .skip) (st0 con_laws_eqBoolS vs) (fin TT con_laws_eqBoolS Try.f57.results.toList [.c .sc] vs kk))) hF (fun a0 b1 hF => goes_of (e_laws_eqBoolS a0 b1 kk) (F_laws_eqBoolS_S hF))
def con_laws_eqClock : Con := ⟨[.rd, .rd], true, [.agg [.sc, .sl .int, .sl .bool, .sc], .agg [.sc, .sl .int, .sl .bool, .sc]], fun vs k => match vs with
    | [.agg [.v (.int .i64 a0Room), .ro .int a0Keys, .ro .bool a0Used, .v (.int .i64 a0Hand)], .agg [.v (.int .i64 b1Room), .ro .int b1Keys, .ro .bool b1Used, .v (.int .i64 b1Hand)]] => F_laws_eqClock a0Room a0Keys a0Used a0Hand b1Room b1Keys b1Used b1Hand (fun r0 => k (.one (.c (.v (.bool r0)))) [])
    | _ => False, false⟩
def cl_laws_eqClock : List (FuncId × Con) := [(18, con_laws_eqIntS), (57, con_laws_eqBoolS)]
def an_laws_eqClock : Ann := ⟨[], [], []⟩
def cs_laws_eqClock : Cons := ⟨cl_laws_eqClock, [], 0, [], []⟩
def fin_laws_eqClock (a0Room : Int) (a0Keys : List Int) (a0Used : List Bool) (a0Hand : Int) (b1Room : Int) (b1Keys : List Int) (b1Used : List Bool) (b1Hand : Int) (kk : AV → List A1 → Prop) : Kt := fin TT con_laws_eqClock Try.f31.results.toList [.c .sc] [.agg [.v (.int .i64 a0Room), .ro .int a0Keys, .ro .bool a0Used, .v (.int .i64 a0Hand)], .agg [.v (.int .i64 b1Room), .ro .int b1Keys, .ro .bool b1Used, .v (.int .i64 b1Hand)]] kk
theorem g_laws_eqClock (a0Room : Int) (a0Keys : List Int) (a0Used : List Bool) (a0Hand : Int) (b1Room : Int) (b1Keys : List Int) (b1Used : List Bool) (b1Hand : Int) (kk : AV → List A1 → Prop) :
    ev TT cs_laws_eqClock 27 an_laws_eqClock (Try.f31.body.getD .skip) (st0 con_laws_eqClock [.agg [.v (.int .i64 a0Room), .ro .int a0Keys, .ro .bool a0Used, .v (.int .i64 a0Hand)], .agg [.v (.int .i64 b1Room), .ro .int b1Keys, .ro .bool b1Used, .v (.int .i64 b1Hand)]]) (fin TT con_laws_eqClock Try.f31.results.toList [.c .sc] [.agg [.v (.int .i64 a0Room), .ro .int a0Keys, .ro .bool a0Used, .v (.int .i64 a0Hand)], .agg [.v (.int .i64 b1Room), .ro .int b1Keys, .ro .bool b1Used, .v (.int .i64 b1Hand)]] kk) = G_laws_eqClock a0Room a0Keys a0Used a0Hand b1Room b1Keys b1Used b1Hand (fun r0 => kk (.one (.c (.v (.bool r0)))) []) := by kernel_rfl
theorem e_laws_eqClock (a0Room : Int) (a0Keys : List Int) (a0Used : List Bool) (a0Hand : Int) (b1Room : Int) (b1Keys : List Int) (b1Used : List Bool) (b1Hand : Int) (kk : AV → List A1 → Prop) :
    ev TT cs_laws_eqClock 27 an_laws_eqClock (Try.f31.body.getD .skip) (st0 con_laws_eqClock [.agg [.v (.int .i64 a0Room), .ro .int a0Keys, .ro .bool a0Used, .v (.int .i64 a0Hand)], .agg [.v (.int .i64 b1Room), .ro .int b1Keys, .ro .bool b1Used, .v (.int .i64 b1Hand)]]) (fin TT con_laws_eqClock Try.f31.results.toList [.c .sc] [.agg [.v (.int .i64 a0Room), .ro .int a0Keys, .ro .bool a0Used, .v (.int .i64 a0Hand)], .agg [.v (.int .i64 b1Room), .ro .int b1Keys, .ro .bool b1Used, .v (.int .i64 b1Hand)]] kk) = S_laws_eqClock a0Room a0Keys a0Used a0Hand b1Room b1Keys b1Used b1Hand (fun r0 => kk (.one (.c (.v (.bool r0)))) []) := by
  rw [g_laws_eqClock]
  rfl
theorem clok_laws_eqClock : ConOK Try.prog cl_laws_eqClock := consCons h_laws_eqIntS ⟨Try.f18, Try.func18, by kernel_rfl, ne_of_beq (by kernel_rfl)⟩ (consCons h_laws_eqBoolS ⟨Try.f57, Try.func57, by kernel_rfl, ne_of_beq (by kernel_rfl)⟩ (consNil))
theorem cok_laws_eqClock : ConsOK Try.prog 27 cs_laws_eqClock := ⟨clok_laws_eqClock, inlNil⟩
theorem i_laws_eqClock {vs : List A1} {kk : AV → List A1 → Prop} {motive : List A1 → Prop} (h : con_laws_eqClock.F vs kk) (H : ∀ (a0Room : Int) (a0Keys : List Int) (a0Used : List Bool) (a0Hand : Int) (b1Room : Int) (b1Keys : List Int) (b1Used : List Bool) (b1Hand : Int), F_laws_eqClock a0Room a0Keys a0Used a0Hand b1Room b1Keys b1Used b1Hand (fun r0 => kk (.one (.c (.v (.bool r0)))) []) → motive [.agg [.v (.int .i64 a0Room), .ro .int a0Keys, .ro .bool a0Used, .v (.int .i64 a0Hand)], .agg [.v (.int .i64 b1Room), .ro .int b1Keys, .ro .bool b1Used, .v (.int .i64 b1Hand)]]) : motive vs := by
  unfold con_laws_eqClock at h
  dsimp only at h
  split at h
  · exact H _ _ _ _ _ _ _ _ h
  · exact h.elim
theorem h_laws_eqClock : Holds Try.prog 31 con_laws_eqClock := by
  refine holds_of_ev (rt := [.c .sc]) (T := TT) (Γ := cs_laws_eqClock) (an := an_laws_eqClock) (N := 27) (c := Try.f31.body.getD .skip) Try.func31 (by kernel_rfl) Try.ntmps31 (by decide) (by decide) mixed tabOK cok_laws_eqClock (by kernel_rfl) ?_
  intro vs kk _ hF
  exact i_laws_eqClock (motive := fun vs => Goes (ev TT cs_laws_eqClock 27 an_laws_eqClock (Try.f31.body.getD .skip) (st0 con_laws_eqClock vs) (fin TT con_laws_eqClock Try.f31.results.toList [.c .sc] vs kk))) hF (fun a0Room a0Keys a0Used a0Hand b1Room b1Keys b1Used b1Hand hF => goes_of (e_laws_eqClock a0Room a0Keys a0Used a0Hand b1Room b1Keys b1Used b1Hand kk) (F_laws_eqClock_S hF))
def con_laws_markIntS : Con := ⟨[.mu, .rd], true, [.c (.sl .int), .c (.sc)], fun vs k => match vs with
    | [.c (.ro .int a0), .c (.v (.int .i64 k1))] => F_laws_markIntS a0 k1 (fun r0 r1 => k (.one (.c (.v (.int .i64 r0)))) [.c (.ro .int r1)])
    | _ => False, false⟩
def cl_laws_markIntS : List (FuncId × Con) := []
def nm0_laws_markIntS : List NStep := [.keep [0, 1, 5] [100000]]
def an_laws_markIntS : Ann := ⟨[], [(2, nm0_laws_markIntS)], []⟩
def cs_laws_markIntS : Cons := ⟨cl_laws_markIntS, [], 0, [], []⟩
def can0_laws_markIntS (xk1 : Int) (xi5 : Int) (xy100000 : List Int) : St := ⟨[(0, .one (.c (.ow 100000))), (1, .one (.c (.v (.int .i64 xk1)))), (5, .one (.c (.v (.int .i64 xi5))))], [(100000, .row .int xy100000)]⟩
def fin_laws_markIntS (a0 : List Int) (k1 : Int) (kk : AV → List A1 → Prop) : Kt := fin TT con_laws_markIntS Try.f19.results.toList [.c .sc] [.c (.ro .int a0), .c (.v (.int .i64 k1))] kk
def kt0_laws_markIntS (kf : Kt) : Kt := blockK 0 (seqK (evF TT cs_laws_markIntS 19 an_laws_markIntS Try.f19 [1, 1]) (kf))
theorem r0_laws_markIntS (a0 : List Int) (k1 : Int) (kk : AV → List A1 → Prop) (n : Nat) (xk1 : Int) (xi5 : Int) (xy100000 : List Int) :
    iter (evF TT cs_laws_markIntS 19 an_laws_markIntS Try.f19 [1, 0, 1, 0, 0]) nm0_laws_markIntS (kt0_laws_markIntS (fin_laws_markIntS a0 k1 kk)) (n + 1) (can0_laws_markIntS xk1 xi5 xy100000) = T0_laws_markIntS xk1 xi5 xy100000 (fun r0 r1 => kk (.one (.c (.v (.int .i64 r0)))) [.c (.ro .int r1)]) (fun xk1 xi5 xy100000 => iter (evF TT cs_laws_markIntS 19 an_laws_markIntS Try.f19 [1, 0, 1, 0, 0]) nm0_laws_markIntS (kt0_laws_markIntS (fin_laws_markIntS a0 k1 kk)) n (can0_laws_markIntS xk1 xi5 xy100000)) := by kernel_rfl
theorem l0_laws_markIntS (a0 : List Int) (k1 : Int) (kk : AV → List A1 → Prop) : ∀ (n : Nat) (xk1 : Int) (xi5 : Int) (xy100000 : List Int), iter (evF TT cs_laws_markIntS 19 an_laws_markIntS Try.f19 [1, 0, 1, 0, 0]) nm0_laws_markIntS (kt0_laws_markIntS (fin_laws_markIntS a0 k1 kk)) n (can0_laws_markIntS xk1 xi5 xy100000) = L0_laws_markIntS (fun r0 r1 => kk (.one (.c (.v (.int .i64 r0)))) [.c (.ro .int r1)]) n xk1 xi5 xy100000 := by
  intro n
  induction n with
  | zero => intros; rfl
  | succ n ih =>
    intro xk1 xi5 xy100000
    rw [r0_laws_markIntS a0 k1 kk n xk1 xi5 xy100000]
    have hb : (fun xk1 xi5 xy100000 => iter (evF TT cs_laws_markIntS 19 an_laws_markIntS Try.f19 [1, 0, 1, 0, 0]) nm0_laws_markIntS (kt0_laws_markIntS (fin_laws_markIntS a0 k1 kk)) n (can0_laws_markIntS xk1 xi5 xy100000)) = L0_laws_markIntS (fun r0 r1 => kk (.one (.c (.v (.int .i64 r0)))) [.c (.ro .int r1)]) n := by
      funext xk1 xi5 xy100000; exact ih xk1 xi5 xy100000
    rw [hb]
    rfl
theorem g_laws_markIntS (a0 : List Int) (k1 : Int) (kk : AV → List A1 → Prop) :
    ev TT cs_laws_markIntS 19 an_laws_markIntS (Try.f19.body.getD .skip) (st0 con_laws_markIntS [.c (.ro .int a0), .c (.v (.int .i64 k1))]) (fin TT con_laws_markIntS Try.f19.results.toList [.c .sc] [.c (.ro .int a0), .c (.v (.int .i64 k1))] kk) = G_laws_markIntS a0 k1 (fun xk1 xi5 xy100000 => ∃ j, iter (evF TT cs_laws_markIntS 19 an_laws_markIntS Try.f19 [1, 0, 1, 0, 0]) nm0_laws_markIntS (kt0_laws_markIntS (fin_laws_markIntS a0 k1 kk)) j (can0_laws_markIntS xk1 xi5 xy100000)) := by kernel_rfl
theorem e_laws_markIntS (a0 : List Int) (k1 : Int) (kk : AV → List A1 → Prop) :
    ev TT cs_laws_markIntS 19 an_laws_markIntS (Try.f19.body.getD .skip) (st0 con_laws_markIntS [.c (.ro .int a0), .c (.v (.int .i64 k1))]) (fin TT con_laws_markIntS Try.f19.results.toList [.c .sc] [.c (.ro .int a0), .c (.v (.int .i64 k1))] kk) = S_laws_markIntS a0 k1 (fun r0 r1 => kk (.one (.c (.v (.int .i64 r0)))) [.c (.ro .int r1)]) := by
  rw [g_laws_markIntS]
  have hi0 : (fun xk1 xi5 xy100000 => ∃ j, iter (evF TT cs_laws_markIntS 19 an_laws_markIntS Try.f19 [1, 0, 1, 0, 0]) nm0_laws_markIntS (kt0_laws_markIntS (fin_laws_markIntS a0 k1 kk)) j (can0_laws_markIntS xk1 xi5 xy100000)) = (fun xk1 xi5 xy100000 => ∃ j, L0_laws_markIntS (fun r0 r1 => kk (.one (.c (.v (.int .i64 r0)))) [.c (.ro .int r1)]) j xk1 xi5 xy100000) := by
    funext xk1 xi5 xy100000
    refine congrArg Exists (funext fun j => ?_)
    rw [l0_laws_markIntS a0 k1 kk j xk1 xi5 xy100000]
  rw [hi0]
  rfl
theorem clok_laws_markIntS : ConOK Try.prog cl_laws_markIntS := consNil
theorem cok_laws_markIntS : ConsOK Try.prog 19 cs_laws_markIntS := ⟨clok_laws_markIntS, inlNil⟩
theorem i_laws_markIntS {vs : List A1} {kk : AV → List A1 → Prop} {motive : List A1 → Prop} (h : con_laws_markIntS.F vs kk) (H : ∀ (a0 : List Int) (k1 : Int), F_laws_markIntS a0 k1 (fun r0 r1 => kk (.one (.c (.v (.int .i64 r0)))) [.c (.ro .int r1)]) → motive [.c (.ro .int a0), .c (.v (.int .i64 k1))]) : motive vs := by
  unfold con_laws_markIntS at h
  dsimp only at h
  split at h
  · exact H _ _ h
  · exact h.elim
theorem h_laws_markIntS : Holds Try.prog 19 con_laws_markIntS := by
  refine holds_of_ev (rt := [.c .sc]) (T := TT) (Γ := cs_laws_markIntS) (an := an_laws_markIntS) (N := 19) (c := Try.f19.body.getD .skip) Try.func19 (by kernel_rfl) Try.ntmps19 (by decide) (by decide) mixed tabOK cok_laws_markIntS (by kernel_rfl) ?_
  intro vs kk _ hF
  exact i_laws_markIntS (motive := fun vs => Goes (ev TT cs_laws_markIntS 19 an_laws_markIntS (Try.f19.body.getD .skip) (st0 con_laws_markIntS vs) (fin TT con_laws_markIntS Try.f19.results.toList [.c .sc] vs kk))) hF (fun a0 k1 hF => goes_of (e_laws_markIntS a0 k1 kk) (F_laws_markIntS_S hF))
def con_laws_markBoolS : Con := ⟨[.mu, .rd], true, [.c (.sl .bool), .c (.sc)], fun vs k => match vs with
    | [.c (.ro .bool a0), .c (.v (.int .i64 k1))] => F_laws_markBoolS a0 k1 (fun r0 r1 => k (.one (.c (.v (.int .i64 r0)))) [.c (.ro .bool r1)])
    | _ => False, false⟩
def cl_laws_markBoolS : List (FuncId × Con) := []
def nm0_laws_markBoolS : List NStep := [.keep [0, 1, 5] [100000]]
def an_laws_markBoolS : Ann := ⟨[], [(2, nm0_laws_markBoolS)], []⟩
def cs_laws_markBoolS : Cons := ⟨cl_laws_markBoolS, [], 0, [], []⟩
def can0_laws_markBoolS (xk1 : Int) (xi5 : Int) (xy100000 : List Bool) : St := ⟨[(0, .one (.c (.ow 100000))), (1, .one (.c (.v (.int .i64 xk1)))), (5, .one (.c (.v (.int .i64 xi5))))], [(100000, .row .bool xy100000)]⟩
def fin_laws_markBoolS (a0 : List Bool) (k1 : Int) (kk : AV → List A1 → Prop) : Kt := fin TT con_laws_markBoolS Try.f61.results.toList [.c .sc] [.c (.ro .bool a0), .c (.v (.int .i64 k1))] kk
def kt0_laws_markBoolS (kf : Kt) : Kt := blockK 0 (seqK (evF TT cs_laws_markBoolS 21 an_laws_markBoolS Try.f61 [1, 1]) (kf))
theorem r0_laws_markBoolS (a0 : List Bool) (k1 : Int) (kk : AV → List A1 → Prop) (n : Nat) (xk1 : Int) (xi5 : Int) (xy100000 : List Bool) :
    iter (evF TT cs_laws_markBoolS 21 an_laws_markBoolS Try.f61 [1, 0, 1, 0, 0]) nm0_laws_markBoolS (kt0_laws_markBoolS (fin_laws_markBoolS a0 k1 kk)) (n + 1) (can0_laws_markBoolS xk1 xi5 xy100000) = T0_laws_markBoolS xk1 xi5 xy100000 (fun r0 r1 => kk (.one (.c (.v (.int .i64 r0)))) [.c (.ro .bool r1)]) (fun xk1 xi5 xy100000 => iter (evF TT cs_laws_markBoolS 21 an_laws_markBoolS Try.f61 [1, 0, 1, 0, 0]) nm0_laws_markBoolS (kt0_laws_markBoolS (fin_laws_markBoolS a0 k1 kk)) n (can0_laws_markBoolS xk1 xi5 xy100000)) := by kernel_rfl
theorem l0_laws_markBoolS (a0 : List Bool) (k1 : Int) (kk : AV → List A1 → Prop) : ∀ (n : Nat) (xk1 : Int) (xi5 : Int) (xy100000 : List Bool), iter (evF TT cs_laws_markBoolS 21 an_laws_markBoolS Try.f61 [1, 0, 1, 0, 0]) nm0_laws_markBoolS (kt0_laws_markBoolS (fin_laws_markBoolS a0 k1 kk)) n (can0_laws_markBoolS xk1 xi5 xy100000) = L0_laws_markBoolS (fun r0 r1 => kk (.one (.c (.v (.int .i64 r0)))) [.c (.ro .bool r1)]) n xk1 xi5 xy100000 := by
  intro n
  induction n with
  | zero => intros; rfl
  | succ n ih =>
    intro xk1 xi5 xy100000
    rw [r0_laws_markBoolS a0 k1 kk n xk1 xi5 xy100000]
    have hb : (fun xk1 xi5 xy100000 => iter (evF TT cs_laws_markBoolS 21 an_laws_markBoolS Try.f61 [1, 0, 1, 0, 0]) nm0_laws_markBoolS (kt0_laws_markBoolS (fin_laws_markBoolS a0 k1 kk)) n (can0_laws_markBoolS xk1 xi5 xy100000)) = L0_laws_markBoolS (fun r0 r1 => kk (.one (.c (.v (.int .i64 r0)))) [.c (.ro .bool r1)]) n := by
      funext xk1 xi5 xy100000; exact ih xk1 xi5 xy100000
    rw [hb]
    rfl
theorem g_laws_markBoolS (a0 : List Bool) (k1 : Int) (kk : AV → List A1 → Prop) :
    ev TT cs_laws_markBoolS 21 an_laws_markBoolS (Try.f61.body.getD .skip) (st0 con_laws_markBoolS [.c (.ro .bool a0), .c (.v (.int .i64 k1))]) (fin TT con_laws_markBoolS Try.f61.results.toList [.c .sc] [.c (.ro .bool a0), .c (.v (.int .i64 k1))] kk) = G_laws_markBoolS a0 k1 (fun xk1 xi5 xy100000 => ∃ j, iter (evF TT cs_laws_markBoolS 21 an_laws_markBoolS Try.f61 [1, 0, 1, 0, 0]) nm0_laws_markBoolS (kt0_laws_markBoolS (fin_laws_markBoolS a0 k1 kk)) j (can0_laws_markBoolS xk1 xi5 xy100000)) := by kernel_rfl
theorem e_laws_markBoolS (a0 : List Bool) (k1 : Int) (kk : AV → List A1 → Prop) :
    ev TT cs_laws_markBoolS 21 an_laws_markBoolS (Try.f61.body.getD .skip) (st0 con_laws_markBoolS [.c (.ro .bool a0), .c (.v (.int .i64 k1))]) (fin TT con_laws_markBoolS Try.f61.results.toList [.c .sc] [.c (.ro .bool a0), .c (.v (.int .i64 k1))] kk) = S_laws_markBoolS a0 k1 (fun r0 r1 => kk (.one (.c (.v (.int .i64 r0)))) [.c (.ro .bool r1)]) := by
  rw [g_laws_markBoolS]
  have hi0 : (fun xk1 xi5 xy100000 => ∃ j, iter (evF TT cs_laws_markBoolS 21 an_laws_markBoolS Try.f61 [1, 0, 1, 0, 0]) nm0_laws_markBoolS (kt0_laws_markBoolS (fin_laws_markBoolS a0 k1 kk)) j (can0_laws_markBoolS xk1 xi5 xy100000)) = (fun xk1 xi5 xy100000 => ∃ j, L0_laws_markBoolS (fun r0 r1 => kk (.one (.c (.v (.int .i64 r0)))) [.c (.ro .bool r1)]) j xk1 xi5 xy100000) := by
    funext xk1 xi5 xy100000
    refine congrArg Exists (funext fun j => ?_)
    rw [l0_laws_markBoolS a0 k1 kk j xk1 xi5 xy100000]
  rw [hi0]
  rfl
theorem clok_laws_markBoolS : ConOK Try.prog cl_laws_markBoolS := consNil
theorem cok_laws_markBoolS : ConsOK Try.prog 21 cs_laws_markBoolS := ⟨clok_laws_markBoolS, inlNil⟩
theorem i_laws_markBoolS {vs : List A1} {kk : AV → List A1 → Prop} {motive : List A1 → Prop} (h : con_laws_markBoolS.F vs kk) (H : ∀ (a0 : List Bool) (k1 : Int), F_laws_markBoolS a0 k1 (fun r0 r1 => kk (.one (.c (.v (.int .i64 r0)))) [.c (.ro .bool r1)]) → motive [.c (.ro .bool a0), .c (.v (.int .i64 k1))]) : motive vs := by
  unfold con_laws_markBoolS at h
  dsimp only at h
  split at h
  · exact H _ _ h
  · exact h.elim
theorem h_laws_markBoolS : Holds Try.prog 61 con_laws_markBoolS := by
  refine holds_of_ev (rt := [.c .sc]) (T := TT) (Γ := cs_laws_markBoolS) (an := an_laws_markBoolS) (N := 21) (c := Try.f61.body.getD .skip) Try.func61 (by kernel_rfl) Try.ntmps61 (by decide) (by decide) mixed tabOK cok_laws_markBoolS (by kernel_rfl) ?_
  intro vs kk _ hF
  exact i_laws_markBoolS (motive := fun vs => Goes (ev TT cs_laws_markBoolS 21 an_laws_markBoolS (Try.f61.body.getD .skip) (st0 con_laws_markBoolS vs) (fin TT con_laws_markBoolS Try.f61.results.toList [.c .sc] vs kk))) hF (fun a0 k1 hF => goes_of (e_laws_markBoolS a0 k1 kk) (F_laws_markBoolS_S hF))
def con_laws_markClock : Con := ⟨[.mu, .rd], true, [.agg [.sc, .sl .int, .sl .bool, .sc], .c (.sc)], fun vs k => match vs with
    | [.agg [.v (.int .i64 a0Room), .ro .int a0Keys, .ro .bool a0Used, .v (.int .i64 a0Hand)], .c (.v (.int .i64 k1))] => F_laws_markClock a0Room a0Keys a0Used a0Hand k1 (fun r0 r1 r2 => k (.one (.c (.v (.int .i64 r0)))) [.agg [.v (.int .i64 a0Room), .ro .int r1, .ro .bool r2, .v (.int .i64 a0Hand)]])
    | _ => False, false⟩
def cl_laws_markClock : List (FuncId × Con) := [(19, con_laws_markIntS), (61, con_laws_markBoolS)]
def an_laws_markClock : Ann := ⟨[], [], []⟩
def cs_laws_markClock : Cons := ⟨cl_laws_markClock, [], 0, [], []⟩
def fin_laws_markClock (a0Room : Int) (a0Keys : List Int) (a0Used : List Bool) (a0Hand : Int) (k1 : Int) (kk : AV → List A1 → Prop) : Kt := fin TT con_laws_markClock Try.f34.results.toList [.c .sc] [.agg [.v (.int .i64 a0Room), .ro .int a0Keys, .ro .bool a0Used, .v (.int .i64 a0Hand)], .c (.v (.int .i64 k1))] kk
theorem g_laws_markClock (a0Room : Int) (a0Keys : List Int) (a0Used : List Bool) (a0Hand : Int) (k1 : Int) (kk : AV → List A1 → Prop) :
    ev TT cs_laws_markClock 14 an_laws_markClock (Try.f34.body.getD .skip) (st0 con_laws_markClock [.agg [.v (.int .i64 a0Room), .ro .int a0Keys, .ro .bool a0Used, .v (.int .i64 a0Hand)], .c (.v (.int .i64 k1))]) (fin TT con_laws_markClock Try.f34.results.toList [.c .sc] [.agg [.v (.int .i64 a0Room), .ro .int a0Keys, .ro .bool a0Used, .v (.int .i64 a0Hand)], .c (.v (.int .i64 k1))] kk) = G_laws_markClock a0Room a0Keys a0Used a0Hand k1 (fun r0 r1 r2 => kk (.one (.c (.v (.int .i64 r0)))) [.agg [.v (.int .i64 a0Room), .ro .int r1, .ro .bool r2, .v (.int .i64 a0Hand)]]) := by kernel_rfl
theorem e_laws_markClock (a0Room : Int) (a0Keys : List Int) (a0Used : List Bool) (a0Hand : Int) (k1 : Int) (kk : AV → List A1 → Prop) :
    ev TT cs_laws_markClock 14 an_laws_markClock (Try.f34.body.getD .skip) (st0 con_laws_markClock [.agg [.v (.int .i64 a0Room), .ro .int a0Keys, .ro .bool a0Used, .v (.int .i64 a0Hand)], .c (.v (.int .i64 k1))]) (fin TT con_laws_markClock Try.f34.results.toList [.c .sc] [.agg [.v (.int .i64 a0Room), .ro .int a0Keys, .ro .bool a0Used, .v (.int .i64 a0Hand)], .c (.v (.int .i64 k1))] kk) = S_laws_markClock a0Room a0Keys a0Used a0Hand k1 (fun r0 r1 r2 => kk (.one (.c (.v (.int .i64 r0)))) [.agg [.v (.int .i64 a0Room), .ro .int r1, .ro .bool r2, .v (.int .i64 a0Hand)]]) := by
  rw [g_laws_markClock]
  rfl
theorem clok_laws_markClock : ConOK Try.prog cl_laws_markClock := consCons h_laws_markIntS ⟨Try.f19, Try.func19, by kernel_rfl, ne_of_beq (by kernel_rfl)⟩ (consCons h_laws_markBoolS ⟨Try.f61, Try.func61, by kernel_rfl, ne_of_beq (by kernel_rfl)⟩ (consNil))
theorem cok_laws_markClock : ConsOK Try.prog 14 cs_laws_markClock := ⟨clok_laws_markClock, inlNil⟩
theorem i_laws_markClock {vs : List A1} {kk : AV → List A1 → Prop} {motive : List A1 → Prop} (h : con_laws_markClock.F vs kk) (H : ∀ (a0Room : Int) (a0Keys : List Int) (a0Used : List Bool) (a0Hand : Int) (k1 : Int), F_laws_markClock a0Room a0Keys a0Used a0Hand k1 (fun r0 r1 r2 => kk (.one (.c (.v (.int .i64 r0)))) [.agg [.v (.int .i64 a0Room), .ro .int r1, .ro .bool r2, .v (.int .i64 a0Hand)]]) → motive [.agg [.v (.int .i64 a0Room), .ro .int a0Keys, .ro .bool a0Used, .v (.int .i64 a0Hand)], .c (.v (.int .i64 k1))]) : motive vs := by
  unfold con_laws_markClock at h
  dsimp only at h
  split at h
  · exact H _ _ _ _ _ h
  · exact h.elim
theorem h_laws_markClock : Holds Try.prog 34 con_laws_markClock := by
  refine holds_of_ev (rt := [.c .sc]) (T := TT) (Γ := cs_laws_markClock) (an := an_laws_markClock) (N := 14) (c := Try.f34.body.getD .skip) Try.func34 (by kernel_rfl) Try.ntmps34 (by decide) (by decide) mixed tabOK cok_laws_markClock (by kernel_rfl) ?_
  intro vs kk _ hF
  exact i_laws_markClock (motive := fun vs => Goes (ev TT cs_laws_markClock 14 an_laws_markClock (Try.f34.body.getD .skip) (st0 con_laws_markClock vs) (fin TT con_laws_markClock Try.f34.results.toList [.c .sc] vs kk))) hF (fun a0Room a0Keys a0Used a0Hand k1 hF => goes_of (e_laws_markClock a0Room a0Keys a0Used a0Hand k1 kk) (F_laws_markClock_S hF))
def con_laws_heldIntS : Con := ⟨[.rd, .rd], true, [.c (.sl .int), .c (.sc)], fun vs k => match vs with
    | [.c (.ro .int a0), .c (.v (.int .i64 k1))] => F_laws_heldIntS a0 k1 (fun r0 => k (.one (.c (.v (.int .i64 r0)))) [])
    | _ => False, false⟩
def cl_laws_heldIntS : List (FuncId × Con) := []
def nm0_laws_heldIntS : List NStep := [.keep [0, 1, 5] []]
def an_laws_heldIntS : Ann := ⟨[], [(2, nm0_laws_heldIntS)], []⟩
def cs_laws_heldIntS : Cons := ⟨cl_laws_heldIntS, [], 0, [], []⟩
def can0_laws_heldIntS (a0 : List Int) (xk1 : Int) (xi5 : Int) : St := ⟨[(0, .one (.c (.ro .int a0))), (1, .one (.c (.v (.int .i64 xk1)))), (5, .one (.c (.v (.int .i64 xi5))))], []⟩
def fin_laws_heldIntS (a0 : List Int) (k1 : Int) (kk : AV → List A1 → Prop) : Kt := fin TT con_laws_heldIntS Try.f20.results.toList [.c .sc] [.c (.ro .int a0), .c (.v (.int .i64 k1))] kk
def kt0_laws_heldIntS (kf : Kt) : Kt := blockK 0 (seqK (evF TT cs_laws_heldIntS 21 an_laws_heldIntS Try.f20 [1, 1]) (kf))
theorem r0_laws_heldIntS (a0 : List Int) (k1 : Int) (kk : AV → List A1 → Prop) (n : Nat) (xk1 : Int) (xi5 : Int) :
    iter (evF TT cs_laws_heldIntS 21 an_laws_heldIntS Try.f20 [1, 0, 1, 0, 0]) nm0_laws_heldIntS (kt0_laws_heldIntS (fin_laws_heldIntS a0 k1 kk)) (n + 1) (can0_laws_heldIntS a0 xk1 xi5) = T0_laws_heldIntS a0 xk1 xi5 (fun r0 => kk (.one (.c (.v (.int .i64 r0)))) []) (fun xk1 xi5 => iter (evF TT cs_laws_heldIntS 21 an_laws_heldIntS Try.f20 [1, 0, 1, 0, 0]) nm0_laws_heldIntS (kt0_laws_heldIntS (fin_laws_heldIntS a0 k1 kk)) n (can0_laws_heldIntS a0 xk1 xi5)) := by kernel_rfl
theorem l0_laws_heldIntS (a0 : List Int) (k1 : Int) (kk : AV → List A1 → Prop) : ∀ (n : Nat) (xk1 : Int) (xi5 : Int), iter (evF TT cs_laws_heldIntS 21 an_laws_heldIntS Try.f20 [1, 0, 1, 0, 0]) nm0_laws_heldIntS (kt0_laws_heldIntS (fin_laws_heldIntS a0 k1 kk)) n (can0_laws_heldIntS a0 xk1 xi5) = L0_laws_heldIntS a0 (fun r0 => kk (.one (.c (.v (.int .i64 r0)))) []) n xk1 xi5 := by
  intro n
  induction n with
  | zero => intros; rfl
  | succ n ih =>
    intro xk1 xi5
    rw [r0_laws_heldIntS a0 k1 kk n xk1 xi5]
    have hb : (fun xk1 xi5 => iter (evF TT cs_laws_heldIntS 21 an_laws_heldIntS Try.f20 [1, 0, 1, 0, 0]) nm0_laws_heldIntS (kt0_laws_heldIntS (fin_laws_heldIntS a0 k1 kk)) n (can0_laws_heldIntS a0 xk1 xi5)) = L0_laws_heldIntS a0 (fun r0 => kk (.one (.c (.v (.int .i64 r0)))) []) n := by
      funext xk1 xi5; exact ih xk1 xi5
    rw [hb]
    rfl
theorem g_laws_heldIntS (a0 : List Int) (k1 : Int) (kk : AV → List A1 → Prop) :
    ev TT cs_laws_heldIntS 21 an_laws_heldIntS (Try.f20.body.getD .skip) (st0 con_laws_heldIntS [.c (.ro .int a0), .c (.v (.int .i64 k1))]) (fin TT con_laws_heldIntS Try.f20.results.toList [.c .sc] [.c (.ro .int a0), .c (.v (.int .i64 k1))] kk) = G_laws_heldIntS a0 k1 (fun a0 xk1 xi5 => ∃ j, iter (evF TT cs_laws_heldIntS 21 an_laws_heldIntS Try.f20 [1, 0, 1, 0, 0]) nm0_laws_heldIntS (kt0_laws_heldIntS (fin_laws_heldIntS a0 k1 kk)) j (can0_laws_heldIntS a0 xk1 xi5)) := by kernel_rfl
theorem e_laws_heldIntS (a0 : List Int) (k1 : Int) (kk : AV → List A1 → Prop) :
    ev TT cs_laws_heldIntS 21 an_laws_heldIntS (Try.f20.body.getD .skip) (st0 con_laws_heldIntS [.c (.ro .int a0), .c (.v (.int .i64 k1))]) (fin TT con_laws_heldIntS Try.f20.results.toList [.c .sc] [.c (.ro .int a0), .c (.v (.int .i64 k1))] kk) = S_laws_heldIntS a0 k1 (fun r0 => kk (.one (.c (.v (.int .i64 r0)))) []) := by
  rw [g_laws_heldIntS]
  have hi0 : (fun a0 xk1 xi5 => ∃ j, iter (evF TT cs_laws_heldIntS 21 an_laws_heldIntS Try.f20 [1, 0, 1, 0, 0]) nm0_laws_heldIntS (kt0_laws_heldIntS (fin_laws_heldIntS a0 k1 kk)) j (can0_laws_heldIntS a0 xk1 xi5)) = (fun a0 xk1 xi5 => ∃ j, L0_laws_heldIntS a0 (fun r0 => kk (.one (.c (.v (.int .i64 r0)))) []) j xk1 xi5) := by
    funext a0 xk1 xi5
    refine congrArg Exists (funext fun j => ?_)
    rw [l0_laws_heldIntS a0 k1 kk j xk1 xi5]
  rw [hi0]
  rfl
theorem clok_laws_heldIntS : ConOK Try.prog cl_laws_heldIntS := consNil
theorem cok_laws_heldIntS : ConsOK Try.prog 21 cs_laws_heldIntS := ⟨clok_laws_heldIntS, inlNil⟩
theorem i_laws_heldIntS {vs : List A1} {kk : AV → List A1 → Prop} {motive : List A1 → Prop} (h : con_laws_heldIntS.F vs kk) (H : ∀ (a0 : List Int) (k1 : Int), F_laws_heldIntS a0 k1 (fun r0 => kk (.one (.c (.v (.int .i64 r0)))) []) → motive [.c (.ro .int a0), .c (.v (.int .i64 k1))]) : motive vs := by
  unfold con_laws_heldIntS at h
  dsimp only at h
  split at h
  · exact H _ _ h
  · exact h.elim
theorem h_laws_heldIntS : Holds Try.prog 20 con_laws_heldIntS := by
  refine holds_of_ev (rt := [.c .sc]) (T := TT) (Γ := cs_laws_heldIntS) (an := an_laws_heldIntS) (N := 21) (c := Try.f20.body.getD .skip) Try.func20 (by kernel_rfl) Try.ntmps20 (by decide) (by decide) mixed tabOK cok_laws_heldIntS (by kernel_rfl) ?_
  intro vs kk _ hF
  exact i_laws_heldIntS (motive := fun vs => Goes (ev TT cs_laws_heldIntS 21 an_laws_heldIntS (Try.f20.body.getD .skip) (st0 con_laws_heldIntS vs) (fin TT con_laws_heldIntS Try.f20.results.toList [.c .sc] vs kk))) hF (fun a0 k1 hF => goes_of (e_laws_heldIntS a0 k1 kk) (F_laws_heldIntS_S hF))
def con_laws_heldBoolS : Con := ⟨[.rd, .rd], true, [.c (.sl .bool), .c (.sc)], fun vs k => match vs with
    | [.c (.ro .bool a0), .c (.v (.int .i64 k1))] => F_laws_heldBoolS a0 k1 (fun r0 => k (.one (.c (.v (.int .i64 r0)))) [])
    | _ => False, false⟩
def cl_laws_heldBoolS : List (FuncId × Con) := []
def nm0_laws_heldBoolS : List NStep := [.keep [0, 1, 5] []]
def an_laws_heldBoolS : Ann := ⟨[], [(2, nm0_laws_heldBoolS)], []⟩
def cs_laws_heldBoolS : Cons := ⟨cl_laws_heldBoolS, [], 0, [], []⟩
def can0_laws_heldBoolS (a0 : List Bool) (xk1 : Int) (xi5 : Int) : St := ⟨[(0, .one (.c (.ro .bool a0))), (1, .one (.c (.v (.int .i64 xk1)))), (5, .one (.c (.v (.int .i64 xi5))))], []⟩
def fin_laws_heldBoolS (a0 : List Bool) (k1 : Int) (kk : AV → List A1 → Prop) : Kt := fin TT con_laws_heldBoolS Try.f62.results.toList [.c .sc] [.c (.ro .bool a0), .c (.v (.int .i64 k1))] kk
def kt0_laws_heldBoolS (kf : Kt) : Kt := blockK 0 (seqK (evF TT cs_laws_heldBoolS 23 an_laws_heldBoolS Try.f62 [1, 1]) (kf))
theorem r0_laws_heldBoolS (a0 : List Bool) (k1 : Int) (kk : AV → List A1 → Prop) (n : Nat) (xk1 : Int) (xi5 : Int) :
    iter (evF TT cs_laws_heldBoolS 23 an_laws_heldBoolS Try.f62 [1, 0, 1, 0, 0]) nm0_laws_heldBoolS (kt0_laws_heldBoolS (fin_laws_heldBoolS a0 k1 kk)) (n + 1) (can0_laws_heldBoolS a0 xk1 xi5) = T0_laws_heldBoolS a0 xk1 xi5 (fun r0 => kk (.one (.c (.v (.int .i64 r0)))) []) (fun xk1 xi5 => iter (evF TT cs_laws_heldBoolS 23 an_laws_heldBoolS Try.f62 [1, 0, 1, 0, 0]) nm0_laws_heldBoolS (kt0_laws_heldBoolS (fin_laws_heldBoolS a0 k1 kk)) n (can0_laws_heldBoolS a0 xk1 xi5)) := by kernel_rfl
theorem l0_laws_heldBoolS (a0 : List Bool) (k1 : Int) (kk : AV → List A1 → Prop) : ∀ (n : Nat) (xk1 : Int) (xi5 : Int), iter (evF TT cs_laws_heldBoolS 23 an_laws_heldBoolS Try.f62 [1, 0, 1, 0, 0]) nm0_laws_heldBoolS (kt0_laws_heldBoolS (fin_laws_heldBoolS a0 k1 kk)) n (can0_laws_heldBoolS a0 xk1 xi5) = L0_laws_heldBoolS a0 (fun r0 => kk (.one (.c (.v (.int .i64 r0)))) []) n xk1 xi5 := by
  intro n
  induction n with
  | zero => intros; rfl
  | succ n ih =>
    intro xk1 xi5
    rw [r0_laws_heldBoolS a0 k1 kk n xk1 xi5]
    have hb : (fun xk1 xi5 => iter (evF TT cs_laws_heldBoolS 23 an_laws_heldBoolS Try.f62 [1, 0, 1, 0, 0]) nm0_laws_heldBoolS (kt0_laws_heldBoolS (fin_laws_heldBoolS a0 k1 kk)) n (can0_laws_heldBoolS a0 xk1 xi5)) = L0_laws_heldBoolS a0 (fun r0 => kk (.one (.c (.v (.int .i64 r0)))) []) n := by
      funext xk1 xi5; exact ih xk1 xi5
    rw [hb]
    rfl
theorem g_laws_heldBoolS (a0 : List Bool) (k1 : Int) (kk : AV → List A1 → Prop) :
    ev TT cs_laws_heldBoolS 23 an_laws_heldBoolS (Try.f62.body.getD .skip) (st0 con_laws_heldBoolS [.c (.ro .bool a0), .c (.v (.int .i64 k1))]) (fin TT con_laws_heldBoolS Try.f62.results.toList [.c .sc] [.c (.ro .bool a0), .c (.v (.int .i64 k1))] kk) = G_laws_heldBoolS a0 k1 (fun a0 xk1 xi5 => ∃ j, iter (evF TT cs_laws_heldBoolS 23 an_laws_heldBoolS Try.f62 [1, 0, 1, 0, 0]) nm0_laws_heldBoolS (kt0_laws_heldBoolS (fin_laws_heldBoolS a0 k1 kk)) j (can0_laws_heldBoolS a0 xk1 xi5)) := by kernel_rfl
theorem e_laws_heldBoolS (a0 : List Bool) (k1 : Int) (kk : AV → List A1 → Prop) :
    ev TT cs_laws_heldBoolS 23 an_laws_heldBoolS (Try.f62.body.getD .skip) (st0 con_laws_heldBoolS [.c (.ro .bool a0), .c (.v (.int .i64 k1))]) (fin TT con_laws_heldBoolS Try.f62.results.toList [.c .sc] [.c (.ro .bool a0), .c (.v (.int .i64 k1))] kk) = S_laws_heldBoolS a0 k1 (fun r0 => kk (.one (.c (.v (.int .i64 r0)))) []) := by
  rw [g_laws_heldBoolS]
  have hi0 : (fun a0 xk1 xi5 => ∃ j, iter (evF TT cs_laws_heldBoolS 23 an_laws_heldBoolS Try.f62 [1, 0, 1, 0, 0]) nm0_laws_heldBoolS (kt0_laws_heldBoolS (fin_laws_heldBoolS a0 k1 kk)) j (can0_laws_heldBoolS a0 xk1 xi5)) = (fun a0 xk1 xi5 => ∃ j, L0_laws_heldBoolS a0 (fun r0 => kk (.one (.c (.v (.int .i64 r0)))) []) j xk1 xi5) := by
    funext a0 xk1 xi5
    refine congrArg Exists (funext fun j => ?_)
    rw [l0_laws_heldBoolS a0 k1 kk j xk1 xi5]
  rw [hi0]
  rfl
theorem clok_laws_heldBoolS : ConOK Try.prog cl_laws_heldBoolS := consNil
theorem cok_laws_heldBoolS : ConsOK Try.prog 23 cs_laws_heldBoolS := ⟨clok_laws_heldBoolS, inlNil⟩
theorem i_laws_heldBoolS {vs : List A1} {kk : AV → List A1 → Prop} {motive : List A1 → Prop} (h : con_laws_heldBoolS.F vs kk) (H : ∀ (a0 : List Bool) (k1 : Int), F_laws_heldBoolS a0 k1 (fun r0 => kk (.one (.c (.v (.int .i64 r0)))) []) → motive [.c (.ro .bool a0), .c (.v (.int .i64 k1))]) : motive vs := by
  unfold con_laws_heldBoolS at h
  dsimp only at h
  split at h
  · exact H _ _ h
  · exact h.elim
theorem h_laws_heldBoolS : Holds Try.prog 62 con_laws_heldBoolS := by
  refine holds_of_ev (rt := [.c .sc]) (T := TT) (Γ := cs_laws_heldBoolS) (an := an_laws_heldBoolS) (N := 23) (c := Try.f62.body.getD .skip) Try.func62 (by kernel_rfl) Try.ntmps62 (by decide) (by decide) mixed tabOK cok_laws_heldBoolS (by kernel_rfl) ?_
  intro vs kk _ hF
  exact i_laws_heldBoolS (motive := fun vs => Goes (ev TT cs_laws_heldBoolS 23 an_laws_heldBoolS (Try.f62.body.getD .skip) (st0 con_laws_heldBoolS vs) (fin TT con_laws_heldBoolS Try.f62.results.toList [.c .sc] vs kk))) hF (fun a0 k1 hF => goes_of (e_laws_heldBoolS a0 k1 kk) (F_laws_heldBoolS_S hF))
def con_laws_heldClock : Con := ⟨[.rd, .rd], true, [.agg [.sc, .sl .int, .sl .bool, .sc], .c (.sc)], fun vs k => match vs with
    | [.agg [.v (.int .i64 a0Room), .ro .int a0Keys, .ro .bool a0Used, .v (.int .i64 a0Hand)], .c (.v (.int .i64 k1))] => F_laws_heldClock a0Room a0Keys a0Used a0Hand k1 (fun r0 => k (.one (.c (.v (.int .i64 r0)))) [])
    | _ => False, false⟩
def cl_laws_heldClock : List (FuncId × Con) := [(20, con_laws_heldIntS), (62, con_laws_heldBoolS)]
def an_laws_heldClock : Ann := ⟨[], [], []⟩
def cs_laws_heldClock : Cons := ⟨cl_laws_heldClock, [], 0, [], []⟩
def fin_laws_heldClock (a0Room : Int) (a0Keys : List Int) (a0Used : List Bool) (a0Hand : Int) (k1 : Int) (kk : AV → List A1 → Prop) : Kt := fin TT con_laws_heldClock Try.f35.results.toList [.c .sc] [.agg [.v (.int .i64 a0Room), .ro .int a0Keys, .ro .bool a0Used, .v (.int .i64 a0Hand)], .c (.v (.int .i64 k1))] kk
theorem g_laws_heldClock (a0Room : Int) (a0Keys : List Int) (a0Used : List Bool) (a0Hand : Int) (k1 : Int) (kk : AV → List A1 → Prop) :
    ev TT cs_laws_heldClock 18 an_laws_heldClock (Try.f35.body.getD .skip) (st0 con_laws_heldClock [.agg [.v (.int .i64 a0Room), .ro .int a0Keys, .ro .bool a0Used, .v (.int .i64 a0Hand)], .c (.v (.int .i64 k1))]) (fin TT con_laws_heldClock Try.f35.results.toList [.c .sc] [.agg [.v (.int .i64 a0Room), .ro .int a0Keys, .ro .bool a0Used, .v (.int .i64 a0Hand)], .c (.v (.int .i64 k1))] kk) = G_laws_heldClock a0Room a0Keys a0Used a0Hand k1 (fun r0 => kk (.one (.c (.v (.int .i64 r0)))) []) := by kernel_rfl
theorem e_laws_heldClock (a0Room : Int) (a0Keys : List Int) (a0Used : List Bool) (a0Hand : Int) (k1 : Int) (kk : AV → List A1 → Prop) :
    ev TT cs_laws_heldClock 18 an_laws_heldClock (Try.f35.body.getD .skip) (st0 con_laws_heldClock [.agg [.v (.int .i64 a0Room), .ro .int a0Keys, .ro .bool a0Used, .v (.int .i64 a0Hand)], .c (.v (.int .i64 k1))]) (fin TT con_laws_heldClock Try.f35.results.toList [.c .sc] [.agg [.v (.int .i64 a0Room), .ro .int a0Keys, .ro .bool a0Used, .v (.int .i64 a0Hand)], .c (.v (.int .i64 k1))] kk) = S_laws_heldClock a0Room a0Keys a0Used a0Hand k1 (fun r0 => kk (.one (.c (.v (.int .i64 r0)))) []) := by
  rw [g_laws_heldClock]
  rfl
theorem clok_laws_heldClock : ConOK Try.prog cl_laws_heldClock := consCons h_laws_heldIntS ⟨Try.f20, Try.func20, by kernel_rfl, ne_of_beq (by kernel_rfl)⟩ (consCons h_laws_heldBoolS ⟨Try.f62, Try.func62, by kernel_rfl, ne_of_beq (by kernel_rfl)⟩ (consNil))
theorem cok_laws_heldClock : ConsOK Try.prog 18 cs_laws_heldClock := ⟨clok_laws_heldClock, inlNil⟩
theorem i_laws_heldClock {vs : List A1} {kk : AV → List A1 → Prop} {motive : List A1 → Prop} (h : con_laws_heldClock.F vs kk) (H : ∀ (a0Room : Int) (a0Keys : List Int) (a0Used : List Bool) (a0Hand : Int) (k1 : Int), F_laws_heldClock a0Room a0Keys a0Used a0Hand k1 (fun r0 => kk (.one (.c (.v (.int .i64 r0)))) []) → motive [.agg [.v (.int .i64 a0Room), .ro .int a0Keys, .ro .bool a0Used, .v (.int .i64 a0Hand)], .c (.v (.int .i64 k1))]) : motive vs := by
  unfold con_laws_heldClock at h
  dsimp only at h
  split at h
  · exact H _ _ _ _ _ h
  · exact h.elim
theorem h_laws_heldClock : Holds Try.prog 35 con_laws_heldClock := by
  refine holds_of_ev (rt := [.c .sc]) (T := TT) (Γ := cs_laws_heldClock) (an := an_laws_heldClock) (N := 18) (c := Try.f35.body.getD .skip) Try.func35 (by kernel_rfl) Try.ntmps35 (by decide) (by decide) mixed tabOK cok_laws_heldClock (by kernel_rfl) ?_
  intro vs kk _ hF
  exact i_laws_heldClock (motive := fun vs => Goes (ev TT cs_laws_heldClock 18 an_laws_heldClock (Try.f35.body.getD .skip) (st0 con_laws_heldClock vs) (fin TT con_laws_heldClock Try.f35.results.toList [.c .sc] vs kk))) hF (fun a0Room a0Keys a0Used a0Hand k1 hF => goes_of (e_laws_heldClock a0Room a0Keys a0Used a0Hand k1 kk) (F_laws_heldClock_S hF))
def con_laws_FnExactUseClock : Con := ⟨[.rd, .rd], true, [.agg [.sc, .sl .int, .sl .bool, .sc], .c (.sc)], fun vs k => match vs with
    | [.agg [.v (.int .i64 aC0Room), .ro .int aC0Keys, .ro .bool aC0Used, .v (.int .i64 aC0Hand)], .c (.v (.int .i64 aKey1))] => F_laws_FnExactUseClock aC0Room aC0Keys aC0Used aC0Hand aKey1 (fun r0 => k (.one (.c (.v (.bool r0)))) [])
    | _ => False, false⟩
def cl_laws_FnExactUseClock : List (FuncId × Con) := [(27, con_laws_szClock), (29, con_laws_toClock), (31, con_laws_eqClock), (32, con_spec_UseClock), (33, con_impl_UseClock), (34, con_laws_markClock), (35, con_laws_heldClock)]
def an_laws_FnExactUseClock : Ann := ⟨[(10, .take 0 (.take 1 (.alt 2 (.alt 3 (.take 4 (.done)) (.none)) (.none))), [32, 128])], [], []⟩
def cs_laws_FnExactUseClock : Cons := ⟨cl_laws_FnExactUseClock, [], 0, [], []⟩
def fin_laws_FnExactUseClock (aC0Room : Int) (aC0Keys : List Int) (aC0Used : List Bool) (aC0Hand : Int) (aKey1 : Int) (kk : AV → List A1 → Prop) : Kt := fin TT con_laws_FnExactUseClock Try.f9.results.toList [.c .sc] [.agg [.v (.int .i64 aC0Room), .ro .int aC0Keys, .ro .bool aC0Used, .v (.int .i64 aC0Hand)], .c (.v (.int .i64 aKey1))] kk
theorem g_laws_FnExactUseClock (aC0Room : Int) (aC0Keys : List Int) (aC0Used : List Bool) (aC0Hand : Int) (aKey1 : Int) (kk : AV → List A1 → Prop) :
    ev TT cs_laws_FnExactUseClock 101 an_laws_FnExactUseClock (Try.f9.body.getD .skip) (st0 con_laws_FnExactUseClock [.agg [.v (.int .i64 aC0Room), .ro .int aC0Keys, .ro .bool aC0Used, .v (.int .i64 aC0Hand)], .c (.v (.int .i64 aKey1))]) (fin TT con_laws_FnExactUseClock Try.f9.results.toList [.c .sc] [.agg [.v (.int .i64 aC0Room), .ro .int aC0Keys, .ro .bool aC0Used, .v (.int .i64 aC0Hand)], .c (.v (.int .i64 aKey1))] kk) = G_laws_FnExactUseClock aC0Room aC0Keys aC0Used aC0Hand aKey1 (fun r0 => kk (.one (.c (.v (.bool r0)))) []) := by kernel_rfl
theorem e_laws_FnExactUseClock (aC0Room : Int) (aC0Keys : List Int) (aC0Used : List Bool) (aC0Hand : Int) (aKey1 : Int) (kk : AV → List A1 → Prop) :
    ev TT cs_laws_FnExactUseClock 101 an_laws_FnExactUseClock (Try.f9.body.getD .skip) (st0 con_laws_FnExactUseClock [.agg [.v (.int .i64 aC0Room), .ro .int aC0Keys, .ro .bool aC0Used, .v (.int .i64 aC0Hand)], .c (.v (.int .i64 aKey1))]) (fin TT con_laws_FnExactUseClock Try.f9.results.toList [.c .sc] [.agg [.v (.int .i64 aC0Room), .ro .int aC0Keys, .ro .bool aC0Used, .v (.int .i64 aC0Hand)], .c (.v (.int .i64 aKey1))] kk) = S_laws_FnExactUseClock aC0Room aC0Keys aC0Used aC0Hand aKey1 (fun r0 => kk (.one (.c (.v (.bool r0)))) []) := by
  rw [g_laws_FnExactUseClock]
  rw [G_laws_FnExactUseClock_eq]
  rfl
theorem clok_laws_FnExactUseClock : ConOK Try.prog cl_laws_FnExactUseClock := consCons h_laws_szClock ⟨Try.f27, Try.func27, by kernel_rfl, ne_of_beq (by kernel_rfl)⟩ (consCons h_laws_toClock ⟨Try.f29, Try.func29, by kernel_rfl, ne_of_beq (by kernel_rfl)⟩ (consCons h_laws_eqClock ⟨Try.f31, Try.func31, by kernel_rfl, ne_of_beq (by kernel_rfl)⟩ (consCons h_spec_UseClock ⟨Try.f32, Try.func32, by kernel_rfl, ne_of_beq (by kernel_rfl)⟩ (consCons h_impl_UseClock ⟨Try.f33, Try.func33, by kernel_rfl, ne_of_beq (by kernel_rfl)⟩ (consCons h_laws_markClock ⟨Try.f34, Try.func34, by kernel_rfl, ne_of_beq (by kernel_rfl)⟩ (consCons h_laws_heldClock ⟨Try.f35, Try.func35, by kernel_rfl, ne_of_beq (by kernel_rfl)⟩ (consNil)))))))
theorem cok_laws_FnExactUseClock : ConsOK Try.prog 101 cs_laws_FnExactUseClock := ⟨clok_laws_FnExactUseClock, inlNil⟩
theorem i_laws_FnExactUseClock {vs : List A1} {kk : AV → List A1 → Prop} {motive : List A1 → Prop} (h : con_laws_FnExactUseClock.F vs kk) (H : ∀ (aC0Room : Int) (aC0Keys : List Int) (aC0Used : List Bool) (aC0Hand : Int) (aKey1 : Int), F_laws_FnExactUseClock aC0Room aC0Keys aC0Used aC0Hand aKey1 (fun r0 => kk (.one (.c (.v (.bool r0)))) []) → motive [.agg [.v (.int .i64 aC0Room), .ro .int aC0Keys, .ro .bool aC0Used, .v (.int .i64 aC0Hand)], .c (.v (.int .i64 aKey1))]) : motive vs := by
  unfold con_laws_FnExactUseClock at h
  dsimp only at h
  split at h
  · exact H _ _ _ _ _ h
  · exact h.elim
theorem h_laws_FnExactUseClock : Holds Try.prog 9 con_laws_FnExactUseClock := by
  refine holds_of_ev (rt := [.c .sc]) (T := TT) (Γ := cs_laws_FnExactUseClock) (an := an_laws_FnExactUseClock) (N := 101) (c := Try.f9.body.getD .skip) Try.func9 (by kernel_rfl) Try.ntmps9 (by decide) (by decide) mixed tabOK cok_laws_FnExactUseClock (by kernel_rfl) ?_
  intro vs kk _ hF
  exact i_laws_FnExactUseClock (motive := fun vs => Goes (ev TT cs_laws_FnExactUseClock 101 an_laws_FnExactUseClock (Try.f9.body.getD .skip) (st0 con_laws_FnExactUseClock vs) (fin TT con_laws_FnExactUseClock Try.f9.results.toList [.c .sc] vs kk))) hF (fun aC0Room aC0Keys aC0Used aC0Hand aKey1 hF => goes_of (e_laws_FnExactUseClock aC0Room aC0Keys aC0Used aC0Hand aKey1 kk) (F_laws_FnExactUseClock_S hF))
end Go.Ev
