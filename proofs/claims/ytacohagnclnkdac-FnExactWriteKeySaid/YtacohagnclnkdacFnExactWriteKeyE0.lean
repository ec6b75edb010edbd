/- What the evaluator gives for these functions: their contracts. No statement is proved here. -/
import Derived.Test.YtacohagnclnkdacFnExactWriteKeyP0
import Derived.Test.YtacohagnclnkdacTt
namespace Go.Ev
set_option linter.unusedVariables false
set_option linter.unusedSimpArgs false
set_option maxRecDepth 100000
open Go Go.Proofs
def con_laws_szIntS : Con := ⟨[.rd, .rd], true, [.c (.sl .int), .c (.sc)], fun vs k => match vs with
    | [.c (.ro .int a0), .c (.v (.int .i64 left1))] => F_laws_szIntS a0 left1 (fun r0 => k (.one (.c (.v (.int .i64 r0)))) [])
    | _ => False, false⟩
def cl_laws_szIntS : List (FuncId × Con) := []
def an_laws_szIntS : Ann := ⟨[], [], [], []⟩
def cs_laws_szIntS : Cons := ⟨cl_laws_szIntS, [], 0, [], [], []⟩
def fin_laws_szIntS (a0 : List Int) (left1 : Int) (kk : AV → List A1 → Prop) : Kt := fin TT con_laws_szIntS Try.f76.results.toList [.c .sc] [.c (.ro .int a0), .c (.v (.int .i64 left1))] kk
theorem g_laws_szIntS (a0 : List Int) (left1 : Int) (kk : AV → List A1 → Prop) :
    ev TT cs_laws_szIntS 12 an_laws_szIntS (Try.f76.body.getD .skip) (st0 con_laws_szIntS [.c (.ro .int a0), .c (.v (.int .i64 left1))]) (fin TT con_laws_szIntS Try.f76.results.toList [.c .sc] [.c (.ro .int a0), .c (.v (.int .i64 left1))] kk) = G_laws_szIntS a0 left1 (fun r0 => kk (.one (.c (.v (.int .i64 r0)))) []) := by kernel_rfl
theorem e_laws_szIntS (a0 : List Int) (left1 : Int) (kk : AV → List A1 → Prop) :
    ev TT cs_laws_szIntS 12 an_laws_szIntS (Try.f76.body.getD .skip) (st0 con_laws_szIntS [.c (.ro .int a0), .c (.v (.int .i64 left1))]) (fin TT con_laws_szIntS Try.f76.results.toList [.c .sc] [.c (.ro .int a0), .c (.v (.int .i64 left1))] kk) = S_laws_szIntS a0 left1 (fun r0 => kk (.one (.c (.v (.int .i64 r0)))) []) := by
  rw [g_laws_szIntS]
  rfl
theorem clok_laws_szIntS : ConOK Try.prog cl_laws_szIntS := consNil
theorem cok_laws_szIntS : ConsOK Try.prog 12 cs_laws_szIntS := ⟨clok_laws_szIntS, inlNil, ovNil⟩
theorem i_laws_szIntS {vs : List A1} {kk : AV → List A1 → Prop} {motive : List A1 → Prop} (h : con_laws_szIntS.F vs kk) (H : ∀ (a0 : List Int) (left1 : Int), F_laws_szIntS a0 left1 (fun r0 => kk (.one (.c (.v (.int .i64 r0)))) []) → motive [.c (.ro .int a0), .c (.v (.int .i64 left1))]) : motive vs := by
  unfold con_laws_szIntS at h
  dsimp only at h
  split at h
  · exact H _ _ h
  · exact h.elim
theorem h_laws_szIntS : Holds Try.prog 76 con_laws_szIntS := by
  refine holds_of_ev (rt := [.c .sc]) (T := TT) (Γ := cs_laws_szIntS) (an := an_laws_szIntS) (N := 12) (c := Try.f76.body.getD .skip) Try.func76 (by kernel_rfl) Try.ntmps76 (by decide) (by decide) mixed tabOK cok_laws_szIntS (by kernel_rfl) ?_
  intro vs kk _ hF
  exact i_laws_szIntS (motive := fun vs => Goes (ev TT cs_laws_szIntS 12 an_laws_szIntS (Try.f76.body.getD .skip) (st0 con_laws_szIntS vs) (fin TT con_laws_szIntS Try.f76.results.toList [.c .sc] vs kk))) hF (fun a0 left1 hF => goes_of (e_laws_szIntS a0 left1 kk) (F_laws_szIntS_S hF))
def con_laws_szLineS : Con := ⟨[.rd, .rd], true, [.c (.sl .iib), .c (.sc)], fun vs k => match vs with
    | [.c (.ro .iib a0), .c (.v (.int .i64 left1))] => F_laws_szLineS a0 left1 (fun r0 => k (.one (.c (.v (.int .i64 r0)))) [])
    | _ => False, false⟩
def cl_laws_szLineS : List (FuncId × Con) := []
def an_laws_szLineS : Ann := ⟨[], [], [], []⟩
def cs_laws_szLineS : Cons := ⟨cl_laws_szLineS, [], 0, [], [], []⟩
def fin_laws_szLineS (a0 : List (Int × Int × Bool)) (left1 : Int) (kk : AV → List A1 → Prop) : Kt := fin TT con_laws_szLineS Try.f77.results.toList [.c .sc] [.c (.ro .iib a0), .c (.v (.int .i64 left1))] kk
theorem g_laws_szLineS (a0 : List (Int × Int × Bool)) (left1 : Int) (kk : AV → List A1 → Prop) :
    ev TT cs_laws_szLineS 12 an_laws_szLineS (Try.f77.body.getD .skip) (st0 con_laws_szLineS [.c (.ro .iib a0), .c (.v (.int .i64 left1))]) (fin TT con_laws_szLineS Try.f77.results.toList [.c .sc] [.c (.ro .iib a0), .c (.v (.int .i64 left1))] kk) = G_laws_szLineS a0 left1 (fun r0 => kk (.one (.c (.v (.int .i64 r0)))) []) := by kernel_rfl
theorem e_laws_szLineS (a0 : List (Int × Int × Bool)) (left1 : Int) (kk : AV → List A1 → Prop) :
    ev TT cs_laws_szLineS 12 an_laws_szLineS (Try.f77.body.getD .skip) (st0 con_laws_szLineS [.c (.ro .iib a0), .c (.v (.int .i64 left1))]) (fin TT con_laws_szLineS Try.f77.results.toList [.c .sc] [.c (.ro .iib a0), .c (.v (.int .i64 left1))] kk) = S_laws_szLineS a0 left1 (fun r0 => kk (.one (.c (.v (.int .i64 r0)))) []) := by
  rw [g_laws_szLineS]
  rfl
theorem clok_laws_szLineS : ConOK Try.prog cl_laws_szLineS := consNil
theorem cok_laws_szLineS : ConsOK Try.prog 12 cs_laws_szLineS := ⟨clok_laws_szLineS, inlNil, ovNil⟩
theorem i_laws_szLineS {vs : List A1} {kk : AV → List A1 → Prop} {motive : List A1 → Prop} (h : con_laws_szLineS.F vs kk) (H : ∀ (a0 : List (Int × Int × Bool)) (left1 : Int), F_laws_szLineS a0 left1 (fun r0 => kk (.one (.c (.v (.int .i64 r0)))) []) → motive [.c (.ro .iib a0), .c (.v (.int .i64 left1))]) : motive vs := by
  unfold con_laws_szLineS at h
  dsimp only at h
  split at h
  · exact H _ _ h
  · exact h.elim
theorem h_laws_szLineS : Holds Try.prog 77 con_laws_szLineS := by
  refine holds_of_ev (rt := [.c .sc]) (T := TT) (Γ := cs_laws_szLineS) (an := an_laws_szLineS) (N := 12) (c := Try.f77.body.getD .skip) Try.func77 (by kernel_rfl) Try.ntmps77 (by decide) (by decide) mixed tabOK cok_laws_szLineS (by kernel_rfl) ?_
  intro vs kk _ hF
  exact i_laws_szLineS (motive := fun vs => Goes (ev TT cs_laws_szLineS 12 an_laws_szLineS (Try.f77.body.getD .skip) (st0 con_laws_szLineS vs) (fin TT con_laws_szLineS Try.f77.results.toList [.c .sc] vs kk))) hF (fun a0 left1 hF => goes_of (e_laws_szLineS a0 left1 kk) (F_laws_szLineS_S hF))
def con_laws_szMemory : Con := ⟨[.rd, .rd], true, [.agg [.sl .int, .sl .iib, .sc], .c (.sc)], fun vs k => match vs with
    | [.agg [.ro .int a0Store, .ro .iib a0Lines, .v (.int .i64 a0Room)], .c (.v (.int .i64 left1))] => F_laws_szMemory a0Store a0Lines a0Room left1 (fun r0 => k (.one (.c (.v (.int .i64 r0)))) [])
    | _ => False, false⟩
def cl_laws_szMemory : List (FuncId × Con) := [(76, con_laws_szIntS), (77, con_laws_szLineS)]
def an_laws_szMemory : Ann := ⟨[], [], [], []⟩
def cs_laws_szMemory : Cons := ⟨cl_laws_szMemory, [], 0, [], [], []⟩
def fin_laws_szMemory (a0Store : List Int) (a0Lines : List (Int × Int × Bool)) (a0Room : Int) (left1 : Int) (kk : AV → List A1 → Prop) : Kt := fin TT con_laws_szMemory Try.f28.results.toList [.c .sc] [.agg [.ro .int a0Store, .ro .iib a0Lines, .v (.int .i64 a0Room)], .c (.v (.int .i64 left1))] kk
theorem g_laws_szMemory (a0Store : List Int) (a0Lines : List (Int × Int × Bool)) (a0Room : Int) (left1 : Int) (kk : AV → List A1 → Prop) :
    ev TT cs_laws_szMemory 18 an_laws_szMemory (Try.f28.body.getD .skip) (st0 con_laws_szMemory [.agg [.ro .int a0Store, .ro .iib a0Lines, .v (.int .i64 a0Room)], .c (.v (.int .i64 left1))]) (fin TT con_laws_szMemory Try.f28.results.toList [.c .sc] [.agg [.ro .int a0Store, .ro .iib a0Lines, .v (.int .i64 a0Room)], .c (.v (.int .i64 left1))] kk) = G_laws_szMemory a0Store a0Lines a0Room left1 (fun r0 => kk (.one (.c (.v (.int .i64 r0)))) []) := by kernel_rfl
theorem e_laws_szMemory (a0Store : List Int) (a0Lines : List (Int × Int × Bool)) (a0Room : Int) (left1 : Int) (kk : AV → List A1 → Prop) :
    ev TT cs_laws_szMemory 18 an_laws_szMemory (Try.f28.body.getD .skip) (st0 con_laws_szMemory [.agg [.ro .int a0Store, .ro .iib a0Lines, .v (.int .i64 a0Room)], .c (.v (.int .i64 left1))]) (fin TT con_laws_szMemory Try.f28.results.toList [.c .sc] [.agg [.ro .int a0Store, .ro .iib a0Lines, .v (.int .i64 a0Room)], .c (.v (.int .i64 left1))] kk) = S_laws_szMemory a0Store a0Lines a0Room left1 (fun r0 => kk (.one (.c (.v (.int .i64 r0)))) []) := by
  rw [g_laws_szMemory]
  rfl
theorem clok_laws_szMemory : ConOK Try.prog cl_laws_szMemory := consCons h_laws_szIntS ⟨Try.f76, Try.func76, by kernel_rfl, ne_of_beq (by kernel_rfl)⟩ (consCons h_laws_szLineS ⟨Try.f77, Try.func77, by kernel_rfl, ne_of_beq (by kernel_rfl)⟩ (consNil))
theorem cok_laws_szMemory : ConsOK Try.prog 18 cs_laws_szMemory := ⟨clok_laws_szMemory, inlNil, ovNil⟩
theorem i_laws_szMemory {vs : List A1} {kk : AV → List A1 → Prop} {motive : List A1 → Prop} (h : con_laws_szMemory.F vs kk) (H : ∀ (a0Store : List Int) (a0Lines : List (Int × Int × Bool)) (a0Room : Int) (left1 : Int), F_laws_szMemory a0Store a0Lines a0Room left1 (fun r0 => kk (.one (.c (.v (.int .i64 r0)))) []) → motive [.agg [.ro .int a0Store, .ro .iib a0Lines, .v (.int .i64 a0Room)], .c (.v (.int .i64 left1))]) : motive vs := by
  unfold con_laws_szMemory at h
  dsimp only at h
  split at h
  · exact H _ _ _ _ h
  · exact h.elim
theorem h_laws_szMemory : Holds Try.prog 28 con_laws_szMemory := by
  refine holds_of_ev (rt := [.c .sc]) (T := TT) (Γ := cs_laws_szMemory) (an := an_laws_szMemory) (N := 18) (c := Try.f28.body.getD .skip) Try.func28 (by kernel_rfl) Try.ntmps28 (by decide) (by decide) mixed tabOK cok_laws_szMemory (by kernel_rfl) ?_
  intro vs kk _ hF
  exact i_laws_szMemory (motive := fun vs => Goes (ev TT cs_laws_szMemory 18 an_laws_szMemory (Try.f28.body.getD .skip) (st0 con_laws_szMemory vs) (fin TT con_laws_szMemory Try.f28.results.toList [.c .sc] vs kk))) hF (fun a0Store a0Lines a0Room left1 hF => goes_of (e_laws_szMemory a0Store a0Lines a0Room left1 kk) (F_laws_szMemory_S hF))
def con_laws_toIntS : Con := ⟨[.rd], true, [.c (.sl .int)], fun vs k => match vs with
    | [.c (.ro .int a0)] => F_laws_toIntS a0 (fun r0 => k (.one (.c (.ro .int r0))) [])
    | _ => False, false⟩
def cl_laws_toIntS : List (FuncId × Con) := []
def nm0_laws_toIntS : List NStep := [.keep [0, 3, 4] [112]]
def an_laws_toIntS : Ann := ⟨[], [(3, nm0_laws_toIntS)], [], []⟩
def cs_laws_toIntS : Cons := ⟨cl_laws_toIntS, [], 0, [], [], []⟩
def can0_laws_toIntS (a0 : List Int) (xi4 : Int) (xy7 : List Int) : St := ⟨[(0, .one (.c (.ro .int a0))), (3, .one (.c (.ow 112))), (4, .one (.c (.v (.int .i64 xi4))))], [(112, .row .int xy7)]⟩
def fin_laws_toIntS (a0 : List Int) (kk : AV → List A1 → Prop) : Kt := fin TT con_laws_toIntS Try.f78.results.toList [.c (.sl .int)] [.c (.ro .int a0)] kk
def kt0_laws_toIntS (kf : Kt) : Kt := blockK 0 (seqK (evF TT cs_laws_toIntS 22 an_laws_toIntS Try.f78 [1, 1, 1]) (kf))
theorem r0_laws_toIntS (a0 : List Int) (kk : AV → List A1 → Prop) (n : Nat) (xi4 : Int) (xy7 : List Int) :
    iter (evF TT cs_laws_toIntS 22 an_laws_toIntS Try.f78 [1, 1, 0, 1, 0, 0]) nm0_laws_toIntS (kt0_laws_toIntS (fin_laws_toIntS a0 kk)) (n + 1) (can0_laws_toIntS a0 xi4 xy7) = T0_laws_toIntS a0 xi4 xy7 (fun r0 => kk (.one (.c (.ro .int r0))) []) (fun xi4 xy7 => iter (evF TT cs_laws_toIntS 22 an_laws_toIntS Try.f78 [1, 1, 0, 1, 0, 0]) nm0_laws_toIntS (kt0_laws_toIntS (fin_laws_toIntS a0 kk)) n (can0_laws_toIntS a0 xi4 xy7)) := by kernel_rfl
theorem l0_laws_toIntS (a0 : List Int) (kk : AV → List A1 → Prop) : ∀ (n : Nat) (xi4 : Int) (xy7 : List Int), iter (evF TT cs_laws_toIntS 22 an_laws_toIntS Try.f78 [1, 1, 0, 1, 0, 0]) nm0_laws_toIntS (kt0_laws_toIntS (fin_laws_toIntS a0 kk)) n (can0_laws_toIntS a0 xi4 xy7) = L0_laws_toIntS a0 (fun r0 => kk (.one (.c (.ro .int r0))) []) n xi4 xy7 := by
  intro n
  induction n with
  | zero => intros; rfl
  | succ n ih =>
    intro xi4 xy7
    rw [r0_laws_toIntS a0 kk n xi4 xy7]
    have hb : (fun xi4 xy7 => iter (evF TT cs_laws_toIntS 22 an_laws_toIntS Try.f78 [1, 1, 0, 1, 0, 0]) nm0_laws_toIntS (kt0_laws_toIntS (fin_laws_toIntS a0 kk)) n (can0_laws_toIntS a0 xi4 xy7)) = L0_laws_toIntS a0 (fun r0 => kk (.one (.c (.ro .int r0))) []) n := by
      funext xi4 xy7; exact ih xi4 xy7
    rw [hb]
    rfl
theorem g_laws_toIntS (a0 : List Int) (kk : AV → List A1 → Prop) :
    ev TT cs_laws_toIntS 22 an_laws_toIntS (Try.f78.body.getD .skip) (st0 con_laws_toIntS [.c (.ro .int a0)]) (fin TT con_laws_toIntS Try.f78.results.toList [.c (.sl .int)] [.c (.ro .int a0)] kk) = G_laws_toIntS a0 (fun a0 xi4 xy7 => ∃ j, iter (evF TT cs_laws_toIntS 22 an_laws_toIntS Try.f78 [1, 1, 0, 1, 0, 0]) nm0_laws_toIntS (kt0_laws_toIntS (fin_laws_toIntS a0 kk)) j (can0_laws_toIntS a0 xi4 xy7)) := by kernel_rfl
theorem e_laws_toIntS (a0 : List Int) (kk : AV → List A1 → Prop) :
    ev TT cs_laws_toIntS 22 an_laws_toIntS (Try.f78.body.getD .skip) (st0 con_laws_toIntS [.c (.ro .int a0)]) (fin TT con_laws_toIntS Try.f78.results.toList [.c (.sl .int)] [.c (.ro .int a0)] kk) = S_laws_toIntS a0 (fun r0 => kk (.one (.c (.ro .int r0))) []) := by
  rw [g_laws_toIntS]
  have hi0 : (fun a0 xi4 xy7 => ∃ j, iter (evF TT cs_laws_toIntS 22 an_laws_toIntS Try.f78 [1, 1, 0, 1, 0, 0]) nm0_laws_toIntS (kt0_laws_toIntS (fin_laws_toIntS a0 kk)) j (can0_laws_toIntS a0 xi4 xy7)) = (fun a0 xi4 xy7 => ∃ j, L0_laws_toIntS a0 (fun r0 => kk (.one (.c (.ro .int r0))) []) j xi4 xy7) := by
    funext a0 xi4 xy7
    refine congrArg Exists (funext fun j => ?_)
    rw [l0_laws_toIntS a0 kk j xi4 xy7]
  rw [hi0]
  rfl
theorem clok_laws_toIntS : ConOK Try.prog cl_laws_toIntS := consNil
theorem cok_laws_toIntS : ConsOK Try.prog 22 cs_laws_toIntS := ⟨clok_laws_toIntS, inlNil, ovNil⟩
theorem i_laws_toIntS {vs : List A1} {kk : AV → List A1 → Prop} {motive : List A1 → Prop} (h : con_laws_toIntS.F vs kk) (H : ∀ (a0 : List Int), F_laws_toIntS a0 (fun r0 => kk (.one (.c (.ro .int r0))) []) → motive [.c (.ro .int a0)]) : motive vs := by
  unfold con_laws_toIntS at h
  dsimp only at h
  split at h
  · exact H _ h
  · exact h.elim
theorem h_laws_toIntS : Holds Try.prog 78 con_laws_toIntS := by
  refine holds_of_ev (rt := [.c (.sl .int)]) (T := TT) (Γ := cs_laws_toIntS) (an := an_laws_toIntS) (N := 22) (c := Try.f78.body.getD .skip) Try.func78 (by kernel_rfl) Try.ntmps78 (by decide) (by decide) mixed tabOK cok_laws_toIntS (by kernel_rfl) ?_
  intro vs kk _ hF
  exact i_laws_toIntS (motive := fun vs => Goes (ev TT cs_laws_toIntS 22 an_laws_toIntS (Try.f78.body.getD .skip) (st0 con_laws_toIntS vs) (fin TT con_laws_toIntS Try.f78.results.toList [.c (.sl .int)] vs kk))) hF (fun a0 hF => goes_of (e_laws_toIntS a0 kk) (F_laws_toIntS_S hF))
def con_laws_toLine : Con := ⟨[.rd], true, [.agg [.sc, .sc, .sc]], fun vs k => match vs with
    | [.agg [.v (.int .i64 a0Key), .v (.int .i64 a0Value), .v (.bool a0Dirty)]] => F_laws_toLine a0Key a0Value a0Dirty (fun r0 r1 r2 => k (.one (.agg [.v (.int .i64 r0), .v (.int .i64 r1), .v (.bool r2)])) [])
    | _ => False, false⟩
def cl_laws_toLine : List (FuncId × Con) := []
def an_laws_toLine : Ann := ⟨[], [], [], []⟩
def cs_laws_toLine : Cons := ⟨cl_laws_toLine, [], 0, [], [], []⟩
def fin_laws_toLine (a0Key : Int) (a0Value : Int) (a0Dirty : Bool) (kk : AV → List A1 → Prop) : Kt := fin TT con_laws_toLine Try.f102.results.toList [.agg [.sc, .sc, .sc]] [.agg [.v (.int .i64 a0Key), .v (.int .i64 a0Value), .v (.bool a0Dirty)]] kk
theorem g_laws_toLine (a0Key : Int) (a0Value : Int) (a0Dirty : Bool) (kk : AV → List A1 → Prop) :
    ev TT cs_laws_toLine 14 an_laws_toLine (Try.f102.body.getD .skip) (st0 con_laws_toLine [.agg [.v (.int .i64 a0Key), .v (.int .i64 a0Value), .v (.bool a0Dirty)]]) (fin TT con_laws_toLine Try.f102.results.toList [.agg [.sc, .sc, .sc]] [.agg [.v (.int .i64 a0Key), .v (.int .i64 a0Value), .v (.bool a0Dirty)]] kk) = G_laws_toLine a0Key a0Value a0Dirty (fun r0 r1 r2 => kk (.one (.agg [.v (.int .i64 r0), .v (.int .i64 r1), .v (.bool r2)])) []) := by kernel_rfl
theorem e_laws_toLine (a0Key : Int) (a0Value : Int) (a0Dirty : Bool) (kk : AV → List A1 → Prop) :
    ev TT cs_laws_toLine 14 an_laws_toLine (Try.f102.body.getD .skip) (st0 con_laws_toLine [.agg [.v (.int .i64 a0Key), .v (.int .i64 a0Value), .v (.bool a0Dirty)]]) (fin TT con_laws_toLine Try.f102.results.toList [.agg [.sc, .sc, .sc]] [.agg [.v (.int .i64 a0Key), .v (.int .i64 a0Value), .v (.bool a0Dirty)]] kk) = S_laws_toLine a0Key a0Value a0Dirty (fun r0 r1 r2 => kk (.one (.agg [.v (.int .i64 r0), .v (.int .i64 r1), .v (.bool r2)])) []) := by
  rw [g_laws_toLine]
  rfl
theorem clok_laws_toLine : ConOK Try.prog cl_laws_toLine := consNil
theorem cok_laws_toLine : ConsOK Try.prog 14 cs_laws_toLine := ⟨clok_laws_toLine, inlNil, ovNil⟩
theorem i_laws_toLine {vs : List A1} {kk : AV → List A1 → Prop} {motive : List A1 → Prop} (h : con_laws_toLine.F vs kk) (H : ∀ (a0Key : Int) (a0Value : Int) (a0Dirty : Bool), F_laws_toLine a0Key a0Value a0Dirty (fun r0 r1 r2 => kk (.one (.agg [.v (.int .i64 r0), .v (.int .i64 r1), .v (.bool r2)])) []) → motive [.agg [.v (.int .i64 a0Key), .v (.int .i64 a0Value), .v (.bool a0Dirty)]]) : motive vs := by
  unfold con_laws_toLine at h
  dsimp only at h
  split at h
  · exact H _ _ _ h
  · exact h.elim
theorem h_laws_toLine : Holds Try.prog 102 con_laws_toLine := by
  refine holds_of_ev (rt := [.agg [.sc, .sc, .sc]]) (T := TT) (Γ := cs_laws_toLine) (an := an_laws_toLine) (N := 14) (c := Try.f102.body.getD .skip) Try.func102 (by kernel_rfl) Try.ntmps102 (by decide) (by decide) mixed tabOK cok_laws_toLine (by kernel_rfl) ?_
  intro vs kk _ hF
  exact i_laws_toLine (motive := fun vs => Goes (ev TT cs_laws_toLine 14 an_laws_toLine (Try.f102.body.getD .skip) (st0 con_laws_toLine vs) (fin TT con_laws_toLine Try.f102.results.toList [.agg [.sc, .sc, .sc]] vs kk))) hF (fun a0Key a0Value a0Dirty hF => goes_of (e_laws_toLine a0Key a0Value a0Dirty kk) (F_laws_toLine_S hF))
def con_laws_toLineS : Con := ⟨[.rd], true, [.c (.sl .iib)], fun vs k => match vs with
    | [.c (.ro .iib a0)] => F_laws_toLineS a0 (fun r0 => k (.one (.c (.ro .iib r0))) [])
    | _ => False, false⟩
def cl_laws_toLineS : List (FuncId × Con) := [(102, con_laws_toLine)]
def nm0_laws_toLineS : List NStep := [.keep [0, 3, 4] [112]]
def an_laws_toLineS : Ann := ⟨[], [(3, nm0_laws_toLineS)], [], []⟩
def cs_laws_toLineS : Cons := ⟨cl_laws_toLineS, [], 0, [], [], []⟩
def can0_laws_toLineS (a0 : List (Int × Int × Bool)) (xi4 : Int) (xy7 : List (Int × Int × Bool)) : St := ⟨[(0, .one (.c (.ro .iib a0))), (3, .one (.c (.ow 112))), (4, .one (.c (.v (.int .i64 xi4))))], [(112, .row .iib xy7)]⟩
def fin_laws_toLineS (a0 : List (Int × Int × Bool)) (kk : AV → List A1 → Prop) : Kt := fin TT con_laws_toLineS Try.f79.results.toList [.c (.sl .iib)] [.c (.ro .iib a0)] kk
def kt0_laws_toLineS (kf : Kt) : Kt := blockK 0 (seqK (evF TT cs_laws_toLineS 23 an_laws_toLineS Try.f79 [1, 1, 1]) (kf))
theorem r0_laws_toLineS (a0 : List (Int × Int × Bool)) (kk : AV → List A1 → Prop) (n : Nat) (xi4 : Int) (xy7 : List (Int × Int × Bool)) :
    iter (evF TT cs_laws_toLineS 23 an_laws_toLineS Try.f79 [1, 1, 0, 1, 0, 0]) nm0_laws_toLineS (kt0_laws_toLineS (fin_laws_toLineS a0 kk)) (n + 1) (can0_laws_toLineS a0 xi4 xy7) = T0_laws_toLineS a0 xi4 xy7 (fun r0 => kk (.one (.c (.ro .iib r0))) []) (fun xi4 xy7 => iter (evF TT cs_laws_toLineS 23 an_laws_toLineS Try.f79 [1, 1, 0, 1, 0, 0]) nm0_laws_toLineS (kt0_laws_toLineS (fin_laws_toLineS a0 kk)) n (can0_laws_toLineS a0 xi4 xy7)) := by kernel_rfl
theorem l0_laws_toLineS (a0 : List (Int × Int × Bool)) (kk : AV → List A1 → Prop) : ∀ (n : Nat) (xi4 : Int) (xy7 : List (Int × Int × Bool)), iter (evF TT cs_laws_toLineS 23 an_laws_toLineS Try.f79 [1, 1, 0, 1, 0, 0]) nm0_laws_toLineS (kt0_laws_toLineS (fin_laws_toLineS a0 kk)) n (can0_laws_toLineS a0 xi4 xy7) = L0_laws_toLineS a0 (fun r0 => kk (.one (.c (.ro .iib r0))) []) n xi4 xy7 := by
  intro n
  induction n with
  | zero => intros; rfl
  | succ n ih =>
    intro xi4 xy7
    rw [r0_laws_toLineS a0 kk n xi4 xy7]
    have hb : (fun xi4 xy7 => iter (evF TT cs_laws_toLineS 23 an_laws_toLineS Try.f79 [1, 1, 0, 1, 0, 0]) nm0_laws_toLineS (kt0_laws_toLineS (fin_laws_toLineS a0 kk)) n (can0_laws_toLineS a0 xi4 xy7)) = L0_laws_toLineS a0 (fun r0 => kk (.one (.c (.ro .iib r0))) []) n := by
      funext xi4 xy7; exact ih xi4 xy7
    rw [hb]
    rfl
theorem g_laws_toLineS (a0 : List (Int × Int × Bool)) (kk : AV → List A1 → Prop) :
    ev TT cs_laws_toLineS 23 an_laws_toLineS (Try.f79.body.getD .skip) (st0 con_laws_toLineS [.c (.ro .iib a0)]) (fin TT con_laws_toLineS Try.f79.results.toList [.c (.sl .iib)] [.c (.ro .iib a0)] kk) = G_laws_toLineS a0 (fun a0 xi4 xy7 => ∃ j, iter (evF TT cs_laws_toLineS 23 an_laws_toLineS Try.f79 [1, 1, 0, 1, 0, 0]) nm0_laws_toLineS (kt0_laws_toLineS (fin_laws_toLineS a0 kk)) j (can0_laws_toLineS a0 xi4 xy7)) := by kernel_rfl
theorem e_laws_toLineS (a0 : List (Int × Int × Bool)) (kk : AV → List A1 → Prop) :
    ev TT cs_laws_toLineS 23 an_laws_toLineS (Try.f79.body.getD .skip) (st0 con_laws_toLineS [.c (.ro .iib a0)]) (fin TT con_laws_toLineS Try.f79.results.toList [.c (.sl .iib)] [.c (.ro .iib a0)] kk) = S_laws_toLineS a0 (fun r0 => kk (.one (.c (.ro .iib r0))) []) := by
  rw [g_laws_toLineS]
  have hi0 : (fun a0 xi4 xy7 => ∃ j, iter (evF TT cs_laws_toLineS 23 an_laws_toLineS Try.f79 [1, 1, 0, 1, 0, 0]) nm0_laws_toLineS (kt0_laws_toLineS (fin_laws_toLineS a0 kk)) j (can0_laws_toLineS a0 xi4 xy7)) = (fun a0 xi4 xy7 => ∃ j, L0_laws_toLineS a0 (fun r0 => kk (.one (.c (.ro .iib r0))) []) j xi4 xy7) := by
    funext a0 xi4 xy7
    refine congrArg Exists (funext fun j => ?_)
    rw [l0_laws_toLineS a0 kk j xi4 xy7]
  rw [hi0]
  rfl
theorem clok_laws_toLineS : ConOK Try.prog cl_laws_toLineS := consCons h_laws_toLine ⟨Try.f102, Try.func102, by kernel_rfl, ne_of_beq (by kernel_rfl)⟩ (consNil)
theorem cok_laws_toLineS : ConsOK Try.prog 23 cs_laws_toLineS := ⟨clok_laws_toLineS, inlNil, ovNil⟩
theorem i_laws_toLineS {vs : List A1} {kk : AV → List A1 → Prop} {motive : List A1 → Prop} (h : con_laws_toLineS.F vs kk) (H : ∀ (a0 : List (Int × Int × Bool)), F_laws_toLineS a0 (fun r0 => kk (.one (.c (.ro .iib r0))) []) → motive [.c (.ro .iib a0)]) : motive vs := by
  unfold con_laws_toLineS at h
  dsimp only at h
  split at h
  · exact H _ h
  · exact h.elim
theorem h_laws_toLineS : Holds Try.prog 79 con_laws_toLineS := by
  refine holds_of_ev (rt := [.c (.sl .iib)]) (T := TT) (Γ := cs_laws_toLineS) (an := an_laws_toLineS) (N := 23) (c := Try.f79.body.getD .skip) Try.func79 (by kernel_rfl) Try.ntmps79 (by decide) (by decide) mixed tabOK cok_laws_toLineS (by kernel_rfl) ?_
  intro vs kk _ hF
  exact i_laws_toLineS (motive := fun vs => Goes (ev TT cs_laws_toLineS 23 an_laws_toLineS (Try.f79.body.getD .skip) (st0 con_laws_toLineS vs) (fin TT con_laws_toLineS Try.f79.results.toList [.c (.sl .iib)] vs kk))) hF (fun a0 hF => goes_of (e_laws_toLineS a0 kk) (F_laws_toLineS_S hF))
def con_laws_toMemory : Con := ⟨[.rd], true, [.agg [.sl .int, .sl .iib, .sc]], fun vs k => match vs with
    | [.agg [.ro .int a0Store, .ro .iib a0Lines, .v (.int .i64 a0Room)]] => F_laws_toMemory a0Store a0Lines a0Room (fun r0 r1 r2 => k (.one (.agg [.ro .int r0, .ro .iib r1, .v (.int .i64 r2)])) [])
    | _ => False, false⟩
def cl_laws_toMemory : List (FuncId × Con) := [(78, con_laws_toIntS), (79, con_laws_toLineS)]
def an_laws_toMemory : Ann := ⟨[], [], [], []⟩
def cs_laws_toMemory : Cons := ⟨cl_laws_toMemory, [], 0, [], [], []⟩
def fin_laws_toMemory (a0Store : List Int) (a0Lines : List (Int × Int × Bool)) (a0Room : Int) (kk : AV → List A1 → Prop) : Kt := fin TT con_laws_toMemory Try.f30.results.toList [.agg [.sl .int, .sl .iib, .sc]] [.agg [.ro .int a0Store, .ro .iib a0Lines, .v (.int .i64 a0Room)]] kk
theorem g_laws_toMemory (a0Store : List Int) (a0Lines : List (Int × Int × Bool)) (a0Room : Int) (kk : AV → List A1 → Prop) :
    ev TT cs_laws_toMemory 16 an_laws_toMemory (Try.f30.body.getD .skip) (st0 con_laws_toMemory [.agg [.ro .int a0Store, .ro .iib a0Lines, .v (.int .i64 a0Room)]]) (fin TT con_laws_toMemory Try.f30.results.toList [.agg [.sl .int, .sl .iib, .sc]] [.agg [.ro .int a0Store, .ro .iib a0Lines, .v (.int .i64 a0Room)]] kk) = G_laws_toMemory a0Store a0Lines a0Room (fun r0 r1 r2 => kk (.one (.agg [.ro .int r0, .ro .iib r1, .v (.int .i64 r2)])) []) := by kernel_rfl
theorem e_laws_toMemory (a0Store : List Int) (a0Lines : List (Int × Int × Bool)) (a0Room : Int) (kk : AV → List A1 → Prop) :
    ev TT cs_laws_toMemory 16 an_laws_toMemory (Try.f30.body.getD .skip) (st0 con_laws_toMemory [.agg [.ro .int a0Store, .ro .iib a0Lines, .v (.int .i64 a0Room)]]) (fin TT con_laws_toMemory Try.f30.results.toList [.agg [.sl .int, .sl .iib, .sc]] [.agg [.ro .int a0Store, .ro .iib a0Lines, .v (.int .i64 a0Room)]] kk) = S_laws_toMemory a0Store a0Lines a0Room (fun r0 r1 r2 => kk (.one (.agg [.ro .int r0, .ro .iib r1, .v (.int .i64 r2)])) []) := by
  rw [g_laws_toMemory]
  rfl
theorem clok_laws_toMemory : ConOK Try.prog cl_laws_toMemory := consCons h_laws_toIntS ⟨Try.f78, Try.func78, by kernel_rfl, ne_of_beq (by kernel_rfl)⟩ (consCons h_laws_toLineS ⟨Try.f79, Try.func79, by kernel_rfl, ne_of_beq (by kernel_rfl)⟩ (consNil))
theorem cok_laws_toMemory : ConsOK Try.prog 16 cs_laws_toMemory := ⟨clok_laws_toMemory, inlNil, ovNil⟩
theorem i_laws_toMemory {vs : List A1} {kk : AV → List A1 → Prop} {motive : List A1 → Prop} (h : con_laws_toMemory.F vs kk) (H : ∀ (a0Store : List Int) (a0Lines : List (Int × Int × Bool)) (a0Room : Int), F_laws_toMemory a0Store a0Lines a0Room (fun r0 r1 r2 => kk (.one (.agg [.ro .int r0, .ro .iib r1, .v (.int .i64 r2)])) []) → motive [.agg [.ro .int a0Store, .ro .iib a0Lines, .v (.int .i64 a0Room)]]) : motive vs := by
  unfold con_laws_toMemory at h
  dsimp only at h
  split at h
  · exact H _ _ _ h
  · exact h.elim
theorem h_laws_toMemory : Holds Try.prog 30 con_laws_toMemory := by
  refine holds_of_ev (rt := [.agg [.sl .int, .sl .iib, .sc]]) (T := TT) (Γ := cs_laws_toMemory) (an := an_laws_toMemory) (N := 16) (c := Try.f30.body.getD .skip) Try.func30 (by kernel_rfl) Try.ntmps30 (by decide) (by decide) mixed tabOK cok_laws_toMemory (by kernel_rfl) ?_
  intro vs kk _ hF
  exact i_laws_toMemory (motive := fun vs => Goes (ev TT cs_laws_toMemory 16 an_laws_toMemory (Try.f30.body.getD .skip) (st0 con_laws_toMemory vs) (fin TT con_laws_toMemory Try.f30.results.toList [.agg [.sl .int, .sl .iib, .sc]] vs kk))) hF (fun a0Store a0Lines a0Room hF => goes_of (e_laws_toMemory a0Store a0Lines a0Room kk) (F_laws_toMemory_S hF))
def con_spec_inRange : Con := ⟨[.rd, .rd, .rd], true, [.c (.sc), .c (.sc), .c (.sc)], fun vs k => match vs with
    | [.c (.v (.int .i64 n0)), .c (.v (.int .i64 low1)), .c (.v (.int .i64 high2))] => F_spec_inRange n0 low1 high2 (fun r0 => k (.one (.c (.v (.bool r0)))) [])
    | _ => False, false⟩
def cl_spec_inRange : List (FuncId × Con) := []
def an_spec_inRange : Ann := ⟨[], [], [], []⟩
def cs_spec_inRange : Cons := ⟨cl_spec_inRange, [], 0, [], [], []⟩
def fin_spec_inRange (n0 : Int) (low1 : Int) (high2 : Int) (kk : AV → List A1 → Prop) : Kt := fin TT con_spec_inRange Try.f54.results.toList [.c .sc] [.c (.v (.int .i64 n0)), .c (.v (.int .i64 low1)), .c (.v (.int .i64 high2))] kk
theorem g_spec_inRange (n0 : Int) (low1 : Int) (high2 : Int) (kk : AV → List A1 → Prop) :
    ev TT cs_spec_inRange 15 an_spec_inRange (Try.f54.body.getD .skip) (st0 con_spec_inRange [.c (.v (.int .i64 n0)), .c (.v (.int .i64 low1)), .c (.v (.int .i64 high2))]) (fin TT con_spec_inRange Try.f54.results.toList [.c .sc] [.c (.v (.int .i64 n0)), .c (.v (.int .i64 low1)), .c (.v (.int .i64 high2))] kk) = G_spec_inRange n0 low1 high2 (fun r0 => kk (.one (.c (.v (.bool r0)))) []) := by kernel_rfl
theorem e_spec_inRange (n0 : Int) (low1 : Int) (high2 : Int) (kk : AV → List A1 → Prop) :
    ev TT cs_spec_inRange 15 an_spec_inRange (Try.f54.body.getD .skip) (st0 con_spec_inRange [.c (.v (.int .i64 n0)), .c (.v (.int .i64 low1)), .c (.v (.int .i64 high2))]) (fin TT con_spec_inRange Try.f54.results.toList [.c .sc] [.c (.v (.int .i64 n0)), .c (.v (.int .i64 low1)), .c (.v (.int .i64 high2))] kk) = S_spec_inRange n0 low1 high2 (fun r0 => kk (.one (.c (.v (.bool r0)))) []) := by
  rw [g_spec_inRange]
  rfl
theorem clok_spec_inRange : ConOK Try.prog cl_spec_inRange := consNil
theorem cok_spec_inRange : ConsOK Try.prog 15 cs_spec_inRange := ⟨clok_spec_inRange, inlNil, ovNil⟩
theorem i_spec_inRange {vs : List A1} {kk : AV → List A1 → Prop} {motive : List A1 → Prop} (h : con_spec_inRange.F vs kk) (H : ∀ (n0 : Int) (low1 : Int) (high2 : Int), F_spec_inRange n0 low1 high2 (fun r0 => kk (.one (.c (.v (.bool r0)))) []) → motive [.c (.v (.int .i64 n0)), .c (.v (.int .i64 low1)), .c (.v (.int .i64 high2))]) : motive vs := by
  unfold con_spec_inRange at h
  dsimp only at h
  split at h
  · exact H _ _ _ h
  · exact h.elim
theorem h_spec_inRange : Holds Try.prog 54 con_spec_inRange := by
  refine holds_of_ev (rt := [.c .sc]) (T := TT) (Γ := cs_spec_inRange) (an := an_spec_inRange) (N := 15) (c := Try.f54.body.getD .skip) Try.func54 (by kernel_rfl) Try.ntmps54 (by decide) (by decide) mixed tabOK cok_spec_inRange (by kernel_rfl) ?_
  intro vs kk _ hF
  exact i_spec_inRange (motive := fun vs => Goes (ev TT cs_spec_inRange 15 an_spec_inRange (Try.f54.body.getD .skip) (st0 con_spec_inRange vs) (fin TT con_spec_inRange Try.f54.results.toList [.c .sc] vs kk))) hF (fun n0 low1 high2 hF => goes_of (e_spec_inRange n0 low1 high2 kk) (F_spec_inRange_S hF))
def con_spec_allIn : Con := ⟨[.rd, .rd, .rd], true, [.c (.sl .int), .c (.sc), .c (.sc)], fun vs k => match vs with
    | [.c (.ro .int list0), .c (.v (.int .i64 low1)), .c (.v (.int .i64 high2))] => F_spec_allIn list0 low1 high2 (fun r0 => k (.one (.c (.v (.bool r0)))) [])
    | _ => False, false⟩
def cl_spec_allIn : List (FuncId × Con) := [(54, con_spec_inRange)]
def nm0_spec_allIn : List NStep := [.keep [0, 1, 2, 7] []]
def an_spec_allIn : Ann := ⟨[], [(2, nm0_spec_allIn)], [], []⟩
def cs_spec_allIn : Cons := ⟨cl_spec_allIn, [], 0, [], [], []⟩
def can0_spec_allIn (high2 : Int) (list0 : List Int) (low1 : Int) (xi7 : Int) : St := ⟨[(0, .one (.c (.ro .int list0))), (1, .one (.c (.v (.int .i64 low1)))), (2, .one (.c (.v (.int .i64 high2)))), (7, .one (.c (.v (.int .i64 xi7))))], []⟩
def fin_spec_allIn (list0 : List Int) (low1 : Int) (high2 : Int) (kk : AV → List A1 → Prop) : Kt := fin TT con_spec_allIn Try.f91.results.toList [.c .sc] [.c (.ro .int list0), .c (.v (.int .i64 low1)), .c (.v (.int .i64 high2))] kk
def kt0_spec_allIn (kf : Kt) : Kt := blockK 0 (seqK (evF TT cs_spec_allIn 22 an_spec_allIn Try.f91 [1, 1]) (kf))
theorem r0_spec_allIn (list0 : List Int) (low1 : Int) (high2 : Int) (kk : AV → List A1 → Prop) (n : Nat) (xi7 : Int) :
    iter (evF TT cs_spec_allIn 22 an_spec_allIn Try.f91 [1, 0, 1, 0, 0]) nm0_spec_allIn (kt0_spec_allIn (fin_spec_allIn list0 low1 high2 kk)) (n + 1) (can0_spec_allIn high2 list0 low1 xi7) = T0_spec_allIn high2 list0 low1 xi7 (fun r0 => kk (.one (.c (.v (.bool r0)))) []) (fun xi7 => iter (evF TT cs_spec_allIn 22 an_spec_allIn Try.f91 [1, 0, 1, 0, 0]) nm0_spec_allIn (kt0_spec_allIn (fin_spec_allIn list0 low1 high2 kk)) n (can0_spec_allIn high2 list0 low1 xi7)) := by kernel_rfl
theorem l0_spec_allIn (list0 : List Int) (low1 : Int) (high2 : Int) (kk : AV → List A1 → Prop) : ∀ (n : Nat) (xi7 : Int), iter (evF TT cs_spec_allIn 22 an_spec_allIn Try.f91 [1, 0, 1, 0, 0]) nm0_spec_allIn (kt0_spec_allIn (fin_spec_allIn list0 low1 high2 kk)) n (can0_spec_allIn high2 list0 low1 xi7) = L0_spec_allIn high2 list0 low1 (fun r0 => kk (.one (.c (.v (.bool r0)))) []) n xi7 := by
  intro n
  induction n with
  | zero => intros; rfl
  | succ n ih =>
    intro xi7
    rw [r0_spec_allIn list0 low1 high2 kk n xi7]
    have hb : (fun xi7 => iter (evF TT cs_spec_allIn 22 an_spec_allIn Try.f91 [1, 0, 1, 0, 0]) nm0_spec_allIn (kt0_spec_allIn (fin_spec_allIn list0 low1 high2 kk)) n (can0_spec_allIn high2 list0 low1 xi7)) = L0_spec_allIn high2 list0 low1 (fun r0 => kk (.one (.c (.v (.bool r0)))) []) n := by
      funext xi7; exact ih xi7
    rw [hb]
    rfl
theorem g_spec_allIn (list0 : List Int) (low1 : Int) (high2 : Int) (kk : AV → List A1 → Prop) :
    ev TT cs_spec_allIn 22 an_spec_allIn (Try.f91.body.getD .skip) (st0 con_spec_allIn [.c (.ro .int list0), .c (.v (.int .i64 low1)), .c (.v (.int .i64 high2))]) (fin TT con_spec_allIn Try.f91.results.toList [.c .sc] [.c (.ro .int list0), .c (.v (.int .i64 low1)), .c (.v (.int .i64 high2))] kk) = G_spec_allIn list0 low1 high2 (fun high2 list0 low1 xi7 => ∃ j, iter (evF TT cs_spec_allIn 22 an_spec_allIn Try.f91 [1, 0, 1, 0, 0]) nm0_spec_allIn (kt0_spec_allIn (fin_spec_allIn list0 low1 high2 kk)) j (can0_spec_allIn high2 list0 low1 xi7)) := by kernel_rfl
theorem e_spec_allIn (list0 : List Int) (low1 : Int) (high2 : Int) (kk : AV → List A1 → Prop) :
    ev TT cs_spec_allIn 22 an_spec_allIn (Try.f91.body.getD .skip) (st0 con_spec_allIn [.c (.ro .int list0), .c (.v (.int .i64 low1)), .c (.v (.int .i64 high2))]) (fin TT con_spec_allIn Try.f91.results.toList [.c .sc] [.c (.ro .int list0), .c (.v (.int .i64 low1)), .c (.v (.int .i64 high2))] kk) = S_spec_allIn list0 low1 high2 (fun r0 => kk (.one (.c (.v (.bool r0)))) []) := by
  rw [g_spec_allIn]
  have hi0 : (fun high2 list0 low1 xi7 => ∃ j, iter (evF TT cs_spec_allIn 22 an_spec_allIn Try.f91 [1, 0, 1, 0, 0]) nm0_spec_allIn (kt0_spec_allIn (fin_spec_allIn list0 low1 high2 kk)) j (can0_spec_allIn high2 list0 low1 xi7)) = (fun high2 list0 low1 xi7 => ∃ j, L0_spec_allIn high2 list0 low1 (fun r0 => kk (.one (.c (.v (.bool r0)))) []) j xi7) := by
    funext high2 list0 low1 xi7
    refine congrArg Exists (funext fun j => ?_)
    rw [l0_spec_allIn list0 low1 high2 kk j xi7]
  rw [hi0]
  rfl
theorem clok_spec_allIn : ConOK Try.prog cl_spec_allIn := consCons h_spec_inRange ⟨Try.f54, Try.func54, by kernel_rfl, ne_of_beq (by kernel_rfl)⟩ (consNil)
theorem cok_spec_allIn : ConsOK Try.prog 22 cs_spec_allIn := ⟨clok_spec_allIn, inlNil, ovNil⟩
theorem i_spec_allIn {vs : List A1} {kk : AV → List A1 → Prop} {motive : List A1 → Prop} (h : con_spec_allIn.F vs kk) (H : ∀ (list0 : List Int) (low1 : Int) (high2 : Int), F_spec_allIn list0 low1 high2 (fun r0 => kk (.one (.c (.v (.bool r0)))) []) → motive [.c (.ro .int list0), .c (.v (.int .i64 low1)), .c (.v (.int .i64 high2))]) : motive vs := by
  unfold con_spec_allIn at h
  dsimp only at h
  split at h
  · exact H _ _ _ h
  · exact h.elim
theorem h_spec_allIn : Holds Try.prog 91 con_spec_allIn := by
  refine holds_of_ev (rt := [.c .sc]) (T := TT) (Γ := cs_spec_allIn) (an := an_spec_allIn) (N := 22) (c := Try.f91.body.getD .skip) Try.func91 (by kernel_rfl) Try.ntmps91 (by decide) (by decide) mixed tabOK cok_spec_allIn (by kernel_rfl) ?_
  intro vs kk _ hF
  exact i_spec_allIn (motive := fun vs => Goes (ev TT cs_spec_allIn 22 an_spec_allIn (Try.f91.body.getD .skip) (st0 con_spec_allIn vs) (fin TT con_spec_allIn Try.f91.results.toList [.c .sc] vs kk))) hF (fun list0 low1 high2 hF => goes_of (e_spec_allIn list0 low1 high2 kk) (F_spec_allIn_S hF))
def con_spec_validLines : Con := ⟨[.rd, .rd], true, [.c (.sl .iib), .c (.sc)], fun vs k => match vs with
    | [.c (.ro .iib list0), .c (.v (.int .i64 room1))] => F_spec_validLines list0 room1 (fun r0 => k (.one (.c (.v (.bool r0)))) [])
    | _ => False, false⟩
def cl_spec_validLines : List (FuncId × Con) := [(54, con_spec_inRange)]
def nm1_spec_validLines : List NStep := [.keep [0, 1, 5, 6] []]
def nm0_spec_validLines : List NStep := [.keep [0, 1, 5] []]
def an_spec_validLines : Ann := ⟨[(9, .take 0 (.take 1 (.take 2 (.take 3 (.take 4 (.take 5 (.take 6 (.take 7 (.take 8 (.take 9 (.take 10 (.done))))))))))), [])], [(7, nm1_spec_validLines), (2, nm0_spec_validLines)], [], []⟩
def cs_spec_validLines : Cons := ⟨cl_spec_validLines, [], 0, [], [], []⟩
def can1_spec_validLines (list0 : List (Int × Int × Bool)) (room1 : Int) (xi5 : Int) (xk6 : Int) : St := ⟨[(0, .one (.c (.ro .iib list0))), (1, .one (.c (.v (.int .i64 room1)))), (5, .one (.c (.v (.int .i64 xi5)))), (6, .one (.c (.v (.int .i64 xk6))))], []⟩
def can0_spec_validLines (list0 : List (Int × Int × Bool)) (room1 : Int) (xi5 : Int) : St := ⟨[(0, .one (.c (.ro .iib list0))), (1, .one (.c (.v (.int .i64 room1)))), (5, .one (.c (.v (.int .i64 xi5))))], []⟩
def fin_spec_validLines (list0 : List (Int × Int × Bool)) (room1 : Int) (kk : AV → List A1 → Prop) : Kt := fin TT con_spec_validLines Try.f92.results.toList [.c .sc] [.c (.ro .iib list0), .c (.v (.int .i64 room1))] kk
def kt1_spec_validLines (kf : Kt) (b0 : St → Prop) : Kt := blockK 2 (blockK 1 (seqK (evF TT cs_spec_validLines 53 an_spec_validLines Try.f92 [1, 0, 1, 0, 0, 1, 1]) (backK nm0_spec_validLines b0 (blockK 0 (seqK (evF TT cs_spec_validLines 53 an_spec_validLines Try.f92 [1, 1]) (kf))))))
def kt0_spec_validLines (kf : Kt) : Kt := blockK 0 (seqK (evF TT cs_spec_validLines 53 an_spec_validLines Try.f92 [1, 1]) (kf))
theorem r1_spec_validLines (list0 : List (Int × Int × Bool)) (room1 : Int) (xi5 : Int) (kk : AV → List A1 → Prop) (b0 : St → Prop) (n : Nat) (xk6 : Int) :
    iter (evF TT cs_spec_validLines 53 an_spec_validLines Try.f92 [1, 0, 1, 0, 0, 1, 0, 0, 1, 1, 0, 0]) nm1_spec_validLines (kt1_spec_validLines (fin_spec_validLines list0 room1 kk) b0) (n + 1) (can1_spec_validLines list0 room1 xi5 xk6) = T1_spec_validLines list0 room1 xi5 xk6 (fun r0 => kk (.one (.c (.v (.bool r0)))) []) (fun xi5 => b0 (can0_spec_validLines list0 room1 xi5)) (fun xk6 => iter (evF TT cs_spec_validLines 53 an_spec_validLines Try.f92 [1, 0, 1, 0, 0, 1, 0, 0, 1, 1, 0, 0]) nm1_spec_validLines (kt1_spec_validLines (fin_spec_validLines list0 room1 kk) b0) n (can1_spec_validLines list0 room1 xi5 xk6)) := by kernel_rfl
theorem l1_spec_validLines (list0 : List (Int × Int × Bool)) (room1 : Int) (xi5 : Int) (kk : AV → List A1 → Prop) (b0 : St → Prop) : ∀ (n : Nat) (xk6 : Int), iter (evF TT cs_spec_validLines 53 an_spec_validLines Try.f92 [1, 0, 1, 0, 0, 1, 0, 0, 1, 1, 0, 0]) nm1_spec_validLines (kt1_spec_validLines (fin_spec_validLines list0 room1 kk) b0) n (can1_spec_validLines list0 room1 xi5 xk6) = L1_spec_validLines list0 room1 xi5 (fun r0 => kk (.one (.c (.v (.bool r0)))) []) (fun xi5 => b0 (can0_spec_validLines list0 room1 xi5)) n xk6 := by
  intro n
  induction n with
  | zero => intros; rfl
  | succ n ih =>
    intro xk6
    rw [r1_spec_validLines list0 room1 xi5 kk b0 n xk6]
    have hb : (fun xk6 => iter (evF TT cs_spec_validLines 53 an_spec_validLines Try.f92 [1, 0, 1, 0, 0, 1, 0, 0, 1, 1, 0, 0]) nm1_spec_validLines (kt1_spec_validLines (fin_spec_validLines list0 room1 kk) b0) n (can1_spec_validLines list0 room1 xi5 xk6)) = L1_spec_validLines list0 room1 xi5 (fun r0 => kk (.one (.c (.v (.bool r0)))) []) (fun xi5 => b0 (can0_spec_validLines list0 room1 xi5)) n := by
      funext xk6; exact ih xk6
    rw [hb]
    rfl
theorem r0_spec_validLines (list0 : List (Int × Int × Bool)) (room1 : Int) (kk : AV → List A1 → Prop) (n : Nat) (xi5 : Int) :
    iter (evF TT cs_spec_validLines 53 an_spec_validLines Try.f92 [1, 0, 1, 0, 0]) nm0_spec_validLines (kt0_spec_validLines (fin_spec_validLines list0 room1 kk)) (n + 1) (can0_spec_validLines list0 room1 xi5) = T0_spec_validLines list0 room1 xi5 (fun r0 => kk (.one (.c (.v (.bool r0)))) []) (fun list0 room1 xi5 xk6 => ∃ j, iter (evF TT cs_spec_validLines 53 an_spec_validLines Try.f92 [1, 0, 1, 0, 0, 1, 0, 0, 1, 1, 0, 0]) nm1_spec_validLines (kt1_spec_validLines (fin_spec_validLines list0 room1 kk) (iter (evF TT cs_spec_validLines 53 an_spec_validLines Try.f92 [1, 0, 1, 0, 0]) nm0_spec_validLines (kt0_spec_validLines (fin_spec_validLines list0 room1 kk)) n)) j (can1_spec_validLines list0 room1 xi5 xk6)) := by kernel_rfl
theorem l0_spec_validLines (list0 : List (Int × Int × Bool)) (room1 : Int) (kk : AV → List A1 → Prop) : ∀ (n : Nat) (xi5 : Int), iter (evF TT cs_spec_validLines 53 an_spec_validLines Try.f92 [1, 0, 1, 0, 0]) nm0_spec_validLines (kt0_spec_validLines (fin_spec_validLines list0 room1 kk)) n (can0_spec_validLines list0 room1 xi5) = L0_spec_validLines list0 room1 (fun r0 => kk (.one (.c (.v (.bool r0)))) []) n xi5 := by
  intro n
  induction n generalizing list0 room1 with
  | zero => intros; rfl
  | succ n ih =>
    intro xi5
    rw [r0_spec_validLines list0 room1 kk n xi5]
    have hb : ∀ (list0 : List (Int × Int × Bool)) (room1 : Int), (fun xi5 => iter (evF TT cs_spec_validLines 53 an_spec_validLines Try.f92 [1, 0, 1, 0, 0]) nm0_spec_validLines (kt0_spec_validLines (fin_spec_validLines list0 room1 kk)) n (can0_spec_validLines list0 room1 xi5)) = L0_spec_validLines list0 room1 (fun r0 => kk (.one (.c (.v (.bool r0)))) []) n := by
      intro list0 room1
      funext xi5; exact ih list0 room1 xi5
    have hi1 : (fun list0 room1 xi5 xk6 => ∃ j, iter (evF TT cs_spec_validLines 53 an_spec_validLines Try.f92 [1, 0, 1, 0, 0, 1, 0, 0, 1, 1, 0, 0]) nm1_spec_validLines (kt1_spec_validLines (fin_spec_validLines list0 room1 kk) (iter (evF TT cs_spec_validLines 53 an_spec_validLines Try.f92 [1, 0, 1, 0, 0]) nm0_spec_validLines (kt0_spec_validLines (fin_spec_validLines list0 room1 kk)) n)) j (can1_spec_validLines list0 room1 xi5 xk6)) = (fun list0 room1 xi5 xk6 => ∃ j, L1_spec_validLines list0 room1 xi5 (fun r0 => kk (.one (.c (.v (.bool r0)))) []) (L0_spec_validLines list0 room1 (fun r0 => kk (.one (.c (.v (.bool r0)))) []) n) j xk6) := by
      funext list0 room1 xi5 xk6
      refine congrArg Exists (funext fun j => ?_)
      rw [l1_spec_validLines list0 room1 xi5 kk (iter (evF TT cs_spec_validLines 53 an_spec_validLines Try.f92 [1, 0, 1, 0, 0]) nm0_spec_validLines (kt0_spec_validLines (fin_spec_validLines list0 room1 kk)) n) j xk6]
      rw [hb]
    rw [hi1]
    rfl
theorem g_spec_validLines (list0 : List (Int × Int × Bool)) (room1 : Int) (kk : AV → List A1 → Prop) :
    ev TT cs_spec_validLines 53 an_spec_validLines (Try.f92.body.getD .skip) (st0 con_spec_validLines [.c (.ro .iib list0), .c (.v (.int .i64 room1))]) (fin TT con_spec_validLines Try.f92.results.toList [.c .sc] [.c (.ro .iib list0), .c (.v (.int .i64 room1))] kk) = G_spec_validLines list0 room1 (fun list0 room1 xi5 => ∃ j, iter (evF TT cs_spec_validLines 53 an_spec_validLines Try.f92 [1, 0, 1, 0, 0]) nm0_spec_validLines (kt0_spec_validLines (fin_spec_validLines list0 room1 kk)) j (can0_spec_validLines list0 room1 xi5)) := by kernel_rfl
theorem e_spec_validLines (list0 : List (Int × Int × Bool)) (room1 : Int) (kk : AV → List A1 → Prop) :
    ev TT cs_spec_validLines 53 an_spec_validLines (Try.f92.body.getD .skip) (st0 con_spec_validLines [.c (.ro .iib list0), .c (.v (.int .i64 room1))]) (fin TT con_spec_validLines Try.f92.results.toList [.c .sc] [.c (.ro .iib list0), .c (.v (.int .i64 room1))] kk) = S_spec_validLines list0 room1 (fun r0 => kk (.one (.c (.v (.bool r0)))) []) := by
  rw [g_spec_validLines]
  have hi0 : (fun list0 room1 xi5 => ∃ j, iter (evF TT cs_spec_validLines 53 an_spec_validLines Try.f92 [1, 0, 1, 0, 0]) nm0_spec_validLines (kt0_spec_validLines (fin_spec_validLines list0 room1 kk)) j (can0_spec_validLines list0 room1 xi5)) = (fun list0 room1 xi5 => ∃ j, L0_spec_validLines list0 room1 (fun r0 => kk (.one (.c (.v (.bool r0)))) []) j xi5) := by
    funext list0 room1 xi5
    refine congrArg Exists (funext fun j => ?_)
    rw [l0_spec_validLines list0 room1 kk j xi5]
  rw [hi0]
  rfl
theorem clok_spec_validLines : ConOK Try.prog cl_spec_validLines := consCons h_spec_inRange ⟨Try.f54, Try.func54, by kernel_rfl, ne_of_beq (by kernel_rfl)⟩ (consNil)
theorem cok_spec_validLines : ConsOK Try.prog 53 cs_spec_validLines := ⟨clok_spec_validLines, inlNil, ovNil⟩
theorem i_spec_validLines {vs : List A1} {kk : AV → List A1 → Prop} {motive : List A1 → Prop} (h : con_spec_validLines.F vs kk) (H : ∀ (list0 : List (Int × Int × Bool)) (room1 : Int), F_spec_validLines list0 room1 (fun r0 => kk (.one (.c (.v (.bool r0)))) []) → motive [.c (.ro .iib list0), .c (.v (.int .i64 room1))]) : motive vs := by
  unfold con_spec_validLines at h
  dsimp only at h
  split at h
  · exact H _ _ h
  · exact h.elim
theorem h_spec_validLines : Holds Try.prog 92 con_spec_validLines := by
  refine holds_of_ev (rt := [.c .sc]) (T := TT) (Γ := cs_spec_validLines) (an := an_spec_validLines) (N := 53) (c := Try.f92.body.getD .skip) Try.func92 (by kernel_rfl) Try.ntmps92 (by decide) (by decide) mixed tabOK cok_spec_validLines (by kernel_rfl) ?_
  intro vs kk _ hF
  exact i_spec_validLines (motive := fun vs => Goes (ev TT cs_spec_validLines 53 an_spec_validLines (Try.f92.body.getD .skip) (st0 con_spec_validLines vs) (fin TT con_spec_validLines Try.f92.results.toList [.c .sc] vs kk))) hF (fun list0 room1 hF => goes_of (e_spec_validLines list0 room1 kk) (F_spec_validLines_S hF))
def con_spec_cleanLines : Con := ⟨[.rd], true, [.agg [.sl .int, .sl .iib, .sc]], fun vs k => match vs with
    | [.agg [.ro .int m0Store, .ro .iib m0Lines, .v (.int .i64 m0Room)]] => F_spec_cleanLines m0Store m0Lines m0Room (fun r0 => k (.one (.c (.v (.bool r0)))) [])
    | _ => False, false⟩
def cl_spec_cleanLines : List (FuncId × Con) := []
def nm0_spec_cleanLines : List NStep := [.keep [1, 3] [16]]
def an_spec_cleanLines : Ann := ⟨[(4, .take 0 (.take 1 (.take 2 (.take 3 (.take 4 (.take 5 (.take 6 (.take 7 (.take 8 (.take 9 (.take 10 (.take 11 (.take 12 (.take 13 (.take 14 (.take 15 (.take 16 (.take 17 (.take 18 (.take 19 (.take 20 (.take 21 (.take 22 (.take 23 (.take 24 (.take 25 (.done)))))))))))))))))))))))))), [16])], [(2, nm0_spec_cleanLines)], [], []⟩
def cs_spec_cleanLines : Cons := ⟨cl_spec_cleanLines, [], 0, [], [], []⟩
def can0_spec_cleanLines (m0Lines : List (Int × Int × Bool)) (m0Room : Int) (m0Store : List Int) (xi3 : Int) : St := ⟨[(1, .one (.c (.pb 16 0))), (3, .one (.c (.v (.int .i64 xi3))))], [(16, .box [.ro .int m0Store, .ro .iib m0Lines, .v (.int .i64 m0Room)])]⟩
def fin_spec_cleanLines (m0Store : List Int) (m0Lines : List (Int × Int × Bool)) (m0Room : Int) (kk : AV → List A1 → Prop) : Kt := fin TT con_spec_cleanLines Try.f93.results.toList [.c .sc] [.agg [.ro .int m0Store, .ro .iib m0Lines, .v (.int .i64 m0Room)]] kk
def kt0_spec_cleanLines (kf : Kt) : Kt := blockK 0 (seqK (evF TT cs_spec_cleanLines 37 an_spec_cleanLines Try.f93 [1, 1]) (kf))
theorem r0_spec_cleanLines (m0Store : List Int) (m0Lines : List (Int × Int × Bool)) (m0Room : Int) (kk : AV → List A1 → Prop) (n : Nat) (xi3 : Int) :
    iter (evF TT cs_spec_cleanLines 37 an_spec_cleanLines Try.f93 [1, 0, 1, 0, 0]) nm0_spec_cleanLines (kt0_spec_cleanLines (fin_spec_cleanLines m0Store m0Lines m0Room kk)) (n + 1) (can0_spec_cleanLines m0Lines m0Room m0Store xi3) = T0_spec_cleanLines m0Lines m0Room m0Store xi3 (fun r0 => kk (.one (.c (.v (.bool r0)))) []) (fun xi3 => iter (evF TT cs_spec_cleanLines 37 an_spec_cleanLines Try.f93 [1, 0, 1, 0, 0]) nm0_spec_cleanLines (kt0_spec_cleanLines (fin_spec_cleanLines m0Store m0Lines m0Room kk)) n (can0_spec_cleanLines m0Lines m0Room m0Store xi3)) := by kernel_rfl
theorem l0_spec_cleanLines (m0Store : List Int) (m0Lines : List (Int × Int × Bool)) (m0Room : Int) (kk : AV → List A1 → Prop) : ∀ (n : Nat) (xi3 : Int), iter (evF TT cs_spec_cleanLines 37 an_spec_cleanLines Try.f93 [1, 0, 1, 0, 0]) nm0_spec_cleanLines (kt0_spec_cleanLines (fin_spec_cleanLines m0Store m0Lines m0Room kk)) n (can0_spec_cleanLines m0Lines m0Room m0Store xi3) = L0_spec_cleanLines m0Lines m0Room m0Store (fun r0 => kk (.one (.c (.v (.bool r0)))) []) n xi3 := by
  intro n
  induction n with
  | zero => intros; rfl
  | succ n ih =>
    intro xi3
    rw [r0_spec_cleanLines m0Store m0Lines m0Room kk n xi3]
    have hb : (fun xi3 => iter (evF TT cs_spec_cleanLines 37 an_spec_cleanLines Try.f93 [1, 0, 1, 0, 0]) nm0_spec_cleanLines (kt0_spec_cleanLines (fin_spec_cleanLines m0Store m0Lines m0Room kk)) n (can0_spec_cleanLines m0Lines m0Room m0Store xi3)) = L0_spec_cleanLines m0Lines m0Room m0Store (fun r0 => kk (.one (.c (.v (.bool r0)))) []) n := by
      funext xi3; exact ih xi3
    rw [hb]
    rfl
theorem g_spec_cleanLines (m0Store : List Int) (m0Lines : List (Int × Int × Bool)) (m0Room : Int) (kk : AV → List A1 → Prop) :
    ev TT cs_spec_cleanLines 37 an_spec_cleanLines (Try.f93.body.getD .skip) (st0 con_spec_cleanLines [.agg [.ro .int m0Store, .ro .iib m0Lines, .v (.int .i64 m0Room)]]) (fin TT con_spec_cleanLines Try.f93.results.toList [.c .sc] [.agg [.ro .int m0Store, .ro .iib m0Lines, .v (.int .i64 m0Room)]] kk) = G_spec_cleanLines m0Store m0Lines m0Room (fun m0Lines m0Room m0Store xi3 => ∃ j, iter (evF TT cs_spec_cleanLines 37 an_spec_cleanLines Try.f93 [1, 0, 1, 0, 0]) nm0_spec_cleanLines (kt0_spec_cleanLines (fin_spec_cleanLines m0Store m0Lines m0Room kk)) j (can0_spec_cleanLines m0Lines m0Room m0Store xi3)) := by kernel_rfl
theorem e_spec_cleanLines (m0Store : List Int) (m0Lines : List (Int × Int × Bool)) (m0Room : Int) (kk : AV → List A1 → Prop) :
    ev TT cs_spec_cleanLines 37 an_spec_cleanLines (Try.f93.body.getD .skip) (st0 con_spec_cleanLines [.agg [.ro .int m0Store, .ro .iib m0Lines, .v (.int .i64 m0Room)]]) (fin TT con_spec_cleanLines Try.f93.results.toList [.c .sc] [.agg [.ro .int m0Store, .ro .iib m0Lines, .v (.int .i64 m0Room)]] kk) = S_spec_cleanLines m0Store m0Lines m0Room (fun r0 => kk (.one (.c (.v (.bool r0)))) []) := by
  rw [g_spec_cleanLines]
  have hi0 : (fun m0Lines m0Room m0Store xi3 => ∃ j, iter (evF TT cs_spec_cleanLines 37 an_spec_cleanLines Try.f93 [1, 0, 1, 0, 0]) nm0_spec_cleanLines (kt0_spec_cleanLines (fin_spec_cleanLines m0Store m0Lines m0Room kk)) j (can0_spec_cleanLines m0Lines m0Room m0Store xi3)) = (fun m0Lines m0Room m0Store xi3 => ∃ j, L0_spec_cleanLines m0Lines m0Room m0Store (fun r0 => kk (.one (.c (.v (.bool r0)))) []) j xi3) := by
    funext m0Lines m0Room m0Store xi3
    refine congrArg Exists (funext fun j => ?_)
    rw [l0_spec_cleanLines m0Store m0Lines m0Room kk j xi3]
  rw [hi0]
  rfl
theorem clok_spec_cleanLines : ConOK Try.prog cl_spec_cleanLines := consNil
theorem cok_spec_cleanLines : ConsOK Try.prog 37 cs_spec_cleanLines := ⟨clok_spec_cleanLines, inlNil, ovNil⟩
theorem i_spec_cleanLines {vs : List A1} {kk : AV → List A1 → Prop} {motive : List A1 → Prop} (h : con_spec_cleanLines.F vs kk) (H : ∀ (m0Store : List Int) (m0Lines : List (Int × Int × Bool)) (m0Room : Int), F_spec_cleanLines m0Store m0Lines m0Room (fun r0 => kk (.one (.c (.v (.bool r0)))) []) → motive [.agg [.ro .int m0Store, .ro .iib m0Lines, .v (.int .i64 m0Room)]]) : motive vs := by
  unfold con_spec_cleanLines at h
  dsimp only at h
  split at h
  · exact H _ _ _ h
  · exact h.elim
theorem h_spec_cleanLines : Holds Try.prog 93 con_spec_cleanLines := by
  refine holds_of_ev (rt := [.c .sc]) (T := TT) (Γ := cs_spec_cleanLines) (an := an_spec_cleanLines) (N := 37) (c := Try.f93.body.getD .skip) Try.func93 (by kernel_rfl) Try.ntmps93 (by decide) (by decide) mixed tabOK cok_spec_cleanLines (by kernel_rfl) ?_
  intro vs kk _ hF
  exact i_spec_cleanLines (motive := fun vs => Goes (ev TT cs_spec_cleanLines 37 an_spec_cleanLines (Try.f93.body.getD .skip) (st0 con_spec_cleanLines vs) (fin TT con_spec_cleanLines Try.f93.results.toList [.c .sc] vs kk))) hF (fun m0Store m0Lines m0Room hF => goes_of (e_spec_cleanLines m0Store m0Lines m0Room kk) (F_spec_cleanLines_S hF))
def con_spec_validMemory : Con := ⟨[.rd], true, [.agg [.sl .int, .sl .iib, .sc]], fun vs k => match vs with
    | [.agg [.ro .int m0Store, .ro .iib m0Lines, .v (.int .i64 m0Room)]] => F_spec_validMemory m0Store m0Lines m0Room (fun r0 => k (.one (.c (.v (.bool r0)))) [])
    | _ => False, false⟩
def cl_spec_validMemory : List (FuncId × Con) := [(91, con_spec_allIn), (92, con_spec_validLines), (93, con_spec_cleanLines)]
def an_spec_validMemory : Ann := ⟨[], [], [], []⟩
def cs_spec_validMemory : Cons := ⟨cl_spec_validMemory, [], 0, [], [], []⟩
def fin_spec_validMemory (m0Store : List Int) (m0Lines : List (Int × Int × Bool)) (m0Room : Int) (kk : AV → List A1 → Prop) : Kt := fin TT con_spec_validMemory Try.f53.results.toList [.c .sc] [.agg [.ro .int m0Store, .ro .iib m0Lines, .v (.int .i64 m0Room)]] kk
theorem g_spec_validMemory (m0Store : List Int) (m0Lines : List (Int × Int × Bool)) (m0Room : Int) (kk : AV → List A1 → Prop) :
    ev TT cs_spec_validMemory 23 an_spec_validMemory (Try.f53.body.getD .skip) (st0 con_spec_validMemory [.agg [.ro .int m0Store, .ro .iib m0Lines, .v (.int .i64 m0Room)]]) (fin TT con_spec_validMemory Try.f53.results.toList [.c .sc] [.agg [.ro .int m0Store, .ro .iib m0Lines, .v (.int .i64 m0Room)]] kk) = G_spec_validMemory m0Store m0Lines m0Room (fun r0 => kk (.one (.c (.v (.bool r0)))) []) := by kernel_rfl
theorem e_spec_validMemory (m0Store : List Int) (m0Lines : List (Int × Int × Bool)) (m0Room : Int) (kk : AV → List A1 → Prop) :
    ev TT cs_spec_validMemory 23 an_spec_validMemory (Try.f53.body.getD .skip) (st0 con_spec_validMemory [.agg [.ro .int m0Store, .ro .iib m0Lines, .v (.int .i64 m0Room)]]) (fin TT con_spec_validMemory Try.f53.results.toList [.c .sc] [.agg [.ro .int m0Store, .ro .iib m0Lines, .v (.int .i64 m0Room)]] kk) = S_spec_validMemory m0Store m0Lines m0Room (fun r0 => kk (.one (.c (.v (.bool r0)))) []) := by
  rw [g_spec_validMemory]
  rfl
theorem clok_spec_validMemory : ConOK Try.prog cl_spec_validMemory := consCons h_spec_allIn ⟨Try.f91, Try.func91, by kernel_rfl, ne_of_beq (by kernel_rfl)⟩ (consCons h_spec_validLines ⟨Try.f92, Try.func92, by kernel_rfl, ne_of_beq (by kernel_rfl)⟩ (consCons h_spec_cleanLines ⟨Try.f93, Try.func93, by kernel_rfl, ne_of_beq (by kernel_rfl)⟩ (consNil)))
theorem cok_spec_validMemory : ConsOK Try.prog 23 cs_spec_validMemory := ⟨clok_spec_validMemory, inlNil, ovNil⟩
theorem i_spec_validMemory {vs : List A1} {kk : AV → List A1 → Prop} {motive : List A1 → Prop} (h : con_spec_validMemory.F vs kk) (H : ∀ (m0Store : List Int) (m0Lines : List (Int × Int × Bool)) (m0Room : Int), F_spec_validMemory m0Store m0Lines m0Room (fun r0 => kk (.one (.c (.v (.bool r0)))) []) → motive [.agg [.ro .int m0Store, .ro .iib m0Lines, .v (.int .i64 m0Room)]]) : motive vs := by
  unfold con_spec_validMemory at h
  dsimp only at h
  split at h
  · exact H _ _ _ h
  · exact h.elim
theorem h_spec_validMemory : Holds Try.prog 53 con_spec_validMemory := by
  refine holds_of_ev (rt := [.c .sc]) (T := TT) (Γ := cs_spec_validMemory) (an := an_spec_validMemory) (N := 23) (c := Try.f53.body.getD .skip) Try.func53 (by kernel_rfl) Try.ntmps53 (by decide) (by decide) mixed tabOK cok_spec_validMemory (by kernel_rfl) ?_
  intro vs kk _ hF
  exact i_spec_validMemory (motive := fun vs => Goes (ev TT cs_spec_validMemory 23 an_spec_validMemory (Try.f53.body.getD .skip) (st0 con_spec_validMemory vs) (fin TT con_spec_validMemory Try.f53.results.toList [.c .sc] vs kk))) hF (fun m0Store m0Lines m0Room hF => goes_of (e_spec_validMemory m0Store m0Lines m0Room kk) (F_spec_validMemory_S hF))
def con_spec_copyInts : Con := ⟨[.rd], true, [.c (.sl .int)], fun vs k => match vs with
    | [.c (.ro .int list0)] => F_spec_copyInts list0 (fun r0 => k (.one (.c (.ro .int r0))) [])
    | _ => False, false⟩
def cl_spec_copyInts : List (FuncId × Con) := []
def an_spec_copyInts : Ann := ⟨[], [], [], []⟩
def cs_spec_copyInts : Cons := ⟨cl_spec_copyInts, [], 0, [], [], []⟩
def fin_spec_copyInts (list0 : List Int) (kk : AV → List A1 → Prop) : Kt := fin TT con_spec_copyInts Try.f105.results.toList [.c (.sl .int)] [.c (.ro .int list0)] kk
theorem g_spec_copyInts (list0 : List Int) (kk : AV → List A1 → Prop) :
    ev TT cs_spec_copyInts 6 an_spec_copyInts (Try.f105.body.getD .skip) (st0 con_spec_copyInts [.c (.ro .int list0)]) (fin TT con_spec_copyInts Try.f105.results.toList [.c (.sl .int)] [.c (.ro .int list0)] kk) = G_spec_copyInts list0 (fun r0 => kk (.one (.c (.ro .int r0))) []) := by kernel_rfl
theorem e_spec_copyInts (list0 : List Int) (kk : AV → List A1 → Prop) :
    ev TT cs_spec_copyInts 6 an_spec_copyInts (Try.f105.body.getD .skip) (st0 con_spec_copyInts [.c (.ro .int list0)]) (fin TT con_spec_copyInts Try.f105.results.toList [.c (.sl .int)] [.c (.ro .int list0)] kk) = S_spec_copyInts list0 (fun r0 => kk (.one (.c (.ro .int r0))) []) := by
  rw [g_spec_copyInts]
  rfl
theorem clok_spec_copyInts : ConOK Try.prog cl_spec_copyInts := consNil
theorem cok_spec_copyInts : ConsOK Try.prog 6 cs_spec_copyInts := ⟨clok_spec_copyInts, inlNil, ovNil⟩
theorem i_spec_copyInts {vs : List A1} {kk : AV → List A1 → Prop} {motive : List A1 → Prop} (h : con_spec_copyInts.F vs kk) (H : ∀ (list0 : List Int), F_spec_copyInts list0 (fun r0 => kk (.one (.c (.ro .int r0))) []) → motive [.c (.ro .int list0)]) : motive vs := by
  unfold con_spec_copyInts at h
  dsimp only at h
  split at h
  · exact H _ h
  · exact h.elim
theorem h_spec_copyInts : Holds Try.prog 105 con_spec_copyInts := by
  refine holds_of_ev (rt := [.c (.sl .int)]) (T := TT) (Γ := cs_spec_copyInts) (an := an_spec_copyInts) (N := 6) (c := Try.f105.body.getD .skip) Try.func105 (by kernel_rfl) Try.ntmps105 (by decide) (by decide) mixed tabOK cok_spec_copyInts (by kernel_rfl) ?_
  intro vs kk _ hF
  exact i_spec_copyInts (motive := fun vs => Goes (ev TT cs_spec_copyInts 6 an_spec_copyInts (Try.f105.body.getD .skip) (st0 con_spec_copyInts vs) (fin TT con_spec_copyInts Try.f105.results.toList [.c (.sl .int)] vs kk))) hF (fun list0 hF => goes_of (e_spec_copyInts list0 kk) (F_spec_copyInts_S hF))
def con_spec_copyMemory : Con := ⟨[.rd], true, [.agg [.sl .int, .sl .iib, .sc]], fun vs k => match vs with
    | [.agg [.ro .int m0Store, .ro .iib m0Lines, .v (.int .i64 m0Room)]] => F_spec_copyMemory m0Store m0Lines m0Room (fun r0 r1 r2 => k (.one (.agg [.ro .int r0, .ro .iib r1, .v (.int .i64 r2)])) [])
    | _ => False, false⟩
def cl_spec_copyMemory : List (FuncId × Con) := [(105, con_spec_copyInts)]
def an_spec_copyMemory : Ann := ⟨[(1, .take 0 (.take 1 (.take 4 (.take 5 (.take 7 (.take 8 (.alt 2 (.alt 3 (.alt 6 (.take 9 (.alt 10 (.done) (.none))) (.none)) (.none)) (.alt 3 (.alt 2 (.alt 6 (.take 9 (.alt 10 (.done) (.none))) (.none)) (.none)) (.none)))))))), [16])], [], [], []⟩
def cs_spec_copyMemory : Cons := ⟨cl_spec_copyMemory, [], 0, [], [], []⟩
def fin_spec_copyMemory (m0Store : List Int) (m0Lines : List (Int × Int × Bool)) (m0Room : Int) (kk : AV → List A1 → Prop) : Kt := fin TT con_spec_copyMemory Try.f86.results.toList [.agg [.sl .int, .sl .iib, .sc]] [.agg [.ro .int m0Store, .ro .iib m0Lines, .v (.int .i64 m0Room)]] kk
theorem g_spec_copyMemory (m0Store : List Int) (m0Lines : List (Int × Int × Bool)) (m0Room : Int) (kk : AV → List A1 → Prop) :
    ev TT cs_spec_copyMemory 13 an_spec_copyMemory (Try.f86.body.getD .skip) (st0 con_spec_copyMemory [.agg [.ro .int m0Store, .ro .iib m0Lines, .v (.int .i64 m0Room)]]) (fin TT con_spec_copyMemory Try.f86.results.toList [.agg [.sl .int, .sl .iib, .sc]] [.agg [.ro .int m0Store, .ro .iib m0Lines, .v (.int .i64 m0Room)]] kk) = G_spec_copyMemory m0Store m0Lines m0Room (fun r0 r1 r2 => kk (.one (.agg [.ro .int r0, .ro .iib r1, .v (.int .i64 r2)])) []) := by kernel_rfl
theorem e_spec_copyMemory (m0Store : List Int) (m0Lines : List (Int × Int × Bool)) (m0Room : Int) (kk : AV → List A1 → Prop) :
    ev TT cs_spec_copyMemory 13 an_spec_copyMemory (Try.f86.body.getD .skip) (st0 con_spec_copyMemory [.agg [.ro .int m0Store, .ro .iib m0Lines, .v (.int .i64 m0Room)]]) (fin TT con_spec_copyMemory Try.f86.results.toList [.agg [.sl .int, .sl .iib, .sc]] [.agg [.ro .int m0Store, .ro .iib m0Lines, .v (.int .i64 m0Room)]] kk) = S_spec_copyMemory m0Store m0Lines m0Room (fun r0 r1 r2 => kk (.one (.agg [.ro .int r0, .ro .iib r1, .v (.int .i64 r2)])) []) := by
  rw [g_spec_copyMemory]
  rw [G_spec_copyMemory_eq]
  rfl
theorem clok_spec_copyMemory : ConOK Try.prog cl_spec_copyMemory := consCons h_spec_copyInts ⟨Try.f105, Try.func105, by kernel_rfl, ne_of_beq (by kernel_rfl)⟩ (consNil)
theorem cok_spec_copyMemory : ConsOK Try.prog 13 cs_spec_copyMemory := ⟨clok_spec_copyMemory, inlNil, ovNil⟩
theorem i_spec_copyMemory {vs : List A1} {kk : AV → List A1 → Prop} {motive : List A1 → Prop} (h : con_spec_copyMemory.F vs kk) (H : ∀ (m0Store : List Int) (m0Lines : List (Int × Int × Bool)) (m0Room : Int), F_spec_copyMemory m0Store m0Lines m0Room (fun r0 r1 r2 => kk (.one (.agg [.ro .int r0, .ro .iib r1, .v (.int .i64 r2)])) []) → motive [.agg [.ro .int m0Store, .ro .iib m0Lines, .v (.int .i64 m0Room)]]) : motive vs := by
  unfold con_spec_copyMemory at h
  dsimp only at h
  split at h
  · exact H _ _ _ h
  · exact h.elim
theorem h_spec_copyMemory : Holds Try.prog 86 con_spec_copyMemory := by
  refine holds_of_ev (rt := [.agg [.sl .int, .sl .iib, .sc]]) (T := TT) (Γ := cs_spec_copyMemory) (an := an_spec_copyMemory) (N := 13) (c := Try.f86.body.getD .skip) Try.func86 (by kernel_rfl) Try.ntmps86 (by decide) (by decide) mixed tabOK cok_spec_copyMemory (by kernel_rfl) ?_
  intro vs kk _ hF
  exact i_spec_copyMemory (motive := fun vs => Goes (ev TT cs_spec_copyMemory 13 an_spec_copyMemory (Try.f86.body.getD .skip) (st0 con_spec_copyMemory vs) (fin TT con_spec_copyMemory Try.f86.results.toList [.agg [.sl .int, .sl .iib, .sc]] vs kk))) hF (fun m0Store m0Lines m0Room hF => goes_of (e_spec_copyMemory m0Store m0Lines m0Room kk) (F_spec_copyMemory_S hF))
def con_spec_lineAt : Con := ⟨[.rd, .rd], true, [.agg [.sl .int, .sl .iib, .sc], .c (.sc)], fun vs k => match vs with
    | [.agg [.ro .int m0Store, .ro .iib m0Lines, .v (.int .i64 m0Room)], .c (.v (.int .i64 key1))] => F_spec_lineAt m0Store m0Lines m0Room key1 (fun r0 => k (.one (.c (.v (.int .i64 r0)))) [])
    | _ => False, false⟩
def cl_spec_lineAt : List (FuncId × Con) := []
def nm0_spec_lineAt : List NStep := [.keep [1, 2, 5] [32]]
def an_spec_lineAt : Ann := ⟨[], [(2, nm0_spec_lineAt)], [], []⟩
def cs_spec_lineAt : Cons := ⟨cl_spec_lineAt, [], 0, [], [], []⟩
def can0_spec_lineAt (key1 : Int) (m0Lines : List (Int × Int × Bool)) (m0Room : Int) (m0Store : List Int) (xi5 : Int) : St := ⟨[(1, .one (.c (.v (.int .i64 key1)))), (2, .one (.c (.pb 32 0))), (5, .one (.c (.v (.int .i64 xi5))))], [(32, .box [.ro .int m0Store, .ro .iib m0Lines, .v (.int .i64 m0Room)])]⟩
def fin_spec_lineAt (m0Store : List Int) (m0Lines : List (Int × Int × Bool)) (m0Room : Int) (key1 : Int) (kk : AV → List A1 → Prop) : Kt := fin TT con_spec_lineAt Try.f88.results.toList [.c .sc] [.agg [.ro .int m0Store, .ro .iib m0Lines, .v (.int .i64 m0Room)], .c (.v (.int .i64 key1))] kk
def kt0_spec_lineAt (kf : Kt) : Kt := blockK 0 (seqK (evF TT cs_spec_lineAt 22 an_spec_lineAt Try.f88 [1, 1]) (kf))
theorem r0_spec_lineAt (m0Store : List Int) (m0Lines : List (Int × Int × Bool)) (m0Room : Int) (key1 : Int) (kk : AV → List A1 → Prop) (n : Nat) (xi5 : Int) :
    iter (evF TT cs_spec_lineAt 22 an_spec_lineAt Try.f88 [1, 0, 1, 0, 0]) nm0_spec_lineAt (kt0_spec_lineAt (fin_spec_lineAt m0Store m0Lines m0Room key1 kk)) (n + 1) (can0_spec_lineAt key1 m0Lines m0Room m0Store xi5) = T0_spec_lineAt key1 m0Lines m0Room m0Store xi5 (fun r0 => kk (.one (.c (.v (.int .i64 r0)))) []) (fun xi5 => iter (evF TT cs_spec_lineAt 22 an_spec_lineAt Try.f88 [1, 0, 1, 0, 0]) nm0_spec_lineAt (kt0_spec_lineAt (fin_spec_lineAt m0Store m0Lines m0Room key1 kk)) n (can0_spec_lineAt key1 m0Lines m0Room m0Store xi5)) := by kernel_rfl
theorem l0_spec_lineAt (m0Store : List Int) (m0Lines : List (Int × Int × Bool)) (m0Room : Int) (key1 : Int) (kk : AV → List A1 → Prop) : ∀ (n : Nat) (xi5 : Int), iter (evF TT cs_spec_lineAt 22 an_spec_lineAt Try.f88 [1, 0, 1, 0, 0]) nm0_spec_lineAt (kt0_spec_lineAt (fin_spec_lineAt m0Store m0Lines m0Room key1 kk)) n (can0_spec_lineAt key1 m0Lines m0Room m0Store xi5) = L0_spec_lineAt key1 m0Lines m0Room m0Store (fun r0 => kk (.one (.c (.v (.int .i64 r0)))) []) n xi5 := by
  intro n
  induction n with
  | zero => intros; rfl
  | succ n ih =>
    intro xi5
    rw [r0_spec_lineAt m0Store m0Lines m0Room key1 kk n xi5]
    have hb : (fun xi5 => iter (evF TT cs_spec_lineAt 22 an_spec_lineAt Try.f88 [1, 0, 1, 0, 0]) nm0_spec_lineAt (kt0_spec_lineAt (fin_spec_lineAt m0Store m0Lines m0Room key1 kk)) n (can0_spec_lineAt key1 m0Lines m0Room m0Store xi5)) = L0_spec_lineAt key1 m0Lines m0Room m0Store (fun r0 => kk (.one (.c (.v (.int .i64 r0)))) []) n := by
      funext xi5; exact ih xi5
    rw [hb]
    rfl
theorem g_spec_lineAt (m0Store : List Int) (m0Lines : List (Int × Int × Bool)) (m0Room : Int) (key1 : Int) (kk : AV → List A1 → Prop) :
    ev TT cs_spec_lineAt 22 an_spec_lineAt (Try.f88.body.getD .skip) (st0 con_spec_lineAt [.agg [.ro .int m0Store, .ro .iib m0Lines, .v (.int .i64 m0Room)], .c (.v (.int .i64 key1))]) (fin TT con_spec_lineAt Try.f88.results.toList [.c .sc] [.agg [.ro .int m0Store, .ro .iib m0Lines, .v (.int .i64 m0Room)], .c (.v (.int .i64 key1))] kk) = G_spec_lineAt m0Store m0Lines m0Room key1 (fun key1 m0Lines m0Room m0Store xi5 => ∃ j, iter (evF TT cs_spec_lineAt 22 an_spec_lineAt Try.f88 [1, 0, 1, 0, 0]) nm0_spec_lineAt (kt0_spec_lineAt (fin_spec_lineAt m0Store m0Lines m0Room key1 kk)) j (can0_spec_lineAt key1 m0Lines m0Room m0Store xi5)) := by kernel_rfl
theorem e_spec_lineAt (m0Store : List Int) (m0Lines : List (Int × Int × Bool)) (m0Room : Int) (key1 : Int) (kk : AV → List A1 → Prop) :
    ev TT cs_spec_lineAt 22 an_spec_lineAt (Try.f88.body.getD .skip) (st0 con_spec_lineAt [.agg [.ro .int m0Store, .ro .iib m0Lines, .v (.int .i64 m0Room)], .c (.v (.int .i64 key1))]) (fin TT con_spec_lineAt Try.f88.results.toList [.c .sc] [.agg [.ro .int m0Store, .ro .iib m0Lines, .v (.int .i64 m0Room)], .c (.v (.int .i64 key1))] kk) = S_spec_lineAt m0Store m0Lines m0Room key1 (fun r0 => kk (.one (.c (.v (.int .i64 r0)))) []) := by
  rw [g_spec_lineAt]
  have hi0 : (fun key1 m0Lines m0Room m0Store xi5 => ∃ j, iter (evF TT cs_spec_lineAt 22 an_spec_lineAt Try.f88 [1, 0, 1, 0, 0]) nm0_spec_lineAt (kt0_spec_lineAt (fin_spec_lineAt m0Store m0Lines m0Room key1 kk)) j (can0_spec_lineAt key1 m0Lines m0Room m0Store xi5)) = (fun key1 m0Lines m0Room m0Store xi5 => ∃ j, L0_spec_lineAt key1 m0Lines m0Room m0Store (fun r0 => kk (.one (.c (.v (.int .i64 r0)))) []) j xi5) := by
    funext key1 m0Lines m0Room m0Store xi5
    refine congrArg Exists (funext fun j => ?_)
    rw [l0_spec_lineAt m0Store m0Lines m0Room key1 kk j xi5]
  rw [hi0]
  rfl
theorem clok_spec_lineAt : ConOK Try.prog cl_spec_lineAt := consNil
theorem cok_spec_lineAt : ConsOK Try.prog 22 cs_spec_lineAt := ⟨clok_spec_lineAt, inlNil, ovNil⟩
theorem i_spec_lineAt {vs : List A1} {kk : AV → List A1 → Prop} {motive : List A1 → Prop} (h : con_spec_lineAt.F vs kk) (H : ∀ (m0Store : List Int) (m0Lines : List (Int × Int × Bool)) (m0Room : Int) (key1 : Int), F_spec_lineAt m0Store m0Lines m0Room key1 (fun r0 => kk (.one (.c (.v (.int .i64 r0)))) []) → motive [.agg [.ro .int m0Store, .ro .iib m0Lines, .v (.int .i64 m0Room)], .c (.v (.int .i64 key1))]) : motive vs := by
  unfold con_spec_lineAt at h
  dsimp only at h
  split at h
  · exact H _ _ _ _ h
  · exact h.elim
theorem h_spec_lineAt : Holds Try.prog 88 con_spec_lineAt := by
  refine holds_of_ev (rt := [.c .sc]) (T := TT) (Γ := cs_spec_lineAt) (an := an_spec_lineAt) (N := 22) (c := Try.f88.body.getD .skip) Try.func88 (by kernel_rfl) Try.ntmps88 (by decide) (by decide) mixed tabOK cok_spec_lineAt (by kernel_rfl) ?_
  intro vs kk _ hF
  exact i_spec_lineAt (motive := fun vs => Goes (ev TT cs_spec_lineAt 22 an_spec_lineAt (Try.f88.body.getD .skip) (st0 con_spec_lineAt vs) (fin TT con_spec_lineAt Try.f88.results.toList [.c .sc] vs kk))) hF (fun m0Store m0Lines m0Room key1 hF => goes_of (e_spec_lineAt m0Store m0Lines m0Room key1 kk) (F_spec_lineAt_S hF))
def con_spec_access : Con := ⟨[.rd, .rd], true, [.agg [.sl .int, .sl .iib, .sc], .c (.sc)], fun vs k => match vs with
    | [.agg [.ro .int old0Store, .ro .iib old0Lines, .v (.int .i64 old0Room)], .c (.v (.int .i64 key1))] => F_spec_access old0Store old0Lines old0Room key1 (fun r0 r1 r2 => k (.one (.agg [.ro .int r0, .ro .iib r1, .v (.int .i64 r2)])) [])
    | _ => False, false⟩
def cl_spec_access : List (FuncId × Con) := [(86, con_spec_copyMemory), (88, con_spec_lineAt)]
def an_spec_access : Ann := ⟨[(6, .take 0 (.take 2 (.take 4 (.take 6 (.take 7 (.alt 1 (.take 3 (.alt 5 (.take 8 (.alt 9 (.take 10 (.alt 11 (.done) (.none))) (.none))) (.none))) (.alt 5 (.take 8 (.alt 1 (.take 3 (.alt 9 (.take 10 (.alt 11 (.done) (.none))) (.none))) (.none))) (.none))))))), [])], [], [], []⟩
def cs_spec_access : Cons := ⟨cl_spec_access, [], 0, [], [], []⟩
def fin_spec_access (old0Store : List Int) (old0Lines : List (Int × Int × Bool)) (old0Room : Int) (key1 : Int) (kk : AV → List A1 → Prop) : Kt := fin TT con_spec_access Try.f55.results.toList [.agg [.sl .int, .sl .iib, .sc]] [.agg [.ro .int old0Store, .ro .iib old0Lines, .v (.int .i64 old0Room)], .c (.v (.int .i64 key1))] kk
theorem g_spec_access (old0Store : List Int) (old0Lines : List (Int × Int × Bool)) (old0Room : Int) (key1 : Int) (kk : AV → List A1 → Prop) :
    ev TT cs_spec_access 73 an_spec_access (Try.f55.body.getD .skip) (st0 con_spec_access [.agg [.ro .int old0Store, .ro .iib old0Lines, .v (.int .i64 old0Room)], .c (.v (.int .i64 key1))]) (fin TT con_spec_access Try.f55.results.toList [.agg [.sl .int, .sl .iib, .sc]] [.agg [.ro .int old0Store, .ro .iib old0Lines, .v (.int .i64 old0Room)], .c (.v (.int .i64 key1))] kk) = G_spec_access old0Store old0Lines old0Room key1 (fun r0 r1 r2 => kk (.one (.agg [.ro .int r0, .ro .iib r1, .v (.int .i64 r2)])) []) := by kernel_rfl
theorem e_spec_access (old0Store : List Int) (old0Lines : List (Int × Int × Bool)) (old0Room : Int) (key1 : Int) (kk : AV → List A1 → Prop) :
    ev TT cs_spec_access 73 an_spec_access (Try.f55.body.getD .skip) (st0 con_spec_access [.agg [.ro .int old0Store, .ro .iib old0Lines, .v (.int .i64 old0Room)], .c (.v (.int .i64 key1))]) (fin TT con_spec_access Try.f55.results.toList [.agg [.sl .int, .sl .iib, .sc]] [.agg [.ro .int old0Store, .ro .iib old0Lines, .v (.int .i64 old0Room)], .c (.v (.int .i64 key1))] kk) = S_spec_access old0Store old0Lines old0Room key1 (fun r0 r1 r2 => kk (.one (.agg [.ro .int r0, .ro .iib r1, .v (.int .i64 r2)])) []) := by
  rw [g_spec_access]
  rw [G_spec_access_eq]
  rfl
theorem clok_spec_access : ConOK Try.prog cl_spec_access := consCons h_spec_copyMemory ⟨Try.f86, Try.func86, by kernel_rfl, ne_of_beq (by kernel_rfl)⟩ (consCons h_spec_lineAt ⟨Try.f88, Try.func88, by kernel_rfl, ne_of_beq (by kernel_rfl)⟩ (consNil))
theorem cok_spec_access : ConsOK Try.prog 73 cs_spec_access := ⟨clok_spec_access, inlNil, ovNil⟩
theorem i_spec_access {vs : List A1} {kk : AV → List A1 → Prop} {motive : List A1 → Prop} (h : con_spec_access.F vs kk) (H : ∀ (old0Store : List Int) (old0Lines : List (Int × Int × Bool)) (old0Room : Int) (key1 : Int), F_spec_access old0Store old0Lines old0Room key1 (fun r0 r1 r2 => kk (.one (.agg [.ro .int r0, .ro .iib r1, .v (.int .i64 r2)])) []) → motive [.agg [.ro .int old0Store, .ro .iib old0Lines, .v (.int .i64 old0Room)], .c (.v (.int .i64 key1))]) : motive vs := by
  unfold con_spec_access at h
  dsimp only at h
  split at h
  · exact H _ _ _ _ h
  · exact h.elim
theorem h_spec_access : Holds Try.prog 55 con_spec_access := by
  refine holds_of_ev (rt := [.agg [.sl .int, .sl .iib, .sc]]) (T := TT) (Γ := cs_spec_access) (an := an_spec_access) (N := 73) (c := Try.f55.body.getD .skip) Try.func55 (by kernel_rfl) Try.ntmps55 (by decide) (by decide) mixed tabOK cok_spec_access (by kernel_rfl) ?_
  intro vs kk _ hF
  exact i_spec_access (motive := fun vs => Goes (ev TT cs_spec_access 73 an_spec_access (Try.f55.body.getD .skip) (st0 con_spec_access vs) (fin TT con_spec_access Try.f55.results.toList [.agg [.sl .int, .sl .iib, .sc]] vs kk))) hF (fun old0Store old0Lines old0Room key1 hF => goes_of (e_spec_access old0Store old0Lines old0Room key1 kk) (F_spec_access_S hF))
def con_spec_WriteKey : Con := ⟨[.rd, .rd, .rd], true, [.agg [.sl .int, .sl .iib, .sc], .c (.sc), .c (.sc)], fun vs k => match vs with
    | [.agg [.ro .int m0Store, .ro .iib m0Lines, .v (.int .i64 m0Room)], .c (.v (.int .i64 key1)), .c (.v (.int .i64 value2))] => F_spec_WriteKey m0Store m0Lines m0Room key1 value2 (fun r0 r1 r2 r3 => k (.tup [.agg [.ro .int r0, .ro .iib r1, .v (.int .i64 r2)], .c (.v (.bool r3))]) [])
    | _ => False, false⟩
def cl_spec_WriteKey : List (FuncId × Con) := [(53, con_spec_validMemory), (54, con_spec_inRange), (55, con_spec_access)]
def an_spec_WriteKey : Ann := ⟨[], [], [], []⟩
def cs_spec_WriteKey : Cons := ⟨cl_spec_WriteKey, [], 0, [], [], []⟩
def fin_spec_WriteKey (m0Store : List Int) (m0Lines : List (Int × Int × Bool)) (m0Room : Int) (key1 : Int) (value2 : Int) (kk : AV → List A1 → Prop) : Kt := fin TT con_spec_WriteKey Try.f15.results.toList [.agg [.sl .int, .sl .iib, .sc], .c .sc] [.agg [.ro .int m0Store, .ro .iib m0Lines, .v (.int .i64 m0Room)], .c (.v (.int .i64 key1)), .c (.v (.int .i64 value2))] kk
theorem g_spec_WriteKey (m0Store : List Int) (m0Lines : List (Int × Int × Bool)) (m0Room : Int) (key1 : Int) (value2 : Int) (kk : AV → List A1 → Prop) :
    ev TT cs_spec_WriteKey 33 an_spec_WriteKey (Try.f15.body.getD .skip) (st0 con_spec_WriteKey [.agg [.ro .int m0Store, .ro .iib m0Lines, .v (.int .i64 m0Room)], .c (.v (.int .i64 key1)), .c (.v (.int .i64 value2))]) (fin TT con_spec_WriteKey Try.f15.results.toList [.agg [.sl .int, .sl .iib, .sc], .c .sc] [.agg [.ro .int m0Store, .ro .iib m0Lines, .v (.int .i64 m0Room)], .c (.v (.int .i64 key1)), .c (.v (.int .i64 value2))] kk) = G_spec_WriteKey m0Store m0Lines m0Room key1 value2 (fun r0 r1 r2 r3 => kk (.tup [.agg [.ro .int r0, .ro .iib r1, .v (.int .i64 r2)], .c (.v (.bool r3))]) []) := by kernel_rfl
theorem e_spec_WriteKey (m0Store : List Int) (m0Lines : List (Int × Int × Bool)) (m0Room : Int) (key1 : Int) (value2 : Int) (kk : AV → List A1 → Prop) :
    ev TT cs_spec_WriteKey 33 an_spec_WriteKey (Try.f15.body.getD .skip) (st0 con_spec_WriteKey [.agg [.ro .int m0Store, .ro .iib m0Lines, .v (.int .i64 m0Room)], .c (.v (.int .i64 key1)), .c (.v (.int .i64 value2))]) (fin TT con_spec_WriteKey Try.f15.results.toList [.agg [.sl .int, .sl .iib, .sc], .c .sc] [.agg [.ro .int m0Store, .ro .iib m0Lines, .v (.int .i64 m0Room)], .c (.v (.int .i64 key1)), .c (.v (.int .i64 value2))] kk) = S_spec_WriteKey m0Store m0Lines m0Room key1 value2 (fun r0 r1 r2 r3 => kk (.tup [.agg [.ro .int r0, .ro .iib r1, .v (.int .i64 r2)], .c (.v (.bool r3))]) []) := by
  rw [g_spec_WriteKey]
  rfl
theorem clok_spec_WriteKey : ConOK Try.prog cl_spec_WriteKey := consCons h_spec_validMemory ⟨Try.f53, Try.func53, by kernel_rfl, ne_of_beq (by kernel_rfl)⟩ (consCons h_spec_inRange ⟨Try.f54, Try.func54, by kernel_rfl, ne_of_beq (by kernel_rfl)⟩ (consCons h_spec_access ⟨Try.f55, Try.func55, by kernel_rfl, ne_of_beq (by kernel_rfl)⟩ (consNil)))
theorem cok_spec_WriteKey : ConsOK Try.prog 33 cs_spec_WriteKey := ⟨clok_spec_WriteKey, inlNil, ovNil⟩
theorem i_spec_WriteKey {vs : List A1} {kk : AV → List A1 → Prop} {motive : List A1 → Prop} (h : con_spec_WriteKey.F vs kk) (H : ∀ (m0Store : List Int) (m0Lines : List (Int × Int × Bool)) (m0Room : Int) (key1 : Int) (value2 : Int), F_spec_WriteKey m0Store m0Lines m0Room key1 value2 (fun r0 r1 r2 r3 => kk (.tup [.agg [.ro .int r0, .ro .iib r1, .v (.int .i64 r2)], .c (.v (.bool r3))]) []) → motive [.agg [.ro .int m0Store, .ro .iib m0Lines, .v (.int .i64 m0Room)], .c (.v (.int .i64 key1)), .c (.v (.int .i64 value2))]) : motive vs := by
  unfold con_spec_WriteKey at h
  dsimp only at h
  split at h
  · exact H _ _ _ _ _ h
  · exact h.elim
theorem h_spec_WriteKey : Holds Try.prog 15 con_spec_WriteKey := by
  refine holds_of_ev (rt := [.agg [.sl .int, .sl .iib, .sc], .c .sc]) (T := TT) (Γ := cs_spec_WriteKey) (an := an_spec_WriteKey) (N := 33) (c := Try.f15.body.getD .skip) Try.func15 (by kernel_rfl) Try.ntmps15 (by decide) (by decide) mixed tabOK cok_spec_WriteKey (by kernel_rfl) ?_
  intro vs kk _ hF
  exact i_spec_WriteKey (motive := fun vs => Goes (ev TT cs_spec_WriteKey 33 an_spec_WriteKey (Try.f15.body.getD .skip) (st0 con_spec_WriteKey vs) (fin TT con_spec_WriteKey Try.f15.results.toList [.agg [.sl .int, .sl .iib, .sc], .c .sc] vs kk))) hF (fun m0Store m0Lines m0Room key1 value2 hF => goes_of (e_spec_WriteKey m0Store m0Lines m0Room key1 value2 kk) (F_spec_WriteKey_S hF))
def con_impl_validValue : Con := ⟨[.rd], true, [.c (.sc)], fun vs k => match vs with
    | [.c (.v (.int .i64 value0))] => F_impl_validValue value0 (fun r0 => k (.one (.c (.v (.bool r0)))) [])
    | _ => False, false⟩
def cl_impl_validValue : List (FuncId × Con) := []
def an_impl_validValue : Ann := ⟨[], [], [], []⟩
def cs_impl_validValue : Cons := ⟨cl_impl_validValue, [], 0, [], [], []⟩
def fin_impl_validValue (value0 : Int) (kk : AV → List A1 → Prop) : Kt := fin TT con_impl_validValue Try.f51.results.toList [.c .sc] [.c (.v (.int .i64 value0))] kk
theorem g_impl_validValue (value0 : Int) (kk : AV → List A1 → Prop) :
    ev TT cs_impl_validValue 9 an_impl_validValue (Try.f51.body.getD .skip) (st0 con_impl_validValue [.c (.v (.int .i64 value0))]) (fin TT con_impl_validValue Try.f51.results.toList [.c .sc] [.c (.v (.int .i64 value0))] kk) = G_impl_validValue value0 (fun r0 => kk (.one (.c (.v (.bool r0)))) []) := by kernel_rfl
theorem e_impl_validValue (value0 : Int) (kk : AV → List A1 → Prop) :
    ev TT cs_impl_validValue 9 an_impl_validValue (Try.f51.body.getD .skip) (st0 con_impl_validValue [.c (.v (.int .i64 value0))]) (fin TT con_impl_validValue Try.f51.results.toList [.c .sc] [.c (.v (.int .i64 value0))] kk) = S_impl_validValue value0 (fun r0 => kk (.one (.c (.v (.bool r0)))) []) := by
  rw [g_impl_validValue]
  rfl
theorem clok_impl_validValue : ConOK Try.prog cl_impl_validValue := consNil
theorem cok_impl_validValue : ConsOK Try.prog 9 cs_impl_validValue := ⟨clok_impl_validValue, inlNil, ovNil⟩
theorem i_impl_validValue {vs : List A1} {kk : AV → List A1 → Prop} {motive : List A1 → Prop} (h : con_impl_validValue.F vs kk) (H : ∀ (value0 : Int), F_impl_validValue value0 (fun r0 => kk (.one (.c (.v (.bool r0)))) []) → motive [.c (.v (.int .i64 value0))]) : motive vs := by
  unfold con_impl_validValue at h
  dsimp only at h
  split at h
  · exact H _ h
  · exact h.elim
theorem h_impl_validValue : Holds Try.prog 51 con_impl_validValue := by
  refine holds_of_ev (rt := [.c .sc]) (T := TT) (Γ := cs_impl_validValue) (an := an_impl_validValue) (N := 9) (c := Try.f51.body.getD .skip) Try.func51 (by kernel_rfl) Try.ntmps51 (by decide) (by decide) mixed tabOK cok_impl_validValue (by kernel_rfl) ?_
  intro vs kk _ hF
  exact i_impl_validValue (motive := fun vs => Goes (ev TT cs_impl_validValue 9 an_impl_validValue (Try.f51.body.getD .skip) (st0 con_impl_validValue vs) (fin TT con_impl_validValue Try.f51.results.toList [.c .sc] vs kk))) hF (fun value0 hF => goes_of (e_impl_validValue value0 kk) (F_impl_validValue_S hF))
def con_impl_validStore : Con := ⟨[.rd], true, [.c (.sl .int)], fun vs k => match vs with
    | [.c (.ro .int store0)] => F_impl_validStore store0 (fun r0 => k (.one (.c (.v (.bool r0)))) [])
    | _ => False, false⟩
def cl_impl_validStore : List (FuncId × Con) := [(51, con_impl_validValue)]
def nm0_impl_validStore : List NStep := [.keep [8, 9, 10] []]
def an_impl_validStore : Ann := ⟨[], [(4, nm0_impl_validStore)], [], []⟩
def cs_impl_validStore : Cons := ⟨cl_impl_validStore, [], 0, [], [], []⟩
def can0_impl_validStore (store0 : List Int) (xt9 : Int) (xt10 : Int) : St := ⟨[(8, .one (.c (.ro .int store0))), (9, .one (.c (.v (.int .i64 xt9)))), (10, .one (.c (.v (.int .i64 xt10))))], []⟩
def fin_impl_validStore (store0 : List Int) (kk : AV → List A1 → Prop) : Kt := fin TT con_impl_validStore Try.f80.results.toList [.c .sc] [.c (.ro .int store0)] kk
def kt0_impl_validStore (kf : Kt) : Kt := blockK 0 (seqK (evF TT cs_impl_validStore 18 an_impl_validStore Try.f80 [1, 1, 1]) (kf))
theorem r0_impl_validStore (store0 : List Int) (xt9 : Int) (kk : AV → List A1 → Prop) (n : Nat) (xt10 : Int) :
    iter (evF TT cs_impl_validStore 18 an_impl_validStore Try.f80 [1, 1, 0, 1, 0, 0]) nm0_impl_validStore (kt0_impl_validStore (fin_impl_validStore store0 kk)) (n + 1) (can0_impl_validStore store0 xt9 xt10) = T0_impl_validStore store0 xt9 xt10 (fun r0 => kk (.one (.c (.v (.bool r0)))) []) (fun xt10 => iter (evF TT cs_impl_validStore 18 an_impl_validStore Try.f80 [1, 1, 0, 1, 0, 0]) nm0_impl_validStore (kt0_impl_validStore (fin_impl_validStore store0 kk)) n (can0_impl_validStore store0 xt9 xt10)) := by kernel_rfl
theorem l0_impl_validStore (store0 : List Int) (xt9 : Int) (kk : AV → List A1 → Prop) : ∀ (n : Nat) (xt10 : Int), iter (evF TT cs_impl_validStore 18 an_impl_validStore Try.f80 [1, 1, 0, 1, 0, 0]) nm0_impl_validStore (kt0_impl_validStore (fin_impl_validStore store0 kk)) n (can0_impl_validStore store0 xt9 xt10) = L0_impl_validStore store0 xt9 (fun r0 => kk (.one (.c (.v (.bool r0)))) []) n xt10 := by
  intro n
  induction n with
  | zero => intros; rfl
  | succ n ih =>
    intro xt10
    rw [r0_impl_validStore store0 xt9 kk n xt10]
    have hb : (fun xt10 => iter (evF TT cs_impl_validStore 18 an_impl_validStore Try.f80 [1, 1, 0, 1, 0, 0]) nm0_impl_validStore (kt0_impl_validStore (fin_impl_validStore store0 kk)) n (can0_impl_validStore store0 xt9 xt10)) = L0_impl_validStore store0 xt9 (fun r0 => kk (.one (.c (.v (.bool r0)))) []) n := by
      funext xt10; exact ih xt10
    rw [hb]
    rfl
theorem g_impl_validStore (store0 : List Int) (kk : AV → List A1 → Prop) :
    ev TT cs_impl_validStore 18 an_impl_validStore (Try.f80.body.getD .skip) (st0 con_impl_validStore [.c (.ro .int store0)]) (fin TT con_impl_validStore Try.f80.results.toList [.c .sc] [.c (.ro .int store0)] kk) = G_impl_validStore store0 (fun r0 => kk (.one (.c (.v (.bool r0)))) []) (fun store0 xt9 xt10 => ∃ j, iter (evF TT cs_impl_validStore 18 an_impl_validStore Try.f80 [1, 1, 0, 1, 0, 0]) nm0_impl_validStore (kt0_impl_validStore (fin_impl_validStore store0 kk)) j (can0_impl_validStore store0 xt9 xt10)) := by kernel_rfl
theorem e_impl_validStore (store0 : List Int) (kk : AV → List A1 → Prop) :
    ev TT cs_impl_validStore 18 an_impl_validStore (Try.f80.body.getD .skip) (st0 con_impl_validStore [.c (.ro .int store0)]) (fin TT con_impl_validStore Try.f80.results.toList [.c .sc] [.c (.ro .int store0)] kk) = S_impl_validStore store0 (fun r0 => kk (.one (.c (.v (.bool r0)))) []) := by
  rw [g_impl_validStore]
  have hi0 : (fun store0 xt9 xt10 => ∃ j, iter (evF TT cs_impl_validStore 18 an_impl_validStore Try.f80 [1, 1, 0, 1, 0, 0]) nm0_impl_validStore (kt0_impl_validStore (fin_impl_validStore store0 kk)) j (can0_impl_validStore store0 xt9 xt10)) = (fun store0 xt9 xt10 => ∃ j, L0_impl_validStore store0 xt9 (fun r0 => kk (.one (.c (.v (.bool r0)))) []) j xt10) := by
    funext store0 xt9 xt10
    refine congrArg Exists (funext fun j => ?_)
    rw [l0_impl_validStore store0 xt9 kk j xt10]
  rw [hi0]
  rfl
theorem clok_impl_validStore : ConOK Try.prog cl_impl_validStore := consCons h_impl_validValue ⟨Try.f51, Try.func51, by kernel_rfl, ne_of_beq (by kernel_rfl)⟩ (consNil)
theorem cok_impl_validStore : ConsOK Try.prog 18 cs_impl_validStore := ⟨clok_impl_validStore, inlNil, ovNil⟩
theorem i_impl_validStore {vs : List A1} {kk : AV → List A1 → Prop} {motive : List A1 → Prop} (h : con_impl_validStore.F vs kk) (H : ∀ (store0 : List Int), F_impl_validStore store0 (fun r0 => kk (.one (.c (.v (.bool r0)))) []) → motive [.c (.ro .int store0)]) : motive vs := by
  unfold con_impl_validStore at h
  dsimp only at h
  split at h
  · exact H _ h
  · exact h.elim
theorem h_impl_validStore : Holds Try.prog 80 con_impl_validStore := by
  refine holds_of_ev (rt := [.c .sc]) (T := TT) (Γ := cs_impl_validStore) (an := an_impl_validStore) (N := 18) (c := Try.f80.body.getD .skip) Try.func80 (by kernel_rfl) Try.ntmps80 (by decide) (by decide) mixed tabOK cok_impl_validStore (by kernel_rfl) ?_
  intro vs kk _ hF
  exact i_impl_validStore (motive := fun vs => Goes (ev TT cs_impl_validStore 18 an_impl_validStore (Try.f80.body.getD .skip) (st0 con_impl_validStore vs) (fin TT con_impl_validStore Try.f80.results.toList [.c .sc] vs kk))) hF (fun store0 hF => goes_of (e_impl_validStore store0 kk) (F_impl_validStore_S hF))
def con_impl_lineKeys : Con := ⟨[.rd], true, [.c (.sl .iib)], fun vs k => match vs with
    | [.c (.ro .iib lines0)] => F_impl_lineKeys lines0 (fun r0 => k (.one (.c (.ro .int r0))) [])
    | _ => False, false⟩
def cl_impl_lineKeys : List (FuncId × Con) := []
def nm0_impl_lineKeys : List NStep := [.own 3 .int 90000, .keep [3, 7, 8, 9] [90000]]
def an_impl_lineKeys : Ann := ⟨[], [(3, nm0_impl_lineKeys)], [], []⟩
def cs_impl_lineKeys : Cons := ⟨cl_impl_lineKeys, [], 0, [], [], []⟩
def can0_impl_lineKeys (lines0 : List (Int × Int × Bool)) (xt8 : Int) (xt9 : Int) (xout3 : List Int) : St := ⟨[(3, .one (.c (.ow 90000))), (7, .one (.c (.ro .iib lines0))), (8, .one (.c (.v (.int .i64 xt8)))), (9, .one (.c (.v (.int .i64 xt9))))], [(90000, .row .int xout3)]⟩
def fin_impl_lineKeys (lines0 : List (Int × Int × Bool)) (kk : AV → List A1 → Prop) : Kt := fin TT con_impl_lineKeys Try.f82.results.toList [.c (.sl .int)] [.c (.ro .iib lines0)] kk
def kt0_impl_lineKeys (kf : Kt) : Kt := blockK 0 (seqK (evF TT cs_impl_lineKeys 20 an_impl_lineKeys Try.f82 [1, 1, 1]) (kf))
theorem r0_impl_lineKeys (lines0 : List (Int × Int × Bool)) (xt8 : Int) (kk : AV → List A1 → Prop) (n : Nat) (xt9 : Int) (xout3 : List Int) :
    iter (evF TT cs_impl_lineKeys 20 an_impl_lineKeys Try.f82 [1, 1, 0, 1, 0, 0]) nm0_impl_lineKeys (kt0_impl_lineKeys (fin_impl_lineKeys lines0 kk)) (n + 1) (can0_impl_lineKeys lines0 xt8 xt9 xout3) = T0_impl_lineKeys lines0 xt8 xt9 xout3 (fun r0 => kk (.one (.c (.ro .int r0))) []) (fun xt9 xout3 => iter (evF TT cs_impl_lineKeys 20 an_impl_lineKeys Try.f82 [1, 1, 0, 1, 0, 0]) nm0_impl_lineKeys (kt0_impl_lineKeys (fin_impl_lineKeys lines0 kk)) n (can0_impl_lineKeys lines0 xt8 xt9 xout3)) := by kernel_rfl
theorem l0_impl_lineKeys (lines0 : List (Int × Int × Bool)) (xt8 : Int) (kk : AV → List A1 → Prop) : ∀ (n : Nat) (xt9 : Int) (xout3 : List Int), iter (evF TT cs_impl_lineKeys 20 an_impl_lineKeys Try.f82 [1, 1, 0, 1, 0, 0]) nm0_impl_lineKeys (kt0_impl_lineKeys (fin_impl_lineKeys lines0 kk)) n (can0_impl_lineKeys lines0 xt8 xt9 xout3) = L0_impl_lineKeys lines0 xt8 (fun r0 => kk (.one (.c (.ro .int r0))) []) n xt9 xout3 := by
  intro n
  induction n with
  | zero => intros; rfl
  | succ n ih =>
    intro xt9 xout3
    rw [r0_impl_lineKeys lines0 xt8 kk n xt9 xout3]
    have hb : (fun xt9 xout3 => iter (evF TT cs_impl_lineKeys 20 an_impl_lineKeys Try.f82 [1, 1, 0, 1, 0, 0]) nm0_impl_lineKeys (kt0_impl_lineKeys (fin_impl_lineKeys lines0 kk)) n (can0_impl_lineKeys lines0 xt8 xt9 xout3)) = L0_impl_lineKeys lines0 xt8 (fun r0 => kk (.one (.c (.ro .int r0))) []) n := by
      funext xt9 xout3; exact ih xt9 xout3
    rw [hb]
    rfl
theorem g_impl_lineKeys (lines0 : List (Int × Int × Bool)) (kk : AV → List A1 → Prop) :
    ev TT cs_impl_lineKeys 20 an_impl_lineKeys (Try.f82.body.getD .skip) (st0 con_impl_lineKeys [.c (.ro .iib lines0)]) (fin TT con_impl_lineKeys Try.f82.results.toList [.c (.sl .int)] [.c (.ro .iib lines0)] kk) = G_impl_lineKeys lines0 (fun lines0 xt8 xt9 xout3 => ∃ j, iter (evF TT cs_impl_lineKeys 20 an_impl_lineKeys Try.f82 [1, 1, 0, 1, 0, 0]) nm0_impl_lineKeys (kt0_impl_lineKeys (fin_impl_lineKeys lines0 kk)) j (can0_impl_lineKeys lines0 xt8 xt9 xout3)) := by kernel_rfl
theorem e_impl_lineKeys (lines0 : List (Int × Int × Bool)) (kk : AV → List A1 → Prop) :
    ev TT cs_impl_lineKeys 20 an_impl_lineKeys (Try.f82.body.getD .skip) (st0 con_impl_lineKeys [.c (.ro .iib lines0)]) (fin TT con_impl_lineKeys Try.f82.results.toList [.c (.sl .int)] [.c (.ro .iib lines0)] kk) = S_impl_lineKeys lines0 (fun r0 => kk (.one (.c (.ro .int r0))) []) := by
  rw [g_impl_lineKeys]
  have hi0 : (fun lines0 xt8 xt9 xout3 => ∃ j, iter (evF TT cs_impl_lineKeys 20 an_impl_lineKeys Try.f82 [1, 1, 0, 1, 0, 0]) nm0_impl_lineKeys (kt0_impl_lineKeys (fin_impl_lineKeys lines0 kk)) j (can0_impl_lineKeys lines0 xt8 xt9 xout3)) = (fun lines0 xt8 xt9 xout3 => ∃ j, L0_impl_lineKeys lines0 xt8 (fun r0 => kk (.one (.c (.ro .int r0))) []) j xt9 xout3) := by
    funext lines0 xt8 xt9 xout3
    refine congrArg Exists (funext fun j => ?_)
    rw [l0_impl_lineKeys lines0 xt8 kk j xt9 xout3]
  rw [hi0]
  rfl
theorem clok_impl_lineKeys : ConOK Try.prog cl_impl_lineKeys := consNil
theorem cok_impl_lineKeys : ConsOK Try.prog 20 cs_impl_lineKeys := ⟨clok_impl_lineKeys, inlNil, ovNil⟩
theorem i_impl_lineKeys {vs : List A1} {kk : AV → List A1 → Prop} {motive : List A1 → Prop} (h : con_impl_lineKeys.F vs kk) (H : ∀ (lines0 : List (Int × Int × Bool)), F_impl_lineKeys lines0 (fun r0 => kk (.one (.c (.ro .int r0))) []) → motive [.c (.ro .iib lines0)]) : motive vs := by
  unfold con_impl_lineKeys at h
  dsimp only at h
  split at h
  · exact H _ h
  · exact h.elim
theorem h_impl_lineKeys : Holds Try.prog 82 con_impl_lineKeys := by
  refine holds_of_ev (rt := [.c (.sl .int)]) (T := TT) (Γ := cs_impl_lineKeys) (an := an_impl_lineKeys) (N := 20) (c := Try.f82.body.getD .skip) Try.func82 (by kernel_rfl) Try.ntmps82 (by decide) (by decide) mixed tabOK cok_impl_lineKeys (by kernel_rfl) ?_
  intro vs kk _ hF
  exact i_impl_lineKeys (motive := fun vs => Goes (ev TT cs_impl_lineKeys 20 an_impl_lineKeys (Try.f82.body.getD .skip) (st0 con_impl_lineKeys vs) (fin TT con_impl_lineKeys Try.f82.results.toList [.c (.sl .int)] vs kk))) hF (fun lines0 hF => goes_of (e_impl_lineKeys lines0 kk) (F_impl_lineKeys_S hF))
def con_impl_validRoom : Con := ⟨[.rd], true, [.c (.sc)], fun vs k => match vs with
    | [.c (.v (.int .i64 room0))] => F_impl_validRoom room0 (fun r0 => k (.one (.c (.v (.bool r0)))) [])
    | _ => False, false⟩
def cl_impl_validRoom : List (FuncId × Con) := []
def an_impl_validRoom : Ann := ⟨[], [], [], []⟩
def cs_impl_validRoom : Cons := ⟨cl_impl_validRoom, [], 0, [], [], []⟩
def fin_impl_validRoom (room0 : Int) (kk : AV → List A1 → Prop) : Kt := fin TT con_impl_validRoom Try.f66.results.toList [.c .sc] [.c (.v (.int .i64 room0))] kk
theorem g_impl_validRoom (room0 : Int) (kk : AV → List A1 → Prop) :
    ev TT cs_impl_validRoom 9 an_impl_validRoom (Try.f66.body.getD .skip) (st0 con_impl_validRoom [.c (.v (.int .i64 room0))]) (fin TT con_impl_validRoom Try.f66.results.toList [.c .sc] [.c (.v (.int .i64 room0))] kk) = G_impl_validRoom room0 (fun r0 => kk (.one (.c (.v (.bool r0)))) []) := by kernel_rfl
theorem e_impl_validRoom (room0 : Int) (kk : AV → List A1 → Prop) :
    ev TT cs_impl_validRoom 9 an_impl_validRoom (Try.f66.body.getD .skip) (st0 con_impl_validRoom [.c (.v (.int .i64 room0))]) (fin TT con_impl_validRoom Try.f66.results.toList [.c .sc] [.c (.v (.int .i64 room0))] kk) = S_impl_validRoom room0 (fun r0 => kk (.one (.c (.v (.bool r0)))) []) := by
  rw [g_impl_validRoom]
  rfl
theorem clok_impl_validRoom : ConOK Try.prog cl_impl_validRoom := consNil
theorem cok_impl_validRoom : ConsOK Try.prog 9 cs_impl_validRoom := ⟨clok_impl_validRoom, inlNil, ovNil⟩
theorem i_impl_validRoom {vs : List A1} {kk : AV → List A1 → Prop} {motive : List A1 → Prop} (h : con_impl_validRoom.F vs kk) (H : ∀ (room0 : Int), F_impl_validRoom room0 (fun r0 => kk (.one (.c (.v (.bool r0)))) []) → motive [.c (.v (.int .i64 room0))]) : motive vs := by
  unfold con_impl_validRoom at h
  dsimp only at h
  split at h
  · exact H _ h
  · exact h.elim
theorem h_impl_validRoom : Holds Try.prog 66 con_impl_validRoom := by
  refine holds_of_ev (rt := [.c .sc]) (T := TT) (Γ := cs_impl_validRoom) (an := an_impl_validRoom) (N := 9) (c := Try.f66.body.getD .skip) Try.func66 (by kernel_rfl) Try.ntmps66 (by decide) (by decide) mixed tabOK cok_impl_validRoom (by kernel_rfl) ?_
  intro vs kk _ hF
  exact i_impl_validRoom (motive := fun vs => Goes (ev TT cs_impl_validRoom 9 an_impl_validRoom (Try.f66.body.getD .skip) (st0 con_impl_validRoom vs) (fin TT con_impl_validRoom Try.f66.results.toList [.c .sc] vs kk))) hF (fun room0 hF => goes_of (e_impl_validRoom room0 kk) (F_impl_validRoom_S hF))
def con_impl_validKey : Con := ⟨[.rd], true, [.c (.sc)], fun vs k => match vs with
    | [.c (.v (.int .i64 key0))] => F_impl_validKey key0 (fun r0 => k (.one (.c (.v (.bool r0)))) [])
    | _ => False, false⟩
def cl_impl_validKey : List (FuncId × Con) := []
def an_impl_validKey : Ann := ⟨[], [], [], []⟩
def cs_impl_validKey : Cons := ⟨cl_impl_validKey, [], 0, [], [], []⟩
def fin_impl_validKey (key0 : Int) (kk : AV → List A1 → Prop) : Kt := fin TT con_impl_validKey Try.f50.results.toList [.c .sc] [.c (.v (.int .i64 key0))] kk
theorem g_impl_validKey (key0 : Int) (kk : AV → List A1 → Prop) :
    ev TT cs_impl_validKey 9 an_impl_validKey (Try.f50.body.getD .skip) (st0 con_impl_validKey [.c (.v (.int .i64 key0))]) (fin TT con_impl_validKey Try.f50.results.toList [.c .sc] [.c (.v (.int .i64 key0))] kk) = G_impl_validKey key0 (fun r0 => kk (.one (.c (.v (.bool r0)))) []) := by kernel_rfl
theorem e_impl_validKey (key0 : Int) (kk : AV → List A1 → Prop) :
    ev TT cs_impl_validKey 9 an_impl_validKey (Try.f50.body.getD .skip) (st0 con_impl_validKey [.c (.v (.int .i64 key0))]) (fin TT con_impl_validKey Try.f50.results.toList [.c .sc] [.c (.v (.int .i64 key0))] kk) = S_impl_validKey key0 (fun r0 => kk (.one (.c (.v (.bool r0)))) []) := by
  rw [g_impl_validKey]
  rfl
theorem clok_impl_validKey : ConOK Try.prog cl_impl_validKey := consNil
theorem cok_impl_validKey : ConsOK Try.prog 9 cs_impl_validKey := ⟨clok_impl_validKey, inlNil, ovNil⟩
theorem i_impl_validKey {vs : List A1} {kk : AV → List A1 → Prop} {motive : List A1 → Prop} (h : con_impl_validKey.F vs kk) (H : ∀ (key0 : Int), F_impl_validKey key0 (fun r0 => kk (.one (.c (.v (.bool r0)))) []) → motive [.c (.v (.int .i64 key0))]) : motive vs := by
  unfold con_impl_validKey at h
  dsimp only at h
  split at h
  · exact H _ h
  · exact h.elim
theorem h_impl_validKey : Holds Try.prog 50 con_impl_validKey := by
  refine holds_of_ev (rt := [.c .sc]) (T := TT) (Γ := cs_impl_validKey) (an := an_impl_validKey) (N := 9) (c := Try.f50.body.getD .skip) Try.func50 (by kernel_rfl) Try.ntmps50 (by decide) (by decide) mixed tabOK cok_impl_validKey (by kernel_rfl) ?_
  intro vs kk _ hF
  exact i_impl_validKey (motive := fun vs => Goes (ev TT cs_impl_validKey 9 an_impl_validKey (Try.f50.body.getD .skip) (st0 con_impl_validKey vs) (fin TT con_impl_validKey Try.f50.results.toList [.c .sc] vs kk))) hF (fun key0 hF => goes_of (e_impl_validKey key0 kk) (F_impl_validKey_S hF))
def con_slices_Index_sint_int : Con := ⟨[.rd, .rd], true, [.c (.sl .int), .c (.sc)], fun vs k => match vs with
    | [.c (.ro .int s0), .c (.v (.int .i64 v1))] => F_slices_Index_sint_int s0 v1 (fun r0 => k (.one (.c (.v (.int .i64 r0)))) [])
    | _ => False, false⟩
def cl_slices_Index_sint_int : List (FuncId × Con) := []
def nm0_slices_Index_sint_int : List NStep := [.keep [0, 1, 7, 8] []]
def an_slices_Index_sint_int : Ann := ⟨[], [(2, nm0_slices_Index_sint_int)], [], []⟩
def cs_slices_Index_sint_int : Cons := ⟨cl_slices_Index_sint_int, [], 0, [], [], []⟩
def can0_slices_Index_sint_int (s0 : List Int) (v1 : Int) (xt7 : Int) (xt8 : Int) : St := ⟨[(0, .one (.c (.ro .int s0))), (1, .one (.c (.v (.int .i64 v1)))), (7, .one (.c (.v (.int .i64 xt7)))), (8, .one (.c (.v (.int .i64 xt8))))], []⟩
def fin_slices_Index_sint_int (s0 : List Int) (v1 : Int) (kk : AV → List A1 → Prop) : Kt := fin TT con_slices_Index_sint_int Try.f100.results.toList [.c .sc] [.c (.ro .int s0), .c (.v (.int .i64 v1))] kk
def kt0_slices_Index_sint_int (kf : Kt) : Kt := blockK 0 (seqK (evF TT cs_slices_Index_sint_int 19 an_slices_Index_sint_int Try.f100 [1, 1]) (kf))
theorem r0_slices_Index_sint_int (s0 : List Int) (v1 : Int) (xt7 : Int) (kk : AV → List A1 → Prop) (n : Nat) (xt8 : Int) :
    iter (evF TT cs_slices_Index_sint_int 19 an_slices_Index_sint_int Try.f100 [1, 0, 1, 0, 0]) nm0_slices_Index_sint_int (kt0_slices_Index_sint_int (fin_slices_Index_sint_int s0 v1 kk)) (n + 1) (can0_slices_Index_sint_int s0 v1 xt7 xt8) = T0_slices_Index_sint_int s0 v1 xt7 xt8 (fun r0 => kk (.one (.c (.v (.int .i64 r0)))) []) (fun xt8 => iter (evF TT cs_slices_Index_sint_int 19 an_slices_Index_sint_int Try.f100 [1, 0, 1, 0, 0]) nm0_slices_Index_sint_int (kt0_slices_Index_sint_int (fin_slices_Index_sint_int s0 v1 kk)) n (can0_slices_Index_sint_int s0 v1 xt7 xt8)) := by kernel_rfl
theorem l0_slices_Index_sint_int (s0 : List Int) (v1 : Int) (xt7 : Int) (kk : AV → List A1 → Prop) : ∀ (n : Nat) (xt8 : Int), iter (evF TT cs_slices_Index_sint_int 19 an_slices_Index_sint_int Try.f100 [1, 0, 1, 0, 0]) nm0_slices_Index_sint_int (kt0_slices_Index_sint_int (fin_slices_Index_sint_int s0 v1 kk)) n (can0_slices_Index_sint_int s0 v1 xt7 xt8) = L0_slices_Index_sint_int s0 v1 xt7 (fun r0 => kk (.one (.c (.v (.int .i64 r0)))) []) n xt8 := by
  intro n
  induction n with
  | zero => intros; rfl
  | succ n ih =>
    intro xt8
    rw [r0_slices_Index_sint_int s0 v1 xt7 kk n xt8]
    have hb : (fun xt8 => iter (evF TT cs_slices_Index_sint_int 19 an_slices_Index_sint_int Try.f100 [1, 0, 1, 0, 0]) nm0_slices_Index_sint_int (kt0_slices_Index_sint_int (fin_slices_Index_sint_int s0 v1 kk)) n (can0_slices_Index_sint_int s0 v1 xt7 xt8)) = L0_slices_Index_sint_int s0 v1 xt7 (fun r0 => kk (.one (.c (.v (.int .i64 r0)))) []) n := by
      funext xt8; exact ih xt8
    rw [hb]
    rfl
theorem g_slices_Index_sint_int (s0 : List Int) (v1 : Int) (kk : AV → List A1 → Prop) :
    ev TT cs_slices_Index_sint_int 19 an_slices_Index_sint_int (Try.f100.body.getD .skip) (st0 con_slices_Index_sint_int [.c (.ro .int s0), .c (.v (.int .i64 v1))]) (fin TT con_slices_Index_sint_int Try.f100.results.toList [.c .sc] [.c (.ro .int s0), .c (.v (.int .i64 v1))] kk) = G_slices_Index_sint_int s0 v1 (fun s0 v1 xt7 xt8 => ∃ j, iter (evF TT cs_slices_Index_sint_int 19 an_slices_Index_sint_int Try.f100 [1, 0, 1, 0, 0]) nm0_slices_Index_sint_int (kt0_slices_Index_sint_int (fin_slices_Index_sint_int s0 v1 kk)) j (can0_slices_Index_sint_int s0 v1 xt7 xt8)) := by kernel_rfl
theorem e_slices_Index_sint_int (s0 : List Int) (v1 : Int) (kk : AV → List A1 → Prop) :
    ev TT cs_slices_Index_sint_int 19 an_slices_Index_sint_int (Try.f100.body.getD .skip) (st0 con_slices_Index_sint_int [.c (.ro .int s0), .c (.v (.int .i64 v1))]) (fin TT con_slices_Index_sint_int Try.f100.results.toList [.c .sc] [.c (.ro .int s0), .c (.v (.int .i64 v1))] kk) = S_slices_Index_sint_int s0 v1 (fun r0 => kk (.one (.c (.v (.int .i64 r0)))) []) := by
  rw [g_slices_Index_sint_int]
  have hi0 : (fun s0 v1 xt7 xt8 => ∃ j, iter (evF TT cs_slices_Index_sint_int 19 an_slices_Index_sint_int Try.f100 [1, 0, 1, 0, 0]) nm0_slices_Index_sint_int (kt0_slices_Index_sint_int (fin_slices_Index_sint_int s0 v1 kk)) j (can0_slices_Index_sint_int s0 v1 xt7 xt8)) = (fun s0 v1 xt7 xt8 => ∃ j, L0_slices_Index_sint_int s0 v1 xt7 (fun r0 => kk (.one (.c (.v (.int .i64 r0)))) []) j xt8) := by
    funext s0 v1 xt7 xt8
    refine congrArg Exists (funext fun j => ?_)
    rw [l0_slices_Index_sint_int s0 v1 xt7 kk j xt8]
  rw [hi0]
  rfl
theorem clok_slices_Index_sint_int : ConOK Try.prog cl_slices_Index_sint_int := consNil
theorem cok_slices_Index_sint_int : ConsOK Try.prog 19 cs_slices_Index_sint_int := ⟨clok_slices_Index_sint_int, inlNil, ovNil⟩
theorem i_slices_Index_sint_int {vs : List A1} {kk : AV → List A1 → Prop} {motive : List A1 → Prop} (h : con_slices_Index_sint_int.F vs kk) (H : ∀ (s0 : List Int) (v1 : Int), F_slices_Index_sint_int s0 v1 (fun r0 => kk (.one (.c (.v (.int .i64 r0)))) []) → motive [.c (.ro .int s0), .c (.v (.int .i64 v1))]) : motive vs := by
  unfold con_slices_Index_sint_int at h
  dsimp only at h
  split at h
  · exact H _ _ h
  · exact h.elim
theorem h_slices_Index_sint_int : Holds Try.prog 100 con_slices_Index_sint_int := by
  refine holds_of_ev (rt := [.c .sc]) (T := TT) (Γ := cs_slices_Index_sint_int) (an := an_slices_Index_sint_int) (N := 19) (c := Try.f100.body.getD .skip) Try.func100 (by kernel_rfl) Try.ntmps100 (by decide) (by decide) mixed tabOK cok_slices_Index_sint_int (by kernel_rfl) ?_
  intro vs kk _ hF
  exact i_slices_Index_sint_int (motive := fun vs => Goes (ev TT cs_slices_Index_sint_int 19 an_slices_Index_sint_int (Try.f100.body.getD .skip) (st0 con_slices_Index_sint_int vs) (fin TT con_slices_Index_sint_int Try.f100.results.toList [.c .sc] vs kk))) hF (fun s0 v1 hF => goes_of (e_slices_Index_sint_int s0 v1 kk) (F_slices_Index_sint_int_S hF))
def con_slices_Contains_sint_int : Con := ⟨[.rd, .rd], true, [.c (.sl .int), .c (.sc)], fun vs k => match vs with
    | [.c (.ro .int s0), .c (.v (.int .i64 v1))] => F_slices_Contains_sint_int s0 v1 (fun r0 => k (.one (.c (.v (.bool r0)))) [])
    | _ => False, false⟩
def cl_slices_Contains_sint_int : List (FuncId × Con) := [(100, con_slices_Index_sint_int)]
def an_slices_Contains_sint_int : Ann := ⟨[], [], [], []⟩
def cs_slices_Contains_sint_int : Cons := ⟨cl_slices_Contains_sint_int, [], 0, [], [], []⟩
def fin_slices_Contains_sint_int (s0 : List Int) (v1 : Int) (kk : AV → List A1 → Prop) : Kt := fin TT con_slices_Contains_sint_int Try.f73.results.toList [.c .sc] [.c (.ro .int s0), .c (.v (.int .i64 v1))] kk
theorem g_slices_Contains_sint_int (s0 : List Int) (v1 : Int) (kk : AV → List A1 → Prop) :
    ev TT cs_slices_Contains_sint_int 9 an_slices_Contains_sint_int (Try.f73.body.getD .skip) (st0 con_slices_Contains_sint_int [.c (.ro .int s0), .c (.v (.int .i64 v1))]) (fin TT con_slices_Contains_sint_int Try.f73.results.toList [.c .sc] [.c (.ro .int s0), .c (.v (.int .i64 v1))] kk) = G_slices_Contains_sint_int s0 v1 (fun r0 => kk (.one (.c (.v (.bool r0)))) []) := by kernel_rfl
theorem e_slices_Contains_sint_int (s0 : List Int) (v1 : Int) (kk : AV → List A1 → Prop) :
    ev TT cs_slices_Contains_sint_int 9 an_slices_Contains_sint_int (Try.f73.body.getD .skip) (st0 con_slices_Contains_sint_int [.c (.ro .int s0), .c (.v (.int .i64 v1))]) (fin TT con_slices_Contains_sint_int Try.f73.results.toList [.c .sc] [.c (.ro .int s0), .c (.v (.int .i64 v1))] kk) = S_slices_Contains_sint_int s0 v1 (fun r0 => kk (.one (.c (.v (.bool r0)))) []) := by
  rw [g_slices_Contains_sint_int]
  rfl
theorem clok_slices_Contains_sint_int : ConOK Try.prog cl_slices_Contains_sint_int := consCons h_slices_Index_sint_int ⟨Try.f100, Try.func100, by kernel_rfl, ne_of_beq (by kernel_rfl)⟩ (consNil)
theorem cok_slices_Contains_sint_int : ConsOK Try.prog 9 cs_slices_Contains_sint_int := ⟨clok_slices_Contains_sint_int, inlNil, ovNil⟩
theorem i_slices_Contains_sint_int {vs : List A1} {kk : AV → List A1 → Prop} {motive : List A1 → Prop} (h : con_slices_Contains_sint_int.F vs kk) (H : ∀ (s0 : List Int) (v1 : Int), F_slices_Contains_sint_int s0 v1 (fun r0 => kk (.one (.c (.v (.bool r0)))) []) → motive [.c (.ro .int s0), .c (.v (.int .i64 v1))]) : motive vs := by
  unfold con_slices_Contains_sint_int at h
  dsimp only at h
  split at h
  · exact H _ _ h
  · exact h.elim
theorem h_slices_Contains_sint_int : Holds Try.prog 73 con_slices_Contains_sint_int := by
  refine holds_of_ev (rt := [.c .sc]) (T := TT) (Γ := cs_slices_Contains_sint_int) (an := an_slices_Contains_sint_int) (N := 9) (c := Try.f73.body.getD .skip) Try.func73 (by kernel_rfl) Try.ntmps73 (by decide) (by decide) mixed tabOK cok_slices_Contains_sint_int (by kernel_rfl) ?_
  intro vs kk _ hF
  exact i_slices_Contains_sint_int (motive := fun vs => Goes (ev TT cs_slices_Contains_sint_int 9 an_slices_Contains_sint_int (Try.f73.body.getD .skip) (st0 con_slices_Contains_sint_int vs) (fin TT con_slices_Contains_sint_int Try.f73.results.toList [.c .sc] vs kk))) hF (fun s0 v1 hF => goes_of (e_slices_Contains_sint_int s0 v1 kk) (F_slices_Contains_sint_int_S hF))
def con_impl_differentKeys : Con := ⟨[.rd], true, [.c (.sl .int)], fun vs k => match vs with
    | [.c (.ro .int list0)] => F_impl_differentKeys list0 (fun r0 => k (.one (.c (.v (.bool r0)))) [])
    | _ => False, false⟩
def cl_impl_differentKeys : List (FuncId × Con) := [(50, con_impl_validKey), (73, con_slices_Contains_sint_int)]
def nm0_impl_differentKeys : List NStep := [.keep [0, 5, 6, 7] []]
def an_impl_differentKeys : Ann := ⟨[], [(2, nm0_impl_differentKeys)], [], []⟩
def cs_impl_differentKeys : Cons := ⟨cl_impl_differentKeys, [], 0, [], [], []⟩
def can0_impl_differentKeys (list0 : List Int) (xt6 : Int) (xt7 : Int) : St := ⟨[(0, .one (.c (.ro .int list0))), (5, .one (.c (.ro .int list0))), (6, .one (.c (.v (.int .i64 xt6)))), (7, .one (.c (.v (.int .i64 xt7))))], []⟩
def fin_impl_differentKeys (list0 : List Int) (kk : AV → List A1 → Prop) : Kt := fin TT con_impl_differentKeys Try.f103.results.toList [.c .sc] [.c (.ro .int list0)] kk
def kt0_impl_differentKeys (kf : Kt) : Kt := blockK 0 (seqK (evF TT cs_impl_differentKeys 23 an_impl_differentKeys Try.f103 [1, 1]) (kf))
theorem r0_impl_differentKeys (list0 : List Int) (xt6 : Int) (kk : AV → List A1 → Prop) (n : Nat) (xt7 : Int) :
    iter (evF TT cs_impl_differentKeys 23 an_impl_differentKeys Try.f103 [1, 0, 1, 0, 0]) nm0_impl_differentKeys (kt0_impl_differentKeys (fin_impl_differentKeys list0 kk)) (n + 1) (can0_impl_differentKeys list0 xt6 xt7) = T0_impl_differentKeys list0 xt6 xt7 (fun r0 => kk (.one (.c (.v (.bool r0)))) []) (fun xt7 => iter (evF TT cs_impl_differentKeys 23 an_impl_differentKeys Try.f103 [1, 0, 1, 0, 0]) nm0_impl_differentKeys (kt0_impl_differentKeys (fin_impl_differentKeys list0 kk)) n (can0_impl_differentKeys list0 xt6 xt7)) := by kernel_rfl
theorem l0_impl_differentKeys (list0 : List Int) (xt6 : Int) (kk : AV → List A1 → Prop) : ∀ (n : Nat) (xt7 : Int), iter (evF TT cs_impl_differentKeys 23 an_impl_differentKeys Try.f103 [1, 0, 1, 0, 0]) nm0_impl_differentKeys (kt0_impl_differentKeys (fin_impl_differentKeys list0 kk)) n (can0_impl_differentKeys list0 xt6 xt7) = L0_impl_differentKeys list0 xt6 (fun r0 => kk (.one (.c (.v (.bool r0)))) []) n xt7 := by
  intro n
  induction n with
  | zero => intros; rfl
  | succ n ih =>
    intro xt7
    rw [r0_impl_differentKeys list0 xt6 kk n xt7]
    have hb : (fun xt7 => iter (evF TT cs_impl_differentKeys 23 an_impl_differentKeys Try.f103 [1, 0, 1, 0, 0]) nm0_impl_differentKeys (kt0_impl_differentKeys (fin_impl_differentKeys list0 kk)) n (can0_impl_differentKeys list0 xt6 xt7)) = L0_impl_differentKeys list0 xt6 (fun r0 => kk (.one (.c (.v (.bool r0)))) []) n := by
      funext xt7; exact ih xt7
    rw [hb]
    rfl
theorem g_impl_differentKeys (list0 : List Int) (kk : AV → List A1 → Prop) :
    ev TT cs_impl_differentKeys 23 an_impl_differentKeys (Try.f103.body.getD .skip) (st0 con_impl_differentKeys [.c (.ro .int list0)]) (fin TT con_impl_differentKeys Try.f103.results.toList [.c .sc] [.c (.ro .int list0)] kk) = G_impl_differentKeys list0 (fun list0 xt6 xt7 => ∃ j, iter (evF TT cs_impl_differentKeys 23 an_impl_differentKeys Try.f103 [1, 0, 1, 0, 0]) nm0_impl_differentKeys (kt0_impl_differentKeys (fin_impl_differentKeys list0 kk)) j (can0_impl_differentKeys list0 xt6 xt7)) := by kernel_rfl
theorem e_impl_differentKeys (list0 : List Int) (kk : AV → List A1 → Prop) :
    ev TT cs_impl_differentKeys 23 an_impl_differentKeys (Try.f103.body.getD .skip) (st0 con_impl_differentKeys [.c (.ro .int list0)]) (fin TT con_impl_differentKeys Try.f103.results.toList [.c .sc] [.c (.ro .int list0)] kk) = S_impl_differentKeys list0 (fun r0 => kk (.one (.c (.v (.bool r0)))) []) := by
  rw [g_impl_differentKeys]
  have hi0 : (fun list0 xt6 xt7 => ∃ j, iter (evF TT cs_impl_differentKeys 23 an_impl_differentKeys Try.f103 [1, 0, 1, 0, 0]) nm0_impl_differentKeys (kt0_impl_differentKeys (fin_impl_differentKeys list0 kk)) j (can0_impl_differentKeys list0 xt6 xt7)) = (fun list0 xt6 xt7 => ∃ j, L0_impl_differentKeys list0 xt6 (fun r0 => kk (.one (.c (.v (.bool r0)))) []) j xt7) := by
    funext list0 xt6 xt7
    refine congrArg Exists (funext fun j => ?_)
    rw [l0_impl_differentKeys list0 xt6 kk j xt7]
  rw [hi0]
  rfl
theorem clok_impl_differentKeys : ConOK Try.prog cl_impl_differentKeys := consCons h_impl_validKey ⟨Try.f50, Try.func50, by kernel_rfl, ne_of_beq (by kernel_rfl)⟩ (consCons h_slices_Contains_sint_int ⟨Try.f73, Try.func73, by kernel_rfl, ne_of_beq (by kernel_rfl)⟩ (consNil))
theorem cok_impl_differentKeys : ConsOK Try.prog 23 cs_impl_differentKeys := ⟨clok_impl_differentKeys, inlNil, ovNil⟩
theorem i_impl_differentKeys {vs : List A1} {kk : AV → List A1 → Prop} {motive : List A1 → Prop} (h : con_impl_differentKeys.F vs kk) (H : ∀ (list0 : List Int), F_impl_differentKeys list0 (fun r0 => kk (.one (.c (.v (.bool r0)))) []) → motive [.c (.ro .int list0)]) : motive vs := by
  unfold con_impl_differentKeys at h
  dsimp only at h
  split at h
  · exact H _ h
  · exact h.elim
theorem h_impl_differentKeys : Holds Try.prog 103 con_impl_differentKeys := by
  refine holds_of_ev (rt := [.c .sc]) (T := TT) (Γ := cs_impl_differentKeys) (an := an_impl_differentKeys) (N := 23) (c := Try.f103.body.getD .skip) Try.func103 (by kernel_rfl) Try.ntmps103 (by decide) (by decide) mixed tabOK cok_impl_differentKeys (by kernel_rfl) ?_
  intro vs kk _ hF
  exact i_impl_differentKeys (motive := fun vs => Goes (ev TT cs_impl_differentKeys 23 an_impl_differentKeys (Try.f103.body.getD .skip) (st0 con_impl_differentKeys vs) (fin TT con_impl_differentKeys Try.f103.results.toList [.c .sc] vs kk))) hF (fun list0 hF => goes_of (e_impl_differentKeys list0 kk) (F_impl_differentKeys_S hF))
def con_impl_ValidKeys : Con := ⟨[.rd, .rd], true, [.c (.sl .int), .c (.sc)], fun vs k => match vs with
    | [.c (.ro .int list0), .c (.v (.int .i64 room1))] => F_impl_ValidKeys list0 room1 (fun r0 => k (.one (.c (.v (.bool r0)))) [])
    | _ => False, false⟩
def cl_impl_ValidKeys : List (FuncId × Con) := [(66, con_impl_validRoom), (103, con_impl_differentKeys)]
def an_impl_ValidKeys : Ann := ⟨[], [], [], []⟩
def cs_impl_ValidKeys : Cons := ⟨cl_impl_ValidKeys, [], 0, [], [], []⟩
def fin_impl_ValidKeys (list0 : List Int) (room1 : Int) (kk : AV → List A1 → Prop) : Kt := fin TT con_impl_ValidKeys Try.f81.results.toList [.c .sc] [.c (.ro .int list0), .c (.v (.int .i64 room1))] kk
theorem g_impl_ValidKeys (list0 : List Int) (room1 : Int) (kk : AV → List A1 → Prop) :
    ev TT cs_impl_ValidKeys 17 an_impl_ValidKeys (Try.f81.body.getD .skip) (st0 con_impl_ValidKeys [.c (.ro .int list0), .c (.v (.int .i64 room1))]) (fin TT con_impl_ValidKeys Try.f81.results.toList [.c .sc] [.c (.ro .int list0), .c (.v (.int .i64 room1))] kk) = G_impl_ValidKeys list0 room1 (fun r0 => kk (.one (.c (.v (.bool r0)))) []) := by kernel_rfl
theorem e_impl_ValidKeys (list0 : List Int) (room1 : Int) (kk : AV → List A1 → Prop) :
    ev TT cs_impl_ValidKeys 17 an_impl_ValidKeys (Try.f81.body.getD .skip) (st0 con_impl_ValidKeys [.c (.ro .int list0), .c (.v (.int .i64 room1))]) (fin TT con_impl_ValidKeys Try.f81.results.toList [.c .sc] [.c (.ro .int list0), .c (.v (.int .i64 room1))] kk) = S_impl_ValidKeys list0 room1 (fun r0 => kk (.one (.c (.v (.bool r0)))) []) := by
  rw [g_impl_ValidKeys]
  rfl
theorem clok_impl_ValidKeys : ConOK Try.prog cl_impl_ValidKeys := consCons h_impl_validRoom ⟨Try.f66, Try.func66, by kernel_rfl, ne_of_beq (by kernel_rfl)⟩ (consCons h_impl_differentKeys ⟨Try.f103, Try.func103, by kernel_rfl, ne_of_beq (by kernel_rfl)⟩ (consNil))
theorem cok_impl_ValidKeys : ConsOK Try.prog 17 cs_impl_ValidKeys := ⟨clok_impl_ValidKeys, inlNil, ovNil⟩
theorem i_impl_ValidKeys {vs : List A1} {kk : AV → List A1 → Prop} {motive : List A1 → Prop} (h : con_impl_ValidKeys.F vs kk) (H : ∀ (list0 : List Int) (room1 : Int), F_impl_ValidKeys list0 room1 (fun r0 => kk (.one (.c (.v (.bool r0)))) []) → motive [.c (.ro .int list0), .c (.v (.int .i64 room1))]) : motive vs := by
  unfold con_impl_ValidKeys at h
  dsimp only at h
  split at h
  · exact H _ _ h
  · exact h.elim
theorem h_impl_ValidKeys : Holds Try.prog 81 con_impl_ValidKeys := by
  refine holds_of_ev (rt := [.c .sc]) (T := TT) (Γ := cs_impl_ValidKeys) (an := an_impl_ValidKeys) (N := 17) (c := Try.f81.body.getD .skip) Try.func81 (by kernel_rfl) Try.ntmps81 (by decide) (by decide) mixed tabOK cok_impl_ValidKeys (by kernel_rfl) ?_
  intro vs kk _ hF
  exact i_impl_ValidKeys (motive := fun vs => Goes (ev TT cs_impl_ValidKeys 17 an_impl_ValidKeys (Try.f81.body.getD .skip) (st0 con_impl_ValidKeys vs) (fin TT con_impl_ValidKeys Try.f81.results.toList [.c .sc] vs kk))) hF (fun list0 room1 hF => goes_of (e_impl_ValidKeys list0 room1 kk) (F_impl_ValidKeys_S hF))
def con_impl_ValidMemory : Con := ⟨[.rd], true, [.agg [.sl .int, .sl .iib, .sc]], fun vs k => match vs with
    | [.agg [.ro .int m0Store, .ro .iib m0Lines, .v (.int .i64 m0Room)]] => F_impl_ValidMemory m0Store m0Lines m0Room (fun r0 => k (.one (.c (.v (.bool r0)))) [])
    | _ => False, false⟩
def cl_impl_ValidMemory : List (FuncId × Con) := [(51, con_impl_validValue), (80, con_impl_validStore), (81, con_impl_ValidKeys), (82, con_impl_lineKeys)]
def nm0_impl_ValidMemory : List NStep := [.keep [1, 19, 20, 21] [16]]
def an_impl_ValidMemory : Ann := ⟨[(1, .take 0 (.take 1 (.alt 2 (.take 3 (.take 4 (.take 5 (.take 6 (.take 8 (.take 9 (.alt 7 (.alt 10 (.take 11 (.take 12 (.done))) (.none)) (.none)))))))) (.none))), [16]), (6, .take 0 (.take 1 (.alt 2 (.take 3 (.take 4 (.take 5 (.take 6 (.take 7 (.take 8 (.take 9 (.take 10 (.take 11 (.take 12 (.take 13 (.take 14 (.take 15 (.take 16 (.take 17 (.take 18 (.take 19 (.done)))))))))))))))))) (.none))), [16, 64])], [(4, nm0_impl_ValidMemory)], [], []⟩
def cs_impl_ValidMemory : Cons := ⟨cl_impl_ValidMemory, [], 0, [], [], []⟩
def can0_impl_ValidMemory (m0Lines : List (Int × Int × Bool)) (m0Room : Int) (m0Store : List Int) (xt20 : Int) (xt21 : Int) : St := ⟨[(1, .one (.c (.pb 16 0))), (19, .one (.c (.ro .iib m0Lines))), (20, .one (.c (.v (.int .i64 xt20)))), (21, .one (.c (.v (.int .i64 xt21))))], [(16, .box [.ro .int m0Store, .ro .iib m0Lines, .v (.int .i64 m0Room)])]⟩
def fin_impl_ValidMemory (m0Store : List Int) (m0Lines : List (Int × Int × Bool)) (m0Room : Int) (kk : AV → List A1 → Prop) : Kt := fin TT con_impl_ValidMemory Try.f31.results.toList [.c .sc] [.agg [.ro .int m0Store, .ro .iib m0Lines, .v (.int .i64 m0Room)]] kk
def kt0_impl_ValidMemory (kf : Kt) : Kt := blockK 0 (seqK (evF TT cs_impl_ValidMemory 46 an_impl_ValidMemory Try.f31 [1, 1, 1]) (kf))
theorem r0_impl_ValidMemory (m0Store : List Int) (m0Lines : List (Int × Int × Bool)) (m0Room : Int) (xt20 : Int) (kk : AV → List A1 → Prop) (n : Nat) (xt21 : Int) :
    iter (evF TT cs_impl_ValidMemory 46 an_impl_ValidMemory Try.f31 [1, 1, 0, 1, 0, 0]) nm0_impl_ValidMemory (kt0_impl_ValidMemory (fin_impl_ValidMemory m0Store m0Lines m0Room kk)) (n + 1) (can0_impl_ValidMemory m0Lines m0Room m0Store xt20 xt21) = T0_impl_ValidMemory m0Lines m0Room m0Store xt20 xt21 (fun r0 => kk (.one (.c (.v (.bool r0)))) []) (fun xt21 => iter (evF TT cs_impl_ValidMemory 46 an_impl_ValidMemory Try.f31 [1, 1, 0, 1, 0, 0]) nm0_impl_ValidMemory (kt0_impl_ValidMemory (fin_impl_ValidMemory m0Store m0Lines m0Room kk)) n (can0_impl_ValidMemory m0Lines m0Room m0Store xt20 xt21)) := by kernel_rfl
theorem l0_impl_ValidMemory (m0Store : List Int) (m0Lines : List (Int × Int × Bool)) (m0Room : Int) (xt20 : Int) (kk : AV → List A1 → Prop) : ∀ (n : Nat) (xt21 : Int), iter (evF TT cs_impl_ValidMemory 46 an_impl_ValidMemory Try.f31 [1, 1, 0, 1, 0, 0]) nm0_impl_ValidMemory (kt0_impl_ValidMemory (fin_impl_ValidMemory m0Store m0Lines m0Room kk)) n (can0_impl_ValidMemory m0Lines m0Room m0Store xt20 xt21) = L0_impl_ValidMemory m0Lines m0Room m0Store xt20 (fun r0 => kk (.one (.c (.v (.bool r0)))) []) n xt21 := by
  intro n
  induction n with
  | zero => intros; rfl
  | succ n ih =>
    intro xt21
    rw [r0_impl_ValidMemory m0Store m0Lines m0Room xt20 kk n xt21]
    have hb : (fun xt21 => iter (evF TT cs_impl_ValidMemory 46 an_impl_ValidMemory Try.f31 [1, 1, 0, 1, 0, 0]) nm0_impl_ValidMemory (kt0_impl_ValidMemory (fin_impl_ValidMemory m0Store m0Lines m0Room kk)) n (can0_impl_ValidMemory m0Lines m0Room m0Store xt20 xt21)) = L0_impl_ValidMemory m0Lines m0Room m0Store xt20 (fun r0 => kk (.one (.c (.v (.bool r0)))) []) n := by
      funext xt21; exact ih xt21
    rw [hb]
    rw [T0_impl_ValidMemory_eq]
    rfl
theorem g_impl_ValidMemory (m0Store : List Int) (m0Lines : List (Int × Int × Bool)) (m0Room : Int) (kk : AV → List A1 → Prop) :
    ev TT cs_impl_ValidMemory 46 an_impl_ValidMemory (Try.f31.body.getD .skip) (st0 con_impl_ValidMemory [.agg [.ro .int m0Store, .ro .iib m0Lines, .v (.int .i64 m0Room)]]) (fin TT con_impl_ValidMemory Try.f31.results.toList [.c .sc] [.agg [.ro .int m0Store, .ro .iib m0Lines, .v (.int .i64 m0Room)]] kk) = G_impl_ValidMemory m0Store m0Lines m0Room (fun r0 => kk (.one (.c (.v (.bool r0)))) []) (fun m0Lines m0Room m0Store xt20 xt21 => ∃ j, iter (evF TT cs_impl_ValidMemory 46 an_impl_ValidMemory Try.f31 [1, 1, 0, 1, 0, 0]) nm0_impl_ValidMemory (kt0_impl_ValidMemory (fin_impl_ValidMemory m0Store m0Lines m0Room kk)) j (can0_impl_ValidMemory m0Lines m0Room m0Store xt20 xt21)) := by kernel_rfl
theorem e_impl_ValidMemory (m0Store : List Int) (m0Lines : List (Int × Int × Bool)) (m0Room : Int) (kk : AV → List A1 → Prop) :
    ev TT cs_impl_ValidMemory 46 an_impl_ValidMemory (Try.f31.body.getD .skip) (st0 con_impl_ValidMemory [.agg [.ro .int m0Store, .ro .iib m0Lines, .v (.int .i64 m0Room)]]) (fin TT con_impl_ValidMemory Try.f31.results.toList [.c .sc] [.agg [.ro .int m0Store, .ro .iib m0Lines, .v (.int .i64 m0Room)]] kk) = S_impl_ValidMemory m0Store m0Lines m0Room (fun r0 => kk (.one (.c (.v (.bool r0)))) []) := by
  rw [g_impl_ValidMemory]
  have hi0 : (fun m0Lines m0Room m0Store xt20 xt21 => ∃ j, iter (evF TT cs_impl_ValidMemory 46 an_impl_ValidMemory Try.f31 [1, 1, 0, 1, 0, 0]) nm0_impl_ValidMemory (kt0_impl_ValidMemory (fin_impl_ValidMemory m0Store m0Lines m0Room kk)) j (can0_impl_ValidMemory m0Lines m0Room m0Store xt20 xt21)) = (fun m0Lines m0Room m0Store xt20 xt21 => ∃ j, L0_impl_ValidMemory m0Lines m0Room m0Store xt20 (fun r0 => kk (.one (.c (.v (.bool r0)))) []) j xt21) := by
    funext m0Lines m0Room m0Store xt20 xt21
    refine congrArg Exists (funext fun j => ?_)
    rw [l0_impl_ValidMemory m0Store m0Lines m0Room xt20 kk j xt21]
  rw [hi0]
  rw [G_impl_ValidMemory_eq]
  rfl
theorem clok_impl_ValidMemory : ConOK Try.prog cl_impl_ValidMemory := consCons h_impl_validValue ⟨Try.f51, Try.func51, by kernel_rfl, ne_of_beq (by kernel_rfl)⟩ (consCons h_impl_validStore ⟨Try.f80, Try.func80, by kernel_rfl, ne_of_beq (by kernel_rfl)⟩ (consCons h_impl_ValidKeys ⟨Try.f81, Try.func81, by kernel_rfl, ne_of_beq (by kernel_rfl)⟩ (consCons h_impl_lineKeys ⟨Try.f82, Try.func82, by kernel_rfl, ne_of_beq (by kernel_rfl)⟩ (consNil))))
theorem cok_impl_ValidMemory : ConsOK Try.prog 46 cs_impl_ValidMemory := ⟨clok_impl_ValidMemory, inlNil, ovNil⟩
theorem i_impl_ValidMemory {vs : List A1} {kk : AV → List A1 → Prop} {motive : List A1 → Prop} (h : con_impl_ValidMemory.F vs kk) (H : ∀ (m0Store : List Int) (m0Lines : List (Int × Int × Bool)) (m0Room : Int), F_impl_ValidMemory m0Store m0Lines m0Room (fun r0 => kk (.one (.c (.v (.bool r0)))) []) → motive [.agg [.ro .int m0Store, .ro .iib m0Lines, .v (.int .i64 m0Room)]]) : motive vs := by
  unfold con_impl_ValidMemory at h
  dsimp only at h
  split at h
  · exact H _ _ _ h
  · exact h.elim
theorem h_impl_ValidMemory : Holds Try.prog 31 con_impl_ValidMemory := by
  refine holds_of_ev (rt := [.c .sc]) (T := TT) (Γ := cs_impl_ValidMemory) (an := an_impl_ValidMemory) (N := 46) (c := Try.f31.body.getD .skip) Try.func31 (by kernel_rfl) Try.ntmps31 (by decide) (by decide) mixed tabOK cok_impl_ValidMemory (by kernel_rfl) ?_
  intro vs kk _ hF
  exact i_impl_ValidMemory (motive := fun vs => Goes (ev TT cs_impl_ValidMemory 46 an_impl_ValidMemory (Try.f31.body.getD .skip) (st0 con_impl_ValidMemory vs) (fin TT con_impl_ValidMemory Try.f31.results.toList [.c .sc] vs kk))) hF (fun m0Store m0Lines m0Room hF => goes_of (e_impl_ValidMemory m0Store m0Lines m0Room kk) (F_impl_ValidMemory_S hF))
def con_slices_Clone_sint_int : Con := ⟨[.rd], true, [.c (.sl .int)], fun vs k => match vs with
    | [.c (.ro .int s0)] => F_slices_Clone_sint_int s0 (fun r0 => k (.one (.c (.ro .int r0))) [])
    | _ => False, false⟩
def cl_slices_Clone_sint_int : List (FuncId × Con) := []
def an_slices_Clone_sint_int : Ann := ⟨[], [], [], []⟩
def cs_slices_Clone_sint_int : Cons := ⟨cl_slices_Clone_sint_int, [], 0, [], [], []⟩
def fin_slices_Clone_sint_int (s0 : List Int) (kk : AV → List A1 → Prop) : Kt := fin TT con_slices_Clone_sint_int Try.f87.results.toList [.c (.sl .int)] [.c (.ro .int s0)] kk
theorem g_slices_Clone_sint_int (s0 : List Int) (kk : AV → List A1 → Prop) :
    ev TT cs_slices_Clone_sint_int 8 an_slices_Clone_sint_int (Try.f87.body.getD .skip) (st0 con_slices_Clone_sint_int [.c (.ro .int s0)]) (fin TT con_slices_Clone_sint_int Try.f87.results.toList [.c (.sl .int)] [.c (.ro .int s0)] kk) = G_slices_Clone_sint_int s0 (fun r0 => kk (.one (.c (.ro .int r0))) []) := by kernel_rfl
theorem e_slices_Clone_sint_int (s0 : List Int) (kk : AV → List A1 → Prop) :
    ev TT cs_slices_Clone_sint_int 8 an_slices_Clone_sint_int (Try.f87.body.getD .skip) (st0 con_slices_Clone_sint_int [.c (.ro .int s0)]) (fin TT con_slices_Clone_sint_int Try.f87.results.toList [.c (.sl .int)] [.c (.ro .int s0)] kk) = S_slices_Clone_sint_int s0 (fun r0 => kk (.one (.c (.ro .int r0))) []) := by
  rw [g_slices_Clone_sint_int]
  rfl
theorem clok_slices_Clone_sint_int : ConOK Try.prog cl_slices_Clone_sint_int := consNil
theorem cok_slices_Clone_sint_int : ConsOK Try.prog 8 cs_slices_Clone_sint_int := ⟨clok_slices_Clone_sint_int, inlNil, ovNil⟩
theorem i_slices_Clone_sint_int {vs : List A1} {kk : AV → List A1 → Prop} {motive : List A1 → Prop} (h : con_slices_Clone_sint_int.F vs kk) (H : ∀ (s0 : List Int), F_slices_Clone_sint_int s0 (fun r0 => kk (.one (.c (.ro .int r0))) []) → motive [.c (.ro .int s0)]) : motive vs := by
  unfold con_slices_Clone_sint_int at h
  dsimp only at h
  split at h
  · exact H _ h
  · exact h.elim
theorem h_slices_Clone_sint_int : Holds Try.prog 87 con_slices_Clone_sint_int := by
  refine holds_of_ev (rt := [.c (.sl .int)]) (T := TT) (Γ := cs_slices_Clone_sint_int) (an := an_slices_Clone_sint_int) (N := 8) (c := Try.f87.body.getD .skip) Try.func87 (by kernel_rfl) Try.ntmps87 (by decide) (by decide) mixed tabOK cok_slices_Clone_sint_int (by kernel_rfl) ?_
  intro vs kk _ hF
  exact i_slices_Clone_sint_int (motive := fun vs => Goes (ev TT cs_slices_Clone_sint_int 8 an_slices_Clone_sint_int (Try.f87.body.getD .skip) (st0 con_slices_Clone_sint_int vs) (fin TT con_slices_Clone_sint_int Try.f87.results.toList [.c (.sl .int)] vs kk))) hF (fun s0 hF => goes_of (e_slices_Clone_sint_int s0 kk) (F_slices_Clone_sint_int_S hF))
def con_impl_withFirstLine : Con := ⟨[.rd, .rd], true, [.agg [.sl .int, .sl .iib, .sc], .agg [.sc, .sc, .sc]], fun vs k => match vs with
    | [.agg [.ro .int m0Store, .ro .iib m0Lines, .v (.int .i64 m0Room)], .agg [.v (.int .i64 first1Key), .v (.int .i64 first1Value), .v (.bool first1Dirty)]] => F_impl_withFirstLine m0Store m0Lines m0Room first1Key first1Value first1Dirty (fun r0 r1 r2 => k (.one (.agg [.ro .int r0, .ro .iib r1, .v (.int .i64 r2)])) [])
    | _ => False, false⟩
def cl_impl_withFirstLine : List (FuncId × Con) := [(87, con_slices_Clone_sint_int)]
def nm0_impl_withFirstLine : List NStep := [.ownc 80 1 .iib 90000, .keep [3, 4, 5, 18, 19, 20] [48, 64, 80, 176, 90000]]
def an_impl_withFirstLine_i1 : Ann := ⟨[], [], [], []⟩
def cs_impl_withFirstLine_i1 : Cons := ⟨cl_impl_withFirstLine, [], 976, [], [], []⟩
def an_impl_withFirstLine : Ann := ⟨[(1, .take 0 (.take 1 (.take 3 (.take 5 (.take 6 (.alt 2 (.alt 4 (.take 7 (.alt 8 (.alt 9 (.done) (.none)) (.none))) (.alt 8 (.alt 4 (.take 7 (.alt 9 (.done) (.none))) (.none)) (.none))) (.alt 4 (.alt 2 (.take 7 (.alt 8 (.alt 9 (.done) (.none)) (.none))) (.alt 8 (.alt 2 (.take 7 (.alt 9 (.done) (.none))) (.none)) (.none))) (.alt 8 (.alt 2 (.alt 4 (.take 7 (.alt 9 (.done) (.none))) (.none)) (.alt 4 (.alt 2 (.take 7 (.alt 9 (.done) (.none))) (.none)) (.none))) (.none)))))))), [32, 48])], [(3, nm0_impl_withFirstLine)], [], []⟩
def cs_impl_withFirstLine : Cons := ⟨cl_impl_withFirstLine, [(57, ⟨90, inlG TT cs_impl_withFirstLine_i1 60 8 an_impl_withFirstLine_i1 (Try.f90.body.getD .skip) Try.f90.results.toList⟩)], 0, [], [], []⟩
def can0_impl_withFirstLine (clone11 : List Int) (first1Dirty : Bool) (first1Key : Int) (first1Value : Int) (m0Lines : List (Int × Int × Bool)) (m0Room : Int) (xt19 : Int) (xt20 : Int) (xb5c1 : List (Int × Int × Bool)) : St := ⟨[(3, .one (.c (.pb 48 0))), (4, .one (.c (.pb 64 0))), (5, .one (.c (.pb 80 0))), (18, .one (.c (.ro .iib m0Lines))), (19, .one (.c (.v (.int .i64 xt19)))), (20, .one (.c (.v (.int .i64 xt20))))], [(48, .box [.v (.int .i64 first1Key), .v (.int .i64 first1Value), .v (.bool first1Dirty)]), (64, .box [.nil, .nil, .v (.int .i64 0)]), (80, .box [.ow 176, .ow 90000, .v (.int .i64 m0Room)]), (176, .row .int clone11), (90000, .row .iib xb5c1)]⟩
def fin_impl_withFirstLine (m0Store : List Int) (m0Lines : List (Int × Int × Bool)) (m0Room : Int) (first1Key : Int) (first1Value : Int) (first1Dirty : Bool) (kk : AV → List A1 → Prop) : Kt := fin TT con_impl_withFirstLine Try.f52.results.toList [.agg [.sl .int, .sl .iib, .sc]] [.agg [.ro .int m0Store, .ro .iib m0Lines, .v (.int .i64 m0Room)], .agg [.v (.int .i64 first1Key), .v (.int .i64 first1Value), .v (.bool first1Dirty)]] kk
def kt0_impl_withFirstLine (kf : Kt) : Kt := blockK 0 (seqK (evF TT cs_impl_withFirstLine 60 an_impl_withFirstLine Try.f52 [1, 1, 1]) (kf))
theorem r0_impl_withFirstLine (m0Store : List Int) (m0Lines : List (Int × Int × Bool)) (m0Room : Int) (first1Key : Int) (first1Value : Int) (first1Dirty : Bool) (clone11 : List Int) (kk : AV → List A1 → Prop) (n : Nat) (xt19 : Int) (xt20 : Int) (xb5c1 : List (Int × Int × Bool)) :
    iter (evF TT cs_impl_withFirstLine 60 an_impl_withFirstLine Try.f52 [1, 1, 0, 1, 0, 0]) nm0_impl_withFirstLine (kt0_impl_withFirstLine (fin_impl_withFirstLine m0Store m0Lines m0Room first1Key first1Value first1Dirty kk)) (n + 1) (can0_impl_withFirstLine clone11 first1Dirty first1Key first1Value m0Lines m0Room xt19 xt20 xb5c1) = T0_impl_withFirstLine clone11 first1Dirty first1Key first1Value m0Lines m0Room xt19 xt20 xb5c1 (fun r0 r1 r2 => kk (.one (.agg [.ro .int r0, .ro .iib r1, .v (.int .i64 r2)])) []) (fun xt19 xt20 xb5c1 => iter (evF TT cs_impl_withFirstLine 60 an_impl_withFirstLine Try.f52 [1, 1, 0, 1, 0, 0]) nm0_impl_withFirstLine (kt0_impl_withFirstLine (fin_impl_withFirstLine m0Store m0Lines m0Room first1Key first1Value first1Dirty kk)) n (can0_impl_withFirstLine clone11 first1Dirty first1Key first1Value m0Lines m0Room xt19 xt20 xb5c1)) := by kernel_rfl
theorem l0_impl_withFirstLine (m0Store : List Int) (m0Lines : List (Int × Int × Bool)) (m0Room : Int) (first1Key : Int) (first1Value : Int) (first1Dirty : Bool) (clone11 : List Int) (kk : AV → List A1 → Prop) : ∀ (n : Nat) (xt19 : Int) (xt20 : Int) (xb5c1 : List (Int × Int × Bool)), iter (evF TT cs_impl_withFirstLine 60 an_impl_withFirstLine Try.f52 [1, 1, 0, 1, 0, 0]) nm0_impl_withFirstLine (kt0_impl_withFirstLine (fin_impl_withFirstLine m0Store m0Lines m0Room first1Key first1Value first1Dirty kk)) n (can0_impl_withFirstLine clone11 first1Dirty first1Key first1Value m0Lines m0Room xt19 xt20 xb5c1) = L0_impl_withFirstLine clone11 first1Dirty first1Key first1Value m0Lines m0Room (fun r0 r1 r2 => kk (.one (.agg [.ro .int r0, .ro .iib r1, .v (.int .i64 r2)])) []) n xt19 xt20 xb5c1 := by
  intro n
  induction n with
  | zero => intros; rfl
  | succ n ih =>
    intro xt19 xt20 xb5c1
    rw [r0_impl_withFirstLine m0Store m0Lines m0Room first1Key first1Value first1Dirty clone11 kk n xt19 xt20 xb5c1]
    have hb : (fun xt19 xt20 xb5c1 => iter (evF TT cs_impl_withFirstLine 60 an_impl_withFirstLine Try.f52 [1, 1, 0, 1, 0, 0]) nm0_impl_withFirstLine (kt0_impl_withFirstLine (fin_impl_withFirstLine m0Store m0Lines m0Room first1Key first1Value first1Dirty kk)) n (can0_impl_withFirstLine clone11 first1Dirty first1Key first1Value m0Lines m0Room xt19 xt20 xb5c1)) = L0_impl_withFirstLine clone11 first1Dirty first1Key first1Value m0Lines m0Room (fun r0 r1 r2 => kk (.one (.agg [.ro .int r0, .ro .iib r1, .v (.int .i64 r2)])) []) n := by
      funext xt19 xt20 xb5c1; exact ih xt19 xt20 xb5c1
    rw [hb]
    rfl
theorem g_impl_withFirstLine (m0Store : List Int) (m0Lines : List (Int × Int × Bool)) (m0Room : Int) (first1Key : Int) (first1Value : Int) (first1Dirty : Bool) (kk : AV → List A1 → Prop) :
    ev TT cs_impl_withFirstLine 60 an_impl_withFirstLine (Try.f52.body.getD .skip) (st0 con_impl_withFirstLine [.agg [.ro .int m0Store, .ro .iib m0Lines, .v (.int .i64 m0Room)], .agg [.v (.int .i64 first1Key), .v (.int .i64 first1Value), .v (.bool first1Dirty)]]) (fin TT con_impl_withFirstLine Try.f52.results.toList [.agg [.sl .int, .sl .iib, .sc]] [.agg [.ro .int m0Store, .ro .iib m0Lines, .v (.int .i64 m0Room)], .agg [.v (.int .i64 first1Key), .v (.int .i64 first1Value), .v (.bool first1Dirty)]] kk) = G_impl_withFirstLine m0Store m0Lines m0Room first1Key first1Value first1Dirty (fun clone11 first1Dirty first1Key first1Value m0Lines m0Room xt19 xt20 xb5c1 => ∃ j, iter (evF TT cs_impl_withFirstLine 60 an_impl_withFirstLine Try.f52 [1, 1, 0, 1, 0, 0]) nm0_impl_withFirstLine (kt0_impl_withFirstLine (fin_impl_withFirstLine m0Store m0Lines m0Room first1Key first1Value first1Dirty kk)) j (can0_impl_withFirstLine clone11 first1Dirty first1Key first1Value m0Lines m0Room xt19 xt20 xb5c1)) := by kernel_rfl
theorem e_impl_withFirstLine (m0Store : List Int) (m0Lines : List (Int × Int × Bool)) (m0Room : Int) (first1Key : Int) (first1Value : Int) (first1Dirty : Bool) (kk : AV → List A1 → Prop) :
    ev TT cs_impl_withFirstLine 60 an_impl_withFirstLine (Try.f52.body.getD .skip) (st0 con_impl_withFirstLine [.agg [.ro .int m0Store, .ro .iib m0Lines, .v (.int .i64 m0Room)], .agg [.v (.int .i64 first1Key), .v (.int .i64 first1Value), .v (.bool first1Dirty)]]) (fin TT con_impl_withFirstLine Try.f52.results.toList [.agg [.sl .int, .sl .iib, .sc]] [.agg [.ro .int m0Store, .ro .iib m0Lines, .v (.int .i64 m0Room)], .agg [.v (.int .i64 first1Key), .v (.int .i64 first1Value), .v (.bool first1Dirty)]] kk) = S_impl_withFirstLine m0Store m0Lines m0Room first1Key first1Value first1Dirty (fun r0 r1 r2 => kk (.one (.agg [.ro .int r0, .ro .iib r1, .v (.int .i64 r2)])) []) := by
  rw [g_impl_withFirstLine]
  have hi0 : (fun clone11 first1Dirty first1Key first1Value m0Lines m0Room xt19 xt20 xb5c1 => ∃ j, iter (evF TT cs_impl_withFirstLine 60 an_impl_withFirstLine Try.f52 [1, 1, 0, 1, 0, 0]) nm0_impl_withFirstLine (kt0_impl_withFirstLine (fin_impl_withFirstLine m0Store m0Lines m0Room first1Key first1Value first1Dirty kk)) j (can0_impl_withFirstLine clone11 first1Dirty first1Key first1Value m0Lines m0Room xt19 xt20 xb5c1)) = (fun clone11 first1Dirty first1Key first1Value m0Lines m0Room xt19 xt20 xb5c1 => ∃ j, L0_impl_withFirstLine clone11 first1Dirty first1Key first1Value m0Lines m0Room (fun r0 r1 r2 => kk (.one (.agg [.ro .int r0, .ro .iib r1, .v (.int .i64 r2)])) []) j xt19 xt20 xb5c1) := by
    funext clone11 first1Dirty first1Key first1Value m0Lines m0Room xt19 xt20 xb5c1
    refine congrArg Exists (funext fun j => ?_)
    rw [l0_impl_withFirstLine m0Store m0Lines m0Room first1Key first1Value first1Dirty clone11 kk j xt19 xt20 xb5c1]
  rw [hi0]
  rw [G_impl_withFirstLine_eq]
  rfl
theorem clok_impl_withFirstLine : ConOK Try.prog cl_impl_withFirstLine := consCons h_slices_Clone_sint_int ⟨Try.f87, Try.func87, by kernel_rfl, ne_of_beq (by kernel_rfl)⟩ (consNil)
theorem cok_impl_withFirstLine_i1 : ConsOK Try.prog 8 cs_impl_withFirstLine_i1 := ⟨clok_impl_withFirstLine, inlNil, ovNil⟩
theorem cok_impl_withFirstLine : ConsOK Try.prog 60 cs_impl_withFirstLine := ⟨clok_impl_withFirstLine, inlCons (inl_ok Try.func90 (by kernel_rfl) (ne_of_beq (by kernel_rfl)) Try.ntmps90 (by decide) mixed tabOK cok_impl_withFirstLine_i1 (by kernel_rfl)) (inlNil), ovNil⟩
theorem i_impl_withFirstLine {vs : List A1} {kk : AV → List A1 → Prop} {motive : List A1 → Prop} (h : con_impl_withFirstLine.F vs kk) (H : ∀ (m0Store : List Int) (m0Lines : List (Int × Int × Bool)) (m0Room : Int) (first1Key : Int) (first1Value : Int) (first1Dirty : Bool), F_impl_withFirstLine m0Store m0Lines m0Room first1Key first1Value first1Dirty (fun r0 r1 r2 => kk (.one (.agg [.ro .int r0, .ro .iib r1, .v (.int .i64 r2)])) []) → motive [.agg [.ro .int m0Store, .ro .iib m0Lines, .v (.int .i64 m0Room)], .agg [.v (.int .i64 first1Key), .v (.int .i64 first1Value), .v (.bool first1Dirty)]]) : motive vs := by
  unfold con_impl_withFirstLine at h
  dsimp only at h
  split at h
  · exact H _ _ _ _ _ _ h
  · exact h.elim
theorem h_impl_withFirstLine : Holds Try.prog 52 con_impl_withFirstLine := by
  refine holds_of_ev (rt := [.agg [.sl .int, .sl .iib, .sc]]) (T := TT) (Γ := cs_impl_withFirstLine) (an := an_impl_withFirstLine) (N := 60) (c := Try.f52.body.getD .skip) Try.func52 (by kernel_rfl) Try.ntmps52 (by decide) (by decide) mixed tabOK cok_impl_withFirstLine (by kernel_rfl) ?_
  intro vs kk _ hF
  exact i_impl_withFirstLine (motive := fun vs => Goes (ev TT cs_impl_withFirstLine 60 an_impl_withFirstLine (Try.f52.body.getD .skip) (st0 con_impl_withFirstLine vs) (fin TT con_impl_withFirstLine Try.f52.results.toList [.agg [.sl .int, .sl .iib, .sc]] vs kk))) hF (fun m0Store m0Lines m0Room first1Key first1Value first1Dirty hF => goes_of (e_impl_withFirstLine m0Store m0Lines m0Room first1Key first1Value first1Dirty kk) (F_impl_withFirstLine_S hF))
def con_impl_WriteKey : Con := ⟨[.rd, .rd, .rd], true, [.agg [.sl .int, .sl .iib, .sc], .c (.sc), .c (.sc)], fun vs k => match vs with
    | [.agg [.ro .int m0Store, .ro .iib m0Lines, .v (.int .i64 m0Room)], .c (.v (.int .i64 key1)), .c (.v (.int .i64 value2))] => F_impl_WriteKey m0Store m0Lines m0Room key1 value2 (fun r0 r1 r2 r3 => k (.tup [.agg [.ro .int r0, .ro .iib r1, .v (.int .i64 r2)], .c (.v (.bool r3))]) [])
    | _ => False, false⟩
def cl_impl_WriteKey : List (FuncId × Con) := [(31, con_impl_ValidMemory), (50, con_impl_validKey), (51, con_impl_validValue), (52, con_impl_withFirstLine)]
def an_impl_WriteKey : Ann := ⟨[], [], [], []⟩
def cs_impl_WriteKey : Cons := ⟨cl_impl_WriteKey, [], 0, [], [], []⟩
def fin_impl_WriteKey (m0Store : List Int) (m0Lines : List (Int × Int × Bool)) (m0Room : Int) (key1 : Int) (value2 : Int) (kk : AV → List A1 → Prop) : Kt := fin TT con_impl_WriteKey Try.f14.results.toList [.agg [.sl .int, .sl .iib, .sc], .c .sc] [.agg [.ro .int m0Store, .ro .iib m0Lines, .v (.int .i64 m0Room)], .c (.v (.int .i64 key1)), .c (.v (.int .i64 value2))] kk
theorem g_impl_WriteKey (m0Store : List Int) (m0Lines : List (Int × Int × Bool)) (m0Room : Int) (key1 : Int) (value2 : Int) (kk : AV → List A1 → Prop) :
    ev TT cs_impl_WriteKey 27 an_impl_WriteKey (Try.f14.body.getD .skip) (st0 con_impl_WriteKey [.agg [.ro .int m0Store, .ro .iib m0Lines, .v (.int .i64 m0Room)], .c (.v (.int .i64 key1)), .c (.v (.int .i64 value2))]) (fin TT con_impl_WriteKey Try.f14.results.toList [.agg [.sl .int, .sl .iib, .sc], .c .sc] [.agg [.ro .int m0Store, .ro .iib m0Lines, .v (.int .i64 m0Room)], .c (.v (.int .i64 key1)), .c (.v (.int .i64 value2))] kk) = G_impl_WriteKey m0Store m0Lines m0Room key1 value2 (fun r0 r1 r2 r3 => kk (.tup [.agg [.ro .int r0, .ro .iib r1, .v (.int .i64 r2)], .c (.v (.bool r3))]) []) := by kernel_rfl
theorem e_impl_WriteKey (m0Store : List Int) (m0Lines : List (Int × Int × Bool)) (m0Room : Int) (key1 : Int) (value2 : Int) (kk : AV → List A1 → Prop) :
    ev TT cs_impl_WriteKey 27 an_impl_WriteKey (Try.f14.body.getD .skip) (st0 con_impl_WriteKey [.agg [.ro .int m0Store, .ro .iib m0Lines, .v (.int .i64 m0Room)], .c (.v (.int .i64 key1)), .c (.v (.int .i64 value2))]) (fin TT con_impl_WriteKey Try.f14.results.toList [.agg [.sl .int, .sl .iib, .sc], .c .sc] [.agg [.ro .int m0Store, .ro .iib m0Lines, .v (.int .i64 m0Room)], .c (.v (.int .i64 key1)), .c (.v (.int .i64 value2))] kk) = S_impl_WriteKey m0Store m0Lines m0Room key1 value2 (fun r0 r1 r2 r3 => kk (.tup [.agg [.ro .int r0, .ro .iib r1, .v (.int .i64 r2)], .c (.v (.bool r3))]) []) := by
  rw [g_impl_WriteKey]
  rfl
theorem clok_impl_WriteKey : ConOK Try.prog cl_impl_WriteKey := consCons h_impl_ValidMemory ⟨Try.f31, Try.func31, by kernel_rfl, ne_of_beq (by kernel_rfl)⟩ (consCons h_impl_validKey ⟨Try.f50, Try.func50, by kernel_rfl, ne_of_beq (by kernel_rfl)⟩ (consCons h_impl_validValue ⟨Try.f51, Try.func51, by kernel_rfl, ne_of_beq (by kernel_rfl)⟩ (consCons h_impl_withFirstLine ⟨Try.f52, Try.func52, by kernel_rfl, ne_of_beq (by kernel_rfl)⟩ (consNil))))
theorem cok_impl_WriteKey : ConsOK Try.prog 27 cs_impl_WriteKey := ⟨clok_impl_WriteKey, inlNil, ovNil⟩
theorem i_impl_WriteKey {vs : List A1} {kk : AV → List A1 → Prop} {motive : List A1 → Prop} (h : con_impl_WriteKey.F vs kk) (H : ∀ (m0Store : List Int) (m0Lines : List (Int × Int × Bool)) (m0Room : Int) (key1 : Int) (value2 : Int), F_impl_WriteKey m0Store m0Lines m0Room key1 value2 (fun r0 r1 r2 r3 => kk (.tup [.agg [.ro .int r0, .ro .iib r1, .v (.int .i64 r2)], .c (.v (.bool r3))]) []) → motive [.agg [.ro .int m0Store, .ro .iib m0Lines, .v (.int .i64 m0Room)], .c (.v (.int .i64 key1)), .c (.v (.int .i64 value2))]) : motive vs := by
  unfold con_impl_WriteKey at h
  dsimp only at h
  split at h
  · exact H _ _ _ _ _ h
  · exact h.elim
theorem h_impl_WriteKey : Holds Try.prog 14 con_impl_WriteKey := by
  refine holds_of_ev (rt := [.agg [.sl .int, .sl .iib, .sc], .c .sc]) (T := TT) (Γ := cs_impl_WriteKey) (an := an_impl_WriteKey) (N := 27) (c := Try.f14.body.getD .skip) Try.func14 (by kernel_rfl) Try.ntmps14 (by decide) (by decide) mixed tabOK cok_impl_WriteKey (by kernel_rfl) ?_
  intro vs kk _ hF
  exact i_impl_WriteKey (motive := fun vs => Goes (ev TT cs_impl_WriteKey 27 an_impl_WriteKey (Try.f14.body.getD .skip) (st0 con_impl_WriteKey vs) (fin TT con_impl_WriteKey Try.f14.results.toList [.agg [.sl .int, .sl .iib, .sc], .c .sc] vs kk))) hF (fun m0Store m0Lines m0Room key1 value2 hF => goes_of (e_impl_WriteKey m0Store m0Lines m0Room key1 value2 kk) (F_impl_WriteKey_S hF))
def con_laws_eqIntS : Con := ⟨[.rd, .rd], true, [.c (.sl .int), .c (.sl .int)], fun vs k => match vs with
    | [.c (.ro .int a0), .c (.ro .int b1)] => F_laws_eqIntS a0 b1 (fun r0 => k (.one (.c (.v (.bool r0)))) [])
    | _ => False, false⟩
def cl_laws_eqIntS : List (FuncId × Con) := []
def nm0_laws_eqIntS : List NStep := [.keep [0, 1, 5] []]
def an_laws_eqIntS : Ann := ⟨[(6, .take 0 (.take 1 (.take 2 (.take 3 (.take 4 (.take 5 (.take 6 (.take 7 (.take 8 (.done))))))))), [])], [(4, nm0_laws_eqIntS)], [], []⟩
def cs_laws_eqIntS : Cons := ⟨cl_laws_eqIntS, [], 0, [], [], []⟩
def can0_laws_eqIntS (a0 : List Int) (b1 : List Int) (xi5 : Int) : St := ⟨[(0, .one (.c (.ro .int a0))), (1, .one (.c (.ro .int b1))), (5, .one (.c (.v (.int .i64 xi5))))], []⟩
def fin_laws_eqIntS (a0 : List Int) (b1 : List Int) (kk : AV → List A1 → Prop) : Kt := fin TT con_laws_eqIntS Try.f39.results.toList [.c .sc] [.c (.ro .int a0), .c (.ro .int b1)] kk
def kt0_laws_eqIntS (kf : Kt) : Kt := blockK 0 (seqK (evF TT cs_laws_eqIntS 26 an_laws_eqIntS Try.f39 [1, 1, 1]) (kf))
theorem r0_laws_eqIntS (a0 : List Int) (b1 : List Int) (kk : AV → List A1 → Prop) (n : Nat) (xi5 : Int) :
    iter (evF TT cs_laws_eqIntS 26 an_laws_eqIntS Try.f39 [1, 1, 0, 1, 0, 0]) nm0_laws_eqIntS (kt0_laws_eqIntS (fin_laws_eqIntS a0 b1 kk)) (n + 1) (can0_laws_eqIntS a0 b1 xi5) = T0_laws_eqIntS a0 b1 xi5 (fun r0 => kk (.one (.c (.v (.bool r0)))) []) (fun xi5 => iter (evF TT cs_laws_eqIntS 26 an_laws_eqIntS Try.f39 [1, 1, 0, 1, 0, 0]) nm0_laws_eqIntS (kt0_laws_eqIntS (fin_laws_eqIntS a0 b1 kk)) n (can0_laws_eqIntS a0 b1 xi5)) := by kernel_rfl
theorem l0_laws_eqIntS (a0 : List Int) (b1 : List Int) (kk : AV → List A1 → Prop) : ∀ (n : Nat) (xi5 : Int), iter (evF TT cs_laws_eqIntS 26 an_laws_eqIntS Try.f39 [1, 1, 0, 1, 0, 0]) nm0_laws_eqIntS (kt0_laws_eqIntS (fin_laws_eqIntS a0 b1 kk)) n (can0_laws_eqIntS a0 b1 xi5) = L0_laws_eqIntS a0 b1 (fun r0 => kk (.one (.c (.v (.bool r0)))) []) n xi5 := by
  intro n
  induction n with
  | zero => intros; rfl
  | succ n ih =>
    intro xi5
    rw [r0_laws_eqIntS a0 b1 kk n xi5]
    have hb : (fun xi5 => iter (evF TT cs_laws_eqIntS 26 an_laws_eqIntS Try.f39 [1, 1, 0, 1, 0, 0]) nm0_laws_eqIntS (kt0_laws_eqIntS (fin_laws_eqIntS a0 b1 kk)) n (can0_laws_eqIntS a0 b1 xi5)) = L0_laws_eqIntS a0 b1 (fun r0 => kk (.one (.c (.v (.bool r0)))) []) n := by
      funext xi5; exact ih xi5
    rw [hb]
    rfl
theorem g_laws_eqIntS (a0 : List Int) (b1 : List Int) (kk : AV → List A1 → Prop) :
    ev TT cs_laws_eqIntS 26 an_laws_eqIntS (Try.f39.body.getD .skip) (st0 con_laws_eqIntS [.c (.ro .int a0), .c (.ro .int b1)]) (fin TT con_laws_eqIntS Try.f39.results.toList [.c .sc] [.c (.ro .int a0), .c (.ro .int b1)] kk) = G_laws_eqIntS a0 b1 (fun r0 => kk (.one (.c (.v (.bool r0)))) []) (fun a0 b1 xi5 => ∃ j, iter (evF TT cs_laws_eqIntS 26 an_laws_eqIntS Try.f39 [1, 1, 0, 1, 0, 0]) nm0_laws_eqIntS (kt0_laws_eqIntS (fin_laws_eqIntS a0 b1 kk)) j (can0_laws_eqIntS a0 b1 xi5)) := by kernel_rfl
theorem e_laws_eqIntS (a0 : List Int) (b1 : List Int) (kk : AV → List A1 → Prop) :
    ev TT cs_laws_eqIntS 26 an_laws_eqIntS (Try.f39.body.getD .skip) (st0 con_laws_eqIntS [.c (.ro .int a0), .c (.ro .int b1)]) (fin TT con_laws_eqIntS Try.f39.results.toList [.c .sc] [.c (.ro .int a0), .c (.ro .int b1)] kk) = S_laws_eqIntS a0 b1 (fun r0 => kk (.one (.c (.v (.bool r0)))) []) := by
  rw [g_laws_eqIntS]
  have hi0 : (fun a0 b1 xi5 => ∃ j, iter (evF TT cs_laws_eqIntS 26 an_laws_eqIntS Try.f39 [1, 1, 0, 1, 0, 0]) nm0_laws_eqIntS (kt0_laws_eqIntS (fin_laws_eqIntS a0 b1 kk)) j (can0_laws_eqIntS a0 b1 xi5)) = (fun a0 b1 xi5 => ∃ j, L0_laws_eqIntS a0 b1 (fun r0 => kk (.one (.c (.v (.bool r0)))) []) j xi5) := by
    funext a0 b1 xi5
    refine congrArg Exists (funext fun j => ?_)
    rw [l0_laws_eqIntS a0 b1 kk j xi5]
  rw [hi0]
  rfl
theorem clok_laws_eqIntS : ConOK Try.prog cl_laws_eqIntS := consNil
theorem cok_laws_eqIntS : ConsOK Try.prog 26 cs_laws_eqIntS := ⟨clok_laws_eqIntS, inlNil, ovNil⟩
theorem i_laws_eqIntS {vs : List A1} {kk : AV → List A1 → Prop} {motive : List A1 → Prop} (h : con_laws_eqIntS.F vs kk) (H : ∀ (a0 : List Int) (b1 : List Int), F_laws_eqIntS a0 b1 (fun r0 => kk (.one (.c (.v (.bool r0)))) []) → motive [.c (.ro .int a0), .c (.ro .int b1)]) : motive vs := by
  unfold con_laws_eqIntS at h
  dsimp only at h
  split at h
  · exact H _ _ h
  · exact h.elim
theorem h_laws_eqIntS : Holds Try.prog 39 con_laws_eqIntS := by
  refine holds_of_ev (rt := [.c .sc]) (T := TT) (Γ := cs_laws_eqIntS) (an := an_laws_eqIntS) (N := 26) (c := Try.f39.body.getD .skip) Try.func39 (by kernel_rfl) Try.ntmps39 (by decide) (by decide) mixed tabOK cok_laws_eqIntS (by kernel_rfl) ?_
  intro vs kk _ hF
  exact i_laws_eqIntS (motive := fun vs => Goes (ev TT cs_laws_eqIntS 26 an_laws_eqIntS (Try.f39.body.getD .skip) (st0 con_laws_eqIntS vs) (fin TT con_laws_eqIntS Try.f39.results.toList [.c .sc] vs kk))) hF (fun a0 b1 hF => goes_of (e_laws_eqIntS a0 b1 kk) (F_laws_eqIntS_S hF))
def con_laws_eqLine : Con := ⟨[.rd, .rd], true, [.agg [.sc, .sc, .sc], .agg [.sc, .sc, .sc]], fun vs k => match vs with
    | [.agg [.v (.int .i64 a0Key), .v (.int .i64 a0Value), .v (.bool a0Dirty)], .agg [.v (.int .i64 b1Key), .v (.int .i64 b1Value), .v (.bool b1Dirty)]] => F_laws_eqLine a0Key a0Value a0Dirty b1Key b1Value b1Dirty (fun r0 => k (.one (.c (.v (.bool r0)))) [])
    | _ => False, false⟩
def cl_laws_eqLine : List (FuncId × Con) := []
def an_laws_eqLine : Ann := ⟨[], [], [], []⟩
def cs_laws_eqLine : Cons := ⟨cl_laws_eqLine, [], 0, [], [], []⟩
def fin_laws_eqLine (a0Key : Int) (a0Value : Int) (a0Dirty : Bool) (b1Key : Int) (b1Value : Int) (b1Dirty : Bool) (kk : AV → List A1 → Prop) : Kt := fin TT con_laws_eqLine Try.f104.results.toList [.c .sc] [.agg [.v (.int .i64 a0Key), .v (.int .i64 a0Value), .v (.bool a0Dirty)], .agg [.v (.int .i64 b1Key), .v (.int .i64 b1Value), .v (.bool b1Dirty)]] kk
theorem g_laws_eqLine (a0Key : Int) (a0Value : Int) (a0Dirty : Bool) (b1Key : Int) (b1Value : Int) (b1Dirty : Bool) (kk : AV → List A1 → Prop) :
    ev TT cs_laws_eqLine 20 an_laws_eqLine (Try.f104.body.getD .skip) (st0 con_laws_eqLine [.agg [.v (.int .i64 a0Key), .v (.int .i64 a0Value), .v (.bool a0Dirty)], .agg [.v (.int .i64 b1Key), .v (.int .i64 b1Value), .v (.bool b1Dirty)]]) (fin TT con_laws_eqLine Try.f104.results.toList [.c .sc] [.agg [.v (.int .i64 a0Key), .v (.int .i64 a0Value), .v (.bool a0Dirty)], .agg [.v (.int .i64 b1Key), .v (.int .i64 b1Value), .v (.bool b1Dirty)]] kk) = G_laws_eqLine a0Key a0Value a0Dirty b1Key b1Value b1Dirty (fun r0 => kk (.one (.c (.v (.bool r0)))) []) := by kernel_rfl
theorem e_laws_eqLine (a0Key : Int) (a0Value : Int) (a0Dirty : Bool) (b1Key : Int) (b1Value : Int) (b1Dirty : Bool) (kk : AV → List A1 → Prop) :
    ev TT cs_laws_eqLine 20 an_laws_eqLine (Try.f104.body.getD .skip) (st0 con_laws_eqLine [.agg [.v (.int .i64 a0Key), .v (.int .i64 a0Value), .v (.bool a0Dirty)], .agg [.v (.int .i64 b1Key), .v (.int .i64 b1Value), .v (.bool b1Dirty)]]) (fin TT con_laws_eqLine Try.f104.results.toList [.c .sc] [.agg [.v (.int .i64 a0Key), .v (.int .i64 a0Value), .v (.bool a0Dirty)], .agg [.v (.int .i64 b1Key), .v (.int .i64 b1Value), .v (.bool b1Dirty)]] kk) = S_laws_eqLine a0Key a0Value a0Dirty b1Key b1Value b1Dirty (fun r0 => kk (.one (.c (.v (.bool r0)))) []) := by
  rw [g_laws_eqLine]
  rfl
theorem clok_laws_eqLine : ConOK Try.prog cl_laws_eqLine := consNil
theorem cok_laws_eqLine : ConsOK Try.prog 20 cs_laws_eqLine := ⟨clok_laws_eqLine, inlNil, ovNil⟩
theorem i_laws_eqLine {vs : List A1} {kk : AV → List A1 → Prop} {motive : List A1 → Prop} (h : con_laws_eqLine.F vs kk) (H : ∀ (a0Key : Int) (a0Value : Int) (a0Dirty : Bool) (b1Key : Int) (b1Value : Int) (b1Dirty : Bool), F_laws_eqLine a0Key a0Value a0Dirty b1Key b1Value b1Dirty (fun r0 => kk (.one (.c (.v (.bool r0)))) []) → motive [.agg [.v (.int .i64 a0Key), .v (.int .i64 a0Value), .v (.bool a0Dirty)], .agg [.v (.int .i64 b1Key), .v (.int .i64 b1Value), .v (.bool b1Dirty)]]) : motive vs := by
  unfold con_laws_eqLine at h
  dsimp only at h
  split at h
  · exact H _ _ _ _ _ _ h
  · exact h.elim
theorem h_laws_eqLine : Holds Try.prog 104 con_laws_eqLine := by
  refine holds_of_ev (rt := [.c .sc]) (T := TT) (Γ := cs_laws_eqLine) (an := an_laws_eqLine) (N := 20) (c := Try.f104.body.getD .skip) Try.func104 (by kernel_rfl) Try.ntmps104 (by decide) (by decide) mixed tabOK cok_laws_eqLine (by kernel_rfl) ?_
  intro vs kk _ hF
  exact i_laws_eqLine (motive := fun vs => Goes (ev TT cs_laws_eqLine 20 an_laws_eqLine (Try.f104.body.getD .skip) (st0 con_laws_eqLine vs) (fin TT con_laws_eqLine Try.f104.results.toList [.c .sc] vs kk))) hF (fun a0Key a0Value a0Dirty b1Key b1Value b1Dirty hF => goes_of (e_laws_eqLine a0Key a0Value a0Dirty b1Key b1Value b1Dirty kk) (F_laws_eqLine_S hF))
def con_laws_eqLineS : Con := ⟨[.rd, .rd], true, [.c (.sl .iib), .c (.sl .iib)], fun vs k => match vs with
    | [.c (.ro .iib a0), .c (.ro .iib b1)] => F_laws_eqLineS a0 b1 (fun r0 => k (.one (.c (.v (.bool r0)))) [])
    | _ => False, false⟩
def cl_laws_eqLineS : List (FuncId × Con) := [(104, con_laws_eqLine)]
def nm0_laws_eqLineS : List NStep := [.keep [0, 1, 5] []]
def an_laws_eqLineS : Ann := ⟨[(6, .take 0 (.take 1 (.take 2 (.take 3 (.take 4 (.take 5 (.take 6 (.take 7 (.alt 8 (.take 9 (.done)) (.none))))))))), [])], [(4, nm0_laws_eqLineS)], [], []⟩
def cs_laws_eqLineS : Cons := ⟨cl_laws_eqLineS, [], 0, [], [], []⟩
def can0_laws_eqLineS (a0 : List (Int × Int × Bool)) (b1 : List (Int × Int × Bool)) (xi5 : Int) : St := ⟨[(0, .one (.c (.ro .iib a0))), (1, .one (.c (.ro .iib b1))), (5, .one (.c (.v (.int .i64 xi5))))], []⟩
def fin_laws_eqLineS (a0 : List (Int × Int × Bool)) (b1 : List (Int × Int × Bool)) (kk : AV → List A1 → Prop) : Kt := fin TT con_laws_eqLineS Try.f83.results.toList [.c .sc] [.c (.ro .iib a0), .c (.ro .iib b1)] kk
def kt0_laws_eqLineS (kf : Kt) : Kt := blockK 0 (seqK (evF TT cs_laws_eqLineS 27 an_laws_eqLineS Try.f83 [1, 1, 1]) (kf))
theorem r0_laws_eqLineS (a0 : List (Int × Int × Bool)) (b1 : List (Int × Int × Bool)) (kk : AV → List A1 → Prop) (n : Nat) (xi5 : Int) :
    iter (evF TT cs_laws_eqLineS 27 an_laws_eqLineS Try.f83 [1, 1, 0, 1, 0, 0]) nm0_laws_eqLineS (kt0_laws_eqLineS (fin_laws_eqLineS a0 b1 kk)) (n + 1) (can0_laws_eqLineS a0 b1 xi5) = T0_laws_eqLineS a0 b1 xi5 (fun r0 => kk (.one (.c (.v (.bool r0)))) []) (fun xi5 => iter (evF TT cs_laws_eqLineS 27 an_laws_eqLineS Try.f83 [1, 1, 0, 1, 0, 0]) nm0_laws_eqLineS (kt0_laws_eqLineS (fin_laws_eqLineS a0 b1 kk)) n (can0_laws_eqLineS a0 b1 xi5)) := by kernel_rfl
theorem l0_laws_eqLineS (a0 : List (Int × Int × Bool)) (b1 : List (Int × Int × Bool)) (kk : AV → List A1 → Prop) : ∀ (n : Nat) (xi5 : Int), iter (evF TT cs_laws_eqLineS 27 an_laws_eqLineS Try.f83 [1, 1, 0, 1, 0, 0]) nm0_laws_eqLineS (kt0_laws_eqLineS (fin_laws_eqLineS a0 b1 kk)) n (can0_laws_eqLineS a0 b1 xi5) = L0_laws_eqLineS a0 b1 (fun r0 => kk (.one (.c (.v (.bool r0)))) []) n xi5 := by
  intro n
  induction n with
  | zero => intros; rfl
  | succ n ih =>
    intro xi5
    rw [r0_laws_eqLineS a0 b1 kk n xi5]
    have hb : (fun xi5 => iter (evF TT cs_laws_eqLineS 27 an_laws_eqLineS Try.f83 [1, 1, 0, 1, 0, 0]) nm0_laws_eqLineS (kt0_laws_eqLineS (fin_laws_eqLineS a0 b1 kk)) n (can0_laws_eqLineS a0 b1 xi5)) = L0_laws_eqLineS a0 b1 (fun r0 => kk (.one (.c (.v (.bool r0)))) []) n := by
      funext xi5; exact ih xi5
    rw [hb]
    rw [T0_laws_eqLineS_eq]
    rfl
theorem g_laws_eqLineS (a0 : List (Int × Int × Bool)) (b1 : List (Int × Int × Bool)) (kk : AV → List A1 → Prop) :
    ev TT cs_laws_eqLineS 27 an_laws_eqLineS (Try.f83.body.getD .skip) (st0 con_laws_eqLineS [.c (.ro .iib a0), .c (.ro .iib b1)]) (fin TT con_laws_eqLineS Try.f83.results.toList [.c .sc] [.c (.ro .iib a0), .c (.ro .iib b1)] kk) = G_laws_eqLineS a0 b1 (fun r0 => kk (.one (.c (.v (.bool r0)))) []) (fun a0 b1 xi5 => ∃ j, iter (evF TT cs_laws_eqLineS 27 an_laws_eqLineS Try.f83 [1, 1, 0, 1, 0, 0]) nm0_laws_eqLineS (kt0_laws_eqLineS (fin_laws_eqLineS a0 b1 kk)) j (can0_laws_eqLineS a0 b1 xi5)) := by kernel_rfl
theorem e_laws_eqLineS (a0 : List (Int × Int × Bool)) (b1 : List (Int × Int × Bool)) (kk : AV → List A1 → Prop) :
    ev TT cs_laws_eqLineS 27 an_laws_eqLineS (Try.f83.body.getD .skip) (st0 con_laws_eqLineS [.c (.ro .iib a0), .c (.ro .iib b1)]) (fin TT con_laws_eqLineS Try.f83.results.toList [.c .sc] [.c (.ro .iib a0), .c (.ro .iib b1)] kk) = S_laws_eqLineS a0 b1 (fun r0 => kk (.one (.c (.v (.bool r0)))) []) := by
  rw [g_laws_eqLineS]
  have hi0 : (fun a0 b1 xi5 => ∃ j, iter (evF TT cs_laws_eqLineS 27 an_laws_eqLineS Try.f83 [1, 1, 0, 1, 0, 0]) nm0_laws_eqLineS (kt0_laws_eqLineS (fin_laws_eqLineS a0 b1 kk)) j (can0_laws_eqLineS a0 b1 xi5)) = (fun a0 b1 xi5 => ∃ j, L0_laws_eqLineS a0 b1 (fun r0 => kk (.one (.c (.v (.bool r0)))) []) j xi5) := by
    funext a0 b1 xi5
    refine congrArg Exists (funext fun j => ?_)
    rw [l0_laws_eqLineS a0 b1 kk j xi5]
  rw [hi0]
  rfl
theorem clok_laws_eqLineS : ConOK Try.prog cl_laws_eqLineS := consCons h_laws_eqLine ⟨Try.f104, Try.func104, by kernel_rfl, ne_of_beq (by kernel_rfl)⟩ (consNil)
theorem cok_laws_eqLineS : ConsOK Try.prog 27 cs_laws_eqLineS := ⟨clok_laws_eqLineS, inlNil, ovNil⟩
theorem i_laws_eqLineS {vs : List A1} {kk : AV → List A1 → Prop} {motive : List A1 → Prop} (h : con_laws_eqLineS.F vs kk) (H : ∀ (a0 : List (Int × Int × Bool)) (b1 : List (Int × Int × Bool)), F_laws_eqLineS a0 b1 (fun r0 => kk (.one (.c (.v (.bool r0)))) []) → motive [.c (.ro .iib a0), .c (.ro .iib b1)]) : motive vs := by
  unfold con_laws_eqLineS at h
  dsimp only at h
  split at h
  · exact H _ _ h
  · exact h.elim
theorem h_laws_eqLineS : Holds Try.prog 83 con_laws_eqLineS := by
  refine holds_of_ev (rt := [.c .sc]) (T := TT) (Γ := cs_laws_eqLineS) (an := an_laws_eqLineS) (N := 27) (c := Try.f83.body.getD .skip) Try.func83 (by kernel_rfl) Try.ntmps83 (by decide) (by decide) mixed tabOK cok_laws_eqLineS (by kernel_rfl) ?_
  intro vs kk _ hF
  exact i_laws_eqLineS (motive := fun vs => Goes (ev TT cs_laws_eqLineS 27 an_laws_eqLineS (Try.f83.body.getD .skip) (st0 con_laws_eqLineS vs) (fin TT con_laws_eqLineS Try.f83.results.toList [.c .sc] vs kk))) hF (fun a0 b1 hF => goes_of (e_laws_eqLineS a0 b1 kk) (F_laws_eqLineS_S hF))
def con_laws_eqMemory : Con := ⟨[.rd, .rd], true, [.agg [.sl .int, .sl .iib, .sc], .agg [.sl .int, .sl .iib, .sc]], fun vs k => match vs with
    | [.agg [.ro .int a0Store, .ro .iib a0Lines, .v (.int .i64 a0Room)], .agg [.ro .int b1Store, .ro .iib b1Lines, .v (.int .i64 b1Room)]] => F_laws_eqMemory a0Store a0Lines a0Room b1Store b1Lines b1Room (fun r0 => k (.one (.c (.v (.bool r0)))) [])
    | _ => False, false⟩
def cl_laws_eqMemory : List (FuncId × Con) := [(39, con_laws_eqIntS), (83, con_laws_eqLineS)]
def an_laws_eqMemory : Ann := ⟨[], [], [], []⟩
def cs_laws_eqMemory : Cons := ⟨cl_laws_eqMemory, [], 0, [], [], []⟩
def fin_laws_eqMemory (a0Store : List Int) (a0Lines : List (Int × Int × Bool)) (a0Room : Int) (b1Store : List Int) (b1Lines : List (Int × Int × Bool)) (b1Room : Int) (kk : AV → List A1 → Prop) : Kt := fin TT con_laws_eqMemory Try.f32.results.toList [.c .sc] [.agg [.ro .int a0Store, .ro .iib a0Lines, .v (.int .i64 a0Room)], .agg [.ro .int b1Store, .ro .iib b1Lines, .v (.int .i64 b1Room)]] kk
theorem g_laws_eqMemory (a0Store : List Int) (a0Lines : List (Int × Int × Bool)) (a0Room : Int) (b1Store : List Int) (b1Lines : List (Int × Int × Bool)) (b1Room : Int) (kk : AV → List A1 → Prop) :
    ev TT cs_laws_eqMemory 22 an_laws_eqMemory (Try.f32.body.getD .skip) (st0 con_laws_eqMemory [.agg [.ro .int a0Store, .ro .iib a0Lines, .v (.int .i64 a0Room)], .agg [.ro .int b1Store, .ro .iib b1Lines, .v (.int .i64 b1Room)]]) (fin TT con_laws_eqMemory Try.f32.results.toList [.c .sc] [.agg [.ro .int a0Store, .ro .iib a0Lines, .v (.int .i64 a0Room)], .agg [.ro .int b1Store, .ro .iib b1Lines, .v (.int .i64 b1Room)]] kk) = G_laws_eqMemory a0Store a0Lines a0Room b1Store b1Lines b1Room (fun r0 => kk (.one (.c (.v (.bool r0)))) []) := by kernel_rfl
theorem e_laws_eqMemory (a0Store : List Int) (a0Lines : List (Int × Int × Bool)) (a0Room : Int) (b1Store : List Int) (b1Lines : List (Int × Int × Bool)) (b1Room : Int) (kk : AV → List A1 → Prop) :
    ev TT cs_laws_eqMemory 22 an_laws_eqMemory (Try.f32.body.getD .skip) (st0 con_laws_eqMemory [.agg [.ro .int a0Store, .ro .iib a0Lines, .v (.int .i64 a0Room)], .agg [.ro .int b1Store, .ro .iib b1Lines, .v (.int .i64 b1Room)]]) (fin TT con_laws_eqMemory Try.f32.results.toList [.c .sc] [.agg [.ro .int a0Store, .ro .iib a0Lines, .v (.int .i64 a0Room)], .agg [.ro .int b1Store, .ro .iib b1Lines, .v (.int .i64 b1Room)]] kk) = S_laws_eqMemory a0Store a0Lines a0Room b1Store b1Lines b1Room (fun r0 => kk (.one (.c (.v (.bool r0)))) []) := by
  rw [g_laws_eqMemory]
  rfl
theorem clok_laws_eqMemory : ConOK Try.prog cl_laws_eqMemory := consCons h_laws_eqIntS ⟨Try.f39, Try.func39, by kernel_rfl, ne_of_beq (by kernel_rfl)⟩ (consCons h_laws_eqLineS ⟨Try.f83, Try.func83, by kernel_rfl, ne_of_beq (by kernel_rfl)⟩ (consNil))
theorem cok_laws_eqMemory : ConsOK Try.prog 22 cs_laws_eqMemory := ⟨clok_laws_eqMemory, inlNil, ovNil⟩
theorem i_laws_eqMemory {vs : List A1} {kk : AV → List A1 → Prop} {motive : List A1 → Prop} (h : con_laws_eqMemory.F vs kk) (H : ∀ (a0Store : List Int) (a0Lines : List (Int × Int × Bool)) (a0Room : Int) (b1Store : List Int) (b1Lines : List (Int × Int × Bool)) (b1Room : Int), F_laws_eqMemory a0Store a0Lines a0Room b1Store b1Lines b1Room (fun r0 => kk (.one (.c (.v (.bool r0)))) []) → motive [.agg [.ro .int a0Store, .ro .iib a0Lines, .v (.int .i64 a0Room)], .agg [.ro .int b1Store, .ro .iib b1Lines, .v (.int .i64 b1Room)]]) : motive vs := by
  unfold con_laws_eqMemory at h
  dsimp only at h
  split at h
  · exact H _ _ _ _ _ _ h
  · exact h.elim
theorem h_laws_eqMemory : Holds Try.prog 32 con_laws_eqMemory := by
  refine holds_of_ev (rt := [.c .sc]) (T := TT) (Γ := cs_laws_eqMemory) (an := an_laws_eqMemory) (N := 22) (c := Try.f32.body.getD .skip) Try.func32 (by kernel_rfl) Try.ntmps32 (by decide) (by decide) mixed tabOK cok_laws_eqMemory (by kernel_rfl) ?_
  intro vs kk _ hF
  exact i_laws_eqMemory (motive := fun vs => Goes (ev TT cs_laws_eqMemory 22 an_laws_eqMemory (Try.f32.body.getD .skip) (st0 con_laws_eqMemory vs) (fin TT con_laws_eqMemory Try.f32.results.toList [.c .sc] vs kk))) hF (fun a0Store a0Lines a0Room b1Store b1Lines b1Room hF => goes_of (e_laws_eqMemory a0Store a0Lines a0Room b1Store b1Lines b1Room kk) (F_laws_eqMemory_S hF))
def con_laws_markIntS : Con := ⟨[.mu, .rd], true, [.c (.sl .int), .c (.sc)], fun vs k => match vs with
    | [.c (.ro .int a0), .c (.v (.int .i64 k1))] => F_laws_markIntS a0 k1 (fun r0 r1 => k (.one (.c (.v (.int .i64 r0)))) [.c (.ro .int r1)])
    | _ => False, false⟩
def cl_laws_markIntS : List (FuncId × Con) := []
def nm0_laws_markIntS : List NStep := [.keep [0, 1, 5] [100000]]
def an_laws_markIntS : Ann := ⟨[], [(2, nm0_laws_markIntS)], [], []⟩
def cs_laws_markIntS : Cons := ⟨cl_laws_markIntS, [], 0, [], [], []⟩
def can0_laws_markIntS (xk1 : Int) (xi5 : Int) (xy100000 : List Int) : St := ⟨[(0, .one (.c (.ow 100000))), (1, .one (.c (.v (.int .i64 xk1)))), (5, .one (.c (.v (.int .i64 xi5))))], [(100000, .row .int xy100000)]⟩
def fin_laws_markIntS (a0 : List Int) (k1 : Int) (kk : AV → List A1 → Prop) : Kt := fin TT con_laws_markIntS Try.f40.results.toList [.c .sc] [.c (.ro .int a0), .c (.v (.int .i64 k1))] kk
def kt0_laws_markIntS (kf : Kt) : Kt := blockK 0 (seqK (evF TT cs_laws_markIntS 19 an_laws_markIntS Try.f40 [1, 1]) (kf))
theorem r0_laws_markIntS (a0 : List Int) (k1 : Int) (kk : AV → List A1 → Prop) (n : Nat) (xk1 : Int) (xi5 : Int) (xy100000 : List Int) :
    iter (evF TT cs_laws_markIntS 19 an_laws_markIntS Try.f40 [1, 0, 1, 0, 0]) nm0_laws_markIntS (kt0_laws_markIntS (fin_laws_markIntS a0 k1 kk)) (n + 1) (can0_laws_markIntS xk1 xi5 xy100000) = T0_laws_markIntS xk1 xi5 xy100000 (fun r0 r1 => kk (.one (.c (.v (.int .i64 r0)))) [.c (.ro .int r1)]) (fun xk1 xi5 xy100000 => iter (evF TT cs_laws_markIntS 19 an_laws_markIntS Try.f40 [1, 0, 1, 0, 0]) nm0_laws_markIntS (kt0_laws_markIntS (fin_laws_markIntS a0 k1 kk)) n (can0_laws_markIntS xk1 xi5 xy100000)) := by kernel_rfl
theorem l0_laws_markIntS (a0 : List Int) (k1 : Int) (kk : AV → List A1 → Prop) : ∀ (n : Nat) (xk1 : Int) (xi5 : Int) (xy100000 : List Int), iter (evF TT cs_laws_markIntS 19 an_laws_markIntS Try.f40 [1, 0, 1, 0, 0]) nm0_laws_markIntS (kt0_laws_markIntS (fin_laws_markIntS a0 k1 kk)) n (can0_laws_markIntS xk1 xi5 xy100000) = L0_laws_markIntS (fun r0 r1 => kk (.one (.c (.v (.int .i64 r0)))) [.c (.ro .int r1)]) n xk1 xi5 xy100000 := by
  intro n
  induction n with
  | zero => intros; rfl
  | succ n ih =>
    intro xk1 xi5 xy100000
    rw [r0_laws_markIntS a0 k1 kk n xk1 xi5 xy100000]
    have hb : (fun xk1 xi5 xy100000 => iter (evF TT cs_laws_markIntS 19 an_laws_markIntS Try.f40 [1, 0, 1, 0, 0]) nm0_laws_markIntS (kt0_laws_markIntS (fin_laws_markIntS a0 k1 kk)) n (can0_laws_markIntS xk1 xi5 xy100000)) = L0_laws_markIntS (fun r0 r1 => kk (.one (.c (.v (.int .i64 r0)))) [.c (.ro .int r1)]) n := by
      funext xk1 xi5 xy100000; exact ih xk1 xi5 xy100000
    rw [hb]
    rfl
theorem g_laws_markIntS (a0 : List Int) (k1 : Int) (kk : AV → List A1 → Prop) :
    ev TT cs_laws_markIntS 19 an_laws_markIntS (Try.f40.body.getD .skip) (st0 con_laws_markIntS [.c (.ro .int a0), .c (.v (.int .i64 k1))]) (fin TT con_laws_markIntS Try.f40.results.toList [.c .sc] [.c (.ro .int a0), .c (.v (.int .i64 k1))] kk) = G_laws_markIntS a0 k1 (fun xk1 xi5 xy100000 => ∃ j, iter (evF TT cs_laws_markIntS 19 an_laws_markIntS Try.f40 [1, 0, 1, 0, 0]) nm0_laws_markIntS (kt0_laws_markIntS (fin_laws_markIntS a0 k1 kk)) j (can0_laws_markIntS xk1 xi5 xy100000)) := by kernel_rfl
theorem e_laws_markIntS (a0 : List Int) (k1 : Int) (kk : AV → List A1 → Prop) :
    ev TT cs_laws_markIntS 19 an_laws_markIntS (Try.f40.body.getD .skip) (st0 con_laws_markIntS [.c (.ro .int a0), .c (.v (.int .i64 k1))]) (fin TT con_laws_markIntS Try.f40.results.toList [.c .sc] [.c (.ro .int a0), .c (.v (.int .i64 k1))] kk) = S_laws_markIntS a0 k1 (fun r0 r1 => kk (.one (.c (.v (.int .i64 r0)))) [.c (.ro .int r1)]) := by
  rw [g_laws_markIntS]
  have hi0 : (fun xk1 xi5 xy100000 => ∃ j, iter (evF TT cs_laws_markIntS 19 an_laws_markIntS Try.f40 [1, 0, 1, 0, 0]) nm0_laws_markIntS (kt0_laws_markIntS (fin_laws_markIntS a0 k1 kk)) j (can0_laws_markIntS xk1 xi5 xy100000)) = (fun xk1 xi5 xy100000 => ∃ j, L0_laws_markIntS (fun r0 r1 => kk (.one (.c (.v (.int .i64 r0)))) [.c (.ro .int r1)]) j xk1 xi5 xy100000) := by
    funext xk1 xi5 xy100000
    refine congrArg Exists (funext fun j => ?_)
    rw [l0_laws_markIntS a0 k1 kk j xk1 xi5 xy100000]
  rw [hi0]
  rfl
theorem clok_laws_markIntS : ConOK Try.prog cl_laws_markIntS := consNil
theorem cok_laws_markIntS : ConsOK Try.prog 19 cs_laws_markIntS := ⟨clok_laws_markIntS, inlNil, ovNil⟩
theorem i_laws_markIntS {vs : List A1} {kk : AV → List A1 → Prop} {motive : List A1 → Prop} (h : con_laws_markIntS.F vs kk) (H : ∀ (a0 : List Int) (k1 : Int), F_laws_markIntS a0 k1 (fun r0 r1 => kk (.one (.c (.v (.int .i64 r0)))) [.c (.ro .int r1)]) → motive [.c (.ro .int a0), .c (.v (.int .i64 k1))]) : motive vs := by
  unfold con_laws_markIntS at h
  dsimp only at h
  split at h
  · exact H _ _ h
  · exact h.elim
theorem h_laws_markIntS : Holds Try.prog 40 con_laws_markIntS := by
  refine holds_of_ev (rt := [.c .sc]) (T := TT) (Γ := cs_laws_markIntS) (an := an_laws_markIntS) (N := 19) (c := Try.f40.body.getD .skip) Try.func40 (by kernel_rfl) Try.ntmps40 (by decide) (by decide) mixed tabOK cok_laws_markIntS (by kernel_rfl) ?_
  intro vs kk _ hF
  exact i_laws_markIntS (motive := fun vs => Goes (ev TT cs_laws_markIntS 19 an_laws_markIntS (Try.f40.body.getD .skip) (st0 con_laws_markIntS vs) (fin TT con_laws_markIntS Try.f40.results.toList [.c .sc] vs kk))) hF (fun a0 k1 hF => goes_of (e_laws_markIntS a0 k1 kk) (F_laws_markIntS_S hF))
def con_laws_markLineS : Con := ⟨[.mu, .rd], true, [.c (.sl .iib), .c (.sc)], fun vs k => match vs with
    | [.c (.ro .iib a0), .c (.v (.int .i64 k1))] => F_laws_markLineS a0 k1 (fun r0 r1 => k (.one (.c (.v (.int .i64 r0)))) [.c (.ro .iib r1)])
    | _ => False, false⟩
def cl_laws_markLineS : List (FuncId × Con) := []
def nm0_laws_markLineS : List NStep := [.keep [0, 1, 5] [100000]]
def an_laws_markLineS : Ann := ⟨[], [(2, nm0_laws_markLineS)], [], []⟩
def cs_laws_markLineS : Cons := ⟨cl_laws_markLineS, [], 0, [], [], []⟩
def can0_laws_markLineS (xk1 : Int) (xi5 : Int) (xy100000 : List (Int × Int × Bool)) : St := ⟨[(0, .one (.c (.ow 100000))), (1, .one (.c (.v (.int .i64 xk1)))), (5, .one (.c (.v (.int .i64 xi5))))], [(100000, .row .iib xy100000)]⟩
def fin_laws_markLineS (a0 : List (Int × Int × Bool)) (k1 : Int) (kk : AV → List A1 → Prop) : Kt := fin TT con_laws_markLineS Try.f84.results.toList [.c .sc] [.c (.ro .iib a0), .c (.v (.int .i64 k1))] kk
def kt0_laws_markLineS (kf : Kt) : Kt := blockK 0 (seqK (evF TT cs_laws_markLineS 36 an_laws_markLineS Try.f84 [1, 1]) (kf))
theorem r0_laws_markLineS (a0 : List (Int × Int × Bool)) (k1 : Int) (kk : AV → List A1 → Prop) (n : Nat) (xk1 : Int) (xi5 : Int) (xy100000 : List (Int × Int × Bool)) :
    iter (evF TT cs_laws_markLineS 36 an_laws_markLineS Try.f84 [1, 0, 1, 0, 0]) nm0_laws_markLineS (kt0_laws_markLineS (fin_laws_markLineS a0 k1 kk)) (n + 1) (can0_laws_markLineS xk1 xi5 xy100000) = T0_laws_markLineS xk1 xi5 xy100000 (fun r0 r1 => kk (.one (.c (.v (.int .i64 r0)))) [.c (.ro .iib r1)]) (fun xk1 xi5 xy100000 => iter (evF TT cs_laws_markLineS 36 an_laws_markLineS Try.f84 [1, 0, 1, 0, 0]) nm0_laws_markLineS (kt0_laws_markLineS (fin_laws_markLineS a0 k1 kk)) n (can0_laws_markLineS xk1 xi5 xy100000)) := by kernel_rfl
theorem l0_laws_markLineS (a0 : List (Int × Int × Bool)) (k1 : Int) (kk : AV → List A1 → Prop) : ∀ (n : Nat) (xk1 : Int) (xi5 : Int) (xy100000 : List (Int × Int × Bool)), iter (evF TT cs_laws_markLineS 36 an_laws_markLineS Try.f84 [1, 0, 1, 0, 0]) nm0_laws_markLineS (kt0_laws_markLineS (fin_laws_markLineS a0 k1 kk)) n (can0_laws_markLineS xk1 xi5 xy100000) = L0_laws_markLineS (fun r0 r1 => kk (.one (.c (.v (.int .i64 r0)))) [.c (.ro .iib r1)]) n xk1 xi5 xy100000 := by
  intro n
  induction n with
  | zero => intros; rfl
  | succ n ih =>
    intro xk1 xi5 xy100000
    rw [r0_laws_markLineS a0 k1 kk n xk1 xi5 xy100000]
    have hb : (fun xk1 xi5 xy100000 => iter (evF TT cs_laws_markLineS 36 an_laws_markLineS Try.f84 [1, 0, 1, 0, 0]) nm0_laws_markLineS (kt0_laws_markLineS (fin_laws_markLineS a0 k1 kk)) n (can0_laws_markLineS xk1 xi5 xy100000)) = L0_laws_markLineS (fun r0 r1 => kk (.one (.c (.v (.int .i64 r0)))) [.c (.ro .iib r1)]) n := by
      funext xk1 xi5 xy100000; exact ih xk1 xi5 xy100000
    rw [hb]
    rfl
theorem g_laws_markLineS (a0 : List (Int × Int × Bool)) (k1 : Int) (kk : AV → List A1 → Prop) :
    ev TT cs_laws_markLineS 36 an_laws_markLineS (Try.f84.body.getD .skip) (st0 con_laws_markLineS [.c (.ro .iib a0), .c (.v (.int .i64 k1))]) (fin TT con_laws_markLineS Try.f84.results.toList [.c .sc] [.c (.ro .iib a0), .c (.v (.int .i64 k1))] kk) = G_laws_markLineS a0 k1 (fun xk1 xi5 xy100000 => ∃ j, iter (evF TT cs_laws_markLineS 36 an_laws_markLineS Try.f84 [1, 0, 1, 0, 0]) nm0_laws_markLineS (kt0_laws_markLineS (fin_laws_markLineS a0 k1 kk)) j (can0_laws_markLineS xk1 xi5 xy100000)) := by kernel_rfl
theorem e_laws_markLineS (a0 : List (Int × Int × Bool)) (k1 : Int) (kk : AV → List A1 → Prop) :
    ev TT cs_laws_markLineS 36 an_laws_markLineS (Try.f84.body.getD .skip) (st0 con_laws_markLineS [.c (.ro .iib a0), .c (.v (.int .i64 k1))]) (fin TT con_laws_markLineS Try.f84.results.toList [.c .sc] [.c (.ro .iib a0), .c (.v (.int .i64 k1))] kk) = S_laws_markLineS a0 k1 (fun r0 r1 => kk (.one (.c (.v (.int .i64 r0)))) [.c (.ro .iib r1)]) := by
  rw [g_laws_markLineS]
  have hi0 : (fun xk1 xi5 xy100000 => ∃ j, iter (evF TT cs_laws_markLineS 36 an_laws_markLineS Try.f84 [1, 0, 1, 0, 0]) nm0_laws_markLineS (kt0_laws_markLineS (fin_laws_markLineS a0 k1 kk)) j (can0_laws_markLineS xk1 xi5 xy100000)) = (fun xk1 xi5 xy100000 => ∃ j, L0_laws_markLineS (fun r0 r1 => kk (.one (.c (.v (.int .i64 r0)))) [.c (.ro .iib r1)]) j xk1 xi5 xy100000) := by
    funext xk1 xi5 xy100000
    refine congrArg Exists (funext fun j => ?_)
    rw [l0_laws_markLineS a0 k1 kk j xk1 xi5 xy100000]
  rw [hi0]
  rfl
theorem clok_laws_markLineS : ConOK Try.prog cl_laws_markLineS := consNil
theorem cok_laws_markLineS : ConsOK Try.prog 36 cs_laws_markLineS := ⟨clok_laws_markLineS, inlNil, ovNil⟩
theorem i_laws_markLineS {vs : List A1} {kk : AV → List A1 → Prop} {motive : List A1 → Prop} (h : con_laws_markLineS.F vs kk) (H : ∀ (a0 : List (Int × Int × Bool)) (k1 : Int), F_laws_markLineS a0 k1 (fun r0 r1 => kk (.one (.c (.v (.int .i64 r0)))) [.c (.ro .iib r1)]) → motive [.c (.ro .iib a0), .c (.v (.int .i64 k1))]) : motive vs := by
  unfold con_laws_markLineS at h
  dsimp only at h
  split at h
  · exact H _ _ h
  · exact h.elim
theorem h_laws_markLineS : Holds Try.prog 84 con_laws_markLineS := by
  refine holds_of_ev (rt := [.c .sc]) (T := TT) (Γ := cs_laws_markLineS) (an := an_laws_markLineS) (N := 36) (c := Try.f84.body.getD .skip) Try.func84 (by kernel_rfl) Try.ntmps84 (by decide) (by decide) mixed tabOK cok_laws_markLineS (by kernel_rfl) ?_
  intro vs kk _ hF
  exact i_laws_markLineS (motive := fun vs => Goes (ev TT cs_laws_markLineS 36 an_laws_markLineS (Try.f84.body.getD .skip) (st0 con_laws_markLineS vs) (fin TT con_laws_markLineS Try.f84.results.toList [.c .sc] vs kk))) hF (fun a0 k1 hF => goes_of (e_laws_markLineS a0 k1 kk) (F_laws_markLineS_S hF))
def con_laws_markMemory : Con := ⟨[.mu, .rd], true, [.agg [.sl .int, .sl .iib, .sc], .c (.sc)], fun vs k => match vs with
    | [.agg [.ro .int a0Store, .ro .iib a0Lines, .v (.int .i64 a0Room)], .c (.v (.int .i64 k1))] => F_laws_markMemory a0Store a0Lines a0Room k1 (fun r0 r1 r2 => k (.one (.c (.v (.int .i64 r0)))) [.agg [.ro .int r1, .ro .iib r2, .v (.int .i64 a0Room)]])
    | _ => False, false⟩
def cl_laws_markMemory : List (FuncId × Con) := [(40, con_laws_markIntS), (84, con_laws_markLineS)]
def an_laws_markMemory : Ann := ⟨[], [], [], []⟩
def cs_laws_markMemory : Cons := ⟨cl_laws_markMemory, [], 0, [], [], []⟩
def fin_laws_markMemory (a0Store : List Int) (a0Lines : List (Int × Int × Bool)) (a0Room : Int) (k1 : Int) (kk : AV → List A1 → Prop) : Kt := fin TT con_laws_markMemory Try.f34.results.toList [.c .sc] [.agg [.ro .int a0Store, .ro .iib a0Lines, .v (.int .i64 a0Room)], .c (.v (.int .i64 k1))] kk
theorem g_laws_markMemory (a0Store : List Int) (a0Lines : List (Int × Int × Bool)) (a0Room : Int) (k1 : Int) (kk : AV → List A1 → Prop) :
    ev TT cs_laws_markMemory 14 an_laws_markMemory (Try.f34.body.getD .skip) (st0 con_laws_markMemory [.agg [.ro .int a0Store, .ro .iib a0Lines, .v (.int .i64 a0Room)], .c (.v (.int .i64 k1))]) (fin TT con_laws_markMemory Try.f34.results.toList [.c .sc] [.agg [.ro .int a0Store, .ro .iib a0Lines, .v (.int .i64 a0Room)], .c (.v (.int .i64 k1))] kk) = G_laws_markMemory a0Store a0Lines a0Room k1 (fun r0 r1 r2 => kk (.one (.c (.v (.int .i64 r0)))) [.agg [.ro .int r1, .ro .iib r2, .v (.int .i64 a0Room)]]) := by kernel_rfl
theorem e_laws_markMemory (a0Store : List Int) (a0Lines : List (Int × Int × Bool)) (a0Room : Int) (k1 : Int) (kk : AV → List A1 → Prop) :
    ev TT cs_laws_markMemory 14 an_laws_markMemory (Try.f34.body.getD .skip) (st0 con_laws_markMemory [.agg [.ro .int a0Store, .ro .iib a0Lines, .v (.int .i64 a0Room)], .c (.v (.int .i64 k1))]) (fin TT con_laws_markMemory Try.f34.results.toList [.c .sc] [.agg [.ro .int a0Store, .ro .iib a0Lines, .v (.int .i64 a0Room)], .c (.v (.int .i64 k1))] kk) = S_laws_markMemory a0Store a0Lines a0Room k1 (fun r0 r1 r2 => kk (.one (.c (.v (.int .i64 r0)))) [.agg [.ro .int r1, .ro .iib r2, .v (.int .i64 a0Room)]]) := by
  rw [g_laws_markMemory]
  rfl
theorem clok_laws_markMemory : ConOK Try.prog cl_laws_markMemory := consCons h_laws_markIntS ⟨Try.f40, Try.func40, by kernel_rfl, ne_of_beq (by kernel_rfl)⟩ (consCons h_laws_markLineS ⟨Try.f84, Try.func84, by kernel_rfl, ne_of_beq (by kernel_rfl)⟩ (consNil))
theorem cok_laws_markMemory : ConsOK Try.prog 14 cs_laws_markMemory := ⟨clok_laws_markMemory, inlNil, ovNil⟩
theorem i_laws_markMemory {vs : List A1} {kk : AV → List A1 → Prop} {motive : List A1 → Prop} (h : con_laws_markMemory.F vs kk) (H : ∀ (a0Store : List Int) (a0Lines : List (Int × Int × Bool)) (a0Room : Int) (k1 : Int), F_laws_markMemory a0Store a0Lines a0Room k1 (fun r0 r1 r2 => kk (.one (.c (.v (.int .i64 r0)))) [.agg [.ro .int r1, .ro .iib r2, .v (.int .i64 a0Room)]]) → motive [.agg [.ro .int a0Store, .ro .iib a0Lines, .v (.int .i64 a0Room)], .c (.v (.int .i64 k1))]) : motive vs := by
  unfold con_laws_markMemory at h
  dsimp only at h
  split at h
  · exact H _ _ _ _ h
  · exact h.elim
theorem h_laws_markMemory : Holds Try.prog 34 con_laws_markMemory := by
  refine holds_of_ev (rt := [.c .sc]) (T := TT) (Γ := cs_laws_markMemory) (an := an_laws_markMemory) (N := 14) (c := Try.f34.body.getD .skip) Try.func34 (by kernel_rfl) Try.ntmps34 (by decide) (by decide) mixed tabOK cok_laws_markMemory (by kernel_rfl) ?_
  intro vs kk _ hF
  exact i_laws_markMemory (motive := fun vs => Goes (ev TT cs_laws_markMemory 14 an_laws_markMemory (Try.f34.body.getD .skip) (st0 con_laws_markMemory vs) (fin TT con_laws_markMemory Try.f34.results.toList [.c .sc] vs kk))) hF (fun a0Store a0Lines a0Room k1 hF => goes_of (e_laws_markMemory a0Store a0Lines a0Room k1 kk) (F_laws_markMemory_S hF))
def con_laws_heldIntS : Con := ⟨[.rd, .rd], true, [.c (.sl .int), .c (.sc)], fun vs k => match vs with
    | [.c (.ro .int a0), .c (.v (.int .i64 k1))] => F_laws_heldIntS a0 k1 (fun r0 => k (.one (.c (.v (.int .i64 r0)))) [])
    | _ => False, false⟩
def cl_laws_heldIntS : List (FuncId × Con) := []
def nm0_laws_heldIntS : List NStep := [.keep [0, 1, 5] []]
def an_laws_heldIntS : Ann := ⟨[], [(2, nm0_laws_heldIntS)], [], []⟩
def cs_laws_heldIntS : Cons := ⟨cl_laws_heldIntS, [], 0, [], [], []⟩
def can0_laws_heldIntS (a0 : List Int) (xk1 : Int) (xi5 : Int) : St := ⟨[(0, .one (.c (.ro .int a0))), (1, .one (.c (.v (.int .i64 xk1)))), (5, .one (.c (.v (.int .i64 xi5))))], []⟩
def fin_laws_heldIntS (a0 : List Int) (k1 : Int) (kk : AV → List A1 → Prop) : Kt := fin TT con_laws_heldIntS Try.f41.results.toList [.c .sc] [.c (.ro .int a0), .c (.v (.int .i64 k1))] kk
def kt0_laws_heldIntS (kf : Kt) : Kt := blockK 0 (seqK (evF TT cs_laws_heldIntS 21 an_laws_heldIntS Try.f41 [1, 1]) (kf))
theorem r0_laws_heldIntS (a0 : List Int) (k1 : Int) (kk : AV → List A1 → Prop) (n : Nat) (xk1 : Int) (xi5 : Int) :
    iter (evF TT cs_laws_heldIntS 21 an_laws_heldIntS Try.f41 [1, 0, 1, 0, 0]) nm0_laws_heldIntS (kt0_laws_heldIntS (fin_laws_heldIntS a0 k1 kk)) (n + 1) (can0_laws_heldIntS a0 xk1 xi5) = T0_laws_heldIntS a0 xk1 xi5 (fun r0 => kk (.one (.c (.v (.int .i64 r0)))) []) (fun xk1 xi5 => iter (evF TT cs_laws_heldIntS 21 an_laws_heldIntS Try.f41 [1, 0, 1, 0, 0]) nm0_laws_heldIntS (kt0_laws_heldIntS (fin_laws_heldIntS a0 k1 kk)) n (can0_laws_heldIntS a0 xk1 xi5)) := by kernel_rfl
theorem l0_laws_heldIntS (a0 : List Int) (k1 : Int) (kk : AV → List A1 → Prop) : ∀ (n : Nat) (xk1 : Int) (xi5 : Int), iter (evF TT cs_laws_heldIntS 21 an_laws_heldIntS Try.f41 [1, 0, 1, 0, 0]) nm0_laws_heldIntS (kt0_laws_heldIntS (fin_laws_heldIntS a0 k1 kk)) n (can0_laws_heldIntS a0 xk1 xi5) = L0_laws_heldIntS a0 (fun r0 => kk (.one (.c (.v (.int .i64 r0)))) []) n xk1 xi5 := by
  intro n
  induction n with
  | zero => intros; rfl
  | succ n ih =>
    intro xk1 xi5
    rw [r0_laws_heldIntS a0 k1 kk n xk1 xi5]
    have hb : (fun xk1 xi5 => iter (evF TT cs_laws_heldIntS 21 an_laws_heldIntS Try.f41 [1, 0, 1, 0, 0]) nm0_laws_heldIntS (kt0_laws_heldIntS (fin_laws_heldIntS a0 k1 kk)) n (can0_laws_heldIntS a0 xk1 xi5)) = L0_laws_heldIntS a0 (fun r0 => kk (.one (.c (.v (.int .i64 r0)))) []) n := by
      funext xk1 xi5; exact ih xk1 xi5
    rw [hb]
    rfl
theorem g_laws_heldIntS (a0 : List Int) (k1 : Int) (kk : AV → List A1 → Prop) :
    ev TT cs_laws_heldIntS 21 an_laws_heldIntS (Try.f41.body.getD .skip) (st0 con_laws_heldIntS [.c (.ro .int a0), .c (.v (.int .i64 k1))]) (fin TT con_laws_heldIntS Try.f41.results.toList [.c .sc] [.c (.ro .int a0), .c (.v (.int .i64 k1))] kk) = G_laws_heldIntS a0 k1 (fun a0 xk1 xi5 => ∃ j, iter (evF TT cs_laws_heldIntS 21 an_laws_heldIntS Try.f41 [1, 0, 1, 0, 0]) nm0_laws_heldIntS (kt0_laws_heldIntS (fin_laws_heldIntS a0 k1 kk)) j (can0_laws_heldIntS a0 xk1 xi5)) := by kernel_rfl
theorem e_laws_heldIntS (a0 : List Int) (k1 : Int) (kk : AV → List A1 → Prop) :
    ev TT cs_laws_heldIntS 21 an_laws_heldIntS (Try.f41.body.getD .skip) (st0 con_laws_heldIntS [.c (.ro .int a0), .c (.v (.int .i64 k1))]) (fin TT con_laws_heldIntS Try.f41.results.toList [.c .sc] [.c (.ro .int a0), .c (.v (.int .i64 k1))] kk) = S_laws_heldIntS a0 k1 (fun r0 => kk (.one (.c (.v (.int .i64 r0)))) []) := by
  rw [g_laws_heldIntS]
  have hi0 : (fun a0 xk1 xi5 => ∃ j, iter (evF TT cs_laws_heldIntS 21 an_laws_heldIntS Try.f41 [1, 0, 1, 0, 0]) nm0_laws_heldIntS (kt0_laws_heldIntS (fin_laws_heldIntS a0 k1 kk)) j (can0_laws_heldIntS a0 xk1 xi5)) = (fun a0 xk1 xi5 => ∃ j, L0_laws_heldIntS a0 (fun r0 => kk (.one (.c (.v (.int .i64 r0)))) []) j xk1 xi5) := by
    funext a0 xk1 xi5
    refine congrArg Exists (funext fun j => ?_)
    rw [l0_laws_heldIntS a0 k1 kk j xk1 xi5]
  rw [hi0]
  rfl
theorem clok_laws_heldIntS : ConOK Try.prog cl_laws_heldIntS := consNil
theorem cok_laws_heldIntS : ConsOK Try.prog 21 cs_laws_heldIntS := ⟨clok_laws_heldIntS, inlNil, ovNil⟩
theorem i_laws_heldIntS {vs : List A1} {kk : AV → List A1 → Prop} {motive : List A1 → Prop} (h : con_laws_heldIntS.F vs kk) (H : ∀ (a0 : List Int) (k1 : Int), F_laws_heldIntS a0 k1 (fun r0 => kk (.one (.c (.v (.int .i64 r0)))) []) → motive [.c (.ro .int a0), .c (.v (.int .i64 k1))]) : motive vs := by
  unfold con_laws_heldIntS at h
  dsimp only at h
  split at h
  · exact H _ _ h
  · exact h.elim
theorem h_laws_heldIntS : Holds Try.prog 41 con_laws_heldIntS := by
  refine holds_of_ev (rt := [.c .sc]) (T := TT) (Γ := cs_laws_heldIntS) (an := an_laws_heldIntS) (N := 21) (c := Try.f41.body.getD .skip) Try.func41 (by kernel_rfl) Try.ntmps41 (by decide) (by decide) mixed tabOK cok_laws_heldIntS (by kernel_rfl) ?_
  intro vs kk _ hF
  exact i_laws_heldIntS (motive := fun vs => Goes (ev TT cs_laws_heldIntS 21 an_laws_heldIntS (Try.f41.body.getD .skip) (st0 con_laws_heldIntS vs) (fin TT con_laws_heldIntS Try.f41.results.toList [.c .sc] vs kk))) hF (fun a0 k1 hF => goes_of (e_laws_heldIntS a0 k1 kk) (F_laws_heldIntS_S hF))
def con_laws_heldLineS : Con := ⟨[.rd, .rd], true, [.c (.sl .iib), .c (.sc)], fun vs k => match vs with
    | [.c (.ro .iib a0), .c (.v (.int .i64 k1))] => F_laws_heldLineS a0 k1 (fun r0 => k (.one (.c (.v (.int .i64 r0)))) [])
    | _ => False, false⟩
def cl_laws_heldLineS : List (FuncId × Con) := []
def nm0_laws_heldLineS : List NStep := [.keep [0, 1, 5] []]
def an_laws_heldLineS : Ann := ⟨[], [(2, nm0_laws_heldLineS)], [], []⟩
def cs_laws_heldLineS : Cons := ⟨cl_laws_heldLineS, [], 0, [], [], []⟩
def can0_laws_heldLineS (a0 : List (Int × Int × Bool)) (xk1 : Int) (xi5 : Int) : St := ⟨[(0, .one (.c (.ro .iib a0))), (1, .one (.c (.v (.int .i64 xk1)))), (5, .one (.c (.v (.int .i64 xi5))))], []⟩
def fin_laws_heldLineS (a0 : List (Int × Int × Bool)) (k1 : Int) (kk : AV → List A1 → Prop) : Kt := fin TT con_laws_heldLineS Try.f85.results.toList [.c .sc] [.c (.ro .iib a0), .c (.v (.int .i64 k1))] kk
def kt0_laws_heldLineS (kf : Kt) : Kt := blockK 0 (seqK (evF TT cs_laws_heldLineS 42 an_laws_heldLineS Try.f85 [1, 1]) (kf))
theorem r0_laws_heldLineS (a0 : List (Int × Int × Bool)) (k1 : Int) (kk : AV → List A1 → Prop) (n : Nat) (xk1 : Int) (xi5 : Int) :
    iter (evF TT cs_laws_heldLineS 42 an_laws_heldLineS Try.f85 [1, 0, 1, 0, 0]) nm0_laws_heldLineS (kt0_laws_heldLineS (fin_laws_heldLineS a0 k1 kk)) (n + 1) (can0_laws_heldLineS a0 xk1 xi5) = T0_laws_heldLineS a0 xk1 xi5 (fun r0 => kk (.one (.c (.v (.int .i64 r0)))) []) (fun xk1 xi5 => iter (evF TT cs_laws_heldLineS 42 an_laws_heldLineS Try.f85 [1, 0, 1, 0, 0]) nm0_laws_heldLineS (kt0_laws_heldLineS (fin_laws_heldLineS a0 k1 kk)) n (can0_laws_heldLineS a0 xk1 xi5)) := by kernel_rfl
theorem l0_laws_heldLineS (a0 : List (Int × Int × Bool)) (k1 : Int) (kk : AV → List A1 → Prop) : ∀ (n : Nat) (xk1 : Int) (xi5 : Int), iter (evF TT cs_laws_heldLineS 42 an_laws_heldLineS Try.f85 [1, 0, 1, 0, 0]) nm0_laws_heldLineS (kt0_laws_heldLineS (fin_laws_heldLineS a0 k1 kk)) n (can0_laws_heldLineS a0 xk1 xi5) = L0_laws_heldLineS a0 (fun r0 => kk (.one (.c (.v (.int .i64 r0)))) []) n xk1 xi5 := by
  intro n
  induction n with
  | zero => intros; rfl
  | succ n ih =>
    intro xk1 xi5
    rw [r0_laws_heldLineS a0 k1 kk n xk1 xi5]
    have hb : (fun xk1 xi5 => iter (evF TT cs_laws_heldLineS 42 an_laws_heldLineS Try.f85 [1, 0, 1, 0, 0]) nm0_laws_heldLineS (kt0_laws_heldLineS (fin_laws_heldLineS a0 k1 kk)) n (can0_laws_heldLineS a0 xk1 xi5)) = L0_laws_heldLineS a0 (fun r0 => kk (.one (.c (.v (.int .i64 r0)))) []) n := by
      funext xk1 xi5; exact ih xk1 xi5
    rw [hb]
    rfl
theorem g_laws_heldLineS (a0 : List (Int × Int × Bool)) (k1 : Int) (kk : AV → List A1 → Prop) :
    ev TT cs_laws_heldLineS 42 an_laws_heldLineS (Try.f85.body.getD .skip) (st0 con_laws_heldLineS [.c (.ro .iib a0), .c (.v (.int .i64 k1))]) (fin TT con_laws_heldLineS Try.f85.results.toList [.c .sc] [.c (.ro .iib a0), .c (.v (.int .i64 k1))] kk) = G_laws_heldLineS a0 k1 (fun a0 xk1 xi5 => ∃ j, iter (evF TT cs_laws_heldLineS 42 an_laws_heldLineS Try.f85 [1, 0, 1, 0, 0]) nm0_laws_heldLineS (kt0_laws_heldLineS (fin_laws_heldLineS a0 k1 kk)) j (can0_laws_heldLineS a0 xk1 xi5)) := by kernel_rfl
theorem e_laws_heldLineS (a0 : List (Int × Int × Bool)) (k1 : Int) (kk : AV → List A1 → Prop) :
    ev TT cs_laws_heldLineS 42 an_laws_heldLineS (Try.f85.body.getD .skip) (st0 con_laws_heldLineS [.c (.ro .iib a0), .c (.v (.int .i64 k1))]) (fin TT con_laws_heldLineS Try.f85.results.toList [.c .sc] [.c (.ro .iib a0), .c (.v (.int .i64 k1))] kk) = S_laws_heldLineS a0 k1 (fun r0 => kk (.one (.c (.v (.int .i64 r0)))) []) := by
  rw [g_laws_heldLineS]
  have hi0 : (fun a0 xk1 xi5 => ∃ j, iter (evF TT cs_laws_heldLineS 42 an_laws_heldLineS Try.f85 [1, 0, 1, 0, 0]) nm0_laws_heldLineS (kt0_laws_heldLineS (fin_laws_heldLineS a0 k1 kk)) j (can0_laws_heldLineS a0 xk1 xi5)) = (fun a0 xk1 xi5 => ∃ j, L0_laws_heldLineS a0 (fun r0 => kk (.one (.c (.v (.int .i64 r0)))) []) j xk1 xi5) := by
    funext a0 xk1 xi5
    refine congrArg Exists (funext fun j => ?_)
    rw [l0_laws_heldLineS a0 k1 kk j xk1 xi5]
  rw [hi0]
  rfl
theorem clok_laws_heldLineS : ConOK Try.prog cl_laws_heldLineS := consNil
theorem cok_laws_heldLineS : ConsOK Try.prog 42 cs_laws_heldLineS := ⟨clok_laws_heldLineS, inlNil, ovNil⟩
theorem i_laws_heldLineS {vs : List A1} {kk : AV → List A1 → Prop} {motive : List A1 → Prop} (h : con_laws_heldLineS.F vs kk) (H : ∀ (a0 : List (Int × Int × Bool)) (k1 : Int), F_laws_heldLineS a0 k1 (fun r0 => kk (.one (.c (.v (.int .i64 r0)))) []) → motive [.c (.ro .iib a0), .c (.v (.int .i64 k1))]) : motive vs := by
  unfold con_laws_heldLineS at h
  dsimp only at h
  split at h
  · exact H _ _ h
  · exact h.elim
theorem h_laws_heldLineS : Holds Try.prog 85 con_laws_heldLineS := by
  refine holds_of_ev (rt := [.c .sc]) (T := TT) (Γ := cs_laws_heldLineS) (an := an_laws_heldLineS) (N := 42) (c := Try.f85.body.getD .skip) Try.func85 (by kernel_rfl) Try.ntmps85 (by decide) (by decide) mixed tabOK cok_laws_heldLineS (by kernel_rfl) ?_
  intro vs kk _ hF
  exact i_laws_heldLineS (motive := fun vs => Goes (ev TT cs_laws_heldLineS 42 an_laws_heldLineS (Try.f85.body.getD .skip) (st0 con_laws_heldLineS vs) (fin TT con_laws_heldLineS Try.f85.results.toList [.c .sc] vs kk))) hF (fun a0 k1 hF => goes_of (e_laws_heldLineS a0 k1 kk) (F_laws_heldLineS_S hF))
def con_laws_heldMemory : Con := ⟨[.rd, .rd], true, [.agg [.sl .int, .sl .iib, .sc], .c (.sc)], fun vs k => match vs with
    | [.agg [.ro .int a0Store, .ro .iib a0Lines, .v (.int .i64 a0Room)], .c (.v (.int .i64 k1))] => F_laws_heldMemory a0Store a0Lines a0Room k1 (fun r0 => k (.one (.c (.v (.int .i64 r0)))) [])
    | _ => False, false⟩
def cl_laws_heldMemory : List (FuncId × Con) := [(41, con_laws_heldIntS), (85, con_laws_heldLineS)]
def an_laws_heldMemory : Ann := ⟨[], [], [], []⟩
def cs_laws_heldMemory : Cons := ⟨cl_laws_heldMemory, [], 0, [], [], []⟩
def fin_laws_heldMemory (a0Store : List Int) (a0Lines : List (Int × Int × Bool)) (a0Room : Int) (k1 : Int) (kk : AV → List A1 → Prop) : Kt := fin TT con_laws_heldMemory Try.f35.results.toList [.c .sc] [.agg [.ro .int a0Store, .ro .iib a0Lines, .v (.int .i64 a0Room)], .c (.v (.int .i64 k1))] kk
theorem g_laws_heldMemory (a0Store : List Int) (a0Lines : List (Int × Int × Bool)) (a0Room : Int) (k1 : Int) (kk : AV → List A1 → Prop) :
    ev TT cs_laws_heldMemory 18 an_laws_heldMemory (Try.f35.body.getD .skip) (st0 con_laws_heldMemory [.agg [.ro .int a0Store, .ro .iib a0Lines, .v (.int .i64 a0Room)], .c (.v (.int .i64 k1))]) (fin TT con_laws_heldMemory Try.f35.results.toList [.c .sc] [.agg [.ro .int a0Store, .ro .iib a0Lines, .v (.int .i64 a0Room)], .c (.v (.int .i64 k1))] kk) = G_laws_heldMemory a0Store a0Lines a0Room k1 (fun r0 => kk (.one (.c (.v (.int .i64 r0)))) []) := by kernel_rfl
theorem e_laws_heldMemory (a0Store : List Int) (a0Lines : List (Int × Int × Bool)) (a0Room : Int) (k1 : Int) (kk : AV → List A1 → Prop) :
    ev TT cs_laws_heldMemory 18 an_laws_heldMemory (Try.f35.body.getD .skip) (st0 con_laws_heldMemory [.agg [.ro .int a0Store, .ro .iib a0Lines, .v (.int .i64 a0Room)], .c (.v (.int .i64 k1))]) (fin TT con_laws_heldMemory Try.f35.results.toList [.c .sc] [.agg [.ro .int a0Store, .ro .iib a0Lines, .v (.int .i64 a0Room)], .c (.v (.int .i64 k1))] kk) = S_laws_heldMemory a0Store a0Lines a0Room k1 (fun r0 => kk (.one (.c (.v (.int .i64 r0)))) []) := by
  rw [g_laws_heldMemory]
  rfl
theorem clok_laws_heldMemory : ConOK Try.prog cl_laws_heldMemory := consCons h_laws_heldIntS ⟨Try.f41, Try.func41, by kernel_rfl, ne_of_beq (by kernel_rfl)⟩ (consCons h_laws_heldLineS ⟨Try.f85, Try.func85, by kernel_rfl, ne_of_beq (by kernel_rfl)⟩ (consNil))
theorem cok_laws_heldMemory : ConsOK Try.prog 18 cs_laws_heldMemory := ⟨clok_laws_heldMemory, inlNil, ovNil⟩
theorem i_laws_heldMemory {vs : List A1} {kk : AV → List A1 → Prop} {motive : List A1 → Prop} (h : con_laws_heldMemory.F vs kk) (H : ∀ (a0Store : List Int) (a0Lines : List (Int × Int × Bool)) (a0Room : Int) (k1 : Int), F_laws_heldMemory a0Store a0Lines a0Room k1 (fun r0 => kk (.one (.c (.v (.int .i64 r0)))) []) → motive [.agg [.ro .int a0Store, .ro .iib a0Lines, .v (.int .i64 a0Room)], .c (.v (.int .i64 k1))]) : motive vs := by
  unfold con_laws_heldMemory at h
  dsimp only at h
  split at h
  · exact H _ _ _ _ h
  · exact h.elim
theorem h_laws_heldMemory : Holds Try.prog 35 con_laws_heldMemory := by
  refine holds_of_ev (rt := [.c .sc]) (T := TT) (Γ := cs_laws_heldMemory) (an := an_laws_heldMemory) (N := 18) (c := Try.f35.body.getD .skip) Try.func35 (by kernel_rfl) Try.ntmps35 (by decide) (by decide) mixed tabOK cok_laws_heldMemory (by kernel_rfl) ?_
  intro vs kk _ hF
  exact i_laws_heldMemory (motive := fun vs => Goes (ev TT cs_laws_heldMemory 18 an_laws_heldMemory (Try.f35.body.getD .skip) (st0 con_laws_heldMemory vs) (fin TT con_laws_heldMemory Try.f35.results.toList [.c .sc] vs kk))) hF (fun a0Store a0Lines a0Room k1 hF => goes_of (e_laws_heldMemory a0Store a0Lines a0Room k1 kk) (F_laws_heldMemory_S hF))
def con_laws_FnExactWriteKey : Con := ⟨[.rd, .rd, .rd], true, [.agg [.sl .int, .sl .iib, .sc], .c (.sc), .c (.sc)], fun vs k => match vs with
    | [.agg [.ro .int aM0Store, .ro .iib aM0Lines, .v (.int .i64 aM0Room)], .c (.v (.int .i64 aKey1)), .c (.v (.int .i64 aValue2))] => F_laws_FnExactWriteKey aM0Store aM0Lines aM0Room aKey1 aValue2 (fun r0 => k (.one (.c (.v (.bool r0)))) [])
    | _ => False, false⟩
def cl_laws_FnExactWriteKey : List (FuncId × Con) := [(14, con_impl_WriteKey), (15, con_spec_WriteKey), (28, con_laws_szMemory), (30, con_laws_toMemory), (32, con_laws_eqMemory), (34, con_laws_markMemory), (35, con_laws_heldMemory)]
def an_laws_FnExactWriteKey : Ann := ⟨[(10, .take 0 (.take 1 (.alt 2 (.alt 3 (.take 4 (.done)) (.none)) (.none))), [48, 160])], [], [], []⟩
def cs_laws_FnExactWriteKey : Cons := ⟨cl_laws_FnExactWriteKey, [], 0, [], [], []⟩
def fin_laws_FnExactWriteKey (aM0Store : List Int) (aM0Lines : List (Int × Int × Bool)) (aM0Room : Int) (aKey1 : Int) (aValue2 : Int) (kk : AV → List A1 → Prop) : Kt := fin TT con_laws_FnExactWriteKey Try.f8.results.toList [.c .sc] [.agg [.ro .int aM0Store, .ro .iib aM0Lines, .v (.int .i64 aM0Room)], .c (.v (.int .i64 aKey1)), .c (.v (.int .i64 aValue2))] kk
theorem g_laws_FnExactWriteKey (aM0Store : List Int) (aM0Lines : List (Int × Int × Bool)) (aM0Room : Int) (aKey1 : Int) (aValue2 : Int) (kk : AV → List A1 → Prop) :
    ev TT cs_laws_FnExactWriteKey 106 an_laws_FnExactWriteKey (Try.f8.body.getD .skip) (st0 con_laws_FnExactWriteKey [.agg [.ro .int aM0Store, .ro .iib aM0Lines, .v (.int .i64 aM0Room)], .c (.v (.int .i64 aKey1)), .c (.v (.int .i64 aValue2))]) (fin TT con_laws_FnExactWriteKey Try.f8.results.toList [.c .sc] [.agg [.ro .int aM0Store, .ro .iib aM0Lines, .v (.int .i64 aM0Room)], .c (.v (.int .i64 aKey1)), .c (.v (.int .i64 aValue2))] kk) = G_laws_FnExactWriteKey aM0Store aM0Lines aM0Room aKey1 aValue2 (fun r0 => kk (.one (.c (.v (.bool r0)))) []) := by kernel_rfl
theorem e_laws_FnExactWriteKey (aM0Store : List Int) (aM0Lines : List (Int × Int × Bool)) (aM0Room : Int) (aKey1 : Int) (aValue2 : Int) (kk : AV → List A1 → Prop) :
    ev TT cs_laws_FnExactWriteKey 106 an_laws_FnExactWriteKey (Try.f8.body.getD .skip) (st0 con_laws_FnExactWriteKey [.agg [.ro .int aM0Store, .ro .iib aM0Lines, .v (.int .i64 aM0Room)], .c (.v (.int .i64 aKey1)), .c (.v (.int .i64 aValue2))]) (fin TT con_laws_FnExactWriteKey Try.f8.results.toList [.c .sc] [.agg [.ro .int aM0Store, .ro .iib aM0Lines, .v (.int .i64 aM0Room)], .c (.v (.int .i64 aKey1)), .c (.v (.int .i64 aValue2))] kk) = S_laws_FnExactWriteKey aM0Store aM0Lines aM0Room aKey1 aValue2 (fun r0 => kk (.one (.c (.v (.bool r0)))) []) := by
  rw [g_laws_FnExactWriteKey]
  rw [G_laws_FnExactWriteKey_eq]
  rfl
theorem clok_laws_FnExactWriteKey : ConOK Try.prog cl_laws_FnExactWriteKey := consCons h_impl_WriteKey ⟨Try.f14, Try.func14, by kernel_rfl, ne_of_beq (by kernel_rfl)⟩ (consCons h_spec_WriteKey ⟨Try.f15, Try.func15, by kernel_rfl, ne_of_beq (by kernel_rfl)⟩ (consCons h_laws_szMemory ⟨Try.f28, Try.func28, by kernel_rfl, ne_of_beq (by kernel_rfl)⟩ (consCons h_laws_toMemory ⟨Try.f30, Try.func30, by kernel_rfl, ne_of_beq (by kernel_rfl)⟩ (consCons h_laws_eqMemory ⟨Try.f32, Try.func32, by kernel_rfl, ne_of_beq (by kernel_rfl)⟩ (consCons h_laws_markMemory ⟨Try.f34, Try.func34, by kernel_rfl, ne_of_beq (by kernel_rfl)⟩ (consCons h_laws_heldMemory ⟨Try.f35, Try.func35, by kernel_rfl, ne_of_beq (by kernel_rfl)⟩ (consNil)))))))
theorem cok_laws_FnExactWriteKey : ConsOK Try.prog 106 cs_laws_FnExactWriteKey := ⟨clok_laws_FnExactWriteKey, inlNil, ovNil⟩
theorem i_laws_FnExactWriteKey {vs : List A1} {kk : AV → List A1 → Prop} {motive : List A1 → Prop} (h : con_laws_FnExactWriteKey.F vs kk) (H : ∀ (aM0Store : List Int) (aM0Lines : List (Int × Int × Bool)) (aM0Room : Int) (aKey1 : Int) (aValue2 : Int), F_laws_FnExactWriteKey aM0Store aM0Lines aM0Room aKey1 aValue2 (fun r0 => kk (.one (.c (.v (.bool r0)))) []) → motive [.agg [.ro .int aM0Store, .ro .iib aM0Lines, .v (.int .i64 aM0Room)], .c (.v (.int .i64 aKey1)), .c (.v (.int .i64 aValue2))]) : motive vs := by
  unfold con_laws_FnExactWriteKey at h
  dsimp only at h
  split at h
  · exact H _ _ _ _ _ h
  · exact h.elim
theorem h_laws_FnExactWriteKey : Holds Try.prog 8 con_laws_FnExactWriteKey := by
  refine holds_of_ev (rt := [.c .sc]) (T := TT) (Γ := cs_laws_FnExactWriteKey) (an := an_laws_FnExactWriteKey) (N := 106) (c := Try.f8.body.getD .skip) Try.func8 (by kernel_rfl) Try.ntmps8 (by decide) (by decide) mixed tabOK cok_laws_FnExactWriteKey (by kernel_rfl) ?_
  intro vs kk _ hF
  exact i_laws_FnExactWriteKey (motive := fun vs => Goes (ev TT cs_laws_FnExactWriteKey 106 an_laws_FnExactWriteKey (Try.f8.body.getD .skip) (st0 con_laws_FnExactWriteKey vs) (fin TT con_laws_FnExactWriteKey Try.f8.results.toList [.c .sc] vs kk))) hF (fun aM0Store aM0Lines aM0Room aKey1 aValue2 hF => goes_of (e_laws_FnExactWriteKey aM0Store aM0Lines aM0Room aKey1 aValue2 kk) (F_laws_FnExactWriteKey_S hF))
end Go.Ev
