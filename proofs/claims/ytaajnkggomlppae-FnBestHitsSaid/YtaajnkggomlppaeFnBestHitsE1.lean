/- What the evaluator gives for these functions: their contracts. No statement is proved here. -/
import Derived.Test.YtaajnkggomlppaeFnBestHitsE0
namespace Go.Ev
set_option linter.unusedVariables false
set_option maxRecDepth 100000
open Go Go.Proofs
theorem g_slices_IndexFunc_Entry_Entry_Entry_collides (s0 : List (Int × Int × Int)) (f1fa00 : Int) (f1fa01 : Int) (f1fa02 : Int) (kk : AV → List A1 → Prop) :
    ev TT cs_slices_IndexFunc_Entry_Entry_Entry_collides 19 an_slices_IndexFunc_Entry_Entry_Entry_collides (Try.f131.body.getD .skip) (st0 con_slices_IndexFunc_Entry_Entry [.c (.ro .iii s0), .c (.v (.func (.func 122) ⟨[.agg ⟨[.int .i64 f1fa00, .int .i64 f1fa01, .int .i64 f1fa02]⟩]⟩ ⟨[]⟩))]) (fin TT con_slices_IndexFunc_Entry_Entry Try.f131.results.toList [.c .sc] [.c (.ro .iii s0), .c (.v (.func (.func 122) ⟨[.agg ⟨[.int .i64 f1fa00, .int .i64 f1fa01, .int .i64 f1fa02]⟩]⟩ ⟨[]⟩))] kk) = G_slices_IndexFunc_Entry_Entry_Entry_collides s0 f1fa00 f1fa01 f1fa02 (fun f1fa00 f1fa01 f1fa02 s0 xt7 xt8 => ∃ j, iter (evF TT cs_slices_IndexFunc_Entry_Entry_Entry_collides 19 an_slices_IndexFunc_Entry_Entry_Entry_collides Try.f131 [1, 0, 1, 0, 0]) nm0_slices_IndexFunc_Entry_Entry_Entry_collides (kt0_slices_IndexFunc_Entry_Entry_Entry_collides (fin_slices_IndexFunc_Entry_Entry_Entry_collides s0 f1fa00 f1fa01 f1fa02 kk)) j (can0_slices_IndexFunc_Entry_Entry_Entry_collides f1fa00 f1fa01 f1fa02 s0 xt7 xt8)) := by kernel_rfl
theorem e_slices_IndexFunc_Entry_Entry_Entry_collides (s0 : List (Int × Int × Int)) (f1fa00 : Int) (f1fa01 : Int) (f1fa02 : Int) (kk : AV → List A1 → Prop) :
    ev TT cs_slices_IndexFunc_Entry_Entry_Entry_collides 19 an_slices_IndexFunc_Entry_Entry_Entry_collides (Try.f131.body.getD .skip) (st0 con_slices_IndexFunc_Entry_Entry [.c (.ro .iii s0), .c (.v (.func (.func 122) ⟨[.agg ⟨[.int .i64 f1fa00, .int .i64 f1fa01, .int .i64 f1fa02]⟩]⟩ ⟨[]⟩))]) (fin TT con_slices_IndexFunc_Entry_Entry Try.f131.results.toList [.c .sc] [.c (.ro .iii s0), .c (.v (.func (.func 122) ⟨[.agg ⟨[.int .i64 f1fa00, .int .i64 f1fa01, .int .i64 f1fa02]⟩]⟩ ⟨[]⟩))] kk) = S_slices_IndexFunc_Entry_Entry_Entry_collides s0 f1fa00 f1fa01 f1fa02 (fun r0 => kk (.one (.c (.v (.int .i64 r0)))) []) := by
  rw [g_slices_IndexFunc_Entry_Entry_Entry_collides]
  have hi0 : (fun f1fa00 f1fa01 f1fa02 s0 xt7 xt8 => ∃ j, iter (evF TT cs_slices_IndexFunc_Entry_Entry_Entry_collides 19 an_slices_IndexFunc_Entry_Entry_Entry_collides Try.f131 [1, 0, 1, 0, 0]) nm0_slices_IndexFunc_Entry_Entry_Entry_collides (kt0_slices_IndexFunc_Entry_Entry_Entry_collides (fin_slices_IndexFunc_Entry_Entry_Entry_collides s0 f1fa00 f1fa01 f1fa02 kk)) j (can0_slices_IndexFunc_Entry_Entry_Entry_collides f1fa00 f1fa01 f1fa02 s0 xt7 xt8)) = (fun f1fa00 f1fa01 f1fa02 s0 xt7 xt8 => ∃ j, L0_slices_IndexFunc_Entry_Entry_Entry_collides f1fa00 f1fa01 f1fa02 s0 xt7 (fun r0 => kk (.one (.c (.v (.int .i64 r0)))) []) j xt8) := by
    funext f1fa00 f1fa01 f1fa02 s0 xt7 xt8
    refine congrArg Exists (funext fun j => ?_)
    rw [l0_slices_IndexFunc_Entry_Entry_Entry_collides s0 f1fa00 f1fa01 f1fa02 xt7 kk j xt8]
  rw [hi0]
  rfl
theorem clok_slices_IndexFunc_Entry_Entry_Entry_collides : ConOK Try.prog cl_slices_IndexFunc_Entry_Entry_Entry_collides := consCons h_impl_Entry_collides ⟨Try.f122, Try.func122, by kernel_rfl, ne_of_beq (by kernel_rfl)⟩ (consNil)
theorem cok_slices_IndexFunc_Entry_Entry_Entry_collides : ConsOK Try.prog 19 cs_slices_IndexFunc_Entry_Entry_Entry_collides := ⟨clok_slices_IndexFunc_Entry_Entry_Entry_collides, inlNil, ovNil⟩
theorem i_slices_IndexFunc_Entry_Entry_Entry_collides {vs : List A1} {kk : AV → List A1 → Prop} {motive : List A1 → Prop} (h : con_slices_IndexFunc_Entry_Entry.F vs kk) (H : ∀ (s0 : List (Int × Int × Int)) (f1fa00 : Int) (f1fa01 : Int) (f1fa02 : Int), F_slices_IndexFunc_Entry_Entry_Entry_collides s0 f1fa00 f1fa01 f1fa02 (fun r0 => kk (.one (.c (.v (.int .i64 r0)))) []) → motive [.c (.ro .iii s0), .c (.v (.func (.func 122) ⟨[.agg ⟨[.int .i64 f1fa00, .int .i64 f1fa01, .int .i64 f1fa02]⟩]⟩ ⟨[]⟩))]) : motive vs := by
  unfold con_slices_IndexFunc_Entry_Entry at h
  dsimp only at h
  split at h
  · exact H _ _ _ _ h
  · exact h.elim
theorem h_slices_IndexFunc_Entry_Entry : Holds Try.prog 131 con_slices_IndexFunc_Entry_Entry := by
  refine holds_of_ev (rt := [.c .sc]) (T := TT) (Γ := cs_slices_IndexFunc_Entry_Entry_Entry_collides) (an := an_slices_IndexFunc_Entry_Entry_Entry_collides) (N := 19) (c := Try.f131.body.getD .skip) Try.func131 (by kernel_rfl) Try.ntmps131 (by decide) (by decide) mixed tabOK cok_slices_IndexFunc_Entry_Entry_Entry_collides (by kernel_rfl) ?_
  intro vs kk _ hF
  exact i_slices_IndexFunc_Entry_Entry_Entry_collides (motive := fun vs => Goes (ev TT cs_slices_IndexFunc_Entry_Entry_Entry_collides 19 an_slices_IndexFunc_Entry_Entry_Entry_collides (Try.f131.body.getD .skip) (st0 con_slices_IndexFunc_Entry_Entry vs) (fin TT con_slices_IndexFunc_Entry_Entry Try.f131.results.toList [.c .sc] vs kk))) hF (fun s0 f1fa00 f1fa01 f1fa02 hF => goes_of (e_slices_IndexFunc_Entry_Entry_Entry_collides s0 f1fa00 f1fa01 f1fa02 kk) (F_slices_IndexFunc_Entry_Entry_Entry_collides_S hF))
def con_slices_ContainsFunc_Entry_Entry : Con := ⟨[.rd, .rd], true, [.c (.sl .iii), .c (.fn)], fun vs k => match vs with
    | [.c (.ro .iii s0), .c (.v (.func (.func 122) ⟨[.agg ⟨[.int .i64 f1fa00, .int .i64 f1fa01, .int .i64 f1fa02]⟩]⟩ ⟨[]⟩))] => F_slices_ContainsFunc_Entry_Entry_Entry_collides s0 f1fa00 f1fa01 f1fa02 (fun r0 => k (.one (.c (.v (.bool r0)))) [])
    | _ => False, false⟩
def cl_slices_ContainsFunc_Entry_Entry_Entry_collides : List (FuncId × Con) := [(131, con_slices_IndexFunc_Entry_Entry)]
def an_slices_ContainsFunc_Entry_Entry_Entry_collides : Ann := ⟨[], [], [], []⟩
def cs_slices_ContainsFunc_Entry_Entry_Entry_collides : Cons := ⟨cl_slices_ContainsFunc_Entry_Entry_Entry_collides, [], 0, [], [], []⟩
def fin_slices_ContainsFunc_Entry_Entry_Entry_collides (s0 : List (Int × Int × Int)) (f1fa00 : Int) (f1fa01 : Int) (f1fa02 : Int) (kk : AV → List A1 → Prop) : Kt := fin TT con_slices_ContainsFunc_Entry_Entry Try.f121.results.toList [.c .sc] [.c (.ro .iii s0), .c (.v (.func (.func 122) ⟨[.agg ⟨[.int .i64 f1fa00, .int .i64 f1fa01, .int .i64 f1fa02]⟩]⟩ ⟨[]⟩))] kk
theorem g_slices_ContainsFunc_Entry_Entry_Entry_collides (s0 : List (Int × Int × Int)) (f1fa00 : Int) (f1fa01 : Int) (f1fa02 : Int) (kk : AV → List A1 → Prop) :
    ev TT cs_slices_ContainsFunc_Entry_Entry_Entry_collides 9 an_slices_ContainsFunc_Entry_Entry_Entry_collides (Try.f121.body.getD .skip) (st0 con_slices_ContainsFunc_Entry_Entry [.c (.ro .iii s0), .c (.v (.func (.func 122) ⟨[.agg ⟨[.int .i64 f1fa00, .int .i64 f1fa01, .int .i64 f1fa02]⟩]⟩ ⟨[]⟩))]) (fin TT con_slices_ContainsFunc_Entry_Entry Try.f121.results.toList [.c .sc] [.c (.ro .iii s0), .c (.v (.func (.func 122) ⟨[.agg ⟨[.int .i64 f1fa00, .int .i64 f1fa01, .int .i64 f1fa02]⟩]⟩ ⟨[]⟩))] kk) = G_slices_ContainsFunc_Entry_Entry_Entry_collides s0 f1fa00 f1fa01 f1fa02 (fun r0 => kk (.one (.c (.v (.bool r0)))) []) := by kernel_rfl
theorem e_slices_ContainsFunc_Entry_Entry_Entry_collides (s0 : List (Int × Int × Int)) (f1fa00 : Int) (f1fa01 : Int) (f1fa02 : Int) (kk : AV → List A1 → Prop) :
    ev TT cs_slices_ContainsFunc_Entry_Entry_Entry_collides 9 an_slices_ContainsFunc_Entry_Entry_Entry_collides (Try.f121.body.getD .skip) (st0 con_slices_ContainsFunc_Entry_Entry [.c (.ro .iii s0), .c (.v (.func (.func 122) ⟨[.agg ⟨[.int .i64 f1fa00, .int .i64 f1fa01, .int .i64 f1fa02]⟩]⟩ ⟨[]⟩))]) (fin TT con_slices_ContainsFunc_Entry_Entry Try.f121.results.toList [.c .sc] [.c (.ro .iii s0), .c (.v (.func (.func 122) ⟨[.agg ⟨[.int .i64 f1fa00, .int .i64 f1fa01, .int .i64 f1fa02]⟩]⟩ ⟨[]⟩))] kk) = S_slices_ContainsFunc_Entry_Entry_Entry_collides s0 f1fa00 f1fa01 f1fa02 (fun r0 => kk (.one (.c (.v (.bool r0)))) []) := by
  rw [g_slices_ContainsFunc_Entry_Entry_Entry_collides]
  rfl
theorem clok_slices_ContainsFunc_Entry_Entry_Entry_collides : ConOK Try.prog cl_slices_ContainsFunc_Entry_Entry_Entry_collides := consCons h_slices_IndexFunc_Entry_Entry ⟨Try.f131, Try.func131, by kernel_rfl, ne_of_beq (by kernel_rfl)⟩ (consNil)
theorem cok_slices_ContainsFunc_Entry_Entry_Entry_collides : ConsOK Try.prog 9 cs_slices_ContainsFunc_Entry_Entry_Entry_collides := ⟨clok_slices_ContainsFunc_Entry_Entry_Entry_collides, inlNil, ovNil⟩
theorem i_slices_ContainsFunc_Entry_Entry_Entry_collides {vs : List A1} {kk : AV → List A1 → Prop} {motive : List A1 → Prop} (h : con_slices_ContainsFunc_Entry_Entry.F vs kk) (H : ∀ (s0 : List (Int × Int × Int)) (f1fa00 : Int) (f1fa01 : Int) (f1fa02 : Int), F_slices_ContainsFunc_Entry_Entry_Entry_collides s0 f1fa00 f1fa01 f1fa02 (fun r0 => kk (.one (.c (.v (.bool r0)))) []) → motive [.c (.ro .iii s0), .c (.v (.func (.func 122) ⟨[.agg ⟨[.int .i64 f1fa00, .int .i64 f1fa01, .int .i64 f1fa02]⟩]⟩ ⟨[]⟩))]) : motive vs := by
  unfold con_slices_ContainsFunc_Entry_Entry at h
  dsimp only at h
  split at h
  · exact H _ _ _ _ h
  · exact h.elim
theorem h_slices_ContainsFunc_Entry_Entry : Holds Try.prog 121 con_slices_ContainsFunc_Entry_Entry := by
  refine holds_of_ev (rt := [.c .sc]) (T := TT) (Γ := cs_slices_ContainsFunc_Entry_Entry_Entry_collides) (an := an_slices_ContainsFunc_Entry_Entry_Entry_collides) (N := 9) (c := Try.f121.body.getD .skip) Try.func121 (by kernel_rfl) Try.ntmps121 (by decide) (by decide) mixed tabOK cok_slices_ContainsFunc_Entry_Entry_Entry_collides (by kernel_rfl) ?_
  intro vs kk _ hF
  exact i_slices_ContainsFunc_Entry_Entry_Entry_collides (motive := fun vs => Goes (ev TT cs_slices_ContainsFunc_Entry_Entry_Entry_collides 9 an_slices_ContainsFunc_Entry_Entry_Entry_collides (Try.f121.body.getD .skip) (st0 con_slices_ContainsFunc_Entry_Entry vs) (fin TT con_slices_ContainsFunc_Entry_Entry Try.f121.results.toList [.c .sc] vs kk))) hF (fun s0 f1fa00 f1fa01 f1fa02 hF => goes_of (e_slices_ContainsFunc_Entry_Entry_Entry_collides s0 f1fa00 f1fa01 f1fa02 kk) (F_slices_ContainsFunc_Entry_Entry_Entry_collides_S hF))
def con_impl_ValidEntries : Con := ⟨[.rd, .rd], true, [.c (.sl .iii), .c (.sc)], fun vs k => match vs with
    | [.c (.ro .iii list0), .c (.v (.int .i64 room1))] => F_impl_ValidEntries list0 room1 (fun r0 => k (.one (.c (.v (.bool r0)))) [])
    | _ => False, false⟩
def cl_impl_ValidEntries : List (FuncId × Con) := [(42, con_impl_validRoom), (120, con_impl_validEntry), (121, con_slices_ContainsFunc_Entry_Entry)]
def nm0_impl_ValidEntries : List NStep := [.keep [0, 16, 17, 18] []]
def an_impl_ValidEntries : Ann := ⟨[(6, .take 0 (.alt 1 (.take 2 (.take 3 (.take 4 (.take 5 (.take 6 (.take 7 (.take 8 (.alt 9 (.take 10 (.done)) (.none))))))))) (.none)), [96])], [(4, nm0_impl_ValidEntries)], [], []⟩
def cs_impl_ValidEntries : Cons := ⟨cl_impl_ValidEntries, [], 0, [], [], []⟩
def can0_impl_ValidEntries (list0 : List (Int × Int × Int)) (xt17 : Int) (xt18 : Int) : St := ⟨[(0, .one (.c (.ro .iii list0))), (16, .one (.c (.ro .iii list0))), (17, .one (.c (.v (.int .i64 xt17)))), (18, .one (.c (.v (.int .i64 xt18))))], []⟩
def fin_impl_ValidEntries (list0 : List (Int × Int × Int)) (room1 : Int) (kk : AV → List A1 → Prop) : Kt := fin TT con_impl_ValidEntries Try.f98.results.toList [.c .sc] [.c (.ro .iii list0), .c (.v (.int .i64 room1))] kk
def kt0_impl_ValidEntries (kf : Kt) : Kt := blockK 0 (seqK (evF TT cs_impl_ValidEntries 35 an_impl_ValidEntries Try.f98 [1, 1, 1]) (kf))
theorem r0_impl_ValidEntries (list0 : List (Int × Int × Int)) (room1 : Int) (xt17 : Int) (kk : AV → List A1 → Prop) (n : Nat) (xt18 : Int) :
    iter (evF TT cs_impl_ValidEntries 35 an_impl_ValidEntries Try.f98 [1, 1, 0, 1, 0, 0]) nm0_impl_ValidEntries (kt0_impl_ValidEntries (fin_impl_ValidEntries list0 room1 kk)) (n + 1) (can0_impl_ValidEntries list0 xt17 xt18) = T0_impl_ValidEntries list0 xt17 xt18 (fun r0 => kk (.one (.c (.v (.bool r0)))) []) (fun xt18 => iter (evF TT cs_impl_ValidEntries 35 an_impl_ValidEntries Try.f98 [1, 1, 0, 1, 0, 0]) nm0_impl_ValidEntries (kt0_impl_ValidEntries (fin_impl_ValidEntries list0 room1 kk)) n (can0_impl_ValidEntries list0 xt17 xt18)) := by kernel_rfl
theorem l0_impl_ValidEntries (list0 : List (Int × Int × Int)) (room1 : Int) (xt17 : Int) (kk : AV → List A1 → Prop) : ∀ (n : Nat) (xt18 : Int), iter (evF TT cs_impl_ValidEntries 35 an_impl_ValidEntries Try.f98 [1, 1, 0, 1, 0, 0]) nm0_impl_ValidEntries (kt0_impl_ValidEntries (fin_impl_ValidEntries list0 room1 kk)) n (can0_impl_ValidEntries list0 xt17 xt18) = L0_impl_ValidEntries list0 xt17 (fun r0 => kk (.one (.c (.v (.bool r0)))) []) n xt18 := by
  intro n
  induction n with
  | zero => intros; rfl
  | succ n ih =>
    intro xt18
    rw [r0_impl_ValidEntries list0 room1 xt17 kk n xt18]
    have hb : (fun xt18 => iter (evF TT cs_impl_ValidEntries 35 an_impl_ValidEntries Try.f98 [1, 1, 0, 1, 0, 0]) nm0_impl_ValidEntries (kt0_impl_ValidEntries (fin_impl_ValidEntries list0 room1 kk)) n (can0_impl_ValidEntries list0 xt17 xt18)) = L0_impl_ValidEntries list0 xt17 (fun r0 => kk (.one (.c (.v (.bool r0)))) []) n := by
      funext xt18; exact ih xt18
    rw [hb]
    rw [T0_impl_ValidEntries_eq]
    rfl
theorem g_impl_ValidEntries (list0 : List (Int × Int × Int)) (room1 : Int) (kk : AV → List A1 → Prop) :
    ev TT cs_impl_ValidEntries 35 an_impl_ValidEntries (Try.f98.body.getD .skip) (st0 con_impl_ValidEntries [.c (.ro .iii list0), .c (.v (.int .i64 room1))]) (fin TT con_impl_ValidEntries Try.f98.results.toList [.c .sc] [.c (.ro .iii list0), .c (.v (.int .i64 room1))] kk) = G_impl_ValidEntries list0 room1 (fun r0 => kk (.one (.c (.v (.bool r0)))) []) (fun list0 xt17 xt18 => ∃ j, iter (evF TT cs_impl_ValidEntries 35 an_impl_ValidEntries Try.f98 [1, 1, 0, 1, 0, 0]) nm0_impl_ValidEntries (kt0_impl_ValidEntries (fin_impl_ValidEntries list0 room1 kk)) j (can0_impl_ValidEntries list0 xt17 xt18)) := by kernel_rfl
theorem e_impl_ValidEntries (list0 : List (Int × Int × Int)) (room1 : Int) (kk : AV → List A1 → Prop) :
    ev TT cs_impl_ValidEntries 35 an_impl_ValidEntries (Try.f98.body.getD .skip) (st0 con_impl_ValidEntries [.c (.ro .iii list0), .c (.v (.int .i64 room1))]) (fin TT con_impl_ValidEntries Try.f98.results.toList [.c .sc] [.c (.ro .iii list0), .c (.v (.int .i64 room1))] kk) = S_impl_ValidEntries list0 room1 (fun r0 => kk (.one (.c (.v (.bool r0)))) []) := by
  rw [g_impl_ValidEntries]
  have hi0 : (fun list0 xt17 xt18 => ∃ j, iter (evF TT cs_impl_ValidEntries 35 an_impl_ValidEntries Try.f98 [1, 1, 0, 1, 0, 0]) nm0_impl_ValidEntries (kt0_impl_ValidEntries (fin_impl_ValidEntries list0 room1 kk)) j (can0_impl_ValidEntries list0 xt17 xt18)) = (fun list0 xt17 xt18 => ∃ j, L0_impl_ValidEntries list0 xt17 (fun r0 => kk (.one (.c (.v (.bool r0)))) []) j xt18) := by
    funext list0 xt17 xt18
    refine congrArg Exists (funext fun j => ?_)
    rw [l0_impl_ValidEntries list0 room1 xt17 kk j xt18]
  rw [hi0]
  rfl
theorem clok_impl_ValidEntries : ConOK Try.prog cl_impl_ValidEntries := consCons h_impl_validRoom ⟨Try.f42, Try.func42, by kernel_rfl, ne_of_beq (by kernel_rfl)⟩ (consCons h_impl_validEntry ⟨Try.f120, Try.func120, by kernel_rfl, ne_of_beq (by kernel_rfl)⟩ (consCons h_slices_ContainsFunc_Entry_Entry ⟨Try.f121, Try.func121, by kernel_rfl, ne_of_beq (by kernel_rfl)⟩ (consNil)))
theorem cok_impl_ValidEntries : ConsOK Try.prog 35 cs_impl_ValidEntries := ⟨clok_impl_ValidEntries, inlNil, ovNil⟩
theorem i_impl_ValidEntries {vs : List A1} {kk : AV → List A1 → Prop} {motive : List A1 → Prop} (h : con_impl_ValidEntries.F vs kk) (H : ∀ (list0 : List (Int × Int × Int)) (room1 : Int), F_impl_ValidEntries list0 room1 (fun r0 => kk (.one (.c (.v (.bool r0)))) []) → motive [.c (.ro .iii list0), .c (.v (.int .i64 room1))]) : motive vs := by
  unfold con_impl_ValidEntries at h
  dsimp only at h
  split at h
  · exact H _ _ h
  · exact h.elim
theorem h_impl_ValidEntries : Holds Try.prog 98 con_impl_ValidEntries := by
  refine holds_of_ev (rt := [.c .sc]) (T := TT) (Γ := cs_impl_ValidEntries) (an := an_impl_ValidEntries) (N := 35) (c := Try.f98.body.getD .skip) Try.func98 (by kernel_rfl) Try.ntmps98 (by decide) (by decide) mixed tabOK cok_impl_ValidEntries (by kernel_rfl) ?_
  intro vs kk _ hF
  exact i_impl_ValidEntries (motive := fun vs => Goes (ev TT cs_impl_ValidEntries 35 an_impl_ValidEntries (Try.f98.body.getD .skip) (st0 con_impl_ValidEntries vs) (fin TT con_impl_ValidEntries Try.f98.results.toList [.c .sc] vs kk))) hF (fun list0 room1 hF => goes_of (e_impl_ValidEntries list0 room1 kk) (F_impl_ValidEntries_S hF))
def con_cmp_isNaN_int : Con := ⟨[.rd], true, [.c (.sc)], fun vs k => match vs with
    | [.c (.v (.int .i64 x0))] => F_cmp_isNaN_int x0 (fun r0 => k (.one (.c (.v (.bool r0)))) [])
    | _ => False, false⟩
def cl_cmp_isNaN_int : List (FuncId × Con) := []
def an_cmp_isNaN_int : Ann := ⟨[], [], [], []⟩
def cs_cmp_isNaN_int : Cons := ⟨cl_cmp_isNaN_int, [], 0, [], [], []⟩
def fin_cmp_isNaN_int (x0 : Int) (kk : AV → List A1 → Prop) : Kt := fin TT con_cmp_isNaN_int Try.f132.results.toList [.c .sc] [.c (.v (.int .i64 x0))] kk
theorem g_cmp_isNaN_int (x0 : Int) (kk : AV → List A1 → Prop) :
    ev TT cs_cmp_isNaN_int 6 an_cmp_isNaN_int (Try.f132.body.getD .skip) (st0 con_cmp_isNaN_int [.c (.v (.int .i64 x0))]) (fin TT con_cmp_isNaN_int Try.f132.results.toList [.c .sc] [.c (.v (.int .i64 x0))] kk) = G_cmp_isNaN_int x0 (fun r0 => kk (.one (.c (.v (.bool r0)))) []) := by kernel_rfl
theorem e_cmp_isNaN_int (x0 : Int) (kk : AV → List A1 → Prop) :
    ev TT cs_cmp_isNaN_int 6 an_cmp_isNaN_int (Try.f132.body.getD .skip) (st0 con_cmp_isNaN_int [.c (.v (.int .i64 x0))]) (fin TT con_cmp_isNaN_int Try.f132.results.toList [.c .sc] [.c (.v (.int .i64 x0))] kk) = S_cmp_isNaN_int x0 (fun r0 => kk (.one (.c (.v (.bool r0)))) []) := by
  rw [g_cmp_isNaN_int]
  rfl
theorem clok_cmp_isNaN_int : ConOK Try.prog cl_cmp_isNaN_int := consNil
theorem cok_cmp_isNaN_int : ConsOK Try.prog 6 cs_cmp_isNaN_int := ⟨clok_cmp_isNaN_int, inlNil, ovNil⟩
theorem i_cmp_isNaN_int {vs : List A1} {kk : AV → List A1 → Prop} {motive : List A1 → Prop} (h : con_cmp_isNaN_int.F vs kk) (H : ∀ (x0 : Int), F_cmp_isNaN_int x0 (fun r0 => kk (.one (.c (.v (.bool r0)))) []) → motive [.c (.v (.int .i64 x0))]) : motive vs := by
  unfold con_cmp_isNaN_int at h
  dsimp only at h
  split at h
  · exact H _ h
  · exact h.elim
theorem h_cmp_isNaN_int : Holds Try.prog 132 con_cmp_isNaN_int := by
  refine holds_of_ev (rt := [.c .sc]) (T := TT) (Γ := cs_cmp_isNaN_int) (an := an_cmp_isNaN_int) (N := 6) (c := Try.f132.body.getD .skip) Try.func132 (by kernel_rfl) Try.ntmps132 (by decide) (by decide) mixed tabOK cok_cmp_isNaN_int (by kernel_rfl) ?_
  intro vs kk _ hF
  exact i_cmp_isNaN_int (motive := fun vs => Goes (ev TT cs_cmp_isNaN_int 6 an_cmp_isNaN_int (Try.f132.body.getD .skip) (st0 con_cmp_isNaN_int vs) (fin TT con_cmp_isNaN_int Try.f132.results.toList [.c .sc] vs kk))) hF (fun x0 hF => goes_of (e_cmp_isNaN_int x0 kk) (F_cmp_isNaN_int_S hF))
def con_cmp_Compare_int : Con := ⟨[.rd, .rd], true, [.c (.sc), .c (.sc)], fun vs k => match vs with
    | [.c (.v (.int .i64 x0)), .c (.v (.int .i64 y1))] => F_cmp_Compare_int x0 y1 (fun r0 => k (.one (.c (.v (.int .i64 r0)))) [])
    | _ => False, false⟩
def cl_cmp_Compare_int : List (FuncId × Con) := [(132, con_cmp_isNaN_int)]
def an_cmp_Compare_int : Ann := ⟨[], [], [], []⟩
def cs_cmp_Compare_int : Cons := ⟨cl_cmp_Compare_int, [], 0, [], [], []⟩
def fin_cmp_Compare_int (x0 : Int) (y1 : Int) (kk : AV → List A1 → Prop) : Kt := fin TT con_cmp_Compare_int Try.f126.results.toList [.c .sc] [.c (.v (.int .i64 x0)), .c (.v (.int .i64 y1))] kk
theorem g_cmp_Compare_int (x0 : Int) (y1 : Int) (kk : AV → List A1 → Prop) :
    ev TT cs_cmp_Compare_int 20 an_cmp_Compare_int (Try.f126.body.getD .skip) (st0 con_cmp_Compare_int [.c (.v (.int .i64 x0)), .c (.v (.int .i64 y1))]) (fin TT con_cmp_Compare_int Try.f126.results.toList [.c .sc] [.c (.v (.int .i64 x0)), .c (.v (.int .i64 y1))] kk) = G_cmp_Compare_int x0 y1 (fun r0 => kk (.one (.c (.v (.int .i64 r0)))) []) := by kernel_rfl
theorem e_cmp_Compare_int (x0 : Int) (y1 : Int) (kk : AV → List A1 → Prop) :
    ev TT cs_cmp_Compare_int 20 an_cmp_Compare_int (Try.f126.body.getD .skip) (st0 con_cmp_Compare_int [.c (.v (.int .i64 x0)), .c (.v (.int .i64 y1))]) (fin TT con_cmp_Compare_int Try.f126.results.toList [.c .sc] [.c (.v (.int .i64 x0)), .c (.v (.int .i64 y1))] kk) = S_cmp_Compare_int x0 y1 (fun r0 => kk (.one (.c (.v (.int .i64 r0)))) []) := by
  rw [g_cmp_Compare_int]
  rfl
theorem clok_cmp_Compare_int : ConOK Try.prog cl_cmp_Compare_int := consCons h_cmp_isNaN_int ⟨Try.f132, Try.func132, by kernel_rfl, ne_of_beq (by kernel_rfl)⟩ (consNil)
theorem cok_cmp_Compare_int : ConsOK Try.prog 20 cs_cmp_Compare_int := ⟨clok_cmp_Compare_int, inlNil, ovNil⟩
theorem i_cmp_Compare_int {vs : List A1} {kk : AV → List A1 → Prop} {motive : List A1 → Prop} (h : con_cmp_Compare_int.F vs kk) (H : ∀ (x0 : Int) (y1 : Int), F_cmp_Compare_int x0 y1 (fun r0 => kk (.one (.c (.v (.int .i64 r0)))) []) → motive [.c (.v (.int .i64 x0)), .c (.v (.int .i64 y1))]) : motive vs := by
  unfold con_cmp_Compare_int at h
  dsimp only at h
  split at h
  · exact H _ _ h
  · exact h.elim
theorem h_cmp_Compare_int : Holds Try.prog 126 con_cmp_Compare_int := by
  refine holds_of_ev (rt := [.c .sc]) (T := TT) (Γ := cs_cmp_Compare_int) (an := an_cmp_Compare_int) (N := 20) (c := Try.f126.body.getD .skip) Try.func126 (by kernel_rfl) Try.ntmps126 (by decide) (by decide) mixed tabOK cok_cmp_Compare_int (by kernel_rfl) ?_
  intro vs kk _ hF
  exact i_cmp_Compare_int (motive := fun vs => Goes (ev TT cs_cmp_Compare_int 20 an_cmp_Compare_int (Try.f126.body.getD .skip) (st0 con_cmp_Compare_int vs) (fin TT con_cmp_Compare_int Try.f126.results.toList [.c .sc] vs kk))) hF (fun x0 y1 hF => goes_of (e_cmp_Compare_int x0 y1 kk) (F_cmp_Compare_int_S hF))
def con_cmp_Or_int : Con := ⟨[.rd], true, [.c (.sl .int)], fun vs k => match vs with
    | [.c (.ro .int vals0)] => F_cmp_Or_int vals0 (fun r0 => k (.one (.c (.v (.int .i64 r0)))) [])
    | _ => False, false⟩
def cl_cmp_Or_int : List (FuncId × Con) := []
def nm0_cmp_Or_int : List NStep := [.keep [3, 6, 7, 8] []]
def an_cmp_Or_int : Ann := ⟨[], [(3, nm0_cmp_Or_int)], [], []⟩
def cs_cmp_Or_int : Cons := ⟨cl_cmp_Or_int, [], 0, [], [], []⟩
def can0_cmp_Or_int (vals0 : List Int) (xt7 : Int) (xt8 : Int) : St := ⟨[(3, .one (.c (.v (.int .i64 0)))), (6, .one (.c (.ro .int vals0))), (7, .one (.c (.v (.int .i64 xt7)))), (8, .one (.c (.v (.int .i64 xt8))))], []⟩
def fin_cmp_Or_int (vals0 : List Int) (kk : AV → List A1 → Prop) : Kt := fin TT con_cmp_Or_int Try.f125.results.toList [.c .sc] [.c (.ro .int vals0)] kk
def kt0_cmp_Or_int (kf : Kt) : Kt := blockK 0 (seqK (evF TT cs_cmp_Or_int 18 an_cmp_Or_int Try.f125 [1, 1, 1]) (kf))
theorem r0_cmp_Or_int (vals0 : List Int) (xt7 : Int) (kk : AV → List A1 → Prop) (n : Nat) (xt8 : Int) :
    iter (evF TT cs_cmp_Or_int 18 an_cmp_Or_int Try.f125 [1, 1, 0, 1, 0, 0]) nm0_cmp_Or_int (kt0_cmp_Or_int (fin_cmp_Or_int vals0 kk)) (n + 1) (can0_cmp_Or_int vals0 xt7 xt8) = T0_cmp_Or_int vals0 xt7 xt8 (fun r0 => kk (.one (.c (.v (.int .i64 r0)))) []) (fun xt8 => iter (evF TT cs_cmp_Or_int 18 an_cmp_Or_int Try.f125 [1, 1, 0, 1, 0, 0]) nm0_cmp_Or_int (kt0_cmp_Or_int (fin_cmp_Or_int vals0 kk)) n (can0_cmp_Or_int vals0 xt7 xt8)) := by kernel_rfl
theorem l0_cmp_Or_int (vals0 : List Int) (xt7 : Int) (kk : AV → List A1 → Prop) : ∀ (n : Nat) (xt8 : Int), iter (evF TT cs_cmp_Or_int 18 an_cmp_Or_int Try.f125 [1, 1, 0, 1, 0, 0]) nm0_cmp_Or_int (kt0_cmp_Or_int (fin_cmp_Or_int vals0 kk)) n (can0_cmp_Or_int vals0 xt7 xt8) = L0_cmp_Or_int vals0 xt7 (fun r0 => kk (.one (.c (.v (.int .i64 r0)))) []) n xt8 := by
  intro n
  induction n with
  | zero => intros; rfl
  | succ n ih =>
    intro xt8
    rw [r0_cmp_Or_int vals0 xt7 kk n xt8]
    have hb : (fun xt8 => iter (evF TT cs_cmp_Or_int 18 an_cmp_Or_int Try.f125 [1, 1, 0, 1, 0, 0]) nm0_cmp_Or_int (kt0_cmp_Or_int (fin_cmp_Or_int vals0 kk)) n (can0_cmp_Or_int vals0 xt7 xt8)) = L0_cmp_Or_int vals0 xt7 (fun r0 => kk (.one (.c (.v (.int .i64 r0)))) []) n := by
      funext xt8; exact ih xt8
    rw [hb]
    rfl
theorem g_cmp_Or_int (vals0 : List Int) (kk : AV → List A1 → Prop) :
    ev TT cs_cmp_Or_int 18 an_cmp_Or_int (Try.f125.body.getD .skip) (st0 con_cmp_Or_int [.c (.ro .int vals0)]) (fin TT con_cmp_Or_int Try.f125.results.toList [.c .sc] [.c (.ro .int vals0)] kk) = G_cmp_Or_int vals0 (fun vals0 xt7 xt8 => ∃ j, iter (evF TT cs_cmp_Or_int 18 an_cmp_Or_int Try.f125 [1, 1, 0, 1, 0, 0]) nm0_cmp_Or_int (kt0_cmp_Or_int (fin_cmp_Or_int vals0 kk)) j (can0_cmp_Or_int vals0 xt7 xt8)) := by kernel_rfl
theorem e_cmp_Or_int (vals0 : List Int) (kk : AV → List A1 → Prop) :
    ev TT cs_cmp_Or_int 18 an_cmp_Or_int (Try.f125.body.getD .skip) (st0 con_cmp_Or_int [.c (.ro .int vals0)]) (fin TT con_cmp_Or_int Try.f125.results.toList [.c .sc] [.c (.ro .int vals0)] kk) = S_cmp_Or_int vals0 (fun r0 => kk (.one (.c (.v (.int .i64 r0)))) []) := by
  rw [g_cmp_Or_int]
  have hi0 : (fun vals0 xt7 xt8 => ∃ j, iter (evF TT cs_cmp_Or_int 18 an_cmp_Or_int Try.f125 [1, 1, 0, 1, 0, 0]) nm0_cmp_Or_int (kt0_cmp_Or_int (fin_cmp_Or_int vals0 kk)) j (can0_cmp_Or_int vals0 xt7 xt8)) = (fun vals0 xt7 xt8 => ∃ j, L0_cmp_Or_int vals0 xt7 (fun r0 => kk (.one (.c (.v (.int .i64 r0)))) []) j xt8) := by
    funext vals0 xt7 xt8
    refine congrArg Exists (funext fun j => ?_)
    rw [l0_cmp_Or_int vals0 xt7 kk j xt8]
  rw [hi0]
  rfl
theorem clok_cmp_Or_int : ConOK Try.prog cl_cmp_Or_int := consNil
theorem cok_cmp_Or_int : ConsOK Try.prog 18 cs_cmp_Or_int := ⟨clok_cmp_Or_int, inlNil, ovNil⟩
theorem i_cmp_Or_int {vs : List A1} {kk : AV → List A1 → Prop} {motive : List A1 → Prop} (h : con_cmp_Or_int.F vs kk) (H : ∀ (vals0 : List Int), F_cmp_Or_int vals0 (fun r0 => kk (.one (.c (.v (.int .i64 r0)))) []) → motive [.c (.ro .int vals0)]) : motive vs := by
  unfold con_cmp_Or_int at h
  dsimp only at h
  split at h
  · exact H _ h
  · exact h.elim
theorem h_cmp_Or_int : Holds Try.prog 125 con_cmp_Or_int := by
  refine holds_of_ev (rt := [.c .sc]) (T := TT) (Γ := cs_cmp_Or_int) (an := an_cmp_Or_int) (N := 18) (c := Try.f125.body.getD .skip) Try.func125 (by kernel_rfl) Try.ntmps125 (by decide) (by decide) mixed tabOK cok_cmp_Or_int (by kernel_rfl) ?_
  intro vs kk _ hF
  exact i_cmp_Or_int (motive := fun vs => Goes (ev TT cs_cmp_Or_int 18 an_cmp_Or_int (Try.f125.body.getD .skip) (st0 con_cmp_Or_int vs) (fin TT con_cmp_Or_int Try.f125.results.toList [.c .sc] vs kk))) hF (fun vals0 hF => goes_of (e_cmp_Or_int vals0 kk) (F_cmp_Or_int_S hF))
def con_impl_rarestEntry_1 : Con := ⟨[.rd, .rd], true, [.agg [.sc, .sc, .sc], .agg [.sc, .sc, .sc]], fun vs k => match vs with
    | [.agg [.v (.int .i64 a0Key), .v (.int .i64 a0Count), .v (.int .i64 a0Last)], .agg [.v (.int .i64 b1Key), .v (.int .i64 b1Count), .v (.int .i64 b1Last)]] => F_impl_rarestEntry_1 a0Key a0Count a0Last b1Key b1Count b1Last (fun r0 => k (.one (.c (.v (.int .i64 r0)))) [])
    | _ => False, false⟩
def cl_impl_rarestEntry_1 : List (FuncId × Con) := [(125, con_cmp_Or_int), (126, con_cmp_Compare_int)]
def an_impl_rarestEntry_1 : Ann := ⟨[(1, .take 0 (.take 1 (.take 2 (.take 3 (.take 5 (.take 6 (.take 7 (.take 8 (.alt 4 (.alt 9 (.alt 10 (.alt 11 (.take 12 (.done)) (.none)) (.none)) (.none)) (.none))))))))), [32, 48])], [], [], []⟩
def cs_impl_rarestEntry_1 : Cons := ⟨cl_impl_rarestEntry_1, [], 0, [], [], []⟩
def fin_impl_rarestEntry_1 (a0Key : Int) (a0Count : Int) (a0Last : Int) (b1Key : Int) (b1Count : Int) (b1Last : Int) (kk : AV → List A1 → Prop) : Kt := fin TT con_impl_rarestEntry_1 Try.f124.results.toList [.c .sc] [.agg [.v (.int .i64 a0Key), .v (.int .i64 a0Count), .v (.int .i64 a0Last)], .agg [.v (.int .i64 b1Key), .v (.int .i64 b1Count), .v (.int .i64 b1Last)]] kk
theorem g_impl_rarestEntry_1 (a0Key : Int) (a0Count : Int) (a0Last : Int) (b1Key : Int) (b1Count : Int) (b1Last : Int) (kk : AV → List A1 → Prop) :
    ev TT cs_impl_rarestEntry_1 17 an_impl_rarestEntry_1 (Try.f124.body.getD .skip) (st0 con_impl_rarestEntry_1 [.agg [.v (.int .i64 a0Key), .v (.int .i64 a0Count), .v (.int .i64 a0Last)], .agg [.v (.int .i64 b1Key), .v (.int .i64 b1Count), .v (.int .i64 b1Last)]]) (fin TT con_impl_rarestEntry_1 Try.f124.results.toList [.c .sc] [.agg [.v (.int .i64 a0Key), .v (.int .i64 a0Count), .v (.int .i64 a0Last)], .agg [.v (.int .i64 b1Key), .v (.int .i64 b1Count), .v (.int .i64 b1Last)]] kk) = G_impl_rarestEntry_1 a0Key a0Count a0Last b1Key b1Count b1Last (fun r0 => kk (.one (.c (.v (.int .i64 r0)))) []) := by kernel_rfl
theorem e_impl_rarestEntry_1 (a0Key : Int) (a0Count : Int) (a0Last : Int) (b1Key : Int) (b1Count : Int) (b1Last : Int) (kk : AV → List A1 → Prop) :
    ev TT cs_impl_rarestEntry_1 17 an_impl_rarestEntry_1 (Try.f124.body.getD .skip) (st0 con_impl_rarestEntry_1 [.agg [.v (.int .i64 a0Key), .v (.int .i64 a0Count), .v (.int .i64 a0Last)], .agg [.v (.int .i64 b1Key), .v (.int .i64 b1Count), .v (.int .i64 b1Last)]]) (fin TT con_impl_rarestEntry_1 Try.f124.results.toList [.c .sc] [.agg [.v (.int .i64 a0Key), .v (.int .i64 a0Count), .v (.int .i64 a0Last)], .agg [.v (.int .i64 b1Key), .v (.int .i64 b1Count), .v (.int .i64 b1Last)]] kk) = S_impl_rarestEntry_1 a0Key a0Count a0Last b1Key b1Count b1Last (fun r0 => kk (.one (.c (.v (.int .i64 r0)))) []) := by
  rw [g_impl_rarestEntry_1]
  rw [G_impl_rarestEntry_1_eq]
  rfl
theorem clok_impl_rarestEntry_1 : ConOK Try.prog cl_impl_rarestEntry_1 := consCons h_cmp_Or_int ⟨Try.f125, Try.func125, by kernel_rfl, ne_of_beq (by kernel_rfl)⟩ (consCons h_cmp_Compare_int ⟨Try.f126, Try.func126, by kernel_rfl, ne_of_beq (by kernel_rfl)⟩ (consNil))
theorem cok_impl_rarestEntry_1 : ConsOK Try.prog 17 cs_impl_rarestEntry_1 := ⟨clok_impl_rarestEntry_1, inlNil, ovNil⟩
theorem i_impl_rarestEntry_1 {vs : List A1} {kk : AV → List A1 → Prop} {motive : List A1 → Prop} (h : con_impl_rarestEntry_1.F vs kk) (H : ∀ (a0Key : Int) (a0Count : Int) (a0Last : Int) (b1Key : Int) (b1Count : Int) (b1Last : Int), F_impl_rarestEntry_1 a0Key a0Count a0Last b1Key b1Count b1Last (fun r0 => kk (.one (.c (.v (.int .i64 r0)))) []) → motive [.agg [.v (.int .i64 a0Key), .v (.int .i64 a0Count), .v (.int .i64 a0Last)], .agg [.v (.int .i64 b1Key), .v (.int .i64 b1Count), .v (.int .i64 b1Last)]]) : motive vs := by
  unfold con_impl_rarestEntry_1 at h
  dsimp only at h
  split at h
  · exact H _ _ _ _ _ _ h
  · exact h.elim
theorem h_impl_rarestEntry_1 : Holds Try.prog 124 con_impl_rarestEntry_1 := by
  refine holds_of_ev (rt := [.c .sc]) (T := TT) (Γ := cs_impl_rarestEntry_1) (an := an_impl_rarestEntry_1) (N := 17) (c := Try.f124.body.getD .skip) Try.func124 (by kernel_rfl) Try.ntmps124 (by decide) (by decide) mixed tabOK cok_impl_rarestEntry_1 (by kernel_rfl) ?_
  intro vs kk _ hF
  exact i_impl_rarestEntry_1 (motive := fun vs => Goes (ev TT cs_impl_rarestEntry_1 17 an_impl_rarestEntry_1 (Try.f124.body.getD .skip) (st0 con_impl_rarestEntry_1 vs) (fin TT con_impl_rarestEntry_1 Try.f124.results.toList [.c .sc] vs kk))) hF (fun a0Key a0Count a0Last b1Key b1Count b1Last hF => goes_of (e_impl_rarestEntry_1 a0Key a0Count a0Last b1Key b1Count b1Last kk) (F_impl_rarestEntry_1_S hF))
def con_slices_MinFunc_Entry_Entry : Con := ⟨[.rd, .rd], true, [.c (.sl .iii), .c (.fn)], fun vs k => match vs with
    | [.c (.ro .iii x0), .c (.v (.func (.func 124) ⟨[]⟩ ⟨[]⟩))] => F_slices_MinFunc_Entry_Entry_rarestEntry_1 x0 (fun r0 r1 r2 => k (.one (.agg [.v (.int .i64 r0), .v (.int .i64 r1), .v (.int .i64 r2)])) [])
    | _ => False, false⟩
def cl_slices_MinFunc_Entry_Entry_rarestEntry_1 : List (FuncId × Con) := [(124, con_impl_rarestEntry_1)]
def nm0_slices_MinFunc_Entry_Entry_rarestEntry_1 : List NStep := [.keep [0, 1, 4, 5, 6] [64, 80]]
def an_slices_MinFunc_Entry_Entry_rarestEntry_1 : Ann := ⟨[(7, .take 0 (.take 1 (.take 2 (.take 3 (.take 4 (.take 5 (.alt 6 (.take 7 (.done)) (.none))))))), [80])], [(5, nm0_slices_MinFunc_Entry_Entry_rarestEntry_1)], [], []⟩
def cs_slices_MinFunc_Entry_Entry_rarestEntry_1 : Cons := ⟨cl_slices_MinFunc_Entry_Entry_rarestEntry_1, [], 0, [], [], []⟩
def can0_slices_MinFunc_Entry_Entry_rarestEntry_1 (x0 : List (Int × Int × Int)) (xi6 : Int) (xb5c0 : Int) (xb5c1 : Int) (xb5c2 : Int) : St := ⟨[(0, .one (.c (.ro .iii x0))), (1, .one (.c (.v (.func (.func 124) ⟨[]⟩ ⟨[]⟩)))), (4, .one (.c (.pb 64 0))), (5, .one (.c (.pb 80 0))), (6, .one (.c (.v (.int .i64 xi6))))], [(64, .box [.v (.int .i64 0), .v (.int .i64 0), .v (.int .i64 0)]), (80, .box [.v (.int .i64 xb5c0), .v (.int .i64 xb5c1), .v (.int .i64 xb5c2)])]⟩
def fin_slices_MinFunc_Entry_Entry_rarestEntry_1 (x0 : List (Int × Int × Int)) (kk : AV → List A1 → Prop) : Kt := fin TT con_slices_MinFunc_Entry_Entry Try.f123.results.toList [.agg [.sc, .sc, .sc]] [.c (.ro .iii x0), .c (.v (.func (.func 124) ⟨[]⟩ ⟨[]⟩))] kk
def kt0_slices_MinFunc_Entry_Entry_rarestEntry_1 (kf : Kt) : Kt := blockK 0 (seqK (evF TT cs_slices_MinFunc_Entry_Entry_rarestEntry_1 33 an_slices_MinFunc_Entry_Entry_rarestEntry_1 Try.f123 [1, 1, 1, 1]) (kf))
theorem r0_slices_MinFunc_Entry_Entry_rarestEntry_1 (x0 : List (Int × Int × Int)) (kk : AV → List A1 → Prop) (n : Nat) (xi6 : Int) (xb5c0 : Int) (xb5c1 : Int) (xb5c2 : Int) :
    iter (evF TT cs_slices_MinFunc_Entry_Entry_rarestEntry_1 33 an_slices_MinFunc_Entry_Entry_rarestEntry_1 Try.f123 [1, 1, 1, 0, 1, 0, 0]) nm0_slices_MinFunc_Entry_Entry_rarestEntry_1 (kt0_slices_MinFunc_Entry_Entry_rarestEntry_1 (fin_slices_MinFunc_Entry_Entry_rarestEntry_1 x0 kk)) (n + 1) (can0_slices_MinFunc_Entry_Entry_rarestEntry_1 x0 xi6 xb5c0 xb5c1 xb5c2) = T0_slices_MinFunc_Entry_Entry_rarestEntry_1 x0 xi6 xb5c0 xb5c1 xb5c2 (fun r0 r1 r2 => kk (.one (.agg [.v (.int .i64 r0), .v (.int .i64 r1), .v (.int .i64 r2)])) []) (fun xi6 xb5c0 xb5c1 xb5c2 => iter (evF TT cs_slices_MinFunc_Entry_Entry_rarestEntry_1 33 an_slices_MinFunc_Entry_Entry_rarestEntry_1 Try.f123 [1, 1, 1, 0, 1, 0, 0]) nm0_slices_MinFunc_Entry_Entry_rarestEntry_1 (kt0_slices_MinFunc_Entry_Entry_rarestEntry_1 (fin_slices_MinFunc_Entry_Entry_rarestEntry_1 x0 kk)) n (can0_slices_MinFunc_Entry_Entry_rarestEntry_1 x0 xi6 xb5c0 xb5c1 xb5c2)) := by kernel_rfl
theorem l0_slices_MinFunc_Entry_Entry_rarestEntry_1 (x0 : List (Int × Int × Int)) (kk : AV → List A1 → Prop) : ∀ (n : Nat) (xi6 : Int) (xb5c0 : Int) (xb5c1 : Int) (xb5c2 : Int), iter (evF TT cs_slices_MinFunc_Entry_Entry_rarestEntry_1 33 an_slices_MinFunc_Entry_Entry_rarestEntry_1 Try.f123 [1, 1, 1, 0, 1, 0, 0]) nm0_slices_MinFunc_Entry_Entry_rarestEntry_1 (kt0_slices_MinFunc_Entry_Entry_rarestEntry_1 (fin_slices_MinFunc_Entry_Entry_rarestEntry_1 x0 kk)) n (can0_slices_MinFunc_Entry_Entry_rarestEntry_1 x0 xi6 xb5c0 xb5c1 xb5c2) = L0_slices_MinFunc_Entry_Entry_rarestEntry_1 x0 (fun r0 r1 r2 => kk (.one (.agg [.v (.int .i64 r0), .v (.int .i64 r1), .v (.int .i64 r2)])) []) n xi6 xb5c0 xb5c1 xb5c2 := by
  intro n
  induction n with
  | zero => intros; rfl
  | succ n ih =>
    intro xi6 xb5c0 xb5c1 xb5c2
    rw [r0_slices_MinFunc_Entry_Entry_rarestEntry_1 x0 kk n xi6 xb5c0 xb5c1 xb5c2]
    have hb : (fun xi6 xb5c0 xb5c1 xb5c2 => iter (evF TT cs_slices_MinFunc_Entry_Entry_rarestEntry_1 33 an_slices_MinFunc_Entry_Entry_rarestEntry_1 Try.f123 [1, 1, 1, 0, 1, 0, 0]) nm0_slices_MinFunc_Entry_Entry_rarestEntry_1 (kt0_slices_MinFunc_Entry_Entry_rarestEntry_1 (fin_slices_MinFunc_Entry_Entry_rarestEntry_1 x0 kk)) n (can0_slices_MinFunc_Entry_Entry_rarestEntry_1 x0 xi6 xb5c0 xb5c1 xb5c2)) = L0_slices_MinFunc_Entry_Entry_rarestEntry_1 x0 (fun r0 r1 r2 => kk (.one (.agg [.v (.int .i64 r0), .v (.int .i64 r1), .v (.int .i64 r2)])) []) n := by
      funext xi6 xb5c0 xb5c1 xb5c2; exact ih xi6 xb5c0 xb5c1 xb5c2
    rw [hb]
    rw [T0_slices_MinFunc_Entry_Entry_rarestEntry_1_eq]
    rfl
theorem g_slices_MinFunc_Entry_Entry_rarestEntry_1 (x0 : List (Int × Int × Int)) (kk : AV → List A1 → Prop) :
    ev TT cs_slices_MinFunc_Entry_Entry_rarestEntry_1 33 an_slices_MinFunc_Entry_Entry_rarestEntry_1 (Try.f123.body.getD .skip) (st0 con_slices_MinFunc_Entry_Entry [.c (.ro .iii x0), .c (.v (.func (.func 124) ⟨[]⟩ ⟨[]⟩))]) (fin TT con_slices_MinFunc_Entry_Entry Try.f123.results.toList [.agg [.sc, .sc, .sc]] [.c (.ro .iii x0), .c (.v (.func (.func 124) ⟨[]⟩ ⟨[]⟩))] kk) = G_slices_MinFunc_Entry_Entry_rarestEntry_1 x0 (fun x0 xi6 xb5c0 xb5c1 xb5c2 => ∃ j, iter (evF TT cs_slices_MinFunc_Entry_Entry_rarestEntry_1 33 an_slices_MinFunc_Entry_Entry_rarestEntry_1 Try.f123 [1, 1, 1, 0, 1, 0, 0]) nm0_slices_MinFunc_Entry_Entry_rarestEntry_1 (kt0_slices_MinFunc_Entry_Entry_rarestEntry_1 (fin_slices_MinFunc_Entry_Entry_rarestEntry_1 x0 kk)) j (can0_slices_MinFunc_Entry_Entry_rarestEntry_1 x0 xi6 xb5c0 xb5c1 xb5c2)) := by kernel_rfl
theorem e_slices_MinFunc_Entry_Entry_rarestEntry_1 (x0 : List (Int × Int × Int)) (kk : AV → List A1 → Prop) :
    ev TT cs_slices_MinFunc_Entry_Entry_rarestEntry_1 33 an_slices_MinFunc_Entry_Entry_rarestEntry_1 (Try.f123.body.getD .skip) (st0 con_slices_MinFunc_Entry_Entry [.c (.ro .iii x0), .c (.v (.func (.func 124) ⟨[]⟩ ⟨[]⟩))]) (fin TT con_slices_MinFunc_Entry_Entry Try.f123.results.toList [.agg [.sc, .sc, .sc]] [.c (.ro .iii x0), .c (.v (.func (.func 124) ⟨[]⟩ ⟨[]⟩))] kk) = S_slices_MinFunc_Entry_Entry_rarestEntry_1 x0 (fun r0 r1 r2 => kk (.one (.agg [.v (.int .i64 r0), .v (.int .i64 r1), .v (.int .i64 r2)])) []) := by
  rw [g_slices_MinFunc_Entry_Entry_rarestEntry_1]
  have hi0 : (fun x0 xi6 xb5c0 xb5c1 xb5c2 => ∃ j, iter (evF TT cs_slices_MinFunc_Entry_Entry_rarestEntry_1 33 an_slices_MinFunc_Entry_Entry_rarestEntry_1 Try.f123 [1, 1, 1, 0, 1, 0, 0]) nm0_slices_MinFunc_Entry_Entry_rarestEntry_1 (kt0_slices_MinFunc_Entry_Entry_rarestEntry_1 (fin_slices_MinFunc_Entry_Entry_rarestEntry_1 x0 kk)) j (can0_slices_MinFunc_Entry_Entry_rarestEntry_1 x0 xi6 xb5c0 xb5c1 xb5c2)) = (fun x0 xi6 xb5c0 xb5c1 xb5c2 => ∃ j, L0_slices_MinFunc_Entry_Entry_rarestEntry_1 x0 (fun r0 r1 r2 => kk (.one (.agg [.v (.int .i64 r0), .v (.int .i64 r1), .v (.int .i64 r2)])) []) j xi6 xb5c0 xb5c1 xb5c2) := by
    funext x0 xi6 xb5c0 xb5c1 xb5c2
    refine congrArg Exists (funext fun j => ?_)
    rw [l0_slices_MinFunc_Entry_Entry_rarestEntry_1 x0 kk j xi6 xb5c0 xb5c1 xb5c2]
  rw [hi0]
  rfl
theorem clok_slices_MinFunc_Entry_Entry_rarestEntry_1 : ConOK Try.prog cl_slices_MinFunc_Entry_Entry_rarestEntry_1 := consCons h_impl_rarestEntry_1 ⟨Try.f124, Try.func124, by kernel_rfl, ne_of_beq (by kernel_rfl)⟩ (consNil)
theorem cok_slices_MinFunc_Entry_Entry_rarestEntry_1 : ConsOK Try.prog 33 cs_slices_MinFunc_Entry_Entry_rarestEntry_1 := ⟨clok_slices_MinFunc_Entry_Entry_rarestEntry_1, inlNil, ovNil⟩
theorem i_slices_MinFunc_Entry_Entry_rarestEntry_1 {vs : List A1} {kk : AV → List A1 → Prop} {motive : List A1 → Prop} (h : con_slices_MinFunc_Entry_Entry.F vs kk) (H : ∀ (x0 : List (Int × Int × Int)), F_slices_MinFunc_Entry_Entry_rarestEntry_1 x0 (fun r0 r1 r2 => kk (.one (.agg [.v (.int .i64 r0), .v (.int .i64 r1), .v (.int .i64 r2)])) []) → motive [.c (.ro .iii x0), .c (.v (.func (.func 124) ⟨[]⟩ ⟨[]⟩))]) : motive vs := by
  unfold con_slices_MinFunc_Entry_Entry at h
  dsimp only at h
  split at h
  · exact H _ h
  · exact h.elim
theorem h_slices_MinFunc_Entry_Entry : Holds Try.prog 123 con_slices_MinFunc_Entry_Entry := by
  refine holds_of_ev (rt := [.agg [.sc, .sc, .sc]]) (T := TT) (Γ := cs_slices_MinFunc_Entry_Entry_rarestEntry_1) (an := an_slices_MinFunc_Entry_Entry_rarestEntry_1) (N := 33) (c := Try.f123.body.getD .skip) Try.func123 (by kernel_rfl) Try.ntmps123 (by decide) (by decide) mixed tabOK cok_slices_MinFunc_Entry_Entry_rarestEntry_1 (by kernel_rfl) ?_
  intro vs kk _ hF
  exact i_slices_MinFunc_Entry_Entry_rarestEntry_1 (motive := fun vs => Goes (ev TT cs_slices_MinFunc_Entry_Entry_rarestEntry_1 33 an_slices_MinFunc_Entry_Entry_rarestEntry_1 (Try.f123.body.getD .skip) (st0 con_slices_MinFunc_Entry_Entry vs) (fin TT con_slices_MinFunc_Entry_Entry Try.f123.results.toList [.agg [.sc, .sc, .sc]] vs kk))) hF (fun x0 hF => goes_of (e_slices_MinFunc_Entry_Entry_rarestEntry_1 x0 kk) (F_slices_MinFunc_Entry_Entry_rarestEntry_1_S hF))
def con_impl_rarestEntry : Con := ⟨[.rd], true, [.c (.sl .iii)], fun vs k => match vs with
    | [.c (.ro .iii list0)] => F_impl_rarestEntry list0 (fun r0 r1 r2 => k (.one (.agg [.v (.int .i64 r0), .v (.int .i64 r1), .v (.int .i64 r2)])) [])
    | _ => False, false⟩
def cl_impl_rarestEntry : List (FuncId × Con) := [(123, con_slices_MinFunc_Entry_Entry)]
def an_impl_rarestEntry : Ann := ⟨[], [], [], []⟩
def cs_impl_rarestEntry : Cons := ⟨cl_impl_rarestEntry, [], 0, [], [], []⟩
def fin_impl_rarestEntry (list0 : List (Int × Int × Int)) (kk : AV → List A1 → Prop) : Kt := fin TT con_impl_rarestEntry Try.f101.results.toList [.agg [.sc, .sc, .sc]] [.c (.ro .iii list0)] kk
theorem g_impl_rarestEntry (list0 : List (Int × Int × Int)) (kk : AV → List A1 → Prop) :
    ev TT cs_impl_rarestEntry 5 an_impl_rarestEntry (Try.f101.body.getD .skip) (st0 con_impl_rarestEntry [.c (.ro .iii list0)]) (fin TT con_impl_rarestEntry Try.f101.results.toList [.agg [.sc, .sc, .sc]] [.c (.ro .iii list0)] kk) = G_impl_rarestEntry list0 (fun r0 r1 r2 => kk (.one (.agg [.v (.int .i64 r0), .v (.int .i64 r1), .v (.int .i64 r2)])) []) := by kernel_rfl
theorem e_impl_rarestEntry (list0 : List (Int × Int × Int)) (kk : AV → List A1 → Prop) :
    ev TT cs_impl_rarestEntry 5 an_impl_rarestEntry (Try.f101.body.getD .skip) (st0 con_impl_rarestEntry [.c (.ro .iii list0)]) (fin TT con_impl_rarestEntry Try.f101.results.toList [.agg [.sc, .sc, .sc]] [.c (.ro .iii list0)] kk) = S_impl_rarestEntry list0 (fun r0 r1 r2 => kk (.one (.agg [.v (.int .i64 r0), .v (.int .i64 r1), .v (.int .i64 r2)])) []) := by
  rw [g_impl_rarestEntry]
  rfl
theorem clok_impl_rarestEntry : ConOK Try.prog cl_impl_rarestEntry := consCons h_slices_MinFunc_Entry_Entry ⟨Try.f123, Try.func123, by kernel_rfl, ne_of_beq (by kernel_rfl)⟩ (consNil)
theorem cok_impl_rarestEntry : ConsOK Try.prog 5 cs_impl_rarestEntry := ⟨clok_impl_rarestEntry, inlNil, ovNil⟩
theorem i_impl_rarestEntry {vs : List A1} {kk : AV → List A1 → Prop} {motive : List A1 → Prop} (h : con_impl_rarestEntry.F vs kk) (H : ∀ (list0 : List (Int × Int × Int)), F_impl_rarestEntry list0 (fun r0 r1 r2 => kk (.one (.agg [.v (.int .i64 r0), .v (.int .i64 r1), .v (.int .i64 r2)])) []) → motive [.c (.ro .iii list0)]) : motive vs := by
  unfold con_impl_rarestEntry at h
  dsimp only at h
  split at h
  · exact H _ h
  · exact h.elim
theorem h_impl_rarestEntry : Holds Try.prog 101 con_impl_rarestEntry := by
  refine holds_of_ev (rt := [.agg [.sc, .sc, .sc]]) (T := TT) (Γ := cs_impl_rarestEntry) (an := an_impl_rarestEntry) (N := 5) (c := Try.f101.body.getD .skip) Try.func101 (by kernel_rfl) Try.ntmps101 (by decide) (by decide) mixed tabOK cok_impl_rarestEntry (by kernel_rfl) ?_
  intro vs kk _ hF
  exact i_impl_rarestEntry (motive := fun vs => Goes (ev TT cs_impl_rarestEntry 5 an_impl_rarestEntry (Try.f101.body.getD .skip) (st0 con_impl_rarestEntry vs) (fin TT con_impl_rarestEntry Try.f101.results.toList [.agg [.sc, .sc, .sc]] vs kk))) hF (fun list0 hF => goes_of (e_impl_rarestEntry list0 kk) (F_impl_rarestEntry_S hF))
def con_slices_Index_Entry_Entry : Con := ⟨[.rd, .rd], true, [.c (.sl .iii), .agg [.sc, .sc, .sc]], fun vs k => match vs with
    | [.c (.ro .iii s0), .agg [.v (.int .i64 v1Key), .v (.int .i64 v1Count), .v (.int .i64 v1Last)]] => F_slices_Index_Entry_Entry s0 v1Key v1Count v1Last (fun r0 => k (.one (.c (.v (.int .i64 r0)))) [])
    | _ => False, false⟩
def cl_slices_Index_Entry_Entry : List (FuncId × Con) := []
def nm0_slices_Index_Entry_Entry : List NStep := [.keep [0, 3, 7, 8] [48]]
def an_slices_Index_Entry_Entry : Ann := ⟨[(4, .take 0 (.take 1 (.take 2 (.take 3 (.take 4 (.take 5 (.done)))))), [48])], [(2, nm0_slices_Index_Entry_Entry)], [], []⟩
def cs_slices_Index_Entry_Entry : Cons := ⟨cl_slices_Index_Entry_Entry, [], 0, [], [], []⟩
def can0_slices_Index_Entry_Entry (s0 : List (Int × Int × Int)) (v1Count : Int) (v1Key : Int) (v1Last : Int) (xt7 : Int) (xt8 : Int) : St := ⟨[(0, .one (.c (.ro .iii s0))), (3, .one (.c (.pb 48 0))), (7, .one (.c (.v (.int .i64 xt7)))), (8, .one (.c (.v (.int .i64 xt8))))], [(48, .box [.v (.int .i64 v1Key), .v (.int .i64 v1Count), .v (.int .i64 v1Last)])]⟩
def fin_slices_Index_Entry_Entry (s0 : List (Int × Int × Int)) (v1Key : Int) (v1Count : Int) (v1Last : Int) (kk : AV → List A1 → Prop) : Kt := fin TT con_slices_Index_Entry_Entry Try.f100.results.toList [.c .sc] [.c (.ro .iii s0), .agg [.v (.int .i64 v1Key), .v (.int .i64 v1Count), .v (.int .i64 v1Last)]] kk
def kt0_slices_Index_Entry_Entry (kf : Kt) : Kt := blockK 0 (seqK (evF TT cs_slices_Index_Entry_Entry 19 an_slices_Index_Entry_Entry Try.f100 [1, 1]) (kf))
theorem r0_slices_Index_Entry_Entry (s0 : List (Int × Int × Int)) (v1Key : Int) (v1Count : Int) (v1Last : Int) (xt7 : Int) (kk : AV → List A1 → Prop) (n : Nat) (xt8 : Int) :
    iter (evF TT cs_slices_Index_Entry_Entry 19 an_slices_Index_Entry_Entry Try.f100 [1, 0, 1, 0, 0]) nm0_slices_Index_Entry_Entry (kt0_slices_Index_Entry_Entry (fin_slices_Index_Entry_Entry s0 v1Key v1Count v1Last kk)) (n + 1) (can0_slices_Index_Entry_Entry s0 v1Count v1Key v1Last xt7 xt8) = T0_slices_Index_Entry_Entry s0 v1Count v1Key v1Last xt7 xt8 (fun r0 => kk (.one (.c (.v (.int .i64 r0)))) []) (fun xt8 => iter (evF TT cs_slices_Index_Entry_Entry 19 an_slices_Index_Entry_Entry Try.f100 [1, 0, 1, 0, 0]) nm0_slices_Index_Entry_Entry (kt0_slices_Index_Entry_Entry (fin_slices_Index_Entry_Entry s0 v1Key v1Count v1Last kk)) n (can0_slices_Index_Entry_Entry s0 v1Count v1Key v1Last xt7 xt8)) := by kernel_rfl
theorem l0_slices_Index_Entry_Entry (s0 : List (Int × Int × Int)) (v1Key : Int) (v1Count : Int) (v1Last : Int) (xt7 : Int) (kk : AV → List A1 → Prop) : ∀ (n : Nat) (xt8 : Int), iter (evF TT cs_slices_Index_Entry_Entry 19 an_slices_Index_Entry_Entry Try.f100 [1, 0, 1, 0, 0]) nm0_slices_Index_Entry_Entry (kt0_slices_Index_Entry_Entry (fin_slices_Index_Entry_Entry s0 v1Key v1Count v1Last kk)) n (can0_slices_Index_Entry_Entry s0 v1Count v1Key v1Last xt7 xt8) = L0_slices_Index_Entry_Entry s0 v1Count v1Key v1Last xt7 (fun r0 => kk (.one (.c (.v (.int .i64 r0)))) []) n xt8 := by
  intro n
  induction n with
  | zero => intros; rfl
  | succ n ih =>
    intro xt8
    rw [r0_slices_Index_Entry_Entry s0 v1Key v1Count v1Last xt7 kk n xt8]
    have hb : (fun xt8 => iter (evF TT cs_slices_Index_Entry_Entry 19 an_slices_Index_Entry_Entry Try.f100 [1, 0, 1, 0, 0]) nm0_slices_Index_Entry_Entry (kt0_slices_Index_Entry_Entry (fin_slices_Index_Entry_Entry s0 v1Key v1Count v1Last kk)) n (can0_slices_Index_Entry_Entry s0 v1Count v1Key v1Last xt7 xt8)) = L0_slices_Index_Entry_Entry s0 v1Count v1Key v1Last xt7 (fun r0 => kk (.one (.c (.v (.int .i64 r0)))) []) n := by
      funext xt8; exact ih xt8
    rw [hb]
    rfl
theorem g_slices_Index_Entry_Entry (s0 : List (Int × Int × Int)) (v1Key : Int) (v1Count : Int) (v1Last : Int) (kk : AV → List A1 → Prop) :
    ev TT cs_slices_Index_Entry_Entry 19 an_slices_Index_Entry_Entry (Try.f100.body.getD .skip) (st0 con_slices_Index_Entry_Entry [.c (.ro .iii s0), .agg [.v (.int .i64 v1Key), .v (.int .i64 v1Count), .v (.int .i64 v1Last)]]) (fin TT con_slices_Index_Entry_Entry Try.f100.results.toList [.c .sc] [.c (.ro .iii s0), .agg [.v (.int .i64 v1Key), .v (.int .i64 v1Count), .v (.int .i64 v1Last)]] kk) = G_slices_Index_Entry_Entry s0 v1Key v1Count v1Last (fun s0 v1Count v1Key v1Last xt7 xt8 => ∃ j, iter (evF TT cs_slices_Index_Entry_Entry 19 an_slices_Index_Entry_Entry Try.f100 [1, 0, 1, 0, 0]) nm0_slices_Index_Entry_Entry (kt0_slices_Index_Entry_Entry (fin_slices_Index_Entry_Entry s0 v1Key v1Count v1Last kk)) j (can0_slices_Index_Entry_Entry s0 v1Count v1Key v1Last xt7 xt8)) := by kernel_rfl
theorem e_slices_Index_Entry_Entry (s0 : List (Int × Int × Int)) (v1Key : Int) (v1Count : Int) (v1Last : Int) (kk : AV → List A1 → Prop) :
    ev TT cs_slices_Index_Entry_Entry 19 an_slices_Index_Entry_Entry (Try.f100.body.getD .skip) (st0 con_slices_Index_Entry_Entry [.c (.ro .iii s0), .agg [.v (.int .i64 v1Key), .v (.int .i64 v1Count), .v (.int .i64 v1Last)]]) (fin TT con_slices_Index_Entry_Entry Try.f100.results.toList [.c .sc] [.c (.ro .iii s0), .agg [.v (.int .i64 v1Key), .v (.int .i64 v1Count), .v (.int .i64 v1Last)]] kk) = S_slices_Index_Entry_Entry s0 v1Key v1Count v1Last (fun r0 => kk (.one (.c (.v (.int .i64 r0)))) []) := by
  rw [g_slices_Index_Entry_Entry]
  have hi0 : (fun s0 v1Count v1Key v1Last xt7 xt8 => ∃ j, iter (evF TT cs_slices_Index_Entry_Entry 19 an_slices_Index_Entry_Entry Try.f100 [1, 0, 1, 0, 0]) nm0_slices_Index_Entry_Entry (kt0_slices_Index_Entry_Entry (fin_slices_Index_Entry_Entry s0 v1Key v1Count v1Last kk)) j (can0_slices_Index_Entry_Entry s0 v1Count v1Key v1Last xt7 xt8)) = (fun s0 v1Count v1Key v1Last xt7 xt8 => ∃ j, L0_slices_Index_Entry_Entry s0 v1Count v1Key v1Last xt7 (fun r0 => kk (.one (.c (.v (.int .i64 r0)))) []) j xt8) := by
    funext s0 v1Count v1Key v1Last xt7 xt8
    refine congrArg Exists (funext fun j => ?_)
    rw [l0_slices_Index_Entry_Entry s0 v1Key v1Count v1Last xt7 kk j xt8]
  rw [hi0]
  rfl
theorem clok_slices_Index_Entry_Entry : ConOK Try.prog cl_slices_Index_Entry_Entry := consNil
theorem cok_slices_Index_Entry_Entry : ConsOK Try.prog 19 cs_slices_Index_Entry_Entry := ⟨clok_slices_Index_Entry_Entry, inlNil, ovNil⟩
theorem i_slices_Index_Entry_Entry {vs : List A1} {kk : AV → List A1 → Prop} {motive : List A1 → Prop} (h : con_slices_Index_Entry_Entry.F vs kk) (H : ∀ (s0 : List (Int × Int × Int)) (v1Key : Int) (v1Count : Int) (v1Last : Int), F_slices_Index_Entry_Entry s0 v1Key v1Count v1Last (fun r0 => kk (.one (.c (.v (.int .i64 r0)))) []) → motive [.c (.ro .iii s0), .agg [.v (.int .i64 v1Key), .v (.int .i64 v1Count), .v (.int .i64 v1Last)]]) : motive vs := by
  unfold con_slices_Index_Entry_Entry at h
  dsimp only at h
  split at h
  · exact H _ _ _ _ h
  · exact h.elim
theorem h_slices_Index_Entry_Entry : Holds Try.prog 100 con_slices_Index_Entry_Entry := by
  refine holds_of_ev (rt := [.c .sc]) (T := TT) (Γ := cs_slices_Index_Entry_Entry) (an := an_slices_Index_Entry_Entry) (N := 19) (c := Try.f100.body.getD .skip) Try.func100 (by kernel_rfl) Try.ntmps100 (by decide) (by decide) mixed tabOK cok_slices_Index_Entry_Entry (by kernel_rfl) ?_
  intro vs kk _ hF
  exact i_slices_Index_Entry_Entry (motive := fun vs => Goes (ev TT cs_slices_Index_Entry_Entry 19 an_slices_Index_Entry_Entry (Try.f100.body.getD .skip) (st0 con_slices_Index_Entry_Entry vs) (fin TT con_slices_Index_Entry_Entry Try.f100.results.toList [.c .sc] vs kk))) hF (fun s0 v1Key v1Count v1Last hF => goes_of (e_slices_Index_Entry_Entry s0 v1Key v1Count v1Last kk) (F_slices_Index_Entry_Entry_S hF))
def con_slices_Delete_Entry_Entry : Con := ⟨[.mv, .rd, .rd], true, [.c (.sl .iii), .c (.sc), .c (.sc)], fun vs k => match vs with
    | [.c (.ro .iii s0), .c (.v (.int .i64 i1)), .c (.v (.int .i64 j2))] => F_slices_Delete_Entry_Entry s0 i1 j2 (fun r0 => k (.one (.c (.ro .iii r0))) [])
    | _ => False, false⟩
def cl_slices_Delete_Entry_Entry : List (FuncId × Con) := []
def an_slices_Delete_Entry_Entry : Ann := ⟨[(5, .take 0 (.take 1 (.take 2 (.take 3 (.take 4 (.take 5 (.alt 6 (.take 7 (.done)) (.none))))))), [])], [], [], []⟩
def cs_slices_Delete_Entry_Entry : Cons := ⟨cl_slices_Delete_Entry_Entry, [], 0, [], [], []⟩
def fin_slices_Delete_Entry_Entry (s0 : List (Int × Int × Int)) (i1 : Int) (j2 : Int) (kk : AV → List A1 → Prop) : Kt := fin TT con_slices_Delete_Entry_Entry Try.f102.results.toList [.c (.sl .iii)] [.c (.ro .iii s0), .c (.v (.int .i64 i1)), .c (.v (.int .i64 j2))] kk
theorem g_slices_Delete_Entry_Entry (s0 : List (Int × Int × Int)) (i1 : Int) (j2 : Int) (kk : AV → List A1 → Prop) :
    ev TT cs_slices_Delete_Entry_Entry 33 an_slices_Delete_Entry_Entry (Try.f102.body.getD .skip) (st0 con_slices_Delete_Entry_Entry [.c (.ro .iii s0), .c (.v (.int .i64 i1)), .c (.v (.int .i64 j2))]) (fin TT con_slices_Delete_Entry_Entry Try.f102.results.toList [.c (.sl .iii)] [.c (.ro .iii s0), .c (.v (.int .i64 i1)), .c (.v (.int .i64 j2))] kk) = G_slices_Delete_Entry_Entry s0 i1 j2 (fun r0 => kk (.one (.c (.ro .iii r0))) []) := by kernel_rfl
theorem e_slices_Delete_Entry_Entry (s0 : List (Int × Int × Int)) (i1 : Int) (j2 : Int) (kk : AV → List A1 → Prop) :
    ev TT cs_slices_Delete_Entry_Entry 33 an_slices_Delete_Entry_Entry (Try.f102.body.getD .skip) (st0 con_slices_Delete_Entry_Entry [.c (.ro .iii s0), .c (.v (.int .i64 i1)), .c (.v (.int .i64 j2))]) (fin TT con_slices_Delete_Entry_Entry Try.f102.results.toList [.c (.sl .iii)] [.c (.ro .iii s0), .c (.v (.int .i64 i1)), .c (.v (.int .i64 j2))] kk) = S_slices_Delete_Entry_Entry s0 i1 j2 (fun r0 => kk (.one (.c (.ro .iii r0))) []) := by
  rw [g_slices_Delete_Entry_Entry]
  rw [G_slices_Delete_Entry_Entry_eq]
  rfl
theorem clok_slices_Delete_Entry_Entry : ConOK Try.prog cl_slices_Delete_Entry_Entry := consNil
theorem cok_slices_Delete_Entry_Entry : ConsOK Try.prog 33 cs_slices_Delete_Entry_Entry := ⟨clok_slices_Delete_Entry_Entry, inlNil, ovNil⟩
theorem i_slices_Delete_Entry_Entry {vs : List A1} {kk : AV → List A1 → Prop} {motive : List A1 → Prop} (h : con_slices_Delete_Entry_Entry.F vs kk) (H : ∀ (s0 : List (Int × Int × Int)) (i1 : Int) (j2 : Int), F_slices_Delete_Entry_Entry s0 i1 j2 (fun r0 => kk (.one (.c (.ro .iii r0))) []) → motive [.c (.ro .iii s0), .c (.v (.int .i64 i1)), .c (.v (.int .i64 j2))]) : motive vs := by
  unfold con_slices_Delete_Entry_Entry at h
  dsimp only at h
  split at h
  · exact H _ _ _ h
  · exact h.elim
theorem h_slices_Delete_Entry_Entry : Holds Try.prog 102 con_slices_Delete_Entry_Entry := by
  refine holds_of_ev (rt := [.c (.sl .iii)]) (T := TT) (Γ := cs_slices_Delete_Entry_Entry) (an := an_slices_Delete_Entry_Entry) (N := 33) (c := Try.f102.body.getD .skip) Try.func102 (by kernel_rfl) Try.ntmps102 (by decide) (by decide) mixed tabOK cok_slices_Delete_Entry_Entry (by kernel_rfl) ?_
  intro vs kk _ hF
  exact i_slices_Delete_Entry_Entry (motive := fun vs => Goes (ev TT cs_slices_Delete_Entry_Entry 33 an_slices_Delete_Entry_Entry (Try.f102.body.getD .skip) (st0 con_slices_Delete_Entry_Entry vs) (fin TT con_slices_Delete_Entry_Entry Try.f102.results.toList [.c (.sl .iii)] vs kk))) hF (fun s0 i1 j2 hF => goes_of (e_slices_Delete_Entry_Entry s0 i1 j2 kk) (F_slices_Delete_Entry_Entry_S hF))
def con_impl_UseOften : Con := ⟨[.rd, .rd, .rd, .rd], true, [.c (.sl .iii), .c (.sc), .c (.sc), .c (.sc)], fun vs k => match vs with
    | [.c (.ro .iii list0), .c (.v (.int .i64 room1)), .c (.v (.int .i64 key2)), .c (.v (.int .i64 now3))] => F_impl_UseOften list0 room1 key2 now3 (fun r0 r1 => k (.tup [.c (.ro .iii r0), .c (.v (.bool r1))]) [])
    | _ => False, false⟩
def cl_impl_UseOften : List (FuncId × Con) := [(62, con_impl_validKey), (98, con_impl_ValidEntries), (99, con_impl_validTime), (100, con_slices_Index_Entry_Entry), (101, con_impl_rarestEntry), (102, con_slices_Delete_Entry_Entry)]
def nm0_impl_UseOften : List NStep := [.own 10 .iii 90000, .keep [1, 2, 3, 10, 11, 30, 31, 32] [90000]]
def an_impl_UseOften : Ann := ⟨[], [(6, nm0_impl_UseOften)], [], []⟩
def cs_impl_UseOften : Cons := ⟨cl_impl_UseOften, [], 0, [], [], []⟩
def can0_impl_UseOften (key2 : Int) (list0 : List (Int × Int × Int)) (now3 : Int) (room1 : Int) (xt31 : Int) (xthere11 : Bool) (xt32 : Int) (xout10 : List (Int × Int × Int)) : St := ⟨[(1, .one (.c (.v (.int .i64 room1)))), (2, .one (.c (.v (.int .i64 key2)))), (3, .one (.c (.v (.int .i64 now3)))), (10, .one (.c (.ow 90000))), (11, .one (.c (.v (.bool xthere11)))), (30, .one (.c (.ro .iii list0))), (31, .one (.c (.v (.int .i64 xt31)))), (32, .one (.c (.v (.int .i64 xt32))))], [(90000, .row .iii xout10)]⟩
def fin_impl_UseOften (list0 : List (Int × Int × Int)) (room1 : Int) (key2 : Int) (now3 : Int) (kk : AV → List A1 → Prop) : Kt := fin TT con_impl_UseOften Try.f56.results.toList [.c (.sl .iii), .c .sc] [.c (.ro .iii list0), .c (.v (.int .i64 room1)), .c (.v (.int .i64 key2)), .c (.v (.int .i64 now3))] kk
def kt0_impl_UseOften (kf : Kt) : Kt := blockK 0 (seqK (evF TT cs_impl_UseOften 77 an_impl_UseOften Try.f56 [1, 1, 1, 1, 1]) (kf))
theorem r0_impl_UseOften (list0 : List (Int × Int × Int)) (room1 : Int) (key2 : Int) (now3 : Int) (xt31 : Int) (kk : AV → List A1 → Prop) (n : Nat) (xthere11 : Bool) (xt32 : Int) (xout10 : List (Int × Int × Int)) :
    iter (evF TT cs_impl_UseOften 77 an_impl_UseOften Try.f56 [1, 1, 1, 1, 0, 1, 0, 0]) nm0_impl_UseOften (kt0_impl_UseOften (fin_impl_UseOften list0 room1 key2 now3 kk)) (n + 1) (can0_impl_UseOften key2 list0 now3 room1 xt31 xthere11 xt32 xout10) = T0_impl_UseOften key2 list0 now3 room1 xt31 xthere11 xt32 xout10 (fun r0 r1 => kk (.tup [.c (.ro .iii r0), .c (.v (.bool r1))]) []) (fun xthere11 xt32 xout10 => iter (evF TT cs_impl_UseOften 77 an_impl_UseOften Try.f56 [1, 1, 1, 1, 0, 1, 0, 0]) nm0_impl_UseOften (kt0_impl_UseOften (fin_impl_UseOften list0 room1 key2 now3 kk)) n (can0_impl_UseOften key2 list0 now3 room1 xt31 xthere11 xt32 xout10)) := by kernel_rfl
theorem l0_impl_UseOften (list0 : List (Int × Int × Int)) (room1 : Int) (key2 : Int) (now3 : Int) (xt31 : Int) (kk : AV → List A1 → Prop) : ∀ (n : Nat) (xthere11 : Bool) (xt32 : Int) (xout10 : List (Int × Int × Int)), iter (evF TT cs_impl_UseOften 77 an_impl_UseOften Try.f56 [1, 1, 1, 1, 0, 1, 0, 0]) nm0_impl_UseOften (kt0_impl_UseOften (fin_impl_UseOften list0 room1 key2 now3 kk)) n (can0_impl_UseOften key2 list0 now3 room1 xt31 xthere11 xt32 xout10) = L0_impl_UseOften key2 list0 now3 room1 xt31 (fun r0 r1 => kk (.tup [.c (.ro .iii r0), .c (.v (.bool r1))]) []) n xthere11 xt32 xout10 := by
  intro n
  induction n with
  | zero => intros; rfl
  | succ n ih =>
    intro xthere11 xt32 xout10
    rw [r0_impl_UseOften list0 room1 key2 now3 xt31 kk n xthere11 xt32 xout10]
    have hb : (fun xthere11 xt32 xout10 => iter (evF TT cs_impl_UseOften 77 an_impl_UseOften Try.f56 [1, 1, 1, 1, 0, 1, 0, 0]) nm0_impl_UseOften (kt0_impl_UseOften (fin_impl_UseOften list0 room1 key2 now3 kk)) n (can0_impl_UseOften key2 list0 now3 room1 xt31 xthere11 xt32 xout10)) = L0_impl_UseOften key2 list0 now3 room1 xt31 (fun r0 r1 => kk (.tup [.c (.ro .iii r0), .c (.v (.bool r1))]) []) n := by
      funext xthere11 xt32 xout10; exact ih xthere11 xt32 xout10
    rw [hb]
    rfl
theorem g_impl_UseOften (list0 : List (Int × Int × Int)) (room1 : Int) (key2 : Int) (now3 : Int) (kk : AV → List A1 → Prop) :
    ev TT cs_impl_UseOften 77 an_impl_UseOften (Try.f56.body.getD .skip) (st0 con_impl_UseOften [.c (.ro .iii list0), .c (.v (.int .i64 room1)), .c (.v (.int .i64 key2)), .c (.v (.int .i64 now3))]) (fin TT con_impl_UseOften Try.f56.results.toList [.c (.sl .iii), .c .sc] [.c (.ro .iii list0), .c (.v (.int .i64 room1)), .c (.v (.int .i64 key2)), .c (.v (.int .i64 now3))] kk) = G_impl_UseOften list0 room1 key2 now3 (fun r0 r1 => kk (.tup [.c (.ro .iii r0), .c (.v (.bool r1))]) []) (fun key2 list0 now3 room1 xt31 xthere11 xt32 xout10 => ∃ j, iter (evF TT cs_impl_UseOften 77 an_impl_UseOften Try.f56 [1, 1, 1, 1, 0, 1, 0, 0]) nm0_impl_UseOften (kt0_impl_UseOften (fin_impl_UseOften list0 room1 key2 now3 kk)) j (can0_impl_UseOften key2 list0 now3 room1 xt31 xthere11 xt32 xout10)) := by kernel_rfl
theorem e_impl_UseOften (list0 : List (Int × Int × Int)) (room1 : Int) (key2 : Int) (now3 : Int) (kk : AV → List A1 → Prop) :
    ev TT cs_impl_UseOften 77 an_impl_UseOften (Try.f56.body.getD .skip) (st0 con_impl_UseOften [.c (.ro .iii list0), .c (.v (.int .i64 room1)), .c (.v (.int .i64 key2)), .c (.v (.int .i64 now3))]) (fin TT con_impl_UseOften Try.f56.results.toList [.c (.sl .iii), .c .sc] [.c (.ro .iii list0), .c (.v (.int .i64 room1)), .c (.v (.int .i64 key2)), .c (.v (.int .i64 now3))] kk) = S_impl_UseOften list0 room1 key2 now3 (fun r0 r1 => kk (.tup [.c (.ro .iii r0), .c (.v (.bool r1))]) []) := by
  rw [g_impl_UseOften]
  have hi0 : (fun key2 list0 now3 room1 xt31 xthere11 xt32 xout10 => ∃ j, iter (evF TT cs_impl_UseOften 77 an_impl_UseOften Try.f56 [1, 1, 1, 1, 0, 1, 0, 0]) nm0_impl_UseOften (kt0_impl_UseOften (fin_impl_UseOften list0 room1 key2 now3 kk)) j (can0_impl_UseOften key2 list0 now3 room1 xt31 xthere11 xt32 xout10)) = (fun key2 list0 now3 room1 xt31 xthere11 xt32 xout10 => ∃ j, L0_impl_UseOften key2 list0 now3 room1 xt31 (fun r0 r1 => kk (.tup [.c (.ro .iii r0), .c (.v (.bool r1))]) []) j xthere11 xt32 xout10) := by
    funext key2 list0 now3 room1 xt31 xthere11 xt32 xout10
    refine congrArg Exists (funext fun j => ?_)
    rw [l0_impl_UseOften list0 room1 key2 now3 xt31 kk j xthere11 xt32 xout10]
  rw [hi0]
  rfl
theorem clok_impl_UseOften : ConOK Try.prog cl_impl_UseOften := consCons h_impl_validKey ⟨Try.f62, Try.func62, by kernel_rfl, ne_of_beq (by kernel_rfl)⟩ (consCons h_impl_ValidEntries ⟨Try.f98, Try.func98, by kernel_rfl, ne_of_beq (by kernel_rfl)⟩ (consCons h_impl_validTime ⟨Try.f99, Try.func99, by kernel_rfl, ne_of_beq (by kernel_rfl)⟩ (consCons h_slices_Index_Entry_Entry ⟨Try.f100, Try.func100, by kernel_rfl, ne_of_beq (by kernel_rfl)⟩ (consCons h_impl_rarestEntry ⟨Try.f101, Try.func101, by kernel_rfl, ne_of_beq (by kernel_rfl)⟩ (consCons h_slices_Delete_Entry_Entry ⟨Try.f102, Try.func102, by kernel_rfl, ne_of_beq (by kernel_rfl)⟩ (consNil))))))
theorem cok_impl_UseOften : ConsOK Try.prog 77 cs_impl_UseOften := ⟨clok_impl_UseOften, inlNil, ovNil⟩
theorem i_impl_UseOften {vs : List A1} {kk : AV → List A1 → Prop} {motive : List A1 → Prop} (h : con_impl_UseOften.F vs kk) (H : ∀ (list0 : List (Int × Int × Int)) (room1 : Int) (key2 : Int) (now3 : Int), F_impl_UseOften list0 room1 key2 now3 (fun r0 r1 => kk (.tup [.c (.ro .iii r0), .c (.v (.bool r1))]) []) → motive [.c (.ro .iii list0), .c (.v (.int .i64 room1)), .c (.v (.int .i64 key2)), .c (.v (.int .i64 now3))]) : motive vs := by
  unfold con_impl_UseOften at h
  dsimp only at h
  split at h
  · exact H _ _ _ _ h
  · exact h.elim
theorem h_impl_UseOften : Holds Try.prog 56 con_impl_UseOften := by
  refine holds_of_ev (rt := [.c (.sl .iii), .c .sc]) (T := TT) (Γ := cs_impl_UseOften) (an := an_impl_UseOften) (N := 77) (c := Try.f56.body.getD .skip) Try.func56 (by kernel_rfl) Try.ntmps56 (by decide) (by decide) mixed tabOK cok_impl_UseOften (by kernel_rfl) ?_
  intro vs kk _ hF
  exact i_impl_UseOften (motive := fun vs => Goes (ev TT cs_impl_UseOften 77 an_impl_UseOften (Try.f56.body.getD .skip) (st0 con_impl_UseOften vs) (fin TT con_impl_UseOften Try.f56.results.toList [.c (.sl .iii), .c .sc] vs kk))) hF (fun list0 room1 key2 now3 hF => goes_of (e_impl_UseOften list0 room1 key2 now3 kk) (F_impl_UseOften_S hF))
def con_impl_RunOften : Con := ⟨[.rd, .rd], true, [.c (.sl .int), .c (.sc)], fun vs k => match vs with
    | [.c (.ro .int t0), .c (.v (.int .i64 room1))] => F_impl_RunOften t0 room1 (fun r0 r1 => k (.tup [.c (.ro .iii r0), .c (.v (.int .i64 r1))]) [])
    | _ => False, false⟩
def cl_impl_RunOften : List (FuncId × Con) := [(41, con_impl_ValidTrace), (42, con_impl_validRoom), (56, con_impl_UseOften)]
def nm0_impl_RunOften : List NStep := [.own 1 .iii 90000, .keep [1, 2, 8, 13, 14, 15, 1000004, 1000005] [90000, 96]]
def an_impl_RunOften_i2 : Ann := ⟨[], [], [], []⟩
def cs_impl_RunOften_i2 : Cons := ⟨cl_impl_RunOften, [], 896, [], [], []⟩
def an_impl_RunOften_i1 : Ann := ⟨[], [(3, nm0_impl_RunOften)], [], []⟩
def cs_impl_RunOften_i1 : Cons := ⟨cl_impl_RunOften, [(23, ⟨55, inlG TT cs_impl_RunOften_i2 33 22 an_impl_RunOften_i2 (Try.f55.body.getD .skip) Try.f55.results.toList⟩)], 352, [], [], []⟩
def an_impl_RunOften : Ann := ⟨[], [], [], []⟩
def cs_impl_RunOften : Cons := ⟨cl_impl_RunOften, [(18, ⟨54, inlG TT cs_impl_RunOften_i1 21 33 an_impl_RunOften_i1 (Try.f54.body.getD .skip) Try.f54.results.toList⟩)], 0, [], [], []⟩
def can0_impl_RunOften (room1 : Int) (t0 : List Int) (xt14i1 : Int) (xhits8i1 : Int) (xt15i1 : Int) (xcache1 : List (Int × Int × Int)) (xb6c0 : Int) : St := ⟨[(1, .one (.c (.ow 90000))), (2, .one (.c (.cl 55 [.k (.int .i64 room1), .b 96]))), (8, .one (.c (.v (.int .i64 xhits8i1)))), (13, .one (.c (.ro .int t0))), (14, .one (.c (.v (.int .i64 xt14i1)))), (15, .one (.c (.v (.int .i64 xt15i1)))), (1000004, .one (.c (.nil))), (1000005, .one (.c (.v (.int .i64 0))))], [(90000, .row .iii xcache1), (96, .box [.v (.int .i64 xb6c0)])]⟩
def fin_impl_RunOften (t0 : List Int) (room1 : Int) (kk : AV → List A1 → Prop) : Kt := fin TT con_impl_RunOften Try.f19.results.toList [.c (.sl .iii), .c .sc] [.c (.ro .int t0), .c (.v (.int .i64 room1))] kk
def kt0_impl_RunOften (kf : Kt) : Kt := blockK 0 (seqK (evF TT cs_impl_RunOften_i1 33 an_impl_RunOften_i1 Try.f54 [1, 1, 1]) (inlK TT 21 Try.f54 (some 18) (regK TT cs_impl_RunOften 21 3 (seqK (evF TT cs_impl_RunOften 21 an_impl_RunOften Try.f19 [1, 1, 1, 1]) (kf)) (subc [1, 1, 1, 0] (Try.f19.body.getD .skip)))))
theorem r0_impl_RunOften (t0 : List Int) (room1 : Int) (xt14i1 : Int) (kk : AV → List A1 → Prop) (n : Nat) (xhits8i1 : Int) (xt15i1 : Int) (xcache1 : List (Int × Int × Int)) (xb6c0 : Int) :
    iter (evF TT cs_impl_RunOften_i1 33 an_impl_RunOften_i1 Try.f54 [1, 1, 0, 1, 0, 0]) nm0_impl_RunOften (kt0_impl_RunOften (fin_impl_RunOften t0 room1 kk)) (n + 1) (can0_impl_RunOften room1 t0 xt14i1 xhits8i1 xt15i1 xcache1 xb6c0) = T0_impl_RunOften room1 t0 xt14i1 xhits8i1 xt15i1 xcache1 xb6c0 (fun r0 r1 => kk (.tup [.c (.ro .iii r0), .c (.v (.int .i64 r1))]) []) (fun xhits8i1 xt15i1 xcache1 xb6c0 => iter (evF TT cs_impl_RunOften_i1 33 an_impl_RunOften_i1 Try.f54 [1, 1, 0, 1, 0, 0]) nm0_impl_RunOften (kt0_impl_RunOften (fin_impl_RunOften t0 room1 kk)) n (can0_impl_RunOften room1 t0 xt14i1 xhits8i1 xt15i1 xcache1 xb6c0)) := by kernel_rfl
theorem l0_impl_RunOften (t0 : List Int) (room1 : Int) (xt14i1 : Int) (kk : AV → List A1 → Prop) : ∀ (n : Nat) (xhits8i1 : Int) (xt15i1 : Int) (xcache1 : List (Int × Int × Int)) (xb6c0 : Int), iter (evF TT cs_impl_RunOften_i1 33 an_impl_RunOften_i1 Try.f54 [1, 1, 0, 1, 0, 0]) nm0_impl_RunOften (kt0_impl_RunOften (fin_impl_RunOften t0 room1 kk)) n (can0_impl_RunOften room1 t0 xt14i1 xhits8i1 xt15i1 xcache1 xb6c0) = L0_impl_RunOften room1 t0 xt14i1 (fun r0 r1 => kk (.tup [.c (.ro .iii r0), .c (.v (.int .i64 r1))]) []) n xhits8i1 xt15i1 xcache1 xb6c0 := by
  intro n
  induction n with
  | zero => intros; rfl
  | succ n ih =>
    intro xhits8i1 xt15i1 xcache1 xb6c0
    rw [r0_impl_RunOften t0 room1 xt14i1 kk n xhits8i1 xt15i1 xcache1 xb6c0]
    have hb : (fun xhits8i1 xt15i1 xcache1 xb6c0 => iter (evF TT cs_impl_RunOften_i1 33 an_impl_RunOften_i1 Try.f54 [1, 1, 0, 1, 0, 0]) nm0_impl_RunOften (kt0_impl_RunOften (fin_impl_RunOften t0 room1 kk)) n (can0_impl_RunOften room1 t0 xt14i1 xhits8i1 xt15i1 xcache1 xb6c0)) = L0_impl_RunOften room1 t0 xt14i1 (fun r0 r1 => kk (.tup [.c (.ro .iii r0), .c (.v (.int .i64 r1))]) []) n := by
      funext xhits8i1 xt15i1 xcache1 xb6c0; exact ih xhits8i1 xt15i1 xcache1 xb6c0
    rw [hb]
    rfl
theorem g_impl_RunOften (t0 : List Int) (room1 : Int) (kk : AV → List A1 → Prop) :
    ev TT cs_impl_RunOften 21 an_impl_RunOften (Try.f19.body.getD .skip) (st0 con_impl_RunOften [.c (.ro .int t0), .c (.v (.int .i64 room1))]) (fin TT con_impl_RunOften Try.f19.results.toList [.c (.sl .iii), .c .sc] [.c (.ro .int t0), .c (.v (.int .i64 room1))] kk) = G_impl_RunOften t0 room1 (fun r0 r1 => kk (.tup [.c (.ro .iii r0), .c (.v (.int .i64 r1))]) []) (fun room1 t0 xt14i1 xhits8i1 xt15i1 xcache1 xb6c0 => ∃ j, iter (evF TT cs_impl_RunOften_i1 33 an_impl_RunOften_i1 Try.f54 [1, 1, 0, 1, 0, 0]) nm0_impl_RunOften (kt0_impl_RunOften (fin_impl_RunOften t0 room1 kk)) j (can0_impl_RunOften room1 t0 xt14i1 xhits8i1 xt15i1 xcache1 xb6c0)) := by kernel_rfl
theorem e_impl_RunOften (t0 : List Int) (room1 : Int) (kk : AV → List A1 → Prop) :
    ev TT cs_impl_RunOften 21 an_impl_RunOften (Try.f19.body.getD .skip) (st0 con_impl_RunOften [.c (.ro .int t0), .c (.v (.int .i64 room1))]) (fin TT con_impl_RunOften Try.f19.results.toList [.c (.sl .iii), .c .sc] [.c (.ro .int t0), .c (.v (.int .i64 room1))] kk) = S_impl_RunOften t0 room1 (fun r0 r1 => kk (.tup [.c (.ro .iii r0), .c (.v (.int .i64 r1))]) []) := by
  rw [g_impl_RunOften]
  have hi0 : (fun room1 t0 xt14i1 xhits8i1 xt15i1 xcache1 xb6c0 => ∃ j, iter (evF TT cs_impl_RunOften_i1 33 an_impl_RunOften_i1 Try.f54 [1, 1, 0, 1, 0, 0]) nm0_impl_RunOften (kt0_impl_RunOften (fin_impl_RunOften t0 room1 kk)) j (can0_impl_RunOften room1 t0 xt14i1 xhits8i1 xt15i1 xcache1 xb6c0)) = (fun room1 t0 xt14i1 xhits8i1 xt15i1 xcache1 xb6c0 => ∃ j, L0_impl_RunOften room1 t0 xt14i1 (fun r0 r1 => kk (.tup [.c (.ro .iii r0), .c (.v (.int .i64 r1))]) []) j xhits8i1 xt15i1 xcache1 xb6c0) := by
    funext room1 t0 xt14i1 xhits8i1 xt15i1 xcache1 xb6c0
    refine congrArg Exists (funext fun j => ?_)
    rw [l0_impl_RunOften t0 room1 xt14i1 kk j xhits8i1 xt15i1 xcache1 xb6c0]
  rw [hi0]
  rfl
theorem clok_impl_RunOften : ConOK Try.prog cl_impl_RunOften := consCons h_impl_ValidTrace ⟨Try.f41, Try.func41, by kernel_rfl, ne_of_beq (by kernel_rfl)⟩ (consCons h_impl_validRoom ⟨Try.f42, Try.func42, by kernel_rfl, ne_of_beq (by kernel_rfl)⟩ (consCons h_impl_UseOften ⟨Try.f56, Try.func56, by kernel_rfl, ne_of_beq (by kernel_rfl)⟩ (consNil)))
theorem cok_impl_RunOften_i2 : ConsOK Try.prog 22 cs_impl_RunOften_i2 := ⟨clok_impl_RunOften, inlNil, ovNil⟩
theorem cok_impl_RunOften_i1 : ConsOK Try.prog 33 cs_impl_RunOften_i1 := ⟨clok_impl_RunOften, inlCons (inl_ok Try.func55 (by kernel_rfl) (ne_of_beq (by kernel_rfl)) Try.ntmps55 (by decide) mixed tabOK cok_impl_RunOften_i2 (by kernel_rfl)) (inlNil), ovNil⟩
theorem cok_impl_RunOften : ConsOK Try.prog 21 cs_impl_RunOften := ⟨clok_impl_RunOften, inlCons (inl_ok Try.func54 (by kernel_rfl) (ne_of_beq (by kernel_rfl)) Try.ntmps54 (by decide) mixed tabOK cok_impl_RunOften_i1 (by kernel_rfl)) (inlNil), ovNil⟩
theorem i_impl_RunOften {vs : List A1} {kk : AV → List A1 → Prop} {motive : List A1 → Prop} (h : con_impl_RunOften.F vs kk) (H : ∀ (t0 : List Int) (room1 : Int), F_impl_RunOften t0 room1 (fun r0 r1 => kk (.tup [.c (.ro .iii r0), .c (.v (.int .i64 r1))]) []) → motive [.c (.ro .int t0), .c (.v (.int .i64 room1))]) : motive vs := by
  unfold con_impl_RunOften at h
  dsimp only at h
  split at h
  · exact H _ _ h
  · exact h.elim
theorem h_impl_RunOften : Holds Try.prog 19 con_impl_RunOften := by
  refine holds_of_ev (rt := [.c (.sl .iii), .c .sc]) (T := TT) (Γ := cs_impl_RunOften) (an := an_impl_RunOften) (N := 21) (c := Try.f19.body.getD .skip) Try.func19 (by kernel_rfl) Try.ntmps19 (by decide) (by decide) mixed tabOK cok_impl_RunOften (by kernel_rfl) ?_
  intro vs kk _ hF
  exact i_impl_RunOften (motive := fun vs => Goes (ev TT cs_impl_RunOften 21 an_impl_RunOften (Try.f19.body.getD .skip) (st0 con_impl_RunOften vs) (fin TT con_impl_RunOften Try.f19.results.toList [.c (.sl .iii), .c .sc] vs kk))) hF (fun t0 room1 hF => goes_of (e_impl_RunOften t0 room1 kk) (F_impl_RunOften_S hF))
def con_slices_Concat_sint_int : Con := ⟨[.rd], true, [.c (.sll .int)], fun vs k => match vs with
    | [.c (.rol .int slices0)] => F_slices_Concat_sint_int slices0 (fun r0 => k (.one (.c (.ro .int r0))) [])
    | _ => False, false⟩
def cl_slices_Concat_sint_int : List (FuncId × Con) := []
def nm1_slices_Concat_sint_int : List NStep := [.own 6 .int 90100, .keep [6, 25, 26, 27] [90100]]
def nm0_slices_Concat_sint_int : List NStep := [.keep [0, 3, 9, 10, 11] []]
def an_slices_Concat_sint_int_i1 : Ann := ⟨[], [], [], []⟩
def cs_slices_Concat_sint_int_i1 : Cons := ⟨cl_slices_Concat_sint_int, [], 592, [], [], []⟩
def an_slices_Concat_sint_int : Ann := ⟨[], [(11, nm1_slices_Concat_sint_int), (3, nm0_slices_Concat_sint_int)], [], []⟩
def cs_slices_Concat_sint_int : Cons := ⟨cl_slices_Concat_sint_int, [(24, ⟨117, inlG TT cs_slices_Concat_sint_int_i1 36 27 an_slices_Concat_sint_int_i1 (Try.f117.body.getD .skip) Try.f117.results.toList⟩)], 0, [], [], []⟩
def can1_slices_Concat_sint_int (slices0 : List (List Int)) (xt26 : Int) (xt27 : Int) (xnewslice6 : List Int) : St := ⟨[(6, .one (.c (.ow 90100))), (25, .one (.c (.rol .int slices0))), (26, .one (.c (.v (.int .i64 xt26)))), (27, .one (.c (.v (.int .i64 xt27))))], [(90100, .row .int xnewslice6)]⟩
def can0_slices_Concat_sint_int (slices0 : List (List Int)) (xt10 : Int) (xsize3 : Int) (xt11 : Int) : St := ⟨[(0, .one (.c (.rol .int slices0))), (3, .one (.c (.v (.int .i64 xsize3)))), (9, .one (.c (.rol .int slices0))), (10, .one (.c (.v (.int .i64 xt10)))), (11, .one (.c (.v (.int .i64 xt11))))], []⟩
def fin_slices_Concat_sint_int (slices0 : List (List Int)) (kk : AV → List A1 → Prop) : Kt := fin TT con_slices_Concat_sint_int Try.f72.results.toList [.c (.sl .int)] [.c (.rol .int slices0)] kk
def kt1_slices_Concat_sint_int (kf : Kt) : Kt := blockK 2 (seqK (evF TT cs_slices_Concat_sint_int 36 an_slices_Concat_sint_int Try.f72 [1, 1, 1, 1, 1]) (kf))
def kt0_slices_Concat_sint_int (kf : Kt) : Kt := blockK 0 (seqK (evF TT cs_slices_Concat_sint_int 36 an_slices_Concat_sint_int Try.f72 [1, 1, 1]) (kf))
theorem r1_slices_Concat_sint_int (slices0 : List (List Int)) (kk : AV → List A1 → Prop) (n : Nat) (xt26 : Int) (xt27 : Int) (xnewslice6 : List Int) :
    iter (evF TT cs_slices_Concat_sint_int 36 an_slices_Concat_sint_int Try.f72 [1, 1, 1, 1, 0, 1, 0, 0]) nm1_slices_Concat_sint_int (kt1_slices_Concat_sint_int (fin_slices_Concat_sint_int slices0 kk)) (n + 1) (can1_slices_Concat_sint_int slices0 xt26 xt27 xnewslice6) = T1_slices_Concat_sint_int slices0 xt26 xt27 xnewslice6 (fun r0 => kk (.one (.c (.ro .int r0))) []) (fun xt26 xt27 xnewslice6 => iter (evF TT cs_slices_Concat_sint_int 36 an_slices_Concat_sint_int Try.f72 [1, 1, 1, 1, 0, 1, 0, 0]) nm1_slices_Concat_sint_int (kt1_slices_Concat_sint_int (fin_slices_Concat_sint_int slices0 kk)) n (can1_slices_Concat_sint_int slices0 xt26 xt27 xnewslice6)) := by kernel_rfl
theorem l1_slices_Concat_sint_int (slices0 : List (List Int)) (kk : AV → List A1 → Prop) : ∀ (n : Nat) (xt26 : Int) (xt27 : Int) (xnewslice6 : List Int), iter (evF TT cs_slices_Concat_sint_int 36 an_slices_Concat_sint_int Try.f72 [1, 1, 1, 1, 0, 1, 0, 0]) nm1_slices_Concat_sint_int (kt1_slices_Concat_sint_int (fin_slices_Concat_sint_int slices0 kk)) n (can1_slices_Concat_sint_int slices0 xt26 xt27 xnewslice6) = L1_slices_Concat_sint_int slices0 (fun r0 => kk (.one (.c (.ro .int r0))) []) n xt26 xt27 xnewslice6 := by
  intro n
  induction n with
  | zero => intros; rfl
  | succ n ih =>
    intro xt26 xt27 xnewslice6
    rw [r1_slices_Concat_sint_int slices0 kk n xt26 xt27 xnewslice6]
    have hb : (fun xt26 xt27 xnewslice6 => iter (evF TT cs_slices_Concat_sint_int 36 an_slices_Concat_sint_int Try.f72 [1, 1, 1, 1, 0, 1, 0, 0]) nm1_slices_Concat_sint_int (kt1_slices_Concat_sint_int (fin_slices_Concat_sint_int slices0 kk)) n (can1_slices_Concat_sint_int slices0 xt26 xt27 xnewslice6)) = L1_slices_Concat_sint_int slices0 (fun r0 => kk (.one (.c (.ro .int r0))) []) n := by
      funext xt26 xt27 xnewslice6; exact ih xt26 xt27 xnewslice6
    rw [hb]
    rfl
theorem r0_slices_Concat_sint_int (slices0 : List (List Int)) (xt10 : Int) (kk : AV → List A1 → Prop) (n : Nat) (xsize3 : Int) (xt11 : Int) :
    iter (evF TT cs_slices_Concat_sint_int 36 an_slices_Concat_sint_int Try.f72 [1, 1, 0, 1, 0, 0]) nm0_slices_Concat_sint_int (kt0_slices_Concat_sint_int (fin_slices_Concat_sint_int slices0 kk)) (n + 1) (can0_slices_Concat_sint_int slices0 xt10 xsize3 xt11) = T0_slices_Concat_sint_int slices0 xt10 xsize3 xt11 (fun xsize3 xt11 => iter (evF TT cs_slices_Concat_sint_int 36 an_slices_Concat_sint_int Try.f72 [1, 1, 0, 1, 0, 0]) nm0_slices_Concat_sint_int (kt0_slices_Concat_sint_int (fin_slices_Concat_sint_int slices0 kk)) n (can0_slices_Concat_sint_int slices0 xt10 xsize3 xt11)) (fun slices0 xt26 xt27 xnewslice6 => ∃ j, iter (evF TT cs_slices_Concat_sint_int 36 an_slices_Concat_sint_int Try.f72 [1, 1, 1, 1, 0, 1, 0, 0]) nm1_slices_Concat_sint_int (kt1_slices_Concat_sint_int (fin_slices_Concat_sint_int slices0 kk)) j (can1_slices_Concat_sint_int slices0 xt26 xt27 xnewslice6)) := by kernel_rfl
theorem l0_slices_Concat_sint_int (slices0 : List (List Int)) (xt10 : Int) (kk : AV → List A1 → Prop) : ∀ (n : Nat) (xsize3 : Int) (xt11 : Int), iter (evF TT cs_slices_Concat_sint_int 36 an_slices_Concat_sint_int Try.f72 [1, 1, 0, 1, 0, 0]) nm0_slices_Concat_sint_int (kt0_slices_Concat_sint_int (fin_slices_Concat_sint_int slices0 kk)) n (can0_slices_Concat_sint_int slices0 xt10 xsize3 xt11) = L0_slices_Concat_sint_int slices0 xt10 (fun r0 => kk (.one (.c (.ro .int r0))) []) n xsize3 xt11 := by
  intro n
  induction n generalizing slices0 xt10 with
  | zero => intros; rfl
  | succ n ih =>
    intro xsize3 xt11
    rw [r0_slices_Concat_sint_int slices0 xt10 kk n xsize3 xt11]
    have hb : ∀ (slices0 : List (List Int)) (xt10 : Int), (fun xsize3 xt11 => iter (evF TT cs_slices_Concat_sint_int 36 an_slices_Concat_sint_int Try.f72 [1, 1, 0, 1, 0, 0]) nm0_slices_Concat_sint_int (kt0_slices_Concat_sint_int (fin_slices_Concat_sint_int slices0 kk)) n (can0_slices_Concat_sint_int slices0 xt10 xsize3 xt11)) = L0_slices_Concat_sint_int slices0 xt10 (fun r0 => kk (.one (.c (.ro .int r0))) []) n := by
      intro slices0 xt10
      funext xsize3 xt11; exact ih slices0 xt10 xsize3 xt11
    have hi1 : (fun slices0 xt26 xt27 xnewslice6 => ∃ j, iter (evF TT cs_slices_Concat_sint_int 36 an_slices_Concat_sint_int Try.f72 [1, 1, 1, 1, 0, 1, 0, 0]) nm1_slices_Concat_sint_int (kt1_slices_Concat_sint_int (fin_slices_Concat_sint_int slices0 kk)) j (can1_slices_Concat_sint_int slices0 xt26 xt27 xnewslice6)) = (fun slices0 xt26 xt27 xnewslice6 => ∃ j, L1_slices_Concat_sint_int slices0 (fun r0 => kk (.one (.c (.ro .int r0))) []) j xt26 xt27 xnewslice6) := by
      funext slices0 xt26 xt27 xnewslice6
      refine congrArg Exists (funext fun j => ?_)
      rw [l1_slices_Concat_sint_int slices0 kk j xt26 xt27 xnewslice6]
    rw [hb, hi1]
    rfl
theorem g_slices_Concat_sint_int (slices0 : List (List Int)) (kk : AV → List A1 → Prop) :
    ev TT cs_slices_Concat_sint_int 36 an_slices_Concat_sint_int (Try.f72.body.getD .skip) (st0 con_slices_Concat_sint_int [.c (.rol .int slices0)]) (fin TT con_slices_Concat_sint_int Try.f72.results.toList [.c (.sl .int)] [.c (.rol .int slices0)] kk) = G_slices_Concat_sint_int slices0 (fun slices0 xt10 xsize3 xt11 => ∃ j, iter (evF TT cs_slices_Concat_sint_int 36 an_slices_Concat_sint_int Try.f72 [1, 1, 0, 1, 0, 0]) nm0_slices_Concat_sint_int (kt0_slices_Concat_sint_int (fin_slices_Concat_sint_int slices0 kk)) j (can0_slices_Concat_sint_int slices0 xt10 xsize3 xt11)) := by kernel_rfl
theorem e_slices_Concat_sint_int (slices0 : List (List Int)) (kk : AV → List A1 → Prop) :
    ev TT cs_slices_Concat_sint_int 36 an_slices_Concat_sint_int (Try.f72.body.getD .skip) (st0 con_slices_Concat_sint_int [.c (.rol .int slices0)]) (fin TT con_slices_Concat_sint_int Try.f72.results.toList [.c (.sl .int)] [.c (.rol .int slices0)] kk) = S_slices_Concat_sint_int slices0 (fun r0 => kk (.one (.c (.ro .int r0))) []) := by
  rw [g_slices_Concat_sint_int]
  have hi0 : (fun slices0 xt10 xsize3 xt11 => ∃ j, iter (evF TT cs_slices_Concat_sint_int 36 an_slices_Concat_sint_int Try.f72 [1, 1, 0, 1, 0, 0]) nm0_slices_Concat_sint_int (kt0_slices_Concat_sint_int (fin_slices_Concat_sint_int slices0 kk)) j (can0_slices_Concat_sint_int slices0 xt10 xsize3 xt11)) = (fun slices0 xt10 xsize3 xt11 => ∃ j, L0_slices_Concat_sint_int slices0 xt10 (fun r0 => kk (.one (.c (.ro .int r0))) []) j xsize3 xt11) := by
    funext slices0 xt10 xsize3 xt11
    refine congrArg Exists (funext fun j => ?_)
    rw [l0_slices_Concat_sint_int slices0 xt10 kk j xsize3 xt11]
  rw [hi0]
  rfl
theorem clok_slices_Concat_sint_int : ConOK Try.prog cl_slices_Concat_sint_int := consNil
theorem cok_slices_Concat_sint_int_i1 : ConsOK Try.prog 27 cs_slices_Concat_sint_int_i1 := ⟨clok_slices_Concat_sint_int, inlNil, ovNil⟩
theorem cok_slices_Concat_sint_int : ConsOK Try.prog 36 cs_slices_Concat_sint_int := ⟨clok_slices_Concat_sint_int, inlCons (inl_ok Try.func117 (by kernel_rfl) (ne_of_beq (by kernel_rfl)) Try.ntmps117 (by decide) mixed tabOK cok_slices_Concat_sint_int_i1 (by kernel_rfl)) (inlNil), ovNil⟩
theorem i_slices_Concat_sint_int {vs : List A1} {kk : AV → List A1 → Prop} {motive : List A1 → Prop} (h : con_slices_Concat_sint_int.F vs kk) (H : ∀ (slices0 : List (List Int)), F_slices_Concat_sint_int slices0 (fun r0 => kk (.one (.c (.ro .int r0))) []) → motive [.c (.rol .int slices0)]) : motive vs := by
  unfold con_slices_Concat_sint_int at h
  dsimp only at h
  split at h
  · exact H _ h
  · exact h.elim
theorem h_slices_Concat_sint_int : Holds Try.prog 72 con_slices_Concat_sint_int := by
  refine holds_of_ev (rt := [.c (.sl .int)]) (T := TT) (Γ := cs_slices_Concat_sint_int) (an := an_slices_Concat_sint_int) (N := 36) (c := Try.f72.body.getD .skip) Try.func72 (by kernel_rfl) Try.ntmps72 (by decide) (by decide) mixed tabOK cok_slices_Concat_sint_int (by kernel_rfl) ?_
  intro vs kk _ hF
  exact i_slices_Concat_sint_int (motive := fun vs => Goes (ev TT cs_slices_Concat_sint_int 36 an_slices_Concat_sint_int (Try.f72.body.getD .skip) (st0 con_slices_Concat_sint_int vs) (fin TT con_slices_Concat_sint_int Try.f72.results.toList [.c (.sl .int)] vs kk))) hF (fun slices0 hF => goes_of (e_slices_Concat_sint_int slices0 kk) (F_slices_Concat_sint_int_S hF))
def con_impl_ValidLists : Con := ⟨[.rd], true, [.agg [.sc, .sc, .sl .int, .sl .int, .sl .int, .sl .int]], fun vs k => match vs with
    | [.agg [.v (.int .i64 a0Room), .v (.int .i64 a0Target), .ro .int a0Once, .ro .int a0Often, .ro .int a0WasOnce, .ro .int a0WasOften]] => F_impl_ValidLists a0Room a0Target a0Once a0Often a0WasOnce a0WasOften (fun r0 => k (.one (.c (.v (.bool r0)))) [])
    | _ => False, false⟩
def cl_impl_ValidLists : List (FuncId × Con) := [(42, con_impl_validRoom), (71, con_impl_differentKeys), (72, con_slices_Concat_sint_int)]
def an_impl_ValidLists : Ann := ⟨[], [], [], []⟩
def cs_impl_ValidLists : Cons := ⟨cl_impl_ValidLists, [], 0, [], [], []⟩
def fin_impl_ValidLists (a0Room : Int) (a0Target : Int) (a0Once : List Int) (a0Often : List Int) (a0WasOnce : List Int) (a0WasOften : List Int) (kk : AV → List A1 → Prop) : Kt := fin TT con_impl_ValidLists Try.f103.results.toList [.c .sc] [.agg [.v (.int .i64 a0Room), .v (.int .i64 a0Target), .ro .int a0Once, .ro .int a0Often, .ro .int a0WasOnce, .ro .int a0WasOften]] kk
theorem g_impl_ValidLists (a0Room : Int) (a0Target : Int) (a0Once : List Int) (a0Often : List Int) (a0WasOnce : List Int) (a0WasOften : List Int) (kk : AV → List A1 → Prop) :
    ev TT cs_impl_ValidLists 71 an_impl_ValidLists (Try.f103.body.getD .skip) (st0 con_impl_ValidLists [.agg [.v (.int .i64 a0Room), .v (.int .i64 a0Target), .ro .int a0Once, .ro .int a0Often, .ro .int a0WasOnce, .ro .int a0WasOften]]) (fin TT con_impl_ValidLists Try.f103.results.toList [.c .sc] [.agg [.v (.int .i64 a0Room), .v (.int .i64 a0Target), .ro .int a0Once, .ro .int a0Often, .ro .int a0WasOnce, .ro .int a0WasOften]] kk) = G_impl_ValidLists a0Room a0Target a0Once a0Often a0WasOnce a0WasOften (fun r0 => kk (.one (.c (.v (.bool r0)))) []) := by kernel_rfl
theorem e_impl_ValidLists (a0Room : Int) (a0Target : Int) (a0Once : List Int) (a0Often : List Int) (a0WasOnce : List Int) (a0WasOften : List Int) (kk : AV → List A1 → Prop) :
    ev TT cs_impl_ValidLists 71 an_impl_ValidLists (Try.f103.body.getD .skip) (st0 con_impl_ValidLists [.agg [.v (.int .i64 a0Room), .v (.int .i64 a0Target), .ro .int a0Once, .ro .int a0Often, .ro .int a0WasOnce, .ro .int a0WasOften]]) (fin TT con_impl_ValidLists Try.f103.results.toList [.c .sc] [.agg [.v (.int .i64 a0Room), .v (.int .i64 a0Target), .ro .int a0Once, .ro .int a0Often, .ro .int a0WasOnce, .ro .int a0WasOften]] kk) = S_impl_ValidLists a0Room a0Target a0Once a0Often a0WasOnce a0WasOften (fun r0 => kk (.one (.c (.v (.bool r0)))) []) := by
  rw [g_impl_ValidLists]
  rfl
theorem clok_impl_ValidLists : ConOK Try.prog cl_impl_ValidLists := consCons h_impl_validRoom ⟨Try.f42, Try.func42, by kernel_rfl, ne_of_beq (by kernel_rfl)⟩ (consCons h_impl_differentKeys ⟨Try.f71, Try.func71, by kernel_rfl, ne_of_beq (by kernel_rfl)⟩ (consCons h_slices_Concat_sint_int ⟨Try.f72, Try.func72, by kernel_rfl, ne_of_beq (by kernel_rfl)⟩ (consNil)))
theorem cok_impl_ValidLists : ConsOK Try.prog 71 cs_impl_ValidLists := ⟨clok_impl_ValidLists, inlNil, ovNil⟩
theorem i_impl_ValidLists {vs : List A1} {kk : AV → List A1 → Prop} {motive : List A1 → Prop} (h : con_impl_ValidLists.F vs kk) (H : ∀ (a0Room : Int) (a0Target : Int) (a0Once : List Int) (a0Often : List Int) (a0WasOnce : List Int) (a0WasOften : List Int), F_impl_ValidLists a0Room a0Target a0Once a0Often a0WasOnce a0WasOften (fun r0 => kk (.one (.c (.v (.bool r0)))) []) → motive [.agg [.v (.int .i64 a0Room), .v (.int .i64 a0Target), .ro .int a0Once, .ro .int a0Often, .ro .int a0WasOnce, .ro .int a0WasOften]]) : motive vs := by
  unfold con_impl_ValidLists at h
  dsimp only at h
  split at h
  · exact H _ _ _ _ _ _ h
  · exact h.elim
theorem h_impl_ValidLists : Holds Try.prog 103 con_impl_ValidLists := by
  refine holds_of_ev (rt := [.c .sc]) (T := TT) (Γ := cs_impl_ValidLists) (an := an_impl_ValidLists) (N := 71) (c := Try.f103.body.getD .skip) Try.func103 (by kernel_rfl) Try.ntmps103 (by decide) (by decide) mixed tabOK cok_impl_ValidLists (by kernel_rfl) ?_
  intro vs kk _ hF
  exact i_impl_ValidLists (motive := fun vs => Goes (ev TT cs_impl_ValidLists 71 an_impl_ValidLists (Try.f103.body.getD .skip) (st0 con_impl_ValidLists vs) (fin TT con_impl_ValidLists Try.f103.results.toList [.c .sc] vs kk))) hF (fun a0Room a0Target a0Once a0Often a0WasOnce a0WasOften hF => goes_of (e_impl_ValidLists a0Room a0Target a0Once a0Often a0WasOnce a0WasOften kk) (F_impl_ValidLists_S hF))
def con_impl_nextTarget : Con := ⟨[.rd, .rd], true, [.agg [.sc, .sc, .sl .int, .sl .int, .sl .int, .sl .int], .c (.sc)], fun vs k => match vs with
    | [.agg [.v (.int .i64 a0Room), .v (.int .i64 a0Target), .ro .int a0Once, .ro .int a0Often, .ro .int a0WasOnce, .ro .int a0WasOften], .c (.v (.int .i64 key1))] => F_impl_nextTarget a0Room a0Target a0Once a0Often a0WasOnce a0WasOften key1 (fun r0 => k (.one (.c (.v (.int .i64 r0)))) [])
    | _ => False, false⟩
def cl_impl_nextTarget : List (FuncId × Con) := [(43, con_slices_Contains_sint_int)]
def an_impl_nextTarget : Ann := ⟨[(2, .take 0 (.take 1 (.take 2 (.take 3 (.take 4 (.take 5 (.take 6 (.take 7 (.take 8 (.take 9 (.take 10 (.take 11 (.take 12 (.take 13 (.take 14 (.done))))))))))))))), [32]), (4, .take 0 (.take 1 (.take 2 (.take 3 (.take 4 (.take 5 (.take 6 (.take 7 (.take 8 (.take 9 (.take 10 (.take 11 (.take 12 (.done))))))))))))), [32])], [], [], []⟩
def cs_impl_nextTarget : Cons := ⟨cl_impl_nextTarget, [], 0, [], [], []⟩
def fin_impl_nextTarget (a0Room : Int) (a0Target : Int) (a0Once : List Int) (a0Often : List Int) (a0WasOnce : List Int) (a0WasOften : List Int) (key1 : Int) (kk : AV → List A1 → Prop) : Kt := fin TT con_impl_nextTarget Try.f104.results.toList [.c .sc] [.agg [.v (.int .i64 a0Room), .v (.int .i64 a0Target), .ro .int a0Once, .ro .int a0Often, .ro .int a0WasOnce, .ro .int a0WasOften], .c (.v (.int .i64 key1))] kk
theorem g_impl_nextTarget (a0Room : Int) (a0Target : Int) (a0Once : List Int) (a0Often : List Int) (a0WasOnce : List Int) (a0WasOften : List Int) (key1 : Int) (kk : AV → List A1 → Prop) :
    ev TT cs_impl_nextTarget 41 an_impl_nextTarget (Try.f104.body.getD .skip) (st0 con_impl_nextTarget [.agg [.v (.int .i64 a0Room), .v (.int .i64 a0Target), .ro .int a0Once, .ro .int a0Often, .ro .int a0WasOnce, .ro .int a0WasOften], .c (.v (.int .i64 key1))]) (fin TT con_impl_nextTarget Try.f104.results.toList [.c .sc] [.agg [.v (.int .i64 a0Room), .v (.int .i64 a0Target), .ro .int a0Once, .ro .int a0Often, .ro .int a0WasOnce, .ro .int a0WasOften], .c (.v (.int .i64 key1))] kk) = G_impl_nextTarget a0Room a0Target a0Once a0Often a0WasOnce a0WasOften key1 (fun r0 => kk (.one (.c (.v (.int .i64 r0)))) []) := by kernel_rfl
theorem e_impl_nextTarget (a0Room : Int) (a0Target : Int) (a0Once : List Int) (a0Often : List Int) (a0WasOnce : List Int) (a0WasOften : List Int) (key1 : Int) (kk : AV → List A1 → Prop) :
    ev TT cs_impl_nextTarget 41 an_impl_nextTarget (Try.f104.body.getD .skip) (st0 con_impl_nextTarget [.agg [.v (.int .i64 a0Room), .v (.int .i64 a0Target), .ro .int a0Once, .ro .int a0Often, .ro .int a0WasOnce, .ro .int a0WasOften], .c (.v (.int .i64 key1))]) (fin TT con_impl_nextTarget Try.f104.results.toList [.c .sc] [.agg [.v (.int .i64 a0Room), .v (.int .i64 a0Target), .ro .int a0Once, .ro .int a0Often, .ro .int a0WasOnce, .ro .int a0WasOften], .c (.v (.int .i64 key1))] kk) = S_impl_nextTarget a0Room a0Target a0Once a0Often a0WasOnce a0WasOften key1 (fun r0 => kk (.one (.c (.v (.int .i64 r0)))) []) := by
  rw [g_impl_nextTarget]
  rfl
theorem clok_impl_nextTarget : ConOK Try.prog cl_impl_nextTarget := consCons h_slices_Contains_sint_int ⟨Try.f43, Try.func43, by kernel_rfl, ne_of_beq (by kernel_rfl)⟩ (consNil)
theorem cok_impl_nextTarget : ConsOK Try.prog 41 cs_impl_nextTarget := ⟨clok_impl_nextTarget, inlNil, ovNil⟩
theorem i_impl_nextTarget {vs : List A1} {kk : AV → List A1 → Prop} {motive : List A1 → Prop} (h : con_impl_nextTarget.F vs kk) (H : ∀ (a0Room : Int) (a0Target : Int) (a0Once : List Int) (a0Often : List Int) (a0WasOnce : List Int) (a0WasOften : List Int) (key1 : Int), F_impl_nextTarget a0Room a0Target a0Once a0Often a0WasOnce a0WasOften key1 (fun r0 => kk (.one (.c (.v (.int .i64 r0)))) []) → motive [.agg [.v (.int .i64 a0Room), .v (.int .i64 a0Target), .ro .int a0Once, .ro .int a0Often, .ro .int a0WasOnce, .ro .int a0WasOften], .c (.v (.int .i64 key1))]) : motive vs := by
  unfold con_impl_nextTarget at h
  dsimp only at h
  split at h
  · exact H _ _ _ _ _ _ _ h
  · exact h.elim
theorem h_impl_nextTarget : Holds Try.prog 104 con_impl_nextTarget := by
  refine holds_of_ev (rt := [.c .sc]) (T := TT) (Γ := cs_impl_nextTarget) (an := an_impl_nextTarget) (N := 41) (c := Try.f104.body.getD .skip) Try.func104 (by kernel_rfl) Try.ntmps104 (by decide) (by decide) mixed tabOK cok_impl_nextTarget (by kernel_rfl) ?_
  intro vs kk _ hF
  exact i_impl_nextTarget (motive := fun vs => Goes (ev TT cs_impl_nextTarget 41 an_impl_nextTarget (Try.f104.body.getD .skip) (st0 con_impl_nextTarget vs) (fin TT con_impl_nextTarget Try.f104.results.toList [.c .sc] vs kk))) hF (fun a0Room a0Target a0Once a0Often a0WasOnce a0WasOften key1 hF => goes_of (e_impl_nextTarget a0Room a0Target a0Once a0Often a0WasOnce a0WasOften key1 kk) (F_impl_nextTarget_S hF))
def con_impl_UseLists : Con := ⟨[.rd, .rd], true, [.agg [.sc, .sc, .sl .int, .sl .int, .sl .int, .sl .int], .c (.sc)], fun vs k => match vs with
    | [.agg [.v (.int .i64 a0Room), .v (.int .i64 a0Target), .ro .int a0Once, .ro .int a0Often, .ro .int a0WasOnce, .ro .int a0WasOften], .c (.v (.int .i64 key1))] => F_impl_UseLists a0Room a0Target a0Once a0Often a0WasOnce a0WasOften key1 (fun r0 r1 r2 r3 r4 r5 r6 => k (.tup [.agg [.v (.int .i64 r0), .v (.int .i64 r1), .ro .int r2, .ro .int r3, .ro .int r4, .ro .int r5], .c (.v (.bool r6))]) [])
    | _ => False, false⟩
def cl_impl_UseLists : List (FuncId × Con) := [(43, con_slices_Contains_sint_int), (44, con_impl_withoutKey), (62, con_impl_validKey), (63, con_impl_putFirst), (103, con_impl_ValidLists), (104, con_impl_nextTarget)]
def nm5_impl_UseLists : List NStep := [.keep [0, 1000001, 1000004, 1000006, 1000007, 1000009] [96, 90300, 496, 90301, 90302, 64]]
def nm4_impl_UseLists : List NStep := [.keep [0, 4, 5, 1000001, 1000004, 1000006, 1000007, 1000009] [96, 90300, 496, 90301, 90302, 64]]
def nm3_impl_UseLists : List NStep := [.ownc 96 2 .int 90300, .ownc 96 4 .int 90301, .ownc 96 5 .int 90302, .keep [1, 4, 6, 7, 8, 9] [64, 96, 90300, 496, 90301, 90302]]
def nm2_impl_UseLists : List NStep := [.keep [1, 4, 6, 7, 8, 9] [64, 96, 432, 496, 560, 624]]
def nm1_impl_UseLists : List NStep := [.keep [1, 2, 4, 6, 7] [32, 64, 96, 432, 496, 560, 624]]
def nm0_impl_UseLists : List NStep := [.keep [1, 2, 4, 6] [32, 64, 96, 432, 496, 560, 624]]
def an_impl_UseLists_i9 : Ann := ⟨[], [], [], []⟩
def cs_impl_UseLists_i9 : Cons := ⟨cl_impl_UseLists, [], 5328, [], [], []⟩
def an_impl_UseLists_i8 : Ann := ⟨[], [], [], []⟩
def cs_impl_UseLists_i8 : Cons := ⟨cl_impl_UseLists, [], 5184, [], [], []⟩
def an_impl_UseLists_i7 : Ann := ⟨[], [], [], []⟩
def cs_impl_UseLists_i7 : Cons := ⟨cl_impl_UseLists, [], 5040, [], [], []⟩
def an_impl_UseLists_i6 : Ann := ⟨[(0, .take 0 (.take 1 (.take 2 (.take 3 (.take 4 (.take 5 (.take 6 (.take 7 (.take 8 (.take 9 (.take 10 (.take 11 (.done)))))))))))), [96]), (1, .take 0 (.take 1 (.take 2 (.take 3 (.take 4 (.take 5 (.take 6 (.take 7 (.take 8 (.take 9 (.take 10 (.take 11 (.done)))))))))))), [96])], [], [], []⟩
def cs_impl_UseLists_i6 : Cons := ⟨cl_impl_UseLists, [(46, ⟨64, inlG TT cs_impl_UseLists_i7 82 8 an_impl_UseLists_i7 (Try.f64.body.getD .skip) Try.f64.results.toList⟩), (61, ⟨64, inlG TT cs_impl_UseLists_i8 82 8 an_impl_UseLists_i8 (Try.f64.body.getD .skip) Try.f64.results.toList⟩), (79, ⟨64, inlG TT cs_impl_UseLists_i9 82 8 an_impl_UseLists_i9 (Try.f64.body.getD .skip) Try.f64.results.toList⟩)], 3712, [], [], []⟩
def an_impl_UseLists_i5 : Ann := ⟨[], [], [], []⟩
def cs_impl_UseLists_i5 : Cons := ⟨cl_impl_UseLists, [], 3568, [], [], []⟩
def an_impl_UseLists_i4 : Ann := ⟨[(1, .take 0 (.take 2 (.take 3 (.take 4 (.take 5 (.take 6 (.take 7 (.alt 1 (.alt 8 (.alt 9 (.take 10 (.take 11 (.done))) (.none)) (.none)) (.alt 8 (.alt 1 (.alt 9 (.take 10 (.take 11 (.done))) (.none)) (.none)) (.none))))))))), [])], [], [], []⟩
def cs_impl_UseLists_i4 : Cons := ⟨cl_impl_UseLists, [(7, ⟨64, inlG TT cs_impl_UseLists_i5 16 8 an_impl_UseLists_i5 (Try.f64.body.getD .skip) Try.f64.results.toList⟩)], 3296, [], [], []⟩
def an_impl_UseLists_i3 : Ann := ⟨[], [], [], []⟩
def cs_impl_UseLists_i3 : Cons := ⟨cl_impl_UseLists, [], 3152, [], [], []⟩
def an_impl_UseLists_i2 : Ann := ⟨[(1, .take 0 (.take 2 (.take 3 (.take 4 (.take 5 (.take 6 (.take 7 (.alt 1 (.alt 8 (.alt 9 (.take 10 (.take 11 (.done))) (.none)) (.none)) (.alt 8 (.alt 1 (.alt 9 (.take 10 (.take 11 (.done))) (.none)) (.none)) (.none))))))))), [])], [], [], []⟩
def cs_impl_UseLists_i2 : Cons := ⟨cl_impl_UseLists, [(7, ⟨64, inlG TT cs_impl_UseLists_i3 16 8 an_impl_UseLists_i3 (Try.f64.body.getD .skip) Try.f64.results.toList⟩)], 2880, [], [], []⟩
def an_impl_UseLists_i1 : Ann := ⟨[(0, .take 0 (.take 1 (.take 2 (.take 3 (.take 4 (.take 5 (.take 6 (.take 7 (.take 8 (.take 9 (.take 10 (.done))))))))))), [96]), (1, .take 0 (.take 1 (.take 2 (.take 3 (.take 4 (.take 5 (.take 6 (.take 7 (.take 8 (.take 9 (.take 10 (.take 11 (.take 12 (.take 13 (.take 14 (.take 15 (.take 16 (.take 17 (.take 18 (.take 19 (.take 20 (.take 21 (.done)))))))))))))))))))))), [96]), (3, .take 0 (.take 1 (.take 2 (.take 3 (.take 4 (.take 6 (.take 7 (.take 8 (.alt 5 (.alt 9 (.alt 10 (.take 11 (.take 12 (.take 13 (.take 14 (.take 15 (.alt 16 (.take 17 (.take 18 (.alt 19 (.done) (.none)))) (.none))))))) (.none)) (.none)) (.alt 9 (.alt 5 (.alt 10 (.take 11 (.take 12 (.take 13 (.take 14 (.take 15 (.alt 16 (.take 17 (.take 18 (.alt 19 (.done) (.none)))) (.none))))))) (.none)) (.none)) (.none)))))))))), []), (4, .take 0 (.take 1 (.take 2 (.take 3 (.take 4 (.take 6 (.take 7 (.take 8 (.alt 5 (.alt 9 (.alt 10 (.take 11 (.take 12 (.take 13 (.take 14 (.take 15 (.alt 16 (.take 17 (.take 18 (.alt 19 (.done) (.none)))) (.none))))))) (.none)) (.none)) (.alt 9 (.alt 5 (.alt 10 (.take 11 (.take 12 (.take 13 (.take 14 (.take 15 (.alt 16 (.take 17 (.take 18 (.alt 19 (.done) (.none)))) (.none))))))) (.none)) (.none)) (.none)))))))))), [])], [], [(3, nm5_impl_UseLists), (2, nm4_impl_UseLists)], []⟩
def cs_impl_UseLists_i1 : Cons := ⟨cl_impl_UseLists, [(60, ⟨127, inlG TT cs_impl_UseLists_i2 85 16 an_impl_UseLists_i2 (Try.f127.body.getD .skip) Try.f127.results.toList⟩), (78, ⟨127, inlG TT cs_impl_UseLists_i4 85 16 an_impl_UseLists_i4 (Try.f127.body.getD .skip) Try.f127.results.toList⟩)], 1504, [], [], []⟩
def an_impl_UseLists : Ann := ⟨[(3, .take 0 (.take 1 (.take 2 (.take 3 (.take 5 (.take 6 (.take 7 (.take 9 (.take 10 (.take 11 (.take 13 (.take 14 (.take 15 (.take 17 (.take 18 (.take 19 (.alt 4 (.alt 8 (.alt 12 (.alt 16 (.alt 20 (.take 21 (.alt 22 (.alt 23 (.done) (.none)) (.none))) (.alt 22 (.alt 20 (.take 21 (.alt 23 (.done) (.none))) (.none)) (.none))) (.alt 22 (.alt 16 (.alt 20 (.take 21 (.alt 23 (.done) (.none))) (.none)) (.none)) (.none))) (.alt 22 (.alt 12 (.alt 16 (.alt 20 (.take 21 (.alt 23 (.done) (.none))) (.none)) (.none)) (.none)) (.none))) (.alt 22 (.alt 8 (.alt 12 (.alt 16 (.alt 20 (.take 21 (.alt 23 (.done) (.none))) (.none)) (.none)) (.none)) (.none)) (.none))) (.alt 22 (.alt 4 (.alt 8 (.alt 12 (.alt 16 (.alt 20 (.take 21 (.alt 23 (.done) (.none))) (.none)) (.none)) (.none)) (.none)) (.none)) (.none)))))))))))))))))), [32])], [], [(9, nm3_impl_UseLists), (7, nm2_impl_UseLists), (5, nm1_impl_UseLists), (4, nm0_impl_UseLists)], []⟩
def cs_impl_UseLists : Cons := ⟨cl_impl_UseLists, [(67, ⟨105, inlG TT cs_impl_UseLists_i6 93 82 an_impl_UseLists_i6 (Try.f105.body.getD .skip) Try.f105.results.toList⟩), (79, ⟨106, inlG TT cs_impl_UseLists_i1 93 85 an_impl_UseLists_i1 (Try.f106.body.getD .skip) Try.f106.results.toList⟩)], 0, [], [], []⟩
def can5_impl_UseLists (a0Room : Int) (key1 : Int) (nextTarget23 : Int) (withoutKey31 : List Int) (xb6c2 : List Int) (xb6c4 : List Int) (xb6c5 : List Int) (xhit7 : Bool) (xknown9 : Bool) : St := ⟨[(0, .one (.c (.pb 96 0))), (1000001, .one (.c (.v (.int .i64 key1)))), (1000004, .one (.c (.pb 64 0))), (1000006, .one (.c (.pb 96 0))), (1000007, .one (.c (.v (.bool xhit7)))), (1000009, .one (.c (.v (.bool xknown9))))], [(96, .box [.v (.int .i64 a0Room), .v (.int .i64 nextTarget23), .ow 90300, .ow 496, .ow 90301, .ow 90302]), (90300, .row .int xb6c2), (496, .row .int withoutKey31), (90301, .row .int xb6c4), (90302, .row .int xb6c5), (64, .box [.v (.int .i64 0), .v (.int .i64 0), .nil, .nil, .nil, .nil])]⟩
def can4_impl_UseLists (a0Room : Int) (key1 : Int) (nextTarget23 : Int) (withoutKey31 : List Int) (xb6c2 : List Int) (xb6c4 : List Int) (xb6c5 : List Int) (xhit7 : Bool) (xknown9 : Bool) (xmany4i1 : Bool) (xenough5i1 : Bool) : St := ⟨[(0, .one (.c (.pb 96 0))), (4, .one (.c (.v (.bool xmany4i1)))), (5, .one (.c (.v (.bool xenough5i1)))), (1000001, .one (.c (.v (.int .i64 key1)))), (1000004, .one (.c (.pb 64 0))), (1000006, .one (.c (.pb 96 0))), (1000007, .one (.c (.v (.bool xhit7)))), (1000009, .one (.c (.v (.bool xknown9))))], [(96, .box [.v (.int .i64 a0Room), .v (.int .i64 nextTarget23), .ow 90300, .ow 496, .ow 90301, .ow 90302]), (90300, .row .int xb6c2), (496, .row .int withoutKey31), (90301, .row .int xb6c4), (90302, .row .int xb6c5), (64, .box [.v (.int .i64 0), .v (.int .i64 0), .nil, .nil, .nil, .nil])]⟩
def can3_impl_UseLists (a0Room : Int) (contains54 : Bool) (key1 : Int) (nextTarget23 : Int) (withoutKey31 : List Int) (xhit7 : Bool) (xknown9 : Bool) (xb6c2 : List Int) (xb6c4 : List Int) (xb6c5 : List Int) : St := ⟨[(1, .one (.c (.v (.int .i64 key1)))), (4, .one (.c (.pb 64 0))), (6, .one (.c (.pb 96 0))), (7, .one (.c (.v (.bool xhit7)))), (8, .one (.c (.v (.bool contains54)))), (9, .one (.c (.v (.bool xknown9))))], [(64, .box [.v (.int .i64 0), .v (.int .i64 0), .nil, .nil, .nil, .nil]), (96, .box [.v (.int .i64 a0Room), .v (.int .i64 nextTarget23), .ow 90300, .ow 496, .ow 90301, .ow 90302]), (90300, .row .int xb6c2), (496, .row .int withoutKey31), (90301, .row .int xb6c4), (90302, .row .int xb6c5)]⟩
def can2_impl_UseLists (a0Room : Int) (contains54 : Bool) (key1 : Int) (nextTarget23 : Int) (withoutKey27 : List Int) (withoutKey31 : List Int) (withoutKey35 : List Int) (withoutKey39 : List Int) (xhit7 : Bool) (xknown9 : Bool) : St := ⟨[(1, .one (.c (.v (.int .i64 key1)))), (4, .one (.c (.pb 64 0))), (6, .one (.c (.pb 96 0))), (7, .one (.c (.v (.bool xhit7)))), (8, .one (.c (.v (.bool contains54)))), (9, .one (.c (.v (.bool xknown9))))], [(64, .box [.v (.int .i64 0), .v (.int .i64 0), .nil, .nil, .nil, .nil]), (96, .box [.v (.int .i64 a0Room), .v (.int .i64 nextTarget23), .ow 432, .ow 496, .ow 560, .ow 624]), (432, .row .int withoutKey27), (496, .row .int withoutKey31), (560, .row .int withoutKey35), (624, .row .int withoutKey39)]⟩
def can1_impl_UseLists (a0Often : List Int) (a0Once : List Int) (a0Room : Int) (a0Target : Int) (a0WasOften : List Int) (a0WasOnce : List Int) (key1 : Int) (nextTarget23 : Int) (withoutKey27 : List Int) (withoutKey31 : List Int) (withoutKey35 : List Int) (withoutKey39 : List Int) (xhit7 : Bool) : St := ⟨[(1, .one (.c (.v (.int .i64 key1)))), (2, .one (.c (.pb 32 0))), (4, .one (.c (.pb 64 0))), (6, .one (.c (.pb 96 0))), (7, .one (.c (.v (.bool xhit7))))], [(32, .box [.v (.int .i64 a0Room), .v (.int .i64 a0Target), .ro .int a0Once, .ro .int a0Often, .ro .int a0WasOnce, .ro .int a0WasOften]), (64, .box [.v (.int .i64 0), .v (.int .i64 0), .nil, .nil, .nil, .nil]), (96, .box [.v (.int .i64 a0Room), .v (.int .i64 nextTarget23), .ow 432, .ow 496, .ow 560, .ow 624]), (432, .row .int withoutKey27), (496, .row .int withoutKey31), (560, .row .int withoutKey35), (624, .row .int withoutKey39)]⟩
def can0_impl_UseLists (a0Often : List Int) (a0Once : List Int) (a0Room : Int) (a0Target : Int) (a0WasOften : List Int) (a0WasOnce : List Int) (key1 : Int) (nextTarget23 : Int) (withoutKey27 : List Int) (withoutKey31 : List Int) (withoutKey35 : List Int) (withoutKey39 : List Int) : St := ⟨[(1, .one (.c (.v (.int .i64 key1)))), (2, .one (.c (.pb 32 0))), (4, .one (.c (.pb 64 0))), (6, .one (.c (.pb 96 0)))], [(32, .box [.v (.int .i64 a0Room), .v (.int .i64 a0Target), .ro .int a0Once, .ro .int a0Often, .ro .int a0WasOnce, .ro .int a0WasOften]), (64, .box [.v (.int .i64 0), .v (.int .i64 0), .nil, .nil, .nil, .nil]), (96, .box [.v (.int .i64 a0Room), .v (.int .i64 nextTarget23), .ow 432, .ow 496, .ow 560, .ow 624]), (432, .row .int withoutKey27), (496, .row .int withoutKey31), (560, .row .int withoutKey35), (624, .row .int withoutKey39)]⟩
def fin_impl_UseLists (a0Room : Int) (a0Target : Int) (a0Once : List Int) (a0Often : List Int) (a0WasOnce : List Int) (a0WasOften : List Int) (key1 : Int) (kk : AV → List A1 → Prop) : Kt := fin TT con_impl_UseLists Try.f58.results.toList [.agg [.sc, .sc, .sl .int, .sl .int, .sl .int, .sl .int], .c .sc] [.agg [.v (.int .i64 a0Room), .v (.int .i64 a0Target), .ro .int a0Once, .ro .int a0Often, .ro .int a0WasOnce, .ro .int a0WasOften], .c (.v (.int .i64 key1))] kk
def kt5_impl_UseLists (kf : Kt) : Kt := inlK TT 93 Try.f106 (some 79) (regK TT cs_impl_UseLists 93 1 (seqK (evF TT cs_impl_UseLists 93 an_impl_UseLists Try.f58 [1, 1, 1, 1, 1, 1, 1, 1]) (kf)) (subc [1, 1, 1, 1, 1, 1, 1, 0, 1, 0] (Try.f58.body.getD .skip)))
def kt4_impl_UseLists (kf : Kt) : Kt := seqK (evF TT cs_impl_UseLists_i1 85 an_impl_UseLists_i1 Try.f106 [1, 1, 1]) (inlK TT 93 Try.f106 (some 79) (regK TT cs_impl_UseLists 93 1 (seqK (evF TT cs_impl_UseLists 93 an_impl_UseLists Try.f58 [1, 1, 1, 1, 1, 1, 1, 1]) (kf)) (subc [1, 1, 1, 1, 1, 1, 1, 0, 1, 0] (Try.f58.body.getD .skip))))
def kt3_impl_UseLists (kf : Kt) : Kt := seqK (evF TT cs_impl_UseLists 93 an_impl_UseLists Try.f58 [1, 1, 1, 1, 1, 1, 1, 0, 1]) (seqK (evF TT cs_impl_UseLists 93 an_impl_UseLists Try.f58 [1, 1, 1, 1, 1, 1, 1, 1]) (kf))
def kt2_impl_UseLists (kf : Kt) : Kt := seqK (evF TT cs_impl_UseLists 93 an_impl_UseLists Try.f58 [1, 1, 1, 1, 1, 1, 0, 1]) (seqK (evF TT cs_impl_UseLists 93 an_impl_UseLists Try.f58 [1, 1, 1, 1, 1, 1, 1]) (kf))
def kt1_impl_UseLists (kf : Kt) : Kt := seqK (evF TT cs_impl_UseLists 93 an_impl_UseLists Try.f58 [1, 1, 1, 1, 1]) (kf)
def kt0_impl_UseLists (kf : Kt) : Kt := seqK (evF TT cs_impl_UseLists 93 an_impl_UseLists Try.f58 [1, 1, 1, 1]) (kf)
theorem r5_impl_UseLists (a0Room : Int) (a0Target : Int) (a0Once : List Int) (a0Often : List Int) (a0WasOnce : List Int) (a0WasOften : List Int) (key1 : Int) (nextTarget23 : Int) (withoutKey31 : List Int) (xb6c2 : List Int) (xb6c4 : List Int) (xb6c5 : List Int) (xhit7 : Bool) (xknown9 : Bool) (kk : AV → List A1 → Prop) :
    evRunC TT cs_impl_UseLists_i1 85 an_impl_UseLists_i1 (subc [1, 1, 1, 0] (Try.f106.body.getD .skip)) (can5_impl_UseLists a0Room key1 nextTarget23 withoutKey31 xb6c2 xb6c4 xb6c5 xhit7 xknown9) (kt5_impl_UseLists (fin_impl_UseLists a0Room a0Target a0Once a0Often a0WasOnce a0WasOften key1 kk)) = T5_impl_UseLists a0Room key1 nextTarget23 withoutKey31 xb6c2 xb6c4 xb6c5 xhit7 xknown9 (fun r0 r1 r2 r3 r4 r5 r6 => kk (.tup [.agg [.v (.int .i64 r0), .v (.int .i64 r1), .ro .int r2, .ro .int r3, .ro .int r4, .ro .int r5], .c (.v (.bool r6))]) []) := by kernel_rfl
theorem l5_impl_UseLists (a0Room : Int) (a0Target : Int) (a0Once : List Int) (a0Often : List Int) (a0WasOnce : List Int) (a0WasOften : List Int) (key1 : Int) (nextTarget23 : Int) (withoutKey31 : List Int) (xb6c2 : List Int) (xb6c4 : List Int) (xb6c5 : List Int) (xhit7 : Bool) (xknown9 : Bool) (kk : AV → List A1 → Prop) : evRunC TT cs_impl_UseLists_i1 85 an_impl_UseLists_i1 (subc [1, 1, 1, 0] (Try.f106.body.getD .skip)) (can5_impl_UseLists a0Room key1 nextTarget23 withoutKey31 xb6c2 xb6c4 xb6c5 xhit7 xknown9) (kt5_impl_UseLists (fin_impl_UseLists a0Room a0Target a0Once a0Often a0WasOnce a0WasOften key1 kk)) = L5_impl_UseLists a0Room key1 nextTarget23 withoutKey31 xb6c2 xb6c4 xb6c5 xhit7 xknown9 (fun r0 r1 r2 r3 r4 r5 r6 => kk (.tup [.agg [.v (.int .i64 r0), .v (.int .i64 r1), .ro .int r2, .ro .int r3, .ro .int r4, .ro .int r5], .c (.v (.bool r6))]) []) := by
  rw [r5_impl_UseLists a0Room a0Target a0Once a0Often a0WasOnce a0WasOften key1 nextTarget23 withoutKey31 xb6c2 xb6c4 xb6c5 xhit7 xknown9 kk]
  rw [T5_impl_UseLists_eq]
  rfl
theorem r4_impl_UseLists (a0Room : Int) (a0Target : Int) (a0Once : List Int) (a0Often : List Int) (a0WasOnce : List Int) (a0WasOften : List Int) (key1 : Int) (nextTarget23 : Int) (withoutKey31 : List Int) (xb6c2 : List Int) (xb6c4 : List Int) (xb6c5 : List Int) (xhit7 : Bool) (xknown9 : Bool) (kk : AV → List A1 → Prop) (xmany4i1 : Bool) (xenough5i1 : Bool) :
    evRunC TT cs_impl_UseLists_i1 85 an_impl_UseLists_i1 (subc [1, 1, 0] (Try.f106.body.getD .skip)) (can4_impl_UseLists a0Room key1 nextTarget23 withoutKey31 xb6c2 xb6c4 xb6c5 xhit7 xknown9 xmany4i1 xenough5i1) (kt4_impl_UseLists (fin_impl_UseLists a0Room a0Target a0Once a0Often a0WasOnce a0WasOften key1 kk)) = T4_impl_UseLists a0Room key1 nextTarget23 withoutKey31 xb6c2 xb6c4 xb6c5 xhit7 xknown9 xmany4i1 xenough5i1 (fun r0 r1 r2 r3 r4 r5 r6 => kk (.tup [.agg [.v (.int .i64 r0), .v (.int .i64 r1), .ro .int r2, .ro .int r3, .ro .int r4, .ro .int r5], .c (.v (.bool r6))]) []) (fun a0Room key1 nextTarget23 withoutKey31 xb6c2 xb6c4 xb6c5 xhit7 xknown9 => Meets (evRunC TT cs_impl_UseLists_i1 85 an_impl_UseLists_i1 (subc [1, 1, 1, 0] (Try.f106.body.getD .skip)) (can5_impl_UseLists a0Room key1 nextTarget23 withoutKey31 xb6c2 xb6c4 xb6c5 xhit7 xknown9) (kt5_impl_UseLists (fin_impl_UseLists a0Room a0Target a0Once a0Often a0WasOnce a0WasOften key1 kk)))) := by kernel_rfl
theorem l4_impl_UseLists (a0Room : Int) (a0Target : Int) (a0Once : List Int) (a0Often : List Int) (a0WasOnce : List Int) (a0WasOften : List Int) (key1 : Int) (nextTarget23 : Int) (withoutKey31 : List Int) (xb6c2 : List Int) (xb6c4 : List Int) (xb6c5 : List Int) (xhit7 : Bool) (xknown9 : Bool) (kk : AV → List A1 → Prop) (xmany4i1 : Bool) (xenough5i1 : Bool) : evRunC TT cs_impl_UseLists_i1 85 an_impl_UseLists_i1 (subc [1, 1, 0] (Try.f106.body.getD .skip)) (can4_impl_UseLists a0Room key1 nextTarget23 withoutKey31 xb6c2 xb6c4 xb6c5 xhit7 xknown9 xmany4i1 xenough5i1) (kt4_impl_UseLists (fin_impl_UseLists a0Room a0Target a0Once a0Often a0WasOnce a0WasOften key1 kk)) = L4_impl_UseLists a0Room key1 nextTarget23 withoutKey31 xb6c2 xb6c4 xb6c5 xhit7 xknown9 (fun r0 r1 r2 r3 r4 r5 r6 => kk (.tup [.agg [.v (.int .i64 r0), .v (.int .i64 r1), .ro .int r2, .ro .int r3, .ro .int r4, .ro .int r5], .c (.v (.bool r6))]) []) xmany4i1 xenough5i1 := by
  rw [r4_impl_UseLists a0Room a0Target a0Once a0Often a0WasOnce a0WasOften key1 nextTarget23 withoutKey31 xb6c2 xb6c4 xb6c5 xhit7 xknown9 kk xmany4i1 xenough5i1]
  have hi5 : (fun a0Room key1 nextTarget23 withoutKey31 xb6c2 xb6c4 xb6c5 xhit7 xknown9 => Meets (evRunC TT cs_impl_UseLists_i1 85 an_impl_UseLists_i1 (subc [1, 1, 1, 0] (Try.f106.body.getD .skip)) (can5_impl_UseLists a0Room key1 nextTarget23 withoutKey31 xb6c2 xb6c4 xb6c5 xhit7 xknown9) (kt5_impl_UseLists (fin_impl_UseLists a0Room a0Target a0Once a0Often a0WasOnce a0WasOften key1 kk)))) = (fun a0Room key1 nextTarget23 withoutKey31 xb6c2 xb6c4 xb6c5 xhit7 xknown9 => L5_impl_UseLists a0Room key1 nextTarget23 withoutKey31 xb6c2 xb6c4 xb6c5 xhit7 xknown9 (fun r0 r1 r2 r3 r4 r5 r6 => kk (.tup [.agg [.v (.int .i64 r0), .v (.int .i64 r1), .ro .int r2, .ro .int r3, .ro .int r4, .ro .int r5], .c (.v (.bool r6))]) [])) := by
    funext a0Room key1 nextTarget23 withoutKey31 xb6c2 xb6c4 xb6c5 xhit7 xknown9
    rw [meets_eq, l5_impl_UseLists a0Room a0Target a0Once a0Often a0WasOnce a0WasOften key1 nextTarget23 withoutKey31 xb6c2 xb6c4 xb6c5 xhit7 xknown9 kk]
  rw [hi5]
  rw [T4_impl_UseLists_eq]
  rfl
theorem r3_impl_UseLists (a0Room : Int) (a0Target : Int) (a0Once : List Int) (a0Often : List Int) (a0WasOnce : List Int) (a0WasOften : List Int) (key1 : Int) (contains54 : Bool) (nextTarget23 : Int) (withoutKey31 : List Int) (xhit7 : Bool) (xknown9 : Bool) (kk : AV → List A1 → Prop) (xb6c2 : List Int) (xb6c4 : List Int) (xb6c5 : List Int) :
    evRunC TT cs_impl_UseLists 93 an_impl_UseLists (subc [1, 1, 1, 1, 1, 1, 1, 0, 0] (Try.f58.body.getD .skip)) (can3_impl_UseLists a0Room contains54 key1 nextTarget23 withoutKey31 xhit7 xknown9 xb6c2 xb6c4 xb6c5) (kt3_impl_UseLists (fin_impl_UseLists a0Room a0Target a0Once a0Often a0WasOnce a0WasOften key1 kk)) = T3_impl_UseLists a0Room contains54 key1 nextTarget23 withoutKey31 xhit7 xknown9 xb6c2 xb6c4 xb6c5 (fun r0 r1 r2 r3 r4 r5 r6 => kk (.tup [.agg [.v (.int .i64 r0), .v (.int .i64 r1), .ro .int r2, .ro .int r3, .ro .int r4, .ro .int r5], .c (.v (.bool r6))]) []) (fun a0Room key1 nextTarget23 withoutKey31 xb6c2 xb6c4 xb6c5 xhit7 xknown9 xmany4i1 xenough5i1 => Meets (evRunC TT cs_impl_UseLists_i1 85 an_impl_UseLists_i1 (subc [1, 1, 0] (Try.f106.body.getD .skip)) (can4_impl_UseLists a0Room key1 nextTarget23 withoutKey31 xb6c2 xb6c4 xb6c5 xhit7 xknown9 xmany4i1 xenough5i1) (kt4_impl_UseLists (fin_impl_UseLists a0Room a0Target a0Once a0Often a0WasOnce a0WasOften key1 kk)))) := by kernel_rfl
theorem l3_impl_UseLists (a0Room : Int) (a0Target : Int) (a0Once : List Int) (a0Often : List Int) (a0WasOnce : List Int) (a0WasOften : List Int) (key1 : Int) (contains54 : Bool) (nextTarget23 : Int) (withoutKey31 : List Int) (xhit7 : Bool) (xknown9 : Bool) (kk : AV → List A1 → Prop) (xb6c2 : List Int) (xb6c4 : List Int) (xb6c5 : List Int) : evRunC TT cs_impl_UseLists 93 an_impl_UseLists (subc [1, 1, 1, 1, 1, 1, 1, 0, 0] (Try.f58.body.getD .skip)) (can3_impl_UseLists a0Room contains54 key1 nextTarget23 withoutKey31 xhit7 xknown9 xb6c2 xb6c4 xb6c5) (kt3_impl_UseLists (fin_impl_UseLists a0Room a0Target a0Once a0Often a0WasOnce a0WasOften key1 kk)) = L3_impl_UseLists a0Room contains54 key1 nextTarget23 withoutKey31 xhit7 xknown9 (fun r0 r1 r2 r3 r4 r5 r6 => kk (.tup [.agg [.v (.int .i64 r0), .v (.int .i64 r1), .ro .int r2, .ro .int r3, .ro .int r4, .ro .int r5], .c (.v (.bool r6))]) []) xb6c2 xb6c4 xb6c5 := by
  rw [r3_impl_UseLists a0Room a0Target a0Once a0Often a0WasOnce a0WasOften key1 contains54 nextTarget23 withoutKey31 xhit7 xknown9 kk xb6c2 xb6c4 xb6c5]
  have hi4 : (fun a0Room key1 nextTarget23 withoutKey31 xb6c2 xb6c4 xb6c5 xhit7 xknown9 xmany4i1 xenough5i1 => Meets (evRunC TT cs_impl_UseLists_i1 85 an_impl_UseLists_i1 (subc [1, 1, 0] (Try.f106.body.getD .skip)) (can4_impl_UseLists a0Room key1 nextTarget23 withoutKey31 xb6c2 xb6c4 xb6c5 xhit7 xknown9 xmany4i1 xenough5i1) (kt4_impl_UseLists (fin_impl_UseLists a0Room a0Target a0Once a0Often a0WasOnce a0WasOften key1 kk)))) = (fun a0Room key1 nextTarget23 withoutKey31 xb6c2 xb6c4 xb6c5 xhit7 xknown9 xmany4i1 xenough5i1 => L4_impl_UseLists a0Room key1 nextTarget23 withoutKey31 xb6c2 xb6c4 xb6c5 xhit7 xknown9 (fun r0 r1 r2 r3 r4 r5 r6 => kk (.tup [.agg [.v (.int .i64 r0), .v (.int .i64 r1), .ro .int r2, .ro .int r3, .ro .int r4, .ro .int r5], .c (.v (.bool r6))]) []) xmany4i1 xenough5i1) := by
    funext a0Room key1 nextTarget23 withoutKey31 xb6c2 xb6c4 xb6c5 xhit7 xknown9 xmany4i1 xenough5i1
    rw [meets_eq, l4_impl_UseLists a0Room a0Target a0Once a0Often a0WasOnce a0WasOften key1 nextTarget23 withoutKey31 xb6c2 xb6c4 xb6c5 xhit7 xknown9 kk xmany4i1 xenough5i1]
  rw [hi4]
  rfl
theorem r2_impl_UseLists (a0Room : Int) (a0Target : Int) (a0Once : List Int) (a0Often : List Int) (a0WasOnce : List Int) (a0WasOften : List Int) (key1 : Int) (contains54 : Bool) (nextTarget23 : Int) (withoutKey27 : List Int) (withoutKey31 : List Int) (withoutKey35 : List Int) (withoutKey39 : List Int) (xhit7 : Bool) (kk : AV → List A1 → Prop) (xknown9 : Bool) :
    evRunC TT cs_impl_UseLists 93 an_impl_UseLists (subc [1, 1, 1, 1, 1, 1, 0, 0] (Try.f58.body.getD .skip)) (can2_impl_UseLists a0Room contains54 key1 nextTarget23 withoutKey27 withoutKey31 withoutKey35 withoutKey39 xhit7 xknown9) (kt2_impl_UseLists (fin_impl_UseLists a0Room a0Target a0Once a0Often a0WasOnce a0WasOften key1 kk)) = T2_impl_UseLists a0Room contains54 key1 nextTarget23 withoutKey27 withoutKey31 withoutKey35 withoutKey39 xhit7 xknown9 (fun a0Room contains54 key1 nextTarget23 withoutKey31 xhit7 xknown9 xb6c2 xb6c4 xb6c5 => Meets (evRunC TT cs_impl_UseLists 93 an_impl_UseLists (subc [1, 1, 1, 1, 1, 1, 1, 0, 0] (Try.f58.body.getD .skip)) (can3_impl_UseLists a0Room contains54 key1 nextTarget23 withoutKey31 xhit7 xknown9 xb6c2 xb6c4 xb6c5) (kt3_impl_UseLists (fin_impl_UseLists a0Room a0Target a0Once a0Often a0WasOnce a0WasOften key1 kk)))) := by kernel_rfl
theorem l2_impl_UseLists (a0Room : Int) (a0Target : Int) (a0Once : List Int) (a0Often : List Int) (a0WasOnce : List Int) (a0WasOften : List Int) (key1 : Int) (contains54 : Bool) (nextTarget23 : Int) (withoutKey27 : List Int) (withoutKey31 : List Int) (withoutKey35 : List Int) (withoutKey39 : List Int) (xhit7 : Bool) (kk : AV → List A1 → Prop) (xknown9 : Bool) : evRunC TT cs_impl_UseLists 93 an_impl_UseLists (subc [1, 1, 1, 1, 1, 1, 0, 0] (Try.f58.body.getD .skip)) (can2_impl_UseLists a0Room contains54 key1 nextTarget23 withoutKey27 withoutKey31 withoutKey35 withoutKey39 xhit7 xknown9) (kt2_impl_UseLists (fin_impl_UseLists a0Room a0Target a0Once a0Often a0WasOnce a0WasOften key1 kk)) = L2_impl_UseLists a0Room contains54 key1 nextTarget23 withoutKey27 withoutKey31 withoutKey35 withoutKey39 xhit7 (fun r0 r1 r2 r3 r4 r5 r6 => kk (.tup [.agg [.v (.int .i64 r0), .v (.int .i64 r1), .ro .int r2, .ro .int r3, .ro .int r4, .ro .int r5], .c (.v (.bool r6))]) []) xknown9 := by
  rw [r2_impl_UseLists a0Room a0Target a0Once a0Often a0WasOnce a0WasOften key1 contains54 nextTarget23 withoutKey27 withoutKey31 withoutKey35 withoutKey39 xhit7 kk xknown9]
  have hi3 : (fun a0Room contains54 key1 nextTarget23 withoutKey31 xhit7 xknown9 xb6c2 xb6c4 xb6c5 => Meets (evRunC TT cs_impl_UseLists 93 an_impl_UseLists (subc [1, 1, 1, 1, 1, 1, 1, 0, 0] (Try.f58.body.getD .skip)) (can3_impl_UseLists a0Room contains54 key1 nextTarget23 withoutKey31 xhit7 xknown9 xb6c2 xb6c4 xb6c5) (kt3_impl_UseLists (fin_impl_UseLists a0Room a0Target a0Once a0Often a0WasOnce a0WasOften key1 kk)))) = (fun a0Room contains54 key1 nextTarget23 withoutKey31 xhit7 xknown9 xb6c2 xb6c4 xb6c5 => L3_impl_UseLists a0Room contains54 key1 nextTarget23 withoutKey31 xhit7 xknown9 (fun r0 r1 r2 r3 r4 r5 r6 => kk (.tup [.agg [.v (.int .i64 r0), .v (.int .i64 r1), .ro .int r2, .ro .int r3, .ro .int r4, .ro .int r5], .c (.v (.bool r6))]) []) xb6c2 xb6c4 xb6c5) := by
    funext a0Room contains54 key1 nextTarget23 withoutKey31 xhit7 xknown9 xb6c2 xb6c4 xb6c5
    rw [meets_eq, l3_impl_UseLists a0Room a0Target a0Once a0Often a0WasOnce a0WasOften key1 contains54 nextTarget23 withoutKey31 xhit7 xknown9 kk xb6c2 xb6c4 xb6c5]
  rw [hi3]
  rfl
theorem r1_impl_UseLists (a0Room : Int) (a0Target : Int) (a0Once : List Int) (a0Often : List Int) (a0WasOnce : List Int) (a0WasOften : List Int) (key1 : Int) (nextTarget23 : Int) (withoutKey27 : List Int) (withoutKey31 : List Int) (withoutKey35 : List Int) (withoutKey39 : List Int) (kk : AV → List A1 → Prop) (xhit7 : Bool) :
    evRunC TT cs_impl_UseLists 93 an_impl_UseLists (subc [1, 1, 1, 1, 0] (Try.f58.body.getD .skip)) (can1_impl_UseLists a0Often a0Once a0Room a0Target a0WasOften a0WasOnce key1 nextTarget23 withoutKey27 withoutKey31 withoutKey35 withoutKey39 xhit7) (kt1_impl_UseLists (fin_impl_UseLists a0Room a0Target a0Once a0Often a0WasOnce a0WasOften key1 kk)) = T1_impl_UseLists a0Often a0Once a0Room a0Target a0WasOften a0WasOnce key1 nextTarget23 withoutKey27 withoutKey31 withoutKey35 withoutKey39 xhit7 (fun a0Room contains54 key1 nextTarget23 withoutKey27 withoutKey31 withoutKey35 withoutKey39 xhit7 xknown9 => Meets (evRunC TT cs_impl_UseLists 93 an_impl_UseLists (subc [1, 1, 1, 1, 1, 1, 0, 0] (Try.f58.body.getD .skip)) (can2_impl_UseLists a0Room contains54 key1 nextTarget23 withoutKey27 withoutKey31 withoutKey35 withoutKey39 xhit7 xknown9) (kt2_impl_UseLists (fin_impl_UseLists a0Room a0Target a0Once a0Often a0WasOnce a0WasOften key1 kk)))) := by kernel_rfl
theorem l1_impl_UseLists (a0Room : Int) (a0Target : Int) (a0Once : List Int) (a0Often : List Int) (a0WasOnce : List Int) (a0WasOften : List Int) (key1 : Int) (nextTarget23 : Int) (withoutKey27 : List Int) (withoutKey31 : List Int) (withoutKey35 : List Int) (withoutKey39 : List Int) (kk : AV → List A1 → Prop) (xhit7 : Bool) : evRunC TT cs_impl_UseLists 93 an_impl_UseLists (subc [1, 1, 1, 1, 0] (Try.f58.body.getD .skip)) (can1_impl_UseLists a0Often a0Once a0Room a0Target a0WasOften a0WasOnce key1 nextTarget23 withoutKey27 withoutKey31 withoutKey35 withoutKey39 xhit7) (kt1_impl_UseLists (fin_impl_UseLists a0Room a0Target a0Once a0Often a0WasOnce a0WasOften key1 kk)) = L1_impl_UseLists a0Often a0Once a0Room a0Target a0WasOften a0WasOnce key1 nextTarget23 withoutKey27 withoutKey31 withoutKey35 withoutKey39 (fun r0 r1 r2 r3 r4 r5 r6 => kk (.tup [.agg [.v (.int .i64 r0), .v (.int .i64 r1), .ro .int r2, .ro .int r3, .ro .int r4, .ro .int r5], .c (.v (.bool r6))]) []) xhit7 := by
  rw [r1_impl_UseLists a0Room a0Target a0Once a0Often a0WasOnce a0WasOften key1 nextTarget23 withoutKey27 withoutKey31 withoutKey35 withoutKey39 kk xhit7]
  have hi2 : (fun a0Room contains54 key1 nextTarget23 withoutKey27 withoutKey31 withoutKey35 withoutKey39 xhit7 xknown9 => Meets (evRunC TT cs_impl_UseLists 93 an_impl_UseLists (subc [1, 1, 1, 1, 1, 1, 0, 0] (Try.f58.body.getD .skip)) (can2_impl_UseLists a0Room contains54 key1 nextTarget23 withoutKey27 withoutKey31 withoutKey35 withoutKey39 xhit7 xknown9) (kt2_impl_UseLists (fin_impl_UseLists a0Room a0Target a0Once a0Often a0WasOnce a0WasOften key1 kk)))) = (fun a0Room contains54 key1 nextTarget23 withoutKey27 withoutKey31 withoutKey35 withoutKey39 xhit7 xknown9 => L2_impl_UseLists a0Room contains54 key1 nextTarget23 withoutKey27 withoutKey31 withoutKey35 withoutKey39 xhit7 (fun r0 r1 r2 r3 r4 r5 r6 => kk (.tup [.agg [.v (.int .i64 r0), .v (.int .i64 r1), .ro .int r2, .ro .int r3, .ro .int r4, .ro .int r5], .c (.v (.bool r6))]) []) xknown9) := by
    funext a0Room contains54 key1 nextTarget23 withoutKey27 withoutKey31 withoutKey35 withoutKey39 xhit7 xknown9
    rw [meets_eq, l2_impl_UseLists a0Room a0Target a0Once a0Often a0WasOnce a0WasOften key1 contains54 nextTarget23 withoutKey27 withoutKey31 withoutKey35 withoutKey39 xhit7 kk xknown9]
  rw [hi2]
  rfl
theorem r0_impl_UseLists (a0Room : Int) (a0Target : Int) (a0Once : List Int) (a0Often : List Int) (a0WasOnce : List Int) (a0WasOften : List Int) (key1 : Int) (nextTarget23 : Int) (withoutKey27 : List Int) (withoutKey31 : List Int) (withoutKey35 : List Int) (withoutKey39 : List Int) (kk : AV → List A1 → Prop) :
    evRunC TT cs_impl_UseLists 93 an_impl_UseLists (subc [1, 1, 1, 0] (Try.f58.body.getD .skip)) (can0_impl_UseLists a0Often a0Once a0Room a0Target a0WasOften a0WasOnce key1 nextTarget23 withoutKey27 withoutKey31 withoutKey35 withoutKey39) (kt0_impl_UseLists (fin_impl_UseLists a0Room a0Target a0Once a0Often a0WasOnce a0WasOften key1 kk)) = T0_impl_UseLists a0Often a0Once a0Room a0Target a0WasOften a0WasOnce key1 nextTarget23 withoutKey27 withoutKey31 withoutKey35 withoutKey39 (fun a0Often a0Once a0Room a0Target a0WasOften a0WasOnce key1 nextTarget23 withoutKey27 withoutKey31 withoutKey35 withoutKey39 xhit7 => Meets (evRunC TT cs_impl_UseLists 93 an_impl_UseLists (subc [1, 1, 1, 1, 0] (Try.f58.body.getD .skip)) (can1_impl_UseLists a0Often a0Once a0Room a0Target a0WasOften a0WasOnce key1 nextTarget23 withoutKey27 withoutKey31 withoutKey35 withoutKey39 xhit7) (kt1_impl_UseLists (fin_impl_UseLists a0Room a0Target a0Once a0Often a0WasOnce a0WasOften key1 kk)))) := by kernel_rfl
theorem l0_impl_UseLists (a0Room : Int) (a0Target : Int) (a0Once : List Int) (a0Often : List Int) (a0WasOnce : List Int) (a0WasOften : List Int) (key1 : Int) (nextTarget23 : Int) (withoutKey27 : List Int) (withoutKey31 : List Int) (withoutKey35 : List Int) (withoutKey39 : List Int) (kk : AV → List A1 → Prop) : evRunC TT cs_impl_UseLists 93 an_impl_UseLists (subc [1, 1, 1, 0] (Try.f58.body.getD .skip)) (can0_impl_UseLists a0Often a0Once a0Room a0Target a0WasOften a0WasOnce key1 nextTarget23 withoutKey27 withoutKey31 withoutKey35 withoutKey39) (kt0_impl_UseLists (fin_impl_UseLists a0Room a0Target a0Once a0Often a0WasOnce a0WasOften key1 kk)) = L0_impl_UseLists a0Often a0Once a0Room a0Target a0WasOften a0WasOnce key1 nextTarget23 withoutKey27 withoutKey31 withoutKey35 withoutKey39 (fun r0 r1 r2 r3 r4 r5 r6 => kk (.tup [.agg [.v (.int .i64 r0), .v (.int .i64 r1), .ro .int r2, .ro .int r3, .ro .int r4, .ro .int r5], .c (.v (.bool r6))]) []) := by
  rw [r0_impl_UseLists a0Room a0Target a0Once a0Often a0WasOnce a0WasOften key1 nextTarget23 withoutKey27 withoutKey31 withoutKey35 withoutKey39 kk]
  have hi1 : (fun a0Often a0Once a0Room a0Target a0WasOften a0WasOnce key1 nextTarget23 withoutKey27 withoutKey31 withoutKey35 withoutKey39 xhit7 => Meets (evRunC TT cs_impl_UseLists 93 an_impl_UseLists (subc [1, 1, 1, 1, 0] (Try.f58.body.getD .skip)) (can1_impl_UseLists a0Often a0Once a0Room a0Target a0WasOften a0WasOnce key1 nextTarget23 withoutKey27 withoutKey31 withoutKey35 withoutKey39 xhit7) (kt1_impl_UseLists (fin_impl_UseLists a0Room a0Target a0Once a0Often a0WasOnce a0WasOften key1 kk)))) = (fun a0Often a0Once a0Room a0Target a0WasOften a0WasOnce key1 nextTarget23 withoutKey27 withoutKey31 withoutKey35 withoutKey39 xhit7 => L1_impl_UseLists a0Often a0Once a0Room a0Target a0WasOften a0WasOnce key1 nextTarget23 withoutKey27 withoutKey31 withoutKey35 withoutKey39 (fun r0 r1 r2 r3 r4 r5 r6 => kk (.tup [.agg [.v (.int .i64 r0), .v (.int .i64 r1), .ro .int r2, .ro .int r3, .ro .int r4, .ro .int r5], .c (.v (.bool r6))]) []) xhit7) := by
    funext a0Often a0Once a0Room a0Target a0WasOften a0WasOnce key1 nextTarget23 withoutKey27 withoutKey31 withoutKey35 withoutKey39 xhit7
    rw [meets_eq, l1_impl_UseLists a0Room a0Target a0Once a0Often a0WasOnce a0WasOften key1 nextTarget23 withoutKey27 withoutKey31 withoutKey35 withoutKey39 kk xhit7]
  rw [hi1]
  rfl
theorem g_impl_UseLists (a0Room : Int) (a0Target : Int) (a0Once : List Int) (a0Often : List Int) (a0WasOnce : List Int) (a0WasOften : List Int) (key1 : Int) (kk : AV → List A1 → Prop) :
    ev TT cs_impl_UseLists 93 an_impl_UseLists (Try.f58.body.getD .skip) (st0 con_impl_UseLists [.agg [.v (.int .i64 a0Room), .v (.int .i64 a0Target), .ro .int a0Once, .ro .int a0Often, .ro .int a0WasOnce, .ro .int a0WasOften], .c (.v (.int .i64 key1))]) (fin TT con_impl_UseLists Try.f58.results.toList [.agg [.sc, .sc, .sl .int, .sl .int, .sl .int, .sl .int], .c .sc] [.agg [.v (.int .i64 a0Room), .v (.int .i64 a0Target), .ro .int a0Once, .ro .int a0Often, .ro .int a0WasOnce, .ro .int a0WasOften], .c (.v (.int .i64 key1))] kk) = G_impl_UseLists a0Room a0Target a0Once a0Often a0WasOnce a0WasOften key1 (fun r0 r1 r2 r3 r4 r5 r6 => kk (.tup [.agg [.v (.int .i64 r0), .v (.int .i64 r1), .ro .int r2, .ro .int r3, .ro .int r4, .ro .int r5], .c (.v (.bool r6))]) []) (fun a0Often a0Once a0Room a0Target a0WasOften a0WasOnce key1 nextTarget23 withoutKey27 withoutKey31 withoutKey35 withoutKey39 => Meets (evRunC TT cs_impl_UseLists 93 an_impl_UseLists (subc [1, 1, 1, 0] (Try.f58.body.getD .skip)) (can0_impl_UseLists a0Often a0Once a0Room a0Target a0WasOften a0WasOnce key1 nextTarget23 withoutKey27 withoutKey31 withoutKey35 withoutKey39) (kt0_impl_UseLists (fin_impl_UseLists a0Room a0Target a0Once a0Often a0WasOnce a0WasOften key1 kk)))) := by kernel_rfl
theorem e_impl_UseLists (a0Room : Int) (a0Target : Int) (a0Once : List Int) (a0Often : List Int) (a0WasOnce : List Int) (a0WasOften : List Int) (key1 : Int) (kk : AV → List A1 → Prop) :
    ev TT cs_impl_UseLists 93 an_impl_UseLists (Try.f58.body.getD .skip) (st0 con_impl_UseLists [.agg [.v (.int .i64 a0Room), .v (.int .i64 a0Target), .ro .int a0Once, .ro .int a0Often, .ro .int a0WasOnce, .ro .int a0WasOften], .c (.v (.int .i64 key1))]) (fin TT con_impl_UseLists Try.f58.results.toList [.agg [.sc, .sc, .sl .int, .sl .int, .sl .int, .sl .int], .c .sc] [.agg [.v (.int .i64 a0Room), .v (.int .i64 a0Target), .ro .int a0Once, .ro .int a0Often, .ro .int a0WasOnce, .ro .int a0WasOften], .c (.v (.int .i64 key1))] kk) = S_impl_UseLists a0Room a0Target a0Once a0Often a0WasOnce a0WasOften key1 (fun r0 r1 r2 r3 r4 r5 r6 => kk (.tup [.agg [.v (.int .i64 r0), .v (.int .i64 r1), .ro .int r2, .ro .int r3, .ro .int r4, .ro .int r5], .c (.v (.bool r6))]) []) := by
  rw [g_impl_UseLists]
  have hi0 : (fun a0Often a0Once a0Room a0Target a0WasOften a0WasOnce key1 nextTarget23 withoutKey27 withoutKey31 withoutKey35 withoutKey39 => Meets (evRunC TT cs_impl_UseLists 93 an_impl_UseLists (subc [1, 1, 1, 0] (Try.f58.body.getD .skip)) (can0_impl_UseLists a0Often a0Once a0Room a0Target a0WasOften a0WasOnce key1 nextTarget23 withoutKey27 withoutKey31 withoutKey35 withoutKey39) (kt0_impl_UseLists (fin_impl_UseLists a0Room a0Target a0Once a0Often a0WasOnce a0WasOften key1 kk)))) = (fun a0Often a0Once a0Room a0Target a0WasOften a0WasOnce key1 nextTarget23 withoutKey27 withoutKey31 withoutKey35 withoutKey39 => L0_impl_UseLists a0Often a0Once a0Room a0Target a0WasOften a0WasOnce key1 nextTarget23 withoutKey27 withoutKey31 withoutKey35 withoutKey39 (fun r0 r1 r2 r3 r4 r5 r6 => kk (.tup [.agg [.v (.int .i64 r0), .v (.int .i64 r1), .ro .int r2, .ro .int r3, .ro .int r4, .ro .int r5], .c (.v (.bool r6))]) [])) := by
    funext a0Often a0Once a0Room a0Target a0WasOften a0WasOnce key1 nextTarget23 withoutKey27 withoutKey31 withoutKey35 withoutKey39
    rw [meets_eq, l0_impl_UseLists a0Room a0Target a0Once a0Often a0WasOnce a0WasOften key1 nextTarget23 withoutKey27 withoutKey31 withoutKey35 withoutKey39 kk]
  rw [hi0]
  rw [G_impl_UseLists_eq]
  rfl
theorem clok_impl_UseLists : ConOK Try.prog cl_impl_UseLists := consCons h_slices_Contains_sint_int ⟨Try.f43, Try.func43, by kernel_rfl, ne_of_beq (by kernel_rfl)⟩ (consCons h_impl_withoutKey ⟨Try.f44, Try.func44, by kernel_rfl, ne_of_beq (by kernel_rfl)⟩ (consCons h_impl_validKey ⟨Try.f62, Try.func62, by kernel_rfl, ne_of_beq (by kernel_rfl)⟩ (consCons h_impl_putFirst ⟨Try.f63, Try.func63, by kernel_rfl, ne_of_beq (by kernel_rfl)⟩ (consCons h_impl_ValidLists ⟨Try.f103, Try.func103, by kernel_rfl, ne_of_beq (by kernel_rfl)⟩ (consCons h_impl_nextTarget ⟨Try.f104, Try.func104, by kernel_rfl, ne_of_beq (by kernel_rfl)⟩ (consNil))))))
theorem cok_impl_UseLists_i9 : ConsOK Try.prog 8 cs_impl_UseLists_i9 := ⟨clok_impl_UseLists, inlNil, ovNil⟩
theorem cok_impl_UseLists_i8 : ConsOK Try.prog 8 cs_impl_UseLists_i8 := ⟨clok_impl_UseLists, inlNil, ovNil⟩
theorem cok_impl_UseLists_i7 : ConsOK Try.prog 8 cs_impl_UseLists_i7 := ⟨clok_impl_UseLists, inlNil, ovNil⟩
theorem cok_impl_UseLists_i6 : ConsOK Try.prog 82 cs_impl_UseLists_i6 := ⟨clok_impl_UseLists, inlCons (inl_ok Try.func64 (by kernel_rfl) (ne_of_beq (by kernel_rfl)) Try.ntmps64 (by decide) mixed tabOK cok_impl_UseLists_i7 (by kernel_rfl)) (inlCons (inl_ok Try.func64 (by kernel_rfl) (ne_of_beq (by kernel_rfl)) Try.ntmps64 (by decide) mixed tabOK cok_impl_UseLists_i8 (by kernel_rfl)) (inlCons (inl_ok Try.func64 (by kernel_rfl) (ne_of_beq (by kernel_rfl)) Try.ntmps64 (by decide) mixed tabOK cok_impl_UseLists_i9 (by kernel_rfl)) (inlNil))), ovNil⟩
theorem cok_impl_UseLists_i5 : ConsOK Try.prog 8 cs_impl_UseLists_i5 := ⟨clok_impl_UseLists, inlNil, ovNil⟩
theorem cok_impl_UseLists_i4 : ConsOK Try.prog 16 cs_impl_UseLists_i4 := ⟨clok_impl_UseLists, inlCons (inl_ok Try.func64 (by kernel_rfl) (ne_of_beq (by kernel_rfl)) Try.ntmps64 (by decide) mixed tabOK cok_impl_UseLists_i5 (by kernel_rfl)) (inlNil), ovNil⟩
theorem cok_impl_UseLists_i3 : ConsOK Try.prog 8 cs_impl_UseLists_i3 := ⟨clok_impl_UseLists, inlNil, ovNil⟩
theorem cok_impl_UseLists_i2 : ConsOK Try.prog 16 cs_impl_UseLists_i2 := ⟨clok_impl_UseLists, inlCons (inl_ok Try.func64 (by kernel_rfl) (ne_of_beq (by kernel_rfl)) Try.ntmps64 (by decide) mixed tabOK cok_impl_UseLists_i3 (by kernel_rfl)) (inlNil), ovNil⟩
theorem cok_impl_UseLists_i1 : ConsOK Try.prog 85 cs_impl_UseLists_i1 := ⟨clok_impl_UseLists, inlCons (inl_ok Try.func127 (by kernel_rfl) (ne_of_beq (by kernel_rfl)) Try.ntmps127 (by decide) mixed tabOK cok_impl_UseLists_i2 (by kernel_rfl)) (inlCons (inl_ok Try.func127 (by kernel_rfl) (ne_of_beq (by kernel_rfl)) Try.ntmps127 (by decide) mixed tabOK cok_impl_UseLists_i4 (by kernel_rfl)) (inlNil)), ovNil⟩
theorem cok_impl_UseLists : ConsOK Try.prog 93 cs_impl_UseLists := ⟨clok_impl_UseLists, inlCons (inl_ok Try.func105 (by kernel_rfl) (ne_of_beq (by kernel_rfl)) Try.ntmps105 (by decide) mixed tabOK cok_impl_UseLists_i6 (by kernel_rfl)) (inlCons (inl_ok Try.func106 (by kernel_rfl) (ne_of_beq (by kernel_rfl)) Try.ntmps106 (by decide) mixed tabOK cok_impl_UseLists_i1 (by kernel_rfl)) (inlNil)), ovNil⟩
theorem i_impl_UseLists {vs : List A1} {kk : AV → List A1 → Prop} {motive : List A1 → Prop} (h : con_impl_UseLists.F vs kk) (H : ∀ (a0Room : Int) (a0Target : Int) (a0Once : List Int) (a0Often : List Int) (a0WasOnce : List Int) (a0WasOften : List Int) (key1 : Int), F_impl_UseLists a0Room a0Target a0Once a0Often a0WasOnce a0WasOften key1 (fun r0 r1 r2 r3 r4 r5 r6 => kk (.tup [.agg [.v (.int .i64 r0), .v (.int .i64 r1), .ro .int r2, .ro .int r3, .ro .int r4, .ro .int r5], .c (.v (.bool r6))]) []) → motive [.agg [.v (.int .i64 a0Room), .v (.int .i64 a0Target), .ro .int a0Once, .ro .int a0Often, .ro .int a0WasOnce, .ro .int a0WasOften], .c (.v (.int .i64 key1))]) : motive vs := by
  unfold con_impl_UseLists at h
  dsimp only at h
  split at h
  · exact H _ _ _ _ _ _ _ h
  · exact h.elim
theorem h_impl_UseLists : Holds Try.prog 58 con_impl_UseLists := by
  refine holds_of_ev (rt := [.agg [.sc, .sc, .sl .int, .sl .int, .sl .int, .sl .int], .c .sc]) (T := TT) (Γ := cs_impl_UseLists) (an := an_impl_UseLists) (N := 93) (c := Try.f58.body.getD .skip) Try.func58 (by kernel_rfl) Try.ntmps58 (by decide) (by decide) mixed tabOK cok_impl_UseLists (by kernel_rfl) ?_
  intro vs kk _ hF
  exact i_impl_UseLists (motive := fun vs => Goes (ev TT cs_impl_UseLists 93 an_impl_UseLists (Try.f58.body.getD .skip) (st0 con_impl_UseLists vs) (fin TT con_impl_UseLists Try.f58.results.toList [.agg [.sc, .sc, .sl .int, .sl .int, .sl .int, .sl .int], .c .sc] vs kk))) hF (fun a0Room a0Target a0Once a0Often a0WasOnce a0WasOften key1 hF => goes_of (e_impl_UseLists a0Room a0Target a0Once a0Often a0WasOnce a0WasOften key1 kk) (F_impl_UseLists_S hF))
def con_impl_useAll_Lists : Con := ⟨[.rd, .mv, .rd], true, [.c (.sl .int), .agg [.sc, .sc, .sl .int, .sl .int, .sl .int, .sl .int], .c (.fn)], fun vs k => match vs with
    | [.c (.ro .int t0), .agg [.v (.int .i64 cache1Room), .v (.int .i64 cache1Target), .ro .int cache1Once, .ro .int cache1Often, .ro .int cache1WasOnce, .ro .int cache1WasOften], .c (.v (.func (.func 58) ⟨[]⟩ ⟨[]⟩))] => F_impl_useAll_Lists_UseLists t0 cache1Room cache1Target cache1Once cache1Often cache1WasOnce cache1WasOften (fun r0 r1 r2 r3 r4 r5 r6 => k (.tup [.agg [.v (.int .i64 r0), .v (.int .i64 r1), .ro .int r2, .ro .int r3, .ro .int r4, .ro .int r5], .c (.v (.int .i64 r6))]) [])
    | _ => False, false⟩
def cl_impl_useAll_Lists_UseLists : List (FuncId × Con) := [(58, con_impl_UseLists)]
def nm0_impl_useAll_Lists_UseLists : List NStep := [.ownc 64 2 .int 90000, .ownc 64 3 .int 90001, .ownc 64 4 .int 90002, .ownc 64 5 .int 90003, .keep [2, 4, 6, 8, 13, 14, 15] [64, 90000, 90001, 90002, 90003, 96]]
def an_impl_useAll_Lists_UseLists : Ann := ⟨[], [(3, nm0_impl_useAll_Lists_UseLists)], [], []⟩
def cs_impl_useAll_Lists_UseLists : Cons := ⟨cl_impl_useAll_Lists_UseLists, [], 0, [], [], []⟩
def can0_impl_useAll_Lists_UseLists (t0 : List Int) (xt14 : Int) (xhits8 : Int) (xt15 : Int) (xb4c0 : Int) (xb4c1 : Int) (xb4c2 : List Int) (xb4c3 : List Int) (xb4c4 : List Int) (xb4c5 : List Int) : St := ⟨[(2, .one (.c (.v (.func (.func 58) ⟨[]⟩ ⟨[]⟩)))), (4, .one (.c (.pb 64 0))), (6, .one (.c (.pb 96 0))), (8, .one (.c (.v (.int .i64 xhits8)))), (13, .one (.c (.ro .int t0))), (14, .one (.c (.v (.int .i64 xt14)))), (15, .one (.c (.v (.int .i64 xt15))))], [(64, .box [.v (.int .i64 xb4c0), .v (.int .i64 xb4c1), .ow 90000, .ow 90001, .ow 90002, .ow 90003]), (90000, .row .int xb4c2), (90001, .row .int xb4c3), (90002, .row .int xb4c4), (90003, .row .int xb4c5), (96, .box [.v (.int .i64 0), .v (.int .i64 0), .nil, .nil, .nil, .nil])]⟩
def fin_impl_useAll_Lists_UseLists (t0 : List Int) (cache1Room : Int) (cache1Target : Int) (cache1Once : List Int) (cache1Often : List Int) (cache1WasOnce : List Int) (cache1WasOften : List Int) (kk : AV → List A1 → Prop) : Kt := fin TT con_impl_useAll_Lists Try.f57.results.toList [.agg [.sc, .sc, .sl .int, .sl .int, .sl .int, .sl .int], .c .sc] [.c (.ro .int t0), .agg [.v (.int .i64 cache1Room), .v (.int .i64 cache1Target), .ro .int cache1Once, .ro .int cache1Often, .ro .int cache1WasOnce, .ro .int cache1WasOften], .c (.v (.func (.func 58) ⟨[]⟩ ⟨[]⟩))] kk
def kt0_impl_useAll_Lists_UseLists (kf : Kt) : Kt := blockK 0 (seqK (evF TT cs_impl_useAll_Lists_UseLists 33 an_impl_useAll_Lists_UseLists Try.f57 [1, 1, 1]) (kf))
theorem r0_impl_useAll_Lists_UseLists (t0 : List Int) (cache1Room : Int) (cache1Target : Int) (cache1Once : List Int) (cache1Often : List Int) (cache1WasOnce : List Int) (cache1WasOften : List Int) (xt14 : Int) (kk : AV → List A1 → Prop) (n : Nat) (xhits8 : Int) (xt15 : Int) (xb4c0 : Int) (xb4c1 : Int) (xb4c2 : List Int) (xb4c3 : List Int) (xb4c4 : List Int) (xb4c5 : List Int) :
    iter (evF TT cs_impl_useAll_Lists_UseLists 33 an_impl_useAll_Lists_UseLists Try.f57 [1, 1, 0, 1, 0, 0]) nm0_impl_useAll_Lists_UseLists (kt0_impl_useAll_Lists_UseLists (fin_impl_useAll_Lists_UseLists t0 cache1Room cache1Target cache1Once cache1Often cache1WasOnce cache1WasOften kk)) (n + 1) (can0_impl_useAll_Lists_UseLists t0 xt14 xhits8 xt15 xb4c0 xb4c1 xb4c2 xb4c3 xb4c4 xb4c5) = T0_impl_useAll_Lists_UseLists t0 xt14 xhits8 xt15 xb4c0 xb4c1 xb4c2 xb4c3 xb4c4 xb4c5 (fun r0 r1 r2 r3 r4 r5 r6 => kk (.tup [.agg [.v (.int .i64 r0), .v (.int .i64 r1), .ro .int r2, .ro .int r3, .ro .int r4, .ro .int r5], .c (.v (.int .i64 r6))]) []) (fun xhits8 xt15 xb4c0 xb4c1 xb4c2 xb4c3 xb4c4 xb4c5 => iter (evF TT cs_impl_useAll_Lists_UseLists 33 an_impl_useAll_Lists_UseLists Try.f57 [1, 1, 0, 1, 0, 0]) nm0_impl_useAll_Lists_UseLists (kt0_impl_useAll_Lists_UseLists (fin_impl_useAll_Lists_UseLists t0 cache1Room cache1Target cache1Once cache1Often cache1WasOnce cache1WasOften kk)) n (can0_impl_useAll_Lists_UseLists t0 xt14 xhits8 xt15 xb4c0 xb4c1 xb4c2 xb4c3 xb4c4 xb4c5)) := by kernel_rfl
theorem l0_impl_useAll_Lists_UseLists (t0 : List Int) (cache1Room : Int) (cache1Target : Int) (cache1Once : List Int) (cache1Often : List Int) (cache1WasOnce : List Int) (cache1WasOften : List Int) (xt14 : Int) (kk : AV → List A1 → Prop) : ∀ (n : Nat) (xhits8 : Int) (xt15 : Int) (xb4c0 : Int) (xb4c1 : Int) (xb4c2 : List Int) (xb4c3 : List Int) (xb4c4 : List Int) (xb4c5 : List Int), iter (evF TT cs_impl_useAll_Lists_UseLists 33 an_impl_useAll_Lists_UseLists Try.f57 [1, 1, 0, 1, 0, 0]) nm0_impl_useAll_Lists_UseLists (kt0_impl_useAll_Lists_UseLists (fin_impl_useAll_Lists_UseLists t0 cache1Room cache1Target cache1Once cache1Often cache1WasOnce cache1WasOften kk)) n (can0_impl_useAll_Lists_UseLists t0 xt14 xhits8 xt15 xb4c0 xb4c1 xb4c2 xb4c3 xb4c4 xb4c5) = L0_impl_useAll_Lists_UseLists t0 xt14 (fun r0 r1 r2 r3 r4 r5 r6 => kk (.tup [.agg [.v (.int .i64 r0), .v (.int .i64 r1), .ro .int r2, .ro .int r3, .ro .int r4, .ro .int r5], .c (.v (.int .i64 r6))]) []) n xhits8 xt15 xb4c0 xb4c1 xb4c2 xb4c3 xb4c4 xb4c5 := by
  intro n
  induction n with
  | zero => intros; rfl
  | succ n ih =>
    intro xhits8 xt15 xb4c0 xb4c1 xb4c2 xb4c3 xb4c4 xb4c5
    rw [r0_impl_useAll_Lists_UseLists t0 cache1Room cache1Target cache1Once cache1Often cache1WasOnce cache1WasOften xt14 kk n xhits8 xt15 xb4c0 xb4c1 xb4c2 xb4c3 xb4c4 xb4c5]
    have hb : (fun xhits8 xt15 xb4c0 xb4c1 xb4c2 xb4c3 xb4c4 xb4c5 => iter (evF TT cs_impl_useAll_Lists_UseLists 33 an_impl_useAll_Lists_UseLists Try.f57 [1, 1, 0, 1, 0, 0]) nm0_impl_useAll_Lists_UseLists (kt0_impl_useAll_Lists_UseLists (fin_impl_useAll_Lists_UseLists t0 cache1Room cache1Target cache1Once cache1Often cache1WasOnce cache1WasOften kk)) n (can0_impl_useAll_Lists_UseLists t0 xt14 xhits8 xt15 xb4c0 xb4c1 xb4c2 xb4c3 xb4c4 xb4c5)) = L0_impl_useAll_Lists_UseLists t0 xt14 (fun r0 r1 r2 r3 r4 r5 r6 => kk (.tup [.agg [.v (.int .i64 r0), .v (.int .i64 r1), .ro .int r2, .ro .int r3, .ro .int r4, .ro .int r5], .c (.v (.int .i64 r6))]) []) n := by
      funext xhits8 xt15 xb4c0 xb4c1 xb4c2 xb4c3 xb4c4 xb4c5; exact ih xhits8 xt15 xb4c0 xb4c1 xb4c2 xb4c3 xb4c4 xb4c5
    rw [hb]
    rfl
theorem g_impl_useAll_Lists_UseLists (t0 : List Int) (cache1Room : Int) (cache1Target : Int) (cache1Once : List Int) (cache1Often : List Int) (cache1WasOnce : List Int) (cache1WasOften : List Int) (kk : AV → List A1 → Prop) :
    ev TT cs_impl_useAll_Lists_UseLists 33 an_impl_useAll_Lists_UseLists (Try.f57.body.getD .skip) (st0 con_impl_useAll_Lists [.c (.ro .int t0), .agg [.v (.int .i64 cache1Room), .v (.int .i64 cache1Target), .ro .int cache1Once, .ro .int cache1Often, .ro .int cache1WasOnce, .ro .int cache1WasOften], .c (.v (.func (.func 58) ⟨[]⟩ ⟨[]⟩))]) (fin TT con_impl_useAll_Lists Try.f57.results.toList [.agg [.sc, .sc, .sl .int, .sl .int, .sl .int, .sl .int], .c .sc] [.c (.ro .int t0), .agg [.v (.int .i64 cache1Room), .v (.int .i64 cache1Target), .ro .int cache1Once, .ro .int cache1Often, .ro .int cache1WasOnce, .ro .int cache1WasOften], .c (.v (.func (.func 58) ⟨[]⟩ ⟨[]⟩))] kk) = G_impl_useAll_Lists_UseLists t0 cache1Room cache1Target cache1Once cache1Often cache1WasOnce cache1WasOften (fun t0 xt14 xhits8 xt15 xb4c0 xb4c1 xb4c2 xb4c3 xb4c4 xb4c5 => ∃ j, iter (evF TT cs_impl_useAll_Lists_UseLists 33 an_impl_useAll_Lists_UseLists Try.f57 [1, 1, 0, 1, 0, 0]) nm0_impl_useAll_Lists_UseLists (kt0_impl_useAll_Lists_UseLists (fin_impl_useAll_Lists_UseLists t0 cache1Room cache1Target cache1Once cache1Often cache1WasOnce cache1WasOften kk)) j (can0_impl_useAll_Lists_UseLists t0 xt14 xhits8 xt15 xb4c0 xb4c1 xb4c2 xb4c3 xb4c4 xb4c5)) := by kernel_rfl
theorem e_impl_useAll_Lists_UseLists (t0 : List Int) (cache1Room : Int) (cache1Target : Int) (cache1Once : List Int) (cache1Often : List Int) (cache1WasOnce : List Int) (cache1WasOften : List Int) (kk : AV → List A1 → Prop) :
    ev TT cs_impl_useAll_Lists_UseLists 33 an_impl_useAll_Lists_UseLists (Try.f57.body.getD .skip) (st0 con_impl_useAll_Lists [.c (.ro .int t0), .agg [.v (.int .i64 cache1Room), .v (.int .i64 cache1Target), .ro .int cache1Once, .ro .int cache1Often, .ro .int cache1WasOnce, .ro .int cache1WasOften], .c (.v (.func (.func 58) ⟨[]⟩ ⟨[]⟩))]) (fin TT con_impl_useAll_Lists Try.f57.results.toList [.agg [.sc, .sc, .sl .int, .sl .int, .sl .int, .sl .int], .c .sc] [.c (.ro .int t0), .agg [.v (.int .i64 cache1Room), .v (.int .i64 cache1Target), .ro .int cache1Once, .ro .int cache1Often, .ro .int cache1WasOnce, .ro .int cache1WasOften], .c (.v (.func (.func 58) ⟨[]⟩ ⟨[]⟩))] kk) = S_impl_useAll_Lists_UseLists t0 cache1Room cache1Target cache1Once cache1Often cache1WasOnce cache1WasOften (fun r0 r1 r2 r3 r4 r5 r6 => kk (.tup [.agg [.v (.int .i64 r0), .v (.int .i64 r1), .ro .int r2, .ro .int r3, .ro .int r4, .ro .int r5], .c (.v (.int .i64 r6))]) []) := by
  rw [g_impl_useAll_Lists_UseLists]
  have hi0 : (fun t0 xt14 xhits8 xt15 xb4c0 xb4c1 xb4c2 xb4c3 xb4c4 xb4c5 => ∃ j, iter (evF TT cs_impl_useAll_Lists_UseLists 33 an_impl_useAll_Lists_UseLists Try.f57 [1, 1, 0, 1, 0, 0]) nm0_impl_useAll_Lists_UseLists (kt0_impl_useAll_Lists_UseLists (fin_impl_useAll_Lists_UseLists t0 cache1Room cache1Target cache1Once cache1Often cache1WasOnce cache1WasOften kk)) j (can0_impl_useAll_Lists_UseLists t0 xt14 xhits8 xt15 xb4c0 xb4c1 xb4c2 xb4c3 xb4c4 xb4c5)) = (fun t0 xt14 xhits8 xt15 xb4c0 xb4c1 xb4c2 xb4c3 xb4c4 xb4c5 => ∃ j, L0_impl_useAll_Lists_UseLists t0 xt14 (fun r0 r1 r2 r3 r4 r5 r6 => kk (.tup [.agg [.v (.int .i64 r0), .v (.int .i64 r1), .ro .int r2, .ro .int r3, .ro .int r4, .ro .int r5], .c (.v (.int .i64 r6))]) []) j xhits8 xt15 xb4c0 xb4c1 xb4c2 xb4c3 xb4c4 xb4c5) := by
    funext t0 xt14 xhits8 xt15 xb4c0 xb4c1 xb4c2 xb4c3 xb4c4 xb4c5
    refine congrArg Exists (funext fun j => ?_)
    rw [l0_impl_useAll_Lists_UseLists t0 cache1Room cache1Target cache1Once cache1Often cache1WasOnce cache1WasOften xt14 kk j xhits8 xt15 xb4c0 xb4c1 xb4c2 xb4c3 xb4c4 xb4c5]
  rw [hi0]
  rfl
theorem clok_impl_useAll_Lists_UseLists : ConOK Try.prog cl_impl_useAll_Lists_UseLists := consCons h_impl_UseLists ⟨Try.f58, Try.func58, by kernel_rfl, ne_of_beq (by kernel_rfl)⟩ (consNil)
theorem cok_impl_useAll_Lists_UseLists : ConsOK Try.prog 33 cs_impl_useAll_Lists_UseLists := ⟨clok_impl_useAll_Lists_UseLists, inlNil, ovNil⟩
theorem i_impl_useAll_Lists_UseLists {vs : List A1} {kk : AV → List A1 → Prop} {motive : List A1 → Prop} (h : con_impl_useAll_Lists.F vs kk) (H : ∀ (t0 : List Int) (cache1Room : Int) (cache1Target : Int) (cache1Once : List Int) (cache1Often : List Int) (cache1WasOnce : List Int) (cache1WasOften : List Int), F_impl_useAll_Lists_UseLists t0 cache1Room cache1Target cache1Once cache1Often cache1WasOnce cache1WasOften (fun r0 r1 r2 r3 r4 r5 r6 => kk (.tup [.agg [.v (.int .i64 r0), .v (.int .i64 r1), .ro .int r2, .ro .int r3, .ro .int r4, .ro .int r5], .c (.v (.int .i64 r6))]) []) → motive [.c (.ro .int t0), .agg [.v (.int .i64 cache1Room), .v (.int .i64 cache1Target), .ro .int cache1Once, .ro .int cache1Often, .ro .int cache1WasOnce, .ro .int cache1WasOften], .c (.v (.func (.func 58) ⟨[]⟩ ⟨[]⟩))]) : motive vs := by
  unfold con_impl_useAll_Lists at h
  dsimp only at h
  split at h
  · exact H _ _ _ _ _ _ _ h
  · exact h.elim
theorem h_impl_useAll_Lists : Holds Try.prog 57 con_impl_useAll_Lists := by
  refine holds_of_ev (rt := [.agg [.sc, .sc, .sl .int, .sl .int, .sl .int, .sl .int], .c .sc]) (T := TT) (Γ := cs_impl_useAll_Lists_UseLists) (an := an_impl_useAll_Lists_UseLists) (N := 33) (c := Try.f57.body.getD .skip) Try.func57 (by kernel_rfl) Try.ntmps57 (by decide) (by decide) mixed tabOK cok_impl_useAll_Lists_UseLists (by kernel_rfl) ?_
  intro vs kk _ hF
  exact i_impl_useAll_Lists_UseLists (motive := fun vs => Goes (ev TT cs_impl_useAll_Lists_UseLists 33 an_impl_useAll_Lists_UseLists (Try.f57.body.getD .skip) (st0 con_impl_useAll_Lists vs) (fin TT con_impl_useAll_Lists Try.f57.results.toList [.agg [.sc, .sc, .sl .int, .sl .int, .sl .int, .sl .int], .c .sc] vs kk))) hF (fun t0 cache1Room cache1Target cache1Once cache1Often cache1WasOnce cache1WasOften hF => goes_of (e_impl_useAll_Lists_UseLists t0 cache1Room cache1Target cache1Once cache1Often cache1WasOnce cache1WasOften kk) (F_impl_useAll_Lists_UseLists_S hF))
def con_impl_RunLists : Con := ⟨[.rd, .rd], true, [.c (.sl .int), .c (.sc)], fun vs k => match vs with
    | [.c (.ro .int t0), .c (.v (.int .i64 room1))] => F_impl_RunLists t0 room1 (fun r0 r1 r2 r3 r4 r5 r6 => k (.tup [.agg [.v (.int .i64 r0), .v (.int .i64 r1), .ro .int r2, .ro .int r3, .ro .int r4, .ro .int r5], .c (.v (.int .i64 r6))]) [])
    | _ => False, false⟩
def cl_impl_RunLists : List (FuncId × Con) := [(41, con_impl_ValidTrace), (42, con_impl_validRoom), (57, con_impl_useAll_Lists)]
def an_impl_RunLists : Ann := ⟨[], [], [], []⟩
def cs_impl_RunLists : Cons := ⟨cl_impl_RunLists, [], 0, [], [], []⟩
def fin_impl_RunLists (t0 : List Int) (room1 : Int) (kk : AV → List A1 → Prop) : Kt := fin TT con_impl_RunLists Try.f20.results.toList [.agg [.sc, .sc, .sl .int, .sl .int, .sl .int, .sl .int], .c .sc] [.c (.ro .int t0), .c (.v (.int .i64 room1))] kk
theorem g_impl_RunLists (t0 : List Int) (room1 : Int) (kk : AV → List A1 → Prop) :
    ev TT cs_impl_RunLists 21 an_impl_RunLists (Try.f20.body.getD .skip) (st0 con_impl_RunLists [.c (.ro .int t0), .c (.v (.int .i64 room1))]) (fin TT con_impl_RunLists Try.f20.results.toList [.agg [.sc, .sc, .sl .int, .sl .int, .sl .int, .sl .int], .c .sc] [.c (.ro .int t0), .c (.v (.int .i64 room1))] kk) = G_impl_RunLists t0 room1 (fun r0 r1 r2 r3 r4 r5 r6 => kk (.tup [.agg [.v (.int .i64 r0), .v (.int .i64 r1), .ro .int r2, .ro .int r3, .ro .int r4, .ro .int r5], .c (.v (.int .i64 r6))]) []) := by kernel_rfl
theorem e_impl_RunLists (t0 : List Int) (room1 : Int) (kk : AV → List A1 → Prop) :
    ev TT cs_impl_RunLists 21 an_impl_RunLists (Try.f20.body.getD .skip) (st0 con_impl_RunLists [.c (.ro .int t0), .c (.v (.int .i64 room1))]) (fin TT con_impl_RunLists Try.f20.results.toList [.agg [.sc, .sc, .sl .int, .sl .int, .sl .int, .sl .int], .c .sc] [.c (.ro .int t0), .c (.v (.int .i64 room1))] kk) = S_impl_RunLists t0 room1 (fun r0 r1 r2 r3 r4 r5 r6 => kk (.tup [.agg [.v (.int .i64 r0), .v (.int .i64 r1), .ro .int r2, .ro .int r3, .ro .int r4, .ro .int r5], .c (.v (.int .i64 r6))]) []) := by
  rw [g_impl_RunLists]
  rfl
theorem clok_impl_RunLists : ConOK Try.prog cl_impl_RunLists := consCons h_impl_ValidTrace ⟨Try.f41, Try.func41, by kernel_rfl, ne_of_beq (by kernel_rfl)⟩ (consCons h_impl_validRoom ⟨Try.f42, Try.func42, by kernel_rfl, ne_of_beq (by kernel_rfl)⟩ (consCons h_impl_useAll_Lists ⟨Try.f57, Try.func57, by kernel_rfl, ne_of_beq (by kernel_rfl)⟩ (consNil)))
theorem cok_impl_RunLists : ConsOK Try.prog 21 cs_impl_RunLists := ⟨clok_impl_RunLists, inlNil, ovNil⟩
theorem i_impl_RunLists {vs : List A1} {kk : AV → List A1 → Prop} {motive : List A1 → Prop} (h : con_impl_RunLists.F vs kk) (H : ∀ (t0 : List Int) (room1 : Int), F_impl_RunLists t0 room1 (fun r0 r1 r2 r3 r4 r5 r6 => kk (.tup [.agg [.v (.int .i64 r0), .v (.int .i64 r1), .ro .int r2, .ro .int r3, .ro .int r4, .ro .int r5], .c (.v (.int .i64 r6))]) []) → motive [.c (.ro .int t0), .c (.v (.int .i64 room1))]) : motive vs := by
  unfold con_impl_RunLists at h
  dsimp only at h
  split at h
  · exact H _ _ h
  · exact h.elim
theorem h_impl_RunLists : Holds Try.prog 20 con_impl_RunLists := by
  refine holds_of_ev (rt := [.agg [.sc, .sc, .sl .int, .sl .int, .sl .int, .sl .int], .c .sc]) (T := TT) (Γ := cs_impl_RunLists) (an := an_impl_RunLists) (N := 21) (c := Try.f20.body.getD .skip) Try.func20 (by kernel_rfl) Try.ntmps20 (by decide) (by decide) mixed tabOK cok_impl_RunLists (by kernel_rfl) ?_
  intro vs kk _ hF
  exact i_impl_RunLists (motive := fun vs => Goes (ev TT cs_impl_RunLists 21 an_impl_RunLists (Try.f20.body.getD .skip) (st0 con_impl_RunLists vs) (fin TT con_impl_RunLists Try.f20.results.toList [.agg [.sc, .sc, .sl .int, .sl .int, .sl .int, .sl .int], .c .sc] vs kk))) hF (fun t0 room1 hF => goes_of (e_impl_RunLists t0 room1 kk) (F_impl_RunLists_S hF))
def con_laws_FnBestHits : Con := ⟨[.rd], true, [.c (.sl .u8)], fun vs k => match vs with
    | [.c (.ro .u8 code0)] => F_laws_FnBestHits code0 (fun r0 => k (.one (.c (.v (.bool r0)))) [])
    | _ => False, false⟩
def cl_laws_FnBestHits : List (FuncId × Con) := [(13, con_spec_DrawBestHits), (14, con_impl_BestHits), (15, con_spec_BestHits), (16, con_impl_RunRecent), (17, con_impl_RunFirst), (18, con_impl_RunClock), (19, con_impl_RunOften), (20, con_impl_RunLists)]
def an_laws_FnBestHits : Ann := ⟨[], [], [], []⟩
def cs_laws_FnBestHits : Cons := ⟨cl_laws_FnBestHits, [], 0, [], [], []⟩
def fin_laws_FnBestHits (code0 : List Int) (kk : AV → List A1 → Prop) : Kt := fin TT con_laws_FnBestHits Try.f3.results.toList [.c .sc] [.c (.ro .u8 code0)] kk
theorem g_laws_FnBestHits (code0 : List Int) (kk : AV → List A1 → Prop) :
    ev TT cs_laws_FnBestHits 94 an_laws_FnBestHits (Try.f3.body.getD .skip) (st0 con_laws_FnBestHits [.c (.ro .u8 code0)]) (fin TT con_laws_FnBestHits Try.f3.results.toList [.c .sc] [.c (.ro .u8 code0)] kk) = G_laws_FnBestHits code0 (fun r0 => kk (.one (.c (.v (.bool r0)))) []) := by kernel_rfl
theorem e_laws_FnBestHits (code0 : List Int) (kk : AV → List A1 → Prop) :
    ev TT cs_laws_FnBestHits 94 an_laws_FnBestHits (Try.f3.body.getD .skip) (st0 con_laws_FnBestHits [.c (.ro .u8 code0)]) (fin TT con_laws_FnBestHits Try.f3.results.toList [.c .sc] [.c (.ro .u8 code0)] kk) = S_laws_FnBestHits code0 (fun r0 => kk (.one (.c (.v (.bool r0)))) []) := by
  rw [g_laws_FnBestHits]
  rfl
theorem clok_laws_FnBestHits : ConOK Try.prog cl_laws_FnBestHits := consCons h_spec_DrawBestHits ⟨Try.f13, Try.func13, by kernel_rfl, ne_of_beq (by kernel_rfl)⟩ (consCons h_impl_BestHits ⟨Try.f14, Try.func14, by kernel_rfl, ne_of_beq (by kernel_rfl)⟩ (consCons h_spec_BestHits ⟨Try.f15, Try.func15, by kernel_rfl, ne_of_beq (by kernel_rfl)⟩ (consCons h_impl_RunRecent ⟨Try.f16, Try.func16, by kernel_rfl, ne_of_beq (by kernel_rfl)⟩ (consCons h_impl_RunFirst ⟨Try.f17, Try.func17, by kernel_rfl, ne_of_beq (by kernel_rfl)⟩ (consCons h_impl_RunClock ⟨Try.f18, Try.func18, by kernel_rfl, ne_of_beq (by kernel_rfl)⟩ (consCons h_impl_RunOften ⟨Try.f19, Try.func19, by kernel_rfl, ne_of_beq (by kernel_rfl)⟩ (consCons h_impl_RunLists ⟨Try.f20, Try.func20, by kernel_rfl, ne_of_beq (by kernel_rfl)⟩ (consNil))))))))
theorem cok_laws_FnBestHits : ConsOK Try.prog 94 cs_laws_FnBestHits := ⟨clok_laws_FnBestHits, inlNil, ovNil⟩
theorem i_laws_FnBestHits {vs : List A1} {kk : AV → List A1 → Prop} {motive : List A1 → Prop} (h : con_laws_FnBestHits.F vs kk) (H : ∀ (code0 : List Int), F_laws_FnBestHits code0 (fun r0 => kk (.one (.c (.v (.bool r0)))) []) → motive [.c (.ro .u8 code0)]) : motive vs := by
  unfold con_laws_FnBestHits at h
  dsimp only at h
  split at h
  · exact H _ h
  · exact h.elim
theorem h_laws_FnBestHits : Holds Try.prog 3 con_laws_FnBestHits := by
  refine holds_of_ev (rt := [.c .sc]) (T := TT) (Γ := cs_laws_FnBestHits) (an := an_laws_FnBestHits) (N := 94) (c := Try.f3.body.getD .skip) Try.func3 (by kernel_rfl) Try.ntmps3 (by decide) (by decide) mixed tabOK cok_laws_FnBestHits (by kernel_rfl) ?_
  intro vs kk _ hF
  exact i_laws_FnBestHits (motive := fun vs => Goes (ev TT cs_laws_FnBestHits 94 an_laws_FnBestHits (Try.f3.body.getD .skip) (st0 con_laws_FnBestHits vs) (fin TT con_laws_FnBestHits Try.f3.results.toList [.c .sc] vs kk))) hF (fun code0 hF => goes_of (e_laws_FnBestHits code0 kk) (F_laws_FnBestHits_S hF))
end Go.Ev
