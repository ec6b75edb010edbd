/- What the evaluator gives for these functions: their contracts. No statement is proved here. -/
import Derived.Test.YtacohagnclnkdacFnExactRatioOfP0
import Derived.Test.YtacohagnclnkdacTt
namespace Go.Ev
set_option linter.unusedVariables false
set_option linter.unusedSimpArgs false
set_option maxRecDepth 100000
open Go Go.Proofs
def con_spec_inRange : Con := ⟨[.rd, .rd, .rd], true, [.c (.sc), .c (.sc), .c (.sc)], fun vs k => match vs with
    | [.c (.v (.int .i64 n0)), .c (.v (.int .i64 low1)), .c (.v (.int .i64 high2))] => F_spec_inRange n0 low1 high2 (fun r0 => k (.one (.c (.v (.bool r0)))) [])
    | _ => False, false⟩
def cl_spec_inRange : List (FuncId × Con) := []
def an_spec_inRange : Ann := ⟨[], [], [], []⟩
def cs_spec_inRange : Cons := ⟨cl_spec_inRange, [], 0, [], [], []⟩
def fin_spec_inRange (n0 : Int) (low1 : Int) (high2 : Int) (kk : AV → List A1 → Prop) : Kt := fin TT con_spec_inRange Try.f54.results.toList [.c .sc] [.c (.v (.int .i64 n0)), .c (.v (.int .i64 low1)), .c (.v (.int .i64 high2))] kk
theorem g_spec_inRange (n0 : Int) (low1 : Int) (high2 : Int) (kk : AV → List A1 → Prop) :
    ev TT cs_spec_inRange 15 an_spec_inRange (Try.f54.body.getD .skip) (st0 con_spec_inRange [.c (.v (.int .i64 n0)), .c (.v (.int .i64 low1)), .c (.v (.int .i64 high2))]) (fin TT con_spec_inRange Try.f54.results.toList [.c .sc] [.c (.v (.int .i64 n0)), .c (.v (.int .i64 low1)), .c (.v (.int .i64 high2))] kk) = G_spec_inRange n0 low1 high2 (fun r0 => kk (.one (.c (.v (.bool r0)))) []) := by kernel_rfl
theorem e_spec_inRange (n0 : Int) (low1 : Int) (high2 : Int) (kk : AV → List A1 → Prop) :
    ev TT cs_spec_inRange 15 an_spec_inRange (Try.f54.body.getD .skip) (st0 con_spec_inRange [.c (.v (.int .i64 n0)), .c (.v (.int .i64 low1)), .c (.v (.int .i64 high2))]) (fin TT con_spec_inRange Try.f54.results.toList [.c .sc] [.c (.v (.int .i64 n0)), .c (.v (.int .i64 low1)), .c (.v (.int .i64 high2))] kk) = S_spec_inRange n0 low1 high2 (fun r0 => kk (.one (.c (.v (.bool r0)))) []) := by
  rw [g_spec_inRange]
  rfl
theorem clok_spec_inRange : ConOK Try.prog cl_spec_inRange := consNil
theorem cok_spec_inRange : ConsOK Try.prog 15 cs_spec_inRange := ⟨clok_spec_inRange, inlNil, ovNil⟩
theorem i_spec_inRange {vs : List A1} {kk : AV → List A1 → Prop} {motive : List A1 → Prop} (h : con_spec_inRange.F vs kk) (H : ∀ (n0 : Int) (low1 : Int) (high2 : Int), F_spec_inRange n0 low1 high2 (fun r0 => kk (.one (.c (.v (.bool r0)))) []) → motive [.c (.v (.int .i64 n0)), .c (.v (.int .i64 low1)), .c (.v (.int .i64 high2))]) : motive vs := by
  unfold con_spec_inRange at h
  dsimp only at h
  split at h
  · exact H _ _ _ h
  · exact h.elim
theorem h_spec_inRange : Holds Try.prog 54 con_spec_inRange := by
  refine holds_of_ev (rt := [.c .sc]) (T := TT) (Γ := cs_spec_inRange) (an := an_spec_inRange) (N := 15) (c := Try.f54.body.getD .skip) Try.func54 (by kernel_rfl) Try.ntmps54 (by decide) (by decide) mixed tabOK cok_spec_inRange (by kernel_rfl) ?_
  intro vs kk _ hF
  exact i_spec_inRange (motive := fun vs => Goes (ev TT cs_spec_inRange 15 an_spec_inRange (Try.f54.body.getD .skip) (st0 con_spec_inRange vs) (fin TT con_spec_inRange Try.f54.results.toList [.c .sc] vs kk))) hF (fun n0 low1 high2 hF => goes_of (e_spec_inRange n0 low1 high2 kk) (F_spec_inRange_S hF))
def con_spec_RatioOf : Con := ⟨[.rd, .rd], true, [.c (.sc), .c (.sc)], fun vs k => match vs with
    | [.c (.v (.int .i64 hits0)), .c (.v (.int .i64 uses1))] => F_spec_RatioOf hits0 uses1 (fun r0 => k (.one (.c (.v (.int .i64 r0)))) [])
    | _ => False, false⟩
def cl_spec_RatioOf : List (FuncId × Con) := [(54, con_spec_inRange)]
def an_spec_RatioOf : Ann := ⟨[], [], [], []⟩
def cs_spec_RatioOf : Cons := ⟨cl_spec_RatioOf, [], 0, [], [], []⟩
def fin_spec_RatioOf (hits0 : Int) (uses1 : Int) (kk : AV → List A1 → Prop) : Kt := fin TT con_spec_RatioOf Try.f44.results.toList [.c .sc] [.c (.v (.int .i64 hits0)), .c (.v (.int .i64 uses1))] kk
theorem g_spec_RatioOf (hits0 : Int) (uses1 : Int) (kk : AV → List A1 → Prop) :
    ev TT cs_spec_RatioOf 18 an_spec_RatioOf (Try.f44.body.getD .skip) (st0 con_spec_RatioOf [.c (.v (.int .i64 hits0)), .c (.v (.int .i64 uses1))]) (fin TT con_spec_RatioOf Try.f44.results.toList [.c .sc] [.c (.v (.int .i64 hits0)), .c (.v (.int .i64 uses1))] kk) = G_spec_RatioOf hits0 uses1 (fun r0 => kk (.one (.c (.v (.int .i64 r0)))) []) := by kernel_rfl
theorem e_spec_RatioOf (hits0 : Int) (uses1 : Int) (kk : AV → List A1 → Prop) :
    ev TT cs_spec_RatioOf 18 an_spec_RatioOf (Try.f44.body.getD .skip) (st0 con_spec_RatioOf [.c (.v (.int .i64 hits0)), .c (.v (.int .i64 uses1))]) (fin TT con_spec_RatioOf Try.f44.results.toList [.c .sc] [.c (.v (.int .i64 hits0)), .c (.v (.int .i64 uses1))] kk) = S_spec_RatioOf hits0 uses1 (fun r0 => kk (.one (.c (.v (.int .i64 r0)))) []) := by
  rw [g_spec_RatioOf]
  rfl
theorem clok_spec_RatioOf : ConOK Try.prog cl_spec_RatioOf := consCons h_spec_inRange ⟨Try.f54, Try.func54, by kernel_rfl, ne_of_beq (by kernel_rfl)⟩ (consNil)
theorem cok_spec_RatioOf : ConsOK Try.prog 18 cs_spec_RatioOf := ⟨clok_spec_RatioOf, inlNil, ovNil⟩
theorem i_spec_RatioOf {vs : List A1} {kk : AV → List A1 → Prop} {motive : List A1 → Prop} (h : con_spec_RatioOf.F vs kk) (H : ∀ (hits0 : Int) (uses1 : Int), F_spec_RatioOf hits0 uses1 (fun r0 => kk (.one (.c (.v (.int .i64 r0)))) []) → motive [.c (.v (.int .i64 hits0)), .c (.v (.int .i64 uses1))]) : motive vs := by
  unfold con_spec_RatioOf at h
  dsimp only at h
  split at h
  · exact H _ _ h
  · exact h.elim
theorem h_spec_RatioOf : Holds Try.prog 44 con_spec_RatioOf := by
  refine holds_of_ev (rt := [.c .sc]) (T := TT) (Γ := cs_spec_RatioOf) (an := an_spec_RatioOf) (N := 18) (c := Try.f44.body.getD .skip) Try.func44 (by kernel_rfl) Try.ntmps44 (by decide) (by decide) mixed tabOK cok_spec_RatioOf (by kernel_rfl) ?_
  intro vs kk _ hF
  exact i_spec_RatioOf (motive := fun vs => Goes (ev TT cs_spec_RatioOf 18 an_spec_RatioOf (Try.f44.body.getD .skip) (st0 con_spec_RatioOf vs) (fin TT con_spec_RatioOf Try.f44.results.toList [.c .sc] vs kk))) hF (fun hits0 uses1 hF => goes_of (e_spec_RatioOf hits0 uses1 kk) (F_spec_RatioOf_S hF))
def con_impl_RatioOf : Con := ⟨[.rd, .rd], true, [.c (.sc), .c (.sc)], fun vs k => match vs with
    | [.c (.v (.int .i64 hits0)), .c (.v (.int .i64 uses1))] => F_impl_RatioOf hits0 uses1 (fun r0 => k (.one (.c (.v (.int .i64 r0)))) [])
    | _ => False, false⟩
def cl_impl_RatioOf : List (FuncId × Con) := []
def an_impl_RatioOf : Ann := ⟨[], [], [], []⟩
def cs_impl_RatioOf : Cons := ⟨cl_impl_RatioOf, [], 0, [], [], []⟩
def fin_impl_RatioOf (hits0 : Int) (uses1 : Int) (kk : AV → List A1 → Prop) : Kt := fin TT con_impl_RatioOf Try.f45.results.toList [.c .sc] [.c (.v (.int .i64 hits0)), .c (.v (.int .i64 uses1))] kk
theorem g_impl_RatioOf (hits0 : Int) (uses1 : Int) (kk : AV → List A1 → Prop) :
    ev TT cs_impl_RatioOf 24 an_impl_RatioOf (Try.f45.body.getD .skip) (st0 con_impl_RatioOf [.c (.v (.int .i64 hits0)), .c (.v (.int .i64 uses1))]) (fin TT con_impl_RatioOf Try.f45.results.toList [.c .sc] [.c (.v (.int .i64 hits0)), .c (.v (.int .i64 uses1))] kk) = G_impl_RatioOf hits0 uses1 (fun r0 => kk (.one (.c (.v (.int .i64 r0)))) []) := by kernel_rfl
theorem e_impl_RatioOf (hits0 : Int) (uses1 : Int) (kk : AV → List A1 → Prop) :
    ev TT cs_impl_RatioOf 24 an_impl_RatioOf (Try.f45.body.getD .skip) (st0 con_impl_RatioOf [.c (.v (.int .i64 hits0)), .c (.v (.int .i64 uses1))]) (fin TT con_impl_RatioOf Try.f45.results.toList [.c .sc] [.c (.v (.int .i64 hits0)), .c (.v (.int .i64 uses1))] kk) = S_impl_RatioOf hits0 uses1 (fun r0 => kk (.one (.c (.v (.int .i64 r0)))) []) := by
  rw [g_impl_RatioOf]
  rfl
theorem clok_impl_RatioOf : ConOK Try.prog cl_impl_RatioOf := consNil
theorem cok_impl_RatioOf : ConsOK Try.prog 24 cs_impl_RatioOf := ⟨clok_impl_RatioOf, inlNil, ovNil⟩
theorem i_impl_RatioOf {vs : List A1} {kk : AV → List A1 → Prop} {motive : List A1 → Prop} (h : con_impl_RatioOf.F vs kk) (H : ∀ (hits0 : Int) (uses1 : Int), F_impl_RatioOf hits0 uses1 (fun r0 => kk (.one (.c (.v (.int .i64 r0)))) []) → motive [.c (.v (.int .i64 hits0)), .c (.v (.int .i64 uses1))]) : motive vs := by
  unfold con_impl_RatioOf at h
  dsimp only at h
  split at h
  · exact H _ _ h
  · exact h.elim
theorem h_impl_RatioOf : Holds Try.prog 45 con_impl_RatioOf := by
  refine holds_of_ev (rt := [.c .sc]) (T := TT) (Γ := cs_impl_RatioOf) (an := an_impl_RatioOf) (N := 24) (c := Try.f45.body.getD .skip) Try.func45 (by kernel_rfl) Try.ntmps45 (by decide) (by decide) mixed tabOK cok_impl_RatioOf (by kernel_rfl) ?_
  intro vs kk _ hF
  exact i_impl_RatioOf (motive := fun vs => Goes (ev TT cs_impl_RatioOf 24 an_impl_RatioOf (Try.f45.body.getD .skip) (st0 con_impl_RatioOf vs) (fin TT con_impl_RatioOf Try.f45.results.toList [.c .sc] vs kk))) hF (fun hits0 uses1 hF => goes_of (e_impl_RatioOf hits0 uses1 kk) (F_impl_RatioOf_S hF))
def con_laws_FnExactRatioOf : Con := ⟨[.rd, .rd], true, [.c (.sc), .c (.sc)], fun vs k => match vs with
    | [.c (.v (.int .i64 aHits0)), .c (.v (.int .i64 aUses1))] => F_laws_FnExactRatioOf aHits0 aUses1 (fun r0 => k (.one (.c (.v (.bool r0)))) [])
    | _ => False, false⟩
def cl_laws_FnExactRatioOf : List (FuncId × Con) := [(44, con_spec_RatioOf), (45, con_impl_RatioOf)]
def an_laws_FnExactRatioOf : Ann := ⟨[], [], [], []⟩
def cs_laws_FnExactRatioOf : Cons := ⟨cl_laws_FnExactRatioOf, [], 0, [], [], []⟩
def fin_laws_FnExactRatioOf (aHits0 : Int) (aUses1 : Int) (kk : AV → List A1 → Prop) : Kt := fin TT con_laws_FnExactRatioOf Try.f12.results.toList [.c .sc] [.c (.v (.int .i64 aHits0)), .c (.v (.int .i64 aUses1))] kk
theorem g_laws_FnExactRatioOf (aHits0 : Int) (aUses1 : Int) (kk : AV → List A1 → Prop) :
    ev TT cs_laws_FnExactRatioOf 16 an_laws_FnExactRatioOf (Try.f12.body.getD .skip) (st0 con_laws_FnExactRatioOf [.c (.v (.int .i64 aHits0)), .c (.v (.int .i64 aUses1))]) (fin TT con_laws_FnExactRatioOf Try.f12.results.toList [.c .sc] [.c (.v (.int .i64 aHits0)), .c (.v (.int .i64 aUses1))] kk) = G_laws_FnExactRatioOf aHits0 aUses1 (fun r0 => kk (.one (.c (.v (.bool r0)))) []) := by kernel_rfl
theorem e_laws_FnExactRatioOf (aHits0 : Int) (aUses1 : Int) (kk : AV → List A1 → Prop) :
    ev TT cs_laws_FnExactRatioOf 16 an_laws_FnExactRatioOf (Try.f12.body.getD .skip) (st0 con_laws_FnExactRatioOf [.c (.v (.int .i64 aHits0)), .c (.v (.int .i64 aUses1))]) (fin TT con_laws_FnExactRatioOf Try.f12.results.toList [.c .sc] [.c (.v (.int .i64 aHits0)), .c (.v (.int .i64 aUses1))] kk) = S_laws_FnExactRatioOf aHits0 aUses1 (fun r0 => kk (.one (.c (.v (.bool r0)))) []) := by
  rw [g_laws_FnExactRatioOf]
  rfl
theorem clok_laws_FnExactRatioOf : ConOK Try.prog cl_laws_FnExactRatioOf := consCons h_spec_RatioOf ⟨Try.f44, Try.func44, by kernel_rfl, ne_of_beq (by kernel_rfl)⟩ (consCons h_impl_RatioOf ⟨Try.f45, Try.func45, by kernel_rfl, ne_of_beq (by kernel_rfl)⟩ (consNil))
theorem cok_laws_FnExactRatioOf : ConsOK Try.prog 16 cs_laws_FnExactRatioOf := ⟨clok_laws_FnExactRatioOf, inlNil, ovNil⟩
theorem i_laws_FnExactRatioOf {vs : List A1} {kk : AV → List A1 → Prop} {motive : List A1 → Prop} (h : con_laws_FnExactRatioOf.F vs kk) (H : ∀ (aHits0 : Int) (aUses1 : Int), F_laws_FnExactRatioOf aHits0 aUses1 (fun r0 => kk (.one (.c (.v (.bool r0)))) []) → motive [.c (.v (.int .i64 aHits0)), .c (.v (.int .i64 aUses1))]) : motive vs := by
  unfold con_laws_FnExactRatioOf at h
  dsimp only at h
  split at h
  · exact H _ _ h
  · exact h.elim
theorem h_laws_FnExactRatioOf : Holds Try.prog 12 con_laws_FnExactRatioOf := by
  refine holds_of_ev (rt := [.c .sc]) (T := TT) (Γ := cs_laws_FnExactRatioOf) (an := an_laws_FnExactRatioOf) (N := 16) (c := Try.f12.body.getD .skip) Try.func12 (by kernel_rfl) Try.ntmps12 (by decide) (by decide) mixed tabOK cok_laws_FnExactRatioOf (by kernel_rfl) ?_
  intro vs kk _ hF
  exact i_laws_FnExactRatioOf (motive := fun vs => Goes (ev TT cs_laws_FnExactRatioOf 16 an_laws_FnExactRatioOf (Try.f12.body.getD .skip) (st0 con_laws_FnExactRatioOf vs) (fin TT con_laws_FnExactRatioOf Try.f12.results.toList [.c .sc] vs kk))) hF (fun aHits0 aUses1 hF => goes_of (e_laws_FnExactRatioOf aHits0 aUses1 kk) (F_laws_FnExactRatioOf_S hF))
end Go.Ev
