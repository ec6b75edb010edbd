/- What the evaluator gives for these functions: their contracts. No statement is proved here. -/
import Derived.Test.YtaajnkggomlppacFnExactWorthOfP0
import Derived.Test.YtaajnkggomlppacTt
namespace Go.Ev
set_option linter.unusedVariables false
set_option maxRecDepth 100000
open Go Go.Proofs
def con_spec_inRange : Con := ⟨[.rd, .rd, .rd], true, [.c (.sc), .c (.sc), .c (.sc)], fun vs k => match vs with
    | [.c (.v (.int .i64 n0)), .c (.v (.int .i64 low1)), .c (.v (.int .i64 high2))] => F_spec_inRange n0 low1 high2 (fun r0 => k (.one (.c (.v (.bool r0)))) [])
    | _ => False, false⟩
def cl_spec_inRange : List (FuncId × Con) := []
def an_spec_inRange : Ann := ⟨[], [], [], []⟩
def cs_spec_inRange : Cons := ⟨cl_spec_inRange, [], 0, [], [], []⟩
def fin_spec_inRange (n0 : Int) (low1 : Int) (high2 : Int) (kk : AV → List A1 → Prop) : Kt := fin TT con_spec_inRange Try.f40.results.toList [.c .sc] [.c (.v (.int .i64 n0)), .c (.v (.int .i64 low1)), .c (.v (.int .i64 high2))] kk
theorem g_spec_inRange (n0 : Int) (low1 : Int) (high2 : Int) (kk : AV → List A1 → Prop) :
    ev TT cs_spec_inRange 15 an_spec_inRange (Try.f40.body.getD .skip) (st0 con_spec_inRange [.c (.v (.int .i64 n0)), .c (.v (.int .i64 low1)), .c (.v (.int .i64 high2))]) (fin TT con_spec_inRange Try.f40.results.toList [.c .sc] [.c (.v (.int .i64 n0)), .c (.v (.int .i64 low1)), .c (.v (.int .i64 high2))] kk) = G_spec_inRange n0 low1 high2 (fun r0 => kk (.one (.c (.v (.bool r0)))) []) := by kernel_rfl
theorem e_spec_inRange (n0 : Int) (low1 : Int) (high2 : Int) (kk : AV → List A1 → Prop) :
    ev TT cs_spec_inRange 15 an_spec_inRange (Try.f40.body.getD .skip) (st0 con_spec_inRange [.c (.v (.int .i64 n0)), .c (.v (.int .i64 low1)), .c (.v (.int .i64 high2))]) (fin TT con_spec_inRange Try.f40.results.toList [.c .sc] [.c (.v (.int .i64 n0)), .c (.v (.int .i64 low1)), .c (.v (.int .i64 high2))] kk) = S_spec_inRange n0 low1 high2 (fun r0 => kk (.one (.c (.v (.bool r0)))) []) := by
  rw [g_spec_inRange]
  rfl
theorem clok_spec_inRange : ConOK Try.prog cl_spec_inRange := consNil
theorem cok_spec_inRange : ConsOK Try.prog 15 cs_spec_inRange := ⟨clok_spec_inRange, inlNil, ovNil⟩
theorem i_spec_inRange {vs : List A1} {kk : AV → List A1 → Prop} {motive : List A1 → Prop} (h : con_spec_inRange.F vs kk) (H : ∀ (n0 : Int) (low1 : Int) (high2 : Int), F_spec_inRange n0 low1 high2 (fun r0 => kk (.one (.c (.v (.bool r0)))) []) → motive [.c (.v (.int .i64 n0)), .c (.v (.int .i64 low1)), .c (.v (.int .i64 high2))]) : motive vs := by
  unfold con_spec_inRange at h
  dsimp only at h
  split at h
  · exact H _ _ _ h
  · exact h.elim
theorem h_spec_inRange : Holds Try.prog 40 con_spec_inRange := by
  refine holds_of_ev (rt := [.c .sc]) (T := TT) (Γ := cs_spec_inRange) (an := an_spec_inRange) (N := 15) (c := Try.f40.body.getD .skip) Try.func40 (by kernel_rfl) Try.ntmps40 (by decide) (by decide) mixed tabOK cok_spec_inRange (by kernel_rfl) ?_
  intro vs kk _ hF
  exact i_spec_inRange (motive := fun vs => Goes (ev TT cs_spec_inRange 15 an_spec_inRange (Try.f40.body.getD .skip) (st0 con_spec_inRange vs) (fin TT con_spec_inRange Try.f40.results.toList [.c .sc] vs kk))) hF (fun n0 low1 high2 hF => goes_of (e_spec_inRange n0 low1 high2 kk) (F_spec_inRange_S hF))
def con_spec_WorthOf : Con := ⟨[.rd, .rd, .rd], true, [.c (.sc), .c (.sc), .c (.sc)], fun vs k => match vs with
    | [.c (.v (.int .i64 times0)), .c (.v (.int .i64 cost1)), .c (.v (.int .i64 size2))] => F_spec_WorthOf times0 cost1 size2 (fun r0 => k (.one (.c (.v (.int .i64 r0)))) [])
    | _ => False, false⟩
def cl_spec_WorthOf : List (FuncId × Con) := [(40, con_spec_inRange)]
def an_spec_WorthOf : Ann := ⟨[], [], [], []⟩
def cs_spec_WorthOf : Cons := ⟨cl_spec_WorthOf, [], 0, [], [], []⟩
def fin_spec_WorthOf (times0 : Int) (cost1 : Int) (size2 : Int) (kk : AV → List A1 → Prop) : Kt := fin TT con_spec_WorthOf Try.f24.results.toList [.c .sc] [.c (.v (.int .i64 times0)), .c (.v (.int .i64 cost1)), .c (.v (.int .i64 size2))] kk
theorem g_spec_WorthOf (times0 : Int) (cost1 : Int) (size2 : Int) (kk : AV → List A1 → Prop) :
    ev TT cs_spec_WorthOf 26 an_spec_WorthOf (Try.f24.body.getD .skip) (st0 con_spec_WorthOf [.c (.v (.int .i64 times0)), .c (.v (.int .i64 cost1)), .c (.v (.int .i64 size2))]) (fin TT con_spec_WorthOf Try.f24.results.toList [.c .sc] [.c (.v (.int .i64 times0)), .c (.v (.int .i64 cost1)), .c (.v (.int .i64 size2))] kk) = G_spec_WorthOf times0 cost1 size2 (fun r0 => kk (.one (.c (.v (.int .i64 r0)))) []) := by kernel_rfl
theorem e_spec_WorthOf (times0 : Int) (cost1 : Int) (size2 : Int) (kk : AV → List A1 → Prop) :
    ev TT cs_spec_WorthOf 26 an_spec_WorthOf (Try.f24.body.getD .skip) (st0 con_spec_WorthOf [.c (.v (.int .i64 times0)), .c (.v (.int .i64 cost1)), .c (.v (.int .i64 size2))]) (fin TT con_spec_WorthOf Try.f24.results.toList [.c .sc] [.c (.v (.int .i64 times0)), .c (.v (.int .i64 cost1)), .c (.v (.int .i64 size2))] kk) = S_spec_WorthOf times0 cost1 size2 (fun r0 => kk (.one (.c (.v (.int .i64 r0)))) []) := by
  rw [g_spec_WorthOf]
  rfl
theorem clok_spec_WorthOf : ConOK Try.prog cl_spec_WorthOf := consCons h_spec_inRange ⟨Try.f40, Try.func40, by kernel_rfl, ne_of_beq (by kernel_rfl)⟩ (consNil)
theorem cok_spec_WorthOf : ConsOK Try.prog 26 cs_spec_WorthOf := ⟨clok_spec_WorthOf, inlNil, ovNil⟩
theorem i_spec_WorthOf {vs : List A1} {kk : AV → List A1 → Prop} {motive : List A1 → Prop} (h : con_spec_WorthOf.F vs kk) (H : ∀ (times0 : Int) (cost1 : Int) (size2 : Int), F_spec_WorthOf times0 cost1 size2 (fun r0 => kk (.one (.c (.v (.int .i64 r0)))) []) → motive [.c (.v (.int .i64 times0)), .c (.v (.int .i64 cost1)), .c (.v (.int .i64 size2))]) : motive vs := by
  unfold con_spec_WorthOf at h
  dsimp only at h
  split at h
  · exact H _ _ _ h
  · exact h.elim
theorem h_spec_WorthOf : Holds Try.prog 24 con_spec_WorthOf := by
  refine holds_of_ev (rt := [.c .sc]) (T := TT) (Γ := cs_spec_WorthOf) (an := an_spec_WorthOf) (N := 26) (c := Try.f24.body.getD .skip) Try.func24 (by kernel_rfl) Try.ntmps24 (by decide) (by decide) mixed tabOK cok_spec_WorthOf (by kernel_rfl) ?_
  intro vs kk _ hF
  exact i_spec_WorthOf (motive := fun vs => Goes (ev TT cs_spec_WorthOf 26 an_spec_WorthOf (Try.f24.body.getD .skip) (st0 con_spec_WorthOf vs) (fin TT con_spec_WorthOf Try.f24.results.toList [.c .sc] vs kk))) hF (fun times0 cost1 size2 hF => goes_of (e_spec_WorthOf times0 cost1 size2 kk) (F_spec_WorthOf_S hF))
def con_impl_validCount : Con := ⟨[.rd], true, [.c (.sc)], fun vs k => match vs with
    | [.c (.v (.int .i64 count0))] => F_impl_validCount count0 (fun r0 => k (.one (.c (.v (.bool r0)))) [])
    | _ => False, false⟩
def cl_impl_validCount : List (FuncId × Con) := []
def an_impl_validCount : Ann := ⟨[], [], [], []⟩
def cs_impl_validCount : Cons := ⟨cl_impl_validCount, [], 0, [], [], []⟩
def fin_impl_validCount (count0 : Int) (kk : AV → List A1 → Prop) : Kt := fin TT con_impl_validCount Try.f42.results.toList [.c .sc] [.c (.v (.int .i64 count0))] kk
theorem g_impl_validCount (count0 : Int) (kk : AV → List A1 → Prop) :
    ev TT cs_impl_validCount 9 an_impl_validCount (Try.f42.body.getD .skip) (st0 con_impl_validCount [.c (.v (.int .i64 count0))]) (fin TT con_impl_validCount Try.f42.results.toList [.c .sc] [.c (.v (.int .i64 count0))] kk) = G_impl_validCount count0 (fun r0 => kk (.one (.c (.v (.bool r0)))) []) := by kernel_rfl
theorem e_impl_validCount (count0 : Int) (kk : AV → List A1 → Prop) :
    ev TT cs_impl_validCount 9 an_impl_validCount (Try.f42.body.getD .skip) (st0 con_impl_validCount [.c (.v (.int .i64 count0))]) (fin TT con_impl_validCount Try.f42.results.toList [.c .sc] [.c (.v (.int .i64 count0))] kk) = S_impl_validCount count0 (fun r0 => kk (.one (.c (.v (.bool r0)))) []) := by
  rw [g_impl_validCount]
  rfl
theorem clok_impl_validCount : ConOK Try.prog cl_impl_validCount := consNil
theorem cok_impl_validCount : ConsOK Try.prog 9 cs_impl_validCount := ⟨clok_impl_validCount, inlNil, ovNil⟩
theorem i_impl_validCount {vs : List A1} {kk : AV → List A1 → Prop} {motive : List A1 → Prop} (h : con_impl_validCount.F vs kk) (H : ∀ (count0 : Int), F_impl_validCount count0 (fun r0 => kk (.one (.c (.v (.bool r0)))) []) → motive [.c (.v (.int .i64 count0))]) : motive vs := by
  unfold con_impl_validCount at h
  dsimp only at h
  split at h
  · exact H _ h
  · exact h.elim
theorem h_impl_validCount : Holds Try.prog 42 con_impl_validCount := by
  refine holds_of_ev (rt := [.c .sc]) (T := TT) (Γ := cs_impl_validCount) (an := an_impl_validCount) (N := 9) (c := Try.f42.body.getD .skip) Try.func42 (by kernel_rfl) Try.ntmps42 (by decide) (by decide) mixed tabOK cok_impl_validCount (by kernel_rfl) ?_
  intro vs kk _ hF
  exact i_impl_validCount (motive := fun vs => Goes (ev TT cs_impl_validCount 9 an_impl_validCount (Try.f42.body.getD .skip) (st0 con_impl_validCount vs) (fin TT con_impl_validCount Try.f42.results.toList [.c .sc] vs kk))) hF (fun count0 hF => goes_of (e_impl_validCount count0 kk) (F_impl_validCount_S hF))
def con_impl_validSize : Con := ⟨[.rd], true, [.c (.sc)], fun vs k => match vs with
    | [.c (.v (.int .i64 size0))] => F_impl_validSize size0 (fun r0 => k (.one (.c (.v (.bool r0)))) [])
    | _ => False, false⟩
def cl_impl_validSize : List (FuncId × Con) := []
def an_impl_validSize : Ann := ⟨[], [], [], []⟩
def cs_impl_validSize : Cons := ⟨cl_impl_validSize, [], 0, [], [], []⟩
def fin_impl_validSize (size0 : Int) (kk : AV → List A1 → Prop) : Kt := fin TT con_impl_validSize Try.f43.results.toList [.c .sc] [.c (.v (.int .i64 size0))] kk
theorem g_impl_validSize (size0 : Int) (kk : AV → List A1 → Prop) :
    ev TT cs_impl_validSize 9 an_impl_validSize (Try.f43.body.getD .skip) (st0 con_impl_validSize [.c (.v (.int .i64 size0))]) (fin TT con_impl_validSize Try.f43.results.toList [.c .sc] [.c (.v (.int .i64 size0))] kk) = G_impl_validSize size0 (fun r0 => kk (.one (.c (.v (.bool r0)))) []) := by kernel_rfl
theorem e_impl_validSize (size0 : Int) (kk : AV → List A1 → Prop) :
    ev TT cs_impl_validSize 9 an_impl_validSize (Try.f43.body.getD .skip) (st0 con_impl_validSize [.c (.v (.int .i64 size0))]) (fin TT con_impl_validSize Try.f43.results.toList [.c .sc] [.c (.v (.int .i64 size0))] kk) = S_impl_validSize size0 (fun r0 => kk (.one (.c (.v (.bool r0)))) []) := by
  rw [g_impl_validSize]
  rfl
theorem clok_impl_validSize : ConOK Try.prog cl_impl_validSize := consNil
theorem cok_impl_validSize : ConsOK Try.prog 9 cs_impl_validSize := ⟨clok_impl_validSize, inlNil, ovNil⟩
theorem i_impl_validSize {vs : List A1} {kk : AV → List A1 → Prop} {motive : List A1 → Prop} (h : con_impl_validSize.F vs kk) (H : ∀ (size0 : Int), F_impl_validSize size0 (fun r0 => kk (.one (.c (.v (.bool r0)))) []) → motive [.c (.v (.int .i64 size0))]) : motive vs := by
  unfold con_impl_validSize at h
  dsimp only at h
  split at h
  · exact H _ h
  · exact h.elim
theorem h_impl_validSize : Holds Try.prog 43 con_impl_validSize := by
  refine holds_of_ev (rt := [.c .sc]) (T := TT) (Γ := cs_impl_validSize) (an := an_impl_validSize) (N := 9) (c := Try.f43.body.getD .skip) Try.func43 (by kernel_rfl) Try.ntmps43 (by decide) (by decide) mixed tabOK cok_impl_validSize (by kernel_rfl) ?_
  intro vs kk _ hF
  exact i_impl_validSize (motive := fun vs => Goes (ev TT cs_impl_validSize 9 an_impl_validSize (Try.f43.body.getD .skip) (st0 con_impl_validSize vs) (fin TT con_impl_validSize Try.f43.results.toList [.c .sc] vs kk))) hF (fun size0 hF => goes_of (e_impl_validSize size0 kk) (F_impl_validSize_S hF))
def con_impl_WorthOf : Con := ⟨[.rd, .rd, .rd], true, [.c (.sc), .c (.sc), .c (.sc)], fun vs k => match vs with
    | [.c (.v (.int .i64 times0)), .c (.v (.int .i64 cost1)), .c (.v (.int .i64 size2))] => F_impl_WorthOf times0 cost1 size2 (fun r0 => k (.one (.c (.v (.int .i64 r0)))) [])
    | _ => False, false⟩
def cl_impl_WorthOf : List (FuncId × Con) := [(42, con_impl_validCount), (43, con_impl_validSize)]
def an_impl_WorthOf : Ann := ⟨[], [], [], []⟩
def cs_impl_WorthOf : Cons := ⟨cl_impl_WorthOf, [], 0, [], [], []⟩
def fin_impl_WorthOf (times0 : Int) (cost1 : Int) (size2 : Int) (kk : AV → List A1 → Prop) : Kt := fin TT con_impl_WorthOf Try.f23.results.toList [.c .sc] [.c (.v (.int .i64 times0)), .c (.v (.int .i64 cost1)), .c (.v (.int .i64 size2))] kk
theorem g_impl_WorthOf (times0 : Int) (cost1 : Int) (size2 : Int) (kk : AV → List A1 → Prop) :
    ev TT cs_impl_WorthOf 26 an_impl_WorthOf (Try.f23.body.getD .skip) (st0 con_impl_WorthOf [.c (.v (.int .i64 times0)), .c (.v (.int .i64 cost1)), .c (.v (.int .i64 size2))]) (fin TT con_impl_WorthOf Try.f23.results.toList [.c .sc] [.c (.v (.int .i64 times0)), .c (.v (.int .i64 cost1)), .c (.v (.int .i64 size2))] kk) = G_impl_WorthOf times0 cost1 size2 (fun r0 => kk (.one (.c (.v (.int .i64 r0)))) []) := by kernel_rfl
theorem e_impl_WorthOf (times0 : Int) (cost1 : Int) (size2 : Int) (kk : AV → List A1 → Prop) :
    ev TT cs_impl_WorthOf 26 an_impl_WorthOf (Try.f23.body.getD .skip) (st0 con_impl_WorthOf [.c (.v (.int .i64 times0)), .c (.v (.int .i64 cost1)), .c (.v (.int .i64 size2))]) (fin TT con_impl_WorthOf Try.f23.results.toList [.c .sc] [.c (.v (.int .i64 times0)), .c (.v (.int .i64 cost1)), .c (.v (.int .i64 size2))] kk) = S_impl_WorthOf times0 cost1 size2 (fun r0 => kk (.one (.c (.v (.int .i64 r0)))) []) := by
  rw [g_impl_WorthOf]
  rfl
theorem clok_impl_WorthOf : ConOK Try.prog cl_impl_WorthOf := consCons h_impl_validCount ⟨Try.f42, Try.func42, by kernel_rfl, ne_of_beq (by kernel_rfl)⟩ (consCons h_impl_validSize ⟨Try.f43, Try.func43, by kernel_rfl, ne_of_beq (by kernel_rfl)⟩ (consNil))
theorem cok_impl_WorthOf : ConsOK Try.prog 26 cs_impl_WorthOf := ⟨clok_impl_WorthOf, inlNil, ovNil⟩
theorem i_impl_WorthOf {vs : List A1} {kk : AV → List A1 → Prop} {motive : List A1 → Prop} (h : con_impl_WorthOf.F vs kk) (H : ∀ (times0 : Int) (cost1 : Int) (size2 : Int), F_impl_WorthOf times0 cost1 size2 (fun r0 => kk (.one (.c (.v (.int .i64 r0)))) []) → motive [.c (.v (.int .i64 times0)), .c (.v (.int .i64 cost1)), .c (.v (.int .i64 size2))]) : motive vs := by
  unfold con_impl_WorthOf at h
  dsimp only at h
  split at h
  · exact H _ _ _ h
  · exact h.elim
theorem h_impl_WorthOf : Holds Try.prog 23 con_impl_WorthOf := by
  refine holds_of_ev (rt := [.c .sc]) (T := TT) (Γ := cs_impl_WorthOf) (an := an_impl_WorthOf) (N := 26) (c := Try.f23.body.getD .skip) Try.func23 (by kernel_rfl) Try.ntmps23 (by decide) (by decide) mixed tabOK cok_impl_WorthOf (by kernel_rfl) ?_
  intro vs kk _ hF
  exact i_impl_WorthOf (motive := fun vs => Goes (ev TT cs_impl_WorthOf 26 an_impl_WorthOf (Try.f23.body.getD .skip) (st0 con_impl_WorthOf vs) (fin TT con_impl_WorthOf Try.f23.results.toList [.c .sc] vs kk))) hF (fun times0 cost1 size2 hF => goes_of (e_impl_WorthOf times0 cost1 size2 kk) (F_impl_WorthOf_S hF))
def con_laws_FnExactWorthOf : Con := ⟨[.rd, .rd, .rd], true, [.c (.sc), .c (.sc), .c (.sc)], fun vs k => match vs with
    | [.c (.v (.int .i64 aTimes0)), .c (.v (.int .i64 aCost1)), .c (.v (.int .i64 aSize2))] => F_laws_FnExactWorthOf aTimes0 aCost1 aSize2 (fun r0 => k (.one (.c (.v (.bool r0)))) [])
    | _ => False, false⟩
def cl_laws_FnExactWorthOf : List (FuncId × Con) := [(23, con_impl_WorthOf), (24, con_spec_WorthOf)]
def an_laws_FnExactWorthOf : Ann := ⟨[], [], [], []⟩
def cs_laws_FnExactWorthOf : Cons := ⟨cl_laws_FnExactWorthOf, [], 0, [], [], []⟩
def fin_laws_FnExactWorthOf (aTimes0 : Int) (aCost1 : Int) (aSize2 : Int) (kk : AV → List A1 → Prop) : Kt := fin TT con_laws_FnExactWorthOf Try.f10.results.toList [.c .sc] [.c (.v (.int .i64 aTimes0)), .c (.v (.int .i64 aCost1)), .c (.v (.int .i64 aSize2))] kk
theorem g_laws_FnExactWorthOf (aTimes0 : Int) (aCost1 : Int) (aSize2 : Int) (kk : AV → List A1 → Prop) :
    ev TT cs_laws_FnExactWorthOf 20 an_laws_FnExactWorthOf (Try.f10.body.getD .skip) (st0 con_laws_FnExactWorthOf [.c (.v (.int .i64 aTimes0)), .c (.v (.int .i64 aCost1)), .c (.v (.int .i64 aSize2))]) (fin TT con_laws_FnExactWorthOf Try.f10.results.toList [.c .sc] [.c (.v (.int .i64 aTimes0)), .c (.v (.int .i64 aCost1)), .c (.v (.int .i64 aSize2))] kk) = G_laws_FnExactWorthOf aTimes0 aCost1 aSize2 (fun r0 => kk (.one (.c (.v (.bool r0)))) []) := by kernel_rfl
theorem e_laws_FnExactWorthOf (aTimes0 : Int) (aCost1 : Int) (aSize2 : Int) (kk : AV → List A1 → Prop) :
    ev TT cs_laws_FnExactWorthOf 20 an_laws_FnExactWorthOf (Try.f10.body.getD .skip) (st0 con_laws_FnExactWorthOf [.c (.v (.int .i64 aTimes0)), .c (.v (.int .i64 aCost1)), .c (.v (.int .i64 aSize2))]) (fin TT con_laws_FnExactWorthOf Try.f10.results.toList [.c .sc] [.c (.v (.int .i64 aTimes0)), .c (.v (.int .i64 aCost1)), .c (.v (.int .i64 aSize2))] kk) = S_laws_FnExactWorthOf aTimes0 aCost1 aSize2 (fun r0 => kk (.one (.c (.v (.bool r0)))) []) := by
  rw [g_laws_FnExactWorthOf]
  rfl
theorem clok_laws_FnExactWorthOf : ConOK Try.prog cl_laws_FnExactWorthOf := consCons h_impl_WorthOf ⟨Try.f23, Try.func23, by kernel_rfl, ne_of_beq (by kernel_rfl)⟩ (consCons h_spec_WorthOf ⟨Try.f24, Try.func24, by kernel_rfl, ne_of_beq (by kernel_rfl)⟩ (consNil))
theorem cok_laws_FnExactWorthOf : ConsOK Try.prog 20 cs_laws_FnExactWorthOf := ⟨clok_laws_FnExactWorthOf, inlNil, ovNil⟩
theorem i_laws_FnExactWorthOf {vs : List A1} {kk : AV → List A1 → Prop} {motive : List A1 → Prop} (h : con_laws_FnExactWorthOf.F vs kk) (H : ∀ (aTimes0 : Int) (aCost1 : Int) (aSize2 : Int), F_laws_FnExactWorthOf aTimes0 aCost1 aSize2 (fun r0 => kk (.one (.c (.v (.bool r0)))) []) → motive [.c (.v (.int .i64 aTimes0)), .c (.v (.int .i64 aCost1)), .c (.v (.int .i64 aSize2))]) : motive vs := by
  unfold con_laws_FnExactWorthOf at h
  dsimp only at h
  split at h
  · exact H _ _ _ h
  · exact h.elim
theorem h_laws_FnExactWorthOf : Holds Try.prog 10 con_laws_FnExactWorthOf := by
  refine holds_of_ev (rt := [.c .sc]) (T := TT) (Γ := cs_laws_FnExactWorthOf) (an := an_laws_FnExactWorthOf) (N := 20) (c := Try.f10.body.getD .skip) Try.func10 (by kernel_rfl) Try.ntmps10 (by decide) (by decide) mixed tabOK cok_laws_FnExactWorthOf (by kernel_rfl) ?_
  intro vs kk _ hF
  exact i_laws_FnExactWorthOf (motive := fun vs => Goes (ev TT cs_laws_FnExactWorthOf 20 an_laws_FnExactWorthOf (Try.f10.body.getD .skip) (st0 con_laws_FnExactWorthOf vs) (fin TT con_laws_FnExactWorthOf Try.f10.results.toList [.c .sc] vs kk))) hF (fun aTimes0 aCost1 aSize2 hF => goes_of (e_laws_FnExactWorthOf aTimes0 aCost1 aSize2 kk) (F_laws_FnExactWorthOf_S hF))
end Go.Ev
