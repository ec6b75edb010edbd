/- Law FnExactWheelOf: the law's call returns true for every input, and what was there stays as it was. No condition. -/
import Derived.Test.YtacohagnclnkdadEvV
import Derived.Test.YtacohagnclnkdadFnExactWheelOfE0
namespace Go.Proofs.Ytacohagnclnkdad.fnExactWheelOf
open Go.ChangeShapes Go.WideShapes Go.ChangeAt Go.RowKit
set_option linter.unusedVariables false
set_option linter.unusedSimpArgs false

theorem sh0 : Go.Ev.PShOK Try.prog 39 (.c (.sl .ii)) := ⟨_, Try.underlying39, by kernel_rfl, ⟨_, Try.underlying63, by kernel_rfl, ⟨_, rfl, rfl, ⟨Try.underlying3, by kernel_rfl⟩⟩, ⟨_, rfl, rfl, ⟨Try.underlying3, by kernel_rfl⟩⟩, trivial⟩⟩
theorem walk (w : World) (v0 : Value) (x0 : Go.Ev.A1) (h0 : Go.Ev.R1 (Go.Ev.skel []) Go.Ev.muT w x0 v0) (i0 : Go.Ev.PIs (.c (.sl .ii)) x0) :
    Calls Try.prog 7 #[v0] w (Law w) := by
  obtain ⟨_, rfl, n0_0, rfl, ln0_0, rn0_0⟩ := i0
  have hl := Go.Ev.law_FnExactWheelOf n0_0 ln0_0 rn0_0
  rw [← Go.Ev.okB] at hl
  exact law_any Go.Ev.h_laws_FnExactWheelOf rfl (vals := [v0]) (vs := [_]) rfl ⟨h0, trivial⟩ hl

set_option maxRecDepth 100000 in
theorem lifted (os : Os) (started : os.Started) (H : Type) (enc : TypeId × Value → H) :
    ReturnsInHanded {} Try.checked os 7 .any (Rows.fnExactWheelOfSpec.pre6 enc Try.prog Try.f7 Rows.fnExactWheelOfRow.domain false) (Rows.fnExactWheelOfSpec.post enc Try.prog Try.f7 false true false false) := by
  refine returnsInHanded_of_change (C := Try.checked) own started (by kernel_rfl) Try.func7
    (ChangeSpec.witness6 (enc := enc) (C := Try.checked) false ⟨#[], #[.slice none 0 0], []⟩ 8 (by kernel_rfl) (by kernel_rfl) (by kernel_rfl) (by kernel_rfl)) ?_
  intro W base args ds gs before hval0 hW hcnd _
  have hval : ∀ (j : Nat) t v, Try.f7.params[j]? = some t → args[j]? = some v → Value.okWide Try.prog W .any base t v := hval0
  have hW' := hW
  obtain ⟨p, q, hA0, hV, rfl, hfz, hnd⟩ := hW
  have hA : DataW.TrodAll enc Try.prog W 0 (fun _ => true) true Try.f7.params.toList args.toList ds p := hA0
  rw [Try.params7] at hA hval
  obtain ⟨v0, vs0, d0, ds0, p0, q0, hargs, rfl, rfl, g0, r0⟩ := trodAll_cons hA
  obtain ⟨rfl, rfl, rfl⟩ := trodAll_nil r0
  obtain rfl : args = #[v0] := by cases args; simp_all
  obtain ⟨rfl, rfl⟩ := trodVars_none hV
  have lt0 : ∀ x ∈ p0, x.block < W.heap.size := by obtain ⟨m, hm⟩ := g0; exact DataW.trod_lt m _ _ _ hm
  obtain ⟨x0, h0, i0⟩ := Go.Ev.open_p sh0 (hval 0 39 v0 rfl rfl) g0
  clear hA0 hval0
  refine (walk W v0 x0 h0 i0).mono fun e W' ⟨he, bel⟩ => ?_
  subst he
  exact ⟨_, rfl, _, _, _, [], _, [], hW', trodAll_mk1 (shut_bool Try.underlying4 _), (trodAll_cons_mk (Below.trod laidOut (by kernel_rfl) (of_decide_eq_true (by kernel_rfl)) g0 bel lt0) trodAll_mk0), rfl, bel.frame _, fun h => by cases h⟩

theorem over : Rows.fnExactWheelOfRow.holds Try.pinned (OpenSpec.ofChange Rows.fnExactWheelOfSpec) :=
  OpenClaim.holds_of_wide 7 Try.f7 rfl rfl rfl rfl rfl rfl rfl ⟨rfl, rfl, rfl, rfl, rfl⟩ rfl rfl rfl rfl rfl (by kernel_rfl) Try.func7 (by kernel_rfl)
    (of_decide_eq_true (by kernel_rfl)) (by unfold Func.isWrapper; first | (rw [if_pos (by decide +kernel)]; kernel_rfl) | (rw [if_neg (by decide +kernel)]; exact ⟨rfl, rfl⟩))
    (fun os started H enc _ => lifted os started H enc)

theorem proved : Rows.FnExactWheelOfSaid := over
end Go.Proofs.Ytacohagnclnkdad.fnExactWheelOf
