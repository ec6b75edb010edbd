/- Law FnExactMixTraces: the law's call returns true for every input, and what was there stays as it was. No condition. -/
import Derived.Test.YtemhpncmhdcheaaEvV
import Derived.Test.YtemhpncmhdcheaaFnExactMixTracesE0
namespace Go.Proofs.Ytemhpncmhdcheaa.fnExactMixTraces
open Go.ChangeShapes Go.WideShapes Go.ChangeAt Go.RowKit
set_option linter.unusedVariables false
set_option linter.unusedSimpArgs false

theorem sh0 : Go.Ev.PShOK Try.prog 23 (.c (.sl .int)) := ⟨_, Try.underlying23, by kernel_rfl, ⟨Try.underlying3, by kernel_rfl⟩⟩
theorem sh1 : Go.Ev.PShOK Try.prog 23 (.c (.sl .int)) := ⟨_, Try.underlying23, by kernel_rfl, ⟨Try.underlying3, by kernel_rfl⟩⟩
theorem walk (w : World) (v0 : Value) (x0 : Go.Ev.A1) (v1 : Value) (x1 : Go.Ev.A1) (h0 : Go.Ev.R1 (Go.Ev.skel []) Go.Ev.muT w x0 v0) (h1 : Go.Ev.R1 (Go.Ev.skel []) Go.Ev.muT w x1 v1) (i0 : Go.Ev.PIs (.c (.sl .int)) x0) (i1 : Go.Ev.PIs (.c (.sl .int)) x1) :
    Calls Try.prog 12 #[v0, v1] w (Law w) := by
  obtain ⟨_, rfl, n0_0, rfl, ln0_0, rn0_0⟩ := i0
  obtain ⟨_, rfl, n1_0, rfl, ln1_0, rn1_0⟩ := i1
  have hl := Go.Ev.law_FnExactMixTraces n0_0 ln0_0 rn0_0 n1_0 ln1_0 rn1_0
  rw [← Go.Ev.okB] at hl
  exact law_any Go.Ev.h_laws_FnExactMixTraces rfl (vals := [v0, v1]) (vs := [_, _]) rfl ⟨h0, h1, trivial⟩ hl

set_option maxRecDepth 100000 in
theorem lifted (os : Os) (started : os.Started) (H : Type) (enc : TypeId × Value → H) :
    ReturnsInHanded {} Try.checked os 12 .any (Rows.fnExactMixTracesSpec.pre6 enc Try.prog Try.f12 Rows.fnExactMixTracesRow.domain false) (Rows.fnExactMixTracesSpec.post enc Try.prog Try.f12 false true false false) := by
  refine returnsInHanded_of_change (C := Try.checked) own started (by kernel_rfl) Try.func12
    (ChangeSpec.witness6 (enc := enc) (C := Try.checked) false ⟨#[], #[.slice none 0 0, .slice none 0 0], []⟩ 8 (by kernel_rfl) (by kernel_rfl) (by kernel_rfl) (by kernel_rfl)) ?_
  intro W base args ds gs before hval0 hW hcnd _
  have hval : ∀ (j : Nat) t v, Try.f12.params[j]? = some t → args[j]? = some v → Value.okWide Try.prog W .any base t v := hval0
  have hW' := hW
  obtain ⟨p, q, hA0, hV, rfl, hfz, hnd⟩ := hW
  have hA : DataW.TrodAll enc Try.prog W 0 (fun _ => true) true Try.f12.params.toList args.toList ds p := hA0
  rw [Try.params12] at hA hval
  obtain ⟨v0, vs0, d0, ds0, p0, q0, hargs, rfl, rfl, g0, r0⟩ := trodAll_cons hA
  obtain ⟨v1, vs1, d1, ds1, p1, q1, rfl, rfl, rfl, g1, r1⟩ := trodAll_cons r0
  obtain ⟨rfl, rfl, rfl⟩ := trodAll_nil r1
  obtain rfl : args = #[v0, v1] := by cases args; simp_all
  obtain ⟨rfl, rfl⟩ := trodVars_none hV
  have lt0 : ∀ x ∈ p0, x.block < W.heap.size := by obtain ⟨m, hm⟩ := g0; exact DataW.trod_lt m _ _ _ hm
  obtain ⟨x0, h0, i0⟩ := Go.Ev.open_p sh0 (hval 0 23 v0 rfl rfl) g0
  have lt1 : ∀ x ∈ p1, x.block < W.heap.size := by obtain ⟨m, hm⟩ := g1; exact DataW.trod_lt m _ _ _ hm
  obtain ⟨x1, h1, i1⟩ := Go.Ev.open_p sh1 (hval 1 23 v1 rfl rfl) g1
  clear hA0 hval0
  refine (walk W v0 x0 v1 x1 h0 h1 i0 i1).mono fun e W' ⟨he, bel⟩ => ?_
  subst he
  exact ⟨_, rfl, _, _, _, [], _, [], hW', trodAll_mk1 (shut_bool Try.underlying4 _), (trodAll_cons_mk (Below.trod laidOut (by kernel_rfl) (of_decide_eq_true (by kernel_rfl)) g0 bel lt0) (trodAll_cons_mk (Below.trod laidOut (by kernel_rfl) (of_decide_eq_true (by kernel_rfl)) g1 bel lt1) trodAll_mk0)), rfl, bel.frame _, fun h => by cases h⟩

theorem over : Rows.fnExactMixTracesRow.holds Try.pinned (OpenSpec.ofChange Rows.fnExactMixTracesSpec) :=
  OpenClaim.holds_of_wide 12 Try.f12 rfl rfl rfl rfl rfl rfl rfl ⟨rfl, rfl, rfl, rfl, rfl⟩ rfl rfl rfl rfl rfl (by kernel_rfl) Try.func12 (by kernel_rfl)
    (of_decide_eq_true (by kernel_rfl)) (by unfold Func.isWrapper; first | (rw [if_pos (by decide +kernel)]; kernel_rfl) | (rw [if_neg (by decide +kernel)]; exact ⟨rfl, rfl⟩))
    (fun os started H enc _ => lifted os started H enc)

theorem proved : Rows.FnExactMixTracesSaid := over
end Go.Proofs.Ytemhpncmhdcheaa.fnExactMixTraces
