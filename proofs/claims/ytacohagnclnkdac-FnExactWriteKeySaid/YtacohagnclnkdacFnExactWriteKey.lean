/- Law FnExactWriteKey: the law's call returns true for every input, and what was there stays as it was. No condition. -/
import Derived.Test.YtacohagnclnkdacEvV
import Derived.Test.YtacohagnclnkdacFnExactWriteKeyE0
namespace Go.Proofs.Ytacohagnclnkdac.fnExactWriteKey
open Go.ChangeShapes Go.WideShapes Go.ChangeAt Go.RowKit
set_option linter.unusedVariables false
set_option linter.unusedSimpArgs false

theorem sh0 : Go.Ev.PShOK Try.prog 52 (.agg [.sl .int, .sl .iib, .sc .int]) :=
  ⟨_, Try.underlying52, by kernel_rfl, ⟨_, rfl, rfl, by kernel_rfl, ⟨_, Try.underlying23, by kernel_rfl, ⟨Try.underlying3, by kernel_rfl⟩⟩⟩, ⟨_, rfl, rfl, by kernel_rfl, ⟨_, Try.underlying50, by kernel_rfl, ⟨_, Try.underlying107, by kernel_rfl, ⟨_, rfl, rfl, ⟨Try.underlying3, by kernel_rfl⟩⟩, ⟨_, rfl, rfl, ⟨Try.underlying3, by kernel_rfl⟩⟩, ⟨_, rfl, rfl, ⟨Try.underlying4, by kernel_rfl⟩⟩, trivial⟩⟩⟩, ⟨_, rfl, rfl, by kernel_rfl, ⟨Try.underlying3, by kernel_rfl⟩⟩, trivial⟩
theorem sh1 : Go.Ev.PShOK Try.prog 3 (.c (.sc .int)) := ⟨Try.underlying3, by kernel_rfl⟩
theorem sh2 : Go.Ev.PShOK Try.prog 3 (.c (.sc .int)) := ⟨Try.underlying3, by kernel_rfl⟩
theorem walk (w : World) (v0 : Value) (x0 : Go.Ev.A1) (v1 : Value) (x1 : Go.Ev.A1) (v2 : Value) (x2 : Go.Ev.A1) (h0 : Go.Ev.R1 (Go.Ev.skel []) Go.Ev.muT w x0 v0) (h1 : Go.Ev.R1 (Go.Ev.skel []) Go.Ev.muT w x1 v1) (h2 : Go.Ev.R1 (Go.Ev.skel []) Go.Ev.muT w x2 v2) (i0 : Go.Ev.PIs (.agg [.sl .int, .sl .iib, .sc .int]) x0) (i1 : Go.Ev.PIs (.c (.sc .int)) x1) (i2 : Go.Ev.PIs (.c (.sc .int)) x2) :
    Calls Try.prog 8 #[v0, v1, v2] w (Law w) := by
  obtain ⟨_, rfl, _, _, rfl, ⟨n0_0, rfl, ln0_0, rn0_0⟩, _, _, rfl, ⟨n0_1, rfl, ln0_1, rn0_1⟩, _, _, rfl, ⟨n0_2, rfl, rn0_2⟩, rfl⟩ := i0
  obtain ⟨_, rfl, n1_0, rfl, rn1_0⟩ := i1
  obtain ⟨_, rfl, n2_0, rfl, rn2_0⟩ := i2
  have hl := Go.Ev.law_FnExactWriteKey n0_0 ln0_0 rn0_0 n0_1 ln0_1 rn0_1 n0_2 rn0_2 n1_0 rn1_0 n2_0 rn2_0
  rw [← Go.Ev.okB] at hl
  exact law_any Go.Ev.h_laws_FnExactWriteKey rfl (vals := [v0, v1, v2]) (vs := [_, _, _]) rfl ⟨h0, h1, h2, trivial⟩ hl

set_option maxRecDepth 100000 in
theorem lifted (os : Os) (started : os.Started) (H : Type) (enc : TypeId × Value → H) :
    ReturnsInHanded {} Try.checked os 8 .any (Rows.fnExactWriteKeySpec.pre6 enc Try.prog Try.f8 Rows.fnExactWriteKeyRow.domain false) (Rows.fnExactWriteKeySpec.post enc Try.prog Try.f8 false true false false) := by
  refine returnsInHanded_of_change (C := Try.checked) own started (by kernel_rfl) Try.func8
    (ChangeSpec.witness6 (enc := enc) (C := Try.checked) false ⟨#[], #[.agg #[.slice none 0 0, .slice none 0 0, .int .i64 0], .int .i64 0, .int .i64 0], []⟩ 8 (by kernel_rfl) (by kernel_rfl) (by kernel_rfl) (by kernel_rfl)) ?_
  intro W base args ds gs before hval0 hW hcnd _
  have hval : ∀ (j : Nat) t v, Try.f8.params[j]? = some t → args[j]? = some v → Value.okWide Try.prog W .any base t v := hval0
  have hW' := hW
  obtain ⟨p, q, hA0, hV, rfl, hfz, hnd⟩ := hW
  have hA : DataW.TrodAll enc Try.prog W 0 (fun _ => true) true Try.f8.params.toList args.toList ds p := hA0
  rw [Try.params8] at hA hval
  obtain ⟨v0, vs0, d0, ds0, p0, q0, hargs, rfl, rfl, g0, r0⟩ := trodAll_cons hA
  obtain ⟨v1, vs1, d1, ds1, p1, q1, rfl, rfl, rfl, g1, r1⟩ := trodAll_cons r0
  obtain ⟨v2, vs2, d2, ds2, p2, q2, rfl, rfl, rfl, g2, r2⟩ := trodAll_cons r1
  obtain ⟨rfl, rfl, rfl⟩ := trodAll_nil r2
  obtain rfl : args = #[v0, v1, v2] := by cases args; simp_all
  obtain ⟨rfl, rfl⟩ := trodVars_none hV
  have lt0 : ∀ x ∈ p0, x.block < W.heap.size := by obtain ⟨m, hm⟩ := g0; exact DataW.trod_lt m _ _ _ hm
  obtain ⟨x0, h0, i0⟩ := Go.Ev.open_p sh0 (hval 0 52 v0 rfl rfl) g0
  have lt1 : ∀ x ∈ p1, x.block < W.heap.size := by obtain ⟨m, hm⟩ := g1; exact DataW.trod_lt m _ _ _ hm
  obtain ⟨x1, h1, i1⟩ := Go.Ev.open_p sh1 (hval 1 3 v1 rfl rfl) g1
  have lt2 : ∀ x ∈ p2, x.block < W.heap.size := by obtain ⟨m, hm⟩ := g2; exact DataW.trod_lt m _ _ _ hm
  obtain ⟨x2, h2, i2⟩ := Go.Ev.open_p sh2 (hval 2 3 v2 rfl rfl) g2
  clear hA0 hval0
  refine (walk W v0 x0 v1 x1 v2 x2 h0 h1 h2 i0 i1 i2).mono fun e W' ⟨he, bel⟩ => ?_
  subst he
  exact ⟨_, rfl, _, _, _, [], _, [], hW', trodAll_mk1 (shut_bool Try.underlying4 _), (trodAll_cons_mk (Below.trod laidOut (by kernel_rfl) (of_decide_eq_true (by kernel_rfl)) g0 bel lt0) (trodAll_cons_mk (Below.trod laidOut (by kernel_rfl) (of_decide_eq_true (by kernel_rfl)) g1 bel lt1) (trodAll_cons_mk (Below.trod laidOut (by kernel_rfl) (of_decide_eq_true (by kernel_rfl)) g2 bel lt2) trodAll_mk0))), rfl, bel.frame _, fun h => by cases h⟩

theorem over : Rows.fnExactWriteKeyRow.holds Try.pinned (OpenSpec.ofChange Rows.fnExactWriteKeySpec) :=
  OpenClaim.holds_of_wide 8 Try.f8 rfl rfl rfl rfl rfl rfl rfl ⟨rfl, rfl, rfl, rfl, rfl⟩ rfl rfl rfl rfl rfl (by kernel_rfl) Try.func8 (by kernel_rfl)
    (of_decide_eq_true (by kernel_rfl)) (by unfold Func.isWrapper; first | (rw [if_pos (by decide +kernel)]; kernel_rfl) | (rw [if_neg (by decide +kernel)]; exact ⟨rfl, rfl⟩))
    (fun os started H enc _ => lifted os started H enc)

theorem proved : Rows.FnExactWriteKeySaid := over
end Go.Proofs.Ytacohagnclnkdac.fnExactWriteKey
