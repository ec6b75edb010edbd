/- Law FnExactParseTrace: the law's call returns true for every input, and what was there stays as it was. No condition. -/
import Derived.Test.YtemhpncmhdcheabDoorEvV
import Derived.Test.YtemhpncmhdcheabDoorFnExactParseTraceE0
import Derived.Test.YtemhpncmhdcheabDoorTie
import Derived.Test.YtemhpncmhdcheabDoorCards
import Derived.ProofKit
import Derived.LaidMore
import Derived.Lay
import Derived.SevenTiedAt
import Derived.Stop.Joined
import Derived.Stop.LaidErr
namespace Go.Proofs.YtemhpncmhdcheabDoor.fnExactParseTrace
open Go.ChangeShapes Go.WideShapes Go.ChangeAt Go.RowKit
set_option linter.unusedVariables false
set_option linter.unusedSimpArgs false

theorem sh0 : Go.Ev.PShOK Tryd.prog 9 (.c (.sc .str)) := ⟨Tryd.underlying9, by kernel_rfl⟩
theorem star : "*" ++ "errors.errorString" = "*errors.errorString" := by decide
theorem row (u : TypeId) (h : Tryd.prog.typeName? 3 u = some "*errors.errorString") : u = 113 :=
  typeName_ptr_named (nm := "errors.errorString") (by rw [star]; kernel_rfl) (by kernel_rfl) (by decide) u (by rw [star]; exact h)
theorem gl {W : World} (h : laidMetH Tryd.prog Rows.fnExactParseTraceRow.laid W) : Go.Ev.GLm (fun _ => False) W := by
  rw [MakeChecks.laidMetH_plain _ _ _ (by kernel_rfl)] at h
  obtain ⟨a0, s0, hv0, _, _, _⟩ := laid_sentinel (laidMet.tail (laidMet.tail (laidMet.tail (laidMet.tail (laidMet.tail h))))) (g := 3) (by kernel_rfl) (by kernel_rfl) Tryd.underlying63 row Tryd.underlying113 Tryd.underlying115 rfl rfl Tryd.underlying9 (by kernel_rfl) (by kernel_rfl)
  have c0 : W.cell? ⟨3, 0, none⟩ = some (.iface 113 (.pointer (some a0))) := by have := World.var?_cell (g := 3) (by kernel_rfl) hv0 0; simpa using this
  obtain ⟨a1, s1, hv1, _, _, _⟩ := laid_sentinel (laidMet.tail (laidMet.tail (laidMet.tail (laidMet.tail h)))) (g := 4) (by kernel_rfl) (by kernel_rfl) Tryd.underlying63 row Tryd.underlying113 Tryd.underlying115 rfl rfl Tryd.underlying9 (by kernel_rfl) (by kernel_rfl)
  have c1 : W.cell? ⟨4, 0, none⟩ = some (.iface 113 (.pointer (some a1))) := by have := World.var?_cell (g := 4) (by kernel_rfl) hv1 0; simpa using this
  intro p hp
  simp only [Go.Ev.globs, List.mem_cons, List.not_mem_nil, or_false] at hp
  rcases hp with rfl | rfl
  · exact ⟨fun h => h, Go.Ev.cell_lt c0, W, rfl, _, c0, .inr ⟨_, _, rfl⟩⟩
  · exact ⟨fun h => h, Go.Ev.cell_lt c1, W, rfl, _, c1, .inr ⟨_, _, rfl⟩⟩
theorem walk (w : World) (v0 : Value) (x0 : Go.Ev.A1) (h0 : Go.Ev.R1 (Go.Ev.skel []) Go.Ev.muT w x0 v0) (i0 : Go.Ev.PIs (.c (.sc .str)) x0) (hG : Go.Ev.GLm (fun _ => False) w) :
    Calls Tryd.prog 7 #[v0] w (Law w) := by
  obtain ⟨_, rfl, n0_0, rfl, rn0_0⟩ := i0
  have hl := Go.Ev.law_FnExactParseTrace n0_0 rn0_0
  rw [← Go.Ev.okB] at hl
  exact law_any Go.Ev.h_laws_FnExactParseTrace rfl (vals := [v0]) (vs := [_]) rfl ⟨h0, trivial⟩ hG hl

set_option maxRecDepth 100000 in
theorem lifted (os : Os) (started : os.Started) (H : Type) (enc : TypeId × Value → H) :
    ReturnsInHanded {} Tryd.checked os 7 .any (fun w args => (Rows.fnExactParseTraceSpec.pre enc Tryd.prog Tryd.f7 Rows.fnExactParseTraceRow.domain false w args ∧ laidMetH Tryd.prog Rows.fnExactParseTraceRow.laid w) ∧ sizedMet enc Tryd.prog Tryd.f7 (OpenSpec.ofChange Rows.fnExactParseTraceSpec) false w args) (Rows.fnExactParseTraceSpec.post enc Tryd.prog Tryd.f7 false true false false) := by
  refine returnsInHanded_of_change_and (C := Tryd.checked) (X := fun w _ => laidMetH Tryd.prog Rows.fnExactParseTraceRow.laid w) (fun _ _ _ hh h => h.of_heap hh) own started (by kernel_rfl) Tryd.func7
    (ChangeSpec.witness_shaped (enc := enc) (C := Tryd.checked) (os := os) (X := fun w _ => laidMetH Tryd.prog Rows.fnExactParseTraceRow.laid w) false (World.laidAll Tryd.prog os Rows.fnExactParseTraceRow.laid) #[.string .empty] 8 (World.laidAll_os _ _ _)
      (World.shaped_of_ZipB (by kernel_rfl) (by kernel_rfl)) (by kernel_rfl) (by kernel_rfl) (by kernel_rfl)
      (by rw [MakeChecks.laidMetH_plain _ _ _ (by kernel_rfl)]; exact laidMet_laidAll _ (by kernel_rfl) (by kernel_rfl))) ?_
  intro W base args ds gs before hval0 hW hcnd _ hL _
  have hval : ∀ (j : Nat) t v, Tryd.f7.params[j]? = some t → args[j]? = some v → Value.okWide Tryd.prog W .any base t v := hval0
  have hW' := hW
  obtain ⟨p, q, hA0, hV, rfl, hfz, hnd⟩ := hW
  have hA : DataW.TrodAll enc Tryd.prog W 0 (fun _ => true) true Tryd.f7.params.toList args.toList ds p := hA0
  rw [Tryd.params7] at hA hval
  obtain ⟨v0, vs0, d0, ds0, p0, q0, hargs, rfl, rfl, g0, r0⟩ := trodAll_cons hA
  obtain ⟨rfl, rfl, rfl⟩ := trodAll_nil r0
  obtain rfl : args = #[v0] := by cases args; simp_all
  obtain ⟨rfl, rfl⟩ := trodVars_none hV
  have lt0 : ∀ x ∈ p0, x.block < W.heap.size := by obtain ⟨m, hm⟩ := g0; exact DataW.trod_lt m _ _ _ hm
  obtain ⟨x0, h0, i0⟩ := Go.Ev.open_p sh0 (hval 0 9 v0 rfl rfl) g0
  clear hA0 hval0
  refine (walk W v0 x0 h0 i0 (gl hL)).mono fun e W' ⟨he, bel⟩ => ?_
  subst he
  exact ⟨_, rfl, _, _, _, [], _, [], hW', trodAll_mk1 (shut_bool Tryd.underlying4 _), (trodAll_cons_mk (Below.trod laidOut (by kernel_rfl) (of_decide_eq_true (by kernel_rfl)) g0 bel lt0) trodAll_mk0), rfl, bel.frame _, fun h => by cases h⟩

theorem over : Rows.fnExactParseTraceRow.holds Tryd.pinned (OpenSpec.ofChange Rows.fnExactParseTraceSpec) :=
  OpenClaim.holds_of_wide 7 Tryd.f7 rfl rfl rfl rfl rfl rfl rfl ⟨rfl, rfl, rfl, rfl, rfl⟩ rfl rfl rfl rfl rfl (by kernel_rfl) Tryd.func7 (by kernel_rfl)
    (of_decide_eq_true (by kernel_rfl)) (by unfold Func.isWrapper; first | (rw [if_pos (by decide +kernel)]; kernel_rfl) | (rw [if_neg (by decide +kernel)]; exact ⟨rfl, rfl⟩))
    (fun os started H enc _ => lifted os started H enc)

theorem proved : Rows.FnExactParseTraceCardSaid :=
  Claim7.holds_tied_plain_at .later [] [.data, .data, .data, .data, .sentinel, .sentinel, .pinned] true (true, "cb37557490a45fbf38269aa2e46458cfbc7b8c87a1bc8491749c933b022ab33d") true over (fun _ h => by cases h) (by kernel_rfl) (fun _ h => by cases h) fnExactParseTrace_row_tie rfl ⟨rfl, rfl⟩ (by kernel_rfl) rfl
    (fun f fn hf hfn => by
      obtain rfl : f = 7 := Option.some.inj ((show Tryd.prog.funcNamed Rows.fnExactParseTraceRow.func = some 7 by kernel_rfl).symm.trans hf) |>.symm
      obtain rfl : fn = Tryd.f7 := (Option.some.inj (Tryd.func7.symm.trans hfn)).symm
      exact ⟨by kernel_rfl, fun j t ht => by
        rw [Tryd.params7] at ht
        have hm : t ∈ ([9] : List TypeId) := by simpa using Array.mem_of_getElem? ht
        have hall : (([9] : List TypeId).all fun u => !Tryd.prog.wantsStandIn u) = true := by kernel_rfl
        exact (show Tryd.prog.wantsStandIn t = false by simpa using List.all_eq_true.1 hall t hm)⟩)
    (by kernel_rfl)
end Go.Proofs.YtemhpncmhdcheabDoor.fnExactParseTrace
