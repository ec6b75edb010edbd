/- What slices.Backward returns gives the places and numbers of a slice, the last one first. No statement is proved here. -/
import Derived.Test.YtaajnkggomlppacEvZ
import Derived.Test.YtaajnkggomlppacChecked
import Derived.Shelf.Abstract
import Derived.WalkKit
import Derived.OwnWalkIn
import Derived.TacticsInMore
import Derived.LoopNIn
import Derived.LoopIn
import Derived.RangeFuncBound
namespace Go.Proofs
open Go.RowKit Go.Shelf Go.Ev

set_option maxRecDepth 100000 in
set_option maxHeartbeats 2000000 in
theorem Try.bw_in (n l g o : Nat) (zs : List Int) (J Jx : List { i : Nat // i < zs.length } → World → Prop)
    (hY : ∀ pre x W, J pre W → pre.length < zs.length → YieldAt Fence.wide (n - 1) Try.prog l #[.int .i64 (x.1 : Int), .int .i64 (zs.getD x.1 0)] W fun e W' =>
      (e = .returned (.bool true) ∧ J (pre ++ [x]) W' ∧ (bwR g o zs W → bwR g o zs W')) ∨ (e = .returned (.bool false) ∧ Jx (pre ++ [x]) W'))
    (W : World) (hR : bwR g o zs W) (h0 : J [] W) :
    CallsIn Fence.wide n Try.prog 58 #[.func (.yield l) #[] #[], .pointer (some ⟨g, o, none⟩)] W fun e W' => (∃ v, e = .returned v) ∧
      ((∃ xs : List { i : Nat // i < zs.length }, xs.map Subtype.val = downN zs.length ∧ J xs W') ∨ (∃ pre, True ∧ Jx pre W')) := by
  have hro : Fence.wide.round = none := rfl
  have hfn : Fence.wide.fn 58 := trivial
  refine callsIn_of_wp Try.func58 rfl hfn ?_ hro
  simp only [Try.ntmps58, List.size_toArray, List.length_cons, List.length_nil, Nat.reduceAdd, Nat.reduceSub, Array.replicate_succ, Array.replicate_zero, List.push_toArray, List.append_toArray, List.nil_append, List.cons_append]
  obtain ⟨A, m, c, hc, hro2⟩ := id hR
  obtain ⟨rfl, hm1, hm2, hm3⟩ := id hro2
  have hmx : zs.length ≤ maxLen := by omega
  simp only [maxLen] at hmx
  gi_wp2
  gi_loopw [3] (fun i wr => ∃ (k : Nat) (pre : List { i : Nat // i < zs.length }), k ≤ zs.length ∧ i = .int .i64 ((k : Int) - 1) ∧ pre.map Subtype.val ++ downN k = downN zs.length ∧ J pre wr ∧ bwR g o zs wr)
    (fun i _ => (intOf i + 1).toNat)
  case atStart => exact ⟨zs.length, [], Nat.le_refl _, rfl, by simp, h0, hR⟩
  case round =>
    obtain ⟨k, pre, hk, rfl, hpre, hJs, hRs⟩ := hrel
    have hlen : ∀ k, (downN k).length = k := fun k => by induction k with
      | zero => rfl
      | succ k ih => rw [downN, List.length_cons, ih]
    have hpl := congrArg List.length hpre
    rw [List.length_append, List.length_map, hlen, hlen] at hpl
    cases k with
    | zero =>
      gi_wp2
      go_end0
      exact ⟨⟨_, rfl⟩, .inl ⟨pre, by simpa [downN] using hpre, hJs⟩⟩
    | succ k =>
      obtain ⟨A2, m2, c2, hc2, hro3⟩ := id hRs
      obtain ⟨rfl, hn1, hn2, hn3⟩ := id hro3
      rcases hn3 with ⟨_, hz⟩ | ⟨a2, rfl, hcell⟩
      · omega
      obtain ⟨b, o2, rfl, hcell2⟩ := hcell (by omega)
      have hx : zs[k]? = some (zs.getD k 0) := by rw [List.getD_eq_getElem?_getD, List.getElem?_eq_getElem (by omega)]; rfl
      have hcx := hcell2 k (zs.getD k 0) hx 0 (.int .i64 (zs.getD k 0)) rfl
      simp only [Ty.sz, Nat.mul_one, Nat.add_zero] at hcx
      obtain ⟨fn, tmps, assign, body, hy, hRnd⟩ := hY pre ⟨k, by omega⟩ wr hJs (by omega)
      dsimp only at hy
      rw [show ((k + 1 : Nat) : Int) - 1 = (k : Int) by omega]
      have hk2 : k < zs.length := by omega
      clear hx
      generalize zs.getD k 0 = xv at hy hcx
      gi_wp2
      refine ⟨fun hd => (by cases hd), hRnd.mono ?_⟩
      rintro e W3 (⟨rfl, hJ3, hk3⟩ | ⟨rfl, hJx3⟩)
      · gi_wp2
        go_roundw
        case rel => exact ⟨k, pre ++ [⟨k, hk2⟩], by omega, rfl, by rw [List.map_append, List.append_assoc]; exact hpre, hJ3, hk3 hRs⟩
        case measure => simp [intOf]
      · gi_wp2
        refine bodyPost_ret (results_none rfl _ _ _) rfl ?_
        exact ⟨⟨_, rfl⟩, .inr ⟨_, trivial, hJx3⟩⟩

theorem Try.bw_ok : BwOK Try.prog 58 := by
  refine ⟨fun args w => enters_of Try.func58 (by kernel_rfl) rfl args w, fun g o l n w hR => ?_⟩
  intro lb J Jx W hW _ _ hY h0
  refine Try.bw_in n lb g o l J Jx hY W ?_ h0
  obtain ⟨A, m, c, hc, hr⟩ := hR
  refine ⟨A, m, c, (hW.cell (p := ⟨g, o, none⟩) (cell_lt hc)).trans hc, hr.mono fun hm a ha => ?_⟩
  obtain ⟨a', e, hlt⟩ := hr.blk hm
  rw [e] at ha; injection ha with ha; subst ha
  exact hW.block _ hlt
end Go.Proofs
