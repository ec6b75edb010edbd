/- What the functions that the law reaches do, written as plain Lean. No statement is proved here. -/
import Derived.Test.YtacohagnclnkdadFnExactWheelOfP0
namespace Go.Ev
set_option linter.unusedVariables false
set_option linter.unusedSimpArgs false
open Go
theorem law_FnExactWheelOf (list : List (Int × Int)) (llist : list.length ≤ maxLen) (rlist : ∀ x ∈ list, InR x.1 ∧ InR x.2) :
    F_laws_FnExactWheelOf list (fun r => r = true) := by
  refine ⟨⟨llist, by omega, by omega⟩, fun z0 _ _ s0 => br_dec.2 ⟨fun _ => rfl, fun t0 => ?_⟩⟩
  have u0 := s0 (by omega)
  have mlist : list.length ≤ 1000000000 := by omega
  by_cases v : VTm list
  · have h12 := v.1
    have n0 := slotM_len list 0
    have n1 := slotM_len list 1
    have n2 := slotM_len list 2
    have n3 := slotM_len list 3
    have n4 := slotM_len list 4
    have n5 := slotM_len list 5
    have n6 := slotM_len list 6
    have n7 := slotM_len list 7
    have tail : ∀ i : Int, (list.length : Int) ≤ i → ∀ B, U0_laws_FnExactWheelOf list list (wheelM list) (list.length : Int) i (slotM list 0) (slotM list 1) (slotM list 2) (slotM list 3) (slotM list 4) (slotM list 5) (slotM list 6) (slotM list 7) (fun r => r = true) B := by
      intro i hi B
      rw [U0_laws_FnExactWheelOf]
      refine br_nd (by omega) (br_same' (b := 8) ?_)
      refine ⟨⟨by decide, by decide⟩, ⟨by decide, (show (0 : Int) < 8 by decide)⟩, by omega, br_de ⟨inR (by decide) (by decide), ?_⟩⟩
      refine ⟨⟨by decide, by decide⟩, ⟨by decide, (show (1 : Int) < 8 by decide)⟩, by omega, br_de ⟨inR (by decide) (by decide), ?_⟩⟩
      refine ⟨⟨by decide, by decide⟩, ⟨by decide, (show (2 : Int) < 8 by decide)⟩, by omega, br_de ⟨inR (by decide) (by decide), ?_⟩⟩
      refine ⟨⟨by decide, by decide⟩, ⟨by decide, (show (3 : Int) < 8 by decide)⟩, by omega, br_de ⟨inR (by decide) (by decide), ?_⟩⟩
      refine ⟨⟨by decide, by decide⟩, ⟨by decide, (show (4 : Int) < 8 by decide)⟩, by omega, br_de ⟨inR (by decide) (by decide), ?_⟩⟩
      refine ⟨⟨by decide, by decide⟩, ⟨by decide, (show (5 : Int) < 8 by decide)⟩, by omega, br_de ⟨inR (by decide) (by decide), ?_⟩⟩
      refine ⟨⟨by decide, by decide⟩, ⟨by decide, (show (6 : Int) < 8 by decide)⟩, by omega, br_de ⟨inR (by decide) (by decide), ?_⟩⟩
      refine ⟨⟨by decide, by decide⟩, ⟨by decide, (show (7 : Int) < 8 by decide)⟩, by omega, br_de ⟨inR (by decide) (by decide), ?_⟩⟩
      refine ⟨mlist, mlist, br_de ⟨⟨mlist, by omega, by omega⟩, br_lt0 (by omega) (br_same' (b := 8) ?_)⟩⟩
      refine ⟨⟨by decide, by decide⟩, ⟨by decide, (show (0 : Int) < 8 by decide)⟩, by omega, br_de ⟨inR (by decide) (by decide), ?_⟩⟩
      refine ⟨⟨by decide, by decide⟩, ⟨by decide, (show (1 : Int) < 8 by decide)⟩, by omega, br_de ⟨inR (by decide) (by decide), ?_⟩⟩
      refine ⟨⟨by decide, by decide⟩, ⟨by decide, (show (2 : Int) < 8 by decide)⟩, by omega, br_de ⟨inR (by decide) (by decide), ?_⟩⟩
      refine ⟨⟨by decide, by decide⟩, ⟨by decide, (show (3 : Int) < 8 by decide)⟩, by omega, br_de ⟨inR (by decide) (by decide), ?_⟩⟩
      refine ⟨⟨by decide, by decide⟩, ⟨by decide, (show (4 : Int) < 8 by decide)⟩, by omega, br_de ⟨inR (by decide) (by decide), ?_⟩⟩
      refine ⟨⟨by decide, by decide⟩, ⟨by decide, (show (5 : Int) < 8 by decide)⟩, by omega, br_de ⟨inR (by decide) (by decide), ?_⟩⟩
      refine ⟨⟨by decide, by decide⟩, ⟨by decide, (show (6 : Int) < 8 by decide)⟩, by omega, br_de ⟨inR (by decide) (by decide), ?_⟩⟩
      refine ⟨⟨by decide, by decide⟩, ⟨by decide, (show (7 : Int) < 8 by decide)⟩, by omega, br_de ⟨inR (by decide) (by decide), ?_⟩⟩
      refine ⟨⟨by decide, by decide⟩, ⟨by omega, by omega, by omega⟩, inR (by decide) (by decide), ?_⟩
      refine ⟨⟨by decide, by decide⟩, ⟨by omega, by omega, by omega⟩, inR (by decide) (by decide), ?_⟩
      refine ⟨⟨by decide, by decide⟩, ⟨by omega, by omega, by omega⟩, inR (by decide) (by decide), ?_⟩
      refine ⟨⟨by decide, by decide⟩, ⟨by omega, by omega, by omega⟩, inR (by decide) (by decide), ?_⟩
      refine ⟨⟨by decide, by decide⟩, ⟨by omega, by omega, by omega⟩, inR (by decide) (by decide), ?_⟩
      refine ⟨⟨by decide, by decide⟩, ⟨by omega, by omega, by omega⟩, inR (by decide) (by decide), ?_⟩
      refine ⟨⟨by decide, by decide⟩, ⟨by omega, by omega, by omega⟩, inR (by decide) (by decide), ?_⟩
      refine ⟨⟨by decide, by decide⟩, ⟨by omega, by omega, by omega⟩, inR (by decide) (by decide), ?_⟩
      refine ⟨⟨by decide, by decide⟩, _, ⟨by omega, by omega, by omega⟩, rfl, br_lt0 (by omega) ⟨inR (by decide) (by decide), ?_⟩⟩
      refine ⟨⟨by decide, by decide⟩, _, ⟨by omega, by omega, by omega⟩, rfl, br_lt0 (by omega) ⟨inR (by decide) (by decide), ?_⟩⟩
      refine ⟨⟨by decide, by decide⟩, _, ⟨by omega, by omega, by omega⟩, rfl, br_lt0 (by omega) ⟨inR (by decide) (by decide), ?_⟩⟩
      refine ⟨⟨by decide, by decide⟩, _, ⟨by omega, by omega, by omega⟩, rfl, br_lt0 (by omega) ⟨inR (by decide) (by decide), ?_⟩⟩
      refine ⟨⟨by decide, by decide⟩, _, ⟨by omega, by omega, by omega⟩, rfl, br_lt0 (by omega) ⟨inR (by decide) (by decide), ?_⟩⟩
      refine ⟨⟨by decide, by decide⟩, _, ⟨by omega, by omega, by omega⟩, rfl, br_lt0 (by omega) ⟨inR (by decide) (by decide), ?_⟩⟩
      refine ⟨⟨by decide, by decide⟩, _, ⟨by omega, by omega, by omega⟩, rfl, br_lt0 (by omega) ⟨inR (by decide) (by decide), ?_⟩⟩
      refine ⟨⟨by decide, by decide⟩, _, ⟨by omega, by omega, by omega⟩, rfl, br_lt0 (by omega) ⟨inR (by decide) (by decide), ?_⟩⟩
      refine br_lt0 (by omega) (br_same' ⟨mlist, by omega, fun _ => ⟨fun x hx => by obtain ⟨s, rfl⟩ := wheel_mem hx; have := slotM_len list s; omega, (show (8 : Nat) ≤ 1000000000 by decide), br_de ?_⟩, fun h => absurd v h⟩)
      refine ⟨⟨by decide, by decide⟩, _, ⟨by omega, by omega, by omega⟩, rfl, br_lt0 (by omega) ⟨inR (by decide) (by decide), ?_⟩⟩
      refine ⟨⟨by decide, by decide⟩, _, ⟨by omega, by omega, by omega⟩, rfl, br_lt0 (by omega) ⟨inR (by decide) (by decide), ?_⟩⟩
      refine ⟨⟨by decide, by decide⟩, _, ⟨by omega, by omega, by omega⟩, rfl, br_lt0 (by omega) ⟨inR (by decide) (by decide), ?_⟩⟩
      refine ⟨⟨by decide, by decide⟩, _, ⟨by omega, by omega, by omega⟩, rfl, br_lt0 (by omega) ⟨inR (by decide) (by decide), ?_⟩⟩
      refine ⟨⟨by decide, by decide⟩, _, ⟨by omega, by omega, by omega⟩, rfl, br_lt0 (by omega) ⟨inR (by decide) (by decide), ?_⟩⟩
      refine ⟨⟨by decide, by decide⟩, _, ⟨by omega, by omega, by omega⟩, rfl, br_lt0 (by omega) ⟨inR (by decide) (by decide), ?_⟩⟩
      refine ⟨⟨by decide, by decide⟩, _, ⟨by omega, by omega, by omega⟩, rfl, br_lt0 (by omega) ⟨inR (by decide) (by decide), ?_⟩⟩
      refine ⟨⟨by decide, by decide⟩, _, ⟨by omega, by omega, by omega⟩, rfl, br_lt0 (by omega) ⟨inR (by decide) (by decide), ?_⟩⟩
      exact br_lt0 (by omega) (br_same' rfl)
    refine ⟨mlist, ⟨by omega, fun _ => ⟨mlist, by omega, fun b hb => br_not.2 (br_iff.2 ⟨fun e => ⟨⟨rfl, by decide, by decide⟩, ?_⟩, fun e => by rw [hb.2 v] at e; cases e⟩)⟩, fun h => absurd v h⟩⟩
    have go : ∀ (m i : Nat), i + m = list.length → L0_laws_FnExactWheelOf list list (wheelM list) (list.length : Int) (fun r => r = true) (m + 1) (i : Int) (slotM (list.take i) 0) (slotM (list.take i) 1) (slotM (list.take i) 2) (slotM (list.take i) 3) (slotM (list.take i) 4) (slotM (list.take i) 5) (slotM (list.take i) 6) (slotM (list.take i) 7) := by
      intro m
      induction m with
      | zero =>
        intro i hi
        rw [show list.take i = list from List.take_of_length_le (by omega), L0_laws_FnExactWheelOf]
        exact tail _ (by omega) _
      | succ m ih =>
        intro i hi
        have next := ih (i + 1) (by omega)
        have hm := v.2.1 _ (getT_mem (l := list) (i := i) (by omega))
        rw [takeT (by omega)] at next
        simp only [slotM_snoc] at next
        have n0 := slotM_len (list.take i) 0
        rw [List.length_take] at n0
        have n1 := slotM_len (list.take i) 1
        rw [List.length_take] at n1
        have n2 := slotM_len (list.take i) 2
        rw [List.length_take] at n2
        have n3 := slotM_len (list.take i) 3
        rw [List.length_take] at n3
        have n4 := slotM_len (list.take i) 4
        rw [List.length_take] at n4
        have n5 := slotM_len (list.take i) 5
        rw [List.length_take] at n5
        have n6 := slotM_len (list.take i) 6
        rw [List.length_take] at n6
        have n7 := slotM_len (list.take i) 7
        rw [List.length_take] at n7
        have hx : 0 ≤ slotOf (list.getD i ((0 : Int), (0 : Int))).2 ∧ slotOf (list.getD i ((0 : Int), (0 : Int))).2 < 8 := by
          rw [slotOf_div hm.2.1]; omega
        have he : ((list.getD i ((0 : Int), (0 : Int))).2.tdiv 10).tmod 8 = slotOf (list.getD i ((0 : Int), (0 : Int))).2 := rfl
        rw [L0_laws_FnExactWheelOf, U0_laws_FnExactWheelOf]
        simp only [Int.toNat_natCast, he]
        generalize slotOf (list.getD i ((0 : Int), (0 : Int))).2 = x at hx next
        refine br_yd (by omega) ⟨⟨by omega, by omega⟩, ⟨by decide, div10_R hm.2.1 hm.2.2⟩, by decide, ?_⟩
        refine br_beq.2 ⟨fun g => ?_, fun g0 => ?_⟩
        · subst g
          exact ⟨⟨by decide, by decide⟩, by omega, ⟨by decide, by decide⟩, inR (by omega) (by omega), next⟩
        refine br_beq.2 ⟨fun g => ?_, fun g1 => ?_⟩
        · subst g
          exact ⟨⟨by decide, by decide⟩, by omega, ⟨by decide, by decide⟩, inR (by omega) (by omega), next⟩
        refine br_beq.2 ⟨fun g => ?_, fun g2 => ?_⟩
        · subst g
          exact ⟨⟨by decide, by decide⟩, by omega, ⟨by decide, by decide⟩, inR (by omega) (by omega), next⟩
        refine br_beq.2 ⟨fun g => ?_, fun g3 => ?_⟩
        · subst g
          exact ⟨⟨by decide, by decide⟩, by omega, ⟨by decide, by decide⟩, inR (by omega) (by omega), next⟩
        refine br_beq.2 ⟨fun g => ?_, fun g4 => ?_⟩
        · subst g
          exact ⟨⟨by decide, by decide⟩, by omega, ⟨by decide, by decide⟩, inR (by omega) (by omega), next⟩
        refine br_beq.2 ⟨fun g => ?_, fun g5 => ?_⟩
        · subst g
          exact ⟨⟨by decide, by decide⟩, by omega, ⟨by decide, by decide⟩, inR (by omega) (by omega), next⟩
        refine br_beq.2 ⟨fun g => ?_, fun g6 => ?_⟩
        · subst g
          exact ⟨⟨by decide, by decide⟩, by omega, ⟨by decide, by decide⟩, inR (by omega) (by omega), next⟩
        refine br_beq.2 ⟨fun g => ?_, fun g7 => ?_⟩
        · subst g
          exact ⟨⟨by decide, by decide⟩, by omega, ⟨by decide, by decide⟩, inR (by omega) (by omega), next⟩
        omega
    exact ⟨_, go list.length 0 (by omega)⟩
  · refine ⟨mlist, ⟨by omega, fun h => absurd h v, fun _ => ⟨mlist, by omega, fun b hb => br_not.2 (br_iff.2 ⟨fun e => absurd (hb.1 e) v, fun e => ?_⟩)⟩⟩⟩
    refine br_same' (b := 0) ⟨mlist, mlist, br_de ⟨⟨mlist, by omega, by omega⟩, br_lt0 (by omega) (br_same' (b := 0) ⟨mlist, by omega, fun h => absurd h v, fun _ => ⟨fun x hx => (by cases hx), (show (0 : Nat) ≤ 1000000000 by decide), br_de rfl⟩⟩)⟩⟩
end Go.Ev
