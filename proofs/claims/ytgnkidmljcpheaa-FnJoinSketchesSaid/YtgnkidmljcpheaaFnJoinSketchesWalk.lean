/- The walk of a law: Law FnJoinSketches (P8): CountOf each key behind JoinSketches is at least the sum of both, up to MaxCounter, and it is the same in both orders. -/
import Derived.Test.YtgnkidmljcpheaaSkP
import Derived.Test.YtgnkidmljcpheaaFrame
namespace Go.Proofs.Ytgnkidmljcpheaa.fnJoinSketches
open Go.RowKit

set_option maxRecDepth 100000 in
set_option maxHeartbeats 1000000 in
theorem walk (a : Option Addr) (n c : Nat) (z : List Int) (w : World) (h : Came .u8 w a n c z) :
    Calls Try.prog 10 #[.slice a n c] w (Law w) := by
  have hb := h.sb
  have hm : c ≤ 9223372036854775807 := by have := hb.2.2.1; simpa [maxLen] using this
  have hc := hb.2.1
  by_cases hn : n ≤ 1048576
  · go_enter Try.func10, Try.ntmps10
    go_wp2_with fail
    refine (drawJoinSketches_c _ _ _ _ w hb).mono ?_
    rintro e w1 ⟨A1, n1, c1, l, A1b, n1b, c1b, r, rfl, hO1, hn1, hbd, hO1b, hn1b, hbdb, hb1⟩
    have z1 := hb1.size
    have hc1 := hO1.le
    have hmx1 := hO1.si.max
    have hS1 := hO1.si
    have hc1b := hO1b.le
    have hmx1b := hO1b.si.max
    have hS1b := hO1b.si
    go_wp2_with fail
    refine (implJoin_c _ _ _ _ _ _ l r w1 hS1 hS1b).mono ?_
    rintro e w2 ⟨A2, n2, c2, rfl, hO2, hb2⟩
    have z2 := hb2.size
    go_wp2_with fail
    refine (specJoin_c _ _ _ _ _ _ l r w2 ((hS1.below hb2).more z2) ((hS1b.below hb2).more z2)).mono ?_
    rintro e w3 ⟨A3, n3, c3, rfl, hO3, hb3⟩
    have z3 := hb3.size
    have hO2' := hO2.below hb3
    have hbw3 : Below w.heap.size w w3 := (hb1.trans (hb2.mono z1)).trans (hb3.mono (by omega))
    go_wp2_with fail
    refine (equalInts_c _ _ _ _ _ _ _ _ _ _ _ hO2'.si hO3.si).mono ?_
    rintro e w4 ⟨rfl, q, rfl⟩
    have hE := eqL_self (joinL l r)
    by_cases hv : vsk l = true ∧ vsk r = true
    · obtain ⟨hv, hv'⟩ := hv
      have hadd := joinL_yes hv hv'
      have hv2 := joinF_vsk hv hv'
      rw [hadd] at hO2 hO2'
      obtain rfl : n2 = 24 := by rw [hO2.len, vsk_len hv2]
      have HA := Lib.hid hadd
      clear hadd
      have hS4 := (((hS1.below hb2).more z2).below hb3).drewN q
      have hS4b := (((hS1b.below hb2).more z2).below hb3).drewN q
      have hT4 := hO2'.drewN q
      have hT4s := hT4.si
      go_wp2
      go_loop [6] (fun i => ∃ k : Nat, k ≤ 32 ∧ i = .int .i64 k) (fun i => 32 - (intOf i).toNat)
      case atStart => exact ⟨0, by omega, rfl⟩
      case round =>
        obtain ⟨k, hk2, rfl⟩ := hrel
        by_cases hlt : k < 32
        · have hc1 := countL_yes (key := (k : Int)) hv (by omega)
          have hc2 := countL_yes (key := (k : Int)) hv' (by omega)
          have hc3 := countL_yes (key := (k : Int)) hv2 (by omega)
          have g1 := cnt_join hv hv' (k : Int)
          obtain ⟨g4, g5⟩ := cnt_bd (k : Int) hv
          obtain ⟨g6, g7⟩ := cnt_bd (k : Int) hv'
          generalize cnt l (k : Int) 3 = x at *
          generalize cnt r (k : Int) 3 = y at *
          generalize cnt (joinF l r) (k : Int) 3 = t at *
          have d1 : decide (t < (if 15 < x + y then 15 else x + y)) = false := by simpa [mn] using g1
          clear g1
          go_wp2_with (go_at_call 19; refine (by first | exact implCountOf_c _ _ _ _ _ _ _ hS4 | exact implCountOf_c _ _ _ _ _ _ _ hS4b | exact implCountOf_c _ _ _ _ _ _ _ hT4s : Calls _ _ _ _ _).mono ?_; rintro e w' ⟨rfl, rfl⟩)
          go_round
          case rel => exact ⟨k + 1, by omega, by go_num⟩
          case measure => simp [intOf]; omega
        · obtain rfl : k = 32 := by omega
          go_wp2_with fail
          refine (implJoin_c _ _ _ _ _ _ r l (w3.drewN q) (hS4b.more z3) (hS4.more z3)).mono ?_
          rintro e w5 ⟨A5, n5, c5, rfl, hO5, hb5⟩
          have z5 : w3.heap.size ≤ w5.heap.size := hb5.size
          have e5 : joinL r l = joinF l r := by rw [joinL_yes hv' hv, joinF_swap]
          rw [e5] at hO5
          clear e5
          go_wp2_with fail
          refine (equalInts_c _ _ _ _ _ _ _ _ _ _ _ hO5.si (hT4.below hb5).si).mono ?_
          rintro e w6 ⟨rfl, q6, rfl⟩
          have hE2 := eqL_self (joinF l r)
          go_wp2_with fail
          refine (implEmpty_c (w5.drewN q6)).mono ?_
          rintro e w7 ⟨A7, n7, c7, rfl, hO7, hb7⟩
          have z7 : w5.heap.size ≤ w7.heap.size := hb7.size
          have hS7 := ((((hS4.more z3).below hb5).more z5).drewN q6).below hb7 |>.more z7
          go_wp2_with fail
          refine (implJoin_c _ _ _ _ _ _ l emptyL w7 hS7 hO7.si).mono ?_
          rintro e w8 ⟨A8, n8, c8, rfl, hO8, hb8⟩
          have z8 := hb8.size
          rw [joinL_yes hv emptyL_vsk, joinF_empty hv] at hO8
          go_wp2_with fail
          refine (equalInts_c _ _ _ _ _ _ _ _ _ _ _ hO8.si (hS7.below hb8)).mono ?_
          rintro e w9 ⟨rfl, q9, rfl⟩
          have hE3 := eqL_self l
          go_wp2
          go_ret
          exact ⟨rfl, below_dN (((below_dN ((below_dN hbw3 q).trans (hb5.mono (by show _ ≤ w3.heap.size; omega))) q6).trans (hb7.mono (by show _ ≤ w5.heap.size; omega))).trans (hb8.mono (by omega))) q9⟩
    · have hadd := joinL_no hv
      rw [hadd] at hO2 hO2' hO3
      obtain rfl : n2 = 0 := by rw [hO2.len]; rfl
      go_wp2_with fail
      refine (specJoin_c _ _ _ _ _ _ l r (w3.drewN q) ((((hS1.below hb2).more z2).below hb3).drewN q |>.more z3) ((((hS1b.below hb2).more z2).below hb3).drewN q |>.more z3)).mono ?_
      rintro e w5 ⟨A5, n5, c5, rfl, hO5, hb5⟩
      go_wp2_with fail
      rw [hadd] at hO5
      refine (equalInts_c _ _ _ _ _ _ _ _ _ _ _ (OI.below (w := w3.drewN q) hO2' hb5).si hO5.si).mono ?_
      rintro e w6 ⟨rfl, q6, rfl⟩
      go_wp2
      go_ret
      exact ⟨ret_bool (by simp), below_dN ((below_dN hbw3 q).trans (hb5.mono (by show _ ≤ w3.heap.size; omega))) q6⟩
  · go_enter Try.func10, Try.ntmps10
    go_wp2
    go_ret
    exact ⟨rfl, Below.refl _ _⟩


end Go.Proofs.Ytgnkidmljcpheaa.fnJoinSketches
