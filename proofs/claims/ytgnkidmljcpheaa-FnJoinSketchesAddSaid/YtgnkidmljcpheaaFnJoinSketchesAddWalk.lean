/- The walk of a law: Law FnJoinSketchesAdd (P9): JoinSketches with a key added to one of both is AddKey of JoinSketches. -/
import Derived.Test.YtgnkidmljcpheaaSkP
import Derived.Test.YtgnkidmljcpheaaFrame
namespace Go.Proofs.Ytgnkidmljcpheaa.fnJoinSketchesAdd
open Go.RowKit

set_option maxRecDepth 100000 in
set_option maxHeartbeats 1000000 in
theorem walk (a : Option Addr) (n c : Nat) (z : List Int) (w : World) (h : Came .u8 w a n c z) :
    Calls Try.prog 11 #[.slice a n c] w (Law w) := by
  have hb := h.sb
  have hm : c ≤ 9223372036854775807 := by have := hb.2.2.1; simpa [maxLen] using this
  have hc := hb.2.1
  by_cases hn : n ≤ 1048576
  · go_enter Try.func11, Try.ntmps11
    go_wp2_with fail
    refine (drawJoinSketches_c _ _ _ _ w hb).mono ?_
    rintro e w1 ⟨A1, n1, c1, l, A1b, n1b, c1b, r, rfl, hO1, hn1, hbd, hO1b, hn1b, hbdb, hb1⟩
    have z1 := hb1.size
    have hc1 := hO1.le
    have hmx1 := hO1.si.max
    have hS1 := hO1.si
    have hc1b := hO1b.le
    have hmx1b := hO1b.si.max
    have hS1b := hO1b.si
    go_wp2_with fail
    refine (implJoin_c _ _ _ _ _ _ l r w1 hS1 hS1b).mono ?_
    rintro e w2 ⟨A2, n2, c2, rfl, hO2, hb2⟩
    have z2 := hb2.size
    go_wp2_with fail
    refine (specJoin_c _ _ _ _ _ _ l r w2 ((hS1.below hb2).more z2) ((hS1b.below hb2).more z2)).mono ?_
    rintro e w3 ⟨A3, n3, c3, rfl, hO3, hb3⟩
    have z3 := hb3.size
    have hO2' := hO2.below hb3
    have hbw3 : Below w.heap.size w w3 := (hb1.trans (hb2.mono z1)).trans (hb3.mono (by omega))
    go_wp2_with fail
    refine (equalInts_c _ _ _ _ _ _ _ _ _ _ _ hO2'.si hO3.si).mono ?_
    rintro e w4 ⟨rfl, q, rfl⟩
    have hE := eqL_self (joinL l r)
    by_cases hv : vsk l = true ∧ vsk r = true
    · obtain ⟨hv, hv'⟩ := hv
      have hadd := joinL_yes hv hv'
      have hv2 := joinF_vsk hv hv'
      have hv9 := addN_vsk (key := 9) hv 3
      rw [hadd] at hO2 hO2'
      obtain rfl : n2 = 24 := by rw [hO2.len, vsk_len hv2]
      have HA := Lib.hid hadd
      clear hadd
      have hS4 := (((hS1.below hb2).more z2).below hb3).drewN q
      have hS4b := (((hS1b.below hb2).more z2).below hb3).drewN q
      have hT4 := hO2'.drewN q
      go_wp2_with fail
      refine (implAddKey_c _ _ _ l 9 (w3.drewN q) (hS4.more z3)).mono ?_
      rintro e w5 ⟨A5, n5, c5, rfl, hO5, hb5⟩
      have z5 : w3.heap.size ≤ w5.heap.size := hb5.size
      go_wp2_with fail
      refine (implJoin_c _ _ _ _ _ _ _ r w5 hO5.si ((hS4b.more z3).below hb5 |>.more z5)).mono ?_
      rintro e w6 ⟨A6, n6, c6, rfl, hO6, hb6⟩
      have z6 := hb6.size
      go_wp2_with fail
      refine (implAddKey_c _ _ _ (joinF l r) 9 w6 ((hT4.below hb5).below hb6).si).mono ?_
      rintro e w7 ⟨A7, n7, c7, rfl, hO7, hb7⟩
      go_wp2_with fail
      refine (equalInts_c _ _ _ _ _ _ _ _ _ _ _ (hO6.below hb7).si hO7.si).mono ?_
      rintro e w8 ⟨rfl, q8, rfl⟩
      go_wp2
      go_ret
      refine ⟨ret_bool ?_, below_dN ((((below_dN hbw3 q).trans (hb5.mono (by show _ ≤ w3.heap.size; omega))).trans (hb6.mono (by omega))).trans (hb7.mono (by omega))) q8⟩
      rw [addL_yes hv (by omega), joinL_yes hv9 hv', addL_yes hv2 (by omega), joinF_add hv hv']
      exact eqL_self _
    · have hadd := joinL_no hv
      rw [hadd] at hO2 hO2' hO3
      obtain rfl : n2 = 0 := by rw [hO2.len]; rfl
      go_wp2_with fail
      refine (specJoin_c _ _ _ _ _ _ l r (w3.drewN q) ((((hS1.below hb2).more z2).below hb3).drewN q |>.more z3) ((((hS1b.below hb2).more z2).below hb3).drewN q |>.more z3)).mono ?_
      rintro e w5 ⟨A5, n5, c5, rfl, hO5, hb5⟩
      go_wp2_with fail
      rw [hadd] at hO5
      refine (equalInts_c _ _ _ _ _ _ _ _ _ _ _ (OI.below (w := w3.drewN q) hO2' hb5).si hO5.si).mono ?_
      rintro e w6 ⟨rfl, q6, rfl⟩
      go_wp2
      go_ret
      exact ⟨ret_bool (by simp), below_dN ((below_dN hbw3 q).trans (hb5.mono (by show _ ≤ w3.heap.size; omega))) q6⟩
  · go_enter Try.func11, Try.ntmps11
    go_wp2
    go_ret
    exact ⟨rfl, Below.refl _ _⟩


end Go.Proofs.Ytgnkidmljcpheaa.fnJoinSketchesAdd
