/- The walk of a law: Law FnHalveSketch (P7): CountOf each key behind HalveSketch is half, rounded down. -/
import Derived.Test.YtgnkidmljcpheaaSkP
import Derived.Test.YtgnkidmljcpheaaFrame
namespace Go.Proofs.Ytgnkidmljcpheaa.fnHalveSketch
open Go.RowKit

set_option maxRecDepth 100000 in
set_option maxHeartbeats 1000000 in
theorem walk (a : Option Addr) (n c : Nat) (z : List Int) (w : World) (h : Came .u8 w a n c z) :
    Calls Try.prog 9 #[.slice a n c] w (Law w) := by
  have hb := h.sb
  have hm : c ≤ 9223372036854775807 := by have := hb.2.2.1; simpa [maxLen] using this
  have hc := hb.2.1
  by_cases hn : n ≤ 1048576
  · go_enter Try.func9, Try.ntmps9
    go_wp2_with fail
    refine (drawHalveSketch_c _ _ _ _ w hb).mono ?_
    rintro e w1 ⟨A1, n1, c1, l, rfl, hO1, hn1, hbd, hb1⟩
    have z1 := hb1.size
    have hc1 := hO1.le
    have hmx1 := hO1.si.max
    have hS1 := hO1.si
    go_wp2_with fail
    refine (implHalve_c _ _ _ l w1 hS1).mono ?_
    rintro e w2 ⟨A2, n2, c2, rfl, hO2, hb2⟩
    have z2 := hb2.size
    go_wp2_with fail
    refine (specHalve_c _ _ _ l w2 ((hS1.below hb2).more z2)).mono ?_
    rintro e w3 ⟨A3, n3, c3, rfl, hO3, hb3⟩
    have z3 := hb3.size
    have hO2' := hO2.below hb3
    have hbw3 : Below w.heap.size w w3 := (hb1.trans (hb2.mono z1)).trans (hb3.mono (by omega))
    go_wp2_with fail
    refine (equalInts_c _ _ _ _ _ _ _ _ _ _ _ hO2'.si hO3.si).mono ?_
    rintro e w4 ⟨rfl, q, rfl⟩
    have hE := eqL_self (halveL l)
    rcases Bool.eq_false_or_eq_true (vsk l) with hv | hv
    · have hadd := halveL_yes hv
      have hv2 := halveF_vsk hv
      rw [hadd] at hO2 hO2'
      obtain rfl : n2 = 24 := by rw [hO2.len, vsk_len hv2]
      have HA := Lib.hid hadd
      clear hadd
      have hS4 := (((hS1.below hb2).more z2).below hb3).drewN q
      have hT4 := hO2'.si.drewN q
      go_wp2
      go_loop [5] (fun i => ∃ k : Nat, k ≤ 32 ∧ i = .int .i64 k) (fun i => 32 - (intOf i).toNat)
      case atStart => exact ⟨0, by omega, rfl⟩
      case round =>
        obtain ⟨k, hk2, rfl⟩ := hrel
        by_cases hlt : k < 32
        · have hc1 := countL_yes (key := (k : Int)) hv (by omega)
          have hc2 := countL_yes (key := (k : Int)) hv2 (by omega)
          have g1 := cnt_halve hv (k : Int)
          obtain ⟨g4, g5⟩ := cnt_bd (k : Int) hv
          rw [g1] at hc2
          clear g1
          generalize cnt l (k : Int) 3 = x at *
          go_wp2_with (go_at_call 19; refine (by first | exact implCountOf_c _ _ _ _ _ _ _ hS4 | exact implCountOf_c _ _ _ _ _ _ _ hT4 : Calls _ _ _ _ _).mono ?_; rintro e w' ⟨rfl, rfl⟩)
          go_round
          case rel => exact ⟨k + 1, by omega, by go_num⟩
          case measure => simp [intOf]; omega
        · obtain rfl : k = 32 := by omega
          go_wp2_with (go_at_call 16; refine (implValidSketch_c _ _ _ _ _ _ hT4).mono ?_; rintro e w' ⟨rfl, rfl⟩)
          go_ret
          exact ⟨rfl, below_dN hbw3 q⟩
    · have hadd := halveL_no hv
      rw [hadd] at hO2 hO2' hO3
      obtain rfl : n2 = 0 := by rw [hO2.len]; rfl
      go_wp2_with fail
      refine (specHalve_c _ _ _ l (w3.drewN q) ((((hS1.below hb2).more z2).below hb3).drewN q |>.more z3)).mono ?_
      rintro e w5 ⟨A5, n5, c5, rfl, hO5, hb5⟩
      go_wp2_with fail
      rw [hadd] at hO5
      refine (equalInts_c _ _ _ _ _ _ _ _ _ _ _ (OI.below (w := w3.drewN q) hO2' hb5).si hO5.si).mono ?_
      rintro e w6 ⟨rfl, q6, rfl⟩
      go_wp2
      go_ret
      exact ⟨ret_bool (by simp), below_dN ((below_dN hbw3 q).trans (hb5.mono (by show _ ≤ w3.heap.size; omega))) q6⟩
  · go_enter Try.func9, Try.ntmps9
    go_wp2
    go_ret
    exact ⟨rfl, Below.refl _ _⟩


end Go.Proofs.Ytgnkidmljcpheaa.fnHalveSketch
