/- The walk of a law: Law FnExactValidKeys: the function answers as the model's does, leaves its arguments as they were, and what it answers is its own. -/
import Derived.Test.YtgnkidmljcpheacEx
import Derived.Test.YtgnkidmljcpheacFrame
namespace Go.Proofs.Ytgnkidmljcpheac.fnExactValidKeys
open Go.RowKit

set_option maxRecDepth 100000 in
set_option maxHeartbeats 2000000 in
theorem walk (a0 : Option Addr) (n0 c0 : Nat) (z0 : List Int) (s0 : Int) (w : World) (h0 : Came .i64 w a0 n0 c0 z0) (_h1 : InR64 s0) :
    Calls Try.prog 13 #[.slice a0 n0 c0, .int .i64 s0] w (Law w) := by
  obtain ⟨hs0, -⟩ := h0.si
  generalize z0.take n0 = l0 at hs0
  have hm0 := hs0.max
  have hc0 := hs0.le
  have hln0 := Lib.hid hs0.len
  clear h0
  by_cases hn0 : n0 ≤ 1048576
  rotate_left
  · go_enter Try.func13, Try.ntmps13
    go_wp2
    go_ret
    exact ⟨rfl, Below.refl _ _⟩
  go_enter Try.func13, Try.ntmps13
  have hE0 := eqL_self l0
  have hbw := Below.refl w.heap.size w
  go_wp2_with fail
  refine (toIntS_c _ _ _ l0 _ ((hs0.below hbw).more hbw.size) (by omega)).mono ?_
  rintro e w1 ⟨AT0, nT0, cT0, rfl, T0_w1, hb_w1⟩
  have lt_w1 := hb_w1.size
  have hw_w1 := hbw.trans (hb_w1.mono hbw.size)
  obtain rfl : n0 = nT0 := by rw [T0_w1.len, ← hln0.out]
  go_wp2_with fail
  refine (specValidKeys_c _ _ _ l0 s0 _ _ T0_w1.si).mono ?_
  rintro e w' ⟨rfl, rfl⟩
  go_wp2_with fail
  refine (toIntS_c _ _ _ l0 _ ((hs0.below hw_w1).more hw_w1.size) (by omega)).mono ?_
  rintro e w2 ⟨AX0, nX0, cX0, rfl, X0_w2, hb_w2⟩
  have lt_w2 := hb_w2.size
  have hw_w2 := hw_w1.trans (hb_w2.mono hw_w1.size)
  obtain rfl : n0 = nX0 := by rw [X0_w2.len, ← hln0.out]
  go_wp2_with fail
  refine (implValidKeys_c _ _ _ l0 s0 _ _ X0_w2.si).mono ?_
  rintro e w' ⟨rfl, rfl⟩
  go_wp2_with fail
  refine (toIntS_c _ _ _ l0 _ ((hs0.below hw_w2).more hw_w2.size) (by omega)).mono ?_
  rintro e w3 ⟨AY0, nY0, cY0, rfl, Y0_w3, hb_w3⟩
  have lt_w3 := hb_w3.size
  have ap_X0_Y0 := OI.apart X0_w2 Y0_w3 (Nat.le_refl _)
  have hw_w3 := hw_w2.trans (hb_w3.mono hw_w2.size)
  have X0_w3 := X0_w2.below hb_w3
  obtain rfl : n0 = nY0 := by rw [Y0_w3.len, ← hln0.out]
  go_wp2_with fail
  refine (eqIntS_c _ _ _ _ _ _ l0 l0 _ _ _ X0_w3.si Y0_w3.si).mono ?_
  rintro e w4 ⟨rfl, hq_w4⟩
  have hb_w4 := hq_w4.below
  clear hq_w4
  have hw_w4 := hw_w3.trans (hb_w4.mono hw_w3.size)
  have X0_w4 := X0_w3.below hb_w4
  have Y0_w4 := Y0_w3.below hb_w4
  go_wp2
  go_ret
  exact ⟨ret_bool (by simp), hw_w4⟩

end Go.Proofs.Ytgnkidmljcpheac.fnExactValidKeys
