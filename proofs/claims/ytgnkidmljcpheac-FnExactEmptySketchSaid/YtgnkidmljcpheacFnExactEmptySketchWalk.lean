/- The walk of a law: Law FnExactEmptySketch: the function answers as the model's does, leaves its arguments as they were, and what it answers is its own. -/
import Derived.Test.YtgnkidmljcpheacEx
import Derived.Test.YtgnkidmljcpheacFrame
namespace Go.Proofs.Ytgnkidmljcpheac.fnExactEmptySketch
open Go.RowKit

set_option maxRecDepth 100000 in
set_option maxHeartbeats 2000000 in
theorem walk  (w : World)  :
    Calls Try.prog 6 #[] w (Law w) := by
  go_enter Try.func6, Try.ntmps6
  have hER := eqL_self (emptyL)
  have hRle := Lib.hid ((show emptyL.length ≤ 24 by decide))
  have hbw := Below.refl w.heap.size w
  go_wp2_with fail
  refine (specEmpty_c    _ ).mono ?_
  rintro e w1 ⟨AW, nW, cW, rfl, W_w1, hb_w1⟩
  have lt_w1 := hb_w1.size
  have hw_w1 := hbw.trans (hb_w1.mono hbw.size)
  go_wp2_with fail
  refine (implEmpty_c    _ ).mono ?_
  rintro e w2 ⟨AG, nG, cG, rfl, G_w2, hb_w2⟩
  have lt_w2 := hb_w2.size
  have ap_W_G := OI.apart W_w1 G_w2 (Nat.le_refl _)
  have hw_w2 := hw_w1.trans (hb_w2.mono hw_w1.size)
  have W_w2 := W_w1.below hb_w2
  have hGle : nG ≤ 24 := by rw [G_w2.len]; exact hRle.out
  go_wp2_with fail
  refine (eqIntS_c _ _ _ _ _ _ (emptyL) (emptyL) _ _ _ G_w2.si W_w2.si).mono ?_
  rintro e w3 ⟨rfl, hq_w3⟩
  have hb_w3 := hq_w3.below
  clear hq_w3
  have hw_w3 := hw_w2.trans (hb_w3.mono hw_w2.size)
  have W_w3 := W_w2.below hb_w3
  have G_w3 := G_w2.below hb_w3
  go_wp2_with fail
  refine (markIntS_c _ _ _ (emptyL) 1 _ _ G_w3 (by omega) (by omega) (by omega)).mono ?_
  rintro e w4 ⟨rfl, G_w4, hg_w4⟩
  have hw_w4 := hw_w3.grown hg_w4 hw_w3.size fun q hq => Nat.le_trans hw_w1.size (G_w3.lt q hq).1
  have W_w4 := W_w3.far hg_w4 ap_W_G.1
  have hgn : decide (1 + (nG : Int) < 0) = false := by simp; omega
  have hgm : (1 + (nG : Int) != 1 + (nG : Int)) = false := by simp
  go_wp2_with fail
  refine (heldIntS_c _ _ _ 1 _ _ G_w4.si (by omega) (by omega) (by omega)).mono ?_
  rintro e w' ⟨rfl, rfl⟩
  go_wp2_with fail
  refine (implEmpty_c    _ ).mono ?_
  rintro e w5 ⟨AH, nH, cH, rfl, H_w5, hb_w5⟩
  have lt_w5 := hb_w5.size
  have ap_W_H := OI.apart W_w4 H_w5 (Nat.le_refl _)
  have ap_G_H := OI.apart G_w4 H_w5 (Nat.le_refl _)
  have hw_w5 := hw_w4.trans (hb_w5.mono hw_w4.size)
  have W_w5 := W_w4.below hb_w5
  have G_w5 := G_w4.below hb_w5
  go_wp2_with fail
  refine (eqIntS_c _ _ _ _ _ _ (emptyL) (emptyL) _ _ _ H_w5.si W_w5.si).mono ?_
  rintro e w6 ⟨rfl, hq_w6⟩
  have hb_w6 := hq_w6.below
  clear hq_w6
  have hw_w6 := hw_w5.trans (hb_w6.mono hw_w5.size)
  have W_w6 := W_w5.below hb_w6
  have G_w6 := G_w5.below hb_w6
  have H_w6 := H_w5.below hb_w6
  go_wp2_with fail
  refine (heldIntS_c _ _ _ 1 _ _ G_w6.si (by omega) (by omega) (by omega)).mono ?_
  rintro e w' ⟨rfl, rfl⟩
  go_wp2
  go_ret
  exact ⟨ret_bool (by simp), hw_w6⟩

end Go.Proofs.Ytgnkidmljcpheac.fnExactEmptySketch
