/- The walk of a law: Law FnExactUseRecent: the function answers as the model's does, leaves its arguments as they were, and what it answers is its own. -/
import Derived.Test.YtgnkidmljcpheacEx
import Derived.Test.YtgnkidmljcpheacFrame
namespace Go.Proofs.Ytgnkidmljcpheac.fnExactUseRecent
open Go.RowKit

theorem useRL_le (l : List Int) (r x : Int) : (useRL l r x).length ≤ 24 := by
  unfold useRL; split
  · rename_i h; rw [Bool.and_eq_true] at h; have := recL_len l r.toNat x; have := (vks_iff.1 h.1).1; omega
  · simp

set_option maxRecDepth 100000 in
set_option maxHeartbeats 2000000 in
theorem walk (a0 : Option Addr) (n0 c0 : Nat) (z0 : List Int) (s0 : Int) (s1 : Int) (w : World) (h0 : Came .i64 w a0 n0 c0 z0) (_h1 : InR64 s0) (_h2 : InR64 s1) :
    Calls Try.prog 14 #[.slice a0 n0 c0, .int .i64 s0, .int .i64 s1] w (Law w) := by
  obtain ⟨hs0, -⟩ := h0.si
  generalize z0.take n0 = l0 at hs0
  have hm0 := hs0.max
  have hc0 := hs0.le
  have hln0 := Lib.hid hs0.len
  clear h0
  by_cases hn0 : n0 ≤ 1048576
  rotate_left
  · go_enter Try.func14, Try.ntmps14
    go_wp2
    go_ret
    exact ⟨rfl, Below.refl _ _⟩
  go_enter Try.func14, Try.ntmps14
  have hE0 := eqL_self l0
  have hER := eqL_self (useRL l0 s0 s1)
  have hRle := Lib.hid (useRL_le l0 s0 s1)
  have hS1 : ((useRB l0 s0 s1) != (useRB l0 s0 s1)) = false := by simp
  have hS2 : ((useRB l0 s0 s1) == (useRB l0 s0 s1)) = true := by simp
  have hbw := Below.refl w.heap.size w
  go_wp2_with fail
  refine (toIntS_c _ _ _ l0 _ ((hs0.below hbw).more hbw.size) (by omega)).mono ?_
  rintro e w1 ⟨AT0, nT0, cT0, rfl, T0_w1, hb_w1⟩
  have lt_w1 := hb_w1.size
  have hw_w1 := hbw.trans (hb_w1.mono hbw.size)
  obtain rfl : n0 = nT0 := by rw [T0_w1.len, ← hln0.out]
  go_wp2_with fail
  refine (specUseRecent_c _ _ _ l0 s0 s1 _ T0_w1.si).mono ?_
  rintro e w2 ⟨AW, nW, cW, rfl, W_w2, hb_w2⟩
  have lt_w2 := hb_w2.size
  have hw_w2 := hw_w1.trans (hb_w2.mono hw_w1.size)
  go_wp2_with fail
  refine (toIntS_c _ _ _ l0 _ ((hs0.below hw_w2).more hw_w2.size) (by omega)).mono ?_
  rintro e w3 ⟨AX0, nX0, cX0, rfl, X0_w3, hb_w3⟩
  have lt_w3 := hb_w3.size
  have ap_W_X0 := OI.apart W_w2 X0_w3 (Nat.le_refl _)
  have hw_w3 := hw_w2.trans (hb_w3.mono hw_w2.size)
  have W_w3 := W_w2.below hb_w3
  obtain rfl : n0 = nX0 := by rw [X0_w3.len, ← hln0.out]
  go_wp2_with fail
  refine (implUseRecent_c _ _ _ l0 s0 s1 _ X0_w3.si).mono ?_
  rintro e w4 ⟨AG, nG, cG, rfl, G_w4, hb_w4⟩
  have lt_w4 := hb_w4.size
  have ap_W_G := OI.apart W_w3 G_w4 (Nat.le_refl _)
  have ap_X0_G := OI.apart X0_w3 G_w4 (Nat.le_refl _)
  have hw_w4 := hw_w3.trans (hb_w4.mono hw_w3.size)
  have W_w4 := W_w3.below hb_w4
  have X0_w4 := X0_w3.below hb_w4
  have hGle : nG ≤ 24 := by rw [G_w4.len]; exact hRle.out
  go_wp2_with fail
  refine (eqIntS_c _ _ _ _ _ _ (useRL l0 s0 s1) (useRL l0 s0 s1) _ _ _ G_w4.si W_w4.si).mono ?_
  rintro e w5 ⟨rfl, hq_w5⟩
  have hb_w5 := hq_w5.below
  clear hq_w5
  have hw_w5 := hw_w4.trans (hb_w5.mono hw_w4.size)
  have W_w5 := W_w4.below hb_w5
  have X0_w5 := X0_w4.below hb_w5
  have G_w5 := G_w4.below hb_w5
  go_wp2_with fail
  refine (toIntS_c _ _ _ l0 _ ((hs0.below hw_w5).more hw_w5.size) (by omega)).mono ?_
  rintro e w6 ⟨AY0, nY0, cY0, rfl, Y0_w6, hb_w6⟩
  have lt_w6 := hb_w6.size
  have ap_W_Y0 := OI.apart W_w5 Y0_w6 (Nat.le_refl _)
  have ap_X0_Y0 := OI.apart X0_w5 Y0_w6 (Nat.le_refl _)
  have ap_G_Y0 := OI.apart G_w5 Y0_w6 (Nat.le_refl _)
  have hw_w6 := hw_w5.trans (hb_w6.mono hw_w5.size)
  have W_w6 := W_w5.below hb_w6
  have X0_w6 := X0_w5.below hb_w6
  have G_w6 := G_w5.below hb_w6
  obtain rfl : n0 = nY0 := by rw [Y0_w6.len, ← hln0.out]
  go_wp2_with fail
  refine (eqIntS_c _ _ _ _ _ _ l0 l0 _ _ _ X0_w6.si Y0_w6.si).mono ?_
  rintro e w7 ⟨rfl, hq_w7⟩
  have hb_w7 := hq_w7.below
  clear hq_w7
  have hw_w7 := hw_w6.trans (hb_w7.mono hw_w6.size)
  have W_w7 := W_w6.below hb_w7
  have X0_w7 := X0_w6.below hb_w7
  have G_w7 := G_w6.below hb_w7
  have Y0_w7 := Y0_w6.below hb_w7
  go_wp2_with fail
  refine (markIntS_c _ _ _ l0 1 _ _ X0_w7 (by omega) (by omega) (by omega)).mono ?_
  rintro e w8 ⟨rfl, X0_w8, hg_w8⟩
  have hw_w8 := hw_w7.grown hg_w8 hw_w7.size fun q hq => Nat.le_trans hw_w2.size (X0_w7.lt q hq).1
  have W_w8 := W_w7.far hg_w8 ap_W_X0.1
  have G_w8 := G_w7.far hg_w8 ap_X0_G.2
  have hkn : decide (1 + (n0 : Int) < 0) = false := by simp; omega
  go_wp2_with fail
  refine (eqIntS_c _ _ _ _ _ _ (useRL l0 s0 s1) (useRL l0 s0 s1) _ _ _ G_w8.si W_w8.si).mono ?_
  rintro e w9 ⟨rfl, hq_w9⟩
  have hb_w9 := hq_w9.below
  clear hq_w9
  have hw_w9 := hw_w8.trans (hb_w9.mono hw_w8.size)
  have W_w9 := W_w8.below hb_w9
  have X0_w9 := X0_w8.below hb_w9
  have G_w9 := G_w8.below hb_w9
  go_wp2_with fail
  refine (markIntS_c _ _ _ (useRL l0 s0 s1) 1 _ _ G_w9 (by omega) (by omega) (by omega)).mono ?_
  rintro e w10 ⟨rfl, G_w10, hg_w10⟩
  have hw_w10 := hw_w9.grown hg_w10 hw_w9.size fun q hq => Nat.le_trans hw_w3.size (G_w9.lt q hq).1
  have W_w10 := W_w9.far hg_w10 ap_W_G.1
  have X0_w10 := X0_w9.far hg_w10 ap_X0_G.1
  have hgn : decide (1 + (nG : Int) < 0) = false := by simp; omega
  have hgm : (1 + (nG : Int) != 1 + (nG : Int)) = false := by simp
  go_wp2_with fail
  refine (heldIntS_c _ _ _ 1 _ _ G_w10.si (by omega) (by omega) (by omega)).mono ?_
  rintro e w' ⟨rfl, rfl⟩
  go_wp2_with fail
  refine (toIntS_c _ _ _ l0 _ ((hs0.below hw_w10).more hw_w10.size) (by omega)).mono ?_
  rintro e w11 ⟨AU0, nU0, cU0, rfl, U0_w11, hb_w11⟩
  have lt_w11 := hb_w11.size
  have ap_W_U0 := OI.apart W_w10 U0_w11 (Nat.le_refl _)
  have ap_X0_U0 := OI.apart X0_w10 U0_w11 (Nat.le_refl _)
  have ap_G_U0 := OI.apart G_w10 U0_w11 (Nat.le_refl _)
  have hw_w11 := hw_w10.trans (hb_w11.mono hw_w10.size)
  have W_w11 := W_w10.below hb_w11
  have X0_w11 := X0_w10.below hb_w11
  have G_w11 := G_w10.below hb_w11
  obtain rfl : n0 = nU0 := by rw [U0_w11.len, ← hln0.out]
  go_wp2_with fail
  refine (implUseRecent_c _ _ _ l0 s0 s1 _ U0_w11.si).mono ?_
  rintro e w12 ⟨AH, nH, cH, rfl, H_w12, hb_w12⟩
  have lt_w12 := hb_w12.size
  have ap_W_H := OI.apart W_w11 H_w12 (Nat.le_refl _)
  have ap_X0_H := OI.apart X0_w11 H_w12 (Nat.le_refl _)
  have ap_G_H := OI.apart G_w11 H_w12 (Nat.le_refl _)
  have ap_U0_H := OI.apart U0_w11 H_w12 (Nat.le_refl _)
  have hw_w12 := hw_w11.trans (hb_w12.mono hw_w11.size)
  have W_w12 := W_w11.below hb_w12
  have X0_w12 := X0_w11.below hb_w12
  have G_w12 := G_w11.below hb_w12
  have U0_w12 := U0_w11.below hb_w12
  go_wp2_with fail
  refine (eqIntS_c _ _ _ _ _ _ (useRL l0 s0 s1) (useRL l0 s0 s1) _ _ _ H_w12.si W_w12.si).mono ?_
  rintro e w13 ⟨rfl, hq_w13⟩
  have hb_w13 := hq_w13.below
  clear hq_w13
  have hw_w13 := hw_w12.trans (hb_w13.mono hw_w12.size)
  have W_w13 := W_w12.below hb_w13
  have X0_w13 := X0_w12.below hb_w13
  have G_w13 := G_w12.below hb_w13
  have H_w13 := H_w12.below hb_w13
  go_wp2_with fail
  refine (heldIntS_c _ _ _ 1 _ _ G_w13.si (by omega) (by omega) (by omega)).mono ?_
  rintro e w' ⟨rfl, rfl⟩
  go_wp2
  go_ret
  exact ⟨ret_bool (by simp), hw_w13⟩

end Go.Proofs.Ytgnkidmljcpheac.fnExactUseRecent
