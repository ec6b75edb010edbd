/- The walk of a law: Law FnExactJoinSketches: the function answers as the model's does, leaves its arguments as they were, and what it answers is its own. -/
import Derived.Test.YtgnkidmljcpheacEx
import Derived.Test.YtgnkidmljcpheacFrame
namespace Go.Proofs.Ytgnkidmljcpheac.fnExactJoinSketches
open Go.RowKit

theorem joinL_le (l r : List Int) : (joinL l r).length ≤ 24 := by
  unfold joinL; split
  · rename_i h; rw [Bool.and_eq_true] at h; rw [joinF_len (vsk_len h.1) (vsk_len h.2)]; exact Nat.le_refl _
  · simp

set_option maxRecDepth 100000 in
set_option maxHeartbeats 2000000 in
theorem walk (a0 : Option Addr) (n0 c0 : Nat) (z0 : List Int) (a1 : Option Addr) (n1 c1 : Nat) (z1 : List Int) (w : World) (h0 : Came .i64 w a0 n0 c0 z0) (h1 : Came .i64 w a1 n1 c1 z1) :
    Calls Try.prog 11 #[.slice a0 n0 c0, .slice a1 n1 c1] w (Law w) := by
  obtain ⟨hs0, -⟩ := h0.si
  generalize z0.take n0 = l0 at hs0
  have hm0 := hs0.max
  have hc0 := hs0.le
  have hln0 := Lib.hid hs0.len
  clear h0
  obtain ⟨hs1, -⟩ := h1.si
  generalize z1.take n1 = l1 at hs1
  have hm1 := hs1.max
  have hc1 := hs1.le
  have hln1 := Lib.hid hs1.len
  clear h1
  by_cases hn0 : n0 ≤ 1048576
  rotate_left
  · go_enter Try.func11, Try.ntmps11
    go_wp2
    go_ret
    exact ⟨rfl, Below.refl _ _⟩
  by_cases hn1 : n1 ≤ 1048576
  rotate_left
  · go_enter Try.func11, Try.ntmps11
    go_wp2
    go_ret
    exact ⟨rfl, Below.refl _ _⟩
  go_enter Try.func11, Try.ntmps11
  have hE0 := eqL_self l0
  have hE1 := eqL_self l1
  have hER := eqL_self (joinL l0 l1)
  have hRle := Lib.hid (joinL_le l0 l1)
  have hbw := Below.refl w.heap.size w
  go_wp2_with fail
  refine (toIntS_c _ _ _ l0 _ ((hs0.below hbw).more hbw.size) (by omega)).mono ?_
  rintro e w1 ⟨AT0, nT0, cT0, rfl, T0_w1, hb_w1⟩
  have lt_w1 := hb_w1.size
  have hw_w1 := hbw.trans (hb_w1.mono hbw.size)
  obtain rfl : n0 = nT0 := by rw [T0_w1.len, ← hln0.out]
  go_wp2_with fail
  refine (toIntS_c _ _ _ l1 _ ((hs1.below hw_w1).more hw_w1.size) (by omega)).mono ?_
  rintro e w2 ⟨AT1, nT1, cT1, rfl, T1_w2, hb_w2⟩
  have lt_w2 := hb_w2.size
  have ap_T0_T1 := OI.apart T0_w1 T1_w2 (Nat.le_refl _)
  have hw_w2 := hw_w1.trans (hb_w2.mono hw_w1.size)
  have T0_w2 := T0_w1.below hb_w2
  obtain rfl : n1 = nT1 := by rw [T1_w2.len, ← hln1.out]
  go_wp2_with fail
  refine (specJoin_c _ _ _ _ _ _ l0 l1  _ T0_w2.si T1_w2.si).mono ?_
  rintro e w3 ⟨AW, nW, cW, rfl, W_w3, hb_w3⟩
  have lt_w3 := hb_w3.size
  have hw_w3 := hw_w2.trans (hb_w3.mono hw_w2.size)
  go_wp2_with fail
  refine (toIntS_c _ _ _ l0 _ ((hs0.below hw_w3).more hw_w3.size) (by omega)).mono ?_
  rintro e w4 ⟨AX0, nX0, cX0, rfl, X0_w4, hb_w4⟩
  have lt_w4 := hb_w4.size
  have ap_W_X0 := OI.apart W_w3 X0_w4 (Nat.le_refl _)
  have hw_w4 := hw_w3.trans (hb_w4.mono hw_w3.size)
  have W_w4 := W_w3.below hb_w4
  obtain rfl : n0 = nX0 := by rw [X0_w4.len, ← hln0.out]
  go_wp2_with fail
  refine (toIntS_c _ _ _ l1 _ ((hs1.below hw_w4).more hw_w4.size) (by omega)).mono ?_
  rintro e w5 ⟨AX1, nX1, cX1, rfl, X1_w5, hb_w5⟩
  have lt_w5 := hb_w5.size
  have ap_W_X1 := OI.apart W_w4 X1_w5 (Nat.le_refl _)
  have ap_X0_X1 := OI.apart X0_w4 X1_w5 (Nat.le_refl _)
  have hw_w5 := hw_w4.trans (hb_w5.mono hw_w4.size)
  have W_w5 := W_w4.below hb_w5
  have X0_w5 := X0_w4.below hb_w5
  obtain rfl : n1 = nX1 := by rw [X1_w5.len, ← hln1.out]
  go_wp2_with fail
  refine (implJoin_c _ _ _ _ _ _ l0 l1  _ X0_w5.si X1_w5.si).mono ?_
  rintro e w6 ⟨AG, nG, cG, rfl, G_w6, hb_w6⟩
  have lt_w6 := hb_w6.size
  have ap_W_G := OI.apart W_w5 G_w6 (Nat.le_refl _)
  have ap_X0_G := OI.apart X0_w5 G_w6 (Nat.le_refl _)
  have ap_X1_G := OI.apart X1_w5 G_w6 (Nat.le_refl _)
  have hw_w6 := hw_w5.trans (hb_w6.mono hw_w5.size)
  have W_w6 := W_w5.below hb_w6
  have X0_w6 := X0_w5.below hb_w6
  have X1_w6 := X1_w5.below hb_w6
  have hGle : nG ≤ 24 := by rw [G_w6.len]; exact hRle.out
  go_wp2_with fail
  refine (eqIntS_c _ _ _ _ _ _ (joinL l0 l1) (joinL l0 l1) _ _ _ G_w6.si W_w6.si).mono ?_
  rintro e w7 ⟨rfl, hq_w7⟩
  have hb_w7 := hq_w7.below
  clear hq_w7
  have hw_w7 := hw_w6.trans (hb_w7.mono hw_w6.size)
  have W_w7 := W_w6.below hb_w7
  have X0_w7 := X0_w6.below hb_w7
  have X1_w7 := X1_w6.below hb_w7
  have G_w7 := G_w6.below hb_w7
  go_wp2_with fail
  refine (toIntS_c _ _ _ l0 _ ((hs0.below hw_w7).more hw_w7.size) (by omega)).mono ?_
  rintro e w8 ⟨AY0, nY0, cY0, rfl, Y0_w8, hb_w8⟩
  have lt_w8 := hb_w8.size
  have ap_W_Y0 := OI.apart W_w7 Y0_w8 (Nat.le_refl _)
  have ap_X0_Y0 := OI.apart X0_w7 Y0_w8 (Nat.le_refl _)
  have ap_X1_Y0 := OI.apart X1_w7 Y0_w8 (Nat.le_refl _)
  have ap_G_Y0 := OI.apart G_w7 Y0_w8 (Nat.le_refl _)
  have hw_w8 := hw_w7.trans (hb_w8.mono hw_w7.size)
  have W_w8 := W_w7.below hb_w8
  have X0_w8 := X0_w7.below hb_w8
  have X1_w8 := X1_w7.below hb_w8
  have G_w8 := G_w7.below hb_w8
  obtain rfl : n0 = nY0 := by rw [Y0_w8.len, ← hln0.out]
  go_wp2_with fail
  refine (eqIntS_c _ _ _ _ _ _ l0 l0 _ _ _ X0_w8.si Y0_w8.si).mono ?_
  rintro e w9 ⟨rfl, hq_w9⟩
  have hb_w9 := hq_w9.below
  clear hq_w9
  have hw_w9 := hw_w8.trans (hb_w9.mono hw_w8.size)
  have W_w9 := W_w8.below hb_w9
  have X0_w9 := X0_w8.below hb_w9
  have X1_w9 := X1_w8.below hb_w9
  have G_w9 := G_w8.below hb_w9
  have Y0_w9 := Y0_w8.below hb_w9
  go_wp2_with fail
  refine (toIntS_c _ _ _ l1 _ ((hs1.below hw_w9).more hw_w9.size) (by omega)).mono ?_
  rintro e w10 ⟨AY1, nY1, cY1, rfl, Y1_w10, hb_w10⟩
  have lt_w10 := hb_w10.size
  have ap_W_Y1 := OI.apart W_w9 Y1_w10 (Nat.le_refl _)
  have ap_X0_Y1 := OI.apart X0_w9 Y1_w10 (Nat.le_refl _)
  have ap_X1_Y1 := OI.apart X1_w9 Y1_w10 (Nat.le_refl _)
  have ap_G_Y1 := OI.apart G_w9 Y1_w10 (Nat.le_refl _)
  have hw_w10 := hw_w9.trans (hb_w10.mono hw_w9.size)
  have W_w10 := W_w9.below hb_w10
  have X0_w10 := X0_w9.below hb_w10
  have X1_w10 := X1_w9.below hb_w10
  have G_w10 := G_w9.below hb_w10
  obtain rfl : n1 = nY1 := by rw [Y1_w10.len, ← hln1.out]
  go_wp2_with fail
  refine (eqIntS_c _ _ _ _ _ _ l1 l1 _ _ _ X1_w10.si Y1_w10.si).mono ?_
  rintro e w11 ⟨rfl, hq_w11⟩
  have hb_w11 := hq_w11.below
  clear hq_w11
  have hw_w11 := hw_w10.trans (hb_w11.mono hw_w10.size)
  have W_w11 := W_w10.below hb_w11
  have X0_w11 := X0_w10.below hb_w11
  have X1_w11 := X1_w10.below hb_w11
  have G_w11 := G_w10.below hb_w11
  have Y1_w11 := Y1_w10.below hb_w11
  go_wp2_with fail
  refine (markIntS_c _ _ _ l0 1 _ _ X0_w11 (by omega) (by omega) (by omega)).mono ?_
  rintro e w12 ⟨rfl, X0_w12, hg_w12⟩
  have hw_w12 := hw_w11.grown hg_w12 hw_w11.size fun q hq => Nat.le_trans hw_w3.size (X0_w11.lt q hq).1
  have W_w12 := W_w11.far hg_w12 ap_W_X0.1
  have X1_w12 := X1_w11.far hg_w12 ap_X0_X1.2
  have G_w12 := G_w11.far hg_w12 ap_X0_G.2
  have hk1 : decide (1 + (n0 : Int) < 0) = false := by simp; omega
  go_wp2_with fail
  refine (markIntS_c _ _ _ l1 (1 + (n0 : Int)) _ _ X1_w12 (by omega) (by omega) (by omega)).mono ?_
  rintro e w13 ⟨rfl, X1_w13, hg_w13⟩
  have hw_w13 := hw_w12.grown hg_w13 hw_w12.size fun q hq => Nat.le_trans hw_w4.size (X1_w12.lt q hq).1
  have W_w13 := W_w12.far hg_w13 ap_W_X1.1
  have X0_w13 := X0_w12.far hg_w13 ap_X0_X1.1
  have G_w13 := G_w12.far hg_w13 ap_X1_G.2
  have hkn : decide (1 + (n0 : Int) + (n1 : Int) < 0) = false := by simp; omega
  go_wp2_with fail
  refine (eqIntS_c _ _ _ _ _ _ (joinL l0 l1) (joinL l0 l1) _ _ _ G_w13.si W_w13.si).mono ?_
  rintro e w14 ⟨rfl, hq_w14⟩
  have hb_w14 := hq_w14.below
  clear hq_w14
  have hw_w14 := hw_w13.trans (hb_w14.mono hw_w13.size)
  have W_w14 := W_w13.below hb_w14
  have X0_w14 := X0_w13.below hb_w14
  have X1_w14 := X1_w13.below hb_w14
  have G_w14 := G_w13.below hb_w14
  go_wp2_with fail
  refine (markIntS_c _ _ _ (joinL l0 l1) 1 _ _ G_w14 (by omega) (by omega) (by omega)).mono ?_
  rintro e w15 ⟨rfl, G_w15, hg_w15⟩
  have hw_w15 := hw_w14.grown hg_w15 hw_w14.size fun q hq => Nat.le_trans hw_w5.size (G_w14.lt q hq).1
  have W_w15 := W_w14.far hg_w15 ap_W_G.1
  have X0_w15 := X0_w14.far hg_w15 ap_X0_G.1
  have X1_w15 := X1_w14.far hg_w15 ap_X1_G.1
  have hgn : decide (1 + (nG : Int) < 0) = false := by simp; omega
  have hgm : (1 + (nG : Int) != 1 + (nG : Int)) = false := by simp
  go_wp2_with fail
  refine (heldIntS_c _ _ _ 1 _ _ G_w15.si (by omega) (by omega) (by omega)).mono ?_
  rintro e w' ⟨rfl, rfl⟩
  go_wp2_with fail
  refine (toIntS_c _ _ _ l0 _ ((hs0.below hw_w15).more hw_w15.size) (by omega)).mono ?_
  rintro e w16 ⟨AU0, nU0, cU0, rfl, U0_w16, hb_w16⟩
  have lt_w16 := hb_w16.size
  have ap_W_U0 := OI.apart W_w15 U0_w16 (Nat.le_refl _)
  have ap_X0_U0 := OI.apart X0_w15 U0_w16 (Nat.le_refl _)
  have ap_X1_U0 := OI.apart X1_w15 U0_w16 (Nat.le_refl _)
  have ap_G_U0 := OI.apart G_w15 U0_w16 (Nat.le_refl _)
  have hw_w16 := hw_w15.trans (hb_w16.mono hw_w15.size)
  have W_w16 := W_w15.below hb_w16
  have X0_w16 := X0_w15.below hb_w16
  have X1_w16 := X1_w15.below hb_w16
  have G_w16 := G_w15.below hb_w16
  obtain rfl : n0 = nU0 := by rw [U0_w16.len, ← hln0.out]
  go_wp2_with fail
  refine (toIntS_c _ _ _ l1 _ ((hs1.below hw_w16).more hw_w16.size) (by omega)).mono ?_
  rintro e w17 ⟨AU1, nU1, cU1, rfl, U1_w17, hb_w17⟩
  have lt_w17 := hb_w17.size
  have ap_W_U1 := OI.apart W_w16 U1_w17 (Nat.le_refl _)
  have ap_X0_U1 := OI.apart X0_w16 U1_w17 (Nat.le_refl _)
  have ap_X1_U1 := OI.apart X1_w16 U1_w17 (Nat.le_refl _)
  have ap_G_U1 := OI.apart G_w16 U1_w17 (Nat.le_refl _)
  have ap_U0_U1 := OI.apart U0_w16 U1_w17 (Nat.le_refl _)
  have hw_w17 := hw_w16.trans (hb_w17.mono hw_w16.size)
  have W_w17 := W_w16.below hb_w17
  have X0_w17 := X0_w16.below hb_w17
  have X1_w17 := X1_w16.below hb_w17
  have G_w17 := G_w16.below hb_w17
  have U0_w17 := U0_w16.below hb_w17
  obtain rfl : n1 = nU1 := by rw [U1_w17.len, ← hln1.out]
  go_wp2_with fail
  refine (implJoin_c _ _ _ _ _ _ l0 l1  _ U0_w17.si U1_w17.si).mono ?_
  rintro e w18 ⟨AH, nH, cH, rfl, H_w18, hb_w18⟩
  have lt_w18 := hb_w18.size
  have ap_W_H := OI.apart W_w17 H_w18 (Nat.le_refl _)
  have ap_X0_H := OI.apart X0_w17 H_w18 (Nat.le_refl _)
  have ap_X1_H := OI.apart X1_w17 H_w18 (Nat.le_refl _)
  have ap_G_H := OI.apart G_w17 H_w18 (Nat.le_refl _)
  have ap_U0_H := OI.apart U0_w17 H_w18 (Nat.le_refl _)
  have ap_U1_H := OI.apart U1_w17 H_w18 (Nat.le_refl _)
  have hw_w18 := hw_w17.trans (hb_w18.mono hw_w17.size)
  have W_w18 := W_w17.below hb_w18
  have X0_w18 := X0_w17.below hb_w18
  have X1_w18 := X1_w17.below hb_w18
  have G_w18 := G_w17.below hb_w18
  have U0_w18 := U0_w17.below hb_w18
  have U1_w18 := U1_w17.below hb_w18
  go_wp2_with fail
  refine (eqIntS_c _ _ _ _ _ _ (joinL l0 l1) (joinL l0 l1) _ _ _ H_w18.si W_w18.si).mono ?_
  rintro e w19 ⟨rfl, hq_w19⟩
  have hb_w19 := hq_w19.below
  clear hq_w19
  have hw_w19 := hw_w18.trans (hb_w19.mono hw_w18.size)
  have W_w19 := W_w18.below hb_w19
  have X0_w19 := X0_w18.below hb_w19
  have X1_w19 := X1_w18.below hb_w19
  have G_w19 := G_w18.below hb_w19
  have H_w19 := H_w18.below hb_w19
  go_wp2_with fail
  refine (heldIntS_c _ _ _ 1 _ _ G_w19.si (by omega) (by omega) (by omega)).mono ?_
  rintro e w' ⟨rfl, rfl⟩
  go_wp2
  go_ret
  exact ⟨ret_bool (by simp), hw_w19⟩

end Go.Proofs.Ytgnkidmljcpheac.fnExactJoinSketches
