/- The walk of a law: Law FnHalveSketchTwice (P7): behind four HalveSketch a sketch is empty. -/
import Derived.Test.YtgnkidmljcpheabSkP
import Derived.Test.YtgnkidmljcpheabFrame
namespace Go.Proofs.Ytgnkidmljcpheab.fnHalveSketchTwice
open Go.RowKit

def hv (l : List Int) : Nat → List Int
  | 0 => l
  | k + 1 => halveF (hv l k)
theorem hv_vsk {l : List Int} (h : vsk l = true) : ∀ k, vsk (hv l k) = true
  | 0 => h
  | k + 1 => halveF_vsk (hv_vsk h k)
theorem hv_four {l : List Int} (h : vsk l = true) : hv l 4 = emptyL := by
  have hl := vsk_len (hv_vsk h 4)
  refine take_ext (k := 24) (fun j hj => ?_) hl.symm rfl
  have h0 := vsk_gi h hj
  have he : gi emptyL j = 0 := by simp only [gi, emptyL, List.getD]; rw [List.getElem?_replicate, if_pos hj]; rfl
  rw [he]
  show gi (halveF (halveF (halveF (halveF l)))) j = 0
  rw [gi_halveF, gi_halveF, gi_halveF, gi_halveF]
  omega

set_option maxRecDepth 100000 in
set_option maxHeartbeats 1000000 in
theorem walk (a : Option Addr) (n c : Nat) (z : List Int) (w : World) (h : Came .u8 w a n c z) :
    Calls Try.prog 13 #[.slice a n c] w (Law w) := by
  have hb := h.sb
  have hm : c ≤ 9223372036854775807 := by have := hb.2.2.1; simpa [maxLen] using this
  have hc := hb.2.1
  by_cases hn : n ≤ 1048576
  · go_enter Try.func13, Try.ntmps13
    go_wp2_with fail
    refine (drawHalveSketch_c _ _ _ _ w hb).mono ?_
    rintro e w1 ⟨A1, n1, c1, l, rfl, hO1, hn1, hbd, hb1⟩
    have z1 := hb1.size
    have hc1 := hO1.le
    have hmx1 := hO1.si.max
    have hS1 := hO1.si
    go_wp2_with fail
    refine (implHalve_c _ _ _ l w1 hS1).mono ?_
    rintro e w2 ⟨A2, n2, c2, rfl, hO2, hb2⟩
    have z2 := hb2.size
    go_wp2_with fail
    refine (specHalve_c _ _ _ l w2 ((hS1.below hb2).more z2)).mono ?_
    rintro e w3 ⟨A3, n3, c3, rfl, hO3, hb3⟩
    have z3 := hb3.size
    have hO2' := hO2.below hb3
    have hbw3 : Below w.heap.size w w3 := (hb1.trans (hb2.mono z1)).trans (hb3.mono (by omega))
    go_wp2_with fail
    refine (equalInts_c _ _ _ _ _ _ _ _ _ _ _ hO2'.si hO3.si).mono ?_
    rintro e w4 ⟨rfl, q, rfl⟩
    have hE := eqL_self (halveL l)
    rcases Bool.eq_false_or_eq_true (vsk l) with hvl | hvl
    · have hadd := halveL_yes hvl
      have hv2 := halveF_vsk hvl
      rw [hadd] at hO2 hO2'
      obtain rfl : n2 = 24 := by rw [hO2.len, vsk_len hv2]
      have HA := Lib.hid hadd
      clear hadd
      have hT4 := hO2'.drewN q
      go_wp2
      go_loopw [4, 5] (fun v i wr => ∃ (k : Nat) (A : Option Addr) (c : Nat), 1 ≤ k ∧ k ≤ 4 ∧ i = .int .i64 k ∧ v = .slice A 24 c ∧ OI wr w1.heap.size A 24 c (hv l k) ∧ Below w3.heap.size (w3.drewN q) wr) (fun _ i _ => 4 - (intOf i).toNat)
      case atStart => exact ⟨1, _, _, by omega, by omega, rfl, rfl, hT4, Below.refl _ _⟩
      case round =>
        obtain ⟨k, A, c', hk1, hk2, rfl, rfl, hO, hbr⟩ := hrel
        have hsz : w3.heap.size ≤ wr.heap.size := hbr.size
        have hvr := hv_vsk hvl k
        by_cases hlt : k < 4
        · go_wp2_with fail
          refine (implHalve_c _ _ _ (hv l k) wr hO.si).mono ?_
          rintro e w5 ⟨A5, n5, c5, rfl, hO5, hb5⟩
          rw [halveL_yes hvr] at hO5
          obtain rfl : n5 = 24 := by rw [hO5.len]; exact vsk_len (hv_vsk hvl (k + 1))
          go_wp2
          go_roundw
          case rel => exact ⟨k + 1, A5, c5, by omega, by omega, by go_num, rfl, OI.less hO5 (by omega), hbr.trans (hb5.mono hsz)⟩
          case measure => simp [intOf]; omega
        · obtain rfl : k = 4 := by omega
          rw [hv_four hvl] at hO
          have hE0 := eqL_self emptyL
          go_wp2_with fail
          refine (implEmpty_c wr).mono ?_
          rintro e w6 ⟨A6, n6, c6, rfl, hO6, hb6⟩
          have hO' := hO.below hb6
          have z6 := hb6.size
          have hbw6 : Below w.heap.size w w6 := ((below_dN hbw3 q).trans (hbr.mono (by omega))).trans (hb6.mono (by omega))
          go_wp2_with fail
          refine (equalInts_c _ _ _ _ _ _ emptyL emptyL _ _ _ hO'.si hO6.si).mono ?_
          rintro e w7 ⟨rfl, q7, rfl⟩
          go_wp2
          go_ret
          exact ⟨rfl, below_dN hbw6 q7⟩
    · have hadd := halveL_no hvl
      rw [hadd] at hO2 hO2' hO3
      obtain rfl : n2 = 0 := by rw [hO2.len]; rfl
      go_wp2_with fail
      refine (specHalve_c _ _ _ l (w3.drewN q) ((((hS1.below hb2).more z2).below hb3).drewN q |>.more z3)).mono ?_
      rintro e w5 ⟨A5, n5, c5, rfl, hO5, hb5⟩
      go_wp2_with fail
      rw [hadd] at hO5
      refine (equalInts_c _ _ _ _ _ _ _ _ _ _ _ (OI.below (w := w3.drewN q) hO2' hb5).si hO5.si).mono ?_
      rintro e w6 ⟨rfl, q6, rfl⟩
      go_wp2
      go_ret
      exact ⟨ret_bool (by simp), below_dN ((below_dN hbw3 q).trans (hb5.mono (by show _ ≤ w3.heap.size; omega))) q6⟩
  · go_enter Try.func13, Try.ntmps13
    go_wp2
    go_ret
    exact ⟨rfl, Below.refl _ _⟩


end Go.Proofs.Ytgnkidmljcpheab.fnHalveSketchTwice
