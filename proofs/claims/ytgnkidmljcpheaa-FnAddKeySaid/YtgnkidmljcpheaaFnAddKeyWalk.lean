/- The walk of a law: Law FnAddKey (P4): CountOf the key is 1 more behind AddKey, up to MaxCounter, and that of no key is less. -/
import Derived.Test.YtgnkidmljcpheaaSkP
import Derived.Test.YtgnkidmljcpheaaFrame
namespace Go.Proofs.Ytgnkidmljcpheaa.fnAddKey
open Go.RowKit

set_option maxRecDepth 100000 in
set_option maxHeartbeats 1000000 in
theorem walk (a : Option Addr) (n c : Nat) (z : List Int) (w : World) (h : Came .u8 w a n c z) :
    Calls Try.prog 6 #[.slice a n c] w (Law w) := by
  have hb := h.sb
  have hm : c ≤ 9223372036854775807 := by have := hb.2.2.1; simpa [maxLen] using this
  have hc := hb.2.1
  by_cases hn : n ≤ 1048576
  · go_enter Try.func6, Try.ntmps6
    go_wp2_with fail
    refine (drawAddKey_c _ _ _ _ w hb).mono ?_
    rintro e w1 ⟨A1, n1, c1, l, key, rfl, hO1, hn1, hbd, hkey, hb1⟩
    have hc1 := hO1.le
    have hmx1 := hO1.si.max
    have hS1 := hO1.si
    go_wp2_with fail
    refine (implAddKey_c _ _ _ l key w1 hS1).mono ?_
    rintro e w2 ⟨A2, n2, c2, rfl, hO2, hb2⟩
    have z2 := hb2.size
    go_wp2_with fail
    refine (specAddKey_c _ _ _ l key w2 ((hS1.below hb2).more z2)).mono ?_
    rintro e w3 ⟨A3, n3, c3, rfl, hO3, hb3⟩
    have z3 := hb3.size
    have hO2' := hO2.below hb3
    have hbw3 : Below w.heap.size w w3 := (hb1.trans (hb2.mono hb1.size)).trans (hb3.mono (by have := hb1.size; omega))
    go_wp2_with fail
    refine (equalInts_c _ _ _ _ _ _ _ _ _ _ _ hO2'.si hO3.si).mono ?_
    rintro e w4 ⟨rfl, q, rfl⟩
    have hE := eqL_self (addL l key)
    by_cases hv : vsk l = true ∧ inR 0 31 key = true
    · obtain ⟨hv, hk⟩ := hv
      have hk' := inR_true.1 hk
      have hadd := addL_yes hv hk'
      rw [hadd] at hO2 hO2'
      have hv2 := addN_vsk (key := key) hv 3
      obtain rfl : n2 = 24 := by rw [hO2.len, vsk_len hv2]
      obtain rfl : n1 = 24 := by rw [hO1.len, vsk_len hv]
      have HA := Lib.hid hadd
      clear hadd
      have hS4 := (((hS1.below hb2).more z2).below hb3).drewN q
      have hT4 := hO2'.si.drewN q
      go_wp2
      go_loop [6] (fun i => ∃ k : Nat, k ≤ 32 ∧ i = .int .i64 k) (fun i => 32 - (intOf i).toNat)
      case atStart => exact ⟨0, by omega, rfl⟩
      case round =>
        obtain ⟨k, hk2, rfl⟩ := hrel
        by_cases hlt : k < 32
        · have hc1 := countL_yes (key := (k : Int)) hv (by omega)
          have hc2 := countL_yes (key := (k : Int)) hv2 (by omega)
          obtain ⟨g1, g2, g3⟩ := cnt_add (key := key) hv (k : Int)
          obtain ⟨g4, g5⟩ := cnt_bd (k : Int) hv
          generalize cnt l (k : Int) 3 = x at *
          generalize cnt (addN l key 3) (k : Int) 3 = y at *
          have d1 : decide (y < x) = false := by simpa using g1
          have d2 : decide (x + 1 < y) = false := by simpa using g2
          rcases Bool.eq_false_or_eq_true ((k : Int) == key) with hkk | hkk
          · have d3 : (y != (if 15 < x + 1 then 15 else x + 1)) = false := by simpa [mn] using g3 (by simpa using hkk)
            clear g3
            go_wp2_with (go_at_call 19; refine (by first | exact implCountOf_c _ _ _ _ _ _ _ hS4 | exact implCountOf_c _ _ _ _ _ _ _ hT4 : Calls _ _ _ _ _).mono ?_; rintro e w' ⟨rfl, rfl⟩)
            go_round
            case rel => exact ⟨k + 1, by omega, by go_num⟩
            case measure => simp [intOf]; omega
          · clear g3
            go_wp2_with (go_at_call 19; refine (by first | exact implCountOf_c _ _ _ _ _ _ _ hS4 | exact implCountOf_c _ _ _ _ _ _ _ hT4 : Calls _ _ _ _ _).mono ?_; rintro e w' ⟨rfl, rfl⟩)
            go_round
            case rel => exact ⟨k + 1, by omega, by go_num⟩
            case measure => simp [intOf]; omega
        · obtain rfl : k = 32 := by omega
          go_wp2_with (go_at_call 16; refine (implValidSketch_c _ _ _ _ _ _ hT4).mono ?_; rintro e w' ⟨rfl, rfl⟩)
          go_ret
          exact ⟨rfl, below_dN hbw3 q⟩
    · have hadd := addL_no hv
      rw [hadd] at hO2 hO2' hO3
      obtain rfl : n2 = 0 := by rw [hO2.len]; rfl
      go_wp2_with fail
      refine (specAddKey_c _ _ _ l key _ ((((hS1.below hb2).more z2).below hb3).drewN q |>.more z3)).mono ?_
      rintro e w5 ⟨A5, n5, c5, rfl, hO5, hb5⟩
      go_wp2_with fail
      rw [hadd] at hO5
      refine (equalInts_c _ _ _ _ _ _ _ _ _ _ _ (OI.below (w := w3.drewN q) hO2' hb5).si hO5.si).mono ?_
      rintro e w6 ⟨rfl, q6, rfl⟩
      go_wp2
      go_ret
      exact ⟨ret_bool (by simp), below_dN ((below_dN hbw3 q).trans (hb5.mono (by show _ ≤ w3.heap.size; have := hb1.size; omega))) q6⟩
  · go_enter Try.func6, Try.ntmps6
    go_wp2
    go_ret
    exact ⟨rfl, Below.refl _ _⟩


end Go.Proofs.Ytgnkidmljcpheaa.fnAddKey
