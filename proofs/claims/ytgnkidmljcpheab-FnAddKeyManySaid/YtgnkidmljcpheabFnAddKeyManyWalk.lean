/- The walk of a law: Law FnAddKeyMany (P5): behind many AddKey the key's count is MaxCounter. -/
import Derived.Test.YtgnkidmljcpheabSkP
import Derived.Test.YtgnkidmljcpheabFrame
namespace Go.Proofs.Ytgnkidmljcpheab.fnAddKeyMany
open Go.RowKit

def rep (l : List Int) (key : Int) : Nat → List Int
  | 0 => addN l key 3
  | k + 1 => addN (rep l key k) key 3
theorem rep_vsk {l : List Int} (key : Int) (h : vsk l = true) : ∀ k, vsk (rep l key k) = true
  | 0 => addN_vsk h 3
  | k + 1 => addN_vsk (rep_vsk key h k) 3
theorem rep_cnt {l : List Int} (key : Int) (h : vsk l = true) : ∀ k : Nat, mn ((k : Int) + 1) 15 ≤ cnt (rep l key k) key 3
  | 0 => by
    have h1 := (cnt_add (key := key) h key).2.2 rfl
    have h2 := cnt_bd key h
    simp only [rep]; rw [h1]; simp only [mn_min]; omega
  | k + 1 => by
    have ih := rep_cnt key h k
    have h1 := (cnt_add (key := key) (rep_vsk key h k) key).2.2 rfl
    have h2 := cnt_bd key (rep_vsk key h k)
    simp only [rep]; rw [h1]; simp only [mn_min] at ih ⊢; omega
theorem rep_20 {l : List Int} {key : Int} (h : vsk l = true) : cnt (rep l key 20) key 3 = 15 := by
  have h1 := rep_cnt key h 20
  have h2 := cnt_bd key (rep_vsk key h 20)
  simp only [mn_min] at h1; omega

set_option maxRecDepth 100000 in
set_option maxHeartbeats 1000000 in
theorem walk (a : Option Addr) (n c : Nat) (z : List Int) (w : World) (h : Came .u8 w a n c z) :
    Calls Try.prog 12 #[.slice a n c] w (Law w) := by
  have hb := h.sb
  have hm : c ≤ 9223372036854775807 := by have := hb.2.2.1; simpa [maxLen] using this
  have hc := hb.2.1
  by_cases hn : n ≤ 1048576
  · go_enter Try.func12, Try.ntmps12
    go_wp2_with fail
    refine (drawAddKey_c _ _ _ _ w hb).mono ?_
    rintro e w1 ⟨A1, n1, c1, l, key, rfl, hO1, hn1, hbd, hkey, hb1⟩
    have z1 := hb1.size
    have hc1 := hO1.le
    have hmx1 := hO1.si.max
    have hS1 := hO1.si
    go_wp2_with fail
    refine (implAddKey_c _ _ _ l key w1 hS1).mono ?_
    rintro e w2 ⟨A2, n2, c2, rfl, hO2, hb2⟩
    have z2 := hb2.size
    go_wp2_with fail
    refine (specAddKey_c _ _ _ l key w2 ((hS1.below hb2).more z2)).mono ?_
    rintro e w3 ⟨A3, n3, c3, rfl, hO3, hb3⟩
    have z3 := hb3.size
    have hO2' := hO2.below hb3
    have hbw3 : Below w.heap.size w w3 := (hb1.trans (hb2.mono z1)).trans (hb3.mono (by omega))
    go_wp2_with fail
    refine (equalInts_c _ _ _ _ _ _ _ _ _ _ _ hO2'.si hO3.si).mono ?_
    rintro e w4 ⟨rfl, q, rfl⟩
    have hE := eqL_self (addL l key)
    by_cases hv : vsk l = true ∧ inR 0 31 key = true
    · obtain ⟨hv, hk⟩ := hv
      have hk' := inR_true.1 hk
      have hadd := addL_yes hv hk'
      rw [hadd] at hO2 hO2'
      have hv2 := addN_vsk (key := key) hv 3
      obtain rfl : n2 = 24 := by rw [hO2.len, vsk_len hv2]
      have HA := Lib.hid hadd
      clear hadd
      have hT4 := hO2'.drewN q
      go_wp2
      go_loopw [5, 6] (fun v i wr => ∃ (k : Nat) (A : Option Addr) (c : Nat), k ≤ 20 ∧ i = .int .i64 k ∧ v = .slice A 24 c ∧ OI wr w1.heap.size A 24 c (rep l key k) ∧ Below w3.heap.size (w3.drewN q) wr) (fun _ i _ => 20 - (intOf i).toNat)
      case atStart => exact ⟨0, _, _, by omega, rfl, rfl, hT4, Below.refl _ _⟩
      case round =>
        obtain ⟨k, A, c', hk2, rfl, rfl, hO, hbr⟩ := hrel
        have hsz : w3.heap.size ≤ wr.heap.size := hbr.size
        have hvr := rep_vsk key hv k
        by_cases hlt : k < 20
        · go_wp2_with fail
          refine (implAddKey_c _ _ _ (rep l key k) key wr hO.si).mono ?_
          rintro e w5 ⟨A5, n5, c5, rfl, hO5, hb5⟩
          rw [addL_yes hvr hk'] at hO5
          obtain rfl : n5 = 24 := by rw [hO5.len]; exact vsk_len (rep_vsk key hv (k + 1))
          go_wp2
          go_roundw
          case rel => exact ⟨k + 1, A5, c5, by omega, by go_num, rfl, OI.less hO5 (by omega), hbr.trans (hb5.mono hsz)⟩
          case measure => simp [intOf]; omega
        · obtain rfl : k = 20 := by omega
          have hOs := hO.si
          have f1 : countL (rep l key 20) key = 15 := by rw [countL_yes hvr hk', rep_20 hv]
          go_wp2_with (first | (go_at_call 35; refine (implCountOf_c _ _ _ _ _ _ _ hOs).mono ?_; rintro e w' ⟨rfl, rfl⟩) | (go_at_call 41; refine (implValidSketch_c _ _ _ _ _ _ hOs).mono ?_; rintro e w' ⟨rfl, rfl⟩))
          go_ret
          exact ⟨rfl, (below_dN hbw3 q).trans (hbr.mono (by omega))⟩
    · have hadd := addL_no hv
      rw [hadd] at hO2 hO2' hO3
      obtain rfl : n2 = 0 := by rw [hO2.len]; rfl
      clear hv
      go_wp2_with fail
      refine (specAddKey_c _ _ _ l key (w3.drewN q) ((((hS1.below hb2).more z2).below hb3).drewN q |>.more z3)).mono ?_
      rintro e w5 ⟨A5, n5, c5, rfl, hO5, hb5⟩
      go_wp2_with fail
      rw [hadd] at hO5
      refine (equalInts_c _ _ _ _ _ _ _ _ _ _ _ (OI.below (w := w3.drewN q) hO2' hb5).si hO5.si).mono ?_
      rintro e w6 ⟨rfl, q6, rfl⟩
      go_wp2
      go_ret
      exact ⟨ret_bool (by simp), below_dN ((below_dN hbw3 q).trans (hb5.mono (by show _ ≤ w3.heap.size; omega))) q6⟩
  · go_enter Try.func12, Try.ntmps12
    go_wp2
    go_ret
    exact ⟨rfl, Below.refl _ _⟩


end Go.Proofs.Ytgnkidmljcpheab.fnAddKeyMany
