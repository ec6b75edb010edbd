/- The walk of a law: Law FnAddKeyTrace (P6): CountOf each key behind AddKey of all keys of a trace is at least as often as it is there, up to MaxCounter. -/
import Derived.Test.YtgnkidmljcpheaaSkP
import Derived.Test.YtgnkidmljcpheaaRc
import Derived.Test.YtgnkidmljcpheaaFrame
namespace Go.Proofs.Ytgnkidmljcpheaa.fnAddKeyTrace
open Go.RowKit

def trS (t : List Int) (k : Nat) : List Int := (t.take k).foldl (fun s x => addN s x 3) emptyL
theorem trS_zero (t : List Int) : trS t 0 = emptyL := by simp [trS]
theorem trS_succ {t : List Int} {k : Nat} (h : k < t.length) : trS t (k + 1) = addN (trS t k) (gi t k) 3 := by
  unfold trS; rw [take_succ_gi h, List.foldl_append]; rfl
theorem trS_vsk (t : List Int) : ∀ k, k ≤ t.length → vsk (trS t k) = true
  | 0, _ => by rw [trS_zero]; exact emptyL_vsk
  | k + 1, h => by rw [trS_succ (by omega)]; exact addN_vsk (trS_vsk t k (by omega)) 3
theorem gi_empty {i : Nat} (h : i < 24) : gi emptyL i = 0 := by
  simp only [gi, emptyL, List.getD]; rw [List.getElem?_replicate, if_pos h]; rfl
theorem trS_cnt (t : List Int) (key : Int) : ∀ k, k ≤ t.length → mn (((t.take k).count key : Nat) : Int) 15 ≤ cnt (trS t k) key 3 ∧ cnt (trS t k) key 3 ≤ (k : Int)
  | 0, _ => by
    rw [trS_zero, cnt_eq, gi_empty (cellN_lt (by omega)), gi_empty (cellN_lt (by omega)), gi_empty (cellN_lt (by omega))]
    simp only [mn_min, List.take_zero, List.count_nil]; omega
  | k + 1, h => by
    have ih := trS_cnt t key k (by omega)
    have ha := cnt_add (key := gi t k) (trS_vsk t k (by omega)) key
    have hb := cnt_bd key (trS_vsk t k (by omega))
    rw [trS_succ (by omega)]
    have hc : (t.take (k + 1)).count key = (t.take k).count key + (if gi t k = key then 1 else 0) := by
      rw [take_succ_gi (by omega), List.count_append, List.count_singleton]; simp [beq_iff_eq]
    rw [hc]
    by_cases e : gi t k = key
    · rw [if_pos e]
      have h3 := ha.2.2 e.symm
      simp only [mn_min] at ih h3 ⊢
      omega
    · rw [if_neg e]
      simp only [mn_min] at ih ⊢
      omega

set_option maxRecDepth 100000 in
set_option maxHeartbeats 1000000 in
theorem walk (a : Option Addr) (n c : Nat) (z : List Int) (w : World) (h : Came .u8 w a n c z) :
    Calls Try.prog 8 #[.slice a n c] w (Law w) := by
  have hb := h.sb
  have hm : c ≤ 9223372036854775807 := by have := hb.2.2.1; simpa [maxLen] using this
  have hc := hb.2.1
  by_cases hn : n ≤ 1048576
  · go_enter Try.func8, Try.ntmps8
    go_wp2_with fail
    refine (drawValidTrace_c _ _ _ _ w hb).mono ?_
    rintro e w1 ⟨A1, n1, c1, l, rfl, hO1, hn1, hbd, hb1⟩
    have z1 := hb1.size
    have hc1 := hO1.le
    have hmx1 := hO1.si.max
    have hS1 := hO1.si
    rcases Bool.eq_false_or_eq_true (vtr l) with hv | hv
    · go_wp2_with (first | (go_at_call 30; refine (implValidTrace_c _ _ _ l _ _ hS1).mono ?_; rintro e w' ⟨rfl, rfl⟩) | (go_at_call 31; refine (specValidTrace_c _ _ _ l _ _ hS1).mono ?_; rintro e w' ⟨rfl, rfl⟩) | (go_at_call 18; refine (implEmpty_c w1).mono ?_; rintro e w2 ⟨A2, n2, c2, rfl, hO2, hb2⟩))
      have z2 := hb2.size
      have hlen := Lib.hid hS1.len
      obtain rfl : n2 = 24 := by rw [hO2.len]; rfl
      have hS2 := hS1.below hb2
      have hbw2 : Below w.heap.size w w2 := hb1.trans (hb2.mono z1)
      go_loopw [5, 6] (fun v i wr => ∃ (k : Nat) (A : Option Addr) (c : Nat), k ≤ n1 ∧ i = .int .i64 k ∧ v = .slice A 24 c ∧ OI wr w1.heap.size A 24 c (trS l k) ∧ Below w1.heap.size w1 wr) (fun _ i _ => n1 - (intOf i).toNat)
      case atStart => exact ⟨0, A2, c2, Nat.zero_le _, rfl, rfl, by rw [trS_zero]; exact hO2, hb2⟩
      case round =>
        obtain ⟨k, A, c', hk, rfl, rfl, hO, hbr⟩ := hrel
        have hsz := hbr.size
        have hSr := hS1.below hbr
        by_cases hlt : k < n1
        · obtain ⟨b, o, rfl, hbB, hcell⟩ := hSr.at_ hlt
          have hkl : k < l.length := by rw [← hlen.out]; exact hlt
          have hkey := allR_gi (vtr_all hv) hkl
          have hvk := trS_vsk l k (by omega)
          go_wp2_with fail
          refine (implAddKey_c _ _ _ (trS l k) (gi l k) wr hO.si).mono ?_
          rintro e w3 ⟨A3, n3, c3, rfl, hO3, hb3⟩
          rw [addL_yes hvk hkey, ← trS_succ hkl] at hO3
          obtain rfl : n3 = 24 := by rw [hO3.len, vsk_len (trS_vsk l (k + 1) (by omega))]
          go_wp2
          go_roundw
          case rel => exact ⟨k + 1, A3, c3, by omega, by go_num, rfl, hO3.less hsz, hbr.trans (hb3.mono hsz)⟩
          case measure => simp [intOf]; omega
        · obtain rfl : k = n1 := by omega
          have hvn := trS_vsk l k (by rw [hlen.out]; exact Nat.le_refl _)
          have hbwr : Below w.heap.size w wr := hb1.trans (hbr.mono z1)
          have hOs := hO.si
          go_wp2
          go_loop [7] (fun i => ∃ j : Nat, j ≤ 32 ∧ i = .int .i64 j) (fun i => 32 - (intOf i).toNat)
          case atStart => exact ⟨0, by omega, rfl⟩
          case round =>
            obtain ⟨j, hj, rfl⟩ := hrel
            by_cases hjt : j < 32
            · have hcl := countL_yes (key := (j : Int)) hvn (by omega)
              obtain ⟨g1, g2⟩ := trS_cnt l (j : Int) k (by rw [hlen.out]; exact Nat.le_refl _)
              rw [List.take_of_length_le (by rw [hlen.out]; exact Nat.le_refl _)] at g1
              generalize cnt (trS l k) (j : Int) 3 = x at *
              generalize hcc : l.count (j : Int) = m at *
              have HCC := Lib.hid hcc
              clear hcc
              rw [mn_min] at g1
              by_cases h15 : 15 < m
              · have d1 : 15 ≤ x := by omega
                clear g1
                go_wp2_with (first | (go_at_call 19; refine (implCountOf_c _ _ _ _ _ _ _ hOs).mono ?_; rintro e w' ⟨rfl, rfl⟩) | (go_at_call 32; refine (howOften_c _ _ _ l _ _ _ hSr).mono ?_; rintro e w' ⟨rfl, rfl⟩; rw [HCC.out]))
                go_round
                case rel => exact ⟨j + 1, by omega, by go_num⟩
                case measure => simp [intOf]; omega
              · have d1 : (m : Int) ≤ x := by omega
                clear g1
                go_wp2_with (first | (go_at_call 19; refine (implCountOf_c _ _ _ _ _ _ _ hOs).mono ?_; rintro e w' ⟨rfl, rfl⟩) | (go_at_call 32; refine (howOften_c _ _ _ l _ _ _ hSr).mono ?_; rintro e w' ⟨rfl, rfl⟩; rw [HCC.out]))
                go_round
                case rel => exact ⟨j + 1, by omega, by go_num⟩
                case measure => simp [intOf]; omega
            · obtain rfl : j = 32 := by omega
              go_wp2
              go_ret
              exact ⟨rfl, hbwr⟩
    · go_wp2_with (first | (go_at_call 30; refine (implValidTrace_c _ _ _ l _ _ hS1).mono ?_; rintro e w' ⟨rfl, rfl⟩) | (go_at_call 31; refine (specValidTrace_c _ _ _ l _ _ hS1).mono ?_; rintro e w' ⟨rfl, rfl⟩))
      go_ret
      exact ⟨rfl, hb1⟩
  · go_enter Try.func8, Try.ntmps8
    go_wp2
    go_ret
    exact ⟨rfl, Below.refl _ _⟩


end Go.Proofs.Ytgnkidmljcpheaa.fnAddKeyTrace
