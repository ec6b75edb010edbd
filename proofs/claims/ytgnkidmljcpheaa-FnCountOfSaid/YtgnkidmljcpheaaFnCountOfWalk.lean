/- The walk of a law: Law FnCountOf (P3): CountOf is the counter of the key in one row, and at most that in all others. -/
import Derived.Test.YtgnkidmljcpheaaFrame
namespace Go.Proofs.Ytgnkidmljcpheaa.fnCountOf
open Go.RowKit

def someB (l : List Int) (key : Int) : Nat → Bool
  | 0 => false
  | k + 1 => someB l key k || (gi l (cellN k key) == cnt l key 3)
theorem cnt_le (l : List Int) (key : Int) {k : Nat} (hk : k < 3) : cnt l key 3 ≤ gi l (cellN k key) := by
  obtain rfl | rfl | rfl : k = 0 ∨ k = 1 ∨ k = 2 := by omega
  all_goals
    simp only [cnt, mn_min]; omega
theorem cnt_nonneg {l : List Int} {key : Int} (h : vsk l = true) : 0 ≤ cnt l key 3 ∧ cnt l key 3 ≤ 15 := by
  have h0 := vsk_gi h (cellN_lt (row := 0) (key := key) (by omega))
  have h1 := vsk_gi h (cellN_lt (row := 1) (key := key) (by omega))
  have h2 := vsk_gi h (cellN_lt (row := 2) (key := key) (by omega))
  simp only [cnt, mn_min]; omega
theorem some_three {l : List Int} {key : Int} (h : vsk l = true) : someB l key 3 = true := by
  have h0 := vsk_gi h (cellN_lt (row := 0) (key := key) (by omega))
  have h1 := vsk_gi h (cellN_lt (row := 1) (key := key) (by omega))
  have h2 := vsk_gi h (cellN_lt (row := 2) (key := key) (by omega))
  simp only [someB, cnt, mn_min, Bool.or_eq_true, Bool.false_or, beq_iff_eq]; omega

set_option maxRecDepth 100000 in
set_option maxHeartbeats 1000000 in
theorem walk (a : Option Addr) (n c : Nat) (z : List Int) (w : World) (h : Came .u8 w a n c z) :
    Calls Try.prog 5 #[.slice a n c] w (Law w) := by
  have hb := h.sb
  have hm : c ≤ 9223372036854775807 := by have := hb.2.2.1; simpa [maxLen] using this
  have hc := hb.2.1
  by_cases hn : n ≤ 1048576
  · go_enter Try.func5, Try.ntmps5
    go_wp2_with fail
    refine (drawCountOf_c _ _ _ _ w hb).mono ?_
    rintro e w1 ⟨A1, n1, c1, l, key, rfl, hO1, hn1, hbd, hkey, hb1⟩
    have hc1 := hO1.le
    have hmx1 := hO1.si.max
    have hS1 := hO1.si
    by_cases hv : vsk l = true ∧ inR 0 31 key = true
    · obtain ⟨hv, hk⟩ := hv
      have hk' := inR_true.1 hk
      obtain rfl : n1 = 24 := by rw [hO1.len, vsk_len hv]
      have he : countL l key = cnt l key 3 := by simp [countL, hv, hk]
      have hnn := cnt_nonneg (key := key) hv
      go_wp2_with (first | (go_at_call 19; refine (implCountOf_c _ _ _ _ _ _ _ hS1).mono ?_; rintro e w' ⟨rfl, rfl⟩) | (go_at_call 24; refine (specCountOf_c _ _ _ _ _ _ _ hS1).mono ?_; rintro e w' ⟨rfl, rfl⟩))
      go_loop [6, 7] (fun s r => ∃ k : Nat, k ≤ 3 ∧ r = .int .i64 k ∧ s = .bool (someB l key k)) (fun _ r => 3 - (intOf r).toNat)
      case atStart => exact ⟨0, by omega, rfl, rfl⟩
      case round =>
        obtain ⟨k, hk3, rfl, rfl⟩ := hrel
        by_cases hlt : k < 3
        · have hcl := cellN_lt (key := key) hlt
          obtain ⟨b, o, rfl, hbB, hcell⟩ := hS1.at_ (k := cellN k key) (by omega)
          have hbd := cellI_bd k key
          have HC : w1.cell? ⟨b, o + (cellI k key).toNat, none⟩ = some (.int .i64 (gi l (cellN k key))) := hcell
          have he2 : cellOfL k key = cellI k key := by rw [cellOfL, if_pos (by omega)]
          have hle := cnt_le l key hlt
          have hd1 : decide (cellI k key < 0) = false := by simp; omega
          have hd2 : decide (24 ≤ cellI k key) = false := by simp; omega
          rcases Bool.eq_false_or_eq_true (someB l key k) with hs | hs
          all_goals
            go_wp2_with (go_at_call 21; refine (implCellOf_c _ _ _).mono ?_; rintro e w' ⟨rfl, rfl⟩)
            go_round
            case rel => exact ⟨k + 1, by omega, by go_num, by simp [someB, hs]⟩
            case measure => simp [intOf]; omega
        · obtain rfl : k = 3 := by omega
          go_wp2
          go_ret
          exact ⟨ret_bool (some_three hv), hb1⟩
    · have he : countL l key = -1 := by
        unfold countL; split
        · rename_i h'; rw [Bool.and_eq_true] at h'; exact absurd h' hv
        · rfl
      clear hv
      go_wp2_with (first | (go_at_call 19; refine (implCountOf_c _ _ _ _ _ _ _ hS1).mono ?_; rintro e w' ⟨rfl, rfl⟩) | (go_at_call 24; refine (specCountOf_c _ _ _ _ _ _ _ hS1).mono ?_; rintro e w' ⟨rfl, rfl⟩))
      go_ret
      exact ⟨rfl, hb1⟩
  · go_enter Try.func5, Try.ntmps5
    go_wp2
    go_ret
    exact ⟨rfl, Below.refl _ _⟩


end Go.Proofs.Ytgnkidmljcpheaa.fnCountOf
