/- The walk of a law: Law FnCellOfSpread (P2): the rows don't spread all keys the same way. -/
import Derived.Test.YtgnkidmljcpheabFrame
namespace Go.Proofs.Ytgnkidmljcpheab.fnCellOfSpread
open Go.RowKit

def spB : Nat → Bool
  | 0 => false
  | k + 1 => spB k || (cellOfL 0 (k : Int) != cellOfL 1 (k : Int) - 8)
theorem spB_all : spB 32 = true := by decide
theorem col_bd (row key : Int) : cellOfL row key = -1 ∨ (row * 8 ≤ cellOfL row key ∧ cellOfL row key ≤ row * 8 + 7) := by
  unfold cellOfL; split
  · exact .inr (cellI_bd row key)
  · exact .inl rfl

set_option maxRecDepth 100000 in
set_option maxHeartbeats 1000000 in
theorem walk (a : Option Addr) (n c : Nat) (z : List Int) (w : World) (h : Came .u8 w a n c z) :
    Calls Try.prog 10 #[.slice a n c] w (Law w) := by
  have hb := h.sb
  have hm : c ≤ 9223372036854775807 := by have := hb.2.2.1; simpa [maxLen] using this
  have hc := hb.2.1
  by_cases hn : n ≤ 1048576
  · go_enter Try.func10, Try.ntmps10
    go_wp2_with fail
    refine (drawCellOf_c _ _ _ _ w hb).mono ?_
    rintro e w1 ⟨row, key, rfl, hrow, hkey, hb1⟩
    rcases Bool.eq_false_or_eq_true (decide (cellOfL row key < 0)) with hv | hv
    · go_wp2_with (first | (go_at_call 32; refine (implCellOf_c _ _ _).mono ?_; rintro e w' ⟨rfl, rfl⟩) | (go_at_call 33; refine (specCellOf_c _ _ _).mono ?_; rintro e w' ⟨rfl, rfl⟩))
      go_ret
      exact ⟨ret_bool (by simp), hb1⟩
    · have hne : (cellOfL row key != cellOfL row key) = false := by simp
      go_wp2_with (first | (go_at_call 32; refine (implCellOf_c _ _ _).mono ?_; rintro e w' ⟨rfl, rfl⟩) | (go_at_call 33; refine (specCellOf_c _ _ _).mono ?_; rintro e w' ⟨rfl, rfl⟩))
      go_loop [6, 7] (fun s i => ∃ k : Nat, k ≤ 32 ∧ i = .int .i64 k ∧ s = .bool (spB k)) (fun _ i => 32 - (intOf i).toNat)
      case atStart => exact ⟨0, by omega, rfl, rfl⟩
      case round =>
        obtain ⟨k, hk2, rfl, rfl⟩ := hrel
        by_cases hlt : k < 32
        · have hle : (k : Int) ≤ 31 := by omega
          have c0 := col_bd 0 (k : Int)
          have c1 := col_bd 1 (k : Int)
          rcases Bool.eq_false_or_eq_true (spB k) with hs | hs
          all_goals
            go_wp2_with (go_at_call 32; refine (implCellOf_c _ _ _).mono ?_; rintro e w' ⟨rfl, rfl⟩)
            go_round
            case rel => exact ⟨k + 1, by omega, by go_num, by simp [spB, hs]⟩
            case measure => simp [intOf]; omega
        · obtain rfl : k = 32 := by omega
          have hsp := spB_all
          go_wp2
          go_ret
          exact ⟨rfl, hb1⟩
  · go_enter Try.func10, Try.ntmps10
    go_wp2
    go_ret
    exact ⟨rfl, Below.refl _ _⟩


end Go.Proofs.Ytgnkidmljcpheab.fnCellOfSpread
