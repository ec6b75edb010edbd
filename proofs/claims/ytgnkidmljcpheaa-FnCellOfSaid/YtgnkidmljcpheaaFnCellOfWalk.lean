/- The walk of a law: Law FnCellOf (P2): each row has its own counters, CellOf is in the row. -/
import Derived.Test.YtgnkidmljcpheaaFrame
namespace Go.Proofs.Ytgnkidmljcpheaa.fnCellOf
open Go.RowKit

theorem cell_in (row key : Int) : cellOfL row key < 0 ∨ (0 ≤ row ∧ row ≤ 2 ∧ row * 8 ≤ cellOfL row key ∧ cellOfL row key < (row + 1) * 8) := by
  unfold cellOfL; split
  · have := cellI_bd row key; right; omega
  · left; omega

set_option maxRecDepth 100000 in
set_option maxHeartbeats 1000000 in
theorem walk (a : Option Addr) (n c : Nat) (z : List Int) (w : World) (h : Came .u8 w a n c z) :
    Calls Try.prog 4 #[.slice a n c] w (Law w) := by
  have hb := h.sb
  have hm : c ≤ 9223372036854775807 := by have := hb.2.2.1; simpa [maxLen] using this
  have hc := hb.2.1
  by_cases hn : n ≤ 1048576
  · go_enter Try.func4, Try.ntmps4
    go_wp2_with fail
    refine (drawCellOf_c _ _ _ _ w hb).mono ?_
    rintro e w1 ⟨row, key, rfl, hrow, hkey, hb1⟩
    rcases cell_in row key with hv | ⟨h0, h1, h2, h3⟩
    · go_wp2_with (first | (go_at_call 21; refine (implCellOf_c _ _ _).mono ?_; rintro e w' ⟨rfl, rfl⟩) | (go_at_call 22; refine (specCellOf_c _ _ _).mono ?_; rintro e w' ⟨rfl, rfl⟩))
      go_ret
      exact ⟨ret_bool (by simp), hb1⟩
    · have hd : decide (row * 8 ≤ cellOfL row key) = true := by simpa using h2
      have hd2 : decide (cellOfL row key < (row + 1) * 8) = true := by simpa using h3
      go_wp2_with (first | (go_at_call 21; refine (implCellOf_c _ _ _).mono ?_; rintro e w' ⟨rfl, rfl⟩) | (go_at_call 22; refine (specCellOf_c _ _ _).mono ?_; rintro e w' ⟨rfl, rfl⟩))
      go_ret
      exact ⟨ret_bool (by simp), hb1⟩
  · go_enter Try.func4, Try.ntmps4
    go_wp2
    go_ret
    exact ⟨rfl, Below.refl _ _⟩


end Go.Proofs.Ytgnkidmljcpheaa.fnCellOf
