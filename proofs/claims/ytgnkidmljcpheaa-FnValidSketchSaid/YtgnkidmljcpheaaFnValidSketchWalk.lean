/- The walk of a law: Law FnValidSketch (P1): empty sketches are valid, and a sketch without one of its counters is not. -/
import Derived.Test.YtgnkidmljcpheaaFrame
namespace Go.Proofs.Ytgnkidmljcpheaa.fnValidSketch
open Go.RowKit

theorem walk (a : Option Addr) (n c : Nat) (z : List Int) (w : World) (h : Came .u8 w a n c z) :
    Calls Try.prog 3 #[.slice a n c] w (Law w) := by
  have hb := h.sb
  have hm : c ≤ 9223372036854775807 := by have := hb.2.2.1; simpa [maxLen] using this
  have hc := hb.2.1
  by_cases hn : n ≤ 1048576
  · go_enter Try.func3, Try.ntmps3
    go_wp2_with fail
    refine (drawValidSketch_c _ _ _ _ w hb).mono ?_
    rintro e w1 ⟨A1, n1, c1, l, rfl, hO1, hn1, hbd, hb1⟩
    have hc1 := hO1.le
    have hmx1 := hO1.si.max
    go_wp2_with fail
    refine (implValidSketch_c _ _ _ l _ _ hO1.si).mono ?_
    rintro e w' ⟨rfl, rfl⟩
    go_wp2_with fail
    refine (specValidSketch_c _ _ _ l _ _ hO1.si).mono ?_
    rintro e w' ⟨rfl, rfl⟩
    go_wp2_with fail
    refine (implEmpty_c w1).mono ?_
    rintro e w2 ⟨A2, n2, c2, rfl, hO2, hb2⟩
    have hE := emptyL_vsk
    have hE3 : countL emptyL 3 = 0 := by decide
    have hb12 : Below w.heap.size w w2 := hb1.trans (hb2.mono hb1.size)
    have hS2 := hO1.si.below hb2
    rcases Bool.eq_false_or_eq_true (vsk l) with hv | hv
    · obtain rfl : n1 = 24 := by rw [hO1.len, vsk_len hv]
      obtain ⟨b, o, rfl, hbB, -, -⟩ := hO1.at_ (k := 0) (by omega)
      have hcut := hS2.cut (i := 1) (j := 24) (A' := some ⟨b, o + 1, none⟩) (by omega) (Nat.le_refl _) (fun h => by omega) (fun _ => by simp [Addr.add])
      have hvt : vsk ((l.drop 1).take (24 - 1)) = false := by simp [vsk]; intro h'; omega
      generalize (l.drop 1).take (24 - 1) = t at hcut hvt
      go_wp2_with (first | (go_at_call 16; refine (by first | exact implValidSketch_c _ _ _ _ _ _ hO2.si | exact implValidSketch_c _ _ _ _ _ _ hcut : Calls _ _ _ _ _).mono ?_; rintro e w' ⟨rfl, rfl⟩) | (go_at_call 19; refine (implCountOf_c _ _ _ _ _ _ _ hO2.si).mono ?_; rintro e w' ⟨rfl, rfl⟩))
      go_ret
      exact ⟨rfl, hb12⟩
    · go_wp2_with (first | (go_at_call 16; refine (implValidSketch_c _ _ _ _ _ _ hO2.si).mono ?_; rintro e w' ⟨rfl, rfl⟩) | (go_at_call 19; refine (implCountOf_c _ _ _ _ _ _ _ hO2.si).mono ?_; rintro e w' ⟨rfl, rfl⟩))
      go_ret
      exact ⟨rfl, hb12⟩
  · go_enter Try.func3, Try.ntmps3
    go_wp2
    go_ret
    exact ⟨rfl, Below.refl _ _⟩

end Go.Proofs.Ytgnkidmljcpheaa.fnValidSketch
