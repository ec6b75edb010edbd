/- The walk of a law: Law FnCountOfEmpty (P3): in an empty sketch CountOf is 0, behind one AddKey 1. -/
import Derived.Test.YtgnkidmljcpheabSkP
import Derived.Test.YtgnkidmljcpheabFrame
namespace Go.Proofs.Ytgnkidmljcpheab.fnCountOfEmpty
open Go.RowKit

theorem gi_empty {i : Nat} (h : i < 24) : gi emptyL i = 0 := by
  simp only [gi, emptyL, List.getD]; rw [List.getElem?_replicate, if_pos h]; rfl
theorem cnt_empty (key : Int) : cnt emptyL key 3 = 0 := by
  rw [cnt_eq, gi_empty (cellN_lt (by omega)), gi_empty (cellN_lt (by omega)), gi_empty (cellN_lt (by omega))]
  first | rfl | decide | omega
theorem cnt_one (key : Int) : cnt (addN emptyL key 3) key 3 = 1 := by
  rw [(cnt_add (key := key) emptyL_vsk key).2.2 rfl, cnt_empty]
  rfl

set_option maxRecDepth 100000 in
set_option maxHeartbeats 1000000 in
theorem walk (a : Option Addr) (n c : Nat) (z : List Int) (w : World) (h : Came .u8 w a n c z) :
    Calls Try.prog 11 #[.slice a n c] w (Law w) := by
  have hb := h.sb
  have hm : c ≤ 9223372036854775807 := by have := hb.2.2.1; simpa [maxLen] using this
  have hc := hb.2.1
  by_cases hn : n ≤ 1048576
  · go_enter Try.func11, Try.ntmps11
    go_wp2_with fail
    refine (drawCountOf_c _ _ _ _ w hb).mono ?_
    rintro e w1 ⟨A1, n1, c1, l, key, rfl, hO1, hn1, hbd, hkey, hb1⟩
    have z1 := hb1.size
    have hc1 := hO1.le
    have hmx1 := hO1.si.max
    have hS1 := hO1.si
    by_cases hv : vsk l = true ∧ inR 0 31 key = true
    · obtain ⟨hv, hk⟩ := hv
      have hk' := inR_true.1 hk
      have he : countL l key = cnt l key 3 := by simp [countL, hv, hk]
      have hnn := cnt_bd key hv
      have f1 : countL emptyL key = 0 := by rw [countL_yes emptyL_vsk hk', cnt_empty]
      have f2 : countL (addN emptyL key 3) key = 1 := by rw [countL_yes (addN_vsk emptyL_vsk 3) hk', cnt_one]
      have f3 := addL_yes (key := key) emptyL_vsk hk'
      go_wp2_with (first | (go_at_call 35; refine (by first | (with_reducible exact implCountOf_c _ _ _ _ _ _ _ hS1) | (with_reducible exact implCountOf_c _ _ _ _ _ _ _ hOS) | (with_reducible exact implCountOf_c _ _ _ _ _ _ _ hOT) : Calls _ _ _ _ _).mono ?_; rintro e w' ⟨rfl, rfl⟩) | (go_at_call 36; refine (specCountOf_c _ _ _ _ _ _ _ hS1).mono ?_; rintro e w' ⟨rfl, rfl⟩) | (go_at_call 37; refine (implEmpty_c w1).mono ?_; rintro e w2 ⟨A2, n2, c2, rfl, hO2, hb2⟩; have hOS := hO2.si) | (go_at_call 38; refine (implAddKey_c _ _ _ emptyL key w2 hOS).mono ?_; rintro e w3 ⟨A3, n3, c3, rfl, hO3, hb3⟩; rw [f3] at hO3; have hOT := hO3.si))
      go_ret
      exact ⟨rfl, (hb1.trans (hb2.mono z1)).trans (hb3.mono (Nat.le_trans z1 hb2.size))⟩
    · have he : countL l key = -1 := by
        unfold countL; split
        · rename_i h'; rw [Bool.and_eq_true] at h'; exact absurd h' hv
        · rfl
      clear hv
      go_wp2_with (first | (go_at_call 35; refine (implCountOf_c _ _ _ _ _ _ _ hS1).mono ?_; rintro e w' ⟨rfl, rfl⟩) | (go_at_call 36; refine (specCountOf_c _ _ _ _ _ _ _ hS1).mono ?_; rintro e w' ⟨rfl, rfl⟩))
      go_ret
      exact ⟨rfl, hb1⟩
  · go_enter Try.func11, Try.ntmps11
    go_wp2
    go_ret
    exact ⟨rfl, Below.refl _ _⟩


end Go.Proofs.Ytgnkidmljcpheab.fnCountOfEmpty
