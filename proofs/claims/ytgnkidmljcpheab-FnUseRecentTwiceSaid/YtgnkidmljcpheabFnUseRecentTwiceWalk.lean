/- The walk of a law: Law FnUseRecentTwice: UseRecent a second time changes nothing and is a hit. -/
import Derived.Test.YtgnkidmljcpheabRcB
import Derived.Test.YtgnkidmljcpheabDrawD
import Derived.Test.YtgnkidmljcpheabFrame
namespace Go.Proofs.Ytgnkidmljcpheab.fnUseRecentTwice
open Go.RowKit

theorem recL_vks {l : List Int} {rm : Nat} {key : Int} (hv : vks l (rm : Int) = true) (hk : inR 0 31 key = true) : vks (recL l rm key) (rm : Int) = true := by
  obtain ⟨⟨r1, r2⟩, _, r4, r5⟩ := vks_iff.1 hv
  refine vks_yes r1 r2 ?_ (recL_all r4 hk) (decide_eq_true (recL_nodup rm key (of_decide_eq_true r5)))
  have := recL_len l rm key
  omega
theorem recL_has {l : List Int} {rm : Nat} {key : Int} (h : 1 ≤ rm) : key ∈ recL l rm key := by
  obtain ⟨s, rfl⟩ : ∃ s, rm = s + 1 := ⟨rm - 1, by omega⟩
  simp [recL]
theorem recL_idem {l : List Int} {rm : Nat} {key : Int} (hd : l.Nodup) (h : 1 ≤ rm) : recL (recL l rm key) rm key = recL l rm key := by
  rw [recL_hit (recL_nodup rm key hd) (recL_has h) (recL_len l rm key)]
  obtain ⟨s, rfl⟩ : ∃ s, rm = s + 1 := ⟨rm - 1, by omega⟩
  simp only [recL, List.take_succ_cons]
  congr 1
  rw [List.filter_cons_of_neg (by simp [nk]), List.filter_eq_self]
  intro x hx
  exact (List.mem_filter.1 (List.mem_of_mem_take hx)).2
theorem recL_size {l : List Int} {rm : Nat} {key : Int} (hd : l.Nodup) : ((recL l rm key).length : Int) = (if (l.length : Int) + 1 - ((l.count key : Nat) : Int) < (rm : Int) then (l.length : Int) + 1 - ((l.count key : Nat) : Int) else (rm : Int)) ∧ l.count key ≤ l.length := by
  have h1 : (recL l rm key).length = min rm ((l.filter (nk key)).length + 1) := by simp [recL]
  have h2 : (l.filter (nk key)).length + l.count key = l.length := by
    by_cases hm : key ∈ l
    · rw [hd.count, if_pos hm]; exact filter_len hd hm
    · rw [filter_miss hm, hd.count, if_neg hm]; rfl
  refine ⟨?_, by omega⟩
  rw [h1]
  split <;> omega

set_option maxRecDepth 100000 in
set_option maxHeartbeats 1000000 in
theorem walk (a : Option Addr) (n c : Nat) (z : List Int) (w : World) (h : Came .u8 w a n c z) :
    Calls Try.prog 3 #[.slice a n c] w (Law w) := by
  have hb := h.sb
  have hm : c ≤ 9223372036854775807 := by have := hb.2.2.1; simpa [maxLen] using this
  have hc := hb.2.1
  by_cases hn : n ≤ 1048576
  · go_enter Try.func3, Try.ntmps3
    go_wp2_with fail
    refine (drawUseRecent_c _ _ _ _ w hb).mono ?_
    rintro e w1 ⟨A1, n1, c1, l, room, key, rfl, hO1, hn1, hbd, hroom, hkey, hb1⟩
    have z1 := hb1.size
    have hc1 := hO1.le
    have hmx1 := hO1.si.max
    have hS1 := hO1.si
    go_wp2_with fail
    refine (implUseRecent_c _ _ _ l room key w1 hS1).mono ?_
    rintro e w2 ⟨A2, n2, c2, rfl, hO2, hb2⟩
    have z2 := hb2.size
    go_wp2_with fail
    refine (specUseRecent_c _ _ _ l room key w2 ((hS1.below hb2).more z2)).mono ?_
    rintro e w3 ⟨A3, n3, c3, rfl, hO3, hb3⟩
    have z3 := hb3.size
    have hO2' := hO2.below hb3
    have hbw3 : Below w.heap.size w w3 := (hb1.trans (hb2.mono z1)).trans (hb3.mono (by omega))
    go_wp2_with fail
    refine (equalInts_c _ _ _ _ _ _ _ _ _ _ _ hO2'.si hO3.si).mono ?_
    rintro e w4 ⟨rfl, q, rfl⟩
    have hE := eqL_self (useRL l room key)
    have hBB : ∀ b : Bool, (b == b) = true ∧ (b != b) = false := by intro b; cases b <;> simp
    have hB1 := (hBB (useRB l room key)).1
    have hB2 := (hBB (useRB l room key)).2
    clear hBB
    rcases Bool.eq_false_or_eq_true (vks l room) with hv | hv
    · rcases Bool.eq_false_or_eq_true (inR 0 31 key) with hk | hk
      · obtain ⟨e1, e2⟩ := useR_yes hv hk
        obtain ⟨⟨r1, r2⟩, r3, r4, r5⟩ := vks_iff.1 hv
        obtain ⟨rm, rfl⟩ := Int.eq_ofNat_of_zero_le (show 0 ≤ room by omega)
        rw [Int.toNat_natCast] at e1
        have hvr := recL_vks hv hk
        have hl2 := hO2.len
        have hS4 := (((hS1.below hb2).more z2).below hb3).drewN q
        have hT4 := hO2'.drewN q
        rw [e1] at hT4 hl2
        rw [e2] at hB1 hB2
        have hlen := Lib.hid hS1.len
        have hj0 : ((n2 : Int) == 0) = false := by have := recL_has (l := l) (rm := rm) (key := key) (by omega); have := List.length_pos_of_mem this; simp; omega
        obtain ⟨hsz, hcl⟩ := recL_size (rm := rm) (key := key) (of_decide_eq_true r5)
        rw [← hl2, ← hlen.out] at hsz
        rw [← hlen.out] at hcl
        have hn8 : n1 ≤ 8 := by rw [← hlen.out] at r3; omega
        have HE := Lib.hid e1
        have HL := Lib.hid hl2
        have hd := of_decide_eq_true r5
        have g1 : useRL (recL l rm key) (rm : Int) key = recL l rm key := by rw [(useR_yes hvr hk).1, Int.toNat_natCast, recL_idem hd (by omega)]
        have g2 : useRB (recL l rm key) (rm : Int) key = true := by rw [(useR_yes hvr hk).2]; exact decide_eq_true (recL_has (by omega))
        have HSZ := Lib.hid hsz
        clear e1 hl2 r3 r5 hsz
        go_wp2_with fail
        refine (implUseRecent_c _ _ _ (recL l rm key) (rm : Int) key (w3.drewN q) hT4.si).mono ?_
        rintro e w5 ⟨A5, n5, c5, rfl, hO5, hb5⟩
        rw [g1] at hO5
        have hT5 := hT4.below hb5
        have z5 : w3.heap.size ≤ w5.heap.size := hb5.size
        have hbw5 : Below w.heap.size w w5 := (below_dR hbw3 q).trans (hb5.mono (by show _ ≤ w3.heap.size; omega))
        have hS5 := hS4.keep (w' := w5) fun p hp => hb5.cell (by show _ < w3.heap.size; omega)
        have hE5 := eqL_self (recL l rm key)
        clear g1
        go_wp2_with fail
        refine (equalInts_c _ _ _ _ _ _ (recL l rm key) (recL l rm key) _ _ _ hO5.si hT5.si).mono ?_
        rintro e w6 ⟨rfl, q6, rfl⟩
        go_wp2_with fail
        refine (howOften_c _ _ _ l key _ _ (hS5.drewN q6)).mono ?_
        rintro e w7 ⟨rfl, rfl⟩
        have hsz' := HSZ.out.symm
        clear HSZ
        generalize l.count key = m at *
        go_wp2
        go_ret
        exact ⟨ret_bool (by simp), below_dR hbw5 q6⟩
      · obtain ⟨e1, e2⟩ := useR_no2 (l := l) (room := room) hk
        have hL := hO2.len
        rw [e1] at hL
        obtain rfl : n2 = 0 := hL
        go_wp2_with fail
        rw [e1] at hO2' hO3 hE
        rw [e2] at hB1 hB2
        refine (equalInts_c _ _ _ _ _ _ _ _ _ _ _ (hO2'.si.drewN q) (hO3.si.drewN q)).mono ?_
        rintro e w6 ⟨rfl, q6, rfl⟩
        go_wp2
        go_ret
        exact ⟨rfl, below_dR hbw3 (q + q6)⟩
    · obtain ⟨e1, e2⟩ := useR_no1 (l := l) (room := room) (key := key) hv
      have hL := hO2.len
      rw [e1] at hL
      obtain rfl : n2 = 0 := hL
      go_wp2_with fail
      rw [e1] at hO2' hO3 hE
      rw [e2] at hB1 hB2
      refine (equalInts_c _ _ _ _ _ _ _ _ _ _ _ (hO2'.si.drewN q) (hO3.si.drewN q)).mono ?_
      rintro e w6 ⟨rfl, q6, rfl⟩
      go_wp2
      go_ret
      exact ⟨rfl, below_dR hbw3 (q + q6)⟩
  · go_enter Try.func3, Try.ntmps3
    go_wp2
    go_ret
    exact ⟨rfl, Below.refl _ _⟩


end Go.Proofs.Ytgnkidmljcpheab.fnUseRecentTwice
