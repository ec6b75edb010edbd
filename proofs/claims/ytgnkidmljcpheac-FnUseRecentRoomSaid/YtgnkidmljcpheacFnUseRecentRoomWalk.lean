/- The walk of a law: Law FnUseRecentRoom: without a hit only the last key goes, if there is no room. -/
import Derived.Test.YtgnkidmljcpheacRcB
import Derived.Test.YtgnkidmljcpheacDrawD
import Derived.Test.YtgnkidmljcpheacFrame
namespace Go.Proofs.Ytgnkidmljcpheac.fnUseRecentRoom
open Go.RowKit

theorem recL_vks {l : List Int} {rm : Nat} {key : Int} (hv : vks l (rm : Int) = true) (hk : inR 0 31 key = true) : vks (recL l rm key) (rm : Int) = true := by
  obtain ⟨⟨r1, r2⟩, _, r4, r5⟩ := vks_iff.1 hv
  refine vks_yes r1 r2 ?_ (recL_all r4 hk) (decide_eq_true (recL_nodup rm key (of_decide_eq_true r5)))
  have := recL_len l rm key
  omega
theorem rec_room {l : List Int} {rm : Nat} {key : Int} (hd : l.Nodup) (hm : key ∉ l) (hr : l.length ≤ rm) {k : Nat} (hk : k < l.length) :
    hasL (recL l rm key) (gi l k) = !(((k : Int) == (l.length : Int) - 1) && ((l.length : Int) == (rm : Int))) := by
  rw [recL_miss hm]
  by_cases h : k + 1 < rm
  · have e1 : (((k : Int) == (l.length : Int) - 1) && ((l.length : Int) == (rm : Int))) = false := by
      rw [Bool.and_eq_false_iff]
      by_cases e : (k : Int) = (l.length : Int) - 1
      · right; simp; omega
      · left; simpa using e
    rw [e1]
    refine decide_eq_true ?_
    have : gi ((key :: l).take rm) (k + 1) = gi l k := by
      simp only [gi, List.getD, List.getElem?_take, if_pos h, List.getElem?_cons_succ]
    rw [← this]
    exact gi_mem (by simp; omega)
  · have e1 : (((k : Int) == (l.length : Int) - 1) && ((l.length : Int) == (rm : Int))) = true := by
      rw [Bool.and_eq_true]
      constructor
      · simp; omega
      · simp; omega
    rw [e1]
    refine decide_eq_false fun hx => ?_
    obtain ⟨s, rfl⟩ : ∃ s, rm = s + 1 := ⟨rm - 1, by omega⟩
    rw [List.take_succ_cons] at hx
    rcases List.mem_cons.1 hx with e | e
    · exact hm (e ▸ gi_mem hk)
    · obtain rfl : k = s := by omega
      rw [List.mem_take_iff_getElem] at e
      obtain ⟨i, hi, he⟩ := e
      refine nodup_gi.1 hd i k (by omega) hk ?_
      rw [gi, List.getD, List.getElem?_eq_getElem (by omega)]
      exact he

set_option maxRecDepth 100000 in
set_option maxHeartbeats 1000000 in
theorem walk (a : Option Addr) (n c : Nat) (z : List Int) (w : World) (h : Came .u8 w a n c z) :
    Calls Try.prog 3 #[.slice a n c] w (Law w) := by
  have hb := h.sb
  have hm : c ≤ 9223372036854775807 := by have := hb.2.2.1; simpa [maxLen] using this
  have hc := hb.2.1
  by_cases hn : n ≤ 1048576
  · go_enter Try.func3, Try.ntmps3
    go_wp2_with fail
    refine (drawUseRecent_c _ _ _ _ w hb).mono ?_
    rintro e w1 ⟨A1, n1, c1, l, room, key, rfl, hO1, hn1, hbd, hroom, hkey, hb1⟩
    have z1 := hb1.size
    have hc1 := hO1.le
    have hmx1 := hO1.si.max
    have hS1 := hO1.si
    go_wp2_with fail
    refine (implUseRecent_c _ _ _ l room key w1 hS1).mono ?_
    rintro e w2 ⟨A2, n2, c2, rfl, hO2, hb2⟩
    have z2 := hb2.size
    go_wp2_with fail
    refine (specUseRecent_c _ _ _ l room key w2 ((hS1.below hb2).more z2)).mono ?_
    rintro e w3 ⟨A3, n3, c3, rfl, hO3, hb3⟩
    have z3 := hb3.size
    have hO2' := hO2.below hb3
    have hbw3 : Below w.heap.size w w3 := (hb1.trans (hb2.mono z1)).trans (hb3.mono (by omega))
    go_wp2_with fail
    refine (equalInts_c _ _ _ _ _ _ _ _ _ _ _ hO2'.si hO3.si).mono ?_
    rintro e w4 ⟨rfl, q, rfl⟩
    have hE := eqL_self (useRL l room key)
    have hBB : ∀ b : Bool, (b == b) = true ∧ (b != b) = false := by intro b; cases b <;> simp
    have hB1 := (hBB (useRB l room key)).1
    have hB2 := (hBB (useRB l room key)).2
    clear hBB
    rcases Bool.eq_false_or_eq_true (vks l room) with hv | hv
    · rcases Bool.eq_false_or_eq_true (inR 0 31 key) with hk | hk
      · obtain ⟨e1, e2⟩ := useR_yes hv hk
        obtain ⟨⟨r1, r2⟩, r3, r4, r5⟩ := vks_iff.1 hv
        obtain ⟨rm, rfl⟩ := Int.eq_ofNat_of_zero_le (show 0 ≤ room by omega)
        rw [Int.toNat_natCast] at e1
        have hvr := recL_vks hv hk
        have hl2 := hO2.len
        have hS4 := (((hS1.below hb2).more z2).below hb3).drewN q
        have hT4 := hO2'.drewN q
        rw [e1] at hT4 hl2
        rw [e2] at hB1 hB2
        have hlen := Lib.hid hS1.len
        rcases Bool.eq_false_or_eq_true (hasL l key) with hh | hh
        · rw [hh] at e2 hB1 hB2
          have HE := Lib.hid e1
          have HL := Lib.hid hl2
          have HLN := Lib.hid r3
          clear e1 hl2 r3
          go_wp2_with fail
          refine (equalInts_c _ _ _ _ _ _ _ _ _ _ _ (hO2'.si.drewN q) (hO3.si.drewN q)).mono ?_
          rintro e w6 ⟨rfl, q6, rfl⟩
          go_wp2
          go_ret
          exact ⟨rfl, below_dR hbw3 (q + q6)⟩
        · have hmem := of_decide_eq_false hh
          have hd := of_decide_eq_true r5
          have hlr : l.length ≤ rm := by omega
          have hj0 : ((n2 : Int) == 0) = false := by
            have : 0 < (recL l rm key).length := by obtain ⟨s, rfl⟩ : ∃ s, rm = s + 1 := ⟨rm - 1, by omega⟩; simp [recL]
            simp; omega
          have HE := Lib.hid e1
          have HL := Lib.hid hl2
          rw [hh] at e2 hB1 hB2
          have hn8 : n1 ≤ 8 := by rw [← hlen.out] at r3; omega
          clear e1 r3 r5 hl2
          have hTs := hT4.si
          go_wp2
          go_loop [10] (fun i => ∃ k : Nat, k ≤ n1 ∧ i = .int .i64 k) (fun i => n1 - (intOf i).toNat)
          case atStart => exact ⟨0, Nat.zero_le _, rfl⟩
          case round =>
            obtain ⟨k, hk2, rfl⟩ := hrel
            by_cases hlt : k < n1
            · obtain ⟨b, o, rfl, hbB, hcell⟩ := hS4.at_ hlt
              have hin := rec_room (rm := rm) (k := k) hd hmem hlr (by rw [← hlen.out]; exact hlt)
              rw [← hlen.out] at hin
              rcases Bool.eq_false_or_eq_true ((k : Int) == (n1 : Int) - 1) with hx | hx
              · rcases Bool.eq_false_or_eq_true ((n1 : Int) == (rm : Int)) with hy | hy
                all_goals
                  rw [hx, hy] at hin
                  go_wp2_with (go_at_call 19; refine (lawsIsIn_c _ _ _ (recL l rm key) _ _ _ hTs).mono ?_; rintro e w' ⟨rfl, rfl⟩)
                  go_round
                  case rel => exact ⟨k + 1, by omega, by go_num⟩
                  case measure => simp [intOf]; omega
              · rw [hx] at hin
                go_wp2_with (go_at_call 19; refine (lawsIsIn_c _ _ _ (recL l rm key) _ _ _ hTs).mono ?_; rintro e w' ⟨rfl, rfl⟩)
                go_round
                case rel => exact ⟨k + 1, by omega, by go_num⟩
                case measure => simp [intOf]; omega
            · obtain rfl : k = n1 := by omega
              go_wp2
              go_ret
              exact ⟨ret_bool (by simp), below_dR hbw3 q⟩
      · obtain ⟨e1, e2⟩ := useR_no2 (l := l) (room := room) hk
        have hL := hO2.len
        rw [e1] at hL
        obtain rfl : n2 = 0 := hL
        go_wp2_with fail
        rw [e1] at hO2' hO3 hE
        rw [e2] at hB1 hB2
        refine (equalInts_c _ _ _ _ _ _ _ _ _ _ _ (hO2'.si.drewN q) (hO3.si.drewN q)).mono ?_
        rintro e w6 ⟨rfl, q6, rfl⟩
        go_wp2
        go_ret
        exact ⟨rfl, below_dR hbw3 (q + q6)⟩
    · obtain ⟨e1, e2⟩ := useR_no1 (l := l) (room := room) (key := key) hv
      have hL := hO2.len
      rw [e1] at hL
      obtain rfl : n2 = 0 := hL
      go_wp2_with fail
      rw [e1] at hO2' hO3 hE
      rw [e2] at hB1 hB2
      refine (equalInts_c _ _ _ _ _ _ _ _ _ _ _ (hO2'.si.drewN q) (hO3.si.drewN q)).mono ?_
      rintro e w6 ⟨rfl, q6, rfl⟩
      go_wp2
      go_ret
      exact ⟨rfl, below_dR hbw3 (q + q6)⟩
  · go_enter Try.func3, Try.ntmps3
    go_wp2
    go_ret
    exact ⟨rfl, Below.refl _ _⟩


end Go.Proofs.Ytgnkidmljcpheac.fnUseRecentRoom
