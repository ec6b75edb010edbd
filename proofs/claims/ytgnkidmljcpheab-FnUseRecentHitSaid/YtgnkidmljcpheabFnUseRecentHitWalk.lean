/- The walk of a law: Law FnUseRecentHit: a hit keeps all keys. -/
import Derived.Test.YtgnkidmljcpheabRcB
import Derived.Test.YtgnkidmljcpheabDrawD
import Derived.Test.YtgnkidmljcpheabFrame
namespace Go.Proofs.Ytgnkidmljcpheab.fnUseRecentHit
open Go.RowKit

theorem recL_vks {l : List Int} {rm : Nat} {key : Int} (hv : vks l (rm : Int) = true) (hk : inR 0 31 key = true) : vks (recL l rm key) (rm : Int) = true := by
  obtain ⟨⟨r1, r2⟩, _, r4, r5⟩ := vks_iff.1 hv
  refine vks_yes r1 r2 ?_ (recL_all r4 hk) (decide_eq_true (recL_nodup rm key (of_decide_eq_true r5)))
  have := recL_len l rm key
  omega
theorem rec_all {l : List Int} {rm : Nat} {key : Int} (hd : l.Nodup) (hm : key ∈ l) (hr : l.length ≤ rm) {k : Nat} (hk : k < l.length) : hasL (recL l rm key) (gi l k) = true := by
  refine decide_eq_true ?_
  rw [recL_hit hd hm hr]
  have hg := gi_mem hk
  by_cases e : gi l k = key
  · rw [e]; exact List.mem_cons_self
  · exact List.mem_cons_of_mem _ (List.mem_filter.2 ⟨hg, nk_true.2 e⟩)
theorem rec_size {l : List Int} {rm : Nat} {key : Int} (hd : l.Nodup) (hm : key ∈ l) (hr : l.length ≤ rm) : (recL l rm key).length = l.length := by
  rw [recL_hit hd hm hr]; exact filter_len hd hm

set_option maxRecDepth 100000 in
set_option maxHeartbeats 1000000 in
theorem walk (a : Option Addr) (n c : Nat) (z : List Int) (w : World) (h : Came .u8 w a n c z) :
    Calls Try.prog 14 #[.slice a n c] w (Law w) := by
  have hb := h.sb
  have hm : c ≤ 9223372036854775807 := by have := hb.2.2.1; simpa [maxLen] using this
  have hc := hb.2.1
  by_cases hn : n ≤ 1048576
  · go_enter Try.func14, Try.ntmps14
    go_wp2_with fail
    refine (drawUseRecent_c _ _ _ _ w hb).mono ?_
    rintro e w1 ⟨A1, n1, c1, l, room, key, rfl, hO1, hn1, hbd, hroom, hkey, hb1⟩
    have z1 := hb1.size
    have hc1 := hO1.le
    have hmx1 := hO1.si.max
    have hS1 := hO1.si
    go_wp2_with fail
    refine (implUseRecent_c _ _ _ l room key w1 hS1).mono ?_
    rintro e w2 ⟨A2, n2, c2, rfl, hO2, hb2⟩
    have z2 := hb2.size
    go_wp2_with fail
    refine (specUseRecent_c _ _ _ l room key w2 ((hS1.below hb2).more z2)).mono ?_
    rintro e w3 ⟨A3, n3, c3, rfl, hO3, hb3⟩
    have z3 := hb3.size
    have hO2' := hO2.below hb3
    have hbw3 : Below w.heap.size w w3 := (hb1.trans (hb2.mono z1)).trans (hb3.mono (by omega))
    go_wp2_with fail
    refine (equalInts_c _ _ _ _ _ _ _ _ _ _ _ hO2'.si hO3.si).mono ?_
    rintro e w4 ⟨rfl, q, rfl⟩
    have hE := eqL_self (useRL l room key)
    have hBB : ∀ b : Bool, (b == b) = true ∧ (b != b) = false := by intro b; cases b <;> simp
    have hB1 := (hBB (useRB l room key)).1
    have hB2 := (hBB (useRB l room key)).2
    clear hBB
    rcases Bool.eq_false_or_eq_true (vks l room) with hv | hv
    · rcases Bool.eq_false_or_eq_true (inR 0 31 key) with hk | hk
      · obtain ⟨e1, e2⟩ := useR_yes hv hk
        obtain ⟨⟨r1, r2⟩, r3, r4, r5⟩ := vks_iff.1 hv
        obtain ⟨rm, rfl⟩ := Int.eq_ofNat_of_zero_le (show 0 ≤ room by omega)
        rw [Int.toNat_natCast] at e1
        have hvr := recL_vks hv hk
        have hl2 := hO2.len
        have hS4 := (((hS1.below hb2).more z2).below hb3).drewN q
        have hT4 := hO2'.drewN q
        rw [e1] at hT4 hl2
        rw [e2] at hB1 hB2
        have hlen := Lib.hid hS1.len
        rcases Bool.eq_false_or_eq_true (hasL l key) with hh | hh
        · have hmem := of_decide_eq_true hh
          have hd := of_decide_eq_true r5
          have hlr : l.length ≤ rm := by omega
          rw [rec_size hd hmem hlr, ← hlen.out] at hl2
          subst hl2
          have HE := Lib.hid e1
          rw [hh] at e2
          have hn8 : n2 ≤ 8 := by rw [← hlen.out] at r3; omega
          clear e1 r3 r5
          rw [hh] at hB1 hB2
          have hTs := hT4.si
          go_wp2
          go_loop [10] (fun i => ∃ k : Nat, k ≤ n2 ∧ i = .int .i64 k) (fun i => n2 - (intOf i).toNat)
          case atStart => exact ⟨0, Nat.zero_le _, rfl⟩
          case round =>
            obtain ⟨k, hk2, rfl⟩ := hrel
            by_cases hlt : k < n2
            · obtain ⟨b, o, rfl, hbB, hcell⟩ := hS4.at_ hlt
              have hin := rec_all (rm := rm) (k := k) hd hmem hlr (by rw [← hlen.out]; exact hlt)
              go_wp2_with (go_at_call 23; refine (lawsIsIn_c _ _ _ (recL l rm key) _ _ _ hTs).mono ?_; rintro e w' ⟨rfl, rfl⟩)
              go_round
              case rel => exact ⟨k + 1, by omega, by go_num⟩
              case measure => simp [intOf]; omega
            · obtain rfl : k = n2 := by omega
              go_wp2
              go_ret
              exact ⟨ret_bool (by simp), below_dR hbw3 q⟩
        · rw [hh] at e2 hB1 hB2
          have HE := Lib.hid e1
          have HL := Lib.hid hl2
          have HLN := Lib.hid r3
          clear e1 hl2 r3
          go_wp2_with fail
          refine (equalInts_c _ _ _ _ _ _ _ _ _ _ _ (hO2'.si.drewN q) (hO3.si.drewN q)).mono ?_
          rintro e w6 ⟨rfl, q6, rfl⟩
          go_wp2
          go_ret
          exact ⟨rfl, below_dR hbw3 (q + q6)⟩
      · obtain ⟨e1, e2⟩ := useR_no2 (l := l) (room := room) hk
        have hL := hO2.len
        rw [e1] at hL
        obtain rfl : n2 = 0 := hL
        go_wp2_with fail
        rw [e1] at hO2' hO3 hE
        rw [e2] at hB1 hB2
        refine (equalInts_c _ _ _ _ _ _ _ _ _ _ _ (hO2'.si.drewN q) (hO3.si.drewN q)).mono ?_
        rintro e w6 ⟨rfl, q6, rfl⟩
        go_wp2
        go_ret
        exact ⟨rfl, below_dR hbw3 (q + q6)⟩
    · obtain ⟨e1, e2⟩ := useR_no1 (l := l) (room := room) (key := key) hv
      have hL := hO2.len
      rw [e1] at hL
      obtain rfl : n2 = 0 := hL
      go_wp2_with fail
      rw [e1] at hO2' hO3 hE
      rw [e2] at hB1 hB2
      refine (equalInts_c _ _ _ _ _ _ _ _ _ _ _ (hO2'.si.drewN q) (hO3.si.drewN q)).mono ?_
      rintro e w6 ⟨rfl, q6, rfl⟩
      go_wp2
      go_ret
      exact ⟨rfl, below_dR hbw3 (q + q6)⟩
  · go_enter Try.func14, Try.ntmps14
    go_wp2
    go_ret
    exact ⟨rfl, Below.refl _ _⟩


end Go.Proofs.Ytgnkidmljcpheab.fnUseRecentHit
