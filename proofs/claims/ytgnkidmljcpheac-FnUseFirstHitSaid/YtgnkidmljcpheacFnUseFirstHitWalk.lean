/- The walk of a law: Law FnUseFirstHit: each key of the cache is a hit that changes nothing. -/
import Derived.Test.YtgnkidmljcpheacRcC
import Derived.Test.YtgnkidmljcpheacDrawD
import Derived.Test.YtgnkidmljcpheacFrame
namespace Go.Proofs.Ytgnkidmljcpheac.fnUseFirstHit
open Go.RowKit

theorem firL_has {l : List Int} {rm : Nat} {key : Int} (h : 1 ≤ rm) : key ∈ firL l rm key := by
  unfold firL; split
  · rename_i hm; exact hm
  · rw [List.drop_append_of_le_length (by omega)]; simp
theorem firL_idem {l : List Int} {rm : Nat} {key : Int} (h : 1 ≤ rm) : firL (firL l rm key) rm key = firL l rm key := firL_hit (firL_has h)

set_option maxRecDepth 100000 in
set_option maxHeartbeats 1000000 in
theorem walk (a : Option Addr) (n c : Nat) (z : List Int) (w : World) (h : Came .u8 w a n c z) :
    Calls Try.prog 4 #[.slice a n c] w (Law w) := by
  have hb := h.sb
  have hm : c ≤ 9223372036854775807 := by have := hb.2.2.1; simpa [maxLen] using this
  have hc := hb.2.1
  by_cases hn : n ≤ 1048576
  · go_enter Try.func4, Try.ntmps4
    go_wp2_with fail
    refine (drawUseFirst_c _ _ _ _ w hb).mono ?_
    rintro e w1 ⟨A1, n1, c1, l, room, key, rfl, hO1, hn1, hbd, hroom, hkey, hb1⟩
    have z1 := hb1.size
    have hc1 := hO1.le
    have hmx1 := hO1.si.max
    have hS1 := hO1.si
    go_wp2_with fail
    refine (implUseFirst_c _ _ _ l room key w1 hS1).mono ?_
    rintro e w2 ⟨A2, n2, c2, rfl, hO2, hb2⟩
    have z2 := hb2.size
    go_wp2_with fail
    refine (specUseFirst_c _ _ _ l room key w2 ((hS1.below hb2).more z2)).mono ?_
    rintro e w3 ⟨A3, n3, c3, rfl, hO3, hb3⟩
    have z3 := hb3.size
    have hO2' := hO2.below hb3
    have hbw3 : Below w.heap.size w w3 := (hb1.trans (hb2.mono z1)).trans (hb3.mono (by omega))
    go_wp2_with fail
    refine (equalInts_c _ _ _ _ _ _ _ _ _ _ _ hO2'.si hO3.si).mono ?_
    rintro e w4 ⟨rfl, q, rfl⟩
    have hE := eqL_self (useFL l room key)
    have hBB : ∀ b : Bool, (b == b) = true ∧ (b != b) = false := by intro b; cases b <;> simp
    have hB1 := (hBB (useRB l room key)).1
    have hB2 := (hBB (useRB l room key)).2
    clear hBB
    rcases Bool.eq_false_or_eq_true (vks l room) with hv | hv
    · rcases Bool.eq_false_or_eq_true (inR 0 31 key) with hk | hk
      · obtain ⟨e1, e2⟩ := useF_yes hv hk
        obtain ⟨⟨r1, r2⟩, r3, r4, r5⟩ := vks_iff.1 hv
        obtain ⟨rm, rfl⟩ := Int.eq_ofNat_of_zero_le (show 0 ≤ room by omega)
        rw [Int.toNat_natCast] at e1
        have hvr := firL_vks hv hk
        have hl2 := hO2.len
        have hS4 := (((hS1.below hb2).more z2).below hb3).drewN q
        have hT4 := hO2'.drewN q
        rw [e1] at hT4 hl2
        rw [e2] at hB1 hB2
        have hlen := Lib.hid hS1.len
        have hj0 : ((n2 : Int) == 0) = false := by have := firL_has (l := l) (rm := rm) (key := key) (by omega); have := List.length_pos_of_mem this; simp; omega
        have HE := Lib.hid e1
        have HL := Lib.hid hl2
        have hE5 := eqL_self (firL l rm key)
        have n8 : n2 ≤ 1000 := by have := (vks_iff.1 hvr).2.1; omega
        clear e1 hl2 r3 r5
        go_wp2
        go_loopw [10, 11, 12] (fun i _ _ wr => ∃ k : Nat, k ≤ n2 ∧ i = .int .i64 k ∧ Below w3.heap.size (w3.drewN q) wr) (fun i _ _ _ => n2 - (intOf i).toNat)
        case atStart => exact ⟨0, Nat.zero_le _, rfl, Below.refl _ _⟩
        case round =>
          obtain ⟨k, hk2, rfl, hbr⟩ := hrel
          have hTr := hT4.below hbr
          have hszr : w3.heap.size ≤ wr.heap.size := hbr.size
          by_cases hlt : k < n2
          · obtain ⟨g, o, rfl, hgB, hcell, hfr⟩ := hTr.at_ hlt
            have hmem : gi (firL l rm key) k ∈ firL l rm key := gi_mem (by rw [← HL.out]; exact hlt)
            have hkk := inR_true.2 (allR_mem ((vks_iff.1 hvr).2.2.1) hmem)
            have g1 : useFL (firL l rm key) (rm : Int) (gi (firL l rm key) k) = firL l rm key := by rw [(useF_yes hvr hkk).1, Int.toNat_natCast, firL_hit hmem]
            have g2 : useRB (firL l rm key) (rm : Int) (gi (firL l rm key) k) = true := by rw [(useF_yes hvr hkk).2]; exact decide_eq_true hmem
            have G1 := Lib.hid g1
            clear g1
            go_wp2_with fail
            refine (implUseFirst_c _ _ _ (firL l rm key) (rm : Int) (gi (firL l rm key) k) wr hTr.si).mono ?_
            rintro e w5 ⟨A5, n5, c5, rfl, hO5, hb5⟩
            rw [G1.out] at hO5
            have hT5 := hTr.below hb5
            have z5 := hb5.size
            go_wp2_with fail
            refine (equalInts_c _ _ _ _ _ _ (firL l rm key) (firL l rm key) _ _ _ hO5.si hT5.si).mono ?_
            rintro e w6 ⟨rfl, q6, rfl⟩
            go_wp2
            go_roundw
            case rel => exact ⟨k + 1, by omega, by go_num, below_dR (hbr.trans (hb5.mono hszr)) q6⟩
            case measure => simp [intOf]; omega
          · obtain rfl : k = n2 := by omega
            go_wp2
            go_ret
            exact ⟨rfl, (below_dR hbw3 q).trans (hbr.mono (by omega))⟩
      · obtain ⟨e1, e2⟩ := useF_no2 (l := l) (room := room) hk
        have hL := hO2.len
        rw [e1] at hL
        obtain rfl : n2 = 0 := hL
        go_wp2_with fail
        rw [e1] at hO2' hO3 hE
        rw [e2] at hB1 hB2
        refine (equalInts_c _ _ _ _ _ _ _ _ _ _ _ (hO2'.si.drewN q) (hO3.si.drewN q)).mono ?_
        rintro e w6 ⟨rfl, q6, rfl⟩
        go_wp2
        go_ret
        exact ⟨rfl, below_dR hbw3 (q + q6)⟩
    · obtain ⟨e1, e2⟩ := useF_no1 (l := l) (room := room) (key := key) hv
      have hL := hO2.len
      rw [e1] at hL
      obtain rfl : n2 = 0 := hL
      go_wp2_with fail
      rw [e1] at hO2' hO3 hE
      rw [e2] at hB1 hB2
      refine (equalInts_c _ _ _ _ _ _ _ _ _ _ _ (hO2'.si.drewN q) (hO3.si.drewN q)).mono ?_
      rintro e w6 ⟨rfl, q6, rfl⟩
      go_wp2
      go_ret
      exact ⟨rfl, below_dR hbw3 (q + q6)⟩
  · go_enter Try.func4, Try.ntmps4
    go_wp2
    go_ret
    exact ⟨rfl, Below.refl _ _⟩


end Go.Proofs.Ytgnkidmljcpheac.fnUseFirstHit
