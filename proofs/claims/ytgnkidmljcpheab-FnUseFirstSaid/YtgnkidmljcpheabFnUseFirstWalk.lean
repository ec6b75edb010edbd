/- The walk of a law: Law FnUseFirst: a miss puts the key behind, and the first key goes if there is no room. -/
import Derived.Test.YtgnkidmljcpheabRcC
import Derived.Test.YtgnkidmljcpheabDrawD
import Derived.Test.YtgnkidmljcpheabFrame
namespace Go.Proofs.Ytgnkidmljcpheab.fnUseFirst
open Go.RowKit

theorem firL_has {l : List Int} {rm : Nat} {key : Int} (h : 1 ≤ rm) : key ∈ firL l rm key := by
  unfold firL; split
  · rename_i hm; exact hm
  · rw [List.drop_append_of_le_length (by omega)]; simp
theorem firL_idem {l : List Int} {rm : Nat} {key : Int} (h : 1 ≤ rm) : firL (firL l rm key) rm key = firL l rm key := firL_hit (firL_has h)

set_option maxRecDepth 100000 in
set_option maxHeartbeats 1000000 in
theorem walk (a : Option Addr) (n c : Nat) (z : List Int) (w : World) (h : Came .u8 w a n c z) :
    Calls Try.prog 7 #[.slice a n c] w (Law w) := by
  have hb := h.sb
  have hm : c ≤ 9223372036854775807 := by have := hb.2.2.1; simpa [maxLen] using this
  have hc := hb.2.1
  by_cases hn : n ≤ 1048576
  · go_enter Try.func7, Try.ntmps7
    go_wp2_with fail
    refine (drawUseFirst_c _ _ _ _ w hb).mono ?_
    rintro e w1 ⟨A1, n1, c1, l, room, key, rfl, hO1, hn1, hbd, hroom, hkey, hb1⟩
    have z1 := hb1.size
    have hc1 := hO1.le
    have hmx1 := hO1.si.max
    have hS1 := hO1.si
    go_wp2_with fail
    refine (implUseFirst_c _ _ _ l room key w1 hS1).mono ?_
    rintro e w2 ⟨A2, n2, c2, rfl, hO2, hb2⟩
    have z2 := hb2.size
    go_wp2_with fail
    refine (specUseFirst_c _ _ _ l room key w2 ((hS1.below hb2).more z2)).mono ?_
    rintro e w3 ⟨A3, n3, c3, rfl, hO3, hb3⟩
    have z3 := hb3.size
    have hO2' := hO2.below hb3
    have hbw3 : Below w.heap.size w w3 := (hb1.trans (hb2.mono z1)).trans (hb3.mono (by omega))
    go_wp2_with fail
    refine (equalInts_c _ _ _ _ _ _ _ _ _ _ _ hO2'.si hO3.si).mono ?_
    rintro e w4 ⟨rfl, q, rfl⟩
    have hE := eqL_self (useFL l room key)
    have hBB : ∀ b : Bool, (b == b) = true ∧ (b != b) = false := by intro b; cases b <;> simp
    have hB1 := (hBB (useRB l room key)).1
    have hB2 := (hBB (useRB l room key)).2
    clear hBB
    rcases Bool.eq_false_or_eq_true (vks l room) with hv | hv
    · rcases Bool.eq_false_or_eq_true (inR 0 31 key) with hk | hk
      · obtain ⟨e1, e2⟩ := useF_yes hv hk
        obtain ⟨⟨r1, r2⟩, r3, r4, r5⟩ := vks_iff.1 hv
        obtain ⟨rm, rfl⟩ := Int.eq_ofNat_of_zero_le (show 0 ≤ room by omega)
        rw [Int.toNat_natCast] at e1
        have hvr := firL_vks hv hk
        have hl2 := hO2.len
        have hS4 := (((hS1.below hb2).more z2).below hb3).drewN q
        have hT4 := hO2'.drewN q
        rw [e1] at hT4 hl2
        rw [e2] at hB1 hB2
        have hlen := Lib.hid hS1.len
        have hj0 : ((n2 : Int) == 0) = false := by have := firL_has (l := l) (rm := rm) (key := key) (by omega); have := List.length_pos_of_mem this; simp; omega
        have HE := Lib.hid e1
        have hn8 : n1 ≤ rm := by rw [← hlen.out] at r3; omega
        rcases Bool.eq_false_or_eq_true (hasL l key) with hh | hh
        · rw [hh] at e2 hB1 hB2
          have HL := Lib.hid hl2
          rw [firL_hit (of_decide_eq_true hh)] at hT4
          have hE5 := eqL_self l
          clear e1 hl2 r3 r5
          go_wp2_with fail
          refine (equalInts_c _ _ _ _ _ _ l l _ _ _ hT4.si hS4).mono ?_
          rintro e w6 ⟨rfl, q6, rfl⟩
          go_wp2_with fail
          have hS4' : SI (w3.drewN (q + q6)) w2.heap.size A1 n1 c1 l := hS4
          refine (lawsIsIn_c _ _ _ l key _ _ hS4').mono ?_
          rintro e w7 ⟨rfl, rfl⟩
          go_wp2
          go_ret
          exact ⟨rfl, below_dR hbw3 (q + q6)⟩
        · rw [hh] at e2 hB1 hB2
          have hmiss := of_decide_eq_false hh
          by_cases hroom : n1 < rm
          · have hR : firL l rm key = l ++ [key] := by rw [firL_miss hmiss, ← hlen.out, show n1 + 1 - rm = 0 by omega, List.drop_zero]
            rw [hR, List.length_append, ← hlen.out] at hl2
            rw [hR] at hT4
            obtain rfl : n2 = n1 + 1 := hl2
            clear e1 r3 r5 hR
            have hj1 : ((n1 : Int) + 1 == 0) = false := by simp; omega
            obtain ⟨g, o, rfl, hgB, hcell, hfr⟩ := hT4.at_ (k := n1) (by omega)
            have hlast : gi (l ++ [key]) n1 = key := by rw [hlen.out, gi_append_right (Nat.le_refl _), Nat.sub_self]; rfl
            rw [hlast] at hcell
            clear hlast
            have hM : (if (n1 : Int) + 1 < (rm : Int) then (n1 : Int) + 1 else (rm : Int)) = (n1 : Int) + 1 := by split <;> omega
            have hcA := hT4.si.cut (i := 0) (j := n1) (A' := some ⟨g, o, none⟩) (Nat.zero_le _) (by omega) (fun _ => rfl) (fun _ => by simp [Addr.add])
            have hcB := hS4.cut (i := 0) (j := n1) (A' := A1) (Nat.zero_le _) (Nat.le_refl _) (fun _ => rfl) (fun _ => by cases A1 <;> simp [Addr.add])
            have hRA : ((l ++ [key]).drop 0).take n1 = l := by rw [List.drop_zero, hlen.out]; simp
            have hRB : (l.drop 0).take n1 = l := by rw [List.drop_zero, hlen.out]; simp
            rw [Nat.sub_zero, Nat.sub_zero, hRA] at hcA
            rw [Nat.sub_zero, Nat.sub_zero, hRB] at hcB
            clear hRA hRB
            have hET := eqL_self l
            have b4 := hT4.le
            have b5 : (n1 : Int) ≤ (c2 : Int) := by omega
            have b6 : (n1 : Int) ≤ (c1 : Int) := by omega
            have b7 : (0 : Int) ≤ (n1 : Int) := by omega
            have b8 : (n1 : Int) < (n1 : Int) + 1 := by omega
            go_wp2
            have hbwq := below_dR hbw3 q
            generalize w3.drewN q = wq at *
            have w1' : IntKind.i64.wrap ((n1 : Int) - (n1 : Int)) = 0 := by rw [Int.sub_self]; exact IntWalk.i64_in _ (by omega)
            have w2' : IntKind.i64.wrap ((n1 : Int) + 1) = (n1 : Int) + 1 := IntWalk.i64_in _ (by omega)
            have w3' : IntKind.i64.wrap 0 = 0 := IntWalk.i64_in _ (by omega)
            go_quiet ((first | (go_at_call 18; exact Calls.quiet_of (equalInts_c _ _ _ _ _ _ l l _ _ _ (hcA.drewN _) (hcB.drewN _)))))
            go_wp2
            go_ret
            exact ⟨rfl, below_dR hbwq _⟩
          · obtain rfl : n1 = rm := by omega
            obtain ⟨b, o', rfl, hbB, -⟩ := hS4.at_ (k := 0) (by omega)
            obtain ⟨j, rfl⟩ : ∃ j, n1 = j + 1 := ⟨n1 - 1, by omega⟩
            have hR : firL l (j + 1) key = l.drop 1 ++ [key] := by rw [firL_miss hmiss, ← hlen.out, show j + 1 + 1 - (j + 1) = 1 by omega, List.drop_append_of_le_length (by rw [← hlen.out]; omega)]
            have hdl : (l.drop 1).length = j := by rw [List.length_drop, ← hlen.out]; omega
            rw [hR, List.length_append, hdl] at hl2
            rw [hR] at hT4
            obtain rfl : n2 = j + 1 := hl2
            clear e1 r3 r5 hR
            have hE2 := eqL_self (useFL l ((j : Int) + 1) key)
            have e2' : useRB l ((j : Int) + 1) key = false := e2
            have hj1 : ((j : Int) + 1 == 0) = false := by simp; omega
            obtain ⟨g, o, rfl, hgB, hcell, hfr⟩ := hT4.at_ (k := j) (by omega)
            have hlast : gi (l.drop 1 ++ [key]) j = key := by
              have := gi_append_right (l := l.drop 1) (r := [key]) (k := j) (by omega)
              rw [this, hdl, Nat.sub_self]; rfl
            rw [hlast] at hcell
            clear hlast
            have hM : (if (j : Int) + 1 + 1 < (j : Int) + 1 then (j : Int) + 1 + 1 else (j : Int) + 1) = (j : Int) + 1 := if_neg (by omega)
            have hcA := hT4.si.cut (i := 0) (j := j) (A' := some ⟨g, o, none⟩) (Nat.zero_le _) (by omega) (fun _ => rfl) (fun _ => by simp [Addr.add])
            have hRA : ((l.drop 1 ++ [key]).drop 0).take j = l.drop 1 := by rw [List.drop_zero]; exact List.take_left' hdl
            have hRB : (l.drop 1).take j = l.drop 1 := List.take_of_length_le (by omega)
            rw [Nat.sub_zero, Nat.sub_zero, hRA] at hcA
            clear hRA
            have hET := eqL_self (l.drop 1)
            have b4 := hT4.le
            have b5 : (j : Int) ≤ (c2 : Int) := by omega
            have b6 : (j : Int) + 1 ≤ (c1 : Int) := by omega
            have b7 : (0 : Int) ≤ (j : Int) := by omega
            have b8 : (j : Int) < (j : Int) + 1 := by omega
            have b9 : (1 : Int) ≤ (j : Int) + 1 := by omega
            have b10 : (j : Int) ≤ (j : Int) + 1 := by omega
            by_cases hc : c1 = 1
            · have hcB := hS4.cut (i := 1) (j := j + 1) (A' := some ⟨b, o', none⟩) (by omega) (Nat.le_refl _) (fun _ => rfl) (fun h => absurd hc h)
              rw [Nat.add_sub_cancel, hRB] at hcB
              clear hRB
              generalize l.drop 1 = T at *
              have hbwq := below_dR hbw3 q
              subst hc
              obtain rfl : j = 0 := by omega
              rw [Nat.add_zero] at hcell
              have hE3 := eqL_self (useFL l 1 key)
              have e3' : useRB l 1 key = false := e2
              have b5' : (0 : Int) ≤ (c2 : Int) := by omega
              have b6' : (1 : Int) ≤ (c2 : Int) := by omega
              go_wp2
              generalize w3.drewN q = wq at *
              have w1' : IntKind.i64.wrap 1 = 1 := IntWalk.i64_in _ (by omega)
              have w2' : IntKind.i64.wrap 0 = 0 := IntWalk.i64_in _ (by omega)
              have w3' : IntKind.i64.wrap 2 = 2 := IntWalk.i64_in _ (by omega)
              have w4' : IntKind.i64.wrap (1 + 1) = 2 := IntWalk.i64_in _ (by omega)
              have w5' : IntKind.i64.wrap (1 - 0) = 1 := IntWalk.i64_in _ (by omega)
              go_quiet ((first | (go_at_call 18; exact Calls.quiet_of (equalInts_c _ _ _ _ _ _ T T _ _ _ (hcA.drewN _) (hcB.drewN _)))))
              go_wp2
              go_ret
              exact ⟨rfl, below_dR hbwq _⟩
            · have hcB := hS4.cut (i := 1) (j := j + 1) (A' := some ⟨b, o' + 1, none⟩) (by omega) (Nat.le_refl _) (fun h => absurd h hc) (fun _ => by simp [Addr.add])
              rw [Nat.add_sub_cancel, hRB] at hcB
              clear hRB
              generalize l.drop 1 = T at *
              go_wp2
              have hbwq := below_dR hbw3 q
              generalize w3.drewN q = wq at *
              have w1' : IntKind.i64.wrap ((j : Int) + 1 - (j : Int)) = 1 := by rw [show (j : Int) + 1 - (j : Int) = 1 by omega]; exact IntWalk.i64_in _ (by omega)
              have w2' : IntKind.i64.wrap ((j : Int) + 1 + 1) = (j : Int) + 1 + 1 := IntWalk.i64_in _ (by omega)
              have w3' : IntKind.i64.wrap 1 = 1 := IntWalk.i64_in _ (by omega)
              go_quiet ((first | (go_at_call 18; exact Calls.quiet_of (equalInts_c _ _ _ _ _ _ T T _ _ _ (hcA.drewN _) (hcB.drewN _)))))
              go_wp2
              go_ret
              exact ⟨rfl, below_dR hbwq _⟩
      · obtain ⟨e1, e2⟩ := useF_no2 (l := l) (room := room) hk
        have hL := hO2.len
        rw [e1] at hL
        obtain rfl : n2 = 0 := hL
        go_wp2_with fail
        rw [e1] at hO2' hO3 hE
        rw [e2] at hB1 hB2
        refine (equalInts_c _ _ _ _ _ _ _ _ _ _ _ (hO2'.si.drewN q) (hO3.si.drewN q)).mono ?_
        rintro e w6 ⟨rfl, q6, rfl⟩
        go_wp2
        go_ret
        exact ⟨rfl, below_dR hbw3 (q + q6)⟩
    · obtain ⟨e1, e2⟩ := useF_no1 (l := l) (room := room) (key := key) hv
      have hL := hO2.len
      rw [e1] at hL
      obtain rfl : n2 = 0 := hL
      go_wp2_with fail
      rw [e1] at hO2' hO3 hE
      rw [e2] at hB1 hB2
      refine (equalInts_c _ _ _ _ _ _ _ _ _ _ _ (hO2'.si.drewN q) (hO3.si.drewN q)).mono ?_
      rintro e w6 ⟨rfl, q6, rfl⟩
      go_wp2
      go_ret
      exact ⟨rfl, below_dR hbw3 (q + q6)⟩
  · go_enter Try.func7, Try.ntmps7
    go_wp2
    go_ret
    exact ⟨rfl, Below.refl _ _⟩


end Go.Proofs.Ytgnkidmljcpheab.fnUseFirst
