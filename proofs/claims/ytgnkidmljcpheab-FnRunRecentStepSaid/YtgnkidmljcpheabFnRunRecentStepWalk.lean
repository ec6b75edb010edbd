/- The walk of a law: Law FnRunRecentStep: RunRecent is one UseRecent behind the trace without its last key. -/
import Derived.Test.YtgnkidmljcpheabRcD
import Derived.Test.YtgnkidmljcpheabDrawD
import Derived.Test.YtgnkidmljcpheabFrame
namespace Go.Proofs.Ytgnkidmljcpheab.fnRunRecentStep
open Go.RowKit

theorem gi_take' {l : List Int} {k i : Nat} (h : i < k) : gi (l.take k) i = gi l i := by
  simp only [gi, List.getD, List.getElem?_take, if_pos h]
theorem rnL_take (st : List Int → Nat → Int → List Int) (l : List Int) (rm k : Nat) : ∀ j, j ≤ k → rnL st (l.take k) rm j = rnL st l rm j ∧ rnN st (l.take k) rm j = rnN st l rm j
  | 0, _ => ⟨rfl, rfl⟩
  | j + 1, h => by
    obtain ⟨h1, h2⟩ := rnL_take st l rm k j (by omega)
    simp only [rnL, rnN, h1, h2, gi_take' (show j < k by omega), and_self]
theorem vtr_take {l : List Int} (h : vtr l = true) (k : Nat) : vtr (l.take k) = true := vtr_of (by have := vtr_len h; simp; omega) (allR_take (vtr_all h) k)
theorem hIN2 (x : Int) : (x == x) = true := by simp

set_option maxRecDepth 100000 in
set_option maxHeartbeats 1000000 in
theorem walk (a : Option Addr) (n c : Nat) (z : List Int) (w : World) (h : Came .u8 w a n c z) :
    Calls Try.prog 5 #[.slice a n c] w (Law w) := by
  have hb := h.sb
  have hm : c ≤ 9223372036854775807 := by have := hb.2.2.1; simpa [maxLen] using this
  have hc := hb.2.1
  by_cases hn : n ≤ 1048576
  · go_enter Try.func5, Try.ntmps5
    go_wp2_with fail
    refine (drawRunRecent_c _ _ _ _ w hb).mono ?_
    rintro e w1 ⟨A1, n1, c1, l, room, rfl, hO1, hn1, hbd, hroom, hb1⟩
    have z1 := hb1.size
    have hc1 := hO1.le
    have hmx1 := hO1.si.max
    have hS1 := hO1.si
    go_wp2_with fail
    refine (implRunRecent_c _ _ _ l room w1 hS1).mono ?_
    rintro e w2 ⟨A2, n2, c2, rfl, hO2, hb2⟩
    have z2 := hb2.size
    go_wp2_with fail
    refine (specRunRecent_c _ _ _ l room w2 ((hS1.below hb2).more z2)).mono ?_
    rintro e w3 ⟨A3, n3, c3, rfl, hO3, hb3⟩
    have z3 := hb3.size
    have hO2' := hO2.below hb3
    have hbw3 : Below w.heap.size w w3 := (hb1.trans (hb2.mono z1)).trans (hb3.mono (by omega))
    go_wp2_with fail
    refine (equalInts_c _ _ _ _ _ _ _ _ _ _ _ hO2'.si hO3.si).mono ?_
    rintro e w4 ⟨rfl, q, rfl⟩
    have hE := eqL_self (runL recL l room)
    have hIN : ∀ x : Int, (x == x) = true ∧ (x != x) = false := by intro x; simp
    have hN1 := (hIN (runN recL l room)).1
    have hN2 := (hIN (runN recL l room)).2
    rcases Bool.eq_false_or_eq_true (vtr l) with hv | hv
    · rcases Bool.eq_false_or_eq_true (inR 1 8 room) with hk | hk
      · obtain ⟨e1, e2⟩ := run_yes (st := recL) hv hk
        have hrr := inR_true.1 hk
        obtain ⟨rm, rfl⟩ := Int.eq_ofNat_of_zero_le (show 0 ≤ room by omega)
        have hlen := Lib.hid hS1.len
        rw [Int.toNat_natCast, ← hlen.out] at e1 e2
        have hn24 : n1 ≤ 24 := by rw [hlen.out]; exact vtr_len hv
        have hbd1 := rnN_bd recL l rm n1
        have hneg : decide (rnN recL l rm n1 < 0) = false := by simp; omega
        have hS4 := (((hS1.below hb2).more z2).below hb3).drewN q
        have hT4 := hO2'.drewN q
        have hl2 := hO2.len
        rw [e1] at hT4 hl2
        rw [e2] at hN1 hN2
        have HE := Lib.hid e1
        have HL := Lib.hid hl2
        clear e1 hl2 hIN
        by_cases hn0 : n1 = 0
        · subst hn0
          go_wp2_with fail
          refine (equalInts_c _ _ _ _ _ _ _ _ _ _ _ (hO2'.si.drewN q) (hO3.si.drewN q)).mono ?_
          rintro e w6 ⟨rfl, q6, rfl⟩
          go_wp2
          go_ret
          exact ⟨rfl, below_dR hbw3 (q + q6)⟩
        · obtain ⟨b, o, rfl, hbB, -⟩ := hS4.at_ (k := 0) (by omega)
          obtain ⟨k, rfl⟩ : ∃ k, n1 = k + 1 := ⟨n1 - 1, by omega⟩
          obtain ⟨b', o', he, -, hcell⟩ := hS4.at_ (k := k) (by omega)
          injection he with he; injection he with he1 he2; subst he1; subst he2
          have hk0 : ((k : Int) + 1 == 0) = false := by simp; omega
          have hkl : k < l.length := by rw [← hlen.out]; omega
          have hkey := inR_true.2 (allR_gi (vtr_all hv) hkl)
          have hvk := rnL_vks (st := recL) (rm := rm) (fun _ _ _ h1 h2 => recL_vks h1 h2) hv (by omega) (by omega) k (by omega)
          have hcut := hS4.cut (i := 0) (j := k) (A' := some ⟨b, o, none⟩) (Nat.zero_le _) (by omega) (fun _ => rfl) (fun _ => by simp [Addr.add])
          simp only [Nat.sub_zero, List.drop_zero] at hcut
          obtain ⟨f1, f2⟩ := run_yes (st := recL) (vtr_take hv k) hk
          have hlt : (l.take k).length = k := by simp; omega
          rw [Int.toNat_natCast, hlt] at f1 f2
          obtain ⟨g1, g2⟩ := rnL_take recL l rm k k (Nat.le_refl _)
          rw [g1] at f1
          rw [g2] at f2
          obtain ⟨u1, u2⟩ := useR_yes hvk hkey
          rw [Int.toNat_natCast] at u1
          have hu : recL (rnL recL l rm k) rm (gi l k) = rnL recL l rm (k + 1) := rfl
          rw [hu] at u1
          have hbdk := rnN_bd recL l rm k
          have hE5 := eqL_self (rnL recL l rm (k + 1))
          have F1 := Lib.hid f1
          have U1 := Lib.hid u1
          have b1 : (0 : Int) ≤ (k : Int) := by omega
          have b2 : (k : Int) ≤ (c1 : Int) := by have := hS4.le; omega
          clear f1 g1 g2 u1 hlt hu
          go_wp2_with fail
          refine (implRunRecent_c _ _ _ (l.take k) (rm : Int) (w3.drewN q) (hcut.more z3)).mono ?_
          rintro e w5 ⟨A5, n5, c5, rfl, hO5, hb5⟩
          rw [F1.out] at hO5
          have z5 : w3.heap.size ≤ w5.heap.size := hb5.size
          have hcell5 : w5.cell? ⟨b, o + k, none⟩ = some (.int .i64 (gi l k)) := (hb5.cell (p := ⟨b, o + k, none⟩) (by show b < w3.heap.size; omega)).trans hcell
          go_wp2_with fail
          refine (implUseRecent_c _ _ _ (rnL recL l rm k) (rm : Int) (gi l k) w5 hO5.si).mono ?_
          rintro e w6 ⟨A6, n6, c6, rfl, hO6, hb6⟩
          rw [U1.out] at hO6
          have hT6 := (hT4.below hb5).below hb6
          have hbw6 : Below w.heap.size w w6 := ((below_dR hbw3 q).trans (hb5.mono (by show _ ≤ w3.heap.size; omega))).trans (hb6.mono (by omega))
          go_wp2_with fail
          refine (equalInts_c _ _ _ _ _ _ (rnL recL l rm (k + 1)) (rnL recL l rm (k + 1)) _ _ _ hO6.si hT6.si).mono ?_
          rintro e w7 ⟨rfl, q7, rfl⟩
          rcases Bool.eq_false_or_eq_true (hasL (rnL recL l rm k) (gi l k)) with hh | hh
          · have hnn : rnN recL l rm (k + 1) = rnN recL l rm k + 1 := by simp [rnN, hh, bit]
            rw [hh] at u2
            have hq1 := hIN2 (rnN recL l rm k + 1)
            go_wp2
            go_ret
            exact ⟨rfl, below_dR hbw6 q7⟩
          · have hnn : rnN recL l rm (k + 1) = rnN recL l rm k := by simp [rnN, hh, bit]
            rw [hh] at u2
            have hq1 := hIN2 (rnN recL l rm k)
            go_wp2
            go_ret
            exact ⟨rfl, below_dR hbw6 q7⟩
      · obtain ⟨e1, e2⟩ := run_no2 (st := recL) (t := l) hk
        rw [e1] at hO2' hO3 hE
        rw [e2] at hN1 hN2
        clear hIN
        go_wp2_with fail
        refine (equalInts_c _ _ _ _ _ _ _ _ _ _ _ (hO2'.si.drewN q) (hO3.si.drewN q)).mono ?_
        rintro e w6 ⟨rfl, q6, rfl⟩
        go_wp2
        go_ret
        exact ⟨rfl, below_dR hbw3 (q + q6)⟩
    · obtain ⟨e1, e2⟩ := run_no1 (st := recL) (room := room) hv
      rw [e1] at hO2' hO3 hE
      rw [e2] at hN1 hN2
      clear hIN
      go_wp2_with fail
      refine (equalInts_c _ _ _ _ _ _ _ _ _ _ _ (hO2'.si.drewN q) (hO3.si.drewN q)).mono ?_
      rintro e w6 ⟨rfl, q6, rfl⟩
      go_wp2
      go_ret
      exact ⟨rfl, below_dR hbw3 (q + q6)⟩
  · go_enter Try.func5, Try.ntmps5
    go_wp2
    go_ret
    exact ⟨rfl, Below.refl _ _⟩


end Go.Proofs.Ytgnkidmljcpheab.fnRunRecentStep
