/- The walk of a law: Law FnRunRecentMore: more room keeps what less room keeps, and has no fewer hits. -/
import Derived.Test.YtgnkidmljcpheabRcD
import Derived.Test.YtgnkidmljcpheabDrawD
import Derived.Test.YtgnkidmljcpheabFrame
namespace Go.Proofs.Ytgnkidmljcpheab.fnRunRecentMore
open Go.RowKit

/-- All keys of the first k of a trace, the last used one first. -/
def fulL (t : List Int) : Nat → List Int
  | 0 => []
  | k + 1 => gi t k :: (fulL t k).filter (nk (gi t k))
theorem fulL_nodup (t : List Int) : ∀ k, (fulL t k).Nodup
  | 0 => List.nodup_nil
  | k + 1 => by
    unfold fulL
    refine List.nodup_cons.2 ⟨fun h => ?_, (fulL_nodup t k).filter _⟩
    exact nk_true.1 (List.mem_filter.1 h).2 rfl
theorem take_filter {L : List Int} (hd : L.Nodup) (x : Int) (s : Nat) : ((L.take (s + 1)).filter (nk x)).take s = (L.filter (nk x)).take s := by
  rcases Nat.lt_or_ge s L.length with h | h
  · have hA : s ≤ ((L.take (s + 1)).filter (nk x)).length := by
      have hd' : (L.take (s + 1)).Nodup := hd.sublist (List.take_sublist _ _)
      have hl : (L.take (s + 1)).length = s + 1 := by simp; omega
      by_cases hm : x ∈ L.take (s + 1)
      · have := filter_len hd' hm; omega
      · rw [filter_miss hm]; omega
    have e : L.filter (nk x) = (L.take (s + 1)).filter (nk x) ++ (L.drop (s + 1)).filter (nk x) := by rw [← List.filter_append, List.take_append_drop]
    rw [e, List.take_append_of_le_length hA]
  · rw [List.take_of_length_le (show L.length ≤ s + 1 by omega)]
theorem rn_full (t : List Int) {r : Nat} (hr : 1 ≤ r) : ∀ k, rnL recL t r k = (fulL t k).take r
  | 0 => by simp [rnL, fulL]
  | k + 1 => by
    obtain ⟨s, rfl⟩ : ∃ s, r = s + 1 := ⟨r - 1, by omega⟩
    unfold rnL fulL
    rw [rn_full t hr k]
    simp only [recL, List.take_succ_cons]
    rw [take_filter (fulL_nodup t k)]
theorem rnN_more (t : List Int) {r : Nat} (hr : 1 ≤ r) : ∀ k, rnN recL t r k ≤ rnN recL t (r + 1) k
  | 0 => Int.le_refl _
  | k + 1 => by
    have ih := rnN_more t hr k
    have hb : bit (hasL (rnL recL t r k) (gi t k)) ≤ bit (hasL (rnL recL t (r + 1) k) (gi t k)) := by
      rw [rn_full t hr, rn_full t (show 1 ≤ r + 1 by omega)]
      by_cases h : gi t k ∈ (fulL t k).take r
      · have h' : gi t k ∈ (fulL t k).take (r + 1) := (List.take_subset_take_left _ (Nat.le_succ r)) h
        rw [show hasL ((fulL t k).take (r + 1)) (gi t k) = true from decide_eq_true h']
        exact (bit_bd _).2
      · rw [show hasL ((fulL t k).take r) (gi t k) = false from decide_eq_false h]
        exact (bit_bd _).1
    simp only [rnN]; omega
theorem rn_prefix (t : List Int) {r : Nat} (hr : 1 ≤ r) (k : Nat) : (rnL recL t (r + 1) k).take (rnL recL t r k).length = rnL recL t r k ∧ (rnL recL t r k).length ≤ (rnL recL t (r + 1) k).length := by
  rw [rn_full t hr, rn_full t (show 1 ≤ r + 1 by omega)]
  refine ⟨?_, by simp; omega⟩
  rw [List.take_take, List.length_take]
  rcases Nat.le_total r (fulL t k).length with h | h
  · congr 1; omega
  · rw [List.take_of_length_le (l := fulL t k) (i := r) h, List.take_of_length_le (by omega)]
theorem ge_dec {x y : Int} (h : x ≤ y) : decide (y < x) = false := by simp; omega

set_option maxRecDepth 100000 in
set_option maxHeartbeats 1000000 in
theorem walk (a : Option Addr) (n c : Nat) (z : List Int) (w : World) (h : Came .u8 w a n c z) :
    Calls Try.prog 6 #[.slice a n c] w (Law w) := by
  have hb := h.sb
  have hm : c ≤ 9223372036854775807 := by have := hb.2.2.1; simpa [maxLen] using this
  have hc := hb.2.1
  by_cases hn : n ≤ 1048576
  · go_enter Try.func6, Try.ntmps6
    go_wp2_with fail
    refine (drawRunRecent_c _ _ _ _ w hb).mono ?_
    rintro e w1 ⟨A1, n1, c1, l, room, rfl, hO1, hn1, hbd, hroom, hb1⟩
    have z1 := hb1.size
    have hc1 := hO1.le
    have hmx1 := hO1.si.max
    have hS1 := hO1.si
    go_wp2_with fail
    refine (implRunRecent_c _ _ _ l room w1 hS1).mono ?_
    rintro e w2 ⟨A2, n2, c2, rfl, hO2, hb2⟩
    have z2 := hb2.size
    go_wp2_with fail
    refine (specRunRecent_c _ _ _ l room w2 ((hS1.below hb2).more z2)).mono ?_
    rintro e w3 ⟨A3, n3, c3, rfl, hO3, hb3⟩
    have z3 := hb3.size
    have hO2' := hO2.below hb3
    have hbw3 : Below w.heap.size w w3 := (hb1.trans (hb2.mono z1)).trans (hb3.mono (by omega))
    go_wp2_with fail
    refine (equalInts_c _ _ _ _ _ _ _ _ _ _ _ hO2'.si hO3.si).mono ?_
    rintro e w4 ⟨rfl, q, rfl⟩
    have hE := eqL_self (runL recL l room)
    have hIN : ∀ x : Int, (x == x) = true ∧ (x != x) = false := by intro x; simp
    have hN1 := (hIN (runN recL l room)).1
    have hN2 := (hIN (runN recL l room)).2
    rcases Bool.eq_false_or_eq_true (vtr l) with hv | hv
    · rcases Bool.eq_false_or_eq_true (inR 1 8 room) with hk | hk
      · obtain ⟨e1, e2⟩ := run_yes (st := recL) hv hk
        have hrr := inR_true.1 hk
        obtain ⟨rm, rfl⟩ := Int.eq_ofNat_of_zero_le (show 0 ≤ room by omega)
        have hlen := Lib.hid hS1.len
        rw [Int.toNat_natCast, ← hlen.out] at e1 e2
        have hn24 : n1 ≤ 24 := by rw [hlen.out]; exact vtr_len hv
        have hbd1 := rnN_bd recL l rm n1
        have hneg : decide (rnN recL l rm n1 < 0) = false := by simp; omega
        have hS4 := (((hS1.below hb2).more z2).below hb3).drewN q
        have hT4 := hO2'.drewN q
        have hl2 := hO2.len
        rw [e1] at hT4 hl2
        rw [e2] at hN1 hN2
        have HE := Lib.hid e1
        have HL := Lib.hid hl2
        clear e1 hl2 hIN
        by_cases h8 : rm = 8
        · have h8i : ((rm : Int) == 8) = true := by subst h8; rfl
          clear h8 hrr hroom
          go_wp2_with fail
          refine (equalInts_c _ _ _ _ _ _ _ _ _ _ _ (hO2'.si.drewN q) (hO3.si.drewN q)).mono ?_
          rintro e w6 ⟨rfl, q6, rfl⟩
          go_wp2
          go_ret
          exact ⟨rfl, below_dR hbw3 (q + q6)⟩
        · have h8' : ((rm : Int) == 8) = false := by simp; omega
          have hk' : inR 1 8 ((rm : Int) + 1) = true := inR_true.2 (by omega)
          obtain ⟨f1, f2⟩ := run_yes (st := recL) hv hk'
          rw [show ((rm : Int) + 1).toNat = rm + 1 by omega, ← hlen.out] at f1 f2
          have hmore := rnN_more l (r := rm) (by omega) n1
          obtain ⟨p1, p2⟩ := rn_prefix l (r := rm) (by omega) n1
          rw [← HL.out] at p1 p2
          have hbd2 := rnN_bd recL l (rm + 1) n1
          have hE5 := eqL_self (rnL recL l rm n1)
          have F1 := Lib.hid f1
          have P1 := Lib.hid p1
          clear f1 p1
          go_wp2_with fail
          refine (implRunRecent_c _ _ _ l ((rm : Int) + 1) (w3.drewN q) (hS4.more z3)).mono ?_
          rintro e w5 ⟨A5, n5, c5, rfl, hO5, hb5⟩
          rw [F1.out] at hO5
          have hl5 := hO5.len
          have hT5 := hT4.below hb5
          have hbw5 : Below w.heap.size w w5 := (below_dR hbw3 q).trans (hb5.mono (by show _ ≤ w3.heap.size; omega))
          have hcut := hO5.si.cut (i := 0) (j := n2) (A' := A5) (Nat.zero_le _) (by omega) (fun _ => rfl) (fun _ => by cases A5 <;> simp [Addr.add])
          rw [Nat.sub_zero, Nat.sub_zero, List.drop_zero, P1.out] at hcut
          have b0 : (n2 : Int) ≤ (n5 : Int) := by omega
          have b1 : (n2 : Int) ≤ (c5 : Int) := by have := hO5.le; omega
          have b2 : (0 : Int) ≤ (n2 : Int) := by omega
          have b3 : decide ((n5 : Int) < (n2 : Int)) = false := ge_dec b0
          have b4 : decide (rnN recL l (rm + 1) n1 < rnN recL l rm n1) = false := ge_dec hmore
          clear hl5 p2
          go_wp2_with fail
          refine (equalInts_c _ _ _ _ _ _ (rnL recL l rm n1) (rnL recL l rm n1) _ _ _ hcut hT5.si).mono ?_
          rintro e w7 ⟨rfl, q7, rfl⟩
          go_wp2
          go_ret
          exact ⟨ret_bool (by simp; try omega), below_dR hbw5 q7⟩
      · obtain ⟨e1, e2⟩ := run_no2 (st := recL) (t := l) hk
        rw [e1] at hO2' hO3 hE
        rw [e2] at hN1 hN2
        clear hIN
        go_wp2_with fail
        refine (equalInts_c _ _ _ _ _ _ _ _ _ _ _ (hO2'.si.drewN q) (hO3.si.drewN q)).mono ?_
        rintro e w6 ⟨rfl, q6, rfl⟩
        go_wp2
        go_ret
        exact ⟨rfl, below_dR hbw3 (q + q6)⟩
    · obtain ⟨e1, e2⟩ := run_no1 (st := recL) (room := room) hv
      rw [e1] at hO2' hO3 hE
      rw [e2] at hN1 hN2
      clear hIN
      go_wp2_with fail
      refine (equalInts_c _ _ _ _ _ _ _ _ _ _ _ (hO2'.si.drewN q) (hO3.si.drewN q)).mono ?_
      rintro e w6 ⟨rfl, q6, rfl⟩
      go_wp2
      go_ret
      exact ⟨rfl, below_dR hbw3 (q + q6)⟩
  · go_enter Try.func6, Try.ntmps6
    go_wp2
    go_ret
    exact ⟨rfl, Below.refl _ _⟩


end Go.Proofs.Ytgnkidmljcpheab.fnRunRecentMore
