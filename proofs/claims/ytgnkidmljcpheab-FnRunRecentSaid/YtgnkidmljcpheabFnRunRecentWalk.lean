/- The walk of a law: Law FnRunRecent: RunRecent's cache is the last keys of the trace, each once. -/
import Derived.Test.YtgnkidmljcpheabRcD
import Derived.Test.YtgnkidmljcpheabDrawD
import Derived.Test.YtgnkidmljcpheabFrame
namespace Go.Proofs.Ytgnkidmljcpheab.fnRunRecent
open Go.RowKit

/-- All keys of the first k of a trace, the last used one first. -/
def fulL (t : List Int) : Nat → List Int
  | 0 => []
  | k + 1 => gi t k :: (fulL t k).filter (nk (gi t k))
theorem fulL_nodup (t : List Int) : ∀ k, (fulL t k).Nodup
  | 0 => List.nodup_nil
  | k + 1 => by
    unfold fulL
    refine List.nodup_cons.2 ⟨fun h => ?_, (fulL_nodup t k).filter _⟩
    exact nk_true.1 (List.mem_filter.1 h).2 rfl
theorem take_filter {L : List Int} (hd : L.Nodup) (x : Int) (s : Nat) : ((L.take (s + 1)).filter (nk x)).take s = (L.filter (nk x)).take s := by
  rcases Nat.lt_or_ge s L.length with h | h
  · have hA : s ≤ ((L.take (s + 1)).filter (nk x)).length := by
      have hd' : (L.take (s + 1)).Nodup := hd.sublist (List.take_sublist _ _)
      have hl : (L.take (s + 1)).length = s + 1 := by simp; omega
      by_cases hm : x ∈ L.take (s + 1)
      · have := filter_len hd' hm; omega
      · rw [filter_miss hm]; omega
    have e : L.filter (nk x) = (L.take (s + 1)).filter (nk x) ++ (L.drop (s + 1)).filter (nk x) := by rw [← List.filter_append, List.take_append_drop]
    rw [e, List.take_append_of_le_length hA]
  · rw [List.take_of_length_le (show L.length ≤ s + 1 by omega)]
theorem rn_full (t : List Int) {r : Nat} (hr : 1 ≤ r) : ∀ k, rnL recL t r k = (fulL t k).take r
  | 0 => by simp [rnL, fulL]
  | k + 1 => by
    obtain ⟨s, rfl⟩ : ∃ s, r = s + 1 := ⟨r - 1, by omega⟩
    unfold rnL fulL
    rw [rn_full t hr k]
    simp only [recL, List.take_succ_cons]
    rw [take_filter (fulL_nodup t k)]
def nin (L : List Int) (y : Int) : Bool := !decide (y ∈ L)
theorem nin_true {L : List Int} {y : Int} : nin L y = true ↔ y ∉ L := by simp [nin]
theorem walked_in {t L : List Int} {j : Nat} (h : gi t j ∈ L) : (fulL t (j + 1)).filter (nin L) = (fulL t j).filter (nin L) := by
  have e : fulL t (j + 1) = gi t j :: (fulL t j).filter (nk (gi t j)) := rfl
  rw [e, List.filter_cons_of_neg (by simp [nin, h]), List.filter_filter]
  refine List.filter_congr fun y hy => ?_
  by_cases hm : y ∈ L
  · simp [nin, hm]
  · have : y ≠ gi t j := fun e => hm (e ▸ h)
    simp [nin, hm, nk, this]
theorem walked_out {t L : List Int} {j : Nat} (h : gi t j ∉ L) : L ++ (fulL t (j + 1)).filter (nin L) = (L ++ [gi t j]) ++ (fulL t j).filter (nin (L ++ [gi t j])) := by
  have e : fulL t (j + 1) = gi t j :: (fulL t j).filter (nk (gi t j)) := rfl
  rw [e, List.filter_cons_of_pos (by simp [nin, h]), List.filter_filter, List.append_assoc, List.singleton_append]
  congr 2
  refine List.filter_congr fun y hy => ?_
  by_cases hm : y ∈ L
  · simp [nin, hm]
  · by_cases hy' : y = gi t j
    · simp [nin, nk, hy']
    · simp [nin, hm, nk, hy']
theorem walked_end {t L R : List Int} {r n m : Nat} (hr : 1 ≤ r) (hm : m = L.length) (h : fulL t n = L ++ R) (he : R = [] ∧ m ≤ r ∨ m = r) : rnL recL t r n = L := by
  rw [rn_full t hr, h]
  rcases he with ⟨rfl, h1⟩ | h1
  · rw [List.append_nil, List.take_of_length_le (by omega)]
  · exact List.take_left' (by omega)

set_option maxRecDepth 100000 in
set_option maxHeartbeats 1000000 in
theorem walk (a : Option Addr) (n c : Nat) (z : List Int) (w : World) (h : Came .u8 w a n c z) :
    Calls Try.prog 4 #[.slice a n c] w (Law w) := by
  have hb := h.sb
  have hm : c ≤ 9223372036854775807 := by have := hb.2.2.1; simpa [maxLen] using this
  have hc := hb.2.1
  by_cases hn : n ≤ 1048576
  · go_enter Try.func4, Try.ntmps4
    go_wp2_with fail
    refine (drawRunRecent_c _ _ _ _ w hb).mono ?_
    rintro e w1 ⟨A1, n1, c1, l, room, rfl, hO1, hn1, hbd, hroom, hb1⟩
    have z1 := hb1.size
    have hc1 := hO1.le
    have hmx1 := hO1.si.max
    have hS1 := hO1.si
    go_wp2_with fail
    refine (implRunRecent_c _ _ _ l room w1 hS1).mono ?_
    rintro e w2 ⟨A2, n2, c2, rfl, hO2, hb2⟩
    have z2 := hb2.size
    go_wp2_with fail
    refine (specRunRecent_c _ _ _ l room w2 ((hS1.below hb2).more z2)).mono ?_
    rintro e w3 ⟨A3, n3, c3, rfl, hO3, hb3⟩
    have z3 := hb3.size
    have hO2' := hO2.below hb3
    have hbw3 : Below w.heap.size w w3 := (hb1.trans (hb2.mono z1)).trans (hb3.mono (by omega))
    go_wp2_with fail
    refine (equalInts_c _ _ _ _ _ _ _ _ _ _ _ hO2'.si hO3.si).mono ?_
    rintro e w4 ⟨rfl, q, rfl⟩
    have hE := eqL_self (runL recL l room)
    have hIN : ∀ x : Int, (x == x) = true ∧ (x != x) = false := by intro x; simp
    have hN1 := (hIN (runN recL l room)).1
    have hN2 := (hIN (runN recL l room)).2
    rcases Bool.eq_false_or_eq_true (vtr l) with hv | hv
    · rcases Bool.eq_false_or_eq_true (inR 1 8 room) with hk | hk
      · obtain ⟨e1, e2⟩ := run_yes (st := recL) hv hk
        have hrr := inR_true.1 hk
        obtain ⟨rm, rfl⟩ := Int.eq_ofNat_of_zero_le (show 0 ≤ room by omega)
        have hlen := Lib.hid hS1.len
        rw [Int.toNat_natCast, ← hlen.out] at e1 e2
        have hn24 : n1 ≤ 24 := by rw [hlen.out]; exact vtr_len hv
        have hbd1 := rnN_bd recL l rm n1
        have hneg : decide (rnN recL l rm n1 < 0) = false := by simp; omega
        have hS4 := (((hS1.below hb2).more z2).below hb3).drewN q
        have hT4 := hO2'.drewN q
        have hl2 := hO2.len
        rw [e1] at hT4 hl2
        rw [e2] at hN1 hN2
        have HE := Lib.hid e1
        have HL := Lib.hid hl2
        clear e1 hl2 hIN
        have hE5 := eqL_self (rnL recL l rm n1)
        have hge : decide ((n1 : Int) < rnN recL l rm n1) = false := by simp; omega
        have hle : decide (rnN recL l rm n1 ≤ (n1 : Int)) = true := by simp; omega
        go_wp2
        have hO0 := OI.lit (w3.drewN q) w3.heap.size [] 0 rfl (Nat.le_refl _) (by simp) #[] rfl
        have hb0 : Below w3.heap.size (w3.drewN q) ((w3.drewN q).alloc (.cells #[] 3)) := Below.alloc (Below.refl w3.heap.size (w3.drewN q)) (Nat.le_refl w3.heap.size) _
        go_loopw [9, 10] (fun v i wr => ∃ (k : Nat) (A : Option Addr) (m c : Nat) (L : List Int), k ≤ n1 ∧ m ≤ rm ∧ i = .int .i64 ((k : Int) - 1) ∧ v = .slice A m c ∧ OI wr w3.heap.size A m c L ∧ fulL l n1 = L ++ (fulL l k).filter (nin L) ∧ Below w3.heap.size (w3.drewN q) wr) (fun _ i _ => (intOf i + 1).toNat)
        case atStart => exact ⟨n1, _, 0, 0, [], Nat.le_refl _, Nat.zero_le _, rfl, rfl, hO0, by rw [List.nil_append, List.filter_eq_self.2 (fun y _ => by simp [nin])], hb0⟩
        case round =>
          obtain ⟨k, A, m, c', L, hk2, hmr, rfl, rfl, hO, hful, hbr⟩ := hrel
          have hsz : w3.heap.size ≤ wr.heap.size := hbr.size
          have hSr : SI wr w2.heap.size A1 n1 c1 l := hS4.keep fun p hp => hbr.cell (by omega)
          have hTr := hT4.below hbr
          have HFUL := Lib.hid hful
          clear hful
          by_cases hgo : 0 < k ∧ m < rm
          · obtain ⟨hk0, hmlt⟩ := hgo
            obtain ⟨j, rfl⟩ : ∃ j, k = j + 1 := ⟨k - 1, by omega⟩
            obtain ⟨b, o, rfl, hbB, hcell⟩ := hSr.at_ (k := j) (by omega)
            have ej : (((j + 1 : Nat) : Int) - 1) = (j : Int) := by omega
            rw [ej]
            clear ej
            have hOs := hO.si
            rcases Bool.eq_false_or_eq_true (hasL L (gi l j)) with hh | hh
            · go_wp2_with (go_at_call 23; refine (lawsIsIn_c _ _ _ L _ _ _ hOs).mono ?_; rintro e w' ⟨rfl, rfl⟩)
              go_roundw
              case rel => exact ⟨j, A, m, c', L, by omega, hmr, by go_num, rfl, hO, by rw [HFUL.out, walked_in (of_decide_eq_true hh)], hbr⟩
              case measure => first | (simp [intOf]; done) | (simp [intOf]; omega)
            · go_wp2_with (first | (go_at_call 23; refine (lawsIsIn_c _ _ _ L _ _ _ hOs).mono ?_; rintro e w' ⟨rfl, rfl⟩) | (at_builtin; refine wpList_app rfl _ _ _ rfl Try.underlying23 rfl rfl (hO.alloc _) (SI.one _ _) (by omega) (by simp; omega) ?_; intro A5 c5 w5 hO5 hg5 hat5))
              go_roundw
              case rel => exact ⟨j, A5, m + 1, c5, L ++ [gi l j], by omega, by omega, by go_num, rfl, hO5, by rw [HFUL.out, walked_out (of_decide_eq_false hh)], (hbr.alloc hsz _).grown hg5 (by simp; omega) fun q hq => (hO.lt q hq).1⟩
              case measure => first | (simp [intOf]; done) | (simp [intOf]; omega)
          · have hend : rnL recL l rm n1 = L := by
              refine walked_end (m := m) (by omega) hO.len HFUL.out ?_
              by_cases hk0 : k = 0
              · subst hk0; exact .inl ⟨rfl, hmr⟩
              · exact .inr (by omega)
            rw [hend] at hTr
            have hE6 := eqL_self L
            have hbwr : Below w.heap.size w wr := (below_dR hbw3 q).trans (hbr.mono (by omega))
            clear hend
            by_cases hk0 : k = 0
            · subst hk0
              go_wp2_with fail
              refine (equalInts_c _ _ _ _ _ _ L L _ _ _ hTr.si hO.si).mono ?_
              rintro e w7 ⟨rfl, q7, rfl⟩
              go_wp2
              go_ret
              exact ⟨ret_bool (by simp; try omega), below_dR hbwr q7⟩
            · obtain ⟨j, rfl⟩ : ∃ j, k = j + 1 := ⟨k - 1, by omega⟩
              have ej : (((j + 1 : Nat) : Int) - 1) = (j : Int) := by omega
              rw [ej]
              clear ej
              have hmrd : decide ((m : Int) < (rm : Int)) = false := by simp; omega
              go_wp2_with fail
              refine (equalInts_c _ _ _ _ _ _ L L _ _ _ hTr.si hO.si).mono ?_
              rintro e w7 ⟨rfl, q7, rfl⟩
              go_wp2
              go_ret
              exact ⟨ret_bool (by simp; try omega), below_dR hbwr q7⟩
      · obtain ⟨e1, e2⟩ := run_no2 (st := recL) (t := l) hk
        rw [e1] at hO2' hO3 hE
        rw [e2] at hN1 hN2
        clear hIN
        go_wp2_with fail
        refine (equalInts_c _ _ _ _ _ _ _ _ _ _ _ (hO2'.si.drewN q) (hO3.si.drewN q)).mono ?_
        rintro e w6 ⟨rfl, q6, rfl⟩
        go_wp2
        go_ret
        exact ⟨rfl, below_dR hbw3 (q + q6)⟩
    · obtain ⟨e1, e2⟩ := run_no1 (st := recL) (room := room) hv
      rw [e1] at hO2' hO3 hE
      rw [e2] at hN1 hN2
      clear hIN
      go_wp2_with fail
      refine (equalInts_c _ _ _ _ _ _ _ _ _ _ _ (hO2'.si.drewN q) (hO3.si.drewN q)).mono ?_
      rintro e w6 ⟨rfl, q6, rfl⟩
      go_wp2
      go_ret
      exact ⟨rfl, below_dR hbw3 (q + q6)⟩
  · go_enter Try.func4, Try.ntmps4
    go_wp2
    go_ret
    exact ⟨rfl, Below.refl _ _⟩


end Go.Proofs.Ytgnkidmljcpheab.fnRunRecent
