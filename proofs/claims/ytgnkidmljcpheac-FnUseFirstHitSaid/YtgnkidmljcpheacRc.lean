/- Contracts of chapter 2: traces, keys, the recent ones; the program's and the model's. No statement is proved here. -/
import Derived.Test.YtgnkidmljcpheacFrame
namespace Go.Proofs.Ytgnkidmljcpheac
open Go.RowKit

theorem below_dR {B : Nat} {a w : World} (h : Below B a w) (q : Nat) : Below B a (w.drewN q) := ⟨h.os, h.tape, h.output, h.size, h.block⟩

/-- A list that is a trace. -/
def vtr (t : List Int) : Bool := decide (t.length ≤ 24) && allR 0 31 t
theorem vtr_len {t : List Int} (h : vtr t = true) : t.length ≤ 24 := by simp [vtr] at h; exact h.1
theorem vtr_all {t : List Int} (h : vtr t = true) : allR 0 31 t = true := by simp [vtr] at h; exact h.2
theorem vtr_of {t : List Int} (h1 : t.length ≤ 24) (h2 : allR 0 31 t = true) : vtr t = true := by simp [vtr, h1, h2]
theorem vtr_no1 {t : List Int} (h1 : ¬ t.length ≤ 24) : vtr t = false := by simp [vtr, h1]
theorem vtr_no2 {t : List Int} (h2 : allR 0 31 t = false) : vtr t = false := by simp [vtr, h2]
theorem allR_take {lo hi : Int} {l : List Int} (h : allR lo hi l = true) (k : Nat) : allR lo hi (l.take k) = true := allR_of fun _ hx => allR_mem h (List.mem_of_mem_take hx)
theorem allR_drop {lo hi : Int} {l : List Int} (h : allR lo hi l = true) (k : Nat) : allR lo hi (l.drop k) = true := allR_of fun _ hx => allR_mem h (List.mem_of_mem_drop hx)

theorem validTrace_c (A : Option Addr) (n c : Nat) (l : List Int) (w : World) (B : Nat) (h : SI w B A n c l) :
    Calls Try.prog 59 #[.slice A n c] w fun e w' => e = .returned (.bool (vtr l)) ∧ w = w' := by
  have hm := h.max
  have hc := h.le
  by_cases hn : n ≤ 24
  · have hl : l.length ≤ 24 := by rw [← h.len]; exact hn
    have hd : decide ((n : Int) ≤ 24) = true := by simp; omega
    go_enter Try.func59, Try.ntmps59
    go_wp2_with (go_at_call 66; refine (allIn_c _ _ _ l _ _ _ _ h).mono ?_; rintro e w' ⟨rfl, rfl⟩)
    go_ret
    exact ⟨ret_bool (by simp [vtr, hl]), rfl⟩
  · have hl : ¬ l.length ≤ 24 := by rw [← h.len]; exact hn
    have hd : decide ((n : Int) ≤ 24) = false := by simp; omega
    go_enter Try.func59, Try.ntmps59
    go_wp2
    go_ret
    exact ⟨ret_bool (vtr_no1 hl).symm, rfl⟩
theorem specValidTrace_c (A : Option Addr) (n c : Nat) (l : List Int) (w : World) (B : Nat) (h : SI w B A n c l) :
    Calls Try.prog 41 #[.slice A n c] w fun e w' => e = .returned (.bool (vtr l)) ∧ w = w' := by
  go_enter Try.func41, Try.ntmps41
  go_wp2_with (go_at_call 59; refine (validTrace_c _ _ _ l _ _ h).mono ?_; rintro e w' ⟨rfl, rfl⟩)
  go_ret
  exact ⟨rfl, rfl⟩
theorem implValidTrace_c (A : Option Addr) (n c : Nat) (l : List Int) (w : World) (B : Nat) (h : SI w B A n c l) :
    Calls Try.prog 42 #[.slice A n c] w fun e w' => e = .returned (.bool (vtr l)) ∧ w = w' := by
  have hm := h.max
  have hc := h.le
  by_cases hn : n ≤ 24
  · have hl : l.length ≤ 24 := by rw [← h.len]; exact hn
    go_enter Try.func42, Try.ntmps42
    go_wp2
    go_loop [10] (fun i => ∃ k : Nat, k ≤ n ∧ i = .int .i64 k ∧ allR 0 31 (l.take k) = true) (fun i => n - (intOf i).toNat)
    case atStart => exact ⟨0, Nat.zero_le _, rfl, rfl⟩
    case round =>
      obtain ⟨k, hk, rfl, hr⟩ := hrel
      have HR := Lib.hid hr
      clear hr
      by_cases hlt : k < n
      · obtain ⟨b, o, rfl, hb, hcell⟩ := h.at_ hlt
        rcases Bool.eq_false_or_eq_true (inR 0 31 (gi l k)) with hx | hx
        all_goals go_wp2_with (go_at_call 49; refine (validKey_c _ _).mono ?_; rintro e w' ⟨rfl, rfl⟩)
        · go_round
          case rel => exact ⟨k + 1, by omega, by go_num, allR_take_succ (by rw [← h.len]; exact hlt) HR.out hx⟩
          case measure => simp [intOf]; omega
        · go_ret
          exact ⟨ret_bool (vtr_no2 (allR_stop (by rw [← h.len]; exact hlt) hx)).symm, rfl⟩
      · go_wp2
        go_ret
        have hk' : k = n := by omega
        exact ⟨ret_bool (vtr_of hl (by rw [← HR.out, List.take_of_length_le (by rw [← h.len]; omega)])).symm, rfl⟩
  · have hl : ¬ l.length ≤ 24 := by rw [← h.len]; exact hn
    go_enter Try.func42, Try.ntmps42
    go_wp2
    go_ret
    exact ⟨ret_bool (vtr_no1 hl).symm, rfl⟩


theorem index_c (A : Option Addr) (n c : Nat) (l : List Int) (x : Int) (w : World) (B : Nat) (h : SI w B A n c l) :
    Calls Try.prog 65 #[.slice A n c, .int .i64 x] w fun e w' => e = .returned (.int .i64 (placeL l x)) ∧ w = w' := by
  have hc := h.le
  have hm := h.max
  go_enter Try.func65, Try.ntmps65
  go_wp2
  go_loop [8] (fun i => ∃ k : Nat, k ≤ n ∧ i = .int .i64 k ∧ ∀ j, j < k → gi l j ≠ x) (fun i => n - (intOf i).toNat)
  case atStart => exact ⟨0, Nat.zero_le _, rfl, fun j hj => by omega⟩
  case round =>
    obtain ⟨k, hk, rfl, hr⟩ := hrel
    have HR := Lib.hid hr
    clear hr
    by_cases hlt : k < n
    · obtain ⟨b, o, rfl, hb, hcell⟩ := h.at_ hlt
      rcases Bool.eq_false_or_eq_true (x == gi l k) with hx | hx
      all_goals go_wp2
      · go_ret
        exact ⟨ret_int (placeL_found (by rw [← h.len]; exact hlt) (by simpa using (beq_iff_eq.1 hx).symm) HR.out).symm, rfl⟩
      · go_round
        case rel =>
          refine ⟨k + 1, by omega, by go_num, fun j hj => ?_⟩
          rcases Nat.lt_or_ge j k with hjk | hjk
          · exact HR.out j hjk
          · obtain rfl : j = k := by omega
            exact fun e => (beq_eq_false_iff_ne.1 hx) e.symm
        case measure => simp [intOf]; omega
    · go_wp2
      go_ret
      have hk' : k = n := by omega
      exact ⟨ret_int (placeL_none fun j hj => HR.out j (by rw [← h.len] at hj; omega)).symm, rfl⟩
theorem contains_c (A : Option Addr) (n c : Nat) (l : List Int) (x : Int) (w : World) (B : Nat) (h : SI w B A n c l) :
    Calls Try.prog 50 #[.slice A n c, .int .i64 x] w fun e w' => e = .returned (.bool (hasL l x)) ∧ w' = w := by
  go_enter Try.func50, Try.ntmps50
  go_wp2_with (go_at_call 65; refine (index_c _ _ _ l _ _ _ h).mono ?_; rintro e w' ⟨rfl, rfl⟩)
  go_ret
  exact ⟨ret_bool (by simp [hasL, placeL_nonneg]), rfl⟩

/-- All numbers of a list differ. -/
def distL (l : List Int) : Bool := decide l.Nodup
theorem nodup_gi {l : List Int} : l.Nodup ↔ ∀ j i, j < i → i < l.length → gi l j ≠ gi l i := by
  rw [List.Nodup, List.pairwise_iff_getElem]
  constructor
  · intro h j i hji hi
    have := h j i (by omega) hi hji
    simpa [gi, List.getD, List.getElem?_eq_getElem hi, List.getElem?_eq_getElem (show j < l.length by omega)] using this
  · intro h j i hj hi hji
    have := h j i hji hi
    simpa [gi, List.getD, List.getElem?_eq_getElem hi, List.getElem?_eq_getElem hj] using this
theorem distL_yes {l : List Int} (h : ∀ j i, j < i → i < l.length → gi l j ≠ gi l i) : distL l = true := decide_eq_true (nodup_gi.2 h)
theorem distL_no {l : List Int} {j i : Nat} (hji : j < i) (hi : i < l.length) (h : gi l j = gi l i) : distL l = false := decide_eq_false fun hn => nodup_gi.1 hn j i hji hi h
theorem plc_le {l : List Int} {k : Nat} (hk : k < l.length) : plc l (gi l k) ≤ k := by
  rcases Nat.lt_or_ge k (plc l (gi l k)) with h | h
  · exfalso
    have := List.not_of_lt_findIdx (p := fun y => decide (y = gi l k)) (xs := l) (i := k) h
    apply of_decide_eq_false this
    simp [gi, List.getD, List.getElem?_eq_getElem hk]
  · exact h

theorem ne_of_lt_plc {l : List Int} {x : Int} {j : Nat} (h : j < plc l x) : gi l j ≠ x := by
  intro e
  have hj : j < l.length := Nat.lt_of_lt_of_le h (List.findIdx_le_length)
  have hne := List.not_of_lt_findIdx (p := fun y => decide (y = x)) (xs := l) (i := j) h
  apply of_decide_eq_false hne
  simpa [gi, List.getD, List.getElem?_eq_getElem hj] using e

theorem distinct_c (A : Option Addr) (n c : Nat) (l : List Int) (w : World) (B : Nat) (h : SI w B A n c l) :
    Calls Try.prog 67 #[.slice A n c] w fun e w' => e = .returned (.bool (distL l)) ∧ w = w' := by
  have hc := h.le
  have hm := h.max
  go_enter Try.func67, Try.ntmps67
  go_wp2
  go_loop [3] (fun i => ∃ k : Nat, k ≤ n ∧ i = .int .i64 k ∧ ∀ j i, j < i → i < k → gi l j ≠ gi l i) (fun i => n - (intOf i).toNat)
  case atStart => exact ⟨0, Nat.zero_le _, rfl, fun j i _ hi => by omega⟩
  case round =>
    obtain ⟨k, hk, rfl, hr⟩ := hrel
    have HR := Lib.hid hr
    clear hr
    by_cases hlt : k < n
    · obtain ⟨b, o, rfl, hb, hcell⟩ := h.at_ hlt
      have hkl : k < l.length := by rw [← h.len]; exact hlt
      have hpl : placeL l (gi l k) = (plc l (gi l k) : Int) := by rw [placeL, if_pos (gi_mem hkl)]
      have hle := plc_le hkl
      have hgp := gi_plc (gi_mem hkl)
      have HG := Lib.hid hgp
      clear hgp
      by_cases hx : plc l (gi l k) = k
      · have hd : (placeL l (gi l k) != (k : Int)) = false := by rw [hpl]; simp [hx]
        have HX := Lib.hid hx
        clear hx hpl hle
        go_wp2_with (go_at_call 68; refine (placeOf_c _ _ _ l _ _ _ h).mono ?_; rintro e w' ⟨rfl, rfl⟩)
        go_round
        case rel =>
          refine ⟨k + 1, by omega, by go_num, fun j i hji hi => ?_⟩
          rcases Nat.lt_or_ge i k with hik | hik
          · exact HR.out j i hji hik
          · obtain rfl : i = k := by omega
            intro e
            exact ne_of_lt_plc (l := l) (x := gi l i) (by rw [HX.out]; exact hji) e
        case measure => simp [intOf]; omega
      · have hd : (placeL l (gi l k) != (k : Int)) = true := by rw [hpl]; simp; omega
        clear hpl
        go_wp2_with (go_at_call 68; refine (placeOf_c _ _ _ l _ _ _ h).mono ?_; rintro e w' ⟨rfl, rfl⟩)
        go_ret
        exact ⟨ret_bool (distL_no (j := plc l (gi l k)) (i := k) (by omega) hkl HG.out).symm, rfl⟩
    · go_wp2
      go_ret
      have hk' : k = n := by omega
      exact ⟨ret_bool (distL_yes fun j i hji hi => HR.out j i hji (by rw [← h.len] at hi; omega)).symm, rfl⟩

/-- A list that is the keys of a cache with a room. -/
def vks (l : List Int) (room : Int) : Bool := inR 1 8 room && decide ((l.length : Int) ≤ room) && allR 0 31 l && distL l

theorem validRoom_c (key : Int) (w : World) :
    Calls Try.prog 60 #[.int .i64 key] w fun e w' => e = .returned (.bool (inR 1 8 key)) ∧ w = w' := by
  by_cases h1 : 1 ≤ key
  · have hd : decide (1 ≤ key) = true := by simpa using h1
    go_enter Try.func60, Try.ntmps60
    go_wp2
    go_ret
    exact ⟨by simp [inR, *], rfl⟩
  · have hd : decide (1 ≤ key) = false := by simpa using h1
    go_enter Try.func60, Try.ntmps60
    go_wp2
    go_ret
    exact ⟨by simp [inR, *], rfl⟩

theorem validKeys_c (A : Option Addr) (n c : Nat) (l : List Int) (room : Int) (w : World) (B : Nat) (h : SI w B A n c l) :
    Calls Try.prog 51 #[.slice A n c, .int .i64 room] w fun e w' => e = .returned (.bool (vks l room)) ∧ w = w' := by
  have hc := h.le
  have hm := h.max
  have hl := h.len
  have e : vks l room = (inR 1 8 room && decide ((n : Int) ≤ room) && allR 0 31 l && distL l) := by rw [hl]; rfl
  have HE := Lib.hid e
  clear e hl
  rcases Bool.eq_false_or_eq_true (inR 1 8 room) with h1 | h1
  · rcases Bool.eq_false_or_eq_true (decide ((n : Int) ≤ room)) with h2 | h2
    · rcases Bool.eq_false_or_eq_true (allR 0 31 l) with h3 | h3
      all_goals
        go_enter Try.func51, Try.ntmps51
        go_wp2_with (first | (go_at_call 52; refine (inRange_c _ _ _ _).mono ?_; rintro e w' ⟨rfl, rfl⟩) | (go_at_call 66; refine (allIn_c _ _ _ l _ _ _ _ h).mono ?_; rintro e w' ⟨rfl, rfl⟩) | (go_at_call 67; refine (distinct_c _ _ _ l _ _ h).mono ?_; rintro e w' ⟨rfl, rfl⟩))
        go_ret
        exact ⟨ret_bool (by rw [HE.out, h1, h2, h3]; simp), rfl⟩
    · go_enter Try.func51, Try.ntmps51
      go_wp2_with (go_at_call 52; refine (inRange_c _ _ _ _).mono ?_; rintro e w' ⟨rfl, rfl⟩)
      go_ret
      exact ⟨ret_bool (by rw [HE.out, h1, h2]; simp), rfl⟩
  · go_enter Try.func51, Try.ntmps51
    go_wp2_with (go_at_call 52; refine (inRange_c _ _ _ _).mono ?_; rintro e w' ⟨rfl, rfl⟩)
    go_ret
    exact ⟨ret_bool (by rw [HE.out, h1]; simp), rfl⟩
theorem specValidKeys_c (A : Option Addr) (n c : Nat) (l : List Int) (room : Int) (w : World) (B : Nat) (h : SI w B A n c l) :
    Calls Try.prog 43 #[.slice A n c, .int .i64 room] w fun e w' => e = .returned (.bool (vks l room)) ∧ w = w' := by
  go_enter Try.func43, Try.ntmps43
  go_wp2_with (go_at_call 51; refine (validKeys_c _ _ _ l _ _ _ h).mono ?_; rintro e w' ⟨rfl, rfl⟩)
  go_ret
  exact ⟨rfl, rfl⟩

theorem vks_yes {l : List Int} {room : Int} (h1 : 1 ≤ room) (h2 : room ≤ 8) (h3 : (l.length : Int) ≤ room) (h4 : allR 0 31 l = true) (h5 : distL l = true) : vks l room = true := by
  simp [vks, inR, h1, h2, h3, h4, h5]
theorem vks_iff {l : List Int} {room : Int} : vks l room = true ↔ (1 ≤ room ∧ room ≤ 8) ∧ (l.length : Int) ≤ room ∧ allR 0 31 l = true ∧ distL l = true := by
  simp [vks, inR, and_assoc]
theorem vks_no {l : List Int} {room : Int} (h : ¬ ((1 ≤ room ∧ room ≤ 8) ∧ (l.length : Int) ≤ room ∧ allR 0 31 l = true ∧ distL l = true)) : vks l room = false := by
  cases e : vks l room with
  | false => rfl
  | true => exact absurd (vks_iff.1 e) h

theorem implValidKeys_c (A : Option Addr) (n c : Nat) (l : List Int) (room : Int) (w : World) (B : Nat) (h : SI w B A n c l) :
    Calls Try.prog 44 #[.slice A n c, .int .i64 room] w fun e w' => e = .returned (.bool (vks l room)) ∧ w = w' := by
  have hc := h.le
  have hm := h.max
  rcases Bool.eq_false_or_eq_true (inR 1 8 room) with h1 | h1
  · have hr := inR_true.1 h1
    by_cases h2 : (n : Int) ≤ room
    · have hd : decide (room < (n : Int)) = false := by simp; omega
      go_enter Try.func44, Try.ntmps44
      go_wp2_with (go_at_call 60; refine (validRoom_c _ _).mono ?_; rintro e w' ⟨rfl, rfl⟩)
      go_loop [18] (fun i => ∃ k : Nat, k ≤ n ∧ i = .int .i64 k ∧ allR 0 31 (l.take k) = true ∧ ∀ j i, j < i → i < k → gi l j ≠ gi l i) (fun i => n - (intOf i).toNat)
      case atStart => exact ⟨0, Nat.zero_le _, rfl, rfl, fun j i _ hi => by omega⟩
      case round =>
        obtain ⟨k, hk, rfl, hq, hr⟩ := hrel
        have HR := Lib.hid hr
        have HQ := Lib.hid hq
        clear hr hq
        by_cases hlt : k < n
        · obtain ⟨b, o, rfl, hb, hcell⟩ := h.at_ hlt
          have hkl : k < l.length := by rw [← h.len]; exact hlt
          rcases Bool.eq_false_or_eq_true (inR 0 31 (gi l k)) with hx | hx
          · have hcut := h.cut (i := 0) (j := k) (A' := some ⟨b, o, none⟩) (Nat.zero_le _) hk (fun _ => rfl) (fun _ => by simp [Addr.add])
            simp only [Nat.sub_zero, List.drop_zero] at hcut
            generalize ht : l.take k = t at hcut
            have HT := Lib.hid ht
            clear ht
            rcases Bool.eq_false_or_eq_true (hasL t (gi l k)) with hy | hy
            all_goals go_wp2_with (first | (go_at_call 49; refine (validKey_c _ _).mono ?_; rintro e w' ⟨rfl, rfl⟩) | (go_at_call 50; refine (contains_c _ _ _ _ _ _ _ hcut).mono ?_; rintro e w' ⟨rfl, rfl⟩))
            · go_ret
              refine ⟨ret_bool (vks_no ?_).symm, rfl⟩
              rintro ⟨_, _, _, hd⟩
              obtain ⟨j, hj, e⟩ := mem_gi (of_decide_eq_true hy)
              rw [← HT.out] at hj e
              have hjk : j < k := by simp at hj; omega
              rw [gi_take hjk] at e
              rw [distL_no hjk hkl e] at hd; cases hd
            · go_round
              case rel =>
                refine ⟨k + 1, by omega, by go_num, allR_take_succ hkl HQ.out hx, fun j i hji hi => ?_⟩
                rcases Nat.lt_or_ge i k with hik | hik
                · exact HR.out j i hji hik
                · obtain rfl : i = k := by omega
                  intro e
                  apply of_decide_eq_false hy
                  rw [← HT.out, ← e, ← gi_take hji]
                  exact gi_mem (by simp; omega)
              case measure => simp [intOf]; omega
          · go_wp2_with (go_at_call 49; refine (validKey_c _ _).mono ?_; rintro e w' ⟨rfl, rfl⟩)
            go_ret
            refine ⟨ret_bool (vks_no ?_).symm, rfl⟩
            rintro ⟨_, _, ha, _⟩
            rw [allR_stop hkl hx] at ha; cases ha
        · go_wp2
          go_ret
          have hk' : k = n := by omega
          refine ⟨ret_bool (vks_yes (by omega) (by omega) (by rw [← h.len]; exact h2) ?_ (distL_yes fun j i hji hi => HR.out j i hji (by rw [← h.len] at hi; omega))).symm, rfl⟩
          rw [← HQ.out, List.take_of_length_le (by rw [← h.len]; omega)]
    · have hd : decide (room < (n : Int)) = true := by simp; omega
      go_enter Try.func44, Try.ntmps44
      go_wp2_with (go_at_call 60; refine (validRoom_c _ _).mono ?_; rintro e w' ⟨rfl, rfl⟩)
      go_ret
      exact ⟨ret_bool (vks_no fun ⟨_, q, _⟩ => by rw [← h.len] at q; omega).symm, rfl⟩
  · have hr := inR_false.1 h1
    go_enter Try.func44, Try.ntmps44
    go_wp2_with (go_at_call 60; refine (validRoom_c _ _).mono ?_; rintro e w' ⟨rfl, rfl⟩)
    go_ret
    exact ⟨ret_bool (vks_no fun ⟨q, _⟩ => by omega).symm, rfl⟩
end Go.Proofs.Ytgnkidmljcpheac
