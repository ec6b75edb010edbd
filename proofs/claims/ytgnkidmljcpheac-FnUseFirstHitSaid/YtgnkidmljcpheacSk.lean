/- Contracts of the functions of chapter 1, the program's and the model's, in one set of list functions. No statement is proved here. -/
import Derived.Test.YtgnkidmljcpheacSpecA
namespace Go.Proofs.Ytgnkidmljcpheac
open Go.RowKit

/-- A list that is a sketch. -/
def vsk (l : List Int) : Bool := decide (l.length = 24) && allR 0 15 l
theorem vsk_len {l : List Int} (h : vsk l = true) : l.length = 24 := by simp [vsk] at h; exact h.1
theorem vsk_all {l : List Int} (h : vsk l = true) : allR 0 15 l = true := by simp [vsk] at h; exact h.2
theorem vsk_gi {l : List Int} (h : vsk l = true) {k : Nat} (hk : k < 24) : 0 ≤ gi l k ∧ gi l k ≤ 15 := allR_gi (vsk_all h) (by rw [vsk_len h]; exact hk)
theorem vsk_of {l : List Int} (hl : l.length = 24) (h : ∀ k, k < 24 → 0 ≤ gi l k ∧ gi l k ≤ 15) : vsk l = true := by
  simp only [vsk, hl, decide_true, Bool.true_and]
  refine allR_of fun x hx => ?_
  obtain ⟨k, hk, rfl⟩ := mem_gi hx
  exact h k (by omega)

/-- The place of a key's counter in a row. -/
def cellI (row key : Int) : Int := row * 8 + (37 + 2 * row) * (key + row) % 101 % 8
def cellN (row : Nat) (key : Int) : Nat := (cellI row key).toNat
theorem cellI_bd (row key : Int) : row * 8 ≤ cellI row key ∧ cellI row key ≤ row * 8 + 7 := by unfold cellI; omega
theorem cellN_lt {row : Nat} {key : Int} (h : row < 3) : cellN row key < 24 := by have := cellI_bd row key; unfold cellN; omega
theorem cellN_cast {row : Nat} {key : Int} : ((cellN row key : Nat) : Int) = cellI row key := by have := cellI_bd row key; unfold cellN; omega
theorem cellN_bd (row : Nat) (key : Int) : row * 8 ≤ cellN row key ∧ cellN row key ≤ row * 8 + 7 := by have := cellI_bd row key; unfold cellN; omega

def cellOfL (row key : Int) : Int := if 0 ≤ row ∧ row ≤ 2 ∧ 0 ≤ key ∧ key ≤ 31 then cellI row key else -1

theorem cell_c (row key : Int) (w : World) (h0 : 0 ≤ row) (h1 : row ≤ 2) (h2 : 0 ≤ key) (h3 : key ≤ 31) :
    Calls Try.prog 56 #[.int .i64 row, .int .i64 key] w fun e w' => e = .returned (.int .i64 (cellI row key)) ∧ w = w' := by
  obtain rfl | rfl | rfl : row = 0 ∨ row = 1 ∨ row = 2 := by omega
  all_goals
    go_enter Try.func56, Try.ntmps56
    go_wp2
    go_ret
    refine ⟨ret_int ?_, rfl⟩
    unfold cellI; simp <;> omega

theorem validKey_c (key : Int) (w : World) :
    Calls Try.prog 49 #[.int .i64 key] w fun e w' => e = .returned (.bool (inR 0 31 key)) ∧ w = w' := by
  by_cases h1 : 0 ≤ key
  · have hd : decide (0 ≤ key) = true := by simpa using h1
    go_enter Try.func49, Try.ntmps49
    go_wp2
    go_ret
    exact ⟨by simp [inR, *], rfl⟩
  · have hd : decide (0 ≤ key) = false := by simpa using h1
    go_enter Try.func49, Try.ntmps49
    go_wp2
    go_ret
    exact ⟨by simp [inR, *], rfl⟩

theorem implCellOf_c (row key : Int) (w : World) :
    Calls Try.prog 32 #[.int .i64 row, .int .i64 key] w fun e w' => e = .returned (.int .i64 (cellOfL row key)) ∧ w = w' := by
  by_cases h0 : 0 ≤ row
  · by_cases h1 : row ≤ 2
    · rcases Bool.eq_false_or_eq_true (inR 0 31 key) with hk | hk
      · have hk' := inR_true.1 hk
        obtain rfl | rfl | rfl : row = 0 ∨ row = 1 ∨ row = 2 := by omega
        all_goals
          go_enter Try.func32, Try.ntmps32
          go_wp2_with (go_at_call 49; refine (validKey_c _ _).mono ?_; rintro e w' ⟨rfl, rfl⟩)
          go_ret
          refine ⟨ret_int ?_, rfl⟩
          rw [cellOfL, if_pos (by omega)]; unfold cellI; simp <;> omega
      · have hk' := inR_false.1 hk
        go_enter Try.func32, Try.ntmps32
        go_wp2_with (go_at_call 49; refine (validKey_c _ _).mono ?_; rintro e w' ⟨rfl, rfl⟩)
        go_ret
        exact ⟨ret_int (by rw [cellOfL, if_neg (by omega)]), rfl⟩
    · go_enter Try.func32, Try.ntmps32
      go_wp2_with (go_at_call 49; refine (validKey_c _ _).mono ?_; rintro e w' ⟨rfl, rfl⟩)
      go_ret
      exact ⟨ret_int (by rw [cellOfL, if_neg (by omega)]), rfl⟩
  · go_enter Try.func32, Try.ntmps32
    go_wp2_with (go_at_call 49; refine (validKey_c _ _).mono ?_; rintro e w' ⟨rfl, rfl⟩)
    go_ret
    exact ⟨ret_int (by rw [cellOfL, if_neg (by omega)]), rfl⟩

theorem specCellOf_c (row key : Int) (w : World) :
    Calls Try.prog 31 #[.int .i64 row, .int .i64 key] w fun e w' => e = .returned (.int .i64 (cellOfL row key)) ∧ w = w' := by
  rcases Bool.eq_false_or_eq_true (inR 0 2 row) with hr | hr
  · rcases Bool.eq_false_or_eq_true (inR 0 31 key) with hk | hk
    · have hk' := inR_true.1 hk
      have hr' := inR_true.1 hr
      go_enter Try.func31, Try.ntmps31
      go_wp2_with (first | (go_at_call 52; refine (inRange_c _ _ _ _).mono ?_; rintro e w' ⟨rfl, rfl⟩) | (go_at_call 56; refine (cell_c _ _ _ hr'.1 hr'.2 hk'.1 hk'.2).mono ?_; rintro e w' ⟨rfl, rfl⟩))
      go_ret
      exact ⟨ret_int (by rw [cellOfL, if_pos (by omega)]), rfl⟩
    · have hk' := inR_false.1 hk
      go_enter Try.func31, Try.ntmps31
      go_wp2_with (go_at_call 52; refine (inRange_c _ _ _ _).mono ?_; rintro e w' ⟨rfl, rfl⟩)
      go_ret
      exact ⟨ret_int (by rw [cellOfL, if_neg (by omega)]), rfl⟩
  · have hr' := inR_false.1 hr
    go_enter Try.func31, Try.ntmps31
    go_wp2_with (go_at_call 52; refine (inRange_c _ _ _ _).mono ?_; rintro e w' ⟨rfl, rfl⟩)
    go_ret
    exact ⟨ret_int (by rw [cellOfL, if_neg (by omega)]), rfl⟩

theorem validSketch_c (A : Option Addr) (n c : Nat) (l : List Int) (w : World) (B : Nat) (h : SI w B A n c l) :
    Calls Try.prog 55 #[.slice A n c] w fun e w' => e = .returned (.bool (vsk l)) ∧ w = w' := by
  by_cases hn : n = 24
  · have hl : l.length = 24 := by rw [← h.len]; exact hn
    subst hn
    go_enter Try.func55, Try.ntmps55
    go_wp2_with (go_at_call 66; refine (allIn_c _ _ _ l _ _ _ _ h).mono ?_; rintro e w' ⟨rfl, rfl⟩)
    go_ret
    exact ⟨ret_bool (by simp [vsk, hl]), rfl⟩
  · have hd : ((n : Int) == 24) = false := by simp; omega
    have hl : ¬ l.length = 24 := by rw [← h.len]; exact hn
    go_enter Try.func55, Try.ntmps55
    go_wp2
    go_ret
    exact ⟨ret_bool (by simp [vsk, hl]), rfl⟩
theorem specValidSketch_c (A : Option Addr) (n c : Nat) (l : List Int) (w : World) (B : Nat) (h : SI w B A n c l) :
    Calls Try.prog 23 #[.slice A n c] w fun e w' => e = .returned (.bool (vsk l)) ∧ w = w' := by
  go_enter Try.func23, Try.ntmps23
  go_wp2_with (go_at_call 55; refine (validSketch_c _ _ _ l _ _ h).mono ?_; rintro e w' ⟨rfl, rfl⟩)
  go_ret
  exact ⟨rfl, rfl⟩

theorem implValidSketch_c (A : Option Addr) (n c : Nat) (l : List Int) (w : World) (B : Nat) (h : SI w B A n c l) :
    Calls Try.prog 25 #[.slice A n c] w fun e w' => e = .returned (.bool (vsk l)) ∧ w = w' := by
  have hc := h.le
  have hm := h.max
  by_cases hn : n = 24
  · have hl : l.length = 24 := by rw [← h.len]; exact hn
    subst hn
    go_enter Try.func25, Try.ntmps25
    go_wp2
    go_loop [10] (fun i => ∃ k : Nat, k ≤ 24 ∧ i = .int .i64 k ∧ allR 0 15 (l.take k) = true) (fun i => 24 - (intOf i).toNat)
    case atStart => exact ⟨0, Nat.zero_le _, rfl, rfl⟩
    case round =>
      obtain ⟨k, hk, rfl, hr⟩ := hrel
      have HR := Lib.hid hr
      clear hr
      by_cases hlt : k < 24
      · obtain ⟨b, o, rfl, hb, hcell⟩ := h.at_ hlt
        by_cases hx0 : gi l k < 0
        · have hd0 : decide (gi l k < 0) = true := by simpa using hx0
          go_wp2
          go_ret
          exact ⟨ret_bool (by simp [vsk, hl, allR_stop (show k < l.length by omega) (inR_false.2 (.inl hx0))]), rfl⟩
        · have hd0 : decide (gi l k < 0) = false := by simpa using hx0
          by_cases hx1 : 15 < gi l k
          all_goals go_wp2
          · go_ret
            exact ⟨ret_bool (by simp [vsk, hl, allR_stop (show k < l.length by omega) (inR_false.2 (.inr hx1))]), rfl⟩
          · go_round
            case rel => exact ⟨k + 1, by omega, by go_num, allR_take_succ (by omega) HR.out (inR_true.2 (by omega))⟩
            case measure => simp [intOf]; omega
      · go_wp2
        go_ret
        have e : allR 0 15 l = true := by rw [← HR.out, List.take_of_length_le (by omega)]
        exact ⟨ret_bool (by simp [vsk, hl, e]), rfl⟩
  · have hd : ((n : Int) != 24) = true := by simp; omega
    have hl : ¬ l.length = 24 := by rw [← h.len]; exact hn
    go_enter Try.func25, Try.ntmps25
    go_wp2
    go_ret
    exact ⟨ret_bool (by simp [vsk, hl]), rfl⟩
end Go.Proofs.Ytgnkidmljcpheac
