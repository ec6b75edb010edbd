/- Contracts of what is drawn for each function of the chapters 1 and 2. No statement is proved here. -/
import Derived.Test.YtgnkidmljcpheabDrawB
namespace Go.Proofs.Ytgnkidmljcpheab
open Go.RowKit

set_option maxRecDepth 100000 in
set_option maxHeartbeats 2000000 in
theorem someTrace_c (g p : Nat) (w : World) (h : Rdr w g p) (hp : p ≤ 100000000) :
    Calls Try.prog 54 #[.pointer (some ⟨g, 0, none⟩)] w (DrawsL w g p 1000 100) := by
  have hlt := h.lt
  go_enter Try.func54, Try.ntmps54
  go_wp2_with fail
  have hO0 := OI.lit w w.heap.size [] 0 rfl (Nat.le_refl _) (by simp) #[] rfl
  have hw0 : Only w.heap.size g w (w.alloc (.cells #[] 3)) := (Only.refl _ _ _).alloc (Nat.le_refl _) _
  have hr0 := h.alloc (.cells #[] 3)
  have z0 : w.heap.size + 1 ≤ (w.alloc (.cells #[] 3)).heap.size := by simp
  refine (oneLit g _ [4, 6, 3, 10, 2, 32] 6 (w.alloc (.cells #[] 3)) hr0 (by omega) rfl (by omega) (by simp) _ rfl _ (by simp)).mono ?_
  rintro e w1 ⟨many, rfl, hx, hr1, hg1, -⟩
  have z1 := hg1.size
  simp only [World.size_alloc] at z1
  have hmany : 0 < many ∧ many ≤ 32 := by
    simp only [List.mem_cons, List.not_mem_nil, or_false] at hx; omega
  clear hx
  have hO1 := (hO0.alloc (.cells #[.int .i64 4, .int .i64 6, .int .i64 3, .int .i64 10, .int .i64 2, .int .i64 32] 3)).far hg1 (.inr (by simp [blk]; omega))
  have hw1 := (hw0.alloc (by simp) _).pick hg1 (by simp; omega)
  clear hO0 hw0 hr0 hg1
  go_wp2_with fail
  refine (oneLit g _ [8, 12, 16, 20, 24, 3, 1, 0] 8 w1 hr1 (by omega) rfl (by omega) (by simp) _ rfl _ (by simp)).mono ?_
  rintro e w2 ⟨x, rfl, hx, hr2, hg2, -⟩
  have z2 := hg2.size
  simp only [World.size_alloc] at z2
  have hx0 : 0 ≤ x ∧ x ≤ 24 := by
    simp only [List.mem_cons, List.not_mem_nil, or_false] at hx; omega
  clear hx
  obtain ⟨m, rfl⟩ := Int.eq_ofNat_of_zero_le hx0.1
  have hO2 := (hO1.alloc (.cells #[.int .i64 8, .int .i64 12, .int .i64 16, .int .i64 20, .int .i64 24, .int .i64 3, .int .i64 1, .int .i64 0] 3)).far hg2 (.inr (by simp [blk]; omega))
  have hw2 := (hw1.alloc (by omega) _).pick hg2 (by simp; omega)
  clear hO1 hw1 hr1 hg2
  go_wp2_with fail
  go_loopw [3, 5] (fun v i wr => ∃ (k : Nat) (A : Option Addr) (n c : Nat) (l : List Int) (p' : Nat), i = .int .i64 k ∧ v = .slice A n c ∧ n + k ≤ 24 ∧ OI wr w.heap.size A n c l ∧ Bd l ∧ Rdr wr g p' ∧ p' + 3 * k ≤ p + 200 ∧ Only w.heap.size g w wr ∧ w.heap.size ≤ wr.heap.size) (fun _ i _ => (intOf i).toNat)
  case atStart => exact ⟨m, _, 0, 0, _, _, rfl, rfl, by omega, hO2, fun x hx => by simp at hx, hr2, by omega, hw2, by omega⟩
  case round =>
    obtain ⟨k, A, n, c, l, p', rfl, rfl, hnk, hO, hbd, hr, hp', hw, hz⟩ := hrel
    have hne : blk A ≠ some g := fun e => by have := (hO.lt g e).1; omega
    have hlo : ∀ b, blk A = some b → w.heap.size ≤ b := fun b hb => (hO.lt b hb).1
    have hc := hO.le
    have hmx := hO.si.max
    by_cases hk0 : 0 < k
    · go_wp2_with fail
      refine (pick_c g _ many wr hr (by omega)).mono ?_
      rintro e w3 ⟨key, rfl, hy0, hy1, hr3, hg3, -⟩
      have z3 := hg3.size
      have hO3 := hO.far hg3 (.inr hne)
      have hw3 := hw.pick hg3 (by omega)
      have hky : 0 ≤ key ∧ key ≤ 100000 := by omega
      clear hO hw hg3 hr
      by_cases hn0 : n = 0
      · subst hn0
        go_wp2_with (at_builtin; refine wpList_app rfl _ _ _ rfl Try.underlying23 rfl rfl (hO3.alloc _) (SI.one _ _) (by omega) (by simp; omega) ?_; intro A4 c4 w4 hO4 hg4 hat4)
        go_roundw
        case rel => exact ⟨k - 1, A4, 1, c4, _, _, by rw [Int.natCast_sub (by omega)]; rfl, rfl, by omega, hO4, hbd.app (Bd.one (by omega)), (hr3.alloc _).far hg4 (fun b hb => by have := hlo b hb; omega), by omega, (hw3.alloc (by omega) _).own hg4 hlo (by simp; omega), by have := hg4.size; simp at this; omega⟩
        case measure => simp [intOf]; omega
      · have hd : decide (0 < n) = true := by simp; omega
        go_wp2_with fail
        refine (pick_c g _ 6 w3 hr3 (by omega)).mono ?_
        rintro e w4 ⟨t, rfl, ht0, ht1, hr4, hg4, -⟩
        have z4 := hg4.size
        have hO4 := hO3.far hg4 (.inr hne)
        have hw4 := hw3.pick hg4 (by omega)
        clear hO3 hw3 hg4 hr3
        obtain ⟨b, o, rfl, hbB, hcell, hfr⟩ := hO4.at_ (k := n - 1) (by omega)
        have hlast := hbd.gi (k := n - 1) (by rw [← hO4.len]; omega)
        rcases Bool.eq_false_or_eq_true (t == 0) with ht | ht
        all_goals
          go_wp2_with (at_builtin; refine wpList_app rfl _ _ _ rfl Try.underlying23 rfl rfl (hO4.alloc _) (SI.one _ _) (by omega) (by simp; omega) ?_; intro A5 c5 w5 hO5 hg5 hat5)
          go_roundw
          case rel => exact ⟨k - 1, A5, n + 1, c5, _, _, by rw [Int.natCast_sub (by omega)]; rfl, rfl, by omega, hO5, hbd.app (Bd.one (by omega)), (hr4.alloc _).far hg5 (fun b hb => by have := hlo b hb; omega), by omega, (hw4.alloc (by omega) _).own hg5 hlo (by simp; omega), by have := hg5.size; simp at this; omega⟩
          case measure => simp [intOf]; omega
    · obtain rfl : k = 0 := by omega
      go_wp2_with fail
      refine (pick_c g _ 24 wr hr (by omega)).mono ?_
      rintro e w3 ⟨t, rfl, ht0, ht1, hr3, hg3, -⟩
      have z3 := hg3.size
      have hO3 := hO.far hg3 (.inr hne)
      have hw3 := hw.pick hg3 (by omega)
      clear hO hw hg3 hr
      by_cases e0 : t = 0
      · subst e0
        go_wp2_with (first | (at_builtin; refine wpList_app rfl _ _ _ rfl Try.underlying23 rfl rfl (hO3.alloc _) (SI.one _ _) (by omega) (by simp; omega) ?_; intro A4 c4 w4 hO4 hg4 hat4))
        have z4 := hg4.size
        simp only [World.size_alloc] at z4
        refine (spoil_c g _ _ _ _ _ 32 w4 ((hr3.alloc _).far hg4 (fun b hb => by have := hlo b hb; omega)) (by omega) hO4.si (hbd.app (Bd.one (by omega))) (by omega) (by omega) (by omega)).mono ?_
        rintro e w5 ⟨A5, n5, c5, l5, p5, rfl, hO5, hn5, hbd5, hr5, hp5, hw5⟩
        go_wp2
        go_ret
        exact ⟨_, _, _, _, _, rfl, hO5.less (by omega), by omega, hbd5, hr5, by omega, ((hw3.alloc (by omega) _).own hg4 hlo (by simp; omega)).trans (hw5.less (by omega))⟩
      · have d0 : (t == 0) = false := by simpa using e0
        by_cases e1 : t = 1
        · subst e1
          go_wp2_with (first | (at_builtin; refine wpList_app rfl (.tmp 50) (.tmp 51) _ rfl Try.underlying23 rfl rfl hO3 hO3.si (by omega) (by omega) ?_; intro A4 c4 w4 hO4 hg4 hat4) | (at_builtin; refine wpList_app rfl (.tmp 52) (.tmp 53) _ rfl Try.underlying23 rfl rfl (hO4.alloc _) (SI.one _ _) (by omega) (by simp; have := hg4.size; omega) ?_; intro A5 c5 w5 hO5 hg5 hat5))
          go_ret
          have hlo4 : ∀ b, blk A4 = some b → w.heap.size ≤ b := fun b hb => (hO4.lt b hb).1
          have z4 := hg4.size
          exact ⟨_, _, _, _, _, rfl, hO5, by omega, (hbd.app hbd).app (Bd.one (by omega)), ((hr3.far hg4 (fun b hb => by have := hlo b hb; omega)).alloc _).far hg5 (fun b hb => by have := hlo4 b hb; omega), by omega, ((hw3.own hg4 hlo (by omega)).alloc (by omega) _).own hg5 hlo4 (by simp; omega)⟩
        · have d1 : (t == 1) = false := by simpa using e1
          go_wp2
          go_ret
          exact ⟨_, _, _, _, _, rfl, hO3, by omega, hbd, hr3, by omega, hw3⟩

theorem someRoom_c (g p : Nat) (w : World) (h : Rdr w g p) (hp : p ≤ 500000000) :
    Calls Try.prog 55 #[.pointer (some ⟨g, 0, none⟩)] w (DrawsI w g p 1 0 9) := by
  have hlt := h.lt
  go_enter Try.func55, Try.ntmps55
  go_wp2_with fail
  refine (oneLit g _ [2, 3, 4, 1, 8, 5, 2, 3, 0, 9] 10 w h (by omega) rfl (by omega) (by simp) _ rfl _ (by simp)).mono ?_
  rintro e w1 ⟨x, rfl, hx, hr1, hg1, -⟩
  go_wp2
  go_ret
  refine ⟨x, _, rfl, ?_, ?_, hr1, by omega, ((Only.refl _ _ _).alloc (Nat.le_refl _) _).pick hg1 (by simp)⟩
  all_goals
    simp only [List.mem_cons, List.not_mem_nil, or_false] at hx
    omega

set_option maxRecDepth 100000 in
set_option maxHeartbeats 1000000 in
theorem someKeys_c (g p : Nat) (room : Int) (w : World) (h : Rdr w g p) (hp : p ≤ 100000000) (h0 : 0 ≤ room) (h9 : room ≤ 9) :
    Calls Try.prog 68 #[.pointer (some ⟨g, 0, none⟩), .int .i64 room] w (DrawsL w g p 1000 100) := by
  have hlt := h.lt
  have hO0 := OI.lit w w.heap.size [] 0 rfl (Nat.le_refl _) (by simp) #[] rfl
  have hw0 : Only w.heap.size g w (w.alloc (.cells #[] 3)) := (Only.refl _ _ _).alloc (Nat.le_refl _) _
  have hr0 := h.alloc (.cells #[] 3)
  have z0 : w.heap.size + 1 ≤ (w.alloc (.cells #[] 3)).heap.size := by simp
  obtain ⟨mx, hmx⟩ : ∃ mx : Int, (if 1 < room then room else 1) = mx := ⟨_, rfl⟩
  have hmx1 : 1 ≤ mx ∧ mx ≤ 9 := by rw [← hmx]; split <;> omega
  go_enter Try.func68, Try.ntmps68
  go_wp2_with fail
  refine (pick_c g p (mx + 1) _ hr0 (by omega)).mono ?_
  rintro e w1 ⟨x, rfl, hx0, hx1, hr1, hg1, -⟩
  have z1 := hg1.size
  obtain ⟨m, rfl⟩ := Int.eq_ofNat_of_zero_le hx0
  have hO1 := hO0.far hg1 (.inr (by simp [blk]; omega))
  have hw1 := hw0.pick hg1 (by simp)
  clear hO0 hw0 hr0 hg1
  go_wp2_with fail
  go_loopw [5, 6] (fun v i wr => ∃ (k : Nat) (A : Option Addr) (n c : Nat) (l : List Int) (p' : Nat), i = .int .i64 k ∧ v = .slice A n c ∧ n + k ≤ 24 ∧ OI wr w.heap.size A n c l ∧ Bd l ∧ Rdr wr g p' ∧ p' + 3 * k ≤ p + 200 ∧ Only w.heap.size g w wr ∧ w.heap.size ≤ wr.heap.size) (fun _ i _ => (intOf i).toNat)
  case atStart => exact ⟨m, _, 0, 0, _, _, rfl, rfl, by omega, hO1, fun x hx => by simp at hx, hr1, by omega, hw1, by omega⟩
  case round =>
    obtain ⟨k, A, n, c, l, p', rfl, rfl, hnk, hO, hbd, hr, hp', hw, hz⟩ := hrel
    have hne : blk A ≠ some g := fun e => by have := (hO.lt g e).1; omega
    have hlo : ∀ b, blk A = some b → w.heap.size ≤ b := fun b hb => (hO.lt b hb).1
    have hc := hO.le
    have hmx' := hO.si.max
    by_cases hk0 : 0 < k
    · go_wp2_with fail
      refine (pick_c g _ 10 wr hr (by omega)).mono ?_
      rintro e w3 ⟨key, rfl, hy0, hy1, hr3, hg3, -⟩
      have z3 := hg3.size
      have hO3 := hO.far hg3 (.inr hne)
      have hw3 := hw.pick hg3 (by omega)
      clear hO hw hg3 hr
      go_wp2_with fail
      refine (isIn_c _ _ _ l _ _ _ hO3.si).mono ?_
      rintro e w' ⟨rfl, rfl⟩
      rcases Bool.eq_false_or_eq_true (hasL l key) with ht | ht
      · go_wp2
        go_roundw
        case rel => exact ⟨k - 1, A, n, c, _, _, by rw [Int.natCast_sub (by omega)]; rfl, rfl, by omega, hO3, hbd, hr3, by omega, hw3, by omega⟩
        case measure => simp [intOf]; omega
      · go_wp2_with (at_builtin; refine wpList_app rfl _ _ _ rfl Try.underlying23 rfl rfl (hO3.alloc _) (SI.one _ _) (by omega) (by simp; omega) ?_; intro A4 c4 w4 hO4 hg4 hat4)
        go_roundw
        case rel => exact ⟨k - 1, A4, n + 1, c4, _, _, by rw [Int.natCast_sub (by omega)]; rfl, rfl, by omega, hO4, hbd.app (Bd.one (by omega)), (hr3.alloc _).far hg4 (fun b hb => by have := hlo b hb; omega), by omega, (hw3.alloc (by omega) _).own hg4 hlo (by simp; omega), by have := hg4.size; simp at this; omega⟩
        case measure => simp [intOf]; omega
    · obtain rfl : k = 0 := by omega
      go_wp2
      go_ret
      exact ⟨_, _, _, _, _, rfl, hO, by omega, hbd, hr, by omega, hw⟩

/-- A list was drawn: small, in new memory. -/
def Drawn1 (w : World) (e : Ending) (w' : World) : Prop := ∃ A n c l, e = .returned (.slice A n c) ∧ OI w' w.heap.size A n c l ∧ n ≤ 1000 ∧ Bd l ∧ Below w.heap.size w w'
/-- A list and a number. -/
def Drawn2 (w : World) (e : Ending) (w' : World) : Prop := ∃ A n c l x, e = .returned (.tuple #[.slice A n c, .int .i64 x]) ∧ OI w' w.heap.size A n c l ∧ n ≤ 1000 ∧ Bd l ∧ (-100000 ≤ x ∧ x ≤ 100000) ∧ Below w.heap.size w w'
/-- A list and two numbers. -/
def Drawn3 (w : World) (e : Ending) (w' : World) : Prop := ∃ A n c l x y, e = .returned (.tuple #[.slice A n c, .int .i64 x, .int .i64 y]) ∧ OI w' w.heap.size A n c l ∧ n ≤ 1000 ∧ Bd l ∧ (-100000 ≤ x ∧ x ≤ 100000) ∧ (-100000 ≤ y ∧ y ≤ 100000) ∧ Below w.heap.size w w'
/-- Two numbers. -/
def DrawnII (w : World) (e : Ending) (w' : World) : Prop := ∃ x y, e = .returned (.tuple #[.int .i64 x, .int .i64 y]) ∧ (-100000 ≤ x ∧ x ≤ 100000) ∧ (-100000 ≤ y ∧ y ≤ 100000) ∧ Below w.heap.size w w'
/-- Two lists. -/
def DrawnLL (w : World) (e : Ending) (w' : World) : Prop := ∃ A n c l A' n' c' l', e = .returned (.tuple #[.slice A n c, .slice A' n' c']) ∧ OI w' w.heap.size A n c l ∧ n ≤ 1000 ∧ Bd l ∧ OI w' w.heap.size A' n' c' l' ∧ n' ≤ 1000 ∧ Bd l' ∧ Below w.heap.size w w'

theorem drawHalveSketch_c (A : Option Addr) (n c : Nat) (l : List Int) (w : World) (h : SB w w.heap.size A n c l) : Calls Try.prog 42 #[.slice A n c] w (Drawn1 w) := by
  go_enter Try.func42, Try.ntmps42
  go_wp2_with fail
  refine (newReader_c _ _ _ _ w h).mono ?_
  rintro e w1 ⟨rfl, hr1, hb1, -⟩
  have z1 := hb1.size
  go_wp2_with fail
  refine (someSketch_c _ _ w1 hr1 (by omega)).mono ?_
  rintro e w2 ⟨A2, n2, c2, l2, p2, rfl, hO2, hn2, hbd2, hr2, hp2, hw2⟩
  go_wp2
  go_ret
  exact ⟨_, _, _, _, rfl, hO2.less z1, by omega, hbd2, hb1.trans ((hw2.less z1).toBelow (Nat.le_refl _))⟩
theorem drawCellOf_c (A : Option Addr) (n c : Nat) (l : List Int) (w : World) (h : SB w w.heap.size A n c l) : Calls Try.prog 31 #[.slice A n c] w (DrawnII w) := by
  go_enter Try.func31, Try.ntmps31
  go_wp2_with fail
  refine (newReader_c _ _ _ _ w h).mono ?_
  rintro e w1 ⟨rfl, hr1, hb1, -⟩
  have z1 := hb1.size
  have hlt := hr1.lt
  go_wp2_with fail
  refine (oneLit _ _ [0, 1, 2, 3, -1, 1] 6 w1 hr1 (by omega) rfl (by omega) (by simp) _ rfl _ (by simp)).mono ?_
  rintro e w2 ⟨x, rfl, hx, hr2, hg2, -⟩
  have z2 := hg2.size
  simp only [World.size_alloc] at z2
  have hx0 : -1 ≤ x ∧ x ≤ 3 := by
    simp only [List.mem_cons, List.not_mem_nil, or_false] at hx; omega
  clear hx
  have hw2 := ((Only.refl w.heap.size w.heap.size w1).alloc z1 _).pick hg2 (by simp; omega)
  go_wp2_with fail
  refine (someKey_c _ _ w2 hr2 (by omega)).mono ?_
  rintro e w3 ⟨y, p3, rfl, hy0, hy1, hr3, hp3, hw3⟩
  go_wp2
  go_ret2
  exact ⟨_, _, rfl, by omega, by omega, hb1.trans ((hw2.trans (hw3.less (by omega))).toBelow (Nat.le_refl _))⟩
theorem drawCountOf_c (A : Option Addr) (n c : Nat) (l : List Int) (w : World) (h : SB w w.heap.size A n c l) : Calls Try.prog 34 #[.slice A n c] w (Drawn2 w) := by
  go_enter Try.func34, Try.ntmps34
  go_wp2_with fail
  refine (newReader_c _ _ _ _ w h).mono ?_
  rintro e w1 ⟨rfl, hr1, hb1, -⟩
  have z1 := hb1.size
  have hlt := hr1.lt
  go_wp2_with fail
  refine (someSketch_c _ _ w1 hr1 (by omega)).mono ?_
  rintro e w2 ⟨A2, n2, c2, l2, p2, rfl, hO2, hn2, hbd2, hr2, hp2, hw2⟩
  have z2 := hw2.size
  go_wp2_with fail
  refine (someKey_c _ _ w2 hr2 (by omega)).mono ?_
  rintro e w3 ⟨y, p3, rfl, hy0, hy1, hr3, hp3, hw3⟩
  go_wp2
  go_ret2
  refine ⟨_, _, _, _, _, rfl, OI.less (hO2.keep fun k hk hlt2 => hw3.block k hlt2 (fun e => by have := (hO2.lt k hk).1; omega)) z1, by omega, hbd2, by omega, hb1.trans (((hw2.less z1).trans (hw3.less (by omega))).toBelow (Nat.le_refl _))⟩
theorem drawAddKey_c (A : Option Addr) (n c : Nat) (l : List Int) (w : World) (h : SB w w.heap.size A n c l) : Calls Try.prog 39 #[.slice A n c] w (Drawn2 w) := by
  go_enter Try.func39, Try.ntmps39
  go_wp2_with fail
  refine (drawCountOf_c _ _ _ _ w h).mono ?_
  rintro e w1 ⟨A2, n2, c2, l2, x, rfl, r⟩
  go_wp2
  go_ret2
  exact ⟨_, _, _, _, _, rfl, r⟩
end Go.Proofs.Ytgnkidmljcpheab
