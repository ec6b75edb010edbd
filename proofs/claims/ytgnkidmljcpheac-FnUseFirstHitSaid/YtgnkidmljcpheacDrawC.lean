/- Contracts of what is drawn for each function of the chapters 1 and 2. No statement is proved here. -/
import Derived.Test.YtgnkidmljcpheacDrawB
namespace Go.Proofs.Ytgnkidmljcpheac
open Go.RowKit


theorem someRoom_c (g p : Nat) (w : World) (h : Rdr w g p) (hp : p ≤ 500000000) :
    Calls Try.prog 61 #[.pointer (some ⟨g, 0, none⟩)] w (DrawsI w g p 1 0 9) := by
  have hlt := h.lt
  go_enter Try.func61, Try.ntmps61
  go_wp2_with fail
  refine (oneLit g _ [2, 3, 4, 1, 8, 5, 2, 3, 0, 9] 10 w h (by omega) rfl (by omega) (by simp) _ rfl _ (by simp)).mono ?_
  rintro e w1 ⟨x, rfl, hx, hr1, hg1, -⟩
  go_wp2
  go_ret
  refine ⟨x, _, rfl, ?_, ?_, hr1, by omega, ((Only.refl _ _ _).alloc (Nat.le_refl _) _).pick hg1 (by simp)⟩
  all_goals
    simp only [List.mem_cons, List.not_mem_nil, or_false] at hx
    omega

set_option maxRecDepth 100000 in
set_option maxHeartbeats 1000000 in
theorem someKeys_c (g p : Nat) (room : Int) (w : World) (h : Rdr w g p) (hp : p ≤ 100000000) (h0 : 0 ≤ room) (h9 : room ≤ 9) :
    Calls Try.prog 63 #[.pointer (some ⟨g, 0, none⟩), .int .i64 room] w (DrawsL w g p 1000 100) := by
  have hlt := h.lt
  have hO0 := OI.lit w w.heap.size [] 0 rfl (Nat.le_refl _) (by simp) #[] rfl
  have hw0 : Only w.heap.size g w (w.alloc (.cells #[] 3)) := (Only.refl _ _ _).alloc (Nat.le_refl _) _
  have hr0 := h.alloc (.cells #[] 3)
  have z0 : w.heap.size + 1 ≤ (w.alloc (.cells #[] 3)).heap.size := by simp
  obtain ⟨mx, hmx⟩ : ∃ mx : Int, (if 1 < room then room else 1) = mx := ⟨_, rfl⟩
  have hmx1 : 1 ≤ mx ∧ mx ≤ 9 := by rw [← hmx]; split <;> omega
  go_enter Try.func63, Try.ntmps63
  go_wp2_with fail
  refine (pick_c g p (mx + 1) _ hr0 (by omega)).mono ?_
  rintro e w1 ⟨x, rfl, hx0, hx1, hr1, hg1, -⟩
  have z1 := hg1.size
  obtain ⟨m, rfl⟩ := Int.eq_ofNat_of_zero_le hx0
  have hO1 := hO0.far hg1 (.inr (by simp [blk]; omega))
  have hw1 := hw0.pick hg1 (by simp)
  clear hO0 hw0 hr0 hg1
  go_wp2_with fail
  go_loopw [5, 6] (fun v i wr => ∃ (k : Nat) (A : Option Addr) (n c : Nat) (l : List Int) (p' : Nat), i = .int .i64 k ∧ v = .slice A n c ∧ n + k ≤ 24 ∧ OI wr w.heap.size A n c l ∧ Bd l ∧ Rdr wr g p' ∧ p' + 3 * k ≤ p + 200 ∧ Only w.heap.size g w wr ∧ w.heap.size ≤ wr.heap.size) (fun _ i _ => (intOf i).toNat)
  case atStart => exact ⟨m, _, 0, 0, _, _, rfl, rfl, by omega, hO1, fun x hx => by simp at hx, hr1, by omega, hw1, by omega⟩
  case round =>
    obtain ⟨k, A, n, c, l, p', rfl, rfl, hnk, hO, hbd, hr, hp', hw, hz⟩ := hrel
    have hne : blk A ≠ some g := fun e => by have := (hO.lt g e).1; omega
    have hlo : ∀ b, blk A = some b → w.heap.size ≤ b := fun b hb => (hO.lt b hb).1
    have hc := hO.le
    have hmx' := hO.si.max
    by_cases hk0 : 0 < k
    · go_wp2_with fail
      refine (pick_c g _ 10 wr hr (by omega)).mono ?_
      rintro e w3 ⟨key, rfl, hy0, hy1, hr3, hg3, -⟩
      have z3 := hg3.size
      have hO3 := hO.far hg3 (.inr hne)
      have hw3 := hw.pick hg3 (by omega)
      clear hO hw hg3 hr
      go_wp2_with fail
      refine (isIn_c _ _ _ l _ _ _ hO3.si).mono ?_
      rintro e w' ⟨rfl, rfl⟩
      rcases Bool.eq_false_or_eq_true (hasL l key) with ht | ht
      · go_wp2
        go_roundw
        case rel => exact ⟨k - 1, A, n, c, _, _, by rw [Int.natCast_sub (by omega)]; rfl, rfl, by omega, hO3, hbd, hr3, by omega, hw3, by omega⟩
        case measure => simp [intOf]; omega
      · go_wp2_with (at_builtin; refine wpList_app rfl _ _ _ rfl Try.underlying23 rfl rfl (hO3.alloc _) (SI.one _ _) (by omega) (by simp; omega) ?_; intro A4 c4 w4 hO4 hg4 hat4)
        go_roundw
        case rel => exact ⟨k - 1, A4, n + 1, c4, _, _, by rw [Int.natCast_sub (by omega)]; rfl, rfl, by omega, hO4, hbd.app (Bd.one (by omega)), (hr3.alloc _).far hg4 (fun b hb => by have := hlo b hb; omega), by omega, (hw3.alloc (by omega) _).own hg4 hlo (by simp; omega), by have := hg4.size; simp at this; omega⟩
        case measure => simp [intOf]; omega
    · obtain rfl : k = 0 := by omega
      go_wp2
      go_ret
      exact ⟨_, _, _, _, _, rfl, hO, by omega, hbd, hr, by omega, hw⟩

/-- A list was drawn: small, in new memory. -/
def Drawn1 (w : World) (e : Ending) (w' : World) : Prop := ∃ A n c l, e = .returned (.slice A n c) ∧ OI w' w.heap.size A n c l ∧ n ≤ 1000 ∧ Bd l ∧ Below w.heap.size w w'
/-- A list and a number. -/
def Drawn2 (w : World) (e : Ending) (w' : World) : Prop := ∃ A n c l x, e = .returned (.tuple #[.slice A n c, .int .i64 x]) ∧ OI w' w.heap.size A n c l ∧ n ≤ 1000 ∧ Bd l ∧ (-100000 ≤ x ∧ x ≤ 100000) ∧ Below w.heap.size w w'
/-- A list and two numbers. -/
def Drawn3 (w : World) (e : Ending) (w' : World) : Prop := ∃ A n c l x y, e = .returned (.tuple #[.slice A n c, .int .i64 x, .int .i64 y]) ∧ OI w' w.heap.size A n c l ∧ n ≤ 1000 ∧ Bd l ∧ (-100000 ≤ x ∧ x ≤ 100000) ∧ (-100000 ≤ y ∧ y ≤ 100000) ∧ Below w.heap.size w w'
/-- Two numbers. -/
def DrawnII (w : World) (e : Ending) (w' : World) : Prop := ∃ x y, e = .returned (.tuple #[.int .i64 x, .int .i64 y]) ∧ (-100000 ≤ x ∧ x ≤ 100000) ∧ (-100000 ≤ y ∧ y ≤ 100000) ∧ Below w.heap.size w w'
/-- Two lists. -/
def DrawnLL (w : World) (e : Ending) (w' : World) : Prop := ∃ A n c l A' n' c' l', e = .returned (.tuple #[.slice A n c, .slice A' n' c']) ∧ OI w' w.heap.size A n c l ∧ n ≤ 1000 ∧ Bd l ∧ OI w' w.heap.size A' n' c' l' ∧ n' ≤ 1000 ∧ Bd l' ∧ Below w.heap.size w w'

end Go.Proofs.Ytgnkidmljcpheac
