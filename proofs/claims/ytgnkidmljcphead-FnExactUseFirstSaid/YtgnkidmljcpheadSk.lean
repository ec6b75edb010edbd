/- Contracts of the functions of chapter 1, the program's and the model's, in one set of list functions. No statement is proved here. -/
import Derived.Test.YtgnkidmljcpheadSpecA
namespace Go.Proofs.Ytgnkidmljcphead
open Go.RowKit

/-- A list that is a sketch. -/
def vsk (l : List Int) : Bool := decide (l.length = 24) && allR 0 15 l
theorem vsk_len {l : List Int} (h : vsk l = true) : l.length = 24 := by simp [vsk] at h; exact h.1
theorem vsk_all {l : List Int} (h : vsk l = true) : allR 0 15 l = true := by simp [vsk] at h; exact h.2
theorem vsk_gi {l : List Int} (h : vsk l = true) {k : Nat} (hk : k < 24) : 0 ≤ gi l k ∧ gi l k ≤ 15 := allR_gi (vsk_all h) (by rw [vsk_len h]; exact hk)
theorem vsk_of {l : List Int} (hl : l.length = 24) (h : ∀ k, k < 24 → 0 ≤ gi l k ∧ gi l k ≤ 15) : vsk l = true := by
  simp only [vsk, hl, decide_true, Bool.true_and]
  refine allR_of fun x hx => ?_
  obtain ⟨k, hk, rfl⟩ := mem_gi hx
  exact h k (by omega)

/-- The place of a key's counter in a row. -/
def cellI (row key : Int) : Int := row * 8 + (37 + 2 * row) * (key + row) % 101 % 8
def cellN (row : Nat) (key : Int) : Nat := (cellI row key).toNat
theorem cellI_bd (row key : Int) : row * 8 ≤ cellI row key ∧ cellI row key ≤ row * 8 + 7 := by unfold cellI; omega
theorem cellN_lt {row : Nat} {key : Int} (h : row < 3) : cellN row key < 24 := by have := cellI_bd row key; unfold cellN; omega
theorem cellN_cast {row : Nat} {key : Int} : ((cellN row key : Nat) : Int) = cellI row key := by have := cellI_bd row key; unfold cellN; omega
theorem cellN_bd (row : Nat) (key : Int) : row * 8 ≤ cellN row key ∧ cellN row key ≤ row * 8 + 7 := by have := cellI_bd row key; unfold cellN; omega

def cellOfL (row key : Int) : Int := if 0 ≤ row ∧ row ≤ 2 ∧ 0 ≤ key ∧ key ≤ 31 then cellI row key else -1


theorem validKey_c (key : Int) (w : World) :
    Calls Try.prog 25 #[.int .i64 key] w fun e w' => e = .returned (.bool (inR 0 31 key)) ∧ w = w' := by
  by_cases h1 : 0 ≤ key
  · have hd : decide (0 ≤ key) = true := by simpa using h1
    go_enter Try.func25, Try.ntmps25
    go_wp2
    go_ret
    exact ⟨by simp [inR, *], rfl⟩
  · have hd : decide (0 ≤ key) = false := by simpa using h1
    go_enter Try.func25, Try.ntmps25
    go_wp2
    go_ret
    exact ⟨by simp [inR, *], rfl⟩




end Go.Proofs.Ytgnkidmljcphead
