/- Contracts: toInt, runTrace, RunRecent, RunFirst (chapter 2). No statement is proved here. -/
import Derived.Test.YtgnkidmljcpheacRcC
namespace Go.Proofs.Ytgnkidmljcpheac
open Go.RowKit

/-- The cache after the first k keys of a trace, and how many of them were there. -/
def rnL (st : List Int → Nat → Int → List Int) (t : List Int) (room : Nat) : Nat → List Int
  | 0 => []
  | k + 1 => st (rnL st t room k) room (gi t k)
def bit (b : Bool) : Int := if b then 1 else 0
def rnN (st : List Int → Nat → Int → List Int) (t : List Int) (room : Nat) : Nat → Int
  | 0 => 0
  | k + 1 => rnN st t room k + bit (hasL (rnL st t room k) (gi t k))
theorem bit_bd (b : Bool) : 0 ≤ bit b ∧ bit b ≤ 1 := by cases b <;> decide
theorem rnN_bd (st : List Int → Nat → Int → List Int) (t : List Int) (room : Nat) : ∀ k : Nat, 0 ≤ rnN st t room k ∧ rnN st t room k ≤ (k : Int)
  | 0 => ⟨Int.le_refl _, Int.le_refl _⟩
  | k + 1 => by
    have ih := rnN_bd st t room k
    have := bit_bd (hasL (rnL st t room k) (gi t k))
    simp only [rnN]; omega
theorem vks_nil {rm : Nat} (h1 : 1 ≤ rm) (h2 : rm ≤ 8) : vks [] (rm : Int) = true := vks_yes (by omega) (by omega) (by simp) rfl (decide_eq_true List.nodup_nil)
theorem rnL_vks {st : List Int → Nat → Int → List Int} (hst : ∀ (l : List Int) (rm : Nat) (key : Int), vks l (rm : Int) = true → inR 0 31 key = true → vks (st l rm key) (rm : Int) = true)
    {t : List Int} {rm : Nat} (ht : vtr t = true) (h1 : 1 ≤ rm) (h2 : rm ≤ 8) : ∀ k, k ≤ t.length → vks (rnL st t rm k) (rm : Int) = true
  | 0, _ => vks_nil h1 h2
  | k + 1, h => hst _ _ _ (rnL_vks hst ht h1 h2 k (by omega)) (inR_true.2 (allR_gi (vtr_all ht) (by omega)))
/-- What RunRecent, RunFirst answer. -/
def runL (st : List Int → Nat → Int → List Int) (t : List Int) (room : Int) : List Int := if vtr t && inR 1 8 room then rnL st t room.toNat t.length else []
def runN (st : List Int → Nat → Int → List Int) (t : List Int) (room : Int) : Int := if vtr t && inR 1 8 room then rnN st t room.toNat t.length else -1
theorem run_yes {st : List Int → Nat → Int → List Int} {t : List Int} {room : Int} (h1 : vtr t = true) (h2 : inR 1 8 room = true) : runL st t room = rnL st t room.toNat t.length ∧ runN st t room = rnN st t room.toNat t.length := by
  simp [runL, runN, h1, h2]
theorem run_no1 {st : List Int → Nat → Int → List Int} {t : List Int} {room : Int} (h1 : vtr t = false) : runL st t room = [] ∧ runN st t room = -1 := by simp [runL, runN, h1]
theorem run_no2 {st : List Int → Nat → Int → List Int} {t : List Int} {room : Int} (h2 : inR 1 8 room = false) : runL st t room = [] ∧ runN st t room = -1 := by simp [runL, runN, h2]
def GivesN (w : World) (l : List Int) (x : Int) (e : Ending) (w' : World) : Prop := ∃ A n c, e = .returned (.tuple #[.slice A n c, .int .i64 x]) ∧ OI w' w.heap.size A n c l ∧ Below w.heap.size w w'






end Go.Proofs.Ytgnkidmljcpheac
