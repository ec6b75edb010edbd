/- Contracts of the functions of chapter 1 that count and make sketches. No statement is proved here. -/
import Derived.Test.YtgnkidmljcpheadSk
namespace Go.Proofs.Ytgnkidmljcphead
open Go.RowKit

def mn (x y : Int) : Int := if y < x then y else x
theorem mn_min (x y : Int) : mn x y = min x y := by unfold mn; omega
def cnt (l : List Int) (key : Int) : Nat → Int
  | 0 => 15
  | k + 1 => mn (cnt l key k) (gi l (cellN k key))
def countL (l : List Int) (key : Int) : Int := if vsk l && inR 0 31 key then cnt l key 3 else -1
/-- A counter more. -/
def bump (l : List Int) (c : Nat) : List Int := l.set c (mn (gi l c + 1) 15)
def addN (l : List Int) (key : Int) : Nat → List Int
  | 0 => l
  | k + 1 => bump (addN l key k) (cellN k key)
theorem bump_len (l : List Int) (c : Nat) : (bump l c).length = l.length := by simp [bump]
theorem addN_len (l : List Int) (key : Int) : ∀ k, (addN l key k).length = l.length
  | 0 => rfl
  | k + 1 => by rw [addN, bump_len, addN_len l key k]
theorem bump_vsk {l : List Int} {c : Nat} (h : vsk l = true) : vsk (bump l c) = true := by
  have hl := vsk_len h
  refine vsk_of (by rw [bump_len, hl]) fun k hk => ?_
  have hk' := vsk_gi h hk
  rcases Nat.lt_or_ge c l.length with hc | hc
  · have hc' := vsk_gi h (show c < 24 by omega)
    unfold bump; rw [gi_set _ hc]; split
    · unfold mn; split <;> omega
    · exact hk'
  · rw [bump, List.set_eq_of_length_le hc]; exact hk'
theorem addN_vsk {l : List Int} {key : Int} (h : vsk l = true) : ∀ k, vsk (addN l key k) = true
  | 0 => h
  | k + 1 => bump_vsk (addN_vsk h k)
def addL (l : List Int) (key : Int) : List Int := if vsk l && inR 0 31 key then addN l key 3 else []
def emptyL : List Int := List.replicate 24 0
theorem emptyL_vsk : vsk emptyL = true := by decide




/-! What a call leaves that gives back a list in new memory. -/
def Gives (w : World) (l : List Int) (e : Ending) (w' : World) : Prop := ∃ A n c, e = .returned (.slice A n c) ∧ OI w' w.heap.size A n c l ∧ Below w.heap.size w w'





end Go.Proofs.Ytgnkidmljcphead
