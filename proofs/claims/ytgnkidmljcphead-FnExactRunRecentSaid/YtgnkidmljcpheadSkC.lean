/- Contracts of HalveSketch and JoinSketches, the program's and the model's. No statement is proved here. -/
import Derived.Test.YtgnkidmljcpheadSkB
namespace Go.Proofs.Ytgnkidmljcphead
open Go.RowKit

def halveF (l : List Int) : List Int := l.map (· / 2)
def halveL (l : List Int) : List Int := if vsk l then halveF l else []
theorem halveF_len (l : List Int) : (halveF l).length = l.length := by simp [halveF]
theorem gi_halveF (l : List Int) (k : Nat) : gi (halveF l) k = gi l k / 2 := by
  simp only [gi, halveF, List.getD, List.getElem?_map]
  cases l[k]? <;> rfl
theorem take_halve {l : List Int} {k : Nat} (h : k < l.length) : halveF (l.take (k + 1)) = halveF (l.take k) ++ [gi l k / 2] := by
  rw [take_succ_gi h]; simp [halveF]
/-- What stands in the new list after k rounds: the first k done, zeros behind. -/
def part (l : List Int) (n k : Nat) : List Int := l.take k ++ List.replicate (n - k) 0
theorem part_len {l : List Int} {n k : Nat} (hl : l.length = n) (hk : k ≤ n) : (part l n k).length = n := by simp [part]; omega
theorem part_zero (l : List Int) (n : Nat) : part l n 0 = List.replicate n 0 := by simp [part]
theorem part_full {l : List Int} {n : Nat} (hl : l.length = n) : part l n n = l := by simp [part, ← hl]
theorem part_set {l : List Int} {n k : Nat} (hl : l.length = n) (hk : k < n) : (part l n k).set k (gi l k) = part l n (k + 1) := by
  refine ext_gi (by rw [List.length_set, part_len hl (by omega), part_len hl (by omega)]) fun i hi => ?_
  rw [List.length_set, part_len hl (by omega)] at hi
  rw [gi_set _ (by rw [part_len hl (by omega)]; exact hk)]
  have hlk : (l.take k).length = k := by simp; omega
  have hlk1 : (l.take (k + 1)).length = k + 1 := by simp; omega
  by_cases e : i = k
  · subst e
    rw [if_pos rfl, part, gi_append_left (by omega), gi_take (by omega)]
  · rw [if_neg e]
    unfold part
    rcases Nat.lt_or_ge i k with h1 | h1
    · rw [gi_append_left (by omega), gi_append_left (by omega), gi_take h1, gi_take (by omega)]
    · rw [gi_append_right (by omega), gi_append_right (by omega), hlk, hlk1]
      simp only [gi, List.getD]
      rw [List.getElem?_replicate, List.getElem?_replicate, if_pos (by omega), if_pos (by omega)]



def joinF (l r : List Int) : List Int := List.zipWith (fun x y => mn (x + y) 15) l r
def joinL (l r : List Int) : List Int := if vsk l && vsk r then joinF l r else []
theorem joinF_len {l r : List Int} (hl : l.length = 24) (hr : r.length = 24) : (joinF l r).length = 24 := by simp [joinF, hl, hr]
theorem gi_joinF {l r : List Int} (hl : l.length = 24) (hr : r.length = 24) {k : Nat} (hk : k < 24) : gi (joinF l r) k = mn (gi l k + gi r k) 15 := by
  simp only [gi, joinF, List.getD, List.getElem?_zipWith]
  rw [List.getElem?_eq_getElem (show k < l.length by omega), List.getElem?_eq_getElem (show k < r.length by omega)]; rfl
theorem take_join {l r : List Int} (hl : l.length = 24) (hr : r.length = 24) {k : Nat} (h : k < 24) : (joinF l r).take (k + 1) = (joinF l r).take k ++ [mn (gi l k + gi r k) 15] := by
  rw [take_succ_gi (by rw [joinF_len hl hr]; exact h), gi_joinF hl hr h]


end Go.Proofs.Ytgnkidmljcphead
