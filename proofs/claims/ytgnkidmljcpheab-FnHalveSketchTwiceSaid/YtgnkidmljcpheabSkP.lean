/- Plain facts on counters: what adding, halving and joining do to counts. No statement is proved here. -/
import Derived.Test.YtgnkidmljcpheabFrame
namespace Go.Proofs.Ytgnkidmljcpheab
open Go.RowKit

theorem below_dN {B : Nat} {a w : World} (h : Below B a w) (q : Nat) : Below B a (w.drewN q) := ⟨h.os, h.tape, h.output, h.size, h.block⟩
theorem cnt_eq (l : List Int) (key : Int) : cnt l key 3 = min (min (min 15 (gi l (cellN 0 key))) (gi l (cellN 1 key))) (gi l (cellN 2 key)) := by
  simp only [cnt, mn_min]
theorem countL_yes {l : List Int} {key : Int} (hv : vsk l = true) (hk : 0 ≤ key ∧ key ≤ 31) : countL l key = cnt l key 3 := by
  simp [countL, hv, inR_true.2 hk]
theorem addL_yes {l : List Int} {key : Int} (hv : vsk l = true) (hk : 0 ≤ key ∧ key ≤ 31) : addL l key = addN l key 3 := by
  simp [addL, hv, inR_true.2 hk]
theorem addL_no {l : List Int} {key : Int} (h : ¬ (vsk l = true ∧ inR 0 31 key = true)) : addL l key = [] := by
  unfold addL; split
  · rename_i h'; rw [Bool.and_eq_true] at h'; exact absurd h' h
  · rfl
theorem cnt_bd {l : List Int} (key : Int) (h : vsk l = true) : 0 ≤ cnt l key 3 ∧ cnt l key 3 ≤ 15 := by
  have h0 := vsk_gi h (cellN_lt (row := 0) (key := key) (by omega))
  have h1 := vsk_gi h (cellN_lt (row := 1) (key := key) (by omega))
  have h2 := vsk_gi h (cellN_lt (row := 2) (key := key) (by omega))
  rw [cnt_eq]; omega
theorem gi_bump {l : List Int} {c i : Nat} (hc : c < l.length) : gi (bump l c) i = if i = c then mn (gi l c + 1) 15 else gi l i := by
  unfold bump; rw [gi_set _ hc]
/-- What AddKey does to each counter of a row. -/
theorem gi_addN3 {l : List Int} {key : Int} (hl : l.length = 24) {j i : Nat} (hj : j < 3) (h1 : j * 8 ≤ i) (h2 : i ≤ j * 8 + 7) :
    gi (addN l key 3) i = if i = cellN j key then mn (gi l i + 1) 15 else gi l i := by
  have c0 := cellN_bd 0 key
  have c1 := cellN_bd 1 key
  have c2 := cellN_bd 2 key
  have l0 : (addN l key 0).length = 24 := hl
  have l1 : (addN l key 1).length = 24 := by rw [addN_len]; exact hl
  have l2 : (addN l key 2).length = 24 := by rw [addN_len]; exact hl
  show gi (bump (addN l key 2) (cellN 2 key)) i = _
  rw [gi_bump (by omega)]
  show (if _ then mn (gi (bump (addN l key 1) (cellN 1 key)) _ + 1) 15 else gi (bump (addN l key 1) (cellN 1 key)) i) = _
  rw [gi_bump (by omega), gi_bump (by omega)]
  show (if _ then mn ((if _ then _ else gi (bump l (cellN 0 key)) _) + 1) 15 else (if _ then mn (gi (bump l (cellN 0 key)) _ + 1) 15 else gi (bump l (cellN 0 key)) i)) = _
  rw [gi_bump (by omega), gi_bump (by omega), gi_bump (by omega)]
  obtain rfl | rfl | rfl : j = 0 ∨ j = 1 ∨ j = 2 := by omega
  · rw [if_neg (show ¬ i = cellN 2 key by omega), if_neg (show ¬ i = cellN 1 key by omega)]
    by_cases e : i = cellN 0 key
    · rw [if_pos e, if_pos e, e]
    · rw [if_neg e, if_neg e]
  · rw [if_neg (show ¬ i = cellN 2 key by omega)]
    by_cases e : i = cellN 1 key
    · rw [if_pos e, if_pos e, if_neg (show ¬ cellN 1 key = cellN 0 key by omega), e]
    · rw [if_neg e, if_neg e, if_neg (show ¬ i = cellN 0 key by omega)]
  · by_cases e : i = cellN 2 key
    · rw [if_pos e, if_pos e, if_neg (show ¬ cellN 2 key = cellN 1 key by omega), if_neg (show ¬ cellN 2 key = cellN 0 key by omega), e]
    · rw [if_neg e, if_neg e, if_neg (show ¬ i = cellN 1 key by omega), if_neg (show ¬ i = cellN 0 key by omega)]
theorem gi_addN3_cell {l : List Int} {key k : Int} (hl : l.length = 24) {j : Nat} (hj : j < 3) :
    gi (addN l key 3) (cellN j k) = if cellN j k = cellN j key then mn (gi l (cellN j k) + 1) 15 else gi l (cellN j k) := by
  have := cellN_bd j k
  exact gi_addN3 hl hj (by omega) (by omega)
/-- Added keys count; no key counts less. -/
theorem cnt_add {l : List Int} {key : Int} (hv : vsk l = true) (k : Int) :
    cnt l k 3 ≤ cnt (addN l key 3) k 3 ∧ cnt (addN l key 3) k 3 ≤ cnt l k 3 + 1 ∧ (k = key → cnt (addN l key 3) k 3 = mn (cnt l k 3 + 1) 15) := by
  have hl := vsk_len hv
  have h0 := vsk_gi hv (cellN_lt (row := 0) (key := k) (by omega))
  have h1 := vsk_gi hv (cellN_lt (row := 1) (key := k) (by omega))
  have h2 := vsk_gi hv (cellN_lt (row := 2) (key := k) (by omega))
  have e0 := gi_addN3_cell (key := key) (k := k) hl (j := 0) (by omega)
  have e1 := gi_addN3_cell (key := key) (k := k) hl (j := 1) (by omega)
  have e2 := gi_addN3_cell (key := key) (k := k) hl (j := 2) (by omega)
  have b0 : gi l (cellN 0 k) ≤ gi (addN l key 3) (cellN 0 k) ∧ gi (addN l key 3) (cellN 0 k) ≤ gi l (cellN 0 k) + 1 := by
    rw [e0]; split <;> (try rw [mn_min]) <;> omega
  have b1 : gi l (cellN 1 k) ≤ gi (addN l key 3) (cellN 1 k) ∧ gi (addN l key 3) (cellN 1 k) ≤ gi l (cellN 1 k) + 1 := by
    rw [e1]; split <;> (try rw [mn_min]) <;> omega
  have b2 : gi l (cellN 2 k) ≤ gi (addN l key 3) (cellN 2 k) ∧ gi (addN l key 3) (cellN 2 k) ≤ gi l (cellN 2 k) + 1 := by
    rw [e2]; split <;> (try rw [mn_min]) <;> omega
  rw [cnt_eq, cnt_eq]
  refine ⟨by omega, by omega, ?_⟩
  rintro rfl
  rw [if_pos rfl] at e0 e1 e2
  simp only [mn_min] at e0 e1 e2 ⊢
  omega

theorem list_rows {l r : List Int} (hl : l.length = 24) (hr : r.length = 24) (h : ∀ j i, j < 3 → j * 8 ≤ i → i ≤ j * 8 + 7 → gi l i = gi r i) : l = r :=
  ext_gi (by omega) fun i hi => h (i / 8) i (by omega) (by omega) (by omega)
/-- The order of keys does not matter. -/
theorem addN_swap {l : List Int} (hl : l.length = 24) (a b : Int) : addN (addN l a 3) b 3 = addN (addN l b 3) a 3 := by
  have la : (addN l a 3).length = 24 := by rw [addN_len]; exact hl
  have lb : (addN l b 3).length = 24 := by rw [addN_len]; exact hl
  refine list_rows (by rw [addN_len]; exact la) (by rw [addN_len]; exact lb) fun j i hj h1 h2 => ?_
  rw [gi_addN3 la hj h1 h2, gi_addN3 lb hj h1 h2, gi_addN3 hl hj h1 h2, gi_addN3 hl hj h1 h2]
  by_cases ea : i = cellN j a
  · by_cases eb : i = cellN j b
    · simp only [if_pos ea, if_pos eb]
    · simp only [if_pos ea, if_neg eb]
  · by_cases eb : i = cellN j b
    · simp only [if_neg ea, if_pos eb]
    · simp only [if_neg ea, if_neg eb]
theorem halveF_vsk {l : List Int} (h : vsk l = true) : vsk (halveF l) = true := by
  refine vsk_of (by rw [halveF_len, vsk_len h]) fun k hk => ?_
  have := vsk_gi h hk
  rw [gi_halveF]; omega
theorem halveL_yes {l : List Int} (h : vsk l = true) : halveL l = halveF l := by simp [halveL, h]
theorem halveL_no {l : List Int} (h : vsk l = false) : halveL l = [] := by simp [halveL, h]
theorem cnt_halve {l : List Int} (hv : vsk l = true) (k : Int) : cnt (halveF l) k 3 = cnt l k 3 / 2 := by
  have h0 := vsk_gi hv (cellN_lt (row := 0) (key := k) (by omega))
  have h1 := vsk_gi hv (cellN_lt (row := 1) (key := k) (by omega))
  have h2 := vsk_gi hv (cellN_lt (row := 2) (key := k) (by omega))
  rw [cnt_eq, cnt_eq, gi_halveF, gi_halveF, gi_halveF]; omega
theorem joinF_vsk {l r : List Int} (h : vsk l = true) (h' : vsk r = true) : vsk (joinF l r) = true := by
  refine vsk_of (joinF_len (vsk_len h) (vsk_len h')) fun k hk => ?_
  have := vsk_gi h hk
  have := vsk_gi h' hk
  rw [gi_joinF (vsk_len h) (vsk_len h') hk, mn_min]; omega
theorem joinL_yes {l r : List Int} (h : vsk l = true) (h' : vsk r = true) : joinL l r = joinF l r := by simp [joinL, h, h']
theorem joinL_no {l r : List Int} (h : ¬ (vsk l = true ∧ vsk r = true)) : joinL l r = [] := by
  unfold joinL; split
  · rename_i h'; rw [Bool.and_eq_true] at h'; exact absurd h' h
  · rfl
theorem cnt_join {l r : List Int} (h : vsk l = true) (h' : vsk r = true) (k : Int) : mn (cnt l k 3 + cnt r k 3) 15 ≤ cnt (joinF l r) k 3 := by
  have c0 := cellN_lt (row := 0) (key := k) (by omega)
  have c1 := cellN_lt (row := 1) (key := k) (by omega)
  have c2 := cellN_lt (row := 2) (key := k) (by omega)
  rw [cnt_eq, cnt_eq, cnt_eq, gi_joinF (vsk_len h) (vsk_len h') c0, gi_joinF (vsk_len h) (vsk_len h') c1, gi_joinF (vsk_len h) (vsk_len h') c2]
  simp only [mn_min]; omega
theorem joinF_swap (l r : List Int) : joinF l r = joinF r l := by
  unfold joinF; rw [List.zipWith_comm]; congr 1; funext x y; rw [Int.add_comm]
theorem joinF_empty {l : List Int} (h : vsk l = true) : joinF l emptyL = l := by
  refine ext_gi (by rw [joinF_len (vsk_len h) rfl, vsk_len h]) fun i hi => ?_
  rw [joinF_len (vsk_len h) rfl] at hi
  have := vsk_gi h hi
  have e : gi emptyL i = 0 := by
    simp only [gi, emptyL, List.getD]; rw [List.getElem?_replicate, if_pos hi]; rfl
  rw [gi_joinF (vsk_len h) rfl hi, e, mn_min]; omega
theorem joinF_add {l r : List Int} (h : vsk l = true) (h' : vsk r = true) (k : Int) : joinF (addN l k 3) r = addN (joinF l r) k 3 := by
  have hl := vsk_len h
  have hr := vsk_len h'
  have la : (addN l k 3).length = 24 := by rw [addN_len]; exact hl
  have lj : (joinF l r).length = 24 := joinF_len hl hr
  refine list_rows (joinF_len la hr) (by rw [addN_len]; exact lj) fun j i hj h1 h2 => ?_
  have hi : i < 24 := by omega
  have g1 := vsk_gi h hi
  have g2 := vsk_gi h' hi
  rw [gi_joinF la hr hi, gi_addN3 hl hj h1 h2, gi_addN3 lj hj h1 h2, gi_joinF hl hr hi]
  by_cases e : i = cellN j k
  · simp only [if_pos e, mn_min]; omega
  · simp only [if_neg e]
end Go.Proofs.Ytgnkidmljcpheab
