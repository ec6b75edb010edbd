/- What the functions that the law reaches do, written as plain Lean. No statement is proved here. -/
import Derived.Test.YtlobdkcjlpifjacFnExactBestHitsP0
namespace Go.Ev
set_option linter.unusedVariables false
open Go
def F_spec_placeOf (l : List Int) (n : Int) (k : Int → Prop) : Prop := l.length ≤ 1000000000 ∧ k (plc l n)
theorem F_spec_placeOf_S {l : List Int} {n : Int} {k : Int → Prop} (h : F_spec_placeOf l n k) : S_spec_placeOf l n k := by
  obtain ⟨hl, hk⟩ := h
  have key : ∀ (r : List Int) (i : Nat), l.drop i = r → plcF r n i = plc l n → L0_spec_placeOf l n k (r.length + 1) (i : Int) := by
    intro r
    induction r with
    | nil =>
      intro i hd he
      have := drop_nil' hd
      rw [L0_spec_placeOf, T0_spec_placeOf]
      simp only [br_dec]
      exact ⟨fun h => by omega, fun _ => by rw [show (-1 : Int) = plc l n from he]; exact hk⟩
    | cons x r ih =>
      intro i hd he
      obtain ⟨h1, h2, _, h3, _⟩ := drop_cons' hd
      rw [List.length_cons, L0_spec_placeOf, T0_spec_placeOf]
      simp only [br_dec, br_beq, Int.toNat_natCast, h2]
      refine ⟨fun _ => ⟨⟨by omega, by omega⟩, fun hx => ?_, fun hx => ⟨inR (by omega) (by omega), ?_⟩⟩, fun h => by omega⟩
      · simp only [plcF, if_pos hx] at he; rw [he]; exact hk
      · simp only [plcF, if_neg hx] at he; exact ih (i + 1) h3 he
  exact ⟨_, key l 0 rfl rfl⟩
-- spec.isIn
def G_spec_isIn (list0 : List Int) (n1 : Int) (k : Bool → Prop) : Prop :=
  F_spec_placeOf list0 n1 fun placeOf7 =>
  k (decide (placeOf7 ≥ 0))
def S_spec_isIn (list0 : List Int) (n1 : Int) (k : Bool → Prop) : Prop := G_spec_isIn list0 n1 k
def F_spec_isIn (l : List Int) (n : Int) (k : Bool → Prop) : Prop := l.length ≤ 1000000000 ∧ k (decide (n ∈ l))
theorem F_spec_isIn_S {l : List Int} {n : Int} {k : Bool → Prop} (h : F_spec_isIn l n k) : S_spec_isIn l n k := by
  refine ⟨h.1, ?_⟩
  have : decide (plc l n ≥ 0) = decide (n ∈ l) := decide_eq_decide.2 plc_ge
  show k (decide (plc l n ≥ 0))
  rw [this]; exact h.2
-- spec.nextUse
def T0_spec_nextUse (key2 : Int) (t0 : List Int) (xi7 : Int) (k : Int → Prop) (B0 : Int → Prop) : Prop :=
  br (decide (xi7 < (t0.length : Int)))
  ((0 ≤ xi7 ∧ xi7 < (t0.length : Int)) ∧
    br ((List.getD t0 (Int.toNat xi7) (0 : Int)) == key2)
    (k xi7)
    (InR (xi7 + 1) ∧
      B0 (xi7 + 1)))
  (k (t0.length : Int))
def L0_spec_nextUse (key2 : Int) (t0 : List Int) (k : Int → Prop) : Nat → Int → Prop
  | 0, _ => False
  | n + 1, xi7 => T0_spec_nextUse key2 t0 xi7 k (L0_spec_nextUse key2 t0 k n)
def G_spec_nextUse (t0 : List Int) (from1 : Int) (key2 : Int) (I0 : Int → List Int → Int → Prop) : Prop :=
  I0 key2 t0 from1
def S_spec_nextUse (t0 : List Int) (from1 : Int) (key2 : Int) (k : Int → Prop) : Prop := G_spec_nextUse t0 from1 key2 (fun key2 t0 xi7 => ∃ j, L0_spec_nextUse key2 t0 k j xi7)
def F_spec_nextUse (t : List Int) (i key : Int) (k : Int → Prop) : Prop := (0 ≤ i ∧ i ≤ t.length ∧ t.length ≤ 1000000000) ∧ k (nextM t i key)
theorem F_spec_nextUse_S {t : List Int} {i key : Int} {k : Int → Prop} (h : F_spec_nextUse t i key k) : S_spec_nextUse t i key k := by
  obtain ⟨⟨h0, h1, h2⟩, hk⟩ := h
  have go : ∀ (m j : Nat), j + m = t.length → (j : Int) + (nxt key (t.drop j) : Int) = nextM t i key → L0_spec_nextUse key t k (m + 1) (j : Int) := by
    intro m
    induction m with
    | zero =>
      intro j hj he
      rw [L0_spec_nextUse, T0_spec_nextUse]
      refine br_dec.2 ⟨fun h => by omega, fun _ => ?_⟩
      rw [List.drop_of_length_le (by omega)] at he
      simp only [nxt] at he
      rw [show (t.length : Int) = nextM t i key by omega]; exact hk
    | succ m ih =>
      intro j hj he
      rw [nxt_drop (by omega)] at he
      rw [L0_spec_nextUse, T0_spec_nextUse]
      simp only [br_dec, br_beq, Int.toNat_natCast]
      refine ⟨fun _ => ⟨⟨by omega, by omega⟩, fun e => ?_, fun e => ⟨inR (by omega) (by omega), ?_⟩⟩, fun h => by omega⟩
      · rw [if_pos e] at he
        rw [show (j : Int) = nextM t i key by omega]; exact hk
      · rw [if_neg e] at he
        exact ih (j + 1) (by omega) (by omega)
  have := go (t.length - i.toNat) i.toNat (by omega) (by unfold nextM; omega)
  rw [Int.toNat_of_nonneg h0] at this
  exact ⟨_, this⟩
-- spec.farthest
def T0_spec_farthest (from1 : Int) (list2 : List Int) (t0 : List Int) (xat7 : Int) (xi8 : Int) (k : Int → Prop) (B0 : Int → Int → Prop) : Prop :=
  br (decide (xi8 < (list2.length : Int)))
  ((0 ≤ xi8 ∧ xi8 < (list2.length : Int)) ∧
    (0 ≤ xat7 ∧ xat7 < (list2.length : Int)) ∧
    (F_spec_nextUse t0 from1 (List.getD list2 (Int.toNat xi8) (0 : Int)) fun nextUse21 =>
      (F_spec_nextUse t0 from1 (List.getD list2 (Int.toNat xat7) (0 : Int)) fun nextUse28 =>
        br (decide (nextUse21 > nextUse28))
        (InR (xi8 + 1) ∧
          B0 xi8 (xi8 + 1))
        (InR (xi8 + 1) ∧
          B0 xat7 (xi8 + 1))) ∧
      (True)) ∧
    (True))
  (k xat7)
def U0_spec_farthest (from1 : Int) (list2 : List Int) (t0 : List Int) (xat7 : Int) (xi8 : Int) (k : Int → Prop) (B0 : Int → Int → Prop) : Prop :=
  br (decide (xi8 < (list2.length : Int)))
  ((0 ≤ xi8 ∧ xi8 < (list2.length : Int)) ∧
    (0 ≤ xat7 ∧ xat7 < (list2.length : Int)) ∧
    F_spec_nextUse t0 from1 (List.getD list2 (Int.toNat xi8) (0 : Int)) fun nextUse21 =>
    F_spec_nextUse t0 from1 (List.getD list2 (Int.toNat xat7) (0 : Int)) fun nextUse28 =>
    br (decide (nextUse21 > nextUse28))
    (InR (xi8 + 1) ∧
      B0 xi8 (xi8 + 1))
    (InR (xi8 + 1) ∧
      B0 xat7 (xi8 + 1)))
  (k xat7)
theorem T0_spec_farthest_eq (from1 : Int) (list2 : List Int) (t0 : List Int) (xat7 : Int) (xi8 : Int) (k : Int → Prop) (B0 : Int → Int → Prop) : T0_spec_farthest from1 list2 t0 xat7 xi8 k B0 = U0_spec_farthest from1 list2 t0 xat7 xi8 k B0 := by
  simp only [T0_spec_farthest, U0_spec_farthest, and_self, and_true]
def L0_spec_farthest (from1 : Int) (list2 : List Int) (t0 : List Int) (k : Int → Prop) : Nat → Int → Int → Prop
  | 0, _, _ => False
  | n + 1, xat7, xi8 => U0_spec_farthest from1 list2 t0 xat7 xi8 k (L0_spec_farthest from1 list2 t0 k n)
def G_spec_farthest (t0 : List Int) (from1 : Int) (list2 : List Int) (I0 : Int → List Int → List Int → Int → Int → Prop) : Prop :=
  I0 from1 list2 t0 0 1
def S_spec_farthest (t0 : List Int) (from1 : Int) (list2 : List Int) (k : Int → Prop) : Prop := G_spec_farthest t0 from1 list2 (fun from1 list2 t0 xat7 xi8 => ∃ j, L0_spec_farthest from1 list2 t0 k j xat7 xi8)
def F_spec_farthest (t : List Int) (i : Int) (l : List Int) (k : Int → Prop) : Prop := (0 ≤ i ∧ i ≤ t.length ∧ t.length ≤ 1000000 ∧ 0 < l.length ∧ l.length ≤ 1000000) ∧ k (plc l (farM (t.drop i.toNat) l))
theorem F_spec_farthest_S {t : List Int} {i : Int} {l : List Int} {k : Int → Prop} (h : F_spec_farthest t i l k) : S_spec_farthest t i l k := by
  obtain ⟨⟨h0, h1, h2, h3, h4⟩, hk⟩ := h
  have go : ∀ (m j : Nat), 0 < j → j + m = l.length → L0_spec_farthest i l t k (m + 1) (plc l (farM (t.drop i.toNat) (l.take j))) (j : Int) := by
    intro m
    induction m with
    | zero =>
      intro j hp hj
      rw [L0_spec_farthest, U0_spec_farthest, List.take_of_length_le (by omega)]
      exact br_dec.2 ⟨fun h => by omega, fun _ => hk⟩
    | succ m ih =>
      intro j hp hj
      have hl : (l.take j).length = j := by rw [List.length_take]; omega
      have hm := farM_mem (r := t.drop i.toNat) (C := l.take j) (by omega)
      have hm2 := mem_take_plc.1 hm
      have hg := some_of (l := l) (i := j) (d := 0) (by omega)
      have e : l.take (j + 1) = l.take j ++ [l.getD j 0] := by
        rw [List.take_add_one, hg]; rfl
      have next := ih (j + 1) (by omega) (by omega)
      rw [e, farM_snoc (by omega)] at next
      have hat : l.getD (plc l (farM (t.drop i.toNat) (l.take j))).toNat 0 = farM (t.drop i.toNat) (l.take j) := by
        obtain ⟨q, q1, q2, _, q4⟩ := plc_pos (List.mem_of_mem_take hm)
        rw [q4, Int.toNat_natCast]; exact getD_of q2
      rw [L0_spec_farthest, U0_spec_farthest]
      simp only [br_dec, Int.toNat_natCast]
      rw [hat]
      refine ⟨fun _ => ⟨⟨by omega, by omega⟩, ⟨by omega, by omega⟩, ⟨by omega, by omega, by omega⟩, ⟨by omega, by omega, by omega⟩, fun g => ⟨inR (by omega) (by omega), ?_⟩, fun g => ⟨inR (by omega) (by omega), ?_⟩⟩, fun h => by omega⟩
      · have g2 : nxt (farM (t.drop i.toNat) (l.take j)) (t.drop i.toNat) < nxt (l.getD j 0) (t.drop i.toNat) := by unfold nextM at g; omega
        rw [if_pos g2] at next
        have hnew : l.getD j 0 ∉ l.take j := fun c => by have := farM_max (r := t.drop i.toNat) c; omega
        have : plc l (l.getD j 0) = (j : Int) := by
          have a1 := mem_take_plc.1 (show l.getD j 0 ∈ l.take (j + 1) by rw [e]; simp)
          have a2 : ¬ (0 ≤ plc l (l.getD j 0) ∧ plc l (l.getD j 0) < (j : Nat)) := fun c => hnew (mem_take_plc.2 c)
          omega
        rw [this] at next
        exact next
      · have g2 : ¬ nxt (farM (t.drop i.toNat) (l.take j)) (t.drop i.toNat) < nxt (l.getD j 0) (t.drop i.toNat) := by unfold nextM at g; omega
        rw [if_neg g2] at next
        exact next
  have := go (l.length - 1) 1 (by omega) (by omega)
  have e : l.take 1 = [l.getD 0 0] := by
    cases l with
    | nil => simp at h3
    | cons x l => rfl
  have e2 : plc l (farM (t.drop i.toNat) (l.take 1)) = 0 := by
    rw [e]
    show plc l (l.getD 0 0) = 0
    have a1 := mem_take_plc.1 (show l.getD 0 0 ∈ l.take 1 by rw [e]; simp)
    omega
  rw [e2] at this
  exact ⟨_, this⟩
-- spec.without
def G_spec_without (list0 : List Int) (at1 : Int) (k : List Int → Prop) : Prop :=
  (0 ≤ at1 ∧ at1 ≤ (list0.length : Int)) ∧
  InR (at1 + 1) ∧
  (0 ≤ (at1 + 1) ∧ (at1 + 1) ≤ (list0.length : Int)) ∧
  (((0 + (List.length (List.take (Int.toNat at1) list0)) ≤ 1000000000) ∧
      (((List.length (List.take (Int.toNat at1) list0)) + (List.length (List.drop (Int.toNat (at1 + 1)) list0)) ≤ 1000000000) ∧
        k ((List.take (Int.toNat at1) list0) ++ (List.drop (Int.toNat (at1 + 1)) list0))) ∧
      (True)) ∧
    (True)) ∧
  (True)
def H_spec_without (list0 : List Int) (at1 : Int) (k : List Int → Prop) : Prop :=
  (0 ≤ at1 ∧ at1 ≤ (list0.length : Int)) ∧
  InR (at1 + 1) ∧
  (0 ≤ (at1 + 1) ∧ (at1 + 1) ≤ (list0.length : Int)) ∧
  (0 + (List.length (List.take (Int.toNat at1) list0)) ≤ 1000000000) ∧
  ((List.length (List.take (Int.toNat at1) list0)) + (List.length (List.drop (Int.toNat (at1 + 1)) list0)) ≤ 1000000000) ∧
  k ((List.take (Int.toNat at1) list0) ++ (List.drop (Int.toNat (at1 + 1)) list0))
theorem G_spec_without_eq (list0 : List Int) (at1 : Int) (k : List Int → Prop) : G_spec_without list0 at1 k = H_spec_without list0 at1 k := by
  simp only [G_spec_without, H_spec_without, and_self, and_true]
def S_spec_without (list0 : List Int) (at1 : Int) (k : List Int → Prop) : Prop := H_spec_without list0 at1 k
def F_spec_without (l : List Int) (at1 : Int) (k : List Int → Prop) : Prop := (0 ≤ at1 ∧ at1 < l.length ∧ l.length ≤ 1000000000) ∧ k (l.take at1.toNat ++ l.drop (at1.toNat + 1))
theorem F_spec_without_S {l : List Int} {at1 : Int} {k : List Int → Prop} (h : F_spec_without l at1 k) : S_spec_without l at1 k := by
  obtain ⟨⟨h1, h2, h3⟩, hk⟩ := h
  have e : (at1 + 1).toNat = at1.toNat + 1 := by omega
  refine ⟨⟨by omega, by omega⟩, inR (by omega) (by omega), ⟨by omega, by omega⟩, by simp; omega, by simp; omega, ?_⟩
  rw [e]; exact hk
-- spec.copyInts
def G_spec_copyInts (list0 : List Int) (k : List Int → Prop) : Prop :=
  (0 + list0.length ≤ 1000000000) ∧
  k list0
def S_spec_copyInts (list0 : List Int) (k : List Int → Prop) : Prop := G_spec_copyInts list0 k
def F_spec_copyInts (l : List Int) (k : List Int → Prop) : Prop := l.length ≤ 1000000000 ∧ k l
theorem F_spec_copyInts_S {l : List Int} {k : List Int → Prop} (h : F_spec_copyInts l k) : S_spec_copyInts l k := ⟨by have := h.1; omega, h.2⟩
-- spec.best
def T0_spec_best_j0 (copyInts35 : List Int) (t0 : List Int) (xi7 : Int) (xn6 : Int) (B0 : Int → Int → List Int → Prop) : Prop :=
  ((copyInts35.length + 1 ≤ 1000000000) ∧
    InR (xi7 + 1) ∧
    B0 xn6 (xi7 + 1) (copyInts35 ++ ([(List.getD t0 (Int.toNat xi7) (0 : Int))] : List Int))) ∧
  (True)
def T0_spec_best_j1 (copyInts35 : List Int) (t0 : List Int) (xi7 : Int) (xn6 : Int) (B0 : Int → Int → List Int → Prop) : Prop :=
  (T0_spec_best_j0 copyInts35 t0 xi7 xn6 B0) ∧
  (True)
def T0_spec_best (room1 : Int) (t0 : List Int) (xn6 : Int) (xi7 : Int) (xlist5 : List Int) (k : Int → Prop) (B0 : Int → Int → List Int → Prop) : Prop :=
  br (decide (xi7 < (t0.length : Int)))
  ((0 ≤ xi7 ∧ xi7 < (t0.length : Int)) ∧
    F_spec_isIn xlist5 (List.getD t0 (Int.toNat xi7) (0 : Int)) fun isIn20 =>
    br isIn20
    (InR (xn6 + 1) ∧
      InR (xi7 + 1) ∧
      B0 (xn6 + 1) (xi7 + 1) xlist5)
    (br ((xlist5.length : Int) == room1)
      (InR (xi7 + 1) ∧
        F_spec_farthest t0 (xi7 + 1) xlist5 fun farthest32 =>
        F_spec_without xlist5 farthest32 fun without33 =>
        (0 ≤ xi7 ∧ xi7 < (t0.length : Int)) ∧
        (F_spec_copyInts without33 fun copyInts35 =>
          T0_spec_best_j1 copyInts35 t0 xi7 xn6 B0) ∧
        (((F_spec_copyInts without33 fun copyInts35 =>
              T0_spec_best_j0 copyInts35 t0 xi7 xn6 B0) ∧
            (True)) ∧
          (True)))
      ((0 ≤ xi7 ∧ xi7 < (t0.length : Int)) ∧
        (F_spec_copyInts xlist5 fun copyInts35 =>
          T0_spec_best_j1 copyInts35 t0 xi7 xn6 B0) ∧
        (((F_spec_copyInts xlist5 fun copyInts35 =>
              T0_spec_best_j0 copyInts35 t0 xi7 xn6 B0) ∧
            (True)) ∧
          (True)))))
  (k xn6)
def U0_spec_best_j0 (copyInts35 : List Int) (t0 : List Int) (xi7 : Int) (xn6 : Int) (B0 : Int → Int → List Int → Prop) : Prop :=
  (copyInts35.length + 1 ≤ 1000000000) ∧
  InR (xi7 + 1) ∧
  B0 xn6 (xi7 + 1) (copyInts35 ++ ([(List.getD t0 (Int.toNat xi7) (0 : Int))] : List Int))
def U0_spec_best (room1 : Int) (t0 : List Int) (xn6 : Int) (xi7 : Int) (xlist5 : List Int) (k : Int → Prop) (B0 : Int → Int → List Int → Prop) : Prop :=
  br (decide (xi7 < (t0.length : Int)))
  ((0 ≤ xi7 ∧ xi7 < (t0.length : Int)) ∧
    F_spec_isIn xlist5 (List.getD t0 (Int.toNat xi7) (0 : Int)) fun isIn20 =>
    br isIn20
    (InR (xn6 + 1) ∧
      InR (xi7 + 1) ∧
      B0 (xn6 + 1) (xi7 + 1) xlist5)
    (br ((xlist5.length : Int) == room1)
      (InR (xi7 + 1) ∧
        F_spec_farthest t0 (xi7 + 1) xlist5 fun farthest32 =>
        F_spec_without xlist5 farthest32 fun without33 =>
        (0 ≤ xi7 ∧ xi7 < (t0.length : Int)) ∧
        F_spec_copyInts without33 fun copyInts35 =>
        U0_spec_best_j0 copyInts35 t0 xi7 xn6 B0)
      ((0 ≤ xi7 ∧ xi7 < (t0.length : Int)) ∧
        F_spec_copyInts xlist5 fun copyInts35 =>
        U0_spec_best_j0 copyInts35 t0 xi7 xn6 B0)))
  (k xn6)
theorem T0_spec_best_eq (room1 : Int) (t0 : List Int) (xn6 : Int) (xi7 : Int) (xlist5 : List Int) (k : Int → Prop) (B0 : Int → Int → List Int → Prop) : T0_spec_best room1 t0 xn6 xi7 xlist5 k B0 = U0_spec_best room1 t0 xn6 xi7 xlist5 k B0 := by
  simp only [T0_spec_best, U0_spec_best, T0_spec_best_j0, T0_spec_best_j1, U0_spec_best_j0, and_self, and_true]
def L0_spec_best (room1 : Int) (t0 : List Int) (k : Int → Prop) : Nat → Int → Int → List Int → Prop
  | 0, _, _, _ => False
  | n + 1, xn6, xi7, xlist5 => U0_spec_best room1 t0 xn6 xi7 xlist5 k (L0_spec_best room1 t0 k n)
def G_spec_best (t0 : List Int) (room1 : Int) (I0 : Int → List Int → Int → Int → List Int → Prop) : Prop :=
  I0 room1 t0 0 0 ([] : List Int)
def S_spec_best (t0 : List Int) (room1 : Int) (k : Int → Prop) : Prop := G_spec_best t0 room1 (fun room1 t0 xn6 xi7 xlist5 => ∃ j, L0_spec_best room1 t0 k j xn6 xi7 xlist5)
def F_spec_best (t : List Int) (room : Int) (k : Int → Prop) : Prop := (t.length ≤ 1000000 ∧ 1 ≤ room ∧ room ≤ 8) ∧ k (bestM room.toNat t [] : Int)
theorem F_spec_best_S {t : List Int} {room : Int} {k : Int → Prop} (h : F_spec_best t room k) : S_spec_best t room k := by
  obtain ⟨⟨h0, h1, h2⟩, hk⟩ := h
  have go : ∀ (r : List Int) (i : Nat) (n : Int) (C : List Int), t.drop i = r → 0 ≤ n → n ≤ i → C.Nodup → C.length ≤ room.toNat → n + (bestM room.toNat r C : Int) = (bestM room.toNat t [] : Int) → L0_spec_best room t k (r.length + 1) n (i : Int) C := by
    intro r
    induction r with
    | nil =>
      intro i n C hd n0 n1 hn hc he
      have := drop_nil' hd
      rw [L0_spec_best, U0_spec_best]
      refine br_dec.2 ⟨fun h => by omega, fun _ => ?_⟩
      rw [show n = (bestM room.toNat t [] : Int) by simpa [bestM] using he]; exact hk
    | cons x r ih =>
      intro i n C hd n0 n1 hn hc he
      obtain ⟨g1, g2, g5, g3, g4⟩ := drop_cons' hd
      rw [List.length_cons, L0_spec_best, U0_spec_best]
      simp only [Int.toNat_natCast, g2]
      refine br_dec.2 ⟨fun _ => ⟨⟨by omega, by omega⟩, by omega, br_dec.2 ⟨fun hm => ?_, fun hm => ?_⟩⟩, fun h => by omega⟩
      · rw [bestM, if_pos hm] at he
        exact ⟨inR (by omega) (by omega), inR (by omega) (by omega), ih (i + 1) _ C g3 (by omega) (by omega) hn hc (by omega)⟩
      · rw [bestM, if_neg hm] at he
        obtain ⟨m1, m2, m3, m4⟩ := missB_ok (room := room.toNat) (r := r) (by omega) hn hc hm
        have last := ih (i + 1) n (missB room.toNat r C x) g3 n0 (by omega) m1 m2 he
        refine br_beq.2 ⟨fun hf => ?_, fun hf => ?_⟩
        · have hp : 0 < C.length := by omega
          have hfm := farM_mem (r := r) (C := C) hp
          obtain ⟨j, j1, j2, _, j3⟩ := plc_pos hfm
          have e1 : C.take (plc C (farM r C)).toNat ++ C.drop ((plc C (farM r C)).toNat + 1) = rmK C (farM r C) := by
            rw [j3, Int.toNat_natCast]; exact rmK_erase hn j2
          have e2 : t.drop ((i : Int) + 1).toNat = r := by rw [show ((i : Int) + 1).toNat = i + 1 by omega]; exact g3
          refine ⟨inR (by omega) (by omega), ⟨by omega, by omega, by omega, by omega, by omega⟩, ?_⟩
          rw [e2]
          refine ⟨⟨by omega, by omega, by omega⟩, ⟨by omega, by omega⟩, ?_⟩
          rw [e1]
          have := @rmK_le C (farM r C)
          rw [missB, if_pos (by omega)] at last
          exact ⟨by omega, by omega, inR (by omega) (by omega), by first | exact last | (rw [Int.toNat_natCast, g2]; exact last)⟩
        · rw [missB, if_neg (by omega)] at last
          exact ⟨⟨by omega, by omega⟩, by omega, by omega, inR (by omega) (by omega), by first | exact last | (rw [Int.toNat_natCast, g2]; exact last)⟩
  exact ⟨_, go t 0 0 [] rfl (by omega) (by omega) (by simp) (by simp) (by omega)⟩
-- spec.BestHits
def G_spec_BestHits (t0 : List Int) (room1 : Int) (k : Int → Prop) : Prop :=
  F_spec_validTrace t0 fun validTrace6 =>
  br (!validTrace6)
  (k (-1))
  (F_spec_inRange room1 (1 : Int) (8 : Int) fun inRange10 =>
    br (!inRange10)
    (k (-1))
    (F_spec_best t0 room1 fun best15 =>
      k best15))
def S_spec_BestHits (t0 : List Int) (room1 : Int) (k : Int → Prop) : Prop := G_spec_BestHits t0 room1 k
def F_spec_BestHits (t : List Int) (room : Int) (k : Int → Prop) : Prop := (VTrace t ∧ 1 ≤ room ∧ room ≤ 8 → k (bestM room.toNat t [] : Int)) ∧ (¬ (VTrace t ∧ 1 ≤ room ∧ room ≤ 8) → k (-1))
theorem F_spec_BestHits_S {t : List Int} {room : Int} {k : Int → Prop} (h : F_spec_BestHits t room k) : S_spec_BestHits t room k := by
  obtain ⟨hyes, hno⟩ := h
  intro b hb
  refine br_not.2 (br_iff.2 ⟨fun e => ?_, fun e => hno fun w => by rw [hb.2 w.1] at e; cases e⟩)
  have v := hb.1 e
  exact br_not.2 (br_dec.2 ⟨fun hr => ⟨⟨by have := v.1; omega, hr.1, hr.2⟩, hyes ⟨v, hr⟩⟩, fun hr => hno fun w => hr w.2⟩)
-- impl.validKey
def G_impl_validKey (key0 : Int) (k : Bool → Prop) : Prop :=
  br (decide (0 ≤ key0))
  (k (decide (key0 ≤ 31)))
  (k false)
def S_impl_validKey (key0 : Int) (k : Bool → Prop) : Prop := G_impl_validKey key0 k
def F_impl_validKey (n : Int) (k : Bool → Prop) : Prop := k (decide (0 ≤ n ∧ n ≤ 31))
theorem F_impl_validKey_S {n : Int} {k : Bool → Prop} (h : F_impl_validKey n k) : S_impl_validKey n k := by
  unfold F_impl_validKey at h
  simp only [S_impl_validKey, G_impl_validKey, br_dec]
  refine ⟨fun h1 => ?_, fun h1 => ?_⟩
  · simpa [h1] using h
  · simpa [h1] using h
-- impl.ValidTrace
def T0_impl_ValidTrace (t0 : List Int) (xt9 : Int) (xt10 : Int) (k : Bool → Prop) (B0 : Int → Prop) : Prop :=
  br (decide (xt10 < xt9))
  ((0 ≤ xt10 ∧ xt10 < (t0.length : Int)) ∧
    F_impl_validKey (List.getD t0 (Int.toNat xt10) (0 : Int)) fun validKey15 =>
    br (!validKey15)
    (k false)
    (InR (xt10 + 1) ∧
      B0 (xt10 + 1)))
  (k true)
def L0_impl_ValidTrace (t0 : List Int) (xt9 : Int) (k : Bool → Prop) : Nat → Int → Prop
  | 0, _ => False
  | n + 1, xt10 => T0_impl_ValidTrace t0 xt9 xt10 k (L0_impl_ValidTrace t0 xt9 k n)
def G_impl_ValidTrace (t0 : List Int) (k : Bool → Prop) (I0 : List Int → Int → Int → Prop) : Prop :=
  br (decide ((t0.length : Int) > 24))
  (k false)
  (I0 t0 (t0.length : Int) 0)
def S_impl_ValidTrace (t0 : List Int) (k : Bool → Prop) : Prop := G_impl_ValidTrace t0 k (fun t0 xt9 xt10 => ∃ j, L0_impl_ValidTrace t0 xt9 k j xt10)
def F_impl_ValidTrace (t : List Int) (k : Bool → Prop) : Prop := ∀ b : Bool, (b = true ↔ VTrace t) → k b
theorem F_impl_ValidTrace_S {t : List Int} {k : Bool → Prop} (h : F_impl_ValidTrace t k) : S_impl_ValidTrace t k := by
  have hno : ¬ VTrace t → k false := fun hv => h false (by simp [hv])
  have key : t.length ≤ 24 → ∀ (r : List Int) (i : Nat), t.drop i = r → (∀ x ∈ t.take i, 0 ≤ x ∧ x ≤ 31) → L0_impl_ValidTrace t (t.length : Int) k (r.length + 1) (i : Int) := by
    intro hl r
    induction r with
    | nil =>
      intro i hd he
      have := drop_nil' hd
      rw [List.take_of_length_le this] at he
      rw [L0_impl_ValidTrace, T0_impl_ValidTrace]
      simp only [br_dec]
      exact ⟨fun h => by omega, fun _ => h true (by simp only [true_iff]; exact ⟨hl, he⟩)⟩
    | cons x r ih =>
      intro i hd he
      obtain ⟨h1, h2, h5, h3, h4⟩ := drop_cons' hd
      rw [List.length_cons, L0_impl_ValidTrace, T0_impl_ValidTrace]
      simp only [br_dec, F_impl_validKey, Int.toNat_natCast, h2, br_not]
      refine ⟨fun _ => ⟨⟨by omega, by omega⟩, fun hx => ⟨inR (by omega) (by omega), ih (i + 1) h3 ?_⟩, fun hx => hno fun v => hx (v.2 x (List.mem_of_getElem? h5))⟩, fun h => by omega⟩
      rw [h4]; intro y hy
      rcases List.mem_append.1 hy with hy | hy
      · exact he y hy
      · simp at hy; subst hy; exact hx
  exact br_dec.2 ⟨fun h3 => hno fun v => by have := v.1; omega, fun h3 => ⟨_, key (by omega) t 0 rfl (by simp)⟩⟩
-- impl.validRoom
def G_impl_validRoom (room0 : Int) (k : Bool → Prop) : Prop :=
  br (decide (1 ≤ room0))
  (k (decide (room0 ≤ 8)))
  (k false)
def S_impl_validRoom (room0 : Int) (k : Bool → Prop) : Prop := G_impl_validRoom room0 k
def F_impl_validRoom (n : Int) (k : Bool → Prop) : Prop := k (decide (1 ≤ n ∧ n ≤ 8))
theorem F_impl_validRoom_S {n : Int} {k : Bool → Prop} (h : F_impl_validRoom n k) : S_impl_validRoom n k := by
  unfold F_impl_validRoom at h
  simp only [S_impl_validRoom, G_impl_validRoom, br_dec]
  refine ⟨fun h1 => ?_, fun h1 => ?_⟩
  · simpa [h1] using h
  · simpa [h1] using h
-- slices.Index[[]int,int]
def T0_slices_Index_sint_int (s0 : List Int) (v1 : Int) (xt7 : Int) (xt8 : Int) (k : Int → Prop) (B0 : Int → Prop) : Prop :=
  br (decide (xt8 < xt7))
  ((0 ≤ xt8 ∧ xt8 < (s0.length : Int)) ∧
    br (v1 == (List.getD s0 (Int.toNat xt8) (0 : Int)))
    (k xt8)
    (InR (xt8 + 1) ∧
      B0 (xt8 + 1)))
  (k (-1))
def L0_slices_Index_sint_int (s0 : List Int) (v1 : Int) (xt7 : Int) (k : Int → Prop) : Nat → Int → Prop
  | 0, _ => False
  | n + 1, xt8 => T0_slices_Index_sint_int s0 v1 xt7 xt8 k (L0_slices_Index_sint_int s0 v1 xt7 k n)
def G_slices_Index_sint_int (s0 : List Int) (v1 : Int) (I0 : List Int → Int → Int → Int → Prop) : Prop :=
  I0 s0 v1 (s0.length : Int) 0
def S_slices_Index_sint_int (s0 : List Int) (v1 : Int) (k : Int → Prop) : Prop := G_slices_Index_sint_int s0 v1 (fun s0 v1 xt7 xt8 => ∃ j, L0_slices_Index_sint_int s0 v1 xt7 k j xt8)
def F_slices_Index_sint_int (l : List Int) (n : Int) (k : Int → Prop) : Prop := l.length ≤ 1000000000 ∧ k (plc l n)
theorem F_slices_Index_sint_int_S {l : List Int} {n : Int} {k : Int → Prop} (h : F_slices_Index_sint_int l n k) : S_slices_Index_sint_int l n k := by
  obtain ⟨hl, hk⟩ := h
  have key : ∀ (r : List Int) (i : Nat), l.drop i = r → plcF r n i = plc l n → L0_slices_Index_sint_int l n (l.length : Int) k (r.length + 1) (i : Int) := by
    intro r
    induction r with
    | nil =>
      intro i hd he
      have := drop_nil' hd
      rw [L0_slices_Index_sint_int, T0_slices_Index_sint_int]
      simp only [br_dec]
      exact ⟨fun h => by omega, fun _ => by rw [show (-1 : Int) = plc l n from he]; exact hk⟩
    | cons x r ih =>
      intro i hd he
      obtain ⟨h1, h2, _, h3, _⟩ := drop_cons' hd
      rw [List.length_cons, L0_slices_Index_sint_int, T0_slices_Index_sint_int]
      simp only [br_dec, br_beq, Int.toNat_natCast, h2]
      refine ⟨fun _ => ⟨⟨by omega, by omega⟩, fun hx => ?_, fun hx => ⟨inR (by omega) (by omega), ?_⟩⟩, fun h => by omega⟩
      · simp only [plcF, if_pos hx.symm] at he; rw [he]; exact hk
      · simp only [plcF, if_neg (Ne.symm hx)] at he; exact ih (i + 1) h3 he
  exact ⟨_, key l 0 rfl rfl⟩
-- slices.Contains[[]int,int]
def G_slices_Contains_sint_int (s0 : List Int) (v1 : Int) (k : Bool → Prop) : Prop :=
  F_slices_Index_sint_int s0 v1 fun index7 =>
  k (decide (index7 ≥ 0))
def S_slices_Contains_sint_int (s0 : List Int) (v1 : Int) (k : Bool → Prop) : Prop := G_slices_Contains_sint_int s0 v1 k
def F_slices_Contains_sint_int (l : List Int) (n : Int) (k : Bool → Prop) : Prop := l.length ≤ 1000000000 ∧ k (decide (n ∈ l))
theorem F_slices_Contains_sint_int_S {l : List Int} {n : Int} {k : Bool → Prop} (h : F_slices_Contains_sint_int l n k) : S_slices_Contains_sint_int l n k := by
  refine ⟨h.1, ?_⟩
  have : decide (plc l n ≥ 0) = decide (n ∈ l) := decide_eq_decide.2 plc_ge
  show k (decide (plc l n ≥ 0))
  rw [this]; exact h.2
-- impl.validPlace
def G_impl_validPlace (t0 : List Int) (place1 : Int) (k : Bool → Prop) : Prop :=
  br (decide (0 ≤ place1))
  (k (decide (place1 ≤ (t0.length : Int))))
  (k false)
def S_impl_validPlace (t0 : List Int) (place1 : Int) (k : Bool → Prop) : Prop := G_impl_validPlace t0 place1 k
def F_impl_validPlace (t : List Int) (p : Int) (k : Bool → Prop) : Prop := k (decide (0 ≤ p ∧ p ≤ t.length))
theorem F_impl_validPlace_S {t : List Int} {p : Int} {k : Bool → Prop} (h : F_impl_validPlace t p k) : S_impl_validPlace t p k := by
  unfold F_impl_validPlace at h
  simp only [S_impl_validPlace, G_impl_validPlace, br_dec]
  refine ⟨fun h1 => ?_, fun h1 => ?_⟩
  · simpa [h1] using h
  · simpa [h1] using h
-- impl.NextUse
def G_impl_NextUse (t0 : List Int) (from1 : Int) (key2 : Int) (k : Int → Prop) : Prop :=
  F_impl_ValidTrace t0 fun validTrace9 =>
  br (!validTrace9)
  (k (-1))
  (F_impl_validPlace t0 from1 fun validPlace14 =>
    br (!validPlace14)
    (k (-1))
    (F_impl_validKey key2 fun validKey19 =>
      br (!validKey19)
      (k (-1))
      ((0 ≤ from1 ∧ from1 ≤ (t0.length : Int)) ∧
        F_slices_Index_sint_int (List.drop (Int.toNat from1) t0) key2 fun index26 =>
        br (decide (index26 ≥ 0))
        (InR (from1 + index26) ∧
          k (from1 + index26))
        (k (t0.length : Int)))))
def S_impl_NextUse (t0 : List Int) (from1 : Int) (key2 : Int) (k : Int → Prop) : Prop := G_impl_NextUse t0 from1 key2 k
def F_impl_NextUse (t : List Int) (i : Int) (key : Int) (k : Int → Prop) : Prop := (VTrace t ∧ (0 ≤ i ∧ i ≤ t.length) ∧ 0 ≤ key ∧ key ≤ 31 → k (nextM t i key)) ∧ (¬ (VTrace t ∧ (0 ≤ i ∧ i ≤ t.length) ∧ 0 ≤ key ∧ key ≤ 31) → k (-1))
theorem F_impl_NextUse_S {t : List Int} {i : Int} {key : Int} {k : Int → Prop} (h : F_impl_NextUse t i key k) : S_impl_NextUse t i key k := by
  obtain ⟨hyes, hno⟩ := h
  intro b hb
  refine br_not.2 (br_iff.2 ⟨fun e => ?_, fun e => hno fun w => by rw [hb.2 w.1] at e; cases e⟩)
  have v := hb.1 e
  have hl := v.1
  refine br_not.2 (br_dec.2 ⟨fun hi => br_not.2 (br_dec.2 ⟨fun hkey => ?_, fun hkey => hno fun w => hkey w.2.2⟩), fun hi => hno fun w => hi w.2.1⟩)
  have hk := hyes ⟨v, hi, hkey⟩
  have hd : (t.drop i.toNat).length = t.length - i.toNat := List.length_drop
  refine ⟨hi, by omega, br_dec.2 ⟨fun hm => ?_, fun hm => ?_⟩⟩
  · have := plc_nxt (plc_ge.1 hm)
    have := nxt_le key (t.drop i.toNat)
    rw [show nextM t i key = i + plc (t.drop i.toNat) key by unfold nextM; omega] at hk
    exact ⟨inR (by omega) (by omega), hk⟩
  · have := nxt_out (fun c => hm (plc_ge.2 c))
    rw [show nextM t i key = (t.length : Int) by unfold nextM; omega] at hk
    exact hk
-- impl.latestKey
def T0_impl_latestKey (cache2 : List Int) (from1 : Int) (t0 : List Int) (xt14 : Int) (xlatest7 : Int) (xt15 : Int) (k : Int → Prop) (B0 : Int → Int → Prop) : Prop :=
  br (decide (xt15 < xt14))
  ((0 ≤ xt15 ∧ xt15 < (cache2.length : Int)) ∧
    F_impl_NextUse t0 from1 (List.getD cache2 (Int.toNat xt15) (0 : Int)) fun nextUse22 =>
    F_impl_NextUse t0 from1 xlatest7 fun nextUse26 =>
    br (decide (nextUse22 > nextUse26))
    (InR (xt15 + 1) ∧
      B0 (List.getD cache2 (Int.toNat xt15) (0 : Int)) (xt15 + 1))
    (InR (xt15 + 1) ∧
      B0 xlatest7 (xt15 + 1)))
  (k xlatest7)
def L0_impl_latestKey (cache2 : List Int) (from1 : Int) (t0 : List Int) (xt14 : Int) (k : Int → Prop) : Nat → Int → Int → Prop
  | 0, _, _ => False
  | n + 1, xlatest7, xt15 => T0_impl_latestKey cache2 from1 t0 xt14 xlatest7 xt15 k (L0_impl_latestKey cache2 from1 t0 xt14 k n)
def G_impl_latestKey (t0 : List Int) (from1 : Int) (cache2 : List Int) (I0 : List Int → Int → List Int → Int → Int → Int → Prop) : Prop :=
  (0 ≤ (0 : Int) ∧ 0 < (cache2.length : Int)) ∧
  I0 cache2 from1 t0 (cache2.length : Int) (List.getD cache2 0 (0 : Int)) 0
def S_impl_latestKey (t0 : List Int) (from1 : Int) (cache2 : List Int) (k : Int → Prop) : Prop := G_impl_latestKey t0 from1 cache2 (fun cache2 from1 t0 xt14 xlatest7 xt15 => ∃ j, L0_impl_latestKey cache2 from1 t0 xt14 k j xlatest7 xt15)
def F_impl_latestKey (t : List Int) (i : Int) (l : List Int) (k : Int → Prop) : Prop := (VTrace t ∧ (0 ≤ i ∧ i ≤ t.length) ∧ (0 < l.length ∧ l.length ≤ 1000000) ∧ ∀ x ∈ l, 0 ≤ x ∧ x ≤ 31) ∧ k (farM (t.drop i.toNat) l)
theorem F_impl_latestKey_S {t : List Int} {i : Int} {l : List Int} {k : Int → Prop} (h : F_impl_latestKey t i l k) : S_impl_latestKey t i l k := by
  obtain ⟨⟨v, hi, hp, hr⟩, hk⟩ := h
  have h0 : l.getD 0 0 ∈ l := mem_getD (by omega)
  have go : ∀ (m j : Nat), j + m = l.length → L0_impl_latestKey l i t (l.length : Int) k (m + 1) (farK (t.drop i.toNat) (l.take j) (l.getD 0 0)) (j : Int) := by
    intro m
    induction m with
    | zero =>
      intro j hj
      rw [L0_impl_latestKey, T0_impl_latestKey, List.take_of_length_le (by omega)]
      refine br_dec.2 ⟨fun h => by omega, fun _ => ?_⟩
      have : farK (t.drop i.toNat) l (l.getD 0 0) = farM (t.drop i.toNat) l := by
        cases l with
        | nil => simp at hp
        | cons y l => exact farK_self _ _ _
      rw [this]; exact hk
    | succ m ih =>
      intro j hj
      have next := ih (j + 1) (by omega)
      rw [take_get (by omega), farK_snoc] at next
      have hin : l.getD j 0 ∈ l := mem_getD (by omega)
      have hfar : farK (t.drop i.toNat) (l.take j) (l.getD 0 0) ∈ l := by
        rcases List.mem_cons.1 (farK_mem (t.drop i.toNat) (l.take j) (l.getD 0 0)) with h | h
        · rw [h]; exact h0
        · exact List.mem_of_mem_take h
      rw [L0_impl_latestKey, T0_impl_latestKey]
      simp only [Int.toNat_natCast]
      refine br_yd (by omega) ⟨⟨by omega, by omega⟩, yes ⟨v, hi, hr _ hin⟩ (yes ⟨v, hi, hr _ hfar⟩ (br_dec.2 ⟨fun g => ⟨inR (by omega) (by omega), ?_⟩, fun g => ⟨inR (by omega) (by omega), ?_⟩⟩))⟩
      · rw [if_pos (by unfold nextM at g; omega)] at next; exact next
      · rw [if_neg (by unfold nextM at g; omega)] at next; exact next
  exact ⟨⟨by omega, by omega⟩, _, go l.length 0 (by omega)⟩
-- impl.withoutKey
def T0_impl_withoutKey (key1 : Int) (list0 : List Int) (xt10 : Int) (xt11 : Int) (xout5 : List Int) (k : List Int → Prop) (B0 : Int → List Int → Prop) : Prop :=
  br (decide (xt11 < xt10))
  ((0 ≤ xt11 ∧ xt11 < (list0.length : Int)) ∧
    br ((List.getD list0 (Int.toNat xt11) (0 : Int)) != key1)
    ((xout5.length + 1 ≤ 1000000000) ∧
      InR (xt11 + 1) ∧
      B0 (xt11 + 1) (xout5 ++ ([(List.getD list0 (Int.toNat xt11) (0 : Int))] : List Int)))
    (InR (xt11 + 1) ∧
      B0 (xt11 + 1) xout5))
  (k xout5)
def L0_impl_withoutKey (key1 : Int) (list0 : List Int) (xt10 : Int) (k : List Int → Prop) : Nat → Int → List Int → Prop
  | 0, _, _ => False
  | n + 1, xt11, xout5 => T0_impl_withoutKey key1 list0 xt10 xt11 xout5 k (L0_impl_withoutKey key1 list0 xt10 k n)
def G_impl_withoutKey (list0 : List Int) (key1 : Int) (I0 : Int → List Int → Int → Int → List Int → Prop) : Prop :=
  I0 key1 list0 (list0.length : Int) 0 ([] : List Int)
def S_impl_withoutKey (list0 : List Int) (key1 : Int) (k : List Int → Prop) : Prop := G_impl_withoutKey list0 key1 (fun key1 list0 xt10 xt11 xout5 => ∃ j, L0_impl_withoutKey key1 list0 xt10 k j xt11 xout5)
def F_impl_withoutKey (l : List Int) (key : Int) (k : List Int → Prop) : Prop := l.length ≤ 1000000000 ∧ k (rmK l key)
theorem F_impl_withoutKey_S {l : List Int} {key : Int} {k : List Int → Prop} (h : F_impl_withoutKey l key k) : S_impl_withoutKey l key k := by
  obtain ⟨hl, hk⟩ := h
  have key1 : ∀ (r : List Int) (i : Nat) (out : List Int), l.drop i = r → out.length ≤ i → out ++ rmK r key = rmK l key → L0_impl_withoutKey key l (l.length : Int) k (r.length + 1) (i : Int) out := by
    intro r
    induction r with
    | nil =>
      intro i out hd ho he
      have := drop_nil' hd
      rw [L0_impl_withoutKey, T0_impl_withoutKey]
      simp only [br_dec]
      refine ⟨fun h => by omega, fun _ => ?_⟩
      have : out = rmK l key := by simpa [rmK] using he
      rw [this]; exact hk
    | cons x r ih =>
      intro i out hd ho he
      obtain ⟨h1, h2, _, h3, _⟩ := drop_cons' hd
      rw [List.length_cons, L0_impl_withoutKey, T0_impl_withoutKey]
      simp only [br_dec, br_bne, Int.toNat_natCast, h2]
      refine ⟨fun _ => ⟨⟨by omega, by omega⟩, fun hx => ⟨by omega, inR (by omega) (by omega), ?_⟩, fun hx => ⟨inR (by omega) (by omega), ?_⟩⟩, fun h => by omega⟩
      · exact ih (i + 1) (out ++ [x]) h3 (by simp; omega) (by rw [← he, rmK_cons_ne hx]; simp)
      · exact ih (i + 1) out h3 (by omega) (by rw [← he, hx, rmK_cons_eq])
  exact ⟨_, key1 l 0 [] rfl (by simp) rfl⟩
-- impl.BestHits
def T0_impl_BestHits (room1 : Int) (t0 : List Int) (xt19 : Int) (xhits6 : Int) (xt20 : Int) (xcache5 : List Int) (k : Int → Prop) (B0 : Int → Int → List Int → Prop) : Prop :=
  br (decide (xt20 < xt19))
  ((0 ≤ xt20 ∧ xt20 < (t0.length : Int)) ∧
    F_slices_Contains_sint_int xcache5 (List.getD t0 (Int.toNat xt20) (0 : Int)) fun contains27 =>
    br contains27
    (InR (xhits6 + 1) ∧
      InR (xt20 + 1) ∧
      B0 (xhits6 + 1) (xt20 + 1) xcache5)
    (br ((xcache5.length : Int) == room1)
      (InR (xt20 + 1) ∧
        F_impl_latestKey t0 (xt20 + 1) xcache5 fun latestKey39 =>
        F_impl_withoutKey xcache5 latestKey39 fun withoutKey40 =>
        (withoutKey40.length + 1 ≤ 1000000000) ∧
        InR (xt20 + 1) ∧
        B0 xhits6 (xt20 + 1) (withoutKey40 ++ ([(List.getD t0 (Int.toNat xt20) (0 : Int))] : List Int)))
      ((xcache5.length + 1 ≤ 1000000000) ∧
        InR (xt20 + 1) ∧
        B0 xhits6 (xt20 + 1) (xcache5 ++ ([(List.getD t0 (Int.toNat xt20) (0 : Int))] : List Int)))))
  (k xhits6)
def L0_impl_BestHits (room1 : Int) (t0 : List Int) (xt19 : Int) (k : Int → Prop) : Nat → Int → Int → List Int → Prop
  | 0, _, _, _ => False
  | n + 1, xhits6, xt20, xcache5 => T0_impl_BestHits room1 t0 xt19 xhits6 xt20 xcache5 k (L0_impl_BestHits room1 t0 xt19 k n)
def G_impl_BestHits (t0 : List Int) (room1 : Int) (k : Int → Prop) (I0 : Int → List Int → Int → Int → Int → List Int → Prop) : Prop :=
  F_impl_ValidTrace t0 fun validTrace10 =>
  br (!validTrace10)
  (k (-1))
  (F_impl_validRoom room1 fun validRoom14 =>
    br (!validRoom14)
    (k (-1))
    (I0 room1 t0 (t0.length : Int) 0 0 ([] : List Int)))
def S_impl_BestHits (t0 : List Int) (room1 : Int) (k : Int → Prop) : Prop := G_impl_BestHits t0 room1 k (fun room1 t0 xt19 xhits6 xt20 xcache5 => ∃ j, L0_impl_BestHits room1 t0 xt19 k j xhits6 xt20 xcache5)
def F_impl_BestHits (t : List Int) (room : Int) (k : Int → Prop) : Prop := (VTrace t ∧ 1 ≤ room ∧ room ≤ 8 → k (bestM room.toNat t [] : Int)) ∧ (¬ (VTrace t ∧ 1 ≤ room ∧ room ≤ 8) → k (-1))
theorem F_impl_BestHits_S {t : List Int} {room : Int} {k : Int → Prop} (h : F_impl_BestHits t room k) : S_impl_BestHits t room k := by
  obtain ⟨hyes, hno⟩ := h
  intro b hb
  refine br_not.2 (br_iff.2 ⟨fun e => ?_, fun e => hno fun w => by rw [hb.2 w.1] at e; cases e⟩)
  have v := hb.1 e
  refine br_not.2 (br_dec.2 ⟨fun hr => ?_, fun hr => hno fun w => hr w.2⟩)
  have hk := hyes ⟨v, hr⟩
  have h0 := v.1
  have go : ∀ (r : List Int) (i : Nat) (n : Int) (C : List Int), t.drop i = r → 0 ≤ n → n ≤ i → C.Nodup → C.length ≤ room.toNat → (∀ x ∈ C, 0 ≤ x ∧ x ≤ 31) → n + (bestM room.toNat r C : Int) = (bestM room.toNat t [] : Int) → L0_impl_BestHits room t (t.length : Int) k (r.length + 1) n (i : Int) C := by
    intro r
    induction r with
    | nil =>
      intro i n C hd n0 n1 hn hc hC he
      have := drop_nil' hd
      rw [L0_impl_BestHits, T0_impl_BestHits]
      refine br_dec.2 ⟨fun h => by omega, fun _ => ?_⟩
      rw [show n = (bestM room.toNat t [] : Int) by simpa [bestM] using he]; exact hk
    | cons x r ih =>
      intro i n C hd n0 n1 hn hc hC he
      obtain ⟨g1, g2, g5, g3, g4⟩ := drop_cons' hd
      have hx := v.2 x (List.mem_of_getElem? g5)
      rw [List.length_cons, L0_impl_BestHits, T0_impl_BestHits]
      simp only [Int.toNat_natCast, g2]
      refine br_yd (by omega) ⟨⟨by omega, by omega⟩, by omega, br_dec.2 ⟨fun hm => ?_, fun hm => ?_⟩⟩
      · rw [bestM, if_pos hm] at he
        exact ⟨inR (by omega) (by omega), inR (by omega) (by omega), ih (i + 1) _ C g3 (by omega) (by omega) hn hc hC (by omega)⟩
      · rw [bestM, if_neg hm] at he
        obtain ⟨m1, m2, m3, m4⟩ := missB_ok (room := room.toNat) (r := r) (by omega) hn hc hm
        have last := ih (i + 1) n (missB room.toNat r C x) g3 n0 (by omega) m1 m2 (fun y hy => by
          rcases m4 y hy with h | h
          · rw [h]; exact hx
          · exact hC y h) he
        refine br_beq.2 ⟨fun hf => ⟨inR (by omega) (by omega), ⟨v, ⟨by omega, by omega⟩, ⟨by omega, by omega⟩, hC⟩, ?_⟩, fun hf => ?_⟩
        · rw [show ((i : Int) + 1).toNat = i + 1 by omega, g3]
          have := @rmK_le C (farM r C)
          rw [missB, if_pos (by omega)] at last
          exact ⟨by omega, by omega, inR (by omega) (by omega), last⟩
        · rw [missB, if_neg (by omega)] at last
          exact ⟨by omega, inR (by omega) (by omega), last⟩
  exact ⟨_, go t 0 0 [] rfl (by omega) (by omega) (by simp) (by simp) (by simp) (by omega)⟩
-- laws.eqIntS
def T0_laws_eqIntS (a0 : List Int) (b1 : List Int) (xi5 : Int) (k : Bool → Prop) (B0 : Int → Prop) : Prop :=
  br (decide (xi5 < (a0.length : Int)))
  ((0 ≤ xi5 ∧ xi5 < (a0.length : Int)) ∧
    (0 ≤ xi5 ∧ xi5 < (b1.length : Int)) ∧
    br ((List.getD a0 (Int.toNat xi5) (0 : Int)) != (List.getD b1 (Int.toNat xi5) (0 : Int)))
    (k false)
    (InR (xi5 + 1) ∧
      B0 (xi5 + 1)))
  (k true)
def L0_laws_eqIntS (a0 : List Int) (b1 : List Int) (k : Bool → Prop) : Nat → Int → Prop
  | 0, _ => False
  | n + 1, xi5 => T0_laws_eqIntS a0 b1 xi5 k (L0_laws_eqIntS a0 b1 k n)
def G_laws_eqIntS (a0 : List Int) (b1 : List Int) (k : Bool → Prop) (I0 : List Int → List Int → Int → Prop) : Prop :=
  br ((a0.length : Int) != (b1.length : Int))
  (k false)
  (I0 a0 b1 0)
def S_laws_eqIntS (a0 : List Int) (b1 : List Int) (k : Bool → Prop) : Prop := G_laws_eqIntS a0 b1 k (fun a0 b1 xi5 => ∃ j, L0_laws_eqIntS a0 b1 k j xi5)
def F_laws_eqIntS (a b : List Int) (k : Bool → Prop) : Prop := a.length ≤ 1000000000 ∧ k (decide (a = b))
theorem F_laws_eqIntS_S {a b : List Int} {k : Bool → Prop} (h : F_laws_eqIntS a b k) : S_laws_eqIntS a b k := by
  obtain ⟨hl, hk⟩ := h
  refine br_bne.2 ⟨fun he => by rwa [decide_eq_false (fun e => he (by rw [e]))] at hk, fun he => ?_⟩
  have he : a.length = b.length := by omega
  have key : ∀ (r : List Int) (i : Nat), a.drop i = r → (r = b.drop i ↔ a = b) → L0_laws_eqIntS a b k (r.length + 1) (i : Int) := by
    intro r
    induction r with
    | nil =>
      intro i hd hi
      have := drop_nil' hd
      rw [L0_laws_eqIntS, T0_laws_eqIntS]
      simp only [br_dec]
      exact ⟨fun h => by omega, fun _ => by rwa [decide_eq_true (hi.1 (List.drop_eq_nil_of_le (by omega)).symm)] at hk⟩
    | cons x r ih =>
      intro i hd hi
      obtain ⟨h1, h2, _, h3, _⟩ := drop_cons' hd
      obtain ⟨y, s, hs⟩ : ∃ y s, b.drop i = y :: s := by
        cases e : b.drop i with
        | nil => have := drop_nil' e; omega
        | cons y s => exact ⟨y, s, rfl⟩
      obtain ⟨g1, g2, _, g3, _⟩ := drop_cons' hs
      rw [List.length_cons, L0_laws_eqIntS, T0_laws_eqIntS]
      simp only [br_dec, br_bne, Int.toNat_natCast, h2, g2]
      rw [hs] at hi
      refine ⟨fun _ => ⟨⟨by omega, by omega⟩, ⟨by omega, by omega⟩, ?_⟩, fun h => by omega⟩
      have go : x = y → L0_laws_eqIntS a b k (r.length + 1) ((i : Int) + 1) := fun hx => ih (i + 1) h3 (by rw [g3, ← hi, hx]; simp)
      have no : x ≠ y → k false := fun hx => by rwa [decide_eq_false (fun e => hx (List.cons.inj (hi.2 e)).1)] at hk
      exact ⟨no, fun hx => ⟨inR (by omega) (by omega), go hx⟩⟩
  exact ⟨_, key a 0 rfl (by simp)⟩
-- laws.FnExactBestHits
def G_laws_FnExactBestHits (aT0 : List Int) (aRoom1 : Int) (k : Bool → Prop) : Prop :=
  br (decide ((aT0.length : Int) > 1048576))
  (k true)
  (F_laws_toIntS aT0 fun toIntS12 =>
    F_spec_BestHits toIntS12 aRoom1 fun bestHits14 =>
    F_laws_toIntS aT0 fun toIntS16 =>
    F_impl_BestHits toIntS16 aRoom1 fun bestHits19 =>
    br (bestHits19 != bestHits14)
    (k false)
    (F_laws_toIntS aT0 fun toIntS25 =>
      F_laws_eqIntS toIntS16 toIntS25 fun eqIntS26 =>
      br (!eqIntS26)
      (k false)
      (k true)))
def S_laws_FnExactBestHits (aT0 : List Int) (aRoom1 : Int) (k : Bool → Prop) : Prop := G_laws_FnExactBestHits aT0 aRoom1 k
abbrev F_laws_FnExactBestHits (aT0 : List Int) (aRoom1 : Int) (k : Bool → Prop) : Prop := S_laws_FnExactBestHits aT0 aRoom1 k
theorem F_laws_FnExactBestHits_S {aT0 : List Int} {aRoom1 : Int} {k : Bool → Prop} (h : F_laws_FnExactBestHits aT0 aRoom1 k) : S_laws_FnExactBestHits aT0 aRoom1 k := h
theorem law_FnExactBestHits (t : List Int) (lt : t.length ≤ maxLen) (rt : ∀ x ∈ t, InR x) (room : Int) (rroom : InR room) :
    F_laws_FnExactBestHits t room (fun r => r = true) := by
  refine br_dec.2 ⟨fun _ => rfl, fun t0 => ?_⟩
  have mt : t.length ≤ 1000000000 := by omega
  by_cases v : VTrace t ∧ 1 ≤ room ∧ room ≤ 8
  · exact ⟨mt, ⟨fun _ => ⟨mt, ⟨fun _ => br_same' (⟨mt, mt, br_de (rfl)⟩), fun h => absurd v h⟩⟩, fun h => absurd v h⟩⟩
  · exact ⟨mt, ⟨fun h => absurd h v, fun _ => ⟨mt, ⟨fun h => absurd h v, fun _ => br_same' (⟨mt, mt, br_de (rfl)⟩)⟩⟩⟩⟩
end Go.Ev
