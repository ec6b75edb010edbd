/- What the functions that the law reaches do, written as plain Lean. No statement is proved here. -/
import Derived.Test.YtlobdkcjlpifjacFnExactReuseDistancesP0
namespace Go.Ev
set_option linter.unusedVariables false
open Go
/-! ## Timed keys -/
theorem tm_eta (e : Int × Int) : (e.1, e.2) = e := rfl
def PTm (l : List (Int × Int)) : Prop := (∀ e ∈ l, (0 ≤ e.1 ∧ e.1 ≤ 31) ∧ 0 ≤ e.2 ∧ e.2 ≤ 1000) ∧ l.Pairwise fun a b => a.1 < b.1
def VTm (l : List (Int × Int)) : Prop := l.length ≤ 12 ∧ PTm l
theorem getT_mem {l : List (Int × Int)} {i : Nat} (h : i < l.length) : l.getD i ((0 : Int), (0 : Int)) ∈ l := by
  rw [List.getD_eq_getElem?_getD, List.getElem?_eq_getElem h]; exact List.getElem_mem h
theorem takeT {l : List (Int × Int)} {i : Nat} (h : i < l.length) : l.take (i + 1) = l.take i ++ [l.getD i ((0 : Int), (0 : Int))] := by
  rw [List.take_add_one, List.getD_eq_getElem?_getD, List.getElem?_eq_getElem h]; rfl
theorem PTm.lt {l : List (Int × Int)} (v : PTm l) {i j : Nat} (h : i < j) (hj : j < l.length) : (l.getD i ((0 : Int), (0 : Int))).1 < (l.getD j ((0 : Int), (0 : Int))).1 := by
  have := List.pairwise_iff_getElem.1 v.2 i j (by omega) hj h
  rw [List.getD_eq_getElem?_getD, List.getElem?_eq_getElem (by omega), List.getD_eq_getElem?_getD, List.getElem?_eq_getElem hj]
  exact this
theorem PTm.uniq {l : List (Int × Int)} (v : PTm l) {a b : Int × Int} (ha : a ∈ l) (hb : b ∈ l) (h : a.1 = b.1) : a = b := by
  obtain ⟨i, hi, ei⟩ := List.getElem_of_mem ha
  obtain ⟨j, hj, ej⟩ := List.getElem_of_mem hb
  rcases Nat.lt_trichotomy i j with c | c | c
  · have := List.pairwise_iff_getElem.1 v.2 i j hi hj c
    rw [ei, ej] at this; omega
  · subst c; rw [← ei, ← ej]
  · have := List.pairwise_iff_getElem.1 v.2 j i hj hi c
    rw [ei, ej] at this; omega
theorem PTm.snoc {u : List (Int × Int)} {x : Int × Int} (v : PTm u) (hx : (0 ≤ x.1 ∧ x.1 ≤ 31) ∧ 0 ≤ x.2 ∧ x.2 ≤ 1000) (h : u = [] ∨ (u.getD (u.length - 1) ((0 : Int), (0 : Int))).1 < x.1) : PTm (u ++ [x]) := by
  refine ⟨fun e he => ?_, List.pairwise_append.2 ⟨v.2, by simp, fun a ha b hb => ?_⟩⟩
  · rcases List.mem_append.1 he with g | g
    · exact v.1 e g
    · rw [List.mem_singleton.1 g]; exact hx
  · rw [List.mem_singleton.1 hb]
    rcases h with c | c
    · rw [c] at ha; simp at ha
    · obtain ⟨i, hi, ei⟩ := List.getElem_of_mem ha
      have e1 : u.getD i ((0 : Int), (0 : Int)) = a := by rw [List.getD_eq_getElem?_getD, List.getElem?_eq_getElem hi]; exact ei
      by_cases g : i = u.length - 1
      · rw [← e1, g]; exact c
      · have := v.lt (i := i) (j := u.length - 1) (by omega) (by omega)
        rw [e1] at this; omega
theorem PTm.filter {l : List (Int × Int)} (v : PTm l) (p : Int × Int → Bool) : PTm (l.filter p) := ⟨fun e he => v.1 e (List.mem_filter.1 he).1, v.2.filter p⟩
def putM (l : List (Int × Int)) (key until_ : Int) : List (Int × Int) := l.filter (fun e => decide (e.1 < key)) ++ (key, until_) :: l.filter (fun e => decide (key < e.1))
def PutOK (l : List (Int × Int)) (key until_ : Int) : Prop := VTm l ∧ (0 ≤ key ∧ key ≤ 31) ∧ (0 ≤ until_ ∧ until_ ≤ 1000) ∧ (putM l key until_).length ≤ 12
theorem PTm.put {l : List (Int × Int)} {key until_ : Int} (v : PTm l) (h1 : 0 ≤ key ∧ key ≤ 31) (h2 : 0 ≤ until_ ∧ until_ ≤ 1000) : PTm (putM l key until_) := by
  refine ⟨fun e he => ?_, List.pairwise_append.2 ⟨v.2.filter _, List.pairwise_cons.2 ⟨fun b hb => ?_, v.2.filter _⟩, fun a ha b hb => ?_⟩⟩
  · rcases List.mem_append.1 he with g | g
    · exact v.1 e (List.mem_filter.1 g).1
    · rcases List.mem_cons.1 g with g | g
      · rw [g]; exact ⟨h1, h2⟩
      · exact v.1 e (List.mem_filter.1 g).1
  · have := (List.mem_filter.1 hb).2
    exact of_decide_eq_true this
  · have h3 := of_decide_eq_true (List.mem_filter.1 ha).2
    rcases List.mem_cons.1 hb with g | g
    · rw [g]; exact h3
    · have h4 := of_decide_eq_true (List.mem_filter.1 g).2
      omega
theorem PutOK.valid {l : List (Int × Int)} {key until_ : Int} (h : PutOK l key until_) : VTm (putM l key until_) := ⟨h.2.2.2, h.1.2.put h.2.1 h.2.2.1⟩
theorem putM_mem {l : List (Int × Int)} {key until_ : Int} {e : Int × Int} : e ∈ putM l key until_ ↔ e = (key, until_) ∨ (e ∈ l ∧ e.1 ≠ key) := by
  unfold putM
  rw [List.mem_append, List.mem_cons, List.mem_filter, List.mem_filter, decide_eq_true_iff, decide_eq_true_iff]
  constructor
  · rintro (⟨h1, h2⟩ | h | ⟨h1, h2⟩)
    · exact .inr ⟨h1, by omega⟩
    · exact .inl h
    · exact .inr ⟨h1, by omega⟩
  · rintro (h | ⟨h1, h2⟩)
    · exact .inr (.inl h)
    · by_cases c : e.1 < key
      · exact .inl ⟨h1, c⟩
      · exact .inr (.inr ⟨h1, by omega⟩)
theorem filter_two {l : List (Int × Int)} {key : Int} : (l.filter (fun e => decide (e.1 < key))).length + (l.filter (fun e => decide (key < e.1))).length ≤ l.length := by
  induction l with
  | nil => simp
  | cons x l ih =>
    by_cases c : x.1 < key
    · rw [List.filter_cons_of_pos (by simpa using c), List.filter_cons_of_neg (by simp; omega)]
      simp only [List.length_cons]; omega
    · by_cases d : key < x.1
      · rw [List.filter_cons_of_neg (by simp; omega), List.filter_cons_of_pos (by simpa using d)]
        simp only [List.length_cons]; omega
      · rw [List.filter_cons_of_neg (by simp; omega), List.filter_cons_of_neg (by simp; omega)]
        simp only [List.length_cons]; omega
theorem putM_len (l : List (Int × Int)) (key until_ : Int) : (putM l key until_).length ≤ l.length + 1 := by
  have := @filter_two l key
  unfold putM
  rw [List.length_append, List.length_cons]; omega
theorem filter_all {l : List (Int × Int)} {p : Int × Int → Bool} (h : ∀ e ∈ l, p e = true) : l.filter p = l := List.filter_eq_self.2 h
theorem filter_none {l : List (Int × Int)} {p : Int × Int → Bool} (h : ∀ e ∈ l, p e = false) : l.filter p = [] := List.filter_eq_nil_iff.2 fun e he => by rw [h e he]; simp
theorem putM_low {l : List (Int × Int)} {a u b : Int} : (putM l a u).filter (fun e => decide (e.1 < b)) = if a < b then l.filter (fun e => decide (e.1 < a)) ++ (a, u) :: l.filter (fun e => decide (a < e.1 ∧ e.1 < b)) else l.filter (fun e => decide (e.1 < b)) := by
  unfold putM
  rw [List.filter_append, List.filter_filter]
  split
  · rename_i h
    rw [List.filter_cons_of_pos (by simpa using h), List.filter_filter]
    congr 1
    · exact List.filter_congr fun e _ => by simp only [← Bool.decide_and]; exact decide_eq_decide.2 ⟨fun g => g.2, fun g => ⟨by omega, g⟩⟩
    · congr 1
      exact List.filter_congr fun e _ => by simp only [← Bool.decide_and]; exact decide_eq_decide.2 ⟨fun g => ⟨g.2, g.1⟩, fun g => ⟨g.2, g.1⟩⟩
  · rename_i h
    rw [List.filter_cons_of_neg (by simpa using h), List.filter_filter]
    have : l.filter (fun e => decide (e.1 < b) && decide (a < e.1)) = [] := filter_none fun e _ => by simp only [← Bool.decide_and]; exact decide_eq_false (by omega)
    rw [this, List.append_nil]
    exact List.filter_congr fun e _ => by simp only [← Bool.decide_and]; exact decide_eq_decide.2 ⟨fun g => g.1, fun g => ⟨g, by omega⟩⟩
theorem putM_high {l : List (Int × Int)} {a u b : Int} : (putM l a u).filter (fun e => decide (b < e.1)) = if b < a then l.filter (fun e => decide (b < e.1 ∧ e.1 < a)) ++ (a, u) :: l.filter (fun e => decide (a < e.1)) else l.filter (fun e => decide (b < e.1)) := by
  unfold putM
  rw [List.filter_append, List.filter_filter]
  split
  · rename_i h
    rw [List.filter_cons_of_pos (by simpa using h), List.filter_filter]
    congr 1
    · exact List.filter_congr fun e _ => by simp only [← Bool.decide_and]
    · congr 1
      exact List.filter_congr fun e _ => by simp only [← Bool.decide_and]; exact decide_eq_decide.2 ⟨fun g => g.2, fun g => ⟨by omega, g⟩⟩
  · rename_i h
    rw [List.filter_cons_of_neg (by simpa using h), List.filter_filter]
    have : l.filter (fun e => decide (b < e.1) && decide (e.1 < a)) = [] := filter_none fun e _ => by simp only [← Bool.decide_and]; exact decide_eq_false (by omega)
    rw [this, List.nil_append]
    exact List.filter_congr fun e _ => by simp only [← Bool.decide_and]; exact decide_eq_decide.2 ⟨fun g => g.1, fun g => ⟨g, by omega⟩⟩
theorem putM_again (l : List (Int × Int)) (a u w : Int) : putM (putM l a u) a w = putM l a w := by
  rw [putM, putM_low, putM_high, if_neg (by omega), if_neg (by omega)]; rfl
theorem putM_swap {l : List (Int × Int)} {a u b w : Int} (h : a < b) : putM (putM l a u) b w = putM (putM l b w) a u := by
  rw [putM, putM_low, putM_high, if_pos h, if_neg (by omega), putM, putM_low, putM_high, if_neg (by omega), if_pos h]
  simp
theorem putM_comm {l : List (Int × Int)} {a u b w : Int} (h : a ≠ b) : putM (putM l a u) b w = putM (putM l b w) a u := by
  by_cases c : a < b
  · exact putM_swap c
  · exact (putM_swap (by omega)).symm
def aliveM (l : List (Int × Int)) (key now : Int) : Prop := ∃ e ∈ l, e.1 = key ∧ now ≤ e.2
def dropM (l : List (Int × Int)) (now : Int) : List (Int × Int) := l.filter fun e => decide (now ≤ e.2)
theorem dropM_len (l : List (Int × Int)) (now : Int) : (dropM l now).length ≤ l.length := List.length_filter_le _ _
theorem VTm.drop {l : List (Int × Int)} (v : VTm l) (now : Int) : VTm (dropM l now) := ⟨Nat.le_trans (dropM_len l now) v.1, v.2.filter _⟩
theorem dropM_snoc {l : List (Int × Int)} {e : Int × Int} {now : Int} : dropM (l ++ [e]) now = if now ≤ e.2 then dropM l now ++ [e] else dropM l now := by
  unfold dropM
  rw [List.filter_append]
  split
  · rename_i h; rw [List.filter_cons_of_pos (by simpa using h)]; rfl
  · rename_i h; rw [List.filter_cons_of_neg (by simpa using h)]; simp
def deathF : List (Int × Int) → Int → Int
  | [], n => n
  | e :: r, n => deathF r (if n < 0 ∨ e.2 < n then e.2 else n)
def deathM (l : List (Int × Int)) : Int := deathF l (-1)
theorem deathF_snoc : ∀ (l : List (Int × Int)) (e : Int × Int) (n : Int), deathF (l ++ [e]) n = if deathF l n < 0 ∨ e.2 < deathF l n then e.2 else deathF l n
  | [], _, _ => rfl
  | _ :: l, e, _ => deathF_snoc l e _
theorem deathF_spec : ∀ (l : List (Int × Int)) (n : Int), (∀ e ∈ l, 0 ≤ e.2) → (0 ≤ n → deathF l n ≤ n) ∧ (∀ e ∈ l, deathF l n ≤ e.2) ∧ (deathF l n = n ∨ ∃ e ∈ l, e.2 = deathF l n) ∧ (l ≠ [] ∨ 0 ≤ n → 0 ≤ deathF l n)
  | [], n, _ => ⟨fun _ => Int.le_refl _, by simp, .inl rfl, fun h => by rcases h with h | h; exact absurd rfl h; exact h⟩
  | x :: l, n, h => by
    have hx := h x List.mem_cons_self
    obtain ⟨h1, h2, h3, h4⟩ := deathF_spec l (if n < 0 ∨ x.2 < n then x.2 else n) fun e he => h e (List.mem_cons_of_mem _ he)
    have hn : 0 ≤ (if n < 0 ∨ x.2 < n then x.2 else n) := by split <;> omega
    have h5 := h1 hn
    have hxn : (if n < 0 ∨ x.2 < n then x.2 else n) ≤ x.2 := by split <;> omega
    rw [deathF]
    refine ⟨fun g => ?_, fun e he => ?_, ?_, fun _ => h4 (.inr hn)⟩
    · have : (if n < 0 ∨ x.2 < n then x.2 else n) ≤ n := by split <;> omega
      omega
    · rcases List.mem_cons.1 he with g | g
      · rw [g]; omega
      · exact h2 e g
    · rcases h3 with g | ⟨e, he, g⟩
      · rw [g]
        split
        · exact .inr ⟨x, List.mem_cons_self, rfl⟩
        · exact .inl rfl
      · exact .inr ⟨e, List.mem_cons_of_mem _ he, g⟩
theorem deathM_none {l : List (Int × Int)} (v : VTm l) : deathM l = -1 ↔ l = [] := by
  constructor
  · intro h
    refine Classical.byContradiction fun c => ?_
    have := (deathF_spec l (-1) fun e he => (v.2.1 e he).2.1).2.2.2 (.inl c)
    unfold deathM at h; omega
  · intro h; rw [h]; rfl
theorem deathM_some {l : List (Int × Int)} (v : VTm l) (h : 0 ≤ deathM l) : (∃ e ∈ l, e.2 = deathM l) ∧ ∀ e ∈ l, deathM l ≤ e.2 := by
  obtain ⟨_, h2, h3, _⟩ := deathF_spec l (-1) fun e he => (v.2.1 e he).2.1
  refine ⟨?_, h2⟩
  rcases h3 with g | g
  · unfold deathM at h; omega
  · exact g
theorem eq2 {a b : Int × Int} : ((a.1 == b.1) && (a.2 == b.2)) = decide (a = b) := by
  by_cases h : a = b
  · rw [h]; simp
  · rw [decide_eq_false h]
    have : ¬ (a.1 = b.1 ∧ a.2 = b.2) := fun c => h (Prod.ext c.1 c.2)
    rw [Bool.and_eq_false_iff, beq_eq_false_iff_ne, beq_eq_false_iff_ne]
    by_cases g : a.1 = b.1
    · exact .inr fun c => this ⟨g, c⟩
    · exact .inl g

-- laws.toIntS
def T0_laws_toIntS (a0 : List Int) (xi4 : Int) (xy7 : List Int) (k : List Int → Prop) (B0 : Int → List Int → Prop) : Prop :=
  br (decide (xi4 < (a0.length : Int)))
  ((0 ≤ xi4 ∧ xi4 < (a0.length : Int)) ∧
    (0 ≤ xi4 ∧ xi4 < (xy7.length : Int)) ∧
    InR (xi4 + 1) ∧
    B0 (xi4 + 1) (List.set xy7 (Int.toNat xi4) (List.getD a0 (Int.toNat xi4) (0 : Int))))
  (k xy7)
def L0_laws_toIntS (a0 : List Int) (k : List Int → Prop) : Nat → Int → List Int → Prop
  | 0, _, _ => False
  | n + 1, xi4, xy7 => T0_laws_toIntS a0 xi4 xy7 k (L0_laws_toIntS a0 k n)
def G_laws_toIntS (a0 : List Int) (I0 : List Int → Int → List Int → Prop) : Prop :=
  ((a0.length : Int) = (a0.length : Int) ∧ 0 ≤ (a0.length : Int) ∧ (a0.length : Int) ≤ 1000000000) ∧
  I0 a0 0 (List.replicate (Int.toNat (a0.length : Int)) (0 : Int))
def S_laws_toIntS (a0 : List Int) (k : List Int → Prop) : Prop := G_laws_toIntS a0 (fun a0 xi4 xy7 => ∃ j, L0_laws_toIntS a0 k j xi4 xy7)
def F_laws_toIntS (a : List Int) (k : List Int → Prop) : Prop := a.length ≤ 1000000000 ∧ k a
theorem F_laws_toIntS_S {a : List Int} {k : List Int → Prop} (h : F_laws_toIntS a k) : S_laws_toIntS a k := by
  obtain ⟨hl, hk⟩ := h
  have key : ∀ (r : List Int) (i : Nat) (out : List Int), a.drop i = r → out.length = a.length → out.take i = a.take i → L0_laws_toIntS a k (r.length + 1) (i : Int) out := by
    intro r
    induction r with
    | nil =>
      intro i out hd ho he
      have := drop_nil' hd
      rw [L0_laws_toIntS, T0_laws_toIntS]
      rw [List.take_of_length_le (by omega), List.take_of_length_le (by omega)] at he
      refine br_dec.2 ⟨fun h => by omega, fun _ => ?_⟩
      rw [he]; exact hk
    | cons x r ih =>
      intro i out hd ho he
      obtain ⟨h1, h2, _, h3, h4⟩ := drop_cons' hd
      rw [List.length_cons, L0_laws_toIntS, T0_laws_toIntS]
      simp only [br_dec, Int.toNat_natCast, h2]
      refine ⟨fun _ => ⟨⟨by omega, by omega⟩, ⟨by omega, by omega⟩, inR (by omega) (by omega), ih (i + 1) _ h3 (by simpa using ho) ?_⟩, fun h => by omega⟩
      rw [take_set_succ (by omega), h4, he]
  exact ⟨⟨rfl, by omega, by omega⟩, _, key a 0 _ rfl (by simp) (by simp)⟩
-- spec.inRange
def G_spec_inRange (n0 : Int) (low1 : Int) (high2 : Int) (k : Bool → Prop) : Prop :=
  br (decide (low1 ≤ n0))
  (k (decide (n0 ≤ high2)))
  (k false)
def S_spec_inRange (n0 : Int) (low1 : Int) (high2 : Int) (k : Bool → Prop) : Prop := G_spec_inRange n0 low1 high2 k
def F_spec_inRange (n low high : Int) (k : Bool → Prop) : Prop := k (decide (low ≤ n ∧ n ≤ high))
theorem F_spec_inRange_S {n low high : Int} {k : Bool → Prop} (h : F_spec_inRange n low high k) : S_spec_inRange n low high k := by
  unfold F_spec_inRange at h
  simp only [S_spec_inRange, G_spec_inRange, br_dec]
  refine ⟨fun h1 => ?_, fun h1 => ?_⟩
  · simpa [h1] using h
  · simpa [h1] using h
-- spec.allIn
def T0_spec_allIn (high2 : Int) (list0 : List Int) (low1 : Int) (xi7 : Int) (k : Bool → Prop) (B0 : Int → Prop) : Prop :=
  br (decide (xi7 < (list0.length : Int)))
  ((0 ≤ xi7 ∧ xi7 < (list0.length : Int)) ∧
    F_spec_inRange (List.getD list0 (Int.toNat xi7) (0 : Int)) low1 high2 fun inRange20 =>
    br (!inRange20)
    (k false)
    (InR (xi7 + 1) ∧
      B0 (xi7 + 1)))
  (k true)
def L0_spec_allIn (high2 : Int) (list0 : List Int) (low1 : Int) (k : Bool → Prop) : Nat → Int → Prop
  | 0, _ => False
  | n + 1, xi7 => T0_spec_allIn high2 list0 low1 xi7 k (L0_spec_allIn high2 list0 low1 k n)
def G_spec_allIn (list0 : List Int) (low1 : Int) (high2 : Int) (I0 : Int → List Int → Int → Int → Prop) : Prop :=
  I0 high2 list0 low1 0
def S_spec_allIn (list0 : List Int) (low1 : Int) (high2 : Int) (k : Bool → Prop) : Prop := G_spec_allIn list0 low1 high2 (fun high2 list0 low1 xi7 => ∃ j, L0_spec_allIn high2 list0 low1 k j xi7)
def F_spec_allIn (l : List Int) (low high : Int) (k : Bool → Prop) : Prop := l.length ≤ 1000000000 ∧ k (decide (∀ x ∈ l, low ≤ x ∧ x ≤ high))
theorem F_spec_allIn_S {l : List Int} {low high : Int} {k : Bool → Prop} (h : F_spec_allIn l low high k) : S_spec_allIn l low high k := by
  obtain ⟨hl, hk⟩ := h
  have key : ∀ (r : List Int) (i : Nat), l.drop i = r → ((∀ x ∈ r, low ≤ x ∧ x ≤ high) ↔ (∀ x ∈ l, low ≤ x ∧ x ≤ high)) → L0_spec_allIn high l low k (r.length + 1) (i : Int) := by
    intro r
    induction r with
    | nil =>
      intro i hd he
      have := drop_nil' hd
      rw [L0_spec_allIn, T0_spec_allIn]
      simp only [br_dec]
      refine ⟨fun h => by omega, fun _ => ?_⟩
      rwa [decide_eq_true (he.1 (by simp))] at hk
    | cons x r ih =>
      intro i hd he
      obtain ⟨h1, h2, _, h3, _⟩ := drop_cons' hd
      rw [List.length_cons, L0_spec_allIn, T0_spec_allIn]
      simp only [br_dec, F_spec_inRange, br_not, Int.toNat_natCast, h2]
      refine ⟨fun _ => ⟨⟨by omega, by omega⟩, fun hx => ⟨inR (by omega) (by omega), ?_⟩, fun hx => ?_⟩, fun h => by omega⟩
      · refine ih (i + 1) h3 (Iff.trans ?_ he)
        simp only [List.mem_cons, forall_eq_or_imp]
        exact ⟨fun h => ⟨hx, h⟩, fun h => h.2⟩
      · rwa [decide_eq_false (fun h => hx (he.2 h x (by simp)))] at hk
  exact ⟨_, key l 0 rfl Iff.rfl⟩
-- spec.validTrace
def G_spec_validTrace (t0 : List Int) (k : Bool → Prop) : Prop :=
  br (decide ((t0.length : Int) ≤ 24))
  (F_spec_allIn t0 (0 : Int) (31 : Int) fun allIn8 =>
    k allIn8)
  (k false)
def S_spec_validTrace (t0 : List Int) (k : Bool → Prop) : Prop := G_spec_validTrace t0 k
def F_spec_validTrace (t : List Int) (k : Bool → Prop) : Prop := ∀ b : Bool, (b = true ↔ VTrace t) → k b
theorem F_spec_validTrace_S {t : List Int} {k : Bool → Prop} (h : F_spec_validTrace t k) : S_spec_validTrace t k :=
  br_dec.2 ⟨fun h1 => ⟨by omega, h _ (by simp only [decide_eq_true_eq]; exact ⟨fun h2 => ⟨by omega, h2⟩, fun v => v.2⟩)⟩, fun h1 => h false (by simp only [Bool.false_eq_true, false_iff]; exact fun v => h1 (by have := v.1; omega))⟩
-- spec.placeOf
def T0_spec_placeOf (list0 : List Int) (n1 : Int) (xi5 : Int) (k : Int → Prop) (B0 : Int → Prop) : Prop :=
  br (decide (xi5 < (list0.length : Int)))
  ((0 ≤ xi5 ∧ xi5 < (list0.length : Int)) ∧
    br ((List.getD list0 (Int.toNat xi5) (0 : Int)) == n1)
    (k xi5)
    (InR (xi5 + 1) ∧
      B0 (xi5 + 1)))
  (k (-1))
def L0_spec_placeOf (list0 : List Int) (n1 : Int) (k : Int → Prop) : Nat → Int → Prop
  | 0, _ => False
  | n + 1, xi5 => T0_spec_placeOf list0 n1 xi5 k (L0_spec_placeOf list0 n1 k n)
def G_spec_placeOf (list0 : List Int) (n1 : Int) (I0 : List Int → Int → Int → Prop) : Prop :=
  I0 list0 n1 0
def S_spec_placeOf (list0 : List Int) (n1 : Int) (k : Int → Prop) : Prop := G_spec_placeOf list0 n1 (fun list0 n1 xi5 => ∃ j, L0_spec_placeOf list0 n1 k j xi5)
def F_spec_placeOf (l : List Int) (n : Int) (k : Int → Prop) : Prop := l.length ≤ 1000000000 ∧ k (plc l n)
theorem F_spec_placeOf_S {l : List Int} {n : Int} {k : Int → Prop} (h : F_spec_placeOf l n k) : S_spec_placeOf l n k := by
  obtain ⟨hl, hk⟩ := h
  have key : ∀ (r : List Int) (i : Nat), l.drop i = r → plcF r n i = plc l n → L0_spec_placeOf l n k (r.length + 1) (i : Int) := by
    intro r
    induction r with
    | nil =>
      intro i hd he
      have := drop_nil' hd
      rw [L0_spec_placeOf, T0_spec_placeOf]
      simp only [br_dec]
      exact ⟨fun h => by omega, fun _ => by rw [show (-1 : Int) = plc l n from he]; exact hk⟩
    | cons x r ih =>
      intro i hd he
      obtain ⟨h1, h2, _, h3, _⟩ := drop_cons' hd
      rw [List.length_cons, L0_spec_placeOf, T0_spec_placeOf]
      simp only [br_dec, br_beq, Int.toNat_natCast, h2]
      refine ⟨fun _ => ⟨⟨by omega, by omega⟩, fun hx => ?_, fun hx => ⟨inR (by omega) (by omega), ?_⟩⟩, fun h => by omega⟩
      · simp only [plcF, if_pos hx] at he; rw [he]; exact hk
      · simp only [plcF, if_neg hx] at he; exact ih (i + 1) h3 he
  exact ⟨_, key l 0 rfl rfl⟩
-- spec.isIn
def G_spec_isIn (list0 : List Int) (n1 : Int) (k : Bool → Prop) : Prop :=
  F_spec_placeOf list0 n1 fun placeOf7 =>
  k (decide (placeOf7 ≥ 0))
def S_spec_isIn (list0 : List Int) (n1 : Int) (k : Bool → Prop) : Prop := G_spec_isIn list0 n1 k
def F_spec_isIn (l : List Int) (n : Int) (k : Bool → Prop) : Prop := l.length ≤ 1000000000 ∧ k (decide (n ∈ l))
theorem F_spec_isIn_S {l : List Int} {n : Int} {k : Bool → Prop} (h : F_spec_isIn l n k) : S_spec_isIn l n k := by
  refine ⟨h.1, ?_⟩
  have : decide (plc l n ≥ 0) = decide (n ∈ l) := decide_eq_decide.2 plc_ge
  show k (decide (plc l n ≥ 0))
  rw [this]; exact h.2
-- spec.distance
def T0_spec_distance (at1 : Int) (t0 : List Int) (xi6 : Int) (xseen5 : List Int) (k : Int → Prop) (B0 : Int → List Int → Prop) : Prop :=
  br (decide (xi6 ≥ 0))
  ((0 ≤ xi6 ∧ xi6 < (t0.length : Int)) ∧
    (0 ≤ at1 ∧ at1 < (t0.length : Int)) ∧
    br ((List.getD t0 (Int.toNat xi6) (0 : Int)) == (List.getD t0 (Int.toNat at1) (0 : Int)))
    (InR ((xseen5.length : Int) + 1) ∧
      k ((xseen5.length : Int) + 1))
    ((0 ≤ xi6 ∧ xi6 < (t0.length : Int)) ∧
      F_spec_isIn xseen5 (List.getD t0 (Int.toNat xi6) (0 : Int)) fun isIn31 =>
      br (!isIn31)
      ((0 ≤ xi6 ∧ xi6 < (t0.length : Int)) ∧
        (xseen5.length + 1 ≤ 1000000000) ∧
        InR (xi6 - 1) ∧
        B0 (xi6 - 1) (xseen5 ++ ([(List.getD t0 (Int.toNat xi6) (0 : Int))] : List Int)))
      (InR (xi6 - 1) ∧
        B0 (xi6 - 1) xseen5)))
  (k 0)
def L0_spec_distance (at1 : Int) (t0 : List Int) (k : Int → Prop) : Nat → Int → List Int → Prop
  | 0, _, _ => False
  | n + 1, xi6, xseen5 => T0_spec_distance at1 t0 xi6 xseen5 k (L0_spec_distance at1 t0 k n)
def G_spec_distance (t0 : List Int) (at1 : Int) (I0 : Int → List Int → Int → List Int → Prop) : Prop :=
  InR (at1 - 1) ∧
  I0 at1 t0 (at1 - 1) ([] : List Int)
def S_spec_distance (t0 : List Int) (at1 : Int) (k : Int → Prop) : Prop := G_spec_distance t0 at1 (fun at1 t0 xi6 xseen5 => ∃ j, L0_spec_distance at1 t0 k j xi6 xseen5)
def F_spec_distance (t : List Int) (i : Int) (k : Int → Prop) : Prop := (0 ≤ i ∧ i < t.length ∧ t.length ≤ 1000000) ∧ k (dst (usedR [] (t.take i.toNat)) (t.getD i.toNat 0))
theorem F_spec_distance_S {t : List Int} {i : Int} {k : Int → Prop} (h : F_spec_distance t i k) : S_spec_distance t i k := by
  obtain ⟨⟨h0, h1, h2⟩, hk⟩ := h
  have hsl : (t.take i.toNat).reverse.length = i.toNat := by rw [List.length_reverse, List.length_take]; omega
  have hsg : ∀ q : Nat, q < i.toNat → (t.take i.toNat).reverse[q]? = some (t.getD (i.toNat - 1 - q) 0) := fun q hq => by
    rw [List.getElem?_reverse (by rw [List.length_take]; omega), List.length_take, List.getElem?_take, if_pos (by omega), show min i.toNat t.length - 1 - q = i.toNat - 1 - q by omega]
    exact some_of (by omega)
  rw [usedR_ded] at hk
  have go : ∀ (m q : Nat), q + m = i.toNat → t.getD i.toNat 0 ∉ (t.take i.toNat).reverse.take q → L0_spec_distance i t k (m + 1) (i - 1 - q) (ded ((t.take i.toNat).reverse.take q)) := by
    intro m
    induction m with
    | zero =>
      intro q hq hn
      rw [List.take_of_length_le (by omega)] at hn
      rw [L0_spec_distance, T0_spec_distance, List.take_of_length_le (by omega)]
      refine br_dec.2 ⟨fun h => by omega, fun _ => ?_⟩
      rw [dst_zero.2 (fun c => hn (mem_ded.1 c))] at hk
      exact hk
    | succ m ih =>
      intro q hq hn
      have hq1 : (i - 1 - (q : Int)).toNat = i.toNat - 1 - q := by omega
      have hg := hsg q (by omega)
      have hlen : (ded ((t.take i.toNat).reverse.take q)).length ≤ i.toNat := by
        have := nodup_le (ded_nodup ((t.take i.toNat).reverse.take q)) fun x hx => mem_ded.1 hx
        rw [List.length_take] at this; omega
      have e : (t.take i.toNat).reverse.take (q + 1) = (t.take i.toNat).reverse.take q ++ [t.getD (i.toNat - 1 - q) 0] := by
        rw [List.take_add_one, hg]; rfl
      rw [L0_spec_distance, T0_spec_distance]
      rw [hq1]
      refine br_dec.2 ⟨fun _ => ⟨⟨by omega, by omega⟩, ⟨by omega, by omega⟩, br_beq.2 ⟨fun he => ⟨inR (by omega) (by omega), ?_⟩, fun he => ⟨⟨by omega, by omega⟩, by omega, br_not.2 (br_dec.2 ⟨fun hm => ⟨inR (by omega) (by omega), ?_⟩, fun hm => ⟨⟨by omega, by omega⟩, by omega, inR (by omega) (by omega), ?_⟩⟩)⟩⟩⟩, fun h => by omega⟩
      · rw [he] at hg
        rw [ded_first hg hn] at hk
        exact hk
      · have next := ih (q + 1) (by omega) (by
          rw [e, List.mem_append, List.mem_singleton]
          rintro (c | c)
          · exact hn c
          · exact he c.symm)
        rw [e, ded_snoc, if_pos hm] at next
        rw [show i - 1 - (q : Int) - 1 = i - 1 - ((q + 1 : Nat) : Int) by omega]
        exact next
      · have next := ih (q + 1) (by omega) (by
          rw [e, List.mem_append, List.mem_singleton]
          rintro (c | c)
          · exact hn c
          · exact he c.symm)
        rw [e, ded_snoc, if_neg hm] at next
        rw [show i - 1 - (q : Int) - 1 = i - 1 - ((q + 1 : Nat) : Int) by omega]
        exact next
  have := go i.toNat 0 (by omega) (by simp)
  exact ⟨inR (by omega) (by omega), _, by simpa [ded] using this⟩
-- spec.ReuseDistances
def T0_spec_ReuseDistances (t0 : List Int) (xi4 : Int) (xout3 : List Int) (k : List Int → Prop) (B0 : Int → List Int → Prop) : Prop :=
  br (decide (xi4 < (t0.length : Int)))
  (F_spec_distance t0 xi4 fun distance18 =>
    (xout3.length + 1 ≤ 1000000000) ∧
    InR (xi4 + 1) ∧
    B0 (xi4 + 1) (xout3 ++ ([distance18] : List Int)))
  (k xout3)
def L0_spec_ReuseDistances (t0 : List Int) (k : List Int → Prop) : Nat → Int → List Int → Prop
  | 0, _, _ => False
  | n + 1, xi4, xout3 => T0_spec_ReuseDistances t0 xi4 xout3 k (L0_spec_ReuseDistances t0 k n)
def G_spec_ReuseDistances (t0 : List Int) (k : List Int → Prop) (I0 : List Int → Int → List Int → Prop) : Prop :=
  F_spec_validTrace t0 fun validTrace7 =>
  br (!validTrace7)
  (k ([] : List Int))
  (I0 t0 0 ([] : List Int))
def S_spec_ReuseDistances (t0 : List Int) (k : List Int → Prop) : Prop := G_spec_ReuseDistances t0 k (fun t0 xi4 xout3 => ∃ j, L0_spec_ReuseDistances t0 k j xi4 xout3)
def F_spec_ReuseDistances (t : List Int) (k : List Int → Prop) : Prop := (VTrace t → k (distM [] t)) ∧ (¬ (VTrace t) → k [])
theorem F_spec_ReuseDistances_S {t : List Int} {k : List Int → Prop} (h : F_spec_ReuseDistances t k) : S_spec_ReuseDistances t k := by
  obtain ⟨hyes, hno⟩ := h
  intro b hb
  refine br_not.2 (br_iff.2 ⟨fun e => ?_, fun e => hno fun w => by rw [hb.2 w] at e; cases e⟩)
  have v := hb.1 e
  have hk := hyes v
  have hl := v.1
  have go : ∀ (m i : Nat), i + m = t.length → L0_spec_ReuseDistances t k (m + 1) (i : Int) (distM [] (t.take i)) := by
    intro m
    induction m with
    | zero =>
      intro i hi
      rw [L0_spec_ReuseDistances, T0_spec_ReuseDistances, List.take_of_length_le (by omega)]
      exact br_dec.2 ⟨fun h => by omega, fun _ => hk⟩
    | succ m ih =>
      intro i hi
      have next := ih (i + 1) (by omega)
      have e : t.take (i + 1) = t.take i ++ [t.getD i 0] := by
        rw [List.take_add_one, some_of (l := t) (d := 0) (by omega)]; rfl
      rw [e, distM_append] at next
      rw [L0_spec_ReuseDistances, T0_spec_ReuseDistances]
      refine br_dec.2 ⟨fun _ => ⟨⟨by omega, by omega, by omega⟩, ?_, inR (by omega) (by omega), ?_⟩, fun h => by omega⟩
      · rw [distM_len, List.length_take]; omega
      · rw [Int.toNat_natCast]; exact next
  exact ⟨_, go t.length 0 (by omega)⟩
-- impl.validKey
def G_impl_validKey (key0 : Int) (k : Bool → Prop) : Prop :=
  br (decide (0 ≤ key0))
  (k (decide (key0 ≤ 31)))
  (k false)
def S_impl_validKey (key0 : Int) (k : Bool → Prop) : Prop := G_impl_validKey key0 k
def F_impl_validKey (n : Int) (k : Bool → Prop) : Prop := k (decide (0 ≤ n ∧ n ≤ 31))
theorem F_impl_validKey_S {n : Int} {k : Bool → Prop} (h : F_impl_validKey n k) : S_impl_validKey n k := by
  unfold F_impl_validKey at h
  simp only [S_impl_validKey, G_impl_validKey, br_dec]
  refine ⟨fun h1 => ?_, fun h1 => ?_⟩
  · simpa [h1] using h
  · simpa [h1] using h
-- impl.ValidTrace
def T0_impl_ValidTrace (t0 : List Int) (xt9 : Int) (xt10 : Int) (k : Bool → Prop) (B0 : Int → Prop) : Prop :=
  br (decide (xt10 < xt9))
  ((0 ≤ xt10 ∧ xt10 < (t0.length : Int)) ∧
    F_impl_validKey (List.getD t0 (Int.toNat xt10) (0 : Int)) fun validKey15 =>
    br (!validKey15)
    (k false)
    (InR (xt10 + 1) ∧
      B0 (xt10 + 1)))
  (k true)
def L0_impl_ValidTrace (t0 : List Int) (xt9 : Int) (k : Bool → Prop) : Nat → Int → Prop
  | 0, _ => False
  | n + 1, xt10 => T0_impl_ValidTrace t0 xt9 xt10 k (L0_impl_ValidTrace t0 xt9 k n)
def G_impl_ValidTrace (t0 : List Int) (k : Bool → Prop) (I0 : List Int → Int → Int → Prop) : Prop :=
  br (decide ((t0.length : Int) > 24))
  (k false)
  (I0 t0 (t0.length : Int) 0)
def S_impl_ValidTrace (t0 : List Int) (k : Bool → Prop) : Prop := G_impl_ValidTrace t0 k (fun t0 xt9 xt10 => ∃ j, L0_impl_ValidTrace t0 xt9 k j xt10)
def F_impl_ValidTrace (t : List Int) (k : Bool → Prop) : Prop := ∀ b : Bool, (b = true ↔ VTrace t) → k b
theorem F_impl_ValidTrace_S {t : List Int} {k : Bool → Prop} (h : F_impl_ValidTrace t k) : S_impl_ValidTrace t k := by
  have hno : ¬ VTrace t → k false := fun hv => h false (by simp [hv])
  have key : t.length ≤ 24 → ∀ (r : List Int) (i : Nat), t.drop i = r → (∀ x ∈ t.take i, 0 ≤ x ∧ x ≤ 31) → L0_impl_ValidTrace t (t.length : Int) k (r.length + 1) (i : Int) := by
    intro hl r
    induction r with
    | nil =>
      intro i hd he
      have := drop_nil' hd
      rw [List.take_of_length_le this] at he
      rw [L0_impl_ValidTrace, T0_impl_ValidTrace]
      simp only [br_dec]
      exact ⟨fun h => by omega, fun _ => h true (by simp only [true_iff]; exact ⟨hl, he⟩)⟩
    | cons x r ih =>
      intro i hd he
      obtain ⟨h1, h2, h5, h3, h4⟩ := drop_cons' hd
      rw [List.length_cons, L0_impl_ValidTrace, T0_impl_ValidTrace]
      simp only [br_dec, F_impl_validKey, Int.toNat_natCast, h2, br_not]
      refine ⟨fun _ => ⟨⟨by omega, by omega⟩, fun hx => ⟨inR (by omega) (by omega), ih (i + 1) h3 ?_⟩, fun hx => hno fun v => hx (v.2 x (List.mem_of_getElem? h5))⟩, fun h => by omega⟩
      rw [h4]; intro y hy
      rcases List.mem_append.1 hy with hy | hy
      · exact he y hy
      · simp at hy; subst hy; exact hx
  exact br_dec.2 ⟨fun h3 => hno fun v => by have := v.1; omega, fun h3 => ⟨_, key (by omega) t 0 rfl (by simp)⟩⟩
-- slices.Index[[]int,int]
def T0_slices_Index_sint_int (s0 : List Int) (v1 : Int) (xt7 : Int) (xt8 : Int) (k : Int → Prop) (B0 : Int → Prop) : Prop :=
  br (decide (xt8 < xt7))
  ((0 ≤ xt8 ∧ xt8 < (s0.length : Int)) ∧
    br (v1 == (List.getD s0 (Int.toNat xt8) (0 : Int)))
    (k xt8)
    (InR (xt8 + 1) ∧
      B0 (xt8 + 1)))
  (k (-1))
def L0_slices_Index_sint_int (s0 : List Int) (v1 : Int) (xt7 : Int) (k : Int → Prop) : Nat → Int → Prop
  | 0, _ => False
  | n + 1, xt8 => T0_slices_Index_sint_int s0 v1 xt7 xt8 k (L0_slices_Index_sint_int s0 v1 xt7 k n)
def G_slices_Index_sint_int (s0 : List Int) (v1 : Int) (I0 : List Int → Int → Int → Int → Prop) : Prop :=
  I0 s0 v1 (s0.length : Int) 0
def S_slices_Index_sint_int (s0 : List Int) (v1 : Int) (k : Int → Prop) : Prop := G_slices_Index_sint_int s0 v1 (fun s0 v1 xt7 xt8 => ∃ j, L0_slices_Index_sint_int s0 v1 xt7 k j xt8)
def F_slices_Index_sint_int (l : List Int) (n : Int) (k : Int → Prop) : Prop := l.length ≤ 1000000000 ∧ k (plc l n)
theorem F_slices_Index_sint_int_S {l : List Int} {n : Int} {k : Int → Prop} (h : F_slices_Index_sint_int l n k) : S_slices_Index_sint_int l n k := by
  obtain ⟨hl, hk⟩ := h
  have key : ∀ (r : List Int) (i : Nat), l.drop i = r → plcF r n i = plc l n → L0_slices_Index_sint_int l n (l.length : Int) k (r.length + 1) (i : Int) := by
    intro r
    induction r with
    | nil =>
      intro i hd he
      have := drop_nil' hd
      rw [L0_slices_Index_sint_int, T0_slices_Index_sint_int]
      simp only [br_dec]
      exact ⟨fun h => by omega, fun _ => by rw [show (-1 : Int) = plc l n from he]; exact hk⟩
    | cons x r ih =>
      intro i hd he
      obtain ⟨h1, h2, _, h3, _⟩ := drop_cons' hd
      rw [List.length_cons, L0_slices_Index_sint_int, T0_slices_Index_sint_int]
      simp only [br_dec, br_beq, Int.toNat_natCast, h2]
      refine ⟨fun _ => ⟨⟨by omega, by omega⟩, fun hx => ?_, fun hx => ⟨inR (by omega) (by omega), ?_⟩⟩, fun h => by omega⟩
      · simp only [plcF, if_pos hx.symm] at he; rw [he]; exact hk
      · simp only [plcF, if_neg (Ne.symm hx)] at he; exact ih (i + 1) h3 he
  exact ⟨_, key l 0 rfl rfl⟩
-- impl.withoutKey
def T0_impl_withoutKey (key1 : Int) (list0 : List Int) (xt10 : Int) (xt11 : Int) (xout5 : List Int) (k : List Int → Prop) (B0 : Int → List Int → Prop) : Prop :=
  br (decide (xt11 < xt10))
  ((0 ≤ xt11 ∧ xt11 < (list0.length : Int)) ∧
    br ((List.getD list0 (Int.toNat xt11) (0 : Int)) != key1)
    ((xout5.length + 1 ≤ 1000000000) ∧
      InR (xt11 + 1) ∧
      B0 (xt11 + 1) (xout5 ++ ([(List.getD list0 (Int.toNat xt11) (0 : Int))] : List Int)))
    (InR (xt11 + 1) ∧
      B0 (xt11 + 1) xout5))
  (k xout5)
def L0_impl_withoutKey (key1 : Int) (list0 : List Int) (xt10 : Int) (k : List Int → Prop) : Nat → Int → List Int → Prop
  | 0, _, _ => False
  | n + 1, xt11, xout5 => T0_impl_withoutKey key1 list0 xt10 xt11 xout5 k (L0_impl_withoutKey key1 list0 xt10 k n)
def G_impl_withoutKey (list0 : List Int) (key1 : Int) (I0 : Int → List Int → Int → Int → List Int → Prop) : Prop :=
  I0 key1 list0 (list0.length : Int) 0 ([] : List Int)
def S_impl_withoutKey (list0 : List Int) (key1 : Int) (k : List Int → Prop) : Prop := G_impl_withoutKey list0 key1 (fun key1 list0 xt10 xt11 xout5 => ∃ j, L0_impl_withoutKey key1 list0 xt10 k j xt11 xout5)
def F_impl_withoutKey (l : List Int) (key : Int) (k : List Int → Prop) : Prop := l.length ≤ 1000000000 ∧ k (rmK l key)
theorem F_impl_withoutKey_S {l : List Int} {key : Int} {k : List Int → Prop} (h : F_impl_withoutKey l key k) : S_impl_withoutKey l key k := by
  obtain ⟨hl, hk⟩ := h
  have key1 : ∀ (r : List Int) (i : Nat) (out : List Int), l.drop i = r → out.length ≤ i → out ++ rmK r key = rmK l key → L0_impl_withoutKey key l (l.length : Int) k (r.length + 1) (i : Int) out := by
    intro r
    induction r with
    | nil =>
      intro i out hd ho he
      have := drop_nil' hd
      rw [L0_impl_withoutKey, T0_impl_withoutKey]
      simp only [br_dec]
      refine ⟨fun h => by omega, fun _ => ?_⟩
      have : out = rmK l key := by simpa [rmK] using he
      rw [this]; exact hk
    | cons x r ih =>
      intro i out hd ho he
      obtain ⟨h1, h2, _, h3, _⟩ := drop_cons' hd
      rw [List.length_cons, L0_impl_withoutKey, T0_impl_withoutKey]
      simp only [br_dec, br_bne, Int.toNat_natCast, h2]
      refine ⟨fun _ => ⟨⟨by omega, by omega⟩, fun hx => ⟨by omega, inR (by omega) (by omega), ?_⟩, fun hx => ⟨inR (by omega) (by omega), ?_⟩⟩, fun h => by omega⟩
      · exact ih (i + 1) (out ++ [x]) h3 (by simp; omega) (by rw [← he, rmK_cons_ne hx]; simp)
      · exact ih (i + 1) out h3 (by omega) (by rw [← he, hx, rmK_cons_eq])
  exact ⟨_, key1 l 0 [] rfl (by simp) rfl⟩
-- impl.putFirst
def G_impl_putFirst (list0 : List Int) (key1 : Int) (k : List Int → Prop) : Prop :=
  (1 + list0.length ≤ 1000000000) ∧
  k (([key1] : List Int) ++ list0)
def S_impl_putFirst (list0 : List Int) (key1 : Int) (k : List Int → Prop) : Prop := G_impl_putFirst list0 key1 k
def F_impl_putFirst (l : List Int) (x : Int) (k : List Int → Prop) : Prop := l.length ≤ 999999999 ∧ k (x :: l)
theorem F_impl_putFirst_S {l : List Int} {x : Int} {k : List Int → Prop} (h : F_impl_putFirst l x k) : S_impl_putFirst l x k := ⟨by have := h.1; omega, h.2⟩
-- impl.ReuseDistances
def T0_impl_ReuseDistances (t0 : List Int) (xt15 : Int) (xt16 : Int) (xy12 : List Int) (xrecent4 : List Int) (k : List Int → Prop) (B0 : Int → List Int → List Int → Prop) : Prop :=
  br (decide (xt16 < xt15))
  ((0 ≤ xt16 ∧ xt16 < (t0.length : Int)) ∧
    F_slices_Index_sint_int xrecent4 (List.getD t0 (Int.toNat xt16) (0 : Int)) fun index25 =>
    InR (index25 + 1) ∧
    (0 ≤ xt16 ∧ xt16 < (xy12.length : Int)) ∧
    F_impl_withoutKey xrecent4 (List.getD t0 (Int.toNat xt16) (0 : Int)) fun withoutKey30 =>
    F_impl_putFirst withoutKey30 (List.getD t0 (Int.toNat xt16) (0 : Int)) fun putFirst32 =>
    InR (xt16 + 1) ∧
    B0 (xt16 + 1) (List.set xy12 (Int.toNat xt16) (index25 + 1)) putFirst32)
  (k xy12)
def L0_impl_ReuseDistances (t0 : List Int) (xt15 : Int) (k : List Int → Prop) : Nat → Int → List Int → List Int → Prop
  | 0, _, _, _ => False
  | n + 1, xt16, xy12, xrecent4 => T0_impl_ReuseDistances t0 xt15 xt16 xy12 xrecent4 k (L0_impl_ReuseDistances t0 xt15 k n)
def G_impl_ReuseDistances (t0 : List Int) (k : List Int → Prop) (I0 : List Int → Int → Int → List Int → List Int → Prop) : Prop :=
  F_impl_ValidTrace t0 fun validTrace8 =>
  br (!validTrace8)
  (k ([] : List Int))
  (((t0.length : Int) = (t0.length : Int) ∧ 0 ≤ (t0.length : Int) ∧ (t0.length : Int) ≤ 1000000000) ∧
    I0 t0 (t0.length : Int) 0 (List.replicate (Int.toNat (t0.length : Int)) (0 : Int)) ([] : List Int))
def S_impl_ReuseDistances (t0 : List Int) (k : List Int → Prop) : Prop := G_impl_ReuseDistances t0 k (fun t0 xt15 xt16 xy12 xrecent4 => ∃ j, L0_impl_ReuseDistances t0 xt15 k j xt16 xy12 xrecent4)
def F_impl_ReuseDistances (t : List Int) (k : List Int → Prop) : Prop := (VTrace t → k (distM [] t)) ∧ (¬ (VTrace t) → k [])
theorem F_impl_ReuseDistances_S {t : List Int} {k : List Int → Prop} (h : F_impl_ReuseDistances t k) : S_impl_ReuseDistances t k := by
  obtain ⟨hyes, hno⟩ := h
  intro b hb
  refine br_not.2 (br_iff.2 ⟨fun e => ?_, fun e => hno fun w => by rw [hb.2 w] at e; cases e⟩)
  have v := hb.1 e
  have hk := hyes v
  have hl := v.1
  have go : ∀ (m i : Nat), i + m = t.length → L0_impl_ReuseDistances t (t.length : Int) k (m + 1) (i : Int) (distM [] (t.take i) ++ List.replicate m 0) (usedR [] (t.take i)) := by
    intro m
    induction m with
    | zero =>
      intro i hi
      rw [L0_impl_ReuseDistances, T0_impl_ReuseDistances, List.take_of_length_le (by omega)]
      refine br_dec.2 ⟨fun h => by omega, fun _ => ?_⟩
      rw [List.replicate_zero, List.append_nil]; exact hk
    | succ m ih =>
      intro i hi
      have next := ih (i + 1) (by omega)
      rw [take_get (by omega), distM_append, usedR_append] at next
      have hd : (distM [] (t.take i)).length = i := by rw [distM_len, List.length_take]; omega
      have hu : (usedR [] (t.take i)).length ≤ i := by
        have := nk_le (t.take i)
        rw [List.length_take] at this
        rw [usedR_len]; omega
      have hp := @plc_lt (usedR [] (t.take i)) (t.getD i 0)
      have hg := plc_ge1 (usedR [] (t.take i)) (t.getD i 0)
      have hr := @rmK_le (usedR [] (t.take i)) (t.getD i 0)
      rw [L0_impl_ReuseDistances, T0_impl_ReuseDistances]
      simp only [Int.toNat_natCast]
      refine br_yd (by omega) ⟨⟨by omega, by omega⟩, by omega, inR (by omega) (by omega), ⟨by omega, ?_⟩, by omega, by omega, inR (by omega) (by omega), ?_⟩
      · rw [List.length_append, hd, List.length_replicate]; omega
      · rw [List.replicate_succ, set_mid hd]
        rw [List.append_assoc] at next
        exact next
  refine ⟨⟨rfl, by omega, by omega⟩, ?_⟩
  exact ⟨_, go t.length 0 (by omega)⟩
-- laws.eqIntS
def T0_laws_eqIntS (a0 : List Int) (b1 : List Int) (xi5 : Int) (k : Bool → Prop) (B0 : Int → Prop) : Prop :=
  br (decide (xi5 < (a0.length : Int)))
  ((0 ≤ xi5 ∧ xi5 < (a0.length : Int)) ∧
    (0 ≤ xi5 ∧ xi5 < (b1.length : Int)) ∧
    br ((List.getD a0 (Int.toNat xi5) (0 : Int)) != (List.getD b1 (Int.toNat xi5) (0 : Int)))
    (k false)
    (InR (xi5 + 1) ∧
      B0 (xi5 + 1)))
  (k true)
def L0_laws_eqIntS (a0 : List Int) (b1 : List Int) (k : Bool → Prop) : Nat → Int → Prop
  | 0, _ => False
  | n + 1, xi5 => T0_laws_eqIntS a0 b1 xi5 k (L0_laws_eqIntS a0 b1 k n)
def G_laws_eqIntS (a0 : List Int) (b1 : List Int) (k : Bool → Prop) (I0 : List Int → List Int → Int → Prop) : Prop :=
  br ((a0.length : Int) != (b1.length : Int))
  (k false)
  (I0 a0 b1 0)
def S_laws_eqIntS (a0 : List Int) (b1 : List Int) (k : Bool → Prop) : Prop := G_laws_eqIntS a0 b1 k (fun a0 b1 xi5 => ∃ j, L0_laws_eqIntS a0 b1 k j xi5)
def F_laws_eqIntS (a b : List Int) (k : Bool → Prop) : Prop := a.length ≤ 1000000000 ∧ k (decide (a = b))
theorem F_laws_eqIntS_S {a b : List Int} {k : Bool → Prop} (h : F_laws_eqIntS a b k) : S_laws_eqIntS a b k := by
  obtain ⟨hl, hk⟩ := h
  refine br_bne.2 ⟨fun he => by rwa [decide_eq_false (fun e => he (by rw [e]))] at hk, fun he => ?_⟩
  have he : a.length = b.length := by omega
  have key : ∀ (r : List Int) (i : Nat), a.drop i = r → (r = b.drop i ↔ a = b) → L0_laws_eqIntS a b k (r.length + 1) (i : Int) := by
    intro r
    induction r with
    | nil =>
      intro i hd hi
      have := drop_nil' hd
      rw [L0_laws_eqIntS, T0_laws_eqIntS]
      simp only [br_dec]
      exact ⟨fun h => by omega, fun _ => by rwa [decide_eq_true (hi.1 (List.drop_eq_nil_of_le (by omega)).symm)] at hk⟩
    | cons x r ih =>
      intro i hd hi
      obtain ⟨h1, h2, _, h3, _⟩ := drop_cons' hd
      obtain ⟨y, s, hs⟩ : ∃ y s, b.drop i = y :: s := by
        cases e : b.drop i with
        | nil => have := drop_nil' e; omega
        | cons y s => exact ⟨y, s, rfl⟩
      obtain ⟨g1, g2, _, g3, _⟩ := drop_cons' hs
      rw [List.length_cons, L0_laws_eqIntS, T0_laws_eqIntS]
      simp only [br_dec, br_bne, Int.toNat_natCast, h2, g2]
      rw [hs] at hi
      refine ⟨fun _ => ⟨⟨by omega, by omega⟩, ⟨by omega, by omega⟩, ?_⟩, fun h => by omega⟩
      have go : x = y → L0_laws_eqIntS a b k (r.length + 1) ((i : Int) + 1) := fun hx => ih (i + 1) h3 (by rw [g3, ← hi, hx]; simp)
      have no : x ≠ y → k false := fun hx => by rwa [decide_eq_false (fun e => hx (List.cons.inj (hi.2 e)).1)] at hk
      exact ⟨no, fun hx => ⟨inR (by omega) (by omega), go hx⟩⟩
  exact ⟨_, key a 0 rfl (by simp)⟩
-- laws.markIntS
def T0_laws_markIntS (xk1 : Int) (xi5 : Int) (xy100000 : List Int) (k : Int → List Int → Prop) (B0 : Int → Int → List Int → Prop) : Prop :=
  br (decide (xi5 < (xy100000.length : Int)))
  ((0 ≤ xi5 ∧ xi5 < (xy100000.length : Int)) ∧
    InR (xk1 + 1) ∧
    InR (xi5 + 1) ∧
    B0 (xk1 + 1) (xi5 + 1) (List.set xy100000 (Int.toNat xi5) xk1))
  (k xk1 xy100000)
def L0_laws_markIntS (k : Int → List Int → Prop) : Nat → Int → Int → List Int → Prop
  | 0, _, _, _ => False
  | n + 1, xk1, xi5, xy100000 => T0_laws_markIntS xk1 xi5 xy100000 k (L0_laws_markIntS k n)
def G_laws_markIntS (a0 : List Int) (k1 : Int) (I0 : Int → Int → List Int → Prop) : Prop :=
  I0 k1 0 a0
def S_laws_markIntS (a0 : List Int) (k1 : Int) (k : Int → List Int → Prop) : Prop := G_laws_markIntS a0 k1 (fun xk1 xi5 xy100000 => ∃ j, L0_laws_markIntS k j xk1 xi5 xy100000)
def F_laws_markIntS (a : List Int) (k0 : Int) (k : Int → List Int → Prop) : Prop :=
  (a.length ≤ 1000000000 ∧ 0 ≤ k0 ∧ k0 ≤ 100000000000) ∧ k (k0 + a.length) (seqI k0 a.length)
theorem F_laws_markIntS_S {a : List Int} {k0 : Int} {k : Int → List Int → Prop} (h : F_laws_markIntS a k0 k) : S_laws_markIntS a k0 k := by
  obtain ⟨⟨h1, h2, h3⟩, hk⟩ := h
  have key : ∀ (d i : Nat) (out : List Int), i + d = a.length → out.length = a.length → out.take i = seqI k0 i → L0_laws_markIntS k (d + 1) (k0 + (i : Int)) (i : Int) out := by
    intro d
    induction d with
    | zero =>
      intro i out hi ho he
      rw [L0_laws_markIntS, T0_laws_markIntS]
      refine br_dec.2 ⟨fun h => by omega, fun _ => ?_⟩
      rw [List.take_of_length_le (by omega)] at he
      have : i = a.length := by omega
      rw [he, this]; exact hk
    | succ d ih =>
      intro i out hi ho he
      rw [L0_laws_markIntS, T0_laws_markIntS]
      rw [Int.toNat_natCast]
      refine br_dec.2 ⟨fun _ => ⟨⟨by omega, by omega⟩, inR (by omega) (by omega), inR (by omega) (by omega), ?_⟩, fun h => by omega⟩
      rw [show k0 + (i : Int) + 1 = k0 + ((i + 1 : Nat) : Int) by omega]
      exact ih (i + 1) _ (by omega) (by simpa using ho) (by rw [take_set_succ (by omega), he, seqI_snoc])
  have := key a.length 0 a (by omega) rfl (by simp [seqI])
  rw [show k0 + ((0 : Nat) : Int) = k0 by omega] at this
  exact ⟨_, this⟩
-- laws.heldIntS
def T0_laws_heldIntS (a0 : List Int) (xk1 : Int) (xi5 : Int) (k : Int → Prop) (B0 : Int → Int → Prop) : Prop :=
  br (decide (xi5 < (a0.length : Int)))
  ((0 ≤ xi5 ∧ xi5 < (a0.length : Int)) ∧
    br ((List.getD a0 (Int.toNat xi5) (0 : Int)) != xk1)
    (k (-1))
    (InR (xk1 + 1) ∧
      InR (xi5 + 1) ∧
      B0 (xk1 + 1) (xi5 + 1)))
  (k xk1)
def L0_laws_heldIntS (a0 : List Int) (k : Int → Prop) : Nat → Int → Int → Prop
  | 0, _, _ => False
  | n + 1, xk1, xi5 => T0_laws_heldIntS a0 xk1 xi5 k (L0_laws_heldIntS a0 k n)
def G_laws_heldIntS (a0 : List Int) (k1 : Int) (I0 : List Int → Int → Int → Prop) : Prop :=
  I0 a0 k1 0
def S_laws_heldIntS (a0 : List Int) (k1 : Int) (k : Int → Prop) : Prop := G_laws_heldIntS a0 k1 (fun a0 xk1 xi5 => ∃ j, L0_laws_heldIntS a0 k j xk1 xi5)
def F_laws_heldIntS (a : List Int) (k0 : Int) (k : Int → Prop) : Prop :=
  ∃ n : Nat, (n ≤ 1000000000 ∧ 0 ≤ k0 ∧ k0 ≤ 100000000000) ∧ a = seqI k0 n ∧ k (k0 + (n : Int))
theorem F_laws_heldIntS_S {a : List Int} {k0 : Int} {k : Int → Prop} (h : F_laws_heldIntS a k0 k) : S_laws_heldIntS a k0 k := by
  obtain ⟨n, ⟨h1, h2, h3⟩, rfl, hk⟩ := h
  have key : ∀ (d i : Nat), i + d = n → L0_laws_heldIntS (seqI k0 n) k (d + 1) (k0 + (i : Int)) (i : Int) := by
    intro d
    induction d with
    | zero =>
      intro i hi
      rw [L0_laws_heldIntS, T0_laws_heldIntS]
      rw [seqI_len]
      refine br_dec.2 ⟨fun h => by omega, fun _ => ?_⟩
      have : i = n := by omega
      rw [this]; exact hk
    | succ d ih =>
      intro i hi
      have hi2 : i < n := by omega
      rw [L0_laws_heldIntS, T0_laws_heldIntS]
      rw [Int.toNat_natCast, seqI_len]
      refine br_dec.2 ⟨fun _ => ⟨⟨by omega, by omega⟩, br_bne.2 ⟨fun h => absurd (seqI_get hi2) h, fun _ => ⟨inR (by omega) (by omega), inR (by omega) (by omega), ?_⟩⟩⟩, fun h => by omega⟩
      rw [show k0 + (i : Int) + 1 = k0 + ((i + 1 : Nat) : Int) by omega]
      exact ih (i + 1) (by omega)
  have := key n 0 (by omega)
  rw [show k0 + ((0 : Nat) : Int) = k0 by omega] at this
  exact ⟨_, this⟩
-- laws.FnExactReuseDistances
def G_laws_FnExactReuseDistances (aT0 : List Int) (k : Bool → Prop) : Prop :=
  br (decide ((aT0.length : Int) > 1048576))
  (k true)
  (F_laws_toIntS aT0 fun toIntS14 =>
    F_spec_ReuseDistances toIntS14 fun reuseDistances15 =>
    F_laws_toIntS aT0 fun toIntS17 =>
    F_impl_ReuseDistances toIntS17 fun reuseDistances19 =>
    F_laws_eqIntS reuseDistances19 reuseDistances15 fun eqIntS22 =>
    br (!eqIntS22)
    (k false)
    (F_laws_toIntS aT0 fun toIntS26 =>
      F_laws_eqIntS toIntS17 toIntS26 fun eqIntS27 =>
      br (!eqIntS27)
      (k false)
      (F_laws_markIntS toIntS17 (1 : Int) fun markIntS31 omarkIntS31 =>
        br (decide (markIntS31 < 0))
        (k false)
        (F_laws_eqIntS reuseDistances19 reuseDistances15 fun eqIntS37 =>
          br (!eqIntS37)
          (k false)
          (F_laws_markIntS reuseDistances19 (1 : Int) fun markIntS42 omarkIntS42 =>
            F_laws_heldIntS omarkIntS42 (1 : Int) fun heldIntS45 =>
            br (decide (heldIntS45 < 0))
            (k false)
            (br (heldIntS45 != markIntS42)
              (k false)
              (F_laws_toIntS aT0 fun toIntS52 =>
                F_impl_ReuseDistances toIntS52 fun reuseDistances53 =>
                F_laws_eqIntS reuseDistances53 reuseDistances15 fun eqIntS56 =>
                br (!eqIntS56)
                (k false)
                (F_laws_heldIntS omarkIntS42 (1 : Int) fun heldIntS60 =>
                  br (decide (heldIntS60 < 0))
                  (k false)
                  (br (heldIntS60 != markIntS42)
                    (k false)
                    (k true))))))))))
def S_laws_FnExactReuseDistances (aT0 : List Int) (k : Bool → Prop) : Prop := G_laws_FnExactReuseDistances aT0 k
abbrev F_laws_FnExactReuseDistances (aT0 : List Int) (k : Bool → Prop) : Prop := S_laws_FnExactReuseDistances aT0 k
theorem F_laws_FnExactReuseDistances_S {aT0 : List Int} {k : Bool → Prop} (h : F_laws_FnExactReuseDistances aT0 k) : S_laws_FnExactReuseDistances aT0 k := h
theorem law_FnExactReuseDistances (t : List Int) (lt : t.length ≤ maxLen) (rt : ∀ x ∈ t, InR x) :
    F_laws_FnExactReuseDistances t (fun r => r = true) := by
  refine br_dec.2 ⟨fun _ => rfl, fun t0 => ?_⟩
  have mt : t.length ≤ 1000000000 := by omega
  by_cases v : VTrace t
  · have m2 := (by have := v.1; have := distM_len t []; omega : (distM [] t).length ≤ 1000000000)
    exact ⟨mt, ⟨fun _ => ⟨mt, ⟨fun _ => ⟨m2, br_de (⟨mt, mt, br_de (⟨⟨mt, by omega, by omega⟩, br_lt0 (by omega) (⟨m2, br_de (⟨⟨m2, by omega, by omega⟩, ⟨_, ⟨m2, by omega, by omega⟩, rfl, br_lt0 (by omega) (br_same' (⟨mt, ⟨fun _ => ⟨m2, br_de (⟨_, ⟨m2, by omega, by omega⟩, rfl, br_lt0 (by omega) (br_same' rfl)⟩)⟩, fun h => absurd v h⟩⟩))⟩⟩)⟩)⟩)⟩)⟩, fun h => absurd v h⟩⟩, fun h => absurd v h⟩⟩
  · have m2 : ([] : List Int).length ≤ 1000000000 := by simp
    exact ⟨mt, ⟨fun h => absurd h v, fun _ => ⟨mt, ⟨fun h => absurd h v, fun _ => ⟨m2, br_de (⟨mt, mt, br_de (⟨⟨mt, by omega, by omega⟩, br_lt0 (by omega) (⟨m2, br_de (⟨⟨m2, by omega, by omega⟩, ⟨_, ⟨m2, by omega, by omega⟩, rfl, br_lt0 (by omega) (br_same' (⟨mt, ⟨fun h => absurd h v, fun _ => ⟨m2, br_de (⟨_, ⟨m2, by omega, by omega⟩, rfl, br_lt0 (by omega) (br_same' rfl)⟩)⟩⟩⟩))⟩⟩)⟩)⟩)⟩)⟩⟩⟩⟩⟩
end Go.Ev
