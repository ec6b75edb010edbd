/- What the functions that the law reaches do, written as plain Lean. No statement is proved here. -/
import Derived.Test.YtlobdkcjlpifjaeFnExactValidClockP0
namespace Go.Ev
set_option linter.unusedVariables false
open Go
/-! ## Timed keys -/
theorem tm_eta (e : Int × Int) : (e.1, e.2) = e := rfl
def PTm (l : List (Int × Int)) : Prop := (∀ e ∈ l, (0 ≤ e.1 ∧ e.1 ≤ 31) ∧ 0 ≤ e.2 ∧ e.2 ≤ 1000) ∧ l.Pairwise fun a b => a.1 < b.1
def VTm (l : List (Int × Int)) : Prop := l.length ≤ 12 ∧ PTm l
theorem getT_mem {l : List (Int × Int)} {i : Nat} (h : i < l.length) : l.getD i ((0 : Int), (0 : Int)) ∈ l := by
  rw [List.getD_eq_getElem?_getD, List.getElem?_eq_getElem h]; exact List.getElem_mem h
theorem takeT {l : List (Int × Int)} {i : Nat} (h : i < l.length) : l.take (i + 1) = l.take i ++ [l.getD i ((0 : Int), (0 : Int))] := by
  rw [List.take_add_one, List.getD_eq_getElem?_getD, List.getElem?_eq_getElem h]; rfl
theorem PTm.lt {l : List (Int × Int)} (v : PTm l) {i j : Nat} (h : i < j) (hj : j < l.length) : (l.getD i ((0 : Int), (0 : Int))).1 < (l.getD j ((0 : Int), (0 : Int))).1 := by
  have := List.pairwise_iff_getElem.1 v.2 i j (by omega) hj h
  rw [List.getD_eq_getElem?_getD, List.getElem?_eq_getElem (by omega), List.getD_eq_getElem?_getD, List.getElem?_eq_getElem hj]
  exact this
theorem PTm.uniq {l : List (Int × Int)} (v : PTm l) {a b : Int × Int} (ha : a ∈ l) (hb : b ∈ l) (h : a.1 = b.1) : a = b := by
  obtain ⟨i, hi, ei⟩ := List.getElem_of_mem ha
  obtain ⟨j, hj, ej⟩ := List.getElem_of_mem hb
  rcases Nat.lt_trichotomy i j with c | c | c
  · have := List.pairwise_iff_getElem.1 v.2 i j hi hj c
    rw [ei, ej] at this; omega
  · subst c; rw [← ei, ← ej]
  · have := List.pairwise_iff_getElem.1 v.2 j i hj hi c
    rw [ei, ej] at this; omega
theorem PTm.snoc {u : List (Int × Int)} {x : Int × Int} (v : PTm u) (hx : (0 ≤ x.1 ∧ x.1 ≤ 31) ∧ 0 ≤ x.2 ∧ x.2 ≤ 1000) (h : u = [] ∨ (u.getD (u.length - 1) ((0 : Int), (0 : Int))).1 < x.1) : PTm (u ++ [x]) := by
  refine ⟨fun e he => ?_, List.pairwise_append.2 ⟨v.2, by simp, fun a ha b hb => ?_⟩⟩
  · rcases List.mem_append.1 he with g | g
    · exact v.1 e g
    · rw [List.mem_singleton.1 g]; exact hx
  · rw [List.mem_singleton.1 hb]
    rcases h with c | c
    · rw [c] at ha; simp at ha
    · obtain ⟨i, hi, ei⟩ := List.getElem_of_mem ha
      have e1 : u.getD i ((0 : Int), (0 : Int)) = a := by rw [List.getD_eq_getElem?_getD, List.getElem?_eq_getElem hi]; exact ei
      by_cases g : i = u.length - 1
      · rw [← e1, g]; exact c
      · have := v.lt (i := i) (j := u.length - 1) (by omega) (by omega)
        rw [e1] at this; omega
theorem PTm.filter {l : List (Int × Int)} (v : PTm l) (p : Int × Int → Bool) : PTm (l.filter p) := ⟨fun e he => v.1 e (List.mem_filter.1 he).1, v.2.filter p⟩
def putM (l : List (Int × Int)) (key until_ : Int) : List (Int × Int) := l.filter (fun e => decide (e.1 < key)) ++ (key, until_) :: l.filter (fun e => decide (key < e.1))
def PutOK (l : List (Int × Int)) (key until_ : Int) : Prop := VTm l ∧ (0 ≤ key ∧ key ≤ 31) ∧ (0 ≤ until_ ∧ until_ ≤ 1000) ∧ (putM l key until_).length ≤ 12
theorem PTm.put {l : List (Int × Int)} {key until_ : Int} (v : PTm l) (h1 : 0 ≤ key ∧ key ≤ 31) (h2 : 0 ≤ until_ ∧ until_ ≤ 1000) : PTm (putM l key until_) := by
  refine ⟨fun e he => ?_, List.pairwise_append.2 ⟨v.2.filter _, List.pairwise_cons.2 ⟨fun b hb => ?_, v.2.filter _⟩, fun a ha b hb => ?_⟩⟩
  · rcases List.mem_append.1 he with g | g
    · exact v.1 e (List.mem_filter.1 g).1
    · rcases List.mem_cons.1 g with g | g
      · rw [g]; exact ⟨h1, h2⟩
      · exact v.1 e (List.mem_filter.1 g).1
  · have := (List.mem_filter.1 hb).2
    exact of_decide_eq_true this
  · have h3 := of_decide_eq_true (List.mem_filter.1 ha).2
    rcases List.mem_cons.1 hb with g | g
    · rw [g]; exact h3
    · have h4 := of_decide_eq_true (List.mem_filter.1 g).2
      omega
theorem PutOK.valid {l : List (Int × Int)} {key until_ : Int} (h : PutOK l key until_) : VTm (putM l key until_) := ⟨h.2.2.2, h.1.2.put h.2.1 h.2.2.1⟩
theorem putM_mem {l : List (Int × Int)} {key until_ : Int} {e : Int × Int} : e ∈ putM l key until_ ↔ e = (key, until_) ∨ (e ∈ l ∧ e.1 ≠ key) := by
  unfold putM
  rw [List.mem_append, List.mem_cons, List.mem_filter, List.mem_filter, decide_eq_true_iff, decide_eq_true_iff]
  constructor
  · rintro (⟨h1, h2⟩ | h | ⟨h1, h2⟩)
    · exact .inr ⟨h1, by omega⟩
    · exact .inl h
    · exact .inr ⟨h1, by omega⟩
  · rintro (h | ⟨h1, h2⟩)
    · exact .inr (.inl h)
    · by_cases c : e.1 < key
      · exact .inl ⟨h1, c⟩
      · exact .inr (.inr ⟨h1, by omega⟩)
theorem filter_two {l : List (Int × Int)} {key : Int} : (l.filter (fun e => decide (e.1 < key))).length + (l.filter (fun e => decide (key < e.1))).length ≤ l.length := by
  induction l with
  | nil => simp
  | cons x l ih =>
    by_cases c : x.1 < key
    · rw [List.filter_cons_of_pos (by simpa using c), List.filter_cons_of_neg (by simp; omega)]
      simp only [List.length_cons]; omega
    · by_cases d : key < x.1
      · rw [List.filter_cons_of_neg (by simp; omega), List.filter_cons_of_pos (by simpa using d)]
        simp only [List.length_cons]; omega
      · rw [List.filter_cons_of_neg (by simp; omega), List.filter_cons_of_neg (by simp; omega)]
        simp only [List.length_cons]; omega
theorem putM_len (l : List (Int × Int)) (key until_ : Int) : (putM l key until_).length ≤ l.length + 1 := by
  have := @filter_two l key
  unfold putM
  rw [List.length_append, List.length_cons]; omega
theorem filter_all {l : List (Int × Int)} {p : Int × Int → Bool} (h : ∀ e ∈ l, p e = true) : l.filter p = l := List.filter_eq_self.2 h
theorem filter_none {l : List (Int × Int)} {p : Int × Int → Bool} (h : ∀ e ∈ l, p e = false) : l.filter p = [] := List.filter_eq_nil_iff.2 fun e he => by rw [h e he]; simp
theorem putM_low {l : List (Int × Int)} {a u b : Int} : (putM l a u).filter (fun e => decide (e.1 < b)) = if a < b then l.filter (fun e => decide (e.1 < a)) ++ (a, u) :: l.filter (fun e => decide (a < e.1 ∧ e.1 < b)) else l.filter (fun e => decide (e.1 < b)) := by
  unfold putM
  rw [List.filter_append, List.filter_filter]
  split
  · rename_i h
    rw [List.filter_cons_of_pos (by simpa using h), List.filter_filter]
    congr 1
    · exact List.filter_congr fun e _ => by simp only [← Bool.decide_and]; exact decide_eq_decide.2 ⟨fun g => g.2, fun g => ⟨by omega, g⟩⟩
    · congr 1
      exact List.filter_congr fun e _ => by simp only [← Bool.decide_and]; exact decide_eq_decide.2 ⟨fun g => ⟨g.2, g.1⟩, fun g => ⟨g.2, g.1⟩⟩
  · rename_i h
    rw [List.filter_cons_of_neg (by simpa using h), List.filter_filter]
    have : l.filter (fun e => decide (e.1 < b) && decide (a < e.1)) = [] := filter_none fun e _ => by simp only [← Bool.decide_and]; exact decide_eq_false (by omega)
    rw [this, List.append_nil]
    exact List.filter_congr fun e _ => by simp only [← Bool.decide_and]; exact decide_eq_decide.2 ⟨fun g => g.1, fun g => ⟨g, by omega⟩⟩
theorem putM_high {l : List (Int × Int)} {a u b : Int} : (putM l a u).filter (fun e => decide (b < e.1)) = if b < a then l.filter (fun e => decide (b < e.1 ∧ e.1 < a)) ++ (a, u) :: l.filter (fun e => decide (a < e.1)) else l.filter (fun e => decide (b < e.1)) := by
  unfold putM
  rw [List.filter_append, List.filter_filter]
  split
  · rename_i h
    rw [List.filter_cons_of_pos (by simpa using h), List.filter_filter]
    congr 1
    · exact List.filter_congr fun e _ => by simp only [← Bool.decide_and]
    · congr 1
      exact List.filter_congr fun e _ => by simp only [← Bool.decide_and]; exact decide_eq_decide.2 ⟨fun g => g.2, fun g => ⟨by omega, g⟩⟩
  · rename_i h
    rw [List.filter_cons_of_neg (by simpa using h), List.filter_filter]
    have : l.filter (fun e => decide (b < e.1) && decide (e.1 < a)) = [] := filter_none fun e _ => by simp only [← Bool.decide_and]; exact decide_eq_false (by omega)
    rw [this, List.nil_append]
    exact List.filter_congr fun e _ => by simp only [← Bool.decide_and]; exact decide_eq_decide.2 ⟨fun g => g.1, fun g => ⟨g, by omega⟩⟩
theorem putM_again (l : List (Int × Int)) (a u w : Int) : putM (putM l a u) a w = putM l a w := by
  rw [putM, putM_low, putM_high, if_neg (by omega), if_neg (by omega)]; rfl
theorem putM_swap {l : List (Int × Int)} {a u b w : Int} (h : a < b) : putM (putM l a u) b w = putM (putM l b w) a u := by
  rw [putM, putM_low, putM_high, if_pos h, if_neg (by omega), putM, putM_low, putM_high, if_neg (by omega), if_pos h]
  simp
theorem putM_comm {l : List (Int × Int)} {a u b w : Int} (h : a ≠ b) : putM (putM l a u) b w = putM (putM l b w) a u := by
  by_cases c : a < b
  · exact putM_swap c
  · exact (putM_swap (by omega)).symm
def aliveM (l : List (Int × Int)) (key now : Int) : Prop := ∃ e ∈ l, e.1 = key ∧ now ≤ e.2
def dropM (l : List (Int × Int)) (now : Int) : List (Int × Int) := l.filter fun e => decide (now ≤ e.2)
theorem dropM_len (l : List (Int × Int)) (now : Int) : (dropM l now).length ≤ l.length := List.length_filter_le _ _
theorem VTm.drop {l : List (Int × Int)} (v : VTm l) (now : Int) : VTm (dropM l now) := ⟨Nat.le_trans (dropM_len l now) v.1, v.2.filter _⟩
theorem dropM_snoc {l : List (Int × Int)} {e : Int × Int} {now : Int} : dropM (l ++ [e]) now = if now ≤ e.2 then dropM l now ++ [e] else dropM l now := by
  unfold dropM
  rw [List.filter_append]
  split
  · rename_i h; rw [List.filter_cons_of_pos (by simpa using h)]; rfl
  · rename_i h; rw [List.filter_cons_of_neg (by simpa using h)]; simp
def deathF : List (Int × Int) → Int → Int
  | [], n => n
  | e :: r, n => deathF r (if n < 0 ∨ e.2 < n then e.2 else n)
def deathM (l : List (Int × Int)) : Int := deathF l (-1)
theorem deathF_snoc : ∀ (l : List (Int × Int)) (e : Int × Int) (n : Int), deathF (l ++ [e]) n = if deathF l n < 0 ∨ e.2 < deathF l n then e.2 else deathF l n
  | [], _, _ => rfl
  | _ :: l, e, _ => deathF_snoc l e _
theorem deathF_spec : ∀ (l : List (Int × Int)) (n : Int), (∀ e ∈ l, 0 ≤ e.2) → (0 ≤ n → deathF l n ≤ n) ∧ (∀ e ∈ l, deathF l n ≤ e.2) ∧ (deathF l n = n ∨ ∃ e ∈ l, e.2 = deathF l n) ∧ (l ≠ [] ∨ 0 ≤ n → 0 ≤ deathF l n)
  | [], n, _ => ⟨fun _ => Int.le_refl _, by simp, .inl rfl, fun h => by rcases h with h | h; exact absurd rfl h; exact h⟩
  | x :: l, n, h => by
    have hx := h x List.mem_cons_self
    obtain ⟨h1, h2, h3, h4⟩ := deathF_spec l (if n < 0 ∨ x.2 < n then x.2 else n) fun e he => h e (List.mem_cons_of_mem _ he)
    have hn : 0 ≤ (if n < 0 ∨ x.2 < n then x.2 else n) := by split <;> omega
    have h5 := h1 hn
    have hxn : (if n < 0 ∨ x.2 < n then x.2 else n) ≤ x.2 := by split <;> omega
    rw [deathF]
    refine ⟨fun g => ?_, fun e he => ?_, ?_, fun _ => h4 (.inr hn)⟩
    · have : (if n < 0 ∨ x.2 < n then x.2 else n) ≤ n := by split <;> omega
      omega
    · rcases List.mem_cons.1 he with g | g
      · rw [g]; omega
      · exact h2 e g
    · rcases h3 with g | ⟨e, he, g⟩
      · rw [g]
        split
        · exact .inr ⟨x, List.mem_cons_self, rfl⟩
        · exact .inl rfl
      · exact .inr ⟨e, List.mem_cons_of_mem _ he, g⟩
theorem deathM_none {l : List (Int × Int)} (v : VTm l) : deathM l = -1 ↔ l = [] := by
  constructor
  · intro h
    refine Classical.byContradiction fun c => ?_
    have := (deathF_spec l (-1) fun e he => (v.2.1 e he).2.1).2.2.2 (.inl c)
    unfold deathM at h; omega
  · intro h; rw [h]; rfl
theorem deathM_some {l : List (Int × Int)} (v : VTm l) (h : 0 ≤ deathM l) : (∃ e ∈ l, e.2 = deathM l) ∧ ∀ e ∈ l, deathM l ≤ e.2 := by
  obtain ⟨_, h2, h3, _⟩ := deathF_spec l (-1) fun e he => (v.2.1 e he).2.1
  refine ⟨?_, h2⟩
  rcases h3 with g | g
  · unfold deathM at h; omega
  · exact g
theorem eq2 {a b : Int × Int} : ((a.1 == b.1) && (a.2 == b.2)) = decide (a = b) := by
  by_cases h : a = b
  · rw [h]; simp
  · rw [decide_eq_false h]
    have : ¬ (a.1 = b.1 ∧ a.2 = b.2) := fun c => h (Prod.ext c.1 c.2)
    rw [Bool.and_eq_false_iff, beq_eq_false_iff_ne, beq_eq_false_iff_ne]
    by_cases g : a.1 = b.1
    · exact .inr fun c => this ⟨g, c⟩
    · exact .inl g
/-! ## Marks -/
def seqT (k : Int) : Nat → List (Int × Int)
  | 0 => []
  | n + 1 => seqT k n ++ [(k + 2 * (n : Int), k + 2 * (n : Int) + 1)]
theorem seqT_snoc (k : Int) (n : Nat) : seqT k (n + 1) = seqT k n ++ [(k + 2 * (n : Int), k + 2 * (n : Int) + 1)] := rfl
theorem seqT_len (k : Int) : ∀ n, (seqT k n).length = n
  | 0 => rfl
  | n + 1 => by rw [seqT_snoc, List.length_append, seqT_len k n]; rfl
theorem seqT_get {k : Int} : ∀ {n i : Nat}, i < n → ∀ {d : Int × Int}, (seqT k n).getD i d = (k + 2 * (i : Int), k + 2 * (i : Int) + 1)
  | n + 1, i, h, d => by
    rw [seqT_snoc, List.getD_eq_getElem?_getD]
    by_cases e : i < n
    · rw [List.getElem?_append_left (by rw [seqT_len]; exact e), ← List.getD_eq_getElem?_getD]; exact seqT_get e
    · have : i = n := by omega
      subst this
      rw [List.getElem?_append_right (by rw [seqT_len]; omega), seqT_len]; simp

-- laws.szIntS
def G_laws_szIntS (a0 : List Int) (left1 : Int) (k : Int → Prop) : Prop :=
  InR (left1 - (a0.length : Int)) ∧
  br (decide ((left1 - (a0.length : Int)) < 0))
  (k (-1))
  (k (left1 - (a0.length : Int)))
def S_laws_szIntS (a0 : List Int) (left1 : Int) (k : Int → Prop) : Prop := G_laws_szIntS a0 left1 k
def F_laws_szIntS (a : List Int) (left : Int) (k : Int → Prop) : Prop :=
  (a.length ≤ maxLen ∧ -1 ≤ left ∧ left ≤ 1048576) ∧ ∀ r : Int, -1 ≤ r → r ≤ 1048576 → (0 ≤ r → (a.length : Int) + r = left) → k r
theorem F_laws_szIntS_S {a : List Int} {left : Int} {k : Int → Prop} (h : F_laws_szIntS a left k) : S_laws_szIntS a left k := by
  obtain ⟨⟨h1, h2, h3⟩, hk⟩ := h
  have hm : maxLen = 9223372036854775807 := rfl
  exact ⟨inR (by omega) (by omega), br_dec.2 ⟨fun h => hk _ (by omega) (by omega) (by omega), fun h => hk _ (by omega) (by omega) (by omega)⟩⟩
-- laws.szBoolS
def G_laws_szBoolS (a0 : List Bool) (left1 : Int) (k : Int → Prop) : Prop :=
  InR (left1 - (a0.length : Int)) ∧
  br (decide ((left1 - (a0.length : Int)) < 0))
  (k (-1))
  (k (left1 - (a0.length : Int)))
def S_laws_szBoolS (a0 : List Bool) (left1 : Int) (k : Int → Prop) : Prop := G_laws_szBoolS a0 left1 k
def F_laws_szBoolS (a : List Bool) (left : Int) (k : Int → Prop) : Prop :=
  (a.length ≤ maxLen ∧ -1 ≤ left ∧ left ≤ 1048576) ∧ ∀ r : Int, -1 ≤ r → r ≤ 1048576 → (0 ≤ r → (a.length : Int) + r = left) → k r
theorem F_laws_szBoolS_S {a : List Bool} {left : Int} {k : Int → Prop} (h : F_laws_szBoolS a left k) : S_laws_szBoolS a left k := by
  obtain ⟨⟨h1, h2, h3⟩, hk⟩ := h
  have hm : maxLen = 9223372036854775807 := rfl
  exact ⟨inR (by omega) (by omega), br_dec.2 ⟨fun h => hk _ (by omega) (by omega) (by omega), fun h => hk _ (by omega) (by omega) (by omega)⟩⟩
-- laws.szClock
def G_laws_szClock (a0Room : Int) (a0Keys : List Int) (a0Used : List Bool) (a0Hand : Int) (left1 : Int) (k : Int → Prop) : Prop :=
  F_laws_szIntS a0Keys left1 fun szIntS8 =>
  br (decide (szIntS8 < 0))
  (k (-1))
  (F_laws_szBoolS a0Used szIntS8 fun szBoolS14 =>
    br (decide (szBoolS14 < 0))
    (k (-1))
    (k szBoolS14))
def S_laws_szClock (a0Room : Int) (a0Keys : List Int) (a0Used : List Bool) (a0Hand : Int) (left1 : Int) (k : Int → Prop) : Prop := G_laws_szClock a0Room a0Keys a0Used a0Hand left1 k
def F_laws_szClock (room : Int) (keys : List Int) (used : List Bool) (hand : Int) (left : Int) (k : Int → Prop) : Prop :=
  (keys.length ≤ maxLen ∧ used.length ≤ maxLen ∧ -1 ≤ left ∧ left ≤ 1048576) ∧ ∀ r : Int, -1 ≤ r → r ≤ 1048576 → (0 ≤ r → (keys.length : Int) + (used.length : Int) + r = left) → k r
theorem F_laws_szClock_S {room : Int} {keys : List Int} {used : List Bool} {hand : Int} {left : Int} {k : Int → Prop} (h : F_laws_szClock room keys used hand left k) : S_laws_szClock room keys used hand left k := by
  obtain ⟨⟨hKeys, hUsed, g1, g2⟩, hk⟩ := h
  exact ⟨⟨hKeys, by omega, by omega⟩, fun rKeys _ _ _ => br_dec.2 ⟨fun _ => hk (-1) (by omega) (by omega) (by omega), fun _ => ⟨⟨hUsed, by omega, by omega⟩, fun rUsed _ _ _ => br_dec.2 ⟨fun _ => hk (-1) (by omega) (by omega) (by omega), fun _ => hk _ (by omega) (by omega) (by omega)⟩⟩⟩⟩
-- laws.toIntS
def T0_laws_toIntS (a0 : List Int) (xi4 : Int) (xy7 : List Int) (k : List Int → Prop) (B0 : Int → List Int → Prop) : Prop :=
  br (decide (xi4 < (a0.length : Int)))
  ((0 ≤ xi4 ∧ xi4 < (a0.length : Int)) ∧
    (0 ≤ xi4 ∧ xi4 < (xy7.length : Int)) ∧
    InR (xi4 + 1) ∧
    B0 (xi4 + 1) (List.set xy7 (Int.toNat xi4) (List.getD a0 (Int.toNat xi4) (0 : Int))))
  (k xy7)
def L0_laws_toIntS (a0 : List Int) (k : List Int → Prop) : Nat → Int → List Int → Prop
  | 0, _, _ => False
  | n + 1, xi4, xy7 => T0_laws_toIntS a0 xi4 xy7 k (L0_laws_toIntS a0 k n)
def G_laws_toIntS (a0 : List Int) (I0 : List Int → Int → List Int → Prop) : Prop :=
  ((a0.length : Int) = (a0.length : Int) ∧ 0 ≤ (a0.length : Int) ∧ (a0.length : Int) ≤ 1000000000) ∧
  I0 a0 0 (List.replicate (Int.toNat (a0.length : Int)) (0 : Int))
def S_laws_toIntS (a0 : List Int) (k : List Int → Prop) : Prop := G_laws_toIntS a0 (fun a0 xi4 xy7 => ∃ j, L0_laws_toIntS a0 k j xi4 xy7)
def F_laws_toIntS (a : List Int) (k : List Int → Prop) : Prop := a.length ≤ 1000000000 ∧ k a
theorem F_laws_toIntS_S {a : List Int} {k : List Int → Prop} (h : F_laws_toIntS a k) : S_laws_toIntS a k := by
  obtain ⟨hl, hk⟩ := h
  have key : ∀ (r : List Int) (i : Nat) (out : List Int), a.drop i = r → out.length = a.length → out.take i = a.take i → L0_laws_toIntS a k (r.length + 1) (i : Int) out := by
    intro r
    induction r with
    | nil =>
      intro i out hd ho he
      have := drop_nil' hd
      rw [L0_laws_toIntS, T0_laws_toIntS]
      rw [List.take_of_length_le (by omega), List.take_of_length_le (by omega)] at he
      refine br_dec.2 ⟨fun h => by omega, fun _ => ?_⟩
      rw [he]; exact hk
    | cons x r ih =>
      intro i out hd ho he
      obtain ⟨h1, h2, _, h3, h4⟩ := drop_cons' hd
      rw [List.length_cons, L0_laws_toIntS, T0_laws_toIntS]
      simp only [br_dec, Int.toNat_natCast, h2]
      refine ⟨fun _ => ⟨⟨by omega, by omega⟩, ⟨by omega, by omega⟩, inR (by omega) (by omega), ih (i + 1) _ h3 (by simpa using ho) ?_⟩, fun h => by omega⟩
      rw [take_set_succ (by omega), h4, he]
  exact ⟨⟨rfl, by omega, by omega⟩, _, key a 0 _ rfl (by simp) (by simp)⟩
-- laws.toBoolS
def T0_laws_toBoolS (a0 : List Bool) (xi4 : Int) (xy7 : List Bool) (k : List Bool → Prop) (B0 : Int → List Bool → Prop) : Prop :=
  br (decide (xi4 < (a0.length : Int)))
  ((0 ≤ xi4 ∧ xi4 < (a0.length : Int)) ∧
    (0 ≤ xi4 ∧ xi4 < (xy7.length : Int)) ∧
    InR (xi4 + 1) ∧
    B0 (xi4 + 1) (List.set xy7 (Int.toNat xi4) (List.getD a0 (Int.toNat xi4) false)))
  (k xy7)
def L0_laws_toBoolS (a0 : List Bool) (k : List Bool → Prop) : Nat → Int → List Bool → Prop
  | 0, _, _ => False
  | n + 1, xi4, xy7 => T0_laws_toBoolS a0 xi4 xy7 k (L0_laws_toBoolS a0 k n)
def G_laws_toBoolS (a0 : List Bool) (I0 : List Bool → Int → List Bool → Prop) : Prop :=
  ((a0.length : Int) = (a0.length : Int) ∧ 0 ≤ (a0.length : Int) ∧ (a0.length : Int) ≤ 1000000000) ∧
  I0 a0 0 (List.replicate (Int.toNat (a0.length : Int)) false)
def S_laws_toBoolS (a0 : List Bool) (k : List Bool → Prop) : Prop := G_laws_toBoolS a0 (fun a0 xi4 xy7 => ∃ j, L0_laws_toBoolS a0 k j xi4 xy7)
def F_laws_toBoolS (a : List Bool) (k : List Bool → Prop) : Prop := a.length ≤ 1000000000 ∧ k a
theorem F_laws_toBoolS_S {a : List Bool} {k : List Bool → Prop} (h : F_laws_toBoolS a k) : S_laws_toBoolS a k := by
  obtain ⟨hl, hk⟩ := h
  have key : ∀ (r : List Bool) (i : Nat) (out : List Bool), a.drop i = r → out.length = a.length → out.take i = a.take i → L0_laws_toBoolS a k (r.length + 1) (i : Int) out := by
    intro r
    induction r with
    | nil =>
      intro i out hd ho he
      have := drop_nil' hd
      rw [L0_laws_toBoolS, T0_laws_toBoolS]
      rw [List.take_of_length_le (by omega), List.take_of_length_le (by omega)] at he
      refine br_dec.2 ⟨fun h => by omega, fun _ => ?_⟩
      rw [he]; exact hk
    | cons x r ih =>
      intro i out hd ho he
      obtain ⟨h1, h2, _, h3, h4⟩ := drop_cons' hd
      rw [List.length_cons, L0_laws_toBoolS, T0_laws_toBoolS]
      simp only [br_dec, Int.toNat_natCast, h2]
      refine ⟨fun _ => ⟨⟨by omega, by omega⟩, ⟨by omega, by omega⟩, inR (by omega) (by omega), ih (i + 1) _ h3 (by simpa using ho) ?_⟩, fun h => by omega⟩
      rw [take_set_succ (by omega), h4, he]
  exact ⟨⟨rfl, by omega, by omega⟩, _, key a 0 _ rfl (by simp) (by simp)⟩
-- laws.toClock
def G_laws_toClock (a0Room : Int) (a0Keys : List Int) (a0Used : List Bool) (a0Hand : Int) (k : Int → List Int → List Bool → Int → Prop) : Prop :=
  F_laws_toIntS a0Keys fun toIntS9 =>
  F_laws_toBoolS a0Used fun toBoolS13 =>
  k a0Room toIntS9 toBoolS13 a0Hand
def S_laws_toClock (a0Room : Int) (a0Keys : List Int) (a0Used : List Bool) (a0Hand : Int) (k : Int → List Int → List Bool → Int → Prop) : Prop := G_laws_toClock a0Room a0Keys a0Used a0Hand k
def F_laws_toClock (room : Int) (keys : List Int) (used : List Bool) (hand : Int) (k : Int → List Int → List Bool → Int → Prop) : Prop := (keys.length ≤ 1000000000 ∧ used.length ≤ 1000000000) ∧ k room keys used hand
theorem F_laws_toClock_S {room : Int} {keys : List Int} {used : List Bool} {hand : Int} {k : Int → List Int → List Bool → Int → Prop} (h : F_laws_toClock room keys used hand k) : S_laws_toClock room keys used hand k := ⟨h.1.1, ⟨h.1.2, h.2⟩⟩
-- spec.inRange
def G_spec_inRange (n0 : Int) (low1 : Int) (high2 : Int) (k : Bool → Prop) : Prop :=
  br (decide (low1 ≤ n0))
  (k (decide (n0 ≤ high2)))
  (k false)
def S_spec_inRange (n0 : Int) (low1 : Int) (high2 : Int) (k : Bool → Prop) : Prop := G_spec_inRange n0 low1 high2 k
def F_spec_inRange (n low high : Int) (k : Bool → Prop) : Prop := k (decide (low ≤ n ∧ n ≤ high))
theorem F_spec_inRange_S {n low high : Int} {k : Bool → Prop} (h : F_spec_inRange n low high k) : S_spec_inRange n low high k := by
  unfold F_spec_inRange at h
  simp only [S_spec_inRange, G_spec_inRange, br_dec]
  refine ⟨fun h1 => ?_, fun h1 => ?_⟩
  · simpa [h1] using h
  · simpa [h1] using h
-- spec.allIn
def T0_spec_allIn (high2 : Int) (list0 : List Int) (low1 : Int) (xi7 : Int) (k : Bool → Prop) (B0 : Int → Prop) : Prop :=
  br (decide (xi7 < (list0.length : Int)))
  ((0 ≤ xi7 ∧ xi7 < (list0.length : Int)) ∧
    F_spec_inRange (List.getD list0 (Int.toNat xi7) (0 : Int)) low1 high2 fun inRange20 =>
    br (!inRange20)
    (k false)
    (InR (xi7 + 1) ∧
      B0 (xi7 + 1)))
  (k true)
def L0_spec_allIn (high2 : Int) (list0 : List Int) (low1 : Int) (k : Bool → Prop) : Nat → Int → Prop
  | 0, _ => False
  | n + 1, xi7 => T0_spec_allIn high2 list0 low1 xi7 k (L0_spec_allIn high2 list0 low1 k n)
def G_spec_allIn (list0 : List Int) (low1 : Int) (high2 : Int) (I0 : Int → List Int → Int → Int → Prop) : Prop :=
  I0 high2 list0 low1 0
def S_spec_allIn (list0 : List Int) (low1 : Int) (high2 : Int) (k : Bool → Prop) : Prop := G_spec_allIn list0 low1 high2 (fun high2 list0 low1 xi7 => ∃ j, L0_spec_allIn high2 list0 low1 k j xi7)
def F_spec_allIn (l : List Int) (low high : Int) (k : Bool → Prop) : Prop := l.length ≤ 1000000000 ∧ k (decide (∀ x ∈ l, low ≤ x ∧ x ≤ high))
theorem F_spec_allIn_S {l : List Int} {low high : Int} {k : Bool → Prop} (h : F_spec_allIn l low high k) : S_spec_allIn l low high k := by
  obtain ⟨hl, hk⟩ := h
  have key : ∀ (r : List Int) (i : Nat), l.drop i = r → ((∀ x ∈ r, low ≤ x ∧ x ≤ high) ↔ (∀ x ∈ l, low ≤ x ∧ x ≤ high)) → L0_spec_allIn high l low k (r.length + 1) (i : Int) := by
    intro r
    induction r with
    | nil =>
      intro i hd he
      have := drop_nil' hd
      rw [L0_spec_allIn, T0_spec_allIn]
      simp only [br_dec]
      refine ⟨fun h => by omega, fun _ => ?_⟩
      rwa [decide_eq_true (he.1 (by simp))] at hk
    | cons x r ih =>
      intro i hd he
      obtain ⟨h1, h2, _, h3, _⟩ := drop_cons' hd
      rw [List.length_cons, L0_spec_allIn, T0_spec_allIn]
      simp only [br_dec, F_spec_inRange, br_not, Int.toNat_natCast, h2]
      refine ⟨fun _ => ⟨⟨by omega, by omega⟩, fun hx => ⟨inR (by omega) (by omega), ?_⟩, fun hx => ?_⟩, fun h => by omega⟩
      · refine ih (i + 1) h3 (Iff.trans ?_ he)
        simp only [List.mem_cons, forall_eq_or_imp]
        exact ⟨fun h => ⟨hx, h⟩, fun h => h.2⟩
      · rwa [decide_eq_false (fun h => hx (he.2 h x (by simp)))] at hk
  exact ⟨_, key l 0 rfl Iff.rfl⟩
-- spec.placeOf
def T0_spec_placeOf (list0 : List Int) (n1 : Int) (xi5 : Int) (k : Int → Prop) (B0 : Int → Prop) : Prop :=
  br (decide (xi5 < (list0.length : Int)))
  ((0 ≤ xi5 ∧ xi5 < (list0.length : Int)) ∧
    br ((List.getD list0 (Int.toNat xi5) (0 : Int)) == n1)
    (k xi5)
    (InR (xi5 + 1) ∧
      B0 (xi5 + 1)))
  (k (-1))
def L0_spec_placeOf (list0 : List Int) (n1 : Int) (k : Int → Prop) : Nat → Int → Prop
  | 0, _ => False
  | n + 1, xi5 => T0_spec_placeOf list0 n1 xi5 k (L0_spec_placeOf list0 n1 k n)
def G_spec_placeOf (list0 : List Int) (n1 : Int) (I0 : List Int → Int → Int → Prop) : Prop :=
  I0 list0 n1 0
def S_spec_placeOf (list0 : List Int) (n1 : Int) (k : Int → Prop) : Prop := G_spec_placeOf list0 n1 (fun list0 n1 xi5 => ∃ j, L0_spec_placeOf list0 n1 k j xi5)
def F_spec_placeOf (l : List Int) (n : Int) (k : Int → Prop) : Prop := l.length ≤ 1000000000 ∧ k (plc l n)
theorem F_spec_placeOf_S {l : List Int} {n : Int} {k : Int → Prop} (h : F_spec_placeOf l n k) : S_spec_placeOf l n k := by
  obtain ⟨hl, hk⟩ := h
  have key : ∀ (r : List Int) (i : Nat), l.drop i = r → plcF r n i = plc l n → L0_spec_placeOf l n k (r.length + 1) (i : Int) := by
    intro r
    induction r with
    | nil =>
      intro i hd he
      have := drop_nil' hd
      rw [L0_spec_placeOf, T0_spec_placeOf]
      simp only [br_dec]
      exact ⟨fun h => by omega, fun _ => by rw [show (-1 : Int) = plc l n from he]; exact hk⟩
    | cons x r ih =>
      intro i hd he
      obtain ⟨h1, h2, _, h3, _⟩ := drop_cons' hd
      rw [List.length_cons, L0_spec_placeOf, T0_spec_placeOf]
      simp only [br_dec, br_beq, Int.toNat_natCast, h2]
      refine ⟨fun _ => ⟨⟨by omega, by omega⟩, fun hx => ?_, fun hx => ⟨inR (by omega) (by omega), ?_⟩⟩, fun h => by omega⟩
      · simp only [plcF, if_pos hx] at he; rw [he]; exact hk
      · simp only [plcF, if_neg hx] at he; exact ih (i + 1) h3 he
  exact ⟨_, key l 0 rfl rfl⟩
-- spec.distinct
def T0_spec_distinct (list0 : List Int) (xi3 : Int) (k : Bool → Prop) (B0 : Int → Prop) : Prop :=
  br (decide (xi3 < (list0.length : Int)))
  ((0 ≤ xi3 ∧ xi3 < (list0.length : Int)) ∧
    F_spec_placeOf list0 (List.getD list0 (Int.toNat xi3) (0 : Int)) fun placeOf15 =>
    br (placeOf15 != xi3)
    (k false)
    (InR (xi3 + 1) ∧
      B0 (xi3 + 1)))
  (k true)
def L0_spec_distinct (list0 : List Int) (k : Bool → Prop) : Nat → Int → Prop
  | 0, _ => False
  | n + 1, xi3 => T0_spec_distinct list0 xi3 k (L0_spec_distinct list0 k n)
def G_spec_distinct (list0 : List Int) (I0 : List Int → Int → Prop) : Prop :=
  I0 list0 0
def S_spec_distinct (list0 : List Int) (k : Bool → Prop) : Prop := G_spec_distinct list0 (fun list0 xi3 => ∃ j, L0_spec_distinct list0 k j xi3)
def F_spec_distinct (l : List Int) (k : Bool → Prop) : Prop := l.length ≤ 1000000000 ∧ k (decide l.Nodup)
theorem F_spec_distinct_S {l : List Int} {k : Bool → Prop} (h : F_spec_distinct l k) : S_spec_distinct l k := by
  obtain ⟨hl, hk⟩ := h
  have key : ∀ (r : List Int) (i : Nat), l.drop i = r → (∀ q : Nat, q < i → plc l (l.getD q 0) = (q : Int)) → L0_spec_distinct l k (r.length + 1) (i : Int) := by
    intro r
    induction r with
    | nil =>
      intro i hd he
      have := drop_nil' hd
      rw [L0_spec_distinct, T0_spec_distinct]
      simp only [br_dec]
      refine ⟨fun h => by omega, fun _ => ?_⟩
      rwa [decide_eq_true (nodup_plc.1 fun q hq => he q (by omega))] at hk
    | cons x r ih =>
      intro i hd he
      obtain ⟨h1, h2, _, h3, _⟩ := drop_cons' hd
      rw [List.length_cons, L0_spec_distinct, T0_spec_distinct]
      simp only [br_dec, F_spec_placeOf, br_bne, Int.toNat_natCast]
      refine ⟨fun _ => ⟨⟨by omega, by omega⟩, hl, fun hx => ?_, fun hx => ⟨inR (by omega) (by omega), ?_⟩⟩, fun h => by omega⟩
      · rwa [decide_eq_false (fun h => hx (nodup_plc.2 h i h1))] at hk
      · refine ih (i + 1) h3 fun q hq => ?_
        by_cases e : q = i
        · subst e; exact hx
        · exact he q (by omega)
  exact ⟨_, key l 0 rfl (fun q hq => by omega)⟩
-- spec.validKeys
def G_spec_validKeys (list0 : List Int) (room1 : Int) (k : Bool → Prop) : Prop :=
  F_spec_inRange room1 (1 : Int) (8 : Int) fun inRange6 =>
  br inRange6
  (br (decide ((list0.length : Int) ≤ room1))
    (F_spec_allIn list0 (0 : Int) (31 : Int) fun allIn15 =>
      br allIn15
      (F_spec_distinct list0 fun distinct19 =>
        k distinct19)
      (k false))
    (k false))
  (k false)
def S_spec_validKeys (list0 : List Int) (room1 : Int) (k : Bool → Prop) : Prop := G_spec_validKeys list0 room1 k
def F_spec_validKeys (l : List Int) (room : Int) (k : Bool → Prop) : Prop := ∀ b : Bool, (b = true ↔ VKeys l room) → k b
theorem F_spec_validKeys_S {l : List Int} {room : Int} {k : Bool → Prop} (h : F_spec_validKeys l room k) : S_spec_validKeys l room k := by
  have hno : ¬ VKeys l room → k false := fun hv => h false (by simp [hv])
  show br (decide (1 ≤ room ∧ room ≤ 8)) _ _
  refine br_dec.2 ⟨fun h1 => br_dec.2 ⟨fun h3 => ?_, fun h3 => hno fun v => h3 v.2.2.1⟩, fun h1 => hno fun v => h1 ⟨v.1, v.2.1⟩⟩
  refine ⟨by omega, br_dec.2 ⟨fun h4 => ⟨by omega, h _ ?_⟩, fun h4 => hno fun v => h4 v.2.2.2.1⟩⟩
  simp only [decide_eq_true_eq]
  exact ⟨fun hn => ⟨h1.1, h1.2, h3, h4, hn⟩, fun v => v.2.2.2.2⟩
-- spec.validClock
def G_spec_validClock (c0Room : Int) (c0Keys : List Int) (c0Used : List Bool) (c0Hand : Int) (k : Bool → Prop) : Prop :=
  F_spec_inRange c0Room (1 : Int) (8 : Int) fun inRange9 =>
  br inRange9
  (F_spec_validKeys c0Keys c0Room fun validKeys15 =>
    br validKeys15
    (br ((c0Used.length : Int) == (c0Keys.length : Int))
      (InR ((c0Keys.length : Int) - 1) ∧
        F_spec_inRange c0Hand (0 : Int) (if 0 < ((c0Keys.length : Int) - 1) then ((c0Keys.length : Int) - 1) else 0) fun inRange30 =>
        br inRange30
        (br ((c0Keys.length : Int) == c0Room)
          (k true)
          (k (c0Hand == 0)))
        (k false))
      (k false))
    (k false))
  (k false)
def S_spec_validClock (c0Room : Int) (c0Keys : List Int) (c0Used : List Bool) (c0Hand : Int) (k : Bool → Prop) : Prop := G_spec_validClock c0Room c0Keys c0Used c0Hand k
def F_spec_validClock (room : Int) (keys : List Int) (used : List Bool) (hand : Int) (k : Bool → Prop) : Prop := ∀ b : Bool, (b = true ↔ VClock room keys used hand) → k b
theorem F_spec_validClock_S {room : Int} {keys : List Int} {used : List Bool} {hand : Int} {k : Bool → Prop} (h : F_spec_validClock room keys used hand k) : S_spec_validClock room keys used hand k := by
  have hno : ¬ VClock room keys used hand → k false := fun hv => h false (by simp [hv])
  show br (decide (1 ≤ room ∧ room ≤ 8)) _ _
  refine br_dec.2 ⟨fun h1 => ?_, fun h1 => hno fun v => h1 ⟨v.1.1, v.1.2.1⟩⟩
  intro b hb
  rw [br_iff]
  refine ⟨fun e => ?_, fun e => hno fun v => by rw [hb.2 v.1] at e; cases e⟩
  have hv := hb.1 e
  have hlen := hv.2.2.1
  refine br_beq.2 ⟨fun h3 => ⟨inR (by omega) (by omega), br_dec.2 ⟨fun h4 => br_beq.2 ⟨fun h6 => h true ?_, fun h6 => h _ ?_⟩, fun h4 => hno fun v => h4 ?_⟩⟩, fun h3 => hno fun v => h3 (by rw [v.2.1])⟩
  · simp only [true_iff]
    obtain ⟨h4, h5⟩ := h4
    refine ⟨hv, by omega, fun h => by omega, fun _ => ⟨h4, ?_⟩⟩
    split at h5 <;> omega
  · simp only [beq_iff_eq]
    exact ⟨fun e => ⟨hv, by omega, fun _ => e, fun h => absurd h h6⟩, fun v => v.2.2.1 (by omega)⟩
  · by_cases h6 : (keys.length : Int) = room
    · have := v.2.2.2 h6
      constructor
      · omega
      · split <;> omega
    · rw [v.2.2.1 (by omega)]
      constructor
      · omega
      · split <;> omega
-- spec.ValidClock
def G_spec_ValidClock (c0Room : Int) (c0Keys : List Int) (c0Used : List Bool) (c0Hand : Int) (k : Bool → Prop) : Prop :=
  F_spec_validClock c0Room c0Keys c0Used c0Hand fun validClock4 =>
  k validClock4
def S_spec_ValidClock (c0Room : Int) (c0Keys : List Int) (c0Used : List Bool) (c0Hand : Int) (k : Bool → Prop) : Prop := G_spec_ValidClock c0Room c0Keys c0Used c0Hand k
abbrev F_spec_ValidClock (c0Room : Int) (c0Keys : List Int) (c0Used : List Bool) (c0Hand : Int) (k : Bool → Prop) : Prop := S_spec_ValidClock c0Room c0Keys c0Used c0Hand k
theorem F_spec_ValidClock_S {c0Room : Int} {c0Keys : List Int} {c0Used : List Bool} {c0Hand : Int} {k : Bool → Prop} (h : F_spec_ValidClock c0Room c0Keys c0Used c0Hand k) : S_spec_ValidClock c0Room c0Keys c0Used c0Hand k := h
-- impl.validRoom
def G_impl_validRoom (room0 : Int) (k : Bool → Prop) : Prop :=
  br (decide (1 ≤ room0))
  (k (decide (room0 ≤ 8)))
  (k false)
def S_impl_validRoom (room0 : Int) (k : Bool → Prop) : Prop := G_impl_validRoom room0 k
def F_impl_validRoom (n : Int) (k : Bool → Prop) : Prop := k (decide (1 ≤ n ∧ n ≤ 8))
theorem F_impl_validRoom_S {n : Int} {k : Bool → Prop} (h : F_impl_validRoom n k) : S_impl_validRoom n k := by
  unfold F_impl_validRoom at h
  simp only [S_impl_validRoom, G_impl_validRoom, br_dec]
  refine ⟨fun h1 => ?_, fun h1 => ?_⟩
  · simpa [h1] using h
  · simpa [h1] using h
-- impl.validKey
def G_impl_validKey (key0 : Int) (k : Bool → Prop) : Prop :=
  br (decide (0 ≤ key0))
  (k (decide (key0 ≤ 31)))
  (k false)
def S_impl_validKey (key0 : Int) (k : Bool → Prop) : Prop := G_impl_validKey key0 k
def F_impl_validKey (n : Int) (k : Bool → Prop) : Prop := k (decide (0 ≤ n ∧ n ≤ 31))
theorem F_impl_validKey_S {n : Int} {k : Bool → Prop} (h : F_impl_validKey n k) : S_impl_validKey n k := by
  unfold F_impl_validKey at h
  simp only [S_impl_validKey, G_impl_validKey, br_dec]
  refine ⟨fun h1 => ?_, fun h1 => ?_⟩
  · simpa [h1] using h
  · simpa [h1] using h
-- slices.Index[[]int,int]
def T0_slices_Index_sint_int (s0 : List Int) (v1 : Int) (xt7 : Int) (xt8 : Int) (k : Int → Prop) (B0 : Int → Prop) : Prop :=
  br (decide (xt8 < xt7))
  ((0 ≤ xt8 ∧ xt8 < (s0.length : Int)) ∧
    br (v1 == (List.getD s0 (Int.toNat xt8) (0 : Int)))
    (k xt8)
    (InR (xt8 + 1) ∧
      B0 (xt8 + 1)))
  (k (-1))
def L0_slices_Index_sint_int (s0 : List Int) (v1 : Int) (xt7 : Int) (k : Int → Prop) : Nat → Int → Prop
  | 0, _ => False
  | n + 1, xt8 => T0_slices_Index_sint_int s0 v1 xt7 xt8 k (L0_slices_Index_sint_int s0 v1 xt7 k n)
def G_slices_Index_sint_int (s0 : List Int) (v1 : Int) (I0 : List Int → Int → Int → Int → Prop) : Prop :=
  I0 s0 v1 (s0.length : Int) 0
def S_slices_Index_sint_int (s0 : List Int) (v1 : Int) (k : Int → Prop) : Prop := G_slices_Index_sint_int s0 v1 (fun s0 v1 xt7 xt8 => ∃ j, L0_slices_Index_sint_int s0 v1 xt7 k j xt8)
def F_slices_Index_sint_int (l : List Int) (n : Int) (k : Int → Prop) : Prop := l.length ≤ 1000000000 ∧ k (plc l n)
theorem F_slices_Index_sint_int_S {l : List Int} {n : Int} {k : Int → Prop} (h : F_slices_Index_sint_int l n k) : S_slices_Index_sint_int l n k := by
  obtain ⟨hl, hk⟩ := h
  have key : ∀ (r : List Int) (i : Nat), l.drop i = r → plcF r n i = plc l n → L0_slices_Index_sint_int l n (l.length : Int) k (r.length + 1) (i : Int) := by
    intro r
    induction r with
    | nil =>
      intro i hd he
      have := drop_nil' hd
      rw [L0_slices_Index_sint_int, T0_slices_Index_sint_int]
      simp only [br_dec]
      exact ⟨fun h => by omega, fun _ => by rw [show (-1 : Int) = plc l n from he]; exact hk⟩
    | cons x r ih =>
      intro i hd he
      obtain ⟨h1, h2, _, h3, _⟩ := drop_cons' hd
      rw [List.length_cons, L0_slices_Index_sint_int, T0_slices_Index_sint_int]
      simp only [br_dec, br_beq, Int.toNat_natCast, h2]
      refine ⟨fun _ => ⟨⟨by omega, by omega⟩, fun hx => ?_, fun hx => ⟨inR (by omega) (by omega), ?_⟩⟩, fun h => by omega⟩
      · simp only [plcF, if_pos hx.symm] at he; rw [he]; exact hk
      · simp only [plcF, if_neg (Ne.symm hx)] at he; exact ih (i + 1) h3 he
  exact ⟨_, key l 0 rfl rfl⟩
-- slices.Contains[[]int,int]
def G_slices_Contains_sint_int (s0 : List Int) (v1 : Int) (k : Bool → Prop) : Prop :=
  F_slices_Index_sint_int s0 v1 fun index7 =>
  k (decide (index7 ≥ 0))
def S_slices_Contains_sint_int (s0 : List Int) (v1 : Int) (k : Bool → Prop) : Prop := G_slices_Contains_sint_int s0 v1 k
def F_slices_Contains_sint_int (l : List Int) (n : Int) (k : Bool → Prop) : Prop := l.length ≤ 1000000000 ∧ k (decide (n ∈ l))
theorem F_slices_Contains_sint_int_S {l : List Int} {n : Int} {k : Bool → Prop} (h : F_slices_Contains_sint_int l n k) : S_slices_Contains_sint_int l n k := by
  refine ⟨h.1, ?_⟩
  have : decide (plc l n ≥ 0) = decide (n ∈ l) := decide_eq_decide.2 plc_ge
  show k (decide (plc l n ≥ 0))
  rw [this]; exact h.2
-- impl.differentKeys
def T0_impl_differentKeys (list0 : List Int) (xt6 : Int) (xt7 : Int) (k : Bool → Prop) (B0 : Int → Prop) : Prop :=
  br (decide (xt7 < xt6))
  ((0 ≤ xt7 ∧ xt7 < (list0.length : Int)) ∧
    F_impl_validKey (List.getD list0 (Int.toNat xt7) (0 : Int)) fun validKey13 =>
    br (!validKey13)
    (k false)
    ((0 ≤ xt7 ∧ xt7 ≤ (list0.length : Int)) ∧
      F_slices_Contains_sint_int (List.take (Int.toNat xt7) list0) (List.getD list0 (Int.toNat xt7) (0 : Int)) fun contains20 =>
      br contains20
      (k false)
      (InR (xt7 + 1) ∧
        B0 (xt7 + 1))))
  (k true)
def L0_impl_differentKeys (list0 : List Int) (xt6 : Int) (k : Bool → Prop) : Nat → Int → Prop
  | 0, _ => False
  | n + 1, xt7 => T0_impl_differentKeys list0 xt6 xt7 k (L0_impl_differentKeys list0 xt6 k n)
def G_impl_differentKeys (list0 : List Int) (I0 : List Int → Int → Int → Prop) : Prop :=
  I0 list0 (list0.length : Int) 0
def S_impl_differentKeys (list0 : List Int) (k : Bool → Prop) : Prop := G_impl_differentKeys list0 (fun list0 xt6 xt7 => ∃ j, L0_impl_differentKeys list0 xt6 k j xt7)
def F_impl_differentKeys (l : List Int) (k : Bool → Prop) : Prop := l.length ≤ 1000000000 ∧ ∀ b : Bool, (b = true ↔ (∀ x ∈ l, 0 ≤ x ∧ x ≤ 31) ∧ l.Nodup) → k b
theorem F_impl_differentKeys_S {l : List Int} {k : Bool → Prop} (h : F_impl_differentKeys l k) : S_impl_differentKeys l k := by
  obtain ⟨hl, h⟩ := h
  have hno : ¬ ((∀ x ∈ l, 0 ≤ x ∧ x ≤ 31) ∧ l.Nodup) → k false := fun hv => h false (by simp only [Bool.false_eq_true, false_iff]; exact hv)
  have key : ∀ (r : List Int) (i : Nat), l.drop i = r → (∀ x ∈ l.take i, 0 ≤ x ∧ x ≤ 31) → (l.take i).Nodup → L0_impl_differentKeys l (l.length : Int) k (r.length + 1) (i : Int) := by
    intro r
    induction r with
    | nil =>
      intro i hd he hn
      have := drop_nil' hd
      rw [List.take_of_length_le this] at he hn
      rw [L0_impl_differentKeys, T0_impl_differentKeys]
      simp only [br_dec]
      exact ⟨fun h => by omega, fun _ => h true (by simp only [true_iff]; exact ⟨he, hn⟩)⟩
    | cons x r ih =>
      intro i hd he hn
      obtain ⟨h1, h2, h5, h3, h4⟩ := drop_cons' hd
      rw [List.length_cons, L0_impl_differentKeys, T0_impl_differentKeys]
      simp only [br_dec, F_impl_validKey, F_slices_Contains_sint_int, Int.toNat_natCast, h2, br_not]
      have hxl : x ∈ l := List.mem_of_getElem? h5
      refine ⟨fun _ => ⟨⟨by omega, by omega⟩, fun hx => ⟨⟨by omega, by omega⟩, by simp; omega, fun hc => ?_, fun hc => ⟨inR (by omega) (by omega), ?_⟩⟩, fun hx => hno fun v => hx (v.1 x hxl)⟩, fun h => by omega⟩
      · refine hno fun v => ?_
        have hn2 := v.2
        rw [← List.take_append_drop i l, hd] at hn2
        exact (List.nodup_append.1 hn2).2.2 x hc x (by simp) rfl
      · refine ih (i + 1) h3 ?_ ?_
        · rw [h4]; intro y hy
          rcases List.mem_append.1 hy with hy | hy
          · exact he y hy
          · simp at hy; subst hy; exact hx
        · rw [h4, List.nodup_append]
          refine ⟨hn, by simp, fun a ha b hb e => ?_⟩
          simp at hb; subst hb; subst e; exact hc ha
  exact ⟨_, key l 0 rfl (by simp) (by simp)⟩
-- impl.ValidKeys
def G_impl_ValidKeys (list0 : List Int) (room1 : Int) (k : Bool → Prop) : Prop :=
  F_impl_validRoom room1 fun validRoom6 =>
  br validRoom6
  (br (decide ((list0.length : Int) ≤ room1))
    (F_impl_differentKeys list0 fun differentKeys15 =>
      k differentKeys15)
    (k false))
  (k false)
def S_impl_ValidKeys (list0 : List Int) (room1 : Int) (k : Bool → Prop) : Prop := G_impl_ValidKeys list0 room1 k
def F_impl_ValidKeys (l : List Int) (room : Int) (k : Bool → Prop) : Prop := ∀ b : Bool, (b = true ↔ VKeys l room) → k b
theorem F_impl_ValidKeys_S {l : List Int} {room : Int} {k : Bool → Prop} (h : F_impl_ValidKeys l room k) : S_impl_ValidKeys l room k := by
  have hno : ¬ VKeys l room → k false := fun hv => h false (by simp [hv])
  refine br_dec.2 ⟨fun h1 => br_dec.2 ⟨fun h3 => ⟨by omega, fun b hb => h b ?_⟩, fun h3 => hno fun v => by have := v.2.2.1; omega⟩, fun h1 => hno fun v => h1 ⟨v.1, v.2.1⟩⟩
  rw [hb]
  exact ⟨fun g => ⟨h1.1, h1.2, h3, g.1, g.2⟩, fun v => v.2.2.2⟩
-- impl.ValidClock
def G_impl_ValidClock (c0Room : Int) (c0Keys : List Int) (c0Used : List Bool) (c0Hand : Int) (k : Bool → Prop) : Prop :=
  F_impl_ValidKeys c0Keys c0Room fun validKeys7 =>
  br (!validKeys7)
  (k false)
  (br ((c0Used.length : Int) != (c0Keys.length : Int))
    (k false)
    (br (decide ((c0Keys.length : Int) < c0Room))
      (k (c0Hand == 0))
      (br (decide (0 ≤ c0Hand))
        (k (decide (c0Hand < (c0Keys.length : Int))))
        (k false))))
def S_impl_ValidClock (c0Room : Int) (c0Keys : List Int) (c0Used : List Bool) (c0Hand : Int) (k : Bool → Prop) : Prop := G_impl_ValidClock c0Room c0Keys c0Used c0Hand k
def F_impl_ValidClock (room : Int) (keys : List Int) (used : List Bool) (hand : Int) (k : Bool → Prop) : Prop := ∀ b : Bool, (b = true ↔ VClock room keys used hand) → k b
theorem F_impl_ValidClock_S {room : Int} {keys : List Int} {used : List Bool} {hand : Int} {k : Bool → Prop} (h : F_impl_ValidClock room keys used hand k) : S_impl_ValidClock room keys used hand k := by
  have hno : ¬ VClock room keys used hand → k false := fun hv => h false (by simp [hv])
  simp only [S_impl_ValidClock, G_impl_ValidClock, F_impl_ValidKeys]
  intro b hb
  rw [br_not, br_iff]
  refine ⟨fun e => ?_, fun e => hno fun v => by rw [hb.2 v.1] at e; cases e⟩
  have hv := hb.1 e
  refine br_bne.2 ⟨fun h2 => hno fun v => h2 (by rw [v.2.1]), fun h2 => br_dec.2 ⟨fun h3 => h _ ?_, fun h3 => br_dec.2 ⟨fun h4 => h _ ?_, fun h4 => hno fun v => h4 ?_⟩⟩⟩
  · simp only [beq_iff_eq]
    exact ⟨fun e => ⟨hv, by omega, fun _ => e, fun h => by omega⟩, fun v => v.2.2.1 h3⟩
  · simp only [decide_eq_true_eq]
    have := hv.2.2.1
    exact ⟨fun e => ⟨hv, by omega, fun h => absurd h h3, fun _ => ⟨h4, e⟩⟩, fun v => (v.2.2.2 (by omega)).2⟩
  · have := hv.2.2.1
    exact (v.2.2.2 (by omega)).1
-- laws.eqIntS
def T0_laws_eqIntS (a0 : List Int) (b1 : List Int) (xi5 : Int) (k : Bool → Prop) (B0 : Int → Prop) : Prop :=
  br (decide (xi5 < (a0.length : Int)))
  ((0 ≤ xi5 ∧ xi5 < (a0.length : Int)) ∧
    (0 ≤ xi5 ∧ xi5 < (b1.length : Int)) ∧
    br ((List.getD a0 (Int.toNat xi5) (0 : Int)) != (List.getD b1 (Int.toNat xi5) (0 : Int)))
    (k false)
    (InR (xi5 + 1) ∧
      B0 (xi5 + 1)))
  (k true)
def L0_laws_eqIntS (a0 : List Int) (b1 : List Int) (k : Bool → Prop) : Nat → Int → Prop
  | 0, _ => False
  | n + 1, xi5 => T0_laws_eqIntS a0 b1 xi5 k (L0_laws_eqIntS a0 b1 k n)
def G_laws_eqIntS (a0 : List Int) (b1 : List Int) (k : Bool → Prop) (I0 : List Int → List Int → Int → Prop) : Prop :=
  br ((a0.length : Int) != (b1.length : Int))
  (k false)
  (I0 a0 b1 0)
def S_laws_eqIntS (a0 : List Int) (b1 : List Int) (k : Bool → Prop) : Prop := G_laws_eqIntS a0 b1 k (fun a0 b1 xi5 => ∃ j, L0_laws_eqIntS a0 b1 k j xi5)
def F_laws_eqIntS (a b : List Int) (k : Bool → Prop) : Prop := a.length ≤ 1000000000 ∧ k (decide (a = b))
theorem F_laws_eqIntS_S {a b : List Int} {k : Bool → Prop} (h : F_laws_eqIntS a b k) : S_laws_eqIntS a b k := by
  obtain ⟨hl, hk⟩ := h
  refine br_bne.2 ⟨fun he => by rwa [decide_eq_false (fun e => he (by rw [e]))] at hk, fun he => ?_⟩
  have he : a.length = b.length := by omega
  have key : ∀ (r : List Int) (i : Nat), a.drop i = r → (r = b.drop i ↔ a = b) → L0_laws_eqIntS a b k (r.length + 1) (i : Int) := by
    intro r
    induction r with
    | nil =>
      intro i hd hi
      have := drop_nil' hd
      rw [L0_laws_eqIntS, T0_laws_eqIntS]
      simp only [br_dec]
      exact ⟨fun h => by omega, fun _ => by rwa [decide_eq_true (hi.1 (List.drop_eq_nil_of_le (by omega)).symm)] at hk⟩
    | cons x r ih =>
      intro i hd hi
      obtain ⟨h1, h2, _, h3, _⟩ := drop_cons' hd
      obtain ⟨y, s, hs⟩ : ∃ y s, b.drop i = y :: s := by
        cases e : b.drop i with
        | nil => have := drop_nil' e; omega
        | cons y s => exact ⟨y, s, rfl⟩
      obtain ⟨g1, g2, _, g3, _⟩ := drop_cons' hs
      rw [List.length_cons, L0_laws_eqIntS, T0_laws_eqIntS]
      simp only [br_dec, br_bne, Int.toNat_natCast, h2, g2]
      rw [hs] at hi
      refine ⟨fun _ => ⟨⟨by omega, by omega⟩, ⟨by omega, by omega⟩, ?_⟩, fun h => by omega⟩
      have go : x = y → L0_laws_eqIntS a b k (r.length + 1) ((i : Int) + 1) := fun hx => ih (i + 1) h3 (by rw [g3, ← hi, hx]; simp)
      have no : x ≠ y → k false := fun hx => by rwa [decide_eq_false (fun e => hx (List.cons.inj (hi.2 e)).1)] at hk
      exact ⟨no, fun hx => ⟨inR (by omega) (by omega), go hx⟩⟩
  exact ⟨_, key a 0 rfl (by simp)⟩
-- laws.eqBoolS
def T0_laws_eqBoolS (a0 : List Bool) (b1 : List Bool) (xi5 : Int) (k : Bool → Prop) (B0 : Int → Prop) : Prop :=
  br (decide (xi5 < (a0.length : Int)))
  ((0 ≤ xi5 ∧ xi5 < (a0.length : Int)) ∧
    (0 ≤ xi5 ∧ xi5 < (b1.length : Int)) ∧
    br (!((List.getD a0 (Int.toNat xi5) false) == (List.getD b1 (Int.toNat xi5) false)))
    (k false)
    (InR (xi5 + 1) ∧
      B0 (xi5 + 1)))
  (k true)
def L0_laws_eqBoolS (a0 : List Bool) (b1 : List Bool) (k : Bool → Prop) : Nat → Int → Prop
  | 0, _ => False
  | n + 1, xi5 => T0_laws_eqBoolS a0 b1 xi5 k (L0_laws_eqBoolS a0 b1 k n)
def G_laws_eqBoolS (a0 : List Bool) (b1 : List Bool) (k : Bool → Prop) (I0 : List Bool → List Bool → Int → Prop) : Prop :=
  br ((a0.length : Int) != (b1.length : Int))
  (k false)
  (I0 a0 b1 0)
def S_laws_eqBoolS (a0 : List Bool) (b1 : List Bool) (k : Bool → Prop) : Prop := G_laws_eqBoolS a0 b1 k (fun a0 b1 xi5 => ∃ j, L0_laws_eqBoolS a0 b1 k j xi5)
def F_laws_eqBoolS (a b : List Bool) (k : Bool → Prop) : Prop := a.length ≤ 1000000000 ∧ k (decide (a = b))
theorem F_laws_eqBoolS_S {a b : List Bool} {k : Bool → Prop} (h : F_laws_eqBoolS a b k) : S_laws_eqBoolS a b k := by
  obtain ⟨hl, hk⟩ := h
  refine br_bne.2 ⟨fun he => by rwa [decide_eq_false (fun e => he (by rw [e]))] at hk, fun he => ?_⟩
  have he : a.length = b.length := by omega
  have key : ∀ (r : List Bool) (i : Nat), a.drop i = r → (r = b.drop i ↔ a = b) → L0_laws_eqBoolS a b k (r.length + 1) (i : Int) := by
    intro r
    induction r with
    | nil =>
      intro i hd hi
      have := drop_nil' hd
      rw [L0_laws_eqBoolS, T0_laws_eqBoolS]
      simp only [br_dec]
      exact ⟨fun h => by omega, fun _ => by rwa [decide_eq_true (hi.1 (List.drop_eq_nil_of_le (by omega)).symm)] at hk⟩
    | cons x r ih =>
      intro i hd hi
      obtain ⟨h1, h2, _, h3, _⟩ := drop_cons' hd
      obtain ⟨y, s, hs⟩ : ∃ y s, b.drop i = y :: s := by
        cases e : b.drop i with
        | nil => have := drop_nil' e; omega
        | cons y s => exact ⟨y, s, rfl⟩
      obtain ⟨g1, g2, _, g3, _⟩ := drop_cons' hs
      rw [List.length_cons, L0_laws_eqBoolS, T0_laws_eqBoolS]
      simp only [br_dec, br_not, br_bb, Int.toNat_natCast, h2, g2]
      rw [hs] at hi
      refine ⟨fun _ => ⟨⟨by omega, by omega⟩, ⟨by omega, by omega⟩, ?_⟩, fun h => by omega⟩
      have go : x = y → L0_laws_eqBoolS a b k (r.length + 1) ((i : Int) + 1) := fun hx => ih (i + 1) h3 (by rw [g3, ← hi, hx]; simp)
      have no : x ≠ y → k false := fun hx => by rwa [decide_eq_false (fun e => hx (List.cons.inj (hi.2 e)).1)] at hk
      exact ⟨fun hx => ⟨inR (by omega) (by omega), go hx⟩, no⟩
  exact ⟨_, key a 0 rfl (by simp)⟩
-- laws.eqClock
def G_laws_eqClock (a0Room : Int) (a0Keys : List Int) (a0Used : List Bool) (a0Hand : Int) (b1Room : Int) (b1Keys : List Int) (b1Used : List Bool) (b1Hand : Int) (k : Bool → Prop) : Prop :=
  br (a0Room != b1Room)
  (k false)
  (F_laws_eqIntS a0Keys b1Keys fun eqIntS14 =>
    br (!eqIntS14)
    (k false)
    (F_laws_eqBoolS a0Used b1Used fun eqBoolS20 =>
      br (!eqBoolS20)
      (k false)
      (br (a0Hand != b1Hand)
        (k false)
        (k true))))
def S_laws_eqClock (a0Room : Int) (a0Keys : List Int) (a0Used : List Bool) (a0Hand : Int) (b1Room : Int) (b1Keys : List Int) (b1Used : List Bool) (b1Hand : Int) (k : Bool → Prop) : Prop := G_laws_eqClock a0Room a0Keys a0Used a0Hand b1Room b1Keys b1Used b1Hand k
def F_laws_eqClock (room : Int) (keys : List Int) (used : List Bool) (hand : Int) (room' : Int) (keys' : List Int) (used' : List Bool) (hand' : Int) (k : Bool → Prop) : Prop := (keys.length ≤ 1000000000 ∧ used.length ≤ 1000000000) ∧ ∀ b : Bool, (b = true ↔ room = room' ∧ keys = keys' ∧ used = used' ∧ hand = hand') → k b
theorem F_laws_eqClock_S {room : Int} {keys : List Int} {used : List Bool} {hand : Int} {room' : Int} {keys' : List Int} {used' : List Bool} {hand' : Int} {k : Bool → Prop} (h : F_laws_eqClock room keys used hand room' keys' used' hand' k) : S_laws_eqClock room keys used hand room' keys' used' hand' k := by
  obtain ⟨⟨lKeys, lUsed⟩, hk⟩ := h
  exact br_bne.2 ⟨fun eRoom => hk false (by simp [eRoom]), fun eRoom => ⟨lKeys, br_not.2 (br_dec.2 ⟨fun eKeys => ⟨lUsed, br_not.2 (br_dec.2 ⟨fun eUsed => br_bne.2 ⟨fun eHand => hk false (by simp [eHand]), fun eHand => hk true (by simp [eRoom, eKeys, eUsed, eHand])⟩, fun eUsed => hk false (by simp [eUsed])⟩)⟩, fun eKeys => hk false (by simp [eKeys])⟩)⟩⟩
theorem eqClock_same {room : Int} {keys : List Int} {used : List Bool} {hand : Int} {k : Bool → Prop} (hl : keys.length ≤ 1000000000 ∧ used.length ≤ 1000000000) (h : k true) : F_laws_eqClock room keys used hand room keys used hand k := ⟨hl, all_t ⟨rfl, rfl, rfl, rfl⟩ h⟩
-- laws.FnExactValidClock
def G_laws_FnExactValidClock (aC0Room : Int) (aC0Keys : List Int) (aC0Used : List Bool) (aC0Hand : Int) (k : Bool → Prop) : Prop :=
  F_laws_szClock aC0Room aC0Keys aC0Used aC0Hand (1048576 : Int) fun szClock9 =>
  br (decide (szClock9 < 0))
  (k true)
  (F_laws_toClock aC0Room aC0Keys aC0Used aC0Hand fun toClock13Room toClock13Keys toClock13Used toClock13Hand =>
    F_spec_ValidClock toClock13Room toClock13Keys toClock13Used toClock13Hand fun validClock14 =>
    F_laws_toClock aC0Room aC0Keys aC0Used aC0Hand fun toClock16Room toClock16Keys toClock16Used toClock16Hand =>
    F_impl_ValidClock toClock16Room toClock16Keys toClock16Used toClock16Hand fun validClock18 =>
    br (!(validClock18 == validClock14))
    (k false)
    ((F_laws_toClock aC0Room aC0Keys aC0Used aC0Hand fun toClock24Room toClock24Keys toClock24Used toClock24Hand =>
        (F_laws_eqClock toClock16Room toClock16Keys toClock16Used toClock16Hand toClock24Room toClock24Keys toClock24Used toClock24Hand fun eqClock25 =>
          br (!eqClock25)
          (k false)
          (k true)) ∧
        (True)) ∧
      (True)))
def H_laws_FnExactValidClock (aC0Room : Int) (aC0Keys : List Int) (aC0Used : List Bool) (aC0Hand : Int) (k : Bool → Prop) : Prop :=
  F_laws_szClock aC0Room aC0Keys aC0Used aC0Hand (1048576 : Int) fun szClock9 =>
  br (decide (szClock9 < 0))
  (k true)
  (F_laws_toClock aC0Room aC0Keys aC0Used aC0Hand fun toClock13Room toClock13Keys toClock13Used toClock13Hand =>
    F_spec_ValidClock toClock13Room toClock13Keys toClock13Used toClock13Hand fun validClock14 =>
    F_laws_toClock aC0Room aC0Keys aC0Used aC0Hand fun toClock16Room toClock16Keys toClock16Used toClock16Hand =>
    F_impl_ValidClock toClock16Room toClock16Keys toClock16Used toClock16Hand fun validClock18 =>
    br (!(validClock18 == validClock14))
    (k false)
    (F_laws_toClock aC0Room aC0Keys aC0Used aC0Hand fun toClock24Room toClock24Keys toClock24Used toClock24Hand =>
      F_laws_eqClock toClock16Room toClock16Keys toClock16Used toClock16Hand toClock24Room toClock24Keys toClock24Used toClock24Hand fun eqClock25 =>
      br (!eqClock25)
      (k false)
      (k true)))
theorem G_laws_FnExactValidClock_eq (aC0Room : Int) (aC0Keys : List Int) (aC0Used : List Bool) (aC0Hand : Int) (k : Bool → Prop) : G_laws_FnExactValidClock aC0Room aC0Keys aC0Used aC0Hand k = H_laws_FnExactValidClock aC0Room aC0Keys aC0Used aC0Hand k := by
  simp only [G_laws_FnExactValidClock, H_laws_FnExactValidClock, and_self, and_true]
def S_laws_FnExactValidClock (aC0Room : Int) (aC0Keys : List Int) (aC0Used : List Bool) (aC0Hand : Int) (k : Bool → Prop) : Prop := H_laws_FnExactValidClock aC0Room aC0Keys aC0Used aC0Hand k
abbrev F_laws_FnExactValidClock (aC0Room : Int) (aC0Keys : List Int) (aC0Used : List Bool) (aC0Hand : Int) (k : Bool → Prop) : Prop := S_laws_FnExactValidClock aC0Room aC0Keys aC0Used aC0Hand k
theorem F_laws_FnExactValidClock_S {aC0Room : Int} {aC0Keys : List Int} {aC0Used : List Bool} {aC0Hand : Int} {k : Bool → Prop} (h : F_laws_FnExactValidClock aC0Room aC0Keys aC0Used aC0Hand k) : S_laws_FnExactValidClock aC0Room aC0Keys aC0Used aC0Hand k := h
theorem law_FnExactValidClock (cRoom : Int) (rcRoom : InR cRoom) (cKeys : List Int) (lcKeys : cKeys.length ≤ maxLen) (rcKeys : ∀ x ∈ cKeys, InR x) (cUsed : List Bool) (lcUsed : cUsed.length ≤ maxLen) (cHand : Int) (rcHand : InR cHand) :
    F_laws_FnExactValidClock cRoom cKeys cUsed cHand (fun r => r = true) := by
  refine ⟨⟨lcKeys, lcUsed, by omega, by omega⟩, fun z0 _ _ s0 => br_dec.2 ⟨fun _ => rfl, fun t0 => ?_⟩⟩
  have u0 := s0 (by omega)
  have mc : cKeys.length ≤ 1000000000 ∧ cUsed.length ≤ 1000000000 := ⟨by omega, by omega⟩
  exact ⟨mc, (fun b0 hb0 => ⟨mc, (fun b1 hb1 => pred_same hb1 hb0 (⟨mc, eqClock_same mc (br_nt (rfl))⟩))⟩)⟩
end Go.Ev
