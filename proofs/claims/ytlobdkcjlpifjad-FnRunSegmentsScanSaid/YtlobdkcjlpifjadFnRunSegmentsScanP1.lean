/- What the functions that the law reaches do, written as plain Lean. No statement is proved here. -/
import Derived.Test.YtlobdkcjlpifjadFnRunSegmentsScanP0
namespace Go.Ev
set_option linter.unusedVariables false
open Go
/-! ## Timed keys -/
theorem tm_eta (e : Int × Int) : (e.1, e.2) = e := rfl
def PTm (l : List (Int × Int)) : Prop := (∀ e ∈ l, (0 ≤ e.1 ∧ e.1 ≤ 31) ∧ 0 ≤ e.2 ∧ e.2 ≤ 1000) ∧ l.Pairwise fun a b => a.1 < b.1
def VTm (l : List (Int × Int)) : Prop := l.length ≤ 12 ∧ PTm l
theorem getT_mem {l : List (Int × Int)} {i : Nat} (h : i < l.length) : l.getD i ((0 : Int), (0 : Int)) ∈ l := by
  rw [List.getD_eq_getElem?_getD, List.getElem?_eq_getElem h]; exact List.getElem_mem h
theorem takeT {l : List (Int × Int)} {i : Nat} (h : i < l.length) : l.take (i + 1) = l.take i ++ [l.getD i ((0 : Int), (0 : Int))] := by
  rw [List.take_add_one, List.getD_eq_getElem?_getD, List.getElem?_eq_getElem h]; rfl
theorem PTm.lt {l : List (Int × Int)} (v : PTm l) {i j : Nat} (h : i < j) (hj : j < l.length) : (l.getD i ((0 : Int), (0 : Int))).1 < (l.getD j ((0 : Int), (0 : Int))).1 := by
  have := List.pairwise_iff_getElem.1 v.2 i j (by omega) hj h
  rw [List.getD_eq_getElem?_getD, List.getElem?_eq_getElem (by omega), List.getD_eq_getElem?_getD, List.getElem?_eq_getElem hj]
  exact this
theorem PTm.uniq {l : List (Int × Int)} (v : PTm l) {a b : Int × Int} (ha : a ∈ l) (hb : b ∈ l) (h : a.1 = b.1) : a = b := by
  obtain ⟨i, hi, ei⟩ := List.getElem_of_mem ha
  obtain ⟨j, hj, ej⟩ := List.getElem_of_mem hb
  rcases Nat.lt_trichotomy i j with c | c | c
  · have := List.pairwise_iff_getElem.1 v.2 i j hi hj c
    rw [ei, ej] at this; omega
  · subst c; rw [← ei, ← ej]
  · have := List.pairwise_iff_getElem.1 v.2 j i hj hi c
    rw [ei, ej] at this; omega
theorem PTm.snoc {u : List (Int × Int)} {x : Int × Int} (v : PTm u) (hx : (0 ≤ x.1 ∧ x.1 ≤ 31) ∧ 0 ≤ x.2 ∧ x.2 ≤ 1000) (h : u = [] ∨ (u.getD (u.length - 1) ((0 : Int), (0 : Int))).1 < x.1) : PTm (u ++ [x]) := by
  refine ⟨fun e he => ?_, List.pairwise_append.2 ⟨v.2, by simp, fun a ha b hb => ?_⟩⟩
  · rcases List.mem_append.1 he with g | g
    · exact v.1 e g
    · rw [List.mem_singleton.1 g]; exact hx
  · rw [List.mem_singleton.1 hb]
    rcases h with c | c
    · rw [c] at ha; simp at ha
    · obtain ⟨i, hi, ei⟩ := List.getElem_of_mem ha
      have e1 : u.getD i ((0 : Int), (0 : Int)) = a := by rw [List.getD_eq_getElem?_getD, List.getElem?_eq_getElem hi]; exact ei
      by_cases g : i = u.length - 1
      · rw [← e1, g]; exact c
      · have := v.lt (i := i) (j := u.length - 1) (by omega) (by omega)
        rw [e1] at this; omega
theorem PTm.filter {l : List (Int × Int)} (v : PTm l) (p : Int × Int → Bool) : PTm (l.filter p) := ⟨fun e he => v.1 e (List.mem_filter.1 he).1, v.2.filter p⟩
def putM (l : List (Int × Int)) (key until_ : Int) : List (Int × Int) := l.filter (fun e => decide (e.1 < key)) ++ (key, until_) :: l.filter (fun e => decide (key < e.1))
def PutOK (l : List (Int × Int)) (key until_ : Int) : Prop := VTm l ∧ (0 ≤ key ∧ key ≤ 31) ∧ (0 ≤ until_ ∧ until_ ≤ 1000) ∧ (putM l key until_).length ≤ 12
theorem PTm.put {l : List (Int × Int)} {key until_ : Int} (v : PTm l) (h1 : 0 ≤ key ∧ key ≤ 31) (h2 : 0 ≤ until_ ∧ until_ ≤ 1000) : PTm (putM l key until_) := by
  refine ⟨fun e he => ?_, List.pairwise_append.2 ⟨v.2.filter _, List.pairwise_cons.2 ⟨fun b hb => ?_, v.2.filter _⟩, fun a ha b hb => ?_⟩⟩
  · rcases List.mem_append.1 he with g | g
    · exact v.1 e (List.mem_filter.1 g).1
    · rcases List.mem_cons.1 g with g | g
      · rw [g]; exact ⟨h1, h2⟩
      · exact v.1 e (List.mem_filter.1 g).1
  · have := (List.mem_filter.1 hb).2
    exact of_decide_eq_true this
  · have h3 := of_decide_eq_true (List.mem_filter.1 ha).2
    rcases List.mem_cons.1 hb with g | g
    · rw [g]; exact h3
    · have h4 := of_decide_eq_true (List.mem_filter.1 g).2
      omega
theorem PutOK.valid {l : List (Int × Int)} {key until_ : Int} (h : PutOK l key until_) : VTm (putM l key until_) := ⟨h.2.2.2, h.1.2.put h.2.1 h.2.2.1⟩
theorem putM_mem {l : List (Int × Int)} {key until_ : Int} {e : Int × Int} : e ∈ putM l key until_ ↔ e = (key, until_) ∨ (e ∈ l ∧ e.1 ≠ key) := by
  unfold putM
  rw [List.mem_append, List.mem_cons, List.mem_filter, List.mem_filter, decide_eq_true_iff, decide_eq_true_iff]
  constructor
  · rintro (⟨h1, h2⟩ | h | ⟨h1, h2⟩)
    · exact .inr ⟨h1, by omega⟩
    · exact .inl h
    · exact .inr ⟨h1, by omega⟩
  · rintro (h | ⟨h1, h2⟩)
    · exact .inr (.inl h)
    · by_cases c : e.1 < key
      · exact .inl ⟨h1, c⟩
      · exact .inr (.inr ⟨h1, by omega⟩)
theorem filter_two {l : List (Int × Int)} {key : Int} : (l.filter (fun e => decide (e.1 < key))).length + (l.filter (fun e => decide (key < e.1))).length ≤ l.length := by
  induction l with
  | nil => simp
  | cons x l ih =>
    by_cases c : x.1 < key
    · rw [List.filter_cons_of_pos (by simpa using c), List.filter_cons_of_neg (by simp; omega)]
      simp only [List.length_cons]; omega
    · by_cases d : key < x.1
      · rw [List.filter_cons_of_neg (by simp; omega), List.filter_cons_of_pos (by simpa using d)]
        simp only [List.length_cons]; omega
      · rw [List.filter_cons_of_neg (by simp; omega), List.filter_cons_of_neg (by simp; omega)]
        simp only [List.length_cons]; omega
theorem putM_len (l : List (Int × Int)) (key until_ : Int) : (putM l key until_).length ≤ l.length + 1 := by
  have := @filter_two l key
  unfold putM
  rw [List.length_append, List.length_cons]; omega
theorem filter_all {l : List (Int × Int)} {p : Int × Int → Bool} (h : ∀ e ∈ l, p e = true) : l.filter p = l := List.filter_eq_self.2 h
theorem filter_none {l : List (Int × Int)} {p : Int × Int → Bool} (h : ∀ e ∈ l, p e = false) : l.filter p = [] := List.filter_eq_nil_iff.2 fun e he => by rw [h e he]; simp
theorem putM_low {l : List (Int × Int)} {a u b : Int} : (putM l a u).filter (fun e => decide (e.1 < b)) = if a < b then l.filter (fun e => decide (e.1 < a)) ++ (a, u) :: l.filter (fun e => decide (a < e.1 ∧ e.1 < b)) else l.filter (fun e => decide (e.1 < b)) := by
  unfold putM
  rw [List.filter_append, List.filter_filter]
  split
  · rename_i h
    rw [List.filter_cons_of_pos (by simpa using h), List.filter_filter]
    congr 1
    · exact List.filter_congr fun e _ => by simp only [← Bool.decide_and]; exact decide_eq_decide.2 ⟨fun g => g.2, fun g => ⟨by omega, g⟩⟩
    · congr 1
      exact List.filter_congr fun e _ => by simp only [← Bool.decide_and]; exact decide_eq_decide.2 ⟨fun g => ⟨g.2, g.1⟩, fun g => ⟨g.2, g.1⟩⟩
  · rename_i h
    rw [List.filter_cons_of_neg (by simpa using h), List.filter_filter]
    have : l.filter (fun e => decide (e.1 < b) && decide (a < e.1)) = [] := filter_none fun e _ => by simp only [← Bool.decide_and]; exact decide_eq_false (by omega)
    rw [this, List.append_nil]
    exact List.filter_congr fun e _ => by simp only [← Bool.decide_and]; exact decide_eq_decide.2 ⟨fun g => g.1, fun g => ⟨g, by omega⟩⟩
theorem putM_high {l : List (Int × Int)} {a u b : Int} : (putM l a u).filter (fun e => decide (b < e.1)) = if b < a then l.filter (fun e => decide (b < e.1 ∧ e.1 < a)) ++ (a, u) :: l.filter (fun e => decide (a < e.1)) else l.filter (fun e => decide (b < e.1)) := by
  unfold putM
  rw [List.filter_append, List.filter_filter]
  split
  · rename_i h
    rw [List.filter_cons_of_pos (by simpa using h), List.filter_filter]
    congr 1
    · exact List.filter_congr fun e _ => by simp only [← Bool.decide_and]
    · congr 1
      exact List.filter_congr fun e _ => by simp only [← Bool.decide_and]; exact decide_eq_decide.2 ⟨fun g => g.2, fun g => ⟨by omega, g⟩⟩
  · rename_i h
    rw [List.filter_cons_of_neg (by simpa using h), List.filter_filter]
    have : l.filter (fun e => decide (b < e.1) && decide (e.1 < a)) = [] := filter_none fun e _ => by simp only [← Bool.decide_and]; exact decide_eq_false (by omega)
    rw [this, List.nil_append]
    exact List.filter_congr fun e _ => by simp only [← Bool.decide_and]; exact decide_eq_decide.2 ⟨fun g => g.1, fun g => ⟨g, by omega⟩⟩
theorem putM_again (l : List (Int × Int)) (a u w : Int) : putM (putM l a u) a w = putM l a w := by
  rw [putM, putM_low, putM_high, if_neg (by omega), if_neg (by omega)]; rfl
theorem putM_swap {l : List (Int × Int)} {a u b w : Int} (h : a < b) : putM (putM l a u) b w = putM (putM l b w) a u := by
  rw [putM, putM_low, putM_high, if_pos h, if_neg (by omega), putM, putM_low, putM_high, if_neg (by omega), if_pos h]
  simp
theorem putM_comm {l : List (Int × Int)} {a u b w : Int} (h : a ≠ b) : putM (putM l a u) b w = putM (putM l b w) a u := by
  by_cases c : a < b
  · exact putM_swap c
  · exact (putM_swap (by omega)).symm
def aliveM (l : List (Int × Int)) (key now : Int) : Prop := ∃ e ∈ l, e.1 = key ∧ now ≤ e.2
def dropM (l : List (Int × Int)) (now : Int) : List (Int × Int) := l.filter fun e => decide (now ≤ e.2)
theorem dropM_len (l : List (Int × Int)) (now : Int) : (dropM l now).length ≤ l.length := List.length_filter_le _ _
theorem VTm.drop {l : List (Int × Int)} (v : VTm l) (now : Int) : VTm (dropM l now) := ⟨Nat.le_trans (dropM_len l now) v.1, v.2.filter _⟩
theorem dropM_snoc {l : List (Int × Int)} {e : Int × Int} {now : Int} : dropM (l ++ [e]) now = if now ≤ e.2 then dropM l now ++ [e] else dropM l now := by
  unfold dropM
  rw [List.filter_append]
  split
  · rename_i h; rw [List.filter_cons_of_pos (by simpa using h)]; rfl
  · rename_i h; rw [List.filter_cons_of_neg (by simpa using h)]; simp
def deathF : List (Int × Int) → Int → Int
  | [], n => n
  | e :: r, n => deathF r (if n < 0 ∨ e.2 < n then e.2 else n)
def deathM (l : List (Int × Int)) : Int := deathF l (-1)
theorem deathF_snoc : ∀ (l : List (Int × Int)) (e : Int × Int) (n : Int), deathF (l ++ [e]) n = if deathF l n < 0 ∨ e.2 < deathF l n then e.2 else deathF l n
  | [], _, _ => rfl
  | _ :: l, e, _ => deathF_snoc l e _
theorem deathF_spec : ∀ (l : List (Int × Int)) (n : Int), (∀ e ∈ l, 0 ≤ e.2) → (0 ≤ n → deathF l n ≤ n) ∧ (∀ e ∈ l, deathF l n ≤ e.2) ∧ (deathF l n = n ∨ ∃ e ∈ l, e.2 = deathF l n) ∧ (l ≠ [] ∨ 0 ≤ n → 0 ≤ deathF l n)
  | [], n, _ => ⟨fun _ => Int.le_refl _, by simp, .inl rfl, fun h => by rcases h with h | h; exact absurd rfl h; exact h⟩
  | x :: l, n, h => by
    have hx := h x List.mem_cons_self
    obtain ⟨h1, h2, h3, h4⟩ := deathF_spec l (if n < 0 ∨ x.2 < n then x.2 else n) fun e he => h e (List.mem_cons_of_mem _ he)
    have hn : 0 ≤ (if n < 0 ∨ x.2 < n then x.2 else n) := by split <;> omega
    have h5 := h1 hn
    have hxn : (if n < 0 ∨ x.2 < n then x.2 else n) ≤ x.2 := by split <;> omega
    rw [deathF]
    refine ⟨fun g => ?_, fun e he => ?_, ?_, fun _ => h4 (.inr hn)⟩
    · have : (if n < 0 ∨ x.2 < n then x.2 else n) ≤ n := by split <;> omega
      omega
    · rcases List.mem_cons.1 he with g | g
      · rw [g]; omega
      · exact h2 e g
    · rcases h3 with g | ⟨e, he, g⟩
      · rw [g]
        split
        · exact .inr ⟨x, List.mem_cons_self, rfl⟩
        · exact .inl rfl
      · exact .inr ⟨e, List.mem_cons_of_mem _ he, g⟩
theorem deathM_none {l : List (Int × Int)} (v : VTm l) : deathM l = -1 ↔ l = [] := by
  constructor
  · intro h
    refine Classical.byContradiction fun c => ?_
    have := (deathF_spec l (-1) fun e he => (v.2.1 e he).2.1).2.2.2 (.inl c)
    unfold deathM at h; omega
  · intro h; rw [h]; rfl
theorem deathM_some {l : List (Int × Int)} (v : VTm l) (h : 0 ≤ deathM l) : (∃ e ∈ l, e.2 = deathM l) ∧ ∀ e ∈ l, deathM l ≤ e.2 := by
  obtain ⟨_, h2, h3, _⟩ := deathF_spec l (-1) fun e he => (v.2.1 e he).2.1
  refine ⟨?_, h2⟩
  rcases h3 with g | g
  · unfold deathM at h; omega
  · exact g
theorem eq2 {a b : Int × Int} : ((a.1 == b.1) && (a.2 == b.2)) = decide (a = b) := by
  by_cases h : a = b
  · rw [h]; simp
  · rw [decide_eq_false h]
    have : ¬ (a.1 = b.1 ∧ a.2 = b.2) := fun c => h (Prod.ext c.1 c.2)
    rw [Bool.and_eq_false_iff, beq_eq_false_iff_ne, beq_eq_false_iff_ne]
    by_cases g : a.1 = b.1
    · exact .inr fun c => this ⟨g, c⟩
    · exact .inl g
/-! ## Marks -/
def seqT (k : Int) : Nat → List (Int × Int)
  | 0 => []
  | n + 1 => seqT k n ++ [(k + 2 * (n : Int), k + 2 * (n : Int) + 1)]
theorem seqT_snoc (k : Int) (n : Nat) : seqT k (n + 1) = seqT k n ++ [(k + 2 * (n : Int), k + 2 * (n : Int) + 1)] := rfl
theorem seqT_len (k : Int) : ∀ n, (seqT k n).length = n
  | 0 => rfl
  | n + 1 => by rw [seqT_snoc, List.length_append, seqT_len k n]; rfl
theorem seqT_get {k : Int} : ∀ {n i : Nat}, i < n → ∀ {d : Int × Int}, (seqT k n).getD i d = (k + 2 * (i : Int), k + 2 * (i : Int) + 1)
  | n + 1, i, h, d => by
    rw [seqT_snoc, List.getD_eq_getElem?_getD]
    by_cases e : i < n
    · rw [List.getElem?_append_left (by rw [seqT_len]; exact e), ← List.getD_eq_getElem?_getD]; exact seqT_get e
    · have : i = n := by omega
      subst this
      rw [List.getElem?_append_right (by rw [seqT_len]; omega), seqT_len]; simp

-- spec.newReader
def G_spec_newReader (code0 : List Int) (k : List Int → Int → Prop) : Prop :=
  br (decide ((code0.length : Int) > 2000))
  ((0 ≤ (2000 : Int) ∧ 2000 ≤ (code0.length : Int)) ∧
    k (List.take 2000 code0) 0)
  (k code0 0)
def S_spec_newReader (code0 : List Int) (k : List Int → Int → Prop) : Prop := G_spec_newReader code0 k
def F_spec_newReader (code : List Int) (k : List Int → Int → Prop) : Prop := (∀ x ∈ code, 0 ≤ x ∧ x ≤ 255) ∧ ∀ b, Bs b → k b 0
theorem F_spec_newReader_S {code : List Int} {k : List Int → Int → Prop} (h : F_spec_newReader code k) : S_spec_newReader code k := by
  obtain ⟨hb, hk⟩ := h
  simp only [S_spec_newReader, G_spec_newReader, br_dec]
  refine ⟨fun h1 => ⟨⟨by omega, by omega⟩, hk _ ⟨by simp; omega, fun x hx => hb x (List.mem_of_mem_take hx)⟩⟩, fun h1 => hk _ ⟨by omega, hb⟩⟩
-- (*spec.reader).pick
def G_spec_reader_pick (r0b : List Int) (r0p : Int) (n1 : Int) (k : Int → List Int → Int → Prop) : Prop :=
  InR (r0p + 1) ∧
  br (decide (n1 < 1))
  (k 0 r0b (r0p + 1))
  (br ((r0b.length : Int) == 0)
    (k 0 r0b (r0p + 1))
    (InR ((r0p + 1) - 1) ∧
      br (decide (((r0p + 1) - 1) < (r0b.length : Int)))
      ((0 ≤ ((r0p + 1) - 1) ∧ ((r0p + 1) - 1) < (r0b.length : Int)) ∧
        InR (List.getD r0b (Int.toNat ((r0p + 1) - 1)) (0 : Int)) ∧
        (n1 ≠ 0) ∧
        k (Int.tmod (List.getD r0b (Int.toNat ((r0p + 1) - 1)) (0 : Int)) n1) r0b (r0p + 1))
      (((r0b.length : Int) ≠ 0) ∧
        (0 ≤ (Int.tmod ((r0p + 1) - 1) (r0b.length : Int)) ∧ (Int.tmod ((r0p + 1) - 1) (r0b.length : Int)) < (r0b.length : Int)) ∧
        InR (List.getD r0b (Int.toNat (Int.tmod ((r0p + 1) - 1) (r0b.length : Int))) (0 : Int)) ∧
        InR ((List.getD r0b (Int.toNat (Int.tmod ((r0p + 1) - 1) (r0b.length : Int))) (0 : Int)) * 131) ∧
        InR (((r0p + 1) - 1) * 7) ∧
        InR ((((r0p + 1) - 1) * 7) + 3) ∧
        ((r0b.length : Int) ≠ 0) ∧
        (0 ≤ (Int.tmod ((((r0p + 1) - 1) * 7) + 3) (r0b.length : Int)) ∧ (Int.tmod ((((r0p + 1) - 1) * 7) + 3) (r0b.length : Int)) < (r0b.length : Int)) ∧
        InR (List.getD r0b (Int.toNat (Int.tmod ((((r0p + 1) - 1) * 7) + 3) (r0b.length : Int))) (0 : Int)) ∧
        InR ((List.getD r0b (Int.toNat (Int.tmod ((((r0p + 1) - 1) * 7) + 3) (r0b.length : Int))) (0 : Int)) * 1117) ∧
        InR (((List.getD r0b (Int.toNat (Int.tmod ((r0p + 1) - 1) (r0b.length : Int))) (0 : Int)) * 131) + ((List.getD r0b (Int.toNat (Int.tmod ((((r0p + 1) - 1) * 7) + 3) (r0b.length : Int))) (0 : Int)) * 1117)) ∧
        InR (((r0p + 1) - 1) * 29) ∧
        InR ((((List.getD r0b (Int.toNat (Int.tmod ((r0p + 1) - 1) (r0b.length : Int))) (0 : Int)) * 131) + ((List.getD r0b (Int.toNat (Int.tmod ((((r0p + 1) - 1) * 7) + 3) (r0b.length : Int))) (0 : Int)) * 1117)) + (((r0p + 1) - 1) * 29)) ∧
        ((r0b.length : Int) ≠ 0 ∧ InR (Int.tdiv ((r0p + 1) - 1) (r0b.length : Int))) ∧
        InR ((Int.tdiv ((r0p + 1) - 1) (r0b.length : Int)) * 53) ∧
        InR (((((List.getD r0b (Int.toNat (Int.tmod ((r0p + 1) - 1) (r0b.length : Int))) (0 : Int)) * 131) + ((List.getD r0b (Int.toNat (Int.tmod ((((r0p + 1) - 1) * 7) + 3) (r0b.length : Int))) (0 : Int)) * 1117)) + (((r0p + 1) - 1) * 29)) + ((Int.tdiv ((r0p + 1) - 1) (r0b.length : Int)) * 53)) ∧
        ((64 : Int) ≠ 0 ∧ InR (Int.tdiv (((((List.getD r0b (Int.toNat (Int.tmod ((r0p + 1) - 1) (r0b.length : Int))) (0 : Int)) * 131) + ((List.getD r0b (Int.toNat (Int.tmod ((((r0p + 1) - 1) * 7) + 3) (r0b.length : Int))) (0 : Int)) * 1117)) + (((r0p + 1) - 1) * 29)) + ((Int.tdiv ((r0p + 1) - 1) (r0b.length : Int)) * 53)) 64)) ∧
        (n1 ≠ 0) ∧
        k (Int.tmod (IntKind.i64.wrap ((BitVec.ofInt 64 (((((List.getD r0b (Int.toNat (Int.tmod ((r0p + 1) - 1) (r0b.length : Int))) (0 : Int)) * 131) + ((List.getD r0b (Int.toNat (Int.tmod ((((r0p + 1) - 1) * 7) + 3) (r0b.length : Int))) (0 : Int)) * 1117)) + (((r0p + 1) - 1) * 29)) + ((Int.tdiv ((r0p + 1) - 1) (r0b.length : Int)) * 53)) ^^^ BitVec.ofInt 64 (Int.tdiv (((((List.getD r0b (Int.toNat (Int.tmod ((r0p + 1) - 1) (r0b.length : Int))) (0 : Int)) * 131) + ((List.getD r0b (Int.toNat (Int.tmod ((((r0p + 1) - 1) * 7) + 3) (r0b.length : Int))) (0 : Int)) * 1117)) + (((r0p + 1) - 1) * 29)) + ((Int.tdiv ((r0p + 1) - 1) (r0b.length : Int)) * 53)) 64)).toNat : Int)) n1) r0b (r0p + 1))))
def S_spec_reader_pick (r0b : List Int) (r0p : Int) (n1 : Int) (k : Int → List Int → Int → Prop) : Prop := G_spec_reader_pick r0b r0p n1 k
def F_spec_reader_pick (b : List Int) (p n : Int) (k : Int → List Int → Int → Prop) : Prop := (Bs b ∧ 0 ≤ p ∧ p ≤ 1000000000) ∧ ∀ x, Pk n x → k x b (p + 1)
theorem F_spec_reader_pick_S {b : List Int} {p n : Int} {k : Int → List Int → Int → Prop} (h : F_spec_reader_pick b p n k) : S_spec_reader_pick b p n k := by
  obtain ⟨⟨hb, h0, h1⟩, hk⟩ := h
  simp only [S_spec_reader_pick, G_spec_reader_pick, br_dec, br_beq]
  refine ⟨inR (by omega) (by omega), fun h2 => hk 0 (.inl ⟨h2, rfl⟩), fun h2 => ⟨fun h3 => hk 0 (.inr ⟨by omega, by omega⟩), fun h3 => ⟨inR (by omega) (by omega), ?_⟩⟩⟩
  have hlen := hb.1
  rw [show p + 1 - 1 = p by omega]
  refine ⟨fun h4 => ⟨⟨by omega, by omega⟩, ?_⟩, fun h4 => ?_⟩
  · have := hb.get (Int.toNat p)
    exact ⟨inR (by omega) (by omega), by omega, hk _ (.inr ⟨Int.tmod_nonneg _ this.1, Int.tmod_lt_of_pos _ (by omega)⟩)⟩
  · have hl : (0 : Int) < b.length := by omega
    have a1 := Int.tmod_nonneg (b.length : Int) h0
    have a2 := Int.tmod_lt_of_pos p hl
    have a3 := Int.tmod_nonneg (b.length : Int) (show (0 : Int) ≤ p * 7 + 3 by omega)
    have a4 := Int.tmod_lt_of_pos (p * 7 + 3) hl
    have a5 := hb.get (Int.toNat (Int.tmod p b.length))
    have a6 := hb.get (Int.toNat (Int.tmod (p * 7 + 3) b.length))
    have a7 : 0 ≤ Int.tdiv p b.length := Int.tdiv_nonneg h0 (by omega)
    have a8 : Int.tdiv p b.length ≤ p := Int.tdiv_le_self _ h0
    generalize List.getD b (Int.toNat (Int.tmod p b.length)) 0 = x at *
    generalize List.getD b (Int.toNat (Int.tmod (p * 7 + 3) b.length)) 0 = y at *
    generalize Int.tdiv p b.length = z at *
    have hsum : 0 ≤ x * 131 + y * 1117 + p * 29 + z * 53 ∧ x * 131 + y * 1117 + p * 29 + z * 53 ≤ 90000000000 := by omega
    have a9 : 0 ≤ Int.tdiv (x * 131 + y * 1117 + p * 29 + z * 53) 64 := Int.tdiv_nonneg hsum.1 (by omega)
    have a10 : Int.tdiv (x * 131 + y * 1117 + p * 29 + z * 53) 64 ≤ x * 131 + y * 1117 + p * 29 + z * 53 := Int.tdiv_le_self _ hsum.1
    refine ⟨by omega, ⟨by omega, by omega⟩, inR (by omega) (by omega), inR (by omega) (by omega), inR (by omega) (by omega), inR (by omega) (by omega), by omega, ⟨by omega, by omega⟩, inR (by omega) (by omega), inR (by omega) (by omega), inR (by omega) (by omega), inR (by omega) (by omega), inR (by omega) (by omega),
      ⟨by omega, inR (by omega) (by omega)⟩, inR (by omega) (by omega), inR (by omega) (by omega), ⟨by omega, inR (by omega) (by omega)⟩, by omega, hk _ (.inr ⟨?_, Int.tmod_lt_of_pos _ (by omega)⟩)⟩
    exact Int.tmod_nonneg _ (xor_nn _ _ hsum.1 (by omega) a9 (by omega))
-- (*spec.reader).one
def G_spec_reader_one (r0b : List Int) (r0p : Int) (list1 : List Int) (k : Int → List Int → Int → Prop) : Prop :=
  F_spec_reader_pick r0b r0p (list1.length : Int) fun pick9 opick9b opick9p =>
  (0 ≤ pick9 ∧ pick9 < (list1.length : Int)) ∧
  k (List.getD list1 (Int.toNat pick9) (0 : Int)) opick9b opick9p
def S_spec_reader_one (r0b : List Int) (r0p : Int) (list1 : List Int) (k : Int → List Int → Int → Prop) : Prop := G_spec_reader_one r0b r0p list1 k
def F_spec_reader_one (b : List Int) (p : Int) (l : List Int) (k : Int → List Int → Int → Prop) : Prop := (Bs b ∧ 0 ≤ p ∧ p ≤ 1000000000 ∧ 0 < l.length) ∧ ∀ x ∈ l, k x b (p + 1)
theorem F_spec_reader_one_S {b : List Int} {p : Int} {l : List Int} {k : Int → List Int → Int → Prop} (h : F_spec_reader_one b p l k) : S_spec_reader_one b p l k := by
  obtain ⟨⟨hb, h0, h1, h2⟩, hk⟩ := h
  refine ⟨⟨hb, h0, h1⟩, fun x hx => ?_⟩
  rcases hx with ⟨h3, _⟩ | ⟨h3, h4⟩
  · omega
  · have hlt : x.toNat < l.length := by omega
    have hx : l[x.toNat]? = some (l.getD x.toNat 0) := by simp [List.getD, hlt]
    exact ⟨⟨h3, h4⟩, hk _ (List.mem_of_getElem? hx)⟩
-- spec.copyInts
def G_spec_copyInts (list0 : List Int) (k : List Int → Prop) : Prop :=
  (0 + list0.length ≤ 1000000000) ∧
  k list0
def S_spec_copyInts (list0 : List Int) (k : List Int → Prop) : Prop := G_spec_copyInts list0 k
def F_spec_copyInts (l : List Int) (k : List Int → Prop) : Prop := l.length ≤ 1000000000 ∧ k l
theorem F_spec_copyInts_S {l : List Int} {k : List Int → Prop} (h : F_spec_copyInts l k) : S_spec_copyInts l k := ⟨by have := h.1; omega, h.2⟩
-- (*spec.reader).spoil
def G_spec_reader_spoil (r0b : List Int) (r0p : Int) (list1 : List Int) (n2 : Int) (k : List Int → List Int → Int → Prop) : Prop :=
  F_spec_copyInts list1 fun copyInts9 =>
  F_spec_reader_pick r0b r0p (20 : Int) fun pick11 opick11b opick11p =>
  br (pick11 == 0)
  ((copyInts9.length + 1 ≤ 1000000000) ∧
    k (copyInts9 ++ ([n2] : List Int)) opick11b opick11p)
  (br (pick11 == 1)
    (br (decide ((copyInts9.length : Int) > 0))
      ((0 ≤ (1 : Int) ∧ 1 ≤ (copyInts9.length : Int)) ∧
        k (List.take (copyInts9.length - 1) (List.drop 1 copyInts9)) opick11b opick11p)
      (k copyInts9 opick11b opick11p))
    (br (pick11 == 2)
      (br (decide ((copyInts9.length : Int) > 0))
        (F_spec_reader_pick opick11b opick11p (copyInts9.length : Int) fun pick34 opick34b opick34p =>
          F_spec_reader_one opick34b opick34p ([(-1), n2, 0, 1] : List Int) fun one38 oone38b oone38p =>
          (0 ≤ pick34 ∧ pick34 < (copyInts9.length : Int)) ∧
          k (List.set copyInts9 (Int.toNat pick34) one38) oone38b oone38p)
        (k copyInts9 opick11b opick11p))
      (k copyInts9 opick11b opick11p)))
def S_spec_reader_spoil (r0b : List Int) (r0p : Int) (list1 : List Int) (n2 : Int) (k : List Int → List Int → Int → Prop) : Prop := G_spec_reader_spoil r0b r0p list1 n2 k
def F_spec_reader_spoil (b : List Int) (p : Int) (l : List Int) (n : Int) (k : List Int → List Int → Int → Prop) : Prop :=
  (Bs b ∧ 0 ≤ p ∧ p ≤ 100000000 ∧ l.length ≤ 100000000) ∧ ∀ r p', r.length ≤ l.length + 1 → p ≤ p' → p' ≤ p + 10 → k r b p'
theorem F_spec_reader_spoil_S {b : List Int} {p : Int} {l : List Int} {n : Int} {k : List Int → List Int → Int → Prop} (h : F_spec_reader_spoil b p l n k) : S_spec_reader_spoil b p l n k := by
  obtain ⟨⟨hb, h0, h1, h2⟩, hk⟩ := h
  refine ⟨by omega, ⟨hb, h0, by omega⟩, fun x hx => br_beq.2 ⟨fun _ => ⟨by omega, hk _ _ (by simp) (by omega) (by omega)⟩, fun _ => br_beq.2 ⟨fun _ => br_dec.2 ⟨fun h3 => ⟨⟨by omega, by omega⟩, hk _ _ (by simp; omega) (by omega) (by omega)⟩, fun _ => hk _ _ (by omega) (by omega) (by omega)⟩, fun _ => br_beq.2 ⟨fun _ => br_dec.2 ⟨fun h3 => ?_, fun _ => hk _ _ (by omega) (by omega) (by omega)⟩, fun _ => hk _ _ (by omega) (by omega) (by omega)⟩⟩⟩⟩
  refine ⟨⟨hb, by omega, by omega⟩, fun y hy => ⟨⟨hb, by omega, by omega, by simp⟩, fun z hz => ⟨?_, hk _ _ (by simp) (by omega) (by omega)⟩⟩⟩
  rcases hy with ⟨h4, _⟩ | h4
  · omega
  · exact h4
-- spec.someTrace
def T0_spec_someTrace (one10 : Int) (xn5 : Int) (xb100000c0 : List Int) (xb100000c1 : Int) (xout3 : List Int) (k : List Int → List Int → Int → Prop) (B0 : Int → List Int → Int → List Int → Prop) : Prop :=
  br (decide (xn5 > 0))
  (F_spec_reader_pick xb100000c0 xb100000c1 one10 fun pick20 opick20b opick20p =>
    br (decide ((xout3.length : Int) > 0))
    (F_spec_reader_pick opick20b opick20p (6 : Int) fun pick26 opick26b opick26p =>
      br (pick26 == 0)
      (InR ((xout3.length : Int) - 1) ∧
        (0 ≤ ((xout3.length : Int) - 1) ∧ ((xout3.length : Int) - 1) < (xout3.length : Int)) ∧
        (xout3.length + 1 ≤ 1000000000) ∧
        InR (xn5 - 1) ∧
        B0 (xn5 - 1) opick26b opick26p (xout3 ++ ([(List.getD xout3 (Int.toNat ((xout3.length : Int) - 1)) (0 : Int))] : List Int)))
      ((xout3.length + 1 ≤ 1000000000) ∧
        InR (xn5 - 1) ∧
        B0 (xn5 - 1) opick26b opick26p (xout3 ++ ([pick20] : List Int))))
    ((xout3.length + 1 ≤ 1000000000) ∧
      InR (xn5 - 1) ∧
      B0 (xn5 - 1) opick20b opick20p (xout3 ++ ([pick20] : List Int))))
  (F_spec_reader_pick xb100000c0 xb100000c1 (24 : Int) fun pick40 opick40b opick40p =>
    br (pick40 == 0)
    ((xout3.length + 1 ≤ 1000000000) ∧
      F_spec_reader_spoil opick40b opick40p (xout3 ++ ([3] : List Int)) (32 : Int) fun spoil47 ospoil47b ospoil47p =>
      k spoil47 ospoil47b ospoil47p)
    (br (pick40 == 1)
      ((xout3.length + xout3.length ≤ 1000000000) ∧
        ((List.length (xout3 ++ xout3)) + 1 ≤ 1000000000) ∧
        k ((xout3 ++ xout3) ++ ([1] : List Int)) opick40b opick40p)
      (k xout3 opick40b opick40p)))
def L0_spec_someTrace (one10 : Int) (k : List Int → List Int → Int → Prop) : Nat → Int → List Int → Int → List Int → Prop
  | 0, _, _, _, _ => False
  | n + 1, xn5, xb100000c0, xb100000c1, xout3 => T0_spec_someTrace one10 xn5 xb100000c0 xb100000c1 xout3 k (L0_spec_someTrace one10 k n)
def G_spec_someTrace (r0b : List Int) (r0p : Int) (I0 : Int → Int → List Int → Int → List Int → Prop) : Prop :=
  F_spec_reader_one r0b r0p ([4, 6, 3, 10, 2, 32] : List Int) fun one10 oone10b oone10p =>
  F_spec_reader_one oone10b oone10p ([8, 12, 16, 20, 24, 3, 1, 0] : List Int) fun one13 oone13b oone13p =>
  I0 one10 one13 oone13b oone13p ([] : List Int)
def S_spec_someTrace (r0b : List Int) (r0p : Int) (k : List Int → List Int → Int → Prop) : Prop := G_spec_someTrace r0b r0p (fun one10 xn5 xb100000c0 xb100000c1 xout3 => ∃ j, L0_spec_someTrace one10 k j xn5 xb100000c0 xb100000c1 xout3)
def F_spec_someTrace (b : List Int) (p : Int) (k : List Int → List Int → Int → Prop) : Prop :=
  (Bs b ∧ 0 ≤ p ∧ p ≤ 10000000) ∧ ∀ t p', t.length ≤ 100 → p ≤ p' → p' ≤ p + 200 → k t b p'
theorem F_spec_someTrace_S {b : List Int} {p : Int} {k : List Int → List Int → Int → Prop} (h : F_spec_someTrace b p k) : S_spec_someTrace b p k := by
  obtain ⟨⟨hb, h0, h1⟩, hk⟩ := h
  refine ⟨⟨hb, by omega, by omega, by simp⟩, fun many hm => ⟨⟨hb, by omega, by omega, by simp⟩, fun n hn => ?_⟩⟩
  have key : ∀ (d : Nat) (q : Int) (out : List Int), out.length + d ≤ 30 → p ≤ q → q + 2 * d ≤ p + 80 → L0_spec_someTrace many k (d + 1) (d : Int) b q out := by
    intro d
    induction d with
    | zero =>
      intro q out g0 g1 g2
      rw [L0_spec_someTrace, T0_spec_someTrace]
      refine br_dec.2 ⟨fun h => by omega, fun _ => ⟨⟨hb, by omega, by omega⟩, fun x hx => br_beq.2 ⟨fun _ => ⟨by omega, ⟨hb, by omega, by omega, by simp; omega⟩, fun r p' r1 r2 r3 => hk _ _ (by simp at r1; omega) (by omega) (by omega)⟩, fun _ => br_beq.2 ⟨fun _ => ⟨by omega, by simp; omega, hk _ _ (by simp; omega) (by omega) (by omega)⟩, fun _ => hk _ _ (by omega) (by omega) (by omega)⟩⟩⟩⟩
    | succ d ih =>
      intro q out g0 g1 g2
      rw [L0_spec_someTrace, T0_spec_someTrace]
      have e : ((d + 1 : Nat) : Int) - 1 = (d : Int) := by omega
      refine br_dec.2 ⟨fun _ => ⟨⟨hb, by omega, by omega⟩, fun x hx => br_dec.2 ⟨fun _ => ⟨⟨hb, by omega, by omega⟩, fun y hy => br_beq.2 ⟨fun _ => ⟨inR (by omega) (by omega), ⟨by omega, by omega⟩, by omega, inR (by omega) (by omega), ?_⟩, fun _ => ⟨by omega, inR (by omega) (by omega), ?_⟩⟩⟩, fun _ => ⟨by omega, inR (by omega) (by omega), ?_⟩⟩⟩, fun h => by omega⟩
      all_goals
        rw [e]
        exact ih _ _ (by simp; omega) (by omega) (by omega)
  simp only [List.mem_cons, List.not_mem_nil, or_false] at hn
  refine ⟨n.toNat + 1, ?_⟩
  have := key n.toNat (p + 1 + 1) [] (by simp; omega) (by omega) (by omega)
  rwa [Int.toNat_of_nonneg (by omega)] at this
-- spec.someRoom
def G_spec_someRoom (r0b : List Int) (r0p : Int) (k : Int → List Int → Int → Prop) : Prop :=
  F_spec_reader_one r0b r0p ([2, 3, 4, 1, 8, 5, 2, 3, 0, 9] : List Int) fun one5 oone5b oone5p =>
  k one5 oone5b oone5p
def S_spec_someRoom (r0b : List Int) (r0p : Int) (k : Int → List Int → Int → Prop) : Prop := G_spec_someRoom r0b r0p k
abbrev F_spec_someRoom (r0b : List Int) (r0p : Int) (k : Int → List Int → Int → Prop) : Prop := S_spec_someRoom r0b r0p k
theorem F_spec_someRoom_S {r0b : List Int} {r0p : Int} {k : Int → List Int → Int → Prop} (h : F_spec_someRoom r0b r0p k) : S_spec_someRoom r0b r0p k := h
-- spec.DrawRunSegments
def G_spec_DrawRunSegments (code0 : List Int) (k : List Int → Int → Int → Prop) : Prop :=
  F_spec_newReader code0 fun newReader9b newReader9p =>
  F_spec_someTrace newReader9b newReader9p fun someTrace11 osomeTrace11b osomeTrace11p =>
  F_spec_someRoom osomeTrace11b osomeTrace11p fun someRoom13 osomeRoom13b osomeRoom13p =>
  F_spec_someRoom osomeRoom13b osomeRoom13p fun someRoom17 osomeRoom17b osomeRoom17p =>
  k someTrace11 someRoom13 someRoom17
def S_spec_DrawRunSegments (code0 : List Int) (k : List Int → Int → Int → Prop) : Prop := G_spec_DrawRunSegments code0 k
def F_spec_DrawRunSegments (code : List Int) (k : List Int → Int → Int → Prop) : Prop :=
  (∀ x ∈ code, 0 ≤ x ∧ x ≤ 255) ∧ ∀ t trial safe, t.length ≤ 100 → k t trial safe
theorem F_spec_DrawRunSegments_S {code : List Int} {k : List Int → Int → Int → Prop} (h : F_spec_DrawRunSegments code k) : S_spec_DrawRunSegments code k :=
  ⟨h.1, fun b hb => ⟨⟨hb, by omega, by omega⟩, fun t p' l1 _ _ => ⟨⟨hb, by omega, by omega, by simp⟩, fun r _ => ⟨⟨hb, by omega, by omega, by simp⟩, fun s _ => h.2 t r s l1⟩⟩⟩⟩
-- impl.validKey
def G_impl_validKey (key0 : Int) (k : Bool → Prop) : Prop :=
  br (decide (0 ≤ key0))
  (k (decide (key0 ≤ 31)))
  (k false)
def S_impl_validKey (key0 : Int) (k : Bool → Prop) : Prop := G_impl_validKey key0 k
def F_impl_validKey (n : Int) (k : Bool → Prop) : Prop := k (decide (0 ≤ n ∧ n ≤ 31))
theorem F_impl_validKey_S {n : Int} {k : Bool → Prop} (h : F_impl_validKey n k) : S_impl_validKey n k := by
  unfold F_impl_validKey at h
  simp only [S_impl_validKey, G_impl_validKey, br_dec]
  refine ⟨fun h1 => ?_, fun h1 => ?_⟩
  · simpa [h1] using h
  · simpa [h1] using h
-- impl.ValidTrace
def T0_impl_ValidTrace (t0 : List Int) (xt9 : Int) (xt10 : Int) (k : Bool → Prop) (B0 : Int → Prop) : Prop :=
  br (decide (xt10 < xt9))
  ((0 ≤ xt10 ∧ xt10 < (t0.length : Int)) ∧
    F_impl_validKey (List.getD t0 (Int.toNat xt10) (0 : Int)) fun validKey15 =>
    br (!validKey15)
    (k false)
    (InR (xt10 + 1) ∧
      B0 (xt10 + 1)))
  (k true)
def L0_impl_ValidTrace (t0 : List Int) (xt9 : Int) (k : Bool → Prop) : Nat → Int → Prop
  | 0, _ => False
  | n + 1, xt10 => T0_impl_ValidTrace t0 xt9 xt10 k (L0_impl_ValidTrace t0 xt9 k n)
def G_impl_ValidTrace (t0 : List Int) (k : Bool → Prop) (I0 : List Int → Int → Int → Prop) : Prop :=
  br (decide ((t0.length : Int) > 24))
  (k false)
  (I0 t0 (t0.length : Int) 0)
def S_impl_ValidTrace (t0 : List Int) (k : Bool → Prop) : Prop := G_impl_ValidTrace t0 k (fun t0 xt9 xt10 => ∃ j, L0_impl_ValidTrace t0 xt9 k j xt10)
def F_impl_ValidTrace (t : List Int) (k : Bool → Prop) : Prop := ∀ b : Bool, (b = true ↔ VTrace t) → k b
theorem F_impl_ValidTrace_S {t : List Int} {k : Bool → Prop} (h : F_impl_ValidTrace t k) : S_impl_ValidTrace t k := by
  have hno : ¬ VTrace t → k false := fun hv => h false (by simp [hv])
  have key : t.length ≤ 24 → ∀ (r : List Int) (i : Nat), t.drop i = r → (∀ x ∈ t.take i, 0 ≤ x ∧ x ≤ 31) → L0_impl_ValidTrace t (t.length : Int) k (r.length + 1) (i : Int) := by
    intro hl r
    induction r with
    | nil =>
      intro i hd he
      have := drop_nil' hd
      rw [List.take_of_length_le this] at he
      rw [L0_impl_ValidTrace, T0_impl_ValidTrace]
      simp only [br_dec]
      exact ⟨fun h => by omega, fun _ => h true (by simp only [true_iff]; exact ⟨hl, he⟩)⟩
    | cons x r ih =>
      intro i hd he
      obtain ⟨h1, h2, h5, h3, h4⟩ := drop_cons' hd
      rw [List.length_cons, L0_impl_ValidTrace, T0_impl_ValidTrace]
      simp only [br_dec, F_impl_validKey, Int.toNat_natCast, h2, br_not]
      refine ⟨fun _ => ⟨⟨by omega, by omega⟩, fun hx => ⟨inR (by omega) (by omega), ih (i + 1) h3 ?_⟩, fun hx => hno fun v => hx (v.2 x (List.mem_of_getElem? h5))⟩, fun h => by omega⟩
      rw [h4]; intro y hy
      rcases List.mem_append.1 hy with hy | hy
      · exact he y hy
      · simp at hy; subst hy; exact hx
  exact br_dec.2 ⟨fun h3 => hno fun v => by have := v.1; omega, fun h3 => ⟨_, key (by omega) t 0 rfl (by simp)⟩⟩
-- impl.validRoom
def G_impl_validRoom (room0 : Int) (k : Bool → Prop) : Prop :=
  br (decide (1 ≤ room0))
  (k (decide (room0 ≤ 8)))
  (k false)
def S_impl_validRoom (room0 : Int) (k : Bool → Prop) : Prop := G_impl_validRoom room0 k
def F_impl_validRoom (n : Int) (k : Bool → Prop) : Prop := k (decide (1 ≤ n ∧ n ≤ 8))
theorem F_impl_validRoom_S {n : Int} {k : Bool → Prop} (h : F_impl_validRoom n k) : S_impl_validRoom n k := by
  unfold F_impl_validRoom at h
  simp only [S_impl_validRoom, G_impl_validRoom, br_dec]
  refine ⟨fun h1 => ?_, fun h1 => ?_⟩
  · simpa [h1] using h
  · simpa [h1] using h
-- slices.Index[[]int,int]
def T0_slices_Index_sint_int (s0 : List Int) (v1 : Int) (xt7 : Int) (xt8 : Int) (k : Int → Prop) (B0 : Int → Prop) : Prop :=
  br (decide (xt8 < xt7))
  ((0 ≤ xt8 ∧ xt8 < (s0.length : Int)) ∧
    br (v1 == (List.getD s0 (Int.toNat xt8) (0 : Int)))
    (k xt8)
    (InR (xt8 + 1) ∧
      B0 (xt8 + 1)))
  (k (-1))
def L0_slices_Index_sint_int (s0 : List Int) (v1 : Int) (xt7 : Int) (k : Int → Prop) : Nat → Int → Prop
  | 0, _ => False
  | n + 1, xt8 => T0_slices_Index_sint_int s0 v1 xt7 xt8 k (L0_slices_Index_sint_int s0 v1 xt7 k n)
def G_slices_Index_sint_int (s0 : List Int) (v1 : Int) (I0 : List Int → Int → Int → Int → Prop) : Prop :=
  I0 s0 v1 (s0.length : Int) 0
def S_slices_Index_sint_int (s0 : List Int) (v1 : Int) (k : Int → Prop) : Prop := G_slices_Index_sint_int s0 v1 (fun s0 v1 xt7 xt8 => ∃ j, L0_slices_Index_sint_int s0 v1 xt7 k j xt8)
def F_slices_Index_sint_int (l : List Int) (n : Int) (k : Int → Prop) : Prop := l.length ≤ 1000000000 ∧ k (plc l n)
theorem F_slices_Index_sint_int_S {l : List Int} {n : Int} {k : Int → Prop} (h : F_slices_Index_sint_int l n k) : S_slices_Index_sint_int l n k := by
  obtain ⟨hl, hk⟩ := h
  have key : ∀ (r : List Int) (i : Nat), l.drop i = r → plcF r n i = plc l n → L0_slices_Index_sint_int l n (l.length : Int) k (r.length + 1) (i : Int) := by
    intro r
    induction r with
    | nil =>
      intro i hd he
      have := drop_nil' hd
      rw [L0_slices_Index_sint_int, T0_slices_Index_sint_int]
      simp only [br_dec]
      exact ⟨fun h => by omega, fun _ => by rw [show (-1 : Int) = plc l n from he]; exact hk⟩
    | cons x r ih =>
      intro i hd he
      obtain ⟨h1, h2, _, h3, _⟩ := drop_cons' hd
      rw [List.length_cons, L0_slices_Index_sint_int, T0_slices_Index_sint_int]
      simp only [br_dec, br_beq, Int.toNat_natCast, h2]
      refine ⟨fun _ => ⟨⟨by omega, by omega⟩, fun hx => ?_, fun hx => ⟨inR (by omega) (by omega), ?_⟩⟩, fun h => by omega⟩
      · simp only [plcF, if_pos hx.symm] at he; rw [he]; exact hk
      · simp only [plcF, if_neg (Ne.symm hx)] at he; exact ih (i + 1) h3 he
  exact ⟨_, key l 0 rfl rfl⟩
-- slices.Contains[[]int,int]
def G_slices_Contains_sint_int (s0 : List Int) (v1 : Int) (k : Bool → Prop) : Prop :=
  F_slices_Index_sint_int s0 v1 fun index7 =>
  k (decide (index7 ≥ 0))
def S_slices_Contains_sint_int (s0 : List Int) (v1 : Int) (k : Bool → Prop) : Prop := G_slices_Contains_sint_int s0 v1 k
def F_slices_Contains_sint_int (l : List Int) (n : Int) (k : Bool → Prop) : Prop := l.length ≤ 1000000000 ∧ k (decide (n ∈ l))
theorem F_slices_Contains_sint_int_S {l : List Int} {n : Int} {k : Bool → Prop} (h : F_slices_Contains_sint_int l n k) : S_slices_Contains_sint_int l n k := by
  refine ⟨h.1, ?_⟩
  have : decide (plc l n ≥ 0) = decide (n ∈ l) := decide_eq_decide.2 plc_ge
  show k (decide (plc l n ≥ 0))
  rw [this]; exact h.2
-- impl.differentKeys
def T0_impl_differentKeys (list0 : List Int) (xt6 : Int) (xt7 : Int) (k : Bool → Prop) (B0 : Int → Prop) : Prop :=
  br (decide (xt7 < xt6))
  ((0 ≤ xt7 ∧ xt7 < (list0.length : Int)) ∧
    F_impl_validKey (List.getD list0 (Int.toNat xt7) (0 : Int)) fun validKey13 =>
    br (!validKey13)
    (k false)
    ((0 ≤ xt7 ∧ xt7 ≤ (list0.length : Int)) ∧
      F_slices_Contains_sint_int (List.take (Int.toNat xt7) list0) (List.getD list0 (Int.toNat xt7) (0 : Int)) fun contains20 =>
      br contains20
      (k false)
      (InR (xt7 + 1) ∧
        B0 (xt7 + 1))))
  (k true)
def L0_impl_differentKeys (list0 : List Int) (xt6 : Int) (k : Bool → Prop) : Nat → Int → Prop
  | 0, _ => False
  | n + 1, xt7 => T0_impl_differentKeys list0 xt6 xt7 k (L0_impl_differentKeys list0 xt6 k n)
def G_impl_differentKeys (list0 : List Int) (I0 : List Int → Int → Int → Prop) : Prop :=
  I0 list0 (list0.length : Int) 0
def S_impl_differentKeys (list0 : List Int) (k : Bool → Prop) : Prop := G_impl_differentKeys list0 (fun list0 xt6 xt7 => ∃ j, L0_impl_differentKeys list0 xt6 k j xt7)
def F_impl_differentKeys (l : List Int) (k : Bool → Prop) : Prop := l.length ≤ 1000000000 ∧ ∀ b : Bool, (b = true ↔ (∀ x ∈ l, 0 ≤ x ∧ x ≤ 31) ∧ l.Nodup) → k b
theorem F_impl_differentKeys_S {l : List Int} {k : Bool → Prop} (h : F_impl_differentKeys l k) : S_impl_differentKeys l k := by
  obtain ⟨hl, h⟩ := h
  have hno : ¬ ((∀ x ∈ l, 0 ≤ x ∧ x ≤ 31) ∧ l.Nodup) → k false := fun hv => h false (by simp only [Bool.false_eq_true, false_iff]; exact hv)
  have key : ∀ (r : List Int) (i : Nat), l.drop i = r → (∀ x ∈ l.take i, 0 ≤ x ∧ x ≤ 31) → (l.take i).Nodup → L0_impl_differentKeys l (l.length : Int) k (r.length + 1) (i : Int) := by
    intro r
    induction r with
    | nil =>
      intro i hd he hn
      have := drop_nil' hd
      rw [List.take_of_length_le this] at he hn
      rw [L0_impl_differentKeys, T0_impl_differentKeys]
      simp only [br_dec]
      exact ⟨fun h => by omega, fun _ => h true (by simp only [true_iff]; exact ⟨he, hn⟩)⟩
    | cons x r ih =>
      intro i hd he hn
      obtain ⟨h1, h2, h5, h3, h4⟩ := drop_cons' hd
      rw [List.length_cons, L0_impl_differentKeys, T0_impl_differentKeys]
      simp only [br_dec, F_impl_validKey, F_slices_Contains_sint_int, Int.toNat_natCast, h2, br_not]
      have hxl : x ∈ l := List.mem_of_getElem? h5
      refine ⟨fun _ => ⟨⟨by omega, by omega⟩, fun hx => ⟨⟨by omega, by omega⟩, by simp; omega, fun hc => ?_, fun hc => ⟨inR (by omega) (by omega), ?_⟩⟩, fun hx => hno fun v => hx (v.1 x hxl)⟩, fun h => by omega⟩
      · refine hno fun v => ?_
        have hn2 := v.2
        rw [← List.take_append_drop i l, hd] at hn2
        exact (List.nodup_append.1 hn2).2.2 x hc x (by simp) rfl
      · refine ih (i + 1) h3 ?_ ?_
        · rw [h4]; intro y hy
          rcases List.mem_append.1 hy with hy | hy
          · exact he y hy
          · simp at hy; subst hy; exact hx
        · rw [h4, List.nodup_append]
          refine ⟨hn, by simp, fun a ha b hb e => ?_⟩
          simp at hb; subst hb; subst e; exact hc ha
  exact ⟨_, key l 0 rfl (by simp) (by simp)⟩
-- impl.ValidKeys
def G_impl_ValidKeys (list0 : List Int) (room1 : Int) (k : Bool → Prop) : Prop :=
  F_impl_validRoom room1 fun validRoom6 =>
  br validRoom6
  (br (decide ((list0.length : Int) ≤ room1))
    (F_impl_differentKeys list0 fun differentKeys15 =>
      k differentKeys15)
    (k false))
  (k false)
def S_impl_ValidKeys (list0 : List Int) (room1 : Int) (k : Bool → Prop) : Prop := G_impl_ValidKeys list0 room1 k
def F_impl_ValidKeys (l : List Int) (room : Int) (k : Bool → Prop) : Prop := ∀ b : Bool, (b = true ↔ VKeys l room) → k b
theorem F_impl_ValidKeys_S {l : List Int} {room : Int} {k : Bool → Prop} (h : F_impl_ValidKeys l room k) : S_impl_ValidKeys l room k := by
  have hno : ¬ VKeys l room → k false := fun hv => h false (by simp [hv])
  refine br_dec.2 ⟨fun h1 => br_dec.2 ⟨fun h3 => ⟨by omega, fun b hb => h b ?_⟩, fun h3 => hno fun v => by have := v.2.2.1; omega⟩, fun h1 => hno fun v => h1 ⟨v.1, v.2.1⟩⟩
  rw [hb]
  exact ⟨fun g => ⟨h1.1, h1.2, h3, g.1, g.2⟩, fun v => v.2.2.2⟩
-- impl.ValidSegments
def T0_impl_ValidSegments (s0New : List Int) (s0Old : List Int) (s0Safe : Int) (s0Trial : Int) (xt21 : Int) (xt22 : Int) (k : Bool → Prop) (B0 : Int → Prop) : Prop :=
  br (decide (xt22 < xt21))
  ((0 ≤ xt22 ∧ xt22 < (s0New.length : Int)) ∧
    F_slices_Contains_sint_int s0Old (List.getD s0New (Int.toNat xt22) (0 : Int)) fun contains29 =>
    br contains29
    (k false)
    (InR (xt22 + 1) ∧
      B0 (xt22 + 1)))
  (k true)
def L0_impl_ValidSegments (s0New : List Int) (s0Old : List Int) (s0Safe : Int) (s0Trial : Int) (xt21 : Int) (k : Bool → Prop) : Nat → Int → Prop
  | 0, _ => False
  | n + 1, xt22 => T0_impl_ValidSegments s0New s0Old s0Safe s0Trial xt21 xt22 k (L0_impl_ValidSegments s0New s0Old s0Safe s0Trial xt21 k n)
def G_impl_ValidSegments (s0Trial : Int) (s0Safe : Int) (s0New : List Int) (s0Old : List Int) (k : Bool → Prop) (I0 : List Int → List Int → Int → Int → Int → Int → Prop) : Prop :=
  F_impl_ValidKeys s0New s0Trial fun validKeys9 =>
  br (!validKeys9)
  (k false)
  (F_impl_ValidKeys s0Old s0Safe fun validKeys16 =>
    br (!validKeys16)
    (k false)
    (I0 s0New s0Old s0Safe s0Trial (s0New.length : Int) 0))
def S_impl_ValidSegments (s0Trial : Int) (s0Safe : Int) (s0New : List Int) (s0Old : List Int) (k : Bool → Prop) : Prop := G_impl_ValidSegments s0Trial s0Safe s0New s0Old k (fun s0New s0Old s0Safe s0Trial xt21 xt22 => ∃ j, L0_impl_ValidSegments s0New s0Old s0Safe s0Trial xt21 k j xt22)
def F_impl_ValidSegments (trial safe : Int) (new old : List Int) (k : Bool → Prop) : Prop := ∀ b : Bool, (b = true ↔ VSegs trial safe new old) → k b
theorem F_impl_ValidSegments_S {trial safe : Int} {new old : List Int} {k : Bool → Prop} (h : F_impl_ValidSegments trial safe new old k) : S_impl_ValidSegments trial safe new old k := by
  have hno : ¬ VSegs trial safe new old → k false := fun hv => h false (by simp [hv])
  intro b1 hb1
  rw [br_not, br_iff]
  refine ⟨fun e1 => ?_, fun e => hno fun w => by rw [hb1.2 w.1] at e; cases e⟩
  intro b2 hb2
  rw [br_not, br_iff]
  refine ⟨fun e2 => ?_, fun e => hno fun w => by rw [hb2.2 w.2.1] at e; cases e⟩
  have v1 := hb1.1 e1
  have v2 := hb2.1 e2
  have l1 : new.length ≤ 8 ∧ old.length ≤ 8 := by have := v1.2.1; have := v1.2.2.1; have := v2.2.1; have := v2.2.2.1; omega
  have key : ∀ (r : List Int) (i : Nat), new.drop i = r → (∀ x ∈ new.take i, x ∉ old) → L0_impl_ValidSegments new old safe trial (new.length : Int) k (r.length + 1) (i : Int) := by
    intro r
    induction r with
    | nil =>
      intro i hd he
      have := drop_nil' hd
      rw [List.take_of_length_le this] at he
      rw [L0_impl_ValidSegments, T0_impl_ValidSegments]
      simp only [br_dec]
      exact ⟨fun h => by omega, fun _ => h true (by simp only [true_iff]; exact ⟨v1, v2, he⟩)⟩
    | cons x r ih =>
      intro i hd he
      obtain ⟨h1, h2, h5, h3, h4⟩ := drop_cons' hd
      rw [List.length_cons, L0_impl_ValidSegments, T0_impl_ValidSegments]
      simp only [br_dec, F_slices_Contains_sint_int, Int.toNat_natCast, h2]
      refine ⟨fun _ => ⟨⟨by omega, by omega⟩, by omega, fun hx => hno fun v => v.2.2 x (List.mem_of_getElem? h5) hx, fun hx => ⟨inR (by omega) (by omega), ih (i + 1) h3 ?_⟩⟩, fun h => by omega⟩
      rw [h4]; intro y hy
      rcases List.mem_append.1 hy with hy | hy
      · exact he y hy
      · simp at hy; subst hy; exact hx
  exact ⟨_, key new 0 rfl (by simp)⟩
-- impl.withoutKey
def T0_impl_withoutKey (key1 : Int) (list0 : List Int) (xt10 : Int) (xt11 : Int) (xout5 : List Int) (k : List Int → Prop) (B0 : Int → List Int → Prop) : Prop :=
  br (decide (xt11 < xt10))
  ((0 ≤ xt11 ∧ xt11 < (list0.length : Int)) ∧
    br ((List.getD list0 (Int.toNat xt11) (0 : Int)) != key1)
    ((xout5.length + 1 ≤ 1000000000) ∧
      InR (xt11 + 1) ∧
      B0 (xt11 + 1) (xout5 ++ ([(List.getD list0 (Int.toNat xt11) (0 : Int))] : List Int)))
    (InR (xt11 + 1) ∧
      B0 (xt11 + 1) xout5))
  (k xout5)
def L0_impl_withoutKey (key1 : Int) (list0 : List Int) (xt10 : Int) (k : List Int → Prop) : Nat → Int → List Int → Prop
  | 0, _, _ => False
  | n + 1, xt11, xout5 => T0_impl_withoutKey key1 list0 xt10 xt11 xout5 k (L0_impl_withoutKey key1 list0 xt10 k n)
def G_impl_withoutKey (list0 : List Int) (key1 : Int) (I0 : Int → List Int → Int → Int → List Int → Prop) : Prop :=
  I0 key1 list0 (list0.length : Int) 0 ([] : List Int)
def S_impl_withoutKey (list0 : List Int) (key1 : Int) (k : List Int → Prop) : Prop := G_impl_withoutKey list0 key1 (fun key1 list0 xt10 xt11 xout5 => ∃ j, L0_impl_withoutKey key1 list0 xt10 k j xt11 xout5)
def F_impl_withoutKey (l : List Int) (key : Int) (k : List Int → Prop) : Prop := l.length ≤ 1000000000 ∧ k (rmK l key)
theorem F_impl_withoutKey_S {l : List Int} {key : Int} {k : List Int → Prop} (h : F_impl_withoutKey l key k) : S_impl_withoutKey l key k := by
  obtain ⟨hl, hk⟩ := h
  have key1 : ∀ (r : List Int) (i : Nat) (out : List Int), l.drop i = r → out.length ≤ i → out ++ rmK r key = rmK l key → L0_impl_withoutKey key l (l.length : Int) k (r.length + 1) (i : Int) out := by
    intro r
    induction r with
    | nil =>
      intro i out hd ho he
      have := drop_nil' hd
      rw [L0_impl_withoutKey, T0_impl_withoutKey]
      simp only [br_dec]
      refine ⟨fun h => by omega, fun _ => ?_⟩
      have : out = rmK l key := by simpa [rmK] using he
      rw [this]; exact hk
    | cons x r ih =>
      intro i out hd ho he
      obtain ⟨h1, h2, _, h3, _⟩ := drop_cons' hd
      rw [List.length_cons, L0_impl_withoutKey, T0_impl_withoutKey]
      simp only [br_dec, br_bne, Int.toNat_natCast, h2]
      refine ⟨fun _ => ⟨⟨by omega, by omega⟩, fun hx => ⟨by omega, inR (by omega) (by omega), ?_⟩, fun hx => ⟨inR (by omega) (by omega), ?_⟩⟩, fun h => by omega⟩
      · exact ih (i + 1) (out ++ [x]) h3 (by simp; omega) (by rw [← he, rmK_cons_ne hx]; simp)
      · exact ih (i + 1) out h3 (by omega) (by rw [← he, hx, rmK_cons_eq])
  exact ⟨_, key1 l 0 [] rfl (by simp) rfl⟩
-- impl.putFirst
def G_impl_putFirst (list0 : List Int) (key1 : Int) (k : List Int → Prop) : Prop :=
  (1 + list0.length ≤ 1000000000) ∧
  k (([key1] : List Int) ++ list0)
def S_impl_putFirst (list0 : List Int) (key1 : Int) (k : List Int → Prop) : Prop := G_impl_putFirst list0 key1 k
def F_impl_putFirst (l : List Int) (x : Int) (k : List Int → Prop) : Prop := l.length ≤ 999999999 ∧ k (x :: l)
theorem F_impl_putFirst_S {l : List Int} {x : Int} {k : List Int → Prop} (h : F_impl_putFirst l x k) : S_impl_putFirst l x k := ⟨by have := h.1; omega, h.2⟩
-- impl.UseRecent
def G_impl_UseRecent (list0 : List Int) (room1 : Int) (key2 : Int) (k : List Int → Bool → Prop) : Prop :=
  F_impl_ValidKeys list0 room1 fun validKeys11 =>
  br (!validKeys11)
  (k ([] : List Int) false)
  (F_impl_validKey key2 fun validKey15 =>
    br (!validKey15)
    (k ([] : List Int) false)
    (F_impl_withoutKey list0 key2 fun withoutKey20 =>
      F_impl_putFirst withoutKey20 key2 fun putFirst22 =>
      (0 ≤ (if room1 < (putFirst22.length : Int) then room1 else (putFirst22.length : Int)) ∧ (if room1 < (putFirst22.length : Int) then room1 else (putFirst22.length : Int)) ≤ (putFirst22.length : Int)) ∧
      (F_slices_Contains_sint_int list0 key2 fun contains31 =>
        k (List.take (Int.toNat (if room1 < (putFirst22.length : Int) then room1 else (putFirst22.length : Int))) (List.drop 0 putFirst22)) contains31) ∧
      (True)))
def H_impl_UseRecent (list0 : List Int) (room1 : Int) (key2 : Int) (k : List Int → Bool → Prop) : Prop :=
  F_impl_ValidKeys list0 room1 fun validKeys11 =>
  br (!validKeys11)
  (k ([] : List Int) false)
  (F_impl_validKey key2 fun validKey15 =>
    br (!validKey15)
    (k ([] : List Int) false)
    (F_impl_withoutKey list0 key2 fun withoutKey20 =>
      F_impl_putFirst withoutKey20 key2 fun putFirst22 =>
      (0 ≤ (if room1 < (putFirst22.length : Int) then room1 else (putFirst22.length : Int)) ∧ (if room1 < (putFirst22.length : Int) then room1 else (putFirst22.length : Int)) ≤ (putFirst22.length : Int)) ∧
      F_slices_Contains_sint_int list0 key2 fun contains31 =>
      k (List.take (Int.toNat (if room1 < (putFirst22.length : Int) then room1 else (putFirst22.length : Int))) (List.drop 0 putFirst22)) contains31))
theorem G_impl_UseRecent_eq (list0 : List Int) (room1 : Int) (key2 : Int) (k : List Int → Bool → Prop) : G_impl_UseRecent list0 room1 key2 k = H_impl_UseRecent list0 room1 key2 k := by
  simp only [G_impl_UseRecent, H_impl_UseRecent, and_self, and_true]
def S_impl_UseRecent (list0 : List Int) (room1 : Int) (key2 : Int) (k : List Int → Bool → Prop) : Prop := H_impl_UseRecent list0 room1 key2 k
def F_impl_UseRecent (l : List Int) (room key : Int) (k : List Int → Bool → Prop) : Prop :=
  (VKeys l room ∧ 0 ≤ key ∧ key ≤ 31 → k (recM l room key) (decide (key ∈ l))) ∧ (¬ (VKeys l room ∧ 0 ≤ key ∧ key ≤ 31) → k [] false)
theorem F_impl_UseRecent_S {l : List Int} {room key : Int} {k : List Int → Bool → Prop} (h : F_impl_UseRecent l room key k) : S_impl_UseRecent l room key k := by
  obtain ⟨hyes, hno⟩ := h
  intro b hb
  refine br_not.2 (br_iff.2 ⟨fun e => br_not.2 (br_dec.2 ⟨fun hkey => ?_, fun hkey => hno fun w => hkey w.2⟩), fun e => hno fun w => by rw [hb.2 w.1] at e; cases e⟩)
  have v := hb.1 e
  have hk := hyes ⟨v, hkey⟩
  obtain ⟨v1, v2, v3, v4, v5⟩ := v
  have := @rmK_le l key
  refine ⟨by omega, by omega, ⟨?_, ?_⟩, by omega, ?_⟩
  · split <;> omega
  · split <;> omega
  · show k (List.take (if room < (([key] ++ rmK l key).length : Int) then room else (([key] ++ rmK l key).length : Int)).toNat ([key] ++ rmK l key)) (decide (key ∈ l))
    rw [take_min2]; exact hk
-- impl.UseSegments
def G_impl_UseSegments_j0 (s0Old : List Int) (s0Safe : Int) (s0Trial : Int) (useRecent70r0 : List Int) (withoutKey97 : List Int) (k : Int → Int → List Int → List Int → Bool → Prop) : Prop :=
  ((1 + withoutKey97.length ≤ 1000000000) ∧
    (k s0Trial s0Safe (([(List.getD s0Old (Int.toNat (s0Safe - 1)) (0 : Int))] : List Int) ++ withoutKey97) useRecent70r0 true) ∧
    (True)) ∧
  (True)
def G_impl_UseSegments_j1 (key1 : Int) (s0New : List Int) (s0Old : List Int) (s0Safe : Int) (s0Trial : Int) (useRecent70r0 : List Int) (k : Int → Int → List Int → List Int → Bool → Prop) : Prop :=
  (((0 + 1 ≤ 1000000000) ∧
      (((F_impl_withoutKey s0New key1 fun withoutKey97 =>
            G_impl_UseSegments_j0 s0Old s0Safe s0Trial useRecent70r0 withoutKey97 k) ∧
          (True)) ∧
        ((F_impl_withoutKey s0New key1 fun withoutKey97 =>
            (G_impl_UseSegments_j0 s0Old s0Safe s0Trial useRecent70r0 withoutKey97 k) ∧
            (True)) ∧
          (True))) ∧
      (True)) ∧
    (True)) ∧
  (True)
def G_impl_UseSegments_j2 (s0Safe : Int) (s0Trial : Int) (useRecent70r0 : List Int) (withoutKey97 : List Int) (k : Int → Int → List Int → List Int → Bool → Prop) : Prop :=
  ((0 + withoutKey97.length ≤ 1000000000) ∧
    (k s0Trial s0Safe withoutKey97 useRecent70r0 true) ∧
    (True)) ∧
  (True)
def G_impl_UseSegments (s0Trial : Int) (s0Safe : Int) (s0New : List Int) (s0Old : List Int) (key1 : Int) (k : Int → Int → List Int → List Int → Bool → Prop) : Prop :=
  F_impl_ValidSegments s0Trial s0Safe s0New s0Old fun validSegments8 =>
  br (!validSegments8)
  (k 0 0 ([] : List Int) ([] : List Int) false)
  (F_impl_validKey key1 fun validKey12 =>
    br (!validKey12)
    (k 0 0 ([] : List Int) ([] : List Int) false)
    (F_slices_Contains_sint_int s0Old key1 fun contains24 =>
      br contains24
      (F_impl_UseRecent s0Old s0Safe key1 fun useRecent31r0 useRecent31r1 =>
        (0 + s0New.length ≤ 1000000000) ∧
        k s0Trial s0Safe s0New useRecent31r0 true)
      (F_slices_Contains_sint_int s0New key1 fun contains45 =>
        br (!contains45)
        ((0 + s0Old.length ≤ 1000000000) ∧
          F_impl_UseRecent s0New s0Trial key1 fun useRecent59r0 useRecent59r1 =>
          k s0Trial s0Safe useRecent59r0 s0Old false)
        (F_impl_UseRecent s0Old s0Safe key1 fun useRecent70r0 useRecent70r1 =>
          br ((s0Old.length : Int) == s0Safe)
          (InR (s0Safe - 1) ∧
            (0 ≤ (s0Safe - 1) ∧ (s0Safe - 1) < (s0Old.length : Int)) ∧
            (G_impl_UseSegments_j1 key1 s0New s0Old s0Safe s0Trial useRecent70r0 k) ∧
            ((G_impl_UseSegments_j1 key1 s0New s0Old s0Safe s0Trial useRecent70r0 k) ∧
              (True)))
          (((F_impl_withoutKey s0New key1 fun withoutKey97 =>
                G_impl_UseSegments_j2 s0Safe s0Trial useRecent70r0 withoutKey97 k) ∧
              (True)) ∧
            ((F_impl_withoutKey s0New key1 fun withoutKey97 =>
                (G_impl_UseSegments_j2 s0Safe s0Trial useRecent70r0 withoutKey97 k) ∧
                (True)) ∧
              (True)))))))
def H_impl_UseSegments (s0Trial : Int) (s0Safe : Int) (s0New : List Int) (s0Old : List Int) (key1 : Int) (k : Int → Int → List Int → List Int → Bool → Prop) : Prop :=
  F_impl_ValidSegments s0Trial s0Safe s0New s0Old fun validSegments8 =>
  br (!validSegments8)
  (k 0 0 ([] : List Int) ([] : List Int) false)
  (F_impl_validKey key1 fun validKey12 =>
    br (!validKey12)
    (k 0 0 ([] : List Int) ([] : List Int) false)
    (F_slices_Contains_sint_int s0Old key1 fun contains24 =>
      br contains24
      (F_impl_UseRecent s0Old s0Safe key1 fun useRecent31r0 useRecent31r1 =>
        (0 + s0New.length ≤ 1000000000) ∧
        k s0Trial s0Safe s0New useRecent31r0 true)
      (F_slices_Contains_sint_int s0New key1 fun contains45 =>
        br (!contains45)
        ((0 + s0Old.length ≤ 1000000000) ∧
          F_impl_UseRecent s0New s0Trial key1 fun useRecent59r0 useRecent59r1 =>
          k s0Trial s0Safe useRecent59r0 s0Old false)
        (F_impl_UseRecent s0Old s0Safe key1 fun useRecent70r0 useRecent70r1 =>
          br ((s0Old.length : Int) == s0Safe)
          (InR (s0Safe - 1) ∧
            (0 ≤ (s0Safe - 1) ∧ (s0Safe - 1) < (s0Old.length : Int)) ∧
            (0 + 1 ≤ 1000000000) ∧
            F_impl_withoutKey s0New key1 fun withoutKey97 =>
            (1 + withoutKey97.length ≤ 1000000000) ∧
            k s0Trial s0Safe (([(List.getD s0Old (Int.toNat (s0Safe - 1)) (0 : Int))] : List Int) ++ withoutKey97) useRecent70r0 true)
          (F_impl_withoutKey s0New key1 fun withoutKey97 =>
            (0 + withoutKey97.length ≤ 1000000000) ∧
            k s0Trial s0Safe withoutKey97 useRecent70r0 true)))))
theorem G_impl_UseSegments_eq (s0Trial : Int) (s0Safe : Int) (s0New : List Int) (s0Old : List Int) (key1 : Int) (k : Int → Int → List Int → List Int → Bool → Prop) : G_impl_UseSegments s0Trial s0Safe s0New s0Old key1 k = H_impl_UseSegments s0Trial s0Safe s0New s0Old key1 k := by
  simp only [G_impl_UseSegments, H_impl_UseSegments, G_impl_UseSegments_j0, G_impl_UseSegments_j1, G_impl_UseSegments_j2, and_self, and_true]
def S_impl_UseSegments (s0Trial : Int) (s0Safe : Int) (s0New : List Int) (s0Old : List Int) (key1 : Int) (k : Int → Int → List Int → List Int → Bool → Prop) : Prop := H_impl_UseSegments s0Trial s0Safe s0New s0Old key1 k
def F_impl_UseSegments (trial safe : Int) (new old : List Int) (key : Int) (k : Int → Int → List Int → List Int → Bool → Prop) : Prop :=
  (VSegs trial safe new old ∧ 0 ≤ key ∧ key ≤ 31 → k trial safe (segM trial safe new old key).1 (segM trial safe new old key).2.1 (segM trial safe new old key).2.2) ∧
  (¬ (VSegs trial safe new old ∧ 0 ≤ key ∧ key ≤ 31) → k 0 0 [] [] false)
theorem F_impl_UseSegments_S {trial safe : Int} {new old : List Int} {key : Int} {k : Int → Int → List Int → List Int → Bool → Prop} (h : F_impl_UseSegments trial safe new old key k) : S_impl_UseSegments trial safe new old key k := by
  obtain ⟨hyes, hno⟩ := h
  intro b hb
  rw [br_not, br_iff]
  refine ⟨fun e => br_not.2 (br_dec.2 ⟨fun hkey => ?_, fun hkey => hno fun w => hkey w.2⟩), fun e => hno fun w => by rw [hb.2 w.1] at e; cases e⟩
  have v := hb.1 e
  have hk := hyes ⟨v, hkey⟩
  have l1 := segs_len v
  obtain ⟨v1, v2, v3⟩ := v
  have hrm := @rmK_le new key
  unfold segM at hk
  refine ⟨by omega, br_dec.2 ⟨fun ho => ⟨fun _ => ⟨by omega, ?_⟩, fun h => absurd ⟨v2, hkey⟩ h⟩, fun ho => ⟨by omega, br_not.2 (br_dec.2 ⟨fun hn => ⟨fun _ => br_beq.2 ⟨fun hs => ?_, fun hs => ⟨by omega, by omega, ?_⟩⟩, fun h => absurd ⟨v2, hkey⟩ h⟩, fun hn => ⟨by omega, fun _ => ?_, fun h => absurd ⟨v1, hkey⟩ h⟩⟩)⟩⟩⟩
  · rw [if_pos ho] at hk
    rw [recM_hit v2.2.2.2.2 v2.2.2.1 ho]; exact hk
  · rw [if_neg ho, if_pos hn, if_pos hs] at hk
    have h1 := v2.1
    refine ⟨inR (by omega) (by omega), ⟨by omega, by omega⟩, by omega, by omega, by omega, ?_⟩
    rw [recM_miss ho, show (safe - 1).toNat = old.length - 1 by omega]; exact hk
  · rw [if_neg ho, if_pos hn, if_neg hs] at hk
    rw [recM_miss ho]; exact hk
  · rw [if_neg ho, if_neg hn] at hk
    rw [recM_miss hn]; exact hk
-- impl.useAll[impl.Segments]
def T0_impl_useAll_Segments_UseSegments (t0 : List Int) (xt14 : Int) (xhits8 : Int) (xt15 : Int) (xb4c0 : Int) (xb4c1 : Int) (xb4c2 : List Int) (xb4c3 : List Int) (k : Int → Int → List Int → List Int → Int → Prop) (B0 : Int → Int → Int → Int → List Int → List Int → Prop) : Prop :=
  br (decide (xt15 < xt14))
  ((0 ≤ xt15 ∧ xt15 < (t0.length : Int)) ∧
    F_impl_UseSegments xb4c0 xb4c1 xb4c2 xb4c3 (List.getD t0 (Int.toNat xt15) (0 : Int)) fun useSegments23Trial useSegments23Safe useSegments23New useSegments23Old useSegments23r1 =>
    br useSegments23r1
    (InR (xhits8 + 1) ∧
      InR (xt15 + 1) ∧
      B0 (xhits8 + 1) (xt15 + 1) useSegments23Trial useSegments23Safe useSegments23New useSegments23Old)
    (InR (xt15 + 1) ∧
      B0 xhits8 (xt15 + 1) useSegments23Trial useSegments23Safe useSegments23New useSegments23Old))
  (k xb4c0 xb4c1 xb4c2 xb4c3 xhits8)
def L0_impl_useAll_Segments_UseSegments (t0 : List Int) (xt14 : Int) (k : Int → Int → List Int → List Int → Int → Prop) : Nat → Int → Int → Int → Int → List Int → List Int → Prop
  | 0, _, _, _, _, _, _ => False
  | n + 1, xhits8, xt15, xb4c0, xb4c1, xb4c2, xb4c3 => T0_impl_useAll_Segments_UseSegments t0 xt14 xhits8 xt15 xb4c0 xb4c1 xb4c2 xb4c3 k (L0_impl_useAll_Segments_UseSegments t0 xt14 k n)
def G_impl_useAll_Segments_UseSegments (t0 : List Int) (cache1Trial : Int) (cache1Safe : Int) (cache1New : List Int) (cache1Old : List Int) (I0 : List Int → Int → Int → Int → Int → Int → List Int → List Int → Prop) : Prop :=
  I0 t0 (t0.length : Int) 0 0 cache1Trial cache1Safe cache1New cache1Old
def S_impl_useAll_Segments_UseSegments (t0 : List Int) (cache1Trial : Int) (cache1Safe : Int) (cache1New : List Int) (cache1Old : List Int) (k : Int → Int → List Int → List Int → Int → Prop) : Prop := G_impl_useAll_Segments_UseSegments t0 cache1Trial cache1Safe cache1New cache1Old (fun t0 xt14 xhits8 xt15 xb4c0 xb4c1 xb4c2 xb4c3 => ∃ j, L0_impl_useAll_Segments_UseSegments t0 xt14 k j xhits8 xt15 xb4c0 xb4c1 xb4c2 xb4c3)
def F_impl_useAll_Segments_UseSegments (t : List Int) (trial safe : Int) (new old : List Int) (k : Int → Int → List Int → List Int → Int → Prop) : Prop :=
  (VTrace t ∧ VSegs trial safe new old) ∧ k trial safe (runS trial safe t new old 0).1 (runS trial safe t new old 0).2.1 (runS trial safe t new old 0).2.2
theorem F_impl_useAll_Segments_UseSegments_S {t : List Int} {trial safe : Int} {new old : List Int} {k : Int → Int → List Int → List Int → Int → Prop} (h : F_impl_useAll_Segments_UseSegments t trial safe new old k) : S_impl_useAll_Segments_UseSegments t trial safe new old k := by
  obtain ⟨⟨⟨t1, t2⟩, v⟩, hk⟩ := h
  have key : ∀ (r : List Int) (i : Nat) (a b : List Int) (n : Int), t.drop i = r → VSegs trial safe a b → 0 ≤ n → n ≤ i →
      k trial safe (runS trial safe r a b n).1 (runS trial safe r a b n).2.1 (runS trial safe r a b n).2.2 → L0_impl_useAll_Segments_UseSegments t (t.length : Int) k (r.length + 1) n (i : Int) trial safe a b := by
    intro r
    induction r with
    | nil =>
      intro i a b n hdr v n0 n1 hk
      have := drop_nil' hdr
      rw [L0_impl_useAll_Segments_UseSegments, T0_impl_useAll_Segments_UseSegments]
      simp only [br_dec]
      exact ⟨fun h => by omega, fun _ => hk⟩
    | cons x r ih =>
      intro i a b n hdr v n0 n1 hk
      obtain ⟨h1, h2, h5, h3, h4⟩ := drop_cons' hdr
      have hx := t2 x (List.mem_of_getElem? h5)
      rw [List.length_cons, L0_impl_useAll_Segments_UseSegments, T0_impl_useAll_Segments_UseSegments]
      simp only [br_dec, Int.toNat_natCast, h2]
      refine ⟨fun _ => ⟨⟨by omega, by omega⟩, fun _ => ?_, fun hv => absurd ⟨v, hx⟩ hv⟩, fun h => by omega⟩
      rw [runS] at hk
      rw [br_iff]
      refine ⟨fun e => ⟨inR (by omega) (by omega), inR (by omega) (by omega), ?_⟩, fun e => ⟨inR (by omega) (by omega), ?_⟩⟩
      · rw [e] at hk
        exact ih (i + 1) _ _ _ h3 (segM_valid v hx) (by omega) (by omega) hk
      · rw [e] at hk
        rw [show n + toI false = n by simp [toI]] at hk
        exact ih (i + 1) _ _ _ h3 (segM_valid v hx) (by omega) (by omega) hk
  exact ⟨_, key t 0 new old 0 rfl v (by omega) (by omega) hk⟩
-- impl.RunSegments
def G_impl_RunSegments (t0 : List Int) (trial1 : Int) (safe2 : Int) (k : Int → Int → List Int → List Int → Int → Prop) : Prop :=
  F_impl_ValidTrace t0 fun validTrace9 =>
  br (!validTrace9)
  (k 0 0 ([] : List Int) ([] : List Int) (-1))
  (F_impl_validRoom trial1 fun validRoom13 =>
    br (!validRoom13)
    (k 0 0 ([] : List Int) ([] : List Int) (-1))
    (F_impl_validRoom safe2 fun validRoom18 =>
      br (!validRoom18)
      (k 0 0 ([] : List Int) ([] : List Int) (-1))
      (F_impl_useAll_Segments_UseSegments t0 trial1 safe2 ([] : List Int) ([] : List Int) fun useAll26Trial useAll26Safe useAll26New useAll26Old useAll26r1 =>
        k useAll26Trial useAll26Safe useAll26New useAll26Old useAll26r1)))
def S_impl_RunSegments (t0 : List Int) (trial1 : Int) (safe2 : Int) (k : Int → Int → List Int → List Int → Int → Prop) : Prop := G_impl_RunSegments t0 trial1 safe2 k
def F_impl_RunSegments (t : List Int) (trial safe : Int) (k : Int → Int → List Int → List Int → Int → Prop) : Prop :=
  ((VTrace t ∧ (1 ≤ trial ∧ trial ≤ 8) ∧ 1 ≤ safe ∧ safe ≤ 8) → k trial safe (runS trial safe t [] [] 0).1 (runS trial safe t [] [] 0).2.1 (runS trial safe t [] [] 0).2.2) ∧
  (¬ (VTrace t ∧ (1 ≤ trial ∧ trial ≤ 8) ∧ 1 ≤ safe ∧ safe ≤ 8) → k 0 0 [] [] (-1))
theorem F_impl_RunSegments_S {t : List Int} {trial safe : Int} {k : Int → Int → List Int → List Int → Int → Prop} (h : F_impl_RunSegments t trial safe k) : S_impl_RunSegments t trial safe k := by
  obtain ⟨hyes, hno⟩ := h
  intro b hb
  rw [br_not, br_iff]
  refine ⟨fun e => br_not.2 (br_dec.2 ⟨fun hr => br_not.2 (br_dec.2 ⟨fun hs => ?_, fun hs => hno fun w => hs w.2.2⟩), fun hr => hno fun w => hr w.2.1⟩), fun e => hno fun v => by rw [hb.2 v.1] at e; cases e⟩
  have v := hb.1 e
  exact ⟨⟨v, segs0 hr hs⟩, hyes ⟨v, hr, hs⟩⟩
-- spec.inRange
def G_spec_inRange (n0 : Int) (low1 : Int) (high2 : Int) (k : Bool → Prop) : Prop :=
  br (decide (low1 ≤ n0))
  (k (decide (n0 ≤ high2)))
  (k false)
def S_spec_inRange (n0 : Int) (low1 : Int) (high2 : Int) (k : Bool → Prop) : Prop := G_spec_inRange n0 low1 high2 k
def F_spec_inRange (n low high : Int) (k : Bool → Prop) : Prop := k (decide (low ≤ n ∧ n ≤ high))
theorem F_spec_inRange_S {n low high : Int} {k : Bool → Prop} (h : F_spec_inRange n low high k) : S_spec_inRange n low high k := by
  unfold F_spec_inRange at h
  simp only [S_spec_inRange, G_spec_inRange, br_dec]
  refine ⟨fun h1 => ?_, fun h1 => ?_⟩
  · simpa [h1] using h
  · simpa [h1] using h
-- spec.allIn
def T0_spec_allIn (high2 : Int) (list0 : List Int) (low1 : Int) (xi7 : Int) (k : Bool → Prop) (B0 : Int → Prop) : Prop :=
  br (decide (xi7 < (list0.length : Int)))
  ((0 ≤ xi7 ∧ xi7 < (list0.length : Int)) ∧
    F_spec_inRange (List.getD list0 (Int.toNat xi7) (0 : Int)) low1 high2 fun inRange20 =>
    br (!inRange20)
    (k false)
    (InR (xi7 + 1) ∧
      B0 (xi7 + 1)))
  (k true)
def L0_spec_allIn (high2 : Int) (list0 : List Int) (low1 : Int) (k : Bool → Prop) : Nat → Int → Prop
  | 0, _ => False
  | n + 1, xi7 => T0_spec_allIn high2 list0 low1 xi7 k (L0_spec_allIn high2 list0 low1 k n)
def G_spec_allIn (list0 : List Int) (low1 : Int) (high2 : Int) (I0 : Int → List Int → Int → Int → Prop) : Prop :=
  I0 high2 list0 low1 0
def S_spec_allIn (list0 : List Int) (low1 : Int) (high2 : Int) (k : Bool → Prop) : Prop := G_spec_allIn list0 low1 high2 (fun high2 list0 low1 xi7 => ∃ j, L0_spec_allIn high2 list0 low1 k j xi7)
def F_spec_allIn (l : List Int) (low high : Int) (k : Bool → Prop) : Prop := l.length ≤ 1000000000 ∧ k (decide (∀ x ∈ l, low ≤ x ∧ x ≤ high))
theorem F_spec_allIn_S {l : List Int} {low high : Int} {k : Bool → Prop} (h : F_spec_allIn l low high k) : S_spec_allIn l low high k := by
  obtain ⟨hl, hk⟩ := h
  have key : ∀ (r : List Int) (i : Nat), l.drop i = r → ((∀ x ∈ r, low ≤ x ∧ x ≤ high) ↔ (∀ x ∈ l, low ≤ x ∧ x ≤ high)) → L0_spec_allIn high l low k (r.length + 1) (i : Int) := by
    intro r
    induction r with
    | nil =>
      intro i hd he
      have := drop_nil' hd
      rw [L0_spec_allIn, T0_spec_allIn]
      simp only [br_dec]
      refine ⟨fun h => by omega, fun _ => ?_⟩
      rwa [decide_eq_true (he.1 (by simp))] at hk
    | cons x r ih =>
      intro i hd he
      obtain ⟨h1, h2, _, h3, _⟩ := drop_cons' hd
      rw [List.length_cons, L0_spec_allIn, T0_spec_allIn]
      simp only [br_dec, F_spec_inRange, br_not, Int.toNat_natCast, h2]
      refine ⟨fun _ => ⟨⟨by omega, by omega⟩, fun hx => ⟨inR (by omega) (by omega), ?_⟩, fun hx => ?_⟩, fun h => by omega⟩
      · refine ih (i + 1) h3 (Iff.trans ?_ he)
        simp only [List.mem_cons, forall_eq_or_imp]
        exact ⟨fun h => ⟨hx, h⟩, fun h => h.2⟩
      · rwa [decide_eq_false (fun h => hx (he.2 h x (by simp)))] at hk
  exact ⟨_, key l 0 rfl Iff.rfl⟩
-- spec.validTrace
def G_spec_validTrace (t0 : List Int) (k : Bool → Prop) : Prop :=
  br (decide ((t0.length : Int) ≤ 24))
  (F_spec_allIn t0 (0 : Int) (31 : Int) fun allIn8 =>
    k allIn8)
  (k false)
def S_spec_validTrace (t0 : List Int) (k : Bool → Prop) : Prop := G_spec_validTrace t0 k
def F_spec_validTrace (t : List Int) (k : Bool → Prop) : Prop := ∀ b : Bool, (b = true ↔ VTrace t) → k b
theorem F_spec_validTrace_S {t : List Int} {k : Bool → Prop} (h : F_spec_validTrace t k) : S_spec_validTrace t k :=
  br_dec.2 ⟨fun h1 => ⟨by omega, h _ (by simp only [decide_eq_true_eq]; exact ⟨fun h2 => ⟨by omega, h2⟩, fun v => v.2⟩)⟩, fun h1 => h false (by simp only [Bool.false_eq_true, false_iff]; exact fun v => h1 (by have := v.1; omega))⟩
-- spec.placeOf
def T0_spec_placeOf (list0 : List Int) (n1 : Int) (xi5 : Int) (k : Int → Prop) (B0 : Int → Prop) : Prop :=
  br (decide (xi5 < (list0.length : Int)))
  ((0 ≤ xi5 ∧ xi5 < (list0.length : Int)) ∧
    br ((List.getD list0 (Int.toNat xi5) (0 : Int)) == n1)
    (k xi5)
    (InR (xi5 + 1) ∧
      B0 (xi5 + 1)))
  (k (-1))
def L0_spec_placeOf (list0 : List Int) (n1 : Int) (k : Int → Prop) : Nat → Int → Prop
  | 0, _ => False
  | n + 1, xi5 => T0_spec_placeOf list0 n1 xi5 k (L0_spec_placeOf list0 n1 k n)
def G_spec_placeOf (list0 : List Int) (n1 : Int) (I0 : List Int → Int → Int → Prop) : Prop :=
  I0 list0 n1 0
def S_spec_placeOf (list0 : List Int) (n1 : Int) (k : Int → Prop) : Prop := G_spec_placeOf list0 n1 (fun list0 n1 xi5 => ∃ j, L0_spec_placeOf list0 n1 k j xi5)
def F_spec_placeOf (l : List Int) (n : Int) (k : Int → Prop) : Prop := l.length ≤ 1000000000 ∧ k (plc l n)
theorem F_spec_placeOf_S {l : List Int} {n : Int} {k : Int → Prop} (h : F_spec_placeOf l n k) : S_spec_placeOf l n k := by
  obtain ⟨hl, hk⟩ := h
  have key : ∀ (r : List Int) (i : Nat), l.drop i = r → plcF r n i = plc l n → L0_spec_placeOf l n k (r.length + 1) (i : Int) := by
    intro r
    induction r with
    | nil =>
      intro i hd he
      have := drop_nil' hd
      rw [L0_spec_placeOf, T0_spec_placeOf]
      simp only [br_dec]
      exact ⟨fun h => by omega, fun _ => by rw [show (-1 : Int) = plc l n from he]; exact hk⟩
    | cons x r ih =>
      intro i hd he
      obtain ⟨h1, h2, _, h3, _⟩ := drop_cons' hd
      rw [List.length_cons, L0_spec_placeOf, T0_spec_placeOf]
      simp only [br_dec, br_beq, Int.toNat_natCast, h2]
      refine ⟨fun _ => ⟨⟨by omega, by omega⟩, fun hx => ?_, fun hx => ⟨inR (by omega) (by omega), ?_⟩⟩, fun h => by omega⟩
      · simp only [plcF, if_pos hx] at he; rw [he]; exact hk
      · simp only [plcF, if_neg hx] at he; exact ih (i + 1) h3 he
  exact ⟨_, key l 0 rfl rfl⟩
-- spec.without
def G_spec_without (list0 : List Int) (at1 : Int) (k : List Int → Prop) : Prop :=
  (0 ≤ at1 ∧ at1 ≤ (list0.length : Int)) ∧
  InR (at1 + 1) ∧
  (0 ≤ (at1 + 1) ∧ (at1 + 1) ≤ (list0.length : Int)) ∧
  (((0 + (List.length (List.take (Int.toNat at1) list0)) ≤ 1000000000) ∧
      (((List.length (List.take (Int.toNat at1) list0)) + (List.length (List.drop (Int.toNat (at1 + 1)) list0)) ≤ 1000000000) ∧
        k ((List.take (Int.toNat at1) list0) ++ (List.drop (Int.toNat (at1 + 1)) list0))) ∧
      (True)) ∧
    (True)) ∧
  (True)
def H_spec_without (list0 : List Int) (at1 : Int) (k : List Int → Prop) : Prop :=
  (0 ≤ at1 ∧ at1 ≤ (list0.length : Int)) ∧
  InR (at1 + 1) ∧
  (0 ≤ (at1 + 1) ∧ (at1 + 1) ≤ (list0.length : Int)) ∧
  (0 + (List.length (List.take (Int.toNat at1) list0)) ≤ 1000000000) ∧
  ((List.length (List.take (Int.toNat at1) list0)) + (List.length (List.drop (Int.toNat (at1 + 1)) list0)) ≤ 1000000000) ∧
  k ((List.take (Int.toNat at1) list0) ++ (List.drop (Int.toNat (at1 + 1)) list0))
theorem G_spec_without_eq (list0 : List Int) (at1 : Int) (k : List Int → Prop) : G_spec_without list0 at1 k = H_spec_without list0 at1 k := by
  simp only [G_spec_without, H_spec_without, and_self, and_true]
def S_spec_without (list0 : List Int) (at1 : Int) (k : List Int → Prop) : Prop := H_spec_without list0 at1 k
def F_spec_without (l : List Int) (at1 : Int) (k : List Int → Prop) : Prop := (0 ≤ at1 ∧ at1 < l.length ∧ l.length ≤ 1000000000) ∧ k (l.take at1.toNat ++ l.drop (at1.toNat + 1))
theorem F_spec_without_S {l : List Int} {at1 : Int} {k : List Int → Prop} (h : F_spec_without l at1 k) : S_spec_without l at1 k := by
  obtain ⟨⟨h1, h2, h3⟩, hk⟩ := h
  have e : (at1 + 1).toNat = at1.toNat + 1 := by omega
  refine ⟨⟨by omega, by omega⟩, inR (by omega) (by omega), ⟨by omega, by omega⟩, by simp; omega, by simp; omega, ?_⟩
  rw [e]; exact hk
-- spec.recent
def G_spec_recent (list0 : List Int) (room1 : Int) (key2 : Int) (k : List Int → Bool → Prop) : Prop :=
  F_spec_placeOf list0 key2 fun placeOf12 =>
  br (decide (placeOf12 ≥ 0))
  (F_spec_without list0 placeOf12 fun without19 =>
    (1 + without19.length ≤ 1000000000) ∧
    k (([key2] : List Int) ++ without19) true)
  ((1 + list0.length ≤ 1000000000) ∧
    (0 ≤ (if ((List.length (([key2] : List Int) ++ list0)) : Int) < room1 then ((List.length (([key2] : List Int) ++ list0)) : Int) else room1) ∧ (if ((List.length (([key2] : List Int) ++ list0)) : Int) < room1 then ((List.length (([key2] : List Int) ++ list0)) : Int) else room1) ≤ ((List.length (([key2] : List Int) ++ list0)) : Int)) ∧
    k (List.take (Int.toNat (if ((List.length (([key2] : List Int) ++ list0)) : Int) < room1 then ((List.length (([key2] : List Int) ++ list0)) : Int) else room1)) (List.drop 0 (([key2] : List Int) ++ list0))) false)
def S_spec_recent (list0 : List Int) (room1 : Int) (key2 : Int) (k : List Int → Bool → Prop) : Prop := G_spec_recent list0 room1 key2 k
def F_spec_recent (l : List Int) (room key : Int) (k : List Int → Bool → Prop) : Prop := VKeys l room ∧ k (recM l room key) (decide (key ∈ l))
theorem F_spec_recent_S {l : List Int} {room key : Int} {k : List Int → Bool → Prop} (h : F_spec_recent l room key k) : S_spec_recent l room key k := by
  obtain ⟨⟨v1, v2, v3, v4, v5⟩, hk⟩ := h
  refine ⟨by omega, br_dec.2 ⟨fun hp => ?_, fun hp => ?_⟩⟩
  · have hm := plc_ge.1 hp
    obtain ⟨j, j1, j2, _, j3⟩ := plc_pos hm
    rw [j3]
    refine ⟨⟨by omega, by omega, by omega⟩, ?_⟩
    rw [Int.toNat_natCast, rmK_erase v5 j2]
    have := rmK_len v5 hm
    refine ⟨by omega, ?_⟩
    rw [recM_hit v5 v3 hm, decide_eq_true hm] at hk; exact hk
  · have hm : key ∉ l := fun e => hp (plc_ge.2 e)
    refine ⟨by omega, ⟨?_, ?_⟩, ?_⟩
    · split <;> omega
    · split <;> omega
    · rw [recM_miss hm, decide_eq_false hm] at hk
      rw [List.drop_zero, take_min1]; exact hk
-- spec.promote
def G_spec_promote_j0 (copyInts15 : List Int) (copyInts18 : List Int) (key1 : Int) (s0Safe : Int) (s0Trial : Int) (k : Int → Int → List Int → List Int → Bool → Prop) : Prop :=
  (F_spec_placeOf copyInts18 key1 fun placeOf23 =>
    br (decide (placeOf23 ≥ 0))
    (F_spec_without copyInts18 placeOf23 fun without31 =>
      (1 + without31.length ≤ 1000000000) ∧
      k s0Trial s0Safe copyInts15 (([key1] : List Int) ++ without31) true)
    (F_spec_placeOf copyInts15 key1 fun placeOf38 =>
      br (decide (placeOf38 < 0))
      (F_spec_recent copyInts15 s0Trial key1 fun recent47r0 recent47r1 =>
        k s0Trial s0Safe recent47r0 copyInts18 false)
      (F_spec_without copyInts15 placeOf38 fun without55 =>
        (1 + copyInts18.length ≤ 1000000000) ∧
        br (decide (((List.length (([key1] : List Int) ++ copyInts18)) : Int) > s0Safe))
        ((0 ≤ s0Safe ∧ s0Safe < ((List.length (([key1] : List Int) ++ copyInts18)) : Int)) ∧
          (0 ≤ s0Safe ∧ s0Safe ≤ ((List.length (([key1] : List Int) ++ copyInts18)) : Int)) ∧
          (1 + without55.length ≤ 1000000000) ∧
          k s0Trial s0Safe (([(List.getD (([key1] : List Int) ++ copyInts18) (Int.toNat s0Safe) (0 : Int))] : List Int) ++ without55) (List.take (Int.toNat s0Safe) (List.drop 0 (([key1] : List Int) ++ copyInts18))) true)
        (k s0Trial s0Safe without55 (([key1] : List Int) ++ copyInts18) true)))) ∧
  (True)
def G_spec_promote_j1 (copyInts15 : List Int) (key1 : Int) (s0Old : List Int) (s0Safe : Int) (s0Trial : Int) (k : Int → Int → List Int → List Int → Bool → Prop) : Prop :=
  (F_spec_copyInts s0Old fun copyInts18 =>
    G_spec_promote_j0 copyInts15 copyInts18 key1 s0Safe s0Trial k) ∧
  (True)
def G_spec_promote (s0Trial : Int) (s0Safe : Int) (s0New : List Int) (s0Old : List Int) (key1 : Int) (k : Int → Int → List Int → List Int → Bool → Prop) : Prop :=
  (F_spec_copyInts s0New fun copyInts15 =>
    (F_spec_copyInts s0Old fun copyInts18 =>
      (G_spec_promote_j0 copyInts15 copyInts18 key1 s0Safe s0Trial k) ∧
      (True)) ∧
    ((G_spec_promote_j1 copyInts15 key1 s0Old s0Safe s0Trial k) ∧
      (True))) ∧
  (((F_spec_copyInts s0New fun copyInts15 =>
        G_spec_promote_j1 copyInts15 key1 s0Old s0Safe s0Trial k) ∧
      (True)) ∧
    (True))
def H_spec_promote (s0Trial : Int) (s0Safe : Int) (s0New : List Int) (s0Old : List Int) (key1 : Int) (k : Int → Int → List Int → List Int → Bool → Prop) : Prop :=
  F_spec_copyInts s0New fun copyInts15 =>
  F_spec_copyInts s0Old fun copyInts18 =>
  F_spec_placeOf copyInts18 key1 fun placeOf23 =>
  br (decide (placeOf23 ≥ 0))
  (F_spec_without copyInts18 placeOf23 fun without31 =>
    (1 + without31.length ≤ 1000000000) ∧
    k s0Trial s0Safe copyInts15 (([key1] : List Int) ++ without31) true)
  (F_spec_placeOf copyInts15 key1 fun placeOf38 =>
    br (decide (placeOf38 < 0))
    (F_spec_recent copyInts15 s0Trial key1 fun recent47r0 recent47r1 =>
      k s0Trial s0Safe recent47r0 copyInts18 false)
    (F_spec_without copyInts15 placeOf38 fun without55 =>
      (1 + copyInts18.length ≤ 1000000000) ∧
      br (decide (((List.length (([key1] : List Int) ++ copyInts18)) : Int) > s0Safe))
      ((0 ≤ s0Safe ∧ s0Safe < ((List.length (([key1] : List Int) ++ copyInts18)) : Int)) ∧
        (0 ≤ s0Safe ∧ s0Safe ≤ ((List.length (([key1] : List Int) ++ copyInts18)) : Int)) ∧
        (1 + without55.length ≤ 1000000000) ∧
        k s0Trial s0Safe (([(List.getD (([key1] : List Int) ++ copyInts18) (Int.toNat s0Safe) (0 : Int))] : List Int) ++ without55) (List.take (Int.toNat s0Safe) (List.drop 0 (([key1] : List Int) ++ copyInts18))) true)
      (k s0Trial s0Safe without55 (([key1] : List Int) ++ copyInts18) true)))
theorem G_spec_promote_eq (s0Trial : Int) (s0Safe : Int) (s0New : List Int) (s0Old : List Int) (key1 : Int) (k : Int → Int → List Int → List Int → Bool → Prop) : G_spec_promote s0Trial s0Safe s0New s0Old key1 k = H_spec_promote s0Trial s0Safe s0New s0Old key1 k := by
  simp only [G_spec_promote, H_spec_promote, G_spec_promote_j0, G_spec_promote_j1, and_self, and_true]
def S_spec_promote (s0Trial : Int) (s0Safe : Int) (s0New : List Int) (s0Old : List Int) (key1 : Int) (k : Int → Int → List Int → List Int → Bool → Prop) : Prop := H_spec_promote s0Trial s0Safe s0New s0Old key1 k
def F_spec_promote (trial safe : Int) (new old : List Int) (key : Int) (k : Int → Int → List Int → List Int → Bool → Prop) : Prop :=
  VSegs trial safe new old ∧ k trial safe (segM trial safe new old key).1 (segM trial safe new old key).2.1 (segM trial safe new old key).2.2
theorem F_spec_promote_S {trial safe : Int} {new old : List Int} {key : Int} {k : Int → Int → List Int → List Int → Bool → Prop} (h : F_spec_promote trial safe new old key k) : S_spec_promote trial safe new old key k := by
  obtain ⟨v, hk⟩ := h
  have l1 := segs_len v
  obtain ⟨v1, v2, v3⟩ := v
  have ho8 := v2.2.2.1
  have hs1 := v2.1
  unfold segM at hk
  refine ⟨by omega, by omega, by omega, br_dec.2 ⟨fun hp => ?_, fun hp => ⟨by omega, br_dec.2 ⟨fun hq => ?_, fun hq => ?_⟩⟩⟩⟩
  · have hm := plc_ge.1 hp
    rw [if_pos hm] at hk
    obtain ⟨j, j1, j2, _, j3⟩ := plc_pos hm
    rw [j3]
    refine ⟨⟨by omega, by omega, by omega⟩, ?_⟩
    rw [Int.toNat_natCast, rmK_erase v2.2.2.2.2 j2]
    have := @rmK_le old key
    exact ⟨by omega, hk⟩
  · have hm : key ∉ old := fun e => hp (plc_ge.2 e)
    have hn : key ∉ new := fun e => by have := plc_ge.2 e; omega
    rw [if_neg hm, if_neg hn] at hk
    refine ⟨v1, ?_⟩
    rw [recM_miss hn]; exact hk
  · have hm : key ∉ old := fun e => hp (plc_ge.2 e)
    have hn : key ∈ new := plc_ge.1 (by omega)
    rw [if_neg hm, if_pos hn] at hk
    obtain ⟨j, j1, j2, _, j3⟩ := plc_pos hn
    rw [j3]
    refine ⟨⟨by omega, by omega, by omega⟩, ?_⟩
    rw [Int.toNat_natCast, rmK_erase v1.2.2.2.2 j2]
    have := @rmK_le new key
    refine ⟨by omega, br_dec.2 ⟨fun hs => ?_, fun hs => ?_⟩⟩
    · simp only [List.length_append, List.length_cons, List.length_nil] at hs
      rw [if_pos (show (old.length : Int) = safe by omega)] at hk
      refine ⟨⟨by omega, by simp; omega⟩, ⟨by omega, by simp; omega⟩, by omega, ?_⟩
      have e1 : ([key] ++ old).getD safe.toNat 0 = old.getD (old.length - 1) 0 := by
        rw [show safe.toNat = (old.length - 1) + 1 by omega]; rfl
      rw [e1]; exact hk
    · simp only [List.length_append, List.length_cons, List.length_nil] at hs
      rw [if_neg (show ¬ (old.length : Int) = safe by omega), List.take_of_length_le (by simp; omega)] at hk
      exact hk
-- spec.toInt
def G_spec_toInt (b0 : Bool) (k : Int → Prop) : Prop :=
  br b0
  (k 1)
  (k 0)
def S_spec_toInt (b0 : Bool) (k : Int → Prop) : Prop := G_spec_toInt b0 k
def F_spec_toInt (b : Bool) (k : Int → Prop) : Prop := k (toI b)
theorem F_spec_toInt_S {b : Bool} {k : Int → Prop} (h : F_spec_toInt b k) : S_spec_toInt b k := by
  cases b <;> exact h
-- spec.RunSegments
def T0_spec_RunSegments (t0 : List Int) (xn9 : Int) (xi10 : Int) (xb8c0 : Int) (xb8c1 : Int) (xb8c2 : List Int) (xb8c3 : List Int) (k : Int → Int → List Int → List Int → Int → Prop) (B0 : Int → Int → Int → Int → List Int → List Int → Prop) : Prop :=
  br (decide (xi10 < (t0.length : Int)))
  ((0 ≤ xi10 ∧ xi10 < (t0.length : Int)) ∧
    ((F_spec_promote xb8c0 xb8c1 xb8c2 xb8c3 (List.getD t0 (Int.toNat xi10) (0 : Int)) fun promote43Trial promote43Safe promote43New promote43Old promote43r1 =>
        (F_spec_toInt promote43r1 fun toInt48 =>
          InR (xn9 + toInt48) ∧
          InR (xi10 + 1) ∧
          B0 (xn9 + toInt48) (xi10 + 1) promote43Trial promote43Safe promote43New promote43Old) ∧
        (True)) ∧
      (True)) ∧
    (True))
  (k xb8c0 xb8c1 xb8c2 xb8c3 xn9)
def U0_spec_RunSegments (t0 : List Int) (xn9 : Int) (xi10 : Int) (xb8c0 : Int) (xb8c1 : Int) (xb8c2 : List Int) (xb8c3 : List Int) (k : Int → Int → List Int → List Int → Int → Prop) (B0 : Int → Int → Int → Int → List Int → List Int → Prop) : Prop :=
  br (decide (xi10 < (t0.length : Int)))
  ((0 ≤ xi10 ∧ xi10 < (t0.length : Int)) ∧
    F_spec_promote xb8c0 xb8c1 xb8c2 xb8c3 (List.getD t0 (Int.toNat xi10) (0 : Int)) fun promote43Trial promote43Safe promote43New promote43Old promote43r1 =>
    F_spec_toInt promote43r1 fun toInt48 =>
    InR (xn9 + toInt48) ∧
    InR (xi10 + 1) ∧
    B0 (xn9 + toInt48) (xi10 + 1) promote43Trial promote43Safe promote43New promote43Old)
  (k xb8c0 xb8c1 xb8c2 xb8c3 xn9)
theorem T0_spec_RunSegments_eq (t0 : List Int) (xn9 : Int) (xi10 : Int) (xb8c0 : Int) (xb8c1 : Int) (xb8c2 : List Int) (xb8c3 : List Int) (k : Int → Int → List Int → List Int → Int → Prop) (B0 : Int → Int → Int → Int → List Int → List Int → Prop) : T0_spec_RunSegments t0 xn9 xi10 xb8c0 xb8c1 xb8c2 xb8c3 k B0 = U0_spec_RunSegments t0 xn9 xi10 xb8c0 xb8c1 xb8c2 xb8c3 k B0 := by
  simp only [T0_spec_RunSegments, U0_spec_RunSegments, and_self, and_true]
def L0_spec_RunSegments (t0 : List Int) (k : Int → Int → List Int → List Int → Int → Prop) : Nat → Int → Int → Int → Int → List Int → List Int → Prop
  | 0, _, _, _, _, _, _ => False
  | n + 1, xn9, xi10, xb8c0, xb8c1, xb8c2, xb8c3 => U0_spec_RunSegments t0 xn9 xi10 xb8c0 xb8c1 xb8c2 xb8c3 k (L0_spec_RunSegments t0 k n)
def G_spec_RunSegments (t0 : List Int) (trial1 : Int) (safe2 : Int) (k : Int → Int → List Int → List Int → Int → Prop) (I0 : List Int → Int → Int → Int → Int → List Int → List Int → Prop) : Prop :=
  F_spec_validTrace t0 fun validTrace13 =>
  br (!validTrace13)
  (k 0 0 ([] : List Int) ([] : List Int) (-1))
  (F_spec_inRange trial1 (1 : Int) (8 : Int) fun inRange17 =>
    br (!inRange17)
    (k 0 0 ([] : List Int) ([] : List Int) (-1))
    (F_spec_inRange safe2 (1 : Int) (8 : Int) fun inRange22 =>
      br (!inRange22)
      (k 0 0 ([] : List Int) ([] : List Int) (-1))
      (I0 t0 0 0 trial1 safe2 ([] : List Int) ([] : List Int))))
def S_spec_RunSegments (t0 : List Int) (trial1 : Int) (safe2 : Int) (k : Int → Int → List Int → List Int → Int → Prop) : Prop := G_spec_RunSegments t0 trial1 safe2 k (fun t0 xn9 xi10 xb8c0 xb8c1 xb8c2 xb8c3 => ∃ j, L0_spec_RunSegments t0 k j xn9 xi10 xb8c0 xb8c1 xb8c2 xb8c3)
def F_spec_RunSegments (t : List Int) (trial safe : Int) (k : Int → Int → List Int → List Int → Int → Prop) : Prop :=
  ((VTrace t ∧ (1 ≤ trial ∧ trial ≤ 8) ∧ 1 ≤ safe ∧ safe ≤ 8) → k trial safe (runS trial safe t [] [] 0).1 (runS trial safe t [] [] 0).2.1 (runS trial safe t [] [] 0).2.2) ∧
  (¬ (VTrace t ∧ (1 ≤ trial ∧ trial ≤ 8) ∧ 1 ≤ safe ∧ safe ≤ 8) → k 0 0 [] [] (-1))
theorem F_spec_RunSegments_S {t : List Int} {trial safe : Int} {k : Int → Int → List Int → List Int → Int → Prop} (h : F_spec_RunSegments t trial safe k) : S_spec_RunSegments t trial safe k := by
  obtain ⟨hyes, hno⟩ := h
  intro b hb
  rw [br_not, br_iff]
  refine ⟨fun e => br_not.2 (br_dec.2 ⟨fun hr => br_not.2 (br_dec.2 ⟨fun hs => ?_, fun hs => hno fun w => hs w.2.2⟩), fun hr => hno fun w => hr w.2.1⟩), fun e => hno fun v => by rw [hb.2 v.1] at e; cases e⟩
  have v := hb.1 e
  have hk := hyes ⟨v, hr, hs⟩
  have t2 := v.2
  have t1 := v.1
  have key : ∀ (r : List Int) (i : Nat) (a b : List Int) (n : Int), t.drop i = r → VSegs trial safe a b → 0 ≤ n → n ≤ i →
      k trial safe (runS trial safe r a b n).1 (runS trial safe r a b n).2.1 (runS trial safe r a b n).2.2 → L0_spec_RunSegments t k (r.length + 1) n (i : Int) trial safe a b := by
    intro r
    induction r with
    | nil =>
      intro i a b n hdr v n0 n1 hk
      have := drop_nil' hdr
      rw [L0_spec_RunSegments, U0_spec_RunSegments]
      simp only [br_dec]
      exact ⟨fun h => by omega, fun _ => hk⟩
    | cons x r ih =>
      intro i a b n hdr v n0 n1 hk
      obtain ⟨h1, h2, h5, h3, h4⟩ := drop_cons' hdr
      have hx := t2 x (List.mem_of_getElem? h5)
      rw [List.length_cons, L0_spec_RunSegments, U0_spec_RunSegments]
      simp only [br_dec, Int.toNat_natCast, h2]
      have := toI_01 (segM trial safe a b x).2.2
      exact ⟨fun _ => ⟨⟨by omega, by omega⟩, v, inR (by omega) (by omega), inR (by omega) (by omega), ih (i + 1) _ _ _ h3 (segM_valid v hx) (by omega) (by omega) hk⟩, fun h => by omega⟩
  exact ⟨_, key t 0 [] [] 0 rfl (segs0 hr hs) (by omega) (by omega) hk⟩
-- laws.equalInts
def T0_laws_equalInts (a0 : List Int) (b1 : List Int) (xi5 : Int) (k : Bool → Prop) (B0 : Int → Prop) : Prop :=
  br (decide (xi5 < (a0.length : Int)))
  ((0 ≤ xi5 ∧ xi5 < (a0.length : Int)) ∧
    (0 ≤ xi5 ∧ xi5 < (b1.length : Int)) ∧
    br ((List.getD a0 (Int.toNat xi5) (0 : Int)) != (List.getD b1 (Int.toNat xi5) (0 : Int)))
    (k false)
    (InR (xi5 + 1) ∧
      B0 (xi5 + 1)))
  (k true)
def L0_laws_equalInts (a0 : List Int) (b1 : List Int) (k : Bool → Prop) : Nat → Int → Prop
  | 0, _ => False
  | n + 1, xi5 => T0_laws_equalInts a0 b1 xi5 k (L0_laws_equalInts a0 b1 k n)
def G_laws_equalInts (a0 : List Int) (b1 : List Int) (k : Bool → Prop) (I0 : List Int → List Int → Int → Prop) : Prop :=
  br ((a0.length : Int) != (b1.length : Int))
  (k false)
  (I0 a0 b1 0)
def S_laws_equalInts (a0 : List Int) (b1 : List Int) (k : Bool → Prop) : Prop := G_laws_equalInts a0 b1 k (fun a0 b1 xi5 => ∃ j, L0_laws_equalInts a0 b1 k j xi5)
def F_laws_equalInts (a b : List Int) (k : Bool → Prop) : Prop := a.length ≤ 1000000000 ∧ k (decide (a = b))
theorem F_laws_equalInts_S {a b : List Int} {k : Bool → Prop} (h : F_laws_equalInts a b k) : S_laws_equalInts a b k := by
  obtain ⟨hl, hk⟩ := h
  refine br_bne.2 ⟨fun he => by rwa [decide_eq_false (fun e => he (by rw [e]))] at hk, fun he => ?_⟩
  have he : a.length = b.length := by omega
  have key : ∀ (r : List Int) (i : Nat), a.drop i = r → (r = b.drop i ↔ a = b) → L0_laws_equalInts a b k (r.length + 1) (i : Int) := by
    intro r
    induction r with
    | nil =>
      intro i hd hi
      have := drop_nil' hd
      rw [L0_laws_equalInts, T0_laws_equalInts]
      simp only [br_dec]
      exact ⟨fun h => by omega, fun _ => by rwa [decide_eq_true (hi.1 (List.drop_eq_nil_of_le (by omega)).symm)] at hk⟩
    | cons x r ih =>
      intro i hd hi
      obtain ⟨h1, h2, _, h3, _⟩ := drop_cons' hd
      obtain ⟨y, s, hs⟩ : ∃ y s, b.drop i = y :: s := by
        cases e : b.drop i with
        | nil => have := drop_nil' e; omega
        | cons y s => exact ⟨y, s, rfl⟩
      obtain ⟨g1, g2, _, g3, _⟩ := drop_cons' hs
      rw [List.length_cons, L0_laws_equalInts, T0_laws_equalInts]
      simp only [br_dec, br_bne, Int.toNat_natCast, h2, g2]
      rw [hs] at hi
      refine ⟨fun _ => ⟨⟨by omega, by omega⟩, ⟨by omega, by omega⟩, ?_⟩, fun h => by omega⟩
      have go : x = y → L0_laws_equalInts a b k (r.length + 1) ((i : Int) + 1) := fun hx => ih (i + 1) h3 (by rw [g3, ← hi, hx]; simp)
      have no : x ≠ y → k false := fun hx => by rwa [decide_eq_false (fun e => hx (List.cons.inj (hi.2 e)).1)] at hk
      exact ⟨no, fun hx => ⟨inR (by omega) (by omega), go hx⟩⟩
  exact ⟨_, key a 0 rfl (by simp)⟩
-- laws.equalSegments
def G_laws_equalSegments (a0Trial : Int) (a0Safe : Int) (a0New : List Int) (a0Old : List Int) (b1Trial : Int) (b1Safe : Int) (b1New : List Int) (b1Old : List Int) (k : Bool → Prop) : Prop :=
  br (a0Trial == b1Trial)
  (br (a0Safe == b1Safe)
    (F_laws_equalInts a0New b1New fun equalInts22 =>
      br equalInts22
      (F_laws_equalInts a0Old b1Old fun equalInts29 =>
        k equalInts29)
      (k false))
    (k false))
  (k false)
def S_laws_equalSegments (a0Trial : Int) (a0Safe : Int) (a0New : List Int) (a0Old : List Int) (b1Trial : Int) (b1Safe : Int) (b1New : List Int) (b1Old : List Int) (k : Bool → Prop) : Prop := G_laws_equalSegments a0Trial a0Safe a0New a0Old b1Trial b1Safe b1New b1Old k
def F_laws_equalSegments (t1 s1 : Int) (a1 b1 : List Int) (t2 s2 : Int) (a2 b2 : List Int) (k : Bool → Prop) : Prop :=
  (a1.length ≤ 1000000000 ∧ b1.length ≤ 1000000000) ∧ ∀ b : Bool, (b = true ↔ t1 = t2 ∧ s1 = s2 ∧ a1 = a2 ∧ b1 = b2) → k b
theorem F_laws_equalSegments_S {t1 s1 : Int} {a1 b1 : List Int} {t2 s2 : Int} {a2 b2 : List Int} {k : Bool → Prop} (h : F_laws_equalSegments t1 s1 a1 b1 t2 s2 a2 b2 k) : S_laws_equalSegments t1 s1 a1 b1 t2 s2 a2 b2 k := by
  obtain ⟨⟨l1, l2⟩, hk⟩ := h
  refine br_beq.2 ⟨fun e1 => br_beq.2 ⟨fun e2 => ⟨l1, br_dec.2 ⟨fun e3 => ⟨l2, hk _ (by simp [e1, e2, e3])⟩, fun e3 => hk _ (by simp [e3])⟩⟩, fun e2 => hk _ (by simp [e2])⟩, fun e1 => hk _ (by simp [e1])⟩
theorem equalSegments_same {t1 s1 : Int} {a1 b1 : List Int} {k : Bool → Prop} (l1 : a1.length ≤ 1000000000) (l2 : b1.length ≤ 1000000000) (h : k true) : F_laws_equalSegments t1 s1 a1 b1 t1 s1 a1 b1 k :=
  ⟨⟨l1, l2⟩, all_t ⟨rfl, rfl, rfl, rfl⟩ h⟩
-- laws.isIn
def T0_laws_isIn (list0 : List Int) (n1 : Int) (xi5 : Int) (k : Bool → Prop) (B0 : Int → Prop) : Prop :=
  br (decide (xi5 < (list0.length : Int)))
  ((0 ≤ xi5 ∧ xi5 < (list0.length : Int)) ∧
    br ((List.getD list0 (Int.toNat xi5) (0 : Int)) == n1)
    (k true)
    (InR (xi5 + 1) ∧
      B0 (xi5 + 1)))
  (k false)
def L0_laws_isIn (list0 : List Int) (n1 : Int) (k : Bool → Prop) : Nat → Int → Prop
  | 0, _ => False
  | n + 1, xi5 => T0_laws_isIn list0 n1 xi5 k (L0_laws_isIn list0 n1 k n)
def G_laws_isIn (list0 : List Int) (n1 : Int) (I0 : List Int → Int → Int → Prop) : Prop :=
  I0 list0 n1 0
def S_laws_isIn (list0 : List Int) (n1 : Int) (k : Bool → Prop) : Prop := G_laws_isIn list0 n1 (fun list0 n1 xi5 => ∃ j, L0_laws_isIn list0 n1 k j xi5)
def F_laws_isIn (l : List Int) (n : Int) (k : Bool → Prop) : Prop := l.length ≤ 1000000000 ∧ k (decide (n ∈ l))
theorem F_laws_isIn_S {l : List Int} {n : Int} {k : Bool → Prop} (h : F_laws_isIn l n k) : S_laws_isIn l n k := by
  obtain ⟨hl, hk⟩ := h
  have key : ∀ (r : List Int) (i : Nat), l.drop i = r → (n ∈ r ↔ n ∈ l) → L0_laws_isIn l n k (r.length + 1) (i : Int) := by
    intro r
    induction r with
    | nil =>
      intro i hd he
      have := drop_nil' hd
      rw [L0_laws_isIn, T0_laws_isIn]
      simp only [br_dec]
      exact ⟨fun h => by omega, fun _ => by rwa [decide_eq_false (fun h => absurd (he.2 h) (by simp))] at hk⟩
    | cons x r ih =>
      intro i hd he
      obtain ⟨h1, h2, h5, h3, _⟩ := drop_cons' hd
      rw [List.length_cons, L0_laws_isIn, T0_laws_isIn]
      simp only [br_dec, br_beq, Int.toNat_natCast, h2]
      refine ⟨fun _ => ⟨⟨by omega, by omega⟩, fun hx => ?_, fun hx => ⟨inR (by omega) (by omega), ih (i + 1) h3 (Iff.trans ?_ he)⟩⟩, fun h => by omega⟩
      · rwa [decide_eq_true (he.1 (by simp [hx]))] at hk
      · simp [Ne.symm hx]
  exact ⟨_, key l 0 rfl Iff.rfl⟩
-- laws.FnRunSegmentsScan
def T0_laws_FnRunSegmentsScan (drawRunSegments17r0 : List Int) (runSegments25New : List Int) (runSegments25Old : List Int) (runSegments25Safe : Int) (runSegments25Trial : Int) (xkey11 : Int) (xb10c0 : Int) (xb10c1 : Int) (xb10c2 : List Int) (xb10c3 : List Int) (k : Bool → Prop) (B0 : Int → Int → Int → List Int → List Int → Prop) : Prop :=
  br (decide (xkey11 ≤ 31))
  (F_laws_isIn drawRunSegments17r0 xkey11 fun isIn63 =>
    br (!isIn63)
    (F_impl_UseSegments xb10c0 xb10c1 xb10c2 xb10c3 xkey11 fun useSegments68Trial useSegments68Safe useSegments68New useSegments68Old useSegments68r1 =>
      InR (xkey11 + 1) ∧
      B0 (xkey11 + 1) useSegments68Trial useSegments68Safe useSegments68New useSegments68Old)
    (InR (xkey11 + 1) ∧
      B0 (xkey11 + 1) xb10c0 xb10c1 xb10c2 xb10c3))
  (F_laws_equalInts xb10c3 runSegments25Old fun equalInts75 =>
    k equalInts75)
def L0_laws_FnRunSegmentsScan (drawRunSegments17r0 : List Int) (runSegments25New : List Int) (runSegments25Old : List Int) (runSegments25Safe : Int) (runSegments25Trial : Int) (k : Bool → Prop) : Nat → Int → Int → Int → List Int → List Int → Prop
  | 0, _, _, _, _, _ => False
  | n + 1, xkey11, xb10c0, xb10c1, xb10c2, xb10c3 => T0_laws_FnRunSegmentsScan drawRunSegments17r0 runSegments25New runSegments25Old runSegments25Safe runSegments25Trial xkey11 xb10c0 xb10c1 xb10c2 xb10c3 k (L0_laws_FnRunSegmentsScan drawRunSegments17r0 runSegments25New runSegments25Old runSegments25Safe runSegments25Trial k n)
def G_laws_FnRunSegmentsScan_j0 (runSegments25New : List Int) (runSegments25Old : List Int) (runSegments25Safe : Int) (runSegments25Trial : Int) (runSegments25r1 : Int) (runSegments32New : List Int) (runSegments32Old : List Int) (runSegments32Safe : Int) (runSegments32Trial : Int) (runSegments32r1 : Int) (k : Bool → Prop) : Prop :=
  F_laws_equalSegments runSegments25Trial runSegments25Safe runSegments25New runSegments25Old runSegments32Trial runSegments32Safe runSegments32New runSegments32Old fun equalSegments50 =>
  br equalSegments50
  (k (runSegments25r1 == runSegments32r1))
  (k false)
def G_laws_FnRunSegmentsScan (code0 : List Int) (k : Bool → Prop) (I0 : List Int → List Int → List Int → Int → Int → Int → Int → Int → List Int → List Int → Prop) : Prop :=
  br (decide ((code0.length : Int) > 1048576))
  (k true)
  (F_spec_DrawRunSegments code0 fun drawRunSegments17r0 drawRunSegments17r1 drawRunSegments17r2 =>
    F_impl_RunSegments drawRunSegments17r0 drawRunSegments17r1 drawRunSegments17r2 fun runSegments25Trial runSegments25Safe runSegments25New runSegments25Old runSegments25r1 =>
    F_spec_RunSegments drawRunSegments17r0 drawRunSegments17r1 drawRunSegments17r2 fun runSegments32Trial runSegments32Safe runSegments32New runSegments32Old runSegments32r1 =>
    F_laws_equalSegments runSegments25Trial runSegments25Safe runSegments25New runSegments25Old runSegments32Trial runSegments32Safe runSegments32New runSegments32Old fun equalSegments37 =>
    br (!equalSegments37)
    (G_laws_FnRunSegmentsScan_j0 runSegments25New runSegments25Old runSegments25Safe runSegments25Trial runSegments25r1 runSegments32New runSegments32Old runSegments32Safe runSegments32Trial runSegments32r1 k)
    (br (runSegments25r1 != runSegments32r1)
      (G_laws_FnRunSegmentsScan_j0 runSegments25New runSegments25Old runSegments25Safe runSegments25Trial runSegments25r1 runSegments32New runSegments32Old runSegments32Safe runSegments32Trial runSegments32r1 k)
      (br (decide (runSegments25r1 < 0))
        (G_laws_FnRunSegmentsScan_j0 runSegments25New runSegments25Old runSegments25Safe runSegments25Trial runSegments25r1 runSegments32New runSegments32Old runSegments32Safe runSegments32Trial runSegments32r1 k)
        (I0 drawRunSegments17r0 runSegments25New runSegments25Old runSegments25Safe runSegments25Trial 0 runSegments25Trial runSegments25Safe runSegments25New runSegments25Old))))
def S_laws_FnRunSegmentsScan (code0 : List Int) (k : Bool → Prop) : Prop := G_laws_FnRunSegmentsScan code0 k (fun drawRunSegments17r0 runSegments25New runSegments25Old runSegments25Safe runSegments25Trial xkey11 xb10c0 xb10c1 xb10c2 xb10c3 => ∃ j, L0_laws_FnRunSegmentsScan drawRunSegments17r0 runSegments25New runSegments25Old runSegments25Safe runSegments25Trial k j xkey11 xb10c0 xb10c1 xb10c2 xb10c3)
abbrev F_laws_FnRunSegmentsScan (code0 : List Int) (k : Bool → Prop) : Prop := S_laws_FnRunSegmentsScan code0 k
theorem F_laws_FnRunSegmentsScan_S {code0 : List Int} {k : Bool → Prop} (h : F_laws_FnRunSegmentsScan code0 k) : S_laws_FnRunSegmentsScan code0 k := h
theorem law_FnRunSegmentsScan (code : List Int) (hb : ∀ x ∈ code, 0 ≤ x ∧ x ≤ 255) : F_laws_FnRunSegmentsScan code (fun r => r = true) := by
  refine br_dec.2 ⟨fun _ => rfl, fun hlen => ⟨hb, fun t trial safe l1 => ?_⟩⟩
  by_cases v : VTrace t ∧ (1 ≤ trial ∧ trial ≤ 8) ∧ 1 ≤ safe ∧ safe ≤ 8
  · refine ⟨fun _ => ⟨fun _ => ?_, fun h => absurd v h⟩, fun h => absurd v h⟩
    have hv := runS_valid t [] [] 0 (segs0 v.2.1 v.2.2) v.1.2
    obtain ⟨r1, r2, r3⟩ := id hv
    have hl : (runS trial safe t [] [] 0).1.length ≤ 1000000000 ∧ (runS trial safe t [] [] 0).2.1.length ≤ 1000000000 := by
      have := segs_len r1
      omega
    have hsub := fun x => runS_sub (trial := trial) (safe := safe) (x := x) t [] [] 0 (segs0 v.2.1 v.2.2) v.1.2
    refine equalSegments_same hl.1 hl.2 (br_nt (br_same' (br_dec.2 ⟨fun h => by omega, fun _ => ?_⟩)))
    generalize runS trial safe t [] [] 0 = q at *
    obtain ⟨a0, b0, n⟩ := q
    dsimp only at r1 hl hsub ⊢
    have key1 : ∀ (d : Nat) (i : Int) (a b : List Int), i + d = 32 → 0 ≤ i → VSegs trial safe a b → b = b0 → (∀ x, x ∈ a ∨ x ∈ b → x ∈ t ∨ x < i) →
        L0_laws_FnRunSegmentsScan t a0 b0 safe trial (fun r => r = true) (d + 1) i trial safe a b := by
      intro d
      induction d with
      | zero =>
        intro i a b hi h0 hv hb hx
        rw [L0_laws_FnRunSegmentsScan, T0_laws_FnRunSegmentsScan]
        exact br_dec.2 ⟨fun h => by omega, fun _ => ⟨by rw [hb]; exact hl.2, decide_eq_true hb⟩⟩
      | succ d ih =>
        intro i a b hi h0 hv hb hx
        rw [L0_laws_FnRunSegmentsScan, T0_laws_FnRunSegmentsScan]
        refine br_dec.2 ⟨fun hle => ⟨by have := v.1.1; omega, br_not.2 (br_dec.2 ⟨fun hm => ⟨inR (by omega) (by omega), ih (i + 1) a b (by omega) (by omega) hv hb fun x h => ?_⟩, fun hm => ⟨fun _ => ⟨inR (by omega) (by omega), ?_⟩, fun h => absurd ⟨hv, by omega, by omega⟩ h⟩⟩)⟩, fun h => by omega⟩
        · rcases hx x h with h | h
          · exact .inl h
          · exact .inr (by omega)
        · have hno : ¬ (i ∈ a ∨ i ∈ b) := fun h => by
            rcases hx i h with h | h
            · exact hm h
            · omega
          have hval := segM_valid (key := i) hv (by omega)
          rw [segM_miss hno] at hval ⊢
          refine ih (i + 1) _ b (by omega) (by omega) hval hb fun x h => ?_
          have hx2 : x = i ∨ x ∈ a ∨ x ∈ b := by
            rcases h with h | h
            · rcases List.mem_cons.1 (List.mem_of_mem_take h) with h | h
              · exact .inl h
              · exact .inr (.inl h)
            · exact .inr (.inr h)
          rcases hx2 with h | h
          · exact .inr (by omega)
          · rcases hx x h with h | h
            · exact .inl h
            · exact .inr (by omega)
    refine ⟨33, key1 32 0 a0 b0 (by omega) (by omega) r1 rfl fun x h => .inl ?_⟩
    rcases hsub x h with h | h | h
    · exact h
    · cases h
    · cases h
  · refine ⟨fun h => absurd h v, fun _ => ⟨fun h => absurd h v, fun _ => ?_⟩⟩
    exact equalSegments_same (by simp) (by simp) (br_nt (br_same' (br_dec.2 ⟨fun _ => equalSegments_same (by simp) (by simp) rfl, fun h => by omega⟩)))
end Go.Ev
