/- What the functions that the law reaches do, written as plain Lean. No statement is proved here. -/
import Derived.Test.YtnkmhjdenddpbacEvT
namespace Go.Ev
set_option linter.unusedVariables false
open Go
theorem br_iff {b : Bool} {A B : Prop} : br b A B ↔ (b = true → A) ∧ (b = false → B) := by cases b <;> simp [br]
theorem br_f {A B : Prop} : br false A B = B := rfl
theorem br_dec {p : Prop} [Decidable p] {A B : Prop} : br (decide p) A B ↔ (p → A) ∧ (¬ p → B) := by rw [br_iff]; simp
theorem br_beq {a b : Int} {A B : Prop} : br (a == b) A B ↔ (a = b → A) ∧ (a ≠ b → B) := by rw [br_iff]; simp
theorem br_bne {a b : Int} {A B : Prop} : br (a != b) A B ↔ (a ≠ b → A) ∧ (a = b → B) := by rw [br_iff]; simp
theorem br_not {b : Bool} {A B : Prop} : br (!b) A B ↔ br b B A := by cases b <;> simp [br]
theorem inR {x : Int} (h1 : -9223372036854775808 ≤ x) (h2 : x ≤ 9223372036854775807) : InR x := ⟨h1, h2⟩

section lists
variable {α : Type}
theorem drop_nil' {l : List α} {i : Nat} (h : l.drop i = []) : l.length ≤ i := by simpa using h
theorem drop_cons' {l : List α} {i : Nat} {x : α} {r : List α} (h : l.drop i = x :: r) : i < l.length ∧ (∀ d, l.getD i d = x) ∧ l[i]? = some x ∧ l.drop (i + 1) = r ∧ l.take (i + 1) = l.take i ++ [x] := by
  have hlt : i < l.length := by
    rcases Nat.lt_or_ge i l.length with h1 | h1
    · exact h1
    · rw [List.drop_eq_nil_of_le h1] at h; cases h
  have h2 := List.drop_eq_getElem_cons hlt
  rw [h] at h2
  injection h2 with h3 h4
  have h5 : l[i]? = some x := by rw [List.getElem?_eq_getElem hlt, h3]
  exact ⟨hlt, fun d => by simp [List.getD, h5], h5, h4.symm, by rw [List.take_succ_eq_append_getElem hlt, h3]⟩
end lists

def Bs (b : List Int) : Prop := b.length ≤ 2000 ∧ ∀ x ∈ b, 0 ≤ x ∧ x ≤ 255
theorem Bs.get {b : List Int} (h : Bs b) (i : Nat) : 0 ≤ b.getD i 0 ∧ b.getD i 0 ≤ 255 := by
  rcases Nat.lt_or_ge i b.length with hi | hi
  · have hx : b[i]? = some (b.getD i 0) := by simp [List.getD, hi]
    exact h.2 _ (List.mem_of_getElem? hx)
  · simp [List.getD, List.getElem?_eq_none hi]
theorem br_same {b : Bool} {A B : Prop} (h : B) : br (!(b == b)) A B := by rw [beq_self_eq_true]; exact h
theorem some_of {l : List Int} {i : Nat} {d : Int} (h : i < l.length) : l[i]? = some (l.getD i d) := by
  rw [List.getD_eq_getElem?_getD, List.getElem?_eq_getElem h]; rfl
theorem br_de {α : Type} [DecidableEq α] {a : α} {A B : Prop} (h : B) : br (!decide (a = a)) A B := by rw [decide_eq_true rfl]; exact h
theorem mem_getD {l : List Int} {i : Nat} (h : i < l.length) : l.getD i 0 ∈ l := List.mem_of_getElem? (some_of h)
theorem take_set_succ {α : Type} {l : List α} {i : Nat} {x : α} (h : i < l.length) : (l.set i x).take (i + 1) = l.take i ++ [x] := by
  rw [List.take_succ_eq_append_getElem (by simpa using h), List.take_set_of_le (Nat.le_refl _)]; simp
theorem pred_same {P : Prop} {b1 b2 : Bool} {A B : Prop} (h1 : b1 = true ↔ P) (h2 : b2 = true ↔ P) (h : B) : br (!(b1 == b2)) A B := by
  have e : b1 = b2 := by
    cases b1 <;> cases b2 <;> first | rfl | (simp at h1 h2; first | exact absurd h2 h1 | exact absurd h1 h2)
  subst e
  exact br_same h
abbrev Ent := Int × Int × Int
def EntR (e : Ent) : Prop := (0 ≤ e.1 ∧ e.1 ≤ 31) ∧ (1 ≤ e.2.1 ∧ e.2.1 ≤ 100) ∧ 0 ≤ e.2.2 ∧ e.2.2 ≤ 1000
/-- What a beginning of valid entries keeps. -/
def PEnt (l : List Ent) : Prop := (∀ e ∈ l, EntR e) ∧ (l.map (·.1)).Nodup ∧ (l.map (·.2.2)).Nodup
theorem PEnt.snoc {l : List Ent} {x : Ent} (h : PEnt l) (hx : EntR x) (hn : ∀ e ∈ l, e.1 ≠ x.1 ∧ e.2.2 ≠ x.2.2) : PEnt (l ++ [x]) := by
  refine ⟨fun e he => ?_, ?_, ?_⟩
  · rcases List.mem_append.1 he with h1 | h1
    · exact h.1 e h1
    · rw [List.mem_singleton.1 h1]; exact hx
  · rw [List.map_append, List.nodup_append]
    refine ⟨h.2.1, by simp, fun a ha b hb e => ?_⟩
    obtain ⟨y, hy, rfl⟩ := List.mem_map.1 ha
    rw [List.map_singleton, List.mem_singleton] at hb
    exact (hn y hy).1 (by rw [← hb]; exact e)
  · rw [List.map_append, List.nodup_append]
    refine ⟨h.2.2, by simp, fun a ha b hb e => ?_⟩
    obtain ⟨y, hy, rfl⟩ := List.mem_map.1 ha
    rw [List.map_singleton, List.mem_singleton] at hb
    exact (hn y hy).2 (by rw [← hb]; exact e)
def Rar (a b : Ent) : Prop := a.2.1 < b.2.1 ∨ a.2.1 = b.2.1 ∧ a.2.2 < b.2.2
instance (a b : Ent) : Decidable (Rar a b) := by unfold Rar; infer_instance
structure AL where
  t : Int
  o : List Int
  f : List Int
  wo : List Int
  wf : List Int
/-- The count of a key, 0 if it isn't there. -/
def OldC (l : List Ent) (key old : Int) : Prop := (key ∉ l.map (·.1) ∧ old = 0) ∨ ∃ e ∈ l, e.1 = key ∧ old = e.2.1
theorem OldC.snoc {l : List Ent} {key old : Int} {x : Ent} (h : OldC l key old) (hx : x.1 ≠ key) : OldC (l ++ [x]) key old := by
  rcases h with ⟨h1, h2⟩ | ⟨e, h1, h2, h3⟩
  · refine .inl ⟨fun hm => ?_, h2⟩
    rw [List.map_append, List.mem_append] at hm
    rcases hm with hm | hm
    · exact h1 hm
    · simp at hm; exact hx hm.symm
  · exact .inr ⟨e, List.mem_append_left _ h1, h2, h3⟩
/-- Numbers compared. -/
def cmpI (x y : Int) : Int := if x < y then -1 else if y < x then 1 else 0
def knownL (a : AL) (key : Int) : Prop := key ∈ a.o ∨ key ∈ a.f ∨ key ∈ a.wf ∨ key ∈ a.wo
instance (a : AL) (key : Int) : Decidable (knownL a key) := by unfold knownL; infer_instance
/-- `Can room r C n`: with a cache `C` before the keys `r`, `n` hits are possible. -/
def Can (room : Nat) : List Int → List Int → Nat → Prop
  | [], _, n => n = 0
  | k :: r, C, n => ∃ D m, D.Nodup ∧ D.length ≤ room ∧ k ∈ D ∧ (∀ x ∈ D, x = k ∨ x ∈ C) ∧ Can room r D m ∧ n ≤ m + (if k ∈ C then 1 else 0)
theorem Can.zero {room : Nat} (h : 1 ≤ room) : ∀ {r C : List Int}, Can room r C 0
  | [], _ => rfl
  | k :: r, C => ⟨[k], 0, by simp, by simpa using h, by simp, fun x hx => .inl (List.mem_singleton.1 hx), Can.zero h, by omega⟩
theorem br_yd {p : Prop} [Decidable p] {A B : Prop} (h : p) (g : A) : br (decide p) A B := br_dec.2 ⟨fun _ => g, fun c => absurd h c⟩
theorem br_nd {p : Prop} [Decidable p] {A B : Prop} (h : ¬ p) (g : B) : br (decide p) A B := br_dec.2 ⟨fun c => absurd c h, fun _ => g⟩
def VSk (s : List Int) : Prop := s.length = 24 ∧ ∀ x ∈ s, 0 ≤ x ∧ x ≤ 15
def cellM (row key : Int) : Int := row * 8 + Int.tmod (Int.tmod ((37 + 2 * row) * (key + row)) 101) 8
theorem VSk.get {s : List Int} (v : VSk s) (i : Nat) : 0 ≤ s.getD i 0 ∧ s.getD i 0 ≤ 15 := by
  by_cases h : i < s.length
  · exact v.2 _ (mem_getD h)
  · rw [List.getD_eq_getElem?_getD, List.getElem?_eq_none (by omega)]; simp
def min2 (a b : Int) : Int := if a < b then a else b
def countM (s : List Int) (key : Int) : Int := min2 (s.getD (cellM 2 key).toNat 0) (min2 (s.getD (cellM 1 key).toNat 0) (min2 (s.getD (cellM 0 key).toNat 0) 15))
theorem VSk.count {s : List Int} (v : VSk s) (key : Int) : 0 ≤ countM s key ∧ countM s key ≤ 15 := by
  have h0 := v.get (cellM 0 key).toNat
  have h1 := v.get (cellM 1 key).toNat
  have h2 := v.get (cellM 2 key).toNat
  unfold countM min2
  repeat' split
  all_goals omega
def PTm (l : List (Int × Int)) : Prop := (∀ e ∈ l, (0 ≤ e.1 ∧ e.1 ≤ 31) ∧ 0 ≤ e.2 ∧ e.2 ≤ 1000) ∧ l.Pairwise fun a b => a.1 < b.1
def VTm (l : List (Int × Int)) : Prop := l.length ≤ 12 ∧ PTm l
theorem getT_mem {l : List (Int × Int)} {i : Nat} (h : i < l.length) : l.getD i ((0 : Int), (0 : Int)) ∈ l := by
  rw [List.getD_eq_getElem?_getD, List.getElem?_eq_getElem h]; exact List.getElem_mem h
theorem takeT {l : List (Int × Int)} {i : Nat} (h : i < l.length) : l.take (i + 1) = l.take i ++ [l.getD i ((0 : Int), (0 : Int))] := by
  rw [List.take_add_one, List.getD_eq_getElem?_getD, List.getElem?_eq_getElem h]; rfl
theorem PTm.lt {l : List (Int × Int)} (v : PTm l) {i j : Nat} (h : i < j) (hj : j < l.length) : (l.getD i ((0 : Int), (0 : Int))).1 < (l.getD j ((0 : Int), (0 : Int))).1 := by
  have := List.pairwise_iff_getElem.1 v.2 i j (by omega) hj h
  rw [List.getD_eq_getElem?_getD, List.getElem?_eq_getElem (by omega), List.getD_eq_getElem?_getD, List.getElem?_eq_getElem hj]
  exact this
theorem PTm.uniq {l : List (Int × Int)} (v : PTm l) {a b : Int × Int} (ha : a ∈ l) (hb : b ∈ l) (h : a.1 = b.1) : a = b := by
  obtain ⟨i, hi, ei⟩ := List.getElem_of_mem ha
  obtain ⟨j, hj, ej⟩ := List.getElem_of_mem hb
  rcases Nat.lt_trichotomy i j with c | c | c
  · have := List.pairwise_iff_getElem.1 v.2 i j hi hj c
    rw [ei, ej] at this; omega
  · subst c; rw [← ei, ← ej]
  · have := List.pairwise_iff_getElem.1 v.2 j i hj hi c
    rw [ei, ej] at this; omega
theorem PTm.snoc {u : List (Int × Int)} {x : Int × Int} (v : PTm u) (hx : (0 ≤ x.1 ∧ x.1 ≤ 31) ∧ 0 ≤ x.2 ∧ x.2 ≤ 1000) (h : u = [] ∨ (u.getD (u.length - 1) ((0 : Int), (0 : Int))).1 < x.1) : PTm (u ++ [x]) := by
  refine ⟨fun e he => ?_, List.pairwise_append.2 ⟨v.2, by simp, fun a ha b hb => ?_⟩⟩
  · rcases List.mem_append.1 he with g | g
    · exact v.1 e g
    · rw [List.mem_singleton.1 g]; exact hx
  · rw [List.mem_singleton.1 hb]
    rcases h with c | c
    · rw [c] at ha; simp at ha
    · obtain ⟨i, hi, ei⟩ := List.getElem_of_mem ha
      have e1 : u.getD i ((0 : Int), (0 : Int)) = a := by rw [List.getD_eq_getElem?_getD, List.getElem?_eq_getElem hi]; exact ei
      by_cases g : i = u.length - 1
      · rw [← e1, g]; exact c
      · have := v.lt (i := i) (j := u.length - 1) (by omega) (by omega)
        rw [e1] at this; omega
theorem PTm.filter {l : List (Int × Int)} (v : PTm l) (p : Int × Int → Bool) : PTm (l.filter p) := ⟨fun e he => v.1 e (List.mem_filter.1 he).1, v.2.filter p⟩
def putM (l : List (Int × Int)) (key until_ : Int) : List (Int × Int) := l.filter (fun e => decide (e.1 < key)) ++ (key, until_) :: l.filter (fun e => decide (key < e.1))
def PutOK (l : List (Int × Int)) (key until_ : Int) : Prop := VTm l ∧ (0 ≤ key ∧ key ≤ 31) ∧ (0 ≤ until_ ∧ until_ ≤ 1000) ∧ (putM l key until_).length ≤ 12
theorem PTm.put {l : List (Int × Int)} {key until_ : Int} (v : PTm l) (h1 : 0 ≤ key ∧ key ≤ 31) (h2 : 0 ≤ until_ ∧ until_ ≤ 1000) : PTm (putM l key until_) := by
  refine ⟨fun e he => ?_, List.pairwise_append.2 ⟨v.2.filter _, List.pairwise_cons.2 ⟨fun b hb => ?_, v.2.filter _⟩, fun a ha b hb => ?_⟩⟩
  · rcases List.mem_append.1 he with g | g
    · exact v.1 e (List.mem_filter.1 g).1
    · rcases List.mem_cons.1 g with g | g
      · rw [g]; exact ⟨h1, h2⟩
      · exact v.1 e (List.mem_filter.1 g).1
  · have := (List.mem_filter.1 hb).2
    exact of_decide_eq_true this
  · have h3 := of_decide_eq_true (List.mem_filter.1 ha).2
    rcases List.mem_cons.1 hb with g | g
    · rw [g]; exact h3
    · have h4 := of_decide_eq_true (List.mem_filter.1 g).2
      omega
theorem PutOK.valid {l : List (Int × Int)} {key until_ : Int} (h : PutOK l key until_) : VTm (putM l key until_) := ⟨h.2.2.2, h.1.2.put h.2.1 h.2.2.1⟩
theorem filter_all {l : List (Int × Int)} {p : Int × Int → Bool} (h : ∀ e ∈ l, p e = true) : l.filter p = l := List.filter_eq_self.2 h
theorem filter_none {l : List (Int × Int)} {p : Int × Int → Bool} (h : ∀ e ∈ l, p e = false) : l.filter p = [] := List.filter_eq_nil_iff.2 fun e he => by rw [h e he]; simp
def aliveM (l : List (Int × Int)) (key now : Int) : Prop := ∃ e ∈ l, e.1 = key ∧ now ≤ e.2
def dropM (l : List (Int × Int)) (now : Int) : List (Int × Int) := l.filter fun e => decide (now ≤ e.2)
theorem dropM_len (l : List (Int × Int)) (now : Int) : (dropM l now).length ≤ l.length := List.length_filter_le _ _
theorem VTm.drop {l : List (Int × Int)} (v : VTm l) (now : Int) : VTm (dropM l now) := ⟨Nat.le_trans (dropM_len l now) v.1, v.2.filter _⟩
theorem low_take {l : List (Int × Int)} {key : Int} {i : Nat} (h1 : ∀ e ∈ l.take i, e.1 < key) (h2 : ∀ e ∈ l.drop i, key ≤ e.1) : l.filter (fun e => decide (e.1 < key)) = l.take i := by
  conv => lhs; rw [← List.take_append_drop i l]
  rw [List.filter_append, filter_all fun e he => decide_eq_true (h1 e he), filter_none fun e he => decide_eq_false (by have := h2 e he; omega), List.append_nil]
theorem PTm.take_le {l : List (Int × Int)} (v : PTm l) {h : Nat} (hh : h < l.length) : ∀ e ∈ l.take (h + 1), e.1 ≤ (l.getD h ((0 : Int), (0 : Int))).1 := by
  intro e he
  obtain ⟨q, hq, eq⟩ := List.getElem_of_mem he
  rw [List.length_take] at hq
  have e1 : l.getD q ((0 : Int), (0 : Int)) = e := by rw [List.getD_eq_getElem?_getD, List.getElem?_eq_getElem (by omega)]; rw [List.getElem_take] at eq; exact eq
  by_cases c : q = h
  · rw [← e1, c]; exact Int.le_refl _
  · have := v.lt (i := q) (j := h) (by omega) hh
    rw [e1] at this; omega
theorem PTm.drop_ge {l : List (Int × Int)} (v : PTm l) {h : Nat} (hh : h < l.length) : ∀ e ∈ l.drop h, (l.getD h ((0 : Int), (0 : Int))).1 ≤ e.1 := by
  intro e he
  obtain ⟨q, hq, eq⟩ := List.getElem_of_mem he
  rw [List.length_drop] at hq
  have e1 : l.getD (h + q) ((0 : Int), (0 : Int)) = e := by rw [List.getD_eq_getElem?_getD, List.getElem?_eq_getElem (by omega)]; rw [List.getElem_drop] at eq; exact eq
  by_cases c : q = 0
  · rw [← e1, c]; exact Int.le_refl _
  · have := v.lt (i := h) (j := h + q) (by omega) (by omega)
    rw [e1] at this; omega
theorem cmpI_neg {x y : Int} : cmpI x y < 0 ↔ x < y := by
  unfold cmpI; split
  · simp; assumption
  · split <;> simp <;> omega
theorem cmpI_zero {x y : Int} : cmpI x y = 0 ↔ x = y := by
  unfold cmpI; split
  · simp; omega
  · split <;> simp <;> omega
/-- Where a key is, or could be. -/
def lowT (l : List (Int × Int)) (key : Int) : Nat := (l.filter (fun e => decide (e.1 < key))).length
theorem PTm.low {l : List (Int × Int)} (v : PTm l) (key : Int) : l.filter (fun e => decide (e.1 < key)) = l.take (lowT l key) ∧ ∀ e ∈ l.drop (lowT l key), key ≤ e.1 := by
  have key : ∀ l : List (Int × Int), l.Pairwise (fun a b => a.1 < b.1) → l.filter (fun e => decide (e.1 < key)) = l.take (lowT l key) ∧ ∀ e ∈ l.drop (lowT l key), key ≤ e.1 := by
    intro l hp
    unfold lowT
    induction l with
    | nil => simp
    | cons x l ih =>
      obtain ⟨h1, h2⟩ := List.pairwise_cons.1 hp
      by_cases c : x.1 < key
      · rw [List.filter_cons_of_pos (by simpa using c), List.length_cons, List.take_succ_cons, List.drop_succ_cons]
        obtain ⟨i1, i2⟩ := ih h2
        exact ⟨by rw [← i1], i2⟩
      · have e0 : (x :: l).filter (fun e => decide (e.1 < key)) = [] := filter_none fun e he => decide_eq_false (by
          rcases List.mem_cons.1 he with g | g
          · rw [g]; exact c
          · have := h1 e g; omega)
        rw [e0]
        refine ⟨rfl, fun e he => ?_⟩
        rcases List.mem_cons.1 he with g | g
        · rw [g]; omega
        · have := h1 e g; omega
  exact key l v.2
theorem PTm.at_low {l : List (Int × Int)} (v : PTm l) {key : Int} (h : ∃ e ∈ l, e.1 = key) : lowT l key < l.length ∧ (l.getD (lowT l key) ((0 : Int), (0 : Int))).1 = key := by
  obtain ⟨e, he, hk⟩ := h
  obtain ⟨h1, h2⟩ := v.low key
  have hd : e ∈ l.drop (lowT l key) := by
    rw [← List.take_append_drop (lowT l key) l] at he
    rcases List.mem_append.1 he with g | g
    · rw [← h1] at g
      have := of_decide_eq_true (List.mem_filter.1 g).2
      omega
    · exact g
  have hlt : lowT l key < l.length := by
    have := List.length_pos_of_mem hd
    rw [List.length_drop] at this; omega
  have g1 := v.drop_ge hlt e hd
  have hm : l.getD (lowT l key) ((0 : Int), (0 : Int)) ∈ l.drop (lowT l key) := by
    rw [List.getD_eq_getElem?_getD, List.getElem?_eq_getElem hlt, List.drop_eq_getElem_cons hlt]
    exact List.mem_cons_self ..
  have g2 := h2 _ hm
  exact ⟨hlt, by omega⟩
-- laws.szTimedS
def G_laws_szTimedS (a0 : List (Int × Int)) (left1 : Int) (k : Int → Prop) : Prop :=
  InR (left1 - (a0.length : Int)) ∧
  br (decide ((left1 - (a0.length : Int)) < 0))
  (k (-1))
  (k (left1 - (a0.length : Int)))
def S_laws_szTimedS (a0 : List (Int × Int)) (left1 : Int) (k : Int → Prop) : Prop := G_laws_szTimedS a0 left1 k
def F_laws_szTimedS (a : List (Int × Int)) (left : Int) (k : Int → Prop) : Prop :=
  (a.length ≤ maxLen ∧ -1 ≤ left ∧ left ≤ 1048576) ∧ ∀ r : Int, -1 ≤ r → r ≤ 1048576 → (0 ≤ r → (a.length : Int) + r = left) → k r
theorem F_laws_szTimedS_S {a : List (Int × Int)} {left : Int} {k : Int → Prop} (h : F_laws_szTimedS a left k) : S_laws_szTimedS a left k := by
  obtain ⟨⟨h1, h2, h3⟩, hk⟩ := h
  have hm : maxLen = 9223372036854775807 := rfl
  exact ⟨inR (by omega) (by omega), br_dec.2 ⟨fun h => hk _ (by omega) (by omega) (by omega), fun h => hk _ (by omega) (by omega) (by omega)⟩⟩
-- laws.toTimed
def G_laws_toTimed (a0Key : Int) (a0Until : Int) (k : Int → Int → Prop) : Prop :=
  k a0Key a0Until
def S_laws_toTimed (a0Key : Int) (a0Until : Int) (k : Int → Int → Prop) : Prop := G_laws_toTimed a0Key a0Until k
def F_laws_toTimed (x0 x1 : Int) (k : Int → Int → Prop) : Prop := k x0 x1
theorem F_laws_toTimed_S {x0 x1 : Int} {k : Int → Int → Prop} (h : F_laws_toTimed x0 x1 k) : S_laws_toTimed x0 x1 k := h
-- laws.toTimedS
def T0_laws_toTimedS (a0 : List (Int × Int)) (xi4 : Int) (xy7 : List (Int × Int)) (k : List (Int × Int) → Prop) (B0 : Int → List (Int × Int) → Prop) : Prop :=
  br (decide (xi4 < (a0.length : Int)))
  ((0 ≤ xi4 ∧ xi4 < (a0.length : Int)) ∧
    F_laws_toTimed (List.getD a0 (Int.toNat xi4) ((0 : Int), (0 : Int))).1 (List.getD a0 (Int.toNat xi4) ((0 : Int), (0 : Int))).2 fun toTimed20Key toTimed20Until =>
    (0 ≤ xi4 ∧ xi4 < (xy7.length : Int)) ∧
    InR (xi4 + 1) ∧
    B0 (xi4 + 1) (List.set xy7 (Int.toNat xi4) (toTimed20Key, toTimed20Until)))
  (k xy7)
def L0_laws_toTimedS (a0 : List (Int × Int)) (k : List (Int × Int) → Prop) : Nat → Int → List (Int × Int) → Prop
  | 0, _, _ => False
  | n + 1, xi4, xy7 => T0_laws_toTimedS a0 xi4 xy7 k (L0_laws_toTimedS a0 k n)
def G_laws_toTimedS (a0 : List (Int × Int)) (I0 : List (Int × Int) → Int → List (Int × Int) → Prop) : Prop :=
  ((a0.length : Int) = (a0.length : Int) ∧ 0 ≤ (a0.length : Int) ∧ (a0.length : Int) ≤ 1000000000) ∧
  I0 a0 0 (List.replicate (Int.toNat (a0.length : Int)) ((0 : Int), (0 : Int)))
def S_laws_toTimedS (a0 : List (Int × Int)) (k : List (Int × Int) → Prop) : Prop := G_laws_toTimedS a0 (fun a0 xi4 xy7 => ∃ j, L0_laws_toTimedS a0 k j xi4 xy7)
def F_laws_toTimedS (a : List (Int × Int)) (k : List (Int × Int) → Prop) : Prop := a.length ≤ 1000000000 ∧ k a
theorem F_laws_toTimedS_S {a : List (Int × Int)} {k : List (Int × Int) → Prop} (h : F_laws_toTimedS a k) : S_laws_toTimedS a k := by
  obtain ⟨hl, hk⟩ := h
  have key : ∀ (r : List (Int × Int)) (i : Nat) (out : List (Int × Int)), a.drop i = r → out.length = a.length → out.take i = a.take i → L0_laws_toTimedS a k (r.length + 1) (i : Int) out := by
    intro r
    induction r with
    | nil =>
      intro i out hd ho he
      have := drop_nil' hd
      rw [L0_laws_toTimedS, T0_laws_toTimedS]
      rw [List.take_of_length_le (by omega), List.take_of_length_le (by omega)] at he
      refine br_dec.2 ⟨fun h => by omega, fun _ => ?_⟩
      rw [he]; exact hk
    | cons x r ih =>
      intro i out hd ho he
      obtain ⟨h1, h2, _, h3, h4⟩ := drop_cons' hd
      rw [List.length_cons, L0_laws_toTimedS, T0_laws_toTimedS]
      simp only [br_dec, Int.toNat_natCast, h2]
      refine ⟨fun _ => ⟨⟨by omega, by omega⟩, ⟨by omega, by omega⟩, inR (by omega) (by omega), ih (i + 1) _ h3 (by simpa using ho) ?_⟩, fun h => by omega⟩
      rw [take_set_succ (by omega), h4, he]
  exact ⟨⟨rfl, by omega, by omega⟩, _, key a 0 _ rfl (by simp) (by simp)⟩
-- spec.inRange
def G_spec_inRange (n0 : Int) (low1 : Int) (high2 : Int) (k : Bool → Prop) : Prop :=
  br (decide (low1 ≤ n0))
  (k (decide (n0 ≤ high2)))
  (k false)
def S_spec_inRange (n0 : Int) (low1 : Int) (high2 : Int) (k : Bool → Prop) : Prop := G_spec_inRange n0 low1 high2 k
def F_spec_inRange (n low high : Int) (k : Bool → Prop) : Prop := k (decide (low ≤ n ∧ n ≤ high))
theorem F_spec_inRange_S {n low high : Int} {k : Bool → Prop} (h : F_spec_inRange n low high k) : S_spec_inRange n low high k := by
  unfold F_spec_inRange at h
  simp only [S_spec_inRange, G_spec_inRange, br_dec]
  refine ⟨fun h1 => ?_, fun h1 => ?_⟩
  · simpa [h1] using h
  · simpa [h1] using h
-- spec.validTimed
def T0_spec_validTimed (list0 : List (Int × Int)) (xi3 : Int) (k : Bool → Prop) (B0 : Int → Prop) : Prop :=
  br (decide (xi3 < (list0.length : Int)))
  ((0 ≤ xi3 ∧ xi3 < (list0.length : Int)) ∧
    (F_spec_inRange (List.getD list0 (Int.toNat xi3) ((0 : Int), (0 : Int))).1 (0 : Int) (31 : Int) fun inRange15 =>
      br (!inRange15)
      ((k false) ∧
        (True))
      ((0 ≤ xi3 ∧ xi3 < (list0.length : Int)) ∧
        (F_spec_inRange (List.getD list0 (Int.toNat xi3) ((0 : Int), (0 : Int))).2 (0 : Int) (1000 : Int) fun inRange23 =>
          br (!inRange23)
          (k false)
          (br (decide (xi3 > 0))
            ((0 ≤ xi3 ∧ xi3 < (list0.length : Int)) ∧
              InR (xi3 - 1) ∧
              (0 ≤ (xi3 - 1) ∧ (xi3 - 1) < (list0.length : Int)) ∧
              br (decide ((List.getD list0 (Int.toNat xi3) ((0 : Int), (0 : Int))).1 ≤ (List.getD list0 (Int.toNat (xi3 - 1)) ((0 : Int), (0 : Int))).1))
              (k false)
              (InR (xi3 + 1) ∧
                B0 (xi3 + 1)))
            (InR (xi3 + 1) ∧
              B0 (xi3 + 1)))) ∧
        (True))) ∧
    (True))
  (k (decide ((list0.length : Int) ≤ 12)))
def U0_spec_validTimed (list0 : List (Int × Int)) (xi3 : Int) (k : Bool → Prop) (B0 : Int → Prop) : Prop :=
  br (decide (xi3 < (list0.length : Int)))
  ((0 ≤ xi3 ∧ xi3 < (list0.length : Int)) ∧
    F_spec_inRange (List.getD list0 (Int.toNat xi3) ((0 : Int), (0 : Int))).1 (0 : Int) (31 : Int) fun inRange15 =>
    br (!inRange15)
    (k false)
    ((0 ≤ xi3 ∧ xi3 < (list0.length : Int)) ∧
      F_spec_inRange (List.getD list0 (Int.toNat xi3) ((0 : Int), (0 : Int))).2 (0 : Int) (1000 : Int) fun inRange23 =>
      br (!inRange23)
      (k false)
      (br (decide (xi3 > 0))
        ((0 ≤ xi3 ∧ xi3 < (list0.length : Int)) ∧
          InR (xi3 - 1) ∧
          (0 ≤ (xi3 - 1) ∧ (xi3 - 1) < (list0.length : Int)) ∧
          br (decide ((List.getD list0 (Int.toNat xi3) ((0 : Int), (0 : Int))).1 ≤ (List.getD list0 (Int.toNat (xi3 - 1)) ((0 : Int), (0 : Int))).1))
          (k false)
          (InR (xi3 + 1) ∧
            B0 (xi3 + 1)))
        (InR (xi3 + 1) ∧
          B0 (xi3 + 1)))))
  (k (decide ((list0.length : Int) ≤ 12)))
theorem T0_spec_validTimed_eq (list0 : List (Int × Int)) (xi3 : Int) (k : Bool → Prop) (B0 : Int → Prop) : T0_spec_validTimed list0 xi3 k B0 = U0_spec_validTimed list0 xi3 k B0 := by
  simp only [T0_spec_validTimed, U0_spec_validTimed, and_self, and_true]
def L0_spec_validTimed (list0 : List (Int × Int)) (k : Bool → Prop) : Nat → Int → Prop
  | 0, _ => False
  | n + 1, xi3 => U0_spec_validTimed list0 xi3 k (L0_spec_validTimed list0 k n)
def G_spec_validTimed (list0 : List (Int × Int)) (I0 : List (Int × Int) → Int → Prop) : Prop :=
  I0 list0 0
def S_spec_validTimed (list0 : List (Int × Int)) (k : Bool → Prop) : Prop := G_spec_validTimed list0 (fun list0 xi3 => ∃ j, L0_spec_validTimed list0 k j xi3)
def F_spec_validTimed (l : List (Int × Int)) (k : Bool → Prop) : Prop := l.length ≤ 1000000000 ∧ ∀ b : Bool, (b = true ↔ VTm l) → k b
theorem F_spec_validTimed_S {l : List (Int × Int)} {k : Bool → Prop} (h : F_spec_validTimed l k) : S_spec_validTimed l k := by
  obtain ⟨hl, h⟩ := h
  have no : ¬ VTm l → k false := fun hv => h false (by simp [hv])
  have key : ∀ (m i : Nat), i + m = l.length → PTm (l.take i) → L0_spec_validTimed l k (m + 1) (i : Int) := by
    intro m
    induction m with
    | zero =>
      intro i hi hp
      rw [List.take_of_length_le (by omega)] at hp
      rw [L0_spec_validTimed, U0_spec_validTimed]
      refine br_nd (by omega) (h _ ?_)
      rw [decide_eq_true_iff]
      exact ⟨fun g => ⟨by omega, hp⟩, fun v => by have := v.1; omega⟩
    | succ m ih =>
      intro i hi hp
      have hm : l.getD i ((0 : Int), (0 : Int)) ∈ l := getT_mem (by omega)
      rw [L0_spec_validTimed, U0_spec_validTimed]
      simp only [Int.toNat_natCast]
      refine br_yd (by omega) ⟨⟨by omega, by omega⟩, br_not.2 (br_dec.2 ⟨fun r1 => ⟨⟨by omega, by omega⟩, br_not.2 (br_dec.2 ⟨fun r2 => ?_, fun r2 => no fun v => r2 (v.2.1 _ hm).2⟩)⟩, fun r1 => no fun v => r1 (v.2.1 _ hm).1⟩)⟩
      by_cases h0 : i = 0
      · refine br_nd (by omega) ⟨inR (by omega) (by omega), ih (i + 1) (by omega) ?_⟩
        rw [takeT (by omega)]
        exact hp.snoc ⟨r1, r2⟩ (.inl (by rw [h0]; rfl))
      · refine br_yd (by omega) ⟨⟨by omega, by omega⟩, inR (by omega) (by omega), ⟨by omega, by omega⟩, ?_⟩
        rw [show ((i : Int) - 1).toNat = i - 1 by omega]
        refine br_dec.2 ⟨fun g => no fun v => ?_, fun g => ⟨inR (by omega) (by omega), ih (i + 1) (by omega) ?_⟩⟩
        · have := v.2.lt (i := i - 1) (j := i) (by omega) (by omega)
          omega
        · rw [takeT (by omega)]
          refine hp.snoc ⟨r1, r2⟩ (.inr ?_)
          rw [List.length_take, show min i l.length - 1 = i - 1 by omega, List.getD_eq_getElem?_getD, List.getElem?_take, if_pos (by omega), ← List.getD_eq_getElem?_getD]
          omega
  exact ⟨_, key l.length 0 (by omega) ⟨by simp, by simp⟩⟩
-- spec.LiveAt
def T0_spec_LiveAt (key1 : Int) (list0 : List (Int × Int)) (now2 : Int) (xi7 : Int) (k : Bool → Prop) (B0 : Int → Prop) : Prop :=
  br (decide (xi7 < (list0.length : Int)))
  ((0 ≤ xi7 ∧ xi7 < (list0.length : Int)) ∧
    br ((List.getD list0 (Int.toNat xi7) ((0 : Int), (0 : Int))).1 == key1)
    ((0 ≤ xi7 ∧ xi7 < (list0.length : Int)) ∧
      k (decide (now2 ≤ (List.getD list0 (Int.toNat xi7) ((0 : Int), (0 : Int))).2)))
    (InR (xi7 + 1) ∧
      B0 (xi7 + 1)))
  (k false)
def L0_spec_LiveAt (key1 : Int) (list0 : List (Int × Int)) (now2 : Int) (k : Bool → Prop) : Nat → Int → Prop
  | 0, _ => False
  | n + 1, xi7 => T0_spec_LiveAt key1 list0 now2 xi7 k (L0_spec_LiveAt key1 list0 now2 k n)
def G_spec_LiveAt (list0 : List (Int × Int)) (key1 : Int) (now2 : Int) (k : Bool → Prop) (I0 : Int → List (Int × Int) → Int → Int → Prop) : Prop :=
  F_spec_validTimed list0 fun validTimed9 =>
  br (!validTimed9)
  (k false)
  (I0 key1 list0 now2 0)
def S_spec_LiveAt (list0 : List (Int × Int)) (key1 : Int) (now2 : Int) (k : Bool → Prop) : Prop := G_spec_LiveAt list0 key1 now2 k (fun key1 list0 now2 xi7 => ∃ j, L0_spec_LiveAt key1 list0 now2 k j xi7)
def F_spec_LiveAt (l : List (Int × Int)) (key now : Int) (k : Bool → Prop) : Prop := l.length ≤ 100000000 ∧ ∀ b : Bool, (b = true ↔ VTm l ∧ aliveM l key now) → k b
theorem F_spec_LiveAt_S {l : List (Int × Int)} {key now : Int} {k : Bool → Prop} (h : F_spec_LiveAt l key now k) : S_spec_LiveAt l key now k := by
  obtain ⟨hl, h⟩ := h
  have no : ¬ (VTm l ∧ aliveM l key now) → k false := fun hv => h false (by simp [hv])
  refine ⟨by omega, fun b hb => br_not.2 (br_iff.2 ⟨fun e => ?_, fun e => no fun w => by rw [hb.2 w.1] at e; cases e⟩)⟩
  have v := hb.1 e
  have go : ∀ (m i : Nat), i + m = l.length → (∀ e ∈ l.take i, e.1 ≠ key) → L0_spec_LiveAt key l now k (m + 1) (i : Int) := by
    intro m
    induction m with
    | zero =>
      intro i hi hn
      rw [List.take_of_length_le (by omega)] at hn
      rw [L0_spec_LiveAt, T0_spec_LiveAt]
      exact br_nd (by omega) (no fun w => by obtain ⟨_, x, hx, h1, _⟩ := w; exact hn x hx h1)
    | succ m ih =>
      intro i hi hn
      have hm : l.getD i ((0 : Int), (0 : Int)) ∈ l := getT_mem (by omega)
      rw [L0_spec_LiveAt, T0_spec_LiveAt]
      simp only [Int.toNat_natCast]
      refine br_yd (by omega) ⟨⟨by omega, by omega⟩, br_beq.2 ⟨fun g => ⟨⟨by omega, by omega⟩, h _ ?_⟩, fun g => ⟨inR (by omega) (by omega), ih (i + 1) (by omega) fun x hx => ?_⟩⟩⟩
      · rw [decide_eq_true_iff]
        refine ⟨fun c => ⟨v, _, hm, g, c⟩, fun ⟨_, x, hx, h1, h2⟩ => ?_⟩
        rw [← v.2.uniq hx hm (by rw [h1, g])]; exact h2
      · rw [takeT (by omega)] at hx
        rcases List.mem_append.1 hx with c | c
        · exact hn x c
        · rw [List.mem_singleton.1 c]; exact g
  exact ⟨_, go l.length 0 (by omega) (by simp)⟩
-- impl.validKey
def G_impl_validKey (key0 : Int) (k : Bool → Prop) : Prop :=
  br (decide (0 ≤ key0))
  (k (decide (key0 ≤ 31)))
  (k false)
def S_impl_validKey (key0 : Int) (k : Bool → Prop) : Prop := G_impl_validKey key0 k
def F_impl_validKey (n : Int) (k : Bool → Prop) : Prop := k (decide (0 ≤ n ∧ n ≤ 31))
theorem F_impl_validKey_S {n : Int} {k : Bool → Prop} (h : F_impl_validKey n k) : S_impl_validKey n k := by
  unfold F_impl_validKey at h
  simp only [S_impl_validKey, G_impl_validKey, br_dec]
  refine ⟨fun h1 => ?_, fun h1 => ?_⟩
  · simpa [h1] using h
  · simpa [h1] using h
-- impl.validTime
def G_impl_validTime (time0 : Int) (k : Bool → Prop) : Prop :=
  br (decide (0 ≤ time0))
  (k (decide (time0 ≤ 1000)))
  (k false)
def S_impl_validTime (time0 : Int) (k : Bool → Prop) : Prop := G_impl_validTime time0 k
def F_impl_validTime (n : Int) (k : Bool → Prop) : Prop := k (decide (0 ≤ n ∧ n ≤ 1000))
theorem F_impl_validTime_S {n : Int} {k : Bool → Prop} (h : F_impl_validTime n k) : S_impl_validTime n k := by
  unfold F_impl_validTime at h
  simp only [S_impl_validTime, G_impl_validTime, br_dec]
  refine ⟨fun h1 => ?_, fun h1 => ?_⟩
  · simpa [h1] using h
  · simpa [h1] using h
-- impl.ValidTimed
def T0_impl_ValidTimed (list0 : List (Int × Int)) (xt9 : Int) (xt10 : Int) (k : Bool → Prop) (B0 : Int → Prop) : Prop :=
  br (decide (xt10 < xt9))
  ((0 ≤ xt10 ∧ xt10 < (list0.length : Int)) ∧
    F_impl_validKey (List.getD list0 (Int.toNat xt10) ((0 : Int), (0 : Int))).1 fun validKey17 =>
    br (!validKey17)
    (k false)
    (F_impl_validTime (List.getD list0 (Int.toNat xt10) ((0 : Int), (0 : Int))).2 fun validTime22 =>
      br (!validTime22)
      (k false)
      (br (decide (xt10 > 0))
        (InR (xt10 - 1) ∧
          (0 ≤ (xt10 - 1) ∧ (xt10 - 1) < (list0.length : Int)) ∧
          br (decide ((List.getD list0 (Int.toNat (xt10 - 1)) ((0 : Int), (0 : Int))).1 ≥ (List.getD list0 (Int.toNat xt10) ((0 : Int), (0 : Int))).1))
          (k false)
          (InR (xt10 + 1) ∧
            B0 (xt10 + 1)))
        (InR (xt10 + 1) ∧
          B0 (xt10 + 1)))))
  (k true)
def L0_impl_ValidTimed (list0 : List (Int × Int)) (xt9 : Int) (k : Bool → Prop) : Nat → Int → Prop
  | 0, _ => False
  | n + 1, xt10 => T0_impl_ValidTimed list0 xt9 xt10 k (L0_impl_ValidTimed list0 xt9 k n)
def G_impl_ValidTimed (list0 : List (Int × Int)) (k : Bool → Prop) (I0 : List (Int × Int) → Int → Int → Prop) : Prop :=
  br (decide ((list0.length : Int) > 12))
  (k false)
  (I0 list0 (list0.length : Int) 0)
def S_impl_ValidTimed (list0 : List (Int × Int)) (k : Bool → Prop) : Prop := G_impl_ValidTimed list0 k (fun list0 xt9 xt10 => ∃ j, L0_impl_ValidTimed list0 xt9 k j xt10)
def F_impl_ValidTimed (l : List (Int × Int)) (k : Bool → Prop) : Prop := l.length ≤ 1000000000 ∧ ∀ b : Bool, (b = true ↔ VTm l) → k b
theorem F_impl_ValidTimed_S {l : List (Int × Int)} {k : Bool → Prop} (h : F_impl_ValidTimed l k) : S_impl_ValidTimed l k := by
  obtain ⟨hl, h⟩ := h
  have no : ¬ VTm l → k false := fun hv => h false (by simp [hv])
  refine br_dec.2 ⟨fun g => no fun v => by have := v.1; omega, fun g => ?_⟩
  have key : ∀ (m i : Nat), i + m = l.length → PTm (l.take i) → L0_impl_ValidTimed l (l.length : Int) k (m + 1) (i : Int) := by
    intro m
    induction m with
    | zero =>
      intro i hi hp
      rw [List.take_of_length_le (by omega)] at hp
      rw [L0_impl_ValidTimed, T0_impl_ValidTimed]
      exact br_nd (by omega) (h true (by simp only [true_iff]; exact ⟨by omega, hp⟩))
    | succ m ih =>
      intro i hi hp
      have hm : l.getD i ((0 : Int), (0 : Int)) ∈ l := getT_mem (by omega)
      rw [L0_impl_ValidTimed, T0_impl_ValidTimed]
      simp only [Int.toNat_natCast]
      refine br_yd (by omega) ⟨⟨by omega, by omega⟩, br_not.2 (br_dec.2 ⟨fun r1 => br_not.2 (br_dec.2 ⟨fun r2 => ?_, fun r2 => no fun v => r2 (v.2.1 _ hm).2⟩), fun r1 => no fun v => r1 (v.2.1 _ hm).1⟩)⟩
      by_cases h0 : i = 0
      · refine br_nd (by omega) ⟨inR (by omega) (by omega), ih (i + 1) (by omega) ?_⟩
        rw [takeT (by omega)]
        exact hp.snoc ⟨r1, r2⟩ (.inl (by rw [h0]; rfl))
      · refine br_yd (by omega) ⟨inR (by omega) (by omega), ⟨by omega, by omega⟩, ?_⟩
        rw [show ((i : Int) - 1).toNat = i - 1 by omega]
        refine br_dec.2 ⟨fun g => no fun v => ?_, fun g => ⟨inR (by omega) (by omega), ih (i + 1) (by omega) ?_⟩⟩
        · have := v.2.lt (i := i - 1) (j := i) (by omega) (by omega)
          omega
        · rw [takeT (by omega)]
          refine hp.snoc ⟨r1, r2⟩ (.inr ?_)
          rw [List.length_take, show min i l.length - 1 = i - 1 by omega, List.getD_eq_getElem?_getD, List.getElem?_take, if_pos (by omega), ← List.getD_eq_getElem?_getD]
          omega
  exact ⟨_, key l.length 0 (by omega) ⟨by simp, by simp⟩⟩
-- cmp.isNaN[int]
def G_cmp_isNaN_int (x0 : Int) (k : Bool → Prop) : Prop :=
  k (x0 != x0)
def S_cmp_isNaN_int (x0 : Int) (k : Bool → Prop) : Prop := G_cmp_isNaN_int x0 k
abbrev F_cmp_isNaN_int (x0 : Int) (k : Bool → Prop) : Prop := S_cmp_isNaN_int x0 k
theorem F_cmp_isNaN_int_S {x0 : Int} {k : Bool → Prop} (h : F_cmp_isNaN_int x0 k) : S_cmp_isNaN_int x0 k := h
-- cmp.Compare[int]
def G_cmp_Compare_int (x0 : Int) (y1 : Int) (k : Int → Prop) : Prop :=
  F_cmp_isNaN_int x0 fun isNaN8 =>
  F_cmp_isNaN_int y1 fun isNaN10 =>
  br isNaN8
  (br isNaN10
    (k 0)
    (k (-1)))
  (br isNaN10
    (k 1)
    (br (decide (x0 < y1))
      (k (-1))
      (br (decide (x0 > y1))
        (k 1)
        (k 0))))
def S_cmp_Compare_int (x0 : Int) (y1 : Int) (k : Int → Prop) : Prop := G_cmp_Compare_int x0 y1 k
def F_cmp_Compare_int (x y : Int) (k : Int → Prop) : Prop := k (cmpI x y)
theorem F_cmp_Compare_int_S {x y : Int} {k : Int → Prop} (h : F_cmp_Compare_int x y k) : S_cmp_Compare_int x y k := by
  unfold F_cmp_Compare_int cmpI at h
  show br (x != x) (br (y != y) _ _) (br (y != y) _ _)
  rw [bne_self_eq_false, bne_self_eq_false, br_f, br_f]
  refine br_dec.2 ⟨fun h1 => ?_, fun h1 => br_dec.2 ⟨fun h2 => ?_, fun h2 => ?_⟩⟩
  · rwa [if_pos h1] at h
  · rwa [if_neg h1, if_pos (show y < x from h2)] at h
  · rwa [if_neg h1, if_neg (show ¬ y < x from h2)] at h
-- impl.placeOf$1
def G_impl_placeOf_1 (timed0Key : Int) (timed0Until : Int) (key1 : Int) (k : Int → Prop) : Prop :=
  F_cmp_Compare_int timed0Key key1 fun compare8 =>
  k compare8
def S_impl_placeOf_1 (timed0Key : Int) (timed0Until : Int) (key1 : Int) (k : Int → Prop) : Prop := G_impl_placeOf_1 timed0Key timed0Until key1 k
def F_impl_placeOf_1 (a u key : Int) (k : Int → Prop) : Prop := k (cmpI a key)
theorem F_impl_placeOf_1_S {a u key : Int} {k : Int → Prop} (h : F_impl_placeOf_1 a u key k) : S_impl_placeOf_1 a u key k := h
-- slices.BinarySearchFunc[[]impl.Timed,impl.Timed,int]
def T0_slices_BinarySearchFunc_Timed_Timed_int_placeOf_1 (target1 : Int) (x0 : List (Int × Int)) (xn8 : Int) (xi9 : Int) (xj10 : Int) (k : Int → Bool → Prop) (B0 : Int → Int → Prop) : Prop :=
  br (decide (xi9 < xj10))
  (InR (xi9 + xj10) ∧
    (0 ≤ (xi9 + xj10) ∧ InR (xi9 + xj10)) ∧
    ((1 : Int) = 1) ∧
    InR ((xi9 + xj10) / 2) ∧
    (0 ≤ ((xi9 + xj10) / 2) ∧ ((xi9 + xj10) / 2) < (x0.length : Int)) ∧
    F_impl_placeOf_1 (List.getD x0 (Int.toNat ((xi9 + xj10) / 2)) ((0 : Int), (0 : Int))).1 (List.getD x0 (Int.toNat ((xi9 + xj10) / 2)) ((0 : Int), (0 : Int))).2 target1 fun placeOf130 =>
    br (decide (placeOf130 < 0))
    (InR (((xi9 + xj10) / 2) + 1) ∧
      B0 (((xi9 + xj10) / 2) + 1) xj10)
    (B0 xi9 ((xi9 + xj10) / 2)))
  (br (decide (xi9 < xn8))
    ((0 ≤ xi9 ∧ xi9 < (x0.length : Int)) ∧
      F_impl_placeOf_1 (List.getD x0 (Int.toNat xi9) ((0 : Int), (0 : Int))).1 (List.getD x0 (Int.toNat xi9) ((0 : Int), (0 : Int))).2 target1 fun placeOf146 =>
      k xi9 (placeOf146 == 0))
    (k xi9 false))
def L0_slices_BinarySearchFunc_Timed_Timed_int_placeOf_1 (target1 : Int) (x0 : List (Int × Int)) (xn8 : Int) (k : Int → Bool → Prop) : Nat → Int → Int → Prop
  | 0, _, _ => False
  | n + 1, xi9, xj10 => T0_slices_BinarySearchFunc_Timed_Timed_int_placeOf_1 target1 x0 xn8 xi9 xj10 k (L0_slices_BinarySearchFunc_Timed_Timed_int_placeOf_1 target1 x0 xn8 k n)
def G_slices_BinarySearchFunc_Timed_Timed_int_placeOf_1 (x0 : List (Int × Int)) (target1 : Int) (I0 : Int → List (Int × Int) → Int → Int → Int → Prop) : Prop :=
  I0 target1 x0 (x0.length : Int) 0 (x0.length : Int)
def S_slices_BinarySearchFunc_Timed_Timed_int_placeOf_1 (x0 : List (Int × Int)) (target1 : Int) (k : Int → Bool → Prop) : Prop := G_slices_BinarySearchFunc_Timed_Timed_int_placeOf_1 x0 target1 (fun target1 x0 xn8 xi9 xj10 => ∃ j, L0_slices_BinarySearchFunc_Timed_Timed_int_placeOf_1 target1 x0 xn8 k j xi9 xj10)
def F_slices_BinarySearchFunc_Timed_Timed_int_placeOf_1 (l : List (Int × Int)) (key : Int) (k : Int → Bool → Prop) : Prop := (l.length ≤ 100000000 ∧ PTm l) ∧ ∀ b : Bool, (b = true ↔ ∃ e ∈ l, e.1 = key) → k (lowT l key : Int) b
theorem F_slices_BinarySearchFunc_Timed_Timed_int_placeOf_1_S {l : List (Int × Int)} {key : Int} {k : Int → Bool → Prop} (h : F_slices_BinarySearchFunc_Timed_Timed_int_placeOf_1 l key k) : S_slices_BinarySearchFunc_Timed_Timed_int_placeOf_1 l key k := by
  obtain ⟨⟨hl, v⟩, hk⟩ := h
  have go : ∀ (m i j : Nat), i ≤ j → j ≤ l.length → j < i + m → (∀ e ∈ l.take i, e.1 < key) → (∀ e ∈ l.drop j, key ≤ e.1) → L0_slices_BinarySearchFunc_Timed_Timed_int_placeOf_1 key l (l.length : Int) k m (i : Int) (j : Int) := by
    intro m
    induction m with
    | zero => intro i j h1 h2 h3; omega
    | succ m ih =>
      intro i j h1 h2 h3 h4 h5
      rw [L0_slices_BinarySearchFunc_Timed_Timed_int_placeOf_1, T0_slices_BinarySearchFunc_Timed_Timed_int_placeOf_1]
      refine br_dec.2 ⟨fun c => ?_, fun c => ?_⟩
      · obtain ⟨q, hq⟩ : ∃ q : Nat, ((i : Int) + (j : Int)) / 2 = q := ⟨(((i : Int) + (j : Int)) / 2).toNat, by omega⟩
        rw [hq, Int.toNat_natCast]
        refine ⟨inR (by omega) (by omega), ⟨by omega, inR (by omega) (by omega)⟩, rfl, inR (by omega) (by omega), ⟨by omega, by omega⟩, ?_⟩
        refine br_dec.2 ⟨fun g => ⟨inR (by omega) (by omega), ih (q + 1) j (by omega) h2 (by omega) (fun e he => ?_) h5⟩, fun g => ih i q (by omega) (by omega) (by omega) h4 fun e he => ?_⟩
        · have := v.take_le (h := q) (by omega) e he
          have := cmpI_neg.1 g
          omega
        · have := v.drop_ge (h := q) (by omega) e he
          have : ¬ (l.getD q ((0 : Int), (0 : Int))).1 < key := fun g2 => g (cmpI_neg.2 g2)
          omega
      · have hij : i = j := by omega
        subst hij
        have hlow : lowT l key = i := by
          unfold lowT
          rw [low_take h4 h5, List.length_take]; omega
        refine br_dec.2 ⟨fun g => ⟨⟨by omega, by omega⟩, ?_⟩, fun g => ?_⟩
        · have := hk (cmpI (l.getD i ((0 : Int), (0 : Int))).1 key == 0) (by
            rw [beq_iff_eq, cmpI_zero]
            exact ⟨fun e => ⟨_, getT_mem (by omega), e⟩, fun e => by have := (v.at_low e).2; rwa [hlow] at this⟩)
          rw [hlow] at this
          rw [Int.toNat_natCast]; exact this
        · have := hk false (by
            simp only [Bool.false_eq_true, false_iff]
            intro e
            have := (v.at_low e).1
            omega)
          rw [hlow] at this
          exact this
  exact ⟨_, go (l.length + 1) 0 l.length (by omega) (by omega) (by omega) (by simp) (by simp)⟩
-- impl.placeOf
def G_impl_placeOf (list0 : List (Int × Int)) (key1 : Int) (k : Int → Bool → Prop) : Prop :=
  F_slices_BinarySearchFunc_Timed_Timed_int_placeOf_1 list0 key1 fun binarySearchFunc8r0 binarySearchFunc8r1 =>
  k binarySearchFunc8r0 binarySearchFunc8r1
def S_impl_placeOf (list0 : List (Int × Int)) (key1 : Int) (k : Int → Bool → Prop) : Prop := G_impl_placeOf list0 key1 k
def F_impl_placeOf (l : List (Int × Int)) (key : Int) (k : Int → Bool → Prop) : Prop := (l.length ≤ 100000000 ∧ PTm l) ∧ ∀ b : Bool, (b = true ↔ ∃ e ∈ l, e.1 = key) → k (lowT l key : Int) b
theorem F_impl_placeOf_S {l : List (Int × Int)} {key : Int} {k : Int → Bool → Prop} (h : F_impl_placeOf l key k) : S_impl_placeOf l key k := h
-- (impl.Timed).counts
def G_impl_Timed_counts (timed0Key : Int) (timed0Until : Int) (now1 : Int) (k : Bool → Prop) : Prop :=
  k (decide (timed0Until ≥ now1))
def S_impl_Timed_counts (timed0Key : Int) (timed0Until : Int) (now1 : Int) (k : Bool → Prop) : Prop := G_impl_Timed_counts timed0Key timed0Until now1 k
def F_impl_Timed_counts (key u now : Int) (k : Bool → Prop) : Prop := k (decide (now ≤ u))
theorem F_impl_Timed_counts_S {key u now : Int} {k : Bool → Prop} (h : F_impl_Timed_counts key u now k) : S_impl_Timed_counts key u now k := h
-- impl.LiveAt
def G_impl_LiveAt (list0 : List (Int × Int)) (key1 : Int) (now2 : Int) (k : Bool → Prop) : Prop :=
  F_impl_ValidTimed list0 fun validTimed10 =>
  br (!validTimed10)
  (k false)
  (F_impl_placeOf list0 key1 fun placeOf15r0 placeOf15r1 =>
    br placeOf15r1
    ((0 ≤ placeOf15r0 ∧ placeOf15r0 < (list0.length : Int)) ∧
      F_impl_Timed_counts (List.getD list0 (Int.toNat placeOf15r0) ((0 : Int), (0 : Int))).1 (List.getD list0 (Int.toNat placeOf15r0) ((0 : Int), (0 : Int))).2 now2 fun counts25 =>
      k counts25)
    (k false))
def S_impl_LiveAt (list0 : List (Int × Int)) (key1 : Int) (now2 : Int) (k : Bool → Prop) : Prop := G_impl_LiveAt list0 key1 now2 k
def F_impl_LiveAt (l : List (Int × Int)) (key now : Int) (k : Bool → Prop) : Prop := l.length ≤ 100000000 ∧ ∀ b : Bool, (b = true ↔ VTm l ∧ aliveM l key now) → k b
theorem F_impl_LiveAt_S {l : List (Int × Int)} {key now : Int} {k : Bool → Prop} (h : F_impl_LiveAt l key now k) : S_impl_LiveAt l key now k := by
  obtain ⟨hl, h⟩ := h
  have no : ¬ (VTm l ∧ aliveM l key now) → k false := fun hv => h false (by simp [hv])
  refine ⟨by omega, fun b hb => br_not.2 (br_iff.2 ⟨fun e => ?_, fun e => no fun w => by rw [hb.2 w.1] at e; cases e⟩)⟩
  have v := hb.1 e
  refine ⟨⟨hl, v.2⟩, fun c hc => br_iff.2 ⟨fun ec => ?_, fun ec => no fun w => ?_⟩⟩
  · obtain ⟨g1, g2⟩ := v.2.at_low (hc.1 ec)
    refine ⟨⟨by omega, by omega⟩, h _ ?_⟩
    rw [Int.toNat_natCast, decide_eq_true_iff]
    refine ⟨fun g => ⟨v, _, getT_mem g1, g2, g⟩, fun ⟨_, x, hx, h1, h2⟩ => ?_⟩
    rw [← v.2.uniq hx (getT_mem g1) (by rw [h1, g2])]; exact h2
  · obtain ⟨_, x, hx, h1, _⟩ := w
    rw [hc.2 ⟨x, hx, h1⟩] at ec; cases ec
-- laws.eqTimed
def G_laws_eqTimed (a0Key : Int) (a0Until : Int) (b1Key : Int) (b1Until : Int) (k : Bool → Prop) : Prop :=
  br (a0Key != b1Key)
  (k false)
  (br (a0Until != b1Until)
    (k false)
    (k true))
def S_laws_eqTimed (a0Key : Int) (a0Until : Int) (b1Key : Int) (b1Until : Int) (k : Bool → Prop) : Prop := G_laws_eqTimed a0Key a0Until b1Key b1Until k
def F_laws_eqTimed (x0 x1 y0 y1 : Int) (k : Bool → Prop) : Prop := k (decide ((x0, x1) = (y0, y1)))
theorem F_laws_eqTimed_S {x0 x1 y0 y1 : Int} {k : Bool → Prop} (h : F_laws_eqTimed x0 x1 y0 y1 k) : S_laws_eqTimed x0 x1 y0 y1 k := by
  have hk : ∀ b : Bool, b = decide ((x0, x1) = (y0, y1)) → k b := fun b e => by rw [e]; exact h
  exact br_bne.2 ⟨fun e0 => hk false (by simp [e0]), fun e0 => br_bne.2 ⟨fun e1 => hk false (by simp [e1]), fun e1 => hk true (by simp [e0, e1])⟩⟩
-- laws.eqTimedS
def T0_laws_eqTimedS (a0 : List (Int × Int)) (b1 : List (Int × Int)) (xi5 : Int) (k : Bool → Prop) (B0 : Int → Prop) : Prop :=
  br (decide (xi5 < (a0.length : Int)))
  ((0 ≤ xi5 ∧ xi5 < (a0.length : Int)) ∧
    (0 ≤ xi5 ∧ xi5 < (b1.length : Int)) ∧
    (F_laws_eqTimed (List.getD a0 (Int.toNat xi5) ((0 : Int), (0 : Int))).1 (List.getD a0 (Int.toNat xi5) ((0 : Int), (0 : Int))).2 (List.getD b1 (Int.toNat xi5) ((0 : Int), (0 : Int))).1 (List.getD b1 (Int.toNat xi5) ((0 : Int), (0 : Int))).2 fun eqTimed25 =>
      br (!eqTimed25)
      (k false)
      (InR (xi5 + 1) ∧
        B0 (xi5 + 1))) ∧
    (True))
  (k true)
def U0_laws_eqTimedS (a0 : List (Int × Int)) (b1 : List (Int × Int)) (xi5 : Int) (k : Bool → Prop) (B0 : Int → Prop) : Prop :=
  br (decide (xi5 < (a0.length : Int)))
  ((0 ≤ xi5 ∧ xi5 < (a0.length : Int)) ∧
    (0 ≤ xi5 ∧ xi5 < (b1.length : Int)) ∧
    F_laws_eqTimed (List.getD a0 (Int.toNat xi5) ((0 : Int), (0 : Int))).1 (List.getD a0 (Int.toNat xi5) ((0 : Int), (0 : Int))).2 (List.getD b1 (Int.toNat xi5) ((0 : Int), (0 : Int))).1 (List.getD b1 (Int.toNat xi5) ((0 : Int), (0 : Int))).2 fun eqTimed25 =>
    br (!eqTimed25)
    (k false)
    (InR (xi5 + 1) ∧
      B0 (xi5 + 1)))
  (k true)
theorem T0_laws_eqTimedS_eq (a0 : List (Int × Int)) (b1 : List (Int × Int)) (xi5 : Int) (k : Bool → Prop) (B0 : Int → Prop) : T0_laws_eqTimedS a0 b1 xi5 k B0 = U0_laws_eqTimedS a0 b1 xi5 k B0 := by
  simp only [T0_laws_eqTimedS, U0_laws_eqTimedS, and_self, and_true]
def L0_laws_eqTimedS (a0 : List (Int × Int)) (b1 : List (Int × Int)) (k : Bool → Prop) : Nat → Int → Prop
  | 0, _ => False
  | n + 1, xi5 => U0_laws_eqTimedS a0 b1 xi5 k (L0_laws_eqTimedS a0 b1 k n)
def G_laws_eqTimedS (a0 : List (Int × Int)) (b1 : List (Int × Int)) (k : Bool → Prop) (I0 : List (Int × Int) → List (Int × Int) → Int → Prop) : Prop :=
  br ((a0.length : Int) != (b1.length : Int))
  (k false)
  (I0 a0 b1 0)
def S_laws_eqTimedS (a0 : List (Int × Int)) (b1 : List (Int × Int)) (k : Bool → Prop) : Prop := G_laws_eqTimedS a0 b1 k (fun a0 b1 xi5 => ∃ j, L0_laws_eqTimedS a0 b1 k j xi5)
def F_laws_eqTimedS (a b : List (Int × Int)) (k : Bool → Prop) : Prop := a.length ≤ 1000000000 ∧ k (decide (a = b))
theorem F_laws_eqTimedS_S {a b : List (Int × Int)} {k : Bool → Prop} (h : F_laws_eqTimedS a b k) : S_laws_eqTimedS a b k := by
  obtain ⟨hl, hk⟩ := h
  refine br_bne.2 ⟨fun he => by rwa [decide_eq_false (fun e => he (by rw [e]))] at hk, fun he => ?_⟩
  have he : a.length = b.length := by omega
  have key : ∀ (r : List (Int × Int)) (i : Nat), a.drop i = r → (r = b.drop i ↔ a = b) → L0_laws_eqTimedS a b k (r.length + 1) (i : Int) := by
    intro r
    induction r with
    | nil =>
      intro i hd hi
      have := drop_nil' hd
      rw [L0_laws_eqTimedS, U0_laws_eqTimedS]
      simp only [br_dec]
      exact ⟨fun h => by omega, fun _ => by rwa [decide_eq_true (hi.1 (List.drop_eq_nil_of_le (by omega)).symm)] at hk⟩
    | cons x r ih =>
      intro i hd hi
      obtain ⟨h1, h2, _, h3, _⟩ := drop_cons' hd
      obtain ⟨y, s, hs⟩ : ∃ y s, b.drop i = y :: s := by
        cases e : b.drop i with
        | nil => have := drop_nil' e; omega
        | cons y s => exact ⟨y, s, rfl⟩
      obtain ⟨g1, g2, _, g3, _⟩ := drop_cons' hs
      rw [List.length_cons, L0_laws_eqTimedS, U0_laws_eqTimedS]
      simp only [br_dec, Int.toNat_natCast, h2, g2]
      rw [hs] at hi
      refine ⟨fun _ => ⟨⟨by omega, by omega⟩, ⟨by omega, by omega⟩, ?_⟩, fun h => by omega⟩
      have go : x = y → L0_laws_eqTimedS a b k (r.length + 1) ((i : Int) + 1) := fun hx => ih (i + 1) h3 (by rw [g3, ← hi, hx]; simp)
      have no : x ≠ y → k false := fun hx => by rwa [decide_eq_false (fun e => hx (List.cons.inj (hi.2 e)).1)] at hk
      show br (!decide (x = y)) _ _
      exact br_not.2 (br_dec.2 ⟨fun hx => ⟨inR (by omega) (by omega), go hx⟩, no⟩)
  exact ⟨_, key a 0 rfl (by simp)⟩
-- laws.FnExactLiveAt
def G_laws_FnExactLiveAt (aList0 : List (Int × Int)) (aKey1 : Int) (aNow2 : Int) (k : Bool → Prop) : Prop :=
  F_laws_szTimedS aList0 (1048576 : Int) fun szTimedS13 =>
  br (decide (szTimedS13 < 0))
  (k true)
  (F_laws_toTimedS aList0 fun toTimedS17 =>
    F_spec_LiveAt toTimedS17 aKey1 aNow2 fun liveAt20 =>
    F_laws_toTimedS aList0 fun toTimedS22 =>
    F_impl_LiveAt toTimedS22 aKey1 aNow2 fun liveAt26 =>
    br (!(liveAt26 == liveAt20))
    (k false)
    (F_laws_toTimedS aList0 fun toTimedS32 =>
      F_laws_eqTimedS toTimedS22 toTimedS32 fun eqTimedS33 =>
      br (!eqTimedS33)
      (k false)
      (k true)))
def S_laws_FnExactLiveAt (aList0 : List (Int × Int)) (aKey1 : Int) (aNow2 : Int) (k : Bool → Prop) : Prop := G_laws_FnExactLiveAt aList0 aKey1 aNow2 k
abbrev F_laws_FnExactLiveAt (aList0 : List (Int × Int)) (aKey1 : Int) (aNow2 : Int) (k : Bool → Prop) : Prop := S_laws_FnExactLiveAt aList0 aKey1 aNow2 k
theorem F_laws_FnExactLiveAt_S {aList0 : List (Int × Int)} {aKey1 : Int} {aNow2 : Int} {k : Bool → Prop} (h : F_laws_FnExactLiveAt aList0 aKey1 aNow2 k) : S_laws_FnExactLiveAt aList0 aKey1 aNow2 k := h
theorem law_FnExactLiveAt (list : List (Int × Int)) (llist : list.length ≤ maxLen) (rlist : ∀ x ∈ list, InR x.1 ∧ InR x.2) (key : Int) (rkey : InR key) (now : Int) (rnow : InR now) :
    F_laws_FnExactLiveAt list key now (fun r => r = true) := by
  refine ⟨⟨llist, by omega, by omega⟩, fun z0 _ _ s0 => br_dec.2 ⟨fun _ => rfl, fun t0 => ?_⟩⟩
  have u0 := s0 (by omega)
  have mlist : list.length ≤ 1000000000 := by omega
  exact ⟨mlist, ⟨by omega, fun b0 hb0 => ⟨mlist, ⟨by omega, fun b1 hb1 => pred_same hb1 hb0 (⟨mlist, mlist, br_de (rfl)⟩)⟩⟩⟩⟩
end Go.Ev
