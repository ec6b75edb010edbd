/- What the functions that the law reaches do, written as plain Lean. No statement is proved here. -/
import Derived.Test.YtnkmhjdenddpbaaEvT
namespace Go.Ev
set_option linter.unusedVariables false
open Go
theorem br_iff {b : Bool} {A B : Prop} : br b A B ↔ (b = true → A) ∧ (b = false → B) := by cases b <;> simp [br]
theorem br_f {A B : Prop} : br false A B = B := rfl
theorem br_dec {p : Prop} [Decidable p] {A B : Prop} : br (decide p) A B ↔ (p → A) ∧ (¬ p → B) := by rw [br_iff]; simp
theorem br_beq {a b : Int} {A B : Prop} : br (a == b) A B ↔ (a = b → A) ∧ (a ≠ b → B) := by rw [br_iff]; simp
theorem br_bne {a b : Int} {A B : Prop} : br (a != b) A B ↔ (a ≠ b → A) ∧ (a = b → B) := by rw [br_iff]; simp
theorem br_not {b : Bool} {A B : Prop} : br (!b) A B ↔ br b B A := by cases b <;> simp [br]
theorem inR {x : Int} (h1 : -9223372036854775808 ≤ x) (h2 : x ≤ 9223372036854775807) : InR x := ⟨h1, h2⟩

section lists
variable {α : Type}
theorem drop_nil' {l : List α} {i : Nat} (h : l.drop i = []) : l.length ≤ i := by simpa using h
theorem drop_cons' {l : List α} {i : Nat} {x : α} {r : List α} (h : l.drop i = x :: r) : i < l.length ∧ (∀ d, l.getD i d = x) ∧ l[i]? = some x ∧ l.drop (i + 1) = r ∧ l.take (i + 1) = l.take i ++ [x] := by
  have hlt : i < l.length := by
    rcases Nat.lt_or_ge i l.length with h1 | h1
    · exact h1
    · rw [List.drop_eq_nil_of_le h1] at h; cases h
  have h2 := List.drop_eq_getElem_cons hlt
  rw [h] at h2
  injection h2 with h3 h4
  have h5 : l[i]? = some x := by rw [List.getElem?_eq_getElem hlt, h3]
  exact ⟨hlt, fun d => by simp [List.getD, h5], h5, h4.symm, by rw [List.take_succ_eq_append_getElem hlt, h3]⟩
end lists

def Bs (b : List Int) : Prop := b.length ≤ 2000 ∧ ∀ x ∈ b, 0 ≤ x ∧ x ≤ 255
theorem Bs.get {b : List Int} (h : Bs b) (i : Nat) : 0 ≤ b.getD i 0 ∧ b.getD i 0 ≤ 255 := by
  rcases Nat.lt_or_ge i b.length with hi | hi
  · have hx : b[i]? = some (b.getD i 0) := by simp [List.getD, hi]
    exact h.2 _ (List.mem_of_getElem? hx)
  · simp [List.getD, List.getElem?_eq_none hi]
/-- What a pick of n yields. -/
def Pk (n x : Int) : Prop := (n < 1 ∧ x = 0) ∨ (0 ≤ x ∧ x < n)
theorem ofInt_i64' (n : Nat) (h : n < 9223372036854775808) : (BitVec.ofInt 64 (n : Int)).toNat = n := by
  rw [BitVec.toNat_ofInt]; omega
theorem xor_nn (x y : Int) (hx : 0 ≤ x) (hx' : x < 9223372036854775808) (hy : 0 ≤ y) (hy' : y < 9223372036854775808) : 0 ≤ IntKind.i64.wrap ((BitVec.ofInt 64 x ^^^ BitVec.ofInt 64 y).toNat : Int) := by
  obtain ⟨a, rfl⟩ := Int.eq_ofNat_of_zero_le hx
  obtain ⟨b, rfl⟩ := Int.eq_ofNat_of_zero_le hy
  have hlt : a ^^^ b < 2 ^ 63 := Nat.xor_lt_two_pow (by omega) (by omega)
  have e : IntKind.i64.wrap ((BitVec.ofInt 64 (a : Int) ^^^ BitVec.ofInt 64 (b : Int)).toNat : Int) = ((a ^^^ b : Nat) : Int) := by
    rw [BitVec.toNat_xor, ofInt_i64' a (by omega), ofInt_i64' b (by omega), IntKind.wrap_i64]
    omega
  rw [e]; omega

theorem br_nt {A B : Prop} (h : B) : br (!true) A B := h
theorem br_nf {A B : Prop} (h : A) : br (!false) A B := h
theorem br_same {b : Bool} {A B : Prop} (h : B) : br (!(b == b)) A B := by rw [beq_self_eq_true]; exact h
theorem some_of {l : List Int} {i : Nat} {d : Int} (h : i < l.length) : l[i]? = some (l.getD i d) := by
  rw [List.getD_eq_getElem?_getD, List.getElem?_eq_getElem h]; rfl
theorem br_de {α : Type} [DecidableEq α] {a : α} {A B : Prop} (h : B) : br (!decide (a = a)) A B := by rw [decide_eq_true rfl]; exact h
theorem br_de' {α : Type} [DecidableEq α] {a : α} {A B : Prop} (h : A) : br (decide (a = a)) A B := by rw [decide_eq_true rfl]; exact h
theorem mem_getD {l : List Int} {i : Nat} (h : i < l.length) : l.getD i 0 ∈ l := List.mem_of_getElem? (some_of h)
abbrev Ent := Int × Int × Int
def EntR (e : Ent) : Prop := (0 ≤ e.1 ∧ e.1 ≤ 31) ∧ (1 ≤ e.2.1 ∧ e.2.1 ≤ 100) ∧ 0 ≤ e.2.2 ∧ e.2.2 ≤ 1000
/-- What a beginning of valid entries keeps. -/
def PEnt (l : List Ent) : Prop := (∀ e ∈ l, EntR e) ∧ (l.map (·.1)).Nodup ∧ (l.map (·.2.2)).Nodup
theorem PEnt.snoc {l : List Ent} {x : Ent} (h : PEnt l) (hx : EntR x) (hn : ∀ e ∈ l, e.1 ≠ x.1 ∧ e.2.2 ≠ x.2.2) : PEnt (l ++ [x]) := by
  refine ⟨fun e he => ?_, ?_, ?_⟩
  · rcases List.mem_append.1 he with h1 | h1
    · exact h.1 e h1
    · rw [List.mem_singleton.1 h1]; exact hx
  · rw [List.map_append, List.nodup_append]
    refine ⟨h.2.1, by simp, fun a ha b hb e => ?_⟩
    obtain ⟨y, hy, rfl⟩ := List.mem_map.1 ha
    rw [List.map_singleton, List.mem_singleton] at hb
    exact (hn y hy).1 (by rw [← hb]; exact e)
  · rw [List.map_append, List.nodup_append]
    refine ⟨h.2.2, by simp, fun a ha b hb e => ?_⟩
    obtain ⟨y, hy, rfl⟩ := List.mem_map.1 ha
    rw [List.map_singleton, List.mem_singleton] at hb
    exact (hn y hy).2 (by rw [← hb]; exact e)
def Rar (a b : Ent) : Prop := a.2.1 < b.2.1 ∨ a.2.1 = b.2.1 ∧ a.2.2 < b.2.2
instance (a b : Ent) : Decidable (Rar a b) := by unfold Rar; infer_instance
structure AL where
  t : Int
  o : List Int
  f : List Int
  wo : List Int
  wf : List Int
/-- The count of a key, 0 if it isn't there. -/
def OldC (l : List Ent) (key old : Int) : Prop := (key ∉ l.map (·.1) ∧ old = 0) ∨ ∃ e ∈ l, e.1 = key ∧ old = e.2.1
theorem OldC.snoc {l : List Ent} {key old : Int} {x : Ent} (h : OldC l key old) (hx : x.1 ≠ key) : OldC (l ++ [x]) key old := by
  rcases h with ⟨h1, h2⟩ | ⟨e, h1, h2, h3⟩
  · refine .inl ⟨fun hm => ?_, h2⟩
    rw [List.map_append, List.mem_append] at hm
    rcases hm with hm | hm
    · exact h1 hm
    · simp at hm; exact hx hm.symm
  · exact .inr ⟨e, List.mem_append_left _ h1, h2, h3⟩
/-- Numbers compared. -/
def cmpI (x y : Int) : Int := if x < y then -1 else if y < x then 1 else 0
def knownL (a : AL) (key : Int) : Prop := key ∈ a.o ∨ key ∈ a.f ∨ key ∈ a.wf ∨ key ∈ a.wo
instance (a : AL) (key : Int) : Decidable (knownL a key) := by unfold knownL; infer_instance
/-- `Can room r C n`: with a cache `C` before the keys `r`, `n` hits are possible. -/
def Can (room : Nat) : List Int → List Int → Nat → Prop
  | [], _, n => n = 0
  | k :: r, C, n => ∃ D m, D.Nodup ∧ D.length ≤ room ∧ k ∈ D ∧ (∀ x ∈ D, x = k ∨ x ∈ C) ∧ Can room r D m ∧ n ≤ m + (if k ∈ C then 1 else 0)
theorem Can.zero {room : Nat} (h : 1 ≤ room) : ∀ {r C : List Int}, Can room r C 0
  | [], _ => rfl
  | k :: r, C => ⟨[k], 0, by simp, by simpa using h, by simp, fun x hx => .inl (List.mem_singleton.1 hx), Can.zero h, by omega⟩
theorem yes {P A B : Prop} (v : P) (h : A) : (P → A) ∧ (¬ P → B) := ⟨fun _ => h, fun c => absurd v c⟩
theorem nay {P A B : Prop} (v : ¬ P) (h : B) : (P → A) ∧ (¬ P → B) := ⟨fun c => absurd c v, fun _ => h⟩
theorem br_yd {p : Prop} [Decidable p] {A B : Prop} (h : p) (g : A) : br (decide p) A B := br_dec.2 ⟨fun _ => g, fun c => absurd h c⟩
theorem br_nd {p : Prop} [Decidable p] {A B : Prop} (h : ¬ p) (g : B) : br (decide p) A B := br_dec.2 ⟨fun c => absurd c h, fun _ => g⟩
theorem br_ne {a b : Int} {A B : Prop} (h : a ≠ b) (g : B) : br (a == b) A B := br_beq.2 ⟨fun c => absurd c h, fun _ => g⟩
def VSk (s : List Int) : Prop := s.length = 24 ∧ ∀ x ∈ s, 0 ≤ x ∧ x ≤ 15
def cellM (row key : Int) : Int := row * 8 + Int.tmod (Int.tmod ((37 + 2 * row) * (key + row)) 101) 8
theorem VSk.get {s : List Int} (v : VSk s) (i : Nat) : 0 ≤ s.getD i 0 ∧ s.getD i 0 ≤ 15 := by
  by_cases h : i < s.length
  · exact v.2 _ (mem_getD h)
  · rw [List.getD_eq_getElem?_getD, List.getElem?_eq_none (by omega)]; simp
def min2 (a b : Int) : Int := if a < b then a else b
def countM (s : List Int) (key : Int) : Int := min2 (s.getD (cellM 2 key).toNat 0) (min2 (s.getD (cellM 1 key).toNat 0) (min2 (s.getD (cellM 0 key).toNat 0) 15))
theorem VSk.count {s : List Int} (v : VSk s) (key : Int) : 0 ≤ countM s key ∧ countM s key ≤ 15 := by
  have h0 := v.get (cellM 0 key).toNat
  have h1 := v.get (cellM 1 key).toNat
  have h2 := v.get (cellM 2 key).toNat
  unfold countM min2
  repeat' split
  all_goals omega
theorem tm_eta (e : Int × Int) : (e.1, e.2) = e := rfl
def PTm (l : List (Int × Int)) : Prop := (∀ e ∈ l, (0 ≤ e.1 ∧ e.1 ≤ 31) ∧ 0 ≤ e.2 ∧ e.2 ≤ 1000) ∧ l.Pairwise fun a b => a.1 < b.1
def VTm (l : List (Int × Int)) : Prop := l.length ≤ 12 ∧ PTm l
theorem getT_mem {l : List (Int × Int)} {i : Nat} (h : i < l.length) : l.getD i ((0 : Int), (0 : Int)) ∈ l := by
  rw [List.getD_eq_getElem?_getD, List.getElem?_eq_getElem h]; exact List.getElem_mem h
theorem takeT {l : List (Int × Int)} {i : Nat} (h : i < l.length) : l.take (i + 1) = l.take i ++ [l.getD i ((0 : Int), (0 : Int))] := by
  rw [List.take_add_one, List.getD_eq_getElem?_getD, List.getElem?_eq_getElem h]; rfl
theorem PTm.lt {l : List (Int × Int)} (v : PTm l) {i j : Nat} (h : i < j) (hj : j < l.length) : (l.getD i ((0 : Int), (0 : Int))).1 < (l.getD j ((0 : Int), (0 : Int))).1 := by
  have := List.pairwise_iff_getElem.1 v.2 i j (by omega) hj h
  rw [List.getD_eq_getElem?_getD, List.getElem?_eq_getElem (by omega), List.getD_eq_getElem?_getD, List.getElem?_eq_getElem hj]
  exact this
theorem PTm.snoc {u : List (Int × Int)} {x : Int × Int} (v : PTm u) (hx : (0 ≤ x.1 ∧ x.1 ≤ 31) ∧ 0 ≤ x.2 ∧ x.2 ≤ 1000) (h : u = [] ∨ (u.getD (u.length - 1) ((0 : Int), (0 : Int))).1 < x.1) : PTm (u ++ [x]) := by
  refine ⟨fun e he => ?_, List.pairwise_append.2 ⟨v.2, by simp, fun a ha b hb => ?_⟩⟩
  · rcases List.mem_append.1 he with g | g
    · exact v.1 e g
    · rw [List.mem_singleton.1 g]; exact hx
  · rw [List.mem_singleton.1 hb]
    rcases h with c | c
    · rw [c] at ha; simp at ha
    · obtain ⟨i, hi, ei⟩ := List.getElem_of_mem ha
      have e1 : u.getD i ((0 : Int), (0 : Int)) = a := by rw [List.getD_eq_getElem?_getD, List.getElem?_eq_getElem hi]; exact ei
      by_cases g : i = u.length - 1
      · rw [← e1, g]; exact c
      · have := v.lt (i := i) (j := u.length - 1) (by omega) (by omega)
        rw [e1] at this; omega
theorem PTm.filter {l : List (Int × Int)} (v : PTm l) (p : Int × Int → Bool) : PTm (l.filter p) := ⟨fun e he => v.1 e (List.mem_filter.1 he).1, v.2.filter p⟩
def putM (l : List (Int × Int)) (key until_ : Int) : List (Int × Int) := l.filter (fun e => decide (e.1 < key)) ++ (key, until_) :: l.filter (fun e => decide (key < e.1))
def PutOK (l : List (Int × Int)) (key until_ : Int) : Prop := VTm l ∧ (0 ≤ key ∧ key ≤ 31) ∧ (0 ≤ until_ ∧ until_ ≤ 1000) ∧ (putM l key until_).length ≤ 12
theorem PTm.put {l : List (Int × Int)} {key until_ : Int} (v : PTm l) (h1 : 0 ≤ key ∧ key ≤ 31) (h2 : 0 ≤ until_ ∧ until_ ≤ 1000) : PTm (putM l key until_) := by
  refine ⟨fun e he => ?_, List.pairwise_append.2 ⟨v.2.filter _, List.pairwise_cons.2 ⟨fun b hb => ?_, v.2.filter _⟩, fun a ha b hb => ?_⟩⟩
  · rcases List.mem_append.1 he with g | g
    · exact v.1 e (List.mem_filter.1 g).1
    · rcases List.mem_cons.1 g with g | g
      · rw [g]; exact ⟨h1, h2⟩
      · exact v.1 e (List.mem_filter.1 g).1
  · have := (List.mem_filter.1 hb).2
    exact of_decide_eq_true this
  · have h3 := of_decide_eq_true (List.mem_filter.1 ha).2
    rcases List.mem_cons.1 hb with g | g
    · rw [g]; exact h3
    · have h4 := of_decide_eq_true (List.mem_filter.1 g).2
      omega
theorem PutOK.valid {l : List (Int × Int)} {key until_ : Int} (h : PutOK l key until_) : VTm (putM l key until_) := ⟨h.2.2.2, h.1.2.put h.2.1 h.2.2.1⟩
theorem filter_two {l : List (Int × Int)} {key : Int} : (l.filter (fun e => decide (e.1 < key))).length + (l.filter (fun e => decide (key < e.1))).length ≤ l.length := by
  induction l with
  | nil => simp
  | cons x l ih =>
    by_cases c : x.1 < key
    · rw [List.filter_cons_of_pos (by simpa using c), List.filter_cons_of_neg (by simp; omega)]
      simp only [List.length_cons]; omega
    · by_cases d : key < x.1
      · rw [List.filter_cons_of_neg (by simp; omega), List.filter_cons_of_pos (by simpa using d)]
        simp only [List.length_cons]; omega
      · rw [List.filter_cons_of_neg (by simp; omega), List.filter_cons_of_neg (by simp; omega)]
        simp only [List.length_cons]; omega
theorem putM_len (l : List (Int × Int)) (key until_ : Int) : (putM l key until_).length ≤ l.length + 1 := by
  have := @filter_two l key
  unfold putM
  rw [List.length_append, List.length_cons]; omega
theorem filter_all {l : List (Int × Int)} {p : Int × Int → Bool} (h : ∀ e ∈ l, p e = true) : l.filter p = l := List.filter_eq_self.2 h
theorem filter_none {l : List (Int × Int)} {p : Int × Int → Bool} (h : ∀ e ∈ l, p e = false) : l.filter p = [] := List.filter_eq_nil_iff.2 fun e he => by rw [h e he]; simp
theorem putM_low {l : List (Int × Int)} {a u b : Int} : (putM l a u).filter (fun e => decide (e.1 < b)) = if a < b then l.filter (fun e => decide (e.1 < a)) ++ (a, u) :: l.filter (fun e => decide (a < e.1 ∧ e.1 < b)) else l.filter (fun e => decide (e.1 < b)) := by
  unfold putM
  rw [List.filter_append, List.filter_filter]
  split
  · rename_i h
    rw [List.filter_cons_of_pos (by simpa using h), List.filter_filter]
    congr 1
    · exact List.filter_congr fun e _ => by simp only [← Bool.decide_and]; exact decide_eq_decide.2 ⟨fun g => g.2, fun g => ⟨by omega, g⟩⟩
    · congr 1
      exact List.filter_congr fun e _ => by simp only [← Bool.decide_and]; exact decide_eq_decide.2 ⟨fun g => ⟨g.2, g.1⟩, fun g => ⟨g.2, g.1⟩⟩
  · rename_i h
    rw [List.filter_cons_of_neg (by simpa using h), List.filter_filter]
    have : l.filter (fun e => decide (e.1 < b) && decide (a < e.1)) = [] := filter_none fun e _ => by simp only [← Bool.decide_and]; exact decide_eq_false (by omega)
    rw [this, List.append_nil]
    exact List.filter_congr fun e _ => by simp only [← Bool.decide_and]; exact decide_eq_decide.2 ⟨fun g => g.1, fun g => ⟨g, by omega⟩⟩
theorem putM_high {l : List (Int × Int)} {a u b : Int} : (putM l a u).filter (fun e => decide (b < e.1)) = if b < a then l.filter (fun e => decide (b < e.1 ∧ e.1 < a)) ++ (a, u) :: l.filter (fun e => decide (a < e.1)) else l.filter (fun e => decide (b < e.1)) := by
  unfold putM
  rw [List.filter_append, List.filter_filter]
  split
  · rename_i h
    rw [List.filter_cons_of_pos (by simpa using h), List.filter_filter]
    congr 1
    · exact List.filter_congr fun e _ => by simp only [← Bool.decide_and]
    · congr 1
      exact List.filter_congr fun e _ => by simp only [← Bool.decide_and]; exact decide_eq_decide.2 ⟨fun g => g.2, fun g => ⟨by omega, g⟩⟩
  · rename_i h
    rw [List.filter_cons_of_neg (by simpa using h), List.filter_filter]
    have : l.filter (fun e => decide (b < e.1) && decide (e.1 < a)) = [] := filter_none fun e _ => by simp only [← Bool.decide_and]; exact decide_eq_false (by omega)
    rw [this, List.nil_append]
    exact List.filter_congr fun e _ => by simp only [← Bool.decide_and]; exact decide_eq_decide.2 ⟨fun g => g.1, fun g => ⟨g, by omega⟩⟩
theorem putM_again (l : List (Int × Int)) (a u w : Int) : putM (putM l a u) a w = putM l a w := by
  rw [putM, putM_low, putM_high, if_neg (by omega), if_neg (by omega)]; rfl
def dropM (l : List (Int × Int)) (now : Int) : List (Int × Int) := l.filter fun e => decide (now ≤ e.2)
theorem dropM_len (l : List (Int × Int)) (now : Int) : (dropM l now).length ≤ l.length := List.length_filter_le _ _
theorem VTm.drop {l : List (Int × Int)} (v : VTm l) (now : Int) : VTm (dropM l now) := ⟨Nat.le_trans (dropM_len l now) v.1, v.2.filter _⟩
theorem eq2 {a b : Int × Int} : ((a.1 == b.1) && (a.2 == b.2)) = decide (a = b) := by
  by_cases h : a = b
  · rw [h]; simp
  · rw [decide_eq_false h]
    have : ¬ (a.1 = b.1 ∧ a.2 = b.2) := fun c => h (Prod.ext c.1 c.2)
    rw [Bool.and_eq_false_iff, beq_eq_false_iff_ne, beq_eq_false_iff_ne]
    by_cases g : a.1 = b.1
    · exact .inr fun c => this ⟨g, c⟩
    · exact .inl g
theorem ins_grow {α : Type} {l : List α} {x z : α} {i : Nat} (h : i < l.length) : midA (midA (l.take i ++ List.replicate (l.length + 1 - i) z) i [x]) (i + 1) (l.drop i) = l.take i ++ (x :: l.drop i) := by
  have h1 : (l.take i).length = i := by rw [List.length_take]; omega
  have m1 : midA (l.take i ++ List.replicate (l.length + 1 - i) z) i [x] = (l.take i ++ [x]) ++ List.drop (i + 1) (l.take i ++ List.replicate (l.length + 1 - i) z) := by
    unfold midA
    rw [List.take_left' h1]; simp
  rw [m1]
  unfold midA
  rw [List.take_left' (by simp; omega), show ∀ D : List α, D.length = l.length + 1 → List.drop (i + 1 + (l.drop i).length) D = [] from fun D hD => List.drop_of_length_le (by simp; omega)]
  · simp
  · simp; omega
theorem ins_shift {α : Type} {l : List α} {x : α} {i : Nat} (h : i < l.length) : putX (putX l (i + 1) (l.drop i)) i [x] = l.take i ++ (x :: l.drop i) := by
  have h1 : (l.take (i + 1)).length = i + 1 := by rw [List.length_take]; omega
  have m1 : putX l (i + 1) (l.drop i) = l.take (i + 1) ++ l.drop i := by
    unfold putX
    rw [show List.drop (i + 1 + (l.drop i).length) l = [] from List.drop_of_length_le (by simp; omega), List.append_nil]
  rw [m1]
  unfold putX
  rw [List.length_singleton, List.drop_left' h1, List.take_append_of_le_length (by omega), List.take_take, Nat.min_eq_left (by omega)]
  simp
theorem putX_len1 {α : Type} {l : List α} {i : Nat} (h : i < l.length) : (putX l (i + 1) (l.drop i)).length = l.length + 1 := by
  simp [putX]; omega
theorem low_take {l : List (Int × Int)} {key : Int} {i : Nat} (h1 : ∀ e ∈ l.take i, e.1 < key) (h2 : ∀ e ∈ l.drop i, key ≤ e.1) : l.filter (fun e => decide (e.1 < key)) = l.take i := by
  conv => lhs; rw [← List.take_append_drop i l]
  rw [List.filter_append, filter_all fun e he => decide_eq_true (h1 e he), filter_none fun e he => decide_eq_false (by have := h2 e he; omega), List.append_nil]
theorem PTm.take_le {l : List (Int × Int)} (v : PTm l) {h : Nat} (hh : h < l.length) : ∀ e ∈ l.take (h + 1), e.1 ≤ (l.getD h ((0 : Int), (0 : Int))).1 := by
  intro e he
  obtain ⟨q, hq, eq⟩ := List.getElem_of_mem he
  rw [List.length_take] at hq
  have e1 : l.getD q ((0 : Int), (0 : Int)) = e := by rw [List.getD_eq_getElem?_getD, List.getElem?_eq_getElem (by omega)]; rw [List.getElem_take] at eq; exact eq
  by_cases c : q = h
  · rw [← e1, c]; exact Int.le_refl _
  · have := v.lt (i := q) (j := h) (by omega) hh
    rw [e1] at this; omega
theorem PTm.drop_ge {l : List (Int × Int)} (v : PTm l) {h : Nat} (hh : h < l.length) : ∀ e ∈ l.drop h, (l.getD h ((0 : Int), (0 : Int))).1 ≤ e.1 := by
  intro e he
  obtain ⟨q, hq, eq⟩ := List.getElem_of_mem he
  rw [List.length_drop] at hq
  have e1 : l.getD (h + q) ((0 : Int), (0 : Int)) = e := by rw [List.getD_eq_getElem?_getD, List.getElem?_eq_getElem (by omega)]; rw [List.getElem_drop] at eq; exact eq
  by_cases c : q = 0
  · rw [← e1, c]; exact Int.le_refl _
  · have := v.lt (i := h) (j := h + q) (by omega) (by omega)
    rw [e1] at this; omega
theorem cmpI_neg {x y : Int} : cmpI x y < 0 ↔ x < y := by
  unfold cmpI; split
  · simp; assumption
  · split <;> simp <;> omega
theorem cmpI_zero {x y : Int} : cmpI x y = 0 ↔ x = y := by
  unfold cmpI; split
  · simp; omega
  · split <;> simp <;> omega
/-- Where a key is, or could be. -/
def lowT (l : List (Int × Int)) (key : Int) : Nat := (l.filter (fun e => decide (e.1 < key))).length
theorem lowT_le (l : List (Int × Int)) (key : Int) : lowT l key ≤ l.length := List.length_filter_le _ _
theorem PTm.low {l : List (Int × Int)} (v : PTm l) (key : Int) : l.filter (fun e => decide (e.1 < key)) = l.take (lowT l key) ∧ ∀ e ∈ l.drop (lowT l key), key ≤ e.1 := by
  have key : ∀ l : List (Int × Int), l.Pairwise (fun a b => a.1 < b.1) → l.filter (fun e => decide (e.1 < key)) = l.take (lowT l key) ∧ ∀ e ∈ l.drop (lowT l key), key ≤ e.1 := by
    intro l hp
    unfold lowT
    induction l with
    | nil => simp
    | cons x l ih =>
      obtain ⟨h1, h2⟩ := List.pairwise_cons.1 hp
      by_cases c : x.1 < key
      · rw [List.filter_cons_of_pos (by simpa using c), List.length_cons, List.take_succ_cons, List.drop_succ_cons]
        obtain ⟨i1, i2⟩ := ih h2
        exact ⟨by rw [← i1], i2⟩
      · have e0 : (x :: l).filter (fun e => decide (e.1 < key)) = [] := filter_none fun e he => decide_eq_false (by
          rcases List.mem_cons.1 he with g | g
          · rw [g]; exact c
          · have := h1 e g; omega)
        rw [e0]
        refine ⟨rfl, fun e he => ?_⟩
        rcases List.mem_cons.1 he with g | g
        · rw [g]; omega
        · have := h1 e g; omega
  exact key l v.2
theorem PTm.at_low {l : List (Int × Int)} (v : PTm l) {key : Int} (h : ∃ e ∈ l, e.1 = key) : lowT l key < l.length ∧ (l.getD (lowT l key) ((0 : Int), (0 : Int))).1 = key := by
  obtain ⟨e, he, hk⟩ := h
  obtain ⟨h1, h2⟩ := v.low key
  have hd : e ∈ l.drop (lowT l key) := by
    rw [← List.take_append_drop (lowT l key) l] at he
    rcases List.mem_append.1 he with g | g
    · rw [← h1] at g
      have := of_decide_eq_true (List.mem_filter.1 g).2
      omega
    · exact g
  have hlt : lowT l key < l.length := by
    have := List.length_pos_of_mem hd
    rw [List.length_drop] at this; omega
  have g1 := v.drop_ge hlt e hd
  have hm : l.getD (lowT l key) ((0 : Int), (0 : Int)) ∈ l.drop (lowT l key) := by
    rw [List.getD_eq_getElem?_getD, List.getElem?_eq_getElem hlt, List.drop_eq_getElem_cons hlt]
    exact List.mem_cons_self ..
  have g2 := h2 _ hm
  exact ⟨hlt, by omega⟩
theorem PTm.put_new {l : List (Int × Int)} (v : PTm l) {key u : Int} (h : ¬ ∃ e ∈ l, e.1 = key) : putM l key u = l.take (lowT l key) ++ ([(key, u)] ++ l.drop (lowT l key)) := by
  obtain ⟨h1, h2⟩ := v.low key
  unfold putM
  rw [h1]
  congr 1
  rw [List.singleton_append]
  congr 1
  conv => lhs; rw [← List.take_append_drop (lowT l key) l]
  rw [List.filter_append, filter_none, filter_all, List.nil_append]
  · intro e he
    have g1 := h2 e he
    exact decide_eq_true (by
      by_cases c : e.1 = key
      · exact absurd ⟨e, List.mem_of_mem_drop he, c⟩ h
      · omega)
  · intro e he
    rw [← h1] at he
    have := of_decide_eq_true (List.mem_filter.1 he).2
    exact decide_eq_false (by omega)
theorem PTm.put_old {l : List (Int × Int)} (v : PTm l) {key u : Int} (h : ∃ e ∈ l, e.1 = key) : putM l key u = l.set (lowT l key) (key, u) := by
  obtain ⟨hlt, hk⟩ := v.at_low h
  obtain ⟨h1, h2⟩ := v.low key
  unfold putM
  rw [List.set_eq_take_append_cons_drop, if_pos hlt, h1]
  congr 2
  conv => lhs; rw [← List.take_append_drop (lowT l key) l, List.drop_eq_getElem_cons hlt]
  have hg : l[lowT l key].1 = key := by
    rw [List.getD_eq_getElem?_getD, List.getElem?_eq_getElem hlt] at hk; exact hk
  rw [List.filter_append, filter_none, List.nil_append, List.filter_cons_of_neg (by simp [hg]), filter_all]
  · intro e he
    have := (List.pairwise_iff_getElem.1 v.2)
    obtain ⟨q, hq, eq⟩ := List.getElem_of_mem he
    rw [List.length_drop] at hq
    rw [List.getElem_drop] at eq
    have := this (lowT l key) (lowT l key + 1 + q) (by omega) (by omega) (by omega)
    rw [hg, eq] at this
    exact decide_eq_true this
  · intro e he
    rw [← h1] at he
    have := of_decide_eq_true (List.mem_filter.1 he).2
    exact decide_eq_false (by omega)
theorem PTm.put_len {l : List (Int × Int)} (v : PTm l) {key u : Int} (h : ¬ ∃ e ∈ l, e.1 = key) : (putM l key u).length = l.length + 1 := by
  rw [v.put_new h]
  have := lowT_le l key
  simp only [List.length_append, List.length_take, List.length_drop, List.length_singleton]; omega

-- spec.newReader
def G_spec_newReader (code0 : List Int) (k : List Int → Int → Prop) : Prop :=
  br (decide ((code0.length : Int) > 2000))
  ((0 ≤ (2000 : Int) ∧ 2000 ≤ (code0.length : Int)) ∧
    k (List.take 2000 code0) 0)
  (k code0 0)
def S_spec_newReader (code0 : List Int) (k : List Int → Int → Prop) : Prop := G_spec_newReader code0 k
def F_spec_newReader (code : List Int) (k : List Int → Int → Prop) : Prop := (∀ x ∈ code, 0 ≤ x ∧ x ≤ 255) ∧ ∀ b, Bs b → k b 0
theorem F_spec_newReader_S {code : List Int} {k : List Int → Int → Prop} (h : F_spec_newReader code k) : S_spec_newReader code k := by
  obtain ⟨hb, hk⟩ := h
  simp only [S_spec_newReader, G_spec_newReader, br_dec]
  refine ⟨fun h1 => ⟨⟨by omega, by omega⟩, hk _ ⟨by simp; omega, fun x hx => hb x (List.mem_of_mem_take hx)⟩⟩, fun h1 => hk _ ⟨by omega, hb⟩⟩
-- (*spec.reader).pick
def G_spec_reader_pick (r0b : List Int) (r0p : Int) (n1 : Int) (k : Int → List Int → Int → Prop) : Prop :=
  InR (r0p + 1) ∧
  br (decide (n1 < 1))
  (k 0 r0b (r0p + 1))
  (br ((r0b.length : Int) == 0)
    (k 0 r0b (r0p + 1))
    (InR ((r0p + 1) - 1) ∧
      br (decide (((r0p + 1) - 1) < (r0b.length : Int)))
      ((0 ≤ ((r0p + 1) - 1) ∧ ((r0p + 1) - 1) < (r0b.length : Int)) ∧
        InR (List.getD r0b (Int.toNat ((r0p + 1) - 1)) (0 : Int)) ∧
        (n1 ≠ 0) ∧
        k (Int.tmod (List.getD r0b (Int.toNat ((r0p + 1) - 1)) (0 : Int)) n1) r0b (r0p + 1))
      (((r0b.length : Int) ≠ 0) ∧
        (0 ≤ (Int.tmod ((r0p + 1) - 1) (r0b.length : Int)) ∧ (Int.tmod ((r0p + 1) - 1) (r0b.length : Int)) < (r0b.length : Int)) ∧
        InR (List.getD r0b (Int.toNat (Int.tmod ((r0p + 1) - 1) (r0b.length : Int))) (0 : Int)) ∧
        InR ((List.getD r0b (Int.toNat (Int.tmod ((r0p + 1) - 1) (r0b.length : Int))) (0 : Int)) * 131) ∧
        InR (((r0p + 1) - 1) * 7) ∧
        InR ((((r0p + 1) - 1) * 7) + 3) ∧
        ((r0b.length : Int) ≠ 0) ∧
        (0 ≤ (Int.tmod ((((r0p + 1) - 1) * 7) + 3) (r0b.length : Int)) ∧ (Int.tmod ((((r0p + 1) - 1) * 7) + 3) (r0b.length : Int)) < (r0b.length : Int)) ∧
        InR (List.getD r0b (Int.toNat (Int.tmod ((((r0p + 1) - 1) * 7) + 3) (r0b.length : Int))) (0 : Int)) ∧
        InR ((List.getD r0b (Int.toNat (Int.tmod ((((r0p + 1) - 1) * 7) + 3) (r0b.length : Int))) (0 : Int)) * 1117) ∧
        InR (((List.getD r0b (Int.toNat (Int.tmod ((r0p + 1) - 1) (r0b.length : Int))) (0 : Int)) * 131) + ((List.getD r0b (Int.toNat (Int.tmod ((((r0p + 1) - 1) * 7) + 3) (r0b.length : Int))) (0 : Int)) * 1117)) ∧
        InR (((r0p + 1) - 1) * 29) ∧
        InR ((((List.getD r0b (Int.toNat (Int.tmod ((r0p + 1) - 1) (r0b.length : Int))) (0 : Int)) * 131) + ((List.getD r0b (Int.toNat (Int.tmod ((((r0p + 1) - 1) * 7) + 3) (r0b.length : Int))) (0 : Int)) * 1117)) + (((r0p + 1) - 1) * 29)) ∧
        ((r0b.length : Int) ≠ 0 ∧ InR (Int.tdiv ((r0p + 1) - 1) (r0b.length : Int))) ∧
        InR ((Int.tdiv ((r0p + 1) - 1) (r0b.length : Int)) * 53) ∧
        InR (((((List.getD r0b (Int.toNat (Int.tmod ((r0p + 1) - 1) (r0b.length : Int))) (0 : Int)) * 131) + ((List.getD r0b (Int.toNat (Int.tmod ((((r0p + 1) - 1) * 7) + 3) (r0b.length : Int))) (0 : Int)) * 1117)) + (((r0p + 1) - 1) * 29)) + ((Int.tdiv ((r0p + 1) - 1) (r0b.length : Int)) * 53)) ∧
        ((64 : Int) ≠ 0 ∧ InR (Int.tdiv (((((List.getD r0b (Int.toNat (Int.tmod ((r0p + 1) - 1) (r0b.length : Int))) (0 : Int)) * 131) + ((List.getD r0b (Int.toNat (Int.tmod ((((r0p + 1) - 1) * 7) + 3) (r0b.length : Int))) (0 : Int)) * 1117)) + (((r0p + 1) - 1) * 29)) + ((Int.tdiv ((r0p + 1) - 1) (r0b.length : Int)) * 53)) 64)) ∧
        (n1 ≠ 0) ∧
        k (Int.tmod (IntKind.i64.wrap ((BitVec.ofInt 64 (((((List.getD r0b (Int.toNat (Int.tmod ((r0p + 1) - 1) (r0b.length : Int))) (0 : Int)) * 131) + ((List.getD r0b (Int.toNat (Int.tmod ((((r0p + 1) - 1) * 7) + 3) (r0b.length : Int))) (0 : Int)) * 1117)) + (((r0p + 1) - 1) * 29)) + ((Int.tdiv ((r0p + 1) - 1) (r0b.length : Int)) * 53)) ^^^ BitVec.ofInt 64 (Int.tdiv (((((List.getD r0b (Int.toNat (Int.tmod ((r0p + 1) - 1) (r0b.length : Int))) (0 : Int)) * 131) + ((List.getD r0b (Int.toNat (Int.tmod ((((r0p + 1) - 1) * 7) + 3) (r0b.length : Int))) (0 : Int)) * 1117)) + (((r0p + 1) - 1) * 29)) + ((Int.tdiv ((r0p + 1) - 1) (r0b.length : Int)) * 53)) 64)).toNat : Int)) n1) r0b (r0p + 1))))
def S_spec_reader_pick (r0b : List Int) (r0p : Int) (n1 : Int) (k : Int → List Int → Int → Prop) : Prop := G_spec_reader_pick r0b r0p n1 k
def F_spec_reader_pick (b : List Int) (p n : Int) (k : Int → List Int → Int → Prop) : Prop := (Bs b ∧ 0 ≤ p ∧ p ≤ 1000000000) ∧ ∀ x, Pk n x → k x b (p + 1)
theorem F_spec_reader_pick_S {b : List Int} {p n : Int} {k : Int → List Int → Int → Prop} (h : F_spec_reader_pick b p n k) : S_spec_reader_pick b p n k := by
  obtain ⟨⟨hb, h0, h1⟩, hk⟩ := h
  simp only [S_spec_reader_pick, G_spec_reader_pick, br_dec, br_beq]
  refine ⟨inR (by omega) (by omega), fun h2 => hk 0 (.inl ⟨h2, rfl⟩), fun h2 => ⟨fun h3 => hk 0 (.inr ⟨by omega, by omega⟩), fun h3 => ⟨inR (by omega) (by omega), ?_⟩⟩⟩
  have hlen := hb.1
  rw [show p + 1 - 1 = p by omega]
  refine ⟨fun h4 => ⟨⟨by omega, by omega⟩, ?_⟩, fun h4 => ?_⟩
  · have := hb.get (Int.toNat p)
    exact ⟨inR (by omega) (by omega), by omega, hk _ (.inr ⟨Int.tmod_nonneg _ this.1, Int.tmod_lt_of_pos _ (by omega)⟩)⟩
  · have hl : (0 : Int) < b.length := by omega
    have a1 := Int.tmod_nonneg (b.length : Int) h0
    have a2 := Int.tmod_lt_of_pos p hl
    have a3 := Int.tmod_nonneg (b.length : Int) (show (0 : Int) ≤ p * 7 + 3 by omega)
    have a4 := Int.tmod_lt_of_pos (p * 7 + 3) hl
    have a5 := hb.get (Int.toNat (Int.tmod p b.length))
    have a6 := hb.get (Int.toNat (Int.tmod (p * 7 + 3) b.length))
    have a7 : 0 ≤ Int.tdiv p b.length := Int.tdiv_nonneg h0 (by omega)
    have a8 : Int.tdiv p b.length ≤ p := Int.tdiv_le_self _ h0
    generalize List.getD b (Int.toNat (Int.tmod p b.length)) 0 = x at *
    generalize List.getD b (Int.toNat (Int.tmod (p * 7 + 3) b.length)) 0 = y at *
    generalize Int.tdiv p b.length = z at *
    have hsum : 0 ≤ x * 131 + y * 1117 + p * 29 + z * 53 ∧ x * 131 + y * 1117 + p * 29 + z * 53 ≤ 90000000000 := by omega
    have a9 : 0 ≤ Int.tdiv (x * 131 + y * 1117 + p * 29 + z * 53) 64 := Int.tdiv_nonneg hsum.1 (by omega)
    have a10 : Int.tdiv (x * 131 + y * 1117 + p * 29 + z * 53) 64 ≤ x * 131 + y * 1117 + p * 29 + z * 53 := Int.tdiv_le_self _ hsum.1
    refine ⟨by omega, ⟨by omega, by omega⟩, inR (by omega) (by omega), inR (by omega) (by omega), inR (by omega) (by omega), inR (by omega) (by omega), by omega, ⟨by omega, by omega⟩, inR (by omega) (by omega), inR (by omega) (by omega), inR (by omega) (by omega), inR (by omega) (by omega), inR (by omega) (by omega),
      ⟨by omega, inR (by omega) (by omega)⟩, inR (by omega) (by omega), inR (by omega) (by omega), ⟨by omega, inR (by omega) (by omega)⟩, by omega, hk _ (.inr ⟨?_, Int.tmod_lt_of_pos _ (by omega)⟩)⟩
    exact Int.tmod_nonneg _ (xor_nn _ _ hsum.1 (by omega) a9 (by omega))
-- (*spec.reader).one
def G_spec_reader_one (r0b : List Int) (r0p : Int) (list1 : List Int) (k : Int → List Int → Int → Prop) : Prop :=
  F_spec_reader_pick r0b r0p (list1.length : Int) fun pick9 opick9b opick9p =>
  (0 ≤ pick9 ∧ pick9 < (list1.length : Int)) ∧
  k (List.getD list1 (Int.toNat pick9) (0 : Int)) opick9b opick9p
def S_spec_reader_one (r0b : List Int) (r0p : Int) (list1 : List Int) (k : Int → List Int → Int → Prop) : Prop := G_spec_reader_one r0b r0p list1 k
def F_spec_reader_one (b : List Int) (p : Int) (l : List Int) (k : Int → List Int → Int → Prop) : Prop := (Bs b ∧ 0 ≤ p ∧ p ≤ 1000000000 ∧ 0 < l.length) ∧ ∀ x ∈ l, k x b (p + 1)
theorem F_spec_reader_one_S {b : List Int} {p : Int} {l : List Int} {k : Int → List Int → Int → Prop} (h : F_spec_reader_one b p l k) : S_spec_reader_one b p l k := by
  obtain ⟨⟨hb, h0, h1, h2⟩, hk⟩ := h
  refine ⟨⟨hb, h0, h1⟩, fun x hx => ?_⟩
  rcases hx with ⟨h3, _⟩ | ⟨h3, h4⟩
  · omega
  · have hlt : x.toNat < l.length := by omega
    have hx : l[x.toNat]? = some (l.getD x.toNat 0) := by simp [List.getD, hlt]
    exact ⟨⟨h3, h4⟩, hk _ (List.mem_of_getElem? hx)⟩
-- spec.inRange
def G_spec_inRange (n0 : Int) (low1 : Int) (high2 : Int) (k : Bool → Prop) : Prop :=
  br (decide (low1 ≤ n0))
  (k (decide (n0 ≤ high2)))
  (k false)
def S_spec_inRange (n0 : Int) (low1 : Int) (high2 : Int) (k : Bool → Prop) : Prop := G_spec_inRange n0 low1 high2 k
def F_spec_inRange (n low high : Int) (k : Bool → Prop) : Prop := k (decide (low ≤ n ∧ n ≤ high))
theorem F_spec_inRange_S {n low high : Int} {k : Bool → Prop} (h : F_spec_inRange n low high k) : S_spec_inRange n low high k := by
  unfold F_spec_inRange at h
  simp only [S_spec_inRange, G_spec_inRange, br_dec]
  refine ⟨fun h1 => ?_, fun h1 => ?_⟩
  · simpa [h1] using h
  · simpa [h1] using h
-- spec.validTimed
def T0_spec_validTimed (list0 : List (Int × Int)) (xi3 : Int) (k : Bool → Prop) (B0 : Int → Prop) : Prop :=
  br (decide (xi3 < (list0.length : Int)))
  ((0 ≤ xi3 ∧ xi3 < (list0.length : Int)) ∧
    (F_spec_inRange (List.getD list0 (Int.toNat xi3) ((0 : Int), (0 : Int))).1 (0 : Int) (31 : Int) fun inRange15 =>
      br (!inRange15)
      ((k false) ∧
        (True))
      ((0 ≤ xi3 ∧ xi3 < (list0.length : Int)) ∧
        (F_spec_inRange (List.getD list0 (Int.toNat xi3) ((0 : Int), (0 : Int))).2 (0 : Int) (1000 : Int) fun inRange23 =>
          br (!inRange23)
          (k false)
          (br (decide (xi3 > 0))
            ((0 ≤ xi3 ∧ xi3 < (list0.length : Int)) ∧
              InR (xi3 - 1) ∧
              (0 ≤ (xi3 - 1) ∧ (xi3 - 1) < (list0.length : Int)) ∧
              br (decide ((List.getD list0 (Int.toNat xi3) ((0 : Int), (0 : Int))).1 ≤ (List.getD list0 (Int.toNat (xi3 - 1)) ((0 : Int), (0 : Int))).1))
              (k false)
              (InR (xi3 + 1) ∧
                B0 (xi3 + 1)))
            (InR (xi3 + 1) ∧
              B0 (xi3 + 1)))) ∧
        (True))) ∧
    (True))
  (k (decide ((list0.length : Int) ≤ 12)))
def U0_spec_validTimed (list0 : List (Int × Int)) (xi3 : Int) (k : Bool → Prop) (B0 : Int → Prop) : Prop :=
  br (decide (xi3 < (list0.length : Int)))
  ((0 ≤ xi3 ∧ xi3 < (list0.length : Int)) ∧
    F_spec_inRange (List.getD list0 (Int.toNat xi3) ((0 : Int), (0 : Int))).1 (0 : Int) (31 : Int) fun inRange15 =>
    br (!inRange15)
    (k false)
    ((0 ≤ xi3 ∧ xi3 < (list0.length : Int)) ∧
      F_spec_inRange (List.getD list0 (Int.toNat xi3) ((0 : Int), (0 : Int))).2 (0 : Int) (1000 : Int) fun inRange23 =>
      br (!inRange23)
      (k false)
      (br (decide (xi3 > 0))
        ((0 ≤ xi3 ∧ xi3 < (list0.length : Int)) ∧
          InR (xi3 - 1) ∧
          (0 ≤ (xi3 - 1) ∧ (xi3 - 1) < (list0.length : Int)) ∧
          br (decide ((List.getD list0 (Int.toNat xi3) ((0 : Int), (0 : Int))).1 ≤ (List.getD list0 (Int.toNat (xi3 - 1)) ((0 : Int), (0 : Int))).1))
          (k false)
          (InR (xi3 + 1) ∧
            B0 (xi3 + 1)))
        (InR (xi3 + 1) ∧
          B0 (xi3 + 1)))))
  (k (decide ((list0.length : Int) ≤ 12)))
theorem T0_spec_validTimed_eq (list0 : List (Int × Int)) (xi3 : Int) (k : Bool → Prop) (B0 : Int → Prop) : T0_spec_validTimed list0 xi3 k B0 = U0_spec_validTimed list0 xi3 k B0 := by
  simp only [T0_spec_validTimed, U0_spec_validTimed, and_self, and_true]
def L0_spec_validTimed (list0 : List (Int × Int)) (k : Bool → Prop) : Nat → Int → Prop
  | 0, _ => False
  | n + 1, xi3 => U0_spec_validTimed list0 xi3 k (L0_spec_validTimed list0 k n)
def G_spec_validTimed (list0 : List (Int × Int)) (I0 : List (Int × Int) → Int → Prop) : Prop :=
  I0 list0 0
def S_spec_validTimed (list0 : List (Int × Int)) (k : Bool → Prop) : Prop := G_spec_validTimed list0 (fun list0 xi3 => ∃ j, L0_spec_validTimed list0 k j xi3)
def F_spec_validTimed (l : List (Int × Int)) (k : Bool → Prop) : Prop := l.length ≤ 1000000000 ∧ ∀ b : Bool, (b = true ↔ VTm l) → k b
theorem F_spec_validTimed_S {l : List (Int × Int)} {k : Bool → Prop} (h : F_spec_validTimed l k) : S_spec_validTimed l k := by
  obtain ⟨hl, h⟩ := h
  have no : ¬ VTm l → k false := fun hv => h false (by simp [hv])
  have key : ∀ (m i : Nat), i + m = l.length → PTm (l.take i) → L0_spec_validTimed l k (m + 1) (i : Int) := by
    intro m
    induction m with
    | zero =>
      intro i hi hp
      rw [List.take_of_length_le (by omega)] at hp
      rw [L0_spec_validTimed, U0_spec_validTimed]
      refine br_nd (by omega) (h _ ?_)
      rw [decide_eq_true_iff]
      exact ⟨fun g => ⟨by omega, hp⟩, fun v => by have := v.1; omega⟩
    | succ m ih =>
      intro i hi hp
      have hm : l.getD i ((0 : Int), (0 : Int)) ∈ l := getT_mem (by omega)
      rw [L0_spec_validTimed, U0_spec_validTimed]
      simp only [Int.toNat_natCast]
      refine br_yd (by omega) ⟨⟨by omega, by omega⟩, br_not.2 (br_dec.2 ⟨fun r1 => ⟨⟨by omega, by omega⟩, br_not.2 (br_dec.2 ⟨fun r2 => ?_, fun r2 => no fun v => r2 (v.2.1 _ hm).2⟩)⟩, fun r1 => no fun v => r1 (v.2.1 _ hm).1⟩)⟩
      by_cases h0 : i = 0
      · refine br_nd (by omega) ⟨inR (by omega) (by omega), ih (i + 1) (by omega) ?_⟩
        rw [takeT (by omega)]
        exact hp.snoc ⟨r1, r2⟩ (.inl (by rw [h0]; rfl))
      · refine br_yd (by omega) ⟨⟨by omega, by omega⟩, inR (by omega) (by omega), ⟨by omega, by omega⟩, ?_⟩
        rw [show ((i : Int) - 1).toNat = i - 1 by omega]
        refine br_dec.2 ⟨fun g => no fun v => ?_, fun g => ⟨inR (by omega) (by omega), ih (i + 1) (by omega) ?_⟩⟩
        · have := v.2.lt (i := i - 1) (j := i) (by omega) (by omega)
          omega
        · rw [takeT (by omega)]
          refine hp.snoc ⟨r1, r2⟩ (.inr ?_)
          rw [List.length_take, show min i l.length - 1 = i - 1 by omega, List.getD_eq_getElem?_getD, List.getElem?_take, if_pos (by omega), ← List.getD_eq_getElem?_getD]
          omega
  exact ⟨_, key l.length 0 (by omega) ⟨by simp, by simp⟩⟩
-- spec.PutTimed
def T1_spec_PutTimed (key1 : Int) (list0 : List (Int × Int)) (xi10 : Int) (xout8' : List (Int × Int)) (k : List (Int × Int) → Bool → Prop) (B1 : Int → List (Int × Int) → Prop) : Prop :=
  br (decide (xi10 < (list0.length : Int)))
  ((0 ≤ xi10 ∧ xi10 < (list0.length : Int)) ∧
    br (decide ((List.getD list0 (Int.toNat xi10) ((0 : Int), (0 : Int))).1 > key1))
    ((0 ≤ xi10 ∧ xi10 < (list0.length : Int)) ∧
      (xout8'.length + 1 ≤ 1000000000) ∧
      InR (xi10 + 1) ∧
      B1 (xi10 + 1) (xout8' ++ ([((List.getD list0 (Int.toNat xi10) ((0 : Int), (0 : Int))).1, (List.getD list0 (Int.toNat xi10) ((0 : Int), (0 : Int))).2)] : List (Int × Int))))
    (InR (xi10 + 1) ∧
      B1 (xi10 + 1) xout8'))
  (F_spec_validTimed xout8' fun validTimed72 =>
    br (!validTimed72)
    (k ([] : List (Int × Int)) false)
    (k xout8' true))
def L1_spec_PutTimed (key1 : Int) (list0 : List (Int × Int)) (k : List (Int × Int) → Bool → Prop) : Nat → Int → List (Int × Int) → Prop
  | 0, _, _ => False
  | n + 1, xi10, xout8' => T1_spec_PutTimed key1 list0 xi10 xout8' k (L1_spec_PutTimed key1 list0 k n)
def T0_spec_PutTimed (key1 : Int) (list0 : List (Int × Int)) (until2 : Int) (xi9 : Int) (xout8 : List (Int × Int)) (B0 : Int → List (Int × Int) → Prop) (I1 : Int → List (Int × Int) → Int → List (Int × Int) → Prop) : Prop :=
  br (decide (xi9 < (list0.length : Int)))
  ((0 ≤ xi9 ∧ xi9 < (list0.length : Int)) ∧
    br (decide ((List.getD list0 (Int.toNat xi9) ((0 : Int), (0 : Int))).1 < key1))
    ((0 ≤ xi9 ∧ xi9 < (list0.length : Int)) ∧
      (xout8.length + 1 ≤ 1000000000) ∧
      InR (xi9 + 1) ∧
      B0 (xi9 + 1) (xout8 ++ ([((List.getD list0 (Int.toNat xi9) ((0 : Int), (0 : Int))).1, (List.getD list0 (Int.toNat xi9) ((0 : Int), (0 : Int))).2)] : List (Int × Int))))
    (InR (xi9 + 1) ∧
      B0 (xi9 + 1) xout8))
  ((xout8.length + 1 ≤ 1000000000) ∧
    I1 key1 list0 0 (xout8 ++ ([(key1, until2)] : List (Int × Int))))
def L0_spec_PutTimed (key1 : Int) (list0 : List (Int × Int)) (until2 : Int) (k : List (Int × Int) → Bool → Prop) : Nat → Int → List (Int × Int) → Prop
  | 0, _, _ => False
  | n + 1, xi9, xout8 => T0_spec_PutTimed key1 list0 until2 xi9 xout8 (L0_spec_PutTimed key1 list0 until2 k n) (fun key1 list0 xi10 xout8' => ∃ j, L1_spec_PutTimed key1 list0 k j xi10 xout8')
def G_spec_PutTimed (list0 : List (Int × Int)) (key1 : Int) (until2 : Int) (k : List (Int × Int) → Bool → Prop) (I0 : Int → List (Int × Int) → Int → Int → List (Int × Int) → Prop) : Prop :=
  F_spec_validTimed list0 fun validTimed13 =>
  br (!validTimed13)
  (k ([] : List (Int × Int)) false)
  (F_spec_inRange key1 (0 : Int) (31 : Int) fun inRange17 =>
    br (!inRange17)
    (k ([] : List (Int × Int)) false)
    (F_spec_inRange until2 (0 : Int) (1000 : Int) fun inRange22 =>
      br (!inRange22)
      (k ([] : List (Int × Int)) false)
      (I0 key1 list0 until2 0 ([] : List (Int × Int)))))
def S_spec_PutTimed (list0 : List (Int × Int)) (key1 : Int) (until2 : Int) (k : List (Int × Int) → Bool → Prop) : Prop := G_spec_PutTimed list0 key1 until2 k (fun key1 list0 until2 xi9 xout8 => ∃ j, L0_spec_PutTimed key1 list0 until2 k j xi9 xout8)
def F_spec_PutTimed (l : List (Int × Int)) (key until_ : Int) (k : List (Int × Int) → Bool → Prop) : Prop := l.length ≤ 100000000 ∧ (PutOK l key until_ → k (putM l key until_) true) ∧ (¬ PutOK l key until_ → k [] false)
theorem F_spec_PutTimed_S {l : List (Int × Int)} {key until_ : Int} {k : List (Int × Int) → Bool → Prop} (h : F_spec_PutTimed l key until_ k) : S_spec_PutTimed l key until_ k := by
  obtain ⟨hl, hyes, hno⟩ := h
  refine ⟨by omega, fun b hb => br_not.2 (br_iff.2 ⟨fun e => ?_, fun e => hno fun w => by rw [hb.2 w.1] at e; cases e⟩)⟩
  have v := hb.1 e
  refine br_not.2 (br_dec.2 ⟨fun hk => br_not.2 (br_dec.2 ⟨fun hu => ?_, fun hu => hno fun w => hu w.2.2.1⟩), fun hk => hno fun w => hk w.2.1⟩)
  have hlow : ∀ i, ((l.take i).filter (fun e => decide (e.1 < key))).length ≤ l.length := fun i => Nat.le_trans (List.length_filter_le _ _) (by rw [List.length_take]; omega)
  have second : ∀ (m i : Nat), i + m = l.length → L1_spec_PutTimed key l k (m + 1) (i : Int) (l.filter (fun e => decide (e.1 < key)) ++ (key, until_) :: (l.take i).filter (fun e => decide (key < e.1))) := by
    intro m
    induction m with
    | zero =>
      intro i hi
      rw [show l.take i = l from List.take_of_length_le (by omega), L1_spec_PutTimed, T1_spec_PutTimed]
      refine br_nd (by omega) ⟨by have := putM_len l key until_; unfold putM at this; omega, fun c hc => br_not.2 (br_iff.2 ⟨fun e => ?_, fun e => hno fun w => by rw [hc.2 w.valid] at e; cases e⟩)⟩
      exact hyes ⟨v, hk, hu, (hc.1 e).1⟩
    | succ m ih =>
      intro i hi
      have next := ih (i + 1) (by omega)
      have h1 : (l.filter (fun e => decide (e.1 < key))).length ≤ l.length := List.length_filter_le _ _
      have h2 : ((l.take i).filter (fun e => decide (key < e.1))).length ≤ l.length := Nat.le_trans (List.length_filter_le _ _) (by rw [List.length_take]; omega)
      rw [takeT (by omega), List.filter_append] at next
      rw [L1_spec_PutTimed, T1_spec_PutTimed]
      simp only [Int.toNat_natCast]
      refine br_yd (by omega) ⟨⟨by omega, by omega⟩, br_dec.2 ⟨fun g => ⟨⟨by omega, by omega⟩, by rw [List.length_append, List.length_cons]; omega, inR (by omega) (by omega), ?_⟩, fun g => ⟨inR (by omega) (by omega), ?_⟩⟩⟩
      · rw [List.filter_cons_of_pos (by simpa using g), List.filter_nil] at next
        rw [tm_eta, List.append_assoc]; exact next
      · rw [List.filter_cons_of_neg (by simpa using g), List.filter_nil, List.append_nil] at next
        exact next
  have first : ∀ (m i : Nat), i + m = l.length → L0_spec_PutTimed key l until_ k (m + 1) (i : Int) ((l.take i).filter (fun e => decide (e.1 < key))) := by
    intro m
    induction m with
    | zero =>
      intro i hi
      have := hlow i
      rw [show l.take i = l from List.take_of_length_le (by omega)] at this ⊢
      rw [L0_spec_PutTimed, T0_spec_PutTimed]
      exact br_nd (by omega) ⟨by omega, _, second l.length 0 (by omega)⟩
    | succ m ih =>
      intro i hi
      have next := ih (i + 1) (by omega)
      have := hlow i
      rw [takeT (by omega), List.filter_append] at next
      rw [L0_spec_PutTimed, T0_spec_PutTimed]
      simp only [Int.toNat_natCast]
      refine br_yd (by omega) ⟨⟨by omega, by omega⟩, br_dec.2 ⟨fun g => ⟨⟨by omega, by omega⟩, by omega, inR (by omega) (by omega), ?_⟩, fun g => ⟨inR (by omega) (by omega), ?_⟩⟩⟩
      · rw [List.filter_cons_of_pos (by simpa using g), List.filter_nil] at next
        rw [tm_eta]; exact next
      · rw [List.filter_cons_of_neg (by simpa using g), List.filter_nil, List.append_nil] at next
        exact next
  exact ⟨_, first l.length 0 (by omega)⟩
-- spec.someTimed
def T0_spec_someTimed (xn4 : Int) (xb100000c0 : List Int) (xb100000c1 : Int) (xout3 : List (Int × Int)) (k : List (Int × Int) → List Int → Int → Prop) (B0 : Int → List Int → Int → List (Int × Int) → Prop) : Prop :=
  br (decide (xn4 > 0))
  (F_spec_reader_pick xb100000c0 xb100000c1 (16 : Int) fun pick18 opick18b opick18p =>
    F_spec_reader_pick opick18b opick18p (250 : Int) fun pick21 opick21b opick21p =>
    InR (4 * pick21) ∧
    F_spec_reader_one opick21b opick21p ([10, 25, 0, 100, 1000, (4 * pick21)] : List Int) fun one24 oone24b oone24p =>
    F_spec_PutTimed xout3 pick18 one24 fun putTimed25r0 putTimed25r1 =>
    br putTimed25r1
    (InR (xn4 - 1) ∧
      B0 (xn4 - 1) oone24b oone24p putTimed25r0)
    (InR (xn4 - 1) ∧
      B0 (xn4 - 1) oone24b oone24p xout3))
  (k xout3 xb100000c0 xb100000c1)
def L0_spec_someTimed (k : List (Int × Int) → List Int → Int → Prop) : Nat → Int → List Int → Int → List (Int × Int) → Prop
  | 0, _, _, _, _ => False
  | n + 1, xn4, xb100000c0, xb100000c1, xout3 => T0_spec_someTimed xn4 xb100000c0 xb100000c1 xout3 k (L0_spec_someTimed k n)
def G_spec_someTimed (r0b : List Int) (r0p : Int) (I0 : Int → List Int → Int → List (Int × Int) → Prop) : Prop :=
  F_spec_reader_one r0b r0p ([4, 6, 8, 2, 0, 14] : List Int) fun one10 oone10b oone10p =>
  I0 one10 oone10b oone10p ([] : List (Int × Int))
def S_spec_someTimed (r0b : List Int) (r0p : Int) (k : List (Int × Int) → List Int → Int → Prop) : Prop := G_spec_someTimed r0b r0p (fun xn4 xb100000c0 xb100000c1 xout3 => ∃ j, L0_spec_someTimed k j xn4 xb100000c0 xb100000c1 xout3)
def F_spec_someTimed (b : List Int) (p : Int) (k : List (Int × Int) → List Int → Int → Prop) : Prop :=
  (Bs b ∧ 0 ≤ p ∧ p ≤ 10000000) ∧ ∀ l p', l.length ≤ 12 → (∀ e ∈ l, 0 ≤ e.2 ∧ e.2 ≤ 1000) → p ≤ p' → p' ≤ p + 100 → k l b p'
theorem F_spec_someTimed_S {b : List Int} {p : Int} {k : List (Int × Int) → List Int → Int → Prop} (h : F_spec_someTimed b p k) : S_spec_someTimed b p k := by
  obtain ⟨⟨hb, h0, h1⟩, hk⟩ := h
  have key : ∀ (d : Nat) (q : Int) (l : List (Int × Int)), VTm l → p ≤ q → q + 3 * d ≤ p + 60 → L0_spec_someTimed k (d + 1) (d : Int) b q l := by
    intro d
    induction d with
    | zero =>
      intro q l v g1 g2
      rw [L0_spec_someTimed, T0_spec_someTimed]
      exact br_nd (by omega) (hk _ _ v.1 (fun e he => (v.2.1 e he).2) (by omega) (by omega))
    | succ d ih =>
      intro q l v g1 g2
      have := v.1
      rw [L0_spec_someTimed, T0_spec_someTimed]
      have e : ((d + 1 : Nat) : Int) - 1 = (d : Int) := by omega
      refine br_yd (by omega) ⟨⟨hb, by omega, by omega⟩, fun x hx => ⟨⟨hb, by omega, by omega⟩, fun y hy => ⟨?_, ⟨hb, by omega, by omega, by simp⟩, fun z hz => ⟨by omega, fun w => ⟨inR (by omega) (by omega), ?_⟩, fun w => ⟨inR (by omega) (by omega), ?_⟩⟩⟩⟩⟩
      · unfold Pk at hy; exact inR (by omega) (by omega)
      · rw [e]; exact ih _ _ w.valid (by omega) (by omega)
      · rw [e]; exact ih _ _ v (by omega) (by omega)
  refine ⟨⟨hb, by omega, by omega, by simp⟩, fun n hn => ?_⟩
  simp only [List.mem_cons, List.not_mem_nil, or_false] at hn
  refine ⟨n.toNat + 1, ?_⟩
  have := key n.toNat (p + 1) [] ⟨by simp, by simp, by simp⟩ (by omega) (by omega)
  rwa [Int.toNat_of_nonneg (by omega)] at this
-- spec.anyTimed
def G_spec_anyTimed (r0b : List Int) (r0p : Int) (k : List (Int × Int) → List Int → Int → Prop) : Prop :=
  F_spec_someTimed r0b r0p fun someTimed5 osomeTimed5b osomeTimed5p =>
  F_spec_reader_pick osomeTimed5b osomeTimed5p (16 : Int) fun pick7 opick7b opick7p =>
  br (pick7 == 0)
  (F_spec_reader_one opick7b opick7p ([0, 31, 32] : List Int) fun one12 oone12b oone12p =>
    F_spec_reader_one oone12b oone12p ([5, (-1), 1001] : List Int) fun one15 oone15b oone15p =>
    (someTimed5.length + 1 ≤ 1000000000) ∧
    k (someTimed5 ++ ([(one12, one15)] : List (Int × Int))) oone15b oone15p)
  (k someTimed5 opick7b opick7p)
def S_spec_anyTimed (r0b : List Int) (r0p : Int) (k : List (Int × Int) → List Int → Int → Prop) : Prop := G_spec_anyTimed r0b r0p k
def F_spec_anyTimed (b : List Int) (p : Int) (k : List (Int × Int) → List Int → Int → Prop) : Prop :=
  (Bs b ∧ 0 ≤ p ∧ p ≤ 1000000) ∧ ∀ l p', l.length ≤ 50 → (∀ e ∈ l, -1 ≤ e.2 ∧ e.2 ≤ 1001) → p ≤ p' → p' ≤ p + 200 → k l b p'
theorem F_spec_anyTimed_S {b : List Int} {p : Int} {k : List (Int × Int) → List Int → Int → Prop} (h : F_spec_anyTimed b p k) : S_spec_anyTimed b p k := by
  obtain ⟨⟨hb, h0, h1⟩, hk⟩ := h
  refine ⟨⟨hb, by omega, by omega⟩, fun l p' l1 l2 g1 g2 => ⟨⟨hb, by omega, by omega⟩, fun x hx => br_beq.2 ⟨fun _ => ⟨⟨hb, by omega, by omega, by simp⟩, fun y hy => ⟨⟨hb, by omega, by omega, by simp⟩, fun z hz => ⟨by omega, hk _ _ (by simp; omega) (fun e he => ?_) (by omega) (by omega)⟩⟩⟩, fun _ => hk _ _ (by omega) (fun e he => by have := l2 e he; omega) (by omega) (by omega)⟩⟩⟩
  rcases List.mem_append.1 he with g | g
  · have := l2 e g; omega
  · simp only [List.mem_cons, List.not_mem_nil, or_false] at g hz
    rw [g]
    show -1 ≤ z ∧ z ≤ 1001
    omega
-- spec.someKey
def G_spec_someKey (r0b : List Int) (r0p : Int) (k : Int → List Int → Int → Prop) : Prop :=
  F_spec_reader_pick r0b r0p (8 : Int) fun pick5 opick5b opick5p =>
  F_spec_reader_pick opick5b opick5p (8 : Int) fun pick7 opick7b opick7p =>
  F_spec_reader_pick opick7b opick7p (32 : Int) fun pick9 opick9b opick9p =>
  F_spec_reader_one opick9b opick9p ([0, 1, 2, 3, 5, 31, 32, (-1), pick5, pick7, pick9, 4] : List Int) fun one11 oone11b oone11p =>
  k one11 oone11b oone11p
def S_spec_someKey (r0b : List Int) (r0p : Int) (k : Int → List Int → Int → Prop) : Prop := G_spec_someKey r0b r0p k
def F_spec_someKey (b : List Int) (p : Int) (k : Int → List Int → Int → Prop) : Prop := (Bs b ∧ 0 ≤ p ∧ p ≤ 100000000) ∧ ∀ x p', -1 ≤ x → x ≤ 32 → p ≤ p' → p' ≤ p + 10 → k x b p'
theorem F_spec_someKey_S {b : List Int} {p : Int} {k : Int → List Int → Int → Prop} (h : F_spec_someKey b p k) : S_spec_someKey b p k := by
  obtain ⟨⟨hb, h0, h1⟩, hk⟩ := h
  refine ⟨⟨hb, by omega, by omega⟩, fun x hx => ⟨⟨hb, by omega, by omega⟩, fun y hy => ⟨⟨hb, by omega, by omega⟩, fun z hz => ⟨⟨hb, by omega, by omega, by simp⟩, fun u hu => ?_⟩⟩⟩⟩
  unfold Pk at hx hy hz
  simp only [List.mem_cons, List.not_mem_nil, or_false] at hu
  exact hk _ _ (by omega) (by omega) (by omega) (by omega)
-- spec.DrawPutTimed
def G_spec_DrawPutTimed (code0 : List Int) (k : List (Int × Int) → Int → Int → Prop) : Prop :=
  F_spec_newReader code0 fun newReader9b newReader9p =>
  F_spec_anyTimed newReader9b newReader9p fun anyTimed11 oanyTimed11b oanyTimed11p =>
  F_spec_someKey oanyTimed11b oanyTimed11p fun someKey13 osomeKey13b osomeKey13p =>
  F_spec_reader_one osomeKey13b osomeKey13p ([10, 500, 1000, 1001, (-1), 0] : List Int) fun one18 oone18b oone18p =>
  k anyTimed11 someKey13 one18
def S_spec_DrawPutTimed (code0 : List Int) (k : List (Int × Int) → Int → Int → Prop) : Prop := G_spec_DrawPutTimed code0 k
def F_spec_DrawPutTimed (code : List Int) (k : List (Int × Int) → Int → Int → Prop) : Prop :=
  (∀ x ∈ code, 0 ≤ x ∧ x ≤ 255) ∧ ∀ l key until_, l.length ≤ 50 → k l key until_
theorem F_spec_DrawPutTimed_S {code : List Int} {k : List (Int × Int) → Int → Int → Prop} (h : F_spec_DrawPutTimed code k) : S_spec_DrawPutTimed code k :=
  ⟨h.1, fun b hb => ⟨⟨hb, by omega, by omega⟩, fun l p' l1 _ _ _ => ⟨⟨hb, by omega, by omega⟩, fun key _ _ _ _ _ => ⟨⟨hb, by omega, by omega, by simp⟩, fun u _ => h.2 l key u l1⟩⟩⟩⟩
-- impl.validKey
def G_impl_validKey (key0 : Int) (k : Bool → Prop) : Prop :=
  br (decide (0 ≤ key0))
  (k (decide (key0 ≤ 31)))
  (k false)
def S_impl_validKey (key0 : Int) (k : Bool → Prop) : Prop := G_impl_validKey key0 k
def F_impl_validKey (n : Int) (k : Bool → Prop) : Prop := k (decide (0 ≤ n ∧ n ≤ 31))
theorem F_impl_validKey_S {n : Int} {k : Bool → Prop} (h : F_impl_validKey n k) : S_impl_validKey n k := by
  unfold F_impl_validKey at h
  simp only [S_impl_validKey, G_impl_validKey, br_dec]
  refine ⟨fun h1 => ?_, fun h1 => ?_⟩
  · simpa [h1] using h
  · simpa [h1] using h
-- impl.validTime
def G_impl_validTime (time0 : Int) (k : Bool → Prop) : Prop :=
  br (decide (0 ≤ time0))
  (k (decide (time0 ≤ 1000)))
  (k false)
def S_impl_validTime (time0 : Int) (k : Bool → Prop) : Prop := G_impl_validTime time0 k
def F_impl_validTime (n : Int) (k : Bool → Prop) : Prop := k (decide (0 ≤ n ∧ n ≤ 1000))
theorem F_impl_validTime_S {n : Int} {k : Bool → Prop} (h : F_impl_validTime n k) : S_impl_validTime n k := by
  unfold F_impl_validTime at h
  simp only [S_impl_validTime, G_impl_validTime, br_dec]
  refine ⟨fun h1 => ?_, fun h1 => ?_⟩
  · simpa [h1] using h
  · simpa [h1] using h
-- impl.ValidTimed
def T0_impl_ValidTimed (list0 : List (Int × Int)) (xt9 : Int) (xt10 : Int) (k : Bool → Prop) (B0 : Int → Prop) : Prop :=
  br (decide (xt10 < xt9))
  ((0 ≤ xt10 ∧ xt10 < (list0.length : Int)) ∧
    F_impl_validKey (List.getD list0 (Int.toNat xt10) ((0 : Int), (0 : Int))).1 fun validKey17 =>
    br (!validKey17)
    (k false)
    (F_impl_validTime (List.getD list0 (Int.toNat xt10) ((0 : Int), (0 : Int))).2 fun validTime22 =>
      br (!validTime22)
      (k false)
      (br (decide (xt10 > 0))
        (InR (xt10 - 1) ∧
          (0 ≤ (xt10 - 1) ∧ (xt10 - 1) < (list0.length : Int)) ∧
          br (decide ((List.getD list0 (Int.toNat (xt10 - 1)) ((0 : Int), (0 : Int))).1 ≥ (List.getD list0 (Int.toNat xt10) ((0 : Int), (0 : Int))).1))
          (k false)
          (InR (xt10 + 1) ∧
            B0 (xt10 + 1)))
        (InR (xt10 + 1) ∧
          B0 (xt10 + 1)))))
  (k true)
def L0_impl_ValidTimed (list0 : List (Int × Int)) (xt9 : Int) (k : Bool → Prop) : Nat → Int → Prop
  | 0, _ => False
  | n + 1, xt10 => T0_impl_ValidTimed list0 xt9 xt10 k (L0_impl_ValidTimed list0 xt9 k n)
def G_impl_ValidTimed (list0 : List (Int × Int)) (k : Bool → Prop) (I0 : List (Int × Int) → Int → Int → Prop) : Prop :=
  br (decide ((list0.length : Int) > 12))
  (k false)
  (I0 list0 (list0.length : Int) 0)
def S_impl_ValidTimed (list0 : List (Int × Int)) (k : Bool → Prop) : Prop := G_impl_ValidTimed list0 k (fun list0 xt9 xt10 => ∃ j, L0_impl_ValidTimed list0 xt9 k j xt10)
def F_impl_ValidTimed (l : List (Int × Int)) (k : Bool → Prop) : Prop := l.length ≤ 1000000000 ∧ ∀ b : Bool, (b = true ↔ VTm l) → k b
theorem F_impl_ValidTimed_S {l : List (Int × Int)} {k : Bool → Prop} (h : F_impl_ValidTimed l k) : S_impl_ValidTimed l k := by
  obtain ⟨hl, h⟩ := h
  have no : ¬ VTm l → k false := fun hv => h false (by simp [hv])
  refine br_dec.2 ⟨fun g => no fun v => by have := v.1; omega, fun g => ?_⟩
  have key : ∀ (m i : Nat), i + m = l.length → PTm (l.take i) → L0_impl_ValidTimed l (l.length : Int) k (m + 1) (i : Int) := by
    intro m
    induction m with
    | zero =>
      intro i hi hp
      rw [List.take_of_length_le (by omega)] at hp
      rw [L0_impl_ValidTimed, T0_impl_ValidTimed]
      exact br_nd (by omega) (h true (by simp only [true_iff]; exact ⟨by omega, hp⟩))
    | succ m ih =>
      intro i hi hp
      have hm : l.getD i ((0 : Int), (0 : Int)) ∈ l := getT_mem (by omega)
      rw [L0_impl_ValidTimed, T0_impl_ValidTimed]
      simp only [Int.toNat_natCast]
      refine br_yd (by omega) ⟨⟨by omega, by omega⟩, br_not.2 (br_dec.2 ⟨fun r1 => br_not.2 (br_dec.2 ⟨fun r2 => ?_, fun r2 => no fun v => r2 (v.2.1 _ hm).2⟩), fun r1 => no fun v => r1 (v.2.1 _ hm).1⟩)⟩
      by_cases h0 : i = 0
      · refine br_nd (by omega) ⟨inR (by omega) (by omega), ih (i + 1) (by omega) ?_⟩
        rw [takeT (by omega)]
        exact hp.snoc ⟨r1, r2⟩ (.inl (by rw [h0]; rfl))
      · refine br_yd (by omega) ⟨inR (by omega) (by omega), ⟨by omega, by omega⟩, ?_⟩
        rw [show ((i : Int) - 1).toNat = i - 1 by omega]
        refine br_dec.2 ⟨fun g => no fun v => ?_, fun g => ⟨inR (by omega) (by omega), ih (i + 1) (by omega) ?_⟩⟩
        · have := v.2.lt (i := i - 1) (j := i) (by omega) (by omega)
          omega
        · rw [takeT (by omega)]
          refine hp.snoc ⟨r1, r2⟩ (.inr ?_)
          rw [List.length_take, show min i l.length - 1 = i - 1 by omega, List.getD_eq_getElem?_getD, List.getElem?_take, if_pos (by omega), ← List.getD_eq_getElem?_getD]
          omega
  exact ⟨_, key l.length 0 (by omega) ⟨by simp, by simp⟩⟩
-- cmp.isNaN[int]
def G_cmp_isNaN_int (x0 : Int) (k : Bool → Prop) : Prop :=
  k (x0 != x0)
def S_cmp_isNaN_int (x0 : Int) (k : Bool → Prop) : Prop := G_cmp_isNaN_int x0 k
abbrev F_cmp_isNaN_int (x0 : Int) (k : Bool → Prop) : Prop := S_cmp_isNaN_int x0 k
theorem F_cmp_isNaN_int_S {x0 : Int} {k : Bool → Prop} (h : F_cmp_isNaN_int x0 k) : S_cmp_isNaN_int x0 k := h
-- cmp.Compare[int]
def G_cmp_Compare_int (x0 : Int) (y1 : Int) (k : Int → Prop) : Prop :=
  F_cmp_isNaN_int x0 fun isNaN8 =>
  F_cmp_isNaN_int y1 fun isNaN10 =>
  br isNaN8
  (br isNaN10
    (k 0)
    (k (-1)))
  (br isNaN10
    (k 1)
    (br (decide (x0 < y1))
      (k (-1))
      (br (decide (x0 > y1))
        (k 1)
        (k 0))))
def S_cmp_Compare_int (x0 : Int) (y1 : Int) (k : Int → Prop) : Prop := G_cmp_Compare_int x0 y1 k
def F_cmp_Compare_int (x y : Int) (k : Int → Prop) : Prop := k (cmpI x y)
theorem F_cmp_Compare_int_S {x y : Int} {k : Int → Prop} (h : F_cmp_Compare_int x y k) : S_cmp_Compare_int x y k := by
  unfold F_cmp_Compare_int cmpI at h
  show br (x != x) (br (y != y) _ _) (br (y != y) _ _)
  rw [bne_self_eq_false, bne_self_eq_false, br_f, br_f]
  refine br_dec.2 ⟨fun h1 => ?_, fun h1 => br_dec.2 ⟨fun h2 => ?_, fun h2 => ?_⟩⟩
  · rwa [if_pos h1] at h
  · rwa [if_neg h1, if_pos (show y < x from h2)] at h
  · rwa [if_neg h1, if_neg (show ¬ y < x from h2)] at h
-- impl.placeOf$1
def G_impl_placeOf_1 (timed0Key : Int) (timed0Until : Int) (key1 : Int) (k : Int → Prop) : Prop :=
  F_cmp_Compare_int timed0Key key1 fun compare8 =>
  k compare8
def S_impl_placeOf_1 (timed0Key : Int) (timed0Until : Int) (key1 : Int) (k : Int → Prop) : Prop := G_impl_placeOf_1 timed0Key timed0Until key1 k
def F_impl_placeOf_1 (a u key : Int) (k : Int → Prop) : Prop := k (cmpI a key)
theorem F_impl_placeOf_1_S {a u key : Int} {k : Int → Prop} (h : F_impl_placeOf_1 a u key k) : S_impl_placeOf_1 a u key k := h
-- slices.BinarySearchFunc[[]impl.Timed,impl.Timed,int]
def T0_slices_BinarySearchFunc_Timed_Timed_int_placeOf_1 (target1 : Int) (x0 : List (Int × Int)) (xn8 : Int) (xi9 : Int) (xj10 : Int) (k : Int → Bool → Prop) (B0 : Int → Int → Prop) : Prop :=
  br (decide (xi9 < xj10))
  (InR (xi9 + xj10) ∧
    (0 ≤ (xi9 + xj10) ∧ InR (xi9 + xj10)) ∧
    ((1 : Int) = 1) ∧
    InR ((xi9 + xj10) / 2) ∧
    (0 ≤ ((xi9 + xj10) / 2) ∧ ((xi9 + xj10) / 2) < (x0.length : Int)) ∧
    F_impl_placeOf_1 (List.getD x0 (Int.toNat ((xi9 + xj10) / 2)) ((0 : Int), (0 : Int))).1 (List.getD x0 (Int.toNat ((xi9 + xj10) / 2)) ((0 : Int), (0 : Int))).2 target1 fun placeOf130 =>
    br (decide (placeOf130 < 0))
    (InR (((xi9 + xj10) / 2) + 1) ∧
      B0 (((xi9 + xj10) / 2) + 1) xj10)
    (B0 xi9 ((xi9 + xj10) / 2)))
  (br (decide (xi9 < xn8))
    ((0 ≤ xi9 ∧ xi9 < (x0.length : Int)) ∧
      F_impl_placeOf_1 (List.getD x0 (Int.toNat xi9) ((0 : Int), (0 : Int))).1 (List.getD x0 (Int.toNat xi9) ((0 : Int), (0 : Int))).2 target1 fun placeOf146 =>
      k xi9 (placeOf146 == 0))
    (k xi9 false))
def L0_slices_BinarySearchFunc_Timed_Timed_int_placeOf_1 (target1 : Int) (x0 : List (Int × Int)) (xn8 : Int) (k : Int → Bool → Prop) : Nat → Int → Int → Prop
  | 0, _, _ => False
  | n + 1, xi9, xj10 => T0_slices_BinarySearchFunc_Timed_Timed_int_placeOf_1 target1 x0 xn8 xi9 xj10 k (L0_slices_BinarySearchFunc_Timed_Timed_int_placeOf_1 target1 x0 xn8 k n)
def G_slices_BinarySearchFunc_Timed_Timed_int_placeOf_1 (x0 : List (Int × Int)) (target1 : Int) (I0 : Int → List (Int × Int) → Int → Int → Int → Prop) : Prop :=
  I0 target1 x0 (x0.length : Int) 0 (x0.length : Int)
def S_slices_BinarySearchFunc_Timed_Timed_int_placeOf_1 (x0 : List (Int × Int)) (target1 : Int) (k : Int → Bool → Prop) : Prop := G_slices_BinarySearchFunc_Timed_Timed_int_placeOf_1 x0 target1 (fun target1 x0 xn8 xi9 xj10 => ∃ j, L0_slices_BinarySearchFunc_Timed_Timed_int_placeOf_1 target1 x0 xn8 k j xi9 xj10)
def F_slices_BinarySearchFunc_Timed_Timed_int_placeOf_1 (l : List (Int × Int)) (key : Int) (k : Int → Bool → Prop) : Prop := (l.length ≤ 100000000 ∧ PTm l) ∧ ∀ b : Bool, (b = true ↔ ∃ e ∈ l, e.1 = key) → k (lowT l key : Int) b
theorem F_slices_BinarySearchFunc_Timed_Timed_int_placeOf_1_S {l : List (Int × Int)} {key : Int} {k : Int → Bool → Prop} (h : F_slices_BinarySearchFunc_Timed_Timed_int_placeOf_1 l key k) : S_slices_BinarySearchFunc_Timed_Timed_int_placeOf_1 l key k := by
  obtain ⟨⟨hl, v⟩, hk⟩ := h
  have go : ∀ (m i j : Nat), i ≤ j → j ≤ l.length → j < i + m → (∀ e ∈ l.take i, e.1 < key) → (∀ e ∈ l.drop j, key ≤ e.1) → L0_slices_BinarySearchFunc_Timed_Timed_int_placeOf_1 key l (l.length : Int) k m (i : Int) (j : Int) := by
    intro m
    induction m with
    | zero => intro i j h1 h2 h3; omega
    | succ m ih =>
      intro i j h1 h2 h3 h4 h5
      rw [L0_slices_BinarySearchFunc_Timed_Timed_int_placeOf_1, T0_slices_BinarySearchFunc_Timed_Timed_int_placeOf_1]
      refine br_dec.2 ⟨fun c => ?_, fun c => ?_⟩
      · obtain ⟨q, hq⟩ : ∃ q : Nat, ((i : Int) + (j : Int)) / 2 = q := ⟨(((i : Int) + (j : Int)) / 2).toNat, by omega⟩
        rw [hq, Int.toNat_natCast]
        refine ⟨inR (by omega) (by omega), ⟨by omega, inR (by omega) (by omega)⟩, rfl, inR (by omega) (by omega), ⟨by omega, by omega⟩, ?_⟩
        refine br_dec.2 ⟨fun g => ⟨inR (by omega) (by omega), ih (q + 1) j (by omega) h2 (by omega) (fun e he => ?_) h5⟩, fun g => ih i q (by omega) (by omega) (by omega) h4 fun e he => ?_⟩
        · have := v.take_le (h := q) (by omega) e he
          have := cmpI_neg.1 g
          omega
        · have := v.drop_ge (h := q) (by omega) e he
          have : ¬ (l.getD q ((0 : Int), (0 : Int))).1 < key := fun g2 => g (cmpI_neg.2 g2)
          omega
      · have hij : i = j := by omega
        subst hij
        have hlow : lowT l key = i := by
          unfold lowT
          rw [low_take h4 h5, List.length_take]; omega
        refine br_dec.2 ⟨fun g => ⟨⟨by omega, by omega⟩, ?_⟩, fun g => ?_⟩
        · have := hk (cmpI (l.getD i ((0 : Int), (0 : Int))).1 key == 0) (by
            rw [beq_iff_eq, cmpI_zero]
            exact ⟨fun e => ⟨_, getT_mem (by omega), e⟩, fun e => by have := (v.at_low e).2; rwa [hlow] at this⟩)
          rw [hlow] at this
          rw [Int.toNat_natCast]; exact this
        · have := hk false (by
            simp only [Bool.false_eq_true, false_iff]
            intro e
            have := (v.at_low e).1
            omega)
          rw [hlow] at this
          exact this
  exact ⟨_, go (l.length + 1) 0 l.length (by omega) (by omega) (by omega) (by simp) (by simp)⟩
-- impl.placeOf
def G_impl_placeOf (list0 : List (Int × Int)) (key1 : Int) (k : Int → Bool → Prop) : Prop :=
  F_slices_BinarySearchFunc_Timed_Timed_int_placeOf_1 list0 key1 fun binarySearchFunc8r0 binarySearchFunc8r1 =>
  k binarySearchFunc8r0 binarySearchFunc8r1
def S_impl_placeOf (list0 : List (Int × Int)) (key1 : Int) (k : Int → Bool → Prop) : Prop := G_impl_placeOf list0 key1 k
def F_impl_placeOf (l : List (Int × Int)) (key : Int) (k : Int → Bool → Prop) : Prop := (l.length ≤ 100000000 ∧ PTm l) ∧ ∀ b : Bool, (b = true ↔ ∃ e ∈ l, e.1 = key) → k (lowT l key : Int) b
theorem F_impl_placeOf_S {l : List (Int × Int)} {key : Int} {k : Int → Bool → Prop} (h : F_impl_placeOf l key k) : S_impl_placeOf l key k := h
-- slices.Insert[[]impl.Timed,impl.Timed]
def G_slices_Insert_Timed_Timed (s0 : List (Int × Int)) (i1 : Int) (v2 : List (Int × Int)) (k : List (Int × Int) → Prop) : Prop :=
  (0 ≤ i1 ∧ i1 ≤ (s0.length : Int)) ∧
  br ((v2.length : Int) == 0)
  (k s0)
  (br (i1 == (s0.length : Int))
    ((s0.length + v2.length ≤ 1000000000) ∧
      k (s0 ++ v2))
    (∀ (c8 : Nat), s0.length ≤ c8 →
      InR ((s0.length : Int) + (v2.length : Int)) ∧
      br (decide (((s0.length : Int) + (v2.length : Int)) > (c8 : Int)))
      ((0 ≤ i1 ∧ i1 ≤ (c8 : Int)) ∧
        InR ((s0.length : Int) + (v2.length : Int)) ∧
        InR (((s0.length : Int) + (v2.length : Int)) - i1) ∧
        (0 ≤ (((s0.length : Int) + (v2.length : Int)) - i1) ∧ (c8 : Int) < ((Int.toNat i1) : Int) + (((s0.length : Int) + (v2.length : Int)) - i1) ∧ ((Int.toNat i1) : Int) + (((s0.length : Int) + (v2.length : Int)) - i1) ≤ 1000000000 ∧ (0 + (Int.toNat i1)) ≤ s0.length) ∧
        (0 ≤ i1 ∧ i1 ≤ ((List.length ((List.take (Int.toNat i1) (List.drop 0 s0)) ++ (List.replicate (Int.toNat (((s0.length : Int) + (v2.length : Int)) - i1)) ((0 : Int), (0 : Int))))) : Int)) ∧
        (v2.length ≤ ((List.length ((List.take (Int.toNat i1) (List.drop 0 s0)) ++ (List.replicate (Int.toNat (((s0.length : Int) + (v2.length : Int)) - i1)) ((0 : Int), (0 : Int))))) - (Int.toNat i1))) ∧
        InR (i1 + (v2.length : Int)) ∧
        (0 ≤ (i1 + (v2.length : Int)) ∧ (i1 + (v2.length : Int)) ≤ ((List.length (midA ((List.take (Int.toNat i1) (List.drop 0 s0)) ++ (List.replicate (Int.toNat (((s0.length : Int) + (v2.length : Int)) - i1)) ((0 : Int), (0 : Int)))) (Int.toNat i1) v2)) : Int)) ∧
        (0 ≤ i1 ∧ i1 ≤ (s0.length : Int)) ∧
        ((((List.length (midA ((List.take (Int.toNat i1) (List.drop 0 s0)) ++ (List.replicate (Int.toNat (((s0.length : Int) + (v2.length : Int)) - i1)) ((0 : Int), (0 : Int)))) (Int.toNat i1) v2)) - (Int.toNat (i1 + (v2.length : Int)))) ≤ (s0.length - (Int.toNat i1)) ∧ ((0 + (Int.toNat i1)) + ((List.length (midA ((List.take (Int.toNat i1) (List.drop 0 s0)) ++ (List.replicate (Int.toNat (((s0.length : Int) + (v2.length : Int)) - i1)) ((0 : Int), (0 : Int)))) (Int.toNat i1) v2)) - (Int.toNat (i1 + (v2.length : Int))))) ≤ s0.length) ∧
          k (midA (midA ((List.take (Int.toNat i1) (List.drop 0 s0)) ++ (List.replicate (Int.toNat (((s0.length : Int) + (v2.length : Int)) - i1)) ((0 : Int), (0 : Int)))) (Int.toNat i1) v2) (Int.toNat (i1 + (v2.length : Int))) (List.take ((List.length (midA ((List.take (Int.toNat i1) (List.drop 0 s0)) ++ (List.replicate (Int.toNat (((s0.length : Int) + (v2.length : Int)) - i1)) ((0 : Int), (0 : Int)))) (Int.toNat i1) v2)) - (Int.toNat (i1 + (v2.length : Int)))) (List.drop (0 + (Int.toNat i1)) s0)))) ∧
        (True))
      (InR ((s0.length : Int) + (v2.length : Int)) ∧
        (0 ≤ ((s0.length : Int) + (v2.length : Int)) ∧ ((s0.length : Int) + (v2.length : Int)) ≤ (c8 : Int)) ∧
        InR (i1 + (v2.length : Int)) ∧
        (0 ≤ (i1 + (v2.length : Int)) ∧ (i1 + (v2.length : Int)) ≤ ((Int.toNat ((s0.length : Int) + (v2.length : Int))) : Int)) ∧
        InR (i1 + (v2.length : Int)) ∧
        (0 ≤ (i1 + (v2.length : Int)) ∧ (i1 + (v2.length : Int)) ≤ ((Int.toNat ((s0.length : Int) + (v2.length : Int))) : Int)) ∧
        (0 ≤ i1 ∧ i1 ≤ ((Int.toNat ((s0.length : Int) + (v2.length : Int))) : Int)) ∧
        ((((Int.toNat ((s0.length : Int) + (v2.length : Int))) - (Int.toNat (i1 + (v2.length : Int)))) ≤ ((Int.toNat ((s0.length : Int) + (v2.length : Int))) - (Int.toNat i1)) ∧ ((0 + (Int.toNat i1)) + ((Int.toNat ((s0.length : Int) + (v2.length : Int))) - (Int.toNat (i1 + (v2.length : Int))))) ≤ s0.length) ∧
          ((0 + (Int.toNat (i1 + (v2.length : Int)))) ≤ s0.length) ∧
          (0 ≤ i1 ∧ i1 ≤ ((Int.toNat ((s0.length : Int) + (v2.length : Int))) : Int)) ∧
          (v2.length ≤ ((Int.toNat ((s0.length : Int) + (v2.length : Int))) - (Int.toNat i1))) ∧
          ((0 + (Int.toNat i1)) ≤ (List.length (putX s0 (0 + (Int.toNat (i1 + (v2.length : Int)))) (List.take ((Int.toNat ((s0.length : Int) + (v2.length : Int))) - (Int.toNat (i1 + (v2.length : Int)))) (List.drop (0 + (Int.toNat i1)) s0))))) ∧
          (Int.toNat ((s0.length : Int) + (v2.length : Int))) = (List.length (putX (putX s0 (0 + (Int.toNat (i1 + (v2.length : Int)))) (List.take ((Int.toNat ((s0.length : Int) + (v2.length : Int))) - (Int.toNat (i1 + (v2.length : Int)))) (List.drop (0 + (Int.toNat i1)) s0))) (0 + (Int.toNat i1)) v2)) ∧
          k (putX (putX s0 (0 + (Int.toNat (i1 + (v2.length : Int)))) (List.take ((Int.toNat ((s0.length : Int) + (v2.length : Int))) - (Int.toNat (i1 + (v2.length : Int)))) (List.drop (0 + (Int.toNat i1)) s0))) (0 + (Int.toNat i1)) v2)) ∧
        (True))))
def H_slices_Insert_Timed_Timed (s0 : List (Int × Int)) (i1 : Int) (v2 : List (Int × Int)) (k : List (Int × Int) → Prop) : Prop :=
  (0 ≤ i1 ∧ i1 ≤ (s0.length : Int)) ∧
  br ((v2.length : Int) == 0)
  (k s0)
  (br (i1 == (s0.length : Int))
    ((s0.length + v2.length ≤ 1000000000) ∧
      k (s0 ++ v2))
    (∀ (c8 : Nat), s0.length ≤ c8 →
      InR ((s0.length : Int) + (v2.length : Int)) ∧
      br (decide (((s0.length : Int) + (v2.length : Int)) > (c8 : Int)))
      ((0 ≤ i1 ∧ i1 ≤ (c8 : Int)) ∧
        InR ((s0.length : Int) + (v2.length : Int)) ∧
        InR (((s0.length : Int) + (v2.length : Int)) - i1) ∧
        (0 ≤ (((s0.length : Int) + (v2.length : Int)) - i1) ∧ (c8 : Int) < ((Int.toNat i1) : Int) + (((s0.length : Int) + (v2.length : Int)) - i1) ∧ ((Int.toNat i1) : Int) + (((s0.length : Int) + (v2.length : Int)) - i1) ≤ 1000000000 ∧ (0 + (Int.toNat i1)) ≤ s0.length) ∧
        (0 ≤ i1 ∧ i1 ≤ ((List.length ((List.take (Int.toNat i1) (List.drop 0 s0)) ++ (List.replicate (Int.toNat (((s0.length : Int) + (v2.length : Int)) - i1)) ((0 : Int), (0 : Int))))) : Int)) ∧
        (v2.length ≤ ((List.length ((List.take (Int.toNat i1) (List.drop 0 s0)) ++ (List.replicate (Int.toNat (((s0.length : Int) + (v2.length : Int)) - i1)) ((0 : Int), (0 : Int))))) - (Int.toNat i1))) ∧
        InR (i1 + (v2.length : Int)) ∧
        (0 ≤ (i1 + (v2.length : Int)) ∧ (i1 + (v2.length : Int)) ≤ ((List.length (midA ((List.take (Int.toNat i1) (List.drop 0 s0)) ++ (List.replicate (Int.toNat (((s0.length : Int) + (v2.length : Int)) - i1)) ((0 : Int), (0 : Int)))) (Int.toNat i1) v2)) : Int)) ∧
        (0 ≤ i1 ∧ i1 ≤ (s0.length : Int)) ∧
        (((List.length (midA ((List.take (Int.toNat i1) (List.drop 0 s0)) ++ (List.replicate (Int.toNat (((s0.length : Int) + (v2.length : Int)) - i1)) ((0 : Int), (0 : Int)))) (Int.toNat i1) v2)) - (Int.toNat (i1 + (v2.length : Int)))) ≤ (s0.length - (Int.toNat i1)) ∧ ((0 + (Int.toNat i1)) + ((List.length (midA ((List.take (Int.toNat i1) (List.drop 0 s0)) ++ (List.replicate (Int.toNat (((s0.length : Int) + (v2.length : Int)) - i1)) ((0 : Int), (0 : Int)))) (Int.toNat i1) v2)) - (Int.toNat (i1 + (v2.length : Int))))) ≤ s0.length) ∧
        k (midA (midA ((List.take (Int.toNat i1) (List.drop 0 s0)) ++ (List.replicate (Int.toNat (((s0.length : Int) + (v2.length : Int)) - i1)) ((0 : Int), (0 : Int)))) (Int.toNat i1) v2) (Int.toNat (i1 + (v2.length : Int))) (List.take ((List.length (midA ((List.take (Int.toNat i1) (List.drop 0 s0)) ++ (List.replicate (Int.toNat (((s0.length : Int) + (v2.length : Int)) - i1)) ((0 : Int), (0 : Int)))) (Int.toNat i1) v2)) - (Int.toNat (i1 + (v2.length : Int)))) (List.drop (0 + (Int.toNat i1)) s0))))
      (InR ((s0.length : Int) + (v2.length : Int)) ∧
        (0 ≤ ((s0.length : Int) + (v2.length : Int)) ∧ ((s0.length : Int) + (v2.length : Int)) ≤ (c8 : Int)) ∧
        InR (i1 + (v2.length : Int)) ∧
        (0 ≤ (i1 + (v2.length : Int)) ∧ (i1 + (v2.length : Int)) ≤ ((Int.toNat ((s0.length : Int) + (v2.length : Int))) : Int)) ∧
        InR (i1 + (v2.length : Int)) ∧
        (0 ≤ (i1 + (v2.length : Int)) ∧ (i1 + (v2.length : Int)) ≤ ((Int.toNat ((s0.length : Int) + (v2.length : Int))) : Int)) ∧
        (0 ≤ i1 ∧ i1 ≤ ((Int.toNat ((s0.length : Int) + (v2.length : Int))) : Int)) ∧
        (((Int.toNat ((s0.length : Int) + (v2.length : Int))) - (Int.toNat (i1 + (v2.length : Int)))) ≤ ((Int.toNat ((s0.length : Int) + (v2.length : Int))) - (Int.toNat i1)) ∧ ((0 + (Int.toNat i1)) + ((Int.toNat ((s0.length : Int) + (v2.length : Int))) - (Int.toNat (i1 + (v2.length : Int))))) ≤ s0.length) ∧
        ((0 + (Int.toNat (i1 + (v2.length : Int)))) ≤ s0.length) ∧
        (0 ≤ i1 ∧ i1 ≤ ((Int.toNat ((s0.length : Int) + (v2.length : Int))) : Int)) ∧
        (v2.length ≤ ((Int.toNat ((s0.length : Int) + (v2.length : Int))) - (Int.toNat i1))) ∧
        ((0 + (Int.toNat i1)) ≤ (List.length (putX s0 (0 + (Int.toNat (i1 + (v2.length : Int)))) (List.take ((Int.toNat ((s0.length : Int) + (v2.length : Int))) - (Int.toNat (i1 + (v2.length : Int)))) (List.drop (0 + (Int.toNat i1)) s0))))) ∧
        (Int.toNat ((s0.length : Int) + (v2.length : Int))) = (List.length (putX (putX s0 (0 + (Int.toNat (i1 + (v2.length : Int)))) (List.take ((Int.toNat ((s0.length : Int) + (v2.length : Int))) - (Int.toNat (i1 + (v2.length : Int)))) (List.drop (0 + (Int.toNat i1)) s0))) (0 + (Int.toNat i1)) v2)) ∧
        k (putX (putX s0 (0 + (Int.toNat (i1 + (v2.length : Int)))) (List.take ((Int.toNat ((s0.length : Int) + (v2.length : Int))) - (Int.toNat (i1 + (v2.length : Int)))) (List.drop (0 + (Int.toNat i1)) s0))) (0 + (Int.toNat i1)) v2))))
theorem G_slices_Insert_Timed_Timed_eq (s0 : List (Int × Int)) (i1 : Int) (v2 : List (Int × Int)) (k : List (Int × Int) → Prop) : G_slices_Insert_Timed_Timed s0 i1 v2 k = H_slices_Insert_Timed_Timed s0 i1 v2 k := by
  simp only [G_slices_Insert_Timed_Timed, H_slices_Insert_Timed_Timed, and_self, and_true]
def S_slices_Insert_Timed_Timed (s0 : List (Int × Int)) (i1 : Int) (v2 : List (Int × Int)) (k : List (Int × Int) → Prop) : Prop := H_slices_Insert_Timed_Timed s0 i1 v2 k
def F_slices_Insert_Timed_Timed (l : List (Int × Int)) (i : Int) (v : List (Int × Int)) (k : List (Int × Int) → Prop) : Prop := (0 ≤ i ∧ i ≤ l.length ∧ v.length = 1 ∧ l.length ≤ 100000000) ∧ k (l.take i.toNat ++ (v ++ l.drop i.toNat))
theorem F_slices_Insert_Timed_Timed_S {l : List (Int × Int)} {i : Int} {v : List (Int × Int)} {k : List (Int × Int) → Prop} (h : F_slices_Insert_Timed_Timed l i v k) : S_slices_Insert_Timed_Timed l i v k := by
  obtain ⟨⟨h1, h2, h3, h4⟩, hk⟩ := h
  obtain ⟨i, rfl⟩ : ∃ q : Nat, i = q := ⟨i.toNat, by omega⟩
  obtain ⟨x, rfl⟩ : ∃ x, v = [x] := List.length_eq_one_iff.1 h3
  rw [Int.toNat_natCast] at hk
  have e0 : (([x] : List (Int × Int)).length : Int) = 1 := rfl
  refine ⟨⟨by omega, by omega⟩, br_ne (by omega) (br_beq.2 ⟨fun e => ⟨by simp; omega, ?_⟩, fun e c hc => ?_⟩)⟩
  · rw [show i = l.length by omega, List.take_length, List.drop_length] at hk
    simpa using hk
  have e1 : ((l.length : Int) + (([x] : List (Int × Int)).length : Int)).toNat = l.length + 1 := by omega
  have e2 : ((l.length : Int) + (([x] : List (Int × Int)).length : Int) - (i : Int)).toNat = l.length + 1 - i := by omega
  have e3 : ((i : Int) + (([x] : List (Int × Int)).length : Int)).toNat = i + 1 := by omega
  have hA : (l.take i ++ List.replicate (l.length + 1 - i) ((0 : Int), (0 : Int))).length = l.length + 1 := by simp; omega
  have hM : (midA (l.take i ++ List.replicate (l.length + 1 - i) ((0 : Int), (0 : Int))) i [x]).length = l.length + 1 := by simp [midA]; omega
  have hD : (l.drop i).length = l.length - i := by simp
  have hT : List.take (l.length + 1 - (i + 1)) (l.drop i) = l.drop i := List.take_of_length_le (by omega)
  have hX := putX_len1 (l := l) (i := i) (by omega)
  have hX2 : (putX (putX l (i + 1) (l.drop i)) i [x]).length = l.length + 1 := by rw [ins_shift (by omega)]; simp; omega
  refine ⟨inR (by omega) (by omega), ?_⟩
  simp only [e1, e2, e3, Int.toNat_natCast, Nat.zero_add, List.drop_zero, hA, hM, hT, hX, hX2]
  rw [ins_grow (by omega), ins_shift (by omega)]
  refine br_dec.2 ⟨fun g => ⟨⟨by omega, by omega⟩, inR (by omega) (by omega), inR (by omega) (by omega), ⟨by omega, by omega, by omega, by omega⟩, ⟨by omega, by omega⟩, by simp only [List.length_singleton]; omega, inR (by omega) (by omega), ⟨by omega, by omega⟩, ⟨by omega, by omega⟩, ⟨by omega, by omega⟩, hk⟩,
    fun g => ⟨inR (by omega) (by omega), ⟨by omega, by omega⟩, inR (by omega) (by omega), ⟨by omega, by omega⟩, inR (by omega) (by omega), ⟨by omega, by omega⟩, ⟨by omega, by omega⟩, ⟨by omega, by omega⟩, by omega, ⟨by omega, by omega⟩, by simp only [List.length_singleton]; omega, by omega, trivial, hk⟩⟩
-- impl.PutTimed
def G_impl_PutTimed (list0 : List (Int × Int)) (key1 : Int) (until2 : Int) (k : List (Int × Int) → Bool → Prop) : Prop :=
  F_impl_ValidTimed list0 fun validTimed12 =>
  br (!validTimed12)
  (k ([] : List (Int × Int)) false)
  (F_impl_validKey key1 fun validKey16 =>
    br (!validKey16)
    (k ([] : List (Int × Int)) false)
    (F_impl_validTime until2 fun validTime21 =>
      br (!validTime21)
      (k ([] : List (Int × Int)) false)
      ((0 + list0.length ≤ 1000000000) ∧
        F_impl_placeOf list0 key1 fun placeOf30r0 placeOf30r1 =>
        br placeOf30r1
        ((0 ≤ placeOf30r0 ∧ placeOf30r0 < (list0.length : Int)) ∧
          k (List.set list0 (Int.toNat placeOf30r0) ((List.getD list0 (Int.toNat placeOf30r0) ((0 : Int), (0 : Int))).1, until2)) true)
        (br ((list0.length : Int) == 12)
          (k ([] : List (Int × Int)) false)
          (F_slices_Insert_Timed_Timed list0 placeOf30r0 ([(key1, until2)] : List (Int × Int)) fun insert49 =>
            k insert49 true)))))
def S_impl_PutTimed (list0 : List (Int × Int)) (key1 : Int) (until2 : Int) (k : List (Int × Int) → Bool → Prop) : Prop := G_impl_PutTimed list0 key1 until2 k
def F_impl_PutTimed (l : List (Int × Int)) (key until_ : Int) (k : List (Int × Int) → Bool → Prop) : Prop := l.length ≤ 100000000 ∧ (PutOK l key until_ → k (putM l key until_) true) ∧ (¬ PutOK l key until_ → k [] false)
theorem F_impl_PutTimed_S {l : List (Int × Int)} {key until_ : Int} {k : List (Int × Int) → Bool → Prop} (h : F_impl_PutTimed l key until_ k) : S_impl_PutTimed l key until_ k := by
  obtain ⟨hl, hyes, hno⟩ := h
  refine ⟨by omega, fun b hb => br_not.2 (br_iff.2 ⟨fun e => ?_, fun e => hno fun w => by rw [hb.2 w.1] at e; cases e⟩)⟩
  have v := hb.1 e
  refine br_not.2 (br_dec.2 ⟨fun hk => br_not.2 (br_dec.2 ⟨fun hu => ⟨by omega, ⟨hl, v.2⟩, fun c hc => br_iff.2 ⟨fun ec => ?_, fun ec => ?_⟩⟩, fun hu => hno fun w => hu w.2.2.1⟩), fun hk => hno fun w => hk w.2.1⟩)
  · have hex := hc.1 ec
    obtain ⟨g1, g2⟩ := v.2.at_low hex
    refine ⟨⟨by omega, by omega⟩, ?_⟩
    have := v.2.put_old (u := until_) hex
    have hk2 := hyes ⟨v, hk, hu, by rw [this, List.length_set]; exact v.1⟩
    rw [Int.toNat_natCast, g2, ← this]; exact hk2
  · have hnex : ¬ ∃ e ∈ l, e.1 = key := fun g => by rw [hc.2 g] at ec; cases ec
    have hlen := v.2.put_len (u := until_) hnex
    have hle := lowT_le l key
    refine br_beq.2 ⟨fun g => hno fun w => by have := w.2.2.2; omega, fun g => ⟨⟨by omega, by omega, rfl, hl⟩, ?_⟩⟩
    have hk2 := hyes ⟨v, hk, hu, by have := v.1; omega⟩
    rw [v.2.put_new hnex] at hk2
    rw [Int.toNat_natCast]; exact hk2
-- laws.equalTimed
def T0_laws_equalTimed (a0 : List (Int × Int)) (b1 : List (Int × Int)) (xi5 : Int) (k : Bool → Prop) (B0 : Int → Prop) : Prop :=
  br (decide (xi5 < (a0.length : Int)))
  ((0 ≤ xi5 ∧ xi5 < (a0.length : Int)) ∧
    (0 ≤ xi5 ∧ xi5 < (b1.length : Int)) ∧
    br (!(((List.getD a0 (Int.toNat xi5) ((0 : Int), (0 : Int))).1 == (List.getD b1 (Int.toNat xi5) ((0 : Int), (0 : Int))).1) && ((List.getD a0 (Int.toNat xi5) ((0 : Int), (0 : Int))).2 == (List.getD b1 (Int.toNat xi5) ((0 : Int), (0 : Int))).2)))
    (k false)
    (InR (xi5 + 1) ∧
      B0 (xi5 + 1)))
  (k true)
def L0_laws_equalTimed (a0 : List (Int × Int)) (b1 : List (Int × Int)) (k : Bool → Prop) : Nat → Int → Prop
  | 0, _ => False
  | n + 1, xi5 => T0_laws_equalTimed a0 b1 xi5 k (L0_laws_equalTimed a0 b1 k n)
def G_laws_equalTimed (a0 : List (Int × Int)) (b1 : List (Int × Int)) (k : Bool → Prop) (I0 : List (Int × Int) → List (Int × Int) → Int → Prop) : Prop :=
  br ((a0.length : Int) != (b1.length : Int))
  (k false)
  (I0 a0 b1 0)
def S_laws_equalTimed (a0 : List (Int × Int)) (b1 : List (Int × Int)) (k : Bool → Prop) : Prop := G_laws_equalTimed a0 b1 k (fun a0 b1 xi5 => ∃ j, L0_laws_equalTimed a0 b1 k j xi5)
def F_laws_equalTimed (a b : List (Int × Int)) (k : Bool → Prop) : Prop := a.length ≤ 1000000000 ∧ k (decide (a = b))
theorem F_laws_equalTimed_S {a b : List (Int × Int)} {k : Bool → Prop} (h : F_laws_equalTimed a b k) : S_laws_equalTimed a b k := by
  obtain ⟨hl, hk⟩ := h
  refine br_bne.2 ⟨fun he => by rwa [decide_eq_false (fun e => he (by rw [e]))] at hk, fun he => ?_⟩
  have he : a.length = b.length := by omega
  have key : ∀ (r : List (Int × Int)) (i : Nat), a.drop i = r → (r = b.drop i ↔ a = b) → L0_laws_equalTimed a b k (r.length + 1) (i : Int) := by
    intro r
    induction r with
    | nil =>
      intro i hd hi
      have := drop_nil' hd
      rw [L0_laws_equalTimed, T0_laws_equalTimed]
      simp only [br_dec]
      exact ⟨fun h => by omega, fun _ => by rwa [decide_eq_true (hi.1 (List.drop_eq_nil_of_le (by omega)).symm)] at hk⟩
    | cons x r ih =>
      intro i hd hi
      obtain ⟨h1, h2, _, h3, _⟩ := drop_cons' hd
      obtain ⟨y, s, hs⟩ : ∃ y s, b.drop i = y :: s := by
        cases e : b.drop i with
        | nil => have := drop_nil' e; omega
        | cons y s => exact ⟨y, s, rfl⟩
      obtain ⟨g1, g2, _, g3, _⟩ := drop_cons' hs
      rw [List.length_cons, L0_laws_equalTimed, T0_laws_equalTimed]
      simp only [br_dec, Int.toNat_natCast, h2, g2]
      rw [hs] at hi
      refine ⟨fun _ => ⟨⟨by omega, by omega⟩, ⟨by omega, by omega⟩, ?_⟩, fun h => by omega⟩
      have go : x = y → L0_laws_equalTimed a b k (r.length + 1) ((i : Int) + 1) := fun hx => ih (i + 1) h3 (by rw [g3, ← hi, hx]; simp)
      have no : x ≠ y → k false := fun hx => by rwa [decide_eq_false (fun e => hx (List.cons.inj (hi.2 e)).1)] at hk
      rw [br_not, eq2, br_dec]
      exact ⟨fun hx => ⟨inR (by omega) (by omega), go hx⟩, no⟩
  exact ⟨_, key a 0 rfl (by simp)⟩
-- laws.FnPutTimedTwice
def G_laws_FnPutTimedTwice_j0 (putTimed27r0 : List (Int × Int)) (putTimed27r1 : Bool) (putTimed34r0 : List (Int × Int)) (putTimed34r1 : Bool) (k : Bool → Prop) : Prop :=
  F_laws_equalTimed putTimed27r0 putTimed34r0 fun equalTimed52 =>
  br equalTimed52
  (k (putTimed27r1 == putTimed34r1))
  (k false)
def G_laws_FnPutTimedTwice (code0 : List Int) (k : Bool → Prop) : Prop :=
  br (decide ((code0.length : Int) > 1048576))
  (k true)
  (F_spec_DrawPutTimed code0 fun drawPutTimed19r0 drawPutTimed19r1 drawPutTimed19r2 =>
    F_impl_PutTimed drawPutTimed19r0 drawPutTimed19r1 drawPutTimed19r2 fun putTimed27r0 putTimed27r1 =>
    F_spec_PutTimed drawPutTimed19r0 drawPutTimed19r1 drawPutTimed19r2 fun putTimed34r0 putTimed34r1 =>
    F_laws_equalTimed putTimed27r0 putTimed34r0 fun equalTimed39 =>
    br (!equalTimed39)
    (G_laws_FnPutTimedTwice_j0 putTimed27r0 putTimed27r1 putTimed34r0 putTimed34r1 k)
    (br (!(putTimed27r1 == putTimed34r1))
      (G_laws_FnPutTimedTwice_j0 putTimed27r0 putTimed27r1 putTimed34r0 putTimed34r1 k)
      (br (!putTimed27r1)
        (G_laws_FnPutTimedTwice_j0 putTimed27r0 putTimed27r1 putTimed34r0 putTimed34r1 k)
        (F_impl_PutTimed putTimed27r0 drawPutTimed19r1 (77 : Int) fun putTimed61r0 putTimed61r1 =>
          F_impl_PutTimed drawPutTimed19r0 drawPutTimed19r1 (77 : Int) fun putTimed67r0 putTimed67r1 =>
          br putTimed61r1
          (br putTimed67r1
            (F_laws_equalTimed putTimed61r0 putTimed67r0 fun equalTimed77 =>
              k equalTimed77)
            (k false))
          (k false)))))
def S_laws_FnPutTimedTwice (code0 : List Int) (k : Bool → Prop) : Prop := G_laws_FnPutTimedTwice code0 k
abbrev F_laws_FnPutTimedTwice (code0 : List Int) (k : Bool → Prop) : Prop := S_laws_FnPutTimedTwice code0 k
theorem F_laws_FnPutTimedTwice_S {code0 : List Int} {k : Bool → Prop} (h : F_laws_FnPutTimedTwice code0 k) : S_laws_FnPutTimedTwice code0 k := h
theorem law_FnPutTimedTwice (code : List Int) (hb : ∀ x ∈ code, 0 ≤ x ∧ x ≤ 255) : F_laws_FnPutTimedTwice code (fun r => r = true) := by
  refine br_dec.2 ⟨fun _ => rfl, fun hlen => ⟨hb, fun l key u l1 => ?_⟩⟩
  by_cases v : PutOK l key u
  · have w := v.valid
    have hw := w.1
    have hl : ∀ x, (putM l key x).length = (putM l key u).length := fun x => by simp [putM]
    have h7 : (0 : Int) ≤ 77 ∧ (77 : Int) ≤ 1000 := ⟨by omega, by omega⟩
    have v2 : PutOK (putM l key u) key 77 := ⟨w, v.2.1, h7, by rw [putM_again, hl]; exact v.2.2.2⟩
    have v3 : PutOK l key 77 := ⟨v.1, v.2.1, h7, by rw [hl]; exact v.2.2.2⟩
    exact ⟨by omega, yes v ⟨by omega, yes v ⟨by omega, br_de (br_same (br_nt ⟨by omega, yes v2 ⟨by omega, yes v3 ⟨by have := v2.2.2.2; omega, decide_eq_true (putM_again _ _ _ _)⟩⟩⟩))⟩⟩⟩
  · exact ⟨by omega, nay v ⟨by omega, nay v ⟨by simp, br_de (br_same (br_nf ⟨by simp, br_de' rfl⟩))⟩⟩⟩
end Go.Ev
