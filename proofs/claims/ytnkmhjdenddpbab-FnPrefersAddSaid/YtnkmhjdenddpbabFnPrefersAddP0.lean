/- What the functions that the law reaches do, written as plain Lean. No statement is proved here. -/
import Derived.Test.YtnkmhjdenddpbabEvT
namespace Go.Ev
set_option linter.unusedVariables false
open Go
theorem br_iff {b : Bool} {A B : Prop} : br b A B ↔ (b = true → A) ∧ (b = false → B) := by cases b <;> simp [br]
theorem br_dec {p : Prop} [Decidable p] {A B : Prop} : br (decide p) A B ↔ (p → A) ∧ (¬ p → B) := by rw [br_iff]; simp
theorem br_beq {a b : Int} {A B : Prop} : br (a == b) A B ↔ (a = b → A) ∧ (a ≠ b → B) := by rw [br_iff]; simp
theorem br_bne {a b : Int} {A B : Prop} : br (a != b) A B ↔ (a ≠ b → A) ∧ (a = b → B) := by rw [br_iff]; simp
theorem br_not {b : Bool} {A B : Prop} : br (!b) A B ↔ br b B A := by cases b <;> simp [br]
theorem inR {x : Int} (h1 : -9223372036854775808 ≤ x) (h2 : x ≤ 9223372036854775807) : InR x := ⟨h1, h2⟩

section lists
variable {α : Type}
theorem drop_nil' {l : List α} {i : Nat} (h : l.drop i = []) : l.length ≤ i := by simpa using h
theorem drop_cons' {l : List α} {i : Nat} {x : α} {r : List α} (h : l.drop i = x :: r) : i < l.length ∧ (∀ d, l.getD i d = x) ∧ l[i]? = some x ∧ l.drop (i + 1) = r ∧ l.take (i + 1) = l.take i ++ [x] := by
  have hlt : i < l.length := by
    rcases Nat.lt_or_ge i l.length with h1 | h1
    · exact h1
    · rw [List.drop_eq_nil_of_le h1] at h; cases h
  have h2 := List.drop_eq_getElem_cons hlt
  rw [h] at h2
  injection h2 with h3 h4
  have h5 : l[i]? = some x := by rw [List.getElem?_eq_getElem hlt, h3]
  exact ⟨hlt, fun d => by simp [List.getD, h5], h5, h4.symm, by rw [List.take_succ_eq_append_getElem hlt, h3]⟩
end lists

def Bs (b : List Int) : Prop := b.length ≤ 2000 ∧ ∀ x ∈ b, 0 ≤ x ∧ x ≤ 255
theorem Bs.get {b : List Int} (h : Bs b) (i : Nat) : 0 ≤ b.getD i 0 ∧ b.getD i 0 ≤ 255 := by
  rcases Nat.lt_or_ge i b.length with hi | hi
  · have hx : b[i]? = some (b.getD i 0) := by simp [List.getD, hi]
    exact h.2 _ (List.mem_of_getElem? hx)
  · simp [List.getD, List.getElem?_eq_none hi]
/-- What a pick of n yields. -/
def Pk (n x : Int) : Prop := (n < 1 ∧ x = 0) ∨ (0 ≤ x ∧ x < n)
theorem ofInt_i64' (n : Nat) (h : n < 9223372036854775808) : (BitVec.ofInt 64 (n : Int)).toNat = n := by
  rw [BitVec.toNat_ofInt]; omega
theorem xor_nn (x y : Int) (hx : 0 ≤ x) (hx' : x < 9223372036854775808) (hy : 0 ≤ y) (hy' : y < 9223372036854775808) : 0 ≤ IntKind.i64.wrap ((BitVec.ofInt 64 x ^^^ BitVec.ofInt 64 y).toNat : Int) := by
  obtain ⟨a, rfl⟩ := Int.eq_ofNat_of_zero_le hx
  obtain ⟨b, rfl⟩ := Int.eq_ofNat_of_zero_le hy
  have hlt : a ^^^ b < 2 ^ 63 := Nat.xor_lt_two_pow (by omega) (by omega)
  have e : IntKind.i64.wrap ((BitVec.ofInt 64 (a : Int) ^^^ BitVec.ofInt 64 (b : Int)).toNat : Int) = ((a ^^^ b : Nat) : Int) := by
    rw [BitVec.toNat_xor, ofInt_i64' a (by omega), ofInt_i64' b (by omega), IntKind.wrap_i64]
    omega
  rw [e]; omega

theorem br_same {b : Bool} {A B : Prop} (h : B) : br (!(b == b)) A B := by rw [beq_self_eq_true]; exact h
theorem some_of {l : List Int} {i : Nat} {d : Int} (h : i < l.length) : l[i]? = some (l.getD i d) := by
  rw [List.getD_eq_getElem?_getD, List.getElem?_eq_getElem h]; rfl
theorem mem_getD {l : List Int} {i : Nat} (h : i < l.length) : l.getD i 0 ∈ l := List.mem_of_getElem? (some_of h)
theorem pred_same {P : Prop} {b1 b2 : Bool} {A B : Prop} (h1 : b1 = true ↔ P) (h2 : b2 = true ↔ P) (h : B) : br (!(b1 == b2)) A B := by
  have e : b1 = b2 := by
    cases b1 <;> cases b2 <;> first | rfl | (simp at h1 h2; first | exact absurd h2 h1 | exact absurd h1 h2)
  subst e
  exact br_same h
abbrev Ent := Int × Int × Int
def Rar (a b : Ent) : Prop := a.2.1 < b.2.1 ∨ a.2.1 = b.2.1 ∧ a.2.2 < b.2.2
instance (a b : Ent) : Decidable (Rar a b) := by unfold Rar; infer_instance
theorem Rar.trans {a b c : Ent} (h : Rar a b) (g : Rar b c) : Rar a c := by unfold Rar at *; omega
structure AL where
  t : Int
  o : List Int
  f : List Int
  wo : List Int
  wf : List Int
def knownL (a : AL) (key : Int) : Prop := key ∈ a.o ∨ key ∈ a.f ∨ key ∈ a.wf ∨ key ∈ a.wo
instance (a : AL) (key : Int) : Decidable (knownL a key) := by unfold knownL; infer_instance
/-- `Can room r C n`: with a cache `C` before the keys `r`, `n` hits are possible. -/
def Can (room : Nat) : List Int → List Int → Nat → Prop
  | [], _, n => n = 0
  | k :: r, C, n => ∃ D m, D.Nodup ∧ D.length ≤ room ∧ k ∈ D ∧ (∀ x ∈ D, x = k ∨ x ∈ C) ∧ Can room r D m ∧ n ≤ m + (if k ∈ C then 1 else 0)
theorem Can.zero {room : Nat} (h : 1 ≤ room) : ∀ {r C : List Int}, Can room r C 0
  | [], _ => rfl
  | k :: r, C => ⟨[k], 0, by simp, by simpa using h, by simp, fun x hx => .inl (List.mem_singleton.1 hx), Can.zero h, by omega⟩
/-- What a policy does to the keys of its cache: never more than `cap`, and while fewer than `free` are there, none leaves. -/
def Runs (cap free : Nat) : List Int → List Int → List Int → Nat → Prop
  | [], C, E, n => E = C ∧ n = 0
  | k :: r, C, E, n => ∃ D m, D.Nodup ∧ D.length ≤ cap ∧ k ∈ D ∧ (∀ x ∈ D, x = k ∨ x ∈ C) ∧ ((k ∈ C ∨ C.length < free) → ∀ x ∈ C, x ∈ D) ∧ (k ∉ C → free ≤ C.length → free ≤ D.length) ∧
      Runs cap free r D E m ∧ n = m + (if k ∈ C then 1 else 0)
/-- What a step of a policy keeps. -/
def StepK (cap free : Nat) (C D : List Int) (k : Int) : Prop :=
  D.Nodup ∧ D.length ≤ cap ∧ k ∈ D ∧ (∀ x ∈ D, x = k ∨ x ∈ C) ∧ ((k ∈ C ∨ C.length < free) → ∀ x ∈ C, x ∈ D) ∧ (k ∉ C → free ≤ C.length → free ≤ D.length)
theorem Runs.step {cap free : Nat} {k : Int} {r C D E : List Int} {m : Nat} (h : StepK cap free C D k) (g : Runs cap free r D E m) : Runs cap free (k :: r) C E (m + if k ∈ C then 1 else 0) :=
  ⟨D, m, h.1, h.2.1, h.2.2.1, h.2.2.2.1, h.2.2.2.2.1, h.2.2.2.2.2, g, rfl⟩
theorem yes {P A B : Prop} (v : P) (h : A) : (P → A) ∧ (¬ P → B) := ⟨fun _ => h, fun c => absurd v c⟩
theorem nay {P A B : Prop} (v : ¬ P) (h : B) : (P → A) ∧ (¬ P → B) := ⟨fun c => absurd c v, fun _ => h⟩
theorem br_yd {p : Prop} [Decidable p] {A B : Prop} (h : p) (g : A) : br (decide p) A B := br_dec.2 ⟨fun _ => g, fun c => absurd h c⟩
theorem br_nd {p : Prop} [Decidable p] {A B : Prop} (h : ¬ p) (g : B) : br (decide p) A B := br_dec.2 ⟨fun c => absurd c h, fun _ => g⟩
def VSk (s : List Int) : Prop := s.length = 24 ∧ ∀ x ∈ s, 0 ≤ x ∧ x ≤ 15
def cellM (row key : Int) : Int := row * 8 + Int.tmod (Int.tmod ((37 + 2 * row) * (key + row)) 101) 8
theorem cellM_range {row key : Int} (h0 : 0 ≤ row) (k0 : 0 ≤ key) : row * 8 ≤ cellM row key ∧ cellM row key < row * 8 + 8 := by
  have h1 : 0 ≤ (37 + 2 * row) * (key + row) := Int.mul_nonneg (by omega) (by omega)
  have h2 := Int.tmod_nonneg 101 h1
  have h3 := Int.tmod_nonneg 8 h2
  have h4 := Int.tmod_lt_of_pos (Int.tmod ((37 + 2 * row) * (key + row)) 101) (show (0 : Int) < 8 by omega)
  unfold cellM; omega
theorem cell_prod {row key : Int} (h0 : 0 ≤ row) (h1 : row ≤ 2) (k0 : 0 ≤ key) (k1 : key ≤ 31) : 0 ≤ (37 + 2 * row) * (key + row) ∧ (37 + 2 * row) * (key + row) ≤ 2000 := by
  have : row = 0 ∨ row = 1 ∨ row = 2 := by omega
  rcases this with h | h | h <;> subst h <;> omega
def up15 (x : Int) : Int := if 15 < x + 1 then 15 else x + 1
theorem up15_range {x : Int} (h : 0 ≤ x ∧ x ≤ 15) : 0 ≤ up15 x ∧ up15 x ≤ 15 ∧ x ≤ up15 x := by unfold up15; split <;> omega
def bumpM (s : List Int) (c : Int) : List Int := s.set c.toNat (up15 (s.getD c.toNat 0))
theorem VSk.get {s : List Int} (v : VSk s) (i : Nat) : 0 ≤ s.getD i 0 ∧ s.getD i 0 ≤ 15 := by
  by_cases h : i < s.length
  · exact v.2 _ (mem_getD h)
  · rw [List.getD_eq_getElem?_getD, List.getElem?_eq_none (by omega)]; simp
theorem VSk.bump {s : List Int} (v : VSk s) (c : Int) : VSk (bumpM s c) := by
  refine ⟨by unfold bumpM; rw [List.length_set]; exact v.1, fun x hx => ?_⟩
  rcases List.mem_or_eq_of_mem_set hx with h | h
  · exact v.2 x h
  · rw [h]; have := up15_range (v.get c.toNat); omega
def addM (s : List Int) (key : Int) : List Int := bumpM (bumpM (bumpM s (cellM 0 key)) (cellM 1 key)) (cellM 2 key)
theorem VSk.add {s : List Int} (v : VSk s) (key : Int) : VSk (addM s key) := ((v.bump _).bump _).bump _
def min2 (a b : Int) : Int := if a < b then a else b
def countM (s : List Int) (key : Int) : Int := min2 (s.getD (cellM 2 key).toNat 0) (min2 (s.getD (cellM 1 key).toNat 0) (min2 (s.getD (cellM 0 key).toNat 0) 15))
theorem VSk.count {s : List Int} (v : VSk s) (key : Int) : 0 ≤ countM s key ∧ countM s key ≤ 15 := by
  have h0 := v.get (cellM 0 key).toNat
  have h1 := v.get (cellM 1 key).toNat
  have h2 := v.get (cellM 2 key).toNat
  unfold countM min2
  repeat' split
  all_goals omega
def emptyM : List Int := List.replicate 24 0
theorem emptyM_valid : VSk emptyM := ⟨rfl, fun x hx => by rw [List.eq_of_mem_replicate hx]; omega⟩
theorem bump_get {s : List Int} {c : Int} {j : Nat} (h : c.toNat < s.length) : (bumpM s c).getD j 0 = if j = c.toNat then up15 (s.getD j 0) else s.getD j 0 := by
  unfold bumpM
  rw [List.getD_eq_getElem?_getD, List.getElem?_set]
  by_cases e : c.toNat = j
  · rw [if_pos e, if_pos (by omega), if_pos e.symm, e]; rfl
  · rw [if_neg e, if_neg (Ne.symm e), List.getD_eq_getElem?_getD]
/-- Each counter of the key has the number, and all others are 0. -/
def Cnt (a n : Int) (s : List Int) : Prop := VSk s ∧ s.getD (cellM 0 a).toNat 0 = n ∧ s.getD (cellM 1 a).toNat 0 = n ∧ s.getD (cellM 2 a).toNat 0 = n ∧ ∀ j : Nat, j ≠ (cellM 0 a).toNat → j ≠ (cellM 1 a).toNat → j ≠ (cellM 2 a).toNat → s.getD j 0 = 0
theorem empty_get (j : Nat) : emptyM.getD j 0 = 0 := by
  have := emptyM_valid.get j
  unfold emptyM
  rw [List.getD_eq_getElem?_getD, List.getElem?_replicate]
  split <;> rfl
theorem cnt0 (a : Int) : Cnt a 0 emptyM := ⟨emptyM_valid, empty_get _, empty_get _, empty_get _, fun j _ _ _ => empty_get j⟩
theorem Cnt.add {a n : Int} {s : List Int} (v : Cnt a n s) (ha : 0 ≤ a) : Cnt a (up15 n) (addM s a) := by
  obtain ⟨vs, e0, e1, e2, eo⟩ := v
  have r0 := cellM_range (row := 0) (by omega) ha
  have r1 := cellM_range (row := 1) (by omega) ha
  have r2 := cellM_range (row := 2) (by omega) ha
  have l := vs.1
  have l1 := (vs.bump (cellM 0 a)).1
  have l2 := ((vs.bump (cellM 0 a)).bump (cellM 1 a)).1
  have g : ∀ j, (addM s a).getD j 0 = if j = (cellM 2 a).toNat then up15 (if j = (cellM 1 a).toNat then up15 (if j = (cellM 0 a).toNat then up15 (s.getD j 0) else s.getD j 0) else (if j = (cellM 0 a).toNat then up15 (s.getD j 0) else s.getD j 0)) else (if j = (cellM 1 a).toNat then up15 (if j = (cellM 0 a).toNat then up15 (s.getD j 0) else s.getD j 0) else (if j = (cellM 0 a).toNat then up15 (s.getD j 0) else s.getD j 0)) := fun j => by
    unfold addM
    rw [bump_get (by omega), bump_get (by omega), bump_get (by omega)]
  refine ⟨vs.add a, ?_, ?_, ?_, fun j h0 h1 h2 => ?_⟩
  · rw [g, if_neg (by omega), if_neg (by omega), if_pos rfl, e0]
  · rw [g, if_neg (by omega), if_pos rfl, if_neg (by omega), e1]
  · rw [g, if_pos rfl, if_neg (by omega), if_neg (by omega), e2]
  · rw [g, if_neg h2, if_neg h1, if_neg h0, eo j h0 h1 h2]
theorem Cnt.self {a : Int} {s : List Int} (v : Cnt a 15 s) : countM s a = 15 := by
  obtain ⟨vs, e0, e1, e2, eo⟩ := v
  unfold countM
  rw [e0, e1, e2]; rfl
theorem Cnt.other {a b : Int} {s : List Int} (v : Cnt a 15 s) (ha : 0 ≤ a) (hb : 0 ≤ b) : countM s b < 15 ↔ (cellM 0 a ≠ cellM 0 b ∨ cellM 1 a ≠ cellM 1 b ∨ cellM 2 a ≠ cellM 2 b) := by
  obtain ⟨vs, e0, e1, e2, eo⟩ := v
  have a0 := cellM_range (row := 0) (by omega) ha
  have a1 := cellM_range (row := 1) (by omega) ha
  have a2 := cellM_range (row := 2) (by omega) ha
  have b0 := cellM_range (row := 0) (by omega) hb
  have b1 := cellM_range (row := 1) (by omega) hb
  have b2 := cellM_range (row := 2) (by omega) hb
  have g0 : s.getD (cellM 0 b).toNat 0 = if cellM 0 a = cellM 0 b then 15 else 0 := by
    split
    · rename_i h; rw [← h]; exact e0
    · exact eo _ (by omega) (by omega) (by omega)
  have g1 : s.getD (cellM 1 b).toNat 0 = if cellM 1 a = cellM 1 b then 15 else 0 := by
    split
    · rename_i h; rw [← h]; exact e1
    · exact eo _ (by omega) (by omega) (by omega)
  have g2 : s.getD (cellM 2 b).toNat 0 = if cellM 2 a = cellM 2 b then 15 else 0 := by
    split
    · rename_i h; rw [← h]; exact e2
    · exact eo _ (by omega) (by omega) (by omega)
  unfold countM
  rw [g0, g1, g2]
  by_cases h0 : cellM 0 a = cellM 0 b
  · by_cases h1 : cellM 1 a = cellM 1 b
    · by_cases h2 : cellM 2 a = cellM 2 b
      · rw [if_pos h0, if_pos h1, if_pos h2]; simp [min2, h0, h1, h2]
      · rw [if_pos h0, if_pos h1, if_neg h2]; simp [min2, h2]
    · by_cases h2 : cellM 2 a = cellM 2 b
      · rw [if_pos h0, if_neg h1, if_pos h2]; simp [min2, h1]
      · rw [if_pos h0, if_neg h1, if_neg h2]; simp [min2, h1]
  · by_cases h1 : cellM 1 a = cellM 1 b
    · by_cases h2 : cellM 2 a = cellM 2 b
      · rw [if_neg h0, if_pos h1, if_pos h2]; simp [min2, h0]
      · rw [if_neg h0, if_pos h1, if_neg h2]; simp [min2, h0]
    · by_cases h2 : cellM 2 a = cellM 2 b
      · rw [if_neg h0, if_neg h1, if_pos h2]; simp [min2, h0]
      · rw [if_neg h0, if_neg h1, if_neg h2]; simp [min2, h0]

def PTm (l : List (Int × Int)) : Prop := (∀ e ∈ l, (0 ≤ e.1 ∧ e.1 ≤ 31) ∧ 0 ≤ e.2 ∧ e.2 ≤ 1000) ∧ l.Pairwise fun a b => a.1 < b.1
def VTm (l : List (Int × Int)) : Prop := l.length ≤ 12 ∧ PTm l
theorem PTm.filter {l : List (Int × Int)} (v : PTm l) (p : Int × Int → Bool) : PTm (l.filter p) := ⟨fun e he => v.1 e (List.mem_filter.1 he).1, v.2.filter p⟩
def dropM (l : List (Int × Int)) (now : Int) : List (Int × Int) := l.filter fun e => decide (now ≤ e.2)
theorem dropM_len (l : List (Int × Int)) (now : Int) : (dropM l now).length ≤ l.length := List.length_filter_le _ _
theorem VTm.drop {l : List (Int × Int)} (v : VTm l) (now : Int) : VTm (dropM l now) := ⟨Nat.le_trans (dropM_len l now) v.1, v.2.filter _⟩
-- spec.newReader
def G_spec_newReader (code0 : List Int) (k : List Int → Int → Prop) : Prop :=
  br (decide ((code0.length : Int) > 2000))
  ((0 ≤ (2000 : Int) ∧ 2000 ≤ (code0.length : Int)) ∧
    k (List.take 2000 code0) 0)
  (k code0 0)
def S_spec_newReader (code0 : List Int) (k : List Int → Int → Prop) : Prop := G_spec_newReader code0 k
def F_spec_newReader (code : List Int) (k : List Int → Int → Prop) : Prop := (∀ x ∈ code, 0 ≤ x ∧ x ≤ 255) ∧ ∀ b, Bs b → k b 0
theorem F_spec_newReader_S {code : List Int} {k : List Int → Int → Prop} (h : F_spec_newReader code k) : S_spec_newReader code k := by
  obtain ⟨hb, hk⟩ := h
  simp only [S_spec_newReader, G_spec_newReader, br_dec]
  refine ⟨fun h1 => ⟨⟨by omega, by omega⟩, hk _ ⟨by simp; omega, fun x hx => hb x (List.mem_of_mem_take hx)⟩⟩, fun h1 => hk _ ⟨by omega, hb⟩⟩
-- spec.EmptySketch
def G_spec_EmptySketch (k : List Int → Prop) : Prop :=
  ((24 : Int) = 24 ∧ 0 ≤ (24 : Int) ∧ (24 : Int) ≤ 1000000000) ∧
  k (List.replicate 24 (0 : Int))
def S_spec_EmptySketch (k : List Int → Prop) : Prop := G_spec_EmptySketch k
def F_spec_EmptySketch (k : List Int → Prop) : Prop := k emptyM
theorem F_spec_EmptySketch_S {k : List Int → Prop} (h : F_spec_EmptySketch k) : S_spec_EmptySketch k := ⟨⟨rfl, by omega, by omega⟩, h⟩
-- (*spec.reader).pick
def G_spec_reader_pick (r0b : List Int) (r0p : Int) (n1 : Int) (k : Int → List Int → Int → Prop) : Prop :=
  InR (r0p + 1) ∧
  br (decide (n1 < 1))
  (k 0 r0b (r0p + 1))
  (br ((r0b.length : Int) == 0)
    (k 0 r0b (r0p + 1))
    (InR ((r0p + 1) - 1) ∧
      br (decide (((r0p + 1) - 1) < (r0b.length : Int)))
      ((0 ≤ ((r0p + 1) - 1) ∧ ((r0p + 1) - 1) < (r0b.length : Int)) ∧
        InR (List.getD r0b (Int.toNat ((r0p + 1) - 1)) (0 : Int)) ∧
        (n1 ≠ 0) ∧
        k (Int.tmod (List.getD r0b (Int.toNat ((r0p + 1) - 1)) (0 : Int)) n1) r0b (r0p + 1))
      (((r0b.length : Int) ≠ 0) ∧
        (0 ≤ (Int.tmod ((r0p + 1) - 1) (r0b.length : Int)) ∧ (Int.tmod ((r0p + 1) - 1) (r0b.length : Int)) < (r0b.length : Int)) ∧
        InR (List.getD r0b (Int.toNat (Int.tmod ((r0p + 1) - 1) (r0b.length : Int))) (0 : Int)) ∧
        InR ((List.getD r0b (Int.toNat (Int.tmod ((r0p + 1) - 1) (r0b.length : Int))) (0 : Int)) * 131) ∧
        InR (((r0p + 1) - 1) * 7) ∧
        InR ((((r0p + 1) - 1) * 7) + 3) ∧
        ((r0b.length : Int) ≠ 0) ∧
        (0 ≤ (Int.tmod ((((r0p + 1) - 1) * 7) + 3) (r0b.length : Int)) ∧ (Int.tmod ((((r0p + 1) - 1) * 7) + 3) (r0b.length : Int)) < (r0b.length : Int)) ∧
        InR (List.getD r0b (Int.toNat (Int.tmod ((((r0p + 1) - 1) * 7) + 3) (r0b.length : Int))) (0 : Int)) ∧
        InR ((List.getD r0b (Int.toNat (Int.tmod ((((r0p + 1) - 1) * 7) + 3) (r0b.length : Int))) (0 : Int)) * 1117) ∧
        InR (((List.getD r0b (Int.toNat (Int.tmod ((r0p + 1) - 1) (r0b.length : Int))) (0 : Int)) * 131) + ((List.getD r0b (Int.toNat (Int.tmod ((((r0p + 1) - 1) * 7) + 3) (r0b.length : Int))) (0 : Int)) * 1117)) ∧
        InR (((r0p + 1) - 1) * 29) ∧
        InR ((((List.getD r0b (Int.toNat (Int.tmod ((r0p + 1) - 1) (r0b.length : Int))) (0 : Int)) * 131) + ((List.getD r0b (Int.toNat (Int.tmod ((((r0p + 1) - 1) * 7) + 3) (r0b.length : Int))) (0 : Int)) * 1117)) + (((r0p + 1) - 1) * 29)) ∧
        ((r0b.length : Int) ≠ 0 ∧ InR (Int.tdiv ((r0p + 1) - 1) (r0b.length : Int))) ∧
        InR ((Int.tdiv ((r0p + 1) - 1) (r0b.length : Int)) * 53) ∧
        InR (((((List.getD r0b (Int.toNat (Int.tmod ((r0p + 1) - 1) (r0b.length : Int))) (0 : Int)) * 131) + ((List.getD r0b (Int.toNat (Int.tmod ((((r0p + 1) - 1) * 7) + 3) (r0b.length : Int))) (0 : Int)) * 1117)) + (((r0p + 1) - 1) * 29)) + ((Int.tdiv ((r0p + 1) - 1) (r0b.length : Int)) * 53)) ∧
        ((64 : Int) ≠ 0 ∧ InR (Int.tdiv (((((List.getD r0b (Int.toNat (Int.tmod ((r0p + 1) - 1) (r0b.length : Int))) (0 : Int)) * 131) + ((List.getD r0b (Int.toNat (Int.tmod ((((r0p + 1) - 1) * 7) + 3) (r0b.length : Int))) (0 : Int)) * 1117)) + (((r0p + 1) - 1) * 29)) + ((Int.tdiv ((r0p + 1) - 1) (r0b.length : Int)) * 53)) 64)) ∧
        (n1 ≠ 0) ∧
        k (Int.tmod (IntKind.i64.wrap ((BitVec.ofInt 64 (((((List.getD r0b (Int.toNat (Int.tmod ((r0p + 1) - 1) (r0b.length : Int))) (0 : Int)) * 131) + ((List.getD r0b (Int.toNat (Int.tmod ((((r0p + 1) - 1) * 7) + 3) (r0b.length : Int))) (0 : Int)) * 1117)) + (((r0p + 1) - 1) * 29)) + ((Int.tdiv ((r0p + 1) - 1) (r0b.length : Int)) * 53)) ^^^ BitVec.ofInt 64 (Int.tdiv (((((List.getD r0b (Int.toNat (Int.tmod ((r0p + 1) - 1) (r0b.length : Int))) (0 : Int)) * 131) + ((List.getD r0b (Int.toNat (Int.tmod ((((r0p + 1) - 1) * 7) + 3) (r0b.length : Int))) (0 : Int)) * 1117)) + (((r0p + 1) - 1) * 29)) + ((Int.tdiv ((r0p + 1) - 1) (r0b.length : Int)) * 53)) 64)).toNat : Int)) n1) r0b (r0p + 1))))
def S_spec_reader_pick (r0b : List Int) (r0p : Int) (n1 : Int) (k : Int → List Int → Int → Prop) : Prop := G_spec_reader_pick r0b r0p n1 k
def F_spec_reader_pick (b : List Int) (p n : Int) (k : Int → List Int → Int → Prop) : Prop := (Bs b ∧ 0 ≤ p ∧ p ≤ 1000000000) ∧ ∀ x, Pk n x → k x b (p + 1)
theorem F_spec_reader_pick_S {b : List Int} {p n : Int} {k : Int → List Int → Int → Prop} (h : F_spec_reader_pick b p n k) : S_spec_reader_pick b p n k := by
  obtain ⟨⟨hb, h0, h1⟩, hk⟩ := h
  simp only [S_spec_reader_pick, G_spec_reader_pick, br_dec, br_beq]
  refine ⟨inR (by omega) (by omega), fun h2 => hk 0 (.inl ⟨h2, rfl⟩), fun h2 => ⟨fun h3 => hk 0 (.inr ⟨by omega, by omega⟩), fun h3 => ⟨inR (by omega) (by omega), ?_⟩⟩⟩
  have hlen := hb.1
  rw [show p + 1 - 1 = p by omega]
  refine ⟨fun h4 => ⟨⟨by omega, by omega⟩, ?_⟩, fun h4 => ?_⟩
  · have := hb.get (Int.toNat p)
    exact ⟨inR (by omega) (by omega), by omega, hk _ (.inr ⟨Int.tmod_nonneg _ this.1, Int.tmod_lt_of_pos _ (by omega)⟩)⟩
  · have hl : (0 : Int) < b.length := by omega
    have a1 := Int.tmod_nonneg (b.length : Int) h0
    have a2 := Int.tmod_lt_of_pos p hl
    have a3 := Int.tmod_nonneg (b.length : Int) (show (0 : Int) ≤ p * 7 + 3 by omega)
    have a4 := Int.tmod_lt_of_pos (p * 7 + 3) hl
    have a5 := hb.get (Int.toNat (Int.tmod p b.length))
    have a6 := hb.get (Int.toNat (Int.tmod (p * 7 + 3) b.length))
    have a7 : 0 ≤ Int.tdiv p b.length := Int.tdiv_nonneg h0 (by omega)
    have a8 : Int.tdiv p b.length ≤ p := Int.tdiv_le_self _ h0
    generalize List.getD b (Int.toNat (Int.tmod p b.length)) 0 = x at *
    generalize List.getD b (Int.toNat (Int.tmod (p * 7 + 3) b.length)) 0 = y at *
    generalize Int.tdiv p b.length = z at *
    have hsum : 0 ≤ x * 131 + y * 1117 + p * 29 + z * 53 ∧ x * 131 + y * 1117 + p * 29 + z * 53 ≤ 90000000000 := by omega
    have a9 : 0 ≤ Int.tdiv (x * 131 + y * 1117 + p * 29 + z * 53) 64 := Int.tdiv_nonneg hsum.1 (by omega)
    have a10 : Int.tdiv (x * 131 + y * 1117 + p * 29 + z * 53) 64 ≤ x * 131 + y * 1117 + p * 29 + z * 53 := Int.tdiv_le_self _ hsum.1
    refine ⟨by omega, ⟨by omega, by omega⟩, inR (by omega) (by omega), inR (by omega) (by omega), inR (by omega) (by omega), inR (by omega) (by omega), by omega, ⟨by omega, by omega⟩, inR (by omega) (by omega), inR (by omega) (by omega), inR (by omega) (by omega), inR (by omega) (by omega), inR (by omega) (by omega),
      ⟨by omega, inR (by omega) (by omega)⟩, inR (by omega) (by omega), inR (by omega) (by omega), ⟨by omega, inR (by omega) (by omega)⟩, by omega, hk _ (.inr ⟨?_, Int.tmod_lt_of_pos _ (by omega)⟩)⟩
    exact Int.tmod_nonneg _ (xor_nn _ _ hsum.1 (by omega) a9 (by omega))
-- (*spec.reader).one
def G_spec_reader_one (r0b : List Int) (r0p : Int) (list1 : List Int) (k : Int → List Int → Int → Prop) : Prop :=
  F_spec_reader_pick r0b r0p (list1.length : Int) fun pick9 opick9b opick9p =>
  (0 ≤ pick9 ∧ pick9 < (list1.length : Int)) ∧
  k (List.getD list1 (Int.toNat pick9) (0 : Int)) opick9b opick9p
def S_spec_reader_one (r0b : List Int) (r0p : Int) (list1 : List Int) (k : Int → List Int → Int → Prop) : Prop := G_spec_reader_one r0b r0p list1 k
def F_spec_reader_one (b : List Int) (p : Int) (l : List Int) (k : Int → List Int → Int → Prop) : Prop := (Bs b ∧ 0 ≤ p ∧ p ≤ 1000000000 ∧ 0 < l.length) ∧ ∀ x ∈ l, k x b (p + 1)
theorem F_spec_reader_one_S {b : List Int} {p : Int} {l : List Int} {k : Int → List Int → Int → Prop} (h : F_spec_reader_one b p l k) : S_spec_reader_one b p l k := by
  obtain ⟨⟨hb, h0, h1, h2⟩, hk⟩ := h
  refine ⟨⟨hb, h0, h1⟩, fun x hx => ?_⟩
  rcases hx with ⟨h3, _⟩ | ⟨h3, h4⟩
  · omega
  · have hlt : x.toNat < l.length := by omega
    have hx : l[x.toNat]? = some (l.getD x.toNat 0) := by simp [List.getD, hlt]
    exact ⟨⟨h3, h4⟩, hk _ (List.mem_of_getElem? hx)⟩
-- spec.copyInts
def G_spec_copyInts (list0 : List Int) (k : List Int → Prop) : Prop :=
  (0 + list0.length ≤ 1000000000) ∧
  k list0
def S_spec_copyInts (list0 : List Int) (k : List Int → Prop) : Prop := G_spec_copyInts list0 k
def F_spec_copyInts (l : List Int) (k : List Int → Prop) : Prop := l.length ≤ 1000000000 ∧ k l
theorem F_spec_copyInts_S {l : List Int} {k : List Int → Prop} (h : F_spec_copyInts l k) : S_spec_copyInts l k := ⟨by have := h.1; omega, h.2⟩
-- spec.cell
def G_spec_cell (row0 : Int) (key1 : Int) (k : Int → Prop) : Prop :=
  InR (row0 * 8) ∧
  InR (2 * row0) ∧
  InR (37 + (2 * row0)) ∧
  InR (key1 + row0) ∧
  InR ((37 + (2 * row0)) * (key1 + row0)) ∧
  ((101 : Int) ≠ 0) ∧
  ((8 : Int) ≠ 0) ∧
  InR ((row0 * 8) + (Int.tmod (Int.tmod ((37 + (2 * row0)) * (key1 + row0)) 101) 8)) ∧
  k ((row0 * 8) + (Int.tmod (Int.tmod ((37 + (2 * row0)) * (key1 + row0)) 101) 8))
def S_spec_cell (row0 : Int) (key1 : Int) (k : Int → Prop) : Prop := G_spec_cell row0 key1 k
def F_spec_cell (row key : Int) (k : Int → Prop) : Prop := (0 ≤ row ∧ row ≤ 2 ∧ 0 ≤ key ∧ key ≤ 31) ∧ k (cellM row key)
theorem F_spec_cell_S {row key : Int} {k : Int → Prop} (h : F_spec_cell row key k) : S_spec_cell row key k := by
  obtain ⟨⟨h0, h1, k0, k1⟩, hk⟩ := h
  have hp := cell_prod h0 h1 k0 k1
  have hr := cellM_range h0 k0
  unfold cellM at hr
  exact ⟨inR (by omega) (by omega), inR (by omega) (by omega), inR (by omega) (by omega), inR (by omega) (by omega), inR (by omega) (by omega), by omega, by omega, inR (by omega) (by omega), hk⟩
-- spec.addKey
def T0_spec_addKey (key1 : Int) (xr6 : Int) (xy9 : List Int) (k : List Int → Prop) (B0 : Int → List Int → Prop) : Prop :=
  br (decide (xr6 < 3))
  (F_spec_cell xr6 key1 fun cell16 =>
    (0 ≤ cell16 ∧ cell16 < (xy9.length : Int)) ∧
    InR ((List.getD xy9 (Int.toNat cell16) (0 : Int)) + 1) ∧
    (0 ≤ cell16 ∧ cell16 < (xy9.length : Int)) ∧
    InR (xr6 + 1) ∧
    B0 (xr6 + 1) (List.set xy9 (Int.toNat cell16) (if 15 < ((List.getD xy9 (Int.toNat cell16) (0 : Int)) + 1) then (15 : Int) else ((List.getD xy9 (Int.toNat cell16) (0 : Int)) + 1))))
  (k xy9)
def L0_spec_addKey (key1 : Int) (k : List Int → Prop) : Nat → Int → List Int → Prop
  | 0, _, _ => False
  | n + 1, xr6, xy9 => T0_spec_addKey key1 xr6 xy9 k (L0_spec_addKey key1 k n)
def G_spec_addKey (s0 : List Int) (key1 : Int) (I0 : Int → Int → List Int → Prop) : Prop :=
  F_spec_copyInts s0 fun copyInts9 =>
  I0 key1 0 copyInts9
def S_spec_addKey (s0 : List Int) (key1 : Int) (k : List Int → Prop) : Prop := G_spec_addKey s0 key1 (fun key1 xr6 xy9 => ∃ j, L0_spec_addKey key1 k j xr6 xy9)
def F_spec_addKey (s : List Int) (key : Int) (k : List Int → Prop) : Prop := (VSk s ∧ 0 ≤ key ∧ key ≤ 31) ∧ k (addM s key)
theorem F_spec_addKey_S {s : List Int} {key : Int} {k : List Int → Prop} (h : F_spec_addKey s key k) : S_spec_addKey s key k := by
  obtain ⟨⟨v, hkey⟩, hk⟩ := h
  have step : ∀ (row : Int) (q : List Int) (n : Nat), 0 ≤ row → row ≤ 2 → VSk q → L0_spec_addKey key k n (row + 1) (bumpM q (cellM row key)) → L0_spec_addKey key k (n + 1) row q := by
    intro row q n r0 r1 w next
    have hr := cellM_range (key := key) r0 hkey.1
    have hl := w.1
    have hg := w.get (cellM row key).toNat
    rw [L0_spec_addKey, T0_spec_addKey]
    exact br_yd (by omega) ⟨⟨r0, r1, hkey⟩, ⟨by omega, by omega⟩, inR (by omega) (by omega), ⟨by omega, by omega⟩, inR (by omega) (by omega), next⟩
  refine ⟨by have := v.1; omega, 4, step 0 s 3 (by omega) (by omega) v (step 1 _ 2 (by omega) (by omega) (v.bump _) (step 2 _ 1 (by omega) (by omega) ((v.bump _).bump _) ?_))⟩
  rw [L0_spec_addKey, T0_spec_addKey]
  exact br_nd (by omega) hk
-- (*spec.reader).spoil
def G_spec_reader_spoil (r0b : List Int) (r0p : Int) (list1 : List Int) (n2 : Int) (k : List Int → List Int → Int → Prop) : Prop :=
  F_spec_copyInts list1 fun copyInts9 =>
  F_spec_reader_pick r0b r0p (20 : Int) fun pick11 opick11b opick11p =>
  br (pick11 == 0)
  ((copyInts9.length + 1 ≤ 1000000000) ∧
    k (copyInts9 ++ ([n2] : List Int)) opick11b opick11p)
  (br (pick11 == 1)
    (br (decide ((copyInts9.length : Int) > 0))
      ((0 ≤ (1 : Int) ∧ 1 ≤ (copyInts9.length : Int)) ∧
        k (List.take (copyInts9.length - 1) (List.drop 1 copyInts9)) opick11b opick11p)
      (k copyInts9 opick11b opick11p))
    (br (pick11 == 2)
      (br (decide ((copyInts9.length : Int) > 0))
        (F_spec_reader_pick opick11b opick11p (copyInts9.length : Int) fun pick34 opick34b opick34p =>
          F_spec_reader_one opick34b opick34p ([(-1), n2, 0, 1] : List Int) fun one38 oone38b oone38p =>
          (0 ≤ pick34 ∧ pick34 < (copyInts9.length : Int)) ∧
          k (List.set copyInts9 (Int.toNat pick34) one38) oone38b oone38p)
        (k copyInts9 opick11b opick11p))
      (k copyInts9 opick11b opick11p)))
def S_spec_reader_spoil (r0b : List Int) (r0p : Int) (list1 : List Int) (n2 : Int) (k : List Int → List Int → Int → Prop) : Prop := G_spec_reader_spoil r0b r0p list1 n2 k
def F_spec_reader_spoil (b : List Int) (p : Int) (l : List Int) (n : Int) (k : List Int → List Int → Int → Prop) : Prop :=
  (Bs b ∧ 0 ≤ p ∧ p ≤ 100000000 ∧ l.length ≤ 100000000) ∧ ∀ r p', r.length ≤ l.length + 1 → p ≤ p' → p' ≤ p + 10 → k r b p'
theorem F_spec_reader_spoil_S {b : List Int} {p : Int} {l : List Int} {n : Int} {k : List Int → List Int → Int → Prop} (h : F_spec_reader_spoil b p l n k) : S_spec_reader_spoil b p l n k := by
  obtain ⟨⟨hb, h0, h1, h2⟩, hk⟩ := h
  refine ⟨by omega, ⟨hb, h0, by omega⟩, fun x hx => br_beq.2 ⟨fun _ => ⟨by omega, hk _ _ (by simp) (by omega) (by omega)⟩, fun _ => br_beq.2 ⟨fun _ => br_dec.2 ⟨fun h3 => ⟨⟨by omega, by omega⟩, hk _ _ (by simp; omega) (by omega) (by omega)⟩, fun _ => hk _ _ (by omega) (by omega) (by omega)⟩, fun _ => br_beq.2 ⟨fun _ => br_dec.2 ⟨fun h3 => ?_, fun _ => hk _ _ (by omega) (by omega) (by omega)⟩, fun _ => hk _ _ (by omega) (by omega) (by omega)⟩⟩⟩⟩
  refine ⟨⟨hb, by omega, by omega⟩, fun y hy => ⟨⟨hb, by omega, by omega, by simp⟩, fun z hz => ⟨?_, hk _ _ (by simp) (by omega) (by omega)⟩⟩⟩
  rcases hy with ⟨h4, _⟩ | h4
  · omega
  · exact h4
-- spec.someSketch
def T0_spec_someSketch (xn4 : Int) (xb100000c0 : List Int) (xb100000c1 : Int) (xs3 : List Int) (k : List Int → List Int → Int → Prop) (B0 : Int → List Int → Int → List Int → Prop) : Prop :=
  br (decide (xn4 > 0))
  (F_spec_reader_pick xb100000c0 xb100000c1 (32 : Int) fun pick16 opick16b opick16p =>
    F_spec_reader_pick opick16b opick16p (8 : Int) fun pick18 opick18b opick18p =>
    F_spec_reader_one opick18b opick18p ([0, 1, 2, 3, pick16, pick18, 7] : List Int) fun one20 oone20b oone20p =>
    F_spec_addKey xs3 one20 fun addKey21 =>
    InR (xn4 - 1) ∧
    B0 (xn4 - 1) oone20b oone20p addKey21)
  (F_spec_reader_spoil xb100000c0 xb100000c1 xs3 (16 : Int) fun spoil24 ospoil24b ospoil24p =>
    k spoil24 ospoil24b ospoil24p)
def L0_spec_someSketch (k : List Int → List Int → Int → Prop) : Nat → Int → List Int → Int → List Int → Prop
  | 0, _, _, _, _ => False
  | n + 1, xn4, xb100000c0, xb100000c1, xs3 => T0_spec_someSketch xn4 xb100000c0 xb100000c1 xs3 k (L0_spec_someSketch k n)
def G_spec_someSketch (r0b : List Int) (r0p : Int) (I0 : Int → List Int → Int → List Int → Prop) : Prop :=
  F_spec_EmptySketch fun emptySketch5 =>
  F_spec_reader_one r0b r0p ([5, 12, 30, 2, 0, 60] : List Int) fun one8 oone8b oone8p =>
  I0 one8 oone8b oone8p emptySketch5
def S_spec_someSketch (r0b : List Int) (r0p : Int) (k : List Int → List Int → Int → Prop) : Prop := G_spec_someSketch r0b r0p (fun xn4 xb100000c0 xb100000c1 xs3 => ∃ j, L0_spec_someSketch k j xn4 xb100000c0 xb100000c1 xs3)
def F_spec_someSketch (b : List Int) (p : Int) (k : List Int → List Int → Int → Prop) : Prop :=
  (Bs b ∧ 0 ≤ p ∧ p ≤ 10000000) ∧ ∀ s p', s.length ≤ 100 → p ≤ p' → p' ≤ p + 400 → k s b p'
theorem F_spec_someSketch_S {b : List Int} {p : Int} {k : List Int → List Int → Int → Prop} (h : F_spec_someSketch b p k) : S_spec_someSketch b p k := by
  obtain ⟨⟨hb, h0, h1⟩, hk⟩ := h
  have key : ∀ (d : Nat) (q : Int) (s : List Int), VSk s → p ≤ q → q + 3 * d ≤ p + 300 → L0_spec_someSketch k (d + 1) (d : Int) b q s := by
    intro d
    induction d with
    | zero =>
      intro q s v g1 g2
      have := v.1
      rw [L0_spec_someSketch, T0_spec_someSketch]
      exact br_nd (by omega) ⟨⟨hb, by omega, by omega, by omega⟩, fun r p' r1 r2 r3 => hk _ _ (by omega) (by omega) (by omega)⟩
    | succ d ih =>
      intro q s v g1 g2
      rw [L0_spec_someSketch, T0_spec_someSketch]
      refine br_yd (by omega) ⟨⟨hb, by omega, by omega⟩, fun x hx => ⟨⟨hb, by omega, by omega⟩, fun y hy => ⟨⟨hb, by omega, by omega, by simp⟩, fun z hz => ⟨⟨v, ?_⟩, inR (by omega) (by omega), ?_⟩⟩⟩⟩
      · unfold Pk at hx hy
        simp only [List.mem_cons, List.not_mem_nil, or_false] at hz
        omega
      · rw [show ((d + 1 : Nat) : Int) - 1 = (d : Int) by omega]
        exact ih _ _ (v.add _) (by omega) (by omega)
  refine ⟨⟨hb, by omega, by omega, by simp⟩, fun n hn => ?_⟩
  simp only [List.mem_cons, List.not_mem_nil, or_false] at hn
  refine ⟨n.toNat + 1, ?_⟩
  have := key n.toNat (p + 1) emptyM emptyM_valid (by omega) (by omega)
  rwa [Int.toNat_of_nonneg (by omega)] at this
-- spec.someKey
def G_spec_someKey (r0b : List Int) (r0p : Int) (k : Int → List Int → Int → Prop) : Prop :=
  F_spec_reader_pick r0b r0p (8 : Int) fun pick5 opick5b opick5p =>
  F_spec_reader_pick opick5b opick5p (8 : Int) fun pick7 opick7b opick7p =>
  F_spec_reader_pick opick7b opick7p (32 : Int) fun pick9 opick9b opick9p =>
  F_spec_reader_one opick9b opick9p ([0, 1, 2, 3, 5, 31, 32, (-1), pick5, pick7, pick9, 4] : List Int) fun one11 oone11b oone11p =>
  k one11 oone11b oone11p
def S_spec_someKey (r0b : List Int) (r0p : Int) (k : Int → List Int → Int → Prop) : Prop := G_spec_someKey r0b r0p k
def F_spec_someKey (b : List Int) (p : Int) (k : Int → List Int → Int → Prop) : Prop := (Bs b ∧ 0 ≤ p ∧ p ≤ 100000000) ∧ ∀ x p', -1 ≤ x → x ≤ 32 → p ≤ p' → p' ≤ p + 10 → k x b p'
theorem F_spec_someKey_S {b : List Int} {p : Int} {k : Int → List Int → Int → Prop} (h : F_spec_someKey b p k) : S_spec_someKey b p k := by
  obtain ⟨⟨hb, h0, h1⟩, hk⟩ := h
  refine ⟨⟨hb, by omega, by omega⟩, fun x hx => ⟨⟨hb, by omega, by omega⟩, fun y hy => ⟨⟨hb, by omega, by omega⟩, fun z hz => ⟨⟨hb, by omega, by omega, by simp⟩, fun u hu => ?_⟩⟩⟩⟩
  unfold Pk at hx hy hz
  simp only [List.mem_cons, List.not_mem_nil, or_false] at hu
  exact hk _ _ (by omega) (by omega) (by omega) (by omega)
-- spec.DrawPrefers
def G_spec_DrawPrefers (code0 : List Int) (k : List Int → Int → Int → Prop) : Prop :=
  F_spec_newReader code0 fun newReader9b newReader9p =>
  F_spec_someSketch newReader9b newReader9p fun someSketch11 osomeSketch11b osomeSketch11p =>
  F_spec_someKey osomeSketch11b osomeSketch11p fun someKey13 osomeKey13b osomeKey13p =>
  F_spec_someKey osomeKey13b osomeKey13p fun someKey17 osomeKey17b osomeKey17p =>
  k someSketch11 someKey13 someKey17
def S_spec_DrawPrefers (code0 : List Int) (k : List Int → Int → Int → Prop) : Prop := G_spec_DrawPrefers code0 k
def F_spec_DrawPrefers (code : List Int) (k : List Int → Int → Int → Prop) : Prop :=
  (∀ x ∈ code, 0 ≤ x ∧ x ≤ 255) ∧ ∀ s a b, s.length ≤ 100 → k s a b
theorem F_spec_DrawPrefers_S {code : List Int} {k : List Int → Int → Int → Prop} (h : F_spec_DrawPrefers code k) : S_spec_DrawPrefers code k :=
  ⟨h.1, fun b hb => ⟨⟨hb, by omega, by omega⟩, fun s p' l1 _ _ => ⟨⟨hb, by omega, by omega⟩, fun x _ _ _ _ _ => ⟨⟨hb, by omega, by omega⟩, fun y _ _ _ _ _ => h.2 _ _ _ l1⟩⟩⟩⟩
-- impl.ValidSketch
def T0_impl_ValidSketch (s0 : List Int) (xt9 : Int) (xt10 : Int) (k : Bool → Prop) (B0 : Int → Prop) : Prop :=
  br (decide (xt10 < xt9))
  ((0 ≤ xt10 ∧ xt10 < (s0.length : Int)) ∧
    br (decide ((List.getD s0 (Int.toNat xt10) (0 : Int)) < 0))
    (k false)
    (br (decide ((List.getD s0 (Int.toNat xt10) (0 : Int)) > 15))
      (k false)
      (InR (xt10 + 1) ∧
        B0 (xt10 + 1))))
  (k true)
def L0_impl_ValidSketch (s0 : List Int) (xt9 : Int) (k : Bool → Prop) : Nat → Int → Prop
  | 0, _ => False
  | n + 1, xt10 => T0_impl_ValidSketch s0 xt9 xt10 k (L0_impl_ValidSketch s0 xt9 k n)
def G_impl_ValidSketch (s0 : List Int) (k : Bool → Prop) (I0 : List Int → Int → Int → Prop) : Prop :=
  br ((s0.length : Int) != 24)
  (k false)
  (I0 s0 (s0.length : Int) 0)
def S_impl_ValidSketch (s0 : List Int) (k : Bool → Prop) : Prop := G_impl_ValidSketch s0 k (fun s0 xt9 xt10 => ∃ j, L0_impl_ValidSketch s0 xt9 k j xt10)
def F_impl_ValidSketch (s : List Int) (k : Bool → Prop) : Prop := ∀ b : Bool, (b = true ↔ VSk s) → k b
theorem F_impl_ValidSketch_S {s : List Int} {k : Bool → Prop} (h : F_impl_ValidSketch s k) : S_impl_ValidSketch s k := by
  have no : ¬ VSk s → k false := fun hv => h false (by simp [hv])
  refine br_bne.2 ⟨fun hl => no fun v => absurd (by have := v.1; omega) hl, fun hl => ?_⟩
  have key : ∀ (r : List Int) (i : Nat), s.drop i = r → (∀ x ∈ s.take i, 0 ≤ x ∧ x ≤ 15) → L0_impl_ValidSketch s (s.length : Int) k (r.length + 1) (i : Int) := by
    intro r
    induction r with
    | nil =>
      intro i hd he
      have := drop_nil' hd
      rw [List.take_of_length_le this] at he
      rw [L0_impl_ValidSketch, T0_impl_ValidSketch]
      exact br_nd (by omega) (h true (by simp only [true_iff]; exact ⟨by omega, he⟩))
    | cons x r ih =>
      intro i hd he
      obtain ⟨h1, h2, h5, h3, h4⟩ := drop_cons' hd
      have hm := List.mem_of_getElem? h5
      rw [List.length_cons, L0_impl_ValidSketch, T0_impl_ValidSketch]
      simp only [Int.toNat_natCast, h2]
      refine br_yd (by omega) ⟨⟨by omega, by omega⟩, br_dec.2 ⟨fun g => no fun v => by have := v.2 x hm; omega, fun g1 => br_dec.2 ⟨fun g => no fun v => by have := v.2 x hm; omega, fun g2 => ⟨inR (by omega) (by omega), ih (i + 1) h3 ?_⟩⟩⟩⟩
      rw [h4]; intro y hy
      rcases List.mem_append.1 hy with hy | hy
      · exact he y hy
      · rw [List.mem_singleton.1 hy]; omega
  exact ⟨_, key s 0 rfl (by simp)⟩
-- impl.validKey
def G_impl_validKey (key0 : Int) (k : Bool → Prop) : Prop :=
  br (decide (0 ≤ key0))
  (k (decide (key0 ≤ 31)))
  (k false)
def S_impl_validKey (key0 : Int) (k : Bool → Prop) : Prop := G_impl_validKey key0 k
def F_impl_validKey (n : Int) (k : Bool → Prop) : Prop := k (decide (0 ≤ n ∧ n ≤ 31))
theorem F_impl_validKey_S {n : Int} {k : Bool → Prop} (h : F_impl_validKey n k) : S_impl_validKey n k := by
  unfold F_impl_validKey at h
  simp only [S_impl_validKey, G_impl_validKey, br_dec]
  refine ⟨fun h1 => ?_, fun h1 => ?_⟩
  · simpa [h1] using h
  · simpa [h1] using h
-- impl.CellOf
def G_impl_CellOf (row0 : Int) (key1 : Int) (k : Int → Prop) : Prop :=
  br (decide (row0 < 0))
  (k (-1))
  (br (decide (row0 ≥ 3))
    (k (-1))
    (F_impl_validKey key1 fun validKey14 =>
      br (!validKey14)
      (k (-1))
      (InR (2 * row0) ∧
        InR (37 + (2 * row0)) ∧
        InR (key1 + row0) ∧
        InR ((37 + (2 * row0)) * (key1 + row0)) ∧
        ((101 : Int) ≠ 0) ∧
        InR (row0 * 8) ∧
        ((8 : Int) ≠ 0) ∧
        InR ((row0 * 8) + (Int.tmod (Int.tmod ((37 + (2 * row0)) * (key1 + row0)) 101) 8)) ∧
        k ((row0 * 8) + (Int.tmod (Int.tmod ((37 + (2 * row0)) * (key1 + row0)) 101) 8)))))
def S_impl_CellOf (row0 : Int) (key1 : Int) (k : Int → Prop) : Prop := G_impl_CellOf row0 key1 k
def F_impl_CellOf (row key : Int) (k : Int → Prop) : Prop := ((0 ≤ row ∧ row ≤ 2) ∧ 0 ≤ key ∧ key ≤ 31 → k (cellM row key)) ∧ (¬ ((0 ≤ row ∧ row ≤ 2) ∧ 0 ≤ key ∧ key ≤ 31) → k (-1))
theorem F_impl_CellOf_S {row key : Int} {k : Int → Prop} (h : F_impl_CellOf row key k) : S_impl_CellOf row key k := by
  obtain ⟨hyes, hno⟩ := h
  refine br_dec.2 ⟨fun h => hno fun w => by omega, fun h0 => br_dec.2 ⟨fun h => hno fun w => by omega, fun h1 => br_not.2 (br_dec.2 ⟨fun hk => ?_, fun hk => hno fun w => hk w.2⟩)⟩⟩
  have hp := cell_prod (row := row) (key := key) (by omega) (by omega) hk.1 hk.2
  have hr := cellM_range (row := row) (key := key) (by omega) hk.1
  unfold cellM at hr
  exact ⟨inR (by omega) (by omega), inR (by omega) (by omega), inR (by omega) (by omega), inR (by omega) (by omega), by omega, inR (by omega) (by omega), by omega, inR (by omega) (by omega), hyes ⟨⟨by omega, by omega⟩, hk⟩⟩
-- impl.CountOf
def T0_impl_CountOf (key1 : Int) (s0 : List Int) (xleast5 : Int) (xt15 : Int) (k : Int → Prop) (B0 : Int → Int → Prop) : Prop :=
  br (decide (xt15 < 3))
  (F_impl_CellOf xt15 key1 fun cellOf22 =>
    (0 ≤ cellOf22 ∧ cellOf22 < (s0.length : Int)) ∧
    InR (xt15 + 1) ∧
    B0 (if (List.getD s0 (Int.toNat cellOf22) (0 : Int)) < xleast5 then (List.getD s0 (Int.toNat cellOf22) (0 : Int)) else xleast5) (xt15 + 1))
  (k xleast5)
def L0_impl_CountOf (key1 : Int) (s0 : List Int) (k : Int → Prop) : Nat → Int → Int → Prop
  | 0, _, _ => False
  | n + 1, xleast5, xt15 => T0_impl_CountOf key1 s0 xleast5 xt15 k (L0_impl_CountOf key1 s0 k n)
def G_impl_CountOf (s0 : List Int) (key1 : Int) (k : Int → Prop) (I0 : Int → List Int → Int → Int → Prop) : Prop :=
  F_impl_ValidSketch s0 fun validSketch8 =>
  br (!validSketch8)
  (k (-1))
  (F_impl_validKey key1 fun validKey12 =>
    br (!validKey12)
    (k (-1))
    (I0 key1 s0 15 0))
def S_impl_CountOf (s0 : List Int) (key1 : Int) (k : Int → Prop) : Prop := G_impl_CountOf s0 key1 k (fun key1 s0 xleast5 xt15 => ∃ j, L0_impl_CountOf key1 s0 k j xleast5 xt15)
def F_impl_CountOf (s : List Int) (key : Int) (k : Int → Prop) : Prop := (VSk s ∧ 0 ≤ key ∧ key ≤ 31 → k (countM s key)) ∧ (¬ (VSk s ∧ 0 ≤ key ∧ key ≤ 31) → k (-1))
theorem F_impl_CountOf_S {s : List Int} {key : Int} {k : Int → Prop} (h : F_impl_CountOf s key k) : S_impl_CountOf s key k := by
  obtain ⟨hyes, hno⟩ := h
  intro b hb
  refine br_not.2 (br_iff.2 ⟨fun e => ?_, fun e => hno fun w => by rw [hb.2 w.1] at e; cases e⟩)
  have v := hb.1 e
  refine br_not.2 (br_dec.2 ⟨fun hkey => ?_, fun hkey => hno fun w => hkey w.2⟩)
  have hk := hyes ⟨v, hkey⟩
  have step : ∀ (row m : Int) (n : Nat), 0 ≤ row → row ≤ 2 → L0_impl_CountOf key s k n (min2 (s.getD (cellM row key).toNat 0) m) (row + 1) → L0_impl_CountOf key s k (n + 1) m row := by
    intro row m n r0 r1 next
    have hr := cellM_range (key := key) r0 hkey.1
    have hl := v.1
    rw [L0_impl_CountOf, T0_impl_CountOf]
    exact br_yd (by omega) (yes ⟨⟨r0, r1⟩, hkey⟩ ⟨⟨by omega, by omega⟩, inR (by omega) (by omega), next⟩)
  refine ⟨4, step 0 _ 3 (by omega) (by omega) (step 1 _ 2 (by omega) (by omega) (step 2 _ 1 (by omega) (by omega) ?_))⟩
  rw [L0_impl_CountOf, T0_impl_CountOf]
  exact br_nd (by omega) hk
-- impl.Prefers
def G_impl_Prefers (s0 : List Int) (a1 : Int) (b2 : Int) (k : Bool → Prop) : Prop :=
  F_impl_ValidSketch s0 fun validSketch8 =>
  br (!validSketch8)
  (k false)
  (F_impl_validKey a1 fun validKey12 =>
    br (!validKey12)
    (k false)
    (F_impl_validKey b2 fun validKey17 =>
      br (!validKey17)
      (k false)
      (F_impl_CountOf s0 a1 fun countOf22 =>
        F_impl_CountOf s0 b2 fun countOf25 =>
        k (decide (countOf22 > countOf25)))))
def S_impl_Prefers (s0 : List Int) (a1 : Int) (b2 : Int) (k : Bool → Prop) : Prop := G_impl_Prefers s0 a1 b2 k
def F_impl_Prefers (s : List Int) (a b : Int) (k : Bool → Prop) : Prop := ∀ c : Bool, (c = true ↔ VSk s ∧ (0 ≤ a ∧ a ≤ 31) ∧ (0 ≤ b ∧ b ≤ 31) ∧ countM s b < countM s a) → k c
theorem F_impl_Prefers_S {s : List Int} {a b : Int} {k : Bool → Prop} (h : F_impl_Prefers s a b k) : S_impl_Prefers s a b k := by
  have no : ¬ (VSk s ∧ (0 ≤ a ∧ a ≤ 31) ∧ (0 ≤ b ∧ b ≤ 31) ∧ countM s b < countM s a) → k false := fun hv => h false (by simp [hv])
  intro b1 hb1
  refine br_not.2 (br_iff.2 ⟨fun e1 => ?_, fun e => no fun w => by rw [hb1.2 w.1] at e; cases e⟩)
  have v := hb1.1 e1
  refine br_not.2 (br_dec.2 ⟨fun ha => br_not.2 (br_dec.2 ⟨fun hb => ⟨fun _ => ⟨fun _ => h _ ?_, fun c => absurd ⟨v, hb⟩ c⟩, fun c => absurd ⟨v, ha⟩ c⟩, fun hb => no fun w => hb w.2.2.1⟩), fun ha => no fun w => ha w.2.1⟩)
  rw [decide_eq_true_iff]
  exact ⟨fun g => ⟨v, ha, hb, g⟩, fun w => w.2.2.2⟩
-- spec.inRange
def G_spec_inRange (n0 : Int) (low1 : Int) (high2 : Int) (k : Bool → Prop) : Prop :=
  br (decide (low1 ≤ n0))
  (k (decide (n0 ≤ high2)))
  (k false)
def S_spec_inRange (n0 : Int) (low1 : Int) (high2 : Int) (k : Bool → Prop) : Prop := G_spec_inRange n0 low1 high2 k
def F_spec_inRange (n low high : Int) (k : Bool → Prop) : Prop := k (decide (low ≤ n ∧ n ≤ high))
theorem F_spec_inRange_S {n low high : Int} {k : Bool → Prop} (h : F_spec_inRange n low high k) : S_spec_inRange n low high k := by
  unfold F_spec_inRange at h
  simp only [S_spec_inRange, G_spec_inRange, br_dec]
  refine ⟨fun h1 => ?_, fun h1 => ?_⟩
  · simpa [h1] using h
  · simpa [h1] using h
-- spec.allIn
def T0_spec_allIn (high2 : Int) (list0 : List Int) (low1 : Int) (xi7 : Int) (k : Bool → Prop) (B0 : Int → Prop) : Prop :=
  br (decide (xi7 < (list0.length : Int)))
  ((0 ≤ xi7 ∧ xi7 < (list0.length : Int)) ∧
    F_spec_inRange (List.getD list0 (Int.toNat xi7) (0 : Int)) low1 high2 fun inRange20 =>
    br (!inRange20)
    (k false)
    (InR (xi7 + 1) ∧
      B0 (xi7 + 1)))
  (k true)
def L0_spec_allIn (high2 : Int) (list0 : List Int) (low1 : Int) (k : Bool → Prop) : Nat → Int → Prop
  | 0, _ => False
  | n + 1, xi7 => T0_spec_allIn high2 list0 low1 xi7 k (L0_spec_allIn high2 list0 low1 k n)
def G_spec_allIn (list0 : List Int) (low1 : Int) (high2 : Int) (I0 : Int → List Int → Int → Int → Prop) : Prop :=
  I0 high2 list0 low1 0
def S_spec_allIn (list0 : List Int) (low1 : Int) (high2 : Int) (k : Bool → Prop) : Prop := G_spec_allIn list0 low1 high2 (fun high2 list0 low1 xi7 => ∃ j, L0_spec_allIn high2 list0 low1 k j xi7)
def F_spec_allIn (l : List Int) (low high : Int) (k : Bool → Prop) : Prop := l.length ≤ 1000000000 ∧ k (decide (∀ x ∈ l, low ≤ x ∧ x ≤ high))
theorem F_spec_allIn_S {l : List Int} {low high : Int} {k : Bool → Prop} (h : F_spec_allIn l low high k) : S_spec_allIn l low high k := by
  obtain ⟨hl, hk⟩ := h
  have key : ∀ (r : List Int) (i : Nat), l.drop i = r → ((∀ x ∈ r, low ≤ x ∧ x ≤ high) ↔ (∀ x ∈ l, low ≤ x ∧ x ≤ high)) → L0_spec_allIn high l low k (r.length + 1) (i : Int) := by
    intro r
    induction r with
    | nil =>
      intro i hd he
      have := drop_nil' hd
      rw [L0_spec_allIn, T0_spec_allIn]
      simp only [br_dec]
      refine ⟨fun h => by omega, fun _ => ?_⟩
      rwa [decide_eq_true (he.1 (by simp))] at hk
    | cons x r ih =>
      intro i hd he
      obtain ⟨h1, h2, _, h3, _⟩ := drop_cons' hd
      rw [List.length_cons, L0_spec_allIn, T0_spec_allIn]
      simp only [br_dec, F_spec_inRange, br_not, Int.toNat_natCast, h2]
      refine ⟨fun _ => ⟨⟨by omega, by omega⟩, fun hx => ⟨inR (by omega) (by omega), ?_⟩, fun hx => ?_⟩, fun h => by omega⟩
      · refine ih (i + 1) h3 (Iff.trans ?_ he)
        simp only [List.mem_cons, forall_eq_or_imp]
        exact ⟨fun h => ⟨hx, h⟩, fun h => h.2⟩
      · rwa [decide_eq_false (fun h => hx (he.2 h x (by simp)))] at hk
  exact ⟨_, key l 0 rfl Iff.rfl⟩
-- spec.validSketch
def G_spec_validSketch (s0 : List Int) (k : Bool → Prop) : Prop :=
  br ((s0.length : Int) == 24)
  (F_spec_allIn s0 (0 : Int) (15 : Int) fun allIn8 =>
    k allIn8)
  (k false)
def S_spec_validSketch (s0 : List Int) (k : Bool → Prop) : Prop := G_spec_validSketch s0 k
def F_spec_validSketch (s : List Int) (k : Bool → Prop) : Prop := ∀ b : Bool, (b = true ↔ VSk s) → k b
theorem F_spec_validSketch_S {s : List Int} {k : Bool → Prop} (h : F_spec_validSketch s k) : S_spec_validSketch s k :=
  br_beq.2 ⟨fun hl => ⟨by omega, h _ (by rw [decide_eq_true_iff]; exact ⟨fun w => ⟨by omega, w⟩, fun v => v.2⟩)⟩, fun hl => h false ⟨fun e => (by cases e), fun v => absurd (by have := v.1; omega) hl⟩⟩
-- spec.count
def T0_spec_count (key1 : Int) (s0 : List Int) (xn5 : Int) (xr6 : Int) (k : Int → Prop) (B0 : Int → Int → Prop) : Prop :=
  br (decide (xr6 < 3))
  (F_spec_cell xr6 key1 fun cell15 =>
    (0 ≤ cell15 ∧ cell15 < (s0.length : Int)) ∧
    InR (xr6 + 1) ∧
    B0 (if (List.getD s0 (Int.toNat cell15) (0 : Int)) < xn5 then (List.getD s0 (Int.toNat cell15) (0 : Int)) else xn5) (xr6 + 1))
  (k xn5)
def L0_spec_count (key1 : Int) (s0 : List Int) (k : Int → Prop) : Nat → Int → Int → Prop
  | 0, _, _ => False
  | n + 1, xn5, xr6 => T0_spec_count key1 s0 xn5 xr6 k (L0_spec_count key1 s0 k n)
def G_spec_count (s0 : List Int) (key1 : Int) (I0 : Int → List Int → Int → Int → Prop) : Prop :=
  I0 key1 s0 15 0
def S_spec_count (s0 : List Int) (key1 : Int) (k : Int → Prop) : Prop := G_spec_count s0 key1 (fun key1 s0 xn5 xr6 => ∃ j, L0_spec_count key1 s0 k j xn5 xr6)
def F_spec_count (s : List Int) (key : Int) (k : Int → Prop) : Prop := (VSk s ∧ 0 ≤ key ∧ key ≤ 31) ∧ k (countM s key)
theorem F_spec_count_S {s : List Int} {key : Int} {k : Int → Prop} (h : F_spec_count s key k) : S_spec_count s key k := by
  obtain ⟨⟨v, hkey⟩, hk⟩ := h
  have step : ∀ (row m : Int) (n : Nat), 0 ≤ row → row ≤ 2 → L0_spec_count key s k n (min2 (s.getD (cellM row key).toNat 0) m) (row + 1) → L0_spec_count key s k (n + 1) m row := by
    intro row m n r0 r1 next
    have hr := cellM_range (key := key) r0 hkey.1
    have hl := v.1
    rw [L0_spec_count, T0_spec_count]
    exact br_yd (by omega) ⟨⟨r0, r1, hkey⟩, ⟨by omega, by omega⟩, inR (by omega) (by omega), next⟩
  refine ⟨4, step 0 _ 3 (by omega) (by omega) (step 1 _ 2 (by omega) (by omega) (step 2 _ 1 (by omega) (by omega) ?_))⟩
  rw [L0_spec_count, T0_spec_count]
  exact br_nd (by omega) hk
-- spec.Prefers
def G_spec_Prefers (s0 : List Int) (a1 : Int) (b2 : Int) (k : Bool → Prop) : Prop :=
  F_spec_validSketch s0 fun validSketch8 =>
  br validSketch8
  (F_spec_inRange a1 (0 : Int) (31 : Int) fun inRange11 =>
    br inRange11
    (F_spec_inRange b2 (0 : Int) (31 : Int) fun inRange15 =>
      br inRange15
      (F_spec_count s0 a1 fun count20 =>
        F_spec_count s0 b2 fun count23 =>
        k (decide (count20 > count23)))
      (k false))
    (k false))
  (k false)
def S_spec_Prefers (s0 : List Int) (a1 : Int) (b2 : Int) (k : Bool → Prop) : Prop := G_spec_Prefers s0 a1 b2 k
def F_spec_Prefers (s : List Int) (a b : Int) (k : Bool → Prop) : Prop := ∀ c : Bool, (c = true ↔ VSk s ∧ (0 ≤ a ∧ a ≤ 31) ∧ (0 ≤ b ∧ b ≤ 31) ∧ countM s b < countM s a) → k c
theorem F_spec_Prefers_S {s : List Int} {a b : Int} {k : Bool → Prop} (h : F_spec_Prefers s a b k) : S_spec_Prefers s a b k := by
  have no : ¬ (VSk s ∧ (0 ≤ a ∧ a ≤ 31) ∧ (0 ≤ b ∧ b ≤ 31) ∧ countM s b < countM s a) → k false := fun hv => h false (by simp [hv])
  intro b1 hb1
  refine br_iff.2 ⟨fun e1 => ?_, fun e => no fun w => by rw [hb1.2 w.1] at e; cases e⟩
  have v := hb1.1 e1
  refine br_dec.2 ⟨fun ha => br_dec.2 ⟨fun hb => ⟨⟨v, ha⟩, ⟨v, hb⟩, h _ ?_⟩, fun hb => no fun w => hb w.2.2.1⟩, fun ha => no fun w => ha w.2.1⟩
  rw [decide_eq_true_iff]
  exact ⟨fun g => ⟨v, ha, hb, g⟩, fun w => w.2.2.2⟩
-- impl.EmptySketch
def G_impl_EmptySketch (k : List Int → Prop) : Prop :=
  ((24 : Int) = 24 ∧ 0 ≤ (24 : Int) ∧ (24 : Int) ≤ 1000000000) ∧
  k (List.replicate 24 (0 : Int))
def S_impl_EmptySketch (k : List Int → Prop) : Prop := G_impl_EmptySketch k
def F_impl_EmptySketch (k : List Int → Prop) : Prop := k emptyM
theorem F_impl_EmptySketch_S {k : List Int → Prop} (h : F_impl_EmptySketch k) : S_impl_EmptySketch k := ⟨⟨rfl, by omega, by omega⟩, h⟩
-- impl.AddKey
def T0_impl_AddKey (key1 : Int) (xt22 : Int) (xy18 : List Int) (k : List Int → Prop) (B0 : Int → List Int → Prop) : Prop :=
  br (decide (xt22 < 3))
  (F_impl_CellOf xt22 key1 fun cellOf27 =>
    (0 ≤ cellOf27 ∧ cellOf27 < (xy18.length : Int)) ∧
    InR ((List.getD xy18 (Int.toNat cellOf27) (0 : Int)) + 1) ∧
    (0 ≤ cellOf27 ∧ cellOf27 < (xy18.length : Int)) ∧
    InR (xt22 + 1) ∧
    B0 (xt22 + 1) (List.set xy18 (Int.toNat cellOf27) (if 15 < ((List.getD xy18 (Int.toNat cellOf27) (0 : Int)) + 1) then (15 : Int) else ((List.getD xy18 (Int.toNat cellOf27) (0 : Int)) + 1))))
  (k xy18)
def L0_impl_AddKey (key1 : Int) (k : List Int → Prop) : Nat → Int → List Int → Prop
  | 0, _, _ => False
  | n + 1, xt22, xy18 => T0_impl_AddKey key1 xt22 xy18 k (L0_impl_AddKey key1 k n)
def G_impl_AddKey (s0 : List Int) (key1 : Int) (k : List Int → Prop) (I0 : Int → Int → List Int → Prop) : Prop :=
  F_impl_ValidSketch s0 fun validSketch9 =>
  br (!validSketch9)
  (k ([] : List Int))
  (F_impl_validKey key1 fun validKey13 =>
    br (!validKey13)
    (k ([] : List Int))
    (((s0.length : Int) = (s0.length : Int) ∧ 0 ≤ (s0.length : Int) ∧ (s0.length : Int) ≤ 1000000000) ∧
      ((List.length (List.replicate (Int.toNat (s0.length : Int)) (0 : Int))) = s0.length) ∧
      I0 key1 0 s0))
def S_impl_AddKey (s0 : List Int) (key1 : Int) (k : List Int → Prop) : Prop := G_impl_AddKey s0 key1 k (fun key1 xt22 xy18 => ∃ j, L0_impl_AddKey key1 k j xt22 xy18)
def F_impl_AddKey (s : List Int) (key : Int) (k : List Int → Prop) : Prop := (VSk s ∧ 0 ≤ key ∧ key ≤ 31 → k (addM s key)) ∧ (¬ (VSk s ∧ 0 ≤ key ∧ key ≤ 31) → k [])
theorem F_impl_AddKey_S {s : List Int} {key : Int} {k : List Int → Prop} (h : F_impl_AddKey s key k) : S_impl_AddKey s key k := by
  obtain ⟨hyes, hno⟩ := h
  intro b hb
  refine br_not.2 (br_iff.2 ⟨fun e => ?_, fun e => hno fun w => by rw [hb.2 w.1] at e; cases e⟩)
  have v := hb.1 e
  refine br_not.2 (br_dec.2 ⟨fun hkey => ?_, fun hkey => hno fun w => hkey w.2⟩)
  have hk := hyes ⟨v, hkey⟩
  have step : ∀ (row : Int) (q : List Int) (n : Nat), 0 ≤ row → row ≤ 2 → VSk q → L0_impl_AddKey key k n (row + 1) (bumpM q (cellM row key)) → L0_impl_AddKey key k (n + 1) row q := by
    intro row q n r0 r1 w next
    have hr := cellM_range (key := key) r0 hkey.1
    have hl := w.1
    have hg := w.get (cellM row key).toNat
    rw [L0_impl_AddKey, T0_impl_AddKey]
    exact br_yd (by omega) (yes ⟨⟨r0, r1⟩, hkey⟩ ⟨⟨by omega, by omega⟩, inR (by omega) (by omega), ⟨by omega, by omega⟩, inR (by omega) (by omega), next⟩)
  refine ⟨⟨rfl, by omega, by have := v.1; omega⟩, by simp, 4, step 0 s 3 (by omega) (by omega) v (step 1 _ 2 (by omega) (by omega) (v.bump _) (step 2 _ 1 (by omega) (by omega) ((v.bump _).bump _) ?_))⟩
  rw [L0_impl_AddKey, T0_impl_AddKey]
  exact br_nd (by omega) hk
-- laws.FnPrefersAdd
def T1_laws_FnPrefersAdd (drawPrefers16r1 : Int) (drawPrefers16r2 : Int) (xe7 : List Int) (xapart9 : Bool) (xr10 : Int) (k : Bool → Prop) (B1 : Bool → Int → Prop) : Prop :=
  br (decide (xr10 < 3))
  (br xapart9
    (InR (xr10 + 1) ∧
      B1 true (xr10 + 1))
    (F_impl_CellOf xr10 drawPrefers16r1 fun cellOf64 =>
      F_impl_CellOf xr10 drawPrefers16r2 fun cellOf67 =>
      InR (xr10 + 1) ∧
      B1 (cellOf64 != cellOf67) (xr10 + 1)))
  (F_impl_Prefers xe7 drawPrefers16r1 drawPrefers16r2 fun prefers73 =>
    k (prefers73 == xapart9))
def L1_laws_FnPrefersAdd (drawPrefers16r1 : Int) (drawPrefers16r2 : Int) (xe7 : List Int) (k : Bool → Prop) : Nat → Bool → Int → Prop
  | 0, _, _ => False
  | n + 1, xapart9, xr10 => T1_laws_FnPrefersAdd drawPrefers16r1 drawPrefers16r2 xe7 xapart9 xr10 k (L1_laws_FnPrefersAdd drawPrefers16r1 drawPrefers16r2 xe7 k n)
def T0_laws_FnPrefersAdd (drawPrefers16r1 : Int) (drawPrefers16r2 : Int) (xi8 : Int) (xe7 : List Int) (B0 : Int → List Int → Prop) (I1 : Int → Int → List Int → Bool → Int → Prop) : Prop :=
  br (decide (xi8 < 15))
  (F_impl_AddKey xe7 drawPrefers16r1 fun addKey55 =>
    InR (xi8 + 1) ∧
    B0 (xi8 + 1) addKey55)
  (I1 drawPrefers16r1 drawPrefers16r2 xe7 false 0)
def L0_laws_FnPrefersAdd (drawPrefers16r1 : Int) (drawPrefers16r2 : Int) (k : Bool → Prop) : Nat → Int → List Int → Prop
  | 0, _, _ => False
  | n + 1, xi8, xe7 => T0_laws_FnPrefersAdd drawPrefers16r1 drawPrefers16r2 xi8 xe7 (L0_laws_FnPrefersAdd drawPrefers16r1 drawPrefers16r2 k n) (fun drawPrefers16r1 drawPrefers16r2 xe7 xapart9 xr10 => ∃ j, L1_laws_FnPrefersAdd drawPrefers16r1 drawPrefers16r2 xe7 k j xapart9 xr10)
def G_laws_FnPrefersAdd (code0 : List Int) (k : Bool → Prop) (I0 : Int → Int → Int → List Int → Prop) : Prop :=
  br (decide ((code0.length : Int) > 1048576))
  (k true)
  (F_spec_DrawPrefers code0 fun drawPrefers16r0 drawPrefers16r1 drawPrefers16r2 =>
    F_impl_Prefers drawPrefers16r0 drawPrefers16r1 drawPrefers16r2 fun prefers23 =>
    F_spec_Prefers drawPrefers16r0 drawPrefers16r1 drawPrefers16r2 fun prefers28 =>
    br (!(prefers23 == prefers28))
    (F_spec_Prefers drawPrefers16r0 drawPrefers16r1 drawPrefers16r2 fun prefers46 =>
      k (prefers23 == prefers46))
    (F_impl_CountOf drawPrefers16r0 drawPrefers16r1 fun countOf33 =>
      br (decide (countOf33 < 0))
      (F_spec_Prefers drawPrefers16r0 drawPrefers16r1 drawPrefers16r2 fun prefers46 =>
        k (prefers23 == prefers46))
      (F_impl_CountOf drawPrefers16r0 drawPrefers16r2 fun countOf39 =>
        br (decide (countOf39 < 0))
        (F_spec_Prefers drawPrefers16r0 drawPrefers16r1 drawPrefers16r2 fun prefers46 =>
          k (prefers23 == prefers46))
        (F_impl_EmptySketch fun emptySketch48 =>
          I0 drawPrefers16r1 drawPrefers16r2 0 emptySketch48))))
def S_laws_FnPrefersAdd (code0 : List Int) (k : Bool → Prop) : Prop := G_laws_FnPrefersAdd code0 k (fun drawPrefers16r1 drawPrefers16r2 xi8 xe7 => ∃ j, L0_laws_FnPrefersAdd drawPrefers16r1 drawPrefers16r2 k j xi8 xe7)
abbrev F_laws_FnPrefersAdd (code0 : List Int) (k : Bool → Prop) : Prop := S_laws_FnPrefersAdd code0 k
theorem F_laws_FnPrefersAdd_S {code0 : List Int} {k : Bool → Prop} (h : F_laws_FnPrefersAdd code0 k) : S_laws_FnPrefersAdd code0 k := h
theorem law_FnPrefersAdd (code : List Int) (hb : ∀ x ∈ code, 0 ≤ x ∧ x ≤ 255) : F_laws_FnPrefersAdd code (fun r => r = true) := by
  refine br_dec.2 ⟨fun _ => rfl, fun hlen => ⟨hb, fun s a b l1 b1 hb1 b2 hb2 => pred_same hb1 hb2 ?_⟩⟩
  have fin : F_spec_Prefers s a b (fun c => (b1 == c) = true) := fun b3 hb3 => by
    have : b1 = b3 := Bool.eq_iff_iff.2 (hb1.trans hb3.symm)
    rw [this]; exact beq_self_eq_true _
  by_cases va : VSk s ∧ 0 ≤ a ∧ a ≤ 31
  · have ca := va.1.count a
    refine yes va (br_nd (by omega) ?_)
    by_cases vb : VSk s ∧ 0 ≤ b ∧ b ≤ 31
    · have cb := vb.1.count b
      refine yes vb (br_nd (by omega) ?_)
      have last : ∀ e : List Int, Cnt a 15 e → ∃ j, L1_laws_FnPrefersAdd a b e (fun r => r = true) j false 0 := fun e ve => by
        have step : ∀ (ap : Bool) (row : Int) (n : Nat), 0 ≤ row → row ≤ 2 → L1_laws_FnPrefersAdd a b e (fun r => r = true) n (ap || (cellM row a != cellM row b)) (row + 1) → L1_laws_FnPrefersAdd a b e (fun r => r = true) (n + 1) ap row := by
          intro ap row n r0 r1 next
          rw [L1_laws_FnPrefersAdd, T1_laws_FnPrefersAdd]
          refine br_yd (by omega) ?_
          cases ap with
          | true => exact ⟨inR (by omega) (by omega), next⟩
          | false => exact yes ⟨⟨r0, r1⟩, va.2⟩ (yes ⟨⟨r0, r1⟩, vb.2⟩ ⟨inR (by omega) (by omega), next⟩)
        refine ⟨4, step _ 0 3 (by omega) (by omega) (step _ 1 2 (by omega) (by omega) (step _ 2 1 (by omega) (by omega) ?_))⟩
        rw [L1_laws_FnPrefersAdd, T1_laws_FnPrefersAdd]
        refine br_nd (by omega) fun c hc => ?_
        have h1 := ve.other va.2.1 vb.2.1
        have hap : (false || (cellM 0 a != cellM 0 b) || (cellM 1 a != cellM 1 b) || (cellM 2 a != cellM 2 b)) = true ↔ countM e b < 15 := by
          rw [h1]; simp [or_assoc]
        have hc2 : c = true ↔ countM e b < 15 := by
          rw [hc, ve.self]
          exact ⟨fun w => w.2.2.2, fun w => ⟨ve.1, va.2, vb.2, w⟩⟩
        exact beq_iff_eq.2 (Bool.eq_iff_iff.2 (hc2.trans hap.symm))
      have go : ∀ (m i : Nat) (e : List Int), i + m = 15 → Cnt a i e → L0_laws_FnPrefersAdd a b (fun r => r = true) (m + 1) (i : Int) e := by
        intro m
        induction m with
        | zero =>
          intro i e hi ve
          rw [L0_laws_FnPrefersAdd, T0_laws_FnPrefersAdd]
          have : i = 15 := by omega
          subst this
          exact br_nd (by omega) (last e ve)
        | succ m ih =>
          intro i e hi ve
          have hu : up15 (i : Int) = ((i + 1 : Nat) : Int) := by unfold up15; rw [if_neg (by omega)]; rfl
          have next := ve.add va.2.1
          rw [hu] at next
          rw [L0_laws_FnPrefersAdd, T0_laws_FnPrefersAdd]
          exact br_yd (by omega) (yes ⟨ve.1, va.2⟩ ⟨inR (by omega) (by omega), ih (i + 1) _ (by omega) next⟩)
      exact ⟨_, go 15 0 emptyM rfl (cnt0 a)⟩
    · exact nay vb (br_yd (by omega) fin)
  · exact nay va (br_yd (by omega) fin)
end Go.Ev
