/- What the functions that the law reaches do, written as plain Lean. No statement is proved here. -/
import Derived.Test.YtnkmhjdenddpbacEvT
namespace Go.Ev
set_option linter.unusedVariables false
open Go
theorem br_iff {b : Bool} {A B : Prop} : br b A B ↔ (b = true → A) ∧ (b = false → B) := by cases b <;> simp [br]
theorem br_dec {p : Prop} [Decidable p] {A B : Prop} : br (decide p) A B ↔ (p → A) ∧ (¬ p → B) := by rw [br_iff]; simp
theorem br_beq {a b : Int} {A B : Prop} : br (a == b) A B ↔ (a = b → A) ∧ (a ≠ b → B) := by rw [br_iff]; simp
theorem br_bne {a b : Int} {A B : Prop} : br (a != b) A B ↔ (a ≠ b → A) ∧ (a = b → B) := by rw [br_iff]; simp
theorem br_not {b : Bool} {A B : Prop} : br (!b) A B ↔ br b B A := by cases b <;> simp [br]
theorem inR {x : Int} (h1 : -9223372036854775808 ≤ x) (h2 : x ≤ 9223372036854775807) : InR x := ⟨h1, h2⟩

section lists
variable {α : Type}
theorem drop_nil' {l : List α} {i : Nat} (h : l.drop i = []) : l.length ≤ i := by simpa using h
theorem drop_cons' {l : List α} {i : Nat} {x : α} {r : List α} (h : l.drop i = x :: r) : i < l.length ∧ (∀ d, l.getD i d = x) ∧ l[i]? = some x ∧ l.drop (i + 1) = r ∧ l.take (i + 1) = l.take i ++ [x] := by
  have hlt : i < l.length := by
    rcases Nat.lt_or_ge i l.length with h1 | h1
    · exact h1
    · rw [List.drop_eq_nil_of_le h1] at h; cases h
  have h2 := List.drop_eq_getElem_cons hlt
  rw [h] at h2
  injection h2 with h3 h4
  have h5 : l[i]? = some x := by rw [List.getElem?_eq_getElem hlt, h3]
  exact ⟨hlt, fun d => by simp [List.getD, h5], h5, h4.symm, by rw [List.take_succ_eq_append_getElem hlt, h3]⟩
end lists

def Bs (b : List Int) : Prop := b.length ≤ 2000 ∧ ∀ x ∈ b, 0 ≤ x ∧ x ≤ 255
theorem Bs.get {b : List Int} (h : Bs b) (i : Nat) : 0 ≤ b.getD i 0 ∧ b.getD i 0 ≤ 255 := by
  rcases Nat.lt_or_ge i b.length with hi | hi
  · have hx : b[i]? = some (b.getD i 0) := by simp [List.getD, hi]
    exact h.2 _ (List.mem_of_getElem? hx)
  · simp [List.getD, List.getElem?_eq_none hi]
theorem br_same {b : Bool} {A B : Prop} (h : B) : br (!(b == b)) A B := by rw [beq_self_eq_true]; exact h
theorem some_of {l : List Int} {i : Nat} {d : Int} (h : i < l.length) : l[i]? = some (l.getD i d) := by
  rw [List.getD_eq_getElem?_getD, List.getElem?_eq_getElem h]; rfl
theorem br_de {α : Type} [DecidableEq α] {a : α} {A B : Prop} (h : B) : br (!decide (a = a)) A B := by rw [decide_eq_true rfl]; exact h
theorem mem_getD {l : List Int} {i : Nat} (h : i < l.length) : l.getD i 0 ∈ l := List.mem_of_getElem? (some_of h)
theorem take_set_succ {α : Type} {l : List α} {i : Nat} {x : α} (h : i < l.length) : (l.set i x).take (i + 1) = l.take i ++ [x] := by
  rw [List.take_succ_eq_append_getElem (by simpa using h), List.take_set_of_le (Nat.le_refl _)]; simp
theorem pred_same {P : Prop} {b1 b2 : Bool} {A B : Prop} (h1 : b1 = true ↔ P) (h2 : b2 = true ↔ P) (h : B) : br (!(b1 == b2)) A B := by
  have e : b1 = b2 := by
    cases b1 <;> cases b2 <;> first | rfl | (simp at h1 h2; first | exact absurd h2 h1 | exact absurd h1 h2)
  subst e
  exact br_same h
abbrev Ent := Int × Int × Int
def Rar (a b : Ent) : Prop := a.2.1 < b.2.1 ∨ a.2.1 = b.2.1 ∧ a.2.2 < b.2.2
instance (a b : Ent) : Decidable (Rar a b) := by unfold Rar; infer_instance
theorem Rar.trans {a b c : Ent} (h : Rar a b) (g : Rar b c) : Rar a c := by unfold Rar at *; omega
structure AL where
  t : Int
  o : List Int
  f : List Int
  wo : List Int
  wf : List Int
def knownL (a : AL) (key : Int) : Prop := key ∈ a.o ∨ key ∈ a.f ∨ key ∈ a.wf ∨ key ∈ a.wo
instance (a : AL) (key : Int) : Decidable (knownL a key) := by unfold knownL; infer_instance
/-- What a policy does to the keys of its cache: never more than `cap`, and while fewer than `free` are there, none leaves. -/
def Runs (cap free : Nat) : List Int → List Int → List Int → Nat → Prop
  | [], C, E, n => E = C ∧ n = 0
  | k :: r, C, E, n => ∃ D m, D.Nodup ∧ D.length ≤ cap ∧ k ∈ D ∧ (∀ x ∈ D, x = k ∨ x ∈ C) ∧ ((k ∈ C ∨ C.length < free) → ∀ x ∈ C, x ∈ D) ∧ (k ∉ C → free ≤ C.length → free ≤ D.length) ∧
      Runs cap free r D E m ∧ n = m + (if k ∈ C then 1 else 0)
/-- What a step of a policy keeps. -/
def StepK (cap free : Nat) (C D : List Int) (k : Int) : Prop :=
  D.Nodup ∧ D.length ≤ cap ∧ k ∈ D ∧ (∀ x ∈ D, x = k ∨ x ∈ C) ∧ ((k ∈ C ∨ C.length < free) → ∀ x ∈ C, x ∈ D) ∧ (k ∉ C → free ≤ C.length → free ≤ D.length)
theorem Runs.step {cap free : Nat} {k : Int} {r C D E : List Int} {m : Nat} (h : StepK cap free C D k) (g : Runs cap free r D E m) : Runs cap free (k :: r) C E (m + if k ∈ C then 1 else 0) :=
  ⟨D, m, h.1, h.2.1, h.2.2.1, h.2.2.2.1, h.2.2.2.2.1, h.2.2.2.2.2, g, rfl⟩
theorem yes {P A B : Prop} (v : P) (h : A) : (P → A) ∧ (¬ P → B) := ⟨fun _ => h, fun c => absurd v c⟩
theorem br_yd {p : Prop} [Decidable p] {A B : Prop} (h : p) (g : A) : br (decide p) A B := br_dec.2 ⟨fun _ => g, fun c => absurd h c⟩
theorem br_nd {p : Prop} [Decidable p] {A B : Prop} (h : ¬ p) (g : B) : br (decide p) A B := br_dec.2 ⟨fun c => absurd c h, fun _ => g⟩
def VSk (s : List Int) : Prop := s.length = 24 ∧ ∀ x ∈ s, 0 ≤ x ∧ x ≤ 15
def cellM (row key : Int) : Int := row * 8 + Int.tmod (Int.tmod ((37 + 2 * row) * (key + row)) 101) 8
theorem cellM_range {row key : Int} (h0 : 0 ≤ row) (k0 : 0 ≤ key) : row * 8 ≤ cellM row key ∧ cellM row key < row * 8 + 8 := by
  have h1 : 0 ≤ (37 + 2 * row) * (key + row) := Int.mul_nonneg (by omega) (by omega)
  have h2 := Int.tmod_nonneg 101 h1
  have h3 := Int.tmod_nonneg 8 h2
  have h4 := Int.tmod_lt_of_pos (Int.tmod ((37 + 2 * row) * (key + row)) 101) (show (0 : Int) < 8 by omega)
  unfold cellM; omega
theorem cell_prod {row key : Int} (h0 : 0 ≤ row) (h1 : row ≤ 2) (k0 : 0 ≤ key) (k1 : key ≤ 31) : 0 ≤ (37 + 2 * row) * (key + row) ∧ (37 + 2 * row) * (key + row) ≤ 2000 := by
  have : row = 0 ∨ row = 1 ∨ row = 2 := by omega
  rcases this with h | h | h <;> subst h <;> omega
theorem VSk.get {s : List Int} (v : VSk s) (i : Nat) : 0 ≤ s.getD i 0 ∧ s.getD i 0 ≤ 15 := by
  by_cases h : i < s.length
  · exact v.2 _ (mem_getD h)
  · rw [List.getD_eq_getElem?_getD, List.getElem?_eq_none (by omega)]; simp
def min2 (a b : Int) : Int := if a < b then a else b
def countM (s : List Int) (key : Int) : Int := min2 (s.getD (cellM 2 key).toNat 0) (min2 (s.getD (cellM 1 key).toNat 0) (min2 (s.getD (cellM 0 key).toNat 0) 15))
theorem VSk.count {s : List Int} (v : VSk s) (key : Int) : 0 ≤ countM s key ∧ countM s key ≤ 15 := by
  have h0 := v.get (cellM 0 key).toNat
  have h1 := v.get (cellM 1 key).toNat
  have h2 := v.get (cellM 2 key).toNat
  unfold countM min2
  repeat' split
  all_goals omega
def PTm (l : List (Int × Int)) : Prop := (∀ e ∈ l, (0 ≤ e.1 ∧ e.1 ≤ 31) ∧ 0 ≤ e.2 ∧ e.2 ≤ 1000) ∧ l.Pairwise fun a b => a.1 < b.1
def VTm (l : List (Int × Int)) : Prop := l.length ≤ 12 ∧ PTm l
theorem PTm.filter {l : List (Int × Int)} (v : PTm l) (p : Int × Int → Bool) : PTm (l.filter p) := ⟨fun e he => v.1 e (List.mem_filter.1 he).1, v.2.filter p⟩
def dropM (l : List (Int × Int)) (now : Int) : List (Int × Int) := l.filter fun e => decide (now ≤ e.2)
theorem dropM_len (l : List (Int × Int)) (now : Int) : (dropM l now).length ≤ l.length := List.length_filter_le _ _
theorem VTm.drop {l : List (Int × Int)} (v : VTm l) (now : Int) : VTm (dropM l now) := ⟨Nat.le_trans (dropM_len l now) v.1, v.2.filter _⟩
-- laws.toIntS
def T0_laws_toIntS (a0 : List Int) (xi4 : Int) (xy7 : List Int) (k : List Int → Prop) (B0 : Int → List Int → Prop) : Prop :=
  br (decide (xi4 < (a0.length : Int)))
  ((0 ≤ xi4 ∧ xi4 < (a0.length : Int)) ∧
    (0 ≤ xi4 ∧ xi4 < (xy7.length : Int)) ∧
    InR (xi4 + 1) ∧
    B0 (xi4 + 1) (List.set xy7 (Int.toNat xi4) (List.getD a0 (Int.toNat xi4) (0 : Int))))
  (k xy7)
def L0_laws_toIntS (a0 : List Int) (k : List Int → Prop) : Nat → Int → List Int → Prop
  | 0, _, _ => False
  | n + 1, xi4, xy7 => T0_laws_toIntS a0 xi4 xy7 k (L0_laws_toIntS a0 k n)
def G_laws_toIntS (a0 : List Int) (I0 : List Int → Int → List Int → Prop) : Prop :=
  ((a0.length : Int) = (a0.length : Int) ∧ 0 ≤ (a0.length : Int) ∧ (a0.length : Int) ≤ 1000000000) ∧
  I0 a0 0 (List.replicate (Int.toNat (a0.length : Int)) (0 : Int))
def S_laws_toIntS (a0 : List Int) (k : List Int → Prop) : Prop := G_laws_toIntS a0 (fun a0 xi4 xy7 => ∃ j, L0_laws_toIntS a0 k j xi4 xy7)
def F_laws_toIntS (a : List Int) (k : List Int → Prop) : Prop := a.length ≤ 1000000000 ∧ k a
theorem F_laws_toIntS_S {a : List Int} {k : List Int → Prop} (h : F_laws_toIntS a k) : S_laws_toIntS a k := by
  obtain ⟨hl, hk⟩ := h
  have key : ∀ (r : List Int) (i : Nat) (out : List Int), a.drop i = r → out.length = a.length → out.take i = a.take i → L0_laws_toIntS a k (r.length + 1) (i : Int) out := by
    intro r
    induction r with
    | nil =>
      intro i out hd ho he
      have := drop_nil' hd
      rw [L0_laws_toIntS, T0_laws_toIntS]
      rw [List.take_of_length_le (by omega), List.take_of_length_le (by omega)] at he
      refine br_dec.2 ⟨fun h => by omega, fun _ => ?_⟩
      rw [he]; exact hk
    | cons x r ih =>
      intro i out hd ho he
      obtain ⟨h1, h2, _, h3, h4⟩ := drop_cons' hd
      rw [List.length_cons, L0_laws_toIntS, T0_laws_toIntS]
      simp only [br_dec, Int.toNat_natCast, h2]
      refine ⟨fun _ => ⟨⟨by omega, by omega⟩, ⟨by omega, by omega⟩, inR (by omega) (by omega), ih (i + 1) _ h3 (by simpa using ho) ?_⟩, fun h => by omega⟩
      rw [take_set_succ (by omega), h4, he]
  exact ⟨⟨rfl, by omega, by omega⟩, _, key a 0 _ rfl (by simp) (by simp)⟩
-- spec.inRange
def G_spec_inRange (n0 : Int) (low1 : Int) (high2 : Int) (k : Bool → Prop) : Prop :=
  br (decide (low1 ≤ n0))
  (k (decide (n0 ≤ high2)))
  (k false)
def S_spec_inRange (n0 : Int) (low1 : Int) (high2 : Int) (k : Bool → Prop) : Prop := G_spec_inRange n0 low1 high2 k
def F_spec_inRange (n low high : Int) (k : Bool → Prop) : Prop := k (decide (low ≤ n ∧ n ≤ high))
theorem F_spec_inRange_S {n low high : Int} {k : Bool → Prop} (h : F_spec_inRange n low high k) : S_spec_inRange n low high k := by
  unfold F_spec_inRange at h
  simp only [S_spec_inRange, G_spec_inRange, br_dec]
  refine ⟨fun h1 => ?_, fun h1 => ?_⟩
  · simpa [h1] using h
  · simpa [h1] using h
-- spec.allIn
def T0_spec_allIn (high2 : Int) (list0 : List Int) (low1 : Int) (xi7 : Int) (k : Bool → Prop) (B0 : Int → Prop) : Prop :=
  br (decide (xi7 < (list0.length : Int)))
  ((0 ≤ xi7 ∧ xi7 < (list0.length : Int)) ∧
    F_spec_inRange (List.getD list0 (Int.toNat xi7) (0 : Int)) low1 high2 fun inRange20 =>
    br (!inRange20)
    (k false)
    (InR (xi7 + 1) ∧
      B0 (xi7 + 1)))
  (k true)
def L0_spec_allIn (high2 : Int) (list0 : List Int) (low1 : Int) (k : Bool → Prop) : Nat → Int → Prop
  | 0, _ => False
  | n + 1, xi7 => T0_spec_allIn high2 list0 low1 xi7 k (L0_spec_allIn high2 list0 low1 k n)
def G_spec_allIn (list0 : List Int) (low1 : Int) (high2 : Int) (I0 : Int → List Int → Int → Int → Prop) : Prop :=
  I0 high2 list0 low1 0
def S_spec_allIn (list0 : List Int) (low1 : Int) (high2 : Int) (k : Bool → Prop) : Prop := G_spec_allIn list0 low1 high2 (fun high2 list0 low1 xi7 => ∃ j, L0_spec_allIn high2 list0 low1 k j xi7)
def F_spec_allIn (l : List Int) (low high : Int) (k : Bool → Prop) : Prop := l.length ≤ 1000000000 ∧ k (decide (∀ x ∈ l, low ≤ x ∧ x ≤ high))
theorem F_spec_allIn_S {l : List Int} {low high : Int} {k : Bool → Prop} (h : F_spec_allIn l low high k) : S_spec_allIn l low high k := by
  obtain ⟨hl, hk⟩ := h
  have key : ∀ (r : List Int) (i : Nat), l.drop i = r → ((∀ x ∈ r, low ≤ x ∧ x ≤ high) ↔ (∀ x ∈ l, low ≤ x ∧ x ≤ high)) → L0_spec_allIn high l low k (r.length + 1) (i : Int) := by
    intro r
    induction r with
    | nil =>
      intro i hd he
      have := drop_nil' hd
      rw [L0_spec_allIn, T0_spec_allIn]
      simp only [br_dec]
      refine ⟨fun h => by omega, fun _ => ?_⟩
      rwa [decide_eq_true (he.1 (by simp))] at hk
    | cons x r ih =>
      intro i hd he
      obtain ⟨h1, h2, _, h3, _⟩ := drop_cons' hd
      rw [List.length_cons, L0_spec_allIn, T0_spec_allIn]
      simp only [br_dec, F_spec_inRange, br_not, Int.toNat_natCast, h2]
      refine ⟨fun _ => ⟨⟨by omega, by omega⟩, fun hx => ⟨inR (by omega) (by omega), ?_⟩, fun hx => ?_⟩, fun h => by omega⟩
      · refine ih (i + 1) h3 (Iff.trans ?_ he)
        simp only [List.mem_cons, forall_eq_or_imp]
        exact ⟨fun h => ⟨hx, h⟩, fun h => h.2⟩
      · rwa [decide_eq_false (fun h => hx (he.2 h x (by simp)))] at hk
  exact ⟨_, key l 0 rfl Iff.rfl⟩
-- spec.validSketch
def G_spec_validSketch (s0 : List Int) (k : Bool → Prop) : Prop :=
  br ((s0.length : Int) == 24)
  (F_spec_allIn s0 (0 : Int) (15 : Int) fun allIn8 =>
    k allIn8)
  (k false)
def S_spec_validSketch (s0 : List Int) (k : Bool → Prop) : Prop := G_spec_validSketch s0 k
def F_spec_validSketch (s : List Int) (k : Bool → Prop) : Prop := ∀ b : Bool, (b = true ↔ VSk s) → k b
theorem F_spec_validSketch_S {s : List Int} {k : Bool → Prop} (h : F_spec_validSketch s k) : S_spec_validSketch s k :=
  br_beq.2 ⟨fun hl => ⟨by omega, h _ (by rw [decide_eq_true_iff]; exact ⟨fun w => ⟨by omega, w⟩, fun v => v.2⟩)⟩, fun hl => h false ⟨fun e => (by cases e), fun v => absurd (by have := v.1; omega) hl⟩⟩
-- spec.cell
def G_spec_cell (row0 : Int) (key1 : Int) (k : Int → Prop) : Prop :=
  InR (row0 * 8) ∧
  InR (2 * row0) ∧
  InR (37 + (2 * row0)) ∧
  InR (key1 + row0) ∧
  InR ((37 + (2 * row0)) * (key1 + row0)) ∧
  ((101 : Int) ≠ 0) ∧
  ((8 : Int) ≠ 0) ∧
  InR ((row0 * 8) + (Int.tmod (Int.tmod ((37 + (2 * row0)) * (key1 + row0)) 101) 8)) ∧
  k ((row0 * 8) + (Int.tmod (Int.tmod ((37 + (2 * row0)) * (key1 + row0)) 101) 8))
def S_spec_cell (row0 : Int) (key1 : Int) (k : Int → Prop) : Prop := G_spec_cell row0 key1 k
def F_spec_cell (row key : Int) (k : Int → Prop) : Prop := (0 ≤ row ∧ row ≤ 2 ∧ 0 ≤ key ∧ key ≤ 31) ∧ k (cellM row key)
theorem F_spec_cell_S {row key : Int} {k : Int → Prop} (h : F_spec_cell row key k) : S_spec_cell row key k := by
  obtain ⟨⟨h0, h1, k0, k1⟩, hk⟩ := h
  have hp := cell_prod h0 h1 k0 k1
  have hr := cellM_range h0 k0
  unfold cellM at hr
  exact ⟨inR (by omega) (by omega), inR (by omega) (by omega), inR (by omega) (by omega), inR (by omega) (by omega), inR (by omega) (by omega), by omega, by omega, inR (by omega) (by omega), hk⟩
-- spec.count
def T0_spec_count (key1 : Int) (s0 : List Int) (xn5 : Int) (xr6 : Int) (k : Int → Prop) (B0 : Int → Int → Prop) : Prop :=
  br (decide (xr6 < 3))
  (F_spec_cell xr6 key1 fun cell15 =>
    (0 ≤ cell15 ∧ cell15 < (s0.length : Int)) ∧
    InR (xr6 + 1) ∧
    B0 (if (List.getD s0 (Int.toNat cell15) (0 : Int)) < xn5 then (List.getD s0 (Int.toNat cell15) (0 : Int)) else xn5) (xr6 + 1))
  (k xn5)
def L0_spec_count (key1 : Int) (s0 : List Int) (k : Int → Prop) : Nat → Int → Int → Prop
  | 0, _, _ => False
  | n + 1, xn5, xr6 => T0_spec_count key1 s0 xn5 xr6 k (L0_spec_count key1 s0 k n)
def G_spec_count (s0 : List Int) (key1 : Int) (I0 : Int → List Int → Int → Int → Prop) : Prop :=
  I0 key1 s0 15 0
def S_spec_count (s0 : List Int) (key1 : Int) (k : Int → Prop) : Prop := G_spec_count s0 key1 (fun key1 s0 xn5 xr6 => ∃ j, L0_spec_count key1 s0 k j xn5 xr6)
def F_spec_count (s : List Int) (key : Int) (k : Int → Prop) : Prop := (VSk s ∧ 0 ≤ key ∧ key ≤ 31) ∧ k (countM s key)
theorem F_spec_count_S {s : List Int} {key : Int} {k : Int → Prop} (h : F_spec_count s key k) : S_spec_count s key k := by
  obtain ⟨⟨v, hkey⟩, hk⟩ := h
  have step : ∀ (row m : Int) (n : Nat), 0 ≤ row → row ≤ 2 → L0_spec_count key s k n (min2 (s.getD (cellM row key).toNat 0) m) (row + 1) → L0_spec_count key s k (n + 1) m row := by
    intro row m n r0 r1 next
    have hr := cellM_range (key := key) r0 hkey.1
    have hl := v.1
    rw [L0_spec_count, T0_spec_count]
    exact br_yd (by omega) ⟨⟨r0, r1, hkey⟩, ⟨by omega, by omega⟩, inR (by omega) (by omega), next⟩
  refine ⟨4, step 0 _ 3 (by omega) (by omega) (step 1 _ 2 (by omega) (by omega) (step 2 _ 1 (by omega) (by omega) ?_))⟩
  rw [L0_spec_count, T0_spec_count]
  exact br_nd (by omega) hk
-- spec.Prefers
def G_spec_Prefers (s0 : List Int) (a1 : Int) (b2 : Int) (k : Bool → Prop) : Prop :=
  F_spec_validSketch s0 fun validSketch8 =>
  br validSketch8
  (F_spec_inRange a1 (0 : Int) (31 : Int) fun inRange11 =>
    br inRange11
    (F_spec_inRange b2 (0 : Int) (31 : Int) fun inRange15 =>
      br inRange15
      (F_spec_count s0 a1 fun count20 =>
        F_spec_count s0 b2 fun count23 =>
        k (decide (count20 > count23)))
      (k false))
    (k false))
  (k false)
def S_spec_Prefers (s0 : List Int) (a1 : Int) (b2 : Int) (k : Bool → Prop) : Prop := G_spec_Prefers s0 a1 b2 k
def F_spec_Prefers (s : List Int) (a b : Int) (k : Bool → Prop) : Prop := ∀ c : Bool, (c = true ↔ VSk s ∧ (0 ≤ a ∧ a ≤ 31) ∧ (0 ≤ b ∧ b ≤ 31) ∧ countM s b < countM s a) → k c
theorem F_spec_Prefers_S {s : List Int} {a b : Int} {k : Bool → Prop} (h : F_spec_Prefers s a b k) : S_spec_Prefers s a b k := by
  have no : ¬ (VSk s ∧ (0 ≤ a ∧ a ≤ 31) ∧ (0 ≤ b ∧ b ≤ 31) ∧ countM s b < countM s a) → k false := fun hv => h false (by simp [hv])
  intro b1 hb1
  refine br_iff.2 ⟨fun e1 => ?_, fun e => no fun w => by rw [hb1.2 w.1] at e; cases e⟩
  have v := hb1.1 e1
  refine br_dec.2 ⟨fun ha => br_dec.2 ⟨fun hb => ⟨⟨v, ha⟩, ⟨v, hb⟩, h _ ?_⟩, fun hb => no fun w => hb w.2.2.1⟩, fun ha => no fun w => ha w.2.1⟩
  rw [decide_eq_true_iff]
  exact ⟨fun g => ⟨v, ha, hb, g⟩, fun w => w.2.2.2⟩
-- impl.ValidSketch
def T0_impl_ValidSketch (s0 : List Int) (xt9 : Int) (xt10 : Int) (k : Bool → Prop) (B0 : Int → Prop) : Prop :=
  br (decide (xt10 < xt9))
  ((0 ≤ xt10 ∧ xt10 < (s0.length : Int)) ∧
    br (decide ((List.getD s0 (Int.toNat xt10) (0 : Int)) < 0))
    (k false)
    (br (decide ((List.getD s0 (Int.toNat xt10) (0 : Int)) > 15))
      (k false)
      (InR (xt10 + 1) ∧
        B0 (xt10 + 1))))
  (k true)
def L0_impl_ValidSketch (s0 : List Int) (xt9 : Int) (k : Bool → Prop) : Nat → Int → Prop
  | 0, _ => False
  | n + 1, xt10 => T0_impl_ValidSketch s0 xt9 xt10 k (L0_impl_ValidSketch s0 xt9 k n)
def G_impl_ValidSketch (s0 : List Int) (k : Bool → Prop) (I0 : List Int → Int → Int → Prop) : Prop :=
  br ((s0.length : Int) != 24)
  (k false)
  (I0 s0 (s0.length : Int) 0)
def S_impl_ValidSketch (s0 : List Int) (k : Bool → Prop) : Prop := G_impl_ValidSketch s0 k (fun s0 xt9 xt10 => ∃ j, L0_impl_ValidSketch s0 xt9 k j xt10)
def F_impl_ValidSketch (s : List Int) (k : Bool → Prop) : Prop := ∀ b : Bool, (b = true ↔ VSk s) → k b
theorem F_impl_ValidSketch_S {s : List Int} {k : Bool → Prop} (h : F_impl_ValidSketch s k) : S_impl_ValidSketch s k := by
  have no : ¬ VSk s → k false := fun hv => h false (by simp [hv])
  refine br_bne.2 ⟨fun hl => no fun v => absurd (by have := v.1; omega) hl, fun hl => ?_⟩
  have key : ∀ (r : List Int) (i : Nat), s.drop i = r → (∀ x ∈ s.take i, 0 ≤ x ∧ x ≤ 15) → L0_impl_ValidSketch s (s.length : Int) k (r.length + 1) (i : Int) := by
    intro r
    induction r with
    | nil =>
      intro i hd he
      have := drop_nil' hd
      rw [List.take_of_length_le this] at he
      rw [L0_impl_ValidSketch, T0_impl_ValidSketch]
      exact br_nd (by omega) (h true (by simp only [true_iff]; exact ⟨by omega, he⟩))
    | cons x r ih =>
      intro i hd he
      obtain ⟨h1, h2, h5, h3, h4⟩ := drop_cons' hd
      have hm := List.mem_of_getElem? h5
      rw [List.length_cons, L0_impl_ValidSketch, T0_impl_ValidSketch]
      simp only [Int.toNat_natCast, h2]
      refine br_yd (by omega) ⟨⟨by omega, by omega⟩, br_dec.2 ⟨fun g => no fun v => by have := v.2 x hm; omega, fun g1 => br_dec.2 ⟨fun g => no fun v => by have := v.2 x hm; omega, fun g2 => ⟨inR (by omega) (by omega), ih (i + 1) h3 ?_⟩⟩⟩⟩
      rw [h4]; intro y hy
      rcases List.mem_append.1 hy with hy | hy
      · exact he y hy
      · rw [List.mem_singleton.1 hy]; omega
  exact ⟨_, key s 0 rfl (by simp)⟩
-- impl.validKey
def G_impl_validKey (key0 : Int) (k : Bool → Prop) : Prop :=
  br (decide (0 ≤ key0))
  (k (decide (key0 ≤ 31)))
  (k false)
def S_impl_validKey (key0 : Int) (k : Bool → Prop) : Prop := G_impl_validKey key0 k
def F_impl_validKey (n : Int) (k : Bool → Prop) : Prop := k (decide (0 ≤ n ∧ n ≤ 31))
theorem F_impl_validKey_S {n : Int} {k : Bool → Prop} (h : F_impl_validKey n k) : S_impl_validKey n k := by
  unfold F_impl_validKey at h
  simp only [S_impl_validKey, G_impl_validKey, br_dec]
  refine ⟨fun h1 => ?_, fun h1 => ?_⟩
  · simpa [h1] using h
  · simpa [h1] using h
-- impl.CellOf
def G_impl_CellOf (row0 : Int) (key1 : Int) (k : Int → Prop) : Prop :=
  br (decide (row0 < 0))
  (k (-1))
  (br (decide (row0 ≥ 3))
    (k (-1))
    (F_impl_validKey key1 fun validKey14 =>
      br (!validKey14)
      (k (-1))
      (InR (2 * row0) ∧
        InR (37 + (2 * row0)) ∧
        InR (key1 + row0) ∧
        InR ((37 + (2 * row0)) * (key1 + row0)) ∧
        ((101 : Int) ≠ 0) ∧
        InR (row0 * 8) ∧
        ((8 : Int) ≠ 0) ∧
        InR ((row0 * 8) + (Int.tmod (Int.tmod ((37 + (2 * row0)) * (key1 + row0)) 101) 8)) ∧
        k ((row0 * 8) + (Int.tmod (Int.tmod ((37 + (2 * row0)) * (key1 + row0)) 101) 8)))))
def S_impl_CellOf (row0 : Int) (key1 : Int) (k : Int → Prop) : Prop := G_impl_CellOf row0 key1 k
def F_impl_CellOf (row key : Int) (k : Int → Prop) : Prop := ((0 ≤ row ∧ row ≤ 2) ∧ 0 ≤ key ∧ key ≤ 31 → k (cellM row key)) ∧ (¬ ((0 ≤ row ∧ row ≤ 2) ∧ 0 ≤ key ∧ key ≤ 31) → k (-1))
theorem F_impl_CellOf_S {row key : Int} {k : Int → Prop} (h : F_impl_CellOf row key k) : S_impl_CellOf row key k := by
  obtain ⟨hyes, hno⟩ := h
  refine br_dec.2 ⟨fun h => hno fun w => by omega, fun h0 => br_dec.2 ⟨fun h => hno fun w => by omega, fun h1 => br_not.2 (br_dec.2 ⟨fun hk => ?_, fun hk => hno fun w => hk w.2⟩)⟩⟩
  have hp := cell_prod (row := row) (key := key) (by omega) (by omega) hk.1 hk.2
  have hr := cellM_range (row := row) (key := key) (by omega) hk.1
  unfold cellM at hr
  exact ⟨inR (by omega) (by omega), inR (by omega) (by omega), inR (by omega) (by omega), inR (by omega) (by omega), by omega, inR (by omega) (by omega), by omega, inR (by omega) (by omega), hyes ⟨⟨by omega, by omega⟩, hk⟩⟩
-- impl.CountOf
def T0_impl_CountOf (key1 : Int) (s0 : List Int) (xleast5 : Int) (xt15 : Int) (k : Int → Prop) (B0 : Int → Int → Prop) : Prop :=
  br (decide (xt15 < 3))
  (F_impl_CellOf xt15 key1 fun cellOf22 =>
    (0 ≤ cellOf22 ∧ cellOf22 < (s0.length : Int)) ∧
    InR (xt15 + 1) ∧
    B0 (if (List.getD s0 (Int.toNat cellOf22) (0 : Int)) < xleast5 then (List.getD s0 (Int.toNat cellOf22) (0 : Int)) else xleast5) (xt15 + 1))
  (k xleast5)
def L0_impl_CountOf (key1 : Int) (s0 : List Int) (k : Int → Prop) : Nat → Int → Int → Prop
  | 0, _, _ => False
  | n + 1, xleast5, xt15 => T0_impl_CountOf key1 s0 xleast5 xt15 k (L0_impl_CountOf key1 s0 k n)
def G_impl_CountOf (s0 : List Int) (key1 : Int) (k : Int → Prop) (I0 : Int → List Int → Int → Int → Prop) : Prop :=
  F_impl_ValidSketch s0 fun validSketch8 =>
  br (!validSketch8)
  (k (-1))
  (F_impl_validKey key1 fun validKey12 =>
    br (!validKey12)
    (k (-1))
    (I0 key1 s0 15 0))
def S_impl_CountOf (s0 : List Int) (key1 : Int) (k : Int → Prop) : Prop := G_impl_CountOf s0 key1 k (fun key1 s0 xleast5 xt15 => ∃ j, L0_impl_CountOf key1 s0 k j xleast5 xt15)
def F_impl_CountOf (s : List Int) (key : Int) (k : Int → Prop) : Prop := (VSk s ∧ 0 ≤ key ∧ key ≤ 31 → k (countM s key)) ∧ (¬ (VSk s ∧ 0 ≤ key ∧ key ≤ 31) → k (-1))
theorem F_impl_CountOf_S {s : List Int} {key : Int} {k : Int → Prop} (h : F_impl_CountOf s key k) : S_impl_CountOf s key k := by
  obtain ⟨hyes, hno⟩ := h
  intro b hb
  refine br_not.2 (br_iff.2 ⟨fun e => ?_, fun e => hno fun w => by rw [hb.2 w.1] at e; cases e⟩)
  have v := hb.1 e
  refine br_not.2 (br_dec.2 ⟨fun hkey => ?_, fun hkey => hno fun w => hkey w.2⟩)
  have hk := hyes ⟨v, hkey⟩
  have step : ∀ (row m : Int) (n : Nat), 0 ≤ row → row ≤ 2 → L0_impl_CountOf key s k n (min2 (s.getD (cellM row key).toNat 0) m) (row + 1) → L0_impl_CountOf key s k (n + 1) m row := by
    intro row m n r0 r1 next
    have hr := cellM_range (key := key) r0 hkey.1
    have hl := v.1
    rw [L0_impl_CountOf, T0_impl_CountOf]
    exact br_yd (by omega) (yes ⟨⟨r0, r1⟩, hkey⟩ ⟨⟨by omega, by omega⟩, inR (by omega) (by omega), next⟩)
  refine ⟨4, step 0 _ 3 (by omega) (by omega) (step 1 _ 2 (by omega) (by omega) (step 2 _ 1 (by omega) (by omega) ?_))⟩
  rw [L0_impl_CountOf, T0_impl_CountOf]
  exact br_nd (by omega) hk
-- impl.Prefers
def G_impl_Prefers (s0 : List Int) (a1 : Int) (b2 : Int) (k : Bool → Prop) : Prop :=
  F_impl_ValidSketch s0 fun validSketch8 =>
  br (!validSketch8)
  (k false)
  (F_impl_validKey a1 fun validKey12 =>
    br (!validKey12)
    (k false)
    (F_impl_validKey b2 fun validKey17 =>
      br (!validKey17)
      (k false)
      (F_impl_CountOf s0 a1 fun countOf22 =>
        F_impl_CountOf s0 b2 fun countOf25 =>
        k (decide (countOf22 > countOf25)))))
def S_impl_Prefers (s0 : List Int) (a1 : Int) (b2 : Int) (k : Bool → Prop) : Prop := G_impl_Prefers s0 a1 b2 k
def F_impl_Prefers (s : List Int) (a b : Int) (k : Bool → Prop) : Prop := ∀ c : Bool, (c = true ↔ VSk s ∧ (0 ≤ a ∧ a ≤ 31) ∧ (0 ≤ b ∧ b ≤ 31) ∧ countM s b < countM s a) → k c
theorem F_impl_Prefers_S {s : List Int} {a b : Int} {k : Bool → Prop} (h : F_impl_Prefers s a b k) : S_impl_Prefers s a b k := by
  have no : ¬ (VSk s ∧ (0 ≤ a ∧ a ≤ 31) ∧ (0 ≤ b ∧ b ≤ 31) ∧ countM s b < countM s a) → k false := fun hv => h false (by simp [hv])
  intro b1 hb1
  refine br_not.2 (br_iff.2 ⟨fun e1 => ?_, fun e => no fun w => by rw [hb1.2 w.1] at e; cases e⟩)
  have v := hb1.1 e1
  refine br_not.2 (br_dec.2 ⟨fun ha => br_not.2 (br_dec.2 ⟨fun hb => ⟨fun _ => ⟨fun _ => h _ ?_, fun c => absurd ⟨v, hb⟩ c⟩, fun c => absurd ⟨v, ha⟩ c⟩, fun hb => no fun w => hb w.2.2.1⟩), fun ha => no fun w => ha w.2.1⟩)
  rw [decide_eq_true_iff]
  exact ⟨fun g => ⟨v, ha, hb, g⟩, fun w => w.2.2.2⟩
-- laws.eqIntS
def T0_laws_eqIntS (a0 : List Int) (b1 : List Int) (xi5 : Int) (k : Bool → Prop) (B0 : Int → Prop) : Prop :=
  br (decide (xi5 < (a0.length : Int)))
  ((0 ≤ xi5 ∧ xi5 < (a0.length : Int)) ∧
    (0 ≤ xi5 ∧ xi5 < (b1.length : Int)) ∧
    br ((List.getD a0 (Int.toNat xi5) (0 : Int)) != (List.getD b1 (Int.toNat xi5) (0 : Int)))
    (k false)
    (InR (xi5 + 1) ∧
      B0 (xi5 + 1)))
  (k true)
def L0_laws_eqIntS (a0 : List Int) (b1 : List Int) (k : Bool → Prop) : Nat → Int → Prop
  | 0, _ => False
  | n + 1, xi5 => T0_laws_eqIntS a0 b1 xi5 k (L0_laws_eqIntS a0 b1 k n)
def G_laws_eqIntS (a0 : List Int) (b1 : List Int) (k : Bool → Prop) (I0 : List Int → List Int → Int → Prop) : Prop :=
  br ((a0.length : Int) != (b1.length : Int))
  (k false)
  (I0 a0 b1 0)
def S_laws_eqIntS (a0 : List Int) (b1 : List Int) (k : Bool → Prop) : Prop := G_laws_eqIntS a0 b1 k (fun a0 b1 xi5 => ∃ j, L0_laws_eqIntS a0 b1 k j xi5)
def F_laws_eqIntS (a b : List Int) (k : Bool → Prop) : Prop := a.length ≤ 1000000000 ∧ k (decide (a = b))
theorem F_laws_eqIntS_S {a b : List Int} {k : Bool → Prop} (h : F_laws_eqIntS a b k) : S_laws_eqIntS a b k := by
  obtain ⟨hl, hk⟩ := h
  refine br_bne.2 ⟨fun he => by rwa [decide_eq_false (fun e => he (by rw [e]))] at hk, fun he => ?_⟩
  have he : a.length = b.length := by omega
  have key : ∀ (r : List Int) (i : Nat), a.drop i = r → (r = b.drop i ↔ a = b) → L0_laws_eqIntS a b k (r.length + 1) (i : Int) := by
    intro r
    induction r with
    | nil =>
      intro i hd hi
      have := drop_nil' hd
      rw [L0_laws_eqIntS, T0_laws_eqIntS]
      simp only [br_dec]
      exact ⟨fun h => by omega, fun _ => by rwa [decide_eq_true (hi.1 (List.drop_eq_nil_of_le (by omega)).symm)] at hk⟩
    | cons x r ih =>
      intro i hd hi
      obtain ⟨h1, h2, _, h3, _⟩ := drop_cons' hd
      obtain ⟨y, s, hs⟩ : ∃ y s, b.drop i = y :: s := by
        cases e : b.drop i with
        | nil => have := drop_nil' e; omega
        | cons y s => exact ⟨y, s, rfl⟩
      obtain ⟨g1, g2, _, g3, _⟩ := drop_cons' hs
      rw [List.length_cons, L0_laws_eqIntS, T0_laws_eqIntS]
      simp only [br_dec, br_bne, Int.toNat_natCast, h2, g2]
      rw [hs] at hi
      refine ⟨fun _ => ⟨⟨by omega, by omega⟩, ⟨by omega, by omega⟩, ?_⟩, fun h => by omega⟩
      have go : x = y → L0_laws_eqIntS a b k (r.length + 1) ((i : Int) + 1) := fun hx => ih (i + 1) h3 (by rw [g3, ← hi, hx]; simp)
      have no : x ≠ y → k false := fun hx => by rwa [decide_eq_false (fun e => hx (List.cons.inj (hi.2 e)).1)] at hk
      exact ⟨no, fun hx => ⟨inR (by omega) (by omega), go hx⟩⟩
  exact ⟨_, key a 0 rfl (by simp)⟩
-- laws.FnExactPrefers
def G_laws_FnExactPrefers (aS0 : List Int) (aA1 : Int) (aB2 : Int) (k : Bool → Prop) : Prop :=
  br (decide ((aS0.length : Int) > 1048576))
  (k true)
  (F_laws_toIntS aS0 fun toIntS14 =>
    F_spec_Prefers toIntS14 aA1 aB2 fun prefers17 =>
    F_laws_toIntS aS0 fun toIntS19 =>
    F_impl_Prefers toIntS19 aA1 aB2 fun prefers23 =>
    br (!(prefers23 == prefers17))
    (k false)
    (F_laws_toIntS aS0 fun toIntS29 =>
      F_laws_eqIntS toIntS19 toIntS29 fun eqIntS30 =>
      br (!eqIntS30)
      (k false)
      (k true)))
def S_laws_FnExactPrefers (aS0 : List Int) (aA1 : Int) (aB2 : Int) (k : Bool → Prop) : Prop := G_laws_FnExactPrefers aS0 aA1 aB2 k
abbrev F_laws_FnExactPrefers (aS0 : List Int) (aA1 : Int) (aB2 : Int) (k : Bool → Prop) : Prop := S_laws_FnExactPrefers aS0 aA1 aB2 k
theorem F_laws_FnExactPrefers_S {aS0 : List Int} {aA1 : Int} {aB2 : Int} {k : Bool → Prop} (h : F_laws_FnExactPrefers aS0 aA1 aB2 k) : S_laws_FnExactPrefers aS0 aA1 aB2 k := h
theorem law_FnExactPrefers (s : List Int) (ls : s.length ≤ maxLen) (rs : ∀ x ∈ s, InR x) (a : Int) (ra : InR a) (b : Int) (rb : InR b) :
    F_laws_FnExactPrefers s a b (fun r => r = true) := by
  refine br_dec.2 ⟨fun _ => rfl, fun t0 => ?_⟩
  have ms : s.length ≤ 1000000000 := by omega
  exact ⟨ms, (fun b0 hb0 => ⟨ms, (fun b1 hb1 => pred_same hb1 hb0 (⟨ms, ms, br_de (rfl)⟩))⟩)⟩
end Go.Ev
