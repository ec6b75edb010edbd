/- What the functions that the law reaches do, written as plain Lean. No statement is proved here. -/
import Derived.Test.YtnkmhjdenddpbacEvT
namespace Go.Ev
set_option linter.unusedVariables false
open Go
theorem br_iff {b : Bool} {A B : Prop} : br b A B ↔ (b = true → A) ∧ (b = false → B) := by cases b <;> simp [br]
theorem br_dec {p : Prop} [Decidable p] {A B : Prop} : br (decide p) A B ↔ (p → A) ∧ (¬ p → B) := by rw [br_iff]; simp
theorem br_beq {a b : Int} {A B : Prop} : br (a == b) A B ↔ (a = b → A) ∧ (a ≠ b → B) := by rw [br_iff]; simp
theorem br_bne {a b : Int} {A B : Prop} : br (a != b) A B ↔ (a ≠ b → A) ∧ (a = b → B) := by rw [br_iff]; simp
theorem br_not {b : Bool} {A B : Prop} : br (!b) A B ↔ br b B A := by cases b <;> simp [br]
theorem inR {x : Int} (h1 : -9223372036854775808 ≤ x) (h2 : x ≤ 9223372036854775807) : InR x := ⟨h1, h2⟩

section lists
variable {α : Type}
theorem drop_nil' {l : List α} {i : Nat} (h : l.drop i = []) : l.length ≤ i := by simpa using h
theorem drop_cons' {l : List α} {i : Nat} {x : α} {r : List α} (h : l.drop i = x :: r) : i < l.length ∧ (∀ d, l.getD i d = x) ∧ l[i]? = some x ∧ l.drop (i + 1) = r ∧ l.take (i + 1) = l.take i ++ [x] := by
  have hlt : i < l.length := by
    rcases Nat.lt_or_ge i l.length with h1 | h1
    · exact h1
    · rw [List.drop_eq_nil_of_le h1] at h; cases h
  have h2 := List.drop_eq_getElem_cons hlt
  rw [h] at h2
  injection h2 with h3 h4
  have h5 : l[i]? = some x := by rw [List.getElem?_eq_getElem hlt, h3]
  exact ⟨hlt, fun d => by simp [List.getD, h5], h5, h4.symm, by rw [List.take_succ_eq_append_getElem hlt, h3]⟩
end lists

/-- The place of a number, or -1. -/
def plcF : List Int → Int → Nat → Int
  | [], _, _ => -1
  | x :: r, n, i => if x = n then (i : Int) else plcF r n (i + 1)
def plc (l : List Int) (n : Int) : Int := plcF l n 0
theorem plcF_spec : ∀ (l : List Int) (n : Int) (i : Nat), (n ∉ l ∧ plcF l n i = -1) ∨ ∃ j, j < l.length ∧ l[j]? = some n ∧ (∀ q, q < j → l[q]? ≠ some n) ∧ plcF l n i = ((i + j : Nat) : Int)
  | [], n, i => .inl ⟨by simp, rfl⟩
  | x :: r, n, i => by
    by_cases h : x = n
    · subst h
      exact .inr ⟨0, by simp, rfl, fun q hq => by omega, by simp [plcF]⟩
    · rcases plcF_spec r n (i + 1) with ⟨h1, h2⟩ | ⟨j, h1, h2, h3, h4⟩
      · exact .inl ⟨by simp [Ne.symm h, h1], by simp [plcF, h, h2]⟩
      · refine .inr ⟨j + 1, by simp; omega, by simpa using h2, fun q hq => ?_, ?_⟩
        · cases q with
          | zero => simpa using h
          | succ q => simpa using h3 q (by omega)
        · simp only [plcF, h, if_false, h4]; omega
theorem plc_spec (l : List Int) (n : Int) : (n ∉ l ∧ plc l n = -1) ∨ ∃ j : Nat, j < l.length ∧ l[j]? = some n ∧ (∀ q, q < j → l[q]? ≠ some n) ∧ plc l n = (j : Int) := by
  have := plcF_spec l n 0
  simpa [plc] using this
theorem plc_pos {l : List Int} {n : Int} (h : n ∈ l) : ∃ j : Nat, j < l.length ∧ l[j]? = some n ∧ (∀ q, q < j → l[q]? ≠ some n) ∧ plc l n = (j : Int) := by
  rcases plc_spec l n with ⟨h1, _⟩ | h2
  · exact absurd h h1
  · exact h2
theorem plc_ge {l : List Int} {n : Int} : plc l n ≥ 0 ↔ n ∈ l := by
  rcases plc_spec l n with ⟨h1, h2⟩ | ⟨j, h1, h2, _, h3⟩
  · rw [h2]; simp [h1]
  · rw [h3]; simp [List.mem_of_getElem? h2]
/-- Valid keys. -/
def VKeys (l : List Int) (room : Int) : Prop := 1 ≤ room ∧ room ≤ 8 ∧ (l.length : Int) ≤ room ∧ (∀ x ∈ l, 0 ≤ x ∧ x ≤ 31) ∧ l.Nodup
def Bs (b : List Int) : Prop := b.length ≤ 2000 ∧ ∀ x ∈ b, 0 ≤ x ∧ x ≤ 255
theorem Bs.get {b : List Int} (h : Bs b) (i : Nat) : 0 ≤ b.getD i 0 ∧ b.getD i 0 ≤ 255 := by
  rcases Nat.lt_or_ge i b.length with hi | hi
  · have hx : b[i]? = some (b.getD i 0) := by simp [List.getD, hi]
    exact h.2 _ (List.mem_of_getElem? hx)
  · simp [List.getD, List.getElem?_eq_none hi]
def rmK (l : List Int) (key : Int) : List Int := l.filter (fun x => x != key)
def recM (l : List Int) (room key : Int) : List Int := (key :: rmK l key).take room.toNat
theorem mem_rmK {l : List Int} {key x : Int} : x ∈ rmK l key ↔ x ∈ l ∧ x ≠ key := by simp [rmK]
theorem rmK_not {l : List Int} {key : Int} (h : key ∉ l) : rmK l key = l := by
  unfold rmK
  rw [List.filter_eq_self]
  intro x hx
  have : x ≠ key := fun e => h (e ▸ hx)
  simpa using this
theorem rmK_nodup {l : List Int} {key : Int} (h : l.Nodup) : (rmK l key).Nodup := List.Pairwise.filter _ h
theorem rmK_le {l : List Int} {key : Int} : (rmK l key).length ≤ l.length := List.length_filter_le _ _
theorem rmK_cons_ne {l : List Int} {key x : Int} (h : x ≠ key) : rmK (x :: l) key = x :: rmK l key := by
  unfold rmK; rw [List.filter_cons_of_pos (by simpa using h)]
theorem rmK_cons_eq {l : List Int} {key : Int} : rmK (key :: l) key = rmK l key := by
  unfold rmK; rw [List.filter_cons_of_neg (by simp)]
theorem rmK_erase : ∀ {l : List Int} {key : Int} {j : Nat}, l.Nodup → l[j]? = some key → l.take j ++ l.drop (j + 1) = rmK l key
  | [], _, _, _, h => by simp at h
  | x :: r, key, 0, hn, h => by
    have e : x = key := by simpa using h
    subst e
    rw [rmK_cons_eq, rmK_not (List.nodup_cons.1 hn).1]; rfl
  | x :: r, key, j + 1, hn, h => by
    have h' : r[j]? = some key := by simpa using h
    have hne : x ≠ key := fun e => (List.nodup_cons.1 hn).1 (e ▸ List.mem_of_getElem? h')
    rw [rmK_cons_ne hne, ← rmK_erase (List.nodup_cons.1 hn).2 h']; rfl
theorem rmK_len {l : List Int} {key : Int} (hn : l.Nodup) (h : key ∈ l) : (rmK l key).length + 1 = l.length := by
  obtain ⟨j, hj, he⟩ := List.getElem_of_mem h
  have h2 : l[j]? = some key := by rw [List.getElem?_eq_getElem hj, he]
  rw [← rmK_erase hn h2]; simp; omega
theorem take_nodup {l : List Int} {n : Nat} (h : l.Nodup) : (l.take n).Nodup := List.Pairwise.sublist (List.take_sublist n l) h
theorem recM_hit {l : List Int} {room key : Int} (hn : l.Nodup) (hl : (l.length : Int) ≤ room) (h : key ∈ l) : recM l room key = key :: rmK l key := by
  have := rmK_len hn h
  exact List.take_of_length_le (by simp; omega)
theorem recM_valid {l : List Int} {room key : Int} (v : VKeys l room) (hk : 0 ≤ key ∧ key ≤ 31) : VKeys (recM l room key) room := by
  obtain ⟨v1, v2, v3, v4, v5⟩ := v
  refine ⟨v1, v2, by simp only [recM, List.length_take]; omega, fun x hx => ?_, take_nodup ?_⟩
  · rcases List.mem_cons.1 (List.mem_of_mem_take hx) with rfl | h
    · exact hk
    · exact v4 x (mem_rmK.1 h).1
  · exact List.nodup_cons.2 ⟨fun h => (mem_rmK.1 h).2 rfl, rmK_nodup v5⟩
def VSegs (trial safe : Int) (new old : List Int) : Prop := VKeys new trial ∧ VKeys old safe ∧ ∀ x ∈ new, x ∉ old
theorem all_t {P : Prop} {k : Bool → Prop} (p : P) (h : k true) : ∀ b : Bool, (b = true ↔ P) → k b := fun b hb => by rw [hb.2 p]; exact h
theorem br_nt {A B : Prop} (h : B) : br (!true) A B := h
theorem br_nf {A B : Prop} (h : A) : br (!false) A B := h
theorem br_same' {b : Int} {A B : Prop} (h : B) : br (b != b) A B := by rw [bne_self_eq_false]; exact h
theorem some_of {l : List Int} {i : Nat} {d : Int} (h : i < l.length) : l[i]? = some (l.getD i d) := by
  rw [List.getD_eq_getElem?_getD, List.getElem?_eq_getElem h]; rfl
def VTrace (t : List Int) : Prop := t.length ≤ 24 ∧ ∀ x ∈ t, 0 ≤ x ∧ x ≤ 31
def toI (b : Bool) : Int := if b then 1 else 0
theorem toI_01 (b : Bool) : 0 ≤ toI b ∧ toI b ≤ 1 := by cases b <;> decide
theorem br_de {α : Type} [DecidableEq α] {a : α} {A B : Prop} (h : B) : br (!decide (a = a)) A B := by rw [decide_eq_true rfl]; exact h
theorem mem_getD {l : List Int} {i : Nat} (h : i < l.length) : l.getD i 0 ∈ l := List.mem_of_getElem? (some_of h)
theorem segs0 {trial safe : Int} (h : 1 ≤ trial ∧ trial ≤ 8) (g : 1 ≤ safe ∧ safe ≤ 8) : VSegs trial safe [] [] :=
  ⟨⟨h.1, h.2, by simp; omega, by simp, by simp⟩, ⟨g.1, g.2, by simp; omega, by simp, by simp⟩, by simp⟩
theorem take_set_succ {α : Type} {l : List α} {i : Nat} {x : α} (h : i < l.length) : (l.set i x).take (i + 1) = l.take i ++ [x] := by
  rw [List.take_succ_eq_append_getElem (by simpa using h), List.take_set_of_le (Nat.le_refl _)]; simp
def seqI (k : Int) : Nat → List Int
  | 0 => []
  | n + 1 => seqI k n ++ [k + (n : Int)]
theorem seqI_snoc (k : Int) (n : Nat) : seqI k (n + 1) = seqI k n ++ [k + (n : Int)] := rfl
theorem seqI_len (k : Int) : ∀ n, (seqI k n).length = n
  | 0 => rfl
  | n + 1 => by rw [seqI_snoc, List.length_append, seqI_len k n]; rfl
theorem seqI_get {k : Int} : ∀ {n i : Nat}, i < n → (seqI k n).getD i 0 = k + (i : Int)
  | n + 1, i, h => by
    rw [seqI_snoc, List.getD_eq_getElem?_getD]
    by_cases e : i < n
    · rw [List.getElem?_append_left (by rw [seqI_len]; exact e), ← List.getD_eq_getElem?_getD]; exact seqI_get e
    · have : i = n := by omega
      subst this
      rw [List.getElem?_append_right (by rw [seqI_len]; exact Nat.le_refl _), seqI_len]; simp
theorem br_lt0 {x : Int} {A B : Prop} (hx : 0 ≤ x) (h : B) : br (decide (x < 0)) A B := br_dec.2 ⟨fun g => by omega, fun _ => h⟩
theorem vkeys_len {l : List Int} {room : Int} (v : VKeys l room) : l.length ≤ 8 := by
  have := v.2.1; have := v.2.2.1; omega

def usedR : List Int → List Int → List Int
  | D, [] => D
  | D, x :: r => usedR (x :: rmK D x) r
abbrev Ent := Int × Int × Int
def Rar (a b : Ent) : Prop := a.2.1 < b.2.1 ∨ a.2.1 = b.2.1 ∧ a.2.2 < b.2.2
instance (a b : Ent) : Decidable (Rar a b) := by unfold Rar; infer_instance
theorem Rar.trans {a b c : Ent} (h : Rar a b) (g : Rar b c) : Rar a c := by unfold Rar at *; omega
structure AL where
  t : Int
  o : List Int
  f : List Int
  wo : List Int
  wf : List Int
def knownL (a : AL) (key : Int) : Prop := key ∈ a.o ∨ key ∈ a.f ∨ key ∈ a.wf ∨ key ∈ a.wo
instance (a : AL) (key : Int) : Decidable (knownL a key) := by unfold knownL; infer_instance
/-- `Can room r C n`: with a cache `C` before the keys `r`, `n` hits are possible. -/
def Can (room : Nat) : List Int → List Int → Nat → Prop
  | [], _, n => n = 0
  | k :: r, C, n => ∃ D m, D.Nodup ∧ D.length ≤ room ∧ k ∈ D ∧ (∀ x ∈ D, x = k ∨ x ∈ C) ∧ Can room r D m ∧ n ≤ m + (if k ∈ C then 1 else 0)
theorem Can.zero {room : Nat} (h : 1 ≤ room) : ∀ {r C : List Int}, Can room r C 0
  | [], _ => rfl
  | k :: r, C => ⟨[k], 0, by simp, by simpa using h, by simp, fun x hx => .inl (List.mem_singleton.1 hx), Can.zero h, by omega⟩
/-- How many different keys a trace has. -/
def nk (t : List Int) : Nat := (usedR [] t).length
theorem len_add {D : List Int} (hn : D.Nodup) (k : Int) : (k :: rmK D k).length = D.length + if k ∈ D then 0 else 1 := by
  rw [List.length_cons]
  split
  · rename_i h; exact rmK_len hn h
  · rename_i h; rw [rmK_not h]
/-- New keys are never there. -/
theorem can_new {room : Nat} : ∀ {r C D : List Int} {n : Nat}, Can room r C n → (∀ x ∈ C, x ∈ D) → D.Nodup → n + (usedR D r).length ≤ r.length + D.length
  | [], C, D, n, h, _, _ => by simp only [Can] at h; subst h; simp [usedR]
  | k :: r, C, D, n, ⟨E, m, h1, h2, h3, h4, h5, h6⟩, hs, hn => by
    have h7 := can_new (D := k :: rmK D k) h5 (fun x hx => by
      by_cases e : x = k
      · rw [e]; simp
      · exact List.mem_cons_of_mem _ (mem_rmK.2 ⟨hs x ((h4 x hx).resolve_left e), e⟩)) (List.nodup_cons.2 ⟨fun h => (mem_rmK.1 h).2 rfl, rmK_nodup hn⟩)
    rw [len_add hn] at h7
    rw [usedR, List.length_cons]
    by_cases hk : k ∈ C
    · rw [if_pos hk] at h6; rw [if_pos (hs k hk)] at h7; omega
    · rw [if_neg hk] at h6
      split at h7 <;> omega
/-- What a policy does to the keys of its cache: never more than `cap`, and while fewer than `free` are there, none leaves. -/
def Runs (cap free : Nat) : List Int → List Int → List Int → Nat → Prop
  | [], C, E, n => E = C ∧ n = 0
  | k :: r, C, E, n => ∃ D m, D.Nodup ∧ D.length ≤ cap ∧ k ∈ D ∧ (∀ x ∈ D, x = k ∨ x ∈ C) ∧ ((k ∈ C ∨ C.length < free) → ∀ x ∈ C, x ∈ D) ∧ (k ∉ C → free ≤ C.length → free ≤ D.length) ∧
      Runs cap free r D E m ∧ n = m + (if k ∈ C then 1 else 0)
theorem Runs.can {cap free : Nat} : ∀ {r C E : List Int} {n : Nat}, Runs cap free r C E n → Can cap r C n
  | [], _, _, _, h => h.2
  | k :: r, C, E, n, ⟨D, m, h1, h2, h3, h4, _, _, h7, h8⟩ => ⟨D, m, h1, h2, h3, h4, h7.can, by omega⟩
theorem Runs.new {cap free : Nat} {t E : List Int} {n : Nat} (h : Runs cap free t [] E n) : n + nk t ≤ t.length := by
  have := can_new (D := []) h.can (by simp) (by simp)
  simpa [nk] using this
/-- What a step of a policy keeps. -/
def StepK (cap free : Nat) (C D : List Int) (k : Int) : Prop :=
  D.Nodup ∧ D.length ≤ cap ∧ k ∈ D ∧ (∀ x ∈ D, x = k ∨ x ∈ C) ∧ ((k ∈ C ∨ C.length < free) → ∀ x ∈ C, x ∈ D) ∧ (k ∉ C → free ≤ C.length → free ≤ D.length)
theorem Runs.step {cap free : Nat} {k : Int} {r C D E : List Int} {m : Nat} (h : StepK cap free C D k) (g : Runs cap free r D E m) : Runs cap free (k :: r) C E (m + if k ∈ C then 1 else 0) :=
  ⟨D, m, h.1, h.2.1, h.2.2.1, h.2.2.2.1, h.2.2.2.2.1, h.2.2.2.2.2, g, rfl⟩
theorem yes {P A B : Prop} (v : P) (h : A) : (P → A) ∧ (¬ P → B) := ⟨fun _ => h, fun c => absurd v c⟩
theorem br_yd {p : Prop} [Decidable p] {A B : Prop} (h : p) (g : A) : br (decide p) A B := br_dec.2 ⟨fun _ => g, fun c => absurd h c⟩
theorem br_nd {p : Prop} [Decidable p] {A B : Prop} (h : ¬ p) (g : B) : br (decide p) A B := br_dec.2 ⟨fun c => absurd c h, fun _ => g⟩
theorem br_ye {a b : Int} {A B : Prop} (h : a = b) (g : A) : br (a == b) A B := br_beq.2 ⟨fun _ => g, fun c => absurd h c⟩
theorem br_ne {a b : Int} {A B : Prop} (h : a ≠ b) (g : B) : br (a == b) A B := br_beq.2 ⟨fun c => absurd c h, fun _ => g⟩
theorem take_get {t : List Int} {i : Nat} (h : i < t.length) : t.take (i + 1) = t.take i ++ [t.getD i 0] := by
  rw [List.take_add_one, some_of (d := 0) h]; rfl
theorem set_mid {α : Type} {a r : List α} {x y : α} {i : Nat} (h : a.length = i) : (a ++ x :: r).set i y = a ++ y :: r := by
  rw [← h]; simp
def VSk (s : List Int) : Prop := s.length = 24 ∧ ∀ x ∈ s, 0 ≤ x ∧ x ≤ 15
def cellM (row key : Int) : Int := row * 8 + Int.tmod (Int.tmod ((37 + 2 * row) * (key + row)) 101) 8
theorem cellM_range {row key : Int} (h0 : 0 ≤ row) (k0 : 0 ≤ key) : row * 8 ≤ cellM row key ∧ cellM row key < row * 8 + 8 := by
  have h1 : 0 ≤ (37 + 2 * row) * (key + row) := Int.mul_nonneg (by omega) (by omega)
  have h2 := Int.tmod_nonneg 101 h1
  have h3 := Int.tmod_nonneg 8 h2
  have h4 := Int.tmod_lt_of_pos (Int.tmod ((37 + 2 * row) * (key + row)) 101) (show (0 : Int) < 8 by omega)
  unfold cellM; omega
theorem cell_prod {row key : Int} (h0 : 0 ≤ row) (h1 : row ≤ 2) (k0 : 0 ≤ key) (k1 : key ≤ 31) : 0 ≤ (37 + 2 * row) * (key + row) ∧ (37 + 2 * row) * (key + row) ≤ 2000 := by
  have : row = 0 ∨ row = 1 ∨ row = 2 := by omega
  rcases this with h | h | h <;> subst h <;> omega
def up15 (x : Int) : Int := if 15 < x + 1 then 15 else x + 1
theorem up15_range {x : Int} (h : 0 ≤ x ∧ x ≤ 15) : 0 ≤ up15 x ∧ up15 x ≤ 15 ∧ x ≤ up15 x := by unfold up15; split <;> omega
def bumpM (s : List Int) (c : Int) : List Int := s.set c.toNat (up15 (s.getD c.toNat 0))
theorem VSk.get {s : List Int} (v : VSk s) (i : Nat) : 0 ≤ s.getD i 0 ∧ s.getD i 0 ≤ 15 := by
  by_cases h : i < s.length
  · exact v.2 _ (mem_getD h)
  · rw [List.getD_eq_getElem?_getD, List.getElem?_eq_none (by omega)]; simp
theorem VSk.bump {s : List Int} (v : VSk s) (c : Int) : VSk (bumpM s c) := by
  refine ⟨by unfold bumpM; rw [List.length_set]; exact v.1, fun x hx => ?_⟩
  rcases List.mem_or_eq_of_mem_set hx with h | h
  · exact v.2 x h
  · rw [h]; have := up15_range (v.get c.toNat); omega
def addM (s : List Int) (key : Int) : List Int := bumpM (bumpM (bumpM s (cellM 0 key)) (cellM 1 key)) (cellM 2 key)
theorem VSk.add {s : List Int} (v : VSk s) (key : Int) : VSk (addM s key) := ((v.bump _).bump _).bump _
def min2 (a b : Int) : Int := if a < b then a else b
def countM (s : List Int) (key : Int) : Int := min2 (s.getD (cellM 2 key).toNat 0) (min2 (s.getD (cellM 1 key).toNat 0) (min2 (s.getD (cellM 0 key).toNat 0) 15))
theorem VSk.count {s : List Int} (v : VSk s) (key : Int) : 0 ≤ countM s key ∧ countM s key ≤ 15 := by
  have h0 := v.get (cellM 0 key).toNat
  have h1 := v.get (cellM 1 key).toNat
  have h2 := v.get (cellM 2 key).toNat
  unfold countM min2
  repeat' split
  all_goals omega
def halveM (s : List Int) : List Int := s.map fun x => Int.tdiv x 2
theorem half_range {x : Int} (h : 0 ≤ x ∧ x ≤ 15) : 0 ≤ Int.tdiv x 2 ∧ Int.tdiv x 2 ≤ 15 := by
  have h1 : 0 ≤ Int.tdiv x 2 := Int.tdiv_nonneg h.1 (by omega)
  have h2 : Int.tdiv x 2 ≤ x := Int.tdiv_le_self _ h.1
  omega
theorem VSk.halve {s : List Int} (v : VSk s) : VSk (halveM s) := by
  refine ⟨by unfold halveM; rw [List.length_map]; exact v.1, fun x hx => ?_⟩
  obtain ⟨y, hy, e⟩ := List.mem_map.1 hx
  rw [← e]; exact half_range (v.2 y hy)
def emptyM : List Int := List.replicate 24 0
theorem emptyM_valid : VSk emptyM := ⟨rfl, fun x hx => by rw [List.eq_of_mem_replicate hx]; omega⟩
structure GT where
  (n m s : List Int) (a : Int)
def VGate (w r : Int) (g : GT) : Prop := VSegs w r g.n g.m ∧ VSk g.s ∧ 0 ≤ g.a ∧ g.a ≤ 15
def learnM (s : List Int) (a key : Int) : List Int × Int := if a + 1 = 16 then (halveM (addM s key), 0) else (addM s key, a + 1)
theorem learnM_valid {s : List Int} {a key : Int} (v : VSk s) (ha : 0 ≤ a ∧ a ≤ 15) : VSk (learnM s a key).1 ∧ 0 ≤ (learnM s a key).2 ∧ (learnM s a key).2 ≤ 15 := by
  unfold learnM
  split
  · exact ⟨(v.add key).halve, by simp, by simp⟩
  · exact ⟨v.add key, by simp; omega, by simp; omega⟩
def passM (w r : Int) (new main s : List Int) (key : Int) : List Int × List Int × Bool :=
  if key ∈ main then (new, key :: rmK main key, true)
  else if key ∈ new then (key :: rmK new key, main, true)
  else if (new.length : Int) + 1 ≤ w then (key :: new, main, false)
  else if (main.length : Int) < r then ((key :: new).take w.toNat, (key :: new).getD w.toNat 0 :: main, false)
  else if countM s ((key :: new).getD w.toNat 0) > countM s (main.getD (main.length - 1) 0) then ((key :: new).take w.toNat, (key :: new).getD w.toNat 0 :: main.take (main.length - 1), false)
  else ((key :: new).take w.toNat, main, false)
def gateM (w r : Int) (g : GT) (key : Int) : GT × Bool :=
  (⟨(passM w r g.n g.m (learnM g.s g.a key).1 key).1, (passM w r g.n g.m (learnM g.s g.a key).1 key).2.1, (learnM g.s g.a key).1, (learnM g.s g.a key).2⟩, (passM w r g.n g.m (learnM g.s g.a key).1 key).2.2)
def runG (w r : Int) : List Int → GT → Int → GT × Int
  | [], g, n => (g, n)
  | k :: t, g, n => runG w r t (gateM w r g k).1 (n + toI (gateM w r g k).2)
theorem snoc_of {l : List Int} (h : l.length ≠ 0) : ∃ u x, l = u ++ [x] := by
  rcases List.eq_nil_or_concat l with e | ⟨u, x, e⟩
  · rw [e] at h; simp at h
  · exact ⟨u, x, by rw [e, List.concat_eq_append]⟩
theorem take_full {u : List Int} {key x w : Int} (h : ((u ++ [x]).length : Int) = w) : (key :: (u ++ [x])).take w.toNat = key :: u ∧ (key :: (u ++ [x])).getD w.toNat 0 = x := by
  have e : w.toNat = u.length + 1 := by simp at h; omega
  rw [e]
  exact ⟨by simp, by simp [List.getD_eq_getElem?_getD]⟩
theorem last_snoc {m : List Int} {y : Int} : (m ++ [y]).getD ((m ++ [y]).length - 1) 0 = y ∧ (m ++ [y]).take ((m ++ [y]).length - 1) = m := by
  have e : (m ++ [y]).length - 1 = m.length := by simp
  rw [e]
  exact ⟨by simp [List.getD_eq_getElem?_getD], by simp⟩
theorem vkeys_hit {l : List Int} {room key : Int} (v : VKeys l room) (h : key ∈ l) (hk : 0 ≤ key ∧ key ≤ 31) : VKeys (key :: rmK l key) room := by
  rw [← recM_hit v.2.2.2.2 v.2.2.1 h]; exact recM_valid v hk
/-- The ways of a gate. -/
theorem passM_cases {w r : Int} {new main s : List Int} {key : Int} (v : VSegs w r new main) :
    (key ∈ main ∧ passM w r new main s key = (new, key :: rmK main key, true)) ∨
    (key ∉ main ∧ key ∈ new ∧ passM w r new main s key = (key :: rmK new key, main, true)) ∨
    (key ∉ main ∧ key ∉ new ∧ (new.length : Int) + 1 ≤ w ∧ passM w r new main s key = (key :: new, main, false)) ∨
    (key ∉ main ∧ key ∉ new ∧ ∃ u x, new = u ++ [x] ∧ (new.length : Int) = w ∧
      (((main.length : Int) < r ∧ passM w r new main s key = (key :: u, x :: main, false)) ∨
       ((main.length : Int) = r ∧ ∃ m y, main = m ++ [y] ∧ ((countM s x > countM s y ∧ passM w r new main s key = (key :: u, x :: m, false)) ∨ (¬ countM s x > countM s y ∧ passM w r new main s key = (key :: u, main, false)))))) := by
  unfold passM
  by_cases h1 : key ∈ main
  · exact .inl ⟨h1, if_pos h1⟩
  · right
    rw [if_neg h1]
    by_cases h2 : key ∈ new
    · exact .inl ⟨h1, h2, if_pos h2⟩
    · right
      rw [if_neg h2]
      by_cases h3 : (new.length : Int) + 1 ≤ w
      · exact .inl ⟨h1, h2, h3, if_pos h3⟩
      · right
        rw [if_neg h3]
        have n3 := v.1.2.2.1
        have n1 := v.1.1
        obtain ⟨u, x, e⟩ := snoc_of (l := new) (by omega)
        refine ⟨h1, h2, u, x, e, by omega, ?_⟩
        have hf := take_full (u := u) (key := key) (x := x) (w := w) (by rw [← e]; omega)
        rw [e, hf.1, hf.2]
        by_cases h4 : (main.length : Int) < r
        · exact .inl ⟨h4, if_pos h4⟩
        · right
          rw [if_neg h4]
          have m3 := v.2.1.2.2.1
          have m1 := v.2.1.1
          obtain ⟨m, y, e2⟩ := snoc_of (l := main) (by omega)
          refine ⟨by omega, m, y, e2, ?_⟩
          have hg := last_snoc (m := m) (y := y)
          rw [e2, hg.1, hg.2]
          by_cases h5 : countM s x > countM s y
          · exact .inl ⟨h5, if_pos h5⟩
          · exact .inr ⟨h5, if_neg h5⟩
theorem vkeys_cons {u : List Int} {x key room : Int} (v : VKeys (u ++ [x]) room) (h : key ∉ u ++ [x]) (hk : 0 ≤ key ∧ key ≤ 31) : VKeys (key :: u) room := by
  obtain ⟨a, b, c, d, e⟩ := v
  rw [List.nodup_append] at e
  refine ⟨a, b, by simp at c ⊢; omega, fun y hy => ?_, List.nodup_cons.2 ⟨fun g => h (List.mem_append_left _ g), e.1⟩⟩
  rcases List.mem_cons.1 hy with g | g
  · rw [g]; exact hk
  · exact d y (List.mem_append_left _ g)
theorem vkeys_new {l : List Int} {x room : Int} (v : VKeys l room) (h : x ∉ l) (hl : (l.length : Int) < room) (hk : 0 ≤ x ∧ x ≤ 31) : VKeys (x :: l) room := by
  obtain ⟨a, b, c, d, e⟩ := v
  refine ⟨a, b, by simp; omega, fun y hy => ?_, List.nodup_cons.2 ⟨h, e⟩⟩
  rcases List.mem_cons.1 hy with g | g
  · rw [g]; exact hk
  · exact d y g
theorem snoc_out {u : List Int} {x : Int} (h : (u ++ [x]).Nodup) : x ∉ u := by
  rw [List.nodup_append] at h
  exact fun g => h.2.2 x g x (by simp) rfl
theorem passM_valid {w r : Int} {new main s : List Int} {key : Int} (v : VSegs w r new main) (hk : 0 ≤ key ∧ key ≤ 31) :
    VSegs w r (passM w r new main s key).1 (passM w r new main s key).2.1 := by
  obtain ⟨vn, vm, vd⟩ := id v
  rcases passM_cases (s := s) (key := key) v with ⟨h1, e⟩ | ⟨h1, h2, e⟩ | ⟨h1, h2, h3, e⟩ | ⟨h1, h2, u, x, hu, hl, h⟩
  · rw [e]
    refine ⟨vn, vkeys_hit vm h1 hk, fun y hy h2 => ?_⟩
    rcases List.mem_cons.1 h2 with g | g
    · rw [g] at hy; exact vd _ hy h1
    · exact vd y hy (mem_rmK.1 g).1
  · rw [e]
    refine ⟨vkeys_hit vn h2 hk, vm, fun y hy h3 => ?_⟩
    rcases List.mem_cons.1 hy with g | g
    · rw [g] at h3; exact h1 h3
    · exact vd y (mem_rmK.1 g).1 h3
  · rw [e]
    refine ⟨vkeys_new vn h2 (by omega) hk, vm, fun y hy h4 => ?_⟩
    rcases List.mem_cons.1 hy with g | g
    · rw [g] at h4; exact h1 h4
    · exact vd y g h4
  · subst hu
    have hxn := snoc_out vn.2.2.2.2
    have hxm : x ∉ main := vd x (by simp)
    have hxr : 0 ≤ x ∧ x ≤ 31 := vn.2.2.2.1 x (by simp)
    have hkx : key ≠ x := fun c => h2 (by rw [c]; simp)
    have vn2 := vkeys_cons vn h2 hk
    have hdis : ∀ y ∈ key :: u, y ≠ x ∧ y ∉ main := fun y hy => by
      rcases List.mem_cons.1 hy with g | g
      · rw [g]; exact ⟨hkx, h1⟩
      · exact ⟨fun c => hxn (c ▸ g), vd y (List.mem_append_left _ g)⟩
    rcases h with ⟨h4, e⟩ | ⟨h4, m, y, hm, h⟩
    · rw [e]
      refine ⟨vn2, vkeys_new vm hxm h4 hxr, fun z hz hz2 => ?_⟩
      rcases List.mem_cons.1 hz2 with g | g
      · exact (hdis z hz).1 g
      · exact (hdis z hz).2 g
    · rcases h with ⟨h5, e⟩ | ⟨h5, e⟩
      · rw [e]
        subst hm
        refine ⟨vn2, vkeys_cons vm hxm hxr, fun z hz hz2 => ?_⟩
        rcases List.mem_cons.1 hz2 with g | g
        · exact (hdis z hz).1 g
        · exact (hdis z hz).2 (List.mem_append_left _ g)
      · rw [e]
        exact ⟨vn2, vm, fun z hz hz2 => (hdis z hz).2 hz2⟩
theorem gateM_valid {w r : Int} {g : GT} {key : Int} (v : VGate w r g) (hk : 0 ≤ key ∧ key ≤ 31) : VGate w r (gateM w r g key).1 :=
  ⟨passM_valid v.1 hk, learnM_valid v.2.1 v.2.2⟩
theorem gate0 {w r : Int} (h : 1 ≤ w ∧ w ≤ 8) (g : 1 ≤ r ∧ r ≤ 8) : VGate w r ⟨[], [], emptyM, 0⟩ := ⟨segs0 h g, emptyM_valid, by simp, by simp⟩
theorem runG_valid {w r : Int} : ∀ (t : List Int) (g : GT) (n : Int), VGate w r g → (∀ x ∈ t, 0 ≤ x ∧ x ≤ 31) → VGate w r (runG w r t g n).1 ∧ n ≤ (runG w r t g n).2 ∧ (runG w r t g n).2 ≤ n + t.length
  | [], g, n, v, _ => ⟨v, by simp [runG], by simp [runG]⟩
  | k :: t, g, n, v, ht => by
    have hk := ht k List.mem_cons_self
    have h := toI_01 (gateM w r g k).2
    obtain ⟨a, b, c⟩ := runG_valid t (gateM w r g k).1 (n + toI (gateM w r g k).2) (gateM_valid v hk) fun x hx => ht x (List.mem_cons_of_mem _ hx)
    rw [runG, List.length_cons]
    exact ⟨a, by omega, by omega⟩
theorem gate_len {w r : Int} {g : GT} (v : VGate w r g) : g.n.length ≤ 8 ∧ g.m.length ≤ 8 ∧ g.s.length = 24 := by
  obtain ⟨⟨a, b, _⟩, c, _⟩ := v
  exact ⟨vkeys_len a, vkeys_len b, c.1⟩
theorem bump_get {s : List Int} {c : Int} {j : Nat} (h : c.toNat < s.length) : (bumpM s c).getD j 0 = if j = c.toNat then up15 (s.getD j 0) else s.getD j 0 := by
  unfold bumpM
  rw [List.getD_eq_getElem?_getD, List.getElem?_set]
  by_cases e : c.toNat = j
  · rw [if_pos e, if_pos (by omega), if_pos e.symm, e]; rfl
  · rw [if_neg e, if_neg (Ne.symm e), List.getD_eq_getElem?_getD]
/-- Each counter of the key has the number, and all others are 0. -/
def Cnt (a n : Int) (s : List Int) : Prop := VSk s ∧ s.getD (cellM 0 a).toNat 0 = n ∧ s.getD (cellM 1 a).toNat 0 = n ∧ s.getD (cellM 2 a).toNat 0 = n ∧ ∀ j : Nat, j ≠ (cellM 0 a).toNat → j ≠ (cellM 1 a).toNat → j ≠ (cellM 2 a).toNat → s.getD j 0 = 0
theorem Cnt.add {a n : Int} {s : List Int} (v : Cnt a n s) (ha : 0 ≤ a) : Cnt a (up15 n) (addM s a) := by
  obtain ⟨vs, e0, e1, e2, eo⟩ := v
  have r0 := cellM_range (row := 0) (by omega) ha
  have r1 := cellM_range (row := 1) (by omega) ha
  have r2 := cellM_range (row := 2) (by omega) ha
  have l := vs.1
  have l1 := (vs.bump (cellM 0 a)).1
  have l2 := ((vs.bump (cellM 0 a)).bump (cellM 1 a)).1
  have g : ∀ j, (addM s a).getD j 0 = if j = (cellM 2 a).toNat then up15 (if j = (cellM 1 a).toNat then up15 (if j = (cellM 0 a).toNat then up15 (s.getD j 0) else s.getD j 0) else (if j = (cellM 0 a).toNat then up15 (s.getD j 0) else s.getD j 0)) else (if j = (cellM 1 a).toNat then up15 (if j = (cellM 0 a).toNat then up15 (s.getD j 0) else s.getD j 0) else (if j = (cellM 0 a).toNat then up15 (s.getD j 0) else s.getD j 0)) := fun j => by
    unfold addM
    rw [bump_get (by omega), bump_get (by omega), bump_get (by omega)]
  refine ⟨vs.add a, ?_, ?_, ?_, fun j h0 h1 h2 => ?_⟩
  · rw [g, if_neg (by omega), if_neg (by omega), if_pos rfl, e0]
  · rw [g, if_neg (by omega), if_pos rfl, if_neg (by omega), e1]
  · rw [g, if_pos rfl, if_neg (by omega), if_neg (by omega), e2]
  · rw [g, if_neg h2, if_neg h1, if_neg h0, eo j h0 h1 h2]
def PTm (l : List (Int × Int)) : Prop := (∀ e ∈ l, (0 ≤ e.1 ∧ e.1 ≤ 31) ∧ 0 ≤ e.2 ∧ e.2 ≤ 1000) ∧ l.Pairwise fun a b => a.1 < b.1
def VTm (l : List (Int × Int)) : Prop := l.length ≤ 12 ∧ PTm l
theorem PTm.lt {l : List (Int × Int)} (v : PTm l) {i j : Nat} (h : i < j) (hj : j < l.length) : (l.getD i ((0 : Int), (0 : Int))).1 < (l.getD j ((0 : Int), (0 : Int))).1 := by
  have := List.pairwise_iff_getElem.1 v.2 i j (by omega) hj h
  rw [List.getD_eq_getElem?_getD, List.getElem?_eq_getElem (by omega), List.getD_eq_getElem?_getD, List.getElem?_eq_getElem hj]
  exact this
theorem PTm.filter {l : List (Int × Int)} (v : PTm l) (p : Int × Int → Bool) : PTm (l.filter p) := ⟨fun e he => v.1 e (List.mem_filter.1 he).1, v.2.filter p⟩
def dropM (l : List (Int × Int)) (now : Int) : List (Int × Int) := l.filter fun e => decide (now ≤ e.2)
theorem dropM_len (l : List (Int × Int)) (now : Int) : (dropM l now).length ≤ l.length := List.length_filter_le _ _
theorem VTm.drop {l : List (Int × Int)} (v : VTm l) (now : Int) : VTm (dropM l now) := ⟨Nat.le_trans (dropM_len l now) v.1, v.2.filter _⟩
-- laws.toIntS
def T0_laws_toIntS (a0 : List Int) (xi4 : Int) (xy7 : List Int) (k : List Int → Prop) (B0 : Int → List Int → Prop) : Prop :=
  br (decide (xi4 < (a0.length : Int)))
  ((0 ≤ xi4 ∧ xi4 < (a0.length : Int)) ∧
    (0 ≤ xi4 ∧ xi4 < (xy7.length : Int)) ∧
    InR (xi4 + 1) ∧
    B0 (xi4 + 1) (List.set xy7 (Int.toNat xi4) (List.getD a0 (Int.toNat xi4) (0 : Int))))
  (k xy7)
def L0_laws_toIntS (a0 : List Int) (k : List Int → Prop) : Nat → Int → List Int → Prop
  | 0, _, _ => False
  | n + 1, xi4, xy7 => T0_laws_toIntS a0 xi4 xy7 k (L0_laws_toIntS a0 k n)
def G_laws_toIntS (a0 : List Int) (I0 : List Int → Int → List Int → Prop) : Prop :=
  ((a0.length : Int) = (a0.length : Int) ∧ 0 ≤ (a0.length : Int) ∧ (a0.length : Int) ≤ 1000000000) ∧
  I0 a0 0 (List.replicate (Int.toNat (a0.length : Int)) (0 : Int))
def S_laws_toIntS (a0 : List Int) (k : List Int → Prop) : Prop := G_laws_toIntS a0 (fun a0 xi4 xy7 => ∃ j, L0_laws_toIntS a0 k j xi4 xy7)
def F_laws_toIntS (a : List Int) (k : List Int → Prop) : Prop := a.length ≤ 1000000000 ∧ k a
theorem F_laws_toIntS_S {a : List Int} {k : List Int → Prop} (h : F_laws_toIntS a k) : S_laws_toIntS a k := by
  obtain ⟨hl, hk⟩ := h
  have key : ∀ (r : List Int) (i : Nat) (out : List Int), a.drop i = r → out.length = a.length → out.take i = a.take i → L0_laws_toIntS a k (r.length + 1) (i : Int) out := by
    intro r
    induction r with
    | nil =>
      intro i out hd ho he
      have := drop_nil' hd
      rw [L0_laws_toIntS, T0_laws_toIntS]
      rw [List.take_of_length_le (by omega), List.take_of_length_le (by omega)] at he
      refine br_dec.2 ⟨fun h => by omega, fun _ => ?_⟩
      rw [he]; exact hk
    | cons x r ih =>
      intro i out hd ho he
      obtain ⟨h1, h2, _, h3, h4⟩ := drop_cons' hd
      rw [List.length_cons, L0_laws_toIntS, T0_laws_toIntS]
      simp only [br_dec, Int.toNat_natCast, h2]
      refine ⟨fun _ => ⟨⟨by omega, by omega⟩, ⟨by omega, by omega⟩, inR (by omega) (by omega), ih (i + 1) _ h3 (by simpa using ho) ?_⟩, fun h => by omega⟩
      rw [take_set_succ (by omega), h4, he]
  exact ⟨⟨rfl, by omega, by omega⟩, _, key a 0 _ rfl (by simp) (by simp)⟩
-- spec.inRange
def G_spec_inRange (n0 : Int) (low1 : Int) (high2 : Int) (k : Bool → Prop) : Prop :=
  br (decide (low1 ≤ n0))
  (k (decide (n0 ≤ high2)))
  (k false)
def S_spec_inRange (n0 : Int) (low1 : Int) (high2 : Int) (k : Bool → Prop) : Prop := G_spec_inRange n0 low1 high2 k
def F_spec_inRange (n low high : Int) (k : Bool → Prop) : Prop := k (decide (low ≤ n ∧ n ≤ high))
theorem F_spec_inRange_S {n low high : Int} {k : Bool → Prop} (h : F_spec_inRange n low high k) : S_spec_inRange n low high k := by
  unfold F_spec_inRange at h
  simp only [S_spec_inRange, G_spec_inRange, br_dec]
  refine ⟨fun h1 => ?_, fun h1 => ?_⟩
  · simpa [h1] using h
  · simpa [h1] using h
-- spec.allIn
def T0_spec_allIn (high2 : Int) (list0 : List Int) (low1 : Int) (xi7 : Int) (k : Bool → Prop) (B0 : Int → Prop) : Prop :=
  br (decide (xi7 < (list0.length : Int)))
  ((0 ≤ xi7 ∧ xi7 < (list0.length : Int)) ∧
    F_spec_inRange (List.getD list0 (Int.toNat xi7) (0 : Int)) low1 high2 fun inRange20 =>
    br (!inRange20)
    (k false)
    (InR (xi7 + 1) ∧
      B0 (xi7 + 1)))
  (k true)
def L0_spec_allIn (high2 : Int) (list0 : List Int) (low1 : Int) (k : Bool → Prop) : Nat → Int → Prop
  | 0, _ => False
  | n + 1, xi7 => T0_spec_allIn high2 list0 low1 xi7 k (L0_spec_allIn high2 list0 low1 k n)
def G_spec_allIn (list0 : List Int) (low1 : Int) (high2 : Int) (I0 : Int → List Int → Int → Int → Prop) : Prop :=
  I0 high2 list0 low1 0
def S_spec_allIn (list0 : List Int) (low1 : Int) (high2 : Int) (k : Bool → Prop) : Prop := G_spec_allIn list0 low1 high2 (fun high2 list0 low1 xi7 => ∃ j, L0_spec_allIn high2 list0 low1 k j xi7)
def F_spec_allIn (l : List Int) (low high : Int) (k : Bool → Prop) : Prop := l.length ≤ 1000000000 ∧ k (decide (∀ x ∈ l, low ≤ x ∧ x ≤ high))
theorem F_spec_allIn_S {l : List Int} {low high : Int} {k : Bool → Prop} (h : F_spec_allIn l low high k) : S_spec_allIn l low high k := by
  obtain ⟨hl, hk⟩ := h
  have key : ∀ (r : List Int) (i : Nat), l.drop i = r → ((∀ x ∈ r, low ≤ x ∧ x ≤ high) ↔ (∀ x ∈ l, low ≤ x ∧ x ≤ high)) → L0_spec_allIn high l low k (r.length + 1) (i : Int) := by
    intro r
    induction r with
    | nil =>
      intro i hd he
      have := drop_nil' hd
      rw [L0_spec_allIn, T0_spec_allIn]
      simp only [br_dec]
      refine ⟨fun h => by omega, fun _ => ?_⟩
      rwa [decide_eq_true (he.1 (by simp))] at hk
    | cons x r ih =>
      intro i hd he
      obtain ⟨h1, h2, _, h3, _⟩ := drop_cons' hd
      rw [List.length_cons, L0_spec_allIn, T0_spec_allIn]
      simp only [br_dec, F_spec_inRange, br_not, Int.toNat_natCast, h2]
      refine ⟨fun _ => ⟨⟨by omega, by omega⟩, fun hx => ⟨inR (by omega) (by omega), ?_⟩, fun hx => ?_⟩, fun h => by omega⟩
      · refine ih (i + 1) h3 (Iff.trans ?_ he)
        simp only [List.mem_cons, forall_eq_or_imp]
        exact ⟨fun h => ⟨hx, h⟩, fun h => h.2⟩
      · rwa [decide_eq_false (fun h => hx (he.2 h x (by simp)))] at hk
  exact ⟨_, key l 0 rfl Iff.rfl⟩
-- spec.validTrace
def G_spec_validTrace (t0 : List Int) (k : Bool → Prop) : Prop :=
  br (decide ((t0.length : Int) ≤ 24))
  (F_spec_allIn t0 (0 : Int) (31 : Int) fun allIn8 =>
    k allIn8)
  (k false)
def S_spec_validTrace (t0 : List Int) (k : Bool → Prop) : Prop := G_spec_validTrace t0 k
def F_spec_validTrace (t : List Int) (k : Bool → Prop) : Prop := ∀ b : Bool, (b = true ↔ VTrace t) → k b
theorem F_spec_validTrace_S {t : List Int} {k : Bool → Prop} (h : F_spec_validTrace t k) : S_spec_validTrace t k :=
  br_dec.2 ⟨fun h1 => ⟨by omega, h _ (by simp only [decide_eq_true_eq]; exact ⟨fun h2 => ⟨by omega, h2⟩, fun v => v.2⟩)⟩, fun h1 => h false (by simp only [Bool.false_eq_true, false_iff]; exact fun v => h1 (by have := v.1; omega))⟩
-- spec.EmptySketch
def G_spec_EmptySketch (k : List Int → Prop) : Prop :=
  ((24 : Int) = 24 ∧ 0 ≤ (24 : Int) ∧ (24 : Int) ≤ 1000000000) ∧
  k (List.replicate 24 (0 : Int))
def S_spec_EmptySketch (k : List Int → Prop) : Prop := G_spec_EmptySketch k
def F_spec_EmptySketch (k : List Int → Prop) : Prop := k emptyM
theorem F_spec_EmptySketch_S {k : List Int → Prop} (h : F_spec_EmptySketch k) : S_spec_EmptySketch k := ⟨⟨rfl, by omega, by omega⟩, h⟩
-- spec.copyInts
def G_spec_copyInts (list0 : List Int) (k : List Int → Prop) : Prop :=
  (0 + list0.length ≤ 1000000000) ∧
  k list0
def S_spec_copyInts (list0 : List Int) (k : List Int → Prop) : Prop := G_spec_copyInts list0 k
def F_spec_copyInts (l : List Int) (k : List Int → Prop) : Prop := l.length ≤ 1000000000 ∧ k l
theorem F_spec_copyInts_S {l : List Int} {k : List Int → Prop} (h : F_spec_copyInts l k) : S_spec_copyInts l k := ⟨by have := h.1; omega, h.2⟩
-- spec.copyGate
def G_spec_copyGate (g0Window : Int) (g0Room : Int) (g0New : List Int) (g0Main : List Int) (g0Sketch : List Int) (g0Added : Int) (k : Int → Int → List Int → List Int → List Int → Int → Prop) : Prop :=
  (F_spec_copyInts g0New fun copyInts9 =>
    (F_spec_copyInts g0Main fun copyInts12 =>
      (F_spec_copyInts g0Sketch fun copyInts15 =>
        (k g0Window g0Room copyInts9 copyInts12 copyInts15 g0Added) ∧
        (True)) ∧
      (True)) ∧
    (True)) ∧
  (True)
def H_spec_copyGate (g0Window : Int) (g0Room : Int) (g0New : List Int) (g0Main : List Int) (g0Sketch : List Int) (g0Added : Int) (k : Int → Int → List Int → List Int → List Int → Int → Prop) : Prop :=
  F_spec_copyInts g0New fun copyInts9 =>
  F_spec_copyInts g0Main fun copyInts12 =>
  F_spec_copyInts g0Sketch fun copyInts15 =>
  k g0Window g0Room copyInts9 copyInts12 copyInts15 g0Added
theorem G_spec_copyGate_eq (g0Window : Int) (g0Room : Int) (g0New : List Int) (g0Main : List Int) (g0Sketch : List Int) (g0Added : Int) (k : Int → Int → List Int → List Int → List Int → Int → Prop) : G_spec_copyGate g0Window g0Room g0New g0Main g0Sketch g0Added k = H_spec_copyGate g0Window g0Room g0New g0Main g0Sketch g0Added k := by
  simp only [G_spec_copyGate, H_spec_copyGate, and_self, and_true]
def S_spec_copyGate (g0Window : Int) (g0Room : Int) (g0New : List Int) (g0Main : List Int) (g0Sketch : List Int) (g0Added : Int) (k : Int → Int → List Int → List Int → List Int → Int → Prop) : Prop := H_spec_copyGate g0Window g0Room g0New g0Main g0Sketch g0Added k
def F_spec_copyGate (w r : Int) (n m s : List Int) (a : Int) (k : Int → Int → List Int → List Int → List Int → Int → Prop) : Prop := (n.length ≤ 1000000000 ∧ m.length ≤ 1000000000 ∧ s.length ≤ 1000000000) ∧ k w r n m s a
theorem F_spec_copyGate_S {w r : Int} {n m s : List Int} {a : Int} {k : Int → Int → List Int → List Int → List Int → Int → Prop} (h : F_spec_copyGate w r n m s a k) : S_spec_copyGate w r n m s a k := ⟨h.1.1, h.1.2.1, h.1.2.2, h.2⟩
-- spec.cell
def G_spec_cell (row0 : Int) (key1 : Int) (k : Int → Prop) : Prop :=
  InR (row0 * 8) ∧
  InR (2 * row0) ∧
  InR (37 + (2 * row0)) ∧
  InR (key1 + row0) ∧
  InR ((37 + (2 * row0)) * (key1 + row0)) ∧
  ((101 : Int) ≠ 0) ∧
  ((8 : Int) ≠ 0) ∧
  InR ((row0 * 8) + (Int.tmod (Int.tmod ((37 + (2 * row0)) * (key1 + row0)) 101) 8)) ∧
  k ((row0 * 8) + (Int.tmod (Int.tmod ((37 + (2 * row0)) * (key1 + row0)) 101) 8))
def S_spec_cell (row0 : Int) (key1 : Int) (k : Int → Prop) : Prop := G_spec_cell row0 key1 k
def F_spec_cell (row key : Int) (k : Int → Prop) : Prop := (0 ≤ row ∧ row ≤ 2 ∧ 0 ≤ key ∧ key ≤ 31) ∧ k (cellM row key)
theorem F_spec_cell_S {row key : Int} {k : Int → Prop} (h : F_spec_cell row key k) : S_spec_cell row key k := by
  obtain ⟨⟨h0, h1, k0, k1⟩, hk⟩ := h
  have hp := cell_prod h0 h1 k0 k1
  have hr := cellM_range h0 k0
  unfold cellM at hr
  exact ⟨inR (by omega) (by omega), inR (by omega) (by omega), inR (by omega) (by omega), inR (by omega) (by omega), inR (by omega) (by omega), by omega, by omega, inR (by omega) (by omega), hk⟩
-- spec.addKey
def T0_spec_addKey (key1 : Int) (xr6 : Int) (xy9 : List Int) (k : List Int → Prop) (B0 : Int → List Int → Prop) : Prop :=
  br (decide (xr6 < 3))
  (F_spec_cell xr6 key1 fun cell16 =>
    (0 ≤ cell16 ∧ cell16 < (xy9.length : Int)) ∧
    InR ((List.getD xy9 (Int.toNat cell16) (0 : Int)) + 1) ∧
    (0 ≤ cell16 ∧ cell16 < (xy9.length : Int)) ∧
    InR (xr6 + 1) ∧
    B0 (xr6 + 1) (List.set xy9 (Int.toNat cell16) (if 15 < ((List.getD xy9 (Int.toNat cell16) (0 : Int)) + 1) then (15 : Int) else ((List.getD xy9 (Int.toNat cell16) (0 : Int)) + 1))))
  (k xy9)
def L0_spec_addKey (key1 : Int) (k : List Int → Prop) : Nat → Int → List Int → Prop
  | 0, _, _ => False
  | n + 1, xr6, xy9 => T0_spec_addKey key1 xr6 xy9 k (L0_spec_addKey key1 k n)
def G_spec_addKey (s0 : List Int) (key1 : Int) (I0 : Int → Int → List Int → Prop) : Prop :=
  F_spec_copyInts s0 fun copyInts9 =>
  I0 key1 0 copyInts9
def S_spec_addKey (s0 : List Int) (key1 : Int) (k : List Int → Prop) : Prop := G_spec_addKey s0 key1 (fun key1 xr6 xy9 => ∃ j, L0_spec_addKey key1 k j xr6 xy9)
def F_spec_addKey (s : List Int) (key : Int) (k : List Int → Prop) : Prop := (VSk s ∧ 0 ≤ key ∧ key ≤ 31) ∧ k (addM s key)
theorem F_spec_addKey_S {s : List Int} {key : Int} {k : List Int → Prop} (h : F_spec_addKey s key k) : S_spec_addKey s key k := by
  obtain ⟨⟨v, hkey⟩, hk⟩ := h
  have step : ∀ (row : Int) (q : List Int) (n : Nat), 0 ≤ row → row ≤ 2 → VSk q → L0_spec_addKey key k n (row + 1) (bumpM q (cellM row key)) → L0_spec_addKey key k (n + 1) row q := by
    intro row q n r0 r1 w next
    have hr := cellM_range (key := key) r0 hkey.1
    have hl := w.1
    have hg := w.get (cellM row key).toNat
    rw [L0_spec_addKey, T0_spec_addKey]
    exact br_yd (by omega) ⟨⟨r0, r1, hkey⟩, ⟨by omega, by omega⟩, inR (by omega) (by omega), ⟨by omega, by omega⟩, inR (by omega) (by omega), next⟩
  refine ⟨by have := v.1; omega, 4, step 0 s 3 (by omega) (by omega) v (step 1 _ 2 (by omega) (by omega) (v.bump _) (step 2 _ 1 (by omega) (by omega) ((v.bump _).bump _) ?_))⟩
  rw [L0_spec_addKey, T0_spec_addKey]
  exact br_nd (by omega) hk
-- spec.validSketch
def G_spec_validSketch (s0 : List Int) (k : Bool → Prop) : Prop :=
  br ((s0.length : Int) == 24)
  (F_spec_allIn s0 (0 : Int) (15 : Int) fun allIn8 =>
    k allIn8)
  (k false)
def S_spec_validSketch (s0 : List Int) (k : Bool → Prop) : Prop := G_spec_validSketch s0 k
def F_spec_validSketch (s : List Int) (k : Bool → Prop) : Prop := ∀ b : Bool, (b = true ↔ VSk s) → k b
theorem F_spec_validSketch_S {s : List Int} {k : Bool → Prop} (h : F_spec_validSketch s k) : S_spec_validSketch s k :=
  br_beq.2 ⟨fun hl => ⟨by omega, h _ (by rw [decide_eq_true_iff]; exact ⟨fun w => ⟨by omega, w⟩, fun v => v.2⟩)⟩, fun hl => h false ⟨fun e => (by cases e), fun v => absurd (by have := v.1; omega) hl⟩⟩
-- spec.HalveSketch
def T0_spec_HalveSketch (s0 : List Int) (xi4 : Int) (xout3 : List Int) (k : List Int → Prop) (B0 : Int → List Int → Prop) : Prop :=
  br (decide (xi4 < (s0.length : Int)))
  ((0 ≤ xi4 ∧ xi4 < (s0.length : Int)) ∧
    ((2 : Int) ≠ 0 ∧ InR (Int.tdiv (List.getD s0 (Int.toNat xi4) (0 : Int)) 2)) ∧
    (xout3.length + 1 ≤ 1000000000) ∧
    InR (xi4 + 1) ∧
    B0 (xi4 + 1) (xout3 ++ ([(Int.tdiv (List.getD s0 (Int.toNat xi4) (0 : Int)) 2)] : List Int)))
  (k xout3)
def L0_spec_HalveSketch (s0 : List Int) (k : List Int → Prop) : Nat → Int → List Int → Prop
  | 0, _, _ => False
  | n + 1, xi4, xout3 => T0_spec_HalveSketch s0 xi4 xout3 k (L0_spec_HalveSketch s0 k n)
def G_spec_HalveSketch (s0 : List Int) (k : List Int → Prop) (I0 : List Int → Int → List Int → Prop) : Prop :=
  F_spec_validSketch s0 fun validSketch7 =>
  br (!validSketch7)
  (k ([] : List Int))
  (I0 s0 0 ([] : List Int))
def S_spec_HalveSketch (s0 : List Int) (k : List Int → Prop) : Prop := G_spec_HalveSketch s0 k (fun s0 xi4 xout3 => ∃ j, L0_spec_HalveSketch s0 k j xi4 xout3)
def F_spec_HalveSketch (s : List Int) (k : List Int → Prop) : Prop := (VSk s → k (halveM s)) ∧ (¬ VSk s → k [])
theorem F_spec_HalveSketch_S {s : List Int} {k : List Int → Prop} (h : F_spec_HalveSketch s k) : S_spec_HalveSketch s k := by
  obtain ⟨hyes, hno⟩ := h
  intro b hb
  refine br_not.2 (br_iff.2 ⟨fun e => ?_, fun e => hno fun w => by rw [hb.2 w] at e; cases e⟩)
  have v := hb.1 e
  have hk := hyes v
  have hl := v.1
  have go : ∀ (m i : Nat), i + m = s.length → L0_spec_HalveSketch s k (m + 1) (i : Int) ((s.take i).map fun x => Int.tdiv x 2) := by
    intro m
    induction m with
    | zero =>
      intro i hi
      rw [show s.take i = s from List.take_of_length_le (by omega), L0_spec_HalveSketch, T0_spec_HalveSketch]
      exact br_nd (by omega) hk
    | succ m ih =>
      intro i hi
      have next := ih (i + 1) (by omega)
      have hr := half_range (v.get i)
      rw [take_get (by omega), List.map_append] at next
      rw [L0_spec_HalveSketch, T0_spec_HalveSketch]
      simp only [Int.toNat_natCast]
      exact br_yd (by omega) ⟨⟨by omega, by omega⟩, ⟨by omega, inR (by omega) (by omega)⟩, by rw [List.length_map, List.length_take]; omega, inR (by omega) (by omega), next⟩
  exact ⟨_, go s.length 0 (by omega)⟩
-- spec.learn
def G_spec_learn (g0Window : Int) (g0Room : Int) (g0New : List Int) (g0Main : List Int) (g0Sketch : List Int) (g0Added : Int) (key1 : Int) (k : Int → Int → List Int → List Int → List Int → Int → Prop) : Prop :=
  F_spec_addKey g0Sketch key1 fun addKey8 =>
  InR (g0Added + 1) ∧
  br ((g0Added + 1) == 16)
  (F_spec_HalveSketch addKey8 fun halveSketch19 =>
    k g0Window g0Room g0New g0Main halveSketch19 0)
  (k g0Window g0Room g0New g0Main addKey8 (g0Added + 1))
def S_spec_learn (g0Window : Int) (g0Room : Int) (g0New : List Int) (g0Main : List Int) (g0Sketch : List Int) (g0Added : Int) (key1 : Int) (k : Int → Int → List Int → List Int → List Int → Int → Prop) : Prop := G_spec_learn g0Window g0Room g0New g0Main g0Sketch g0Added key1 k
def F_spec_learn (w r : Int) (n m s : List Int) (a key : Int) (k : Int → Int → List Int → List Int → List Int → Int → Prop) : Prop := (VSk s ∧ (0 ≤ a ∧ a ≤ 15) ∧ 0 ≤ key ∧ key ≤ 31) ∧ k w r n m (learnM s a key).1 (learnM s a key).2
theorem F_spec_learn_S {w r : Int} {n m s : List Int} {a key : Int} {k : Int → Int → List Int → List Int → List Int → Int → Prop} (h : F_spec_learn w r n m s a key k) : S_spec_learn w r n m s a key k := by
  obtain ⟨⟨v, ha, hkey⟩, hk⟩ := h
  unfold learnM at hk
  refine ⟨⟨v, hkey⟩, inR (by omega) (by omega), br_beq.2 ⟨fun e => yes (v.add key) ?_, fun e => ?_⟩⟩
  · rw [if_pos e] at hk; exact hk
  · rw [if_neg e] at hk; exact hk
-- spec.placeOf
def T0_spec_placeOf (list0 : List Int) (n1 : Int) (xi5 : Int) (k : Int → Prop) (B0 : Int → Prop) : Prop :=
  br (decide (xi5 < (list0.length : Int)))
  ((0 ≤ xi5 ∧ xi5 < (list0.length : Int)) ∧
    br ((List.getD list0 (Int.toNat xi5) (0 : Int)) == n1)
    (k xi5)
    (InR (xi5 + 1) ∧
      B0 (xi5 + 1)))
  (k (-1))
def L0_spec_placeOf (list0 : List Int) (n1 : Int) (k : Int → Prop) : Nat → Int → Prop
  | 0, _ => False
  | n + 1, xi5 => T0_spec_placeOf list0 n1 xi5 k (L0_spec_placeOf list0 n1 k n)
def G_spec_placeOf (list0 : List Int) (n1 : Int) (I0 : List Int → Int → Int → Prop) : Prop :=
  I0 list0 n1 0
def S_spec_placeOf (list0 : List Int) (n1 : Int) (k : Int → Prop) : Prop := G_spec_placeOf list0 n1 (fun list0 n1 xi5 => ∃ j, L0_spec_placeOf list0 n1 k j xi5)
def F_spec_placeOf (l : List Int) (n : Int) (k : Int → Prop) : Prop := l.length ≤ 1000000000 ∧ k (plc l n)
theorem F_spec_placeOf_S {l : List Int} {n : Int} {k : Int → Prop} (h : F_spec_placeOf l n k) : S_spec_placeOf l n k := by
  obtain ⟨hl, hk⟩ := h
  have key : ∀ (r : List Int) (i : Nat), l.drop i = r → plcF r n i = plc l n → L0_spec_placeOf l n k (r.length + 1) (i : Int) := by
    intro r
    induction r with
    | nil =>
      intro i hd he
      have := drop_nil' hd
      rw [L0_spec_placeOf, T0_spec_placeOf]
      simp only [br_dec]
      exact ⟨fun h => by omega, fun _ => by rw [show (-1 : Int) = plc l n from he]; exact hk⟩
    | cons x r ih =>
      intro i hd he
      obtain ⟨h1, h2, _, h3, _⟩ := drop_cons' hd
      rw [List.length_cons, L0_spec_placeOf, T0_spec_placeOf]
      simp only [br_dec, br_beq, Int.toNat_natCast, h2]
      refine ⟨fun _ => ⟨⟨by omega, by omega⟩, fun hx => ?_, fun hx => ⟨inR (by omega) (by omega), ?_⟩⟩, fun h => by omega⟩
      · simp only [plcF, if_pos hx] at he; rw [he]; exact hk
      · simp only [plcF, if_neg hx] at he; exact ih (i + 1) h3 he
  exact ⟨_, key l 0 rfl rfl⟩
-- spec.without
def G_spec_without (list0 : List Int) (at1 : Int) (k : List Int → Prop) : Prop :=
  (0 ≤ at1 ∧ at1 ≤ (list0.length : Int)) ∧
  InR (at1 + 1) ∧
  (0 ≤ (at1 + 1) ∧ (at1 + 1) ≤ (list0.length : Int)) ∧
  (((0 + (List.length (List.take (Int.toNat at1) list0)) ≤ 1000000000) ∧
      (((List.length (List.take (Int.toNat at1) list0)) + (List.length (List.drop (Int.toNat (at1 + 1)) list0)) ≤ 1000000000) ∧
        k ((List.take (Int.toNat at1) list0) ++ (List.drop (Int.toNat (at1 + 1)) list0))) ∧
      (True)) ∧
    (True)) ∧
  (True)
def H_spec_without (list0 : List Int) (at1 : Int) (k : List Int → Prop) : Prop :=
  (0 ≤ at1 ∧ at1 ≤ (list0.length : Int)) ∧
  InR (at1 + 1) ∧
  (0 ≤ (at1 + 1) ∧ (at1 + 1) ≤ (list0.length : Int)) ∧
  (0 + (List.length (List.take (Int.toNat at1) list0)) ≤ 1000000000) ∧
  ((List.length (List.take (Int.toNat at1) list0)) + (List.length (List.drop (Int.toNat (at1 + 1)) list0)) ≤ 1000000000) ∧
  k ((List.take (Int.toNat at1) list0) ++ (List.drop (Int.toNat (at1 + 1)) list0))
theorem G_spec_without_eq (list0 : List Int) (at1 : Int) (k : List Int → Prop) : G_spec_without list0 at1 k = H_spec_without list0 at1 k := by
  simp only [G_spec_without, H_spec_without, and_self, and_true]
def S_spec_without (list0 : List Int) (at1 : Int) (k : List Int → Prop) : Prop := H_spec_without list0 at1 k
def F_spec_without (l : List Int) (at1 : Int) (k : List Int → Prop) : Prop := (0 ≤ at1 ∧ at1 < l.length ∧ l.length ≤ 1000000000) ∧ k (l.take at1.toNat ++ l.drop (at1.toNat + 1))
theorem F_spec_without_S {l : List Int} {at1 : Int} {k : List Int → Prop} (h : F_spec_without l at1 k) : S_spec_without l at1 k := by
  obtain ⟨⟨h1, h2, h3⟩, hk⟩ := h
  have e : (at1 + 1).toNat = at1.toNat + 1 := by omega
  refine ⟨⟨by omega, by omega⟩, inR (by omega) (by omega), ⟨by omega, by omega⟩, by simp; omega, by simp; omega, ?_⟩
  rw [e]; exact hk
-- spec.front
def G_spec_front (list0 : List Int) (n1 : Int) (k : List Int → Prop) : Prop :=
  (1 + list0.length ≤ 1000000000) ∧
  k (([n1] : List Int) ++ list0)
def S_spec_front (list0 : List Int) (n1 : Int) (k : List Int → Prop) : Prop := G_spec_front list0 n1 k
def F_spec_front (l : List Int) (n : Int) (k : List Int → Prop) : Prop := l.length ≤ 100000000 ∧ k (n :: l)
theorem F_spec_front_S {l : List Int} {n : Int} {k : List Int → Prop} (h : F_spec_front l n k) : S_spec_front l n k := ⟨by have := h.1; omega, h.2⟩
-- spec.count
def T0_spec_count (key1 : Int) (s0 : List Int) (xn5 : Int) (xr6 : Int) (k : Int → Prop) (B0 : Int → Int → Prop) : Prop :=
  br (decide (xr6 < 3))
  (F_spec_cell xr6 key1 fun cell15 =>
    (0 ≤ cell15 ∧ cell15 < (s0.length : Int)) ∧
    InR (xr6 + 1) ∧
    B0 (if (List.getD s0 (Int.toNat cell15) (0 : Int)) < xn5 then (List.getD s0 (Int.toNat cell15) (0 : Int)) else xn5) (xr6 + 1))
  (k xn5)
def L0_spec_count (key1 : Int) (s0 : List Int) (k : Int → Prop) : Nat → Int → Int → Prop
  | 0, _, _ => False
  | n + 1, xn5, xr6 => T0_spec_count key1 s0 xn5 xr6 k (L0_spec_count key1 s0 k n)
def G_spec_count (s0 : List Int) (key1 : Int) (I0 : Int → List Int → Int → Int → Prop) : Prop :=
  I0 key1 s0 15 0
def S_spec_count (s0 : List Int) (key1 : Int) (k : Int → Prop) : Prop := G_spec_count s0 key1 (fun key1 s0 xn5 xr6 => ∃ j, L0_spec_count key1 s0 k j xn5 xr6)
def F_spec_count (s : List Int) (key : Int) (k : Int → Prop) : Prop := (VSk s ∧ 0 ≤ key ∧ key ≤ 31) ∧ k (countM s key)
theorem F_spec_count_S {s : List Int} {key : Int} {k : Int → Prop} (h : F_spec_count s key k) : S_spec_count s key k := by
  obtain ⟨⟨v, hkey⟩, hk⟩ := h
  have step : ∀ (row m : Int) (n : Nat), 0 ≤ row → row ≤ 2 → L0_spec_count key s k n (min2 (s.getD (cellM row key).toNat 0) m) (row + 1) → L0_spec_count key s k (n + 1) m row := by
    intro row m n r0 r1 next
    have hr := cellM_range (key := key) r0 hkey.1
    have hl := v.1
    rw [L0_spec_count, T0_spec_count]
    exact br_yd (by omega) ⟨⟨r0, r1, hkey⟩, ⟨by omega, by omega⟩, inR (by omega) (by omega), next⟩
  refine ⟨4, step 0 _ 3 (by omega) (by omega) (step 1 _ 2 (by omega) (by omega) (step 2 _ 1 (by omega) (by omega) ?_))⟩
  rw [L0_spec_count, T0_spec_count]
  exact br_nd (by omega) hk
-- spec.pass
def G_spec_pass (old0Window : Int) (old0Room : Int) (old0New : List Int) (old0Main : List Int) (old0Sketch : List Int) (old0Added : Int) (key1 : Int) (k : Int → Int → List Int → List Int → List Int → Int → Bool → Prop) : Prop :=
  F_spec_copyGate old0Window old0Room old0New old0Main old0Sketch old0Added fun copyGate11Window copyGate11Room copyGate11New copyGate11Main copyGate11Sketch copyGate11Added =>
  F_spec_learn copyGate11Window copyGate11Room copyGate11New copyGate11Main copyGate11Sketch copyGate11Added key1 fun learn13Window learn13Room learn13New learn13Main learn13Sketch learn13Added =>
  F_spec_placeOf learn13Main key1 fun placeOf17 =>
  br (decide (placeOf17 ≥ 0))
  (F_spec_without learn13Main placeOf17 fun without23 =>
    F_spec_front without23 key1 fun front25 =>
    k learn13Window learn13Room learn13New front25 learn13Sketch learn13Added true)
  (F_spec_placeOf learn13New key1 fun placeOf31 =>
    br (decide (placeOf31 ≥ 0))
    (F_spec_without learn13New placeOf31 fun without37 =>
      F_spec_front without37 key1 fun front39 =>
      k learn13Window learn13Room front39 learn13Main learn13Sketch learn13Added true)
    (F_spec_front learn13New key1 fun front45 =>
      br (decide ((front45.length : Int) ≤ learn13Window))
      (k learn13Window learn13Room front45 learn13Main learn13Sketch learn13Added false)
      ((0 ≤ learn13Window ∧ learn13Window < (front45.length : Int)) ∧
        (0 ≤ learn13Window ∧ learn13Window ≤ (front45.length : Int)) ∧
        br (decide ((learn13Main.length : Int) < learn13Room))
        (F_spec_front learn13Main (List.getD front45 (Int.toNat learn13Window) (0 : Int)) fun front76 =>
          k learn13Window learn13Room (List.take (Int.toNat learn13Window) (List.drop 0 front45)) front76 learn13Sketch learn13Added false)
        (InR ((learn13Main.length : Int) - 1) ∧
          (0 ≤ ((learn13Main.length : Int) - 1) ∧ ((learn13Main.length : Int) - 1) < (learn13Main.length : Int)) ∧
          (F_spec_count learn13Sketch (List.getD front45 (Int.toNat learn13Window) (0 : Int)) fun count81 =>
            (F_spec_count learn13Sketch (List.getD learn13Main (Int.toNat ((learn13Main.length : Int) - 1)) (0 : Int)) fun count90 =>
              br (decide (count81 > count90))
              (InR ((learn13Main.length : Int) - 1) ∧
                (0 ≤ ((learn13Main.length : Int) - 1) ∧ ((learn13Main.length : Int) - 1) ≤ (learn13Main.length : Int)) ∧
                F_spec_front (List.take (Int.toNat ((learn13Main.length : Int) - 1)) learn13Main) (List.getD front45 (Int.toNat learn13Window) (0 : Int)) fun front98 =>
                k learn13Window learn13Room (List.take (Int.toNat learn13Window) (List.drop 0 front45)) front98 learn13Sketch learn13Added false)
              (k learn13Window learn13Room (List.take (Int.toNat learn13Window) (List.drop 0 front45)) learn13Main learn13Sketch learn13Added false)) ∧
            (True)) ∧
          (True)))))
def H_spec_pass (old0Window : Int) (old0Room : Int) (old0New : List Int) (old0Main : List Int) (old0Sketch : List Int) (old0Added : Int) (key1 : Int) (k : Int → Int → List Int → List Int → List Int → Int → Bool → Prop) : Prop :=
  F_spec_copyGate old0Window old0Room old0New old0Main old0Sketch old0Added fun copyGate11Window copyGate11Room copyGate11New copyGate11Main copyGate11Sketch copyGate11Added =>
  F_spec_learn copyGate11Window copyGate11Room copyGate11New copyGate11Main copyGate11Sketch copyGate11Added key1 fun learn13Window learn13Room learn13New learn13Main learn13Sketch learn13Added =>
  F_spec_placeOf learn13Main key1 fun placeOf17 =>
  br (decide (placeOf17 ≥ 0))
  (F_spec_without learn13Main placeOf17 fun without23 =>
    F_spec_front without23 key1 fun front25 =>
    k learn13Window learn13Room learn13New front25 learn13Sketch learn13Added true)
  (F_spec_placeOf learn13New key1 fun placeOf31 =>
    br (decide (placeOf31 ≥ 0))
    (F_spec_without learn13New placeOf31 fun without37 =>
      F_spec_front without37 key1 fun front39 =>
      k learn13Window learn13Room front39 learn13Main learn13Sketch learn13Added true)
    (F_spec_front learn13New key1 fun front45 =>
      br (decide ((front45.length : Int) ≤ learn13Window))
      (k learn13Window learn13Room front45 learn13Main learn13Sketch learn13Added false)
      ((0 ≤ learn13Window ∧ learn13Window < (front45.length : Int)) ∧
        (0 ≤ learn13Window ∧ learn13Window ≤ (front45.length : Int)) ∧
        br (decide ((learn13Main.length : Int) < learn13Room))
        (F_spec_front learn13Main (List.getD front45 (Int.toNat learn13Window) (0 : Int)) fun front76 =>
          k learn13Window learn13Room (List.take (Int.toNat learn13Window) (List.drop 0 front45)) front76 learn13Sketch learn13Added false)
        (InR ((learn13Main.length : Int) - 1) ∧
          (0 ≤ ((learn13Main.length : Int) - 1) ∧ ((learn13Main.length : Int) - 1) < (learn13Main.length : Int)) ∧
          F_spec_count learn13Sketch (List.getD front45 (Int.toNat learn13Window) (0 : Int)) fun count81 =>
          F_spec_count learn13Sketch (List.getD learn13Main (Int.toNat ((learn13Main.length : Int) - 1)) (0 : Int)) fun count90 =>
          br (decide (count81 > count90))
          (InR ((learn13Main.length : Int) - 1) ∧
            (0 ≤ ((learn13Main.length : Int) - 1) ∧ ((learn13Main.length : Int) - 1) ≤ (learn13Main.length : Int)) ∧
            F_spec_front (List.take (Int.toNat ((learn13Main.length : Int) - 1)) learn13Main) (List.getD front45 (Int.toNat learn13Window) (0 : Int)) fun front98 =>
            k learn13Window learn13Room (List.take (Int.toNat learn13Window) (List.drop 0 front45)) front98 learn13Sketch learn13Added false)
          (k learn13Window learn13Room (List.take (Int.toNat learn13Window) (List.drop 0 front45)) learn13Main learn13Sketch learn13Added false)))))
theorem G_spec_pass_eq (old0Window : Int) (old0Room : Int) (old0New : List Int) (old0Main : List Int) (old0Sketch : List Int) (old0Added : Int) (key1 : Int) (k : Int → Int → List Int → List Int → List Int → Int → Bool → Prop) : G_spec_pass old0Window old0Room old0New old0Main old0Sketch old0Added key1 k = H_spec_pass old0Window old0Room old0New old0Main old0Sketch old0Added key1 k := by
  simp only [G_spec_pass, H_spec_pass, and_self, and_true]
def S_spec_pass (old0Window : Int) (old0Room : Int) (old0New : List Int) (old0Main : List Int) (old0Sketch : List Int) (old0Added : Int) (key1 : Int) (k : Int → Int → List Int → List Int → List Int → Int → Bool → Prop) : Prop := H_spec_pass old0Window old0Room old0New old0Main old0Sketch old0Added key1 k
def F_spec_pass (w r : Int) (n m s : List Int) (a key : Int) (k : Int → Int → List Int → List Int → List Int → Int → Bool → Prop) : Prop :=
  (VGate w r ⟨n, m, s, a⟩ ∧ 0 ≤ key ∧ key ≤ 31) ∧ k w r (gateM w r ⟨n, m, s, a⟩ key).1.n (gateM w r ⟨n, m, s, a⟩ key).1.m (gateM w r ⟨n, m, s, a⟩ key).1.s (gateM w r ⟨n, m, s, a⟩ key).1.a (gateM w r ⟨n, m, s, a⟩ key).2
theorem F_spec_pass_S {w r : Int} {n m s : List Int} {a key : Int} {k : Int → Int → List Int → List Int → List Int → Int → Bool → Prop} (h : F_spec_pass w r n m s a key k) : S_spec_pass w r n m s a key k := by
  obtain ⟨⟨v, hkey⟩, hk⟩ := h
  obtain ⟨l1, l2, l3⟩ := gate_len v
  obtain ⟨vs, vk, ha⟩ := v
  simp only at l1 l2 l3 vs vk ha
  obtain ⟨vn, vm, vd⟩ := id vs
  have hl := learnM_valid (key := key) vk ha
  unfold gateM passM at hk
  simp only at hk
  refine ⟨by omega, ⟨vk, ha, hkey⟩, by omega, br_dec.2 ⟨fun hp => ?_, fun hp => ⟨by omega, br_dec.2 ⟨fun hq => ?_, fun hq => ⟨by omega, br_dec.2 ⟨fun hw => ?_, fun hw => ?_⟩⟩⟩⟩⟩⟩
  · have hm := plc_ge.1 hp
    rw [if_pos hm] at hk
    obtain ⟨j, j1, j2, _, j3⟩ := plc_pos hm
    rw [j3]
    refine ⟨⟨by omega, by omega, by omega⟩, ?_⟩
    rw [Int.toNat_natCast, rmK_erase vm.2.2.2.2 j2]
    have := @rmK_le m key
    exact ⟨by omega, hk⟩
  · have hm : key ∉ m := fun e => hp (plc_ge.2 e)
    have hn : key ∈ n := plc_ge.1 hq
    rw [if_neg hm, if_pos hn] at hk
    obtain ⟨j, j1, j2, _, j3⟩ := plc_pos hn
    rw [j3]
    refine ⟨⟨by omega, by omega, by omega⟩, ?_⟩
    rw [Int.toNat_natCast, rmK_erase vn.2.2.2.2 j2]
    have := @rmK_le n key
    exact ⟨by omega, hk⟩
  · have hm : key ∉ m := fun e => hp (plc_ge.2 e)
    have hn : key ∉ n := fun e => hq (plc_ge.2 e)
    rw [List.length_cons] at hw
    rw [if_neg hm, if_neg hn, if_pos (by omega)] at hk
    exact hk
  · have hm : key ∉ m := fun e => hp (plc_ge.2 e)
    have hn : key ∉ n := fun e => hq (plc_ge.2 e)
    rw [List.length_cons] at hw
    rw [if_neg hm, if_neg hn, if_neg (by omega)] at hk
    have n1 := vn.1
    have n3 := vn.2.2.1
    have m1 := vm.1
    have m3 := vm.2.2.1
    rw [List.drop_zero]
    refine ⟨⟨by omega, by rw [List.length_cons]; omega⟩, ⟨by omega, by rw [List.length_cons]; omega⟩, br_dec.2 ⟨fun hr => ⟨by omega, ?_⟩, fun hr => ?_⟩⟩
    · rw [if_pos hr] at hk; exact hk
    · rw [if_neg hr] at hk
      have e : ((m.length : Int) - 1).toNat = m.length - 1 := by omega
      rw [e]
      have hx : (key :: n).getD w.toNat 0 ∈ key :: n := mem_getD (by rw [List.length_cons]; omega)
      have hxr : 0 ≤ (key :: n).getD w.toNat 0 ∧ (key :: n).getD w.toNat 0 ≤ 31 := by
        rcases List.mem_cons.1 hx with g | g
        · rw [g]; exact hkey
        · exact vn.2.2.2.1 _ g
      refine ⟨inR (by omega) (by omega), ⟨by omega, by omega⟩, ⟨hl.1, hxr⟩, ⟨hl.1, vm.2.2.2.1 _ (mem_getD (by omega))⟩, br_dec.2 ⟨fun hc => ⟨inR (by omega) (by omega), ⟨by omega, by omega⟩, by rw [List.length_take]; omega, ?_⟩, fun hc => ?_⟩⟩
      · rw [if_pos hc] at hk; exact hk
      · rw [if_neg hc] at hk; exact hk
-- spec.toInt
def G_spec_toInt (b0 : Bool) (k : Int → Prop) : Prop :=
  br b0
  (k 1)
  (k 0)
def S_spec_toInt (b0 : Bool) (k : Int → Prop) : Prop := G_spec_toInt b0 k
def F_spec_toInt (b : Bool) (k : Int → Prop) : Prop := k (toI b)
theorem F_spec_toInt_S {b : Bool} {k : Int → Prop} (h : F_spec_toInt b k) : S_spec_toInt b k := by
  cases b <;> exact h
-- spec.RunGate
def T0_spec_RunGate (t0 : List Int) (xn9 : Int) (xi10 : Int) (xb8c0 : Int) (xb8c1 : Int) (xb8c2 : List Int) (xb8c3 : List Int) (xb8c4 : List Int) (xb8c5 : Int) (k : Int → Int → List Int → List Int → List Int → Int → Int → Prop) (B0 : Int → Int → Int → Int → List Int → List Int → List Int → Int → Prop) : Prop :=
  br (decide (xi10 < (t0.length : Int)))
  ((0 ≤ xi10 ∧ xi10 < (t0.length : Int)) ∧
    ((F_spec_pass xb8c0 xb8c1 xb8c2 xb8c3 xb8c4 xb8c5 (List.getD t0 (Int.toNat xi10) (0 : Int)) fun pass44Window pass44Room pass44New pass44Main pass44Sketch pass44Added pass44r1 =>
        (F_spec_toInt pass44r1 fun toInt49 =>
          InR (xn9 + toInt49) ∧
          InR (xi10 + 1) ∧
          B0 (xn9 + toInt49) (xi10 + 1) pass44Window pass44Room pass44New pass44Main pass44Sketch pass44Added) ∧
        (True)) ∧
      (True)) ∧
    (True))
  (F_spec_copyGate xb8c0 xb8c1 xb8c2 xb8c3 xb8c4 xb8c5 fun copyGate52Window copyGate52Room copyGate52New copyGate52Main copyGate52Sketch copyGate52Added =>
    k copyGate52Window copyGate52Room copyGate52New copyGate52Main copyGate52Sketch copyGate52Added xn9)
def U0_spec_RunGate (t0 : List Int) (xn9 : Int) (xi10 : Int) (xb8c0 : Int) (xb8c1 : Int) (xb8c2 : List Int) (xb8c3 : List Int) (xb8c4 : List Int) (xb8c5 : Int) (k : Int → Int → List Int → List Int → List Int → Int → Int → Prop) (B0 : Int → Int → Int → Int → List Int → List Int → List Int → Int → Prop) : Prop :=
  br (decide (xi10 < (t0.length : Int)))
  ((0 ≤ xi10 ∧ xi10 < (t0.length : Int)) ∧
    F_spec_pass xb8c0 xb8c1 xb8c2 xb8c3 xb8c4 xb8c5 (List.getD t0 (Int.toNat xi10) (0 : Int)) fun pass44Window pass44Room pass44New pass44Main pass44Sketch pass44Added pass44r1 =>
    F_spec_toInt pass44r1 fun toInt49 =>
    InR (xn9 + toInt49) ∧
    InR (xi10 + 1) ∧
    B0 (xn9 + toInt49) (xi10 + 1) pass44Window pass44Room pass44New pass44Main pass44Sketch pass44Added)
  (F_spec_copyGate xb8c0 xb8c1 xb8c2 xb8c3 xb8c4 xb8c5 fun copyGate52Window copyGate52Room copyGate52New copyGate52Main copyGate52Sketch copyGate52Added =>
    k copyGate52Window copyGate52Room copyGate52New copyGate52Main copyGate52Sketch copyGate52Added xn9)
theorem T0_spec_RunGate_eq (t0 : List Int) (xn9 : Int) (xi10 : Int) (xb8c0 : Int) (xb8c1 : Int) (xb8c2 : List Int) (xb8c3 : List Int) (xb8c4 : List Int) (xb8c5 : Int) (k : Int → Int → List Int → List Int → List Int → Int → Int → Prop) (B0 : Int → Int → Int → Int → List Int → List Int → List Int → Int → Prop) : T0_spec_RunGate t0 xn9 xi10 xb8c0 xb8c1 xb8c2 xb8c3 xb8c4 xb8c5 k B0 = U0_spec_RunGate t0 xn9 xi10 xb8c0 xb8c1 xb8c2 xb8c3 xb8c4 xb8c5 k B0 := by
  simp only [T0_spec_RunGate, U0_spec_RunGate, and_self, and_true]
def L0_spec_RunGate (t0 : List Int) (k : Int → Int → List Int → List Int → List Int → Int → Int → Prop) : Nat → Int → Int → Int → Int → List Int → List Int → List Int → Int → Prop
  | 0, _, _, _, _, _, _, _, _ => False
  | n + 1, xn9, xi10, xb8c0, xb8c1, xb8c2, xb8c3, xb8c4, xb8c5 => U0_spec_RunGate t0 xn9 xi10 xb8c0 xb8c1 xb8c2 xb8c3 xb8c4 xb8c5 k (L0_spec_RunGate t0 k n)
def G_spec_RunGate (t0 : List Int) (window1 : Int) (room2 : Int) (k : Int → Int → List Int → List Int → List Int → Int → Int → Prop) (I0 : List Int → Int → Int → Int → Int → List Int → List Int → List Int → Int → Prop) : Prop :=
  F_spec_validTrace t0 fun validTrace13 =>
  br (!validTrace13)
  (k 0 0 ([] : List Int) ([] : List Int) ([] : List Int) 0 (-1))
  (F_spec_inRange window1 (1 : Int) (8 : Int) fun inRange17 =>
    br (!inRange17)
    (k 0 0 ([] : List Int) ([] : List Int) ([] : List Int) 0 (-1))
    (F_spec_inRange room2 (1 : Int) (8 : Int) fun inRange22 =>
      br (!inRange22)
      (k 0 0 ([] : List Int) ([] : List Int) ([] : List Int) 0 (-1))
      (F_spec_EmptySketch fun emptySketch30 =>
        I0 t0 0 0 window1 room2 ([] : List Int) ([] : List Int) emptySketch30 0)))
def S_spec_RunGate (t0 : List Int) (window1 : Int) (room2 : Int) (k : Int → Int → List Int → List Int → List Int → Int → Int → Prop) : Prop := G_spec_RunGate t0 window1 room2 k (fun t0 xn9 xi10 xb8c0 xb8c1 xb8c2 xb8c3 xb8c4 xb8c5 => ∃ j, L0_spec_RunGate t0 k j xn9 xi10 xb8c0 xb8c1 xb8c2 xb8c3 xb8c4 xb8c5)
def F_spec_RunGate (t : List Int) (w r : Int) (k : Int → Int → List Int → List Int → List Int → Int → Int → Prop) : Prop :=
  ((VTrace t ∧ (1 ≤ w ∧ w ≤ 8) ∧ 1 ≤ r ∧ r ≤ 8) → k w r (runG w r t ⟨[], [], emptyM, 0⟩ 0).1.n (runG w r t ⟨[], [], emptyM, 0⟩ 0).1.m (runG w r t ⟨[], [], emptyM, 0⟩ 0).1.s (runG w r t ⟨[], [], emptyM, 0⟩ 0).1.a (runG w r t ⟨[], [], emptyM, 0⟩ 0).2) ∧
  (¬ (VTrace t ∧ (1 ≤ w ∧ w ≤ 8) ∧ 1 ≤ r ∧ r ≤ 8) → k 0 0 [] [] [] 0 (-1))
theorem F_spec_RunGate_S {t : List Int} {w r : Int} {k : Int → Int → List Int → List Int → List Int → Int → Int → Prop} (h : F_spec_RunGate t w r k) : S_spec_RunGate t w r k := by
  obtain ⟨hyes, hno⟩ := h
  intro b hb
  refine br_not.2 (br_iff.2 ⟨fun e => br_not.2 (br_dec.2 ⟨fun hr => br_not.2 (br_dec.2 ⟨fun hs => ?_, fun hs => hno fun w => hs w.2.2⟩), fun hr => hno fun w => hr w.2.1⟩), fun e => hno fun v => by rw [hb.2 v.1] at e; cases e⟩)
  have v := hb.1 e
  have hk := hyes ⟨v, hr, hs⟩
  have t2 := v.2
  have t1 := v.1
  have key : ∀ (q : List Int) (i : Nat) (g : GT) (n : Int), t.drop i = q → VGate w r g → 0 ≤ n → n ≤ i →
      k w r (runG w r q g n).1.n (runG w r q g n).1.m (runG w r q g n).1.s (runG w r q g n).1.a (runG w r q g n).2 → L0_spec_RunGate t k (q.length + 1) n (i : Int) w r g.n g.m g.s g.a := by
    intro q
    induction q with
    | nil =>
      intro i g n hdr v n0 n1 hk
      have := drop_nil' hdr
      have := gate_len v
      rw [L0_spec_RunGate, U0_spec_RunGate]
      exact br_nd (by omega) ⟨by omega, hk⟩
    | cons x q ih =>
      intro i g n hdr v n0 n1 hk
      obtain ⟨h1, h2, h5, h3, h4⟩ := drop_cons' hdr
      have hx := t2 x (List.mem_of_getElem? h5)
      rw [List.length_cons, L0_spec_RunGate, U0_spec_RunGate]
      simp only [Int.toNat_natCast, h2]
      have := toI_01 (gateM w r g x).2
      have := toI_01 (gateM w r ⟨g.n, g.m, g.s, g.a⟩ x).2
      exact br_yd (by omega) ⟨⟨by omega, by omega⟩, ⟨v, hx⟩, inR (by omega) (by omega), inR (by omega) (by omega), ih (i + 1) (gateM w r ⟨g.n, g.m, g.s, g.a⟩ x).1 _ h3 (gateM_valid v hx) (by omega) (by omega) hk⟩
  exact ⟨_, key t 0 ⟨[], [], emptyM, 0⟩ 0 rfl (gate0 hr hs) (by omega) (by omega) hk⟩
-- impl.validKey
def G_impl_validKey (key0 : Int) (k : Bool → Prop) : Prop :=
  br (decide (0 ≤ key0))
  (k (decide (key0 ≤ 31)))
  (k false)
def S_impl_validKey (key0 : Int) (k : Bool → Prop) : Prop := G_impl_validKey key0 k
def F_impl_validKey (n : Int) (k : Bool → Prop) : Prop := k (decide (0 ≤ n ∧ n ≤ 31))
theorem F_impl_validKey_S {n : Int} {k : Bool → Prop} (h : F_impl_validKey n k) : S_impl_validKey n k := by
  unfold F_impl_validKey at h
  simp only [S_impl_validKey, G_impl_validKey, br_dec]
  refine ⟨fun h1 => ?_, fun h1 => ?_⟩
  · simpa [h1] using h
  · simpa [h1] using h
-- impl.ValidTrace
def T0_impl_ValidTrace (t0 : List Int) (xt9 : Int) (xt10 : Int) (k : Bool → Prop) (B0 : Int → Prop) : Prop :=
  br (decide (xt10 < xt9))
  ((0 ≤ xt10 ∧ xt10 < (t0.length : Int)) ∧
    F_impl_validKey (List.getD t0 (Int.toNat xt10) (0 : Int)) fun validKey15 =>
    br (!validKey15)
    (k false)
    (InR (xt10 + 1) ∧
      B0 (xt10 + 1)))
  (k true)
def L0_impl_ValidTrace (t0 : List Int) (xt9 : Int) (k : Bool → Prop) : Nat → Int → Prop
  | 0, _ => False
  | n + 1, xt10 => T0_impl_ValidTrace t0 xt9 xt10 k (L0_impl_ValidTrace t0 xt9 k n)
def G_impl_ValidTrace (t0 : List Int) (k : Bool → Prop) (I0 : List Int → Int → Int → Prop) : Prop :=
  br (decide ((t0.length : Int) > 24))
  (k false)
  (I0 t0 (t0.length : Int) 0)
def S_impl_ValidTrace (t0 : List Int) (k : Bool → Prop) : Prop := G_impl_ValidTrace t0 k (fun t0 xt9 xt10 => ∃ j, L0_impl_ValidTrace t0 xt9 k j xt10)
def F_impl_ValidTrace (t : List Int) (k : Bool → Prop) : Prop := ∀ b : Bool, (b = true ↔ VTrace t) → k b
theorem F_impl_ValidTrace_S {t : List Int} {k : Bool → Prop} (h : F_impl_ValidTrace t k) : S_impl_ValidTrace t k := by
  have hno : ¬ VTrace t → k false := fun hv => h false (by simp [hv])
  have key : t.length ≤ 24 → ∀ (r : List Int) (i : Nat), t.drop i = r → (∀ x ∈ t.take i, 0 ≤ x ∧ x ≤ 31) → L0_impl_ValidTrace t (t.length : Int) k (r.length + 1) (i : Int) := by
    intro hl r
    induction r with
    | nil =>
      intro i hd he
      have := drop_nil' hd
      rw [List.take_of_length_le this] at he
      rw [L0_impl_ValidTrace, T0_impl_ValidTrace]
      simp only [br_dec]
      exact ⟨fun h => by omega, fun _ => h true (by simp only [true_iff]; exact ⟨hl, he⟩)⟩
    | cons x r ih =>
      intro i hd he
      obtain ⟨h1, h2, h5, h3, h4⟩ := drop_cons' hd
      rw [List.length_cons, L0_impl_ValidTrace, T0_impl_ValidTrace]
      simp only [br_dec, F_impl_validKey, Int.toNat_natCast, h2, br_not]
      refine ⟨fun _ => ⟨⟨by omega, by omega⟩, fun hx => ⟨inR (by omega) (by omega), ih (i + 1) h3 ?_⟩, fun hx => hno fun v => hx (v.2 x (List.mem_of_getElem? h5))⟩, fun h => by omega⟩
      rw [h4]; intro y hy
      rcases List.mem_append.1 hy with hy | hy
      · exact he y hy
      · simp at hy; subst hy; exact hx
  exact br_dec.2 ⟨fun h3 => hno fun v => by have := v.1; omega, fun h3 => ⟨_, key (by omega) t 0 rfl (by simp)⟩⟩
-- impl.validRoom
def G_impl_validRoom (room0 : Int) (k : Bool → Prop) : Prop :=
  br (decide (1 ≤ room0))
  (k (decide (room0 ≤ 8)))
  (k false)
def S_impl_validRoom (room0 : Int) (k : Bool → Prop) : Prop := G_impl_validRoom room0 k
def F_impl_validRoom (n : Int) (k : Bool → Prop) : Prop := k (decide (1 ≤ n ∧ n ≤ 8))
theorem F_impl_validRoom_S {n : Int} {k : Bool → Prop} (h : F_impl_validRoom n k) : S_impl_validRoom n k := by
  unfold F_impl_validRoom at h
  simp only [S_impl_validRoom, G_impl_validRoom, br_dec]
  refine ⟨fun h1 => ?_, fun h1 => ?_⟩
  · simpa [h1] using h
  · simpa [h1] using h
-- impl.EmptySketch
def G_impl_EmptySketch (k : List Int → Prop) : Prop :=
  ((24 : Int) = 24 ∧ 0 ≤ (24 : Int) ∧ (24 : Int) ≤ 1000000000) ∧
  k (List.replicate 24 (0 : Int))
def S_impl_EmptySketch (k : List Int → Prop) : Prop := G_impl_EmptySketch k
def F_impl_EmptySketch (k : List Int → Prop) : Prop := k emptyM
theorem F_impl_EmptySketch_S {k : List Int → Prop} (h : F_impl_EmptySketch k) : S_impl_EmptySketch k := ⟨⟨rfl, by omega, by omega⟩, h⟩
-- slices.Index[[]int,int]
def T0_slices_Index_sint_int (s0 : List Int) (v1 : Int) (xt7 : Int) (xt8 : Int) (k : Int → Prop) (B0 : Int → Prop) : Prop :=
  br (decide (xt8 < xt7))
  ((0 ≤ xt8 ∧ xt8 < (s0.length : Int)) ∧
    br (v1 == (List.getD s0 (Int.toNat xt8) (0 : Int)))
    (k xt8)
    (InR (xt8 + 1) ∧
      B0 (xt8 + 1)))
  (k (-1))
def L0_slices_Index_sint_int (s0 : List Int) (v1 : Int) (xt7 : Int) (k : Int → Prop) : Nat → Int → Prop
  | 0, _ => False
  | n + 1, xt8 => T0_slices_Index_sint_int s0 v1 xt7 xt8 k (L0_slices_Index_sint_int s0 v1 xt7 k n)
def G_slices_Index_sint_int (s0 : List Int) (v1 : Int) (I0 : List Int → Int → Int → Int → Prop) : Prop :=
  I0 s0 v1 (s0.length : Int) 0
def S_slices_Index_sint_int (s0 : List Int) (v1 : Int) (k : Int → Prop) : Prop := G_slices_Index_sint_int s0 v1 (fun s0 v1 xt7 xt8 => ∃ j, L0_slices_Index_sint_int s0 v1 xt7 k j xt8)
def F_slices_Index_sint_int (l : List Int) (n : Int) (k : Int → Prop) : Prop := l.length ≤ 1000000000 ∧ k (plc l n)
theorem F_slices_Index_sint_int_S {l : List Int} {n : Int} {k : Int → Prop} (h : F_slices_Index_sint_int l n k) : S_slices_Index_sint_int l n k := by
  obtain ⟨hl, hk⟩ := h
  have key : ∀ (r : List Int) (i : Nat), l.drop i = r → plcF r n i = plc l n → L0_slices_Index_sint_int l n (l.length : Int) k (r.length + 1) (i : Int) := by
    intro r
    induction r with
    | nil =>
      intro i hd he
      have := drop_nil' hd
      rw [L0_slices_Index_sint_int, T0_slices_Index_sint_int]
      simp only [br_dec]
      exact ⟨fun h => by omega, fun _ => by rw [show (-1 : Int) = plc l n from he]; exact hk⟩
    | cons x r ih =>
      intro i hd he
      obtain ⟨h1, h2, _, h3, _⟩ := drop_cons' hd
      rw [List.length_cons, L0_slices_Index_sint_int, T0_slices_Index_sint_int]
      simp only [br_dec, br_beq, Int.toNat_natCast, h2]
      refine ⟨fun _ => ⟨⟨by omega, by omega⟩, fun hx => ?_, fun hx => ⟨inR (by omega) (by omega), ?_⟩⟩, fun h => by omega⟩
      · simp only [plcF, if_pos hx.symm] at he; rw [he]; exact hk
      · simp only [plcF, if_neg (Ne.symm hx)] at he; exact ih (i + 1) h3 he
  exact ⟨_, key l 0 rfl rfl⟩
-- slices.Contains[[]int,int]
def G_slices_Contains_sint_int (s0 : List Int) (v1 : Int) (k : Bool → Prop) : Prop :=
  F_slices_Index_sint_int s0 v1 fun index7 =>
  k (decide (index7 ≥ 0))
def S_slices_Contains_sint_int (s0 : List Int) (v1 : Int) (k : Bool → Prop) : Prop := G_slices_Contains_sint_int s0 v1 k
def F_slices_Contains_sint_int (l : List Int) (n : Int) (k : Bool → Prop) : Prop := l.length ≤ 1000000000 ∧ k (decide (n ∈ l))
theorem F_slices_Contains_sint_int_S {l : List Int} {n : Int} {k : Bool → Prop} (h : F_slices_Contains_sint_int l n k) : S_slices_Contains_sint_int l n k := by
  refine ⟨h.1, ?_⟩
  have : decide (plc l n ≥ 0) = decide (n ∈ l) := decide_eq_decide.2 plc_ge
  show k (decide (plc l n ≥ 0))
  rw [this]; exact h.2
-- impl.differentKeys
def T0_impl_differentKeys (list0 : List Int) (xt6 : Int) (xt7 : Int) (k : Bool → Prop) (B0 : Int → Prop) : Prop :=
  br (decide (xt7 < xt6))
  ((0 ≤ xt7 ∧ xt7 < (list0.length : Int)) ∧
    F_impl_validKey (List.getD list0 (Int.toNat xt7) (0 : Int)) fun validKey13 =>
    br (!validKey13)
    (k false)
    ((0 ≤ xt7 ∧ xt7 ≤ (list0.length : Int)) ∧
      F_slices_Contains_sint_int (List.take (Int.toNat xt7) list0) (List.getD list0 (Int.toNat xt7) (0 : Int)) fun contains20 =>
      br contains20
      (k false)
      (InR (xt7 + 1) ∧
        B0 (xt7 + 1))))
  (k true)
def L0_impl_differentKeys (list0 : List Int) (xt6 : Int) (k : Bool → Prop) : Nat → Int → Prop
  | 0, _ => False
  | n + 1, xt7 => T0_impl_differentKeys list0 xt6 xt7 k (L0_impl_differentKeys list0 xt6 k n)
def G_impl_differentKeys (list0 : List Int) (I0 : List Int → Int → Int → Prop) : Prop :=
  I0 list0 (list0.length : Int) 0
def S_impl_differentKeys (list0 : List Int) (k : Bool → Prop) : Prop := G_impl_differentKeys list0 (fun list0 xt6 xt7 => ∃ j, L0_impl_differentKeys list0 xt6 k j xt7)
def F_impl_differentKeys (l : List Int) (k : Bool → Prop) : Prop := l.length ≤ 1000000000 ∧ ∀ b : Bool, (b = true ↔ (∀ x ∈ l, 0 ≤ x ∧ x ≤ 31) ∧ l.Nodup) → k b
theorem F_impl_differentKeys_S {l : List Int} {k : Bool → Prop} (h : F_impl_differentKeys l k) : S_impl_differentKeys l k := by
  obtain ⟨hl, h⟩ := h
  have hno : ¬ ((∀ x ∈ l, 0 ≤ x ∧ x ≤ 31) ∧ l.Nodup) → k false := fun hv => h false (by simp only [Bool.false_eq_true, false_iff]; exact hv)
  have key : ∀ (r : List Int) (i : Nat), l.drop i = r → (∀ x ∈ l.take i, 0 ≤ x ∧ x ≤ 31) → (l.take i).Nodup → L0_impl_differentKeys l (l.length : Int) k (r.length + 1) (i : Int) := by
    intro r
    induction r with
    | nil =>
      intro i hd he hn
      have := drop_nil' hd
      rw [List.take_of_length_le this] at he hn
      rw [L0_impl_differentKeys, T0_impl_differentKeys]
      simp only [br_dec]
      exact ⟨fun h => by omega, fun _ => h true (by simp only [true_iff]; exact ⟨he, hn⟩)⟩
    | cons x r ih =>
      intro i hd he hn
      obtain ⟨h1, h2, h5, h3, h4⟩ := drop_cons' hd
      rw [List.length_cons, L0_impl_differentKeys, T0_impl_differentKeys]
      simp only [br_dec, F_impl_validKey, F_slices_Contains_sint_int, Int.toNat_natCast, h2, br_not]
      have hxl : x ∈ l := List.mem_of_getElem? h5
      refine ⟨fun _ => ⟨⟨by omega, by omega⟩, fun hx => ⟨⟨by omega, by omega⟩, by simp; omega, fun hc => ?_, fun hc => ⟨inR (by omega) (by omega), ?_⟩⟩, fun hx => hno fun v => hx (v.1 x hxl)⟩, fun h => by omega⟩
      · refine hno fun v => ?_
        have hn2 := v.2
        rw [← List.take_append_drop i l, hd] at hn2
        exact (List.nodup_append.1 hn2).2.2 x hc x (by simp) rfl
      · refine ih (i + 1) h3 ?_ ?_
        · rw [h4]; intro y hy
          rcases List.mem_append.1 hy with hy | hy
          · exact he y hy
          · simp at hy; subst hy; exact hx
        · rw [h4, List.nodup_append]
          refine ⟨hn, by simp, fun a ha b hb e => ?_⟩
          simp at hb; subst hb; subst e; exact hc ha
  exact ⟨_, key l 0 rfl (by simp) (by simp)⟩
-- impl.ValidKeys
def G_impl_ValidKeys (list0 : List Int) (room1 : Int) (k : Bool → Prop) : Prop :=
  F_impl_validRoom room1 fun validRoom6 =>
  br validRoom6
  (br (decide ((list0.length : Int) ≤ room1))
    (F_impl_differentKeys list0 fun differentKeys15 =>
      k differentKeys15)
    (k false))
  (k false)
def S_impl_ValidKeys (list0 : List Int) (room1 : Int) (k : Bool → Prop) : Prop := G_impl_ValidKeys list0 room1 k
def F_impl_ValidKeys (l : List Int) (room : Int) (k : Bool → Prop) : Prop := ∀ b : Bool, (b = true ↔ VKeys l room) → k b
theorem F_impl_ValidKeys_S {l : List Int} {room : Int} {k : Bool → Prop} (h : F_impl_ValidKeys l room k) : S_impl_ValidKeys l room k := by
  have hno : ¬ VKeys l room → k false := fun hv => h false (by simp [hv])
  refine br_dec.2 ⟨fun h1 => br_dec.2 ⟨fun h3 => ⟨by omega, fun b hb => h b ?_⟩, fun h3 => hno fun v => by have := v.2.2.1; omega⟩, fun h1 => hno fun v => h1 ⟨v.1, v.2.1⟩⟩
  rw [hb]
  exact ⟨fun g => ⟨h1.1, h1.2, h3, g.1, g.2⟩, fun v => v.2.2.2⟩
-- impl.ValidSketch
def T0_impl_ValidSketch (s0 : List Int) (xt9 : Int) (xt10 : Int) (k : Bool → Prop) (B0 : Int → Prop) : Prop :=
  br (decide (xt10 < xt9))
  ((0 ≤ xt10 ∧ xt10 < (s0.length : Int)) ∧
    br (decide ((List.getD s0 (Int.toNat xt10) (0 : Int)) < 0))
    (k false)
    (br (decide ((List.getD s0 (Int.toNat xt10) (0 : Int)) > 15))
      (k false)
      (InR (xt10 + 1) ∧
        B0 (xt10 + 1))))
  (k true)
def L0_impl_ValidSketch (s0 : List Int) (xt9 : Int) (k : Bool → Prop) : Nat → Int → Prop
  | 0, _ => False
  | n + 1, xt10 => T0_impl_ValidSketch s0 xt9 xt10 k (L0_impl_ValidSketch s0 xt9 k n)
def G_impl_ValidSketch (s0 : List Int) (k : Bool → Prop) (I0 : List Int → Int → Int → Prop) : Prop :=
  br ((s0.length : Int) != 24)
  (k false)
  (I0 s0 (s0.length : Int) 0)
def S_impl_ValidSketch (s0 : List Int) (k : Bool → Prop) : Prop := G_impl_ValidSketch s0 k (fun s0 xt9 xt10 => ∃ j, L0_impl_ValidSketch s0 xt9 k j xt10)
def F_impl_ValidSketch (s : List Int) (k : Bool → Prop) : Prop := ∀ b : Bool, (b = true ↔ VSk s) → k b
theorem F_impl_ValidSketch_S {s : List Int} {k : Bool → Prop} (h : F_impl_ValidSketch s k) : S_impl_ValidSketch s k := by
  have no : ¬ VSk s → k false := fun hv => h false (by simp [hv])
  refine br_bne.2 ⟨fun hl => no fun v => absurd (by have := v.1; omega) hl, fun hl => ?_⟩
  have key : ∀ (r : List Int) (i : Nat), s.drop i = r → (∀ x ∈ s.take i, 0 ≤ x ∧ x ≤ 15) → L0_impl_ValidSketch s (s.length : Int) k (r.length + 1) (i : Int) := by
    intro r
    induction r with
    | nil =>
      intro i hd he
      have := drop_nil' hd
      rw [List.take_of_length_le this] at he
      rw [L0_impl_ValidSketch, T0_impl_ValidSketch]
      exact br_nd (by omega) (h true (by simp only [true_iff]; exact ⟨by omega, he⟩))
    | cons x r ih =>
      intro i hd he
      obtain ⟨h1, h2, h5, h3, h4⟩ := drop_cons' hd
      have hm := List.mem_of_getElem? h5
      rw [List.length_cons, L0_impl_ValidSketch, T0_impl_ValidSketch]
      simp only [Int.toNat_natCast, h2]
      refine br_yd (by omega) ⟨⟨by omega, by omega⟩, br_dec.2 ⟨fun g => no fun v => by have := v.2 x hm; omega, fun g1 => br_dec.2 ⟨fun g => no fun v => by have := v.2 x hm; omega, fun g2 => ⟨inR (by omega) (by omega), ih (i + 1) h3 ?_⟩⟩⟩⟩
      rw [h4]; intro y hy
      rcases List.mem_append.1 hy with hy | hy
      · exact he y hy
      · rw [List.mem_singleton.1 hy]; omega
  exact ⟨_, key s 0 rfl (by simp)⟩
-- slices.Concat[[]int,int]
def T1_slices_Concat_sint_int (slices0 : List (List Int)) (xt26 : Int) (xt27 : Int) (xnewslice6 : List Int) (k : List Int → Prop) (B1 : Int → Int → List Int → Prop) : Prop :=
  br (decide (xt27 < xt26))
  ((0 ≤ xt27 ∧ xt27 < (slices0.length : Int)) ∧
    (xnewslice6.length + (List.length (List.getD slices0 (Int.toNat xt27) [])) ≤ 1000000000) ∧
    InR (xt27 + 1) ∧
    B1 xt26 (xt27 + 1) (xnewslice6 ++ (List.getD slices0 (Int.toNat xt27) [])))
  (k xnewslice6)
def L1_slices_Concat_sint_int (slices0 : List (List Int)) (k : List Int → Prop) : Nat → Int → Int → List Int → Prop
  | 0, _, _, _ => False
  | n + 1, xt26, xt27, xnewslice6 => T1_slices_Concat_sint_int slices0 xt26 xt27 xnewslice6 k (L1_slices_Concat_sint_int slices0 k n)
def T0_slices_Concat_sint_int (slices0 : List (List Int)) (xt10 : Int) (xsize3 : Int) (xt11 : Int) (B0 : Int → Int → Prop) (I1 : List (List Int) → Int → Int → List Int → Prop) : Prop :=
  br (decide (xt11 < xt10))
  ((0 ≤ xt11 ∧ xt11 < (slices0.length : Int)) ∧
    InR (xsize3 + ((List.length (List.getD slices0 (Int.toNat xt11) [])) : Int)) ∧
    br (decide ((xsize3 + ((List.length (List.getD slices0 (Int.toNat xt11) [])) : Int)) < 0))
    (False)
    (InR (xt11 + 1) ∧
      B0 (xsize3 + ((List.length (List.getD slices0 (Int.toNat xt11) [])) : Int)) (xt11 + 1)))
  (br (decide (xsize3 < 0))
    (False)
    (InR ((0 : Int) - 0) ∧
      InR (xsize3 - 0) ∧
      br (decide ((xsize3 - 0) > 0))
      (((0 : Int) = 0) ∧
        (0 ≤ (xsize3 - 0) ∧ (xsize3 - 0) ≤ 1000000000) ∧
        (0 ≤ (0 : Int) ∧ 0 ≤ ((List.length (List.replicate (Int.toNat (xsize3 - 0)) (0 : Int))) : Int)) ∧
        I1 slices0 (slices0.length : Int) 0 (List.take 0 (List.drop 0 (List.replicate (Int.toNat (xsize3 - 0)) (0 : Int)))))
      (I1 slices0 (slices0.length : Int) 0 ([] : List Int))))
def L0_slices_Concat_sint_int (slices0 : List (List Int)) (xt10 : Int) (k : List Int → Prop) : Nat → Int → Int → Prop
  | 0, _, _ => False
  | n + 1, xsize3, xt11 => T0_slices_Concat_sint_int slices0 xt10 xsize3 xt11 (L0_slices_Concat_sint_int slices0 xt10 k n) (fun slices0 xt26 xt27 xnewslice6 => ∃ j, L1_slices_Concat_sint_int slices0 k j xt26 xt27 xnewslice6)
def G_slices_Concat_sint_int (slices0 : List (List Int)) (I0 : List (List Int) → Int → Int → Int → Prop) : Prop :=
  I0 slices0 (slices0.length : Int) 0 0
def S_slices_Concat_sint_int (slices0 : List (List Int)) (k : List Int → Prop) : Prop := G_slices_Concat_sint_int slices0 (fun slices0 xt10 xsize3 xt11 => ∃ j, L0_slices_Concat_sint_int slices0 xt10 k j xsize3 xt11)
def F_slices_Concat_sint_int (ls : List (List Int)) (k : List Int → Prop) : Prop := (ls.length ≤ 1000000000 ∧ ls.flatten.length ≤ 1000000000) ∧ k ls.flatten
theorem F_slices_Concat_sint_int_S {ls : List (List Int)} {k : List Int → Prop} (h : F_slices_Concat_sint_int ls k) : S_slices_Concat_sint_int ls k := by
  obtain ⟨⟨hl, ht⟩, hk⟩ := h
  have le : ∀ i, (ls.take i).flatten.length ≤ ls.flatten.length := fun i => by
    have := congrArg List.length (congrArg List.flatten (List.take_append_drop i ls))
    rw [List.flatten_append, List.length_append] at this
    omega
  have key1 : ∀ (r : List (List Int)) (i : Nat), ls.drop i = r → L1_slices_Concat_sint_int ls k (r.length + 1) (ls.length : Int) (i : Int) (ls.take i).flatten := by
    intro r
    induction r with
    | nil =>
      intro i hd
      have := drop_nil' hd
      rw [List.take_of_length_le this, L1_slices_Concat_sint_int, T1_slices_Concat_sint_int]
      exact br_dec.2 ⟨fun h => by omega, fun _ => hk⟩
    | cons x r ih =>
      intro i hd
      obtain ⟨h1, h2, h5, h3, h4⟩ := drop_cons' hd
      have hle := le (i + 1)
      have he : (ls.take (i + 1)).flatten = (ls.take i).flatten ++ x := by rw [h4]; simp
      have := ih (i + 1) h3
      rw [he] at this hle
      rw [List.length_append] at hle
      rw [List.length_cons, L1_slices_Concat_sint_int, T1_slices_Concat_sint_int]
      simp only [br_dec, Int.toNat_natCast, h2]
      exact ⟨fun _ => ⟨⟨by omega, by omega⟩, by omega, inR (by omega) (by omega), this⟩, fun h => by omega⟩
  have key : ∀ (r : List (List Int)) (i : Nat), ls.drop i = r → L0_slices_Concat_sint_int ls (ls.length : Int) k (r.length + 1) ((ls.take i).flatten.length : Int) (i : Int) := by
    intro r
    induction r with
    | nil =>
      intro i hd
      have := drop_nil' hd
      rw [List.take_of_length_le this, L0_slices_Concat_sint_int, T0_slices_Concat_sint_int]
      refine br_dec.2 ⟨fun h => by omega, fun _ => br_dec.2 ⟨fun h => by omega, fun _ => ⟨inR (by omega) (by omega), inR (by omega) (by omega), br_dec.2 ⟨fun h => ⟨rfl, ⟨by omega, by omega⟩, ⟨by omega, by omega⟩, ⟨_, key1 ls 0 rfl⟩⟩, fun h => ⟨_, key1 ls 0 rfl⟩⟩⟩⟩⟩
    | cons x r ih =>
      intro i hd
      obtain ⟨h1, h2, h5, h3, h4⟩ := drop_cons' hd
      have hle := le (i + 1)
      have he : (ls.take (i + 1)).flatten = (ls.take i).flatten ++ x := by rw [h4]; simp
      have := ih (i + 1) h3
      rw [he, List.length_append] at this hle
      rw [List.length_cons, L0_slices_Concat_sint_int, T0_slices_Concat_sint_int]
      simp only [br_dec, Int.toNat_natCast, h2]
      have e2 : (((ls.take i).flatten.length + x.length : Nat) : Int) = ((ls.take i).flatten.length : Int) + (x.length : Int) := by omega
      rw [e2] at this
      refine ⟨fun _ => ⟨⟨by omega, by omega⟩, inR (by omega) (by omega), fun h => by omega, fun _ => ⟨inR (by omega) (by omega), this⟩⟩, fun h => by omega⟩
  exact ⟨_, key ls 0 rfl⟩
-- impl.ValidGate
def G_impl_ValidGate (g0Window : Int) (g0Room : Int) (g0New : List Int) (g0Main : List Int) (g0Sketch : List Int) (g0Added : Int) (k : Bool → Prop) : Prop :=
  F_impl_ValidKeys g0New g0Window fun validKeys7 =>
  br (!validKeys7)
  (k false)
  (F_impl_ValidKeys g0Main g0Room fun validKeys14 =>
    br (!validKeys14)
    (k false)
    (F_impl_ValidSketch g0Sketch fun validSketch20 =>
      br (!validSketch20)
      (k false)
      (F_slices_Concat_sint_int ([g0New, g0Main] : List (List Int)) fun concat28 =>
        F_impl_differentKeys concat28 fun differentKeys29 =>
        br differentKeys29
        (br (decide (0 ≤ g0Added))
          (k (decide (g0Added < 16)))
          (k false))
        (k false))))
def S_impl_ValidGate (g0Window : Int) (g0Room : Int) (g0New : List Int) (g0Main : List Int) (g0Sketch : List Int) (g0Added : Int) (k : Bool → Prop) : Prop := G_impl_ValidGate g0Window g0Room g0New g0Main g0Sketch g0Added k
def F_impl_ValidGate (w r : Int) (n m s : List Int) (a : Int) (k : Bool → Prop) : Prop := ∀ b : Bool, (b = true ↔ VGate w r ⟨n, m, s, a⟩) → k b
theorem F_impl_ValidGate_S {w r : Int} {n m s : List Int} {a : Int} {k : Bool → Prop} (h : F_impl_ValidGate w r n m s a k) : S_impl_ValidGate w r n m s a k := by
  have no : ¬ VGate w r ⟨n, m, s, a⟩ → k false := fun hv => h false (by simp [hv])
  intro b1 hb1
  refine br_not.2 (br_iff.2 ⟨fun e1 => ?_, fun e => no fun v => by rw [hb1.2 v.1.1] at e; cases e⟩)
  intro b2 hb2
  refine br_not.2 (br_iff.2 ⟨fun e2 => ?_, fun e => no fun v => by rw [hb2.2 v.1.2.1] at e; cases e⟩)
  intro b3 hb3
  refine br_not.2 (br_iff.2 ⟨fun e3 => ?_, fun e => no fun v => by rw [hb3.2 v.2.1] at e; cases e⟩)
  have v1 := hb1.1 e1
  have v2 := hb2.1 e2
  have v3 := hb3.1 e3
  have l1 := vkeys_len v1
  have l2 := vkeys_len v2
  have e : ([n, m] : List (List Int)).flatten = n ++ m := by simp
  refine ⟨⟨by simp, by rw [e, List.length_append]; omega⟩, ?_⟩
  rw [e]
  refine ⟨by rw [List.length_append]; omega, fun b4 hb4 => br_iff.2 ⟨fun e4 => ?_, fun e => no fun v => ?_⟩⟩
  · have hd := (hb4.1 e4).2
    have vs : VSegs w r n m := ⟨v1, v2, fun x hx hm => (List.nodup_append.1 hd).2.2 x hx x hm rfl⟩
    refine br_dec.2 ⟨fun g1 => h _ ?_, fun g1 => no fun v => g1 v.2.2.1⟩
    rw [decide_eq_true_iff]
    exact ⟨fun g2 => ⟨vs, v3, g1, by simp only; omega⟩, fun v => by have := v.2.2.2; simp only at this; omega⟩
  · have := hb4.2 ⟨fun x hx => (List.mem_append.1 hx).elim (v1.2.2.2.1 x) (v2.2.2.2.1 x), List.nodup_append.2 ⟨v1.2.2.2.2, v2.2.2.2.2, fun x hx y hy c => v.1.2.2 x hx (by rw [c]; exact hy)⟩⟩
    rw [this] at e; cases e
-- impl.withoutKey
def T0_impl_withoutKey (key1 : Int) (list0 : List Int) (xt10 : Int) (xt11 : Int) (xout5 : List Int) (k : List Int → Prop) (B0 : Int → List Int → Prop) : Prop :=
  br (decide (xt11 < xt10))
  ((0 ≤ xt11 ∧ xt11 < (list0.length : Int)) ∧
    br ((List.getD list0 (Int.toNat xt11) (0 : Int)) != key1)
    ((xout5.length + 1 ≤ 1000000000) ∧
      InR (xt11 + 1) ∧
      B0 (xt11 + 1) (xout5 ++ ([(List.getD list0 (Int.toNat xt11) (0 : Int))] : List Int)))
    (InR (xt11 + 1) ∧
      B0 (xt11 + 1) xout5))
  (k xout5)
def L0_impl_withoutKey (key1 : Int) (list0 : List Int) (xt10 : Int) (k : List Int → Prop) : Nat → Int → List Int → Prop
  | 0, _, _ => False
  | n + 1, xt11, xout5 => T0_impl_withoutKey key1 list0 xt10 xt11 xout5 k (L0_impl_withoutKey key1 list0 xt10 k n)
def G_impl_withoutKey (list0 : List Int) (key1 : Int) (I0 : Int → List Int → Int → Int → List Int → Prop) : Prop :=
  I0 key1 list0 (list0.length : Int) 0 ([] : List Int)
def S_impl_withoutKey (list0 : List Int) (key1 : Int) (k : List Int → Prop) : Prop := G_impl_withoutKey list0 key1 (fun key1 list0 xt10 xt11 xout5 => ∃ j, L0_impl_withoutKey key1 list0 xt10 k j xt11 xout5)
def F_impl_withoutKey (l : List Int) (key : Int) (k : List Int → Prop) : Prop := l.length ≤ 1000000000 ∧ k (rmK l key)
theorem F_impl_withoutKey_S {l : List Int} {key : Int} {k : List Int → Prop} (h : F_impl_withoutKey l key k) : S_impl_withoutKey l key k := by
  obtain ⟨hl, hk⟩ := h
  have key1 : ∀ (r : List Int) (i : Nat) (out : List Int), l.drop i = r → out.length ≤ i → out ++ rmK r key = rmK l key → L0_impl_withoutKey key l (l.length : Int) k (r.length + 1) (i : Int) out := by
    intro r
    induction r with
    | nil =>
      intro i out hd ho he
      have := drop_nil' hd
      rw [L0_impl_withoutKey, T0_impl_withoutKey]
      simp only [br_dec]
      refine ⟨fun h => by omega, fun _ => ?_⟩
      have : out = rmK l key := by simpa [rmK] using he
      rw [this]; exact hk
    | cons x r ih =>
      intro i out hd ho he
      obtain ⟨h1, h2, _, h3, _⟩ := drop_cons' hd
      rw [List.length_cons, L0_impl_withoutKey, T0_impl_withoutKey]
      simp only [br_dec, br_bne, Int.toNat_natCast, h2]
      refine ⟨fun _ => ⟨⟨by omega, by omega⟩, fun hx => ⟨by omega, inR (by omega) (by omega), ?_⟩, fun hx => ⟨inR (by omega) (by omega), ?_⟩⟩, fun h => by omega⟩
      · exact ih (i + 1) (out ++ [x]) h3 (by simp; omega) (by rw [← he, rmK_cons_ne hx]; simp)
      · exact ih (i + 1) out h3 (by omega) (by rw [← he, hx, rmK_cons_eq])
  exact ⟨_, key1 l 0 [] rfl (by simp) rfl⟩
-- impl.CellOf
def G_impl_CellOf (row0 : Int) (key1 : Int) (k : Int → Prop) : Prop :=
  br (decide (row0 < 0))
  (k (-1))
  (br (decide (row0 ≥ 3))
    (k (-1))
    (F_impl_validKey key1 fun validKey14 =>
      br (!validKey14)
      (k (-1))
      (InR (2 * row0) ∧
        InR (37 + (2 * row0)) ∧
        InR (key1 + row0) ∧
        InR ((37 + (2 * row0)) * (key1 + row0)) ∧
        ((101 : Int) ≠ 0) ∧
        InR (row0 * 8) ∧
        ((8 : Int) ≠ 0) ∧
        InR ((row0 * 8) + (Int.tmod (Int.tmod ((37 + (2 * row0)) * (key1 + row0)) 101) 8)) ∧
        k ((row0 * 8) + (Int.tmod (Int.tmod ((37 + (2 * row0)) * (key1 + row0)) 101) 8)))))
def S_impl_CellOf (row0 : Int) (key1 : Int) (k : Int → Prop) : Prop := G_impl_CellOf row0 key1 k
def F_impl_CellOf (row key : Int) (k : Int → Prop) : Prop := ((0 ≤ row ∧ row ≤ 2) ∧ 0 ≤ key ∧ key ≤ 31 → k (cellM row key)) ∧ (¬ ((0 ≤ row ∧ row ≤ 2) ∧ 0 ≤ key ∧ key ≤ 31) → k (-1))
theorem F_impl_CellOf_S {row key : Int} {k : Int → Prop} (h : F_impl_CellOf row key k) : S_impl_CellOf row key k := by
  obtain ⟨hyes, hno⟩ := h
  refine br_dec.2 ⟨fun h => hno fun w => by omega, fun h0 => br_dec.2 ⟨fun h => hno fun w => by omega, fun h1 => br_not.2 (br_dec.2 ⟨fun hk => ?_, fun hk => hno fun w => hk w.2⟩)⟩⟩
  have hp := cell_prod (row := row) (key := key) (by omega) (by omega) hk.1 hk.2
  have hr := cellM_range (row := row) (key := key) (by omega) hk.1
  unfold cellM at hr
  exact ⟨inR (by omega) (by omega), inR (by omega) (by omega), inR (by omega) (by omega), inR (by omega) (by omega), by omega, inR (by omega) (by omega), by omega, inR (by omega) (by omega), hyes ⟨⟨by omega, by omega⟩, hk⟩⟩
-- impl.AddKey
def T0_impl_AddKey (key1 : Int) (xt22 : Int) (xy18 : List Int) (k : List Int → Prop) (B0 : Int → List Int → Prop) : Prop :=
  br (decide (xt22 < 3))
  (F_impl_CellOf xt22 key1 fun cellOf27 =>
    (0 ≤ cellOf27 ∧ cellOf27 < (xy18.length : Int)) ∧
    InR ((List.getD xy18 (Int.toNat cellOf27) (0 : Int)) + 1) ∧
    (0 ≤ cellOf27 ∧ cellOf27 < (xy18.length : Int)) ∧
    InR (xt22 + 1) ∧
    B0 (xt22 + 1) (List.set xy18 (Int.toNat cellOf27) (if 15 < ((List.getD xy18 (Int.toNat cellOf27) (0 : Int)) + 1) then (15 : Int) else ((List.getD xy18 (Int.toNat cellOf27) (0 : Int)) + 1))))
  (k xy18)
def L0_impl_AddKey (key1 : Int) (k : List Int → Prop) : Nat → Int → List Int → Prop
  | 0, _, _ => False
  | n + 1, xt22, xy18 => T0_impl_AddKey key1 xt22 xy18 k (L0_impl_AddKey key1 k n)
def G_impl_AddKey (s0 : List Int) (key1 : Int) (k : List Int → Prop) (I0 : Int → Int → List Int → Prop) : Prop :=
  F_impl_ValidSketch s0 fun validSketch9 =>
  br (!validSketch9)
  (k ([] : List Int))
  (F_impl_validKey key1 fun validKey13 =>
    br (!validKey13)
    (k ([] : List Int))
    (((s0.length : Int) = (s0.length : Int) ∧ 0 ≤ (s0.length : Int) ∧ (s0.length : Int) ≤ 1000000000) ∧
      ((List.length (List.replicate (Int.toNat (s0.length : Int)) (0 : Int))) = s0.length) ∧
      I0 key1 0 s0))
def S_impl_AddKey (s0 : List Int) (key1 : Int) (k : List Int → Prop) : Prop := G_impl_AddKey s0 key1 k (fun key1 xt22 xy18 => ∃ j, L0_impl_AddKey key1 k j xt22 xy18)
def F_impl_AddKey (s : List Int) (key : Int) (k : List Int → Prop) : Prop := (VSk s ∧ 0 ≤ key ∧ key ≤ 31 → k (addM s key)) ∧ (¬ (VSk s ∧ 0 ≤ key ∧ key ≤ 31) → k [])
theorem F_impl_AddKey_S {s : List Int} {key : Int} {k : List Int → Prop} (h : F_impl_AddKey s key k) : S_impl_AddKey s key k := by
  obtain ⟨hyes, hno⟩ := h
  intro b hb
  refine br_not.2 (br_iff.2 ⟨fun e => ?_, fun e => hno fun w => by rw [hb.2 w.1] at e; cases e⟩)
  have v := hb.1 e
  refine br_not.2 (br_dec.2 ⟨fun hkey => ?_, fun hkey => hno fun w => hkey w.2⟩)
  have hk := hyes ⟨v, hkey⟩
  have step : ∀ (row : Int) (q : List Int) (n : Nat), 0 ≤ row → row ≤ 2 → VSk q → L0_impl_AddKey key k n (row + 1) (bumpM q (cellM row key)) → L0_impl_AddKey key k (n + 1) row q := by
    intro row q n r0 r1 w next
    have hr := cellM_range (key := key) r0 hkey.1
    have hl := w.1
    have hg := w.get (cellM row key).toNat
    rw [L0_impl_AddKey, T0_impl_AddKey]
    exact br_yd (by omega) (yes ⟨⟨r0, r1⟩, hkey⟩ ⟨⟨by omega, by omega⟩, inR (by omega) (by omega), ⟨by omega, by omega⟩, inR (by omega) (by omega), next⟩)
  refine ⟨⟨rfl, by omega, by have := v.1; omega⟩, by simp, 4, step 0 s 3 (by omega) (by omega) v (step 1 _ 2 (by omega) (by omega) (v.bump _) (step 2 _ 1 (by omega) (by omega) ((v.bump _).bump _) ?_))⟩
  rw [L0_impl_AddKey, T0_impl_AddKey]
  exact br_nd (by omega) hk
-- impl.HalveSketch
def T0_impl_HalveSketch (s0 : List Int) (xt13 : Int) (xt14 : Int) (xy11 : List Int) (k : List Int → Prop) (B0 : Int → List Int → Prop) : Prop :=
  br (decide (xt14 < xt13))
  ((0 ≤ xt14 ∧ xt14 < (s0.length : Int)) ∧
    ((2 : Int) ≠ 0 ∧ InR (Int.tdiv (List.getD s0 (Int.toNat xt14) (0 : Int)) 2)) ∧
    (0 ≤ xt14 ∧ xt14 < (xy11.length : Int)) ∧
    InR (xt14 + 1) ∧
    B0 (xt14 + 1) (List.set xy11 (Int.toNat xt14) (Int.tdiv (List.getD s0 (Int.toNat xt14) (0 : Int)) 2)))
  (k xy11)
def L0_impl_HalveSketch (s0 : List Int) (xt13 : Int) (k : List Int → Prop) : Nat → Int → List Int → Prop
  | 0, _, _ => False
  | n + 1, xt14, xy11 => T0_impl_HalveSketch s0 xt13 xt14 xy11 k (L0_impl_HalveSketch s0 xt13 k n)
def G_impl_HalveSketch (s0 : List Int) (k : List Int → Prop) (I0 : List Int → Int → Int → List Int → Prop) : Prop :=
  F_impl_ValidSketch s0 fun validSketch7 =>
  br (!validSketch7)
  (k ([] : List Int))
  (((s0.length : Int) = (s0.length : Int) ∧ 0 ≤ (s0.length : Int) ∧ (s0.length : Int) ≤ 1000000000) ∧
    I0 s0 (s0.length : Int) 0 (List.replicate (Int.toNat (s0.length : Int)) (0 : Int)))
def S_impl_HalveSketch (s0 : List Int) (k : List Int → Prop) : Prop := G_impl_HalveSketch s0 k (fun s0 xt13 xt14 xy11 => ∃ j, L0_impl_HalveSketch s0 xt13 k j xt14 xy11)
def F_impl_HalveSketch (s : List Int) (k : List Int → Prop) : Prop := (VSk s → k (halveM s)) ∧ (¬ VSk s → k [])
theorem F_impl_HalveSketch_S {s : List Int} {k : List Int → Prop} (h : F_impl_HalveSketch s k) : S_impl_HalveSketch s k := by
  obtain ⟨hyes, hno⟩ := h
  intro b hb
  refine br_not.2 (br_iff.2 ⟨fun e => ?_, fun e => hno fun w => by rw [hb.2 w] at e; cases e⟩)
  have v := hb.1 e
  have hk := hyes v
  have hl := v.1
  have go : ∀ (m i : Nat), i + m = s.length → L0_impl_HalveSketch s (s.length : Int) k (m + 1) (i : Int) (((s.take i).map fun x => Int.tdiv x 2) ++ List.replicate m 0) := by
    intro m
    induction m with
    | zero =>
      intro i hi
      rw [show s.take i = s from List.take_of_length_le (by omega), L0_impl_HalveSketch, T0_impl_HalveSketch]
      rw [List.replicate_zero, List.append_nil]
      exact br_nd (by omega) hk
    | succ m ih =>
      intro i hi
      have next := ih (i + 1) (by omega)
      have hr := half_range (v.get i)
      rw [take_get (by omega), List.map_append, List.append_assoc] at next
      have hm : ((s.take i).map fun x => Int.tdiv x 2).length = i := by rw [List.length_map, List.length_take]; omega
      rw [L0_impl_HalveSketch, T0_impl_HalveSketch]
      simp only [Int.toNat_natCast]
      refine br_yd (by omega) ⟨⟨by omega, by omega⟩, ⟨by omega, inR (by omega) (by omega)⟩, ⟨by omega, by rw [List.length_append, hm, List.length_replicate]; omega⟩, inR (by omega) (by omega), ?_⟩
      rw [List.replicate_succ, set_mid hm]
      exact next
  refine ⟨⟨rfl, by omega, by omega⟩, s.length + 1, ?_⟩
  exact go s.length 0 (by omega)
-- impl.putFirst
def G_impl_putFirst (list0 : List Int) (key1 : Int) (k : List Int → Prop) : Prop :=
  (1 + list0.length ≤ 1000000000) ∧
  k (([key1] : List Int) ++ list0)
def S_impl_putFirst (list0 : List Int) (key1 : Int) (k : List Int → Prop) : Prop := G_impl_putFirst list0 key1 k
def F_impl_putFirst (l : List Int) (x : Int) (k : List Int → Prop) : Prop := l.length ≤ 999999999 ∧ k (x :: l)
theorem F_impl_putFirst_S {l : List Int} {x : Int} {k : List Int → Prop} (h : F_impl_putFirst l x k) : S_impl_putFirst l x k := ⟨by have := h.1; omega, h.2⟩
-- impl.CountOf
def T0_impl_CountOf (key1 : Int) (s0 : List Int) (xleast5 : Int) (xt15 : Int) (k : Int → Prop) (B0 : Int → Int → Prop) : Prop :=
  br (decide (xt15 < 3))
  (F_impl_CellOf xt15 key1 fun cellOf22 =>
    (0 ≤ cellOf22 ∧ cellOf22 < (s0.length : Int)) ∧
    InR (xt15 + 1) ∧
    B0 (if (List.getD s0 (Int.toNat cellOf22) (0 : Int)) < xleast5 then (List.getD s0 (Int.toNat cellOf22) (0 : Int)) else xleast5) (xt15 + 1))
  (k xleast5)
def L0_impl_CountOf (key1 : Int) (s0 : List Int) (k : Int → Prop) : Nat → Int → Int → Prop
  | 0, _, _ => False
  | n + 1, xleast5, xt15 => T0_impl_CountOf key1 s0 xleast5 xt15 k (L0_impl_CountOf key1 s0 k n)
def G_impl_CountOf (s0 : List Int) (key1 : Int) (k : Int → Prop) (I0 : Int → List Int → Int → Int → Prop) : Prop :=
  F_impl_ValidSketch s0 fun validSketch8 =>
  br (!validSketch8)
  (k (-1))
  (F_impl_validKey key1 fun validKey12 =>
    br (!validKey12)
    (k (-1))
    (I0 key1 s0 15 0))
def S_impl_CountOf (s0 : List Int) (key1 : Int) (k : Int → Prop) : Prop := G_impl_CountOf s0 key1 k (fun key1 s0 xleast5 xt15 => ∃ j, L0_impl_CountOf key1 s0 k j xleast5 xt15)
def F_impl_CountOf (s : List Int) (key : Int) (k : Int → Prop) : Prop := (VSk s ∧ 0 ≤ key ∧ key ≤ 31 → k (countM s key)) ∧ (¬ (VSk s ∧ 0 ≤ key ∧ key ≤ 31) → k (-1))
theorem F_impl_CountOf_S {s : List Int} {key : Int} {k : Int → Prop} (h : F_impl_CountOf s key k) : S_impl_CountOf s key k := by
  obtain ⟨hyes, hno⟩ := h
  intro b hb
  refine br_not.2 (br_iff.2 ⟨fun e => ?_, fun e => hno fun w => by rw [hb.2 w.1] at e; cases e⟩)
  have v := hb.1 e
  refine br_not.2 (br_dec.2 ⟨fun hkey => ?_, fun hkey => hno fun w => hkey w.2⟩)
  have hk := hyes ⟨v, hkey⟩
  have step : ∀ (row m : Int) (n : Nat), 0 ≤ row → row ≤ 2 → L0_impl_CountOf key s k n (min2 (s.getD (cellM row key).toNat 0) m) (row + 1) → L0_impl_CountOf key s k (n + 1) m row := by
    intro row m n r0 r1 next
    have hr := cellM_range (key := key) r0 hkey.1
    have hl := v.1
    rw [L0_impl_CountOf, T0_impl_CountOf]
    exact br_yd (by omega) (yes ⟨⟨r0, r1⟩, hkey⟩ ⟨⟨by omega, by omega⟩, inR (by omega) (by omega), next⟩)
  refine ⟨4, step 0 _ 3 (by omega) (by omega) (step 1 _ 2 (by omega) (by omega) (step 2 _ 1 (by omega) (by omega) ?_))⟩
  rw [L0_impl_CountOf, T0_impl_CountOf]
  exact br_nd (by omega) hk
-- impl.Prefers
def G_impl_Prefers (s0 : List Int) (a1 : Int) (b2 : Int) (k : Bool → Prop) : Prop :=
  F_impl_ValidSketch s0 fun validSketch8 =>
  br (!validSketch8)
  (k false)
  (F_impl_validKey a1 fun validKey12 =>
    br (!validKey12)
    (k false)
    (F_impl_validKey b2 fun validKey17 =>
      br (!validKey17)
      (k false)
      (F_impl_CountOf s0 a1 fun countOf22 =>
        F_impl_CountOf s0 b2 fun countOf25 =>
        k (decide (countOf22 > countOf25)))))
def S_impl_Prefers (s0 : List Int) (a1 : Int) (b2 : Int) (k : Bool → Prop) : Prop := G_impl_Prefers s0 a1 b2 k
def F_impl_Prefers (s : List Int) (a b : Int) (k : Bool → Prop) : Prop := ∀ c : Bool, (c = true ↔ VSk s ∧ (0 ≤ a ∧ a ≤ 31) ∧ (0 ≤ b ∧ b ≤ 31) ∧ countM s b < countM s a) → k c
theorem F_impl_Prefers_S {s : List Int} {a b : Int} {k : Bool → Prop} (h : F_impl_Prefers s a b k) : S_impl_Prefers s a b k := by
  have no : ¬ (VSk s ∧ (0 ≤ a ∧ a ≤ 31) ∧ (0 ≤ b ∧ b ≤ 31) ∧ countM s b < countM s a) → k false := fun hv => h false (by simp [hv])
  intro b1 hb1
  refine br_not.2 (br_iff.2 ⟨fun e1 => ?_, fun e => no fun w => by rw [hb1.2 w.1] at e; cases e⟩)
  have v := hb1.1 e1
  refine br_not.2 (br_dec.2 ⟨fun ha => br_not.2 (br_dec.2 ⟨fun hb => ⟨fun _ => ⟨fun _ => h _ ?_, fun c => absurd ⟨v, hb⟩ c⟩, fun c => absurd ⟨v, ha⟩ c⟩, fun hb => no fun w => hb w.2.2.1⟩), fun ha => no fun w => ha w.2.1⟩)
  rw [decide_eq_true_iff]
  exact ⟨fun g => ⟨v, ha, hb, g⟩, fun w => w.2.2.2⟩
-- impl.UseGate
def G_impl_UseGate_j0 (g0New : List Int) (g0Room : Int) (g0Window : Int) (halveSketch42 : List Int) (key1 : Int) (putFirst46 : List Int) (putFirst58 : List Int) (k : Int → Int → List Int → List Int → List Int → Int → Bool → Prop) : Prop :=
  (F_slices_Contains_sint_int g0New key1 fun contains82 =>
    (k g0Window g0Room (List.take (Int.toNat ((putFirst58.length : Int) - 1)) (List.drop 0 putFirst58)) putFirst46 halveSketch42 0 contains82) ∧
    (True)) ∧
  (True)
def G_impl_UseGate_j1 (addKey32 : List Int) (g0Added : Int) (g0New : List Int) (g0Room : Int) (g0Window : Int) (key1 : Int) (putFirst46 : List Int) (putFirst58 : List Int) (k : Int → Int → List Int → List Int → List Int → Int → Bool → Prop) : Prop :=
  (F_slices_Contains_sint_int g0New key1 fun contains82 =>
    (k g0Window g0Room (List.take (Int.toNat ((putFirst58.length : Int) - 1)) (List.drop 0 putFirst58)) putFirst46 addKey32 (g0Added + 1) contains82) ∧
    (True)) ∧
  (True)
def G_impl_UseGate_j2 (addKey32 : List Int) (g0Added : Int) (g0Main : List Int) (g0New : List Int) (g0Room : Int) (g0Window : Int) (key1 : Int) (withoutKey24 : List Int) (withoutKey28 : List Int) (k : Int → Int → List Int → List Int → List Int → Int → Bool → Prop) : Prop :=
  (br ((g0Added + 1) == 16)
    (F_impl_HalveSketch addKey32 fun halveSketch42 =>
      F_slices_Contains_sint_int g0Main key1 fun contains48 =>
      br contains48
      (F_impl_putFirst withoutKey28 key1 fun putFirst52 =>
        k g0Window g0Room withoutKey24 putFirst52 halveSketch42 0 true)
      (F_impl_putFirst withoutKey24 key1 fun putFirst58 =>
        br (decide ((putFirst58.length : Int) > g0Window))
        ((0 ≤ g0Window ∧ g0Window < (putFirst58.length : Int)) ∧
          InR ((putFirst58.length : Int) - 1) ∧
          (0 ≤ ((putFirst58.length : Int) - 1) ∧ ((putFirst58.length : Int) - 1) ≤ (putFirst58.length : Int)) ∧
          br ((withoutKey28.length : Int) == g0Room)
          (InR (g0Room - 1) ∧
            (0 ≤ (g0Room - 1) ∧ (g0Room - 1) < (withoutKey28.length : Int)) ∧
            (F_impl_Prefers halveSketch42 (List.getD putFirst58 (Int.toNat g0Window) (0 : Int)) (List.getD withoutKey28 (Int.toNat (g0Room - 1)) (0 : Int)) fun prefers30 =>
              br (!prefers30)
              ((F_slices_Contains_sint_int g0New key1 fun contains82 =>
                  (k g0Window g0Room (List.take (Int.toNat ((putFirst58.length : Int) - 1)) (List.drop 0 putFirst58)) withoutKey28 halveSketch42 0 contains82) ∧
                  (True)) ∧
                (True))
              (InR ((withoutKey28.length : Int) - 1) ∧
                (0 ≤ ((withoutKey28.length : Int) - 1) ∧ ((withoutKey28.length : Int) - 1) ≤ (withoutKey28.length : Int)) ∧
                F_impl_putFirst (List.take (Int.toNat ((withoutKey28.length : Int) - 1)) (List.drop 0 withoutKey28)) (List.getD putFirst58 (Int.toNat g0Window) (0 : Int)) fun putFirst46 =>
                G_impl_UseGate_j0 g0New g0Room g0Window halveSketch42 key1 putFirst46 putFirst58 k)) ∧
            (True))
          (F_impl_putFirst withoutKey28 (List.getD putFirst58 (Int.toNat g0Window) (0 : Int)) fun putFirst46 =>
            G_impl_UseGate_j0 g0New g0Room g0Window halveSketch42 key1 putFirst46 putFirst58 k))
        ((F_slices_Contains_sint_int g0New key1 fun contains82 =>
            (k g0Window g0Room putFirst58 withoutKey28 halveSketch42 0 contains82) ∧
            (True)) ∧
          (True))))
    (F_slices_Contains_sint_int g0Main key1 fun contains48 =>
      br contains48
      (F_impl_putFirst withoutKey28 key1 fun putFirst52 =>
        k g0Window g0Room withoutKey24 putFirst52 addKey32 (g0Added + 1) true)
      (F_impl_putFirst withoutKey24 key1 fun putFirst58 =>
        br (decide ((putFirst58.length : Int) > g0Window))
        ((0 ≤ g0Window ∧ g0Window < (putFirst58.length : Int)) ∧
          InR ((putFirst58.length : Int) - 1) ∧
          (0 ≤ ((putFirst58.length : Int) - 1) ∧ ((putFirst58.length : Int) - 1) ≤ (putFirst58.length : Int)) ∧
          br ((withoutKey28.length : Int) == g0Room)
          (InR (g0Room - 1) ∧
            (0 ≤ (g0Room - 1) ∧ (g0Room - 1) < (withoutKey28.length : Int)) ∧
            (F_impl_Prefers addKey32 (List.getD putFirst58 (Int.toNat g0Window) (0 : Int)) (List.getD withoutKey28 (Int.toNat (g0Room - 1)) (0 : Int)) fun prefers30 =>
              br (!prefers30)
              ((F_slices_Contains_sint_int g0New key1 fun contains82 =>
                  (k g0Window g0Room (List.take (Int.toNat ((putFirst58.length : Int) - 1)) (List.drop 0 putFirst58)) withoutKey28 addKey32 (g0Added + 1) contains82) ∧
                  (True)) ∧
                (True))
              (InR ((withoutKey28.length : Int) - 1) ∧
                (0 ≤ ((withoutKey28.length : Int) - 1) ∧ ((withoutKey28.length : Int) - 1) ≤ (withoutKey28.length : Int)) ∧
                F_impl_putFirst (List.take (Int.toNat ((withoutKey28.length : Int) - 1)) (List.drop 0 withoutKey28)) (List.getD putFirst58 (Int.toNat g0Window) (0 : Int)) fun putFirst46 =>
                G_impl_UseGate_j1 addKey32 g0Added g0New g0Room g0Window key1 putFirst46 putFirst58 k)) ∧
            (True))
          (F_impl_putFirst withoutKey28 (List.getD putFirst58 (Int.toNat g0Window) (0 : Int)) fun putFirst46 =>
            G_impl_UseGate_j1 addKey32 g0Added g0New g0Room g0Window key1 putFirst46 putFirst58 k))
        ((F_slices_Contains_sint_int g0New key1 fun contains82 =>
            (k g0Window g0Room putFirst58 withoutKey28 addKey32 (g0Added + 1) contains82) ∧
            (True)) ∧
          (True))))) ∧
  (True)
def G_impl_UseGate_j3 (g0Added : Int) (g0Main : List Int) (g0New : List Int) (g0Room : Int) (g0Sketch : List Int) (g0Window : Int) (key1 : Int) (withoutKey24 : List Int) (withoutKey28 : List Int) (k : Int → Int → List Int → List Int → List Int → Int → Bool → Prop) : Prop :=
  (F_impl_AddKey g0Sketch key1 fun addKey32 =>
    G_impl_UseGate_j2 addKey32 g0Added g0Main g0New g0Room g0Window key1 withoutKey24 withoutKey28 k) ∧
  (True)
def G_impl_UseGate_j4 (g0Added : Int) (g0Main : List Int) (g0New : List Int) (g0Room : Int) (g0Sketch : List Int) (g0Window : Int) (key1 : Int) (withoutKey24 : List Int) (k : Int → Int → List Int → List Int → List Int → Int → Bool → Prop) : Prop :=
  (F_impl_withoutKey g0Main key1 fun withoutKey28 =>
    G_impl_UseGate_j3 g0Added g0Main g0New g0Room g0Sketch g0Window key1 withoutKey24 withoutKey28 k) ∧
  (True)
def G_impl_UseGate (g0Window : Int) (g0Room : Int) (g0New : List Int) (g0Main : List Int) (g0Sketch : List Int) (g0Added : Int) (key1 : Int) (k : Int → Int → List Int → List Int → List Int → Int → Bool → Prop) : Prop :=
  F_impl_ValidGate g0Window g0Room g0New g0Main g0Sketch g0Added fun validGate9 =>
  br (!validGate9)
  (k 0 0 ([] : List Int) ([] : List Int) ([] : List Int) 0 false)
  (F_impl_validKey key1 fun validKey13 =>
    br (!validKey13)
    (k 0 0 ([] : List Int) ([] : List Int) ([] : List Int) 0 false)
    (InR (g0Added + 1) ∧
      (F_impl_withoutKey g0New key1 fun withoutKey24 =>
        (F_impl_withoutKey g0Main key1 fun withoutKey28 =>
          (F_impl_AddKey g0Sketch key1 fun addKey32 =>
            (G_impl_UseGate_j2 addKey32 g0Added g0Main g0New g0Room g0Window key1 withoutKey24 withoutKey28 k) ∧
            (True)) ∧
          ((G_impl_UseGate_j3 g0Added g0Main g0New g0Room g0Sketch g0Window key1 withoutKey24 withoutKey28 k) ∧
            (True))) ∧
        ((G_impl_UseGate_j4 g0Added g0Main g0New g0Room g0Sketch g0Window key1 withoutKey24 k) ∧
          (True))) ∧
      (((F_impl_withoutKey g0New key1 fun withoutKey24 =>
            G_impl_UseGate_j4 g0Added g0Main g0New g0Room g0Sketch g0Window key1 withoutKey24 k) ∧
          (True)) ∧
        (True))))
def H_impl_UseGate (g0Window : Int) (g0Room : Int) (g0New : List Int) (g0Main : List Int) (g0Sketch : List Int) (g0Added : Int) (key1 : Int) (k : Int → Int → List Int → List Int → List Int → Int → Bool → Prop) : Prop :=
  F_impl_ValidGate g0Window g0Room g0New g0Main g0Sketch g0Added fun validGate9 =>
  br (!validGate9)
  (k 0 0 ([] : List Int) ([] : List Int) ([] : List Int) 0 false)
  (F_impl_validKey key1 fun validKey13 =>
    br (!validKey13)
    (k 0 0 ([] : List Int) ([] : List Int) ([] : List Int) 0 false)
    (InR (g0Added + 1) ∧
      F_impl_withoutKey g0New key1 fun withoutKey24 =>
      F_impl_withoutKey g0Main key1 fun withoutKey28 =>
      F_impl_AddKey g0Sketch key1 fun addKey32 =>
      br ((g0Added + 1) == 16)
      (F_impl_HalveSketch addKey32 fun halveSketch42 =>
        F_slices_Contains_sint_int g0Main key1 fun contains48 =>
        br contains48
        (F_impl_putFirst withoutKey28 key1 fun putFirst52 =>
          k g0Window g0Room withoutKey24 putFirst52 halveSketch42 0 true)
        (F_impl_putFirst withoutKey24 key1 fun putFirst58 =>
          br (decide ((putFirst58.length : Int) > g0Window))
          ((0 ≤ g0Window ∧ g0Window < (putFirst58.length : Int)) ∧
            InR ((putFirst58.length : Int) - 1) ∧
            (0 ≤ ((putFirst58.length : Int) - 1) ∧ ((putFirst58.length : Int) - 1) ≤ (putFirst58.length : Int)) ∧
            br ((withoutKey28.length : Int) == g0Room)
            (InR (g0Room - 1) ∧
              (0 ≤ (g0Room - 1) ∧ (g0Room - 1) < (withoutKey28.length : Int)) ∧
              F_impl_Prefers halveSketch42 (List.getD putFirst58 (Int.toNat g0Window) (0 : Int)) (List.getD withoutKey28 (Int.toNat (g0Room - 1)) (0 : Int)) fun prefers30 =>
              br (!prefers30)
              (F_slices_Contains_sint_int g0New key1 fun contains82 =>
                k g0Window g0Room (List.take (Int.toNat ((putFirst58.length : Int) - 1)) (List.drop 0 putFirst58)) withoutKey28 halveSketch42 0 contains82)
              (InR ((withoutKey28.length : Int) - 1) ∧
                (0 ≤ ((withoutKey28.length : Int) - 1) ∧ ((withoutKey28.length : Int) - 1) ≤ (withoutKey28.length : Int)) ∧
                F_impl_putFirst (List.take (Int.toNat ((withoutKey28.length : Int) - 1)) (List.drop 0 withoutKey28)) (List.getD putFirst58 (Int.toNat g0Window) (0 : Int)) fun putFirst46 =>
                F_slices_Contains_sint_int g0New key1 fun contains82 =>
                k g0Window g0Room (List.take (Int.toNat ((putFirst58.length : Int) - 1)) (List.drop 0 putFirst58)) putFirst46 halveSketch42 0 contains82))
            (F_impl_putFirst withoutKey28 (List.getD putFirst58 (Int.toNat g0Window) (0 : Int)) fun putFirst46 =>
              F_slices_Contains_sint_int g0New key1 fun contains82 =>
              k g0Window g0Room (List.take (Int.toNat ((putFirst58.length : Int) - 1)) (List.drop 0 putFirst58)) putFirst46 halveSketch42 0 contains82))
          (F_slices_Contains_sint_int g0New key1 fun contains82 =>
            k g0Window g0Room putFirst58 withoutKey28 halveSketch42 0 contains82)))
      (F_slices_Contains_sint_int g0Main key1 fun contains48 =>
        br contains48
        (F_impl_putFirst withoutKey28 key1 fun putFirst52 =>
          k g0Window g0Room withoutKey24 putFirst52 addKey32 (g0Added + 1) true)
        (F_impl_putFirst withoutKey24 key1 fun putFirst58 =>
          br (decide ((putFirst58.length : Int) > g0Window))
          ((0 ≤ g0Window ∧ g0Window < (putFirst58.length : Int)) ∧
            InR ((putFirst58.length : Int) - 1) ∧
            (0 ≤ ((putFirst58.length : Int) - 1) ∧ ((putFirst58.length : Int) - 1) ≤ (putFirst58.length : Int)) ∧
            br ((withoutKey28.length : Int) == g0Room)
            (InR (g0Room - 1) ∧
              (0 ≤ (g0Room - 1) ∧ (g0Room - 1) < (withoutKey28.length : Int)) ∧
              F_impl_Prefers addKey32 (List.getD putFirst58 (Int.toNat g0Window) (0 : Int)) (List.getD withoutKey28 (Int.toNat (g0Room - 1)) (0 : Int)) fun prefers30 =>
              br (!prefers30)
              (F_slices_Contains_sint_int g0New key1 fun contains82 =>
                k g0Window g0Room (List.take (Int.toNat ((putFirst58.length : Int) - 1)) (List.drop 0 putFirst58)) withoutKey28 addKey32 (g0Added + 1) contains82)
              (InR ((withoutKey28.length : Int) - 1) ∧
                (0 ≤ ((withoutKey28.length : Int) - 1) ∧ ((withoutKey28.length : Int) - 1) ≤ (withoutKey28.length : Int)) ∧
                F_impl_putFirst (List.take (Int.toNat ((withoutKey28.length : Int) - 1)) (List.drop 0 withoutKey28)) (List.getD putFirst58 (Int.toNat g0Window) (0 : Int)) fun putFirst46 =>
                F_slices_Contains_sint_int g0New key1 fun contains82 =>
                k g0Window g0Room (List.take (Int.toNat ((putFirst58.length : Int) - 1)) (List.drop 0 putFirst58)) putFirst46 addKey32 (g0Added + 1) contains82))
            (F_impl_putFirst withoutKey28 (List.getD putFirst58 (Int.toNat g0Window) (0 : Int)) fun putFirst46 =>
              F_slices_Contains_sint_int g0New key1 fun contains82 =>
              k g0Window g0Room (List.take (Int.toNat ((putFirst58.length : Int) - 1)) (List.drop 0 putFirst58)) putFirst46 addKey32 (g0Added + 1) contains82))
          (F_slices_Contains_sint_int g0New key1 fun contains82 =>
            k g0Window g0Room putFirst58 withoutKey28 addKey32 (g0Added + 1) contains82)))))
theorem G_impl_UseGate_eq (g0Window : Int) (g0Room : Int) (g0New : List Int) (g0Main : List Int) (g0Sketch : List Int) (g0Added : Int) (key1 : Int) (k : Int → Int → List Int → List Int → List Int → Int → Bool → Prop) : G_impl_UseGate g0Window g0Room g0New g0Main g0Sketch g0Added key1 k = H_impl_UseGate g0Window g0Room g0New g0Main g0Sketch g0Added key1 k := by
  simp only [G_impl_UseGate, H_impl_UseGate, G_impl_UseGate_j0, G_impl_UseGate_j1, G_impl_UseGate_j2, G_impl_UseGate_j3, G_impl_UseGate_j4, and_self, and_true]
def S_impl_UseGate (g0Window : Int) (g0Room : Int) (g0New : List Int) (g0Main : List Int) (g0Sketch : List Int) (g0Added : Int) (key1 : Int) (k : Int → Int → List Int → List Int → List Int → Int → Bool → Prop) : Prop := H_impl_UseGate g0Window g0Room g0New g0Main g0Sketch g0Added key1 k
def F_impl_UseGate (w r : Int) (n m s : List Int) (a key : Int) (k : Int → Int → List Int → List Int → List Int → Int → Bool → Prop) : Prop :=
  (VGate w r ⟨n, m, s, a⟩ ∧ 0 ≤ key ∧ key ≤ 31 → k w r (gateM w r ⟨n, m, s, a⟩ key).1.n (gateM w r ⟨n, m, s, a⟩ key).1.m (gateM w r ⟨n, m, s, a⟩ key).1.s (gateM w r ⟨n, m, s, a⟩ key).1.a (gateM w r ⟨n, m, s, a⟩ key).2) ∧
  (¬ (VGate w r ⟨n, m, s, a⟩ ∧ 0 ≤ key ∧ key ≤ 31) → k 0 0 [] [] [] 0 false)
theorem F_impl_UseGate_S {w r : Int} {n m s : List Int} {a key : Int} {k : Int → Int → List Int → List Int → List Int → Int → Bool → Prop} (h : F_impl_UseGate w r n m s a key k) : S_impl_UseGate w r n m s a key k := by
  obtain ⟨hyes, hno⟩ := h
  intro b hb
  refine br_not.2 (br_iff.2 ⟨fun e => ?_, fun e => hno fun w => by rw [hb.2 w.1] at e; cases e⟩)
  have v := hb.1 e
  refine br_not.2 (br_dec.2 ⟨fun hkey => ?_, fun hkey => hno fun w => hkey w.2⟩)
  have hk := hyes ⟨v, hkey⟩
  have hl := gate_len v
  obtain ⟨vs, vk, va⟩ := v
  simp only at vs vk va hl
  have hrn := @rmK_le n key
  have hrm := @rmK_le m key
  obtain ⟨vn, vm, vd⟩ := id vs
  have n3 := vn.2.2.1
  have m3 := vm.2.2.1
  have n1 := vn.1
  have m1 := vm.1
  refine ⟨inR (by omega) (by omega), ⟨by omega, by omega, fun _ => ?_, fun c => absurd ⟨vk, hkey⟩ c⟩⟩
  have hadd := vk.add key
  refine br_beq.2 ⟨fun e2 => ⟨fun _ => ?_, fun c => absurd hadd c⟩, fun e2 => ?_⟩
  · have hlm : learnM s a key = (halveM (addM s key), 0) := if_pos e2
    have hS := hadd.halve
    simp only [gateM, hlm] at hk
    generalize halveM (addM s key) = S at hk hS ⊢
    clear hadd
    refine ⟨by omega, ?_⟩
    rcases passM_cases (s := S) (key := key) vs with ⟨h1, e⟩ | ⟨h1, h2, e⟩ | ⟨h1, h2, h3, e⟩ | ⟨h1, h2, u, x, hu, hl2, h⟩
    · rw [e] at hk
      refine br_dec.2 ⟨fun _ => ⟨by omega, ?_⟩, fun c => absurd h1 c⟩
      rw [rmK_not (fun c => vd key c h1)]; exact hk
    · rw [e] at hk
      have hp : 0 < n.length := List.length_pos_of_mem h2
      have := rmK_len vn.2.2.2.2 h2
      refine br_dec.2 ⟨fun c => absurd c h1, fun _ => ⟨by omega, br_nd (by rw [List.length_cons]; omega) ⟨by omega, ?_⟩⟩⟩
      rw [rmK_not h1, decide_eq_true h2]; exact hk
    · rw [e] at hk
      rw [rmK_not h1, rmK_not h2]
      refine br_dec.2 ⟨fun c => absurd c h1, fun _ => ⟨by omega, br_nd (by rw [List.length_cons]; omega) ⟨by omega, ?_⟩⟩⟩
      rw [decide_eq_false h2]; exact hk
    · rw [rmK_not h1, rmK_not h2]
      have hw : (((key :: n).length : Int) - 1) = w := by rw [List.length_cons]; omega
      have ht := take_full (u := u) (key := key) (x := x) (w := w) (by rw [← hu]; exact hl2)
      rw [← hu] at ht
      have hx : 0 ≤ x ∧ x ≤ 31 := vn.2.2.2.1 x (by rw [hu]; simp)
      refine br_dec.2 ⟨fun c => absurd c h1, fun _ => ⟨by omega, br_yd (by rw [List.length_cons]; omega) ⟨⟨by omega, by rw [List.length_cons]; omega⟩, inR (by rw [List.length_cons]; omega) (by rw [List.length_cons]; omega), ⟨by omega, by rw [List.length_cons]; omega⟩, ?_⟩⟩⟩
      have hf : decide (key ∈ n) = false := decide_eq_false h2
      rw [hw, List.drop_zero, ht.1, ht.2]
      rcases h with ⟨h4, e⟩ | ⟨h4, mm, y, hm, h⟩
      · rw [e, ← hf] at hk
        exact br_ne (by omega) ⟨by omega, by omega, hk⟩
      · have hg := last_snoc (m := mm) (y := y)
        rw [← hm] at hg
        have hy : 0 ≤ y ∧ y ≤ 31 := vm.2.2.2.1 y (by rw [hm]; simp)
        refine br_ye h4 ⟨inR (by omega) (by omega), ⟨by omega, by omega⟩, ?_⟩
        rw [show (r - 1).toNat = m.length - 1 by omega, hg.1, show ((m.length : Int) - 1).toNat = m.length - 1 by omega, List.drop_zero, hg.2]
        intro c hc
        rcases h with ⟨h5, e⟩ | ⟨h5, e⟩
        · rw [e, ← hf] at hk
          rw [hc.2 ⟨hS, hx, hy, h5⟩]
          have : mm.length ≤ m.length := by rw [hm]; simp
          exact br_nt ⟨inR (by omega) (by omega), ⟨by omega, by omega⟩, by omega, by omega, hk⟩
        · rw [e, ← hf] at hk
          rw [show c = false from Bool.eq_false_iff.2 fun g => h5 (hc.1 g).2.2.2]
          exact br_nf ⟨by omega, hk⟩
  · have hlm : learnM s a key = (addM s key, a + 1) := if_neg e2
    have hS := hadd
    simp only [gateM, hlm] at hk
    generalize addM s key = S at hk hS ⊢
    refine ⟨by omega, ?_⟩
    rcases passM_cases (s := S) (key := key) vs with ⟨h1, e⟩ | ⟨h1, h2, e⟩ | ⟨h1, h2, h3, e⟩ | ⟨h1, h2, u, x, hu, hl2, h⟩
    · rw [e] at hk
      refine br_dec.2 ⟨fun _ => ⟨by omega, ?_⟩, fun c => absurd h1 c⟩
      rw [rmK_not (fun c => vd key c h1)]; exact hk
    · rw [e] at hk
      have hp : 0 < n.length := List.length_pos_of_mem h2
      have := rmK_len vn.2.2.2.2 h2
      refine br_dec.2 ⟨fun c => absurd c h1, fun _ => ⟨by omega, br_nd (by rw [List.length_cons]; omega) ⟨by omega, ?_⟩⟩⟩
      rw [rmK_not h1, decide_eq_true h2]; exact hk
    · rw [e] at hk
      rw [rmK_not h1, rmK_not h2]
      refine br_dec.2 ⟨fun c => absurd c h1, fun _ => ⟨by omega, br_nd (by rw [List.length_cons]; omega) ⟨by omega, ?_⟩⟩⟩
      rw [decide_eq_false h2]; exact hk
    · rw [rmK_not h1, rmK_not h2]
      have hw : (((key :: n).length : Int) - 1) = w := by rw [List.length_cons]; omega
      have ht := take_full (u := u) (key := key) (x := x) (w := w) (by rw [← hu]; exact hl2)
      rw [← hu] at ht
      have hx : 0 ≤ x ∧ x ≤ 31 := vn.2.2.2.1 x (by rw [hu]; simp)
      refine br_dec.2 ⟨fun c => absurd c h1, fun _ => ⟨by omega, br_yd (by rw [List.length_cons]; omega) ⟨⟨by omega, by rw [List.length_cons]; omega⟩, inR (by rw [List.length_cons]; omega) (by rw [List.length_cons]; omega), ⟨by omega, by rw [List.length_cons]; omega⟩, ?_⟩⟩⟩
      have hf : decide (key ∈ n) = false := decide_eq_false h2
      rw [hw, List.drop_zero, ht.1, ht.2]
      rcases h with ⟨h4, e⟩ | ⟨h4, mm, y, hm, h⟩
      · rw [e, ← hf] at hk
        exact br_ne (by omega) ⟨by omega, by omega, hk⟩
      · have hg := last_snoc (m := mm) (y := y)
        rw [← hm] at hg
        have hy : 0 ≤ y ∧ y ≤ 31 := vm.2.2.2.1 y (by rw [hm]; simp)
        refine br_ye h4 ⟨inR (by omega) (by omega), ⟨by omega, by omega⟩, ?_⟩
        rw [show (r - 1).toNat = m.length - 1 by omega, hg.1, show ((m.length : Int) - 1).toNat = m.length - 1 by omega, List.drop_zero, hg.2]
        intro c hc
        rcases h with ⟨h5, e⟩ | ⟨h5, e⟩
        · rw [e, ← hf] at hk
          rw [hc.2 ⟨hS, hx, hy, h5⟩]
          have : mm.length ≤ m.length := by rw [hm]; simp
          exact br_nt ⟨inR (by omega) (by omega), ⟨by omega, by omega⟩, by omega, by omega, hk⟩
        · rw [e, ← hf] at hk
          rw [show c = false from Bool.eq_false_iff.2 fun g => h5 (hc.1 g).2.2.2]
          exact br_nf ⟨by omega, hk⟩
-- impl.useAll[impl.Gate]
def T0_impl_useAll_Gate_UseGate (t0 : List Int) (xt14 : Int) (xhits8 : Int) (xt15 : Int) (xb4c0 : Int) (xb4c1 : Int) (xb4c5 : Int) (xb4c2 : List Int) (xb4c3 : List Int) (xb4c4 : List Int) (k : Int → Int → List Int → List Int → List Int → Int → Int → Prop) (B0 : Int → Int → Int → Int → Int → List Int → List Int → List Int → Prop) : Prop :=
  br (decide (xt15 < xt14))
  ((0 ≤ xt15 ∧ xt15 < (t0.length : Int)) ∧
    F_impl_UseGate xb4c0 xb4c1 xb4c2 xb4c3 xb4c4 xb4c5 (List.getD t0 (Int.toNat xt15) (0 : Int)) fun useGate23Window useGate23Room useGate23New useGate23Main useGate23Sketch useGate23Added useGate23r1 =>
    br useGate23r1
    (InR (xhits8 + 1) ∧
      InR (xt15 + 1) ∧
      B0 (xhits8 + 1) (xt15 + 1) useGate23Window useGate23Room useGate23Added useGate23New useGate23Main useGate23Sketch)
    (InR (xt15 + 1) ∧
      B0 xhits8 (xt15 + 1) useGate23Window useGate23Room useGate23Added useGate23New useGate23Main useGate23Sketch))
  (k xb4c0 xb4c1 xb4c2 xb4c3 xb4c4 xb4c5 xhits8)
def L0_impl_useAll_Gate_UseGate (t0 : List Int) (xt14 : Int) (k : Int → Int → List Int → List Int → List Int → Int → Int → Prop) : Nat → Int → Int → Int → Int → Int → List Int → List Int → List Int → Prop
  | 0, _, _, _, _, _, _, _, _ => False
  | n + 1, xhits8, xt15, xb4c0, xb4c1, xb4c5, xb4c2, xb4c3, xb4c4 => T0_impl_useAll_Gate_UseGate t0 xt14 xhits8 xt15 xb4c0 xb4c1 xb4c5 xb4c2 xb4c3 xb4c4 k (L0_impl_useAll_Gate_UseGate t0 xt14 k n)
def G_impl_useAll_Gate_UseGate (t0 : List Int) (cache1Window : Int) (cache1Room : Int) (cache1New : List Int) (cache1Main : List Int) (cache1Sketch : List Int) (cache1Added : Int) (I0 : List Int → Int → Int → Int → Int → Int → Int → List Int → List Int → List Int → Prop) : Prop :=
  I0 t0 (t0.length : Int) 0 0 cache1Window cache1Room cache1Added cache1New cache1Main cache1Sketch
def S_impl_useAll_Gate_UseGate (t0 : List Int) (cache1Window : Int) (cache1Room : Int) (cache1New : List Int) (cache1Main : List Int) (cache1Sketch : List Int) (cache1Added : Int) (k : Int → Int → List Int → List Int → List Int → Int → Int → Prop) : Prop := G_impl_useAll_Gate_UseGate t0 cache1Window cache1Room cache1New cache1Main cache1Sketch cache1Added (fun t0 xt14 xhits8 xt15 xb4c0 xb4c1 xb4c5 xb4c2 xb4c3 xb4c4 => ∃ j, L0_impl_useAll_Gate_UseGate t0 xt14 k j xhits8 xt15 xb4c0 xb4c1 xb4c5 xb4c2 xb4c3 xb4c4)
def F_impl_useAll_Gate_UseGate (t : List Int) (w r : Int) (n m s : List Int) (a : Int) (k : Int → Int → List Int → List Int → List Int → Int → Int → Prop) : Prop :=
  (VTrace t ∧ VGate w r ⟨n, m, s, a⟩) ∧ k w r (runG w r t ⟨n, m, s, a⟩ 0).1.n (runG w r t ⟨n, m, s, a⟩ 0).1.m (runG w r t ⟨n, m, s, a⟩ 0).1.s (runG w r t ⟨n, m, s, a⟩ 0).1.a (runG w r t ⟨n, m, s, a⟩ 0).2
theorem F_impl_useAll_Gate_UseGate_S {t : List Int} {w r : Int} {n m s : List Int} {a : Int} {k : Int → Int → List Int → List Int → List Int → Int → Int → Prop} (h : F_impl_useAll_Gate_UseGate t w r n m s a k) : S_impl_useAll_Gate_UseGate t w r n m s a k := by
  obtain ⟨⟨⟨t1, t2⟩, v⟩, hk⟩ := h
  have key : ∀ (q : List Int) (i : Nat) (g : GT) (c : Int), t.drop i = q → VGate w r g → 0 ≤ c → c ≤ i →
      k w r (runG w r q g c).1.n (runG w r q g c).1.m (runG w r q g c).1.s (runG w r q g c).1.a (runG w r q g c).2 → L0_impl_useAll_Gate_UseGate t (t.length : Int) k (q.length + 1) c (i : Int) w r g.a g.n g.m g.s := by
    intro q
    induction q with
    | nil =>
      intro i g c hdr v n0 n1 hk
      have := drop_nil' hdr
      rw [L0_impl_useAll_Gate_UseGate, T0_impl_useAll_Gate_UseGate]
      exact br_nd (by omega) hk
    | cons x q ih =>
      intro i g c hdr v n0 n1 hk
      obtain ⟨h1, h2, h5, h3, h4⟩ := drop_cons' hdr
      have hx := t2 x (List.mem_of_getElem? h5)
      rw [List.length_cons, L0_impl_useAll_Gate_UseGate, T0_impl_useAll_Gate_UseGate]
      simp only [Int.toNat_natCast, h2]
      refine br_yd (by omega) ⟨⟨by omega, by omega⟩, fun _ => ?_, fun hv => absurd ⟨v, hx⟩ hv⟩
      rw [runG] at hk
      refine br_iff.2 ⟨fun e => ⟨inR (by omega) (by omega), inR (by omega) (by omega), ?_⟩, fun e => ⟨inR (by omega) (by omega), ?_⟩⟩
      · rw [show (gateM w r g x).2 = true from e] at hk
        exact ih (i + 1) _ _ h3 (gateM_valid v hx) (by omega) (by omega) hk
      · rw [show (gateM w r g x).2 = false from e, show c + toI false = c by simp [toI]] at hk
        exact ih (i + 1) _ _ h3 (gateM_valid v hx) (by omega) (by omega) hk
  exact ⟨_, key t 0 ⟨n, m, s, a⟩ 0 rfl v (by omega) (by omega) hk⟩
-- impl.RunGate
def G_impl_RunGate (t0 : List Int) (window1 : Int) (room2 : Int) (k : Int → Int → List Int → List Int → List Int → Int → Int → Prop) : Prop :=
  F_impl_ValidTrace t0 fun validTrace9 =>
  br (!validTrace9)
  (k 0 0 ([] : List Int) ([] : List Int) ([] : List Int) 0 (-1))
  (F_impl_validRoom window1 fun validRoom13 =>
    br (!validRoom13)
    (k 0 0 ([] : List Int) ([] : List Int) ([] : List Int) 0 (-1))
    (F_impl_validRoom room2 fun validRoom18 =>
      br (!validRoom18)
      (k 0 0 ([] : List Int) ([] : List Int) ([] : List Int) 0 (-1))
      (F_impl_EmptySketch fun emptySketch25 =>
        F_impl_useAll_Gate_UseGate t0 window1 room2 ([] : List Int) ([] : List Int) emptySketch25 (0 : Int) fun useAll27Window useAll27Room useAll27New useAll27Main useAll27Sketch useAll27Added useAll27r1 =>
        k useAll27Window useAll27Room useAll27New useAll27Main useAll27Sketch useAll27Added useAll27r1)))
def S_impl_RunGate (t0 : List Int) (window1 : Int) (room2 : Int) (k : Int → Int → List Int → List Int → List Int → Int → Int → Prop) : Prop := G_impl_RunGate t0 window1 room2 k
def F_impl_RunGate (t : List Int) (w r : Int) (k : Int → Int → List Int → List Int → List Int → Int → Int → Prop) : Prop :=
  ((VTrace t ∧ (1 ≤ w ∧ w ≤ 8) ∧ 1 ≤ r ∧ r ≤ 8) → k w r (runG w r t ⟨[], [], emptyM, 0⟩ 0).1.n (runG w r t ⟨[], [], emptyM, 0⟩ 0).1.m (runG w r t ⟨[], [], emptyM, 0⟩ 0).1.s (runG w r t ⟨[], [], emptyM, 0⟩ 0).1.a (runG w r t ⟨[], [], emptyM, 0⟩ 0).2) ∧
  (¬ (VTrace t ∧ (1 ≤ w ∧ w ≤ 8) ∧ 1 ≤ r ∧ r ≤ 8) → k 0 0 [] [] [] 0 (-1))
theorem F_impl_RunGate_S {t : List Int} {w r : Int} {k : Int → Int → List Int → List Int → List Int → Int → Int → Prop} (h : F_impl_RunGate t w r k) : S_impl_RunGate t w r k := by
  obtain ⟨hyes, hno⟩ := h
  intro b hb
  refine br_not.2 (br_iff.2 ⟨fun e => br_not.2 (br_dec.2 ⟨fun hr => br_not.2 (br_dec.2 ⟨fun hs => ?_, fun hs => hno fun w => hs w.2.2⟩), fun hr => hno fun w => hr w.2.1⟩), fun e => hno fun v => by rw [hb.2 v.1] at e; cases e⟩)
  have v := hb.1 e
  exact ⟨⟨v, gate0 hr hs⟩, hyes ⟨v, hr, hs⟩⟩
-- laws.eqIntS
def T0_laws_eqIntS (a0 : List Int) (b1 : List Int) (xi5 : Int) (k : Bool → Prop) (B0 : Int → Prop) : Prop :=
  br (decide (xi5 < (a0.length : Int)))
  ((0 ≤ xi5 ∧ xi5 < (a0.length : Int)) ∧
    (0 ≤ xi5 ∧ xi5 < (b1.length : Int)) ∧
    br ((List.getD a0 (Int.toNat xi5) (0 : Int)) != (List.getD b1 (Int.toNat xi5) (0 : Int)))
    (k false)
    (InR (xi5 + 1) ∧
      B0 (xi5 + 1)))
  (k true)
def L0_laws_eqIntS (a0 : List Int) (b1 : List Int) (k : Bool → Prop) : Nat → Int → Prop
  | 0, _ => False
  | n + 1, xi5 => T0_laws_eqIntS a0 b1 xi5 k (L0_laws_eqIntS a0 b1 k n)
def G_laws_eqIntS (a0 : List Int) (b1 : List Int) (k : Bool → Prop) (I0 : List Int → List Int → Int → Prop) : Prop :=
  br ((a0.length : Int) != (b1.length : Int))
  (k false)
  (I0 a0 b1 0)
def S_laws_eqIntS (a0 : List Int) (b1 : List Int) (k : Bool → Prop) : Prop := G_laws_eqIntS a0 b1 k (fun a0 b1 xi5 => ∃ j, L0_laws_eqIntS a0 b1 k j xi5)
def F_laws_eqIntS (a b : List Int) (k : Bool → Prop) : Prop := a.length ≤ 1000000000 ∧ k (decide (a = b))
theorem F_laws_eqIntS_S {a b : List Int} {k : Bool → Prop} (h : F_laws_eqIntS a b k) : S_laws_eqIntS a b k := by
  obtain ⟨hl, hk⟩ := h
  refine br_bne.2 ⟨fun he => by rwa [decide_eq_false (fun e => he (by rw [e]))] at hk, fun he => ?_⟩
  have he : a.length = b.length := by omega
  have key : ∀ (r : List Int) (i : Nat), a.drop i = r → (r = b.drop i ↔ a = b) → L0_laws_eqIntS a b k (r.length + 1) (i : Int) := by
    intro r
    induction r with
    | nil =>
      intro i hd hi
      have := drop_nil' hd
      rw [L0_laws_eqIntS, T0_laws_eqIntS]
      simp only [br_dec]
      exact ⟨fun h => by omega, fun _ => by rwa [decide_eq_true (hi.1 (List.drop_eq_nil_of_le (by omega)).symm)] at hk⟩
    | cons x r ih =>
      intro i hd hi
      obtain ⟨h1, h2, _, h3, _⟩ := drop_cons' hd
      obtain ⟨y, s, hs⟩ : ∃ y s, b.drop i = y :: s := by
        cases e : b.drop i with
        | nil => have := drop_nil' e; omega
        | cons y s => exact ⟨y, s, rfl⟩
      obtain ⟨g1, g2, _, g3, _⟩ := drop_cons' hs
      rw [List.length_cons, L0_laws_eqIntS, T0_laws_eqIntS]
      simp only [br_dec, br_bne, Int.toNat_natCast, h2, g2]
      rw [hs] at hi
      refine ⟨fun _ => ⟨⟨by omega, by omega⟩, ⟨by omega, by omega⟩, ?_⟩, fun h => by omega⟩
      have go : x = y → L0_laws_eqIntS a b k (r.length + 1) ((i : Int) + 1) := fun hx => ih (i + 1) h3 (by rw [g3, ← hi, hx]; simp)
      have no : x ≠ y → k false := fun hx => by rwa [decide_eq_false (fun e => hx (List.cons.inj (hi.2 e)).1)] at hk
      exact ⟨no, fun hx => ⟨inR (by omega) (by omega), go hx⟩⟩
  exact ⟨_, key a 0 rfl (by simp)⟩
-- laws.eqGate
def G_laws_eqGate (a0Window : Int) (a0Room : Int) (a0New : List Int) (a0Main : List Int) (a0Sketch : List Int) (a0Added : Int) (b1Window : Int) (b1Room : Int) (b1New : List Int) (b1Main : List Int) (b1Sketch : List Int) (b1Added : Int) (k : Bool → Prop) : Prop :=
  br (a0Window != b1Window)
  (k false)
  (br (a0Room != b1Room)
    (k false)
    (F_laws_eqIntS a0New b1New fun eqIntS19 =>
      br (!eqIntS19)
      (k false)
      (F_laws_eqIntS a0Main b1Main fun eqIntS25 =>
        br (!eqIntS25)
        (k false)
        (F_laws_eqIntS a0Sketch b1Sketch fun eqIntS31 =>
          br (!eqIntS31)
          (k false)
          (br (a0Added != b1Added)
            (k false)
            (k true))))))
def S_laws_eqGate (a0Window : Int) (a0Room : Int) (a0New : List Int) (a0Main : List Int) (a0Sketch : List Int) (a0Added : Int) (b1Window : Int) (b1Room : Int) (b1New : List Int) (b1Main : List Int) (b1Sketch : List Int) (b1Added : Int) (k : Bool → Prop) : Prop := G_laws_eqGate a0Window a0Room a0New a0Main a0Sketch a0Added b1Window b1Room b1New b1Main b1Sketch b1Added k
def F_laws_eqGate (window : Int) (room : Int) (new : List Int) (main : List Int) (sketch : List Int) (added : Int) (window' : Int) (room' : Int) (new' : List Int) (main' : List Int) (sketch' : List Int) (added' : Int) (k : Bool → Prop) : Prop := (new.length ≤ 1000000000 ∧ main.length ≤ 1000000000 ∧ sketch.length ≤ 1000000000) ∧ ∀ b : Bool, (b = true ↔ window = window' ∧ room = room' ∧ new = new' ∧ main = main' ∧ sketch = sketch' ∧ added = added') → k b
theorem F_laws_eqGate_S {window : Int} {room : Int} {new : List Int} {main : List Int} {sketch : List Int} {added : Int} {window' : Int} {room' : Int} {new' : List Int} {main' : List Int} {sketch' : List Int} {added' : Int} {k : Bool → Prop} (h : F_laws_eqGate window room new main sketch added window' room' new' main' sketch' added' k) : S_laws_eqGate window room new main sketch added window' room' new' main' sketch' added' k := by
  obtain ⟨⟨lNew, lMain, lSketch⟩, hk⟩ := h
  exact br_bne.2 ⟨fun eWindow => hk false (by simp [eWindow]), fun eWindow => br_bne.2 ⟨fun eRoom => hk false (by simp [eRoom]), fun eRoom => ⟨lNew, br_not.2 (br_dec.2 ⟨fun eNew => ⟨lMain, br_not.2 (br_dec.2 ⟨fun eMain => ⟨lSketch, br_not.2 (br_dec.2 ⟨fun eSketch => br_bne.2 ⟨fun eAdded => hk false (by simp [eAdded]), fun eAdded => hk true (by simp [eWindow, eRoom, eNew, eMain, eSketch, eAdded])⟩, fun eSketch => hk false (by simp [eSketch])⟩)⟩, fun eMain => hk false (by simp [eMain])⟩)⟩, fun eNew => hk false (by simp [eNew])⟩)⟩⟩⟩
theorem eqGate_same {window : Int} {room : Int} {new : List Int} {main : List Int} {sketch : List Int} {added : Int} {k : Bool → Prop} (hl : new.length ≤ 1000000000 ∧ main.length ≤ 1000000000 ∧ sketch.length ≤ 1000000000) (h : k true) : F_laws_eqGate window room new main sketch added window room new main sketch added k := ⟨hl, all_t ⟨rfl, rfl, rfl, rfl, rfl, rfl⟩ h⟩
-- laws.markIntS
def T0_laws_markIntS (xk1 : Int) (xi5 : Int) (xy100000 : List Int) (k : Int → List Int → Prop) (B0 : Int → Int → List Int → Prop) : Prop :=
  br (decide (xi5 < (xy100000.length : Int)))
  ((0 ≤ xi5 ∧ xi5 < (xy100000.length : Int)) ∧
    InR (xk1 + 1) ∧
    InR (xi5 + 1) ∧
    B0 (xk1 + 1) (xi5 + 1) (List.set xy100000 (Int.toNat xi5) xk1))
  (k xk1 xy100000)
def L0_laws_markIntS (k : Int → List Int → Prop) : Nat → Int → Int → List Int → Prop
  | 0, _, _, _ => False
  | n + 1, xk1, xi5, xy100000 => T0_laws_markIntS xk1 xi5 xy100000 k (L0_laws_markIntS k n)
def G_laws_markIntS (a0 : List Int) (k1 : Int) (I0 : Int → Int → List Int → Prop) : Prop :=
  I0 k1 0 a0
def S_laws_markIntS (a0 : List Int) (k1 : Int) (k : Int → List Int → Prop) : Prop := G_laws_markIntS a0 k1 (fun xk1 xi5 xy100000 => ∃ j, L0_laws_markIntS k j xk1 xi5 xy100000)
def F_laws_markIntS (a : List Int) (k0 : Int) (k : Int → List Int → Prop) : Prop :=
  (a.length ≤ 1000000000 ∧ 0 ≤ k0 ∧ k0 ≤ 100000000000) ∧ k (k0 + a.length) (seqI k0 a.length)
theorem F_laws_markIntS_S {a : List Int} {k0 : Int} {k : Int → List Int → Prop} (h : F_laws_markIntS a k0 k) : S_laws_markIntS a k0 k := by
  obtain ⟨⟨h1, h2, h3⟩, hk⟩ := h
  have key : ∀ (d i : Nat) (out : List Int), i + d = a.length → out.length = a.length → out.take i = seqI k0 i → L0_laws_markIntS k (d + 1) (k0 + (i : Int)) (i : Int) out := by
    intro d
    induction d with
    | zero =>
      intro i out hi ho he
      rw [L0_laws_markIntS, T0_laws_markIntS]
      refine br_dec.2 ⟨fun h => by omega, fun _ => ?_⟩
      rw [List.take_of_length_le (by omega)] at he
      have : i = a.length := by omega
      rw [he, this]; exact hk
    | succ d ih =>
      intro i out hi ho he
      rw [L0_laws_markIntS, T0_laws_markIntS]
      rw [Int.toNat_natCast]
      refine br_dec.2 ⟨fun _ => ⟨⟨by omega, by omega⟩, inR (by omega) (by omega), inR (by omega) (by omega), ?_⟩, fun h => by omega⟩
      rw [show k0 + (i : Int) + 1 = k0 + ((i + 1 : Nat) : Int) by omega]
      exact ih (i + 1) _ (by omega) (by simpa using ho) (by rw [take_set_succ (by omega), he, seqI_snoc])
  have := key a.length 0 a (by omega) rfl (by simp [seqI])
  rw [show k0 + ((0 : Nat) : Int) = k0 by omega] at this
  exact ⟨_, this⟩
-- laws.markGate
def G_laws_markGate (a0Window : Int) (a0Room : Int) (a0New : List Int) (a0Main : List Int) (a0Sketch : List Int) (a0Added : Int) (k1 : Int) (k : Int → List Int → List Int → List Int → Prop) : Prop :=
  F_laws_markIntS a0New k1 fun markIntS8 omarkIntS8 =>
  F_laws_markIntS a0Main markIntS8 fun markIntS12 omarkIntS12 =>
  F_laws_markIntS a0Sketch markIntS12 fun markIntS16 omarkIntS16 =>
  k markIntS16 omarkIntS8 omarkIntS12 omarkIntS16
def S_laws_markGate (a0Window : Int) (a0Room : Int) (a0New : List Int) (a0Main : List Int) (a0Sketch : List Int) (a0Added : Int) (k1 : Int) (k : Int → List Int → List Int → List Int → Prop) : Prop := G_laws_markGate a0Window a0Room a0New a0Main a0Sketch a0Added k1 k
def F_laws_markGate (window : Int) (room : Int) (new : List Int) (main : List Int) (sketch : List Int) (added : Int) (k0 : Int) (k : Int → List Int → List Int → List Int → Prop) : Prop := (new.length ≤ 1000000000 ∧ main.length ≤ 1000000000 ∧ sketch.length ≤ 1000000000 ∧ 0 ≤ k0 ∧ k0 ≤ 100000000) ∧ k (k0 + (new.length : Int) + (main.length : Int) + (sketch.length : Int)) (seqI (k0) new.length) (seqI (k0 + (new.length : Int)) main.length) (seqI (k0 + (new.length : Int) + (main.length : Int)) sketch.length)
theorem F_laws_markGate_S {window : Int} {room : Int} {new : List Int} {main : List Int} {sketch : List Int} {added : Int} {k0 : Int} {k : Int → List Int → List Int → List Int → Prop} (h : F_laws_markGate window room new main sketch added k0 k) : S_laws_markGate window room new main sketch added k0 k := by
  obtain ⟨⟨lNew, lMain, lSketch, g1, g2⟩, hk⟩ := h
  exact ⟨⟨by omega, by omega, by omega⟩, ⟨⟨by omega, by omega, by omega⟩, ⟨⟨by omega, by omega, by omega⟩, hk⟩⟩⟩
-- laws.heldIntS
def T0_laws_heldIntS (a0 : List Int) (xk1 : Int) (xi5 : Int) (k : Int → Prop) (B0 : Int → Int → Prop) : Prop :=
  br (decide (xi5 < (a0.length : Int)))
  ((0 ≤ xi5 ∧ xi5 < (a0.length : Int)) ∧
    br ((List.getD a0 (Int.toNat xi5) (0 : Int)) != xk1)
    (k (-1))
    (InR (xk1 + 1) ∧
      InR (xi5 + 1) ∧
      B0 (xk1 + 1) (xi5 + 1)))
  (k xk1)
def L0_laws_heldIntS (a0 : List Int) (k : Int → Prop) : Nat → Int → Int → Prop
  | 0, _, _ => False
  | n + 1, xk1, xi5 => T0_laws_heldIntS a0 xk1 xi5 k (L0_laws_heldIntS a0 k n)
def G_laws_heldIntS (a0 : List Int) (k1 : Int) (I0 : List Int → Int → Int → Prop) : Prop :=
  I0 a0 k1 0
def S_laws_heldIntS (a0 : List Int) (k1 : Int) (k : Int → Prop) : Prop := G_laws_heldIntS a0 k1 (fun a0 xk1 xi5 => ∃ j, L0_laws_heldIntS a0 k j xk1 xi5)
def F_laws_heldIntS (a : List Int) (k0 : Int) (k : Int → Prop) : Prop :=
  ∃ n : Nat, (n ≤ 1000000000 ∧ 0 ≤ k0 ∧ k0 ≤ 100000000000) ∧ a = seqI k0 n ∧ k (k0 + (n : Int))
theorem F_laws_heldIntS_S {a : List Int} {k0 : Int} {k : Int → Prop} (h : F_laws_heldIntS a k0 k) : S_laws_heldIntS a k0 k := by
  obtain ⟨n, ⟨h1, h2, h3⟩, rfl, hk⟩ := h
  have key : ∀ (d i : Nat), i + d = n → L0_laws_heldIntS (seqI k0 n) k (d + 1) (k0 + (i : Int)) (i : Int) := by
    intro d
    induction d with
    | zero =>
      intro i hi
      rw [L0_laws_heldIntS, T0_laws_heldIntS]
      rw [seqI_len]
      refine br_dec.2 ⟨fun h => by omega, fun _ => ?_⟩
      have : i = n := by omega
      rw [this]; exact hk
    | succ d ih =>
      intro i hi
      have hi2 : i < n := by omega
      rw [L0_laws_heldIntS, T0_laws_heldIntS]
      rw [Int.toNat_natCast, seqI_len]
      refine br_dec.2 ⟨fun _ => ⟨⟨by omega, by omega⟩, br_bne.2 ⟨fun h => absurd (seqI_get hi2) h, fun _ => ⟨inR (by omega) (by omega), inR (by omega) (by omega), ?_⟩⟩⟩, fun h => by omega⟩
      rw [show k0 + (i : Int) + 1 = k0 + ((i + 1 : Nat) : Int) by omega]
      exact ih (i + 1) (by omega)
  have := key n 0 (by omega)
  rw [show k0 + ((0 : Nat) : Int) = k0 by omega] at this
  exact ⟨_, this⟩
-- laws.heldGate
def G_laws_heldGate (a0Window : Int) (a0Room : Int) (a0New : List Int) (a0Main : List Int) (a0Sketch : List Int) (a0Added : Int) (k1 : Int) (k : Int → Prop) : Prop :=
  F_laws_heldIntS a0New k1 fun heldIntS8 =>
  br (decide (heldIntS8 < 0))
  (k (-1))
  (F_laws_heldIntS a0Main heldIntS8 fun heldIntS14 =>
    br (decide (heldIntS14 < 0))
    (k (-1))
    (F_laws_heldIntS a0Sketch heldIntS14 fun heldIntS20 =>
      br (decide (heldIntS20 < 0))
      (k (-1))
      (k heldIntS20)))
def S_laws_heldGate (a0Window : Int) (a0Room : Int) (a0New : List Int) (a0Main : List Int) (a0Sketch : List Int) (a0Added : Int) (k1 : Int) (k : Int → Prop) : Prop := G_laws_heldGate a0Window a0Room a0New a0Main a0Sketch a0Added k1 k
def F_laws_heldGate (window : Int) (room : Int) (new : List Int) (main : List Int) (sketch : List Int) (added : Int) (k0 : Int) (k : Int → Prop) : Prop :=
  ∃ nNew nMain nSketch : Nat, (nNew ≤ 1000000000 ∧ nMain ≤ 1000000000 ∧ nSketch ≤ 1000000000 ∧ 0 ≤ k0 ∧ k0 ≤ 100000000) ∧ new = seqI (k0) nNew ∧ main = seqI (k0 + (nNew : Int)) nMain ∧ sketch = seqI (k0 + (nNew : Int) + (nMain : Int)) nSketch ∧ k (k0 + (nNew : Int) + (nMain : Int) + (nSketch : Int))
theorem F_laws_heldGate_S {window : Int} {room : Int} {new : List Int} {main : List Int} {sketch : List Int} {added : Int} {k0 : Int} {k : Int → Prop} (h : F_laws_heldGate window room new main sketch added k0 k) : S_laws_heldGate window room new main sketch added k0 k := by
  obtain ⟨nNew, nMain, nSketch, ⟨lNew, lMain, lSketch, g1, g2⟩, rfl, rfl, rfl, hk⟩ := h
  refine ⟨nNew, ⟨lNew, by omega, by omega⟩, rfl, ?_⟩
  refine br_dec.2 ⟨fun h => by omega, fun _ => ?_⟩
  refine ⟨nMain, ⟨lMain, by omega, by omega⟩, rfl, ?_⟩
  refine br_dec.2 ⟨fun h => by omega, fun _ => ?_⟩
  refine ⟨nSketch, ⟨lSketch, by omega, by omega⟩, rfl, ?_⟩
  refine br_dec.2 ⟨fun h => by omega, fun _ => ?_⟩
  exact hk
-- laws.FnExactRunGate
def G_laws_FnExactRunGate (aT0 : List Int) (aWindow1 : Int) (aRoom2 : Int) (k : Bool → Prop) : Prop :=
  br (decide ((aT0.length : Int) > 1048576))
  (k true)
  (F_laws_toIntS aT0 fun toIntS22 =>
    F_spec_RunGate toIntS22 aWindow1 aRoom2 fun runGate25Window runGate25Room runGate25New runGate25Main runGate25Sketch runGate25Added runGate25r1 =>
    F_laws_toIntS aT0 fun toIntS29 =>
    F_impl_RunGate toIntS29 aWindow1 aRoom2 fun runGate34Window runGate34Room runGate34New runGate34Main runGate34Sketch runGate34Added runGate34r1 =>
    F_laws_eqGate runGate34Window runGate34Room runGate34New runGate34Main runGate34Sketch runGate34Added runGate25Window runGate25Room runGate25New runGate25Main runGate25Sketch runGate25Added fun eqGate39 =>
    br (!eqGate39)
    (k false)
    (br (runGate34r1 != runGate25r1)
      (k false)
      (F_laws_toIntS aT0 fun toIntS48 =>
        F_laws_eqIntS toIntS29 toIntS48 fun eqIntS49 =>
        br (!eqIntS49)
        (k false)
        (F_laws_markIntS toIntS29 (1 : Int) fun markIntS53 omarkIntS53 =>
          br (decide (markIntS53 < 0))
          (k false)
          (F_laws_eqGate runGate34Window runGate34Room runGate34New runGate34Main runGate34Sketch runGate34Added runGate25Window runGate25Room runGate25New runGate25Main runGate25Sketch runGate25Added fun eqGate59 =>
            br (!eqGate59)
            (k false)
            (br (runGate34r1 != runGate25r1)
              (k false)
              (F_laws_markGate runGate34Window runGate34Room runGate34New runGate34Main runGate34Sketch runGate34Added (1 : Int) fun markGate69 omarkGate69New omarkGate69Main omarkGate69Sketch =>
                F_laws_heldGate runGate34Window runGate34Room omarkGate69New omarkGate69Main omarkGate69Sketch runGate34Added (1 : Int) fun heldGate72 =>
                br (decide (heldGate72 < 0))
                (k false)
                (br (heldGate72 != markGate69)
                  (k false)
                  (F_laws_toIntS aT0 fun toIntS80 =>
                    F_impl_RunGate toIntS80 aWindow1 aRoom2 fun runGate83Window runGate83Room runGate83New runGate83Main runGate83Sketch runGate83Added runGate83r1 =>
                    F_laws_eqGate runGate83Window runGate83Room runGate83New runGate83Main runGate83Sketch runGate83Added runGate25Window runGate25Room runGate25New runGate25Main runGate25Sketch runGate25Added fun eqGate88 =>
                    br (!eqGate88)
                    (k false)
                    (br (runGate83r1 != runGate25r1)
                      (k false)
                      (F_laws_heldGate runGate34Window runGate34Room omarkGate69New omarkGate69Main omarkGate69Sketch runGate34Added (1 : Int) fun heldGate97 =>
                        br (decide (heldGate97 < 0))
                        (k false)
                        (br (heldGate97 != markGate69)
                          (k false)
                          (k true)))))))))))))
def S_laws_FnExactRunGate (aT0 : List Int) (aWindow1 : Int) (aRoom2 : Int) (k : Bool → Prop) : Prop := G_laws_FnExactRunGate aT0 aWindow1 aRoom2 k
abbrev F_laws_FnExactRunGate (aT0 : List Int) (aWindow1 : Int) (aRoom2 : Int) (k : Bool → Prop) : Prop := S_laws_FnExactRunGate aT0 aWindow1 aRoom2 k
theorem F_laws_FnExactRunGate_S {aT0 : List Int} {aWindow1 : Int} {aRoom2 : Int} {k : Bool → Prop} (h : F_laws_FnExactRunGate aT0 aWindow1 aRoom2 k) : S_laws_FnExactRunGate aT0 aWindow1 aRoom2 k := h
theorem law_FnExactRunGate (t : List Int) (lt : t.length ≤ maxLen) (rt : ∀ x ∈ t, InR x) (window : Int) (rwindow : InR window) (room : Int) (rroom : InR room) :
    F_laws_FnExactRunGate t window room (fun r => r = true) := by
  refine br_dec.2 ⟨fun _ => rfl, fun t0 => ?_⟩
  have mt : t.length ≤ 1000000000 := by omega
  by_cases v : VTrace t ∧ (1 ≤ window ∧ window ≤ 8) ∧ 1 ≤ room ∧ room ≤ 8
  · have m2 := (by have := gate_len (runG_valid t ⟨[], [], emptyM, 0⟩ 0 (gate0 v.2.1 v.2.2) v.1.2).1; exact ⟨by omega, by omega, by omega⟩ : (runG window room t ⟨[], [], emptyM, 0⟩ 0).1.n.length ≤ 1000000000 ∧ (runG window room t ⟨[], [], emptyM, 0⟩ 0).1.m.length ≤ 1000000000 ∧ (runG window room t ⟨[], [], emptyM, 0⟩ 0).1.s.length ≤ 1000000000)
    exact ⟨mt, ⟨fun _ => ⟨mt, ⟨fun _ => eqGate_same m2 (br_nt (br_same' (⟨mt, mt, br_de (⟨⟨mt, by omega, by omega⟩, br_lt0 (by omega) (eqGate_same m2 (br_nt (br_same' (⟨⟨m2.1, m2.2.1, m2.2.2, by omega, by omega⟩, ⟨_, _, _, ⟨m2.1, m2.2.1, m2.2.2, by omega, by omega⟩, rfl, rfl, rfl, br_lt0 (by omega) (br_same' (⟨mt, ⟨fun _ => eqGate_same m2 (br_nt (br_same' (⟨_, _, _, ⟨m2.1, m2.2.1, m2.2.2, by omega, by omega⟩, rfl, rfl, rfl, br_lt0 (by omega) (br_same' rfl)⟩))), fun h => absurd v h⟩⟩))⟩⟩))))⟩)⟩))), fun h => absurd v h⟩⟩, fun h => absurd v h⟩⟩
  · have m2 : ([] : List Int).length ≤ 1000000000 ∧ ([] : List Int).length ≤ 1000000000 ∧ ([] : List Int).length ≤ 1000000000 := by simp
    exact ⟨mt, ⟨fun h => absurd h v, fun _ => ⟨mt, ⟨fun h => absurd h v, fun _ => eqGate_same m2 (br_nt (br_same' (⟨mt, mt, br_de (⟨⟨mt, by omega, by omega⟩, br_lt0 (by omega) (eqGate_same m2 (br_nt (br_same' (⟨⟨m2.1, m2.2.1, m2.2.2, by omega, by omega⟩, ⟨_, _, _, ⟨m2.1, m2.2.1, m2.2.2, by omega, by omega⟩, rfl, rfl, rfl, br_lt0 (by omega) (br_same' (⟨mt, ⟨fun h => absurd h v, fun _ => eqGate_same m2 (br_nt (br_same' (⟨_, _, _, ⟨m2.1, m2.2.1, m2.2.2, by omega, by omega⟩, rfl, rfl, rfl, br_lt0 (by omega) (br_same' rfl)⟩)))⟩⟩))⟩⟩))))⟩)⟩)))⟩⟩⟩⟩
end Go.Ev
