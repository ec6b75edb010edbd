/- What the functions that the law reaches do, written as plain Lean. No statement is proved here. -/
import Derived.Test.YtnkmhjdenddpbacEvT
namespace Go.Ev
set_option linter.unusedVariables false
open Go
theorem br_iff {b : Bool} {A B : Prop} : br b A B ↔ (b = true → A) ∧ (b = false → B) := by cases b <;> simp [br]
theorem br_dec {p : Prop} [Decidable p] {A B : Prop} : br (decide p) A B ↔ (p → A) ∧ (¬ p → B) := by rw [br_iff]; simp
theorem br_beq {a b : Int} {A B : Prop} : br (a == b) A B ↔ (a = b → A) ∧ (a ≠ b → B) := by rw [br_iff]; simp
theorem br_bne {a b : Int} {A B : Prop} : br (a != b) A B ↔ (a ≠ b → A) ∧ (a = b → B) := by rw [br_iff]; simp
theorem br_not {b : Bool} {A B : Prop} : br (!b) A B ↔ br b B A := by cases b <;> simp [br]
theorem inR {x : Int} (h1 : -9223372036854775808 ≤ x) (h2 : x ≤ 9223372036854775807) : InR x := ⟨h1, h2⟩

section lists
variable {α : Type}
theorem drop_nil' {l : List α} {i : Nat} (h : l.drop i = []) : l.length ≤ i := by simpa using h
theorem drop_cons' {l : List α} {i : Nat} {x : α} {r : List α} (h : l.drop i = x :: r) : i < l.length ∧ (∀ d, l.getD i d = x) ∧ l[i]? = some x ∧ l.drop (i + 1) = r ∧ l.take (i + 1) = l.take i ++ [x] := by
  have hlt : i < l.length := by
    rcases Nat.lt_or_ge i l.length with h1 | h1
    · exact h1
    · rw [List.drop_eq_nil_of_le h1] at h; cases h
  have h2 := List.drop_eq_getElem_cons hlt
  rw [h] at h2
  injection h2 with h3 h4
  have h5 : l[i]? = some x := by rw [List.getElem?_eq_getElem hlt, h3]
  exact ⟨hlt, fun d => by simp [List.getD, h5], h5, h4.symm, by rw [List.take_succ_eq_append_getElem hlt, h3]⟩
end lists

/-- The place of a number, or -1. -/
def plcF : List Int → Int → Nat → Int
  | [], _, _ => -1
  | x :: r, n, i => if x = n then (i : Int) else plcF r n (i + 1)
def plc (l : List Int) (n : Int) : Int := plcF l n 0
theorem plcF_spec : ∀ (l : List Int) (n : Int) (i : Nat), (n ∉ l ∧ plcF l n i = -1) ∨ ∃ j, j < l.length ∧ l[j]? = some n ∧ (∀ q, q < j → l[q]? ≠ some n) ∧ plcF l n i = ((i + j : Nat) : Int)
  | [], n, i => .inl ⟨by simp, rfl⟩
  | x :: r, n, i => by
    by_cases h : x = n
    · subst h
      exact .inr ⟨0, by simp, rfl, fun q hq => by omega, by simp [plcF]⟩
    · rcases plcF_spec r n (i + 1) with ⟨h1, h2⟩ | ⟨j, h1, h2, h3, h4⟩
      · exact .inl ⟨by simp [Ne.symm h, h1], by simp [plcF, h, h2]⟩
      · refine .inr ⟨j + 1, by simp; omega, by simpa using h2, fun q hq => ?_, ?_⟩
        · cases q with
          | zero => simpa using h
          | succ q => simpa using h3 q (by omega)
        · simp only [plcF, h, if_false, h4]; omega
theorem plc_spec (l : List Int) (n : Int) : (n ∉ l ∧ plc l n = -1) ∨ ∃ j : Nat, j < l.length ∧ l[j]? = some n ∧ (∀ q, q < j → l[q]? ≠ some n) ∧ plc l n = (j : Int) := by
  have := plcF_spec l n 0
  simpa [plc] using this
theorem plc_ge {l : List Int} {n : Int} : plc l n ≥ 0 ↔ n ∈ l := by
  rcases plc_spec l n with ⟨h1, h2⟩ | ⟨j, h1, h2, _, h3⟩
  · rw [h2]; simp [h1]
  · rw [h3]; simp [List.mem_of_getElem? h2]
theorem nodup_plc {l : List Int} : (∀ i : Nat, i < l.length → plc l (l.getD i 0) = (i : Int)) ↔ l.Nodup := by
  have hg : ∀ {i : Nat} (hi : i < l.length), l[i]? = some l[i] ∧ l.getD i 0 = l[i] := fun hi => ⟨List.getElem?_eq_getElem hi, by simp [List.getD, hi]⟩
  constructor
  · intro h
    refine List.pairwise_iff_getElem.2 fun i j hi hj hij e => ?_
    have h1 := h j hj
    rcases plc_spec l (l.getD j 0) with ⟨_, h2⟩ | ⟨q, h2, h3, h4, h5⟩
    · omega
    · have : q = j := by omega
      subst this
      exact h4 i hij (by rw [(hg hi).1, e, (hg hj).2])
  · intro hn i hi
    have hx : l[i]? = some (l.getD i 0) := by rw [(hg hi).1, (hg hi).2]
    rcases plc_spec l (l.getD i 0) with ⟨h1, _⟩ | ⟨q, h2, h3, h4, h5⟩
    · exact absurd (List.mem_of_getElem? hx) h1
    · have : q = i := by
        rcases Nat.lt_trichotomy q i with h | h | h
        · refine absurd ?_ (List.pairwise_iff_getElem.1 hn q i h2 hi h)
          have := h3.trans hx.symm
          rw [(hg h2).1, (hg hi).1] at this
          injection this
        · exact h
        · exact absurd hx (h4 i h)
      rw [h5, this]

/-- Valid keys. -/
def VKeys (l : List Int) (room : Int) : Prop := 1 ≤ room ∧ room ≤ 8 ∧ (l.length : Int) ≤ room ∧ (∀ x ∈ l, 0 ≤ x ∧ x ≤ 31) ∧ l.Nodup
def rmK (l : List Int) (key : Int) : List Int := l.filter (fun x => x != key)
theorem mem_rmK {l : List Int} {key x : Int} : x ∈ rmK l key ↔ x ∈ l ∧ x ≠ key := by simp [rmK]
theorem rmK_not {l : List Int} {key : Int} (h : key ∉ l) : rmK l key = l := by
  unfold rmK
  rw [List.filter_eq_self]
  intro x hx
  have : x ≠ key := fun e => h (e ▸ hx)
  simpa using this
theorem rmK_nodup {l : List Int} {key : Int} (h : l.Nodup) : (rmK l key).Nodup := List.Pairwise.filter _ h
theorem rmK_cons_ne {l : List Int} {key x : Int} (h : x ≠ key) : rmK (x :: l) key = x :: rmK l key := by
  unfold rmK; rw [List.filter_cons_of_pos (by simpa using h)]
theorem rmK_cons_eq {l : List Int} {key : Int} : rmK (key :: l) key = rmK l key := by
  unfold rmK; rw [List.filter_cons_of_neg (by simp)]
theorem rmK_erase : ∀ {l : List Int} {key : Int} {j : Nat}, l.Nodup → l[j]? = some key → l.take j ++ l.drop (j + 1) = rmK l key
  | [], _, _, _, h => by simp at h
  | x :: r, key, 0, hn, h => by
    have e : x = key := by simpa using h
    subst e
    rw [rmK_cons_eq, rmK_not (List.nodup_cons.1 hn).1]; rfl
  | x :: r, key, j + 1, hn, h => by
    have h' : r[j]? = some key := by simpa using h
    have hne : x ≠ key := fun e => (List.nodup_cons.1 hn).1 (e ▸ List.mem_of_getElem? h')
    rw [rmK_cons_ne hne, ← rmK_erase (List.nodup_cons.1 hn).2 h']; rfl
theorem rmK_len {l : List Int} {key : Int} (hn : l.Nodup) (h : key ∈ l) : (rmK l key).length + 1 = l.length := by
  obtain ⟨j, hj, he⟩ := List.getElem_of_mem h
  have h2 : l[j]? = some key := by rw [List.getElem?_eq_getElem hj, he]
  rw [← rmK_erase hn h2]; simp; omega
def VSegs (trial safe : Int) (new old : List Int) : Prop := VKeys new trial ∧ VKeys old safe ∧ ∀ x ∈ new, x ∉ old
theorem segs_nodup {new old : List Int} : (new ++ old).Nodup ↔ new.Nodup ∧ old.Nodup ∧ ∀ x ∈ new, x ∉ old := by
  rw [List.nodup_append]
  exact ⟨fun ⟨a, b, c⟩ => ⟨a, b, fun x hx h => c x hx x h rfl⟩, fun ⟨a, b, c⟩ => ⟨a, b, fun x hx y hy e => c x hx (e ▸ hy)⟩⟩

theorem all_t {P : Prop} {k : Bool → Prop} (p : P) (h : k true) : ∀ b : Bool, (b = true ↔ P) → k b := fun b hb => by rw [hb.2 p]; exact h
theorem br_nt {A B : Prop} (h : B) : br (!true) A B := h
theorem br_same {b : Bool} {A B : Prop} (h : B) : br (!(b == b)) A B := by rw [beq_self_eq_true]; exact h
theorem take_set_succ {α : Type} {l : List α} {i : Nat} {x : α} (h : i < l.length) : (l.set i x).take (i + 1) = l.take i ++ [x] := by
  rw [List.take_succ_eq_append_getElem (by simpa using h), List.take_set_of_le (Nat.le_refl _)]; simp
theorem pred_same {P : Prop} {b1 b2 : Bool} {A B : Prop} (h1 : b1 = true ↔ P) (h2 : b2 = true ↔ P) (h : B) : br (!(b1 == b2)) A B := by
  have e : b1 = b2 := by
    cases b1 <;> cases b2 <;> first | rfl | (simp at h1 h2; first | exact absurd h2 h1 | exact absurd h1 h2)
  subst e
  exact br_same h
theorem vkeys_len {l : List Int} {room : Int} (v : VKeys l room) : l.length ≤ 8 := by
  have := v.2.1; have := v.2.2.1; omega

def usedR : List Int → List Int → List Int
  | D, [] => D
  | D, x :: r => usedR (x :: rmK D x) r
abbrev Ent := Int × Int × Int
def Rar (a b : Ent) : Prop := a.2.1 < b.2.1 ∨ a.2.1 = b.2.1 ∧ a.2.2 < b.2.2
instance (a b : Ent) : Decidable (Rar a b) := by unfold Rar; infer_instance
theorem Rar.trans {a b c : Ent} (h : Rar a b) (g : Rar b c) : Rar a c := by unfold Rar at *; omega
structure AL where
  t : Int
  o : List Int
  f : List Int
  wo : List Int
  wf : List Int
def knownL (a : AL) (key : Int) : Prop := key ∈ a.o ∨ key ∈ a.f ∨ key ∈ a.wf ∨ key ∈ a.wo
instance (a : AL) (key : Int) : Decidable (knownL a key) := by unfold knownL; infer_instance
/-- `Can room r C n`: with a cache `C` before the keys `r`, `n` hits are possible. -/
def Can (room : Nat) : List Int → List Int → Nat → Prop
  | [], _, n => n = 0
  | k :: r, C, n => ∃ D m, D.Nodup ∧ D.length ≤ room ∧ k ∈ D ∧ (∀ x ∈ D, x = k ∨ x ∈ C) ∧ Can room r D m ∧ n ≤ m + (if k ∈ C then 1 else 0)
theorem Can.zero {room : Nat} (h : 1 ≤ room) : ∀ {r C : List Int}, Can room r C 0
  | [], _ => rfl
  | k :: r, C => ⟨[k], 0, by simp, by simpa using h, by simp, fun x hx => .inl (List.mem_singleton.1 hx), Can.zero h, by omega⟩
/-- How many different keys a trace has. -/
def nk (t : List Int) : Nat := (usedR [] t).length
theorem len_add {D : List Int} (hn : D.Nodup) (k : Int) : (k :: rmK D k).length = D.length + if k ∈ D then 0 else 1 := by
  rw [List.length_cons]
  split
  · rename_i h; exact rmK_len hn h
  · rename_i h; rw [rmK_not h]
/-- New keys are never there. -/
theorem can_new {room : Nat} : ∀ {r C D : List Int} {n : Nat}, Can room r C n → (∀ x ∈ C, x ∈ D) → D.Nodup → n + (usedR D r).length ≤ r.length + D.length
  | [], C, D, n, h, _, _ => by simp only [Can] at h; subst h; simp [usedR]
  | k :: r, C, D, n, ⟨E, m, h1, h2, h3, h4, h5, h6⟩, hs, hn => by
    have h7 := can_new (D := k :: rmK D k) h5 (fun x hx => by
      by_cases e : x = k
      · rw [e]; simp
      · exact List.mem_cons_of_mem _ (mem_rmK.2 ⟨hs x ((h4 x hx).resolve_left e), e⟩)) (List.nodup_cons.2 ⟨fun h => (mem_rmK.1 h).2 rfl, rmK_nodup hn⟩)
    rw [len_add hn] at h7
    rw [usedR, List.length_cons]
    by_cases hk : k ∈ C
    · rw [if_pos hk] at h6; rw [if_pos (hs k hk)] at h7; omega
    · rw [if_neg hk] at h6
      split at h7 <;> omega
/-- What a policy does to the keys of its cache: never more than `cap`, and while fewer than `free` are there, none leaves. -/
def Runs (cap free : Nat) : List Int → List Int → List Int → Nat → Prop
  | [], C, E, n => E = C ∧ n = 0
  | k :: r, C, E, n => ∃ D m, D.Nodup ∧ D.length ≤ cap ∧ k ∈ D ∧ (∀ x ∈ D, x = k ∨ x ∈ C) ∧ ((k ∈ C ∨ C.length < free) → ∀ x ∈ C, x ∈ D) ∧ (k ∉ C → free ≤ C.length → free ≤ D.length) ∧
      Runs cap free r D E m ∧ n = m + (if k ∈ C then 1 else 0)
theorem Runs.can {cap free : Nat} : ∀ {r C E : List Int} {n : Nat}, Runs cap free r C E n → Can cap r C n
  | [], _, _, _, h => h.2
  | k :: r, C, E, n, ⟨D, m, h1, h2, h3, h4, _, _, h7, h8⟩ => ⟨D, m, h1, h2, h3, h4, h7.can, by omega⟩
theorem Runs.new {cap free : Nat} {t E : List Int} {n : Nat} (h : Runs cap free t [] E n) : n + nk t ≤ t.length := by
  have := can_new (D := []) h.can (by simp) (by simp)
  simpa [nk] using this
theorem br_yd {p : Prop} [Decidable p] {A B : Prop} (h : p) (g : A) : br (decide p) A B := br_dec.2 ⟨fun _ => g, fun c => absurd h c⟩
theorem br_nd {p : Prop} [Decidable p] {A B : Prop} (h : ¬ p) (g : B) : br (decide p) A B := br_dec.2 ⟨fun c => absurd c h, fun _ => g⟩
def VSk (s : List Int) : Prop := s.length = 24 ∧ ∀ x ∈ s, 0 ≤ x ∧ x ≤ 15
structure GT where
  (n m s : List Int) (a : Int)
def VGate (w r : Int) (g : GT) : Prop := VSegs w r g.n g.m ∧ VSk g.s ∧ 0 ≤ g.a ∧ g.a ≤ 15
def PTm (l : List (Int × Int)) : Prop := (∀ e ∈ l, (0 ≤ e.1 ∧ e.1 ≤ 31) ∧ 0 ≤ e.2 ∧ e.2 ≤ 1000) ∧ l.Pairwise fun a b => a.1 < b.1
def VTm (l : List (Int × Int)) : Prop := l.length ≤ 12 ∧ PTm l
theorem PTm.filter {l : List (Int × Int)} (v : PTm l) (p : Int × Int → Bool) : PTm (l.filter p) := ⟨fun e he => v.1 e (List.mem_filter.1 he).1, v.2.filter p⟩
def dropM (l : List (Int × Int)) (now : Int) : List (Int × Int) := l.filter fun e => decide (now ≤ e.2)
theorem dropM_len (l : List (Int × Int)) (now : Int) : (dropM l now).length ≤ l.length := List.length_filter_le _ _
theorem VTm.drop {l : List (Int × Int)} (v : VTm l) (now : Int) : VTm (dropM l now) := ⟨Nat.le_trans (dropM_len l now) v.1, v.2.filter _⟩
-- laws.szIntS
def G_laws_szIntS (a0 : List Int) (left1 : Int) (k : Int → Prop) : Prop :=
  InR (left1 - (a0.length : Int)) ∧
  br (decide ((left1 - (a0.length : Int)) < 0))
  (k (-1))
  (k (left1 - (a0.length : Int)))
def S_laws_szIntS (a0 : List Int) (left1 : Int) (k : Int → Prop) : Prop := G_laws_szIntS a0 left1 k
def F_laws_szIntS (a : List Int) (left : Int) (k : Int → Prop) : Prop :=
  (a.length ≤ maxLen ∧ -1 ≤ left ∧ left ≤ 1048576) ∧ ∀ r : Int, -1 ≤ r → r ≤ 1048576 → (0 ≤ r → (a.length : Int) + r = left) → k r
theorem F_laws_szIntS_S {a : List Int} {left : Int} {k : Int → Prop} (h : F_laws_szIntS a left k) : S_laws_szIntS a left k := by
  obtain ⟨⟨h1, h2, h3⟩, hk⟩ := h
  have hm : maxLen = 9223372036854775807 := rfl
  exact ⟨inR (by omega) (by omega), br_dec.2 ⟨fun h => hk _ (by omega) (by omega) (by omega), fun h => hk _ (by omega) (by omega) (by omega)⟩⟩
-- laws.szGate
def G_laws_szGate (a0Window : Int) (a0Room : Int) (a0New : List Int) (a0Main : List Int) (a0Sketch : List Int) (a0Added : Int) (left1 : Int) (k : Int → Prop) : Prop :=
  F_laws_szIntS a0New left1 fun szIntS8 =>
  br (decide (szIntS8 < 0))
  (k (-1))
  (F_laws_szIntS a0Main szIntS8 fun szIntS14 =>
    br (decide (szIntS14 < 0))
    (k (-1))
    (F_laws_szIntS a0Sketch szIntS14 fun szIntS20 =>
      br (decide (szIntS20 < 0))
      (k (-1))
      (k szIntS20)))
def S_laws_szGate (a0Window : Int) (a0Room : Int) (a0New : List Int) (a0Main : List Int) (a0Sketch : List Int) (a0Added : Int) (left1 : Int) (k : Int → Prop) : Prop := G_laws_szGate a0Window a0Room a0New a0Main a0Sketch a0Added left1 k
def F_laws_szGate (window : Int) (room : Int) (new : List Int) (main : List Int) (sketch : List Int) (added : Int) (left : Int) (k : Int → Prop) : Prop :=
  (new.length ≤ maxLen ∧ main.length ≤ maxLen ∧ sketch.length ≤ maxLen ∧ -1 ≤ left ∧ left ≤ 1048576) ∧ ∀ r : Int, -1 ≤ r → r ≤ 1048576 → (0 ≤ r → (new.length : Int) + (main.length : Int) + (sketch.length : Int) + r = left) → k r
theorem F_laws_szGate_S {window : Int} {room : Int} {new : List Int} {main : List Int} {sketch : List Int} {added : Int} {left : Int} {k : Int → Prop} (h : F_laws_szGate window room new main sketch added left k) : S_laws_szGate window room new main sketch added left k := by
  obtain ⟨⟨hNew, hMain, hSketch, g1, g2⟩, hk⟩ := h
  exact ⟨⟨hNew, by omega, by omega⟩, fun rNew _ _ _ => br_dec.2 ⟨fun _ => hk (-1) (by omega) (by omega) (by omega), fun _ => ⟨⟨hMain, by omega, by omega⟩, fun rMain _ _ _ => br_dec.2 ⟨fun _ => hk (-1) (by omega) (by omega) (by omega), fun _ => ⟨⟨hSketch, by omega, by omega⟩, fun rSketch _ _ _ => br_dec.2 ⟨fun _ => hk (-1) (by omega) (by omega) (by omega), fun _ => hk _ (by omega) (by omega) (by omega)⟩⟩⟩⟩⟩⟩
-- laws.toIntS
def T0_laws_toIntS (a0 : List Int) (xi4 : Int) (xy7 : List Int) (k : List Int → Prop) (B0 : Int → List Int → Prop) : Prop :=
  br (decide (xi4 < (a0.length : Int)))
  ((0 ≤ xi4 ∧ xi4 < (a0.length : Int)) ∧
    (0 ≤ xi4 ∧ xi4 < (xy7.length : Int)) ∧
    InR (xi4 + 1) ∧
    B0 (xi4 + 1) (List.set xy7 (Int.toNat xi4) (List.getD a0 (Int.toNat xi4) (0 : Int))))
  (k xy7)
def L0_laws_toIntS (a0 : List Int) (k : List Int → Prop) : Nat → Int → List Int → Prop
  | 0, _, _ => False
  | n + 1, xi4, xy7 => T0_laws_toIntS a0 xi4 xy7 k (L0_laws_toIntS a0 k n)
def G_laws_toIntS (a0 : List Int) (I0 : List Int → Int → List Int → Prop) : Prop :=
  ((a0.length : Int) = (a0.length : Int) ∧ 0 ≤ (a0.length : Int) ∧ (a0.length : Int) ≤ 1000000000) ∧
  I0 a0 0 (List.replicate (Int.toNat (a0.length : Int)) (0 : Int))
def S_laws_toIntS (a0 : List Int) (k : List Int → Prop) : Prop := G_laws_toIntS a0 (fun a0 xi4 xy7 => ∃ j, L0_laws_toIntS a0 k j xi4 xy7)
def F_laws_toIntS (a : List Int) (k : List Int → Prop) : Prop := a.length ≤ 1000000000 ∧ k a
theorem F_laws_toIntS_S {a : List Int} {k : List Int → Prop} (h : F_laws_toIntS a k) : S_laws_toIntS a k := by
  obtain ⟨hl, hk⟩ := h
  have key : ∀ (r : List Int) (i : Nat) (out : List Int), a.drop i = r → out.length = a.length → out.take i = a.take i → L0_laws_toIntS a k (r.length + 1) (i : Int) out := by
    intro r
    induction r with
    | nil =>
      intro i out hd ho he
      have := drop_nil' hd
      rw [L0_laws_toIntS, T0_laws_toIntS]
      rw [List.take_of_length_le (by omega), List.take_of_length_le (by omega)] at he
      refine br_dec.2 ⟨fun h => by omega, fun _ => ?_⟩
      rw [he]; exact hk
    | cons x r ih =>
      intro i out hd ho he
      obtain ⟨h1, h2, _, h3, h4⟩ := drop_cons' hd
      rw [List.length_cons, L0_laws_toIntS, T0_laws_toIntS]
      simp only [br_dec, Int.toNat_natCast, h2]
      refine ⟨fun _ => ⟨⟨by omega, by omega⟩, ⟨by omega, by omega⟩, inR (by omega) (by omega), ih (i + 1) _ h3 (by simpa using ho) ?_⟩, fun h => by omega⟩
      rw [take_set_succ (by omega), h4, he]
  exact ⟨⟨rfl, by omega, by omega⟩, _, key a 0 _ rfl (by simp) (by simp)⟩
-- laws.toGate
def G_laws_toGate (a0Window : Int) (a0Room : Int) (a0New : List Int) (a0Main : List Int) (a0Sketch : List Int) (a0Added : Int) (k : Int → Int → List Int → List Int → List Int → Int → Prop) : Prop :=
  F_laws_toIntS a0New fun toIntS12 =>
  F_laws_toIntS a0Main fun toIntS16 =>
  F_laws_toIntS a0Sketch fun toIntS20 =>
  k a0Window a0Room toIntS12 toIntS16 toIntS20 a0Added
def S_laws_toGate (a0Window : Int) (a0Room : Int) (a0New : List Int) (a0Main : List Int) (a0Sketch : List Int) (a0Added : Int) (k : Int → Int → List Int → List Int → List Int → Int → Prop) : Prop := G_laws_toGate a0Window a0Room a0New a0Main a0Sketch a0Added k
def F_laws_toGate (window : Int) (room : Int) (new : List Int) (main : List Int) (sketch : List Int) (added : Int) (k : Int → Int → List Int → List Int → List Int → Int → Prop) : Prop := (new.length ≤ 1000000000 ∧ main.length ≤ 1000000000 ∧ sketch.length ≤ 1000000000) ∧ k window room new main sketch added
theorem F_laws_toGate_S {window : Int} {room : Int} {new : List Int} {main : List Int} {sketch : List Int} {added : Int} {k : Int → Int → List Int → List Int → List Int → Int → Prop} (h : F_laws_toGate window room new main sketch added k) : S_laws_toGate window room new main sketch added k := ⟨h.1.1, ⟨h.1.2.1, ⟨h.1.2.2, h.2⟩⟩⟩
-- spec.inRange
def G_spec_inRange (n0 : Int) (low1 : Int) (high2 : Int) (k : Bool → Prop) : Prop :=
  br (decide (low1 ≤ n0))
  (k (decide (n0 ≤ high2)))
  (k false)
def S_spec_inRange (n0 : Int) (low1 : Int) (high2 : Int) (k : Bool → Prop) : Prop := G_spec_inRange n0 low1 high2 k
def F_spec_inRange (n low high : Int) (k : Bool → Prop) : Prop := k (decide (low ≤ n ∧ n ≤ high))
theorem F_spec_inRange_S {n low high : Int} {k : Bool → Prop} (h : F_spec_inRange n low high k) : S_spec_inRange n low high k := by
  unfold F_spec_inRange at h
  simp only [S_spec_inRange, G_spec_inRange, br_dec]
  refine ⟨fun h1 => ?_, fun h1 => ?_⟩
  · simpa [h1] using h
  · simpa [h1] using h
-- spec.allIn
def T0_spec_allIn (high2 : Int) (list0 : List Int) (low1 : Int) (xi7 : Int) (k : Bool → Prop) (B0 : Int → Prop) : Prop :=
  br (decide (xi7 < (list0.length : Int)))
  ((0 ≤ xi7 ∧ xi7 < (list0.length : Int)) ∧
    F_spec_inRange (List.getD list0 (Int.toNat xi7) (0 : Int)) low1 high2 fun inRange20 =>
    br (!inRange20)
    (k false)
    (InR (xi7 + 1) ∧
      B0 (xi7 + 1)))
  (k true)
def L0_spec_allIn (high2 : Int) (list0 : List Int) (low1 : Int) (k : Bool → Prop) : Nat → Int → Prop
  | 0, _ => False
  | n + 1, xi7 => T0_spec_allIn high2 list0 low1 xi7 k (L0_spec_allIn high2 list0 low1 k n)
def G_spec_allIn (list0 : List Int) (low1 : Int) (high2 : Int) (I0 : Int → List Int → Int → Int → Prop) : Prop :=
  I0 high2 list0 low1 0
def S_spec_allIn (list0 : List Int) (low1 : Int) (high2 : Int) (k : Bool → Prop) : Prop := G_spec_allIn list0 low1 high2 (fun high2 list0 low1 xi7 => ∃ j, L0_spec_allIn high2 list0 low1 k j xi7)
def F_spec_allIn (l : List Int) (low high : Int) (k : Bool → Prop) : Prop := l.length ≤ 1000000000 ∧ k (decide (∀ x ∈ l, low ≤ x ∧ x ≤ high))
theorem F_spec_allIn_S {l : List Int} {low high : Int} {k : Bool → Prop} (h : F_spec_allIn l low high k) : S_spec_allIn l low high k := by
  obtain ⟨hl, hk⟩ := h
  have key : ∀ (r : List Int) (i : Nat), l.drop i = r → ((∀ x ∈ r, low ≤ x ∧ x ≤ high) ↔ (∀ x ∈ l, low ≤ x ∧ x ≤ high)) → L0_spec_allIn high l low k (r.length + 1) (i : Int) := by
    intro r
    induction r with
    | nil =>
      intro i hd he
      have := drop_nil' hd
      rw [L0_spec_allIn, T0_spec_allIn]
      simp only [br_dec]
      refine ⟨fun h => by omega, fun _ => ?_⟩
      rwa [decide_eq_true (he.1 (by simp))] at hk
    | cons x r ih =>
      intro i hd he
      obtain ⟨h1, h2, _, h3, _⟩ := drop_cons' hd
      rw [List.length_cons, L0_spec_allIn, T0_spec_allIn]
      simp only [br_dec, F_spec_inRange, br_not, Int.toNat_natCast, h2]
      refine ⟨fun _ => ⟨⟨by omega, by omega⟩, fun hx => ⟨inR (by omega) (by omega), ?_⟩, fun hx => ?_⟩, fun h => by omega⟩
      · refine ih (i + 1) h3 (Iff.trans ?_ he)
        simp only [List.mem_cons, forall_eq_or_imp]
        exact ⟨fun h => ⟨hx, h⟩, fun h => h.2⟩
      · rwa [decide_eq_false (fun h => hx (he.2 h x (by simp)))] at hk
  exact ⟨_, key l 0 rfl Iff.rfl⟩
-- spec.placeOf
def T0_spec_placeOf (list0 : List Int) (n1 : Int) (xi5 : Int) (k : Int → Prop) (B0 : Int → Prop) : Prop :=
  br (decide (xi5 < (list0.length : Int)))
  ((0 ≤ xi5 ∧ xi5 < (list0.length : Int)) ∧
    br ((List.getD list0 (Int.toNat xi5) (0 : Int)) == n1)
    (k xi5)
    (InR (xi5 + 1) ∧
      B0 (xi5 + 1)))
  (k (-1))
def L0_spec_placeOf (list0 : List Int) (n1 : Int) (k : Int → Prop) : Nat → Int → Prop
  | 0, _ => False
  | n + 1, xi5 => T0_spec_placeOf list0 n1 xi5 k (L0_spec_placeOf list0 n1 k n)
def G_spec_placeOf (list0 : List Int) (n1 : Int) (I0 : List Int → Int → Int → Prop) : Prop :=
  I0 list0 n1 0
def S_spec_placeOf (list0 : List Int) (n1 : Int) (k : Int → Prop) : Prop := G_spec_placeOf list0 n1 (fun list0 n1 xi5 => ∃ j, L0_spec_placeOf list0 n1 k j xi5)
def F_spec_placeOf (l : List Int) (n : Int) (k : Int → Prop) : Prop := l.length ≤ 1000000000 ∧ k (plc l n)
theorem F_spec_placeOf_S {l : List Int} {n : Int} {k : Int → Prop} (h : F_spec_placeOf l n k) : S_spec_placeOf l n k := by
  obtain ⟨hl, hk⟩ := h
  have key : ∀ (r : List Int) (i : Nat), l.drop i = r → plcF r n i = plc l n → L0_spec_placeOf l n k (r.length + 1) (i : Int) := by
    intro r
    induction r with
    | nil =>
      intro i hd he
      have := drop_nil' hd
      rw [L0_spec_placeOf, T0_spec_placeOf]
      simp only [br_dec]
      exact ⟨fun h => by omega, fun _ => by rw [show (-1 : Int) = plc l n from he]; exact hk⟩
    | cons x r ih =>
      intro i hd he
      obtain ⟨h1, h2, _, h3, _⟩ := drop_cons' hd
      rw [List.length_cons, L0_spec_placeOf, T0_spec_placeOf]
      simp only [br_dec, br_beq, Int.toNat_natCast, h2]
      refine ⟨fun _ => ⟨⟨by omega, by omega⟩, fun hx => ?_, fun hx => ⟨inR (by omega) (by omega), ?_⟩⟩, fun h => by omega⟩
      · simp only [plcF, if_pos hx] at he; rw [he]; exact hk
      · simp only [plcF, if_neg hx] at he; exact ih (i + 1) h3 he
  exact ⟨_, key l 0 rfl rfl⟩
-- spec.distinct
def T0_spec_distinct (list0 : List Int) (xi3 : Int) (k : Bool → Prop) (B0 : Int → Prop) : Prop :=
  br (decide (xi3 < (list0.length : Int)))
  ((0 ≤ xi3 ∧ xi3 < (list0.length : Int)) ∧
    F_spec_placeOf list0 (List.getD list0 (Int.toNat xi3) (0 : Int)) fun placeOf15 =>
    br (placeOf15 != xi3)
    (k false)
    (InR (xi3 + 1) ∧
      B0 (xi3 + 1)))
  (k true)
def L0_spec_distinct (list0 : List Int) (k : Bool → Prop) : Nat → Int → Prop
  | 0, _ => False
  | n + 1, xi3 => T0_spec_distinct list0 xi3 k (L0_spec_distinct list0 k n)
def G_spec_distinct (list0 : List Int) (I0 : List Int → Int → Prop) : Prop :=
  I0 list0 0
def S_spec_distinct (list0 : List Int) (k : Bool → Prop) : Prop := G_spec_distinct list0 (fun list0 xi3 => ∃ j, L0_spec_distinct list0 k j xi3)
def F_spec_distinct (l : List Int) (k : Bool → Prop) : Prop := l.length ≤ 1000000000 ∧ k (decide l.Nodup)
theorem F_spec_distinct_S {l : List Int} {k : Bool → Prop} (h : F_spec_distinct l k) : S_spec_distinct l k := by
  obtain ⟨hl, hk⟩ := h
  have key : ∀ (r : List Int) (i : Nat), l.drop i = r → (∀ q : Nat, q < i → plc l (l.getD q 0) = (q : Int)) → L0_spec_distinct l k (r.length + 1) (i : Int) := by
    intro r
    induction r with
    | nil =>
      intro i hd he
      have := drop_nil' hd
      rw [L0_spec_distinct, T0_spec_distinct]
      simp only [br_dec]
      refine ⟨fun h => by omega, fun _ => ?_⟩
      rwa [decide_eq_true (nodup_plc.1 fun q hq => he q (by omega))] at hk
    | cons x r ih =>
      intro i hd he
      obtain ⟨h1, h2, _, h3, _⟩ := drop_cons' hd
      rw [List.length_cons, L0_spec_distinct, T0_spec_distinct]
      simp only [br_dec, F_spec_placeOf, br_bne, Int.toNat_natCast]
      refine ⟨fun _ => ⟨⟨by omega, by omega⟩, hl, fun hx => ?_, fun hx => ⟨inR (by omega) (by omega), ?_⟩⟩, fun h => by omega⟩
      · rwa [decide_eq_false (fun h => hx (nodup_plc.2 h i h1))] at hk
      · refine ih (i + 1) h3 fun q hq => ?_
        by_cases e : q = i
        · subst e; exact hx
        · exact he q (by omega)
  exact ⟨_, key l 0 rfl (fun q hq => by omega)⟩
-- spec.validKeys
def G_spec_validKeys (list0 : List Int) (room1 : Int) (k : Bool → Prop) : Prop :=
  F_spec_inRange room1 (1 : Int) (8 : Int) fun inRange6 =>
  br inRange6
  (br (decide ((list0.length : Int) ≤ room1))
    (F_spec_allIn list0 (0 : Int) (31 : Int) fun allIn15 =>
      br allIn15
      (F_spec_distinct list0 fun distinct19 =>
        k distinct19)
      (k false))
    (k false))
  (k false)
def S_spec_validKeys (list0 : List Int) (room1 : Int) (k : Bool → Prop) : Prop := G_spec_validKeys list0 room1 k
def F_spec_validKeys (l : List Int) (room : Int) (k : Bool → Prop) : Prop := ∀ b : Bool, (b = true ↔ VKeys l room) → k b
theorem F_spec_validKeys_S {l : List Int} {room : Int} {k : Bool → Prop} (h : F_spec_validKeys l room k) : S_spec_validKeys l room k := by
  have hno : ¬ VKeys l room → k false := fun hv => h false (by simp [hv])
  show br (decide (1 ≤ room ∧ room ≤ 8)) _ _
  refine br_dec.2 ⟨fun h1 => br_dec.2 ⟨fun h3 => ?_, fun h3 => hno fun v => h3 v.2.2.1⟩, fun h1 => hno fun v => h1 ⟨v.1, v.2.1⟩⟩
  refine ⟨by omega, br_dec.2 ⟨fun h4 => ⟨by omega, h _ ?_⟩, fun h4 => hno fun v => h4 v.2.2.2.1⟩⟩
  simp only [decide_eq_true_eq]
  exact ⟨fun hn => ⟨h1.1, h1.2, h3, h4, hn⟩, fun v => v.2.2.2.2⟩
-- spec.copyInts
def G_spec_copyInts (list0 : List Int) (k : List Int → Prop) : Prop :=
  (0 + list0.length ≤ 1000000000) ∧
  k list0
def S_spec_copyInts (list0 : List Int) (k : List Int → Prop) : Prop := G_spec_copyInts list0 k
def F_spec_copyInts (l : List Int) (k : List Int → Prop) : Prop := l.length ≤ 1000000000 ∧ k l
theorem F_spec_copyInts_S {l : List Int} {k : List Int → Prop} (h : F_spec_copyInts l k) : S_spec_copyInts l k := ⟨by have := h.1; omega, h.2⟩
-- spec.validSketch
def G_spec_validSketch (s0 : List Int) (k : Bool → Prop) : Prop :=
  br ((s0.length : Int) == 24)
  (F_spec_allIn s0 (0 : Int) (15 : Int) fun allIn8 =>
    k allIn8)
  (k false)
def S_spec_validSketch (s0 : List Int) (k : Bool → Prop) : Prop := G_spec_validSketch s0 k
def F_spec_validSketch (s : List Int) (k : Bool → Prop) : Prop := ∀ b : Bool, (b = true ↔ VSk s) → k b
theorem F_spec_validSketch_S {s : List Int} {k : Bool → Prop} (h : F_spec_validSketch s k) : S_spec_validSketch s k :=
  br_beq.2 ⟨fun hl => ⟨by omega, h _ (by rw [decide_eq_true_iff]; exact ⟨fun w => ⟨by omega, w⟩, fun v => v.2⟩)⟩, fun hl => h false ⟨fun e => (by cases e), fun v => absurd (by have := v.1; omega) hl⟩⟩
-- spec.validGate
def G_spec_validGate_j0 (k : Bool → Prop) : Prop :=
  (k false) ∧
  (True)
def G_spec_validGate_j1 (k : Bool → Prop) : Prop :=
  (G_spec_validGate_j0 k) ∧
  (True)
def G_spec_validGate_j2 (k : Bool → Prop) : Prop :=
  (((G_spec_validGate_j1 k) ∧
      (True)) ∧
    (True)) ∧
  (True)
def G_spec_validGate_j3 (k : Bool → Prop) : Prop :=
  (G_spec_validGate_j2 k) ∧
  (True)
def G_spec_validGate_j4 (k : Bool → Prop) : Prop :=
  (G_spec_validGate_j3 k) ∧
  (True)
def G_spec_validGate (g0Window : Int) (g0Room : Int) (g0New : List Int) (g0Main : List Int) (g0Sketch : List Int) (g0Added : Int) (k : Bool → Prop) : Prop :=
  (F_spec_inRange g0Window (1 : Int) (8 : Int) fun inRange5 =>
    br inRange5
    ((F_spec_inRange g0Room (1 : Int) (8 : Int) fun inRange9 =>
        br inRange9
        ((F_spec_validKeys g0New g0Window fun validKeys16 =>
            br validKeys16
            ((F_spec_validKeys g0Main g0Room fun validKeys23 =>
                br validKeys23
                ((F_spec_copyInts g0New fun copyInts28 =>
                    ((copyInts28.length + g0Main.length ≤ 1000000000) ∧
                      (F_spec_distinct (copyInts28 ++ g0Main) fun distinct32 =>
                        br distinct32
                        ((F_spec_validSketch g0Sketch fun validSketch37 =>
                            br validSketch37
                            ((F_spec_inRange g0Added (0 : Int) (15 : Int) fun inRange42 =>
                                k inRange42) ∧
                              (True))
                            (G_spec_validGate_j0 k)) ∧
                          (True))
                        (G_spec_validGate_j1 k)) ∧
                      (True)) ∧
                    (True)) ∧
                  (True))
                (G_spec_validGate_j2 k)) ∧
              (True))
            (G_spec_validGate_j3 k)) ∧
          (True))
        (G_spec_validGate_j4 k)) ∧
      (True))
    ((G_spec_validGate_j4 k) ∧
      (True))) ∧
  (True)
def H_spec_validGate (g0Window : Int) (g0Room : Int) (g0New : List Int) (g0Main : List Int) (g0Sketch : List Int) (g0Added : Int) (k : Bool → Prop) : Prop :=
  F_spec_inRange g0Window (1 : Int) (8 : Int) fun inRange5 =>
  br inRange5
  (F_spec_inRange g0Room (1 : Int) (8 : Int) fun inRange9 =>
    br inRange9
    (F_spec_validKeys g0New g0Window fun validKeys16 =>
      br validKeys16
      (F_spec_validKeys g0Main g0Room fun validKeys23 =>
        br validKeys23
        (F_spec_copyInts g0New fun copyInts28 =>
          (copyInts28.length + g0Main.length ≤ 1000000000) ∧
          F_spec_distinct (copyInts28 ++ g0Main) fun distinct32 =>
          br distinct32
          (F_spec_validSketch g0Sketch fun validSketch37 =>
            br validSketch37
            (F_spec_inRange g0Added (0 : Int) (15 : Int) fun inRange42 =>
              k inRange42)
            (k false))
          (k false))
        (k false))
      (k false))
    (k false))
  (k false)
theorem G_spec_validGate_eq (g0Window : Int) (g0Room : Int) (g0New : List Int) (g0Main : List Int) (g0Sketch : List Int) (g0Added : Int) (k : Bool → Prop) : G_spec_validGate g0Window g0Room g0New g0Main g0Sketch g0Added k = H_spec_validGate g0Window g0Room g0New g0Main g0Sketch g0Added k := by
  simp only [G_spec_validGate, H_spec_validGate, G_spec_validGate_j0, G_spec_validGate_j1, G_spec_validGate_j2, G_spec_validGate_j3, G_spec_validGate_j4, and_self, and_true]
def S_spec_validGate (g0Window : Int) (g0Room : Int) (g0New : List Int) (g0Main : List Int) (g0Sketch : List Int) (g0Added : Int) (k : Bool → Prop) : Prop := H_spec_validGate g0Window g0Room g0New g0Main g0Sketch g0Added k
def F_spec_validGate (w r : Int) (n m s : List Int) (a : Int) (k : Bool → Prop) : Prop := ∀ b : Bool, (b = true ↔ VGate w r ⟨n, m, s, a⟩) → k b
theorem F_spec_validGate_S {w r : Int} {n m s : List Int} {a : Int} {k : Bool → Prop} (h : F_spec_validGate w r n m s a k) : S_spec_validGate w r n m s a k := by
  have hno : ¬ VGate w r ⟨n, m, s, a⟩ → k false := fun hv => h false (by simp [hv])
  refine br_dec.2 ⟨fun h1 => br_dec.2 ⟨fun h2 => ?_, fun h2 => hno fun v => h2 ⟨v.1.2.1.1, v.1.2.1.2.1⟩⟩, fun h1 => hno fun v => h1 ⟨v.1.1.1, v.1.1.2.1⟩⟩
  intro b1 hb1
  refine br_iff.2 ⟨fun e1 => ?_, fun e => hno fun v => by rw [hb1.2 v.1.1] at e; cases e⟩
  intro b2 hb2
  refine br_iff.2 ⟨fun e2 => ?_, fun e => hno fun v => by rw [hb2.2 v.1.2.1] at e; cases e⟩
  have v1 := hb1.1 e1
  have v2 := hb2.1 e2
  have l1 := vkeys_len v1
  have l2 := vkeys_len v2
  refine ⟨by omega, by omega, by simp; omega, br_dec.2 ⟨fun h3 => ?_, fun h3 => hno fun v => h3 (segs_nodup.2 ⟨v.1.1.2.2.2.2, v.1.2.1.2.2.2.2, v.1.2.2⟩)⟩⟩
  intro b3 hb3
  refine br_iff.2 ⟨fun e3 => h _ ?_, fun e => hno fun v => by rw [hb3.2 v.2.1] at e; cases e⟩
  rw [decide_eq_true_iff]
  exact ⟨fun ha => ⟨⟨v1, v2, (segs_nodup.1 h3).2.2⟩, hb3.1 e3, ha⟩, fun v => v.2.2⟩
-- spec.ValidGate
def G_spec_ValidGate (g0Window : Int) (g0Room : Int) (g0New : List Int) (g0Main : List Int) (g0Sketch : List Int) (g0Added : Int) (k : Bool → Prop) : Prop :=
  F_spec_validGate g0Window g0Room g0New g0Main g0Sketch g0Added fun validGate4 =>
  k validGate4
def S_spec_ValidGate (g0Window : Int) (g0Room : Int) (g0New : List Int) (g0Main : List Int) (g0Sketch : List Int) (g0Added : Int) (k : Bool → Prop) : Prop := G_spec_ValidGate g0Window g0Room g0New g0Main g0Sketch g0Added k
def F_spec_ValidGate (w r : Int) (n m s : List Int) (a : Int) (k : Bool → Prop) : Prop := ∀ b : Bool, (b = true ↔ VGate w r ⟨n, m, s, a⟩) → k b
theorem F_spec_ValidGate_S {w r : Int} {n m s : List Int} {a : Int} {k : Bool → Prop} (h : F_spec_ValidGate w r n m s a k) : S_spec_ValidGate w r n m s a k := h
-- impl.validRoom
def G_impl_validRoom (room0 : Int) (k : Bool → Prop) : Prop :=
  br (decide (1 ≤ room0))
  (k (decide (room0 ≤ 8)))
  (k false)
def S_impl_validRoom (room0 : Int) (k : Bool → Prop) : Prop := G_impl_validRoom room0 k
def F_impl_validRoom (n : Int) (k : Bool → Prop) : Prop := k (decide (1 ≤ n ∧ n ≤ 8))
theorem F_impl_validRoom_S {n : Int} {k : Bool → Prop} (h : F_impl_validRoom n k) : S_impl_validRoom n k := by
  unfold F_impl_validRoom at h
  simp only [S_impl_validRoom, G_impl_validRoom, br_dec]
  refine ⟨fun h1 => ?_, fun h1 => ?_⟩
  · simpa [h1] using h
  · simpa [h1] using h
-- impl.validKey
def G_impl_validKey (key0 : Int) (k : Bool → Prop) : Prop :=
  br (decide (0 ≤ key0))
  (k (decide (key0 ≤ 31)))
  (k false)
def S_impl_validKey (key0 : Int) (k : Bool → Prop) : Prop := G_impl_validKey key0 k
def F_impl_validKey (n : Int) (k : Bool → Prop) : Prop := k (decide (0 ≤ n ∧ n ≤ 31))
theorem F_impl_validKey_S {n : Int} {k : Bool → Prop} (h : F_impl_validKey n k) : S_impl_validKey n k := by
  unfold F_impl_validKey at h
  simp only [S_impl_validKey, G_impl_validKey, br_dec]
  refine ⟨fun h1 => ?_, fun h1 => ?_⟩
  · simpa [h1] using h
  · simpa [h1] using h
-- slices.Index[[]int,int]
def T0_slices_Index_sint_int (s0 : List Int) (v1 : Int) (xt7 : Int) (xt8 : Int) (k : Int → Prop) (B0 : Int → Prop) : Prop :=
  br (decide (xt8 < xt7))
  ((0 ≤ xt8 ∧ xt8 < (s0.length : Int)) ∧
    br (v1 == (List.getD s0 (Int.toNat xt8) (0 : Int)))
    (k xt8)
    (InR (xt8 + 1) ∧
      B0 (xt8 + 1)))
  (k (-1))
def L0_slices_Index_sint_int (s0 : List Int) (v1 : Int) (xt7 : Int) (k : Int → Prop) : Nat → Int → Prop
  | 0, _ => False
  | n + 1, xt8 => T0_slices_Index_sint_int s0 v1 xt7 xt8 k (L0_slices_Index_sint_int s0 v1 xt7 k n)
def G_slices_Index_sint_int (s0 : List Int) (v1 : Int) (I0 : List Int → Int → Int → Int → Prop) : Prop :=
  I0 s0 v1 (s0.length : Int) 0
def S_slices_Index_sint_int (s0 : List Int) (v1 : Int) (k : Int → Prop) : Prop := G_slices_Index_sint_int s0 v1 (fun s0 v1 xt7 xt8 => ∃ j, L0_slices_Index_sint_int s0 v1 xt7 k j xt8)
def F_slices_Index_sint_int (l : List Int) (n : Int) (k : Int → Prop) : Prop := l.length ≤ 1000000000 ∧ k (plc l n)
theorem F_slices_Index_sint_int_S {l : List Int} {n : Int} {k : Int → Prop} (h : F_slices_Index_sint_int l n k) : S_slices_Index_sint_int l n k := by
  obtain ⟨hl, hk⟩ := h
  have key : ∀ (r : List Int) (i : Nat), l.drop i = r → plcF r n i = plc l n → L0_slices_Index_sint_int l n (l.length : Int) k (r.length + 1) (i : Int) := by
    intro r
    induction r with
    | nil =>
      intro i hd he
      have := drop_nil' hd
      rw [L0_slices_Index_sint_int, T0_slices_Index_sint_int]
      simp only [br_dec]
      exact ⟨fun h => by omega, fun _ => by rw [show (-1 : Int) = plc l n from he]; exact hk⟩
    | cons x r ih =>
      intro i hd he
      obtain ⟨h1, h2, _, h3, _⟩ := drop_cons' hd
      rw [List.length_cons, L0_slices_Index_sint_int, T0_slices_Index_sint_int]
      simp only [br_dec, br_beq, Int.toNat_natCast, h2]
      refine ⟨fun _ => ⟨⟨by omega, by omega⟩, fun hx => ?_, fun hx => ⟨inR (by omega) (by omega), ?_⟩⟩, fun h => by omega⟩
      · simp only [plcF, if_pos hx.symm] at he; rw [he]; exact hk
      · simp only [plcF, if_neg (Ne.symm hx)] at he; exact ih (i + 1) h3 he
  exact ⟨_, key l 0 rfl rfl⟩
-- slices.Contains[[]int,int]
def G_slices_Contains_sint_int (s0 : List Int) (v1 : Int) (k : Bool → Prop) : Prop :=
  F_slices_Index_sint_int s0 v1 fun index7 =>
  k (decide (index7 ≥ 0))
def S_slices_Contains_sint_int (s0 : List Int) (v1 : Int) (k : Bool → Prop) : Prop := G_slices_Contains_sint_int s0 v1 k
def F_slices_Contains_sint_int (l : List Int) (n : Int) (k : Bool → Prop) : Prop := l.length ≤ 1000000000 ∧ k (decide (n ∈ l))
theorem F_slices_Contains_sint_int_S {l : List Int} {n : Int} {k : Bool → Prop} (h : F_slices_Contains_sint_int l n k) : S_slices_Contains_sint_int l n k := by
  refine ⟨h.1, ?_⟩
  have : decide (plc l n ≥ 0) = decide (n ∈ l) := decide_eq_decide.2 plc_ge
  show k (decide (plc l n ≥ 0))
  rw [this]; exact h.2
-- impl.differentKeys
def T0_impl_differentKeys (list0 : List Int) (xt6 : Int) (xt7 : Int) (k : Bool → Prop) (B0 : Int → Prop) : Prop :=
  br (decide (xt7 < xt6))
  ((0 ≤ xt7 ∧ xt7 < (list0.length : Int)) ∧
    F_impl_validKey (List.getD list0 (Int.toNat xt7) (0 : Int)) fun validKey13 =>
    br (!validKey13)
    (k false)
    ((0 ≤ xt7 ∧ xt7 ≤ (list0.length : Int)) ∧
      F_slices_Contains_sint_int (List.take (Int.toNat xt7) list0) (List.getD list0 (Int.toNat xt7) (0 : Int)) fun contains20 =>
      br contains20
      (k false)
      (InR (xt7 + 1) ∧
        B0 (xt7 + 1))))
  (k true)
def L0_impl_differentKeys (list0 : List Int) (xt6 : Int) (k : Bool → Prop) : Nat → Int → Prop
  | 0, _ => False
  | n + 1, xt7 => T0_impl_differentKeys list0 xt6 xt7 k (L0_impl_differentKeys list0 xt6 k n)
def G_impl_differentKeys (list0 : List Int) (I0 : List Int → Int → Int → Prop) : Prop :=
  I0 list0 (list0.length : Int) 0
def S_impl_differentKeys (list0 : List Int) (k : Bool → Prop) : Prop := G_impl_differentKeys list0 (fun list0 xt6 xt7 => ∃ j, L0_impl_differentKeys list0 xt6 k j xt7)
def F_impl_differentKeys (l : List Int) (k : Bool → Prop) : Prop := l.length ≤ 1000000000 ∧ ∀ b : Bool, (b = true ↔ (∀ x ∈ l, 0 ≤ x ∧ x ≤ 31) ∧ l.Nodup) → k b
theorem F_impl_differentKeys_S {l : List Int} {k : Bool → Prop} (h : F_impl_differentKeys l k) : S_impl_differentKeys l k := by
  obtain ⟨hl, h⟩ := h
  have hno : ¬ ((∀ x ∈ l, 0 ≤ x ∧ x ≤ 31) ∧ l.Nodup) → k false := fun hv => h false (by simp only [Bool.false_eq_true, false_iff]; exact hv)
  have key : ∀ (r : List Int) (i : Nat), l.drop i = r → (∀ x ∈ l.take i, 0 ≤ x ∧ x ≤ 31) → (l.take i).Nodup → L0_impl_differentKeys l (l.length : Int) k (r.length + 1) (i : Int) := by
    intro r
    induction r with
    | nil =>
      intro i hd he hn
      have := drop_nil' hd
      rw [List.take_of_length_le this] at he hn
      rw [L0_impl_differentKeys, T0_impl_differentKeys]
      simp only [br_dec]
      exact ⟨fun h => by omega, fun _ => h true (by simp only [true_iff]; exact ⟨he, hn⟩)⟩
    | cons x r ih =>
      intro i hd he hn
      obtain ⟨h1, h2, h5, h3, h4⟩ := drop_cons' hd
      rw [List.length_cons, L0_impl_differentKeys, T0_impl_differentKeys]
      simp only [br_dec, F_impl_validKey, F_slices_Contains_sint_int, Int.toNat_natCast, h2, br_not]
      have hxl : x ∈ l := List.mem_of_getElem? h5
      refine ⟨fun _ => ⟨⟨by omega, by omega⟩, fun hx => ⟨⟨by omega, by omega⟩, by simp; omega, fun hc => ?_, fun hc => ⟨inR (by omega) (by omega), ?_⟩⟩, fun hx => hno fun v => hx (v.1 x hxl)⟩, fun h => by omega⟩
      · refine hno fun v => ?_
        have hn2 := v.2
        rw [← List.take_append_drop i l, hd] at hn2
        exact (List.nodup_append.1 hn2).2.2 x hc x (by simp) rfl
      · refine ih (i + 1) h3 ?_ ?_
        · rw [h4]; intro y hy
          rcases List.mem_append.1 hy with hy | hy
          · exact he y hy
          · simp at hy; subst hy; exact hx
        · rw [h4, List.nodup_append]
          refine ⟨hn, by simp, fun a ha b hb e => ?_⟩
          simp at hb; subst hb; subst e; exact hc ha
  exact ⟨_, key l 0 rfl (by simp) (by simp)⟩
-- impl.ValidKeys
def G_impl_ValidKeys (list0 : List Int) (room1 : Int) (k : Bool → Prop) : Prop :=
  F_impl_validRoom room1 fun validRoom6 =>
  br validRoom6
  (br (decide ((list0.length : Int) ≤ room1))
    (F_impl_differentKeys list0 fun differentKeys15 =>
      k differentKeys15)
    (k false))
  (k false)
def S_impl_ValidKeys (list0 : List Int) (room1 : Int) (k : Bool → Prop) : Prop := G_impl_ValidKeys list0 room1 k
def F_impl_ValidKeys (l : List Int) (room : Int) (k : Bool → Prop) : Prop := ∀ b : Bool, (b = true ↔ VKeys l room) → k b
theorem F_impl_ValidKeys_S {l : List Int} {room : Int} {k : Bool → Prop} (h : F_impl_ValidKeys l room k) : S_impl_ValidKeys l room k := by
  have hno : ¬ VKeys l room → k false := fun hv => h false (by simp [hv])
  refine br_dec.2 ⟨fun h1 => br_dec.2 ⟨fun h3 => ⟨by omega, fun b hb => h b ?_⟩, fun h3 => hno fun v => by have := v.2.2.1; omega⟩, fun h1 => hno fun v => h1 ⟨v.1, v.2.1⟩⟩
  rw [hb]
  exact ⟨fun g => ⟨h1.1, h1.2, h3, g.1, g.2⟩, fun v => v.2.2.2⟩
-- impl.ValidSketch
def T0_impl_ValidSketch (s0 : List Int) (xt9 : Int) (xt10 : Int) (k : Bool → Prop) (B0 : Int → Prop) : Prop :=
  br (decide (xt10 < xt9))
  ((0 ≤ xt10 ∧ xt10 < (s0.length : Int)) ∧
    br (decide ((List.getD s0 (Int.toNat xt10) (0 : Int)) < 0))
    (k false)
    (br (decide ((List.getD s0 (Int.toNat xt10) (0 : Int)) > 15))
      (k false)
      (InR (xt10 + 1) ∧
        B0 (xt10 + 1))))
  (k true)
def L0_impl_ValidSketch (s0 : List Int) (xt9 : Int) (k : Bool → Prop) : Nat → Int → Prop
  | 0, _ => False
  | n + 1, xt10 => T0_impl_ValidSketch s0 xt9 xt10 k (L0_impl_ValidSketch s0 xt9 k n)
def G_impl_ValidSketch (s0 : List Int) (k : Bool → Prop) (I0 : List Int → Int → Int → Prop) : Prop :=
  br ((s0.length : Int) != 24)
  (k false)
  (I0 s0 (s0.length : Int) 0)
def S_impl_ValidSketch (s0 : List Int) (k : Bool → Prop) : Prop := G_impl_ValidSketch s0 k (fun s0 xt9 xt10 => ∃ j, L0_impl_ValidSketch s0 xt9 k j xt10)
def F_impl_ValidSketch (s : List Int) (k : Bool → Prop) : Prop := ∀ b : Bool, (b = true ↔ VSk s) → k b
theorem F_impl_ValidSketch_S {s : List Int} {k : Bool → Prop} (h : F_impl_ValidSketch s k) : S_impl_ValidSketch s k := by
  have no : ¬ VSk s → k false := fun hv => h false (by simp [hv])
  refine br_bne.2 ⟨fun hl => no fun v => absurd (by have := v.1; omega) hl, fun hl => ?_⟩
  have key : ∀ (r : List Int) (i : Nat), s.drop i = r → (∀ x ∈ s.take i, 0 ≤ x ∧ x ≤ 15) → L0_impl_ValidSketch s (s.length : Int) k (r.length + 1) (i : Int) := by
    intro r
    induction r with
    | nil =>
      intro i hd he
      have := drop_nil' hd
      rw [List.take_of_length_le this] at he
      rw [L0_impl_ValidSketch, T0_impl_ValidSketch]
      exact br_nd (by omega) (h true (by simp only [true_iff]; exact ⟨by omega, he⟩))
    | cons x r ih =>
      intro i hd he
      obtain ⟨h1, h2, h5, h3, h4⟩ := drop_cons' hd
      have hm := List.mem_of_getElem? h5
      rw [List.length_cons, L0_impl_ValidSketch, T0_impl_ValidSketch]
      simp only [Int.toNat_natCast, h2]
      refine br_yd (by omega) ⟨⟨by omega, by omega⟩, br_dec.2 ⟨fun g => no fun v => by have := v.2 x hm; omega, fun g1 => br_dec.2 ⟨fun g => no fun v => by have := v.2 x hm; omega, fun g2 => ⟨inR (by omega) (by omega), ih (i + 1) h3 ?_⟩⟩⟩⟩
      rw [h4]; intro y hy
      rcases List.mem_append.1 hy with hy | hy
      · exact he y hy
      · rw [List.mem_singleton.1 hy]; omega
  exact ⟨_, key s 0 rfl (by simp)⟩
-- slices.Concat[[]int,int]
def T1_slices_Concat_sint_int (slices0 : List (List Int)) (xt26 : Int) (xt27 : Int) (xnewslice6 : List Int) (k : List Int → Prop) (B1 : Int → Int → List Int → Prop) : Prop :=
  br (decide (xt27 < xt26))
  ((0 ≤ xt27 ∧ xt27 < (slices0.length : Int)) ∧
    (xnewslice6.length + (List.length (List.getD slices0 (Int.toNat xt27) [])) ≤ 1000000000) ∧
    InR (xt27 + 1) ∧
    B1 xt26 (xt27 + 1) (xnewslice6 ++ (List.getD slices0 (Int.toNat xt27) [])))
  (k xnewslice6)
def L1_slices_Concat_sint_int (slices0 : List (List Int)) (k : List Int → Prop) : Nat → Int → Int → List Int → Prop
  | 0, _, _, _ => False
  | n + 1, xt26, xt27, xnewslice6 => T1_slices_Concat_sint_int slices0 xt26 xt27 xnewslice6 k (L1_slices_Concat_sint_int slices0 k n)
def T0_slices_Concat_sint_int (slices0 : List (List Int)) (xt10 : Int) (xsize3 : Int) (xt11 : Int) (B0 : Int → Int → Prop) (I1 : List (List Int) → Int → Int → List Int → Prop) : Prop :=
  br (decide (xt11 < xt10))
  ((0 ≤ xt11 ∧ xt11 < (slices0.length : Int)) ∧
    InR (xsize3 + ((List.length (List.getD slices0 (Int.toNat xt11) [])) : Int)) ∧
    br (decide ((xsize3 + ((List.length (List.getD slices0 (Int.toNat xt11) [])) : Int)) < 0))
    (False)
    (InR (xt11 + 1) ∧
      B0 (xsize3 + ((List.length (List.getD slices0 (Int.toNat xt11) [])) : Int)) (xt11 + 1)))
  (br (decide (xsize3 < 0))
    (False)
    (InR ((0 : Int) - 0) ∧
      InR (xsize3 - 0) ∧
      br (decide ((xsize3 - 0) > 0))
      (((0 : Int) = 0) ∧
        (0 ≤ (xsize3 - 0) ∧ (xsize3 - 0) ≤ 1000000000) ∧
        (0 ≤ (0 : Int) ∧ 0 ≤ ((List.length (List.replicate (Int.toNat (xsize3 - 0)) (0 : Int))) : Int)) ∧
        I1 slices0 (slices0.length : Int) 0 (List.take 0 (List.drop 0 (List.replicate (Int.toNat (xsize3 - 0)) (0 : Int)))))
      (I1 slices0 (slices0.length : Int) 0 ([] : List Int))))
def L0_slices_Concat_sint_int (slices0 : List (List Int)) (xt10 : Int) (k : List Int → Prop) : Nat → Int → Int → Prop
  | 0, _, _ => False
  | n + 1, xsize3, xt11 => T0_slices_Concat_sint_int slices0 xt10 xsize3 xt11 (L0_slices_Concat_sint_int slices0 xt10 k n) (fun slices0 xt26 xt27 xnewslice6 => ∃ j, L1_slices_Concat_sint_int slices0 k j xt26 xt27 xnewslice6)
def G_slices_Concat_sint_int (slices0 : List (List Int)) (I0 : List (List Int) → Int → Int → Int → Prop) : Prop :=
  I0 slices0 (slices0.length : Int) 0 0
def S_slices_Concat_sint_int (slices0 : List (List Int)) (k : List Int → Prop) : Prop := G_slices_Concat_sint_int slices0 (fun slices0 xt10 xsize3 xt11 => ∃ j, L0_slices_Concat_sint_int slices0 xt10 k j xsize3 xt11)
def F_slices_Concat_sint_int (ls : List (List Int)) (k : List Int → Prop) : Prop := (ls.length ≤ 1000000000 ∧ ls.flatten.length ≤ 1000000000) ∧ k ls.flatten
theorem F_slices_Concat_sint_int_S {ls : List (List Int)} {k : List Int → Prop} (h : F_slices_Concat_sint_int ls k) : S_slices_Concat_sint_int ls k := by
  obtain ⟨⟨hl, ht⟩, hk⟩ := h
  have le : ∀ i, (ls.take i).flatten.length ≤ ls.flatten.length := fun i => by
    have := congrArg List.length (congrArg List.flatten (List.take_append_drop i ls))
    rw [List.flatten_append, List.length_append] at this
    omega
  have key1 : ∀ (r : List (List Int)) (i : Nat), ls.drop i = r → L1_slices_Concat_sint_int ls k (r.length + 1) (ls.length : Int) (i : Int) (ls.take i).flatten := by
    intro r
    induction r with
    | nil =>
      intro i hd
      have := drop_nil' hd
      rw [List.take_of_length_le this, L1_slices_Concat_sint_int, T1_slices_Concat_sint_int]
      exact br_dec.2 ⟨fun h => by omega, fun _ => hk⟩
    | cons x r ih =>
      intro i hd
      obtain ⟨h1, h2, h5, h3, h4⟩ := drop_cons' hd
      have hle := le (i + 1)
      have he : (ls.take (i + 1)).flatten = (ls.take i).flatten ++ x := by rw [h4]; simp
      have := ih (i + 1) h3
      rw [he] at this hle
      rw [List.length_append] at hle
      rw [List.length_cons, L1_slices_Concat_sint_int, T1_slices_Concat_sint_int]
      simp only [br_dec, Int.toNat_natCast, h2]
      exact ⟨fun _ => ⟨⟨by omega, by omega⟩, by omega, inR (by omega) (by omega), this⟩, fun h => by omega⟩
  have key : ∀ (r : List (List Int)) (i : Nat), ls.drop i = r → L0_slices_Concat_sint_int ls (ls.length : Int) k (r.length + 1) ((ls.take i).flatten.length : Int) (i : Int) := by
    intro r
    induction r with
    | nil =>
      intro i hd
      have := drop_nil' hd
      rw [List.take_of_length_le this, L0_slices_Concat_sint_int, T0_slices_Concat_sint_int]
      refine br_dec.2 ⟨fun h => by omega, fun _ => br_dec.2 ⟨fun h => by omega, fun _ => ⟨inR (by omega) (by omega), inR (by omega) (by omega), br_dec.2 ⟨fun h => ⟨rfl, ⟨by omega, by omega⟩, ⟨by omega, by omega⟩, ⟨_, key1 ls 0 rfl⟩⟩, fun h => ⟨_, key1 ls 0 rfl⟩⟩⟩⟩⟩
    | cons x r ih =>
      intro i hd
      obtain ⟨h1, h2, h5, h3, h4⟩ := drop_cons' hd
      have hle := le (i + 1)
      have he : (ls.take (i + 1)).flatten = (ls.take i).flatten ++ x := by rw [h4]; simp
      have := ih (i + 1) h3
      rw [he, List.length_append] at this hle
      rw [List.length_cons, L0_slices_Concat_sint_int, T0_slices_Concat_sint_int]
      simp only [br_dec, Int.toNat_natCast, h2]
      have e2 : (((ls.take i).flatten.length + x.length : Nat) : Int) = ((ls.take i).flatten.length : Int) + (x.length : Int) := by omega
      rw [e2] at this
      refine ⟨fun _ => ⟨⟨by omega, by omega⟩, inR (by omega) (by omega), fun h => by omega, fun _ => ⟨inR (by omega) (by omega), this⟩⟩, fun h => by omega⟩
  exact ⟨_, key ls 0 rfl⟩
-- impl.ValidGate
def G_impl_ValidGate (g0Window : Int) (g0Room : Int) (g0New : List Int) (g0Main : List Int) (g0Sketch : List Int) (g0Added : Int) (k : Bool → Prop) : Prop :=
  F_impl_ValidKeys g0New g0Window fun validKeys7 =>
  br (!validKeys7)
  (k false)
  (F_impl_ValidKeys g0Main g0Room fun validKeys14 =>
    br (!validKeys14)
    (k false)
    (F_impl_ValidSketch g0Sketch fun validSketch20 =>
      br (!validSketch20)
      (k false)
      (F_slices_Concat_sint_int ([g0New, g0Main] : List (List Int)) fun concat28 =>
        F_impl_differentKeys concat28 fun differentKeys29 =>
        br differentKeys29
        (br (decide (0 ≤ g0Added))
          (k (decide (g0Added < 16)))
          (k false))
        (k false))))
def S_impl_ValidGate (g0Window : Int) (g0Room : Int) (g0New : List Int) (g0Main : List Int) (g0Sketch : List Int) (g0Added : Int) (k : Bool → Prop) : Prop := G_impl_ValidGate g0Window g0Room g0New g0Main g0Sketch g0Added k
def F_impl_ValidGate (w r : Int) (n m s : List Int) (a : Int) (k : Bool → Prop) : Prop := ∀ b : Bool, (b = true ↔ VGate w r ⟨n, m, s, a⟩) → k b
theorem F_impl_ValidGate_S {w r : Int} {n m s : List Int} {a : Int} {k : Bool → Prop} (h : F_impl_ValidGate w r n m s a k) : S_impl_ValidGate w r n m s a k := by
  have no : ¬ VGate w r ⟨n, m, s, a⟩ → k false := fun hv => h false (by simp [hv])
  intro b1 hb1
  refine br_not.2 (br_iff.2 ⟨fun e1 => ?_, fun e => no fun v => by rw [hb1.2 v.1.1] at e; cases e⟩)
  intro b2 hb2
  refine br_not.2 (br_iff.2 ⟨fun e2 => ?_, fun e => no fun v => by rw [hb2.2 v.1.2.1] at e; cases e⟩)
  intro b3 hb3
  refine br_not.2 (br_iff.2 ⟨fun e3 => ?_, fun e => no fun v => by rw [hb3.2 v.2.1] at e; cases e⟩)
  have v1 := hb1.1 e1
  have v2 := hb2.1 e2
  have v3 := hb3.1 e3
  have l1 := vkeys_len v1
  have l2 := vkeys_len v2
  have e : ([n, m] : List (List Int)).flatten = n ++ m := by simp
  refine ⟨⟨by simp, by rw [e, List.length_append]; omega⟩, ?_⟩
  rw [e]
  refine ⟨by rw [List.length_append]; omega, fun b4 hb4 => br_iff.2 ⟨fun e4 => ?_, fun e => no fun v => ?_⟩⟩
  · have hd := (hb4.1 e4).2
    have vs : VSegs w r n m := ⟨v1, v2, fun x hx hm => (List.nodup_append.1 hd).2.2 x hx x hm rfl⟩
    refine br_dec.2 ⟨fun g1 => h _ ?_, fun g1 => no fun v => g1 v.2.2.1⟩
    rw [decide_eq_true_iff]
    exact ⟨fun g2 => ⟨vs, v3, g1, by simp only; omega⟩, fun v => by have := v.2.2.2; simp only at this; omega⟩
  · have := hb4.2 ⟨fun x hx => (List.mem_append.1 hx).elim (v1.2.2.2.1 x) (v2.2.2.2.1 x), List.nodup_append.2 ⟨v1.2.2.2.2, v2.2.2.2.2, fun x hx y hy c => v.1.2.2 x hx (by rw [c]; exact hy)⟩⟩
    rw [this] at e; cases e
-- laws.eqIntS
def T0_laws_eqIntS (a0 : List Int) (b1 : List Int) (xi5 : Int) (k : Bool → Prop) (B0 : Int → Prop) : Prop :=
  br (decide (xi5 < (a0.length : Int)))
  ((0 ≤ xi5 ∧ xi5 < (a0.length : Int)) ∧
    (0 ≤ xi5 ∧ xi5 < (b1.length : Int)) ∧
    br ((List.getD a0 (Int.toNat xi5) (0 : Int)) != (List.getD b1 (Int.toNat xi5) (0 : Int)))
    (k false)
    (InR (xi5 + 1) ∧
      B0 (xi5 + 1)))
  (k true)
def L0_laws_eqIntS (a0 : List Int) (b1 : List Int) (k : Bool → Prop) : Nat → Int → Prop
  | 0, _ => False
  | n + 1, xi5 => T0_laws_eqIntS a0 b1 xi5 k (L0_laws_eqIntS a0 b1 k n)
def G_laws_eqIntS (a0 : List Int) (b1 : List Int) (k : Bool → Prop) (I0 : List Int → List Int → Int → Prop) : Prop :=
  br ((a0.length : Int) != (b1.length : Int))
  (k false)
  (I0 a0 b1 0)
def S_laws_eqIntS (a0 : List Int) (b1 : List Int) (k : Bool → Prop) : Prop := G_laws_eqIntS a0 b1 k (fun a0 b1 xi5 => ∃ j, L0_laws_eqIntS a0 b1 k j xi5)
def F_laws_eqIntS (a b : List Int) (k : Bool → Prop) : Prop := a.length ≤ 1000000000 ∧ k (decide (a = b))
theorem F_laws_eqIntS_S {a b : List Int} {k : Bool → Prop} (h : F_laws_eqIntS a b k) : S_laws_eqIntS a b k := by
  obtain ⟨hl, hk⟩ := h
  refine br_bne.2 ⟨fun he => by rwa [decide_eq_false (fun e => he (by rw [e]))] at hk, fun he => ?_⟩
  have he : a.length = b.length := by omega
  have key : ∀ (r : List Int) (i : Nat), a.drop i = r → (r = b.drop i ↔ a = b) → L0_laws_eqIntS a b k (r.length + 1) (i : Int) := by
    intro r
    induction r with
    | nil =>
      intro i hd hi
      have := drop_nil' hd
      rw [L0_laws_eqIntS, T0_laws_eqIntS]
      simp only [br_dec]
      exact ⟨fun h => by omega, fun _ => by rwa [decide_eq_true (hi.1 (List.drop_eq_nil_of_le (by omega)).symm)] at hk⟩
    | cons x r ih =>
      intro i hd hi
      obtain ⟨h1, h2, _, h3, _⟩ := drop_cons' hd
      obtain ⟨y, s, hs⟩ : ∃ y s, b.drop i = y :: s := by
        cases e : b.drop i with
        | nil => have := drop_nil' e; omega
        | cons y s => exact ⟨y, s, rfl⟩
      obtain ⟨g1, g2, _, g3, _⟩ := drop_cons' hs
      rw [List.length_cons, L0_laws_eqIntS, T0_laws_eqIntS]
      simp only [br_dec, br_bne, Int.toNat_natCast, h2, g2]
      rw [hs] at hi
      refine ⟨fun _ => ⟨⟨by omega, by omega⟩, ⟨by omega, by omega⟩, ?_⟩, fun h => by omega⟩
      have go : x = y → L0_laws_eqIntS a b k (r.length + 1) ((i : Int) + 1) := fun hx => ih (i + 1) h3 (by rw [g3, ← hi, hx]; simp)
      have no : x ≠ y → k false := fun hx => by rwa [decide_eq_false (fun e => hx (List.cons.inj (hi.2 e)).1)] at hk
      exact ⟨no, fun hx => ⟨inR (by omega) (by omega), go hx⟩⟩
  exact ⟨_, key a 0 rfl (by simp)⟩
-- laws.eqGate
def G_laws_eqGate (a0Window : Int) (a0Room : Int) (a0New : List Int) (a0Main : List Int) (a0Sketch : List Int) (a0Added : Int) (b1Window : Int) (b1Room : Int) (b1New : List Int) (b1Main : List Int) (b1Sketch : List Int) (b1Added : Int) (k : Bool → Prop) : Prop :=
  br (a0Window != b1Window)
  (k false)
  (br (a0Room != b1Room)
    (k false)
    (F_laws_eqIntS a0New b1New fun eqIntS19 =>
      br (!eqIntS19)
      (k false)
      (F_laws_eqIntS a0Main b1Main fun eqIntS25 =>
        br (!eqIntS25)
        (k false)
        (F_laws_eqIntS a0Sketch b1Sketch fun eqIntS31 =>
          br (!eqIntS31)
          (k false)
          (br (a0Added != b1Added)
            (k false)
            (k true))))))
def S_laws_eqGate (a0Window : Int) (a0Room : Int) (a0New : List Int) (a0Main : List Int) (a0Sketch : List Int) (a0Added : Int) (b1Window : Int) (b1Room : Int) (b1New : List Int) (b1Main : List Int) (b1Sketch : List Int) (b1Added : Int) (k : Bool → Prop) : Prop := G_laws_eqGate a0Window a0Room a0New a0Main a0Sketch a0Added b1Window b1Room b1New b1Main b1Sketch b1Added k
def F_laws_eqGate (window : Int) (room : Int) (new : List Int) (main : List Int) (sketch : List Int) (added : Int) (window' : Int) (room' : Int) (new' : List Int) (main' : List Int) (sketch' : List Int) (added' : Int) (k : Bool → Prop) : Prop := (new.length ≤ 1000000000 ∧ main.length ≤ 1000000000 ∧ sketch.length ≤ 1000000000) ∧ ∀ b : Bool, (b = true ↔ window = window' ∧ room = room' ∧ new = new' ∧ main = main' ∧ sketch = sketch' ∧ added = added') → k b
theorem F_laws_eqGate_S {window : Int} {room : Int} {new : List Int} {main : List Int} {sketch : List Int} {added : Int} {window' : Int} {room' : Int} {new' : List Int} {main' : List Int} {sketch' : List Int} {added' : Int} {k : Bool → Prop} (h : F_laws_eqGate window room new main sketch added window' room' new' main' sketch' added' k) : S_laws_eqGate window room new main sketch added window' room' new' main' sketch' added' k := by
  obtain ⟨⟨lNew, lMain, lSketch⟩, hk⟩ := h
  exact br_bne.2 ⟨fun eWindow => hk false (by simp [eWindow]), fun eWindow => br_bne.2 ⟨fun eRoom => hk false (by simp [eRoom]), fun eRoom => ⟨lNew, br_not.2 (br_dec.2 ⟨fun eNew => ⟨lMain, br_not.2 (br_dec.2 ⟨fun eMain => ⟨lSketch, br_not.2 (br_dec.2 ⟨fun eSketch => br_bne.2 ⟨fun eAdded => hk false (by simp [eAdded]), fun eAdded => hk true (by simp [eWindow, eRoom, eNew, eMain, eSketch, eAdded])⟩, fun eSketch => hk false (by simp [eSketch])⟩)⟩, fun eMain => hk false (by simp [eMain])⟩)⟩, fun eNew => hk false (by simp [eNew])⟩)⟩⟩⟩
theorem eqGate_same {window : Int} {room : Int} {new : List Int} {main : List Int} {sketch : List Int} {added : Int} {k : Bool → Prop} (hl : new.length ≤ 1000000000 ∧ main.length ≤ 1000000000 ∧ sketch.length ≤ 1000000000) (h : k true) : F_laws_eqGate window room new main sketch added window room new main sketch added k := ⟨hl, all_t ⟨rfl, rfl, rfl, rfl, rfl, rfl⟩ h⟩
-- laws.FnExactValidGate
def G_laws_FnExactValidGate (aG0Window : Int) (aG0Room : Int) (aG0New : List Int) (aG0Main : List Int) (aG0Sketch : List Int) (aG0Added : Int) (k : Bool → Prop) : Prop :=
  F_laws_szGate aG0Window aG0Room aG0New aG0Main aG0Sketch aG0Added (1048576 : Int) fun szGate9 =>
  br (decide (szGate9 < 0))
  (k true)
  (F_laws_toGate aG0Window aG0Room aG0New aG0Main aG0Sketch aG0Added fun toGate13Window toGate13Room toGate13New toGate13Main toGate13Sketch toGate13Added =>
    F_spec_ValidGate toGate13Window toGate13Room toGate13New toGate13Main toGate13Sketch toGate13Added fun validGate14 =>
    F_laws_toGate aG0Window aG0Room aG0New aG0Main aG0Sketch aG0Added fun toGate16Window toGate16Room toGate16New toGate16Main toGate16Sketch toGate16Added =>
    F_impl_ValidGate toGate16Window toGate16Room toGate16New toGate16Main toGate16Sketch toGate16Added fun validGate18 =>
    br (!(validGate18 == validGate14))
    (k false)
    ((F_laws_toGate aG0Window aG0Room aG0New aG0Main aG0Sketch aG0Added fun toGate24Window toGate24Room toGate24New toGate24Main toGate24Sketch toGate24Added =>
        (F_laws_eqGate toGate16Window toGate16Room toGate16New toGate16Main toGate16Sketch toGate16Added toGate24Window toGate24Room toGate24New toGate24Main toGate24Sketch toGate24Added fun eqGate25 =>
          br (!eqGate25)
          (k false)
          (k true)) ∧
        (True)) ∧
      (True)))
def H_laws_FnExactValidGate (aG0Window : Int) (aG0Room : Int) (aG0New : List Int) (aG0Main : List Int) (aG0Sketch : List Int) (aG0Added : Int) (k : Bool → Prop) : Prop :=
  F_laws_szGate aG0Window aG0Room aG0New aG0Main aG0Sketch aG0Added (1048576 : Int) fun szGate9 =>
  br (decide (szGate9 < 0))
  (k true)
  (F_laws_toGate aG0Window aG0Room aG0New aG0Main aG0Sketch aG0Added fun toGate13Window toGate13Room toGate13New toGate13Main toGate13Sketch toGate13Added =>
    F_spec_ValidGate toGate13Window toGate13Room toGate13New toGate13Main toGate13Sketch toGate13Added fun validGate14 =>
    F_laws_toGate aG0Window aG0Room aG0New aG0Main aG0Sketch aG0Added fun toGate16Window toGate16Room toGate16New toGate16Main toGate16Sketch toGate16Added =>
    F_impl_ValidGate toGate16Window toGate16Room toGate16New toGate16Main toGate16Sketch toGate16Added fun validGate18 =>
    br (!(validGate18 == validGate14))
    (k false)
    (F_laws_toGate aG0Window aG0Room aG0New aG0Main aG0Sketch aG0Added fun toGate24Window toGate24Room toGate24New toGate24Main toGate24Sketch toGate24Added =>
      F_laws_eqGate toGate16Window toGate16Room toGate16New toGate16Main toGate16Sketch toGate16Added toGate24Window toGate24Room toGate24New toGate24Main toGate24Sketch toGate24Added fun eqGate25 =>
      br (!eqGate25)
      (k false)
      (k true)))
theorem G_laws_FnExactValidGate_eq (aG0Window : Int) (aG0Room : Int) (aG0New : List Int) (aG0Main : List Int) (aG0Sketch : List Int) (aG0Added : Int) (k : Bool → Prop) : G_laws_FnExactValidGate aG0Window aG0Room aG0New aG0Main aG0Sketch aG0Added k = H_laws_FnExactValidGate aG0Window aG0Room aG0New aG0Main aG0Sketch aG0Added k := by
  simp only [G_laws_FnExactValidGate, H_laws_FnExactValidGate, and_self, and_true]
def S_laws_FnExactValidGate (aG0Window : Int) (aG0Room : Int) (aG0New : List Int) (aG0Main : List Int) (aG0Sketch : List Int) (aG0Added : Int) (k : Bool → Prop) : Prop := H_laws_FnExactValidGate aG0Window aG0Room aG0New aG0Main aG0Sketch aG0Added k
abbrev F_laws_FnExactValidGate (aG0Window : Int) (aG0Room : Int) (aG0New : List Int) (aG0Main : List Int) (aG0Sketch : List Int) (aG0Added : Int) (k : Bool → Prop) : Prop := S_laws_FnExactValidGate aG0Window aG0Room aG0New aG0Main aG0Sketch aG0Added k
theorem F_laws_FnExactValidGate_S {aG0Window : Int} {aG0Room : Int} {aG0New : List Int} {aG0Main : List Int} {aG0Sketch : List Int} {aG0Added : Int} {k : Bool → Prop} (h : F_laws_FnExactValidGate aG0Window aG0Room aG0New aG0Main aG0Sketch aG0Added k) : S_laws_FnExactValidGate aG0Window aG0Room aG0New aG0Main aG0Sketch aG0Added k := h
theorem law_FnExactValidGate (gWindow : Int) (rgWindow : InR gWindow) (gRoom : Int) (rgRoom : InR gRoom) (gNew : List Int) (lgNew : gNew.length ≤ maxLen) (rgNew : ∀ x ∈ gNew, InR x) (gMain : List Int) (lgMain : gMain.length ≤ maxLen) (rgMain : ∀ x ∈ gMain, InR x) (gSketch : List Int) (lgSketch : gSketch.length ≤ maxLen) (rgSketch : ∀ x ∈ gSketch, InR x) (gAdded : Int) (rgAdded : InR gAdded) :
    F_laws_FnExactValidGate gWindow gRoom gNew gMain gSketch gAdded (fun r => r = true) := by
  refine ⟨⟨lgNew, lgMain, lgSketch, by omega, by omega⟩, fun z0 _ _ s0 => br_dec.2 ⟨fun _ => rfl, fun t0 => ?_⟩⟩
  have u0 := s0 (by omega)
  have mg : gNew.length ≤ 1000000000 ∧ gMain.length ≤ 1000000000 ∧ gSketch.length ≤ 1000000000 := ⟨by omega, by omega, by omega⟩
  exact ⟨mg, (fun b0 hb0 => ⟨mg, (fun b1 hb1 => pred_same hb1 hb0 (⟨mg, eqGate_same mg (br_nt (rfl))⟩))⟩)⟩
end Go.Ev
