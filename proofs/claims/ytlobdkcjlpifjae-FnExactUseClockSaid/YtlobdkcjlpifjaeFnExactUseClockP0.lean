/- What the functions that the law reaches do, written as plain Lean. No statement is proved here. -/
import Derived.Test.YtlobdkcjlpifjaeEvT
namespace Go.Ev
set_option linter.unusedVariables false
open Go
theorem br_iff {b : Bool} {A B : Prop} : br b A B ↔ (b = true → A) ∧ (b = false → B) := by cases b <;> simp [br]
theorem br_dec {p : Prop} [Decidable p] {A B : Prop} : br (decide p) A B ↔ (p → A) ∧ (¬ p → B) := by rw [br_iff]; simp
theorem br_beq {a b : Int} {A B : Prop} : br (a == b) A B ↔ (a = b → A) ∧ (a ≠ b → B) := by rw [br_iff]; simp
theorem br_bne {a b : Int} {A B : Prop} : br (a != b) A B ↔ (a ≠ b → A) ∧ (a = b → B) := by rw [br_iff]; simp
theorem br_not {b : Bool} {A B : Prop} : br (!b) A B ↔ br b B A := by cases b <;> simp [br]
theorem br_bb {a b : Bool} {A B : Prop} : br (a == b) A B ↔ (a = b → A) ∧ (a ≠ b → B) := by rw [br_iff]; simp
theorem inR {x : Int} (h1 : -9223372036854775808 ≤ x) (h2 : x ≤ 9223372036854775807) : InR x := ⟨h1, h2⟩

section lists
variable {α : Type}
theorem drop_nil' {l : List α} {i : Nat} (h : l.drop i = []) : l.length ≤ i := by simpa using h
theorem drop_cons' {l : List α} {i : Nat} {x : α} {r : List α} (h : l.drop i = x :: r) : i < l.length ∧ (∀ d, l.getD i d = x) ∧ l[i]? = some x ∧ l.drop (i + 1) = r ∧ l.take (i + 1) = l.take i ++ [x] := by
  have hlt : i < l.length := by
    rcases Nat.lt_or_ge i l.length with h1 | h1
    · exact h1
    · rw [List.drop_eq_nil_of_le h1] at h; cases h
  have h2 := List.drop_eq_getElem_cons hlt
  rw [h] at h2
  injection h2 with h3 h4
  have h5 : l[i]? = some x := by rw [List.getElem?_eq_getElem hlt, h3]
  exact ⟨hlt, fun d => by simp [List.getD, h5], h5, h4.symm, by rw [List.take_succ_eq_append_getElem hlt, h3]⟩
end lists

/-- The place of a number, or -1. -/
def plcF : List Int → Int → Nat → Int
  | [], _, _ => -1
  | x :: r, n, i => if x = n then (i : Int) else plcF r n (i + 1)
def plc (l : List Int) (n : Int) : Int := plcF l n 0
theorem plcF_spec : ∀ (l : List Int) (n : Int) (i : Nat), (n ∉ l ∧ plcF l n i = -1) ∨ ∃ j, j < l.length ∧ l[j]? = some n ∧ (∀ q, q < j → l[q]? ≠ some n) ∧ plcF l n i = ((i + j : Nat) : Int)
  | [], n, i => .inl ⟨by simp, rfl⟩
  | x :: r, n, i => by
    by_cases h : x = n
    · subst h
      exact .inr ⟨0, by simp, rfl, fun q hq => by omega, by simp [plcF]⟩
    · rcases plcF_spec r n (i + 1) with ⟨h1, h2⟩ | ⟨j, h1, h2, h3, h4⟩
      · exact .inl ⟨by simp [Ne.symm h, h1], by simp [plcF, h, h2]⟩
      · refine .inr ⟨j + 1, by simp; omega, by simpa using h2, fun q hq => ?_, ?_⟩
        · cases q with
          | zero => simpa using h
          | succ q => simpa using h3 q (by omega)
        · simp only [plcF, h, if_false, h4]; omega
theorem plc_spec (l : List Int) (n : Int) : (n ∉ l ∧ plc l n = -1) ∨ ∃ j : Nat, j < l.length ∧ l[j]? = some n ∧ (∀ q, q < j → l[q]? ≠ some n) ∧ plc l n = (j : Int) := by
  have := plcF_spec l n 0
  simpa [plc] using this
theorem plc_pos {l : List Int} {n : Int} (h : n ∈ l) : ∃ j : Nat, j < l.length ∧ l[j]? = some n ∧ (∀ q, q < j → l[q]? ≠ some n) ∧ plc l n = (j : Int) := by
  rcases plc_spec l n with ⟨h1, _⟩ | h2
  · exact absurd h h1
  · exact h2
theorem plc_ge {l : List Int} {n : Int} : plc l n ≥ 0 ↔ n ∈ l := by
  rcases plc_spec l n with ⟨h1, h2⟩ | ⟨j, h1, h2, _, h3⟩
  · rw [h2]; simp [h1]
  · rw [h3]; simp [List.mem_of_getElem? h2]
theorem nodup_plc {l : List Int} : (∀ i : Nat, i < l.length → plc l (l.getD i 0) = (i : Int)) ↔ l.Nodup := by
  have hg : ∀ {i : Nat} (hi : i < l.length), l[i]? = some l[i] ∧ l.getD i 0 = l[i] := fun hi => ⟨List.getElem?_eq_getElem hi, by simp [List.getD, hi]⟩
  constructor
  · intro h
    refine List.pairwise_iff_getElem.2 fun i j hi hj hij e => ?_
    have h1 := h j hj
    rcases plc_spec l (l.getD j 0) with ⟨_, h2⟩ | ⟨q, h2, h3, h4, h5⟩
    · omega
    · have : q = j := by omega
      subst this
      exact h4 i hij (by rw [(hg hi).1, e, (hg hj).2])
  · intro hn i hi
    have hx : l[i]? = some (l.getD i 0) := by rw [(hg hi).1, (hg hi).2]
    rcases plc_spec l (l.getD i 0) with ⟨h1, _⟩ | ⟨q, h2, h3, h4, h5⟩
    · exact absurd (List.mem_of_getElem? hx) h1
    · have : q = i := by
        rcases Nat.lt_trichotomy q i with h | h | h
        · refine absurd ?_ (List.pairwise_iff_getElem.1 hn q i h2 hi h)
          have := h3.trans hx.symm
          rw [(hg h2).1, (hg hi).1] at this
          injection this
        · exact h
        · exact absurd hx (h4 i h)
      rw [h5, this]

/-- Valid keys. -/
def VKeys (l : List Int) (room : Int) : Prop := 1 ≤ room ∧ room ≤ 8 ∧ (l.length : Int) ≤ room ∧ (∀ x ∈ l, 0 ≤ x ∧ x ≤ 31) ∧ l.Nodup
def VClock (room : Int) (keys : List Int) (used : List Bool) (hand : Int) : Prop :=
  VKeys keys room ∧ used.length = keys.length ∧ ((keys.length : Int) < room → hand = 0) ∧ ((keys.length : Int) = room → 0 ≤ hand ∧ hand < keys.length)

def Bs (b : List Int) : Prop := b.length ≤ 2000 ∧ ∀ x ∈ b, 0 ≤ x ∧ x ≤ 255
theorem Bs.get {b : List Int} (h : Bs b) (i : Nat) : 0 ≤ b.getD i 0 ∧ b.getD i 0 ≤ 255 := by
  rcases Nat.lt_or_ge i b.length with hi | hi
  · have hx : b[i]? = some (b.getD i 0) := by simp [List.getD, hi]
    exact h.2 _ (List.mem_of_getElem? hx)
  · simp [List.getD, List.getElem?_eq_none hi]
def sweep : Nat → List Bool → Nat → List Bool × Nat
  | 0, u, h => (u, h)
  | f + 1, u, h => if u.getD h false then sweep f (u.set h false) ((h + 1) % u.length) else (u, h)
theorem count_clear {u : List Bool} {h : Nat} (hh : u.getD h false = true) : (u.set h false).count true + 1 = u.count true := by
  have hlt : h < u.length := by
    rcases Nat.lt_or_ge h u.length with h1 | h1
    · exact h1
    · simp [List.getD, List.getElem?_eq_none h1] at hh
  have hg : u[h] = true := by simpa [List.getD, hlt] using hh
  rw [List.count_set hlt, hg]
  have : 0 < u.count true := List.count_pos_iff.2 (hg ▸ List.getElem_mem hlt)
  simp; omega
theorem sweep_ok : ∀ (f : Nat) (u : List Bool) (h : Nat), u.count true < f → h < u.length →
    (sweep f u h).1.length = u.length ∧ (sweep f u h).2 < u.length ∧ (sweep f u h).1.getD (sweep f u h).2 false = false ∧ ∀ i, (sweep f u h).1.getD i false = true → u.getD i false = true
  | 0, u, h, hc, _ => by omega
  | f + 1, u, h, hc, hl => by
    unfold sweep
    split
    · rename_i hu
      have hc2 := count_clear hu
      have hl2 : (h + 1) % u.length < (u.set h false).length := by rw [List.length_set]; exact Nat.mod_lt _ (by omega)
      obtain ⟨a1, a2, a3, a4⟩ := sweep_ok f (u.set h false) ((h + 1) % u.length) (by omega) hl2
      rw [List.length_set] at a1 a2
      refine ⟨a1, a2, a3, fun i hi => ?_⟩
      have := a4 i hi
      by_cases e : h = i
      · subst e; exact hu
      · simpa [List.getD, List.getElem?_set_ne e] using this
    · rename_i hu
      exact ⟨rfl, hl, by simpa using hu, fun i hi => hi⟩
/-- The state of a clock behind the use of a key: keys, marks, hand, hit. -/
def tickM (room : Int) (keys : List Int) (used : List Bool) (hand : Int) (key : Int) : List Int × List Bool × Int × Bool :=
  if key ∈ keys then (keys, used.set (plc keys key).toNat true, hand, true)
  else if (keys.length : Int) < room then (keys ++ [key], used ++ [false], hand, false)
  else (keys.set (sweep (used.length + 1) used hand.toNat).2 key, (sweep (used.length + 1) used hand.toNat).1, (((sweep (used.length + 1) used hand.toNat).2 + 1) % keys.length : Nat), false)
theorem tmod_next (h n : Nat) : Int.tmod ((h : Int) + 1) (n : Int) = (((h + 1) % n : Nat) : Int) := by
  rw [show ((h : Int) + 1) = ((h + 1 : Nat) : Int) by omega]
  rfl
theorem nodup_set {l : List Int} {i : Nat} {x : Int} (hn : l.Nodup) (hx : x ∉ l) : (l.set i x).Nodup := by
  refine List.pairwise_iff_getElem.2 fun a b ha hb hab e => ?_
  rw [List.length_set] at ha hb
  rw [List.getElem_set, List.getElem_set] at e
  split at e
  · split at e
    · omega
    · exact hx (e ▸ List.getElem_mem hb)
  · split at e
    · exact hx (e ▸ List.getElem_mem ha)
    · exact List.pairwise_iff_getElem.1 hn a b ha hb hab e
theorem mem_set {l : List Int} {i : Nat} {x y : Int} (h : y ∈ l.set i x) : y = x ∨ y ∈ l := by
  obtain ⟨j, hj⟩ := List.getElem?_of_mem h
  rw [List.getElem?_set] at hj
  split at hj
  · split at hj
    · injection hj with hj; exact .inl hj.symm
    · cases hj
  · exact .inr (List.mem_of_getElem? hj)
theorem tick_valid {room : Int} {keys : List Int} {used : List Bool} {hand key : Int} (v : VClock room keys used hand) (hk : 0 ≤ key ∧ key ≤ 31) :
    VClock room (tickM room keys used hand key).1 (tickM room keys used hand key).2.1 (tickM room keys used hand key).2.2.1 := by
  obtain ⟨⟨v1, v2, v3, v4, v5⟩, v6, v7, v8⟩ := v
  unfold tickM
  split
  · exact ⟨⟨v1, v2, v3, v4, v5⟩, by simp [v6], v7, v8⟩
  · rename_i hm
    split
    · rename_i hl
      refine ⟨⟨v1, v2, by simp; omega, fun x hx => ?_, ?_⟩, by simp [v6], fun h => v7 hl, fun h => ?_⟩
      · rcases List.mem_append.1 hx with hx | hx
        · exact v4 x hx
        · simp at hx; subst hx; exact hk
      · rw [List.nodup_append]
        exact ⟨v5, by simp, fun a ha b hb e => by simp at hb; subst hb; subst e; exact hm ha⟩
      · rw [v7 hl]; simp
    · rename_i hl
      have hfull : (keys.length : Int) = room := by omega
      obtain ⟨w1, w2⟩ := v8 hfull
      have hc : used.count true < used.length + 1 := Nat.lt_succ_of_le List.count_le_length
      obtain ⟨s1, s2, s3, s4⟩ := sweep_ok (used.length + 1) used hand.toNat hc (by omega)
      refine ⟨⟨v1, v2, by simpa using v3, fun x hx => ?_, nodup_set v5 hm⟩, by rw [List.length_set, s1, v6], fun h => by simp at h; omega, fun h => ?_⟩
      · rcases mem_set hx with rfl | hx
        · exact hk
        · exact v4 x hx
      · have := Nat.mod_lt ((sweep (used.length + 1) used hand.toNat).2 + 1) (show keys.length > 0 by omega)
        simp only [List.length_set]; omega

theorem all_t {P : Prop} {k : Bool → Prop} (p : P) (h : k true) : ∀ b : Bool, (b = true ↔ P) → k b := fun b hb => by rw [hb.2 p]; exact h
theorem br_nt {A B : Prop} (h : B) : br (!true) A B := h
theorem br_same {b : Bool} {A B : Prop} (h : B) : br (!(b == b)) A B := by rw [beq_self_eq_true]; exact h
theorem br_same' {b : Int} {A B : Prop} (h : B) : br (b != b) A B := by rw [bne_self_eq_false]; exact h
theorem some_of {l : List Int} {i : Nat} {d : Int} (h : i < l.length) : l[i]? = some (l.getD i d) := by
  rw [List.getD_eq_getElem?_getD, List.getElem?_eq_getElem h]; rfl
theorem tick_len {room : Int} {keys : List Int} {used : List Bool} {hand key : Int} (v : VClock room keys used hand) (hk : 0 ≤ key ∧ key ≤ 31) :
    (tickM room keys used hand key).1.length ≤ 8 ∧ (tickM room keys used hand key).2.1.length = (tickM room keys used hand key).1.length := by
  have := tick_valid v hk
  obtain ⟨⟨v1, v2, v3, v4, v5⟩, v6, v7, v8⟩ := this
  exact ⟨by omega, v6⟩
theorem mem_getD {l : List Int} {i : Nat} (h : i < l.length) : l.getD i 0 ∈ l := List.mem_of_getElem? (some_of h)
theorem take_set_succ {α : Type} {l : List α} {i : Nat} {x : α} (h : i < l.length) : (l.set i x).take (i + 1) = l.take i ++ [x] := by
  rw [List.take_succ_eq_append_getElem (by simpa using h), List.take_set_of_le (Nat.le_refl _)]; simp
def seqI (k : Int) : Nat → List Int
  | 0 => []
  | n + 1 => seqI k n ++ [k + (n : Int)]
def seqB (k : Int) : Nat → List Bool
  | 0 => []
  | n + 1 => seqB k n ++ [Int.tmod (k + (n : Int)) 3 == 0]
theorem seqI_snoc (k : Int) (n : Nat) : seqI k (n + 1) = seqI k n ++ [k + (n : Int)] := rfl
theorem seqB_snoc (k : Int) (n : Nat) : seqB k (n + 1) = seqB k n ++ [Int.tmod (k + (n : Int)) 3 == 0] := rfl
theorem seqI_len (k : Int) : ∀ n, (seqI k n).length = n
  | 0 => rfl
  | n + 1 => by rw [seqI_snoc, List.length_append, seqI_len k n]; rfl
theorem seqB_len (k : Int) : ∀ n, (seqB k n).length = n
  | 0 => rfl
  | n + 1 => by rw [seqB_snoc, List.length_append, seqB_len k n]; rfl
theorem seqI_get {k : Int} : ∀ {n i : Nat}, i < n → (seqI k n).getD i 0 = k + (i : Int)
  | n + 1, i, h => by
    rw [seqI_snoc, List.getD_eq_getElem?_getD]
    by_cases e : i < n
    · rw [List.getElem?_append_left (by rw [seqI_len]; exact e), ← List.getD_eq_getElem?_getD]; exact seqI_get e
    · have : i = n := by omega
      subst this
      rw [List.getElem?_append_right (by rw [seqI_len]; exact Nat.le_refl _), seqI_len]; simp
theorem seqB_get {k : Int} : ∀ {n i : Nat}, i < n → (seqB k n).getD i false = (Int.tmod (k + (i : Int)) 3 == 0)
  | n + 1, i, h => by
    rw [seqB_snoc, List.getD_eq_getElem?_getD]
    by_cases e : i < n
    · rw [List.getElem?_append_left (by rw [seqB_len]; exact e), ← List.getD_eq_getElem?_getD]; exact seqB_get e
    · have : i = n := by omega
      subst this
      rw [List.getElem?_append_right (by rw [seqB_len]; exact Nat.le_refl _), seqB_len]; simp
theorem br_lt0 {x : Int} {A B : Prop} (hx : 0 ≤ x) (h : B) : br (decide (x < 0)) A B := br_dec.2 ⟨fun g => by omega, fun _ => h⟩
abbrev Ent := Int × Int × Int
def Rar (a b : Ent) : Prop := a.2.1 < b.2.1 ∨ a.2.1 = b.2.1 ∧ a.2.2 < b.2.2
instance (a b : Ent) : Decidable (Rar a b) := by unfold Rar; infer_instance
theorem Rar.trans {a b c : Ent} (h : Rar a b) (g : Rar b c) : Rar a c := by unfold Rar at *; omega
structure AL where
  t : Int
  o : List Int
  f : List Int
  wo : List Int
  wf : List Int
def knownL (a : AL) (key : Int) : Prop := key ∈ a.o ∨ key ∈ a.f ∨ key ∈ a.wf ∨ key ∈ a.wo
instance (a : AL) (key : Int) : Decidable (knownL a key) := by unfold knownL; infer_instance
/-- `Can room r C n`: with a cache `C` before the keys `r`, `n` hits are possible. -/
def Can (room : Nat) : List Int → List Int → Nat → Prop
  | [], _, n => n = 0
  | k :: r, C, n => ∃ D m, D.Nodup ∧ D.length ≤ room ∧ k ∈ D ∧ (∀ x ∈ D, x = k ∨ x ∈ C) ∧ Can room r D m ∧ n ≤ m + (if k ∈ C then 1 else 0)
theorem Can.zero {room : Nat} (h : 1 ≤ room) : ∀ {r C : List Int}, Can room r C 0
  | [], _ => rfl
  | k :: r, C => ⟨[k], 0, by simp, by simpa using h, by simp, fun x hx => .inl (List.mem_singleton.1 hx), Can.zero h, by omega⟩
def VSk (s : List Int) : Prop := s.length = 24 ∧ ∀ x ∈ s, 0 ≤ x ∧ x ≤ 15
def cellM (row key : Int) : Int := row * 8 + Int.tmod (Int.tmod ((37 + 2 * row) * (key + row)) 101) 8
theorem VSk.get {s : List Int} (v : VSk s) (i : Nat) : 0 ≤ s.getD i 0 ∧ s.getD i 0 ≤ 15 := by
  by_cases h : i < s.length
  · exact v.2 _ (mem_getD h)
  · rw [List.getD_eq_getElem?_getD, List.getElem?_eq_none (by omega)]; simp
def min2 (a b : Int) : Int := if a < b then a else b
def countM (s : List Int) (key : Int) : Int := min2 (s.getD (cellM 2 key).toNat 0) (min2 (s.getD (cellM 1 key).toNat 0) (min2 (s.getD (cellM 0 key).toNat 0) 15))
theorem VSk.count {s : List Int} (v : VSk s) (key : Int) : 0 ≤ countM s key ∧ countM s key ≤ 15 := by
  have h0 := v.get (cellM 0 key).toNat
  have h1 := v.get (cellM 1 key).toNat
  have h2 := v.get (cellM 2 key).toNat
  unfold countM min2
  repeat' split
  all_goals omega
def PTm (l : List (Int × Int)) : Prop := (∀ e ∈ l, (0 ≤ e.1 ∧ e.1 ≤ 31) ∧ 0 ≤ e.2 ∧ e.2 ≤ 1000) ∧ l.Pairwise fun a b => a.1 < b.1
def VTm (l : List (Int × Int)) : Prop := l.length ≤ 12 ∧ PTm l
theorem PTm.filter {l : List (Int × Int)} (v : PTm l) (p : Int × Int → Bool) : PTm (l.filter p) := ⟨fun e he => v.1 e (List.mem_filter.1 he).1, v.2.filter p⟩
def dropM (l : List (Int × Int)) (now : Int) : List (Int × Int) := l.filter fun e => decide (now ≤ e.2)
theorem dropM_len (l : List (Int × Int)) (now : Int) : (dropM l now).length ≤ l.length := List.length_filter_le _ _
theorem VTm.drop {l : List (Int × Int)} (v : VTm l) (now : Int) : VTm (dropM l now) := ⟨Nat.le_trans (dropM_len l now) v.1, v.2.filter _⟩
-- laws.szIntS
def G_laws_szIntS (a0 : List Int) (left1 : Int) (k : Int → Prop) : Prop :=
  InR (left1 - (a0.length : Int)) ∧
  br (decide ((left1 - (a0.length : Int)) < 0))
  (k (-1))
  (k (left1 - (a0.length : Int)))
def S_laws_szIntS (a0 : List Int) (left1 : Int) (k : Int → Prop) : Prop := G_laws_szIntS a0 left1 k
def F_laws_szIntS (a : List Int) (left : Int) (k : Int → Prop) : Prop :=
  (a.length ≤ maxLen ∧ -1 ≤ left ∧ left ≤ 1048576) ∧ ∀ r : Int, -1 ≤ r → r ≤ 1048576 → (0 ≤ r → (a.length : Int) + r = left) → k r
theorem F_laws_szIntS_S {a : List Int} {left : Int} {k : Int → Prop} (h : F_laws_szIntS a left k) : S_laws_szIntS a left k := by
  obtain ⟨⟨h1, h2, h3⟩, hk⟩ := h
  have hm : maxLen = 9223372036854775807 := rfl
  exact ⟨inR (by omega) (by omega), br_dec.2 ⟨fun h => hk _ (by omega) (by omega) (by omega), fun h => hk _ (by omega) (by omega) (by omega)⟩⟩
-- laws.szBoolS
def G_laws_szBoolS (a0 : List Bool) (left1 : Int) (k : Int → Prop) : Prop :=
  InR (left1 - (a0.length : Int)) ∧
  br (decide ((left1 - (a0.length : Int)) < 0))
  (k (-1))
  (k (left1 - (a0.length : Int)))
def S_laws_szBoolS (a0 : List Bool) (left1 : Int) (k : Int → Prop) : Prop := G_laws_szBoolS a0 left1 k
def F_laws_szBoolS (a : List Bool) (left : Int) (k : Int → Prop) : Prop :=
  (a.length ≤ maxLen ∧ -1 ≤ left ∧ left ≤ 1048576) ∧ ∀ r : Int, -1 ≤ r → r ≤ 1048576 → (0 ≤ r → (a.length : Int) + r = left) → k r
theorem F_laws_szBoolS_S {a : List Bool} {left : Int} {k : Int → Prop} (h : F_laws_szBoolS a left k) : S_laws_szBoolS a left k := by
  obtain ⟨⟨h1, h2, h3⟩, hk⟩ := h
  have hm : maxLen = 9223372036854775807 := rfl
  exact ⟨inR (by omega) (by omega), br_dec.2 ⟨fun h => hk _ (by omega) (by omega) (by omega), fun h => hk _ (by omega) (by omega) (by omega)⟩⟩
-- laws.szClock
def G_laws_szClock (a0Room : Int) (a0Keys : List Int) (a0Used : List Bool) (a0Hand : Int) (left1 : Int) (k : Int → Prop) : Prop :=
  F_laws_szIntS a0Keys left1 fun szIntS8 =>
  br (decide (szIntS8 < 0))
  (k (-1))
  (F_laws_szBoolS a0Used szIntS8 fun szBoolS14 =>
    br (decide (szBoolS14 < 0))
    (k (-1))
    (k szBoolS14))
def S_laws_szClock (a0Room : Int) (a0Keys : List Int) (a0Used : List Bool) (a0Hand : Int) (left1 : Int) (k : Int → Prop) : Prop := G_laws_szClock a0Room a0Keys a0Used a0Hand left1 k
def F_laws_szClock (room : Int) (keys : List Int) (used : List Bool) (hand : Int) (left : Int) (k : Int → Prop) : Prop :=
  (keys.length ≤ maxLen ∧ used.length ≤ maxLen ∧ -1 ≤ left ∧ left ≤ 1048576) ∧ ∀ r : Int, -1 ≤ r → r ≤ 1048576 → (0 ≤ r → (keys.length : Int) + (used.length : Int) + r = left) → k r
theorem F_laws_szClock_S {room : Int} {keys : List Int} {used : List Bool} {hand : Int} {left : Int} {k : Int → Prop} (h : F_laws_szClock room keys used hand left k) : S_laws_szClock room keys used hand left k := by
  obtain ⟨⟨hKeys, hUsed, g1, g2⟩, hk⟩ := h
  exact ⟨⟨hKeys, by omega, by omega⟩, fun rKeys _ _ _ => br_dec.2 ⟨fun _ => hk (-1) (by omega) (by omega) (by omega), fun _ => ⟨⟨hUsed, by omega, by omega⟩, fun rUsed _ _ _ => br_dec.2 ⟨fun _ => hk (-1) (by omega) (by omega) (by omega), fun _ => hk _ (by omega) (by omega) (by omega)⟩⟩⟩⟩
-- laws.toIntS
def T0_laws_toIntS (a0 : List Int) (xi4 : Int) (xy7 : List Int) (k : List Int → Prop) (B0 : Int → List Int → Prop) : Prop :=
  br (decide (xi4 < (a0.length : Int)))
  ((0 ≤ xi4 ∧ xi4 < (a0.length : Int)) ∧
    (0 ≤ xi4 ∧ xi4 < (xy7.length : Int)) ∧
    InR (xi4 + 1) ∧
    B0 (xi4 + 1) (List.set xy7 (Int.toNat xi4) (List.getD a0 (Int.toNat xi4) (0 : Int))))
  (k xy7)
def L0_laws_toIntS (a0 : List Int) (k : List Int → Prop) : Nat → Int → List Int → Prop
  | 0, _, _ => False
  | n + 1, xi4, xy7 => T0_laws_toIntS a0 xi4 xy7 k (L0_laws_toIntS a0 k n)
def G_laws_toIntS (a0 : List Int) (I0 : List Int → Int → List Int → Prop) : Prop :=
  ((a0.length : Int) = (a0.length : Int) ∧ 0 ≤ (a0.length : Int) ∧ (a0.length : Int) ≤ 1000000000) ∧
  I0 a0 0 (List.replicate (Int.toNat (a0.length : Int)) (0 : Int))
def S_laws_toIntS (a0 : List Int) (k : List Int → Prop) : Prop := G_laws_toIntS a0 (fun a0 xi4 xy7 => ∃ j, L0_laws_toIntS a0 k j xi4 xy7)
def F_laws_toIntS (a : List Int) (k : List Int → Prop) : Prop := a.length ≤ 1000000000 ∧ k a
theorem F_laws_toIntS_S {a : List Int} {k : List Int → Prop} (h : F_laws_toIntS a k) : S_laws_toIntS a k := by
  obtain ⟨hl, hk⟩ := h
  have key : ∀ (r : List Int) (i : Nat) (out : List Int), a.drop i = r → out.length = a.length → out.take i = a.take i → L0_laws_toIntS a k (r.length + 1) (i : Int) out := by
    intro r
    induction r with
    | nil =>
      intro i out hd ho he
      have := drop_nil' hd
      rw [L0_laws_toIntS, T0_laws_toIntS]
      rw [List.take_of_length_le (by omega), List.take_of_length_le (by omega)] at he
      refine br_dec.2 ⟨fun h => by omega, fun _ => ?_⟩
      rw [he]; exact hk
    | cons x r ih =>
      intro i out hd ho he
      obtain ⟨h1, h2, _, h3, h4⟩ := drop_cons' hd
      rw [List.length_cons, L0_laws_toIntS, T0_laws_toIntS]
      simp only [br_dec, Int.toNat_natCast, h2]
      refine ⟨fun _ => ⟨⟨by omega, by omega⟩, ⟨by omega, by omega⟩, inR (by omega) (by omega), ih (i + 1) _ h3 (by simpa using ho) ?_⟩, fun h => by omega⟩
      rw [take_set_succ (by omega), h4, he]
  exact ⟨⟨rfl, by omega, by omega⟩, _, key a 0 _ rfl (by simp) (by simp)⟩
-- laws.toBoolS
def T0_laws_toBoolS (a0 : List Bool) (xi4 : Int) (xy7 : List Bool) (k : List Bool → Prop) (B0 : Int → List Bool → Prop) : Prop :=
  br (decide (xi4 < (a0.length : Int)))
  ((0 ≤ xi4 ∧ xi4 < (a0.length : Int)) ∧
    (0 ≤ xi4 ∧ xi4 < (xy7.length : Int)) ∧
    InR (xi4 + 1) ∧
    B0 (xi4 + 1) (List.set xy7 (Int.toNat xi4) (List.getD a0 (Int.toNat xi4) false)))
  (k xy7)
def L0_laws_toBoolS (a0 : List Bool) (k : List Bool → Prop) : Nat → Int → List Bool → Prop
  | 0, _, _ => False
  | n + 1, xi4, xy7 => T0_laws_toBoolS a0 xi4 xy7 k (L0_laws_toBoolS a0 k n)
def G_laws_toBoolS (a0 : List Bool) (I0 : List Bool → Int → List Bool → Prop) : Prop :=
  ((a0.length : Int) = (a0.length : Int) ∧ 0 ≤ (a0.length : Int) ∧ (a0.length : Int) ≤ 1000000000) ∧
  I0 a0 0 (List.replicate (Int.toNat (a0.length : Int)) false)
def S_laws_toBoolS (a0 : List Bool) (k : List Bool → Prop) : Prop := G_laws_toBoolS a0 (fun a0 xi4 xy7 => ∃ j, L0_laws_toBoolS a0 k j xi4 xy7)
def F_laws_toBoolS (a : List Bool) (k : List Bool → Prop) : Prop := a.length ≤ 1000000000 ∧ k a
theorem F_laws_toBoolS_S {a : List Bool} {k : List Bool → Prop} (h : F_laws_toBoolS a k) : S_laws_toBoolS a k := by
  obtain ⟨hl, hk⟩ := h
  have key : ∀ (r : List Bool) (i : Nat) (out : List Bool), a.drop i = r → out.length = a.length → out.take i = a.take i → L0_laws_toBoolS a k (r.length + 1) (i : Int) out := by
    intro r
    induction r with
    | nil =>
      intro i out hd ho he
      have := drop_nil' hd
      rw [L0_laws_toBoolS, T0_laws_toBoolS]
      rw [List.take_of_length_le (by omega), List.take_of_length_le (by omega)] at he
      refine br_dec.2 ⟨fun h => by omega, fun _ => ?_⟩
      rw [he]; exact hk
    | cons x r ih =>
      intro i out hd ho he
      obtain ⟨h1, h2, _, h3, h4⟩ := drop_cons' hd
      rw [List.length_cons, L0_laws_toBoolS, T0_laws_toBoolS]
      simp only [br_dec, Int.toNat_natCast, h2]
      refine ⟨fun _ => ⟨⟨by omega, by omega⟩, ⟨by omega, by omega⟩, inR (by omega) (by omega), ih (i + 1) _ h3 (by simpa using ho) ?_⟩, fun h => by omega⟩
      rw [take_set_succ (by omega), h4, he]
  exact ⟨⟨rfl, by omega, by omega⟩, _, key a 0 _ rfl (by simp) (by simp)⟩
-- laws.toClock
def G_laws_toClock (a0Room : Int) (a0Keys : List Int) (a0Used : List Bool) (a0Hand : Int) (k : Int → List Int → List Bool → Int → Prop) : Prop :=
  F_laws_toIntS a0Keys fun toIntS9 =>
  F_laws_toBoolS a0Used fun toBoolS13 =>
  k a0Room toIntS9 toBoolS13 a0Hand
def S_laws_toClock (a0Room : Int) (a0Keys : List Int) (a0Used : List Bool) (a0Hand : Int) (k : Int → List Int → List Bool → Int → Prop) : Prop := G_laws_toClock a0Room a0Keys a0Used a0Hand k
def F_laws_toClock (room : Int) (keys : List Int) (used : List Bool) (hand : Int) (k : Int → List Int → List Bool → Int → Prop) : Prop := (keys.length ≤ 1000000000 ∧ used.length ≤ 1000000000) ∧ k room keys used hand
theorem F_laws_toClock_S {room : Int} {keys : List Int} {used : List Bool} {hand : Int} {k : Int → List Int → List Bool → Int → Prop} (h : F_laws_toClock room keys used hand k) : S_laws_toClock room keys used hand k := ⟨h.1.1, ⟨h.1.2, h.2⟩⟩
-- spec.inRange
def G_spec_inRange (n0 : Int) (low1 : Int) (high2 : Int) (k : Bool → Prop) : Prop :=
  br (decide (low1 ≤ n0))
  (k (decide (n0 ≤ high2)))
  (k false)
def S_spec_inRange (n0 : Int) (low1 : Int) (high2 : Int) (k : Bool → Prop) : Prop := G_spec_inRange n0 low1 high2 k
def F_spec_inRange (n low high : Int) (k : Bool → Prop) : Prop := k (decide (low ≤ n ∧ n ≤ high))
theorem F_spec_inRange_S {n low high : Int} {k : Bool → Prop} (h : F_spec_inRange n low high k) : S_spec_inRange n low high k := by
  unfold F_spec_inRange at h
  simp only [S_spec_inRange, G_spec_inRange, br_dec]
  refine ⟨fun h1 => ?_, fun h1 => ?_⟩
  · simpa [h1] using h
  · simpa [h1] using h
-- spec.allIn
def T0_spec_allIn (high2 : Int) (list0 : List Int) (low1 : Int) (xi7 : Int) (k : Bool → Prop) (B0 : Int → Prop) : Prop :=
  br (decide (xi7 < (list0.length : Int)))
  ((0 ≤ xi7 ∧ xi7 < (list0.length : Int)) ∧
    F_spec_inRange (List.getD list0 (Int.toNat xi7) (0 : Int)) low1 high2 fun inRange20 =>
    br (!inRange20)
    (k false)
    (InR (xi7 + 1) ∧
      B0 (xi7 + 1)))
  (k true)
def L0_spec_allIn (high2 : Int) (list0 : List Int) (low1 : Int) (k : Bool → Prop) : Nat → Int → Prop
  | 0, _ => False
  | n + 1, xi7 => T0_spec_allIn high2 list0 low1 xi7 k (L0_spec_allIn high2 list0 low1 k n)
def G_spec_allIn (list0 : List Int) (low1 : Int) (high2 : Int) (I0 : Int → List Int → Int → Int → Prop) : Prop :=
  I0 high2 list0 low1 0
def S_spec_allIn (list0 : List Int) (low1 : Int) (high2 : Int) (k : Bool → Prop) : Prop := G_spec_allIn list0 low1 high2 (fun high2 list0 low1 xi7 => ∃ j, L0_spec_allIn high2 list0 low1 k j xi7)
def F_spec_allIn (l : List Int) (low high : Int) (k : Bool → Prop) : Prop := l.length ≤ 1000000000 ∧ k (decide (∀ x ∈ l, low ≤ x ∧ x ≤ high))
theorem F_spec_allIn_S {l : List Int} {low high : Int} {k : Bool → Prop} (h : F_spec_allIn l low high k) : S_spec_allIn l low high k := by
  obtain ⟨hl, hk⟩ := h
  have key : ∀ (r : List Int) (i : Nat), l.drop i = r → ((∀ x ∈ r, low ≤ x ∧ x ≤ high) ↔ (∀ x ∈ l, low ≤ x ∧ x ≤ high)) → L0_spec_allIn high l low k (r.length + 1) (i : Int) := by
    intro r
    induction r with
    | nil =>
      intro i hd he
      have := drop_nil' hd
      rw [L0_spec_allIn, T0_spec_allIn]
      simp only [br_dec]
      refine ⟨fun h => by omega, fun _ => ?_⟩
      rwa [decide_eq_true (he.1 (by simp))] at hk
    | cons x r ih =>
      intro i hd he
      obtain ⟨h1, h2, _, h3, _⟩ := drop_cons' hd
      rw [List.length_cons, L0_spec_allIn, T0_spec_allIn]
      simp only [br_dec, F_spec_inRange, br_not, Int.toNat_natCast, h2]
      refine ⟨fun _ => ⟨⟨by omega, by omega⟩, fun hx => ⟨inR (by omega) (by omega), ?_⟩, fun hx => ?_⟩, fun h => by omega⟩
      · refine ih (i + 1) h3 (Iff.trans ?_ he)
        simp only [List.mem_cons, forall_eq_or_imp]
        exact ⟨fun h => ⟨hx, h⟩, fun h => h.2⟩
      · rwa [decide_eq_false (fun h => hx (he.2 h x (by simp)))] at hk
  exact ⟨_, key l 0 rfl Iff.rfl⟩
-- spec.placeOf
def T0_spec_placeOf (list0 : List Int) (n1 : Int) (xi5 : Int) (k : Int → Prop) (B0 : Int → Prop) : Prop :=
  br (decide (xi5 < (list0.length : Int)))
  ((0 ≤ xi5 ∧ xi5 < (list0.length : Int)) ∧
    br ((List.getD list0 (Int.toNat xi5) (0 : Int)) == n1)
    (k xi5)
    (InR (xi5 + 1) ∧
      B0 (xi5 + 1)))
  (k (-1))
def L0_spec_placeOf (list0 : List Int) (n1 : Int) (k : Int → Prop) : Nat → Int → Prop
  | 0, _ => False
  | n + 1, xi5 => T0_spec_placeOf list0 n1 xi5 k (L0_spec_placeOf list0 n1 k n)
def G_spec_placeOf (list0 : List Int) (n1 : Int) (I0 : List Int → Int → Int → Prop) : Prop :=
  I0 list0 n1 0
def S_spec_placeOf (list0 : List Int) (n1 : Int) (k : Int → Prop) : Prop := G_spec_placeOf list0 n1 (fun list0 n1 xi5 => ∃ j, L0_spec_placeOf list0 n1 k j xi5)
def F_spec_placeOf (l : List Int) (n : Int) (k : Int → Prop) : Prop := l.length ≤ 1000000000 ∧ k (plc l n)
theorem F_spec_placeOf_S {l : List Int} {n : Int} {k : Int → Prop} (h : F_spec_placeOf l n k) : S_spec_placeOf l n k := by
  obtain ⟨hl, hk⟩ := h
  have key : ∀ (r : List Int) (i : Nat), l.drop i = r → plcF r n i = plc l n → L0_spec_placeOf l n k (r.length + 1) (i : Int) := by
    intro r
    induction r with
    | nil =>
      intro i hd he
      have := drop_nil' hd
      rw [L0_spec_placeOf, T0_spec_placeOf]
      simp only [br_dec]
      exact ⟨fun h => by omega, fun _ => by rw [show (-1 : Int) = plc l n from he]; exact hk⟩
    | cons x r ih =>
      intro i hd he
      obtain ⟨h1, h2, _, h3, _⟩ := drop_cons' hd
      rw [List.length_cons, L0_spec_placeOf, T0_spec_placeOf]
      simp only [br_dec, br_beq, Int.toNat_natCast, h2]
      refine ⟨fun _ => ⟨⟨by omega, by omega⟩, fun hx => ?_, fun hx => ⟨inR (by omega) (by omega), ?_⟩⟩, fun h => by omega⟩
      · simp only [plcF, if_pos hx] at he; rw [he]; exact hk
      · simp only [plcF, if_neg hx] at he; exact ih (i + 1) h3 he
  exact ⟨_, key l 0 rfl rfl⟩
-- spec.distinct
def T0_spec_distinct (list0 : List Int) (xi3 : Int) (k : Bool → Prop) (B0 : Int → Prop) : Prop :=
  br (decide (xi3 < (list0.length : Int)))
  ((0 ≤ xi3 ∧ xi3 < (list0.length : Int)) ∧
    F_spec_placeOf list0 (List.getD list0 (Int.toNat xi3) (0 : Int)) fun placeOf15 =>
    br (placeOf15 != xi3)
    (k false)
    (InR (xi3 + 1) ∧
      B0 (xi3 + 1)))
  (k true)
def L0_spec_distinct (list0 : List Int) (k : Bool → Prop) : Nat → Int → Prop
  | 0, _ => False
  | n + 1, xi3 => T0_spec_distinct list0 xi3 k (L0_spec_distinct list0 k n)
def G_spec_distinct (list0 : List Int) (I0 : List Int → Int → Prop) : Prop :=
  I0 list0 0
def S_spec_distinct (list0 : List Int) (k : Bool → Prop) : Prop := G_spec_distinct list0 (fun list0 xi3 => ∃ j, L0_spec_distinct list0 k j xi3)
def F_spec_distinct (l : List Int) (k : Bool → Prop) : Prop := l.length ≤ 1000000000 ∧ k (decide l.Nodup)
theorem F_spec_distinct_S {l : List Int} {k : Bool → Prop} (h : F_spec_distinct l k) : S_spec_distinct l k := by
  obtain ⟨hl, hk⟩ := h
  have key : ∀ (r : List Int) (i : Nat), l.drop i = r → (∀ q : Nat, q < i → plc l (l.getD q 0) = (q : Int)) → L0_spec_distinct l k (r.length + 1) (i : Int) := by
    intro r
    induction r with
    | nil =>
      intro i hd he
      have := drop_nil' hd
      rw [L0_spec_distinct, T0_spec_distinct]
      simp only [br_dec]
      refine ⟨fun h => by omega, fun _ => ?_⟩
      rwa [decide_eq_true (nodup_plc.1 fun q hq => he q (by omega))] at hk
    | cons x r ih =>
      intro i hd he
      obtain ⟨h1, h2, _, h3, _⟩ := drop_cons' hd
      rw [List.length_cons, L0_spec_distinct, T0_spec_distinct]
      simp only [br_dec, F_spec_placeOf, br_bne, Int.toNat_natCast]
      refine ⟨fun _ => ⟨⟨by omega, by omega⟩, hl, fun hx => ?_, fun hx => ⟨inR (by omega) (by omega), ?_⟩⟩, fun h => by omega⟩
      · rwa [decide_eq_false (fun h => hx (nodup_plc.2 h i h1))] at hk
      · refine ih (i + 1) h3 fun q hq => ?_
        by_cases e : q = i
        · subst e; exact hx
        · exact he q (by omega)
  exact ⟨_, key l 0 rfl (fun q hq => by omega)⟩
-- spec.validKeys
def G_spec_validKeys (list0 : List Int) (room1 : Int) (k : Bool → Prop) : Prop :=
  F_spec_inRange room1 (1 : Int) (8 : Int) fun inRange6 =>
  br inRange6
  (br (decide ((list0.length : Int) ≤ room1))
    (F_spec_allIn list0 (0 : Int) (31 : Int) fun allIn15 =>
      br allIn15
      (F_spec_distinct list0 fun distinct19 =>
        k distinct19)
      (k false))
    (k false))
  (k false)
def S_spec_validKeys (list0 : List Int) (room1 : Int) (k : Bool → Prop) : Prop := G_spec_validKeys list0 room1 k
def F_spec_validKeys (l : List Int) (room : Int) (k : Bool → Prop) : Prop := ∀ b : Bool, (b = true ↔ VKeys l room) → k b
theorem F_spec_validKeys_S {l : List Int} {room : Int} {k : Bool → Prop} (h : F_spec_validKeys l room k) : S_spec_validKeys l room k := by
  have hno : ¬ VKeys l room → k false := fun hv => h false (by simp [hv])
  show br (decide (1 ≤ room ∧ room ≤ 8)) _ _
  refine br_dec.2 ⟨fun h1 => br_dec.2 ⟨fun h3 => ?_, fun h3 => hno fun v => h3 v.2.2.1⟩, fun h1 => hno fun v => h1 ⟨v.1, v.2.1⟩⟩
  refine ⟨by omega, br_dec.2 ⟨fun h4 => ⟨by omega, h _ ?_⟩, fun h4 => hno fun v => h4 v.2.2.2.1⟩⟩
  simp only [decide_eq_true_eq]
  exact ⟨fun hn => ⟨h1.1, h1.2, h3, h4, hn⟩, fun v => v.2.2.2.2⟩
-- spec.validClock
def G_spec_validClock (c0Room : Int) (c0Keys : List Int) (c0Used : List Bool) (c0Hand : Int) (k : Bool → Prop) : Prop :=
  F_spec_inRange c0Room (1 : Int) (8 : Int) fun inRange9 =>
  br inRange9
  (F_spec_validKeys c0Keys c0Room fun validKeys15 =>
    br validKeys15
    (br ((c0Used.length : Int) == (c0Keys.length : Int))
      (InR ((c0Keys.length : Int) - 1) ∧
        F_spec_inRange c0Hand (0 : Int) (if 0 < ((c0Keys.length : Int) - 1) then ((c0Keys.length : Int) - 1) else 0) fun inRange30 =>
        br inRange30
        (br ((c0Keys.length : Int) == c0Room)
          (k true)
          (k (c0Hand == 0)))
        (k false))
      (k false))
    (k false))
  (k false)
def S_spec_validClock (c0Room : Int) (c0Keys : List Int) (c0Used : List Bool) (c0Hand : Int) (k : Bool → Prop) : Prop := G_spec_validClock c0Room c0Keys c0Used c0Hand k
def F_spec_validClock (room : Int) (keys : List Int) (used : List Bool) (hand : Int) (k : Bool → Prop) : Prop := ∀ b : Bool, (b = true ↔ VClock room keys used hand) → k b
theorem F_spec_validClock_S {room : Int} {keys : List Int} {used : List Bool} {hand : Int} {k : Bool → Prop} (h : F_spec_validClock room keys used hand k) : S_spec_validClock room keys used hand k := by
  have hno : ¬ VClock room keys used hand → k false := fun hv => h false (by simp [hv])
  show br (decide (1 ≤ room ∧ room ≤ 8)) _ _
  refine br_dec.2 ⟨fun h1 => ?_, fun h1 => hno fun v => h1 ⟨v.1.1, v.1.2.1⟩⟩
  intro b hb
  rw [br_iff]
  refine ⟨fun e => ?_, fun e => hno fun v => by rw [hb.2 v.1] at e; cases e⟩
  have hv := hb.1 e
  have hlen := hv.2.2.1
  refine br_beq.2 ⟨fun h3 => ⟨inR (by omega) (by omega), br_dec.2 ⟨fun h4 => br_beq.2 ⟨fun h6 => h true ?_, fun h6 => h _ ?_⟩, fun h4 => hno fun v => h4 ?_⟩⟩, fun h3 => hno fun v => h3 (by rw [v.2.1])⟩
  · simp only [true_iff]
    obtain ⟨h4, h5⟩ := h4
    refine ⟨hv, by omega, fun h => by omega, fun _ => ⟨h4, ?_⟩⟩
    split at h5 <;> omega
  · simp only [beq_iff_eq]
    exact ⟨fun e => ⟨hv, by omega, fun _ => e, fun h => absurd h h6⟩, fun v => v.2.2.1 (by omega)⟩
  · by_cases h6 : (keys.length : Int) = room
    · have := v.2.2.2 h6
      constructor
      · omega
      · split <;> omega
    · rw [v.2.2.1 (by omega)]
      constructor
      · omega
      · split <;> omega
-- spec.copyInts
def G_spec_copyInts (list0 : List Int) (k : List Int → Prop) : Prop :=
  (0 + list0.length ≤ 1000000000) ∧
  k list0
def S_spec_copyInts (list0 : List Int) (k : List Int → Prop) : Prop := G_spec_copyInts list0 k
def F_spec_copyInts (l : List Int) (k : List Int → Prop) : Prop := l.length ≤ 1000000000 ∧ k l
theorem F_spec_copyInts_S {l : List Int} {k : List Int → Prop} (h : F_spec_copyInts l k) : S_spec_copyInts l k := ⟨by have := h.1; omega, h.2⟩
-- spec.copyClock
def G_spec_copyClock_j0 (c0Hand : Int) (c0Room : Int) (c0Used : List Bool) (copyInts7 : List Int) (k : Int → List Int → List Bool → Int → Prop) : Prop :=
  ((0 + c0Used.length ≤ 1000000000) ∧
    (k c0Room copyInts7 c0Used c0Hand) ∧
    (True)) ∧
  (True)
def G_spec_copyClock (c0Room : Int) (c0Keys : List Int) (c0Used : List Bool) (c0Hand : Int) (k : Int → List Int → List Bool → Int → Prop) : Prop :=
  (F_spec_copyInts c0Keys fun copyInts7 =>
    (G_spec_copyClock_j0 c0Hand c0Room c0Used copyInts7 k) ∧
    (True)) ∧
  (((F_spec_copyInts c0Keys fun copyInts7 =>
        G_spec_copyClock_j0 c0Hand c0Room c0Used copyInts7 k) ∧
      (True)) ∧
    (True))
def H_spec_copyClock (c0Room : Int) (c0Keys : List Int) (c0Used : List Bool) (c0Hand : Int) (k : Int → List Int → List Bool → Int → Prop) : Prop :=
  F_spec_copyInts c0Keys fun copyInts7 =>
  (0 + c0Used.length ≤ 1000000000) ∧
  k c0Room copyInts7 c0Used c0Hand
theorem G_spec_copyClock_eq (c0Room : Int) (c0Keys : List Int) (c0Used : List Bool) (c0Hand : Int) (k : Int → List Int → List Bool → Int → Prop) : G_spec_copyClock c0Room c0Keys c0Used c0Hand k = H_spec_copyClock c0Room c0Keys c0Used c0Hand k := by
  simp only [G_spec_copyClock, H_spec_copyClock, G_spec_copyClock_j0, and_self, and_true]
def S_spec_copyClock (c0Room : Int) (c0Keys : List Int) (c0Used : List Bool) (c0Hand : Int) (k : Int → List Int → List Bool → Int → Prop) : Prop := H_spec_copyClock c0Room c0Keys c0Used c0Hand k
def F_spec_copyClock (room : Int) (keys : List Int) (used : List Bool) (hand : Int) (k : Int → List Int → List Bool → Int → Prop) : Prop := (keys.length ≤ 1000000000 ∧ used.length ≤ 1000000000) ∧ k room keys used hand
theorem F_spec_copyClock_S {room : Int} {keys : List Int} {used : List Bool} {hand : Int} {k : Int → List Int → List Bool → Int → Prop} (h : F_spec_copyClock room keys used hand k) : S_spec_copyClock room keys used hand k :=
  ⟨h.1.1, by have := h.1.2; omega, h.2⟩
-- spec.tick
def T0_spec_tick (copyClock9Keys : List Int) (copyClock9Room : Int) (key1 : Int) (xb6c3 : Int) (xy9 : List Bool) (k : Int → List Int → List Bool → Int → Bool → Prop) (B0 : Int → List Bool → Prop) : Prop :=
  (0 ≤ xb6c3 ∧ xb6c3 < (xy9.length : Int)) ∧
  br (List.getD xy9 (Int.toNat xb6c3) false)
  ((0 ≤ xb6c3 ∧ xb6c3 < (xy9.length : Int)) ∧
    InR (xb6c3 + 1) ∧
    (copyClock9Room ≠ 0) ∧
    B0 (Int.tmod (xb6c3 + 1) copyClock9Room) (List.set xy9 (Int.toNat xb6c3) false))
  ((0 ≤ xb6c3 ∧ xb6c3 < (copyClock9Keys.length : Int)) ∧
    InR (xb6c3 + 1) ∧
    (copyClock9Room ≠ 0) ∧
    k copyClock9Room (List.set copyClock9Keys (Int.toNat xb6c3) key1) xy9 (Int.tmod (xb6c3 + 1) copyClock9Room) false)
def L0_spec_tick (copyClock9Keys : List Int) (copyClock9Room : Int) (key1 : Int) (k : Int → List Int → List Bool → Int → Bool → Prop) : Nat → Int → List Bool → Prop
  | 0, _, _ => False
  | n + 1, xb6c3, xy9 => T0_spec_tick copyClock9Keys copyClock9Room key1 xb6c3 xy9 k (L0_spec_tick copyClock9Keys copyClock9Room key1 k n)
def G_spec_tick (c0Room : Int) (c0Keys : List Int) (c0Used : List Bool) (c0Hand : Int) (key1 : Int) (k : Int → List Int → List Bool → Int → Bool → Prop) (I0 : List Int → Int → Int → Int → List Bool → Prop) : Prop :=
  F_spec_copyClock c0Room c0Keys c0Used c0Hand fun copyClock9Room copyClock9Keys copyClock9Used copyClock9Hand =>
  F_spec_placeOf copyClock9Keys key1 fun placeOf13 =>
  br (decide (placeOf13 ≥ 0))
  ((0 ≤ placeOf13 ∧ placeOf13 < (copyClock9Used.length : Int)) ∧
    k copyClock9Room copyClock9Keys (List.set copyClock9Used (Int.toNat placeOf13) true) copyClock9Hand true)
  (br (decide ((copyClock9Keys.length : Int) < copyClock9Room))
    (F_spec_copyInts c0Keys fun copyInts29 =>
      (copyInts29.length + 1 ≤ 1000000000) ∧
      (0 + c0Used.length ≤ 1000000000) ∧
      (c0Used.length + 1 ≤ 1000000000) ∧
      k copyClock9Room (copyInts29 ++ ([key1] : List Int)) (c0Used ++ ([false] : List Bool)) copyClock9Hand false)
    (I0 copyClock9Keys copyClock9Room key1 copyClock9Hand copyClock9Used))
def S_spec_tick (c0Room : Int) (c0Keys : List Int) (c0Used : List Bool) (c0Hand : Int) (key1 : Int) (k : Int → List Int → List Bool → Int → Bool → Prop) : Prop := G_spec_tick c0Room c0Keys c0Used c0Hand key1 k (fun copyClock9Keys copyClock9Room key1 xb6c3 xy9 => ∃ j, L0_spec_tick copyClock9Keys copyClock9Room key1 k j xb6c3 xy9)
def F_spec_tick (room : Int) (keys : List Int) (used : List Bool) (hand key : Int) (k : Int → List Int → List Bool → Int → Bool → Prop) : Prop :=
  VClock room keys used hand ∧ k room (tickM room keys used hand key).1 (tickM room keys used hand key).2.1 (tickM room keys used hand key).2.2.1 (tickM room keys used hand key).2.2.2
theorem F_spec_tick_S {room : Int} {keys : List Int} {used : List Bool} {hand key : Int} {k : Int → List Int → List Bool → Int → Bool → Prop} (h : F_spec_tick room keys used hand key k) : S_spec_tick room keys used hand key k := by
  obtain ⟨v, hk⟩ := h
  have hv := v
  obtain ⟨⟨v1, v2, v3, v4, v5⟩, v6, v7, v8⟩ := v
  have key1 : (keys.length : Int) = room → ∀ (f : Nat) (u : List Bool) (h : Nat), u.length = keys.length → h < u.length → u.count true < f →
      k room (keys.set (sweep f u h).2 key) (sweep f u h).1 (((sweep f u h).2 + 1) % keys.length : Nat) false → L0_spec_tick keys room key k f (h : Int) u := by
    intro hr f
    induction f with
    | zero => intro u h _ _ h3; omega
    | succ f ih =>
      intro u h h1 h2 h3 h4
      unfold sweep at h4
      rw [L0_spec_tick, T0_spec_tick]
      simp only [br_iff, Int.toNat_natCast]
      refine ⟨⟨by omega, by omega⟩, fun hu => ⟨⟨by omega, by omega⟩, inR (by omega) (by omega), by omega, ?_⟩, fun hu => ⟨⟨by omega, by omega⟩, inR (by omega) (by omega), by omega, ?_⟩⟩
      · rw [if_pos hu] at h4
        have e : Int.tmod ((h : Int) + 1) room = (((h + 1) % u.length : Nat) : Int) := by rw [← hr, tmod_next, h1]
        rw [e]
        have := count_clear hu
        refine ih _ _ (by simp [h1]) (by rw [List.length_set]; exact Nat.mod_lt _ (by omega)) (by omega) h4
      · rw [if_neg (by rw [hu]; simp)] at h4
        have e : Int.tmod ((h : Int) + 1) room = (((h + 1) % keys.length : Nat) : Int) := by rw [← hr, tmod_next]
        rw [e]; exact h4
  refine ⟨⟨by omega, by omega⟩, by omega, br_dec.2 ⟨fun hp => ?_, fun hp => br_dec.2 ⟨fun hl => ?_, fun hl => ?_⟩⟩⟩
  · have hm := plc_ge.1 hp
    unfold tickM at hk
    rw [if_pos hm] at hk
    obtain ⟨j, j1, _, _, j2⟩ := plc_pos hm
    exact ⟨⟨by omega, by omega⟩, hk⟩
  · have hm : key ∉ keys := fun e => hp (plc_ge.2 e)
    unfold tickM at hk
    rw [if_neg hm, if_pos hl] at hk
    exact ⟨by omega, by omega, by omega, by omega, hk⟩
  · have hm : key ∉ keys := fun e => hp (plc_ge.2 e)
    unfold tickM at hk
    rw [if_neg hm, if_neg hl] at hk
    obtain ⟨w1, w2⟩ := v8 (by omega)
    refine ⟨used.length + 1, ?_⟩
    have := key1 (by omega) (used.length + 1) used hand.toNat v6 (by omega) (Nat.lt_succ_of_le List.count_le_length) hk
    rwa [Int.toNat_of_nonneg w1] at this
-- spec.UseClock
def G_spec_UseClock (c0Room : Int) (c0Keys : List Int) (c0Used : List Bool) (c0Hand : Int) (key1 : Int) (k : Int → List Int → List Bool → Int → Bool → Prop) : Prop :=
  F_spec_validClock c0Room c0Keys c0Used c0Hand fun validClock7 =>
  br (!validClock7)
  (k 0 ([] : List Int) ([] : List Bool) 0 false)
  (F_spec_inRange key1 (0 : Int) (31 : Int) fun inRange11 =>
    br (!inRange11)
    (k 0 ([] : List Int) ([] : List Bool) 0 false)
    (F_spec_tick c0Room c0Keys c0Used c0Hand key1 fun tick17Room tick17Keys tick17Used tick17Hand tick17r1 =>
      k tick17Room tick17Keys tick17Used tick17Hand tick17r1))
def S_spec_UseClock (c0Room : Int) (c0Keys : List Int) (c0Used : List Bool) (c0Hand : Int) (key1 : Int) (k : Int → List Int → List Bool → Int → Bool → Prop) : Prop := G_spec_UseClock c0Room c0Keys c0Used c0Hand key1 k
def F_spec_UseClock (room : Int) (keys : List Int) (used : List Bool) (hand key : Int) (k : Int → List Int → List Bool → Int → Bool → Prop) : Prop :=
  ((VClock room keys used hand ∧ 0 ≤ key ∧ key ≤ 31) → k room (tickM room keys used hand key).1 (tickM room keys used hand key).2.1 (tickM room keys used hand key).2.2.1 (tickM room keys used hand key).2.2.2) ∧
  (¬ (VClock room keys used hand ∧ 0 ≤ key ∧ key ≤ 31) → k 0 [] [] 0 false)
theorem F_spec_UseClock_S {room : Int} {keys : List Int} {used : List Bool} {hand key : Int} {k : Int → List Int → List Bool → Int → Bool → Prop} (h : F_spec_UseClock room keys used hand key k) : S_spec_UseClock room keys used hand key k := by
  obtain ⟨hyes, hno⟩ := h
  intro b hb
  rw [br_not, br_iff]
  refine ⟨fun e => br_not.2 (br_dec.2 ⟨fun hkey => ⟨hb.1 e, hyes ⟨hb.1 e, hkey⟩⟩, fun hkey => hno fun w => hkey w.2⟩), fun e => hno fun w => by rw [hb.2 w.1] at e; cases e⟩
-- impl.validRoom
def G_impl_validRoom (room0 : Int) (k : Bool → Prop) : Prop :=
  br (decide (1 ≤ room0))
  (k (decide (room0 ≤ 8)))
  (k false)
def S_impl_validRoom (room0 : Int) (k : Bool → Prop) : Prop := G_impl_validRoom room0 k
def F_impl_validRoom (n : Int) (k : Bool → Prop) : Prop := k (decide (1 ≤ n ∧ n ≤ 8))
theorem F_impl_validRoom_S {n : Int} {k : Bool → Prop} (h : F_impl_validRoom n k) : S_impl_validRoom n k := by
  unfold F_impl_validRoom at h
  simp only [S_impl_validRoom, G_impl_validRoom, br_dec]
  refine ⟨fun h1 => ?_, fun h1 => ?_⟩
  · simpa [h1] using h
  · simpa [h1] using h
-- impl.validKey
def G_impl_validKey (key0 : Int) (k : Bool → Prop) : Prop :=
  br (decide (0 ≤ key0))
  (k (decide (key0 ≤ 31)))
  (k false)
def S_impl_validKey (key0 : Int) (k : Bool → Prop) : Prop := G_impl_validKey key0 k
def F_impl_validKey (n : Int) (k : Bool → Prop) : Prop := k (decide (0 ≤ n ∧ n ≤ 31))
theorem F_impl_validKey_S {n : Int} {k : Bool → Prop} (h : F_impl_validKey n k) : S_impl_validKey n k := by
  unfold F_impl_validKey at h
  simp only [S_impl_validKey, G_impl_validKey, br_dec]
  refine ⟨fun h1 => ?_, fun h1 => ?_⟩
  · simpa [h1] using h
  · simpa [h1] using h
-- slices.Index[[]int,int]
def T0_slices_Index_sint_int (s0 : List Int) (v1 : Int) (xt7 : Int) (xt8 : Int) (k : Int → Prop) (B0 : Int → Prop) : Prop :=
  br (decide (xt8 < xt7))
  ((0 ≤ xt8 ∧ xt8 < (s0.length : Int)) ∧
    br (v1 == (List.getD s0 (Int.toNat xt8) (0 : Int)))
    (k xt8)
    (InR (xt8 + 1) ∧
      B0 (xt8 + 1)))
  (k (-1))
def L0_slices_Index_sint_int (s0 : List Int) (v1 : Int) (xt7 : Int) (k : Int → Prop) : Nat → Int → Prop
  | 0, _ => False
  | n + 1, xt8 => T0_slices_Index_sint_int s0 v1 xt7 xt8 k (L0_slices_Index_sint_int s0 v1 xt7 k n)
def G_slices_Index_sint_int (s0 : List Int) (v1 : Int) (I0 : List Int → Int → Int → Int → Prop) : Prop :=
  I0 s0 v1 (s0.length : Int) 0
def S_slices_Index_sint_int (s0 : List Int) (v1 : Int) (k : Int → Prop) : Prop := G_slices_Index_sint_int s0 v1 (fun s0 v1 xt7 xt8 => ∃ j, L0_slices_Index_sint_int s0 v1 xt7 k j xt8)
def F_slices_Index_sint_int (l : List Int) (n : Int) (k : Int → Prop) : Prop := l.length ≤ 1000000000 ∧ k (plc l n)
theorem F_slices_Index_sint_int_S {l : List Int} {n : Int} {k : Int → Prop} (h : F_slices_Index_sint_int l n k) : S_slices_Index_sint_int l n k := by
  obtain ⟨hl, hk⟩ := h
  have key : ∀ (r : List Int) (i : Nat), l.drop i = r → plcF r n i = plc l n → L0_slices_Index_sint_int l n (l.length : Int) k (r.length + 1) (i : Int) := by
    intro r
    induction r with
    | nil =>
      intro i hd he
      have := drop_nil' hd
      rw [L0_slices_Index_sint_int, T0_slices_Index_sint_int]
      simp only [br_dec]
      exact ⟨fun h => by omega, fun _ => by rw [show (-1 : Int) = plc l n from he]; exact hk⟩
    | cons x r ih =>
      intro i hd he
      obtain ⟨h1, h2, _, h3, _⟩ := drop_cons' hd
      rw [List.length_cons, L0_slices_Index_sint_int, T0_slices_Index_sint_int]
      simp only [br_dec, br_beq, Int.toNat_natCast, h2]
      refine ⟨fun _ => ⟨⟨by omega, by omega⟩, fun hx => ?_, fun hx => ⟨inR (by omega) (by omega), ?_⟩⟩, fun h => by omega⟩
      · simp only [plcF, if_pos hx.symm] at he; rw [he]; exact hk
      · simp only [plcF, if_neg (Ne.symm hx)] at he; exact ih (i + 1) h3 he
  exact ⟨_, key l 0 rfl rfl⟩
-- slices.Contains[[]int,int]
def G_slices_Contains_sint_int (s0 : List Int) (v1 : Int) (k : Bool → Prop) : Prop :=
  F_slices_Index_sint_int s0 v1 fun index7 =>
  k (decide (index7 ≥ 0))
def S_slices_Contains_sint_int (s0 : List Int) (v1 : Int) (k : Bool → Prop) : Prop := G_slices_Contains_sint_int s0 v1 k
def F_slices_Contains_sint_int (l : List Int) (n : Int) (k : Bool → Prop) : Prop := l.length ≤ 1000000000 ∧ k (decide (n ∈ l))
theorem F_slices_Contains_sint_int_S {l : List Int} {n : Int} {k : Bool → Prop} (h : F_slices_Contains_sint_int l n k) : S_slices_Contains_sint_int l n k := by
  refine ⟨h.1, ?_⟩
  have : decide (plc l n ≥ 0) = decide (n ∈ l) := decide_eq_decide.2 plc_ge
  show k (decide (plc l n ≥ 0))
  rw [this]; exact h.2
-- impl.differentKeys
def T0_impl_differentKeys (list0 : List Int) (xt6 : Int) (xt7 : Int) (k : Bool → Prop) (B0 : Int → Prop) : Prop :=
  br (decide (xt7 < xt6))
  ((0 ≤ xt7 ∧ xt7 < (list0.length : Int)) ∧
    F_impl_validKey (List.getD list0 (Int.toNat xt7) (0 : Int)) fun validKey13 =>
    br (!validKey13)
    (k false)
    ((0 ≤ xt7 ∧ xt7 ≤ (list0.length : Int)) ∧
      F_slices_Contains_sint_int (List.take (Int.toNat xt7) list0) (List.getD list0 (Int.toNat xt7) (0 : Int)) fun contains20 =>
      br contains20
      (k false)
      (InR (xt7 + 1) ∧
        B0 (xt7 + 1))))
  (k true)
def L0_impl_differentKeys (list0 : List Int) (xt6 : Int) (k : Bool → Prop) : Nat → Int → Prop
  | 0, _ => False
  | n + 1, xt7 => T0_impl_differentKeys list0 xt6 xt7 k (L0_impl_differentKeys list0 xt6 k n)
def G_impl_differentKeys (list0 : List Int) (I0 : List Int → Int → Int → Prop) : Prop :=
  I0 list0 (list0.length : Int) 0
def S_impl_differentKeys (list0 : List Int) (k : Bool → Prop) : Prop := G_impl_differentKeys list0 (fun list0 xt6 xt7 => ∃ j, L0_impl_differentKeys list0 xt6 k j xt7)
def F_impl_differentKeys (l : List Int) (k : Bool → Prop) : Prop := l.length ≤ 1000000000 ∧ ∀ b : Bool, (b = true ↔ (∀ x ∈ l, 0 ≤ x ∧ x ≤ 31) ∧ l.Nodup) → k b
theorem F_impl_differentKeys_S {l : List Int} {k : Bool → Prop} (h : F_impl_differentKeys l k) : S_impl_differentKeys l k := by
  obtain ⟨hl, h⟩ := h
  have hno : ¬ ((∀ x ∈ l, 0 ≤ x ∧ x ≤ 31) ∧ l.Nodup) → k false := fun hv => h false (by simp only [Bool.false_eq_true, false_iff]; exact hv)
  have key : ∀ (r : List Int) (i : Nat), l.drop i = r → (∀ x ∈ l.take i, 0 ≤ x ∧ x ≤ 31) → (l.take i).Nodup → L0_impl_differentKeys l (l.length : Int) k (r.length + 1) (i : Int) := by
    intro r
    induction r with
    | nil =>
      intro i hd he hn
      have := drop_nil' hd
      rw [List.take_of_length_le this] at he hn
      rw [L0_impl_differentKeys, T0_impl_differentKeys]
      simp only [br_dec]
      exact ⟨fun h => by omega, fun _ => h true (by simp only [true_iff]; exact ⟨he, hn⟩)⟩
    | cons x r ih =>
      intro i hd he hn
      obtain ⟨h1, h2, h5, h3, h4⟩ := drop_cons' hd
      rw [List.length_cons, L0_impl_differentKeys, T0_impl_differentKeys]
      simp only [br_dec, F_impl_validKey, F_slices_Contains_sint_int, Int.toNat_natCast, h2, br_not]
      have hxl : x ∈ l := List.mem_of_getElem? h5
      refine ⟨fun _ => ⟨⟨by omega, by omega⟩, fun hx => ⟨⟨by omega, by omega⟩, by simp; omega, fun hc => ?_, fun hc => ⟨inR (by omega) (by omega), ?_⟩⟩, fun hx => hno fun v => hx (v.1 x hxl)⟩, fun h => by omega⟩
      · refine hno fun v => ?_
        have hn2 := v.2
        rw [← List.take_append_drop i l, hd] at hn2
        exact (List.nodup_append.1 hn2).2.2 x hc x (by simp) rfl
      · refine ih (i + 1) h3 ?_ ?_
        · rw [h4]; intro y hy
          rcases List.mem_append.1 hy with hy | hy
          · exact he y hy
          · simp at hy; subst hy; exact hx
        · rw [h4, List.nodup_append]
          refine ⟨hn, by simp, fun a ha b hb e => ?_⟩
          simp at hb; subst hb; subst e; exact hc ha
  exact ⟨_, key l 0 rfl (by simp) (by simp)⟩
-- impl.ValidKeys
def G_impl_ValidKeys (list0 : List Int) (room1 : Int) (k : Bool → Prop) : Prop :=
  F_impl_validRoom room1 fun validRoom6 =>
  br validRoom6
  (br (decide ((list0.length : Int) ≤ room1))
    (F_impl_differentKeys list0 fun differentKeys15 =>
      k differentKeys15)
    (k false))
  (k false)
def S_impl_ValidKeys (list0 : List Int) (room1 : Int) (k : Bool → Prop) : Prop := G_impl_ValidKeys list0 room1 k
def F_impl_ValidKeys (l : List Int) (room : Int) (k : Bool → Prop) : Prop := ∀ b : Bool, (b = true ↔ VKeys l room) → k b
theorem F_impl_ValidKeys_S {l : List Int} {room : Int} {k : Bool → Prop} (h : F_impl_ValidKeys l room k) : S_impl_ValidKeys l room k := by
  have hno : ¬ VKeys l room → k false := fun hv => h false (by simp [hv])
  refine br_dec.2 ⟨fun h1 => br_dec.2 ⟨fun h3 => ⟨by omega, fun b hb => h b ?_⟩, fun h3 => hno fun v => by have := v.2.2.1; omega⟩, fun h1 => hno fun v => h1 ⟨v.1, v.2.1⟩⟩
  rw [hb]
  exact ⟨fun g => ⟨h1.1, h1.2, h3, g.1, g.2⟩, fun v => v.2.2.2⟩
-- impl.ValidClock
def G_impl_ValidClock (c0Room : Int) (c0Keys : List Int) (c0Used : List Bool) (c0Hand : Int) (k : Bool → Prop) : Prop :=
  F_impl_ValidKeys c0Keys c0Room fun validKeys7 =>
  br (!validKeys7)
  (k false)
  (br ((c0Used.length : Int) != (c0Keys.length : Int))
    (k false)
    (br (decide ((c0Keys.length : Int) < c0Room))
      (k (c0Hand == 0))
      (br (decide (0 ≤ c0Hand))
        (k (decide (c0Hand < (c0Keys.length : Int))))
        (k false))))
def S_impl_ValidClock (c0Room : Int) (c0Keys : List Int) (c0Used : List Bool) (c0Hand : Int) (k : Bool → Prop) : Prop := G_impl_ValidClock c0Room c0Keys c0Used c0Hand k
def F_impl_ValidClock (room : Int) (keys : List Int) (used : List Bool) (hand : Int) (k : Bool → Prop) : Prop := ∀ b : Bool, (b = true ↔ VClock room keys used hand) → k b
theorem F_impl_ValidClock_S {room : Int} {keys : List Int} {used : List Bool} {hand : Int} {k : Bool → Prop} (h : F_impl_ValidClock room keys used hand k) : S_impl_ValidClock room keys used hand k := by
  have hno : ¬ VClock room keys used hand → k false := fun hv => h false (by simp [hv])
  simp only [S_impl_ValidClock, G_impl_ValidClock, F_impl_ValidKeys]
  intro b hb
  rw [br_not, br_iff]
  refine ⟨fun e => ?_, fun e => hno fun v => by rw [hb.2 v.1] at e; cases e⟩
  have hv := hb.1 e
  refine br_bne.2 ⟨fun h2 => hno fun v => h2 (by rw [v.2.1]), fun h2 => br_dec.2 ⟨fun h3 => h _ ?_, fun h3 => br_dec.2 ⟨fun h4 => h _ ?_, fun h4 => hno fun v => h4 ?_⟩⟩⟩
  · simp only [beq_iff_eq]
    exact ⟨fun e => ⟨hv, by omega, fun _ => e, fun h => by omega⟩, fun v => v.2.2.1 h3⟩
  · simp only [decide_eq_true_eq]
    have := hv.2.2.1
    exact ⟨fun e => ⟨hv, by omega, fun h => absurd h h3, fun _ => ⟨h4, e⟩⟩, fun v => (v.2.2.2 (by omega)).2⟩
  · have := hv.2.2.1
    exact (v.2.2.2 (by omega)).1
-- impl.nextPlace
def G_impl_nextPlace (c0Room : Int) (c0Keys : List Int) (c0Used : List Bool) (c0Hand : Int) (k : Int → Prop) : Prop :=
  InR (c0Hand + 1) ∧
  ((c0Keys.length : Int) ≠ 0) ∧
  k (Int.tmod (c0Hand + 1) (c0Keys.length : Int))
def S_impl_nextPlace (c0Room : Int) (c0Keys : List Int) (c0Used : List Bool) (c0Hand : Int) (k : Int → Prop) : Prop := G_impl_nextPlace c0Room c0Keys c0Used c0Hand k
abbrev F_impl_nextPlace (c0Room : Int) (c0Keys : List Int) (c0Used : List Bool) (c0Hand : Int) (k : Int → Prop) : Prop := S_impl_nextPlace c0Room c0Keys c0Used c0Hand k
theorem F_impl_nextPlace_S {c0Room : Int} {c0Keys : List Int} {c0Used : List Bool} {c0Hand : Int} {k : Int → Prop} (h : F_impl_nextPlace c0Room c0Keys c0Used c0Hand k) : S_impl_nextPlace c0Room c0Keys c0Used c0Hand k := h
-- impl.UseClock
def T0_impl_UseClock (c0Keys : List Int) (c0Room : Int) (key1 : Int) (xb6c3 : Int) (xy26 : List Bool) (k : Int → List Int → List Bool → Int → Bool → Prop) (B0 : Int → List Bool → Prop) : Prop :=
  (0 ≤ xb6c3 ∧ xb6c3 < (xy26.length : Int)) ∧
  br (List.getD xy26 (Int.toNat xb6c3) false)
  ((0 ≤ xb6c3 ∧ xb6c3 < (xy26.length : Int)) ∧
    F_impl_nextPlace c0Room c0Keys (List.set xy26 (Int.toNat xb6c3) false) xb6c3 fun nextPlace71 =>
    B0 nextPlace71 (List.set xy26 (Int.toNat xb6c3) false))
  ((0 ≤ xb6c3 ∧ xb6c3 < (c0Keys.length : Int)) ∧
    F_impl_nextPlace c0Room (List.set c0Keys (Int.toNat xb6c3) key1) xy26 xb6c3 fun nextPlace80 =>
    k c0Room (List.set c0Keys (Int.toNat xb6c3) key1) xy26 nextPlace80 false)
def L0_impl_UseClock (c0Keys : List Int) (c0Room : Int) (key1 : Int) (k : Int → List Int → List Bool → Int → Bool → Prop) : Nat → Int → List Bool → Prop
  | 0, _, _ => False
  | n + 1, xb6c3, xy26 => T0_impl_UseClock c0Keys c0Room key1 xb6c3 xy26 k (L0_impl_UseClock c0Keys c0Room key1 k n)
def G_impl_UseClock_j0 (c0Hand : Int) (c0Keys : List Int) (c0Room : Int) (c0Used : List Bool) (key1 : Int) (k : Int → List Int → List Bool → Int → Bool → Prop) (I0 : List Int → Int → Int → Int → List Bool → Prop) : Prop :=
  (F_slices_Index_sint_int c0Keys key1 fun index33 =>
    br (decide (index33 ≥ 0))
    ((0 ≤ index33 ∧ index33 < (c0Used.length : Int)) ∧
      k c0Room c0Keys (List.set c0Used (Int.toNat index33) true) c0Hand true)
    (br (decide ((c0Keys.length : Int) < c0Room))
      ((c0Keys.length + 1 ≤ 1000000000) ∧
        (c0Used.length + 1 ≤ 1000000000) ∧
        k c0Room (c0Keys ++ ([key1] : List Int)) (c0Used ++ ([false] : List Bool)) c0Hand false)
      (I0 c0Keys c0Room key1 c0Hand c0Used))) ∧
  (True)
def G_impl_UseClock_j1 (c0Hand : Int) (c0Keys : List Int) (c0Room : Int) (c0Used : List Bool) (key1 : Int) (k : Int → List Int → List Bool → Int → Bool → Prop) (I0 : List Int → Int → Int → Int → List Bool → Prop) : Prop :=
  ((0 + c0Used.length ≤ 1000000000) ∧
    G_impl_UseClock_j0 c0Hand c0Keys c0Room c0Used key1 k I0) ∧
  (True)
def G_impl_UseClock_j2 (c0Hand : Int) (c0Keys : List Int) (c0Room : Int) (c0Used : List Bool) (key1 : Int) (k : Int → List Int → List Bool → Int → Bool → Prop) (I0 : List Int → Int → Int → Int → List Bool → Prop) : Prop :=
  (G_impl_UseClock_j1 c0Hand c0Keys c0Room c0Used key1 k I0) ∧
  (True)
def G_impl_UseClock_j3 (c0Hand : Int) (c0Keys : List Int) (c0Room : Int) (c0Used : List Bool) (key1 : Int) (k : Int → List Int → List Bool → Int → Bool → Prop) (I0 : List Int → Int → Int → Int → List Bool → Prop) : Prop :=
  ((0 + c0Used.length ≤ 1000000000) ∧
    (G_impl_UseClock_j0 c0Hand c0Keys c0Room c0Used key1 k I0) ∧
    (True)) ∧
  (G_impl_UseClock_j2 c0Hand c0Keys c0Room c0Used key1 k I0)
def G_impl_UseClock_j4 (c0Hand : Int) (c0Keys : List Int) (c0Room : Int) (c0Used : List Bool) (key1 : Int) (k : Int → List Int → List Bool → Int → Bool → Prop) (I0 : List Int → Int → Int → Int → List Bool → Prop) : Prop :=
  (((0 + c0Keys.length ≤ 1000000000) ∧
      G_impl_UseClock_j1 c0Hand c0Keys c0Room c0Used key1 k I0) ∧
    (True)) ∧
  (True)
def G_impl_UseClock_j5 (c0Hand : Int) (c0Keys : List Int) (c0Room : Int) (c0Used : List Bool) (key1 : Int) (k : Int → List Int → List Bool → Int → Bool → Prop) (I0 : List Int → Int → Int → Int → List Bool → Prop) : Prop :=
  ((0 + c0Keys.length ≤ 1000000000) ∧
    G_impl_UseClock_j3 c0Hand c0Keys c0Room c0Used key1 k I0) ∧
  (G_impl_UseClock_j4 c0Hand c0Keys c0Room c0Used key1 k I0)
def G_impl_UseClock_j6 (c0Hand : Int) (c0Keys : List Int) (c0Room : Int) (c0Used : List Bool) (key1 : Int) (k : Int → List Int → List Bool → Int → Bool → Prop) (I0 : List Int → Int → Int → Int → List Bool → Prop) : Prop :=
  ((0 + c0Keys.length ≤ 1000000000) ∧
    G_impl_UseClock_j2 c0Hand c0Keys c0Room c0Used key1 k I0) ∧
  (G_impl_UseClock_j4 c0Hand c0Keys c0Room c0Used key1 k I0)
def G_impl_UseClock_j7 (c0Hand : Int) (c0Keys : List Int) (c0Room : Int) (c0Used : List Bool) (key1 : Int) (k : Int → List Int → List Bool → Int → Bool → Prop) (I0 : List Int → Int → Int → Int → List Bool → Prop) : Prop :=
  (G_impl_UseClock_j4 c0Hand c0Keys c0Room c0Used key1 k I0) ∧
  (True)
def G_impl_UseClock (c0Room : Int) (c0Keys : List Int) (c0Used : List Bool) (c0Hand : Int) (key1 : Int) (k : Int → List Int → List Bool → Int → Bool → Prop) (I0 : List Int → Int → Int → Int → List Bool → Prop) : Prop :=
  F_impl_ValidClock c0Room c0Keys c0Used c0Hand fun validClock9 =>
  br (!validClock9)
  (k 0 ([] : List Int) ([] : List Bool) 0 false)
  (F_impl_validKey key1 fun validKey13 =>
    br (!validKey13)
    (k 0 ([] : List Int) ([] : List Bool) 0 false)
    ((((0 + c0Keys.length ≤ 1000000000) ∧
          (G_impl_UseClock_j3 c0Hand c0Keys c0Room c0Used key1 k I0) ∧
          ((G_impl_UseClock_j2 c0Hand c0Keys c0Room c0Used key1 k I0) ∧
            (True))) ∧
        ((G_impl_UseClock_j5 c0Hand c0Keys c0Room c0Used key1 k I0) ∧
          ((G_impl_UseClock_j6 c0Hand c0Keys c0Room c0Used key1 k I0) ∧
            (True)))) ∧
      (((G_impl_UseClock_j5 c0Hand c0Keys c0Room c0Used key1 k I0) ∧
          (G_impl_UseClock_j7 c0Hand c0Keys c0Room c0Used key1 k I0)) ∧
        (((G_impl_UseClock_j6 c0Hand c0Keys c0Room c0Used key1 k I0) ∧
            (G_impl_UseClock_j7 c0Hand c0Keys c0Room c0Used key1 k I0)) ∧
          (True)))))
def H_impl_UseClock (c0Room : Int) (c0Keys : List Int) (c0Used : List Bool) (c0Hand : Int) (key1 : Int) (k : Int → List Int → List Bool → Int → Bool → Prop) (I0 : List Int → Int → Int → Int → List Bool → Prop) : Prop :=
  F_impl_ValidClock c0Room c0Keys c0Used c0Hand fun validClock9 =>
  br (!validClock9)
  (k 0 ([] : List Int) ([] : List Bool) 0 false)
  (F_impl_validKey key1 fun validKey13 =>
    br (!validKey13)
    (k 0 ([] : List Int) ([] : List Bool) 0 false)
    ((0 + c0Keys.length ≤ 1000000000) ∧
      (0 + c0Used.length ≤ 1000000000) ∧
      F_slices_Index_sint_int c0Keys key1 fun index33 =>
      br (decide (index33 ≥ 0))
      ((0 ≤ index33 ∧ index33 < (c0Used.length : Int)) ∧
        k c0Room c0Keys (List.set c0Used (Int.toNat index33) true) c0Hand true)
      (br (decide ((c0Keys.length : Int) < c0Room))
        ((c0Keys.length + 1 ≤ 1000000000) ∧
          (c0Used.length + 1 ≤ 1000000000) ∧
          k c0Room (c0Keys ++ ([key1] : List Int)) (c0Used ++ ([false] : List Bool)) c0Hand false)
        (I0 c0Keys c0Room key1 c0Hand c0Used))))
theorem G_impl_UseClock_eq (c0Room : Int) (c0Keys : List Int) (c0Used : List Bool) (c0Hand : Int) (key1 : Int) (k : Int → List Int → List Bool → Int → Bool → Prop) (I0 : List Int → Int → Int → Int → List Bool → Prop) : G_impl_UseClock c0Room c0Keys c0Used c0Hand key1 k I0 = H_impl_UseClock c0Room c0Keys c0Used c0Hand key1 k I0 := by
  simp only [G_impl_UseClock, H_impl_UseClock, G_impl_UseClock_j0, G_impl_UseClock_j1, G_impl_UseClock_j2, G_impl_UseClock_j3, G_impl_UseClock_j4, G_impl_UseClock_j5, G_impl_UseClock_j6, G_impl_UseClock_j7, and_self, and_true]
def S_impl_UseClock (c0Room : Int) (c0Keys : List Int) (c0Used : List Bool) (c0Hand : Int) (key1 : Int) (k : Int → List Int → List Bool → Int → Bool → Prop) : Prop := H_impl_UseClock c0Room c0Keys c0Used c0Hand key1 k (fun c0Keys c0Room key1 xb6c3 xy26 => ∃ j, L0_impl_UseClock c0Keys c0Room key1 k j xb6c3 xy26)
def F_impl_UseClock (room : Int) (keys : List Int) (used : List Bool) (hand key : Int) (k : Int → List Int → List Bool → Int → Bool → Prop) : Prop :=
  ((VClock room keys used hand ∧ 0 ≤ key ∧ key ≤ 31) → k room (tickM room keys used hand key).1 (tickM room keys used hand key).2.1 (tickM room keys used hand key).2.2.1 (tickM room keys used hand key).2.2.2) ∧
  (¬ (VClock room keys used hand ∧ 0 ≤ key ∧ key ≤ 31) → k 0 [] [] 0 false)
theorem F_impl_UseClock_S {room : Int} {keys : List Int} {used : List Bool} {hand key : Int} {k : Int → List Int → List Bool → Int → Bool → Prop} (h : F_impl_UseClock room keys used hand key k) : S_impl_UseClock room keys used hand key k := by
  obtain ⟨hyes, hno⟩ := h
  intro b hb
  rw [br_not, br_iff]
  refine ⟨fun e => br_not.2 (br_dec.2 ⟨fun hkey => ?_, fun hkey => hno fun w => hkey w.2⟩), fun e => hno fun w => by rw [hb.2 w.1] at e; cases e⟩
  have v := hb.1 e
  have hk := hyes ⟨v, hkey⟩
  obtain ⟨⟨v1, v2, v3, v4, v5⟩, v6, v7, v8⟩ := v
  have key1 : (keys.length : Int) = room → ∀ (f : Nat) (u : List Bool) (h : Nat), u.length = keys.length → h < u.length → u.count true < f →
      k room (keys.set (sweep f u h).2 key) (sweep f u h).1 (((sweep f u h).2 + 1) % keys.length : Nat) false → L0_impl_UseClock keys room key k f (h : Int) u := by
    intro hr f
    induction f with
    | zero => intro u h _ _ h3; omega
    | succ f ih =>
      intro u h h1 h2 h3 h4
      unfold sweep at h4
      rw [L0_impl_UseClock, T0_impl_UseClock]
      simp only [br_iff, Int.toNat_natCast]
      refine ⟨⟨by omega, by omega⟩, fun hu => ⟨⟨by omega, by omega⟩, inR (by omega) (by omega), by omega, ?_⟩, fun hu => ⟨⟨by omega, by omega⟩, inR (by omega) (by omega), by rw [List.length_set]; omega, ?_⟩⟩
      · rw [if_pos hu] at h4
        rw [tmod_next, ← h1]
        have := count_clear hu
        refine ih _ _ (by simp [h1]) (by rw [List.length_set]; exact Nat.mod_lt _ (by omega)) (by omega) h4
      · rw [if_neg (by rw [hu]; simp)] at h4
        rw [List.length_set, tmod_next]
        exact h4
  refine ⟨by omega, by omega, by omega, br_dec.2 ⟨fun hp => ?_, fun hp => br_dec.2 ⟨fun hl => ?_, fun hl => ?_⟩⟩⟩
  · have hm := plc_ge.1 hp
    unfold tickM at hk
    rw [if_pos hm] at hk
    obtain ⟨j, j1, _, _, j2⟩ := plc_pos hm
    exact ⟨⟨by omega, by omega⟩, hk⟩
  · have hm : key ∉ keys := fun e => hp (plc_ge.2 e)
    unfold tickM at hk
    rw [if_neg hm, if_pos hl] at hk
    exact ⟨by omega, by omega, hk⟩
  · have hm : key ∉ keys := fun e => hp (plc_ge.2 e)
    unfold tickM at hk
    rw [if_neg hm, if_neg hl] at hk
    obtain ⟨w1, w2⟩ := v8 (by omega)
    refine ⟨used.length + 1, ?_⟩
    have := key1 (by omega) (used.length + 1) used hand.toNat v6 (by omega) (Nat.lt_succ_of_le List.count_le_length) hk
    rwa [Int.toNat_of_nonneg w1] at this
-- laws.eqIntS
def T0_laws_eqIntS (a0 : List Int) (b1 : List Int) (xi5 : Int) (k : Bool → Prop) (B0 : Int → Prop) : Prop :=
  br (decide (xi5 < (a0.length : Int)))
  ((0 ≤ xi5 ∧ xi5 < (a0.length : Int)) ∧
    (0 ≤ xi5 ∧ xi5 < (b1.length : Int)) ∧
    br ((List.getD a0 (Int.toNat xi5) (0 : Int)) != (List.getD b1 (Int.toNat xi5) (0 : Int)))
    (k false)
    (InR (xi5 + 1) ∧
      B0 (xi5 + 1)))
  (k true)
def L0_laws_eqIntS (a0 : List Int) (b1 : List Int) (k : Bool → Prop) : Nat → Int → Prop
  | 0, _ => False
  | n + 1, xi5 => T0_laws_eqIntS a0 b1 xi5 k (L0_laws_eqIntS a0 b1 k n)
def G_laws_eqIntS (a0 : List Int) (b1 : List Int) (k : Bool → Prop) (I0 : List Int → List Int → Int → Prop) : Prop :=
  br ((a0.length : Int) != (b1.length : Int))
  (k false)
  (I0 a0 b1 0)
def S_laws_eqIntS (a0 : List Int) (b1 : List Int) (k : Bool → Prop) : Prop := G_laws_eqIntS a0 b1 k (fun a0 b1 xi5 => ∃ j, L0_laws_eqIntS a0 b1 k j xi5)
def F_laws_eqIntS (a b : List Int) (k : Bool → Prop) : Prop := a.length ≤ 1000000000 ∧ k (decide (a = b))
theorem F_laws_eqIntS_S {a b : List Int} {k : Bool → Prop} (h : F_laws_eqIntS a b k) : S_laws_eqIntS a b k := by
  obtain ⟨hl, hk⟩ := h
  refine br_bne.2 ⟨fun he => by rwa [decide_eq_false (fun e => he (by rw [e]))] at hk, fun he => ?_⟩
  have he : a.length = b.length := by omega
  have key : ∀ (r : List Int) (i : Nat), a.drop i = r → (r = b.drop i ↔ a = b) → L0_laws_eqIntS a b k (r.length + 1) (i : Int) := by
    intro r
    induction r with
    | nil =>
      intro i hd hi
      have := drop_nil' hd
      rw [L0_laws_eqIntS, T0_laws_eqIntS]
      simp only [br_dec]
      exact ⟨fun h => by omega, fun _ => by rwa [decide_eq_true (hi.1 (List.drop_eq_nil_of_le (by omega)).symm)] at hk⟩
    | cons x r ih =>
      intro i hd hi
      obtain ⟨h1, h2, _, h3, _⟩ := drop_cons' hd
      obtain ⟨y, s, hs⟩ : ∃ y s, b.drop i = y :: s := by
        cases e : b.drop i with
        | nil => have := drop_nil' e; omega
        | cons y s => exact ⟨y, s, rfl⟩
      obtain ⟨g1, g2, _, g3, _⟩ := drop_cons' hs
      rw [List.length_cons, L0_laws_eqIntS, T0_laws_eqIntS]
      simp only [br_dec, br_bne, Int.toNat_natCast, h2, g2]
      rw [hs] at hi
      refine ⟨fun _ => ⟨⟨by omega, by omega⟩, ⟨by omega, by omega⟩, ?_⟩, fun h => by omega⟩
      have go : x = y → L0_laws_eqIntS a b k (r.length + 1) ((i : Int) + 1) := fun hx => ih (i + 1) h3 (by rw [g3, ← hi, hx]; simp)
      have no : x ≠ y → k false := fun hx => by rwa [decide_eq_false (fun e => hx (List.cons.inj (hi.2 e)).1)] at hk
      exact ⟨no, fun hx => ⟨inR (by omega) (by omega), go hx⟩⟩
  exact ⟨_, key a 0 rfl (by simp)⟩
-- laws.eqBoolS
def T0_laws_eqBoolS (a0 : List Bool) (b1 : List Bool) (xi5 : Int) (k : Bool → Prop) (B0 : Int → Prop) : Prop :=
  br (decide (xi5 < (a0.length : Int)))
  ((0 ≤ xi5 ∧ xi5 < (a0.length : Int)) ∧
    (0 ≤ xi5 ∧ xi5 < (b1.length : Int)) ∧
    br (!((List.getD a0 (Int.toNat xi5) false) == (List.getD b1 (Int.toNat xi5) false)))
    (k false)
    (InR (xi5 + 1) ∧
      B0 (xi5 + 1)))
  (k true)
def L0_laws_eqBoolS (a0 : List Bool) (b1 : List Bool) (k : Bool → Prop) : Nat → Int → Prop
  | 0, _ => False
  | n + 1, xi5 => T0_laws_eqBoolS a0 b1 xi5 k (L0_laws_eqBoolS a0 b1 k n)
def G_laws_eqBoolS (a0 : List Bool) (b1 : List Bool) (k : Bool → Prop) (I0 : List Bool → List Bool → Int → Prop) : Prop :=
  br ((a0.length : Int) != (b1.length : Int))
  (k false)
  (I0 a0 b1 0)
def S_laws_eqBoolS (a0 : List Bool) (b1 : List Bool) (k : Bool → Prop) : Prop := G_laws_eqBoolS a0 b1 k (fun a0 b1 xi5 => ∃ j, L0_laws_eqBoolS a0 b1 k j xi5)
def F_laws_eqBoolS (a b : List Bool) (k : Bool → Prop) : Prop := a.length ≤ 1000000000 ∧ k (decide (a = b))
theorem F_laws_eqBoolS_S {a b : List Bool} {k : Bool → Prop} (h : F_laws_eqBoolS a b k) : S_laws_eqBoolS a b k := by
  obtain ⟨hl, hk⟩ := h
  refine br_bne.2 ⟨fun he => by rwa [decide_eq_false (fun e => he (by rw [e]))] at hk, fun he => ?_⟩
  have he : a.length = b.length := by omega
  have key : ∀ (r : List Bool) (i : Nat), a.drop i = r → (r = b.drop i ↔ a = b) → L0_laws_eqBoolS a b k (r.length + 1) (i : Int) := by
    intro r
    induction r with
    | nil =>
      intro i hd hi
      have := drop_nil' hd
      rw [L0_laws_eqBoolS, T0_laws_eqBoolS]
      simp only [br_dec]
      exact ⟨fun h => by omega, fun _ => by rwa [decide_eq_true (hi.1 (List.drop_eq_nil_of_le (by omega)).symm)] at hk⟩
    | cons x r ih =>
      intro i hd hi
      obtain ⟨h1, h2, _, h3, _⟩ := drop_cons' hd
      obtain ⟨y, s, hs⟩ : ∃ y s, b.drop i = y :: s := by
        cases e : b.drop i with
        | nil => have := drop_nil' e; omega
        | cons y s => exact ⟨y, s, rfl⟩
      obtain ⟨g1, g2, _, g3, _⟩ := drop_cons' hs
      rw [List.length_cons, L0_laws_eqBoolS, T0_laws_eqBoolS]
      simp only [br_dec, br_not, br_bb, Int.toNat_natCast, h2, g2]
      rw [hs] at hi
      refine ⟨fun _ => ⟨⟨by omega, by omega⟩, ⟨by omega, by omega⟩, ?_⟩, fun h => by omega⟩
      have go : x = y → L0_laws_eqBoolS a b k (r.length + 1) ((i : Int) + 1) := fun hx => ih (i + 1) h3 (by rw [g3, ← hi, hx]; simp)
      have no : x ≠ y → k false := fun hx => by rwa [decide_eq_false (fun e => hx (List.cons.inj (hi.2 e)).1)] at hk
      exact ⟨fun hx => ⟨inR (by omega) (by omega), go hx⟩, no⟩
  exact ⟨_, key a 0 rfl (by simp)⟩
-- laws.eqClock
def G_laws_eqClock (a0Room : Int) (a0Keys : List Int) (a0Used : List Bool) (a0Hand : Int) (b1Room : Int) (b1Keys : List Int) (b1Used : List Bool) (b1Hand : Int) (k : Bool → Prop) : Prop :=
  br (a0Room != b1Room)
  (k false)
  (F_laws_eqIntS a0Keys b1Keys fun eqIntS14 =>
    br (!eqIntS14)
    (k false)
    (F_laws_eqBoolS a0Used b1Used fun eqBoolS20 =>
      br (!eqBoolS20)
      (k false)
      (br (a0Hand != b1Hand)
        (k false)
        (k true))))
def S_laws_eqClock (a0Room : Int) (a0Keys : List Int) (a0Used : List Bool) (a0Hand : Int) (b1Room : Int) (b1Keys : List Int) (b1Used : List Bool) (b1Hand : Int) (k : Bool → Prop) : Prop := G_laws_eqClock a0Room a0Keys a0Used a0Hand b1Room b1Keys b1Used b1Hand k
def F_laws_eqClock (room : Int) (keys : List Int) (used : List Bool) (hand : Int) (room' : Int) (keys' : List Int) (used' : List Bool) (hand' : Int) (k : Bool → Prop) : Prop := (keys.length ≤ 1000000000 ∧ used.length ≤ 1000000000) ∧ ∀ b : Bool, (b = true ↔ room = room' ∧ keys = keys' ∧ used = used' ∧ hand = hand') → k b
theorem F_laws_eqClock_S {room : Int} {keys : List Int} {used : List Bool} {hand : Int} {room' : Int} {keys' : List Int} {used' : List Bool} {hand' : Int} {k : Bool → Prop} (h : F_laws_eqClock room keys used hand room' keys' used' hand' k) : S_laws_eqClock room keys used hand room' keys' used' hand' k := by
  obtain ⟨⟨lKeys, lUsed⟩, hk⟩ := h
  exact br_bne.2 ⟨fun eRoom => hk false (by simp [eRoom]), fun eRoom => ⟨lKeys, br_not.2 (br_dec.2 ⟨fun eKeys => ⟨lUsed, br_not.2 (br_dec.2 ⟨fun eUsed => br_bne.2 ⟨fun eHand => hk false (by simp [eHand]), fun eHand => hk true (by simp [eRoom, eKeys, eUsed, eHand])⟩, fun eUsed => hk false (by simp [eUsed])⟩)⟩, fun eKeys => hk false (by simp [eKeys])⟩)⟩⟩
theorem eqClock_same {room : Int} {keys : List Int} {used : List Bool} {hand : Int} {k : Bool → Prop} (hl : keys.length ≤ 1000000000 ∧ used.length ≤ 1000000000) (h : k true) : F_laws_eqClock room keys used hand room keys used hand k := ⟨hl, all_t ⟨rfl, rfl, rfl, rfl⟩ h⟩
-- laws.markIntS
def T0_laws_markIntS (xk1 : Int) (xi5 : Int) (xy100000 : List Int) (k : Int → List Int → Prop) (B0 : Int → Int → List Int → Prop) : Prop :=
  br (decide (xi5 < (xy100000.length : Int)))
  ((0 ≤ xi5 ∧ xi5 < (xy100000.length : Int)) ∧
    InR (xk1 + 1) ∧
    InR (xi5 + 1) ∧
    B0 (xk1 + 1) (xi5 + 1) (List.set xy100000 (Int.toNat xi5) xk1))
  (k xk1 xy100000)
def L0_laws_markIntS (k : Int → List Int → Prop) : Nat → Int → Int → List Int → Prop
  | 0, _, _, _ => False
  | n + 1, xk1, xi5, xy100000 => T0_laws_markIntS xk1 xi5 xy100000 k (L0_laws_markIntS k n)
def G_laws_markIntS (a0 : List Int) (k1 : Int) (I0 : Int → Int → List Int → Prop) : Prop :=
  I0 k1 0 a0
def S_laws_markIntS (a0 : List Int) (k1 : Int) (k : Int → List Int → Prop) : Prop := G_laws_markIntS a0 k1 (fun xk1 xi5 xy100000 => ∃ j, L0_laws_markIntS k j xk1 xi5 xy100000)
def F_laws_markIntS (a : List Int) (k0 : Int) (k : Int → List Int → Prop) : Prop :=
  (a.length ≤ 1000000000 ∧ 0 ≤ k0 ∧ k0 ≤ 100000000000) ∧ k (k0 + a.length) (seqI k0 a.length)
theorem F_laws_markIntS_S {a : List Int} {k0 : Int} {k : Int → List Int → Prop} (h : F_laws_markIntS a k0 k) : S_laws_markIntS a k0 k := by
  obtain ⟨⟨h1, h2, h3⟩, hk⟩ := h
  have key : ∀ (d i : Nat) (out : List Int), i + d = a.length → out.length = a.length → out.take i = seqI k0 i → L0_laws_markIntS k (d + 1) (k0 + (i : Int)) (i : Int) out := by
    intro d
    induction d with
    | zero =>
      intro i out hi ho he
      rw [L0_laws_markIntS, T0_laws_markIntS]
      refine br_dec.2 ⟨fun h => by omega, fun _ => ?_⟩
      rw [List.take_of_length_le (by omega)] at he
      have : i = a.length := by omega
      rw [he, this]; exact hk
    | succ d ih =>
      intro i out hi ho he
      rw [L0_laws_markIntS, T0_laws_markIntS]
      rw [Int.toNat_natCast]
      refine br_dec.2 ⟨fun _ => ⟨⟨by omega, by omega⟩, inR (by omega) (by omega), inR (by omega) (by omega), ?_⟩, fun h => by omega⟩
      rw [show k0 + (i : Int) + 1 = k0 + ((i + 1 : Nat) : Int) by omega]
      exact ih (i + 1) _ (by omega) (by simpa using ho) (by rw [take_set_succ (by omega), he, seqI_snoc])
  have := key a.length 0 a (by omega) rfl (by simp [seqI])
  rw [show k0 + ((0 : Nat) : Int) = k0 by omega] at this
  exact ⟨_, this⟩
-- laws.markBoolS
def T0_laws_markBoolS (xk1 : Int) (xi5 : Int) (xy100000 : List Bool) (k : Int → List Bool → Prop) (B0 : Int → Int → List Bool → Prop) : Prop :=
  br (decide (xi5 < (xy100000.length : Int)))
  (((3 : Int) ≠ 0) ∧
    (0 ≤ xi5 ∧ xi5 < (xy100000.length : Int)) ∧
    InR (xk1 + 1) ∧
    InR (xi5 + 1) ∧
    B0 (xk1 + 1) (xi5 + 1) (List.set xy100000 (Int.toNat xi5) ((Int.tmod xk1 3) == 0)))
  (k xk1 xy100000)
def L0_laws_markBoolS (k : Int → List Bool → Prop) : Nat → Int → Int → List Bool → Prop
  | 0, _, _, _ => False
  | n + 1, xk1, xi5, xy100000 => T0_laws_markBoolS xk1 xi5 xy100000 k (L0_laws_markBoolS k n)
def G_laws_markBoolS (a0 : List Bool) (k1 : Int) (I0 : Int → Int → List Bool → Prop) : Prop :=
  I0 k1 0 a0
def S_laws_markBoolS (a0 : List Bool) (k1 : Int) (k : Int → List Bool → Prop) : Prop := G_laws_markBoolS a0 k1 (fun xk1 xi5 xy100000 => ∃ j, L0_laws_markBoolS k j xk1 xi5 xy100000)
def F_laws_markBoolS (a : List Bool) (k0 : Int) (k : Int → List Bool → Prop) : Prop :=
  (a.length ≤ 1000000000 ∧ 0 ≤ k0 ∧ k0 ≤ 100000000000) ∧ k (k0 + a.length) (seqB k0 a.length)
theorem F_laws_markBoolS_S {a : List Bool} {k0 : Int} {k : Int → List Bool → Prop} (h : F_laws_markBoolS a k0 k) : S_laws_markBoolS a k0 k := by
  obtain ⟨⟨h1, h2, h3⟩, hk⟩ := h
  have key : ∀ (d i : Nat) (out : List Bool), i + d = a.length → out.length = a.length → out.take i = seqB k0 i → L0_laws_markBoolS k (d + 1) (k0 + (i : Int)) (i : Int) out := by
    intro d
    induction d with
    | zero =>
      intro i out hi ho he
      rw [L0_laws_markBoolS, T0_laws_markBoolS]
      refine br_dec.2 ⟨fun h => by omega, fun _ => ?_⟩
      rw [List.take_of_length_le (by omega)] at he
      have : i = a.length := by omega
      rw [he, this]; exact hk
    | succ d ih =>
      intro i out hi ho he
      rw [L0_laws_markBoolS, T0_laws_markBoolS]
      rw [Int.toNat_natCast]
      refine br_dec.2 ⟨fun _ => ⟨by omega, ⟨by omega, by omega⟩, inR (by omega) (by omega), inR (by omega) (by omega), ?_⟩, fun h => by omega⟩
      rw [show k0 + (i : Int) + 1 = k0 + ((i + 1 : Nat) : Int) by omega]
      exact ih (i + 1) _ (by omega) (by simpa using ho) (by rw [take_set_succ (by omega), he, seqB_snoc])
  have := key a.length 0 a (by omega) rfl (by simp [seqB])
  rw [show k0 + ((0 : Nat) : Int) = k0 by omega] at this
  exact ⟨_, this⟩
-- laws.markClock
def G_laws_markClock (a0Room : Int) (a0Keys : List Int) (a0Used : List Bool) (a0Hand : Int) (k1 : Int) (k : Int → List Int → List Bool → Prop) : Prop :=
  F_laws_markIntS a0Keys k1 fun markIntS8 omarkIntS8 =>
  F_laws_markBoolS a0Used markIntS8 fun markBoolS12 omarkBoolS12 =>
  k markBoolS12 omarkIntS8 omarkBoolS12
def S_laws_markClock (a0Room : Int) (a0Keys : List Int) (a0Used : List Bool) (a0Hand : Int) (k1 : Int) (k : Int → List Int → List Bool → Prop) : Prop := G_laws_markClock a0Room a0Keys a0Used a0Hand k1 k
def F_laws_markClock (room : Int) (keys : List Int) (used : List Bool) (hand : Int) (k0 : Int) (k : Int → List Int → List Bool → Prop) : Prop := (keys.length ≤ 1000000000 ∧ used.length ≤ 1000000000 ∧ 0 ≤ k0 ∧ k0 ≤ 100000000) ∧ k (k0 + (keys.length : Int) + (used.length : Int)) (seqI (k0) keys.length) (seqB (k0 + (keys.length : Int)) used.length)
theorem F_laws_markClock_S {room : Int} {keys : List Int} {used : List Bool} {hand : Int} {k0 : Int} {k : Int → List Int → List Bool → Prop} (h : F_laws_markClock room keys used hand k0 k) : S_laws_markClock room keys used hand k0 k := by
  obtain ⟨⟨lKeys, lUsed, g1, g2⟩, hk⟩ := h
  exact ⟨⟨by omega, by omega, by omega⟩, ⟨⟨by omega, by omega, by omega⟩, hk⟩⟩
-- laws.heldIntS
def T0_laws_heldIntS (a0 : List Int) (xk1 : Int) (xi5 : Int) (k : Int → Prop) (B0 : Int → Int → Prop) : Prop :=
  br (decide (xi5 < (a0.length : Int)))
  ((0 ≤ xi5 ∧ xi5 < (a0.length : Int)) ∧
    br ((List.getD a0 (Int.toNat xi5) (0 : Int)) != xk1)
    (k (-1))
    (InR (xk1 + 1) ∧
      InR (xi5 + 1) ∧
      B0 (xk1 + 1) (xi5 + 1)))
  (k xk1)
def L0_laws_heldIntS (a0 : List Int) (k : Int → Prop) : Nat → Int → Int → Prop
  | 0, _, _ => False
  | n + 1, xk1, xi5 => T0_laws_heldIntS a0 xk1 xi5 k (L0_laws_heldIntS a0 k n)
def G_laws_heldIntS (a0 : List Int) (k1 : Int) (I0 : List Int → Int → Int → Prop) : Prop :=
  I0 a0 k1 0
def S_laws_heldIntS (a0 : List Int) (k1 : Int) (k : Int → Prop) : Prop := G_laws_heldIntS a0 k1 (fun a0 xk1 xi5 => ∃ j, L0_laws_heldIntS a0 k j xk1 xi5)
def F_laws_heldIntS (a : List Int) (k0 : Int) (k : Int → Prop) : Prop :=
  ∃ n : Nat, (n ≤ 1000000000 ∧ 0 ≤ k0 ∧ k0 ≤ 100000000000) ∧ a = seqI k0 n ∧ k (k0 + (n : Int))
theorem F_laws_heldIntS_S {a : List Int} {k0 : Int} {k : Int → Prop} (h : F_laws_heldIntS a k0 k) : S_laws_heldIntS a k0 k := by
  obtain ⟨n, ⟨h1, h2, h3⟩, rfl, hk⟩ := h
  have key : ∀ (d i : Nat), i + d = n → L0_laws_heldIntS (seqI k0 n) k (d + 1) (k0 + (i : Int)) (i : Int) := by
    intro d
    induction d with
    | zero =>
      intro i hi
      rw [L0_laws_heldIntS, T0_laws_heldIntS]
      rw [seqI_len]
      refine br_dec.2 ⟨fun h => by omega, fun _ => ?_⟩
      have : i = n := by omega
      rw [this]; exact hk
    | succ d ih =>
      intro i hi
      have hi2 : i < n := by omega
      rw [L0_laws_heldIntS, T0_laws_heldIntS]
      rw [Int.toNat_natCast, seqI_len]
      refine br_dec.2 ⟨fun _ => ⟨⟨by omega, by omega⟩, br_bne.2 ⟨fun h => absurd (seqI_get hi2) h, fun _ => ⟨inR (by omega) (by omega), inR (by omega) (by omega), ?_⟩⟩⟩, fun h => by omega⟩
      rw [show k0 + (i : Int) + 1 = k0 + ((i + 1 : Nat) : Int) by omega]
      exact ih (i + 1) (by omega)
  have := key n 0 (by omega)
  rw [show k0 + ((0 : Nat) : Int) = k0 by omega] at this
  exact ⟨_, this⟩
-- laws.heldBoolS
def T0_laws_heldBoolS (a0 : List Bool) (xk1 : Int) (xi5 : Int) (k : Int → Prop) (B0 : Int → Int → Prop) : Prop :=
  br (decide (xi5 < (a0.length : Int)))
  ((0 ≤ xi5 ∧ xi5 < (a0.length : Int)) ∧
    ((3 : Int) ≠ 0) ∧
    br (!((List.getD a0 (Int.toNat xi5) false) == ((Int.tmod xk1 3) == 0)))
    (k (-1))
    (InR (xk1 + 1) ∧
      InR (xi5 + 1) ∧
      B0 (xk1 + 1) (xi5 + 1)))
  (k xk1)
def L0_laws_heldBoolS (a0 : List Bool) (k : Int → Prop) : Nat → Int → Int → Prop
  | 0, _, _ => False
  | n + 1, xk1, xi5 => T0_laws_heldBoolS a0 xk1 xi5 k (L0_laws_heldBoolS a0 k n)
def G_laws_heldBoolS (a0 : List Bool) (k1 : Int) (I0 : List Bool → Int → Int → Prop) : Prop :=
  I0 a0 k1 0
def S_laws_heldBoolS (a0 : List Bool) (k1 : Int) (k : Int → Prop) : Prop := G_laws_heldBoolS a0 k1 (fun a0 xk1 xi5 => ∃ j, L0_laws_heldBoolS a0 k j xk1 xi5)
def F_laws_heldBoolS (a : List Bool) (k0 : Int) (k : Int → Prop) : Prop :=
  ∃ n : Nat, (n ≤ 1000000000 ∧ 0 ≤ k0 ∧ k0 ≤ 100000000000) ∧ a = seqB k0 n ∧ k (k0 + (n : Int))
theorem F_laws_heldBoolS_S {a : List Bool} {k0 : Int} {k : Int → Prop} (h : F_laws_heldBoolS a k0 k) : S_laws_heldBoolS a k0 k := by
  obtain ⟨n, ⟨h1, h2, h3⟩, rfl, hk⟩ := h
  have key : ∀ (d i : Nat), i + d = n → L0_laws_heldBoolS (seqB k0 n) k (d + 1) (k0 + (i : Int)) (i : Int) := by
    intro d
    induction d with
    | zero =>
      intro i hi
      rw [L0_laws_heldBoolS, T0_laws_heldBoolS]
      rw [seqB_len]
      refine br_dec.2 ⟨fun h => by omega, fun _ => ?_⟩
      have : i = n := by omega
      rw [this]; exact hk
    | succ d ih =>
      intro i hi
      have hi2 : i < n := by omega
      rw [L0_laws_heldBoolS, T0_laws_heldBoolS]
      rw [Int.toNat_natCast, seqB_len]
      refine br_dec.2 ⟨fun _ => ⟨⟨by omega, by omega⟩, ⟨by omega, br_not.2 (br_bb.2 ⟨fun _ => ⟨inR (by omega) (by omega), inR (by omega) (by omega), ?_⟩, fun h => absurd (seqB_get hi2) h⟩)⟩⟩, fun h => by omega⟩
      rw [show k0 + (i : Int) + 1 = k0 + ((i + 1 : Nat) : Int) by omega]
      exact ih (i + 1) (by omega)
  have := key n 0 (by omega)
  rw [show k0 + ((0 : Nat) : Int) = k0 by omega] at this
  exact ⟨_, this⟩
-- laws.heldClock
def G_laws_heldClock (a0Room : Int) (a0Keys : List Int) (a0Used : List Bool) (a0Hand : Int) (k1 : Int) (k : Int → Prop) : Prop :=
  F_laws_heldIntS a0Keys k1 fun heldIntS8 =>
  br (decide (heldIntS8 < 0))
  (k (-1))
  (F_laws_heldBoolS a0Used heldIntS8 fun heldBoolS14 =>
    br (decide (heldBoolS14 < 0))
    (k (-1))
    (k heldBoolS14))
def S_laws_heldClock (a0Room : Int) (a0Keys : List Int) (a0Used : List Bool) (a0Hand : Int) (k1 : Int) (k : Int → Prop) : Prop := G_laws_heldClock a0Room a0Keys a0Used a0Hand k1 k
def F_laws_heldClock (room : Int) (keys : List Int) (used : List Bool) (hand : Int) (k0 : Int) (k : Int → Prop) : Prop :=
  ∃ nKeys nUsed : Nat, (nKeys ≤ 1000000000 ∧ nUsed ≤ 1000000000 ∧ 0 ≤ k0 ∧ k0 ≤ 100000000) ∧ keys = seqI (k0) nKeys ∧ used = seqB (k0 + (nKeys : Int)) nUsed ∧ k (k0 + (nKeys : Int) + (nUsed : Int))
theorem F_laws_heldClock_S {room : Int} {keys : List Int} {used : List Bool} {hand : Int} {k0 : Int} {k : Int → Prop} (h : F_laws_heldClock room keys used hand k0 k) : S_laws_heldClock room keys used hand k0 k := by
  obtain ⟨nKeys, nUsed, ⟨lKeys, lUsed, g1, g2⟩, rfl, rfl, hk⟩ := h
  refine ⟨nKeys, ⟨lKeys, by omega, by omega⟩, rfl, ?_⟩
  refine br_dec.2 ⟨fun h => by omega, fun _ => ?_⟩
  refine ⟨nUsed, ⟨lUsed, by omega, by omega⟩, rfl, ?_⟩
  refine br_dec.2 ⟨fun h => by omega, fun _ => ?_⟩
  exact hk
-- laws.FnExactUseClock
def G_laws_FnExactUseClock (aC0Room : Int) (aC0Keys : List Int) (aC0Used : List Bool) (aC0Hand : Int) (aKey1 : Int) (k : Bool → Prop) : Prop :=
  F_laws_szClock aC0Room aC0Keys aC0Used aC0Hand (1048576 : Int) fun szClock18 =>
  br (decide (szClock18 < 0))
  (k true)
  (F_laws_toClock aC0Room aC0Keys aC0Used aC0Hand fun toClock23Room toClock23Keys toClock23Used toClock23Hand =>
    F_spec_UseClock toClock23Room toClock23Keys toClock23Used toClock23Hand aKey1 fun useClock25Room useClock25Keys useClock25Used useClock25Hand useClock25r1 =>
    F_laws_toClock aC0Room aC0Keys aC0Used aC0Hand fun toClock29Room toClock29Keys toClock29Used toClock29Hand =>
    F_impl_UseClock toClock29Room toClock29Keys toClock29Used toClock29Hand aKey1 fun useClock33Room useClock33Keys useClock33Used useClock33Hand useClock33r1 =>
    F_laws_eqClock useClock33Room useClock33Keys useClock33Used useClock33Hand useClock25Room useClock25Keys useClock25Used useClock25Hand fun eqClock38 =>
    br (!eqClock38)
    (k false)
    (br (!(useClock33r1 == useClock25r1))
      (k false)
      ((F_laws_toClock aC0Room aC0Keys aC0Used aC0Hand fun toClock47Room toClock47Keys toClock47Used toClock47Hand =>
          (F_laws_eqClock toClock29Room toClock29Keys toClock29Used toClock29Hand toClock47Room toClock47Keys toClock47Used toClock47Hand fun eqClock48 =>
            br (!eqClock48)
            (k false)
            (F_laws_markClock toClock29Room toClock29Keys toClock29Used toClock29Hand (1 : Int) fun markClock52 omarkClock52Keys omarkClock52Used =>
              br (decide (markClock52 < 0))
              (k false)
              (F_laws_eqClock useClock33Room useClock33Keys useClock33Used useClock33Hand useClock25Room useClock25Keys useClock25Used useClock25Hand fun eqClock58 =>
                br (!eqClock58)
                (k false)
                (br (!(useClock33r1 == useClock25r1))
                  (k false)
                  (F_laws_markClock useClock33Room useClock33Keys useClock33Used useClock33Hand (1 : Int) fun markClock68 omarkClock68Keys omarkClock68Used =>
                    F_laws_heldClock useClock33Room omarkClock68Keys omarkClock68Used useClock33Hand (1 : Int) fun heldClock71 =>
                    br (decide (heldClock71 < 0))
                    (k false)
                    (br (heldClock71 != markClock68)
                      (k false)
                      (F_laws_toClock aC0Room aC0Keys aC0Used aC0Hand fun toClock79Room toClock79Keys toClock79Used toClock79Hand =>
                        F_impl_UseClock toClock79Room toClock79Keys toClock79Used toClock79Hand aKey1 fun useClock81Room useClock81Keys useClock81Used useClock81Hand useClock81r1 =>
                        F_laws_eqClock useClock81Room useClock81Keys useClock81Used useClock81Hand useClock25Room useClock25Keys useClock25Used useClock25Hand fun eqClock86 =>
                        br (!eqClock86)
                        (k false)
                        (br (!(useClock81r1 == useClock25r1))
                          (k false)
                          (F_laws_heldClock useClock33Room omarkClock68Keys omarkClock68Used useClock33Hand (1 : Int) fun heldClock95 =>
                            br (decide (heldClock95 < 0))
                            (k false)
                            (br (heldClock95 != markClock68)
                              (k false)
                              (k true))))))))))) ∧
          (True)) ∧
        (True))))
def H_laws_FnExactUseClock (aC0Room : Int) (aC0Keys : List Int) (aC0Used : List Bool) (aC0Hand : Int) (aKey1 : Int) (k : Bool → Prop) : Prop :=
  F_laws_szClock aC0Room aC0Keys aC0Used aC0Hand (1048576 : Int) fun szClock18 =>
  br (decide (szClock18 < 0))
  (k true)
  (F_laws_toClock aC0Room aC0Keys aC0Used aC0Hand fun toClock23Room toClock23Keys toClock23Used toClock23Hand =>
    F_spec_UseClock toClock23Room toClock23Keys toClock23Used toClock23Hand aKey1 fun useClock25Room useClock25Keys useClock25Used useClock25Hand useClock25r1 =>
    F_laws_toClock aC0Room aC0Keys aC0Used aC0Hand fun toClock29Room toClock29Keys toClock29Used toClock29Hand =>
    F_impl_UseClock toClock29Room toClock29Keys toClock29Used toClock29Hand aKey1 fun useClock33Room useClock33Keys useClock33Used useClock33Hand useClock33r1 =>
    F_laws_eqClock useClock33Room useClock33Keys useClock33Used useClock33Hand useClock25Room useClock25Keys useClock25Used useClock25Hand fun eqClock38 =>
    br (!eqClock38)
    (k false)
    (br (!(useClock33r1 == useClock25r1))
      (k false)
      (F_laws_toClock aC0Room aC0Keys aC0Used aC0Hand fun toClock47Room toClock47Keys toClock47Used toClock47Hand =>
        F_laws_eqClock toClock29Room toClock29Keys toClock29Used toClock29Hand toClock47Room toClock47Keys toClock47Used toClock47Hand fun eqClock48 =>
        br (!eqClock48)
        (k false)
        (F_laws_markClock toClock29Room toClock29Keys toClock29Used toClock29Hand (1 : Int) fun markClock52 omarkClock52Keys omarkClock52Used =>
          br (decide (markClock52 < 0))
          (k false)
          (F_laws_eqClock useClock33Room useClock33Keys useClock33Used useClock33Hand useClock25Room useClock25Keys useClock25Used useClock25Hand fun eqClock58 =>
            br (!eqClock58)
            (k false)
            (br (!(useClock33r1 == useClock25r1))
              (k false)
              (F_laws_markClock useClock33Room useClock33Keys useClock33Used useClock33Hand (1 : Int) fun markClock68 omarkClock68Keys omarkClock68Used =>
                F_laws_heldClock useClock33Room omarkClock68Keys omarkClock68Used useClock33Hand (1 : Int) fun heldClock71 =>
                br (decide (heldClock71 < 0))
                (k false)
                (br (heldClock71 != markClock68)
                  (k false)
                  (F_laws_toClock aC0Room aC0Keys aC0Used aC0Hand fun toClock79Room toClock79Keys toClock79Used toClock79Hand =>
                    F_impl_UseClock toClock79Room toClock79Keys toClock79Used toClock79Hand aKey1 fun useClock81Room useClock81Keys useClock81Used useClock81Hand useClock81r1 =>
                    F_laws_eqClock useClock81Room useClock81Keys useClock81Used useClock81Hand useClock25Room useClock25Keys useClock25Used useClock25Hand fun eqClock86 =>
                    br (!eqClock86)
                    (k false)
                    (br (!(useClock81r1 == useClock25r1))
                      (k false)
                      (F_laws_heldClock useClock33Room omarkClock68Keys omarkClock68Used useClock33Hand (1 : Int) fun heldClock95 =>
                        br (decide (heldClock95 < 0))
                        (k false)
                        (br (heldClock95 != markClock68)
                          (k false)
                          (k true)))))))))))))
theorem G_laws_FnExactUseClock_eq (aC0Room : Int) (aC0Keys : List Int) (aC0Used : List Bool) (aC0Hand : Int) (aKey1 : Int) (k : Bool → Prop) : G_laws_FnExactUseClock aC0Room aC0Keys aC0Used aC0Hand aKey1 k = H_laws_FnExactUseClock aC0Room aC0Keys aC0Used aC0Hand aKey1 k := by
  simp only [G_laws_FnExactUseClock, H_laws_FnExactUseClock, and_self, and_true]
def S_laws_FnExactUseClock (aC0Room : Int) (aC0Keys : List Int) (aC0Used : List Bool) (aC0Hand : Int) (aKey1 : Int) (k : Bool → Prop) : Prop := H_laws_FnExactUseClock aC0Room aC0Keys aC0Used aC0Hand aKey1 k
abbrev F_laws_FnExactUseClock (aC0Room : Int) (aC0Keys : List Int) (aC0Used : List Bool) (aC0Hand : Int) (aKey1 : Int) (k : Bool → Prop) : Prop := S_laws_FnExactUseClock aC0Room aC0Keys aC0Used aC0Hand aKey1 k
theorem F_laws_FnExactUseClock_S {aC0Room : Int} {aC0Keys : List Int} {aC0Used : List Bool} {aC0Hand : Int} {aKey1 : Int} {k : Bool → Prop} (h : F_laws_FnExactUseClock aC0Room aC0Keys aC0Used aC0Hand aKey1 k) : S_laws_FnExactUseClock aC0Room aC0Keys aC0Used aC0Hand aKey1 k := h
theorem law_FnExactUseClock (cRoom : Int) (rcRoom : InR cRoom) (cKeys : List Int) (lcKeys : cKeys.length ≤ maxLen) (rcKeys : ∀ x ∈ cKeys, InR x) (cUsed : List Bool) (lcUsed : cUsed.length ≤ maxLen) (cHand : Int) (rcHand : InR cHand) (key : Int) (rkey : InR key) :
    F_laws_FnExactUseClock cRoom cKeys cUsed cHand key (fun r => r = true) := by
  refine ⟨⟨lcKeys, lcUsed, by omega, by omega⟩, fun z0 _ _ s0 => br_dec.2 ⟨fun _ => rfl, fun t0 => ?_⟩⟩
  have u0 := s0 (by omega)
  have mc : cKeys.length ≤ 1000000000 ∧ cUsed.length ≤ 1000000000 := ⟨by omega, by omega⟩
  by_cases v : VClock cRoom cKeys cUsed cHand ∧ 0 ≤ key ∧ key ≤ 31
  · have m2 := (by have := tick_len (key := key) v.1 v.2; exact ⟨Nat.le_trans this.1 (by omega), by omega⟩ : (tickM cRoom cKeys cUsed cHand key).1.length ≤ 1000000000 ∧ (tickM cRoom cKeys cUsed cHand key).2.1.length ≤ 1000000000)
    exact ⟨mc, ⟨fun _ => ⟨mc, ⟨fun _ => eqClock_same m2 (br_nt (br_same (⟨mc, eqClock_same mc (br_nt (⟨⟨mc.1, mc.2, by omega, by omega⟩, br_lt0 (by omega) (eqClock_same m2 (br_nt (br_same (⟨⟨m2.1, m2.2, by omega, by omega⟩, ⟨_, _, ⟨m2.1, m2.2, by omega, by omega⟩, rfl, rfl, br_lt0 (by omega) (br_same' (⟨mc, ⟨fun _ => eqClock_same m2 (br_nt (br_same (⟨_, _, ⟨m2.1, m2.2, by omega, by omega⟩, rfl, rfl, br_lt0 (by omega) (br_same' rfl)⟩))), fun h => absurd v h⟩⟩))⟩⟩))))⟩))⟩))), fun h => absurd v h⟩⟩, fun h => absurd v h⟩⟩
  · have m2 : ([] : List Int).length ≤ 1000000000 ∧ ([] : List Bool).length ≤ 1000000000 := by simp
    exact ⟨mc, ⟨fun h => absurd h v, fun _ => ⟨mc, ⟨fun h => absurd h v, fun _ => eqClock_same m2 (br_nt (br_same (⟨mc, eqClock_same mc (br_nt (⟨⟨mc.1, mc.2, by omega, by omega⟩, br_lt0 (by omega) (eqClock_same m2 (br_nt (br_same (⟨⟨m2.1, m2.2, by omega, by omega⟩, ⟨_, _, ⟨m2.1, m2.2, by omega, by omega⟩, rfl, rfl, br_lt0 (by omega) (br_same' (⟨mc, ⟨fun h => absurd h v, fun _ => eqClock_same m2 (br_nt (br_same (⟨_, _, ⟨m2.1, m2.2, by omega, by omega⟩, rfl, rfl, br_lt0 (by omega) (br_same' rfl)⟩)))⟩⟩))⟩⟩))))⟩))⟩)))⟩⟩⟩⟩
end Go.Ev
