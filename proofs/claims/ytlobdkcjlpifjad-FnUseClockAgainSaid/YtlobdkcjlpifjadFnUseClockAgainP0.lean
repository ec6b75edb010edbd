/- What the functions that the law reaches do, written as plain Lean. No statement is proved here. -/
import Derived.Test.YtlobdkcjlpifjadEvT
namespace Go.Ev
set_option linter.unusedVariables false
open Go
theorem br_iff {b : Bool} {A B : Prop} : br b A B ↔ (b = true → A) ∧ (b = false → B) := by cases b <;> simp [br]
theorem br_dec {p : Prop} [Decidable p] {A B : Prop} : br (decide p) A B ↔ (p → A) ∧ (¬ p → B) := by rw [br_iff]; simp
theorem br_beq {a b : Int} {A B : Prop} : br (a == b) A B ↔ (a = b → A) ∧ (a ≠ b → B) := by rw [br_iff]; simp
theorem br_bne {a b : Int} {A B : Prop} : br (a != b) A B ↔ (a ≠ b → A) ∧ (a = b → B) := by rw [br_iff]; simp
theorem br_not {b : Bool} {A B : Prop} : br (!b) A B ↔ br b B A := by cases b <;> simp [br]
theorem br_bb {a b : Bool} {A B : Prop} : br (a == b) A B ↔ (a = b → A) ∧ (a ≠ b → B) := by rw [br_iff]; simp
theorem inR {x : Int} (h1 : -9223372036854775808 ≤ x) (h2 : x ≤ 9223372036854775807) : InR x := ⟨h1, h2⟩

section lists
variable {α : Type}
theorem drop_nil' {l : List α} {i : Nat} (h : l.drop i = []) : l.length ≤ i := by simpa using h
theorem drop_cons' {l : List α} {i : Nat} {x : α} {r : List α} (h : l.drop i = x :: r) : i < l.length ∧ (∀ d, l.getD i d = x) ∧ l[i]? = some x ∧ l.drop (i + 1) = r ∧ l.take (i + 1) = l.take i ++ [x] := by
  have hlt : i < l.length := by
    rcases Nat.lt_or_ge i l.length with h1 | h1
    · exact h1
    · rw [List.drop_eq_nil_of_le h1] at h; cases h
  have h2 := List.drop_eq_getElem_cons hlt
  rw [h] at h2
  injection h2 with h3 h4
  have h5 : l[i]? = some x := by rw [List.getElem?_eq_getElem hlt, h3]
  exact ⟨hlt, fun d => by simp [List.getD, h5], h5, h4.symm, by rw [List.take_succ_eq_append_getElem hlt, h3]⟩
end lists

/-- The place of a number, or -1. -/
def plcF : List Int → Int → Nat → Int
  | [], _, _ => -1
  | x :: r, n, i => if x = n then (i : Int) else plcF r n (i + 1)
def plc (l : List Int) (n : Int) : Int := plcF l n 0
theorem plcF_spec : ∀ (l : List Int) (n : Int) (i : Nat), (n ∉ l ∧ plcF l n i = -1) ∨ ∃ j, j < l.length ∧ l[j]? = some n ∧ (∀ q, q < j → l[q]? ≠ some n) ∧ plcF l n i = ((i + j : Nat) : Int)
  | [], n, i => .inl ⟨by simp, rfl⟩
  | x :: r, n, i => by
    by_cases h : x = n
    · subst h
      exact .inr ⟨0, by simp, rfl, fun q hq => by omega, by simp [plcF]⟩
    · rcases plcF_spec r n (i + 1) with ⟨h1, h2⟩ | ⟨j, h1, h2, h3, h4⟩
      · exact .inl ⟨by simp [Ne.symm h, h1], by simp [plcF, h, h2]⟩
      · refine .inr ⟨j + 1, by simp; omega, by simpa using h2, fun q hq => ?_, ?_⟩
        · cases q with
          | zero => simpa using h
          | succ q => simpa using h3 q (by omega)
        · simp only [plcF, h, if_false, h4]; omega
theorem plc_spec (l : List Int) (n : Int) : (n ∉ l ∧ plc l n = -1) ∨ ∃ j : Nat, j < l.length ∧ l[j]? = some n ∧ (∀ q, q < j → l[q]? ≠ some n) ∧ plc l n = (j : Int) := by
  have := plcF_spec l n 0
  simpa [plc] using this
theorem plc_pos {l : List Int} {n : Int} (h : n ∈ l) : ∃ j : Nat, j < l.length ∧ l[j]? = some n ∧ (∀ q, q < j → l[q]? ≠ some n) ∧ plc l n = (j : Int) := by
  rcases plc_spec l n with ⟨h1, _⟩ | h2
  · exact absurd h h1
  · exact h2
theorem plc_ge {l : List Int} {n : Int} : plc l n ≥ 0 ↔ n ∈ l := by
  rcases plc_spec l n with ⟨h1, h2⟩ | ⟨j, h1, h2, _, h3⟩
  · rw [h2]; simp [h1]
  · rw [h3]; simp [List.mem_of_getElem? h2]
theorem nodup_plc {l : List Int} : (∀ i : Nat, i < l.length → plc l (l.getD i 0) = (i : Int)) ↔ l.Nodup := by
  have hg : ∀ {i : Nat} (hi : i < l.length), l[i]? = some l[i] ∧ l.getD i 0 = l[i] := fun hi => ⟨List.getElem?_eq_getElem hi, by simp [List.getD, hi]⟩
  constructor
  · intro h
    refine List.pairwise_iff_getElem.2 fun i j hi hj hij e => ?_
    have h1 := h j hj
    rcases plc_spec l (l.getD j 0) with ⟨_, h2⟩ | ⟨q, h2, h3, h4, h5⟩
    · omega
    · have : q = j := by omega
      subst this
      exact h4 i hij (by rw [(hg hi).1, e, (hg hj).2])
  · intro hn i hi
    have hx : l[i]? = some (l.getD i 0) := by rw [(hg hi).1, (hg hi).2]
    rcases plc_spec l (l.getD i 0) with ⟨h1, _⟩ | ⟨q, h2, h3, h4, h5⟩
    · exact absurd (List.mem_of_getElem? hx) h1
    · have : q = i := by
        rcases Nat.lt_trichotomy q i with h | h | h
        · refine absurd ?_ (List.pairwise_iff_getElem.1 hn q i h2 hi h)
          have := h3.trans hx.symm
          rw [(hg h2).1, (hg hi).1] at this
          injection this
        · exact h
        · exact absurd hx (h4 i h)
      rw [h5, this]

/-- Valid keys. -/
def VKeys (l : List Int) (room : Int) : Prop := 1 ≤ room ∧ room ≤ 8 ∧ (l.length : Int) ≤ room ∧ (∀ x ∈ l, 0 ≤ x ∧ x ≤ 31) ∧ l.Nodup
def VClock (room : Int) (keys : List Int) (used : List Bool) (hand : Int) : Prop :=
  VKeys keys room ∧ used.length = keys.length ∧ ((keys.length : Int) < room → hand = 0) ∧ ((keys.length : Int) = room → 0 ≤ hand ∧ hand < keys.length)

def Bs (b : List Int) : Prop := b.length ≤ 2000 ∧ ∀ x ∈ b, 0 ≤ x ∧ x ≤ 255
theorem Bs.get {b : List Int} (h : Bs b) (i : Nat) : 0 ≤ b.getD i 0 ∧ b.getD i 0 ≤ 255 := by
  rcases Nat.lt_or_ge i b.length with hi | hi
  · have hx : b[i]? = some (b.getD i 0) := by simp [List.getD, hi]
    exact h.2 _ (List.mem_of_getElem? hx)
  · simp [List.getD, List.getElem?_eq_none hi]
/-- What a pick of n yields. -/
def Pk (n x : Int) : Prop := (n < 1 ∧ x = 0) ∨ (0 ≤ x ∧ x < n)
theorem ofInt_i64' (n : Nat) (h : n < 9223372036854775808) : (BitVec.ofInt 64 (n : Int)).toNat = n := by
  rw [BitVec.toNat_ofInt]; omega
theorem xor_nn (x y : Int) (hx : 0 ≤ x) (hx' : x < 9223372036854775808) (hy : 0 ≤ y) (hy' : y < 9223372036854775808) : 0 ≤ IntKind.i64.wrap ((BitVec.ofInt 64 x ^^^ BitVec.ofInt 64 y).toNat : Int) := by
  obtain ⟨a, rfl⟩ := Int.eq_ofNat_of_zero_le hx
  obtain ⟨b, rfl⟩ := Int.eq_ofNat_of_zero_le hy
  have hlt : a ^^^ b < 2 ^ 63 := Nat.xor_lt_two_pow (by omega) (by omega)
  have e : IntKind.i64.wrap ((BitVec.ofInt 64 (a : Int) ^^^ BitVec.ofInt 64 (b : Int)).toNat : Int) = ((a ^^^ b : Nat) : Int) := by
    rw [BitVec.toNat_xor, ofInt_i64' a (by omega), ofInt_i64' b (by omega), IntKind.wrap_i64]
    omega
  rw [e]; omega

def sweep : Nat → List Bool → Nat → List Bool × Nat
  | 0, u, h => (u, h)
  | f + 1, u, h => if u.getD h false then sweep f (u.set h false) ((h + 1) % u.length) else (u, h)
theorem count_clear {u : List Bool} {h : Nat} (hh : u.getD h false = true) : (u.set h false).count true + 1 = u.count true := by
  have hlt : h < u.length := by
    rcases Nat.lt_or_ge h u.length with h1 | h1
    · exact h1
    · simp [List.getD, List.getElem?_eq_none h1] at hh
  have hg : u[h] = true := by simpa [List.getD, hlt] using hh
  rw [List.count_set hlt, hg]
  have : 0 < u.count true := List.count_pos_iff.2 (hg ▸ List.getElem_mem hlt)
  simp; omega
theorem sweep_ok : ∀ (f : Nat) (u : List Bool) (h : Nat), u.count true < f → h < u.length →
    (sweep f u h).1.length = u.length ∧ (sweep f u h).2 < u.length ∧ (sweep f u h).1.getD (sweep f u h).2 false = false ∧ ∀ i, (sweep f u h).1.getD i false = true → u.getD i false = true
  | 0, u, h, hc, _ => by omega
  | f + 1, u, h, hc, hl => by
    unfold sweep
    split
    · rename_i hu
      have hc2 := count_clear hu
      have hl2 : (h + 1) % u.length < (u.set h false).length := by rw [List.length_set]; exact Nat.mod_lt _ (by omega)
      obtain ⟨a1, a2, a3, a4⟩ := sweep_ok f (u.set h false) ((h + 1) % u.length) (by omega) hl2
      rw [List.length_set] at a1 a2
      refine ⟨a1, a2, a3, fun i hi => ?_⟩
      have := a4 i hi
      by_cases e : h = i
      · subst e; exact hu
      · simpa [List.getD, List.getElem?_set_ne e] using this
    · rename_i hu
      exact ⟨rfl, hl, by simpa using hu, fun i hi => hi⟩
/-- The state of a clock behind the use of a key: keys, marks, hand, hit. -/
def tickM (room : Int) (keys : List Int) (used : List Bool) (hand : Int) (key : Int) : List Int × List Bool × Int × Bool :=
  if key ∈ keys then (keys, used.set (plc keys key).toNat true, hand, true)
  else if (keys.length : Int) < room then (keys ++ [key], used ++ [false], hand, false)
  else (keys.set (sweep (used.length + 1) used hand.toNat).2 key, (sweep (used.length + 1) used hand.toNat).1, (((sweep (used.length + 1) used hand.toNat).2 + 1) % keys.length : Nat), false)
theorem tmod_next (h n : Nat) : Int.tmod ((h : Int) + 1) (n : Int) = (((h + 1) % n : Nat) : Int) := by
  rw [show ((h : Int) + 1) = ((h + 1 : Nat) : Int) by omega]
  rfl
theorem nodup_set {l : List Int} {i : Nat} {x : Int} (hn : l.Nodup) (hx : x ∉ l) : (l.set i x).Nodup := by
  refine List.pairwise_iff_getElem.2 fun a b ha hb hab e => ?_
  rw [List.length_set] at ha hb
  rw [List.getElem_set, List.getElem_set] at e
  split at e
  · split at e
    · omega
    · exact hx (e ▸ List.getElem_mem hb)
  · split at e
    · exact hx (e ▸ List.getElem_mem ha)
    · exact List.pairwise_iff_getElem.1 hn a b ha hb hab e
theorem mem_set {l : List Int} {i : Nat} {x y : Int} (h : y ∈ l.set i x) : y = x ∨ y ∈ l := by
  obtain ⟨j, hj⟩ := List.getElem?_of_mem h
  rw [List.getElem?_set] at hj
  split at hj
  · split at hj
    · injection hj with hj; exact .inl hj.symm
    · cases hj
  · exact .inr (List.mem_of_getElem? hj)
theorem tick_valid {room : Int} {keys : List Int} {used : List Bool} {hand key : Int} (v : VClock room keys used hand) (hk : 0 ≤ key ∧ key ≤ 31) :
    VClock room (tickM room keys used hand key).1 (tickM room keys used hand key).2.1 (tickM room keys used hand key).2.2.1 := by
  obtain ⟨⟨v1, v2, v3, v4, v5⟩, v6, v7, v8⟩ := v
  unfold tickM
  split
  · exact ⟨⟨v1, v2, v3, v4, v5⟩, by simp [v6], v7, v8⟩
  · rename_i hm
    split
    · rename_i hl
      refine ⟨⟨v1, v2, by simp; omega, fun x hx => ?_, ?_⟩, by simp [v6], fun h => v7 hl, fun h => ?_⟩
      · rcases List.mem_append.1 hx with hx | hx
        · exact v4 x hx
        · simp at hx; subst hx; exact hk
      · rw [List.nodup_append]
        exact ⟨v5, by simp, fun a ha b hb e => by simp at hb; subst hb; subst e; exact hm ha⟩
      · rw [v7 hl]; simp
    · rename_i hl
      have hfull : (keys.length : Int) = room := by omega
      obtain ⟨w1, w2⟩ := v8 hfull
      have hc : used.count true < used.length + 1 := Nat.lt_succ_of_le List.count_le_length
      obtain ⟨s1, s2, s3, s4⟩ := sweep_ok (used.length + 1) used hand.toNat hc (by omega)
      refine ⟨⟨v1, v2, by simpa using v3, fun x hx => ?_, nodup_set v5 hm⟩, by rw [List.length_set, s1, v6], fun h => by simp at h; omega, fun h => ?_⟩
      · rcases mem_set hx with rfl | hx
        · exact hk
        · exact v4 x hx
      · have := Nat.mod_lt ((sweep (used.length + 1) used hand.toNat).2 + 1) (show keys.length > 0 by omega)
        simp only [List.length_set]; omega

/-- The keys with marks. -/
def marked : List Int → List Bool → List Int
  | x :: a, b :: m => if b then x :: marked a m else marked a m
  | _, _ => []
theorem marked_sub : ∀ {l : List Int} {u : List Bool} {x : Int}, x ∈ marked l u → x ∈ l
  | [], _, _, h => by simp [marked] at h
  | y :: r, [], _, h => by simp [marked] at h
  | y :: r, b :: m, x, h => by
    unfold marked at h
    split at h
    · rcases List.mem_cons.1 h with h | h
      · rw [h]; exact List.mem_cons_self
      · exact List.mem_cons_of_mem _ (marked_sub h)
    · exact List.mem_cons_of_mem _ (marked_sub h)
theorem marked_mem : ∀ {l : List Int} {u : List Bool} {i : Nat}, l.Nodup → u.length = l.length → i < l.length → (l.getD i 0 ∈ marked l u ↔ u.getD i false = true)
  | [], _, i, _, _, h => by simp at h
  | y :: r, [], i, _, h, _ => by simp at h
  | y :: r, b :: m, i, hn, hl, hi => by
    obtain ⟨h1, h2⟩ := List.nodup_cons.1 hn
    cases i with
    | zero =>
      cases b
      · simp [marked]; exact fun h => h1 (marked_sub h)
      · simp [marked]
    | succ i =>
      have ih := marked_mem (l := r) (u := m) (i := i) h2 (by simpa using hl) (by simpa using hi)
      have hne : r.getD i 0 ≠ y := fun e => h1 (by
        have hi' : i < r.length := by simpa using hi
        rw [← e]; simp [List.getD, List.getElem?_eq_getElem hi'])
      cases b
      · simpa [marked] using ih
      · simp only [marked, if_true, List.getD_cons_succ, List.mem_cons]
        exact ⟨fun h => by rcases h with h | h; exact absurd h hne; exact ih.1 h, fun h => .inr (ih.2 h)⟩
theorem marked_len : ∀ (l : List Int) (u : List Bool), u.length = l.length → (marked l u).length = u.count true
  | [], [], _ => rfl
  | [], _ :: _, h => by simp at h
  | _ :: _, [], h => by simp at h
  | y :: r, b :: m, h => by
    have ih := marked_len r m (by simpa using h)
    cases b <;> simp [marked, ih]
theorem marked_le (l : List Int) (u : List Bool) (h : u.length = l.length) : (marked l u).length ≤ l.length := by
  rw [marked_len l u h, ← h]; exact List.count_le_length
theorem all_t {P : Prop} {k : Bool → Prop} (p : P) (h : k true) : ∀ b : Bool, (b = true ↔ P) → k b := fun b hb => by rw [hb.2 p]; exact h
theorem br_nt {A B : Prop} (h : B) : br (!true) A B := h
theorem br_same {b : Bool} {A B : Prop} (h : B) : br (!(b == b)) A B := by rw [beq_self_eq_true]; exact h
theorem tick_in {room : Int} {keys : List Int} {used : List Bool} {hand key : Int} (v : VClock room keys used hand) : key ∈ (tickM room keys used hand key).1 := by
  obtain ⟨⟨v1, v2, v3, v4, v5⟩, v6, v7, v8⟩ := v
  unfold tickM
  split
  · rename_i h; exact h
  · split
    · simp
    · obtain ⟨w1, w2⟩ := v8 (by omega)
      obtain ⟨_, s2, _, _⟩ := sweep_ok (used.length + 1) used hand.toNat (Nat.lt_succ_of_le List.count_le_length) (by omega)
      exact List.mem_of_getElem? (i := (sweep (used.length + 1) used hand.toNat).2) (by rw [List.getElem?_set_self (by omega)])
theorem getD_of {l : List Int} {i : Nat} {x d : Int} (h : l[i]? = some x) : l.getD i d = x := by rw [List.getD_eq_getElem?_getD, h]; rfl
theorem some_of {l : List Int} {i : Nat} {d : Int} (h : i < l.length) : l[i]? = some (l.getD i d) := by
  rw [List.getD_eq_getElem?_getD, List.getElem?_eq_getElem h]; rfl
theorem tick_len {room : Int} {keys : List Int} {used : List Bool} {hand key : Int} (v : VClock room keys used hand) (hk : 0 ≤ key ∧ key ≤ 31) :
    (tickM room keys used hand key).1.length ≤ 8 ∧ (tickM room keys used hand key).2.1.length = (tickM room keys used hand key).1.length := by
  have := tick_valid v hk
  obtain ⟨⟨v1, v2, v3, v4, v5⟩, v6, v7, v8⟩ := this
  exact ⟨by omega, v6⟩
theorem mem_getD {l : List Int} {i : Nat} (h : i < l.length) : l.getD i 0 ∈ l := List.mem_of_getElem? (some_of h)
theorem tick_there {room : Int} {keys : List Int} {used : List Bool} {hand key : Int} (h : key ∈ keys) : tickM room keys used hand key = (keys, used.set (plc keys key).toNat true, hand, true) := by
  unfold tickM; rw [if_pos h]
abbrev Ent := Int × Int × Int
def Rar (a b : Ent) : Prop := a.2.1 < b.2.1 ∨ a.2.1 = b.2.1 ∧ a.2.2 < b.2.2
instance (a b : Ent) : Decidable (Rar a b) := by unfold Rar; infer_instance
theorem Rar.trans {a b c : Ent} (h : Rar a b) (g : Rar b c) : Rar a c := by unfold Rar at *; omega
structure AL where
  t : Int
  o : List Int
  f : List Int
  wo : List Int
  wf : List Int
def knownL (a : AL) (key : Int) : Prop := key ∈ a.o ∨ key ∈ a.f ∨ key ∈ a.wf ∨ key ∈ a.wo
instance (a : AL) (key : Int) : Decidable (knownL a key) := by unfold knownL; infer_instance
/-- `Can room r C n`: with a cache `C` before the keys `r`, `n` hits are possible. -/
def Can (room : Nat) : List Int → List Int → Nat → Prop
  | [], _, n => n = 0
  | k :: r, C, n => ∃ D m, D.Nodup ∧ D.length ≤ room ∧ k ∈ D ∧ (∀ x ∈ D, x = k ∨ x ∈ C) ∧ Can room r D m ∧ n ≤ m + (if k ∈ C then 1 else 0)
theorem Can.zero {room : Nat} (h : 1 ≤ room) : ∀ {r C : List Int}, Can room r C 0
  | [], _ => rfl
  | k :: r, C => ⟨[k], 0, by simp, by simpa using h, by simp, fun x hx => .inl (List.mem_singleton.1 hx), Can.zero h, by omega⟩
def VSk (s : List Int) : Prop := s.length = 24 ∧ ∀ x ∈ s, 0 ≤ x ∧ x ≤ 15
def cellM (row key : Int) : Int := row * 8 + Int.tmod (Int.tmod ((37 + 2 * row) * (key + row)) 101) 8
theorem VSk.get {s : List Int} (v : VSk s) (i : Nat) : 0 ≤ s.getD i 0 ∧ s.getD i 0 ≤ 15 := by
  by_cases h : i < s.length
  · exact v.2 _ (mem_getD h)
  · rw [List.getD_eq_getElem?_getD, List.getElem?_eq_none (by omega)]; simp
def min2 (a b : Int) : Int := if a < b then a else b
def countM (s : List Int) (key : Int) : Int := min2 (s.getD (cellM 2 key).toNat 0) (min2 (s.getD (cellM 1 key).toNat 0) (min2 (s.getD (cellM 0 key).toNat 0) 15))
theorem VSk.count {s : List Int} (v : VSk s) (key : Int) : 0 ≤ countM s key ∧ countM s key ≤ 15 := by
  have h0 := v.get (cellM 0 key).toNat
  have h1 := v.get (cellM 1 key).toNat
  have h2 := v.get (cellM 2 key).toNat
  unfold countM min2
  repeat' split
  all_goals omega
def PTm (l : List (Int × Int)) : Prop := (∀ e ∈ l, (0 ≤ e.1 ∧ e.1 ≤ 31) ∧ 0 ≤ e.2 ∧ e.2 ≤ 1000) ∧ l.Pairwise fun a b => a.1 < b.1
def VTm (l : List (Int × Int)) : Prop := l.length ≤ 12 ∧ PTm l
theorem PTm.filter {l : List (Int × Int)} (v : PTm l) (p : Int × Int → Bool) : PTm (l.filter p) := ⟨fun e he => v.1 e (List.mem_filter.1 he).1, v.2.filter p⟩
def dropM (l : List (Int × Int)) (now : Int) : List (Int × Int) := l.filter fun e => decide (now ≤ e.2)
theorem dropM_len (l : List (Int × Int)) (now : Int) : (dropM l now).length ≤ l.length := List.length_filter_le _ _
theorem VTm.drop {l : List (Int × Int)} (v : VTm l) (now : Int) : VTm (dropM l now) := ⟨Nat.le_trans (dropM_len l now) v.1, v.2.filter _⟩
-- spec.newReader
def G_spec_newReader (code0 : List Int) (k : List Int → Int → Prop) : Prop :=
  br (decide ((code0.length : Int) > 2000))
  ((0 ≤ (2000 : Int) ∧ 2000 ≤ (code0.length : Int)) ∧
    k (List.take 2000 code0) 0)
  (k code0 0)
def S_spec_newReader (code0 : List Int) (k : List Int → Int → Prop) : Prop := G_spec_newReader code0 k
def F_spec_newReader (code : List Int) (k : List Int → Int → Prop) : Prop := (∀ x ∈ code, 0 ≤ x ∧ x ≤ 255) ∧ ∀ b, Bs b → k b 0
theorem F_spec_newReader_S {code : List Int} {k : List Int → Int → Prop} (h : F_spec_newReader code k) : S_spec_newReader code k := by
  obtain ⟨hb, hk⟩ := h
  simp only [S_spec_newReader, G_spec_newReader, br_dec]
  refine ⟨fun h1 => ⟨⟨by omega, by omega⟩, hk _ ⟨by simp; omega, fun x hx => hb x (List.mem_of_mem_take hx)⟩⟩, fun h1 => hk _ ⟨by omega, hb⟩⟩
-- (*spec.reader).pick
def G_spec_reader_pick (r0b : List Int) (r0p : Int) (n1 : Int) (k : Int → List Int → Int → Prop) : Prop :=
  InR (r0p + 1) ∧
  br (decide (n1 < 1))
  (k 0 r0b (r0p + 1))
  (br ((r0b.length : Int) == 0)
    (k 0 r0b (r0p + 1))
    (InR ((r0p + 1) - 1) ∧
      br (decide (((r0p + 1) - 1) < (r0b.length : Int)))
      ((0 ≤ ((r0p + 1) - 1) ∧ ((r0p + 1) - 1) < (r0b.length : Int)) ∧
        InR (List.getD r0b (Int.toNat ((r0p + 1) - 1)) (0 : Int)) ∧
        (n1 ≠ 0) ∧
        k (Int.tmod (List.getD r0b (Int.toNat ((r0p + 1) - 1)) (0 : Int)) n1) r0b (r0p + 1))
      (((r0b.length : Int) ≠ 0) ∧
        (0 ≤ (Int.tmod ((r0p + 1) - 1) (r0b.length : Int)) ∧ (Int.tmod ((r0p + 1) - 1) (r0b.length : Int)) < (r0b.length : Int)) ∧
        InR (List.getD r0b (Int.toNat (Int.tmod ((r0p + 1) - 1) (r0b.length : Int))) (0 : Int)) ∧
        InR ((List.getD r0b (Int.toNat (Int.tmod ((r0p + 1) - 1) (r0b.length : Int))) (0 : Int)) * 131) ∧
        InR (((r0p + 1) - 1) * 7) ∧
        InR ((((r0p + 1) - 1) * 7) + 3) ∧
        ((r0b.length : Int) ≠ 0) ∧
        (0 ≤ (Int.tmod ((((r0p + 1) - 1) * 7) + 3) (r0b.length : Int)) ∧ (Int.tmod ((((r0p + 1) - 1) * 7) + 3) (r0b.length : Int)) < (r0b.length : Int)) ∧
        InR (List.getD r0b (Int.toNat (Int.tmod ((((r0p + 1) - 1) * 7) + 3) (r0b.length : Int))) (0 : Int)) ∧
        InR ((List.getD r0b (Int.toNat (Int.tmod ((((r0p + 1) - 1) * 7) + 3) (r0b.length : Int))) (0 : Int)) * 1117) ∧
        InR (((List.getD r0b (Int.toNat (Int.tmod ((r0p + 1) - 1) (r0b.length : Int))) (0 : Int)) * 131) + ((List.getD r0b (Int.toNat (Int.tmod ((((r0p + 1) - 1) * 7) + 3) (r0b.length : Int))) (0 : Int)) * 1117)) ∧
        InR (((r0p + 1) - 1) * 29) ∧
        InR ((((List.getD r0b (Int.toNat (Int.tmod ((r0p + 1) - 1) (r0b.length : Int))) (0 : Int)) * 131) + ((List.getD r0b (Int.toNat (Int.tmod ((((r0p + 1) - 1) * 7) + 3) (r0b.length : Int))) (0 : Int)) * 1117)) + (((r0p + 1) - 1) * 29)) ∧
        ((r0b.length : Int) ≠ 0 ∧ InR (Int.tdiv ((r0p + 1) - 1) (r0b.length : Int))) ∧
        InR ((Int.tdiv ((r0p + 1) - 1) (r0b.length : Int)) * 53) ∧
        InR (((((List.getD r0b (Int.toNat (Int.tmod ((r0p + 1) - 1) (r0b.length : Int))) (0 : Int)) * 131) + ((List.getD r0b (Int.toNat (Int.tmod ((((r0p + 1) - 1) * 7) + 3) (r0b.length : Int))) (0 : Int)) * 1117)) + (((r0p + 1) - 1) * 29)) + ((Int.tdiv ((r0p + 1) - 1) (r0b.length : Int)) * 53)) ∧
        ((64 : Int) ≠ 0 ∧ InR (Int.tdiv (((((List.getD r0b (Int.toNat (Int.tmod ((r0p + 1) - 1) (r0b.length : Int))) (0 : Int)) * 131) + ((List.getD r0b (Int.toNat (Int.tmod ((((r0p + 1) - 1) * 7) + 3) (r0b.length : Int))) (0 : Int)) * 1117)) + (((r0p + 1) - 1) * 29)) + ((Int.tdiv ((r0p + 1) - 1) (r0b.length : Int)) * 53)) 64)) ∧
        (n1 ≠ 0) ∧
        k (Int.tmod (IntKind.i64.wrap ((BitVec.ofInt 64 (((((List.getD r0b (Int.toNat (Int.tmod ((r0p + 1) - 1) (r0b.length : Int))) (0 : Int)) * 131) + ((List.getD r0b (Int.toNat (Int.tmod ((((r0p + 1) - 1) * 7) + 3) (r0b.length : Int))) (0 : Int)) * 1117)) + (((r0p + 1) - 1) * 29)) + ((Int.tdiv ((r0p + 1) - 1) (r0b.length : Int)) * 53)) ^^^ BitVec.ofInt 64 (Int.tdiv (((((List.getD r0b (Int.toNat (Int.tmod ((r0p + 1) - 1) (r0b.length : Int))) (0 : Int)) * 131) + ((List.getD r0b (Int.toNat (Int.tmod ((((r0p + 1) - 1) * 7) + 3) (r0b.length : Int))) (0 : Int)) * 1117)) + (((r0p + 1) - 1) * 29)) + ((Int.tdiv ((r0p + 1) - 1) (r0b.length : Int)) * 53)) 64)).toNat : Int)) n1) r0b (r0p + 1))))
def S_spec_reader_pick (r0b : List Int) (r0p : Int) (n1 : Int) (k : Int → List Int → Int → Prop) : Prop := G_spec_reader_pick r0b r0p n1 k
def F_spec_reader_pick (b : List Int) (p n : Int) (k : Int → List Int → Int → Prop) : Prop := (Bs b ∧ 0 ≤ p ∧ p ≤ 1000000000) ∧ ∀ x, Pk n x → k x b (p + 1)
theorem F_spec_reader_pick_S {b : List Int} {p n : Int} {k : Int → List Int → Int → Prop} (h : F_spec_reader_pick b p n k) : S_spec_reader_pick b p n k := by
  obtain ⟨⟨hb, h0, h1⟩, hk⟩ := h
  simp only [S_spec_reader_pick, G_spec_reader_pick, br_dec, br_beq]
  refine ⟨inR (by omega) (by omega), fun h2 => hk 0 (.inl ⟨h2, rfl⟩), fun h2 => ⟨fun h3 => hk 0 (.inr ⟨by omega, by omega⟩), fun h3 => ⟨inR (by omega) (by omega), ?_⟩⟩⟩
  have hlen := hb.1
  rw [show p + 1 - 1 = p by omega]
  refine ⟨fun h4 => ⟨⟨by omega, by omega⟩, ?_⟩, fun h4 => ?_⟩
  · have := hb.get (Int.toNat p)
    exact ⟨inR (by omega) (by omega), by omega, hk _ (.inr ⟨Int.tmod_nonneg _ this.1, Int.tmod_lt_of_pos _ (by omega)⟩)⟩
  · have hl : (0 : Int) < b.length := by omega
    have a1 := Int.tmod_nonneg (b.length : Int) h0
    have a2 := Int.tmod_lt_of_pos p hl
    have a3 := Int.tmod_nonneg (b.length : Int) (show (0 : Int) ≤ p * 7 + 3 by omega)
    have a4 := Int.tmod_lt_of_pos (p * 7 + 3) hl
    have a5 := hb.get (Int.toNat (Int.tmod p b.length))
    have a6 := hb.get (Int.toNat (Int.tmod (p * 7 + 3) b.length))
    have a7 : 0 ≤ Int.tdiv p b.length := Int.tdiv_nonneg h0 (by omega)
    have a8 : Int.tdiv p b.length ≤ p := Int.tdiv_le_self _ h0
    generalize List.getD b (Int.toNat (Int.tmod p b.length)) 0 = x at *
    generalize List.getD b (Int.toNat (Int.tmod (p * 7 + 3) b.length)) 0 = y at *
    generalize Int.tdiv p b.length = z at *
    have hsum : 0 ≤ x * 131 + y * 1117 + p * 29 + z * 53 ∧ x * 131 + y * 1117 + p * 29 + z * 53 ≤ 90000000000 := by omega
    have a9 : 0 ≤ Int.tdiv (x * 131 + y * 1117 + p * 29 + z * 53) 64 := Int.tdiv_nonneg hsum.1 (by omega)
    have a10 : Int.tdiv (x * 131 + y * 1117 + p * 29 + z * 53) 64 ≤ x * 131 + y * 1117 + p * 29 + z * 53 := Int.tdiv_le_self _ hsum.1
    refine ⟨by omega, ⟨by omega, by omega⟩, inR (by omega) (by omega), inR (by omega) (by omega), inR (by omega) (by omega), inR (by omega) (by omega), by omega, ⟨by omega, by omega⟩, inR (by omega) (by omega), inR (by omega) (by omega), inR (by omega) (by omega), inR (by omega) (by omega), inR (by omega) (by omega),
      ⟨by omega, inR (by omega) (by omega)⟩, inR (by omega) (by omega), inR (by omega) (by omega), ⟨by omega, inR (by omega) (by omega)⟩, by omega, hk _ (.inr ⟨?_, Int.tmod_lt_of_pos _ (by omega)⟩)⟩
    exact Int.tmod_nonneg _ (xor_nn _ _ hsum.1 (by omega) a9 (by omega))
-- (*spec.reader).one
def G_spec_reader_one (r0b : List Int) (r0p : Int) (list1 : List Int) (k : Int → List Int → Int → Prop) : Prop :=
  F_spec_reader_pick r0b r0p (list1.length : Int) fun pick9 opick9b opick9p =>
  (0 ≤ pick9 ∧ pick9 < (list1.length : Int)) ∧
  k (List.getD list1 (Int.toNat pick9) (0 : Int)) opick9b opick9p
def S_spec_reader_one (r0b : List Int) (r0p : Int) (list1 : List Int) (k : Int → List Int → Int → Prop) : Prop := G_spec_reader_one r0b r0p list1 k
def F_spec_reader_one (b : List Int) (p : Int) (l : List Int) (k : Int → List Int → Int → Prop) : Prop := (Bs b ∧ 0 ≤ p ∧ p ≤ 1000000000 ∧ 0 < l.length) ∧ ∀ x ∈ l, k x b (p + 1)
theorem F_spec_reader_one_S {b : List Int} {p : Int} {l : List Int} {k : Int → List Int → Int → Prop} (h : F_spec_reader_one b p l k) : S_spec_reader_one b p l k := by
  obtain ⟨⟨hb, h0, h1, h2⟩, hk⟩ := h
  refine ⟨⟨hb, h0, h1⟩, fun x hx => ?_⟩
  rcases hx with ⟨h3, _⟩ | ⟨h3, h4⟩
  · omega
  · have hlt : x.toNat < l.length := by omega
    have hx : l[x.toNat]? = some (l.getD x.toNat 0) := by simp [List.getD, hlt]
    exact ⟨⟨h3, h4⟩, hk _ (List.mem_of_getElem? hx)⟩
-- spec.copyInts
def G_spec_copyInts (list0 : List Int) (k : List Int → Prop) : Prop :=
  (0 + list0.length ≤ 1000000000) ∧
  k list0
def S_spec_copyInts (list0 : List Int) (k : List Int → Prop) : Prop := G_spec_copyInts list0 k
def F_spec_copyInts (l : List Int) (k : List Int → Prop) : Prop := l.length ≤ 1000000000 ∧ k l
theorem F_spec_copyInts_S {l : List Int} {k : List Int → Prop} (h : F_spec_copyInts l k) : S_spec_copyInts l k := ⟨by have := h.1; omega, h.2⟩
-- spec.copyClock
def G_spec_copyClock_j0 (c0Hand : Int) (c0Room : Int) (c0Used : List Bool) (copyInts7 : List Int) (k : Int → List Int → List Bool → Int → Prop) : Prop :=
  ((0 + c0Used.length ≤ 1000000000) ∧
    (k c0Room copyInts7 c0Used c0Hand) ∧
    (True)) ∧
  (True)
def G_spec_copyClock (c0Room : Int) (c0Keys : List Int) (c0Used : List Bool) (c0Hand : Int) (k : Int → List Int → List Bool → Int → Prop) : Prop :=
  (F_spec_copyInts c0Keys fun copyInts7 =>
    (G_spec_copyClock_j0 c0Hand c0Room c0Used copyInts7 k) ∧
    (True)) ∧
  (((F_spec_copyInts c0Keys fun copyInts7 =>
        G_spec_copyClock_j0 c0Hand c0Room c0Used copyInts7 k) ∧
      (True)) ∧
    (True))
def H_spec_copyClock (c0Room : Int) (c0Keys : List Int) (c0Used : List Bool) (c0Hand : Int) (k : Int → List Int → List Bool → Int → Prop) : Prop :=
  F_spec_copyInts c0Keys fun copyInts7 =>
  (0 + c0Used.length ≤ 1000000000) ∧
  k c0Room copyInts7 c0Used c0Hand
theorem G_spec_copyClock_eq (c0Room : Int) (c0Keys : List Int) (c0Used : List Bool) (c0Hand : Int) (k : Int → List Int → List Bool → Int → Prop) : G_spec_copyClock c0Room c0Keys c0Used c0Hand k = H_spec_copyClock c0Room c0Keys c0Used c0Hand k := by
  simp only [G_spec_copyClock, H_spec_copyClock, G_spec_copyClock_j0, and_self, and_true]
def S_spec_copyClock (c0Room : Int) (c0Keys : List Int) (c0Used : List Bool) (c0Hand : Int) (k : Int → List Int → List Bool → Int → Prop) : Prop := H_spec_copyClock c0Room c0Keys c0Used c0Hand k
def F_spec_copyClock (room : Int) (keys : List Int) (used : List Bool) (hand : Int) (k : Int → List Int → List Bool → Int → Prop) : Prop := (keys.length ≤ 1000000000 ∧ used.length ≤ 1000000000) ∧ k room keys used hand
theorem F_spec_copyClock_S {room : Int} {keys : List Int} {used : List Bool} {hand : Int} {k : Int → List Int → List Bool → Int → Prop} (h : F_spec_copyClock room keys used hand k) : S_spec_copyClock room keys used hand k :=
  ⟨h.1.1, by have := h.1.2; omega, h.2⟩
-- spec.placeOf
def T0_spec_placeOf (list0 : List Int) (n1 : Int) (xi5 : Int) (k : Int → Prop) (B0 : Int → Prop) : Prop :=
  br (decide (xi5 < (list0.length : Int)))
  ((0 ≤ xi5 ∧ xi5 < (list0.length : Int)) ∧
    br ((List.getD list0 (Int.toNat xi5) (0 : Int)) == n1)
    (k xi5)
    (InR (xi5 + 1) ∧
      B0 (xi5 + 1)))
  (k (-1))
def L0_spec_placeOf (list0 : List Int) (n1 : Int) (k : Int → Prop) : Nat → Int → Prop
  | 0, _ => False
  | n + 1, xi5 => T0_spec_placeOf list0 n1 xi5 k (L0_spec_placeOf list0 n1 k n)
def G_spec_placeOf (list0 : List Int) (n1 : Int) (I0 : List Int → Int → Int → Prop) : Prop :=
  I0 list0 n1 0
def S_spec_placeOf (list0 : List Int) (n1 : Int) (k : Int → Prop) : Prop := G_spec_placeOf list0 n1 (fun list0 n1 xi5 => ∃ j, L0_spec_placeOf list0 n1 k j xi5)
def F_spec_placeOf (l : List Int) (n : Int) (k : Int → Prop) : Prop := l.length ≤ 1000000000 ∧ k (plc l n)
theorem F_spec_placeOf_S {l : List Int} {n : Int} {k : Int → Prop} (h : F_spec_placeOf l n k) : S_spec_placeOf l n k := by
  obtain ⟨hl, hk⟩ := h
  have key : ∀ (r : List Int) (i : Nat), l.drop i = r → plcF r n i = plc l n → L0_spec_placeOf l n k (r.length + 1) (i : Int) := by
    intro r
    induction r with
    | nil =>
      intro i hd he
      have := drop_nil' hd
      rw [L0_spec_placeOf, T0_spec_placeOf]
      simp only [br_dec]
      exact ⟨fun h => by omega, fun _ => by rw [show (-1 : Int) = plc l n from he]; exact hk⟩
    | cons x r ih =>
      intro i hd he
      obtain ⟨h1, h2, _, h3, _⟩ := drop_cons' hd
      rw [List.length_cons, L0_spec_placeOf, T0_spec_placeOf]
      simp only [br_dec, br_beq, Int.toNat_natCast, h2]
      refine ⟨fun _ => ⟨⟨by omega, by omega⟩, fun hx => ?_, fun hx => ⟨inR (by omega) (by omega), ?_⟩⟩, fun h => by omega⟩
      · simp only [plcF, if_pos hx] at he; rw [he]; exact hk
      · simp only [plcF, if_neg hx] at he; exact ih (i + 1) h3 he
  exact ⟨_, key l 0 rfl rfl⟩
-- spec.tick
def T0_spec_tick (copyClock9Keys : List Int) (copyClock9Room : Int) (key1 : Int) (xb6c3 : Int) (xy9 : List Bool) (k : Int → List Int → List Bool → Int → Bool → Prop) (B0 : Int → List Bool → Prop) : Prop :=
  (0 ≤ xb6c3 ∧ xb6c3 < (xy9.length : Int)) ∧
  br (List.getD xy9 (Int.toNat xb6c3) false)
  ((0 ≤ xb6c3 ∧ xb6c3 < (xy9.length : Int)) ∧
    InR (xb6c3 + 1) ∧
    (copyClock9Room ≠ 0) ∧
    B0 (Int.tmod (xb6c3 + 1) copyClock9Room) (List.set xy9 (Int.toNat xb6c3) false))
  ((0 ≤ xb6c3 ∧ xb6c3 < (copyClock9Keys.length : Int)) ∧
    InR (xb6c3 + 1) ∧
    (copyClock9Room ≠ 0) ∧
    k copyClock9Room (List.set copyClock9Keys (Int.toNat xb6c3) key1) xy9 (Int.tmod (xb6c3 + 1) copyClock9Room) false)
def L0_spec_tick (copyClock9Keys : List Int) (copyClock9Room : Int) (key1 : Int) (k : Int → List Int → List Bool → Int → Bool → Prop) : Nat → Int → List Bool → Prop
  | 0, _, _ => False
  | n + 1, xb6c3, xy9 => T0_spec_tick copyClock9Keys copyClock9Room key1 xb6c3 xy9 k (L0_spec_tick copyClock9Keys copyClock9Room key1 k n)
def G_spec_tick (c0Room : Int) (c0Keys : List Int) (c0Used : List Bool) (c0Hand : Int) (key1 : Int) (k : Int → List Int → List Bool → Int → Bool → Prop) (I0 : List Int → Int → Int → Int → List Bool → Prop) : Prop :=
  F_spec_copyClock c0Room c0Keys c0Used c0Hand fun copyClock9Room copyClock9Keys copyClock9Used copyClock9Hand =>
  F_spec_placeOf copyClock9Keys key1 fun placeOf13 =>
  br (decide (placeOf13 ≥ 0))
  ((0 ≤ placeOf13 ∧ placeOf13 < (copyClock9Used.length : Int)) ∧
    k copyClock9Room copyClock9Keys (List.set copyClock9Used (Int.toNat placeOf13) true) copyClock9Hand true)
  (br (decide ((copyClock9Keys.length : Int) < copyClock9Room))
    (F_spec_copyInts c0Keys fun copyInts29 =>
      (copyInts29.length + 1 ≤ 1000000000) ∧
      (0 + c0Used.length ≤ 1000000000) ∧
      (c0Used.length + 1 ≤ 1000000000) ∧
      k copyClock9Room (copyInts29 ++ ([key1] : List Int)) (c0Used ++ ([false] : List Bool)) copyClock9Hand false)
    (I0 copyClock9Keys copyClock9Room key1 copyClock9Hand copyClock9Used))
def S_spec_tick (c0Room : Int) (c0Keys : List Int) (c0Used : List Bool) (c0Hand : Int) (key1 : Int) (k : Int → List Int → List Bool → Int → Bool → Prop) : Prop := G_spec_tick c0Room c0Keys c0Used c0Hand key1 k (fun copyClock9Keys copyClock9Room key1 xb6c3 xy9 => ∃ j, L0_spec_tick copyClock9Keys copyClock9Room key1 k j xb6c3 xy9)
def F_spec_tick (room : Int) (keys : List Int) (used : List Bool) (hand key : Int) (k : Int → List Int → List Bool → Int → Bool → Prop) : Prop :=
  VClock room keys used hand ∧ k room (tickM room keys used hand key).1 (tickM room keys used hand key).2.1 (tickM room keys used hand key).2.2.1 (tickM room keys used hand key).2.2.2
theorem F_spec_tick_S {room : Int} {keys : List Int} {used : List Bool} {hand key : Int} {k : Int → List Int → List Bool → Int → Bool → Prop} (h : F_spec_tick room keys used hand key k) : S_spec_tick room keys used hand key k := by
  obtain ⟨v, hk⟩ := h
  have hv := v
  obtain ⟨⟨v1, v2, v3, v4, v5⟩, v6, v7, v8⟩ := v
  have key1 : (keys.length : Int) = room → ∀ (f : Nat) (u : List Bool) (h : Nat), u.length = keys.length → h < u.length → u.count true < f →
      k room (keys.set (sweep f u h).2 key) (sweep f u h).1 (((sweep f u h).2 + 1) % keys.length : Nat) false → L0_spec_tick keys room key k f (h : Int) u := by
    intro hr f
    induction f with
    | zero => intro u h _ _ h3; omega
    | succ f ih =>
      intro u h h1 h2 h3 h4
      unfold sweep at h4
      rw [L0_spec_tick, T0_spec_tick]
      simp only [br_iff, Int.toNat_natCast]
      refine ⟨⟨by omega, by omega⟩, fun hu => ⟨⟨by omega, by omega⟩, inR (by omega) (by omega), by omega, ?_⟩, fun hu => ⟨⟨by omega, by omega⟩, inR (by omega) (by omega), by omega, ?_⟩⟩
      · rw [if_pos hu] at h4
        have e : Int.tmod ((h : Int) + 1) room = (((h + 1) % u.length : Nat) : Int) := by rw [← hr, tmod_next, h1]
        rw [e]
        have := count_clear hu
        refine ih _ _ (by simp [h1]) (by rw [List.length_set]; exact Nat.mod_lt _ (by omega)) (by omega) h4
      · rw [if_neg (by rw [hu]; simp)] at h4
        have e : Int.tmod ((h : Int) + 1) room = (((h + 1) % keys.length : Nat) : Int) := by rw [← hr, tmod_next]
        rw [e]; exact h4
  refine ⟨⟨by omega, by omega⟩, by omega, br_dec.2 ⟨fun hp => ?_, fun hp => br_dec.2 ⟨fun hl => ?_, fun hl => ?_⟩⟩⟩
  · have hm := plc_ge.1 hp
    unfold tickM at hk
    rw [if_pos hm] at hk
    obtain ⟨j, j1, _, _, j2⟩ := plc_pos hm
    exact ⟨⟨by omega, by omega⟩, hk⟩
  · have hm : key ∉ keys := fun e => hp (plc_ge.2 e)
    unfold tickM at hk
    rw [if_neg hm, if_pos hl] at hk
    exact ⟨by omega, by omega, by omega, by omega, hk⟩
  · have hm : key ∉ keys := fun e => hp (plc_ge.2 e)
    unfold tickM at hk
    rw [if_neg hm, if_neg hl] at hk
    obtain ⟨w1, w2⟩ := v8 (by omega)
    refine ⟨used.length + 1, ?_⟩
    have := key1 (by omega) (used.length + 1) used hand.toNat v6 (by omega) (Nat.lt_succ_of_le List.count_le_length) hk
    rwa [Int.toNat_of_nonneg w1] at this
-- (*spec.reader).spoil
def G_spec_reader_spoil (r0b : List Int) (r0p : Int) (list1 : List Int) (n2 : Int) (k : List Int → List Int → Int → Prop) : Prop :=
  F_spec_copyInts list1 fun copyInts9 =>
  F_spec_reader_pick r0b r0p (20 : Int) fun pick11 opick11b opick11p =>
  br (pick11 == 0)
  ((copyInts9.length + 1 ≤ 1000000000) ∧
    k (copyInts9 ++ ([n2] : List Int)) opick11b opick11p)
  (br (pick11 == 1)
    (br (decide ((copyInts9.length : Int) > 0))
      ((0 ≤ (1 : Int) ∧ 1 ≤ (copyInts9.length : Int)) ∧
        k (List.take (copyInts9.length - 1) (List.drop 1 copyInts9)) opick11b opick11p)
      (k copyInts9 opick11b opick11p))
    (br (pick11 == 2)
      (br (decide ((copyInts9.length : Int) > 0))
        (F_spec_reader_pick opick11b opick11p (copyInts9.length : Int) fun pick34 opick34b opick34p =>
          F_spec_reader_one opick34b opick34p ([(-1), n2, 0, 1] : List Int) fun one38 oone38b oone38p =>
          (0 ≤ pick34 ∧ pick34 < (copyInts9.length : Int)) ∧
          k (List.set copyInts9 (Int.toNat pick34) one38) oone38b oone38p)
        (k copyInts9 opick11b opick11p))
      (k copyInts9 opick11b opick11p)))
def S_spec_reader_spoil (r0b : List Int) (r0p : Int) (list1 : List Int) (n2 : Int) (k : List Int → List Int → Int → Prop) : Prop := G_spec_reader_spoil r0b r0p list1 n2 k
def F_spec_reader_spoil (b : List Int) (p : Int) (l : List Int) (n : Int) (k : List Int → List Int → Int → Prop) : Prop :=
  (Bs b ∧ 0 ≤ p ∧ p ≤ 100000000 ∧ l.length ≤ 100000000) ∧ ∀ r p', r.length ≤ l.length + 1 → p ≤ p' → p' ≤ p + 10 → k r b p'
theorem F_spec_reader_spoil_S {b : List Int} {p : Int} {l : List Int} {n : Int} {k : List Int → List Int → Int → Prop} (h : F_spec_reader_spoil b p l n k) : S_spec_reader_spoil b p l n k := by
  obtain ⟨⟨hb, h0, h1, h2⟩, hk⟩ := h
  refine ⟨by omega, ⟨hb, h0, by omega⟩, fun x hx => br_beq.2 ⟨fun _ => ⟨by omega, hk _ _ (by simp) (by omega) (by omega)⟩, fun _ => br_beq.2 ⟨fun _ => br_dec.2 ⟨fun h3 => ⟨⟨by omega, by omega⟩, hk _ _ (by simp; omega) (by omega) (by omega)⟩, fun _ => hk _ _ (by omega) (by omega) (by omega)⟩, fun _ => br_beq.2 ⟨fun _ => br_dec.2 ⟨fun h3 => ?_, fun _ => hk _ _ (by omega) (by omega) (by omega)⟩, fun _ => hk _ _ (by omega) (by omega) (by omega)⟩⟩⟩⟩
  refine ⟨⟨hb, by omega, by omega⟩, fun y hy => ⟨⟨hb, by omega, by omega, by simp⟩, fun z hz => ⟨?_, hk _ _ (by simp) (by omega) (by omega)⟩⟩⟩
  rcases hy with ⟨h4, _⟩ | h4
  · omega
  · exact h4
-- spec.someClock
def T0_spec_someClock_j0 (opick21b : List Int) (opick21p : Int) (pick21 : Int) (xb3c0 : Int) (xb3c1 : List Int) (xb3c2 : List Bool) (xb3c3 : Int) (xn4 : Int) (B0 : Int → List Int → Int → Int → Int → List Int → List Bool → Prop) : Prop :=
  (F_spec_tick xb3c0 xb3c1 xb3c2 xb3c3 pick21 fun tick22Room tick22Keys tick22Used tick22Hand tick22r1 =>
    (InR (xn4 - 1) ∧
      B0 (xn4 - 1) opick21b opick21p tick22Room tick22Hand tick22Keys tick22Used) ∧
    (True)) ∧
  (True)
def T0_spec_someClock (xn4 : Int) (xb100000c0 : List Int) (xb100000c1 : Int) (xb3c0 : Int) (xb3c3 : Int) (xb3c1 : List Int) (xb3c2 : List Bool) (k : Int → List Int → List Bool → Int → List Int → Int → Prop) (B0 : Int → List Int → Int → Int → Int → List Int → List Bool → Prop) : Prop :=
  br (decide (xn4 > 0))
  (((F_spec_reader_pick xb100000c0 xb100000c1 (10 : Int) fun pick21 opick21b opick21p =>
        T0_spec_someClock_j0 opick21b opick21p pick21 xb3c0 xb3c1 xb3c2 xb3c3 xn4 B0) ∧
      (True)) ∧
    ((F_spec_reader_pick xb100000c0 xb100000c1 (10 : Int) fun pick21 opick21b opick21p =>
        (T0_spec_someClock_j0 opick21b opick21p pick21 xb3c0 xb3c1 xb3c2 xb3c3 xn4 B0) ∧
        (True)) ∧
      (True)))
  (F_spec_reader_pick xb100000c0 xb100000c1 (24 : Int) fun pick26 opick26b opick26p =>
    br (pick26 == 0)
    (F_spec_reader_one opick26b opick26p ([(-1), xb3c0, 1] : List Int) fun one33 oone33b oone33p =>
      k xb3c0 xb3c1 xb3c2 one33 oone33b oone33p)
    (br (pick26 == 1)
      (F_spec_reader_spoil opick26b opick26p xb3c1 (32 : Int) fun spoil40 ospoil40b ospoil40p =>
        k xb3c0 spoil40 xb3c2 xb3c3 ospoil40b ospoil40p)
      (br (pick26 == 2)
        ((xb3c2.length + 1 ≤ 1000000000) ∧
          k xb3c0 xb3c1 (xb3c2 ++ ([true] : List Bool)) xb3c3 opick26b opick26p)
        (br (pick26 == 3)
          (F_spec_reader_one opick26b opick26p ([0, 9, 1] : List Int) fun one53 oone53b oone53p =>
            k one53 xb3c1 xb3c2 xb3c3 oone53b oone53p)
          (k xb3c0 xb3c1 xb3c2 xb3c3 opick26b opick26p)))))
def U0_spec_someClock (xn4 : Int) (xb100000c0 : List Int) (xb100000c1 : Int) (xb3c0 : Int) (xb3c3 : Int) (xb3c1 : List Int) (xb3c2 : List Bool) (k : Int → List Int → List Bool → Int → List Int → Int → Prop) (B0 : Int → List Int → Int → Int → Int → List Int → List Bool → Prop) : Prop :=
  br (decide (xn4 > 0))
  (F_spec_reader_pick xb100000c0 xb100000c1 (10 : Int) fun pick21 opick21b opick21p =>
    F_spec_tick xb3c0 xb3c1 xb3c2 xb3c3 pick21 fun tick22Room tick22Keys tick22Used tick22Hand tick22r1 =>
    InR (xn4 - 1) ∧
    B0 (xn4 - 1) opick21b opick21p tick22Room tick22Hand tick22Keys tick22Used)
  (F_spec_reader_pick xb100000c0 xb100000c1 (24 : Int) fun pick26 opick26b opick26p =>
    br (pick26 == 0)
    (F_spec_reader_one opick26b opick26p ([(-1), xb3c0, 1] : List Int) fun one33 oone33b oone33p =>
      k xb3c0 xb3c1 xb3c2 one33 oone33b oone33p)
    (br (pick26 == 1)
      (F_spec_reader_spoil opick26b opick26p xb3c1 (32 : Int) fun spoil40 ospoil40b ospoil40p =>
        k xb3c0 spoil40 xb3c2 xb3c3 ospoil40b ospoil40p)
      (br (pick26 == 2)
        ((xb3c2.length + 1 ≤ 1000000000) ∧
          k xb3c0 xb3c1 (xb3c2 ++ ([true] : List Bool)) xb3c3 opick26b opick26p)
        (br (pick26 == 3)
          (F_spec_reader_one opick26b opick26p ([0, 9, 1] : List Int) fun one53 oone53b oone53p =>
            k one53 xb3c1 xb3c2 xb3c3 oone53b oone53p)
          (k xb3c0 xb3c1 xb3c2 xb3c3 opick26b opick26p)))))
theorem T0_spec_someClock_eq (xn4 : Int) (xb100000c0 : List Int) (xb100000c1 : Int) (xb3c0 : Int) (xb3c3 : Int) (xb3c1 : List Int) (xb3c2 : List Bool) (k : Int → List Int → List Bool → Int → List Int → Int → Prop) (B0 : Int → List Int → Int → Int → Int → List Int → List Bool → Prop) : T0_spec_someClock xn4 xb100000c0 xb100000c1 xb3c0 xb3c3 xb3c1 xb3c2 k B0 = U0_spec_someClock xn4 xb100000c0 xb100000c1 xb3c0 xb3c3 xb3c1 xb3c2 k B0 := by
  simp only [T0_spec_someClock, U0_spec_someClock, T0_spec_someClock_j0, and_self, and_true]
def L0_spec_someClock (k : Int → List Int → List Bool → Int → List Int → Int → Prop) : Nat → Int → List Int → Int → Int → Int → List Int → List Bool → Prop
  | 0, _, _, _, _, _, _, _ => False
  | n + 1, xn4, xb100000c0, xb100000c1, xb3c0, xb3c3, xb3c1, xb3c2 => U0_spec_someClock xn4 xb100000c0 xb100000c1 xb3c0 xb3c3 xb3c1 xb3c2 k (L0_spec_someClock k n)
def G_spec_someClock (r0b : List Int) (r0p : Int) (I0 : Int → List Int → Int → Int → Int → List Int → List Bool → Prop) : Prop :=
  F_spec_reader_one r0b r0p ([2, 3, 4, 1, 8] : List Int) fun one7 oone7b oone7p =>
  F_spec_reader_one oone7b oone7p ([4, 8, 12, 2, 0, 20] : List Int) fun one13 oone13b oone13p =>
  I0 one13 oone13b oone13p one7 0 ([] : List Int) ([] : List Bool)
def S_spec_someClock (r0b : List Int) (r0p : Int) (k : Int → List Int → List Bool → Int → List Int → Int → Prop) : Prop := G_spec_someClock r0b r0p (fun xn4 xb100000c0 xb100000c1 xb3c0 xb3c3 xb3c1 xb3c2 => ∃ j, L0_spec_someClock k j xn4 xb100000c0 xb100000c1 xb3c0 xb3c3 xb3c1 xb3c2)
def F_spec_someClock (b : List Int) (p : Int) (k : Int → List Int → List Bool → Int → List Int → Int → Prop) : Prop :=
  (Bs b ∧ 0 ≤ p ∧ p ≤ 10000000) ∧ ∀ room keys used hand p', keys.length ≤ 100 → used.length ≤ 100 → p ≤ p' → p' ≤ p + 100 → k room keys used hand b p'
theorem F_spec_someClock_S {b : List Int} {p : Int} {k : Int → List Int → List Bool → Int → List Int → Int → Prop} (h : F_spec_someClock b p k) : S_spec_someClock b p k := by
  obtain ⟨⟨hb, h0, h1⟩, hk⟩ := h
  have key : ∀ (d : Nat) (q room hand : Int) (keys : List Int) (used : List Bool), VClock room keys used hand → p ≤ q → q + d ≤ p + 50 → L0_spec_someClock k (d + 1) (d : Int) b q room hand keys used := by
    intro d
    induction d with
    | zero =>
      intro q room hand keys used v g1 g2
      have v' := v
      obtain ⟨⟨v1, v2, v3, v4, v5⟩, v6, v7, v8⟩ := v
      rw [L0_spec_someClock, U0_spec_someClock]
      refine br_dec.2 ⟨fun h => by omega, fun _ => ⟨⟨hb, by omega, by omega⟩, fun x hx => br_beq.2 ⟨fun _ => ⟨⟨hb, by omega, by omega, by simp⟩, fun y _ => hk _ _ _ _ _ (by omega) (by omega) (by omega) (by omega)⟩, fun _ => br_beq.2 ⟨fun _ => ⟨⟨hb, by omega, by omega, by omega⟩, fun r p' r1 r2 r3 => hk _ _ _ _ _ (by omega) (by omega) (by omega) (by omega)⟩, fun _ => br_beq.2 ⟨fun _ => ⟨by omega, hk _ _ _ _ _ (by omega) (by simp; omega) (by omega) (by omega)⟩, fun _ => br_beq.2 ⟨fun _ => ⟨⟨hb, by omega, by omega, by simp⟩, fun y _ => hk _ _ _ _ _ (by omega) (by omega) (by omega) (by omega)⟩, fun _ => hk _ _ _ _ _ (by omega) (by omega) (by omega) (by omega)⟩⟩⟩⟩⟩⟩
    | succ d ih =>
      intro q room hand keys used v g1 g2
      rw [L0_spec_someClock, U0_spec_someClock]
      refine br_dec.2 ⟨fun _ => ⟨⟨hb, by omega, by omega⟩, fun x hx => ⟨v, inR (by omega) (by omega), ?_⟩⟩, fun h => by omega⟩
      rw [show ((d + 1 : Nat) : Int) - 1 = (d : Int) by omega]
      refine ih _ _ _ _ _ (tick_valid v ?_) (by omega) (by omega)
      unfold Pk at hx; omega
  refine ⟨⟨hb, by omega, by omega, by simp⟩, fun room hroom => ⟨⟨hb, by omega, by omega, by simp⟩, fun n hn => ?_⟩⟩
  simp only [List.mem_cons, List.not_mem_nil, or_false] at hroom hn
  refine ⟨n.toNat + 1, ?_⟩
  have := key n.toNat (p + 1 + 1) room 0 [] [] ⟨⟨by omega, by omega, by simp; omega, by simp, by simp⟩, rfl, fun _ => rfl, fun h => by simp at h; omega⟩ (by omega) (by omega)
  rwa [Int.toNat_of_nonneg (by omega)] at this
-- spec.someKey
def G_spec_someKey (r0b : List Int) (r0p : Int) (k : Int → List Int → Int → Prop) : Prop :=
  F_spec_reader_pick r0b r0p (8 : Int) fun pick5 opick5b opick5p =>
  F_spec_reader_pick opick5b opick5p (8 : Int) fun pick7 opick7b opick7p =>
  F_spec_reader_pick opick7b opick7p (32 : Int) fun pick9 opick9b opick9p =>
  F_spec_reader_one opick9b opick9p ([0, 1, 2, 3, 5, 31, 32, (-1), pick5, pick7, pick9, 4] : List Int) fun one11 oone11b oone11p =>
  k one11 oone11b oone11p
def S_spec_someKey (r0b : List Int) (r0p : Int) (k : Int → List Int → Int → Prop) : Prop := G_spec_someKey r0b r0p k
def F_spec_someKey (b : List Int) (p : Int) (k : Int → List Int → Int → Prop) : Prop := (Bs b ∧ 0 ≤ p ∧ p ≤ 100000000) ∧ ∀ x p', -1 ≤ x → x ≤ 32 → p ≤ p' → p' ≤ p + 10 → k x b p'
theorem F_spec_someKey_S {b : List Int} {p : Int} {k : Int → List Int → Int → Prop} (h : F_spec_someKey b p k) : S_spec_someKey b p k := by
  obtain ⟨⟨hb, h0, h1⟩, hk⟩ := h
  refine ⟨⟨hb, by omega, by omega⟩, fun x hx => ⟨⟨hb, by omega, by omega⟩, fun y hy => ⟨⟨hb, by omega, by omega⟩, fun z hz => ⟨⟨hb, by omega, by omega, by simp⟩, fun u hu => ?_⟩⟩⟩⟩
  unfold Pk at hx hy hz
  simp only [List.mem_cons, List.not_mem_nil, or_false] at hu
  exact hk _ _ (by omega) (by omega) (by omega) (by omega)
-- spec.DrawUseClock
def G_spec_DrawUseClock (code0 : List Int) (k : Int → List Int → List Bool → Int → Int → Prop) : Prop :=
  F_spec_newReader code0 fun newReader7b newReader7p =>
  F_spec_someClock newReader7b newReader7p fun someClock9Room someClock9Keys someClock9Used someClock9Hand osomeClock9b osomeClock9p =>
  (F_spec_someKey osomeClock9b osomeClock9p fun someKey12 osomeKey12b osomeKey12p =>
    (k someClock9Room someClock9Keys someClock9Used someClock9Hand someKey12) ∧
    (True)) ∧
  (True)
def H_spec_DrawUseClock (code0 : List Int) (k : Int → List Int → List Bool → Int → Int → Prop) : Prop :=
  F_spec_newReader code0 fun newReader7b newReader7p =>
  F_spec_someClock newReader7b newReader7p fun someClock9Room someClock9Keys someClock9Used someClock9Hand osomeClock9b osomeClock9p =>
  F_spec_someKey osomeClock9b osomeClock9p fun someKey12 osomeKey12b osomeKey12p =>
  k someClock9Room someClock9Keys someClock9Used someClock9Hand someKey12
theorem G_spec_DrawUseClock_eq (code0 : List Int) (k : Int → List Int → List Bool → Int → Int → Prop) : G_spec_DrawUseClock code0 k = H_spec_DrawUseClock code0 k := by
  simp only [G_spec_DrawUseClock, H_spec_DrawUseClock, and_self, and_true]
def S_spec_DrawUseClock (code0 : List Int) (k : Int → List Int → List Bool → Int → Int → Prop) : Prop := H_spec_DrawUseClock code0 k
def F_spec_DrawUseClock (code : List Int) (k : Int → List Int → List Bool → Int → Int → Prop) : Prop :=
  (∀ x ∈ code, 0 ≤ x ∧ x ≤ 255) ∧ ∀ room keys used hand key, keys.length ≤ 100 → used.length ≤ 100 → k room keys used hand key
theorem F_spec_DrawUseClock_S {code : List Int} {k : Int → List Int → List Bool → Int → Int → Prop} (h : F_spec_DrawUseClock code k) : S_spec_DrawUseClock code k :=
  ⟨h.1, fun b hb => ⟨⟨hb, by omega, by omega⟩, fun room keys used hand p' l1 l2 _ _ => ⟨⟨hb, by omega, by omega⟩, fun key _ _ _ _ _ => h.2 _ _ _ _ _ l1 l2⟩⟩⟩
-- impl.validRoom
def G_impl_validRoom (room0 : Int) (k : Bool → Prop) : Prop :=
  br (decide (1 ≤ room0))
  (k (decide (room0 ≤ 8)))
  (k false)
def S_impl_validRoom (room0 : Int) (k : Bool → Prop) : Prop := G_impl_validRoom room0 k
def F_impl_validRoom (n : Int) (k : Bool → Prop) : Prop := k (decide (1 ≤ n ∧ n ≤ 8))
theorem F_impl_validRoom_S {n : Int} {k : Bool → Prop} (h : F_impl_validRoom n k) : S_impl_validRoom n k := by
  unfold F_impl_validRoom at h
  simp only [S_impl_validRoom, G_impl_validRoom, br_dec]
  refine ⟨fun h1 => ?_, fun h1 => ?_⟩
  · simpa [h1] using h
  · simpa [h1] using h
-- impl.validKey
def G_impl_validKey (key0 : Int) (k : Bool → Prop) : Prop :=
  br (decide (0 ≤ key0))
  (k (decide (key0 ≤ 31)))
  (k false)
def S_impl_validKey (key0 : Int) (k : Bool → Prop) : Prop := G_impl_validKey key0 k
def F_impl_validKey (n : Int) (k : Bool → Prop) : Prop := k (decide (0 ≤ n ∧ n ≤ 31))
theorem F_impl_validKey_S {n : Int} {k : Bool → Prop} (h : F_impl_validKey n k) : S_impl_validKey n k := by
  unfold F_impl_validKey at h
  simp only [S_impl_validKey, G_impl_validKey, br_dec]
  refine ⟨fun h1 => ?_, fun h1 => ?_⟩
  · simpa [h1] using h
  · simpa [h1] using h
-- slices.Index[[]int,int]
def T0_slices_Index_sint_int (s0 : List Int) (v1 : Int) (xt7 : Int) (xt8 : Int) (k : Int → Prop) (B0 : Int → Prop) : Prop :=
  br (decide (xt8 < xt7))
  ((0 ≤ xt8 ∧ xt8 < (s0.length : Int)) ∧
    br (v1 == (List.getD s0 (Int.toNat xt8) (0 : Int)))
    (k xt8)
    (InR (xt8 + 1) ∧
      B0 (xt8 + 1)))
  (k (-1))
def L0_slices_Index_sint_int (s0 : List Int) (v1 : Int) (xt7 : Int) (k : Int → Prop) : Nat → Int → Prop
  | 0, _ => False
  | n + 1, xt8 => T0_slices_Index_sint_int s0 v1 xt7 xt8 k (L0_slices_Index_sint_int s0 v1 xt7 k n)
def G_slices_Index_sint_int (s0 : List Int) (v1 : Int) (I0 : List Int → Int → Int → Int → Prop) : Prop :=
  I0 s0 v1 (s0.length : Int) 0
def S_slices_Index_sint_int (s0 : List Int) (v1 : Int) (k : Int → Prop) : Prop := G_slices_Index_sint_int s0 v1 (fun s0 v1 xt7 xt8 => ∃ j, L0_slices_Index_sint_int s0 v1 xt7 k j xt8)
def F_slices_Index_sint_int (l : List Int) (n : Int) (k : Int → Prop) : Prop := l.length ≤ 1000000000 ∧ k (plc l n)
theorem F_slices_Index_sint_int_S {l : List Int} {n : Int} {k : Int → Prop} (h : F_slices_Index_sint_int l n k) : S_slices_Index_sint_int l n k := by
  obtain ⟨hl, hk⟩ := h
  have key : ∀ (r : List Int) (i : Nat), l.drop i = r → plcF r n i = plc l n → L0_slices_Index_sint_int l n (l.length : Int) k (r.length + 1) (i : Int) := by
    intro r
    induction r with
    | nil =>
      intro i hd he
      have := drop_nil' hd
      rw [L0_slices_Index_sint_int, T0_slices_Index_sint_int]
      simp only [br_dec]
      exact ⟨fun h => by omega, fun _ => by rw [show (-1 : Int) = plc l n from he]; exact hk⟩
    | cons x r ih =>
      intro i hd he
      obtain ⟨h1, h2, _, h3, _⟩ := drop_cons' hd
      rw [List.length_cons, L0_slices_Index_sint_int, T0_slices_Index_sint_int]
      simp only [br_dec, br_beq, Int.toNat_natCast, h2]
      refine ⟨fun _ => ⟨⟨by omega, by omega⟩, fun hx => ?_, fun hx => ⟨inR (by omega) (by omega), ?_⟩⟩, fun h => by omega⟩
      · simp only [plcF, if_pos hx.symm] at he; rw [he]; exact hk
      · simp only [plcF, if_neg (Ne.symm hx)] at he; exact ih (i + 1) h3 he
  exact ⟨_, key l 0 rfl rfl⟩
-- slices.Contains[[]int,int]
def G_slices_Contains_sint_int (s0 : List Int) (v1 : Int) (k : Bool → Prop) : Prop :=
  F_slices_Index_sint_int s0 v1 fun index7 =>
  k (decide (index7 ≥ 0))
def S_slices_Contains_sint_int (s0 : List Int) (v1 : Int) (k : Bool → Prop) : Prop := G_slices_Contains_sint_int s0 v1 k
def F_slices_Contains_sint_int (l : List Int) (n : Int) (k : Bool → Prop) : Prop := l.length ≤ 1000000000 ∧ k (decide (n ∈ l))
theorem F_slices_Contains_sint_int_S {l : List Int} {n : Int} {k : Bool → Prop} (h : F_slices_Contains_sint_int l n k) : S_slices_Contains_sint_int l n k := by
  refine ⟨h.1, ?_⟩
  have : decide (plc l n ≥ 0) = decide (n ∈ l) := decide_eq_decide.2 plc_ge
  show k (decide (plc l n ≥ 0))
  rw [this]; exact h.2
-- impl.differentKeys
def T0_impl_differentKeys (list0 : List Int) (xt6 : Int) (xt7 : Int) (k : Bool → Prop) (B0 : Int → Prop) : Prop :=
  br (decide (xt7 < xt6))
  ((0 ≤ xt7 ∧ xt7 < (list0.length : Int)) ∧
    F_impl_validKey (List.getD list0 (Int.toNat xt7) (0 : Int)) fun validKey13 =>
    br (!validKey13)
    (k false)
    ((0 ≤ xt7 ∧ xt7 ≤ (list0.length : Int)) ∧
      F_slices_Contains_sint_int (List.take (Int.toNat xt7) list0) (List.getD list0 (Int.toNat xt7) (0 : Int)) fun contains20 =>
      br contains20
      (k false)
      (InR (xt7 + 1) ∧
        B0 (xt7 + 1))))
  (k true)
def L0_impl_differentKeys (list0 : List Int) (xt6 : Int) (k : Bool → Prop) : Nat → Int → Prop
  | 0, _ => False
  | n + 1, xt7 => T0_impl_differentKeys list0 xt6 xt7 k (L0_impl_differentKeys list0 xt6 k n)
def G_impl_differentKeys (list0 : List Int) (I0 : List Int → Int → Int → Prop) : Prop :=
  I0 list0 (list0.length : Int) 0
def S_impl_differentKeys (list0 : List Int) (k : Bool → Prop) : Prop := G_impl_differentKeys list0 (fun list0 xt6 xt7 => ∃ j, L0_impl_differentKeys list0 xt6 k j xt7)
def F_impl_differentKeys (l : List Int) (k : Bool → Prop) : Prop := l.length ≤ 1000000000 ∧ ∀ b : Bool, (b = true ↔ (∀ x ∈ l, 0 ≤ x ∧ x ≤ 31) ∧ l.Nodup) → k b
theorem F_impl_differentKeys_S {l : List Int} {k : Bool → Prop} (h : F_impl_differentKeys l k) : S_impl_differentKeys l k := by
  obtain ⟨hl, h⟩ := h
  have hno : ¬ ((∀ x ∈ l, 0 ≤ x ∧ x ≤ 31) ∧ l.Nodup) → k false := fun hv => h false (by simp only [Bool.false_eq_true, false_iff]; exact hv)
  have key : ∀ (r : List Int) (i : Nat), l.drop i = r → (∀ x ∈ l.take i, 0 ≤ x ∧ x ≤ 31) → (l.take i).Nodup → L0_impl_differentKeys l (l.length : Int) k (r.length + 1) (i : Int) := by
    intro r
    induction r with
    | nil =>
      intro i hd he hn
      have := drop_nil' hd
      rw [List.take_of_length_le this] at he hn
      rw [L0_impl_differentKeys, T0_impl_differentKeys]
      simp only [br_dec]
      exact ⟨fun h => by omega, fun _ => h true (by simp only [true_iff]; exact ⟨he, hn⟩)⟩
    | cons x r ih =>
      intro i hd he hn
      obtain ⟨h1, h2, h5, h3, h4⟩ := drop_cons' hd
      rw [List.length_cons, L0_impl_differentKeys, T0_impl_differentKeys]
      simp only [br_dec, F_impl_validKey, F_slices_Contains_sint_int, Int.toNat_natCast, h2, br_not]
      have hxl : x ∈ l := List.mem_of_getElem? h5
      refine ⟨fun _ => ⟨⟨by omega, by omega⟩, fun hx => ⟨⟨by omega, by omega⟩, by simp; omega, fun hc => ?_, fun hc => ⟨inR (by omega) (by omega), ?_⟩⟩, fun hx => hno fun v => hx (v.1 x hxl)⟩, fun h => by omega⟩
      · refine hno fun v => ?_
        have hn2 := v.2
        rw [← List.take_append_drop i l, hd] at hn2
        exact (List.nodup_append.1 hn2).2.2 x hc x (by simp) rfl
      · refine ih (i + 1) h3 ?_ ?_
        · rw [h4]; intro y hy
          rcases List.mem_append.1 hy with hy | hy
          · exact he y hy
          · simp at hy; subst hy; exact hx
        · rw [h4, List.nodup_append]
          refine ⟨hn, by simp, fun a ha b hb e => ?_⟩
          simp at hb; subst hb; subst e; exact hc ha
  exact ⟨_, key l 0 rfl (by simp) (by simp)⟩
-- impl.ValidKeys
def G_impl_ValidKeys (list0 : List Int) (room1 : Int) (k : Bool → Prop) : Prop :=
  F_impl_validRoom room1 fun validRoom6 =>
  br validRoom6
  (br (decide ((list0.length : Int) ≤ room1))
    (F_impl_differentKeys list0 fun differentKeys15 =>
      k differentKeys15)
    (k false))
  (k false)
def S_impl_ValidKeys (list0 : List Int) (room1 : Int) (k : Bool → Prop) : Prop := G_impl_ValidKeys list0 room1 k
def F_impl_ValidKeys (l : List Int) (room : Int) (k : Bool → Prop) : Prop := ∀ b : Bool, (b = true ↔ VKeys l room) → k b
theorem F_impl_ValidKeys_S {l : List Int} {room : Int} {k : Bool → Prop} (h : F_impl_ValidKeys l room k) : S_impl_ValidKeys l room k := by
  have hno : ¬ VKeys l room → k false := fun hv => h false (by simp [hv])
  refine br_dec.2 ⟨fun h1 => br_dec.2 ⟨fun h3 => ⟨by omega, fun b hb => h b ?_⟩, fun h3 => hno fun v => by have := v.2.2.1; omega⟩, fun h1 => hno fun v => h1 ⟨v.1, v.2.1⟩⟩
  rw [hb]
  exact ⟨fun g => ⟨h1.1, h1.2, h3, g.1, g.2⟩, fun v => v.2.2.2⟩
-- impl.ValidClock
def G_impl_ValidClock (c0Room : Int) (c0Keys : List Int) (c0Used : List Bool) (c0Hand : Int) (k : Bool → Prop) : Prop :=
  F_impl_ValidKeys c0Keys c0Room fun validKeys7 =>
  br (!validKeys7)
  (k false)
  (br ((c0Used.length : Int) != (c0Keys.length : Int))
    (k false)
    (br (decide ((c0Keys.length : Int) < c0Room))
      (k (c0Hand == 0))
      (br (decide (0 ≤ c0Hand))
        (k (decide (c0Hand < (c0Keys.length : Int))))
        (k false))))
def S_impl_ValidClock (c0Room : Int) (c0Keys : List Int) (c0Used : List Bool) (c0Hand : Int) (k : Bool → Prop) : Prop := G_impl_ValidClock c0Room c0Keys c0Used c0Hand k
def F_impl_ValidClock (room : Int) (keys : List Int) (used : List Bool) (hand : Int) (k : Bool → Prop) : Prop := ∀ b : Bool, (b = true ↔ VClock room keys used hand) → k b
theorem F_impl_ValidClock_S {room : Int} {keys : List Int} {used : List Bool} {hand : Int} {k : Bool → Prop} (h : F_impl_ValidClock room keys used hand k) : S_impl_ValidClock room keys used hand k := by
  have hno : ¬ VClock room keys used hand → k false := fun hv => h false (by simp [hv])
  simp only [S_impl_ValidClock, G_impl_ValidClock, F_impl_ValidKeys]
  intro b hb
  rw [br_not, br_iff]
  refine ⟨fun e => ?_, fun e => hno fun v => by rw [hb.2 v.1] at e; cases e⟩
  have hv := hb.1 e
  refine br_bne.2 ⟨fun h2 => hno fun v => h2 (by rw [v.2.1]), fun h2 => br_dec.2 ⟨fun h3 => h _ ?_, fun h3 => br_dec.2 ⟨fun h4 => h _ ?_, fun h4 => hno fun v => h4 ?_⟩⟩⟩
  · simp only [beq_iff_eq]
    exact ⟨fun e => ⟨hv, by omega, fun _ => e, fun h => by omega⟩, fun v => v.2.2.1 h3⟩
  · simp only [decide_eq_true_eq]
    have := hv.2.2.1
    exact ⟨fun e => ⟨hv, by omega, fun h => absurd h h3, fun _ => ⟨h4, e⟩⟩, fun v => (v.2.2.2 (by omega)).2⟩
  · have := hv.2.2.1
    exact (v.2.2.2 (by omega)).1
-- impl.nextPlace
def G_impl_nextPlace (c0Room : Int) (c0Keys : List Int) (c0Used : List Bool) (c0Hand : Int) (k : Int → Prop) : Prop :=
  InR (c0Hand + 1) ∧
  ((c0Keys.length : Int) ≠ 0) ∧
  k (Int.tmod (c0Hand + 1) (c0Keys.length : Int))
def S_impl_nextPlace (c0Room : Int) (c0Keys : List Int) (c0Used : List Bool) (c0Hand : Int) (k : Int → Prop) : Prop := G_impl_nextPlace c0Room c0Keys c0Used c0Hand k
abbrev F_impl_nextPlace (c0Room : Int) (c0Keys : List Int) (c0Used : List Bool) (c0Hand : Int) (k : Int → Prop) : Prop := S_impl_nextPlace c0Room c0Keys c0Used c0Hand k
theorem F_impl_nextPlace_S {c0Room : Int} {c0Keys : List Int} {c0Used : List Bool} {c0Hand : Int} {k : Int → Prop} (h : F_impl_nextPlace c0Room c0Keys c0Used c0Hand k) : S_impl_nextPlace c0Room c0Keys c0Used c0Hand k := h
-- impl.UseClock
def T0_impl_UseClock (c0Keys : List Int) (c0Room : Int) (key1 : Int) (xb6c3 : Int) (xy26 : List Bool) (k : Int → List Int → List Bool → Int → Bool → Prop) (B0 : Int → List Bool → Prop) : Prop :=
  (0 ≤ xb6c3 ∧ xb6c3 < (xy26.length : Int)) ∧
  br (List.getD xy26 (Int.toNat xb6c3) false)
  ((0 ≤ xb6c3 ∧ xb6c3 < (xy26.length : Int)) ∧
    F_impl_nextPlace c0Room c0Keys (List.set xy26 (Int.toNat xb6c3) false) xb6c3 fun nextPlace71 =>
    B0 nextPlace71 (List.set xy26 (Int.toNat xb6c3) false))
  ((0 ≤ xb6c3 ∧ xb6c3 < (c0Keys.length : Int)) ∧
    F_impl_nextPlace c0Room (List.set c0Keys (Int.toNat xb6c3) key1) xy26 xb6c3 fun nextPlace80 =>
    k c0Room (List.set c0Keys (Int.toNat xb6c3) key1) xy26 nextPlace80 false)
def L0_impl_UseClock (c0Keys : List Int) (c0Room : Int) (key1 : Int) (k : Int → List Int → List Bool → Int → Bool → Prop) : Nat → Int → List Bool → Prop
  | 0, _, _ => False
  | n + 1, xb6c3, xy26 => T0_impl_UseClock c0Keys c0Room key1 xb6c3 xy26 k (L0_impl_UseClock c0Keys c0Room key1 k n)
def G_impl_UseClock_j0 (c0Hand : Int) (c0Keys : List Int) (c0Room : Int) (c0Used : List Bool) (key1 : Int) (k : Int → List Int → List Bool → Int → Bool → Prop) (I0 : List Int → Int → Int → Int → List Bool → Prop) : Prop :=
  (F_slices_Index_sint_int c0Keys key1 fun index33 =>
    br (decide (index33 ≥ 0))
    ((0 ≤ index33 ∧ index33 < (c0Used.length : Int)) ∧
      k c0Room c0Keys (List.set c0Used (Int.toNat index33) true) c0Hand true)
    (br (decide ((c0Keys.length : Int) < c0Room))
      ((c0Keys.length + 1 ≤ 1000000000) ∧
        (c0Used.length + 1 ≤ 1000000000) ∧
        k c0Room (c0Keys ++ ([key1] : List Int)) (c0Used ++ ([false] : List Bool)) c0Hand false)
      (I0 c0Keys c0Room key1 c0Hand c0Used))) ∧
  (True)
def G_impl_UseClock_j1 (c0Hand : Int) (c0Keys : List Int) (c0Room : Int) (c0Used : List Bool) (key1 : Int) (k : Int → List Int → List Bool → Int → Bool → Prop) (I0 : List Int → Int → Int → Int → List Bool → Prop) : Prop :=
  ((0 + c0Used.length ≤ 1000000000) ∧
    G_impl_UseClock_j0 c0Hand c0Keys c0Room c0Used key1 k I0) ∧
  (True)
def G_impl_UseClock_j2 (c0Hand : Int) (c0Keys : List Int) (c0Room : Int) (c0Used : List Bool) (key1 : Int) (k : Int → List Int → List Bool → Int → Bool → Prop) (I0 : List Int → Int → Int → Int → List Bool → Prop) : Prop :=
  (G_impl_UseClock_j1 c0Hand c0Keys c0Room c0Used key1 k I0) ∧
  (True)
def G_impl_UseClock_j3 (c0Hand : Int) (c0Keys : List Int) (c0Room : Int) (c0Used : List Bool) (key1 : Int) (k : Int → List Int → List Bool → Int → Bool → Prop) (I0 : List Int → Int → Int → Int → List Bool → Prop) : Prop :=
  ((0 + c0Used.length ≤ 1000000000) ∧
    (G_impl_UseClock_j0 c0Hand c0Keys c0Room c0Used key1 k I0) ∧
    (True)) ∧
  (G_impl_UseClock_j2 c0Hand c0Keys c0Room c0Used key1 k I0)
def G_impl_UseClock_j4 (c0Hand : Int) (c0Keys : List Int) (c0Room : Int) (c0Used : List Bool) (key1 : Int) (k : Int → List Int → List Bool → Int → Bool → Prop) (I0 : List Int → Int → Int → Int → List Bool → Prop) : Prop :=
  (((0 + c0Keys.length ≤ 1000000000) ∧
      G_impl_UseClock_j1 c0Hand c0Keys c0Room c0Used key1 k I0) ∧
    (True)) ∧
  (True)
def G_impl_UseClock_j5 (c0Hand : Int) (c0Keys : List Int) (c0Room : Int) (c0Used : List Bool) (key1 : Int) (k : Int → List Int → List Bool → Int → Bool → Prop) (I0 : List Int → Int → Int → Int → List Bool → Prop) : Prop :=
  ((0 + c0Keys.length ≤ 1000000000) ∧
    G_impl_UseClock_j3 c0Hand c0Keys c0Room c0Used key1 k I0) ∧
  (G_impl_UseClock_j4 c0Hand c0Keys c0Room c0Used key1 k I0)
def G_impl_UseClock_j6 (c0Hand : Int) (c0Keys : List Int) (c0Room : Int) (c0Used : List Bool) (key1 : Int) (k : Int → List Int → List Bool → Int → Bool → Prop) (I0 : List Int → Int → Int → Int → List Bool → Prop) : Prop :=
  ((0 + c0Keys.length ≤ 1000000000) ∧
    G_impl_UseClock_j2 c0Hand c0Keys c0Room c0Used key1 k I0) ∧
  (G_impl_UseClock_j4 c0Hand c0Keys c0Room c0Used key1 k I0)
def G_impl_UseClock_j7 (c0Hand : Int) (c0Keys : List Int) (c0Room : Int) (c0Used : List Bool) (key1 : Int) (k : Int → List Int → List Bool → Int → Bool → Prop) (I0 : List Int → Int → Int → Int → List Bool → Prop) : Prop :=
  (G_impl_UseClock_j4 c0Hand c0Keys c0Room c0Used key1 k I0) ∧
  (True)
def G_impl_UseClock (c0Room : Int) (c0Keys : List Int) (c0Used : List Bool) (c0Hand : Int) (key1 : Int) (k : Int → List Int → List Bool → Int → Bool → Prop) (I0 : List Int → Int → Int → Int → List Bool → Prop) : Prop :=
  F_impl_ValidClock c0Room c0Keys c0Used c0Hand fun validClock9 =>
  br (!validClock9)
  (k 0 ([] : List Int) ([] : List Bool) 0 false)
  (F_impl_validKey key1 fun validKey13 =>
    br (!validKey13)
    (k 0 ([] : List Int) ([] : List Bool) 0 false)
    ((((0 + c0Keys.length ≤ 1000000000) ∧
          (G_impl_UseClock_j3 c0Hand c0Keys c0Room c0Used key1 k I0) ∧
          ((G_impl_UseClock_j2 c0Hand c0Keys c0Room c0Used key1 k I0) ∧
            (True))) ∧
        ((G_impl_UseClock_j5 c0Hand c0Keys c0Room c0Used key1 k I0) ∧
          ((G_impl_UseClock_j6 c0Hand c0Keys c0Room c0Used key1 k I0) ∧
            (True)))) ∧
      (((G_impl_UseClock_j5 c0Hand c0Keys c0Room c0Used key1 k I0) ∧
          (G_impl_UseClock_j7 c0Hand c0Keys c0Room c0Used key1 k I0)) ∧
        (((G_impl_UseClock_j6 c0Hand c0Keys c0Room c0Used key1 k I0) ∧
            (G_impl_UseClock_j7 c0Hand c0Keys c0Room c0Used key1 k I0)) ∧
          (True)))))
def H_impl_UseClock (c0Room : Int) (c0Keys : List Int) (c0Used : List Bool) (c0Hand : Int) (key1 : Int) (k : Int → List Int → List Bool → Int → Bool → Prop) (I0 : List Int → Int → Int → Int → List Bool → Prop) : Prop :=
  F_impl_ValidClock c0Room c0Keys c0Used c0Hand fun validClock9 =>
  br (!validClock9)
  (k 0 ([] : List Int) ([] : List Bool) 0 false)
  (F_impl_validKey key1 fun validKey13 =>
    br (!validKey13)
    (k 0 ([] : List Int) ([] : List Bool) 0 false)
    ((0 + c0Keys.length ≤ 1000000000) ∧
      (0 + c0Used.length ≤ 1000000000) ∧
      F_slices_Index_sint_int c0Keys key1 fun index33 =>
      br (decide (index33 ≥ 0))
      ((0 ≤ index33 ∧ index33 < (c0Used.length : Int)) ∧
        k c0Room c0Keys (List.set c0Used (Int.toNat index33) true) c0Hand true)
      (br (decide ((c0Keys.length : Int) < c0Room))
        ((c0Keys.length + 1 ≤ 1000000000) ∧
          (c0Used.length + 1 ≤ 1000000000) ∧
          k c0Room (c0Keys ++ ([key1] : List Int)) (c0Used ++ ([false] : List Bool)) c0Hand false)
        (I0 c0Keys c0Room key1 c0Hand c0Used))))
theorem G_impl_UseClock_eq (c0Room : Int) (c0Keys : List Int) (c0Used : List Bool) (c0Hand : Int) (key1 : Int) (k : Int → List Int → List Bool → Int → Bool → Prop) (I0 : List Int → Int → Int → Int → List Bool → Prop) : G_impl_UseClock c0Room c0Keys c0Used c0Hand key1 k I0 = H_impl_UseClock c0Room c0Keys c0Used c0Hand key1 k I0 := by
  simp only [G_impl_UseClock, H_impl_UseClock, G_impl_UseClock_j0, G_impl_UseClock_j1, G_impl_UseClock_j2, G_impl_UseClock_j3, G_impl_UseClock_j4, G_impl_UseClock_j5, G_impl_UseClock_j6, G_impl_UseClock_j7, and_self, and_true]
def S_impl_UseClock (c0Room : Int) (c0Keys : List Int) (c0Used : List Bool) (c0Hand : Int) (key1 : Int) (k : Int → List Int → List Bool → Int → Bool → Prop) : Prop := H_impl_UseClock c0Room c0Keys c0Used c0Hand key1 k (fun c0Keys c0Room key1 xb6c3 xy26 => ∃ j, L0_impl_UseClock c0Keys c0Room key1 k j xb6c3 xy26)
def F_impl_UseClock (room : Int) (keys : List Int) (used : List Bool) (hand key : Int) (k : Int → List Int → List Bool → Int → Bool → Prop) : Prop :=
  ((VClock room keys used hand ∧ 0 ≤ key ∧ key ≤ 31) → k room (tickM room keys used hand key).1 (tickM room keys used hand key).2.1 (tickM room keys used hand key).2.2.1 (tickM room keys used hand key).2.2.2) ∧
  (¬ (VClock room keys used hand ∧ 0 ≤ key ∧ key ≤ 31) → k 0 [] [] 0 false)
theorem F_impl_UseClock_S {room : Int} {keys : List Int} {used : List Bool} {hand key : Int} {k : Int → List Int → List Bool → Int → Bool → Prop} (h : F_impl_UseClock room keys used hand key k) : S_impl_UseClock room keys used hand key k := by
  obtain ⟨hyes, hno⟩ := h
  intro b hb
  rw [br_not, br_iff]
  refine ⟨fun e => br_not.2 (br_dec.2 ⟨fun hkey => ?_, fun hkey => hno fun w => hkey w.2⟩), fun e => hno fun w => by rw [hb.2 w.1] at e; cases e⟩
  have v := hb.1 e
  have hk := hyes ⟨v, hkey⟩
  obtain ⟨⟨v1, v2, v3, v4, v5⟩, v6, v7, v8⟩ := v
  have key1 : (keys.length : Int) = room → ∀ (f : Nat) (u : List Bool) (h : Nat), u.length = keys.length → h < u.length → u.count true < f →
      k room (keys.set (sweep f u h).2 key) (sweep f u h).1 (((sweep f u h).2 + 1) % keys.length : Nat) false → L0_impl_UseClock keys room key k f (h : Int) u := by
    intro hr f
    induction f with
    | zero => intro u h _ _ h3; omega
    | succ f ih =>
      intro u h h1 h2 h3 h4
      unfold sweep at h4
      rw [L0_impl_UseClock, T0_impl_UseClock]
      simp only [br_iff, Int.toNat_natCast]
      refine ⟨⟨by omega, by omega⟩, fun hu => ⟨⟨by omega, by omega⟩, inR (by omega) (by omega), by omega, ?_⟩, fun hu => ⟨⟨by omega, by omega⟩, inR (by omega) (by omega), by rw [List.length_set]; omega, ?_⟩⟩
      · rw [if_pos hu] at h4
        rw [tmod_next, ← h1]
        have := count_clear hu
        refine ih _ _ (by simp [h1]) (by rw [List.length_set]; exact Nat.mod_lt _ (by omega)) (by omega) h4
      · rw [if_neg (by rw [hu]; simp)] at h4
        rw [List.length_set, tmod_next]
        exact h4
  refine ⟨by omega, by omega, by omega, br_dec.2 ⟨fun hp => ?_, fun hp => br_dec.2 ⟨fun hl => ?_, fun hl => ?_⟩⟩⟩
  · have hm := plc_ge.1 hp
    unfold tickM at hk
    rw [if_pos hm] at hk
    obtain ⟨j, j1, _, _, j2⟩ := plc_pos hm
    exact ⟨⟨by omega, by omega⟩, hk⟩
  · have hm : key ∉ keys := fun e => hp (plc_ge.2 e)
    unfold tickM at hk
    rw [if_neg hm, if_pos hl] at hk
    exact ⟨by omega, by omega, hk⟩
  · have hm : key ∉ keys := fun e => hp (plc_ge.2 e)
    unfold tickM at hk
    rw [if_neg hm, if_neg hl] at hk
    obtain ⟨w1, w2⟩ := v8 (by omega)
    refine ⟨used.length + 1, ?_⟩
    have := key1 (by omega) (used.length + 1) used hand.toNat v6 (by omega) (Nat.lt_succ_of_le List.count_le_length) hk
    rwa [Int.toNat_of_nonneg w1] at this
-- spec.inRange
def G_spec_inRange (n0 : Int) (low1 : Int) (high2 : Int) (k : Bool → Prop) : Prop :=
  br (decide (low1 ≤ n0))
  (k (decide (n0 ≤ high2)))
  (k false)
def S_spec_inRange (n0 : Int) (low1 : Int) (high2 : Int) (k : Bool → Prop) : Prop := G_spec_inRange n0 low1 high2 k
def F_spec_inRange (n low high : Int) (k : Bool → Prop) : Prop := k (decide (low ≤ n ∧ n ≤ high))
theorem F_spec_inRange_S {n low high : Int} {k : Bool → Prop} (h : F_spec_inRange n low high k) : S_spec_inRange n low high k := by
  unfold F_spec_inRange at h
  simp only [S_spec_inRange, G_spec_inRange, br_dec]
  refine ⟨fun h1 => ?_, fun h1 => ?_⟩
  · simpa [h1] using h
  · simpa [h1] using h
-- spec.allIn
def T0_spec_allIn (high2 : Int) (list0 : List Int) (low1 : Int) (xi7 : Int) (k : Bool → Prop) (B0 : Int → Prop) : Prop :=
  br (decide (xi7 < (list0.length : Int)))
  ((0 ≤ xi7 ∧ xi7 < (list0.length : Int)) ∧
    F_spec_inRange (List.getD list0 (Int.toNat xi7) (0 : Int)) low1 high2 fun inRange20 =>
    br (!inRange20)
    (k false)
    (InR (xi7 + 1) ∧
      B0 (xi7 + 1)))
  (k true)
def L0_spec_allIn (high2 : Int) (list0 : List Int) (low1 : Int) (k : Bool → Prop) : Nat → Int → Prop
  | 0, _ => False
  | n + 1, xi7 => T0_spec_allIn high2 list0 low1 xi7 k (L0_spec_allIn high2 list0 low1 k n)
def G_spec_allIn (list0 : List Int) (low1 : Int) (high2 : Int) (I0 : Int → List Int → Int → Int → Prop) : Prop :=
  I0 high2 list0 low1 0
def S_spec_allIn (list0 : List Int) (low1 : Int) (high2 : Int) (k : Bool → Prop) : Prop := G_spec_allIn list0 low1 high2 (fun high2 list0 low1 xi7 => ∃ j, L0_spec_allIn high2 list0 low1 k j xi7)
def F_spec_allIn (l : List Int) (low high : Int) (k : Bool → Prop) : Prop := l.length ≤ 1000000000 ∧ k (decide (∀ x ∈ l, low ≤ x ∧ x ≤ high))
theorem F_spec_allIn_S {l : List Int} {low high : Int} {k : Bool → Prop} (h : F_spec_allIn l low high k) : S_spec_allIn l low high k := by
  obtain ⟨hl, hk⟩ := h
  have key : ∀ (r : List Int) (i : Nat), l.drop i = r → ((∀ x ∈ r, low ≤ x ∧ x ≤ high) ↔ (∀ x ∈ l, low ≤ x ∧ x ≤ high)) → L0_spec_allIn high l low k (r.length + 1) (i : Int) := by
    intro r
    induction r with
    | nil =>
      intro i hd he
      have := drop_nil' hd
      rw [L0_spec_allIn, T0_spec_allIn]
      simp only [br_dec]
      refine ⟨fun h => by omega, fun _ => ?_⟩
      rwa [decide_eq_true (he.1 (by simp))] at hk
    | cons x r ih =>
      intro i hd he
      obtain ⟨h1, h2, _, h3, _⟩ := drop_cons' hd
      rw [List.length_cons, L0_spec_allIn, T0_spec_allIn]
      simp only [br_dec, F_spec_inRange, br_not, Int.toNat_natCast, h2]
      refine ⟨fun _ => ⟨⟨by omega, by omega⟩, fun hx => ⟨inR (by omega) (by omega), ?_⟩, fun hx => ?_⟩, fun h => by omega⟩
      · refine ih (i + 1) h3 (Iff.trans ?_ he)
        simp only [List.mem_cons, forall_eq_or_imp]
        exact ⟨fun h => ⟨hx, h⟩, fun h => h.2⟩
      · rwa [decide_eq_false (fun h => hx (he.2 h x (by simp)))] at hk
  exact ⟨_, key l 0 rfl Iff.rfl⟩
-- spec.distinct
def T0_spec_distinct (list0 : List Int) (xi3 : Int) (k : Bool → Prop) (B0 : Int → Prop) : Prop :=
  br (decide (xi3 < (list0.length : Int)))
  ((0 ≤ xi3 ∧ xi3 < (list0.length : Int)) ∧
    F_spec_placeOf list0 (List.getD list0 (Int.toNat xi3) (0 : Int)) fun placeOf15 =>
    br (placeOf15 != xi3)
    (k false)
    (InR (xi3 + 1) ∧
      B0 (xi3 + 1)))
  (k true)
def L0_spec_distinct (list0 : List Int) (k : Bool → Prop) : Nat → Int → Prop
  | 0, _ => False
  | n + 1, xi3 => T0_spec_distinct list0 xi3 k (L0_spec_distinct list0 k n)
def G_spec_distinct (list0 : List Int) (I0 : List Int → Int → Prop) : Prop :=
  I0 list0 0
def S_spec_distinct (list0 : List Int) (k : Bool → Prop) : Prop := G_spec_distinct list0 (fun list0 xi3 => ∃ j, L0_spec_distinct list0 k j xi3)
def F_spec_distinct (l : List Int) (k : Bool → Prop) : Prop := l.length ≤ 1000000000 ∧ k (decide l.Nodup)
theorem F_spec_distinct_S {l : List Int} {k : Bool → Prop} (h : F_spec_distinct l k) : S_spec_distinct l k := by
  obtain ⟨hl, hk⟩ := h
  have key : ∀ (r : List Int) (i : Nat), l.drop i = r → (∀ q : Nat, q < i → plc l (l.getD q 0) = (q : Int)) → L0_spec_distinct l k (r.length + 1) (i : Int) := by
    intro r
    induction r with
    | nil =>
      intro i hd he
      have := drop_nil' hd
      rw [L0_spec_distinct, T0_spec_distinct]
      simp only [br_dec]
      refine ⟨fun h => by omega, fun _ => ?_⟩
      rwa [decide_eq_true (nodup_plc.1 fun q hq => he q (by omega))] at hk
    | cons x r ih =>
      intro i hd he
      obtain ⟨h1, h2, _, h3, _⟩ := drop_cons' hd
      rw [List.length_cons, L0_spec_distinct, T0_spec_distinct]
      simp only [br_dec, F_spec_placeOf, br_bne, Int.toNat_natCast]
      refine ⟨fun _ => ⟨⟨by omega, by omega⟩, hl, fun hx => ?_, fun hx => ⟨inR (by omega) (by omega), ?_⟩⟩, fun h => by omega⟩
      · rwa [decide_eq_false (fun h => hx (nodup_plc.2 h i h1))] at hk
      · refine ih (i + 1) h3 fun q hq => ?_
        by_cases e : q = i
        · subst e; exact hx
        · exact he q (by omega)
  exact ⟨_, key l 0 rfl (fun q hq => by omega)⟩
-- spec.validKeys
def G_spec_validKeys (list0 : List Int) (room1 : Int) (k : Bool → Prop) : Prop :=
  F_spec_inRange room1 (1 : Int) (8 : Int) fun inRange6 =>
  br inRange6
  (br (decide ((list0.length : Int) ≤ room1))
    (F_spec_allIn list0 (0 : Int) (31 : Int) fun allIn15 =>
      br allIn15
      (F_spec_distinct list0 fun distinct19 =>
        k distinct19)
      (k false))
    (k false))
  (k false)
def S_spec_validKeys (list0 : List Int) (room1 : Int) (k : Bool → Prop) : Prop := G_spec_validKeys list0 room1 k
def F_spec_validKeys (l : List Int) (room : Int) (k : Bool → Prop) : Prop := ∀ b : Bool, (b = true ↔ VKeys l room) → k b
theorem F_spec_validKeys_S {l : List Int} {room : Int} {k : Bool → Prop} (h : F_spec_validKeys l room k) : S_spec_validKeys l room k := by
  have hno : ¬ VKeys l room → k false := fun hv => h false (by simp [hv])
  show br (decide (1 ≤ room ∧ room ≤ 8)) _ _
  refine br_dec.2 ⟨fun h1 => br_dec.2 ⟨fun h3 => ?_, fun h3 => hno fun v => h3 v.2.2.1⟩, fun h1 => hno fun v => h1 ⟨v.1, v.2.1⟩⟩
  refine ⟨by omega, br_dec.2 ⟨fun h4 => ⟨by omega, h _ ?_⟩, fun h4 => hno fun v => h4 v.2.2.2.1⟩⟩
  simp only [decide_eq_true_eq]
  exact ⟨fun hn => ⟨h1.1, h1.2, h3, h4, hn⟩, fun v => v.2.2.2.2⟩
-- spec.validClock
def G_spec_validClock (c0Room : Int) (c0Keys : List Int) (c0Used : List Bool) (c0Hand : Int) (k : Bool → Prop) : Prop :=
  F_spec_inRange c0Room (1 : Int) (8 : Int) fun inRange9 =>
  br inRange9
  (F_spec_validKeys c0Keys c0Room fun validKeys15 =>
    br validKeys15
    (br ((c0Used.length : Int) == (c0Keys.length : Int))
      (InR ((c0Keys.length : Int) - 1) ∧
        F_spec_inRange c0Hand (0 : Int) (if 0 < ((c0Keys.length : Int) - 1) then ((c0Keys.length : Int) - 1) else 0) fun inRange30 =>
        br inRange30
        (br ((c0Keys.length : Int) == c0Room)
          (k true)
          (k (c0Hand == 0)))
        (k false))
      (k false))
    (k false))
  (k false)
def S_spec_validClock (c0Room : Int) (c0Keys : List Int) (c0Used : List Bool) (c0Hand : Int) (k : Bool → Prop) : Prop := G_spec_validClock c0Room c0Keys c0Used c0Hand k
def F_spec_validClock (room : Int) (keys : List Int) (used : List Bool) (hand : Int) (k : Bool → Prop) : Prop := ∀ b : Bool, (b = true ↔ VClock room keys used hand) → k b
theorem F_spec_validClock_S {room : Int} {keys : List Int} {used : List Bool} {hand : Int} {k : Bool → Prop} (h : F_spec_validClock room keys used hand k) : S_spec_validClock room keys used hand k := by
  have hno : ¬ VClock room keys used hand → k false := fun hv => h false (by simp [hv])
  show br (decide (1 ≤ room ∧ room ≤ 8)) _ _
  refine br_dec.2 ⟨fun h1 => ?_, fun h1 => hno fun v => h1 ⟨v.1.1, v.1.2.1⟩⟩
  intro b hb
  rw [br_iff]
  refine ⟨fun e => ?_, fun e => hno fun v => by rw [hb.2 v.1] at e; cases e⟩
  have hv := hb.1 e
  have hlen := hv.2.2.1
  refine br_beq.2 ⟨fun h3 => ⟨inR (by omega) (by omega), br_dec.2 ⟨fun h4 => br_beq.2 ⟨fun h6 => h true ?_, fun h6 => h _ ?_⟩, fun h4 => hno fun v => h4 ?_⟩⟩, fun h3 => hno fun v => h3 (by rw [v.2.1])⟩
  · simp only [true_iff]
    obtain ⟨h4, h5⟩ := h4
    refine ⟨hv, by omega, fun h => by omega, fun _ => ⟨h4, ?_⟩⟩
    split at h5 <;> omega
  · simp only [beq_iff_eq]
    exact ⟨fun e => ⟨hv, by omega, fun _ => e, fun h => absurd h h6⟩, fun v => v.2.2.1 (by omega)⟩
  · by_cases h6 : (keys.length : Int) = room
    · have := v.2.2.2 h6
      constructor
      · omega
      · split <;> omega
    · rw [v.2.2.1 (by omega)]
      constructor
      · omega
      · split <;> omega
-- spec.UseClock
def G_spec_UseClock (c0Room : Int) (c0Keys : List Int) (c0Used : List Bool) (c0Hand : Int) (key1 : Int) (k : Int → List Int → List Bool → Int → Bool → Prop) : Prop :=
  F_spec_validClock c0Room c0Keys c0Used c0Hand fun validClock7 =>
  br (!validClock7)
  (k 0 ([] : List Int) ([] : List Bool) 0 false)
  (F_spec_inRange key1 (0 : Int) (31 : Int) fun inRange11 =>
    br (!inRange11)
    (k 0 ([] : List Int) ([] : List Bool) 0 false)
    (F_spec_tick c0Room c0Keys c0Used c0Hand key1 fun tick17Room tick17Keys tick17Used tick17Hand tick17r1 =>
      k tick17Room tick17Keys tick17Used tick17Hand tick17r1))
def S_spec_UseClock (c0Room : Int) (c0Keys : List Int) (c0Used : List Bool) (c0Hand : Int) (key1 : Int) (k : Int → List Int → List Bool → Int → Bool → Prop) : Prop := G_spec_UseClock c0Room c0Keys c0Used c0Hand key1 k
def F_spec_UseClock (room : Int) (keys : List Int) (used : List Bool) (hand key : Int) (k : Int → List Int → List Bool → Int → Bool → Prop) : Prop :=
  ((VClock room keys used hand ∧ 0 ≤ key ∧ key ≤ 31) → k room (tickM room keys used hand key).1 (tickM room keys used hand key).2.1 (tickM room keys used hand key).2.2.1 (tickM room keys used hand key).2.2.2) ∧
  (¬ (VClock room keys used hand ∧ 0 ≤ key ∧ key ≤ 31) → k 0 [] [] 0 false)
theorem F_spec_UseClock_S {room : Int} {keys : List Int} {used : List Bool} {hand key : Int} {k : Int → List Int → List Bool → Int → Bool → Prop} (h : F_spec_UseClock room keys used hand key k) : S_spec_UseClock room keys used hand key k := by
  obtain ⟨hyes, hno⟩ := h
  intro b hb
  rw [br_not, br_iff]
  refine ⟨fun e => br_not.2 (br_dec.2 ⟨fun hkey => ⟨hb.1 e, hyes ⟨hb.1 e, hkey⟩⟩, fun hkey => hno fun w => hkey w.2⟩), fun e => hno fun w => by rw [hb.2 w.1] at e; cases e⟩
-- laws.equalInts
def T0_laws_equalInts (a0 : List Int) (b1 : List Int) (xi5 : Int) (k : Bool → Prop) (B0 : Int → Prop) : Prop :=
  br (decide (xi5 < (a0.length : Int)))
  ((0 ≤ xi5 ∧ xi5 < (a0.length : Int)) ∧
    (0 ≤ xi5 ∧ xi5 < (b1.length : Int)) ∧
    br ((List.getD a0 (Int.toNat xi5) (0 : Int)) != (List.getD b1 (Int.toNat xi5) (0 : Int)))
    (k false)
    (InR (xi5 + 1) ∧
      B0 (xi5 + 1)))
  (k true)
def L0_laws_equalInts (a0 : List Int) (b1 : List Int) (k : Bool → Prop) : Nat → Int → Prop
  | 0, _ => False
  | n + 1, xi5 => T0_laws_equalInts a0 b1 xi5 k (L0_laws_equalInts a0 b1 k n)
def G_laws_equalInts (a0 : List Int) (b1 : List Int) (k : Bool → Prop) (I0 : List Int → List Int → Int → Prop) : Prop :=
  br ((a0.length : Int) != (b1.length : Int))
  (k false)
  (I0 a0 b1 0)
def S_laws_equalInts (a0 : List Int) (b1 : List Int) (k : Bool → Prop) : Prop := G_laws_equalInts a0 b1 k (fun a0 b1 xi5 => ∃ j, L0_laws_equalInts a0 b1 k j xi5)
def F_laws_equalInts (a b : List Int) (k : Bool → Prop) : Prop := a.length ≤ 1000000000 ∧ k (decide (a = b))
theorem F_laws_equalInts_S {a b : List Int} {k : Bool → Prop} (h : F_laws_equalInts a b k) : S_laws_equalInts a b k := by
  obtain ⟨hl, hk⟩ := h
  refine br_bne.2 ⟨fun he => by rwa [decide_eq_false (fun e => he (by rw [e]))] at hk, fun he => ?_⟩
  have he : a.length = b.length := by omega
  have key : ∀ (r : List Int) (i : Nat), a.drop i = r → (r = b.drop i ↔ a = b) → L0_laws_equalInts a b k (r.length + 1) (i : Int) := by
    intro r
    induction r with
    | nil =>
      intro i hd hi
      have := drop_nil' hd
      rw [L0_laws_equalInts, T0_laws_equalInts]
      simp only [br_dec]
      exact ⟨fun h => by omega, fun _ => by rwa [decide_eq_true (hi.1 (List.drop_eq_nil_of_le (by omega)).symm)] at hk⟩
    | cons x r ih =>
      intro i hd hi
      obtain ⟨h1, h2, _, h3, _⟩ := drop_cons' hd
      obtain ⟨y, s, hs⟩ : ∃ y s, b.drop i = y :: s := by
        cases e : b.drop i with
        | nil => have := drop_nil' e; omega
        | cons y s => exact ⟨y, s, rfl⟩
      obtain ⟨g1, g2, _, g3, _⟩ := drop_cons' hs
      rw [List.length_cons, L0_laws_equalInts, T0_laws_equalInts]
      simp only [br_dec, br_bne, Int.toNat_natCast, h2, g2]
      rw [hs] at hi
      refine ⟨fun _ => ⟨⟨by omega, by omega⟩, ⟨by omega, by omega⟩, ?_⟩, fun h => by omega⟩
      have go : x = y → L0_laws_equalInts a b k (r.length + 1) ((i : Int) + 1) := fun hx => ih (i + 1) h3 (by rw [g3, ← hi, hx]; simp)
      have no : x ≠ y → k false := fun hx => by rwa [decide_eq_false (fun e => hx (List.cons.inj (hi.2 e)).1)] at hk
      exact ⟨no, fun hx => ⟨inR (by omega) (by omega), go hx⟩⟩
  exact ⟨_, key a 0 rfl (by simp)⟩
-- laws.equalBools
def T0_laws_equalBools (a0 : List Bool) (b1 : List Bool) (xi5 : Int) (k : Bool → Prop) (B0 : Int → Prop) : Prop :=
  br (decide (xi5 < (a0.length : Int)))
  ((0 ≤ xi5 ∧ xi5 < (a0.length : Int)) ∧
    (0 ≤ xi5 ∧ xi5 < (b1.length : Int)) ∧
    br (!((List.getD a0 (Int.toNat xi5) false) == (List.getD b1 (Int.toNat xi5) false)))
    (k false)
    (InR (xi5 + 1) ∧
      B0 (xi5 + 1)))
  (k true)
def L0_laws_equalBools (a0 : List Bool) (b1 : List Bool) (k : Bool → Prop) : Nat → Int → Prop
  | 0, _ => False
  | n + 1, xi5 => T0_laws_equalBools a0 b1 xi5 k (L0_laws_equalBools a0 b1 k n)
def G_laws_equalBools (a0 : List Bool) (b1 : List Bool) (k : Bool → Prop) (I0 : List Bool → List Bool → Int → Prop) : Prop :=
  br ((a0.length : Int) != (b1.length : Int))
  (k false)
  (I0 a0 b1 0)
def S_laws_equalBools (a0 : List Bool) (b1 : List Bool) (k : Bool → Prop) : Prop := G_laws_equalBools a0 b1 k (fun a0 b1 xi5 => ∃ j, L0_laws_equalBools a0 b1 k j xi5)
def F_laws_equalBools (a b : List Bool) (k : Bool → Prop) : Prop := a.length ≤ 1000000000 ∧ k (decide (a = b))
theorem F_laws_equalBools_S {a b : List Bool} {k : Bool → Prop} (h : F_laws_equalBools a b k) : S_laws_equalBools a b k := by
  obtain ⟨hl, hk⟩ := h
  refine br_bne.2 ⟨fun he => by rwa [decide_eq_false (fun e => he (by rw [e]))] at hk, fun he => ?_⟩
  have he : a.length = b.length := by omega
  have key : ∀ (r : List Bool) (i : Nat), a.drop i = r → (r = b.drop i ↔ a = b) → L0_laws_equalBools a b k (r.length + 1) (i : Int) := by
    intro r
    induction r with
    | nil =>
      intro i hd hi
      have := drop_nil' hd
      rw [L0_laws_equalBools, T0_laws_equalBools]
      simp only [br_dec]
      exact ⟨fun h => by omega, fun _ => by rwa [decide_eq_true (hi.1 (List.drop_eq_nil_of_le (by omega)).symm)] at hk⟩
    | cons x r ih =>
      intro i hd hi
      obtain ⟨h1, h2, _, h3, _⟩ := drop_cons' hd
      obtain ⟨y, s, hs⟩ : ∃ y s, b.drop i = y :: s := by
        cases e : b.drop i with
        | nil => have := drop_nil' e; omega
        | cons y s => exact ⟨y, s, rfl⟩
      obtain ⟨g1, g2, _, g3, _⟩ := drop_cons' hs
      rw [List.length_cons, L0_laws_equalBools, T0_laws_equalBools]
      simp only [br_dec, br_not, br_bb, Int.toNat_natCast, h2, g2]
      rw [hs] at hi
      refine ⟨fun _ => ⟨⟨by omega, by omega⟩, ⟨by omega, by omega⟩, ?_⟩, fun h => by omega⟩
      have go : x = y → L0_laws_equalBools a b k (r.length + 1) ((i : Int) + 1) := fun hx => ih (i + 1) h3 (by rw [g3, ← hi, hx]; simp)
      have no : x ≠ y → k false := fun hx => by rwa [decide_eq_false (fun e => hx (List.cons.inj (hi.2 e)).1)] at hk
      exact ⟨fun hx => ⟨inR (by omega) (by omega), go hx⟩, no⟩
  exact ⟨_, key a 0 rfl (by simp)⟩
-- laws.equalClock
def G_laws_equalClock (a0Room : Int) (a0Keys : List Int) (a0Used : List Bool) (a0Hand : Int) (b1Room : Int) (b1Keys : List Int) (b1Used : List Bool) (b1Hand : Int) (k : Bool → Prop) : Prop :=
  br (a0Room == b1Room)
  (F_laws_equalInts a0Keys b1Keys fun equalInts15 =>
    br equalInts15
    (F_laws_equalBools a0Used b1Used fun equalBools22 =>
      br equalBools22
      (k (a0Hand == b1Hand))
      (k false))
    (k false))
  (k false)
def S_laws_equalClock (a0Room : Int) (a0Keys : List Int) (a0Used : List Bool) (a0Hand : Int) (b1Room : Int) (b1Keys : List Int) (b1Used : List Bool) (b1Hand : Int) (k : Bool → Prop) : Prop := G_laws_equalClock a0Room a0Keys a0Used a0Hand b1Room b1Keys b1Used b1Hand k
def F_laws_equalClock (r1 : Int) (k1 : List Int) (u1 : List Bool) (h1 r2 : Int) (k2 : List Int) (u2 : List Bool) (h2 : Int) (k : Bool → Prop) : Prop :=
  (k1.length ≤ 1000000000 ∧ u1.length ≤ 1000000000) ∧ ∀ b : Bool, (b = true ↔ r1 = r2 ∧ k1 = k2 ∧ u1 = u2 ∧ h1 = h2) → k b
theorem F_laws_equalClock_S {r1 : Int} {k1 : List Int} {u1 : List Bool} {h1 r2 : Int} {k2 : List Int} {u2 : List Bool} {h2 : Int} {k : Bool → Prop} (h : F_laws_equalClock r1 k1 u1 h1 r2 k2 u2 h2 k) : S_laws_equalClock r1 k1 u1 h1 r2 k2 u2 h2 k := by
  obtain ⟨⟨l1, l2⟩, hk⟩ := h
  refine br_beq.2 ⟨fun e1 => ⟨l1, br_dec.2 ⟨fun e2 => ⟨l2, br_dec.2 ⟨fun e3 => hk _ (by simp [e1, e2, e3]), fun e3 => hk _ (by simp [e3])⟩⟩, fun e2 => hk _ (by simp [e2])⟩⟩, fun e1 => hk _ (by simp [e1])⟩
theorem equalClock_same {r1 : Int} {k1 : List Int} {u1 : List Bool} {h1 : Int} {k : Bool → Prop} (l1 : k1.length ≤ 1000000000) (l2 : u1.length ≤ 1000000000) (h : k true) : F_laws_equalClock r1 k1 u1 h1 r1 k1 u1 h1 k :=
  ⟨⟨l1, l2⟩, all_t ⟨rfl, rfl, rfl, rfl⟩ h⟩
-- impl.UsedKeys
def T0_impl_UsedKeys (c0Hand : Int) (c0Keys : List Int) (c0Room : Int) (c0Used : List Bool) (xt12 : Int) (xt13 : Int) (xout3 : List Int) (k : List Int → Prop) (B0 : Int → List Int → Prop) : Prop :=
  br (decide (xt13 < xt12))
  ((0 ≤ xt13 ∧ xt13 < (c0Keys.length : Int)) ∧
    (0 ≤ xt13 ∧ xt13 < (c0Used.length : Int)) ∧
    br (List.getD c0Used (Int.toNat xt13) false)
    ((xout3.length + 1 ≤ 1000000000) ∧
      InR (xt13 + 1) ∧
      B0 (xt13 + 1) (xout3 ++ ([(List.getD c0Keys (Int.toNat xt13) (0 : Int))] : List Int)))
    (InR (xt13 + 1) ∧
      B0 (xt13 + 1) xout3))
  (k xout3)
def L0_impl_UsedKeys (c0Hand : Int) (c0Keys : List Int) (c0Room : Int) (c0Used : List Bool) (xt12 : Int) (k : List Int → Prop) : Nat → Int → List Int → Prop
  | 0, _, _ => False
  | n + 1, xt13, xout3 => T0_impl_UsedKeys c0Hand c0Keys c0Room c0Used xt12 xt13 xout3 k (L0_impl_UsedKeys c0Hand c0Keys c0Room c0Used xt12 k n)
def G_impl_UsedKeys (c0Room : Int) (c0Keys : List Int) (c0Used : List Bool) (c0Hand : Int) (k : List Int → Prop) (I0 : Int → List Int → Int → List Bool → Int → Int → List Int → Prop) : Prop :=
  F_impl_ValidClock c0Room c0Keys c0Used c0Hand fun validClock7 =>
  br (!validClock7)
  (k ([] : List Int))
  (I0 c0Hand c0Keys c0Room c0Used (c0Keys.length : Int) 0 ([] : List Int))
def S_impl_UsedKeys (c0Room : Int) (c0Keys : List Int) (c0Used : List Bool) (c0Hand : Int) (k : List Int → Prop) : Prop := G_impl_UsedKeys c0Room c0Keys c0Used c0Hand k (fun c0Hand c0Keys c0Room c0Used xt12 xt13 xout3 => ∃ j, L0_impl_UsedKeys c0Hand c0Keys c0Room c0Used xt12 k j xt13 xout3)
def F_impl_UsedKeys (room : Int) (keys : List Int) (used : List Bool) (hand : Int) (k : List Int → Prop) : Prop :=
  (VClock room keys used hand → k (marked keys used)) ∧ (¬ VClock room keys used hand → k [])
theorem F_impl_UsedKeys_S {room : Int} {keys : List Int} {used : List Bool} {hand : Int} {k : List Int → Prop} (h : F_impl_UsedKeys room keys used hand k) : S_impl_UsedKeys room keys used hand k := by
  obtain ⟨hyes, hno⟩ := h
  intro b hb
  rw [br_not, br_iff]
  refine ⟨fun e => ?_, fun e => hno fun v => by rw [hb.2 v] at e; cases e⟩
  have v := hb.1 e
  have hk := hyes v
  have hlen : (keys.length : Int) ≤ 8 := by have := v.1.2.2.1; have := v.1.2.1; omega
  have hu := v.2.1
  have key : ∀ (r : List Int) (m : List Bool) (i : Nat) (out : List Int), keys.drop i = r → used.drop i = m → out.length ≤ i → out ++ marked r m = marked keys used → L0_impl_UsedKeys hand keys room used (keys.length : Int) k (r.length + 1) (i : Int) out := by
    intro r
    induction r with
    | nil =>
      intro m i out hd hm ho he
      have := drop_nil' hd
      rw [L0_impl_UsedKeys, T0_impl_UsedKeys]
      simp only [br_dec]
      refine ⟨fun h => by omega, fun _ => ?_⟩
      rw [show marked [] m = [] by cases m <;> rfl, List.append_nil] at he
      rw [he]; exact hk
    | cons x r ih =>
      intro m i out hd hm ho he
      obtain ⟨h1, h2, _, h3, _⟩ := drop_cons' hd
      cases m with
      | nil => have := drop_nil' hm; omega
      | cons y m =>
        obtain ⟨g1, g2, _, g3, _⟩ := drop_cons' hm
        rw [List.length_cons, L0_impl_UsedKeys, T0_impl_UsedKeys]
        simp only [br_dec, Int.toNat_natCast, h2, g2]
        refine ⟨fun _ => ⟨⟨by omega, by omega⟩, ⟨by omega, by omega⟩, ?_⟩, fun h => by omega⟩
        rw [br_iff]
        refine ⟨fun hu => ⟨by omega, inR (by omega) (by omega), ?_⟩, fun hu => ⟨inR (by omega) (by omega), ?_⟩⟩
        · exact ih m (i + 1) (out ++ [x]) h3 g3 (by simp; omega) (by rw [← he, hu]; simp [marked])
        · exact ih m (i + 1) out h3 g3 (by omega) (by rw [← he, hu]; simp [marked])
  exact ⟨_, key keys used 0 [] rfl rfl (by simp) rfl⟩
-- laws.isIn
def T0_laws_isIn (list0 : List Int) (n1 : Int) (xi5 : Int) (k : Bool → Prop) (B0 : Int → Prop) : Prop :=
  br (decide (xi5 < (list0.length : Int)))
  ((0 ≤ xi5 ∧ xi5 < (list0.length : Int)) ∧
    br ((List.getD list0 (Int.toNat xi5) (0 : Int)) == n1)
    (k true)
    (InR (xi5 + 1) ∧
      B0 (xi5 + 1)))
  (k false)
def L0_laws_isIn (list0 : List Int) (n1 : Int) (k : Bool → Prop) : Nat → Int → Prop
  | 0, _ => False
  | n + 1, xi5 => T0_laws_isIn list0 n1 xi5 k (L0_laws_isIn list0 n1 k n)
def G_laws_isIn (list0 : List Int) (n1 : Int) (I0 : List Int → Int → Int → Prop) : Prop :=
  I0 list0 n1 0
def S_laws_isIn (list0 : List Int) (n1 : Int) (k : Bool → Prop) : Prop := G_laws_isIn list0 n1 (fun list0 n1 xi5 => ∃ j, L0_laws_isIn list0 n1 k j xi5)
def F_laws_isIn (l : List Int) (n : Int) (k : Bool → Prop) : Prop := l.length ≤ 1000000000 ∧ k (decide (n ∈ l))
theorem F_laws_isIn_S {l : List Int} {n : Int} {k : Bool → Prop} (h : F_laws_isIn l n k) : S_laws_isIn l n k := by
  obtain ⟨hl, hk⟩ := h
  have key : ∀ (r : List Int) (i : Nat), l.drop i = r → (n ∈ r ↔ n ∈ l) → L0_laws_isIn l n k (r.length + 1) (i : Int) := by
    intro r
    induction r with
    | nil =>
      intro i hd he
      have := drop_nil' hd
      rw [L0_laws_isIn, T0_laws_isIn]
      simp only [br_dec]
      exact ⟨fun h => by omega, fun _ => by rwa [decide_eq_false (fun h => absurd (he.2 h) (by simp))] at hk⟩
    | cons x r ih =>
      intro i hd he
      obtain ⟨h1, h2, h5, h3, _⟩ := drop_cons' hd
      rw [List.length_cons, L0_laws_isIn, T0_laws_isIn]
      simp only [br_dec, br_beq, Int.toNat_natCast, h2]
      refine ⟨fun _ => ⟨⟨by omega, by omega⟩, fun hx => ?_, fun hx => ⟨inR (by omega) (by omega), ih (i + 1) h3 (Iff.trans ?_ he)⟩⟩, fun h => by omega⟩
      · rwa [decide_eq_true (he.1 (by simp [hx]))] at hk
      · simp [Ne.symm hx]
  exact ⟨_, key l 0 rfl Iff.rfl⟩
-- laws.FnUseClockAgain
def G_laws_FnUseClockAgain_j0 (useClock22Hand : Int) (useClock22Keys : List Int) (useClock22Room : Int) (useClock22Used : List Bool) (useClock22r1 : Bool) (useClock28Hand : Int) (useClock28Keys : List Int) (useClock28Room : Int) (useClock28Used : List Bool) (useClock28r1 : Bool) (k : Bool → Prop) : Prop :=
  F_laws_equalClock useClock22Room useClock22Keys useClock22Used useClock22Hand useClock28Room useClock28Keys useClock28Used useClock28Hand fun equalClock48 =>
  br equalClock48
  (k (useClock22r1 == useClock28r1))
  (k false)
def G_laws_FnUseClockAgain (code0 : List Int) (k : Bool → Prop) : Prop :=
  br (decide ((code0.length : Int) > 1048576))
  (k true)
  (F_spec_DrawUseClock code0 fun drawUseClock16Room drawUseClock16Keys drawUseClock16Used drawUseClock16Hand drawUseClock16r1 =>
    F_impl_UseClock drawUseClock16Room drawUseClock16Keys drawUseClock16Used drawUseClock16Hand drawUseClock16r1 fun useClock22Room useClock22Keys useClock22Used useClock22Hand useClock22r1 =>
    F_spec_UseClock drawUseClock16Room drawUseClock16Keys drawUseClock16Used drawUseClock16Hand drawUseClock16r1 fun useClock28Room useClock28Keys useClock28Used useClock28Hand useClock28r1 =>
    F_laws_equalClock useClock22Room useClock22Keys useClock22Used useClock22Hand useClock28Room useClock28Keys useClock28Used useClock28Hand fun equalClock33 =>
    br (!equalClock33)
    (G_laws_FnUseClockAgain_j0 useClock22Hand useClock22Keys useClock22Room useClock22Used useClock22r1 useClock28Hand useClock28Keys useClock28Room useClock28Used useClock28r1 k)
    (br (!(useClock22r1 == useClock28r1))
      (G_laws_FnUseClockAgain_j0 useClock22Hand useClock22Keys useClock22Room useClock22Used useClock22r1 useClock28Hand useClock28Keys useClock28Room useClock28Used useClock28r1 k)
      (br ((useClock22Keys.length : Int) == 0)
        (G_laws_FnUseClockAgain_j0 useClock22Hand useClock22Keys useClock22Room useClock22Used useClock22r1 useClock28Hand useClock28Keys useClock28Room useClock28Used useClock28r1 k)
        (F_impl_UseClock useClock22Room useClock22Keys useClock22Used useClock22Hand drawUseClock16r1 fun useClock57Room useClock57Keys useClock57Used useClock57Hand useClock57r1 =>
          br useClock57r1
          (F_impl_UsedKeys useClock57Room useClock57Keys useClock57Used useClock57Hand fun usedKeys63 =>
            F_laws_isIn usedKeys63 drawUseClock16r1 fun isIn65 =>
            k isIn65)
          (k false)))))
def S_laws_FnUseClockAgain (code0 : List Int) (k : Bool → Prop) : Prop := G_laws_FnUseClockAgain code0 k
abbrev F_laws_FnUseClockAgain (code0 : List Int) (k : Bool → Prop) : Prop := S_laws_FnUseClockAgain code0 k
theorem F_laws_FnUseClockAgain_S {code0 : List Int} {k : Bool → Prop} (h : F_laws_FnUseClockAgain code0 k) : S_laws_FnUseClockAgain code0 k := h
theorem law_FnUseClockAgain (code : List Int) (hb : ∀ x ∈ code, 0 ≤ x ∧ x ≤ 255) : F_laws_FnUseClockAgain code (fun r => r = true) := by
  refine br_dec.2 ⟨fun _ => rfl, fun hlen => ⟨hb, fun room keys used hand key l1 l2 => ?_⟩⟩
  by_cases v : VClock room keys used hand ∧ 0 ≤ key ∧ key ≤ 31
  · refine ⟨fun _ => ⟨fun _ => ?_, fun h => absurd v h⟩, fun h => absurd v h⟩
    obtain ⟨g1, g2⟩ := tick_len (key := key) v.1 v.2
    have hin := tick_in (key := key) v.1
    have hval := tick_valid (key := key) v.1 v.2
    generalize tickM room keys used hand key = q at *
    obtain ⟨ks, us, hd, hit⟩ := q
    dsimp only at g1 g2 hin hval ⊢
    refine equalClock_same (by omega) (by omega) (br_nt (br_same (br_beq.2 ⟨fun h => equalClock_same (by omega) (by omega) (beq_self_eq_true _), fun _ => ⟨fun _ => ?_, fun h => absurd ⟨hval, v.2⟩ h⟩⟩)))
    have hval2 := tick_valid (key := key) hval v.2
    rw [tick_there hin] at hval2 ⊢
    obtain ⟨p, p1, p2, _, p3⟩ := plc_pos hin
    dsimp only at hval2 ⊢
    rw [p3, Int.toNat_natCast] at hval2 ⊢
    have hl2 : (us.set p true).length = ks.length := by rw [List.length_set]; exact g2
    have hml := marked_le ks _ hl2
    refine ⟨fun _ => ⟨by omega, decide_eq_true ?_⟩, fun h => absurd hval2 h⟩
    have m1 := marked_mem hval.1.2.2.2.2 hl2 p1
    rw [getD_of p2] at m1
    have : p < us.length := by omega
    exact m1.2 (by simp [List.getD, this])
  · refine ⟨fun h => absurd h v, fun _ => ⟨fun h => absurd h v, fun _ => ?_⟩⟩
    exact equalClock_same (by simp) (by simp) (br_nt (br_same (br_beq.2 ⟨fun h => equalClock_same (by simp) (by simp) rfl, fun h => absurd rfl h⟩)))
end Go.Ev
