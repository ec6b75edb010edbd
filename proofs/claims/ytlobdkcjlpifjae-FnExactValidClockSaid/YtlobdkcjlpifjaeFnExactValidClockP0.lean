/- What the functions that the law reaches do, written as plain Lean. No statement is proved here. -/
import Derived.Test.YtlobdkcjlpifjaeEvT
namespace Go.Ev
set_option linter.unusedVariables false
open Go
/-! ## Plain facts -/
theorem br_iff {b : Bool} {A B : Prop} : br b A B ↔ (b = true → A) ∧ (b = false → B) := by cases b <;> simp [br]
theorem br_t {A B : Prop} : br true A B = A := rfl
theorem br_f {A B : Prop} : br false A B = B := rfl
theorem br_dec {p : Prop} [Decidable p] {A B : Prop} : br (decide p) A B ↔ (p → A) ∧ (¬ p → B) := by rw [br_iff]; simp
theorem br_beq {a b : Int} {A B : Prop} : br (a == b) A B ↔ (a = b → A) ∧ (a ≠ b → B) := by rw [br_iff]; simp
theorem br_bne {a b : Int} {A B : Prop} : br (a != b) A B ↔ (a ≠ b → A) ∧ (a = b → B) := by rw [br_iff]; simp
theorem br_not {b : Bool} {A B : Prop} : br (!b) A B ↔ br b B A := by cases b <;> simp [br]
theorem br_bb {a b : Bool} {A B : Prop} : br (a == b) A B ↔ (a = b → A) ∧ (a ≠ b → B) := by rw [br_iff]; simp
theorem inR {x : Int} (h1 : -9223372036854775808 ≤ x) (h2 : x ≤ 9223372036854775807) : InR x := ⟨h1, h2⟩

section lists
variable {α : Type}
theorem drop_nil' {l : List α} {i : Nat} (h : l.drop i = []) : l.length ≤ i := by simpa using h
theorem drop_cons' {l : List α} {i : Nat} {x : α} {r : List α} (h : l.drop i = x :: r) : i < l.length ∧ (∀ d, l.getD i d = x) ∧ l[i]? = some x ∧ l.drop (i + 1) = r ∧ l.take (i + 1) = l.take i ++ [x] := by
  have hlt : i < l.length := by
    rcases Nat.lt_or_ge i l.length with h1 | h1
    · exact h1
    · rw [List.drop_eq_nil_of_le h1] at h; cases h
  have h2 := List.drop_eq_getElem_cons hlt
  rw [h] at h2
  injection h2 with h3 h4
  have h5 : l[i]? = some x := by rw [List.getElem?_eq_getElem hlt, h3]
  exact ⟨hlt, fun d => by simp [List.getD, h5], h5, h4.symm, by rw [List.take_succ_eq_append_getElem hlt, h3]⟩
end lists

/-- The place of a number, or -1. -/
def plcF : List Int → Int → Nat → Int
  | [], _, _ => -1
  | x :: r, n, i => if x = n then (i : Int) else plcF r n (i + 1)
def plc (l : List Int) (n : Int) : Int := plcF l n 0
theorem plcF_spec : ∀ (l : List Int) (n : Int) (i : Nat), (n ∉ l ∧ plcF l n i = -1) ∨ ∃ j, j < l.length ∧ l[j]? = some n ∧ (∀ q, q < j → l[q]? ≠ some n) ∧ plcF l n i = ((i + j : Nat) : Int)
  | [], n, i => .inl ⟨by simp, rfl⟩
  | x :: r, n, i => by
    by_cases h : x = n
    · subst h
      exact .inr ⟨0, by simp, rfl, fun q hq => by omega, by simp [plcF]⟩
    · rcases plcF_spec r n (i + 1) with ⟨h1, h2⟩ | ⟨j, h1, h2, h3, h4⟩
      · exact .inl ⟨by simp [Ne.symm h, h1], by simp [plcF, h, h2]⟩
      · refine .inr ⟨j + 1, by simp; omega, by simpa using h2, fun q hq => ?_, ?_⟩
        · cases q with
          | zero => simpa using h
          | succ q => simpa using h3 q (by omega)
        · simp only [plcF, h, if_false, h4]; omega
theorem plc_spec (l : List Int) (n : Int) : (n ∉ l ∧ plc l n = -1) ∨ ∃ j : Nat, j < l.length ∧ l[j]? = some n ∧ (∀ q, q < j → l[q]? ≠ some n) ∧ plc l n = (j : Int) := by
  have := plcF_spec l n 0
  simpa [plc] using this
theorem plc_neg {l : List Int} {n : Int} (h : n ∉ l) : plc l n = -1 := by
  rcases plc_spec l n with ⟨_, h2⟩ | ⟨j, h1, h2, _⟩
  · exact h2
  · exact absurd (List.mem_of_getElem? h2) h
theorem plc_pos {l : List Int} {n : Int} (h : n ∈ l) : ∃ j : Nat, j < l.length ∧ l[j]? = some n ∧ (∀ q, q < j → l[q]? ≠ some n) ∧ plc l n = (j : Int) := by
  rcases plc_spec l n with ⟨h1, _⟩ | h2
  · exact absurd h h1
  · exact h2
theorem plc_ge {l : List Int} {n : Int} : plc l n ≥ 0 ↔ n ∈ l := by
  rcases plc_spec l n with ⟨h1, h2⟩ | ⟨j, h1, h2, _, h3⟩
  · rw [h2]; simp [h1]
  · rw [h3]; simp [List.mem_of_getElem? h2]
theorem nodup_plc {l : List Int} : (∀ i : Nat, i < l.length → plc l (l.getD i 0) = (i : Int)) ↔ l.Nodup := by
  have hg : ∀ {i : Nat} (hi : i < l.length), l[i]? = some l[i] ∧ l.getD i 0 = l[i] := fun hi => ⟨List.getElem?_eq_getElem hi, by simp [List.getD, hi]⟩
  constructor
  · intro h
    refine List.pairwise_iff_getElem.2 fun i j hi hj hij e => ?_
    have h1 := h j hj
    rcases plc_spec l (l.getD j 0) with ⟨_, h2⟩ | ⟨q, h2, h3, h4, h5⟩
    · omega
    · have : q = j := by omega
      subst this
      exact h4 i hij (by rw [(hg hi).1, e, (hg hj).2])
  · intro hn i hi
    have hx : l[i]? = some (l.getD i 0) := by rw [(hg hi).1, (hg hi).2]
    rcases plc_spec l (l.getD i 0) with ⟨h1, _⟩ | ⟨q, h2, h3, h4, h5⟩
    · exact absurd (List.mem_of_getElem? hx) h1
    · have : q = i := by
        rcases Nat.lt_trichotomy q i with h | h | h
        · refine absurd ?_ (List.pairwise_iff_getElem.1 hn q i h2 hi h)
          have := h3.trans hx.symm
          rw [(hg h2).1, (hg hi).1] at this
          injection this
        · exact h
        · exact absurd hx (h4 i h)
      rw [h5, this]

/-- Valid keys. -/
def VKeys (l : List Int) (room : Int) : Prop := 1 ≤ room ∧ room ≤ 8 ∧ (l.length : Int) ≤ room ∧ (∀ x ∈ l, 0 ≤ x ∧ x ≤ 31) ∧ l.Nodup
def VClock (room : Int) (keys : List Int) (used : List Bool) (hand : Int) : Prop :=
  VKeys keys room ∧ used.length = keys.length ∧ ((keys.length : Int) < room → hand = 0) ∧ ((keys.length : Int) = room → 0 ≤ hand ∧ hand < keys.length)

/-- A reader: some bytes, and how many picks were made. -/
def Rd (b : List Int) (p : Int) : Prop := b.length ≤ 2000 ∧ (∀ x ∈ b, 0 ≤ x ∧ x ≤ 255) ∧ 0 ≤ p ∧ p ≤ 1000000000

/-! ## Readers -/
def Bs (b : List Int) : Prop := b.length ≤ 2000 ∧ ∀ x ∈ b, 0 ≤ x ∧ x ≤ 255
theorem Bs.get {b : List Int} (h : Bs b) (i : Nat) : 0 ≤ b.getD i 0 ∧ b.getD i 0 ≤ 255 := by
  rcases Nat.lt_or_ge i b.length with hi | hi
  · have hx : b[i]? = some (b.getD i 0) := by simp [List.getD, hi]
    exact h.2 _ (List.mem_of_getElem? hx)
  · simp [List.getD, List.getElem?_eq_none hi]
/-- What a pick of n yields. -/
def Pk (n x : Int) : Prop := (n < 1 ∧ x = 0) ∨ (0 ≤ x ∧ x < n)
theorem ofInt_i64' (n : Nat) (h : n < 9223372036854775808) : (BitVec.ofInt 64 (n : Int)).toNat = n := by
  rw [BitVec.toNat_ofInt]; omega
theorem xor_nn (x y : Int) (hx : 0 ≤ x) (hx' : x < 9223372036854775808) (hy : 0 ≤ y) (hy' : y < 9223372036854775808) : 0 ≤ IntKind.i64.wrap ((BitVec.ofInt 64 x ^^^ BitVec.ofInt 64 y).toNat : Int) := by
  obtain ⟨a, rfl⟩ := Int.eq_ofNat_of_zero_le hx
  obtain ⟨b, rfl⟩ := Int.eq_ofNat_of_zero_le hy
  have hlt : a ^^^ b < 2 ^ 63 := Nat.xor_lt_two_pow (by omega) (by omega)
  have e : IntKind.i64.wrap ((BitVec.ofInt 64 (a : Int) ^^^ BitVec.ofInt 64 (b : Int)).toNat : Int) = ((a ^^^ b : Nat) : Int) := by
    rw [BitVec.toNat_xor, ofInt_i64' a (by omega), ofInt_i64' b (by omega), IntKind.wrap_i64]
    omega
  rw [e]; omega

/-! ## Clocks -/
def sweep : Nat → List Bool → Nat → List Bool × Nat
  | 0, u, h => (u, h)
  | f + 1, u, h => if u.getD h false then sweep f (u.set h false) ((h + 1) % u.length) else (u, h)
theorem count_clear {u : List Bool} {h : Nat} (hh : u.getD h false = true) : (u.set h false).count true + 1 = u.count true := by
  have hlt : h < u.length := by
    rcases Nat.lt_or_ge h u.length with h1 | h1
    · exact h1
    · simp [List.getD, List.getElem?_eq_none h1] at hh
  have hg : u[h] = true := by simpa [List.getD, hlt] using hh
  rw [List.count_set hlt, hg]
  have : 0 < u.count true := List.count_pos_iff.2 (hg ▸ List.getElem_mem hlt)
  simp; omega
theorem sweep_ok : ∀ (f : Nat) (u : List Bool) (h : Nat), u.count true < f → h < u.length →
    (sweep f u h).1.length = u.length ∧ (sweep f u h).2 < u.length ∧ (sweep f u h).1.getD (sweep f u h).2 false = false ∧ ∀ i, (sweep f u h).1.getD i false = true → u.getD i false = true
  | 0, u, h, hc, _ => by omega
  | f + 1, u, h, hc, hl => by
    unfold sweep
    split
    · rename_i hu
      have hc2 := count_clear hu
      have hl2 : (h + 1) % u.length < (u.set h false).length := by rw [List.length_set]; exact Nat.mod_lt _ (by omega)
      obtain ⟨a1, a2, a3, a4⟩ := sweep_ok f (u.set h false) ((h + 1) % u.length) (by omega) hl2
      rw [List.length_set] at a1 a2
      refine ⟨a1, a2, a3, fun i hi => ?_⟩
      have := a4 i hi
      by_cases e : h = i
      · subst e; exact hu
      · simpa [List.getD, List.getElem?_set_ne e] using this
    · rename_i hu
      exact ⟨rfl, hl, by simpa using hu, fun i hi => hi⟩
theorem sweep_more : ∀ (f : Nat) (u : List Bool) (h : Nat), u.count true < f → h < u.length → ∀ g, f ≤ g → sweep g u h = sweep f u h
  | 0, u, h, hc, _, _, _ => by omega
  | f + 1, u, h, hc, hl, 0, hg => by omega
  | f + 1, u, h, hc, hl, g + 1, hg => by
    unfold sweep
    split
    · rename_i hu
      have hc2 := count_clear hu
      exact sweep_more f _ _ (by omega) (by rw [List.length_set]; exact Nat.mod_lt _ (by omega)) g (by omega)
    · rfl
/-- The state of a clock behind the use of a key: keys, marks, hand, hit. -/
def tickM (room : Int) (keys : List Int) (used : List Bool) (hand : Int) (key : Int) : List Int × List Bool × Int × Bool :=
  if key ∈ keys then (keys, used.set (plc keys key).toNat true, hand, true)
  else if (keys.length : Int) < room then (keys ++ [key], used ++ [false], hand, false)
  else (keys.set (sweep (used.length + 1) used hand.toNat).2 key, (sweep (used.length + 1) used hand.toNat).1, (((sweep (used.length + 1) used hand.toNat).2 + 1) % keys.length : Nat), false)
theorem tmod_next (h n : Nat) : Int.tmod ((h : Int) + 1) (n : Int) = (((h + 1) % n : Nat) : Int) := by
  rw [show ((h : Int) + 1) = ((h + 1 : Nat) : Int) by omega]
  rfl
theorem nodup_set {l : List Int} {i : Nat} {x : Int} (hn : l.Nodup) (hx : x ∉ l) : (l.set i x).Nodup := by
  refine List.pairwise_iff_getElem.2 fun a b ha hb hab e => ?_
  rw [List.length_set] at ha hb
  rw [List.getElem_set, List.getElem_set] at e
  split at e
  · split at e
    · omega
    · exact hx (e ▸ List.getElem_mem hb)
  · split at e
    · exact hx (e ▸ List.getElem_mem ha)
    · exact List.pairwise_iff_getElem.1 hn a b ha hb hab e
theorem mem_set {l : List Int} {i : Nat} {x y : Int} (h : y ∈ l.set i x) : y = x ∨ y ∈ l := by
  obtain ⟨j, hj⟩ := List.getElem?_of_mem h
  rw [List.getElem?_set] at hj
  split at hj
  · split at hj
    · injection hj with hj; exact .inl hj.symm
    · cases hj
  · exact .inr (List.mem_of_getElem? hj)
theorem tick_valid {room : Int} {keys : List Int} {used : List Bool} {hand key : Int} (v : VClock room keys used hand) (hk : 0 ≤ key ∧ key ≤ 31) :
    VClock room (tickM room keys used hand key).1 (tickM room keys used hand key).2.1 (tickM room keys used hand key).2.2.1 := by
  obtain ⟨⟨v1, v2, v3, v4, v5⟩, v6, v7, v8⟩ := v
  unfold tickM
  split
  · exact ⟨⟨v1, v2, v3, v4, v5⟩, by simp [v6], v7, v8⟩
  · rename_i hm
    split
    · rename_i hl
      refine ⟨⟨v1, v2, by simp; omega, fun x hx => ?_, ?_⟩, by simp [v6], fun h => v7 hl, fun h => ?_⟩
      · rcases List.mem_append.1 hx with hx | hx
        · exact v4 x hx
        · simp at hx; subst hx; exact hk
      · rw [List.nodup_append]
        exact ⟨v5, by simp, fun a ha b hb e => by simp at hb; subst hb; subst e; exact hm ha⟩
      · rw [v7 hl]; simp
    · rename_i hl
      have hfull : (keys.length : Int) = room := by omega
      obtain ⟨w1, w2⟩ := v8 hfull
      have hc : used.count true < used.length + 1 := Nat.lt_succ_of_le List.count_le_length
      obtain ⟨s1, s2, s3, s4⟩ := sweep_ok (used.length + 1) used hand.toNat hc (by omega)
      refine ⟨⟨v1, v2, by simpa using v3, fun x hx => ?_, nodup_set v5 hm⟩, by rw [List.length_set, s1, v6], fun h => by simp at h; omega, fun h => ?_⟩
      · rcases mem_set hx with rfl | hx
        · exact hk
        · exact v4 x hx
      · have := Nat.mod_lt ((sweep (used.length + 1) used hand.toNat).2 + 1) (show keys.length > 0 by omega)
        simp only [List.length_set]; omega

/-! ## Recent keys -/
def rmK (l : List Int) (key : Int) : List Int := l.filter (fun x => x != key)
def recM (l : List Int) (room key : Int) : List Int := (key :: rmK l key).take room.toNat
theorem mem_rmK {l : List Int} {key x : Int} : x ∈ rmK l key ↔ x ∈ l ∧ x ≠ key := by simp [rmK]
theorem rmK_not {l : List Int} {key : Int} (h : key ∉ l) : rmK l key = l := by
  unfold rmK
  rw [List.filter_eq_self]
  intro x hx
  have : x ≠ key := fun e => h (e ▸ hx)
  simpa using this
theorem rmK_nodup {l : List Int} {key : Int} (h : l.Nodup) : (rmK l key).Nodup := List.Pairwise.filter _ h
theorem rmK_le {l : List Int} {key : Int} : (rmK l key).length ≤ l.length := List.length_filter_le _ _
theorem rmK_cons_ne {l : List Int} {key x : Int} (h : x ≠ key) : rmK (x :: l) key = x :: rmK l key := by
  unfold rmK; rw [List.filter_cons_of_pos (by simpa using h)]
theorem rmK_cons_eq {l : List Int} {key : Int} : rmK (key :: l) key = rmK l key := by
  unfold rmK; rw [List.filter_cons_of_neg (by simp)]
theorem rmK_append {a b : List Int} {key : Int} : rmK (a ++ b) key = rmK a key ++ rmK b key := List.filter_append _ _
theorem rmK_erase : ∀ {l : List Int} {key : Int} {j : Nat}, l.Nodup → l[j]? = some key → l.take j ++ l.drop (j + 1) = rmK l key
  | [], _, _, _, h => by simp at h
  | x :: r, key, 0, hn, h => by
    have e : x = key := by simpa using h
    subst e
    rw [rmK_cons_eq, rmK_not (List.nodup_cons.1 hn).1]; rfl
  | x :: r, key, j + 1, hn, h => by
    have h' : r[j]? = some key := by simpa using h
    have hne : x ≠ key := fun e => (List.nodup_cons.1 hn).1 (e ▸ List.mem_of_getElem? h')
    rw [rmK_cons_ne hne, ← rmK_erase (List.nodup_cons.1 hn).2 h']; rfl
theorem rmK_len {l : List Int} {key : Int} (hn : l.Nodup) (h : key ∈ l) : (rmK l key).length + 1 = l.length := by
  obtain ⟨j, hj, he⟩ := List.getElem_of_mem h
  have h2 : l[j]? = some key := by rw [List.getElem?_eq_getElem hj, he]
  rw [← rmK_erase hn h2]; simp; omega
theorem take_nodup {l : List Int} {n : Nat} (h : l.Nodup) : (l.take n).Nodup := List.Pairwise.sublist (List.take_sublist n l) h
theorem recM_hit {l : List Int} {room key : Int} (hn : l.Nodup) (hl : (l.length : Int) ≤ room) (h : key ∈ l) : recM l room key = key :: rmK l key := by
  have := rmK_len hn h
  exact List.take_of_length_le (by simp; omega)
theorem recM_miss {l : List Int} {room key : Int} (h : key ∉ l) : recM l room key = (key :: l).take room.toNat := by rw [recM, rmK_not h]
theorem recM_valid {l : List Int} {room key : Int} (v : VKeys l room) (hk : 0 ≤ key ∧ key ≤ 31) : VKeys (recM l room key) room := by
  obtain ⟨v1, v2, v3, v4, v5⟩ := v
  refine ⟨v1, v2, by simp only [recM, List.length_take]; omega, fun x hx => ?_, take_nodup ?_⟩
  · rcases List.mem_cons.1 (List.mem_of_mem_take hx) with rfl | h
    · exact hk
    · exact v4 x (mem_rmK.1 h).1
  · exact List.nodup_cons.2 ⟨fun h => (mem_rmK.1 h).2 rfl, rmK_nodup v5⟩
theorem recM_mem {l : List Int} {room key : Int} (h : 1 ≤ room) : key ∈ recM l room key := by
  obtain ⟨n, hn⟩ : ∃ n, room.toNat = n + 1 := ⟨room.toNat - 1, by omega⟩
  rw [recM, hn]; simp
theorem recM_head {l : List Int} {room key : Int} (h : 1 ≤ room) : recM l room key = key :: (rmK l key).take (room.toNat - 1) := by
  obtain ⟨n, hn⟩ : ∃ n, room.toNat = n + 1 := ⟨room.toNat - 1, by omega⟩
  rw [recM, hn]; simp

/-! ## Segments -/
def VSegs (trial safe : Int) (new old : List Int) : Prop := VKeys new trial ∧ VKeys old safe ∧ ∀ x ∈ new, x ∉ old
/-- New, Old and hit behind the use of a key. -/
def segM (trial safe : Int) (new old : List Int) (key : Int) : List Int × List Int × Bool :=
  if key ∈ old then (new, key :: rmK old key, true)
  else if key ∈ new then ((if (old.length : Int) = safe then [old.getD (old.length - 1) 0] else []) ++ rmK new key, (key :: old).take safe.toNat, true)
  else ((key :: new).take trial.toNat, old, false)
theorem segM_valid {trial safe : Int} {new old : List Int} {key : Int} (v : VSegs trial safe new old) (hk : 0 ≤ key ∧ key ≤ 31) :
    VSegs trial safe (segM trial safe new old key).1 (segM trial safe new old key).2.1 := by
  obtain ⟨vn, vo, vd⟩ := v
  obtain ⟨n1, n2, n3, n4, n5⟩ := vn
  obtain ⟨o1, o2, o3, o4, o5⟩ := vo
  unfold segM
  split
  · rename_i h
    refine ⟨⟨n1, n2, n3, n4, n5⟩, ?_, fun x hx hx2 => ?_⟩
    · rw [← recM_hit o5 o3 h]; exact recM_valid ⟨o1, o2, o3, o4, o5⟩ hk
    · rcases List.mem_cons.1 hx2 with rfl | h2
      · exact vd _ hx h
      · exact vd _ hx (mem_rmK.1 h2).1
  · rename_i h
    split
    · rename_i hn
      have hlen := rmK_len n5 hn
      have hvo : VKeys ((key :: old).take safe.toNat) safe := by rw [← recM_miss h]; exact recM_valid ⟨o1, o2, o3, o4, o5⟩ hk
      split
      · rename_i hs
        have hlo : old.length ≠ 0 := by omega
        have hl : old[old.length - 1]? = some (old.getD (old.length - 1) 0) := by
          rw [List.getElem?_eq_getElem (by omega)]; simp [List.getD, List.getElem?_eq_getElem (show old.length - 1 < old.length by omega)]
        have hlm := List.mem_of_getElem? hl
        refine ⟨⟨n1, n2, by simp; omega, fun x hx => ?_, ?_⟩, hvo, fun x hx hx2 => ?_⟩
        · rcases List.mem_append.1 hx with h1 | h1
          · have e := List.mem_singleton.1 h1; rw [e]; exact o4 _ hlm
          · exact n4 x (mem_rmK.1 h1).1
        · rw [List.nodup_append]
          refine ⟨by simp, rmK_nodup n5, fun a ha b hb e => ?_⟩
          have e2 := List.mem_singleton.1 ha
          subst e; rw [e2] at hb
          exact vd _ (mem_rmK.1 hb).1 hlm
        · obtain ⟨s, hs2⟩ : ∃ s, safe.toNat = s + 1 := ⟨safe.toNat - 1, by omega⟩
          rw [hs2, List.take_succ_cons] at hx2
          rcases List.mem_append.1 hx with h1 | h1
          · have e := List.mem_singleton.1 h1
            rcases List.mem_cons.1 hx2 with e2 | h2
            · exact h (by rw [← e2, e]; exact hlm)
            · obtain ⟨i, hi, hie⟩ := List.getElem_of_mem h2
              rw [List.length_take] at hi
              rw [List.getElem_take] at hie
              have hlt : old.length - 1 < old.length := by omega
              refine List.pairwise_iff_getElem.1 o5 i (old.length - 1) (by omega) hlt (by omega) ?_
              rw [hie, e]; simp [List.getD, List.getElem?_eq_getElem hlt]
          · obtain ⟨h3, h4⟩ := mem_rmK.1 h1
            rcases List.mem_cons.1 hx2 with e2 | h2
            · exact h4 e2
            · exact vd _ h3 (List.mem_of_mem_take h2)
      · refine ⟨⟨n1, n2, by simp; omega, fun x hx => n4 x (mem_rmK.1 (by simpa using hx)).1, by simpa using rmK_nodup n5⟩, hvo, fun x hx hx2 => ?_⟩
        have hx := mem_rmK.1 (show x ∈ rmK new key by simpa using hx)
        rcases List.mem_cons.1 (List.mem_of_mem_take hx2) with e | h2
        · exact hx.2 e
        · exact vd _ hx.1 h2
    · rename_i hn
      refine ⟨?_, ⟨o1, o2, o3, o4, o5⟩, fun x hx hx2 => ?_⟩
      · rw [← recM_miss hn]; exact recM_valid ⟨n1, n2, n3, n4, n5⟩ hk
      · rcases List.mem_cons.1 (List.mem_of_mem_take hx) with rfl | h2
        · exact h hx2
        · exact vd _ h2 hx2
theorem segs_nodup {new old : List Int} : (new ++ old).Nodup ↔ new.Nodup ∧ old.Nodup ∧ ∀ x ∈ new, x ∉ old := by
  rw [List.nodup_append]
  exact ⟨fun ⟨a, b, c⟩ => ⟨a, b, fun x hx h => c x hx x h rfl⟩, fun ⟨a, b, c⟩ => ⟨a, b, fun x hx y hy e => c x hx (e ▸ hy)⟩⟩

/-! ## Victims -/
def scanM : Nat → List Bool → Nat → Nat
  | 0, _, h => h
  | f + 1, u, h => if u.getD h false then scanM f u ((h + 1) % u.length) else h
theorem mod_step {h j n : Nat} : ((h + 1) % n + j) % n = (h + (j + 1)) % n := by
  rw [Nat.mod_add_mod]; congr 1; omega
theorem scan_first {u : List Bool} : ∀ (i f h : Nat), h < u.length → (∀ j, j < i → u.getD ((h + j) % u.length) false = true) → u.getD ((h + i) % u.length) false = false → i ≤ f → scanM f u h = (h + i) % u.length
  | 0, f, h, hl, _, h0, _ => by
    rw [Nat.add_zero, Nat.mod_eq_of_lt hl] at h0 ⊢
    cases f with
    | zero => rfl
    | succ f => rw [scanM, h0]; rfl
  | i + 1, f, h, hl, ha, h0, hf => by
    obtain ⟨g, rfl⟩ : ∃ g, f = g + 1 := ⟨f - 1, by omega⟩
    have h1 := ha 0 (by omega)
    rw [Nat.add_zero, Nat.mod_eq_of_lt hl] at h1
    rw [scanM, if_pos h1, scan_first i g ((h + 1) % u.length) (Nat.mod_lt _ (by omega)) (fun j hj => by rw [mod_step]; exact ha (j + 1) (by omega)) (by rw [mod_step]; exact h0) (by omega), mod_step]
theorem scan_all {u : List Bool} : ∀ (f h : Nat), h < u.length → (∀ j, j < f → u.getD ((h + j) % u.length) false = true) → scanM f u h = (h + f) % u.length
  | 0, h, hl, _ => by rw [Nat.add_zero, Nat.mod_eq_of_lt hl]; rfl
  | f + 1, h, hl, ha => by
    have h1 := ha 0 (by omega)
    rw [Nat.add_zero, Nat.mod_eq_of_lt hl] at h1
    rw [scanM, if_pos h1, scan_all f ((h + 1) % u.length) (Nat.mod_lt _ (by omega)) (fun j hj => by rw [mod_step]; exact ha (j + 1) (by omega)), mod_step]
theorem getD_set_ne {u : List Bool} {h i : Nat} {b : Bool} (e : h ≠ i) : (u.set h b).getD i false = u.getD i false := by
  simp [List.getD, List.getElem?_set_ne e]
theorem mod_ne {h j n : Nat} (hl : h < n) (hj : 0 < j) (hjn : j < n) : h ≠ (h + j) % n := by
  rcases Nat.lt_or_ge (h + j) n with h1 | h1
  · rw [Nat.mod_eq_of_lt h1]; omega
  · rw [Nat.mod_eq_sub_mod h1, Nat.mod_eq_of_lt (by omega)]; omega
theorem sweep_first : ∀ (i f h : Nat) (u : List Bool), i < u.length → h < u.length → (∀ j, j < i → u.getD ((h + j) % u.length) false = true) → u.getD ((h + i) % u.length) false = false → i < f → (sweep f u h).2 = (h + i) % u.length
  | 0, f, h, u, hi, hl, _, h0, hf => by
    obtain ⟨g, rfl⟩ : ∃ g, f = g + 1 := ⟨f - 1, by omega⟩
    rw [Nat.add_zero, Nat.mod_eq_of_lt hl] at h0
    rw [show h + 0 = h from rfl, Nat.mod_eq_of_lt hl, sweep, h0]; rfl
  | i + 1, f, h, u, hi, hl, ha, h0, hf => by
    obtain ⟨g, rfl⟩ : ∃ g, f = g + 1 := ⟨f - 1, by omega⟩
    have h1 := ha 0 (by omega)
    rw [Nat.add_zero, Nat.mod_eq_of_lt hl] at h1
    rw [sweep, if_pos h1]
    have hr := sweep_first i g ((h + 1) % u.length) (u.set h false) (by rw [List.length_set]; omega) (by rw [List.length_set]; exact Nat.mod_lt _ (by omega))
      (fun j hj => by rw [List.length_set, mod_step, getD_set_ne (mod_ne hl (by omega) (by omega))]; exact ha (j + 1) (by omega))
      (by rw [List.length_set, mod_step, getD_set_ne (mod_ne hl (by omega) (by omega))]; exact h0) (by omega)
    rw [hr, List.length_set, mod_step]
theorem sweep_all {u : List Bool} {f h : Nat} (hl : h < u.length) (ha : ∀ j, j < u.length → u.getD ((h + j) % u.length) false = true) (hf : u.length < f) : (sweep f u h).2 = h := by
  obtain ⟨g, rfl⟩ : ∃ g, f = g + 1 := ⟨f - 1, by omega⟩
  have h1 := ha 0 (by omega)
  rw [Nat.add_zero, Nat.mod_eq_of_lt hl] at h1
  rw [sweep, if_pos h1]
  have hn : (h + (u.length - 1 + 1)) % u.length = h := by
    rw [show h + (u.length - 1 + 1) = h + u.length by omega, Nat.add_mod_right, Nat.mod_eq_of_lt hl]
  have hr := sweep_first (u.length - 1) g ((h + 1) % u.length) (u.set h false) (by rw [List.length_set]; omega) (by rw [List.length_set]; exact Nat.mod_lt _ (by omega))
    (fun j hj => by rw [List.length_set, mod_step, getD_set_ne (mod_ne hl (by omega) (by omega))]; exact ha (j + 1) (by omega))
    (by rw [List.length_set, mod_step, hn]; simp [List.getD, hl]) (by omega)
  rw [hr, List.length_set, mod_step, hn]
/-- The first place from h on without a mark, if there is one. -/
theorem first_or_all (u : List Bool) (h : Nat) : ∀ n, (∀ j, j < n → u.getD ((h + j) % u.length) false = true) ∨ ∃ i, i < n ∧ (∀ j, j < i → u.getD ((h + j) % u.length) false = true) ∧ u.getD ((h + i) % u.length) false = false
  | 0 => .inl fun j hj => by omega
  | n + 1 => by
    rcases first_or_all u h n with ha | ⟨i, h1, h2, h3⟩
    · cases hb : u.getD ((h + n) % u.length) false with
      | true =>
        refine .inl fun j hj => ?_
        by_cases e : j = n
        · rw [e]; exact hb
        · exact ha j (by omega)
      | false => exact .inr ⟨n, by omega, ha, hb⟩
    · exact .inr ⟨i, by omega, h2, h3⟩
/-- The place of the next victim. -/
def vicM (u : List Bool) (h : Nat) : Nat := (sweep (u.length + 1) u h).2
theorem vic_scan {u : List Bool} {h : Nat} (hl : h < u.length) : scanM u.length u h = vicM u h := by
  rcases first_or_all u h u.length with ha | ⟨i, h1, h2, h3⟩
  · rw [vicM, sweep_all hl ha (by omega), scan_all _ _ hl ha, Nat.add_mod_right, Nat.mod_eq_of_lt hl]
  · rw [vicM, sweep_first i _ _ _ h1 hl h2 h3 (by omega), scan_first i _ _ hl h2 h3 (by omega)]
theorem vic_lt {u : List Bool} {h : Nat} (hl : h < u.length) : vicM u h < u.length :=
  (sweep_ok (u.length + 1) u h (Nat.lt_succ_of_le List.count_le_length) hl).2.1
/-- The victim has a mark exactly if all keys have one. -/
theorem vic_mark {u : List Bool} {h : Nat} (hl : h < u.length) : u.getD (vicM u h) false = true ↔ ∀ i, i < u.length → u.getD i false = true := by
  have hcov : ∀ i, i < u.length → ∃ j, j < u.length ∧ (h + j) % u.length = i := fun i hi => by
    rcases Nat.lt_or_ge i h with h1 | h1
    · exact ⟨i + u.length - h, by omega, by rw [show h + (i + u.length - h) = i + u.length by omega, Nat.add_mod_right, Nat.mod_eq_of_lt hi]⟩
    · exact ⟨i - h, by omega, by rw [show h + (i - h) = i by omega, Nat.mod_eq_of_lt hi]⟩
  rcases first_or_all u h u.length with ha | ⟨i, h1, h2, h3⟩
  · refine ⟨fun _ i hi => ?_, fun hh => hh _ (vic_lt hl)⟩
    obtain ⟨j, hj, e⟩ := hcov i hi
    rw [← e]; exact ha j hj
  · rw [vicM, sweep_first i _ _ _ h1 hl h2 h3 (by omega), h3]
    refine ⟨fun h => (by cases h), fun hh => ?_⟩
    rw [hh _ (Nat.mod_lt _ (by omega))] at h3
    exact h3.symm

/-! ## Counting -/
theorem nodup_le : ∀ {a b : List Int}, a.Nodup → (∀ x ∈ a, x ∈ b) → a.length ≤ b.length
  | [], _, _, _ => Nat.zero_le _
  | x :: r, b, hn, hs => by
    have hx : x ∈ b := hs x List.mem_cons_self
    have h1 := nodup_le (a := r) (b := b.erase x) (List.nodup_cons.1 hn).2 (fun y hy => by
      have hne : y ≠ x := fun e => (List.nodup_cons.1 hn).1 (e ▸ hy)
      exact (List.mem_erase_of_ne hne).2 (hs y (List.mem_cons_of_mem _ hy)))
    rw [List.length_erase_of_mem hx] at h1
    have := List.length_pos_of_mem hx
    simp; omega
/-- The first number that is not in a list. -/
theorem first_out (l : List Int) : ∃ m : Nat, m ≤ l.length ∧ (m : Int) ∉ l ∧ ∀ j : Nat, j < m → (j : Int) ∈ l := by
  have hstep : ∀ n : Nat, (∀ j : Nat, j < n → (j : Int) ∈ l) ∨ ∃ m : Nat, m < n ∧ (m : Int) ∉ l ∧ ∀ j : Nat, j < m → (j : Int) ∈ l := by
    intro n
    induction n with
    | zero => exact .inl fun j hj => by omega
    | succ n ih =>
      rcases ih with ha | ⟨m, h1, h2, h3⟩
      · by_cases h : (n : Int) ∈ l
        · exact .inl fun j hj => by
            by_cases e : j = n
            · rw [e]; exact h
            · exact ha j (by omega)
        · exact .inr ⟨n, by omega, h, ha⟩
      · exact .inr ⟨m, by omega, h2, h3⟩
  rcases hstep (l.length + 1) with ha | ⟨m, h1, h2, h3⟩
  · have hr : ((List.range (l.length + 1)).map (fun j : Nat => (j : Int))).length ≤ l.length := by
      refine nodup_le ?_ (fun x hx => ?_)
      · refine List.pairwise_map.2 (List.Pairwise.imp (fun h e => h (by omega)) List.nodup_range)
      · obtain ⟨j, hj, rfl⟩ := List.mem_map.1 hx
        exact ha j (List.mem_range.1 hj)
    rw [List.length_map, List.length_range] at hr; omega
  · exact ⟨m, by omega, h2, h3⟩
/-- How many places of two lists differ. -/
def diffs : List Int → List Int → Nat
  | x :: a, y :: b => (if x = y then 0 else 1) + diffs a b
  | _, _ => 0
theorem diffs_self : ∀ l : List Int, diffs l l = 0
  | [] => rfl
  | x :: r => by simp [diffs, diffs_self r]
theorem diffs_append : ∀ (l r : List Int), diffs l (l ++ r) = 0
  | [], r => by cases r <;> rfl
  | x :: l, r => by simp [diffs, diffs_append l r]
theorem diffs_set : ∀ {l : List Int} {i : Nat} {x : Int}, i < l.length → x ∉ l → diffs l (l.set i x) = 1
  | [], i, x, h, _ => by simp at h
  | y :: r, 0, x, h, hx => by
    have : y ≠ x := fun e => hx (by rw [e]; exact List.mem_cons_self)
    simp [diffs, diffs_self, this]
  | y :: r, i + 1, x, h, hx => by
    simp [diffs, diffs_set (l := r) (i := i) (x := x) (by simpa using h) (fun h => hx (List.mem_cons_of_mem _ h))]
/-- The keys with marks. -/
def marked : List Int → List Bool → List Int
  | x :: a, b :: m => if b then x :: marked a m else marked a m
  | _, _ => []
theorem marked_sub : ∀ {l : List Int} {u : List Bool} {x : Int}, x ∈ marked l u → x ∈ l
  | [], _, _, h => by simp [marked] at h
  | y :: r, [], _, h => by simp [marked] at h
  | y :: r, b :: m, x, h => by
    unfold marked at h
    split at h
    · rcases List.mem_cons.1 h with h | h
      · rw [h]; exact List.mem_cons_self
      · exact List.mem_cons_of_mem _ (marked_sub h)
    · exact List.mem_cons_of_mem _ (marked_sub h)
theorem marked_mem : ∀ {l : List Int} {u : List Bool} {i : Nat}, l.Nodup → u.length = l.length → i < l.length → (l.getD i 0 ∈ marked l u ↔ u.getD i false = true)
  | [], _, i, _, _, h => by simp at h
  | y :: r, [], i, _, h, _ => by simp at h
  | y :: r, b :: m, i, hn, hl, hi => by
    obtain ⟨h1, h2⟩ := List.nodup_cons.1 hn
    cases i with
    | zero =>
      cases b
      · simp [marked]; exact fun h => h1 (marked_sub h)
      · simp [marked]
    | succ i =>
      have ih := marked_mem (l := r) (u := m) (i := i) h2 (by simpa using hl) (by simpa using hi)
      have hne : r.getD i 0 ≠ y := fun e => h1 (by
        have hi' : i < r.length := by simpa using hi
        rw [← e]; simp [List.getD, List.getElem?_eq_getElem hi'])
      cases b
      · simpa [marked] using ih
      · simp only [marked, if_true, List.getD_cons_succ, List.mem_cons]
        exact ⟨fun h => by rcases h with h | h; exact absurd h hne; exact ih.1 h, fun h => .inr (ih.2 h)⟩
theorem marked_len : ∀ (l : List Int) (u : List Bool), u.length = l.length → (marked l u).length = u.count true
  | [], [], _ => rfl
  | [], _ :: _, h => by simp at h
  | _ :: _, [], h => by simp at h
  | y :: r, b :: m, h => by
    have ih := marked_len r m (by simpa using h)
    cases b <;> simp [marked, ih]
theorem marked_le (l : List Int) (u : List Bool) (h : u.length = l.length) : (marked l u).length ≤ l.length := by
  rw [marked_len l u h, ← h]; exact List.count_le_length
theorem marked_all {l : List Int} {u : List Bool} (h : u.length = l.length) : (marked l u).length = l.length ↔ ∀ i, i < u.length → u.getD i false = true := by
  rw [marked_len l u h, ← h, List.count_eq_length]
  constructor
  · intro ha i hi
    rw [List.getD_eq_getElem?_getD, List.getElem?_eq_getElem hi]
    exact (ha _ (List.getElem_mem hi)).symm
  · intro ha b hb
    obtain ⟨i, hi, e⟩ := List.getElem_of_mem hb
    have := ha i hi
    rw [List.getD_eq_getElem?_getD, List.getElem?_eq_getElem hi] at this
    rw [← e]; exact this.symm
theorem take_min1 {α : Type} {L : List α} {room : Int} : L.take (if (L.length : Int) < room then (L.length : Int) else room).toNat = L.take room.toNat := by
  split
  · rw [List.take_of_length_le (by omega), List.take_of_length_le (by omega)]
  · rfl
theorem take_min2 {α : Type} {L : List α} {room : Int} : L.take (if room < (L.length : Int) then room else (L.length : Int)).toNat = L.take room.toNat := by
  split
  · rfl
  · rw [List.take_of_length_le (by omega), List.take_of_length_le (by omega)]
theorem count_nodup : ∀ {l : List Int} {x : Int}, l.Nodup → x ∈ l → l.count x = 1
  | y :: r, x, hn, h => by
    obtain ⟨h1, h2⟩ := List.nodup_cons.1 hn
    rw [List.count_cons]
    by_cases e : y = x
    · rw [if_pos (by simpa using e), List.count_eq_zero_of_not_mem (e ▸ h1)]
    · rw [if_neg (by simpa using e), count_nodup h2 ((List.mem_cons.1 h).resolve_left (Ne.symm e))]

/-! ## Answers that are known -/
theorem all_t {P : Prop} {k : Bool → Prop} (p : P) (h : k true) : ∀ b : Bool, (b = true ↔ P) → k b := fun b hb => by rw [hb.2 p]; exact h
theorem all_f {P : Prop} {k : Bool → Prop} (p : ¬ P) (h : k false) : ∀ b : Bool, (b = true ↔ P) → k b := fun b hb => by
  cases b with
  | false => exact h
  | true => exact absurd (hb.1 rfl) p
theorem br_nt {A B : Prop} (h : B) : br (!true) A B := h
theorem br_nf {A B : Prop} (h : A) : br (!false) A B := h
theorem br_same {b : Bool} {A B : Prop} (h : B) : br (!(b == b)) A B := by rw [beq_self_eq_true]; exact h
theorem br_same' {b : Int} {A B : Prop} (h : B) : br (b != b) A B := by rw [bne_self_eq_false]; exact h
theorem tmod_nat (a n : Nat) : Int.tmod (a : Int) (n : Int) = ((a % n : Nat) : Int) := rfl

/-! ## Clocks, more -/
theorem tick_hit {room : Int} {keys : List Int} {used : List Bool} {hand key : Int} : (tickM room keys used hand key).2.2.2 = decide (key ∈ keys) := by
  unfold tickM
  split
  · rename_i h; simp [h]
  · rename_i h; split <;> simp [h]
theorem tick_in {room : Int} {keys : List Int} {used : List Bool} {hand key : Int} (v : VClock room keys used hand) : key ∈ (tickM room keys used hand key).1 := by
  obtain ⟨⟨v1, v2, v3, v4, v5⟩, v6, v7, v8⟩ := v
  unfold tickM
  split
  · rename_i h; exact h
  · split
    · simp
    · obtain ⟨w1, w2⟩ := v8 (by omega)
      obtain ⟨_, s2, _, _⟩ := sweep_ok (used.length + 1) used hand.toNat (Nat.lt_succ_of_le List.count_le_length) (by omega)
      exact List.mem_of_getElem? (i := (sweep (used.length + 1) used hand.toNat).2) (by rw [List.getElem?_set_self (by omega)])
theorem getD_of {l : List Int} {i : Nat} {x d : Int} (h : l[i]? = some x) : l.getD i d = x := by rw [List.getD_eq_getElem?_getD, h]; rfl
theorem some_of {l : List Int} {i : Nat} {d : Int} (h : i < l.length) : l[i]? = some (l.getD i d) := by
  rw [List.getD_eq_getElem?_getD, List.getElem?_eq_getElem h]; rfl
theorem nodup_at {l : List Int} {i j : Nat} {x : Int} (hn : l.Nodup) (hi : l[i]? = some x) (hj : l[j]? = some x) : i = j := by
  obtain ⟨a, ha⟩ := List.getElem?_eq_some_iff.1 hi
  obtain ⟨b, hb⟩ := List.getElem?_eq_some_iff.1 hj
  rcases Nat.lt_trichotomy i j with h | h | h
  · exact absurd (ha.trans hb.symm) (List.pairwise_iff_getElem.1 hn i j a b h)
  · exact h
  · exact absurd (hb.trans ha.symm) (List.pairwise_iff_getElem.1 hn j i b a h)
theorem tick_mark {room : Int} {keys : List Int} {used : List Bool} {hand key : Int} (v : VClock room keys used hand) {i : Nat}
    (hi : (tickM room keys used hand key).1[i]? = some key) : (tickM room keys used hand key).2.1.getD i false = (tickM room keys used hand key).2.2.2 := by
  obtain ⟨⟨v1, v2, v3, v4, v5⟩, v6, v7, v8⟩ := v
  revert hi
  unfold tickM
  split
  · rename_i h
    intro hi
    obtain ⟨j, j1, j2, _, j3⟩ := plc_pos h
    have : i = j := nodup_at v5 hi j2
    subst this
    rw [j3]
    have : i < used.length := by omega
    simp [List.getD, this]
  · rename_i h
    split
    · intro hi
      have hi : (keys ++ [key])[i]? = some key := hi
      rcases Nat.lt_or_ge i keys.length with h1 | h1
      · rw [List.getElem?_append_left h1] at hi
        exact absurd (List.mem_of_getElem? hi) h
      · show (used ++ [false]).getD i false = false
        have h2 : i < (keys ++ [key]).length := (List.getElem?_eq_some_iff.1 hi).1
        have : i = used.length := by simp at h2; omega
        subst this
        simp [List.getD]
    · intro hi
      obtain ⟨w1, w2⟩ := v8 (by omega)
      obtain ⟨_, s2, s3, _⟩ := sweep_ok (used.length + 1) used hand.toNat (Nat.lt_succ_of_le List.count_le_length) (by omega)
      have hi : (keys.set (sweep (used.length + 1) used hand.toNat).2 key)[i]? = some key := hi
      by_cases e : (sweep (used.length + 1) used hand.toNat).2 = i
      · rw [← e]; exact s3
      · rw [List.getElem?_set_ne e] at hi
        exact absurd (List.mem_of_getElem? hi) h
theorem tick_len {room : Int} {keys : List Int} {used : List Bool} {hand key : Int} (v : VClock room keys used hand) (hk : 0 ≤ key ∧ key ≤ 31) :
    (tickM room keys used hand key).1.length ≤ 8 ∧ (tickM room keys used hand key).2.1.length = (tickM room keys used hand key).1.length := by
  have := tick_valid v hk
  obtain ⟨⟨v1, v2, v3, v4, v5⟩, v6, v7, v8⟩ := this
  exact ⟨by omega, v6⟩
def VTrace (t : List Int) : Prop := t.length ≤ 24 ∧ ∀ x ∈ t, 0 ≤ x ∧ x ≤ 31
def toI (b : Bool) : Int := if b then 1 else 0
theorem toI_01 (b : Bool) : 0 ≤ toI b ∧ toI b ≤ 1 := by cases b <;> decide
def runC (room : Int) : List Int → List Int → List Bool → Int → Int → List Int × List Bool × Int × Int
  | [], ks, us, h, n => (ks, us, h, n)
  | x :: r, ks, us, h, n => runC room r (tickM room ks us h x).1 (tickM room ks us h x).2.1 (tickM room ks us h x).2.2.1 (n + toI (tickM room ks us h x).2.2.2)
theorem runC_append (room : Int) (x : Int) : ∀ (t ks : List Int) (us : List Bool) (h n : Int), runC room (t ++ [x]) ks us h n = runC room [x] (runC room t ks us h n).1 (runC room t ks us h n).2.1 (runC room t ks us h n).2.2.1 (runC room t ks us h n).2.2.2
  | [], ks, us, h, n => rfl
  | y :: t, ks, us, h, n => runC_append room x t _ _ _ _
theorem runC_valid {room : Int} : ∀ (t ks : List Int) (us : List Bool) (h n : Int), VClock room ks us h → (∀ x ∈ t, 0 ≤ x ∧ x ≤ 31) →
    VClock room (runC room t ks us h n).1 (runC room t ks us h n).2.1 (runC room t ks us h n).2.2.1 ∧ n ≤ (runC room t ks us h n).2.2.2 ∧ (runC room t ks us h n).2.2.2 ≤ n + t.length
  | [], ks, us, h, n, v, _ => ⟨v, Int.le_refl _, by simp [runC]⟩
  | y :: t, ks, us, h, n, v, ht => by
    obtain ⟨a, b, c⟩ := runC_valid t _ _ _ (n + toI (tickM room ks us h y).2.2.2) (tick_valid (key := y) v (ht y List.mem_cons_self)) (fun x hx => ht x (List.mem_cons_of_mem _ hx))
    have := toI_01 (tickM room ks us h y).2.2.2
    simp only [runC, List.length_cons]
    exact ⟨a, by omega, by omega⟩
theorem clock0 {room : Int} (h : 1 ≤ room ∧ room ≤ 8) : VClock room [] [] 0 :=
  ⟨⟨h.1, h.2, by simp; omega, by simp, by simp⟩, rfl, fun _ => rfl, fun h => by simp at h; omega⟩
theorem br_de {α : Type} [DecidableEq α] {a : α} {A B : Prop} (h : B) : br (!decide (a = a)) A B := by rw [decide_eq_true rfl]; exact h
theorem br_de' {α : Type} [DecidableEq α] {a : α} {A B : Prop} (h : A) : br (decide (a = a)) A B := by rw [decide_eq_true rfl]; exact h
theorem mem_set_iff {l : List Int} {p : Nat} {m x : Int} (hn : l.Nodup) (hp : p < l.length) (hm : m ∉ l) (hx : x ∈ l) : x ∈ l.set p m ↔ x ≠ l.getD p 0 := by
  obtain ⟨i, hi⟩ := List.getElem?_of_mem hx
  constructor
  · intro h e
    obtain ⟨j, hj⟩ := List.getElem?_of_mem h
    rw [List.getElem?_set] at hj
    split at hj
    · injection hj with hj; exact hm (hj ▸ hx)
    · rename_i hne
      exact hne (nodup_at hn (some_of hp) (by rw [hj, e]))
  · intro h
    refine List.mem_of_getElem? (i := i) ?_
    have hne : p ≠ i := fun e => h (by subst e; exact (getD_of hi).symm)
    rw [List.getElem?_set_ne hne]; exact hi
theorem mem_getD {l : List Int} {i : Nat} (h : i < l.length) : l.getD i 0 ∈ l := List.mem_of_getElem? (some_of h)
theorem split_last {t : List Int} (h : t.length ≠ 0) : t.take ((t.length : Int) - 1).toNat ++ [t.getD ((t.length : Int) - 1).toNat 0] = t := by
  have h1 : ((t.length : Int) - 1).toNat = t.length - 1 := by omega
  rw [h1]
  have h2 : t.length - 1 < t.length := by omega
  have h3 : t.getD (t.length - 1) 0 = t[t.length - 1] := by simp [List.getD, h2]
  rw [h3, ← List.take_succ_eq_append_getElem h2]
  rw [show t.length - 1 + 1 = t.length by omega, List.take_length]
/-! ## Segments, more -/
def runS (trial safe : Int) : List Int → List Int → List Int → Int → List Int × List Int × Int
  | [], a, b, n => (a, b, n)
  | x :: r, a, b, n => runS trial safe r (segM trial safe a b x).1 (segM trial safe a b x).2.1 (n + toI (segM trial safe a b x).2.2)
theorem runS_append (trial safe x : Int) : ∀ (t a b : List Int) (n : Int), runS trial safe (t ++ [x]) a b n = runS trial safe [x] (runS trial safe t a b n).1 (runS trial safe t a b n).2.1 (runS trial safe t a b n).2.2
  | [], _, _, _ => rfl
  | y :: t, _, _, _ => runS_append trial safe x t _ _ _
theorem runS_valid {trial safe : Int} : ∀ (t a b : List Int) (n : Int), VSegs trial safe a b → (∀ x ∈ t, 0 ≤ x ∧ x ≤ 31) →
    VSegs trial safe (runS trial safe t a b n).1 (runS trial safe t a b n).2.1 ∧ n ≤ (runS trial safe t a b n).2.2 ∧ (runS trial safe t a b n).2.2 ≤ n + t.length
  | [], a, b, n, v, _ => ⟨v, Int.le_refl _, by simp [runS]⟩
  | y :: t, a, b, n, v, ht => by
    obtain ⟨p, q, r⟩ := runS_valid t _ _ (n + toI (segM trial safe a b y).2.2) (segM_valid (key := y) v (ht y List.mem_cons_self)) (fun x hx => ht x (List.mem_cons_of_mem _ hx))
    have := toI_01 (segM trial safe a b y).2.2
    simp only [runS, List.length_cons]
    exact ⟨p, by omega, by omega⟩
theorem segs0 {trial safe : Int} (h : 1 ≤ trial ∧ trial ≤ 8) (g : 1 ≤ safe ∧ safe ≤ 8) : VSegs trial safe [] [] :=
  ⟨⟨h.1, h.2, by simp; omega, by simp, by simp⟩, ⟨g.1, g.2, by simp; omega, by simp, by simp⟩, by simp⟩
theorem segs_len {trial safe : Int} {a b : List Int} (v : VSegs trial safe a b) : a.length ≤ 8 ∧ b.length ≤ 8 := by
  obtain ⟨⟨_, h1, h2, _⟩, ⟨_, h3, h4, _⟩, _⟩ := v
  omega
theorem segM_hit {trial safe : Int} {new old : List Int} {key : Int} : (segM trial safe new old key).2.2 = decide (key ∈ new ∨ key ∈ old) := by
  unfold segM
  split
  · rename_i h; simp [h]
  · rename_i h
    split
    · rename_i g; simp [g]
    · rename_i g; simp [h, g]
theorem segM_old {trial safe : Int} {new old : List Int} {key : Int} (hs : 1 ≤ safe) (h : key ∈ new ∨ key ∈ old) : ∃ r, (segM trial safe new old key).2.1 = key :: r := by
  unfold segM
  split
  · exact ⟨_, rfl⟩
  · rename_i g
    rw [if_pos (h.resolve_right g)]
    obtain ⟨n, hn⟩ : ∃ n, safe.toNat = n + 1 := ⟨safe.toNat - 1, by omega⟩
    exact ⟨old.take n, by simp only [hn, List.take_succ_cons]⟩
theorem segM_miss {trial safe : Int} {new old : List Int} {key : Int} (h : ¬ (key ∈ new ∨ key ∈ old)) : segM trial safe new old key = ((key :: new).take trial.toNat, old, false) := by
  unfold segM
  rw [if_neg (fun g => h (.inr g)), if_neg (fun g => h (.inl g))]
theorem segM_sub {trial safe : Int} {new old : List Int} {key x : Int} (h : x ∈ (segM trial safe new old key).1 ∨ x ∈ (segM trial safe new old key).2.1) (hv : (old.length : Int) = safe → old ≠ []) : x = key ∨ x ∈ new ∨ x ∈ old := by
  revert h
  unfold segM
  split
  · intro h
    rcases h with h | h
    · exact .inr (.inl h)
    · rcases List.mem_cons.1 h with h | h
      · exact .inl h
      · exact .inr (.inr (mem_rmK.1 h).1)
  · split
    · intro h
      rcases h with h | h
      · rcases List.mem_append.1 h with h | h
        · split at h
          · rename_i hs
            have := hv hs
            rw [List.mem_singleton] at h
            rw [h]
            exact .inr (.inr (mem_getD (by have := List.length_pos_iff.2 this; omega)))
          · cases h
        · exact .inr (.inl (mem_rmK.1 h).1)
      · rcases List.mem_cons.1 (List.mem_of_mem_take h) with h | h
        · exact .inl h
        · exact .inr (.inr h)
    · intro h
      rcases h with h | h
      · rcases List.mem_cons.1 (List.mem_of_mem_take h) with h | h
        · exact .inl h
        · exact .inr (.inl h)
      · exact .inr (.inr h)
theorem vsegs_ne {trial safe : Int} {a b : List Int} (v : VSegs trial safe a b) : (b.length : Int) = safe → b ≠ [] := fun h e => by
  have := v.2.1.1; rw [e] at h; simp at h; omega
theorem runS_sub {trial safe x : Int} : ∀ (t a b : List Int) (n : Int), VSegs trial safe a b → (∀ x ∈ t, 0 ≤ x ∧ x ≤ 31) →
    (x ∈ (runS trial safe t a b n).1 ∨ x ∈ (runS trial safe t a b n).2.1) → x ∈ t ∨ x ∈ a ∨ x ∈ b
  | [], a, b, n, _, _, h => .inr h
  | y :: t, a, b, n, v, ht, h => by
    rcases runS_sub t _ _ _ (segM_valid v (ht y List.mem_cons_self)) (fun x hx => ht x (List.mem_cons_of_mem _ hx)) h with h | h
    · exact .inl (List.mem_cons_of_mem _ h)
    · rcases segM_sub h (vsegs_ne v) with h | h
      · exact .inl (by rw [h]; exact List.mem_cons_self)
      · exact .inr h
/-- How many numbers of a list are not in another. -/
def outN (a l : List Int) : Nat := (l.filter (fun x => !decide (x ∈ a))).length
theorem outN_cons {a l : List Int} {x : Int} : outN a (x :: l) = (if x ∈ a then 0 else 1) + outN a l := by
  unfold outN
  by_cases h : x ∈ a
  · rw [List.filter_cons_of_neg (by simp [h]), if_pos h]; omega
  · rw [List.filter_cons_of_pos (by simp [h]), if_neg h, List.length_cons]; omega
theorem outN_append {a l r : List Int} : outN a (l ++ r) = outN a l + outN a r := by simp [outN]
theorem outN_zero {a l : List Int} (h : ∀ x ∈ l, x ∈ a) : outN a l = 0 := by
  unfold outN
  rw [List.length_eq_zero_iff, List.filter_eq_nil_iff]
  intro x hx
  simp [h x hx]
theorem outN_le {a l : List Int} : outN a l ≤ l.length := List.length_filter_le _ _
theorem segM_keep {trial safe : Int} {new old : List Int} {key : Int} (v : VSegs trial safe new old) :
    ((segM trial safe new old key).2.2 = true → outN ((segM trial safe new old key).2.1 ++ (segM trial safe new old key).1) (old ++ new) = 0) ∧
    ((segM trial safe new old key).2.2 = false → outN ((segM trial safe new old key).2.1 ++ (segM trial safe new old key).1) (old ++ new) ≤ 1 ∧ (segM trial safe new old key).2.1 = old) := by
  obtain ⟨⟨n1, n2, n3, n4, n5⟩, ⟨o1, o2, o3, o4, o5⟩, vd⟩ := v
  unfold segM
  split
  · refine ⟨fun _ => outN_zero fun x hx => ?_, fun h => by cases h⟩
    by_cases e : x = key
    · subst e; simp
    · rcases List.mem_append.1 hx with h | h
      · exact List.mem_append.2 (.inl (List.mem_cons_of_mem _ (mem_rmK.2 ⟨h, e⟩)))
      · exact List.mem_append.2 (.inr h)
  · rename_i ho
    obtain ⟨s, hs⟩ : ∃ n, safe.toNat = n + 1 := ⟨safe.toNat - 1, by omega⟩
    split
    · refine ⟨fun _ => outN_zero fun x hx => ?_, fun h => by cases h⟩
      dsimp only
      rw [hs, List.take_succ_cons]
      by_cases e : x = key
      · subst e; simp
      · rcases List.mem_append.1 hx with h | h
        · rw [← List.take_append_drop s old] at h
          rcases List.mem_append.1 h with h | h
          · exact List.mem_append.2 (.inl (List.mem_cons_of_mem _ h))
          · have hl : (old.length : Int) = safe := by
              have := List.length_pos_of_mem h
              rw [List.length_drop] at this; omega
            rw [if_pos hl]
            have h2 : old.drop s = [old.getD (old.length - 1) 0] := by
              have hlt : s < old.length := by omega
              rw [List.drop_eq_getElem_cons hlt, List.drop_eq_nil_of_le (by omega)]
              have : old.length - 1 = s := by omega
              rw [this]; simp [List.getD, hlt]
            rw [h2] at h
            exact List.mem_append.2 (.inr (List.mem_append.2 (.inl h)))
        · exact List.mem_append.2 (.inr (List.mem_append.2 (.inr (mem_rmK.2 ⟨h, e⟩))))
    · refine ⟨fun h => (by cases h), fun _ => ⟨?_, rfl⟩⟩
      dsimp only
      obtain ⟨r, hr⟩ : ∃ n, trial.toNat = n + 1 := ⟨trial.toNat - 1, by omega⟩
      rw [hr, List.take_succ_cons, outN_append, outN_zero (l := old) (fun x hx => List.mem_append.2 (.inl hx))]
      have hd : new = new.take r ++ new.drop r := (List.take_append_drop r new).symm
      have h1 : outN (old ++ key :: new.take r) new = outN (old ++ key :: new.take r) (new.take r) + outN (old ++ key :: new.take r) (new.drop r) := by
        rw [← outN_append, ← hd]
      rw [h1, outN_zero (l := new.take r) (fun x hx => List.mem_append.2 (.inr (List.mem_cons_of_mem _ hx)))]
      have := @outN_le (old ++ key :: new.take r) (new.drop r)
      rw [List.length_drop] at this
      omega
theorem tick_there {room : Int} {keys : List Int} {used : List Bool} {hand key : Int} (h : key ∈ keys) : tickM room keys used hand key = (keys, used.set (plc keys key).toNat true, hand, true) := by
  unfold tickM; rw [if_pos h]
theorem segM_in {trial safe : Int} {new old : List Int} {key : Int} (ht : 1 ≤ trial) (hs : 1 ≤ safe) : key ∈ (segM trial safe new old key).1 ∨ key ∈ (segM trial safe new old key).2.1 := by
  by_cases h : key ∈ new ∨ key ∈ old
  · obtain ⟨r, hr⟩ := segM_old (trial := trial) hs h
    exact .inr (by rw [hr]; exact List.mem_cons_self)
  · obtain ⟨n, hn⟩ : ∃ n, trial.toNat = n + 1 := ⟨trial.toNat - 1, by omega⟩
    rw [segM_miss h]
    exact .inl (by simp only [hn, List.take_succ_cons]; exact List.mem_cons_self)

/-! ## What the exact laws write and find again -/
theorem take_set_succ {α : Type} {l : List α} {i : Nat} {x : α} (h : i < l.length) : (l.set i x).take (i + 1) = l.take i ++ [x] := by
  rw [List.take_succ_eq_append_getElem (by simpa using h), List.take_set_of_le (Nat.le_refl _)]; simp
def seqI (k : Int) : Nat → List Int
  | 0 => []
  | n + 1 => seqI k n ++ [k + (n : Int)]
def seqB (k : Int) : Nat → List Bool
  | 0 => []
  | n + 1 => seqB k n ++ [Int.tmod (k + (n : Int)) 3 == 0]
theorem seqI_snoc (k : Int) (n : Nat) : seqI k (n + 1) = seqI k n ++ [k + (n : Int)] := rfl
theorem seqB_snoc (k : Int) (n : Nat) : seqB k (n + 1) = seqB k n ++ [Int.tmod (k + (n : Int)) 3 == 0] := rfl
theorem seqI_len (k : Int) : ∀ n, (seqI k n).length = n
  | 0 => rfl
  | n + 1 => by rw [seqI_snoc, List.length_append, seqI_len k n]; rfl
theorem seqB_len (k : Int) : ∀ n, (seqB k n).length = n
  | 0 => rfl
  | n + 1 => by rw [seqB_snoc, List.length_append, seqB_len k n]; rfl
theorem seqI_get {k : Int} : ∀ {n i : Nat}, i < n → (seqI k n).getD i 0 = k + (i : Int)
  | n + 1, i, h => by
    rw [seqI_snoc, List.getD_eq_getElem?_getD]
    by_cases e : i < n
    · rw [List.getElem?_append_left (by rw [seqI_len]; exact e), ← List.getD_eq_getElem?_getD]; exact seqI_get e
    · have : i = n := by omega
      subst this
      rw [List.getElem?_append_right (by rw [seqI_len]; exact Nat.le_refl _), seqI_len]; simp
theorem seqB_get {k : Int} : ∀ {n i : Nat}, i < n → (seqB k n).getD i false = (Int.tmod (k + (i : Int)) 3 == 0)
  | n + 1, i, h => by
    rw [seqB_snoc, List.getD_eq_getElem?_getD]
    by_cases e : i < n
    · rw [List.getElem?_append_left (by rw [seqB_len]; exact e), ← List.getD_eq_getElem?_getD]; exact seqB_get e
    · have : i = n := by omega
      subst this
      rw [List.getElem?_append_right (by rw [seqB_len]; exact Nat.le_refl _), seqB_len]; simp
theorem br_lt0 {x : Int} {A B : Prop} (hx : 0 ≤ x) (h : B) : br (decide (x < 0)) A B := br_dec.2 ⟨fun g => by omega, fun _ => h⟩
theorem pred_same {P : Prop} {b1 b2 : Bool} {A B : Prop} (h1 : b1 = true ↔ P) (h2 : b2 = true ↔ P) (h : B) : br (!(b1 == b2)) A B := by
  have e : b1 = b2 := by
    cases b1 <;> cases b2 <;> first | rfl | (simp at h1 h2; first | exact absurd h2 h1 | exact absurd h1 h2)
  subst e
  exact br_same h
theorem recM_len {l : List Int} {room key : Int} (h : 1 ≤ room) : ((recM l room key).length : Int) = (if (rmK l key).length + 1 < room then ((rmK l key).length + 1 : Int) else room) := by
  simp only [recM, List.length_take, List.length_cons]
  split <;> omega
theorem recM_again {l : List Int} {room key : Int} (v : VKeys l room) (hk : 0 ≤ key ∧ key ≤ 31) : recM (recM l room key) room key = recM l room key := by
  have hv := recM_valid v hk
  rw [recM_hit hv.2.2.2.2 hv.2.2.1 (recM_mem v.1), recM_head v.1, rmK_cons_eq, rmK_not]
  intro h
  exact (mem_rmK.1 (List.mem_of_mem_take h)).2 rfl
theorem count_rmK {l : List Int} {key : Int} (hn : l.Nodup) : ((rmK l key).length : Int) + (l.count key : Int) = l.length := by
  by_cases h : key ∈ l
  · rw [count_nodup hn h]; have := rmK_len hn h; omega
  · rw [List.count_eq_zero_of_not_mem h, rmK_not h]; omega
theorem mem_take_nodup {l : List Int} {i n : Nat} {x : Int} (hn : l.Nodup) (hi : l[i]? = some x) : x ∈ l.take n ↔ i < n := by
  constructor
  · intro h
    obtain ⟨j, hj⟩ := List.getElem?_of_mem h
    rw [List.getElem?_take] at hj
    split at hj
    · rename_i hjn; rw [nodup_at hn hi hj]; exact hjn
    · cases hj
  · intro h
    exact List.mem_of_getElem? (i := i) (by rw [List.getElem?_take, if_pos h]; exact hi)

/-! ## Traces in caches of keys -/
def runR (room : Int) : List Int → List Int → Int → List Int × Int
  | [], l, n => (l, n)
  | x :: r, l, n => runR room r (recM l room x) (n + toI (decide (x ∈ l)))
theorem runR_append (room x : Int) : ∀ (t l : List Int) (n : Int), runR room (t ++ [x]) l n = runR room [x] (runR room t l n).1 (runR room t l n).2
  | [], _, _ => rfl
  | y :: t, _, _ => runR_append room x t _ _
theorem runR_valid {room : Int} : ∀ (t l : List Int) (n : Int), VKeys l room → (∀ x ∈ t, 0 ≤ x ∧ x ≤ 31) → VKeys (runR room t l n).1 room ∧ n ≤ (runR room t l n).2 ∧ (runR room t l n).2 ≤ n + t.length
  | [], l, n, v, _ => ⟨v, Int.le_refl _, by simp [runR]⟩
  | y :: t, l, n, v, ht => by
    obtain ⟨p, q, r⟩ := runR_valid t _ (n + toI (decide (y ∈ l))) (recM_valid (key := y) v (ht y List.mem_cons_self)) (fun x hx => ht x (List.mem_cons_of_mem _ hx))
    have := toI_01 (decide (y ∈ l))
    simp only [runR, List.length_cons]
    exact ⟨p, by omega, by omega⟩
theorem keys0 {room : Int} (h : 1 ≤ room ∧ room ≤ 8) : VKeys [] room := ⟨h.1, h.2, by simp; omega, by simp, by simp⟩
def firM (l : List Int) (room key : Int) : List Int := if key ∈ l then l else (l ++ [key]).drop (l.length + 1 - room.toNat)
theorem firM_valid {l : List Int} {room key : Int} (v : VKeys l room) (hk : 0 ≤ key ∧ key ≤ 31) : VKeys (firM l room key) room := by
  unfold firM
  split
  · exact v
  · rename_i hm
    obtain ⟨v1, v2, v3, v4, v5⟩ := v
    refine ⟨v1, v2, by simp; omega, fun x hx => ?_, ?_⟩
    · rcases List.mem_append.1 (List.mem_of_mem_drop hx) with h | h
      · exact v4 x h
      · rw [List.mem_singleton.1 h]; exact hk
    · refine List.Pairwise.sublist (List.drop_sublist _ _) ?_
      exact List.nodup_append.2 ⟨v5, by simp, fun a ha b hb e => hm (by rw [← List.mem_singleton.1 hb, ← e]; exact ha)⟩
def runF (room : Int) : List Int → List Int → Int → List Int × Int
  | [], l, n => (l, n)
  | x :: r, l, n => runF room r (firM l room x) (n + toI (decide (x ∈ l)))
theorem runF_append (room x : Int) : ∀ (t l : List Int) (n : Int), runF room (t ++ [x]) l n = runF room [x] (runF room t l n).1 (runF room t l n).2
  | [], _, _ => rfl
  | y :: t, _, _ => runF_append room x t _ _
theorem runF_valid {room : Int} : ∀ (t l : List Int) (n : Int), VKeys l room → (∀ x ∈ t, 0 ≤ x ∧ x ≤ 31) → VKeys (runF room t l n).1 room ∧ n ≤ (runF room t l n).2 ∧ (runF room t l n).2 ≤ n + t.length
  | [], l, n, v, _ => ⟨v, Int.le_refl _, by simp [runF]⟩
  | y :: t, l, n, v, ht => by
    obtain ⟨p, q, r⟩ := runF_valid t _ (n + toI (decide (y ∈ l))) (firM_valid (key := y) v (ht y List.mem_cons_self)) (fun x hx => ht x (List.mem_cons_of_mem _ hx))
    have := toI_01 (decide (y ∈ l))
    simp only [runF, List.length_cons]
    exact ⟨p, by omega, by omega⟩
theorem vkeys_len {l : List Int} {room : Int} (v : VKeys l room) : l.length ≤ 8 := by
  have := v.2.1; have := v.2.2.1; omega

/-- All keys of a trace, the last one first. -/
def ded : List Int → List Int
  | [] => []
  | x :: r => x :: rmK (ded r) x
theorem ded_nodup : ∀ l : List Int, (ded l).Nodup
  | [] => by simp [ded]
  | x :: r => List.nodup_cons.2 ⟨fun h => (mem_rmK.1 h).2 rfl, rmK_nodup (ded_nodup r)⟩
theorem ded_snoc : ∀ (l : List Int) (y : Int), ded (l ++ [y]) = if y ∈ ded l then ded l else ded l ++ [y]
  | [], y => by simp [ded, rmK]
  | x :: r, y => by
    have ih := ded_snoc r y
    show x :: rmK (ded (r ++ [y])) x = _
    rw [ih]
    by_cases h : y ∈ ded r
    · rw [if_pos h, if_pos]
      · rfl
      · by_cases e : y = x
        · rw [e]; exact List.mem_cons_self
        · exact List.mem_cons_of_mem _ (mem_rmK.2 ⟨h, e⟩)
    · rw [if_neg h, rmK_append]
      by_cases e : y = x
      · subst e
        rw [if_pos (show y ∈ ded (y :: r) from List.mem_cons_self), rmK_cons_eq]
        simp [ded, rmK]
      · rw [if_neg, rmK_cons_ne e]
        · simp [ded, rmK]
        · intro hm
          rcases List.mem_cons.1 hm with h1 | h1
          · exact e h1
          · exact h (mem_rmK.1 h1).1
theorem ded_prefix : ∀ (s l : List Int), (ded (l ++ s)).take (ded l).length = ded l
  | [], l => by simp
  | y :: s, l => by
    have ih := ded_prefix s (l ++ [y])
    rw [List.append_assoc] at ih
    have h2 : (ded (l ++ [y])).take (ded l).length = ded l := by
      rw [ded_snoc]; split <;> simp
    have hle : (ded l).length ≤ (ded (l ++ [y])).length := by
      rw [ded_snoc]; split <;> simp
    show (ded (l ++ ([y] ++ s))).take _ = _
    rw [← h2]
    conv => rhs; rw [← ih]
    rw [List.take_take, h2, Nat.min_eq_left hle]
/-- The keys of a cache with any room: the first ones of what was used. -/
theorem recM_take {D : List Int} {room x : Int} (hn : D.Nodup) (hr : 1 ≤ room) : recM (D.take room.toNat) room x = (x :: rmK D x).take room.toNat := by
  obtain ⟨n, hn1⟩ : ∃ n, room.toNat = n + 1 := ⟨room.toNat - 1, by omega⟩
  rw [recM, hn1, List.take_succ_cons, List.take_succ_cons]
  congr 1
  have hs : rmK D x = rmK (D.take (n + 1)) x ++ rmK (D.drop (n + 1)) x := by rw [← rmK_append, List.take_append_drop]
  rw [hs]
  rcases Nat.lt_or_ge (n + 1) D.length with h | h
  · have hl : n ≤ (rmK (D.take (n + 1)) x).length := by
      by_cases hm : x ∈ D.take (n + 1)
      · have := rmK_len (take_nodup hn) hm
        rw [List.length_take] at this; omega
      · rw [rmK_not hm, List.length_take]; omega
    rw [List.take_append_of_le_length hl]
  · rw [List.drop_eq_nil_of_le h]; simp [rmK]
def hitsR (room : Int) : List Int → List Int → Int
  | _, [] => 0
  | D, x :: r => toI (decide (x ∈ D.take room.toNat)) + hitsR room (x :: rmK D x) r
def usedR : List Int → List Int → List Int
  | D, [] => D
  | D, x :: r => usedR (x :: rmK D x) r
theorem runR_used {room : Int} (hr : 1 ≤ room) : ∀ (t D : List Int) (n : Int), D.Nodup → runR room t (D.take room.toNat) n = ((usedR D t).take room.toNat, n + hitsR room D t)
  | [], D, n, _ => by simp [runR, usedR, hitsR]
  | x :: t, D, n, hn => by
    have hn2 : (x :: rmK D x).Nodup := List.nodup_cons.2 ⟨fun h => (mem_rmK.1 h).2 rfl, rmK_nodup hn⟩
    rw [runR, recM_take hn hr, runR_used hr t _ _ hn2]
    simp [usedR, hitsR, Int.add_assoc]
theorem usedR_append : ∀ (t D : List Int) (x : Int), usedR D (t ++ [x]) = x :: rmK (usedR D t) x
  | [], _, _ => rfl
  | y :: t, D, x => usedR_append t _ x
theorem usedR_ded (t : List Int) : usedR [] t = ded t.reverse := by
  have key : ∀ n (t : List Int), t.length = n → usedR [] t = ded t.reverse := by
    intro n
    induction n with
    | zero => intro t h; rw [List.length_eq_zero_iff.1 h]; rfl
    | succ n ih =>
      intro t h
      obtain ⟨u, x, rfl⟩ : ∃ u x, t = u ++ [x] := ⟨_, _, (split_last (by omega)).symm⟩
      rw [usedR_append, ih u (by simpa using h), List.reverse_append]; rfl
  exact key _ t rfl
theorem runR_ded {room : Int} (hr : 1 ≤ room) (t : List Int) (n : Int) : runR room t [] n = ((ded t.reverse).take room.toNat, n + hitsR room [] t) := by
  have := runR_used hr t [] n (by simp)
  rw [List.take_nil, usedR_ded] at this
  exact this
theorem hitsR_more {room : Int} (hr : 1 ≤ room) : ∀ (t D : List Int), hitsR room D t ≤ hitsR (room + 1) D t
  | [], D => Int.le_refl _
  | x :: t, D => by
    have h1 := hitsR_more hr t (x :: rmK D x)
    have h2 : toI (decide (x ∈ D.take room.toNat)) ≤ toI (decide (x ∈ D.take (room + 1).toNat)) := by
      by_cases h : x ∈ D.take room.toNat
      · have : x ∈ D.take (room + 1).toNat := by
          have e : D.take room.toNat = (D.take (room + 1).toNat).take room.toNat := by rw [List.take_take, Nat.min_eq_left (by omega)]
          rw [e] at h; exact List.mem_of_mem_take h
        rw [decide_eq_true h, decide_eq_true this]; exact Int.le_refl _
      · rw [decide_eq_false h]; exact (toI_01 _).1
    simp only [hitsR]; omega

/-! ## Entries: key, count, last -/
abbrev Ent := Int × Int × Int
def EntR (e : Ent) : Prop := (0 ≤ e.1 ∧ e.1 ≤ 31) ∧ (1 ≤ e.2.1 ∧ e.2.1 ≤ 100) ∧ 0 ≤ e.2.2 ∧ e.2.2 ≤ 1000
def VEnt (l : List Ent) (room : Int) : Prop :=
  (1 ≤ room ∧ room ≤ 8) ∧ (l.length : Int) ≤ room ∧ (∀ e ∈ l, EntR e) ∧ (l.map (·.1)).Nodup ∧ (l.map (·.2.2)).Nodup
/-- What a beginning of valid entries keeps. -/
def PEnt (l : List Ent) : Prop := (∀ e ∈ l, EntR e) ∧ (l.map (·.1)).Nodup ∧ (l.map (·.2.2)).Nodup
theorem PEnt.snoc {l : List Ent} {x : Ent} (h : PEnt l) (hx : EntR x) (hn : ∀ e ∈ l, e.1 ≠ x.1 ∧ e.2.2 ≠ x.2.2) : PEnt (l ++ [x]) := by
  refine ⟨fun e he => ?_, ?_, ?_⟩
  · rcases List.mem_append.1 he with h1 | h1
    · exact h.1 e h1
    · rw [List.mem_singleton.1 h1]; exact hx
  · rw [List.map_append, List.nodup_append]
    refine ⟨h.2.1, by simp, fun a ha b hb e => ?_⟩
    obtain ⟨y, hy, rfl⟩ := List.mem_map.1 ha
    rw [List.map_singleton, List.mem_singleton] at hb
    exact (hn y hy).1 (by rw [← hb]; exact e)
  · rw [List.map_append, List.nodup_append]
    refine ⟨h.2.2, by simp, fun a ha b hb e => ?_⟩
    obtain ⟨y, hy, rfl⟩ := List.mem_map.1 ha
    rw [List.map_singleton, List.mem_singleton] at hb
    exact (hn y hy).2 (by rw [← hb]; exact e)
abbrev ent0 : Ent := ((0 : Int), (0 : Int), (0 : Int))
def Rar (a b : Ent) : Prop := a.2.1 < b.2.1 ∨ a.2.1 = b.2.1 ∧ a.2.2 < b.2.2
instance (a b : Ent) : Decidable (Rar a b) := by unfold Rar; infer_instance
theorem Rar.trans {a b c : Ent} (h : Rar a b) (g : Rar b c) : Rar a c := by unfold Rar at *; omega
/-- The place of the rarest entry. -/
def rareS (l : List Ent) : List Ent → Nat → Nat → Nat
  | [], _, p => p
  | e :: r, i, p => rareS l r (i + 1) (if Rar e (l.getD p ent0) then i else p)
def rareM (l : List Ent) : Nat := rareS l (l.drop 1) 1 0
theorem rareS_ok {l : List Ent} : ∀ (r : List Ent) (i p : Nat), l.drop i = r → p < i → i ≤ l.length → (∀ j, j < i → ¬ Rar (l.getD j ent0) (l.getD p ent0)) →
    rareS l r i p < l.length ∧ ∀ j, j < l.length → ¬ Rar (l.getD j ent0) (l.getD (rareS l r i p) ent0)
  | [], i, p, hd, hp, hi, ha => by
    have := drop_nil' hd
    exact ⟨by simp only [rareS]; omega, fun j hj => ha j (by omega)⟩
  | e :: r, i, p, hd, hp, hi, ha => by
    obtain ⟨h1, h2, _, h3, _⟩ := drop_cons' hd
    rw [rareS]
    split
    · rename_i hr
      refine rareS_ok r (i + 1) i h3 (by omega) (by omega) fun j hj g => ?_
      rw [h2] at g
      by_cases e1 : j = i
      · subst e1; rw [h2] at g; unfold Rar at g; omega
      · exact ha j (by omega) (g.trans hr)
    · rename_i hr
      refine rareS_ok r (i + 1) p h3 (by omega) (by omega) fun j hj g => ?_
      by_cases e1 : j = i
      · subst e1; rw [h2] at g; exact hr g
      · exact ha j (by omega) g
theorem rareM_ok {l : List Ent} (h : l ≠ []) : rareM l < l.length ∧ ∀ j, j < l.length → ¬ Rar (l.getD j ent0) (l.getD (rareM l) ent0) := by
  have hl := List.length_pos_iff.2 h
  exact rareS_ok _ 1 0 rfl (by omega) (by omega) fun j hj g => by
    have : j = 0 := by omega
    subst this; unfold Rar at g; omega
theorem rareM_mem {l : List Ent} (h : l ≠ []) : l.getD (rareM l) ent0 ∈ l ∧ ∀ e ∈ l, ¬ Rar e (l.getD (rareM l) ent0) := by
  obtain ⟨h1, h2⟩ := rareM_ok h
  refine ⟨by rw [List.getD_eq_getElem?_getD, List.getElem?_eq_getElem h1]; exact List.getElem_mem h1, fun e he => ?_⟩
  obtain ⟨j, hj, e1⟩ := List.getElem_of_mem he
  have := h2 j hj
  rwa [show l.getD j ent0 = e by rw [List.getD_eq_getElem?_getD, List.getElem?_eq_getElem hj, e1]; rfl] at this
/-- Keys tell the entries apart. -/
theorem ent_key {l : List Ent} (hn : (l.map (·.1)).Nodup) {a b : Ent} (ha : a ∈ l) (hb : b ∈ l) (h : a.1 = b.1) : a = b := by
  obtain ⟨i, hi, ei⟩ := List.getElem_of_mem ha
  obtain ⟨j, hj, ej⟩ := List.getElem_of_mem hb
  have : i = j := nodup_at hn (x := a.1) (by rw [List.getElem?_map, List.getElem?_eq_getElem hi, ei]; rfl) (by rw [List.getElem?_map, List.getElem?_eq_getElem hj, ej, h]; rfl)
  subst this
  rw [← ei, ← ej]
/-- The place of a key. -/
def entAt (l : List Ent) (key : Int) : Int := plc (l.map (·.1)) key
/-- Entries and hit behind the use of a key. -/
def oftM (l : List Ent) (room key now : Int) : List Ent × Bool :=
  if key ∈ l.map (·.1) then (l.set (entAt l key).toNat (key, (if (l.getD (entAt l key).toNat ent0).2.1 + 1 < 100 then (l.getD (entAt l key).toNat ent0).2.1 + 1 else 100), now), true)
  else ((if (l.length : Int) = room then l.eraseIdx (rareM l) else l) ++ [(key, 1, now)], false)
theorem map_eraseIdx' {α β : Type} (f : α → β) : ∀ (l : List α) (i : Nat), (l.eraseIdx i).map f = (l.map f).eraseIdx i
  | [], _ => rfl
  | _ :: _, 0 => rfl
  | x :: r, i + 1 => by simp [List.eraseIdx, map_eraseIdx' f r i]
theorem nodup_set' {l : List Int} {i : Nat} {x : Int} (hn : l.Nodup) (hi : l[i]? = some x) : l.set i x = l := by
  obtain ⟨h, e⟩ := List.getElem?_eq_some_iff.1 hi
  rw [← e]; exact List.set_getElem_self h
theorem oftM_valid {l : List Ent} {room key now : Int} (v : VEnt l room) (hk : 0 ≤ key ∧ key ≤ 31) (hn : ∀ e ∈ l, e.2.2 < now) (h0 : 0 ≤ now ∧ now ≤ 1000) : VEnt (oftM l room key now).1 room := by
  obtain ⟨v1, v2, v3, v4, v5⟩ := v
  unfold oftM
  split
  · rename_i hm
    obtain ⟨j, j1, j2, _, j3⟩ := plc_pos hm
    have hj : (entAt l key).toNat = j := by unfold entAt; rw [j3]; omega
    rw [hj]
    rw [List.length_map] at j1
    have hg : l[j]? = some (l.getD j ent0) := by rw [List.getD_eq_getElem?_getD, List.getElem?_eq_getElem j1]; rfl
    have hgm := List.mem_of_getElem? hg
    have hr := v3 _ hgm
    refine ⟨v1, by simpa using v2, fun e he => ?_, ?_, ?_⟩
    · rcases List.mem_or_eq_of_mem_set he with h | h
      · exact v3 e h
      · subst h
        refine ⟨hk, ⟨?_, ?_⟩, h0.1, h0.2⟩
        · unfold EntR at hr; dsimp only; split <;> omega
        · dsimp only; split <;> omega
    · show ((l.set j _).map (·.1)).Nodup
      rw [List.map_set, nodup_set' v4 j2]; exact v4
    · show ((l.set j _).map (·.2.2)).Nodup
      rw [List.map_set]
      refine nodup_set v5 fun h => ?_
      obtain ⟨e, he, h⟩ := List.mem_map.1 h
      have := hn e he
      simp only at h; omega
  · rename_i hm
    have hcut : ∀ l' : List Ent, l'.Sublist l → (l'.length : Int) + 1 ≤ room → VEnt (l' ++ [(key, 1, now)]) room := by
      intro l' hs hlen
      refine ⟨v1, by simp; omega, fun e he => ?_, ?_, ?_⟩
      · rcases List.mem_append.1 he with h | h
        · exact v3 e (hs.subset h)
        · rw [List.mem_singleton.1 h]; exact ⟨hk, ⟨by show (1 : Int) ≤ 1; omega, by show (1 : Int) ≤ 100; omega⟩, h0.1, h0.2⟩
      · rw [List.map_append, List.nodup_append]
        refine ⟨List.Pairwise.sublist (hs.map _) v4, by simp, fun a ha b hb e => hm ?_⟩
        rw [List.mem_singleton.1 hb] at e
        rw [← show a = key from e]; exact (hs.map _).subset ha
      · rw [List.map_append, List.nodup_append]
        refine ⟨List.Pairwise.sublist (hs.map _) v5, by simp, fun a ha b hb e => ?_⟩
        rw [List.mem_singleton.1 hb] at e
        obtain ⟨x, hx, h⟩ := List.mem_map.1 ((hs.map _).subset ha)
        have := hn x hx
        simp only at h e; omega
    show VEnt ((if (l.length : Int) = room then l.eraseIdx (rareM l) else l) ++ [(key, 1, now)]) room
    split
    · rename_i hf
      have hne : l ≠ [] := fun e => by rw [e] at hf; simp at hf; omega
      have := (rareM_ok hne).1
      exact hcut _ (List.eraseIdx_sublist l _) (by rw [List.length_eraseIdx_of_lt this]; omega)
    · exact hcut l (List.Sublist.refl l) (by omega)
/-- Aged entries. -/
def ageE (e : Ent) : Ent := (e.1, Int.tdiv (e.2.1 + 1) 2, e.2.2)
def ageM (l : List Ent) : List Ent := l.map ageE
theorem half_up {n : Int} (h : 0 ≤ n) : 2 * Int.tdiv (n + 1) 2 = n ∨ 2 * Int.tdiv (n + 1) 2 = n + 1 := by
  rw [Int.tdiv_eq_ediv_of_nonneg (by omega)]; omega
theorem ageM_valid {l : List Ent} {room : Int} (v : VEnt l room) : VEnt (ageM l) room := by
  obtain ⟨v1, v2, v3, v4, v5⟩ := v
  refine ⟨v1, by simpa [ageM] using v2, fun e he => ?_, ?_, ?_⟩
  · obtain ⟨x, hx, rfl⟩ := List.mem_map.1 he
    obtain ⟨h1, h2, h3⟩ := v3 x hx
    have := half_up (show 0 ≤ x.2.1 by omega)
    exact ⟨h1, ⟨by show 1 ≤ Int.tdiv _ _; omega, by show Int.tdiv _ _ ≤ 100; omega⟩, h3⟩
  · rw [ageM, List.map_map]; exact v4
  · rw [ageM, List.map_map]; exact v5
/-- A run of a trace: the times are the places. -/
def runO (room : Int) : List Int → List Ent → Int → Int → List Ent × Int
  | [], l, _, n => (l, n)
  | x :: r, l, now, n => runO room r (oftM l room x now).1 (now + 1) (n + toI (oftM l room x now).2)
theorem runO_append (room x : Int) : ∀ (t : List Int) (l : List Ent) (now n : Int), runO room (t ++ [x]) l now n = runO room [x] (runO room t l now n).1 (now + t.length) (runO room t l now n).2
  | [], l, now, n => by simp [runO]
  | y :: t, l, now, n => by
    have := runO_append room x t (oftM l room y now).1 (now + 1) (n + toI (oftM l room y now).2)
    rw [show now + 1 + (t.length : Int) = now + ((y :: t).length : Int) by simp; omega] at this
    exact this
theorem oftM_last {l : List Ent} {room key now : Int} (hn : ∀ e ∈ l, e.2.2 < now) : ∀ e ∈ (oftM l room key now).1, e.2.2 < now + 1 := by
  intro e he
  unfold oftM at he
  split at he
  · rcases List.mem_or_eq_of_mem_set he with h | h
    · have := hn e h; omega
    · subst h; show now < now + 1; omega
  · rcases List.mem_append.1 he with h | h
    · split at h
      · have := hn e (List.mem_of_mem_eraseIdx h); omega
      · have := hn e h; omega
    · rw [List.mem_singleton.1 h]; show now < now + 1; omega
theorem runO_valid {room : Int} : ∀ (t : List Int) (l : List Ent) (now n : Int), VEnt l room → (∀ x ∈ t, 0 ≤ x ∧ x ≤ 31) → (∀ e ∈ l, e.2.2 < now) → 0 ≤ now → now + t.length ≤ 1001 →
    VEnt (runO room t l now n).1 room ∧ (∀ e ∈ (runO room t l now n).1, e.2.2 < now + t.length) ∧ n ≤ (runO room t l now n).2 ∧ (runO room t l now n).2 ≤ n + t.length
  | [], l, now, n, v, _, hl, _, _ => ⟨v, by simpa [runO] using hl, Int.le_refl _, by simp [runO]⟩
  | y :: t, l, now, n, v, ht, hl, h0, h1 => by
    simp only [List.length_cons] at h1
    obtain ⟨p, q, r, s⟩ := runO_valid t _ (now + 1) (n + toI (oftM l room y now).2) (oftM_valid (key := y) v (ht y List.mem_cons_self) hl (by omega)) (fun x hx => ht x (List.mem_cons_of_mem _ hx)) (oftM_last hl) (by omega) (by omega)
    have := toI_01 (oftM l room y now).2
    simp only [runO, List.length_cons]
    refine ⟨p, fun e he => ?_, by omega, by omega⟩
    have := q e he
    omega
def LatE (l : List Ent) (now : Int) : Prop := (∀ e ∈ l, e.2.2 < now) ∧ 0 ≤ now ∧ now ≤ 1000
theorem min_100 {c : Int} : (if 100 < c then (100 : Int) else c) = if c < 100 then c else 100 := by
  split <;> split <;> omega
theorem cut_erase {α : Type} {l : List α} {i : Nat} (h : i < l.length) : List.take (Int.toNat (i : Int)) (List.drop 0 l) ++ List.take (l.length - Int.toNat ((i : Int) + 1)) (List.drop (Int.toNat ((i : Int) + 1)) l) = l.eraseIdx i := by
  rw [Int.toNat_natCast, show ((i : Int) + 1).toNat = i + 1 by omega, List.drop_zero, List.eraseIdx_eq_take_drop_succ, List.take_of_length_le (l := l.drop (i + 1)) (by simp)]
theorem oftM_len {l : List Ent} {room key now : Int} : (oftM l room key now).1.length ≤ l.length + 1 := by
  unfold oftM
  split
  · simp
  · simp only [List.length_append, List.length_singleton]
    split
    · have := List.length_eraseIdx_le l (rareM l); omega
    · omega
def VUse (l : List Ent) (room key now : Int) : Prop := VEnt l room ∧ (0 ≤ key ∧ key ≤ 31) ∧ LatE l now
/-- The key that is left out next. -/
def rareK (l : List Ent) : Int := (l.getD (rareM l) ent0).1
theorem ent_nil {room : Int} (h : 1 ≤ room ∧ room ≤ 8) : VEnt [] room := ⟨h, by simp; omega, by simp, by simp, by simp⟩
theorem eq3 {x y : Ent} : ((x.1 == y.1) && ((x.2.1 == y.2.1) && (x.2.2 == y.2.2))) = decide (x = y) := by
  obtain ⟨a, b, c⟩ := x; obtain ⟨d, e, f⟩ := y
  rw [Bool.eq_iff_iff]; simp
theorem oftM_cnt {l : List Ent} {room key now : Int} (h : ∀ e ∈ l, 0 ≤ e.2.1 ∧ e.2.1 ≤ 100) : ∀ e ∈ (oftM l room key now).1, 0 ≤ e.2.1 ∧ e.2.1 ≤ 100 := by
  intro e he
  unfold oftM at he
  split at he
  · rename_i hm
    obtain ⟨j, j1, j2, _, j3⟩ := plc_pos hm
    have hj : (entAt l key).toNat = j := by unfold entAt; rw [j3]; omega
    rw [hj] at he
    rw [List.length_map] at j1
    have hg : l[j]? = some (l.getD j ent0) := by rw [List.getD_eq_getElem?_getD, List.getElem?_eq_getElem j1]; rfl
    have := h _ (List.mem_of_getElem? hg)
    rcases List.mem_or_eq_of_mem_set he with h1 | h1
    · exact h e h1
    · subst h1; dsimp only; split <;> omega
  · rcases List.mem_append.1 he with h1 | h1
    · split at h1
      · exact h e (List.mem_of_mem_eraseIdx h1)
      · exact h e h1
    · rw [List.mem_singleton.1 h1]; dsimp only; omega

/-! ## Adaptive lists: Once, Often, WasOnce, WasOften -/
theorem nodup_count : ∀ {l : List Int}, l.Nodup ↔ ∀ x, l.count x ≤ 1
  | [] => by simp
  | y :: r => by
    rw [List.nodup_cons, nodup_count (l := r)]
    constructor
    · intro ⟨h1, h2⟩ x
      rw [List.count_cons]
      by_cases e : y = x
      · subst e; rw [List.count_eq_zero_of_not_mem h1]; simp
      · rw [if_neg (by simpa using e)]; have := h2 x; omega
    · intro h
      refine ⟨fun hm => ?_, fun x => ?_⟩
      · have := h y
        rw [List.count_cons_self] at this
        have := List.count_pos_iff.2 hm
        omega
      · have := h x
        rw [List.count_cons] at this; omega
/-- Which keys are where, all different. -/
def D4 (o f wo wf : List Int) : Prop := ∀ x, o.count x + f.count x + wo.count x + wf.count x ≤ 1
theorem D4_nodup {o f wo wf : List Int} : (((o ++ f) ++ wo) ++ wf).Nodup ↔ D4 o f wo wf := by
  rw [nodup_count]; unfold D4; simp only [List.count_append]
theorem count_mem {l : List Int} {x : Int} : x ∈ l ↔ 0 < l.count x := List.count_pos_iff.symm
theorem count_not {l : List Int} {x : Int} : x ∉ l ↔ l.count x = 0 := List.count_eq_zero.symm
theorem count_rm {l : List Int} {key x : Int} : (rmK l key).count x = if x = key then 0 else l.count x := by
  split
  · rename_i e; subst e; exact List.count_eq_zero_of_not_mem fun h => (mem_rmK.1 h).2 rfl
  · rename_i e; exact List.count_filter (by simpa using e)
theorem count_con {l : List Int} {key x : Int} : (key :: l).count x = l.count x + if x = key then 1 else 0 := by
  rw [List.count_cons]
  by_cases e : x = key
  · subst e; simp
  · rw [if_neg (by simpa using (Ne.symm e)), if_neg e]
def lastI (l : List Int) : Int := l.getD (l.length - 1) 0
theorem last_split {l : List Int} (h : 0 < l.length) : l.take (l.length - 1) ++ [lastI l] = l := by
  have h2 : l.length - 1 < l.length := by omega
  have h3 : lastI l = l[l.length - 1] := by simp [lastI, List.getD, h2]
  rw [h3, ← List.take_succ_eq_append_getElem h2, show l.length - 1 + 1 = l.length by omega, List.take_length]
theorem count_last {l : List Int} (h : 0 < l.length) (x : Int) : (l.take (l.length - 1)).count x + (if x = lastI l then 1 else 0) = l.count x := by
  have := congrArg (List.count x) (last_split h)
  rw [List.count_append, count_con] at this
  simpa using this
theorem len_last {l : List Int} : (l.take (l.length - 1)).length = l.length - 1 := by simp
theorem last_mem {l : List Int} (h : 0 < l.length) : lastI l ∈ l := by
  have h2 : lastI l ∈ l.take (l.length - 1) ++ [lastI l] := by simp
  rwa [last_split h] at h2
structure AL where
  t : Int
  o : List Int
  f : List Int
  wo : List Int
  wf : List Int
structure VLists (room : Int) (a : AL) : Prop where
  room1 : 1 ≤ room ∧ room ≤ 8
  tgt : 0 ≤ a.t ∧ a.t ≤ room
  inc : (a.o.length : Int) + a.f.length ≤ room
  onc : (a.o.length : Int) + a.wo.length ≤ room
  tot : (a.o.length : Int) + a.wo.length + a.f.length + a.wf.length ≤ 2 * room
  dis : D4 a.o a.f a.wo a.wf
  rng : ∀ x, x ∈ a.o ∨ x ∈ a.f ∨ x ∈ a.wo ∨ x ∈ a.wf → 0 ≤ x ∧ x ≤ 31
/-- The last key of Once, or of Often, leaves. -/
def mkRoom (was : Bool) (a : AL) : AL :=
  if (0 < a.o.length ∧ ((a.o.length : Int) > a.t ∨ was = true ∧ (a.o.length : Int) = a.t)) ∨ a.f.length = 0 then { a with o := a.o.take (a.o.length - 1), wo := lastI a.o :: a.wo }
  else { a with f := a.f.take (a.f.length - 1), wf := lastI a.f :: a.wf }
def fitL (room : Int) (was : Bool) (a : AL) : AL := if (a.o.length : Int) + a.f.length = room then mkRoom was a else a
def freshL (room : Int) (a : AL) (key : Int) : AL :=
  let b := if (a.o.length : Int) + a.wo.length = room ∧ 0 < a.wo.length then fitL room false { a with wo := a.wo.take (a.wo.length - 1) }
    else if (a.o.length : Int) + a.wo.length = room then { a with o := a.o.take (a.o.length - 1) }
    else fitL room false (if (a.o.length : Int) + a.wo.length + a.f.length + a.wf.length = 2 * room then { a with wf := a.wf.take (a.wf.length - 1) } else a)
  { b with o := key :: b.o }
def max1 (x : Int) : Int := if 1 < x then x else 1
def adM (room : Int) (a : AL) (key : Int) : AL × Bool :=
  if key ∈ a.o then ({ a with o := rmK a.o key, f := key :: a.f }, true)
  else if key ∈ a.f then ({ a with f := key :: rmK a.f key }, true)
  else if key ∈ a.wo then
    let b := fitL room false { a with t := (if a.t + max1 (Int.tdiv a.wf.length a.wo.length) < room then a.t + max1 (Int.tdiv a.wf.length a.wo.length) else room), wo := rmK a.wo key }
    ({ b with f := key :: b.f }, false)
  else if key ∈ a.wf then
    let b := fitL room true { a with t := (if 0 < a.t - max1 (Int.tdiv a.wo.length a.wf.length) then a.t - max1 (Int.tdiv a.wo.length a.wf.length) else 0), wf := rmK a.wf key }
    ({ b with f := key :: b.f }, false)
  else (freshL room a key, false)
/-- What a cache that has been made ready for a key keeps. -/
structure Fit (room : Int) (a b : AL) : Prop where
  t : b.t = a.t
  inc : (b.o.length : Int) + b.f.length < room ∨ (a.o.length : Int) + a.f.length < room ∧ b.o.length = a.o.length ∧ b.f.length = a.f.length
  onc : (b.o.length : Int) + b.wo.length = a.o.length + a.wo.length
  tot : b.o.length + b.wo.length + b.f.length + b.wf.length = a.o.length + a.wo.length + a.f.length + a.wf.length
  cnt : ∀ x, b.o.count x + b.f.count x + b.wo.count x + b.wf.count x = a.o.count x + a.f.count x + a.wo.count x + a.wf.count x
  ole : b.o.length ≤ a.o.length
  keep : ∃ e, ∀ x, x ∈ a.o ∨ x ∈ a.f → x = e ∨ x ∈ b.o ∨ x ∈ b.f
  all : (a.o.length : Int) + a.f.length < room → b = a
theorem fitL_ok {room : Int} (was : Bool) {a : AL} (hr : 1 ≤ room) (h : (a.o.length : Int) + a.f.length ≤ room) : Fit room a (fitL room was a) := by
  unfold fitL
  split
  · rename_i hf
    unfold mkRoom
    split
    · rename_i hc
      have hpos : 0 < a.o.length := by omega
      have hs := last_split hpos
      refine ⟨rfl, .inl ?_, ?_, ?_, fun x => ?_, ?_, ⟨lastI a.o, fun x hx => ?_⟩, fun h => by omega⟩
      · simp only [len_last]; omega
      · simp only [len_last, List.length_cons]; omega
      · simp only [len_last, List.length_cons]; omega
      · have := count_last hpos x
        simp only [count_con]; omega
      · simp only [len_last]; omega
      · rcases hx with h | h
        · rw [← hs] at h
          rcases List.mem_append.1 h with h | h
          · exact .inr (.inl h)
          · exact .inl (List.mem_singleton.1 h)
        · exact .inr (.inr h)
    · rename_i hc
      have hpos : 0 < a.f.length := by omega
      have hs := last_split hpos
      refine ⟨rfl, .inl ?_, rfl, ?_, fun x => ?_, Nat.le_refl _, ⟨lastI a.f, fun x hx => ?_⟩, fun h => by omega⟩
      · simp only [len_last]; omega
      · simp only [len_last, List.length_cons]; omega
      · have := count_last hpos x
        simp only [count_con]; omega
      · rcases hx with h | h
        · exact .inr (.inl h)
        · rw [← hs] at h
          rcases List.mem_append.1 h with h | h
          · exact .inr (.inr h)
          · exact .inl (List.mem_singleton.1 h)
  · rename_i hf
    exact ⟨rfl, .inr ⟨by omega, rfl, rfl⟩, rfl, rfl, fun _ => rfl, Nat.le_refl _, ⟨0, fun x hx => .inr hx⟩, fun _ => rfl⟩
theorem max1_pos (x : Int) : 1 ≤ max1 x := by unfold max1; split <;> omega
/-- In range, said by counts. -/
theorem rng_cnt {o f wo wf : List Int} {x : Int} : (x ∈ o ∨ x ∈ f ∨ x ∈ wo ∨ x ∈ wf) ↔ 0 < o.count x + f.count x + wo.count x + wf.count x := by
  rw [count_mem, count_mem, count_mem, count_mem]; omega
theorem cnt_rm_add {l : List Int} {key : Int} (h : l.count key = 1) (x : Int) : (rmK l key).count x + (if x = key then 1 else 0) = l.count x := by
  rw [count_rm]; split
  · rename_i e; subst e; omega
  · omega
theorem len_rm {l : List Int} {key : Int} (h : l.count key = 1) (hn : ∀ x, l.count x ≤ 1) : (rmK l key).length + 1 = l.length :=
  rmK_len (nodup_count.2 hn) (count_mem.2 (by omega))
theorem adM_valid {room : Int} {a : AL} {key : Int} (v : VLists room a) (hk : 0 ≤ key ∧ key ≤ 31) : VLists room (adM room a key).1 := by
  obtain ⟨r1, tg, i1, o1, t1, d1, g1⟩ := v
  have hno : ∀ x, a.o.count x ≤ 1 ∧ a.f.count x ≤ 1 ∧ a.wo.count x ≤ 1 ∧ a.wf.count x ≤ 1 := fun x => by have := d1 x; omega
  have hg : ∀ x, 0 < a.o.count x + a.f.count x + a.wo.count x + a.wf.count x → 0 ≤ x ∧ x ≤ 31 := fun x h => g1 x (rng_cnt.2 h)
  unfold adM
  split
  · rename_i h
    have hc : a.o.count key = 1 := by have := count_mem.1 h; have := hno key; omega
    have hl := len_rm hc fun x => (hno x).1
    have hcnt : ∀ x, (rmK a.o key).count x + (key :: a.f).count x + a.wo.count x + a.wf.count x = a.o.count x + a.f.count x + a.wo.count x + a.wf.count x := fun x => by
      have := cnt_rm_add hc x; rw [count_con]; omega
    refine ⟨r1, tg, ?_, ?_, ?_, fun x => ?_, fun x hx => hg x ?_⟩
    · simp only [List.length_cons]; omega
    · simp only []; omega
    · simp only [List.length_cons]; omega
    · have := d1 x; have := hcnt x; simp only []; omega
    · have := rng_cnt.1 hx; have := hcnt x; simp only [] at *; omega
  · split
    · rename_i h0 h
      have hc : a.f.count key = 1 := by have := count_mem.1 h; have := hno key; omega
      have hl := len_rm hc fun x => (hno x).2.1
      have hcnt : ∀ x, a.o.count x + (key :: rmK a.f key).count x + a.wo.count x + a.wf.count x = a.o.count x + a.f.count x + a.wo.count x + a.wf.count x := fun x => by
        have := cnt_rm_add hc x; rw [count_con]; omega
      refine ⟨r1, tg, ?_, o1, ?_, fun x => ?_, fun x hx => hg x ?_⟩
      · simp only [List.length_cons]; omega
      · simp only [List.length_cons]; omega
      · have := d1 x; have := hcnt x; simp only []; omega
      · have := rng_cnt.1 hx; have := hcnt x; simp only [] at *; omega
    · rename_i h1 h2
      have c1 := count_not.1 h1
      have c2 := count_not.1 h2
      split
      · rename_i h
        have hc : a.wo.count key = 1 := by have := count_mem.1 h; have := hno key; omega
        have hl := len_rm hc fun x => (hno x).2.2.1
        have hm := max1_pos (Int.tdiv a.wf.length a.wo.length)
        generalize hb : fitL room false { a with t := (if a.t + max1 (Int.tdiv a.wf.length a.wo.length) < room then a.t + max1 (Int.tdiv a.wf.length a.wo.length) else room), wo := rmK a.wo key } = b
        have hF := fitL_ok (was := false) (a := { a with t := (if a.t + max1 (Int.tdiv a.wf.length a.wo.length) < room then a.t + max1 (Int.tdiv a.wf.length a.wo.length) else room), wo := rmK a.wo key }) r1.1 i1
        rw [hb] at hF
        obtain ⟨b1, b2, b3, b4, b5, b6, b7, b8⟩ := hF
        simp only at b1 b2 b3 b4 b5 b6
        have hcnt : ∀ x, b.o.count x + (key :: b.f).count x + b.wo.count x + b.wf.count x = a.o.count x + a.f.count x + a.wo.count x + a.wf.count x := fun x => by
          have := cnt_rm_add hc x; have := b5 x; rw [count_con]; omega
        refine ⟨r1, ?_, ?_, ?_, ?_, fun x => ?_, fun x hx => hg x ?_⟩
        · simp only [b1]; split <;> omega
        · simp only [List.length_cons]; omega
        · simp only []; omega
        · simp only [List.length_cons]; omega
        · have := d1 x; have := hcnt x; simp only []; omega
        · have := rng_cnt.1 hx; have := hcnt x; simp only [] at *; omega
      · rename_i h3
        have c3 := count_not.1 h3
        split
        · rename_i h
          have hc : a.wf.count key = 1 := by have := count_mem.1 h; have := hno key; omega
          have hl := len_rm hc fun x => (hno x).2.2.2
          have hm := max1_pos (Int.tdiv a.wo.length a.wf.length)
          generalize hb : fitL room true { a with t := (if 0 < a.t - max1 (Int.tdiv a.wo.length a.wf.length) then a.t - max1 (Int.tdiv a.wo.length a.wf.length) else 0), wf := rmK a.wf key } = b
          have hF := fitL_ok (was := true) (a := { a with t := (if 0 < a.t - max1 (Int.tdiv a.wo.length a.wf.length) then a.t - max1 (Int.tdiv a.wo.length a.wf.length) else 0), wf := rmK a.wf key }) r1.1 i1
          rw [hb] at hF
          obtain ⟨b1, b2, b3, b4, b5, b6, b7, b8⟩ := hF
          simp only at b1 b2 b3 b4 b5 b6
          have hcnt : ∀ x, b.o.count x + (key :: b.f).count x + b.wo.count x + b.wf.count x = a.o.count x + a.f.count x + a.wo.count x + a.wf.count x := fun x => by
            have := cnt_rm_add hc x; have := b5 x; rw [count_con]; omega
          refine ⟨r1, ?_, ?_, ?_, ?_, fun x => ?_, fun x hx => hg x ?_⟩
          · simp only [b1]; split <;> omega
          · simp only [List.length_cons]; omega
          · simp only []; omega
          · simp only [List.length_cons]; omega
          · have := d1 x; have := hcnt x; simp only []; omega
          · have := rng_cnt.1 hx; have := hcnt x; simp only [] at *; omega
        · rename_i h4
          have c4 := count_not.1 h4
          -- a new key
          have hnew : ∀ b : AL, b.t = a.t → (b.o.length : Int) + b.f.length < room → (b.o.length : Int) + b.wo.length < room → (b.o.length : Int) + b.wo.length + b.f.length + b.wf.length < 2 * room →
              (∀ x, b.o.count x + b.f.count x + b.wo.count x + b.wf.count x ≤ a.o.count x + a.f.count x + a.wo.count x + a.wf.count x) → VLists room { b with o := key :: b.o } := by
            intro b e1 e2 e3 e4 e5
            refine ⟨r1, by simp only [e1]; exact tg, ?_, ?_, ?_, fun x => ?_, fun x hx => ?_⟩
            · simp only [List.length_cons]; omega
            · simp only [List.length_cons]; omega
            · simp only [List.length_cons]; omega
            · have h5 := e5 x
              have h6 := d1 x
              simp only [count_con]
              split
              · rename_i e; subst e; omega
              · omega
            · have h5 := e5 x
              have h7 := rng_cnt.1 hx
              simp only [count_con] at h7
              by_cases e : x = key
              · rw [e]; exact hk
              · rw [if_neg e] at h7; exact hg x (by omega)
          show VLists room (freshL room a key)
          unfold freshL
          simp only []
          split
          · rename_i hw
            have hF := fitL_ok (was := false) (a := { a with wo := a.wo.take (a.wo.length - 1) }) r1.1 i1
            generalize fitL room false { a with wo := a.wo.take (a.wo.length - 1) } = b at hF ⊢
            obtain ⟨b1, b2, b3, b4, b5, b6, b7, b8⟩ := hF
            simp only [len_last] at b1 b2 b3 b4 b5 b6
            refine hnew b b1 (by omega) (by omega) (by omega) fun x => ?_
            have := b5 x; have := count_last hw.2 x; omega
          · split
            · rename_i hw hw2
              have hpos : 0 < a.o.length := by omega
              refine hnew { a with o := a.o.take (a.o.length - 1) } rfl ?_ ?_ ?_ fun x => ?_
              · simp only [len_last]; omega
              · simp only [len_last]; omega
              · simp only [len_last]; omega
              · have := count_last hpos x; simp only []; omega
            · rename_i hw hw2
              split
              · rename_i hw3
                have hpos : 0 < a.wf.length := by omega
                have hF := fitL_ok (was := false) (a := { a with wf := a.wf.take (a.wf.length - 1) }) r1.1 i1
                generalize fitL room false { a with wf := a.wf.take (a.wf.length - 1) } = b at hF ⊢
                obtain ⟨b1, b2, b3, b4, b5, b6, b7, b8⟩ := hF
                simp only [len_last] at b1 b2 b3 b4 b5 b6
                refine hnew b b1 (by omega) (by omega) (by omega) fun x => ?_
                have := b5 x; have := count_last hpos x; omega
              · rename_i hw3
                have hF := fitL_ok (was := false) (a := a) r1.1 i1
                generalize fitL room false a = b at hF ⊢
                obtain ⟨b1, b2, b3, b4, b5, b6, b7, b8⟩ := hF
                exact hnew b b1 (by omega) (by omega) (by omega) fun x => by have := b5 x; omega
theorem adM_hit {room : Int} {a : AL} {key : Int} : (adM room a key).2 = decide (key ∈ a.o ∨ key ∈ a.f) := by
  unfold adM
  split
  · rename_i h; simp [h]
  · rename_i h1
    split
    · rename_i h; simp [h]
    · rename_i h2
      split
      · simp [h1, h2]
      · split <;> simp [h1, h2]
theorem adM_known {room : Int} {a : AL} {key : Int} (h : key ∈ a.o ∨ key ∈ a.f ∨ key ∈ a.wo ∨ key ∈ a.wf) : ∃ r, (adM room a key).1.f = key :: r := by
  unfold adM
  split
  · exact ⟨_, rfl⟩
  · rename_i h1
    split
    · exact ⟨_, rfl⟩
    · rename_i h2
      split
      · exact ⟨_, rfl⟩
      · rename_i h3
        rw [if_pos (((h.resolve_left h1).resolve_left h2).resolve_left h3)]
        exact ⟨_, rfl⟩
theorem adM_new {room : Int} {a : AL} {key : Int} (h : ¬ (key ∈ a.o ∨ key ∈ a.f ∨ key ∈ a.wo ∨ key ∈ a.wf)) : adM room a key = (freshL room a key, false) := by
  unfold adM
  rw [if_neg (fun g => h (.inl g)), if_neg (fun g => h (.inr (.inl g))), if_neg (fun g => h (.inr (.inr (.inl g)))), if_neg (fun g => h (.inr (.inr (.inr g))))]
theorem fitL_t {room : Int} {was : Bool} {a : AL} : (fitL room was a).t = a.t := by
  unfold fitL; split
  · unfold mkRoom; split <;> rfl
  · rfl
theorem freshL_t {room : Int} {a : AL} {key : Int} : (freshL room a key).t = a.t := by
  unfold freshL
  simp only []
  split
  · rw [fitL_t]
  · split
    · rfl
    · rw [fitL_t]; split <;> rfl
theorem adM_target {room : Int} {a : AL} {key : Int} (v : VLists room a) :
    (key ∈ a.wo → (adM room a key).1.t > a.t ∨ a.t = room ∧ (adM room a key).1.t = room) ∧
    (key ∉ a.wo → key ∈ a.wf → (adM room a key).1.t < a.t ∨ a.t = 0 ∧ (adM room a key).1.t = 0) ∧
    (key ∉ a.wo → key ∉ a.wf → (adM room a key).1.t = a.t) := by
  have d := v.dis key
  obtain ⟨t0, t1⟩ := v.tgt
  refine ⟨fun h => ?_, fun h1 h => ?_, fun h1 h2 => ?_⟩
  · have hc := count_mem.1 h
    have ho : key ∉ a.o := count_not.2 (by omega)
    have hf : key ∉ a.f := count_not.2 (by omega)
    have hm := max1_pos (Int.tdiv a.wf.length a.wo.length)
    unfold adM
    rw [if_neg ho, if_neg hf, if_pos h]
    simp only [fitL_t]
    split <;> omega
  · have hc := count_mem.1 h
    have ho : key ∉ a.o := count_not.2 (by omega)
    have hf : key ∉ a.f := count_not.2 (by omega)
    have hm := max1_pos (Int.tdiv a.wo.length a.wf.length)
    unfold adM
    rw [if_neg ho, if_neg hf, if_neg h1, if_pos h]
    simp only [fitL_t]
    split <;> omega
  · unfold adM
    split
    · rfl
    · split
      · rfl
      · first | exact freshL_t | (rw [if_neg h1, if_neg h2]; exact freshL_t)
theorem outN_one {a : List Int} {e : Int} : ∀ {l : List Int}, l.Nodup → (∀ x ∈ l, x = e ∨ x ∈ a) → outN a l ≤ 1
  | [], _, _ => Nat.zero_le _
  | x :: r, hn, h => by
    obtain ⟨h1, h2⟩ := List.nodup_cons.1 hn
    have ih := outN_one h2 fun y hy => h y (List.mem_cons_of_mem _ hy)
    rw [outN_cons]
    split
    · omega
    · rename_i hx
      have he : x = e := (h x List.mem_cons_self).resolve_right hx
      have : outN a r = 0 := outN_zero fun y hy => (h y (List.mem_cons_of_mem _ hy)).resolve_left fun e2 => h1 (by rw [he, ← e2]; exact hy)
      omega
theorem cache_nodup {room : Int} {a : AL} (v : VLists room a) : (a.o ++ a.f).Nodup := by
  rw [nodup_count]; intro x
  have := v.dis x
  rw [List.count_append]; omega
theorem adM_cache {room : Int} {a : AL} {key : Int} (v : VLists room a) :
    outN ((adM room a key).1.o ++ (adM room a key).1.f) (a.o ++ a.f) ≤ 1 ∧
    ((adM room a key).2 = true ∨ (a.o.length : Int) + a.f.length ≠ room → outN ((adM room a key).1.o ++ (adM room a key).1.f) (a.o ++ a.f) = 0) := by
  have hnd := cache_nodup v
  have hin : ∀ (b : AL), (∀ x, x ∈ a.o ∨ x ∈ a.f → x ∈ b.o ∨ x ∈ b.f) → outN (b.o ++ b.f) (a.o ++ a.f) = 0 := fun b h =>
    outN_zero fun x hx => List.mem_append.2 (h x (List.mem_append.1 hx))
  have hone : ∀ (b : AL) (e : Int), (∀ x, x ∈ a.o ∨ x ∈ a.f → x = e ∨ x ∈ b.o ∨ x ∈ b.f) → outN (b.o ++ b.f) (a.o ++ a.f) ≤ 1 := fun b e h =>
    outN_one (e := e) hnd fun x hx => (h x (List.mem_append.1 hx)).imp id List.mem_append.2
  unfold adM
  split
  · have := hin { a with o := rmK a.o key, f := key :: a.f } fun x hx => by
      by_cases e : x = key
      · exact .inr (by rw [e]; exact List.mem_cons_self)
      · rcases hx with h | h
        · exact .inl (mem_rmK.2 ⟨h, e⟩)
        · exact .inr (List.mem_cons_of_mem _ h)
    exact ⟨by simp only [] at this ⊢; omega, fun _ => this⟩
  · split
    · have := hin { a with f := key :: rmK a.f key } fun x hx => by
        by_cases e : x = key
        · exact .inr (by rw [e]; exact List.mem_cons_self)
        · rcases hx with h | h
          · exact .inl h
          · exact .inr (List.mem_cons_of_mem _ (mem_rmK.2 ⟨h, e⟩))
      exact ⟨by simp only [] at this ⊢; omega, fun _ => this⟩
    · have hfit : ∀ (was : Bool) (c : AL), c.o = a.o → c.f = a.f →
          outN ((fitL room was c).o ++ (key :: (fitL room was c).f)) (a.o ++ a.f) ≤ 1 ∧ ((a.o.length : Int) + a.f.length ≠ room → outN ((fitL room was c).o ++ (key :: (fitL room was c).f)) (a.o ++ a.f) = 0) ∧
          outN ((key :: (fitL room was c).o) ++ (fitL room was c).f) (a.o ++ a.f) ≤ 1 ∧ ((a.o.length : Int) + a.f.length ≠ room → outN ((key :: (fitL room was c).o) ++ (fitL room was c).f) (a.o ++ a.f) = 0) := by
        intro was c e1 e2
        have hF := fitL_ok was (a := c) v.room1.1 (by rw [e1, e2]; exact v.inc)
        obtain ⟨e, he⟩ := hF.keep
        rw [e1, e2] at he
        have hall := hF.all
        rw [e1, e2] at hall
        refine ⟨hone { c with o := (fitL room was c).o, f := key :: (fitL room was c).f } e fun x hx => (he x hx).imp id fun h => h.imp id (List.mem_cons_of_mem _), fun hne => ?_,
          hone { c with o := key :: (fitL room was c).o, f := (fitL room was c).f } e fun x hx => (he x hx).imp id fun h => h.imp (List.mem_cons_of_mem _) id, fun hne => ?_⟩
        · have := v.inc
          rw [hall (by omega), e1, e2]
          exact hin { a with f := key :: a.f } fun x hx => hx.imp id (List.mem_cons_of_mem _)
        · have := v.inc
          rw [hall (by omega), e1, e2]
          exact hin { a with o := key :: a.o } fun x hx => hx.imp (List.mem_cons_of_mem _) id
      split
      · obtain ⟨p, q, _, _⟩ := hfit false { a with t := (if a.t + max1 (Int.tdiv a.wf.length a.wo.length) < room then a.t + max1 (Int.tdiv a.wf.length a.wo.length) else room), wo := rmK a.wo key } rfl rfl
        exact ⟨p, fun h => q (h.resolve_left (by simp))⟩
      · split
        · obtain ⟨p, q, _, _⟩ := hfit true { a with t := (if 0 < a.t - max1 (Int.tdiv a.wo.length a.wf.length) then a.t - max1 (Int.tdiv a.wo.length a.wf.length) else 0), wf := rmK a.wf key } rfl rfl
          exact ⟨p, fun h => q (h.resolve_left (by simp))⟩
        · show outN ((freshL room a key).o ++ (freshL room a key).f) _ ≤ 1 ∧ _
          unfold freshL
          simp only []
          split
          · obtain ⟨_, _, p, q⟩ := hfit false { a with wo := a.wo.take (a.wo.length - 1) } rfl rfl
            exact ⟨p, fun h => q (h.resolve_left (by simp))⟩
          · split
            · rename_i hw hw2
              have hr := v.room1.1
              have hpos : 0 < a.o.length := by omega
              have hs := last_split hpos
              refine ⟨hone { a with o := key :: a.o.take (a.o.length - 1) } (lastI a.o) fun x hx => ?_, fun h => ?_⟩
              · rcases hx with h | h
                · rw [← hs] at h
                  rcases List.mem_append.1 h with h | h
                  · exact .inr (.inl (List.mem_cons_of_mem _ h))
                  · exact .inl (List.mem_singleton.1 h)
                · exact .inr (.inr h)
              · have := v.inc
                have h := h.resolve_left (by simp)
                omega
            · split
              · obtain ⟨_, _, p, q⟩ := hfit false { a with wf := a.wf.take (a.wf.length - 1) } rfl rfl
                exact ⟨p, fun h => q (h.resolve_left (by simp))⟩
              · obtain ⟨_, _, p, q⟩ := hfit false a rfl rfl
                exact ⟨p, fun h => q (h.resolve_left (by simp))⟩
def runL (room : Int) : List Int → AL → Int → AL × Int
  | [], a, n => (a, n)
  | x :: r, a, n => runL room r (adM room a x).1 (n + toI (adM room a x).2)
theorem runL_append (room x : Int) : ∀ (t : List Int) (a : AL) (n : Int), runL room (t ++ [x]) a n = runL room [x] (runL room t a n).1 (runL room t a n).2
  | [], _, _ => rfl
  | y :: t, _, _ => runL_append room x t _ _
theorem runL_valid {room : Int} : ∀ (t : List Int) (a : AL) (n : Int), VLists room a → (∀ x ∈ t, 0 ≤ x ∧ x ≤ 31) → VLists room (runL room t a n).1 ∧ n ≤ (runL room t a n).2 ∧ (runL room t a n).2 ≤ n + t.length
  | [], a, n, v, _ => ⟨v, Int.le_refl _, by simp [runL]⟩
  | y :: t, a, n, v, ht => by
    obtain ⟨p, q, r⟩ := runL_valid t _ (n + toI (adM room a y).2) (adM_valid (key := y) v (ht y List.mem_cons_self)) (fun x hx => ht x (List.mem_cons_of_mem _ hx))
    have := toI_01 (adM room a y).2
    simp only [runL, List.length_cons]
    exact ⟨p, by omega, by omega⟩
theorem lists0 {room t : Int} (h : 1 ≤ room ∧ room ≤ 8) (g : 0 ≤ t ∧ t ≤ room) : VLists room ⟨t, [], [], [], []⟩ :=
  ⟨h, g, by simp; omega, by simp; omega, by simp; omega, fun x => by simp, fun x hx => by simp at hx⟩
theorem lists_len {room : Int} {a : AL} (v : VLists room a) : a.o.length ≤ 8 ∧ a.f.length ≤ 8 ∧ a.wo.length ≤ 8 ∧ a.wf.length ≤ 16 := by
  have := v.room1; have := v.inc; have := v.onc; have := v.tot
  omega
theorem mkRoom_len {was : Bool} {a : AL} (h : 0 < a.o.length + a.f.length) : (mkRoom was a).o.length ≤ a.o.length ∧ (mkRoom was a).f.length ≤ a.f.length ∧ (mkRoom was a).wo.length ≤ a.wo.length + 1 ∧ (mkRoom was a).wf.length ≤ a.wf.length + 1 := by
  unfold mkRoom
  split <;> simp

/-! ## What the laws ask of entries -/
theorem VEnt.sub {l l' : List Ent} {room : Int} (v : VEnt l room) (h : l'.Sublist l) : VEnt l' room := by
  obtain ⟨v1, v2, v3, v4, v5⟩ := v
  have := h.length_le
  exact ⟨v1, by omega, fun e he => v3 e (h.subset he), List.Pairwise.sublist (h.map _) v4, List.Pairwise.sublist (h.map _) v5⟩
theorem VEnt.top {l : List Ent} {room : Int} (v : VEnt l room) : VEnt l 8 := by
  obtain ⟨v1, v2, v3, v4, v5⟩ := v
  exact ⟨by omega, by omega, v3, v4, v5⟩
theorem eq3' {x : Ent} {a b c : Int} : ((x.1 == a) && ((x.2.1 == b) && (x.2.2 == c))) = decide (x = (a, b, c)) := eq3 (y := (a, b, c))
/-- The count of a key, 0 if it isn't there. -/
def OldC (l : List Ent) (key old : Int) : Prop := (key ∉ l.map (·.1) ∧ old = 0) ∨ ∃ e ∈ l, e.1 = key ∧ old = e.2.1
theorem OldC.snoc {l : List Ent} {key old : Int} {x : Ent} (h : OldC l key old) (hx : x.1 ≠ key) : OldC (l ++ [x]) key old := by
  rcases h with ⟨h1, h2⟩ | ⟨e, h1, h2, h3⟩
  · refine .inl ⟨fun hm => ?_, h2⟩
    rw [List.map_append, List.mem_append] at hm
    rcases hm with hm | hm
    · exact h1 hm
    · simp at hm; exact hx hm.symm
  · exact .inr ⟨e, List.mem_append_left _ h1, h2, h3⟩
theorem OldC.here {l : List Ent} {key : Int} {x : Ent} (hx : x.1 = key) : OldC (l ++ [x]) key x.2.1 := .inr ⟨x, by simp, hx, rfl⟩
/-- Of a key that is there: its entry is set. -/
theorem oftM_hit {l : List Ent} {room key now : Int} (hn : (l.map (·.1)).Nodup) (hm : key ∈ l.map (·.1)) : ∃ j, j < l.length ∧ (l.getD j ent0).1 = key ∧ l[j]? = some (l.getD j ent0) ∧
    oftM l room key now = (l.set j (key, (if (l.getD j ent0).2.1 + 1 < 100 then (l.getD j ent0).2.1 + 1 else 100), now), true) := by
  obtain ⟨j, j1, j2, _, j3⟩ := plc_pos hm
  have hj : (entAt l key).toNat = j := by unfold entAt; rw [j3]; omega
  rw [List.length_map] at j1
  have hg : l[j]? = some (l.getD j ent0) := by rw [List.getD_eq_getElem?_getD, List.getElem?_eq_getElem j1]; rfl
  rw [List.getElem?_map, hg, Option.map_some] at j2
  refine ⟨j, j1, Option.some.inj j2, hg, ?_⟩
  unfold oftM
  rw [if_pos hm, hj]
theorem oftM_miss {l : List Ent} {room key now : Int} (hm : key ∉ l.map (·.1)) : oftM l room key now = ((if (l.length : Int) = room then l.eraseIdx (rareM l) else l) ++ [(key, 1, now)], false) := by
  unfold oftM; rw [if_neg hm]
theorem oftM_old {l : List Ent} {room key now old : Int} (v : VEnt l room) (h : OldC l key old) :
    (key, (if 100 < old + 1 then (100 : Int) else old + 1), now) ∈ (oftM l room key now).1 ∧ (oftM l room key now).2 = decide (old > 0) ∧ 0 ≤ old ∧ old ≤ 100 := by
  rcases h with ⟨h1, h2⟩ | ⟨e, h1, h2, h3⟩
  · rw [oftM_miss h1, h2]; exact ⟨by simp, by simp, by omega, by omega⟩
  · obtain ⟨j, j1, j2, j3, j4⟩ := oftM_hit (room := room) (now := now) v.2.2.2.1 (List.mem_map.2 ⟨e, h1, h2⟩)
    have he : e = l.getD j ent0 := ent_key v.2.2.2.1 h1 (List.mem_of_getElem? j3) (by rw [h2, j2])
    rw [j4]
    rw [← he, ← h3]
    have hc := (v.2.2.1 e h1).2.1
    refine ⟨?_, ?_, by omega, by omega⟩
    · rw [min_100]
      have : (l.set j (key, (if old + 1 < 100 then old + 1 else 100), now))[j]? = some (key, (if old + 1 < 100 then old + 1 else 100), now) := by rw [List.getElem?_set_self j1]
      exact List.mem_of_getElem? this
    · have : old > 0 := by omega
      simp [this]
theorem mem_set_ne {α : Type} {l : List α} {j : Nat} {e x : α} (h : e ∈ l) (hne : l[j]? ≠ some e) : e ∈ l.set j x := by
  obtain ⟨i, hi, ei⟩ := List.getElem_of_mem h
  have : i ≠ j := fun c => hne (by rw [← c, List.getElem?_eq_getElem hi, ei])
  have : (l.set j x)[i]? = some e := by rw [List.getElem?_set_ne (Ne.symm this), List.getElem?_eq_getElem hi, ei]
  exact List.mem_of_getElem? this
theorem mem_erase_ne {α : Type} {l : List α} {j : Nat} {e : α} (h : e ∈ l) (hne : l[j]? ≠ some e) : e ∈ l.eraseIdx j := by
  obtain ⟨i, hi, ei⟩ := List.getElem_of_mem h
  exact List.mem_eraseIdx_iff_getElem?.2 ⟨i, fun c => hne (by rw [← c, List.getElem?_eq_getElem hi, ei]), by rw [List.getElem?_eq_getElem hi, ei]⟩
/-- The other entries stay, but the one that is left out. -/
theorem oftM_others {l : List Ent} {room key now : Int} (v : VEnt l room) {e : Ent} (he : e ∈ l) (hk : e.1 ≠ key) :
    e ∈ (oftM l room key now).1 ∨ ((oftM l room key now).2 = false ∧ (l.length : Int) = room ∧ e.1 = rareK l) := by
  by_cases hm : key ∈ l.map (·.1)
  · obtain ⟨j, j1, j2, j3, j4⟩ := oftM_hit (room := room) (now := now) v.2.2.2.1 hm
    rw [j4]
    exact .inl (mem_set_ne he fun c => hk (by rw [j3] at c; rw [← Option.some.inj c, j2]))
  · rw [oftM_miss hm]
    by_cases hf : (l.length : Int) = room
    · simp only [if_pos hf]
      by_cases hr : l[rareM l]? = some e
      · refine .inr ⟨by trivial, hf, ?_⟩
        rw [rareK, List.getD_eq_getElem?_getD, hr]; rfl
      · exact .inl (List.mem_append_left _ (mem_erase_ne he hr))
    · simp only [if_neg hf]
      exact .inl (List.mem_append_left _ he)
theorem oftM_out {l : List Ent} {room key now : Int} (v : VEnt l room) (h : (oftM l room key now).2 = false) (hf : (l.length : Int) = room) : rareK l ∉ (oftM l room key now).1.map (·.1) := by
  by_cases hm : key ∈ l.map (·.1)
  · obtain ⟨j, j1, j2, j3, j4⟩ := oftM_hit (room := room) (now := now) v.2.2.2.1 hm
    rw [j4] at h; cases h
  · rw [oftM_miss hm]
    simp only [if_pos hf]
    have hl : 0 < l.length := by have := v.1; omega
    have hr := (rareM_ok (l := l) (by intro c; rw [c] at hl; simp at hl)).1
    have hg : l[rareM l]? = some (l.getD (rareM l) ent0) := by rw [List.getD_eq_getElem?_getD, List.getElem?_eq_getElem hr]; rfl
    intro hc
    rw [List.map_append, List.mem_append] at hc
    rcases hc with hc | hc
    · obtain ⟨e, h1, h2⟩ := List.mem_map.1 hc
      obtain ⟨i, h3, h4⟩ := List.mem_eraseIdx_iff_getElem?.1 h1
      exact h3 (nodup_at v.2.2.2.1 (x := rareK l) (by rw [List.getElem?_map, h4, Option.map_some]; exact congrArg some h2) (by rw [List.getElem?_map, hg]; rfl))
    · simp only [List.map_cons, List.map_nil, List.mem_singleton] at hc
      exact hm (by rw [← hc]; exact List.mem_map.2 ⟨_, List.mem_of_getElem? hg, rfl⟩)
theorem oftM_pos {l : List Ent} {room key now : Int} : 0 < (oftM l room key now).1.length := by
  unfold oftM
  split
  · rename_i h
    obtain ⟨e, he, _⟩ := List.mem_map.1 h
    have := List.length_pos_of_mem he
    simpa using this
  · simp
/-- Ageing. -/
theorem ageM_len {l : List Ent} : (ageM l).length = l.length := by simp [ageM]
def ageN : Nat → List Ent → List Ent
  | 0, l => l
  | n + 1, l => ageN n (ageM l)
theorem half_le {c m : Int} (h : 0 ≤ c) (hm : c ≤ 2 * m) : Int.tdiv (c + 1) 2 ≤ m := by
  have := half_up h; omega
theorem rareK_entry {l : List Ent} {room : Int} (v : VEnt l room) (h : 0 < l.length) : ∃ x ∈ l, x.1 = rareK l ∧ ∀ e ∈ l, ¬ Rar e x := by
  obtain ⟨h1, h2⟩ := rareM_mem (l := l) (by intro c; rw [c] at h; simp at h)
  exact ⟨_, h1, rfl, h2⟩
theorem rareK_range {l : List Ent} {room : Int} (v : VEnt l room) (h : 0 < l.length) : 0 ≤ rareK l ∧ rareK l ≤ 31 := by
  obtain ⟨x, h1, h2, _⟩ := rareK_entry v h
  rw [← h2]; exact (v.2.2.1 x h1).1
/-- What marking lays into a row of entries. -/
def seqE (k : Int) : Nat → List Ent
  | 0 => []
  | n + 1 => seqE k n ++ [(k + 3 * (n : Int), k + 3 * (n : Int) + 1, k + 3 * (n : Int) + 1 + 1)]
theorem seqE_snoc (k : Int) (n : Nat) : seqE k (n + 1) = seqE k n ++ [(k + 3 * (n : Int), k + 3 * (n : Int) + 1, k + 3 * (n : Int) + 1 + 1)] := rfl
theorem seqE_len (k : Int) : ∀ n, (seqE k n).length = n
  | 0 => rfl
  | n + 1 => by rw [seqE_snoc, List.length_append, seqE_len k n]; rfl
theorem seqE_get {k : Int} : ∀ {n i : Nat}, i < n → ∀ {d : Ent}, (seqE k n).getD i d = (k + 3 * (i : Int), k + 3 * (i : Int) + 1, k + 3 * (i : Int) + 1 + 1)
  | n + 1, i, h, d => by
    rw [seqE_snoc, List.getD_eq_getElem?_getD]
    by_cases e : i < n
    · rw [List.getElem?_append_left (by rw [seqE_len]; exact e), ← List.getD_eq_getElem?_getD]; exact seqE_get e
    · have : i = n := by omega
      subst this
      rw [List.getElem?_append_right (by rw [seqE_len]; omega), seqE_len]; simp
/-! ## What the laws ask of adaptive lists -/
theorem adM_cnt {room : Int} {a : AL} {key : Int} (v : VLists room a) (h : key ∈ a.wo ∨ key ∈ a.wf) (x : Int) :
    (adM room a key).1.o.count x + (adM room a key).1.f.count x + (adM room a key).1.wo.count x + (adM room a key).1.wf.count x = a.o.count x + a.f.count x + a.wo.count x + a.wf.count x := by
  have hno : ∀ x, a.o.count x ≤ 1 ∧ a.f.count x ≤ 1 ∧ a.wo.count x ≤ 1 ∧ a.wf.count x ≤ 1 := fun x => by have := v.dis x; omega
  have dk := v.dis key
  have h1 : key ∉ a.o := fun c => by have := count_mem.1 c; rcases h with h | h <;> (have := count_mem.1 h; omega)
  have h2 : key ∉ a.f := fun c => by have := count_mem.1 c; rcases h with h | h <;> (have := count_mem.1 h; omega)
  unfold adM
  rw [if_neg h1, if_neg h2]
  by_cases h3 : key ∈ a.wo
  · rw [if_pos h3]
    have hc : a.wo.count key = 1 := by have := count_mem.1 h3; have := hno key; omega
    have b5 := (fitL_ok (room := room) (was := false) (a := { a with t := (if a.t + max1 (Int.tdiv a.wf.length a.wo.length) < room then a.t + max1 (Int.tdiv a.wf.length a.wo.length) else room), wo := rmK a.wo key }) v.room1.1 v.inc).cnt x
    have := cnt_rm_add hc x
    simp only [count_con] at b5 ⊢
    omega
  · have h4 : key ∈ a.wf := h.resolve_left h3
    rw [if_neg h3, if_pos h4]
    have hc : a.wf.count key = 1 := by have := count_mem.1 h4; have := hno key; omega
    have b5 := (fitL_ok (room := room) (was := true) (a := { a with t := (if 0 < a.t - max1 (Int.tdiv a.wo.length a.wf.length) then a.t - max1 (Int.tdiv a.wo.length a.wf.length) else 0), wf := rmK a.wf key }) v.room1.1 v.inc).cnt x
    have := cnt_rm_add hc x
    simp only [count_con] at b5 ⊢
    omega
theorem adM_ghost {room : Int} {a : AL} {key : Int} (v : VLists room a) (hk : 0 ≤ key ∧ key ≤ 31) (h : key ∈ a.wo ∨ key ∈ a.wf) :
    (∀ x ∈ a.o ++ a.f, x ∈ (adM room a key).1.o ++ (adM room a key).1.f ∨ x ∈ (adM room a key).1.wo ∨ x ∈ (adM room a key).1.wf) ∧ key ∉ (adM room a key).1.wo ∧ key ∉ (adM room a key).1.wf := by
  have hv := adM_valid (key := key) v hk
  have hc := adM_cnt v h
  obtain ⟨s, hs⟩ := adM_known (room := room) (a := a) (key := key) (by rcases h with h | h <;> simp [h])
  have hd := hv.dis key
  have hf : 0 < (adM room a key).1.f.count key := count_mem.1 (by rw [hs]; simp)
  refine ⟨fun x hx => ?_, fun c => by have := count_mem.1 c; omega, fun c => by have := count_mem.1 c; omega⟩
  have h1 := count_mem.1 hx
  rw [List.count_append] at h1
  have h2 := hc x
  simp only [List.mem_append, count_mem]
  omega
theorem adM_again {room : Int} {a : AL} {key : Int} (v : VLists room a) (h : key ∈ a.o ∨ key ∈ a.f) :
    (adM room a key).2 = true ∧ (∃ s, (adM room a key).1.f = key :: s) ∧ (adM room a key).1.t = a.t := by
  have dk := v.dis key
  refine ⟨by rw [adM_hit]; simpa using h, adM_known (by rcases h with h | h <;> simp [h]), (adM_target v).2.2 (fun c => ?_) (fun c => ?_)⟩
  · have := count_mem.1 c; rcases h with h | h <;> (have := count_mem.1 h; omega)
  · have := count_mem.1 c; rcases h with h | h <;> (have := count_mem.1 h; omega)
/-- A key that was used is in the cache. -/
theorem adM_in {room : Int} {a : AL} {key : Int} : key ∈ (adM room a key).1.o ∨ key ∈ (adM room a key).1.f := by
  by_cases h : key ∈ a.o ∨ key ∈ a.f ∨ key ∈ a.wo ∨ key ∈ a.wf
  · obtain ⟨s, hs⟩ := adM_known (room := room) h
    right; rw [hs]; simp
  · rw [adM_new h]
    left
    unfold freshL
    simp

/-! ## Entries: what the program does -/
/-- The first entry that is this one. -/
def FirstAt (l : List Ent) (v : Ent) (r : Int) : Prop := (∃ j : Nat, r = j ∧ j < l.length ∧ l[j]? = some v ∧ ∀ q, q < j → l[q]? ≠ some v) ∨ (r = -1 ∧ v ∉ l)
theorem firstAt_rare {l : List Ent} {r : Int} (hn : (l.map (·.1)).Nodup) (hne : l ≠ []) (h : FirstAt l (l.getD (rareM l) ent0) r) : r = (rareM l : Nat) := by
  obtain ⟨h1, h2⟩ := rareM_ok hne
  have hg : l[rareM l]? = some (l.getD (rareM l) ent0) := by rw [List.getD_eq_getElem?_getD, List.getElem?_eq_getElem h1]; rfl
  rcases h with ⟨j, rfl, hj, h3, h4⟩ | ⟨_, h3⟩
  · have : j = rareM l := nodup_at hn (x := (l.getD (rareM l) ent0).1) (by rw [List.getElem?_map, h3]; rfl) (by rw [List.getElem?_map, hg]; rfl)
    rw [this]
  · exact absurd (List.mem_of_getElem? hg) h3
theorem mid_take0 {α : Type} {l r : List α} {i : Nat} (h : i ≤ l.length) : (midA l i r).take i = l.take i := by
  rw [midA, List.take_append_of_le_length (by simp; omega), List.take_take, Nat.min_self]
theorem mid_take1 {α : Type} {l r : List α} {i n : Nat} (h : i ≤ l.length) (hn : n = i + r.length) : (midA l i r).take n = l.take i ++ r := by
  have hl : (l.take i).length = i := by simp; omega
  rw [midA, ← List.append_assoc, List.take_append_of_le_length (by simp; omega), List.take_of_length_le (by simp; omega)]
/-- What the use of a key makes of an entry. -/
def upE (key now : Int) (e : Ent) : Ent := if e.1 = key then (e.1, (if 100 < e.2.1 + 1 then (100 : Int) else e.2.1 + 1), now) else e
theorem upE_not {l : List Ent} {key now : Int} (h : key ∉ l.map (·.1)) : l.map (upE key now) = l := by
  have : ∀ e ∈ l, upE key now e = e := fun e he => by
    rw [upE, if_neg (fun c => h (List.mem_map.2 ⟨e, he, c⟩))]
  exact (List.map_congr_left this).trans (List.map_id l)
theorem upE_set : ∀ {l : List Ent} {key now : Int} {j : Nat}, (l.map (·.1)).Nodup → (hj : j < l.length) → (l[j]).1 = key → l.map (upE key now) = l.set j (key, (if 100 < (l[j]).2.1 + 1 then (100 : Int) else (l[j]).2.1 + 1), now)
  | e :: l, key, now, 0, hn, hj, he => by
    simp only [List.map_cons, List.nodup_cons] at hn
    simp only [List.getElem_cons_zero] at he
    simp only [List.map_cons, List.set_cons_zero, List.getElem_cons_zero]
    rw [upE_not (by rw [← he]; exact hn.1), upE, if_pos he, he]
  | e :: l, key, now, j + 1, hn, hj, he => by
    simp only [List.map_cons, List.nodup_cons] at hn
    simp only [List.getElem_cons_succ] at he
    have hj' : j < l.length := by simpa using hj
    simp only [List.map_cons, List.set_cons_succ, List.getElem_cons_succ]
    rw [upE_set hn.2 hj' he, upE, if_neg fun c => hn.1 (by rw [c, ← he]; exact List.mem_map.2 ⟨_, List.getElem_mem hj', rfl⟩)]
theorem oftM_map {l : List Ent} {room key now : Int} (hn : (l.map (·.1)).Nodup) (h : key ∈ l.map (·.1)) : oftM l room key now = (l.map (upE key now), true) := by
  unfold oftM
  rw [if_pos h]
  obtain ⟨j, j1, j2, _, j3⟩ := plc_pos h
  have hj : (entAt l key).toNat = j := by unfold entAt; rw [j3]; omega
  rw [hj]
  rw [List.length_map] at j1
  rw [List.getElem?_map, List.getElem?_eq_getElem j1] at j2
  have hk : (l[j]).1 = key := by simpa using j2
  rw [upE_set hn j1 hk, List.getD_eq_getElem?_getD, List.getElem?_eq_getElem j1]
  simp only [Option.getD_some, min_100]
theorem ent_eta (e : Ent) : (e.1, e.2.1, e.2.2) = e := rfl
/-- Numbers compared. -/
def cmpI (x y : Int) : Int := if x < y then -1 else if y < x then 1 else 0
theorem cmpI_rar {a1 a2 a3 b1 b2 b3 : Int} : (if cmpI a2 b2 ≠ 0 then cmpI a2 b2 else cmpI a3 b3) < 0 ↔ Rar (a1, a2, a3) (b1, b2, b3) := by
  unfold Rar cmpI
  simp only
  by_cases h1 : a2 < b2
  · simp [h1]
  · by_cases h2 : b2 < a2
    · simp [h1, h2]; omega
    · have e : a2 = b2 := by omega
      by_cases h3 : a3 < b3
      · simp [h3, e]
      · by_cases h4 : b3 < a3
        · simp [h3, h4, e]
        · simp [h3, h4, e]
/-- Of numbers, the first that is not 0. -/
def orI : List Int → Int
  | [] => 0
  | x :: r => if x ≠ 0 then x else orI r

/-! ## A use of adaptive lists, said in one way for all keys -/
def nextT (room : Int) (a : AL) (key : Int) : Int :=
  if key ∈ a.wo then (if a.t + max1 (Int.tdiv a.wf.length a.wo.length) < room then a.t + max1 (Int.tdiv a.wf.length a.wo.length) else room)
  else if key ∈ a.wf then (if 0 < a.t - max1 (Int.tdiv a.wo.length a.wf.length) then a.t - max1 (Int.tdiv a.wo.length a.wf.length) else 0)
  else a.t
def forgetL (room : Int) (a : AL) : AL :=
  if (a.o.length : Int) + a.wo.length = room ∧ 0 < a.wo.length then { a with wo := a.wo.take (a.wo.length - 1) }
  else if (a.o.length : Int) + a.wo.length = room then { a with o := a.o.take (a.o.length - 1) }
  else if (a.o.length : Int) + a.wo.length + a.f.length + a.wf.length = 2 * room then { a with wf := a.wf.take (a.wf.length - 1) } else a
def outL (room : Int) (a : AL) (key : Int) : AL := ⟨nextT room a key, rmK a.o key, rmK a.f key, rmK a.wo key, rmK a.wf key⟩
def knownL (a : AL) (key : Int) : Prop := key ∈ a.o ∨ key ∈ a.f ∨ key ∈ a.wf ∨ key ∈ a.wo
instance (a : AL) (key : Int) : Decidable (knownL a key) := by unfold knownL; infer_instance
def madeL (room : Int) (a : AL) (key : Int) : AL := fitL room (decide (key ∈ a.wf)) (if knownL a key then outL room a key else forgetL room (outL room a key))
def inL (kn : Prop) [Decidable kn] (key : Int) (b : AL) : AL := if kn then { b with f := key :: b.f } else { b with o := key :: b.o }
theorem fitL_no {room : Int} {was : Bool} {a : AL} (h : (a.o.length : Int) + a.f.length ≠ room) : fitL room was a = a := by unfold fitL; rw [if_neg h]
theorem useL_adM {room : Int} {a : AL} {key : Int} (v : VLists room a) : adM room a key = (inL (knownL a key) key (madeL room a key), decide (key ∈ a.o ∨ key ∈ a.f)) := by
  have dk := v.dis key
  have hno : ∀ x, a.o.count x ≤ 1 ∧ a.f.count x ≤ 1 ∧ a.wo.count x ≤ 1 ∧ a.wf.count x ≤ 1 := fun x => by have := v.dis x; omega
  have i1 := v.inc
  have o1 := v.onc
  have one : ∀ {l : List Int}, key ∈ l → 0 < l.count key := fun h => count_mem.1 h
  by_cases m1 : key ∈ a.o
  · have p1 := one m1
    have m2 : key ∉ a.f := count_not.2 (by omega)
    have m3 : key ∉ a.wo := count_not.2 (by omega)
    have m4 : key ∉ a.wf := count_not.2 (by omega)
    have hl := len_rm (by omega : a.o.count key = 1) fun x => (hno x).1
    have kn : knownL a key := .inl m1
    unfold adM inL madeL
    rw [if_pos m1, if_pos kn, if_pos kn, fitL_no (by simp only [outL, rmK_not m2]; omega)]
    simp [outL, nextT, m1, m3, m4, rmK_not m2, rmK_not m3, rmK_not m4]
  by_cases m2 : key ∈ a.f
  · have p2 := one m2
    have m3 : key ∉ a.wo := count_not.2 (by omega)
    have m4 : key ∉ a.wf := count_not.2 (by omega)
    have hl := len_rm (by omega : a.f.count key = 1) fun x => (hno x).2.1
    have kn : knownL a key := .inr (.inl m2)
    unfold adM inL madeL
    rw [if_neg m1, if_pos m2, if_pos kn, if_pos kn, fitL_no (by simp only [outL, rmK_not m1]; omega)]
    simp [outL, nextT, m2, m3, m4, rmK_not m1, rmK_not m3, rmK_not m4]
  by_cases m3 : key ∈ a.wo
  · have p3 := one m3
    have m4 : key ∉ a.wf := count_not.2 (by omega)
    have kn : knownL a key := .inr (.inr (.inr m3))
    unfold adM inL madeL
    rw [if_neg m1, if_neg m2, if_pos m3, if_pos kn, if_pos kn]
    simp [outL, nextT, m1, m2, m3, m4, rmK_not m1, rmK_not m2, rmK_not m4]
  by_cases m4 : key ∈ a.wf
  · have kn : knownL a key := .inr (.inr (.inl m4))
    unfold adM inL madeL
    rw [if_neg m1, if_neg m2, if_neg m3, if_pos m4, if_pos kn, if_pos kn]
    simp [outL, nextT, m1, m2, m3, m4, rmK_not m1, rmK_not m2, rmK_not m3]
  · have kn : ¬ knownL a key := fun c => by unfold knownL at c; simp_all
    unfold adM inL madeL
    rw [if_neg m1, if_neg m2, if_neg m3, if_neg m4, if_neg kn, if_neg kn]
    have e : outL room a key = a := by simp [outL, nextT, m3, m4, rmK_not m1, rmK_not m2, rmK_not m3, rmK_not m4]
    rw [e]
    simp only [m1, m2, m4, or_self, decide_false]
    have : freshL room a key = { fitL room false (forgetL room a) with o := key :: (fitL room false (forgetL room a)).o } := by
      unfold freshL forgetL
      split
      · rfl
      · split
        · rename_i h1 h2
          rw [fitL_no]
          simp only [len_last]; have := v.room1; omega
        · rfl
    rw [this]

theorem firM_hit {l : List Int} {room key : Int} (h : key ∈ l) : firM l room key = l := by rw [firM, if_pos h]
theorem firM_miss {l : List Int} {room key : Int} (h : key ∉ l) (hr : 1 ≤ room) : firM l room key = l.drop (l.length + 1 - room.toNat) ++ [key] := by
  rw [firM, if_neg h, List.drop_append_of_le_length (by omega)]
theorem firM_mem {l : List Int} {room key : Int} (hr : 1 ≤ room) : key ∈ firM l room key := by
  by_cases h : key ∈ l
  · rw [firM_hit h]; exact h
  · rw [firM_miss h hr]; simp

/-! ## What can be hit at all -/
/-- `Can room r C n`: with a cache `C` before the keys `r`, `n` hits are possible. -/
def Can (room : Nat) : List Int → List Int → Nat → Prop
  | [], _, n => n = 0
  | k :: r, C, n => ∃ D m, D.Nodup ∧ D.length ≤ room ∧ k ∈ D ∧ (∀ x ∈ D, x = k ∨ x ∈ C) ∧ Can room r D m ∧ n ≤ m + (if k ∈ C then 1 else 0)
theorem Can.less {room : Nat} : ∀ {r C : List Int} {n m : Nat}, Can room r C n → m ≤ n → Can room r C m
  | [], _, _, _, h, hm => by simp only [Can] at *; omega
  | k :: r, C, _, _, ⟨D, m, h1, h2, h3, h4, h5, h6⟩, hm => ⟨D, m, h1, h2, h3, h4, h5, by omega⟩
theorem Can.mono {room : Nat} : ∀ {r C D : List Int} {n : Nat}, Can room r C n → (∀ x ∈ C, x ∈ D) → Can room r D n
  | [], _, _, _, h, _ => h
  | k :: r, C, D, n, ⟨E, m, h1, h2, h3, h4, h5, h6⟩, hs => by
    refine ⟨E, m, h1, h2, h3, fun x hx => (h4 x hx).imp id (hs x), h5, ?_⟩
    by_cases hc : k ∈ C
    · rw [if_pos hc] at h6; rw [if_pos (hs k hc)]; exact h6
    · rw [if_neg hc] at h6; exact Nat.le_trans h6 (Nat.le_add_right _ _)
theorem Can.zero {room : Nat} (h : 1 ≤ room) : ∀ {r C : List Int}, Can room r C 0
  | [], _ => rfl
  | k :: r, C => ⟨[k], 0, by simp, by simpa using h, by simp, fun x hx => .inl (List.mem_singleton.1 hx), Can.zero h, by omega⟩
/-- A key less costs a hit at most. -/
theorem Can.minus {room : Nat} {y : Int} : ∀ {r C : List Int} {n : Nat}, Can room r C (n + 1) → Can room r (rmK C y) n
  | [], C, n, h => by simp only [Can] at h; omega
  | k :: r, C, n, ⟨D, m, h1, h2, h3, h4, h5, h6⟩ => by
    by_cases hy : k = y
    · subst hy
      refine ⟨D, m, h1, h2, h3, fun x hx => ?_, h5, ?_⟩
      · rcases h4 x hx with h | h
        · exact .inl h
        · by_cases e : x = k
          · exact .inl e
          · exact .inr (mem_rmK.2 ⟨h, e⟩)
      · split at h6 <;> omega
    · have hm : (k ∈ rmK C y) = (k ∈ C) := propext (by rw [mem_rmK]; exact and_iff_left hy)
      have hr : 1 ≤ room := by have := List.length_pos_of_mem h3; omega
      refine ⟨rmK D y, m - 1, rmK_nodup h1, by have := @rmK_le D y; omega, mem_rmK.2 ⟨h3, hy⟩, fun x hx => ?_, ?_, by simp only [hm]; omega⟩
      · obtain ⟨hx1, hx2⟩ := mem_rmK.1 hx
        exact (h4 x hx1).imp id fun h => mem_rmK.2 ⟨h, hx2⟩
      · cases m with
        | zero => exact Can.zero hr
        | succ m => exact Can.minus h5
/-- After how many keys a key comes: all of them if it does not. -/
def nxt (x : Int) : List Int → Nat
  | [] => 0
  | k :: r => if k = x then 0 else nxt x r + 1
theorem nxt_le (x : Int) : ∀ r, nxt x r ≤ r.length
  | [] => Nat.le_refl _
  | k :: r => by unfold nxt; have := nxt_le x r; split <;> simp; omega
/-- A key that comes sooner is better. -/
theorem Can.swap {room : Nat} {x y : Int} : ∀ {r C : List Int} {n : Nat}, Can room r (y :: C) n → C.Nodup → x ∉ C → y ∉ C → C.length + 1 ≤ room → nxt x r ≤ nxt y r → Can room r (x :: C) n
  | [], _, _, h, _, _, _, _, _ => h
  | k :: r, C, n, ⟨D, m, h1, h2, h3, h4, h5, h6⟩, hn, hx, hy, hc, hi => by
    by_cases exy : x = y
    · subst exy; exact ⟨D, m, h1, h2, h3, h4, h5, h6⟩
    by_cases ek : k = y
    · subst ek
      rw [nxt, nxt, if_pos rfl, if_neg (Ne.symm exy)] at hi
      omega
    by_cases ekx : k = x
    · -- the sooner one comes: a hit
      subst ekx
      have hmiss : ¬ k ∈ y :: C := by simp; exact ⟨ek, hx⟩
      rw [if_neg hmiss] at h6
      refine ⟨k :: C, m - 1, List.nodup_cons.2 ⟨hx, hn⟩, by simpa using hc, by simp, fun z hz => by simp at hz; exact hz.imp id fun h => by simp [h], ?_, by simp; omega⟩
      cases m with
      | zero => exact Can.zero (by omega)
      | succ m =>
        refine (Can.minus (y := y) h5).mono fun z hz => ?_
        obtain ⟨g1, g2⟩ := mem_rmK.1 hz
        rcases h4 z g1 with h | h
        · rw [h]; simp
        · rcases List.mem_cons.1 h with h | h
          · exact absurd h g2
          · exact List.mem_cons_of_mem _ h
    · -- another key
      have hik : nxt x r ≤ nxt y r := by
        rw [nxt, nxt, if_neg ekx, if_neg ek] at hi; omega
      have hb : (if k ∈ x :: C then 1 else 0) = (if k ∈ y :: C then 1 else 0) := by
        have : (k ∈ x :: C) ↔ (k ∈ y :: C) := by simp [ek, ekx]
        simp only [this]
      by_cases hyD : y ∈ D
      · by_cases hxD : x ∈ D
        · rcases h4 x hxD with h | h
          · exact absurd h.symm ekx
          · rcases List.mem_cons.1 h with h | h
            · exact absurd h exy
            · exact absurd h hx
        · refine ⟨x :: rmK D y, m, List.nodup_cons.2 ⟨fun h => hxD (mem_rmK.1 h).1, rmK_nodup h1⟩, ?_, List.mem_cons_of_mem _ (mem_rmK.2 ⟨h3, ek⟩), fun z hz => ?_, ?_, by rw [hb]; exact h6⟩
          · have := rmK_len h1 hyD; simp; omega
          · rcases List.mem_cons.1 hz with h | h
            · right; rw [h]; simp
            · obtain ⟨g1, g2⟩ := mem_rmK.1 h
              rcases h4 z g1 with h | h
              · exact .inl h
              · rcases List.mem_cons.1 h with h | h
                · exact absurd h g2
                · exact .inr (List.mem_cons_of_mem _ h)
          · refine Can.swap (y := y) (h5.mono fun z hz => ?_) (rmK_nodup h1) (fun h => hxD (mem_rmK.1 h).1) (fun h => (mem_rmK.1 h).2 rfl) (by have := rmK_len h1 hyD; omega) hik
            by_cases e : z = y
            · rw [e]; simp
            · exact List.mem_cons_of_mem _ (mem_rmK.2 ⟨hz, e⟩)
      · refine ⟨D, m, h1, h2, h3, fun z hz => ?_, h5, by rw [hb]; exact h6⟩
        rcases h4 z hz with h | h
        · exact .inl h
        · rcases List.mem_cons.1 h with h | h
          · rw [h] at hz; exact absurd hz hyD
          · exact .inr (List.mem_cons_of_mem _ h)
/-- Of the keys of a cache the one that comes last, of several the first one. -/
def farK (r : List Int) : List Int → Int → Int
  | [], b => b
  | x :: l, b => farK r l (if nxt b r < nxt x r then x else b)
theorem farK_mem (r : List Int) : ∀ (l : List Int) (b : Int), farK r l b ∈ b :: l
  | [], b => by simp [farK]
  | x :: l, b => by
    have := farK_mem r l (if nxt b r < nxt x r then x else b)
    unfold farK
    rcases List.mem_cons.1 this with h | h
    · rw [h]; split <;> simp
    · simp [h]
theorem farK_max (r : List Int) : ∀ (l : List Int) (b x : Int), x ∈ b :: l → nxt x r ≤ nxt (farK r l b) r
  | [], b, x, h => by simp at h; rw [h]; exact Nat.le_refl _
  | y :: l, b, x, h => by
    unfold farK
    have h1 := farK_max r l (if nxt b r < nxt y r then y else b) (if nxt b r < nxt y r then y else b) (by simp)
    rcases List.mem_cons.1 h with h | h
    · rw [h]; split at h1
      · rw [if_pos (by assumption)]; omega
      · rw [if_neg (by assumption)]; exact h1
    · rcases List.mem_cons.1 h with h | h
      · rw [h]; split at h1
        · rw [if_pos (by assumption)]; exact h1
        · rw [if_neg (by assumption)]; omega
      · exact farK_max r l _ x (List.mem_cons_of_mem _ h)
/-- The key that leaves a cache. -/
def farM (r : List Int) : List Int → Int
  | [] => 0
  | x :: l => farK r l x
theorem farM_mem {r C : List Int} (h : 0 < C.length) : farM r C ∈ C := by
  cases C with
  | nil => simp at h
  | cons x l => exact farK_mem r l x
theorem farM_max {r C : List Int} {x : Int} (h : x ∈ C) : nxt x r ≤ nxt (farM r C) r := by
  cases C with
  | nil => simp at h
  | cons y l => exact farK_max r l y x h
/-- The cache of the best policy after a miss. -/
def missB (room : Nat) (r C : List Int) (k : Int) : List Int := (if C.length = room then rmK C (farM r C) else C) ++ [k]
def bestM (room : Nat) : List Int → List Int → Nat
  | [], _ => 0
  | k :: r, C => if k ∈ C then bestM room r C + 1 else bestM room r (missB room r C k)
theorem missB_ok {room : Nat} {r C : List Int} {k : Int} (hr : 1 ≤ room) (hn : C.Nodup) (hc : C.length ≤ room) (hk : k ∉ C) : (missB room r C k).Nodup ∧ (missB room r C k).length ≤ room ∧ k ∈ missB room r C k ∧ ∀ x ∈ missB room r C k, x = k ∨ x ∈ C := by
  unfold missB
  split
  · rename_i hf
    have hm := farM_mem (r := r) (C := C) (by omega)
    have := rmK_len hn hm
    refine ⟨?_, by simp; omega, by simp, fun x hx => ?_⟩
    · rw [List.nodup_append]
      exact ⟨rmK_nodup hn, by simp, fun a ha b hb e => by simp at hb; subst hb; subst e; exact hk (mem_rmK.1 ha).1⟩
    · rcases List.mem_append.1 hx with h | h
      · exact .inr (mem_rmK.1 h).1
      · exact .inl (List.mem_singleton.1 h)
  · refine ⟨?_, by simp; omega, by simp, fun x hx => ?_⟩
    · rw [List.nodup_append]
      exact ⟨hn, by simp, fun a ha b hb e => by simp at hb; subst hb; subst e; exact hk ha⟩
    · rcases List.mem_append.1 hx with h | h
      · exact .inr h
      · exact .inl (List.mem_singleton.1 h)
theorem best_can {room : Nat} (hr : 1 ≤ room) : ∀ {r C : List Int}, C.Nodup → C.length ≤ room → Can room r C (bestM room r C)
  | [], _, _, _ => rfl
  | k :: r, C, hn, hc => by
    unfold bestM
    by_cases hk : k ∈ C
    · rw [if_pos hk]
      exact ⟨C, bestM room r C, hn, hc, hk, fun x hx => .inr hx, best_can hr hn hc, by rw [if_pos hk]; exact Nat.le_refl _⟩
    · rw [if_neg hk]
      obtain ⟨h1, h2, h3, h4⟩ := missB_ok (r := r) hr hn hc hk
      exact ⟨missB room r C k, _, h1, h2, h3, h4, best_can hr h1 h2, Nat.le_add_right _ _⟩
theorem rmK_lt {D : List Int} {x : Int} (h : x ∈ D) : (rmK D x).length < D.length := by
  refine List.length_filter_lt_length_iff_exists.2 ⟨x, h, by simp⟩
/-- Of two lists of different keys the longer one has one that the other one has not. -/
theorem more_keys {C D : List Int} (hn : C.Nodup) (h : D.length < C.length) : ∃ y ∈ C, y ∉ D := by
  apply Classical.byContradiction
  intro hno
  have hs : ∀ y ∈ C, y ∈ D := fun y hy => Classical.byContradiction fun c => hno ⟨y, hy, c⟩
  have := nodup_le hn hs
  omega
theorem best_opt {room : Nat} (hr : 1 ≤ room) : ∀ {r C : List Int} {n : Nat}, Can room r C n → C.Nodup → C.length ≤ room → n ≤ bestM room r C
  | [], _, _, h, _, _ => by simp only [Can] at h; omega
  | k :: r, C, n, ⟨D, m, h1, h2, h3, h4, h5, h6⟩, hn, hc => by
    unfold bestM
    by_cases hk : k ∈ C
    · rw [if_pos hk] at h6 ⊢
      have := best_opt hr (h5.mono (D := C) fun x hx => (h4 x hx).elim (fun e => e ▸ hk) id) hn hc
      omega
    · rw [if_neg hk] at h6 ⊢
      obtain ⟨g1, g2, g3, g4⟩ := missB_ok (r := r) hr hn hc hk
      refine Nat.le_trans h6 (best_opt hr ?_ g1 g2)
      unfold missB at *
      by_cases hf : C.length = room
      · rw [if_pos hf] at *
        have hm := farM_mem (r := r) (C := C) (by omega)
        -- a key has left
        obtain ⟨y, y1, y2⟩ := more_keys (C := C) (D := rmK D k) hn (by have := rmK_len h1 h3; omega)
        have y3 : y ≠ k := fun e => hk (e ▸ y1)
        have y4 : y ∉ D := fun h => y2 (mem_rmK.2 ⟨h, y3⟩)
        by_cases hy : y = farM r C
        · refine h5.mono fun x hx => ?_
          rcases h4 x hx with h | h
          · rw [h]; simp
          · exact List.mem_append_left _ (mem_rmK.2 ⟨h, fun e => y4 (by rw [hy, ← e]; exact hx)⟩)
        · have hfk : farM r C ≠ k := fun e => hk (e ▸ hm)
          have hn2 : (k :: rmK (rmK C y) (farM r C)).Nodup := List.nodup_cons.2 ⟨fun h => hk (mem_rmK.1 (mem_rmK.1 h).1).1, rmK_nodup (rmK_nodup hn)⟩
          have l1 := rmK_len hn y1
          have l2 := rmK_len (rmK_nodup (key := y) hn) (mem_rmK.2 ⟨hm, Ne.symm hy⟩)
          have h7 : Can room r (farM r C :: k :: rmK (rmK C y) (farM r C)) m := h5.mono fun x hx => by
            rcases h4 x hx with h | h
            · rw [h]; simp
            · by_cases e : x = farM r C
              · rw [e]; simp
              · exact List.mem_cons_of_mem _ (List.mem_cons_of_mem _ (mem_rmK.2 ⟨mem_rmK.2 ⟨h, fun e2 => y4 (e2 ▸ hx)⟩, e⟩))
          have h8 := Can.swap (x := y) h7 hn2 (fun h => by
            rcases List.mem_cons.1 h with h | h
            · exact y3 h
            · exact (mem_rmK.1 (mem_rmK.1 h).1).2 rfl) (fun h => by
            rcases List.mem_cons.1 h with h | h
            · exact hfk h
            · exact (mem_rmK.1 h).2 rfl) (by simp; omega) (farM_max y1)
          refine h8.mono fun x hx => ?_
          rcases List.mem_cons.1 hx with h | h
          · rw [h]; exact List.mem_append_left _ (mem_rmK.2 ⟨y1, hy⟩)
          · rcases List.mem_cons.1 h with h | h
            · rw [h]; simp
            · obtain ⟨a1, a2⟩ := mem_rmK.1 h
              exact List.mem_append_left _ (mem_rmK.2 ⟨(mem_rmK.1 a1).1, a2⟩)
      · rw [if_neg hf] at *
        refine h5.mono fun x hx => ?_
        rcases h4 x hx with h | h
        · rw [h]; simp
        · exact List.mem_append_left _ h
/-! ## The best policy does not know the direction -/
/-- A key and what is kept beside it. -/
def Link (p q : Int × List Int) : Prop := (∀ x ∈ q.2, x = p.1 ∨ x ∈ p.2) ∧ ∀ x ∈ p.2, x = q.1 ∨ x ∈ q.2
def GoodK (room : Nat) (p : Int × List Int) : Prop := p.1 ∉ p.2 ∧ p.2.Nodup ∧ p.2.length + 1 ≤ room
def Path (room : Nat) : Int × List Int → List Int → Nat → Prop
  | p, [], n => p.2 = [] ∧ n = 0
  | p, b :: r, n => ∃ K m, GoodK room (b, K) ∧ Link p (b, K) ∧ Path room (b, K) r m ∧ n = m + (if b = p.1 ∨ b ∈ p.2 then 1 else 0)
theorem can_path {room : Nat} : ∀ {r C : List Int} {n : Nat} {a : Int}, Can room r C n → C.Nodup → C.length ≤ room → a ∈ C → ∃ K m, GoodK room (a, K) ∧ (∀ x ∈ K, x ∈ C) ∧ Path room (a, K) r m ∧ n ≤ m
  | [], C, n, a, h, hn, hc, ha => by
    have := List.length_pos_of_mem ha
    simp only [Can] at h
    exact ⟨[], 0, ⟨by simp, by simp, by simp; omega⟩, by simp, ⟨rfl, rfl⟩, by omega⟩
  | b :: r, C, n, a, ⟨D, m, h1, h2, h3, h4, h5, h6⟩, hn, hc, ha => by
    obtain ⟨K', m', ⟨g1, g2, g3⟩, g4, g5, g6⟩ := can_path h5 h1 h2 h3
    simp only at g1 g2 g3
    by_cases hb : b ∈ C ∧ b ≠ a
    · refine ⟨b :: rmK K' a, m' + 1, ⟨?_, ?_, ?_⟩, ?_, ⟨K', m', ⟨g1, g2, g3⟩, ⟨?_, ?_⟩, g5, by simp⟩, by split at h6 <;> omega⟩
      · show a ∉ _
        intro h
        rcases List.mem_cons.1 h with h | h
        · exact hb.2 h.symm
        · exact (mem_rmK.1 h).2 rfl
      · exact List.nodup_cons.2 ⟨fun h => g1 (mem_rmK.1 h).1, rmK_nodup g2⟩
      · show (b :: rmK K' a).length + 1 ≤ room
        have h7 : (a :: b :: rmK K' a).length ≤ C.length := nodup_le (List.nodup_cons.2 ⟨fun h => by
          rcases List.mem_cons.1 h with h | h
          · exact hb.2 h.symm
          · exact (mem_rmK.1 h).2 rfl, List.nodup_cons.2 ⟨fun h => g1 (mem_rmK.1 h).1, rmK_nodup g2⟩⟩) fun x hx => by
            rcases List.mem_cons.1 hx with h | h
            · rw [h]; exact ha
            · rcases List.mem_cons.1 h with h | h
              · rw [h]; exact hb.1
              · obtain ⟨e1, e2⟩ := mem_rmK.1 h
                rcases h4 x (g4 x e1) with h | h
                · rw [h]; exact hb.1
                · exact h
        simp only [List.length_cons] at h7 ⊢
        omega
      · intro x hx
        rcases List.mem_cons.1 hx with h | h
        · rw [h]; exact hb.1
        · obtain ⟨e1, e2⟩ := mem_rmK.1 h
          rcases h4 x (g4 x e1) with h | h
          · rw [h]; exact hb.1
          · exact h
      · intro x hx
        by_cases e : x = a
        · exact .inl e
        · exact .inr (List.mem_cons_of_mem _ (mem_rmK.2 ⟨hx, e⟩))
      · intro x hx
        rcases List.mem_cons.1 hx with h | h
        · exact .inl h
        · exact .inr (mem_rmK.1 h).1
    · -- it is not kept
      have hsub : ∀ x ∈ rmK K' a, x ∈ C ∧ x ≠ a := fun x hx => by
        obtain ⟨e1, e2⟩ := mem_rmK.1 hx
        rcases h4 x (g4 x e1) with h | h
        · exact absurd (h ▸ e1) g1
        · exact ⟨h, e2⟩
      refine ⟨rmK K' a, m' + (if b ∈ C then 1 else 0), ⟨fun h => (mem_rmK.1 h).2 rfl, rmK_nodup g2, ?_⟩, fun x hx => (hsub x hx).1, ⟨K', m', ⟨g1, g2, g3⟩, ⟨?_, ?_⟩, g5, ?_⟩, by omega⟩
      · show (rmK K' a).length + 1 ≤ room
        have h7 : (a :: rmK K' a).length ≤ C.length := nodup_le (List.nodup_cons.2 ⟨fun h => (mem_rmK.1 h).2 rfl, rmK_nodup g2⟩) fun x hx => by
          rcases List.mem_cons.1 hx with h | h
          · rw [h]; exact ha
          · exact (hsub x h).1
        simp only [List.length_cons] at h7
        omega
      · intro x hx
        by_cases e : x = a
        · exact .inl e
        · exact .inr (mem_rmK.2 ⟨hx, e⟩)
      · intro x hx
        exact .inr (mem_rmK.1 hx).1
      · have : (b ∈ C) ↔ (b = a ∨ b ∈ rmK K' a) := by
          constructor
          · intro h
            exact .inl (Classical.byContradiction fun c => hb ⟨h, c⟩)
          · intro h
            rcases h with h | h
            · rw [h]; exact ha
            · exact (hsub b h).1
        simp only [this]
theorem path_can {room : Nat} : ∀ {r C K : List Int} {n : Nat} {a : Int}, Path room (a, K) r n → a ∈ C → (∀ x ∈ K, x ∈ C) → Can room r C n
  | [], _, _, _, _, h, _, _ => h.2
  | b :: r, C, K, n, a, ⟨K', m, ⟨g1, g2, g3⟩, ⟨l1, l2⟩, h5, h6⟩, ha, hs => by
    simp only at g1 g2 g3 l1 l2 h6
    refine ⟨b :: K', m, List.nodup_cons.2 ⟨g1, g2⟩, g3, by simp, fun x hx => ?_, path_can h5 (by simp) (fun x hx => List.mem_cons_of_mem _ hx), ?_⟩
    · rcases List.mem_cons.1 hx with h | h
      · exact .inl h
      · rcases l1 x h with h | h
        · rw [h]; exact .inr ha
        · exact .inr (hs x h)
    · rw [h6]
      by_cases hb : b = a ∨ b ∈ K
      · have : b ∈ C := by
          rcases hb with h | h
          · rw [h]; exact ha
          · exact hs b h
        rw [if_pos hb, if_pos this]; exact Nat.le_refl _
      · rw [if_neg hb]; exact Nat.le_add_right _ _
theorem len_rmK' {K : List Int} {b : Int} (hn : K.Nodup) : (rmK K b).length + (if b ∈ K then 1 else 0) = K.length := by
  split
  · rename_i h; exact rmK_len hn h
  · rename_i h; rw [rmK_not h]; rfl
/-- What a step hits forwards and backwards. -/
theorem link_count {room : Nat} {a b : Int} {K K' : List Int} (h1 : GoodK room (a, K)) (h2 : GoodK room (b, K')) (h : Link (a, K) (b, K')) :
    (if b = a ∨ b ∈ K then 1 else 0) + K'.length = (if a = b ∨ a ∈ K' then 1 else 0) + K.length := by
  obtain ⟨p1, p2, _⟩ := h1
  obtain ⟨q1, q2, _⟩ := h2
  obtain ⟨l1, l2⟩ := h
  simp only at p1 p2 q1 q2 l1 l2
  have e1 : (rmK K b).length ≤ (rmK K' a).length := nodup_le (rmK_nodup p2) fun x hx => by
    obtain ⟨x1, x2⟩ := mem_rmK.1 hx
    exact mem_rmK.2 ⟨(l2 x x1).resolve_left x2, fun e => p1 (e ▸ x1)⟩
  have e2 : (rmK K' a).length ≤ (rmK K b).length := nodup_le (rmK_nodup q2) fun x hx => by
    obtain ⟨x1, x2⟩ := mem_rmK.1 hx
    exact mem_rmK.2 ⟨(l1 x x1).resolve_left x2, fun e => q1 (e ▸ x1)⟩
  have e3 := len_rmK' (b := b) p2
  have e4 := len_rmK' (b := a) q2
  by_cases e : b = a
  · subst e
    rw [if_neg p1] at e3
    rw [if_neg q1] at e4
    simp only [true_or, if_true]; omega
  · simp only [e, Ne.symm e, false_or]; omega
theorem path_back {room : Nat} : ∀ {r l : List Int} {p : Int × List Int} {n m : Nat}, GoodK room p → Path room p r n → Path room p l m →
    ∃ z l' n', r.reverse ++ p.1 :: l = z :: l' ∧ Path room (z, []) l' n' ∧ n' + p.2.length = n + m
  | [], l, p, n, m, hg, h, hb => by
    obtain ⟨h1, h2⟩ := h
    refine ⟨p.1, l, m, rfl, ?_, by rw [h1, h2]; simp⟩
    have : p = (p.1, []) := by cases p; simp only at h1; rw [h1]
    rw [← this]; exact hb
  | b :: r, l, p, n, m, hg, ⟨K', n1, h1, h2, h3, h4⟩, hb => by
    have hb2 : Path room (b, K') (p.1 :: l) (m + (if p.1 = b ∨ p.1 ∈ K' then 1 else 0)) := ⟨p.2, m, hg, ⟨h2.2, h2.1⟩, hb, rfl⟩
    obtain ⟨z, l', n', e1, e2, e3⟩ := path_back h1 h3 hb2
    refine ⟨z, l', n', ?_, e2, ?_⟩
    · rw [← e1]; simp
    · have := link_count (a := p.1) (K := p.2) hg h1 h2
      simp only at e3
      omega
theorem best_back_le {room : Nat} (hr : 1 ≤ room) (t : List Int) : bestM room t [] ≤ bestM room t.reverse [] := by
  cases t with
  | nil => exact Nat.le_refl _
  | cons a r =>
    obtain ⟨D, m, h1, h2, h3, h4, h5, h6⟩ := best_can hr (r := a :: r) (C := []) (by simp) (by simp)
    rw [if_neg (by simp)] at h6
    obtain ⟨K, m', g1, g2, g3, g4⟩ := can_path h5 h1 h2 h3
    have hK : K = [] := by
      cases K with
      | nil => rfl
      | cons x K =>
        rcases h4 x (g2 x (by simp)) with h | h
        · exact absurd (by simp [h]) g1.1
        · simp at h
    subst hK
    obtain ⟨z, l', n', e1, e2, e3⟩ := path_back (l := []) (m := 0) g1 g3 ⟨rfl, rfl⟩
    have e4 : (a :: r).reverse = z :: l' := by rw [List.reverse_cons]; exact e1
    rw [e4]
    simp only [List.length_nil] at e3
    refine Nat.le_trans ?_ (best_opt hr (r := z :: l') (C := []) (n := n') ⟨[z], n', by simp, by simpa using hr, by simp, fun x hx => .inl (List.mem_singleton.1 hx), path_can e2 (by simp) (by simp), by omega⟩ (by simp) (by simp))
    omega
theorem best_back {room : Nat} (hr : 1 ≤ room) (t : List Int) : bestM room t.reverse [] = bestM room t [] := by
  refine Nat.le_antisymm ?_ (best_back_le hr t)
  have := best_back_le hr t.reverse
  rwa [List.reverse_reverse] at this

/-! ## How many keys are new -/
theorem mem_usedR : ∀ {t D : List Int} {x : Int}, x ∈ usedR D t ↔ x ∈ D ∨ x ∈ t
  | [], D, x => by simp [usedR]
  | y :: t, D, x => by
    rw [usedR, mem_usedR (t := t), List.mem_cons, List.mem_cons, mem_rmK]
    by_cases e : x = y
    · simp [e]
    · simp [e]
theorem usedR_nodup : ∀ {t D : List Int}, D.Nodup → (usedR D t).Nodup
  | [], _, h => h
  | y :: t, D, h => usedR_nodup (t := t) (List.nodup_cons.2 ⟨fun h => (mem_rmK.1 h).2 rfl, rmK_nodup h⟩)
/-- How many different keys a trace has. -/
def nk (t : List Int) : Nat := (usedR [] t).length
theorem nk_of {t E : List Int} (hn : E.Nodup) (h : ∀ x, x ∈ E ↔ x ∈ t) : E.length = nk t := by
  refine Nat.le_antisymm (nodup_le hn fun x hx => mem_usedR.2 (.inr ((h x).1 hx))) (nodup_le (usedR_nodup (by simp)) fun x hx => (h x).2 ?_)
  exact (mem_usedR.1 hx).resolve_left (by simp)
theorem nk_nil : nk [] = 0 := rfl
theorem nk_snoc {t : List Int} {x : Int} : nk (t ++ [x]) = if x ∈ t then nk t else nk t + 1 := by
  unfold nk
  rw [usedR_append, List.length_cons]
  by_cases h : x ∈ t
  · rw [if_pos h]; exact rmK_len (usedR_nodup (by simp)) (mem_usedR.2 (.inr h))
  · rw [if_neg h, rmK_not (fun c => h ((mem_usedR.1 c).resolve_left (by simp)))]
theorem nk_sub {a b : List Int} (h : ∀ x ∈ a, x ∈ b) : nk a ≤ nk b :=
  nodup_le (usedR_nodup (by simp)) fun x hx => mem_usedR.2 (.inr (h x ((mem_usedR.1 hx).resolve_left (by simp))))
theorem nk_le (t : List Int) : nk t ≤ t.length :=
  nodup_le (usedR_nodup (by simp)) fun x hx => (mem_usedR.1 hx).resolve_left (by simp)
theorem nk_append (a b : List Int) : nk (a ++ b) ≤ nk a + nk b := by
  have : (usedR [] (a ++ b)).length ≤ (usedR [] a ++ usedR [] b).length := nodup_le (usedR_nodup (by simp)) fun x hx => by
    have := (mem_usedR.1 hx).resolve_left (by simp)
    rcases List.mem_append.1 this with h | h
    · exact List.mem_append_left _ (mem_usedR.2 (.inr h))
    · exact List.mem_append_right _ (mem_usedR.2 (.inr h))
  rw [List.length_append] at this; exact this
theorem nk_rev (t : List Int) : nk t.reverse = nk t :=
  nk_of (E := usedR [] t.reverse) (usedR_nodup (by simp)) (fun x => by rw [mem_usedR]; simp)
theorem len_add {D : List Int} (hn : D.Nodup) (k : Int) : (k :: rmK D k).length = D.length + if k ∈ D then 0 else 1 := by
  rw [List.length_cons]
  split
  · rename_i h; exact rmK_len hn h
  · rename_i h; rw [rmK_not h]
/-- New keys are never there. -/
theorem can_new {room : Nat} : ∀ {r C D : List Int} {n : Nat}, Can room r C n → (∀ x ∈ C, x ∈ D) → D.Nodup → n + (usedR D r).length ≤ r.length + D.length
  | [], C, D, n, h, _, _ => by simp only [Can] at h; subst h; simp [usedR]
  | k :: r, C, D, n, ⟨E, m, h1, h2, h3, h4, h5, h6⟩, hs, hn => by
    have h7 := can_new (D := k :: rmK D k) h5 (fun x hx => by
      by_cases e : x = k
      · rw [e]; simp
      · exact List.mem_cons_of_mem _ (mem_rmK.2 ⟨hs x ((h4 x hx).resolve_left e), e⟩)) (List.nodup_cons.2 ⟨fun h => (mem_rmK.1 h).2 rfl, rmK_nodup hn⟩)
    rw [len_add hn] at h7
    rw [usedR, List.length_cons]
    by_cases hk : k ∈ C
    · rw [if_pos hk] at h6; rw [if_pos (hs k hk)] at h7; omega
    · rw [if_neg hk] at h6
      split at h7 <;> omega
theorem can_room {room : Nat} : ∀ {r C : List Int} {n : Nat}, Can room r C n → Can (room + 1) r C n
  | [], _, _, h => h
  | k :: r, C, n, ⟨D, m, h1, h2, h3, h4, h5, h6⟩ => ⟨D, m, h1, by omega, h3, h4, can_room h5, h6⟩
theorem can_snoc {room : Nat} {x : Int} : ∀ {r C : List Int} {n : Nat}, Can room (r ++ [x]) C n → Can room r C (n - 1)
  | [], C, n, ⟨D, m, h1, h2, h3, h4, h5, h6⟩ => by
    simp only [Can] at h5 ⊢; split at h6 <;> omega
  | k :: r, C, n, ⟨D, m, h1, h2, h3, h4, h5, h6⟩ => ⟨D, m - 1, h1, h2, h3, h4, can_snoc h5, by by_cases hk : k ∈ C <;> simp only [hk, if_true, if_false] at h6 ⊢ <;> omega⟩
theorem can_longer {room : Nat} (hr : 1 ≤ room) {x : Int} : ∀ {r C : List Int} {n : Nat}, Can room r C n → Can room (r ++ [x]) C n
  | [], C, n, h => by simp only [Can] at h; subst h; exact Can.zero hr
  | k :: r, C, n, ⟨D, m, h1, h2, h3, h4, h5, h6⟩ => ⟨D, m, h1, h2, h3, h4, can_longer hr h5, h6⟩
theorem bestM_room {room : Nat} (hr : 1 ≤ room) (t : List Int) : bestM room t [] ≤ bestM (room + 1) t [] :=
  best_opt (by omega) (can_room (best_can hr (by simp) (by simp))) (by simp) (by simp)
theorem bestM_snoc {room : Nat} (hr : 1 ≤ room) (t : List Int) (x : Int) : bestM room t [] ≤ bestM room (t ++ [x]) [] ∧ bestM room (t ++ [x]) [] ≤ bestM room t [] + 1 := by
  refine ⟨best_opt hr (can_longer hr (best_can hr (by simp) (by simp))) (by simp) (by simp), ?_⟩
  have := best_opt hr (can_snoc (best_can hr (r := t ++ [x]) (C := []) (by simp) (by simp))) (by simp) (by simp)
  omega
theorem bestM_new {room : Nat} (hr : 1 ≤ room) (t : List Int) : bestM room t [] + nk t ≤ t.length := by
  have := can_new (D := []) (best_can hr (r := t) (C := []) (by simp) (by simp)) (by simp) (by simp)
  simpa [nk] using this
/-! ## What caches have in common -/
/-- What a policy does to the keys of its cache: never more than `cap`, and while fewer than `free` are there, none leaves. -/
def Runs (cap free : Nat) : List Int → List Int → List Int → Nat → Prop
  | [], C, E, n => E = C ∧ n = 0
  | k :: r, C, E, n => ∃ D m, D.Nodup ∧ D.length ≤ cap ∧ k ∈ D ∧ (∀ x ∈ D, x = k ∨ x ∈ C) ∧ ((k ∈ C ∨ C.length < free) → ∀ x ∈ C, x ∈ D) ∧ (k ∉ C → free ≤ C.length → free ≤ D.length) ∧
      Runs cap free r D E m ∧ n = m + (if k ∈ C then 1 else 0)
theorem Runs.can {cap free : Nat} : ∀ {r C E : List Int} {n : Nat}, Runs cap free r C E n → Can cap r C n
  | [], _, _, _, h => h.2
  | k :: r, C, E, n, ⟨D, m, h1, h2, h3, h4, _, _, h7, h8⟩ => ⟨D, m, h1, h2, h3, h4, h7.can, by omega⟩
theorem Runs.best {cap free : Nat} {t E : List Int} {n : Nat} (hr : 1 ≤ cap) (h : Runs cap free t [] E n) : n ≤ bestM cap t [] := best_opt hr h.can (by simp) (by simp)
theorem Runs.new {cap free : Nat} {t E : List Int} {n : Nat} (h : Runs cap free t [] E n) : n + nk t ≤ t.length := by
  have := can_new (D := []) h.can (by simp) (by simp)
  simpa [nk] using this
theorem Runs.nodup {cap free : Nat} : ∀ {r C E : List Int} {n : Nat}, Runs cap free r C E n → C.Nodup → C.length ≤ cap → E.Nodup ∧ E.length ≤ cap
  | [], _, _, _, h, h1, h2 => by rw [h.1]; exact ⟨h1, h2⟩
  | k :: r, C, E, n, ⟨D, m, h1, h2, h3, h4, _, _, h7, h8⟩, _, _ => h7.nodup h1 h2
theorem Runs.sub {cap free : Nat} : ∀ {r C E : List Int} {n : Nat}, Runs cap free r C E n → ∀ x ∈ E, x ∈ C ∨ x ∈ r
  | [], _, _, _, h => fun x hx => .inl (h.1 ▸ hx)
  | k :: r, C, E, n, ⟨D, m, h1, h2, h3, h4, _, _, h7, h8⟩ => fun x hx => by
    rcases h7.sub x hx with h | h
    · rcases h4 x h with h | h
      · right; rw [h]; simp
      · exact .inl h
    · exact .inr (List.mem_cons_of_mem _ h)
/-- All keys fit: none leaves. -/
theorem Runs.fit {cap free : Nat} : ∀ {r C D E : List Int} {n : Nat}, Runs cap free r C E n → C.Nodup → D.Nodup → (∀ x, x ∈ C ↔ x ∈ D) → (usedR D r).length ≤ free →
    n + (usedR D r).length = r.length + D.length ∧ ∀ x, x ∈ E ↔ x ∈ usedR D r
  | [], C, D, E, n, h, _, _, hs, _ => by rw [h.1, h.2]; exact ⟨by simp [usedR], hs⟩
  | k :: r, C, D, E, n, ⟨C', m, h1, h2, h3, h4, h5, h6, h7, h8⟩, hc, hn, hs, hl => by
    have hn2 : (k :: rmK D k).Nodup := List.nodup_cons.2 ⟨fun h => (mem_rmK.1 h).2 rfl, rmK_nodup hn⟩
    have hCD : C.length = D.length := Nat.le_antisymm (nodup_le hc fun x hx => (hs x).1 hx) (nodup_le hn fun x hx => (hs x).2 hx)
    rw [usedR] at hl ⊢
    have hmono : (k :: rmK D k).length ≤ (usedR (k :: rmK D k) r).length := nodup_le hn2 fun x hx => mem_usedR.2 (.inl hx)
    have hadd := len_add hn k
    have hkeep : ∀ x ∈ C, x ∈ C' := h5 (by
      by_cases hk : k ∈ C
      · exact .inl hk
      · right
        rw [if_neg (fun h => hk ((hs k).2 h))] at hadd
        omega)
    have hs2 : ∀ x, x ∈ C' ↔ x ∈ k :: rmK D k := fun x => by
      constructor
      · intro hx
        by_cases e : x = k
        · rw [e]; simp
        · exact List.mem_cons_of_mem _ (mem_rmK.2 ⟨(hs x).1 ((h4 x hx).resolve_left e), e⟩)
      · intro hx
        rcases List.mem_cons.1 hx with h | h
        · rw [h]; exact h3
        · exact hkeep x ((hs x).2 (mem_rmK.1 h).1)
    obtain ⟨g1, g2⟩ := h7.fit h1 hn2 hs2 hl
    refine ⟨?_, g2⟩
    rw [hadd] at g1
    rw [h8, List.length_cons]
    by_cases hk : k ∈ C
    · rw [if_pos hk]; rw [if_pos ((hs k).1 hk)] at g1; omega
    · rw [if_neg hk]; rw [if_neg (fun h => hk ((hs k).2 h))] at g1; omega
/-- A cache is full, or has all keys. -/
theorem Runs.full {cap free : Nat} : ∀ {r C D E : List Int} {n : Nat}, Runs cap free r C E n → C.Nodup → D.Nodup → (free ≤ C.length ∨ ∀ x, x ∈ C ↔ x ∈ D) → free ≤ E.length ∨ ∀ x, x ∈ E ↔ x ∈ usedR D r
  | [], C, D, E, n, h, _, _, hs => by rw [h.1]; exact hs
  | k :: r, C, D, E, n, ⟨C', m, h1, h2, h3, h4, h5, h6, h7, h8⟩, hc, hn, hs => by
    have hn2 : (k :: rmK D k).Nodup := List.nodup_cons.2 ⟨fun h => (mem_rmK.1 h).2 rfl, rmK_nodup hn⟩
    refine h7.full h1 hn2 ?_
    by_cases hf : free ≤ C.length
    · left
      by_cases hk : k ∈ C
      · exact Nat.le_trans hf (nodup_le hc (h5 (.inl hk)))
      · exact h6 hk hf
    · right
      have hs := hs.resolve_left hf
      have hkeep : ∀ x ∈ C, x ∈ C' := h5 (.inr (by omega))
      intro x
      constructor
      · intro hx
        by_cases e : x = k
        · rw [e]; simp
        · exact List.mem_cons_of_mem _ (mem_rmK.2 ⟨(hs x).1 ((h4 x hx).resolve_left e), e⟩)
      · intro hx
        rcases List.mem_cons.1 hx with h | h
        · rw [h]; exact h3
        · exact hkeep x ((hs x).2 (mem_rmK.1 h).1)
theorem Runs.len {room : Nat} {t E : List Int} {n : Nat} (h : Runs room room t [] E n) : E.length = min room (nk t) ∧ (nk t ≤ room → n + nk t = t.length) := by
  obtain ⟨h1, h2⟩ := h.nodup (by simp) (by simp)
  have h3 : E.length ≤ nk t := nodup_le h1 fun x hx => mem_usedR.2 (.inr ((h.sub x hx).resolve_left (by simp)))
  refine ⟨?_, fun hl => ?_⟩
  · rcases h.full (D := []) (by simp) (by simp) (.inr fun x => Iff.rfl) with g | g
    · have := Nat.min_le_left room (nk t); omega
    · have : nk t ≤ E.length := nodup_le (usedR_nodup (by simp)) fun x hx => (g x).2 hx
      omega
  · have := (h.fit (D := []) (by simp) (by simp) (fun x => Iff.rfl) hl).1
    simpa [nk] using this

/-! ## The policies are policies -/
theorem outN_all {a l : List Int} (h : outN a l = 0) : ∀ x ∈ l, x ∈ a := by
  unfold outN at h
  rw [List.length_eq_zero_iff, List.filter_eq_nil_iff] at h
  intro x hx
  have := h x hx
  simpa using this
theorem outN_in {a : List Int} : ∀ (l : List Int), outN a l + (l.filter (fun x => decide (x ∈ a))).length = l.length
  | [] => rfl
  | x :: l => by
    have := outN_in (a := a) l
    rw [outN_cons, List.length_cons]
    by_cases h : x ∈ a
    · rw [if_pos h, List.filter_cons_of_pos (by simp [h]), List.length_cons]; omega
    · rw [if_neg h, List.filter_cons_of_neg (by simp [h])]; omega
theorem keep_full {C D : List Int} {k : Int} (hn : C.Nodup) (hk : k ∉ C) (hd : k ∈ D) (h : outN D C ≤ 1) : C.length ≤ D.length := by
  have h1 := outN_in (a := D) C
  have h2 : (k :: C.filter (fun x => decide (x ∈ D))).length ≤ D.length := nodup_le (List.nodup_cons.2 ⟨fun c => hk (List.mem_filter.1 c).1, List.Pairwise.filter _ hn⟩) fun x hx => by
    rcases List.mem_cons.1 hx with h | h
    · rw [h]; exact hd
    · simpa using (List.mem_filter.1 h).2
  rw [List.length_cons] at h2
  omega
theorem toI_if (p : Prop) [Decidable p] (m : Nat) (n : Int) : n + toI (decide p) + (m : Int) = n + ((m + (if p then 1 else 0) : Nat) : Int) := by
  by_cases h : p
  · simp [h, toI]; omega
  · simp [h, toI]
/-- What a step of a policy keeps. -/
def StepK (cap free : Nat) (C D : List Int) (k : Int) : Prop :=
  D.Nodup ∧ D.length ≤ cap ∧ k ∈ D ∧ (∀ x ∈ D, x = k ∨ x ∈ C) ∧ ((k ∈ C ∨ C.length < free) → ∀ x ∈ C, x ∈ D) ∧ (k ∉ C → free ≤ C.length → free ≤ D.length)
theorem Runs.step {cap free : Nat} {k : Int} {r C D E : List Int} {m : Nat} (h : StepK cap free C D k) (g : Runs cap free r D E m) : Runs cap free (k :: r) C E (m + if k ∈ C then 1 else 0) :=
  ⟨D, m, h.1, h.2.1, h.2.2.1, h.2.2.2.1, h.2.2.2.2.1, h.2.2.2.2.2, g, rfl⟩
theorem recM_step {l : List Int} {room key : Int} (v : VKeys l room) (hk : 0 ≤ key ∧ key ≤ 31) : StepK room.toNat room.toNat l (recM l room key) key := by
  have hv := recM_valid v hk
  obtain ⟨v1, v2, v3, v4, v5⟩ := v
  refine ⟨hv.2.2.2.2, by have := hv.2.2.1; omega, ?_, fun x hx => ?_, fun h x hx => ?_, fun h1 h2 => ?_⟩
  · rw [recM_head (by omega)]; exact List.mem_cons_self
  · rcases List.mem_cons.1 (List.mem_of_mem_take hx) with h | h
    · exact .inl h
    · exact .inr (mem_rmK.1 h).1
  · by_cases hm : key ∈ l
    · rw [recM_hit v5 v3 hm]
      by_cases e : x = key
      · rw [e]; exact List.mem_cons_self
      · exact List.mem_cons_of_mem _ (mem_rmK.2 ⟨hx, e⟩)
    · rw [recM_miss hm, List.take_of_length_le (by simp; have := h.resolve_left hm; omega)]
      exact List.mem_cons_of_mem _ hx
  · rw [recM_miss h1, List.length_take, List.length_cons]; omega
theorem runR_runs {room : Int} : ∀ (t l : List Int) (n : Int), VKeys l room → (∀ x ∈ t, 0 ≤ x ∧ x ≤ 31) → ∃ m : Nat, Runs room.toNat room.toNat t l (runR room t l n).1 m ∧ (runR room t l n).2 = n + m
  | [], l, n, _, _ => ⟨0, ⟨rfl, rfl⟩, by simp [runR]⟩
  | k :: t, l, n, v, ht => by
    have hk := ht k List.mem_cons_self
    obtain ⟨m, h1, h2⟩ := runR_runs t (recM l room k) (n + toI (decide (k ∈ l))) (recM_valid v hk) fun x hx => ht x (List.mem_cons_of_mem _ hx)
    exact ⟨_, h1.step (recM_step v hk), by rw [runR, h2, toI_if]⟩
theorem firM_step {l : List Int} {room key : Int} (v : VKeys l room) (hk : 0 ≤ key ∧ key ≤ 31) : StepK room.toNat room.toNat l (firM l room key) key := by
  have hv := firM_valid v hk
  obtain ⟨v1, v2, v3, v4, v5⟩ := v
  refine ⟨hv.2.2.2.2, by have := hv.2.2.1; omega, firM_mem v1, fun x hx => ?_, fun h x hx => ?_, fun h1 h2 => ?_⟩
  · by_cases hm : key ∈ l
    · rw [firM_hit hm] at hx; exact .inr hx
    · rw [firM_miss hm v1] at hx
      rcases List.mem_append.1 hx with h | h
      · exact .inr (List.mem_of_mem_drop h)
      · exact .inl (List.mem_singleton.1 h)
  · by_cases hm : key ∈ l
    · rw [firM_hit hm]; exact hx
    · have := h.resolve_left hm
      rw [firM_miss hm v1, show l.length + 1 - room.toNat = 0 by omega]
      exact List.mem_append_left _ hx
  · rw [firM_miss h1 v1]; simp; omega
theorem runF_runs {room : Int} : ∀ (t l : List Int) (n : Int), VKeys l room → (∀ x ∈ t, 0 ≤ x ∧ x ≤ 31) → ∃ m : Nat, Runs room.toNat room.toNat t l (runF room t l n).1 m ∧ (runF room t l n).2 = n + m
  | [], l, n, _, _ => ⟨0, ⟨rfl, rfl⟩, by simp [runF]⟩
  | k :: t, l, n, v, ht => by
    have hk := ht k List.mem_cons_self
    obtain ⟨m, h1, h2⟩ := runF_runs t (firM l room k) (n + toI (decide (k ∈ l))) (firM_valid v hk) fun x hx => ht x (List.mem_cons_of_mem _ hx)
    exact ⟨_, h1.step (firM_step v hk), by rw [runF, h2, toI_if]⟩
theorem tick_step {room : Int} {keys : List Int} {used : List Bool} {hand key : Int} (v : VClock room keys used hand) (hk : 0 ≤ key ∧ key ≤ 31) : StepK room.toNat room.toNat keys (tickM room keys used hand key).1 key := by
  have hv := tick_valid v hk
  have hi := tick_in (key := key) v
  obtain ⟨⟨v1, v2, v3, v4, v5⟩, v6, v7, v8⟩ := v
  refine ⟨hv.1.2.2.2.2, by have := hv.1.2.2.1; omega, hi, fun x hx => ?_, fun h x hx => ?_, fun h1 h2 => ?_⟩
  · unfold tickM at hx
    split at hx
    · exact .inr hx
    · split at hx
      · rcases List.mem_append.1 hx with h | h
        · exact .inr h
        · exact .inl (List.mem_singleton.1 h)
      · exact mem_set hx
  · unfold tickM
    split
    · exact hx
    · rename_i hm
      rw [if_pos (by have := h.resolve_left hm; omega)]
      exact List.mem_append_left _ hx
  · unfold tickM
    rw [if_neg h1]
    split
    · simp; omega
    · simpa using h2
theorem runC_runs {room : Int} : ∀ (t ks : List Int) (us : List Bool) (h n : Int), VClock room ks us h → (∀ x ∈ t, 0 ≤ x ∧ x ≤ 31) → ∃ m : Nat, Runs room.toNat room.toNat t ks (runC room t ks us h n).1 m ∧ (runC room t ks us h n).2.2.2 = n + m
  | [], ks, us, h, n, _, _ => ⟨0, ⟨rfl, rfl⟩, by simp [runC]⟩
  | k :: t, ks, us, h, n, v, ht => by
    have hk := ht k List.mem_cons_self
    obtain ⟨m, h1, h2⟩ := runC_runs t _ _ _ (n + toI (tickM room ks us h k).2.2.2) (tick_valid v hk) fun x hx => ht x (List.mem_cons_of_mem _ hx)
    exact ⟨_, h1.step (tick_step v hk), by rw [runC, h2, tick_hit, toI_if]⟩
theorem oftM_keys {l : List Ent} {room key now : Int} (hm : key ∈ l.map (·.1)) : (oftM l room key now).1.map (·.1) = l.map (·.1) := by
  obtain ⟨j, j1, j2, _, j3⟩ := plc_pos hm
  have hj : (entAt l key).toNat = j := by unfold entAt; rw [j3]; omega
  unfold oftM
  rw [if_pos hm, hj, List.map_set]
  obtain ⟨g, e⟩ := List.getElem?_eq_some_iff.1 j2
  show (l.map (·.1)).set j key = _
  conv => lhs; rw [← e]
  exact List.set_getElem_self g
theorem oftM_step {l : List Ent} {room key now : Int} (v : VEnt l room) (hk : 0 ≤ key ∧ key ≤ 31) (hn : ∀ e ∈ l, e.2.2 < now) (h0 : 0 ≤ now ∧ now ≤ 1000) :
    StepK room.toNat room.toNat (l.map (·.1)) ((oftM l room key now).1.map (·.1)) key := by
  have hv := oftM_valid v hk hn h0
  obtain ⟨v1, v2, v3, v4, v5⟩ := v
  refine ⟨hv.2.2.2.1, by have := hv.2.1; simp; omega, ?_, fun x hx => ?_, fun h x hx => ?_, fun h1 h2 => ?_⟩
  · by_cases hm : key ∈ l.map (·.1)
    · rw [oftM_keys hm]; exact hm
    · rw [oftM_miss hm]; simp
  · by_cases hm : key ∈ l.map (·.1)
    · rw [oftM_keys hm] at hx; exact .inr hx
    · rw [oftM_miss hm, List.map_append] at hx
      rcases List.mem_append.1 hx with h | h
      · right
        split at h
        · rw [map_eraseIdx'] at h; exact List.mem_of_mem_eraseIdx h
        · exact h
      · exact .inl (by simpa using h)
  · by_cases hm : key ∈ l.map (·.1)
    · rw [oftM_keys hm]; exact hx
    · have := h.resolve_left hm
      rw [List.length_map] at this
      rw [oftM_miss hm, if_neg (by omega), List.map_append]
      exact List.mem_append_left _ hx
  · rw [oftM_miss h1]
    rw [List.length_map] at h2
    split
    · rename_i hf
      have hr := (rareM_ok (l := l) (by intro e; rw [e] at hf; simp at hf; omega)).1
      simp only [List.length_map, List.length_append, List.length_eraseIdx_of_lt hr, List.length_singleton]; omega
    · simp; omega
theorem oftM_hitK {l : List Ent} {room key now : Int} : (oftM l room key now).2 = decide (key ∈ l.map (·.1)) := by
  unfold oftM
  split
  · rename_i h; exact (decide_eq_true h).symm
  · rename_i h; exact (decide_eq_false h).symm
theorem runO_runs {room : Int} : ∀ (t : List Int) (l : List Ent) (now n : Int), VEnt l room → (∀ x ∈ t, 0 ≤ x ∧ x ≤ 31) → (∀ e ∈ l, e.2.2 < now) → 0 ≤ now → now + t.length ≤ 1001 →
    ∃ m : Nat, Runs room.toNat room.toNat t (l.map (·.1)) ((runO room t l now n).1.map (·.1)) m ∧ (runO room t l now n).2 = n + m
  | [], l, now, n, _, _, _, _, _ => ⟨0, ⟨rfl, rfl⟩, by simp [runO]⟩
  | k :: t, l, now, n, v, ht, hl, h0, h1 => by
    simp only [List.length_cons] at h1
    have hk := ht k List.mem_cons_self
    obtain ⟨m, g1, g2⟩ := runO_runs t _ (now + 1) (n + toI (oftM l room k now).2) (oftM_valid v hk hl (by omega)) (fun x hx => ht x (List.mem_cons_of_mem _ hx)) (oftM_last hl) (by omega) (by omega)
    exact ⟨_, g1.step (oftM_step v hk hl (by omega)), by rw [runO, g2, oftM_hitK, toI_if]⟩
/-! ### Segments -/
theorem segs_nd {trial safe : Int} {new old : List Int} (v : VSegs trial safe new old) : (old ++ new).Nodup := by
  obtain ⟨⟨_, _, _, _, h1⟩, ⟨_, _, _, _, h2⟩, h3⟩ := v
  exact List.nodup_append.2 ⟨h2, h1, fun a ha b hb e => h3 b hb (e ▸ ha)⟩
theorem segM_step {trial safe : Int} {new old : List Int} {key : Int} (v : VSegs trial safe new old) (hk : 0 ≤ key ∧ key ≤ 31) :
    StepK (trial.toNat + safe.toNat) trial.toNat (old ++ new) ((segM trial safe new old key).2.1 ++ (segM trial safe new old key).1) key := by
  have hv := segM_valid v hk
  have hn := segs_nd v
  have hkeep := segM_keep (key := key) v
  have hin : key ∈ (segM trial safe new old key).2.1 ++ (segM trial safe new old key).1 := by
    rcases segM_in (trial := trial) (safe := safe) (new := new) (old := old) (key := key) v.1.1 v.2.1.1 with h | h
    · exact List.mem_append_right _ h
    · exact List.mem_append_left _ h
  have hhit : (segM trial safe new old key).2.2 = decide (key ∈ old ++ new) := by
    rw [segM_hit]; simp [or_comm]
  refine ⟨segs_nd hv, ?_, hin, fun x hx => ?_, fun h x hx => ?_, fun h1 h2 => ?_⟩
  · have := hv.1.2.2.1; have := hv.2.1.2.2.1; have := v.1.1; have := v.2.1.1
    rw [List.length_append]; omega
  · rcases segM_sub (x := x) (by rcases List.mem_append.1 hx with h | h; exact .inr h; exact .inl h) (vsegs_ne v) with h | h
    · exact .inl h
    · rcases h with h | h
      · exact .inr (List.mem_append_right _ h)
      · exact .inr (List.mem_append_left _ h)
  · by_cases hm : key ∈ old ++ new
    · exact outN_all (hkeep.1 (by rw [hhit]; exact decide_eq_true hm)) x hx
    · have hlt := h.resolve_left hm
      rw [List.length_append] at hlt
      rw [segM_miss (fun c => hm (by simp; exact c.symm))]
      rw [List.take_of_length_le (by simp; omega)]
      rcases List.mem_append.1 hx with h | h
      · exact List.mem_append_left _ h
      · exact List.mem_append_right _ (List.mem_cons_of_mem _ h)
  · have := keep_full hn h1 hin (hkeep.2 (by rw [hhit]; exact decide_eq_false h1)).1
    omega
theorem runS_runs {trial safe : Int} : ∀ (t a b : List Int) (n : Int), VSegs trial safe a b → (∀ x ∈ t, 0 ≤ x ∧ x ≤ 31) →
    ∃ m : Nat, Runs (trial.toNat + safe.toNat) trial.toNat t (b ++ a) ((runS trial safe t a b n).2.1 ++ (runS trial safe t a b n).1) m ∧ (runS trial safe t a b n).2.2 = n + m
  | [], a, b, n, _, _ => ⟨0, ⟨rfl, rfl⟩, by simp [runS]⟩
  | k :: t, a, b, n, v, ht => by
    have hk := ht k List.mem_cons_self
    obtain ⟨m, h1, h2⟩ := runS_runs t _ _ (n + toI (segM trial safe a b k).2.2) (segM_valid v hk) fun x hx => ht x (List.mem_cons_of_mem _ hx)
    refine ⟨_, h1.step (segM_step v hk), ?_⟩
    rw [runS, h2, show (segM trial safe a b k).2.2 = decide (k ∈ b ++ a) by rw [segM_hit]; simp [or_comm], toI_if]
/-! ### Adaptive lists -/
theorem fitL_sub {room : Int} {was : Bool} {a : AL} {x : Int} : (x ∈ (fitL room was a).o → x ∈ a.o) ∧ (x ∈ (fitL room was a).f → x ∈ a.f) := by
  unfold fitL mkRoom
  split
  · split
    · exact ⟨fun h => List.mem_of_mem_take h, id⟩
    · exact ⟨id, fun h => List.mem_of_mem_take h⟩
  · exact ⟨id, id⟩
theorem adM_sub {room : Int} {a : AL} {key x : Int} (h : x ∈ (adM room a key).1.o ++ (adM room a key).1.f) : x = key ∨ x ∈ a.o ++ a.f := by
  have fit : ∀ (was : Bool) (c : AL), (∀ x ∈ c.o, x ∈ a.o) → (∀ x ∈ c.f, x ∈ a.f) → (x ∈ (fitL room was c).o ∨ x ∈ (fitL room was c).f) → x ∈ a.o ++ a.f := by
    intro was c h1 h2 h
    rcases h with h | h
    · exact List.mem_append_left _ (h1 x (fitL_sub.1 h))
    · exact List.mem_append_right _ (h2 x (fitL_sub.2 h))
  have e1 : ∀ {l r : List Int}, x ∈ l ++ (key :: r) → x = key ∨ x ∈ l ∨ x ∈ r := fun h => by
    rcases List.mem_append.1 h with h | h
    · exact .inr (.inl h)
    · exact (List.mem_cons.1 h).imp id .inr
  have e2 : ∀ {l r : List Int}, x ∈ (key :: l) ++ r → x = key ∨ x ∈ l ∨ x ∈ r := fun h => by
    rcases List.mem_append.1 h with h | h
    · exact (List.mem_cons.1 h).imp id .inl
    · exact .inr (.inr h)
  revert h
  unfold adM
  split
  · intro h
    rcases e1 h with h | h | h
    · exact .inl h
    · exact .inr (List.mem_append_left _ (mem_rmK.1 h).1)
    · exact .inr (List.mem_append_right _ h)
  · split
    · intro h
      rcases e1 h with h | h | h
      · exact .inl h
      · exact .inr (List.mem_append_left _ h)
      · exact .inr (List.mem_append_right _ (mem_rmK.1 h).1)
    · split
      · show x ∈ (fitL room false { a with t := _, wo := rmK a.wo key }).o ++ (key :: (fitL room false { a with t := _, wo := rmK a.wo key }).f) → _
        intro h
        refine (e1 h).imp id (fit _ _ ?_ ?_)
        · exact fun _ h => h
        · exact fun _ h => h
      · split
        · show x ∈ (fitL room true { a with t := _, wf := rmK a.wf key }).o ++ (key :: (fitL room true { a with t := _, wf := rmK a.wf key }).f) → _
          intro h
          refine (e1 h).imp id (fit _ _ ?_ ?_)
          · exact fun _ h => h
          · exact fun _ h => h
        · intro h
          change x ∈ (freshL room a key).o ++ (freshL room a key).f at h
          revert h
          unfold freshL
          simp only []
          split
          · intro h
            refine (e2 h).imp id (fit _ _ ?_ ?_)
            · exact fun _ h => h
            · exact fun _ h => h
          · split
            · intro h
              rcases e2 h with h | h | h
              · exact .inl h
              · exact .inr (List.mem_append_left _ (List.mem_of_mem_take h))
              · exact .inr (List.mem_append_right _ h)
            · intro h
              refine (e2 h).imp id (fit _ _ ?_ ?_)
              · intro y h; split at h <;> exact h
              · intro y h; split at h <;> exact h
theorem adM_step {room : Int} {a : AL} {key : Int} (v : VLists room a) (hk : 0 ≤ key ∧ key ≤ 31) : StepK room.toNat room.toNat (a.o ++ a.f) ((adM room a key).1.o ++ (adM room a key).1.f) key := by
  have hv := adM_valid v hk
  have hc := adM_cache (key := key) v
  have hin : key ∈ (adM room a key).1.o ++ (adM room a key).1.f := List.mem_append.2 adM_in
  have hn := cache_nodup v
  have r1 := v.room1.1
  have i1 := v.inc
  refine ⟨cache_nodup hv, by have := hv.inc; rw [List.length_append]; omega, hin, fun x hx => adM_sub hx, fun h => ?_, fun h1 h2 => ?_⟩
  · refine outN_all (hc.2 ?_)
    rcases h with h | h
    · left; rw [adM_hit]; simpa using h
    · right; rw [List.length_append] at h; omega
  · have := keep_full hn h1 hin hc.1
    omega
theorem runL_runs {room : Int} : ∀ (t : List Int) (a : AL) (n : Int), VLists room a → (∀ x ∈ t, 0 ≤ x ∧ x ≤ 31) → ∃ m : Nat, Runs room.toNat room.toNat t (a.o ++ a.f) ((runL room t a n).1.o ++ (runL room t a n).1.f) m ∧ (runL room t a n).2 = n + m
  | [], a, n, _, _ => ⟨0, ⟨rfl, rfl⟩, by simp [runL]⟩
  | k :: t, a, n, v, ht => by
    have hk := ht k List.mem_cons_self
    obtain ⟨m, h1, h2⟩ := runL_runs t _ (n + toI (adM room a k).2) (adM_valid v hk) fun x hx => ht x (List.mem_cons_of_mem _ hx)
    refine ⟨_, h1.step (adM_step v hk), ?_⟩
    rw [runL, h2, show (adM room a k).2 = decide (k ∈ a.o ++ a.f) by rw [adM_hit]; simp, toI_if]

/-! ## Distances -/
theorem plc_lt {l : List Int} {n : Int} : plc l n < l.length := by
  rcases plc_spec l n with ⟨_, h⟩ | ⟨j, h1, _, _, h4⟩
  · rw [h]; omega
  · rw [h4]; omega
theorem plc_ge1 (l : List Int) (n : Int) : -1 ≤ plc l n := by
  rcases plc_spec l n with ⟨_, h⟩ | ⟨j, h1, _, _, h4⟩
  · rw [h]; omega
  · rw [h4]; omega
theorem mem_take_plc {l : List Int} {n : Int} {k : Nat} : n ∈ l.take k ↔ 0 ≤ plc l n ∧ plc l n < k := by
  constructor
  · intro h
    have hm : n ∈ l := List.mem_of_mem_take h
    obtain ⟨j, h1, h2, h3, h4⟩ := plc_pos hm
    obtain ⟨i, hi⟩ := List.getElem?_of_mem h
    rw [List.getElem?_take] at hi
    split at hi
    · rename_i hk
      have : j ≤ i := Classical.byContradiction fun c => h3 i (by omega) hi
      rw [h4]; omega
    · cases hi
  · intro ⟨h1, h2⟩
    obtain ⟨j, g1, g2, _, g4⟩ := plc_pos (plc_ge.1 h1)
    refine List.mem_of_getElem? (i := j) ?_
    rw [List.getElem?_take, if_pos (by omega)]; exact g2
def dst (D : List Int) (x : Int) : Int := plc D x + 1
theorem dst_range (D : List Int) (x : Int) : 0 ≤ dst D x ∧ dst D x ≤ D.length := by
  have := @plc_lt D x; have := plc_ge1 D x; unfold dst; omega
theorem dst_zero {D : List Int} {x : Int} : dst D x = 0 ↔ x ∉ D := by
  unfold dst
  constructor
  · intro h c; have := plc_ge.2 c; omega
  · intro h; rw [plc_neg h]; rfl
theorem dst_one {D : List Int} {x y : Int} : dst (y :: D) x = 1 ↔ x = y := by
  constructor
  · intro h
    have h0 : 0 ≤ plc (y :: D) x ∧ plc (y :: D) x < (1 : Nat) := by unfold dst at h; omega
    have := mem_take_plc.2 h0
    simpa using this
  · intro h
    subst h
    obtain ⟨j, h1, h2, h3, h4⟩ := plc_pos (l := x :: D) (n := x) (by simp)
    have : j = 0 := Classical.byContradiction fun c => h3 0 (by omega) rfl
    unfold dst; rw [h4, this]; rfl
def distM : List Int → List Int → List Int
  | _, [] => []
  | D, x :: r => dst D x :: distM (x :: rmK D x) r
theorem distM_len : ∀ (t D : List Int), (distM D t).length = t.length
  | [], _ => rfl
  | x :: r, D => by simp [distM, distM_len r]
theorem distM_append : ∀ (t D : List Int) (x : Int), distM D (t ++ [x]) = distM D t ++ [dst (usedR D t) x]
  | [], _, _ => rfl
  | y :: t, D, x => by simp [distM, usedR, distM_append t]
theorem distM_take : ∀ (t D : List Int) (i : Nat), (distM D t).take i = distM D (t.take i)
  | [], _, i => by simp [distM]
  | x :: r, D, 0 => by simp [distM]
  | x :: r, D, i + 1 => by simp [distM, distM_take r]
theorem distM_get : ∀ (t D : List Int) (i : Nat) (d : Int), i < t.length → (distM D t).getD i d = dst (usedR D (t.take i)) (t.getD i 0)
  | [], _, i, _, h => by simp at h
  | x :: r, D, 0, _, _ => by simp [distM, usedR]
  | x :: r, D, i + 1, d, h => by
    have := distM_get r (x :: rmK D x) i d (by simpa using h)
    simpa [distM, usedR] using this
/-- How many distances are small enough. -/
def within (c : Int) (l : List Int) : Nat := (l.filter (fun d => decide (1 ≤ d ∧ d ≤ c))).length
theorem within_cons {c d : Int} {l : List Int} : within c (d :: l) = within c l + if 1 ≤ d ∧ d ≤ c then 1 else 0 := by
  unfold within
  by_cases h : 1 ≤ d ∧ d ≤ c
  · rw [List.filter_cons_of_pos (by simpa using h), if_pos h, List.length_cons]
  · rw [List.filter_cons_of_neg (by simpa using h), if_neg h]; rfl
theorem within_append {c : Int} {a b : List Int} : within c (a ++ b) = within c a + within c b := by simp [within]
theorem within_le {c : Int} {l : List Int} : within c l ≤ l.length := List.length_filter_le _ _
theorem within_mono {c e : Int} (h : c ≤ e) : ∀ (l : List Int), within c l ≤ within e l
  | [] => Nat.le_refl _
  | d :: l => by
    have := within_mono h l
    rw [within_cons, within_cons]
    split
    · rw [if_pos (by omega)]; omega
    · exact Nat.le_trans this (Nat.le_add_right _ _)
theorem hitsR_within {room : Int} (hr : 0 ≤ room) : ∀ (t D : List Int), hitsR room D t = (within room (distM D t) : Int)
  | [], D => rfl
  | x :: t, D => by
    rw [hitsR, hitsR_within hr, distM, within_cons]
    by_cases h : 1 ≤ dst D x ∧ dst D x ≤ room
    · rw [if_pos h, show decide (x ∈ D.take room.toNat) = true from decide_eq_true (mem_take_plc.2 (by unfold dst at h; omega))]
      simp [toI]; omega
    · rw [if_neg h, show decide (x ∈ D.take room.toNat) = false from decide_eq_false fun c => h (by have := mem_take_plc.1 c; unfold dst; omega)]
      simp [toI]
theorem runR_within {room : Int} (hr : 1 ≤ room) (t : List Int) : (runR room t [] 0).2 = (within room (distM [] t) : Int) := by
  rw [runR_ded hr, hitsR_within (by omega)]; simp
/-- The hits for each room. -/
def curveM (t : List Int) : List Int := (List.range 8).map fun (i : Nat) => (within ((i : Int) + 1) (distM [] t) : Int)
theorem curveM_len (t : List Int) : (curveM t).length = 8 := by simp [curveM]
theorem curveM_get {t : List Int} {i : Nat} (h : i < 8) : (curveM t).getD i 0 = (within ((i : Int) + 1) (distM [] t) : Int) := by
  rw [curveM, List.getD_eq_getElem?_getD, List.getElem?_map, List.getElem?_range h]; rfl
theorem curveM_run {t : List Int} {i : Nat} (h : i < 8) : (curveM t).getD i 0 = (runR ((i : Int) + 1) t [] 0).2 := by
  rw [curveM_get h, runR_within (by omega)]
/-- Behind `distance`: what is gone through backwards. -/
theorem ded_first {s : List Int} {x : Int} {i : Nat} (hi : s[i]? = some x) (hf : x ∉ s.take i) : dst (ded s) x = ((ded (s.take i)).length : Int) + 1 := by
  obtain ⟨hl, _⟩ := List.getElem?_eq_some_iff.1 hi
  have h1 : x ∉ ded (s.take i) := fun c => hf (by
    have := (mem_usedR (t := (s.take i).reverse) (D := []) (x := x)).1 (by rw [usedR_ded, List.reverse_reverse]; exact c)
    simpa using this)
  have h2 : s.take (i + 1) = s.take i ++ [x] := by
    rw [List.take_add_one, hi]; rfl
  have h3 : ded (s.take (i + 1)) = ded (s.take i) ++ [x] := by rw [h2, ded_snoc, if_neg h1]
  have h4 := ded_prefix (s.drop (i + 1)) (s.take (i + 1))
  rw [List.take_append_drop, h3] at h4
  have h5 : plc (ded s) x = ((ded (s.take i)).length : Int) := by
    have hm : x ∈ (ded s).take (ded (s.take i) ++ [x]).length := by rw [h4]; simp
    have hn : x ∉ (ded s).take (ded (s.take i)).length := by
      have : (ded s).take (ded (s.take i)).length = ded (s.take i) := by
        have := congrArg (List.take (ded (s.take i)).length) h4
        rw [List.take_take, List.take_left, List.length_append, Nat.min_eq_left (by omega)] at this
        exact this
      rw [this]; exact h1
    have a := mem_take_plc.1 hm
    rw [List.length_append] at a
    have b : ¬ (0 ≤ plc (ded s) x ∧ plc (ded s) x < ((ded (s.take i)).length : Nat)) := fun c => hn (mem_take_plc.2 c)
    simp at a
    omega
  unfold dst; rw [h5]
theorem mem_ded {s : List Int} {x : Int} : x ∈ ded s ↔ x ∈ s := by
  have := mem_usedR (t := s.reverse) (D := []) (x := x)
  rw [usedR_ded, List.reverse_reverse] at this
  rw [this]; simp
theorem nk_cons {x : Int} {p : List Int} : nk (x :: p) = if x ∈ p then nk p else nk p + 1 := by
  rw [← nk_rev, List.reverse_cons, nk_snoc, nk_rev]
  simp only [List.mem_reverse]
/-! ## Small traces -/
theorem adM_small {room : Int} {a : AL} {key : Int} (v : VLists room a) (h1 : a.wo = []) (h2 : a.wf = []) (h : key ∈ a.o ++ a.f ∨ (a.o ++ a.f).length < room.toNat) :
    (adM room a key).1.wo = [] ∧ (adM room a key).1.wf = [] ∧ (adM room a key).1.t = a.t := by
  have r1 := v.room1
  unfold adM
  split
  · exact ⟨h1, h2, rfl⟩
  · split
    · exact ⟨h1, h2, rfl⟩
    · rename_i m1 m2
      have hl := h.resolve_left (by simp [m1, m2])
      rw [List.length_append] at hl
      rw [if_neg (by rw [h1]; simp), if_neg (by rw [h2]; simp)]
      unfold freshL
      rw [if_neg (by rw [h1]; simp), if_neg (by rw [h1]; simp; omega), if_neg (by rw [h1, h2]; simp; omega), fitL_no (by omega)]
      exact ⟨h1, h2, rfl⟩
theorem runL_small {room : Int} : ∀ (t : List Int) (a : AL) (n : Int) (D : List Int), VLists room a → (∀ x ∈ t, 0 ≤ x ∧ x ≤ 31) → a.wo = [] → a.wf = [] → D.Nodup → (∀ x, x ∈ a.o ++ a.f ↔ x ∈ D) → (usedR D t).length ≤ room.toNat →
    (runL room t a n).1.wo = [] ∧ (runL room t a n).1.wf = [] ∧ (runL room t a n).1.t = a.t
  | [], a, n, D, _, _, h1, h2, _, _, _ => ⟨h1, h2, rfl⟩
  | k :: t, a, n, D, v, ht, h1, h2, hn, hs, hl => by
    have hk := ht k List.mem_cons_self
    have hn2 : (k :: rmK D k).Nodup := List.nodup_cons.2 ⟨fun h => (mem_rmK.1 h).2 rfl, rmK_nodup hn⟩
    have hc := cache_nodup v
    have hCD : (a.o ++ a.f).length = D.length := Nat.le_antisymm (nodup_le hc fun x hx => (hs x).1 hx) (nodup_le hn fun x hx => (hs x).2 hx)
    rw [usedR] at hl
    have hmono : (k :: rmK D k).length ≤ (usedR (k :: rmK D k) t).length := nodup_le hn2 fun x hx => mem_usedR.2 (.inl hx)
    have hadd := len_add hn k
    have hok : k ∈ a.o ++ a.f ∨ (a.o ++ a.f).length < room.toNat := by
      by_cases hk : k ∈ a.o ++ a.f
      · exact .inl hk
      · right
        rw [if_neg (fun h => hk ((hs k).2 h))] at hadd
        omega
    obtain ⟨g1, g2, g3⟩ := adM_small v h1 h2 hok
    have st := adM_step v hk
    have := runL_small t (adM room a k).1 (n + toI (adM room a k).2) (k :: rmK D k) (adM_valid v hk) (fun x hx => ht x (List.mem_cons_of_mem _ hx)) g1 g2 hn2 (fun x => ?_) hl
    · rw [runL]; rw [g3] at this; exact this
    · constructor
      · intro hx
        by_cases e : x = k
        · rw [e]; simp
        · exact List.mem_cons_of_mem _ (mem_rmK.2 ⟨(hs x).1 ((st.2.2.2.1 x hx).resolve_left e), e⟩)
      · intro hx
        rcases List.mem_cons.1 hx with h | h
        · rw [h]; exact st.2.2.1
        · exact st.2.2.2.2.1 hok x ((hs x).2 (mem_rmK.1 h).1)
/-- Keys that never left are counted rightly: `p` are the keys that were used. -/
theorem runO_count {room : Int} : ∀ (t : List Int) (l : List Ent) (now n : Int) (p : List Int), VEnt l room → (∀ x ∈ t, 0 ≤ x ∧ x ≤ 31) → (∀ e ∈ l, e.2.2 < now) → 0 ≤ now → now + t.length ≤ 1001 → p.length + t.length ≤ 100 →
    (∀ x, x ∈ l.map (·.1) ↔ x ∈ p) → (∀ e ∈ l, e.2.1 = (p.count e.1 : Int)) → nk (p ++ t) ≤ room.toNat →
    ∀ e ∈ (runO room t l now n).1, e.2.1 = ((p ++ t).count e.1 : Int)
  | [], l, now, n, p, _, _, _, _, _, _, _, hc, _ => by simpa [runO] using hc
  | k :: t, l, now, n, p, v, ht, hl, h0, h1, hp, hs, hc, hr => by
    simp only [List.length_cons] at h1 hp
    have hk := ht k List.mem_cons_self
    have hv := oftM_valid v hk hl (by omega)
    have st := oftM_step v hk hl (by omega)
    have hln : (l.map (·.1)).length = nk p := nk_of v.2.2.2.1 hs
    have hsub : nk (p ++ [k]) ≤ nk (p ++ k :: t) := nk_sub fun x hx => by
      rcases List.mem_append.1 hx with h | h
      · exact List.mem_append_left _ h
      · exact List.mem_append_right _ (by rw [List.mem_singleton.1 h]; simp)
    rw [nk_snoc] at hsub
    have hok : k ∈ l.map (·.1) ∨ (l.map (·.1)).length < room.toNat := by
      by_cases hk : k ∈ l.map (·.1)
      · exact .inl hk
      · rw [if_neg (fun h => hk ((hs k).2 h))] at hsub
        exact .inr (by omega)
    have := runO_count t (oftM l room k now).1 (now + 1) (n + toI (oftM l room k now).2) (p ++ [k]) hv (fun x hx => ht x (List.mem_cons_of_mem _ hx)) (oftM_last hl) (by omega) (by omega) (by simp; omega) (fun x => ?_) (fun e he => ?_) (by simpa using hr)
    · rw [runO]; simpa using this
    · rw [List.mem_append, List.mem_singleton]
      constructor
      · intro hx
        rcases st.2.2.2.1 x hx with h | h
        · exact .inr h
        · exact .inl ((hs x).1 h)
      · intro hx
        rcases hx with h | h
        · exact st.2.2.2.2.1 hok x ((hs x).2 h)
        · rw [h]; exact st.2.2.1
    · rw [List.count_append]
      by_cases hm : k ∈ l.map (·.1)
      · obtain ⟨j, j1, j2, j3, j4⟩ := oftM_hit (room := room) (now := now) v.2.2.2.1 hm
        rw [j4] at he
        have hjm := List.mem_of_getElem? j3
        have hcj := hc _ hjm
        rw [j2] at hcj
        have hcl := List.count_le_length (a := k) (l := p)
        rcases List.mem_or_eq_of_mem_set he with h | h
        · by_cases ek : e.1 = k
          · -- the key has one entry only
            have e2 : e = l.getD j ent0 := ent_key v.2.2.2.1 h hjm (by rw [ek, j2])
            exfalso
            obtain ⟨i, hi, ei⟩ := List.getElem_of_mem he
            have hset : ((l.set j (k, (if (l.getD j ent0).2.1 + 1 < 100 then (l.getD j ent0).2.1 + 1 else 100), now)).map (·.1)).Nodup := by
              have := hv.2.2.2.1; rw [j4] at this; exact this
            have hj2 : (l.set j (k, (if (l.getD j ent0).2.1 + 1 < 100 then (l.getD j ent0).2.1 + 1 else 100), now))[j]? = some (k, (if (l.getD j ent0).2.1 + 1 < 100 then (l.getD j ent0).2.1 + 1 else 100), now) := List.getElem?_set_self j1
            have := ent_key hset he (List.mem_of_getElem? hj2) ek
            have hlt := hl e h
            rw [this] at hlt
            simp only at hlt; omega
          · rw [hc e h, List.count_singleton, if_neg (by simpa using Ne.symm ek)]; simp
        · rw [h]
          show (if (l.getD j ent0).2.1 + 1 < 100 then (l.getD j ent0).2.1 + 1 else (100 : Int)) = _
          rw [hcj]
          simp only [List.count_singleton_self]
          split <;> omega
      · rw [oftM_miss hm] at he
        have hlt := hok.resolve_left hm
        rw [List.length_map] at hlt
        rw [if_neg (by omega)] at he
        rcases List.mem_append.1 he with h | h
        · have ek : e.1 ≠ k := fun c => hm (List.mem_map.2 ⟨e, h, c⟩)
          rw [hc e h, List.count_singleton, if_neg (by simpa using Ne.symm ek)]; simp
        · rw [List.mem_singleton.1 h]
          show (1 : Int) = _
          rw [List.count_eq_zero_of_not_mem (fun c => hm ((hs k).2 c))]; simp

/-! ## The answers of chapters 7 and 8 -/
def nextM (t : List Int) (i key : Int) : Int := i + (nxt key (t.drop i.toNat) : Int)
def overM (t : List Int) (room : Int) : Int := (bestM room.toNat t [] : Int) - (runR room t [] 0).2
/-- The place, counted from `i`, of the first number that is large enough. -/
def firstGe : List Int → Int → Int → Int
  | [], _, _ => -1
  | x :: r, h, i => if h ≤ x then i else firstGe r h (i + 1)
def roomM (t : List Int) (hits : Int) : Int := firstGe (curveM t) hits 1
def workM (t : List Int) (at_ span : Int) : Int := (nk ((t.take at_.toNat).drop (at_ - span).toNat) : Int)
theorem firstGe_spec : ∀ (l : List Int) (h i : Int), (firstGe l h i = -1 ∧ ∀ x ∈ l, x < h) ∨ ∃ j : Nat, j < l.length ∧ firstGe l h i = i + j ∧ h ≤ l.getD j 0 ∧ ∀ q, q < j → l.getD q 0 < h
  | [], h, i => .inl ⟨rfl, by simp⟩
  | x :: r, h, i => by
    unfold firstGe
    by_cases hx : h ≤ x
    · rw [if_pos hx]
      exact .inr ⟨0, by simp, by simp, by simpa using hx, fun q hq => by omega⟩
    · rw [if_neg hx]
      rcases firstGe_spec r h (i + 1) with ⟨g1, g2⟩ | ⟨j, g1, g2, g3, g4⟩
      · left
        refine ⟨g1, fun y hy => ?_⟩
        rcases List.mem_cons.1 hy with e | e
        · rw [e]; omega
        · exact g2 y e
      · right
        refine ⟨j + 1, by simpa using g1, by rw [g2]; omega, by simpa using g3, fun q hq => ?_⟩
        cases q with
        | zero => simp; omega
        | succ q => simpa using g4 q (by omega)
/-- Which room is enough. -/
theorem roomM_spec (t : List Int) (hits : Int) : (roomM t hits = -1 ∧ ∀ room : Int, 1 ≤ room → room ≤ 8 → (runR room t [] 0).2 < hits) ∨
    (1 ≤ roomM t hits ∧ roomM t hits ≤ 8 ∧ hits ≤ (runR (roomM t hits) t [] 0).2 ∧ ∀ room : Int, 1 ≤ room → room < roomM t hits → (runR room t [] 0).2 < hits) := by
  have at_ : ∀ room : Int, 1 ≤ room → room ≤ 8 → (curveM t).getD (room - 1).toNat 0 = (runR room t [] 0).2 := fun room h1 h2 => by
    rw [curveM_run (by omega), show ((room - 1).toNat : Int) + 1 = room by omega]
  unfold roomM
  rcases firstGe_spec (curveM t) hits 1 with ⟨g1, g2⟩ | ⟨j, g1, g2, g3, g4⟩
  · left
    refine ⟨g1, fun room h1 h2 => ?_⟩
    rw [← at_ room h1 h2]
    exact g2 _ (mem_getD (by rw [curveM_len]; omega))
  · right
    rw [curveM_len] at g1
    rw [g2]
    have e : (1 : Int) + (j : Int) - 1 = j := by omega
    refine ⟨by omega, by omega, ?_, fun room h1 h2 => ?_⟩
    · rw [← at_ _ (by omega) (by omega), e, Int.toNat_natCast]; exact g3
    · rw [← at_ room h1 (by omega)]; exact g4 _ (by omega)
theorem nxt_spec (key : Int) : ∀ (r : List Int), (∀ q, q < nxt key r → r.getD q 0 ≠ key) ∧ (nxt key r < r.length → r.getD (nxt key r) 0 = key) ∧ (nxt key r = r.length ↔ key ∉ r)
  | [] => ⟨fun q h => by simp [nxt] at h, fun h => by simp [nxt] at h, by simp [nxt]⟩
  | k :: r => by
    obtain ⟨h1, h2, h3⟩ := nxt_spec key r
    unfold nxt
    by_cases e : k = key
    · rw [if_pos e]
      exact ⟨fun q h => by omega, fun _ => by simpa using e, by simp [e]⟩
    · rw [if_neg e]
      refine ⟨fun q h => ?_, fun h => ?_, ?_⟩
      · cases q with
        | zero => simpa using e
        | succ q => simpa using h1 q (by omega)
      · simpa using h2 (by simpa using h)
      · rw [List.length_cons, List.mem_cons]
        constructor
        · intro h; have := h3.1 (by omega); rintro (c | c)
          · exact e c.symm
          · exact this c
        · intro h; have := h3.2 (fun c => h (.inr c)); omega
theorem workM_le {t : List Int} {at_ span : Int} (h0 : 0 ≤ at_) (h1 : at_ ≤ t.length) (h2 : 1 ≤ span) : workM t at_ span ≤ span ∧ workM t at_ span ≤ at_ := by
  have := nk_le ((t.take at_.toNat).drop (at_ - span).toNat)
  rw [List.length_drop, List.length_take] at this
  unfold workM; omega
theorem workM_more {t : List Int} {at_ span : Int} (h0 : 0 ≤ at_) (h1 : at_ ≤ t.length) (h2 : 1 ≤ span) : workM t at_ (span + 1) = workM t at_ span ∨ workM t at_ (span + 1) = workM t at_ span + 1 := by
  unfold workM
  by_cases h : at_ ≤ span
  · left
    rw [show (at_ - (span + 1)).toNat = 0 by omega, show (at_ - span).toNat = 0 by omega]
  · obtain ⟨i, hi⟩ : ∃ i : Nat, (at_ - span).toNat = i + 1 := ⟨(at_ - span).toNat - 1, by omega⟩
    have hi2 : (at_ - (span + 1)).toNat = i := by omega
    rw [hi, hi2]
    have hl : i < (t.take at_.toNat).length := by rw [List.length_take]; omega
    rw [List.drop_eq_getElem_cons hl, nk_cons]
    split
    · exact .inl rfl
    · right; simp

/-! ## Chapter 7 and 8, step by step -/
theorem farK_snoc (r : List Int) (x : Int) : ∀ (l : List Int) (b : Int), farK r (l ++ [x]) b = if nxt (farK r l b) r < nxt x r then x else farK r l b
  | [], b => rfl
  | y :: l, b => by
    show farK r (l ++ [x]) _ = _
    rw [farK_snoc r x l]; rfl
theorem farM_snoc {r l : List Int} {x : Int} (h : 0 < l.length) : farM r (l ++ [x]) = if nxt (farM r l) r < nxt x r then x else farM r l := by
  cases l with
  | nil => simp at h
  | cons y l => exact farK_snoc r x l y
theorem nxt_drop {t : List Int} {i : Nat} {key : Int} (h : i < t.length) : nxt key (t.drop i) = if t.getD i 0 = key then 0 else nxt key (t.drop (i + 1)) + 1 := by
  rw [List.drop_eq_getElem_cons h, nxt, List.getD_eq_getElem?_getD, List.getElem?_eq_getElem h]; rfl
theorem best_le {room : Nat} : ∀ (r C : List Int), bestM room r C ≤ r.length
  | [], _ => Nat.le_refl _
  | k :: r, C => by
    unfold bestM
    have h1 := best_le (room := room) r C
    have h2 := best_le (room := room) r (missB room r C k)
    rw [List.length_cons]
    split <;> omega
theorem nk_take {t : List Int} {i : Nat} (h : i < t.length) : (nk (t.take (i + 1)) : Int) = (nk (t.take i) : Int) + toI (plc t (t.getD i 0) == (i : Int)) := by
  have e : t.take (i + 1) = t.take i ++ [t.getD i 0] := by
    rw [List.take_add_one, List.getD_eq_getElem?_getD, List.getElem?_eq_getElem h]; rfl
  rw [e, nk_snoc]
  have hm : t.getD i 0 ∈ t.take (i + 1) := by rw [e]; simp
  have h1 := mem_take_plc.1 hm
  by_cases c : t.getD i 0 ∈ t.take i
  · have h2 := mem_take_plc.1 c
    rw [if_pos c, show (plc t (t.getD i 0) == (i : Int)) = false from beq_eq_false_iff_ne.2 (by omega)]
    simp [toI]
  · have h2 : plc t (t.getD i 0) = i := by
      have : ¬ (0 ≤ plc t (t.getD i 0) ∧ plc t (t.getD i 0) < (i : Nat)) := fun g => c (mem_take_plc.2 g)
      omega
    rw [if_neg c, h2]
    simp [toI]

/-! ## Small steps of laws -/
theorem yes {P A B : Prop} (v : P) (h : A) : (P → A) ∧ (¬ P → B) := ⟨fun _ => h, fun c => absurd v c⟩
theorem nay {P A B : Prop} (v : ¬ P) (h : B) : (P → A) ∧ (¬ P → B) := ⟨fun c => absurd c v, fun _ => h⟩
theorem br_yd {p : Prop} [Decidable p] {A B : Prop} (h : p) (g : A) : br (decide p) A B := br_dec.2 ⟨fun _ => g, fun c => absurd h c⟩
theorem br_nd {p : Prop} [Decidable p] {A B : Prop} (h : ¬ p) (g : B) : br (decide p) A B := br_dec.2 ⟨fun c => absurd c h, fun _ => g⟩
theorem br_ye {a b : Int} {A B : Prop} (h : a = b) (g : A) : br (a == b) A B := br_beq.2 ⟨fun _ => g, fun c => absurd h c⟩
theorem br_ne {a b : Int} {A B : Prop} (h : a ≠ b) (g : B) : br (a == b) A B := br_beq.2 ⟨fun c => absurd c h, fun _ => g⟩
theorem beq_t {a b : Int} (h : a = b) : (a == b) = true := by rw [h, beq_self_eq_true]
/-- What a run of a policy tells. -/
structure RunFacts (room : Int) (t E : List Int) (h : Int) : Prop where
  pos : 0 ≤ h
  best : h ≤ (bestM room.toNat t [] : Int)
  new : h + (nk t : Int) ≤ t.length
  len : (E.length : Int) ≤ room
  keys : (E.length : Int) ≤ nk t
  full : (E.length : Int) = room ∨ (E.length : Int) = nk t
  fit : (nk t : Int) ≤ room → h + (nk t : Int) = t.length
  sub : ∀ x ∈ E, x ∈ t
theorem runs_facts {room : Int} {t E : List Int} {h : Int} (hr : 1 ≤ room) (H : ∃ m : Nat, Runs room.toNat room.toNat t [] E m ∧ h = 0 + (m : Int)) : RunFacts room t E h := by
  obtain ⟨m, h1, h2⟩ := H
  have h3 := h1.best (by omega)
  have h4 := h1.new
  obtain ⟨h5, h6⟩ := h1.len
  have h7 := Nat.min_le_left room.toNat (nk t)
  have h8 := Nat.min_le_right room.toNat (nk t)
  have h9 : min room.toNat (nk t) = room.toNat ∨ min room.toNat (nk t) = nk t := by rcases Nat.le_total room.toNat (nk t) with h | h; exact .inl (Nat.min_eq_left h); exact .inr (Nat.min_eq_right h)
  exact ⟨by omega, by omega, by omega, by omega, by omega, by omega, fun h => by have := h6 (by omega); omega, fun x hx => (h1.sub x hx).resolve_left (by simp)⟩
theorem runR_facts {t : List Int} {room : Int} (v : VTrace t) (hr : 1 ≤ room ∧ room ≤ 8) : RunFacts room t (runR room t [] 0).1 (runR room t [] 0).2 := runs_facts hr.1 (runR_runs t [] 0 (keys0 hr) v.2)
theorem runF_facts {t : List Int} {room : Int} (v : VTrace t) (hr : 1 ≤ room ∧ room ≤ 8) : RunFacts room t (runF room t [] 0).1 (runF room t [] 0).2 := runs_facts hr.1 (runF_runs t [] 0 (keys0 hr) v.2)
theorem runC_facts {t : List Int} {room : Int} (v : VTrace t) (hr : 1 ≤ room ∧ room ≤ 8) : RunFacts room t (runC room t [] [] 0 0).1 (runC room t [] [] 0 0).2.2.2 := runs_facts hr.1 (runC_runs t [] [] 0 0 (clock0 hr) v.2)
theorem runO_facts {t : List Int} {room : Int} (v : VTrace t) (hr : 1 ≤ room ∧ room ≤ 8) : RunFacts room t ((runO room t [] 0 0).1.map (·.1)) (runO room t [] 0 0).2 :=
  runs_facts hr.1 (runO_runs t [] 0 0 (ent_nil hr) v.2 (by simp) (by omega) (by have := v.1; omega))
theorem runL_facts {t : List Int} {room : Int} (v : VTrace t) (hr : 1 ≤ room ∧ room ≤ 8) : RunFacts room t ((runL room t ⟨0, [], [], [], []⟩ 0).1.o ++ (runL room t ⟨0, [], [], [], []⟩ 0).1.f) (runL room t ⟨0, [], [], [], []⟩ 0).2 :=
  runs_facts hr.1 (runL_runs t ⟨0, [], [], [], []⟩ 0 (lists0 hr (by omega)) v.2)
theorem best_facts {t : List Int} {room : Int} (v : VTrace t) (hr : 1 ≤ room ∧ room ≤ 8) : (bestM room.toNat t [] : Int) + nk t ≤ t.length ∧ ((nk t : Int) ≤ room → (bestM room.toNat t [] : Int) + nk t = t.length) := by
  have h1 := bestM_new (room := room.toNat) (by omega) t
  have h2 := runR_facts v hr
  have := h2.best
  exact ⟨by omega, fun h => by have := h2.fit h; omega⟩
theorem vtrace_take {t : List Int} (v : VTrace t) (n : Nat) : VTrace (t.take n) := ⟨by have := v.1; rw [List.length_take]; omega, fun x hx => v.2 x (List.mem_of_mem_take hx)⟩
theorem vtrace_drop {t : List Int} (v : VTrace t) (n : Nat) : VTrace (t.drop n) := ⟨by have := v.1; rw [List.length_drop]; omega, fun x hx => v.2 x (List.mem_of_mem_drop hx)⟩
theorem vtrace_rev {t : List Int} (v : VTrace t) : VTrace t.reverse := ⟨by rw [List.length_reverse]; exact v.1, fun x hx => v.2 x (List.mem_reverse.1 hx)⟩
theorem take_get {t : List Int} {i : Nat} (h : i < t.length) : t.take (i + 1) = t.take i ++ [t.getD i 0] := by
  rw [List.take_add_one, some_of (d := 0) h]; rfl
theorem drop_rev {t : List Int} {i : Nat} (h : i < t.length) : (t.drop (i + 1)).reverse ++ [t.getD i 0] = (t.drop i).reverse := by
  rw [List.drop_eq_getElem_cons h, List.reverse_cons, List.getD_eq_getElem?_getD, List.getElem?_eq_getElem h]; rfl

/-! ## Steps of the program of chapters 7 and 8 -/
theorem plc_nxt {key : Int} {r : List Int} (h : key ∈ r) : plc r key = (nxt key r : Int) := by
  obtain ⟨j, h1, h2, h3, h4⟩ := plc_pos h
  obtain ⟨s1, s2, s3⟩ := nxt_spec key r
  have hlt : nxt key r < r.length := by
    have := nxt_le key r
    have : nxt key r ≠ r.length := fun c => s3.1 c h
    omega
  have e1 : ¬ j < nxt key r := fun c => s1 j c (getD_of h2)
  have e2 : ¬ nxt key r < j := fun c => h3 _ c (by rw [some_of (d := 0) hlt, s2 hlt])
  rw [h4]; omega
theorem nxt_out {key : Int} {r : List Int} (h : key ∉ r) : nxt key r = r.length := (nxt_spec key r).2.2.2 h
theorem farK_self (r l : List Int) (b : Int) : farK r (b :: l) b = farK r l b := by
  rw [farK]; split <;> rfl
theorem set_mid {α : Type} {a r : List α} {x y : α} {i : Nat} (h : a.length = i) : (a ++ x :: r).set i y = a ++ y :: r := by
  rw [← h]; simp
theorem usedR_len (t : List Int) : (usedR [] t).length = nk t := rfl
/-! ## Facts of the laws of chapters 2 to 8 -/
theorem runS_facts {t : List Int} {trial safe : Int} (v : VTrace t) (ht : 1 ≤ trial ∧ trial ≤ 8) (hs : 1 ≤ safe ∧ safe ≤ 8) :
    0 ≤ (runS trial safe t [] [] 0).2.2 ∧ (runS trial safe t [] [] 0).2.2 ≤ (bestM (trial + safe).toNat t [] : Int) ∧
    ((nk t : Int) ≤ trial → (runS trial safe t [] [] 0).2.2 + (nk t : Int) = t.length ∧ ((runS trial safe t [] [] 0).2.1 ++ (runS trial safe t [] [] 0).1).length = nk t) := by
  obtain ⟨m, h1, h2⟩ := runS_runs t [] [] 0 (segs0 ht hs) v.2
  have h3 : Runs (trial.toNat + safe.toNat) trial.toNat t [] ((runS trial safe t [] [] 0).2.1 ++ (runS trial safe t [] [] 0).1) m := h1
  have hb := h3.best (by omega)
  rw [show (trial + safe).toNat = trial.toNat + safe.toNat by omega]
  refine ⟨by omega, by omega, fun hk => ?_⟩
  obtain ⟨f1, f2⟩ := h3.fit (D := []) (by simp) (by simp) (fun x => Iff.rfl) (by rw [usedR_len]; omega)
  rw [usedR_len] at f1
  have hn := (h3.nodup (by simp) (by simp)).1
  simp only [List.length_nil] at f1
  exact ⟨by omega, nk_of hn fun x => by rw [f2 x, mem_usedR]; simp⟩
theorem nk_twice (t : List Int) : nk (t ++ t) = nk t := by
  have h1 : nk (t ++ t) ≤ nk t := nk_sub fun x hx => by simpa using hx
  have h2 : nk t ≤ nk (t ++ t) := nk_sub fun x hx => by simp [hx]
  omega
theorem vtrace_twice {t : List Int} (v : VTrace t) (h : 2 * (t.length : Int) ≤ 24) : VTrace (t ++ t) :=
  ⟨by rw [List.length_append]; omega, fun x hx => v.2 x (by simpa using hx)⟩
theorem workM_zero (t : List Int) (span : Int) : workM t 0 span = 0 := by
  unfold workM; simp [nk_nil]
theorem workM_one {t : List Int} {at_ : Int} (h0 : 0 < at_) (h1 : at_ ≤ t.length) : workM t at_ 1 = 1 := by
  unfold workM
  have e : (t.take at_.toNat).drop (at_ - 1).toNat = [] ++ [t.getD (at_ - 1).toNat 0] := by
    have := take_get (t := t) (i := (at_ - 1).toNat) (by omega)
    rw [show (at_ - 1).toNat + 1 = at_.toNat by omega] at this
    rw [this, List.drop_append_of_le_length (by rw [List.length_take]; omega), List.drop_of_length_le (by rw [List.length_take]; omega)]
  rw [e, nk_snoc]; simp [nk_nil]
theorem workM_all {t : List Int} {at_ : Int} (h1 : at_ ≤ 24) : workM t at_ 24 = (nk (t.take at_.toNat) : Int) := by
  unfold workM
  rw [show (at_ - 24).toNat = 0 by omega, List.drop_zero]
theorem curveM_mono {t : List Int} {i : Nat} (h : i + 1 < 8) : (curveM t).getD i 0 ≤ (curveM t).getD (i + 1) 0 := by
  rw [curveM_get (by omega), curveM_get (by omega)]
  have := within_mono (c := (i : Int) + 1) (e := ((i + 1 : Nat) : Int) + 1) (by omega) (distM [] t)
  omega
theorem roomM_more {t : List Int} {hits : Int} (h : 0 ≤ roomM t hits) : roomM t (hits + 1) = -1 ∨ roomM t hits ≤ roomM t (hits + 1) := by
  rcases roomM_spec t (hits + 1) with ⟨g1, _⟩ | ⟨g1, g2, g3, _⟩
  · exact .inl g1
  · right
    rcases roomM_spec t hits with ⟨k1, _⟩ | ⟨k1, k2, k3, k4⟩
    · omega
    · exact Classical.byContradiction fun c => by
        have := k4 (roomM t (hits + 1)) g1 (by omega); omega

/-! ## The curve of hits, step by step -/
def curveD (l : List Int) : List Int := (List.range 8).map fun (i : Nat) => (within ((i : Int) + 1) l : Int)
theorem curveM_D (t : List Int) : curveM t = curveD (distM [] t) := rfl
def midC (l : List Int) (d room : Int) : List Int := (List.range 8).map fun (i : Nat) => (within ((i : Int) + 1) l : Int) + if d ≤ (i : Int) + 1 ∧ (i : Int) + 1 < room then 1 else 0
theorem midC_len (l : List Int) (d room : Int) : (midC l d room).length = 8 := by simp [midC]
theorem curveD_len (l : List Int) : (curveD l).length = 8 := by simp [curveD]
theorem midC_get {l : List Int} {d room : Int} {i : Nat} (h : i < 8) : (midC l d room).getD i 0 = (within ((i : Int) + 1) l : Int) + if d ≤ (i : Int) + 1 ∧ (i : Int) + 1 < room then 1 else 0 := by
  rw [midC, List.getD_eq_getElem?_getD, List.getElem?_map, List.getElem?_range h]; rfl
theorem map_range_congr {f g : Nat → Int} {n : Nat} (h : ∀ i, i < n → f i = g i) : (List.range n).map f = (List.range n).map g :=
  List.map_congr_left fun i hi => h i (List.mem_range.1 hi)
theorem midC_start (l : List Int) (d : Int) : midC l d d = curveD l := by
  refine map_range_congr fun i hi => ?_
  rw [if_neg (by omega)]; omega
theorem within_snoc {c d : Int} {l : List Int} : within c (l ++ [d]) = within c l + if 1 ≤ d ∧ d ≤ c then 1 else 0 := by
  rw [within_append]
  congr 1
  have := @within_cons c d []
  rw [this]; simp [within]
theorem midC_end {l : List Int} {d room : Int} (h : 1 ≤ d) (h8 : 8 < room) : midC l d room = curveD (l ++ [d]) := by
  refine map_range_congr fun i hi => ?_
  rw [within_snoc]
  by_cases c : d ≤ (i : Int) + 1
  · rw [if_pos (by omega), if_pos (by omega)]; omega
  · rw [if_neg (by omega), if_neg (by omega)]; omega
theorem curveD_zero (l : List Int) : curveD (l ++ [0]) = curveD l := by
  refine map_range_congr fun i hi => ?_
  rw [within_snoc, if_neg (by omega)]; rfl
theorem midC_step {l : List Int} {d room : Int} (h1 : d ≤ room) (h2 : 1 ≤ room) (h8 : room ≤ 8) : (midC l d room).set (room - 1).toNat ((midC l d room).getD (room - 1).toNat 0 + 1) = midC l d (room + 1) := by
  refine List.ext_getElem (by rw [List.length_set, midC_len, midC_len]) fun i a b => ?_
  rw [List.length_set, midC_len] at a
  rw [List.getElem_set]
  have e : ∀ (L : List Int) (h : i < L.length), L[i] = L.getD i 0 := fun L h => by rw [List.getD_eq_getElem?_getD, List.getElem?_eq_getElem h]; rfl
  by_cases c : (room - 1).toNat = i
  · rw [if_pos c, c, e, midC_get a, midC_get a, if_neg (by omega), if_pos (by omega)]; omega
  · rw [if_neg c, e, e, midC_get a, midC_get a]
    by_cases g : d ≤ (i : Int) + 1 ∧ (i : Int) + 1 < room
    · rw [if_pos g, if_pos (by omega)]
    · rw [if_neg g, if_neg (by omega)]
theorem midC_range {l : List Int} {d room : Int} {i : Nat} (h : i < 8) : 0 ≤ (midC l d room).getD i 0 ∧ (midC l d room).getD i 0 ≤ l.length + 1 := by
  rw [midC_get h]
  have := @within_le ((i : Int) + 1) l
  split <;> omega
theorem drop_take' (t : List Int) (a b : Nat) : (t.drop a).take (b - a) = (t.take b).drop a := by rw [List.drop_take]
theorem curveD_nil : curveD [] = List.replicate 8 0 := rfl
theorem distM_range {t : List Int} {i : Nat} (h : i < t.length) : 0 ≤ (distM [] t).getD i 0 ∧ (distM [] t).getD i 0 ≤ i := by
  rw [distM_get t [] i 0 h]
  have h1 := dst_range (usedR [] (t.take i)) (t.getD i 0)
  have h2 := nk_le (t.take i)
  rw [List.length_take] at h2
  rw [usedR_len] at h1; omega

/-! ## Sketches -/
def VSk (s : List Int) : Prop := s.length = 24 ∧ ∀ x ∈ s, 0 ≤ x ∧ x ≤ 15
def cellM (row key : Int) : Int := row * 8 + Int.tmod (Int.tmod ((37 + 2 * row) * (key + row)) 101) 8
theorem cellM_range {row key : Int} (h0 : 0 ≤ row) (k0 : 0 ≤ key) : row * 8 ≤ cellM row key ∧ cellM row key < row * 8 + 8 := by
  have h1 : 0 ≤ (37 + 2 * row) * (key + row) := Int.mul_nonneg (by omega) (by omega)
  have h2 := Int.tmod_nonneg 101 h1
  have h3 := Int.tmod_nonneg 8 h2
  have h4 := Int.tmod_lt_of_pos (Int.tmod ((37 + 2 * row) * (key + row)) 101) (show (0 : Int) < 8 by omega)
  unfold cellM; omega
theorem cell_prod {row key : Int} (h0 : 0 ≤ row) (h1 : row ≤ 2) (k0 : 0 ≤ key) (k1 : key ≤ 31) : 0 ≤ (37 + 2 * row) * (key + row) ∧ (37 + 2 * row) * (key + row) ≤ 2000 := by
  have : row = 0 ∨ row = 1 ∨ row = 2 := by omega
  rcases this with h | h | h <;> subst h <;> omega
def up15 (x : Int) : Int := if 15 < x + 1 then 15 else x + 1
theorem up15_range {x : Int} (h : 0 ≤ x ∧ x ≤ 15) : 0 ≤ up15 x ∧ up15 x ≤ 15 ∧ x ≤ up15 x := by unfold up15; split <;> omega
def bumpM (s : List Int) (c : Int) : List Int := s.set c.toNat (up15 (s.getD c.toNat 0))
theorem VSk.get {s : List Int} (v : VSk s) (i : Nat) : 0 ≤ s.getD i 0 ∧ s.getD i 0 ≤ 15 := by
  by_cases h : i < s.length
  · exact v.2 _ (mem_getD h)
  · rw [List.getD_eq_getElem?_getD, List.getElem?_eq_none (by omega)]; simp
theorem VSk.bump {s : List Int} (v : VSk s) (c : Int) : VSk (bumpM s c) := by
  refine ⟨by unfold bumpM; rw [List.length_set]; exact v.1, fun x hx => ?_⟩
  rcases List.mem_or_eq_of_mem_set hx with h | h
  · exact v.2 x h
  · rw [h]; have := up15_range (v.get c.toNat); omega
def addM (s : List Int) (key : Int) : List Int := bumpM (bumpM (bumpM s (cellM 0 key)) (cellM 1 key)) (cellM 2 key)
theorem VSk.add {s : List Int} (v : VSk s) (key : Int) : VSk (addM s key) := ((v.bump _).bump _).bump _
def min2 (a b : Int) : Int := if a < b then a else b
def countM (s : List Int) (key : Int) : Int := min2 (s.getD (cellM 2 key).toNat 0) (min2 (s.getD (cellM 1 key).toNat 0) (min2 (s.getD (cellM 0 key).toNat 0) 15))
theorem VSk.count {s : List Int} (v : VSk s) (key : Int) : 0 ≤ countM s key ∧ countM s key ≤ 15 := by
  have h0 := v.get (cellM 0 key).toNat
  have h1 := v.get (cellM 1 key).toNat
  have h2 := v.get (cellM 2 key).toNat
  unfold countM min2
  repeat' split
  all_goals omega
def halveM (s : List Int) : List Int := s.map fun x => Int.tdiv x 2
theorem half_range {x : Int} (h : 0 ≤ x ∧ x ≤ 15) : 0 ≤ Int.tdiv x 2 ∧ Int.tdiv x 2 ≤ 15 := by
  have h1 : 0 ≤ Int.tdiv x 2 := Int.tdiv_nonneg h.1 (by omega)
  have h2 : Int.tdiv x 2 ≤ x := Int.tdiv_le_self _ h.1
  omega
theorem VSk.halve {s : List Int} (v : VSk s) : VSk (halveM s) := by
  refine ⟨by unfold halveM; rw [List.length_map]; exact v.1, fun x hx => ?_⟩
  obtain ⟨y, hy, e⟩ := List.mem_map.1 hx
  rw [← e]; exact half_range (v.2 y hy)
def emptyM : List Int := List.replicate 24 0
theorem emptyM_valid : VSk emptyM := ⟨rfl, fun x hx => by rw [List.eq_of_mem_replicate hx]; omega⟩
def joinM (a b : List Int) : List Int := List.zipWith (fun x y => if 15 < x + y then (15 : Int) else x + y) a b

/-! ## Gates -/
structure GT where
  (n m s : List Int) (a : Int)
def VGate (w r : Int) (g : GT) : Prop := VSegs w r g.n g.m ∧ VSk g.s ∧ 0 ≤ g.a ∧ g.a ≤ 15
def learnM (s : List Int) (a key : Int) : List Int × Int := if a + 1 = 16 then (halveM (addM s key), 0) else (addM s key, a + 1)
theorem learnM_valid {s : List Int} {a key : Int} (v : VSk s) (ha : 0 ≤ a ∧ a ≤ 15) : VSk (learnM s a key).1 ∧ 0 ≤ (learnM s a key).2 ∧ (learnM s a key).2 ≤ 15 := by
  unfold learnM
  split
  · exact ⟨(v.add key).halve, by simp, by simp⟩
  · exact ⟨v.add key, by simp; omega, by simp; omega⟩
def passM (w r : Int) (new main s : List Int) (key : Int) : List Int × List Int × Bool :=
  if key ∈ main then (new, key :: rmK main key, true)
  else if key ∈ new then (key :: rmK new key, main, true)
  else if (new.length : Int) + 1 ≤ w then (key :: new, main, false)
  else if (main.length : Int) < r then ((key :: new).take w.toNat, (key :: new).getD w.toNat 0 :: main, false)
  else if countM s ((key :: new).getD w.toNat 0) > countM s (main.getD (main.length - 1) 0) then ((key :: new).take w.toNat, (key :: new).getD w.toNat 0 :: main.take (main.length - 1), false)
  else ((key :: new).take w.toNat, main, false)
def gateM (w r : Int) (g : GT) (key : Int) : GT × Bool :=
  (⟨(passM w r g.n g.m (learnM g.s g.a key).1 key).1, (passM w r g.n g.m (learnM g.s g.a key).1 key).2.1, (learnM g.s g.a key).1, (learnM g.s g.a key).2⟩, (passM w r g.n g.m (learnM g.s g.a key).1 key).2.2)
def runG (w r : Int) : List Int → GT → Int → GT × Int
  | [], g, n => (g, n)
  | k :: t, g, n => runG w r t (gateM w r g k).1 (n + toI (gateM w r g k).2)
theorem snoc_of {l : List Int} (h : l.length ≠ 0) : ∃ u x, l = u ++ [x] := by
  rcases List.eq_nil_or_concat l with e | ⟨u, x, e⟩
  · rw [e] at h; simp at h
  · exact ⟨u, x, by rw [e, List.concat_eq_append]⟩
theorem take_full {u : List Int} {key x w : Int} (h : ((u ++ [x]).length : Int) = w) : (key :: (u ++ [x])).take w.toNat = key :: u ∧ (key :: (u ++ [x])).getD w.toNat 0 = x := by
  have e : w.toNat = u.length + 1 := by simp at h; omega
  rw [e]
  exact ⟨by simp, by simp [List.getD_eq_getElem?_getD]⟩
theorem last_snoc {m : List Int} {y : Int} : (m ++ [y]).getD ((m ++ [y]).length - 1) 0 = y ∧ (m ++ [y]).take ((m ++ [y]).length - 1) = m := by
  have e : (m ++ [y]).length - 1 = m.length := by simp
  rw [e]
  exact ⟨by simp [List.getD_eq_getElem?_getD], by simp⟩
theorem vkeys_hit {l : List Int} {room key : Int} (v : VKeys l room) (h : key ∈ l) (hk : 0 ≤ key ∧ key ≤ 31) : VKeys (key :: rmK l key) room := by
  rw [← recM_hit v.2.2.2.2 v.2.2.1 h]; exact recM_valid v hk
/-- The ways of a gate. -/
theorem passM_cases {w r : Int} {new main s : List Int} {key : Int} (v : VSegs w r new main) :
    (key ∈ main ∧ passM w r new main s key = (new, key :: rmK main key, true)) ∨
    (key ∉ main ∧ key ∈ new ∧ passM w r new main s key = (key :: rmK new key, main, true)) ∨
    (key ∉ main ∧ key ∉ new ∧ (new.length : Int) + 1 ≤ w ∧ passM w r new main s key = (key :: new, main, false)) ∨
    (key ∉ main ∧ key ∉ new ∧ ∃ u x, new = u ++ [x] ∧ (new.length : Int) = w ∧
      (((main.length : Int) < r ∧ passM w r new main s key = (key :: u, x :: main, false)) ∨
       ((main.length : Int) = r ∧ ∃ m y, main = m ++ [y] ∧ ((countM s x > countM s y ∧ passM w r new main s key = (key :: u, x :: m, false)) ∨ (¬ countM s x > countM s y ∧ passM w r new main s key = (key :: u, main, false)))))) := by
  unfold passM
  by_cases h1 : key ∈ main
  · exact .inl ⟨h1, if_pos h1⟩
  · right
    rw [if_neg h1]
    by_cases h2 : key ∈ new
    · exact .inl ⟨h1, h2, if_pos h2⟩
    · right
      rw [if_neg h2]
      by_cases h3 : (new.length : Int) + 1 ≤ w
      · exact .inl ⟨h1, h2, h3, if_pos h3⟩
      · right
        rw [if_neg h3]
        have n3 := v.1.2.2.1
        have n1 := v.1.1
        obtain ⟨u, x, e⟩ := snoc_of (l := new) (by omega)
        refine ⟨h1, h2, u, x, e, by omega, ?_⟩
        have hf := take_full (u := u) (key := key) (x := x) (w := w) (by rw [← e]; omega)
        rw [e, hf.1, hf.2]
        by_cases h4 : (main.length : Int) < r
        · exact .inl ⟨h4, if_pos h4⟩
        · right
          rw [if_neg h4]
          have m3 := v.2.1.2.2.1
          have m1 := v.2.1.1
          obtain ⟨m, y, e2⟩ := snoc_of (l := main) (by omega)
          refine ⟨by omega, m, y, e2, ?_⟩
          have hg := last_snoc (m := m) (y := y)
          rw [e2, hg.1, hg.2]
          by_cases h5 : countM s x > countM s y
          · exact .inl ⟨h5, if_pos h5⟩
          · exact .inr ⟨h5, if_neg h5⟩
theorem vkeys_cons {u : List Int} {x key room : Int} (v : VKeys (u ++ [x]) room) (h : key ∉ u ++ [x]) (hk : 0 ≤ key ∧ key ≤ 31) : VKeys (key :: u) room := by
  obtain ⟨a, b, c, d, e⟩ := v
  rw [List.nodup_append] at e
  refine ⟨a, b, by simp at c ⊢; omega, fun y hy => ?_, List.nodup_cons.2 ⟨fun g => h (List.mem_append_left _ g), e.1⟩⟩
  rcases List.mem_cons.1 hy with g | g
  · rw [g]; exact hk
  · exact d y (List.mem_append_left _ g)
theorem vkeys_new {l : List Int} {x room : Int} (v : VKeys l room) (h : x ∉ l) (hl : (l.length : Int) < room) (hk : 0 ≤ x ∧ x ≤ 31) : VKeys (x :: l) room := by
  obtain ⟨a, b, c, d, e⟩ := v
  refine ⟨a, b, by simp; omega, fun y hy => ?_, List.nodup_cons.2 ⟨h, e⟩⟩
  rcases List.mem_cons.1 hy with g | g
  · rw [g]; exact hk
  · exact d y g
theorem snoc_out {u : List Int} {x : Int} (h : (u ++ [x]).Nodup) : x ∉ u := by
  rw [List.nodup_append] at h
  exact fun g => h.2.2 x g x (by simp) rfl
theorem passM_valid {w r : Int} {new main s : List Int} {key : Int} (v : VSegs w r new main) (hk : 0 ≤ key ∧ key ≤ 31) :
    VSegs w r (passM w r new main s key).1 (passM w r new main s key).2.1 := by
  obtain ⟨vn, vm, vd⟩ := id v
  rcases passM_cases (s := s) (key := key) v with ⟨h1, e⟩ | ⟨h1, h2, e⟩ | ⟨h1, h2, h3, e⟩ | ⟨h1, h2, u, x, hu, hl, h⟩
  · rw [e]
    refine ⟨vn, vkeys_hit vm h1 hk, fun y hy h2 => ?_⟩
    rcases List.mem_cons.1 h2 with g | g
    · rw [g] at hy; exact vd _ hy h1
    · exact vd y hy (mem_rmK.1 g).1
  · rw [e]
    refine ⟨vkeys_hit vn h2 hk, vm, fun y hy h3 => ?_⟩
    rcases List.mem_cons.1 hy with g | g
    · rw [g] at h3; exact h1 h3
    · exact vd y (mem_rmK.1 g).1 h3
  · rw [e]
    refine ⟨vkeys_new vn h2 (by omega) hk, vm, fun y hy h4 => ?_⟩
    rcases List.mem_cons.1 hy with g | g
    · rw [g] at h4; exact h1 h4
    · exact vd y g h4
  · subst hu
    have hxn := snoc_out vn.2.2.2.2
    have hxm : x ∉ main := vd x (by simp)
    have hxr : 0 ≤ x ∧ x ≤ 31 := vn.2.2.2.1 x (by simp)
    have hkx : key ≠ x := fun c => h2 (by rw [c]; simp)
    have vn2 := vkeys_cons vn h2 hk
    have hdis : ∀ y ∈ key :: u, y ≠ x ∧ y ∉ main := fun y hy => by
      rcases List.mem_cons.1 hy with g | g
      · rw [g]; exact ⟨hkx, h1⟩
      · exact ⟨fun c => hxn (c ▸ g), vd y (List.mem_append_left _ g)⟩
    rcases h with ⟨h4, e⟩ | ⟨h4, m, y, hm, h⟩
    · rw [e]
      refine ⟨vn2, vkeys_new vm hxm h4 hxr, fun z hz hz2 => ?_⟩
      rcases List.mem_cons.1 hz2 with g | g
      · exact (hdis z hz).1 g
      · exact (hdis z hz).2 g
    · rcases h with ⟨h5, e⟩ | ⟨h5, e⟩
      · rw [e]
        subst hm
        refine ⟨vn2, vkeys_cons vm hxm hxr, fun z hz hz2 => ?_⟩
        rcases List.mem_cons.1 hz2 with g | g
        · exact (hdis z hz).1 g
        · exact (hdis z hz).2 (List.mem_append_left _ g)
      · rw [e]
        exact ⟨vn2, vm, fun z hz hz2 => (hdis z hz).2 hz2⟩
theorem passM_hit {w r : Int} {new main s : List Int} {key : Int} : (passM w r new main s key).2.2 = decide (key ∈ new ∨ key ∈ main) := by
  unfold passM
  by_cases h1 : key ∈ main
  · rw [if_pos h1]; simp [h1]
  · rw [if_neg h1]
    by_cases h2 : key ∈ new
    · rw [if_pos h2]; simp [h2]
    · rw [if_neg h2]
      repeat' split
      all_goals simp [h1, h2]
theorem gateM_valid {w r : Int} {g : GT} {key : Int} (v : VGate w r g) (hk : 0 ≤ key ∧ key ≤ 31) : VGate w r (gateM w r g key).1 :=
  ⟨passM_valid v.1 hk, learnM_valid v.2.1 v.2.2⟩
theorem gate0 {w r : Int} (h : 1 ≤ w ∧ w ≤ 8) (g : 1 ≤ r ∧ r ≤ 8) : VGate w r ⟨[], [], emptyM, 0⟩ := ⟨segs0 h g, emptyM_valid, by simp, by simp⟩
theorem runG_append (w r x : Int) : ∀ (t : List Int) (g : GT) (n : Int), runG w r (t ++ [x]) g n = runG w r [x] (runG w r t g n).1 (runG w r t g n).2
  | [], _, _ => rfl
  | _ :: t, g, n => runG_append w r x t _ _
theorem runG_valid {w r : Int} : ∀ (t : List Int) (g : GT) (n : Int), VGate w r g → (∀ x ∈ t, 0 ≤ x ∧ x ≤ 31) → VGate w r (runG w r t g n).1 ∧ n ≤ (runG w r t g n).2 ∧ (runG w r t g n).2 ≤ n + t.length
  | [], g, n, v, _ => ⟨v, by simp [runG], by simp [runG]⟩
  | k :: t, g, n, v, ht => by
    have hk := ht k List.mem_cons_self
    have h := toI_01 (gateM w r g k).2
    obtain ⟨a, b, c⟩ := runG_valid t (gateM w r g k).1 (n + toI (gateM w r g k).2) (gateM_valid v hk) fun x hx => ht x (List.mem_cons_of_mem _ hx)
    rw [runG, List.length_cons]
    exact ⟨a, by omega, by omega⟩
theorem gate_len {w r : Int} {g : GT} (v : VGate w r g) : g.n.length ≤ 8 ∧ g.m.length ≤ 8 ∧ g.s.length = 24 := by
  obtain ⟨⟨a, b, _⟩, c, _⟩ := v
  exact ⟨vkeys_len a, vkeys_len b, c.1⟩
theorem runG_added {w r : Int} : ∀ (t : List Int) (g : GT) (n : Int), 0 ≤ g.a → g.a ≤ 15 → (runG w r t g n).1.a = (g.a + t.length) % 16
  | [], g, n, h0, h1 => by simp [runG]; omega
  | k :: t, g, n, h0, h1 => by
    have e : (gateM w r g k).1.a = (learnM g.s g.a k).2 := rfl
    have e2 : (learnM g.s g.a k).2 = if g.a + 1 = 16 then 0 else g.a + 1 := by unfold learnM; split <;> rfl
    rw [runG, runG_added t _ _ (by rw [e, e2]; split <;> omega) (by rw [e, e2]; split <;> omega), e, e2, List.length_cons]
    split <;> omega
theorem passM_step {w r : Int} {new main s : List Int} {key : Int} (v : VSegs w r new main) (hk : 0 ≤ key ∧ key ≤ 31) :
    StepK (w.toNat + r.toNat) (w.toNat + r.toNat) (main ++ new) ((passM w r new main s key).2.1 ++ (passM w r new main s key).1) key := by
  have v2 := passM_valid (s := s) v hk
  have hnd := segs_nd v2
  obtain ⟨vn, vm, vd⟩ := id v
  have l1 := v2.1.2.2.1
  have l2 := v2.2.1.2.2.1
  have l3 := vn.2.2.1
  have l4 := vm.2.2.1
  refine ⟨hnd, by rw [List.length_append]; omega, ?_⟩
  rcases passM_cases (s := s) (key := key) v with ⟨h1, e⟩ | ⟨h1, h2, e⟩ | ⟨h1, h2, h3, e⟩ | ⟨h1, h2, u, x, hu, hl, h⟩
  · rw [e]
    refine ⟨by simp, fun y hy => ?_, fun _ y hy => ?_, fun h => absurd (List.mem_append_left _ h1) h⟩
    · rcases List.mem_append.1 hy with g | g
      · rcases List.mem_cons.1 g with g | g
        · exact .inl g
        · exact .inr (List.mem_append_left _ (mem_rmK.1 g).1)
      · exact .inr (List.mem_append_right _ g)
    · by_cases c : y = key
      · rw [c]; simp
      · rcases List.mem_append.1 hy with g | g
        · exact List.mem_append_left _ (List.mem_cons_of_mem _ (mem_rmK.2 ⟨g, c⟩))
        · exact List.mem_append_right _ g
  · rw [e]
    refine ⟨by simp, fun y hy => ?_, fun _ y hy => ?_, fun h => absurd (List.mem_append_right _ h2) h⟩
    · rcases List.mem_append.1 hy with g | g
      · exact .inr (List.mem_append_left _ g)
      · rcases List.mem_cons.1 g with g | g
        · exact .inl g
        · exact .inr (List.mem_append_right _ (mem_rmK.1 g).1)
    · by_cases c : y = key
      · rw [c]; simp
      · rcases List.mem_append.1 hy with g | g
        · exact List.mem_append_left _ g
        · exact List.mem_append_right _ (List.mem_cons_of_mem _ (mem_rmK.2 ⟨g, c⟩))
  · rw [e]
    refine ⟨by simp, fun y hy => ?_, fun _ y hy => ?_, fun _ hf => ?_⟩
    · rcases List.mem_append.1 hy with g | g
      · exact .inr (List.mem_append_left _ g)
      · rcases List.mem_cons.1 g with g | g
        · exact .inl g
        · exact .inr (List.mem_append_right _ g)
    · rcases List.mem_append.1 hy with g | g
      · exact List.mem_append_left _ g
      · exact List.mem_append_right _ (List.mem_cons_of_mem _ g)
    · rw [List.length_append] at hf; omega
  · subst hu
    have hno : key ∉ main ++ (u ++ [x]) := fun c => by
      rcases List.mem_append.1 c with g | g
      · exact h1 g
      · exact h2 g
    rw [List.length_append] at hl l3
    rcases h with ⟨h4, e⟩ | ⟨h4, m, y, hm, h⟩
    · rw [e]
      refine ⟨by simp, fun z hz => ?_, fun _ z hz => ?_, fun _ hf => ?_⟩
      · simp only [List.mem_append, List.mem_cons, List.mem_singleton] at hz ⊢
        rcases hz with (g | g) | (g | g)
        · exact .inr (.inr (.inr (.inl g)))
        · exact .inr (.inl g)
        · exact .inl g
        · exact .inr (.inr (.inl g))
      · simp only [List.mem_append, List.mem_cons, List.mem_singleton] at hz ⊢
        rcases hz with g | g | g | g
        · exact .inl (.inr g)
        · exact .inr (.inr g)
        · exact .inl (.inl g)
        · cases g
      · rw [List.length_append, List.length_append] at hf; simp at hf hl; omega
    · have hfull : ¬ (main ++ (u ++ [x])).length < w.toNat + r.toNat := by rw [List.length_append, List.length_append]; omega
      rcases h with ⟨h5, e⟩ | ⟨h5, e⟩
      · rw [e]
        subst hm
        refine ⟨by simp, fun z hz => ?_, fun hc => (hc.elim (fun c => absurd c hno) (fun c => absurd c hfull)), fun _ _ => ?_⟩
        · simp only [List.mem_append, List.mem_cons, List.mem_singleton] at hz ⊢
          rcases hz with (g | g) | (g | g)
          · exact .inr (.inr (.inr (.inl g)))
          · exact .inr (.inl (.inl g))
          · exact .inl g
          · exact .inr (.inr (.inl g))
        · simp at h4 hl ⊢; omega
      · rw [e]
        refine ⟨by simp, fun z hz => ?_, fun hc => (hc.elim (fun c => absurd c hno) (fun c => absurd c hfull)), fun _ _ => ?_⟩
        · simp only [List.mem_append, List.mem_cons, List.mem_singleton] at hz ⊢
          rcases hz with g | g | g
          · exact .inr (.inl g)
          · exact .inl g
          · exact .inr (.inr (.inl g))
        · simp at h4 hl ⊢; omega
theorem runG_runs {w r : Int} : ∀ (t : List Int) (g : GT) (n : Int), VGate w r g → (∀ x ∈ t, 0 ≤ x ∧ x ≤ 31) →
    ∃ m : Nat, Runs (w.toNat + r.toNat) (w.toNat + r.toNat) t (g.m ++ g.n) ((runG w r t g n).1.m ++ (runG w r t g n).1.n) m ∧ (runG w r t g n).2 = n + m
  | [], g, n, _, _ => ⟨0, ⟨rfl, rfl⟩, by simp [runG]⟩
  | k :: t, g, n, v, ht => by
    have hk := ht k List.mem_cons_self
    obtain ⟨m, h1, h2⟩ := runG_runs t (gateM w r g k).1 (n + toI (gateM w r g k).2) (gateM_valid v hk) fun x hx => ht x (List.mem_cons_of_mem _ hx)
    have st : StepK (w.toNat + r.toNat) (w.toNat + r.toNat) (g.m ++ g.n) ((gateM w r g k).1.m ++ (gateM w r g k).1.n) k := passM_step v.1 hk
    refine ⟨_, Runs.step st h1, ?_⟩
    rw [runG, h2]
    have e : (gateM w r g k).2 = decide (k ∈ g.m ++ g.n) := by
      show (passM w r g.n g.m (learnM g.s g.a k).1 k).2.2 = _
      rw [passM_hit]; exact decide_eq_decide.2 (by rw [List.mem_append]; exact Or.comm)
    rw [e]; exact toI_if _ _ _
theorem passM_head {w r : Int} {new main s : List Int} {key : Int} (v : VSegs w r new main) : (∃ u, (passM w r new main s key).1 = key :: u) ∨ ∃ u, (passM w r new main s key).2.1 = key :: u := by
  rcases passM_cases (s := s) (key := key) v with ⟨_, e⟩ | ⟨_, _, e⟩ | ⟨_, _, _, e⟩ | ⟨_, _, u, x, _, _, h⟩
  · rw [e]; exact .inr ⟨_, rfl⟩
  · rw [e]; exact .inl ⟨_, rfl⟩
  · rw [e]; exact .inl ⟨_, rfl⟩
  · rcases h with ⟨_, e⟩ | ⟨_, m, y, _, ⟨_, e⟩ | ⟨_, e⟩⟩ <;> rw [e] <;> exact .inl ⟨_, rfl⟩
theorem gateM_hit {w r : Int} {g : GT} {key : Int} : (gateM w r g key).2 = decide (key ∈ g.n ∨ key ∈ g.m) := passM_hit
/-- Who leaves Main. -/
theorem passM_out {w r : Int} {new main s : List Int} {key y : Int} (v : VSegs w r new main) (hy : y ∈ main) (ho : y ∉ (passM w r new main s key).2.1) :
    (passM w r new main s key).2.2 = false ∧ ∃ m x u, main = m ++ [y] ∧ x ∈ new ∧ (passM w r new main s key).2.1 = x :: u ∧ countM s y < countM s x := by
  rcases passM_cases (s := s) (key := key) v with ⟨h1, e⟩ | ⟨_, _, e⟩ | ⟨_, _, _, e⟩ | ⟨h1, h2, u, x, hu, hl, h⟩
  · rw [e] at ho
    exfalso
    by_cases c : y = key
    · exact ho (by rw [c]; simp)
    · exact ho (List.mem_cons_of_mem _ (mem_rmK.2 ⟨hy, c⟩))
  · rw [e] at ho; exact absurd hy ho
  · rw [e] at ho; exact absurd hy ho
  · rcases h with ⟨h4, e⟩ | ⟨h4, m, z, hm, ⟨h5, e⟩ | ⟨h5, e⟩⟩
    · rw [e] at ho; exact absurd (List.mem_cons_of_mem _ hy) ho
    · rw [e] at ho ⊢
      have hz : y = z := by
        rw [hm] at hy
        rcases List.mem_append.1 hy with g | g
        · exact absurd (List.mem_cons_of_mem _ g) ho
        · exact List.mem_singleton.1 g
      exact ⟨rfl, m, x, m, by rw [hm, hz], by rw [hu]; simp, rfl, by rw [hz]; exact h5⟩
    · rw [e] at ho; exact absurd hy ho
theorem runG_facts {t : List Int} {w r : Int} (v : VTrace t) (hw : 1 ≤ w ∧ w ≤ 8) (hr : 1 ≤ r ∧ r ≤ 8) :
    RunFacts (w + r) t ((runG w r t ⟨[], [], emptyM, 0⟩ 0).1.m ++ (runG w r t ⟨[], [], emptyM, 0⟩ 0).1.n) (runG w r t ⟨[], [], emptyM, 0⟩ 0).2 := by
  refine runs_facts (by omega) ?_
  rw [show (w + r).toNat = w.toNat + r.toNat by omega]
  exact runG_runs t ⟨[], [], emptyM, 0⟩ 0 (gate0 hw hr) v.2
/-- Who was there stays. -/
theorem passM_stay {w r : Int} {new main s : List Int} {key : Int} (v : VSegs w r new main) (h : key ∈ new ∨ key ∈ main) :
    (∀ y ∈ new, y ∈ (passM w r new main s key).1) ∧ (∀ y ∈ main, y ∈ (passM w r new main s key).2.1) ∧ (passM w r new main s key).1.length = new.length ∧ (passM w r new main s key).2.1.length = main.length := by
  have mv : ∀ {l : List Int}, key ∈ l → ∀ y ∈ l, y ∈ key :: rmK l key := fun hl y hy => by
    by_cases c : y = key
    · rw [c]; simp
    · exact List.mem_cons_of_mem _ (mem_rmK.2 ⟨hy, c⟩)
  unfold passM
  by_cases h1 : key ∈ main
  · rw [if_pos h1]
    exact ⟨fun y hy => hy, mv h1, rfl, by rw [List.length_cons]; exact rmK_len v.2.1.2.2.2.2 h1⟩
  · have h2 := h.resolve_right h1
    rw [if_neg h1, if_pos h2]
    exact ⟨mv h2, fun y hy => hy, by rw [List.length_cons]; exact rmK_len v.1.2.2.2.2 h2, rfl⟩
/-! ## A key that was added to the empty sketch -/
theorem bump_get {s : List Int} {c : Int} {j : Nat} (h : c.toNat < s.length) : (bumpM s c).getD j 0 = if j = c.toNat then up15 (s.getD j 0) else s.getD j 0 := by
  unfold bumpM
  rw [List.getD_eq_getElem?_getD, List.getElem?_set]
  by_cases e : c.toNat = j
  · rw [if_pos e, if_pos (by omega), if_pos e.symm, e]; rfl
  · rw [if_neg e, if_neg (Ne.symm e), List.getD_eq_getElem?_getD]
/-- Each counter of the key has the number, and all others are 0. -/
def Cnt (a n : Int) (s : List Int) : Prop := VSk s ∧ s.getD (cellM 0 a).toNat 0 = n ∧ s.getD (cellM 1 a).toNat 0 = n ∧ s.getD (cellM 2 a).toNat 0 = n ∧ ∀ j : Nat, j ≠ (cellM 0 a).toNat → j ≠ (cellM 1 a).toNat → j ≠ (cellM 2 a).toNat → s.getD j 0 = 0
theorem empty_get (j : Nat) : emptyM.getD j 0 = 0 := by
  have := emptyM_valid.get j
  unfold emptyM
  rw [List.getD_eq_getElem?_getD, List.getElem?_replicate]
  split <;> rfl
theorem cnt0 (a : Int) : Cnt a 0 emptyM := ⟨emptyM_valid, empty_get _, empty_get _, empty_get _, fun j _ _ _ => empty_get j⟩
theorem Cnt.add {a n : Int} {s : List Int} (v : Cnt a n s) (ha : 0 ≤ a) : Cnt a (up15 n) (addM s a) := by
  obtain ⟨vs, e0, e1, e2, eo⟩ := v
  have r0 := cellM_range (row := 0) (by omega) ha
  have r1 := cellM_range (row := 1) (by omega) ha
  have r2 := cellM_range (row := 2) (by omega) ha
  have l := vs.1
  have l1 := (vs.bump (cellM 0 a)).1
  have l2 := ((vs.bump (cellM 0 a)).bump (cellM 1 a)).1
  have g : ∀ j, (addM s a).getD j 0 = if j = (cellM 2 a).toNat then up15 (if j = (cellM 1 a).toNat then up15 (if j = (cellM 0 a).toNat then up15 (s.getD j 0) else s.getD j 0) else (if j = (cellM 0 a).toNat then up15 (s.getD j 0) else s.getD j 0)) else (if j = (cellM 1 a).toNat then up15 (if j = (cellM 0 a).toNat then up15 (s.getD j 0) else s.getD j 0) else (if j = (cellM 0 a).toNat then up15 (s.getD j 0) else s.getD j 0)) := fun j => by
    unfold addM
    rw [bump_get (by omega), bump_get (by omega), bump_get (by omega)]
  refine ⟨vs.add a, ?_, ?_, ?_, fun j h0 h1 h2 => ?_⟩
  · rw [g, if_neg (by omega), if_neg (by omega), if_pos rfl, e0]
  · rw [g, if_neg (by omega), if_pos rfl, if_neg (by omega), e1]
  · rw [g, if_pos rfl, if_neg (by omega), if_neg (by omega), e2]
  · rw [g, if_neg h2, if_neg h1, if_neg h0, eo j h0 h1 h2]
theorem Cnt.self {a : Int} {s : List Int} (v : Cnt a 15 s) : countM s a = 15 := by
  obtain ⟨vs, e0, e1, e2, eo⟩ := v
  unfold countM
  rw [e0, e1, e2]; rfl
theorem Cnt.other {a b : Int} {s : List Int} (v : Cnt a 15 s) (ha : 0 ≤ a) (hb : 0 ≤ b) : countM s b < 15 ↔ (cellM 0 a ≠ cellM 0 b ∨ cellM 1 a ≠ cellM 1 b ∨ cellM 2 a ≠ cellM 2 b) := by
  obtain ⟨vs, e0, e1, e2, eo⟩ := v
  have a0 := cellM_range (row := 0) (by omega) ha
  have a1 := cellM_range (row := 1) (by omega) ha
  have a2 := cellM_range (row := 2) (by omega) ha
  have b0 := cellM_range (row := 0) (by omega) hb
  have b1 := cellM_range (row := 1) (by omega) hb
  have b2 := cellM_range (row := 2) (by omega) hb
  have g0 : s.getD (cellM 0 b).toNat 0 = if cellM 0 a = cellM 0 b then 15 else 0 := by
    split
    · rename_i h; rw [← h]; exact e0
    · exact eo _ (by omega) (by omega) (by omega)
  have g1 : s.getD (cellM 1 b).toNat 0 = if cellM 1 a = cellM 1 b then 15 else 0 := by
    split
    · rename_i h; rw [← h]; exact e1
    · exact eo _ (by omega) (by omega) (by omega)
  have g2 : s.getD (cellM 2 b).toNat 0 = if cellM 2 a = cellM 2 b then 15 else 0 := by
    split
    · rename_i h; rw [← h]; exact e2
    · exact eo _ (by omega) (by omega) (by omega)
  unfold countM
  rw [g0, g1, g2]
  by_cases h0 : cellM 0 a = cellM 0 b
  · by_cases h1 : cellM 1 a = cellM 1 b
    · by_cases h2 : cellM 2 a = cellM 2 b
      · rw [if_pos h0, if_pos h1, if_pos h2]; simp [min2, h0, h1, h2]
      · rw [if_pos h0, if_pos h1, if_neg h2]; simp [min2, h2]
    · by_cases h2 : cellM 2 a = cellM 2 b
      · rw [if_pos h0, if_neg h1, if_pos h2]; simp [min2, h1]
      · rw [if_pos h0, if_neg h1, if_neg h2]; simp [min2, h1]
  · by_cases h1 : cellM 1 a = cellM 1 b
    · by_cases h2 : cellM 2 a = cellM 2 b
      · rw [if_neg h0, if_pos h1, if_pos h2]; simp [min2, h0]
      · rw [if_neg h0, if_pos h1, if_neg h2]; simp [min2, h0]
    · by_cases h2 : cellM 2 a = cellM 2 b
      · rw [if_neg h0, if_neg h1, if_pos h2]; simp [min2, h0]
      · rw [if_neg h0, if_neg h1, if_neg h2]; simp [min2, h0]

end Go.Ev
