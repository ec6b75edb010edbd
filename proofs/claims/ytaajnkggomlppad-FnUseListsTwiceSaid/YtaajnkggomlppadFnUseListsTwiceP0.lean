/- What the functions that the law reaches do, written as plain Lean. No statement is proved here. -/
import Derived.Test.YtaajnkggomlppadEvT
namespace Go.Ev
set_option linter.unusedVariables false
open Go
theorem br_iff {b : Bool} {A B : Prop} : br b A B ↔ (b = true → A) ∧ (b = false → B) := by cases b <;> simp [br]
theorem br_dec {p : Prop} [Decidable p] {A B : Prop} : br (decide p) A B ↔ (p → A) ∧ (¬ p → B) := by rw [br_iff]; simp
theorem br_beq {a b : Int} {A B : Prop} : br (a == b) A B ↔ (a = b → A) ∧ (a ≠ b → B) := by rw [br_iff]; simp
theorem br_bne {a b : Int} {A B : Prop} : br (a != b) A B ↔ (a ≠ b → A) ∧ (a = b → B) := by rw [br_iff]; simp
theorem br_not {b : Bool} {A B : Prop} : br (!b) A B ↔ br b B A := by cases b <;> simp [br]
theorem inR {x : Int} (h1 : -9223372036854775808 ≤ x) (h2 : x ≤ 9223372036854775807) : InR x := ⟨h1, h2⟩

section lists
variable {α : Type}
theorem drop_nil' {l : List α} {i : Nat} (h : l.drop i = []) : l.length ≤ i := by simpa using h
theorem drop_cons' {l : List α} {i : Nat} {x : α} {r : List α} (h : l.drop i = x :: r) : i < l.length ∧ (∀ d, l.getD i d = x) ∧ l[i]? = some x ∧ l.drop (i + 1) = r ∧ l.take (i + 1) = l.take i ++ [x] := by
  have hlt : i < l.length := by
    rcases Nat.lt_or_ge i l.length with h1 | h1
    · exact h1
    · rw [List.drop_eq_nil_of_le h1] at h; cases h
  have h2 := List.drop_eq_getElem_cons hlt
  rw [h] at h2
  injection h2 with h3 h4
  have h5 : l[i]? = some x := by rw [List.getElem?_eq_getElem hlt, h3]
  exact ⟨hlt, fun d => by simp [List.getD, h5], h5, h4.symm, by rw [List.take_succ_eq_append_getElem hlt, h3]⟩
end lists

/-- The place of a number, or -1. -/
def plcF : List Int → Int → Nat → Int
  | [], _, _ => -1
  | x :: r, n, i => if x = n then (i : Int) else plcF r n (i + 1)
def plc (l : List Int) (n : Int) : Int := plcF l n 0
theorem plcF_spec : ∀ (l : List Int) (n : Int) (i : Nat), (n ∉ l ∧ plcF l n i = -1) ∨ ∃ j, j < l.length ∧ l[j]? = some n ∧ (∀ q, q < j → l[q]? ≠ some n) ∧ plcF l n i = ((i + j : Nat) : Int)
  | [], n, i => .inl ⟨by simp, rfl⟩
  | x :: r, n, i => by
    by_cases h : x = n
    · subst h
      exact .inr ⟨0, by simp, rfl, fun q hq => by omega, by simp [plcF]⟩
    · rcases plcF_spec r n (i + 1) with ⟨h1, h2⟩ | ⟨j, h1, h2, h3, h4⟩
      · exact .inl ⟨by simp [Ne.symm h, h1], by simp [plcF, h, h2]⟩
      · refine .inr ⟨j + 1, by simp; omega, by simpa using h2, fun q hq => ?_, ?_⟩
        · cases q with
          | zero => simpa using h
          | succ q => simpa using h3 q (by omega)
        · simp only [plcF, h, if_false, h4]; omega
theorem plc_spec (l : List Int) (n : Int) : (n ∉ l ∧ plc l n = -1) ∨ ∃ j : Nat, j < l.length ∧ l[j]? = some n ∧ (∀ q, q < j → l[q]? ≠ some n) ∧ plc l n = (j : Int) := by
  have := plcF_spec l n 0
  simpa [plc] using this
theorem plc_pos {l : List Int} {n : Int} (h : n ∈ l) : ∃ j : Nat, j < l.length ∧ l[j]? = some n ∧ (∀ q, q < j → l[q]? ≠ some n) ∧ plc l n = (j : Int) := by
  rcases plc_spec l n with ⟨h1, _⟩ | h2
  · exact absurd h h1
  · exact h2
theorem plc_ge {l : List Int} {n : Int} : plc l n ≥ 0 ↔ n ∈ l := by
  rcases plc_spec l n with ⟨h1, h2⟩ | ⟨j, h1, h2, _, h3⟩
  · rw [h2]; simp [h1]
  · rw [h3]; simp [List.mem_of_getElem? h2]
theorem nodup_plc {l : List Int} : (∀ i : Nat, i < l.length → plc l (l.getD i 0) = (i : Int)) ↔ l.Nodup := by
  have hg : ∀ {i : Nat} (hi : i < l.length), l[i]? = some l[i] ∧ l.getD i 0 = l[i] := fun hi => ⟨List.getElem?_eq_getElem hi, by simp [List.getD, hi]⟩
  constructor
  · intro h
    refine List.pairwise_iff_getElem.2 fun i j hi hj hij e => ?_
    have h1 := h j hj
    rcases plc_spec l (l.getD j 0) with ⟨_, h2⟩ | ⟨q, h2, h3, h4, h5⟩
    · omega
    · have : q = j := by omega
      subst this
      exact h4 i hij (by rw [(hg hi).1, e, (hg hj).2])
  · intro hn i hi
    have hx : l[i]? = some (l.getD i 0) := by rw [(hg hi).1, (hg hi).2]
    rcases plc_spec l (l.getD i 0) with ⟨h1, _⟩ | ⟨q, h2, h3, h4, h5⟩
    · exact absurd (List.mem_of_getElem? hx) h1
    · have : q = i := by
        rcases Nat.lt_trichotomy q i with h | h | h
        · refine absurd ?_ (List.pairwise_iff_getElem.1 hn q i h2 hi h)
          have := h3.trans hx.symm
          rw [(hg h2).1, (hg hi).1] at this
          injection this
        · exact h
        · exact absurd hx (h4 i h)
      rw [h5, this]

/-- Valid keys. -/
def VKeys (l : List Int) (room : Int) : Prop := 1 ≤ room ∧ room ≤ 8 ∧ (l.length : Int) ≤ room ∧ (∀ x ∈ l, 0 ≤ x ∧ x ≤ 31) ∧ l.Nodup
def Bs (b : List Int) : Prop := b.length ≤ 2000 ∧ ∀ x ∈ b, 0 ≤ x ∧ x ≤ 255
theorem Bs.get {b : List Int} (h : Bs b) (i : Nat) : 0 ≤ b.getD i 0 ∧ b.getD i 0 ≤ 255 := by
  rcases Nat.lt_or_ge i b.length with hi | hi
  · have hx : b[i]? = some (b.getD i 0) := by simp [List.getD, hi]
    exact h.2 _ (List.mem_of_getElem? hx)
  · simp [List.getD, List.getElem?_eq_none hi]
/-- What a pick of n yields. -/
def Pk (n x : Int) : Prop := (n < 1 ∧ x = 0) ∨ (0 ≤ x ∧ x < n)
theorem ofInt_i64' (n : Nat) (h : n < 9223372036854775808) : (BitVec.ofInt 64 (n : Int)).toNat = n := by
  rw [BitVec.toNat_ofInt]; omega
theorem xor_nn (x y : Int) (hx : 0 ≤ x) (hx' : x < 9223372036854775808) (hy : 0 ≤ y) (hy' : y < 9223372036854775808) : 0 ≤ IntKind.i64.wrap ((BitVec.ofInt 64 x ^^^ BitVec.ofInt 64 y).toNat : Int) := by
  obtain ⟨a, rfl⟩ := Int.eq_ofNat_of_zero_le hx
  obtain ⟨b, rfl⟩ := Int.eq_ofNat_of_zero_le hy
  have hlt : a ^^^ b < 2 ^ 63 := Nat.xor_lt_two_pow (by omega) (by omega)
  have e : IntKind.i64.wrap ((BitVec.ofInt 64 (a : Int) ^^^ BitVec.ofInt 64 (b : Int)).toNat : Int) = ((a ^^^ b : Nat) : Int) := by
    rw [BitVec.toNat_xor, ofInt_i64' a (by omega), ofInt_i64' b (by omega), IntKind.wrap_i64]
    omega
  rw [e]; omega

def rmK (l : List Int) (key : Int) : List Int := l.filter (fun x => x != key)
def recM (l : List Int) (room key : Int) : List Int := (key :: rmK l key).take room.toNat
theorem mem_rmK {l : List Int} {key x : Int} : x ∈ rmK l key ↔ x ∈ l ∧ x ≠ key := by simp [rmK]
theorem rmK_not {l : List Int} {key : Int} (h : key ∉ l) : rmK l key = l := by
  unfold rmK
  rw [List.filter_eq_self]
  intro x hx
  have : x ≠ key := fun e => h (e ▸ hx)
  simpa using this
theorem rmK_nodup {l : List Int} {key : Int} (h : l.Nodup) : (rmK l key).Nodup := List.Pairwise.filter _ h
theorem rmK_le {l : List Int} {key : Int} : (rmK l key).length ≤ l.length := List.length_filter_le _ _
theorem rmK_cons_ne {l : List Int} {key x : Int} (h : x ≠ key) : rmK (x :: l) key = x :: rmK l key := by
  unfold rmK; rw [List.filter_cons_of_pos (by simpa using h)]
theorem rmK_cons_eq {l : List Int} {key : Int} : rmK (key :: l) key = rmK l key := by
  unfold rmK; rw [List.filter_cons_of_neg (by simp)]
theorem rmK_erase : ∀ {l : List Int} {key : Int} {j : Nat}, l.Nodup → l[j]? = some key → l.take j ++ l.drop (j + 1) = rmK l key
  | [], _, _, _, h => by simp at h
  | x :: r, key, 0, hn, h => by
    have e : x = key := by simpa using h
    subst e
    rw [rmK_cons_eq, rmK_not (List.nodup_cons.1 hn).1]; rfl
  | x :: r, key, j + 1, hn, h => by
    have h' : r[j]? = some key := by simpa using h
    have hne : x ≠ key := fun e => (List.nodup_cons.1 hn).1 (e ▸ List.mem_of_getElem? h')
    rw [rmK_cons_ne hne, ← rmK_erase (List.nodup_cons.1 hn).2 h']; rfl
theorem rmK_len {l : List Int} {key : Int} (hn : l.Nodup) (h : key ∈ l) : (rmK l key).length + 1 = l.length := by
  obtain ⟨j, hj, he⟩ := List.getElem_of_mem h
  have h2 : l[j]? = some key := by rw [List.getElem?_eq_getElem hj, he]
  rw [← rmK_erase hn h2]; simp; omega
theorem take_nodup {l : List Int} {n : Nat} (h : l.Nodup) : (l.take n).Nodup := List.Pairwise.sublist (List.take_sublist n l) h
theorem recM_hit {l : List Int} {room key : Int} (hn : l.Nodup) (hl : (l.length : Int) ≤ room) (h : key ∈ l) : recM l room key = key :: rmK l key := by
  have := rmK_len hn h
  exact List.take_of_length_le (by simp; omega)
theorem recM_miss {l : List Int} {room key : Int} (h : key ∉ l) : recM l room key = (key :: l).take room.toNat := by rw [recM, rmK_not h]
theorem recM_valid {l : List Int} {room key : Int} (v : VKeys l room) (hk : 0 ≤ key ∧ key ≤ 31) : VKeys (recM l room key) room := by
  obtain ⟨v1, v2, v3, v4, v5⟩ := v
  refine ⟨v1, v2, by simp only [recM, List.length_take]; omega, fun x hx => ?_, take_nodup ?_⟩
  · rcases List.mem_cons.1 (List.mem_of_mem_take hx) with rfl | h
    · exact hk
    · exact v4 x (mem_rmK.1 h).1
  · exact List.nodup_cons.2 ⟨fun h => (mem_rmK.1 h).2 rfl, rmK_nodup v5⟩
def VSegs (trial safe : Int) (new old : List Int) : Prop := VKeys new trial ∧ VKeys old safe ∧ ∀ x ∈ new, x ∉ old
/-- New, Old and hit behind the use of a key. -/
def segM (trial safe : Int) (new old : List Int) (key : Int) : List Int × List Int × Bool :=
  if key ∈ old then (new, key :: rmK old key, true)
  else if key ∈ new then ((if (old.length : Int) = safe then [old.getD (old.length - 1) 0] else []) ++ rmK new key, (key :: old).take safe.toNat, true)
  else ((key :: new).take trial.toNat, old, false)
theorem segM_valid {trial safe : Int} {new old : List Int} {key : Int} (v : VSegs trial safe new old) (hk : 0 ≤ key ∧ key ≤ 31) :
    VSegs trial safe (segM trial safe new old key).1 (segM trial safe new old key).2.1 := by
  obtain ⟨vn, vo, vd⟩ := v
  obtain ⟨n1, n2, n3, n4, n5⟩ := vn
  obtain ⟨o1, o2, o3, o4, o5⟩ := vo
  unfold segM
  split
  · rename_i h
    refine ⟨⟨n1, n2, n3, n4, n5⟩, ?_, fun x hx hx2 => ?_⟩
    · rw [← recM_hit o5 o3 h]; exact recM_valid ⟨o1, o2, o3, o4, o5⟩ hk
    · rcases List.mem_cons.1 hx2 with rfl | h2
      · exact vd _ hx h
      · exact vd _ hx (mem_rmK.1 h2).1
  · rename_i h
    split
    · rename_i hn
      have hlen := rmK_len n5 hn
      have hvo : VKeys ((key :: old).take safe.toNat) safe := by rw [← recM_miss h]; exact recM_valid ⟨o1, o2, o3, o4, o5⟩ hk
      split
      · rename_i hs
        have hlo : old.length ≠ 0 := by omega
        have hl : old[old.length - 1]? = some (old.getD (old.length - 1) 0) := by
          rw [List.getElem?_eq_getElem (by omega)]; simp [List.getD, List.getElem?_eq_getElem (show old.length - 1 < old.length by omega)]
        have hlm := List.mem_of_getElem? hl
        refine ⟨⟨n1, n2, by simp; omega, fun x hx => ?_, ?_⟩, hvo, fun x hx hx2 => ?_⟩
        · rcases List.mem_append.1 hx with h1 | h1
          · have e := List.mem_singleton.1 h1; rw [e]; exact o4 _ hlm
          · exact n4 x (mem_rmK.1 h1).1
        · rw [List.nodup_append]
          refine ⟨by simp, rmK_nodup n5, fun a ha b hb e => ?_⟩
          have e2 := List.mem_singleton.1 ha
          subst e; rw [e2] at hb
          exact vd _ (mem_rmK.1 hb).1 hlm
        · obtain ⟨s, hs2⟩ : ∃ s, safe.toNat = s + 1 := ⟨safe.toNat - 1, by omega⟩
          rw [hs2, List.take_succ_cons] at hx2
          rcases List.mem_append.1 hx with h1 | h1
          · have e := List.mem_singleton.1 h1
            rcases List.mem_cons.1 hx2 with e2 | h2
            · exact h (by rw [← e2, e]; exact hlm)
            · obtain ⟨i, hi, hie⟩ := List.getElem_of_mem h2
              rw [List.length_take] at hi
              rw [List.getElem_take] at hie
              have hlt : old.length - 1 < old.length := by omega
              refine List.pairwise_iff_getElem.1 o5 i (old.length - 1) (by omega) hlt (by omega) ?_
              rw [hie, e]; simp [List.getD, List.getElem?_eq_getElem hlt]
          · obtain ⟨h3, h4⟩ := mem_rmK.1 h1
            rcases List.mem_cons.1 hx2 with e2 | h2
            · exact h4 e2
            · exact vd _ h3 (List.mem_of_mem_take h2)
      · refine ⟨⟨n1, n2, by simp; omega, fun x hx => n4 x (mem_rmK.1 (by simpa using hx)).1, by simpa using rmK_nodup n5⟩, hvo, fun x hx hx2 => ?_⟩
        have hx := mem_rmK.1 (show x ∈ rmK new key by simpa using hx)
        rcases List.mem_cons.1 (List.mem_of_mem_take hx2) with e | h2
        · exact hx.2 e
        · exact vd _ hx.1 h2
    · rename_i hn
      refine ⟨?_, ⟨o1, o2, o3, o4, o5⟩, fun x hx hx2 => ?_⟩
      · rw [← recM_miss hn]; exact recM_valid ⟨n1, n2, n3, n4, n5⟩ hk
      · rcases List.mem_cons.1 (List.mem_of_mem_take hx) with rfl | h2
        · exact h hx2
        · exact vd _ h2 hx2
theorem nodup_le : ∀ {a b : List Int}, a.Nodup → (∀ x ∈ a, x ∈ b) → a.length ≤ b.length
  | [], _, _, _ => Nat.zero_le _
  | x :: r, b, hn, hs => by
    have hx : x ∈ b := hs x List.mem_cons_self
    have h1 := nodup_le (a := r) (b := b.erase x) (List.nodup_cons.1 hn).2 (fun y hy => by
      have hne : y ≠ x := fun e => (List.nodup_cons.1 hn).1 (e ▸ hy)
      exact (List.mem_erase_of_ne hne).2 (hs y (List.mem_cons_of_mem _ hy)))
    rw [List.length_erase_of_mem hx] at h1
    have := List.length_pos_of_mem hx
    simp; omega
theorem all_t {P : Prop} {k : Bool → Prop} (p : P) (h : k true) : ∀ b : Bool, (b = true ↔ P) → k b := fun b hb => by rw [hb.2 p]; exact h
theorem br_nt {A B : Prop} (h : B) : br (!true) A B := h
theorem br_same {b : Bool} {A B : Prop} (h : B) : br (!(b == b)) A B := by rw [beq_self_eq_true]; exact h
theorem some_of {l : List Int} {i : Nat} {d : Int} (h : i < l.length) : l[i]? = some (l.getD i d) := by
  rw [List.getD_eq_getElem?_getD, List.getElem?_eq_getElem h]; rfl
def VTrace (t : List Int) : Prop := t.length ≤ 24 ∧ ∀ x ∈ t, 0 ≤ x ∧ x ≤ 31
def toI (b : Bool) : Int := if b then 1 else 0
theorem mem_getD {l : List Int} {i : Nat} (h : i < l.length) : l.getD i 0 ∈ l := List.mem_of_getElem? (some_of h)
def runS (trial safe : Int) : List Int → List Int → List Int → Int → List Int × List Int × Int
  | [], a, b, n => (a, b, n)
  | x :: r, a, b, n => runS trial safe r (segM trial safe a b x).1 (segM trial safe a b x).2.1 (n + toI (segM trial safe a b x).2.2)
theorem segs0 {trial safe : Int} (h : 1 ≤ trial ∧ trial ≤ 8) (g : 1 ≤ safe ∧ safe ≤ 8) : VSegs trial safe [] [] :=
  ⟨⟨h.1, h.2, by simp; omega, by simp, by simp⟩, ⟨g.1, g.2, by simp; omega, by simp, by simp⟩, by simp⟩
theorem segM_hit {trial safe : Int} {new old : List Int} {key : Int} : (segM trial safe new old key).2.2 = decide (key ∈ new ∨ key ∈ old) := by
  unfold segM
  split
  · rename_i h; simp [h]
  · rename_i h
    split
    · rename_i g; simp [g]
    · rename_i g; simp [h, g]
theorem segM_old {trial safe : Int} {new old : List Int} {key : Int} (hs : 1 ≤ safe) (h : key ∈ new ∨ key ∈ old) : ∃ r, (segM trial safe new old key).2.1 = key :: r := by
  unfold segM
  split
  · exact ⟨_, rfl⟩
  · rename_i g
    rw [if_pos (h.resolve_right g)]
    obtain ⟨n, hn⟩ : ∃ n, safe.toNat = n + 1 := ⟨safe.toNat - 1, by omega⟩
    exact ⟨old.take n, by simp only [hn, List.take_succ_cons]⟩
theorem segM_miss {trial safe : Int} {new old : List Int} {key : Int} (h : ¬ (key ∈ new ∨ key ∈ old)) : segM trial safe new old key = ((key :: new).take trial.toNat, old, false) := by
  unfold segM
  rw [if_neg (fun g => h (.inr g)), if_neg (fun g => h (.inl g))]
theorem segM_sub {trial safe : Int} {new old : List Int} {key x : Int} (h : x ∈ (segM trial safe new old key).1 ∨ x ∈ (segM trial safe new old key).2.1) (hv : (old.length : Int) = safe → old ≠ []) : x = key ∨ x ∈ new ∨ x ∈ old := by
  revert h
  unfold segM
  split
  · intro h
    rcases h with h | h
    · exact .inr (.inl h)
    · rcases List.mem_cons.1 h with h | h
      · exact .inl h
      · exact .inr (.inr (mem_rmK.1 h).1)
  · split
    · intro h
      rcases h with h | h
      · rcases List.mem_append.1 h with h | h
        · split at h
          · rename_i hs
            have := hv hs
            rw [List.mem_singleton] at h
            rw [h]
            exact .inr (.inr (mem_getD (by have := List.length_pos_iff.2 this; omega)))
          · cases h
        · exact .inr (.inl (mem_rmK.1 h).1)
      · rcases List.mem_cons.1 (List.mem_of_mem_take h) with h | h
        · exact .inl h
        · exact .inr (.inr h)
    · intro h
      rcases h with h | h
      · rcases List.mem_cons.1 (List.mem_of_mem_take h) with h | h
        · exact .inl h
        · exact .inr (.inl h)
      · exact .inr (.inr h)
theorem vsegs_ne {trial safe : Int} {a b : List Int} (v : VSegs trial safe a b) : (b.length : Int) = safe → b ≠ [] := fun h e => by
  have := v.2.1.1; rw [e] at h; simp at h; omega
/-- How many numbers of a list are not in another. -/
def outN (a l : List Int) : Nat := (l.filter (fun x => !decide (x ∈ a))).length
theorem outN_cons {a l : List Int} {x : Int} : outN a (x :: l) = (if x ∈ a then 0 else 1) + outN a l := by
  unfold outN
  by_cases h : x ∈ a
  · rw [List.filter_cons_of_neg (by simp [h]), if_pos h]; omega
  · rw [List.filter_cons_of_pos (by simp [h]), if_neg h, List.length_cons]; omega
theorem outN_append {a l r : List Int} : outN a (l ++ r) = outN a l + outN a r := by simp [outN]
theorem outN_zero {a l : List Int} (h : ∀ x ∈ l, x ∈ a) : outN a l = 0 := by
  unfold outN
  rw [List.length_eq_zero_iff, List.filter_eq_nil_iff]
  intro x hx
  simp [h x hx]
theorem outN_le {a l : List Int} : outN a l ≤ l.length := List.length_filter_le _ _
theorem segM_keep {trial safe : Int} {new old : List Int} {key : Int} (v : VSegs trial safe new old) :
    ((segM trial safe new old key).2.2 = true → outN ((segM trial safe new old key).2.1 ++ (segM trial safe new old key).1) (old ++ new) = 0) ∧
    ((segM trial safe new old key).2.2 = false → outN ((segM trial safe new old key).2.1 ++ (segM trial safe new old key).1) (old ++ new) ≤ 1 ∧ (segM trial safe new old key).2.1 = old) := by
  obtain ⟨⟨n1, n2, n3, n4, n5⟩, ⟨o1, o2, o3, o4, o5⟩, vd⟩ := v
  unfold segM
  split
  · refine ⟨fun _ => outN_zero fun x hx => ?_, fun h => by cases h⟩
    by_cases e : x = key
    · subst e; simp
    · rcases List.mem_append.1 hx with h | h
      · exact List.mem_append.2 (.inl (List.mem_cons_of_mem _ (mem_rmK.2 ⟨h, e⟩)))
      · exact List.mem_append.2 (.inr h)
  · rename_i ho
    obtain ⟨s, hs⟩ : ∃ n, safe.toNat = n + 1 := ⟨safe.toNat - 1, by omega⟩
    split
    · refine ⟨fun _ => outN_zero fun x hx => ?_, fun h => by cases h⟩
      dsimp only
      rw [hs, List.take_succ_cons]
      by_cases e : x = key
      · subst e; simp
      · rcases List.mem_append.1 hx with h | h
        · rw [← List.take_append_drop s old] at h
          rcases List.mem_append.1 h with h | h
          · exact List.mem_append.2 (.inl (List.mem_cons_of_mem _ h))
          · have hl : (old.length : Int) = safe := by
              have := List.length_pos_of_mem h
              rw [List.length_drop] at this; omega
            rw [if_pos hl]
            have h2 : old.drop s = [old.getD (old.length - 1) 0] := by
              have hlt : s < old.length := by omega
              rw [List.drop_eq_getElem_cons hlt, List.drop_eq_nil_of_le (by omega)]
              have : old.length - 1 = s := by omega
              rw [this]; simp [List.getD, hlt]
            rw [h2] at h
            exact List.mem_append.2 (.inr (List.mem_append.2 (.inl h)))
        · exact List.mem_append.2 (.inr (List.mem_append.2 (.inr (mem_rmK.2 ⟨h, e⟩))))
    · refine ⟨fun h => (by cases h), fun _ => ⟨?_, rfl⟩⟩
      dsimp only
      obtain ⟨r, hr⟩ : ∃ n, trial.toNat = n + 1 := ⟨trial.toNat - 1, by omega⟩
      rw [hr, List.take_succ_cons, outN_append, outN_zero (l := old) (fun x hx => List.mem_append.2 (.inl hx))]
      have hd : new = new.take r ++ new.drop r := (List.take_append_drop r new).symm
      have h1 : outN (old ++ key :: new.take r) new = outN (old ++ key :: new.take r) (new.take r) + outN (old ++ key :: new.take r) (new.drop r) := by
        rw [← outN_append, ← hd]
      rw [h1, outN_zero (l := new.take r) (fun x hx => List.mem_append.2 (.inr (List.mem_cons_of_mem _ hx)))]
      have := @outN_le (old ++ key :: new.take r) (new.drop r)
      rw [List.length_drop] at this
      omega
theorem segM_in {trial safe : Int} {new old : List Int} {key : Int} (ht : 1 ≤ trial) (hs : 1 ≤ safe) : key ∈ (segM trial safe new old key).1 ∨ key ∈ (segM trial safe new old key).2.1 := by
  by_cases h : key ∈ new ∨ key ∈ old
  · obtain ⟨r, hr⟩ := segM_old (trial := trial) hs h
    exact .inr (by rw [hr]; exact List.mem_cons_self)
  · obtain ⟨n, hn⟩ : ∃ n, trial.toNat = n + 1 := ⟨trial.toNat - 1, by omega⟩
    rw [segM_miss h]
    exact .inl (by simp only [hn, List.take_succ_cons]; exact List.mem_cons_self)

def usedR : List Int → List Int → List Int
  | D, [] => D
  | D, x :: r => usedR (x :: rmK D x) r
abbrev Ent := Int × Int × Int
def Rar (a b : Ent) : Prop := a.2.1 < b.2.1 ∨ a.2.1 = b.2.1 ∧ a.2.2 < b.2.2
instance (a b : Ent) : Decidable (Rar a b) := by unfold Rar; infer_instance
theorem Rar.trans {a b c : Ent} (h : Rar a b) (g : Rar b c) : Rar a c := by unfold Rar at *; omega
theorem nodup_count : ∀ {l : List Int}, l.Nodup ↔ ∀ x, l.count x ≤ 1
  | [] => by simp
  | y :: r => by
    rw [List.nodup_cons, nodup_count (l := r)]
    constructor
    · intro ⟨h1, h2⟩ x
      rw [List.count_cons]
      by_cases e : y = x
      · subst e; rw [List.count_eq_zero_of_not_mem h1]; simp
      · rw [if_neg (by simpa using e)]; have := h2 x; omega
    · intro h
      refine ⟨fun hm => ?_, fun x => ?_⟩
      · have := h y
        rw [List.count_cons_self] at this
        have := List.count_pos_iff.2 hm
        omega
      · have := h x
        rw [List.count_cons] at this; omega
/-- Which keys are where, all different. -/
def D4 (o f wo wf : List Int) : Prop := ∀ x, o.count x + f.count x + wo.count x + wf.count x ≤ 1
theorem D4_nodup {o f wo wf : List Int} : (((o ++ f) ++ wo) ++ wf).Nodup ↔ D4 o f wo wf := by
  rw [nodup_count]; unfold D4; simp only [List.count_append]
theorem count_mem {l : List Int} {x : Int} : x ∈ l ↔ 0 < l.count x := List.count_pos_iff.symm
theorem count_not {l : List Int} {x : Int} : x ∉ l ↔ l.count x = 0 := List.count_eq_zero.symm
theorem count_rm {l : List Int} {key x : Int} : (rmK l key).count x = if x = key then 0 else l.count x := by
  split
  · rename_i e; subst e; exact List.count_eq_zero_of_not_mem fun h => (mem_rmK.1 h).2 rfl
  · rename_i e; exact List.count_filter (by simpa using e)
theorem count_con {l : List Int} {key x : Int} : (key :: l).count x = l.count x + if x = key then 1 else 0 := by
  rw [List.count_cons]
  by_cases e : x = key
  · subst e; simp
  · rw [if_neg (by simpa using (Ne.symm e)), if_neg e]
def lastI (l : List Int) : Int := l.getD (l.length - 1) 0
theorem last_split {l : List Int} (h : 0 < l.length) : l.take (l.length - 1) ++ [lastI l] = l := by
  have h2 : l.length - 1 < l.length := by omega
  have h3 : lastI l = l[l.length - 1] := by simp [lastI, List.getD, h2]
  rw [h3, ← List.take_succ_eq_append_getElem h2, show l.length - 1 + 1 = l.length by omega, List.take_length]
theorem count_last {l : List Int} (h : 0 < l.length) (x : Int) : (l.take (l.length - 1)).count x + (if x = lastI l then 1 else 0) = l.count x := by
  have := congrArg (List.count x) (last_split h)
  rw [List.count_append, count_con] at this
  simpa using this
theorem len_last {l : List Int} : (l.take (l.length - 1)).length = l.length - 1 := by simp
structure AL where
  t : Int
  o : List Int
  f : List Int
  wo : List Int
  wf : List Int
structure VLists (room : Int) (a : AL) : Prop where
  room1 : 1 ≤ room ∧ room ≤ 8
  tgt : 0 ≤ a.t ∧ a.t ≤ room
  inc : (a.o.length : Int) + a.f.length ≤ room
  onc : (a.o.length : Int) + a.wo.length ≤ room
  tot : (a.o.length : Int) + a.wo.length + a.f.length + a.wf.length ≤ 2 * room
  dis : D4 a.o a.f a.wo a.wf
  rng : ∀ x, x ∈ a.o ∨ x ∈ a.f ∨ x ∈ a.wo ∨ x ∈ a.wf → 0 ≤ x ∧ x ≤ 31
/-- The last key of Once, or of Often, leaves. -/
def mkRoom (was : Bool) (a : AL) : AL :=
  if (0 < a.o.length ∧ ((a.o.length : Int) > a.t ∨ was = true ∧ (a.o.length : Int) = a.t)) ∨ a.f.length = 0 then { a with o := a.o.take (a.o.length - 1), wo := lastI a.o :: a.wo }
  else { a with f := a.f.take (a.f.length - 1), wf := lastI a.f :: a.wf }
def fitL (room : Int) (was : Bool) (a : AL) : AL := if (a.o.length : Int) + a.f.length = room then mkRoom was a else a
def freshL (room : Int) (a : AL) (key : Int) : AL :=
  let b := if (a.o.length : Int) + a.wo.length = room ∧ 0 < a.wo.length then fitL room false { a with wo := a.wo.take (a.wo.length - 1) }
    else if (a.o.length : Int) + a.wo.length = room then { a with o := a.o.take (a.o.length - 1) }
    else fitL room false (if (a.o.length : Int) + a.wo.length + a.f.length + a.wf.length = 2 * room then { a with wf := a.wf.take (a.wf.length - 1) } else a)
  { b with o := key :: b.o }
def max1 (x : Int) : Int := if 1 < x then x else 1
def adM (room : Int) (a : AL) (key : Int) : AL × Bool :=
  if key ∈ a.o then ({ a with o := rmK a.o key, f := key :: a.f }, true)
  else if key ∈ a.f then ({ a with f := key :: rmK a.f key }, true)
  else if key ∈ a.wo then
    let b := fitL room false { a with t := (if a.t + max1 (Int.tdiv a.wf.length a.wo.length) < room then a.t + max1 (Int.tdiv a.wf.length a.wo.length) else room), wo := rmK a.wo key }
    ({ b with f := key :: b.f }, false)
  else if key ∈ a.wf then
    let b := fitL room true { a with t := (if 0 < a.t - max1 (Int.tdiv a.wo.length a.wf.length) then a.t - max1 (Int.tdiv a.wo.length a.wf.length) else 0), wf := rmK a.wf key }
    ({ b with f := key :: b.f }, false)
  else (freshL room a key, false)
/-- What a cache that has been made ready for a key keeps. -/
structure Fit (room : Int) (a b : AL) : Prop where
  t : b.t = a.t
  inc : (b.o.length : Int) + b.f.length < room ∨ (a.o.length : Int) + a.f.length < room ∧ b.o.length = a.o.length ∧ b.f.length = a.f.length
  onc : (b.o.length : Int) + b.wo.length = a.o.length + a.wo.length
  tot : b.o.length + b.wo.length + b.f.length + b.wf.length = a.o.length + a.wo.length + a.f.length + a.wf.length
  cnt : ∀ x, b.o.count x + b.f.count x + b.wo.count x + b.wf.count x = a.o.count x + a.f.count x + a.wo.count x + a.wf.count x
  ole : b.o.length ≤ a.o.length
  keep : ∃ e, ∀ x, x ∈ a.o ∨ x ∈ a.f → x = e ∨ x ∈ b.o ∨ x ∈ b.f
  all : (a.o.length : Int) + a.f.length < room → b = a
theorem fitL_ok {room : Int} (was : Bool) {a : AL} (hr : 1 ≤ room) (h : (a.o.length : Int) + a.f.length ≤ room) : Fit room a (fitL room was a) := by
  unfold fitL
  split
  · rename_i hf
    unfold mkRoom
    split
    · rename_i hc
      have hpos : 0 < a.o.length := by omega
      have hs := last_split hpos
      refine ⟨rfl, .inl ?_, ?_, ?_, fun x => ?_, ?_, ⟨lastI a.o, fun x hx => ?_⟩, fun h => by omega⟩
      · simp only [len_last]; omega
      · simp only [len_last, List.length_cons]; omega
      · simp only [len_last, List.length_cons]; omega
      · have := count_last hpos x
        simp only [count_con]; omega
      · simp only [len_last]; omega
      · rcases hx with h | h
        · rw [← hs] at h
          rcases List.mem_append.1 h with h | h
          · exact .inr (.inl h)
          · exact .inl (List.mem_singleton.1 h)
        · exact .inr (.inr h)
    · rename_i hc
      have hpos : 0 < a.f.length := by omega
      have hs := last_split hpos
      refine ⟨rfl, .inl ?_, rfl, ?_, fun x => ?_, Nat.le_refl _, ⟨lastI a.f, fun x hx => ?_⟩, fun h => by omega⟩
      · simp only [len_last]; omega
      · simp only [len_last, List.length_cons]; omega
      · have := count_last hpos x
        simp only [count_con]; omega
      · rcases hx with h | h
        · exact .inr (.inl h)
        · rw [← hs] at h
          rcases List.mem_append.1 h with h | h
          · exact .inr (.inr h)
          · exact .inl (List.mem_singleton.1 h)
  · rename_i hf
    exact ⟨rfl, .inr ⟨by omega, rfl, rfl⟩, rfl, rfl, fun _ => rfl, Nat.le_refl _, ⟨0, fun x hx => .inr hx⟩, fun _ => rfl⟩
theorem max1_pos (x : Int) : 1 ≤ max1 x := by unfold max1; split <;> omega
/-- In range, said by counts. -/
theorem rng_cnt {o f wo wf : List Int} {x : Int} : (x ∈ o ∨ x ∈ f ∨ x ∈ wo ∨ x ∈ wf) ↔ 0 < o.count x + f.count x + wo.count x + wf.count x := by
  rw [count_mem, count_mem, count_mem, count_mem]; omega
theorem cnt_rm_add {l : List Int} {key : Int} (h : l.count key = 1) (x : Int) : (rmK l key).count x + (if x = key then 1 else 0) = l.count x := by
  rw [count_rm]; split
  · rename_i e; subst e; omega
  · omega
theorem len_rm {l : List Int} {key : Int} (h : l.count key = 1) (hn : ∀ x, l.count x ≤ 1) : (rmK l key).length + 1 = l.length :=
  rmK_len (nodup_count.2 hn) (count_mem.2 (by omega))
theorem adM_valid {room : Int} {a : AL} {key : Int} (v : VLists room a) (hk : 0 ≤ key ∧ key ≤ 31) : VLists room (adM room a key).1 := by
  obtain ⟨r1, tg, i1, o1, t1, d1, g1⟩ := v
  have hno : ∀ x, a.o.count x ≤ 1 ∧ a.f.count x ≤ 1 ∧ a.wo.count x ≤ 1 ∧ a.wf.count x ≤ 1 := fun x => by have := d1 x; omega
  have hg : ∀ x, 0 < a.o.count x + a.f.count x + a.wo.count x + a.wf.count x → 0 ≤ x ∧ x ≤ 31 := fun x h => g1 x (rng_cnt.2 h)
  unfold adM
  split
  · rename_i h
    have hc : a.o.count key = 1 := by have := count_mem.1 h; have := hno key; omega
    have hl := len_rm hc fun x => (hno x).1
    have hcnt : ∀ x, (rmK a.o key).count x + (key :: a.f).count x + a.wo.count x + a.wf.count x = a.o.count x + a.f.count x + a.wo.count x + a.wf.count x := fun x => by
      have := cnt_rm_add hc x; rw [count_con]; omega
    refine ⟨r1, tg, ?_, ?_, ?_, fun x => ?_, fun x hx => hg x ?_⟩
    · simp only [List.length_cons]; omega
    · simp only []; omega
    · simp only [List.length_cons]; omega
    · have := d1 x; have := hcnt x; simp only []; omega
    · have := rng_cnt.1 hx; have := hcnt x; simp only [] at *; omega
  · split
    · rename_i h0 h
      have hc : a.f.count key = 1 := by have := count_mem.1 h; have := hno key; omega
      have hl := len_rm hc fun x => (hno x).2.1
      have hcnt : ∀ x, a.o.count x + (key :: rmK a.f key).count x + a.wo.count x + a.wf.count x = a.o.count x + a.f.count x + a.wo.count x + a.wf.count x := fun x => by
        have := cnt_rm_add hc x; rw [count_con]; omega
      refine ⟨r1, tg, ?_, o1, ?_, fun x => ?_, fun x hx => hg x ?_⟩
      · simp only [List.length_cons]; omega
      · simp only [List.length_cons]; omega
      · have := d1 x; have := hcnt x; simp only []; omega
      · have := rng_cnt.1 hx; have := hcnt x; simp only [] at *; omega
    · rename_i h1 h2
      have c1 := count_not.1 h1
      have c2 := count_not.1 h2
      split
      · rename_i h
        have hc : a.wo.count key = 1 := by have := count_mem.1 h; have := hno key; omega
        have hl := len_rm hc fun x => (hno x).2.2.1
        have hm := max1_pos (Int.tdiv a.wf.length a.wo.length)
        generalize hb : fitL room false { a with t := (if a.t + max1 (Int.tdiv a.wf.length a.wo.length) < room then a.t + max1 (Int.tdiv a.wf.length a.wo.length) else room), wo := rmK a.wo key } = b
        have hF := fitL_ok (was := false) (a := { a with t := (if a.t + max1 (Int.tdiv a.wf.length a.wo.length) < room then a.t + max1 (Int.tdiv a.wf.length a.wo.length) else room), wo := rmK a.wo key }) r1.1 i1
        rw [hb] at hF
        obtain ⟨b1, b2, b3, b4, b5, b6, b7, b8⟩ := hF
        simp only at b1 b2 b3 b4 b5 b6
        have hcnt : ∀ x, b.o.count x + (key :: b.f).count x + b.wo.count x + b.wf.count x = a.o.count x + a.f.count x + a.wo.count x + a.wf.count x := fun x => by
          have := cnt_rm_add hc x; have := b5 x; rw [count_con]; omega
        refine ⟨r1, ?_, ?_, ?_, ?_, fun x => ?_, fun x hx => hg x ?_⟩
        · simp only [b1]; split <;> omega
        · simp only [List.length_cons]; omega
        · simp only []; omega
        · simp only [List.length_cons]; omega
        · have := d1 x; have := hcnt x; simp only []; omega
        · have := rng_cnt.1 hx; have := hcnt x; simp only [] at *; omega
      · rename_i h3
        have c3 := count_not.1 h3
        split
        · rename_i h
          have hc : a.wf.count key = 1 := by have := count_mem.1 h; have := hno key; omega
          have hl := len_rm hc fun x => (hno x).2.2.2
          have hm := max1_pos (Int.tdiv a.wo.length a.wf.length)
          generalize hb : fitL room true { a with t := (if 0 < a.t - max1 (Int.tdiv a.wo.length a.wf.length) then a.t - max1 (Int.tdiv a.wo.length a.wf.length) else 0), wf := rmK a.wf key } = b
          have hF := fitL_ok (was := true) (a := { a with t := (if 0 < a.t - max1 (Int.tdiv a.wo.length a.wf.length) then a.t - max1 (Int.tdiv a.wo.length a.wf.length) else 0), wf := rmK a.wf key }) r1.1 i1
          rw [hb] at hF
          obtain ⟨b1, b2, b3, b4, b5, b6, b7, b8⟩ := hF
          simp only at b1 b2 b3 b4 b5 b6
          have hcnt : ∀ x, b.o.count x + (key :: b.f).count x + b.wo.count x + b.wf.count x = a.o.count x + a.f.count x + a.wo.count x + a.wf.count x := fun x => by
            have := cnt_rm_add hc x; have := b5 x; rw [count_con]; omega
          refine ⟨r1, ?_, ?_, ?_, ?_, fun x => ?_, fun x hx => hg x ?_⟩
          · simp only [b1]; split <;> omega
          · simp only [List.length_cons]; omega
          · simp only []; omega
          · simp only [List.length_cons]; omega
          · have := d1 x; have := hcnt x; simp only []; omega
          · have := rng_cnt.1 hx; have := hcnt x; simp only [] at *; omega
        · rename_i h4
          have c4 := count_not.1 h4
          -- a new key
          have hnew : ∀ b : AL, b.t = a.t → (b.o.length : Int) + b.f.length < room → (b.o.length : Int) + b.wo.length < room → (b.o.length : Int) + b.wo.length + b.f.length + b.wf.length < 2 * room →
              (∀ x, b.o.count x + b.f.count x + b.wo.count x + b.wf.count x ≤ a.o.count x + a.f.count x + a.wo.count x + a.wf.count x) → VLists room { b with o := key :: b.o } := by
            intro b e1 e2 e3 e4 e5
            refine ⟨r1, by simp only [e1]; exact tg, ?_, ?_, ?_, fun x => ?_, fun x hx => ?_⟩
            · simp only [List.length_cons]; omega
            · simp only [List.length_cons]; omega
            · simp only [List.length_cons]; omega
            · have h5 := e5 x
              have h6 := d1 x
              simp only [count_con]
              split
              · rename_i e; subst e; omega
              · omega
            · have h5 := e5 x
              have h7 := rng_cnt.1 hx
              simp only [count_con] at h7
              by_cases e : x = key
              · rw [e]; exact hk
              · rw [if_neg e] at h7; exact hg x (by omega)
          show VLists room (freshL room a key)
          unfold freshL
          simp only []
          split
          · rename_i hw
            have hF := fitL_ok (was := false) (a := { a with wo := a.wo.take (a.wo.length - 1) }) r1.1 i1
            generalize fitL room false { a with wo := a.wo.take (a.wo.length - 1) } = b at hF ⊢
            obtain ⟨b1, b2, b3, b4, b5, b6, b7, b8⟩ := hF
            simp only [len_last] at b1 b2 b3 b4 b5 b6
            refine hnew b b1 (by omega) (by omega) (by omega) fun x => ?_
            have := b5 x; have := count_last hw.2 x; omega
          · split
            · rename_i hw hw2
              have hpos : 0 < a.o.length := by omega
              refine hnew { a with o := a.o.take (a.o.length - 1) } rfl ?_ ?_ ?_ fun x => ?_
              · simp only [len_last]; omega
              · simp only [len_last]; omega
              · simp only [len_last]; omega
              · have := count_last hpos x; simp only []; omega
            · rename_i hw hw2
              split
              · rename_i hw3
                have hpos : 0 < a.wf.length := by omega
                have hF := fitL_ok (was := false) (a := { a with wf := a.wf.take (a.wf.length - 1) }) r1.1 i1
                generalize fitL room false { a with wf := a.wf.take (a.wf.length - 1) } = b at hF ⊢
                obtain ⟨b1, b2, b3, b4, b5, b6, b7, b8⟩ := hF
                simp only [len_last] at b1 b2 b3 b4 b5 b6
                refine hnew b b1 (by omega) (by omega) (by omega) fun x => ?_
                have := b5 x; have := count_last hpos x; omega
              · rename_i hw3
                have hF := fitL_ok (was := false) (a := a) r1.1 i1
                generalize fitL room false a = b at hF ⊢
                obtain ⟨b1, b2, b3, b4, b5, b6, b7, b8⟩ := hF
                exact hnew b b1 (by omega) (by omega) (by omega) fun x => by have := b5 x; omega
theorem adM_hit {room : Int} {a : AL} {key : Int} : (adM room a key).2 = decide (key ∈ a.o ∨ key ∈ a.f) := by
  unfold adM
  split
  · rename_i h; simp [h]
  · rename_i h1
    split
    · rename_i h; simp [h]
    · rename_i h2
      split
      · simp [h1, h2]
      · split <;> simp [h1, h2]
theorem adM_known {room : Int} {a : AL} {key : Int} (h : key ∈ a.o ∨ key ∈ a.f ∨ key ∈ a.wo ∨ key ∈ a.wf) : ∃ r, (adM room a key).1.f = key :: r := by
  unfold adM
  split
  · exact ⟨_, rfl⟩
  · rename_i h1
    split
    · exact ⟨_, rfl⟩
    · rename_i h2
      split
      · exact ⟨_, rfl⟩
      · rename_i h3
        rw [if_pos (((h.resolve_left h1).resolve_left h2).resolve_left h3)]
        exact ⟨_, rfl⟩
theorem adM_new {room : Int} {a : AL} {key : Int} (h : ¬ (key ∈ a.o ∨ key ∈ a.f ∨ key ∈ a.wo ∨ key ∈ a.wf)) : adM room a key = (freshL room a key, false) := by
  unfold adM
  rw [if_neg (fun g => h (.inl g)), if_neg (fun g => h (.inr (.inl g))), if_neg (fun g => h (.inr (.inr (.inl g)))), if_neg (fun g => h (.inr (.inr (.inr g))))]
theorem fitL_t {room : Int} {was : Bool} {a : AL} : (fitL room was a).t = a.t := by
  unfold fitL; split
  · unfold mkRoom; split <;> rfl
  · rfl
theorem freshL_t {room : Int} {a : AL} {key : Int} : (freshL room a key).t = a.t := by
  unfold freshL
  simp only []
  split
  · rw [fitL_t]
  · split
    · rfl
    · rw [fitL_t]; split <;> rfl
theorem adM_target {room : Int} {a : AL} {key : Int} (v : VLists room a) :
    (key ∈ a.wo → (adM room a key).1.t > a.t ∨ a.t = room ∧ (adM room a key).1.t = room) ∧
    (key ∉ a.wo → key ∈ a.wf → (adM room a key).1.t < a.t ∨ a.t = 0 ∧ (adM room a key).1.t = 0) ∧
    (key ∉ a.wo → key ∉ a.wf → (adM room a key).1.t = a.t) := by
  have d := v.dis key
  obtain ⟨t0, t1⟩ := v.tgt
  refine ⟨fun h => ?_, fun h1 h => ?_, fun h1 h2 => ?_⟩
  · have hc := count_mem.1 h
    have ho : key ∉ a.o := count_not.2 (by omega)
    have hf : key ∉ a.f := count_not.2 (by omega)
    have hm := max1_pos (Int.tdiv a.wf.length a.wo.length)
    unfold adM
    rw [if_neg ho, if_neg hf, if_pos h]
    simp only [fitL_t]
    split <;> omega
  · have hc := count_mem.1 h
    have ho : key ∉ a.o := count_not.2 (by omega)
    have hf : key ∉ a.f := count_not.2 (by omega)
    have hm := max1_pos (Int.tdiv a.wo.length a.wf.length)
    unfold adM
    rw [if_neg ho, if_neg hf, if_neg h1, if_pos h]
    simp only [fitL_t]
    split <;> omega
  · unfold adM
    split
    · rfl
    · split
      · rfl
      · first | exact freshL_t | (rw [if_neg h1, if_neg h2]; exact freshL_t)
theorem lists0 {room t : Int} (h : 1 ≤ room ∧ room ≤ 8) (g : 0 ≤ t ∧ t ≤ room) : VLists room ⟨t, [], [], [], []⟩ :=
  ⟨h, g, by simp; omega, by simp; omega, by simp; omega, fun x => by simp, fun x hx => by simp at hx⟩
theorem lists_len {room : Int} {a : AL} (v : VLists room a) : a.o.length ≤ 8 ∧ a.f.length ≤ 8 ∧ a.wo.length ≤ 8 ∧ a.wf.length ≤ 16 := by
  have := v.room1; have := v.inc; have := v.onc; have := v.tot
  omega
theorem mkRoom_len {was : Bool} {a : AL} (h : 0 < a.o.length + a.f.length) : (mkRoom was a).o.length ≤ a.o.length ∧ (mkRoom was a).f.length ≤ a.f.length ∧ (mkRoom was a).wo.length ≤ a.wo.length + 1 ∧ (mkRoom was a).wf.length ≤ a.wf.length + 1 := by
  unfold mkRoom
  split <;> simp

/-- The count of a key, 0 if it isn't there. -/
def OldC (l : List Ent) (key old : Int) : Prop := (key ∉ l.map (·.1) ∧ old = 0) ∨ ∃ e ∈ l, e.1 = key ∧ old = e.2.1
theorem OldC.here {l : List Ent} {key : Int} {x : Ent} (hx : x.1 = key) : OldC (l ++ [x]) key x.2.1 := .inr ⟨x, by simp, hx, rfl⟩
theorem adM_again {room : Int} {a : AL} {key : Int} (v : VLists room a) (h : key ∈ a.o ∨ key ∈ a.f) :
    (adM room a key).2 = true ∧ (∃ s, (adM room a key).1.f = key :: s) ∧ (adM room a key).1.t = a.t := by
  have dk := v.dis key
  refine ⟨by rw [adM_hit]; simpa using h, adM_known (by rcases h with h | h <;> simp [h]), (adM_target v).2.2 (fun c => ?_) (fun c => ?_)⟩
  · have := count_mem.1 c; rcases h with h | h <;> (have := count_mem.1 h; omega)
  · have := count_mem.1 c; rcases h with h | h <;> (have := count_mem.1 h; omega)
/-- A key that was used is in the cache. -/
theorem adM_in {room : Int} {a : AL} {key : Int} : key ∈ (adM room a key).1.o ∨ key ∈ (adM room a key).1.f := by
  by_cases h : key ∈ a.o ∨ key ∈ a.f ∨ key ∈ a.wo ∨ key ∈ a.wf
  · obtain ⟨s, hs⟩ := adM_known (room := room) h
    right; rw [hs]; simp
  · rw [adM_new h]
    left
    unfold freshL
    simp

def nextT (room : Int) (a : AL) (key : Int) : Int :=
  if key ∈ a.wo then (if a.t + max1 (Int.tdiv a.wf.length a.wo.length) < room then a.t + max1 (Int.tdiv a.wf.length a.wo.length) else room)
  else if key ∈ a.wf then (if 0 < a.t - max1 (Int.tdiv a.wo.length a.wf.length) then a.t - max1 (Int.tdiv a.wo.length a.wf.length) else 0)
  else a.t
def forgetL (room : Int) (a : AL) : AL :=
  if (a.o.length : Int) + a.wo.length = room ∧ 0 < a.wo.length then { a with wo := a.wo.take (a.wo.length - 1) }
  else if (a.o.length : Int) + a.wo.length = room then { a with o := a.o.take (a.o.length - 1) }
  else if (a.o.length : Int) + a.wo.length + a.f.length + a.wf.length = 2 * room then { a with wf := a.wf.take (a.wf.length - 1) } else a
def outL (room : Int) (a : AL) (key : Int) : AL := ⟨nextT room a key, rmK a.o key, rmK a.f key, rmK a.wo key, rmK a.wf key⟩
def knownL (a : AL) (key : Int) : Prop := key ∈ a.o ∨ key ∈ a.f ∨ key ∈ a.wf ∨ key ∈ a.wo
instance (a : AL) (key : Int) : Decidable (knownL a key) := by unfold knownL; infer_instance
def madeL (room : Int) (a : AL) (key : Int) : AL := fitL room (decide (key ∈ a.wf)) (if knownL a key then outL room a key else forgetL room (outL room a key))
def inL (kn : Prop) [Decidable kn] (key : Int) (b : AL) : AL := if kn then { b with f := key :: b.f } else { b with o := key :: b.o }
theorem fitL_no {room : Int} {was : Bool} {a : AL} (h : (a.o.length : Int) + a.f.length ≠ room) : fitL room was a = a := by unfold fitL; rw [if_neg h]
theorem useL_adM {room : Int} {a : AL} {key : Int} (v : VLists room a) : adM room a key = (inL (knownL a key) key (madeL room a key), decide (key ∈ a.o ∨ key ∈ a.f)) := by
  have dk := v.dis key
  have hno : ∀ x, a.o.count x ≤ 1 ∧ a.f.count x ≤ 1 ∧ a.wo.count x ≤ 1 ∧ a.wf.count x ≤ 1 := fun x => by have := v.dis x; omega
  have i1 := v.inc
  have o1 := v.onc
  have one : ∀ {l : List Int}, key ∈ l → 0 < l.count key := fun h => count_mem.1 h
  by_cases m1 : key ∈ a.o
  · have p1 := one m1
    have m2 : key ∉ a.f := count_not.2 (by omega)
    have m3 : key ∉ a.wo := count_not.2 (by omega)
    have m4 : key ∉ a.wf := count_not.2 (by omega)
    have hl := len_rm (by omega : a.o.count key = 1) fun x => (hno x).1
    have kn : knownL a key := .inl m1
    unfold adM inL madeL
    rw [if_pos m1, if_pos kn, if_pos kn, fitL_no (by simp only [outL, rmK_not m2]; omega)]
    simp [outL, nextT, m1, m3, m4, rmK_not m2, rmK_not m3, rmK_not m4]
  by_cases m2 : key ∈ a.f
  · have p2 := one m2
    have m3 : key ∉ a.wo := count_not.2 (by omega)
    have m4 : key ∉ a.wf := count_not.2 (by omega)
    have hl := len_rm (by omega : a.f.count key = 1) fun x => (hno x).2.1
    have kn : knownL a key := .inr (.inl m2)
    unfold adM inL madeL
    rw [if_neg m1, if_pos m2, if_pos kn, if_pos kn, fitL_no (by simp only [outL, rmK_not m1]; omega)]
    simp [outL, nextT, m2, m3, m4, rmK_not m1, rmK_not m3, rmK_not m4]
  by_cases m3 : key ∈ a.wo
  · have p3 := one m3
    have m4 : key ∉ a.wf := count_not.2 (by omega)
    have kn : knownL a key := .inr (.inr (.inr m3))
    unfold adM inL madeL
    rw [if_neg m1, if_neg m2, if_pos m3, if_pos kn, if_pos kn]
    simp [outL, nextT, m1, m2, m3, m4, rmK_not m1, rmK_not m2, rmK_not m4]
  by_cases m4 : key ∈ a.wf
  · have kn : knownL a key := .inr (.inr (.inl m4))
    unfold adM inL madeL
    rw [if_neg m1, if_neg m2, if_neg m3, if_pos m4, if_pos kn, if_pos kn]
    simp [outL, nextT, m1, m2, m3, m4, rmK_not m1, rmK_not m2, rmK_not m3]
  · have kn : ¬ knownL a key := fun c => by unfold knownL at c; simp_all
    unfold adM inL madeL
    rw [if_neg m1, if_neg m2, if_neg m3, if_neg m4, if_neg kn, if_neg kn]
    have e : outL room a key = a := by simp [outL, nextT, m3, m4, rmK_not m1, rmK_not m2, rmK_not m3, rmK_not m4]
    rw [e]
    simp only [m1, m2, m4, or_self, decide_false]
    have : freshL room a key = { fitL room false (forgetL room a) with o := key :: (fitL room false (forgetL room a)).o } := by
      unfold freshL forgetL
      split
      · rfl
      · split
        · rename_i h1 h2
          rw [fitL_no]
          simp only [len_last]; have := v.room1; omega
        · rfl
    rw [this]

/-- `Can room r C n`: with a cache `C` before the keys `r`, `n` hits are possible. -/
def Can (room : Nat) : List Int → List Int → Nat → Prop
  | [], _, n => n = 0
  | k :: r, C, n => ∃ D m, D.Nodup ∧ D.length ≤ room ∧ k ∈ D ∧ (∀ x ∈ D, x = k ∨ x ∈ C) ∧ Can room r D m ∧ n ≤ m + (if k ∈ C then 1 else 0)
theorem Can.less {room : Nat} : ∀ {r C : List Int} {n m : Nat}, Can room r C n → m ≤ n → Can room r C m
  | [], _, _, _, h, hm => by simp only [Can] at *; omega
  | k :: r, C, _, _, ⟨D, m, h1, h2, h3, h4, h5, h6⟩, hm => ⟨D, m, h1, h2, h3, h4, h5, by omega⟩
theorem Can.mono {room : Nat} : ∀ {r C D : List Int} {n : Nat}, Can room r C n → (∀ x ∈ C, x ∈ D) → Can room r D n
  | [], _, _, _, h, _ => h
  | k :: r, C, D, n, ⟨E, m, h1, h2, h3, h4, h5, h6⟩, hs => by
    refine ⟨E, m, h1, h2, h3, fun x hx => (h4 x hx).imp id (hs x), h5, ?_⟩
    by_cases hc : k ∈ C
    · rw [if_pos hc] at h6; rw [if_pos (hs k hc)]; exact h6
    · rw [if_neg hc] at h6; exact Nat.le_trans h6 (Nat.le_add_right _ _)
theorem Can.zero {room : Nat} (h : 1 ≤ room) : ∀ {r C : List Int}, Can room r C 0
  | [], _ => rfl
  | k :: r, C => ⟨[k], 0, by simp, by simpa using h, by simp, fun x hx => .inl (List.mem_singleton.1 hx), Can.zero h, by omega⟩
/-- A key less costs a hit at most. -/
theorem Can.minus {room : Nat} {y : Int} : ∀ {r C : List Int} {n : Nat}, Can room r C (n + 1) → Can room r (rmK C y) n
  | [], C, n, h => by simp only [Can] at h; omega
  | k :: r, C, n, ⟨D, m, h1, h2, h3, h4, h5, h6⟩ => by
    by_cases hy : k = y
    · subst hy
      refine ⟨D, m, h1, h2, h3, fun x hx => ?_, h5, ?_⟩
      · rcases h4 x hx with h | h
        · exact .inl h
        · by_cases e : x = k
          · exact .inl e
          · exact .inr (mem_rmK.2 ⟨h, e⟩)
      · split at h6 <;> omega
    · have hm : (k ∈ rmK C y) = (k ∈ C) := propext (by rw [mem_rmK]; exact and_iff_left hy)
      have hr : 1 ≤ room := by have := List.length_pos_of_mem h3; omega
      refine ⟨rmK D y, m - 1, rmK_nodup h1, by have := @rmK_le D y; omega, mem_rmK.2 ⟨h3, hy⟩, fun x hx => ?_, ?_, by simp only [hm]; omega⟩
      · obtain ⟨hx1, hx2⟩ := mem_rmK.1 hx
        exact (h4 x hx1).imp id fun h => mem_rmK.2 ⟨h, hx2⟩
      · cases m with
        | zero => exact Can.zero hr
        | succ m => exact Can.minus h5
/-- After how many keys a key comes: all of them if it does not. -/
def nxt (x : Int) : List Int → Nat
  | [] => 0
  | k :: r => if k = x then 0 else nxt x r + 1
/-- A key that comes sooner is better. -/
theorem Can.swap {room : Nat} {x y : Int} : ∀ {r C : List Int} {n : Nat}, Can room r (y :: C) n → C.Nodup → x ∉ C → y ∉ C → C.length + 1 ≤ room → nxt x r ≤ nxt y r → Can room r (x :: C) n
  | [], _, _, h, _, _, _, _, _ => h
  | k :: r, C, n, ⟨D, m, h1, h2, h3, h4, h5, h6⟩, hn, hx, hy, hc, hi => by
    by_cases exy : x = y
    · subst exy; exact ⟨D, m, h1, h2, h3, h4, h5, h6⟩
    by_cases ek : k = y
    · subst ek
      rw [nxt, nxt, if_pos rfl, if_neg (Ne.symm exy)] at hi
      omega
    by_cases ekx : k = x
    · -- the sooner one comes: a hit
      subst ekx
      have hmiss : ¬ k ∈ y :: C := by simp; exact ⟨ek, hx⟩
      rw [if_neg hmiss] at h6
      refine ⟨k :: C, m - 1, List.nodup_cons.2 ⟨hx, hn⟩, by simpa using hc, by simp, fun z hz => by simp at hz; exact hz.imp id fun h => by simp [h], ?_, by simp; omega⟩
      cases m with
      | zero => exact Can.zero (by omega)
      | succ m =>
        refine (Can.minus (y := y) h5).mono fun z hz => ?_
        obtain ⟨g1, g2⟩ := mem_rmK.1 hz
        rcases h4 z g1 with h | h
        · rw [h]; simp
        · rcases List.mem_cons.1 h with h | h
          · exact absurd h g2
          · exact List.mem_cons_of_mem _ h
    · -- another key
      have hik : nxt x r ≤ nxt y r := by
        rw [nxt, nxt, if_neg ekx, if_neg ek] at hi; omega
      have hb : (if k ∈ x :: C then 1 else 0) = (if k ∈ y :: C then 1 else 0) := by
        have : (k ∈ x :: C) ↔ (k ∈ y :: C) := by simp [ek, ekx]
        simp only [this]
      by_cases hyD : y ∈ D
      · by_cases hxD : x ∈ D
        · rcases h4 x hxD with h | h
          · exact absurd h.symm ekx
          · rcases List.mem_cons.1 h with h | h
            · exact absurd h exy
            · exact absurd h hx
        · refine ⟨x :: rmK D y, m, List.nodup_cons.2 ⟨fun h => hxD (mem_rmK.1 h).1, rmK_nodup h1⟩, ?_, List.mem_cons_of_mem _ (mem_rmK.2 ⟨h3, ek⟩), fun z hz => ?_, ?_, by rw [hb]; exact h6⟩
          · have := rmK_len h1 hyD; simp; omega
          · rcases List.mem_cons.1 hz with h | h
            · right; rw [h]; simp
            · obtain ⟨g1, g2⟩ := mem_rmK.1 h
              rcases h4 z g1 with h | h
              · exact .inl h
              · rcases List.mem_cons.1 h with h | h
                · exact absurd h g2
                · exact .inr (List.mem_cons_of_mem _ h)
          · refine Can.swap (y := y) (h5.mono fun z hz => ?_) (rmK_nodup h1) (fun h => hxD (mem_rmK.1 h).1) (fun h => (mem_rmK.1 h).2 rfl) (by have := rmK_len h1 hyD; omega) hik
            by_cases e : z = y
            · rw [e]; simp
            · exact List.mem_cons_of_mem _ (mem_rmK.2 ⟨hz, e⟩)
      · refine ⟨D, m, h1, h2, h3, fun z hz => ?_, h5, by rw [hb]; exact h6⟩
        rcases h4 z hz with h | h
        · exact .inl h
        · rcases List.mem_cons.1 h with h | h
          · rw [h] at hz; exact absurd hz hyD
          · exact .inr (List.mem_cons_of_mem _ h)
/-- Of the keys of a cache the one that comes last, of several the first one. -/
def farK (r : List Int) : List Int → Int → Int
  | [], b => b
  | x :: l, b => farK r l (if nxt b r < nxt x r then x else b)
theorem farK_mem (r : List Int) : ∀ (l : List Int) (b : Int), farK r l b ∈ b :: l
  | [], b => by simp [farK]
  | x :: l, b => by
    have := farK_mem r l (if nxt b r < nxt x r then x else b)
    unfold farK
    rcases List.mem_cons.1 this with h | h
    · rw [h]; split <;> simp
    · simp [h]
theorem farK_max (r : List Int) : ∀ (l : List Int) (b x : Int), x ∈ b :: l → nxt x r ≤ nxt (farK r l b) r
  | [], b, x, h => by simp at h; rw [h]; exact Nat.le_refl _
  | y :: l, b, x, h => by
    unfold farK
    have h1 := farK_max r l (if nxt b r < nxt y r then y else b) (if nxt b r < nxt y r then y else b) (by simp)
    rcases List.mem_cons.1 h with h | h
    · rw [h]; split at h1
      · rw [if_pos (by assumption)]; omega
      · rw [if_neg (by assumption)]; exact h1
    · rcases List.mem_cons.1 h with h | h
      · rw [h]; split at h1
        · rw [if_pos (by assumption)]; exact h1
        · rw [if_neg (by assumption)]; omega
      · exact farK_max r l _ x (List.mem_cons_of_mem _ h)
/-- The key that leaves a cache. -/
def farM (r : List Int) : List Int → Int
  | [] => 0
  | x :: l => farK r l x
theorem farM_mem {r C : List Int} (h : 0 < C.length) : farM r C ∈ C := by
  cases C with
  | nil => simp at h
  | cons x l => exact farK_mem r l x
theorem farM_max {r C : List Int} {x : Int} (h : x ∈ C) : nxt x r ≤ nxt (farM r C) r := by
  cases C with
  | nil => simp at h
  | cons y l => exact farK_max r l y x h
/-- The cache of the best policy after a miss. -/
def missB (room : Nat) (r C : List Int) (k : Int) : List Int := (if C.length = room then rmK C (farM r C) else C) ++ [k]
def bestM (room : Nat) : List Int → List Int → Nat
  | [], _ => 0
  | k :: r, C => if k ∈ C then bestM room r C + 1 else bestM room r (missB room r C k)
theorem missB_ok {room : Nat} {r C : List Int} {k : Int} (hr : 1 ≤ room) (hn : C.Nodup) (hc : C.length ≤ room) (hk : k ∉ C) : (missB room r C k).Nodup ∧ (missB room r C k).length ≤ room ∧ k ∈ missB room r C k ∧ ∀ x ∈ missB room r C k, x = k ∨ x ∈ C := by
  unfold missB
  split
  · rename_i hf
    have hm := farM_mem (r := r) (C := C) (by omega)
    have := rmK_len hn hm
    refine ⟨?_, by simp; omega, by simp, fun x hx => ?_⟩
    · rw [List.nodup_append]
      exact ⟨rmK_nodup hn, by simp, fun a ha b hb e => by simp at hb; subst hb; subst e; exact hk (mem_rmK.1 ha).1⟩
    · rcases List.mem_append.1 hx with h | h
      · exact .inr (mem_rmK.1 h).1
      · exact .inl (List.mem_singleton.1 h)
  · refine ⟨?_, by simp; omega, by simp, fun x hx => ?_⟩
    · rw [List.nodup_append]
      exact ⟨hn, by simp, fun a ha b hb e => by simp at hb; subst hb; subst e; exact hk ha⟩
    · rcases List.mem_append.1 hx with h | h
      · exact .inr h
      · exact .inl (List.mem_singleton.1 h)
/-- Of two lists of different keys the longer one has one that the other one has not. -/
theorem more_keys {C D : List Int} (hn : C.Nodup) (h : D.length < C.length) : ∃ y ∈ C, y ∉ D := by
  apply Classical.byContradiction
  intro hno
  have hs : ∀ y ∈ C, y ∈ D := fun y hy => Classical.byContradiction fun c => hno ⟨y, hy, c⟩
  have := nodup_le hn hs
  omega
theorem best_opt {room : Nat} (hr : 1 ≤ room) : ∀ {r C : List Int} {n : Nat}, Can room r C n → C.Nodup → C.length ≤ room → n ≤ bestM room r C
  | [], _, _, h, _, _ => by simp only [Can] at h; omega
  | k :: r, C, n, ⟨D, m, h1, h2, h3, h4, h5, h6⟩, hn, hc => by
    unfold bestM
    by_cases hk : k ∈ C
    · rw [if_pos hk] at h6 ⊢
      have := best_opt hr (h5.mono (D := C) fun x hx => (h4 x hx).elim (fun e => e ▸ hk) id) hn hc
      omega
    · rw [if_neg hk] at h6 ⊢
      obtain ⟨g1, g2, g3, g4⟩ := missB_ok (r := r) hr hn hc hk
      refine Nat.le_trans h6 (best_opt hr ?_ g1 g2)
      unfold missB at *
      by_cases hf : C.length = room
      · rw [if_pos hf] at *
        have hm := farM_mem (r := r) (C := C) (by omega)
        -- a key has left
        obtain ⟨y, y1, y2⟩ := more_keys (C := C) (D := rmK D k) hn (by have := rmK_len h1 h3; omega)
        have y3 : y ≠ k := fun e => hk (e ▸ y1)
        have y4 : y ∉ D := fun h => y2 (mem_rmK.2 ⟨h, y3⟩)
        by_cases hy : y = farM r C
        · refine h5.mono fun x hx => ?_
          rcases h4 x hx with h | h
          · rw [h]; simp
          · exact List.mem_append_left _ (mem_rmK.2 ⟨h, fun e => y4 (by rw [hy, ← e]; exact hx)⟩)
        · have hfk : farM r C ≠ k := fun e => hk (e ▸ hm)
          have hn2 : (k :: rmK (rmK C y) (farM r C)).Nodup := List.nodup_cons.2 ⟨fun h => hk (mem_rmK.1 (mem_rmK.1 h).1).1, rmK_nodup (rmK_nodup hn)⟩
          have l1 := rmK_len hn y1
          have l2 := rmK_len (rmK_nodup (key := y) hn) (mem_rmK.2 ⟨hm, Ne.symm hy⟩)
          have h7 : Can room r (farM r C :: k :: rmK (rmK C y) (farM r C)) m := h5.mono fun x hx => by
            rcases h4 x hx with h | h
            · rw [h]; simp
            · by_cases e : x = farM r C
              · rw [e]; simp
              · exact List.mem_cons_of_mem _ (List.mem_cons_of_mem _ (mem_rmK.2 ⟨mem_rmK.2 ⟨h, fun e2 => y4 (e2 ▸ hx)⟩, e⟩))
          have h8 := Can.swap (x := y) h7 hn2 (fun h => by
            rcases List.mem_cons.1 h with h | h
            · exact y3 h
            · exact (mem_rmK.1 (mem_rmK.1 h).1).2 rfl) (fun h => by
            rcases List.mem_cons.1 h with h | h
            · exact hfk h
            · exact (mem_rmK.1 h).2 rfl) (by simp; omega) (farM_max y1)
          refine h8.mono fun x hx => ?_
          rcases List.mem_cons.1 hx with h | h
          · rw [h]; exact List.mem_append_left _ (mem_rmK.2 ⟨y1, hy⟩)
          · rcases List.mem_cons.1 h with h | h
            · rw [h]; simp
            · obtain ⟨a1, a2⟩ := mem_rmK.1 h
              exact List.mem_append_left _ (mem_rmK.2 ⟨(mem_rmK.1 a1).1, a2⟩)
      · rw [if_neg hf] at *
        refine h5.mono fun x hx => ?_
        rcases h4 x hx with h | h
        · rw [h]; simp
        · exact List.mem_append_left _ h
theorem mem_usedR : ∀ {t D : List Int} {x : Int}, x ∈ usedR D t ↔ x ∈ D ∨ x ∈ t
  | [], D, x => by simp [usedR]
  | y :: t, D, x => by
    rw [usedR, mem_usedR (t := t), List.mem_cons, List.mem_cons, mem_rmK]
    by_cases e : x = y
    · simp [e]
    · simp [e]
theorem usedR_nodup : ∀ {t D : List Int}, D.Nodup → (usedR D t).Nodup
  | [], _, h => h
  | y :: t, D, h => usedR_nodup (t := t) (List.nodup_cons.2 ⟨fun h => (mem_rmK.1 h).2 rfl, rmK_nodup h⟩)
/-- How many different keys a trace has. -/
def nk (t : List Int) : Nat := (usedR [] t).length
theorem nk_of {t E : List Int} (hn : E.Nodup) (h : ∀ x, x ∈ E ↔ x ∈ t) : E.length = nk t := by
  refine Nat.le_antisymm (nodup_le hn fun x hx => mem_usedR.2 (.inr ((h x).1 hx))) (nodup_le (usedR_nodup (by simp)) fun x hx => (h x).2 ?_)
  exact (mem_usedR.1 hx).resolve_left (by simp)
theorem len_add {D : List Int} (hn : D.Nodup) (k : Int) : (k :: rmK D k).length = D.length + if k ∈ D then 0 else 1 := by
  rw [List.length_cons]
  split
  · rename_i h; exact rmK_len hn h
  · rename_i h; rw [rmK_not h]
/-- New keys are never there. -/
theorem can_new {room : Nat} : ∀ {r C D : List Int} {n : Nat}, Can room r C n → (∀ x ∈ C, x ∈ D) → D.Nodup → n + (usedR D r).length ≤ r.length + D.length
  | [], C, D, n, h, _, _ => by simp only [Can] at h; subst h; simp [usedR]
  | k :: r, C, D, n, ⟨E, m, h1, h2, h3, h4, h5, h6⟩, hs, hn => by
    have h7 := can_new (D := k :: rmK D k) h5 (fun x hx => by
      by_cases e : x = k
      · rw [e]; simp
      · exact List.mem_cons_of_mem _ (mem_rmK.2 ⟨hs x ((h4 x hx).resolve_left e), e⟩)) (List.nodup_cons.2 ⟨fun h => (mem_rmK.1 h).2 rfl, rmK_nodup hn⟩)
    rw [len_add hn] at h7
    rw [usedR, List.length_cons]
    by_cases hk : k ∈ C
    · rw [if_pos hk] at h6; rw [if_pos (hs k hk)] at h7; omega
    · rw [if_neg hk] at h6
      split at h7 <;> omega
/-- What a policy does to the keys of its cache: never more than `cap`, and while fewer than `free` are there, none leaves. -/
def Runs (cap free : Nat) : List Int → List Int → List Int → Nat → Prop
  | [], C, E, n => E = C ∧ n = 0
  | k :: r, C, E, n => ∃ D m, D.Nodup ∧ D.length ≤ cap ∧ k ∈ D ∧ (∀ x ∈ D, x = k ∨ x ∈ C) ∧ ((k ∈ C ∨ C.length < free) → ∀ x ∈ C, x ∈ D) ∧ (k ∉ C → free ≤ C.length → free ≤ D.length) ∧
      Runs cap free r D E m ∧ n = m + (if k ∈ C then 1 else 0)
theorem Runs.can {cap free : Nat} : ∀ {r C E : List Int} {n : Nat}, Runs cap free r C E n → Can cap r C n
  | [], _, _, _, h => h.2
  | k :: r, C, E, n, ⟨D, m, h1, h2, h3, h4, _, _, h7, h8⟩ => ⟨D, m, h1, h2, h3, h4, h7.can, by omega⟩
theorem Runs.best {cap free : Nat} {t E : List Int} {n : Nat} (hr : 1 ≤ cap) (h : Runs cap free t [] E n) : n ≤ bestM cap t [] := best_opt hr h.can (by simp) (by simp)
theorem Runs.new {cap free : Nat} {t E : List Int} {n : Nat} (h : Runs cap free t [] E n) : n + nk t ≤ t.length := by
  have := can_new (D := []) h.can (by simp) (by simp)
  simpa [nk] using this
theorem Runs.nodup {cap free : Nat} : ∀ {r C E : List Int} {n : Nat}, Runs cap free r C E n → C.Nodup → C.length ≤ cap → E.Nodup ∧ E.length ≤ cap
  | [], _, _, _, h, h1, h2 => by rw [h.1]; exact ⟨h1, h2⟩
  | k :: r, C, E, n, ⟨D, m, h1, h2, h3, h4, _, _, h7, h8⟩, _, _ => h7.nodup h1 h2
/-- All keys fit: none leaves. -/
theorem Runs.fit {cap free : Nat} : ∀ {r C D E : List Int} {n : Nat}, Runs cap free r C E n → C.Nodup → D.Nodup → (∀ x, x ∈ C ↔ x ∈ D) → (usedR D r).length ≤ free →
    n + (usedR D r).length = r.length + D.length ∧ ∀ x, x ∈ E ↔ x ∈ usedR D r
  | [], C, D, E, n, h, _, _, hs, _ => by rw [h.1, h.2]; exact ⟨by simp [usedR], hs⟩
  | k :: r, C, D, E, n, ⟨C', m, h1, h2, h3, h4, h5, h6, h7, h8⟩, hc, hn, hs, hl => by
    have hn2 : (k :: rmK D k).Nodup := List.nodup_cons.2 ⟨fun h => (mem_rmK.1 h).2 rfl, rmK_nodup hn⟩
    have hCD : C.length = D.length := Nat.le_antisymm (nodup_le hc fun x hx => (hs x).1 hx) (nodup_le hn fun x hx => (hs x).2 hx)
    rw [usedR] at hl ⊢
    have hmono : (k :: rmK D k).length ≤ (usedR (k :: rmK D k) r).length := nodup_le hn2 fun x hx => mem_usedR.2 (.inl hx)
    have hadd := len_add hn k
    have hkeep : ∀ x ∈ C, x ∈ C' := h5 (by
      by_cases hk : k ∈ C
      · exact .inl hk
      · right
        rw [if_neg (fun h => hk ((hs k).2 h))] at hadd
        omega)
    have hs2 : ∀ x, x ∈ C' ↔ x ∈ k :: rmK D k := fun x => by
      constructor
      · intro hx
        by_cases e : x = k
        · rw [e]; simp
        · exact List.mem_cons_of_mem _ (mem_rmK.2 ⟨(hs x).1 ((h4 x hx).resolve_left e), e⟩)
      · intro hx
        rcases List.mem_cons.1 hx with h | h
        · rw [h]; exact h3
        · exact hkeep x ((hs x).2 (mem_rmK.1 h).1)
    obtain ⟨g1, g2⟩ := h7.fit h1 hn2 hs2 hl
    refine ⟨?_, g2⟩
    rw [hadd] at g1
    rw [h8, List.length_cons]
    by_cases hk : k ∈ C
    · rw [if_pos hk]; rw [if_pos ((hs k).1 hk)] at g1; omega
    · rw [if_neg hk]; rw [if_neg (fun h => hk ((hs k).2 h))] at g1; omega
/-- A cache is full, or has all keys. -/
theorem Runs.full {cap free : Nat} : ∀ {r C D E : List Int} {n : Nat}, Runs cap free r C E n → C.Nodup → D.Nodup → (free ≤ C.length ∨ ∀ x, x ∈ C ↔ x ∈ D) → free ≤ E.length ∨ ∀ x, x ∈ E ↔ x ∈ usedR D r
  | [], C, D, E, n, h, _, _, hs => by rw [h.1]; exact hs
  | k :: r, C, D, E, n, ⟨C', m, h1, h2, h3, h4, h5, h6, h7, h8⟩, hc, hn, hs => by
    have hn2 : (k :: rmK D k).Nodup := List.nodup_cons.2 ⟨fun h => (mem_rmK.1 h).2 rfl, rmK_nodup hn⟩
    refine h7.full h1 hn2 ?_
    by_cases hf : free ≤ C.length
    · left
      by_cases hk : k ∈ C
      · exact Nat.le_trans hf (nodup_le hc (h5 (.inl hk)))
      · exact h6 hk hf
    · right
      have hs := hs.resolve_left hf
      have hkeep : ∀ x ∈ C, x ∈ C' := h5 (.inr (by omega))
      intro x
      constructor
      · intro hx
        by_cases e : x = k
        · rw [e]; simp
        · exact List.mem_cons_of_mem _ (mem_rmK.2 ⟨(hs x).1 ((h4 x hx).resolve_left e), e⟩)
      · intro hx
        rcases List.mem_cons.1 hx with h | h
        · rw [h]; exact h3
        · exact hkeep x ((hs x).2 (mem_rmK.1 h).1)
theorem outN_all {a l : List Int} (h : outN a l = 0) : ∀ x ∈ l, x ∈ a := by
  unfold outN at h
  rw [List.length_eq_zero_iff, List.filter_eq_nil_iff] at h
  intro x hx
  have := h x hx
  simpa using this
theorem outN_in {a : List Int} : ∀ (l : List Int), outN a l + (l.filter (fun x => decide (x ∈ a))).length = l.length
  | [] => rfl
  | x :: l => by
    have := outN_in (a := a) l
    rw [outN_cons, List.length_cons]
    by_cases h : x ∈ a
    · rw [if_pos h, List.filter_cons_of_pos (by simp [h]), List.length_cons]; omega
    · rw [if_neg h, List.filter_cons_of_neg (by simp [h])]; omega
theorem keep_full {C D : List Int} {k : Int} (hn : C.Nodup) (hk : k ∉ C) (hd : k ∈ D) (h : outN D C ≤ 1) : C.length ≤ D.length := by
  have h1 := outN_in (a := D) C
  have h2 : (k :: C.filter (fun x => decide (x ∈ D))).length ≤ D.length := nodup_le (List.nodup_cons.2 ⟨fun c => hk (List.mem_filter.1 c).1, List.Pairwise.filter _ hn⟩) fun x hx => by
    rcases List.mem_cons.1 hx with h | h
    · rw [h]; exact hd
    · simpa using (List.mem_filter.1 h).2
  rw [List.length_cons] at h2
  omega
theorem toI_if (p : Prop) [Decidable p] (m : Nat) (n : Int) : n + toI (decide p) + (m : Int) = n + ((m + (if p then 1 else 0) : Nat) : Int) := by
  by_cases h : p
  · simp [h, toI]; omega
  · simp [h, toI]
/-- What a step of a policy keeps. -/
def StepK (cap free : Nat) (C D : List Int) (k : Int) : Prop :=
  D.Nodup ∧ D.length ≤ cap ∧ k ∈ D ∧ (∀ x ∈ D, x = k ∨ x ∈ C) ∧ ((k ∈ C ∨ C.length < free) → ∀ x ∈ C, x ∈ D) ∧ (k ∉ C → free ≤ C.length → free ≤ D.length)
theorem Runs.step {cap free : Nat} {k : Int} {r C D E : List Int} {m : Nat} (h : StepK cap free C D k) (g : Runs cap free r D E m) : Runs cap free (k :: r) C E (m + if k ∈ C then 1 else 0) :=
  ⟨D, m, h.1, h.2.1, h.2.2.1, h.2.2.2.1, h.2.2.2.2.1, h.2.2.2.2.2, g, rfl⟩
theorem segs_nd {trial safe : Int} {new old : List Int} (v : VSegs trial safe new old) : (old ++ new).Nodup := by
  obtain ⟨⟨_, _, _, _, h1⟩, ⟨_, _, _, _, h2⟩, h3⟩ := v
  exact List.nodup_append.2 ⟨h2, h1, fun a ha b hb e => h3 b hb (e ▸ ha)⟩
theorem segM_step {trial safe : Int} {new old : List Int} {key : Int} (v : VSegs trial safe new old) (hk : 0 ≤ key ∧ key ≤ 31) :
    StepK (trial.toNat + safe.toNat) trial.toNat (old ++ new) ((segM trial safe new old key).2.1 ++ (segM trial safe new old key).1) key := by
  have hv := segM_valid v hk
  have hn := segs_nd v
  have hkeep := segM_keep (key := key) v
  have hin : key ∈ (segM trial safe new old key).2.1 ++ (segM trial safe new old key).1 := by
    rcases segM_in (trial := trial) (safe := safe) (new := new) (old := old) (key := key) v.1.1 v.2.1.1 with h | h
    · exact List.mem_append_right _ h
    · exact List.mem_append_left _ h
  have hhit : (segM trial safe new old key).2.2 = decide (key ∈ old ++ new) := by
    rw [segM_hit]; simp [or_comm]
  refine ⟨segs_nd hv, ?_, hin, fun x hx => ?_, fun h x hx => ?_, fun h1 h2 => ?_⟩
  · have := hv.1.2.2.1; have := hv.2.1.2.2.1; have := v.1.1; have := v.2.1.1
    rw [List.length_append]; omega
  · rcases segM_sub (x := x) (by rcases List.mem_append.1 hx with h | h; exact .inr h; exact .inl h) (vsegs_ne v) with h | h
    · exact .inl h
    · rcases h with h | h
      · exact .inr (List.mem_append_right _ h)
      · exact .inr (List.mem_append_left _ h)
  · by_cases hm : key ∈ old ++ new
    · exact outN_all (hkeep.1 (by rw [hhit]; exact decide_eq_true hm)) x hx
    · have hlt := h.resolve_left hm
      rw [List.length_append] at hlt
      rw [segM_miss (fun c => hm (by simp; exact c.symm))]
      rw [List.take_of_length_le (by simp; omega)]
      rcases List.mem_append.1 hx with h | h
      · exact List.mem_append_left _ h
      · exact List.mem_append_right _ (List.mem_cons_of_mem _ h)
  · have := keep_full hn h1 hin (hkeep.2 (by rw [hhit]; exact decide_eq_false h1)).1
    omega
theorem runS_runs {trial safe : Int} : ∀ (t a b : List Int) (n : Int), VSegs trial safe a b → (∀ x ∈ t, 0 ≤ x ∧ x ≤ 31) →
    ∃ m : Nat, Runs (trial.toNat + safe.toNat) trial.toNat t (b ++ a) ((runS trial safe t a b n).2.1 ++ (runS trial safe t a b n).1) m ∧ (runS trial safe t a b n).2.2 = n + m
  | [], a, b, n, _, _ => ⟨0, ⟨rfl, rfl⟩, by simp [runS]⟩
  | k :: t, a, b, n, v, ht => by
    have hk := ht k List.mem_cons_self
    obtain ⟨m, h1, h2⟩ := runS_runs t _ _ (n + toI (segM trial safe a b k).2.2) (segM_valid v hk) fun x hx => ht x (List.mem_cons_of_mem _ hx)
    refine ⟨_, h1.step (segM_step v hk), ?_⟩
    rw [runS, h2, show (segM trial safe a b k).2.2 = decide (k ∈ b ++ a) by rw [segM_hit]; simp [or_comm], toI_if]
theorem yes {P A B : Prop} (v : P) (h : A) : (P → A) ∧ (¬ P → B) := ⟨fun _ => h, fun c => absurd v c⟩
theorem usedR_len (t : List Int) : (usedR [] t).length = nk t := rfl
theorem runS_facts {t : List Int} {trial safe : Int} (v : VTrace t) (ht : 1 ≤ trial ∧ trial ≤ 8) (hs : 1 ≤ safe ∧ safe ≤ 8) :
    0 ≤ (runS trial safe t [] [] 0).2.2 ∧ (runS trial safe t [] [] 0).2.2 ≤ (bestM (trial + safe).toNat t [] : Int) ∧
    ((nk t : Int) ≤ trial → (runS trial safe t [] [] 0).2.2 + (nk t : Int) = t.length ∧ ((runS trial safe t [] [] 0).2.1 ++ (runS trial safe t [] [] 0).1).length = nk t) := by
  obtain ⟨m, h1, h2⟩ := runS_runs t [] [] 0 (segs0 ht hs) v.2
  have h3 : Runs (trial.toNat + safe.toNat) trial.toNat t [] ((runS trial safe t [] [] 0).2.1 ++ (runS trial safe t [] [] 0).1) m := h1
  have hb := h3.best (by omega)
  rw [show (trial + safe).toNat = trial.toNat + safe.toNat by omega]
  refine ⟨by omega, by omega, fun hk => ?_⟩
  obtain ⟨f1, f2⟩ := h3.fit (D := []) (by simp) (by simp) (fun x => Iff.rfl) (by rw [usedR_len]; omega)
  rw [usedR_len] at f1
  have hn := (h3.nodup (by simp) (by simp)).1
  simp only [List.length_nil] at f1
  exact ⟨by omega, nk_of hn fun x => by rw [f2 x, mem_usedR]; simp⟩
def VSk (s : List Int) : Prop := s.length = 24 ∧ ∀ x ∈ s, 0 ≤ x ∧ x ≤ 15
def cellM (row key : Int) : Int := row * 8 + Int.tmod (Int.tmod ((37 + 2 * row) * (key + row)) 101) 8
theorem cellM_range {row key : Int} (h0 : 0 ≤ row) (k0 : 0 ≤ key) : row * 8 ≤ cellM row key ∧ cellM row key < row * 8 + 8 := by
  have h1 : 0 ≤ (37 + 2 * row) * (key + row) := Int.mul_nonneg (by omega) (by omega)
  have h2 := Int.tmod_nonneg 101 h1
  have h3 := Int.tmod_nonneg 8 h2
  have h4 := Int.tmod_lt_of_pos (Int.tmod ((37 + 2 * row) * (key + row)) 101) (show (0 : Int) < 8 by omega)
  unfold cellM; omega
theorem VSk.get {s : List Int} (v : VSk s) (i : Nat) : 0 ≤ s.getD i 0 ∧ s.getD i 0 ≤ 15 := by
  by_cases h : i < s.length
  · exact v.2 _ (mem_getD h)
  · rw [List.getD_eq_getElem?_getD, List.getElem?_eq_none (by omega)]; simp
def min2 (a b : Int) : Int := if a < b then a else b
def countM (s : List Int) (key : Int) : Int := min2 (s.getD (cellM 2 key).toNat 0) (min2 (s.getD (cellM 1 key).toNat 0) (min2 (s.getD (cellM 0 key).toNat 0) 15))
theorem VSk.count {s : List Int} (v : VSk s) (key : Int) : 0 ≤ countM s key ∧ countM s key ≤ 15 := by
  have h0 := v.get (cellM 0 key).toNat
  have h1 := v.get (cellM 1 key).toNat
  have h2 := v.get (cellM 2 key).toNat
  unfold countM min2
  repeat' split
  all_goals omega
/-- Each counter of the key has the number, and all others are 0. -/
def Cnt (a n : Int) (s : List Int) : Prop := VSk s ∧ s.getD (cellM 0 a).toNat 0 = n ∧ s.getD (cellM 1 a).toNat 0 = n ∧ s.getD (cellM 2 a).toNat 0 = n ∧ ∀ j : Nat, j ≠ (cellM 0 a).toNat → j ≠ (cellM 1 a).toNat → j ≠ (cellM 2 a).toNat → s.getD j 0 = 0
theorem Cnt.other {a b : Int} {s : List Int} (v : Cnt a 15 s) (ha : 0 ≤ a) (hb : 0 ≤ b) : countM s b < 15 ↔ (cellM 0 a ≠ cellM 0 b ∨ cellM 1 a ≠ cellM 1 b ∨ cellM 2 a ≠ cellM 2 b) := by
  obtain ⟨vs, e0, e1, e2, eo⟩ := v
  have a0 := cellM_range (row := 0) (by omega) ha
  have a1 := cellM_range (row := 1) (by omega) ha
  have a2 := cellM_range (row := 2) (by omega) ha
  have b0 := cellM_range (row := 0) (by omega) hb
  have b1 := cellM_range (row := 1) (by omega) hb
  have b2 := cellM_range (row := 2) (by omega) hb
  have g0 : s.getD (cellM 0 b).toNat 0 = if cellM 0 a = cellM 0 b then 15 else 0 := by
    split
    · rename_i h; rw [← h]; exact e0
    · exact eo _ (by omega) (by omega) (by omega)
  have g1 : s.getD (cellM 1 b).toNat 0 = if cellM 1 a = cellM 1 b then 15 else 0 := by
    split
    · rename_i h; rw [← h]; exact e1
    · exact eo _ (by omega) (by omega) (by omega)
  have g2 : s.getD (cellM 2 b).toNat 0 = if cellM 2 a = cellM 2 b then 15 else 0 := by
    split
    · rename_i h; rw [← h]; exact e2
    · exact eo _ (by omega) (by omega) (by omega)
  unfold countM
  rw [g0, g1, g2]
  by_cases h0 : cellM 0 a = cellM 0 b
  · by_cases h1 : cellM 1 a = cellM 1 b
    · by_cases h2 : cellM 2 a = cellM 2 b
      · rw [if_pos h0, if_pos h1, if_pos h2]; simp [min2, h0, h1, h2]
      · rw [if_pos h0, if_pos h1, if_neg h2]; simp [min2, h2]
    · by_cases h2 : cellM 2 a = cellM 2 b
      · rw [if_pos h0, if_neg h1, if_pos h2]; simp [min2, h1]
      · rw [if_pos h0, if_neg h1, if_neg h2]; simp [min2, h1]
  · by_cases h1 : cellM 1 a = cellM 1 b
    · by_cases h2 : cellM 2 a = cellM 2 b
      · rw [if_neg h0, if_pos h1, if_pos h2]; simp [min2, h0]
      · rw [if_neg h0, if_pos h1, if_neg h2]; simp [min2, h0]
    · by_cases h2 : cellM 2 a = cellM 2 b
      · rw [if_neg h0, if_neg h1, if_pos h2]; simp [min2, h0]
      · rw [if_neg h0, if_neg h1, if_neg h2]; simp [min2, h0]

def PTm (l : List (Int × Int)) : Prop := (∀ e ∈ l, (0 ≤ e.1 ∧ e.1 ≤ 31) ∧ 0 ≤ e.2 ∧ e.2 ≤ 1000) ∧ l.Pairwise fun a b => a.1 < b.1
def VTm (l : List (Int × Int)) : Prop := l.length ≤ 12 ∧ PTm l
theorem PTm.filter {l : List (Int × Int)} (v : PTm l) (p : Int × Int → Bool) : PTm (l.filter p) := ⟨fun e he => v.1 e (List.mem_filter.1 he).1, v.2.filter p⟩
def putM (l : List (Int × Int)) (key until_ : Int) : List (Int × Int) := l.filter (fun e => decide (e.1 < key)) ++ (key, until_) :: l.filter (fun e => decide (key < e.1))
theorem PTm.put {l : List (Int × Int)} {key until_ : Int} (v : PTm l) (h1 : 0 ≤ key ∧ key ≤ 31) (h2 : 0 ≤ until_ ∧ until_ ≤ 1000) : PTm (putM l key until_) := by
  refine ⟨fun e he => ?_, List.pairwise_append.2 ⟨v.2.filter _, List.pairwise_cons.2 ⟨fun b hb => ?_, v.2.filter _⟩, fun a ha b hb => ?_⟩⟩
  · rcases List.mem_append.1 he with g | g
    · exact v.1 e (List.mem_filter.1 g).1
    · rcases List.mem_cons.1 g with g | g
      · rw [g]; exact ⟨h1, h2⟩
      · exact v.1 e (List.mem_filter.1 g).1
  · have := (List.mem_filter.1 hb).2
    exact of_decide_eq_true this
  · have h3 := of_decide_eq_true (List.mem_filter.1 ha).2
    rcases List.mem_cons.1 hb with g | g
    · rw [g]; exact h3
    · have h4 := of_decide_eq_true (List.mem_filter.1 g).2
      omega
theorem filter_none {l : List (Int × Int)} {p : Int × Int → Bool} (h : ∀ e ∈ l, p e = false) : l.filter p = [] := List.filter_eq_nil_iff.2 fun e he => by rw [h e he]; simp
def dropM (l : List (Int × Int)) (now : Int) : List (Int × Int) := l.filter fun e => decide (now ≤ e.2)
theorem dropM_len (l : List (Int × Int)) (now : Int) : (dropM l now).length ≤ l.length := List.length_filter_le _ _
theorem VTm.drop {l : List (Int × Int)} (v : VTm l) (now : Int) : VTm (dropM l now) := ⟨Nat.le_trans (dropM_len l now) v.1, v.2.filter _⟩
/-- Where a key is, or could be. -/
def lowT (l : List (Int × Int)) (key : Int) : Nat := (l.filter (fun e => decide (e.1 < key))).length
theorem PTm.low {l : List (Int × Int)} (v : PTm l) (key : Int) : l.filter (fun e => decide (e.1 < key)) = l.take (lowT l key) ∧ ∀ e ∈ l.drop (lowT l key), key ≤ e.1 := by
  have key : ∀ l : List (Int × Int), l.Pairwise (fun a b => a.1 < b.1) → l.filter (fun e => decide (e.1 < key)) = l.take (lowT l key) ∧ ∀ e ∈ l.drop (lowT l key), key ≤ e.1 := by
    intro l hp
    unfold lowT
    induction l with
    | nil => simp
    | cons x l ih =>
      obtain ⟨h1, h2⟩ := List.pairwise_cons.1 hp
      by_cases c : x.1 < key
      · rw [List.filter_cons_of_pos (by simpa using c), List.length_cons, List.take_succ_cons, List.drop_succ_cons]
        obtain ⟨i1, i2⟩ := ih h2
        exact ⟨by rw [← i1], i2⟩
      · have e0 : (x :: l).filter (fun e => decide (e.1 < key)) = [] := filter_none fun e he => decide_eq_false (by
          rcases List.mem_cons.1 he with g | g
          · rw [g]; exact c
          · have := h1 e g; omega)
        rw [e0]
        refine ⟨rfl, fun e he => ?_⟩
        rcases List.mem_cons.1 he with g | g
        · rw [g]; omega
        · have := h1 e g; omega
  exact key l v.2
def sumW : List (Int × Int) → Int
  | [] => 0
  | e :: r => e.2 + sumW r
theorem sumW_nonneg : ∀ {l : List (Int × Int)}, (∀ e ∈ l, 0 ≤ e.2) → 0 ≤ sumW l
  | [], _ => by simp [sumW]
  | e :: l, h => by
    have := h e List.mem_cons_self
    have := sumW_nonneg (l := l) fun x hx => h x (List.mem_cons_of_mem _ hx)
    rw [sumW]; omega
def PW (l : List (Int × Int)) : Prop := (∀ e ∈ l, (0 ≤ e.1 ∧ e.1 ≤ 31) ∧ 1 ≤ e.2 ∧ e.2 ≤ 20) ∧ (l.map (·.1)).Nodup
def VW (l : List (Int × Int)) (room : Int) : Prop := PW l ∧ (1 ≤ room ∧ room ≤ 50) ∧ sumW l ≤ room
theorem PW.sizes {l : List (Int × Int)} (v : PW l) : ∀ e ∈ l, 0 ≤ e.2 := fun e he => by have := (v.1 e he).2; omega
/-- The first ones that fit. -/
def cutM : List (Int × Int) → Int → List (Int × Int)
  | [], _ => []
  | e :: r, room => if e.2 ≤ room then e :: cutM r (room - e.2) else []
theorem cutM_len : ∀ (l : List (Int × Int)) (room : Int), (cutM l room).length ≤ l.length
  | [], _ => by simp [cutM]
  | e :: r, room => by
    rw [cutM]; split
    · simp only [List.length_cons]; have := cutM_len r (room - e.2); omega
    · simp
theorem cutM_take : ∀ (l : List (Int × Int)) (room : Int), cutM l room = l.take (cutM l room).length
  | [], _ => by simp [cutM]
  | e :: r, room => by
    rw [cutM]; split
    · rw [List.length_cons, List.take_succ_cons, ← cutM_take r (room - e.2)]
    · simp
theorem cutM_iff : ∀ {l : List (Int × Int)} {room : Int} {q : Nat}, (∀ e ∈ l, 0 ≤ e.2) → 0 ≤ room → q ≤ l.length → (sumW (l.take q) ≤ room ↔ q ≤ (cutM l room).length)
  | [], room, q, _, hr, hq => by
    have : q = 0 := by simpa using hq
    subst this; simp [sumW, hr]
  | e :: r, room, 0, _, hr, _ => by simp [sumW, hr]
  | e :: r, room, q + 1, h, hr, hq => by
    have he := h e List.mem_cons_self
    have hh : ∀ x ∈ r, 0 ≤ x.2 := fun x hx => h x (List.mem_cons_of_mem _ hx)
    rw [List.take_succ_cons, sumW, cutM]
    split
    · rename_i c
      have := cutM_iff (l := r) (room := room - e.2) (q := q) hh (by omega) (by simpa using hq)
      rw [List.length_cons]
      constructor
      · intro g; have := this.1 (by omega); omega
      · intro g; have := this.2 (by omega); omega
    · rename_i c
      have := sumW_nonneg (l := r.take q) fun x hx => hh x (List.mem_of_mem_take hx)
      simp; omega
theorem cutM_fits {l : List (Int × Int)} {room : Int} (h : ∀ e ∈ l, 0 ≤ e.2) (hr : 0 ≤ room) : sumW (cutM l room) ≤ room := by
  rw [cutM_take]; exact (cutM_iff h hr (cutM_len l room)).2 (Nat.le_refl _)
def othersW (l : List (Int × Int)) (key : Int) : List (Int × Int) := l.filter fun e => decide (e.1 ≠ key)
def allW (l : List (Int × Int)) (key size : Int) : List (Int × Int) := (key, size) :: othersW l key
theorem PW.all {l : List (Int × Int)} (v : PW l) {key size : Int} (hk : 0 ≤ key ∧ key ≤ 31) (hs : 1 ≤ size ∧ size ≤ 20) : PW (allW l key size) := by
  refine ⟨fun e he => ?_, ?_⟩
  · rcases List.mem_cons.1 he with g | g
    · rw [g]; exact ⟨hk, hs⟩
    · exact v.1 e (List.mem_filter.1 g).1
  · rw [allW, List.map_cons, List.nodup_cons]
    refine ⟨fun h => ?_, (v.2.sublist (List.Sublist.map _ List.filter_sublist))⟩
    obtain ⟨e, he, h2⟩ := List.mem_map.1 h
    exact absurd h2 (of_decide_eq_true (List.mem_filter.1 he).2)
theorem PW.take {l : List (Int × Int)} (v : PW l) (n : Nat) : PW (l.take n) :=
  ⟨fun e he => v.1 e (List.mem_of_mem_take he), v.2.sublist ((List.take_sublist _ _).map _)⟩
theorem PW.cut {l : List (Int × Int)} (v : PW l) {room : Int} (hr : 1 ≤ room ∧ room ≤ 50) : VW (cutM l room) room := by
  refine ⟨?_, hr, cutM_fits v.sizes (by omega)⟩
  rw [cutM_take]; exact v.take _
theorem getI_mem {l : List Int} {i : Nat} (h : i < l.length) : l.getD i 0 ∈ l := by
  rw [List.getD_eq_getElem?_getD, List.getElem?_eq_getElem h]; exact List.getElem_mem h
theorem getL_mem {l : List (Int × Int × Bool)} {i : Nat} (h : i < l.length) : l.getD i ((0 : Int), (0 : Int), false) ∈ l := by
  rw [List.getD_eq_getElem?_getD, List.getElem?_eq_getElem h]; exact List.getElem_mem h
theorem takeL {l : List (Int × Int × Bool)} {i : Nat} (h : i < l.length) : l.take (i + 1) = l.take i ++ [l.getD i ((0 : Int), (0 : Int), false)] := by
  rw [List.take_add_one, List.getD_eq_getElem?_getD, List.getElem?_eq_getElem h]; rfl
def VLn (l : List (Int × Int × Bool)) (room : Int) : Prop :=
  ((∀ e ∈ l, (0 ≤ e.1 ∧ e.1 ≤ 31) ∧ -1000 ≤ e.2.1 ∧ e.2.1 ≤ 1000) ∧ (l.map (·.1)).Nodup) ∧ (1 ≤ room ∧ room ≤ 8) ∧ (l.length : Int) ≤ room
def VSt (s : List Int) : Prop := s.length = 32 ∧ ∀ x ∈ s, -1000 ≤ x ∧ x ≤ 1000
def Clean (s : List Int) (l : List (Int × Int × Bool)) : Prop := ∀ e ∈ l, e.2.2 = false → e.2.1 = s.getD e.1.toNat 0
def VMem (s : List Int) (l : List (Int × Int × Bool)) (room : Int) : Prop := VSt s ∧ VLn l room ∧ Clean s l
/-- The line of a key, or one of the store. -/
def lnM (s : List Int) : List (Int × Int × Bool) → Int → Int × Int × Bool
  | [], key => (key, s.getD key.toNat 0, false)
  | e :: r, key => if e.1 = key then e else lnM s r key
def valM (s : List Int) (l : List (Int × Int × Bool)) (key : Int) : Int := (lnM s l key).2.1
theorem lnM_key (s : List Int) : ∀ (l : List (Int × Int × Bool)) (key : Int), (lnM s l key).1 = key
  | [], key => rfl
  | e :: r, key => by
    rw [lnM]; split
    · assumption
    · exact lnM_key s r key
theorem lnM_in {s : List Int} : ∀ {l : List (Int × Int × Bool)} {key : Int}, (∃ e ∈ l, e.1 = key) → lnM s l key ∈ l
  | [], key, h => by simp at h
  | e :: r, key, h => by
    rw [lnM]; split
    · exact List.mem_cons_self
    · rename_i hne
      obtain ⟨x, hx, e1⟩ := h
      rcases List.mem_cons.1 hx with rfl | hx
      · exact absurd e1 hne
      · exact List.mem_cons_of_mem _ (lnM_in ⟨x, hx, e1⟩)
theorem lnM_out {s : List Int} : ∀ {l : List (Int × Int × Bool)} {key : Int}, (∀ e ∈ l, e.1 ≠ key) → lnM s l key = (key, s.getD key.toNat 0, false)
  | [], key, h => rfl
  | e :: r, key, h => by rw [lnM, if_neg (h e List.mem_cons_self)]; exact lnM_out fun x hx => h x (List.mem_cons_of_mem _ hx)
/-- The lines but that of a key; where they fill the room, the last is left out. -/
def othL (l : List (Int × Int × Bool)) (key : Int) : List (Int × Int × Bool) := l.filter fun e => decide (e.1 ≠ key)
def accR (l : List (Int × Int × Bool)) (room key : Int) : List (Int × Int × Bool) := if ((othL l key).length : Int) = room then (othL l key).take ((othL l key).length - 1) else othL l key
def lastL (l : List (Int × Int × Bool)) : Int × Int × Bool := l.getD (l.length - 1) ((0 : Int), (0 : Int), false)
def accS (s : List Int) (l : List (Int × Int × Bool)) (room key : Int) : List Int := if ((othL l key).length : Int) = room then s.set (lastL (othL l key)).1.toNat (lastL (othL l key)).2.1 else s
def readM (s : List Int) (l : List (Int × Int × Bool)) (room key : Int) : List (Int × Int × Bool) := lnM s l key :: accR l room key
theorem othL_mem {l : List (Int × Int × Bool)} {key : Int} {e : Int × Int × Bool} : e ∈ othL l key ↔ e ∈ l ∧ e.1 ≠ key := by unfold othL; rw [List.mem_filter]; simp
theorem othL_out {l : List (Int × Int × Bool)} {key : Int} (h : ∀ e ∈ l, e.1 ≠ key) : othL l key = l := List.filter_eq_self.2 fun e he => decide_eq_true (h e he)
theorem othL_len (l : List (Int × Int × Bool)) (key : Int) : (othL l key).length ≤ l.length := List.length_filter_le _ _
theorem othL_lt {l : List (Int × Int × Bool)} {key : Int} (h : ∃ e ∈ l, e.1 = key) : (othL l key).length < l.length := by
  obtain ⟨e, he, e1⟩ := h
  rcases Nat.lt_or_ge (othL l key).length l.length with h | h
  · exact h
  · have := List.filter_eq_self.1 (List.Sublist.eq_of_length_le (List.filter_sublist (p := fun e : Int × Int × Bool => decide (e.1 ≠ key)) (l := l)) h) e he
    simp at this; exact absurd e1 this
theorem accR_sub {l : List (Int × Int × Bool)} {room key : Int} {e : Int × Int × Bool} (h : e ∈ accR l room key) : e ∈ othL l key := by
  unfold accR at h; split at h
  · exact List.mem_of_mem_take h
  · exact h
theorem accR_len {l : List (Int × Int × Bool)} {room key : Int} (h : (l.length : Int) ≤ room) (hr : 1 ≤ room) : ((accR l room key).length : Int) + 1 ≤ room := by
  have := othL_len l key
  unfold accR; split
  · rw [List.length_take]; omega
  · omega
theorem lastL_mem {l : List (Int × Int × Bool)} (h : 0 < l.length) : lastL l ∈ l := getL_mem (by omega)
theorem lastL_split {l : List (Int × Int × Bool)} (h : 0 < l.length) : l = l.take (l.length - 1) ++ [lastL l] := by
  have := takeL (l := l) (i := l.length - 1) (by omega)
  rw [show l.length - 1 + 1 = l.length by omega, List.take_length] at this
  exact this
/-- The room was full, and the key is not there. -/
theorem VMem.full {s : List Int} {l : List (Int × Int × Bool)} {room key : Int} (v : VMem s l room) (h : ((othL l key).length : Int) = room) : (∀ e ∈ l, e.1 ≠ key) ∧ othL l key = l ∧ 0 < l.length := by
  have hv := v.2.1.2
  have h0 : ∀ e ∈ l, e.1 ≠ key := fun e he e1 => by have := othL_lt ⟨e, he, e1⟩; omega
  exact ⟨h0, othL_out h0, by rw [othL_out h0] at h; omega⟩
theorem getD_setI {s : List Int} {i j : Nat} {x : Int} : (s.set i x).getD j 0 = if i = j ∧ j < s.length then x else s.getD j 0 := by
  rw [List.getD_eq_getElem?_getD, List.getD_eq_getElem?_getD, List.getElem?_set]
  by_cases h : i = j
  · subst h
    by_cases h2 : i < s.length
    · simp [h2]
    · simp [h2]
  · simp [h]
theorem VSt.set {s : List Int} (v : VSt s) {i : Nat} {x : Int} (h : -1000 ≤ x ∧ x ≤ 1000) : VSt (s.set i x) :=
  ⟨by rw [List.length_set]; exact v.1, fun y hy => by
    rcases List.mem_or_eq_of_mem_set hy with hy | rfl
    · exact v.2 y hy
    · exact h⟩
theorem VSt.get {s : List Int} (v : VSt s) {i : Nat} (h : i < 32) : -1000 ≤ s.getD i 0 ∧ s.getD i 0 ≤ 1000 := v.2 _ (getI_mem (by rw [v.1]; exact h))
theorem toNat_inj {a b : Int} (ha : 0 ≤ a) (hb : 0 ≤ b) (h : a.toNat = b.toNat) : a = b := by omega
/-- Of the store, only the value of the line that is left out. -/
theorem accS_get {s : List Int} {l : List (Int × Int × Bool)} {room key k : Int} (v : VMem s l room) (hk : 0 ≤ k ∧ k ≤ 31) :
    (accS s l room key).getD k.toNat 0 = if ((othL l key).length : Int) = room ∧ (lastL (othL l key)).1 = k then (lastL (othL l key)).2.1 else s.getD k.toNat 0 := by
  unfold accS
  split
  · rename_i h
    obtain ⟨h1, h2, h3⟩ := v.full h
    have hm : lastL (othL l key) ∈ l := by rw [h2]; exact lastL_mem h3
    have hr := (v.2.1.1.1 _ hm).1
    rw [getD_setI]
    by_cases e : (lastL (othL l key)).1 = k
    · rw [if_pos ⟨by rw [e], by rw [v.1.1]; omega⟩, if_pos ⟨h, e⟩]
    · rw [if_neg fun c => e (toNat_inj hr.1 hk.1 c.1), if_neg fun c => e c.2]
  · rename_i h; rw [if_neg fun c => h c.1]
theorem accS_ok {s : List Int} {l : List (Int × Int × Bool)} {room key : Int} (v : VMem s l room) : VSt (accS s l room key) := by
  unfold accS; split
  · rename_i h
    obtain ⟨h1, h2, h3⟩ := v.full h
    have hm : lastL (othL l key) ∈ l := by rw [h2]; exact lastL_mem h3
    exact v.1.set (v.2.1.1.1 _ hm).2
  · exact v.1
theorem nodup_othL {l : List (Int × Int × Bool)} (h : (l.map (·.1)).Nodup) (key : Int) : ((othL l key).map (·.1)).Nodup := h.sublist (List.filter_sublist.map _)
theorem nodup_accR {l : List (Int × Int × Bool)} (h : (l.map (·.1)).Nodup) (room key : Int) : ((accR l room key).map (·.1)).Nodup := by
  unfold accR; split
  · exact (nodup_othL h key).sublist ((List.take_sublist _ _).map _)
  · exact nodup_othL h key
/-- A line that stays is not the one that is left out. -/
theorem VMem.stays {s : List Int} {l : List (Int × Int × Bool)} {room key : Int} (v : VMem s l room) {e : Int × Int × Bool} (he : e ∈ accR l room key) : ¬ (((othL l key).length : Int) = room ∧ (lastL (othL l key)).1 = e.1) := by
  rintro ⟨h, e1⟩
  obtain ⟨h1, h2, h3⟩ := v.full h
  have hn := v.2.1.1.2
  unfold accR at he; rw [if_pos h, h2] at he; rw [h2] at e1
  rw [lastL_split h3, List.map_append, List.map_cons, List.map_nil] at hn
  exact (List.nodup_append.1 hn).2.2 e.1 (List.mem_map_of_mem (f := (·.1)) he) (lastL l).1 (by simp) e1.symm
theorem VMem.cleanR {s : List Int} {l : List (Int × Int × Bool)} {room key : Int} (v : VMem s l room) : Clean (accS s l room key) (accR l room key) := by
  intro e he hd
  have hm := othL_mem.1 (accR_sub he)
  rw [accS_get v (v.2.1.1.1 e hm.1).1, if_neg (v.stays he)]
  exact v.2.2 e hm.1 hd
theorem VMem.putFirst {s : List Int} {l : List (Int × Int × Bool)} {room key : Int} (v : VMem s l room) {x : Int × Int × Bool} (hk : 0 ≤ key ∧ key ≤ 31) (hx : x.1 = key) (h1 : -1000 ≤ x.2.1 ∧ x.2.1 ≤ 1000) (h2 : x.2.2 = false → x.2.1 = (accS s l room key).getD key.toNat 0) :
    VMem (accS s l room key) (x :: accR l room key) room := by
  refine ⟨accS_ok v, ⟨⟨fun e he => ?_, ?_⟩, v.2.1.2.1, ?_⟩, fun e he hd => ?_⟩
  · rcases List.mem_cons.1 he with rfl | he
    · exact ⟨by omega, h1⟩
    · exact v.2.1.1.1 e (othL_mem.1 (accR_sub he)).1
  · rw [List.map_cons, List.nodup_cons]
    refine ⟨fun h => ?_, nodup_accR v.2.1.1.2 room key⟩
    obtain ⟨e, he, e1⟩ := List.mem_map.1 h
    exact (othL_mem.1 (accR_sub he)).2 (e1.trans hx)
  · have := accR_len (key := key) v.2.1.2.2 v.2.1.2.1.1
    rw [List.length_cons]; omega
  · rcases List.mem_cons.1 he with rfl | he
    · rw [hx]; exact h2 hd
    · exact v.cleanR e he hd
theorem VMem.here {s : List Int} {l : List (Int × Int × Bool)} {room key : Int} (v : VMem s l room) : (lastL (othL l key)).1 ≠ key ∨ ¬ ((othL l key).length : Int) = room := by
  by_cases h : ((othL l key).length : Int) = room
  · obtain ⟨h1, h2, h3⟩ := v.full h
    refine .inl fun e => h1 _ ?_ e
    rw [h2]; exact lastL_mem h3
  · exact .inr h
theorem VMem.val_range {s : List Int} {l : List (Int × Int × Bool)} {room key : Int} (v : VMem s l room) (hk : 0 ≤ key ∧ key ≤ 31) : -1000 ≤ valM s l key ∧ valM s l key ≤ 1000 := by
  by_cases h : ∃ e ∈ l, e.1 = key
  · exact (v.2.1.1.1 _ (lnM_in h)).2
  · unfold valM; rw [lnM_out fun e he e1 => h ⟨e, he, e1⟩]; exact v.1.get (by omega)
theorem accS_key {s : List Int} {l : List (Int × Int × Bool)} {room key : Int} (v : VMem s l room) (hk : 0 ≤ key ∧ key ≤ 31) : (accS s l room key).getD key.toNat 0 = s.getD key.toNat 0 := by
  rw [accS_get v hk, if_neg fun c => (v.here (key := key)).elim (fun h => h c.2) fun h => h c.1]
theorem VMem.read {s : List Int} {l : List (Int × Int × Bool)} {room key : Int} (v : VMem s l room) (hk : 0 ≤ key ∧ key ≤ 31) : VMem (accS s l room key) (readM s l room key) room := by
  refine v.putFirst hk (lnM_key s l key) (v.val_range hk) fun hd => ?_
  rw [accS_key v hk]
  by_cases h : ∃ e ∈ l, e.1 = key
  · have := v.2.2 _ (lnM_in (s := s) h) hd
    rwa [lnM_key] at this
  · rw [lnM_out fun e he e1 => h ⟨e, he, e1⟩]
def VRat (hits uses : Int) : Prop := (1 ≤ uses ∧ uses ≤ 10000) ∧ 0 ≤ hits ∧ hits ≤ uses
def ratM (hits uses : Int) : Int := Int.tdiv (1000 * hits) uses
theorem VRat.ediv {h u : Int} (v : VRat h u) : ratM h u = 1000 * h / u := Int.tdiv_eq_ediv_of_nonneg (by have := v.2; omega)
theorem VRat.two {h u : Int} (v : VRat h u) : u * ratM h u ≤ 1000 * h ∧ 1000 * h < u * ratM h u + u := by
  rw [v.ediv]
  have h1 := v.1
  exact ⟨Int.mul_ediv_self_le (by omega), Int.lt_mul_ediv_self_add (by omega)⟩
/-- The best of some, the first of them. -/
def splitF (f : Nat → Int) : Nat → Int × Int
  | 0 => (1, -1)
  | n + 1 => if (splitF f n).2 < f (n + 1) then (((n + 1 : Nat) : Int), f (n + 1)) else splitF f n
theorem splitF_spec {f : Nat → Int} : ∀ {n : Nat}, (∀ i, 1 ≤ i → i ≤ n → 0 ≤ f i) → (n = 0 ∧ splitF f n = (1, -1)) ∨
    ∃ j : Nat, 1 ≤ j ∧ j ≤ n ∧ splitF f n = ((j : Int), f j) ∧ (∀ i, 1 ≤ i → i ≤ n → f i ≤ f j) ∧ ∀ i, 1 ≤ i → i < j → f i < f j
  | 0, _ => .inl ⟨rfl, rfl⟩
  | n + 1, h => by
    have hn := h (n + 1) (by omega) (by omega)
    rcases splitF_spec (n := n) (fun i h1 h2 => h i h1 (by omega)) with ⟨rfl, e⟩ | ⟨j, h1, h2, e, h4, h5⟩
    · refine .inr ⟨1, by omega, by omega, ?_, fun i h1 h2 => ?_, fun i h1 h2 => by omega⟩
      · rw [splitF, e, if_pos (by show (-1 : Int) < _; omega)]
      · rw [show i = 1 by omega]; exact Int.le_refl _
    · by_cases c : f j < f (n + 1)
      · refine .inr ⟨n + 1, by omega, by omega, by rw [splitF, e, if_pos c], fun i g1 g2 => ?_, fun i g1 g2 => ?_⟩
        · rcases Nat.lt_or_ge i (n + 1) with g | g
          · have := h4 i g1 (by omega); omega
          · rw [show i = n + 1 by omega]; exact Int.le_refl _
        · have := h4 i g1 (by omega); omega
      · refine .inr ⟨j, h1, by omega, by rw [splitF, e, if_neg c], fun i g1 g2 => ?_, h5⟩
        rcases Nat.lt_or_ge i (n + 1) with g | g
        · exact h4 i g1 (by omega)
        · rw [show i = n + 1 by omega]; omega
def hitsS (t : List Int) (room : Int) (i : Nat) : Int := (runS (i : Int) (room - i) t [] [] 0).2.2
def VSplit (t : List Int) (room : Int) : Prop := VTrace t ∧ 2 ≤ room ∧ room ≤ 8
def splitM (t : List Int) (room : Int) : Int := (splitF (hitsS t room) (room - 1).toNat).1
theorem VSplit.pos {t : List Int} {room : Int} (v : VSplit t room) {i : Nat} (h1 : 1 ≤ i) (h2 : (i : Int) < room) : 0 ≤ hitsS t room i ∧ hitsS t room i ≤ (bestM room.toNat t [] : Int) := by
  have hr := v.2
  have := runS_facts v.1 (trial := (i : Int)) (safe := room - i) ⟨by omega, by omega⟩ ⟨by omega, by omega⟩
  rw [show (i : Int) + (room - i) = room by omega] at this
  exact ⟨this.1, this.2.1⟩
theorem VSplit.spec {t : List Int} {room : Int} (v : VSplit t room) : ∃ j : Nat, 1 ≤ j ∧ (j : Int) < room ∧ splitM t room = j ∧ (∀ i : Nat, 1 ≤ i → (i : Int) < room → hitsS t room i ≤ hitsS t room j) ∧ ∀ i : Nat, 1 ≤ i → i < j → hitsS t room i < hitsS t room j := by
  have hr := v.2
  rcases splitF_spec (f := hitsS t room) (n := (room - 1).toNat) (fun i h1 h2 => (v.pos h1 (by omega)).1) with ⟨h, _⟩ | ⟨j, h1, h2, e, h4, h5⟩
  · omega
  · exact ⟨j, h1, by omega, by unfold splitM; rw [e], fun i g1 g2 => h4 i g1 (by omega), h5⟩
def decF : Nat → Int → List Int
  | 0, _ => []
  | f + 1, n => if n < 10 then [48 + n] else decF f (n / 10) ++ [48 + n % 10]
def decB (n : Int) : List Int := if n < 0 then 45 :: decF 5 (0 - n) else decF 5 n
theorem decF_more : ∀ {f : Nat} {n : Int}, 1 ≤ f → n < (10 ^ f : Nat) → decF (f + 1) n = decF f n
  | 0, n, h, _ => by omega
  | 1, n, _, h => by
    have h : n < 10 := h
    rw [decF, if_pos h, decF, if_pos h]
  | f + 2, n, _, h => by
    rw [decF]
    conv => rhs; rw [decF]
    split
    · rfl
    · rw [decF_more (f := f + 1) (by omega)]
      have : (10 ^ (f + 2) : Nat) = 10 * 10 ^ (f + 1) := by rw [Nat.pow_succ, Nat.mul_comm]
      omega
theorem decB_small {n : Int} (h0 : 0 ≤ n) (h : n < 10) : decB n = [48 + n] := by
  rw [decB, if_neg (by omega), decF, if_pos h]
theorem decB_big {n : Int} (h0 : 10 ≤ n) (h : n ≤ 9999) : decB n = decB (n / 10) ++ [48 + n % 10] := by
  rw [decB, if_neg (by omega), decF, if_neg (by omega), decB, if_neg (by omega), decF_more (f := 4) (by omega) (by show n / 10 < (10000 : Nat); omega)]
def BS (a : List Int) : Prop := ∀ x ∈ a, 0 ≤ x ∧ x ≤ 255
theorem BS.take {a : List Int} (h : BS a) (i : Nat) : BS (a.take i) := fun x hx => h x (List.mem_of_mem_take hx)
theorem BS.drop {a : List Int} (h : BS a) (i : Nat) : BS (a.drop i) := fun x hx => h x (List.mem_of_mem_drop hx)
theorem BS.one {x : Int} (h : 0 ≤ x ∧ x ≤ 255) : BS [x] := fun y hy => by rw [List.mem_singleton.1 hy]; exact h
/-- The letters of a number. -/
theorem decF_digits : ∀ {f : Nat} {n x : Int}, 0 ≤ n → x ∈ decF f n → 48 ≤ x ∧ x ≤ 57
  | 0, _, _, _, h => by simp [decF] at h
  | f + 1, n, x, h0, h => by
    rw [decF] at h
    split at h
    · rw [List.mem_singleton.1 h]; omega
    · rcases List.mem_append.1 h with h | h
      · exact decF_digits (by omega) h
      · rw [List.mem_singleton.1 h]; omega
theorem decF_ne : ∀ {f : Nat} {n : Int}, 1 ≤ f → decF f n ≠ []
  | 0, _, h => by omega
  | f + 1, n, _ => by rw [decF]; split <;> simp
/-- The number of digits. -/
def valD (n : Int) : List Int → Int
  | [] => n
  | x :: r => valD (10 * n + x - 48) r
theorem valD_snoc : ∀ (a : List Int) (n x : Int), valD n (a ++ [x]) = 10 * valD n a + x - 48
  | [], n, x => rfl
  | y :: a, n, x => valD_snoc a _ x
theorem valD_dec : ∀ {f : Nat} {n : Int}, 0 ≤ n → n < (10 ^ f : Nat) → 1 ≤ f → valD 0 (decF f n) = n
  | 0, n, _, _, h => by omega
  | f + 1, n, h0, h, _ => by
    rw [decF]; split
    · show 10 * 0 + (48 + n) - 48 = n; omega
    · rw [valD_snoc]
      have e : (10 ^ (f + 1) : Nat) = 10 * 10 ^ f := by rw [Nat.pow_succ, Nat.mul_comm]
      by_cases hf : f = 0
      · subst hf; have : n < 10 := h; omega
      · rw [valD_dec (f := f) (by omega) (by omega) (by omega)]; omega
/-- The value of letters read so far; a sign in front is passed over. -/
def valS (a : List Int) : Int := if a.getD 0 0 = 45 then valD 0 (a.drop 1) else valD 0 a
theorem decF_first {f : Nat} {n : Int} (hf : 1 ≤ f) (h : 0 ≤ n) : (decF f n).getD 0 0 ≠ 45 := by
  cases e : decF f n with
  | nil => exact absurd e (decF_ne hf)
  | cons x r =>
    have := decF_digits (f := f) (x := x) h (by rw [e]; exact List.mem_cons_self)
    show x ≠ 45
    omega
theorem valS_dec {m : Int} (h : -9999 ≤ m ∧ m ≤ 9999) : ((decB m).getD 0 0 = 45 ↔ m < 0) ∧ valS (decB m) = if m < 0 then 0 - m else m := by
  unfold valS decB
  by_cases c : m < 0
  · rw [if_pos c, if_pos c]
    refine ⟨⟨fun _ => c, fun _ => rfl⟩, ?_⟩
    rw [if_pos (show (45 :: decF 5 (0 - m)).getD 0 0 = 45 from rfl)]
    exact valD_dec (by omega) (by show 0 - m < (100000 : Nat); omega) (by omega)
  · rw [if_neg c, if_neg c]
    have h1 := decF_first (f := 5) (n := m) (by omega) (by omega)
    refine ⟨⟨fun e => absurd e h1, fun e => absurd e c⟩, ?_⟩
    rw [if_neg h1]
    exact valD_dec (by omega) (by show m < (100000 : Nat); omega) (by omega)
def NumB (a : List Int) (n : Int) : Prop := (-9999 ≤ n ∧ n ≤ 9999) ∧ decB n = a ∧ a.length ≤ 4
theorem NumB.one {a : List Int} {n m : Int} (h : NumB a n) (h' : NumB a m) : n = m := by
  have h1 := valS_dec h.1
  have h2 := valS_dec h'.1
  rw [h.2.1] at h1
  rw [h'.2.1] at h2
  have e1 := h1.1.symm.trans h2.1
  have e2 := h1.2.symm.trans h2.2
  by_cases c : n < 0
  · rw [if_pos c, if_pos (e1.1 c)] at e2; omega
  · rw [if_neg c, if_neg (fun d => c (e1.2 d))] at e2; exact e2
theorem decB_short {n : Int} (h : 0 ≤ n ∧ n ≤ 99) : (decB n).length ≤ 2 := by
  by_cases c : n < 10
  · rw [decB_small h.1 c]; simp
  · rw [decB_big (by omega) (by omega), decB_small (by omega) (by omega)]; simp
theorem NumB.of {n : Int} (h : 0 ≤ n ∧ n ≤ 99) : NumB (decB n) n := ⟨⟨by omega, by omega⟩, rfl, by have := decB_short h; omega⟩
-- spec.newReader
def G_spec_newReader (code0 : List Int) (k : List Int → Int → Prop) : Prop :=
  br (decide ((code0.length : Int) > 2000))
  ((0 ≤ (2000 : Int) ∧ 2000 ≤ (code0.length : Int)) ∧
    k (List.take 2000 code0) 0)
  (k code0 0)
def S_spec_newReader (code0 : List Int) (k : List Int → Int → Prop) : Prop := G_spec_newReader code0 k
def F_spec_newReader (code : List Int) (k : List Int → Int → Prop) : Prop := (∀ x ∈ code, 0 ≤ x ∧ x ≤ 255) ∧ ∀ b, Bs b → k b 0
theorem F_spec_newReader_S {code : List Int} {k : List Int → Int → Prop} (h : F_spec_newReader code k) : S_spec_newReader code k := by
  obtain ⟨hb, hk⟩ := h
  simp only [S_spec_newReader, G_spec_newReader, br_dec]
  refine ⟨fun h1 => ⟨⟨by omega, by omega⟩, hk _ ⟨by simp; omega, fun x hx => hb x (List.mem_of_mem_take hx)⟩⟩, fun h1 => hk _ ⟨by omega, hb⟩⟩
-- (*spec.reader).pick
def G_spec_reader_pick (r0b : List Int) (r0p : Int) (n1 : Int) (k : Int → List Int → Int → Prop) : Prop :=
  InR (r0p + 1) ∧
  br (decide (n1 < 1))
  (k 0 r0b (r0p + 1))
  (br ((r0b.length : Int) == 0)
    (k 0 r0b (r0p + 1))
    (InR ((r0p + 1) - 1) ∧
      br (decide (((r0p + 1) - 1) < (r0b.length : Int)))
      ((0 ≤ ((r0p + 1) - 1) ∧ ((r0p + 1) - 1) < (r0b.length : Int)) ∧
        InR (List.getD r0b (Int.toNat ((r0p + 1) - 1)) (0 : Int)) ∧
        (n1 ≠ 0) ∧
        k (Int.tmod (List.getD r0b (Int.toNat ((r0p + 1) - 1)) (0 : Int)) n1) r0b (r0p + 1))
      (((r0b.length : Int) ≠ 0) ∧
        (0 ≤ (Int.tmod ((r0p + 1) - 1) (r0b.length : Int)) ∧ (Int.tmod ((r0p + 1) - 1) (r0b.length : Int)) < (r0b.length : Int)) ∧
        InR (List.getD r0b (Int.toNat (Int.tmod ((r0p + 1) - 1) (r0b.length : Int))) (0 : Int)) ∧
        InR ((List.getD r0b (Int.toNat (Int.tmod ((r0p + 1) - 1) (r0b.length : Int))) (0 : Int)) * 131) ∧
        InR (((r0p + 1) - 1) * 7) ∧
        InR ((((r0p + 1) - 1) * 7) + 3) ∧
        ((r0b.length : Int) ≠ 0) ∧
        (0 ≤ (Int.tmod ((((r0p + 1) - 1) * 7) + 3) (r0b.length : Int)) ∧ (Int.tmod ((((r0p + 1) - 1) * 7) + 3) (r0b.length : Int)) < (r0b.length : Int)) ∧
        InR (List.getD r0b (Int.toNat (Int.tmod ((((r0p + 1) - 1) * 7) + 3) (r0b.length : Int))) (0 : Int)) ∧
        InR ((List.getD r0b (Int.toNat (Int.tmod ((((r0p + 1) - 1) * 7) + 3) (r0b.length : Int))) (0 : Int)) * 1117) ∧
        InR (((List.getD r0b (Int.toNat (Int.tmod ((r0p + 1) - 1) (r0b.length : Int))) (0 : Int)) * 131) + ((List.getD r0b (Int.toNat (Int.tmod ((((r0p + 1) - 1) * 7) + 3) (r0b.length : Int))) (0 : Int)) * 1117)) ∧
        InR (((r0p + 1) - 1) * 29) ∧
        InR ((((List.getD r0b (Int.toNat (Int.tmod ((r0p + 1) - 1) (r0b.length : Int))) (0 : Int)) * 131) + ((List.getD r0b (Int.toNat (Int.tmod ((((r0p + 1) - 1) * 7) + 3) (r0b.length : Int))) (0 : Int)) * 1117)) + (((r0p + 1) - 1) * 29)) ∧
        ((r0b.length : Int) ≠ 0 ∧ InR (Int.tdiv ((r0p + 1) - 1) (r0b.length : Int))) ∧
        InR ((Int.tdiv ((r0p + 1) - 1) (r0b.length : Int)) * 53) ∧
        InR (((((List.getD r0b (Int.toNat (Int.tmod ((r0p + 1) - 1) (r0b.length : Int))) (0 : Int)) * 131) + ((List.getD r0b (Int.toNat (Int.tmod ((((r0p + 1) - 1) * 7) + 3) (r0b.length : Int))) (0 : Int)) * 1117)) + (((r0p + 1) - 1) * 29)) + ((Int.tdiv ((r0p + 1) - 1) (r0b.length : Int)) * 53)) ∧
        ((64 : Int) ≠ 0 ∧ InR (Int.tdiv (((((List.getD r0b (Int.toNat (Int.tmod ((r0p + 1) - 1) (r0b.length : Int))) (0 : Int)) * 131) + ((List.getD r0b (Int.toNat (Int.tmod ((((r0p + 1) - 1) * 7) + 3) (r0b.length : Int))) (0 : Int)) * 1117)) + (((r0p + 1) - 1) * 29)) + ((Int.tdiv ((r0p + 1) - 1) (r0b.length : Int)) * 53)) 64)) ∧
        (n1 ≠ 0) ∧
        k (Int.tmod (IntKind.i64.wrap ((BitVec.ofInt 64 (((((List.getD r0b (Int.toNat (Int.tmod ((r0p + 1) - 1) (r0b.length : Int))) (0 : Int)) * 131) + ((List.getD r0b (Int.toNat (Int.tmod ((((r0p + 1) - 1) * 7) + 3) (r0b.length : Int))) (0 : Int)) * 1117)) + (((r0p + 1) - 1) * 29)) + ((Int.tdiv ((r0p + 1) - 1) (r0b.length : Int)) * 53)) ^^^ BitVec.ofInt 64 (Int.tdiv (((((List.getD r0b (Int.toNat (Int.tmod ((r0p + 1) - 1) (r0b.length : Int))) (0 : Int)) * 131) + ((List.getD r0b (Int.toNat (Int.tmod ((((r0p + 1) - 1) * 7) + 3) (r0b.length : Int))) (0 : Int)) * 1117)) + (((r0p + 1) - 1) * 29)) + ((Int.tdiv ((r0p + 1) - 1) (r0b.length : Int)) * 53)) 64)).toNat : Int)) n1) r0b (r0p + 1))))
def S_spec_reader_pick (r0b : List Int) (r0p : Int) (n1 : Int) (k : Int → List Int → Int → Prop) : Prop := G_spec_reader_pick r0b r0p n1 k
def F_spec_reader_pick (b : List Int) (p n : Int) (k : Int → List Int → Int → Prop) : Prop := (Bs b ∧ 0 ≤ p ∧ p ≤ 1000000000) ∧ ∀ x, Pk n x → k x b (p + 1)
theorem F_spec_reader_pick_S {b : List Int} {p n : Int} {k : Int → List Int → Int → Prop} (h : F_spec_reader_pick b p n k) : S_spec_reader_pick b p n k := by
  obtain ⟨⟨hb, h0, h1⟩, hk⟩ := h
  simp only [S_spec_reader_pick, G_spec_reader_pick, br_dec, br_beq]
  refine ⟨inR (by omega) (by omega), fun h2 => hk 0 (.inl ⟨h2, rfl⟩), fun h2 => ⟨fun h3 => hk 0 (.inr ⟨by omega, by omega⟩), fun h3 => ⟨inR (by omega) (by omega), ?_⟩⟩⟩
  have hlen := hb.1
  rw [show p + 1 - 1 = p by omega]
  refine ⟨fun h4 => ⟨⟨by omega, by omega⟩, ?_⟩, fun h4 => ?_⟩
  · have := hb.get (Int.toNat p)
    exact ⟨inR (by omega) (by omega), by omega, hk _ (.inr ⟨Int.tmod_nonneg _ this.1, Int.tmod_lt_of_pos _ (by omega)⟩)⟩
  · have hl : (0 : Int) < b.length := by omega
    have a1 := Int.tmod_nonneg (b.length : Int) h0
    have a2 := Int.tmod_lt_of_pos p hl
    have a3 := Int.tmod_nonneg (b.length : Int) (show (0 : Int) ≤ p * 7 + 3 by omega)
    have a4 := Int.tmod_lt_of_pos (p * 7 + 3) hl
    have a5 := hb.get (Int.toNat (Int.tmod p b.length))
    have a6 := hb.get (Int.toNat (Int.tmod (p * 7 + 3) b.length))
    have a7 : 0 ≤ Int.tdiv p b.length := Int.tdiv_nonneg h0 (by omega)
    have a8 : Int.tdiv p b.length ≤ p := Int.tdiv_le_self _ h0
    generalize List.getD b (Int.toNat (Int.tmod p b.length)) 0 = x at *
    generalize List.getD b (Int.toNat (Int.tmod (p * 7 + 3) b.length)) 0 = y at *
    generalize Int.tdiv p b.length = z at *
    have hsum : 0 ≤ x * 131 + y * 1117 + p * 29 + z * 53 ∧ x * 131 + y * 1117 + p * 29 + z * 53 ≤ 90000000000 := by omega
    have a9 : 0 ≤ Int.tdiv (x * 131 + y * 1117 + p * 29 + z * 53) 64 := Int.tdiv_nonneg hsum.1 (by omega)
    have a10 : Int.tdiv (x * 131 + y * 1117 + p * 29 + z * 53) 64 ≤ x * 131 + y * 1117 + p * 29 + z * 53 := Int.tdiv_le_self _ hsum.1
    refine ⟨by omega, ⟨by omega, by omega⟩, inR (by omega) (by omega), inR (by omega) (by omega), inR (by omega) (by omega), inR (by omega) (by omega), by omega, ⟨by omega, by omega⟩, inR (by omega) (by omega), inR (by omega) (by omega), inR (by omega) (by omega), inR (by omega) (by omega), inR (by omega) (by omega),
      ⟨by omega, inR (by omega) (by omega)⟩, inR (by omega) (by omega), inR (by omega) (by omega), ⟨by omega, inR (by omega) (by omega)⟩, by omega, hk _ (.inr ⟨?_, Int.tmod_lt_of_pos _ (by omega)⟩)⟩
    exact Int.tmod_nonneg _ (xor_nn _ _ hsum.1 (by omega) a9 (by omega))
-- (*spec.reader).one
def G_spec_reader_one (r0b : List Int) (r0p : Int) (list1 : List Int) (k : Int → List Int → Int → Prop) : Prop :=
  F_spec_reader_pick r0b r0p (list1.length : Int) fun pick9 opick9b opick9p =>
  (0 ≤ pick9 ∧ pick9 < (list1.length : Int)) ∧
  k (List.getD list1 (Int.toNat pick9) (0 : Int)) opick9b opick9p
def S_spec_reader_one (r0b : List Int) (r0p : Int) (list1 : List Int) (k : Int → List Int → Int → Prop) : Prop := G_spec_reader_one r0b r0p list1 k
def F_spec_reader_one (b : List Int) (p : Int) (l : List Int) (k : Int → List Int → Int → Prop) : Prop := (Bs b ∧ 0 ≤ p ∧ p ≤ 1000000000 ∧ 0 < l.length) ∧ ∀ x ∈ l, k x b (p + 1)
theorem F_spec_reader_one_S {b : List Int} {p : Int} {l : List Int} {k : Int → List Int → Int → Prop} (h : F_spec_reader_one b p l k) : S_spec_reader_one b p l k := by
  obtain ⟨⟨hb, h0, h1, h2⟩, hk⟩ := h
  refine ⟨⟨hb, h0, h1⟩, fun x hx => ?_⟩
  rcases hx with ⟨h3, _⟩ | ⟨h3, h4⟩
  · omega
  · have hlt : x.toNat < l.length := by omega
    have hx : l[x.toNat]? = some (l.getD x.toNat 0) := by simp [List.getD, hlt]
    exact ⟨⟨h3, h4⟩, hk _ (List.mem_of_getElem? hx)⟩
-- spec.copyInts
def G_spec_copyInts (list0 : List Int) (k : List Int → Prop) : Prop :=
  (0 + list0.length ≤ 1000000000) ∧
  k list0
def S_spec_copyInts (list0 : List Int) (k : List Int → Prop) : Prop := G_spec_copyInts list0 k
def F_spec_copyInts (l : List Int) (k : List Int → Prop) : Prop := l.length ≤ 1000000000 ∧ k l
theorem F_spec_copyInts_S {l : List Int} {k : List Int → Prop} (h : F_spec_copyInts l k) : S_spec_copyInts l k := ⟨by have := h.1; omega, h.2⟩
-- spec.copyLists
def G_spec_copyLists (a0Room : Int) (a0Target : Int) (a0Once : List Int) (a0Often : List Int) (a0WasOnce : List Int) (a0WasOften : List Int) (k : Int → Int → List Int → List Int → List Int → List Int → Prop) : Prop :=
  (F_spec_copyInts a0Once fun copyInts9 =>
    (F_spec_copyInts a0Often fun copyInts12 =>
      (F_spec_copyInts a0WasOnce fun copyInts15 =>
        (F_spec_copyInts a0WasOften fun copyInts18 =>
          (k a0Room a0Target copyInts9 copyInts12 copyInts15 copyInts18) ∧
          (True)) ∧
        (True)) ∧
      (True)) ∧
    (True)) ∧
  (True)
def H_spec_copyLists (a0Room : Int) (a0Target : Int) (a0Once : List Int) (a0Often : List Int) (a0WasOnce : List Int) (a0WasOften : List Int) (k : Int → Int → List Int → List Int → List Int → List Int → Prop) : Prop :=
  F_spec_copyInts a0Once fun copyInts9 =>
  F_spec_copyInts a0Often fun copyInts12 =>
  F_spec_copyInts a0WasOnce fun copyInts15 =>
  F_spec_copyInts a0WasOften fun copyInts18 =>
  k a0Room a0Target copyInts9 copyInts12 copyInts15 copyInts18
theorem G_spec_copyLists_eq (a0Room : Int) (a0Target : Int) (a0Once : List Int) (a0Often : List Int) (a0WasOnce : List Int) (a0WasOften : List Int) (k : Int → Int → List Int → List Int → List Int → List Int → Prop) : G_spec_copyLists a0Room a0Target a0Once a0Often a0WasOnce a0WasOften k = H_spec_copyLists a0Room a0Target a0Once a0Often a0WasOnce a0WasOften k := by
  first
  | (simp only [G_spec_copyLists, H_spec_copyLists, and_self, and_true]; done)
  | (simp only [G_spec_copyLists, H_spec_copyLists, and_self, and_true, and_self_left, and_assoc]; refine propext ⟨fun h => ?_, fun h => ?_⟩ <;> (repeat (cases ‹_ ∧ _›)) <;> (repeat' (apply And.intro)) <;> assumption)
def S_spec_copyLists (a0Room : Int) (a0Target : Int) (a0Once : List Int) (a0Often : List Int) (a0WasOnce : List Int) (a0WasOften : List Int) (k : Int → Int → List Int → List Int → List Int → List Int → Prop) : Prop := H_spec_copyLists a0Room a0Target a0Once a0Often a0WasOnce a0WasOften k
def F_spec_copyLists (r t : Int) (o f wo wf : List Int) (k : Int → Int → List Int → List Int → List Int → List Int → Prop) : Prop :=
  (o.length ≤ 100000000 ∧ f.length ≤ 100000000 ∧ wo.length ≤ 100000000 ∧ wf.length ≤ 100000000) ∧ k r t o f wo wf
theorem F_spec_copyLists_S {r t : Int} {o f wo wf : List Int} {k : Int → Int → List Int → List Int → List Int → List Int → Prop} (h : F_spec_copyLists r t o f wo wf k) : S_spec_copyLists r t o f wo wf k := by
  obtain ⟨⟨h1, h2, h3, h4⟩, hk⟩ := h
  exact ⟨by omega, by omega, by omega, by omega, hk⟩
-- spec.placeOf
def T0_spec_placeOf (list0 : List Int) (n1 : Int) (xi5 : Int) (k : Int → Prop) (B0 : Int → Prop) : Prop :=
  br (decide (xi5 < (list0.length : Int)))
  ((0 ≤ xi5 ∧ xi5 < (list0.length : Int)) ∧
    br ((List.getD list0 (Int.toNat xi5) (0 : Int)) == n1)
    (k xi5)
    (InR (xi5 + 1) ∧
      B0 (xi5 + 1)))
  (k (-1))
def L0_spec_placeOf (list0 : List Int) (n1 : Int) (k : Int → Prop) : Nat → Int → Prop
  | 0, _ => False
  | n + 1, xi5 => T0_spec_placeOf list0 n1 xi5 k (L0_spec_placeOf list0 n1 k n)
def G_spec_placeOf (list0 : List Int) (n1 : Int) (I0 : List Int → Int → Int → Prop) : Prop :=
  I0 list0 n1 0
def S_spec_placeOf (list0 : List Int) (n1 : Int) (k : Int → Prop) : Prop := G_spec_placeOf list0 n1 (fun list0 n1 xi5 => ∃ j, L0_spec_placeOf list0 n1 k j xi5)
def F_spec_placeOf (l : List Int) (n : Int) (k : Int → Prop) : Prop := l.length ≤ 1000000000 ∧ k (plc l n)
theorem F_spec_placeOf_S {l : List Int} {n : Int} {k : Int → Prop} (h : F_spec_placeOf l n k) : S_spec_placeOf l n k := by
  obtain ⟨hl, hk⟩ := h
  have key : ∀ (r : List Int) (i : Nat), l.drop i = r → plcF r n i = plc l n → L0_spec_placeOf l n k (r.length + 1) (i : Int) := by
    intro r
    induction r with
    | nil =>
      intro i hd he
      have := drop_nil' hd
      rw [L0_spec_placeOf, T0_spec_placeOf]
      simp only [br_dec]
      exact ⟨fun h => by omega, fun _ => by rw [show (-1 : Int) = plc l n from he]; exact hk⟩
    | cons x r ih =>
      intro i hd he
      obtain ⟨h1, h2, _, h3, _⟩ := drop_cons' hd
      rw [List.length_cons, L0_spec_placeOf, T0_spec_placeOf]
      simp only [br_dec, br_beq, Int.toNat_natCast, h2]
      refine ⟨fun _ => ⟨⟨by omega, by omega⟩, fun hx => ?_, fun hx => ⟨inR (by omega) (by omega), ?_⟩⟩, fun h => by omega⟩
      · simp only [plcF, if_pos hx] at he; rw [he]; exact hk
      · simp only [plcF, if_neg hx] at he; exact ih (i + 1) h3 he
  exact ⟨_, key l 0 rfl rfl⟩
-- spec.isIn
def G_spec_isIn (list0 : List Int) (n1 : Int) (k : Bool → Prop) : Prop :=
  F_spec_placeOf list0 n1 fun placeOf7 =>
  k (decide (placeOf7 ≥ 0))
def S_spec_isIn (list0 : List Int) (n1 : Int) (k : Bool → Prop) : Prop := G_spec_isIn list0 n1 k
def F_spec_isIn (l : List Int) (n : Int) (k : Bool → Prop) : Prop := l.length ≤ 1000000000 ∧ k (decide (n ∈ l))
theorem F_spec_isIn_S {l : List Int} {n : Int} {k : Bool → Prop} (h : F_spec_isIn l n k) : S_spec_isIn l n k := by
  refine ⟨h.1, ?_⟩
  have : decide (plc l n ≥ 0) = decide (n ∈ l) := decide_eq_decide.2 plc_ge
  show k (decide (plc l n ≥ 0))
  rw [this]; exact h.2
-- spec.without
def G_spec_without (list0 : List Int) (at1 : Int) (k : List Int → Prop) : Prop :=
  (0 ≤ at1 ∧ at1 ≤ (list0.length : Int)) ∧
  InR (at1 + 1) ∧
  (0 ≤ (at1 + 1) ∧ (at1 + 1) ≤ (list0.length : Int)) ∧
  (((0 + (List.length (List.take (Int.toNat at1) list0)) ≤ 1000000000) ∧
      (((List.length (List.take (Int.toNat at1) list0)) + (List.length (List.drop (Int.toNat (at1 + 1)) list0)) ≤ 1000000000) ∧
        k ((List.take (Int.toNat at1) list0) ++ (List.drop (Int.toNat (at1 + 1)) list0))) ∧
      (True)) ∧
    (True)) ∧
  (True)
def H_spec_without (list0 : List Int) (at1 : Int) (k : List Int → Prop) : Prop :=
  (0 ≤ at1 ∧ at1 ≤ (list0.length : Int)) ∧
  InR (at1 + 1) ∧
  (0 ≤ (at1 + 1) ∧ (at1 + 1) ≤ (list0.length : Int)) ∧
  (0 + (List.length (List.take (Int.toNat at1) list0)) ≤ 1000000000) ∧
  ((List.length (List.take (Int.toNat at1) list0)) + (List.length (List.drop (Int.toNat (at1 + 1)) list0)) ≤ 1000000000) ∧
  k ((List.take (Int.toNat at1) list0) ++ (List.drop (Int.toNat (at1 + 1)) list0))
theorem G_spec_without_eq (list0 : List Int) (at1 : Int) (k : List Int → Prop) : G_spec_without list0 at1 k = H_spec_without list0 at1 k := by
  first
  | (simp only [G_spec_without, H_spec_without, and_self, and_true]; done)
  | (simp only [G_spec_without, H_spec_without, and_self, and_true, and_self_left, and_assoc]; refine propext ⟨fun h => ?_, fun h => ?_⟩ <;> (repeat (cases ‹_ ∧ _›)) <;> (repeat' (apply And.intro)) <;> assumption)
def S_spec_without (list0 : List Int) (at1 : Int) (k : List Int → Prop) : Prop := H_spec_without list0 at1 k
def F_spec_without (l : List Int) (at1 : Int) (k : List Int → Prop) : Prop := (0 ≤ at1 ∧ at1 < l.length ∧ l.length ≤ 1000000000) ∧ k (l.take at1.toNat ++ l.drop (at1.toNat + 1))
theorem F_spec_without_S {l : List Int} {at1 : Int} {k : List Int → Prop} (h : F_spec_without l at1 k) : S_spec_without l at1 k := by
  obtain ⟨⟨h1, h2, h3⟩, hk⟩ := h
  have e : (at1 + 1).toNat = at1.toNat + 1 := by omega
  refine ⟨⟨by omega, by omega⟩, inR (by omega) (by omega), ⟨by omega, by omega⟩, by simp; omega, by simp; omega, ?_⟩
  rw [e]; exact hk
-- spec.front
def G_spec_front (list0 : List Int) (n1 : Int) (k : List Int → Prop) : Prop :=
  (1 + list0.length ≤ 1000000000) ∧
  k (([n1] : List Int) ++ list0)
def S_spec_front (list0 : List Int) (n1 : Int) (k : List Int → Prop) : Prop := G_spec_front list0 n1 k
def F_spec_front (l : List Int) (n : Int) (k : List Int → Prop) : Prop := l.length ≤ 100000000 ∧ k (n :: l)
theorem F_spec_front_S {l : List Int} {n : Int} {k : List Int → Prop} (h : F_spec_front l n k) : S_spec_front l n k := ⟨by have := h.1; omega, h.2⟩
-- spec.isFull
def G_spec_isFull (a0Room : Int) (a0Target : Int) (a0Once : List Int) (a0Often : List Int) (a0WasOnce : List Int) (a0WasOften : List Int) (k : Bool → Prop) : Prop :=
  InR ((a0Once.length : Int) + (a0Often.length : Int)) ∧
  k (((a0Once.length : Int) + (a0Often.length : Int)) == a0Room)
def S_spec_isFull (a0Room : Int) (a0Target : Int) (a0Once : List Int) (a0Often : List Int) (a0WasOnce : List Int) (a0WasOften : List Int) (k : Bool → Prop) : Prop := G_spec_isFull a0Room a0Target a0Once a0Often a0WasOnce a0WasOften k
def F_spec_isFull (r t : Int) (o f wo wf : List Int) (k : Bool → Prop) : Prop :=
  (o.length ≤ 100000000 ∧ f.length ≤ 100000000) ∧ k (decide ((o.length : Int) + f.length = r))
theorem F_spec_isFull_S {r t : Int} {o f wo wf : List Int} {k : Bool → Prop} (h : F_spec_isFull r t o f wo wf k) : S_spec_isFull r t o f wo wf k := by
  obtain ⟨⟨h1, h2⟩, hk⟩ := h
  refine ⟨inR (by omega) (by omega), ?_⟩
  rwa [show ((o.length : Int) + (f.length : Int) == r) = decide ((o.length : Int) + f.length = r) by rw [Bool.eq_iff_iff]; simp]
-- spec.makeRoom
def G_spec_makeRoom_j0 (a0Often : List Int) (a0Once : List Int) (a0Room : Int) (a0Target : Int) (a0WasOften : List Int) (a0WasOnce : List Int) (k : Int → Int → List Int → List Int → List Int → List Int → Prop) : Prop :=
  (F_spec_front a0WasOnce (List.getD a0Once (Int.toNat ((a0Once.length : Int) - 1)) (0 : Int)) fun front40 =>
    (InR ((a0Once.length : Int) - 1) ∧
      (0 ≤ ((a0Once.length : Int) - 1) ∧ ((a0Once.length : Int) - 1) ≤ (a0Once.length : Int)) ∧
      k a0Room a0Target (List.take (Int.toNat ((a0Once.length : Int) - 1)) a0Once) a0Often front40 a0WasOften) ∧
    (True)) ∧
  (True)
def G_spec_makeRoom_j1 (a0Often : List Int) (a0Once : List Int) (a0Room : Int) (a0Target : Int) (a0WasOften : List Int) (a0WasOnce : List Int) (k : Int → Int → List Int → List Int → List Int → List Int → Prop) : Prop :=
  InR ((a0Once.length : Int) - 1) ∧
  (((0 ≤ ((a0Once.length : Int) - 1) ∧ ((a0Once.length : Int) - 1) < (a0Once.length : Int)) ∧
      G_spec_makeRoom_j0 a0Often a0Once a0Room a0Target a0WasOften a0WasOnce k) ∧
    (True)) ∧
  (((0 ≤ ((a0Once.length : Int) - 1) ∧ ((a0Once.length : Int) - 1) < (a0Once.length : Int)) ∧
      (G_spec_makeRoom_j0 a0Often a0Once a0Room a0Target a0WasOften a0WasOnce k) ∧
      (True)) ∧
    (True))
def G_spec_makeRoom_j2 (a0Often : List Int) (a0Once : List Int) (a0Room : Int) (a0Target : Int) (a0WasOften : List Int) (a0WasOnce : List Int) (k : Int → Int → List Int → List Int → List Int → List Int → Prop) : Prop :=
  (F_spec_front a0WasOften (List.getD a0Often (Int.toNat ((a0Often.length : Int) - 1)) (0 : Int)) fun front60 =>
    (InR ((a0Often.length : Int) - 1) ∧
      (0 ≤ ((a0Often.length : Int) - 1) ∧ ((a0Often.length : Int) - 1) ≤ (a0Often.length : Int)) ∧
      k a0Room a0Target a0Once (List.take (Int.toNat ((a0Often.length : Int) - 1)) a0Often) a0WasOnce front60) ∧
    (True)) ∧
  (True)
def G_spec_makeRoom_j3 (a0Often : List Int) (a0Once : List Int) (a0Room : Int) (a0Target : Int) (a0WasOften : List Int) (a0WasOnce : List Int) (k : Int → Int → List Int → List Int → List Int → List Int → Prop) : Prop :=
  br ((a0Often.length : Int) == 0)
  (G_spec_makeRoom_j1 a0Often a0Once a0Room a0Target a0WasOften a0WasOnce k)
  (InR ((a0Often.length : Int) - 1) ∧
    (((0 ≤ ((a0Often.length : Int) - 1) ∧ ((a0Often.length : Int) - 1) < (a0Often.length : Int)) ∧
        G_spec_makeRoom_j2 a0Often a0Once a0Room a0Target a0WasOften a0WasOnce k) ∧
      (True)) ∧
    (((0 ≤ ((a0Often.length : Int) - 1) ∧ ((a0Often.length : Int) - 1) < (a0Often.length : Int)) ∧
        (G_spec_makeRoom_j2 a0Often a0Once a0Room a0Target a0WasOften a0WasOnce k) ∧
        (True)) ∧
      (True)))
def G_spec_makeRoom (a0Room : Int) (a0Target : Int) (a0Once : List Int) (a0Often : List Int) (a0WasOnce : List Int) (a0WasOften : List Int) (was1 : Bool) (k : Int → Int → List Int → List Int → List Int → List Int → Prop) : Prop :=
  br (decide ((a0Once.length : Int) > 0))
  (br (decide ((a0Once.length : Int) > a0Target))
    (G_spec_makeRoom_j1 a0Often a0Once a0Room a0Target a0WasOften a0WasOnce k)
    (br was1
      (br ((a0Once.length : Int) == a0Target)
        (G_spec_makeRoom_j1 a0Often a0Once a0Room a0Target a0WasOften a0WasOnce k)
        (G_spec_makeRoom_j3 a0Often a0Once a0Room a0Target a0WasOften a0WasOnce k))
      (G_spec_makeRoom_j3 a0Often a0Once a0Room a0Target a0WasOften a0WasOnce k)))
  (G_spec_makeRoom_j3 a0Often a0Once a0Room a0Target a0WasOften a0WasOnce k)
def H_spec_makeRoom_j0 (a0Often : List Int) (a0Once : List Int) (a0Room : Int) (a0Target : Int) (a0WasOften : List Int) (a0WasOnce : List Int) (k : Int → Int → List Int → List Int → List Int → List Int → Prop) : Prop :=
  InR ((a0Once.length : Int) - 1) ∧
  (0 ≤ ((a0Once.length : Int) - 1) ∧ ((a0Once.length : Int) - 1) < (a0Once.length : Int)) ∧
  F_spec_front a0WasOnce (List.getD a0Once (Int.toNat ((a0Once.length : Int) - 1)) (0 : Int)) fun front40 =>
  InR ((a0Once.length : Int) - 1) ∧
  (0 ≤ ((a0Once.length : Int) - 1) ∧ ((a0Once.length : Int) - 1) ≤ (a0Once.length : Int)) ∧
  k a0Room a0Target (List.take (Int.toNat ((a0Once.length : Int) - 1)) a0Once) a0Often front40 a0WasOften
def H_spec_makeRoom_j1 (a0Often : List Int) (a0Once : List Int) (a0Room : Int) (a0Target : Int) (a0WasOften : List Int) (a0WasOnce : List Int) (k : Int → Int → List Int → List Int → List Int → List Int → Prop) : Prop :=
  br ((a0Often.length : Int) == 0)
  (H_spec_makeRoom_j0 a0Often a0Once a0Room a0Target a0WasOften a0WasOnce k)
  (InR ((a0Often.length : Int) - 1) ∧
    (0 ≤ ((a0Often.length : Int) - 1) ∧ ((a0Often.length : Int) - 1) < (a0Often.length : Int)) ∧
    F_spec_front a0WasOften (List.getD a0Often (Int.toNat ((a0Often.length : Int) - 1)) (0 : Int)) fun front60 =>
    InR ((a0Often.length : Int) - 1) ∧
    (0 ≤ ((a0Often.length : Int) - 1) ∧ ((a0Often.length : Int) - 1) ≤ (a0Often.length : Int)) ∧
    k a0Room a0Target a0Once (List.take (Int.toNat ((a0Often.length : Int) - 1)) a0Often) a0WasOnce front60)
def H_spec_makeRoom (a0Room : Int) (a0Target : Int) (a0Once : List Int) (a0Often : List Int) (a0WasOnce : List Int) (a0WasOften : List Int) (was1 : Bool) (k : Int → Int → List Int → List Int → List Int → List Int → Prop) : Prop :=
  br (decide ((a0Once.length : Int) > 0))
  (br (decide ((a0Once.length : Int) > a0Target))
    (H_spec_makeRoom_j0 a0Often a0Once a0Room a0Target a0WasOften a0WasOnce k)
    (br was1
      (br ((a0Once.length : Int) == a0Target)
        (H_spec_makeRoom_j0 a0Often a0Once a0Room a0Target a0WasOften a0WasOnce k)
        (H_spec_makeRoom_j1 a0Often a0Once a0Room a0Target a0WasOften a0WasOnce k))
      (H_spec_makeRoom_j1 a0Often a0Once a0Room a0Target a0WasOften a0WasOnce k)))
  (H_spec_makeRoom_j1 a0Often a0Once a0Room a0Target a0WasOften a0WasOnce k)
theorem G_spec_makeRoom_eq (a0Room : Int) (a0Target : Int) (a0Once : List Int) (a0Often : List Int) (a0WasOnce : List Int) (a0WasOften : List Int) (was1 : Bool) (k : Int → Int → List Int → List Int → List Int → List Int → Prop) : G_spec_makeRoom a0Room a0Target a0Once a0Often a0WasOnce a0WasOften was1 k = H_spec_makeRoom a0Room a0Target a0Once a0Often a0WasOnce a0WasOften was1 k := by
  first
  | (simp only [G_spec_makeRoom, H_spec_makeRoom, G_spec_makeRoom_j0, G_spec_makeRoom_j1, G_spec_makeRoom_j2, G_spec_makeRoom_j3, H_spec_makeRoom_j0, H_spec_makeRoom_j1, and_self, and_true]; done)
  | (simp only [G_spec_makeRoom, H_spec_makeRoom, G_spec_makeRoom_j0, G_spec_makeRoom_j1, G_spec_makeRoom_j2, G_spec_makeRoom_j3, H_spec_makeRoom_j0, H_spec_makeRoom_j1, and_self, and_true, and_self_left, and_assoc]; refine propext ⟨fun h => ?_, fun h => ?_⟩ <;> (repeat (cases ‹_ ∧ _›)) <;> (repeat' (apply And.intro)) <;> assumption)
def S_spec_makeRoom (a0Room : Int) (a0Target : Int) (a0Once : List Int) (a0Often : List Int) (a0WasOnce : List Int) (a0WasOften : List Int) (was1 : Bool) (k : Int → Int → List Int → List Int → List Int → List Int → Prop) : Prop := H_spec_makeRoom a0Room a0Target a0Once a0Often a0WasOnce a0WasOften was1 k
def F_spec_makeRoom (r t : Int) (o f wo wf : List Int) (was : Bool) (k : Int → Int → List Int → List Int → List Int → List Int → Prop) : Prop :=
  ((o.length ≤ 100000000 ∧ f.length ≤ 100000000 ∧ wo.length ≤ 100000000 ∧ wf.length ≤ 100000000) ∧ 0 < o.length + f.length) ∧
  k r (mkRoom was ⟨t, o, f, wo, wf⟩).t (mkRoom was ⟨t, o, f, wo, wf⟩).o (mkRoom was ⟨t, o, f, wo, wf⟩).f (mkRoom was ⟨t, o, f, wo, wf⟩).wo (mkRoom was ⟨t, o, f, wo, wf⟩).wf
theorem F_spec_makeRoom_S {r t : Int} {o f wo wf : List Int} {was : Bool} {k : Int → Int → List Int → List Int → List Int → List Int → Prop} (h : F_spec_makeRoom r t o f wo wf was k) : S_spec_makeRoom r t o f wo wf was k := by
  obtain ⟨⟨⟨h1, h2, h3, h4⟩, h5⟩, hk⟩ := h
  have first : ((0 < o.length ∧ ((o.length : Int) > t ∨ was = true ∧ (o.length : Int) = t)) ∨ f.length = 0) → H_spec_makeRoom_j0 f o r t wf wo k := by
    intro hc
    unfold mkRoom at hk
    rw [if_pos hc] at hk
    have ho : 0 < o.length := by omega
    refine ⟨inR (by omega) (by omega), ⟨by omega, by omega⟩, by omega, inR (by omega) (by omega), ⟨by omega, by omega⟩, ?_⟩
    rw [show ((o.length : Int) - 1).toNat = o.length - 1 by omega]
    exact hk
  have second : ¬ (0 < o.length ∧ ((o.length : Int) > t ∨ was = true ∧ (o.length : Int) = t)) → H_spec_makeRoom_j1 f o r t wf wo k := by
    intro hc
    refine br_beq.2 ⟨fun h => first (.inr (by omega)), fun h => ?_⟩
    unfold mkRoom at hk
    rw [if_neg (fun c => c.elim hc (by intro h6; simp only at h6; omega))] at hk
    refine ⟨inR (by omega) (by omega), ⟨by omega, by omega⟩, by omega, inR (by omega) (by omega), ⟨by omega, by omega⟩, ?_⟩
    rw [show ((f.length : Int) - 1).toNat = f.length - 1 by omega]
    exact hk
  refine br_dec.2 ⟨fun g1 => br_dec.2 ⟨fun g2 => first (.inl ⟨by omega, .inl g2⟩), fun g2 => br_iff.2 ⟨fun g3 => br_beq.2 ⟨fun g4 => first (.inl ⟨by omega, .inr ⟨g3, g4⟩⟩), fun g4 => second fun c => ?_⟩, fun g3 => second fun c => ?_⟩⟩, fun g1 => second fun c => by omega⟩
  · rcases c.2 with h | h
    · exact g2 h
    · exact g4 h.2
  · rcases c.2 with h | h
    · exact g2 h
    · rw [g3] at h; cases h.1
-- spec.fresh
def G_spec_fresh_j0 (a0Often : List Int) (a0Once : List Int) (a0Room : Int) (a0Target : Int) (a0WasOften : List Int) (a0WasOnce : List Int) (key1 : Int) (k : Int → Int → List Int → List Int → List Int → List Int → Prop) : Prop :=
  br (((a0Once.length : Int) + (a0WasOnce.length : Int)) == a0Room)
  (InR ((a0Once.length : Int) - 1) ∧
    (0 ≤ ((a0Once.length : Int) - 1) ∧ ((a0Once.length : Int) - 1) ≤ (a0Once.length : Int)) ∧
    F_spec_front (List.take (Int.toNat ((a0Once.length : Int) - 1)) a0Once) key1 fun front77 =>
    k a0Room a0Target front77 a0Often a0WasOnce a0WasOften)
  (InR (((a0Once.length : Int) + (a0WasOnce.length : Int)) + (a0Often.length : Int)) ∧
    InR ((((a0Once.length : Int) + (a0WasOnce.length : Int)) + (a0Often.length : Int)) + (a0WasOften.length : Int)) ∧
    InR (2 * a0Room) ∧
    br (((((a0Once.length : Int) + (a0WasOnce.length : Int)) + (a0Often.length : Int)) + (a0WasOften.length : Int)) == (2 * a0Room))
    (InR ((a0WasOften.length : Int) - 1) ∧
      (0 ≤ ((a0WasOften.length : Int) - 1) ∧ ((a0WasOften.length : Int) - 1) ≤ (a0WasOften.length : Int)) ∧
      F_spec_isFull a0Room a0Target a0Once a0Often a0WasOnce (List.take (Int.toNat ((a0WasOften.length : Int) - 1)) a0WasOften) fun isFull35 =>
      br isFull35
      (F_spec_makeRoom a0Room a0Target a0Once a0Often a0WasOnce (List.take (Int.toNat ((a0WasOften.length : Int) - 1)) a0WasOften) false fun makeRoom37Room makeRoom37Target makeRoom37Once makeRoom37Often makeRoom37WasOnce makeRoom37WasOften =>
        F_spec_front makeRoom37Once key1 fun front77 =>
        k makeRoom37Room makeRoom37Target front77 makeRoom37Often makeRoom37WasOnce makeRoom37WasOften)
      (F_spec_front a0Once key1 fun front77 =>
        k a0Room a0Target front77 a0Often a0WasOnce (List.take (Int.toNat ((a0WasOften.length : Int) - 1)) a0WasOften)))
    (F_spec_isFull a0Room a0Target a0Once a0Often a0WasOnce a0WasOften fun isFull35 =>
      br isFull35
      (F_spec_makeRoom a0Room a0Target a0Once a0Often a0WasOnce a0WasOften false fun makeRoom37Room makeRoom37Target makeRoom37Once makeRoom37Often makeRoom37WasOnce makeRoom37WasOften =>
        F_spec_front makeRoom37Once key1 fun front77 =>
        k makeRoom37Room makeRoom37Target front77 makeRoom37Often makeRoom37WasOnce makeRoom37WasOften)
      (F_spec_front a0Once key1 fun front77 =>
        k a0Room a0Target front77 a0Often a0WasOnce a0WasOften)))
def G_spec_fresh (a0Room : Int) (a0Target : Int) (a0Once : List Int) (a0Often : List Int) (a0WasOnce : List Int) (a0WasOften : List Int) (key1 : Int) (k : Int → Int → List Int → List Int → List Int → List Int → Prop) : Prop :=
  InR ((a0Once.length : Int) + (a0WasOnce.length : Int)) ∧
  br (((a0Once.length : Int) + (a0WasOnce.length : Int)) == a0Room)
  (br (decide ((a0WasOnce.length : Int) > 0))
    (InR ((a0WasOnce.length : Int) - 1) ∧
      (0 ≤ ((a0WasOnce.length : Int) - 1) ∧ ((a0WasOnce.length : Int) - 1) ≤ (a0WasOnce.length : Int)) ∧
      F_spec_isFull a0Room a0Target a0Once a0Often (List.take (Int.toNat ((a0WasOnce.length : Int) - 1)) a0WasOnce) a0WasOften fun isFull58 =>
      br isFull58
      (F_spec_makeRoom a0Room a0Target a0Once a0Often (List.take (Int.toNat ((a0WasOnce.length : Int) - 1)) a0WasOnce) a0WasOften false fun makeRoom60Room makeRoom60Target makeRoom60Once makeRoom60Often makeRoom60WasOnce makeRoom60WasOften =>
        F_spec_front makeRoom60Once key1 fun front77 =>
        k makeRoom60Room makeRoom60Target front77 makeRoom60Often makeRoom60WasOnce makeRoom60WasOften)
      (F_spec_front a0Once key1 fun front77 =>
        k a0Room a0Target front77 a0Often (List.take (Int.toNat ((a0WasOnce.length : Int) - 1)) a0WasOnce) a0WasOften))
    (G_spec_fresh_j0 a0Often a0Once a0Room a0Target a0WasOften a0WasOnce key1 k))
  (G_spec_fresh_j0 a0Often a0Once a0Room a0Target a0WasOften a0WasOnce key1 k)
def S_spec_fresh (a0Room : Int) (a0Target : Int) (a0Once : List Int) (a0Often : List Int) (a0WasOnce : List Int) (a0WasOften : List Int) (key1 : Int) (k : Int → Int → List Int → List Int → List Int → List Int → Prop) : Prop := G_spec_fresh a0Room a0Target a0Once a0Often a0WasOnce a0WasOften key1 k
def F_spec_fresh (r t : Int) (o f wo wf : List Int) (key : Int) (k : Int → Int → List Int → List Int → List Int → List Int → Prop) : Prop :=
  VLists r ⟨t, o, f, wo, wf⟩ ∧ k r (freshL r ⟨t, o, f, wo, wf⟩ key).t (freshL r ⟨t, o, f, wo, wf⟩ key).o (freshL r ⟨t, o, f, wo, wf⟩ key).f (freshL r ⟨t, o, f, wo, wf⟩ key).wo (freshL r ⟨t, o, f, wo, wf⟩ key).wf
theorem F_spec_fresh_S {r t : Int} {o f wo wf : List Int} {key : Int} {k : Int → Int → List Int → List Int → List Int → List Int → Prop} (h : F_spec_fresh r t o f wo wf key k) : S_spec_fresh r t o f wo wf key k := by
  obtain ⟨v, hk⟩ := h
  obtain ⟨l1, l2, l3, l4⟩ := lists_len v
  have r1 := v.room1
  have i1 := v.inc
  have o1 := v.onc
  have t1 := v.tot
  simp only at l1 l2 l3 l4 i1 o1 t1
  -- room is made where the cache is full
  have fit : ∀ (wo wf : List Int), wo.length ≤ 8 → wf.length ≤ 16 → (let b := fitL r false ⟨t, o, f, wo, wf⟩; k r b.t (key :: b.o) b.f b.wo b.wf) →
      F_spec_isFull r t o f wo wf fun c => br c (F_spec_makeRoom r t o f wo wf false fun r t o f wo wf => F_spec_front o key fun o => k r t o f wo wf) (F_spec_front o key fun o => k r t o f wo wf) := by
    intro wo wf g1 g2 hk
    refine ⟨by omega, br_dec.2 ⟨fun hf => ⟨⟨by omega, by omega⟩, ?_⟩, fun hf => ⟨by omega, ?_⟩⟩⟩
    · rw [fitL, if_pos hf] at hk
      have := (mkRoom_len (was := false) (a := ⟨t, o, f, wo, wf⟩) (by simp only; omega)).1
      simp only at this
      exact ⟨by omega, hk⟩
    · rw [fitL, if_neg hf] at hk
      exact hk
  unfold freshL at hk
  have j0 : ¬ ((o.length : Int) + wo.length = r ∧ 0 < wo.length) → G_spec_fresh_j0 f o r t wf wo key k := by
    intro hn
    simp only [if_neg hn] at hk
    refine br_beq.2 ⟨fun e1 => ?_, fun e1 => ⟨inR (by omega) (by omega), inR (by omega) (by omega), inR (by omega) (by omega), br_beq.2 ⟨fun e2 => ⟨inR (by omega) (by omega), ⟨by omega, by omega⟩, fit _ _ (by omega) (by simp; omega) ?_⟩, fun e2 => fit _ _ (by omega) (by omega) ?_⟩⟩⟩
    · simp only [if_pos e1] at hk
      refine ⟨inR (by omega) (by omega), ⟨by omega, by omega⟩, by simp; omega, ?_⟩
      rw [show ((o.length : Int) - 1).toNat = o.length - 1 by omega]
      exact hk
    · simp only [if_neg e1, if_pos e2] at hk
      rw [show ((wf.length : Int) - 1).toNat = wf.length - 1 by omega]
      exact hk
    · simp only [if_neg e1, if_neg e2] at hk
      exact hk
  refine ⟨inR (by omega) (by omega), br_beq.2 ⟨fun e1 => br_dec.2 ⟨fun e2 => ⟨inR (by omega) (by omega), ⟨by omega, by omega⟩, fit _ _ (by simp; omega) (by omega) ?_⟩, fun e2 => j0 fun c => by omega⟩, fun e1 => j0 fun c => e1 c.1⟩⟩
  simp only [if_pos (show (o.length : Int) + wo.length = r ∧ 0 < wo.length from ⟨e1, by omega⟩)] at hk
  rw [show ((wo.length : Int) - 1).toNat = wo.length - 1 by omega]
  exact hk
-- spec.adapt
def G_spec_adapt_j0 (copyLists8Often : List Int) (copyLists8Once : List Int) (copyLists8Room : Int) (copyLists8Target : Int) (copyLists8WasOften : List Int) (copyLists8WasOnce : List Int) (key1 : Int) (placeOf19 : Int) (k : Int → Int → List Int → List Int → List Int → List Int → Bool → Prop) : Prop :=
  (F_spec_without copyLists8Once placeOf19 fun without20 =>
    (F_spec_front copyLists8Often key1 fun front25 =>
      k copyLists8Room copyLists8Target without20 front25 copyLists8WasOnce copyLists8WasOften true) ∧
    (True)) ∧
  (True)
def G_spec_adapt_j1 (copyLists8Often : List Int) (copyLists8Once : List Int) (copyLists8Room : Int) (copyLists8Target : Int) (copyLists8WasOften : List Int) (copyLists8WasOnce : List Int) (key1 : Int) (k : Int → Int → List Int → List Int → List Int → List Int → Bool → Prop) : Prop :=
  (F_spec_placeOf copyLists8Once key1 fun placeOf19 =>
    G_spec_adapt_j0 copyLists8Often copyLists8Once copyLists8Room copyLists8Target copyLists8WasOften copyLists8WasOnce key1 placeOf19 k) ∧
  (True)
def G_spec_adapt_j2 (copyLists8Often : List Int) (copyLists8Once : List Int) (copyLists8Room : Int) (copyLists8Target : Int) (copyLists8WasOften : List Int) (copyLists8WasOnce : List Int) (key1 : Int) (placeOf38 : Int) (k : Int → Int → List Int → List Int → List Int → List Int → Bool → Prop) : Prop :=
  (F_spec_without copyLists8Often placeOf38 fun without39 =>
    (F_spec_front without39 key1 fun front41 =>
      (k copyLists8Room copyLists8Target copyLists8Once front41 copyLists8WasOnce copyLists8WasOften true) ∧
      (True)) ∧
    (True)) ∧
  (True)
def G_spec_adapt_j3 (copyLists8Often : List Int) (copyLists8Once : List Int) (copyLists8Room : Int) (copyLists8Target : Int) (copyLists8WasOften : List Int) (copyLists8WasOnce : List Int) (key1 : Int) (k : Int → Int → List Int → List Int → List Int → List Int → Bool → Prop) : Prop :=
  (F_spec_placeOf copyLists8Often key1 fun placeOf38 =>
    G_spec_adapt_j2 copyLists8Often copyLists8Once copyLists8Room copyLists8Target copyLists8WasOften copyLists8WasOnce key1 placeOf38 k) ∧
  (True)
def G_spec_adapt_j4 (copyLists8Often : List Int) (copyLists8Once : List Int) (copyLists8Room : Int) (copyLists8Target : Int) (copyLists8WasOften : List Int) (copyLists8WasOnce : List Int) (key1 : Int) (placeOf69 : Int) (k : Int → Int → List Int → List Int → List Int → List Int → Bool → Prop) : Prop :=
  (F_spec_without copyLists8WasOnce placeOf69 fun without70 =>
    (F_spec_isFull copyLists8Room (if (copyLists8Target + (if 1 < (Int.tdiv (copyLists8WasOften.length : Int) (copyLists8WasOnce.length : Int)) then (Int.tdiv (copyLists8WasOften.length : Int) (copyLists8WasOnce.length : Int)) else 1)) < copyLists8Room then (copyLists8Target + (if 1 < (Int.tdiv (copyLists8WasOften.length : Int) (copyLists8WasOnce.length : Int)) then (Int.tdiv (copyLists8WasOften.length : Int) (copyLists8WasOnce.length : Int)) else 1)) else copyLists8Room) copyLists8Once copyLists8Often without70 copyLists8WasOften fun isFull73 =>
      br isFull73
      (F_spec_makeRoom copyLists8Room (if (copyLists8Target + (if 1 < (Int.tdiv (copyLists8WasOften.length : Int) (copyLists8WasOnce.length : Int)) then (Int.tdiv (copyLists8WasOften.length : Int) (copyLists8WasOnce.length : Int)) else 1)) < copyLists8Room then (copyLists8Target + (if 1 < (Int.tdiv (copyLists8WasOften.length : Int) (copyLists8WasOnce.length : Int)) then (Int.tdiv (copyLists8WasOften.length : Int) (copyLists8WasOnce.length : Int)) else 1)) else copyLists8Room) copyLists8Once copyLists8Often without70 copyLists8WasOften false fun makeRoom75Room makeRoom75Target makeRoom75Once makeRoom75Often makeRoom75WasOnce makeRoom75WasOften =>
        F_spec_front makeRoom75Often key1 fun front79 =>
        k makeRoom75Room makeRoom75Target makeRoom75Once front79 makeRoom75WasOnce makeRoom75WasOften false)
      (F_spec_front copyLists8Often key1 fun front79 =>
        k copyLists8Room (if (copyLists8Target + (if 1 < (Int.tdiv (copyLists8WasOften.length : Int) (copyLists8WasOnce.length : Int)) then (Int.tdiv (copyLists8WasOften.length : Int) (copyLists8WasOnce.length : Int)) else 1)) < copyLists8Room then (copyLists8Target + (if 1 < (Int.tdiv (copyLists8WasOften.length : Int) (copyLists8WasOnce.length : Int)) then (Int.tdiv (copyLists8WasOften.length : Int) (copyLists8WasOnce.length : Int)) else 1)) else copyLists8Room) copyLists8Once front79 without70 copyLists8WasOften false)) ∧
    (True)) ∧
  (True)
def G_spec_adapt_j5 (copyLists8Often : List Int) (copyLists8Once : List Int) (copyLists8Room : Int) (copyLists8Target : Int) (copyLists8WasOften : List Int) (copyLists8WasOnce : List Int) (key1 : Int) (k : Int → Int → List Int → List Int → List Int → List Int → Bool → Prop) : Prop :=
  (F_spec_placeOf copyLists8WasOnce key1 fun placeOf69 =>
    G_spec_adapt_j4 copyLists8Often copyLists8Once copyLists8Room copyLists8Target copyLists8WasOften copyLists8WasOnce key1 placeOf69 k) ∧
  (True)
def G_spec_adapt_j6 (copyLists8Often : List Int) (copyLists8Once : List Int) (copyLists8Room : Int) (copyLists8Target : Int) (copyLists8WasOften : List Int) (copyLists8WasOnce : List Int) (key1 : Int) (k : Int → Int → List Int → List Int → List Int → List Int → Bool → Prop) : Prop :=
  (((G_spec_adapt_j5 copyLists8Often copyLists8Once copyLists8Room copyLists8Target copyLists8WasOften copyLists8WasOnce key1 k) ∧
      (True)) ∧
    (((G_spec_adapt_j5 copyLists8Often copyLists8Once copyLists8Room copyLists8Target copyLists8WasOften copyLists8WasOnce key1 k) ∧
        ((F_spec_placeOf copyLists8WasOnce key1 fun placeOf69 =>
            (G_spec_adapt_j4 copyLists8Often copyLists8Once copyLists8Room copyLists8Target copyLists8WasOften copyLists8WasOnce key1 placeOf69 k) ∧
            (True)) ∧
          (True))) ∧
      (True))) ∧
  (True)
def G_spec_adapt_j7 (copyLists8Often : List Int) (copyLists8Once : List Int) (copyLists8Room : Int) (copyLists8Target : Int) (copyLists8WasOften : List Int) (copyLists8WasOnce : List Int) (key1 : Int) (k : Int → Int → List Int → List Int → List Int → List Int → Bool → Prop) : Prop :=
  InR (copyLists8Target + (if 1 < (Int.tdiv (copyLists8WasOften.length : Int) (copyLists8WasOnce.length : Int)) then (Int.tdiv (copyLists8WasOften.length : Int) (copyLists8WasOnce.length : Int)) else 1)) ∧
  G_spec_adapt_j6 copyLists8Often copyLists8Once copyLists8Room copyLists8Target copyLists8WasOften copyLists8WasOnce key1 k
def G_spec_adapt_j8 (copyLists8Often : List Int) (copyLists8Once : List Int) (copyLists8Room : Int) (copyLists8Target : Int) (copyLists8WasOften : List Int) (copyLists8WasOnce : List Int) (key1 : Int) (k : Int → Int → List Int → List Int → List Int → List Int → Bool → Prop) : Prop :=
  (((copyLists8WasOnce.length : Int) ≠ 0 ∧ InR (Int.tdiv (copyLists8WasOften.length : Int) (copyLists8WasOnce.length : Int))) ∧
    G_spec_adapt_j7 copyLists8Often copyLists8Once copyLists8Room copyLists8Target copyLists8WasOften copyLists8WasOnce key1 k) ∧
  (True)
def G_spec_adapt_j9 (copyLists8Often : List Int) (copyLists8Once : List Int) (copyLists8Room : Int) (copyLists8Target : Int) (copyLists8WasOften : List Int) (copyLists8WasOnce : List Int) (key1 : Int) (k : Int → Int → List Int → List Int → List Int → List Int → Bool → Prop) : Prop :=
  (G_spec_adapt_j8 copyLists8Often copyLists8Once copyLists8Room copyLists8Target copyLists8WasOften copyLists8WasOnce key1 k) ∧
  ((G_spec_adapt_j8 copyLists8Often copyLists8Once copyLists8Room copyLists8Target copyLists8WasOften copyLists8WasOnce key1 k) ∧
    (True))
def G_spec_adapt_j10 (copyLists8Often : List Int) (copyLists8Once : List Int) (copyLists8Room : Int) (copyLists8Target : Int) (copyLists8WasOften : List Int) (copyLists8WasOnce : List Int) (key1 : Int) (k : Int → Int → List Int → List Int → List Int → List Int → Bool → Prop) : Prop :=
  (G_spec_adapt_j7 copyLists8Often copyLists8Once copyLists8Room copyLists8Target copyLists8WasOften copyLists8WasOnce key1 k) ∧
  (True)
def G_spec_adapt_j11 (copyLists8Often : List Int) (copyLists8Once : List Int) (copyLists8Room : Int) (copyLists8Target : Int) (copyLists8WasOften : List Int) (copyLists8WasOnce : List Int) (key1 : Int) (k : Int → Int → List Int → List Int → List Int → List Int → Bool → Prop) : Prop :=
  (G_spec_adapt_j8 copyLists8Often copyLists8Once copyLists8Room copyLists8Target copyLists8WasOften copyLists8WasOnce key1 k) ∧
  ((((copyLists8WasOnce.length : Int) ≠ 0 ∧ InR (Int.tdiv (copyLists8WasOften.length : Int) (copyLists8WasOnce.length : Int))) ∧
      G_spec_adapt_j10 copyLists8Often copyLists8Once copyLists8Room copyLists8Target copyLists8WasOften copyLists8WasOnce key1 k) ∧
    (True))
def G_spec_adapt_j12 (copyLists8Often : List Int) (copyLists8Once : List Int) (copyLists8Room : Int) (copyLists8Target : Int) (copyLists8WasOften : List Int) (copyLists8WasOnce : List Int) (key1 : Int) (k : Int → Int → List Int → List Int → List Int → List Int → Bool → Prop) : Prop :=
  InR (copyLists8Target + (if 1 < (Int.tdiv (copyLists8WasOften.length : Int) (copyLists8WasOnce.length : Int)) then (Int.tdiv (copyLists8WasOften.length : Int) (copyLists8WasOnce.length : Int)) else 1)) ∧
  (G_spec_adapt_j6 copyLists8Often copyLists8Once copyLists8Room copyLists8Target copyLists8WasOften copyLists8WasOnce key1 k) ∧
  (True)
def G_spec_adapt_j13 (copyLists8Often : List Int) (copyLists8Once : List Int) (copyLists8Room : Int) (copyLists8Target : Int) (copyLists8WasOften : List Int) (copyLists8WasOnce : List Int) (key1 : Int) (k : Int → Int → List Int → List Int → List Int → List Int → Bool → Prop) : Prop :=
  (G_spec_adapt_j8 copyLists8Often copyLists8Once copyLists8Room copyLists8Target copyLists8WasOften copyLists8WasOnce key1 k) ∧
  ((((copyLists8WasOnce.length : Int) ≠ 0 ∧ InR (Int.tdiv (copyLists8WasOften.length : Int) (copyLists8WasOnce.length : Int))) ∧
      G_spec_adapt_j12 copyLists8Often copyLists8Once copyLists8Room copyLists8Target copyLists8WasOften copyLists8WasOnce key1 k) ∧
    (True))
def G_spec_adapt_j14 (copyLists8Often : List Int) (copyLists8Once : List Int) (copyLists8Room : Int) (copyLists8Target : Int) (copyLists8WasOften : List Int) (copyLists8WasOnce : List Int) (key1 : Int) (k : Int → Int → List Int → List Int → List Int → List Int → Bool → Prop) : Prop :=
  (G_spec_adapt_j11 copyLists8Often copyLists8Once copyLists8Room copyLists8Target copyLists8WasOften copyLists8WasOnce key1 k) ∧
  ((G_spec_adapt_j13 copyLists8Often copyLists8Once copyLists8Room copyLists8Target copyLists8WasOften copyLists8WasOnce key1 k) ∧
    ((((copyLists8WasOnce.length : Int) ≠ 0 ∧ InR (Int.tdiv (copyLists8WasOften.length : Int) (copyLists8WasOnce.length : Int))) ∧
        (G_spec_adapt_j10 copyLists8Often copyLists8Once copyLists8Room copyLists8Target copyLists8WasOften copyLists8WasOnce key1 k) ∧
        ((G_spec_adapt_j12 copyLists8Often copyLists8Once copyLists8Room copyLists8Target copyLists8WasOften copyLists8WasOnce key1 k) ∧
          (True))) ∧
      (True)))
def G_spec_adapt_j15 (copyLists8Often : List Int) (copyLists8Once : List Int) (copyLists8Room : Int) (copyLists8Target : Int) (copyLists8WasOften : List Int) (copyLists8WasOnce : List Int) (key1 : Int) (placeOf105 : Int) (k : Int → Int → List Int → List Int → List Int → List Int → Bool → Prop) : Prop :=
  (F_spec_without copyLists8WasOften placeOf105 fun without106 =>
    (F_spec_isFull copyLists8Room (if 0 < (copyLists8Target - (if 1 < (Int.tdiv (copyLists8WasOnce.length : Int) (copyLists8WasOften.length : Int)) then (Int.tdiv (copyLists8WasOnce.length : Int) (copyLists8WasOften.length : Int)) else 1)) then (copyLists8Target - (if 1 < (Int.tdiv (copyLists8WasOnce.length : Int) (copyLists8WasOften.length : Int)) then (Int.tdiv (copyLists8WasOnce.length : Int) (copyLists8WasOften.length : Int)) else 1)) else 0) copyLists8Once copyLists8Often copyLists8WasOnce without106 fun isFull109 =>
      br isFull109
      (F_spec_makeRoom copyLists8Room (if 0 < (copyLists8Target - (if 1 < (Int.tdiv (copyLists8WasOnce.length : Int) (copyLists8WasOften.length : Int)) then (Int.tdiv (copyLists8WasOnce.length : Int) (copyLists8WasOften.length : Int)) else 1)) then (copyLists8Target - (if 1 < (Int.tdiv (copyLists8WasOnce.length : Int) (copyLists8WasOften.length : Int)) then (Int.tdiv (copyLists8WasOnce.length : Int) (copyLists8WasOften.length : Int)) else 1)) else 0) copyLists8Once copyLists8Often copyLists8WasOnce without106 true fun makeRoom111Room makeRoom111Target makeRoom111Once makeRoom111Often makeRoom111WasOnce makeRoom111WasOften =>
        F_spec_front makeRoom111Often key1 fun front115 =>
        k makeRoom111Room makeRoom111Target makeRoom111Once front115 makeRoom111WasOnce makeRoom111WasOften false)
      (F_spec_front copyLists8Often key1 fun front115 =>
        k copyLists8Room (if 0 < (copyLists8Target - (if 1 < (Int.tdiv (copyLists8WasOnce.length : Int) (copyLists8WasOften.length : Int)) then (Int.tdiv (copyLists8WasOnce.length : Int) (copyLists8WasOften.length : Int)) else 1)) then (copyLists8Target - (if 1 < (Int.tdiv (copyLists8WasOnce.length : Int) (copyLists8WasOften.length : Int)) then (Int.tdiv (copyLists8WasOnce.length : Int) (copyLists8WasOften.length : Int)) else 1)) else 0) copyLists8Once front115 copyLists8WasOnce without106 false)) ∧
    (True)) ∧
  (True)
def G_spec_adapt_j16 (copyLists8Often : List Int) (copyLists8Once : List Int) (copyLists8Room : Int) (copyLists8Target : Int) (copyLists8WasOften : List Int) (copyLists8WasOnce : List Int) (key1 : Int) (k : Int → Int → List Int → List Int → List Int → List Int → Bool → Prop) : Prop :=
  (F_spec_placeOf copyLists8WasOften key1 fun placeOf105 =>
    G_spec_adapt_j15 copyLists8Often copyLists8Once copyLists8Room copyLists8Target copyLists8WasOften copyLists8WasOnce key1 placeOf105 k) ∧
  (True)
def G_spec_adapt_j17 (copyLists8Often : List Int) (copyLists8Once : List Int) (copyLists8Room : Int) (copyLists8Target : Int) (copyLists8WasOften : List Int) (copyLists8WasOnce : List Int) (key1 : Int) (k : Int → Int → List Int → List Int → List Int → List Int → Bool → Prop) : Prop :=
  InR (copyLists8Target - (if 1 < (Int.tdiv (copyLists8WasOnce.length : Int) (copyLists8WasOften.length : Int)) then (Int.tdiv (copyLists8WasOnce.length : Int) (copyLists8WasOften.length : Int)) else 1)) ∧
  (((G_spec_adapt_j16 copyLists8Often copyLists8Once copyLists8Room copyLists8Target copyLists8WasOften copyLists8WasOnce key1 k) ∧
      (True)) ∧
    (((G_spec_adapt_j16 copyLists8Often copyLists8Once copyLists8Room copyLists8Target copyLists8WasOften copyLists8WasOnce key1 k) ∧
        ((F_spec_placeOf copyLists8WasOften key1 fun placeOf105 =>
            (G_spec_adapt_j15 copyLists8Often copyLists8Once copyLists8Room copyLists8Target copyLists8WasOften copyLists8WasOnce key1 placeOf105 k) ∧
            (True)) ∧
          (True))) ∧
      (True))) ∧
  (True)
def G_spec_adapt_j18 (copyLists8Often : List Int) (copyLists8Once : List Int) (copyLists8Room : Int) (copyLists8Target : Int) (copyLists8WasOften : List Int) (copyLists8WasOnce : List Int) (key1 : Int) (k : Int → Int → List Int → List Int → List Int → List Int → Bool → Prop) : Prop :=
  (((copyLists8WasOften.length : Int) ≠ 0 ∧ InR (Int.tdiv (copyLists8WasOnce.length : Int) (copyLists8WasOften.length : Int))) ∧
    G_spec_adapt_j17 copyLists8Often copyLists8Once copyLists8Room copyLists8Target copyLists8WasOften copyLists8WasOnce key1 k) ∧
  (True)
def G_spec_adapt_j19 (copyLists8Often : List Int) (copyLists8Once : List Int) (copyLists8Room : Int) (copyLists8Target : Int) (copyLists8WasOften : List Int) (copyLists8WasOnce : List Int) (key1 : Int) (k : Int → Int → List Int → List Int → List Int → List Int → Bool → Prop) : Prop :=
  (G_spec_adapt_j18 copyLists8Often copyLists8Once copyLists8Room copyLists8Target copyLists8WasOften copyLists8WasOnce key1 k) ∧
  ((((copyLists8WasOften.length : Int) ≠ 0 ∧ InR (Int.tdiv (copyLists8WasOnce.length : Int) (copyLists8WasOften.length : Int))) ∧
      (G_spec_adapt_j17 copyLists8Often copyLists8Once copyLists8Room copyLists8Target copyLists8WasOften copyLists8WasOnce key1 k) ∧
      (True)) ∧
    (True))
def G_spec_adapt (old0Room : Int) (old0Target : Int) (old0Once : List Int) (old0Often : List Int) (old0WasOnce : List Int) (old0WasOften : List Int) (key1 : Int) (k : Int → Int → List Int → List Int → List Int → List Int → Bool → Prop) : Prop :=
  F_spec_copyLists old0Room old0Target old0Once old0Often old0WasOnce old0WasOften fun copyLists8Room copyLists8Target copyLists8Once copyLists8Often copyLists8WasOnce copyLists8WasOften =>
  F_spec_isIn copyLists8Once key1 fun isIn13 =>
  br isIn13
  (((G_spec_adapt_j1 copyLists8Often copyLists8Once copyLists8Room copyLists8Target copyLists8WasOften copyLists8WasOnce key1 k) ∧
      (True)) ∧
    (((G_spec_adapt_j1 copyLists8Often copyLists8Once copyLists8Room copyLists8Target copyLists8WasOften copyLists8WasOnce key1 k) ∧
        ((F_spec_placeOf copyLists8Once key1 fun placeOf19 =>
            (G_spec_adapt_j0 copyLists8Often copyLists8Once copyLists8Room copyLists8Target copyLists8WasOften copyLists8WasOnce key1 placeOf19 k) ∧
            (True)) ∧
          (True))) ∧
      (True)))
  (F_spec_isIn copyLists8Often key1 fun isIn32 =>
    br isIn32
    (((G_spec_adapt_j3 copyLists8Often copyLists8Once copyLists8Room copyLists8Target copyLists8WasOften copyLists8WasOnce key1 k) ∧
        (True)) ∧
      (((G_spec_adapt_j3 copyLists8Often copyLists8Once copyLists8Room copyLists8Target copyLists8WasOften copyLists8WasOnce key1 k) ∧
          ((F_spec_placeOf copyLists8Often key1 fun placeOf38 =>
              (G_spec_adapt_j2 copyLists8Often copyLists8Once copyLists8Room copyLists8Target copyLists8WasOften copyLists8WasOnce key1 placeOf38 k) ∧
              (True)) ∧
            (True))) ∧
        (True)))
    (F_spec_isIn copyLists8WasOnce key1 fun isIn48 =>
      br isIn48
      (((G_spec_adapt_j9 copyLists8Often copyLists8Once copyLists8Room copyLists8Target copyLists8WasOften copyLists8WasOnce key1 k) ∧
          ((G_spec_adapt_j11 copyLists8Often copyLists8Once copyLists8Room copyLists8Target copyLists8WasOften copyLists8WasOnce key1 k) ∧
            ((G_spec_adapt_j11 copyLists8Often copyLists8Once copyLists8Room copyLists8Target copyLists8WasOften copyLists8WasOnce key1 k) ∧
              (True)))) ∧
        (((G_spec_adapt_j9 copyLists8Often copyLists8Once copyLists8Room copyLists8Target copyLists8WasOften copyLists8WasOnce key1 k) ∧
            ((G_spec_adapt_j13 copyLists8Often copyLists8Once copyLists8Room copyLists8Target copyLists8WasOften copyLists8WasOnce key1 k) ∧
              ((G_spec_adapt_j13 copyLists8Often copyLists8Once copyLists8Room copyLists8Target copyLists8WasOften copyLists8WasOnce key1 k) ∧
                (True)))) ∧
          ((G_spec_adapt_j14 copyLists8Often copyLists8Once copyLists8Room copyLists8Target copyLists8WasOften copyLists8WasOnce key1 k) ∧
            ((G_spec_adapt_j14 copyLists8Often copyLists8Once copyLists8Room copyLists8Target copyLists8WasOften copyLists8WasOnce key1 k) ∧
              (True)))))
      (F_spec_isIn copyLists8WasOften key1 fun isIn86 =>
        br isIn86
        (((G_spec_adapt_j18 copyLists8Often copyLists8Once copyLists8Room copyLists8Target copyLists8WasOften copyLists8WasOnce key1 k) ∧
            ((G_spec_adapt_j18 copyLists8Often copyLists8Once copyLists8Room copyLists8Target copyLists8WasOften copyLists8WasOnce key1 k) ∧
              (True))) ∧
          ((G_spec_adapt_j19 copyLists8Often copyLists8Once copyLists8Room copyLists8Target copyLists8WasOften copyLists8WasOnce key1 k) ∧
            ((G_spec_adapt_j19 copyLists8Often copyLists8Once copyLists8Room copyLists8Target copyLists8WasOften copyLists8WasOnce key1 k) ∧
              (True))))
        (F_spec_fresh copyLists8Room copyLists8Target copyLists8Once copyLists8Often copyLists8WasOnce copyLists8WasOften key1 fun fresh120Room fresh120Target fresh120Once fresh120Often fresh120WasOnce fresh120WasOften =>
          k fresh120Room fresh120Target fresh120Once fresh120Often fresh120WasOnce fresh120WasOften false))))
def H_spec_adapt (old0Room : Int) (old0Target : Int) (old0Once : List Int) (old0Often : List Int) (old0WasOnce : List Int) (old0WasOften : List Int) (key1 : Int) (k : Int → Int → List Int → List Int → List Int → List Int → Bool → Prop) : Prop :=
  F_spec_copyLists old0Room old0Target old0Once old0Often old0WasOnce old0WasOften fun copyLists8Room copyLists8Target copyLists8Once copyLists8Often copyLists8WasOnce copyLists8WasOften =>
  F_spec_isIn copyLists8Once key1 fun isIn13 =>
  br isIn13
  (F_spec_placeOf copyLists8Once key1 fun placeOf19 =>
    F_spec_without copyLists8Once placeOf19 fun without20 =>
    F_spec_front copyLists8Often key1 fun front25 =>
    k copyLists8Room copyLists8Target without20 front25 copyLists8WasOnce copyLists8WasOften true)
  (F_spec_isIn copyLists8Often key1 fun isIn32 =>
    br isIn32
    (F_spec_placeOf copyLists8Often key1 fun placeOf38 =>
      F_spec_without copyLists8Often placeOf38 fun without39 =>
      F_spec_front without39 key1 fun front41 =>
      k copyLists8Room copyLists8Target copyLists8Once front41 copyLists8WasOnce copyLists8WasOften true)
    (F_spec_isIn copyLists8WasOnce key1 fun isIn48 =>
      br isIn48
      (((copyLists8WasOnce.length : Int) ≠ 0 ∧ InR (Int.tdiv (copyLists8WasOften.length : Int) (copyLists8WasOnce.length : Int))) ∧
        InR (copyLists8Target + (if 1 < (Int.tdiv (copyLists8WasOften.length : Int) (copyLists8WasOnce.length : Int)) then (Int.tdiv (copyLists8WasOften.length : Int) (copyLists8WasOnce.length : Int)) else 1)) ∧
        F_spec_placeOf copyLists8WasOnce key1 fun placeOf69 =>
        F_spec_without copyLists8WasOnce placeOf69 fun without70 =>
        F_spec_isFull copyLists8Room (if (copyLists8Target + (if 1 < (Int.tdiv (copyLists8WasOften.length : Int) (copyLists8WasOnce.length : Int)) then (Int.tdiv (copyLists8WasOften.length : Int) (copyLists8WasOnce.length : Int)) else 1)) < copyLists8Room then (copyLists8Target + (if 1 < (Int.tdiv (copyLists8WasOften.length : Int) (copyLists8WasOnce.length : Int)) then (Int.tdiv (copyLists8WasOften.length : Int) (copyLists8WasOnce.length : Int)) else 1)) else copyLists8Room) copyLists8Once copyLists8Often without70 copyLists8WasOften fun isFull73 =>
        br isFull73
        (F_spec_makeRoom copyLists8Room (if (copyLists8Target + (if 1 < (Int.tdiv (copyLists8WasOften.length : Int) (copyLists8WasOnce.length : Int)) then (Int.tdiv (copyLists8WasOften.length : Int) (copyLists8WasOnce.length : Int)) else 1)) < copyLists8Room then (copyLists8Target + (if 1 < (Int.tdiv (copyLists8WasOften.length : Int) (copyLists8WasOnce.length : Int)) then (Int.tdiv (copyLists8WasOften.length : Int) (copyLists8WasOnce.length : Int)) else 1)) else copyLists8Room) copyLists8Once copyLists8Often without70 copyLists8WasOften false fun makeRoom75Room makeRoom75Target makeRoom75Once makeRoom75Often makeRoom75WasOnce makeRoom75WasOften =>
          F_spec_front makeRoom75Often key1 fun front79 =>
          k makeRoom75Room makeRoom75Target makeRoom75Once front79 makeRoom75WasOnce makeRoom75WasOften false)
        (F_spec_front copyLists8Often key1 fun front79 =>
          k copyLists8Room (if (copyLists8Target + (if 1 < (Int.tdiv (copyLists8WasOften.length : Int) (copyLists8WasOnce.length : Int)) then (Int.tdiv (copyLists8WasOften.length : Int) (copyLists8WasOnce.length : Int)) else 1)) < copyLists8Room then (copyLists8Target + (if 1 < (Int.tdiv (copyLists8WasOften.length : Int) (copyLists8WasOnce.length : Int)) then (Int.tdiv (copyLists8WasOften.length : Int) (copyLists8WasOnce.length : Int)) else 1)) else copyLists8Room) copyLists8Once front79 without70 copyLists8WasOften false))
      (F_spec_isIn copyLists8WasOften key1 fun isIn86 =>
        br isIn86
        (((copyLists8WasOften.length : Int) ≠ 0 ∧ InR (Int.tdiv (copyLists8WasOnce.length : Int) (copyLists8WasOften.length : Int))) ∧
          InR (copyLists8Target - (if 1 < (Int.tdiv (copyLists8WasOnce.length : Int) (copyLists8WasOften.length : Int)) then (Int.tdiv (copyLists8WasOnce.length : Int) (copyLists8WasOften.length : Int)) else 1)) ∧
          F_spec_placeOf copyLists8WasOften key1 fun placeOf105 =>
          F_spec_without copyLists8WasOften placeOf105 fun without106 =>
          F_spec_isFull copyLists8Room (if 0 < (copyLists8Target - (if 1 < (Int.tdiv (copyLists8WasOnce.length : Int) (copyLists8WasOften.length : Int)) then (Int.tdiv (copyLists8WasOnce.length : Int) (copyLists8WasOften.length : Int)) else 1)) then (copyLists8Target - (if 1 < (Int.tdiv (copyLists8WasOnce.length : Int) (copyLists8WasOften.length : Int)) then (Int.tdiv (copyLists8WasOnce.length : Int) (copyLists8WasOften.length : Int)) else 1)) else 0) copyLists8Once copyLists8Often copyLists8WasOnce without106 fun isFull109 =>
          br isFull109
          (F_spec_makeRoom copyLists8Room (if 0 < (copyLists8Target - (if 1 < (Int.tdiv (copyLists8WasOnce.length : Int) (copyLists8WasOften.length : Int)) then (Int.tdiv (copyLists8WasOnce.length : Int) (copyLists8WasOften.length : Int)) else 1)) then (copyLists8Target - (if 1 < (Int.tdiv (copyLists8WasOnce.length : Int) (copyLists8WasOften.length : Int)) then (Int.tdiv (copyLists8WasOnce.length : Int) (copyLists8WasOften.length : Int)) else 1)) else 0) copyLists8Once copyLists8Often copyLists8WasOnce without106 true fun makeRoom111Room makeRoom111Target makeRoom111Once makeRoom111Often makeRoom111WasOnce makeRoom111WasOften =>
            F_spec_front makeRoom111Often key1 fun front115 =>
            k makeRoom111Room makeRoom111Target makeRoom111Once front115 makeRoom111WasOnce makeRoom111WasOften false)
          (F_spec_front copyLists8Often key1 fun front115 =>
            k copyLists8Room (if 0 < (copyLists8Target - (if 1 < (Int.tdiv (copyLists8WasOnce.length : Int) (copyLists8WasOften.length : Int)) then (Int.tdiv (copyLists8WasOnce.length : Int) (copyLists8WasOften.length : Int)) else 1)) then (copyLists8Target - (if 1 < (Int.tdiv (copyLists8WasOnce.length : Int) (copyLists8WasOften.length : Int)) then (Int.tdiv (copyLists8WasOnce.length : Int) (copyLists8WasOften.length : Int)) else 1)) else 0) copyLists8Once front115 copyLists8WasOnce without106 false))
        (F_spec_fresh copyLists8Room copyLists8Target copyLists8Once copyLists8Often copyLists8WasOnce copyLists8WasOften key1 fun fresh120Room fresh120Target fresh120Once fresh120Often fresh120WasOnce fresh120WasOften =>
          k fresh120Room fresh120Target fresh120Once fresh120Often fresh120WasOnce fresh120WasOften false))))
theorem G_spec_adapt_eq (old0Room : Int) (old0Target : Int) (old0Once : List Int) (old0Often : List Int) (old0WasOnce : List Int) (old0WasOften : List Int) (key1 : Int) (k : Int → Int → List Int → List Int → List Int → List Int → Bool → Prop) : G_spec_adapt old0Room old0Target old0Once old0Often old0WasOnce old0WasOften key1 k = H_spec_adapt old0Room old0Target old0Once old0Often old0WasOnce old0WasOften key1 k := by
  first
  | (simp only [G_spec_adapt, H_spec_adapt, G_spec_adapt_j0, G_spec_adapt_j1, G_spec_adapt_j2, G_spec_adapt_j3, G_spec_adapt_j4, G_spec_adapt_j5, G_spec_adapt_j6, G_spec_adapt_j7, G_spec_adapt_j8, G_spec_adapt_j9, G_spec_adapt_j10, G_spec_adapt_j11, G_spec_adapt_j12, G_spec_adapt_j13, G_spec_adapt_j14, G_spec_adapt_j15, G_spec_adapt_j16, G_spec_adapt_j17, G_spec_adapt_j18, G_spec_adapt_j19, and_self, and_true]; done)
  | (simp only [G_spec_adapt, H_spec_adapt, G_spec_adapt_j0, G_spec_adapt_j1, G_spec_adapt_j2, G_spec_adapt_j3, G_spec_adapt_j4, G_spec_adapt_j5, G_spec_adapt_j6, G_spec_adapt_j7, G_spec_adapt_j8, G_spec_adapt_j9, G_spec_adapt_j10, G_spec_adapt_j11, G_spec_adapt_j12, G_spec_adapt_j13, G_spec_adapt_j14, G_spec_adapt_j15, G_spec_adapt_j16, G_spec_adapt_j17, G_spec_adapt_j18, G_spec_adapt_j19, and_self, and_true, and_self_left, and_assoc]; refine propext ⟨fun h => ?_, fun h => ?_⟩ <;> (repeat (cases ‹_ ∧ _›)) <;> (repeat' (apply And.intro)) <;> assumption)
def S_spec_adapt (old0Room : Int) (old0Target : Int) (old0Once : List Int) (old0Often : List Int) (old0WasOnce : List Int) (old0WasOften : List Int) (key1 : Int) (k : Int → Int → List Int → List Int → List Int → List Int → Bool → Prop) : Prop := H_spec_adapt old0Room old0Target old0Once old0Often old0WasOnce old0WasOften key1 k
def F_spec_adapt (r t : Int) (o f wo wf : List Int) (key : Int) (k : Int → Int → List Int → List Int → List Int → List Int → Bool → Prop) : Prop :=
  VLists r ⟨t, o, f, wo, wf⟩ ∧ k r (adM r ⟨t, o, f, wo, wf⟩ key).1.t (adM r ⟨t, o, f, wo, wf⟩ key).1.o (adM r ⟨t, o, f, wo, wf⟩ key).1.f (adM r ⟨t, o, f, wo, wf⟩ key).1.wo (adM r ⟨t, o, f, wo, wf⟩ key).1.wf (adM r ⟨t, o, f, wo, wf⟩ key).2
theorem F_spec_adapt_S {r t : Int} {o f wo wf : List Int} {key : Int} {k : Int → Int → List Int → List Int → List Int → List Int → Bool → Prop} (h : F_spec_adapt r t o f wo wf key k) : S_spec_adapt r t o f wo wf key k := by
  obtain ⟨v, hk⟩ := h
  obtain ⟨l1, l2, l3, l4⟩ := lists_len v
  have r1 := v.room1
  have i1 := v.inc
  have tg := v.tgt
  have dis := v.dis
  simp only at l1 l2 l3 l4 i1 tg dis
  have nd : ∀ l : List Int, (∀ x, l.count x ≤ 1) → l.Nodup := fun l h => nodup_count.2 h
  have no := nd o fun x => by have := dis x; omega
  have nf := nd f fun x => by have := dis x; omega
  have nwo := nd wo fun x => by have := dis x; omega
  have nwf := nd wf fun x => by have := dis x; omega
  -- a key leaves its list
  have out : ∀ (l : List Int) (K : List Int → Prop), l.length ≤ 16 → l.Nodup → key ∈ l → ((rmK l key).length ≤ 16 → K (rmK l key)) → F_spec_placeOf l key fun p => F_spec_without l p K := by
    intro l K hl hn hm hK
    obtain ⟨j, j1, j2, _, j3⟩ := plc_pos hm
    refine ⟨by omega, ?_⟩
    rw [j3]
    refine ⟨⟨by omega, by omega, by omega⟩, ?_⟩
    rw [Int.toNat_natCast, rmK_erase hn j2]
    have := @rmK_le l key
    exact hK (by omega)
  -- room is made where the cache is full
  have fit : ∀ (was : Bool) (t : Int) (wo wf : List Int), wo.length ≤ 16 → wf.length ≤ 16 → (let b := fitL r was ⟨t, o, f, wo, wf⟩; k r b.t b.o (key :: b.f) b.wo b.wf false) →
      F_spec_isFull r t o f wo wf fun c => br c (F_spec_makeRoom r t o f wo wf was fun r t o f wo wf => F_spec_front f key fun f => k r t o f wo wf false) (F_spec_front f key fun f => k r t o f wo wf false) := by
    intro was t wo wf g1 g2 hk
    refine ⟨by omega, br_dec.2 ⟨fun hf => ⟨⟨by omega, by omega⟩, ?_⟩, fun hf => ⟨by omega, ?_⟩⟩⟩
    · rw [fitL, if_pos hf] at hk
      have := (mkRoom_len (was := was) (a := ⟨t, o, f, wo, wf⟩) (by simp only; omega)).2.1
      simp only at this
      exact ⟨by omega, hk⟩
    · rw [fitL, if_neg hf] at hk
      exact hk
  unfold adM at hk
  refine ⟨by omega, by omega, br_dec.2 ⟨fun m1 => ?_, fun m1 => ⟨by omega, br_dec.2 ⟨fun m2 => ?_, fun m2 => ⟨by omega, br_dec.2 ⟨fun m3 => ?_, fun m3 => ⟨by omega, br_dec.2 ⟨fun m4 => ?_, fun m4 => ?_⟩⟩⟩⟩⟩⟩⟩⟩
  · rw [if_pos m1] at hk
    exact out o _ (by omega) no m1 fun _ => ⟨by omega, hk⟩
  · rw [if_neg m1, if_pos m2] at hk
    exact out f _ (by omega) nf m2 fun _ => ⟨by omega, hk⟩
  · rw [if_neg m1, if_neg m2, if_pos m3] at hk
    have hp : 0 < wo.length := List.length_pos_of_mem m3
    have q1 : 0 ≤ Int.tdiv (wf.length : Int) wo.length := Int.tdiv_nonneg (by omega) (by omega)
    have q2 : Int.tdiv (wf.length : Int) wo.length ≤ wf.length := Int.tdiv_le_self _ (by omega)
    have q3 : 1 ≤ max1 (Int.tdiv (wf.length : Int) wo.length) ∧ max1 (Int.tdiv (wf.length : Int) wo.length) ≤ 16 := ⟨max1_pos _, by unfold max1; split <;> omega⟩
    refine ⟨⟨by omega, inR (by omega) (by omega)⟩, inR (show _ ≤ t + max1 _ by omega) (show t + max1 _ ≤ _ by omega), out wo _ (by omega) nwo m3 fun hl => fit false _ _ _ (by omega) (by omega) hk⟩
  · rw [if_neg m1, if_neg m2, if_neg m3, if_pos m4] at hk
    have hp : 0 < wf.length := List.length_pos_of_mem m4
    have q1 : 0 ≤ Int.tdiv (wo.length : Int) wf.length := Int.tdiv_nonneg (by omega) (by omega)
    have q2 : Int.tdiv (wo.length : Int) wf.length ≤ wo.length := Int.tdiv_le_self _ (by omega)
    have q3 : 1 ≤ max1 (Int.tdiv (wo.length : Int) wf.length) ∧ max1 (Int.tdiv (wo.length : Int) wf.length) ≤ 16 := ⟨max1_pos _, by unfold max1; split <;> omega⟩
    refine ⟨⟨by omega, inR (by omega) (by omega)⟩, inR (show _ ≤ t - max1 _ by omega) (show t - max1 _ ≤ _ by omega), out wf _ (by omega) nwf m4 fun hl => fit true _ _ _ (by omega) (by omega) hk⟩
  · rw [if_neg m1, if_neg m2, if_neg m3, if_neg m4] at hk
    exact ⟨v, hk⟩
-- (*spec.reader).spoil
def G_spec_reader_spoil (r0b : List Int) (r0p : Int) (list1 : List Int) (n2 : Int) (k : List Int → List Int → Int → Prop) : Prop :=
  F_spec_copyInts list1 fun copyInts9 =>
  F_spec_reader_pick r0b r0p (20 : Int) fun pick11 opick11b opick11p =>
  br (pick11 == 0)
  ((copyInts9.length + 1 ≤ 1000000000) ∧
    k (copyInts9 ++ ([n2] : List Int)) opick11b opick11p)
  (br (pick11 == 1)
    (br (decide ((copyInts9.length : Int) > 0))
      ((0 ≤ (1 : Int) ∧ 1 ≤ (copyInts9.length : Int)) ∧
        k (List.take (copyInts9.length - 1) (List.drop 1 copyInts9)) opick11b opick11p)
      (k copyInts9 opick11b opick11p))
    (br (pick11 == 2)
      (br (decide ((copyInts9.length : Int) > 0))
        (F_spec_reader_pick opick11b opick11p (copyInts9.length : Int) fun pick34 opick34b opick34p =>
          F_spec_reader_one opick34b opick34p ([(-1), n2, 0, 1] : List Int) fun one38 oone38b oone38p =>
          (0 ≤ pick34 ∧ pick34 < (copyInts9.length : Int)) ∧
          k (List.set copyInts9 (Int.toNat pick34) one38) oone38b oone38p)
        (k copyInts9 opick11b opick11p))
      (k copyInts9 opick11b opick11p)))
def S_spec_reader_spoil (r0b : List Int) (r0p : Int) (list1 : List Int) (n2 : Int) (k : List Int → List Int → Int → Prop) : Prop := G_spec_reader_spoil r0b r0p list1 n2 k
def F_spec_reader_spoil (b : List Int) (p : Int) (l : List Int) (n : Int) (k : List Int → List Int → Int → Prop) : Prop :=
  (Bs b ∧ 0 ≤ p ∧ p ≤ 100000000 ∧ l.length ≤ 100000000) ∧ ∀ r p', r.length ≤ l.length + 1 → p ≤ p' → p' ≤ p + 10 → k r b p'
theorem F_spec_reader_spoil_S {b : List Int} {p : Int} {l : List Int} {n : Int} {k : List Int → List Int → Int → Prop} (h : F_spec_reader_spoil b p l n k) : S_spec_reader_spoil b p l n k := by
  obtain ⟨⟨hb, h0, h1, h2⟩, hk⟩ := h
  refine ⟨by omega, ⟨hb, h0, by omega⟩, fun x hx => br_beq.2 ⟨fun _ => ⟨by omega, hk _ _ (by simp) (by omega) (by omega)⟩, fun _ => br_beq.2 ⟨fun _ => br_dec.2 ⟨fun h3 => ⟨⟨by omega, by omega⟩, hk _ _ (by simp; omega) (by omega) (by omega)⟩, fun _ => hk _ _ (by omega) (by omega) (by omega)⟩, fun _ => br_beq.2 ⟨fun _ => br_dec.2 ⟨fun h3 => ?_, fun _ => hk _ _ (by omega) (by omega) (by omega)⟩, fun _ => hk _ _ (by omega) (by omega) (by omega)⟩⟩⟩⟩
  refine ⟨⟨hb, by omega, by omega⟩, fun y hy => ⟨⟨hb, by omega, by omega, by simp⟩, fun z hz => ⟨?_, hk _ _ (by simp) (by omega) (by omega)⟩⟩⟩
  rcases hy with ⟨h4, _⟩ | h4
  · omega
  · exact h4
-- spec.someLists
def T0_spec_someLists_j0 (opick23b : List Int) (opick23p : Int) (pick23 : Int) (xb3c0 : Int) (xb3c1 : Int) (xb3c2 : List Int) (xb3c3 : List Int) (xb3c4 : List Int) (xb3c5 : List Int) (xn4 : Int) (B0 : Int → List Int → Int → Int → Int → List Int → List Int → List Int → List Int → Prop) : Prop :=
  (F_spec_adapt xb3c0 xb3c1 xb3c2 xb3c3 xb3c4 xb3c5 pick23 fun adapt24Room adapt24Target adapt24Once adapt24Often adapt24WasOnce adapt24WasOften adapt24r1 =>
    (InR (xn4 - 1) ∧
      B0 (xn4 - 1) opick23b opick23p adapt24Room adapt24Target adapt24Once adapt24Often adapt24WasOnce adapt24WasOften) ∧
    (True)) ∧
  (True)
def T0_spec_someLists_j1 (copyLists28Often : List Int) (copyLists28Once : List Int) (copyLists28Room : Int) (copyLists28Target : Int) (copyLists28WasOften : List Int) (copyLists28WasOnce : List Int) (opick56b : List Int) (opick56p : Int) (pick56 : Int) (k : Int → Int → List Int → List Int → List Int → List Int → List Int → Int → Prop) : Prop :=
  (((copyLists28WasOften.length + 1 ≤ 1000000000) ∧
      (k copyLists28Room copyLists28Target copyLists28Once copyLists28Often copyLists28WasOnce (copyLists28WasOften ++ ([pick56] : List Int)) opick56b opick56p) ∧
      (True)) ∧
    (True)) ∧
  (True)
def T0_spec_someLists (xn4 : Int) (xb100000c0 : List Int) (xb100000c1 : Int) (xb3c0 : Int) (xb3c1 : Int) (xb3c2 : List Int) (xb3c3 : List Int) (xb3c4 : List Int) (xb3c5 : List Int) (k : Int → Int → List Int → List Int → List Int → List Int → List Int → Int → Prop) (B0 : Int → List Int → Int → Int → Int → List Int → List Int → List Int → List Int → Prop) : Prop :=
  br (decide (xn4 > 0))
  (((F_spec_reader_pick xb100000c0 xb100000c1 (12 : Int) fun pick23 opick23b opick23p =>
        T0_spec_someLists_j0 opick23b opick23p pick23 xb3c0 xb3c1 xb3c2 xb3c3 xb3c4 xb3c5 xn4 B0) ∧
      (True)) ∧
    ((F_spec_reader_pick xb100000c0 xb100000c1 (12 : Int) fun pick23 opick23b opick23p =>
        (T0_spec_someLists_j0 opick23b opick23p pick23 xb3c0 xb3c1 xb3c2 xb3c3 xb3c4 xb3c5 xn4 B0) ∧
        (True)) ∧
      (True)))
  (F_spec_copyLists xb3c0 xb3c1 xb3c2 xb3c3 xb3c4 xb3c5 fun copyLists28Room copyLists28Target copyLists28Once copyLists28Often copyLists28WasOnce copyLists28WasOften =>
    F_spec_reader_pick xb100000c0 xb100000c1 (24 : Int) fun pick30 opick30b opick30p =>
    br (pick30 == 0)
    (InR (copyLists28Room + 1) ∧
      F_spec_reader_one opick30b opick30p ([(-1), (copyLists28Room + 1), copyLists28Room, 0] : List Int) fun one40 oone40b oone40p =>
      k copyLists28Room one40 copyLists28Once copyLists28Often copyLists28WasOnce copyLists28WasOften oone40b oone40p)
    (br (pick30 == 1)
      ((copyLists28Once.length + 1 ≤ 1000000000) ∧
        F_spec_reader_spoil opick30b opick30p (copyLists28Once ++ ([3] : List Int)) (32 : Int) fun spoil49 ospoil49b ospoil49p =>
        k copyLists28Room copyLists28Target spoil49 copyLists28Often copyLists28WasOnce copyLists28WasOften ospoil49b ospoil49p)
      (br (pick30 == 2)
        (((F_spec_reader_pick opick30b opick30p (12 : Int) fun pick56 opick56b opick56p =>
              T0_spec_someLists_j1 copyLists28Often copyLists28Once copyLists28Room copyLists28Target copyLists28WasOften copyLists28WasOnce opick56b opick56p pick56 k) ∧
            (True)) ∧
          ((F_spec_reader_pick opick30b opick30p (12 : Int) fun pick56 opick56b opick56p =>
              (T0_spec_someLists_j1 copyLists28Often copyLists28Once copyLists28Room copyLists28Target copyLists28WasOften copyLists28WasOnce opick56b opick56p pick56 k) ∧
              ((T0_spec_someLists_j1 copyLists28Often copyLists28Once copyLists28Room copyLists28Target copyLists28WasOften copyLists28WasOnce opick56b opick56p pick56 k) ∧
                (True))) ∧
            (True)))
        (br (pick30 == 3)
          (F_spec_reader_one opick30b opick30p ([0, 9, 1] : List Int) fun one64 oone64b oone64p =>
            k one64 copyLists28Target copyLists28Once copyLists28Often copyLists28WasOnce copyLists28WasOften oone64b oone64p)
          (k copyLists28Room copyLists28Target copyLists28Once copyLists28Often copyLists28WasOnce copyLists28WasOften opick30b opick30p)))))
def U0_spec_someLists (xn4 : Int) (xb100000c0 : List Int) (xb100000c1 : Int) (xb3c0 : Int) (xb3c1 : Int) (xb3c2 : List Int) (xb3c3 : List Int) (xb3c4 : List Int) (xb3c5 : List Int) (k : Int → Int → List Int → List Int → List Int → List Int → List Int → Int → Prop) (B0 : Int → List Int → Int → Int → Int → List Int → List Int → List Int → List Int → Prop) : Prop :=
  br (decide (xn4 > 0))
  (F_spec_reader_pick xb100000c0 xb100000c1 (12 : Int) fun pick23 opick23b opick23p =>
    F_spec_adapt xb3c0 xb3c1 xb3c2 xb3c3 xb3c4 xb3c5 pick23 fun adapt24Room adapt24Target adapt24Once adapt24Often adapt24WasOnce adapt24WasOften adapt24r1 =>
    InR (xn4 - 1) ∧
    B0 (xn4 - 1) opick23b opick23p adapt24Room adapt24Target adapt24Once adapt24Often adapt24WasOnce adapt24WasOften)
  (F_spec_copyLists xb3c0 xb3c1 xb3c2 xb3c3 xb3c4 xb3c5 fun copyLists28Room copyLists28Target copyLists28Once copyLists28Often copyLists28WasOnce copyLists28WasOften =>
    F_spec_reader_pick xb100000c0 xb100000c1 (24 : Int) fun pick30 opick30b opick30p =>
    br (pick30 == 0)
    (InR (copyLists28Room + 1) ∧
      F_spec_reader_one opick30b opick30p ([(-1), (copyLists28Room + 1), copyLists28Room, 0] : List Int) fun one40 oone40b oone40p =>
      k copyLists28Room one40 copyLists28Once copyLists28Often copyLists28WasOnce copyLists28WasOften oone40b oone40p)
    (br (pick30 == 1)
      ((copyLists28Once.length + 1 ≤ 1000000000) ∧
        F_spec_reader_spoil opick30b opick30p (copyLists28Once ++ ([3] : List Int)) (32 : Int) fun spoil49 ospoil49b ospoil49p =>
        k copyLists28Room copyLists28Target spoil49 copyLists28Often copyLists28WasOnce copyLists28WasOften ospoil49b ospoil49p)
      (br (pick30 == 2)
        (F_spec_reader_pick opick30b opick30p (12 : Int) fun pick56 opick56b opick56p =>
          (copyLists28WasOften.length + 1 ≤ 1000000000) ∧
          k copyLists28Room copyLists28Target copyLists28Once copyLists28Often copyLists28WasOnce (copyLists28WasOften ++ ([pick56] : List Int)) opick56b opick56p)
        (br (pick30 == 3)
          (F_spec_reader_one opick30b opick30p ([0, 9, 1] : List Int) fun one64 oone64b oone64p =>
            k one64 copyLists28Target copyLists28Once copyLists28Often copyLists28WasOnce copyLists28WasOften oone64b oone64p)
          (k copyLists28Room copyLists28Target copyLists28Once copyLists28Often copyLists28WasOnce copyLists28WasOften opick30b opick30p)))))
theorem T0_spec_someLists_eq (xn4 : Int) (xb100000c0 : List Int) (xb100000c1 : Int) (xb3c0 : Int) (xb3c1 : Int) (xb3c2 : List Int) (xb3c3 : List Int) (xb3c4 : List Int) (xb3c5 : List Int) (k : Int → Int → List Int → List Int → List Int → List Int → List Int → Int → Prop) (B0 : Int → List Int → Int → Int → Int → List Int → List Int → List Int → List Int → Prop) : T0_spec_someLists xn4 xb100000c0 xb100000c1 xb3c0 xb3c1 xb3c2 xb3c3 xb3c4 xb3c5 k B0 = U0_spec_someLists xn4 xb100000c0 xb100000c1 xb3c0 xb3c1 xb3c2 xb3c3 xb3c4 xb3c5 k B0 := by
  first
  | (simp only [T0_spec_someLists, U0_spec_someLists, T0_spec_someLists_j0, T0_spec_someLists_j1, and_self, and_true]; done)
  | (simp only [T0_spec_someLists, U0_spec_someLists, T0_spec_someLists_j0, T0_spec_someLists_j1, and_self, and_true, and_self_left, and_assoc]; refine propext ⟨fun h => ?_, fun h => ?_⟩ <;> (repeat (cases ‹_ ∧ _›)) <;> (repeat' (apply And.intro)) <;> assumption)
def L0_spec_someLists (k : Int → Int → List Int → List Int → List Int → List Int → List Int → Int → Prop) : Nat → Int → List Int → Int → Int → Int → List Int → List Int → List Int → List Int → Prop
  | 0, _, _, _, _, _, _, _, _, _ => False
  | n + 1, xn4, xb100000c0, xb100000c1, xb3c0, xb3c1, xb3c2, xb3c3, xb3c4, xb3c5 => U0_spec_someLists xn4 xb100000c0 xb100000c1 xb3c0 xb3c1 xb3c2 xb3c3 xb3c4 xb3c5 k (L0_spec_someLists k n)
def G_spec_someLists (r0b : List Int) (r0p : Int) (I0 : Int → List Int → Int → Int → Int → List Int → List Int → List Int → List Int → Prop) : Prop :=
  F_spec_reader_one r0b r0p ([2, 3, 4, 1, 6] : List Int) fun one7 oone7b oone7p =>
  F_spec_reader_one oone7b oone7p ([6, 12, 20, 3, 0, 30] : List Int) fun one15 oone15b oone15p =>
  I0 one15 oone15b oone15p one7 0 ([] : List Int) ([] : List Int) ([] : List Int) ([] : List Int)
def S_spec_someLists (r0b : List Int) (r0p : Int) (k : Int → Int → List Int → List Int → List Int → List Int → List Int → Int → Prop) : Prop := G_spec_someLists r0b r0p (fun xn4 xb100000c0 xb100000c1 xb3c0 xb3c1 xb3c2 xb3c3 xb3c4 xb3c5 => ∃ j, L0_spec_someLists k j xn4 xb100000c0 xb100000c1 xb3c0 xb3c1 xb3c2 xb3c3 xb3c4 xb3c5)
def F_spec_someLists (b : List Int) (p : Int) (k : Int → Int → List Int → List Int → List Int → List Int → List Int → Int → Prop) : Prop :=
  (Bs b ∧ 0 ≤ p ∧ p ≤ 10000000) ∧ ∀ r t o f wo wf p', (o.length ≤ 50 ∧ f.length ≤ 50 ∧ wo.length ≤ 50 ∧ wf.length ≤ 50) → p ≤ p' → p' ≤ p + 200 → k r t o f wo wf b p'
theorem F_spec_someLists_S {b : List Int} {p : Int} {k : Int → Int → List Int → List Int → List Int → List Int → List Int → Int → Prop} (h : F_spec_someLists b p k) : S_spec_someLists b p k := by
  obtain ⟨⟨hb, h0, h1⟩, hk⟩ := h
  have key : ∀ (d : Nat) (q r : Int) (a : AL), VLists r a → p ≤ q → q + d ≤ p + 50 → L0_spec_someLists k (d + 1) (d : Int) b q r a.t a.o a.f a.wo a.wf := by
    intro d
    induction d with
    | zero =>
      intro q r a v g1 g2
      obtain ⟨l1, l2, l3, l4⟩ := lists_len v
      have r1 := v.room1
      rw [L0_spec_someLists, U0_spec_someLists]
      refine br_dec.2 ⟨fun h => by omega, fun _ => ⟨by omega, ⟨hb, by omega, by omega⟩, fun x hx => br_beq.2 ⟨fun _ => ⟨inR (by omega) (by omega), ⟨hb, by omega, by omega, by simp⟩, fun y _ => hk _ _ _ _ _ _ _ (by omega) (by omega) (by omega)⟩, fun _ => br_beq.2 ⟨fun _ => ⟨by omega, ⟨hb, by omega, by omega, by simp; omega⟩, fun s p' s1 s2 s3 => hk _ _ _ _ _ _ _ (by simp at s1; omega) (by omega) (by omega)⟩, fun _ => br_beq.2 ⟨fun _ => ⟨⟨hb, by omega, by omega⟩, fun y _ => ⟨by omega, hk _ _ _ _ _ _ _ (by simp; omega) (by omega) (by omega)⟩⟩, fun _ => br_beq.2 ⟨fun _ => ⟨⟨hb, by omega, by omega, by simp⟩, fun y _ => hk _ _ _ _ _ _ _ (by omega) (by omega) (by omega)⟩, fun _ => hk _ _ _ _ _ _ _ (by omega) (by omega) (by omega)⟩⟩⟩⟩⟩⟩
    | succ d ih =>
      intro q r a v g1 g2
      rw [L0_spec_someLists, U0_spec_someLists]
      refine br_dec.2 ⟨fun _ => ⟨⟨hb, by omega, by omega⟩, fun x hx => ⟨v, inR (by omega) (by omega), ?_⟩⟩, fun h => by omega⟩
      rw [show ((d + 1 : Nat) : Int) - 1 = (d : Int) by omega]
      refine ih _ r _ (adM_valid v ?_) (by omega) (by omega)
      unfold Pk at hx; omega
  refine ⟨⟨hb, by omega, by omega, by simp⟩, fun room hroom => ⟨⟨hb, by omega, by omega, by simp⟩, fun n hn => ?_⟩⟩
  simp only [List.mem_cons, List.not_mem_nil, or_false] at hroom hn
  refine ⟨n.toNat + 1, ?_⟩
  have := key n.toNat (p + 1 + 1) room ⟨0, [], [], [], []⟩ (lists0 (by omega) (by omega)) (by omega) (by omega)
  rwa [Int.toNat_of_nonneg (by omega)] at this
-- spec.someKey
def G_spec_someKey (r0b : List Int) (r0p : Int) (k : Int → List Int → Int → Prop) : Prop :=
  F_spec_reader_pick r0b r0p (8 : Int) fun pick5 opick5b opick5p =>
  F_spec_reader_pick opick5b opick5p (8 : Int) fun pick7 opick7b opick7p =>
  F_spec_reader_pick opick7b opick7p (32 : Int) fun pick9 opick9b opick9p =>
  F_spec_reader_one opick9b opick9p ([0, 1, 2, 3, 5, 31, 32, (-1), pick5, pick7, pick9, 4] : List Int) fun one11 oone11b oone11p =>
  k one11 oone11b oone11p
def S_spec_someKey (r0b : List Int) (r0p : Int) (k : Int → List Int → Int → Prop) : Prop := G_spec_someKey r0b r0p k
def F_spec_someKey (b : List Int) (p : Int) (k : Int → List Int → Int → Prop) : Prop := (Bs b ∧ 0 ≤ p ∧ p ≤ 100000000) ∧ ∀ x p', -1 ≤ x → x ≤ 32 → p ≤ p' → p' ≤ p + 10 → k x b p'
theorem F_spec_someKey_S {b : List Int} {p : Int} {k : Int → List Int → Int → Prop} (h : F_spec_someKey b p k) : S_spec_someKey b p k := by
  obtain ⟨⟨hb, h0, h1⟩, hk⟩ := h
  refine ⟨⟨hb, by omega, by omega⟩, fun x hx => ⟨⟨hb, by omega, by omega⟩, fun y hy => ⟨⟨hb, by omega, by omega⟩, fun z hz => ⟨⟨hb, by omega, by omega, by simp⟩, fun u hu => ?_⟩⟩⟩⟩
  unfold Pk at hx hy hz
  simp only [List.mem_cons, List.not_mem_nil, or_false] at hu
  exact hk _ _ (by omega) (by omega) (by omega) (by omega)
-- spec.DrawUseLists
def G_spec_DrawUseLists_j0 (someKey35 : Int) (someLists10Often : List Int) (someLists10Once : List Int) (someLists10Room : Int) (someLists10Target : Int) (someLists10WasOften : List Int) (someLists10WasOnce : List Int) (k : Int → Int → List Int → List Int → List Int → List Int → Int → Prop) : Prop :=
  (k someLists10Room someLists10Target someLists10Once someLists10Often someLists10WasOnce someLists10WasOften someKey35) ∧
  (True)
def G_spec_DrawUseLists (code0 : List Int) (k : Int → Int → List Int → List Int → List Int → List Int → Int → Prop) : Prop :=
  F_spec_newReader code0 fun newReader8b newReader8p =>
  F_spec_someLists newReader8b newReader8p fun someLists10Room someLists10Target someLists10Once someLists10Often someLists10WasOnce someLists10WasOften osomeLists10b osomeLists10p =>
  (F_spec_copyInts someLists10WasOnce fun copyInts13 =>
    ((copyInts13.length + someLists10WasOften.length ≤ 1000000000) ∧
      br (decide (((List.length (copyInts13 ++ someLists10WasOften)) : Int) > 0))
      (F_spec_reader_pick osomeLists10b osomeLists10p (2 : Int) fun pick22 opick22b opick22p =>
        br (pick22 == 0)
        ((F_spec_reader_pick opick22b opick22p ((List.length (copyInts13 ++ someLists10WasOften)) : Int) fun pick30 opick30b opick30p =>
            (0 ≤ pick30 ∧ pick30 < ((List.length (copyInts13 ++ someLists10WasOften)) : Int)) ∧
            (k someLists10Room someLists10Target someLists10Once someLists10Often someLists10WasOnce someLists10WasOften (List.getD (copyInts13 ++ someLists10WasOften) (Int.toNat pick30) (0 : Int))) ∧
            (True)) ∧
          (True))
        ((F_spec_someKey opick22b opick22p fun someKey35 osomeKey35b osomeKey35p =>
            G_spec_DrawUseLists_j0 someKey35 someLists10Often someLists10Once someLists10Room someLists10Target someLists10WasOften someLists10WasOnce k) ∧
          (True)))
      ((F_spec_someKey osomeLists10b osomeLists10p fun someKey35 osomeKey35b osomeKey35p =>
          G_spec_DrawUseLists_j0 someKey35 someLists10Often someLists10Once someLists10Room someLists10Target someLists10WasOften someLists10WasOnce k) ∧
        (True))) ∧
    (True)) ∧
  (True)
def H_spec_DrawUseLists (code0 : List Int) (k : Int → Int → List Int → List Int → List Int → List Int → Int → Prop) : Prop :=
  F_spec_newReader code0 fun newReader8b newReader8p =>
  F_spec_someLists newReader8b newReader8p fun someLists10Room someLists10Target someLists10Once someLists10Often someLists10WasOnce someLists10WasOften osomeLists10b osomeLists10p =>
  F_spec_copyInts someLists10WasOnce fun copyInts13 =>
  (copyInts13.length + someLists10WasOften.length ≤ 1000000000) ∧
  br (decide (((List.length (copyInts13 ++ someLists10WasOften)) : Int) > 0))
  (F_spec_reader_pick osomeLists10b osomeLists10p (2 : Int) fun pick22 opick22b opick22p =>
    br (pick22 == 0)
    (F_spec_reader_pick opick22b opick22p ((List.length (copyInts13 ++ someLists10WasOften)) : Int) fun pick30 opick30b opick30p =>
      (0 ≤ pick30 ∧ pick30 < ((List.length (copyInts13 ++ someLists10WasOften)) : Int)) ∧
      k someLists10Room someLists10Target someLists10Once someLists10Often someLists10WasOnce someLists10WasOften (List.getD (copyInts13 ++ someLists10WasOften) (Int.toNat pick30) (0 : Int)))
    (F_spec_someKey opick22b opick22p fun someKey35 osomeKey35b osomeKey35p =>
      k someLists10Room someLists10Target someLists10Once someLists10Often someLists10WasOnce someLists10WasOften someKey35))
  (F_spec_someKey osomeLists10b osomeLists10p fun someKey35 osomeKey35b osomeKey35p =>
    k someLists10Room someLists10Target someLists10Once someLists10Often someLists10WasOnce someLists10WasOften someKey35)
theorem G_spec_DrawUseLists_eq (code0 : List Int) (k : Int → Int → List Int → List Int → List Int → List Int → Int → Prop) : G_spec_DrawUseLists code0 k = H_spec_DrawUseLists code0 k := by
  first
  | (simp only [G_spec_DrawUseLists, H_spec_DrawUseLists, G_spec_DrawUseLists_j0, and_self, and_true]; done)
  | (simp only [G_spec_DrawUseLists, H_spec_DrawUseLists, G_spec_DrawUseLists_j0, and_self, and_true, and_self_left, and_assoc]; refine propext ⟨fun h => ?_, fun h => ?_⟩ <;> (repeat (cases ‹_ ∧ _›)) <;> (repeat' (apply And.intro)) <;> assumption)
def S_spec_DrawUseLists (code0 : List Int) (k : Int → Int → List Int → List Int → List Int → List Int → Int → Prop) : Prop := H_spec_DrawUseLists code0 k
def F_spec_DrawUseLists (code : List Int) (k : Int → Int → List Int → List Int → List Int → List Int → Int → Prop) : Prop :=
  (∀ x ∈ code, 0 ≤ x ∧ x ≤ 255) ∧ ∀ r t o f wo wf key, (o.length ≤ 50 ∧ f.length ≤ 50 ∧ wo.length ≤ 50 ∧ wf.length ≤ 50) → k r t o f wo wf key
theorem F_spec_DrawUseLists_S {code : List Int} {k : Int → Int → List Int → List Int → List Int → List Int → Int → Prop} (h : F_spec_DrawUseLists code k) : S_spec_DrawUseLists code k := by
  obtain ⟨hc, hk⟩ := h
  refine ⟨hc, fun b hb => ⟨⟨hb, by omega, by omega⟩, fun r t o f wo wf p' l g1 g2 => ⟨by omega, by omega, br_dec.2 ⟨fun _ => ⟨⟨hb, by omega, by omega⟩, fun x hx => br_beq.2 ⟨fun _ => ⟨⟨hb, by omega, by omega⟩, fun y hy => ⟨?_, hk _ _ _ _ _ _ _ l⟩⟩, fun _ => ⟨⟨hb, by omega, by omega⟩, fun key p2 _ _ _ _ => hk _ _ _ _ _ _ _ l⟩⟩⟩, fun _ => ⟨⟨hb, by omega, by omega⟩, fun key p2 _ _ _ _ => hk _ _ _ _ _ _ _ l⟩⟩⟩⟩⟩
  unfold Pk at hy; omega
-- impl.validRoom
def G_impl_validRoom (room0 : Int) (k : Bool → Prop) : Prop :=
  br (decide (1 ≤ room0))
  (k (decide (room0 ≤ 8)))
  (k false)
def S_impl_validRoom (room0 : Int) (k : Bool → Prop) : Prop := G_impl_validRoom room0 k
def F_impl_validRoom (n : Int) (k : Bool → Prop) : Prop := k (decide (1 ≤ n ∧ n ≤ 8))
theorem F_impl_validRoom_S {n : Int} {k : Bool → Prop} (h : F_impl_validRoom n k) : S_impl_validRoom n k := by
  unfold F_impl_validRoom at h
  simp only [S_impl_validRoom, G_impl_validRoom, br_dec]
  refine ⟨fun h1 => ?_, fun h1 => ?_⟩
  · simpa [h1] using h
  · simpa [h1] using h
-- slices.Concat[[]int,int]
def T1_slices_Concat_sint_int (slices0 : List (List Int)) (xt26 : Int) (xt27 : Int) (xnewslice6 : List Int) (k : List Int → Prop) (B1 : Int → Int → List Int → Prop) : Prop :=
  br (decide (xt27 < xt26))
  ((0 ≤ xt27 ∧ xt27 < (slices0.length : Int)) ∧
    (xnewslice6.length + (List.length (List.getD slices0 (Int.toNat xt27) [])) ≤ 1000000000) ∧
    InR (xt27 + 1) ∧
    B1 xt26 (xt27 + 1) (xnewslice6 ++ (List.getD slices0 (Int.toNat xt27) [])))
  (k xnewslice6)
def L1_slices_Concat_sint_int (slices0 : List (List Int)) (k : List Int → Prop) : Nat → Int → Int → List Int → Prop
  | 0, _, _, _ => False
  | n + 1, xt26, xt27, xnewslice6 => T1_slices_Concat_sint_int slices0 xt26 xt27 xnewslice6 k (L1_slices_Concat_sint_int slices0 k n)
def T0_slices_Concat_sint_int (slices0 : List (List Int)) (xt10 : Int) (xsize3 : Int) (xt11 : Int) (B0 : Int → Int → Prop) (I1 : List (List Int) → Int → Int → List Int → Prop) : Prop :=
  br (decide (xt11 < xt10))
  ((0 ≤ xt11 ∧ xt11 < (slices0.length : Int)) ∧
    InR (xsize3 + ((List.length (List.getD slices0 (Int.toNat xt11) [])) : Int)) ∧
    br (decide ((xsize3 + ((List.length (List.getD slices0 (Int.toNat xt11) [])) : Int)) < 0))
    (False)
    (InR (xt11 + 1) ∧
      B0 (xsize3 + ((List.length (List.getD slices0 (Int.toNat xt11) [])) : Int)) (xt11 + 1)))
  (br (decide (xsize3 < 0))
    (False)
    (InR ((0 : Int) - 0) ∧
      InR (xsize3 - 0) ∧
      br (decide ((xsize3 - 0) > 0))
      (((0 : Int) = 0) ∧
        (0 ≤ (xsize3 - 0) ∧ (xsize3 - 0) ≤ 1000000000) ∧
        (0 ≤ (0 : Int) ∧ 0 ≤ ((List.length (List.replicate (Int.toNat (xsize3 - 0)) (0 : Int))) : Int)) ∧
        I1 slices0 (slices0.length : Int) 0 (List.take 0 (List.drop 0 (List.replicate (Int.toNat (xsize3 - 0)) (0 : Int)))))
      (I1 slices0 (slices0.length : Int) 0 ([] : List Int))))
def L0_slices_Concat_sint_int (slices0 : List (List Int)) (xt10 : Int) (k : List Int → Prop) : Nat → Int → Int → Prop
  | 0, _, _ => False
  | n + 1, xsize3, xt11 => T0_slices_Concat_sint_int slices0 xt10 xsize3 xt11 (L0_slices_Concat_sint_int slices0 xt10 k n) (fun slices0 xt26 xt27 xnewslice6 => ∃ j, L1_slices_Concat_sint_int slices0 k j xt26 xt27 xnewslice6)
def G_slices_Concat_sint_int (slices0 : List (List Int)) (I0 : List (List Int) → Int → Int → Int → Prop) : Prop :=
  I0 slices0 (slices0.length : Int) 0 0
def S_slices_Concat_sint_int (slices0 : List (List Int)) (k : List Int → Prop) : Prop := G_slices_Concat_sint_int slices0 (fun slices0 xt10 xsize3 xt11 => ∃ j, L0_slices_Concat_sint_int slices0 xt10 k j xsize3 xt11)
def F_slices_Concat_sint_int (ls : List (List Int)) (k : List Int → Prop) : Prop := (ls.length ≤ 1000000000 ∧ ls.flatten.length ≤ 1000000000) ∧ k ls.flatten
theorem F_slices_Concat_sint_int_S {ls : List (List Int)} {k : List Int → Prop} (h : F_slices_Concat_sint_int ls k) : S_slices_Concat_sint_int ls k := by
  obtain ⟨⟨hl, ht⟩, hk⟩ := h
  have le : ∀ i, (ls.take i).flatten.length ≤ ls.flatten.length := fun i => by
    have := congrArg List.length (congrArg List.flatten (List.take_append_drop i ls))
    rw [List.flatten_append, List.length_append] at this
    omega
  have key1 : ∀ (r : List (List Int)) (i : Nat), ls.drop i = r → L1_slices_Concat_sint_int ls k (r.length + 1) (ls.length : Int) (i : Int) (ls.take i).flatten := by
    intro r
    induction r with
    | nil =>
      intro i hd
      have := drop_nil' hd
      rw [List.take_of_length_le this, L1_slices_Concat_sint_int, T1_slices_Concat_sint_int]
      exact br_dec.2 ⟨fun h => by omega, fun _ => hk⟩
    | cons x r ih =>
      intro i hd
      obtain ⟨h1, h2, h5, h3, h4⟩ := drop_cons' hd
      have hle := le (i + 1)
      have he : (ls.take (i + 1)).flatten = (ls.take i).flatten ++ x := by rw [h4]; simp
      have := ih (i + 1) h3
      rw [he] at this hle
      rw [List.length_append] at hle
      rw [List.length_cons, L1_slices_Concat_sint_int, T1_slices_Concat_sint_int]
      simp only [br_dec, Int.toNat_natCast, h2]
      exact ⟨fun _ => ⟨⟨by omega, by omega⟩, by omega, inR (by omega) (by omega), this⟩, fun h => by omega⟩
  have key : ∀ (r : List (List Int)) (i : Nat), ls.drop i = r → L0_slices_Concat_sint_int ls (ls.length : Int) k (r.length + 1) ((ls.take i).flatten.length : Int) (i : Int) := by
    intro r
    induction r with
    | nil =>
      intro i hd
      have := drop_nil' hd
      rw [List.take_of_length_le this, L0_slices_Concat_sint_int, T0_slices_Concat_sint_int]
      refine br_dec.2 ⟨fun h => by omega, fun _ => br_dec.2 ⟨fun h => by omega, fun _ => ⟨inR (by omega) (by omega), inR (by omega) (by omega), br_dec.2 ⟨fun h => ⟨rfl, ⟨by omega, by omega⟩, ⟨by omega, by omega⟩, ⟨_, key1 ls 0 rfl⟩⟩, fun h => ⟨_, key1 ls 0 rfl⟩⟩⟩⟩⟩
    | cons x r ih =>
      intro i hd
      obtain ⟨h1, h2, h5, h3, h4⟩ := drop_cons' hd
      have hle := le (i + 1)
      have he : (ls.take (i + 1)).flatten = (ls.take i).flatten ++ x := by rw [h4]; simp
      have := ih (i + 1) h3
      rw [he, List.length_append] at this hle
      rw [List.length_cons, L0_slices_Concat_sint_int, T0_slices_Concat_sint_int]
      simp only [br_dec, Int.toNat_natCast, h2]
      have e2 : (((ls.take i).flatten.length + x.length : Nat) : Int) = ((ls.take i).flatten.length : Int) + (x.length : Int) := by omega
      rw [e2] at this
      refine ⟨fun _ => ⟨⟨by omega, by omega⟩, inR (by omega) (by omega), fun h => by omega, fun _ => ⟨inR (by omega) (by omega), this⟩⟩, fun h => by omega⟩
  exact ⟨_, key ls 0 rfl⟩
-- impl.validKey
def G_impl_validKey (key0 : Int) (k : Bool → Prop) : Prop :=
  br (decide (0 ≤ key0))
  (k (decide (key0 ≤ 31)))
  (k false)
def S_impl_validKey (key0 : Int) (k : Bool → Prop) : Prop := G_impl_validKey key0 k
def F_impl_validKey (n : Int) (k : Bool → Prop) : Prop := k (decide (0 ≤ n ∧ n ≤ 31))
theorem F_impl_validKey_S {n : Int} {k : Bool → Prop} (h : F_impl_validKey n k) : S_impl_validKey n k := by
  unfold F_impl_validKey at h
  simp only [S_impl_validKey, G_impl_validKey, br_dec]
  refine ⟨fun h1 => ?_, fun h1 => ?_⟩
  · simpa [h1] using h
  · simpa [h1] using h
-- slices.Index[[]int,int]
def T0_slices_Index_sint_int (s0 : List Int) (v1 : Int) (xt7 : Int) (xt8 : Int) (k : Int → Prop) (B0 : Int → Prop) : Prop :=
  br (decide (xt8 < xt7))
  ((0 ≤ xt8 ∧ xt8 < (s0.length : Int)) ∧
    br (v1 == (List.getD s0 (Int.toNat xt8) (0 : Int)))
    (k xt8)
    (InR (xt8 + 1) ∧
      B0 (xt8 + 1)))
  (k (-1))
def L0_slices_Index_sint_int (s0 : List Int) (v1 : Int) (xt7 : Int) (k : Int → Prop) : Nat → Int → Prop
  | 0, _ => False
  | n + 1, xt8 => T0_slices_Index_sint_int s0 v1 xt7 xt8 k (L0_slices_Index_sint_int s0 v1 xt7 k n)
def G_slices_Index_sint_int (s0 : List Int) (v1 : Int) (I0 : List Int → Int → Int → Int → Prop) : Prop :=
  I0 s0 v1 (s0.length : Int) 0
def S_slices_Index_sint_int (s0 : List Int) (v1 : Int) (k : Int → Prop) : Prop := G_slices_Index_sint_int s0 v1 (fun s0 v1 xt7 xt8 => ∃ j, L0_slices_Index_sint_int s0 v1 xt7 k j xt8)
def F_slices_Index_sint_int (l : List Int) (n : Int) (k : Int → Prop) : Prop := l.length ≤ 1000000000 ∧ k (plc l n)
theorem F_slices_Index_sint_int_S {l : List Int} {n : Int} {k : Int → Prop} (h : F_slices_Index_sint_int l n k) : S_slices_Index_sint_int l n k := by
  obtain ⟨hl, hk⟩ := h
  have key : ∀ (r : List Int) (i : Nat), l.drop i = r → plcF r n i = plc l n → L0_slices_Index_sint_int l n (l.length : Int) k (r.length + 1) (i : Int) := by
    intro r
    induction r with
    | nil =>
      intro i hd he
      have := drop_nil' hd
      rw [L0_slices_Index_sint_int, T0_slices_Index_sint_int]
      simp only [br_dec]
      exact ⟨fun h => by omega, fun _ => by rw [show (-1 : Int) = plc l n from he]; exact hk⟩
    | cons x r ih =>
      intro i hd he
      obtain ⟨h1, h2, _, h3, _⟩ := drop_cons' hd
      rw [List.length_cons, L0_slices_Index_sint_int, T0_slices_Index_sint_int]
      simp only [br_dec, br_beq, Int.toNat_natCast, h2]
      refine ⟨fun _ => ⟨⟨by omega, by omega⟩, fun hx => ?_, fun hx => ⟨inR (by omega) (by omega), ?_⟩⟩, fun h => by omega⟩
      · simp only [plcF, if_pos hx.symm] at he; rw [he]; exact hk
      · simp only [plcF, if_neg (Ne.symm hx)] at he; exact ih (i + 1) h3 he
  exact ⟨_, key l 0 rfl rfl⟩
-- slices.Contains[[]int,int]
def G_slices_Contains_sint_int (s0 : List Int) (v1 : Int) (k : Bool → Prop) : Prop :=
  F_slices_Index_sint_int s0 v1 fun index7 =>
  k (decide (index7 ≥ 0))
def S_slices_Contains_sint_int (s0 : List Int) (v1 : Int) (k : Bool → Prop) : Prop := G_slices_Contains_sint_int s0 v1 k
def F_slices_Contains_sint_int (l : List Int) (n : Int) (k : Bool → Prop) : Prop := l.length ≤ 1000000000 ∧ k (decide (n ∈ l))
theorem F_slices_Contains_sint_int_S {l : List Int} {n : Int} {k : Bool → Prop} (h : F_slices_Contains_sint_int l n k) : S_slices_Contains_sint_int l n k := by
  refine ⟨h.1, ?_⟩
  have : decide (plc l n ≥ 0) = decide (n ∈ l) := decide_eq_decide.2 plc_ge
  show k (decide (plc l n ≥ 0))
  rw [this]; exact h.2
-- impl.differentKeys
def T0_impl_differentKeys (list0 : List Int) (xt6 : Int) (xt7 : Int) (k : Bool → Prop) (B0 : Int → Prop) : Prop :=
  br (decide (xt7 < xt6))
  ((0 ≤ xt7 ∧ xt7 < (list0.length : Int)) ∧
    F_impl_validKey (List.getD list0 (Int.toNat xt7) (0 : Int)) fun validKey13 =>
    br (!validKey13)
    (k false)
    ((0 ≤ xt7 ∧ xt7 ≤ (list0.length : Int)) ∧
      F_slices_Contains_sint_int (List.take (Int.toNat xt7) list0) (List.getD list0 (Int.toNat xt7) (0 : Int)) fun contains20 =>
      br contains20
      (k false)
      (InR (xt7 + 1) ∧
        B0 (xt7 + 1))))
  (k true)
def L0_impl_differentKeys (list0 : List Int) (xt6 : Int) (k : Bool → Prop) : Nat → Int → Prop
  | 0, _ => False
  | n + 1, xt7 => T0_impl_differentKeys list0 xt6 xt7 k (L0_impl_differentKeys list0 xt6 k n)
def G_impl_differentKeys (list0 : List Int) (I0 : List Int → Int → Int → Prop) : Prop :=
  I0 list0 (list0.length : Int) 0
def S_impl_differentKeys (list0 : List Int) (k : Bool → Prop) : Prop := G_impl_differentKeys list0 (fun list0 xt6 xt7 => ∃ j, L0_impl_differentKeys list0 xt6 k j xt7)
def F_impl_differentKeys (l : List Int) (k : Bool → Prop) : Prop := l.length ≤ 1000000000 ∧ ∀ b : Bool, (b = true ↔ (∀ x ∈ l, 0 ≤ x ∧ x ≤ 31) ∧ l.Nodup) → k b
theorem F_impl_differentKeys_S {l : List Int} {k : Bool → Prop} (h : F_impl_differentKeys l k) : S_impl_differentKeys l k := by
  obtain ⟨hl, h⟩ := h
  have hno : ¬ ((∀ x ∈ l, 0 ≤ x ∧ x ≤ 31) ∧ l.Nodup) → k false := fun hv => h false (by simp only [Bool.false_eq_true, false_iff]; exact hv)
  have key : ∀ (r : List Int) (i : Nat), l.drop i = r → (∀ x ∈ l.take i, 0 ≤ x ∧ x ≤ 31) → (l.take i).Nodup → L0_impl_differentKeys l (l.length : Int) k (r.length + 1) (i : Int) := by
    intro r
    induction r with
    | nil =>
      intro i hd he hn
      have := drop_nil' hd
      rw [List.take_of_length_le this] at he hn
      rw [L0_impl_differentKeys, T0_impl_differentKeys]
      simp only [br_dec]
      exact ⟨fun h => by omega, fun _ => h true (by simp only [true_iff]; exact ⟨he, hn⟩)⟩
    | cons x r ih =>
      intro i hd he hn
      obtain ⟨h1, h2, h5, h3, h4⟩ := drop_cons' hd
      rw [List.length_cons, L0_impl_differentKeys, T0_impl_differentKeys]
      simp only [br_dec, F_impl_validKey, F_slices_Contains_sint_int, Int.toNat_natCast, h2, br_not]
      have hxl : x ∈ l := List.mem_of_getElem? h5
      refine ⟨fun _ => ⟨⟨by omega, by omega⟩, fun hx => ⟨⟨by omega, by omega⟩, by simp; omega, fun hc => ?_, fun hc => ⟨inR (by omega) (by omega), ?_⟩⟩, fun hx => hno fun v => hx (v.1 x hxl)⟩, fun h => by omega⟩
      · refine hno fun v => ?_
        have hn2 := v.2
        rw [← List.take_append_drop i l, hd] at hn2
        exact (List.nodup_append.1 hn2).2.2 x hc x (by simp) rfl
      · refine ih (i + 1) h3 ?_ ?_
        · rw [h4]; intro y hy
          rcases List.mem_append.1 hy with hy | hy
          · exact he y hy
          · simp at hy; subst hy; exact hx
        · rw [h4, List.nodup_append]
          refine ⟨hn, by simp, fun a ha b hb e => ?_⟩
          simp at hb; subst hb; subst e; exact hc ha
  exact ⟨_, key l 0 rfl (by simp) (by simp)⟩
-- impl.ValidLists
def G_impl_ValidLists (a0Room : Int) (a0Target : Int) (a0Once : List Int) (a0Often : List Int) (a0WasOnce : List Int) (a0WasOften : List Int) (k : Bool → Prop) : Prop :=
  F_impl_validRoom a0Room fun validRoom7 =>
  br (!validRoom7)
  (k false)
  (br (decide (a0Target < 0))
    (k false)
    (br (decide (a0Target > a0Room))
      (k false)
      (InR ((a0Once.length : Int) + (a0WasOnce.length : Int)) ∧
        InR ((a0Often.length : Int) + (a0WasOften.length : Int)) ∧
        InR ((a0Once.length : Int) + (a0Often.length : Int)) ∧
        br (decide (((a0Once.length : Int) + (a0Often.length : Int)) > a0Room))
        (k false)
        (br (decide (((a0Once.length : Int) + (a0WasOnce.length : Int)) > a0Room))
          (k false)
          (InR (((a0Once.length : Int) + (a0WasOnce.length : Int)) + ((a0Often.length : Int) + (a0WasOften.length : Int))) ∧
            InR (2 * a0Room) ∧
            br (decide ((((a0Once.length : Int) + (a0WasOnce.length : Int)) + ((a0Often.length : Int) + (a0WasOften.length : Int))) > (2 * a0Room)))
            (k false)
            (F_slices_Concat_sint_int ([a0Once, a0Often, a0WasOnce, a0WasOften] : List (List Int)) fun concat69 =>
              F_impl_differentKeys concat69 fun differentKeys70 =>
              k differentKeys70))))))
def S_impl_ValidLists (a0Room : Int) (a0Target : Int) (a0Once : List Int) (a0Often : List Int) (a0WasOnce : List Int) (a0WasOften : List Int) (k : Bool → Prop) : Prop := G_impl_ValidLists a0Room a0Target a0Once a0Often a0WasOnce a0WasOften k
def F_impl_ValidLists (r t : Int) (o f wo wf : List Int) (k : Bool → Prop) : Prop :=
  (o.length ≤ 100000000 ∧ f.length ≤ 100000000 ∧ wo.length ≤ 100000000 ∧ wf.length ≤ 100000000) ∧ ∀ b : Bool, (b = true ↔ VLists r ⟨t, o, f, wo, wf⟩) → k b
theorem F_impl_ValidLists_S {r t : Int} {o f wo wf : List Int} {k : Bool → Prop} (h : F_impl_ValidLists r t o f wo wf k) : S_impl_ValidLists r t o f wo wf k := by
  obtain ⟨⟨h1, h2, h3, h4⟩, hk⟩ := h
  have no : ¬ VLists r ⟨t, o, f, wo, wf⟩ → k false := fun hv => hk false (by simp [hv])
  refine br_not.2 (br_dec.2 ⟨fun g1 => ?_, fun g1 => no fun v => g1 v.room1⟩)
  refine br_dec.2 ⟨fun g => no fun v => by have := v.tgt; simp only at this; omega, fun g2 => br_dec.2 ⟨fun g => no fun v => by have := v.tgt; simp only at this; omega, fun g3 => ?_⟩⟩
  refine ⟨inR (by omega) (by omega), inR (by omega) (by omega), inR (by omega) (by omega), ?_⟩
  refine br_dec.2 ⟨fun g => no fun v => by have := v.inc; simp only at this; omega, fun g4 => br_dec.2 ⟨fun g => no fun v => by have := v.onc; simp only at this; omega, fun g5 => ?_⟩⟩
  refine ⟨inR (by omega) (by omega), inR (by omega) (by omega), ?_⟩
  refine br_dec.2 ⟨fun g => no fun v => by have := v.tot; simp only at this; omega, fun g6 => ?_⟩
  have e : ([o, f, wo, wf] : List (List Int)).flatten = ((o ++ f) ++ wo) ++ wf := by simp
  refine ⟨⟨by simp, by rw [e]; simp; omega⟩, ?_⟩
  rw [e]
  refine ⟨by simp; omega, fun b hb => hk b ?_⟩
  rw [hb]
  have e2 : ∀ x, x ∈ ((o ++ f) ++ wo) ++ wf ↔ (x ∈ o ∨ x ∈ f ∨ x ∈ wo ∨ x ∈ wf) := fun x => by simp [List.mem_append, or_assoc]
  exact ⟨fun ⟨h5, h6⟩ => ⟨g1, ⟨by simp only; omega, by simp only; omega⟩, by simp only; omega, by simp only; omega, by simp only; omega, D4_nodup.1 h6, fun x hx => h5 x ((e2 x).2 hx)⟩, fun v => ⟨fun x hx => v.rng x ((e2 x).1 hx), D4_nodup.2 v.dis⟩⟩
-- impl.nextTarget
def G_impl_nextTarget (a0Room : Int) (a0Target : Int) (a0Once : List Int) (a0Often : List Int) (a0WasOnce : List Int) (a0WasOften : List Int) (key1 : Int) (k : Int → Prop) : Prop :=
  F_slices_Contains_sint_int a0WasOnce key1 fun contains8 =>
  br contains8
  (((a0WasOnce.length : Int) ≠ 0 ∧ InR (Int.tdiv (a0WasOften.length : Int) (a0WasOnce.length : Int))) ∧
    InR (a0Target + (if (Int.tdiv (a0WasOften.length : Int) (a0WasOnce.length : Int)) < 1 then (1 : Int) else (Int.tdiv (a0WasOften.length : Int) (a0WasOnce.length : Int)))) ∧
    k (if a0Room < (a0Target + (if (Int.tdiv (a0WasOften.length : Int) (a0WasOnce.length : Int)) < 1 then (1 : Int) else (Int.tdiv (a0WasOften.length : Int) (a0WasOnce.length : Int)))) then a0Room else (a0Target + (if (Int.tdiv (a0WasOften.length : Int) (a0WasOnce.length : Int)) < 1 then (1 : Int) else (Int.tdiv (a0WasOften.length : Int) (a0WasOnce.length : Int))))))
  (F_slices_Contains_sint_int a0WasOften key1 fun contains26 =>
    br contains26
    (((a0WasOften.length : Int) ≠ 0 ∧ InR (Int.tdiv (a0WasOnce.length : Int) (a0WasOften.length : Int))) ∧
      InR (a0Target - (if (Int.tdiv (a0WasOnce.length : Int) (a0WasOften.length : Int)) < 1 then (1 : Int) else (Int.tdiv (a0WasOnce.length : Int) (a0WasOften.length : Int)))) ∧
      k (if (a0Target - (if (Int.tdiv (a0WasOnce.length : Int) (a0WasOften.length : Int)) < 1 then (1 : Int) else (Int.tdiv (a0WasOnce.length : Int) (a0WasOften.length : Int)))) < 0 then (0 : Int) else (a0Target - (if (Int.tdiv (a0WasOnce.length : Int) (a0WasOften.length : Int)) < 1 then (1 : Int) else (Int.tdiv (a0WasOnce.length : Int) (a0WasOften.length : Int))))))
    (k a0Target))
def S_impl_nextTarget (a0Room : Int) (a0Target : Int) (a0Once : List Int) (a0Often : List Int) (a0WasOnce : List Int) (a0WasOften : List Int) (key1 : Int) (k : Int → Prop) : Prop := G_impl_nextTarget a0Room a0Target a0Once a0Often a0WasOnce a0WasOften key1 k
def F_impl_nextTarget (r t : Int) (o f wo wf : List Int) (key : Int) (k : Int → Prop) : Prop := VLists r ⟨t, o, f, wo, wf⟩ ∧ k (nextT r ⟨t, o, f, wo, wf⟩ key)
theorem F_impl_nextTarget_S {r t : Int} {o f wo wf : List Int} {key : Int} {k : Int → Prop} (h : F_impl_nextTarget r t o f wo wf key k) : S_impl_nextTarget r t o f wo wf key k := by
  obtain ⟨v, hk⟩ := h
  obtain ⟨l1, l2, l3, l4⟩ := lists_len v
  have r1 := v.room1
  have tg := v.tgt
  simp only at l1 l2 l3 l4 tg
  have mx : ∀ x : Int, (if x < 1 then (1 : Int) else x) = max1 x := fun x => by unfold max1; split <;> split <;> omega
  unfold nextT at hk
  refine ⟨by omega, br_dec.2 ⟨fun m3 => ?_, fun m3 => ⟨by omega, br_dec.2 ⟨fun m4 => ?_, fun m4 => ?_⟩⟩⟩⟩
  · rw [if_pos m3] at hk
    have hp : 0 < wo.length := List.length_pos_of_mem m3
    have q1 : 0 ≤ Int.tdiv (wf.length : Int) wo.length := Int.tdiv_nonneg (by omega) (by omega)
    have q2 : Int.tdiv (wf.length : Int) wo.length ≤ wf.length := Int.tdiv_le_self _ (by omega)
    have q3 : 1 ≤ max1 (Int.tdiv (wf.length : Int) wo.length) ∧ max1 (Int.tdiv (wf.length : Int) wo.length) ≤ 16 := ⟨max1_pos _, by unfold max1; split <;> omega⟩
    rw [mx]
    refine ⟨⟨by omega, inR (by omega) (by omega)⟩, inR (by omega) (by omega), ?_⟩
    have e : (if r < t + max1 (Int.tdiv (wf.length : Int) wo.length) then r else t + max1 (Int.tdiv (wf.length : Int) wo.length)) = (if t + max1 (Int.tdiv (wf.length : Int) wo.length) < r then t + max1 (Int.tdiv (wf.length : Int) wo.length) else r) := by split <;> split <;> omega
    rw [e]; exact hk
  · rw [if_neg m3, if_pos m4] at hk
    have hp : 0 < wf.length := List.length_pos_of_mem m4
    have q1 : 0 ≤ Int.tdiv (wo.length : Int) wf.length := Int.tdiv_nonneg (by omega) (by omega)
    have q2 : Int.tdiv (wo.length : Int) wf.length ≤ wo.length := Int.tdiv_le_self _ (by omega)
    have q3 : 1 ≤ max1 (Int.tdiv (wo.length : Int) wf.length) ∧ max1 (Int.tdiv (wo.length : Int) wf.length) ≤ 16 := ⟨max1_pos _, by unfold max1; split <;> omega⟩
    rw [mx]
    refine ⟨⟨by omega, inR (by omega) (by omega)⟩, inR (by omega) (by omega), ?_⟩
    have e : (if t - max1 (Int.tdiv (wo.length : Int) wf.length) < 0 then (0 : Int) else t - max1 (Int.tdiv (wo.length : Int) wf.length)) = (if 0 < t - max1 (Int.tdiv (wo.length : Int) wf.length) then t - max1 (Int.tdiv (wo.length : Int) wf.length) else 0) := by split <;> split <;> omega
    rw [e]; exact hk
  · rw [if_neg m3, if_neg m4] at hk
    exact hk
-- impl.withoutKey
def T0_impl_withoutKey (key1 : Int) (list0 : List Int) (xt10 : Int) (xt11 : Int) (xout5 : List Int) (k : List Int → Prop) (B0 : Int → List Int → Prop) : Prop :=
  br (decide (xt11 < xt10))
  ((0 ≤ xt11 ∧ xt11 < (list0.length : Int)) ∧
    br ((List.getD list0 (Int.toNat xt11) (0 : Int)) != key1)
    ((xout5.length + 1 ≤ 1000000000) ∧
      InR (xt11 + 1) ∧
      B0 (xt11 + 1) (xout5 ++ ([(List.getD list0 (Int.toNat xt11) (0 : Int))] : List Int)))
    (InR (xt11 + 1) ∧
      B0 (xt11 + 1) xout5))
  (k xout5)
def L0_impl_withoutKey (key1 : Int) (list0 : List Int) (xt10 : Int) (k : List Int → Prop) : Nat → Int → List Int → Prop
  | 0, _, _ => False
  | n + 1, xt11, xout5 => T0_impl_withoutKey key1 list0 xt10 xt11 xout5 k (L0_impl_withoutKey key1 list0 xt10 k n)
def G_impl_withoutKey (list0 : List Int) (key1 : Int) (I0 : Int → List Int → Int → Int → List Int → Prop) : Prop :=
  I0 key1 list0 (list0.length : Int) 0 ([] : List Int)
def S_impl_withoutKey (list0 : List Int) (key1 : Int) (k : List Int → Prop) : Prop := G_impl_withoutKey list0 key1 (fun key1 list0 xt10 xt11 xout5 => ∃ j, L0_impl_withoutKey key1 list0 xt10 k j xt11 xout5)
def F_impl_withoutKey (l : List Int) (key : Int) (k : List Int → Prop) : Prop := l.length ≤ 1000000000 ∧ k (rmK l key)
theorem F_impl_withoutKey_S {l : List Int} {key : Int} {k : List Int → Prop} (h : F_impl_withoutKey l key k) : S_impl_withoutKey l key k := by
  obtain ⟨hl, hk⟩ := h
  have key1 : ∀ (r : List Int) (i : Nat) (out : List Int), l.drop i = r → out.length ≤ i → out ++ rmK r key = rmK l key → L0_impl_withoutKey key l (l.length : Int) k (r.length + 1) (i : Int) out := by
    intro r
    induction r with
    | nil =>
      intro i out hd ho he
      have := drop_nil' hd
      rw [L0_impl_withoutKey, T0_impl_withoutKey]
      simp only [br_dec]
      refine ⟨fun h => by omega, fun _ => ?_⟩
      have : out = rmK l key := by simpa [rmK] using he
      rw [this]; exact hk
    | cons x r ih =>
      intro i out hd ho he
      obtain ⟨h1, h2, _, h3, _⟩ := drop_cons' hd
      rw [List.length_cons, L0_impl_withoutKey, T0_impl_withoutKey]
      simp only [br_dec, br_bne, Int.toNat_natCast, h2]
      refine ⟨fun _ => ⟨⟨by omega, by omega⟩, fun hx => ⟨by omega, inR (by omega) (by omega), ?_⟩, fun hx => ⟨inR (by omega) (by omega), ?_⟩⟩, fun h => by omega⟩
      · exact ih (i + 1) (out ++ [x]) h3 (by simp; omega) (by rw [← he, rmK_cons_ne hx]; simp)
      · exact ih (i + 1) out h3 (by omega) (by rw [← he, hx, rmK_cons_eq])
  exact ⟨_, key1 l 0 [] rfl (by simp) rfl⟩
-- impl.putFirst
def G_impl_putFirst (list0 : List Int) (key1 : Int) (k : List Int → Prop) : Prop :=
  (1 + list0.length ≤ 1000000000) ∧
  k (([key1] : List Int) ++ list0)
def S_impl_putFirst (list0 : List Int) (key1 : Int) (k : List Int → Prop) : Prop := G_impl_putFirst list0 key1 k
def F_impl_putFirst (l : List Int) (x : Int) (k : List Int → Prop) : Prop := l.length ≤ 999999999 ∧ k (x :: l)
theorem F_impl_putFirst_S {l : List Int} {x : Int} {k : List Int → Prop} (h : F_impl_putFirst l x k) : S_impl_putFirst l x k := ⟨by have := h.1; omega, h.2⟩
-- impl.UseLists
def T5_impl_UseLists_j0 (a0Room : Int) (key1 : Int) (nextTarget23 : Int) (withoutKey31 : List Int) (xb6c2 : List Int) (xb6c4 : List Int) (xb6c5 : List Int) (xhit7 : Bool) (xknown9 : Bool) (k : Int → Int → List Int → List Int → List Int → List Int → Bool → Prop) : Prop :=
  (F_impl_putFirst xb6c4 (List.getD xb6c2 (Int.toNat ((xb6c2.length : Int) - 1)) (0 : Int)) fun putFirst15 =>
    ((br xknown9
        (F_impl_putFirst withoutKey31 key1 fun putFirst84 =>
          k a0Room nextTarget23 (List.take (Int.toNat ((xb6c2.length : Int) - 1)) (List.drop 0 xb6c2)) putFirst84 putFirst15 xb6c5 xhit7)
        (F_impl_putFirst (List.take (Int.toNat ((xb6c2.length : Int) - 1)) (List.drop 0 xb6c2)) key1 fun putFirst89 =>
          k a0Room nextTarget23 putFirst89 withoutKey31 putFirst15 xb6c5 xhit7)) ∧
      (True)) ∧
    (True)) ∧
  (True)
def T5_impl_UseLists_j1 (a0Room : Int) (key1 : Int) (nextTarget23 : Int) (withoutKey31 : List Int) (xb6c2 : List Int) (xb6c4 : List Int) (xb6c5 : List Int) (xhit7 : Bool) (xknown9 : Bool) (k : Int → Int → List Int → List Int → List Int → List Int → Bool → Prop) : Prop :=
  ((InR ((xb6c2.length : Int) - 1) ∧
      (0 ≤ ((xb6c2.length : Int) - 1) ∧ ((xb6c2.length : Int) - 1) < (xb6c2.length : Int)) ∧
      (InR ((xb6c2.length : Int) - 1) ∧
        (0 ≤ ((xb6c2.length : Int) - 1) ∧ ((xb6c2.length : Int) - 1) ≤ (xb6c2.length : Int)) ∧
        (T5_impl_UseLists_j0 a0Room key1 nextTarget23 withoutKey31 xb6c2 xb6c4 xb6c5 xhit7 xknown9 k) ∧
        (True)) ∧
      (((InR ((xb6c2.length : Int) - 1) ∧
            (0 ≤ ((xb6c2.length : Int) - 1) ∧ ((xb6c2.length : Int) - 1) ≤ (xb6c2.length : Int)) ∧
            T5_impl_UseLists_j0 a0Room key1 nextTarget23 withoutKey31 xb6c2 xb6c4 xb6c5 xhit7 xknown9 k) ∧
          (True)) ∧
        (True))) ∧
    (True)) ∧
  (True)
def T5_impl_UseLists (a0Room : Int) (key1 : Int) (nextTarget23 : Int) (withoutKey31 : List Int) (xb6c2 : List Int) (xb6c4 : List Int) (xb6c5 : List Int) (xhit7 : Bool) (xknown9 : Bool) (k : Int → Int → List Int → List Int → List Int → List Int → Bool → Prop) : Prop :=
  (T5_impl_UseLists_j1 a0Room key1 nextTarget23 withoutKey31 xb6c2 xb6c4 xb6c5 xhit7 xknown9 k) ∧
  ((T5_impl_UseLists_j1 a0Room key1 nextTarget23 withoutKey31 xb6c2 xb6c4 xb6c5 xhit7 xknown9 k) ∧
    (True))
def U5_impl_UseLists (a0Room : Int) (key1 : Int) (nextTarget23 : Int) (withoutKey31 : List Int) (xb6c2 : List Int) (xb6c4 : List Int) (xb6c5 : List Int) (xhit7 : Bool) (xknown9 : Bool) (k : Int → Int → List Int → List Int → List Int → List Int → Bool → Prop) : Prop :=
  InR ((xb6c2.length : Int) - 1) ∧
  (0 ≤ ((xb6c2.length : Int) - 1) ∧ ((xb6c2.length : Int) - 1) < (xb6c2.length : Int)) ∧
  InR ((xb6c2.length : Int) - 1) ∧
  (0 ≤ ((xb6c2.length : Int) - 1) ∧ ((xb6c2.length : Int) - 1) ≤ (xb6c2.length : Int)) ∧
  F_impl_putFirst xb6c4 (List.getD xb6c2 (Int.toNat ((xb6c2.length : Int) - 1)) (0 : Int)) fun putFirst15 =>
  br xknown9
  (F_impl_putFirst withoutKey31 key1 fun putFirst84 =>
    k a0Room nextTarget23 (List.take (Int.toNat ((xb6c2.length : Int) - 1)) (List.drop 0 xb6c2)) putFirst84 putFirst15 xb6c5 xhit7)
  (F_impl_putFirst (List.take (Int.toNat ((xb6c2.length : Int) - 1)) (List.drop 0 xb6c2)) key1 fun putFirst89 =>
    k a0Room nextTarget23 putFirst89 withoutKey31 putFirst15 xb6c5 xhit7)
theorem T5_impl_UseLists_eq (a0Room : Int) (key1 : Int) (nextTarget23 : Int) (withoutKey31 : List Int) (xb6c2 : List Int) (xb6c4 : List Int) (xb6c5 : List Int) (xhit7 : Bool) (xknown9 : Bool) (k : Int → Int → List Int → List Int → List Int → List Int → Bool → Prop) : T5_impl_UseLists a0Room key1 nextTarget23 withoutKey31 xb6c2 xb6c4 xb6c5 xhit7 xknown9 k = U5_impl_UseLists a0Room key1 nextTarget23 withoutKey31 xb6c2 xb6c4 xb6c5 xhit7 xknown9 k := by
  first
  | (simp only [T5_impl_UseLists, U5_impl_UseLists, T5_impl_UseLists_j0, T5_impl_UseLists_j1, and_self, and_true]; done)
  | (simp only [T5_impl_UseLists, U5_impl_UseLists, T5_impl_UseLists_j0, T5_impl_UseLists_j1, and_self, and_true, and_self_left, and_assoc]; refine propext ⟨fun h => ?_, fun h => ?_⟩ <;> (repeat (cases ‹_ ∧ _›)) <;> (repeat' (apply And.intro)) <;> assumption)
def L5_impl_UseLists (a0Room : Int) (key1 : Int) (nextTarget23 : Int) (withoutKey31 : List Int) (xb6c2 : List Int) (xb6c4 : List Int) (xb6c5 : List Int) (xhit7 : Bool) (xknown9 : Bool) (k : Int → Int → List Int → List Int → List Int → List Int → Bool → Prop) : Prop := U5_impl_UseLists a0Room key1 nextTarget23 withoutKey31 xb6c2 xb6c4 xb6c5 xhit7 xknown9 k
def T4_impl_UseLists_j0 (a0Room : Int) (key1 : Int) (nextTarget23 : Int) (withoutKey31 : List Int) (xb6c2 : List Int) (xb6c4 : List Int) (xb6c5 : List Int) (xhit7 : Bool) (xknown9 : Bool) (k : Int → Int → List Int → List Int → List Int → List Int → Bool → Prop) : Prop :=
  (F_impl_putFirst xb6c5 (List.getD withoutKey31 (Int.toNat ((withoutKey31.length : Int) - 1)) (0 : Int)) fun putFirst15 =>
    ((br xknown9
        (F_impl_putFirst (List.take (Int.toNat ((withoutKey31.length : Int) - 1)) (List.drop 0 withoutKey31)) key1 fun putFirst84 =>
          k a0Room nextTarget23 xb6c2 putFirst84 xb6c4 putFirst15 xhit7)
        (F_impl_putFirst xb6c2 key1 fun putFirst89 =>
          k a0Room nextTarget23 putFirst89 (List.take (Int.toNat ((withoutKey31.length : Int) - 1)) (List.drop 0 withoutKey31)) xb6c4 putFirst15 xhit7)) ∧
      (True)) ∧
    (True)) ∧
  (True)
def T4_impl_UseLists_j1 (a0Room : Int) (key1 : Int) (nextTarget23 : Int) (withoutKey31 : List Int) (xb6c2 : List Int) (xb6c4 : List Int) (xb6c5 : List Int) (xhit7 : Bool) (xknown9 : Bool) (k : Int → Int → List Int → List Int → List Int → List Int → Bool → Prop) : Prop :=
  ((InR ((withoutKey31.length : Int) - 1) ∧
      (0 ≤ ((withoutKey31.length : Int) - 1) ∧ ((withoutKey31.length : Int) - 1) < (withoutKey31.length : Int)) ∧
      (InR ((withoutKey31.length : Int) - 1) ∧
        (0 ≤ ((withoutKey31.length : Int) - 1) ∧ ((withoutKey31.length : Int) - 1) ≤ (withoutKey31.length : Int)) ∧
        (T4_impl_UseLists_j0 a0Room key1 nextTarget23 withoutKey31 xb6c2 xb6c4 xb6c5 xhit7 xknown9 k) ∧
        (True)) ∧
      (((InR ((withoutKey31.length : Int) - 1) ∧
            (0 ≤ ((withoutKey31.length : Int) - 1) ∧ ((withoutKey31.length : Int) - 1) ≤ (withoutKey31.length : Int)) ∧
            T4_impl_UseLists_j0 a0Room key1 nextTarget23 withoutKey31 xb6c2 xb6c4 xb6c5 xhit7 xknown9 k) ∧
          (True)) ∧
        (True))) ∧
    (True)) ∧
  (True)
def T4_impl_UseLists (a0Room : Int) (key1 : Int) (nextTarget23 : Int) (withoutKey31 : List Int) (xb6c2 : List Int) (xb6c4 : List Int) (xb6c5 : List Int) (xhit7 : Bool) (xknown9 : Bool) (xmany4i1 : Bool) (xenough5i1 : Bool) (k : Int → Int → List Int → List Int → List Int → List Int → Bool → Prop) (I5 : Int → Int → Int → List Int → List Int → List Int → List Int → Bool → Bool → Prop) : Prop :=
  br xmany4i1
  (I5 a0Room key1 nextTarget23 withoutKey31 xb6c2 xb6c4 xb6c5 xhit7 xknown9)
  (br xenough5i1
    (I5 a0Room key1 nextTarget23 withoutKey31 xb6c2 xb6c4 xb6c5 xhit7 xknown9)
    (br ((withoutKey31.length : Int) == 0)
      (I5 a0Room key1 nextTarget23 withoutKey31 xb6c2 xb6c4 xb6c5 xhit7 xknown9)
      ((T4_impl_UseLists_j1 a0Room key1 nextTarget23 withoutKey31 xb6c2 xb6c4 xb6c5 xhit7 xknown9 k) ∧
        ((T4_impl_UseLists_j1 a0Room key1 nextTarget23 withoutKey31 xb6c2 xb6c4 xb6c5 xhit7 xknown9 k) ∧
          (True)))))
def U4_impl_UseLists (a0Room : Int) (key1 : Int) (nextTarget23 : Int) (withoutKey31 : List Int) (xb6c2 : List Int) (xb6c4 : List Int) (xb6c5 : List Int) (xhit7 : Bool) (xknown9 : Bool) (xmany4i1 : Bool) (xenough5i1 : Bool) (k : Int → Int → List Int → List Int → List Int → List Int → Bool → Prop) (I5 : Int → Int → Int → List Int → List Int → List Int → List Int → Bool → Bool → Prop) : Prop :=
  br xmany4i1
  (I5 a0Room key1 nextTarget23 withoutKey31 xb6c2 xb6c4 xb6c5 xhit7 xknown9)
  (br xenough5i1
    (I5 a0Room key1 nextTarget23 withoutKey31 xb6c2 xb6c4 xb6c5 xhit7 xknown9)
    (br ((withoutKey31.length : Int) == 0)
      (I5 a0Room key1 nextTarget23 withoutKey31 xb6c2 xb6c4 xb6c5 xhit7 xknown9)
      (InR ((withoutKey31.length : Int) - 1) ∧
        (0 ≤ ((withoutKey31.length : Int) - 1) ∧ ((withoutKey31.length : Int) - 1) < (withoutKey31.length : Int)) ∧
        InR ((withoutKey31.length : Int) - 1) ∧
        (0 ≤ ((withoutKey31.length : Int) - 1) ∧ ((withoutKey31.length : Int) - 1) ≤ (withoutKey31.length : Int)) ∧
        F_impl_putFirst xb6c5 (List.getD withoutKey31 (Int.toNat ((withoutKey31.length : Int) - 1)) (0 : Int)) fun putFirst15 =>
        br xknown9
        (F_impl_putFirst (List.take (Int.toNat ((withoutKey31.length : Int) - 1)) (List.drop 0 withoutKey31)) key1 fun putFirst84 =>
          k a0Room nextTarget23 xb6c2 putFirst84 xb6c4 putFirst15 xhit7)
        (F_impl_putFirst xb6c2 key1 fun putFirst89 =>
          k a0Room nextTarget23 putFirst89 (List.take (Int.toNat ((withoutKey31.length : Int) - 1)) (List.drop 0 withoutKey31)) xb6c4 putFirst15 xhit7))))
theorem T4_impl_UseLists_eq (a0Room : Int) (key1 : Int) (nextTarget23 : Int) (withoutKey31 : List Int) (xb6c2 : List Int) (xb6c4 : List Int) (xb6c5 : List Int) (xhit7 : Bool) (xknown9 : Bool) (xmany4i1 : Bool) (xenough5i1 : Bool) (k : Int → Int → List Int → List Int → List Int → List Int → Bool → Prop) (I5 : Int → Int → Int → List Int → List Int → List Int → List Int → Bool → Bool → Prop) : T4_impl_UseLists a0Room key1 nextTarget23 withoutKey31 xb6c2 xb6c4 xb6c5 xhit7 xknown9 xmany4i1 xenough5i1 k I5 = U4_impl_UseLists a0Room key1 nextTarget23 withoutKey31 xb6c2 xb6c4 xb6c5 xhit7 xknown9 xmany4i1 xenough5i1 k I5 := by
  first
  | (simp only [T4_impl_UseLists, U4_impl_UseLists, T4_impl_UseLists_j0, T4_impl_UseLists_j1, and_self, and_true]; done)
  | (simp only [T4_impl_UseLists, U4_impl_UseLists, T4_impl_UseLists_j0, T4_impl_UseLists_j1, and_self, and_true, and_self_left, and_assoc]; refine propext ⟨fun h => ?_, fun h => ?_⟩ <;> (repeat (cases ‹_ ∧ _›)) <;> (repeat' (apply And.intro)) <;> assumption)
def L4_impl_UseLists (a0Room : Int) (key1 : Int) (nextTarget23 : Int) (withoutKey31 : List Int) (xb6c2 : List Int) (xb6c4 : List Int) (xb6c5 : List Int) (xhit7 : Bool) (xknown9 : Bool) (k : Int → Int → List Int → List Int → List Int → List Int → Bool → Prop) (xmany4i1 : Bool) (xenough5i1 : Bool) : Prop := U4_impl_UseLists a0Room key1 nextTarget23 withoutKey31 xb6c2 xb6c4 xb6c5 xhit7 xknown9 xmany4i1 xenough5i1 k (fun a0Room key1 nextTarget23 withoutKey31 xb6c2 xb6c4 xb6c5 xhit7 xknown9 => L5_impl_UseLists a0Room key1 nextTarget23 withoutKey31 xb6c2 xb6c4 xb6c5 xhit7 xknown9 k)
def T3_impl_UseLists (a0Room : Int) (contains54 : Bool) (key1 : Int) (nextTarget23 : Int) (withoutKey31 : List Int) (xhit7 : Bool) (xknown9 : Bool) (xb6c2 : List Int) (xb6c4 : List Int) (xb6c5 : List Int) (k : Int → Int → List Int → List Int → List Int → List Int → Bool → Prop) (I4 : Int → Int → Int → List Int → List Int → List Int → List Int → Bool → Bool → Bool → Bool → Prop) : Prop :=
  InR ((xb6c2.length : Int) + (withoutKey31.length : Int)) ∧
  br (((xb6c2.length : Int) + (withoutKey31.length : Int)) == a0Room)
  (br contains54
    (br (decide ((xb6c2.length : Int) > 0))
      (I4 a0Room key1 nextTarget23 withoutKey31 xb6c2 xb6c4 xb6c5 xhit7 xknown9 (decide ((xb6c2.length : Int) > nextTarget23)) ((xb6c2.length : Int) == nextTarget23))
      (I4 a0Room key1 nextTarget23 withoutKey31 xb6c2 xb6c4 xb6c5 xhit7 xknown9 (decide ((xb6c2.length : Int) > nextTarget23)) false))
    (I4 a0Room key1 nextTarget23 withoutKey31 xb6c2 xb6c4 xb6c5 xhit7 xknown9 (decide ((xb6c2.length : Int) > nextTarget23)) false))
  (br xknown9
    (F_impl_putFirst withoutKey31 key1 fun putFirst84 =>
      k a0Room nextTarget23 xb6c2 putFirst84 xb6c4 xb6c5 xhit7)
    (F_impl_putFirst xb6c2 key1 fun putFirst89 =>
      k a0Room nextTarget23 putFirst89 withoutKey31 xb6c4 xb6c5 xhit7))
def L3_impl_UseLists (a0Room : Int) (contains54 : Bool) (key1 : Int) (nextTarget23 : Int) (withoutKey31 : List Int) (xhit7 : Bool) (xknown9 : Bool) (k : Int → Int → List Int → List Int → List Int → List Int → Bool → Prop) (xb6c2 : List Int) (xb6c4 : List Int) (xb6c5 : List Int) : Prop := T3_impl_UseLists a0Room contains54 key1 nextTarget23 withoutKey31 xhit7 xknown9 xb6c2 xb6c4 xb6c5 k (fun a0Room key1 nextTarget23 withoutKey31 xb6c2 xb6c4 xb6c5 xhit7 xknown9 xmany4i1 xenough5i1 => L4_impl_UseLists a0Room key1 nextTarget23 withoutKey31 xb6c2 xb6c4 xb6c5 xhit7 xknown9 k xmany4i1 xenough5i1)
def T2_impl_UseLists_j0 (a0Room : Int) (contains54 : Bool) (key1 : Int) (nextTarget23 : Int) (withoutKey27 : List Int) (withoutKey31 : List Int) (withoutKey35 : List Int) (withoutKey39 : List Int) (xhit7 : Bool) (xknown9 : Bool) (I3 : Int → Bool → Int → Int → List Int → Bool → Bool → List Int → List Int → List Int → Prop) : Prop :=
  br (((withoutKey27.length : Int) + (withoutKey35.length : Int)) == a0Room)
  (InR ((withoutKey27.length : Int) - 1) ∧
    (0 ≤ ((withoutKey27.length : Int) - 1) ∧ ((withoutKey27.length : Int) - 1) ≤ (withoutKey27.length : Int)) ∧
    I3 a0Room contains54 key1 nextTarget23 withoutKey31 xhit7 xknown9 (List.take (Int.toNat ((withoutKey27.length : Int) - 1)) (List.drop 0 withoutKey27)) withoutKey35 withoutKey39)
  (InR (((withoutKey27.length : Int) + (withoutKey35.length : Int)) + ((withoutKey31.length : Int) + (withoutKey39.length : Int))) ∧
    InR (2 * a0Room) ∧
    br ((((withoutKey27.length : Int) + (withoutKey35.length : Int)) + ((withoutKey31.length : Int) + (withoutKey39.length : Int))) == (2 * a0Room))
    (InR ((withoutKey39.length : Int) - 1) ∧
      (0 ≤ ((withoutKey39.length : Int) - 1) ∧ ((withoutKey39.length : Int) - 1) ≤ (withoutKey39.length : Int)) ∧
      I3 a0Room contains54 key1 nextTarget23 withoutKey31 xhit7 xknown9 withoutKey27 withoutKey35 (List.take (Int.toNat ((withoutKey39.length : Int) - 1)) (List.drop 0 withoutKey39)))
    (I3 a0Room contains54 key1 nextTarget23 withoutKey31 xhit7 xknown9 withoutKey27 withoutKey35 withoutKey39))
def T2_impl_UseLists (a0Room : Int) (contains54 : Bool) (key1 : Int) (nextTarget23 : Int) (withoutKey27 : List Int) (withoutKey31 : List Int) (withoutKey35 : List Int) (withoutKey39 : List Int) (xhit7 : Bool) (xknown9 : Bool) (I3 : Int → Bool → Int → Int → List Int → Bool → Bool → List Int → List Int → List Int → Prop) : Prop :=
  br (!xknown9)
  (InR ((withoutKey27.length : Int) + (withoutKey35.length : Int)) ∧
    InR ((withoutKey31.length : Int) + (withoutKey39.length : Int)) ∧
    br (((withoutKey27.length : Int) + (withoutKey35.length : Int)) == a0Room)
    (br (decide ((withoutKey35.length : Int) > 0))
      (InR ((withoutKey35.length : Int) - 1) ∧
        (0 ≤ ((withoutKey35.length : Int) - 1) ∧ ((withoutKey35.length : Int) - 1) ≤ (withoutKey35.length : Int)) ∧
        I3 a0Room contains54 key1 nextTarget23 withoutKey31 xhit7 xknown9 withoutKey27 (List.take (Int.toNat ((withoutKey35.length : Int) - 1)) (List.drop 0 withoutKey35)) withoutKey39)
      (T2_impl_UseLists_j0 a0Room contains54 key1 nextTarget23 withoutKey27 withoutKey31 withoutKey35 withoutKey39 xhit7 xknown9 I3))
    (T2_impl_UseLists_j0 a0Room contains54 key1 nextTarget23 withoutKey27 withoutKey31 withoutKey35 withoutKey39 xhit7 xknown9 I3))
  (I3 a0Room contains54 key1 nextTarget23 withoutKey31 xhit7 xknown9 withoutKey27 withoutKey35 withoutKey39)
def L2_impl_UseLists (a0Room : Int) (contains54 : Bool) (key1 : Int) (nextTarget23 : Int) (withoutKey27 : List Int) (withoutKey31 : List Int) (withoutKey35 : List Int) (withoutKey39 : List Int) (xhit7 : Bool) (k : Int → Int → List Int → List Int → List Int → List Int → Bool → Prop) (xknown9 : Bool) : Prop := T2_impl_UseLists a0Room contains54 key1 nextTarget23 withoutKey27 withoutKey31 withoutKey35 withoutKey39 xhit7 xknown9 (fun a0Room contains54 key1 nextTarget23 withoutKey31 xhit7 xknown9 xb6c2 xb6c4 xb6c5 => L3_impl_UseLists a0Room contains54 key1 nextTarget23 withoutKey31 xhit7 xknown9 k xb6c2 xb6c4 xb6c5)
end Go.Ev
