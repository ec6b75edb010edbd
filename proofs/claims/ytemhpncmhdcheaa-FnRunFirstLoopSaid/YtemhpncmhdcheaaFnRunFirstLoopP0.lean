/- What the functions that the law reaches do, written as plain Lean. No statement is proved here. -/
import Derived.Test.YtemhpncmhdcheaaEvT
namespace Go.Ev
set_option linter.unusedVariables false
set_option linter.unusedSimpArgs false
open Go
theorem br_iff {b : Bool} {A B : Prop} : br b A B ↔ (b = true → A) ∧ (b = false → B) := by cases b <;> simp [br]
theorem br_dec {p : Prop} [Decidable p] {A B : Prop} : br (decide p) A B ↔ (p → A) ∧ (¬ p → B) := by rw [br_iff]; simp
theorem br_beq {a b : Int} {A B : Prop} : br (a == b) A B ↔ (a = b → A) ∧ (a ≠ b → B) := by rw [br_iff]; simp
theorem br_bne {a b : Int} {A B : Prop} : br (a != b) A B ↔ (a ≠ b → A) ∧ (a = b → B) := by rw [br_iff]; simp
theorem br_not {b : Bool} {A B : Prop} : br (!b) A B ↔ br b B A := by cases b <;> simp [br]
theorem inR {x : Int} (h1 : -9223372036854775808 ≤ x) (h2 : x ≤ 9223372036854775807) : InR x := ⟨h1, h2⟩

section lists
variable {α : Type}
theorem drop_nil' {l : List α} {i : Nat} (h : l.drop i = []) : l.length ≤ i := by simpa using h
theorem drop_cons' {l : List α} {i : Nat} {x : α} {r : List α} (h : l.drop i = x :: r) : i < l.length ∧ (∀ d, l.getD i d = x) ∧ l[i]? = some x ∧ l.drop (i + 1) = r ∧ l.take (i + 1) = l.take i ++ [x] := by
  have hlt : i < l.length := by
    rcases Nat.lt_or_ge i l.length with h1 | h1
    · exact h1
    · rw [List.drop_eq_nil_of_le h1] at h; cases h
  have h2 := List.drop_eq_getElem_cons hlt
  rw [h] at h2
  injection h2 with h3 h4
  have h5 : l[i]? = some x := by rw [List.getElem?_eq_getElem hlt, h3]
  exact ⟨hlt, fun d => by simp [List.getD, h5], h5, h4.symm, by rw [List.take_succ_eq_append_getElem hlt, h3]⟩
end lists

/-- The place of a number, or -1. -/
def plcF : List Int → Int → Nat → Int
  | [], _, _ => -1
  | x :: r, n, i => if x = n then (i : Int) else plcF r n (i + 1)
def plc (l : List Int) (n : Int) : Int := plcF l n 0
theorem plcF_spec : ∀ (l : List Int) (n : Int) (i : Nat), (n ∉ l ∧ plcF l n i = -1) ∨ ∃ j, j < l.length ∧ l[j]? = some n ∧ (∀ q, q < j → l[q]? ≠ some n) ∧ plcF l n i = ((i + j : Nat) : Int)
  | [], n, i => .inl ⟨by simp, rfl⟩
  | x :: r, n, i => by
    by_cases h : x = n
    · subst h
      exact .inr ⟨0, by simp, rfl, fun q hq => by omega, by simp [plcF]⟩
    · rcases plcF_spec r n (i + 1) with ⟨h1, h2⟩ | ⟨j, h1, h2, h3, h4⟩
      · exact .inl ⟨by simp [Ne.symm h, h1], by simp [plcF, h, h2]⟩
      · refine .inr ⟨j + 1, by simp; omega, by simpa using h2, fun q hq => ?_, ?_⟩
        · cases q with
          | zero => simpa using h
          | succ q => simpa using h3 q (by omega)
        · simp only [plcF, h, if_false, h4]; omega
theorem plc_spec (l : List Int) (n : Int) : (n ∉ l ∧ plc l n = -1) ∨ ∃ j : Nat, j < l.length ∧ l[j]? = some n ∧ (∀ q, q < j → l[q]? ≠ some n) ∧ plc l n = (j : Int) := by
  have := plcF_spec l n 0
  simpa [plc] using this
theorem plc_ge {l : List Int} {n : Int} : plc l n ≥ 0 ↔ n ∈ l := by
  rcases plc_spec l n with ⟨h1, h2⟩ | ⟨j, h1, h2, _, h3⟩
  · rw [h2]; simp [h1]
  · rw [h3]; simp [List.mem_of_getElem? h2]
/-- Valid keys. -/
def VKeys (l : List Int) (room : Int) : Prop := 1 ≤ room ∧ room ≤ 8 ∧ (l.length : Int) ≤ room ∧ (∀ x ∈ l, 0 ≤ x ∧ x ≤ 31) ∧ l.Nodup
def Bs (b : List Int) : Prop := b.length ≤ 2000 ∧ ∀ x ∈ b, 0 ≤ x ∧ x ≤ 255
theorem Bs.get {b : List Int} (h : Bs b) (i : Nat) : 0 ≤ b.getD i 0 ∧ b.getD i 0 ≤ 255 := by
  rcases Nat.lt_or_ge i b.length with hi | hi
  · have hx : b[i]? = some (b.getD i 0) := by simp [List.getD, hi]
    exact h.2 _ (List.mem_of_getElem? hx)
  · simp [List.getD, List.getElem?_eq_none hi]
/-- What a pick of n yields. -/
def Pk (n x : Int) : Prop := (n < 1 ∧ x = 0) ∨ (0 ≤ x ∧ x < n)
theorem ofInt_i64' (n : Nat) (h : n < 9223372036854775808) : (BitVec.ofInt 64 (n : Int)).toNat = n := by
  rw [BitVec.toNat_ofInt]; omega
theorem xor_nn (x y : Int) (hx : 0 ≤ x) (hx' : x < 9223372036854775808) (hy : 0 ≤ y) (hy' : y < 9223372036854775808) : 0 ≤ IntKind.i64.wrap ((BitVec.ofInt 64 x ^^^ BitVec.ofInt 64 y).toNat : Int) := by
  obtain ⟨a, rfl⟩ := Int.eq_ofNat_of_zero_le hx
  obtain ⟨b, rfl⟩ := Int.eq_ofNat_of_zero_le hy
  have hlt : a ^^^ b < 2 ^ 63 := Nat.xor_lt_two_pow (by omega) (by omega)
  have e : IntKind.i64.wrap ((BitVec.ofInt 64 (a : Int) ^^^ BitVec.ofInt 64 (b : Int)).toNat : Int) = ((a ^^^ b : Nat) : Int) := by
    rw [BitVec.toNat_xor, ofInt_i64' a (by omega), ofInt_i64' b (by omega), IntKind.wrap_i64]
    omega
  rw [e]; omega

def rmK (l : List Int) (key : Int) : List Int := l.filter (fun x => x != key)
def recM (l : List Int) (room key : Int) : List Int := (key :: rmK l key).take room.toNat
theorem mem_rmK {l : List Int} {key x : Int} : x ∈ rmK l key ↔ x ∈ l ∧ x ≠ key := by simp [rmK]
theorem rmK_not {l : List Int} {key : Int} (h : key ∉ l) : rmK l key = l := by
  unfold rmK
  rw [List.filter_eq_self]
  intro x hx
  have : x ≠ key := fun e => h (e ▸ hx)
  simpa using this
theorem rmK_nodup {l : List Int} {key : Int} (h : l.Nodup) : (rmK l key).Nodup := List.Pairwise.filter _ h
theorem rmK_le {l : List Int} {key : Int} : (rmK l key).length ≤ l.length := List.length_filter_le _ _
theorem rmK_cons_ne {l : List Int} {key x : Int} (h : x ≠ key) : rmK (x :: l) key = x :: rmK l key := by
  unfold rmK; rw [List.filter_cons_of_pos (by simpa using h)]
theorem rmK_cons_eq {l : List Int} {key : Int} : rmK (key :: l) key = rmK l key := by
  unfold rmK; rw [List.filter_cons_of_neg (by simp)]
theorem rmK_erase : ∀ {l : List Int} {key : Int} {j : Nat}, l.Nodup → l[j]? = some key → l.take j ++ l.drop (j + 1) = rmK l key
  | [], _, _, _, h => by simp at h
  | x :: r, key, 0, hn, h => by
    have e : x = key := by simpa using h
    subst e
    rw [rmK_cons_eq, rmK_not (List.nodup_cons.1 hn).1]; rfl
  | x :: r, key, j + 1, hn, h => by
    have h' : r[j]? = some key := by simpa using h
    have hne : x ≠ key := fun e => (List.nodup_cons.1 hn).1 (e ▸ List.mem_of_getElem? h')
    rw [rmK_cons_ne hne, ← rmK_erase (List.nodup_cons.1 hn).2 h']; rfl
theorem rmK_len {l : List Int} {key : Int} (hn : l.Nodup) (h : key ∈ l) : (rmK l key).length + 1 = l.length := by
  obtain ⟨j, hj, he⟩ := List.getElem_of_mem h
  have h2 : l[j]? = some key := by rw [List.getElem?_eq_getElem hj, he]
  rw [← rmK_erase hn h2]; simp; omega
theorem take_nodup {l : List Int} {n : Nat} (h : l.Nodup) : (l.take n).Nodup := List.Pairwise.sublist (List.take_sublist n l) h
theorem recM_hit {l : List Int} {room key : Int} (hn : l.Nodup) (hl : (l.length : Int) ≤ room) (h : key ∈ l) : recM l room key = key :: rmK l key := by
  have := rmK_len hn h
  exact List.take_of_length_le (by simp; omega)
theorem recM_miss {l : List Int} {room key : Int} (h : key ∉ l) : recM l room key = (key :: l).take room.toNat := by rw [recM, rmK_not h]
theorem recM_valid {l : List Int} {room key : Int} (v : VKeys l room) (hk : 0 ≤ key ∧ key ≤ 31) : VKeys (recM l room key) room := by
  obtain ⟨v1, v2, v3, v4, v5⟩ := v
  refine ⟨v1, v2, by simp only [recM, List.length_take]; omega, fun x hx => ?_, take_nodup ?_⟩
  · rcases List.mem_cons.1 (List.mem_of_mem_take hx) with rfl | h
    · exact hk
    · exact v4 x (mem_rmK.1 h).1
  · exact List.nodup_cons.2 ⟨fun h => (mem_rmK.1 h).2 rfl, rmK_nodup v5⟩
def VSegs (trial safe : Int) (new old : List Int) : Prop := VKeys new trial ∧ VKeys old safe ∧ ∀ x ∈ new, x ∉ old
/-- New, Old and hit behind the use of a key. -/
def segM (trial safe : Int) (new old : List Int) (key : Int) : List Int × List Int × Bool :=
  if key ∈ old then (new, key :: rmK old key, true)
  else if key ∈ new then ((if (old.length : Int) = safe then [old.getD (old.length - 1) 0] else []) ++ rmK new key, (key :: old).take safe.toNat, true)
  else ((key :: new).take trial.toNat, old, false)
theorem segM_valid {trial safe : Int} {new old : List Int} {key : Int} (v : VSegs trial safe new old) (hk : 0 ≤ key ∧ key ≤ 31) :
    VSegs trial safe (segM trial safe new old key).1 (segM trial safe new old key).2.1 := by
  obtain ⟨vn, vo, vd⟩ := v
  obtain ⟨n1, n2, n3, n4, n5⟩ := vn
  obtain ⟨o1, o2, o3, o4, o5⟩ := vo
  unfold segM
  split
  · rename_i h
    refine ⟨⟨n1, n2, n3, n4, n5⟩, ?_, fun x hx hx2 => ?_⟩
    · rw [← recM_hit o5 o3 h]; exact recM_valid ⟨o1, o2, o3, o4, o5⟩ hk
    · rcases List.mem_cons.1 hx2 with rfl | h2
      · exact vd _ hx h
      · exact vd _ hx (mem_rmK.1 h2).1
  · rename_i h
    split
    · rename_i hn
      have hlen := rmK_len n5 hn
      have hvo : VKeys ((key :: old).take safe.toNat) safe := by rw [← recM_miss h]; exact recM_valid ⟨o1, o2, o3, o4, o5⟩ hk
      split
      · rename_i hs
        have hlo : old.length ≠ 0 := by omega
        have hl : old[old.length - 1]? = some (old.getD (old.length - 1) 0) := by
          rw [List.getElem?_eq_getElem (by omega)]; simp [List.getD, List.getElem?_eq_getElem (show old.length - 1 < old.length by omega)]
        have hlm := List.mem_of_getElem? hl
        refine ⟨⟨n1, n2, by simp; omega, fun x hx => ?_, ?_⟩, hvo, fun x hx hx2 => ?_⟩
        · rcases List.mem_append.1 hx with h1 | h1
          · have e := List.mem_singleton.1 h1; rw [e]; exact o4 _ hlm
          · exact n4 x (mem_rmK.1 h1).1
        · rw [List.nodup_append]
          refine ⟨by simp, rmK_nodup n5, fun a ha b hb e => ?_⟩
          have e2 := List.mem_singleton.1 ha
          subst e; rw [e2] at hb
          exact vd _ (mem_rmK.1 hb).1 hlm
        · obtain ⟨s, hs2⟩ : ∃ s, safe.toNat = s + 1 := ⟨safe.toNat - 1, by omega⟩
          rw [hs2, List.take_succ_cons] at hx2
          rcases List.mem_append.1 hx with h1 | h1
          · have e := List.mem_singleton.1 h1
            rcases List.mem_cons.1 hx2 with e2 | h2
            · exact h (by rw [← e2, e]; exact hlm)
            · obtain ⟨i, hi, hie⟩ := List.getElem_of_mem h2
              rw [List.length_take] at hi
              rw [List.getElem_take] at hie
              have hlt : old.length - 1 < old.length := by omega
              refine List.pairwise_iff_getElem.1 o5 i (old.length - 1) (by omega) hlt (by omega) ?_
              rw [hie, e]; simp [List.getD, List.getElem?_eq_getElem hlt]
          · obtain ⟨h3, h4⟩ := mem_rmK.1 h1
            rcases List.mem_cons.1 hx2 with e2 | h2
            · exact h4 e2
            · exact vd _ h3 (List.mem_of_mem_take h2)
      · refine ⟨⟨n1, n2, by simp; omega, fun x hx => n4 x (mem_rmK.1 (by simpa using hx)).1, by simpa using rmK_nodup n5⟩, hvo, fun x hx hx2 => ?_⟩
        have hx := mem_rmK.1 (show x ∈ rmK new key by simpa using hx)
        rcases List.mem_cons.1 (List.mem_of_mem_take hx2) with e | h2
        · exact hx.2 e
        · exact vd _ hx.1 h2
    · rename_i hn
      refine ⟨?_, ⟨o1, o2, o3, o4, o5⟩, fun x hx hx2 => ?_⟩
      · rw [← recM_miss hn]; exact recM_valid ⟨n1, n2, n3, n4, n5⟩ hk
      · rcases List.mem_cons.1 (List.mem_of_mem_take hx) with rfl | h2
        · exact h hx2
        · exact vd _ h2 hx2
theorem nodup_le : ∀ {a b : List Int}, a.Nodup → (∀ x ∈ a, x ∈ b) → a.length ≤ b.length
  | [], _, _, _ => Nat.zero_le _
  | x :: r, b, hn, hs => by
    have hx : x ∈ b := hs x List.mem_cons_self
    have h1 := nodup_le (a := r) (b := b.erase x) (List.nodup_cons.1 hn).2 (fun y hy => by
      have hne : y ≠ x := fun e => (List.nodup_cons.1 hn).1 (e ▸ hy)
      exact (List.mem_erase_of_ne hne).2 (hs y (List.mem_cons_of_mem _ hy)))
    rw [List.length_erase_of_mem hx] at h1
    have := List.length_pos_of_mem hx
    simp; omega
theorem take_min2 {α : Type} {L : List α} {room : Int} : L.take (if room < (L.length : Int) then room else (L.length : Int)).toNat = L.take room.toNat := by
  split
  · rfl
  · rw [List.take_of_length_le (by omega), List.take_of_length_le (by omega)]
theorem br_same' {b : Int} {A B : Prop} (h : B) : br (b != b) A B := by rw [bne_self_eq_false]; exact h
theorem some_of {l : List Int} {i : Nat} {d : Int} (h : i < l.length) : l[i]? = some (l.getD i d) := by
  rw [List.getD_eq_getElem?_getD, List.getElem?_eq_getElem h]; rfl
def VTrace (t : List Int) : Prop := t.length ≤ 24 ∧ ∀ x ∈ t, 0 ≤ x ∧ x ≤ 31
def toI (b : Bool) : Int := if b then 1 else 0
theorem toI_01 (b : Bool) : 0 ≤ toI b ∧ toI b ≤ 1 := by cases b <;> decide
theorem br_de {α : Type} [DecidableEq α] {a : α} {A B : Prop} (h : B) : br (!decide (a = a)) A B := by rw [decide_eq_true rfl]; exact h
theorem br_de' {α : Type} [DecidableEq α] {a : α} {A B : Prop} (h : A) : br (decide (a = a)) A B := by rw [decide_eq_true rfl]; exact h
theorem mem_getD {l : List Int} {i : Nat} (h : i < l.length) : l.getD i 0 ∈ l := List.mem_of_getElem? (some_of h)
def runS (trial safe : Int) : List Int → List Int → List Int → Int → List Int × List Int × Int
  | [], a, b, n => (a, b, n)
  | x :: r, a, b, n => runS trial safe r (segM trial safe a b x).1 (segM trial safe a b x).2.1 (n + toI (segM trial safe a b x).2.2)
theorem segs0 {trial safe : Int} (h : 1 ≤ trial ∧ trial ≤ 8) (g : 1 ≤ safe ∧ safe ≤ 8) : VSegs trial safe [] [] :=
  ⟨⟨h.1, h.2, by simp; omega, by simp, by simp⟩, ⟨g.1, g.2, by simp; omega, by simp, by simp⟩, by simp⟩
theorem segM_hit {trial safe : Int} {new old : List Int} {key : Int} : (segM trial safe new old key).2.2 = decide (key ∈ new ∨ key ∈ old) := by
  unfold segM
  split
  · rename_i h; simp [h]
  · rename_i h
    split
    · rename_i g; simp [g]
    · rename_i g; simp [h, g]
theorem segM_old {trial safe : Int} {new old : List Int} {key : Int} (hs : 1 ≤ safe) (h : key ∈ new ∨ key ∈ old) : ∃ r, (segM trial safe new old key).2.1 = key :: r := by
  unfold segM
  split
  · exact ⟨_, rfl⟩
  · rename_i g
    rw [if_pos (h.resolve_right g)]
    obtain ⟨n, hn⟩ : ∃ n, safe.toNat = n + 1 := ⟨safe.toNat - 1, by omega⟩
    exact ⟨old.take n, by simp only [hn, List.take_succ_cons]⟩
theorem segM_miss {trial safe : Int} {new old : List Int} {key : Int} (h : ¬ (key ∈ new ∨ key ∈ old)) : segM trial safe new old key = ((key :: new).take trial.toNat, old, false) := by
  unfold segM
  rw [if_neg (fun g => h (.inr g)), if_neg (fun g => h (.inl g))]
theorem segM_sub {trial safe : Int} {new old : List Int} {key x : Int} (h : x ∈ (segM trial safe new old key).1 ∨ x ∈ (segM trial safe new old key).2.1) (hv : (old.length : Int) = safe → old ≠ []) : x = key ∨ x ∈ new ∨ x ∈ old := by
  revert h
  unfold segM
  split
  · intro h
    rcases h with h | h
    · exact .inr (.inl h)
    · rcases List.mem_cons.1 h with h | h
      · exact .inl h
      · exact .inr (.inr (mem_rmK.1 h).1)
  · split
    · intro h
      rcases h with h | h
      · rcases List.mem_append.1 h with h | h
        · split at h
          · rename_i hs
            have := hv hs
            rw [List.mem_singleton] at h
            rw [h]
            exact .inr (.inr (mem_getD (by have := List.length_pos_iff.2 this; omega)))
          · cases h
        · exact .inr (.inl (mem_rmK.1 h).1)
      · rcases List.mem_cons.1 (List.mem_of_mem_take h) with h | h
        · exact .inl h
        · exact .inr (.inr h)
    · intro h
      rcases h with h | h
      · rcases List.mem_cons.1 (List.mem_of_mem_take h) with h | h
        · exact .inl h
        · exact .inr (.inl h)
      · exact .inr (.inr h)
theorem vsegs_ne {trial safe : Int} {a b : List Int} (v : VSegs trial safe a b) : (b.length : Int) = safe → b ≠ [] := fun h e => by
  have := v.2.1.1; rw [e] at h; simp at h; omega
/-- How many numbers of a list are not in another. -/
def outN (a l : List Int) : Nat := (l.filter (fun x => !decide (x ∈ a))).length
theorem outN_cons {a l : List Int} {x : Int} : outN a (x :: l) = (if x ∈ a then 0 else 1) + outN a l := by
  unfold outN
  by_cases h : x ∈ a
  · rw [List.filter_cons_of_neg (by simp [h]), if_pos h]; omega
  · rw [List.filter_cons_of_pos (by simp [h]), if_neg h, List.length_cons]; omega
theorem outN_append {a l r : List Int} : outN a (l ++ r) = outN a l + outN a r := by simp [outN]
theorem outN_zero {a l : List Int} (h : ∀ x ∈ l, x ∈ a) : outN a l = 0 := by
  unfold outN
  rw [List.length_eq_zero_iff, List.filter_eq_nil_iff]
  intro x hx
  simp [h x hx]
theorem outN_le {a l : List Int} : outN a l ≤ l.length := List.length_filter_le _ _
theorem segM_keep {trial safe : Int} {new old : List Int} {key : Int} (v : VSegs trial safe new old) :
    ((segM trial safe new old key).2.2 = true → outN ((segM trial safe new old key).2.1 ++ (segM trial safe new old key).1) (old ++ new) = 0) ∧
    ((segM trial safe new old key).2.2 = false → outN ((segM trial safe new old key).2.1 ++ (segM trial safe new old key).1) (old ++ new) ≤ 1 ∧ (segM trial safe new old key).2.1 = old) := by
  obtain ⟨⟨n1, n2, n3, n4, n5⟩, ⟨o1, o2, o3, o4, o5⟩, vd⟩ := v
  unfold segM
  split
  · refine ⟨fun _ => outN_zero fun x hx => ?_, fun h => by cases h⟩
    by_cases e : x = key
    · subst e; simp
    · rcases List.mem_append.1 hx with h | h
      · exact List.mem_append.2 (.inl (List.mem_cons_of_mem _ (mem_rmK.2 ⟨h, e⟩)))
      · exact List.mem_append.2 (.inr h)
  · rename_i ho
    obtain ⟨s, hs⟩ : ∃ n, safe.toNat = n + 1 := ⟨safe.toNat - 1, by omega⟩
    split
    · refine ⟨fun _ => outN_zero fun x hx => ?_, fun h => by cases h⟩
      dsimp only
      rw [hs, List.take_succ_cons]
      by_cases e : x = key
      · subst e; simp
      · rcases List.mem_append.1 hx with h | h
        · rw [← List.take_append_drop s old] at h
          rcases List.mem_append.1 h with h | h
          · exact List.mem_append.2 (.inl (List.mem_cons_of_mem _ h))
          · have hl : (old.length : Int) = safe := by
              have := List.length_pos_of_mem h
              rw [List.length_drop] at this; omega
            rw [if_pos hl]
            have h2 : old.drop s = [old.getD (old.length - 1) 0] := by
              have hlt : s < old.length := by omega
              rw [List.drop_eq_getElem_cons hlt, List.drop_eq_nil_of_le (by omega)]
              have : old.length - 1 = s := by omega
              rw [this]; simp [List.getD, hlt]
            rw [h2] at h
            exact List.mem_append.2 (.inr (List.mem_append.2 (.inl h)))
        · exact List.mem_append.2 (.inr (List.mem_append.2 (.inr (mem_rmK.2 ⟨h, e⟩))))
    · refine ⟨fun h => (by cases h), fun _ => ⟨?_, rfl⟩⟩
      dsimp only
      obtain ⟨r, hr⟩ : ∃ n, trial.toNat = n + 1 := ⟨trial.toNat - 1, by omega⟩
      rw [hr, List.take_succ_cons, outN_append, outN_zero (l := old) (fun x hx => List.mem_append.2 (.inl hx))]
      have hd : new = new.take r ++ new.drop r := (List.take_append_drop r new).symm
      have h1 : outN (old ++ key :: new.take r) new = outN (old ++ key :: new.take r) (new.take r) + outN (old ++ key :: new.take r) (new.drop r) := by
        rw [← outN_append, ← hd]
      rw [h1, outN_zero (l := new.take r) (fun x hx => List.mem_append.2 (.inr (List.mem_cons_of_mem _ hx)))]
      have := @outN_le (old ++ key :: new.take r) (new.drop r)
      rw [List.length_drop] at this
      omega
theorem segM_in {trial safe : Int} {new old : List Int} {key : Int} (ht : 1 ≤ trial) (hs : 1 ≤ safe) : key ∈ (segM trial safe new old key).1 ∨ key ∈ (segM trial safe new old key).2.1 := by
  by_cases h : key ∈ new ∨ key ∈ old
  · obtain ⟨r, hr⟩ := segM_old (trial := trial) hs h
    exact .inr (by rw [hr]; exact List.mem_cons_self)
  · obtain ⟨n, hn⟩ : ∃ n, trial.toNat = n + 1 := ⟨trial.toNat - 1, by omega⟩
    rw [segM_miss h]
    exact .inl (by simp only [hn, List.take_succ_cons]; exact List.mem_cons_self)

def runR (room : Int) : List Int → List Int → Int → List Int × Int
  | [], l, n => (l, n)
  | x :: r, l, n => runR room r (recM l room x) (n + toI (decide (x ∈ l)))
theorem keys0 {room : Int} (h : 1 ≤ room ∧ room ≤ 8) : VKeys [] room := ⟨h.1, h.2, by simp; omega, by simp, by simp⟩
def firM (l : List Int) (room key : Int) : List Int := if key ∈ l then l else (l ++ [key]).drop (l.length + 1 - room.toNat)
theorem firM_valid {l : List Int} {room key : Int} (v : VKeys l room) (hk : 0 ≤ key ∧ key ≤ 31) : VKeys (firM l room key) room := by
  unfold firM
  split
  · exact v
  · rename_i hm
    obtain ⟨v1, v2, v3, v4, v5⟩ := v
    refine ⟨v1, v2, by simp; omega, fun x hx => ?_, ?_⟩
    · rcases List.mem_append.1 (List.mem_of_mem_drop hx) with h | h
      · exact v4 x h
      · rw [List.mem_singleton.1 h]; exact hk
    · refine List.Pairwise.sublist (List.drop_sublist _ _) ?_
      exact List.nodup_append.2 ⟨v5, by simp, fun a ha b hb e => hm (by rw [← List.mem_singleton.1 hb, ← e]; exact ha)⟩
def runF (room : Int) : List Int → List Int → Int → List Int × Int
  | [], l, n => (l, n)
  | x :: r, l, n => runF room r (firM l room x) (n + toI (decide (x ∈ l)))
theorem vkeys_len {l : List Int} {room : Int} (v : VKeys l room) : l.length ≤ 8 := by
  have := v.2.1; have := v.2.2.1; omega

def usedR : List Int → List Int → List Int
  | D, [] => D
  | D, x :: r => usedR (x :: rmK D x) r
abbrev Ent := Int × Int × Int
def EntR (e : Ent) : Prop := (0 ≤ e.1 ∧ e.1 ≤ 31) ∧ (1 ≤ e.2.1 ∧ e.2.1 ≤ 100) ∧ 0 ≤ e.2.2 ∧ e.2.2 ≤ 1000
def VEnt (l : List Ent) (room : Int) : Prop :=
  (1 ≤ room ∧ room ≤ 8) ∧ (l.length : Int) ≤ room ∧ (∀ e ∈ l, EntR e) ∧ (l.map (·.1)).Nodup ∧ (l.map (·.2.2)).Nodup
def Rar (a b : Ent) : Prop := a.2.1 < b.2.1 ∨ a.2.1 = b.2.1 ∧ a.2.2 < b.2.2
instance (a b : Ent) : Decidable (Rar a b) := by unfold Rar; infer_instance
theorem Rar.trans {a b c : Ent} (h : Rar a b) (g : Rar b c) : Rar a c := by unfold Rar at *; omega
structure AL where
  t : Int
  o : List Int
  f : List Int
  wo : List Int
  wf : List Int
theorem VEnt.sub {l l' : List Ent} {room : Int} (v : VEnt l room) (h : l'.Sublist l) : VEnt l' room := by
  obtain ⟨v1, v2, v3, v4, v5⟩ := v
  have := h.length_le
  exact ⟨v1, by omega, fun e he => v3 e (h.subset he), List.Pairwise.sublist (h.map _) v4, List.Pairwise.sublist (h.map _) v5⟩
/-- The count of a key, 0 if it isn't there. -/
def OldC (l : List Ent) (key old : Int) : Prop := (key ∉ l.map (·.1) ∧ old = 0) ∨ ∃ e ∈ l, e.1 = key ∧ old = e.2.1
theorem OldC.here {l : List Ent} {key : Int} {x : Ent} (hx : x.1 = key) : OldC (l ++ [x]) key x.2.1 := .inr ⟨x, by simp, hx, rfl⟩
def knownL (a : AL) (key : Int) : Prop := key ∈ a.o ∨ key ∈ a.f ∨ key ∈ a.wf ∨ key ∈ a.wo
instance (a : AL) (key : Int) : Decidable (knownL a key) := by unfold knownL; infer_instance
theorem firM_hit {l : List Int} {room key : Int} (h : key ∈ l) : firM l room key = l := by rw [firM, if_pos h]
theorem firM_miss {l : List Int} {room key : Int} (h : key ∉ l) (hr : 1 ≤ room) : firM l room key = l.drop (l.length + 1 - room.toNat) ++ [key] := by
  rw [firM, if_neg h, List.drop_append_of_le_length (by omega)]
theorem firM_mem {l : List Int} {room key : Int} (hr : 1 ≤ room) : key ∈ firM l room key := by
  by_cases h : key ∈ l
  · rw [firM_hit h]; exact h
  · rw [firM_miss h hr]; simp

/-- `Can room r C n`: with a cache `C` before the keys `r`, `n` hits are possible. -/
def Can (room : Nat) : List Int → List Int → Nat → Prop
  | [], _, n => n = 0
  | k :: r, C, n => ∃ D m, D.Nodup ∧ D.length ≤ room ∧ k ∈ D ∧ (∀ x ∈ D, x = k ∨ x ∈ C) ∧ Can room r D m ∧ n ≤ m + (if k ∈ C then 1 else 0)
theorem Can.less {room : Nat} : ∀ {r C : List Int} {n m : Nat}, Can room r C n → m ≤ n → Can room r C m
  | [], _, _, _, h, hm => by simp only [Can] at *; omega
  | k :: r, C, _, _, ⟨D, m, h1, h2, h3, h4, h5, h6⟩, hm => ⟨D, m, h1, h2, h3, h4, h5, by omega⟩
theorem Can.mono {room : Nat} : ∀ {r C D : List Int} {n : Nat}, Can room r C n → (∀ x ∈ C, x ∈ D) → Can room r D n
  | [], _, _, _, h, _ => h
  | k :: r, C, D, n, ⟨E, m, h1, h2, h3, h4, h5, h6⟩, hs => by
    refine ⟨E, m, h1, h2, h3, fun x hx => (h4 x hx).imp id (hs x), h5, ?_⟩
    by_cases hc : k ∈ C
    · rw [if_pos hc] at h6; rw [if_pos (hs k hc)]; exact h6
    · rw [if_neg hc] at h6; exact Nat.le_trans h6 (Nat.le_add_right _ _)
theorem Can.zero {room : Nat} (h : 1 ≤ room) : ∀ {r C : List Int}, Can room r C 0
  | [], _ => rfl
  | k :: r, C => ⟨[k], 0, by simp, by simpa using h, by simp, fun x hx => .inl (List.mem_singleton.1 hx), Can.zero h, by omega⟩
/-- A key less costs a hit at most. -/
theorem Can.minus {room : Nat} {y : Int} : ∀ {r C : List Int} {n : Nat}, Can room r C (n + 1) → Can room r (rmK C y) n
  | [], C, n, h => by simp only [Can] at h; omega
  | k :: r, C, n, ⟨D, m, h1, h2, h3, h4, h5, h6⟩ => by
    by_cases hy : k = y
    · subst hy
      refine ⟨D, m, h1, h2, h3, fun x hx => ?_, h5, ?_⟩
      · rcases h4 x hx with h | h
        · exact .inl h
        · by_cases e : x = k
          · exact .inl e
          · exact .inr (mem_rmK.2 ⟨h, e⟩)
      · split at h6 <;> omega
    · have hm : (k ∈ rmK C y) = (k ∈ C) := propext (by rw [mem_rmK]; exact and_iff_left hy)
      have hr : 1 ≤ room := by have := List.length_pos_of_mem h3; omega
      refine ⟨rmK D y, m - 1, rmK_nodup h1, by have := @rmK_le D y; omega, mem_rmK.2 ⟨h3, hy⟩, fun x hx => ?_, ?_, by simp only [hm]; omega⟩
      · obtain ⟨hx1, hx2⟩ := mem_rmK.1 hx
        exact (h4 x hx1).imp id fun h => mem_rmK.2 ⟨h, hx2⟩
      · cases m with
        | zero => exact Can.zero hr
        | succ m => exact Can.minus h5
/-- After how many keys a key comes: all of them if it does not. -/
def nxt (x : Int) : List Int → Nat
  | [] => 0
  | k :: r => if k = x then 0 else nxt x r + 1
/-- A key that comes sooner is better. -/
theorem Can.swap {room : Nat} {x y : Int} : ∀ {r C : List Int} {n : Nat}, Can room r (y :: C) n → C.Nodup → x ∉ C → y ∉ C → C.length + 1 ≤ room → nxt x r ≤ nxt y r → Can room r (x :: C) n
  | [], _, _, h, _, _, _, _, _ => h
  | k :: r, C, n, ⟨D, m, h1, h2, h3, h4, h5, h6⟩, hn, hx, hy, hc, hi => by
    by_cases exy : x = y
    · subst exy; exact ⟨D, m, h1, h2, h3, h4, h5, h6⟩
    by_cases ek : k = y
    · subst ek
      rw [nxt, nxt, if_pos rfl, if_neg (Ne.symm exy)] at hi
      omega
    by_cases ekx : k = x
    · -- the sooner one comes: a hit
      subst ekx
      have hmiss : ¬ k ∈ y :: C := by simp; exact ⟨ek, hx⟩
      rw [if_neg hmiss] at h6
      refine ⟨k :: C, m - 1, List.nodup_cons.2 ⟨hx, hn⟩, by simpa using hc, by simp, fun z hz => by simp at hz; exact hz.imp id fun h => by simp [h], ?_, by simp; omega⟩
      cases m with
      | zero => exact Can.zero (by omega)
      | succ m =>
        refine (Can.minus (y := y) h5).mono fun z hz => ?_
        obtain ⟨g1, g2⟩ := mem_rmK.1 hz
        rcases h4 z g1 with h | h
        · rw [h]; simp
        · rcases List.mem_cons.1 h with h | h
          · exact absurd h g2
          · exact List.mem_cons_of_mem _ h
    · -- another key
      have hik : nxt x r ≤ nxt y r := by
        rw [nxt, nxt, if_neg ekx, if_neg ek] at hi; omega
      have hb : (if k ∈ x :: C then 1 else 0) = (if k ∈ y :: C then 1 else 0) := by
        have : (k ∈ x :: C) ↔ (k ∈ y :: C) := by simp [ek, ekx]
        simp only [this]
      by_cases hyD : y ∈ D
      · by_cases hxD : x ∈ D
        · rcases h4 x hxD with h | h
          · exact absurd h.symm ekx
          · rcases List.mem_cons.1 h with h | h
            · exact absurd h exy
            · exact absurd h hx
        · refine ⟨x :: rmK D y, m, List.nodup_cons.2 ⟨fun h => hxD (mem_rmK.1 h).1, rmK_nodup h1⟩, ?_, List.mem_cons_of_mem _ (mem_rmK.2 ⟨h3, ek⟩), fun z hz => ?_, ?_, by rw [hb]; exact h6⟩
          · have := rmK_len h1 hyD; simp; omega
          · rcases List.mem_cons.1 hz with h | h
            · right; rw [h]; simp
            · obtain ⟨g1, g2⟩ := mem_rmK.1 h
              rcases h4 z g1 with h | h
              · exact .inl h
              · rcases List.mem_cons.1 h with h | h
                · exact absurd h g2
                · exact .inr (List.mem_cons_of_mem _ h)
          · refine Can.swap (y := y) (h5.mono fun z hz => ?_) (rmK_nodup h1) (fun h => hxD (mem_rmK.1 h).1) (fun h => (mem_rmK.1 h).2 rfl) (by have := rmK_len h1 hyD; omega) hik
            by_cases e : z = y
            · rw [e]; simp
            · exact List.mem_cons_of_mem _ (mem_rmK.2 ⟨hz, e⟩)
      · refine ⟨D, m, h1, h2, h3, fun z hz => ?_, h5, by rw [hb]; exact h6⟩
        rcases h4 z hz with h | h
        · exact .inl h
        · rcases List.mem_cons.1 h with h | h
          · rw [h] at hz; exact absurd hz hyD
          · exact .inr (List.mem_cons_of_mem _ h)
/-- Of the keys of a cache the one that comes last, of several the first one. -/
def farK (r : List Int) : List Int → Int → Int
  | [], b => b
  | x :: l, b => farK r l (if nxt b r < nxt x r then x else b)
theorem farK_mem (r : List Int) : ∀ (l : List Int) (b : Int), farK r l b ∈ b :: l
  | [], b => by simp [farK]
  | x :: l, b => by
    have := farK_mem r l (if nxt b r < nxt x r then x else b)
    unfold farK
    rcases List.mem_cons.1 this with h | h
    · rw [h]; split <;> simp
    · simp [h]
theorem farK_max (r : List Int) : ∀ (l : List Int) (b x : Int), x ∈ b :: l → nxt x r ≤ nxt (farK r l b) r
  | [], b, x, h => by simp at h; rw [h]; exact Nat.le_refl _
  | y :: l, b, x, h => by
    unfold farK
    have h1 := farK_max r l (if nxt b r < nxt y r then y else b) (if nxt b r < nxt y r then y else b) (by simp)
    rcases List.mem_cons.1 h with h | h
    · rw [h]; split at h1
      · rw [if_pos (by assumption)]; omega
      · rw [if_neg (by assumption)]; exact h1
    · rcases List.mem_cons.1 h with h | h
      · rw [h]; split at h1
        · rw [if_pos (by assumption)]; exact h1
        · rw [if_neg (by assumption)]; omega
      · exact farK_max r l _ x (List.mem_cons_of_mem _ h)
/-- The key that leaves a cache. -/
def farM (r : List Int) : List Int → Int
  | [] => 0
  | x :: l => farK r l x
theorem farM_mem {r C : List Int} (h : 0 < C.length) : farM r C ∈ C := by
  cases C with
  | nil => simp at h
  | cons x l => exact farK_mem r l x
theorem farM_max {r C : List Int} {x : Int} (h : x ∈ C) : nxt x r ≤ nxt (farM r C) r := by
  cases C with
  | nil => simp at h
  | cons y l => exact farK_max r l y x h
/-- The cache of the best policy after a miss. -/
def missB (room : Nat) (r C : List Int) (k : Int) : List Int := (if C.length = room then rmK C (farM r C) else C) ++ [k]
def bestM (room : Nat) : List Int → List Int → Nat
  | [], _ => 0
  | k :: r, C => if k ∈ C then bestM room r C + 1 else bestM room r (missB room r C k)
theorem missB_ok {room : Nat} {r C : List Int} {k : Int} (hr : 1 ≤ room) (hn : C.Nodup) (hc : C.length ≤ room) (hk : k ∉ C) : (missB room r C k).Nodup ∧ (missB room r C k).length ≤ room ∧ k ∈ missB room r C k ∧ ∀ x ∈ missB room r C k, x = k ∨ x ∈ C := by
  unfold missB
  split
  · rename_i hf
    have hm := farM_mem (r := r) (C := C) (by omega)
    have := rmK_len hn hm
    refine ⟨?_, by simp; omega, by simp, fun x hx => ?_⟩
    · rw [List.nodup_append]
      exact ⟨rmK_nodup hn, by simp, fun a ha b hb e => by simp at hb; subst hb; subst e; exact hk (mem_rmK.1 ha).1⟩
    · rcases List.mem_append.1 hx with h | h
      · exact .inr (mem_rmK.1 h).1
      · exact .inl (List.mem_singleton.1 h)
  · refine ⟨?_, by simp; omega, by simp, fun x hx => ?_⟩
    · rw [List.nodup_append]
      exact ⟨hn, by simp, fun a ha b hb e => by simp at hb; subst hb; subst e; exact hk ha⟩
    · rcases List.mem_append.1 hx with h | h
      · exact .inr h
      · exact .inl (List.mem_singleton.1 h)
/-- Of two lists of different keys the longer one has one that the other one has not. -/
theorem more_keys {C D : List Int} (hn : C.Nodup) (h : D.length < C.length) : ∃ y ∈ C, y ∉ D := by
  apply Classical.byContradiction
  intro hno
  have hs : ∀ y ∈ C, y ∈ D := fun y hy => Classical.byContradiction fun c => hno ⟨y, hy, c⟩
  have := nodup_le hn hs
  omega
theorem best_opt {room : Nat} (hr : 1 ≤ room) : ∀ {r C : List Int} {n : Nat}, Can room r C n → C.Nodup → C.length ≤ room → n ≤ bestM room r C
  | [], _, _, h, _, _ => by simp only [Can] at h; omega
  | k :: r, C, n, ⟨D, m, h1, h2, h3, h4, h5, h6⟩, hn, hc => by
    unfold bestM
    by_cases hk : k ∈ C
    · rw [if_pos hk] at h6 ⊢
      have := best_opt hr (h5.mono (D := C) fun x hx => (h4 x hx).elim (fun e => e ▸ hk) id) hn hc
      omega
    · rw [if_neg hk] at h6 ⊢
      obtain ⟨g1, g2, g3, g4⟩ := missB_ok (r := r) hr hn hc hk
      refine Nat.le_trans h6 (best_opt hr ?_ g1 g2)
      unfold missB at *
      by_cases hf : C.length = room
      · rw [if_pos hf] at *
        have hm := farM_mem (r := r) (C := C) (by omega)
        -- a key has left
        obtain ⟨y, y1, y2⟩ := more_keys (C := C) (D := rmK D k) hn (by have := rmK_len h1 h3; omega)
        have y3 : y ≠ k := fun e => hk (e ▸ y1)
        have y4 : y ∉ D := fun h => y2 (mem_rmK.2 ⟨h, y3⟩)
        by_cases hy : y = farM r C
        · refine h5.mono fun x hx => ?_
          rcases h4 x hx with h | h
          · rw [h]; simp
          · exact List.mem_append_left _ (mem_rmK.2 ⟨h, fun e => y4 (by rw [hy, ← e]; exact hx)⟩)
        · have hfk : farM r C ≠ k := fun e => hk (e ▸ hm)
          have hn2 : (k :: rmK (rmK C y) (farM r C)).Nodup := List.nodup_cons.2 ⟨fun h => hk (mem_rmK.1 (mem_rmK.1 h).1).1, rmK_nodup (rmK_nodup hn)⟩
          have l1 := rmK_len hn y1
          have l2 := rmK_len (rmK_nodup (key := y) hn) (mem_rmK.2 ⟨hm, Ne.symm hy⟩)
          have h7 : Can room r (farM r C :: k :: rmK (rmK C y) (farM r C)) m := h5.mono fun x hx => by
            rcases h4 x hx with h | h
            · rw [h]; simp
            · by_cases e : x = farM r C
              · rw [e]; simp
              · exact List.mem_cons_of_mem _ (List.mem_cons_of_mem _ (mem_rmK.2 ⟨mem_rmK.2 ⟨h, fun e2 => y4 (e2 ▸ hx)⟩, e⟩))
          have h8 := Can.swap (x := y) h7 hn2 (fun h => by
            rcases List.mem_cons.1 h with h | h
            · exact y3 h
            · exact (mem_rmK.1 (mem_rmK.1 h).1).2 rfl) (fun h => by
            rcases List.mem_cons.1 h with h | h
            · exact hfk h
            · exact (mem_rmK.1 h).2 rfl) (by simp; omega) (farM_max y1)
          refine h8.mono fun x hx => ?_
          rcases List.mem_cons.1 hx with h | h
          · rw [h]; exact List.mem_append_left _ (mem_rmK.2 ⟨y1, hy⟩)
          · rcases List.mem_cons.1 h with h | h
            · rw [h]; simp
            · obtain ⟨a1, a2⟩ := mem_rmK.1 h
              exact List.mem_append_left _ (mem_rmK.2 ⟨(mem_rmK.1 a1).1, a2⟩)
      · rw [if_neg hf] at *
        refine h5.mono fun x hx => ?_
        rcases h4 x hx with h | h
        · rw [h]; simp
        · exact List.mem_append_left _ h
theorem mem_usedR : ∀ {t D : List Int} {x : Int}, x ∈ usedR D t ↔ x ∈ D ∨ x ∈ t
  | [], D, x => by simp [usedR]
  | y :: t, D, x => by
    rw [usedR, mem_usedR (t := t), List.mem_cons, List.mem_cons, mem_rmK]
    by_cases e : x = y
    · simp [e]
    · simp [e]
theorem usedR_nodup : ∀ {t D : List Int}, D.Nodup → (usedR D t).Nodup
  | [], _, h => h
  | y :: t, D, h => usedR_nodup (t := t) (List.nodup_cons.2 ⟨fun h => (mem_rmK.1 h).2 rfl, rmK_nodup h⟩)
/-- How many different keys a trace has. -/
def nk (t : List Int) : Nat := (usedR [] t).length
theorem nk_of {t E : List Int} (hn : E.Nodup) (h : ∀ x, x ∈ E ↔ x ∈ t) : E.length = nk t := by
  refine Nat.le_antisymm (nodup_le hn fun x hx => mem_usedR.2 (.inr ((h x).1 hx))) (nodup_le (usedR_nodup (by simp)) fun x hx => (h x).2 ?_)
  exact (mem_usedR.1 hx).resolve_left (by simp)
theorem len_add {D : List Int} (hn : D.Nodup) (k : Int) : (k :: rmK D k).length = D.length + if k ∈ D then 0 else 1 := by
  rw [List.length_cons]
  split
  · rename_i h; exact rmK_len hn h
  · rename_i h; rw [rmK_not h]
/-- New keys are never there. -/
theorem can_new {room : Nat} : ∀ {r C D : List Int} {n : Nat}, Can room r C n → (∀ x ∈ C, x ∈ D) → D.Nodup → n + (usedR D r).length ≤ r.length + D.length
  | [], C, D, n, h, _, _ => by simp only [Can] at h; subst h; simp [usedR]
  | k :: r, C, D, n, ⟨E, m, h1, h2, h3, h4, h5, h6⟩, hs, hn => by
    have h7 := can_new (D := k :: rmK D k) h5 (fun x hx => by
      by_cases e : x = k
      · rw [e]; simp
      · exact List.mem_cons_of_mem _ (mem_rmK.2 ⟨hs x ((h4 x hx).resolve_left e), e⟩)) (List.nodup_cons.2 ⟨fun h => (mem_rmK.1 h).2 rfl, rmK_nodup hn⟩)
    rw [len_add hn] at h7
    rw [usedR, List.length_cons]
    by_cases hk : k ∈ C
    · rw [if_pos hk] at h6; rw [if_pos (hs k hk)] at h7; omega
    · rw [if_neg hk] at h6
      split at h7 <;> omega
/-- What a policy does to the keys of its cache: never more than `cap`, and while fewer than `free` are there, none leaves. -/
def Runs (cap free : Nat) : List Int → List Int → List Int → Nat → Prop
  | [], C, E, n => E = C ∧ n = 0
  | k :: r, C, E, n => ∃ D m, D.Nodup ∧ D.length ≤ cap ∧ k ∈ D ∧ (∀ x ∈ D, x = k ∨ x ∈ C) ∧ ((k ∈ C ∨ C.length < free) → ∀ x ∈ C, x ∈ D) ∧ (k ∉ C → free ≤ C.length → free ≤ D.length) ∧
      Runs cap free r D E m ∧ n = m + (if k ∈ C then 1 else 0)
theorem Runs.can {cap free : Nat} : ∀ {r C E : List Int} {n : Nat}, Runs cap free r C E n → Can cap r C n
  | [], _, _, _, h => h.2
  | k :: r, C, E, n, ⟨D, m, h1, h2, h3, h4, _, _, h7, h8⟩ => ⟨D, m, h1, h2, h3, h4, h7.can, by omega⟩
theorem Runs.best {cap free : Nat} {t E : List Int} {n : Nat} (hr : 1 ≤ cap) (h : Runs cap free t [] E n) : n ≤ bestM cap t [] := best_opt hr h.can (by simp) (by simp)
theorem Runs.new {cap free : Nat} {t E : List Int} {n : Nat} (h : Runs cap free t [] E n) : n + nk t ≤ t.length := by
  have := can_new (D := []) h.can (by simp) (by simp)
  simpa [nk] using this
theorem Runs.nodup {cap free : Nat} : ∀ {r C E : List Int} {n : Nat}, Runs cap free r C E n → C.Nodup → C.length ≤ cap → E.Nodup ∧ E.length ≤ cap
  | [], _, _, _, h, h1, h2 => by rw [h.1]; exact ⟨h1, h2⟩
  | k :: r, C, E, n, ⟨D, m, h1, h2, h3, h4, _, _, h7, h8⟩, _, _ => h7.nodup h1 h2
theorem Runs.sub {cap free : Nat} : ∀ {r C E : List Int} {n : Nat}, Runs cap free r C E n → ∀ x ∈ E, x ∈ C ∨ x ∈ r
  | [], _, _, _, h => fun x hx => .inl (h.1 ▸ hx)
  | k :: r, C, E, n, ⟨D, m, h1, h2, h3, h4, _, _, h7, h8⟩ => fun x hx => by
    rcases h7.sub x hx with h | h
    · rcases h4 x h with h | h
      · right; rw [h]; simp
      · exact .inl h
    · exact .inr (List.mem_cons_of_mem _ h)
/-- All keys fit: none leaves. -/
theorem Runs.fit {cap free : Nat} : ∀ {r C D E : List Int} {n : Nat}, Runs cap free r C E n → C.Nodup → D.Nodup → (∀ x, x ∈ C ↔ x ∈ D) → (usedR D r).length ≤ free →
    n + (usedR D r).length = r.length + D.length ∧ ∀ x, x ∈ E ↔ x ∈ usedR D r
  | [], C, D, E, n, h, _, _, hs, _ => by rw [h.1, h.2]; exact ⟨by simp [usedR], hs⟩
  | k :: r, C, D, E, n, ⟨C', m, h1, h2, h3, h4, h5, h6, h7, h8⟩, hc, hn, hs, hl => by
    have hn2 : (k :: rmK D k).Nodup := List.nodup_cons.2 ⟨fun h => (mem_rmK.1 h).2 rfl, rmK_nodup hn⟩
    have hCD : C.length = D.length := Nat.le_antisymm (nodup_le hc fun x hx => (hs x).1 hx) (nodup_le hn fun x hx => (hs x).2 hx)
    rw [usedR] at hl ⊢
    have hmono : (k :: rmK D k).length ≤ (usedR (k :: rmK D k) r).length := nodup_le hn2 fun x hx => mem_usedR.2 (.inl hx)
    have hadd := len_add hn k
    have hkeep : ∀ x ∈ C, x ∈ C' := h5 (by
      by_cases hk : k ∈ C
      · exact .inl hk
      · right
        rw [if_neg (fun h => hk ((hs k).2 h))] at hadd
        omega)
    have hs2 : ∀ x, x ∈ C' ↔ x ∈ k :: rmK D k := fun x => by
      constructor
      · intro hx
        by_cases e : x = k
        · rw [e]; simp
        · exact List.mem_cons_of_mem _ (mem_rmK.2 ⟨(hs x).1 ((h4 x hx).resolve_left e), e⟩)
      · intro hx
        rcases List.mem_cons.1 hx with h | h
        · rw [h]; exact h3
        · exact hkeep x ((hs x).2 (mem_rmK.1 h).1)
    obtain ⟨g1, g2⟩ := h7.fit h1 hn2 hs2 hl
    refine ⟨?_, g2⟩
    rw [hadd] at g1
    rw [h8, List.length_cons]
    by_cases hk : k ∈ C
    · rw [if_pos hk]; rw [if_pos ((hs k).1 hk)] at g1; omega
    · rw [if_neg hk]; rw [if_neg (fun h => hk ((hs k).2 h))] at g1; omega
/-- A cache is full, or has all keys. -/
theorem Runs.full {cap free : Nat} : ∀ {r C D E : List Int} {n : Nat}, Runs cap free r C E n → C.Nodup → D.Nodup → (free ≤ C.length ∨ ∀ x, x ∈ C ↔ x ∈ D) → free ≤ E.length ∨ ∀ x, x ∈ E ↔ x ∈ usedR D r
  | [], C, D, E, n, h, _, _, hs => by rw [h.1]; exact hs
  | k :: r, C, D, E, n, ⟨C', m, h1, h2, h3, h4, h5, h6, h7, h8⟩, hc, hn, hs => by
    have hn2 : (k :: rmK D k).Nodup := List.nodup_cons.2 ⟨fun h => (mem_rmK.1 h).2 rfl, rmK_nodup hn⟩
    refine h7.full h1 hn2 ?_
    by_cases hf : free ≤ C.length
    · left
      by_cases hk : k ∈ C
      · exact Nat.le_trans hf (nodup_le hc (h5 (.inl hk)))
      · exact h6 hk hf
    · right
      have hs := hs.resolve_left hf
      have hkeep : ∀ x ∈ C, x ∈ C' := h5 (.inr (by omega))
      intro x
      constructor
      · intro hx
        by_cases e : x = k
        · rw [e]; simp
        · exact List.mem_cons_of_mem _ (mem_rmK.2 ⟨(hs x).1 ((h4 x hx).resolve_left e), e⟩)
      · intro hx
        rcases List.mem_cons.1 hx with h | h
        · rw [h]; exact h3
        · exact hkeep x ((hs x).2 (mem_rmK.1 h).1)
theorem Runs.len {room : Nat} {t E : List Int} {n : Nat} (h : Runs room room t [] E n) : E.length = min room (nk t) ∧ (nk t ≤ room → n + nk t = t.length) := by
  obtain ⟨h1, h2⟩ := h.nodup (by simp) (by simp)
  have h3 : E.length ≤ nk t := nodup_le h1 fun x hx => mem_usedR.2 (.inr ((h.sub x hx).resolve_left (by simp)))
  refine ⟨?_, fun hl => ?_⟩
  · rcases h.full (D := []) (by simp) (by simp) (.inr fun x => Iff.rfl) with g | g
    · have := Nat.min_le_left room (nk t); omega
    · have : nk t ≤ E.length := nodup_le (usedR_nodup (by simp)) fun x hx => (g x).2 hx
      omega
  · have := (h.fit (D := []) (by simp) (by simp) (fun x => Iff.rfl) hl).1
    simpa [nk] using this

theorem outN_all {a l : List Int} (h : outN a l = 0) : ∀ x ∈ l, x ∈ a := by
  unfold outN at h
  rw [List.length_eq_zero_iff, List.filter_eq_nil_iff] at h
  intro x hx
  have := h x hx
  simpa using this
theorem outN_in {a : List Int} : ∀ (l : List Int), outN a l + (l.filter (fun x => decide (x ∈ a))).length = l.length
  | [] => rfl
  | x :: l => by
    have := outN_in (a := a) l
    rw [outN_cons, List.length_cons]
    by_cases h : x ∈ a
    · rw [if_pos h, List.filter_cons_of_pos (by simp [h]), List.length_cons]; omega
    · rw [if_neg h, List.filter_cons_of_neg (by simp [h])]; omega
theorem keep_full {C D : List Int} {k : Int} (hn : C.Nodup) (hk : k ∉ C) (hd : k ∈ D) (h : outN D C ≤ 1) : C.length ≤ D.length := by
  have h1 := outN_in (a := D) C
  have h2 : (k :: C.filter (fun x => decide (x ∈ D))).length ≤ D.length := nodup_le (List.nodup_cons.2 ⟨fun c => hk (List.mem_filter.1 c).1, List.Pairwise.filter _ hn⟩) fun x hx => by
    rcases List.mem_cons.1 hx with h | h
    · rw [h]; exact hd
    · simpa using (List.mem_filter.1 h).2
  rw [List.length_cons] at h2
  omega
theorem toI_if (p : Prop) [Decidable p] (m : Nat) (n : Int) : n + toI (decide p) + (m : Int) = n + ((m + (if p then 1 else 0) : Nat) : Int) := by
  by_cases h : p
  · simp [h, toI]; omega
  · simp [h, toI]
/-- What a step of a policy keeps. -/
def StepK (cap free : Nat) (C D : List Int) (k : Int) : Prop :=
  D.Nodup ∧ D.length ≤ cap ∧ k ∈ D ∧ (∀ x ∈ D, x = k ∨ x ∈ C) ∧ ((k ∈ C ∨ C.length < free) → ∀ x ∈ C, x ∈ D) ∧ (k ∉ C → free ≤ C.length → free ≤ D.length)
theorem Runs.step {cap free : Nat} {k : Int} {r C D E : List Int} {m : Nat} (h : StepK cap free C D k) (g : Runs cap free r D E m) : Runs cap free (k :: r) C E (m + if k ∈ C then 1 else 0) :=
  ⟨D, m, h.1, h.2.1, h.2.2.1, h.2.2.2.1, h.2.2.2.2.1, h.2.2.2.2.2, g, rfl⟩
theorem firM_step {l : List Int} {room key : Int} (v : VKeys l room) (hk : 0 ≤ key ∧ key ≤ 31) : StepK room.toNat room.toNat l (firM l room key) key := by
  have hv := firM_valid v hk
  obtain ⟨v1, v2, v3, v4, v5⟩ := v
  refine ⟨hv.2.2.2.2, by have := hv.2.2.1; omega, firM_mem v1, fun x hx => ?_, fun h x hx => ?_, fun h1 h2 => ?_⟩
  · by_cases hm : key ∈ l
    · rw [firM_hit hm] at hx; exact .inr hx
    · rw [firM_miss hm v1] at hx
      rcases List.mem_append.1 hx with h | h
      · exact .inr (List.mem_of_mem_drop h)
      · exact .inl (List.mem_singleton.1 h)
  · by_cases hm : key ∈ l
    · rw [firM_hit hm]; exact hx
    · have := h.resolve_left hm
      rw [firM_miss hm v1, show l.length + 1 - room.toNat = 0 by omega]
      exact List.mem_append_left _ hx
  · rw [firM_miss h1 v1]; simp; omega
theorem runF_runs {room : Int} : ∀ (t l : List Int) (n : Int), VKeys l room → (∀ x ∈ t, 0 ≤ x ∧ x ≤ 31) → ∃ m : Nat, Runs room.toNat room.toNat t l (runF room t l n).1 m ∧ (runF room t l n).2 = n + m
  | [], l, n, _, _ => ⟨0, ⟨rfl, rfl⟩, by simp [runF]⟩
  | k :: t, l, n, v, ht => by
    have hk := ht k List.mem_cons_self
    obtain ⟨m, h1, h2⟩ := runF_runs t (firM l room k) (n + toI (decide (k ∈ l))) (firM_valid v hk) fun x hx => ht x (List.mem_cons_of_mem _ hx)
    exact ⟨_, h1.step (firM_step v hk), by rw [runF, h2, toI_if]⟩
theorem segs_nd {trial safe : Int} {new old : List Int} (v : VSegs trial safe new old) : (old ++ new).Nodup := by
  obtain ⟨⟨_, _, _, _, h1⟩, ⟨_, _, _, _, h2⟩, h3⟩ := v
  exact List.nodup_append.2 ⟨h2, h1, fun a ha b hb e => h3 b hb (e ▸ ha)⟩
theorem segM_step {trial safe : Int} {new old : List Int} {key : Int} (v : VSegs trial safe new old) (hk : 0 ≤ key ∧ key ≤ 31) :
    StepK (trial.toNat + safe.toNat) trial.toNat (old ++ new) ((segM trial safe new old key).2.1 ++ (segM trial safe new old key).1) key := by
  have hv := segM_valid v hk
  have hn := segs_nd v
  have hkeep := segM_keep (key := key) v
  have hin : key ∈ (segM trial safe new old key).2.1 ++ (segM trial safe new old key).1 := by
    rcases segM_in (trial := trial) (safe := safe) (new := new) (old := old) (key := key) v.1.1 v.2.1.1 with h | h
    · exact List.mem_append_right _ h
    · exact List.mem_append_left _ h
  have hhit : (segM trial safe new old key).2.2 = decide (key ∈ old ++ new) := by
    rw [segM_hit]; simp [or_comm]
  refine ⟨segs_nd hv, ?_, hin, fun x hx => ?_, fun h x hx => ?_, fun h1 h2 => ?_⟩
  · have := hv.1.2.2.1; have := hv.2.1.2.2.1; have := v.1.1; have := v.2.1.1
    rw [List.length_append]; omega
  · rcases segM_sub (x := x) (by rcases List.mem_append.1 hx with h | h; exact .inr h; exact .inl h) (vsegs_ne v) with h | h
    · exact .inl h
    · rcases h with h | h
      · exact .inr (List.mem_append_right _ h)
      · exact .inr (List.mem_append_left _ h)
  · by_cases hm : key ∈ old ++ new
    · exact outN_all (hkeep.1 (by rw [hhit]; exact decide_eq_true hm)) x hx
    · have hlt := h.resolve_left hm
      rw [List.length_append] at hlt
      rw [segM_miss (fun c => hm (by simp; exact c.symm))]
      rw [List.take_of_length_le (by simp; omega)]
      rcases List.mem_append.1 hx with h | h
      · exact List.mem_append_left _ h
      · exact List.mem_append_right _ (List.mem_cons_of_mem _ h)
  · have := keep_full hn h1 hin (hkeep.2 (by rw [hhit]; exact decide_eq_false h1)).1
    omega
theorem runS_runs {trial safe : Int} : ∀ (t a b : List Int) (n : Int), VSegs trial safe a b → (∀ x ∈ t, 0 ≤ x ∧ x ≤ 31) →
    ∃ m : Nat, Runs (trial.toNat + safe.toNat) trial.toNat t (b ++ a) ((runS trial safe t a b n).2.1 ++ (runS trial safe t a b n).1) m ∧ (runS trial safe t a b n).2.2 = n + m
  | [], a, b, n, _, _ => ⟨0, ⟨rfl, rfl⟩, by simp [runS]⟩
  | k :: t, a, b, n, v, ht => by
    have hk := ht k List.mem_cons_self
    obtain ⟨m, h1, h2⟩ := runS_runs t _ _ (n + toI (segM trial safe a b k).2.2) (segM_valid v hk) fun x hx => ht x (List.mem_cons_of_mem _ hx)
    refine ⟨_, h1.step (segM_step v hk), ?_⟩
    rw [runS, h2, show (segM trial safe a b k).2.2 = decide (k ∈ b ++ a) by rw [segM_hit]; simp [or_comm], toI_if]
theorem yes {P A B : Prop} (v : P) (h : A) : (P → A) ∧ (¬ P → B) := ⟨fun _ => h, fun c => absurd v c⟩
theorem nay {P A B : Prop} (v : ¬ P) (h : B) : (P → A) ∧ (¬ P → B) := ⟨fun c => absurd c v, fun _ => h⟩
theorem br_yd {p : Prop} [Decidable p] {A B : Prop} (h : p) (g : A) : br (decide p) A B := br_dec.2 ⟨fun _ => g, fun c => absurd h c⟩
theorem br_nd {p : Prop} [Decidable p] {A B : Prop} (h : ¬ p) (g : B) : br (decide p) A B := br_dec.2 ⟨fun c => absurd c h, fun _ => g⟩
theorem br_ye {a b : Int} {A B : Prop} (h : a = b) (g : A) : br (a == b) A B := br_beq.2 ⟨fun _ => g, fun c => absurd h c⟩
theorem beq_t {a b : Int} (h : a = b) : (a == b) = true := by rw [h, beq_self_eq_true]
/-- What a run of a policy tells. -/
structure RunFacts (room : Int) (t E : List Int) (h : Int) : Prop where
  pos : 0 ≤ h
  best : h ≤ (bestM room.toNat t [] : Int)
  new : h + (nk t : Int) ≤ t.length
  len : (E.length : Int) ≤ room
  keys : (E.length : Int) ≤ nk t
  full : (E.length : Int) = room ∨ (E.length : Int) = nk t
  fit : (nk t : Int) ≤ room → h + (nk t : Int) = t.length
  sub : ∀ x ∈ E, x ∈ t
theorem runs_facts {room : Int} {t E : List Int} {h : Int} (hr : 1 ≤ room) (H : ∃ m : Nat, Runs room.toNat room.toNat t [] E m ∧ h = 0 + (m : Int)) : RunFacts room t E h := by
  obtain ⟨m, h1, h2⟩ := H
  have h3 := h1.best (by omega)
  have h4 := h1.new
  obtain ⟨h5, h6⟩ := h1.len
  have h7 := Nat.min_le_left room.toNat (nk t)
  have h8 := Nat.min_le_right room.toNat (nk t)
  have h9 : min room.toNat (nk t) = room.toNat ∨ min room.toNat (nk t) = nk t := by rcases Nat.le_total room.toNat (nk t) with h | h; exact .inl (Nat.min_eq_left h); exact .inr (Nat.min_eq_right h)
  exact ⟨by omega, by omega, by omega, by omega, by omega, by omega, fun h => by have := h6 (by omega); omega, fun x hx => (h1.sub x hx).resolve_left (by simp)⟩
theorem runF_facts {t : List Int} {room : Int} (v : VTrace t) (hr : 1 ≤ room ∧ room ≤ 8) : RunFacts room t (runF room t [] 0).1 (runF room t [] 0).2 := runs_facts hr.1 (runF_runs t [] 0 (keys0 hr) v.2)
theorem usedR_len (t : List Int) : (usedR [] t).length = nk t := rfl
theorem runS_facts {t : List Int} {trial safe : Int} (v : VTrace t) (ht : 1 ≤ trial ∧ trial ≤ 8) (hs : 1 ≤ safe ∧ safe ≤ 8) :
    0 ≤ (runS trial safe t [] [] 0).2.2 ∧ (runS trial safe t [] [] 0).2.2 ≤ (bestM (trial + safe).toNat t [] : Int) ∧
    ((nk t : Int) ≤ trial → (runS trial safe t [] [] 0).2.2 + (nk t : Int) = t.length ∧ ((runS trial safe t [] [] 0).2.1 ++ (runS trial safe t [] [] 0).1).length = nk t) := by
  obtain ⟨m, h1, h2⟩ := runS_runs t [] [] 0 (segs0 ht hs) v.2
  have h3 : Runs (trial.toNat + safe.toNat) trial.toNat t [] ((runS trial safe t [] [] 0).2.1 ++ (runS trial safe t [] [] 0).1) m := h1
  have hb := h3.best (by omega)
  rw [show (trial + safe).toNat = trial.toNat + safe.toNat by omega]
  refine ⟨by omega, by omega, fun hk => ?_⟩
  obtain ⟨f1, f2⟩ := h3.fit (D := []) (by simp) (by simp) (fun x => Iff.rfl) (by rw [usedR_len]; omega)
  rw [usedR_len] at f1
  have hn := (h3.nodup (by simp) (by simp)).1
  simp only [List.length_nil] at f1
  exact ⟨by omega, nk_of hn fun x => by rw [f2 x, mem_usedR]; simp⟩
def VSk (s : List Int) : Prop := s.length = 24 ∧ ∀ x ∈ s, 0 ≤ x ∧ x ≤ 15
def cellM (row key : Int) : Int := row * 8 + Int.tmod (Int.tmod ((37 + 2 * row) * (key + row)) 101) 8
theorem cellM_range {row key : Int} (h0 : 0 ≤ row) (k0 : 0 ≤ key) : row * 8 ≤ cellM row key ∧ cellM row key < row * 8 + 8 := by
  have h1 : 0 ≤ (37 + 2 * row) * (key + row) := Int.mul_nonneg (by omega) (by omega)
  have h2 := Int.tmod_nonneg 101 h1
  have h3 := Int.tmod_nonneg 8 h2
  have h4 := Int.tmod_lt_of_pos (Int.tmod ((37 + 2 * row) * (key + row)) 101) (show (0 : Int) < 8 by omega)
  unfold cellM; omega
theorem VSk.get {s : List Int} (v : VSk s) (i : Nat) : 0 ≤ s.getD i 0 ∧ s.getD i 0 ≤ 15 := by
  by_cases h : i < s.length
  · exact v.2 _ (mem_getD h)
  · rw [List.getD_eq_getElem?_getD, List.getElem?_eq_none (by omega)]; simp
def min2 (a b : Int) : Int := if a < b then a else b
def countM (s : List Int) (key : Int) : Int := min2 (s.getD (cellM 2 key).toNat 0) (min2 (s.getD (cellM 1 key).toNat 0) (min2 (s.getD (cellM 0 key).toNat 0) 15))
theorem VSk.count {s : List Int} (v : VSk s) (key : Int) : 0 ≤ countM s key ∧ countM s key ≤ 15 := by
  have h0 := v.get (cellM 0 key).toNat
  have h1 := v.get (cellM 1 key).toNat
  have h2 := v.get (cellM 2 key).toNat
  unfold countM min2
  repeat' split
  all_goals omega
/-- Each counter of the key has the number, and all others are 0. -/
def Cnt (a n : Int) (s : List Int) : Prop := VSk s ∧ s.getD (cellM 0 a).toNat 0 = n ∧ s.getD (cellM 1 a).toNat 0 = n ∧ s.getD (cellM 2 a).toNat 0 = n ∧ ∀ j : Nat, j ≠ (cellM 0 a).toNat → j ≠ (cellM 1 a).toNat → j ≠ (cellM 2 a).toNat → s.getD j 0 = 0
theorem Cnt.other {a b : Int} {s : List Int} (v : Cnt a 15 s) (ha : 0 ≤ a) (hb : 0 ≤ b) : countM s b < 15 ↔ (cellM 0 a ≠ cellM 0 b ∨ cellM 1 a ≠ cellM 1 b ∨ cellM 2 a ≠ cellM 2 b) := by
  obtain ⟨vs, e0, e1, e2, eo⟩ := v
  have a0 := cellM_range (row := 0) (by omega) ha
  have a1 := cellM_range (row := 1) (by omega) ha
  have a2 := cellM_range (row := 2) (by omega) ha
  have b0 := cellM_range (row := 0) (by omega) hb
  have b1 := cellM_range (row := 1) (by omega) hb
  have b2 := cellM_range (row := 2) (by omega) hb
  have g0 : s.getD (cellM 0 b).toNat 0 = if cellM 0 a = cellM 0 b then 15 else 0 := by
    split
    · rename_i h; rw [← h]; exact e0
    · exact eo _ (by omega) (by omega) (by omega)
  have g1 : s.getD (cellM 1 b).toNat 0 = if cellM 1 a = cellM 1 b then 15 else 0 := by
    split
    · rename_i h; rw [← h]; exact e1
    · exact eo _ (by omega) (by omega) (by omega)
  have g2 : s.getD (cellM 2 b).toNat 0 = if cellM 2 a = cellM 2 b then 15 else 0 := by
    split
    · rename_i h; rw [← h]; exact e2
    · exact eo _ (by omega) (by omega) (by omega)
  unfold countM
  rw [g0, g1, g2]
  by_cases h0 : cellM 0 a = cellM 0 b
  · by_cases h1 : cellM 1 a = cellM 1 b
    · by_cases h2 : cellM 2 a = cellM 2 b
      · rw [if_pos h0, if_pos h1, if_pos h2]; simp [min2, h0, h1, h2]
      · rw [if_pos h0, if_pos h1, if_neg h2]; simp [min2, h2]
    · by_cases h2 : cellM 2 a = cellM 2 b
      · rw [if_pos h0, if_neg h1, if_pos h2]; simp [min2, h1]
      · rw [if_pos h0, if_neg h1, if_neg h2]; simp [min2, h1]
  · by_cases h1 : cellM 1 a = cellM 1 b
    · by_cases h2 : cellM 2 a = cellM 2 b
      · rw [if_neg h0, if_pos h1, if_pos h2]; simp [min2, h0]
      · rw [if_neg h0, if_pos h1, if_neg h2]; simp [min2, h0]
    · by_cases h2 : cellM 2 a = cellM 2 b
      · rw [if_neg h0, if_neg h1, if_pos h2]; simp [min2, h0]
      · rw [if_neg h0, if_neg h1, if_neg h2]; simp [min2, h0]

def PTm (l : List (Int × Int)) : Prop := (∀ e ∈ l, (0 ≤ e.1 ∧ e.1 ≤ 31) ∧ 0 ≤ e.2 ∧ e.2 ≤ 1000) ∧ l.Pairwise fun a b => a.1 < b.1
def VTm (l : List (Int × Int)) : Prop := l.length ≤ 12 ∧ PTm l
theorem PTm.filter {l : List (Int × Int)} (v : PTm l) (p : Int × Int → Bool) : PTm (l.filter p) := ⟨fun e he => v.1 e (List.mem_filter.1 he).1, v.2.filter p⟩
theorem filter_none {l : List (Int × Int)} {p : Int × Int → Bool} (h : ∀ e ∈ l, p e = false) : l.filter p = [] := List.filter_eq_nil_iff.2 fun e he => by rw [h e he]; simp
def dropM (l : List (Int × Int)) (now : Int) : List (Int × Int) := l.filter fun e => decide (now ≤ e.2)
theorem dropM_len (l : List (Int × Int)) (now : Int) : (dropM l now).length ≤ l.length := List.length_filter_le _ _
theorem VTm.drop {l : List (Int × Int)} (v : VTm l) (now : Int) : VTm (dropM l now) := ⟨Nat.le_trans (dropM_len l now) v.1, v.2.filter _⟩
/-- Where a key is, or could be. -/
def lowT (l : List (Int × Int)) (key : Int) : Nat := (l.filter (fun e => decide (e.1 < key))).length
theorem PTm.low {l : List (Int × Int)} (v : PTm l) (key : Int) : l.filter (fun e => decide (e.1 < key)) = l.take (lowT l key) ∧ ∀ e ∈ l.drop (lowT l key), key ≤ e.1 := by
  have key : ∀ l : List (Int × Int), l.Pairwise (fun a b => a.1 < b.1) → l.filter (fun e => decide (e.1 < key)) = l.take (lowT l key) ∧ ∀ e ∈ l.drop (lowT l key), key ≤ e.1 := by
    intro l hp
    unfold lowT
    induction l with
    | nil => simp
    | cons x l ih =>
      obtain ⟨h1, h2⟩ := List.pairwise_cons.1 hp
      by_cases c : x.1 < key
      · rw [List.filter_cons_of_pos (by simpa using c), List.length_cons, List.take_succ_cons, List.drop_succ_cons]
        obtain ⟨i1, i2⟩ := ih h2
        exact ⟨by rw [← i1], i2⟩
      · have e0 : (x :: l).filter (fun e => decide (e.1 < key)) = [] := filter_none fun e he => decide_eq_false (by
          rcases List.mem_cons.1 he with g | g
          · rw [g]; exact c
          · have := h1 e g; omega)
        rw [e0]
        refine ⟨rfl, fun e he => ?_⟩
        rcases List.mem_cons.1 he with g | g
        · rw [g]; omega
        · have := h1 e g; omega
  exact key l v.2
def sumW : List (Int × Int) → Int
  | [] => 0
  | e :: r => e.2 + sumW r
def PW (l : List (Int × Int)) : Prop := (∀ e ∈ l, (0 ≤ e.1 ∧ e.1 ≤ 31) ∧ 1 ≤ e.2 ∧ e.2 ≤ 20) ∧ (l.map (·.1)).Nodup
def VW (l : List (Int × Int)) (room : Int) : Prop := PW l ∧ (1 ≤ room ∧ room ≤ 50) ∧ sumW l ≤ room
theorem PW.len_sum : ∀ {l : List (Int × Int)}, (∀ e ∈ l, 1 ≤ e.2) → (l.length : Int) ≤ sumW l
  | [], _ => by simp [sumW]
  | e :: l, h => by
    have := h e List.mem_cons_self
    have := PW.len_sum (l := l) fun x hx => h x (List.mem_cons_of_mem _ hx)
    rw [sumW, List.length_cons]; omega
theorem VW.len {l : List (Int × Int)} {room : Int} (v : VW l room) : l.length ≤ 50 := by
  have := PW.len_sum (l := l) fun e he => (v.1.1 e he).2.1
  have := v.2.1; have := v.2.2; omega
def othersW (l : List (Int × Int)) (key : Int) : List (Int × Int) := l.filter fun e => decide (e.1 ≠ key)
def allW (l : List (Int × Int)) (key size : Int) : List (Int × Int) := (key, size) :: othersW l key
theorem PW.all {l : List (Int × Int)} (v : PW l) {key size : Int} (hk : 0 ≤ key ∧ key ≤ 31) (hs : 1 ≤ size ∧ size ≤ 20) : PW (allW l key size) := by
  refine ⟨fun e he => ?_, ?_⟩
  · rcases List.mem_cons.1 he with g | g
    · rw [g]; exact ⟨hk, hs⟩
    · exact v.1 e (List.mem_filter.1 g).1
  · rw [allW, List.map_cons, List.nodup_cons]
    refine ⟨fun h => ?_, (v.2.sublist (List.Sublist.map _ List.filter_sublist))⟩
    obtain ⟨e, he, h2⟩ := List.mem_map.1 h
    exact absurd h2 (of_decide_eq_true (List.mem_filter.1 he).2)
theorem PW.take {l : List (Int × Int)} (v : PW l) (n : Nat) : PW (l.take n) :=
  ⟨fun e he => v.1 e (List.mem_of_mem_take he), v.2.sublist ((List.take_sublist _ _).map _)⟩
theorem getI_mem {l : List Int} {i : Nat} (h : i < l.length) : l.getD i 0 ∈ l := by
  rw [List.getD_eq_getElem?_getD, List.getElem?_eq_getElem h]; exact List.getElem_mem h
theorem getL_mem {l : List (Int × Int × Bool)} {i : Nat} (h : i < l.length) : l.getD i ((0 : Int), (0 : Int), false) ∈ l := by
  rw [List.getD_eq_getElem?_getD, List.getElem?_eq_getElem h]; exact List.getElem_mem h
theorem takeL {l : List (Int × Int × Bool)} {i : Nat} (h : i < l.length) : l.take (i + 1) = l.take i ++ [l.getD i ((0 : Int), (0 : Int), false)] := by
  rw [List.take_add_one, List.getD_eq_getElem?_getD, List.getElem?_eq_getElem h]; rfl
def VLn (l : List (Int × Int × Bool)) (room : Int) : Prop :=
  ((∀ e ∈ l, (0 ≤ e.1 ∧ e.1 ≤ 31) ∧ -1000 ≤ e.2.1 ∧ e.2.1 ≤ 1000) ∧ (l.map (·.1)).Nodup) ∧ (1 ≤ room ∧ room ≤ 8) ∧ (l.length : Int) ≤ room
def VSt (s : List Int) : Prop := s.length = 32 ∧ ∀ x ∈ s, -1000 ≤ x ∧ x ≤ 1000
def Clean (s : List Int) (l : List (Int × Int × Bool)) : Prop := ∀ e ∈ l, e.2.2 = false → e.2.1 = s.getD e.1.toNat 0
def VMem (s : List Int) (l : List (Int × Int × Bool)) (room : Int) : Prop := VSt s ∧ VLn l room ∧ Clean s l
theorem VMem.len {s : List Int} {l : List (Int × Int × Bool)} {room : Int} (v : VMem s l room) : s.length = 32 ∧ l.length ≤ 8 := by
  obtain ⟨v1, v2, _⟩ := v; exact ⟨v1.1, by have := v2.2; omega⟩
/-- The line of a key, or one of the store. -/
def lnM (s : List Int) : List (Int × Int × Bool) → Int → Int × Int × Bool
  | [], key => (key, s.getD key.toNat 0, false)
  | e :: r, key => if e.1 = key then e else lnM s r key
def valM (s : List Int) (l : List (Int × Int × Bool)) (key : Int) : Int := (lnM s l key).2.1
theorem lnM_key (s : List Int) : ∀ (l : List (Int × Int × Bool)) (key : Int), (lnM s l key).1 = key
  | [], key => rfl
  | e :: r, key => by
    rw [lnM]; split
    · assumption
    · exact lnM_key s r key
theorem lnM_in {s : List Int} : ∀ {l : List (Int × Int × Bool)} {key : Int}, (∃ e ∈ l, e.1 = key) → lnM s l key ∈ l
  | [], key, h => by simp at h
  | e :: r, key, h => by
    rw [lnM]; split
    · exact List.mem_cons_self
    · rename_i hne
      obtain ⟨x, hx, e1⟩ := h
      rcases List.mem_cons.1 hx with rfl | hx
      · exact absurd e1 hne
      · exact List.mem_cons_of_mem _ (lnM_in ⟨x, hx, e1⟩)
theorem lnM_out {s : List Int} : ∀ {l : List (Int × Int × Bool)} {key : Int}, (∀ e ∈ l, e.1 ≠ key) → lnM s l key = (key, s.getD key.toNat 0, false)
  | [], key, h => rfl
  | e :: r, key, h => by rw [lnM, if_neg (h e List.mem_cons_self)]; exact lnM_out fun x hx => h x (List.mem_cons_of_mem _ hx)
/-- The lines but that of a key; where they fill the room, the last is left out. -/
def othL (l : List (Int × Int × Bool)) (key : Int) : List (Int × Int × Bool) := l.filter fun e => decide (e.1 ≠ key)
def accR (l : List (Int × Int × Bool)) (room key : Int) : List (Int × Int × Bool) := if ((othL l key).length : Int) = room then (othL l key).take ((othL l key).length - 1) else othL l key
def lastL (l : List (Int × Int × Bool)) : Int × Int × Bool := l.getD (l.length - 1) ((0 : Int), (0 : Int), false)
def accS (s : List Int) (l : List (Int × Int × Bool)) (room key : Int) : List Int := if ((othL l key).length : Int) = room then s.set (lastL (othL l key)).1.toNat (lastL (othL l key)).2.1 else s
def readM (s : List Int) (l : List (Int × Int × Bool)) (room key : Int) : List (Int × Int × Bool) := lnM s l key :: accR l room key
theorem othL_mem {l : List (Int × Int × Bool)} {key : Int} {e : Int × Int × Bool} : e ∈ othL l key ↔ e ∈ l ∧ e.1 ≠ key := by unfold othL; rw [List.mem_filter]; simp
theorem othL_out {l : List (Int × Int × Bool)} {key : Int} (h : ∀ e ∈ l, e.1 ≠ key) : othL l key = l := List.filter_eq_self.2 fun e he => decide_eq_true (h e he)
theorem othL_len (l : List (Int × Int × Bool)) (key : Int) : (othL l key).length ≤ l.length := List.length_filter_le _ _
theorem othL_lt {l : List (Int × Int × Bool)} {key : Int} (h : ∃ e ∈ l, e.1 = key) : (othL l key).length < l.length := by
  obtain ⟨e, he, e1⟩ := h
  rcases Nat.lt_or_ge (othL l key).length l.length with h | h
  · exact h
  · have := List.filter_eq_self.1 (List.Sublist.eq_of_length_le (List.filter_sublist (p := fun e : Int × Int × Bool => decide (e.1 ≠ key)) (l := l)) h) e he
    simp at this; exact absurd e1 this
theorem accR_sub {l : List (Int × Int × Bool)} {room key : Int} {e : Int × Int × Bool} (h : e ∈ accR l room key) : e ∈ othL l key := by
  unfold accR at h; split at h
  · exact List.mem_of_mem_take h
  · exact h
theorem accR_len {l : List (Int × Int × Bool)} {room key : Int} (h : (l.length : Int) ≤ room) (hr : 1 ≤ room) : ((accR l room key).length : Int) + 1 ≤ room := by
  have := othL_len l key
  unfold accR; split
  · rw [List.length_take]; omega
  · omega
theorem lastL_mem {l : List (Int × Int × Bool)} (h : 0 < l.length) : lastL l ∈ l := getL_mem (by omega)
theorem lastL_split {l : List (Int × Int × Bool)} (h : 0 < l.length) : l = l.take (l.length - 1) ++ [lastL l] := by
  have := takeL (l := l) (i := l.length - 1) (by omega)
  rw [show l.length - 1 + 1 = l.length by omega, List.take_length] at this
  exact this
/-- The room was full, and the key is not there. -/
theorem VMem.full {s : List Int} {l : List (Int × Int × Bool)} {room key : Int} (v : VMem s l room) (h : ((othL l key).length : Int) = room) : (∀ e ∈ l, e.1 ≠ key) ∧ othL l key = l ∧ 0 < l.length := by
  have hv := v.2.1.2
  have h0 : ∀ e ∈ l, e.1 ≠ key := fun e he e1 => by have := othL_lt ⟨e, he, e1⟩; omega
  exact ⟨h0, othL_out h0, by rw [othL_out h0] at h; omega⟩
theorem getD_setI {s : List Int} {i j : Nat} {x : Int} : (s.set i x).getD j 0 = if i = j ∧ j < s.length then x else s.getD j 0 := by
  rw [List.getD_eq_getElem?_getD, List.getD_eq_getElem?_getD, List.getElem?_set]
  by_cases h : i = j
  · subst h
    by_cases h2 : i < s.length
    · simp [h2]
    · simp [h2]
  · simp [h]
theorem VSt.set {s : List Int} (v : VSt s) {i : Nat} {x : Int} (h : -1000 ≤ x ∧ x ≤ 1000) : VSt (s.set i x) :=
  ⟨by rw [List.length_set]; exact v.1, fun y hy => by
    rcases List.mem_or_eq_of_mem_set hy with hy | rfl
    · exact v.2 y hy
    · exact h⟩
theorem VSt.get {s : List Int} (v : VSt s) {i : Nat} (h : i < 32) : -1000 ≤ s.getD i 0 ∧ s.getD i 0 ≤ 1000 := v.2 _ (getI_mem (by rw [v.1]; exact h))
theorem toNat_inj {a b : Int} (ha : 0 ≤ a) (hb : 0 ≤ b) (h : a.toNat = b.toNat) : a = b := by omega
/-- Of the store, only the value of the line that is left out. -/
theorem accS_get {s : List Int} {l : List (Int × Int × Bool)} {room key k : Int} (v : VMem s l room) (hk : 0 ≤ k ∧ k ≤ 31) :
    (accS s l room key).getD k.toNat 0 = if ((othL l key).length : Int) = room ∧ (lastL (othL l key)).1 = k then (lastL (othL l key)).2.1 else s.getD k.toNat 0 := by
  unfold accS
  split
  · rename_i h
    obtain ⟨h1, h2, h3⟩ := v.full h
    have hm : lastL (othL l key) ∈ l := by rw [h2]; exact lastL_mem h3
    have hr := (v.2.1.1.1 _ hm).1
    rw [getD_setI]
    by_cases e : (lastL (othL l key)).1 = k
    · rw [if_pos ⟨by rw [e], by rw [v.1.1]; omega⟩, if_pos ⟨h, e⟩]
    · rw [if_neg fun c => e (toNat_inj hr.1 hk.1 c.1), if_neg fun c => e c.2]
  · rename_i h; rw [if_neg fun c => h c.1]
theorem accS_ok {s : List Int} {l : List (Int × Int × Bool)} {room key : Int} (v : VMem s l room) : VSt (accS s l room key) := by
  unfold accS; split
  · rename_i h
    obtain ⟨h1, h2, h3⟩ := v.full h
    have hm : lastL (othL l key) ∈ l := by rw [h2]; exact lastL_mem h3
    exact v.1.set (v.2.1.1.1 _ hm).2
  · exact v.1
theorem nodup_othL {l : List (Int × Int × Bool)} (h : (l.map (·.1)).Nodup) (key : Int) : ((othL l key).map (·.1)).Nodup := h.sublist (List.filter_sublist.map _)
theorem nodup_accR {l : List (Int × Int × Bool)} (h : (l.map (·.1)).Nodup) (room key : Int) : ((accR l room key).map (·.1)).Nodup := by
  unfold accR; split
  · exact (nodup_othL h key).sublist ((List.take_sublist _ _).map _)
  · exact nodup_othL h key
/-- A line that stays is not the one that is left out. -/
theorem VMem.stays {s : List Int} {l : List (Int × Int × Bool)} {room key : Int} (v : VMem s l room) {e : Int × Int × Bool} (he : e ∈ accR l room key) : ¬ (((othL l key).length : Int) = room ∧ (lastL (othL l key)).1 = e.1) := by
  rintro ⟨h, e1⟩
  obtain ⟨h1, h2, h3⟩ := v.full h
  have hn := v.2.1.1.2
  unfold accR at he; rw [if_pos h, h2] at he; rw [h2] at e1
  rw [lastL_split h3, List.map_append, List.map_cons, List.map_nil] at hn
  exact (List.nodup_append.1 hn).2.2 e.1 (List.mem_map_of_mem (f := (·.1)) he) (lastL l).1 (by simp) e1.symm
theorem VMem.cleanR {s : List Int} {l : List (Int × Int × Bool)} {room key : Int} (v : VMem s l room) : Clean (accS s l room key) (accR l room key) := by
  intro e he hd
  have hm := othL_mem.1 (accR_sub he)
  rw [accS_get v (v.2.1.1.1 e hm.1).1, if_neg (v.stays he)]
  exact v.2.2 e hm.1 hd
theorem VMem.putFirst {s : List Int} {l : List (Int × Int × Bool)} {room key : Int} (v : VMem s l room) {x : Int × Int × Bool} (hk : 0 ≤ key ∧ key ≤ 31) (hx : x.1 = key) (h1 : -1000 ≤ x.2.1 ∧ x.2.1 ≤ 1000) (h2 : x.2.2 = false → x.2.1 = (accS s l room key).getD key.toNat 0) :
    VMem (accS s l room key) (x :: accR l room key) room := by
  refine ⟨accS_ok v, ⟨⟨fun e he => ?_, ?_⟩, v.2.1.2.1, ?_⟩, fun e he hd => ?_⟩
  · rcases List.mem_cons.1 he with rfl | he
    · exact ⟨by omega, h1⟩
    · exact v.2.1.1.1 e (othL_mem.1 (accR_sub he)).1
  · rw [List.map_cons, List.nodup_cons]
    refine ⟨fun h => ?_, nodup_accR v.2.1.1.2 room key⟩
    obtain ⟨e, he, e1⟩ := List.mem_map.1 h
    exact (othL_mem.1 (accR_sub he)).2 (e1.trans hx)
  · have := accR_len (key := key) v.2.1.2.2 v.2.1.2.1.1
    rw [List.length_cons]; omega
  · rcases List.mem_cons.1 he with rfl | he
    · rw [hx]; exact h2 hd
    · exact v.cleanR e he hd
theorem VMem.here {s : List Int} {l : List (Int × Int × Bool)} {room key : Int} (v : VMem s l room) : (lastL (othL l key)).1 ≠ key ∨ ¬ ((othL l key).length : Int) = room := by
  by_cases h : ((othL l key).length : Int) = room
  · obtain ⟨h1, h2, h3⟩ := v.full h
    refine .inl fun e => h1 _ ?_ e
    rw [h2]; exact lastL_mem h3
  · exact .inr h
theorem VMem.val_range {s : List Int} {l : List (Int × Int × Bool)} {room key : Int} (v : VMem s l room) (hk : 0 ≤ key ∧ key ≤ 31) : -1000 ≤ valM s l key ∧ valM s l key ≤ 1000 := by
  by_cases h : ∃ e ∈ l, e.1 = key
  · exact (v.2.1.1.1 _ (lnM_in h)).2
  · unfold valM; rw [lnM_out fun e he e1 => h ⟨e, he, e1⟩]; exact v.1.get (by omega)
theorem accS_key {s : List Int} {l : List (Int × Int × Bool)} {room key : Int} (v : VMem s l room) (hk : 0 ≤ key ∧ key ≤ 31) : (accS s l room key).getD key.toNat 0 = s.getD key.toNat 0 := by
  rw [accS_get v hk, if_neg fun c => (v.here (key := key)).elim (fun h => h c.2) fun h => h c.1]
theorem VMem.read {s : List Int} {l : List (Int × Int × Bool)} {room key : Int} (v : VMem s l room) (hk : 0 ≤ key ∧ key ≤ 31) : VMem (accS s l room key) (readM s l room key) room := by
  refine v.putFirst hk (lnM_key s l key) (v.val_range hk) fun hd => ?_
  rw [accS_key v hk]
  by_cases h : ∃ e ∈ l, e.1 = key
  · have := v.2.2 _ (lnM_in (s := s) h) hd
    rwa [lnM_key] at this
  · rw [lnM_out fun e he e1 => h ⟨e, he, e1⟩]
theorem tdiv_lit {a : Int} (n : Int) (hn : 0 < n) : Int.tdiv a n = if 0 ≤ a then a / n else -((-a) / n) := by
  split
  · rename_i h; exact Int.tdiv_eq_ediv_of_nonneg h
  · rename_i h
    have : Int.tdiv (-(-a)) n = -(Int.tdiv (-a) n) := Int.neg_tdiv (-a) n
    rw [Int.neg_neg] at this
    rw [this, Int.tdiv_eq_ediv_of_nonneg (by omega)]
def VRat (hits uses : Int) : Prop := (1 ≤ uses ∧ uses ≤ 10000) ∧ 0 ≤ hits ∧ hits ≤ uses
def ratM (hits uses : Int) : Int := Int.tdiv (1000 * hits) uses
theorem VRat.ediv {h u : Int} (v : VRat h u) : ratM h u = 1000 * h / u := Int.tdiv_eq_ediv_of_nonneg (by have := v.2; omega)
theorem VRat.two {h u : Int} (v : VRat h u) : u * ratM h u ≤ 1000 * h ∧ 1000 * h < u * ratM h u + u := by
  rw [v.ediv]
  have h1 := v.1
  exact ⟨Int.mul_ediv_self_le (by omega), Int.lt_mul_ediv_self_add (by omega)⟩
def VClimb (at_ step ratio : Int) : Prop := (0 ≤ at_ ∧ at_ ≤ 100) ∧ (-16 ≤ step ∧ step ≤ 16) ∧ step ≠ 0 ∧ 0 ≤ ratio ∧ ratio ≤ 1000
def turnM (step : Int) : Int := if Int.tdiv (0 - step) 2 = 0 then (if 0 < step then -1 else 1) else Int.tdiv (0 - step) 2
theorem turn_def {step : Int} (h : step ≠ 0) : turnM step = if 0 < step then (if step = 1 then -1 else -(step / 2)) else (if step = -1 then 1 else (0 - step) / 2) := by
  unfold turnM; rw [tdiv_lit 2 (by omega)]
  split <;> split <;> split <;> omega
def stepM (step r ratio : Int) : Int := if ratio < r then turnM step else step
def climbAt (at_ step : Int) : Int := if at_ + step < 0 then 0 else if 100 < at_ + step then 100 else at_ + step
theorem climbAt_range (at_ step : Int) : 0 ≤ climbAt at_ step ∧ climbAt at_ step ≤ 100 := by
  unfold climbAt; split
  · omega
  · split <;> omega
theorem turn_range {step : Int} (h : step ≠ 0) (h1 : -16 ≤ step ∧ step ≤ 16) : turnM step ≠ 0 ∧ -16 ≤ turnM step ∧ turnM step ≤ 16 := by
  rw [turn_def h]; split <;> split <;> omega
theorem VClimb.next {at_ step r ratio : Int} (v : VClimb at_ step r) (h : 0 ≤ ratio ∧ ratio ≤ 1000) : VClimb (climbAt at_ (stepM step r ratio)) (stepM step r ratio) ratio := by
  have h1 := climbAt_range at_ (stepM step r ratio)
  have h2 := turn_range v.2.2.1 v.2.1
  refine ⟨h1, ?_⟩
  unfold stepM; split
  · exact ⟨h2.2, h2.1, h⟩
  · exact ⟨v.2.1, v.2.2.1, h⟩
/-- The best of some, the first of them. -/
def splitF (f : Nat → Int) : Nat → Int × Int
  | 0 => (1, -1)
  | n + 1 => if (splitF f n).2 < f (n + 1) then (((n + 1 : Nat) : Int), f (n + 1)) else splitF f n
theorem splitF_spec {f : Nat → Int} : ∀ {n : Nat}, (∀ i, 1 ≤ i → i ≤ n → 0 ≤ f i) → (n = 0 ∧ splitF f n = (1, -1)) ∨
    ∃ j : Nat, 1 ≤ j ∧ j ≤ n ∧ splitF f n = ((j : Int), f j) ∧ (∀ i, 1 ≤ i → i ≤ n → f i ≤ f j) ∧ ∀ i, 1 ≤ i → i < j → f i < f j
  | 0, _ => .inl ⟨rfl, rfl⟩
  | n + 1, h => by
    have hn := h (n + 1) (by omega) (by omega)
    rcases splitF_spec (n := n) (fun i h1 h2 => h i h1 (by omega)) with ⟨rfl, e⟩ | ⟨j, h1, h2, e, h4, h5⟩
    · refine .inr ⟨1, by omega, by omega, ?_, fun i h1 h2 => ?_, fun i h1 h2 => by omega⟩
      · rw [splitF, e, if_pos (by show (-1 : Int) < _; omega)]
      · rw [show i = 1 by omega]; exact Int.le_refl _
    · by_cases c : f j < f (n + 1)
      · refine .inr ⟨n + 1, by omega, by omega, by rw [splitF, e, if_pos c], fun i g1 g2 => ?_, fun i g1 g2 => ?_⟩
        · rcases Nat.lt_or_ge i (n + 1) with g | g
          · have := h4 i g1 (by omega); omega
          · rw [show i = n + 1 by omega]; exact Int.le_refl _
        · have := h4 i g1 (by omega); omega
      · refine .inr ⟨j, h1, by omega, by rw [splitF, e, if_neg c], fun i g1 g2 => ?_, h5⟩
        rcases Nat.lt_or_ge i (n + 1) with g | g
        · exact h4 i g1 (by omega)
        · rw [show i = n + 1 by omega]; omega
def hitsS (t : List Int) (room : Int) (i : Nat) : Int := (runS (i : Int) (room - i) t [] [] 0).2.2
def VSplit (t : List Int) (room : Int) : Prop := VTrace t ∧ 2 ≤ room ∧ room ≤ 8
def splitM (t : List Int) (room : Int) : Int := (splitF (hitsS t room) (room - 1).toNat).1
theorem VSplit.pos {t : List Int} {room : Int} (v : VSplit t room) {i : Nat} (h1 : 1 ≤ i) (h2 : (i : Int) < room) : 0 ≤ hitsS t room i ∧ hitsS t room i ≤ (bestM room.toNat t [] : Int) := by
  have hr := v.2
  have := runS_facts v.1 (trial := (i : Int)) (safe := room - i) ⟨by omega, by omega⟩ ⟨by omega, by omega⟩
  rw [show (i : Int) + (room - i) = room by omega] at this
  exact ⟨this.1, this.2.1⟩
theorem VSplit.spec {t : List Int} {room : Int} (v : VSplit t room) : ∃ j : Nat, 1 ≤ j ∧ (j : Int) < room ∧ splitM t room = j ∧ (∀ i : Nat, 1 ≤ i → (i : Int) < room → hitsS t room i ≤ hitsS t room j) ∧ ∀ i : Nat, 1 ≤ i → i < j → hitsS t room i < hitsS t room j := by
  have hr := v.2
  rcases splitF_spec (f := hitsS t room) (n := (room - 1).toNat) (fun i h1 h2 => (v.pos h1 (by omega)).1) with ⟨h, _⟩ | ⟨j, h1, h2, e, h4, h5⟩
  · omega
  · exact ⟨j, h1, by omega, by unfold splitM; rw [e], fun i g1 g2 => h4 i g1 (by omega), h5⟩
def loopM (n len : Int) : List Int := (List.range len.toNat).map fun i : Nat => Int.tmod (i : Int) n
def VLoop (n len : Int) : Prop := (1 ≤ n ∧ n ≤ 32) ∧ 0 ≤ len ∧ len ≤ 24
theorem loopM_len (n len : Int) : (loopM n len).length = len.toNat := by simp [loopM]
theorem loopM_snoc (n : Int) (i : Nat) : loopM n ((i + 1 : Nat) : Int) = loopM n (i : Int) ++ [Int.tmod (i : Int) n] := by
  unfold loopM; rw [Int.toNat_natCast, Int.toNat_natCast, List.range_succ, List.map_append]; rfl
theorem tmod_range {i : Nat} {n : Int} (h : 1 ≤ n) : Int.tmod (i : Int) n = (i : Int) % n ∧ 0 ≤ (i : Int) % n ∧ (i : Int) % n < n :=
  ⟨Int.tmod_eq_emod_of_nonneg (by omega), Int.emod_nonneg _ (by omega), Int.emod_lt_of_pos _ (by omega)⟩
theorem loopM_mem {n len x : Int} : x ∈ loopM n len ↔ ∃ i : Nat, i < len.toNat ∧ Int.tmod (i : Int) n = x := by
  unfold loopM; rw [List.mem_map]; simp [List.mem_range]
theorem loopM_valid {n len : Int} (v : VLoop n len) : VTrace (loopM n len) := by
  refine ⟨by rw [loopM_len]; have := v.2; omega, fun x hx => ?_⟩
  obtain ⟨i, hi, rfl⟩ := loopM_mem.1 hx
  have := tmod_range (i := i) v.1.1
  have := v.1
  omega
theorem loop_first (r : Int) (h : 1 ≤ r ∧ r ≤ 8) : (runF r (loopM (r + 1) 24) [] 0).2 = 0 ∧ (runR r (loopM (r + 1) 24) [] 0).2 = 0 ∧ (runF r (loopM r 24) [] 0).2 = 24 - r := by
  have key : ∀ q : Nat, q < 8 → (runF ((q : Int) + 1) (loopM ((q : Int) + 1 + 1) 24) [] 0).2 = 0 ∧ (runR ((q : Int) + 1) (loopM ((q : Int) + 1 + 1) 24) [] 0).2 = 0 ∧ (runF ((q : Int) + 1) (loopM ((q : Int) + 1) 24) [] 0).2 = 24 - ((q : Int) + 1) := by decide +kernel
  have := key (r - 1).toNat (by omega)
  rwa [show (((r - 1).toNat : Int)) + 1 = r by omega] at this
def decF : Nat → Int → List Int
  | 0, _ => []
  | f + 1, n => if n < 10 then [48 + n] else decF f (n / 10) ++ [48 + n % 10]
def decB (n : Int) : List Int := if n < 0 then 45 :: decF 5 (0 - n) else decF 5 n
theorem decF_more : ∀ {f : Nat} {n : Int}, 1 ≤ f → n < (10 ^ f : Nat) → decF (f + 1) n = decF f n
  | 0, n, h, _ => by omega
  | 1, n, _, h => by
    have h : n < 10 := h
    rw [decF, if_pos h, decF, if_pos h]
  | f + 2, n, _, h => by
    rw [decF]
    conv => rhs; rw [decF]
    split
    · rfl
    · rw [decF_more (f := f + 1) (by omega)]
      have : (10 ^ (f + 2) : Nat) = 10 * 10 ^ (f + 1) := by rw [Nat.pow_succ, Nat.mul_comm]
      omega
theorem decB_small {n : Int} (h0 : 0 ≤ n) (h : n < 10) : decB n = [48 + n] := by
  rw [decB, if_neg (by omega), decF, if_pos h]
theorem decB_big {n : Int} (h0 : 10 ≤ n) (h : n ≤ 9999) : decB n = decB (n / 10) ++ [48 + n % 10] := by
  rw [decB, if_neg (by omega), decF, if_neg (by omega), decB, if_neg (by omega), decF_more (f := 4) (by omega) (by show n / 10 < (10000 : Nat); omega)]
def BS (a : List Int) : Prop := ∀ x ∈ a, 0 ≤ x ∧ x ≤ 255
theorem BS.take {a : List Int} (h : BS a) (i : Nat) : BS (a.take i) := fun x hx => h x (List.mem_of_mem_take hx)
theorem BS.drop {a : List Int} (h : BS a) (i : Nat) : BS (a.drop i) := fun x hx => h x (List.mem_of_mem_drop hx)
theorem BS.one {x : Int} (h : 0 ≤ x ∧ x ≤ 255) : BS [x] := fun y hy => by rw [List.mem_singleton.1 hy]; exact h
/-- The letters of a number. -/
theorem decF_digits : ∀ {f : Nat} {n x : Int}, 0 ≤ n → x ∈ decF f n → 48 ≤ x ∧ x ≤ 57
  | 0, _, _, _, h => by simp [decF] at h
  | f + 1, n, x, h0, h => by
    rw [decF] at h
    split at h
    · rw [List.mem_singleton.1 h]; omega
    · rcases List.mem_append.1 h with h | h
      · exact decF_digits (by omega) h
      · rw [List.mem_singleton.1 h]; omega
theorem decF_ne : ∀ {f : Nat} {n : Int}, 1 ≤ f → decF f n ≠ []
  | 0, _, h => by omega
  | f + 1, n, _ => by rw [decF]; split <;> simp
/-- The number of digits. -/
def valD (n : Int) : List Int → Int
  | [] => n
  | x :: r => valD (10 * n + x - 48) r
theorem valD_snoc : ∀ (a : List Int) (n x : Int), valD n (a ++ [x]) = 10 * valD n a + x - 48
  | [], n, x => rfl
  | y :: a, n, x => valD_snoc a _ x
theorem valD_dec : ∀ {f : Nat} {n : Int}, 0 ≤ n → n < (10 ^ f : Nat) → 1 ≤ f → valD 0 (decF f n) = n
  | 0, n, _, _, h => by omega
  | f + 1, n, h0, h, _ => by
    rw [decF]; split
    · show 10 * 0 + (48 + n) - 48 = n; omega
    · rw [valD_snoc]
      have e : (10 ^ (f + 1) : Nat) = 10 * 10 ^ f := by rw [Nat.pow_succ, Nat.mul_comm]
      by_cases hf : f = 0
      · subst hf; have : n < 10 := h; omega
      · rw [valD_dec (f := f) (by omega) (by omega) (by omega)]; omega
/-- The value of letters read so far; a sign in front is passed over. -/
def valS (a : List Int) : Int := if a.getD 0 0 = 45 then valD 0 (a.drop 1) else valD 0 a
theorem decF_first {f : Nat} {n : Int} (hf : 1 ≤ f) (h : 0 ≤ n) : (decF f n).getD 0 0 ≠ 45 := by
  cases e : decF f n with
  | nil => exact absurd e (decF_ne hf)
  | cons x r =>
    have := decF_digits (f := f) (x := x) h (by rw [e]; exact List.mem_cons_self)
    show x ≠ 45
    omega
theorem valS_dec {m : Int} (h : -9999 ≤ m ∧ m ≤ 9999) : ((decB m).getD 0 0 = 45 ↔ m < 0) ∧ valS (decB m) = if m < 0 then 0 - m else m := by
  unfold valS decB
  by_cases c : m < 0
  · rw [if_pos c, if_pos c]
    refine ⟨⟨fun _ => c, fun _ => rfl⟩, ?_⟩
    rw [if_pos (show (45 :: decF 5 (0 - m)).getD 0 0 = 45 from rfl)]
    exact valD_dec (by omega) (by show 0 - m < (100000 : Nat); omega) (by omega)
  · rw [if_neg c, if_neg c]
    have h1 := decF_first (f := 5) (n := m) (by omega) (by omega)
    refine ⟨⟨fun e => absurd e h1, fun e => absurd e c⟩, ?_⟩
    rw [if_neg h1]
    exact valD_dec (by omega) (by show m < (100000 : Nat); omega) (by omega)
def NumB (a : List Int) (n : Int) : Prop := (-9999 ≤ n ∧ n ≤ 9999) ∧ decB n = a ∧ a.length ≤ 4
theorem NumB.one {a : List Int} {n m : Int} (h : NumB a n) (h' : NumB a m) : n = m := by
  have h1 := valS_dec h.1
  have h2 := valS_dec h'.1
  rw [h.2.1] at h1
  rw [h'.2.1] at h2
  have e1 := h1.1.symm.trans h2.1
  have e2 := h1.2.symm.trans h2.2
  by_cases c : n < 0
  · rw [if_pos c, if_pos (e1.1 c)] at e2; omega
  · rw [if_neg c, if_neg (fun d => c (e1.2 d))] at e2; exact e2
theorem decB_short {n : Int} (h : 0 ≤ n ∧ n ≤ 99) : (decB n).length ≤ 2 := by
  by_cases c : n < 10
  · rw [decB_small h.1 c]; simp
  · rw [decB_big (by omega) (by omega), decB_small (by omega) (by omega)]; simp
theorem NumB.of {n : Int} (h : 0 ≤ n ∧ n ≤ 99) : NumB (decB n) n := ⟨⟨by omega, by omega⟩, rfl, by have := decB_short h; omega⟩
-- spec.newReader
def G_spec_newReader (code0 : List Int) (k : List Int → Int → Prop) : Prop :=
  br (decide ((code0.length : Int) > 2000))
  ((0 ≤ (2000 : Int) ∧ 2000 ≤ (code0.length : Int)) ∧
    k (List.take 2000 code0) 0)
  (k code0 0)
def S_spec_newReader (code0 : List Int) (k : List Int → Int → Prop) : Prop := G_spec_newReader code0 k
def F_spec_newReader (code : List Int) (k : List Int → Int → Prop) : Prop := (∀ x ∈ code, 0 ≤ x ∧ x ≤ 255) ∧ ∀ b, Bs b → k b 0
theorem F_spec_newReader_S {code : List Int} {k : List Int → Int → Prop} (h : F_spec_newReader code k) : S_spec_newReader code k := by
  obtain ⟨hb, hk⟩ := h
  simp only [S_spec_newReader, G_spec_newReader, br_dec]
  refine ⟨fun h1 => ⟨⟨by omega, by omega⟩, hk _ ⟨by simp; omega, fun x hx => hb x (List.mem_of_mem_take hx)⟩⟩, fun h1 => hk _ ⟨by omega, hb⟩⟩
-- (*spec.reader).pick
def G_spec_reader_pick (r0b : List Int) (r0p : Int) (n1 : Int) (k : Int → List Int → Int → Prop) : Prop :=
  InR (r0p + 1) ∧
  br (decide (n1 < 1))
  (k 0 r0b (r0p + 1))
  (br ((r0b.length : Int) == 0)
    (k 0 r0b (r0p + 1))
    (InR ((r0p + 1) - 1) ∧
      br (decide (((r0p + 1) - 1) < (r0b.length : Int)))
      ((0 ≤ ((r0p + 1) - 1) ∧ ((r0p + 1) - 1) < (r0b.length : Int)) ∧
        InR (List.getD r0b (Int.toNat ((r0p + 1) - 1)) (0 : Int)) ∧
        (n1 ≠ 0) ∧
        k (Int.tmod (List.getD r0b (Int.toNat ((r0p + 1) - 1)) (0 : Int)) n1) r0b (r0p + 1))
      (((r0b.length : Int) ≠ 0) ∧
        (0 ≤ (Int.tmod ((r0p + 1) - 1) (r0b.length : Int)) ∧ (Int.tmod ((r0p + 1) - 1) (r0b.length : Int)) < (r0b.length : Int)) ∧
        InR (List.getD r0b (Int.toNat (Int.tmod ((r0p + 1) - 1) (r0b.length : Int))) (0 : Int)) ∧
        InR ((List.getD r0b (Int.toNat (Int.tmod ((r0p + 1) - 1) (r0b.length : Int))) (0 : Int)) * 131) ∧
        InR (((r0p + 1) - 1) * 7) ∧
        InR ((((r0p + 1) - 1) * 7) + 3) ∧
        ((r0b.length : Int) ≠ 0) ∧
        (0 ≤ (Int.tmod ((((r0p + 1) - 1) * 7) + 3) (r0b.length : Int)) ∧ (Int.tmod ((((r0p + 1) - 1) * 7) + 3) (r0b.length : Int)) < (r0b.length : Int)) ∧
        InR (List.getD r0b (Int.toNat (Int.tmod ((((r0p + 1) - 1) * 7) + 3) (r0b.length : Int))) (0 : Int)) ∧
        InR ((List.getD r0b (Int.toNat (Int.tmod ((((r0p + 1) - 1) * 7) + 3) (r0b.length : Int))) (0 : Int)) * 1117) ∧
        InR (((List.getD r0b (Int.toNat (Int.tmod ((r0p + 1) - 1) (r0b.length : Int))) (0 : Int)) * 131) + ((List.getD r0b (Int.toNat (Int.tmod ((((r0p + 1) - 1) * 7) + 3) (r0b.length : Int))) (0 : Int)) * 1117)) ∧
        InR (((r0p + 1) - 1) * 29) ∧
        InR ((((List.getD r0b (Int.toNat (Int.tmod ((r0p + 1) - 1) (r0b.length : Int))) (0 : Int)) * 131) + ((List.getD r0b (Int.toNat (Int.tmod ((((r0p + 1) - 1) * 7) + 3) (r0b.length : Int))) (0 : Int)) * 1117)) + (((r0p + 1) - 1) * 29)) ∧
        ((r0b.length : Int) ≠ 0 ∧ InR (Int.tdiv ((r0p + 1) - 1) (r0b.length : Int))) ∧
        InR ((Int.tdiv ((r0p + 1) - 1) (r0b.length : Int)) * 53) ∧
        InR (((((List.getD r0b (Int.toNat (Int.tmod ((r0p + 1) - 1) (r0b.length : Int))) (0 : Int)) * 131) + ((List.getD r0b (Int.toNat (Int.tmod ((((r0p + 1) - 1) * 7) + 3) (r0b.length : Int))) (0 : Int)) * 1117)) + (((r0p + 1) - 1) * 29)) + ((Int.tdiv ((r0p + 1) - 1) (r0b.length : Int)) * 53)) ∧
        ((64 : Int) ≠ 0 ∧ InR (Int.tdiv (((((List.getD r0b (Int.toNat (Int.tmod ((r0p + 1) - 1) (r0b.length : Int))) (0 : Int)) * 131) + ((List.getD r0b (Int.toNat (Int.tmod ((((r0p + 1) - 1) * 7) + 3) (r0b.length : Int))) (0 : Int)) * 1117)) + (((r0p + 1) - 1) * 29)) + ((Int.tdiv ((r0p + 1) - 1) (r0b.length : Int)) * 53)) 64)) ∧
        (n1 ≠ 0) ∧
        k (Int.tmod (IntKind.i64.wrap ((BitVec.ofInt 64 (((((List.getD r0b (Int.toNat (Int.tmod ((r0p + 1) - 1) (r0b.length : Int))) (0 : Int)) * 131) + ((List.getD r0b (Int.toNat (Int.tmod ((((r0p + 1) - 1) * 7) + 3) (r0b.length : Int))) (0 : Int)) * 1117)) + (((r0p + 1) - 1) * 29)) + ((Int.tdiv ((r0p + 1) - 1) (r0b.length : Int)) * 53)) ^^^ BitVec.ofInt 64 (Int.tdiv (((((List.getD r0b (Int.toNat (Int.tmod ((r0p + 1) - 1) (r0b.length : Int))) (0 : Int)) * 131) + ((List.getD r0b (Int.toNat (Int.tmod ((((r0p + 1) - 1) * 7) + 3) (r0b.length : Int))) (0 : Int)) * 1117)) + (((r0p + 1) - 1) * 29)) + ((Int.tdiv ((r0p + 1) - 1) (r0b.length : Int)) * 53)) 64)).toNat : Int)) n1) r0b (r0p + 1))))
def S_spec_reader_pick (r0b : List Int) (r0p : Int) (n1 : Int) (k : Int → List Int → Int → Prop) : Prop := G_spec_reader_pick r0b r0p n1 k
def F_spec_reader_pick (b : List Int) (p n : Int) (k : Int → List Int → Int → Prop) : Prop := (Bs b ∧ 0 ≤ p ∧ p ≤ 1000000000) ∧ ∀ x, Pk n x → k x b (p + 1)
theorem F_spec_reader_pick_S {b : List Int} {p n : Int} {k : Int → List Int → Int → Prop} (h : F_spec_reader_pick b p n k) : S_spec_reader_pick b p n k := by
  obtain ⟨⟨hb, h0, h1⟩, hk⟩ := h
  simp only [S_spec_reader_pick, G_spec_reader_pick, br_dec, br_beq]
  refine ⟨inR (by omega) (by omega), fun h2 => hk 0 (.inl ⟨h2, rfl⟩), fun h2 => ⟨fun h3 => hk 0 (.inr ⟨by omega, by omega⟩), fun h3 => ⟨inR (by omega) (by omega), ?_⟩⟩⟩
  have hlen := hb.1
  rw [show p + 1 - 1 = p by omega]
  refine ⟨fun h4 => ⟨⟨by omega, by omega⟩, ?_⟩, fun h4 => ?_⟩
  · have := hb.get (Int.toNat p)
    exact ⟨inR (by omega) (by omega), by omega, hk _ (.inr ⟨Int.tmod_nonneg _ this.1, Int.tmod_lt_of_pos _ (by omega)⟩)⟩
  · have hl : (0 : Int) < b.length := by omega
    have a1 := Int.tmod_nonneg (b.length : Int) h0
    have a2 := Int.tmod_lt_of_pos p hl
    have a3 := Int.tmod_nonneg (b.length : Int) (show (0 : Int) ≤ p * 7 + 3 by omega)
    have a4 := Int.tmod_lt_of_pos (p * 7 + 3) hl
    have a5 := hb.get (Int.toNat (Int.tmod p b.length))
    have a6 := hb.get (Int.toNat (Int.tmod (p * 7 + 3) b.length))
    have a7 : 0 ≤ Int.tdiv p b.length := Int.tdiv_nonneg h0 (by omega)
    have a8 : Int.tdiv p b.length ≤ p := Int.tdiv_le_self _ h0
    generalize List.getD b (Int.toNat (Int.tmod p b.length)) 0 = x at *
    generalize List.getD b (Int.toNat (Int.tmod (p * 7 + 3) b.length)) 0 = y at *
    generalize Int.tdiv p b.length = z at *
    have hsum : 0 ≤ x * 131 + y * 1117 + p * 29 + z * 53 ∧ x * 131 + y * 1117 + p * 29 + z * 53 ≤ 90000000000 := by omega
    have a9 : 0 ≤ Int.tdiv (x * 131 + y * 1117 + p * 29 + z * 53) 64 := Int.tdiv_nonneg hsum.1 (by omega)
    have a10 : Int.tdiv (x * 131 + y * 1117 + p * 29 + z * 53) 64 ≤ x * 131 + y * 1117 + p * 29 + z * 53 := Int.tdiv_le_self _ hsum.1
    refine ⟨by omega, ⟨by omega, by omega⟩, inR (by omega) (by omega), inR (by omega) (by omega), inR (by omega) (by omega), inR (by omega) (by omega), by omega, ⟨by omega, by omega⟩, inR (by omega) (by omega), inR (by omega) (by omega), inR (by omega) (by omega), inR (by omega) (by omega), inR (by omega) (by omega),
      ⟨by omega, inR (by omega) (by omega)⟩, inR (by omega) (by omega), inR (by omega) (by omega), ⟨by omega, inR (by omega) (by omega)⟩, by omega, hk _ (.inr ⟨?_, Int.tmod_lt_of_pos _ (by omega)⟩)⟩
    exact Int.tmod_nonneg _ (xor_nn _ _ hsum.1 (by omega) a9 (by omega))
-- (*spec.reader).one
def G_spec_reader_one (r0b : List Int) (r0p : Int) (list1 : List Int) (k : Int → List Int → Int → Prop) : Prop :=
  F_spec_reader_pick r0b r0p (list1.length : Int) fun pick9 opick9b opick9p =>
  (0 ≤ pick9 ∧ pick9 < (list1.length : Int)) ∧
  k (List.getD list1 (Int.toNat pick9) (0 : Int)) opick9b opick9p
def S_spec_reader_one (r0b : List Int) (r0p : Int) (list1 : List Int) (k : Int → List Int → Int → Prop) : Prop := G_spec_reader_one r0b r0p list1 k
def F_spec_reader_one (b : List Int) (p : Int) (l : List Int) (k : Int → List Int → Int → Prop) : Prop := (Bs b ∧ 0 ≤ p ∧ p ≤ 1000000000 ∧ 0 < l.length) ∧ ∀ x ∈ l, k x b (p + 1)
theorem F_spec_reader_one_S {b : List Int} {p : Int} {l : List Int} {k : Int → List Int → Int → Prop} (h : F_spec_reader_one b p l k) : S_spec_reader_one b p l k := by
  obtain ⟨⟨hb, h0, h1, h2⟩, hk⟩ := h
  refine ⟨⟨hb, h0, h1⟩, fun x hx => ?_⟩
  rcases hx with ⟨h3, _⟩ | ⟨h3, h4⟩
  · omega
  · have hlt : x.toNat < l.length := by omega
    have hx : l[x.toNat]? = some (l.getD x.toNat 0) := by simp [List.getD, hlt]
    exact ⟨⟨h3, h4⟩, hk _ (List.mem_of_getElem? hx)⟩
-- spec.copyInts
def G_spec_copyInts (list0 : List Int) (k : List Int → Prop) : Prop :=
  (0 + list0.length ≤ 1000000000) ∧
  k list0
def S_spec_copyInts (list0 : List Int) (k : List Int → Prop) : Prop := G_spec_copyInts list0 k
def F_spec_copyInts (l : List Int) (k : List Int → Prop) : Prop := l.length ≤ 1000000000 ∧ k l
theorem F_spec_copyInts_S {l : List Int} {k : List Int → Prop} (h : F_spec_copyInts l k) : S_spec_copyInts l k := ⟨by have := h.1; omega, h.2⟩
-- (*spec.reader).spoil
def G_spec_reader_spoil (r0b : List Int) (r0p : Int) (list1 : List Int) (n2 : Int) (k : List Int → List Int → Int → Prop) : Prop :=
  F_spec_copyInts list1 fun copyInts9 =>
  F_spec_reader_pick r0b r0p (20 : Int) fun pick11 opick11b opick11p =>
  br (pick11 == 0)
  ((copyInts9.length + 1 ≤ 1000000000) ∧
    k (copyInts9 ++ ([n2] : List Int)) opick11b opick11p)
  (br (pick11 == 1)
    (br (decide ((copyInts9.length : Int) > 0))
      ((0 ≤ (1 : Int) ∧ 1 ≤ (copyInts9.length : Int)) ∧
        k (List.take (copyInts9.length - 1) (List.drop 1 copyInts9)) opick11b opick11p)
      (k copyInts9 opick11b opick11p))
    (br (pick11 == 2)
      (br (decide ((copyInts9.length : Int) > 0))
        (F_spec_reader_pick opick11b opick11p (copyInts9.length : Int) fun pick34 opick34b opick34p =>
          F_spec_reader_one opick34b opick34p ([(-1), n2, 0, 1] : List Int) fun one38 oone38b oone38p =>
          (0 ≤ pick34 ∧ pick34 < (copyInts9.length : Int)) ∧
          k (List.set copyInts9 (Int.toNat pick34) one38) oone38b oone38p)
        (k copyInts9 opick11b opick11p))
      (k copyInts9 opick11b opick11p)))
def S_spec_reader_spoil (r0b : List Int) (r0p : Int) (list1 : List Int) (n2 : Int) (k : List Int → List Int → Int → Prop) : Prop := G_spec_reader_spoil r0b r0p list1 n2 k
def F_spec_reader_spoil (b : List Int) (p : Int) (l : List Int) (n : Int) (k : List Int → List Int → Int → Prop) : Prop :=
  (Bs b ∧ 0 ≤ p ∧ p ≤ 100000000 ∧ l.length ≤ 100000000) ∧ ∀ r p', r.length ≤ l.length + 1 → p ≤ p' → p' ≤ p + 10 → k r b p'
theorem F_spec_reader_spoil_S {b : List Int} {p : Int} {l : List Int} {n : Int} {k : List Int → List Int → Int → Prop} (h : F_spec_reader_spoil b p l n k) : S_spec_reader_spoil b p l n k := by
  obtain ⟨⟨hb, h0, h1, h2⟩, hk⟩ := h
  refine ⟨by omega, ⟨hb, h0, by omega⟩, fun x hx => br_beq.2 ⟨fun _ => ⟨by omega, hk _ _ (by simp) (by omega) (by omega)⟩, fun _ => br_beq.2 ⟨fun _ => br_dec.2 ⟨fun h3 => ⟨⟨by omega, by omega⟩, hk _ _ (by simp; omega) (by omega) (by omega)⟩, fun _ => hk _ _ (by omega) (by omega) (by omega)⟩, fun _ => br_beq.2 ⟨fun _ => br_dec.2 ⟨fun h3 => ?_, fun _ => hk _ _ (by omega) (by omega) (by omega)⟩, fun _ => hk _ _ (by omega) (by omega) (by omega)⟩⟩⟩⟩
  refine ⟨⟨hb, by omega, by omega⟩, fun y hy => ⟨⟨hb, by omega, by omega, by simp⟩, fun z hz => ⟨?_, hk _ _ (by simp) (by omega) (by omega)⟩⟩⟩
  rcases hy with ⟨h4, _⟩ | h4
  · omega
  · exact h4
-- spec.someTrace
def T0_spec_someTrace (one10 : Int) (xn5 : Int) (xb100000c0 : List Int) (xb100000c1 : Int) (xout3 : List Int) (k : List Int → List Int → Int → Prop) (B0 : Int → List Int → Int → List Int → Prop) : Prop :=
  br (decide (xn5 > 0))
  (F_spec_reader_pick xb100000c0 xb100000c1 one10 fun pick20 opick20b opick20p =>
    br (decide ((xout3.length : Int) > 0))
    (F_spec_reader_pick opick20b opick20p (6 : Int) fun pick26 opick26b opick26p =>
      br (pick26 == 0)
      (InR ((xout3.length : Int) - 1) ∧
        (0 ≤ ((xout3.length : Int) - 1) ∧ ((xout3.length : Int) - 1) < (xout3.length : Int)) ∧
        (xout3.length + 1 ≤ 1000000000) ∧
        InR (xn5 - 1) ∧
        B0 (xn5 - 1) opick26b opick26p (xout3 ++ ([(List.getD xout3 (Int.toNat ((xout3.length : Int) - 1)) (0 : Int))] : List Int)))
      ((xout3.length + 1 ≤ 1000000000) ∧
        InR (xn5 - 1) ∧
        B0 (xn5 - 1) opick26b opick26p (xout3 ++ ([pick20] : List Int))))
    ((xout3.length + 1 ≤ 1000000000) ∧
      InR (xn5 - 1) ∧
      B0 (xn5 - 1) opick20b opick20p (xout3 ++ ([pick20] : List Int))))
  (F_spec_reader_pick xb100000c0 xb100000c1 (24 : Int) fun pick40 opick40b opick40p =>
    br (pick40 == 0)
    ((xout3.length + 1 ≤ 1000000000) ∧
      F_spec_reader_spoil opick40b opick40p (xout3 ++ ([3] : List Int)) (32 : Int) fun spoil47 ospoil47b ospoil47p =>
      k spoil47 ospoil47b ospoil47p)
    (br (pick40 == 1)
      ((xout3.length + xout3.length ≤ 1000000000) ∧
        ((List.length (xout3 ++ xout3)) + 1 ≤ 1000000000) ∧
        k ((xout3 ++ xout3) ++ ([1] : List Int)) opick40b opick40p)
      (k xout3 opick40b opick40p)))
def L0_spec_someTrace (one10 : Int) (k : List Int → List Int → Int → Prop) : Nat → Int → List Int → Int → List Int → Prop
  | 0, _, _, _, _ => False
  | n + 1, xn5, xb100000c0, xb100000c1, xout3 => T0_spec_someTrace one10 xn5 xb100000c0 xb100000c1 xout3 k (L0_spec_someTrace one10 k n)
def G_spec_someTrace (r0b : List Int) (r0p : Int) (I0 : Int → Int → List Int → Int → List Int → Prop) : Prop :=
  F_spec_reader_one r0b r0p ([4, 6, 3, 10, 2, 32] : List Int) fun one10 oone10b oone10p =>
  F_spec_reader_one oone10b oone10p ([8, 12, 16, 20, 24, 3, 1, 0] : List Int) fun one13 oone13b oone13p =>
  I0 one10 one13 oone13b oone13p ([] : List Int)
def S_spec_someTrace (r0b : List Int) (r0p : Int) (k : List Int → List Int → Int → Prop) : Prop := G_spec_someTrace r0b r0p (fun one10 xn5 xb100000c0 xb100000c1 xout3 => ∃ j, L0_spec_someTrace one10 k j xn5 xb100000c0 xb100000c1 xout3)
def F_spec_someTrace (b : List Int) (p : Int) (k : List Int → List Int → Int → Prop) : Prop :=
  (Bs b ∧ 0 ≤ p ∧ p ≤ 10000000) ∧ ∀ t p', t.length ≤ 100 → p ≤ p' → p' ≤ p + 200 → k t b p'
theorem F_spec_someTrace_S {b : List Int} {p : Int} {k : List Int → List Int → Int → Prop} (h : F_spec_someTrace b p k) : S_spec_someTrace b p k := by
  obtain ⟨⟨hb, h0, h1⟩, hk⟩ := h
  refine ⟨⟨hb, by omega, by omega, by simp⟩, fun many hm => ⟨⟨hb, by omega, by omega, by simp⟩, fun n hn => ?_⟩⟩
  have key : ∀ (d : Nat) (q : Int) (out : List Int), out.length + d ≤ 30 → p ≤ q → q + 2 * d ≤ p + 80 → L0_spec_someTrace many k (d + 1) (d : Int) b q out := by
    intro d
    induction d with
    | zero =>
      intro q out g0 g1 g2
      rw [L0_spec_someTrace, T0_spec_someTrace]
      refine br_dec.2 ⟨fun h => by omega, fun _ => ⟨⟨hb, by omega, by omega⟩, fun x hx => br_beq.2 ⟨fun _ => ⟨by omega, ⟨hb, by omega, by omega, by simp; omega⟩, fun r p' r1 r2 r3 => hk _ _ (by simp at r1; omega) (by omega) (by omega)⟩, fun _ => br_beq.2 ⟨fun _ => ⟨by omega, by simp; omega, hk _ _ (by simp; omega) (by omega) (by omega)⟩, fun _ => hk _ _ (by omega) (by omega) (by omega)⟩⟩⟩⟩
    | succ d ih =>
      intro q out g0 g1 g2
      rw [L0_spec_someTrace, T0_spec_someTrace]
      have e : ((d + 1 : Nat) : Int) - 1 = (d : Int) := by omega
      refine br_dec.2 ⟨fun _ => ⟨⟨hb, by omega, by omega⟩, fun x hx => br_dec.2 ⟨fun _ => ⟨⟨hb, by omega, by omega⟩, fun y hy => br_beq.2 ⟨fun _ => ⟨inR (by omega) (by omega), ⟨by omega, by omega⟩, by omega, inR (by omega) (by omega), ?_⟩, fun _ => ⟨by omega, inR (by omega) (by omega), ?_⟩⟩⟩, fun _ => ⟨by omega, inR (by omega) (by omega), ?_⟩⟩⟩, fun h => by omega⟩
      all_goals
        rw [e]
        exact ih _ _ (by simp; omega) (by omega) (by omega)
  simp only [List.mem_cons, List.not_mem_nil, or_false] at hn
  refine ⟨n.toNat + 1, ?_⟩
  have := key n.toNat (p + 1 + 1) [] (by simp; omega) (by omega) (by omega)
  rwa [Int.toNat_of_nonneg (by omega)] at this
-- spec.someRoom
def G_spec_someRoom (r0b : List Int) (r0p : Int) (k : Int → List Int → Int → Prop) : Prop :=
  F_spec_reader_one r0b r0p ([2, 3, 4, 1, 8, 5, 2, 3, 0, 9] : List Int) fun one5 oone5b oone5p =>
  k one5 oone5b oone5p
def S_spec_someRoom (r0b : List Int) (r0p : Int) (k : Int → List Int → Int → Prop) : Prop := G_spec_someRoom r0b r0p k
abbrev F_spec_someRoom (r0b : List Int) (r0p : Int) (k : Int → List Int → Int → Prop) : Prop := S_spec_someRoom r0b r0p k
theorem F_spec_someRoom_S {r0b : List Int} {r0p : Int} {k : Int → List Int → Int → Prop} (h : F_spec_someRoom r0b r0p k) : S_spec_someRoom r0b r0p k := h
-- spec.DrawRunRecent
def G_spec_DrawRunRecent (code0 : List Int) (k : List Int → Int → Prop) : Prop :=
  F_spec_newReader code0 fun newReader7b newReader7p =>
  F_spec_someTrace newReader7b newReader7p fun someTrace9 osomeTrace9b osomeTrace9p =>
  F_spec_someRoom osomeTrace9b osomeTrace9p fun someRoom12 osomeRoom12b osomeRoom12p =>
  k someTrace9 someRoom12
def S_spec_DrawRunRecent (code0 : List Int) (k : List Int → Int → Prop) : Prop := G_spec_DrawRunRecent code0 k
def F_spec_DrawRunRecent (code : List Int) (k : List Int → Int → Prop) : Prop :=
  (∀ x ∈ code, 0 ≤ x ∧ x ≤ 255) ∧ ∀ t room, t.length ≤ 100 → k t room
theorem F_spec_DrawRunRecent_S {code : List Int} {k : List Int → Int → Prop} (h : F_spec_DrawRunRecent code k) : S_spec_DrawRunRecent code k :=
  ⟨h.1, fun b hb => ⟨⟨hb, by omega, by omega⟩, fun t p' l1 _ _ => ⟨⟨hb, by omega, by omega, by simp⟩, fun r _ => h.2 t r l1⟩⟩⟩
-- spec.DrawRunFirst
def G_spec_DrawRunFirst (code0 : List Int) (k : List Int → Int → Prop) : Prop :=
  F_spec_DrawRunRecent code0 fun drawRunRecent5r0 drawRunRecent5r1 =>
  k drawRunRecent5r0 drawRunRecent5r1
def S_spec_DrawRunFirst (code0 : List Int) (k : List Int → Int → Prop) : Prop := G_spec_DrawRunFirst code0 k
def F_spec_DrawRunFirst (code : List Int) (k : List Int → Int → Prop) : Prop :=
  (∀ x ∈ code, 0 ≤ x ∧ x ≤ 255) ∧ ∀ t room, t.length ≤ 100 → k t room
theorem F_spec_DrawRunFirst_S {code : List Int} {k : List Int → Int → Prop} (h : F_spec_DrawRunFirst code k) : S_spec_DrawRunFirst code k := h
-- impl.validKey
def G_impl_validKey (key0 : Int) (k : Bool → Prop) : Prop :=
  br (decide (0 ≤ key0))
  (k (decide (key0 ≤ 31)))
  (k false)
def S_impl_validKey (key0 : Int) (k : Bool → Prop) : Prop := G_impl_validKey key0 k
def F_impl_validKey (n : Int) (k : Bool → Prop) : Prop := k (decide (0 ≤ n ∧ n ≤ 31))
theorem F_impl_validKey_S {n : Int} {k : Bool → Prop} (h : F_impl_validKey n k) : S_impl_validKey n k := by
  unfold F_impl_validKey at h
  simp only [S_impl_validKey, G_impl_validKey, br_dec]
  refine ⟨fun h1 => ?_, fun h1 => ?_⟩
  · simpa [h1] using h
  · simpa [h1] using h
-- impl.ValidTrace
def T0_impl_ValidTrace (t0 : List Int) (xt9 : Int) (xt10 : Int) (k : Bool → Prop) (B0 : Int → Prop) : Prop :=
  br (decide (xt10 < xt9))
  ((0 ≤ xt10 ∧ xt10 < (t0.length : Int)) ∧
    F_impl_validKey (List.getD t0 (Int.toNat xt10) (0 : Int)) fun validKey15 =>
    br (!validKey15)
    (k false)
    (InR (xt10 + 1) ∧
      B0 (xt10 + 1)))
  (k true)
def L0_impl_ValidTrace (t0 : List Int) (xt9 : Int) (k : Bool → Prop) : Nat → Int → Prop
  | 0, _ => False
  | n + 1, xt10 => T0_impl_ValidTrace t0 xt9 xt10 k (L0_impl_ValidTrace t0 xt9 k n)
def G_impl_ValidTrace (t0 : List Int) (k : Bool → Prop) (I0 : List Int → Int → Int → Prop) : Prop :=
  br (decide ((t0.length : Int) > 24))
  (k false)
  (I0 t0 (t0.length : Int) 0)
def S_impl_ValidTrace (t0 : List Int) (k : Bool → Prop) : Prop := G_impl_ValidTrace t0 k (fun t0 xt9 xt10 => ∃ j, L0_impl_ValidTrace t0 xt9 k j xt10)
def F_impl_ValidTrace (t : List Int) (k : Bool → Prop) : Prop := ∀ b : Bool, (b = true ↔ VTrace t) → k b
theorem F_impl_ValidTrace_S {t : List Int} {k : Bool → Prop} (h : F_impl_ValidTrace t k) : S_impl_ValidTrace t k := by
  have hno : ¬ VTrace t → k false := fun hv => h false (by simp [hv])
  have key : t.length ≤ 24 → ∀ (r : List Int) (i : Nat), t.drop i = r → (∀ x ∈ t.take i, 0 ≤ x ∧ x ≤ 31) → L0_impl_ValidTrace t (t.length : Int) k (r.length + 1) (i : Int) := by
    intro hl r
    induction r with
    | nil =>
      intro i hd he
      have := drop_nil' hd
      rw [List.take_of_length_le this] at he
      rw [L0_impl_ValidTrace, T0_impl_ValidTrace]
      simp only [br_dec]
      exact ⟨fun h => by omega, fun _ => h true (by simp only [true_iff]; exact ⟨hl, he⟩)⟩
    | cons x r ih =>
      intro i hd he
      obtain ⟨h1, h2, h5, h3, h4⟩ := drop_cons' hd
      rw [List.length_cons, L0_impl_ValidTrace, T0_impl_ValidTrace]
      simp only [br_dec, F_impl_validKey, Int.toNat_natCast, h2, br_not]
      refine ⟨fun _ => ⟨⟨by omega, by omega⟩, fun hx => ⟨inR (by omega) (by omega), ih (i + 1) h3 ?_⟩, fun hx => hno fun v => hx (v.2 x (List.mem_of_getElem? h5))⟩, fun h => by omega⟩
      rw [h4]; intro y hy
      rcases List.mem_append.1 hy with hy | hy
      · exact he y hy
      · simp at hy; subst hy; exact hx
  exact br_dec.2 ⟨fun h3 => hno fun v => by have := v.1; omega, fun h3 => ⟨_, key (by omega) t 0 rfl (by simp)⟩⟩
-- impl.validRoom
def G_impl_validRoom (room0 : Int) (k : Bool → Prop) : Prop :=
  br (decide (1 ≤ room0))
  (k (decide (room0 ≤ 8)))
  (k false)
def S_impl_validRoom (room0 : Int) (k : Bool → Prop) : Prop := G_impl_validRoom room0 k
def F_impl_validRoom (n : Int) (k : Bool → Prop) : Prop := k (decide (1 ≤ n ∧ n ≤ 8))
theorem F_impl_validRoom_S {n : Int} {k : Bool → Prop} (h : F_impl_validRoom n k) : S_impl_validRoom n k := by
  unfold F_impl_validRoom at h
  simp only [S_impl_validRoom, G_impl_validRoom, br_dec]
  refine ⟨fun h1 => ?_, fun h1 => ?_⟩
  · simpa [h1] using h
  · simpa [h1] using h
-- slices.Index[[]int,int]
def T0_slices_Index_sint_int (s0 : List Int) (v1 : Int) (xt7 : Int) (xt8 : Int) (k : Int → Prop) (B0 : Int → Prop) : Prop :=
  br (decide (xt8 < xt7))
  ((0 ≤ xt8 ∧ xt8 < (s0.length : Int)) ∧
    br (v1 == (List.getD s0 (Int.toNat xt8) (0 : Int)))
    (k xt8)
    (InR (xt8 + 1) ∧
      B0 (xt8 + 1)))
  (k (-1))
def L0_slices_Index_sint_int (s0 : List Int) (v1 : Int) (xt7 : Int) (k : Int → Prop) : Nat → Int → Prop
  | 0, _ => False
  | n + 1, xt8 => T0_slices_Index_sint_int s0 v1 xt7 xt8 k (L0_slices_Index_sint_int s0 v1 xt7 k n)
def G_slices_Index_sint_int (s0 : List Int) (v1 : Int) (I0 : List Int → Int → Int → Int → Prop) : Prop :=
  I0 s0 v1 (s0.length : Int) 0
def S_slices_Index_sint_int (s0 : List Int) (v1 : Int) (k : Int → Prop) : Prop := G_slices_Index_sint_int s0 v1 (fun s0 v1 xt7 xt8 => ∃ j, L0_slices_Index_sint_int s0 v1 xt7 k j xt8)
def F_slices_Index_sint_int (l : List Int) (n : Int) (k : Int → Prop) : Prop := l.length ≤ 1000000000 ∧ k (plc l n)
theorem F_slices_Index_sint_int_S {l : List Int} {n : Int} {k : Int → Prop} (h : F_slices_Index_sint_int l n k) : S_slices_Index_sint_int l n k := by
  obtain ⟨hl, hk⟩ := h
  have key : ∀ (r : List Int) (i : Nat), l.drop i = r → plcF r n i = plc l n → L0_slices_Index_sint_int l n (l.length : Int) k (r.length + 1) (i : Int) := by
    intro r
    induction r with
    | nil =>
      intro i hd he
      have := drop_nil' hd
      rw [L0_slices_Index_sint_int, T0_slices_Index_sint_int]
      simp only [br_dec]
      exact ⟨fun h => by omega, fun _ => by rw [show (-1 : Int) = plc l n from he]; exact hk⟩
    | cons x r ih =>
      intro i hd he
      obtain ⟨h1, h2, _, h3, _⟩ := drop_cons' hd
      rw [List.length_cons, L0_slices_Index_sint_int, T0_slices_Index_sint_int]
      simp only [br_dec, br_beq, Int.toNat_natCast, h2]
      refine ⟨fun _ => ⟨⟨by omega, by omega⟩, fun hx => ?_, fun hx => ⟨inR (by omega) (by omega), ?_⟩⟩, fun h => by omega⟩
      · simp only [plcF, if_pos hx.symm] at he; rw [he]; exact hk
      · simp only [plcF, if_neg (Ne.symm hx)] at he; exact ih (i + 1) h3 he
  exact ⟨_, key l 0 rfl rfl⟩
-- slices.Contains[[]int,int]
def G_slices_Contains_sint_int (s0 : List Int) (v1 : Int) (k : Bool → Prop) : Prop :=
  F_slices_Index_sint_int s0 v1 fun index7 =>
  k (decide (index7 ≥ 0))
def S_slices_Contains_sint_int (s0 : List Int) (v1 : Int) (k : Bool → Prop) : Prop := G_slices_Contains_sint_int s0 v1 k
def F_slices_Contains_sint_int (l : List Int) (n : Int) (k : Bool → Prop) : Prop := l.length ≤ 1000000000 ∧ k (decide (n ∈ l))
theorem F_slices_Contains_sint_int_S {l : List Int} {n : Int} {k : Bool → Prop} (h : F_slices_Contains_sint_int l n k) : S_slices_Contains_sint_int l n k := by
  refine ⟨h.1, ?_⟩
  have : decide (plc l n ≥ 0) = decide (n ∈ l) := decide_eq_decide.2 plc_ge
  show k (decide (plc l n ≥ 0))
  rw [this]; exact h.2
-- impl.differentKeys
def T0_impl_differentKeys (list0 : List Int) (xt6 : Int) (xt7 : Int) (k : Bool → Prop) (B0 : Int → Prop) : Prop :=
  br (decide (xt7 < xt6))
  ((0 ≤ xt7 ∧ xt7 < (list0.length : Int)) ∧
    F_impl_validKey (List.getD list0 (Int.toNat xt7) (0 : Int)) fun validKey13 =>
    br (!validKey13)
    (k false)
    ((0 ≤ xt7 ∧ xt7 ≤ (list0.length : Int)) ∧
      F_slices_Contains_sint_int (List.take (Int.toNat xt7) list0) (List.getD list0 (Int.toNat xt7) (0 : Int)) fun contains20 =>
      br contains20
      (k false)
      (InR (xt7 + 1) ∧
        B0 (xt7 + 1))))
  (k true)
def L0_impl_differentKeys (list0 : List Int) (xt6 : Int) (k : Bool → Prop) : Nat → Int → Prop
  | 0, _ => False
  | n + 1, xt7 => T0_impl_differentKeys list0 xt6 xt7 k (L0_impl_differentKeys list0 xt6 k n)
def G_impl_differentKeys (list0 : List Int) (I0 : List Int → Int → Int → Prop) : Prop :=
  I0 list0 (list0.length : Int) 0
def S_impl_differentKeys (list0 : List Int) (k : Bool → Prop) : Prop := G_impl_differentKeys list0 (fun list0 xt6 xt7 => ∃ j, L0_impl_differentKeys list0 xt6 k j xt7)
def F_impl_differentKeys (l : List Int) (k : Bool → Prop) : Prop := l.length ≤ 1000000000 ∧ ∀ b : Bool, (b = true ↔ (∀ x ∈ l, 0 ≤ x ∧ x ≤ 31) ∧ l.Nodup) → k b
theorem F_impl_differentKeys_S {l : List Int} {k : Bool → Prop} (h : F_impl_differentKeys l k) : S_impl_differentKeys l k := by
  obtain ⟨hl, h⟩ := h
  have hno : ¬ ((∀ x ∈ l, 0 ≤ x ∧ x ≤ 31) ∧ l.Nodup) → k false := fun hv => h false (by simp only [Bool.false_eq_true, false_iff]; exact hv)
  have key : ∀ (r : List Int) (i : Nat), l.drop i = r → (∀ x ∈ l.take i, 0 ≤ x ∧ x ≤ 31) → (l.take i).Nodup → L0_impl_differentKeys l (l.length : Int) k (r.length + 1) (i : Int) := by
    intro r
    induction r with
    | nil =>
      intro i hd he hn
      have := drop_nil' hd
      rw [List.take_of_length_le this] at he hn
      rw [L0_impl_differentKeys, T0_impl_differentKeys]
      simp only [br_dec]
      exact ⟨fun h => by omega, fun _ => h true (by simp only [true_iff]; exact ⟨he, hn⟩)⟩
    | cons x r ih =>
      intro i hd he hn
      obtain ⟨h1, h2, h5, h3, h4⟩ := drop_cons' hd
      rw [List.length_cons, L0_impl_differentKeys, T0_impl_differentKeys]
      simp only [br_dec, F_impl_validKey, F_slices_Contains_sint_int, Int.toNat_natCast, h2, br_not]
      have hxl : x ∈ l := List.mem_of_getElem? h5
      refine ⟨fun _ => ⟨⟨by omega, by omega⟩, fun hx => ⟨⟨by omega, by omega⟩, by simp; omega, fun hc => ?_, fun hc => ⟨inR (by omega) (by omega), ?_⟩⟩, fun hx => hno fun v => hx (v.1 x hxl)⟩, fun h => by omega⟩
      · refine hno fun v => ?_
        have hn2 := v.2
        rw [← List.take_append_drop i l, hd] at hn2
        exact (List.nodup_append.1 hn2).2.2 x hc x (by simp) rfl
      · refine ih (i + 1) h3 ?_ ?_
        · rw [h4]; intro y hy
          rcases List.mem_append.1 hy with hy | hy
          · exact he y hy
          · simp at hy; subst hy; exact hx
        · rw [h4, List.nodup_append]
          refine ⟨hn, by simp, fun a ha b hb e => ?_⟩
          simp at hb; subst hb; subst e; exact hc ha
  exact ⟨_, key l 0 rfl (by simp) (by simp)⟩
-- impl.ValidKeys
def G_impl_ValidKeys (list0 : List Int) (room1 : Int) (k : Bool → Prop) : Prop :=
  F_impl_validRoom room1 fun validRoom6 =>
  br validRoom6
  (br (decide ((list0.length : Int) ≤ room1))
    (F_impl_differentKeys list0 fun differentKeys15 =>
      k differentKeys15)
    (k false))
  (k false)
def S_impl_ValidKeys (list0 : List Int) (room1 : Int) (k : Bool → Prop) : Prop := G_impl_ValidKeys list0 room1 k
def F_impl_ValidKeys (l : List Int) (room : Int) (k : Bool → Prop) : Prop := ∀ b : Bool, (b = true ↔ VKeys l room) → k b
theorem F_impl_ValidKeys_S {l : List Int} {room : Int} {k : Bool → Prop} (h : F_impl_ValidKeys l room k) : S_impl_ValidKeys l room k := by
  have hno : ¬ VKeys l room → k false := fun hv => h false (by simp [hv])
  refine br_dec.2 ⟨fun h1 => br_dec.2 ⟨fun h3 => ⟨by omega, fun b hb => h b ?_⟩, fun h3 => hno fun v => by have := v.2.2.1; omega⟩, fun h1 => hno fun v => h1 ⟨v.1, v.2.1⟩⟩
  rw [hb]
  exact ⟨fun g => ⟨h1.1, h1.2, h3, g.1, g.2⟩, fun v => v.2.2.2⟩
-- impl.UseFirst
def G_impl_UseFirst (list0 : List Int) (room1 : Int) (key2 : Int) (k : List Int → Bool → Prop) : Prop :=
  F_impl_ValidKeys list0 room1 fun validKeys11 =>
  br (!validKeys11)
  (k ([] : List Int) false)
  (F_impl_validKey key2 fun validKey15 =>
    br (!validKey15)
    (k ([] : List Int) false)
    ((0 + list0.length ≤ 1000000000) ∧
      F_slices_Contains_sint_int list0 key2 fun contains23 =>
      br contains23
      (k list0 true)
      ((list0.length + 1 ≤ 1000000000) ∧
        InR (((List.length (list0 ++ ([key2] : List Int))) : Int) - room1) ∧
        (0 ≤ (if (((List.length (list0 ++ ([key2] : List Int))) : Int) - room1) < 0 then (0 : Int) else (((List.length (list0 ++ ([key2] : List Int))) : Int) - room1)) ∧ (if (((List.length (list0 ++ ([key2] : List Int))) : Int) - room1) < 0 then (0 : Int) else (((List.length (list0 ++ ([key2] : List Int))) : Int) - room1)) ≤ ((List.length (list0 ++ ([key2] : List Int))) : Int)) ∧
        k (List.take ((List.length (list0 ++ ([key2] : List Int))) - (Int.toNat (if (((List.length (list0 ++ ([key2] : List Int))) : Int) - room1) < 0 then (0 : Int) else (((List.length (list0 ++ ([key2] : List Int))) : Int) - room1)))) (List.drop (Int.toNat (if (((List.length (list0 ++ ([key2] : List Int))) : Int) - room1) < 0 then (0 : Int) else (((List.length (list0 ++ ([key2] : List Int))) : Int) - room1))) (list0 ++ ([key2] : List Int)))) false)))
def S_impl_UseFirst (list0 : List Int) (room1 : Int) (key2 : Int) (k : List Int → Bool → Prop) : Prop := G_impl_UseFirst list0 room1 key2 k
def F_impl_UseFirst (l : List Int) (room key : Int) (k : List Int → Bool → Prop) : Prop :=
  (VKeys l room ∧ 0 ≤ key ∧ key ≤ 31 → k (firM l room key) (decide (key ∈ l))) ∧ (¬ (VKeys l room ∧ 0 ≤ key ∧ key ≤ 31) → k [] false)
theorem F_impl_UseFirst_S {l : List Int} {room key : Int} {k : List Int → Bool → Prop} (h : F_impl_UseFirst l room key k) : S_impl_UseFirst l room key k := by
  obtain ⟨hyes, hno⟩ := h
  intro b hb
  rw [br_not, br_iff]
  refine ⟨fun e => br_not.2 (br_dec.2 ⟨fun hkey => ?_, fun hkey => hno fun w => hkey w.2⟩), fun e => hno fun w => by rw [hb.2 w.1] at e; cases e⟩
  have v := hb.1 e
  have hk := hyes ⟨v, hkey⟩
  obtain ⟨v1, v2, v3, v4, v5⟩ := v
  unfold firM at hk
  refine ⟨by omega, by omega, br_dec.2 ⟨fun hm => ?_, fun hm => ?_⟩⟩
  · rw [if_pos hm, decide_eq_true hm] at hk; exact hk
  · rw [if_neg hm, decide_eq_false hm] at hk
    have hlen : (l ++ [key]).length = l.length + 1 := by simp
    have hX : (if (((List.length (l ++ ([key] : List Int))) : Int) - room) < 0 then (0 : Int) else (((List.length (l ++ ([key] : List Int))) : Int) - room)).toNat = l.length + 1 - room.toNat := by
      rw [hlen]; split <;> omega
    refine ⟨by omega, inR (by omega) (by omega), ⟨?_, ?_⟩, ?_⟩
    · split <;> omega
    · split <;> omega
    · rw [hX, List.take_of_length_le (by simp)]; exact hk
-- impl.runTrace$1
def G_impl_runTrace_1_UseFirst (list0 : List Int) (key1 : Int) (cap1 : Int) (k : List Int → Bool → Prop) : Prop :=
  F_impl_UseFirst list0 cap1 key1 fun useFirst12r0 useFirst12r1 =>
  k useFirst12r0 useFirst12r1
def S_impl_runTrace_1_UseFirst (list0 : List Int) (key1 : Int) (cap1 : Int) (k : List Int → Bool → Prop) : Prop := G_impl_runTrace_1_UseFirst list0 key1 cap1 k
abbrev F_impl_runTrace_1_UseFirst (list0 : List Int) (key1 : Int) (cap1 : Int) (k : List Int → Bool → Prop) : Prop := S_impl_runTrace_1_UseFirst list0 key1 cap1 k
theorem F_impl_runTrace_1_UseFirst_S {list0 : List Int} {key1 : Int} {cap1 : Int} {k : List Int → Bool → Prop} (h : F_impl_runTrace_1_UseFirst list0 key1 cap1 k) : S_impl_runTrace_1_UseFirst list0 key1 cap1 k := h
-- impl.useAll[[]int]
def T0_impl_useAll_sint_runTrace_1_UseFirst (t0 : List Int) (use2c1 : Int) (xt14 : Int) (xhits8 : Int) (xt15 : Int) (xcache1 : List Int) (k : List Int → Int → Prop) (B0 : Int → Int → List Int → Prop) : Prop :=
  br (decide (xt15 < xt14))
  ((0 ≤ xt15 ∧ xt15 < (t0.length : Int)) ∧
    F_impl_runTrace_1_UseFirst xcache1 (List.getD t0 (Int.toNat xt15) (0 : Int)) use2c1 fun runTrace123r0 runTrace123r1 =>
    br runTrace123r1
    (InR (xhits8 + 1) ∧
      InR (xt15 + 1) ∧
      B0 (xhits8 + 1) (xt15 + 1) runTrace123r0)
    (InR (xt15 + 1) ∧
      B0 xhits8 (xt15 + 1) runTrace123r0))
  (k xcache1 xhits8)
def L0_impl_useAll_sint_runTrace_1_UseFirst (t0 : List Int) (use2c1 : Int) (xt14 : Int) (k : List Int → Int → Prop) : Nat → Int → Int → List Int → Prop
  | 0, _, _, _ => False
  | n + 1, xhits8, xt15, xcache1 => T0_impl_useAll_sint_runTrace_1_UseFirst t0 use2c1 xt14 xhits8 xt15 xcache1 k (L0_impl_useAll_sint_runTrace_1_UseFirst t0 use2c1 xt14 k n)
def G_impl_useAll_sint_runTrace_1_UseFirst (t0 : List Int) (cache1 : List Int) (use2c1 : Int) (I0 : List Int → Int → Int → Int → Int → List Int → Prop) : Prop :=
  I0 t0 use2c1 (t0.length : Int) 0 0 cache1
def S_impl_useAll_sint_runTrace_1_UseFirst (t0 : List Int) (cache1 : List Int) (use2c1 : Int) (k : List Int → Int → Prop) : Prop := G_impl_useAll_sint_runTrace_1_UseFirst t0 cache1 use2c1 (fun t0 use2c1 xt14 xhits8 xt15 xcache1 => ∃ j, L0_impl_useAll_sint_runTrace_1_UseFirst t0 use2c1 xt14 k j xhits8 xt15 xcache1)
def F_impl_useAll_sint_runTrace_1_UseFirst (t l : List Int) (room : Int) (k : List Int → Int → Prop) : Prop := (VTrace t ∧ VKeys l room) ∧ k (runF room t l 0).1 (runF room t l 0).2
theorem F_impl_useAll_sint_runTrace_1_UseFirst_S {t l : List Int} {room : Int} {k : List Int → Int → Prop} (h : F_impl_useAll_sint_runTrace_1_UseFirst t l room k) : S_impl_useAll_sint_runTrace_1_UseFirst t l room k := by
  obtain ⟨⟨⟨t1, t2⟩, v⟩, hk⟩ := h
  have key : ∀ (r : List Int) (i : Nat) (l : List Int) (n : Int), t.drop i = r → VKeys l room → 0 ≤ n → n ≤ i → k (runF room r l n).1 (runF room r l n).2 → L0_impl_useAll_sint_runTrace_1_UseFirst t room (t.length : Int) k (r.length + 1) n (i : Int) l := by
    intro r
    induction r with
    | nil =>
      intro i l n hdr v n0 n1 hk
      have := drop_nil' hdr
      rw [L0_impl_useAll_sint_runTrace_1_UseFirst, T0_impl_useAll_sint_runTrace_1_UseFirst]
      simp only [br_dec]
      exact ⟨fun h => by omega, fun _ => hk⟩
    | cons x r ih =>
      intro i l n hdr v n0 n1 hk
      obtain ⟨h1, h2, h5, h3, h4⟩ := drop_cons' hdr
      have hx := t2 x (List.mem_of_getElem? h5)
      rw [List.length_cons, L0_impl_useAll_sint_runTrace_1_UseFirst, T0_impl_useAll_sint_runTrace_1_UseFirst]
      simp only [br_dec, Int.toNat_natCast, h2]
      refine ⟨fun _ => ⟨⟨by omega, by omega⟩, fun _ => ?_, fun hv => absurd ⟨v, hx⟩ hv⟩, fun h => by omega⟩
      rw [runF] at hk
      show br (decide (x ∈ l)) _ _
      rw [br_iff]
      refine ⟨fun e => ⟨inR (by omega) (by omega), inR (by omega) (by omega), ?_⟩, fun e => ⟨inR (by omega) (by omega), ?_⟩⟩
      · rw [e] at hk
        exact ih (i + 1) _ _ h3 (firM_valid v hx) (by omega) (by omega) hk
      · rw [e] at hk
        rw [show n + toI false = n by simp [toI]] at hk
        exact ih (i + 1) _ _ h3 (firM_valid v hx) (by omega) (by omega) hk
  exact ⟨_, key t 0 l 0 rfl v (by omega) (by omega) hk⟩
-- impl.runTrace
def G_impl_runTrace_UseFirst (t0 : List Int) (room1 : Int) (k : List Int → Int → Prop) : Prop :=
  F_impl_ValidTrace t0 fun validTrace9 =>
  br (!validTrace9)
  (k ([] : List Int) (-1))
  (F_impl_validRoom room1 fun validRoom13 =>
    br (!validRoom13)
    (k ([] : List Int) (-1))
    (F_impl_useAll_sint_runTrace_1_UseFirst t0 ([] : List Int) room1 fun useAll19r0 useAll19r1 =>
      k useAll19r0 useAll19r1))
def S_impl_runTrace_UseFirst (t0 : List Int) (room1 : Int) (k : List Int → Int → Prop) : Prop := G_impl_runTrace_UseFirst t0 room1 k
def F_impl_runTrace_UseFirst (t : List Int) (room : Int) (k : List Int → Int → Prop) : Prop :=
  ((VTrace t ∧ 1 ≤ room ∧ room ≤ 8) → k (runF room t [] 0).1 (runF room t [] 0).2) ∧ (¬ (VTrace t ∧ 1 ≤ room ∧ room ≤ 8) → k [] (-1))
theorem F_impl_runTrace_UseFirst_S {t : List Int} {room : Int} {k : List Int → Int → Prop} (h : F_impl_runTrace_UseFirst t room k) : S_impl_runTrace_UseFirst t room k := by
  obtain ⟨hyes, hno⟩ := h
  intro b hb
  rw [br_not, br_iff]
  refine ⟨fun e => br_not.2 (br_dec.2 ⟨fun hr => ?_, fun hr => hno fun w => hr w.2⟩), fun e => hno fun v => by rw [hb.2 v.1] at e; cases e⟩
  have v := hb.1 e
  exact ⟨⟨v, keys0 hr⟩, hyes ⟨v, hr⟩⟩
-- impl.RunFirst
def G_impl_RunFirst (t0 : List Int) (room1 : Int) (k : List Int → Int → Prop) : Prop :=
  F_impl_runTrace_UseFirst t0 room1 fun runTrace8r0 runTrace8r1 =>
  k runTrace8r0 runTrace8r1
def S_impl_RunFirst (t0 : List Int) (room1 : Int) (k : List Int → Int → Prop) : Prop := G_impl_RunFirst t0 room1 k
def F_impl_RunFirst (t : List Int) (room : Int) (k : List Int → Int → Prop) : Prop :=
  ((VTrace t ∧ 1 ≤ room ∧ room ≤ 8) → k (runF room t [] 0).1 (runF room t [] 0).2) ∧ (¬ (VTrace t ∧ 1 ≤ room ∧ room ≤ 8) → k [] (-1))
theorem F_impl_RunFirst_S {t : List Int} {room : Int} {k : List Int → Int → Prop} (h : F_impl_RunFirst t room k) : S_impl_RunFirst t room k := h
-- spec.inRange
def G_spec_inRange (n0 : Int) (low1 : Int) (high2 : Int) (k : Bool → Prop) : Prop :=
  br (decide (low1 ≤ n0))
  (k (decide (n0 ≤ high2)))
  (k false)
def S_spec_inRange (n0 : Int) (low1 : Int) (high2 : Int) (k : Bool → Prop) : Prop := G_spec_inRange n0 low1 high2 k
def F_spec_inRange (n low high : Int) (k : Bool → Prop) : Prop := k (decide (low ≤ n ∧ n ≤ high))
theorem F_spec_inRange_S {n low high : Int} {k : Bool → Prop} (h : F_spec_inRange n low high k) : S_spec_inRange n low high k := by
  unfold F_spec_inRange at h
  simp only [S_spec_inRange, G_spec_inRange, br_dec]
  refine ⟨fun h1 => ?_, fun h1 => ?_⟩
  · simpa [h1] using h
  · simpa [h1] using h
-- spec.allIn
def T0_spec_allIn (high2 : Int) (list0 : List Int) (low1 : Int) (xi7 : Int) (k : Bool → Prop) (B0 : Int → Prop) : Prop :=
  br (decide (xi7 < (list0.length : Int)))
  ((0 ≤ xi7 ∧ xi7 < (list0.length : Int)) ∧
    F_spec_inRange (List.getD list0 (Int.toNat xi7) (0 : Int)) low1 high2 fun inRange20 =>
    br (!inRange20)
    (k false)
    (InR (xi7 + 1) ∧
      B0 (xi7 + 1)))
  (k true)
def L0_spec_allIn (high2 : Int) (list0 : List Int) (low1 : Int) (k : Bool → Prop) : Nat → Int → Prop
  | 0, _ => False
  | n + 1, xi7 => T0_spec_allIn high2 list0 low1 xi7 k (L0_spec_allIn high2 list0 low1 k n)
def G_spec_allIn (list0 : List Int) (low1 : Int) (high2 : Int) (I0 : Int → List Int → Int → Int → Prop) : Prop :=
  I0 high2 list0 low1 0
def S_spec_allIn (list0 : List Int) (low1 : Int) (high2 : Int) (k : Bool → Prop) : Prop := G_spec_allIn list0 low1 high2 (fun high2 list0 low1 xi7 => ∃ j, L0_spec_allIn high2 list0 low1 k j xi7)
def F_spec_allIn (l : List Int) (low high : Int) (k : Bool → Prop) : Prop := l.length ≤ 1000000000 ∧ k (decide (∀ x ∈ l, low ≤ x ∧ x ≤ high))
theorem F_spec_allIn_S {l : List Int} {low high : Int} {k : Bool → Prop} (h : F_spec_allIn l low high k) : S_spec_allIn l low high k := by
  obtain ⟨hl, hk⟩ := h
  have key : ∀ (r : List Int) (i : Nat), l.drop i = r → ((∀ x ∈ r, low ≤ x ∧ x ≤ high) ↔ (∀ x ∈ l, low ≤ x ∧ x ≤ high)) → L0_spec_allIn high l low k (r.length + 1) (i : Int) := by
    intro r
    induction r with
    | nil =>
      intro i hd he
      have := drop_nil' hd
      rw [L0_spec_allIn, T0_spec_allIn]
      simp only [br_dec]
      refine ⟨fun h => by omega, fun _ => ?_⟩
      rwa [decide_eq_true (he.1 (by simp))] at hk
    | cons x r ih =>
      intro i hd he
      obtain ⟨h1, h2, _, h3, _⟩ := drop_cons' hd
      rw [List.length_cons, L0_spec_allIn, T0_spec_allIn]
      simp only [br_dec, F_spec_inRange, br_not, Int.toNat_natCast, h2]
      refine ⟨fun _ => ⟨⟨by omega, by omega⟩, fun hx => ⟨inR (by omega) (by omega), ?_⟩, fun hx => ?_⟩, fun h => by omega⟩
      · refine ih (i + 1) h3 (Iff.trans ?_ he)
        simp only [List.mem_cons, forall_eq_or_imp]
        exact ⟨fun h => ⟨hx, h⟩, fun h => h.2⟩
      · rwa [decide_eq_false (fun h => hx (he.2 h x (by simp)))] at hk
  exact ⟨_, key l 0 rfl Iff.rfl⟩
-- spec.validTrace
def G_spec_validTrace (t0 : List Int) (k : Bool → Prop) : Prop :=
  br (decide ((t0.length : Int) ≤ 24))
  (F_spec_allIn t0 (0 : Int) (31 : Int) fun allIn8 =>
    k allIn8)
  (k false)
def S_spec_validTrace (t0 : List Int) (k : Bool → Prop) : Prop := G_spec_validTrace t0 k
def F_spec_validTrace (t : List Int) (k : Bool → Prop) : Prop := ∀ b : Bool, (b = true ↔ VTrace t) → k b
theorem F_spec_validTrace_S {t : List Int} {k : Bool → Prop} (h : F_spec_validTrace t k) : S_spec_validTrace t k :=
  br_dec.2 ⟨fun h1 => ⟨by omega, h _ (by simp only [decide_eq_true_eq]; exact ⟨fun h2 => ⟨by omega, h2⟩, fun v => v.2⟩)⟩, fun h1 => h false (by simp only [Bool.false_eq_true, false_iff]; exact fun v => h1 (by have := v.1; omega))⟩
-- spec.placeOf
def T0_spec_placeOf (list0 : List Int) (n1 : Int) (xi5 : Int) (k : Int → Prop) (B0 : Int → Prop) : Prop :=
  br (decide (xi5 < (list0.length : Int)))
  ((0 ≤ xi5 ∧ xi5 < (list0.length : Int)) ∧
    br ((List.getD list0 (Int.toNat xi5) (0 : Int)) == n1)
    (k xi5)
    (InR (xi5 + 1) ∧
      B0 (xi5 + 1)))
  (k (-1))
def L0_spec_placeOf (list0 : List Int) (n1 : Int) (k : Int → Prop) : Nat → Int → Prop
  | 0, _ => False
  | n + 1, xi5 => T0_spec_placeOf list0 n1 xi5 k (L0_spec_placeOf list0 n1 k n)
def G_spec_placeOf (list0 : List Int) (n1 : Int) (I0 : List Int → Int → Int → Prop) : Prop :=
  I0 list0 n1 0
def S_spec_placeOf (list0 : List Int) (n1 : Int) (k : Int → Prop) : Prop := G_spec_placeOf list0 n1 (fun list0 n1 xi5 => ∃ j, L0_spec_placeOf list0 n1 k j xi5)
def F_spec_placeOf (l : List Int) (n : Int) (k : Int → Prop) : Prop := l.length ≤ 1000000000 ∧ k (plc l n)
theorem F_spec_placeOf_S {l : List Int} {n : Int} {k : Int → Prop} (h : F_spec_placeOf l n k) : S_spec_placeOf l n k := by
  obtain ⟨hl, hk⟩ := h
  have key : ∀ (r : List Int) (i : Nat), l.drop i = r → plcF r n i = plc l n → L0_spec_placeOf l n k (r.length + 1) (i : Int) := by
    intro r
    induction r with
    | nil =>
      intro i hd he
      have := drop_nil' hd
      rw [L0_spec_placeOf, T0_spec_placeOf]
      simp only [br_dec]
      exact ⟨fun h => by omega, fun _ => by rw [show (-1 : Int) = plc l n from he]; exact hk⟩
    | cons x r ih =>
      intro i hd he
      obtain ⟨h1, h2, _, h3, _⟩ := drop_cons' hd
      rw [List.length_cons, L0_spec_placeOf, T0_spec_placeOf]
      simp only [br_dec, br_beq, Int.toNat_natCast, h2]
      refine ⟨fun _ => ⟨⟨by omega, by omega⟩, fun hx => ?_, fun hx => ⟨inR (by omega) (by omega), ?_⟩⟩, fun h => by omega⟩
      · simp only [plcF, if_pos hx] at he; rw [he]; exact hk
      · simp only [plcF, if_neg hx] at he; exact ih (i + 1) h3 he
  exact ⟨_, key l 0 rfl rfl⟩
-- spec.isIn
def G_spec_isIn (list0 : List Int) (n1 : Int) (k : Bool → Prop) : Prop :=
  F_spec_placeOf list0 n1 fun placeOf7 =>
  k (decide (placeOf7 ≥ 0))
def S_spec_isIn (list0 : List Int) (n1 : Int) (k : Bool → Prop) : Prop := G_spec_isIn list0 n1 k
def F_spec_isIn (l : List Int) (n : Int) (k : Bool → Prop) : Prop := l.length ≤ 1000000000 ∧ k (decide (n ∈ l))
theorem F_spec_isIn_S {l : List Int} {n : Int} {k : Bool → Prop} (h : F_spec_isIn l n k) : S_spec_isIn l n k := by
  refine ⟨h.1, ?_⟩
  have : decide (plc l n ≥ 0) = decide (n ∈ l) := decide_eq_decide.2 plc_ge
  show k (decide (plc l n ≥ 0))
  rw [this]; exact h.2
-- spec.first
def G_spec_first (list0 : List Int) (room1 : Int) (key2 : Int) (k : List Int → Bool → Prop) : Prop :=
  F_spec_isIn list0 key2 fun isIn11 =>
  br isIn11
  (k list0 true)
  ((0 + list0.length ≤ 1000000000) ∧
    (list0.length + 1 ≤ 1000000000) ∧
    InR (((List.length (list0 ++ ([key2] : List Int))) : Int) - room1) ∧
    (0 ≤ (if 0 < (((List.length (list0 ++ ([key2] : List Int))) : Int) - room1) then (((List.length (list0 ++ ([key2] : List Int))) : Int) - room1) else 0) ∧ (if 0 < (((List.length (list0 ++ ([key2] : List Int))) : Int) - room1) then (((List.length (list0 ++ ([key2] : List Int))) : Int) - room1) else 0) ≤ ((List.length (list0 ++ ([key2] : List Int))) : Int)) ∧
    k (List.take ((List.length (list0 ++ ([key2] : List Int))) - (Int.toNat (if 0 < (((List.length (list0 ++ ([key2] : List Int))) : Int) - room1) then (((List.length (list0 ++ ([key2] : List Int))) : Int) - room1) else 0))) (List.drop (Int.toNat (if 0 < (((List.length (list0 ++ ([key2] : List Int))) : Int) - room1) then (((List.length (list0 ++ ([key2] : List Int))) : Int) - room1) else 0)) (list0 ++ ([key2] : List Int)))) false)
def S_spec_first (list0 : List Int) (room1 : Int) (key2 : Int) (k : List Int → Bool → Prop) : Prop := G_spec_first list0 room1 key2 k
def F_spec_first (l : List Int) (room key : Int) (k : List Int → Bool → Prop) : Prop := VKeys l room ∧ k (firM l room key) (decide (key ∈ l))
theorem F_spec_first_S {l : List Int} {room key : Int} {k : List Int → Bool → Prop} (h : F_spec_first l room key k) : S_spec_first l room key k := by
  obtain ⟨⟨v1, v2, v3, v4, v5⟩, hk⟩ := h
  unfold firM at hk
  refine ⟨by omega, br_dec.2 ⟨fun hm => ?_, fun hm => ?_⟩⟩
  · rw [if_pos hm, decide_eq_true hm] at hk; exact hk
  · rw [if_neg hm, decide_eq_false hm] at hk
    have hlen : (l ++ [key]).length = l.length + 1 := by simp
    have hX : (if 0 < (((List.length (l ++ ([key] : List Int))) : Int) - room) then (((List.length (l ++ ([key] : List Int))) : Int) - room) else 0).toNat = l.length + 1 - room.toNat := by
      rw [hlen]; split <;> omega
    refine ⟨by omega, by omega, inR (by omega) (by omega), ⟨?_, ?_⟩, ?_⟩
    · split <;> omega
    · split <;> omega
    · rw [hX, List.take_of_length_le (by simp)]; exact hk
-- spec.toInt
def G_spec_toInt (b0 : Bool) (k : Int → Prop) : Prop :=
  br b0
  (k 1)
  (k 0)
def S_spec_toInt (b0 : Bool) (k : Int → Prop) : Prop := G_spec_toInt b0 k
def F_spec_toInt (b : Bool) (k : Int → Prop) : Prop := k (toI b)
theorem F_spec_toInt_S {b : Bool} {k : Int → Prop} (h : F_spec_toInt b k) : S_spec_toInt b k := by
  cases b <;> exact h
-- spec.RunFirst
def T0_spec_RunFirst (room1 : Int) (t0 : List Int) (xlist6 : List Int) (xn7 : Int) (xi8 : Int) (k : List Int → Int → Prop) (B0 : List Int → Int → Int → Prop) : Prop :=
  br (decide (xi8 < (t0.length : Int)))
  ((0 ≤ xi8 ∧ xi8 < (t0.length : Int)) ∧
    F_spec_first xlist6 room1 (List.getD t0 (Int.toNat xi8) (0 : Int)) fun first32r0 first32r1 =>
    F_spec_toInt first32r1 fun toInt37 =>
    InR (xn7 + toInt37) ∧
    InR (xi8 + 1) ∧
    B0 first32r0 (xn7 + toInt37) (xi8 + 1))
  ((0 + xlist6.length ≤ 1000000000) ∧
    k xlist6 xn7)
def L0_spec_RunFirst (room1 : Int) (t0 : List Int) (k : List Int → Int → Prop) : Nat → List Int → Int → Int → Prop
  | 0, _, _, _ => False
  | n + 1, xlist6, xn7, xi8 => T0_spec_RunFirst room1 t0 xlist6 xn7 xi8 k (L0_spec_RunFirst room1 t0 k n)
def G_spec_RunFirst (t0 : List Int) (room1 : Int) (k : List Int → Int → Prop) (I0 : Int → List Int → List Int → Int → Int → Prop) : Prop :=
  F_spec_validTrace t0 fun validTrace11 =>
  br (!validTrace11)
  (k ([] : List Int) (-1))
  (F_spec_inRange room1 (1 : Int) (8 : Int) fun inRange15 =>
    br (!inRange15)
    (k ([] : List Int) (-1))
    (I0 room1 t0 ([] : List Int) 0 0))
def S_spec_RunFirst (t0 : List Int) (room1 : Int) (k : List Int → Int → Prop) : Prop := G_spec_RunFirst t0 room1 k (fun room1 t0 xlist6 xn7 xi8 => ∃ j, L0_spec_RunFirst room1 t0 k j xlist6 xn7 xi8)
def F_spec_RunFirst (t : List Int) (room : Int) (k : List Int → Int → Prop) : Prop :=
  ((VTrace t ∧ 1 ≤ room ∧ room ≤ 8) → k (runF room t [] 0).1 (runF room t [] 0).2) ∧ (¬ (VTrace t ∧ 1 ≤ room ∧ room ≤ 8) → k [] (-1))
theorem F_spec_RunFirst_S {t : List Int} {room : Int} {k : List Int → Int → Prop} (h : F_spec_RunFirst t room k) : S_spec_RunFirst t room k := by
  obtain ⟨hyes, hno⟩ := h
  intro b hb
  rw [br_not, br_iff]
  refine ⟨fun e => br_not.2 (br_dec.2 ⟨fun hr => ?_, fun hr => hno fun w => hr w.2⟩), fun e => hno fun v => by rw [hb.2 v.1] at e; cases e⟩
  have v := hb.1 e
  have hk := hyes ⟨v, hr⟩
  have t2 := v.2
  have t1 := v.1
  have key : ∀ (r : List Int) (i : Nat) (l : List Int) (n : Int), t.drop i = r → VKeys l room → 0 ≤ n → n ≤ i → k (runF room r l n).1 (runF room r l n).2 → L0_spec_RunFirst room t k (r.length + 1) l n (i : Int) := by
    intro r
    induction r with
    | nil =>
      intro i l n hdr v n0 n1 hk
      have := drop_nil' hdr
      have := vkeys_len v
      rw [L0_spec_RunFirst, T0_spec_RunFirst]
      simp only [br_dec]
      exact ⟨fun h => by omega, fun _ => ⟨by omega, hk⟩⟩
    | cons x r ih =>
      intro i l n hdr v n0 n1 hk
      obtain ⟨h1, h2, h5, h3, h4⟩ := drop_cons' hdr
      have hx := t2 x (List.mem_of_getElem? h5)
      rw [List.length_cons, L0_spec_RunFirst, T0_spec_RunFirst]
      simp only [br_dec, Int.toNat_natCast, h2]
      have := toI_01 (decide (x ∈ l))
      exact ⟨fun _ => ⟨⟨by omega, by omega⟩, v, inR (by omega) (by omega), inR (by omega) (by omega), ih (i + 1) _ _ h3 (firM_valid v hx) (by omega) (by omega) hk⟩, fun h => by omega⟩
  exact ⟨_, key t 0 [] 0 rfl (keys0 hr) (by omega) (by omega) hk⟩
-- laws.equalInts
def T0_laws_equalInts (a0 : List Int) (b1 : List Int) (xi5 : Int) (k : Bool → Prop) (B0 : Int → Prop) : Prop :=
  br (decide (xi5 < (a0.length : Int)))
  ((0 ≤ xi5 ∧ xi5 < (a0.length : Int)) ∧
    (0 ≤ xi5 ∧ xi5 < (b1.length : Int)) ∧
    br ((List.getD a0 (Int.toNat xi5) (0 : Int)) != (List.getD b1 (Int.toNat xi5) (0 : Int)))
    (k false)
    (InR (xi5 + 1) ∧
      B0 (xi5 + 1)))
  (k true)
def L0_laws_equalInts (a0 : List Int) (b1 : List Int) (k : Bool → Prop) : Nat → Int → Prop
  | 0, _ => False
  | n + 1, xi5 => T0_laws_equalInts a0 b1 xi5 k (L0_laws_equalInts a0 b1 k n)
def G_laws_equalInts (a0 : List Int) (b1 : List Int) (k : Bool → Prop) (I0 : List Int → List Int → Int → Prop) : Prop :=
  br ((a0.length : Int) != (b1.length : Int))
  (k false)
  (I0 a0 b1 0)
def S_laws_equalInts (a0 : List Int) (b1 : List Int) (k : Bool → Prop) : Prop := G_laws_equalInts a0 b1 k (fun a0 b1 xi5 => ∃ j, L0_laws_equalInts a0 b1 k j xi5)
def F_laws_equalInts (a b : List Int) (k : Bool → Prop) : Prop := a.length ≤ 1000000000 ∧ k (decide (a = b))
theorem F_laws_equalInts_S {a b : List Int} {k : Bool → Prop} (h : F_laws_equalInts a b k) : S_laws_equalInts a b k := by
  obtain ⟨hl, hk⟩ := h
  refine br_bne.2 ⟨fun he => by rwa [decide_eq_false (fun e => he (by rw [e]))] at hk, fun he => ?_⟩
  have he : a.length = b.length := by omega
  have key : ∀ (r : List Int) (i : Nat), a.drop i = r → (r = b.drop i ↔ a = b) → L0_laws_equalInts a b k (r.length + 1) (i : Int) := by
    intro r
    induction r with
    | nil =>
      intro i hd hi
      have := drop_nil' hd
      rw [L0_laws_equalInts, T0_laws_equalInts]
      simp only [br_dec]
      exact ⟨fun h => by omega, fun _ => by rwa [decide_eq_true (hi.1 (List.drop_eq_nil_of_le (by omega)).symm)] at hk⟩
    | cons x r ih =>
      intro i hd hi
      obtain ⟨h1, h2, _, h3, _⟩ := drop_cons' hd
      obtain ⟨y, s, hs⟩ : ∃ y s, b.drop i = y :: s := by
        cases e : b.drop i with
        | nil => have := drop_nil' e; omega
        | cons y s => exact ⟨y, s, rfl⟩
      obtain ⟨g1, g2, _, g3, _⟩ := drop_cons' hs
      rw [List.length_cons, L0_laws_equalInts, T0_laws_equalInts]
      simp only [br_dec, br_bne, Int.toNat_natCast, h2, g2]
      rw [hs] at hi
      refine ⟨fun _ => ⟨⟨by omega, by omega⟩, ⟨by omega, by omega⟩, ?_⟩, fun h => by omega⟩
      have go : x = y → L0_laws_equalInts a b k (r.length + 1) ((i : Int) + 1) := fun hx => ih (i + 1) h3 (by rw [g3, ← hi, hx]; simp)
      have no : x ≠ y → k false := fun hx => by rwa [decide_eq_false (fun e => hx (List.cons.inj (hi.2 e)).1)] at hk
      exact ⟨no, fun hx => ⟨inR (by omega) (by omega), go hx⟩⟩
  exact ⟨_, key a 0 rfl (by simp)⟩
-- impl.LoopTrace
def T0_impl_LoopTrace (n0 : Int) (xt24 : Int) (xt25 : Int) (xy22 : List Int) (k : List Int → Prop) (B0 : Int → List Int → Prop) : Prop :=
  br (decide (xt25 < xt24))
  ((n0 ≠ 0) ∧
    (0 ≤ xt25 ∧ xt25 < (xy22.length : Int)) ∧
    InR (xt25 + 1) ∧
    B0 (xt25 + 1) (List.set xy22 (Int.toNat xt25) (Int.tmod xt25 n0)))
  (k xy22)
def L0_impl_LoopTrace (n0 : Int) (xt24 : Int) (k : List Int → Prop) : Nat → Int → List Int → Prop
  | 0, _, _ => False
  | n + 1, xt25, xy22 => T0_impl_LoopTrace n0 xt24 xt25 xy22 k (L0_impl_LoopTrace n0 xt24 k n)
def G_impl_LoopTrace (n0 : Int) (length1 : Int) (k : List Int → Prop) (I0 : Int → Int → Int → List Int → Prop) : Prop :=
  br (decide (n0 < 1))
  (k ([] : List Int))
  (br (decide (n0 > 32))
    (k ([] : List Int))
    (br (decide (length1 < 0))
      (k ([] : List Int))
      (br (decide (length1 > 24))
        (k ([] : List Int))
        ((length1 = length1 ∧ 0 ≤ length1 ∧ length1 ≤ 1000000000) ∧
          I0 n0 ((List.length (List.replicate (Int.toNat length1) (0 : Int))) : Int) 0 (List.replicate (Int.toNat length1) (0 : Int))))))
def S_impl_LoopTrace (n0 : Int) (length1 : Int) (k : List Int → Prop) : Prop := G_impl_LoopTrace n0 length1 k (fun n0 xt24 xt25 xy22 => ∃ j, L0_impl_LoopTrace n0 xt24 k j xt25 xy22)
def F_impl_LoopTrace (n len : Int) (k : List Int → Prop) : Prop := (VLoop n len → k (loopM n len)) ∧ (¬ VLoop n len → k [])
theorem F_impl_LoopTrace_S {n len : Int} {k : List Int → Prop} (h : F_impl_LoopTrace n len k) : S_impl_LoopTrace n len k := by
  obtain ⟨hyes, hno⟩ := h
  refine br_dec.2 ⟨fun g => hno fun v => by have := v.1; omega, fun g1 => br_dec.2 ⟨fun g => hno fun v => by have := v.1; omega, fun g2 => br_dec.2 ⟨fun g => hno fun v => by have := v.2; omega, fun g3 => br_dec.2 ⟨fun g => hno fun v => by have := v.2; omega, fun g4 => ?_⟩⟩⟩⟩
  have v : VLoop n len := ⟨⟨by omega, by omega⟩, by omega, by omega⟩
  refine ⟨⟨rfl, by omega, by omega⟩, ?_⟩
  have go : ∀ (m i : Nat), i + m = len.toNat → L0_impl_LoopTrace n ((List.replicate len.toNat (0 : Int)).length : Int) k (m + 1) (i : Int) (loopM n (i : Int) ++ List.replicate m (0 : Int)) := by
    intro m
    induction m with
    | zero =>
      intro i hi
      rw [L0_impl_LoopTrace, T0_impl_LoopTrace, List.length_replicate]
      refine br_nd (by omega) ?_
      rw [List.replicate_zero, List.append_nil, show (i : Int) = len by omega]
      exact hyes v
    | succ m ih =>
      intro i hi
      have next := ih (i + 1) (by omega)
      rw [L0_impl_LoopTrace, T0_impl_LoopTrace]
      have hl : (loopM n (i : Int)).length = i := by rw [loopM_len]; omega
      refine br_yd (by rw [List.length_replicate]; omega) ⟨by omega, ⟨by omega, by rw [List.length_append, hl, List.length_replicate]; omega⟩, inR (by omega) (by omega), ?_⟩
      have e : (loopM n (i : Int) ++ List.replicate (m + 1) (0 : Int)).set (i : Int).toNat (Int.tmod (i : Int) n) = loopM n ((i + 1 : Nat) : Int) ++ List.replicate m (0 : Int) := by
        rw [loopM_snoc, Int.toNat_natCast, List.set_append_right _ _ (by omega), hl, Nat.sub_self, List.replicate_succ, List.set_cons_zero, List.append_assoc]; rfl
      rw [e]
      exact next
  refine ⟨len.toNat + 1, ?_⟩
  have := go len.toNat 0 (by omega)
  rw [show loopM n ((0 : Nat) : Int) = [] from rfl, List.nil_append] at this
  exact this
-- impl.withoutKey
def T0_impl_withoutKey (key1 : Int) (list0 : List Int) (xt10 : Int) (xt11 : Int) (xout5 : List Int) (k : List Int → Prop) (B0 : Int → List Int → Prop) : Prop :=
  br (decide (xt11 < xt10))
  ((0 ≤ xt11 ∧ xt11 < (list0.length : Int)) ∧
    br ((List.getD list0 (Int.toNat xt11) (0 : Int)) != key1)
    ((xout5.length + 1 ≤ 1000000000) ∧
      InR (xt11 + 1) ∧
      B0 (xt11 + 1) (xout5 ++ ([(List.getD list0 (Int.toNat xt11) (0 : Int))] : List Int)))
    (InR (xt11 + 1) ∧
      B0 (xt11 + 1) xout5))
  (k xout5)
def L0_impl_withoutKey (key1 : Int) (list0 : List Int) (xt10 : Int) (k : List Int → Prop) : Nat → Int → List Int → Prop
  | 0, _, _ => False
  | n + 1, xt11, xout5 => T0_impl_withoutKey key1 list0 xt10 xt11 xout5 k (L0_impl_withoutKey key1 list0 xt10 k n)
def G_impl_withoutKey (list0 : List Int) (key1 : Int) (I0 : Int → List Int → Int → Int → List Int → Prop) : Prop :=
  I0 key1 list0 (list0.length : Int) 0 ([] : List Int)
def S_impl_withoutKey (list0 : List Int) (key1 : Int) (k : List Int → Prop) : Prop := G_impl_withoutKey list0 key1 (fun key1 list0 xt10 xt11 xout5 => ∃ j, L0_impl_withoutKey key1 list0 xt10 k j xt11 xout5)
def F_impl_withoutKey (l : List Int) (key : Int) (k : List Int → Prop) : Prop := l.length ≤ 1000000000 ∧ k (rmK l key)
theorem F_impl_withoutKey_S {l : List Int} {key : Int} {k : List Int → Prop} (h : F_impl_withoutKey l key k) : S_impl_withoutKey l key k := by
  obtain ⟨hl, hk⟩ := h
  have key1 : ∀ (r : List Int) (i : Nat) (out : List Int), l.drop i = r → out.length ≤ i → out ++ rmK r key = rmK l key → L0_impl_withoutKey key l (l.length : Int) k (r.length + 1) (i : Int) out := by
    intro r
    induction r with
    | nil =>
      intro i out hd ho he
      have := drop_nil' hd
      rw [L0_impl_withoutKey, T0_impl_withoutKey]
      simp only [br_dec]
      refine ⟨fun h => by omega, fun _ => ?_⟩
      have : out = rmK l key := by simpa [rmK] using he
      rw [this]; exact hk
    | cons x r ih =>
      intro i out hd ho he
      obtain ⟨h1, h2, _, h3, _⟩ := drop_cons' hd
      rw [List.length_cons, L0_impl_withoutKey, T0_impl_withoutKey]
      simp only [br_dec, br_bne, Int.toNat_natCast, h2]
      refine ⟨fun _ => ⟨⟨by omega, by omega⟩, fun hx => ⟨by omega, inR (by omega) (by omega), ?_⟩, fun hx => ⟨inR (by omega) (by omega), ?_⟩⟩, fun h => by omega⟩
      · exact ih (i + 1) (out ++ [x]) h3 (by simp; omega) (by rw [← he, rmK_cons_ne hx]; simp)
      · exact ih (i + 1) out h3 (by omega) (by rw [← he, hx, rmK_cons_eq])
  exact ⟨_, key1 l 0 [] rfl (by simp) rfl⟩
-- impl.putFirst
def G_impl_putFirst (list0 : List Int) (key1 : Int) (k : List Int → Prop) : Prop :=
  (1 + list0.length ≤ 1000000000) ∧
  k (([key1] : List Int) ++ list0)
def S_impl_putFirst (list0 : List Int) (key1 : Int) (k : List Int → Prop) : Prop := G_impl_putFirst list0 key1 k
def F_impl_putFirst (l : List Int) (x : Int) (k : List Int → Prop) : Prop := l.length ≤ 999999999 ∧ k (x :: l)
theorem F_impl_putFirst_S {l : List Int} {x : Int} {k : List Int → Prop} (h : F_impl_putFirst l x k) : S_impl_putFirst l x k := ⟨by have := h.1; omega, h.2⟩
-- impl.UseRecent
def G_impl_UseRecent (list0 : List Int) (room1 : Int) (key2 : Int) (k : List Int → Bool → Prop) : Prop :=
  F_impl_ValidKeys list0 room1 fun validKeys11 =>
  br (!validKeys11)
  (k ([] : List Int) false)
  (F_impl_validKey key2 fun validKey15 =>
    br (!validKey15)
    (k ([] : List Int) false)
    (F_impl_withoutKey list0 key2 fun withoutKey20 =>
      F_impl_putFirst withoutKey20 key2 fun putFirst22 =>
      (0 ≤ (if room1 < (putFirst22.length : Int) then room1 else (putFirst22.length : Int)) ∧ (if room1 < (putFirst22.length : Int) then room1 else (putFirst22.length : Int)) ≤ (putFirst22.length : Int)) ∧
      (F_slices_Contains_sint_int list0 key2 fun contains31 =>
        k (List.take (Int.toNat (if room1 < (putFirst22.length : Int) then room1 else (putFirst22.length : Int))) (List.drop 0 putFirst22)) contains31) ∧
      (True)))
def H_impl_UseRecent (list0 : List Int) (room1 : Int) (key2 : Int) (k : List Int → Bool → Prop) : Prop :=
  F_impl_ValidKeys list0 room1 fun validKeys11 =>
  br (!validKeys11)
  (k ([] : List Int) false)
  (F_impl_validKey key2 fun validKey15 =>
    br (!validKey15)
    (k ([] : List Int) false)
    (F_impl_withoutKey list0 key2 fun withoutKey20 =>
      F_impl_putFirst withoutKey20 key2 fun putFirst22 =>
      (0 ≤ (if room1 < (putFirst22.length : Int) then room1 else (putFirst22.length : Int)) ∧ (if room1 < (putFirst22.length : Int) then room1 else (putFirst22.length : Int)) ≤ (putFirst22.length : Int)) ∧
      F_slices_Contains_sint_int list0 key2 fun contains31 =>
      k (List.take (Int.toNat (if room1 < (putFirst22.length : Int) then room1 else (putFirst22.length : Int))) (List.drop 0 putFirst22)) contains31))
theorem G_impl_UseRecent_eq (list0 : List Int) (room1 : Int) (key2 : Int) (k : List Int → Bool → Prop) : G_impl_UseRecent list0 room1 key2 k = H_impl_UseRecent list0 room1 key2 k := by
  first
  | (simp only [G_impl_UseRecent, H_impl_UseRecent, and_self, and_true]; done)
  | (simp only [G_impl_UseRecent, H_impl_UseRecent, and_self, and_true, and_self_left, and_assoc]; refine propext ⟨fun h => ?_, fun h => ?_⟩ <;> (repeat (cases ‹_ ∧ _›)) <;> (repeat' (apply And.intro)) <;> assumption)
def S_impl_UseRecent (list0 : List Int) (room1 : Int) (key2 : Int) (k : List Int → Bool → Prop) : Prop := H_impl_UseRecent list0 room1 key2 k
def F_impl_UseRecent (l : List Int) (room key : Int) (k : List Int → Bool → Prop) : Prop :=
  (VKeys l room ∧ 0 ≤ key ∧ key ≤ 31 → k (recM l room key) (decide (key ∈ l))) ∧ (¬ (VKeys l room ∧ 0 ≤ key ∧ key ≤ 31) → k [] false)
theorem F_impl_UseRecent_S {l : List Int} {room key : Int} {k : List Int → Bool → Prop} (h : F_impl_UseRecent l room key k) : S_impl_UseRecent l room key k := by
  obtain ⟨hyes, hno⟩ := h
  intro b hb
  refine br_not.2 (br_iff.2 ⟨fun e => br_not.2 (br_dec.2 ⟨fun hkey => ?_, fun hkey => hno fun w => hkey w.2⟩), fun e => hno fun w => by rw [hb.2 w.1] at e; cases e⟩)
  have v := hb.1 e
  have hk := hyes ⟨v, hkey⟩
  obtain ⟨v1, v2, v3, v4, v5⟩ := v
  have := @rmK_le l key
  refine ⟨by omega, by omega, ⟨?_, ?_⟩, by omega, ?_⟩
  · split <;> omega
  · split <;> omega
  · show k (List.take (if room < (([key] ++ rmK l key).length : Int) then room else (([key] ++ rmK l key).length : Int)).toNat ([key] ++ rmK l key)) (decide (key ∈ l))
    rw [take_min2]; exact hk
-- impl.runTrace$1
def G_impl_runTrace_1_UseRecent (list0 : List Int) (key1 : Int) (cap1 : Int) (k : List Int → Bool → Prop) : Prop :=
  F_impl_UseRecent list0 cap1 key1 fun useRecent12r0 useRecent12r1 =>
  k useRecent12r0 useRecent12r1
def S_impl_runTrace_1_UseRecent (list0 : List Int) (key1 : Int) (cap1 : Int) (k : List Int → Bool → Prop) : Prop := G_impl_runTrace_1_UseRecent list0 key1 cap1 k
abbrev F_impl_runTrace_1_UseRecent (list0 : List Int) (key1 : Int) (cap1 : Int) (k : List Int → Bool → Prop) : Prop := S_impl_runTrace_1_UseRecent list0 key1 cap1 k
theorem F_impl_runTrace_1_UseRecent_S {list0 : List Int} {key1 : Int} {cap1 : Int} {k : List Int → Bool → Prop} (h : F_impl_runTrace_1_UseRecent list0 key1 cap1 k) : S_impl_runTrace_1_UseRecent list0 key1 cap1 k := h
-- impl.useAll[[]int]
def T0_impl_useAll_sint_runTrace_1_UseRecent (t0 : List Int) (use2c1 : Int) (xt14 : Int) (xhits8 : Int) (xt15 : Int) (xcache1 : List Int) (k : List Int → Int → Prop) (B0 : Int → Int → List Int → Prop) : Prop :=
  br (decide (xt15 < xt14))
  ((0 ≤ xt15 ∧ xt15 < (t0.length : Int)) ∧
    F_impl_runTrace_1_UseRecent xcache1 (List.getD t0 (Int.toNat xt15) (0 : Int)) use2c1 fun runTrace123r0 runTrace123r1 =>
    br runTrace123r1
    (InR (xhits8 + 1) ∧
      InR (xt15 + 1) ∧
      B0 (xhits8 + 1) (xt15 + 1) runTrace123r0)
    (InR (xt15 + 1) ∧
      B0 xhits8 (xt15 + 1) runTrace123r0))
  (k xcache1 xhits8)
def L0_impl_useAll_sint_runTrace_1_UseRecent (t0 : List Int) (use2c1 : Int) (xt14 : Int) (k : List Int → Int → Prop) : Nat → Int → Int → List Int → Prop
  | 0, _, _, _ => False
  | n + 1, xhits8, xt15, xcache1 => T0_impl_useAll_sint_runTrace_1_UseRecent t0 use2c1 xt14 xhits8 xt15 xcache1 k (L0_impl_useAll_sint_runTrace_1_UseRecent t0 use2c1 xt14 k n)
def G_impl_useAll_sint_runTrace_1_UseRecent (t0 : List Int) (cache1 : List Int) (use2c1 : Int) (I0 : List Int → Int → Int → Int → Int → List Int → Prop) : Prop :=
  I0 t0 use2c1 (t0.length : Int) 0 0 cache1
def S_impl_useAll_sint_runTrace_1_UseRecent (t0 : List Int) (cache1 : List Int) (use2c1 : Int) (k : List Int → Int → Prop) : Prop := G_impl_useAll_sint_runTrace_1_UseRecent t0 cache1 use2c1 (fun t0 use2c1 xt14 xhits8 xt15 xcache1 => ∃ j, L0_impl_useAll_sint_runTrace_1_UseRecent t0 use2c1 xt14 k j xhits8 xt15 xcache1)
def F_impl_useAll_sint_runTrace_1_UseRecent (t l : List Int) (room : Int) (k : List Int → Int → Prop) : Prop := (VTrace t ∧ VKeys l room) ∧ k (runR room t l 0).1 (runR room t l 0).2
theorem F_impl_useAll_sint_runTrace_1_UseRecent_S {t l : List Int} {room : Int} {k : List Int → Int → Prop} (h : F_impl_useAll_sint_runTrace_1_UseRecent t l room k) : S_impl_useAll_sint_runTrace_1_UseRecent t l room k := by
  obtain ⟨⟨⟨t1, t2⟩, v⟩, hk⟩ := h
  have key : ∀ (r : List Int) (i : Nat) (l : List Int) (n : Int), t.drop i = r → VKeys l room → 0 ≤ n → n ≤ i → k (runR room r l n).1 (runR room r l n).2 → L0_impl_useAll_sint_runTrace_1_UseRecent t room (t.length : Int) k (r.length + 1) n (i : Int) l := by
    intro r
    induction r with
    | nil =>
      intro i l n hdr v n0 n1 hk
      have := drop_nil' hdr
      rw [L0_impl_useAll_sint_runTrace_1_UseRecent, T0_impl_useAll_sint_runTrace_1_UseRecent]
      simp only [br_dec]
      exact ⟨fun h => by omega, fun _ => hk⟩
    | cons x r ih =>
      intro i l n hdr v n0 n1 hk
      obtain ⟨h1, h2, h5, h3, h4⟩ := drop_cons' hdr
      have hx := t2 x (List.mem_of_getElem? h5)
      rw [List.length_cons, L0_impl_useAll_sint_runTrace_1_UseRecent, T0_impl_useAll_sint_runTrace_1_UseRecent]
      simp only [br_dec, Int.toNat_natCast, h2]
      refine ⟨fun _ => ⟨⟨by omega, by omega⟩, fun _ => ?_, fun hv => absurd ⟨v, hx⟩ hv⟩, fun h => by omega⟩
      rw [runR] at hk
      show br (decide (x ∈ l)) _ _
      rw [br_iff]
      refine ⟨fun e => ⟨inR (by omega) (by omega), inR (by omega) (by omega), ?_⟩, fun e => ⟨inR (by omega) (by omega), ?_⟩⟩
      · rw [e] at hk
        exact ih (i + 1) _ _ h3 (recM_valid v hx) (by omega) (by omega) hk
      · rw [e] at hk
        rw [show n + toI false = n by simp [toI]] at hk
        exact ih (i + 1) _ _ h3 (recM_valid v hx) (by omega) (by omega) hk
  exact ⟨_, key t 0 l 0 rfl v (by omega) (by omega) hk⟩
-- impl.runTrace
def G_impl_runTrace_UseRecent (t0 : List Int) (room1 : Int) (k : List Int → Int → Prop) : Prop :=
  F_impl_ValidTrace t0 fun validTrace9 =>
  br (!validTrace9)
  (k ([] : List Int) (-1))
  (F_impl_validRoom room1 fun validRoom13 =>
    br (!validRoom13)
    (k ([] : List Int) (-1))
    (F_impl_useAll_sint_runTrace_1_UseRecent t0 ([] : List Int) room1 fun useAll19r0 useAll19r1 =>
      k useAll19r0 useAll19r1))
def S_impl_runTrace_UseRecent (t0 : List Int) (room1 : Int) (k : List Int → Int → Prop) : Prop := G_impl_runTrace_UseRecent t0 room1 k
def F_impl_runTrace_UseRecent (t : List Int) (room : Int) (k : List Int → Int → Prop) : Prop :=
  ((VTrace t ∧ 1 ≤ room ∧ room ≤ 8) → k (runR room t [] 0).1 (runR room t [] 0).2) ∧ (¬ (VTrace t ∧ 1 ≤ room ∧ room ≤ 8) → k [] (-1))
theorem F_impl_runTrace_UseRecent_S {t : List Int} {room : Int} {k : List Int → Int → Prop} (h : F_impl_runTrace_UseRecent t room k) : S_impl_runTrace_UseRecent t room k := by
  obtain ⟨hyes, hno⟩ := h
  intro b hb
  rw [br_not, br_iff]
  refine ⟨fun e => br_not.2 (br_dec.2 ⟨fun hr => ?_, fun hr => hno fun w => hr w.2⟩), fun e => hno fun v => by rw [hb.2 v.1] at e; cases e⟩
  have v := hb.1 e
  exact ⟨⟨v, keys0 hr⟩, hyes ⟨v, hr⟩⟩
-- impl.RunRecent
def G_impl_RunRecent (t0 : List Int) (room1 : Int) (k : List Int → Int → Prop) : Prop :=
  F_impl_runTrace_UseRecent t0 room1 fun runTrace8r0 runTrace8r1 =>
  k runTrace8r0 runTrace8r1
def S_impl_RunRecent (t0 : List Int) (room1 : Int) (k : List Int → Int → Prop) : Prop := G_impl_RunRecent t0 room1 k
def F_impl_RunRecent (t : List Int) (room : Int) (k : List Int → Int → Prop) : Prop :=
  ((VTrace t ∧ 1 ≤ room ∧ room ≤ 8) → k (runR room t [] 0).1 (runR room t [] 0).2) ∧ (¬ (VTrace t ∧ 1 ≤ room ∧ room ≤ 8) → k [] (-1))
theorem F_impl_RunRecent_S {t : List Int} {room : Int} {k : List Int → Int → Prop} (h : F_impl_RunRecent t room k) : S_impl_RunRecent t room k := h
-- laws.FnRunFirstLoop
def G_laws_FnRunFirstLoop_j0 (runFirst27r0 : List Int) (runFirst27r1 : Int) (runFirst33r0 : List Int) (runFirst33r1 : Int) (k : Bool → Prop) : Prop :=
  F_laws_equalInts runFirst27r0 runFirst33r0 fun equalInts51 =>
  br equalInts51
  (k (runFirst27r1 == runFirst33r1))
  (k false)
def G_laws_FnRunFirstLoop (code0 : List Int) (k : Bool → Prop) : Prop :=
  br (decide ((code0.length : Int) > 1048576))
  (k true)
  (F_spec_DrawRunFirst code0 fun drawRunFirst21r0 drawRunFirst21r1 =>
    F_impl_RunFirst drawRunFirst21r0 drawRunFirst21r1 fun runFirst27r0 runFirst27r1 =>
    F_spec_RunFirst drawRunFirst21r0 drawRunFirst21r1 fun runFirst33r0 runFirst33r1 =>
    F_laws_equalInts runFirst27r0 runFirst33r0 fun equalInts38 =>
    br (!equalInts38)
    (G_laws_FnRunFirstLoop_j0 runFirst27r0 runFirst27r1 runFirst33r0 runFirst33r1 k)
    (br (runFirst27r1 != runFirst33r1)
      (G_laws_FnRunFirstLoop_j0 runFirst27r0 runFirst27r1 runFirst33r0 runFirst33r1 k)
      (br (decide (runFirst27r1 < 0))
        (G_laws_FnRunFirstLoop_j0 runFirst27r0 runFirst27r1 runFirst33r0 runFirst33r1 k)
        (InR (drawRunFirst21r1 + 1) ∧
          F_impl_LoopTrace (drawRunFirst21r1 + 1) (24 : Int) fun loopTrace59 =>
          F_impl_RunFirst loopTrace59 drawRunFirst21r1 fun runFirst63r0 runFirst63r1 =>
          F_impl_RunRecent loopTrace59 drawRunFirst21r1 fun runRecent69r0 runRecent69r1 =>
          F_impl_LoopTrace drawRunFirst21r1 (24 : Int) fun loopTrace74 =>
          F_impl_RunFirst loopTrace74 drawRunFirst21r1 fun runFirst76r0 runFirst76r1 =>
          br (runFirst63r1 == 0)
          (br (runRecent69r1 == 0)
            (InR (24 - drawRunFirst21r1) ∧
              k (runFirst76r1 == (24 - drawRunFirst21r1)))
            (k false))
          (k false)))))
def S_laws_FnRunFirstLoop (code0 : List Int) (k : Bool → Prop) : Prop := G_laws_FnRunFirstLoop code0 k
abbrev F_laws_FnRunFirstLoop (code0 : List Int) (k : Bool → Prop) : Prop := S_laws_FnRunFirstLoop code0 k
theorem F_laws_FnRunFirstLoop_S {code0 : List Int} {k : Bool → Prop} (h : F_laws_FnRunFirstLoop code0 k) : S_laws_FnRunFirstLoop code0 k := h
theorem law_FnRunFirstLoop (code : List Int) (hb : ∀ x ∈ code, 0 ≤ x ∧ x ≤ 255) : F_laws_FnRunFirstLoop code (fun r => r = true) := by
  refine br_dec.2 ⟨fun _ => rfl, fun hlen => ⟨hb, fun t room l1 => ?_⟩⟩
  by_cases v : VTrace t ∧ 1 ≤ room ∧ room ≤ 8
  · have hr := v.2
    have f := runF_facts v.1 hr
    have f1 := f.len
    have f2 := f.pos
    have v1 : VLoop (room + 1) 24 := ⟨by omega, by omega⟩
    have v2 : VLoop room 24 := ⟨by omega, by omega⟩
    obtain ⟨g1, g2, g3⟩ := loop_first room hr
    exact yes v (yes v ⟨by omega, br_de (br_same' (br_nd (by omega) ⟨inR (by omega) (by omega), yes v1 (yes ⟨loopM_valid v1, hr⟩ (yes ⟨loopM_valid v1, hr⟩ (yes v2 (yes ⟨loopM_valid v2, hr⟩ (br_ye g1 (br_ye g2 ⟨inR (by omega) (by omega), beq_t g3⟩))))))⟩))⟩)
  · exact nay v (nay v ⟨by simp, br_de (br_same' (br_yd (by omega) ⟨by simp, br_de' rfl⟩))⟩)
end Go.Ev
