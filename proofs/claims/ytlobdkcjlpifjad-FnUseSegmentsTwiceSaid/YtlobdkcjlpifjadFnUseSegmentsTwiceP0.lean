/- What the functions that the law reaches do, written as plain Lean. No statement is proved here. -/
import Derived.Test.YtlobdkcjlpifjadEvT
namespace Go.Ev
set_option linter.unusedVariables false
open Go
theorem br_iff {b : Bool} {A B : Prop} : br b A B ↔ (b = true → A) ∧ (b = false → B) := by cases b <;> simp [br]
theorem br_dec {p : Prop} [Decidable p] {A B : Prop} : br (decide p) A B ↔ (p → A) ∧ (¬ p → B) := by rw [br_iff]; simp
theorem br_beq {a b : Int} {A B : Prop} : br (a == b) A B ↔ (a = b → A) ∧ (a ≠ b → B) := by rw [br_iff]; simp
theorem br_bne {a b : Int} {A B : Prop} : br (a != b) A B ↔ (a ≠ b → A) ∧ (a = b → B) := by rw [br_iff]; simp
theorem br_not {b : Bool} {A B : Prop} : br (!b) A B ↔ br b B A := by cases b <;> simp [br]
theorem inR {x : Int} (h1 : -9223372036854775808 ≤ x) (h2 : x ≤ 9223372036854775807) : InR x := ⟨h1, h2⟩

section lists
variable {α : Type}
theorem drop_nil' {l : List α} {i : Nat} (h : l.drop i = []) : l.length ≤ i := by simpa using h
theorem drop_cons' {l : List α} {i : Nat} {x : α} {r : List α} (h : l.drop i = x :: r) : i < l.length ∧ (∀ d, l.getD i d = x) ∧ l[i]? = some x ∧ l.drop (i + 1) = r ∧ l.take (i + 1) = l.take i ++ [x] := by
  have hlt : i < l.length := by
    rcases Nat.lt_or_ge i l.length with h1 | h1
    · exact h1
    · rw [List.drop_eq_nil_of_le h1] at h; cases h
  have h2 := List.drop_eq_getElem_cons hlt
  rw [h] at h2
  injection h2 with h3 h4
  have h5 : l[i]? = some x := by rw [List.getElem?_eq_getElem hlt, h3]
  exact ⟨hlt, fun d => by simp [List.getD, h5], h5, h4.symm, by rw [List.take_succ_eq_append_getElem hlt, h3]⟩
end lists

/-- The place of a number, or -1. -/
def plcF : List Int → Int → Nat → Int
  | [], _, _ => -1
  | x :: r, n, i => if x = n then (i : Int) else plcF r n (i + 1)
def plc (l : List Int) (n : Int) : Int := plcF l n 0
theorem plcF_spec : ∀ (l : List Int) (n : Int) (i : Nat), (n ∉ l ∧ plcF l n i = -1) ∨ ∃ j, j < l.length ∧ l[j]? = some n ∧ (∀ q, q < j → l[q]? ≠ some n) ∧ plcF l n i = ((i + j : Nat) : Int)
  | [], n, i => .inl ⟨by simp, rfl⟩
  | x :: r, n, i => by
    by_cases h : x = n
    · subst h
      exact .inr ⟨0, by simp, rfl, fun q hq => by omega, by simp [plcF]⟩
    · rcases plcF_spec r n (i + 1) with ⟨h1, h2⟩ | ⟨j, h1, h2, h3, h4⟩
      · exact .inl ⟨by simp [Ne.symm h, h1], by simp [plcF, h, h2]⟩
      · refine .inr ⟨j + 1, by simp; omega, by simpa using h2, fun q hq => ?_, ?_⟩
        · cases q with
          | zero => simpa using h
          | succ q => simpa using h3 q (by omega)
        · simp only [plcF, h, if_false, h4]; omega
theorem plc_spec (l : List Int) (n : Int) : (n ∉ l ∧ plc l n = -1) ∨ ∃ j : Nat, j < l.length ∧ l[j]? = some n ∧ (∀ q, q < j → l[q]? ≠ some n) ∧ plc l n = (j : Int) := by
  have := plcF_spec l n 0
  simpa [plc] using this
theorem plc_pos {l : List Int} {n : Int} (h : n ∈ l) : ∃ j : Nat, j < l.length ∧ l[j]? = some n ∧ (∀ q, q < j → l[q]? ≠ some n) ∧ plc l n = (j : Int) := by
  rcases plc_spec l n with ⟨h1, _⟩ | h2
  · exact absurd h h1
  · exact h2
theorem plc_ge {l : List Int} {n : Int} : plc l n ≥ 0 ↔ n ∈ l := by
  rcases plc_spec l n with ⟨h1, h2⟩ | ⟨j, h1, h2, _, h3⟩
  · rw [h2]; simp [h1]
  · rw [h3]; simp [List.mem_of_getElem? h2]
theorem nodup_plc {l : List Int} : (∀ i : Nat, i < l.length → plc l (l.getD i 0) = (i : Int)) ↔ l.Nodup := by
  have hg : ∀ {i : Nat} (hi : i < l.length), l[i]? = some l[i] ∧ l.getD i 0 = l[i] := fun hi => ⟨List.getElem?_eq_getElem hi, by simp [List.getD, hi]⟩
  constructor
  · intro h
    refine List.pairwise_iff_getElem.2 fun i j hi hj hij e => ?_
    have h1 := h j hj
    rcases plc_spec l (l.getD j 0) with ⟨_, h2⟩ | ⟨q, h2, h3, h4, h5⟩
    · omega
    · have : q = j := by omega
      subst this
      exact h4 i hij (by rw [(hg hi).1, e, (hg hj).2])
  · intro hn i hi
    have hx : l[i]? = some (l.getD i 0) := by rw [(hg hi).1, (hg hi).2]
    rcases plc_spec l (l.getD i 0) with ⟨h1, _⟩ | ⟨q, h2, h3, h4, h5⟩
    · exact absurd (List.mem_of_getElem? hx) h1
    · have : q = i := by
        rcases Nat.lt_trichotomy q i with h | h | h
        · refine absurd ?_ (List.pairwise_iff_getElem.1 hn q i h2 hi h)
          have := h3.trans hx.symm
          rw [(hg h2).1, (hg hi).1] at this
          injection this
        · exact h
        · exact absurd hx (h4 i h)
      rw [h5, this]

/-- Valid keys. -/
def VKeys (l : List Int) (room : Int) : Prop := 1 ≤ room ∧ room ≤ 8 ∧ (l.length : Int) ≤ room ∧ (∀ x ∈ l, 0 ≤ x ∧ x ≤ 31) ∧ l.Nodup
def Bs (b : List Int) : Prop := b.length ≤ 2000 ∧ ∀ x ∈ b, 0 ≤ x ∧ x ≤ 255
theorem Bs.get {b : List Int} (h : Bs b) (i : Nat) : 0 ≤ b.getD i 0 ∧ b.getD i 0 ≤ 255 := by
  rcases Nat.lt_or_ge i b.length with hi | hi
  · have hx : b[i]? = some (b.getD i 0) := by simp [List.getD, hi]
    exact h.2 _ (List.mem_of_getElem? hx)
  · simp [List.getD, List.getElem?_eq_none hi]
/-- What a pick of n yields. -/
def Pk (n x : Int) : Prop := (n < 1 ∧ x = 0) ∨ (0 ≤ x ∧ x < n)
theorem ofInt_i64' (n : Nat) (h : n < 9223372036854775808) : (BitVec.ofInt 64 (n : Int)).toNat = n := by
  rw [BitVec.toNat_ofInt]; omega
theorem xor_nn (x y : Int) (hx : 0 ≤ x) (hx' : x < 9223372036854775808) (hy : 0 ≤ y) (hy' : y < 9223372036854775808) : 0 ≤ IntKind.i64.wrap ((BitVec.ofInt 64 x ^^^ BitVec.ofInt 64 y).toNat : Int) := by
  obtain ⟨a, rfl⟩ := Int.eq_ofNat_of_zero_le hx
  obtain ⟨b, rfl⟩ := Int.eq_ofNat_of_zero_le hy
  have hlt : a ^^^ b < 2 ^ 63 := Nat.xor_lt_two_pow (by omega) (by omega)
  have e : IntKind.i64.wrap ((BitVec.ofInt 64 (a : Int) ^^^ BitVec.ofInt 64 (b : Int)).toNat : Int) = ((a ^^^ b : Nat) : Int) := by
    rw [BitVec.toNat_xor, ofInt_i64' a (by omega), ofInt_i64' b (by omega), IntKind.wrap_i64]
    omega
  rw [e]; omega

def rmK (l : List Int) (key : Int) : List Int := l.filter (fun x => x != key)
def recM (l : List Int) (room key : Int) : List Int := (key :: rmK l key).take room.toNat
theorem mem_rmK {l : List Int} {key x : Int} : x ∈ rmK l key ↔ x ∈ l ∧ x ≠ key := by simp [rmK]
theorem rmK_not {l : List Int} {key : Int} (h : key ∉ l) : rmK l key = l := by
  unfold rmK
  rw [List.filter_eq_self]
  intro x hx
  have : x ≠ key := fun e => h (e ▸ hx)
  simpa using this
theorem rmK_nodup {l : List Int} {key : Int} (h : l.Nodup) : (rmK l key).Nodup := List.Pairwise.filter _ h
theorem rmK_le {l : List Int} {key : Int} : (rmK l key).length ≤ l.length := List.length_filter_le _ _
theorem rmK_cons_ne {l : List Int} {key x : Int} (h : x ≠ key) : rmK (x :: l) key = x :: rmK l key := by
  unfold rmK; rw [List.filter_cons_of_pos (by simpa using h)]
theorem rmK_cons_eq {l : List Int} {key : Int} : rmK (key :: l) key = rmK l key := by
  unfold rmK; rw [List.filter_cons_of_neg (by simp)]
theorem rmK_erase : ∀ {l : List Int} {key : Int} {j : Nat}, l.Nodup → l[j]? = some key → l.take j ++ l.drop (j + 1) = rmK l key
  | [], _, _, _, h => by simp at h
  | x :: r, key, 0, hn, h => by
    have e : x = key := by simpa using h
    subst e
    rw [rmK_cons_eq, rmK_not (List.nodup_cons.1 hn).1]; rfl
  | x :: r, key, j + 1, hn, h => by
    have h' : r[j]? = some key := by simpa using h
    have hne : x ≠ key := fun e => (List.nodup_cons.1 hn).1 (e ▸ List.mem_of_getElem? h')
    rw [rmK_cons_ne hne, ← rmK_erase (List.nodup_cons.1 hn).2 h']; rfl
theorem rmK_len {l : List Int} {key : Int} (hn : l.Nodup) (h : key ∈ l) : (rmK l key).length + 1 = l.length := by
  obtain ⟨j, hj, he⟩ := List.getElem_of_mem h
  have h2 : l[j]? = some key := by rw [List.getElem?_eq_getElem hj, he]
  rw [← rmK_erase hn h2]; simp; omega
theorem take_nodup {l : List Int} {n : Nat} (h : l.Nodup) : (l.take n).Nodup := List.Pairwise.sublist (List.take_sublist n l) h
theorem recM_hit {l : List Int} {room key : Int} (hn : l.Nodup) (hl : (l.length : Int) ≤ room) (h : key ∈ l) : recM l room key = key :: rmK l key := by
  have := rmK_len hn h
  exact List.take_of_length_le (by simp; omega)
theorem recM_miss {l : List Int} {room key : Int} (h : key ∉ l) : recM l room key = (key :: l).take room.toNat := by rw [recM, rmK_not h]
theorem recM_valid {l : List Int} {room key : Int} (v : VKeys l room) (hk : 0 ≤ key ∧ key ≤ 31) : VKeys (recM l room key) room := by
  obtain ⟨v1, v2, v3, v4, v5⟩ := v
  refine ⟨v1, v2, by simp only [recM, List.length_take]; omega, fun x hx => ?_, take_nodup ?_⟩
  · rcases List.mem_cons.1 (List.mem_of_mem_take hx) with rfl | h
    · exact hk
    · exact v4 x (mem_rmK.1 h).1
  · exact List.nodup_cons.2 ⟨fun h => (mem_rmK.1 h).2 rfl, rmK_nodup v5⟩
def VSegs (trial safe : Int) (new old : List Int) : Prop := VKeys new trial ∧ VKeys old safe ∧ ∀ x ∈ new, x ∉ old
/-- New, Old and hit behind the use of a key. -/
def segM (trial safe : Int) (new old : List Int) (key : Int) : List Int × List Int × Bool :=
  if key ∈ old then (new, key :: rmK old key, true)
  else if key ∈ new then ((if (old.length : Int) = safe then [old.getD (old.length - 1) 0] else []) ++ rmK new key, (key :: old).take safe.toNat, true)
  else ((key :: new).take trial.toNat, old, false)
theorem segM_valid {trial safe : Int} {new old : List Int} {key : Int} (v : VSegs trial safe new old) (hk : 0 ≤ key ∧ key ≤ 31) :
    VSegs trial safe (segM trial safe new old key).1 (segM trial safe new old key).2.1 := by
  obtain ⟨vn, vo, vd⟩ := v
  obtain ⟨n1, n2, n3, n4, n5⟩ := vn
  obtain ⟨o1, o2, o3, o4, o5⟩ := vo
  unfold segM
  split
  · rename_i h
    refine ⟨⟨n1, n2, n3, n4, n5⟩, ?_, fun x hx hx2 => ?_⟩
    · rw [← recM_hit o5 o3 h]; exact recM_valid ⟨o1, o2, o3, o4, o5⟩ hk
    · rcases List.mem_cons.1 hx2 with rfl | h2
      · exact vd _ hx h
      · exact vd _ hx (mem_rmK.1 h2).1
  · rename_i h
    split
    · rename_i hn
      have hlen := rmK_len n5 hn
      have hvo : VKeys ((key :: old).take safe.toNat) safe := by rw [← recM_miss h]; exact recM_valid ⟨o1, o2, o3, o4, o5⟩ hk
      split
      · rename_i hs
        have hlo : old.length ≠ 0 := by omega
        have hl : old[old.length - 1]? = some (old.getD (old.length - 1) 0) := by
          rw [List.getElem?_eq_getElem (by omega)]; simp [List.getD, List.getElem?_eq_getElem (show old.length - 1 < old.length by omega)]
        have hlm := List.mem_of_getElem? hl
        refine ⟨⟨n1, n2, by simp; omega, fun x hx => ?_, ?_⟩, hvo, fun x hx hx2 => ?_⟩
        · rcases List.mem_append.1 hx with h1 | h1
          · have e := List.mem_singleton.1 h1; rw [e]; exact o4 _ hlm
          · exact n4 x (mem_rmK.1 h1).1
        · rw [List.nodup_append]
          refine ⟨by simp, rmK_nodup n5, fun a ha b hb e => ?_⟩
          have e2 := List.mem_singleton.1 ha
          subst e; rw [e2] at hb
          exact vd _ (mem_rmK.1 hb).1 hlm
        · obtain ⟨s, hs2⟩ : ∃ s, safe.toNat = s + 1 := ⟨safe.toNat - 1, by omega⟩
          rw [hs2, List.take_succ_cons] at hx2
          rcases List.mem_append.1 hx with h1 | h1
          · have e := List.mem_singleton.1 h1
            rcases List.mem_cons.1 hx2 with e2 | h2
            · exact h (by rw [← e2, e]; exact hlm)
            · obtain ⟨i, hi, hie⟩ := List.getElem_of_mem h2
              rw [List.length_take] at hi
              rw [List.getElem_take] at hie
              have hlt : old.length - 1 < old.length := by omega
              refine List.pairwise_iff_getElem.1 o5 i (old.length - 1) (by omega) hlt (by omega) ?_
              rw [hie, e]; simp [List.getD, List.getElem?_eq_getElem hlt]
          · obtain ⟨h3, h4⟩ := mem_rmK.1 h1
            rcases List.mem_cons.1 hx2 with e2 | h2
            · exact h4 e2
            · exact vd _ h3 (List.mem_of_mem_take h2)
      · refine ⟨⟨n1, n2, by simp; omega, fun x hx => n4 x (mem_rmK.1 (by simpa using hx)).1, by simpa using rmK_nodup n5⟩, hvo, fun x hx hx2 => ?_⟩
        have hx := mem_rmK.1 (show x ∈ rmK new key by simpa using hx)
        rcases List.mem_cons.1 (List.mem_of_mem_take hx2) with e | h2
        · exact hx.2 e
        · exact vd _ hx.1 h2
    · rename_i hn
      refine ⟨?_, ⟨o1, o2, o3, o4, o5⟩, fun x hx hx2 => ?_⟩
      · rw [← recM_miss hn]; exact recM_valid ⟨n1, n2, n3, n4, n5⟩ hk
      · rcases List.mem_cons.1 (List.mem_of_mem_take hx) with rfl | h2
        · exact h hx2
        · exact vd _ h2 hx2
theorem segs_nodup {new old : List Int} : (new ++ old).Nodup ↔ new.Nodup ∧ old.Nodup ∧ ∀ x ∈ new, x ∉ old := by
  rw [List.nodup_append]
  exact ⟨fun ⟨a, b, c⟩ => ⟨a, b, fun x hx h => c x hx x h rfl⟩, fun ⟨a, b, c⟩ => ⟨a, b, fun x hx y hy e => c x hx (e ▸ hy)⟩⟩

theorem take_min1 {α : Type} {L : List α} {room : Int} : L.take (if (L.length : Int) < room then (L.length : Int) else room).toNat = L.take room.toNat := by
  split
  · rw [List.take_of_length_le (by omega), List.take_of_length_le (by omega)]
  · rfl
theorem take_min2 {α : Type} {L : List α} {room : Int} : L.take (if room < (L.length : Int) then room else (L.length : Int)).toNat = L.take room.toNat := by
  split
  · rfl
  · rw [List.take_of_length_le (by omega), List.take_of_length_le (by omega)]
theorem all_t {P : Prop} {k : Bool → Prop} (p : P) (h : k true) : ∀ b : Bool, (b = true ↔ P) → k b := fun b hb => by rw [hb.2 p]; exact h
theorem br_nt {A B : Prop} (h : B) : br (!true) A B := h
theorem br_same {b : Bool} {A B : Prop} (h : B) : br (!(b == b)) A B := by rw [beq_self_eq_true]; exact h
theorem some_of {l : List Int} {i : Nat} {d : Int} (h : i < l.length) : l[i]? = some (l.getD i d) := by
  rw [List.getD_eq_getElem?_getD, List.getElem?_eq_getElem h]; rfl
theorem mem_getD {l : List Int} {i : Nat} (h : i < l.length) : l.getD i 0 ∈ l := List.mem_of_getElem? (some_of h)
theorem segs0 {trial safe : Int} (h : 1 ≤ trial ∧ trial ≤ 8) (g : 1 ≤ safe ∧ safe ≤ 8) : VSegs trial safe [] [] :=
  ⟨⟨h.1, h.2, by simp; omega, by simp, by simp⟩, ⟨g.1, g.2, by simp; omega, by simp, by simp⟩, by simp⟩
theorem segs_len {trial safe : Int} {a b : List Int} (v : VSegs trial safe a b) : a.length ≤ 8 ∧ b.length ≤ 8 := by
  obtain ⟨⟨_, h1, h2, _⟩, ⟨_, h3, h4, _⟩, _⟩ := v
  omega
theorem segM_hit {trial safe : Int} {new old : List Int} {key : Int} : (segM trial safe new old key).2.2 = decide (key ∈ new ∨ key ∈ old) := by
  unfold segM
  split
  · rename_i h; simp [h]
  · rename_i h
    split
    · rename_i g; simp [g]
    · rename_i g; simp [h, g]
theorem segM_old {trial safe : Int} {new old : List Int} {key : Int} (hs : 1 ≤ safe) (h : key ∈ new ∨ key ∈ old) : ∃ r, (segM trial safe new old key).2.1 = key :: r := by
  unfold segM
  split
  · exact ⟨_, rfl⟩
  · rename_i g
    rw [if_pos (h.resolve_right g)]
    obtain ⟨n, hn⟩ : ∃ n, safe.toNat = n + 1 := ⟨safe.toNat - 1, by omega⟩
    exact ⟨old.take n, by simp only [hn, List.take_succ_cons]⟩
theorem segM_miss {trial safe : Int} {new old : List Int} {key : Int} (h : ¬ (key ∈ new ∨ key ∈ old)) : segM trial safe new old key = ((key :: new).take trial.toNat, old, false) := by
  unfold segM
  rw [if_neg (fun g => h (.inr g)), if_neg (fun g => h (.inl g))]
theorem segM_in {trial safe : Int} {new old : List Int} {key : Int} (ht : 1 ≤ trial) (hs : 1 ≤ safe) : key ∈ (segM trial safe new old key).1 ∨ key ∈ (segM trial safe new old key).2.1 := by
  by_cases h : key ∈ new ∨ key ∈ old
  · obtain ⟨r, hr⟩ := segM_old (trial := trial) hs h
    exact .inr (by rw [hr]; exact List.mem_cons_self)
  · obtain ⟨n, hn⟩ : ∃ n, trial.toNat = n + 1 := ⟨trial.toNat - 1, by omega⟩
    rw [segM_miss h]
    exact .inl (by simp only [hn, List.take_succ_cons]; exact List.mem_cons_self)

def usedR : List Int → List Int → List Int
  | D, [] => D
  | D, x :: r => usedR (x :: rmK D x) r
abbrev Ent := Int × Int × Int
def Rar (a b : Ent) : Prop := a.2.1 < b.2.1 ∨ a.2.1 = b.2.1 ∧ a.2.2 < b.2.2
instance (a b : Ent) : Decidable (Rar a b) := by unfold Rar; infer_instance
theorem Rar.trans {a b c : Ent} (h : Rar a b) (g : Rar b c) : Rar a c := by unfold Rar at *; omega
structure AL where
  t : Int
  o : List Int
  f : List Int
  wo : List Int
  wf : List Int
def knownL (a : AL) (key : Int) : Prop := key ∈ a.o ∨ key ∈ a.f ∨ key ∈ a.wf ∨ key ∈ a.wo
instance (a : AL) (key : Int) : Decidable (knownL a key) := by unfold knownL; infer_instance
/-- `Can room r C n`: with a cache `C` before the keys `r`, `n` hits are possible. -/
def Can (room : Nat) : List Int → List Int → Nat → Prop
  | [], _, n => n = 0
  | k :: r, C, n => ∃ D m, D.Nodup ∧ D.length ≤ room ∧ k ∈ D ∧ (∀ x ∈ D, x = k ∨ x ∈ C) ∧ Can room r D m ∧ n ≤ m + (if k ∈ C then 1 else 0)
theorem Can.zero {room : Nat} (h : 1 ≤ room) : ∀ {r C : List Int}, Can room r C 0
  | [], _ => rfl
  | k :: r, C => ⟨[k], 0, by simp, by simpa using h, by simp, fun x hx => .inl (List.mem_singleton.1 hx), Can.zero h, by omega⟩
/-- How many different keys a trace has. -/
def nk (t : List Int) : Nat := (usedR [] t).length
theorem len_add {D : List Int} (hn : D.Nodup) (k : Int) : (k :: rmK D k).length = D.length + if k ∈ D then 0 else 1 := by
  rw [List.length_cons]
  split
  · rename_i h; exact rmK_len hn h
  · rename_i h; rw [rmK_not h]
/-- New keys are never there. -/
theorem can_new {room : Nat} : ∀ {r C D : List Int} {n : Nat}, Can room r C n → (∀ x ∈ C, x ∈ D) → D.Nodup → n + (usedR D r).length ≤ r.length + D.length
  | [], C, D, n, h, _, _ => by simp only [Can] at h; subst h; simp [usedR]
  | k :: r, C, D, n, ⟨E, m, h1, h2, h3, h4, h5, h6⟩, hs, hn => by
    have h7 := can_new (D := k :: rmK D k) h5 (fun x hx => by
      by_cases e : x = k
      · rw [e]; simp
      · exact List.mem_cons_of_mem _ (mem_rmK.2 ⟨hs x ((h4 x hx).resolve_left e), e⟩)) (List.nodup_cons.2 ⟨fun h => (mem_rmK.1 h).2 rfl, rmK_nodup hn⟩)
    rw [len_add hn] at h7
    rw [usedR, List.length_cons]
    by_cases hk : k ∈ C
    · rw [if_pos hk] at h6; rw [if_pos (hs k hk)] at h7; omega
    · rw [if_neg hk] at h6
      split at h7 <;> omega
/-- What a policy does to the keys of its cache: never more than `cap`, and while fewer than `free` are there, none leaves. -/
def Runs (cap free : Nat) : List Int → List Int → List Int → Nat → Prop
  | [], C, E, n => E = C ∧ n = 0
  | k :: r, C, E, n => ∃ D m, D.Nodup ∧ D.length ≤ cap ∧ k ∈ D ∧ (∀ x ∈ D, x = k ∨ x ∈ C) ∧ ((k ∈ C ∨ C.length < free) → ∀ x ∈ C, x ∈ D) ∧ (k ∉ C → free ≤ C.length → free ≤ D.length) ∧
      Runs cap free r D E m ∧ n = m + (if k ∈ C then 1 else 0)
theorem Runs.can {cap free : Nat} : ∀ {r C E : List Int} {n : Nat}, Runs cap free r C E n → Can cap r C n
  | [], _, _, _, h => h.2
  | k :: r, C, E, n, ⟨D, m, h1, h2, h3, h4, _, _, h7, h8⟩ => ⟨D, m, h1, h2, h3, h4, h7.can, by omega⟩
theorem Runs.new {cap free : Nat} {t E : List Int} {n : Nat} (h : Runs cap free t [] E n) : n + nk t ≤ t.length := by
  have := can_new (D := []) h.can (by simp) (by simp)
  simpa [nk] using this
def VSk (s : List Int) : Prop := s.length = 24 ∧ ∀ x ∈ s, 0 ≤ x ∧ x ≤ 15
theorem VSk.get {s : List Int} (v : VSk s) (i : Nat) : 0 ≤ s.getD i 0 ∧ s.getD i 0 ≤ 15 := by
  by_cases h : i < s.length
  · exact v.2 _ (mem_getD h)
  · rw [List.getD_eq_getElem?_getD, List.getElem?_eq_none (by omega)]; simp
def PTm (l : List (Int × Int)) : Prop := (∀ e ∈ l, (0 ≤ e.1 ∧ e.1 ≤ 31) ∧ 0 ≤ e.2 ∧ e.2 ≤ 1000) ∧ l.Pairwise fun a b => a.1 < b.1
def VTm (l : List (Int × Int)) : Prop := l.length ≤ 12 ∧ PTm l
theorem PTm.filter {l : List (Int × Int)} (v : PTm l) (p : Int × Int → Bool) : PTm (l.filter p) := ⟨fun e he => v.1 e (List.mem_filter.1 he).1, v.2.filter p⟩
def dropM (l : List (Int × Int)) (now : Int) : List (Int × Int) := l.filter fun e => decide (now ≤ e.2)
theorem dropM_len (l : List (Int × Int)) (now : Int) : (dropM l now).length ≤ l.length := List.length_filter_le _ _
theorem VTm.drop {l : List (Int × Int)} (v : VTm l) (now : Int) : VTm (dropM l now) := ⟨Nat.le_trans (dropM_len l now) v.1, v.2.filter _⟩
-- spec.newReader
def G_spec_newReader (code0 : List Int) (k : List Int → Int → Prop) : Prop :=
  br (decide ((code0.length : Int) > 2000))
  ((0 ≤ (2000 : Int) ∧ 2000 ≤ (code0.length : Int)) ∧
    k (List.take 2000 code0) 0)
  (k code0 0)
def S_spec_newReader (code0 : List Int) (k : List Int → Int → Prop) : Prop := G_spec_newReader code0 k
def F_spec_newReader (code : List Int) (k : List Int → Int → Prop) : Prop := (∀ x ∈ code, 0 ≤ x ∧ x ≤ 255) ∧ ∀ b, Bs b → k b 0
theorem F_spec_newReader_S {code : List Int} {k : List Int → Int → Prop} (h : F_spec_newReader code k) : S_spec_newReader code k := by
  obtain ⟨hb, hk⟩ := h
  simp only [S_spec_newReader, G_spec_newReader, br_dec]
  refine ⟨fun h1 => ⟨⟨by omega, by omega⟩, hk _ ⟨by simp; omega, fun x hx => hb x (List.mem_of_mem_take hx)⟩⟩, fun h1 => hk _ ⟨by omega, hb⟩⟩
-- (*spec.reader).pick
def G_spec_reader_pick (r0b : List Int) (r0p : Int) (n1 : Int) (k : Int → List Int → Int → Prop) : Prop :=
  InR (r0p + 1) ∧
  br (decide (n1 < 1))
  (k 0 r0b (r0p + 1))
  (br ((r0b.length : Int) == 0)
    (k 0 r0b (r0p + 1))
    (InR ((r0p + 1) - 1) ∧
      br (decide (((r0p + 1) - 1) < (r0b.length : Int)))
      ((0 ≤ ((r0p + 1) - 1) ∧ ((r0p + 1) - 1) < (r0b.length : Int)) ∧
        InR (List.getD r0b (Int.toNat ((r0p + 1) - 1)) (0 : Int)) ∧
        (n1 ≠ 0) ∧
        k (Int.tmod (List.getD r0b (Int.toNat ((r0p + 1) - 1)) (0 : Int)) n1) r0b (r0p + 1))
      (((r0b.length : Int) ≠ 0) ∧
        (0 ≤ (Int.tmod ((r0p + 1) - 1) (r0b.length : Int)) ∧ (Int.tmod ((r0p + 1) - 1) (r0b.length : Int)) < (r0b.length : Int)) ∧
        InR (List.getD r0b (Int.toNat (Int.tmod ((r0p + 1) - 1) (r0b.length : Int))) (0 : Int)) ∧
        InR ((List.getD r0b (Int.toNat (Int.tmod ((r0p + 1) - 1) (r0b.length : Int))) (0 : Int)) * 131) ∧
        InR (((r0p + 1) - 1) * 7) ∧
        InR ((((r0p + 1) - 1) * 7) + 3) ∧
        ((r0b.length : Int) ≠ 0) ∧
        (0 ≤ (Int.tmod ((((r0p + 1) - 1) * 7) + 3) (r0b.length : Int)) ∧ (Int.tmod ((((r0p + 1) - 1) * 7) + 3) (r0b.length : Int)) < (r0b.length : Int)) ∧
        InR (List.getD r0b (Int.toNat (Int.tmod ((((r0p + 1) - 1) * 7) + 3) (r0b.length : Int))) (0 : Int)) ∧
        InR ((List.getD r0b (Int.toNat (Int.tmod ((((r0p + 1) - 1) * 7) + 3) (r0b.length : Int))) (0 : Int)) * 1117) ∧
        InR (((List.getD r0b (Int.toNat (Int.tmod ((r0p + 1) - 1) (r0b.length : Int))) (0 : Int)) * 131) + ((List.getD r0b (Int.toNat (Int.tmod ((((r0p + 1) - 1) * 7) + 3) (r0b.length : Int))) (0 : Int)) * 1117)) ∧
        InR (((r0p + 1) - 1) * 29) ∧
        InR ((((List.getD r0b (Int.toNat (Int.tmod ((r0p + 1) - 1) (r0b.length : Int))) (0 : Int)) * 131) + ((List.getD r0b (Int.toNat (Int.tmod ((((r0p + 1) - 1) * 7) + 3) (r0b.length : Int))) (0 : Int)) * 1117)) + (((r0p + 1) - 1) * 29)) ∧
        ((r0b.length : Int) ≠ 0 ∧ InR (Int.tdiv ((r0p + 1) - 1) (r0b.length : Int))) ∧
        InR ((Int.tdiv ((r0p + 1) - 1) (r0b.length : Int)) * 53) ∧
        InR (((((List.getD r0b (Int.toNat (Int.tmod ((r0p + 1) - 1) (r0b.length : Int))) (0 : Int)) * 131) + ((List.getD r0b (Int.toNat (Int.tmod ((((r0p + 1) - 1) * 7) + 3) (r0b.length : Int))) (0 : Int)) * 1117)) + (((r0p + 1) - 1) * 29)) + ((Int.tdiv ((r0p + 1) - 1) (r0b.length : Int)) * 53)) ∧
        ((64 : Int) ≠ 0 ∧ InR (Int.tdiv (((((List.getD r0b (Int.toNat (Int.tmod ((r0p + 1) - 1) (r0b.length : Int))) (0 : Int)) * 131) + ((List.getD r0b (Int.toNat (Int.tmod ((((r0p + 1) - 1) * 7) + 3) (r0b.length : Int))) (0 : Int)) * 1117)) + (((r0p + 1) - 1) * 29)) + ((Int.tdiv ((r0p + 1) - 1) (r0b.length : Int)) * 53)) 64)) ∧
        (n1 ≠ 0) ∧
        k (Int.tmod (IntKind.i64.wrap ((BitVec.ofInt 64 (((((List.getD r0b (Int.toNat (Int.tmod ((r0p + 1) - 1) (r0b.length : Int))) (0 : Int)) * 131) + ((List.getD r0b (Int.toNat (Int.tmod ((((r0p + 1) - 1) * 7) + 3) (r0b.length : Int))) (0 : Int)) * 1117)) + (((r0p + 1) - 1) * 29)) + ((Int.tdiv ((r0p + 1) - 1) (r0b.length : Int)) * 53)) ^^^ BitVec.ofInt 64 (Int.tdiv (((((List.getD r0b (Int.toNat (Int.tmod ((r0p + 1) - 1) (r0b.length : Int))) (0 : Int)) * 131) + ((List.getD r0b (Int.toNat (Int.tmod ((((r0p + 1) - 1) * 7) + 3) (r0b.length : Int))) (0 : Int)) * 1117)) + (((r0p + 1) - 1) * 29)) + ((Int.tdiv ((r0p + 1) - 1) (r0b.length : Int)) * 53)) 64)).toNat : Int)) n1) r0b (r0p + 1))))
def S_spec_reader_pick (r0b : List Int) (r0p : Int) (n1 : Int) (k : Int → List Int → Int → Prop) : Prop := G_spec_reader_pick r0b r0p n1 k
def F_spec_reader_pick (b : List Int) (p n : Int) (k : Int → List Int → Int → Prop) : Prop := (Bs b ∧ 0 ≤ p ∧ p ≤ 1000000000) ∧ ∀ x, Pk n x → k x b (p + 1)
theorem F_spec_reader_pick_S {b : List Int} {p n : Int} {k : Int → List Int → Int → Prop} (h : F_spec_reader_pick b p n k) : S_spec_reader_pick b p n k := by
  obtain ⟨⟨hb, h0, h1⟩, hk⟩ := h
  simp only [S_spec_reader_pick, G_spec_reader_pick, br_dec, br_beq]
  refine ⟨inR (by omega) (by omega), fun h2 => hk 0 (.inl ⟨h2, rfl⟩), fun h2 => ⟨fun h3 => hk 0 (.inr ⟨by omega, by omega⟩), fun h3 => ⟨inR (by omega) (by omega), ?_⟩⟩⟩
  have hlen := hb.1
  rw [show p + 1 - 1 = p by omega]
  refine ⟨fun h4 => ⟨⟨by omega, by omega⟩, ?_⟩, fun h4 => ?_⟩
  · have := hb.get (Int.toNat p)
    exact ⟨inR (by omega) (by omega), by omega, hk _ (.inr ⟨Int.tmod_nonneg _ this.1, Int.tmod_lt_of_pos _ (by omega)⟩)⟩
  · have hl : (0 : Int) < b.length := by omega
    have a1 := Int.tmod_nonneg (b.length : Int) h0
    have a2 := Int.tmod_lt_of_pos p hl
    have a3 := Int.tmod_nonneg (b.length : Int) (show (0 : Int) ≤ p * 7 + 3 by omega)
    have a4 := Int.tmod_lt_of_pos (p * 7 + 3) hl
    have a5 := hb.get (Int.toNat (Int.tmod p b.length))
    have a6 := hb.get (Int.toNat (Int.tmod (p * 7 + 3) b.length))
    have a7 : 0 ≤ Int.tdiv p b.length := Int.tdiv_nonneg h0 (by omega)
    have a8 : Int.tdiv p b.length ≤ p := Int.tdiv_le_self _ h0
    generalize List.getD b (Int.toNat (Int.tmod p b.length)) 0 = x at *
    generalize List.getD b (Int.toNat (Int.tmod (p * 7 + 3) b.length)) 0 = y at *
    generalize Int.tdiv p b.length = z at *
    have hsum : 0 ≤ x * 131 + y * 1117 + p * 29 + z * 53 ∧ x * 131 + y * 1117 + p * 29 + z * 53 ≤ 90000000000 := by omega
    have a9 : 0 ≤ Int.tdiv (x * 131 + y * 1117 + p * 29 + z * 53) 64 := Int.tdiv_nonneg hsum.1 (by omega)
    have a10 : Int.tdiv (x * 131 + y * 1117 + p * 29 + z * 53) 64 ≤ x * 131 + y * 1117 + p * 29 + z * 53 := Int.tdiv_le_self _ hsum.1
    refine ⟨by omega, ⟨by omega, by omega⟩, inR (by omega) (by omega), inR (by omega) (by omega), inR (by omega) (by omega), inR (by omega) (by omega), by omega, ⟨by omega, by omega⟩, inR (by omega) (by omega), inR (by omega) (by omega), inR (by omega) (by omega), inR (by omega) (by omega), inR (by omega) (by omega),
      ⟨by omega, inR (by omega) (by omega)⟩, inR (by omega) (by omega), inR (by omega) (by omega), ⟨by omega, inR (by omega) (by omega)⟩, by omega, hk _ (.inr ⟨?_, Int.tmod_lt_of_pos _ (by omega)⟩)⟩
    exact Int.tmod_nonneg _ (xor_nn _ _ hsum.1 (by omega) a9 (by omega))
-- (*spec.reader).one
def G_spec_reader_one (r0b : List Int) (r0p : Int) (list1 : List Int) (k : Int → List Int → Int → Prop) : Prop :=
  F_spec_reader_pick r0b r0p (list1.length : Int) fun pick9 opick9b opick9p =>
  (0 ≤ pick9 ∧ pick9 < (list1.length : Int)) ∧
  k (List.getD list1 (Int.toNat pick9) (0 : Int)) opick9b opick9p
def S_spec_reader_one (r0b : List Int) (r0p : Int) (list1 : List Int) (k : Int → List Int → Int → Prop) : Prop := G_spec_reader_one r0b r0p list1 k
def F_spec_reader_one (b : List Int) (p : Int) (l : List Int) (k : Int → List Int → Int → Prop) : Prop := (Bs b ∧ 0 ≤ p ∧ p ≤ 1000000000 ∧ 0 < l.length) ∧ ∀ x ∈ l, k x b (p + 1)
theorem F_spec_reader_one_S {b : List Int} {p : Int} {l : List Int} {k : Int → List Int → Int → Prop} (h : F_spec_reader_one b p l k) : S_spec_reader_one b p l k := by
  obtain ⟨⟨hb, h0, h1, h2⟩, hk⟩ := h
  refine ⟨⟨hb, h0, h1⟩, fun x hx => ?_⟩
  rcases hx with ⟨h3, _⟩ | ⟨h3, h4⟩
  · omega
  · have hlt : x.toNat < l.length := by omega
    have hx : l[x.toNat]? = some (l.getD x.toNat 0) := by simp [List.getD, hlt]
    exact ⟨⟨h3, h4⟩, hk _ (List.mem_of_getElem? hx)⟩
-- spec.copyInts
def G_spec_copyInts (list0 : List Int) (k : List Int → Prop) : Prop :=
  (0 + list0.length ≤ 1000000000) ∧
  k list0
def S_spec_copyInts (list0 : List Int) (k : List Int → Prop) : Prop := G_spec_copyInts list0 k
def F_spec_copyInts (l : List Int) (k : List Int → Prop) : Prop := l.length ≤ 1000000000 ∧ k l
theorem F_spec_copyInts_S {l : List Int} {k : List Int → Prop} (h : F_spec_copyInts l k) : S_spec_copyInts l k := ⟨by have := h.1; omega, h.2⟩
-- spec.placeOf
def T0_spec_placeOf (list0 : List Int) (n1 : Int) (xi5 : Int) (k : Int → Prop) (B0 : Int → Prop) : Prop :=
  br (decide (xi5 < (list0.length : Int)))
  ((0 ≤ xi5 ∧ xi5 < (list0.length : Int)) ∧
    br ((List.getD list0 (Int.toNat xi5) (0 : Int)) == n1)
    (k xi5)
    (InR (xi5 + 1) ∧
      B0 (xi5 + 1)))
  (k (-1))
def L0_spec_placeOf (list0 : List Int) (n1 : Int) (k : Int → Prop) : Nat → Int → Prop
  | 0, _ => False
  | n + 1, xi5 => T0_spec_placeOf list0 n1 xi5 k (L0_spec_placeOf list0 n1 k n)
def G_spec_placeOf (list0 : List Int) (n1 : Int) (I0 : List Int → Int → Int → Prop) : Prop :=
  I0 list0 n1 0
def S_spec_placeOf (list0 : List Int) (n1 : Int) (k : Int → Prop) : Prop := G_spec_placeOf list0 n1 (fun list0 n1 xi5 => ∃ j, L0_spec_placeOf list0 n1 k j xi5)
def F_spec_placeOf (l : List Int) (n : Int) (k : Int → Prop) : Prop := l.length ≤ 1000000000 ∧ k (plc l n)
theorem F_spec_placeOf_S {l : List Int} {n : Int} {k : Int → Prop} (h : F_spec_placeOf l n k) : S_spec_placeOf l n k := by
  obtain ⟨hl, hk⟩ := h
  have key : ∀ (r : List Int) (i : Nat), l.drop i = r → plcF r n i = plc l n → L0_spec_placeOf l n k (r.length + 1) (i : Int) := by
    intro r
    induction r with
    | nil =>
      intro i hd he
      have := drop_nil' hd
      rw [L0_spec_placeOf, T0_spec_placeOf]
      simp only [br_dec]
      exact ⟨fun h => by omega, fun _ => by rw [show (-1 : Int) = plc l n from he]; exact hk⟩
    | cons x r ih =>
      intro i hd he
      obtain ⟨h1, h2, _, h3, _⟩ := drop_cons' hd
      rw [List.length_cons, L0_spec_placeOf, T0_spec_placeOf]
      simp only [br_dec, br_beq, Int.toNat_natCast, h2]
      refine ⟨fun _ => ⟨⟨by omega, by omega⟩, fun hx => ?_, fun hx => ⟨inR (by omega) (by omega), ?_⟩⟩, fun h => by omega⟩
      · simp only [plcF, if_pos hx] at he; rw [he]; exact hk
      · simp only [plcF, if_neg hx] at he; exact ih (i + 1) h3 he
  exact ⟨_, key l 0 rfl rfl⟩
-- spec.without
def G_spec_without (list0 : List Int) (at1 : Int) (k : List Int → Prop) : Prop :=
  (0 ≤ at1 ∧ at1 ≤ (list0.length : Int)) ∧
  InR (at1 + 1) ∧
  (0 ≤ (at1 + 1) ∧ (at1 + 1) ≤ (list0.length : Int)) ∧
  (((0 + (List.length (List.take (Int.toNat at1) list0)) ≤ 1000000000) ∧
      (((List.length (List.take (Int.toNat at1) list0)) + (List.length (List.drop (Int.toNat (at1 + 1)) list0)) ≤ 1000000000) ∧
        k ((List.take (Int.toNat at1) list0) ++ (List.drop (Int.toNat (at1 + 1)) list0))) ∧
      (True)) ∧
    (True)) ∧
  (True)
def H_spec_without (list0 : List Int) (at1 : Int) (k : List Int → Prop) : Prop :=
  (0 ≤ at1 ∧ at1 ≤ (list0.length : Int)) ∧
  InR (at1 + 1) ∧
  (0 ≤ (at1 + 1) ∧ (at1 + 1) ≤ (list0.length : Int)) ∧
  (0 + (List.length (List.take (Int.toNat at1) list0)) ≤ 1000000000) ∧
  ((List.length (List.take (Int.toNat at1) list0)) + (List.length (List.drop (Int.toNat (at1 + 1)) list0)) ≤ 1000000000) ∧
  k ((List.take (Int.toNat at1) list0) ++ (List.drop (Int.toNat (at1 + 1)) list0))
theorem G_spec_without_eq (list0 : List Int) (at1 : Int) (k : List Int → Prop) : G_spec_without list0 at1 k = H_spec_without list0 at1 k := by
  simp only [G_spec_without, H_spec_without, and_self, and_true]
def S_spec_without (list0 : List Int) (at1 : Int) (k : List Int → Prop) : Prop := H_spec_without list0 at1 k
def F_spec_without (l : List Int) (at1 : Int) (k : List Int → Prop) : Prop := (0 ≤ at1 ∧ at1 < l.length ∧ l.length ≤ 1000000000) ∧ k (l.take at1.toNat ++ l.drop (at1.toNat + 1))
theorem F_spec_without_S {l : List Int} {at1 : Int} {k : List Int → Prop} (h : F_spec_without l at1 k) : S_spec_without l at1 k := by
  obtain ⟨⟨h1, h2, h3⟩, hk⟩ := h
  have e : (at1 + 1).toNat = at1.toNat + 1 := by omega
  refine ⟨⟨by omega, by omega⟩, inR (by omega) (by omega), ⟨by omega, by omega⟩, by simp; omega, by simp; omega, ?_⟩
  rw [e]; exact hk
-- spec.recent
def G_spec_recent (list0 : List Int) (room1 : Int) (key2 : Int) (k : List Int → Bool → Prop) : Prop :=
  F_spec_placeOf list0 key2 fun placeOf12 =>
  br (decide (placeOf12 ≥ 0))
  (F_spec_without list0 placeOf12 fun without19 =>
    (1 + without19.length ≤ 1000000000) ∧
    k (([key2] : List Int) ++ without19) true)
  ((1 + list0.length ≤ 1000000000) ∧
    (0 ≤ (if ((List.length (([key2] : List Int) ++ list0)) : Int) < room1 then ((List.length (([key2] : List Int) ++ list0)) : Int) else room1) ∧ (if ((List.length (([key2] : List Int) ++ list0)) : Int) < room1 then ((List.length (([key2] : List Int) ++ list0)) : Int) else room1) ≤ ((List.length (([key2] : List Int) ++ list0)) : Int)) ∧
    k (List.take (Int.toNat (if ((List.length (([key2] : List Int) ++ list0)) : Int) < room1 then ((List.length (([key2] : List Int) ++ list0)) : Int) else room1)) (List.drop 0 (([key2] : List Int) ++ list0))) false)
def S_spec_recent (list0 : List Int) (room1 : Int) (key2 : Int) (k : List Int → Bool → Prop) : Prop := G_spec_recent list0 room1 key2 k
def F_spec_recent (l : List Int) (room key : Int) (k : List Int → Bool → Prop) : Prop := VKeys l room ∧ k (recM l room key) (decide (key ∈ l))
theorem F_spec_recent_S {l : List Int} {room key : Int} {k : List Int → Bool → Prop} (h : F_spec_recent l room key k) : S_spec_recent l room key k := by
  obtain ⟨⟨v1, v2, v3, v4, v5⟩, hk⟩ := h
  refine ⟨by omega, br_dec.2 ⟨fun hp => ?_, fun hp => ?_⟩⟩
  · have hm := plc_ge.1 hp
    obtain ⟨j, j1, j2, _, j3⟩ := plc_pos hm
    rw [j3]
    refine ⟨⟨by omega, by omega, by omega⟩, ?_⟩
    rw [Int.toNat_natCast, rmK_erase v5 j2]
    have := rmK_len v5 hm
    refine ⟨by omega, ?_⟩
    rw [recM_hit v5 v3 hm, decide_eq_true hm] at hk; exact hk
  · have hm : key ∉ l := fun e => hp (plc_ge.2 e)
    refine ⟨by omega, ⟨?_, ?_⟩, ?_⟩
    · split <;> omega
    · split <;> omega
    · rw [recM_miss hm, decide_eq_false hm] at hk
      rw [List.drop_zero, take_min1]; exact hk
-- spec.promote
def G_spec_promote_j0 (copyInts15 : List Int) (copyInts18 : List Int) (key1 : Int) (s0Safe : Int) (s0Trial : Int) (k : Int → Int → List Int → List Int → Bool → Prop) : Prop :=
  (F_spec_placeOf copyInts18 key1 fun placeOf23 =>
    br (decide (placeOf23 ≥ 0))
    (F_spec_without copyInts18 placeOf23 fun without31 =>
      (1 + without31.length ≤ 1000000000) ∧
      k s0Trial s0Safe copyInts15 (([key1] : List Int) ++ without31) true)
    (F_spec_placeOf copyInts15 key1 fun placeOf38 =>
      br (decide (placeOf38 < 0))
      (F_spec_recent copyInts15 s0Trial key1 fun recent47r0 recent47r1 =>
        k s0Trial s0Safe recent47r0 copyInts18 false)
      (F_spec_without copyInts15 placeOf38 fun without55 =>
        (1 + copyInts18.length ≤ 1000000000) ∧
        br (decide (((List.length (([key1] : List Int) ++ copyInts18)) : Int) > s0Safe))
        ((0 ≤ s0Safe ∧ s0Safe < ((List.length (([key1] : List Int) ++ copyInts18)) : Int)) ∧
          (0 ≤ s0Safe ∧ s0Safe ≤ ((List.length (([key1] : List Int) ++ copyInts18)) : Int)) ∧
          (1 + without55.length ≤ 1000000000) ∧
          k s0Trial s0Safe (([(List.getD (([key1] : List Int) ++ copyInts18) (Int.toNat s0Safe) (0 : Int))] : List Int) ++ without55) (List.take (Int.toNat s0Safe) (List.drop 0 (([key1] : List Int) ++ copyInts18))) true)
        (k s0Trial s0Safe without55 (([key1] : List Int) ++ copyInts18) true)))) ∧
  (True)
def G_spec_promote_j1 (copyInts15 : List Int) (key1 : Int) (s0Old : List Int) (s0Safe : Int) (s0Trial : Int) (k : Int → Int → List Int → List Int → Bool → Prop) : Prop :=
  (F_spec_copyInts s0Old fun copyInts18 =>
    G_spec_promote_j0 copyInts15 copyInts18 key1 s0Safe s0Trial k) ∧
  (True)
def G_spec_promote (s0Trial : Int) (s0Safe : Int) (s0New : List Int) (s0Old : List Int) (key1 : Int) (k : Int → Int → List Int → List Int → Bool → Prop) : Prop :=
  (F_spec_copyInts s0New fun copyInts15 =>
    (F_spec_copyInts s0Old fun copyInts18 =>
      (G_spec_promote_j0 copyInts15 copyInts18 key1 s0Safe s0Trial k) ∧
      (True)) ∧
    ((G_spec_promote_j1 copyInts15 key1 s0Old s0Safe s0Trial k) ∧
      (True))) ∧
  (((F_spec_copyInts s0New fun copyInts15 =>
        G_spec_promote_j1 copyInts15 key1 s0Old s0Safe s0Trial k) ∧
      (True)) ∧
    (True))
def H_spec_promote (s0Trial : Int) (s0Safe : Int) (s0New : List Int) (s0Old : List Int) (key1 : Int) (k : Int → Int → List Int → List Int → Bool → Prop) : Prop :=
  F_spec_copyInts s0New fun copyInts15 =>
  F_spec_copyInts s0Old fun copyInts18 =>
  F_spec_placeOf copyInts18 key1 fun placeOf23 =>
  br (decide (placeOf23 ≥ 0))
  (F_spec_without copyInts18 placeOf23 fun without31 =>
    (1 + without31.length ≤ 1000000000) ∧
    k s0Trial s0Safe copyInts15 (([key1] : List Int) ++ without31) true)
  (F_spec_placeOf copyInts15 key1 fun placeOf38 =>
    br (decide (placeOf38 < 0))
    (F_spec_recent copyInts15 s0Trial key1 fun recent47r0 recent47r1 =>
      k s0Trial s0Safe recent47r0 copyInts18 false)
    (F_spec_without copyInts15 placeOf38 fun without55 =>
      (1 + copyInts18.length ≤ 1000000000) ∧
      br (decide (((List.length (([key1] : List Int) ++ copyInts18)) : Int) > s0Safe))
      ((0 ≤ s0Safe ∧ s0Safe < ((List.length (([key1] : List Int) ++ copyInts18)) : Int)) ∧
        (0 ≤ s0Safe ∧ s0Safe ≤ ((List.length (([key1] : List Int) ++ copyInts18)) : Int)) ∧
        (1 + without55.length ≤ 1000000000) ∧
        k s0Trial s0Safe (([(List.getD (([key1] : List Int) ++ copyInts18) (Int.toNat s0Safe) (0 : Int))] : List Int) ++ without55) (List.take (Int.toNat s0Safe) (List.drop 0 (([key1] : List Int) ++ copyInts18))) true)
      (k s0Trial s0Safe without55 (([key1] : List Int) ++ copyInts18) true)))
theorem G_spec_promote_eq (s0Trial : Int) (s0Safe : Int) (s0New : List Int) (s0Old : List Int) (key1 : Int) (k : Int → Int → List Int → List Int → Bool → Prop) : G_spec_promote s0Trial s0Safe s0New s0Old key1 k = H_spec_promote s0Trial s0Safe s0New s0Old key1 k := by
  simp only [G_spec_promote, H_spec_promote, G_spec_promote_j0, G_spec_promote_j1, and_self, and_true]
def S_spec_promote (s0Trial : Int) (s0Safe : Int) (s0New : List Int) (s0Old : List Int) (key1 : Int) (k : Int → Int → List Int → List Int → Bool → Prop) : Prop := H_spec_promote s0Trial s0Safe s0New s0Old key1 k
def F_spec_promote (trial safe : Int) (new old : List Int) (key : Int) (k : Int → Int → List Int → List Int → Bool → Prop) : Prop :=
  VSegs trial safe new old ∧ k trial safe (segM trial safe new old key).1 (segM trial safe new old key).2.1 (segM trial safe new old key).2.2
theorem F_spec_promote_S {trial safe : Int} {new old : List Int} {key : Int} {k : Int → Int → List Int → List Int → Bool → Prop} (h : F_spec_promote trial safe new old key k) : S_spec_promote trial safe new old key k := by
  obtain ⟨v, hk⟩ := h
  have l1 := segs_len v
  obtain ⟨v1, v2, v3⟩ := v
  have ho8 := v2.2.2.1
  have hs1 := v2.1
  unfold segM at hk
  refine ⟨by omega, by omega, by omega, br_dec.2 ⟨fun hp => ?_, fun hp => ⟨by omega, br_dec.2 ⟨fun hq => ?_, fun hq => ?_⟩⟩⟩⟩
  · have hm := plc_ge.1 hp
    rw [if_pos hm] at hk
    obtain ⟨j, j1, j2, _, j3⟩ := plc_pos hm
    rw [j3]
    refine ⟨⟨by omega, by omega, by omega⟩, ?_⟩
    rw [Int.toNat_natCast, rmK_erase v2.2.2.2.2 j2]
    have := @rmK_le old key
    exact ⟨by omega, hk⟩
  · have hm : key ∉ old := fun e => hp (plc_ge.2 e)
    have hn : key ∉ new := fun e => by have := plc_ge.2 e; omega
    rw [if_neg hm, if_neg hn] at hk
    refine ⟨v1, ?_⟩
    rw [recM_miss hn]; exact hk
  · have hm : key ∉ old := fun e => hp (plc_ge.2 e)
    have hn : key ∈ new := plc_ge.1 (by omega)
    rw [if_neg hm, if_pos hn] at hk
    obtain ⟨j, j1, j2, _, j3⟩ := plc_pos hn
    rw [j3]
    refine ⟨⟨by omega, by omega, by omega⟩, ?_⟩
    rw [Int.toNat_natCast, rmK_erase v1.2.2.2.2 j2]
    have := @rmK_le new key
    refine ⟨by omega, br_dec.2 ⟨fun hs => ?_, fun hs => ?_⟩⟩
    · simp only [List.length_append, List.length_cons, List.length_nil] at hs
      rw [if_pos (show (old.length : Int) = safe by omega)] at hk
      refine ⟨⟨by omega, by simp; omega⟩, ⟨by omega, by simp; omega⟩, by omega, ?_⟩
      have e1 : ([key] ++ old).getD safe.toNat 0 = old.getD (old.length - 1) 0 := by
        rw [show safe.toNat = (old.length - 1) + 1 by omega]; rfl
      rw [e1]; exact hk
    · simp only [List.length_append, List.length_cons, List.length_nil] at hs
      rw [if_neg (show ¬ (old.length : Int) = safe by omega), List.take_of_length_le (by simp; omega)] at hk
      exact hk
-- (*spec.reader).spoil
def G_spec_reader_spoil (r0b : List Int) (r0p : Int) (list1 : List Int) (n2 : Int) (k : List Int → List Int → Int → Prop) : Prop :=
  F_spec_copyInts list1 fun copyInts9 =>
  F_spec_reader_pick r0b r0p (20 : Int) fun pick11 opick11b opick11p =>
  br (pick11 == 0)
  ((copyInts9.length + 1 ≤ 1000000000) ∧
    k (copyInts9 ++ ([n2] : List Int)) opick11b opick11p)
  (br (pick11 == 1)
    (br (decide ((copyInts9.length : Int) > 0))
      ((0 ≤ (1 : Int) ∧ 1 ≤ (copyInts9.length : Int)) ∧
        k (List.take (copyInts9.length - 1) (List.drop 1 copyInts9)) opick11b opick11p)
      (k copyInts9 opick11b opick11p))
    (br (pick11 == 2)
      (br (decide ((copyInts9.length : Int) > 0))
        (F_spec_reader_pick opick11b opick11p (copyInts9.length : Int) fun pick34 opick34b opick34p =>
          F_spec_reader_one opick34b opick34p ([(-1), n2, 0, 1] : List Int) fun one38 oone38b oone38p =>
          (0 ≤ pick34 ∧ pick34 < (copyInts9.length : Int)) ∧
          k (List.set copyInts9 (Int.toNat pick34) one38) oone38b oone38p)
        (k copyInts9 opick11b opick11p))
      (k copyInts9 opick11b opick11p)))
def S_spec_reader_spoil (r0b : List Int) (r0p : Int) (list1 : List Int) (n2 : Int) (k : List Int → List Int → Int → Prop) : Prop := G_spec_reader_spoil r0b r0p list1 n2 k
def F_spec_reader_spoil (b : List Int) (p : Int) (l : List Int) (n : Int) (k : List Int → List Int → Int → Prop) : Prop :=
  (Bs b ∧ 0 ≤ p ∧ p ≤ 100000000 ∧ l.length ≤ 100000000) ∧ ∀ r p', r.length ≤ l.length + 1 → p ≤ p' → p' ≤ p + 10 → k r b p'
theorem F_spec_reader_spoil_S {b : List Int} {p : Int} {l : List Int} {n : Int} {k : List Int → List Int → Int → Prop} (h : F_spec_reader_spoil b p l n k) : S_spec_reader_spoil b p l n k := by
  obtain ⟨⟨hb, h0, h1, h2⟩, hk⟩ := h
  refine ⟨by omega, ⟨hb, h0, by omega⟩, fun x hx => br_beq.2 ⟨fun _ => ⟨by omega, hk _ _ (by simp) (by omega) (by omega)⟩, fun _ => br_beq.2 ⟨fun _ => br_dec.2 ⟨fun h3 => ⟨⟨by omega, by omega⟩, hk _ _ (by simp; omega) (by omega) (by omega)⟩, fun _ => hk _ _ (by omega) (by omega) (by omega)⟩, fun _ => br_beq.2 ⟨fun _ => br_dec.2 ⟨fun h3 => ?_, fun _ => hk _ _ (by omega) (by omega) (by omega)⟩, fun _ => hk _ _ (by omega) (by omega) (by omega)⟩⟩⟩⟩
  refine ⟨⟨hb, by omega, by omega⟩, fun y hy => ⟨⟨hb, by omega, by omega, by simp⟩, fun z hz => ⟨?_, hk _ _ (by simp) (by omega) (by omega)⟩⟩⟩
  rcases hy with ⟨h4, _⟩ | h4
  · omega
  · exact h4
-- spec.someSegments
def T0_spec_someSegments_j0 (opick24b : List Int) (opick24p : Int) (pick24 : Int) (xb3c0 : Int) (xb3c1 : Int) (xb3c2 : List Int) (xb3c3 : List Int) (xn4 : Int) (B0 : Int → List Int → Int → Int → Int → List Int → List Int → Prop) : Prop :=
  (F_spec_promote xb3c0 xb3c1 xb3c2 xb3c3 pick24 fun promote25Trial promote25Safe promote25New promote25Old promote25r1 =>
    (InR (xn4 - 1) ∧
      B0 (xn4 - 1) opick24b opick24p promote25Trial promote25Safe promote25New promote25Old) ∧
    (True)) ∧
  (True)
def T0_spec_someSegments_j1 (opick44b : List Int) (opick44p : Int) (pick44 : Int) (xb3c0 : Int) (xb3c1 : Int) (xb3c2 : List Int) (xb3c3 : List Int) (k : Int → Int → List Int → List Int → List Int → Int → Prop) : Prop :=
  (((xb3c3.length + 1 ≤ 1000000000) ∧
      (k xb3c0 xb3c1 xb3c2 (xb3c3 ++ ([pick44] : List Int)) opick44b opick44p) ∧
      (True)) ∧
    (True)) ∧
  (True)
def T0_spec_someSegments (xn4 : Int) (xb100000c0 : List Int) (xb100000c1 : Int) (xb3c0 : Int) (xb3c1 : Int) (xb3c2 : List Int) (xb3c3 : List Int) (k : Int → Int → List Int → List Int → List Int → Int → Prop) (B0 : Int → List Int → Int → Int → Int → List Int → List Int → Prop) : Prop :=
  br (decide (xn4 > 0))
  (((F_spec_reader_pick xb100000c0 xb100000c1 (9 : Int) fun pick24 opick24b opick24p =>
        T0_spec_someSegments_j0 opick24b opick24p pick24 xb3c0 xb3c1 xb3c2 xb3c3 xn4 B0) ∧
      (True)) ∧
    ((F_spec_reader_pick xb100000c0 xb100000c1 (9 : Int) fun pick24 opick24b opick24p =>
        (T0_spec_someSegments_j0 opick24b opick24p pick24 xb3c0 xb3c1 xb3c2 xb3c3 xn4 B0) ∧
        (True)) ∧
      (True)))
  (F_spec_reader_pick xb100000c0 xb100000c1 (24 : Int) fun pick29 opick29b opick29p =>
    br (pick29 == 0)
    ((xb3c2.length + 1 ≤ 1000000000) ∧
      F_spec_reader_spoil opick29b opick29p (xb3c2 ++ ([3] : List Int)) (32 : Int) fun spoil37 ospoil37b ospoil37p =>
      k xb3c0 xb3c1 spoil37 xb3c3 ospoil37b ospoil37p)
    (br (pick29 == 1)
      (((F_spec_reader_pick opick29b opick29p (9 : Int) fun pick44 opick44b opick44p =>
            T0_spec_someSegments_j1 opick44b opick44p pick44 xb3c0 xb3c1 xb3c2 xb3c3 k) ∧
          (True)) ∧
        ((F_spec_reader_pick opick29b opick29p (9 : Int) fun pick44 opick44b opick44p =>
            (T0_spec_someSegments_j1 opick44b opick44p pick44 xb3c0 xb3c1 xb3c2 xb3c3 k) ∧
            ((T0_spec_someSegments_j1 opick44b opick44p pick44 xb3c0 xb3c1 xb3c2 xb3c3 k) ∧
              (True))) ∧
          (True)))
      (br (pick29 == 2)
        (F_spec_reader_one opick29b opick29p ([0, 9, 1] : List Int) fun one52 oone52b oone52p =>
          k one52 xb3c1 xb3c2 xb3c3 oone52b oone52p)
        (k xb3c0 xb3c1 xb3c2 xb3c3 opick29b opick29p))))
def U0_spec_someSegments (xn4 : Int) (xb100000c0 : List Int) (xb100000c1 : Int) (xb3c0 : Int) (xb3c1 : Int) (xb3c2 : List Int) (xb3c3 : List Int) (k : Int → Int → List Int → List Int → List Int → Int → Prop) (B0 : Int → List Int → Int → Int → Int → List Int → List Int → Prop) : Prop :=
  br (decide (xn4 > 0))
  (F_spec_reader_pick xb100000c0 xb100000c1 (9 : Int) fun pick24 opick24b opick24p =>
    F_spec_promote xb3c0 xb3c1 xb3c2 xb3c3 pick24 fun promote25Trial promote25Safe promote25New promote25Old promote25r1 =>
    InR (xn4 - 1) ∧
    B0 (xn4 - 1) opick24b opick24p promote25Trial promote25Safe promote25New promote25Old)
  (F_spec_reader_pick xb100000c0 xb100000c1 (24 : Int) fun pick29 opick29b opick29p =>
    br (pick29 == 0)
    ((xb3c2.length + 1 ≤ 1000000000) ∧
      F_spec_reader_spoil opick29b opick29p (xb3c2 ++ ([3] : List Int)) (32 : Int) fun spoil37 ospoil37b ospoil37p =>
      k xb3c0 xb3c1 spoil37 xb3c3 ospoil37b ospoil37p)
    (br (pick29 == 1)
      (F_spec_reader_pick opick29b opick29p (9 : Int) fun pick44 opick44b opick44p =>
        (xb3c3.length + 1 ≤ 1000000000) ∧
        k xb3c0 xb3c1 xb3c2 (xb3c3 ++ ([pick44] : List Int)) opick44b opick44p)
      (br (pick29 == 2)
        (F_spec_reader_one opick29b opick29p ([0, 9, 1] : List Int) fun one52 oone52b oone52p =>
          k one52 xb3c1 xb3c2 xb3c3 oone52b oone52p)
        (k xb3c0 xb3c1 xb3c2 xb3c3 opick29b opick29p))))
theorem T0_spec_someSegments_eq (xn4 : Int) (xb100000c0 : List Int) (xb100000c1 : Int) (xb3c0 : Int) (xb3c1 : Int) (xb3c2 : List Int) (xb3c3 : List Int) (k : Int → Int → List Int → List Int → List Int → Int → Prop) (B0 : Int → List Int → Int → Int → Int → List Int → List Int → Prop) : T0_spec_someSegments xn4 xb100000c0 xb100000c1 xb3c0 xb3c1 xb3c2 xb3c3 k B0 = U0_spec_someSegments xn4 xb100000c0 xb100000c1 xb3c0 xb3c1 xb3c2 xb3c3 k B0 := by
  simp only [T0_spec_someSegments, U0_spec_someSegments, T0_spec_someSegments_j0, T0_spec_someSegments_j1, and_self, and_true]
def L0_spec_someSegments (k : Int → Int → List Int → List Int → List Int → Int → Prop) : Nat → Int → List Int → Int → Int → Int → List Int → List Int → Prop
  | 0, _, _, _, _, _, _, _ => False
  | n + 1, xn4, xb100000c0, xb100000c1, xb3c0, xb3c1, xb3c2, xb3c3 => U0_spec_someSegments xn4 xb100000c0 xb100000c1 xb3c0 xb3c1 xb3c2 xb3c3 k (L0_spec_someSegments k n)
def G_spec_someSegments (r0b : List Int) (r0p : Int) (I0 : Int → List Int → Int → Int → Int → List Int → List Int → Prop) : Prop :=
  F_spec_reader_one r0b r0p ([2, 1, 3, 4] : List Int) fun one7 oone7b oone7p =>
  F_spec_reader_one oone7b oone7p ([2, 3, 1, 4] : List Int) fun one10 oone10b oone10p =>
  F_spec_reader_one oone10b oone10p ([6, 10, 3, 16, 0] : List Int) fun one16 oone16b oone16p =>
  I0 one16 oone16b oone16p one7 one10 ([] : List Int) ([] : List Int)
def S_spec_someSegments (r0b : List Int) (r0p : Int) (k : Int → Int → List Int → List Int → List Int → Int → Prop) : Prop := G_spec_someSegments r0b r0p (fun xn4 xb100000c0 xb100000c1 xb3c0 xb3c1 xb3c2 xb3c3 => ∃ j, L0_spec_someSegments k j xn4 xb100000c0 xb100000c1 xb3c0 xb3c1 xb3c2 xb3c3)
def F_spec_someSegments (b : List Int) (p : Int) (k : Int → Int → List Int → List Int → List Int → Int → Prop) : Prop :=
  (Bs b ∧ 0 ≤ p ∧ p ≤ 10000000) ∧ ∀ trial safe new old p', new.length ≤ 100 → old.length ≤ 100 → p ≤ p' → p' ≤ p + 100 → k trial safe new old b p'
theorem F_spec_someSegments_S {b : List Int} {p : Int} {k : Int → Int → List Int → List Int → List Int → Int → Prop} (h : F_spec_someSegments b p k) : S_spec_someSegments b p k := by
  obtain ⟨⟨hb, h0, h1⟩, hk⟩ := h
  have key : ∀ (d : Nat) (q trial safe : Int) (new old : List Int), VSegs trial safe new old → p ≤ q → q + d ≤ p + 50 → L0_spec_someSegments k (d + 1) (d : Int) b q trial safe new old := by
    intro d
    induction d with
    | zero =>
      intro q trial safe new old v g1 g2
      have := segs_len v
      rw [L0_spec_someSegments, U0_spec_someSegments]
      refine br_dec.2 ⟨fun h => by omega, fun _ => ⟨⟨hb, by omega, by omega⟩, fun x hx => br_beq.2 ⟨fun _ => ⟨by omega, ⟨hb, by omega, by omega, by simp; omega⟩, fun r p' r1 r2 r3 => hk _ _ _ _ _ (by simp at r1; omega) (by omega) (by omega) (by omega)⟩, fun _ => br_beq.2 ⟨fun _ => ⟨⟨hb, by omega, by omega⟩, fun y hy => ⟨by omega, hk _ _ _ _ _ (by omega) (by simp; omega) (by omega) (by omega)⟩⟩, fun _ => br_beq.2 ⟨fun _ => ⟨⟨hb, by omega, by omega, by simp⟩, fun y _ => hk _ _ _ _ _ (by omega) (by omega) (by omega) (by omega)⟩, fun _ => hk _ _ _ _ _ (by omega) (by omega) (by omega) (by omega)⟩⟩⟩⟩⟩
    | succ d ih =>
      intro q trial safe new old v g1 g2
      rw [L0_spec_someSegments, U0_spec_someSegments]
      refine br_dec.2 ⟨fun _ => ⟨⟨hb, by omega, by omega⟩, fun x hx => ⟨v, inR (by omega) (by omega), ?_⟩⟩, fun h => by omega⟩
      rw [show ((d + 1 : Nat) : Int) - 1 = (d : Int) by omega]
      refine ih _ _ _ _ _ (segM_valid v ?_) (by omega) (by omega)
      unfold Pk at hx; omega
  refine ⟨⟨hb, by omega, by omega, by simp⟩, fun trial htr => ⟨⟨hb, by omega, by omega, by simp⟩, fun safe hsa => ⟨⟨hb, by omega, by omega, by simp⟩, fun n hn => ?_⟩⟩⟩
  simp only [List.mem_cons, List.not_mem_nil, or_false] at htr hsa hn
  refine ⟨n.toNat + 1, ?_⟩
  have := key n.toNat (p + 1 + 1 + 1) trial safe [] [] (segs0 (by omega) (by omega)) (by omega) (by omega)
  rwa [Int.toNat_of_nonneg (by omega)] at this
-- spec.someKey
def G_spec_someKey (r0b : List Int) (r0p : Int) (k : Int → List Int → Int → Prop) : Prop :=
  F_spec_reader_pick r0b r0p (8 : Int) fun pick5 opick5b opick5p =>
  F_spec_reader_pick opick5b opick5p (8 : Int) fun pick7 opick7b opick7p =>
  F_spec_reader_pick opick7b opick7p (32 : Int) fun pick9 opick9b opick9p =>
  F_spec_reader_one opick9b opick9p ([0, 1, 2, 3, 5, 31, 32, (-1), pick5, pick7, pick9, 4] : List Int) fun one11 oone11b oone11p =>
  k one11 oone11b oone11p
def S_spec_someKey (r0b : List Int) (r0p : Int) (k : Int → List Int → Int → Prop) : Prop := G_spec_someKey r0b r0p k
def F_spec_someKey (b : List Int) (p : Int) (k : Int → List Int → Int → Prop) : Prop := (Bs b ∧ 0 ≤ p ∧ p ≤ 100000000) ∧ ∀ x p', -1 ≤ x → x ≤ 32 → p ≤ p' → p' ≤ p + 10 → k x b p'
theorem F_spec_someKey_S {b : List Int} {p : Int} {k : Int → List Int → Int → Prop} (h : F_spec_someKey b p k) : S_spec_someKey b p k := by
  obtain ⟨⟨hb, h0, h1⟩, hk⟩ := h
  refine ⟨⟨hb, by omega, by omega⟩, fun x hx => ⟨⟨hb, by omega, by omega⟩, fun y hy => ⟨⟨hb, by omega, by omega⟩, fun z hz => ⟨⟨hb, by omega, by omega, by simp⟩, fun u hu => ?_⟩⟩⟩⟩
  unfold Pk at hx hy hz
  simp only [List.mem_cons, List.not_mem_nil, or_false] at hu
  exact hk _ _ (by omega) (by omega) (by omega) (by omega)
-- spec.DrawUseSegments
def G_spec_DrawUseSegments (code0 : List Int) (k : Int → Int → List Int → List Int → Int → Prop) : Prop :=
  F_spec_newReader code0 fun newReader7b newReader7p =>
  F_spec_someSegments newReader7b newReader7p fun someSegments9Trial someSegments9Safe someSegments9New someSegments9Old osomeSegments9b osomeSegments9p =>
  (F_spec_someKey osomeSegments9b osomeSegments9p fun someKey12 osomeKey12b osomeKey12p =>
    (k someSegments9Trial someSegments9Safe someSegments9New someSegments9Old someKey12) ∧
    (True)) ∧
  (True)
def H_spec_DrawUseSegments (code0 : List Int) (k : Int → Int → List Int → List Int → Int → Prop) : Prop :=
  F_spec_newReader code0 fun newReader7b newReader7p =>
  F_spec_someSegments newReader7b newReader7p fun someSegments9Trial someSegments9Safe someSegments9New someSegments9Old osomeSegments9b osomeSegments9p =>
  F_spec_someKey osomeSegments9b osomeSegments9p fun someKey12 osomeKey12b osomeKey12p =>
  k someSegments9Trial someSegments9Safe someSegments9New someSegments9Old someKey12
theorem G_spec_DrawUseSegments_eq (code0 : List Int) (k : Int → Int → List Int → List Int → Int → Prop) : G_spec_DrawUseSegments code0 k = H_spec_DrawUseSegments code0 k := by
  simp only [G_spec_DrawUseSegments, H_spec_DrawUseSegments, and_self, and_true]
def S_spec_DrawUseSegments (code0 : List Int) (k : Int → Int → List Int → List Int → Int → Prop) : Prop := H_spec_DrawUseSegments code0 k
def F_spec_DrawUseSegments (code : List Int) (k : Int → Int → List Int → List Int → Int → Prop) : Prop :=
  (∀ x ∈ code, 0 ≤ x ∧ x ≤ 255) ∧ ∀ trial safe new old key, new.length ≤ 100 → old.length ≤ 100 → k trial safe new old key
theorem F_spec_DrawUseSegments_S {code : List Int} {k : Int → Int → List Int → List Int → Int → Prop} (h : F_spec_DrawUseSegments code k) : S_spec_DrawUseSegments code k :=
  ⟨h.1, fun b hb => ⟨⟨hb, by omega, by omega⟩, fun trial safe new old p' l1 l2 _ _ => ⟨⟨hb, by omega, by omega⟩, fun key _ _ _ _ _ => h.2 _ _ _ _ _ l1 l2⟩⟩⟩
-- impl.validRoom
def G_impl_validRoom (room0 : Int) (k : Bool → Prop) : Prop :=
  br (decide (1 ≤ room0))
  (k (decide (room0 ≤ 8)))
  (k false)
def S_impl_validRoom (room0 : Int) (k : Bool → Prop) : Prop := G_impl_validRoom room0 k
def F_impl_validRoom (n : Int) (k : Bool → Prop) : Prop := k (decide (1 ≤ n ∧ n ≤ 8))
theorem F_impl_validRoom_S {n : Int} {k : Bool → Prop} (h : F_impl_validRoom n k) : S_impl_validRoom n k := by
  unfold F_impl_validRoom at h
  simp only [S_impl_validRoom, G_impl_validRoom, br_dec]
  refine ⟨fun h1 => ?_, fun h1 => ?_⟩
  · simpa [h1] using h
  · simpa [h1] using h
-- impl.validKey
def G_impl_validKey (key0 : Int) (k : Bool → Prop) : Prop :=
  br (decide (0 ≤ key0))
  (k (decide (key0 ≤ 31)))
  (k false)
def S_impl_validKey (key0 : Int) (k : Bool → Prop) : Prop := G_impl_validKey key0 k
def F_impl_validKey (n : Int) (k : Bool → Prop) : Prop := k (decide (0 ≤ n ∧ n ≤ 31))
theorem F_impl_validKey_S {n : Int} {k : Bool → Prop} (h : F_impl_validKey n k) : S_impl_validKey n k := by
  unfold F_impl_validKey at h
  simp only [S_impl_validKey, G_impl_validKey, br_dec]
  refine ⟨fun h1 => ?_, fun h1 => ?_⟩
  · simpa [h1] using h
  · simpa [h1] using h
-- slices.Index[[]int,int]
def T0_slices_Index_sint_int (s0 : List Int) (v1 : Int) (xt7 : Int) (xt8 : Int) (k : Int → Prop) (B0 : Int → Prop) : Prop :=
  br (decide (xt8 < xt7))
  ((0 ≤ xt8 ∧ xt8 < (s0.length : Int)) ∧
    br (v1 == (List.getD s0 (Int.toNat xt8) (0 : Int)))
    (k xt8)
    (InR (xt8 + 1) ∧
      B0 (xt8 + 1)))
  (k (-1))
def L0_slices_Index_sint_int (s0 : List Int) (v1 : Int) (xt7 : Int) (k : Int → Prop) : Nat → Int → Prop
  | 0, _ => False
  | n + 1, xt8 => T0_slices_Index_sint_int s0 v1 xt7 xt8 k (L0_slices_Index_sint_int s0 v1 xt7 k n)
def G_slices_Index_sint_int (s0 : List Int) (v1 : Int) (I0 : List Int → Int → Int → Int → Prop) : Prop :=
  I0 s0 v1 (s0.length : Int) 0
def S_slices_Index_sint_int (s0 : List Int) (v1 : Int) (k : Int → Prop) : Prop := G_slices_Index_sint_int s0 v1 (fun s0 v1 xt7 xt8 => ∃ j, L0_slices_Index_sint_int s0 v1 xt7 k j xt8)
def F_slices_Index_sint_int (l : List Int) (n : Int) (k : Int → Prop) : Prop := l.length ≤ 1000000000 ∧ k (plc l n)
theorem F_slices_Index_sint_int_S {l : List Int} {n : Int} {k : Int → Prop} (h : F_slices_Index_sint_int l n k) : S_slices_Index_sint_int l n k := by
  obtain ⟨hl, hk⟩ := h
  have key : ∀ (r : List Int) (i : Nat), l.drop i = r → plcF r n i = plc l n → L0_slices_Index_sint_int l n (l.length : Int) k (r.length + 1) (i : Int) := by
    intro r
    induction r with
    | nil =>
      intro i hd he
      have := drop_nil' hd
      rw [L0_slices_Index_sint_int, T0_slices_Index_sint_int]
      simp only [br_dec]
      exact ⟨fun h => by omega, fun _ => by rw [show (-1 : Int) = plc l n from he]; exact hk⟩
    | cons x r ih =>
      intro i hd he
      obtain ⟨h1, h2, _, h3, _⟩ := drop_cons' hd
      rw [List.length_cons, L0_slices_Index_sint_int, T0_slices_Index_sint_int]
      simp only [br_dec, br_beq, Int.toNat_natCast, h2]
      refine ⟨fun _ => ⟨⟨by omega, by omega⟩, fun hx => ?_, fun hx => ⟨inR (by omega) (by omega), ?_⟩⟩, fun h => by omega⟩
      · simp only [plcF, if_pos hx.symm] at he; rw [he]; exact hk
      · simp only [plcF, if_neg (Ne.symm hx)] at he; exact ih (i + 1) h3 he
  exact ⟨_, key l 0 rfl rfl⟩
-- slices.Contains[[]int,int]
def G_slices_Contains_sint_int (s0 : List Int) (v1 : Int) (k : Bool → Prop) : Prop :=
  F_slices_Index_sint_int s0 v1 fun index7 =>
  k (decide (index7 ≥ 0))
def S_slices_Contains_sint_int (s0 : List Int) (v1 : Int) (k : Bool → Prop) : Prop := G_slices_Contains_sint_int s0 v1 k
def F_slices_Contains_sint_int (l : List Int) (n : Int) (k : Bool → Prop) : Prop := l.length ≤ 1000000000 ∧ k (decide (n ∈ l))
theorem F_slices_Contains_sint_int_S {l : List Int} {n : Int} {k : Bool → Prop} (h : F_slices_Contains_sint_int l n k) : S_slices_Contains_sint_int l n k := by
  refine ⟨h.1, ?_⟩
  have : decide (plc l n ≥ 0) = decide (n ∈ l) := decide_eq_decide.2 plc_ge
  show k (decide (plc l n ≥ 0))
  rw [this]; exact h.2
-- impl.differentKeys
def T0_impl_differentKeys (list0 : List Int) (xt6 : Int) (xt7 : Int) (k : Bool → Prop) (B0 : Int → Prop) : Prop :=
  br (decide (xt7 < xt6))
  ((0 ≤ xt7 ∧ xt7 < (list0.length : Int)) ∧
    F_impl_validKey (List.getD list0 (Int.toNat xt7) (0 : Int)) fun validKey13 =>
    br (!validKey13)
    (k false)
    ((0 ≤ xt7 ∧ xt7 ≤ (list0.length : Int)) ∧
      F_slices_Contains_sint_int (List.take (Int.toNat xt7) list0) (List.getD list0 (Int.toNat xt7) (0 : Int)) fun contains20 =>
      br contains20
      (k false)
      (InR (xt7 + 1) ∧
        B0 (xt7 + 1))))
  (k true)
def L0_impl_differentKeys (list0 : List Int) (xt6 : Int) (k : Bool → Prop) : Nat → Int → Prop
  | 0, _ => False
  | n + 1, xt7 => T0_impl_differentKeys list0 xt6 xt7 k (L0_impl_differentKeys list0 xt6 k n)
def G_impl_differentKeys (list0 : List Int) (I0 : List Int → Int → Int → Prop) : Prop :=
  I0 list0 (list0.length : Int) 0
def S_impl_differentKeys (list0 : List Int) (k : Bool → Prop) : Prop := G_impl_differentKeys list0 (fun list0 xt6 xt7 => ∃ j, L0_impl_differentKeys list0 xt6 k j xt7)
def F_impl_differentKeys (l : List Int) (k : Bool → Prop) : Prop := l.length ≤ 1000000000 ∧ ∀ b : Bool, (b = true ↔ (∀ x ∈ l, 0 ≤ x ∧ x ≤ 31) ∧ l.Nodup) → k b
theorem F_impl_differentKeys_S {l : List Int} {k : Bool → Prop} (h : F_impl_differentKeys l k) : S_impl_differentKeys l k := by
  obtain ⟨hl, h⟩ := h
  have hno : ¬ ((∀ x ∈ l, 0 ≤ x ∧ x ≤ 31) ∧ l.Nodup) → k false := fun hv => h false (by simp only [Bool.false_eq_true, false_iff]; exact hv)
  have key : ∀ (r : List Int) (i : Nat), l.drop i = r → (∀ x ∈ l.take i, 0 ≤ x ∧ x ≤ 31) → (l.take i).Nodup → L0_impl_differentKeys l (l.length : Int) k (r.length + 1) (i : Int) := by
    intro r
    induction r with
    | nil =>
      intro i hd he hn
      have := drop_nil' hd
      rw [List.take_of_length_le this] at he hn
      rw [L0_impl_differentKeys, T0_impl_differentKeys]
      simp only [br_dec]
      exact ⟨fun h => by omega, fun _ => h true (by simp only [true_iff]; exact ⟨he, hn⟩)⟩
    | cons x r ih =>
      intro i hd he hn
      obtain ⟨h1, h2, h5, h3, h4⟩ := drop_cons' hd
      rw [List.length_cons, L0_impl_differentKeys, T0_impl_differentKeys]
      simp only [br_dec, F_impl_validKey, F_slices_Contains_sint_int, Int.toNat_natCast, h2, br_not]
      have hxl : x ∈ l := List.mem_of_getElem? h5
      refine ⟨fun _ => ⟨⟨by omega, by omega⟩, fun hx => ⟨⟨by omega, by omega⟩, by simp; omega, fun hc => ?_, fun hc => ⟨inR (by omega) (by omega), ?_⟩⟩, fun hx => hno fun v => hx (v.1 x hxl)⟩, fun h => by omega⟩
      · refine hno fun v => ?_
        have hn2 := v.2
        rw [← List.take_append_drop i l, hd] at hn2
        exact (List.nodup_append.1 hn2).2.2 x hc x (by simp) rfl
      · refine ih (i + 1) h3 ?_ ?_
        · rw [h4]; intro y hy
          rcases List.mem_append.1 hy with hy | hy
          · exact he y hy
          · simp at hy; subst hy; exact hx
        · rw [h4, List.nodup_append]
          refine ⟨hn, by simp, fun a ha b hb e => ?_⟩
          simp at hb; subst hb; subst e; exact hc ha
  exact ⟨_, key l 0 rfl (by simp) (by simp)⟩
-- impl.ValidKeys
def G_impl_ValidKeys (list0 : List Int) (room1 : Int) (k : Bool → Prop) : Prop :=
  F_impl_validRoom room1 fun validRoom6 =>
  br validRoom6
  (br (decide ((list0.length : Int) ≤ room1))
    (F_impl_differentKeys list0 fun differentKeys15 =>
      k differentKeys15)
    (k false))
  (k false)
def S_impl_ValidKeys (list0 : List Int) (room1 : Int) (k : Bool → Prop) : Prop := G_impl_ValidKeys list0 room1 k
def F_impl_ValidKeys (l : List Int) (room : Int) (k : Bool → Prop) : Prop := ∀ b : Bool, (b = true ↔ VKeys l room) → k b
theorem F_impl_ValidKeys_S {l : List Int} {room : Int} {k : Bool → Prop} (h : F_impl_ValidKeys l room k) : S_impl_ValidKeys l room k := by
  have hno : ¬ VKeys l room → k false := fun hv => h false (by simp [hv])
  refine br_dec.2 ⟨fun h1 => br_dec.2 ⟨fun h3 => ⟨by omega, fun b hb => h b ?_⟩, fun h3 => hno fun v => by have := v.2.2.1; omega⟩, fun h1 => hno fun v => h1 ⟨v.1, v.2.1⟩⟩
  rw [hb]
  exact ⟨fun g => ⟨h1.1, h1.2, h3, g.1, g.2⟩, fun v => v.2.2.2⟩
-- impl.ValidSegments
def T0_impl_ValidSegments (s0New : List Int) (s0Old : List Int) (s0Safe : Int) (s0Trial : Int) (xt21 : Int) (xt22 : Int) (k : Bool → Prop) (B0 : Int → Prop) : Prop :=
  br (decide (xt22 < xt21))
  ((0 ≤ xt22 ∧ xt22 < (s0New.length : Int)) ∧
    F_slices_Contains_sint_int s0Old (List.getD s0New (Int.toNat xt22) (0 : Int)) fun contains29 =>
    br contains29
    (k false)
    (InR (xt22 + 1) ∧
      B0 (xt22 + 1)))
  (k true)
def L0_impl_ValidSegments (s0New : List Int) (s0Old : List Int) (s0Safe : Int) (s0Trial : Int) (xt21 : Int) (k : Bool → Prop) : Nat → Int → Prop
  | 0, _ => False
  | n + 1, xt22 => T0_impl_ValidSegments s0New s0Old s0Safe s0Trial xt21 xt22 k (L0_impl_ValidSegments s0New s0Old s0Safe s0Trial xt21 k n)
def G_impl_ValidSegments (s0Trial : Int) (s0Safe : Int) (s0New : List Int) (s0Old : List Int) (k : Bool → Prop) (I0 : List Int → List Int → Int → Int → Int → Int → Prop) : Prop :=
  F_impl_ValidKeys s0New s0Trial fun validKeys9 =>
  br (!validKeys9)
  (k false)
  (F_impl_ValidKeys s0Old s0Safe fun validKeys16 =>
    br (!validKeys16)
    (k false)
    (I0 s0New s0Old s0Safe s0Trial (s0New.length : Int) 0))
def S_impl_ValidSegments (s0Trial : Int) (s0Safe : Int) (s0New : List Int) (s0Old : List Int) (k : Bool → Prop) : Prop := G_impl_ValidSegments s0Trial s0Safe s0New s0Old k (fun s0New s0Old s0Safe s0Trial xt21 xt22 => ∃ j, L0_impl_ValidSegments s0New s0Old s0Safe s0Trial xt21 k j xt22)
def F_impl_ValidSegments (trial safe : Int) (new old : List Int) (k : Bool → Prop) : Prop := ∀ b : Bool, (b = true ↔ VSegs trial safe new old) → k b
theorem F_impl_ValidSegments_S {trial safe : Int} {new old : List Int} {k : Bool → Prop} (h : F_impl_ValidSegments trial safe new old k) : S_impl_ValidSegments trial safe new old k := by
  have hno : ¬ VSegs trial safe new old → k false := fun hv => h false (by simp [hv])
  intro b1 hb1
  rw [br_not, br_iff]
  refine ⟨fun e1 => ?_, fun e => hno fun w => by rw [hb1.2 w.1] at e; cases e⟩
  intro b2 hb2
  rw [br_not, br_iff]
  refine ⟨fun e2 => ?_, fun e => hno fun w => by rw [hb2.2 w.2.1] at e; cases e⟩
  have v1 := hb1.1 e1
  have v2 := hb2.1 e2
  have l1 : new.length ≤ 8 ∧ old.length ≤ 8 := by have := v1.2.1; have := v1.2.2.1; have := v2.2.1; have := v2.2.2.1; omega
  have key : ∀ (r : List Int) (i : Nat), new.drop i = r → (∀ x ∈ new.take i, x ∉ old) → L0_impl_ValidSegments new old safe trial (new.length : Int) k (r.length + 1) (i : Int) := by
    intro r
    induction r with
    | nil =>
      intro i hd he
      have := drop_nil' hd
      rw [List.take_of_length_le this] at he
      rw [L0_impl_ValidSegments, T0_impl_ValidSegments]
      simp only [br_dec]
      exact ⟨fun h => by omega, fun _ => h true (by simp only [true_iff]; exact ⟨v1, v2, he⟩)⟩
    | cons x r ih =>
      intro i hd he
      obtain ⟨h1, h2, h5, h3, h4⟩ := drop_cons' hd
      rw [List.length_cons, L0_impl_ValidSegments, T0_impl_ValidSegments]
      simp only [br_dec, F_slices_Contains_sint_int, Int.toNat_natCast, h2]
      refine ⟨fun _ => ⟨⟨by omega, by omega⟩, by omega, fun hx => hno fun v => v.2.2 x (List.mem_of_getElem? h5) hx, fun hx => ⟨inR (by omega) (by omega), ih (i + 1) h3 ?_⟩⟩, fun h => by omega⟩
      rw [h4]; intro y hy
      rcases List.mem_append.1 hy with hy | hy
      · exact he y hy
      · simp at hy; subst hy; exact hx
  exact ⟨_, key new 0 rfl (by simp)⟩
-- impl.withoutKey
def T0_impl_withoutKey (key1 : Int) (list0 : List Int) (xt10 : Int) (xt11 : Int) (xout5 : List Int) (k : List Int → Prop) (B0 : Int → List Int → Prop) : Prop :=
  br (decide (xt11 < xt10))
  ((0 ≤ xt11 ∧ xt11 < (list0.length : Int)) ∧
    br ((List.getD list0 (Int.toNat xt11) (0 : Int)) != key1)
    ((xout5.length + 1 ≤ 1000000000) ∧
      InR (xt11 + 1) ∧
      B0 (xt11 + 1) (xout5 ++ ([(List.getD list0 (Int.toNat xt11) (0 : Int))] : List Int)))
    (InR (xt11 + 1) ∧
      B0 (xt11 + 1) xout5))
  (k xout5)
def L0_impl_withoutKey (key1 : Int) (list0 : List Int) (xt10 : Int) (k : List Int → Prop) : Nat → Int → List Int → Prop
  | 0, _, _ => False
  | n + 1, xt11, xout5 => T0_impl_withoutKey key1 list0 xt10 xt11 xout5 k (L0_impl_withoutKey key1 list0 xt10 k n)
def G_impl_withoutKey (list0 : List Int) (key1 : Int) (I0 : Int → List Int → Int → Int → List Int → Prop) : Prop :=
  I0 key1 list0 (list0.length : Int) 0 ([] : List Int)
def S_impl_withoutKey (list0 : List Int) (key1 : Int) (k : List Int → Prop) : Prop := G_impl_withoutKey list0 key1 (fun key1 list0 xt10 xt11 xout5 => ∃ j, L0_impl_withoutKey key1 list0 xt10 k j xt11 xout5)
def F_impl_withoutKey (l : List Int) (key : Int) (k : List Int → Prop) : Prop := l.length ≤ 1000000000 ∧ k (rmK l key)
theorem F_impl_withoutKey_S {l : List Int} {key : Int} {k : List Int → Prop} (h : F_impl_withoutKey l key k) : S_impl_withoutKey l key k := by
  obtain ⟨hl, hk⟩ := h
  have key1 : ∀ (r : List Int) (i : Nat) (out : List Int), l.drop i = r → out.length ≤ i → out ++ rmK r key = rmK l key → L0_impl_withoutKey key l (l.length : Int) k (r.length + 1) (i : Int) out := by
    intro r
    induction r with
    | nil =>
      intro i out hd ho he
      have := drop_nil' hd
      rw [L0_impl_withoutKey, T0_impl_withoutKey]
      simp only [br_dec]
      refine ⟨fun h => by omega, fun _ => ?_⟩
      have : out = rmK l key := by simpa [rmK] using he
      rw [this]; exact hk
    | cons x r ih =>
      intro i out hd ho he
      obtain ⟨h1, h2, _, h3, _⟩ := drop_cons' hd
      rw [List.length_cons, L0_impl_withoutKey, T0_impl_withoutKey]
      simp only [br_dec, br_bne, Int.toNat_natCast, h2]
      refine ⟨fun _ => ⟨⟨by omega, by omega⟩, fun hx => ⟨by omega, inR (by omega) (by omega), ?_⟩, fun hx => ⟨inR (by omega) (by omega), ?_⟩⟩, fun h => by omega⟩
      · exact ih (i + 1) (out ++ [x]) h3 (by simp; omega) (by rw [← he, rmK_cons_ne hx]; simp)
      · exact ih (i + 1) out h3 (by omega) (by rw [← he, hx, rmK_cons_eq])
  exact ⟨_, key1 l 0 [] rfl (by simp) rfl⟩
-- impl.putFirst
def G_impl_putFirst (list0 : List Int) (key1 : Int) (k : List Int → Prop) : Prop :=
  (1 + list0.length ≤ 1000000000) ∧
  k (([key1] : List Int) ++ list0)
def S_impl_putFirst (list0 : List Int) (key1 : Int) (k : List Int → Prop) : Prop := G_impl_putFirst list0 key1 k
def F_impl_putFirst (l : List Int) (x : Int) (k : List Int → Prop) : Prop := l.length ≤ 999999999 ∧ k (x :: l)
theorem F_impl_putFirst_S {l : List Int} {x : Int} {k : List Int → Prop} (h : F_impl_putFirst l x k) : S_impl_putFirst l x k := ⟨by have := h.1; omega, h.2⟩
-- impl.UseRecent
def G_impl_UseRecent (list0 : List Int) (room1 : Int) (key2 : Int) (k : List Int → Bool → Prop) : Prop :=
  F_impl_ValidKeys list0 room1 fun validKeys11 =>
  br (!validKeys11)
  (k ([] : List Int) false)
  (F_impl_validKey key2 fun validKey15 =>
    br (!validKey15)
    (k ([] : List Int) false)
    (F_impl_withoutKey list0 key2 fun withoutKey20 =>
      F_impl_putFirst withoutKey20 key2 fun putFirst22 =>
      (0 ≤ (if room1 < (putFirst22.length : Int) then room1 else (putFirst22.length : Int)) ∧ (if room1 < (putFirst22.length : Int) then room1 else (putFirst22.length : Int)) ≤ (putFirst22.length : Int)) ∧
      (F_slices_Contains_sint_int list0 key2 fun contains31 =>
        k (List.take (Int.toNat (if room1 < (putFirst22.length : Int) then room1 else (putFirst22.length : Int))) (List.drop 0 putFirst22)) contains31) ∧
      (True)))
def H_impl_UseRecent (list0 : List Int) (room1 : Int) (key2 : Int) (k : List Int → Bool → Prop) : Prop :=
  F_impl_ValidKeys list0 room1 fun validKeys11 =>
  br (!validKeys11)
  (k ([] : List Int) false)
  (F_impl_validKey key2 fun validKey15 =>
    br (!validKey15)
    (k ([] : List Int) false)
    (F_impl_withoutKey list0 key2 fun withoutKey20 =>
      F_impl_putFirst withoutKey20 key2 fun putFirst22 =>
      (0 ≤ (if room1 < (putFirst22.length : Int) then room1 else (putFirst22.length : Int)) ∧ (if room1 < (putFirst22.length : Int) then room1 else (putFirst22.length : Int)) ≤ (putFirst22.length : Int)) ∧
      F_slices_Contains_sint_int list0 key2 fun contains31 =>
      k (List.take (Int.toNat (if room1 < (putFirst22.length : Int) then room1 else (putFirst22.length : Int))) (List.drop 0 putFirst22)) contains31))
theorem G_impl_UseRecent_eq (list0 : List Int) (room1 : Int) (key2 : Int) (k : List Int → Bool → Prop) : G_impl_UseRecent list0 room1 key2 k = H_impl_UseRecent list0 room1 key2 k := by
  simp only [G_impl_UseRecent, H_impl_UseRecent, and_self, and_true]
def S_impl_UseRecent (list0 : List Int) (room1 : Int) (key2 : Int) (k : List Int → Bool → Prop) : Prop := H_impl_UseRecent list0 room1 key2 k
def F_impl_UseRecent (l : List Int) (room key : Int) (k : List Int → Bool → Prop) : Prop :=
  (VKeys l room ∧ 0 ≤ key ∧ key ≤ 31 → k (recM l room key) (decide (key ∈ l))) ∧ (¬ (VKeys l room ∧ 0 ≤ key ∧ key ≤ 31) → k [] false)
theorem F_impl_UseRecent_S {l : List Int} {room key : Int} {k : List Int → Bool → Prop} (h : F_impl_UseRecent l room key k) : S_impl_UseRecent l room key k := by
  obtain ⟨hyes, hno⟩ := h
  intro b hb
  refine br_not.2 (br_iff.2 ⟨fun e => br_not.2 (br_dec.2 ⟨fun hkey => ?_, fun hkey => hno fun w => hkey w.2⟩), fun e => hno fun w => by rw [hb.2 w.1] at e; cases e⟩)
  have v := hb.1 e
  have hk := hyes ⟨v, hkey⟩
  obtain ⟨v1, v2, v3, v4, v5⟩ := v
  have := @rmK_le l key
  refine ⟨by omega, by omega, ⟨?_, ?_⟩, by omega, ?_⟩
  · split <;> omega
  · split <;> omega
  · show k (List.take (if room < (([key] ++ rmK l key).length : Int) then room else (([key] ++ rmK l key).length : Int)).toNat ([key] ++ rmK l key)) (decide (key ∈ l))
    rw [take_min2]; exact hk
-- impl.UseSegments
def G_impl_UseSegments_j0 (s0Old : List Int) (s0Safe : Int) (s0Trial : Int) (useRecent70r0 : List Int) (withoutKey97 : List Int) (k : Int → Int → List Int → List Int → Bool → Prop) : Prop :=
  ((1 + withoutKey97.length ≤ 1000000000) ∧
    (k s0Trial s0Safe (([(List.getD s0Old (Int.toNat (s0Safe - 1)) (0 : Int))] : List Int) ++ withoutKey97) useRecent70r0 true) ∧
    (True)) ∧
  (True)
def G_impl_UseSegments_j1 (key1 : Int) (s0New : List Int) (s0Old : List Int) (s0Safe : Int) (s0Trial : Int) (useRecent70r0 : List Int) (k : Int → Int → List Int → List Int → Bool → Prop) : Prop :=
  (((0 + 1 ≤ 1000000000) ∧
      (((F_impl_withoutKey s0New key1 fun withoutKey97 =>
            G_impl_UseSegments_j0 s0Old s0Safe s0Trial useRecent70r0 withoutKey97 k) ∧
          (True)) ∧
        ((F_impl_withoutKey s0New key1 fun withoutKey97 =>
            (G_impl_UseSegments_j0 s0Old s0Safe s0Trial useRecent70r0 withoutKey97 k) ∧
            (True)) ∧
          (True))) ∧
      (True)) ∧
    (True)) ∧
  (True)
def G_impl_UseSegments_j2 (s0Safe : Int) (s0Trial : Int) (useRecent70r0 : List Int) (withoutKey97 : List Int) (k : Int → Int → List Int → List Int → Bool → Prop) : Prop :=
  ((0 + withoutKey97.length ≤ 1000000000) ∧
    (k s0Trial s0Safe withoutKey97 useRecent70r0 true) ∧
    (True)) ∧
  (True)
def G_impl_UseSegments (s0Trial : Int) (s0Safe : Int) (s0New : List Int) (s0Old : List Int) (key1 : Int) (k : Int → Int → List Int → List Int → Bool → Prop) : Prop :=
  F_impl_ValidSegments s0Trial s0Safe s0New s0Old fun validSegments8 =>
  br (!validSegments8)
  (k 0 0 ([] : List Int) ([] : List Int) false)
  (F_impl_validKey key1 fun validKey12 =>
    br (!validKey12)
    (k 0 0 ([] : List Int) ([] : List Int) false)
    (F_slices_Contains_sint_int s0Old key1 fun contains24 =>
      br contains24
      (F_impl_UseRecent s0Old s0Safe key1 fun useRecent31r0 useRecent31r1 =>
        (0 + s0New.length ≤ 1000000000) ∧
        k s0Trial s0Safe s0New useRecent31r0 true)
      (F_slices_Contains_sint_int s0New key1 fun contains45 =>
        br (!contains45)
        ((0 + s0Old.length ≤ 1000000000) ∧
          F_impl_UseRecent s0New s0Trial key1 fun useRecent59r0 useRecent59r1 =>
          k s0Trial s0Safe useRecent59r0 s0Old false)
        (F_impl_UseRecent s0Old s0Safe key1 fun useRecent70r0 useRecent70r1 =>
          br ((s0Old.length : Int) == s0Safe)
          (InR (s0Safe - 1) ∧
            (0 ≤ (s0Safe - 1) ∧ (s0Safe - 1) < (s0Old.length : Int)) ∧
            (G_impl_UseSegments_j1 key1 s0New s0Old s0Safe s0Trial useRecent70r0 k) ∧
            ((G_impl_UseSegments_j1 key1 s0New s0Old s0Safe s0Trial useRecent70r0 k) ∧
              (True)))
          (((F_impl_withoutKey s0New key1 fun withoutKey97 =>
                G_impl_UseSegments_j2 s0Safe s0Trial useRecent70r0 withoutKey97 k) ∧
              (True)) ∧
            ((F_impl_withoutKey s0New key1 fun withoutKey97 =>
                (G_impl_UseSegments_j2 s0Safe s0Trial useRecent70r0 withoutKey97 k) ∧
                (True)) ∧
              (True)))))))
def H_impl_UseSegments (s0Trial : Int) (s0Safe : Int) (s0New : List Int) (s0Old : List Int) (key1 : Int) (k : Int → Int → List Int → List Int → Bool → Prop) : Prop :=
  F_impl_ValidSegments s0Trial s0Safe s0New s0Old fun validSegments8 =>
  br (!validSegments8)
  (k 0 0 ([] : List Int) ([] : List Int) false)
  (F_impl_validKey key1 fun validKey12 =>
    br (!validKey12)
    (k 0 0 ([] : List Int) ([] : List Int) false)
    (F_slices_Contains_sint_int s0Old key1 fun contains24 =>
      br contains24
      (F_impl_UseRecent s0Old s0Safe key1 fun useRecent31r0 useRecent31r1 =>
        (0 + s0New.length ≤ 1000000000) ∧
        k s0Trial s0Safe s0New useRecent31r0 true)
      (F_slices_Contains_sint_int s0New key1 fun contains45 =>
        br (!contains45)
        ((0 + s0Old.length ≤ 1000000000) ∧
          F_impl_UseRecent s0New s0Trial key1 fun useRecent59r0 useRecent59r1 =>
          k s0Trial s0Safe useRecent59r0 s0Old false)
        (F_impl_UseRecent s0Old s0Safe key1 fun useRecent70r0 useRecent70r1 =>
          br ((s0Old.length : Int) == s0Safe)
          (InR (s0Safe - 1) ∧
            (0 ≤ (s0Safe - 1) ∧ (s0Safe - 1) < (s0Old.length : Int)) ∧
            (0 + 1 ≤ 1000000000) ∧
            F_impl_withoutKey s0New key1 fun withoutKey97 =>
            (1 + withoutKey97.length ≤ 1000000000) ∧
            k s0Trial s0Safe (([(List.getD s0Old (Int.toNat (s0Safe - 1)) (0 : Int))] : List Int) ++ withoutKey97) useRecent70r0 true)
          (F_impl_withoutKey s0New key1 fun withoutKey97 =>
            (0 + withoutKey97.length ≤ 1000000000) ∧
            k s0Trial s0Safe withoutKey97 useRecent70r0 true)))))
theorem G_impl_UseSegments_eq (s0Trial : Int) (s0Safe : Int) (s0New : List Int) (s0Old : List Int) (key1 : Int) (k : Int → Int → List Int → List Int → Bool → Prop) : G_impl_UseSegments s0Trial s0Safe s0New s0Old key1 k = H_impl_UseSegments s0Trial s0Safe s0New s0Old key1 k := by
  simp only [G_impl_UseSegments, H_impl_UseSegments, G_impl_UseSegments_j0, G_impl_UseSegments_j1, G_impl_UseSegments_j2, and_self, and_true]
def S_impl_UseSegments (s0Trial : Int) (s0Safe : Int) (s0New : List Int) (s0Old : List Int) (key1 : Int) (k : Int → Int → List Int → List Int → Bool → Prop) : Prop := H_impl_UseSegments s0Trial s0Safe s0New s0Old key1 k
def F_impl_UseSegments (trial safe : Int) (new old : List Int) (key : Int) (k : Int → Int → List Int → List Int → Bool → Prop) : Prop :=
  (VSegs trial safe new old ∧ 0 ≤ key ∧ key ≤ 31 → k trial safe (segM trial safe new old key).1 (segM trial safe new old key).2.1 (segM trial safe new old key).2.2) ∧
  (¬ (VSegs trial safe new old ∧ 0 ≤ key ∧ key ≤ 31) → k 0 0 [] [] false)
theorem F_impl_UseSegments_S {trial safe : Int} {new old : List Int} {key : Int} {k : Int → Int → List Int → List Int → Bool → Prop} (h : F_impl_UseSegments trial safe new old key k) : S_impl_UseSegments trial safe new old key k := by
  obtain ⟨hyes, hno⟩ := h
  intro b hb
  rw [br_not, br_iff]
  refine ⟨fun e => br_not.2 (br_dec.2 ⟨fun hkey => ?_, fun hkey => hno fun w => hkey w.2⟩), fun e => hno fun w => by rw [hb.2 w.1] at e; cases e⟩
  have v := hb.1 e
  have hk := hyes ⟨v, hkey⟩
  have l1 := segs_len v
  obtain ⟨v1, v2, v3⟩ := v
  have hrm := @rmK_le new key
  unfold segM at hk
  refine ⟨by omega, br_dec.2 ⟨fun ho => ⟨fun _ => ⟨by omega, ?_⟩, fun h => absurd ⟨v2, hkey⟩ h⟩, fun ho => ⟨by omega, br_not.2 (br_dec.2 ⟨fun hn => ⟨fun _ => br_beq.2 ⟨fun hs => ?_, fun hs => ⟨by omega, by omega, ?_⟩⟩, fun h => absurd ⟨v2, hkey⟩ h⟩, fun hn => ⟨by omega, fun _ => ?_, fun h => absurd ⟨v1, hkey⟩ h⟩⟩)⟩⟩⟩
  · rw [if_pos ho] at hk
    rw [recM_hit v2.2.2.2.2 v2.2.2.1 ho]; exact hk
  · rw [if_neg ho, if_pos hn, if_pos hs] at hk
    have h1 := v2.1
    refine ⟨inR (by omega) (by omega), ⟨by omega, by omega⟩, by omega, by omega, by omega, ?_⟩
    rw [recM_miss ho, show (safe - 1).toNat = old.length - 1 by omega]; exact hk
  · rw [if_neg ho, if_pos hn, if_neg hs] at hk
    rw [recM_miss ho]; exact hk
  · rw [if_neg ho, if_neg hn] at hk
    rw [recM_miss hn]; exact hk
-- spec.inRange
def G_spec_inRange (n0 : Int) (low1 : Int) (high2 : Int) (k : Bool → Prop) : Prop :=
  br (decide (low1 ≤ n0))
  (k (decide (n0 ≤ high2)))
  (k false)
def S_spec_inRange (n0 : Int) (low1 : Int) (high2 : Int) (k : Bool → Prop) : Prop := G_spec_inRange n0 low1 high2 k
def F_spec_inRange (n low high : Int) (k : Bool → Prop) : Prop := k (decide (low ≤ n ∧ n ≤ high))
theorem F_spec_inRange_S {n low high : Int} {k : Bool → Prop} (h : F_spec_inRange n low high k) : S_spec_inRange n low high k := by
  unfold F_spec_inRange at h
  simp only [S_spec_inRange, G_spec_inRange, br_dec]
  refine ⟨fun h1 => ?_, fun h1 => ?_⟩
  · simpa [h1] using h
  · simpa [h1] using h
-- spec.allIn
def T0_spec_allIn (high2 : Int) (list0 : List Int) (low1 : Int) (xi7 : Int) (k : Bool → Prop) (B0 : Int → Prop) : Prop :=
  br (decide (xi7 < (list0.length : Int)))
  ((0 ≤ xi7 ∧ xi7 < (list0.length : Int)) ∧
    F_spec_inRange (List.getD list0 (Int.toNat xi7) (0 : Int)) low1 high2 fun inRange20 =>
    br (!inRange20)
    (k false)
    (InR (xi7 + 1) ∧
      B0 (xi7 + 1)))
  (k true)
def L0_spec_allIn (high2 : Int) (list0 : List Int) (low1 : Int) (k : Bool → Prop) : Nat → Int → Prop
  | 0, _ => False
  | n + 1, xi7 => T0_spec_allIn high2 list0 low1 xi7 k (L0_spec_allIn high2 list0 low1 k n)
def G_spec_allIn (list0 : List Int) (low1 : Int) (high2 : Int) (I0 : Int → List Int → Int → Int → Prop) : Prop :=
  I0 high2 list0 low1 0
def S_spec_allIn (list0 : List Int) (low1 : Int) (high2 : Int) (k : Bool → Prop) : Prop := G_spec_allIn list0 low1 high2 (fun high2 list0 low1 xi7 => ∃ j, L0_spec_allIn high2 list0 low1 k j xi7)
def F_spec_allIn (l : List Int) (low high : Int) (k : Bool → Prop) : Prop := l.length ≤ 1000000000 ∧ k (decide (∀ x ∈ l, low ≤ x ∧ x ≤ high))
theorem F_spec_allIn_S {l : List Int} {low high : Int} {k : Bool → Prop} (h : F_spec_allIn l low high k) : S_spec_allIn l low high k := by
  obtain ⟨hl, hk⟩ := h
  have key : ∀ (r : List Int) (i : Nat), l.drop i = r → ((∀ x ∈ r, low ≤ x ∧ x ≤ high) ↔ (∀ x ∈ l, low ≤ x ∧ x ≤ high)) → L0_spec_allIn high l low k (r.length + 1) (i : Int) := by
    intro r
    induction r with
    | nil =>
      intro i hd he
      have := drop_nil' hd
      rw [L0_spec_allIn, T0_spec_allIn]
      simp only [br_dec]
      refine ⟨fun h => by omega, fun _ => ?_⟩
      rwa [decide_eq_true (he.1 (by simp))] at hk
    | cons x r ih =>
      intro i hd he
      obtain ⟨h1, h2, _, h3, _⟩ := drop_cons' hd
      rw [List.length_cons, L0_spec_allIn, T0_spec_allIn]
      simp only [br_dec, F_spec_inRange, br_not, Int.toNat_natCast, h2]
      refine ⟨fun _ => ⟨⟨by omega, by omega⟩, fun hx => ⟨inR (by omega) (by omega), ?_⟩, fun hx => ?_⟩, fun h => by omega⟩
      · refine ih (i + 1) h3 (Iff.trans ?_ he)
        simp only [List.mem_cons, forall_eq_or_imp]
        exact ⟨fun h => ⟨hx, h⟩, fun h => h.2⟩
      · rwa [decide_eq_false (fun h => hx (he.2 h x (by simp)))] at hk
  exact ⟨_, key l 0 rfl Iff.rfl⟩
-- spec.distinct
def T0_spec_distinct (list0 : List Int) (xi3 : Int) (k : Bool → Prop) (B0 : Int → Prop) : Prop :=
  br (decide (xi3 < (list0.length : Int)))
  ((0 ≤ xi3 ∧ xi3 < (list0.length : Int)) ∧
    F_spec_placeOf list0 (List.getD list0 (Int.toNat xi3) (0 : Int)) fun placeOf15 =>
    br (placeOf15 != xi3)
    (k false)
    (InR (xi3 + 1) ∧
      B0 (xi3 + 1)))
  (k true)
def L0_spec_distinct (list0 : List Int) (k : Bool → Prop) : Nat → Int → Prop
  | 0, _ => False
  | n + 1, xi3 => T0_spec_distinct list0 xi3 k (L0_spec_distinct list0 k n)
def G_spec_distinct (list0 : List Int) (I0 : List Int → Int → Prop) : Prop :=
  I0 list0 0
def S_spec_distinct (list0 : List Int) (k : Bool → Prop) : Prop := G_spec_distinct list0 (fun list0 xi3 => ∃ j, L0_spec_distinct list0 k j xi3)
def F_spec_distinct (l : List Int) (k : Bool → Prop) : Prop := l.length ≤ 1000000000 ∧ k (decide l.Nodup)
theorem F_spec_distinct_S {l : List Int} {k : Bool → Prop} (h : F_spec_distinct l k) : S_spec_distinct l k := by
  obtain ⟨hl, hk⟩ := h
  have key : ∀ (r : List Int) (i : Nat), l.drop i = r → (∀ q : Nat, q < i → plc l (l.getD q 0) = (q : Int)) → L0_spec_distinct l k (r.length + 1) (i : Int) := by
    intro r
    induction r with
    | nil =>
      intro i hd he
      have := drop_nil' hd
      rw [L0_spec_distinct, T0_spec_distinct]
      simp only [br_dec]
      refine ⟨fun h => by omega, fun _ => ?_⟩
      rwa [decide_eq_true (nodup_plc.1 fun q hq => he q (by omega))] at hk
    | cons x r ih =>
      intro i hd he
      obtain ⟨h1, h2, _, h3, _⟩ := drop_cons' hd
      rw [List.length_cons, L0_spec_distinct, T0_spec_distinct]
      simp only [br_dec, F_spec_placeOf, br_bne, Int.toNat_natCast]
      refine ⟨fun _ => ⟨⟨by omega, by omega⟩, hl, fun hx => ?_, fun hx => ⟨inR (by omega) (by omega), ?_⟩⟩, fun h => by omega⟩
      · rwa [decide_eq_false (fun h => hx (nodup_plc.2 h i h1))] at hk
      · refine ih (i + 1) h3 fun q hq => ?_
        by_cases e : q = i
        · subst e; exact hx
        · exact he q (by omega)
  exact ⟨_, key l 0 rfl (fun q hq => by omega)⟩
-- spec.validKeys
def G_spec_validKeys (list0 : List Int) (room1 : Int) (k : Bool → Prop) : Prop :=
  F_spec_inRange room1 (1 : Int) (8 : Int) fun inRange6 =>
  br inRange6
  (br (decide ((list0.length : Int) ≤ room1))
    (F_spec_allIn list0 (0 : Int) (31 : Int) fun allIn15 =>
      br allIn15
      (F_spec_distinct list0 fun distinct19 =>
        k distinct19)
      (k false))
    (k false))
  (k false)
def S_spec_validKeys (list0 : List Int) (room1 : Int) (k : Bool → Prop) : Prop := G_spec_validKeys list0 room1 k
def F_spec_validKeys (l : List Int) (room : Int) (k : Bool → Prop) : Prop := ∀ b : Bool, (b = true ↔ VKeys l room) → k b
theorem F_spec_validKeys_S {l : List Int} {room : Int} {k : Bool → Prop} (h : F_spec_validKeys l room k) : S_spec_validKeys l room k := by
  have hno : ¬ VKeys l room → k false := fun hv => h false (by simp [hv])
  show br (decide (1 ≤ room ∧ room ≤ 8)) _ _
  refine br_dec.2 ⟨fun h1 => br_dec.2 ⟨fun h3 => ?_, fun h3 => hno fun v => h3 v.2.2.1⟩, fun h1 => hno fun v => h1 ⟨v.1, v.2.1⟩⟩
  refine ⟨by omega, br_dec.2 ⟨fun h4 => ⟨by omega, h _ ?_⟩, fun h4 => hno fun v => h4 v.2.2.2.1⟩⟩
  simp only [decide_eq_true_eq]
  exact ⟨fun hn => ⟨h1.1, h1.2, h3, h4, hn⟩, fun v => v.2.2.2.2⟩
-- spec.validSegments
def G_spec_validSegments_j0 (k : Bool → Prop) : Prop :=
  (((k false) ∧
      (True)) ∧
    (True)) ∧
  (True)
def G_spec_validSegments_j1 (k : Bool → Prop) : Prop :=
  (G_spec_validSegments_j0 k) ∧
  (True)
def G_spec_validSegments_j2 (k : Bool → Prop) : Prop :=
  (G_spec_validSegments_j1 k) ∧
  (True)
def G_spec_validSegments (s0Trial : Int) (s0Safe : Int) (s0New : List Int) (s0Old : List Int) (k : Bool → Prop) : Prop :=
  (F_spec_inRange s0Trial (1 : Int) (8 : Int) fun inRange5 =>
    br inRange5
    ((F_spec_inRange s0Safe (1 : Int) (8 : Int) fun inRange9 =>
        br inRange9
        ((F_spec_validKeys s0New s0Trial fun validKeys16 =>
            br validKeys16
            ((F_spec_validKeys s0Old s0Safe fun validKeys23 =>
                br validKeys23
                ((F_spec_copyInts s0New fun copyInts28 =>
                    ((copyInts28.length + s0Old.length ≤ 1000000000) ∧
                      (F_spec_distinct (copyInts28 ++ s0Old) fun distinct32 =>
                        k distinct32) ∧
                      (True)) ∧
                    (True)) ∧
                  (True))
                (G_spec_validSegments_j0 k)) ∧
              (True))
            (G_spec_validSegments_j1 k)) ∧
          (True))
        (G_spec_validSegments_j2 k)) ∧
      (True))
    ((G_spec_validSegments_j2 k) ∧
      (True))) ∧
  (True)
def H_spec_validSegments (s0Trial : Int) (s0Safe : Int) (s0New : List Int) (s0Old : List Int) (k : Bool → Prop) : Prop :=
  F_spec_inRange s0Trial (1 : Int) (8 : Int) fun inRange5 =>
  br inRange5
  (F_spec_inRange s0Safe (1 : Int) (8 : Int) fun inRange9 =>
    br inRange9
    (F_spec_validKeys s0New s0Trial fun validKeys16 =>
      br validKeys16
      (F_spec_validKeys s0Old s0Safe fun validKeys23 =>
        br validKeys23
        (F_spec_copyInts s0New fun copyInts28 =>
          (copyInts28.length + s0Old.length ≤ 1000000000) ∧
          F_spec_distinct (copyInts28 ++ s0Old) fun distinct32 =>
          k distinct32)
        (k false))
      (k false))
    (k false))
  (k false)
theorem G_spec_validSegments_eq (s0Trial : Int) (s0Safe : Int) (s0New : List Int) (s0Old : List Int) (k : Bool → Prop) : G_spec_validSegments s0Trial s0Safe s0New s0Old k = H_spec_validSegments s0Trial s0Safe s0New s0Old k := by
  simp only [G_spec_validSegments, H_spec_validSegments, G_spec_validSegments_j0, G_spec_validSegments_j1, G_spec_validSegments_j2, and_self, and_true]
def S_spec_validSegments (s0Trial : Int) (s0Safe : Int) (s0New : List Int) (s0Old : List Int) (k : Bool → Prop) : Prop := H_spec_validSegments s0Trial s0Safe s0New s0Old k
def F_spec_validSegments (trial safe : Int) (new old : List Int) (k : Bool → Prop) : Prop := ∀ b : Bool, (b = true ↔ VSegs trial safe new old) → k b
theorem F_spec_validSegments_S {trial safe : Int} {new old : List Int} {k : Bool → Prop} (h : F_spec_validSegments trial safe new old k) : S_spec_validSegments trial safe new old k := by
  have hno : ¬ VSegs trial safe new old → k false := fun hv => h false (by simp [hv])
  refine br_dec.2 ⟨fun h1 => br_dec.2 ⟨fun h2 => ?_, fun h2 => hno fun w => h2 ⟨w.2.1.1, w.2.1.2.1⟩⟩, fun h1 => hno fun w => h1 ⟨w.1.1, w.1.2.1⟩⟩
  intro b1 hb1
  refine br_iff.2 ⟨fun e1 => ?_, fun e => hno fun w => by rw [hb1.2 w.1] at e; cases e⟩
  intro b2 hb2
  refine br_iff.2 ⟨fun e2 => ?_, fun e => hno fun w => by rw [hb2.2 w.2.1] at e; cases e⟩
  have v1 := hb1.1 e1
  have v2 := hb2.1 e2
  have l1 : new.length ≤ 8 ∧ old.length ≤ 8 := by have := v1.2.1; have := v1.2.2.1; have := v2.2.1; have := v2.2.2.1; omega
  refine ⟨by omega, by omega, by simp; omega, h _ ?_⟩
  simp only [decide_eq_true_eq]
  rw [segs_nodup]
  exact ⟨fun w => ⟨v1, v2, w.2.2⟩, fun w => ⟨v1.2.2.2.2, v2.2.2.2.2, w.2.2⟩⟩
-- spec.UseSegments
def G_spec_UseSegments (s0Trial : Int) (s0Safe : Int) (s0New : List Int) (s0Old : List Int) (key1 : Int) (k : Int → Int → List Int → List Int → Bool → Prop) : Prop :=
  F_spec_validSegments s0Trial s0Safe s0New s0Old fun validSegments7 =>
  br (!validSegments7)
  (k 0 0 ([] : List Int) ([] : List Int) false)
  (F_spec_inRange key1 (0 : Int) (31 : Int) fun inRange11 =>
    br (!inRange11)
    (k 0 0 ([] : List Int) ([] : List Int) false)
    (F_spec_promote s0Trial s0Safe s0New s0Old key1 fun promote17Trial promote17Safe promote17New promote17Old promote17r1 =>
      k promote17Trial promote17Safe promote17New promote17Old promote17r1))
def S_spec_UseSegments (s0Trial : Int) (s0Safe : Int) (s0New : List Int) (s0Old : List Int) (key1 : Int) (k : Int → Int → List Int → List Int → Bool → Prop) : Prop := G_spec_UseSegments s0Trial s0Safe s0New s0Old key1 k
def F_spec_UseSegments (trial safe : Int) (new old : List Int) (key : Int) (k : Int → Int → List Int → List Int → Bool → Prop) : Prop :=
  (VSegs trial safe new old ∧ 0 ≤ key ∧ key ≤ 31 → k trial safe (segM trial safe new old key).1 (segM trial safe new old key).2.1 (segM trial safe new old key).2.2) ∧
  (¬ (VSegs trial safe new old ∧ 0 ≤ key ∧ key ≤ 31) → k 0 0 [] [] false)
theorem F_spec_UseSegments_S {trial safe : Int} {new old : List Int} {key : Int} {k : Int → Int → List Int → List Int → Bool → Prop} (h : F_spec_UseSegments trial safe new old key k) : S_spec_UseSegments trial safe new old key k := by
  obtain ⟨hyes, hno⟩ := h
  intro b hb
  rw [br_not, br_iff]
  exact ⟨fun e => br_not.2 (br_dec.2 ⟨fun hkey => ⟨hb.1 e, hyes ⟨hb.1 e, hkey⟩⟩, fun hkey => hno fun w => hkey w.2⟩), fun e => hno fun w => by rw [hb.2 w.1] at e; cases e⟩
-- laws.equalInts
def T0_laws_equalInts (a0 : List Int) (b1 : List Int) (xi5 : Int) (k : Bool → Prop) (B0 : Int → Prop) : Prop :=
  br (decide (xi5 < (a0.length : Int)))
  ((0 ≤ xi5 ∧ xi5 < (a0.length : Int)) ∧
    (0 ≤ xi5 ∧ xi5 < (b1.length : Int)) ∧
    br ((List.getD a0 (Int.toNat xi5) (0 : Int)) != (List.getD b1 (Int.toNat xi5) (0 : Int)))
    (k false)
    (InR (xi5 + 1) ∧
      B0 (xi5 + 1)))
  (k true)
def L0_laws_equalInts (a0 : List Int) (b1 : List Int) (k : Bool → Prop) : Nat → Int → Prop
  | 0, _ => False
  | n + 1, xi5 => T0_laws_equalInts a0 b1 xi5 k (L0_laws_equalInts a0 b1 k n)
def G_laws_equalInts (a0 : List Int) (b1 : List Int) (k : Bool → Prop) (I0 : List Int → List Int → Int → Prop) : Prop :=
  br ((a0.length : Int) != (b1.length : Int))
  (k false)
  (I0 a0 b1 0)
def S_laws_equalInts (a0 : List Int) (b1 : List Int) (k : Bool → Prop) : Prop := G_laws_equalInts a0 b1 k (fun a0 b1 xi5 => ∃ j, L0_laws_equalInts a0 b1 k j xi5)
def F_laws_equalInts (a b : List Int) (k : Bool → Prop) : Prop := a.length ≤ 1000000000 ∧ k (decide (a = b))
theorem F_laws_equalInts_S {a b : List Int} {k : Bool → Prop} (h : F_laws_equalInts a b k) : S_laws_equalInts a b k := by
  obtain ⟨hl, hk⟩ := h
  refine br_bne.2 ⟨fun he => by rwa [decide_eq_false (fun e => he (by rw [e]))] at hk, fun he => ?_⟩
  have he : a.length = b.length := by omega
  have key : ∀ (r : List Int) (i : Nat), a.drop i = r → (r = b.drop i ↔ a = b) → L0_laws_equalInts a b k (r.length + 1) (i : Int) := by
    intro r
    induction r with
    | nil =>
      intro i hd hi
      have := drop_nil' hd
      rw [L0_laws_equalInts, T0_laws_equalInts]
      simp only [br_dec]
      exact ⟨fun h => by omega, fun _ => by rwa [decide_eq_true (hi.1 (List.drop_eq_nil_of_le (by omega)).symm)] at hk⟩
    | cons x r ih =>
      intro i hd hi
      obtain ⟨h1, h2, _, h3, _⟩ := drop_cons' hd
      obtain ⟨y, s, hs⟩ : ∃ y s, b.drop i = y :: s := by
        cases e : b.drop i with
        | nil => have := drop_nil' e; omega
        | cons y s => exact ⟨y, s, rfl⟩
      obtain ⟨g1, g2, _, g3, _⟩ := drop_cons' hs
      rw [List.length_cons, L0_laws_equalInts, T0_laws_equalInts]
      simp only [br_dec, br_bne, Int.toNat_natCast, h2, g2]
      rw [hs] at hi
      refine ⟨fun _ => ⟨⟨by omega, by omega⟩, ⟨by omega, by omega⟩, ?_⟩, fun h => by omega⟩
      have go : x = y → L0_laws_equalInts a b k (r.length + 1) ((i : Int) + 1) := fun hx => ih (i + 1) h3 (by rw [g3, ← hi, hx]; simp)
      have no : x ≠ y → k false := fun hx => by rwa [decide_eq_false (fun e => hx (List.cons.inj (hi.2 e)).1)] at hk
      exact ⟨no, fun hx => ⟨inR (by omega) (by omega), go hx⟩⟩
  exact ⟨_, key a 0 rfl (by simp)⟩
-- laws.equalSegments
def G_laws_equalSegments (a0Trial : Int) (a0Safe : Int) (a0New : List Int) (a0Old : List Int) (b1Trial : Int) (b1Safe : Int) (b1New : List Int) (b1Old : List Int) (k : Bool → Prop) : Prop :=
  br (a0Trial == b1Trial)
  (br (a0Safe == b1Safe)
    (F_laws_equalInts a0New b1New fun equalInts22 =>
      br equalInts22
      (F_laws_equalInts a0Old b1Old fun equalInts29 =>
        k equalInts29)
      (k false))
    (k false))
  (k false)
def S_laws_equalSegments (a0Trial : Int) (a0Safe : Int) (a0New : List Int) (a0Old : List Int) (b1Trial : Int) (b1Safe : Int) (b1New : List Int) (b1Old : List Int) (k : Bool → Prop) : Prop := G_laws_equalSegments a0Trial a0Safe a0New a0Old b1Trial b1Safe b1New b1Old k
def F_laws_equalSegments (t1 s1 : Int) (a1 b1 : List Int) (t2 s2 : Int) (a2 b2 : List Int) (k : Bool → Prop) : Prop :=
  (a1.length ≤ 1000000000 ∧ b1.length ≤ 1000000000) ∧ ∀ b : Bool, (b = true ↔ t1 = t2 ∧ s1 = s2 ∧ a1 = a2 ∧ b1 = b2) → k b
theorem F_laws_equalSegments_S {t1 s1 : Int} {a1 b1 : List Int} {t2 s2 : Int} {a2 b2 : List Int} {k : Bool → Prop} (h : F_laws_equalSegments t1 s1 a1 b1 t2 s2 a2 b2 k) : S_laws_equalSegments t1 s1 a1 b1 t2 s2 a2 b2 k := by
  obtain ⟨⟨l1, l2⟩, hk⟩ := h
  refine br_beq.2 ⟨fun e1 => br_beq.2 ⟨fun e2 => ⟨l1, br_dec.2 ⟨fun e3 => ⟨l2, hk _ (by simp [e1, e2, e3])⟩, fun e3 => hk _ (by simp [e3])⟩⟩, fun e2 => hk _ (by simp [e2])⟩, fun e1 => hk _ (by simp [e1])⟩
theorem equalSegments_same {t1 s1 : Int} {a1 b1 : List Int} {k : Bool → Prop} (l1 : a1.length ≤ 1000000000) (l2 : b1.length ≤ 1000000000) (h : k true) : F_laws_equalSegments t1 s1 a1 b1 t1 s1 a1 b1 k :=
  ⟨⟨l1, l2⟩, all_t ⟨rfl, rfl, rfl, rfl⟩ h⟩
-- laws.FnUseSegmentsTwice
def G_laws_FnUseSegmentsTwice_j0 (useSegments22New : List Int) (useSegments22Old : List Int) (useSegments22Safe : Int) (useSegments22Trial : Int) (useSegments22r1 : Bool) (useSegments28New : List Int) (useSegments28Old : List Int) (useSegments28Safe : Int) (useSegments28Trial : Int) (useSegments28r1 : Bool) (k : Bool → Prop) : Prop :=
  F_laws_equalSegments useSegments22Trial useSegments22Safe useSegments22New useSegments22Old useSegments28Trial useSegments28Safe useSegments28New useSegments28Old fun equalSegments47 =>
  br equalSegments47
  (k (useSegments22r1 == useSegments28r1))
  (k false)
def G_laws_FnUseSegmentsTwice (code0 : List Int) (k : Bool → Prop) : Prop :=
  br (decide ((code0.length : Int) > 1048576))
  (k true)
  (F_spec_DrawUseSegments code0 fun drawUseSegments16Trial drawUseSegments16Safe drawUseSegments16New drawUseSegments16Old drawUseSegments16r1 =>
    F_impl_UseSegments drawUseSegments16Trial drawUseSegments16Safe drawUseSegments16New drawUseSegments16Old drawUseSegments16r1 fun useSegments22Trial useSegments22Safe useSegments22New useSegments22Old useSegments22r1 =>
    F_spec_UseSegments drawUseSegments16Trial drawUseSegments16Safe drawUseSegments16New drawUseSegments16Old drawUseSegments16r1 fun useSegments28Trial useSegments28Safe useSegments28New useSegments28Old useSegments28r1 =>
    F_laws_equalSegments useSegments22Trial useSegments22Safe useSegments22New useSegments22Old useSegments28Trial useSegments28Safe useSegments28New useSegments28Old fun equalSegments33 =>
    br (!equalSegments33)
    (G_laws_FnUseSegmentsTwice_j0 useSegments22New useSegments22Old useSegments22Safe useSegments22Trial useSegments22r1 useSegments28New useSegments28Old useSegments28Safe useSegments28Trial useSegments28r1 k)
    (br (!(useSegments22r1 == useSegments28r1))
      (G_laws_FnUseSegmentsTwice_j0 useSegments22New useSegments22Old useSegments22Safe useSegments22Trial useSegments22r1 useSegments28New useSegments28Old useSegments28Safe useSegments28Trial useSegments28r1 k)
      (br (useSegments22Trial == 0)
        (G_laws_FnUseSegmentsTwice_j0 useSegments22New useSegments22Old useSegments22Safe useSegments22Trial useSegments22r1 useSegments28New useSegments28Old useSegments28Safe useSegments28Trial useSegments28r1 k)
        (F_impl_UseSegments useSegments22Trial useSegments22Safe useSegments22New useSegments22Old drawUseSegments16r1 fun useSegments56Trial useSegments56Safe useSegments56New useSegments56Old useSegments56r1 =>
          br useSegments56r1
          (br (decide ((useSegments56Old.length : Int) > 0))
            ((0 ≤ (0 : Int) ∧ 0 < (useSegments56Old.length : Int)) ∧
              k ((List.getD useSegments56Old 0 (0 : Int)) == drawUseSegments16r1))
            (k false))
          (k false)))))
def S_laws_FnUseSegmentsTwice (code0 : List Int) (k : Bool → Prop) : Prop := G_laws_FnUseSegmentsTwice code0 k
abbrev F_laws_FnUseSegmentsTwice (code0 : List Int) (k : Bool → Prop) : Prop := S_laws_FnUseSegmentsTwice code0 k
theorem F_laws_FnUseSegmentsTwice_S {code0 : List Int} {k : Bool → Prop} (h : F_laws_FnUseSegmentsTwice code0 k) : S_laws_FnUseSegmentsTwice code0 k := h
theorem law_FnUseSegmentsTwice (code : List Int) (hb : ∀ x ∈ code, 0 ≤ x ∧ x ≤ 255) : F_laws_FnUseSegmentsTwice code (fun r => r = true) := by
  refine br_dec.2 ⟨fun _ => rfl, fun hlen => ⟨hb, fun trial safe new old key l1 l2 => ?_⟩⟩
  by_cases v : VSegs trial safe new old ∧ 0 ≤ key ∧ key ≤ 31
  · refine ⟨fun _ => ⟨fun _ => ?_, fun h => absurd v h⟩, fun h => absurd v h⟩
    have hval := segM_valid (key := key) v.1 v.2
    obtain ⟨g1, g2⟩ := segs_len hval
    have hin := segM_in (trial := trial) (safe := safe) (new := new) (old := old) (key := key) v.1.1.1 v.1.2.1.1
    have ht1 := v.1.1.1
    generalize segM trial safe new old key = q at *
    obtain ⟨a, b, hit⟩ := q
    dsimp only at g1 g2 hval hin ⊢
    refine equalSegments_same (by omega) (by omega) (br_nt (br_same (br_beq.2 ⟨fun h => by omega, fun _ => ⟨fun _ => ?_, fun h => absurd ⟨hval, v.2⟩ h⟩⟩)))
    obtain ⟨r, hr⟩ := segM_old (trial := trial) hval.2.1.1 hin
    rw [segM_hit, decide_eq_true hin, hr]
    exact br_dec.2 ⟨fun _ => ⟨⟨by omega, by simp⟩, beq_self_eq_true _⟩, fun h => by simp at h⟩
  · refine ⟨fun h => absurd h v, fun _ => ⟨fun h => absurd h v, fun _ => ?_⟩⟩
    exact equalSegments_same (by simp) (by simp) (br_nt (br_same (br_beq.2 ⟨fun h => equalSegments_same (by simp) (by simp) rfl, fun h => absurd rfl h⟩)))
end Go.Ev
