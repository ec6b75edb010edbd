/- What the functions that the law reaches do, written as plain Lean. No statement is proved here. -/
import Derived.Test.YtemhpncmhdcheabDoorEvT
namespace Go.Ev
set_option linter.unusedVariables false
set_option linter.unusedSimpArgs false
open Go
theorem br_iff {b : Bool} {A B : Prop} : br b A B ↔ (b = true → A) ∧ (b = false → B) := by cases b <;> simp [br]
theorem br_dec {p : Prop} [Decidable p] {A B : Prop} : br (decide p) A B ↔ (p → A) ∧ (¬ p → B) := by rw [br_iff]; simp
theorem br_beq {a b : Int} {A B : Prop} : br (a == b) A B ↔ (a = b → A) ∧ (a ≠ b → B) := by rw [br_iff]; simp
theorem br_bne {a b : Int} {A B : Prop} : br (a != b) A B ↔ (a ≠ b → A) ∧ (a = b → B) := by rw [br_iff]; simp
theorem br_not {b : Bool} {A B : Prop} : br (!b) A B ↔ br b B A := by cases b <;> simp [br]
theorem inR {x : Int} (h1 : -9223372036854775808 ≤ x) (h2 : x ≤ 9223372036854775807) : InR x := ⟨h1, h2⟩

section lists
variable {α : Type}
theorem drop_nil' {l : List α} {i : Nat} (h : l.drop i = []) : l.length ≤ i := by simpa using h
theorem drop_cons' {l : List α} {i : Nat} {x : α} {r : List α} (h : l.drop i = x :: r) : i < l.length ∧ (∀ d, l.getD i d = x) ∧ l[i]? = some x ∧ l.drop (i + 1) = r ∧ l.take (i + 1) = l.take i ++ [x] := by
  have hlt : i < l.length := by
    rcases Nat.lt_or_ge i l.length with h1 | h1
    · exact h1
    · rw [List.drop_eq_nil_of_le h1] at h; cases h
  have h2 := List.drop_eq_getElem_cons hlt
  rw [h] at h2
  injection h2 with h3 h4
  have h5 : l[i]? = some x := by rw [List.getElem?_eq_getElem hlt, h3]
  exact ⟨hlt, fun d => by simp [List.getD, h5], h5, h4.symm, by rw [List.take_succ_eq_append_getElem hlt, h3]⟩
end lists

/-- Valid keys. -/
def VKeys (l : List Int) (room : Int) : Prop := 1 ≤ room ∧ room ≤ 8 ∧ (l.length : Int) ≤ room ∧ (∀ x ∈ l, 0 ≤ x ∧ x ≤ 31) ∧ l.Nodup
def Bs (b : List Int) : Prop := b.length ≤ 2000 ∧ ∀ x ∈ b, 0 ≤ x ∧ x ≤ 255
theorem Bs.get {b : List Int} (h : Bs b) (i : Nat) : 0 ≤ b.getD i 0 ∧ b.getD i 0 ≤ 255 := by
  rcases Nat.lt_or_ge i b.length with hi | hi
  · have hx : b[i]? = some (b.getD i 0) := by simp [List.getD, hi]
    exact h.2 _ (List.mem_of_getElem? hx)
  · simp [List.getD, List.getElem?_eq_none hi]
def rmK (l : List Int) (key : Int) : List Int := l.filter (fun x => x != key)
def recM (l : List Int) (room key : Int) : List Int := (key :: rmK l key).take room.toNat
theorem mem_rmK {l : List Int} {key x : Int} : x ∈ rmK l key ↔ x ∈ l ∧ x ≠ key := by simp [rmK]
theorem rmK_not {l : List Int} {key : Int} (h : key ∉ l) : rmK l key = l := by
  unfold rmK
  rw [List.filter_eq_self]
  intro x hx
  have : x ≠ key := fun e => h (e ▸ hx)
  simpa using this
theorem rmK_nodup {l : List Int} {key : Int} (h : l.Nodup) : (rmK l key).Nodup := List.Pairwise.filter _ h
theorem rmK_le {l : List Int} {key : Int} : (rmK l key).length ≤ l.length := List.length_filter_le _ _
theorem rmK_cons_ne {l : List Int} {key x : Int} (h : x ≠ key) : rmK (x :: l) key = x :: rmK l key := by
  unfold rmK; rw [List.filter_cons_of_pos (by simpa using h)]
theorem rmK_cons_eq {l : List Int} {key : Int} : rmK (key :: l) key = rmK l key := by
  unfold rmK; rw [List.filter_cons_of_neg (by simp)]
theorem rmK_erase : ∀ {l : List Int} {key : Int} {j : Nat}, l.Nodup → l[j]? = some key → l.take j ++ l.drop (j + 1) = rmK l key
  | [], _, _, _, h => by simp at h
  | x :: r, key, 0, hn, h => by
    have e : x = key := by simpa using h
    subst e
    rw [rmK_cons_eq, rmK_not (List.nodup_cons.1 hn).1]; rfl
  | x :: r, key, j + 1, hn, h => by
    have h' : r[j]? = some key := by simpa using h
    have hne : x ≠ key := fun e => (List.nodup_cons.1 hn).1 (e ▸ List.mem_of_getElem? h')
    rw [rmK_cons_ne hne, ← rmK_erase (List.nodup_cons.1 hn).2 h']; rfl
theorem rmK_len {l : List Int} {key : Int} (hn : l.Nodup) (h : key ∈ l) : (rmK l key).length + 1 = l.length := by
  obtain ⟨j, hj, he⟩ := List.getElem_of_mem h
  have h2 : l[j]? = some key := by rw [List.getElem?_eq_getElem hj, he]
  rw [← rmK_erase hn h2]; simp; omega
theorem take_nodup {l : List Int} {n : Nat} (h : l.Nodup) : (l.take n).Nodup := List.Pairwise.sublist (List.take_sublist n l) h
theorem recM_hit {l : List Int} {room key : Int} (hn : l.Nodup) (hl : (l.length : Int) ≤ room) (h : key ∈ l) : recM l room key = key :: rmK l key := by
  have := rmK_len hn h
  exact List.take_of_length_le (by simp; omega)
theorem recM_miss {l : List Int} {room key : Int} (h : key ∉ l) : recM l room key = (key :: l).take room.toNat := by rw [recM, rmK_not h]
theorem recM_valid {l : List Int} {room key : Int} (v : VKeys l room) (hk : 0 ≤ key ∧ key ≤ 31) : VKeys (recM l room key) room := by
  obtain ⟨v1, v2, v3, v4, v5⟩ := v
  refine ⟨v1, v2, by simp only [recM, List.length_take]; omega, fun x hx => ?_, take_nodup ?_⟩
  · rcases List.mem_cons.1 (List.mem_of_mem_take hx) with rfl | h
    · exact hk
    · exact v4 x (mem_rmK.1 h).1
  · exact List.nodup_cons.2 ⟨fun h => (mem_rmK.1 h).2 rfl, rmK_nodup v5⟩
def VSegs (trial safe : Int) (new old : List Int) : Prop := VKeys new trial ∧ VKeys old safe ∧ ∀ x ∈ new, x ∉ old
/-- New, Old and hit behind the use of a key. -/
def segM (trial safe : Int) (new old : List Int) (key : Int) : List Int × List Int × Bool :=
  if key ∈ old then (new, key :: rmK old key, true)
  else if key ∈ new then ((if (old.length : Int) = safe then [old.getD (old.length - 1) 0] else []) ++ rmK new key, (key :: old).take safe.toNat, true)
  else ((key :: new).take trial.toNat, old, false)
theorem segM_valid {trial safe : Int} {new old : List Int} {key : Int} (v : VSegs trial safe new old) (hk : 0 ≤ key ∧ key ≤ 31) :
    VSegs trial safe (segM trial safe new old key).1 (segM trial safe new old key).2.1 := by
  obtain ⟨vn, vo, vd⟩ := v
  obtain ⟨n1, n2, n3, n4, n5⟩ := vn
  obtain ⟨o1, o2, o3, o4, o5⟩ := vo
  unfold segM
  split
  · rename_i h
    refine ⟨⟨n1, n2, n3, n4, n5⟩, ?_, fun x hx hx2 => ?_⟩
    · rw [← recM_hit o5 o3 h]; exact recM_valid ⟨o1, o2, o3, o4, o5⟩ hk
    · rcases List.mem_cons.1 hx2 with rfl | h2
      · exact vd _ hx h
      · exact vd _ hx (mem_rmK.1 h2).1
  · rename_i h
    split
    · rename_i hn
      have hlen := rmK_len n5 hn
      have hvo : VKeys ((key :: old).take safe.toNat) safe := by rw [← recM_miss h]; exact recM_valid ⟨o1, o2, o3, o4, o5⟩ hk
      split
      · rename_i hs
        have hlo : old.length ≠ 0 := by omega
        have hl : old[old.length - 1]? = some (old.getD (old.length - 1) 0) := by
          rw [List.getElem?_eq_getElem (by omega)]; simp [List.getD, List.getElem?_eq_getElem (show old.length - 1 < old.length by omega)]
        have hlm := List.mem_of_getElem? hl
        refine ⟨⟨n1, n2, by simp; omega, fun x hx => ?_, ?_⟩, hvo, fun x hx hx2 => ?_⟩
        · rcases List.mem_append.1 hx with h1 | h1
          · have e := List.mem_singleton.1 h1; rw [e]; exact o4 _ hlm
          · exact n4 x (mem_rmK.1 h1).1
        · rw [List.nodup_append]
          refine ⟨by simp, rmK_nodup n5, fun a ha b hb e => ?_⟩
          have e2 := List.mem_singleton.1 ha
          subst e; rw [e2] at hb
          exact vd _ (mem_rmK.1 hb).1 hlm
        · obtain ⟨s, hs2⟩ : ∃ s, safe.toNat = s + 1 := ⟨safe.toNat - 1, by omega⟩
          rw [hs2, List.take_succ_cons] at hx2
          rcases List.mem_append.1 hx with h1 | h1
          · have e := List.mem_singleton.1 h1
            rcases List.mem_cons.1 hx2 with e2 | h2
            · exact h (by rw [← e2, e]; exact hlm)
            · obtain ⟨i, hi, hie⟩ := List.getElem_of_mem h2
              rw [List.length_take] at hi
              rw [List.getElem_take] at hie
              have hlt : old.length - 1 < old.length := by omega
              refine List.pairwise_iff_getElem.1 o5 i (old.length - 1) (by omega) hlt (by omega) ?_
              rw [hie, e]; simp [List.getD, List.getElem?_eq_getElem hlt]
          · obtain ⟨h3, h4⟩ := mem_rmK.1 h1
            rcases List.mem_cons.1 hx2 with e2 | h2
            · exact h4 e2
            · exact vd _ h3 (List.mem_of_mem_take h2)
      · refine ⟨⟨n1, n2, by simp; omega, fun x hx => n4 x (mem_rmK.1 (by simpa using hx)).1, by simpa using rmK_nodup n5⟩, hvo, fun x hx hx2 => ?_⟩
        have hx := mem_rmK.1 (show x ∈ rmK new key by simpa using hx)
        rcases List.mem_cons.1 (List.mem_of_mem_take hx2) with e | h2
        · exact hx.2 e
        · exact vd _ hx.1 h2
    · rename_i hn
      refine ⟨?_, ⟨o1, o2, o3, o4, o5⟩, fun x hx hx2 => ?_⟩
      · rw [← recM_miss hn]; exact recM_valid ⟨n1, n2, n3, n4, n5⟩ hk
      · rcases List.mem_cons.1 (List.mem_of_mem_take hx) with rfl | h2
        · exact h hx2
        · exact vd _ h2 hx2
theorem nodup_le : ∀ {a b : List Int}, a.Nodup → (∀ x ∈ a, x ∈ b) → a.length ≤ b.length
  | [], _, _, _ => Nat.zero_le _
  | x :: r, b, hn, hs => by
    have hx : x ∈ b := hs x List.mem_cons_self
    have h1 := nodup_le (a := r) (b := b.erase x) (List.nodup_cons.1 hn).2 (fun y hy => by
      have hne : y ≠ x := fun e => (List.nodup_cons.1 hn).1 (e ▸ hy)
      exact (List.mem_erase_of_ne hne).2 (hs y (List.mem_cons_of_mem _ hy)))
    rw [List.length_erase_of_mem hx] at h1
    have := List.length_pos_of_mem hx
    simp; omega
theorem br_nt {A B : Prop} (h : B) : br (!true) A B := h
theorem br_nf {A B : Prop} (h : A) : br (!false) A B := h
theorem br_same {b : Bool} {A B : Prop} (h : B) : br (!(b == b)) A B := by rw [beq_self_eq_true]; exact h
theorem br_same' {b : Int} {A B : Prop} (h : B) : br (b != b) A B := by rw [bne_self_eq_false]; exact h
theorem some_of {l : List Int} {i : Nat} {d : Int} (h : i < l.length) : l[i]? = some (l.getD i d) := by
  rw [List.getD_eq_getElem?_getD, List.getElem?_eq_getElem h]; rfl
def VTrace (t : List Int) : Prop := t.length ≤ 24 ∧ ∀ x ∈ t, 0 ≤ x ∧ x ≤ 31
def toI (b : Bool) : Int := if b then 1 else 0
theorem br_de {α : Type} [DecidableEq α] {a : α} {A B : Prop} (h : B) : br (!decide (a = a)) A B := by rw [decide_eq_true rfl]; exact h
theorem mem_getD {l : List Int} {i : Nat} (h : i < l.length) : l.getD i 0 ∈ l := List.mem_of_getElem? (some_of h)
def runS (trial safe : Int) : List Int → List Int → List Int → Int → List Int × List Int × Int
  | [], a, b, n => (a, b, n)
  | x :: r, a, b, n => runS trial safe r (segM trial safe a b x).1 (segM trial safe a b x).2.1 (n + toI (segM trial safe a b x).2.2)
theorem segs0 {trial safe : Int} (h : 1 ≤ trial ∧ trial ≤ 8) (g : 1 ≤ safe ∧ safe ≤ 8) : VSegs trial safe [] [] :=
  ⟨⟨h.1, h.2, by simp; omega, by simp, by simp⟩, ⟨g.1, g.2, by simp; omega, by simp, by simp⟩, by simp⟩
theorem segM_hit {trial safe : Int} {new old : List Int} {key : Int} : (segM trial safe new old key).2.2 = decide (key ∈ new ∨ key ∈ old) := by
  unfold segM
  split
  · rename_i h; simp [h]
  · rename_i h
    split
    · rename_i g; simp [g]
    · rename_i g; simp [h, g]
theorem segM_old {trial safe : Int} {new old : List Int} {key : Int} (hs : 1 ≤ safe) (h : key ∈ new ∨ key ∈ old) : ∃ r, (segM trial safe new old key).2.1 = key :: r := by
  unfold segM
  split
  · exact ⟨_, rfl⟩
  · rename_i g
    rw [if_pos (h.resolve_right g)]
    obtain ⟨n, hn⟩ : ∃ n, safe.toNat = n + 1 := ⟨safe.toNat - 1, by omega⟩
    exact ⟨old.take n, by simp only [hn, List.take_succ_cons]⟩
theorem segM_miss {trial safe : Int} {new old : List Int} {key : Int} (h : ¬ (key ∈ new ∨ key ∈ old)) : segM trial safe new old key = ((key :: new).take trial.toNat, old, false) := by
  unfold segM
  rw [if_neg (fun g => h (.inr g)), if_neg (fun g => h (.inl g))]
theorem segM_sub {trial safe : Int} {new old : List Int} {key x : Int} (h : x ∈ (segM trial safe new old key).1 ∨ x ∈ (segM trial safe new old key).2.1) (hv : (old.length : Int) = safe → old ≠ []) : x = key ∨ x ∈ new ∨ x ∈ old := by
  revert h
  unfold segM
  split
  · intro h
    rcases h with h | h
    · exact .inr (.inl h)
    · rcases List.mem_cons.1 h with h | h
      · exact .inl h
      · exact .inr (.inr (mem_rmK.1 h).1)
  · split
    · intro h
      rcases h with h | h
      · rcases List.mem_append.1 h with h | h
        · split at h
          · rename_i hs
            have := hv hs
            rw [List.mem_singleton] at h
            rw [h]
            exact .inr (.inr (mem_getD (by have := List.length_pos_iff.2 this; omega)))
          · cases h
        · exact .inr (.inl (mem_rmK.1 h).1)
      · rcases List.mem_cons.1 (List.mem_of_mem_take h) with h | h
        · exact .inl h
        · exact .inr (.inr h)
    · intro h
      rcases h with h | h
      · rcases List.mem_cons.1 (List.mem_of_mem_take h) with h | h
        · exact .inl h
        · exact .inr (.inl h)
      · exact .inr (.inr h)
theorem vsegs_ne {trial safe : Int} {a b : List Int} (v : VSegs trial safe a b) : (b.length : Int) = safe → b ≠ [] := fun h e => by
  have := v.2.1.1; rw [e] at h; simp at h; omega
/-- How many numbers of a list are not in another. -/
def outN (a l : List Int) : Nat := (l.filter (fun x => !decide (x ∈ a))).length
theorem outN_cons {a l : List Int} {x : Int} : outN a (x :: l) = (if x ∈ a then 0 else 1) + outN a l := by
  unfold outN
  by_cases h : x ∈ a
  · rw [List.filter_cons_of_neg (by simp [h]), if_pos h]; omega
  · rw [List.filter_cons_of_pos (by simp [h]), if_neg h, List.length_cons]; omega
theorem outN_append {a l r : List Int} : outN a (l ++ r) = outN a l + outN a r := by simp [outN]
theorem outN_zero {a l : List Int} (h : ∀ x ∈ l, x ∈ a) : outN a l = 0 := by
  unfold outN
  rw [List.length_eq_zero_iff, List.filter_eq_nil_iff]
  intro x hx
  simp [h x hx]
theorem outN_le {a l : List Int} : outN a l ≤ l.length := List.length_filter_le _ _
theorem segM_keep {trial safe : Int} {new old : List Int} {key : Int} (v : VSegs trial safe new old) :
    ((segM trial safe new old key).2.2 = true → outN ((segM trial safe new old key).2.1 ++ (segM trial safe new old key).1) (old ++ new) = 0) ∧
    ((segM trial safe new old key).2.2 = false → outN ((segM trial safe new old key).2.1 ++ (segM trial safe new old key).1) (old ++ new) ≤ 1 ∧ (segM trial safe new old key).2.1 = old) := by
  obtain ⟨⟨n1, n2, n3, n4, n5⟩, ⟨o1, o2, o3, o4, o5⟩, vd⟩ := v
  unfold segM
  split
  · refine ⟨fun _ => outN_zero fun x hx => ?_, fun h => by cases h⟩
    by_cases e : x = key
    · subst e; simp
    · rcases List.mem_append.1 hx with h | h
      · exact List.mem_append.2 (.inl (List.mem_cons_of_mem _ (mem_rmK.2 ⟨h, e⟩)))
      · exact List.mem_append.2 (.inr h)
  · rename_i ho
    obtain ⟨s, hs⟩ : ∃ n, safe.toNat = n + 1 := ⟨safe.toNat - 1, by omega⟩
    split
    · refine ⟨fun _ => outN_zero fun x hx => ?_, fun h => by cases h⟩
      dsimp only
      rw [hs, List.take_succ_cons]
      by_cases e : x = key
      · subst e; simp
      · rcases List.mem_append.1 hx with h | h
        · rw [← List.take_append_drop s old] at h
          rcases List.mem_append.1 h with h | h
          · exact List.mem_append.2 (.inl (List.mem_cons_of_mem _ h))
          · have hl : (old.length : Int) = safe := by
              have := List.length_pos_of_mem h
              rw [List.length_drop] at this; omega
            rw [if_pos hl]
            have h2 : old.drop s = [old.getD (old.length - 1) 0] := by
              have hlt : s < old.length := by omega
              rw [List.drop_eq_getElem_cons hlt, List.drop_eq_nil_of_le (by omega)]
              have : old.length - 1 = s := by omega
              rw [this]; simp [List.getD, hlt]
            rw [h2] at h
            exact List.mem_append.2 (.inr (List.mem_append.2 (.inl h)))
        · exact List.mem_append.2 (.inr (List.mem_append.2 (.inr (mem_rmK.2 ⟨h, e⟩))))
    · refine ⟨fun h => (by cases h), fun _ => ⟨?_, rfl⟩⟩
      dsimp only
      obtain ⟨r, hr⟩ : ∃ n, trial.toNat = n + 1 := ⟨trial.toNat - 1, by omega⟩
      rw [hr, List.take_succ_cons, outN_append, outN_zero (l := old) (fun x hx => List.mem_append.2 (.inl hx))]
      have hd : new = new.take r ++ new.drop r := (List.take_append_drop r new).symm
      have h1 : outN (old ++ key :: new.take r) new = outN (old ++ key :: new.take r) (new.take r) + outN (old ++ key :: new.take r) (new.drop r) := by
        rw [← outN_append, ← hd]
      rw [h1, outN_zero (l := new.take r) (fun x hx => List.mem_append.2 (.inr (List.mem_cons_of_mem _ hx)))]
      have := @outN_le (old ++ key :: new.take r) (new.drop r)
      rw [List.length_drop] at this
      omega
theorem segM_in {trial safe : Int} {new old : List Int} {key : Int} (ht : 1 ≤ trial) (hs : 1 ≤ safe) : key ∈ (segM trial safe new old key).1 ∨ key ∈ (segM trial safe new old key).2.1 := by
  by_cases h : key ∈ new ∨ key ∈ old
  · obtain ⟨r, hr⟩ := segM_old (trial := trial) hs h
    exact .inr (by rw [hr]; exact List.mem_cons_self)
  · obtain ⟨n, hn⟩ : ∃ n, trial.toNat = n + 1 := ⟨trial.toNat - 1, by omega⟩
    rw [segM_miss h]
    exact .inl (by simp only [hn, List.take_succ_cons]; exact List.mem_cons_self)

theorem take_set_succ {α : Type} {l : List α} {i : Nat} {x : α} (h : i < l.length) : (l.set i x).take (i + 1) = l.take i ++ [x] := by
  rw [List.take_succ_eq_append_getElem (by simpa using h), List.take_set_of_le (Nat.le_refl _)]; simp
def seqI (k : Int) : Nat → List Int
  | 0 => []
  | n + 1 => seqI k n ++ [k + (n : Int)]
theorem seqI_snoc (k : Int) (n : Nat) : seqI k (n + 1) = seqI k n ++ [k + (n : Int)] := rfl
theorem seqI_len (k : Int) : ∀ n, (seqI k n).length = n
  | 0 => rfl
  | n + 1 => by rw [seqI_snoc, List.length_append, seqI_len k n]; rfl
theorem seqI_get {k : Int} : ∀ {n i : Nat}, i < n → (seqI k n).getD i 0 = k + (i : Int)
  | n + 1, i, h => by
    rw [seqI_snoc, List.getD_eq_getElem?_getD]
    by_cases e : i < n
    · rw [List.getElem?_append_left (by rw [seqI_len]; exact e), ← List.getD_eq_getElem?_getD]; exact seqI_get e
    · have : i = n := by omega
      subst this
      rw [List.getElem?_append_right (by rw [seqI_len]; exact Nat.le_refl _), seqI_len]; simp
theorem br_lt0 {x : Int} {A B : Prop} (hx : 0 ≤ x) (h : B) : br (decide (x < 0)) A B := br_dec.2 ⟨fun g => by omega, fun _ => h⟩
def usedR : List Int → List Int → List Int
  | D, [] => D
  | D, x :: r => usedR (x :: rmK D x) r
abbrev Ent := Int × Int × Int
def Rar (a b : Ent) : Prop := a.2.1 < b.2.1 ∨ a.2.1 = b.2.1 ∧ a.2.2 < b.2.2
instance (a b : Ent) : Decidable (Rar a b) := by unfold Rar; infer_instance
theorem Rar.trans {a b c : Ent} (h : Rar a b) (g : Rar b c) : Rar a c := by unfold Rar at *; omega
structure AL where
  t : Int
  o : List Int
  f : List Int
  wo : List Int
  wf : List Int
/-- The count of a key, 0 if it isn't there. -/
def OldC (l : List Ent) (key old : Int) : Prop := (key ∉ l.map (·.1) ∧ old = 0) ∨ ∃ e ∈ l, e.1 = key ∧ old = e.2.1
theorem OldC.here {l : List Ent} {key : Int} {x : Ent} (hx : x.1 = key) : OldC (l ++ [x]) key x.2.1 := .inr ⟨x, by simp, hx, rfl⟩
def knownL (a : AL) (key : Int) : Prop := key ∈ a.o ∨ key ∈ a.f ∨ key ∈ a.wf ∨ key ∈ a.wo
instance (a : AL) (key : Int) : Decidable (knownL a key) := by unfold knownL; infer_instance
/-- `Can room r C n`: with a cache `C` before the keys `r`, `n` hits are possible. -/
def Can (room : Nat) : List Int → List Int → Nat → Prop
  | [], _, n => n = 0
  | k :: r, C, n => ∃ D m, D.Nodup ∧ D.length ≤ room ∧ k ∈ D ∧ (∀ x ∈ D, x = k ∨ x ∈ C) ∧ Can room r D m ∧ n ≤ m + (if k ∈ C then 1 else 0)
theorem Can.less {room : Nat} : ∀ {r C : List Int} {n m : Nat}, Can room r C n → m ≤ n → Can room r C m
  | [], _, _, _, h, hm => by simp only [Can] at *; omega
  | k :: r, C, _, _, ⟨D, m, h1, h2, h3, h4, h5, h6⟩, hm => ⟨D, m, h1, h2, h3, h4, h5, by omega⟩
theorem Can.mono {room : Nat} : ∀ {r C D : List Int} {n : Nat}, Can room r C n → (∀ x ∈ C, x ∈ D) → Can room r D n
  | [], _, _, _, h, _ => h
  | k :: r, C, D, n, ⟨E, m, h1, h2, h3, h4, h5, h6⟩, hs => by
    refine ⟨E, m, h1, h2, h3, fun x hx => (h4 x hx).imp id (hs x), h5, ?_⟩
    by_cases hc : k ∈ C
    · rw [if_pos hc] at h6; rw [if_pos (hs k hc)]; exact h6
    · rw [if_neg hc] at h6; exact Nat.le_trans h6 (Nat.le_add_right _ _)
theorem Can.zero {room : Nat} (h : 1 ≤ room) : ∀ {r C : List Int}, Can room r C 0
  | [], _ => rfl
  | k :: r, C => ⟨[k], 0, by simp, by simpa using h, by simp, fun x hx => .inl (List.mem_singleton.1 hx), Can.zero h, by omega⟩
/-- A key less costs a hit at most. -/
theorem Can.minus {room : Nat} {y : Int} : ∀ {r C : List Int} {n : Nat}, Can room r C (n + 1) → Can room r (rmK C y) n
  | [], C, n, h => by simp only [Can] at h; omega
  | k :: r, C, n, ⟨D, m, h1, h2, h3, h4, h5, h6⟩ => by
    by_cases hy : k = y
    · subst hy
      refine ⟨D, m, h1, h2, h3, fun x hx => ?_, h5, ?_⟩
      · rcases h4 x hx with h | h
        · exact .inl h
        · by_cases e : x = k
          · exact .inl e
          · exact .inr (mem_rmK.2 ⟨h, e⟩)
      · split at h6 <;> omega
    · have hm : (k ∈ rmK C y) = (k ∈ C) := propext (by rw [mem_rmK]; exact and_iff_left hy)
      have hr : 1 ≤ room := by have := List.length_pos_of_mem h3; omega
      refine ⟨rmK D y, m - 1, rmK_nodup h1, by have := @rmK_le D y; omega, mem_rmK.2 ⟨h3, hy⟩, fun x hx => ?_, ?_, by simp only [hm]; omega⟩
      · obtain ⟨hx1, hx2⟩ := mem_rmK.1 hx
        exact (h4 x hx1).imp id fun h => mem_rmK.2 ⟨h, hx2⟩
      · cases m with
        | zero => exact Can.zero hr
        | succ m => exact Can.minus h5
/-- After how many keys a key comes: all of them if it does not. -/
def nxt (x : Int) : List Int → Nat
  | [] => 0
  | k :: r => if k = x then 0 else nxt x r + 1
/-- A key that comes sooner is better. -/
theorem Can.swap {room : Nat} {x y : Int} : ∀ {r C : List Int} {n : Nat}, Can room r (y :: C) n → C.Nodup → x ∉ C → y ∉ C → C.length + 1 ≤ room → nxt x r ≤ nxt y r → Can room r (x :: C) n
  | [], _, _, h, _, _, _, _, _ => h
  | k :: r, C, n, ⟨D, m, h1, h2, h3, h4, h5, h6⟩, hn, hx, hy, hc, hi => by
    by_cases exy : x = y
    · subst exy; exact ⟨D, m, h1, h2, h3, h4, h5, h6⟩
    by_cases ek : k = y
    · subst ek
      rw [nxt, nxt, if_pos rfl, if_neg (Ne.symm exy)] at hi
      omega
    by_cases ekx : k = x
    · -- the sooner one comes: a hit
      subst ekx
      have hmiss : ¬ k ∈ y :: C := by simp; exact ⟨ek, hx⟩
      rw [if_neg hmiss] at h6
      refine ⟨k :: C, m - 1, List.nodup_cons.2 ⟨hx, hn⟩, by simpa using hc, by simp, fun z hz => by simp at hz; exact hz.imp id fun h => by simp [h], ?_, by simp; omega⟩
      cases m with
      | zero => exact Can.zero (by omega)
      | succ m =>
        refine (Can.minus (y := y) h5).mono fun z hz => ?_
        obtain ⟨g1, g2⟩ := mem_rmK.1 hz
        rcases h4 z g1 with h | h
        · rw [h]; simp
        · rcases List.mem_cons.1 h with h | h
          · exact absurd h g2
          · exact List.mem_cons_of_mem _ h
    · -- another key
      have hik : nxt x r ≤ nxt y r := by
        rw [nxt, nxt, if_neg ekx, if_neg ek] at hi; omega
      have hb : (if k ∈ x :: C then 1 else 0) = (if k ∈ y :: C then 1 else 0) := by
        have : (k ∈ x :: C) ↔ (k ∈ y :: C) := by simp [ek, ekx]
        simp only [this]
      by_cases hyD : y ∈ D
      · by_cases hxD : x ∈ D
        · rcases h4 x hxD with h | h
          · exact absurd h.symm ekx
          · rcases List.mem_cons.1 h with h | h
            · exact absurd h exy
            · exact absurd h hx
        · refine ⟨x :: rmK D y, m, List.nodup_cons.2 ⟨fun h => hxD (mem_rmK.1 h).1, rmK_nodup h1⟩, ?_, List.mem_cons_of_mem _ (mem_rmK.2 ⟨h3, ek⟩), fun z hz => ?_, ?_, by rw [hb]; exact h6⟩
          · have := rmK_len h1 hyD; simp; omega
          · rcases List.mem_cons.1 hz with h | h
            · right; rw [h]; simp
            · obtain ⟨g1, g2⟩ := mem_rmK.1 h
              rcases h4 z g1 with h | h
              · exact .inl h
              · rcases List.mem_cons.1 h with h | h
                · exact absurd h g2
                · exact .inr (List.mem_cons_of_mem _ h)
          · refine Can.swap (y := y) (h5.mono fun z hz => ?_) (rmK_nodup h1) (fun h => hxD (mem_rmK.1 h).1) (fun h => (mem_rmK.1 h).2 rfl) (by have := rmK_len h1 hyD; omega) hik
            by_cases e : z = y
            · rw [e]; simp
            · exact List.mem_cons_of_mem _ (mem_rmK.2 ⟨hz, e⟩)
      · refine ⟨D, m, h1, h2, h3, fun z hz => ?_, h5, by rw [hb]; exact h6⟩
        rcases h4 z hz with h | h
        · exact .inl h
        · rcases List.mem_cons.1 h with h | h
          · rw [h] at hz; exact absurd hz hyD
          · exact .inr (List.mem_cons_of_mem _ h)
/-- Of the keys of a cache the one that comes last, of several the first one. -/
def farK (r : List Int) : List Int → Int → Int
  | [], b => b
  | x :: l, b => farK r l (if nxt b r < nxt x r then x else b)
theorem farK_mem (r : List Int) : ∀ (l : List Int) (b : Int), farK r l b ∈ b :: l
  | [], b => by simp [farK]
  | x :: l, b => by
    have := farK_mem r l (if nxt b r < nxt x r then x else b)
    unfold farK
    rcases List.mem_cons.1 this with h | h
    · rw [h]; split <;> simp
    · simp [h]
theorem farK_max (r : List Int) : ∀ (l : List Int) (b x : Int), x ∈ b :: l → nxt x r ≤ nxt (farK r l b) r
  | [], b, x, h => by simp at h; rw [h]; exact Nat.le_refl _
  | y :: l, b, x, h => by
    unfold farK
    have h1 := farK_max r l (if nxt b r < nxt y r then y else b) (if nxt b r < nxt y r then y else b) (by simp)
    rcases List.mem_cons.1 h with h | h
    · rw [h]; split at h1
      · rw [if_pos (by assumption)]; omega
      · rw [if_neg (by assumption)]; exact h1
    · rcases List.mem_cons.1 h with h | h
      · rw [h]; split at h1
        · rw [if_pos (by assumption)]; exact h1
        · rw [if_neg (by assumption)]; omega
      · exact farK_max r l _ x (List.mem_cons_of_mem _ h)
/-- The key that leaves a cache. -/
def farM (r : List Int) : List Int → Int
  | [] => 0
  | x :: l => farK r l x
theorem farM_mem {r C : List Int} (h : 0 < C.length) : farM r C ∈ C := by
  cases C with
  | nil => simp at h
  | cons x l => exact farK_mem r l x
theorem farM_max {r C : List Int} {x : Int} (h : x ∈ C) : nxt x r ≤ nxt (farM r C) r := by
  cases C with
  | nil => simp at h
  | cons y l => exact farK_max r l y x h
/-- The cache of the best policy after a miss. -/
def missB (room : Nat) (r C : List Int) (k : Int) : List Int := (if C.length = room then rmK C (farM r C) else C) ++ [k]
def bestM (room : Nat) : List Int → List Int → Nat
  | [], _ => 0
  | k :: r, C => if k ∈ C then bestM room r C + 1 else bestM room r (missB room r C k)
theorem missB_ok {room : Nat} {r C : List Int} {k : Int} (hr : 1 ≤ room) (hn : C.Nodup) (hc : C.length ≤ room) (hk : k ∉ C) : (missB room r C k).Nodup ∧ (missB room r C k).length ≤ room ∧ k ∈ missB room r C k ∧ ∀ x ∈ missB room r C k, x = k ∨ x ∈ C := by
  unfold missB
  split
  · rename_i hf
    have hm := farM_mem (r := r) (C := C) (by omega)
    have := rmK_len hn hm
    refine ⟨?_, by simp; omega, by simp, fun x hx => ?_⟩
    · rw [List.nodup_append]
      exact ⟨rmK_nodup hn, by simp, fun a ha b hb e => by simp at hb; subst hb; subst e; exact hk (mem_rmK.1 ha).1⟩
    · rcases List.mem_append.1 hx with h | h
      · exact .inr (mem_rmK.1 h).1
      · exact .inl (List.mem_singleton.1 h)
  · refine ⟨?_, by simp; omega, by simp, fun x hx => ?_⟩
    · rw [List.nodup_append]
      exact ⟨hn, by simp, fun a ha b hb e => by simp at hb; subst hb; subst e; exact hk ha⟩
    · rcases List.mem_append.1 hx with h | h
      · exact .inr h
      · exact .inl (List.mem_singleton.1 h)
/-- Of two lists of different keys the longer one has one that the other one has not. -/
theorem more_keys {C D : List Int} (hn : C.Nodup) (h : D.length < C.length) : ∃ y ∈ C, y ∉ D := by
  apply Classical.byContradiction
  intro hno
  have hs : ∀ y ∈ C, y ∈ D := fun y hy => Classical.byContradiction fun c => hno ⟨y, hy, c⟩
  have := nodup_le hn hs
  omega
theorem best_opt {room : Nat} (hr : 1 ≤ room) : ∀ {r C : List Int} {n : Nat}, Can room r C n → C.Nodup → C.length ≤ room → n ≤ bestM room r C
  | [], _, _, h, _, _ => by simp only [Can] at h; omega
  | k :: r, C, n, ⟨D, m, h1, h2, h3, h4, h5, h6⟩, hn, hc => by
    unfold bestM
    by_cases hk : k ∈ C
    · rw [if_pos hk] at h6 ⊢
      have := best_opt hr (h5.mono (D := C) fun x hx => (h4 x hx).elim (fun e => e ▸ hk) id) hn hc
      omega
    · rw [if_neg hk] at h6 ⊢
      obtain ⟨g1, g2, g3, g4⟩ := missB_ok (r := r) hr hn hc hk
      refine Nat.le_trans h6 (best_opt hr ?_ g1 g2)
      unfold missB at *
      by_cases hf : C.length = room
      · rw [if_pos hf] at *
        have hm := farM_mem (r := r) (C := C) (by omega)
        -- a key has left
        obtain ⟨y, y1, y2⟩ := more_keys (C := C) (D := rmK D k) hn (by have := rmK_len h1 h3; omega)
        have y3 : y ≠ k := fun e => hk (e ▸ y1)
        have y4 : y ∉ D := fun h => y2 (mem_rmK.2 ⟨h, y3⟩)
        by_cases hy : y = farM r C
        · refine h5.mono fun x hx => ?_
          rcases h4 x hx with h | h
          · rw [h]; simp
          · exact List.mem_append_left _ (mem_rmK.2 ⟨h, fun e => y4 (by rw [hy, ← e]; exact hx)⟩)
        · have hfk : farM r C ≠ k := fun e => hk (e ▸ hm)
          have hn2 : (k :: rmK (rmK C y) (farM r C)).Nodup := List.nodup_cons.2 ⟨fun h => hk (mem_rmK.1 (mem_rmK.1 h).1).1, rmK_nodup (rmK_nodup hn)⟩
          have l1 := rmK_len hn y1
          have l2 := rmK_len (rmK_nodup (key := y) hn) (mem_rmK.2 ⟨hm, Ne.symm hy⟩)
          have h7 : Can room r (farM r C :: k :: rmK (rmK C y) (farM r C)) m := h5.mono fun x hx => by
            rcases h4 x hx with h | h
            · rw [h]; simp
            · by_cases e : x = farM r C
              · rw [e]; simp
              · exact List.mem_cons_of_mem _ (List.mem_cons_of_mem _ (mem_rmK.2 ⟨mem_rmK.2 ⟨h, fun e2 => y4 (e2 ▸ hx)⟩, e⟩))
          have h8 := Can.swap (x := y) h7 hn2 (fun h => by
            rcases List.mem_cons.1 h with h | h
            · exact y3 h
            · exact (mem_rmK.1 (mem_rmK.1 h).1).2 rfl) (fun h => by
            rcases List.mem_cons.1 h with h | h
            · exact hfk h
            · exact (mem_rmK.1 h).2 rfl) (by simp; omega) (farM_max y1)
          refine h8.mono fun x hx => ?_
          rcases List.mem_cons.1 hx with h | h
          · rw [h]; exact List.mem_append_left _ (mem_rmK.2 ⟨y1, hy⟩)
          · rcases List.mem_cons.1 h with h | h
            · rw [h]; simp
            · obtain ⟨a1, a2⟩ := mem_rmK.1 h
              exact List.mem_append_left _ (mem_rmK.2 ⟨(mem_rmK.1 a1).1, a2⟩)
      · rw [if_neg hf] at *
        refine h5.mono fun x hx => ?_
        rcases h4 x hx with h | h
        · rw [h]; simp
        · exact List.mem_append_left _ h
theorem mem_usedR : ∀ {t D : List Int} {x : Int}, x ∈ usedR D t ↔ x ∈ D ∨ x ∈ t
  | [], D, x => by simp [usedR]
  | y :: t, D, x => by
    rw [usedR, mem_usedR (t := t), List.mem_cons, List.mem_cons, mem_rmK]
    by_cases e : x = y
    · simp [e]
    · simp [e]
theorem usedR_nodup : ∀ {t D : List Int}, D.Nodup → (usedR D t).Nodup
  | [], _, h => h
  | y :: t, D, h => usedR_nodup (t := t) (List.nodup_cons.2 ⟨fun h => (mem_rmK.1 h).2 rfl, rmK_nodup h⟩)
/-- How many different keys a trace has. -/
def nk (t : List Int) : Nat := (usedR [] t).length
theorem nk_of {t E : List Int} (hn : E.Nodup) (h : ∀ x, x ∈ E ↔ x ∈ t) : E.length = nk t := by
  refine Nat.le_antisymm (nodup_le hn fun x hx => mem_usedR.2 (.inr ((h x).1 hx))) (nodup_le (usedR_nodup (by simp)) fun x hx => (h x).2 ?_)
  exact (mem_usedR.1 hx).resolve_left (by simp)
theorem len_add {D : List Int} (hn : D.Nodup) (k : Int) : (k :: rmK D k).length = D.length + if k ∈ D then 0 else 1 := by
  rw [List.length_cons]
  split
  · rename_i h; exact rmK_len hn h
  · rename_i h; rw [rmK_not h]
/-- New keys are never there. -/
theorem can_new {room : Nat} : ∀ {r C D : List Int} {n : Nat}, Can room r C n → (∀ x ∈ C, x ∈ D) → D.Nodup → n + (usedR D r).length ≤ r.length + D.length
  | [], C, D, n, h, _, _ => by simp only [Can] at h; subst h; simp [usedR]
  | k :: r, C, D, n, ⟨E, m, h1, h2, h3, h4, h5, h6⟩, hs, hn => by
    have h7 := can_new (D := k :: rmK D k) h5 (fun x hx => by
      by_cases e : x = k
      · rw [e]; simp
      · exact List.mem_cons_of_mem _ (mem_rmK.2 ⟨hs x ((h4 x hx).resolve_left e), e⟩)) (List.nodup_cons.2 ⟨fun h => (mem_rmK.1 h).2 rfl, rmK_nodup hn⟩)
    rw [len_add hn] at h7
    rw [usedR, List.length_cons]
    by_cases hk : k ∈ C
    · rw [if_pos hk] at h6; rw [if_pos (hs k hk)] at h7; omega
    · rw [if_neg hk] at h6
      split at h7 <;> omega
/-- What a policy does to the keys of its cache: never more than `cap`, and while fewer than `free` are there, none leaves. -/
def Runs (cap free : Nat) : List Int → List Int → List Int → Nat → Prop
  | [], C, E, n => E = C ∧ n = 0
  | k :: r, C, E, n => ∃ D m, D.Nodup ∧ D.length ≤ cap ∧ k ∈ D ∧ (∀ x ∈ D, x = k ∨ x ∈ C) ∧ ((k ∈ C ∨ C.length < free) → ∀ x ∈ C, x ∈ D) ∧ (k ∉ C → free ≤ C.length → free ≤ D.length) ∧
      Runs cap free r D E m ∧ n = m + (if k ∈ C then 1 else 0)
theorem Runs.can {cap free : Nat} : ∀ {r C E : List Int} {n : Nat}, Runs cap free r C E n → Can cap r C n
  | [], _, _, _, h => h.2
  | k :: r, C, E, n, ⟨D, m, h1, h2, h3, h4, _, _, h7, h8⟩ => ⟨D, m, h1, h2, h3, h4, h7.can, by omega⟩
theorem Runs.best {cap free : Nat} {t E : List Int} {n : Nat} (hr : 1 ≤ cap) (h : Runs cap free t [] E n) : n ≤ bestM cap t [] := best_opt hr h.can (by simp) (by simp)
theorem Runs.new {cap free : Nat} {t E : List Int} {n : Nat} (h : Runs cap free t [] E n) : n + nk t ≤ t.length := by
  have := can_new (D := []) h.can (by simp) (by simp)
  simpa [nk] using this
theorem Runs.nodup {cap free : Nat} : ∀ {r C E : List Int} {n : Nat}, Runs cap free r C E n → C.Nodup → C.length ≤ cap → E.Nodup ∧ E.length ≤ cap
  | [], _, _, _, h, h1, h2 => by rw [h.1]; exact ⟨h1, h2⟩
  | k :: r, C, E, n, ⟨D, m, h1, h2, h3, h4, _, _, h7, h8⟩, _, _ => h7.nodup h1 h2
/-- All keys fit: none leaves. -/
theorem Runs.fit {cap free : Nat} : ∀ {r C D E : List Int} {n : Nat}, Runs cap free r C E n → C.Nodup → D.Nodup → (∀ x, x ∈ C ↔ x ∈ D) → (usedR D r).length ≤ free →
    n + (usedR D r).length = r.length + D.length ∧ ∀ x, x ∈ E ↔ x ∈ usedR D r
  | [], C, D, E, n, h, _, _, hs, _ => by rw [h.1, h.2]; exact ⟨by simp [usedR], hs⟩
  | k :: r, C, D, E, n, ⟨C', m, h1, h2, h3, h4, h5, h6, h7, h8⟩, hc, hn, hs, hl => by
    have hn2 : (k :: rmK D k).Nodup := List.nodup_cons.2 ⟨fun h => (mem_rmK.1 h).2 rfl, rmK_nodup hn⟩
    have hCD : C.length = D.length := Nat.le_antisymm (nodup_le hc fun x hx => (hs x).1 hx) (nodup_le hn fun x hx => (hs x).2 hx)
    rw [usedR] at hl ⊢
    have hmono : (k :: rmK D k).length ≤ (usedR (k :: rmK D k) r).length := nodup_le hn2 fun x hx => mem_usedR.2 (.inl hx)
    have hadd := len_add hn k
    have hkeep : ∀ x ∈ C, x ∈ C' := h5 (by
      by_cases hk : k ∈ C
      · exact .inl hk
      · right
        rw [if_neg (fun h => hk ((hs k).2 h))] at hadd
        omega)
    have hs2 : ∀ x, x ∈ C' ↔ x ∈ k :: rmK D k := fun x => by
      constructor
      · intro hx
        by_cases e : x = k
        · rw [e]; simp
        · exact List.mem_cons_of_mem _ (mem_rmK.2 ⟨(hs x).1 ((h4 x hx).resolve_left e), e⟩)
      · intro hx
        rcases List.mem_cons.1 hx with h | h
        · rw [h]; exact h3
        · exact hkeep x ((hs x).2 (mem_rmK.1 h).1)
    obtain ⟨g1, g2⟩ := h7.fit h1 hn2 hs2 hl
    refine ⟨?_, g2⟩
    rw [hadd] at g1
    rw [h8, List.length_cons]
    by_cases hk : k ∈ C
    · rw [if_pos hk]; rw [if_pos ((hs k).1 hk)] at g1; omega
    · rw [if_neg hk]; rw [if_neg (fun h => hk ((hs k).2 h))] at g1; omega
/-- A cache is full, or has all keys. -/
theorem Runs.full {cap free : Nat} : ∀ {r C D E : List Int} {n : Nat}, Runs cap free r C E n → C.Nodup → D.Nodup → (free ≤ C.length ∨ ∀ x, x ∈ C ↔ x ∈ D) → free ≤ E.length ∨ ∀ x, x ∈ E ↔ x ∈ usedR D r
  | [], C, D, E, n, h, _, _, hs => by rw [h.1]; exact hs
  | k :: r, C, D, E, n, ⟨C', m, h1, h2, h3, h4, h5, h6, h7, h8⟩, hc, hn, hs => by
    have hn2 : (k :: rmK D k).Nodup := List.nodup_cons.2 ⟨fun h => (mem_rmK.1 h).2 rfl, rmK_nodup hn⟩
    refine h7.full h1 hn2 ?_
    by_cases hf : free ≤ C.length
    · left
      by_cases hk : k ∈ C
      · exact Nat.le_trans hf (nodup_le hc (h5 (.inl hk)))
      · exact h6 hk hf
    · right
      have hs := hs.resolve_left hf
      have hkeep : ∀ x ∈ C, x ∈ C' := h5 (.inr (by omega))
      intro x
      constructor
      · intro hx
        by_cases e : x = k
        · rw [e]; simp
        · exact List.mem_cons_of_mem _ (mem_rmK.2 ⟨(hs x).1 ((h4 x hx).resolve_left e), e⟩)
      · intro hx
        rcases List.mem_cons.1 hx with h | h
        · rw [h]; exact h3
        · exact hkeep x ((hs x).2 (mem_rmK.1 h).1)
theorem outN_all {a l : List Int} (h : outN a l = 0) : ∀ x ∈ l, x ∈ a := by
  unfold outN at h
  rw [List.length_eq_zero_iff, List.filter_eq_nil_iff] at h
  intro x hx
  have := h x hx
  simpa using this
theorem outN_in {a : List Int} : ∀ (l : List Int), outN a l + (l.filter (fun x => decide (x ∈ a))).length = l.length
  | [] => rfl
  | x :: l => by
    have := outN_in (a := a) l
    rw [outN_cons, List.length_cons]
    by_cases h : x ∈ a
    · rw [if_pos h, List.filter_cons_of_pos (by simp [h]), List.length_cons]; omega
    · rw [if_neg h, List.filter_cons_of_neg (by simp [h])]; omega
theorem keep_full {C D : List Int} {k : Int} (hn : C.Nodup) (hk : k ∉ C) (hd : k ∈ D) (h : outN D C ≤ 1) : C.length ≤ D.length := by
  have h1 := outN_in (a := D) C
  have h2 : (k :: C.filter (fun x => decide (x ∈ D))).length ≤ D.length := nodup_le (List.nodup_cons.2 ⟨fun c => hk (List.mem_filter.1 c).1, List.Pairwise.filter _ hn⟩) fun x hx => by
    rcases List.mem_cons.1 hx with h | h
    · rw [h]; exact hd
    · simpa using (List.mem_filter.1 h).2
  rw [List.length_cons] at h2
  omega
theorem toI_if (p : Prop) [Decidable p] (m : Nat) (n : Int) : n + toI (decide p) + (m : Int) = n + ((m + (if p then 1 else 0) : Nat) : Int) := by
  by_cases h : p
  · simp [h, toI]; omega
  · simp [h, toI]
/-- What a step of a policy keeps. -/
def StepK (cap free : Nat) (C D : List Int) (k : Int) : Prop :=
  D.Nodup ∧ D.length ≤ cap ∧ k ∈ D ∧ (∀ x ∈ D, x = k ∨ x ∈ C) ∧ ((k ∈ C ∨ C.length < free) → ∀ x ∈ C, x ∈ D) ∧ (k ∉ C → free ≤ C.length → free ≤ D.length)
theorem Runs.step {cap free : Nat} {k : Int} {r C D E : List Int} {m : Nat} (h : StepK cap free C D k) (g : Runs cap free r D E m) : Runs cap free (k :: r) C E (m + if k ∈ C then 1 else 0) :=
  ⟨D, m, h.1, h.2.1, h.2.2.1, h.2.2.2.1, h.2.2.2.2.1, h.2.2.2.2.2, g, rfl⟩
theorem segs_nd {trial safe : Int} {new old : List Int} (v : VSegs trial safe new old) : (old ++ new).Nodup := by
  obtain ⟨⟨_, _, _, _, h1⟩, ⟨_, _, _, _, h2⟩, h3⟩ := v
  exact List.nodup_append.2 ⟨h2, h1, fun a ha b hb e => h3 b hb (e ▸ ha)⟩
theorem segM_step {trial safe : Int} {new old : List Int} {key : Int} (v : VSegs trial safe new old) (hk : 0 ≤ key ∧ key ≤ 31) :
    StepK (trial.toNat + safe.toNat) trial.toNat (old ++ new) ((segM trial safe new old key).2.1 ++ (segM trial safe new old key).1) key := by
  have hv := segM_valid v hk
  have hn := segs_nd v
  have hkeep := segM_keep (key := key) v
  have hin : key ∈ (segM trial safe new old key).2.1 ++ (segM trial safe new old key).1 := by
    rcases segM_in (trial := trial) (safe := safe) (new := new) (old := old) (key := key) v.1.1 v.2.1.1 with h | h
    · exact List.mem_append_right _ h
    · exact List.mem_append_left _ h
  have hhit : (segM trial safe new old key).2.2 = decide (key ∈ old ++ new) := by
    rw [segM_hit]; simp [or_comm]
  refine ⟨segs_nd hv, ?_, hin, fun x hx => ?_, fun h x hx => ?_, fun h1 h2 => ?_⟩
  · have := hv.1.2.2.1; have := hv.2.1.2.2.1; have := v.1.1; have := v.2.1.1
    rw [List.length_append]; omega
  · rcases segM_sub (x := x) (by rcases List.mem_append.1 hx with h | h; exact .inr h; exact .inl h) (vsegs_ne v) with h | h
    · exact .inl h
    · rcases h with h | h
      · exact .inr (List.mem_append_right _ h)
      · exact .inr (List.mem_append_left _ h)
  · by_cases hm : key ∈ old ++ new
    · exact outN_all (hkeep.1 (by rw [hhit]; exact decide_eq_true hm)) x hx
    · have hlt := h.resolve_left hm
      rw [List.length_append] at hlt
      rw [segM_miss (fun c => hm (by simp; exact c.symm))]
      rw [List.take_of_length_le (by simp; omega)]
      rcases List.mem_append.1 hx with h | h
      · exact List.mem_append_left _ h
      · exact List.mem_append_right _ (List.mem_cons_of_mem _ h)
  · have := keep_full hn h1 hin (hkeep.2 (by rw [hhit]; exact decide_eq_false h1)).1
    omega
theorem runS_runs {trial safe : Int} : ∀ (t a b : List Int) (n : Int), VSegs trial safe a b → (∀ x ∈ t, 0 ≤ x ∧ x ≤ 31) →
    ∃ m : Nat, Runs (trial.toNat + safe.toNat) trial.toNat t (b ++ a) ((runS trial safe t a b n).2.1 ++ (runS trial safe t a b n).1) m ∧ (runS trial safe t a b n).2.2 = n + m
  | [], a, b, n, _, _ => ⟨0, ⟨rfl, rfl⟩, by simp [runS]⟩
  | k :: t, a, b, n, v, ht => by
    have hk := ht k List.mem_cons_self
    obtain ⟨m, h1, h2⟩ := runS_runs t _ _ (n + toI (segM trial safe a b k).2.2) (segM_valid v hk) fun x hx => ht x (List.mem_cons_of_mem _ hx)
    refine ⟨_, h1.step (segM_step v hk), ?_⟩
    rw [runS, h2, show (segM trial safe a b k).2.2 = decide (k ∈ b ++ a) by rw [segM_hit]; simp [or_comm], toI_if]
theorem br_yd {p : Prop} [Decidable p] {A B : Prop} (h : p) (g : A) : br (decide p) A B := br_dec.2 ⟨fun _ => g, fun c => absurd h c⟩
theorem br_nd {p : Prop} [Decidable p] {A B : Prop} (h : ¬ p) (g : B) : br (decide p) A B := br_dec.2 ⟨fun c => absurd c h, fun _ => g⟩
theorem br_ye {a b : Int} {A B : Prop} (h : a = b) (g : A) : br (a == b) A B := br_beq.2 ⟨fun _ => g, fun c => absurd h c⟩
theorem br_ne {a b : Int} {A B : Prop} (h : a ≠ b) (g : B) : br (a == b) A B := br_beq.2 ⟨fun c => absurd c h, fun _ => g⟩
theorem usedR_len (t : List Int) : (usedR [] t).length = nk t := rfl
theorem runS_facts {t : List Int} {trial safe : Int} (v : VTrace t) (ht : 1 ≤ trial ∧ trial ≤ 8) (hs : 1 ≤ safe ∧ safe ≤ 8) :
    0 ≤ (runS trial safe t [] [] 0).2.2 ∧ (runS trial safe t [] [] 0).2.2 ≤ (bestM (trial + safe).toNat t [] : Int) ∧
    ((nk t : Int) ≤ trial → (runS trial safe t [] [] 0).2.2 + (nk t : Int) = t.length ∧ ((runS trial safe t [] [] 0).2.1 ++ (runS trial safe t [] [] 0).1).length = nk t) := by
  obtain ⟨m, h1, h2⟩ := runS_runs t [] [] 0 (segs0 ht hs) v.2
  have h3 : Runs (trial.toNat + safe.toNat) trial.toNat t [] ((runS trial safe t [] [] 0).2.1 ++ (runS trial safe t [] [] 0).1) m := h1
  have hb := h3.best (by omega)
  rw [show (trial + safe).toNat = trial.toNat + safe.toNat by omega]
  refine ⟨by omega, by omega, fun hk => ?_⟩
  obtain ⟨f1, f2⟩ := h3.fit (D := []) (by simp) (by simp) (fun x => Iff.rfl) (by rw [usedR_len]; omega)
  rw [usedR_len] at f1
  have hn := (h3.nodup (by simp) (by simp)).1
  simp only [List.length_nil] at f1
  exact ⟨by omega, nk_of hn fun x => by rw [f2 x, mem_usedR]; simp⟩
def VSk (s : List Int) : Prop := s.length = 24 ∧ ∀ x ∈ s, 0 ≤ x ∧ x ≤ 15
def cellM (row key : Int) : Int := row * 8 + Int.tmod (Int.tmod ((37 + 2 * row) * (key + row)) 101) 8
theorem cellM_range {row key : Int} (h0 : 0 ≤ row) (k0 : 0 ≤ key) : row * 8 ≤ cellM row key ∧ cellM row key < row * 8 + 8 := by
  have h1 : 0 ≤ (37 + 2 * row) * (key + row) := Int.mul_nonneg (by omega) (by omega)
  have h2 := Int.tmod_nonneg 101 h1
  have h3 := Int.tmod_nonneg 8 h2
  have h4 := Int.tmod_lt_of_pos (Int.tmod ((37 + 2 * row) * (key + row)) 101) (show (0 : Int) < 8 by omega)
  unfold cellM; omega
theorem VSk.get {s : List Int} (v : VSk s) (i : Nat) : 0 ≤ s.getD i 0 ∧ s.getD i 0 ≤ 15 := by
  by_cases h : i < s.length
  · exact v.2 _ (mem_getD h)
  · rw [List.getD_eq_getElem?_getD, List.getElem?_eq_none (by omega)]; simp
def min2 (a b : Int) : Int := if a < b then a else b
def countM (s : List Int) (key : Int) : Int := min2 (s.getD (cellM 2 key).toNat 0) (min2 (s.getD (cellM 1 key).toNat 0) (min2 (s.getD (cellM 0 key).toNat 0) 15))
theorem VSk.count {s : List Int} (v : VSk s) (key : Int) : 0 ≤ countM s key ∧ countM s key ≤ 15 := by
  have h0 := v.get (cellM 0 key).toNat
  have h1 := v.get (cellM 1 key).toNat
  have h2 := v.get (cellM 2 key).toNat
  unfold countM min2
  repeat' split
  all_goals omega
/-- Each counter of the key has the number, and all others are 0. -/
def Cnt (a n : Int) (s : List Int) : Prop := VSk s ∧ s.getD (cellM 0 a).toNat 0 = n ∧ s.getD (cellM 1 a).toNat 0 = n ∧ s.getD (cellM 2 a).toNat 0 = n ∧ ∀ j : Nat, j ≠ (cellM 0 a).toNat → j ≠ (cellM 1 a).toNat → j ≠ (cellM 2 a).toNat → s.getD j 0 = 0
theorem Cnt.other {a b : Int} {s : List Int} (v : Cnt a 15 s) (ha : 0 ≤ a) (hb : 0 ≤ b) : countM s b < 15 ↔ (cellM 0 a ≠ cellM 0 b ∨ cellM 1 a ≠ cellM 1 b ∨ cellM 2 a ≠ cellM 2 b) := by
  obtain ⟨vs, e0, e1, e2, eo⟩ := v
  have a0 := cellM_range (row := 0) (by omega) ha
  have a1 := cellM_range (row := 1) (by omega) ha
  have a2 := cellM_range (row := 2) (by omega) ha
  have b0 := cellM_range (row := 0) (by omega) hb
  have b1 := cellM_range (row := 1) (by omega) hb
  have b2 := cellM_range (row := 2) (by omega) hb
  have g0 : s.getD (cellM 0 b).toNat 0 = if cellM 0 a = cellM 0 b then 15 else 0 := by
    split
    · rename_i h; rw [← h]; exact e0
    · exact eo _ (by omega) (by omega) (by omega)
  have g1 : s.getD (cellM 1 b).toNat 0 = if cellM 1 a = cellM 1 b then 15 else 0 := by
    split
    · rename_i h; rw [← h]; exact e1
    · exact eo _ (by omega) (by omega) (by omega)
  have g2 : s.getD (cellM 2 b).toNat 0 = if cellM 2 a = cellM 2 b then 15 else 0 := by
    split
    · rename_i h; rw [← h]; exact e2
    · exact eo _ (by omega) (by omega) (by omega)
  unfold countM
  rw [g0, g1, g2]
  by_cases h0 : cellM 0 a = cellM 0 b
  · by_cases h1 : cellM 1 a = cellM 1 b
    · by_cases h2 : cellM 2 a = cellM 2 b
      · rw [if_pos h0, if_pos h1, if_pos h2]; simp [min2, h0, h1, h2]
      · rw [if_pos h0, if_pos h1, if_neg h2]; simp [min2, h2]
    · by_cases h2 : cellM 2 a = cellM 2 b
      · rw [if_pos h0, if_neg h1, if_pos h2]; simp [min2, h1]
      · rw [if_pos h0, if_neg h1, if_neg h2]; simp [min2, h1]
  · by_cases h1 : cellM 1 a = cellM 1 b
    · by_cases h2 : cellM 2 a = cellM 2 b
      · rw [if_neg h0, if_pos h1, if_pos h2]; simp [min2, h0]
      · rw [if_neg h0, if_pos h1, if_neg h2]; simp [min2, h0]
    · by_cases h2 : cellM 2 a = cellM 2 b
      · rw [if_neg h0, if_neg h1, if_pos h2]; simp [min2, h0]
      · rw [if_neg h0, if_neg h1, if_neg h2]; simp [min2, h0]

def PTm (l : List (Int × Int)) : Prop := (∀ e ∈ l, (0 ≤ e.1 ∧ e.1 ≤ 31) ∧ 0 ≤ e.2 ∧ e.2 ≤ 1000) ∧ l.Pairwise fun a b => a.1 < b.1
def VTm (l : List (Int × Int)) : Prop := l.length ≤ 12 ∧ PTm l
theorem PTm.filter {l : List (Int × Int)} (v : PTm l) (p : Int × Int → Bool) : PTm (l.filter p) := ⟨fun e he => v.1 e (List.mem_filter.1 he).1, v.2.filter p⟩
theorem filter_none {l : List (Int × Int)} {p : Int × Int → Bool} (h : ∀ e ∈ l, p e = false) : l.filter p = [] := List.filter_eq_nil_iff.2 fun e he => by rw [h e he]; simp
def dropM (l : List (Int × Int)) (now : Int) : List (Int × Int) := l.filter fun e => decide (now ≤ e.2)
theorem dropM_len (l : List (Int × Int)) (now : Int) : (dropM l now).length ≤ l.length := List.length_filter_le _ _
theorem VTm.drop {l : List (Int × Int)} (v : VTm l) (now : Int) : VTm (dropM l now) := ⟨Nat.le_trans (dropM_len l now) v.1, v.2.filter _⟩
/-- Where a key is, or could be. -/
def lowT (l : List (Int × Int)) (key : Int) : Nat := (l.filter (fun e => decide (e.1 < key))).length
theorem PTm.low {l : List (Int × Int)} (v : PTm l) (key : Int) : l.filter (fun e => decide (e.1 < key)) = l.take (lowT l key) ∧ ∀ e ∈ l.drop (lowT l key), key ≤ e.1 := by
  have key : ∀ l : List (Int × Int), l.Pairwise (fun a b => a.1 < b.1) → l.filter (fun e => decide (e.1 < key)) = l.take (lowT l key) ∧ ∀ e ∈ l.drop (lowT l key), key ≤ e.1 := by
    intro l hp
    unfold lowT
    induction l with
    | nil => simp
    | cons x l ih =>
      obtain ⟨h1, h2⟩ := List.pairwise_cons.1 hp
      by_cases c : x.1 < key
      · rw [List.filter_cons_of_pos (by simpa using c), List.length_cons, List.take_succ_cons, List.drop_succ_cons]
        obtain ⟨i1, i2⟩ := ih h2
        exact ⟨by rw [← i1], i2⟩
      · have e0 : (x :: l).filter (fun e => decide (e.1 < key)) = [] := filter_none fun e he => decide_eq_false (by
          rcases List.mem_cons.1 he with g | g
          · rw [g]; exact c
          · have := h1 e g; omega)
        rw [e0]
        refine ⟨rfl, fun e he => ?_⟩
        rcases List.mem_cons.1 he with g | g
        · rw [g]; omega
        · have := h1 e g; omega
  exact key l v.2
def PW (l : List (Int × Int)) : Prop := (∀ e ∈ l, (0 ≤ e.1 ∧ e.1 ≤ 31) ∧ 1 ≤ e.2 ∧ e.2 ≤ 20) ∧ (l.map (·.1)).Nodup
def othersW (l : List (Int × Int)) (key : Int) : List (Int × Int) := l.filter fun e => decide (e.1 ≠ key)
def allW (l : List (Int × Int)) (key size : Int) : List (Int × Int) := (key, size) :: othersW l key
theorem PW.all {l : List (Int × Int)} (v : PW l) {key size : Int} (hk : 0 ≤ key ∧ key ≤ 31) (hs : 1 ≤ size ∧ size ≤ 20) : PW (allW l key size) := by
  refine ⟨fun e he => ?_, ?_⟩
  · rcases List.mem_cons.1 he with g | g
    · rw [g]; exact ⟨hk, hs⟩
    · exact v.1 e (List.mem_filter.1 g).1
  · rw [allW, List.map_cons, List.nodup_cons]
    refine ⟨fun h => ?_, (v.2.sublist (List.Sublist.map _ List.filter_sublist))⟩
    obtain ⟨e, he, h2⟩ := List.mem_map.1 h
    exact absurd h2 (of_decide_eq_true (List.mem_filter.1 he).2)
theorem PW.take {l : List (Int × Int)} (v : PW l) (n : Nat) : PW (l.take n) :=
  ⟨fun e he => v.1 e (List.mem_of_mem_take he), v.2.sublist ((List.take_sublist _ _).map _)⟩
theorem takeI {l : List Int} {i : Nat} (h : i < l.length) : l.take (i + 1) = l.take i ++ [l.getD i 0] := by
  rw [List.take_add_one, List.getD_eq_getElem?_getD, List.getElem?_eq_getElem h]; rfl
theorem getI_mem {l : List Int} {i : Nat} (h : i < l.length) : l.getD i 0 ∈ l := by
  rw [List.getD_eq_getElem?_getD, List.getElem?_eq_getElem h]; exact List.getElem_mem h
theorem getL_mem {l : List (Int × Int × Bool)} {i : Nat} (h : i < l.length) : l.getD i ((0 : Int), (0 : Int), false) ∈ l := by
  rw [List.getD_eq_getElem?_getD, List.getElem?_eq_getElem h]; exact List.getElem_mem h
theorem takeL {l : List (Int × Int × Bool)} {i : Nat} (h : i < l.length) : l.take (i + 1) = l.take i ++ [l.getD i ((0 : Int), (0 : Int), false)] := by
  rw [List.take_add_one, List.getD_eq_getElem?_getD, List.getElem?_eq_getElem h]; rfl
def VLn (l : List (Int × Int × Bool)) (room : Int) : Prop :=
  ((∀ e ∈ l, (0 ≤ e.1 ∧ e.1 ≤ 31) ∧ -1000 ≤ e.2.1 ∧ e.2.1 ≤ 1000) ∧ (l.map (·.1)).Nodup) ∧ (1 ≤ room ∧ room ≤ 8) ∧ (l.length : Int) ≤ room
def VSt (s : List Int) : Prop := s.length = 32 ∧ ∀ x ∈ s, -1000 ≤ x ∧ x ≤ 1000
def Clean (s : List Int) (l : List (Int × Int × Bool)) : Prop := ∀ e ∈ l, e.2.2 = false → e.2.1 = s.getD e.1.toNat 0
def VMem (s : List Int) (l : List (Int × Int × Bool)) (room : Int) : Prop := VSt s ∧ VLn l room ∧ Clean s l
/-- The line of a key, or one of the store. -/
def lnM (s : List Int) : List (Int × Int × Bool) → Int → Int × Int × Bool
  | [], key => (key, s.getD key.toNat 0, false)
  | e :: r, key => if e.1 = key then e else lnM s r key
def valM (s : List Int) (l : List (Int × Int × Bool)) (key : Int) : Int := (lnM s l key).2.1
theorem lnM_key (s : List Int) : ∀ (l : List (Int × Int × Bool)) (key : Int), (lnM s l key).1 = key
  | [], key => rfl
  | e :: r, key => by
    rw [lnM]; split
    · assumption
    · exact lnM_key s r key
theorem lnM_in {s : List Int} : ∀ {l : List (Int × Int × Bool)} {key : Int}, (∃ e ∈ l, e.1 = key) → lnM s l key ∈ l
  | [], key, h => by simp at h
  | e :: r, key, h => by
    rw [lnM]; split
    · exact List.mem_cons_self
    · rename_i hne
      obtain ⟨x, hx, e1⟩ := h
      rcases List.mem_cons.1 hx with rfl | hx
      · exact absurd e1 hne
      · exact List.mem_cons_of_mem _ (lnM_in ⟨x, hx, e1⟩)
theorem lnM_out {s : List Int} : ∀ {l : List (Int × Int × Bool)} {key : Int}, (∀ e ∈ l, e.1 ≠ key) → lnM s l key = (key, s.getD key.toNat 0, false)
  | [], key, h => rfl
  | e :: r, key, h => by rw [lnM, if_neg (h e List.mem_cons_self)]; exact lnM_out fun x hx => h x (List.mem_cons_of_mem _ hx)
/-- The lines but that of a key; where they fill the room, the last is left out. -/
def othL (l : List (Int × Int × Bool)) (key : Int) : List (Int × Int × Bool) := l.filter fun e => decide (e.1 ≠ key)
def accR (l : List (Int × Int × Bool)) (room key : Int) : List (Int × Int × Bool) := if ((othL l key).length : Int) = room then (othL l key).take ((othL l key).length - 1) else othL l key
def lastL (l : List (Int × Int × Bool)) : Int × Int × Bool := l.getD (l.length - 1) ((0 : Int), (0 : Int), false)
def accS (s : List Int) (l : List (Int × Int × Bool)) (room key : Int) : List Int := if ((othL l key).length : Int) = room then s.set (lastL (othL l key)).1.toNat (lastL (othL l key)).2.1 else s
def readM (s : List Int) (l : List (Int × Int × Bool)) (room key : Int) : List (Int × Int × Bool) := lnM s l key :: accR l room key
theorem othL_mem {l : List (Int × Int × Bool)} {key : Int} {e : Int × Int × Bool} : e ∈ othL l key ↔ e ∈ l ∧ e.1 ≠ key := by unfold othL; rw [List.mem_filter]; simp
theorem othL_out {l : List (Int × Int × Bool)} {key : Int} (h : ∀ e ∈ l, e.1 ≠ key) : othL l key = l := List.filter_eq_self.2 fun e he => decide_eq_true (h e he)
theorem othL_len (l : List (Int × Int × Bool)) (key : Int) : (othL l key).length ≤ l.length := List.length_filter_le _ _
theorem othL_lt {l : List (Int × Int × Bool)} {key : Int} (h : ∃ e ∈ l, e.1 = key) : (othL l key).length < l.length := by
  obtain ⟨e, he, e1⟩ := h
  rcases Nat.lt_or_ge (othL l key).length l.length with h | h
  · exact h
  · have := List.filter_eq_self.1 (List.Sublist.eq_of_length_le (List.filter_sublist (p := fun e : Int × Int × Bool => decide (e.1 ≠ key)) (l := l)) h) e he
    simp at this; exact absurd e1 this
theorem accR_sub {l : List (Int × Int × Bool)} {room key : Int} {e : Int × Int × Bool} (h : e ∈ accR l room key) : e ∈ othL l key := by
  unfold accR at h; split at h
  · exact List.mem_of_mem_take h
  · exact h
theorem accR_len {l : List (Int × Int × Bool)} {room key : Int} (h : (l.length : Int) ≤ room) (hr : 1 ≤ room) : ((accR l room key).length : Int) + 1 ≤ room := by
  have := othL_len l key
  unfold accR; split
  · rw [List.length_take]; omega
  · omega
theorem lastL_mem {l : List (Int × Int × Bool)} (h : 0 < l.length) : lastL l ∈ l := getL_mem (by omega)
theorem lastL_split {l : List (Int × Int × Bool)} (h : 0 < l.length) : l = l.take (l.length - 1) ++ [lastL l] := by
  have := takeL (l := l) (i := l.length - 1) (by omega)
  rw [show l.length - 1 + 1 = l.length by omega, List.take_length] at this
  exact this
/-- The room was full, and the key is not there. -/
theorem VMem.full {s : List Int} {l : List (Int × Int × Bool)} {room key : Int} (v : VMem s l room) (h : ((othL l key).length : Int) = room) : (∀ e ∈ l, e.1 ≠ key) ∧ othL l key = l ∧ 0 < l.length := by
  have hv := v.2.1.2
  have h0 : ∀ e ∈ l, e.1 ≠ key := fun e he e1 => by have := othL_lt ⟨e, he, e1⟩; omega
  exact ⟨h0, othL_out h0, by rw [othL_out h0] at h; omega⟩
theorem getD_setI {s : List Int} {i j : Nat} {x : Int} : (s.set i x).getD j 0 = if i = j ∧ j < s.length then x else s.getD j 0 := by
  rw [List.getD_eq_getElem?_getD, List.getD_eq_getElem?_getD, List.getElem?_set]
  by_cases h : i = j
  · subst h
    by_cases h2 : i < s.length
    · simp [h2]
    · simp [h2]
  · simp [h]
theorem VSt.set {s : List Int} (v : VSt s) {i : Nat} {x : Int} (h : -1000 ≤ x ∧ x ≤ 1000) : VSt (s.set i x) :=
  ⟨by rw [List.length_set]; exact v.1, fun y hy => by
    rcases List.mem_or_eq_of_mem_set hy with hy | rfl
    · exact v.2 y hy
    · exact h⟩
theorem VSt.get {s : List Int} (v : VSt s) {i : Nat} (h : i < 32) : -1000 ≤ s.getD i 0 ∧ s.getD i 0 ≤ 1000 := v.2 _ (getI_mem (by rw [v.1]; exact h))
theorem toNat_inj {a b : Int} (ha : 0 ≤ a) (hb : 0 ≤ b) (h : a.toNat = b.toNat) : a = b := by omega
/-- Of the store, only the value of the line that is left out. -/
theorem accS_get {s : List Int} {l : List (Int × Int × Bool)} {room key k : Int} (v : VMem s l room) (hk : 0 ≤ k ∧ k ≤ 31) :
    (accS s l room key).getD k.toNat 0 = if ((othL l key).length : Int) = room ∧ (lastL (othL l key)).1 = k then (lastL (othL l key)).2.1 else s.getD k.toNat 0 := by
  unfold accS
  split
  · rename_i h
    obtain ⟨h1, h2, h3⟩ := v.full h
    have hm : lastL (othL l key) ∈ l := by rw [h2]; exact lastL_mem h3
    have hr := (v.2.1.1.1 _ hm).1
    rw [getD_setI]
    by_cases e : (lastL (othL l key)).1 = k
    · rw [if_pos ⟨by rw [e], by rw [v.1.1]; omega⟩, if_pos ⟨h, e⟩]
    · rw [if_neg fun c => e (toNat_inj hr.1 hk.1 c.1), if_neg fun c => e c.2]
  · rename_i h; rw [if_neg fun c => h c.1]
theorem accS_ok {s : List Int} {l : List (Int × Int × Bool)} {room key : Int} (v : VMem s l room) : VSt (accS s l room key) := by
  unfold accS; split
  · rename_i h
    obtain ⟨h1, h2, h3⟩ := v.full h
    have hm : lastL (othL l key) ∈ l := by rw [h2]; exact lastL_mem h3
    exact v.1.set (v.2.1.1.1 _ hm).2
  · exact v.1
theorem nodup_othL {l : List (Int × Int × Bool)} (h : (l.map (·.1)).Nodup) (key : Int) : ((othL l key).map (·.1)).Nodup := h.sublist (List.filter_sublist.map _)
theorem nodup_accR {l : List (Int × Int × Bool)} (h : (l.map (·.1)).Nodup) (room key : Int) : ((accR l room key).map (·.1)).Nodup := by
  unfold accR; split
  · exact (nodup_othL h key).sublist ((List.take_sublist _ _).map _)
  · exact nodup_othL h key
/-- A line that stays is not the one that is left out. -/
theorem VMem.stays {s : List Int} {l : List (Int × Int × Bool)} {room key : Int} (v : VMem s l room) {e : Int × Int × Bool} (he : e ∈ accR l room key) : ¬ (((othL l key).length : Int) = room ∧ (lastL (othL l key)).1 = e.1) := by
  rintro ⟨h, e1⟩
  obtain ⟨h1, h2, h3⟩ := v.full h
  have hn := v.2.1.1.2
  unfold accR at he; rw [if_pos h, h2] at he; rw [h2] at e1
  rw [lastL_split h3, List.map_append, List.map_cons, List.map_nil] at hn
  exact (List.nodup_append.1 hn).2.2 e.1 (List.mem_map_of_mem (f := (·.1)) he) (lastL l).1 (by simp) e1.symm
theorem VMem.cleanR {s : List Int} {l : List (Int × Int × Bool)} {room key : Int} (v : VMem s l room) : Clean (accS s l room key) (accR l room key) := by
  intro e he hd
  have hm := othL_mem.1 (accR_sub he)
  rw [accS_get v (v.2.1.1.1 e hm.1).1, if_neg (v.stays he)]
  exact v.2.2 e hm.1 hd
theorem VMem.putFirst {s : List Int} {l : List (Int × Int × Bool)} {room key : Int} (v : VMem s l room) {x : Int × Int × Bool} (hk : 0 ≤ key ∧ key ≤ 31) (hx : x.1 = key) (h1 : -1000 ≤ x.2.1 ∧ x.2.1 ≤ 1000) (h2 : x.2.2 = false → x.2.1 = (accS s l room key).getD key.toNat 0) :
    VMem (accS s l room key) (x :: accR l room key) room := by
  refine ⟨accS_ok v, ⟨⟨fun e he => ?_, ?_⟩, v.2.1.2.1, ?_⟩, fun e he hd => ?_⟩
  · rcases List.mem_cons.1 he with rfl | he
    · exact ⟨by omega, h1⟩
    · exact v.2.1.1.1 e (othL_mem.1 (accR_sub he)).1
  · rw [List.map_cons, List.nodup_cons]
    refine ⟨fun h => ?_, nodup_accR v.2.1.1.2 room key⟩
    obtain ⟨e, he, e1⟩ := List.mem_map.1 h
    exact (othL_mem.1 (accR_sub he)).2 (e1.trans hx)
  · have := accR_len (key := key) v.2.1.2.2 v.2.1.2.1.1
    rw [List.length_cons]; omega
  · rcases List.mem_cons.1 he with rfl | he
    · rw [hx]; exact h2 hd
    · exact v.cleanR e he hd
theorem VMem.here {s : List Int} {l : List (Int × Int × Bool)} {room key : Int} (v : VMem s l room) : (lastL (othL l key)).1 ≠ key ∨ ¬ ((othL l key).length : Int) = room := by
  by_cases h : ((othL l key).length : Int) = room
  · obtain ⟨h1, h2, h3⟩ := v.full h
    refine .inl fun e => h1 _ ?_ e
    rw [h2]; exact lastL_mem h3
  · exact .inr h
theorem VMem.val_range {s : List Int} {l : List (Int × Int × Bool)} {room key : Int} (v : VMem s l room) (hk : 0 ≤ key ∧ key ≤ 31) : -1000 ≤ valM s l key ∧ valM s l key ≤ 1000 := by
  by_cases h : ∃ e ∈ l, e.1 = key
  · exact (v.2.1.1.1 _ (lnM_in h)).2
  · unfold valM; rw [lnM_out fun e he e1 => h ⟨e, he, e1⟩]; exact v.1.get (by omega)
theorem accS_key {s : List Int} {l : List (Int × Int × Bool)} {room key : Int} (v : VMem s l room) (hk : 0 ≤ key ∧ key ≤ 31) : (accS s l room key).getD key.toNat 0 = s.getD key.toNat 0 := by
  rw [accS_get v hk, if_neg fun c => (v.here (key := key)).elim (fun h => h c.2) fun h => h c.1]
theorem VMem.read {s : List Int} {l : List (Int × Int × Bool)} {room key : Int} (v : VMem s l room) (hk : 0 ≤ key ∧ key ≤ 31) : VMem (accS s l room key) (readM s l room key) room := by
  refine v.putFirst hk (lnM_key s l key) (v.val_range hk) fun hd => ?_
  rw [accS_key v hk]
  by_cases h : ∃ e ∈ l, e.1 = key
  · have := v.2.2 _ (lnM_in (s := s) h) hd
    rwa [lnM_key] at this
  · rw [lnM_out fun e he e1 => h ⟨e, he, e1⟩]
theorem tdiv_lit {a : Int} (n : Int) (hn : 0 < n) : Int.tdiv a n = if 0 ≤ a then a / n else -((-a) / n) := by
  split
  · rename_i h; exact Int.tdiv_eq_ediv_of_nonneg h
  · rename_i h
    have : Int.tdiv (-(-a)) n = -(Int.tdiv (-a) n) := Int.neg_tdiv (-a) n
    rw [Int.neg_neg] at this
    rw [this, Int.tdiv_eq_ediv_of_nonneg (by omega)]
def VRat (hits uses : Int) : Prop := (1 ≤ uses ∧ uses ≤ 10000) ∧ 0 ≤ hits ∧ hits ≤ uses
def ratM (hits uses : Int) : Int := Int.tdiv (1000 * hits) uses
theorem VRat.ediv {h u : Int} (v : VRat h u) : ratM h u = 1000 * h / u := Int.tdiv_eq_ediv_of_nonneg (by have := v.2; omega)
theorem VRat.two {h u : Int} (v : VRat h u) : u * ratM h u ≤ 1000 * h ∧ 1000 * h < u * ratM h u + u := by
  rw [v.ediv]
  have h1 := v.1
  exact ⟨Int.mul_ediv_self_le (by omega), Int.lt_mul_ediv_self_add (by omega)⟩
def VClimb (at_ step ratio : Int) : Prop := (0 ≤ at_ ∧ at_ ≤ 100) ∧ (-16 ≤ step ∧ step ≤ 16) ∧ step ≠ 0 ∧ 0 ≤ ratio ∧ ratio ≤ 1000
def turnM (step : Int) : Int := if Int.tdiv (0 - step) 2 = 0 then (if 0 < step then -1 else 1) else Int.tdiv (0 - step) 2
theorem turn_def {step : Int} (h : step ≠ 0) : turnM step = if 0 < step then (if step = 1 then -1 else -(step / 2)) else (if step = -1 then 1 else (0 - step) / 2) := by
  unfold turnM; rw [tdiv_lit 2 (by omega)]
  split <;> split <;> split <;> omega
def stepM (step r ratio : Int) : Int := if ratio < r then turnM step else step
def climbAt (at_ step : Int) : Int := if at_ + step < 0 then 0 else if 100 < at_ + step then 100 else at_ + step
theorem climbAt_range (at_ step : Int) : 0 ≤ climbAt at_ step ∧ climbAt at_ step ≤ 100 := by
  unfold climbAt; split
  · omega
  · split <;> omega
theorem turn_range {step : Int} (h : step ≠ 0) (h1 : -16 ≤ step ∧ step ≤ 16) : turnM step ≠ 0 ∧ -16 ≤ turnM step ∧ turnM step ≤ 16 := by
  rw [turn_def h]; split <;> split <;> omega
theorem VClimb.next {at_ step r ratio : Int} (v : VClimb at_ step r) (h : 0 ≤ ratio ∧ ratio ≤ 1000) : VClimb (climbAt at_ (stepM step r ratio)) (stepM step r ratio) ratio := by
  have h1 := climbAt_range at_ (stepM step r ratio)
  have h2 := turn_range v.2.2.1 v.2.1
  refine ⟨h1, ?_⟩
  unfold stepM; split
  · exact ⟨h2.2, h2.1, h⟩
  · exact ⟨v.2.1, v.2.2.1, h⟩
/-- The best of some, the first of them. -/
def splitF (f : Nat → Int) : Nat → Int × Int
  | 0 => (1, -1)
  | n + 1 => if (splitF f n).2 < f (n + 1) then (((n + 1 : Nat) : Int), f (n + 1)) else splitF f n
theorem splitF_spec {f : Nat → Int} : ∀ {n : Nat}, (∀ i, 1 ≤ i → i ≤ n → 0 ≤ f i) → (n = 0 ∧ splitF f n = (1, -1)) ∨
    ∃ j : Nat, 1 ≤ j ∧ j ≤ n ∧ splitF f n = ((j : Int), f j) ∧ (∀ i, 1 ≤ i → i ≤ n → f i ≤ f j) ∧ ∀ i, 1 ≤ i → i < j → f i < f j
  | 0, _ => .inl ⟨rfl, rfl⟩
  | n + 1, h => by
    have hn := h (n + 1) (by omega) (by omega)
    rcases splitF_spec (n := n) (fun i h1 h2 => h i h1 (by omega)) with ⟨rfl, e⟩ | ⟨j, h1, h2, e, h4, h5⟩
    · refine .inr ⟨1, by omega, by omega, ?_, fun i h1 h2 => ?_, fun i h1 h2 => by omega⟩
      · rw [splitF, e, if_pos (by show (-1 : Int) < _; omega)]
      · rw [show i = 1 by omega]; exact Int.le_refl _
    · by_cases c : f j < f (n + 1)
      · refine .inr ⟨n + 1, by omega, by omega, by rw [splitF, e, if_pos c], fun i g1 g2 => ?_, fun i g1 g2 => ?_⟩
        · rcases Nat.lt_or_ge i (n + 1) with g | g
          · have := h4 i g1 (by omega); omega
          · rw [show i = n + 1 by omega]; exact Int.le_refl _
        · have := h4 i g1 (by omega); omega
      · refine .inr ⟨j, h1, by omega, by rw [splitF, e, if_neg c], fun i g1 g2 => ?_, h5⟩
        rcases Nat.lt_or_ge i (n + 1) with g | g
        · exact h4 i g1 (by omega)
        · rw [show i = n + 1 by omega]; omega
def hitsS (t : List Int) (room : Int) (i : Nat) : Int := (runS (i : Int) (room - i) t [] [] 0).2.2
def VSplit (t : List Int) (room : Int) : Prop := VTrace t ∧ 2 ≤ room ∧ room ≤ 8
def splitM (t : List Int) (room : Int) : Int := (splitF (hitsS t room) (room - 1).toNat).1
theorem VSplit.pos {t : List Int} {room : Int} (v : VSplit t room) {i : Nat} (h1 : 1 ≤ i) (h2 : (i : Int) < room) : 0 ≤ hitsS t room i ∧ hitsS t room i ≤ (bestM room.toNat t [] : Int) := by
  have hr := v.2
  have := runS_facts v.1 (trial := (i : Int)) (safe := room - i) ⟨by omega, by omega⟩ ⟨by omega, by omega⟩
  rw [show (i : Int) + (room - i) = room by omega] at this
  exact ⟨this.1, this.2.1⟩
theorem VSplit.spec {t : List Int} {room : Int} (v : VSplit t room) : ∃ j : Nat, 1 ≤ j ∧ (j : Int) < room ∧ splitM t room = j ∧ (∀ i : Nat, 1 ≤ i → (i : Int) < room → hitsS t room i ≤ hitsS t room j) ∧ ∀ i : Nat, 1 ≤ i → i < j → hitsS t room i < hitsS t room j := by
  have hr := v.2
  rcases splitF_spec (f := hitsS t room) (n := (room - 1).toNat) (fun i h1 h2 => (v.pos h1 (by omega)).1) with ⟨h, _⟩ | ⟨j, h1, h2, e, h4, h5⟩
  · omega
  · exact ⟨j, h1, by omega, by unfold splitM; rw [e], fun i g1 g2 => h4 i g1 (by omega), h5⟩
def decF : Nat → Int → List Int
  | 0, _ => []
  | f + 1, n => if n < 10 then [48 + n] else decF f (n / 10) ++ [48 + n % 10]
def decB (n : Int) : List Int := if n < 0 then 45 :: decF 5 (0 - n) else decF 5 n
theorem decF_more : ∀ {f : Nat} {n : Int}, 1 ≤ f → n < (10 ^ f : Nat) → decF (f + 1) n = decF f n
  | 0, n, h, _ => by omega
  | 1, n, _, h => by
    have h : n < 10 := h
    rw [decF, if_pos h, decF, if_pos h]
  | f + 2, n, _, h => by
    rw [decF]
    conv => rhs; rw [decF]
    split
    · rfl
    · rw [decF_more (f := f + 1) (by omega)]
      have : (10 ^ (f + 2) : Nat) = 10 * 10 ^ (f + 1) := by rw [Nat.pow_succ, Nat.mul_comm]
      omega
theorem decB_small {n : Int} (h0 : 0 ≤ n) (h : n < 10) : decB n = [48 + n] := by
  rw [decB, if_neg (by omega), decF, if_pos h]
theorem decB_neg {n : Int} (h : n < 0) : decB n = 45 :: decB (0 - n) := by
  rw [decB, if_pos h]
  conv => rhs; rw [decB, if_neg (by omega)]
theorem decB_big {n : Int} (h0 : 10 ≤ n) (h : n ≤ 9999) : decB n = decB (n / 10) ++ [48 + n % 10] := by
  rw [decB, if_neg (by omega), decF, if_neg (by omega), decB, if_neg (by omega), decF_more (f := 4) (by omega) (by show n / 10 < (10000 : Nat); omega)]
theorem decF_len : ∀ (f : Nat) (n : Int), (decF f n).length ≤ f
  | 0, _ => by simp [decF]
  | f + 1, n => by
    have := decF_len f (n / 10)
    rw [decF]; split
    · simp
    · rw [List.length_append]; simp; omega
theorem decB_len (n : Int) : (decB n).length ≤ 6 := by
  rw [decB]; split
  · rw [List.length_cons]; have := decF_len 5 (0 - n); omega
  · have := decF_len 5 n; omega
theorem str_append (a b : List Int) : strOfNums a ++ strOfNums b = strOfNums (a ++ b) := by
  have : (strOfNums a ++ strOfNums b).data = (strOfNums (a ++ b)).data := by
    simp [strOfNums]
  exact ByteArray.ext this
theorem str_size (a : List Int) : ByteArray.size (strOfNums a) = a.length := strOfNums_size a
def BS (a : List Int) : Prop := ∀ x ∈ a, 0 ≤ x ∧ x ≤ 255
theorem u8_nat {x : Int} (h : 0 ≤ x ∧ x ≤ 255) : ((UInt8.ofNat x.toNat).toNat : Int) = x := by
  have : (UInt8.ofNat x.toNat).toNat = x.toNat % 256 := by simp
  omega
theorem str_data (a : List Int) : (strOfNums a).data = (a.map fun n => UInt8.ofNat n.toNat).toArray := rfl
theorem str_index {a : List Int} (h : BS a) (i : Nat) : ((Array.getD (strOfNums a).data i 0).toNat : Int) = a.getD i 0 := by
  rw [str_data, List.getD_eq_getElem?_getD]
  rcases Nat.lt_or_ge i a.length with c | c
  · have : Array.getD (a.map fun n => UInt8.ofNat n.toNat).toArray i 0 = UInt8.ofNat (a[i]).toNat := by
      simp [Array.getD, c]
    rw [this, u8_nat (h _ (List.getElem_mem c)), List.getElem?_eq_getElem c]; rfl
  · have : Array.getD (a.map fun n => UInt8.ofNat n.toNat).toArray i 0 = 0 := by
      simp [Array.getD, Nat.not_lt.2 c]
    rw [this, List.getElem?_eq_none c]; rfl
theorem u8_inj {x y : Int} (hx : 0 ≤ x ∧ x ≤ 255) (hy : 0 ≤ y ∧ y ≤ 255) (h : UInt8.ofNat x.toNat = UInt8.ofNat y.toNat) : x = y := by
  rw [← u8_nat hx, ← u8_nat hy, h]
theorem str_inj : ∀ {a b : List Int}, BS a → BS b → (a.map fun n => UInt8.ofNat n.toNat) = (b.map fun n => UInt8.ofNat n.toNat) → a = b
  | [], [], _, _, _ => rfl
  | [], _ :: _, _, _, h => by cases h
  | _ :: _, [], _, _, h => by cases h
  | x :: a, y :: b, ha, hb, h => by
    rw [List.map_cons, List.map_cons] at h
    injection h with h1 h2
    rw [u8_inj (ha x List.mem_cons_self) (hb y List.mem_cons_self) h1, str_inj (fun z hz => ha z (List.mem_cons_of_mem _ hz)) (fun z hz => hb z (List.mem_cons_of_mem _ hz)) h2]
theorem toList_loop (s : ByteArray) : ∀ (m i : Nat) (r : List UInt8), i + m = s.size → ByteArray.toList.loop s i r = r.reverse ++ s.data.toList.drop i := by
  intro m
  induction m with
  | zero =>
    intro i r h
    rw [ByteArray.toList.loop, if_neg (by omega)]
    rw [List.drop_eq_nil_of_le (by rw [Array.length_toList]; show s.size ≤ i; omega), List.append_nil]
  | succ m ih =>
    intro i r h
    have hi : i < s.data.toList.length := by rw [Array.length_toList]; show i < s.size; omega
    rw [ByteArray.toList.loop, if_pos (by omega), ih (i + 1) _ (by omega), List.reverse_cons, List.append_assoc, List.drop_eq_getElem_cons hi]
    congr 2
    have hi2 : i < s.data.size := by simpa using hi
    have e : s.get! i = s.data.toList[i] := by
      show s.data[i]! = s.data.toList[i]
      rw [getElem!_pos s.data i hi2]; simp
    rw [e]; rfl
theorem toList_data (s : ByteArray) : s.toList = s.data.toList := by
  rw [ByteArray.toList, toList_loop s s.size 0 [] (by omega)]; simp
theorem str_eq {a b : List Int} (ha : BS a) (hb : BS b) : (ByteArray.toList (strOfNums a) == ByteArray.toList (strOfNums b)) = decide (a = b) := by
  rw [toList_data, toList_data, str_data, str_data]
  by_cases h : a = b
  · subst h; simp
  · rw [decide_eq_false h, beq_eq_false_iff_ne]
    exact fun e => h (str_inj ha hb (by simpa using e))
theorem str_extract (a : List Int) (i j : Nat) : ByteArray.extract (strOfNums a) i j = strOfNums ((a.take j).drop i) := by
  apply ByteArray.ext
  rw [ByteArray.data_extract, str_data, str_data]
  apply Array.ext'
  rw [Array.toList_extract]
  simp [List.extract, List.drop_take, List.map_take, List.map_drop]
theorem BS.take {a : List Int} (h : BS a) (i : Nat) : BS (a.take i) := fun x hx => h x (List.mem_of_mem_take hx)
theorem BS.drop {a : List Int} (h : BS a) (i : Nat) : BS (a.drop i) := fun x hx => h x (List.mem_of_mem_drop hx)
theorem BS.append {a b : List Int} (h : BS a) (k : BS b) : BS (a ++ b) := fun x hx => (List.mem_append.1 hx).elim (h x) (k x)
theorem BS.one {x : Int} (h : 0 ≤ x ∧ x ≤ 255) : BS [x] := fun y hy => by rw [List.mem_singleton.1 hy]; exact h
/-- Every string is a list of bytes. -/
theorem str_of (s : ByteArray) : ∃ a, BS a ∧ s = strOfNums a := by
  refine ⟨s.data.toList.map fun u => (u.toNat : Int), fun x hx => ?_, ?_⟩
  · obtain ⟨u, _, rfl⟩ := List.mem_map.1 hx
    have := u.toNat_lt; omega
  · apply ByteArray.ext
    rw [str_data]
    apply Array.ext'
    simp [List.map_map, Function.comp_def]
/-- The letters of a number. -/
theorem decF_digits : ∀ {f : Nat} {n x : Int}, 0 ≤ n → x ∈ decF f n → 48 ≤ x ∧ x ≤ 57
  | 0, _, _, _, h => by simp [decF] at h
  | f + 1, n, x, h0, h => by
    rw [decF] at h
    split at h
    · rw [List.mem_singleton.1 h]; omega
    · rcases List.mem_append.1 h with h | h
      · exact decF_digits (by omega) h
      · rw [List.mem_singleton.1 h]; omega
theorem decB_bytes {n x : Int} (h : x ∈ decB n) : (48 ≤ x ∧ x ≤ 57) ∨ x = 45 := by
  rw [decB] at h; split at h
  · rcases List.mem_cons.1 h with h | h
    · exact .inr h
    · exact .inl (decF_digits (by omega) h)
  · exact .inl (decF_digits (by omega) h)
theorem decB_BS (n : Int) : BS (decB n) := fun x hx => by have := decB_bytes hx; omega
theorem decF_ne : ∀ {f : Nat} {n : Int}, 1 ≤ f → decF f n ≠ []
  | 0, _, h => by omega
  | f + 1, n, _ => by rw [decF]; split <;> simp
theorem decB_ne (n : Int) : decB n ≠ [] := by
  rw [decB]; split
  · simp
  · exact decF_ne (by omega)
/-- The number of digits. -/
def valD (n : Int) : List Int → Int
  | [] => n
  | x :: r => valD (10 * n + x - 48) r
theorem valD_snoc : ∀ (a : List Int) (n x : Int), valD n (a ++ [x]) = 10 * valD n a + x - 48
  | [], n, x => rfl
  | y :: a, n, x => valD_snoc a _ x
theorem valD_dec : ∀ {f : Nat} {n : Int}, 0 ≤ n → n < (10 ^ f : Nat) → 1 ≤ f → valD 0 (decF f n) = n
  | 0, n, _, _, h => by omega
  | f + 1, n, h0, h, _ => by
    rw [decF]; split
    · show 10 * 0 + (48 + n) - 48 = n; omega
    · rw [valD_snoc]
      have e : (10 ^ (f + 1) : Nat) = 10 * 10 ^ f := by rw [Nat.pow_succ, Nat.mul_comm]
      by_cases hf : f = 0
      · subst hf; have : n < 10 := h; omega
      · rw [valD_dec (f := f) (by omega) (by omega) (by omega)]; omega
/-- Runs. -/
def runN : List Int → Nat
  | [] => 0
  | [_] => 1
  | x :: y :: r => if x = y then runN (y :: r) + 1 else 1
def grp : List Int → List (Int × Nat)
  | [] => []
  | x :: r => match grp r with
    | [] => [(x, 1)]
    | (y, n) :: g => if x = y then (y, n + 1) :: g else (x, 1) :: (y, n) :: g
theorem runN_pos (x : Int) : ∀ r : List Int, 1 ≤ runN (x :: r) ∧ runN (x :: r) ≤ r.length + 1
  | [] => ⟨Nat.le_refl _, Nat.le_refl _⟩
  | y :: r => by
    have := runN_pos y r
    rw [runN]; split <;> simp only [List.length_cons] <;> omega
theorem runN_same (x : Int) : ∀ (r : List Int) (q : Nat), q < runN (x :: r) → (x :: r).getD q 0 = x
  | [], q, h => by
    have : q = 0 := by simp [runN] at h; exact h
    subst this; rfl
  | y :: r, 0, _ => rfl
  | y :: r, q + 1, h => by
    rw [runN] at h
    split at h
    · rename_i e; subst e
      have := runN_same x r q (by omega)
      simpa [List.getD] using this
    · omega
theorem runN_stop (x : Int) : ∀ (r : List Int), runN (x :: r) < r.length + 1 → (x :: r).getD (runN (x :: r)) 0 ≠ x
  | [], h => by simp [runN] at h
  | y :: r, h => by
    rw [runN] at h ⊢
    split
    · rename_i e; subst e
      rw [if_pos rfl] at h
      have := runN_stop x r (by simp at h; omega)
      simpa [List.getD] using this
    · rename_i e
      show y ≠ x
      exact fun c => e c.symm
theorem grp_run (x : Int) : ∀ r : List Int, grp (x :: r) = (x, runN (x :: r)) :: grp ((x :: r).drop (runN (x :: r)))
  | [] => rfl
  | y :: r => by
    have h := grp_run y r
    rw [grp, h, runN]
    dsimp only
    split
    · rename_i e; subst e; rfl
    · rename_i e; rw [List.drop_succ_cons, List.drop_zero, h]
def wordM (g : Int × Nat) : List Int := decB g.1 ++ (if 1 < g.2 then 42 :: decB (g.2 : Int) else [])
def joinW : List (Int × Nat) → List Int
  | [] => []
  | g :: gs => wordM g ++ (if gs = [] then [] else 32 :: joinW gs)
def fmtM (t : List Int) : List Int := joinW (grp t)
theorem grp_nil {t : List Int} : grp t = [] ↔ t = [] := by
  cases t with
  | nil => simp [grp]
  | cons x r => rw [grp_run]; simp
theorem fmtM_cons (x : Int) (r : List Int) : fmtM (x :: r) = wordM (x, runN (x :: r)) ++ (if (x :: r).drop (runN (x :: r)) = [] then [] else 32 :: fmtM ((x :: r).drop (runN (x :: r)))) := by
  unfold fmtM
  rw [grp_run, joinW]
  by_cases h : (x :: r).drop (runN (x :: r)) = []
  · rw [if_pos h, if_pos (grp_nil.2 h)]
  · rw [if_neg h, if_neg (fun c => h (grp_nil.1 c))]
theorem wordM_BS (g : Int × Nat) : BS (wordM g) := by
  unfold wordM
  refine (decB_BS _).append ?_
  split
  · exact (BS.one (x := 42) (by omega)).append (decB_BS _)
  · intro x hx; simp at hx
theorem joinW_BS : ∀ gs : List (Int × Nat), BS (joinW gs)
  | [] => fun x hx => by simp [joinW] at hx
  | g :: gs => by
    rw [joinW]
    refine (wordM_BS g).append ?_
    split
    · intro x hx; simp at hx
    · exact (BS.one (x := 32) (by omega)).append (joinW_BS gs)
theorem fmtM_BS (t : List Int) : BS (fmtM t) := joinW_BS _
theorem wordM_len (g : Int × Nat) : (wordM g).length ≤ 13 := by
  unfold wordM
  have h1 := decB_len g.1
  have h2 := decB_len (g.2 : Int)
  rw [List.length_append]; split
  · rw [List.length_cons]; omega
  · simp; omega
theorem joinW_len : ∀ gs : List (Int × Nat), (joinW gs).length ≤ 14 * gs.length
  | [] => by simp [joinW]
  | g :: gs => by
    have h1 := wordM_len g
    have h2 := joinW_len gs
    rw [joinW, List.length_append, List.length_cons]; split
    · simp; omega
    · rw [List.length_cons]; omega
theorem grp_len : ∀ t : List Int, (grp t).length ≤ t.length
  | [] => by simp [grp]
  | x :: r => by
    have := grp_len r
    rw [grp]; split
    · simp
    · rename_i y n g h
      rw [h] at this
      split <;> simp only [List.length_cons] at * <;> omega
theorem fmtM_len (t : List Int) : (fmtM t).length ≤ 14 * t.length := by
  have h1 := joinW_len (grp t)
  have h2 := grp_len t
  unfold fmtM; omega
def splitB (c : Int) : List Int → List (List Int)
  | [] => [[]]
  | x :: r => if x = c then [] :: splitB c r else match splitB c r with
    | [] => [[x]]
    | w :: ws => (x :: w) :: ws
theorem splitB_none {c : Int} : ∀ {a : List Int}, (∀ x ∈ a, x ≠ c) → splitB c a = [a]
  | [], _ => rfl
  | x :: a, h => by rw [splitB, if_neg (h x List.mem_cons_self), splitB_none fun y hy => h y (List.mem_cons_of_mem _ hy)]
theorem splitB_app {c : Int} {b : List Int} : ∀ {a : List Int}, (∀ x ∈ a, x ≠ c) → splitB c (a ++ c :: b) = a :: splitB c b
  | [], _ => by rw [List.nil_append, splitB, if_pos rfl]
  | x :: a, h => by rw [List.cons_append, splitB, if_neg (h x List.mem_cons_self), splitB_app fun y hy => h y (List.mem_cons_of_mem _ hy)]
theorem splitB_ne (c : Int) : ∀ a : List Int, splitB c a ≠ []
  | [] => by simp [splitB]
  | x :: a => by
    rw [splitB]; split
    · simp
    · split <;> simp
theorem splitB_BS {c : Int} : ∀ {a w : List Int}, BS a → w ∈ splitB c a → BS w ∧ w.length ≤ a.length
  | [], w, _, h => by
    rw [splitB, List.mem_singleton] at h; subst h
    exact ⟨fun x hx => by simp at hx, Nat.le_refl _⟩
  | x :: a, w, hb, h => by
    have hr : BS a := fun y hy => hb y (List.mem_cons_of_mem _ hy)
    rw [splitB] at h
    split at h
    · rcases List.mem_cons.1 h with rfl | h
      · exact ⟨fun x hx => by simp at hx, by simp⟩
      · have := splitB_BS hr h
        exact ⟨this.1, by rw [List.length_cons]; omega⟩
    · split at h
      · rw [List.mem_singleton] at h; subst h
        exact ⟨BS.one (hb x List.mem_cons_self), by simp⟩
      · rename_i u us e
        rcases List.mem_cons.1 h with rfl | h
        · have := splitB_BS hr (by rw [e]; exact List.mem_cons_self)
          exact ⟨(BS.one (hb x List.mem_cons_self)).append this.1, by rw [List.length_cons, List.length_cons]; omega⟩
        · have := splitB_BS hr (by rw [e]; exact List.mem_cons_of_mem _ h)
          exact ⟨this.1, by rw [List.length_cons]; omega⟩
theorem splitB_len (c : Int) : ∀ a : List Int, (splitB c a).length ≤ a.length + 1
  | [] => by simp [splitB]
  | x :: a => by
    have := splitB_len c a
    rw [splitB]; split
    · rw [List.length_cons, List.length_cons]; omega
    · split
      · simp
      · rename_i e; rw [e] at this; rw [List.length_cons, List.length_cons] at *; omega
theorem decB_not {n x : Int} (h : x ∈ decB n) : x ≠ 32 ∧ x ≠ 42 := by have := decB_bytes h; omega
theorem wordM_not {g : Int × Nat} {x : Int} (h : x ∈ wordM g) : x ≠ 32 := by
  unfold wordM at h
  rcases List.mem_append.1 h with h | h
  · exact (decB_not h).1
  · split at h
    · rcases List.mem_cons.1 h with h | h
      · omega
      · exact (decB_not h).1
    · simp at h
theorem split_join : ∀ {gs : List (Int × Nat)}, gs ≠ [] → splitB 32 (joinW gs) = gs.map wordM
  | [], h => absurd rfl h
  | [g], _ => by
    rw [joinW, if_pos rfl, List.append_nil, splitB_none fun x hx => wordM_not hx]; rfl
  | g :: g2 :: gs, _ => by
    rw [joinW, if_neg (by simp), splitB_app fun x hx => wordM_not hx, split_join (by simp)]; rfl
theorem split_word (g : Int × Nat) : splitB 42 (wordM g) = if 1 < g.2 then [decB g.1, decB (g.2 : Int)] else [decB g.1] := by
  unfold wordM
  split
  · rw [splitB_app fun x hx => (decB_not hx).2, splitB_none fun x hx => (decB_not hx).2]
  · rw [List.append_nil, splitB_none fun x hx => (decB_not hx).2]
/-- The value of letters read so far; a sign in front is passed over. -/
def valS (a : List Int) : Int := if a.getD 0 0 = 45 then valD 0 (a.drop 1) else valD 0 a
theorem valS_snoc {a : List Int} {x : Int} (h : x ≠ 45) : valS (a ++ [x]) = 10 * valS a + x - 48 := by
  cases a with
  | nil => unfold valS; rw [if_neg (by simpa using h)]; simp [valD]
  | cons y a =>
    unfold valS
    rw [show ((y :: a) ++ [x]).getD 0 0 = y from rfl, show (y :: a).getD 0 0 = y from rfl]
    split
    · rw [show ((y :: a) ++ [x]).drop 1 = a ++ [x] from rfl, show (y :: a).drop 1 = a from rfl, valD_snoc]
    · rw [valD_snoc]
theorem decF_first {f : Nat} {n : Int} (hf : 1 ≤ f) (h : 0 ≤ n) : (decF f n).getD 0 0 ≠ 45 := by
  cases e : decF f n with
  | nil => exact absurd e (decF_ne hf)
  | cons x r =>
    have := decF_digits (f := f) (x := x) h (by rw [e]; exact List.mem_cons_self)
    show x ≠ 45
    omega
theorem valS_dec {m : Int} (h : -9999 ≤ m ∧ m ≤ 9999) : ((decB m).getD 0 0 = 45 ↔ m < 0) ∧ valS (decB m) = if m < 0 then 0 - m else m := by
  unfold valS decB
  by_cases c : m < 0
  · rw [if_pos c, if_pos c]
    refine ⟨⟨fun _ => c, fun _ => rfl⟩, ?_⟩
    rw [if_pos (show (45 :: decF 5 (0 - m)).getD 0 0 = 45 from rfl)]
    exact valD_dec (by omega) (by show 0 - m < (100000 : Nat); omega) (by omega)
  · rw [if_neg c, if_neg c]
    have h1 := decF_first (f := 5) (n := m) (by omega) (by omega)
    refine ⟨⟨fun e => absurd e h1, fun e => absurd e c⟩, ?_⟩
    rw [if_neg h1]
    exact valD_dec (by omega) (by show m < (100000 : Nat); omega) (by omega)
/-- A letter that is no digit: the sign, in front. -/
theorem decB_sign {m x : Int} {i : Nat} (h : (decB m)[i]? = some x) : (48 ≤ x ∧ x ≤ 57) ∨ (i = 0 ∧ x = 45) := by
  unfold decB at h
  split at h
  · cases i with
    | zero => simp at h; exact .inr ⟨rfl, h.symm⟩
    | succ i =>
      have := List.mem_of_getElem? (show (decF 5 (0 - m))[i]? = some x by simpa using h)
      exact .inl (decF_digits (by omega) this)
  · exact .inl (decF_digits (by omega) (List.mem_of_getElem? h))
def NumB (a : List Int) (n : Int) : Prop := (-9999 ≤ n ∧ n ≤ 9999) ∧ decB n = a ∧ a.length ≤ 4
theorem NumB.one {a : List Int} {n m : Int} (h : NumB a n) (h' : NumB a m) : n = m := by
  have h1 := valS_dec h.1
  have h2 := valS_dec h'.1
  rw [h.2.1] at h1
  rw [h'.2.1] at h2
  have e1 := h1.1.symm.trans h2.1
  have e2 := h1.2.symm.trans h2.2
  by_cases c : n < 0
  · rw [if_pos c, if_pos (e1.1 c)] at e2; omega
  · rw [if_neg c, if_neg (fun d => c (e1.2 d))] at e2; exact e2
/-- Groups, laid out. -/
def expG : List (Int × Nat) → List Int
  | [] => []
  | g :: gs => List.replicate g.2 g.1 ++ expG gs
theorem expG_grp : ∀ t : List Int, expG (grp t) = t
  | [] => rfl
  | x :: r => by
    have h := expG_grp r
    rw [grp]
    split
    · rename_i e
      have := grp_nil.1 e
      subst this; rfl
    · rename_i y n g e
      rw [e] at h
      split
      · rename_i e2; subst e2
        rw [expG] at h ⊢
        rw [List.replicate_succ, List.cons_append, h]
      · rw [expG, List.replicate_one, h]; rfl
theorem grp_count {t : List Int} {g : Int × Nat} (h : g ∈ grp t) : g.1 ∈ t ∧ 1 ≤ g.2 ∧ g.2 ≤ t.length := by
  induction t generalizing g with
  | nil => simp [grp] at h
  | cons x r ih =>
    rw [grp] at h
    split at h
    · rw [List.mem_singleton] at h; subst h; exact ⟨List.mem_cons_self, Nat.le_refl _, by simp⟩
    · rename_i y n gs e
      have h0 := ih (g := (y, n)) (by rw [e]; exact List.mem_cons_self)
      split at h
      · rename_i e2; subst e2
        rcases List.mem_cons.1 h with rfl | h
        · exact ⟨List.mem_cons_self, by simp, by simp at h0 ⊢; omega⟩
        · have := ih (g := g) (by rw [e]; exact List.mem_cons_of_mem _ h)
          exact ⟨List.mem_cons_of_mem _ this.1, this.2.1, by simp; omega⟩
      · rcases List.mem_cons.1 h with rfl | h
        · exact ⟨List.mem_cons_self, by simp, by simp⟩
        · have := ih (g := g) (by rw [e]; exact h)
          exact ⟨List.mem_cons_of_mem _ this.1, this.2.1, by simp; omega⟩
theorem expG_snoc (gs : List (Int × Nat)) (g : Int × Nat) : expG (gs ++ [g]) = expG gs ++ List.replicate g.2 g.1 := by
  induction gs with
  | nil => simp [expG]
  | cons x gs ih => rw [List.cons_append, expG, expG, ih, List.append_assoc]
theorem fmtM_inj {t u : List Int} (h : fmtM t = fmtM u) (ht : t ≠ []) (hu : u ≠ []) (vt : VTrace t) (vu : VTrace u) : t = u := by
  have h1 := split_join (gs := grp t) fun c => ht (grp_nil.1 c)
  have h2 := split_join (gs := grp u) fun c => hu (grp_nil.1 c)
  unfold fmtM at h
  rw [h, h2] at h1
  have word : ∀ {g g' : Int × Nat}, g ∈ grp t → g' ∈ grp u → wordM g = wordM g' → g = g' := by
    intro g g' hg hg' e
    have k1 := split_word g
    rw [e, split_word g'] at k1
    have c1 := grp_count hg
    have c2 := grp_count hg'
    have r1 := vt.2 _ c1.1
    have r2 := vu.2 _ c2.1
    have l1 := vt.1
    have l2 := vu.1
    have num : ∀ {a b : Int}, 0 ≤ a → a ≤ 9999 → 0 ≤ b → b ≤ 9999 → decB a = decB b → a = b := by
      intro a b ha ha2 hb hb2 e
      have h1 := (valS_dec (m := a) ⟨by omega, ha2⟩).2
      have h2 := (valS_dec (m := b) ⟨by omega, hb2⟩).2
      rw [if_neg (by omega)] at h1 h2
      rw [e] at h1; omega
    obtain ⟨g1, g2⟩ := g
    obtain ⟨g1', g2'⟩ := g'
    dsimp only at *
    by_cases p : 1 < g2 <;> by_cases p' : 1 < g2'
    · rw [if_pos p, if_pos p'] at k1
      injection k1 with k1 k2
      injection k2 with k2 _
      have := num (by omega) (by omega) (by omega) (by omega) k1
      have := num (a := (g2' : Int)) (b := (g2 : Int)) (by omega) (by omega) (by omega) (by omega) k2
      congr 1 <;> omega
    · rw [if_pos p, if_neg p'] at k1; have := congrArg List.length k1; simp at this
    · rw [if_neg p, if_pos p'] at k1; have := congrArg List.length k1; simp at this
    · rw [if_neg p, if_neg p'] at k1
      injection k1 with k1 _
      have := num (by omega) (by omega) (by omega) (by omega) k1
      congr 1 <;> omega
  have lists : ∀ {gs hs : List (Int × Nat)}, (∀ g ∈ gs, g ∈ grp t) → (∀ g ∈ hs, g ∈ grp u) → hs.map wordM = gs.map wordM → gs = hs := by
    intro gs
    induction gs with
    | nil => intro hs _ _ e; cases hs with
      | nil => rfl
      | cons => cases e
    | cons g gs ih =>
      intro hs h1 h2 e
      cases hs with
      | nil => cases e
      | cons g' hs =>
        rw [List.map_cons, List.map_cons] at e
        injection e with e1 e2
        rw [word (h1 g List.mem_cons_self) (h2 g' List.mem_cons_self) e1.symm, ih (fun x hx => h1 x (List.mem_cons_of_mem _ hx)) (fun x hx => h2 x (List.mem_cons_of_mem _ hx)) e2]
  have := lists (fun g h => h) (fun g h => h) h1
  rw [← expG_grp t, this, expG_grp]
theorem br_nd' {a b : Int} {A B : Prop} (h : a ≠ b) (g : B) : br (a == b) A B := br_ne h g
theorem decB_short {n : Int} (h : 0 ≤ n ∧ n ≤ 99) : (decB n).length ≤ 2 := by
  by_cases c : n < 10
  · rw [decB_small h.1 c]; simp
  · rw [decB_big (by omega) (by omega), decB_small (by omega) (by omega)]; simp
theorem NumB.of {n : Int} (h : 0 ≤ n ∧ n ≤ 99) : NumB (decB n) n := ⟨⟨by omega, by omega⟩, rfl, by have := decB_short h; omega⟩
/-- The trace whose text it is. -/
def TextB (a t : List Int) : Prop := VTrace t ∧ t ≠ [] ∧ fmtM t = a
theorem TextB.words {a t : List Int} (h : TextB a t) : splitB 32 a = (grp t).map wordM := by
  rw [← h.2.2]; exact split_join fun c => h.2.1 (grp_nil.1 c)
theorem TextB.group {a t : List Int} (h : TextB a t) {g : Int × Nat} (hg : g ∈ grp t) : (0 ≤ g.1 ∧ g.1 ≤ 31) ∧ 1 ≤ g.2 ∧ g.2 ≤ 24 := by
  have c := grp_count hg
  have := h.1.1
  exact ⟨h.1.2 _ c.1, c.2.1, by omega⟩
/-- Texts, one behind the other, with a text between two. -/
def joinB (s : List Int) : List (List Int) → List Int
  | [] => []
  | [x] => x
  | x :: y :: r => x ++ s ++ joinB s (y :: r)
/-- The first place of a byte, or -1. -/
def findB (c : Int) : List Int → Int
  | [] => -1
  | x :: r => if x = c then 0 else if findB c r = -1 then -1 else findB c r + 1
theorem join_words : ∀ (t : List Int), joinB [32] ((grp t).map wordM) = fmtM t := fun t => by
  unfold fmtM
  induction grp t with
  | nil => rfl
  | cons g gs ih =>
    cases gs with
    | nil => rw [joinW, if_pos rfl, List.append_nil]; rfl
    | cons g2 gs =>
      rw [joinW, if_neg (by simp), ← ih, List.map_cons, List.map_cons, joinB, List.append_assoc]; rfl
theorem findB_cases (c : Int) : ∀ a : List Int, (findB c a = -1 ∧ ∀ x ∈ a, x ≠ c) ∨ ∃ u v, (∀ x ∈ u, x ≠ c) ∧ a = u ++ c :: v ∧ findB c a = (u.length : Int)
  | [] => .inl ⟨rfl, by simp⟩
  | x :: r => by
    rw [findB]
    by_cases h : x = c
    · rw [if_pos h]; subst h
      exact .inr ⟨[], r, by simp, rfl, rfl⟩
    · rw [if_neg h]
      rcases findB_cases c r with ⟨e, hn⟩ | ⟨u, v, hn, rfl, e⟩
      · rw [if_pos e]
        exact .inl ⟨rfl, fun y hy => (List.mem_cons.1 hy).elim (fun q => by rw [q]; exact h) (hn y)⟩
      · rw [if_neg (by omega), e]
        exact .inr ⟨x :: u, v, fun y hy => (List.mem_cons.1 hy).elim (fun q => by rw [q]; exact h) (hn y), rfl, by simp⟩
theorem splitB_single {c : Int} : ∀ {a w : List Int}, splitB c a = [w] → a = w
  | [], w, h => by injection h
  | x :: a, w, h => by
    rw [splitB] at h
    split at h
    · injection h with _ h; exact absurd h (splitB_ne c a)
    · split at h
      · rename_i e; exact absurd e (splitB_ne c a)
      · rename_i u us e
        injection h with h1 h2
        subst h2
        rw [← h1, splitB_single e]
theorem expG_append : ∀ gs hs : List (Int × Nat), expG (gs ++ hs) = expG gs ++ expG hs
  | [], _ => rfl
  | g :: gs, hs => by rw [List.cons_append, expG, expG, expG_append gs hs, List.append_assoc]
theorem expG_take_len (gs : List (Int × Nat)) (n : Nat) : (expG (gs.take n)).length ≤ (expG gs).length := by
  have := congrArg List.length (expG_append (gs.take n) (gs.drop n))
  rw [List.take_append_drop, List.length_append] at this
  omega

-- spec.splitAt
def T0_spec_splitAt (c1 : Int) (s0 : ByteArray) (xfrom6 : Int) (xi7 : Int) (xout5 : List ByteArray) (k : List ByteArray → Prop) (B0 : Int → Int → List ByteArray → Prop) : Prop :=
  br (decide (xi7 < ((ByteArray.size s0) : Int)))
  ((0 ≤ xi7 ∧ xi7 < (ByteArray.size s0 : Int)) ∧
    br (((Array.getD s0.data (Int.toNat xi7) 0).toNat : Int) == c1)
    ((0 ≤ xfrom6 ∧ xfrom6 ≤ xi7 ∧ xi7 ≤ ((ByteArray.size s0) : Int)) ∧
      (xout5.length + 1 ≤ 1000000000) ∧
      InR (xi7 + 1) ∧
      InR (xi7 + 1) ∧
      B0 (xi7 + 1) (xi7 + 1) (xout5 ++ ([(ByteArray.extract s0 (Int.toNat xfrom6) (Int.toNat xi7))] : List ByteArray)))
    (InR (xi7 + 1) ∧
      B0 xfrom6 (xi7 + 1) xout5))
  ((0 ≤ xfrom6 ∧ xfrom6 ≤ ((ByteArray.size s0) : Int)) ∧
    (xout5.length + 1 ≤ 1000000000) ∧
    k (xout5 ++ ([(ByteArray.extract s0 (Int.toNat xfrom6) (ByteArray.size s0))] : List ByteArray)))
def L0_spec_splitAt (c1 : Int) (s0 : ByteArray) (k : List ByteArray → Prop) : Nat → Int → Int → List ByteArray → Prop
  | 0, _, _, _ => False
  | n + 1, xfrom6, xi7, xout5 => T0_spec_splitAt c1 s0 xfrom6 xi7 xout5 k (L0_spec_splitAt c1 s0 k n)
def G_spec_splitAt (s0 : ByteArray) (c1 : Int) (I0 : Int → ByteArray → Int → Int → List ByteArray → Prop) : Prop :=
  I0 c1 s0 0 0 ([] : List ByteArray)
def S_spec_splitAt (s0 : ByteArray) (c1 : Int) (k : List ByteArray → Prop) : Prop := G_spec_splitAt s0 c1 (fun c1 s0 xfrom6 xi7 xout5 => ∃ j, L0_spec_splitAt c1 s0 k j xfrom6 xi7 xout5)
def F_spec_splitAt (s : ByteArray) (c : Int) (k : List ByteArray → Prop) : Prop := ∃ a, (BS a ∧ s = strOfNums a ∧ a.length ≤ 100000000) ∧ k ((splitB c a).map strOfNums)
theorem F_spec_splitAt_S {s : ByteArray} {c : Int} {k : List ByteArray → Prop} (h : F_spec_splitAt s c k) : S_spec_splitAt s c k := by
  obtain ⟨a, ⟨hb, rfl, hl⟩, hk⟩ := h
  have go : ∀ (m i f : Nat) (out : List (List Int)), i + m = a.length → f ≤ i → (∀ x ∈ (a.take i).drop f, x ≠ c) → splitB c a = out ++ splitB c (a.drop f) → out.length ≤ i → L0_spec_splitAt c (strOfNums a) k (m + 1) (f : Int) (i : Int) (out.map strOfNums) := by
    intro m
    induction m with
    | zero =>
      intro i f out hi hf hn he ho
      rw [L0_spec_splitAt, T0_spec_splitAt]
      simp only [str_size]
      refine br_nd (by omega) ⟨⟨by omega, by omega⟩, by rw [List.length_map]; omega, ?_⟩
      rw [str_extract, Int.toNat_natCast, List.take_of_length_le (by omega)]
      rw [List.take_of_length_le (by omega)] at hn
      rw [splitB_none hn] at he
      rw [he, List.map_append] at hk
      exact hk
    | succ m ih =>
      intro i f out hi hf hn he ho
      rw [L0_spec_splitAt, T0_spec_splitAt]
      simp only [str_size, str_index hb, str_extract, Int.toNat_natCast]
      have htk : a.take (i + 1) = a.take i ++ [a.getD i 0] := takeI (by omega)
      refine br_yd (by omega) ⟨⟨by omega, by omega⟩, br_beq.2 ⟨fun g => ⟨⟨by omega, by omega, by omega⟩, by rw [List.length_map]; omega, inR (by omega) (by omega), inR (by omega) (by omega), ?_⟩, fun g => ⟨inR (by omega) (by omega), ?_⟩⟩⟩
      · have e2 : a.drop f = (a.take i).drop f ++ c :: a.drop (i + 1) := by
          have e3 : a.drop i = c :: a.drop (i + 1) := by
            rw [List.drop_eq_getElem_cons (by omega)]
            congr 1
            rw [← g, List.getD_eq_getElem?_getD, List.getElem?_eq_getElem (by omega)]; rfl
          rw [← e3]
          conv => lhs; rw [← List.take_append_drop i a]
          rw [List.drop_append, List.length_take, show f - min i a.length = 0 by omega, List.drop_zero]
        rw [e2, splitB_app hn] at he
        have := ih (i + 1) (i + 1) (out ++ [(a.take i).drop f]) (by omega) (by omega) (by rw [List.drop_eq_nil_of_le (by rw [List.length_take]; omega)]; simp) (by rw [he, List.append_assoc]; rfl) (by rw [List.length_append, List.length_singleton]; omega)
        rw [List.map_append] at this
        exact this
      · refine ih (i + 1) f out (by omega) (by omega) ?_ he (by omega)
        rw [htk, List.drop_append, List.length_take, show f - min i a.length = 0 by omega, List.drop_zero]
        intro x hx
        rcases List.mem_append.1 hx with h | h
        · exact hn x h
        · rw [List.mem_singleton.1 h]; exact g
  exact ⟨_, go a.length 0 0 [] (by omega) (by omega) (by simp) (by simp) (by simp)⟩
-- spec.inRange
def G_spec_inRange (n0 : Int) (low1 : Int) (high2 : Int) (k : Bool → Prop) : Prop :=
  br (decide (low1 ≤ n0))
  (k (decide (n0 ≤ high2)))
  (k false)
def S_spec_inRange (n0 : Int) (low1 : Int) (high2 : Int) (k : Bool → Prop) : Prop := G_spec_inRange n0 low1 high2 k
def F_spec_inRange (n low high : Int) (k : Bool → Prop) : Prop := k (decide (low ≤ n ∧ n ≤ high))
theorem F_spec_inRange_S {n low high : Int} {k : Bool → Prop} (h : F_spec_inRange n low high k) : S_spec_inRange n low high k := by
  unfold F_spec_inRange at h
  simp only [S_spec_inRange, G_spec_inRange, br_dec]
  refine ⟨fun h1 => ?_, fun h1 => ?_⟩
  · simpa [h1] using h
  · simpa [h1] using h
-- spec.decimal
def M_spec_decimal (n : Int) : Nat := if n < 0 then (-n).toNat + 100000 else n.toNat
def F_spec_decimal (n : Int) (k : ByteArray → Prop) : Prop := (-9999 ≤ n ∧ n ≤ 9999) ∧ k (strOfNums (decB n))
def Fr_spec_decimal (nn : Nat) (n0 : Int) (k : ByteArray → Prop) : Prop := M_spec_decimal n0 < nn ∧ F_spec_decimal n0 k
def G_spec_decimal_j0 (decimal26 : ByteArray) (n0 : Int) (k : ByteArray → Prop) : Prop :=
  ((ByteArray.size decimal26 + ByteArray.size (strOfNums ([(48 + (Int.tmod n0 10))] : List Int)) ≤ 1000000000) ∧
    k (decimal26 ++ (strOfNums ([(48 + (Int.tmod n0 10))] : List Int)))) ∧
  (True)
def G_spec_decimal_j1 (n0 : Int) (nn : Nat) (k : ByteArray → Prop) : Prop :=
  br (decide (n0 < 0))
  (InR (0 - n0) ∧
    Fr_spec_decimal nn (0 - n0) fun decimal15 =>
    (ByteArray.size (strOfNums [45]) + ByteArray.size decimal15 ≤ 1000000000) ∧
    k ((strOfNums [45]) ++ decimal15))
  (br (decide (n0 < 10))
    (InR (48 + n0) ∧
      (0 ≤ (48 + n0) ∧ (48 + n0) ≤ 255) ∧
      k (strOfNums ([(48 + n0)] : List Int)))
    (((10 : Int) ≠ 0 ∧ InR (Int.tdiv n0 10)) ∧
      ((10 : Int) ≠ 0) ∧
      InR (48 + (Int.tmod n0 10)) ∧
      (0 ≤ (48 + (Int.tmod n0 10)) ∧ (48 + (Int.tmod n0 10)) ≤ 255) ∧
      (Fr_spec_decimal nn (Int.tdiv n0 10) fun decimal26 =>
        (G_spec_decimal_j0 decimal26 n0 k) ∧
        (True)) ∧
      (((Fr_spec_decimal nn (Int.tdiv n0 10) fun decimal26 =>
            G_spec_decimal_j0 decimal26 n0 k) ∧
          (((Fr_spec_decimal nn (Int.tdiv n0 10) fun decimal26 =>
                (ByteArray.size decimal26 + ByteArray.size (strOfNums ([(48 + (Int.tmod n0 10))] : List Int)) ≤ 1000000000) ∧
                k (decimal26 ++ (strOfNums ([(48 + (Int.tmod n0 10))] : List Int)))) ∧
              (True)) ∧
            (True))) ∧
        (True))))
def G_spec_decimal (nn : Nat) (n0 : Int) (k : ByteArray → Prop) : Prop :=
  br (decide (n0 < 0))
  (InR (0 - n0) ∧
    br (n0 == (0 - n0))
    (k (strOfNums [45, 57, 50, 50, 51, 51, 55, 50, 48, 51, 54, 56, 53, 52, 55, 55, 53, 56, 48, 56]))
    (G_spec_decimal_j1 n0 nn k))
  (G_spec_decimal_j1 n0 nn k)
def H_spec_decimal_j0 (n0 : Int) (nn : Nat) (k : ByteArray → Prop) : Prop :=
  br (decide (n0 < 0))
  (InR (0 - n0) ∧
    Fr_spec_decimal nn (0 - n0) fun decimal15 =>
    (ByteArray.size (strOfNums [45]) + ByteArray.size decimal15 ≤ 1000000000) ∧
    k ((strOfNums [45]) ++ decimal15))
  (br (decide (n0 < 10))
    (InR (48 + n0) ∧
      (0 ≤ (48 + n0) ∧ (48 + n0) ≤ 255) ∧
      k (strOfNums ([(48 + n0)] : List Int)))
    (((10 : Int) ≠ 0 ∧ InR (Int.tdiv n0 10)) ∧
      ((10 : Int) ≠ 0) ∧
      InR (48 + (Int.tmod n0 10)) ∧
      (0 ≤ (48 + (Int.tmod n0 10)) ∧ (48 + (Int.tmod n0 10)) ≤ 255) ∧
      Fr_spec_decimal nn (Int.tdiv n0 10) fun decimal26 =>
      (ByteArray.size decimal26 + ByteArray.size (strOfNums ([(48 + (Int.tmod n0 10))] : List Int)) ≤ 1000000000) ∧
      k (decimal26 ++ (strOfNums ([(48 + (Int.tmod n0 10))] : List Int)))))
def H_spec_decimal (nn : Nat) (n0 : Int) (k : ByteArray → Prop) : Prop :=
  br (decide (n0 < 0))
  (InR (0 - n0) ∧
    br (n0 == (0 - n0))
    (k (strOfNums [45, 57, 50, 50, 51, 51, 55, 50, 48, 51, 54, 56, 53, 52, 55, 55, 53, 56, 48, 56]))
    (H_spec_decimal_j0 n0 nn k))
  (H_spec_decimal_j0 n0 nn k)
theorem G_spec_decimal_eq (nn : Nat) (n0 : Int) (k : ByteArray → Prop) : G_spec_decimal nn n0 k = H_spec_decimal nn n0 k := by
  first
  | (simp only [G_spec_decimal, H_spec_decimal, G_spec_decimal_j0, G_spec_decimal_j1, H_spec_decimal_j0, and_self, and_true]; done)
  | (simp only [G_spec_decimal, H_spec_decimal, G_spec_decimal_j0, G_spec_decimal_j1, H_spec_decimal_j0, and_self, and_true, and_self_left, and_assoc]; refine propext ⟨fun h => ?_, fun h => ?_⟩ <;> (repeat (cases ‹_ ∧ _›)) <;> (repeat' (apply And.intro)) <;> assumption)
def S_spec_decimal (nn : Nat) (n0 : Int) (k : ByteArray → Prop) : Prop := H_spec_decimal nn n0 k
theorem F_spec_decimal_S {nn : Nat} {n : Int} {k : ByteArray → Prop} (hm : M_spec_decimal n ≤ nn) (h : F_spec_decimal n k) : S_spec_decimal nn n k := by
  obtain ⟨⟨h1, h2⟩, hk⟩ := h
  unfold M_spec_decimal at hm
  have j0 : H_spec_decimal_j0 n nn k := by
    unfold H_spec_decimal_j0
    refine br_dec.2 ⟨fun c => ⟨inR (by omega) (by omega), ⟨?_, ⟨by omega, by omega⟩, ?_, ?_⟩⟩, fun c => br_dec.2 ⟨fun c2 => ⟨inR (by omega) (by omega), ⟨by omega, by omega⟩, ?_⟩, fun c2 => ?_⟩⟩
    · unfold M_spec_decimal; rw [if_pos c] at hm; rw [if_neg (by omega)]; omega
    · rw [str_size, str_size]; have := decB_len (0 - n); rw [List.length_singleton]; omega
    · rw [str_append]; rw [decB_neg c] at hk; exact hk
    · rw [decB_small (by omega) c2] at hk; exact hk
    · have e1 : Int.tdiv n 10 = n / 10 := Int.tdiv_eq_ediv_of_nonneg (by omega)
      have e2 : Int.tmod n 10 = n % 10 := Int.tmod_eq_emod_of_nonneg (by omega)
      rw [e1, e2]
      refine ⟨⟨by omega, inR (by omega) (by omega)⟩, by omega, inR (by omega) (by omega), ⟨by omega, by omega⟩, ⟨?_, ⟨by omega, by omega⟩, ?_, ?_⟩⟩
      · unfold M_spec_decimal; rw [if_neg c] at hm; rw [if_neg (by omega)]; omega
      · rw [str_size, str_size]; have := decB_len (n / 10); rw [List.length_singleton]; omega
      · rw [str_append]; rw [decB_big (by omega) h2] at hk; exact hk
  exact br_dec.2 ⟨fun c => ⟨inR (by omega) (by omega), br_beq.2 ⟨fun e => by omega, fun _ => j0⟩⟩, fun _ => j0⟩
-- spec.parseInt
def T0_spec_parseInt_j0 (s0 : ByteArray) (xn4 : Int) (k : Int → Bool → Prop) : Prop :=
  br (((ByteArray.size s0) : Int) == 0)
  (k 0 false)
  (br (decide (((ByteArray.size s0) : Int) > 4))
    (k 0 false)
    (F_spec_decimal xn4 fun decimal58 =>
      br (!(ByteArray.toList decimal58 == ByteArray.toList s0))
      (k 0 false)
      (k xn4 true)))
def T0_spec_parseInt_j1 (s0 : ByteArray) (xn4 : Int) (k : Int → Bool → Prop) : Prop :=
  br (decide (((ByteArray.size s0) : Int) > 0))
  ((0 ≤ (0 : Int) ∧ 0 < (ByteArray.size s0 : Int)) ∧
    br (((Array.getD s0.data 0 0).toNat : Int) == 45)
    (InR (0 - xn4) ∧
      br (((ByteArray.size s0) : Int) == 0)
      (k 0 false)
      (br (decide (((ByteArray.size s0) : Int) > 4))
        (k 0 false)
        (F_spec_decimal (0 - xn4) fun decimal58 =>
          br (!(ByteArray.toList decimal58 == ByteArray.toList s0))
          (k 0 false)
          (k (0 - xn4) true))))
    (T0_spec_parseInt_j0 s0 xn4 k))
  (T0_spec_parseInt_j0 s0 xn4 k)
def T0_spec_parseInt (s0 : ByteArray) (xn4 : Int) (xi5 : Int) (k : Int → Bool → Prop) (B0 : Int → Int → Prop) : Prop :=
  br (decide (xi5 < ((ByteArray.size s0) : Int)))
  (br (decide (((ByteArray.size s0) : Int) ≤ 4))
    ((0 ≤ xi5 ∧ xi5 < (ByteArray.size s0 : Int)) ∧
      InR ((Array.getD s0.data (Int.toNat xi5) 0).toNat : Int) ∧
      F_spec_inRange ((Array.getD s0.data (Int.toNat xi5) 0).toNat : Int) (48 : Int) (57 : Int) fun inRange21 =>
      br inRange21
      (InR (10 * xn4) ∧
        (0 ≤ xi5 ∧ xi5 < (ByteArray.size s0 : Int)) ∧
        InR ((Array.getD s0.data (Int.toNat xi5) 0).toNat : Int) ∧
        InR ((10 * xn4) + ((Array.getD s0.data (Int.toNat xi5) 0).toNat : Int)) ∧
        InR (((10 * xn4) + ((Array.getD s0.data (Int.toNat xi5) 0).toNat : Int)) - 48) ∧
        InR (xi5 + 1) ∧
        B0 (((10 * xn4) + ((Array.getD s0.data (Int.toNat xi5) 0).toNat : Int)) - 48) (xi5 + 1))
      (br (decide (xi5 > 0))
        (k 0 false)
        ((0 ≤ xi5 ∧ xi5 < (ByteArray.size s0 : Int)) ∧
          br (((Array.getD s0.data (Int.toNat xi5) 0).toNat : Int) != 45)
          (k 0 false)
          (InR (xi5 + 1) ∧
            B0 xn4 (xi5 + 1)))))
    (T0_spec_parseInt_j1 s0 xn4 k))
  (T0_spec_parseInt_j1 s0 xn4 k)
def L0_spec_parseInt (s0 : ByteArray) (k : Int → Bool → Prop) : Nat → Int → Int → Prop
  | 0, _, _ => False
  | n + 1, xn4, xi5 => T0_spec_parseInt s0 xn4 xi5 k (L0_spec_parseInt s0 k n)
def G_spec_parseInt (s0 : ByteArray) (I0 : ByteArray → Int → Int → Prop) : Prop :=
  I0 s0 0 0
def S_spec_parseInt (s0 : ByteArray) (k : Int → Bool → Prop) : Prop := G_spec_parseInt s0 (fun s0 xn4 xi5 => ∃ j, L0_spec_parseInt s0 k j xn4 xi5)
def F_spec_parseInt (s : ByteArray) (k : Int → Bool → Prop) : Prop := ∃ a, (BS a ∧ s = strOfNums a ∧ a.length ≤ 100000000) ∧ (∀ n, NumB a n → k n true) ∧ ((¬ ∃ n, NumB a n) → k 0 false)
theorem F_spec_parseInt_S {s : ByteArray} {k : Int → Bool → Prop} (h : F_spec_parseInt s k) : S_spec_parseInt s k := by
  obtain ⟨a, ⟨hb, rfl, hl⟩, hyes, hno⟩ := h
  have no : (∀ n, NumB a n → False) → k 0 false := fun h => hno fun ⟨n, hn⟩ => h n hn
  have endj : ∀ n : Int, (-9999 ≤ n ∧ n ≤ 9999) → a.length ≤ 4 → (∀ m, NumB a m → m = n) → br (!(ByteArray.toList (strOfNums (decB n)) == ByteArray.toList (strOfNums a))) (k 0 false) (k n true) := by
    intro n hn h4 hu
    rw [str_eq (decB_BS n) hb]
    refine br_not.2 (br_dec.2 ⟨fun e => hyes n ⟨hn, e, h4⟩, fun e => no fun m hm => ?_⟩)
    have := hu m hm
    subst this; exact e hm.2.1
  have fin : ∀ n : Int, (0 ≤ n ∧ n ≤ 9999) → (a.length ≤ 4 → n = valS a) → T0_spec_parseInt_j1 (strOfNums a) n k := by
    intro n hn hv
    unfold T0_spec_parseInt_j1 T0_spec_parseInt_j0
    simp only [str_size, str_index hb]
    have sgn : a.length ≤ 4 → ∀ m, NumB a m → (a.getD 0 0 = 45 ↔ m < 0) ∧ n = if m < 0 then 0 - m else m := by
      intro h4 m hm
      have h1 := valS_dec hm.1
      rw [hm.2.1] at h1
      exact ⟨h1.1, (hv h4).trans h1.2⟩
    refine br_dec.2 ⟨fun g => ⟨⟨by omega, by omega⟩, br_beq.2 ⟨fun c => ⟨inR (by omega) (by omega), br_nd' (by omega) (br_dec.2 ⟨fun l4 => no fun m hm => by have := hm.2.2; omega, fun l4 => ⟨⟨by omega, by omega⟩, endj _ ⟨by omega, by omega⟩ (by omega) fun m hm => ?_⟩⟩)⟩, fun c => br_nd' (by omega) (br_dec.2 ⟨fun l4 => no fun m hm => by have := hm.2.2; omega, fun l4 => ⟨⟨by omega, by omega⟩, endj _ ⟨by omega, by omega⟩ (by omega) fun m hm => ?_⟩⟩)⟩⟩, fun g => br_ye (by omega) (no fun m hm => ?_)⟩
    · have := sgn (by omega) m hm
      have := this.1.1 c
      split at * <;> omega
    · obtain ⟨s1, s2⟩ := sgn (by omega) m hm
      have : ¬ m < 0 := fun q => c (s1.2 q)
      rw [if_neg this] at s2; omega
    · have := decB_ne m
      rw [hm.2.1] at this
      exact this (List.eq_nil_of_length_eq_zero (by omega))
  have go : ∀ (m i : Nat) (n : Int), i + m = a.length → n = valS (a.take i) → (i ≤ 4 ∨ i = 0) → ((i = 0 ∧ n = 0) ∨ (i = 1 ∧ 0 ≤ n ∧ n ≤ 9) ∨ (i = 2 ∧ 0 ≤ n ∧ n ≤ 99) ∨ (i = 3 ∧ 0 ≤ n ∧ n ≤ 999) ∨ (i = 4 ∧ 0 ≤ n ∧ n ≤ 9999)) → L0_spec_parseInt (strOfNums a) k (m + 1) n (i : Int) := by
    intro m
    induction m with
    | zero =>
      intro i n hi hv h4 hr
      rw [L0_spec_parseInt, T0_spec_parseInt]
      simp only [str_size]
      refine br_nd (by omega) (fin n (by omega) fun _ => ?_)
      rw [hv, List.take_of_length_le (by omega)]
    | succ m ih =>
      intro i n hi hv h4 hr
      rw [L0_spec_parseInt, T0_spec_parseInt]
      simp only [str_size, str_index hb, Int.toNat_natCast]
      have hx := hb _ (getI_mem (l := a) (i := i) (by omega))
      have hat : a[i]? = some (a.getD i 0) := some_of (by omega)
      refine br_yd (by omega) (br_dec.2 ⟨fun l4 => ⟨⟨by omega, by omega⟩, inR (by omega) (by omega), br_dec.2 ⟨fun d => ⟨inR (by omega) (by omega), ⟨by omega, by omega⟩, inR (by omega) (by omega), inR (by omega) (by omega), inR (by omega) (by omega), inR (by omega) (by omega), ih (i + 1) _ (by omega) ?_ (by omega) (by omega)⟩, fun d => br_dec.2 ⟨fun p => no fun q hq => ?_, fun p => ⟨⟨by omega, by omega⟩, br_bne.2 ⟨fun c => no fun q hq => ?_, fun c => ⟨inR (by omega) (by omega), ih (i + 1) n (by omega) ?_ (by omega) (by omega)⟩⟩⟩⟩⟩⟩, fun l4 => fin n (by omega) fun q => by omega⟩)
      · rw [takeI (by omega), valS_snoc (by omega), hv]
      · rw [← hq.2.1] at hat
        have := decB_sign hat
        rw [hq.2.1] at this; omega
      · rw [← hq.2.1] at hat
        have := decB_sign hat
        rw [hq.2.1] at this; omega
      · have h0 : i = 0 := by omega
        subst h0
        rw [takeI (by omega), hv, List.take_zero, List.nil_append, c]; rfl
  exact ⟨_, go a.length 0 0 (by omega) (by simp [valS, valD]) (.inr rfl) (.inl ⟨rfl, rfl⟩)⟩
-- spec.allIn
def T0_spec_allIn (high2 : Int) (list0 : List Int) (low1 : Int) (xi7 : Int) (k : Bool → Prop) (B0 : Int → Prop) : Prop :=
  br (decide (xi7 < (list0.length : Int)))
  ((0 ≤ xi7 ∧ xi7 < (list0.length : Int)) ∧
    F_spec_inRange (List.getD list0 (Int.toNat xi7) (0 : Int)) low1 high2 fun inRange20 =>
    br (!inRange20)
    (k false)
    (InR (xi7 + 1) ∧
      B0 (xi7 + 1)))
  (k true)
def L0_spec_allIn (high2 : Int) (list0 : List Int) (low1 : Int) (k : Bool → Prop) : Nat → Int → Prop
  | 0, _ => False
  | n + 1, xi7 => T0_spec_allIn high2 list0 low1 xi7 k (L0_spec_allIn high2 list0 low1 k n)
def G_spec_allIn (list0 : List Int) (low1 : Int) (high2 : Int) (I0 : Int → List Int → Int → Int → Prop) : Prop :=
  I0 high2 list0 low1 0
def S_spec_allIn (list0 : List Int) (low1 : Int) (high2 : Int) (k : Bool → Prop) : Prop := G_spec_allIn list0 low1 high2 (fun high2 list0 low1 xi7 => ∃ j, L0_spec_allIn high2 list0 low1 k j xi7)
def F_spec_allIn (l : List Int) (low high : Int) (k : Bool → Prop) : Prop := l.length ≤ 1000000000 ∧ k (decide (∀ x ∈ l, low ≤ x ∧ x ≤ high))
theorem F_spec_allIn_S {l : List Int} {low high : Int} {k : Bool → Prop} (h : F_spec_allIn l low high k) : S_spec_allIn l low high k := by
  obtain ⟨hl, hk⟩ := h
  have key : ∀ (r : List Int) (i : Nat), l.drop i = r → ((∀ x ∈ r, low ≤ x ∧ x ≤ high) ↔ (∀ x ∈ l, low ≤ x ∧ x ≤ high)) → L0_spec_allIn high l low k (r.length + 1) (i : Int) := by
    intro r
    induction r with
    | nil =>
      intro i hd he
      have := drop_nil' hd
      rw [L0_spec_allIn, T0_spec_allIn]
      simp only [br_dec]
      refine ⟨fun h => by omega, fun _ => ?_⟩
      rwa [decide_eq_true (he.1 (by simp))] at hk
    | cons x r ih =>
      intro i hd he
      obtain ⟨h1, h2, _, h3, _⟩ := drop_cons' hd
      rw [List.length_cons, L0_spec_allIn, T0_spec_allIn]
      simp only [br_dec, F_spec_inRange, br_not, Int.toNat_natCast, h2]
      refine ⟨fun _ => ⟨⟨by omega, by omega⟩, fun hx => ⟨inR (by omega) (by omega), ?_⟩, fun hx => ?_⟩, fun h => by omega⟩
      · refine ih (i + 1) h3 (Iff.trans ?_ he)
        simp only [List.mem_cons, forall_eq_or_imp]
        exact ⟨fun h => ⟨hx, h⟩, fun h => h.2⟩
      · rwa [decide_eq_false (fun h => hx (he.2 h x (by simp)))] at hk
  exact ⟨_, key l 0 rfl Iff.rfl⟩
-- spec.validTrace
def G_spec_validTrace (t0 : List Int) (k : Bool → Prop) : Prop :=
  br (decide ((t0.length : Int) ≤ 24))
  (F_spec_allIn t0 (0 : Int) (31 : Int) fun allIn8 =>
    k allIn8)
  (k false)
def S_spec_validTrace (t0 : List Int) (k : Bool → Prop) : Prop := G_spec_validTrace t0 k
def F_spec_validTrace (t : List Int) (k : Bool → Prop) : Prop := ∀ b : Bool, (b = true ↔ VTrace t) → k b
theorem F_spec_validTrace_S {t : List Int} {k : Bool → Prop} (h : F_spec_validTrace t k) : S_spec_validTrace t k :=
  br_dec.2 ⟨fun h1 => ⟨by omega, h _ (by simp only [decide_eq_true_eq]; exact ⟨fun h2 => ⟨by omega, h2⟩, fun v => v.2⟩)⟩, fun h1 => h false (by simp only [Bool.false_eq_true, false_iff]; exact fun v => h1 (by have := v.1; omega))⟩
-- spec.run
def T0_spec_run (at1 : Int) (t0 : List Int) (xn5 : Int) (k : Int → Prop) (B0 : Int → Prop) : Prop :=
  InR (at1 + xn5) ∧
  br (decide ((at1 + xn5) < (t0.length : Int)))
  (InR (at1 + xn5) ∧
    (0 ≤ (at1 + xn5) ∧ (at1 + xn5) < (t0.length : Int)) ∧
    (0 ≤ at1 ∧ at1 < (t0.length : Int)) ∧
    br ((List.getD t0 (Int.toNat (at1 + xn5)) (0 : Int)) == (List.getD t0 (Int.toNat at1) (0 : Int)))
    (InR (xn5 + 1) ∧
      B0 (xn5 + 1))
    (k xn5))
  (k xn5)
def L0_spec_run (at1 : Int) (t0 : List Int) (k : Int → Prop) : Nat → Int → Prop
  | 0, _ => False
  | n + 1, xn5 => T0_spec_run at1 t0 xn5 k (L0_spec_run at1 t0 k n)
def G_spec_run (t0 : List Int) (at1 : Int) (I0 : Int → List Int → Int → Prop) : Prop :=
  I0 at1 t0 1
def S_spec_run (t0 : List Int) (at1 : Int) (k : Int → Prop) : Prop := G_spec_run t0 at1 (fun at1 t0 xn5 => ∃ j, L0_spec_run at1 t0 k j xn5)
def F_spec_run (t : List Int) (at_ : Int) (k : Int → Prop) : Prop := (t.length ≤ 1000000 ∧ 0 ≤ at_ ∧ at_ < t.length) ∧ k (runN (t.drop at_.toNat) : Int)
theorem F_spec_run_S {t : List Int} {at_ : Int} {k : Int → Prop} (h : F_spec_run t at_ k) : S_spec_run t at_ k := by
  obtain ⟨⟨hl, h0, h1⟩, hk⟩ := h
  obtain ⟨p, rfl⟩ : ∃ p : Nat, at_ = p := ⟨at_.toNat, by omega⟩
  rw [Int.toNat_natCast] at hk
  have hd : t.drop p = t.getD p 0 :: t.drop (p + 1) := by
    rw [List.drop_eq_getElem_cons (by omega), List.getD_eq_getElem?_getD, List.getElem?_eq_getElem (by omega)]; rfl
  have hp := runN_pos (t.getD p 0) (t.drop (p + 1))
  have hsame := runN_same (t.getD p 0) (t.drop (p + 1))
  have hstop := runN_stop (t.getD p 0) (t.drop (p + 1))
  rw [← hd] at hp hsame hstop
  rw [List.length_drop] at hp hstop
  have hget : ∀ q, (t.drop p).getD q 0 = t.getD (p + q) 0 := fun q => by
    rw [List.getD_eq_getElem?_getD, List.getElem?_drop, ← List.getD_eq_getElem?_getD]
  have go : ∀ (m n : Nat), n + m = runN (t.drop p) → 1 ≤ n → L0_spec_run (p : Int) t k (m + 1) (n : Int) := by
    intro m
    induction m with
    | zero =>
      intro n hn h1
      rw [L0_spec_run, T0_spec_run]
      rw [show ((p : Int) + (n : Int)).toNat = p + n by omega, Int.toNat_natCast]
      rw [show n = runN (t.drop p) by omega]
      refine ⟨inR (by omega) (by omega), br_dec.2 ⟨fun c => ⟨inR (by omega) (by omega), ⟨by omega, by omega⟩, ⟨by omega, by omega⟩, br_ne ?_ hk⟩, fun _ => hk⟩⟩
      have := hstop (by omega)
      rwa [hget] at this
    | succ m ih =>
      intro n hn h1
      rw [L0_spec_run, T0_spec_run]
      rw [show ((p : Int) + (n : Int)).toNat = p + n by omega, Int.toNat_natCast]
      have e := hsame n (by omega)
      rw [hget] at e
      exact ⟨inR (by omega) (by omega), br_yd (by omega) ⟨inR (by omega) (by omega), ⟨by omega, by omega⟩, ⟨by omega, by omega⟩, br_ye e ⟨inR (by omega) (by omega), ih (n + 1) (by omega) (by omega)⟩⟩⟩
  exact ⟨_, go (runN (t.drop p) - 1) 1 (by omega) (by omega)⟩
-- spec.formatTrace
def T0_spec_formatTrace (t0 : List Int) (xout3 : ByteArray) (xi4 : Int) (k : ByteArray → Prop) (B0 : ByteArray → Int → Prop) : Prop :=
  br (decide (xi4 < (t0.length : Int)))
  (br (decide (xi4 > 0))
    ((ByteArray.size xout3 + ByteArray.size (strOfNums [32]) ≤ 1000000000) ∧
      (0 ≤ xi4 ∧ xi4 < (t0.length : Int)) ∧
      F_spec_decimal (List.getD t0 (Int.toNat xi4) (0 : Int)) fun decimal23 =>
      (ByteArray.size (xout3 ++ (strOfNums [32])) + ByteArray.size decimal23 ≤ 1000000000) ∧
      F_spec_run t0 xi4 fun run27 =>
      br (decide (run27 > 1))
      ((ByteArray.size ((xout3 ++ (strOfNums [32])) ++ decimal23) + ByteArray.size (strOfNums [42]) ≤ 1000000000) ∧
        F_spec_run t0 xi4 fun run33 =>
        F_spec_decimal run33 fun decimal34 =>
        (ByteArray.size (((xout3 ++ (strOfNums [32])) ++ decimal23) ++ (strOfNums [42])) + ByteArray.size decimal34 ≤ 1000000000) ∧
        F_spec_run t0 xi4 fun run12 =>
        InR (xi4 + run12) ∧
        B0 ((((xout3 ++ (strOfNums [32])) ++ decimal23) ++ (strOfNums [42])) ++ decimal34) (xi4 + run12))
      (F_spec_run t0 xi4 fun run12 =>
        InR (xi4 + run12) ∧
        B0 ((xout3 ++ (strOfNums [32])) ++ decimal23) (xi4 + run12)))
    ((0 ≤ xi4 ∧ xi4 < (t0.length : Int)) ∧
      F_spec_decimal (List.getD t0 (Int.toNat xi4) (0 : Int)) fun decimal23 =>
      (ByteArray.size xout3 + ByteArray.size decimal23 ≤ 1000000000) ∧
      F_spec_run t0 xi4 fun run27 =>
      br (decide (run27 > 1))
      ((ByteArray.size (xout3 ++ decimal23) + ByteArray.size (strOfNums [42]) ≤ 1000000000) ∧
        F_spec_run t0 xi4 fun run33 =>
        F_spec_decimal run33 fun decimal34 =>
        (ByteArray.size ((xout3 ++ decimal23) ++ (strOfNums [42])) + ByteArray.size decimal34 ≤ 1000000000) ∧
        F_spec_run t0 xi4 fun run12 =>
        InR (xi4 + run12) ∧
        B0 (((xout3 ++ decimal23) ++ (strOfNums [42])) ++ decimal34) (xi4 + run12))
      (F_spec_run t0 xi4 fun run12 =>
        InR (xi4 + run12) ∧
        B0 (xout3 ++ decimal23) (xi4 + run12))))
  (k xout3)
def L0_spec_formatTrace (t0 : List Int) (k : ByteArray → Prop) : Nat → ByteArray → Int → Prop
  | 0, _, _ => False
  | n + 1, xout3, xi4 => T0_spec_formatTrace t0 xout3 xi4 k (L0_spec_formatTrace t0 k n)
def G_spec_formatTrace (t0 : List Int) (I0 : List Int → ByteArray → Int → Prop) : Prop :=
  I0 t0 (strOfNums []) 0
def S_spec_formatTrace (t0 : List Int) (k : ByteArray → Prop) : Prop := G_spec_formatTrace t0 (fun t0 xout3 xi4 => ∃ j, L0_spec_formatTrace t0 k j xout3 xi4)
def F_spec_formatTrace (t : List Int) (k : ByteArray → Prop) : Prop := (t.length ≤ 1000 ∧ ∀ x ∈ t, 0 ≤ x ∧ x ≤ 9999) ∧ k (strOfNums (fmtM t))
theorem F_spec_formatTrace_S {t : List Int} {k : ByteArray → Prop} (h : F_spec_formatTrace t k) : S_spec_formatTrace t k := by
  obtain ⟨⟨hl, hx⟩, hk⟩ := h
  have hf := fmtM_len t
  have go : ∀ (m i : Nat) (o : List Int), t.length ≤ i + m → i ≤ t.length → o ++ ((if 0 < i ∧ i < t.length then [32] else []) ++ fmtM (t.drop i)) = fmtM t → L0_spec_formatTrace t k (m + 1) (strOfNums o) (i : Int) := by
    intro m
    induction m with
    | zero =>
      intro i o hm hi he
      rw [L0_spec_formatTrace, T0_spec_formatTrace]
      rw [if_neg (by omega), List.drop_eq_nil_of_le (by omega)] at he
      have : o = fmtM t := by rw [← he]; simp [fmtM, grp, joinW]
      rw [this]
      exact br_nd (by omega) hk
    | succ m ih =>
      intro i o hm hi he
      by_cases c : i < t.length
      · have hd : t.drop i = t.getD i 0 :: t.drop (i + 1) := by
          rw [List.drop_eq_getElem_cons c, List.getD_eq_getElem?_getD, List.getElem?_eq_getElem c]; rfl
        have hp := runN_pos (t.getD i 0) (t.drop (i + 1))
        rw [← hd, List.length_drop] at hp
        have hxi := hx _ (getI_mem (l := t) (i := i) c)
        have hw := fmtM_cons (t.getD i 0) (t.drop (i + 1))
        rw [← hd, List.drop_drop] at hw
        have hlen := congrArg List.length he
        rw [hw] at he hlen
        simp only [List.length_append] at hlen
        have next : ∀ o', o' = o ++ ((if 0 < i ∧ i < t.length then [32] else []) ++ wordM (t.getD i 0, runN (t.drop i))) → L0_spec_formatTrace t k (m + 1) (strOfNums o') ((i : Int) + (runN (t.drop i) : Int)) := by
          intro o' e
          have := ih (i + runN (t.drop i)) o' (by omega) (by omega) (by
            rw [e, ← he]
            simp only [List.append_assoc]
            congr 3
            by_cases q : i + runN (t.drop i) < t.length
            · rw [if_pos ⟨by omega, q⟩, if_neg (by rw [List.drop_eq_nil_iff]; omega)]; rfl
            · rw [if_neg (fun c => q c.2), if_pos (List.drop_eq_nil_of_le (by omega)), List.drop_eq_nil_of_le (by omega)]; rfl)
          exact this
        have hdl := decB_len (t.getD i 0)
        have hdl2 := decB_len (runN (t.drop i) : Int)
        rw [L0_spec_formatTrace, T0_spec_formatTrace]
        rw [Int.toNat_natCast]
        refine br_yd (by omega) (br_dec.2 ⟨fun p => ?_, fun p => ?_⟩)
        · rw [if_pos ⟨by omega, c⟩] at next
          simp only [str_append, str_size, List.length_append, List.length_singleton]
          have R : t.length ≤ 1000000 ∧ 0 ≤ (i : Int) ∧ (i : Int) < t.length := ⟨by omega, by omega, by omega⟩
          refine ⟨by omega, ⟨by omega, by omega⟩, ⟨⟨by omega, by omega⟩, ?_⟩⟩
          simp only [str_append, str_size, List.length_append, List.length_singleton]
          refine ⟨by omega, R, ?_⟩
          rw [Int.toNat_natCast]
          refine br_dec.2 ⟨fun q => ⟨by omega, R, ?_⟩, fun q => ⟨R, ?_⟩⟩
          · rw [Int.toNat_natCast]
            refine ⟨⟨by omega, by omega⟩, ?_⟩
            simp only [str_append, str_size, List.length_append, List.length_singleton]
            refine ⟨by omega, R, ?_⟩
            rw [Int.toNat_natCast]
            refine ⟨inR (by omega) (by omega), next _ ?_⟩
            unfold wordM; rw [if_pos (show 1 < runN (t.drop i) by omega)]; simp
          · rw [Int.toNat_natCast]
            refine ⟨inR (by omega) (by omega), next _ ?_⟩
            unfold wordM; rw [if_neg (show ¬ 1 < runN (t.drop i) by omega)]; simp
        · rw [if_neg (fun d => p (by omega))] at next
          have R : t.length ≤ 1000000 ∧ 0 ≤ (i : Int) ∧ (i : Int) < t.length := ⟨by omega, by omega, by omega⟩
          refine ⟨⟨by omega, by omega⟩, ⟨⟨by omega, by omega⟩, ?_⟩⟩
          simp only [str_append, str_size, List.length_append, List.length_singleton]
          refine ⟨by omega, R, ?_⟩
          rw [Int.toNat_natCast]
          refine br_dec.2 ⟨fun q => ⟨by omega, R, ?_⟩, fun q => ⟨R, ?_⟩⟩
          · rw [Int.toNat_natCast]
            refine ⟨⟨by omega, by omega⟩, ?_⟩
            simp only [str_append, str_size, List.length_append, List.length_singleton]
            refine ⟨by omega, R, ?_⟩
            rw [Int.toNat_natCast]
            refine ⟨inR (by omega) (by omega), next _ ?_⟩
            unfold wordM; rw [if_pos (show 1 < runN (t.drop i) by omega)]; simp
          · rw [Int.toNat_natCast]
            refine ⟨inR (by omega) (by omega), next _ ?_⟩
            unfold wordM; rw [if_neg (show ¬ 1 < runN (t.drop i) by omega)]; simp
      · rw [L0_spec_formatTrace, T0_spec_formatTrace]
        rw [if_neg (by omega), List.drop_eq_nil_of_le (by omega)] at he
        have : o = fmtM t := by rw [← he]; simp [fmtM, grp, joinW]
        rw [this]
        exact br_nd (by omega) hk
  exact ⟨_, go t.length 0 [] (by omega) (by omega) (by simp)⟩
-- spec.ParseTrace
def T1_spec_ParseTrace (parseInt34r0 : Int) (s0 : ByteArray) (splitAt15 : List ByteArray) (xi6 : Int) (xn10 : Int) (xk12 : Int) (xout4' : List Int) (B0 : Int → List Int → Prop) (B1 : Int → Int → List Int → Prop) : Prop :=
  br (decide (xk12 < xn10))
  ((xout4'.length + 1 ≤ 1000000000) ∧
    InR (xk12 + 1) ∧
    B1 xn10 (xk12 + 1) (xout4' ++ ([parseInt34r0] : List Int)))
  (InR (xi6 + 1) ∧
    B0 (xi6 + 1) xout4')
def L1_spec_ParseTrace (parseInt34r0 : Int) (s0 : ByteArray) (splitAt15 : List ByteArray) (xi6 : Int) (k : List Int → Bool → Prop) (B0 : Int → List Int → Prop) : Nat → Int → Int → List Int → Prop
  | 0, _, _, _ => False
  | n + 1, xn10, xk12, xout4' => T1_spec_ParseTrace parseInt34r0 s0 splitAt15 xi6 xn10 xk12 xout4' B0 (L1_spec_ParseTrace parseInt34r0 s0 splitAt15 xi6 k B0 n)
def T0_spec_ParseTrace (s0 : ByteArray) (splitAt15 : List ByteArray) (xi6 : Int) (xout4 : List Int) (k : List Int → Bool → Prop) (I1 : Int → ByteArray → List ByteArray → Int → Int → Int → List Int → Prop) : Prop :=
  br (decide (xi6 < (splitAt15.length : Int)))
  ((0 ≤ xi6 ∧ xi6 < (splitAt15.length : Int)) ∧
    F_spec_splitAt (List.getD splitAt15 (Int.toNat xi6) ByteArray.empty) (42 : Int) fun splitAt29 =>
    (0 ≤ (0 : Int) ∧ 0 < (splitAt29.length : Int)) ∧
    F_spec_parseInt (List.getD splitAt29 0 ByteArray.empty) fun parseInt34r0 parseInt34r1 =>
    br ((splitAt29.length : Int) == 2)
    ((0 ≤ (1 : Int) ∧ 1 < (splitAt29.length : Int)) ∧
      F_spec_parseInt (List.getD splitAt29 1 ByteArray.empty) fun parseInt44r0 parseInt44r1 =>
      br (!parseInt34r1)
      (k ([] : List Int) false)
      (br (!parseInt44r1)
        (k ([] : List Int) false)
        (br (decide ((splitAt29.length : Int) > 2))
          (k ([] : List Int) false)
          (F_spec_inRange parseInt44r0 (1 : Int) (24 : Int) fun inRange60 =>
            br (!inRange60)
            (k ([] : List Int) false)
            (I1 parseInt34r0 s0 splitAt15 xi6 parseInt44r0 0 xout4)))))
    (br (!parseInt34r1)
      (k ([] : List Int) false)
      (br (decide ((splitAt29.length : Int) > 2))
        (k ([] : List Int) false)
        (F_spec_inRange (1 : Int) (1 : Int) (24 : Int) fun inRange60 =>
          br (!inRange60)
          (k ([] : List Int) false)
          (I1 parseInt34r0 s0 splitAt15 xi6 1 0 xout4)))))
  (F_spec_validTrace xout4 fun validTrace73 =>
    br (!validTrace73)
    (k ([] : List Int) false)
    (F_spec_formatTrace xout4 fun formatTrace77 =>
      br (!(ByteArray.toList formatTrace77 == ByteArray.toList s0))
      (k ([] : List Int) false)
      (k xout4 true)))
def L0_spec_ParseTrace (s0 : ByteArray) (splitAt15 : List ByteArray) (k : List Int → Bool → Prop) : Nat → Int → List Int → Prop
  | 0, _, _ => False
  | n + 1, xi6, xout4 => T0_spec_ParseTrace s0 splitAt15 xi6 xout4 k (fun parseInt34r0 s0 splitAt15 xi6 xn10 xk12 xout4' => ∃ j, L1_spec_ParseTrace parseInt34r0 s0 splitAt15 xi6 k (L0_spec_ParseTrace s0 splitAt15 k n) j xn10 xk12 xout4')
def G_spec_ParseTrace (s0 : ByteArray) (k : List Int → Bool → Prop) (I0 : ByteArray → List ByteArray → Int → List Int → Prop) : Prop :=
  F_spec_splitAt s0 (32 : Int) fun splitAt15 =>
  br (decide ((splitAt15.length : Int) > 24))
  (k ([] : List Int) false)
  (I0 s0 splitAt15 0 ([] : List Int))
def S_spec_ParseTrace (s0 : ByteArray) (k : List Int → Bool → Prop) : Prop := G_spec_ParseTrace s0 k (fun s0 splitAt15 xi6 xout4 => ∃ j, L0_spec_ParseTrace s0 splitAt15 k j xi6 xout4)
def F_spec_ParseTrace (s : ByteArray) (k : List Int → Bool → Prop) : Prop := ∃ a, (BS a ∧ s = strOfNums a ∧ a.length ≤ 10000000) ∧ (∀ t, TextB a t → k t true) ∧ ((¬ ∃ t, TextB a t) → k [] false)
theorem F_spec_ParseTrace_S {s : ByteArray} {k : List Int → Bool → Prop} (h : F_spec_ParseTrace s k) : S_spec_ParseTrace s k := by
  obtain ⟨a, ⟨hb, rfl, hl⟩, hyes, hno⟩ := h
  have no : (∀ t, TextB a t → False) → k [] false := fun h => hno fun ⟨t, ht⟩ => h t ht
  have hsl := splitB_len 32 a
  have hsn := splitB_ne 32 a
  have hsw := fun w => splitB_BS (c := 32) (w := w) hb
  have htw := fun t (ht : TextB a t) => ht.words
  refine ⟨a, ⟨hb, rfl, by omega⟩, ?_⟩
  generalize splitB 32 a = W at *
  refine br_dec.2 ⟨fun c => no fun t ht => ?_, fun c24 => ?_⟩
  · have := grp_len t
    have := ht.1.1
    rw [List.length_map, htw t ht, List.length_map] at c; omega
  rw [List.length_map] at c24
  have hW : 0 < W.length := Nat.pos_of_ne_zero fun e => hsn (List.eq_nil_of_length_eq_zero e)
  have go : ∀ (m i : Nat) (out : List Int), i + m = W.length → (∀ t, TextB a t → out = expG ((grp t).take i)) → out.length ≤ 24 * i → (0 < i → out ≠ []) → L0_spec_ParseTrace (strOfNums a) (W.map strOfNums) k (m + 1) (i : Int) out := by
    intro m
    induction m with
    | zero =>
      intro i out hi hout ho hne
      have full : ∀ t, TextB a t → out = t := fun t ht => by
        have := hout t ht
        rw [List.take_of_length_le (by have := htw t ht; rw [this, List.length_map] at hi; omega), expG_grp] at this
        exact this
      rw [L0_spec_ParseTrace, T0_spec_ParseTrace]
      refine br_nd (by rw [List.length_map]; omega) fun b hv => br_not.2 (br_iff.2 ⟨fun e => ?_, fun e => no fun t ht => ?_⟩)
      · have v := hv.1 e
        have v1 := v.1
        refine ⟨⟨by omega, fun x hx => by have := v.2 x hx; omega⟩, ?_⟩
        show br (!(ByteArray.toList (strOfNums (fmtM out)) == ByteArray.toList (strOfNums a))) _ _
        rw [str_eq (fmtM_BS _) hb]
        exact br_not.2 (br_dec.2 ⟨fun e2 => hyes out ⟨v, hne (by omega), e2⟩, fun e2 => no fun t ht => e2 (by rw [full t ht]; exact ht.2.2)⟩)
      · rw [full t ht] at hv
        rw [hv.2 ht.1] at e; cases e
    | succ m ih =>
      intro i out hi hout ho hne
      rw [L0_spec_ParseTrace, T0_spec_ParseTrace]
      have hiW : i < W.length := by omega
      have hw : (W.map strOfNums).getD i ByteArray.empty = strOfNums W[i] := by
        rw [List.getD_eq_getElem?_getD, List.getElem?_map, List.getElem?_eq_getElem hiW]; rfl
      obtain ⟨hwb, hwl⟩ := hsw _ (List.getElem_mem hiW)
      rw [Int.toNat_natCast, hw]
      have hV := splitB_ne 42 W[i]
      have hVl := splitB_len 42 W[i]
      have hVw := fun w => splitB_BS (c := 42) (w := w) hwb
      -- what a text says of this word
      have say : ∀ t, TextB a t → ∃ g : Int × Nat, (grp t)[i]? = some g ∧ ((0 ≤ g.1 ∧ g.1 ≤ 31) ∧ 1 ≤ g.2 ∧ g.2 ≤ 24) ∧ splitB 42 W[i] = if 1 < g.2 then [decB g.1, decB (g.2 : Int)] else [decB g.1] := by
        intro t ht
        have e := htw t ht
        have hig : i < (grp t).length := by rw [e, List.length_map] at hiW; exact hiW
        refine ⟨(grp t)[i], List.getElem?_eq_getElem hig, ht.group (List.getElem_mem hig), ?_⟩
        have : W[i] = wordM (grp t)[i] := by simp [e]
        rw [this, split_word]
      refine br_yd (by rw [List.length_map]; omega) ⟨⟨by omega, by rw [List.length_map]; omega⟩, W[i], ⟨hwb, rfl, by omega⟩, ?_⟩
      generalize splitB 42 W[i] = V at *
      have hV0 : 0 < V.length := Nat.pos_of_ne_zero fun e => hV (List.eq_nil_of_length_eq_zero e)
      have g0 : (V.map strOfNums).getD 0 ByteArray.empty = strOfNums V[0] := by
        rw [List.getD_eq_getElem?_getD, List.getElem?_map, List.getElem?_eq_getElem hV0]; rfl
      rw [g0, List.length_map]
      obtain ⟨hb0, hl0⟩ := hVw _ (List.getElem_mem hV0)
      -- the next word
      have next : ∀ (n0 : Int) (n1 : Nat), 1 ≤ n1 → n1 ≤ 24 → (∀ t g, TextB a t → (grp t)[i]? = some g → g = (n0, n1)) → ∃ j, L1_spec_ParseTrace n0 (strOfNums a) (W.map strOfNums) (i : Int) k (L0_spec_ParseTrace (strOfNums a) (W.map strOfNums) k (m + 1)) j (n1 : Int) 0 out := by
        intro n0 n1 h1 h2 hg
        have after := ih (i + 1) (out ++ List.replicate n1 n0) (by omega) (fun t ht => by
          obtain ⟨g, hgi, _, _⟩ := say t ht
          have e := hg t g ht hgi
          rw [List.take_add_one, hgi]
          show _ = expG (_ ++ [g])
          rw [expG_snoc, e, hout t ht]) (by rw [List.length_append, List.length_replicate]; omega) (fun _ e => by
          have := congrArg List.length e
          rw [List.length_append, List.length_replicate, List.length_nil] at this; omega)
        have inner : ∀ (d q : Nat), q + d = n1 → L1_spec_ParseTrace n0 (strOfNums a) (W.map strOfNums) (i : Int) k (L0_spec_ParseTrace (strOfNums a) (W.map strOfNums) k (m + 1)) (d + 1) (n1 : Int) (q : Int) (out ++ List.replicate q n0) := by
          intro d
          induction d with
          | zero =>
            intro q hq
            rw [L1_spec_ParseTrace, T1_spec_ParseTrace]
            rw [show q = n1 by omega]
            exact br_nd (by omega) ⟨inR (by omega) (by omega), after⟩
          | succ d ihd =>
            intro q hq
            have nx := ihd (q + 1) (by omega)
            rw [List.replicate_succ', ← List.append_assoc] at nx
            rw [L1_spec_ParseTrace, T1_spec_ParseTrace]
            exact br_yd (by omega) ⟨by rw [List.length_append, List.length_replicate]; omega, inR (by omega) (by omega), nx⟩
        exact ⟨_, by have := inner n1 0 (by omega); simpa using this⟩
      have first : ∀ t, TextB a t → ∃ g : Int × Nat, (grp t)[i]? = some g ∧ NumB V[0] g.1 := by
        intro t ht
        obtain ⟨g, hgi, hr, e⟩ := say t ht
        refine ⟨g, hgi, ?_⟩
        have : V[0] = decB g.1 := by
          have h2 := congrArg (fun l => l.getD 0 []) e
          have h3 : V.getD 0 [] = V[0] := by rw [List.getD_eq_getElem?_getD, List.getElem?_eq_getElem hV0]; rfl
          rw [← h3]
          refine h2.trans ?_
          show (if 1 < g.2 then [decB g.1, decB (g.2 : Int)] else [decB g.1]).getD 0 [] = _
          by_cases q : 1 < g.2
          · rw [if_pos q]; rfl
          · rw [if_neg q]; rfl
        rw [this]; exact NumB.of (by omega)
      refine ⟨⟨by omega, by omega⟩, V[0], ⟨hb0, rfl, by omega⟩, fun n0 h0 => ?_, fun hn => ?_⟩
      · refine br_beq.2 ⟨fun c2 => ⟨⟨by omega, by omega⟩, ?_⟩, fun c2 => br_nt (br_dec.2 ⟨fun c3 => no fun t ht => ?_, fun c3 => ?_⟩)⟩
        · have hV1 : 1 < V.length := by omega
          have g1 : (V.map strOfNums).getD 1 ByteArray.empty = strOfNums V[1] := by
            rw [List.getD_eq_getElem?_getD, List.getElem?_map, List.getElem?_eq_getElem hV1]; rfl
          rw [g1]
          obtain ⟨hb1, hl1⟩ := hVw _ (List.getElem_mem hV1)
          have second : ∀ t, TextB a t → ∃ g : Int × Nat, (grp t)[i]? = some g ∧ NumB V[1] (g.2 : Int) ∧ 1 < g.2 ∧ g.2 ≤ 24 := by
            intro t ht
            obtain ⟨g, hgi, hr, e⟩ := say t ht
            have hg2 : 1 < g.2 := Nat.lt_of_not_le fun c => by
              rw [if_neg (by omega)] at e
              have := congrArg List.length e
              rw [List.length_singleton] at this; omega
            rw [if_pos hg2] at e
            refine ⟨g, hgi, ?_, hg2, hr.2.2⟩
            have : V[1] = decB (g.2 : Int) := by
              have h2 := congrArg (fun l => l.getD 1 []) e
              have h3 : V.getD 1 [] = V[1] := by rw [List.getD_eq_getElem?_getD, List.getElem?_eq_getElem hV1]; rfl
              rw [← h3]; exact h2
            rw [this]; exact NumB.of (by omega)
          refine ⟨V[1], ⟨hb1, rfl, by omega⟩, fun n1 h1 => br_nt (br_nt (br_nd (by omega) (br_not.2 (br_dec.2 ⟨fun r => ?_, fun r => no fun t ht => ?_⟩)))), fun hn => br_nt (br_nf (no fun t ht => ?_))⟩
          · have e1 : n1 = (n1.toNat : Int) := by omega
            have := next n0 n1.toNat (by omega) (by omega) fun t g ht hgi => by
              obtain ⟨g', hgi', h2⟩ := first t ht
              obtain ⟨g'', hgi'', h3, _⟩ := second t ht
              rw [hgi] at hgi' hgi''
              injection hgi' with hgi'; subst hgi'
              injection hgi'' with hgi''; subst hgi''
              have q1 := h0.one h2
              have q2 := h1.one h3
              obtain ⟨x, y⟩ := g
              simp only at q1 q2 ⊢
              rw [q1]; congr 1; omega
            rwa [← e1] at this
          · obtain ⟨g, _, h3, h4, h5⟩ := second t ht
            have := h1.one h3
            exact r (by omega)
          · obtain ⟨g, _, h3, _⟩ := second t ht
            exact hn ⟨_, h3⟩
        · obtain ⟨g, hgi, hr, e⟩ := say t ht
          have := congrArg List.length e
          split at this <;> simp at this <;> omega
        · show br (!decide ((1 : Int) ≤ 1 ∧ (1 : Int) ≤ 24)) (k [] false) _
          rw [decide_eq_true (show (1 : Int) ≤ 1 ∧ (1 : Int) ≤ 24 by omega)]
          refine br_nt ?_
          have := next n0 1 (by omega) (by omega) fun t g ht hgi => by
            obtain ⟨g', hgi', h2⟩ := first t ht
            obtain ⟨g'', hgi'', hr, e⟩ := say t ht
            rw [hgi] at hgi' hgi''
            injection hgi' with hgi'; subst hgi'
            injection hgi'' with hgi''; subst hgi''
            have q1 := h0.one h2
            have q2 : ¬ 1 < g.2 := fun c => by
              rw [if_pos c] at e
              have := congrArg List.length e
              simp at this; omega
            obtain ⟨x, y⟩ := g
            simp only at q1 q2 hr ⊢
            rw [q1]; congr 1; omega
          exact this
      · have bad : ∀ t, TextB a t → False := fun t ht => by
          obtain ⟨g, _, h2⟩ := first t ht
          exact hn ⟨_, h2⟩
        refine br_beq.2 ⟨fun c2 => ⟨⟨by omega, by omega⟩, ?_⟩, fun c2 => br_nf (no bad)⟩
        have hV1 : 1 < V.length := by omega
        have g1 : (V.map strOfNums).getD 1 ByteArray.empty = strOfNums V[1] := by
          rw [List.getD_eq_getElem?_getD, List.getElem?_map, List.getElem?_eq_getElem hV1]; rfl
        rw [g1]
        obtain ⟨hb1, hl1⟩ := hVw _ (List.getElem_mem hV1)
        exact ⟨V[1], ⟨hb1, rfl, by omega⟩, fun n1 h1 => br_nf (no bad), fun hn => br_nf (no bad)⟩
  exact ⟨_, go W.length 0 [] (by omega) (fun t ht => by simp [expG]) (by simp) (by omega)⟩
-- internal/stringslite.Index
def F_internal_stringslite_Index (s sep : ByteArray) (k : Int → Prop) : Prop :=
  ∃ a c, (BS a ∧ s = strOfNums a) ∧ ((0 ≤ c ∧ c ≤ 255) ∧ sep = strOfNums [c]) ∧ k (findB c a)
-- internal/stringslite.Cut
def G_internal_stringslite_Cut (s0 : ByteArray) (sep1 : ByteArray) (k : ByteArray → ByteArray → Bool → Prop) : Prop :=
  F_internal_stringslite_Index s0 sep1 fun index10 =>
  br (decide (index10 ≥ 0))
  ((0 ≤ index10 ∧ index10 ≤ ((ByteArray.size s0) : Int)) ∧
    InR (index10 + ((ByteArray.size sep1) : Int)) ∧
    (0 ≤ (index10 + ((ByteArray.size sep1) : Int)) ∧ (index10 + ((ByteArray.size sep1) : Int)) ≤ ((ByteArray.size s0) : Int)) ∧
    k (ByteArray.extract s0 0 (Int.toNat index10)) (ByteArray.extract s0 (Int.toNat (index10 + ((ByteArray.size sep1) : Int))) (ByteArray.size s0)) true)
  (k s0 (strOfNums []) false)
def S_internal_stringslite_Cut (s0 : ByteArray) (sep1 : ByteArray) (k : ByteArray → ByteArray → Bool → Prop) : Prop := G_internal_stringslite_Cut s0 sep1 k
def F_internal_stringslite_Cut (s sep : ByteArray) (k : ByteArray → ByteArray → Bool → Prop) : Prop :=
  ∃ a c, (BS a ∧ s = strOfNums a ∧ a.length ≤ 1000000000) ∧ ((0 ≤ c ∧ c ≤ 255) ∧ sep = strOfNums [c]) ∧ (∀ u v, (∀ x ∈ u, x ≠ c) → a = u ++ c :: v → k (strOfNums u) (strOfNums v) true) ∧ ((∀ x ∈ a, x ≠ c) → k (strOfNums a) (strOfNums []) false)
theorem F_internal_stringslite_Cut_S {s sep : ByteArray} {k : ByteArray → ByteArray → Bool → Prop} (h : F_internal_stringslite_Cut s sep k) : S_internal_stringslite_Cut s sep k := by
  obtain ⟨a, c, ⟨hb, rfl, hl⟩, ⟨hc, rfl⟩, hyes, hno⟩ := h
  refine ⟨a, c, ⟨hb, rfl⟩, ⟨hc, rfl⟩, ?_⟩
  rcases findB_cases c a with ⟨e, hn⟩ | ⟨u, v, hn, rfl, e⟩
  · rw [e]
    exact br_nd (by omega) (hno hn)
  · rw [e]
    rw [List.length_append, List.length_cons] at hl
    have e1 : ((u.length : Int) + (([c] : List Int).length : Int)).toNat = u.length + 1 := by rw [List.length_singleton]; omega
    simp only [str_size, str_extract, Int.toNat_natCast, e1]
    refine br_yd (by omega) ⟨⟨by omega, by rw [List.length_append, List.length_cons]; omega⟩, inR (by rw [List.length_singleton]; omega) (by rw [List.length_singleton]; omega), ⟨by rw [List.length_singleton]; omega, by rw [List.length_singleton, List.length_append, List.length_cons]; omega⟩, ?_⟩
    have h1 : ((u ++ c :: v).take u.length).drop 0 = u := by simp
    have h2 : ((u ++ c :: v).take (u ++ c :: v).length).drop (u.length + 1) = v := by
      rw [List.take_length, List.drop_append]; simp
    rw [h1, h2]
    exact hyes u v hn rfl
-- strings.Cut
def G_strings_Cut (s0 : ByteArray) (sep1 : ByteArray) (k : ByteArray → ByteArray → Bool → Prop) : Prop :=
  F_internal_stringslite_Cut s0 sep1 fun cut9r0 cut9r1 cut9r2 =>
  k cut9r0 cut9r1 cut9r2
def S_strings_Cut (s0 : ByteArray) (sep1 : ByteArray) (k : ByteArray → ByteArray → Bool → Prop) : Prop := G_strings_Cut s0 sep1 k
abbrev F_strings_Cut (s sep : ByteArray) (k : ByteArray → ByteArray → Bool → Prop) : Prop := F_internal_stringslite_Cut s sep k
theorem F_strings_Cut_S {s sep : ByteArray} {k : ByteArray → ByteArray → Bool → Prop} (h : F_strings_Cut s sep k) : S_strings_Cut s sep k := h
-- strconv.Atoi
def F_strconv_Atoi (s : ByteArray) (k : Int → Value → Prop) : Prop :=
  ∃ a, (BS a ∧ s = strOfNums a ∧ a.length ≤ 1000000000) ∧ ∀ (v : Int) (e : Value), InR v → (∀ n : Int, 0 ≤ n ∧ n ≤ 31 → a = decB n → v = n) → (a = [] → v = 0) → k v e
-- impl.parseRun
def G_impl_parseRun (word0 : ByteArray) (k : Int → Int → Prop) : Prop :=
  F_strings_Cut word0 (strOfNums [42]) fun cut13r0 cut13r1 cut13r2 =>
  br (!cut13r2)
  (F_strconv_Atoi cut13r0 fun atoi21r0 atoi21r1 =>
    F_strconv_Atoi (strOfNums [49]) fun atoi26r0 atoi26r1 =>
    k atoi21r0 atoi26r0)
  (F_strconv_Atoi cut13r0 fun atoi21r0 atoi21r1 =>
    F_strconv_Atoi cut13r1 fun atoi26r0 atoi26r1 =>
    k atoi21r0 atoi26r0)
def S_impl_parseRun (word0 : ByteArray) (k : Int → Int → Prop) : Prop := G_impl_parseRun word0 k
def F_impl_parseRun (s : ByteArray) (k : Int → Int → Prop) : Prop :=
  ∃ a, (BS a ∧ s = strOfNums a ∧ a.length ≤ 1000000000) ∧ ∀ (x n : Int), (InR x ∧ InR n) → (∀ g : Int × Nat, ((0 ≤ g.1 ∧ g.1 ≤ 31) ∧ 1 ≤ g.2 ∧ g.2 ≤ 24) → a = wordM g → x = g.1 ∧ n = (g.2 : Int)) → (a = [] → x = 0 ∧ n = 1) → k x n
theorem F_impl_parseRun_S {s : ByteArray} {k : Int → Int → Prop} (h : F_impl_parseRun s k) : S_impl_parseRun s k := by
  obtain ⟨a, ⟨hb, rfl, hl⟩, hk⟩ := h
  refine ⟨a, 42, ⟨hb, rfl, hl⟩, ⟨by omega, rfl⟩, fun u v hn e => ?_, fun hn => ?_⟩
  · subst e
    rw [List.length_append, List.length_cons] at hl
    have hu : BS u := fun x hx => hb x (List.mem_append_left _ hx)
    have hv : BS v := fun x hx => hb x (List.mem_append_right _ (List.mem_cons_of_mem _ hx))
    refine br_nt ⟨u, ⟨hu, rfl, by omega⟩, fun x e1 ix hx _ => ⟨v, ⟨hv, rfl, by omega⟩, fun n e2 inn hn2 _ => hk x n ⟨ix, inn⟩ (fun g hg he => ?_) fun e => by simp at e⟩⟩
    have hs := split_word g
    rw [← he, splitB_app hn] at hs
    by_cases c : 1 < g.2
    · rw [if_pos c] at hs
      injection hs with h1 h2
      have h3 : v = decB (g.2 : Int) := by
        cases hq : splitB 42 v with
        | nil => exact absurd hq (splitB_ne 42 v)
        | cons w ws =>
          rw [hq] at h2
          injection h2 with h2 h4
          subst h4; subst h2
          exact splitB_single hq
      exact ⟨hx g.1 ⟨hg.1.1, hg.1.2⟩ h1, hn2 (g.2 : Int) ⟨by omega, by omega⟩ h3⟩
    · rw [if_neg c] at hs
      injection hs with h1 h2
      exact absurd h2 (splitB_ne 42 v)
  · refine br_nf ⟨a, ⟨hb, rfl, hl⟩, fun x e1 ix hx h0 => ⟨[49], ⟨BS.one (by omega), rfl, by simp⟩, fun n e2 inn hn2 _ => hk x n ⟨ix, inn⟩ (fun g hg he => ?_) fun e => ⟨h0 e, hn2 1 ⟨by omega, by omega⟩ (by decide)⟩⟩⟩
    have hs := split_word g
    rw [← he, splitB_none hn] at hs
    by_cases c : 1 < g.2
    · rw [if_pos c] at hs
      have := congrArg List.length hs
      simp at this
    · rw [if_neg c] at hs
      injection hs with h1 _
      refine ⟨hx g.1 ⟨hg.1.1, hg.1.2⟩ h1, ?_⟩
      rw [hn2 1 ⟨by omega, by omega⟩ (by decide)]
      omega
-- impl.validKey
def G_impl_validKey (key0 : Int) (k : Bool → Prop) : Prop :=
  br (decide (0 ≤ key0))
  (k (decide (key0 ≤ 31)))
  (k false)
def S_impl_validKey (key0 : Int) (k : Bool → Prop) : Prop := G_impl_validKey key0 k
def F_impl_validKey (n : Int) (k : Bool → Prop) : Prop := k (decide (0 ≤ n ∧ n ≤ 31))
theorem F_impl_validKey_S {n : Int} {k : Bool → Prop} (h : F_impl_validKey n k) : S_impl_validKey n k := by
  unfold F_impl_validKey at h
  simp only [S_impl_validKey, G_impl_validKey, br_dec]
  refine ⟨fun h1 => ?_, fun h1 => ?_⟩
  · simpa [h1] using h
  · simpa [h1] using h
-- impl.ValidTrace
def T0_impl_ValidTrace (t0 : List Int) (xt9 : Int) (xt10 : Int) (k : Bool → Prop) (B0 : Int → Prop) : Prop :=
  br (decide (xt10 < xt9))
  ((0 ≤ xt10 ∧ xt10 < (t0.length : Int)) ∧
    F_impl_validKey (List.getD t0 (Int.toNat xt10) (0 : Int)) fun validKey15 =>
    br (!validKey15)
    (k false)
    (InR (xt10 + 1) ∧
      B0 (xt10 + 1)))
  (k true)
def L0_impl_ValidTrace (t0 : List Int) (xt9 : Int) (k : Bool → Prop) : Nat → Int → Prop
  | 0, _ => False
  | n + 1, xt10 => T0_impl_ValidTrace t0 xt9 xt10 k (L0_impl_ValidTrace t0 xt9 k n)
def G_impl_ValidTrace (t0 : List Int) (k : Bool → Prop) (I0 : List Int → Int → Int → Prop) : Prop :=
  br (decide ((t0.length : Int) > 24))
  (k false)
  (I0 t0 (t0.length : Int) 0)
def S_impl_ValidTrace (t0 : List Int) (k : Bool → Prop) : Prop := G_impl_ValidTrace t0 k (fun t0 xt9 xt10 => ∃ j, L0_impl_ValidTrace t0 xt9 k j xt10)
def F_impl_ValidTrace (t : List Int) (k : Bool → Prop) : Prop := ∀ b : Bool, (b = true ↔ VTrace t) → k b
theorem F_impl_ValidTrace_S {t : List Int} {k : Bool → Prop} (h : F_impl_ValidTrace t k) : S_impl_ValidTrace t k := by
  have hno : ¬ VTrace t → k false := fun hv => h false (by simp [hv])
  have key : t.length ≤ 24 → ∀ (r : List Int) (i : Nat), t.drop i = r → (∀ x ∈ t.take i, 0 ≤ x ∧ x ≤ 31) → L0_impl_ValidTrace t (t.length : Int) k (r.length + 1) (i : Int) := by
    intro hl r
    induction r with
    | nil =>
      intro i hd he
      have := drop_nil' hd
      rw [List.take_of_length_le this] at he
      rw [L0_impl_ValidTrace, T0_impl_ValidTrace]
      simp only [br_dec]
      exact ⟨fun h => by omega, fun _ => h true (by simp only [true_iff]; exact ⟨hl, he⟩)⟩
    | cons x r ih =>
      intro i hd he
      obtain ⟨h1, h2, h5, h3, h4⟩ := drop_cons' hd
      rw [List.length_cons, L0_impl_ValidTrace, T0_impl_ValidTrace]
      simp only [br_dec, F_impl_validKey, Int.toNat_natCast, h2, br_not]
      refine ⟨fun _ => ⟨⟨by omega, by omega⟩, fun hx => ⟨inR (by omega) (by omega), ih (i + 1) h3 ?_⟩, fun hx => hno fun v => hx (v.2 x (List.mem_of_getElem? h5))⟩, fun h => by omega⟩
      rw [h4]; intro y hy
      rcases List.mem_append.1 hy with hy | hy
      · exact he y hy
      · simp at hy; subst hy; exact hx
  exact br_dec.2 ⟨fun h3 => hno fun v => by have := v.1; omega, fun h3 => ⟨_, key (by omega) t 0 rfl (by simp)⟩⟩
-- impl.firstRun
def T0_impl_firstRun (t0 : List Int) (xt6 : Int) (xt7 : Int) (k : Int → Prop) (B0 : Int → Prop) : Prop :=
  br (decide (xt7 < xt6))
  ((0 ≤ xt7 ∧ xt7 < (t0.length : Int)) ∧
    (0 ≤ (0 : Int) ∧ 0 < (t0.length : Int)) ∧
    br ((List.getD t0 (Int.toNat xt7) (0 : Int)) != (List.getD t0 0 (0 : Int)))
    (k xt7)
    (InR (xt7 + 1) ∧
      B0 (xt7 + 1)))
  (k (t0.length : Int))
def L0_impl_firstRun (t0 : List Int) (xt6 : Int) (k : Int → Prop) : Nat → Int → Prop
  | 0, _ => False
  | n + 1, xt7 => T0_impl_firstRun t0 xt6 xt7 k (L0_impl_firstRun t0 xt6 k n)
def G_impl_firstRun (t0 : List Int) (I0 : List Int → Int → Int → Prop) : Prop :=
  I0 t0 (t0.length : Int) 0
def S_impl_firstRun (t0 : List Int) (k : Int → Prop) : Prop := G_impl_firstRun t0 (fun t0 xt6 xt7 => ∃ j, L0_impl_firstRun t0 xt6 k j xt7)
def F_impl_firstRun (t : List Int) (k : Int → Prop) : Prop := (t ≠ [] ∧ t.length ≤ 1000000000) ∧ k (runN t : Int)
theorem F_impl_firstRun_S {t : List Int} {k : Int → Prop} (h : F_impl_firstRun t k) : S_impl_firstRun t k := by
  obtain ⟨⟨hne, hl⟩, hk⟩ := h
  obtain ⟨x, r, rfl⟩ : ∃ x r, t = x :: r := by
    cases t with
    | nil => exact absurd rfl hne
    | cons x r => exact ⟨x, r, rfl⟩
  have hp := runN_pos x r
  have hsame := runN_same x r
  have hstop := runN_stop x r
  rw [List.length_cons] at hl
  have go : ∀ (m i : Nat), i + m = runN (x :: r) → L0_impl_firstRun (x :: r) ((x :: r).length : Int) k (m + 1) (i : Int) := by
    intro m
    induction m with
    | zero =>
      intro i hi
      rw [L0_impl_firstRun, T0_impl_firstRun]
      simp only [Int.toNat_natCast]
      have hi : i = runN (x :: r) := by omega
      refine br_dec.2 ⟨fun c => ⟨⟨by omega, by omega⟩, ⟨by omega, by rw [List.length_cons]; omega⟩, br_bne.2 ⟨fun _ => by rw [hi]; exact hk, fun e => ?_⟩⟩, fun c => ?_⟩
      · rw [List.length_cons] at c
        exact absurd e (by rw [hi]; exact hstop (by omega))
      · rw [List.length_cons] at c ⊢
        rw [show ((r.length + 1 : Nat) : Int) = (runN (x :: r) : Int) by omega]; exact hk
    | succ m ih =>
      intro i hi
      have next := ih (i + 1) (by omega)
      rw [L0_impl_firstRun, T0_impl_firstRun]
      simp only [Int.toNat_natCast]
      refine br_yd (by rw [List.length_cons]; omega) ⟨⟨by omega, by rw [List.length_cons]; omega⟩, ⟨by omega, by rw [List.length_cons]; omega⟩, br_bne.2 ⟨fun e => absurd (hsame i (by omega)) e, fun _ => ⟨inR (by omega) (by omega), next⟩⟩⟩
  exact ⟨_, go (runN (x :: r)) 0 (by omega)⟩
-- strconv.Itoa
def F_strconv_Itoa (n : Int) (k : ByteArray → Prop) : Prop := (0 ≤ n ∧ n ≤ 99) ∧ k (strOfNums (decB n))
-- impl.runWord
def G_impl_runWord (key0 : Int) (count1 : Int) (k : ByteArray → Prop) : Prop :=
  br (count1 == 1)
  (F_strconv_Itoa key0 fun itoa8 =>
    k itoa8)
  (F_strconv_Itoa key0 fun itoa10 =>
    (ByteArray.size itoa10 + ByteArray.size (strOfNums [42]) ≤ 1000000000) ∧
    F_strconv_Itoa count1 fun itoa13 =>
    (ByteArray.size (itoa10 ++ (strOfNums [42])) + ByteArray.size itoa13 ≤ 1000000000) ∧
    k ((itoa10 ++ (strOfNums [42])) ++ itoa13))
def S_impl_runWord (key0 : Int) (count1 : Int) (k : ByteArray → Prop) : Prop := G_impl_runWord key0 count1 k
def F_impl_runWord (x n : Int) (k : ByteArray → Prop) : Prop := ((0 ≤ x ∧ x ≤ 31) ∧ 1 ≤ n ∧ n ≤ 24) ∧ k (strOfNums (wordM (x, n.toNat)))
theorem F_impl_runWord_S {x n : Int} {k : ByteArray → Prop} (h : F_impl_runWord x n k) : S_impl_runWord x n k := by
  obtain ⟨⟨⟨x1, x2⟩, n1, n2⟩, hk⟩ := h
  unfold wordM at hk
  refine br_beq.2 ⟨fun e => ⟨⟨by omega, by omega⟩, ?_⟩, fun e => ⟨⟨by omega, by omega⟩, ?_, ⟨by omega, by omega⟩, ?_, ?_⟩⟩
  · rw [if_neg (show ¬ 1 < n.toNat by omega), List.append_nil] at hk; exact hk
  · rw [str_size, str_size]; have := decB_len x; rw [List.length_singleton]; omega
  · rw [str_append, str_size, str_size]
    have h1 := decB_len x
    have h2 := decB_len n
    rw [List.length_append, List.length_singleton]; omega
  · rw [if_pos (show 1 < n.toNat by omega), Int.toNat_of_nonneg (by omega)] at hk
    rw [str_append, str_append, List.append_assoc]; exact hk
-- strings.Join
def F_strings_Join (xs : List ByteArray) (sep : ByteArray) (k : ByteArray → Prop) : Prop :=
  ∃ (W : List (List Int)) (s : List Int), (xs = W.map strOfNums ∧ sep = strOfNums s ∧ W.length ≤ 1000000000 ∧ (joinB s W).length ≤ 1000000000) ∧ k (strOfNums (joinB s W))
-- impl.FormatTrace
def T0_impl_FormatTrace (xleft4 : List Int) (xwords3 : List ByteArray) (k : ByteArray → Prop) (B0 : List Int → List ByteArray → Prop) : Prop :=
  br (decide ((xleft4.length : Int) > 0))
  (F_impl_firstRun xleft4 fun firstRun15 =>
    (0 ≤ (0 : Int) ∧ 0 < (xleft4.length : Int)) ∧
    F_impl_runWord (List.getD xleft4 0 (0 : Int)) firstRun15 fun runWord21 =>
    (xwords3.length + 1 ≤ 1000000000) ∧
    (0 ≤ firstRun15 ∧ firstRun15 ≤ (xleft4.length : Int)) ∧
    B0 (List.drop (Int.toNat firstRun15) xleft4) (xwords3 ++ ([runWord21] : List ByteArray)))
  (F_strings_Join xwords3 (strOfNums [32]) fun join28 =>
    k join28)
def L0_impl_FormatTrace (k : ByteArray → Prop) : Nat → List Int → List ByteArray → Prop
  | 0, _, _ => False
  | n + 1, xleft4, xwords3 => T0_impl_FormatTrace xleft4 xwords3 k (L0_impl_FormatTrace k n)
def G_impl_FormatTrace (t0 : List Int) (k : ByteArray → Prop) (I0 : List Int → List ByteArray → Prop) : Prop :=
  F_impl_ValidTrace t0 fun validTrace7 =>
  br (!validTrace7)
  (k (strOfNums []))
  (I0 t0 ([] : List ByteArray))
def S_impl_FormatTrace (t0 : List Int) (k : ByteArray → Prop) : Prop := G_impl_FormatTrace t0 k (fun xleft4 xwords3 => ∃ j, L0_impl_FormatTrace k j xleft4 xwords3)
def F_impl_FormatTrace (t : List Int) (k : ByteArray → Prop) : Prop := (VTrace t → k (strOfNums (fmtM t))) ∧ (¬ VTrace t → k (strOfNums []))
theorem F_impl_FormatTrace_S {t : List Int} {k : ByteArray → Prop} (h : F_impl_FormatTrace t k) : S_impl_FormatTrace t k := by
  obtain ⟨hyes, hno⟩ := h
  intro b hb
  refine br_not.2 (br_iff.2 ⟨fun e => ?_, fun e => hno fun v => by rw [hb.2 v] at e; cases e⟩)
  have v := hb.1 e
  have v1 := v.1
  have go : ∀ (m : Nat) (l : List Int) (W : List (List Int)), l.length ≤ m → l.length ≤ 24 → (∀ x ∈ l, 0 ≤ x ∧ x ≤ 31) → W.length + l.length ≤ 24 → W ++ (grp l).map wordM = (grp t).map wordM → L0_impl_FormatTrace k (m + 1) l (W.map strOfNums) := by
    intro m
    induction m with
    | zero =>
      intro l W hl h24 hv hW he
      have : l = [] := List.eq_nil_of_length_eq_zero (by omega)
      subst this
      rw [L0_impl_FormatTrace, T0_impl_FormatTrace]
      have e : W = (grp t).map wordM := by rw [← he]; simp [grp]
      have hj := fmtM_len t
      rw [← join_words, ← e] at hj
      refine br_nd (by simp) ⟨W, [32], ⟨rfl, rfl, by omega, by omega⟩, ?_⟩
      rw [e, join_words]; exact hyes v
    | succ m ih =>
      intro l W hl h24 hv hW he
      rw [L0_impl_FormatTrace, T0_impl_FormatTrace]
      cases l with
      | nil =>
        have e : W = (grp t).map wordM := by rw [← he]; simp [grp]
        have hj := fmtM_len t
        rw [← join_words, ← e] at hj
        simp only [List.length_nil] at hW
        refine br_nd (by simp) ⟨W, [32], ⟨rfl, rfl, by omega, by omega⟩, ?_⟩
        rw [e, join_words]; exact hyes v
      | cons x r =>
        have hp := runN_pos x r
        have hx := hv x List.mem_cons_self
        rw [List.length_cons] at h24 hW hl
        refine br_yd (by rw [List.length_cons]; omega) ⟨⟨by simp, by rw [List.length_cons]; omega⟩, ⟨by omega, by rw [List.length_cons]; omega⟩, ⟨⟨⟨hx.1, hx.2⟩, by omega, by omega⟩, by rw [List.length_map]; omega, ⟨by omega, by rw [List.length_cons]; omega⟩, ?_⟩⟩
        rw [Int.toNat_natCast]
        have := ih ((x :: r).drop (runN (x :: r))) (W ++ [wordM (x, runN (x :: r))]) (by rw [List.length_drop, List.length_cons]; omega) (by rw [List.length_drop, List.length_cons]; omega) (fun y hy => hv y (List.mem_of_mem_drop hy)) (by rw [List.length_append, List.length_singleton, List.length_drop, List.length_cons]; omega) (by
          rw [grp_run, List.map_cons] at he
          rw [List.append_assoc]; exact he)
        rw [List.map_append] at this
        exact this
  exact ⟨_, go 24 t [] v1 v1 v.2 (by simpa using v1) rfl⟩
-- impl.ParseTrace
def F_impl_ParseTrace (s : ByteArray) (k : List Int → Bool → Prop) : Prop := ∃ a, (BS a ∧ s = strOfNums a ∧ a.length ≤ 10000000) ∧ (∀ t, TextB a t → k t true) ∧ ((¬ ∃ t, TextB a t) → k [] false)
/-- A key, laid several times. -/
def T0_pt (key cnt i : Int) (out : List Int) (k : List Int → Prop) (B0 : Int → List Int → Prop) : Prop :=
  br (decide (i < cnt)) ((out.length + 1 ≤ 1000000000) ∧ InR (i + 1) ∧ B0 (i + 1) (out ++ ([key] : List Int))) (k out)
def L0_pt (key cnt : Int) (k : List Int → Prop) : Nat → Int → List Int → Prop
  | 0, _, _ => False
  | n + 1, i, out => T0_pt key cnt i out k (L0_pt key cnt k n)
/-- What is done with a word. -/
def R_pt (x : ByteArray) (out : List Int) (k : List Int → Bool → Prop) (K : List Int → Prop) : Prop :=
  F_impl_parseRun x fun key cnt => br (decide (cnt < 1)) (k ([] : List Int) false) (InR (24 - (out.length : Int)) ∧ br (decide (cnt > (24 - (out.length : Int)))) (k ([] : List Int) false) (∃ n, L0_pt key cnt K n 0 out))
/-- What is done behind the words. -/
def D_pt (s : ByteArray) (out : List Int) (k : List Int → Bool → Prop) : Prop :=
  F_impl_FormatTrace out fun txt => br (!(ByteArray.toList txt == ByteArray.toList s)) (k ([] : List Int) false) (k out true)
theorem F_impl_ParseTrace_R {s : ByteArray} {k : List Int → Bool → Prop} (h : F_impl_ParseTrace s k) : ∃ a, (BS a ∧ s = strOfNums a ∧ a.length ≤ 10000000) ∧ ∃ I : List ByteArray → List Int → Prop, I [] [] ∧
    (∀ (pre : List ByteArray) (x : ByteArray) (out : List Int) (K : List Int → Prop), pre ++ [x] <+: (splitB 32 a).map strOfNums → I pre out → (∀ out', I (pre ++ [x]) out' → K out') → R_pt x out k K) ∧
    ∀ out, I ((splitB 32 a).map strOfNums) out → D_pt s out k := by
  obtain ⟨a, ⟨hb, rfl, hl⟩, hyes, hno⟩ := h
  have no : (∀ t, TextB a t → False) → k [] false := fun h => hno fun ⟨t, ht⟩ => h t ht
  have hsn := splitB_ne 32 a
  have hsw := fun w => splitB_BS (c := 32) (w := w) hb
  have htw := fun t (ht : TextB a t) => ht.words
  refine ⟨a, ⟨hb, rfl, hl⟩, fun pre out => out.length ≤ 24 ∧ (pre = [] → out = []) ∧ (pre ≠ [] → out ≠ [] ∧ (a = [] → out = [0])) ∧ ∀ t, TextB a t → out = expG ((grp t).take pre.length), ⟨by simp, fun _ => rfl, fun h => absurd rfl h, fun t ht => by simp [expG]⟩, ?_, ?_⟩
  · intro pre x out K hpre ⟨ho, hnil, hne, hout⟩ hK
    generalize hW : splitB 32 a = W at *
    obtain ⟨r, hr⟩ := hpre
    have hlen := congrArg List.length hr
    rw [List.length_append, List.length_append, List.length_singleton, List.length_map] at hlen
    have hiW : pre.length < W.length := by omega
    have hx : x = strOfNums W[pre.length] := by
      have h1 : (W.map strOfNums)[pre.length]? = some x := by rw [← hr, List.append_assoc, List.getElem?_append_right (by omega)]; simp
      rw [List.getElem?_map, List.getElem?_eq_getElem hiW] at h1
      injection h1 with h1; exact h1.symm
    obtain ⟨hwb, hwl⟩ := hsw _ (List.getElem_mem hiW)
    have say : ∀ t, TextB a t → ∃ g : Int × Nat, (grp t)[pre.length]? = some g ∧ ((0 ≤ g.1 ∧ g.1 ≤ 31) ∧ 1 ≤ g.2 ∧ g.2 ≤ 24) ∧ W[pre.length] = wordM g ∧ expG ((grp t).take (pre.length + 1)) = out ++ List.replicate g.2 g.1 ∧ out.length + g.2 ≤ 24 := by
      intro t ht
      have e := htw t ht
      have hig : pre.length < (grp t).length := by rw [e, List.length_map] at hiW; exact hiW
      have hg := List.getElem?_eq_getElem hig
      have e2 : expG ((grp t).take (pre.length + 1)) = out ++ List.replicate (grp t)[pre.length].2 (grp t)[pre.length].1 := by
        rw [List.take_add_one, hg]
        show expG (_ ++ [(grp t)[pre.length]]) = _
        rw [expG_snoc, ← hout t ht]
      refine ⟨(grp t)[pre.length], hg, ht.group (List.getElem_mem hig), by simp [e], e2, ?_⟩
      have h3 := congrArg List.length e2
      rw [List.length_append, List.length_replicate] at h3
      have h4 := expG_take_len (grp t) (pre.length + 1)
      rw [expG_grp] at h4
      have := ht.1.1
      omega
    refine ⟨W[pre.length], ⟨hwb, hx, by omega⟩, fun key cnt hin hg h0 => ?_⟩
    have same : ∀ t, TextB a t → ∃ g : Int × Nat, (grp t)[pre.length]? = some g ∧ key = g.1 ∧ cnt = (g.2 : Int) ∧ (1 ≤ g.2 ∧ out.length + g.2 ≤ 24) ∧ expG ((grp t).take (pre.length + 1)) = out ++ List.replicate g.2 g.1 := fun t ht => by
      obtain ⟨g, h1, h2, h3, h4, h5⟩ := say t ht
      obtain ⟨h6, h7⟩ := hg g h2 h3
      exact ⟨g, h1, h6, h7, ⟨h2.2.1, h5⟩, h4⟩
    refine br_dec.2 ⟨fun c => no fun t ht => ?_, fun c => ⟨inR (by omega) (by omega), br_dec.2 ⟨fun c2 => no fun t ht => ?_, fun c2 => ?_⟩⟩⟩
    · obtain ⟨g, _, _, h7, h8, _⟩ := same t ht
      omega
    · obtain ⟨g, _, _, h7, h8, _⟩ := same t ht
      omega
    · obtain ⟨m, rfl⟩ : ∃ m : Nat, cnt = m := ⟨cnt.toNat, by omega⟩
      have fin : K (out ++ List.replicate m key) := hK _ ⟨by rw [List.length_append, List.length_replicate]; omega, fun e => absurd e (by simp), fun _ => ⟨fun e => by
          have := congrArg List.length e
          rw [List.length_append, List.length_replicate, List.length_nil] at this; omega, fun e => ?_⟩, fun t ht => ?_⟩
      · have inner : ∀ (d q : Nat), q + d = m → L0_pt key (m : Int) K (d + 1) (q : Int) (out ++ List.replicate q key) := by
          intro d
          induction d with
          | zero =>
            intro q hq
            rw [L0_pt, T0_pt, show q = m by omega]
            exact br_nd (by omega) fin
          | succ d ihd =>
            intro q hq
            have nx := ihd (q + 1) (by omega)
            rw [List.replicate_succ', ← List.append_assoc] at nx
            rw [L0_pt, T0_pt]
            exact br_yd (by omega) ⟨by rw [List.length_append, List.length_replicate]; omega, inR (by omega) (by omega), nx⟩
        exact ⟨_, by have := inner m 0 (by omega); simpa using this⟩
      · have hW1 : W = [[]] := by rw [← hW, e]; rfl
        have hp0 : pre = [] := List.eq_nil_of_length_eq_zero (by rw [hW1, List.length_singleton] at hiW; omega)
        subst hp0
        have he : W[([] : List ByteArray).length] = [] := by simp [hW1]
        obtain ⟨k1, k2⟩ := h0 he
        have hm : m = 1 := by omega
        rw [hnil rfl, hm, k1]; rfl
      · obtain ⟨g, _, h6, h7, _, h9⟩ := same t ht
        rw [List.length_append, List.length_singleton, h9, h6]
        congr 2; omega
  · intro out ⟨ho, _, hne, hout⟩
    have hWne : (splitB 32 a).map strOfNums ≠ [] := fun e => hsn (List.map_eq_nil_iff.1 e)
    obtain ⟨hne1, hne2⟩ := hne hWne
    have full : ∀ t, TextB a t → out = t := fun t ht => by
      have := hout t ht
      rw [List.length_map, htw t ht, List.length_map, List.take_length, expG_grp] at this
      exact this
    refine ⟨fun v => ?_, fun v => ?_⟩
    · show br (!(ByteArray.toList (strOfNums (fmtM out)) == ByteArray.toList (strOfNums a))) _ _
      rw [str_eq (fmtM_BS _) hb]
      exact br_not.2 (br_dec.2 ⟨fun e2 => hyes out ⟨v, hne1, e2⟩, fun e2 => no fun t ht => e2 (by rw [full t ht]; exact ht.2.2)⟩)
    · show br (!(ByteArray.toList (strOfNums []) == ByteArray.toList (strOfNums a))) _ _
      rw [str_eq (fun x hx => by simp at hx) hb]
      refine br_not.2 (br_dec.2 ⟨fun e2 => ?_, fun e2 => no fun t ht => v (by rw [full t ht]; exact ht.1)⟩)
      rw [hne2 e2.symm] at v
      exact absurd ⟨by simp, fun x hx => by rw [List.mem_singleton.1 hx]; omega⟩ v
-- laws.eqIntS
def T0_laws_eqIntS (a0 : List Int) (b1 : List Int) (xi5 : Int) (k : Bool → Prop) (B0 : Int → Prop) : Prop :=
  br (decide (xi5 < (a0.length : Int)))
  ((0 ≤ xi5 ∧ xi5 < (a0.length : Int)) ∧
    (0 ≤ xi5 ∧ xi5 < (b1.length : Int)) ∧
    br ((List.getD a0 (Int.toNat xi5) (0 : Int)) != (List.getD b1 (Int.toNat xi5) (0 : Int)))
    (k false)
    (InR (xi5 + 1) ∧
      B0 (xi5 + 1)))
  (k true)
def L0_laws_eqIntS (a0 : List Int) (b1 : List Int) (k : Bool → Prop) : Nat → Int → Prop
  | 0, _ => False
  | n + 1, xi5 => T0_laws_eqIntS a0 b1 xi5 k (L0_laws_eqIntS a0 b1 k n)
def G_laws_eqIntS (a0 : List Int) (b1 : List Int) (k : Bool → Prop) (I0 : List Int → List Int → Int → Prop) : Prop :=
  br ((a0.length : Int) != (b1.length : Int))
  (k false)
  (I0 a0 b1 0)
def S_laws_eqIntS (a0 : List Int) (b1 : List Int) (k : Bool → Prop) : Prop := G_laws_eqIntS a0 b1 k (fun a0 b1 xi5 => ∃ j, L0_laws_eqIntS a0 b1 k j xi5)
def F_laws_eqIntS (a b : List Int) (k : Bool → Prop) : Prop := a.length ≤ 1000000000 ∧ k (decide (a = b))
theorem F_laws_eqIntS_S {a b : List Int} {k : Bool → Prop} (h : F_laws_eqIntS a b k) : S_laws_eqIntS a b k := by
  obtain ⟨hl, hk⟩ := h
  refine br_bne.2 ⟨fun he => by rwa [decide_eq_false (fun e => he (by rw [e]))] at hk, fun he => ?_⟩
  have he : a.length = b.length := by omega
  have key : ∀ (r : List Int) (i : Nat), a.drop i = r → (r = b.drop i ↔ a = b) → L0_laws_eqIntS a b k (r.length + 1) (i : Int) := by
    intro r
    induction r with
    | nil =>
      intro i hd hi
      have := drop_nil' hd
      rw [L0_laws_eqIntS, T0_laws_eqIntS]
      simp only [br_dec]
      exact ⟨fun h => by omega, fun _ => by rwa [decide_eq_true (hi.1 (List.drop_eq_nil_of_le (by omega)).symm)] at hk⟩
    | cons x r ih =>
      intro i hd hi
      obtain ⟨h1, h2, _, h3, _⟩ := drop_cons' hd
      obtain ⟨y, s, hs⟩ : ∃ y s, b.drop i = y :: s := by
        cases e : b.drop i with
        | nil => have := drop_nil' e; omega
        | cons y s => exact ⟨y, s, rfl⟩
      obtain ⟨g1, g2, _, g3, _⟩ := drop_cons' hs
      rw [List.length_cons, L0_laws_eqIntS, T0_laws_eqIntS]
      simp only [br_dec, br_bne, Int.toNat_natCast, h2, g2]
      rw [hs] at hi
      refine ⟨fun _ => ⟨⟨by omega, by omega⟩, ⟨by omega, by omega⟩, ?_⟩, fun h => by omega⟩
      have go : x = y → L0_laws_eqIntS a b k (r.length + 1) ((i : Int) + 1) := fun hx => ih (i + 1) h3 (by rw [g3, ← hi, hx]; simp)
      have no : x ≠ y → k false := fun hx => by rwa [decide_eq_false (fun e => hx (List.cons.inj (hi.2 e)).1)] at hk
      exact ⟨no, fun hx => ⟨inR (by omega) (by omega), go hx⟩⟩
  exact ⟨_, key a 0 rfl (by simp)⟩
-- laws.markIntS
def T0_laws_markIntS (xk1 : Int) (xi5 : Int) (xy100000 : List Int) (k : Int → List Int → Prop) (B0 : Int → Int → List Int → Prop) : Prop :=
  br (decide (xi5 < (xy100000.length : Int)))
  ((0 ≤ xi5 ∧ xi5 < (xy100000.length : Int)) ∧
    InR (xk1 + 1) ∧
    InR (xi5 + 1) ∧
    B0 (xk1 + 1) (xi5 + 1) (List.set xy100000 (Int.toNat xi5) xk1))
  (k xk1 xy100000)
def L0_laws_markIntS (k : Int → List Int → Prop) : Nat → Int → Int → List Int → Prop
  | 0, _, _, _ => False
  | n + 1, xk1, xi5, xy100000 => T0_laws_markIntS xk1 xi5 xy100000 k (L0_laws_markIntS k n)
def G_laws_markIntS (a0 : List Int) (k1 : Int) (I0 : Int → Int → List Int → Prop) : Prop :=
  I0 k1 0 a0
def S_laws_markIntS (a0 : List Int) (k1 : Int) (k : Int → List Int → Prop) : Prop := G_laws_markIntS a0 k1 (fun xk1 xi5 xy100000 => ∃ j, L0_laws_markIntS k j xk1 xi5 xy100000)
def F_laws_markIntS (a : List Int) (k0 : Int) (k : Int → List Int → Prop) : Prop :=
  (a.length ≤ 1000000000 ∧ 0 ≤ k0 ∧ k0 ≤ 100000000000) ∧ k (k0 + a.length) (seqI k0 a.length)
theorem F_laws_markIntS_S {a : List Int} {k0 : Int} {k : Int → List Int → Prop} (h : F_laws_markIntS a k0 k) : S_laws_markIntS a k0 k := by
  obtain ⟨⟨h1, h2, h3⟩, hk⟩ := h
  have key : ∀ (d i : Nat) (out : List Int), i + d = a.length → out.length = a.length → out.take i = seqI k0 i → L0_laws_markIntS k (d + 1) (k0 + (i : Int)) (i : Int) out := by
    intro d
    induction d with
    | zero =>
      intro i out hi ho he
      rw [L0_laws_markIntS, T0_laws_markIntS]
      refine br_dec.2 ⟨fun h => by omega, fun _ => ?_⟩
      rw [List.take_of_length_le (by omega)] at he
      have : i = a.length := by omega
      rw [he, this]; exact hk
    | succ d ih =>
      intro i out hi ho he
      rw [L0_laws_markIntS, T0_laws_markIntS]
      rw [Int.toNat_natCast]
      refine br_dec.2 ⟨fun _ => ⟨⟨by omega, by omega⟩, inR (by omega) (by omega), inR (by omega) (by omega), ?_⟩, fun h => by omega⟩
      rw [show k0 + (i : Int) + 1 = k0 + ((i + 1 : Nat) : Int) by omega]
      exact ih (i + 1) _ (by omega) (by simpa using ho) (by rw [take_set_succ (by omega), he, seqI_snoc])
  have := key a.length 0 a (by omega) rfl (by simp [seqI])
  rw [show k0 + ((0 : Nat) : Int) = k0 by omega] at this
  exact ⟨_, this⟩
-- laws.heldIntS
def T0_laws_heldIntS (a0 : List Int) (xk1 : Int) (xi5 : Int) (k : Int → Prop) (B0 : Int → Int → Prop) : Prop :=
  br (decide (xi5 < (a0.length : Int)))
  ((0 ≤ xi5 ∧ xi5 < (a0.length : Int)) ∧
    br ((List.getD a0 (Int.toNat xi5) (0 : Int)) != xk1)
    (k (-1))
    (InR (xk1 + 1) ∧
      InR (xi5 + 1) ∧
      B0 (xk1 + 1) (xi5 + 1)))
  (k xk1)
def L0_laws_heldIntS (a0 : List Int) (k : Int → Prop) : Nat → Int → Int → Prop
  | 0, _, _ => False
  | n + 1, xk1, xi5 => T0_laws_heldIntS a0 xk1 xi5 k (L0_laws_heldIntS a0 k n)
def G_laws_heldIntS (a0 : List Int) (k1 : Int) (I0 : List Int → Int → Int → Prop) : Prop :=
  I0 a0 k1 0
def S_laws_heldIntS (a0 : List Int) (k1 : Int) (k : Int → Prop) : Prop := G_laws_heldIntS a0 k1 (fun a0 xk1 xi5 => ∃ j, L0_laws_heldIntS a0 k j xk1 xi5)
def F_laws_heldIntS (a : List Int) (k0 : Int) (k : Int → Prop) : Prop :=
  ∃ n : Nat, (n ≤ 1000000000 ∧ 0 ≤ k0 ∧ k0 ≤ 100000000000) ∧ a = seqI k0 n ∧ k (k0 + (n : Int))
theorem F_laws_heldIntS_S {a : List Int} {k0 : Int} {k : Int → Prop} (h : F_laws_heldIntS a k0 k) : S_laws_heldIntS a k0 k := by
  obtain ⟨n, ⟨h1, h2, h3⟩, rfl, hk⟩ := h
  have key : ∀ (d i : Nat), i + d = n → L0_laws_heldIntS (seqI k0 n) k (d + 1) (k0 + (i : Int)) (i : Int) := by
    intro d
    induction d with
    | zero =>
      intro i hi
      rw [L0_laws_heldIntS, T0_laws_heldIntS]
      rw [seqI_len]
      refine br_dec.2 ⟨fun h => by omega, fun _ => ?_⟩
      have : i = n := by omega
      rw [this]; exact hk
    | succ d ih =>
      intro i hi
      have hi2 : i < n := by omega
      rw [L0_laws_heldIntS, T0_laws_heldIntS]
      rw [Int.toNat_natCast, seqI_len]
      refine br_dec.2 ⟨fun _ => ⟨⟨by omega, by omega⟩, br_bne.2 ⟨fun h => absurd (seqI_get hi2) h, fun _ => ⟨inR (by omega) (by omega), inR (by omega) (by omega), ?_⟩⟩⟩, fun h => by omega⟩
      rw [show k0 + (i : Int) + 1 = k0 + ((i + 1 : Nat) : Int) by omega]
      exact ih (i + 1) (by omega)
  have := key n 0 (by omega)
  rw [show k0 + ((0 : Nat) : Int) = k0 by omega] at this
  exact ⟨_, this⟩
-- laws.FnExactParseTrace
def G_laws_FnExactParseTrace (aS0 : ByteArray) (k : Bool → Prop) : Prop :=
  br (decide (((ByteArray.size aS0) : Int) > 1048576))
  (k true)
  (F_spec_ParseTrace aS0 fun parseTrace16r0 parseTrace16r1 =>
    F_impl_ParseTrace aS0 fun parseTrace21r0 parseTrace21r1 =>
    F_laws_eqIntS parseTrace21r0 parseTrace16r0 fun eqIntS26 =>
    br (!eqIntS26)
    (k false)
    (br (!(parseTrace21r1 == parseTrace16r1))
      (k false)
      (F_laws_markIntS parseTrace21r0 (1 : Int) fun markIntS35 omarkIntS35 =>
        F_laws_heldIntS omarkIntS35 (1 : Int) fun heldIntS38 =>
        br (decide (heldIntS38 < 0))
        (k false)
        (br (heldIntS38 != markIntS35)
          (k false)
          (F_impl_ParseTrace aS0 fun parseTrace46r0 parseTrace46r1 =>
            F_laws_eqIntS parseTrace46r0 parseTrace16r0 fun eqIntS51 =>
            br (!eqIntS51)
            (k false)
            (br (!(parseTrace46r1 == parseTrace16r1))
              (k false)
              (F_laws_heldIntS omarkIntS35 (1 : Int) fun heldIntS60 =>
                br (decide (heldIntS60 < 0))
                (k false)
                (br (heldIntS60 != markIntS35)
                  (k false)
                  (k true)))))))))
def S_laws_FnExactParseTrace (aS0 : ByteArray) (k : Bool → Prop) : Prop := G_laws_FnExactParseTrace aS0 k
abbrev F_laws_FnExactParseTrace (aS0 : ByteArray) (k : Bool → Prop) : Prop := S_laws_FnExactParseTrace aS0 k
theorem F_laws_FnExactParseTrace_S {aS0 : ByteArray} {k : Bool → Prop} (h : F_laws_FnExactParseTrace aS0 k) : S_laws_FnExactParseTrace aS0 k := h
theorem law_FnExactParseTrace (s : ByteArray) (rs : s.size ≤ maxLen) :
    F_laws_FnExactParseTrace s (fun r => r = true) := by
  refine br_dec.2 ⟨fun _ => rfl, fun hl => ?_⟩
  obtain ⟨a, ha, rfl⟩ := str_of s
  rw [str_size] at hl
  have R : BS a ∧ strOfNums a = strOfNums a ∧ a.length ≤ 10000000 := ⟨ha, rfl, by omega⟩
  have tail : ∀ (t : List Int) (b : Bool), t.length ≤ 1000000000 → (∀ k : List Int → Bool → Prop, k t b → F_impl_ParseTrace (strOfNums a) k) →
      F_laws_markIntS t (1 : Int) fun n o => F_laws_heldIntS o (1 : Int) fun h1 => br (decide (h1 < 0)) ((fun r => r = true) false) (br (h1 != n) ((fun r => r = true) false)
        (F_impl_ParseTrace (strOfNums a) fun u c => F_laws_eqIntS u t fun e => br (!e) ((fun r => r = true) false) (br (!(c == b)) ((fun r => r = true) false)
          (F_laws_heldIntS o (1 : Int) fun h2 => br (decide (h2 < 0)) ((fun r => r = true) false) (br (h2 != n) ((fun r => r = true) false) ((fun r => r = true) true)))))) := by
    intro t b m2 hp
    exact ⟨⟨m2, by omega, by omega⟩, _, ⟨m2, by omega, by omega⟩, rfl, br_lt0 (by omega) (br_same' (hp _ ⟨m2, br_de (br_same ⟨_, ⟨m2, by omega, by omega⟩, rfl, br_lt0 (by omega) (br_same' rfl)⟩)⟩))⟩
  by_cases h : ∃ t, TextB a t
  · obtain ⟨t, ht⟩ := h
    have hone : ∀ u, TextB a u → u = t := fun u hu => fmtM_inj (hu.2.2.trans ht.2.2.symm) hu.2.1 ht.2.1 hu.1 ht.1
    have m2 : t.length ≤ 1000000000 := by have := ht.1.1; omega
    have hp : ∀ k : List Int → Bool → Prop, k t true → F_impl_ParseTrace (strOfNums a) k := fun k hk => ⟨a, R, fun u hu => by rw [hone u hu]; exact hk, fun hn => absurd ⟨t, ht⟩ hn⟩
    exact ⟨a, R, fun u hu => by
      rw [hone u hu]
      exact hp _ ⟨m2, br_de (br_same (tail t true m2 hp))⟩, fun hn => absurd ⟨t, ht⟩ hn⟩
  · have hp : ∀ k : List Int → Bool → Prop, k [] false → F_impl_ParseTrace (strOfNums a) k := fun k hk => ⟨a, R, fun u hu => absurd ⟨u, hu⟩ h, fun _ => hk⟩
    exact ⟨a, R, fun u hu => absurd ⟨u, hu⟩ h, fun _ => hp _ ⟨by simp, br_de (br_same (tail [] false (by simp) hp))⟩⟩
end Go.Ev
