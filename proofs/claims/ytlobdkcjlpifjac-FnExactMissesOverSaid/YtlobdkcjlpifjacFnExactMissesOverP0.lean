/- What the functions that the law reaches do, written as plain Lean. No statement is proved here. -/
import Derived.Test.YtlobdkcjlpifjacEvT
namespace Go.Ev
set_option linter.unusedVariables false
open Go
theorem br_iff {b : Bool} {A B : Prop} : br b A B ↔ (b = true → A) ∧ (b = false → B) := by cases b <;> simp [br]
theorem br_dec {p : Prop} [Decidable p] {A B : Prop} : br (decide p) A B ↔ (p → A) ∧ (¬ p → B) := by rw [br_iff]; simp
theorem br_beq {a b : Int} {A B : Prop} : br (a == b) A B ↔ (a = b → A) ∧ (a ≠ b → B) := by rw [br_iff]; simp
theorem br_bne {a b : Int} {A B : Prop} : br (a != b) A B ↔ (a ≠ b → A) ∧ (a = b → B) := by rw [br_iff]; simp
theorem br_not {b : Bool} {A B : Prop} : br (!b) A B ↔ br b B A := by cases b <;> simp [br]
theorem inR {x : Int} (h1 : -9223372036854775808 ≤ x) (h2 : x ≤ 9223372036854775807) : InR x := ⟨h1, h2⟩

section lists
variable {α : Type}
theorem drop_nil' {l : List α} {i : Nat} (h : l.drop i = []) : l.length ≤ i := by simpa using h
theorem drop_cons' {l : List α} {i : Nat} {x : α} {r : List α} (h : l.drop i = x :: r) : i < l.length ∧ (∀ d, l.getD i d = x) ∧ l[i]? = some x ∧ l.drop (i + 1) = r ∧ l.take (i + 1) = l.take i ++ [x] := by
  have hlt : i < l.length := by
    rcases Nat.lt_or_ge i l.length with h1 | h1
    · exact h1
    · rw [List.drop_eq_nil_of_le h1] at h; cases h
  have h2 := List.drop_eq_getElem_cons hlt
  rw [h] at h2
  injection h2 with h3 h4
  have h5 : l[i]? = some x := by rw [List.getElem?_eq_getElem hlt, h3]
  exact ⟨hlt, fun d => by simp [List.getD, h5], h5, h4.symm, by rw [List.take_succ_eq_append_getElem hlt, h3]⟩
end lists

/-- The place of a number, or -1. -/
def plcF : List Int → Int → Nat → Int
  | [], _, _ => -1
  | x :: r, n, i => if x = n then (i : Int) else plcF r n (i + 1)
def plc (l : List Int) (n : Int) : Int := plcF l n 0
theorem plcF_spec : ∀ (l : List Int) (n : Int) (i : Nat), (n ∉ l ∧ plcF l n i = -1) ∨ ∃ j, j < l.length ∧ l[j]? = some n ∧ (∀ q, q < j → l[q]? ≠ some n) ∧ plcF l n i = ((i + j : Nat) : Int)
  | [], n, i => .inl ⟨by simp, rfl⟩
  | x :: r, n, i => by
    by_cases h : x = n
    · subst h
      exact .inr ⟨0, by simp, rfl, fun q hq => by omega, by simp [plcF]⟩
    · rcases plcF_spec r n (i + 1) with ⟨h1, h2⟩ | ⟨j, h1, h2, h3, h4⟩
      · exact .inl ⟨by simp [Ne.symm h, h1], by simp [plcF, h, h2]⟩
      · refine .inr ⟨j + 1, by simp; omega, by simpa using h2, fun q hq => ?_, ?_⟩
        · cases q with
          | zero => simpa using h
          | succ q => simpa using h3 q (by omega)
        · simp only [plcF, h, if_false, h4]; omega
theorem plc_spec (l : List Int) (n : Int) : (n ∉ l ∧ plc l n = -1) ∨ ∃ j : Nat, j < l.length ∧ l[j]? = some n ∧ (∀ q, q < j → l[q]? ≠ some n) ∧ plc l n = (j : Int) := by
  have := plcF_spec l n 0
  simpa [plc] using this
theorem plc_pos {l : List Int} {n : Int} (h : n ∈ l) : ∃ j : Nat, j < l.length ∧ l[j]? = some n ∧ (∀ q, q < j → l[q]? ≠ some n) ∧ plc l n = (j : Int) := by
  rcases plc_spec l n with ⟨h1, _⟩ | h2
  · exact absurd h h1
  · exact h2
theorem plc_ge {l : List Int} {n : Int} : plc l n ≥ 0 ↔ n ∈ l := by
  rcases plc_spec l n with ⟨h1, h2⟩ | ⟨j, h1, h2, _, h3⟩
  · rw [h2]; simp [h1]
  · rw [h3]; simp [List.mem_of_getElem? h2]
/-- Valid keys. -/
def VKeys (l : List Int) (room : Int) : Prop := 1 ≤ room ∧ room ≤ 8 ∧ (l.length : Int) ≤ room ∧ (∀ x ∈ l, 0 ≤ x ∧ x ≤ 31) ∧ l.Nodup
def rmK (l : List Int) (key : Int) : List Int := l.filter (fun x => x != key)
def recM (l : List Int) (room key : Int) : List Int := (key :: rmK l key).take room.toNat
theorem mem_rmK {l : List Int} {key x : Int} : x ∈ rmK l key ↔ x ∈ l ∧ x ≠ key := by simp [rmK]
theorem rmK_not {l : List Int} {key : Int} (h : key ∉ l) : rmK l key = l := by
  unfold rmK
  rw [List.filter_eq_self]
  intro x hx
  have : x ≠ key := fun e => h (e ▸ hx)
  simpa using this
theorem rmK_nodup {l : List Int} {key : Int} (h : l.Nodup) : (rmK l key).Nodup := List.Pairwise.filter _ h
theorem rmK_le {l : List Int} {key : Int} : (rmK l key).length ≤ l.length := List.length_filter_le _ _
theorem rmK_cons_ne {l : List Int} {key x : Int} (h : x ≠ key) : rmK (x :: l) key = x :: rmK l key := by
  unfold rmK; rw [List.filter_cons_of_pos (by simpa using h)]
theorem rmK_cons_eq {l : List Int} {key : Int} : rmK (key :: l) key = rmK l key := by
  unfold rmK; rw [List.filter_cons_of_neg (by simp)]
theorem rmK_erase : ∀ {l : List Int} {key : Int} {j : Nat}, l.Nodup → l[j]? = some key → l.take j ++ l.drop (j + 1) = rmK l key
  | [], _, _, _, h => by simp at h
  | x :: r, key, 0, hn, h => by
    have e : x = key := by simpa using h
    subst e
    rw [rmK_cons_eq, rmK_not (List.nodup_cons.1 hn).1]; rfl
  | x :: r, key, j + 1, hn, h => by
    have h' : r[j]? = some key := by simpa using h
    have hne : x ≠ key := fun e => (List.nodup_cons.1 hn).1 (e ▸ List.mem_of_getElem? h')
    rw [rmK_cons_ne hne, ← rmK_erase (List.nodup_cons.1 hn).2 h']; rfl
theorem rmK_len {l : List Int} {key : Int} (hn : l.Nodup) (h : key ∈ l) : (rmK l key).length + 1 = l.length := by
  obtain ⟨j, hj, he⟩ := List.getElem_of_mem h
  have h2 : l[j]? = some key := by rw [List.getElem?_eq_getElem hj, he]
  rw [← rmK_erase hn h2]; simp; omega
theorem take_nodup {l : List Int} {n : Nat} (h : l.Nodup) : (l.take n).Nodup := List.Pairwise.sublist (List.take_sublist n l) h
theorem recM_hit {l : List Int} {room key : Int} (hn : l.Nodup) (hl : (l.length : Int) ≤ room) (h : key ∈ l) : recM l room key = key :: rmK l key := by
  have := rmK_len hn h
  exact List.take_of_length_le (by simp; omega)
theorem recM_miss {l : List Int} {room key : Int} (h : key ∉ l) : recM l room key = (key :: l).take room.toNat := by rw [recM, rmK_not h]
theorem recM_valid {l : List Int} {room key : Int} (v : VKeys l room) (hk : 0 ≤ key ∧ key ≤ 31) : VKeys (recM l room key) room := by
  obtain ⟨v1, v2, v3, v4, v5⟩ := v
  refine ⟨v1, v2, by simp only [recM, List.length_take]; omega, fun x hx => ?_, take_nodup ?_⟩
  · rcases List.mem_cons.1 (List.mem_of_mem_take hx) with rfl | h
    · exact hk
    · exact v4 x (mem_rmK.1 h).1
  · exact List.nodup_cons.2 ⟨fun h => (mem_rmK.1 h).2 rfl, rmK_nodup v5⟩
theorem nodup_le : ∀ {a b : List Int}, a.Nodup → (∀ x ∈ a, x ∈ b) → a.length ≤ b.length
  | [], _, _, _ => Nat.zero_le _
  | x :: r, b, hn, hs => by
    have hx : x ∈ b := hs x List.mem_cons_self
    have h1 := nodup_le (a := r) (b := b.erase x) (List.nodup_cons.1 hn).2 (fun y hy => by
      have hne : y ≠ x := fun e => (List.nodup_cons.1 hn).1 (e ▸ hy)
      exact (List.mem_erase_of_ne hne).2 (hs y (List.mem_cons_of_mem _ hy)))
    rw [List.length_erase_of_mem hx] at h1
    have := List.length_pos_of_mem hx
    simp; omega
theorem take_min1 {α : Type} {L : List α} {room : Int} : L.take (if (L.length : Int) < room then (L.length : Int) else room).toNat = L.take room.toNat := by
  split
  · rw [List.take_of_length_le (by omega), List.take_of_length_le (by omega)]
  · rfl
theorem take_min2 {α : Type} {L : List α} {room : Int} : L.take (if room < (L.length : Int) then room else (L.length : Int)).toNat = L.take room.toNat := by
  split
  · rfl
  · rw [List.take_of_length_le (by omega), List.take_of_length_le (by omega)]
theorem br_same' {b : Int} {A B : Prop} (h : B) : br (b != b) A B := by rw [bne_self_eq_false]; exact h
theorem getD_of {l : List Int} {i : Nat} {x d : Int} (h : l[i]? = some x) : l.getD i d = x := by rw [List.getD_eq_getElem?_getD, h]; rfl
theorem some_of {l : List Int} {i : Nat} {d : Int} (h : i < l.length) : l[i]? = some (l.getD i d) := by
  rw [List.getD_eq_getElem?_getD, List.getElem?_eq_getElem h]; rfl
def VTrace (t : List Int) : Prop := t.length ≤ 24 ∧ ∀ x ∈ t, 0 ≤ x ∧ x ≤ 31
def toI (b : Bool) : Int := if b then 1 else 0
theorem toI_01 (b : Bool) : 0 ≤ toI b ∧ toI b ≤ 1 := by cases b <;> decide
theorem br_de {α : Type} [DecidableEq α] {a : α} {A B : Prop} (h : B) : br (!decide (a = a)) A B := by rw [decide_eq_true rfl]; exact h
theorem mem_getD {l : List Int} {i : Nat} (h : i < l.length) : l.getD i 0 ∈ l := List.mem_of_getElem? (some_of h)
theorem take_set_succ {α : Type} {l : List α} {i : Nat} {x : α} (h : i < l.length) : (l.set i x).take (i + 1) = l.take i ++ [x] := by
  rw [List.take_succ_eq_append_getElem (by simpa using h), List.take_set_of_le (Nat.le_refl _)]; simp
def runR (room : Int) : List Int → List Int → Int → List Int × Int
  | [], l, n => (l, n)
  | x :: r, l, n => runR room r (recM l room x) (n + toI (decide (x ∈ l)))
theorem runR_valid {room : Int} : ∀ (t l : List Int) (n : Int), VKeys l room → (∀ x ∈ t, 0 ≤ x ∧ x ≤ 31) → VKeys (runR room t l n).1 room ∧ n ≤ (runR room t l n).2 ∧ (runR room t l n).2 ≤ n + t.length
  | [], l, n, v, _ => ⟨v, Int.le_refl _, by simp [runR]⟩
  | y :: t, l, n, v, ht => by
    obtain ⟨p, q, r⟩ := runR_valid t _ (n + toI (decide (y ∈ l))) (recM_valid (key := y) v (ht y List.mem_cons_self)) (fun x hx => ht x (List.mem_cons_of_mem _ hx))
    have := toI_01 (decide (y ∈ l))
    simp only [runR, List.length_cons]
    exact ⟨p, by omega, by omega⟩
theorem keys0 {room : Int} (h : 1 ≤ room ∧ room ≤ 8) : VKeys [] room := ⟨h.1, h.2, by simp; omega, by simp, by simp⟩
theorem vkeys_len {l : List Int} {room : Int} (v : VKeys l room) : l.length ≤ 8 := by
  have := v.2.1; have := v.2.2.1; omega

abbrev Ent := Int × Int × Int
def Rar (a b : Ent) : Prop := a.2.1 < b.2.1 ∨ a.2.1 = b.2.1 ∧ a.2.2 < b.2.2
instance (a b : Ent) : Decidable (Rar a b) := by unfold Rar; infer_instance
theorem Rar.trans {a b c : Ent} (h : Rar a b) (g : Rar b c) : Rar a c := by unfold Rar at *; omega
structure AL where
  t : Int
  o : List Int
  f : List Int
  wo : List Int
  wf : List Int
def knownL (a : AL) (key : Int) : Prop := key ∈ a.o ∨ key ∈ a.f ∨ key ∈ a.wf ∨ key ∈ a.wo
instance (a : AL) (key : Int) : Decidable (knownL a key) := by unfold knownL; infer_instance
/-- `Can room r C n`: with a cache `C` before the keys `r`, `n` hits are possible. -/
def Can (room : Nat) : List Int → List Int → Nat → Prop
  | [], _, n => n = 0
  | k :: r, C, n => ∃ D m, D.Nodup ∧ D.length ≤ room ∧ k ∈ D ∧ (∀ x ∈ D, x = k ∨ x ∈ C) ∧ Can room r D m ∧ n ≤ m + (if k ∈ C then 1 else 0)
theorem Can.less {room : Nat} : ∀ {r C : List Int} {n m : Nat}, Can room r C n → m ≤ n → Can room r C m
  | [], _, _, _, h, hm => by simp only [Can] at *; omega
  | k :: r, C, _, _, ⟨D, m, h1, h2, h3, h4, h5, h6⟩, hm => ⟨D, m, h1, h2, h3, h4, h5, by omega⟩
theorem Can.mono {room : Nat} : ∀ {r C D : List Int} {n : Nat}, Can room r C n → (∀ x ∈ C, x ∈ D) → Can room r D n
  | [], _, _, _, h, _ => h
  | k :: r, C, D, n, ⟨E, m, h1, h2, h3, h4, h5, h6⟩, hs => by
    refine ⟨E, m, h1, h2, h3, fun x hx => (h4 x hx).imp id (hs x), h5, ?_⟩
    by_cases hc : k ∈ C
    · rw [if_pos hc] at h6; rw [if_pos (hs k hc)]; exact h6
    · rw [if_neg hc] at h6; exact Nat.le_trans h6 (Nat.le_add_right _ _)
theorem Can.zero {room : Nat} (h : 1 ≤ room) : ∀ {r C : List Int}, Can room r C 0
  | [], _ => rfl
  | k :: r, C => ⟨[k], 0, by simp, by simpa using h, by simp, fun x hx => .inl (List.mem_singleton.1 hx), Can.zero h, by omega⟩
/-- A key less costs a hit at most. -/
theorem Can.minus {room : Nat} {y : Int} : ∀ {r C : List Int} {n : Nat}, Can room r C (n + 1) → Can room r (rmK C y) n
  | [], C, n, h => by simp only [Can] at h; omega
  | k :: r, C, n, ⟨D, m, h1, h2, h3, h4, h5, h6⟩ => by
    by_cases hy : k = y
    · subst hy
      refine ⟨D, m, h1, h2, h3, fun x hx => ?_, h5, ?_⟩
      · rcases h4 x hx with h | h
        · exact .inl h
        · by_cases e : x = k
          · exact .inl e
          · exact .inr (mem_rmK.2 ⟨h, e⟩)
      · split at h6 <;> omega
    · have hm : (k ∈ rmK C y) = (k ∈ C) := propext (by rw [mem_rmK]; exact and_iff_left hy)
      have hr : 1 ≤ room := by have := List.length_pos_of_mem h3; omega
      refine ⟨rmK D y, m - 1, rmK_nodup h1, by have := @rmK_le D y; omega, mem_rmK.2 ⟨h3, hy⟩, fun x hx => ?_, ?_, by simp only [hm]; omega⟩
      · obtain ⟨hx1, hx2⟩ := mem_rmK.1 hx
        exact (h4 x hx1).imp id fun h => mem_rmK.2 ⟨h, hx2⟩
      · cases m with
        | zero => exact Can.zero hr
        | succ m => exact Can.minus h5
/-- After how many keys a key comes: all of them if it does not. -/
def nxt (x : Int) : List Int → Nat
  | [] => 0
  | k :: r => if k = x then 0 else nxt x r + 1
theorem nxt_le (x : Int) : ∀ r, nxt x r ≤ r.length
  | [] => Nat.le_refl _
  | k :: r => by unfold nxt; have := nxt_le x r; split <;> simp; omega
/-- A key that comes sooner is better. -/
theorem Can.swap {room : Nat} {x y : Int} : ∀ {r C : List Int} {n : Nat}, Can room r (y :: C) n → C.Nodup → x ∉ C → y ∉ C → C.length + 1 ≤ room → nxt x r ≤ nxt y r → Can room r (x :: C) n
  | [], _, _, h, _, _, _, _, _ => h
  | k :: r, C, n, ⟨D, m, h1, h2, h3, h4, h5, h6⟩, hn, hx, hy, hc, hi => by
    by_cases exy : x = y
    · subst exy; exact ⟨D, m, h1, h2, h3, h4, h5, h6⟩
    by_cases ek : k = y
    · subst ek
      rw [nxt, nxt, if_pos rfl, if_neg (Ne.symm exy)] at hi
      omega
    by_cases ekx : k = x
    · -- the sooner one comes: a hit
      subst ekx
      have hmiss : ¬ k ∈ y :: C := by simp; exact ⟨ek, hx⟩
      rw [if_neg hmiss] at h6
      refine ⟨k :: C, m - 1, List.nodup_cons.2 ⟨hx, hn⟩, by simpa using hc, by simp, fun z hz => by simp at hz; exact hz.imp id fun h => by simp [h], ?_, by simp; omega⟩
      cases m with
      | zero => exact Can.zero (by omega)
      | succ m =>
        refine (Can.minus (y := y) h5).mono fun z hz => ?_
        obtain ⟨g1, g2⟩ := mem_rmK.1 hz
        rcases h4 z g1 with h | h
        · rw [h]; simp
        · rcases List.mem_cons.1 h with h | h
          · exact absurd h g2
          · exact List.mem_cons_of_mem _ h
    · -- another key
      have hik : nxt x r ≤ nxt y r := by
        rw [nxt, nxt, if_neg ekx, if_neg ek] at hi; omega
      have hb : (if k ∈ x :: C then 1 else 0) = (if k ∈ y :: C then 1 else 0) := by
        have : (k ∈ x :: C) ↔ (k ∈ y :: C) := by simp [ek, ekx]
        simp only [this]
      by_cases hyD : y ∈ D
      · by_cases hxD : x ∈ D
        · rcases h4 x hxD with h | h
          · exact absurd h.symm ekx
          · rcases List.mem_cons.1 h with h | h
            · exact absurd h exy
            · exact absurd h hx
        · refine ⟨x :: rmK D y, m, List.nodup_cons.2 ⟨fun h => hxD (mem_rmK.1 h).1, rmK_nodup h1⟩, ?_, List.mem_cons_of_mem _ (mem_rmK.2 ⟨h3, ek⟩), fun z hz => ?_, ?_, by rw [hb]; exact h6⟩
          · have := rmK_len h1 hyD; simp; omega
          · rcases List.mem_cons.1 hz with h | h
            · right; rw [h]; simp
            · obtain ⟨g1, g2⟩ := mem_rmK.1 h
              rcases h4 z g1 with h | h
              · exact .inl h
              · rcases List.mem_cons.1 h with h | h
                · exact absurd h g2
                · exact .inr (List.mem_cons_of_mem _ h)
          · refine Can.swap (y := y) (h5.mono fun z hz => ?_) (rmK_nodup h1) (fun h => hxD (mem_rmK.1 h).1) (fun h => (mem_rmK.1 h).2 rfl) (by have := rmK_len h1 hyD; omega) hik
            by_cases e : z = y
            · rw [e]; simp
            · exact List.mem_cons_of_mem _ (mem_rmK.2 ⟨hz, e⟩)
      · refine ⟨D, m, h1, h2, h3, fun z hz => ?_, h5, by rw [hb]; exact h6⟩
        rcases h4 z hz with h | h
        · exact .inl h
        · rcases List.mem_cons.1 h with h | h
          · rw [h] at hz; exact absurd hz hyD
          · exact .inr (List.mem_cons_of_mem _ h)
/-- Of the keys of a cache the one that comes last, of several the first one. -/
def farK (r : List Int) : List Int → Int → Int
  | [], b => b
  | x :: l, b => farK r l (if nxt b r < nxt x r then x else b)
theorem farK_mem (r : List Int) : ∀ (l : List Int) (b : Int), farK r l b ∈ b :: l
  | [], b => by simp [farK]
  | x :: l, b => by
    have := farK_mem r l (if nxt b r < nxt x r then x else b)
    unfold farK
    rcases List.mem_cons.1 this with h | h
    · rw [h]; split <;> simp
    · simp [h]
theorem farK_max (r : List Int) : ∀ (l : List Int) (b x : Int), x ∈ b :: l → nxt x r ≤ nxt (farK r l b) r
  | [], b, x, h => by simp at h; rw [h]; exact Nat.le_refl _
  | y :: l, b, x, h => by
    unfold farK
    have h1 := farK_max r l (if nxt b r < nxt y r then y else b) (if nxt b r < nxt y r then y else b) (by simp)
    rcases List.mem_cons.1 h with h | h
    · rw [h]; split at h1
      · rw [if_pos (by assumption)]; omega
      · rw [if_neg (by assumption)]; exact h1
    · rcases List.mem_cons.1 h with h | h
      · rw [h]; split at h1
        · rw [if_pos (by assumption)]; exact h1
        · rw [if_neg (by assumption)]; omega
      · exact farK_max r l _ x (List.mem_cons_of_mem _ h)
/-- The key that leaves a cache. -/
def farM (r : List Int) : List Int → Int
  | [] => 0
  | x :: l => farK r l x
theorem farM_mem {r C : List Int} (h : 0 < C.length) : farM r C ∈ C := by
  cases C with
  | nil => simp at h
  | cons x l => exact farK_mem r l x
theorem farM_max {r C : List Int} {x : Int} (h : x ∈ C) : nxt x r ≤ nxt (farM r C) r := by
  cases C with
  | nil => simp at h
  | cons y l => exact farK_max r l y x h
/-- The cache of the best policy after a miss. -/
def missB (room : Nat) (r C : List Int) (k : Int) : List Int := (if C.length = room then rmK C (farM r C) else C) ++ [k]
def bestM (room : Nat) : List Int → List Int → Nat
  | [], _ => 0
  | k :: r, C => if k ∈ C then bestM room r C + 1 else bestM room r (missB room r C k)
theorem missB_ok {room : Nat} {r C : List Int} {k : Int} (hr : 1 ≤ room) (hn : C.Nodup) (hc : C.length ≤ room) (hk : k ∉ C) : (missB room r C k).Nodup ∧ (missB room r C k).length ≤ room ∧ k ∈ missB room r C k ∧ ∀ x ∈ missB room r C k, x = k ∨ x ∈ C := by
  unfold missB
  split
  · rename_i hf
    have hm := farM_mem (r := r) (C := C) (by omega)
    have := rmK_len hn hm
    refine ⟨?_, by simp; omega, by simp, fun x hx => ?_⟩
    · rw [List.nodup_append]
      exact ⟨rmK_nodup hn, by simp, fun a ha b hb e => by simp at hb; subst hb; subst e; exact hk (mem_rmK.1 ha).1⟩
    · rcases List.mem_append.1 hx with h | h
      · exact .inr (mem_rmK.1 h).1
      · exact .inl (List.mem_singleton.1 h)
  · refine ⟨?_, by simp; omega, by simp, fun x hx => ?_⟩
    · rw [List.nodup_append]
      exact ⟨hn, by simp, fun a ha b hb e => by simp at hb; subst hb; subst e; exact hk ha⟩
    · rcases List.mem_append.1 hx with h | h
      · exact .inr h
      · exact .inl (List.mem_singleton.1 h)
/-- Of two lists of different keys the longer one has one that the other one has not. -/
theorem more_keys {C D : List Int} (hn : C.Nodup) (h : D.length < C.length) : ∃ y ∈ C, y ∉ D := by
  apply Classical.byContradiction
  intro hno
  have hs : ∀ y ∈ C, y ∈ D := fun y hy => Classical.byContradiction fun c => hno ⟨y, hy, c⟩
  have := nodup_le hn hs
  omega
theorem best_opt {room : Nat} (hr : 1 ≤ room) : ∀ {r C : List Int} {n : Nat}, Can room r C n → C.Nodup → C.length ≤ room → n ≤ bestM room r C
  | [], _, _, h, _, _ => by simp only [Can] at h; omega
  | k :: r, C, n, ⟨D, m, h1, h2, h3, h4, h5, h6⟩, hn, hc => by
    unfold bestM
    by_cases hk : k ∈ C
    · rw [if_pos hk] at h6 ⊢
      have := best_opt hr (h5.mono (D := C) fun x hx => (h4 x hx).elim (fun e => e ▸ hk) id) hn hc
      omega
    · rw [if_neg hk] at h6 ⊢
      obtain ⟨g1, g2, g3, g4⟩ := missB_ok (r := r) hr hn hc hk
      refine Nat.le_trans h6 (best_opt hr ?_ g1 g2)
      unfold missB at *
      by_cases hf : C.length = room
      · rw [if_pos hf] at *
        have hm := farM_mem (r := r) (C := C) (by omega)
        -- a key has left
        obtain ⟨y, y1, y2⟩ := more_keys (C := C) (D := rmK D k) hn (by have := rmK_len h1 h3; omega)
        have y3 : y ≠ k := fun e => hk (e ▸ y1)
        have y4 : y ∉ D := fun h => y2 (mem_rmK.2 ⟨h, y3⟩)
        by_cases hy : y = farM r C
        · refine h5.mono fun x hx => ?_
          rcases h4 x hx with h | h
          · rw [h]; simp
          · exact List.mem_append_left _ (mem_rmK.2 ⟨h, fun e => y4 (by rw [hy, ← e]; exact hx)⟩)
        · have hfk : farM r C ≠ k := fun e => hk (e ▸ hm)
          have hn2 : (k :: rmK (rmK C y) (farM r C)).Nodup := List.nodup_cons.2 ⟨fun h => hk (mem_rmK.1 (mem_rmK.1 h).1).1, rmK_nodup (rmK_nodup hn)⟩
          have l1 := rmK_len hn y1
          have l2 := rmK_len (rmK_nodup (key := y) hn) (mem_rmK.2 ⟨hm, Ne.symm hy⟩)
          have h7 : Can room r (farM r C :: k :: rmK (rmK C y) (farM r C)) m := h5.mono fun x hx => by
            rcases h4 x hx with h | h
            · rw [h]; simp
            · by_cases e : x = farM r C
              · rw [e]; simp
              · exact List.mem_cons_of_mem _ (List.mem_cons_of_mem _ (mem_rmK.2 ⟨mem_rmK.2 ⟨h, fun e2 => y4 (e2 ▸ hx)⟩, e⟩))
          have h8 := Can.swap (x := y) h7 hn2 (fun h => by
            rcases List.mem_cons.1 h with h | h
            · exact y3 h
            · exact (mem_rmK.1 (mem_rmK.1 h).1).2 rfl) (fun h => by
            rcases List.mem_cons.1 h with h | h
            · exact hfk h
            · exact (mem_rmK.1 h).2 rfl) (by simp; omega) (farM_max y1)
          refine h8.mono fun x hx => ?_
          rcases List.mem_cons.1 hx with h | h
          · rw [h]; exact List.mem_append_left _ (mem_rmK.2 ⟨y1, hy⟩)
          · rcases List.mem_cons.1 h with h | h
            · rw [h]; simp
            · obtain ⟨a1, a2⟩ := mem_rmK.1 h
              exact List.mem_append_left _ (mem_rmK.2 ⟨(mem_rmK.1 a1).1, a2⟩)
      · rw [if_neg hf] at *
        refine h5.mono fun x hx => ?_
        rcases h4 x hx with h | h
        · rw [h]; simp
        · exact List.mem_append_left _ h
/-- What a policy does to the keys of its cache: never more than `cap`, and while fewer than `free` are there, none leaves. -/
def Runs (cap free : Nat) : List Int → List Int → List Int → Nat → Prop
  | [], C, E, n => E = C ∧ n = 0
  | k :: r, C, E, n => ∃ D m, D.Nodup ∧ D.length ≤ cap ∧ k ∈ D ∧ (∀ x ∈ D, x = k ∨ x ∈ C) ∧ ((k ∈ C ∨ C.length < free) → ∀ x ∈ C, x ∈ D) ∧ (k ∉ C → free ≤ C.length → free ≤ D.length) ∧
      Runs cap free r D E m ∧ n = m + (if k ∈ C then 1 else 0)
theorem Runs.can {cap free : Nat} : ∀ {r C E : List Int} {n : Nat}, Runs cap free r C E n → Can cap r C n
  | [], _, _, _, h => h.2
  | k :: r, C, E, n, ⟨D, m, h1, h2, h3, h4, _, _, h7, h8⟩ => ⟨D, m, h1, h2, h3, h4, h7.can, by omega⟩
theorem Runs.best {cap free : Nat} {t E : List Int} {n : Nat} (hr : 1 ≤ cap) (h : Runs cap free t [] E n) : n ≤ bestM cap t [] := best_opt hr h.can (by simp) (by simp)
theorem mem_take_plc {l : List Int} {n : Int} {k : Nat} : n ∈ l.take k ↔ 0 ≤ plc l n ∧ plc l n < k := by
  constructor
  · intro h
    have hm : n ∈ l := List.mem_of_mem_take h
    obtain ⟨j, h1, h2, h3, h4⟩ := plc_pos hm
    obtain ⟨i, hi⟩ := List.getElem?_of_mem h
    rw [List.getElem?_take] at hi
    split at hi
    · rename_i hk
      have : j ≤ i := Classical.byContradiction fun c => h3 i (by omega) hi
      rw [h4]; omega
    · cases hi
  · intro ⟨h1, h2⟩
    obtain ⟨j, g1, g2, _, g4⟩ := plc_pos (plc_ge.1 h1)
    refine List.mem_of_getElem? (i := j) ?_
    rw [List.getElem?_take, if_pos (by omega)]; exact g2
def nextM (t : List Int) (i key : Int) : Int := i + (nxt key (t.drop i.toNat) : Int)
def overM (t : List Int) (room : Int) : Int := (bestM room.toNat t [] : Int) - (runR room t [] 0).2
theorem nxt_spec (key : Int) : ∀ (r : List Int), (∀ q, q < nxt key r → r.getD q 0 ≠ key) ∧ (nxt key r < r.length → r.getD (nxt key r) 0 = key) ∧ (nxt key r = r.length ↔ key ∉ r)
  | [] => ⟨fun q h => by simp [nxt] at h, fun h => by simp [nxt] at h, by simp [nxt]⟩
  | k :: r => by
    obtain ⟨h1, h2, h3⟩ := nxt_spec key r
    unfold nxt
    by_cases e : k = key
    · rw [if_pos e]
      exact ⟨fun q h => by omega, fun _ => by simpa using e, by simp [e]⟩
    · rw [if_neg e]
      refine ⟨fun q h => ?_, fun h => ?_, ?_⟩
      · cases q with
        | zero => simpa using e
        | succ q => simpa using h1 q (by omega)
      · simpa using h2 (by simpa using h)
      · rw [List.length_cons, List.mem_cons]
        constructor
        · intro h; have := h3.1 (by omega); rintro (c | c)
          · exact e c.symm
          · exact this c
        · intro h; have := h3.2 (fun c => h (.inr c)); omega
theorem farK_snoc (r : List Int) (x : Int) : ∀ (l : List Int) (b : Int), farK r (l ++ [x]) b = if nxt (farK r l b) r < nxt x r then x else farK r l b
  | [], b => rfl
  | y :: l, b => by
    show farK r (l ++ [x]) _ = _
    rw [farK_snoc r x l]; rfl
theorem farM_snoc {r l : List Int} {x : Int} (h : 0 < l.length) : farM r (l ++ [x]) = if nxt (farM r l) r < nxt x r then x else farM r l := by
  cases l with
  | nil => simp at h
  | cons y l => exact farK_snoc r x l y
theorem nxt_drop {t : List Int} {i : Nat} {key : Int} (h : i < t.length) : nxt key (t.drop i) = if t.getD i 0 = key then 0 else nxt key (t.drop (i + 1)) + 1 := by
  rw [List.drop_eq_getElem_cons h, nxt, List.getD_eq_getElem?_getD, List.getElem?_eq_getElem h]; rfl
theorem best_le {room : Nat} : ∀ (r C : List Int), bestM room r C ≤ r.length
  | [], _ => Nat.le_refl _
  | k :: r, C => by
    unfold bestM
    have h1 := best_le (room := room) r C
    have h2 := best_le (room := room) r (missB room r C k)
    rw [List.length_cons]
    split <;> omega
theorem yes {P A B : Prop} (v : P) (h : A) : (P → A) ∧ (¬ P → B) := ⟨fun _ => h, fun c => absurd v c⟩
theorem br_yd {p : Prop} [Decidable p] {A B : Prop} (h : p) (g : A) : br (decide p) A B := br_dec.2 ⟨fun _ => g, fun c => absurd h c⟩
theorem take_get {t : List Int} {i : Nat} (h : i < t.length) : t.take (i + 1) = t.take i ++ [t.getD i 0] := by
  rw [List.take_add_one, some_of (d := 0) h]; rfl
theorem plc_nxt {key : Int} {r : List Int} (h : key ∈ r) : plc r key = (nxt key r : Int) := by
  obtain ⟨j, h1, h2, h3, h4⟩ := plc_pos h
  obtain ⟨s1, s2, s3⟩ := nxt_spec key r
  have hlt : nxt key r < r.length := by
    have := nxt_le key r
    have : nxt key r ≠ r.length := fun c => s3.1 c h
    omega
  have e1 : ¬ j < nxt key r := fun c => s1 j c (getD_of h2)
  have e2 : ¬ nxt key r < j := fun c => h3 _ c (by rw [some_of (d := 0) hlt, s2 hlt])
  rw [h4]; omega
theorem nxt_out {key : Int} {r : List Int} (h : key ∉ r) : nxt key r = r.length := (nxt_spec key r).2.2.2 h
theorem farK_self (r l : List Int) (b : Int) : farK r (b :: l) b = farK r l b := by
  rw [farK]; split <;> rfl
def VSk (s : List Int) : Prop := s.length = 24 ∧ ∀ x ∈ s, 0 ≤ x ∧ x ≤ 15
def cellM (row key : Int) : Int := row * 8 + Int.tmod (Int.tmod ((37 + 2 * row) * (key + row)) 101) 8
theorem cellM_range {row key : Int} (h0 : 0 ≤ row) (k0 : 0 ≤ key) : row * 8 ≤ cellM row key ∧ cellM row key < row * 8 + 8 := by
  have h1 : 0 ≤ (37 + 2 * row) * (key + row) := Int.mul_nonneg (by omega) (by omega)
  have h2 := Int.tmod_nonneg 101 h1
  have h3 := Int.tmod_nonneg 8 h2
  have h4 := Int.tmod_lt_of_pos (Int.tmod ((37 + 2 * row) * (key + row)) 101) (show (0 : Int) < 8 by omega)
  unfold cellM; omega
def min2 (a b : Int) : Int := if a < b then a else b
def countM (s : List Int) (key : Int) : Int := min2 (s.getD (cellM 2 key).toNat 0) (min2 (s.getD (cellM 1 key).toNat 0) (min2 (s.getD (cellM 0 key).toNat 0) 15))
/-- Each counter of the key has the number, and all others are 0. -/
def Cnt (a n : Int) (s : List Int) : Prop := VSk s ∧ s.getD (cellM 0 a).toNat 0 = n ∧ s.getD (cellM 1 a).toNat 0 = n ∧ s.getD (cellM 2 a).toNat 0 = n ∧ ∀ j : Nat, j ≠ (cellM 0 a).toNat → j ≠ (cellM 1 a).toNat → j ≠ (cellM 2 a).toNat → s.getD j 0 = 0
theorem Cnt.other {a b : Int} {s : List Int} (v : Cnt a 15 s) (ha : 0 ≤ a) (hb : 0 ≤ b) : countM s b < 15 ↔ (cellM 0 a ≠ cellM 0 b ∨ cellM 1 a ≠ cellM 1 b ∨ cellM 2 a ≠ cellM 2 b) := by
  obtain ⟨vs, e0, e1, e2, eo⟩ := v
  have a0 := cellM_range (row := 0) (by omega) ha
  have a1 := cellM_range (row := 1) (by omega) ha
  have a2 := cellM_range (row := 2) (by omega) ha
  have b0 := cellM_range (row := 0) (by omega) hb
  have b1 := cellM_range (row := 1) (by omega) hb
  have b2 := cellM_range (row := 2) (by omega) hb
  have g0 : s.getD (cellM 0 b).toNat 0 = if cellM 0 a = cellM 0 b then 15 else 0 := by
    split
    · rename_i h; rw [← h]; exact e0
    · exact eo _ (by omega) (by omega) (by omega)
  have g1 : s.getD (cellM 1 b).toNat 0 = if cellM 1 a = cellM 1 b then 15 else 0 := by
    split
    · rename_i h; rw [← h]; exact e1
    · exact eo _ (by omega) (by omega) (by omega)
  have g2 : s.getD (cellM 2 b).toNat 0 = if cellM 2 a = cellM 2 b then 15 else 0 := by
    split
    · rename_i h; rw [← h]; exact e2
    · exact eo _ (by omega) (by omega) (by omega)
  unfold countM
  rw [g0, g1, g2]
  by_cases h0 : cellM 0 a = cellM 0 b
  · by_cases h1 : cellM 1 a = cellM 1 b
    · by_cases h2 : cellM 2 a = cellM 2 b
      · rw [if_pos h0, if_pos h1, if_pos h2]; simp [min2, h0, h1, h2]
      · rw [if_pos h0, if_pos h1, if_neg h2]; simp [min2, h2]
    · by_cases h2 : cellM 2 a = cellM 2 b
      · rw [if_pos h0, if_neg h1, if_pos h2]; simp [min2, h1]
      · rw [if_pos h0, if_neg h1, if_neg h2]; simp [min2, h1]
  · by_cases h1 : cellM 1 a = cellM 1 b
    · by_cases h2 : cellM 2 a = cellM 2 b
      · rw [if_neg h0, if_pos h1, if_pos h2]; simp [min2, h0]
      · rw [if_neg h0, if_pos h1, if_neg h2]; simp [min2, h0]
    · by_cases h2 : cellM 2 a = cellM 2 b
      · rw [if_neg h0, if_neg h1, if_pos h2]; simp [min2, h0]
      · rw [if_neg h0, if_neg h1, if_neg h2]; simp [min2, h0]

def PTm (l : List (Int × Int)) : Prop := (∀ e ∈ l, (0 ≤ e.1 ∧ e.1 ≤ 31) ∧ 0 ≤ e.2 ∧ e.2 ≤ 1000) ∧ l.Pairwise fun a b => a.1 < b.1
def VTm (l : List (Int × Int)) : Prop := l.length ≤ 12 ∧ PTm l
theorem PTm.lt {l : List (Int × Int)} (v : PTm l) {i j : Nat} (h : i < j) (hj : j < l.length) : (l.getD i ((0 : Int), (0 : Int))).1 < (l.getD j ((0 : Int), (0 : Int))).1 := by
  have := List.pairwise_iff_getElem.1 v.2 i j (by omega) hj h
  rw [List.getD_eq_getElem?_getD, List.getElem?_eq_getElem (by omega), List.getD_eq_getElem?_getD, List.getElem?_eq_getElem hj]
  exact this
theorem PTm.filter {l : List (Int × Int)} (v : PTm l) (p : Int × Int → Bool) : PTm (l.filter p) := ⟨fun e he => v.1 e (List.mem_filter.1 he).1, v.2.filter p⟩
def dropM (l : List (Int × Int)) (now : Int) : List (Int × Int) := l.filter fun e => decide (now ≤ e.2)
theorem dropM_len (l : List (Int × Int)) (now : Int) : (dropM l now).length ≤ l.length := List.length_filter_le _ _
theorem VTm.drop {l : List (Int × Int)} (v : VTm l) (now : Int) : VTm (dropM l now) := ⟨Nat.le_trans (dropM_len l now) v.1, v.2.filter _⟩
-- laws.toIntS
def T0_laws_toIntS (a0 : List Int) (xi4 : Int) (xy7 : List Int) (k : List Int → Prop) (B0 : Int → List Int → Prop) : Prop :=
  br (decide (xi4 < (a0.length : Int)))
  ((0 ≤ xi4 ∧ xi4 < (a0.length : Int)) ∧
    (0 ≤ xi4 ∧ xi4 < (xy7.length : Int)) ∧
    InR (xi4 + 1) ∧
    B0 (xi4 + 1) (List.set xy7 (Int.toNat xi4) (List.getD a0 (Int.toNat xi4) (0 : Int))))
  (k xy7)
def L0_laws_toIntS (a0 : List Int) (k : List Int → Prop) : Nat → Int → List Int → Prop
  | 0, _, _ => False
  | n + 1, xi4, xy7 => T0_laws_toIntS a0 xi4 xy7 k (L0_laws_toIntS a0 k n)
def G_laws_toIntS (a0 : List Int) (I0 : List Int → Int → List Int → Prop) : Prop :=
  ((a0.length : Int) = (a0.length : Int) ∧ 0 ≤ (a0.length : Int) ∧ (a0.length : Int) ≤ 1000000000) ∧
  I0 a0 0 (List.replicate (Int.toNat (a0.length : Int)) (0 : Int))
def S_laws_toIntS (a0 : List Int) (k : List Int → Prop) : Prop := G_laws_toIntS a0 (fun a0 xi4 xy7 => ∃ j, L0_laws_toIntS a0 k j xi4 xy7)
def F_laws_toIntS (a : List Int) (k : List Int → Prop) : Prop := a.length ≤ 1000000000 ∧ k a
theorem F_laws_toIntS_S {a : List Int} {k : List Int → Prop} (h : F_laws_toIntS a k) : S_laws_toIntS a k := by
  obtain ⟨hl, hk⟩ := h
  have key : ∀ (r : List Int) (i : Nat) (out : List Int), a.drop i = r → out.length = a.length → out.take i = a.take i → L0_laws_toIntS a k (r.length + 1) (i : Int) out := by
    intro r
    induction r with
    | nil =>
      intro i out hd ho he
      have := drop_nil' hd
      rw [L0_laws_toIntS, T0_laws_toIntS]
      rw [List.take_of_length_le (by omega), List.take_of_length_le (by omega)] at he
      refine br_dec.2 ⟨fun h => by omega, fun _ => ?_⟩
      rw [he]; exact hk
    | cons x r ih =>
      intro i out hd ho he
      obtain ⟨h1, h2, _, h3, h4⟩ := drop_cons' hd
      rw [List.length_cons, L0_laws_toIntS, T0_laws_toIntS]
      simp only [br_dec, Int.toNat_natCast, h2]
      refine ⟨fun _ => ⟨⟨by omega, by omega⟩, ⟨by omega, by omega⟩, inR (by omega) (by omega), ih (i + 1) _ h3 (by simpa using ho) ?_⟩, fun h => by omega⟩
      rw [take_set_succ (by omega), h4, he]
  exact ⟨⟨rfl, by omega, by omega⟩, _, key a 0 _ rfl (by simp) (by simp)⟩
-- spec.inRange
def G_spec_inRange (n0 : Int) (low1 : Int) (high2 : Int) (k : Bool → Prop) : Prop :=
  br (decide (low1 ≤ n0))
  (k (decide (n0 ≤ high2)))
  (k false)
def S_spec_inRange (n0 : Int) (low1 : Int) (high2 : Int) (k : Bool → Prop) : Prop := G_spec_inRange n0 low1 high2 k
def F_spec_inRange (n low high : Int) (k : Bool → Prop) : Prop := k (decide (low ≤ n ∧ n ≤ high))
theorem F_spec_inRange_S {n low high : Int} {k : Bool → Prop} (h : F_spec_inRange n low high k) : S_spec_inRange n low high k := by
  unfold F_spec_inRange at h
  simp only [S_spec_inRange, G_spec_inRange, br_dec]
  refine ⟨fun h1 => ?_, fun h1 => ?_⟩
  · simpa [h1] using h
  · simpa [h1] using h
-- spec.allIn
def T0_spec_allIn (high2 : Int) (list0 : List Int) (low1 : Int) (xi7 : Int) (k : Bool → Prop) (B0 : Int → Prop) : Prop :=
  br (decide (xi7 < (list0.length : Int)))
  ((0 ≤ xi7 ∧ xi7 < (list0.length : Int)) ∧
    F_spec_inRange (List.getD list0 (Int.toNat xi7) (0 : Int)) low1 high2 fun inRange20 =>
    br (!inRange20)
    (k false)
    (InR (xi7 + 1) ∧
      B0 (xi7 + 1)))
  (k true)
def L0_spec_allIn (high2 : Int) (list0 : List Int) (low1 : Int) (k : Bool → Prop) : Nat → Int → Prop
  | 0, _ => False
  | n + 1, xi7 => T0_spec_allIn high2 list0 low1 xi7 k (L0_spec_allIn high2 list0 low1 k n)
def G_spec_allIn (list0 : List Int) (low1 : Int) (high2 : Int) (I0 : Int → List Int → Int → Int → Prop) : Prop :=
  I0 high2 list0 low1 0
def S_spec_allIn (list0 : List Int) (low1 : Int) (high2 : Int) (k : Bool → Prop) : Prop := G_spec_allIn list0 low1 high2 (fun high2 list0 low1 xi7 => ∃ j, L0_spec_allIn high2 list0 low1 k j xi7)
def F_spec_allIn (l : List Int) (low high : Int) (k : Bool → Prop) : Prop := l.length ≤ 1000000000 ∧ k (decide (∀ x ∈ l, low ≤ x ∧ x ≤ high))
theorem F_spec_allIn_S {l : List Int} {low high : Int} {k : Bool → Prop} (h : F_spec_allIn l low high k) : S_spec_allIn l low high k := by
  obtain ⟨hl, hk⟩ := h
  have key : ∀ (r : List Int) (i : Nat), l.drop i = r → ((∀ x ∈ r, low ≤ x ∧ x ≤ high) ↔ (∀ x ∈ l, low ≤ x ∧ x ≤ high)) → L0_spec_allIn high l low k (r.length + 1) (i : Int) := by
    intro r
    induction r with
    | nil =>
      intro i hd he
      have := drop_nil' hd
      rw [L0_spec_allIn, T0_spec_allIn]
      simp only [br_dec]
      refine ⟨fun h => by omega, fun _ => ?_⟩
      rwa [decide_eq_true (he.1 (by simp))] at hk
    | cons x r ih =>
      intro i hd he
      obtain ⟨h1, h2, _, h3, _⟩ := drop_cons' hd
      rw [List.length_cons, L0_spec_allIn, T0_spec_allIn]
      simp only [br_dec, F_spec_inRange, br_not, Int.toNat_natCast, h2]
      refine ⟨fun _ => ⟨⟨by omega, by omega⟩, fun hx => ⟨inR (by omega) (by omega), ?_⟩, fun hx => ?_⟩, fun h => by omega⟩
      · refine ih (i + 1) h3 (Iff.trans ?_ he)
        simp only [List.mem_cons, forall_eq_or_imp]
        exact ⟨fun h => ⟨hx, h⟩, fun h => h.2⟩
      · rwa [decide_eq_false (fun h => hx (he.2 h x (by simp)))] at hk
  exact ⟨_, key l 0 rfl Iff.rfl⟩
-- spec.validTrace
def G_spec_validTrace (t0 : List Int) (k : Bool → Prop) : Prop :=
  br (decide ((t0.length : Int) ≤ 24))
  (F_spec_allIn t0 (0 : Int) (31 : Int) fun allIn8 =>
    k allIn8)
  (k false)
def S_spec_validTrace (t0 : List Int) (k : Bool → Prop) : Prop := G_spec_validTrace t0 k
def F_spec_validTrace (t : List Int) (k : Bool → Prop) : Prop := ∀ b : Bool, (b = true ↔ VTrace t) → k b
theorem F_spec_validTrace_S {t : List Int} {k : Bool → Prop} (h : F_spec_validTrace t k) : S_spec_validTrace t k :=
  br_dec.2 ⟨fun h1 => ⟨by omega, h _ (by simp only [decide_eq_true_eq]; exact ⟨fun h2 => ⟨by omega, h2⟩, fun v => v.2⟩)⟩, fun h1 => h false (by simp only [Bool.false_eq_true, false_iff]; exact fun v => h1 (by have := v.1; omega))⟩
-- spec.placeOf
def T0_spec_placeOf (list0 : List Int) (n1 : Int) (xi5 : Int) (k : Int → Prop) (B0 : Int → Prop) : Prop :=
  br (decide (xi5 < (list0.length : Int)))
  ((0 ≤ xi5 ∧ xi5 < (list0.length : Int)) ∧
    br ((List.getD list0 (Int.toNat xi5) (0 : Int)) == n1)
    (k xi5)
    (InR (xi5 + 1) ∧
      B0 (xi5 + 1)))
  (k (-1))
def L0_spec_placeOf (list0 : List Int) (n1 : Int) (k : Int → Prop) : Nat → Int → Prop
  | 0, _ => False
  | n + 1, xi5 => T0_spec_placeOf list0 n1 xi5 k (L0_spec_placeOf list0 n1 k n)
def G_spec_placeOf (list0 : List Int) (n1 : Int) (I0 : List Int → Int → Int → Prop) : Prop :=
  I0 list0 n1 0
def S_spec_placeOf (list0 : List Int) (n1 : Int) (k : Int → Prop) : Prop := G_spec_placeOf list0 n1 (fun list0 n1 xi5 => ∃ j, L0_spec_placeOf list0 n1 k j xi5)
def F_spec_placeOf (l : List Int) (n : Int) (k : Int → Prop) : Prop := l.length ≤ 1000000000 ∧ k (plc l n)
theorem F_spec_placeOf_S {l : List Int} {n : Int} {k : Int → Prop} (h : F_spec_placeOf l n k) : S_spec_placeOf l n k := by
  obtain ⟨hl, hk⟩ := h
  have key : ∀ (r : List Int) (i : Nat), l.drop i = r → plcF r n i = plc l n → L0_spec_placeOf l n k (r.length + 1) (i : Int) := by
    intro r
    induction r with
    | nil =>
      intro i hd he
      have := drop_nil' hd
      rw [L0_spec_placeOf, T0_spec_placeOf]
      simp only [br_dec]
      exact ⟨fun h => by omega, fun _ => by rw [show (-1 : Int) = plc l n from he]; exact hk⟩
    | cons x r ih =>
      intro i hd he
      obtain ⟨h1, h2, _, h3, _⟩ := drop_cons' hd
      rw [List.length_cons, L0_spec_placeOf, T0_spec_placeOf]
      simp only [br_dec, br_beq, Int.toNat_natCast, h2]
      refine ⟨fun _ => ⟨⟨by omega, by omega⟩, fun hx => ?_, fun hx => ⟨inR (by omega) (by omega), ?_⟩⟩, fun h => by omega⟩
      · simp only [plcF, if_pos hx] at he; rw [he]; exact hk
      · simp only [plcF, if_neg hx] at he; exact ih (i + 1) h3 he
  exact ⟨_, key l 0 rfl rfl⟩
-- spec.without
def G_spec_without (list0 : List Int) (at1 : Int) (k : List Int → Prop) : Prop :=
  (0 ≤ at1 ∧ at1 ≤ (list0.length : Int)) ∧
  InR (at1 + 1) ∧
  (0 ≤ (at1 + 1) ∧ (at1 + 1) ≤ (list0.length : Int)) ∧
  (((0 + (List.length (List.take (Int.toNat at1) list0)) ≤ 1000000000) ∧
      (((List.length (List.take (Int.toNat at1) list0)) + (List.length (List.drop (Int.toNat (at1 + 1)) list0)) ≤ 1000000000) ∧
        k ((List.take (Int.toNat at1) list0) ++ (List.drop (Int.toNat (at1 + 1)) list0))) ∧
      (True)) ∧
    (True)) ∧
  (True)
def H_spec_without (list0 : List Int) (at1 : Int) (k : List Int → Prop) : Prop :=
  (0 ≤ at1 ∧ at1 ≤ (list0.length : Int)) ∧
  InR (at1 + 1) ∧
  (0 ≤ (at1 + 1) ∧ (at1 + 1) ≤ (list0.length : Int)) ∧
  (0 + (List.length (List.take (Int.toNat at1) list0)) ≤ 1000000000) ∧
  ((List.length (List.take (Int.toNat at1) list0)) + (List.length (List.drop (Int.toNat (at1 + 1)) list0)) ≤ 1000000000) ∧
  k ((List.take (Int.toNat at1) list0) ++ (List.drop (Int.toNat (at1 + 1)) list0))
theorem G_spec_without_eq (list0 : List Int) (at1 : Int) (k : List Int → Prop) : G_spec_without list0 at1 k = H_spec_without list0 at1 k := by
  simp only [G_spec_without, H_spec_without, and_self, and_true]
def S_spec_without (list0 : List Int) (at1 : Int) (k : List Int → Prop) : Prop := H_spec_without list0 at1 k
def F_spec_without (l : List Int) (at1 : Int) (k : List Int → Prop) : Prop := (0 ≤ at1 ∧ at1 < l.length ∧ l.length ≤ 1000000000) ∧ k (l.take at1.toNat ++ l.drop (at1.toNat + 1))
theorem F_spec_without_S {l : List Int} {at1 : Int} {k : List Int → Prop} (h : F_spec_without l at1 k) : S_spec_without l at1 k := by
  obtain ⟨⟨h1, h2, h3⟩, hk⟩ := h
  have e : (at1 + 1).toNat = at1.toNat + 1 := by omega
  refine ⟨⟨by omega, by omega⟩, inR (by omega) (by omega), ⟨by omega, by omega⟩, by simp; omega, by simp; omega, ?_⟩
  rw [e]; exact hk
-- spec.recent
def G_spec_recent (list0 : List Int) (room1 : Int) (key2 : Int) (k : List Int → Bool → Prop) : Prop :=
  F_spec_placeOf list0 key2 fun placeOf12 =>
  br (decide (placeOf12 ≥ 0))
  (F_spec_without list0 placeOf12 fun without19 =>
    (1 + without19.length ≤ 1000000000) ∧
    k (([key2] : List Int) ++ without19) true)
  ((1 + list0.length ≤ 1000000000) ∧
    (0 ≤ (if ((List.length (([key2] : List Int) ++ list0)) : Int) < room1 then ((List.length (([key2] : List Int) ++ list0)) : Int) else room1) ∧ (if ((List.length (([key2] : List Int) ++ list0)) : Int) < room1 then ((List.length (([key2] : List Int) ++ list0)) : Int) else room1) ≤ ((List.length (([key2] : List Int) ++ list0)) : Int)) ∧
    k (List.take (Int.toNat (if ((List.length (([key2] : List Int) ++ list0)) : Int) < room1 then ((List.length (([key2] : List Int) ++ list0)) : Int) else room1)) (List.drop 0 (([key2] : List Int) ++ list0))) false)
def S_spec_recent (list0 : List Int) (room1 : Int) (key2 : Int) (k : List Int → Bool → Prop) : Prop := G_spec_recent list0 room1 key2 k
def F_spec_recent (l : List Int) (room key : Int) (k : List Int → Bool → Prop) : Prop := VKeys l room ∧ k (recM l room key) (decide (key ∈ l))
theorem F_spec_recent_S {l : List Int} {room key : Int} {k : List Int → Bool → Prop} (h : F_spec_recent l room key k) : S_spec_recent l room key k := by
  obtain ⟨⟨v1, v2, v3, v4, v5⟩, hk⟩ := h
  refine ⟨by omega, br_dec.2 ⟨fun hp => ?_, fun hp => ?_⟩⟩
  · have hm := plc_ge.1 hp
    obtain ⟨j, j1, j2, _, j3⟩ := plc_pos hm
    rw [j3]
    refine ⟨⟨by omega, by omega, by omega⟩, ?_⟩
    rw [Int.toNat_natCast, rmK_erase v5 j2]
    have := rmK_len v5 hm
    refine ⟨by omega, ?_⟩
    rw [recM_hit v5 v3 hm, decide_eq_true hm] at hk; exact hk
  · have hm : key ∉ l := fun e => hp (plc_ge.2 e)
    refine ⟨by omega, ⟨?_, ?_⟩, ?_⟩
    · split <;> omega
    · split <;> omega
    · rw [recM_miss hm, decide_eq_false hm] at hk
      rw [List.drop_zero, take_min1]; exact hk
-- spec.toInt
def G_spec_toInt (b0 : Bool) (k : Int → Prop) : Prop :=
  br b0
  (k 1)
  (k 0)
def S_spec_toInt (b0 : Bool) (k : Int → Prop) : Prop := G_spec_toInt b0 k
def F_spec_toInt (b : Bool) (k : Int → Prop) : Prop := k (toI b)
theorem F_spec_toInt_S {b : Bool} {k : Int → Prop} (h : F_spec_toInt b k) : S_spec_toInt b k := by
  cases b <;> exact h
-- spec.RunRecent
def T0_spec_RunRecent (room1 : Int) (t0 : List Int) (xn7 : Int) (xi8 : Int) (xlist6 : List Int) (k : List Int → Int → Prop) (B0 : Int → Int → List Int → Prop) : Prop :=
  br (decide (xi8 < (t0.length : Int)))
  ((0 ≤ xi8 ∧ xi8 < (t0.length : Int)) ∧
    F_spec_recent xlist6 room1 (List.getD t0 (Int.toNat xi8) (0 : Int)) fun recent32r0 recent32r1 =>
    F_spec_toInt recent32r1 fun toInt37 =>
    InR (xn7 + toInt37) ∧
    InR (xi8 + 1) ∧
    B0 (xn7 + toInt37) (xi8 + 1) recent32r0)
  ((0 + xlist6.length ≤ 1000000000) ∧
    k xlist6 xn7)
def L0_spec_RunRecent (room1 : Int) (t0 : List Int) (k : List Int → Int → Prop) : Nat → Int → Int → List Int → Prop
  | 0, _, _, _ => False
  | n + 1, xn7, xi8, xlist6 => T0_spec_RunRecent room1 t0 xn7 xi8 xlist6 k (L0_spec_RunRecent room1 t0 k n)
def G_spec_RunRecent (t0 : List Int) (room1 : Int) (k : List Int → Int → Prop) (I0 : Int → List Int → Int → Int → List Int → Prop) : Prop :=
  F_spec_validTrace t0 fun validTrace11 =>
  br (!validTrace11)
  (k ([] : List Int) (-1))
  (F_spec_inRange room1 (1 : Int) (8 : Int) fun inRange15 =>
    br (!inRange15)
    (k ([] : List Int) (-1))
    (I0 room1 t0 0 0 ([] : List Int)))
def S_spec_RunRecent (t0 : List Int) (room1 : Int) (k : List Int → Int → Prop) : Prop := G_spec_RunRecent t0 room1 k (fun room1 t0 xn7 xi8 xlist6 => ∃ j, L0_spec_RunRecent room1 t0 k j xn7 xi8 xlist6)
def F_spec_RunRecent (t : List Int) (room : Int) (k : List Int → Int → Prop) : Prop :=
  ((VTrace t ∧ 1 ≤ room ∧ room ≤ 8) → k (runR room t [] 0).1 (runR room t [] 0).2) ∧ (¬ (VTrace t ∧ 1 ≤ room ∧ room ≤ 8) → k [] (-1))
theorem F_spec_RunRecent_S {t : List Int} {room : Int} {k : List Int → Int → Prop} (h : F_spec_RunRecent t room k) : S_spec_RunRecent t room k := by
  obtain ⟨hyes, hno⟩ := h
  intro b hb
  rw [br_not, br_iff]
  refine ⟨fun e => br_not.2 (br_dec.2 ⟨fun hr => ?_, fun hr => hno fun w => hr w.2⟩), fun e => hno fun v => by rw [hb.2 v.1] at e; cases e⟩
  have v := hb.1 e
  have hk := hyes ⟨v, hr⟩
  have t2 := v.2
  have t1 := v.1
  have key : ∀ (r : List Int) (i : Nat) (l : List Int) (n : Int), t.drop i = r → VKeys l room → 0 ≤ n → n ≤ i → k (runR room r l n).1 (runR room r l n).2 → L0_spec_RunRecent room t k (r.length + 1) n (i : Int) l := by
    intro r
    induction r with
    | nil =>
      intro i l n hdr v n0 n1 hk
      have := drop_nil' hdr
      have := vkeys_len v
      rw [L0_spec_RunRecent, T0_spec_RunRecent]
      simp only [br_dec]
      exact ⟨fun h => by omega, fun _ => ⟨by omega, hk⟩⟩
    | cons x r ih =>
      intro i l n hdr v n0 n1 hk
      obtain ⟨h1, h2, h5, h3, h4⟩ := drop_cons' hdr
      have hx := t2 x (List.mem_of_getElem? h5)
      rw [List.length_cons, L0_spec_RunRecent, T0_spec_RunRecent]
      simp only [br_dec, Int.toNat_natCast, h2]
      have := toI_01 (decide (x ∈ l))
      exact ⟨fun _ => ⟨⟨by omega, by omega⟩, v, inR (by omega) (by omega), inR (by omega) (by omega), ih (i + 1) _ _ h3 (recM_valid v hx) (by omega) (by omega) hk⟩, fun h => by omega⟩
  exact ⟨_, key t 0 [] 0 rfl (keys0 hr) (by omega) (by omega) hk⟩
-- spec.isIn
def G_spec_isIn (list0 : List Int) (n1 : Int) (k : Bool → Prop) : Prop :=
  F_spec_placeOf list0 n1 fun placeOf7 =>
  k (decide (placeOf7 ≥ 0))
def S_spec_isIn (list0 : List Int) (n1 : Int) (k : Bool → Prop) : Prop := G_spec_isIn list0 n1 k
def F_spec_isIn (l : List Int) (n : Int) (k : Bool → Prop) : Prop := l.length ≤ 1000000000 ∧ k (decide (n ∈ l))
theorem F_spec_isIn_S {l : List Int} {n : Int} {k : Bool → Prop} (h : F_spec_isIn l n k) : S_spec_isIn l n k := by
  refine ⟨h.1, ?_⟩
  have : decide (plc l n ≥ 0) = decide (n ∈ l) := decide_eq_decide.2 plc_ge
  show k (decide (plc l n ≥ 0))
  rw [this]; exact h.2
-- spec.nextUse
def T0_spec_nextUse (key2 : Int) (t0 : List Int) (xi7 : Int) (k : Int → Prop) (B0 : Int → Prop) : Prop :=
  br (decide (xi7 < (t0.length : Int)))
  ((0 ≤ xi7 ∧ xi7 < (t0.length : Int)) ∧
    br ((List.getD t0 (Int.toNat xi7) (0 : Int)) == key2)
    (k xi7)
    (InR (xi7 + 1) ∧
      B0 (xi7 + 1)))
  (k (t0.length : Int))
def L0_spec_nextUse (key2 : Int) (t0 : List Int) (k : Int → Prop) : Nat → Int → Prop
  | 0, _ => False
  | n + 1, xi7 => T0_spec_nextUse key2 t0 xi7 k (L0_spec_nextUse key2 t0 k n)
def G_spec_nextUse (t0 : List Int) (from1 : Int) (key2 : Int) (I0 : Int → List Int → Int → Prop) : Prop :=
  I0 key2 t0 from1
def S_spec_nextUse (t0 : List Int) (from1 : Int) (key2 : Int) (k : Int → Prop) : Prop := G_spec_nextUse t0 from1 key2 (fun key2 t0 xi7 => ∃ j, L0_spec_nextUse key2 t0 k j xi7)
def F_spec_nextUse (t : List Int) (i key : Int) (k : Int → Prop) : Prop := (0 ≤ i ∧ i ≤ t.length ∧ t.length ≤ 1000000000) ∧ k (nextM t i key)
theorem F_spec_nextUse_S {t : List Int} {i key : Int} {k : Int → Prop} (h : F_spec_nextUse t i key k) : S_spec_nextUse t i key k := by
  obtain ⟨⟨h0, h1, h2⟩, hk⟩ := h
  have go : ∀ (m j : Nat), j + m = t.length → (j : Int) + (nxt key (t.drop j) : Int) = nextM t i key → L0_spec_nextUse key t k (m + 1) (j : Int) := by
    intro m
    induction m with
    | zero =>
      intro j hj he
      rw [L0_spec_nextUse, T0_spec_nextUse]
      refine br_dec.2 ⟨fun h => by omega, fun _ => ?_⟩
      rw [List.drop_of_length_le (by omega)] at he
      simp only [nxt] at he
      rw [show (t.length : Int) = nextM t i key by omega]; exact hk
    | succ m ih =>
      intro j hj he
      rw [nxt_drop (by omega)] at he
      rw [L0_spec_nextUse, T0_spec_nextUse]
      simp only [br_dec, br_beq, Int.toNat_natCast]
      refine ⟨fun _ => ⟨⟨by omega, by omega⟩, fun e => ?_, fun e => ⟨inR (by omega) (by omega), ?_⟩⟩, fun h => by omega⟩
      · rw [if_pos e] at he
        rw [show (j : Int) = nextM t i key by omega]; exact hk
      · rw [if_neg e] at he
        exact ih (j + 1) (by omega) (by omega)
  have := go (t.length - i.toNat) i.toNat (by omega) (by unfold nextM; omega)
  rw [Int.toNat_of_nonneg h0] at this
  exact ⟨_, this⟩
-- spec.farthest
def T0_spec_farthest (from1 : Int) (list2 : List Int) (t0 : List Int) (xat7 : Int) (xi8 : Int) (k : Int → Prop) (B0 : Int → Int → Prop) : Prop :=
  br (decide (xi8 < (list2.length : Int)))
  ((0 ≤ xi8 ∧ xi8 < (list2.length : Int)) ∧
    (0 ≤ xat7 ∧ xat7 < (list2.length : Int)) ∧
    (F_spec_nextUse t0 from1 (List.getD list2 (Int.toNat xi8) (0 : Int)) fun nextUse21 =>
      (F_spec_nextUse t0 from1 (List.getD list2 (Int.toNat xat7) (0 : Int)) fun nextUse28 =>
        br (decide (nextUse21 > nextUse28))
        (InR (xi8 + 1) ∧
          B0 xi8 (xi8 + 1))
        (InR (xi8 + 1) ∧
          B0 xat7 (xi8 + 1))) ∧
      (True)) ∧
    (True))
  (k xat7)
def U0_spec_farthest (from1 : Int) (list2 : List Int) (t0 : List Int) (xat7 : Int) (xi8 : Int) (k : Int → Prop) (B0 : Int → Int → Prop) : Prop :=
  br (decide (xi8 < (list2.length : Int)))
  ((0 ≤ xi8 ∧ xi8 < (list2.length : Int)) ∧
    (0 ≤ xat7 ∧ xat7 < (list2.length : Int)) ∧
    F_spec_nextUse t0 from1 (List.getD list2 (Int.toNat xi8) (0 : Int)) fun nextUse21 =>
    F_spec_nextUse t0 from1 (List.getD list2 (Int.toNat xat7) (0 : Int)) fun nextUse28 =>
    br (decide (nextUse21 > nextUse28))
    (InR (xi8 + 1) ∧
      B0 xi8 (xi8 + 1))
    (InR (xi8 + 1) ∧
      B0 xat7 (xi8 + 1)))
  (k xat7)
theorem T0_spec_farthest_eq (from1 : Int) (list2 : List Int) (t0 : List Int) (xat7 : Int) (xi8 : Int) (k : Int → Prop) (B0 : Int → Int → Prop) : T0_spec_farthest from1 list2 t0 xat7 xi8 k B0 = U0_spec_farthest from1 list2 t0 xat7 xi8 k B0 := by
  simp only [T0_spec_farthest, U0_spec_farthest, and_self, and_true]
def L0_spec_farthest (from1 : Int) (list2 : List Int) (t0 : List Int) (k : Int → Prop) : Nat → Int → Int → Prop
  | 0, _, _ => False
  | n + 1, xat7, xi8 => U0_spec_farthest from1 list2 t0 xat7 xi8 k (L0_spec_farthest from1 list2 t0 k n)
def G_spec_farthest (t0 : List Int) (from1 : Int) (list2 : List Int) (I0 : Int → List Int → List Int → Int → Int → Prop) : Prop :=
  I0 from1 list2 t0 0 1
def S_spec_farthest (t0 : List Int) (from1 : Int) (list2 : List Int) (k : Int → Prop) : Prop := G_spec_farthest t0 from1 list2 (fun from1 list2 t0 xat7 xi8 => ∃ j, L0_spec_farthest from1 list2 t0 k j xat7 xi8)
def F_spec_farthest (t : List Int) (i : Int) (l : List Int) (k : Int → Prop) : Prop := (0 ≤ i ∧ i ≤ t.length ∧ t.length ≤ 1000000 ∧ 0 < l.length ∧ l.length ≤ 1000000) ∧ k (plc l (farM (t.drop i.toNat) l))
theorem F_spec_farthest_S {t : List Int} {i : Int} {l : List Int} {k : Int → Prop} (h : F_spec_farthest t i l k) : S_spec_farthest t i l k := by
  obtain ⟨⟨h0, h1, h2, h3, h4⟩, hk⟩ := h
  have go : ∀ (m j : Nat), 0 < j → j + m = l.length → L0_spec_farthest i l t k (m + 1) (plc l (farM (t.drop i.toNat) (l.take j))) (j : Int) := by
    intro m
    induction m with
    | zero =>
      intro j hp hj
      rw [L0_spec_farthest, U0_spec_farthest, List.take_of_length_le (by omega)]
      exact br_dec.2 ⟨fun h => by omega, fun _ => hk⟩
    | succ m ih =>
      intro j hp hj
      have hl : (l.take j).length = j := by rw [List.length_take]; omega
      have hm := farM_mem (r := t.drop i.toNat) (C := l.take j) (by omega)
      have hm2 := mem_take_plc.1 hm
      have hg := some_of (l := l) (i := j) (d := 0) (by omega)
      have e : l.take (j + 1) = l.take j ++ [l.getD j 0] := by
        rw [List.take_add_one, hg]; rfl
      have next := ih (j + 1) (by omega) (by omega)
      rw [e, farM_snoc (by omega)] at next
      have hat : l.getD (plc l (farM (t.drop i.toNat) (l.take j))).toNat 0 = farM (t.drop i.toNat) (l.take j) := by
        obtain ⟨q, q1, q2, _, q4⟩ := plc_pos (List.mem_of_mem_take hm)
        rw [q4, Int.toNat_natCast]; exact getD_of q2
      rw [L0_spec_farthest, U0_spec_farthest]
      simp only [br_dec, Int.toNat_natCast]
      rw [hat]
      refine ⟨fun _ => ⟨⟨by omega, by omega⟩, ⟨by omega, by omega⟩, ⟨by omega, by omega, by omega⟩, ⟨by omega, by omega, by omega⟩, fun g => ⟨inR (by omega) (by omega), ?_⟩, fun g => ⟨inR (by omega) (by omega), ?_⟩⟩, fun h => by omega⟩
      · have g2 : nxt (farM (t.drop i.toNat) (l.take j)) (t.drop i.toNat) < nxt (l.getD j 0) (t.drop i.toNat) := by unfold nextM at g; omega
        rw [if_pos g2] at next
        have hnew : l.getD j 0 ∉ l.take j := fun c => by have := farM_max (r := t.drop i.toNat) c; omega
        have : plc l (l.getD j 0) = (j : Int) := by
          have a1 := mem_take_plc.1 (show l.getD j 0 ∈ l.take (j + 1) by rw [e]; simp)
          have a2 : ¬ (0 ≤ plc l (l.getD j 0) ∧ plc l (l.getD j 0) < (j : Nat)) := fun c => hnew (mem_take_plc.2 c)
          omega
        rw [this] at next
        exact next
      · have g2 : ¬ nxt (farM (t.drop i.toNat) (l.take j)) (t.drop i.toNat) < nxt (l.getD j 0) (t.drop i.toNat) := by unfold nextM at g; omega
        rw [if_neg g2] at next
        exact next
  have := go (l.length - 1) 1 (by omega) (by omega)
  have e : l.take 1 = [l.getD 0 0] := by
    cases l with
    | nil => simp at h3
    | cons x l => rfl
  have e2 : plc l (farM (t.drop i.toNat) (l.take 1)) = 0 := by
    rw [e]
    show plc l (l.getD 0 0) = 0
    have a1 := mem_take_plc.1 (show l.getD 0 0 ∈ l.take 1 by rw [e]; simp)
    omega
  rw [e2] at this
  exact ⟨_, this⟩
-- spec.copyInts
def G_spec_copyInts (list0 : List Int) (k : List Int → Prop) : Prop :=
  (0 + list0.length ≤ 1000000000) ∧
  k list0
def S_spec_copyInts (list0 : List Int) (k : List Int → Prop) : Prop := G_spec_copyInts list0 k
def F_spec_copyInts (l : List Int) (k : List Int → Prop) : Prop := l.length ≤ 1000000000 ∧ k l
theorem F_spec_copyInts_S {l : List Int} {k : List Int → Prop} (h : F_spec_copyInts l k) : S_spec_copyInts l k := ⟨by have := h.1; omega, h.2⟩
-- spec.best
def T0_spec_best_j0 (copyInts35 : List Int) (t0 : List Int) (xi7 : Int) (xn6 : Int) (B0 : Int → Int → List Int → Prop) : Prop :=
  ((copyInts35.length + 1 ≤ 1000000000) ∧
    InR (xi7 + 1) ∧
    B0 xn6 (xi7 + 1) (copyInts35 ++ ([(List.getD t0 (Int.toNat xi7) (0 : Int))] : List Int))) ∧
  (True)
def T0_spec_best_j1 (copyInts35 : List Int) (t0 : List Int) (xi7 : Int) (xn6 : Int) (B0 : Int → Int → List Int → Prop) : Prop :=
  (T0_spec_best_j0 copyInts35 t0 xi7 xn6 B0) ∧
  (True)
def T0_spec_best (room1 : Int) (t0 : List Int) (xn6 : Int) (xi7 : Int) (xlist5 : List Int) (k : Int → Prop) (B0 : Int → Int → List Int → Prop) : Prop :=
  br (decide (xi7 < (t0.length : Int)))
  ((0 ≤ xi7 ∧ xi7 < (t0.length : Int)) ∧
    F_spec_isIn xlist5 (List.getD t0 (Int.toNat xi7) (0 : Int)) fun isIn20 =>
    br isIn20
    (InR (xn6 + 1) ∧
      InR (xi7 + 1) ∧
      B0 (xn6 + 1) (xi7 + 1) xlist5)
    (br ((xlist5.length : Int) == room1)
      (InR (xi7 + 1) ∧
        F_spec_farthest t0 (xi7 + 1) xlist5 fun farthest32 =>
        F_spec_without xlist5 farthest32 fun without33 =>
        (0 ≤ xi7 ∧ xi7 < (t0.length : Int)) ∧
        (F_spec_copyInts without33 fun copyInts35 =>
          T0_spec_best_j1 copyInts35 t0 xi7 xn6 B0) ∧
        (((F_spec_copyInts without33 fun copyInts35 =>
              T0_spec_best_j0 copyInts35 t0 xi7 xn6 B0) ∧
            (True)) ∧
          (True)))
      ((0 ≤ xi7 ∧ xi7 < (t0.length : Int)) ∧
        (F_spec_copyInts xlist5 fun copyInts35 =>
          T0_spec_best_j1 copyInts35 t0 xi7 xn6 B0) ∧
        (((F_spec_copyInts xlist5 fun copyInts35 =>
              T0_spec_best_j0 copyInts35 t0 xi7 xn6 B0) ∧
            (True)) ∧
          (True)))))
  (k xn6)
def U0_spec_best_j0 (copyInts35 : List Int) (t0 : List Int) (xi7 : Int) (xn6 : Int) (B0 : Int → Int → List Int → Prop) : Prop :=
  (copyInts35.length + 1 ≤ 1000000000) ∧
  InR (xi7 + 1) ∧
  B0 xn6 (xi7 + 1) (copyInts35 ++ ([(List.getD t0 (Int.toNat xi7) (0 : Int))] : List Int))
def U0_spec_best (room1 : Int) (t0 : List Int) (xn6 : Int) (xi7 : Int) (xlist5 : List Int) (k : Int → Prop) (B0 : Int → Int → List Int → Prop) : Prop :=
  br (decide (xi7 < (t0.length : Int)))
  ((0 ≤ xi7 ∧ xi7 < (t0.length : Int)) ∧
    F_spec_isIn xlist5 (List.getD t0 (Int.toNat xi7) (0 : Int)) fun isIn20 =>
    br isIn20
    (InR (xn6 + 1) ∧
      InR (xi7 + 1) ∧
      B0 (xn6 + 1) (xi7 + 1) xlist5)
    (br ((xlist5.length : Int) == room1)
      (InR (xi7 + 1) ∧
        F_spec_farthest t0 (xi7 + 1) xlist5 fun farthest32 =>
        F_spec_without xlist5 farthest32 fun without33 =>
        (0 ≤ xi7 ∧ xi7 < (t0.length : Int)) ∧
        F_spec_copyInts without33 fun copyInts35 =>
        U0_spec_best_j0 copyInts35 t0 xi7 xn6 B0)
      ((0 ≤ xi7 ∧ xi7 < (t0.length : Int)) ∧
        F_spec_copyInts xlist5 fun copyInts35 =>
        U0_spec_best_j0 copyInts35 t0 xi7 xn6 B0)))
  (k xn6)
theorem T0_spec_best_eq (room1 : Int) (t0 : List Int) (xn6 : Int) (xi7 : Int) (xlist5 : List Int) (k : Int → Prop) (B0 : Int → Int → List Int → Prop) : T0_spec_best room1 t0 xn6 xi7 xlist5 k B0 = U0_spec_best room1 t0 xn6 xi7 xlist5 k B0 := by
  simp only [T0_spec_best, U0_spec_best, T0_spec_best_j0, T0_spec_best_j1, U0_spec_best_j0, and_self, and_true]
def L0_spec_best (room1 : Int) (t0 : List Int) (k : Int → Prop) : Nat → Int → Int → List Int → Prop
  | 0, _, _, _ => False
  | n + 1, xn6, xi7, xlist5 => U0_spec_best room1 t0 xn6 xi7 xlist5 k (L0_spec_best room1 t0 k n)
def G_spec_best (t0 : List Int) (room1 : Int) (I0 : Int → List Int → Int → Int → List Int → Prop) : Prop :=
  I0 room1 t0 0 0 ([] : List Int)
def S_spec_best (t0 : List Int) (room1 : Int) (k : Int → Prop) : Prop := G_spec_best t0 room1 (fun room1 t0 xn6 xi7 xlist5 => ∃ j, L0_spec_best room1 t0 k j xn6 xi7 xlist5)
def F_spec_best (t : List Int) (room : Int) (k : Int → Prop) : Prop := (t.length ≤ 1000000 ∧ 1 ≤ room ∧ room ≤ 8) ∧ k (bestM room.toNat t [] : Int)
theorem F_spec_best_S {t : List Int} {room : Int} {k : Int → Prop} (h : F_spec_best t room k) : S_spec_best t room k := by
  obtain ⟨⟨h0, h1, h2⟩, hk⟩ := h
  have go : ∀ (r : List Int) (i : Nat) (n : Int) (C : List Int), t.drop i = r → 0 ≤ n → n ≤ i → C.Nodup → C.length ≤ room.toNat → n + (bestM room.toNat r C : Int) = (bestM room.toNat t [] : Int) → L0_spec_best room t k (r.length + 1) n (i : Int) C := by
    intro r
    induction r with
    | nil =>
      intro i n C hd n0 n1 hn hc he
      have := drop_nil' hd
      rw [L0_spec_best, U0_spec_best]
      refine br_dec.2 ⟨fun h => by omega, fun _ => ?_⟩
      rw [show n = (bestM room.toNat t [] : Int) by simpa [bestM] using he]; exact hk
    | cons x r ih =>
      intro i n C hd n0 n1 hn hc he
      obtain ⟨g1, g2, g5, g3, g4⟩ := drop_cons' hd
      rw [List.length_cons, L0_spec_best, U0_spec_best]
      simp only [Int.toNat_natCast, g2]
      refine br_dec.2 ⟨fun _ => ⟨⟨by omega, by omega⟩, by omega, br_dec.2 ⟨fun hm => ?_, fun hm => ?_⟩⟩, fun h => by omega⟩
      · rw [bestM, if_pos hm] at he
        exact ⟨inR (by omega) (by omega), inR (by omega) (by omega), ih (i + 1) _ C g3 (by omega) (by omega) hn hc (by omega)⟩
      · rw [bestM, if_neg hm] at he
        obtain ⟨m1, m2, m3, m4⟩ := missB_ok (room := room.toNat) (r := r) (by omega) hn hc hm
        have last := ih (i + 1) n (missB room.toNat r C x) g3 n0 (by omega) m1 m2 he
        refine br_beq.2 ⟨fun hf => ?_, fun hf => ?_⟩
        · have hp : 0 < C.length := by omega
          have hfm := farM_mem (r := r) (C := C) hp
          obtain ⟨j, j1, j2, _, j3⟩ := plc_pos hfm
          have e1 : C.take (plc C (farM r C)).toNat ++ C.drop ((plc C (farM r C)).toNat + 1) = rmK C (farM r C) := by
            rw [j3, Int.toNat_natCast]; exact rmK_erase hn j2
          have e2 : t.drop ((i : Int) + 1).toNat = r := by rw [show ((i : Int) + 1).toNat = i + 1 by omega]; exact g3
          refine ⟨inR (by omega) (by omega), ⟨by omega, by omega, by omega, by omega, by omega⟩, ?_⟩
          rw [e2]
          refine ⟨⟨by omega, by omega, by omega⟩, ⟨by omega, by omega⟩, ?_⟩
          rw [e1]
          have := @rmK_le C (farM r C)
          rw [missB, if_pos (by omega)] at last
          exact ⟨by omega, by omega, inR (by omega) (by omega), by first | exact last | (rw [Int.toNat_natCast, g2]; exact last)⟩
        · rw [missB, if_neg (by omega)] at last
          exact ⟨⟨by omega, by omega⟩, by omega, by omega, inR (by omega) (by omega), by first | exact last | (rw [Int.toNat_natCast, g2]; exact last)⟩
  exact ⟨_, go t 0 0 [] rfl (by omega) (by omega) (by simp) (by simp) (by omega)⟩
-- spec.MissesOver
def G_spec_MissesOver (t0 : List Int) (room1 : Int) (k : Int → Prop) : Prop :=
  F_spec_validTrace t0 fun validTrace8 =>
  br (!validTrace8)
  (k (-1))
  (F_spec_inRange room1 (1 : Int) (8 : Int) fun inRange12 =>
    br (!inRange12)
    (k (-1))
    (F_spec_RunRecent t0 room1 fun runRecent18r0 runRecent18r1 =>
      F_spec_best t0 room1 fun best23 =>
      InR (best23 - runRecent18r1) ∧
      k (best23 - runRecent18r1)))
def S_spec_MissesOver (t0 : List Int) (room1 : Int) (k : Int → Prop) : Prop := G_spec_MissesOver t0 room1 k
def F_spec_MissesOver (t : List Int) (room : Int) (k : Int → Prop) : Prop := (VTrace t ∧ 1 ≤ room ∧ room ≤ 8 → k (overM t room)) ∧ (¬ (VTrace t ∧ 1 ≤ room ∧ room ≤ 8) → k (-1))
theorem F_spec_MissesOver_S {t : List Int} {room : Int} {k : Int → Prop} (h : F_spec_MissesOver t room k) : S_spec_MissesOver t room k := by
  obtain ⟨hyes, hno⟩ := h
  intro b hb
  refine br_not.2 (br_iff.2 ⟨fun e => ?_, fun e => hno fun w => by rw [hb.2 w.1] at e; cases e⟩)
  have v := hb.1 e
  refine br_not.2 (br_dec.2 ⟨fun hr => ⟨fun _ => ⟨⟨by have := v.1; omega, hr.1, hr.2⟩, ?_, hyes ⟨v, hr⟩⟩, fun h => absurd ⟨v, hr⟩ h⟩, fun hr => hno fun w => hr w.2⟩)
  have h1 := (runR_valid t [] 0 (keys0 hr) v.2).2
  have h2 := best_le (room := room.toNat) t []
  have := v.1
  exact inR (by omega) (by omega)
-- impl.validKey
def G_impl_validKey (key0 : Int) (k : Bool → Prop) : Prop :=
  br (decide (0 ≤ key0))
  (k (decide (key0 ≤ 31)))
  (k false)
def S_impl_validKey (key0 : Int) (k : Bool → Prop) : Prop := G_impl_validKey key0 k
def F_impl_validKey (n : Int) (k : Bool → Prop) : Prop := k (decide (0 ≤ n ∧ n ≤ 31))
theorem F_impl_validKey_S {n : Int} {k : Bool → Prop} (h : F_impl_validKey n k) : S_impl_validKey n k := by
  unfold F_impl_validKey at h
  simp only [S_impl_validKey, G_impl_validKey, br_dec]
  refine ⟨fun h1 => ?_, fun h1 => ?_⟩
  · simpa [h1] using h
  · simpa [h1] using h
-- impl.ValidTrace
def T0_impl_ValidTrace (t0 : List Int) (xt9 : Int) (xt10 : Int) (k : Bool → Prop) (B0 : Int → Prop) : Prop :=
  br (decide (xt10 < xt9))
  ((0 ≤ xt10 ∧ xt10 < (t0.length : Int)) ∧
    F_impl_validKey (List.getD t0 (Int.toNat xt10) (0 : Int)) fun validKey15 =>
    br (!validKey15)
    (k false)
    (InR (xt10 + 1) ∧
      B0 (xt10 + 1)))
  (k true)
def L0_impl_ValidTrace (t0 : List Int) (xt9 : Int) (k : Bool → Prop) : Nat → Int → Prop
  | 0, _ => False
  | n + 1, xt10 => T0_impl_ValidTrace t0 xt9 xt10 k (L0_impl_ValidTrace t0 xt9 k n)
def G_impl_ValidTrace (t0 : List Int) (k : Bool → Prop) (I0 : List Int → Int → Int → Prop) : Prop :=
  br (decide ((t0.length : Int) > 24))
  (k false)
  (I0 t0 (t0.length : Int) 0)
def S_impl_ValidTrace (t0 : List Int) (k : Bool → Prop) : Prop := G_impl_ValidTrace t0 k (fun t0 xt9 xt10 => ∃ j, L0_impl_ValidTrace t0 xt9 k j xt10)
def F_impl_ValidTrace (t : List Int) (k : Bool → Prop) : Prop := ∀ b : Bool, (b = true ↔ VTrace t) → k b
theorem F_impl_ValidTrace_S {t : List Int} {k : Bool → Prop} (h : F_impl_ValidTrace t k) : S_impl_ValidTrace t k := by
  have hno : ¬ VTrace t → k false := fun hv => h false (by simp [hv])
  have key : t.length ≤ 24 → ∀ (r : List Int) (i : Nat), t.drop i = r → (∀ x ∈ t.take i, 0 ≤ x ∧ x ≤ 31) → L0_impl_ValidTrace t (t.length : Int) k (r.length + 1) (i : Int) := by
    intro hl r
    induction r with
    | nil =>
      intro i hd he
      have := drop_nil' hd
      rw [List.take_of_length_le this] at he
      rw [L0_impl_ValidTrace, T0_impl_ValidTrace]
      simp only [br_dec]
      exact ⟨fun h => by omega, fun _ => h true (by simp only [true_iff]; exact ⟨hl, he⟩)⟩
    | cons x r ih =>
      intro i hd he
      obtain ⟨h1, h2, h5, h3, h4⟩ := drop_cons' hd
      rw [List.length_cons, L0_impl_ValidTrace, T0_impl_ValidTrace]
      simp only [br_dec, F_impl_validKey, Int.toNat_natCast, h2, br_not]
      refine ⟨fun _ => ⟨⟨by omega, by omega⟩, fun hx => ⟨inR (by omega) (by omega), ih (i + 1) h3 ?_⟩, fun hx => hno fun v => hx (v.2 x (List.mem_of_getElem? h5))⟩, fun h => by omega⟩
      rw [h4]; intro y hy
      rcases List.mem_append.1 hy with hy | hy
      · exact he y hy
      · simp at hy; subst hy; exact hx
  exact br_dec.2 ⟨fun h3 => hno fun v => by have := v.1; omega, fun h3 => ⟨_, key (by omega) t 0 rfl (by simp)⟩⟩
-- impl.validRoom
def G_impl_validRoom (room0 : Int) (k : Bool → Prop) : Prop :=
  br (decide (1 ≤ room0))
  (k (decide (room0 ≤ 8)))
  (k false)
def S_impl_validRoom (room0 : Int) (k : Bool → Prop) : Prop := G_impl_validRoom room0 k
def F_impl_validRoom (n : Int) (k : Bool → Prop) : Prop := k (decide (1 ≤ n ∧ n ≤ 8))
theorem F_impl_validRoom_S {n : Int} {k : Bool → Prop} (h : F_impl_validRoom n k) : S_impl_validRoom n k := by
  unfold F_impl_validRoom at h
  simp only [S_impl_validRoom, G_impl_validRoom, br_dec]
  refine ⟨fun h1 => ?_, fun h1 => ?_⟩
  · simpa [h1] using h
  · simpa [h1] using h
-- slices.Index[[]int,int]
def T0_slices_Index_sint_int (s0 : List Int) (v1 : Int) (xt7 : Int) (xt8 : Int) (k : Int → Prop) (B0 : Int → Prop) : Prop :=
  br (decide (xt8 < xt7))
  ((0 ≤ xt8 ∧ xt8 < (s0.length : Int)) ∧
    br (v1 == (List.getD s0 (Int.toNat xt8) (0 : Int)))
    (k xt8)
    (InR (xt8 + 1) ∧
      B0 (xt8 + 1)))
  (k (-1))
def L0_slices_Index_sint_int (s0 : List Int) (v1 : Int) (xt7 : Int) (k : Int → Prop) : Nat → Int → Prop
  | 0, _ => False
  | n + 1, xt8 => T0_slices_Index_sint_int s0 v1 xt7 xt8 k (L0_slices_Index_sint_int s0 v1 xt7 k n)
def G_slices_Index_sint_int (s0 : List Int) (v1 : Int) (I0 : List Int → Int → Int → Int → Prop) : Prop :=
  I0 s0 v1 (s0.length : Int) 0
def S_slices_Index_sint_int (s0 : List Int) (v1 : Int) (k : Int → Prop) : Prop := G_slices_Index_sint_int s0 v1 (fun s0 v1 xt7 xt8 => ∃ j, L0_slices_Index_sint_int s0 v1 xt7 k j xt8)
def F_slices_Index_sint_int (l : List Int) (n : Int) (k : Int → Prop) : Prop := l.length ≤ 1000000000 ∧ k (plc l n)
theorem F_slices_Index_sint_int_S {l : List Int} {n : Int} {k : Int → Prop} (h : F_slices_Index_sint_int l n k) : S_slices_Index_sint_int l n k := by
  obtain ⟨hl, hk⟩ := h
  have key : ∀ (r : List Int) (i : Nat), l.drop i = r → plcF r n i = plc l n → L0_slices_Index_sint_int l n (l.length : Int) k (r.length + 1) (i : Int) := by
    intro r
    induction r with
    | nil =>
      intro i hd he
      have := drop_nil' hd
      rw [L0_slices_Index_sint_int, T0_slices_Index_sint_int]
      simp only [br_dec]
      exact ⟨fun h => by omega, fun _ => by rw [show (-1 : Int) = plc l n from he]; exact hk⟩
    | cons x r ih =>
      intro i hd he
      obtain ⟨h1, h2, _, h3, _⟩ := drop_cons' hd
      rw [List.length_cons, L0_slices_Index_sint_int, T0_slices_Index_sint_int]
      simp only [br_dec, br_beq, Int.toNat_natCast, h2]
      refine ⟨fun _ => ⟨⟨by omega, by omega⟩, fun hx => ?_, fun hx => ⟨inR (by omega) (by omega), ?_⟩⟩, fun h => by omega⟩
      · simp only [plcF, if_pos hx.symm] at he; rw [he]; exact hk
      · simp only [plcF, if_neg (Ne.symm hx)] at he; exact ih (i + 1) h3 he
  exact ⟨_, key l 0 rfl rfl⟩
-- slices.Contains[[]int,int]
def G_slices_Contains_sint_int (s0 : List Int) (v1 : Int) (k : Bool → Prop) : Prop :=
  F_slices_Index_sint_int s0 v1 fun index7 =>
  k (decide (index7 ≥ 0))
def S_slices_Contains_sint_int (s0 : List Int) (v1 : Int) (k : Bool → Prop) : Prop := G_slices_Contains_sint_int s0 v1 k
def F_slices_Contains_sint_int (l : List Int) (n : Int) (k : Bool → Prop) : Prop := l.length ≤ 1000000000 ∧ k (decide (n ∈ l))
theorem F_slices_Contains_sint_int_S {l : List Int} {n : Int} {k : Bool → Prop} (h : F_slices_Contains_sint_int l n k) : S_slices_Contains_sint_int l n k := by
  refine ⟨h.1, ?_⟩
  have : decide (plc l n ≥ 0) = decide (n ∈ l) := decide_eq_decide.2 plc_ge
  show k (decide (plc l n ≥ 0))
  rw [this]; exact h.2
-- impl.differentKeys
def T0_impl_differentKeys (list0 : List Int) (xt6 : Int) (xt7 : Int) (k : Bool → Prop) (B0 : Int → Prop) : Prop :=
  br (decide (xt7 < xt6))
  ((0 ≤ xt7 ∧ xt7 < (list0.length : Int)) ∧
    F_impl_validKey (List.getD list0 (Int.toNat xt7) (0 : Int)) fun validKey13 =>
    br (!validKey13)
    (k false)
    ((0 ≤ xt7 ∧ xt7 ≤ (list0.length : Int)) ∧
      F_slices_Contains_sint_int (List.take (Int.toNat xt7) list0) (List.getD list0 (Int.toNat xt7) (0 : Int)) fun contains20 =>
      br contains20
      (k false)
      (InR (xt7 + 1) ∧
        B0 (xt7 + 1))))
  (k true)
def L0_impl_differentKeys (list0 : List Int) (xt6 : Int) (k : Bool → Prop) : Nat → Int → Prop
  | 0, _ => False
  | n + 1, xt7 => T0_impl_differentKeys list0 xt6 xt7 k (L0_impl_differentKeys list0 xt6 k n)
def G_impl_differentKeys (list0 : List Int) (I0 : List Int → Int → Int → Prop) : Prop :=
  I0 list0 (list0.length : Int) 0
def S_impl_differentKeys (list0 : List Int) (k : Bool → Prop) : Prop := G_impl_differentKeys list0 (fun list0 xt6 xt7 => ∃ j, L0_impl_differentKeys list0 xt6 k j xt7)
def F_impl_differentKeys (l : List Int) (k : Bool → Prop) : Prop := l.length ≤ 1000000000 ∧ ∀ b : Bool, (b = true ↔ (∀ x ∈ l, 0 ≤ x ∧ x ≤ 31) ∧ l.Nodup) → k b
theorem F_impl_differentKeys_S {l : List Int} {k : Bool → Prop} (h : F_impl_differentKeys l k) : S_impl_differentKeys l k := by
  obtain ⟨hl, h⟩ := h
  have hno : ¬ ((∀ x ∈ l, 0 ≤ x ∧ x ≤ 31) ∧ l.Nodup) → k false := fun hv => h false (by simp only [Bool.false_eq_true, false_iff]; exact hv)
  have key : ∀ (r : List Int) (i : Nat), l.drop i = r → (∀ x ∈ l.take i, 0 ≤ x ∧ x ≤ 31) → (l.take i).Nodup → L0_impl_differentKeys l (l.length : Int) k (r.length + 1) (i : Int) := by
    intro r
    induction r with
    | nil =>
      intro i hd he hn
      have := drop_nil' hd
      rw [List.take_of_length_le this] at he hn
      rw [L0_impl_differentKeys, T0_impl_differentKeys]
      simp only [br_dec]
      exact ⟨fun h => by omega, fun _ => h true (by simp only [true_iff]; exact ⟨he, hn⟩)⟩
    | cons x r ih =>
      intro i hd he hn
      obtain ⟨h1, h2, h5, h3, h4⟩ := drop_cons' hd
      rw [List.length_cons, L0_impl_differentKeys, T0_impl_differentKeys]
      simp only [br_dec, F_impl_validKey, F_slices_Contains_sint_int, Int.toNat_natCast, h2, br_not]
      have hxl : x ∈ l := List.mem_of_getElem? h5
      refine ⟨fun _ => ⟨⟨by omega, by omega⟩, fun hx => ⟨⟨by omega, by omega⟩, by simp; omega, fun hc => ?_, fun hc => ⟨inR (by omega) (by omega), ?_⟩⟩, fun hx => hno fun v => hx (v.1 x hxl)⟩, fun h => by omega⟩
      · refine hno fun v => ?_
        have hn2 := v.2
        rw [← List.take_append_drop i l, hd] at hn2
        exact (List.nodup_append.1 hn2).2.2 x hc x (by simp) rfl
      · refine ih (i + 1) h3 ?_ ?_
        · rw [h4]; intro y hy
          rcases List.mem_append.1 hy with hy | hy
          · exact he y hy
          · simp at hy; subst hy; exact hx
        · rw [h4, List.nodup_append]
          refine ⟨hn, by simp, fun a ha b hb e => ?_⟩
          simp at hb; subst hb; subst e; exact hc ha
  exact ⟨_, key l 0 rfl (by simp) (by simp)⟩
-- impl.ValidKeys
def G_impl_ValidKeys (list0 : List Int) (room1 : Int) (k : Bool → Prop) : Prop :=
  F_impl_validRoom room1 fun validRoom6 =>
  br validRoom6
  (br (decide ((list0.length : Int) ≤ room1))
    (F_impl_differentKeys list0 fun differentKeys15 =>
      k differentKeys15)
    (k false))
  (k false)
def S_impl_ValidKeys (list0 : List Int) (room1 : Int) (k : Bool → Prop) : Prop := G_impl_ValidKeys list0 room1 k
def F_impl_ValidKeys (l : List Int) (room : Int) (k : Bool → Prop) : Prop := ∀ b : Bool, (b = true ↔ VKeys l room) → k b
theorem F_impl_ValidKeys_S {l : List Int} {room : Int} {k : Bool → Prop} (h : F_impl_ValidKeys l room k) : S_impl_ValidKeys l room k := by
  have hno : ¬ VKeys l room → k false := fun hv => h false (by simp [hv])
  refine br_dec.2 ⟨fun h1 => br_dec.2 ⟨fun h3 => ⟨by omega, fun b hb => h b ?_⟩, fun h3 => hno fun v => by have := v.2.2.1; omega⟩, fun h1 => hno fun v => h1 ⟨v.1, v.2.1⟩⟩
  rw [hb]
  exact ⟨fun g => ⟨h1.1, h1.2, h3, g.1, g.2⟩, fun v => v.2.2.2⟩
-- impl.withoutKey
def T0_impl_withoutKey (key1 : Int) (list0 : List Int) (xt10 : Int) (xt11 : Int) (xout5 : List Int) (k : List Int → Prop) (B0 : Int → List Int → Prop) : Prop :=
  br (decide (xt11 < xt10))
  ((0 ≤ xt11 ∧ xt11 < (list0.length : Int)) ∧
    br ((List.getD list0 (Int.toNat xt11) (0 : Int)) != key1)
    ((xout5.length + 1 ≤ 1000000000) ∧
      InR (xt11 + 1) ∧
      B0 (xt11 + 1) (xout5 ++ ([(List.getD list0 (Int.toNat xt11) (0 : Int))] : List Int)))
    (InR (xt11 + 1) ∧
      B0 (xt11 + 1) xout5))
  (k xout5)
def L0_impl_withoutKey (key1 : Int) (list0 : List Int) (xt10 : Int) (k : List Int → Prop) : Nat → Int → List Int → Prop
  | 0, _, _ => False
  | n + 1, xt11, xout5 => T0_impl_withoutKey key1 list0 xt10 xt11 xout5 k (L0_impl_withoutKey key1 list0 xt10 k n)
def G_impl_withoutKey (list0 : List Int) (key1 : Int) (I0 : Int → List Int → Int → Int → List Int → Prop) : Prop :=
  I0 key1 list0 (list0.length : Int) 0 ([] : List Int)
def S_impl_withoutKey (list0 : List Int) (key1 : Int) (k : List Int → Prop) : Prop := G_impl_withoutKey list0 key1 (fun key1 list0 xt10 xt11 xout5 => ∃ j, L0_impl_withoutKey key1 list0 xt10 k j xt11 xout5)
def F_impl_withoutKey (l : List Int) (key : Int) (k : List Int → Prop) : Prop := l.length ≤ 1000000000 ∧ k (rmK l key)
theorem F_impl_withoutKey_S {l : List Int} {key : Int} {k : List Int → Prop} (h : F_impl_withoutKey l key k) : S_impl_withoutKey l key k := by
  obtain ⟨hl, hk⟩ := h
  have key1 : ∀ (r : List Int) (i : Nat) (out : List Int), l.drop i = r → out.length ≤ i → out ++ rmK r key = rmK l key → L0_impl_withoutKey key l (l.length : Int) k (r.length + 1) (i : Int) out := by
    intro r
    induction r with
    | nil =>
      intro i out hd ho he
      have := drop_nil' hd
      rw [L0_impl_withoutKey, T0_impl_withoutKey]
      simp only [br_dec]
      refine ⟨fun h => by omega, fun _ => ?_⟩
      have : out = rmK l key := by simpa [rmK] using he
      rw [this]; exact hk
    | cons x r ih =>
      intro i out hd ho he
      obtain ⟨h1, h2, _, h3, _⟩ := drop_cons' hd
      rw [List.length_cons, L0_impl_withoutKey, T0_impl_withoutKey]
      simp only [br_dec, br_bne, Int.toNat_natCast, h2]
      refine ⟨fun _ => ⟨⟨by omega, by omega⟩, fun hx => ⟨by omega, inR (by omega) (by omega), ?_⟩, fun hx => ⟨inR (by omega) (by omega), ?_⟩⟩, fun h => by omega⟩
      · exact ih (i + 1) (out ++ [x]) h3 (by simp; omega) (by rw [← he, rmK_cons_ne hx]; simp)
      · exact ih (i + 1) out h3 (by omega) (by rw [← he, hx, rmK_cons_eq])
  exact ⟨_, key1 l 0 [] rfl (by simp) rfl⟩
-- impl.putFirst
def G_impl_putFirst (list0 : List Int) (key1 : Int) (k : List Int → Prop) : Prop :=
  (1 + list0.length ≤ 1000000000) ∧
  k (([key1] : List Int) ++ list0)
def S_impl_putFirst (list0 : List Int) (key1 : Int) (k : List Int → Prop) : Prop := G_impl_putFirst list0 key1 k
def F_impl_putFirst (l : List Int) (x : Int) (k : List Int → Prop) : Prop := l.length ≤ 999999999 ∧ k (x :: l)
theorem F_impl_putFirst_S {l : List Int} {x : Int} {k : List Int → Prop} (h : F_impl_putFirst l x k) : S_impl_putFirst l x k := ⟨by have := h.1; omega, h.2⟩
-- impl.UseRecent
def G_impl_UseRecent (list0 : List Int) (room1 : Int) (key2 : Int) (k : List Int → Bool → Prop) : Prop :=
  F_impl_ValidKeys list0 room1 fun validKeys11 =>
  br (!validKeys11)
  (k ([] : List Int) false)
  (F_impl_validKey key2 fun validKey15 =>
    br (!validKey15)
    (k ([] : List Int) false)
    (F_impl_withoutKey list0 key2 fun withoutKey20 =>
      F_impl_putFirst withoutKey20 key2 fun putFirst22 =>
      (0 ≤ (if room1 < (putFirst22.length : Int) then room1 else (putFirst22.length : Int)) ∧ (if room1 < (putFirst22.length : Int) then room1 else (putFirst22.length : Int)) ≤ (putFirst22.length : Int)) ∧
      (F_slices_Contains_sint_int list0 key2 fun contains31 =>
        k (List.take (Int.toNat (if room1 < (putFirst22.length : Int) then room1 else (putFirst22.length : Int))) (List.drop 0 putFirst22)) contains31) ∧
      (True)))
def H_impl_UseRecent (list0 : List Int) (room1 : Int) (key2 : Int) (k : List Int → Bool → Prop) : Prop :=
  F_impl_ValidKeys list0 room1 fun validKeys11 =>
  br (!validKeys11)
  (k ([] : List Int) false)
  (F_impl_validKey key2 fun validKey15 =>
    br (!validKey15)
    (k ([] : List Int) false)
    (F_impl_withoutKey list0 key2 fun withoutKey20 =>
      F_impl_putFirst withoutKey20 key2 fun putFirst22 =>
      (0 ≤ (if room1 < (putFirst22.length : Int) then room1 else (putFirst22.length : Int)) ∧ (if room1 < (putFirst22.length : Int) then room1 else (putFirst22.length : Int)) ≤ (putFirst22.length : Int)) ∧
      F_slices_Contains_sint_int list0 key2 fun contains31 =>
      k (List.take (Int.toNat (if room1 < (putFirst22.length : Int) then room1 else (putFirst22.length : Int))) (List.drop 0 putFirst22)) contains31))
theorem G_impl_UseRecent_eq (list0 : List Int) (room1 : Int) (key2 : Int) (k : List Int → Bool → Prop) : G_impl_UseRecent list0 room1 key2 k = H_impl_UseRecent list0 room1 key2 k := by
  simp only [G_impl_UseRecent, H_impl_UseRecent, and_self, and_true]
def S_impl_UseRecent (list0 : List Int) (room1 : Int) (key2 : Int) (k : List Int → Bool → Prop) : Prop := H_impl_UseRecent list0 room1 key2 k
def F_impl_UseRecent (l : List Int) (room key : Int) (k : List Int → Bool → Prop) : Prop :=
  (VKeys l room ∧ 0 ≤ key ∧ key ≤ 31 → k (recM l room key) (decide (key ∈ l))) ∧ (¬ (VKeys l room ∧ 0 ≤ key ∧ key ≤ 31) → k [] false)
theorem F_impl_UseRecent_S {l : List Int} {room key : Int} {k : List Int → Bool → Prop} (h : F_impl_UseRecent l room key k) : S_impl_UseRecent l room key k := by
  obtain ⟨hyes, hno⟩ := h
  intro b hb
  refine br_not.2 (br_iff.2 ⟨fun e => br_not.2 (br_dec.2 ⟨fun hkey => ?_, fun hkey => hno fun w => hkey w.2⟩), fun e => hno fun w => by rw [hb.2 w.1] at e; cases e⟩)
  have v := hb.1 e
  have hk := hyes ⟨v, hkey⟩
  obtain ⟨v1, v2, v3, v4, v5⟩ := v
  have := @rmK_le l key
  refine ⟨by omega, by omega, ⟨?_, ?_⟩, by omega, ?_⟩
  · split <;> omega
  · split <;> omega
  · show k (List.take (if room < (([key] ++ rmK l key).length : Int) then room else (([key] ++ rmK l key).length : Int)).toNat ([key] ++ rmK l key)) (decide (key ∈ l))
    rw [take_min2]; exact hk
-- impl.runTrace$1
def G_impl_runTrace_1_UseRecent (list0 : List Int) (key1 : Int) (cap1 : Int) (k : List Int → Bool → Prop) : Prop :=
  F_impl_UseRecent list0 cap1 key1 fun useRecent12r0 useRecent12r1 =>
  k useRecent12r0 useRecent12r1
def S_impl_runTrace_1_UseRecent (list0 : List Int) (key1 : Int) (cap1 : Int) (k : List Int → Bool → Prop) : Prop := G_impl_runTrace_1_UseRecent list0 key1 cap1 k
abbrev F_impl_runTrace_1_UseRecent (list0 : List Int) (key1 : Int) (cap1 : Int) (k : List Int → Bool → Prop) : Prop := S_impl_runTrace_1_UseRecent list0 key1 cap1 k
theorem F_impl_runTrace_1_UseRecent_S {list0 : List Int} {key1 : Int} {cap1 : Int} {k : List Int → Bool → Prop} (h : F_impl_runTrace_1_UseRecent list0 key1 cap1 k) : S_impl_runTrace_1_UseRecent list0 key1 cap1 k := h
-- impl.useAll[[]int]
def T0_impl_useAll_sint_runTrace_1_UseRecent (t0 : List Int) (use2c1 : Int) (xt14 : Int) (xhits8 : Int) (xt15 : Int) (xcache1 : List Int) (k : List Int → Int → Prop) (B0 : Int → Int → List Int → Prop) : Prop :=
  br (decide (xt15 < xt14))
  ((0 ≤ xt15 ∧ xt15 < (t0.length : Int)) ∧
    F_impl_runTrace_1_UseRecent xcache1 (List.getD t0 (Int.toNat xt15) (0 : Int)) use2c1 fun runTrace123r0 runTrace123r1 =>
    br runTrace123r1
    (InR (xhits8 + 1) ∧
      InR (xt15 + 1) ∧
      B0 (xhits8 + 1) (xt15 + 1) runTrace123r0)
    (InR (xt15 + 1) ∧
      B0 xhits8 (xt15 + 1) runTrace123r0))
  (k xcache1 xhits8)
def L0_impl_useAll_sint_runTrace_1_UseRecent (t0 : List Int) (use2c1 : Int) (xt14 : Int) (k : List Int → Int → Prop) : Nat → Int → Int → List Int → Prop
  | 0, _, _, _ => False
  | n + 1, xhits8, xt15, xcache1 => T0_impl_useAll_sint_runTrace_1_UseRecent t0 use2c1 xt14 xhits8 xt15 xcache1 k (L0_impl_useAll_sint_runTrace_1_UseRecent t0 use2c1 xt14 k n)
def G_impl_useAll_sint_runTrace_1_UseRecent (t0 : List Int) (cache1 : List Int) (use2c1 : Int) (I0 : List Int → Int → Int → Int → Int → List Int → Prop) : Prop :=
  I0 t0 use2c1 (t0.length : Int) 0 0 cache1
def S_impl_useAll_sint_runTrace_1_UseRecent (t0 : List Int) (cache1 : List Int) (use2c1 : Int) (k : List Int → Int → Prop) : Prop := G_impl_useAll_sint_runTrace_1_UseRecent t0 cache1 use2c1 (fun t0 use2c1 xt14 xhits8 xt15 xcache1 => ∃ j, L0_impl_useAll_sint_runTrace_1_UseRecent t0 use2c1 xt14 k j xhits8 xt15 xcache1)
def F_impl_useAll_sint_runTrace_1_UseRecent (t l : List Int) (room : Int) (k : List Int → Int → Prop) : Prop := (VTrace t ∧ VKeys l room) ∧ k (runR room t l 0).1 (runR room t l 0).2
theorem F_impl_useAll_sint_runTrace_1_UseRecent_S {t l : List Int} {room : Int} {k : List Int → Int → Prop} (h : F_impl_useAll_sint_runTrace_1_UseRecent t l room k) : S_impl_useAll_sint_runTrace_1_UseRecent t l room k := by
  obtain ⟨⟨⟨t1, t2⟩, v⟩, hk⟩ := h
  have key : ∀ (r : List Int) (i : Nat) (l : List Int) (n : Int), t.drop i = r → VKeys l room → 0 ≤ n → n ≤ i → k (runR room r l n).1 (runR room r l n).2 → L0_impl_useAll_sint_runTrace_1_UseRecent t room (t.length : Int) k (r.length + 1) n (i : Int) l := by
    intro r
    induction r with
    | nil =>
      intro i l n hdr v n0 n1 hk
      have := drop_nil' hdr
      rw [L0_impl_useAll_sint_runTrace_1_UseRecent, T0_impl_useAll_sint_runTrace_1_UseRecent]
      simp only [br_dec]
      exact ⟨fun h => by omega, fun _ => hk⟩
    | cons x r ih =>
      intro i l n hdr v n0 n1 hk
      obtain ⟨h1, h2, h5, h3, h4⟩ := drop_cons' hdr
      have hx := t2 x (List.mem_of_getElem? h5)
      rw [List.length_cons, L0_impl_useAll_sint_runTrace_1_UseRecent, T0_impl_useAll_sint_runTrace_1_UseRecent]
      simp only [br_dec, Int.toNat_natCast, h2]
      refine ⟨fun _ => ⟨⟨by omega, by omega⟩, fun _ => ?_, fun hv => absurd ⟨v, hx⟩ hv⟩, fun h => by omega⟩
      rw [runR] at hk
      show br (decide (x ∈ l)) _ _
      rw [br_iff]
      refine ⟨fun e => ⟨inR (by omega) (by omega), inR (by omega) (by omega), ?_⟩, fun e => ⟨inR (by omega) (by omega), ?_⟩⟩
      · rw [e] at hk
        exact ih (i + 1) _ _ h3 (recM_valid v hx) (by omega) (by omega) hk
      · rw [e] at hk
        rw [show n + toI false = n by simp [toI]] at hk
        exact ih (i + 1) _ _ h3 (recM_valid v hx) (by omega) (by omega) hk
  exact ⟨_, key t 0 l 0 rfl v (by omega) (by omega) hk⟩
-- impl.runTrace
def G_impl_runTrace_UseRecent (t0 : List Int) (room1 : Int) (k : List Int → Int → Prop) : Prop :=
  F_impl_ValidTrace t0 fun validTrace9 =>
  br (!validTrace9)
  (k ([] : List Int) (-1))
  (F_impl_validRoom room1 fun validRoom13 =>
    br (!validRoom13)
    (k ([] : List Int) (-1))
    (F_impl_useAll_sint_runTrace_1_UseRecent t0 ([] : List Int) room1 fun useAll19r0 useAll19r1 =>
      k useAll19r0 useAll19r1))
def S_impl_runTrace_UseRecent (t0 : List Int) (room1 : Int) (k : List Int → Int → Prop) : Prop := G_impl_runTrace_UseRecent t0 room1 k
def F_impl_runTrace_UseRecent (t : List Int) (room : Int) (k : List Int → Int → Prop) : Prop :=
  ((VTrace t ∧ 1 ≤ room ∧ room ≤ 8) → k (runR room t [] 0).1 (runR room t [] 0).2) ∧ (¬ (VTrace t ∧ 1 ≤ room ∧ room ≤ 8) → k [] (-1))
theorem F_impl_runTrace_UseRecent_S {t : List Int} {room : Int} {k : List Int → Int → Prop} (h : F_impl_runTrace_UseRecent t room k) : S_impl_runTrace_UseRecent t room k := by
  obtain ⟨hyes, hno⟩ := h
  intro b hb
  rw [br_not, br_iff]
  refine ⟨fun e => br_not.2 (br_dec.2 ⟨fun hr => ?_, fun hr => hno fun w => hr w.2⟩), fun e => hno fun v => by rw [hb.2 v.1] at e; cases e⟩
  have v := hb.1 e
  exact ⟨⟨v, keys0 hr⟩, hyes ⟨v, hr⟩⟩
-- impl.RunRecent
def G_impl_RunRecent (t0 : List Int) (room1 : Int) (k : List Int → Int → Prop) : Prop :=
  F_impl_runTrace_UseRecent t0 room1 fun runTrace8r0 runTrace8r1 =>
  k runTrace8r0 runTrace8r1
def S_impl_RunRecent (t0 : List Int) (room1 : Int) (k : List Int → Int → Prop) : Prop := G_impl_RunRecent t0 room1 k
def F_impl_RunRecent (t : List Int) (room : Int) (k : List Int → Int → Prop) : Prop :=
  ((VTrace t ∧ 1 ≤ room ∧ room ≤ 8) → k (runR room t [] 0).1 (runR room t [] 0).2) ∧ (¬ (VTrace t ∧ 1 ≤ room ∧ room ≤ 8) → k [] (-1))
theorem F_impl_RunRecent_S {t : List Int} {room : Int} {k : List Int → Int → Prop} (h : F_impl_RunRecent t room k) : S_impl_RunRecent t room k := h
-- impl.validPlace
def G_impl_validPlace (t0 : List Int) (place1 : Int) (k : Bool → Prop) : Prop :=
  br (decide (0 ≤ place1))
  (k (decide (place1 ≤ (t0.length : Int))))
  (k false)
def S_impl_validPlace (t0 : List Int) (place1 : Int) (k : Bool → Prop) : Prop := G_impl_validPlace t0 place1 k
def F_impl_validPlace (t : List Int) (p : Int) (k : Bool → Prop) : Prop := k (decide (0 ≤ p ∧ p ≤ t.length))
theorem F_impl_validPlace_S {t : List Int} {p : Int} {k : Bool → Prop} (h : F_impl_validPlace t p k) : S_impl_validPlace t p k := by
  unfold F_impl_validPlace at h
  simp only [S_impl_validPlace, G_impl_validPlace, br_dec]
  refine ⟨fun h1 => ?_, fun h1 => ?_⟩
  · simpa [h1] using h
  · simpa [h1] using h
-- impl.NextUse
def G_impl_NextUse (t0 : List Int) (from1 : Int) (key2 : Int) (k : Int → Prop) : Prop :=
  F_impl_ValidTrace t0 fun validTrace9 =>
  br (!validTrace9)
  (k (-1))
  (F_impl_validPlace t0 from1 fun validPlace14 =>
    br (!validPlace14)
    (k (-1))
    (F_impl_validKey key2 fun validKey19 =>
      br (!validKey19)
      (k (-1))
      ((0 ≤ from1 ∧ from1 ≤ (t0.length : Int)) ∧
        F_slices_Index_sint_int (List.drop (Int.toNat from1) t0) key2 fun index26 =>
        br (decide (index26 ≥ 0))
        (InR (from1 + index26) ∧
          k (from1 + index26))
        (k (t0.length : Int)))))
def S_impl_NextUse (t0 : List Int) (from1 : Int) (key2 : Int) (k : Int → Prop) : Prop := G_impl_NextUse t0 from1 key2 k
def F_impl_NextUse (t : List Int) (i : Int) (key : Int) (k : Int → Prop) : Prop := (VTrace t ∧ (0 ≤ i ∧ i ≤ t.length) ∧ 0 ≤ key ∧ key ≤ 31 → k (nextM t i key)) ∧ (¬ (VTrace t ∧ (0 ≤ i ∧ i ≤ t.length) ∧ 0 ≤ key ∧ key ≤ 31) → k (-1))
theorem F_impl_NextUse_S {t : List Int} {i : Int} {key : Int} {k : Int → Prop} (h : F_impl_NextUse t i key k) : S_impl_NextUse t i key k := by
  obtain ⟨hyes, hno⟩ := h
  intro b hb
  refine br_not.2 (br_iff.2 ⟨fun e => ?_, fun e => hno fun w => by rw [hb.2 w.1] at e; cases e⟩)
  have v := hb.1 e
  have hl := v.1
  refine br_not.2 (br_dec.2 ⟨fun hi => br_not.2 (br_dec.2 ⟨fun hkey => ?_, fun hkey => hno fun w => hkey w.2.2⟩), fun hi => hno fun w => hi w.2.1⟩)
  have hk := hyes ⟨v, hi, hkey⟩
  have hd : (t.drop i.toNat).length = t.length - i.toNat := List.length_drop
  refine ⟨hi, by omega, br_dec.2 ⟨fun hm => ?_, fun hm => ?_⟩⟩
  · have := plc_nxt (plc_ge.1 hm)
    have := nxt_le key (t.drop i.toNat)
    rw [show nextM t i key = i + plc (t.drop i.toNat) key by unfold nextM; omega] at hk
    exact ⟨inR (by omega) (by omega), hk⟩
  · have := nxt_out (fun c => hm (plc_ge.2 c))
    rw [show nextM t i key = (t.length : Int) by unfold nextM; omega] at hk
    exact hk
-- impl.latestKey
def T0_impl_latestKey (cache2 : List Int) (from1 : Int) (t0 : List Int) (xt14 : Int) (xlatest7 : Int) (xt15 : Int) (k : Int → Prop) (B0 : Int → Int → Prop) : Prop :=
  br (decide (xt15 < xt14))
  ((0 ≤ xt15 ∧ xt15 < (cache2.length : Int)) ∧
    F_impl_NextUse t0 from1 (List.getD cache2 (Int.toNat xt15) (0 : Int)) fun nextUse22 =>
    F_impl_NextUse t0 from1 xlatest7 fun nextUse26 =>
    br (decide (nextUse22 > nextUse26))
    (InR (xt15 + 1) ∧
      B0 (List.getD cache2 (Int.toNat xt15) (0 : Int)) (xt15 + 1))
    (InR (xt15 + 1) ∧
      B0 xlatest7 (xt15 + 1)))
  (k xlatest7)
def L0_impl_latestKey (cache2 : List Int) (from1 : Int) (t0 : List Int) (xt14 : Int) (k : Int → Prop) : Nat → Int → Int → Prop
  | 0, _, _ => False
  | n + 1, xlatest7, xt15 => T0_impl_latestKey cache2 from1 t0 xt14 xlatest7 xt15 k (L0_impl_latestKey cache2 from1 t0 xt14 k n)
def G_impl_latestKey (t0 : List Int) (from1 : Int) (cache2 : List Int) (I0 : List Int → Int → List Int → Int → Int → Int → Prop) : Prop :=
  (0 ≤ (0 : Int) ∧ 0 < (cache2.length : Int)) ∧
  I0 cache2 from1 t0 (cache2.length : Int) (List.getD cache2 0 (0 : Int)) 0
def S_impl_latestKey (t0 : List Int) (from1 : Int) (cache2 : List Int) (k : Int → Prop) : Prop := G_impl_latestKey t0 from1 cache2 (fun cache2 from1 t0 xt14 xlatest7 xt15 => ∃ j, L0_impl_latestKey cache2 from1 t0 xt14 k j xlatest7 xt15)
def F_impl_latestKey (t : List Int) (i : Int) (l : List Int) (k : Int → Prop) : Prop := (VTrace t ∧ (0 ≤ i ∧ i ≤ t.length) ∧ (0 < l.length ∧ l.length ≤ 1000000) ∧ ∀ x ∈ l, 0 ≤ x ∧ x ≤ 31) ∧ k (farM (t.drop i.toNat) l)
theorem F_impl_latestKey_S {t : List Int} {i : Int} {l : List Int} {k : Int → Prop} (h : F_impl_latestKey t i l k) : S_impl_latestKey t i l k := by
  obtain ⟨⟨v, hi, hp, hr⟩, hk⟩ := h
  have h0 : l.getD 0 0 ∈ l := mem_getD (by omega)
  have go : ∀ (m j : Nat), j + m = l.length → L0_impl_latestKey l i t (l.length : Int) k (m + 1) (farK (t.drop i.toNat) (l.take j) (l.getD 0 0)) (j : Int) := by
    intro m
    induction m with
    | zero =>
      intro j hj
      rw [L0_impl_latestKey, T0_impl_latestKey, List.take_of_length_le (by omega)]
      refine br_dec.2 ⟨fun h => by omega, fun _ => ?_⟩
      have : farK (t.drop i.toNat) l (l.getD 0 0) = farM (t.drop i.toNat) l := by
        cases l with
        | nil => simp at hp
        | cons y l => exact farK_self _ _ _
      rw [this]; exact hk
    | succ m ih =>
      intro j hj
      have next := ih (j + 1) (by omega)
      rw [take_get (by omega), farK_snoc] at next
      have hin : l.getD j 0 ∈ l := mem_getD (by omega)
      have hfar : farK (t.drop i.toNat) (l.take j) (l.getD 0 0) ∈ l := by
        rcases List.mem_cons.1 (farK_mem (t.drop i.toNat) (l.take j) (l.getD 0 0)) with h | h
        · rw [h]; exact h0
        · exact List.mem_of_mem_take h
      rw [L0_impl_latestKey, T0_impl_latestKey]
      simp only [Int.toNat_natCast]
      refine br_yd (by omega) ⟨⟨by omega, by omega⟩, yes ⟨v, hi, hr _ hin⟩ (yes ⟨v, hi, hr _ hfar⟩ (br_dec.2 ⟨fun g => ⟨inR (by omega) (by omega), ?_⟩, fun g => ⟨inR (by omega) (by omega), ?_⟩⟩))⟩
      · rw [if_pos (by unfold nextM at g; omega)] at next; exact next
      · rw [if_neg (by unfold nextM at g; omega)] at next; exact next
  exact ⟨⟨by omega, by omega⟩, _, go l.length 0 (by omega)⟩
-- impl.BestHits
def T0_impl_BestHits (room1 : Int) (t0 : List Int) (xt19 : Int) (xhits6 : Int) (xt20 : Int) (xcache5 : List Int) (k : Int → Prop) (B0 : Int → Int → List Int → Prop) : Prop :=
  br (decide (xt20 < xt19))
  ((0 ≤ xt20 ∧ xt20 < (t0.length : Int)) ∧
    F_slices_Contains_sint_int xcache5 (List.getD t0 (Int.toNat xt20) (0 : Int)) fun contains27 =>
    br contains27
    (InR (xhits6 + 1) ∧
      InR (xt20 + 1) ∧
      B0 (xhits6 + 1) (xt20 + 1) xcache5)
    (br ((xcache5.length : Int) == room1)
      (InR (xt20 + 1) ∧
        F_impl_latestKey t0 (xt20 + 1) xcache5 fun latestKey39 =>
        F_impl_withoutKey xcache5 latestKey39 fun withoutKey40 =>
        (withoutKey40.length + 1 ≤ 1000000000) ∧
        InR (xt20 + 1) ∧
        B0 xhits6 (xt20 + 1) (withoutKey40 ++ ([(List.getD t0 (Int.toNat xt20) (0 : Int))] : List Int)))
      ((xcache5.length + 1 ≤ 1000000000) ∧
        InR (xt20 + 1) ∧
        B0 xhits6 (xt20 + 1) (xcache5 ++ ([(List.getD t0 (Int.toNat xt20) (0 : Int))] : List Int)))))
  (k xhits6)
def L0_impl_BestHits (room1 : Int) (t0 : List Int) (xt19 : Int) (k : Int → Prop) : Nat → Int → Int → List Int → Prop
  | 0, _, _, _ => False
  | n + 1, xhits6, xt20, xcache5 => T0_impl_BestHits room1 t0 xt19 xhits6 xt20 xcache5 k (L0_impl_BestHits room1 t0 xt19 k n)
def G_impl_BestHits (t0 : List Int) (room1 : Int) (k : Int → Prop) (I0 : Int → List Int → Int → Int → Int → List Int → Prop) : Prop :=
  F_impl_ValidTrace t0 fun validTrace10 =>
  br (!validTrace10)
  (k (-1))
  (F_impl_validRoom room1 fun validRoom14 =>
    br (!validRoom14)
    (k (-1))
    (I0 room1 t0 (t0.length : Int) 0 0 ([] : List Int)))
def S_impl_BestHits (t0 : List Int) (room1 : Int) (k : Int → Prop) : Prop := G_impl_BestHits t0 room1 k (fun room1 t0 xt19 xhits6 xt20 xcache5 => ∃ j, L0_impl_BestHits room1 t0 xt19 k j xhits6 xt20 xcache5)
def F_impl_BestHits (t : List Int) (room : Int) (k : Int → Prop) : Prop := (VTrace t ∧ 1 ≤ room ∧ room ≤ 8 → k (bestM room.toNat t [] : Int)) ∧ (¬ (VTrace t ∧ 1 ≤ room ∧ room ≤ 8) → k (-1))
theorem F_impl_BestHits_S {t : List Int} {room : Int} {k : Int → Prop} (h : F_impl_BestHits t room k) : S_impl_BestHits t room k := by
  obtain ⟨hyes, hno⟩ := h
  intro b hb
  refine br_not.2 (br_iff.2 ⟨fun e => ?_, fun e => hno fun w => by rw [hb.2 w.1] at e; cases e⟩)
  have v := hb.1 e
  refine br_not.2 (br_dec.2 ⟨fun hr => ?_, fun hr => hno fun w => hr w.2⟩)
  have hk := hyes ⟨v, hr⟩
  have h0 := v.1
  have go : ∀ (r : List Int) (i : Nat) (n : Int) (C : List Int), t.drop i = r → 0 ≤ n → n ≤ i → C.Nodup → C.length ≤ room.toNat → (∀ x ∈ C, 0 ≤ x ∧ x ≤ 31) → n + (bestM room.toNat r C : Int) = (bestM room.toNat t [] : Int) → L0_impl_BestHits room t (t.length : Int) k (r.length + 1) n (i : Int) C := by
    intro r
    induction r with
    | nil =>
      intro i n C hd n0 n1 hn hc hC he
      have := drop_nil' hd
      rw [L0_impl_BestHits, T0_impl_BestHits]
      refine br_dec.2 ⟨fun h => by omega, fun _ => ?_⟩
      rw [show n = (bestM room.toNat t [] : Int) by simpa [bestM] using he]; exact hk
    | cons x r ih =>
      intro i n C hd n0 n1 hn hc hC he
      obtain ⟨g1, g2, g5, g3, g4⟩ := drop_cons' hd
      have hx := v.2 x (List.mem_of_getElem? g5)
      rw [List.length_cons, L0_impl_BestHits, T0_impl_BestHits]
      simp only [Int.toNat_natCast, g2]
      refine br_yd (by omega) ⟨⟨by omega, by omega⟩, by omega, br_dec.2 ⟨fun hm => ?_, fun hm => ?_⟩⟩
      · rw [bestM, if_pos hm] at he
        exact ⟨inR (by omega) (by omega), inR (by omega) (by omega), ih (i + 1) _ C g3 (by omega) (by omega) hn hc hC (by omega)⟩
      · rw [bestM, if_neg hm] at he
        obtain ⟨m1, m2, m3, m4⟩ := missB_ok (room := room.toNat) (r := r) (by omega) hn hc hm
        have last := ih (i + 1) n (missB room.toNat r C x) g3 n0 (by omega) m1 m2 (fun y hy => by
          rcases m4 y hy with h | h
          · rw [h]; exact hx
          · exact hC y h) he
        refine br_beq.2 ⟨fun hf => ⟨inR (by omega) (by omega), ⟨v, ⟨by omega, by omega⟩, ⟨by omega, by omega⟩, hC⟩, ?_⟩, fun hf => ?_⟩
        · rw [show ((i : Int) + 1).toNat = i + 1 by omega, g3]
          have := @rmK_le C (farM r C)
          rw [missB, if_pos (by omega)] at last
          exact ⟨by omega, by omega, inR (by omega) (by omega), last⟩
        · rw [missB, if_neg (by omega)] at last
          exact ⟨by omega, inR (by omega) (by omega), last⟩
  exact ⟨_, go t 0 0 [] rfl (by omega) (by omega) (by simp) (by simp) (by simp) (by omega)⟩
-- impl.MissesOver
def G_impl_MissesOver (t0 : List Int) (room1 : Int) (k : Int → Prop) : Prop :=
  F_impl_ValidTrace t0 fun validTrace8 =>
  br (!validTrace8)
  (k (-1))
  (F_impl_validRoom room1 fun validRoom12 =>
    br (!validRoom12)
    (k (-1))
    (F_impl_RunRecent t0 room1 fun runRecent18r0 runRecent18r1 =>
      F_impl_BestHits t0 room1 fun bestHits23 =>
      InR (bestHits23 - runRecent18r1) ∧
      k (bestHits23 - runRecent18r1)))
def S_impl_MissesOver (t0 : List Int) (room1 : Int) (k : Int → Prop) : Prop := G_impl_MissesOver t0 room1 k
def F_impl_MissesOver (t : List Int) (room : Int) (k : Int → Prop) : Prop := (VTrace t ∧ 1 ≤ room ∧ room ≤ 8 → k (overM t room)) ∧ (¬ (VTrace t ∧ 1 ≤ room ∧ room ≤ 8) → k (-1))
theorem F_impl_MissesOver_S {t : List Int} {room : Int} {k : Int → Prop} (h : F_impl_MissesOver t room k) : S_impl_MissesOver t room k := by
  obtain ⟨hyes, hno⟩ := h
  intro b hb
  refine br_not.2 (br_iff.2 ⟨fun e => ?_, fun e => hno fun w => by rw [hb.2 w.1] at e; cases e⟩)
  have v := hb.1 e
  refine br_not.2 (br_dec.2 ⟨fun hr => yes ⟨v, hr⟩ (yes ⟨v, hr⟩ ⟨?_, hyes ⟨v, hr⟩⟩), fun hr => hno fun w => hr w.2⟩)
  have h1 := (runR_valid t [] 0 (keys0 hr) v.2).2
  have h2 := best_le (room := room.toNat) t []
  have := v.1
  exact inR (by omega) (by omega)
-- laws.eqIntS
def T0_laws_eqIntS (a0 : List Int) (b1 : List Int) (xi5 : Int) (k : Bool → Prop) (B0 : Int → Prop) : Prop :=
  br (decide (xi5 < (a0.length : Int)))
  ((0 ≤ xi5 ∧ xi5 < (a0.length : Int)) ∧
    (0 ≤ xi5 ∧ xi5 < (b1.length : Int)) ∧
    br ((List.getD a0 (Int.toNat xi5) (0 : Int)) != (List.getD b1 (Int.toNat xi5) (0 : Int)))
    (k false)
    (InR (xi5 + 1) ∧
      B0 (xi5 + 1)))
  (k true)
def L0_laws_eqIntS (a0 : List Int) (b1 : List Int) (k : Bool → Prop) : Nat → Int → Prop
  | 0, _ => False
  | n + 1, xi5 => T0_laws_eqIntS a0 b1 xi5 k (L0_laws_eqIntS a0 b1 k n)
def G_laws_eqIntS (a0 : List Int) (b1 : List Int) (k : Bool → Prop) (I0 : List Int → List Int → Int → Prop) : Prop :=
  br ((a0.length : Int) != (b1.length : Int))
  (k false)
  (I0 a0 b1 0)
def S_laws_eqIntS (a0 : List Int) (b1 : List Int) (k : Bool → Prop) : Prop := G_laws_eqIntS a0 b1 k (fun a0 b1 xi5 => ∃ j, L0_laws_eqIntS a0 b1 k j xi5)
def F_laws_eqIntS (a b : List Int) (k : Bool → Prop) : Prop := a.length ≤ 1000000000 ∧ k (decide (a = b))
theorem F_laws_eqIntS_S {a b : List Int} {k : Bool → Prop} (h : F_laws_eqIntS a b k) : S_laws_eqIntS a b k := by
  obtain ⟨hl, hk⟩ := h
  refine br_bne.2 ⟨fun he => by rwa [decide_eq_false (fun e => he (by rw [e]))] at hk, fun he => ?_⟩
  have he : a.length = b.length := by omega
  have key : ∀ (r : List Int) (i : Nat), a.drop i = r → (r = b.drop i ↔ a = b) → L0_laws_eqIntS a b k (r.length + 1) (i : Int) := by
    intro r
    induction r with
    | nil =>
      intro i hd hi
      have := drop_nil' hd
      rw [L0_laws_eqIntS, T0_laws_eqIntS]
      simp only [br_dec]
      exact ⟨fun h => by omega, fun _ => by rwa [decide_eq_true (hi.1 (List.drop_eq_nil_of_le (by omega)).symm)] at hk⟩
    | cons x r ih =>
      intro i hd hi
      obtain ⟨h1, h2, _, h3, _⟩ := drop_cons' hd
      obtain ⟨y, s, hs⟩ : ∃ y s, b.drop i = y :: s := by
        cases e : b.drop i with
        | nil => have := drop_nil' e; omega
        | cons y s => exact ⟨y, s, rfl⟩
      obtain ⟨g1, g2, _, g3, _⟩ := drop_cons' hs
      rw [List.length_cons, L0_laws_eqIntS, T0_laws_eqIntS]
      simp only [br_dec, br_bne, Int.toNat_natCast, h2, g2]
      rw [hs] at hi
      refine ⟨fun _ => ⟨⟨by omega, by omega⟩, ⟨by omega, by omega⟩, ?_⟩, fun h => by omega⟩
      have go : x = y → L0_laws_eqIntS a b k (r.length + 1) ((i : Int) + 1) := fun hx => ih (i + 1) h3 (by rw [g3, ← hi, hx]; simp)
      have no : x ≠ y → k false := fun hx => by rwa [decide_eq_false (fun e => hx (List.cons.inj (hi.2 e)).1)] at hk
      exact ⟨no, fun hx => ⟨inR (by omega) (by omega), go hx⟩⟩
  exact ⟨_, key a 0 rfl (by simp)⟩
-- laws.FnExactMissesOver
def G_laws_FnExactMissesOver (aT0 : List Int) (aRoom1 : Int) (k : Bool → Prop) : Prop :=
  br (decide ((aT0.length : Int) > 1048576))
  (k true)
  (F_laws_toIntS aT0 fun toIntS12 =>
    F_spec_MissesOver toIntS12 aRoom1 fun missesOver14 =>
    F_laws_toIntS aT0 fun toIntS16 =>
    F_impl_MissesOver toIntS16 aRoom1 fun missesOver19 =>
    br (missesOver19 != missesOver14)
    (k false)
    (F_laws_toIntS aT0 fun toIntS25 =>
      F_laws_eqIntS toIntS16 toIntS25 fun eqIntS26 =>
      br (!eqIntS26)
      (k false)
      (k true)))
def S_laws_FnExactMissesOver (aT0 : List Int) (aRoom1 : Int) (k : Bool → Prop) : Prop := G_laws_FnExactMissesOver aT0 aRoom1 k
abbrev F_laws_FnExactMissesOver (aT0 : List Int) (aRoom1 : Int) (k : Bool → Prop) : Prop := S_laws_FnExactMissesOver aT0 aRoom1 k
theorem F_laws_FnExactMissesOver_S {aT0 : List Int} {aRoom1 : Int} {k : Bool → Prop} (h : F_laws_FnExactMissesOver aT0 aRoom1 k) : S_laws_FnExactMissesOver aT0 aRoom1 k := h
theorem law_FnExactMissesOver (t : List Int) (lt : t.length ≤ maxLen) (rt : ∀ x ∈ t, InR x) (room : Int) (rroom : InR room) :
    F_laws_FnExactMissesOver t room (fun r => r = true) := by
  refine br_dec.2 ⟨fun _ => rfl, fun t0 => ?_⟩
  have mt : t.length ≤ 1000000000 := by omega
  by_cases v : VTrace t ∧ 1 ≤ room ∧ room ≤ 8
  · exact ⟨mt, ⟨fun _ => ⟨mt, ⟨fun _ => br_same' (⟨mt, mt, br_de (rfl)⟩), fun h => absurd v h⟩⟩, fun h => absurd v h⟩⟩
  · exact ⟨mt, ⟨fun h => absurd h v, fun _ => ⟨mt, ⟨fun h => absurd h v, fun _ => br_same' (⟨mt, mt, br_de (rfl)⟩)⟩⟩⟩⟩
end Go.Ev
