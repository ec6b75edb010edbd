/- What the functions that the law reaches do, written as plain Lean. No statement is proved here. -/
import Derived.Test.YthdedjemjjcjhabFnUseOftenAgainP0
namespace Go.Ev
set_option linter.unusedVariables false
open Go
def U0_impl_ValidEntries (list0 : List (Int × Int × Int)) (xt17 : Int) (xt18 : Int) (k : Bool → Prop) (B0 : Int → Prop) : Prop :=
  br (decide (xt18 < xt17))
  ((0 ≤ xt18 ∧ xt18 < (list0.length : Int)) ∧
    F_impl_validEntry (List.getD list0 (Int.toNat xt18) ((0 : Int), (0 : Int), (0 : Int))).1 (List.getD list0 (Int.toNat xt18) ((0 : Int), (0 : Int), (0 : Int))).2.1 (List.getD list0 (Int.toNat xt18) ((0 : Int), (0 : Int), (0 : Int))).2.2 fun validEntry24 =>
    br (!validEntry24)
    (k false)
    ((0 ≤ xt18 ∧ xt18 ≤ (list0.length : Int)) ∧
      F_slices_ContainsFunc_Entry_Entry_Entry_collides (List.take (Int.toNat xt18) list0) (List.getD list0 (Int.toNat xt18) ((0 : Int), (0 : Int), (0 : Int))).1 (List.getD list0 (Int.toNat xt18) ((0 : Int), (0 : Int), (0 : Int))).2.1 (List.getD list0 (Int.toNat xt18) ((0 : Int), (0 : Int), (0 : Int))).2.2 fun containsFunc32 =>
      br containsFunc32
      (k false)
      (InR (xt18 + 1) ∧
        B0 (xt18 + 1))))
  (k true)
theorem T0_impl_ValidEntries_eq (list0 : List (Int × Int × Int)) (xt17 : Int) (xt18 : Int) (k : Bool → Prop) (B0 : Int → Prop) : T0_impl_ValidEntries list0 xt17 xt18 k B0 = U0_impl_ValidEntries list0 xt17 xt18 k B0 := by
  simp only [T0_impl_ValidEntries, U0_impl_ValidEntries, and_self, and_true]
def L0_impl_ValidEntries (list0 : List (Int × Int × Int)) (xt17 : Int) (k : Bool → Prop) : Nat → Int → Prop
  | 0, _ => False
  | n + 1, xt18 => U0_impl_ValidEntries list0 xt17 xt18 k (L0_impl_ValidEntries list0 xt17 k n)
def G_impl_ValidEntries (list0 : List (Int × Int × Int)) (room1 : Int) (k : Bool → Prop) (I0 : List (Int × Int × Int) → Int → Int → Prop) : Prop :=
  F_impl_validRoom room1 fun validRoom8 =>
  br (!validRoom8)
  (k false)
  (br (decide ((list0.length : Int) > room1))
    (k false)
    (I0 list0 (list0.length : Int) 0))
def S_impl_ValidEntries (list0 : List (Int × Int × Int)) (room1 : Int) (k : Bool → Prop) : Prop := G_impl_ValidEntries list0 room1 k (fun list0 xt17 xt18 => ∃ j, L0_impl_ValidEntries list0 xt17 k j xt18)
def F_impl_ValidEntries (l : List Ent) (room : Int) (k : Bool → Prop) : Prop := l.length ≤ 1000000000 ∧ ∀ b : Bool, (b = true ↔ VEnt l room) → k b
theorem F_impl_ValidEntries_S {l : List Ent} {room : Int} {k : Bool → Prop} (h : F_impl_ValidEntries l room k) : S_impl_ValidEntries l room k := by
  obtain ⟨hl, h⟩ := h
  have hno : ¬ VEnt l room → k false := fun hv => h false (by simp [hv])
  have key : (1 ≤ room ∧ room ≤ 8) → (l.length : Int) ≤ room → ∀ (r : List Ent) (i : Nat), l.drop i = r → PEnt (l.take i) → L0_impl_ValidEntries l (l.length : Int) k (r.length + 1) (i : Int) := by
    intro g1 g3 r
    induction r with
    | nil =>
      intro i hd hp
      have hi := drop_nil' hd
      rw [List.take_of_length_le hi] at hp
      rw [L0_impl_ValidEntries, U0_impl_ValidEntries]
      simp only [br_dec]
      exact ⟨fun h => by omega, fun _ => h true (by simp only [true_iff]; exact ⟨g1, g3, hp⟩)⟩
    | cons x r ih =>
      intro i hd hp
      obtain ⟨h1, h2, h5, h3, h4⟩ := drop_cons' hd
      have hxl : x ∈ l := List.mem_of_getElem? h5
      rw [List.length_cons, L0_impl_ValidEntries, U0_impl_ValidEntries]
      simp only [br_dec, Int.toNat_natCast, h2]
      refine ⟨fun _ => ⟨⟨by omega, by omega⟩, fun b hb => ?_⟩, fun h => by omega⟩
      refine br_not.2 (br_iff.2 ⟨fun e => ⟨⟨by omega, by omega⟩, by simp; omega, fun c hc => ?_⟩, fun e => hno fun v => by rw [hb.2 (v.2.2.1 x hxl)] at e; cases e⟩)
      refine br_iff.2 ⟨fun ec => hno fun v => ?_, fun ec => ⟨inR (by omega) (by omega), ih (i + 1) h3 ?_⟩⟩
      · obtain ⟨y, hy, hyx⟩ := hc.1 ec
        have hsplit : l = l.take i ++ x :: r := by rw [← hd, List.take_append_drop]
        have hn1 := v.2.2.2.1
        have hn2 := v.2.2.2.2
        rw [hsplit, List.map_append, List.nodup_append] at hn1 hn2
        rcases hyx with e1 | e1
        · exact hn1.2.2 _ (List.mem_map.2 ⟨y, hy, rfl⟩) x.1 (by simp) e1.symm
        · exact hn2.2.2 _ (List.mem_map.2 ⟨y, hy, rfl⟩) x.2.2 (by simp) e1.symm
      · rw [h4]
        refine hp.snoc (hb.1 e) fun y hy => ⟨fun c => ?_, fun c => ?_⟩
        · rw [hc.2 ⟨y, hy, .inl c.symm⟩] at ec; cases ec
        · rw [hc.2 ⟨y, hy, .inr c.symm⟩] at ec; cases ec
  show br (!decide (1 ≤ room ∧ room ≤ 8)) _ _
  rw [br_not]
  refine br_dec.2 ⟨fun h1 => br_dec.2 ⟨fun h3 => hno fun v => by have := v.2.1; omega, fun h3 => ?_⟩, fun h1 => hno fun v => h1 v.1⟩
  exact ⟨_, key h1 (by omega) l 0 rfl ⟨by simp, by simp, by simp⟩⟩
-- cmp.isNaN[int]
def G_cmp_isNaN_int (x0 : Int) (k : Bool → Prop) : Prop :=
  k (x0 != x0)
def S_cmp_isNaN_int (x0 : Int) (k : Bool → Prop) : Prop := G_cmp_isNaN_int x0 k
abbrev F_cmp_isNaN_int (x0 : Int) (k : Bool → Prop) : Prop := S_cmp_isNaN_int x0 k
theorem F_cmp_isNaN_int_S {x0 : Int} {k : Bool → Prop} (h : F_cmp_isNaN_int x0 k) : S_cmp_isNaN_int x0 k := h
-- cmp.Compare[int]
def G_cmp_Compare_int (x0 : Int) (y1 : Int) (k : Int → Prop) : Prop :=
  F_cmp_isNaN_int x0 fun isNaN8 =>
  F_cmp_isNaN_int y1 fun isNaN10 =>
  br isNaN8
  (br isNaN10
    (k 0)
    (k (-1)))
  (br isNaN10
    (k 1)
    (br (decide (x0 < y1))
      (k (-1))
      (br (decide (x0 > y1))
        (k 1)
        (k 0))))
def S_cmp_Compare_int (x0 : Int) (y1 : Int) (k : Int → Prop) : Prop := G_cmp_Compare_int x0 y1 k
def F_cmp_Compare_int (x y : Int) (k : Int → Prop) : Prop := k (cmpI x y)
theorem F_cmp_Compare_int_S {x y : Int} {k : Int → Prop} (h : F_cmp_Compare_int x y k) : S_cmp_Compare_int x y k := by
  unfold F_cmp_Compare_int cmpI at h
  show br (x != x) (br (y != y) _ _) (br (y != y) _ _)
  rw [bne_self_eq_false, bne_self_eq_false, br_f, br_f]
  refine br_dec.2 ⟨fun h1 => ?_, fun h1 => br_dec.2 ⟨fun h2 => ?_, fun h2 => ?_⟩⟩
  · rwa [if_pos h1] at h
  · rwa [if_neg h1, if_pos (show y < x from h2)] at h
  · rwa [if_neg h1, if_neg (show ¬ y < x from h2)] at h
-- cmp.Or[int]
def T0_cmp_Or_int (vals0 : List Int) (xt7 : Int) (xt8 : Int) (k : Int → Prop) (B0 : Int → Prop) : Prop :=
  br (decide (xt8 < xt7))
  ((0 ≤ xt8 ∧ xt8 < (vals0.length : Int)) ∧
    br ((List.getD vals0 (Int.toNat xt8) (0 : Int)) != 0)
    (k (List.getD vals0 (Int.toNat xt8) (0 : Int)))
    (InR (xt8 + 1) ∧
      B0 (xt8 + 1)))
  (k 0)
def L0_cmp_Or_int (vals0 : List Int) (xt7 : Int) (k : Int → Prop) : Nat → Int → Prop
  | 0, _ => False
  | n + 1, xt8 => T0_cmp_Or_int vals0 xt7 xt8 k (L0_cmp_Or_int vals0 xt7 k n)
def G_cmp_Or_int (vals0 : List Int) (I0 : List Int → Int → Int → Prop) : Prop :=
  I0 vals0 (vals0.length : Int) 0
def S_cmp_Or_int (vals0 : List Int) (k : Int → Prop) : Prop := G_cmp_Or_int vals0 (fun vals0 xt7 xt8 => ∃ j, L0_cmp_Or_int vals0 xt7 k j xt8)
def F_cmp_Or_int (l : List Int) (k : Int → Prop) : Prop := l.length ≤ 1000000000 ∧ k (orI l)
theorem F_cmp_Or_int_S {l : List Int} {k : Int → Prop} (h : F_cmp_Or_int l k) : S_cmp_Or_int l k := by
  obtain ⟨hl, hk⟩ := h
  have key : ∀ (r : List Int) (i : Nat), l.drop i = r → orI r = orI l → L0_cmp_Or_int l (l.length : Int) k (r.length + 1) (i : Int) := by
    intro r
    induction r with
    | nil =>
      intro i hd he
      have := drop_nil' hd
      rw [L0_cmp_Or_int, T0_cmp_Or_int]
      simp only [br_dec]
      exact ⟨fun h => by omega, fun _ => by rw [show (0 : Int) = orI l from he]; exact hk⟩
    | cons x r ih =>
      intro i hd he
      obtain ⟨h1, h2, _, h3, _⟩ := drop_cons' hd
      rw [List.length_cons, L0_cmp_Or_int, T0_cmp_Or_int]
      simp only [br_dec, br_bne, Int.toNat_natCast, h2]
      refine ⟨fun _ => ⟨⟨by omega, by omega⟩, fun hx => ?_, fun hx => ⟨inR (by omega) (by omega), ?_⟩⟩, fun h => by omega⟩
      · simp only [orI, if_pos hx] at he; rw [he]; exact hk
      · rw [orI, if_neg (by simpa using hx)] at he; exact ih (i + 1) h3 he
  exact ⟨_, key l 0 rfl rfl⟩
-- impl.rarestEntry$1
def G_impl_rarestEntry_1 (a0Key : Int) (a0Count : Int) (a0Last : Int) (b1Key : Int) (b1Count : Int) (b1Last : Int) (k : Int → Prop) : Prop :=
  (F_cmp_Compare_int a0Count b1Count fun compare9 =>
    (F_cmp_Compare_int a0Last b1Last fun compare14 =>
      ((F_cmp_Or_int ([compare9, compare14] : List Int) fun or16 =>
          k or16) ∧
        (True)) ∧
      (True)) ∧
    (True)) ∧
  (True)
def H_impl_rarestEntry_1 (a0Key : Int) (a0Count : Int) (a0Last : Int) (b1Key : Int) (b1Count : Int) (b1Last : Int) (k : Int → Prop) : Prop :=
  F_cmp_Compare_int a0Count b1Count fun compare9 =>
  F_cmp_Compare_int a0Last b1Last fun compare14 =>
  F_cmp_Or_int ([compare9, compare14] : List Int) fun or16 =>
  k or16
theorem G_impl_rarestEntry_1_eq (a0Key : Int) (a0Count : Int) (a0Last : Int) (b1Key : Int) (b1Count : Int) (b1Last : Int) (k : Int → Prop) : G_impl_rarestEntry_1 a0Key a0Count a0Last b1Key b1Count b1Last k = H_impl_rarestEntry_1 a0Key a0Count a0Last b1Key b1Count b1Last k := by
  simp only [G_impl_rarestEntry_1, H_impl_rarestEntry_1, and_self, and_true]
def S_impl_rarestEntry_1 (a0Key : Int) (a0Count : Int) (a0Last : Int) (b1Key : Int) (b1Count : Int) (b1Last : Int) (k : Int → Prop) : Prop := H_impl_rarestEntry_1 a0Key a0Count a0Last b1Key b1Count b1Last k
def F_impl_rarestEntry_1 (a1 a2 a3 b1 b2 b3 : Int) (k : Int → Prop) : Prop := ∀ n : Int, (n < 0 ↔ Rar (a1, a2, a3) (b1, b2, b3)) → k n
theorem F_impl_rarestEntry_1_S {a1 a2 a3 b1 b2 b3 : Int} {k : Int → Prop} (h : F_impl_rarestEntry_1 a1 a2 a3 b1 b2 b3 k) : S_impl_rarestEntry_1 a1 a2 a3 b1 b2 b3 k := by
  refine ⟨by simp, h _ ?_⟩
  rw [← cmpI_rar (a1 := a1) (a3 := a3) (b1 := b1)]
  simp only [orI]
  by_cases h1 : cmpI a2 b2 ≠ 0
  · rw [if_pos h1, if_pos h1]
  · rw [if_neg h1, if_neg h1]
    by_cases h2 : cmpI a3 b3 ≠ 0
    · rw [if_pos h2]
    · rw [if_neg h2]; simp only [ne_eq, Decidable.not_not] at h2; rw [h2]
-- slices.MinFunc[[]impl.Entry,impl.Entry]
def T0_slices_MinFunc_Entry_Entry_rarestEntry_1 (x0 : List (Int × Int × Int)) (xi6 : Int) (xb5c0 : Int) (xb5c1 : Int) (xb5c2 : Int) (k : Int → Int → Int → Prop) (B0 : Int → Int → Int → Int → Prop) : Prop :=
  br (decide (xi6 < (x0.length : Int)))
  ((0 ≤ xi6 ∧ xi6 < (x0.length : Int)) ∧
    (F_impl_rarestEntry_1 (List.getD x0 (Int.toNat xi6) ((0 : Int), (0 : Int), (0 : Int))).1 (List.getD x0 (Int.toNat xi6) ((0 : Int), (0 : Int), (0 : Int))).2.1 (List.getD x0 (Int.toNat xi6) ((0 : Int), (0 : Int), (0 : Int))).2.2 xb5c0 xb5c1 xb5c2 fun rarestEntry126 =>
      br (decide (rarestEntry126 < 0))
      ((0 ≤ xi6 ∧ xi6 < (x0.length : Int)) ∧
        InR (xi6 + 1) ∧
        B0 (xi6 + 1) (List.getD x0 (Int.toNat xi6) ((0 : Int), (0 : Int), (0 : Int))).1 (List.getD x0 (Int.toNat xi6) ((0 : Int), (0 : Int), (0 : Int))).2.1 (List.getD x0 (Int.toNat xi6) ((0 : Int), (0 : Int), (0 : Int))).2.2)
      (InR (xi6 + 1) ∧
        B0 (xi6 + 1) xb5c0 xb5c1 xb5c2)) ∧
    (True))
  (k xb5c0 xb5c1 xb5c2)
def U0_slices_MinFunc_Entry_Entry_rarestEntry_1 (x0 : List (Int × Int × Int)) (xi6 : Int) (xb5c0 : Int) (xb5c1 : Int) (xb5c2 : Int) (k : Int → Int → Int → Prop) (B0 : Int → Int → Int → Int → Prop) : Prop :=
  br (decide (xi6 < (x0.length : Int)))
  ((0 ≤ xi6 ∧ xi6 < (x0.length : Int)) ∧
    F_impl_rarestEntry_1 (List.getD x0 (Int.toNat xi6) ((0 : Int), (0 : Int), (0 : Int))).1 (List.getD x0 (Int.toNat xi6) ((0 : Int), (0 : Int), (0 : Int))).2.1 (List.getD x0 (Int.toNat xi6) ((0 : Int), (0 : Int), (0 : Int))).2.2 xb5c0 xb5c1 xb5c2 fun rarestEntry126 =>
    br (decide (rarestEntry126 < 0))
    ((0 ≤ xi6 ∧ xi6 < (x0.length : Int)) ∧
      InR (xi6 + 1) ∧
      B0 (xi6 + 1) (List.getD x0 (Int.toNat xi6) ((0 : Int), (0 : Int), (0 : Int))).1 (List.getD x0 (Int.toNat xi6) ((0 : Int), (0 : Int), (0 : Int))).2.1 (List.getD x0 (Int.toNat xi6) ((0 : Int), (0 : Int), (0 : Int))).2.2)
    (InR (xi6 + 1) ∧
      B0 (xi6 + 1) xb5c0 xb5c1 xb5c2))
  (k xb5c0 xb5c1 xb5c2)
theorem T0_slices_MinFunc_Entry_Entry_rarestEntry_1_eq (x0 : List (Int × Int × Int)) (xi6 : Int) (xb5c0 : Int) (xb5c1 : Int) (xb5c2 : Int) (k : Int → Int → Int → Prop) (B0 : Int → Int → Int → Int → Prop) : T0_slices_MinFunc_Entry_Entry_rarestEntry_1 x0 xi6 xb5c0 xb5c1 xb5c2 k B0 = U0_slices_MinFunc_Entry_Entry_rarestEntry_1 x0 xi6 xb5c0 xb5c1 xb5c2 k B0 := by
  simp only [T0_slices_MinFunc_Entry_Entry_rarestEntry_1, U0_slices_MinFunc_Entry_Entry_rarestEntry_1, and_self, and_true]
def L0_slices_MinFunc_Entry_Entry_rarestEntry_1 (x0 : List (Int × Int × Int)) (k : Int → Int → Int → Prop) : Nat → Int → Int → Int → Int → Prop
  | 0, _, _, _, _ => False
  | n + 1, xi6, xb5c0, xb5c1, xb5c2 => U0_slices_MinFunc_Entry_Entry_rarestEntry_1 x0 xi6 xb5c0 xb5c1 xb5c2 k (L0_slices_MinFunc_Entry_Entry_rarestEntry_1 x0 k n)
def G_slices_MinFunc_Entry_Entry_rarestEntry_1 (x0 : List (Int × Int × Int)) (I0 : List (Int × Int × Int) → Int → Int → Int → Int → Prop) : Prop :=
  br (decide ((x0.length : Int) < 1))
  (False)
  ((0 ≤ (0 : Int) ∧ 0 < (x0.length : Int)) ∧
    I0 x0 1 (List.getD x0 0 ((0 : Int), (0 : Int), (0 : Int))).1 (List.getD x0 0 ((0 : Int), (0 : Int), (0 : Int))).2.1 (List.getD x0 0 ((0 : Int), (0 : Int), (0 : Int))).2.2)
def S_slices_MinFunc_Entry_Entry_rarestEntry_1 (x0 : List (Int × Int × Int)) (k : Int → Int → Int → Prop) : Prop := G_slices_MinFunc_Entry_Entry_rarestEntry_1 x0 (fun x0 xi6 xb5c0 xb5c1 xb5c2 => ∃ j, L0_slices_MinFunc_Entry_Entry_rarestEntry_1 x0 k j xi6 xb5c0 xb5c1 xb5c2)
def F_slices_MinFunc_Entry_Entry_rarestEntry_1 (l : List Ent) (k : Int → Int → Int → Prop) : Prop := (0 < l.length ∧ l.length ≤ 1000000000) ∧ k (l.getD (rareM l) ent0).1 (l.getD (rareM l) ent0).2.1 (l.getD (rareM l) ent0).2.2
theorem F_slices_MinFunc_Entry_Entry_rarestEntry_1_S {l : List Ent} {k : Int → Int → Int → Prop} (h : F_slices_MinFunc_Entry_Entry_rarestEntry_1 l k) : S_slices_MinFunc_Entry_Entry_rarestEntry_1 l k := by
  obtain ⟨⟨h0, h1⟩, hk⟩ := h
  have key : ∀ (r : List Ent) (i p : Nat), l.drop i = r → p < i → i ≤ l.length → rareS l r i p = rareM l → L0_slices_MinFunc_Entry_Entry_rarestEntry_1 l k (r.length + 1) (i : Int) (l.getD p ent0).1 (l.getD p ent0).2.1 (l.getD p ent0).2.2 := by
    intro r
    induction r with
    | nil =>
      intro i p hd hp hi he
      have := drop_nil' hd
      rw [L0_slices_MinFunc_Entry_Entry_rarestEntry_1, U0_slices_MinFunc_Entry_Entry_rarestEntry_1]
      simp only [br_dec]
      exact ⟨fun h => by omega, fun _ => by rw [show p = rareM l from he]; exact hk⟩
    | cons x r ih =>
      intro i p hd hp hi he
      obtain ⟨g1, g2, _, g3, _⟩ := drop_cons' hd
      rw [rareS] at he
      rw [List.length_cons, L0_slices_MinFunc_Entry_Entry_rarestEntry_1, U0_slices_MinFunc_Entry_Entry_rarestEntry_1]
      simp only [br_dec, Int.toNat_natCast, g2]
      refine ⟨fun _ => ⟨⟨by omega, by omega⟩, fun n hn => ⟨fun hr => ⟨⟨by omega, by omega⟩, inR (by omega) (by omega), ?_⟩, fun hr => ⟨inR (by omega) (by omega), ?_⟩⟩⟩, fun h => by omega⟩
      · rw [if_pos (hn.1 hr)] at he
        have := ih (i + 1) i g3 (by omega) (by omega) he
        rwa [g2] at this
      · rw [if_neg fun c => hr (hn.2 c)] at he
        exact ih (i + 1) p g3 (by omega) (by omega) he
  refine br_dec.2 ⟨fun h => by omega, fun _ => ⟨⟨by omega, by omega⟩, _, key (l.drop 1) 1 0 rfl (by omega) (by omega) rfl⟩⟩
-- impl.rarestEntry
def G_impl_rarestEntry (list0 : List (Int × Int × Int)) (k : Int → Int → Int → Prop) : Prop :=
  F_slices_MinFunc_Entry_Entry_rarestEntry_1 list0 fun minFunc4Key minFunc4Count minFunc4Last =>
  k minFunc4Key minFunc4Count minFunc4Last
def S_impl_rarestEntry (list0 : List (Int × Int × Int)) (k : Int → Int → Int → Prop) : Prop := G_impl_rarestEntry list0 k
def F_impl_rarestEntry (l : List Ent) (k : Int → Int → Int → Prop) : Prop := (0 < l.length ∧ l.length ≤ 1000000000) ∧ k (l.getD (rareM l) ent0).1 (l.getD (rareM l) ent0).2.1 (l.getD (rareM l) ent0).2.2
theorem F_impl_rarestEntry_S {l : List Ent} {k : Int → Int → Int → Prop} (h : F_impl_rarestEntry l k) : S_impl_rarestEntry l k := h
-- slices.Index[[]impl.Entry,impl.Entry]
def T0_slices_Index_Entry_Entry (s0 : List (Int × Int × Int)) (v1Count : Int) (v1Key : Int) (v1Last : Int) (xt7 : Int) (xt8 : Int) (k : Int → Prop) (B0 : Int → Prop) : Prop :=
  br (decide (xt8 < xt7))
  ((0 ≤ xt8 ∧ xt8 < (s0.length : Int)) ∧
    br ((v1Key == (List.getD s0 (Int.toNat xt8) ((0 : Int), (0 : Int), (0 : Int))).1) && ((v1Count == (List.getD s0 (Int.toNat xt8) ((0 : Int), (0 : Int), (0 : Int))).2.1) && (v1Last == (List.getD s0 (Int.toNat xt8) ((0 : Int), (0 : Int), (0 : Int))).2.2)))
    (k xt8)
    (InR (xt8 + 1) ∧
      B0 (xt8 + 1)))
  (k (-1))
def L0_slices_Index_Entry_Entry (s0 : List (Int × Int × Int)) (v1Count : Int) (v1Key : Int) (v1Last : Int) (xt7 : Int) (k : Int → Prop) : Nat → Int → Prop
  | 0, _ => False
  | n + 1, xt8 => T0_slices_Index_Entry_Entry s0 v1Count v1Key v1Last xt7 xt8 k (L0_slices_Index_Entry_Entry s0 v1Count v1Key v1Last xt7 k n)
def G_slices_Index_Entry_Entry (s0 : List (Int × Int × Int)) (v1Key : Int) (v1Count : Int) (v1Last : Int) (I0 : List (Int × Int × Int) → Int → Int → Int → Int → Int → Prop) : Prop :=
  I0 s0 v1Count v1Key v1Last (s0.length : Int) 0
def S_slices_Index_Entry_Entry (s0 : List (Int × Int × Int)) (v1Key : Int) (v1Count : Int) (v1Last : Int) (k : Int → Prop) : Prop := G_slices_Index_Entry_Entry s0 v1Key v1Count v1Last (fun s0 v1Count v1Key v1Last xt7 xt8 => ∃ j, L0_slices_Index_Entry_Entry s0 v1Count v1Key v1Last xt7 k j xt8)
def F_slices_Index_Entry_Entry (l : List Ent) (a b c : Int) (k : Int → Prop) : Prop := l.length ≤ 1000000000 ∧ ∀ r : Int, FirstAt l (a, b, c) r → k r
theorem F_slices_Index_Entry_Entry_S {l : List Ent} {a b c : Int} {k : Int → Prop} (h : F_slices_Index_Entry_Entry l a b c k) : S_slices_Index_Entry_Entry l a b c k := by
  obtain ⟨hl, hk⟩ := h
  have key : ∀ (r : List Ent) (i : Nat), l.drop i = r → (∀ q, q < i → l[q]? ≠ some (a, b, c)) → L0_slices_Index_Entry_Entry l b a c (l.length : Int) k (r.length + 1) (i : Int) := by
    intro r
    induction r with
    | nil =>
      intro i hd hn
      have hi := drop_nil' hd
      rw [L0_slices_Index_Entry_Entry, T0_slices_Index_Entry_Entry]
      simp only [br_dec]
      refine ⟨fun h => by omega, fun _ => hk _ (.inr ⟨rfl, fun hm => ?_⟩)⟩
      obtain ⟨q, hq, e⟩ := List.getElem_of_mem hm
      exact hn q (by omega) (by rw [List.getElem?_eq_getElem hq, e])
    | cons x r ih =>
      intro i hd hn
      obtain ⟨h1, h2, h5, h3, h4⟩ := drop_cons' hd
      rw [List.length_cons, L0_slices_Index_Entry_Entry, T0_slices_Index_Entry_Entry]
      simp only [br_dec, Int.toNat_natCast, h2]
      refine ⟨fun _ => ⟨⟨by omega, by omega⟩, ?_⟩, fun h => by omega⟩
      rw [show ((a == x.1) && ((b == x.2.1) && (c == x.2.2))) = decide ((a, b, c) = x) from eq3 (x := (a, b, c)) (y := x)]
      refine br_dec.2 ⟨fun e => hk _ (.inl ⟨i, rfl, h1, by rw [h5, e], hn⟩), fun e => ⟨inR (by omega) (by omega), ih (i + 1) h3 fun q hq => ?_⟩⟩
      by_cases eq : q = i
      · subst eq; rw [h5]; intro c; injection c with c; exact e c.symm
      · exact hn q (by omega)
  exact ⟨_, key l 0 rfl (by simp)⟩
-- slices.Delete[[]impl.Entry,impl.Entry]
def G_slices_Delete_Entry_Entry (s0 : List (Int × Int × Int)) (i1 : Int) (j2 : Int) (k : List (Int × Int × Int) → Prop) : Prop :=
  (0 ≤ i1 ∧ i1 ≤ j2 ∧ j2 ≤ (s0.length : Int) ∧ (s0.length : Int) ≤ (s0.length : Int)) ∧
  br (i1 == j2)
  (k s0)
  ((0 ≤ i1 ∧ i1 ≤ (s0.length : Int)) ∧
    (0 ≤ j2 ∧ j2 ≤ (s0.length : Int)) ∧
    ((((0 + (Int.toNat i1)) + (List.length (List.take (s0.length - (Int.toNat j2)) (List.drop (Int.toNat j2) s0)))) ≤ s0.length) ∧
      (0 ≤ (((Int.toNat i1) + (List.length (List.take (s0.length - (Int.toNat j2)) (List.drop (Int.toNat j2) s0)))) : Int) ∧ (((Int.toNat i1) + (List.length (List.take (s0.length - (Int.toNat j2)) (List.drop (Int.toNat j2) s0)))) : Int) ≤ (s0.length : Int) ∧ (0 : Int) + (s0.length : Int) ≤ ((List.length (midA s0 (0 + (Int.toNat i1)) (List.take (s0.length - (Int.toNat j2)) (List.drop (Int.toNat j2) s0)))) : Int)) ∧
      k (List.take ((Int.toNat i1) + (List.length (List.take (s0.length - (Int.toNat j2)) (List.drop (Int.toNat j2) s0)))) (List.drop 0 (midA (midA s0 (0 + (Int.toNat i1)) (List.take (s0.length - (Int.toNat j2)) (List.drop (Int.toNat j2) s0))) (0 + (Int.toNat (((Int.toNat i1) + (List.length (List.take (s0.length - (Int.toNat j2)) (List.drop (Int.toNat j2) s0)))) : Int))) (List.replicate ((Int.toNat (s0.length : Int)) - (Int.toNat (((Int.toNat i1) + (List.length (List.take (s0.length - (Int.toNat j2)) (List.drop (Int.toNat j2) s0)))) : Int))) ((0 : Int), (0 : Int), (0 : Int))))))) ∧
    (True))
def H_slices_Delete_Entry_Entry (s0 : List (Int × Int × Int)) (i1 : Int) (j2 : Int) (k : List (Int × Int × Int) → Prop) : Prop :=
  (0 ≤ i1 ∧ i1 ≤ j2 ∧ j2 ≤ (s0.length : Int) ∧ (s0.length : Int) ≤ (s0.length : Int)) ∧
  br (i1 == j2)
  (k s0)
  ((0 ≤ i1 ∧ i1 ≤ (s0.length : Int)) ∧
    (0 ≤ j2 ∧ j2 ≤ (s0.length : Int)) ∧
    (((0 + (Int.toNat i1)) + (List.length (List.take (s0.length - (Int.toNat j2)) (List.drop (Int.toNat j2) s0)))) ≤ s0.length) ∧
    (0 ≤ (((Int.toNat i1) + (List.length (List.take (s0.length - (Int.toNat j2)) (List.drop (Int.toNat j2) s0)))) : Int) ∧ (((Int.toNat i1) + (List.length (List.take (s0.length - (Int.toNat j2)) (List.drop (Int.toNat j2) s0)))) : Int) ≤ (s0.length : Int) ∧ (0 : Int) + (s0.length : Int) ≤ ((List.length (midA s0 (0 + (Int.toNat i1)) (List.take (s0.length - (Int.toNat j2)) (List.drop (Int.toNat j2) s0)))) : Int)) ∧
    k (List.take ((Int.toNat i1) + (List.length (List.take (s0.length - (Int.toNat j2)) (List.drop (Int.toNat j2) s0)))) (List.drop 0 (midA (midA s0 (0 + (Int.toNat i1)) (List.take (s0.length - (Int.toNat j2)) (List.drop (Int.toNat j2) s0))) (0 + (Int.toNat (((Int.toNat i1) + (List.length (List.take (s0.length - (Int.toNat j2)) (List.drop (Int.toNat j2) s0)))) : Int))) (List.replicate ((Int.toNat (s0.length : Int)) - (Int.toNat (((Int.toNat i1) + (List.length (List.take (s0.length - (Int.toNat j2)) (List.drop (Int.toNat j2) s0)))) : Int))) ((0 : Int), (0 : Int), (0 : Int)))))))
theorem G_slices_Delete_Entry_Entry_eq (s0 : List (Int × Int × Int)) (i1 : Int) (j2 : Int) (k : List (Int × Int × Int) → Prop) : G_slices_Delete_Entry_Entry s0 i1 j2 k = H_slices_Delete_Entry_Entry s0 i1 j2 k := by
  simp only [G_slices_Delete_Entry_Entry, H_slices_Delete_Entry_Entry, and_self, and_true]
def S_slices_Delete_Entry_Entry (s0 : List (Int × Int × Int)) (i1 : Int) (j2 : Int) (k : List (Int × Int × Int) → Prop) : Prop := H_slices_Delete_Entry_Entry s0 i1 j2 k
def F_slices_Delete_Entry_Entry (l : List Ent) (i j : Int) (k : List Ent → Prop) : Prop := (0 ≤ i ∧ i ≤ j ∧ j ≤ l.length ∧ l.length ≤ 1000000000) ∧ k (l.take i.toNat ++ l.drop j.toNat)
theorem F_slices_Delete_Entry_Entry_S {l : List Ent} {i j : Int} {k : List Ent → Prop} (h : F_slices_Delete_Entry_Entry l i j k) : S_slices_Delete_Entry_Entry l i j k := by
  obtain ⟨⟨h1, h2, h3, h4⟩, hk⟩ := h
  refine ⟨⟨h1, h2, h3, Int.le_refl _⟩, br_beq.2 ⟨fun e => ?_, fun e => ?_⟩⟩
  · rw [← e, List.take_append_drop] at hk; exact hk
  · have hD : List.take (l.length - j.toNat) (l.drop j.toNat) = l.drop j.toNat := List.take_of_length_le (by simp)
    rw [hD]
    have hDl : (l.drop j.toNat).length = l.length - j.toNat := by simp
    have hm : (midA l (0 + i.toNat) (l.drop j.toNat)).length = l.length := by simp only [midA, List.length_append, List.length_take, List.length_drop]; omega
    refine ⟨⟨h1, by omega⟩, ⟨by omega, h3⟩, by omega, ⟨by omega, by omega, by omega⟩, ?_⟩
    rw [List.drop_zero]
    have e0 : ((i.toNat : Int) + ((l.drop j.toNat).length : Int)).toNat = i.toNat + (l.drop j.toNat).length := by omega
    have e2 := fun Z : List Ent => mid_take0 (l := midA l (0 + i.toNat) (l.drop j.toNat)) (r := Z) (i := 0 + (i.toNat + (l.drop j.toNat).length)) (by rw [hm]; omega)
    have e3 := mid_take1 (l := l) (r := l.drop j.toNat) (i := 0 + i.toNat) (n := 0 + (i.toNat + (l.drop j.toNat).length)) (by omega) (by omega)
    have e4 := fun Z => (e2 Z).trans e3
    simp only [Nat.zero_add] at e4
    rw [e0]
    simp only [Nat.zero_add]
    rw [e4]; exact hk
-- impl.UseOften
def T0_impl_UseOften (key2 : Int) (list0 : List (Int × Int × Int)) (now3 : Int) (room1 : Int) (xt31 : Int) (xthere11 : Bool) (xt32 : Int) (xout10 : List (Int × Int × Int)) (k : List (Int × Int × Int) → Bool → Prop) (B0 : Bool → Int → List (Int × Int × Int) → Prop) : Prop :=
  br (decide (xt32 < xt31))
  ((0 ≤ xt32 ∧ xt32 < (list0.length : Int)) ∧
    br (decide ((List.getD list0 (Int.toNat xt32) ((0 : Int), (0 : Int), (0 : Int))).2.2 ≥ now3))
    (k ([] : List (Int × Int × Int)) false)
    (br ((List.getD list0 (Int.toNat xt32) ((0 : Int), (0 : Int), (0 : Int))).1 == key2)
      (InR ((List.getD list0 (Int.toNat xt32) ((0 : Int), (0 : Int), (0 : Int))).2.1 + 1) ∧
        (xout10.length + 1 ≤ 1000000000) ∧
        InR (xt32 + 1) ∧
        B0 true (xt32 + 1) (xout10 ++ ([((List.getD list0 (Int.toNat xt32) ((0 : Int), (0 : Int), (0 : Int))).1, (if 100 < ((List.getD list0 (Int.toNat xt32) ((0 : Int), (0 : Int), (0 : Int))).2.1 + 1) then (100 : Int) else ((List.getD list0 (Int.toNat xt32) ((0 : Int), (0 : Int), (0 : Int))).2.1 + 1)), now3)] : List (Int × Int × Int))))
      ((xout10.length + 1 ≤ 1000000000) ∧
        InR (xt32 + 1) ∧
        B0 xthere11 (xt32 + 1) (xout10 ++ ([((List.getD list0 (Int.toNat xt32) ((0 : Int), (0 : Int), (0 : Int))).1, (List.getD list0 (Int.toNat xt32) ((0 : Int), (0 : Int), (0 : Int))).2.1, (List.getD list0 (Int.toNat xt32) ((0 : Int), (0 : Int), (0 : Int))).2.2)] : List (Int × Int × Int))))))
  (br xthere11
    (k xout10 true)
    (br ((xout10.length : Int) == room1)
      (F_impl_rarestEntry xout10 fun rarestEntry64Key rarestEntry64Count rarestEntry64Last =>
        F_slices_Index_Entry_Entry xout10 rarestEntry64Key rarestEntry64Count rarestEntry64Last fun index65 =>
        InR (index65 + 1) ∧
        F_slices_Delete_Entry_Entry xout10 index65 (index65 + 1) fun delete70 =>
        (delete70.length + 1 ≤ 1000000000) ∧
        k (delete70 ++ ([(key2, (1 : Int), now3)] : List (Int × Int × Int))) false)
      ((xout10.length + 1 ≤ 1000000000) ∧
        k (xout10 ++ ([(key2, (1 : Int), now3)] : List (Int × Int × Int))) false)))
def L0_impl_UseOften (key2 : Int) (list0 : List (Int × Int × Int)) (now3 : Int) (room1 : Int) (xt31 : Int) (k : List (Int × Int × Int) → Bool → Prop) : Nat → Bool → Int → List (Int × Int × Int) → Prop
  | 0, _, _, _ => False
  | n + 1, xthere11, xt32, xout10 => T0_impl_UseOften key2 list0 now3 room1 xt31 xthere11 xt32 xout10 k (L0_impl_UseOften key2 list0 now3 room1 xt31 k n)
def G_impl_UseOften (list0 : List (Int × Int × Int)) (room1 : Int) (key2 : Int) (now3 : Int) (k : List (Int × Int × Int) → Bool → Prop) (I0 : Int → List (Int × Int × Int) → Int → Int → Int → Bool → Int → List (Int × Int × Int) → Prop) : Prop :=
  F_impl_ValidEntries list0 room1 fun validEntries17 =>
  br (!validEntries17)
  (k ([] : List (Int × Int × Int)) false)
  (F_impl_validKey key2 fun validKey21 =>
    br (!validKey21)
    (k ([] : List (Int × Int × Int)) false)
    (F_impl_validTime now3 fun validTime26 =>
      br (!validTime26)
      (k ([] : List (Int × Int × Int)) false)
      (I0 key2 list0 now3 room1 (list0.length : Int) false 0 ([] : List (Int × Int × Int)))))
def S_impl_UseOften (list0 : List (Int × Int × Int)) (room1 : Int) (key2 : Int) (now3 : Int) (k : List (Int × Int × Int) → Bool → Prop) : Prop := G_impl_UseOften list0 room1 key2 now3 k (fun key2 list0 now3 room1 xt31 xthere11 xt32 xout10 => ∃ j, L0_impl_UseOften key2 list0 now3 room1 xt31 k j xthere11 xt32 xout10)
def F_impl_UseOften (l : List Ent) (room key now : Int) (k : List Ent → Bool → Prop) : Prop :=
  l.length ≤ 1000000000 ∧ (VUse l room key now → k (oftM l room key now).1 (oftM l room key now).2) ∧ (¬ VUse l room key now → k [] false)
theorem F_impl_UseOften_S {l : List Ent} {room key now : Int} {k : List Ent → Bool → Prop} (h : F_impl_UseOften l room key now k) : S_impl_UseOften l room key now k := by
  obtain ⟨hl, hyes, hno⟩ := h
  refine ⟨hl, ?_⟩; intro b hb
  refine br_not.2 (br_iff.2 ⟨fun e => br_not.2 (br_dec.2 ⟨fun hkey => br_not.2 (br_dec.2 ⟨fun hnow => ?_, fun hnow => hno fun w => hnow w.2.2.2⟩), fun hkey => hno fun w => hkey w.2.1⟩), fun e => hno fun w => by rw [hb.2 w.1] at e; cases e⟩)
  have v := hb.1 e
  have v1 := v.1
  have v2 := v.2.1
  have key1 : ∀ (r : List Ent) (i : Nat), l.drop i = r → (∀ e ∈ l.take i, e.2.2 < now) → L0_impl_UseOften key l now room (l.length : Int) k (r.length + 1) (decide (key ∈ (l.take i).map (·.1))) (i : Int) ((l.take i).map (upE key now)) := by
    intro r
    induction r with
    | nil =>
      intro i hd hn
      have hi := drop_nil' hd
      rw [List.take_of_length_le hi] at hn ⊢
      have hu : VUse l room key now := ⟨v, hkey, hn, hnow⟩
      have hk := hyes hu
      rw [L0_impl_UseOften, T0_impl_UseOften]
      refine br_dec.2 ⟨fun h => by omega, fun _ => br_dec.2 ⟨fun hm => ?_, fun hm => ?_⟩⟩
      · rw [oftM_map v.2.2.2.1 hm] at hk; exact hk
      · rw [upE_not hm]
        unfold oftM at hk
        rw [if_neg hm] at hk
        refine br_beq.2 ⟨fun hf => ?_, fun hf => ?_⟩
        · have hne : l ≠ [] := fun e => by rw [e] at hf; simp at hf; omega
          have hp := List.length_pos_iff.2 hne
          have hlt := (rareM_ok hne).1
          refine ⟨⟨hp, hl⟩, hl, fun q hq => ?_⟩
          have hq := firstAt_rare v.2.2.2.1 hne hq
          subst hq
          refine ⟨inR (by omega) (by omega), ⟨by omega, by omega, by omega, hl⟩, ?_⟩
          rw [Int.toNat_natCast, show ((rareM l : Int) + 1).toNat = rareM l + 1 by omega, ← List.eraseIdx_eq_take_drop_succ]
          rw [if_pos hf] at hk
          exact ⟨by have := List.length_eraseIdx_le l (rareM l); omega, hk⟩
        · rw [if_neg hf] at hk
          exact ⟨by omega, hk⟩
    | cons x r ih =>
      intro i hd hn
      obtain ⟨h1, h2, h5, h3, h4⟩ := drop_cons' hd
      have hxl : x ∈ l := List.mem_of_getElem? h5
      have hr := v.2.2.1 x hxl
      have hlen : ((l.take i).map (upE key now)).length ≤ 8 := by simp; omega
      rw [List.length_cons, L0_impl_UseOften, T0_impl_UseOften]
      simp only [br_dec, br_beq, Int.toNat_natCast, h2]
      refine ⟨fun _ => ⟨⟨by omega, by omega⟩, fun hge => hno fun w => ?_, fun hlt => ?_⟩, fun h => by omega⟩
      · have := w.2.2.1 x hxl; omega
      · have hn' : ∀ e ∈ l.take (i + 1), e.2.2 < now := by
          rw [h4]; intro e he
          rcases List.mem_append.1 he with h | h
          · exact hn e h
          · rw [List.mem_singleton.1 h]; omega
        have := ih (i + 1) h3 hn'
        rw [h4, List.map_append, List.map_append, List.map_singleton, List.map_singleton] at this
        refine ⟨fun hx => ⟨inR (by have := hr.2.1; omega) (by have := hr.2.1; omega), by omega, inR (by omega) (by omega), ?_⟩, fun hx => ⟨by omega, inR (by omega) (by omega), ?_⟩⟩
        · rw [upE, if_pos hx] at this
          have hd2 : decide (key ∈ (l.take i).map (·.1) ++ [x.1]) = true := by simp [hx]
          rw [hd2] at this; exact this
        · rw [upE, if_neg hx] at this
          have hd2 : decide (key ∈ (l.take i).map (·.1) ++ [x.1]) = decide (key ∈ (l.take i).map (·.1)) := by
            refine decide_eq_decide.2 ⟨fun h => ?_, fun h => List.mem_append_left _ h⟩
            rcases List.mem_append.1 h with h | h
            · exact h
            · exact absurd (List.mem_singleton.1 h).symm hx
          rw [hd2] at this; exact this
  exact ⟨_, by simpa using key1 l 0 rfl (by simp)⟩
-- spec.inRange
def G_spec_inRange (n0 : Int) (low1 : Int) (high2 : Int) (k : Bool → Prop) : Prop :=
  br (decide (low1 ≤ n0))
  (k (decide (n0 ≤ high2)))
  (k false)
def S_spec_inRange (n0 : Int) (low1 : Int) (high2 : Int) (k : Bool → Prop) : Prop := G_spec_inRange n0 low1 high2 k
def F_spec_inRange (n low high : Int) (k : Bool → Prop) : Prop := k (decide (low ≤ n ∧ n ≤ high))
theorem F_spec_inRange_S {n low high : Int} {k : Bool → Prop} (h : F_spec_inRange n low high k) : S_spec_inRange n low high k := by
  unfold F_spec_inRange at h
  simp only [S_spec_inRange, G_spec_inRange, br_dec]
  refine ⟨fun h1 => ?_, fun h1 => ?_⟩
  · simpa [h1] using h
  · simpa [h1] using h
-- spec.validEntries
def T1_spec_validEntries (list0 : List (Int × Int × Int)) (room1 : Int) (xi5 : Int) (xk6 : Int) (k : Bool → Prop) (B0 : Int → Prop) (B1 : Int → Prop) : Prop :=
  br (decide (xk6 < xi5))
  ((0 ≤ xk6 ∧ xk6 < (list0.length : Int)) ∧
    (0 ≤ xi5 ∧ xi5 < (list0.length : Int)) ∧
    br ((List.getD list0 (Int.toNat xk6) ((0 : Int), (0 : Int), (0 : Int))).1 == (List.getD list0 (Int.toNat xi5) ((0 : Int), (0 : Int), (0 : Int))).1)
    (k false)
    ((0 ≤ xk6 ∧ xk6 < (list0.length : Int)) ∧
      (0 ≤ xi5 ∧ xi5 < (list0.length : Int)) ∧
      br ((List.getD list0 (Int.toNat xk6) ((0 : Int), (0 : Int), (0 : Int))).2.2 == (List.getD list0 (Int.toNat xi5) ((0 : Int), (0 : Int), (0 : Int))).2.2)
      (k false)
      (InR (xk6 + 1) ∧
        B1 (xk6 + 1))))
  (InR (xi5 + 1) ∧
    B0 (xi5 + 1))
def L1_spec_validEntries (list0 : List (Int × Int × Int)) (room1 : Int) (xi5 : Int) (k : Bool → Prop) (B0 : Int → Prop) : Nat → Int → Prop
  | 0, _ => False
  | n + 1, xk6 => T1_spec_validEntries list0 room1 xi5 xk6 k B0 (L1_spec_validEntries list0 room1 xi5 k B0 n)
def T0_spec_validEntries (list0 : List (Int × Int × Int)) (room1 : Int) (xi5 : Int) (k : Bool → Prop) (I1 : List (Int × Int × Int) → Int → Int → Int → Prop) : Prop :=
  br (decide (xi5 < (list0.length : Int)))
  ((0 ≤ xi5 ∧ xi5 < (list0.length : Int)) ∧
    F_spec_inRange (List.getD list0 (Int.toNat xi5) ((0 : Int), (0 : Int), (0 : Int))).1 (0 : Int) (31 : Int) fun inRange18 =>
    br (!inRange18)
    (k false)
    ((0 ≤ xi5 ∧ xi5 < (list0.length : Int)) ∧
      F_spec_inRange (List.getD list0 (Int.toNat xi5) ((0 : Int), (0 : Int), (0 : Int))).2.1 (1 : Int) (100 : Int) fun inRange26 =>
      br (!inRange26)
      (k false)
      ((0 ≤ xi5 ∧ xi5 < (list0.length : Int)) ∧
        F_spec_inRange (List.getD list0 (Int.toNat xi5) ((0 : Int), (0 : Int), (0 : Int))).2.2 (0 : Int) (1000 : Int) fun inRange35 =>
        br (!inRange35)
        (k false)
        (I1 list0 room1 xi5 0))))
  (F_spec_inRange room1 (1 : Int) (8 : Int) fun inRange68 =>
    br inRange68
    (k (decide ((list0.length : Int) ≤ room1)))
    (k false))
def L0_spec_validEntries (list0 : List (Int × Int × Int)) (room1 : Int) (k : Bool → Prop) : Nat → Int → Prop
  | 0, _ => False
  | n + 1, xi5 => T0_spec_validEntries list0 room1 xi5 k (fun list0 room1 xi5 xk6 => ∃ j, L1_spec_validEntries list0 room1 xi5 k (L0_spec_validEntries list0 room1 k n) j xk6)
def G_spec_validEntries (list0 : List (Int × Int × Int)) (room1 : Int) (I0 : List (Int × Int × Int) → Int → Int → Prop) : Prop :=
  I0 list0 room1 0
def S_spec_validEntries (list0 : List (Int × Int × Int)) (room1 : Int) (k : Bool → Prop) : Prop := G_spec_validEntries list0 room1 (fun list0 room1 xi5 => ∃ j, L0_spec_validEntries list0 room1 k j xi5)
def F_spec_validEntries (l : List Ent) (room : Int) (k : Bool → Prop) : Prop := l.length ≤ 1000000000 ∧ ∀ b : Bool, (b = true ↔ VEnt l room) → k b
theorem F_spec_validEntries_S {l : List Ent} {room : Int} {k : Bool → Prop} (h : F_spec_validEntries l room k) : S_spec_validEntries l room k := by
  obtain ⟨h0, hk⟩ := h
  have no : ¬ VEnt l room → k false := fun hv => hk false (by simp [hv])
  have key : ∀ (r : List Ent) (i : Nat), l.drop i = r → PEnt (l.take i) → L0_spec_validEntries l room k (r.length + 1) (i : Int) := by
    intro r
    induction r with
    | nil =>
      intro i hd hp
      have hi := drop_nil' hd
      rw [List.take_of_length_le hi] at hp
      rw [L0_spec_validEntries, T0_spec_validEntries]
      simp only [br_dec, F_spec_inRange]
      refine ⟨fun h => by omega, fun _ => ⟨fun hr => hk _ ?_, fun hr => no fun v => hr v.1⟩⟩
      rw [decide_eq_true_iff]
      exact ⟨fun hl => ⟨hr, hl, hp⟩, fun v => v.2.1⟩
    | cons x r ih =>
      intro i hd hp
      obtain ⟨g1, g2, g5, g3, g4⟩ := drop_cons' hd
      have hm := List.mem_of_getElem? g5
      rw [List.length_cons, L0_spec_validEntries, T0_spec_validEntries]
      simp only [br_dec, br_not, F_spec_inRange, Int.toNat_natCast, g2]
      refine ⟨fun _ => ⟨⟨by omega, by omega⟩, fun r1 => ⟨⟨by omega, by omega⟩, fun r2 => ⟨⟨by omega, by omega⟩, fun r3 => ?_, fun r3 => no fun v => r3 (v.2.2.1 x hm).2.2⟩, fun r2 => no fun v => r2 (v.2.2.1 x hm).2.1⟩, fun r1 => no fun v => r1 (v.2.2.1 x hm).1⟩, fun h => by omega⟩
      have key1 : ∀ (d j : Nat), j + d = i → (∀ q : Nat, q < j → (l.getD q ent0).1 ≠ x.1 ∧ (l.getD q ent0).2.2 ≠ x.2.2) → L1_spec_validEntries l room (i : Int) k (L0_spec_validEntries l room k (r.length + 1)) (d + 1) (j : Int) := by
        intro d
        induction d with
        | zero =>
          intro j hj hq
          have hj : j = i := by omega
          subst hj
          rw [L1_spec_validEntries, T1_spec_validEntries]
          refine br_dec.2 ⟨fun h => by omega, fun _ => ⟨inR (by omega) (by omega), ih (j + 1) g3 ?_⟩⟩
          rw [g4]
          exact hp.snoc ⟨r1, r2, r3⟩ fun e he => by
            obtain ⟨q, q1, q2⟩ := List.getElem_of_mem he
            rw [List.length_take] at q1
            have := hq q (by omega)
            rw [List.getElem_take] at q2
            rwa [List.getD_eq_getElem?_getD, List.getElem?_eq_getElem (by omega), q2] at this
        | succ d ihd =>
          intro j hj hq
          have hjl : j < l.length := by omega
          have hje : l[j]? = some (l.getD j ent0) := by rw [List.getD_eq_getElem?_getD, List.getElem?_eq_getElem hjl]; rfl
          rw [L1_spec_validEntries, T1_spec_validEntries]
          simp only [br_dec, br_beq, Int.toNat_natCast, g2]
          refine ⟨fun _ => ⟨⟨by omega, by omega⟩, ⟨by omega, by omega⟩, fun e => no fun v => ?_, fun n1 => ⟨⟨by omega, by omega⟩, ⟨by omega, by omega⟩, fun e => no fun v => ?_, fun n2 => ⟨inR (by omega) (by omega), ?_⟩⟩⟩, fun h => by omega⟩
          · have := nodup_at v.2.2.2.1 (i := j) (j := i) (x := x.1) (by rw [List.getElem?_map, hje, Option.map_some, e]) (by rw [List.getElem?_map, g5, Option.map_some])
            omega
          · have := nodup_at v.2.2.2.2 (i := j) (j := i) (x := x.2.2) (by rw [List.getElem?_map, hje, Option.map_some, e]) (by rw [List.getElem?_map, g5, Option.map_some])
            omega
          · refine ihd (j + 1) (by omega) fun q hq2 => ?_
            by_cases e : q = j
            · subst e; exact ⟨n1, n2⟩
            · exact hq q (by omega)
      exact ⟨_, key1 i 0 (by omega) fun q hq => by omega⟩
  exact ⟨_, key l 0 rfl ⟨by simp, by simp, by simp⟩⟩
-- spec.later
def T0_spec_later (list0 : List (Int × Int × Int)) (now1 : Int) (xi5 : Int) (k : Bool → Prop) (B0 : Int → Prop) : Prop :=
  br (decide (xi5 < (list0.length : Int)))
  ((0 ≤ xi5 ∧ xi5 < (list0.length : Int)) ∧
    br (decide ((List.getD list0 (Int.toNat xi5) ((0 : Int), (0 : Int), (0 : Int))).2.2 ≥ now1))
    (k false)
    (InR (xi5 + 1) ∧
      B0 (xi5 + 1)))
  (F_spec_inRange now1 (0 : Int) (1000 : Int) fun inRange20 =>
    k inRange20)
def L0_spec_later (list0 : List (Int × Int × Int)) (now1 : Int) (k : Bool → Prop) : Nat → Int → Prop
  | 0, _ => False
  | n + 1, xi5 => T0_spec_later list0 now1 xi5 k (L0_spec_later list0 now1 k n)
def G_spec_later (list0 : List (Int × Int × Int)) (now1 : Int) (I0 : List (Int × Int × Int) → Int → Int → Prop) : Prop :=
  I0 list0 now1 0
def S_spec_later (list0 : List (Int × Int × Int)) (now1 : Int) (k : Bool → Prop) : Prop := G_spec_later list0 now1 (fun list0 now1 xi5 => ∃ j, L0_spec_later list0 now1 k j xi5)
def F_spec_later (l : List Ent) (now : Int) (k : Bool → Prop) : Prop := l.length ≤ 1000000000 ∧ ∀ b : Bool, (b = true ↔ LatE l now) → k b
theorem F_spec_later_S {l : List Ent} {now : Int} {k : Bool → Prop} (h : F_spec_later l now k) : S_spec_later l now k := by
  obtain ⟨h0, hk⟩ := h
  have key : ∀ (r : List Ent) (i : Nat), l.drop i = r → (∀ e ∈ l.take i, e.2.2 < now) → L0_spec_later l now k (r.length + 1) (i : Int) := by
    intro r
    induction r with
    | nil =>
      intro i hd hp
      have hi := drop_nil' hd
      rw [List.take_of_length_le hi] at hp
      rw [L0_spec_later, T0_spec_later]
      refine br_dec.2 ⟨fun h => by omega, fun _ => hk _ ?_⟩
      rw [decide_eq_true_iff]
      exact ⟨fun hl => ⟨hp, hl⟩, fun v => v.2⟩
    | cons x r ih =>
      intro i hd hp
      obtain ⟨g1, g2, g5, g3, g4⟩ := drop_cons' hd
      rw [List.length_cons, L0_spec_later, T0_spec_later]
      simp only [br_dec, Int.toNat_natCast, g2]
      refine ⟨fun _ => ⟨⟨by omega, by omega⟩, fun e => hk false ?_, fun e => ⟨inR (by omega) (by omega), ih (i + 1) g3 ?_⟩⟩, fun h => by omega⟩
      · have : ¬ LatE l now := fun v => by have := v.1 x (List.mem_of_getElem? g5); omega
        simp [this]
      · rw [g4]; intro y hy
        rcases List.mem_append.1 hy with hy | hy
        · exact hp y hy
        · rw [List.mem_singleton.1 hy]; omega
  exact ⟨_, key l 0 rfl (by simp)⟩
-- spec.UseOften
def G_spec_UseOften (list0 : List (Int × Int × Int)) (room1 : Int) (key2 : Int) (now3 : Int) (k : List (Int × Int × Int) → Bool → Prop) : Prop :=
  F_spec_validEntries list0 room1 fun validEntries12 =>
  br (!validEntries12)
  (k ([] : List (Int × Int × Int)) false)
  (F_spec_inRange key2 (0 : Int) (31 : Int) fun inRange16 =>
    br (!inRange16)
    (k ([] : List (Int × Int × Int)) false)
    (F_spec_later list0 now3 fun later22 =>
      br (!later22)
      (k ([] : List (Int × Int × Int)) false)
      (F_spec_often list0 room1 key2 now3 fun often29r0 often29r1 =>
        k often29r0 often29r1)))
def S_spec_UseOften (list0 : List (Int × Int × Int)) (room1 : Int) (key2 : Int) (now3 : Int) (k : List (Int × Int × Int) → Bool → Prop) : Prop := G_spec_UseOften list0 room1 key2 now3 k
def F_spec_UseOften (l : List Ent) (room key now : Int) (k : List Ent → Bool → Prop) : Prop :=
  l.length ≤ 1000000000 ∧ (VUse l room key now → k (oftM l room key now).1 (oftM l room key now).2) ∧ (¬ VUse l room key now → k [] false)
theorem F_spec_UseOften_S {l : List Ent} {room key now : Int} {k : List Ent → Bool → Prop} (h : F_spec_UseOften l room key now k) : S_spec_UseOften l room key now k := by
  obtain ⟨hl, hyes, hno⟩ := h
  refine ⟨hl, ?_⟩; intro b hb
  rw [br_not, br_iff]
  refine ⟨fun e => br_not.2 (br_dec.2 ⟨fun hkey => ⟨hl, ?_⟩, fun hkey => hno fun w => hkey w.2.1⟩), fun e => hno fun w => by rw [hb.2 w.1] at e; cases e⟩
  intro c hc
  rw [br_not, br_iff]
  have v := hb.1 e
  refine ⟨fun e2 => ⟨⟨by have := v.2.1; have := v.1; omega, v.1.1, fun x hx => by have := (v.2.2.1 x hx).2.1; omega⟩, hyes ⟨v, hkey, hc.1 e2⟩⟩, fun e2 => hno fun w => by rw [hc.2 w.2.2] at e2; cases e2⟩
-- laws.equalEntries
def T0_laws_equalEntries (a0 : List (Int × Int × Int)) (b1 : List (Int × Int × Int)) (xi5 : Int) (k : Bool → Prop) (B0 : Int → Prop) : Prop :=
  br (decide (xi5 < (a0.length : Int)))
  ((0 ≤ xi5 ∧ xi5 < (a0.length : Int)) ∧
    (0 ≤ xi5 ∧ xi5 < (b1.length : Int)) ∧
    br (!(((List.getD a0 (Int.toNat xi5) ((0 : Int), (0 : Int), (0 : Int))).1 == (List.getD b1 (Int.toNat xi5) ((0 : Int), (0 : Int), (0 : Int))).1) && (((List.getD a0 (Int.toNat xi5) ((0 : Int), (0 : Int), (0 : Int))).2.1 == (List.getD b1 (Int.toNat xi5) ((0 : Int), (0 : Int), (0 : Int))).2.1) && ((List.getD a0 (Int.toNat xi5) ((0 : Int), (0 : Int), (0 : Int))).2.2 == (List.getD b1 (Int.toNat xi5) ((0 : Int), (0 : Int), (0 : Int))).2.2))))
    (k false)
    (InR (xi5 + 1) ∧
      B0 (xi5 + 1)))
  (k true)
def L0_laws_equalEntries (a0 : List (Int × Int × Int)) (b1 : List (Int × Int × Int)) (k : Bool → Prop) : Nat → Int → Prop
  | 0, _ => False
  | n + 1, xi5 => T0_laws_equalEntries a0 b1 xi5 k (L0_laws_equalEntries a0 b1 k n)
def G_laws_equalEntries (a0 : List (Int × Int × Int)) (b1 : List (Int × Int × Int)) (k : Bool → Prop) (I0 : List (Int × Int × Int) → List (Int × Int × Int) → Int → Prop) : Prop :=
  br ((a0.length : Int) != (b1.length : Int))
  (k false)
  (I0 a0 b1 0)
def S_laws_equalEntries (a0 : List (Int × Int × Int)) (b1 : List (Int × Int × Int)) (k : Bool → Prop) : Prop := G_laws_equalEntries a0 b1 k (fun a0 b1 xi5 => ∃ j, L0_laws_equalEntries a0 b1 k j xi5)
def F_laws_equalEntries (a b : List Ent) (k : Bool → Prop) : Prop := a.length ≤ 1000000000 ∧ k (decide (a = b))
theorem F_laws_equalEntries_S {a b : List Ent} {k : Bool → Prop} (h : F_laws_equalEntries a b k) : S_laws_equalEntries a b k := by
  obtain ⟨hl, hk⟩ := h
  refine br_bne.2 ⟨fun he => by rwa [decide_eq_false (fun e => he (by rw [e]))] at hk, fun he => ?_⟩
  have he : a.length = b.length := by omega
  have key : ∀ (r : List Ent) (i : Nat), a.drop i = r → (r = b.drop i ↔ a = b) → L0_laws_equalEntries a b k (r.length + 1) (i : Int) := by
    intro r
    induction r with
    | nil =>
      intro i hd hi
      have := drop_nil' hd
      rw [L0_laws_equalEntries, T0_laws_equalEntries]
      simp only [br_dec]
      exact ⟨fun h => by omega, fun _ => by rwa [decide_eq_true (hi.1 (List.drop_eq_nil_of_le (by omega)).symm)] at hk⟩
    | cons x r ih =>
      intro i hd hi
      obtain ⟨h1, h2, _, h3, _⟩ := drop_cons' hd
      obtain ⟨y, s, hs⟩ : ∃ y s, b.drop i = y :: s := by
        cases e : b.drop i with
        | nil => have := drop_nil' e; omega
        | cons y s => exact ⟨y, s, rfl⟩
      obtain ⟨g1, g2, _, g3, _⟩ := drop_cons' hs
      rw [List.length_cons, L0_laws_equalEntries, T0_laws_equalEntries]
      simp only [br_dec, Int.toNat_natCast, h2, g2]
      rw [hs] at hi
      refine ⟨fun _ => ⟨⟨by omega, by omega⟩, ⟨by omega, by omega⟩, ?_⟩, fun h => by omega⟩
      have go : x = y → L0_laws_equalEntries a b k (r.length + 1) ((i : Int) + 1) := fun hx => ih (i + 1) h3 (by rw [g3, ← hi, hx]; simp)
      have no : x ≠ y → k false := fun hx => by rwa [decide_eq_false (fun e => hx (List.cons.inj (hi.2 e)).1)] at hk
      rw [br_not, eq3, br_dec]
      exact ⟨fun hx => ⟨inR (by omega) (by omega), go hx⟩, no⟩
  exact ⟨_, key a 0 rfl (by simp)⟩
-- laws.FnUseOftenAgain
def G_laws_FnUseOftenAgain_j0 (useOften28r0 : List (Int × Int × Int)) (useOften28r1 : Bool) (useOften36r0 : List (Int × Int × Int)) (useOften36r1 : Bool) (k : Bool → Prop) : Prop :=
  F_laws_equalEntries useOften28r0 useOften36r0 fun equalEntries59 =>
  br equalEntries59
  (k (useOften28r1 == useOften36r1))
  (k false)
def G_laws_FnUseOftenAgain (code0 : List Int) (k : Bool → Prop) : Prop :=
  br (decide ((code0.length : Int) > 1048576))
  (k true)
  (F_spec_DrawUseOften code0 fun drawUseOften18r0 drawUseOften18r1 drawUseOften18r2 drawUseOften18r3 =>
    F_impl_UseOften drawUseOften18r0 drawUseOften18r1 drawUseOften18r2 drawUseOften18r3 fun useOften28r0 useOften28r1 =>
    F_spec_UseOften drawUseOften18r0 drawUseOften18r1 drawUseOften18r2 drawUseOften18r3 fun useOften36r0 useOften36r1 =>
    F_laws_equalEntries useOften28r0 useOften36r0 fun equalEntries41 =>
    br (!equalEntries41)
    (G_laws_FnUseOftenAgain_j0 useOften28r0 useOften28r1 useOften36r0 useOften36r1 k)
    (br (!(useOften28r1 == useOften36r1))
      (G_laws_FnUseOftenAgain_j0 useOften28r0 useOften28r1 useOften36r0 useOften36r1 k)
      (br ((useOften28r0.length : Int) == 0)
        (G_laws_FnUseOftenAgain_j0 useOften28r0 useOften28r1 useOften36r0 useOften36r1 k)
        (br (drawUseOften18r3 == 1000)
          (G_laws_FnUseOftenAgain_j0 useOften28r0 useOften28r1 useOften36r0 useOften36r1 k)
          (InR (drawUseOften18r3 + 1) ∧
            F_impl_UseOften useOften28r0 drawUseOften18r1 drawUseOften18r2 (drawUseOften18r3 + 1) fun useOften71r0 useOften71r1 =>
            br useOften71r1
            (k ((useOften71r0.length : Int) == (useOften28r0.length : Int)))
            (k false))))))
def S_laws_FnUseOftenAgain (code0 : List Int) (k : Bool → Prop) : Prop := G_laws_FnUseOftenAgain code0 k
abbrev F_laws_FnUseOftenAgain (code0 : List Int) (k : Bool → Prop) : Prop := S_laws_FnUseOftenAgain code0 k
theorem F_laws_FnUseOftenAgain_S {code0 : List Int} {k : Bool → Prop} (h : F_laws_FnUseOftenAgain code0 k) : S_laws_FnUseOftenAgain code0 k := h
theorem law_FnUseOftenAgain (code : List Int) (hb : ∀ x ∈ code, 0 ≤ x ∧ x ≤ 255) : F_laws_FnUseOftenAgain code (fun r => r = true) := by
  refine br_dec.2 ⟨fun _ => rfl, fun hlen => ⟨hb, fun l room key now l1 => ⟨by omega, ?_⟩⟩⟩
  by_cases v : VUse l room key now
  · refine ⟨fun _ => ⟨by omega, fun _ => ?_, fun h => absurd v h⟩, fun h => absurd v h⟩
    have hlen1 := oftM_len (l := l) (room := room) (key := key) (now := now)
    have hpos := oftM_pos (l := l) (room := room) (key := key) (now := now)
    have hval := oftM_valid v.1 v.2.1 v.2.2.1 v.2.2.2
    have hlast := oftM_last (room := room) (key := key) v.2.2.1
    have hin : key ∈ (oftM l room key now).1.map (·.1) := by
      by_cases hm : key ∈ l.map (·.1)
      · obtain ⟨e, he, hk⟩ := List.mem_map.1 hm
        exact List.mem_map.2 ⟨_, (oftM_old (now := now) v.1 (.inr ⟨e, he, hk, rfl⟩)).1, rfl⟩
      · exact List.mem_map.2 ⟨_, (oftM_old (now := now) v.1 (.inl ⟨hm, rfl⟩)).1, rfl⟩
    have hnow := v.2.2.2
    generalize oftM l room key now = q at *
    obtain ⟨out, hit⟩ := q
    simp only at hlen1 hpos hval hlast hin ⊢
    refine ⟨by omega, br_de (br_same (br_beq.2 ⟨fun h => by omega, fun _ => br_beq.2 ⟨fun _ => ⟨by omega, br_de' (beq_self_eq_true _)⟩, fun h => ?_⟩⟩))⟩
    refine ⟨inR (by omega) (by omega), by omega, fun _ => ?_, fun g => absurd ⟨hval, v.2.1, hlast, by omega, by omega⟩ g⟩
    obtain ⟨j, j1, j2, j3, j4⟩ := oftM_hit (room := room) (now := now + 1) hval.2.2.2.1 hin
    rw [j4]
    exact (show (((out.set j _).length : Int) == (out.length : Int)) = true by simp)
  · refine ⟨fun h => absurd h v, fun _ => ⟨by omega, fun h => absurd h v, fun _ => ?_⟩⟩
    exact ⟨by simp, br_de (br_same (br_beq.2 ⟨fun _ => ⟨by simp, br_de' rfl⟩, fun h => absurd rfl h⟩))⟩
end Go.Ev
