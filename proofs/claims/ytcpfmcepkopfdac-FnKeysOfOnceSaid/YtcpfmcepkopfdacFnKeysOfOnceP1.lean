/- What the functions that the law reaches do, written as plain Lean. No statement is proved here. -/
import Derived.Test.YtcpfmcepkopfdacFnKeysOfOnceP0
namespace Go.Ev
set_option linter.unusedVariables false
open Go
def F_slices_Index_sint_int (l : List Int) (n : Int) (k : Int → Prop) : Prop := l.length ≤ 1000000000 ∧ k (plc l n)
theorem F_slices_Index_sint_int_S {l : List Int} {n : Int} {k : Int → Prop} (h : F_slices_Index_sint_int l n k) : S_slices_Index_sint_int l n k := by
  obtain ⟨hl, hk⟩ := h
  have key : ∀ (r : List Int) (i : Nat), l.drop i = r → plcF r n i = plc l n → L0_slices_Index_sint_int l n (l.length : Int) k (r.length + 1) (i : Int) := by
    intro r
    induction r with
    | nil =>
      intro i hd he
      have := drop_nil' hd
      rw [L0_slices_Index_sint_int, T0_slices_Index_sint_int]
      simp only [br_dec]
      exact ⟨fun h => by omega, fun _ => by rw [show (-1 : Int) = plc l n from he]; exact hk⟩
    | cons x r ih =>
      intro i hd he
      obtain ⟨h1, h2, _, h3, _⟩ := drop_cons' hd
      rw [List.length_cons, L0_slices_Index_sint_int, T0_slices_Index_sint_int]
      simp only [br_dec, br_beq, Int.toNat_natCast, h2]
      refine ⟨fun _ => ⟨⟨by omega, by omega⟩, fun hx => ?_, fun hx => ⟨inR (by omega) (by omega), ?_⟩⟩, fun h => by omega⟩
      · simp only [plcF, if_pos hx.symm] at he; rw [he]; exact hk
      · simp only [plcF, if_neg (Ne.symm hx)] at he; exact ih (i + 1) h3 he
  exact ⟨_, key l 0 rfl rfl⟩
-- slices.Contains[[]int,int]
def G_slices_Contains_sint_int (s0 : List Int) (v1 : Int) (k : Bool → Prop) : Prop :=
  F_slices_Index_sint_int s0 v1 fun index7 =>
  k (decide (index7 ≥ 0))
def S_slices_Contains_sint_int (s0 : List Int) (v1 : Int) (k : Bool → Prop) : Prop := G_slices_Contains_sint_int s0 v1 k
def F_slices_Contains_sint_int (l : List Int) (n : Int) (k : Bool → Prop) : Prop := l.length ≤ 1000000000 ∧ k (decide (n ∈ l))
theorem F_slices_Contains_sint_int_S {l : List Int} {n : Int} {k : Bool → Prop} (h : F_slices_Contains_sint_int l n k) : S_slices_Contains_sint_int l n k := by
  refine ⟨h.1, ?_⟩
  have : decide (plc l n ≥ 0) = decide (n ∈ l) := decide_eq_decide.2 plc_ge
  show k (decide (plc l n ≥ 0))
  rw [this]; exact h.2
-- impl.differentKeys
def T0_impl_differentKeys (list0 : List Int) (xt6 : Int) (xt7 : Int) (k : Bool → Prop) (B0 : Int → Prop) : Prop :=
  br (decide (xt7 < xt6))
  ((0 ≤ xt7 ∧ xt7 < (list0.length : Int)) ∧
    F_impl_validKey (List.getD list0 (Int.toNat xt7) (0 : Int)) fun validKey13 =>
    br (!validKey13)
    (k false)
    ((0 ≤ xt7 ∧ xt7 ≤ (list0.length : Int)) ∧
      F_slices_Contains_sint_int (List.take (Int.toNat xt7) list0) (List.getD list0 (Int.toNat xt7) (0 : Int)) fun contains20 =>
      br contains20
      (k false)
      (InR (xt7 + 1) ∧
        B0 (xt7 + 1))))
  (k true)
def L0_impl_differentKeys (list0 : List Int) (xt6 : Int) (k : Bool → Prop) : Nat → Int → Prop
  | 0, _ => False
  | n + 1, xt7 => T0_impl_differentKeys list0 xt6 xt7 k (L0_impl_differentKeys list0 xt6 k n)
def G_impl_differentKeys (list0 : List Int) (I0 : List Int → Int → Int → Prop) : Prop :=
  I0 list0 (list0.length : Int) 0
def S_impl_differentKeys (list0 : List Int) (k : Bool → Prop) : Prop := G_impl_differentKeys list0 (fun list0 xt6 xt7 => ∃ j, L0_impl_differentKeys list0 xt6 k j xt7)
def F_impl_differentKeys (l : List Int) (k : Bool → Prop) : Prop := l.length ≤ 1000000000 ∧ ∀ b : Bool, (b = true ↔ (∀ x ∈ l, 0 ≤ x ∧ x ≤ 31) ∧ l.Nodup) → k b
theorem F_impl_differentKeys_S {l : List Int} {k : Bool → Prop} (h : F_impl_differentKeys l k) : S_impl_differentKeys l k := by
  obtain ⟨hl, h⟩ := h
  have hno : ¬ ((∀ x ∈ l, 0 ≤ x ∧ x ≤ 31) ∧ l.Nodup) → k false := fun hv => h false (by simp only [Bool.false_eq_true, false_iff]; exact hv)
  have key : ∀ (r : List Int) (i : Nat), l.drop i = r → (∀ x ∈ l.take i, 0 ≤ x ∧ x ≤ 31) → (l.take i).Nodup → L0_impl_differentKeys l (l.length : Int) k (r.length + 1) (i : Int) := by
    intro r
    induction r with
    | nil =>
      intro i hd he hn
      have := drop_nil' hd
      rw [List.take_of_length_le this] at he hn
      rw [L0_impl_differentKeys, T0_impl_differentKeys]
      simp only [br_dec]
      exact ⟨fun h => by omega, fun _ => h true (by simp only [true_iff]; exact ⟨he, hn⟩)⟩
    | cons x r ih =>
      intro i hd he hn
      obtain ⟨h1, h2, h5, h3, h4⟩ := drop_cons' hd
      rw [List.length_cons, L0_impl_differentKeys, T0_impl_differentKeys]
      simp only [br_dec, F_impl_validKey, F_slices_Contains_sint_int, Int.toNat_natCast, h2, br_not]
      have hxl : x ∈ l := List.mem_of_getElem? h5
      refine ⟨fun _ => ⟨⟨by omega, by omega⟩, fun hx => ⟨⟨by omega, by omega⟩, by simp; omega, fun hc => ?_, fun hc => ⟨inR (by omega) (by omega), ?_⟩⟩, fun hx => hno fun v => hx (v.1 x hxl)⟩, fun h => by omega⟩
      · refine hno fun v => ?_
        have hn2 := v.2
        rw [← List.take_append_drop i l, hd] at hn2
        exact (List.nodup_append.1 hn2).2.2 x hc x (by simp) rfl
      · refine ih (i + 1) h3 ?_ ?_
        · rw [h4]; intro y hy
          rcases List.mem_append.1 hy with hy | hy
          · exact he y hy
          · simp at hy; subst hy; exact hx
        · rw [h4, List.nodup_append]
          refine ⟨hn, by simp, fun a ha b hb e => ?_⟩
          simp at hb; subst hb; subst e; exact hc ha
  exact ⟨_, key l 0 rfl (by simp) (by simp)⟩
-- impl.ValidKeys
def G_impl_ValidKeys (list0 : List Int) (room1 : Int) (k : Bool → Prop) : Prop :=
  F_impl_validRoom room1 fun validRoom6 =>
  br validRoom6
  (br (decide ((list0.length : Int) ≤ room1))
    (F_impl_differentKeys list0 fun differentKeys15 =>
      k differentKeys15)
    (k false))
  (k false)
def S_impl_ValidKeys (list0 : List Int) (room1 : Int) (k : Bool → Prop) : Prop := G_impl_ValidKeys list0 room1 k
def F_impl_ValidKeys (l : List Int) (room : Int) (k : Bool → Prop) : Prop := ∀ b : Bool, (b = true ↔ VKeys l room) → k b
theorem F_impl_ValidKeys_S {l : List Int} {room : Int} {k : Bool → Prop} (h : F_impl_ValidKeys l room k) : S_impl_ValidKeys l room k := by
  have hno : ¬ VKeys l room → k false := fun hv => h false (by simp [hv])
  refine br_dec.2 ⟨fun h1 => br_dec.2 ⟨fun h3 => ⟨by omega, fun b hb => h b ?_⟩, fun h3 => hno fun v => by have := v.2.2.1; omega⟩, fun h1 => hno fun v => h1 ⟨v.1, v.2.1⟩⟩
  rw [hb]
  exact ⟨fun g => ⟨h1.1, h1.2, h3, g.1, g.2⟩, fun v => v.2.2.2⟩
-- impl.ValidSegments
def T0_impl_ValidSegments (s0New : List Int) (s0Old : List Int) (s0Safe : Int) (s0Trial : Int) (xt21 : Int) (xt22 : Int) (k : Bool → Prop) (B0 : Int → Prop) : Prop :=
  br (decide (xt22 < xt21))
  ((0 ≤ xt22 ∧ xt22 < (s0New.length : Int)) ∧
    F_slices_Contains_sint_int s0Old (List.getD s0New (Int.toNat xt22) (0 : Int)) fun contains29 =>
    br contains29
    (k false)
    (InR (xt22 + 1) ∧
      B0 (xt22 + 1)))
  (k true)
def L0_impl_ValidSegments (s0New : List Int) (s0Old : List Int) (s0Safe : Int) (s0Trial : Int) (xt21 : Int) (k : Bool → Prop) : Nat → Int → Prop
  | 0, _ => False
  | n + 1, xt22 => T0_impl_ValidSegments s0New s0Old s0Safe s0Trial xt21 xt22 k (L0_impl_ValidSegments s0New s0Old s0Safe s0Trial xt21 k n)
def G_impl_ValidSegments (s0Trial : Int) (s0Safe : Int) (s0New : List Int) (s0Old : List Int) (k : Bool → Prop) (I0 : List Int → List Int → Int → Int → Int → Int → Prop) : Prop :=
  F_impl_ValidKeys s0New s0Trial fun validKeys9 =>
  br (!validKeys9)
  (k false)
  (F_impl_ValidKeys s0Old s0Safe fun validKeys16 =>
    br (!validKeys16)
    (k false)
    (I0 s0New s0Old s0Safe s0Trial (s0New.length : Int) 0))
def S_impl_ValidSegments (s0Trial : Int) (s0Safe : Int) (s0New : List Int) (s0Old : List Int) (k : Bool → Prop) : Prop := G_impl_ValidSegments s0Trial s0Safe s0New s0Old k (fun s0New s0Old s0Safe s0Trial xt21 xt22 => ∃ j, L0_impl_ValidSegments s0New s0Old s0Safe s0Trial xt21 k j xt22)
def F_impl_ValidSegments (trial safe : Int) (new old : List Int) (k : Bool → Prop) : Prop := ∀ b : Bool, (b = true ↔ VSegs trial safe new old) → k b
theorem F_impl_ValidSegments_S {trial safe : Int} {new old : List Int} {k : Bool → Prop} (h : F_impl_ValidSegments trial safe new old k) : S_impl_ValidSegments trial safe new old k := by
  have hno : ¬ VSegs trial safe new old → k false := fun hv => h false (by simp [hv])
  intro b1 hb1
  rw [br_not, br_iff]
  refine ⟨fun e1 => ?_, fun e => hno fun w => by rw [hb1.2 w.1] at e; cases e⟩
  intro b2 hb2
  rw [br_not, br_iff]
  refine ⟨fun e2 => ?_, fun e => hno fun w => by rw [hb2.2 w.2.1] at e; cases e⟩
  have v1 := hb1.1 e1
  have v2 := hb2.1 e2
  have l1 : new.length ≤ 8 ∧ old.length ≤ 8 := by have := v1.2.1; have := v1.2.2.1; have := v2.2.1; have := v2.2.2.1; omega
  have key : ∀ (r : List Int) (i : Nat), new.drop i = r → (∀ x ∈ new.take i, x ∉ old) → L0_impl_ValidSegments new old safe trial (new.length : Int) k (r.length + 1) (i : Int) := by
    intro r
    induction r with
    | nil =>
      intro i hd he
      have := drop_nil' hd
      rw [List.take_of_length_le this] at he
      rw [L0_impl_ValidSegments, T0_impl_ValidSegments]
      simp only [br_dec]
      exact ⟨fun h => by omega, fun _ => h true (by simp only [true_iff]; exact ⟨v1, v2, he⟩)⟩
    | cons x r ih =>
      intro i hd he
      obtain ⟨h1, h2, h5, h3, h4⟩ := drop_cons' hd
      rw [List.length_cons, L0_impl_ValidSegments, T0_impl_ValidSegments]
      simp only [br_dec, F_slices_Contains_sint_int, Int.toNat_natCast, h2]
      refine ⟨fun _ => ⟨⟨by omega, by omega⟩, by omega, fun hx => hno fun v => v.2.2 x (List.mem_of_getElem? h5) hx, fun hx => ⟨inR (by omega) (by omega), ih (i + 1) h3 ?_⟩⟩, fun h => by omega⟩
      rw [h4]; intro y hy
      rcases List.mem_append.1 hy with hy | hy
      · exact he y hy
      · simp at hy; subst hy; exact hx
  exact ⟨_, key new 0 rfl (by simp)⟩
-- impl.KeysOf
def G_impl_KeysOf (s0Trial : Int) (s0Safe : Int) (s0New : List Int) (s0Old : List Int) (k : List Int → Prop) : Prop :=
  F_impl_ValidSegments s0Trial s0Safe s0New s0Old fun validSegments5 =>
  br (!validSegments5)
  (k ([] : List Int))
  ((0 + s0Old.length ≤ 1000000000) ∧
    (s0Old.length + s0New.length ≤ 1000000000) ∧
    k (s0Old ++ s0New))
def S_impl_KeysOf (s0Trial : Int) (s0Safe : Int) (s0New : List Int) (s0Old : List Int) (k : List Int → Prop) : Prop := G_impl_KeysOf s0Trial s0Safe s0New s0Old k
def F_impl_KeysOf (trial safe : Int) (new old : List Int) (k : List Int → Prop) : Prop :=
  (VSegs trial safe new old → k (old ++ new)) ∧ (¬ VSegs trial safe new old → k [])
theorem F_impl_KeysOf_S {trial safe : Int} {new old : List Int} {k : List Int → Prop} (h : F_impl_KeysOf trial safe new old k) : S_impl_KeysOf trial safe new old k := by
  obtain ⟨hyes, hno⟩ := h
  intro b hb
  rw [br_not, br_iff]
  refine ⟨fun e => ?_, fun e => hno fun w => by rw [hb.2 w] at e; cases e⟩
  have v := hb.1 e
  have := segs_len v
  exact ⟨by omega, by omega, hyes v⟩
-- spec.inRange
def G_spec_inRange (n0 : Int) (low1 : Int) (high2 : Int) (k : Bool → Prop) : Prop :=
  br (decide (low1 ≤ n0))
  (k (decide (n0 ≤ high2)))
  (k false)
def S_spec_inRange (n0 : Int) (low1 : Int) (high2 : Int) (k : Bool → Prop) : Prop := G_spec_inRange n0 low1 high2 k
def F_spec_inRange (n low high : Int) (k : Bool → Prop) : Prop := k (decide (low ≤ n ∧ n ≤ high))
theorem F_spec_inRange_S {n low high : Int} {k : Bool → Prop} (h : F_spec_inRange n low high k) : S_spec_inRange n low high k := by
  unfold F_spec_inRange at h
  simp only [S_spec_inRange, G_spec_inRange, br_dec]
  refine ⟨fun h1 => ?_, fun h1 => ?_⟩
  · simpa [h1] using h
  · simpa [h1] using h
-- spec.allIn
def T0_spec_allIn (high2 : Int) (list0 : List Int) (low1 : Int) (xi7 : Int) (k : Bool → Prop) (B0 : Int → Prop) : Prop :=
  br (decide (xi7 < (list0.length : Int)))
  ((0 ≤ xi7 ∧ xi7 < (list0.length : Int)) ∧
    F_spec_inRange (List.getD list0 (Int.toNat xi7) (0 : Int)) low1 high2 fun inRange20 =>
    br (!inRange20)
    (k false)
    (InR (xi7 + 1) ∧
      B0 (xi7 + 1)))
  (k true)
def L0_spec_allIn (high2 : Int) (list0 : List Int) (low1 : Int) (k : Bool → Prop) : Nat → Int → Prop
  | 0, _ => False
  | n + 1, xi7 => T0_spec_allIn high2 list0 low1 xi7 k (L0_spec_allIn high2 list0 low1 k n)
def G_spec_allIn (list0 : List Int) (low1 : Int) (high2 : Int) (I0 : Int → List Int → Int → Int → Prop) : Prop :=
  I0 high2 list0 low1 0
def S_spec_allIn (list0 : List Int) (low1 : Int) (high2 : Int) (k : Bool → Prop) : Prop := G_spec_allIn list0 low1 high2 (fun high2 list0 low1 xi7 => ∃ j, L0_spec_allIn high2 list0 low1 k j xi7)
def F_spec_allIn (l : List Int) (low high : Int) (k : Bool → Prop) : Prop := l.length ≤ 1000000000 ∧ k (decide (∀ x ∈ l, low ≤ x ∧ x ≤ high))
theorem F_spec_allIn_S {l : List Int} {low high : Int} {k : Bool → Prop} (h : F_spec_allIn l low high k) : S_spec_allIn l low high k := by
  obtain ⟨hl, hk⟩ := h
  have key : ∀ (r : List Int) (i : Nat), l.drop i = r → ((∀ x ∈ r, low ≤ x ∧ x ≤ high) ↔ (∀ x ∈ l, low ≤ x ∧ x ≤ high)) → L0_spec_allIn high l low k (r.length + 1) (i : Int) := by
    intro r
    induction r with
    | nil =>
      intro i hd he
      have := drop_nil' hd
      rw [L0_spec_allIn, T0_spec_allIn]
      simp only [br_dec]
      refine ⟨fun h => by omega, fun _ => ?_⟩
      rwa [decide_eq_true (he.1 (by simp))] at hk
    | cons x r ih =>
      intro i hd he
      obtain ⟨h1, h2, _, h3, _⟩ := drop_cons' hd
      rw [List.length_cons, L0_spec_allIn, T0_spec_allIn]
      simp only [br_dec, F_spec_inRange, br_not, Int.toNat_natCast, h2]
      refine ⟨fun _ => ⟨⟨by omega, by omega⟩, fun hx => ⟨inR (by omega) (by omega), ?_⟩, fun hx => ?_⟩, fun h => by omega⟩
      · refine ih (i + 1) h3 (Iff.trans ?_ he)
        simp only [List.mem_cons, forall_eq_or_imp]
        exact ⟨fun h => ⟨hx, h⟩, fun h => h.2⟩
      · rwa [decide_eq_false (fun h => hx (he.2 h x (by simp)))] at hk
  exact ⟨_, key l 0 rfl Iff.rfl⟩
-- spec.distinct
def T0_spec_distinct (list0 : List Int) (xi3 : Int) (k : Bool → Prop) (B0 : Int → Prop) : Prop :=
  br (decide (xi3 < (list0.length : Int)))
  ((0 ≤ xi3 ∧ xi3 < (list0.length : Int)) ∧
    F_spec_placeOf list0 (List.getD list0 (Int.toNat xi3) (0 : Int)) fun placeOf15 =>
    br (placeOf15 != xi3)
    (k false)
    (InR (xi3 + 1) ∧
      B0 (xi3 + 1)))
  (k true)
def L0_spec_distinct (list0 : List Int) (k : Bool → Prop) : Nat → Int → Prop
  | 0, _ => False
  | n + 1, xi3 => T0_spec_distinct list0 xi3 k (L0_spec_distinct list0 k n)
def G_spec_distinct (list0 : List Int) (I0 : List Int → Int → Prop) : Prop :=
  I0 list0 0
def S_spec_distinct (list0 : List Int) (k : Bool → Prop) : Prop := G_spec_distinct list0 (fun list0 xi3 => ∃ j, L0_spec_distinct list0 k j xi3)
def F_spec_distinct (l : List Int) (k : Bool → Prop) : Prop := l.length ≤ 1000000000 ∧ k (decide l.Nodup)
theorem F_spec_distinct_S {l : List Int} {k : Bool → Prop} (h : F_spec_distinct l k) : S_spec_distinct l k := by
  obtain ⟨hl, hk⟩ := h
  have key : ∀ (r : List Int) (i : Nat), l.drop i = r → (∀ q : Nat, q < i → plc l (l.getD q 0) = (q : Int)) → L0_spec_distinct l k (r.length + 1) (i : Int) := by
    intro r
    induction r with
    | nil =>
      intro i hd he
      have := drop_nil' hd
      rw [L0_spec_distinct, T0_spec_distinct]
      simp only [br_dec]
      refine ⟨fun h => by omega, fun _ => ?_⟩
      rwa [decide_eq_true (nodup_plc.1 fun q hq => he q (by omega))] at hk
    | cons x r ih =>
      intro i hd he
      obtain ⟨h1, h2, _, h3, _⟩ := drop_cons' hd
      rw [List.length_cons, L0_spec_distinct, T0_spec_distinct]
      simp only [br_dec, F_spec_placeOf, br_bne, Int.toNat_natCast]
      refine ⟨fun _ => ⟨⟨by omega, by omega⟩, hl, fun hx => ?_, fun hx => ⟨inR (by omega) (by omega), ?_⟩⟩, fun h => by omega⟩
      · rwa [decide_eq_false (fun h => hx (nodup_plc.2 h i h1))] at hk
      · refine ih (i + 1) h3 fun q hq => ?_
        by_cases e : q = i
        · subst e; exact hx
        · exact he q (by omega)
  exact ⟨_, key l 0 rfl (fun q hq => by omega)⟩
-- spec.validKeys
def G_spec_validKeys (list0 : List Int) (room1 : Int) (k : Bool → Prop) : Prop :=
  F_spec_inRange room1 (1 : Int) (8 : Int) fun inRange6 =>
  br inRange6
  (br (decide ((list0.length : Int) ≤ room1))
    (F_spec_allIn list0 (0 : Int) (31 : Int) fun allIn15 =>
      br allIn15
      (F_spec_distinct list0 fun distinct19 =>
        k distinct19)
      (k false))
    (k false))
  (k false)
def S_spec_validKeys (list0 : List Int) (room1 : Int) (k : Bool → Prop) : Prop := G_spec_validKeys list0 room1 k
def F_spec_validKeys (l : List Int) (room : Int) (k : Bool → Prop) : Prop := ∀ b : Bool, (b = true ↔ VKeys l room) → k b
theorem F_spec_validKeys_S {l : List Int} {room : Int} {k : Bool → Prop} (h : F_spec_validKeys l room k) : S_spec_validKeys l room k := by
  have hno : ¬ VKeys l room → k false := fun hv => h false (by simp [hv])
  show br (decide (1 ≤ room ∧ room ≤ 8)) _ _
  refine br_dec.2 ⟨fun h1 => br_dec.2 ⟨fun h3 => ?_, fun h3 => hno fun v => h3 v.2.2.1⟩, fun h1 => hno fun v => h1 ⟨v.1, v.2.1⟩⟩
  refine ⟨by omega, br_dec.2 ⟨fun h4 => ⟨by omega, h _ ?_⟩, fun h4 => hno fun v => h4 v.2.2.2.1⟩⟩
  simp only [decide_eq_true_eq]
  exact ⟨fun hn => ⟨h1.1, h1.2, h3, h4, hn⟩, fun v => v.2.2.2.2⟩
-- spec.validSegments
def G_spec_validSegments_j0 (k : Bool → Prop) : Prop :=
  (((k false) ∧
      (True)) ∧
    (True)) ∧
  (True)
def G_spec_validSegments_j1 (k : Bool → Prop) : Prop :=
  (G_spec_validSegments_j0 k) ∧
  (True)
def G_spec_validSegments_j2 (k : Bool → Prop) : Prop :=
  (G_spec_validSegments_j1 k) ∧
  (True)
def G_spec_validSegments (s0Trial : Int) (s0Safe : Int) (s0New : List Int) (s0Old : List Int) (k : Bool → Prop) : Prop :=
  (F_spec_inRange s0Trial (1 : Int) (8 : Int) fun inRange5 =>
    br inRange5
    ((F_spec_inRange s0Safe (1 : Int) (8 : Int) fun inRange9 =>
        br inRange9
        ((F_spec_validKeys s0New s0Trial fun validKeys16 =>
            br validKeys16
            ((F_spec_validKeys s0Old s0Safe fun validKeys23 =>
                br validKeys23
                ((F_spec_copyInts s0New fun copyInts28 =>
                    ((copyInts28.length + s0Old.length ≤ 1000000000) ∧
                      (F_spec_distinct (copyInts28 ++ s0Old) fun distinct32 =>
                        k distinct32) ∧
                      (True)) ∧
                    (True)) ∧
                  (True))
                (G_spec_validSegments_j0 k)) ∧
              (True))
            (G_spec_validSegments_j1 k)) ∧
          (True))
        (G_spec_validSegments_j2 k)) ∧
      (True))
    ((G_spec_validSegments_j2 k) ∧
      (True))) ∧
  (True)
def H_spec_validSegments (s0Trial : Int) (s0Safe : Int) (s0New : List Int) (s0Old : List Int) (k : Bool → Prop) : Prop :=
  F_spec_inRange s0Trial (1 : Int) (8 : Int) fun inRange5 =>
  br inRange5
  (F_spec_inRange s0Safe (1 : Int) (8 : Int) fun inRange9 =>
    br inRange9
    (F_spec_validKeys s0New s0Trial fun validKeys16 =>
      br validKeys16
      (F_spec_validKeys s0Old s0Safe fun validKeys23 =>
        br validKeys23
        (F_spec_copyInts s0New fun copyInts28 =>
          (copyInts28.length + s0Old.length ≤ 1000000000) ∧
          F_spec_distinct (copyInts28 ++ s0Old) fun distinct32 =>
          k distinct32)
        (k false))
      (k false))
    (k false))
  (k false)
theorem G_spec_validSegments_eq (s0Trial : Int) (s0Safe : Int) (s0New : List Int) (s0Old : List Int) (k : Bool → Prop) : G_spec_validSegments s0Trial s0Safe s0New s0Old k = H_spec_validSegments s0Trial s0Safe s0New s0Old k := by
  simp only [G_spec_validSegments, H_spec_validSegments, G_spec_validSegments_j0, G_spec_validSegments_j1, G_spec_validSegments_j2, and_self, and_true]
def S_spec_validSegments (s0Trial : Int) (s0Safe : Int) (s0New : List Int) (s0Old : List Int) (k : Bool → Prop) : Prop := H_spec_validSegments s0Trial s0Safe s0New s0Old k
def F_spec_validSegments (trial safe : Int) (new old : List Int) (k : Bool → Prop) : Prop := ∀ b : Bool, (b = true ↔ VSegs trial safe new old) → k b
theorem F_spec_validSegments_S {trial safe : Int} {new old : List Int} {k : Bool → Prop} (h : F_spec_validSegments trial safe new old k) : S_spec_validSegments trial safe new old k := by
  have hno : ¬ VSegs trial safe new old → k false := fun hv => h false (by simp [hv])
  refine br_dec.2 ⟨fun h1 => br_dec.2 ⟨fun h2 => ?_, fun h2 => hno fun w => h2 ⟨w.2.1.1, w.2.1.2.1⟩⟩, fun h1 => hno fun w => h1 ⟨w.1.1, w.1.2.1⟩⟩
  intro b1 hb1
  refine br_iff.2 ⟨fun e1 => ?_, fun e => hno fun w => by rw [hb1.2 w.1] at e; cases e⟩
  intro b2 hb2
  refine br_iff.2 ⟨fun e2 => ?_, fun e => hno fun w => by rw [hb2.2 w.2.1] at e; cases e⟩
  have v1 := hb1.1 e1
  have v2 := hb2.1 e2
  have l1 : new.length ≤ 8 ∧ old.length ≤ 8 := by have := v1.2.1; have := v1.2.2.1; have := v2.2.1; have := v2.2.2.1; omega
  refine ⟨by omega, by omega, by simp; omega, h _ ?_⟩
  simp only [decide_eq_true_eq]
  rw [segs_nodup]
  exact ⟨fun w => ⟨v1, v2, w.2.2⟩, fun w => ⟨v1.2.2.2.2, v2.2.2.2.2, w.2.2⟩⟩
-- spec.KeysOf
def G_spec_KeysOf (s0Trial : Int) (s0Safe : Int) (s0New : List Int) (s0Old : List Int) (k : List Int → Prop) : Prop :=
  F_spec_validSegments s0Trial s0Safe s0New s0Old fun validSegments4 =>
  br (!validSegments4)
  (k ([] : List Int))
  ((F_spec_copyInts s0Old fun copyInts8 =>
      ((copyInts8.length + s0New.length ≤ 1000000000) ∧
        k (copyInts8 ++ s0New)) ∧
      (True)) ∧
    (True))
def H_spec_KeysOf (s0Trial : Int) (s0Safe : Int) (s0New : List Int) (s0Old : List Int) (k : List Int → Prop) : Prop :=
  F_spec_validSegments s0Trial s0Safe s0New s0Old fun validSegments4 =>
  br (!validSegments4)
  (k ([] : List Int))
  (F_spec_copyInts s0Old fun copyInts8 =>
    (copyInts8.length + s0New.length ≤ 1000000000) ∧
    k (copyInts8 ++ s0New))
theorem G_spec_KeysOf_eq (s0Trial : Int) (s0Safe : Int) (s0New : List Int) (s0Old : List Int) (k : List Int → Prop) : G_spec_KeysOf s0Trial s0Safe s0New s0Old k = H_spec_KeysOf s0Trial s0Safe s0New s0Old k := by
  simp only [G_spec_KeysOf, H_spec_KeysOf, and_self, and_true]
def S_spec_KeysOf (s0Trial : Int) (s0Safe : Int) (s0New : List Int) (s0Old : List Int) (k : List Int → Prop) : Prop := H_spec_KeysOf s0Trial s0Safe s0New s0Old k
def F_spec_KeysOf (trial safe : Int) (new old : List Int) (k : List Int → Prop) : Prop :=
  (VSegs trial safe new old → k (old ++ new)) ∧ (¬ VSegs trial safe new old → k [])
theorem F_spec_KeysOf_S {trial safe : Int} {new old : List Int} {k : List Int → Prop} (h : F_spec_KeysOf trial safe new old k) : S_spec_KeysOf trial safe new old k := by
  obtain ⟨hyes, hno⟩ := h
  intro b hb
  rw [br_not, br_iff]
  refine ⟨fun e => ?_, fun e => hno fun w => by rw [hb.2 w] at e; cases e⟩
  have v := hb.1 e
  have := segs_len v
  exact ⟨by omega, by omega, hyes v⟩
-- laws.equalInts
def T0_laws_equalInts (a0 : List Int) (b1 : List Int) (xi5 : Int) (k : Bool → Prop) (B0 : Int → Prop) : Prop :=
  br (decide (xi5 < (a0.length : Int)))
  ((0 ≤ xi5 ∧ xi5 < (a0.length : Int)) ∧
    (0 ≤ xi5 ∧ xi5 < (b1.length : Int)) ∧
    br ((List.getD a0 (Int.toNat xi5) (0 : Int)) != (List.getD b1 (Int.toNat xi5) (0 : Int)))
    (k false)
    (InR (xi5 + 1) ∧
      B0 (xi5 + 1)))
  (k true)
def L0_laws_equalInts (a0 : List Int) (b1 : List Int) (k : Bool → Prop) : Nat → Int → Prop
  | 0, _ => False
  | n + 1, xi5 => T0_laws_equalInts a0 b1 xi5 k (L0_laws_equalInts a0 b1 k n)
def G_laws_equalInts (a0 : List Int) (b1 : List Int) (k : Bool → Prop) (I0 : List Int → List Int → Int → Prop) : Prop :=
  br ((a0.length : Int) != (b1.length : Int))
  (k false)
  (I0 a0 b1 0)
def S_laws_equalInts (a0 : List Int) (b1 : List Int) (k : Bool → Prop) : Prop := G_laws_equalInts a0 b1 k (fun a0 b1 xi5 => ∃ j, L0_laws_equalInts a0 b1 k j xi5)
def F_laws_equalInts (a b : List Int) (k : Bool → Prop) : Prop := a.length ≤ 1000000000 ∧ k (decide (a = b))
theorem F_laws_equalInts_S {a b : List Int} {k : Bool → Prop} (h : F_laws_equalInts a b k) : S_laws_equalInts a b k := by
  obtain ⟨hl, hk⟩ := h
  refine br_bne.2 ⟨fun he => by rwa [decide_eq_false (fun e => he (by rw [e]))] at hk, fun he => ?_⟩
  have he : a.length = b.length := by omega
  have key : ∀ (r : List Int) (i : Nat), a.drop i = r → (r = b.drop i ↔ a = b) → L0_laws_equalInts a b k (r.length + 1) (i : Int) := by
    intro r
    induction r with
    | nil =>
      intro i hd hi
      have := drop_nil' hd
      rw [L0_laws_equalInts, T0_laws_equalInts]
      simp only [br_dec]
      exact ⟨fun h => by omega, fun _ => by rwa [decide_eq_true (hi.1 (List.drop_eq_nil_of_le (by omega)).symm)] at hk⟩
    | cons x r ih =>
      intro i hd hi
      obtain ⟨h1, h2, _, h3, _⟩ := drop_cons' hd
      obtain ⟨y, s, hs⟩ : ∃ y s, b.drop i = y :: s := by
        cases e : b.drop i with
        | nil => have := drop_nil' e; omega
        | cons y s => exact ⟨y, s, rfl⟩
      obtain ⟨g1, g2, _, g3, _⟩ := drop_cons' hs
      rw [List.length_cons, L0_laws_equalInts, T0_laws_equalInts]
      simp only [br_dec, br_bne, Int.toNat_natCast, h2, g2]
      rw [hs] at hi
      refine ⟨fun _ => ⟨⟨by omega, by omega⟩, ⟨by omega, by omega⟩, ?_⟩, fun h => by omega⟩
      have go : x = y → L0_laws_equalInts a b k (r.length + 1) ((i : Int) + 1) := fun hx => ih (i + 1) h3 (by rw [g3, ← hi, hx]; simp)
      have no : x ≠ y → k false := fun hx => by rwa [decide_eq_false (fun e => hx (List.cons.inj (hi.2 e)).1)] at hk
      exact ⟨no, fun hx => ⟨inR (by omega) (by omega), go hx⟩⟩
  exact ⟨_, key a 0 rfl (by simp)⟩
-- laws.howOften
def T0_laws_howOften (list0 : List Int) (n1 : Int) (xk5 : Int) (xi6 : Int) (k : Int → Prop) (B0 : Int → Int → Prop) : Prop :=
  br (decide (xi6 < (list0.length : Int)))
  ((0 ≤ xi6 ∧ xi6 < (list0.length : Int)) ∧
    br ((List.getD list0 (Int.toNat xi6) (0 : Int)) == n1)
    (InR (xk5 + 1) ∧
      InR (xi6 + 1) ∧
      B0 (xk5 + 1) (xi6 + 1))
    (InR (xi6 + 1) ∧
      B0 xk5 (xi6 + 1)))
  (k xk5)
def L0_laws_howOften (list0 : List Int) (n1 : Int) (k : Int → Prop) : Nat → Int → Int → Prop
  | 0, _, _ => False
  | n + 1, xk5, xi6 => T0_laws_howOften list0 n1 xk5 xi6 k (L0_laws_howOften list0 n1 k n)
def G_laws_howOften (list0 : List Int) (n1 : Int) (I0 : List Int → Int → Int → Int → Prop) : Prop :=
  I0 list0 n1 0 0
def S_laws_howOften (list0 : List Int) (n1 : Int) (k : Int → Prop) : Prop := G_laws_howOften list0 n1 (fun list0 n1 xk5 xi6 => ∃ j, L0_laws_howOften list0 n1 k j xk5 xi6)
def F_laws_howOften (l : List Int) (n : Int) (k : Int → Prop) : Prop := l.length ≤ 1000000000 ∧ k (l.count n : Int)
theorem F_laws_howOften_S {l : List Int} {n : Int} {k : Int → Prop} (h : F_laws_howOften l n k) : S_laws_howOften l n k := by
  obtain ⟨hl, hk⟩ := h
  have key : ∀ (r : List Int) (i c : Nat), l.drop i = r → c ≤ i → c + r.count n = l.count n → L0_laws_howOften l n k (r.length + 1) (c : Int) (i : Int) := by
    intro r
    induction r with
    | nil =>
      intro i c hd hc he
      have := drop_nil' hd
      rw [L0_laws_howOften, T0_laws_howOften]
      simp only [br_dec]
      refine ⟨fun h => by omega, fun _ => ?_⟩
      have : c = l.count n := by simpa using he
      rw [this]; exact hk
    | cons x r ih =>
      intro i c hd hc he
      obtain ⟨h1, h2, _, h3, _⟩ := drop_cons' hd
      rw [List.count_cons] at he
      rw [List.length_cons, L0_laws_howOften, T0_laws_howOften]
      simp only [br_dec, br_beq, Int.toNat_natCast, h2]
      refine ⟨fun _ => ⟨⟨by omega, by omega⟩, fun hx => ⟨inR (by omega) (by omega), inR (by omega) (by omega), ?_⟩, fun hx => ⟨inR (by omega) (by omega), ?_⟩⟩, fun h => by omega⟩
      · rw [if_pos (by simpa using hx)] at he
        exact ih (i + 1) (c + 1) h3 (by omega) (by omega)
      · rw [if_neg (by simpa using hx)] at he
        exact ih (i + 1) c h3 (by omega) (by omega)
  exact ⟨_, key l 0 0 rfl (by omega) (by simp)⟩
-- laws.FnKeysOfOnce
def T0_laws_FnKeysOfOnce (keysOf12 : List Int) (xi5 : Int) (k : Bool → Prop) (B0 : Int → Prop) : Prop :=
  br (decide (xi5 < (keysOf12.length : Int)))
  ((0 ≤ xi5 ∧ xi5 < (keysOf12.length : Int)) ∧
    F_laws_howOften keysOf12 (List.getD keysOf12 (Int.toNat xi5) (0 : Int)) fun howOften29 =>
    br (howOften29 != 1)
    (k false)
    (InR (xi5 + 1) ∧
      B0 (xi5 + 1)))
  (k true)
def L0_laws_FnKeysOfOnce (keysOf12 : List Int) (k : Bool → Prop) : Nat → Int → Prop
  | 0, _ => False
  | n + 1, xi5 => T0_laws_FnKeysOfOnce keysOf12 xi5 k (L0_laws_FnKeysOfOnce keysOf12 k n)
def G_laws_FnKeysOfOnce (code0 : List Int) (k : Bool → Prop) (I0 : List Int → Int → Prop) : Prop :=
  br (decide ((code0.length : Int) > 1048576))
  (k true)
  (F_spec_DrawKeysOf code0 fun drawKeysOf10Trial drawKeysOf10Safe drawKeysOf10New drawKeysOf10Old =>
    F_impl_KeysOf drawKeysOf10Trial drawKeysOf10Safe drawKeysOf10New drawKeysOf10Old fun keysOf12 =>
    F_spec_KeysOf drawKeysOf10Trial drawKeysOf10Safe drawKeysOf10New drawKeysOf10Old fun keysOf15 =>
    F_laws_equalInts keysOf12 keysOf15 fun equalInts16 =>
    br (!equalInts16)
    (k false)
    (I0 keysOf12 0))
def S_laws_FnKeysOfOnce (code0 : List Int) (k : Bool → Prop) : Prop := G_laws_FnKeysOfOnce code0 k (fun keysOf12 xi5 => ∃ j, L0_laws_FnKeysOfOnce keysOf12 k j xi5)
abbrev F_laws_FnKeysOfOnce (code0 : List Int) (k : Bool → Prop) : Prop := S_laws_FnKeysOfOnce code0 k
theorem F_laws_FnKeysOfOnce_S {code0 : List Int} {k : Bool → Prop} (h : F_laws_FnKeysOfOnce code0 k) : S_laws_FnKeysOfOnce code0 k := h
theorem law_FnKeysOfOnce (code : List Int) (hb : ∀ x ∈ code, 0 ≤ x ∧ x ≤ 255) : F_laws_FnKeysOfOnce code (fun r => r = true) := by
  refine br_dec.2 ⟨fun _ => rfl, fun hlen => ⟨hb, fun trial safe new old l1 l2 => ?_⟩⟩
  have key : ∀ l : List Int, l.length ≤ 100 → l.Nodup → ∀ (r : List Int) (i : Nat), l.drop i = r → L0_laws_FnKeysOfOnce l (fun r => r = true) (r.length + 1) (i : Int) := by
    intro l hl hn r
    induction r with
    | nil =>
      intro i hd
      have := drop_nil' hd
      rw [L0_laws_FnKeysOfOnce, T0_laws_FnKeysOfOnce]
      exact br_dec.2 ⟨fun h => by omega, fun _ => rfl⟩
    | cons x r ih =>
      intro i hd
      obtain ⟨h1, h2, h5, h3, _⟩ := drop_cons' hd
      rw [List.length_cons, L0_laws_FnKeysOfOnce, T0_laws_FnKeysOfOnce]
      simp only [br_dec, Int.toNat_natCast, h2]
      have hc : l.count x = 1 := count_nodup hn (List.mem_of_getElem? h5)
      refine ⟨fun _ => ⟨⟨by omega, by omega⟩, by omega, ?_⟩, fun h => by omega⟩
      rw [hc]
      exact br_same' ⟨inR (by omega) (by omega), ih (i + 1) h3⟩
  by_cases v : VSegs trial safe new old
  · obtain ⟨g1, g2⟩ := segs_len v
    have hn : (old ++ new).Nodup := segs_nodup.2 ⟨v.2.1.2.2.2.2, v.1.2.2.2.2, fun x h1 h2 => v.2.2 x h2 h1⟩
    refine ⟨fun _ => ⟨fun _ => ⟨by simp; omega, br_de ⟨_, key (old ++ new) (by simp; omega) hn _ 0 rfl⟩⟩, fun h => absurd v h⟩, fun h => absurd v h⟩
  · refine ⟨fun h => absurd h v, fun _ => ⟨fun h => absurd h v, fun _ => ⟨by simp, br_de ⟨_, key [] (by simp) (by simp) _ 0 rfl⟩⟩⟩⟩
end Go.Ev
