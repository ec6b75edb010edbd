/- What the functions that the law reaches do, written as plain Lean. No statement is proved here. -/
import Derived.Test.YtcpfmcepkopfdacFnUseSegmentsKeepP0
namespace Go.Ev
set_option linter.unusedVariables false
open Go
def G_impl_validKey (key0 : Int) (k : Bool → Prop) : Prop :=
  br (decide (0 ≤ key0))
  (k (decide (key0 ≤ 31)))
  (k false)
def S_impl_validKey (key0 : Int) (k : Bool → Prop) : Prop := G_impl_validKey key0 k
def F_impl_validKey (n : Int) (k : Bool → Prop) : Prop := k (decide (0 ≤ n ∧ n ≤ 31))
theorem F_impl_validKey_S {n : Int} {k : Bool → Prop} (h : F_impl_validKey n k) : S_impl_validKey n k := by
  unfold F_impl_validKey at h
  simp only [S_impl_validKey, G_impl_validKey, br_dec]
  refine ⟨fun h1 => ?_, fun h1 => ?_⟩
  · simpa [h1] using h
  · simpa [h1] using h
-- slices.Index[[]int,int]
def T0_slices_Index_sint_int (s0 : List Int) (v1 : Int) (xt7 : Int) (xt8 : Int) (k : Int → Prop) (B0 : Int → Prop) : Prop :=
  br (decide (xt8 < xt7))
  ((0 ≤ xt8 ∧ xt8 < (s0.length : Int)) ∧
    br (v1 == (List.getD s0 (Int.toNat xt8) (0 : Int)))
    (k xt8)
    (InR (xt8 + 1) ∧
      B0 (xt8 + 1)))
  (k (-1))
def L0_slices_Index_sint_int (s0 : List Int) (v1 : Int) (xt7 : Int) (k : Int → Prop) : Nat → Int → Prop
  | 0, _ => False
  | n + 1, xt8 => T0_slices_Index_sint_int s0 v1 xt7 xt8 k (L0_slices_Index_sint_int s0 v1 xt7 k n)
def G_slices_Index_sint_int (s0 : List Int) (v1 : Int) (I0 : List Int → Int → Int → Int → Prop) : Prop :=
  I0 s0 v1 (s0.length : Int) 0
def S_slices_Index_sint_int (s0 : List Int) (v1 : Int) (k : Int → Prop) : Prop := G_slices_Index_sint_int s0 v1 (fun s0 v1 xt7 xt8 => ∃ j, L0_slices_Index_sint_int s0 v1 xt7 k j xt8)
def F_slices_Index_sint_int (l : List Int) (n : Int) (k : Int → Prop) : Prop := l.length ≤ 1000000000 ∧ k (plc l n)
theorem F_slices_Index_sint_int_S {l : List Int} {n : Int} {k : Int → Prop} (h : F_slices_Index_sint_int l n k) : S_slices_Index_sint_int l n k := by
  obtain ⟨hl, hk⟩ := h
  have key : ∀ (r : List Int) (i : Nat), l.drop i = r → plcF r n i = plc l n → L0_slices_Index_sint_int l n (l.length : Int) k (r.length + 1) (i : Int) := by
    intro r
    induction r with
    | nil =>
      intro i hd he
      have := drop_nil' hd
      rw [L0_slices_Index_sint_int, T0_slices_Index_sint_int]
      simp only [br_dec]
      exact ⟨fun h => by omega, fun _ => by rw [show (-1 : Int) = plc l n from he]; exact hk⟩
    | cons x r ih =>
      intro i hd he
      obtain ⟨h1, h2, _, h3, _⟩ := drop_cons' hd
      rw [List.length_cons, L0_slices_Index_sint_int, T0_slices_Index_sint_int]
      simp only [br_dec, br_beq, Int.toNat_natCast, h2]
      refine ⟨fun _ => ⟨⟨by omega, by omega⟩, fun hx => ?_, fun hx => ⟨inR (by omega) (by omega), ?_⟩⟩, fun h => by omega⟩
      · simp only [plcF, if_pos hx.symm] at he; rw [he]; exact hk
      · simp only [plcF, if_neg (Ne.symm hx)] at he; exact ih (i + 1) h3 he
  exact ⟨_, key l 0 rfl rfl⟩
-- slices.Contains[[]int,int]
def G_slices_Contains_sint_int (s0 : List Int) (v1 : Int) (k : Bool → Prop) : Prop :=
  F_slices_Index_sint_int s0 v1 fun index7 =>
  k (decide (index7 ≥ 0))
def S_slices_Contains_sint_int (s0 : List Int) (v1 : Int) (k : Bool → Prop) : Prop := G_slices_Contains_sint_int s0 v1 k
def F_slices_Contains_sint_int (l : List Int) (n : Int) (k : Bool → Prop) : Prop := l.length ≤ 1000000000 ∧ k (decide (n ∈ l))
theorem F_slices_Contains_sint_int_S {l : List Int} {n : Int} {k : Bool → Prop} (h : F_slices_Contains_sint_int l n k) : S_slices_Contains_sint_int l n k := by
  refine ⟨h.1, ?_⟩
  have : decide (plc l n ≥ 0) = decide (n ∈ l) := decide_eq_decide.2 plc_ge
  show k (decide (plc l n ≥ 0))
  rw [this]; exact h.2
-- impl.differentKeys
def T0_impl_differentKeys (list0 : List Int) (xt6 : Int) (xt7 : Int) (k : Bool → Prop) (B0 : Int → Prop) : Prop :=
  br (decide (xt7 < xt6))
  ((0 ≤ xt7 ∧ xt7 < (list0.length : Int)) ∧
    F_impl_validKey (List.getD list0 (Int.toNat xt7) (0 : Int)) fun validKey13 =>
    br (!validKey13)
    (k false)
    ((0 ≤ xt7 ∧ xt7 ≤ (list0.length : Int)) ∧
      F_slices_Contains_sint_int (List.take (Int.toNat xt7) list0) (List.getD list0 (Int.toNat xt7) (0 : Int)) fun contains20 =>
      br contains20
      (k false)
      (InR (xt7 + 1) ∧
        B0 (xt7 + 1))))
  (k true)
def L0_impl_differentKeys (list0 : List Int) (xt6 : Int) (k : Bool → Prop) : Nat → Int → Prop
  | 0, _ => False
  | n + 1, xt7 => T0_impl_differentKeys list0 xt6 xt7 k (L0_impl_differentKeys list0 xt6 k n)
def G_impl_differentKeys (list0 : List Int) (I0 : List Int → Int → Int → Prop) : Prop :=
  I0 list0 (list0.length : Int) 0
def S_impl_differentKeys (list0 : List Int) (k : Bool → Prop) : Prop := G_impl_differentKeys list0 (fun list0 xt6 xt7 => ∃ j, L0_impl_differentKeys list0 xt6 k j xt7)
def F_impl_differentKeys (l : List Int) (k : Bool → Prop) : Prop := l.length ≤ 1000000000 ∧ ∀ b : Bool, (b = true ↔ (∀ x ∈ l, 0 ≤ x ∧ x ≤ 31) ∧ l.Nodup) → k b
theorem F_impl_differentKeys_S {l : List Int} {k : Bool → Prop} (h : F_impl_differentKeys l k) : S_impl_differentKeys l k := by
  obtain ⟨hl, h⟩ := h
  have hno : ¬ ((∀ x ∈ l, 0 ≤ x ∧ x ≤ 31) ∧ l.Nodup) → k false := fun hv => h false (by simp only [Bool.false_eq_true, false_iff]; exact hv)
  have key : ∀ (r : List Int) (i : Nat), l.drop i = r → (∀ x ∈ l.take i, 0 ≤ x ∧ x ≤ 31) → (l.take i).Nodup → L0_impl_differentKeys l (l.length : Int) k (r.length + 1) (i : Int) := by
    intro r
    induction r with
    | nil =>
      intro i hd he hn
      have := drop_nil' hd
      rw [List.take_of_length_le this] at he hn
      rw [L0_impl_differentKeys, T0_impl_differentKeys]
      simp only [br_dec]
      exact ⟨fun h => by omega, fun _ => h true (by simp only [true_iff]; exact ⟨he, hn⟩)⟩
    | cons x r ih =>
      intro i hd he hn
      obtain ⟨h1, h2, h5, h3, h4⟩ := drop_cons' hd
      rw [List.length_cons, L0_impl_differentKeys, T0_impl_differentKeys]
      simp only [br_dec, F_impl_validKey, F_slices_Contains_sint_int, Int.toNat_natCast, h2, br_not]
      have hxl : x ∈ l := List.mem_of_getElem? h5
      refine ⟨fun _ => ⟨⟨by omega, by omega⟩, fun hx => ⟨⟨by omega, by omega⟩, by simp; omega, fun hc => ?_, fun hc => ⟨inR (by omega) (by omega), ?_⟩⟩, fun hx => hno fun v => hx (v.1 x hxl)⟩, fun h => by omega⟩
      · refine hno fun v => ?_
        have hn2 := v.2
        rw [← List.take_append_drop i l, hd] at hn2
        exact (List.nodup_append.1 hn2).2.2 x hc x (by simp) rfl
      · refine ih (i + 1) h3 ?_ ?_
        · rw [h4]; intro y hy
          rcases List.mem_append.1 hy with hy | hy
          · exact he y hy
          · simp at hy; subst hy; exact hx
        · rw [h4, List.nodup_append]
          refine ⟨hn, by simp, fun a ha b hb e => ?_⟩
          simp at hb; subst hb; subst e; exact hc ha
  exact ⟨_, key l 0 rfl (by simp) (by simp)⟩
-- impl.ValidKeys
def G_impl_ValidKeys (list0 : List Int) (room1 : Int) (k : Bool → Prop) : Prop :=
  F_impl_validRoom room1 fun validRoom6 =>
  br validRoom6
  (br (decide ((list0.length : Int) ≤ room1))
    (F_impl_differentKeys list0 fun differentKeys15 =>
      k differentKeys15)
    (k false))
  (k false)
def S_impl_ValidKeys (list0 : List Int) (room1 : Int) (k : Bool → Prop) : Prop := G_impl_ValidKeys list0 room1 k
def F_impl_ValidKeys (l : List Int) (room : Int) (k : Bool → Prop) : Prop := ∀ b : Bool, (b = true ↔ VKeys l room) → k b
theorem F_impl_ValidKeys_S {l : List Int} {room : Int} {k : Bool → Prop} (h : F_impl_ValidKeys l room k) : S_impl_ValidKeys l room k := by
  have hno : ¬ VKeys l room → k false := fun hv => h false (by simp [hv])
  refine br_dec.2 ⟨fun h1 => br_dec.2 ⟨fun h3 => ⟨by omega, fun b hb => h b ?_⟩, fun h3 => hno fun v => by have := v.2.2.1; omega⟩, fun h1 => hno fun v => h1 ⟨v.1, v.2.1⟩⟩
  rw [hb]
  exact ⟨fun g => ⟨h1.1, h1.2, h3, g.1, g.2⟩, fun v => v.2.2.2⟩
-- impl.ValidSegments
def T0_impl_ValidSegments (s0New : List Int) (s0Old : List Int) (s0Safe : Int) (s0Trial : Int) (xt21 : Int) (xt22 : Int) (k : Bool → Prop) (B0 : Int → Prop) : Prop :=
  br (decide (xt22 < xt21))
  ((0 ≤ xt22 ∧ xt22 < (s0New.length : Int)) ∧
    F_slices_Contains_sint_int s0Old (List.getD s0New (Int.toNat xt22) (0 : Int)) fun contains29 =>
    br contains29
    (k false)
    (InR (xt22 + 1) ∧
      B0 (xt22 + 1)))
  (k true)
def L0_impl_ValidSegments (s0New : List Int) (s0Old : List Int) (s0Safe : Int) (s0Trial : Int) (xt21 : Int) (k : Bool → Prop) : Nat → Int → Prop
  | 0, _ => False
  | n + 1, xt22 => T0_impl_ValidSegments s0New s0Old s0Safe s0Trial xt21 xt22 k (L0_impl_ValidSegments s0New s0Old s0Safe s0Trial xt21 k n)
def G_impl_ValidSegments (s0Trial : Int) (s0Safe : Int) (s0New : List Int) (s0Old : List Int) (k : Bool → Prop) (I0 : List Int → List Int → Int → Int → Int → Int → Prop) : Prop :=
  F_impl_ValidKeys s0New s0Trial fun validKeys9 =>
  br (!validKeys9)
  (k false)
  (F_impl_ValidKeys s0Old s0Safe fun validKeys16 =>
    br (!validKeys16)
    (k false)
    (I0 s0New s0Old s0Safe s0Trial (s0New.length : Int) 0))
def S_impl_ValidSegments (s0Trial : Int) (s0Safe : Int) (s0New : List Int) (s0Old : List Int) (k : Bool → Prop) : Prop := G_impl_ValidSegments s0Trial s0Safe s0New s0Old k (fun s0New s0Old s0Safe s0Trial xt21 xt22 => ∃ j, L0_impl_ValidSegments s0New s0Old s0Safe s0Trial xt21 k j xt22)
def F_impl_ValidSegments (trial safe : Int) (new old : List Int) (k : Bool → Prop) : Prop := ∀ b : Bool, (b = true ↔ VSegs trial safe new old) → k b
theorem F_impl_ValidSegments_S {trial safe : Int} {new old : List Int} {k : Bool → Prop} (h : F_impl_ValidSegments trial safe new old k) : S_impl_ValidSegments trial safe new old k := by
  have hno : ¬ VSegs trial safe new old → k false := fun hv => h false (by simp [hv])
  intro b1 hb1
  rw [br_not, br_iff]
  refine ⟨fun e1 => ?_, fun e => hno fun w => by rw [hb1.2 w.1] at e; cases e⟩
  intro b2 hb2
  rw [br_not, br_iff]
  refine ⟨fun e2 => ?_, fun e => hno fun w => by rw [hb2.2 w.2.1] at e; cases e⟩
  have v1 := hb1.1 e1
  have v2 := hb2.1 e2
  have l1 : new.length ≤ 8 ∧ old.length ≤ 8 := by have := v1.2.1; have := v1.2.2.1; have := v2.2.1; have := v2.2.2.1; omega
  have key : ∀ (r : List Int) (i : Nat), new.drop i = r → (∀ x ∈ new.take i, x ∉ old) → L0_impl_ValidSegments new old safe trial (new.length : Int) k (r.length + 1) (i : Int) := by
    intro r
    induction r with
    | nil =>
      intro i hd he
      have := drop_nil' hd
      rw [List.take_of_length_le this] at he
      rw [L0_impl_ValidSegments, T0_impl_ValidSegments]
      simp only [br_dec]
      exact ⟨fun h => by omega, fun _ => h true (by simp only [true_iff]; exact ⟨v1, v2, he⟩)⟩
    | cons x r ih =>
      intro i hd he
      obtain ⟨h1, h2, h5, h3, h4⟩ := drop_cons' hd
      rw [List.length_cons, L0_impl_ValidSegments, T0_impl_ValidSegments]
      simp only [br_dec, F_slices_Contains_sint_int, Int.toNat_natCast, h2]
      refine ⟨fun _ => ⟨⟨by omega, by omega⟩, by omega, fun hx => hno fun v => v.2.2 x (List.mem_of_getElem? h5) hx, fun hx => ⟨inR (by omega) (by omega), ih (i + 1) h3 ?_⟩⟩, fun h => by omega⟩
      rw [h4]; intro y hy
      rcases List.mem_append.1 hy with hy | hy
      · exact he y hy
      · simp at hy; subst hy; exact hx
  exact ⟨_, key new 0 rfl (by simp)⟩
-- impl.withoutKey
def T0_impl_withoutKey (key1 : Int) (list0 : List Int) (xt10 : Int) (xt11 : Int) (xout5 : List Int) (k : List Int → Prop) (B0 : Int → List Int → Prop) : Prop :=
  br (decide (xt11 < xt10))
  ((0 ≤ xt11 ∧ xt11 < (list0.length : Int)) ∧
    br ((List.getD list0 (Int.toNat xt11) (0 : Int)) != key1)
    ((xout5.length + 1 ≤ 1000000000) ∧
      InR (xt11 + 1) ∧
      B0 (xt11 + 1) (xout5 ++ ([(List.getD list0 (Int.toNat xt11) (0 : Int))] : List Int)))
    (InR (xt11 + 1) ∧
      B0 (xt11 + 1) xout5))
  (k xout5)
def L0_impl_withoutKey (key1 : Int) (list0 : List Int) (xt10 : Int) (k : List Int → Prop) : Nat → Int → List Int → Prop
  | 0, _, _ => False
  | n + 1, xt11, xout5 => T0_impl_withoutKey key1 list0 xt10 xt11 xout5 k (L0_impl_withoutKey key1 list0 xt10 k n)
def G_impl_withoutKey (list0 : List Int) (key1 : Int) (I0 : Int → List Int → Int → Int → List Int → Prop) : Prop :=
  I0 key1 list0 (list0.length : Int) 0 ([] : List Int)
def S_impl_withoutKey (list0 : List Int) (key1 : Int) (k : List Int → Prop) : Prop := G_impl_withoutKey list0 key1 (fun key1 list0 xt10 xt11 xout5 => ∃ j, L0_impl_withoutKey key1 list0 xt10 k j xt11 xout5)
def F_impl_withoutKey (l : List Int) (key : Int) (k : List Int → Prop) : Prop := l.length ≤ 1000000000 ∧ k (rmK l key)
theorem F_impl_withoutKey_S {l : List Int} {key : Int} {k : List Int → Prop} (h : F_impl_withoutKey l key k) : S_impl_withoutKey l key k := by
  obtain ⟨hl, hk⟩ := h
  have key1 : ∀ (r : List Int) (i : Nat) (out : List Int), l.drop i = r → out.length ≤ i → out ++ rmK r key = rmK l key → L0_impl_withoutKey key l (l.length : Int) k (r.length + 1) (i : Int) out := by
    intro r
    induction r with
    | nil =>
      intro i out hd ho he
      have := drop_nil' hd
      rw [L0_impl_withoutKey, T0_impl_withoutKey]
      simp only [br_dec]
      refine ⟨fun h => by omega, fun _ => ?_⟩
      have : out = rmK l key := by simpa [rmK] using he
      rw [this]; exact hk
    | cons x r ih =>
      intro i out hd ho he
      obtain ⟨h1, h2, _, h3, _⟩ := drop_cons' hd
      rw [List.length_cons, L0_impl_withoutKey, T0_impl_withoutKey]
      simp only [br_dec, br_bne, Int.toNat_natCast, h2]
      refine ⟨fun _ => ⟨⟨by omega, by omega⟩, fun hx => ⟨by omega, inR (by omega) (by omega), ?_⟩, fun hx => ⟨inR (by omega) (by omega), ?_⟩⟩, fun h => by omega⟩
      · exact ih (i + 1) (out ++ [x]) h3 (by simp; omega) (by rw [← he, rmK_cons_ne hx]; simp)
      · exact ih (i + 1) out h3 (by omega) (by rw [← he, hx, rmK_cons_eq])
  exact ⟨_, key1 l 0 [] rfl (by simp) rfl⟩
-- impl.putFirst
def G_impl_putFirst (list0 : List Int) (key1 : Int) (k : List Int → Prop) : Prop :=
  (1 + list0.length ≤ 1000000000) ∧
  k (([key1] : List Int) ++ list0)
def S_impl_putFirst (list0 : List Int) (key1 : Int) (k : List Int → Prop) : Prop := G_impl_putFirst list0 key1 k
abbrev F_impl_putFirst (list0 : List Int) (key1 : Int) (k : List Int → Prop) : Prop := S_impl_putFirst list0 key1 k
theorem F_impl_putFirst_S {list0 : List Int} {key1 : Int} {k : List Int → Prop} (h : F_impl_putFirst list0 key1 k) : S_impl_putFirst list0 key1 k := h
-- impl.UseRecent
def G_impl_UseRecent (list0 : List Int) (room1 : Int) (key2 : Int) (k : List Int → Bool → Prop) : Prop :=
  F_impl_ValidKeys list0 room1 fun validKeys11 =>
  br (!validKeys11)
  (k ([] : List Int) false)
  (F_impl_validKey key2 fun validKey15 =>
    br (!validKey15)
    (k ([] : List Int) false)
    (F_impl_withoutKey list0 key2 fun withoutKey20 =>
      F_impl_putFirst withoutKey20 key2 fun putFirst22 =>
      (0 ≤ (if room1 < (putFirst22.length : Int) then room1 else (putFirst22.length : Int)) ∧ (if room1 < (putFirst22.length : Int) then room1 else (putFirst22.length : Int)) ≤ (putFirst22.length : Int)) ∧
      (F_slices_Contains_sint_int list0 key2 fun contains31 =>
        k (List.take (Int.toNat (if room1 < (putFirst22.length : Int) then room1 else (putFirst22.length : Int))) (List.drop 0 putFirst22)) contains31) ∧
      (True)))
def H_impl_UseRecent (list0 : List Int) (room1 : Int) (key2 : Int) (k : List Int → Bool → Prop) : Prop :=
  F_impl_ValidKeys list0 room1 fun validKeys11 =>
  br (!validKeys11)
  (k ([] : List Int) false)
  (F_impl_validKey key2 fun validKey15 =>
    br (!validKey15)
    (k ([] : List Int) false)
    (F_impl_withoutKey list0 key2 fun withoutKey20 =>
      F_impl_putFirst withoutKey20 key2 fun putFirst22 =>
      (0 ≤ (if room1 < (putFirst22.length : Int) then room1 else (putFirst22.length : Int)) ∧ (if room1 < (putFirst22.length : Int) then room1 else (putFirst22.length : Int)) ≤ (putFirst22.length : Int)) ∧
      F_slices_Contains_sint_int list0 key2 fun contains31 =>
      k (List.take (Int.toNat (if room1 < (putFirst22.length : Int) then room1 else (putFirst22.length : Int))) (List.drop 0 putFirst22)) contains31))
theorem G_impl_UseRecent_eq (list0 : List Int) (room1 : Int) (key2 : Int) (k : List Int → Bool → Prop) : G_impl_UseRecent list0 room1 key2 k = H_impl_UseRecent list0 room1 key2 k := by
  simp only [G_impl_UseRecent, H_impl_UseRecent, and_self, and_true]
def S_impl_UseRecent (list0 : List Int) (room1 : Int) (key2 : Int) (k : List Int → Bool → Prop) : Prop := H_impl_UseRecent list0 room1 key2 k
def F_impl_UseRecent (l : List Int) (room key : Int) (k : List Int → Bool → Prop) : Prop :=
  (VKeys l room ∧ 0 ≤ key ∧ key ≤ 31 → k (recM l room key) (decide (key ∈ l))) ∧ (¬ (VKeys l room ∧ 0 ≤ key ∧ key ≤ 31) → k [] false)
theorem F_impl_UseRecent_S {l : List Int} {room key : Int} {k : List Int → Bool → Prop} (h : F_impl_UseRecent l room key k) : S_impl_UseRecent l room key k := by
  obtain ⟨hyes, hno⟩ := h
  intro b hb
  refine br_not.2 (br_iff.2 ⟨fun e => br_not.2 (br_dec.2 ⟨fun hkey => ?_, fun hkey => hno fun w => hkey w.2⟩), fun e => hno fun w => by rw [hb.2 w.1] at e; cases e⟩)
  have v := hb.1 e
  have hk := hyes ⟨v, hkey⟩
  obtain ⟨v1, v2, v3, v4, v5⟩ := v
  have := @rmK_le l key
  refine ⟨by omega, by omega, ⟨?_, ?_⟩, by omega, ?_⟩
  · split <;> omega
  · split <;> omega
  · show k (List.take (if room < (([key] ++ rmK l key).length : Int) then room else (([key] ++ rmK l key).length : Int)).toNat ([key] ++ rmK l key)) (decide (key ∈ l))
    rw [take_min2]; exact hk
-- impl.UseSegments
def G_impl_UseSegments_j0 (s0Old : List Int) (s0Safe : Int) (s0Trial : Int) (useRecent70r0 : List Int) (withoutKey97 : List Int) (k : Int → Int → List Int → List Int → Bool → Prop) : Prop :=
  ((1 + withoutKey97.length ≤ 1000000000) ∧
    (k s0Trial s0Safe (([(List.getD s0Old (Int.toNat (s0Safe - 1)) (0 : Int))] : List Int) ++ withoutKey97) useRecent70r0 true) ∧
    (True)) ∧
  (True)
def G_impl_UseSegments_j1 (key1 : Int) (s0New : List Int) (s0Old : List Int) (s0Safe : Int) (s0Trial : Int) (useRecent70r0 : List Int) (k : Int → Int → List Int → List Int → Bool → Prop) : Prop :=
  (((0 + 1 ≤ 1000000000) ∧
      (((F_impl_withoutKey s0New key1 fun withoutKey97 =>
            G_impl_UseSegments_j0 s0Old s0Safe s0Trial useRecent70r0 withoutKey97 k) ∧
          (True)) ∧
        ((F_impl_withoutKey s0New key1 fun withoutKey97 =>
            (G_impl_UseSegments_j0 s0Old s0Safe s0Trial useRecent70r0 withoutKey97 k) ∧
            (True)) ∧
          (True))) ∧
      (True)) ∧
    (True)) ∧
  (True)
def G_impl_UseSegments_j2 (s0Safe : Int) (s0Trial : Int) (useRecent70r0 : List Int) (withoutKey97 : List Int) (k : Int → Int → List Int → List Int → Bool → Prop) : Prop :=
  ((0 + withoutKey97.length ≤ 1000000000) ∧
    (k s0Trial s0Safe withoutKey97 useRecent70r0 true) ∧
    (True)) ∧
  (True)
def G_impl_UseSegments (s0Trial : Int) (s0Safe : Int) (s0New : List Int) (s0Old : List Int) (key1 : Int) (k : Int → Int → List Int → List Int → Bool → Prop) : Prop :=
  F_impl_ValidSegments s0Trial s0Safe s0New s0Old fun validSegments8 =>
  br (!validSegments8)
  (k 0 0 ([] : List Int) ([] : List Int) false)
  (F_impl_validKey key1 fun validKey12 =>
    br (!validKey12)
    (k 0 0 ([] : List Int) ([] : List Int) false)
    (F_slices_Contains_sint_int s0Old key1 fun contains24 =>
      br contains24
      (F_impl_UseRecent s0Old s0Safe key1 fun useRecent31r0 useRecent31r1 =>
        (0 + s0New.length ≤ 1000000000) ∧
        k s0Trial s0Safe s0New useRecent31r0 true)
      (F_slices_Contains_sint_int s0New key1 fun contains45 =>
        br (!contains45)
        ((0 + s0Old.length ≤ 1000000000) ∧
          F_impl_UseRecent s0New s0Trial key1 fun useRecent59r0 useRecent59r1 =>
          k s0Trial s0Safe useRecent59r0 s0Old false)
        (F_impl_UseRecent s0Old s0Safe key1 fun useRecent70r0 useRecent70r1 =>
          br ((s0Old.length : Int) == s0Safe)
          (InR (s0Safe - 1) ∧
            (0 ≤ (s0Safe - 1) ∧ (s0Safe - 1) < (s0Old.length : Int)) ∧
            (G_impl_UseSegments_j1 key1 s0New s0Old s0Safe s0Trial useRecent70r0 k) ∧
            ((G_impl_UseSegments_j1 key1 s0New s0Old s0Safe s0Trial useRecent70r0 k) ∧
              (True)))
          (((F_impl_withoutKey s0New key1 fun withoutKey97 =>
                G_impl_UseSegments_j2 s0Safe s0Trial useRecent70r0 withoutKey97 k) ∧
              (True)) ∧
            ((F_impl_withoutKey s0New key1 fun withoutKey97 =>
                (G_impl_UseSegments_j2 s0Safe s0Trial useRecent70r0 withoutKey97 k) ∧
                (True)) ∧
              (True)))))))
def H_impl_UseSegments (s0Trial : Int) (s0Safe : Int) (s0New : List Int) (s0Old : List Int) (key1 : Int) (k : Int → Int → List Int → List Int → Bool → Prop) : Prop :=
  F_impl_ValidSegments s0Trial s0Safe s0New s0Old fun validSegments8 =>
  br (!validSegments8)
  (k 0 0 ([] : List Int) ([] : List Int) false)
  (F_impl_validKey key1 fun validKey12 =>
    br (!validKey12)
    (k 0 0 ([] : List Int) ([] : List Int) false)
    (F_slices_Contains_sint_int s0Old key1 fun contains24 =>
      br contains24
      (F_impl_UseRecent s0Old s0Safe key1 fun useRecent31r0 useRecent31r1 =>
        (0 + s0New.length ≤ 1000000000) ∧
        k s0Trial s0Safe s0New useRecent31r0 true)
      (F_slices_Contains_sint_int s0New key1 fun contains45 =>
        br (!contains45)
        ((0 + s0Old.length ≤ 1000000000) ∧
          F_impl_UseRecent s0New s0Trial key1 fun useRecent59r0 useRecent59r1 =>
          k s0Trial s0Safe useRecent59r0 s0Old false)
        (F_impl_UseRecent s0Old s0Safe key1 fun useRecent70r0 useRecent70r1 =>
          br ((s0Old.length : Int) == s0Safe)
          (InR (s0Safe - 1) ∧
            (0 ≤ (s0Safe - 1) ∧ (s0Safe - 1) < (s0Old.length : Int)) ∧
            (0 + 1 ≤ 1000000000) ∧
            F_impl_withoutKey s0New key1 fun withoutKey97 =>
            (1 + withoutKey97.length ≤ 1000000000) ∧
            k s0Trial s0Safe (([(List.getD s0Old (Int.toNat (s0Safe - 1)) (0 : Int))] : List Int) ++ withoutKey97) useRecent70r0 true)
          (F_impl_withoutKey s0New key1 fun withoutKey97 =>
            (0 + withoutKey97.length ≤ 1000000000) ∧
            k s0Trial s0Safe withoutKey97 useRecent70r0 true)))))
theorem G_impl_UseSegments_eq (s0Trial : Int) (s0Safe : Int) (s0New : List Int) (s0Old : List Int) (key1 : Int) (k : Int → Int → List Int → List Int → Bool → Prop) : G_impl_UseSegments s0Trial s0Safe s0New s0Old key1 k = H_impl_UseSegments s0Trial s0Safe s0New s0Old key1 k := by
  simp only [G_impl_UseSegments, H_impl_UseSegments, G_impl_UseSegments_j0, G_impl_UseSegments_j1, G_impl_UseSegments_j2, and_self, and_true]
def S_impl_UseSegments (s0Trial : Int) (s0Safe : Int) (s0New : List Int) (s0Old : List Int) (key1 : Int) (k : Int → Int → List Int → List Int → Bool → Prop) : Prop := H_impl_UseSegments s0Trial s0Safe s0New s0Old key1 k
def F_impl_UseSegments (trial safe : Int) (new old : List Int) (key : Int) (k : Int → Int → List Int → List Int → Bool → Prop) : Prop :=
  (VSegs trial safe new old ∧ 0 ≤ key ∧ key ≤ 31 → k trial safe (segM trial safe new old key).1 (segM trial safe new old key).2.1 (segM trial safe new old key).2.2) ∧
  (¬ (VSegs trial safe new old ∧ 0 ≤ key ∧ key ≤ 31) → k 0 0 [] [] false)
theorem F_impl_UseSegments_S {trial safe : Int} {new old : List Int} {key : Int} {k : Int → Int → List Int → List Int → Bool → Prop} (h : F_impl_UseSegments trial safe new old key k) : S_impl_UseSegments trial safe new old key k := by
  obtain ⟨hyes, hno⟩ := h
  intro b hb
  rw [br_not, br_iff]
  refine ⟨fun e => br_not.2 (br_dec.2 ⟨fun hkey => ?_, fun hkey => hno fun w => hkey w.2⟩), fun e => hno fun w => by rw [hb.2 w.1] at e; cases e⟩
  have v := hb.1 e
  have hk := hyes ⟨v, hkey⟩
  have l1 := segs_len v
  obtain ⟨v1, v2, v3⟩ := v
  have hrm := @rmK_le new key
  unfold segM at hk
  refine ⟨by omega, br_dec.2 ⟨fun ho => ⟨fun _ => ⟨by omega, ?_⟩, fun h => absurd ⟨v2, hkey⟩ h⟩, fun ho => ⟨by omega, br_not.2 (br_dec.2 ⟨fun hn => ⟨fun _ => br_beq.2 ⟨fun hs => ?_, fun hs => ⟨by omega, by omega, ?_⟩⟩, fun h => absurd ⟨v2, hkey⟩ h⟩, fun hn => ⟨by omega, fun _ => ?_, fun h => absurd ⟨v1, hkey⟩ h⟩⟩)⟩⟩⟩
  · rw [if_pos ho] at hk
    rw [recM_hit v2.2.2.2.2 v2.2.2.1 ho]; exact hk
  · rw [if_neg ho, if_pos hn, if_pos hs] at hk
    have h1 := v2.1
    refine ⟨inR (by omega) (by omega), ⟨by omega, by omega⟩, by omega, by omega, by omega, ?_⟩
    rw [recM_miss ho, show (safe - 1).toNat = old.length - 1 by omega]; exact hk
  · rw [if_neg ho, if_pos hn, if_neg hs] at hk
    rw [recM_miss ho]; exact hk
  · rw [if_neg ho, if_neg hn] at hk
    rw [recM_miss hn]; exact hk
-- spec.inRange
def G_spec_inRange (n0 : Int) (low1 : Int) (high2 : Int) (k : Bool → Prop) : Prop :=
  br (decide (low1 ≤ n0))
  (k (decide (n0 ≤ high2)))
  (k false)
def S_spec_inRange (n0 : Int) (low1 : Int) (high2 : Int) (k : Bool → Prop) : Prop := G_spec_inRange n0 low1 high2 k
def F_spec_inRange (n low high : Int) (k : Bool → Prop) : Prop := k (decide (low ≤ n ∧ n ≤ high))
theorem F_spec_inRange_S {n low high : Int} {k : Bool → Prop} (h : F_spec_inRange n low high k) : S_spec_inRange n low high k := by
  unfold F_spec_inRange at h
  simp only [S_spec_inRange, G_spec_inRange, br_dec]
  refine ⟨fun h1 => ?_, fun h1 => ?_⟩
  · simpa [h1] using h
  · simpa [h1] using h
-- spec.allIn
def T0_spec_allIn (high2 : Int) (list0 : List Int) (low1 : Int) (xi7 : Int) (k : Bool → Prop) (B0 : Int → Prop) : Prop :=
  br (decide (xi7 < (list0.length : Int)))
  ((0 ≤ xi7 ∧ xi7 < (list0.length : Int)) ∧
    F_spec_inRange (List.getD list0 (Int.toNat xi7) (0 : Int)) low1 high2 fun inRange20 =>
    br (!inRange20)
    (k false)
    (InR (xi7 + 1) ∧
      B0 (xi7 + 1)))
  (k true)
def L0_spec_allIn (high2 : Int) (list0 : List Int) (low1 : Int) (k : Bool → Prop) : Nat → Int → Prop
  | 0, _ => False
  | n + 1, xi7 => T0_spec_allIn high2 list0 low1 xi7 k (L0_spec_allIn high2 list0 low1 k n)
def G_spec_allIn (list0 : List Int) (low1 : Int) (high2 : Int) (I0 : Int → List Int → Int → Int → Prop) : Prop :=
  I0 high2 list0 low1 0
def S_spec_allIn (list0 : List Int) (low1 : Int) (high2 : Int) (k : Bool → Prop) : Prop := G_spec_allIn list0 low1 high2 (fun high2 list0 low1 xi7 => ∃ j, L0_spec_allIn high2 list0 low1 k j xi7)
def F_spec_allIn (l : List Int) (low high : Int) (k : Bool → Prop) : Prop := l.length ≤ 1000000000 ∧ k (decide (∀ x ∈ l, low ≤ x ∧ x ≤ high))
theorem F_spec_allIn_S {l : List Int} {low high : Int} {k : Bool → Prop} (h : F_spec_allIn l low high k) : S_spec_allIn l low high k := by
  obtain ⟨hl, hk⟩ := h
  have key : ∀ (r : List Int) (i : Nat), l.drop i = r → ((∀ x ∈ r, low ≤ x ∧ x ≤ high) ↔ (∀ x ∈ l, low ≤ x ∧ x ≤ high)) → L0_spec_allIn high l low k (r.length + 1) (i : Int) := by
    intro r
    induction r with
    | nil =>
      intro i hd he
      have := drop_nil' hd
      rw [L0_spec_allIn, T0_spec_allIn]
      simp only [br_dec]
      refine ⟨fun h => by omega, fun _ => ?_⟩
      rwa [decide_eq_true (he.1 (by simp))] at hk
    | cons x r ih =>
      intro i hd he
      obtain ⟨h1, h2, _, h3, _⟩ := drop_cons' hd
      rw [List.length_cons, L0_spec_allIn, T0_spec_allIn]
      simp only [br_dec, F_spec_inRange, br_not, Int.toNat_natCast, h2]
      refine ⟨fun _ => ⟨⟨by omega, by omega⟩, fun hx => ⟨inR (by omega) (by omega), ?_⟩, fun hx => ?_⟩, fun h => by omega⟩
      · refine ih (i + 1) h3 (Iff.trans ?_ he)
        simp only [List.mem_cons, forall_eq_or_imp]
        exact ⟨fun h => ⟨hx, h⟩, fun h => h.2⟩
      · rwa [decide_eq_false (fun h => hx (he.2 h x (by simp)))] at hk
  exact ⟨_, key l 0 rfl Iff.rfl⟩
-- spec.distinct
def T0_spec_distinct (list0 : List Int) (xi3 : Int) (k : Bool → Prop) (B0 : Int → Prop) : Prop :=
  br (decide (xi3 < (list0.length : Int)))
  ((0 ≤ xi3 ∧ xi3 < (list0.length : Int)) ∧
    F_spec_placeOf list0 (List.getD list0 (Int.toNat xi3) (0 : Int)) fun placeOf15 =>
    br (placeOf15 != xi3)
    (k false)
    (InR (xi3 + 1) ∧
      B0 (xi3 + 1)))
  (k true)
def L0_spec_distinct (list0 : List Int) (k : Bool → Prop) : Nat → Int → Prop
  | 0, _ => False
  | n + 1, xi3 => T0_spec_distinct list0 xi3 k (L0_spec_distinct list0 k n)
def G_spec_distinct (list0 : List Int) (I0 : List Int → Int → Prop) : Prop :=
  I0 list0 0
def S_spec_distinct (list0 : List Int) (k : Bool → Prop) : Prop := G_spec_distinct list0 (fun list0 xi3 => ∃ j, L0_spec_distinct list0 k j xi3)
def F_spec_distinct (l : List Int) (k : Bool → Prop) : Prop := l.length ≤ 1000000000 ∧ k (decide l.Nodup)
theorem F_spec_distinct_S {l : List Int} {k : Bool → Prop} (h : F_spec_distinct l k) : S_spec_distinct l k := by
  obtain ⟨hl, hk⟩ := h
  have key : ∀ (r : List Int) (i : Nat), l.drop i = r → (∀ q : Nat, q < i → plc l (l.getD q 0) = (q : Int)) → L0_spec_distinct l k (r.length + 1) (i : Int) := by
    intro r
    induction r with
    | nil =>
      intro i hd he
      have := drop_nil' hd
      rw [L0_spec_distinct, T0_spec_distinct]
      simp only [br_dec]
      refine ⟨fun h => by omega, fun _ => ?_⟩
      rwa [decide_eq_true (nodup_plc.1 fun q hq => he q (by omega))] at hk
    | cons x r ih =>
      intro i hd he
      obtain ⟨h1, h2, _, h3, _⟩ := drop_cons' hd
      rw [List.length_cons, L0_spec_distinct, T0_spec_distinct]
      simp only [br_dec, F_spec_placeOf, br_bne, Int.toNat_natCast]
      refine ⟨fun _ => ⟨⟨by omega, by omega⟩, hl, fun hx => ?_, fun hx => ⟨inR (by omega) (by omega), ?_⟩⟩, fun h => by omega⟩
      · rwa [decide_eq_false (fun h => hx (nodup_plc.2 h i h1))] at hk
      · refine ih (i + 1) h3 fun q hq => ?_
        by_cases e : q = i
        · subst e; exact hx
        · exact he q (by omega)
  exact ⟨_, key l 0 rfl (fun q hq => by omega)⟩
-- spec.validKeys
def G_spec_validKeys (list0 : List Int) (room1 : Int) (k : Bool → Prop) : Prop :=
  F_spec_inRange room1 (1 : Int) (8 : Int) fun inRange6 =>
  br inRange6
  (br (decide ((list0.length : Int) ≤ room1))
    (F_spec_allIn list0 (0 : Int) (31 : Int) fun allIn15 =>
      br allIn15
      (F_spec_distinct list0 fun distinct19 =>
        k distinct19)
      (k false))
    (k false))
  (k false)
def S_spec_validKeys (list0 : List Int) (room1 : Int) (k : Bool → Prop) : Prop := G_spec_validKeys list0 room1 k
def F_spec_validKeys (l : List Int) (room : Int) (k : Bool → Prop) : Prop := ∀ b : Bool, (b = true ↔ VKeys l room) → k b
theorem F_spec_validKeys_S {l : List Int} {room : Int} {k : Bool → Prop} (h : F_spec_validKeys l room k) : S_spec_validKeys l room k := by
  have hno : ¬ VKeys l room → k false := fun hv => h false (by simp [hv])
  show br (decide (1 ≤ room ∧ room ≤ 8)) _ _
  refine br_dec.2 ⟨fun h1 => br_dec.2 ⟨fun h3 => ?_, fun h3 => hno fun v => h3 v.2.2.1⟩, fun h1 => hno fun v => h1 ⟨v.1, v.2.1⟩⟩
  refine ⟨by omega, br_dec.2 ⟨fun h4 => ⟨by omega, h _ ?_⟩, fun h4 => hno fun v => h4 v.2.2.2.1⟩⟩
  simp only [decide_eq_true_eq]
  exact ⟨fun hn => ⟨h1.1, h1.2, h3, h4, hn⟩, fun v => v.2.2.2.2⟩
-- spec.validSegments
def G_spec_validSegments_j0 (k : Bool → Prop) : Prop :=
  (((k false) ∧
      (True)) ∧
    (True)) ∧
  (True)
def G_spec_validSegments_j1 (k : Bool → Prop) : Prop :=
  (G_spec_validSegments_j0 k) ∧
  (True)
def G_spec_validSegments_j2 (k : Bool → Prop) : Prop :=
  (G_spec_validSegments_j1 k) ∧
  (True)
def G_spec_validSegments (s0Trial : Int) (s0Safe : Int) (s0New : List Int) (s0Old : List Int) (k : Bool → Prop) : Prop :=
  (F_spec_inRange s0Trial (1 : Int) (8 : Int) fun inRange5 =>
    br inRange5
    ((F_spec_inRange s0Safe (1 : Int) (8 : Int) fun inRange9 =>
        br inRange9
        ((F_spec_validKeys s0New s0Trial fun validKeys16 =>
            br validKeys16
            ((F_spec_validKeys s0Old s0Safe fun validKeys23 =>
                br validKeys23
                ((F_spec_copyInts s0New fun copyInts28 =>
                    ((copyInts28.length + s0Old.length ≤ 1000000000) ∧
                      (F_spec_distinct (copyInts28 ++ s0Old) fun distinct32 =>
                        k distinct32) ∧
                      (True)) ∧
                    (True)) ∧
                  (True))
                (G_spec_validSegments_j0 k)) ∧
              (True))
            (G_spec_validSegments_j1 k)) ∧
          (True))
        (G_spec_validSegments_j2 k)) ∧
      (True))
    ((G_spec_validSegments_j2 k) ∧
      (True))) ∧
  (True)
def H_spec_validSegments (s0Trial : Int) (s0Safe : Int) (s0New : List Int) (s0Old : List Int) (k : Bool → Prop) : Prop :=
  F_spec_inRange s0Trial (1 : Int) (8 : Int) fun inRange5 =>
  br inRange5
  (F_spec_inRange s0Safe (1 : Int) (8 : Int) fun inRange9 =>
    br inRange9
    (F_spec_validKeys s0New s0Trial fun validKeys16 =>
      br validKeys16
      (F_spec_validKeys s0Old s0Safe fun validKeys23 =>
        br validKeys23
        (F_spec_copyInts s0New fun copyInts28 =>
          (copyInts28.length + s0Old.length ≤ 1000000000) ∧
          F_spec_distinct (copyInts28 ++ s0Old) fun distinct32 =>
          k distinct32)
        (k false))
      (k false))
    (k false))
  (k false)
theorem G_spec_validSegments_eq (s0Trial : Int) (s0Safe : Int) (s0New : List Int) (s0Old : List Int) (k : Bool → Prop) : G_spec_validSegments s0Trial s0Safe s0New s0Old k = H_spec_validSegments s0Trial s0Safe s0New s0Old k := by
  simp only [G_spec_validSegments, H_spec_validSegments, G_spec_validSegments_j0, G_spec_validSegments_j1, G_spec_validSegments_j2, and_self, and_true]
def S_spec_validSegments (s0Trial : Int) (s0Safe : Int) (s0New : List Int) (s0Old : List Int) (k : Bool → Prop) : Prop := H_spec_validSegments s0Trial s0Safe s0New s0Old k
def F_spec_validSegments (trial safe : Int) (new old : List Int) (k : Bool → Prop) : Prop := ∀ b : Bool, (b = true ↔ VSegs trial safe new old) → k b
theorem F_spec_validSegments_S {trial safe : Int} {new old : List Int} {k : Bool → Prop} (h : F_spec_validSegments trial safe new old k) : S_spec_validSegments trial safe new old k := by
  have hno : ¬ VSegs trial safe new old → k false := fun hv => h false (by simp [hv])
  refine br_dec.2 ⟨fun h1 => br_dec.2 ⟨fun h2 => ?_, fun h2 => hno fun w => h2 ⟨w.2.1.1, w.2.1.2.1⟩⟩, fun h1 => hno fun w => h1 ⟨w.1.1, w.1.2.1⟩⟩
  intro b1 hb1
  refine br_iff.2 ⟨fun e1 => ?_, fun e => hno fun w => by rw [hb1.2 w.1] at e; cases e⟩
  intro b2 hb2
  refine br_iff.2 ⟨fun e2 => ?_, fun e => hno fun w => by rw [hb2.2 w.2.1] at e; cases e⟩
  have v1 := hb1.1 e1
  have v2 := hb2.1 e2
  have l1 : new.length ≤ 8 ∧ old.length ≤ 8 := by have := v1.2.1; have := v1.2.2.1; have := v2.2.1; have := v2.2.2.1; omega
  refine ⟨by omega, by omega, by simp; omega, h _ ?_⟩
  simp only [decide_eq_true_eq]
  rw [segs_nodup]
  exact ⟨fun w => ⟨v1, v2, w.2.2⟩, fun w => ⟨v1.2.2.2.2, v2.2.2.2.2, w.2.2⟩⟩
-- spec.UseSegments
def G_spec_UseSegments (s0Trial : Int) (s0Safe : Int) (s0New : List Int) (s0Old : List Int) (key1 : Int) (k : Int → Int → List Int → List Int → Bool → Prop) : Prop :=
  F_spec_validSegments s0Trial s0Safe s0New s0Old fun validSegments7 =>
  br (!validSegments7)
  (k 0 0 ([] : List Int) ([] : List Int) false)
  (F_spec_inRange key1 (0 : Int) (31 : Int) fun inRange11 =>
    br (!inRange11)
    (k 0 0 ([] : List Int) ([] : List Int) false)
    (F_spec_promote s0Trial s0Safe s0New s0Old key1 fun promote17Trial promote17Safe promote17New promote17Old promote17r1 =>
      k promote17Trial promote17Safe promote17New promote17Old promote17r1))
def S_spec_UseSegments (s0Trial : Int) (s0Safe : Int) (s0New : List Int) (s0Old : List Int) (key1 : Int) (k : Int → Int → List Int → List Int → Bool → Prop) : Prop := G_spec_UseSegments s0Trial s0Safe s0New s0Old key1 k
def F_spec_UseSegments (trial safe : Int) (new old : List Int) (key : Int) (k : Int → Int → List Int → List Int → Bool → Prop) : Prop :=
  (VSegs trial safe new old ∧ 0 ≤ key ∧ key ≤ 31 → k trial safe (segM trial safe new old key).1 (segM trial safe new old key).2.1 (segM trial safe new old key).2.2) ∧
  (¬ (VSegs trial safe new old ∧ 0 ≤ key ∧ key ≤ 31) → k 0 0 [] [] false)
theorem F_spec_UseSegments_S {trial safe : Int} {new old : List Int} {key : Int} {k : Int → Int → List Int → List Int → Bool → Prop} (h : F_spec_UseSegments trial safe new old key k) : S_spec_UseSegments trial safe new old key k := by
  obtain ⟨hyes, hno⟩ := h
  intro b hb
  rw [br_not, br_iff]
  exact ⟨fun e => br_not.2 (br_dec.2 ⟨fun hkey => ⟨hb.1 e, hyes ⟨hb.1 e, hkey⟩⟩, fun hkey => hno fun w => hkey w.2⟩), fun e => hno fun w => by rw [hb.2 w.1] at e; cases e⟩
-- laws.equalInts
def T0_laws_equalInts (a0 : List Int) (b1 : List Int) (xi5 : Int) (k : Bool → Prop) (B0 : Int → Prop) : Prop :=
  br (decide (xi5 < (a0.length : Int)))
  ((0 ≤ xi5 ∧ xi5 < (a0.length : Int)) ∧
    (0 ≤ xi5 ∧ xi5 < (b1.length : Int)) ∧
    br ((List.getD a0 (Int.toNat xi5) (0 : Int)) != (List.getD b1 (Int.toNat xi5) (0 : Int)))
    (k false)
    (InR (xi5 + 1) ∧
      B0 (xi5 + 1)))
  (k true)
def L0_laws_equalInts (a0 : List Int) (b1 : List Int) (k : Bool → Prop) : Nat → Int → Prop
  | 0, _ => False
  | n + 1, xi5 => T0_laws_equalInts a0 b1 xi5 k (L0_laws_equalInts a0 b1 k n)
def G_laws_equalInts (a0 : List Int) (b1 : List Int) (k : Bool → Prop) (I0 : List Int → List Int → Int → Prop) : Prop :=
  br ((a0.length : Int) != (b1.length : Int))
  (k false)
  (I0 a0 b1 0)
def S_laws_equalInts (a0 : List Int) (b1 : List Int) (k : Bool → Prop) : Prop := G_laws_equalInts a0 b1 k (fun a0 b1 xi5 => ∃ j, L0_laws_equalInts a0 b1 k j xi5)
def F_laws_equalInts (a b : List Int) (k : Bool → Prop) : Prop := a.length ≤ 1000000000 ∧ k (decide (a = b))
theorem F_laws_equalInts_S {a b : List Int} {k : Bool → Prop} (h : F_laws_equalInts a b k) : S_laws_equalInts a b k := by
  obtain ⟨hl, hk⟩ := h
  refine br_bne.2 ⟨fun he => by rwa [decide_eq_false (fun e => he (by rw [e]))] at hk, fun he => ?_⟩
  have he : a.length = b.length := by omega
  have key : ∀ (r : List Int) (i : Nat), a.drop i = r → (r = b.drop i ↔ a = b) → L0_laws_equalInts a b k (r.length + 1) (i : Int) := by
    intro r
    induction r with
    | nil =>
      intro i hd hi
      have := drop_nil' hd
      rw [L0_laws_equalInts, T0_laws_equalInts]
      simp only [br_dec]
      exact ⟨fun h => by omega, fun _ => by rwa [decide_eq_true (hi.1 (List.drop_eq_nil_of_le (by omega)).symm)] at hk⟩
    | cons x r ih =>
      intro i hd hi
      obtain ⟨h1, h2, _, h3, _⟩ := drop_cons' hd
      obtain ⟨y, s, hs⟩ : ∃ y s, b.drop i = y :: s := by
        cases e : b.drop i with
        | nil => have := drop_nil' e; omega
        | cons y s => exact ⟨y, s, rfl⟩
      obtain ⟨g1, g2, _, g3, _⟩ := drop_cons' hs
      rw [List.length_cons, L0_laws_equalInts, T0_laws_equalInts]
      simp only [br_dec, br_bne, Int.toNat_natCast, h2, g2]
      rw [hs] at hi
      refine ⟨fun _ => ⟨⟨by omega, by omega⟩, ⟨by omega, by omega⟩, ?_⟩, fun h => by omega⟩
      have go : x = y → L0_laws_equalInts a b k (r.length + 1) ((i : Int) + 1) := fun hx => ih (i + 1) h3 (by rw [g3, ← hi, hx]; simp)
      have no : x ≠ y → k false := fun hx => by rwa [decide_eq_false (fun e => hx (List.cons.inj (hi.2 e)).1)] at hk
      exact ⟨no, fun hx => ⟨inR (by omega) (by omega), go hx⟩⟩
  exact ⟨_, key a 0 rfl (by simp)⟩
-- laws.equalSegments
def G_laws_equalSegments (a0Trial : Int) (a0Safe : Int) (a0New : List Int) (a0Old : List Int) (b1Trial : Int) (b1Safe : Int) (b1New : List Int) (b1Old : List Int) (k : Bool → Prop) : Prop :=
  br (a0Trial == b1Trial)
  (br (a0Safe == b1Safe)
    (F_laws_equalInts a0New b1New fun equalInts22 =>
      br equalInts22
      (F_laws_equalInts a0Old b1Old fun equalInts29 =>
        k equalInts29)
      (k false))
    (k false))
  (k false)
def S_laws_equalSegments (a0Trial : Int) (a0Safe : Int) (a0New : List Int) (a0Old : List Int) (b1Trial : Int) (b1Safe : Int) (b1New : List Int) (b1Old : List Int) (k : Bool → Prop) : Prop := G_laws_equalSegments a0Trial a0Safe a0New a0Old b1Trial b1Safe b1New b1Old k
def F_laws_equalSegments (t1 s1 : Int) (a1 b1 : List Int) (t2 s2 : Int) (a2 b2 : List Int) (k : Bool → Prop) : Prop :=
  (a1.length ≤ 1000000000 ∧ b1.length ≤ 1000000000) ∧ ∀ b : Bool, (b = true ↔ t1 = t2 ∧ s1 = s2 ∧ a1 = a2 ∧ b1 = b2) → k b
theorem F_laws_equalSegments_S {t1 s1 : Int} {a1 b1 : List Int} {t2 s2 : Int} {a2 b2 : List Int} {k : Bool → Prop} (h : F_laws_equalSegments t1 s1 a1 b1 t2 s2 a2 b2 k) : S_laws_equalSegments t1 s1 a1 b1 t2 s2 a2 b2 k := by
  obtain ⟨⟨l1, l2⟩, hk⟩ := h
  refine br_beq.2 ⟨fun e1 => br_beq.2 ⟨fun e2 => ⟨l1, br_dec.2 ⟨fun e3 => ⟨l2, hk _ (by simp [e1, e2, e3])⟩, fun e3 => hk _ (by simp [e3])⟩⟩, fun e2 => hk _ (by simp [e2])⟩, fun e1 => hk _ (by simp [e1])⟩
theorem equalSegments_same {t1 s1 : Int} {a1 b1 : List Int} {k : Bool → Prop} (l1 : a1.length ≤ 1000000000) (l2 : b1.length ≤ 1000000000) (h : k true) : F_laws_equalSegments t1 s1 a1 b1 t1 s1 a1 b1 k :=
  ⟨⟨l1, l2⟩, all_t ⟨rfl, rfl, rfl, rfl⟩ h⟩
-- impl.KeysOf
def G_impl_KeysOf (s0Trial : Int) (s0Safe : Int) (s0New : List Int) (s0Old : List Int) (k : List Int → Prop) : Prop :=
  F_impl_ValidSegments s0Trial s0Safe s0New s0Old fun validSegments5 =>
  br (!validSegments5)
  (k ([] : List Int))
  ((0 + s0Old.length ≤ 1000000000) ∧
    (s0Old.length + s0New.length ≤ 1000000000) ∧
    k (s0Old ++ s0New))
def S_impl_KeysOf (s0Trial : Int) (s0Safe : Int) (s0New : List Int) (s0Old : List Int) (k : List Int → Prop) : Prop := G_impl_KeysOf s0Trial s0Safe s0New s0Old k
def F_impl_KeysOf (trial safe : Int) (new old : List Int) (k : List Int → Prop) : Prop :=
  (VSegs trial safe new old → k (old ++ new)) ∧ (¬ VSegs trial safe new old → k [])
theorem F_impl_KeysOf_S {trial safe : Int} {new old : List Int} {k : List Int → Prop} (h : F_impl_KeysOf trial safe new old k) : S_impl_KeysOf trial safe new old k := by
  obtain ⟨hyes, hno⟩ := h
  intro b hb
  rw [br_not, br_iff]
  refine ⟨fun e => ?_, fun e => hno fun w => by rw [hb.2 w] at e; cases e⟩
  have v := hb.1 e
  have := segs_len v
  exact ⟨by omega, by omega, hyes v⟩
-- laws.isIn
def T0_laws_isIn (list0 : List Int) (n1 : Int) (xi5 : Int) (k : Bool → Prop) (B0 : Int → Prop) : Prop :=
  br (decide (xi5 < (list0.length : Int)))
  ((0 ≤ xi5 ∧ xi5 < (list0.length : Int)) ∧
    br ((List.getD list0 (Int.toNat xi5) (0 : Int)) == n1)
    (k true)
    (InR (xi5 + 1) ∧
      B0 (xi5 + 1)))
  (k false)
def L0_laws_isIn (list0 : List Int) (n1 : Int) (k : Bool → Prop) : Nat → Int → Prop
  | 0, _ => False
  | n + 1, xi5 => T0_laws_isIn list0 n1 xi5 k (L0_laws_isIn list0 n1 k n)
def G_laws_isIn (list0 : List Int) (n1 : Int) (I0 : List Int → Int → Int → Prop) : Prop :=
  I0 list0 n1 0
def S_laws_isIn (list0 : List Int) (n1 : Int) (k : Bool → Prop) : Prop := G_laws_isIn list0 n1 (fun list0 n1 xi5 => ∃ j, L0_laws_isIn list0 n1 k j xi5)
def F_laws_isIn (l : List Int) (n : Int) (k : Bool → Prop) : Prop := l.length ≤ 1000000000 ∧ k (decide (n ∈ l))
theorem F_laws_isIn_S {l : List Int} {n : Int} {k : Bool → Prop} (h : F_laws_isIn l n k) : S_laws_isIn l n k := by
  obtain ⟨hl, hk⟩ := h
  have key : ∀ (r : List Int) (i : Nat), l.drop i = r → (n ∈ r ↔ n ∈ l) → L0_laws_isIn l n k (r.length + 1) (i : Int) := by
    intro r
    induction r with
    | nil =>
      intro i hd he
      have := drop_nil' hd
      rw [L0_laws_isIn, T0_laws_isIn]
      simp only [br_dec]
      exact ⟨fun h => by omega, fun _ => by rwa [decide_eq_false (fun h => absurd (he.2 h) (by simp))] at hk⟩
    | cons x r ih =>
      intro i hd he
      obtain ⟨h1, h2, h5, h3, _⟩ := drop_cons' hd
      rw [List.length_cons, L0_laws_isIn, T0_laws_isIn]
      simp only [br_dec, br_beq, Int.toNat_natCast, h2]
      refine ⟨fun _ => ⟨⟨by omega, by omega⟩, fun hx => ?_, fun hx => ⟨inR (by omega) (by omega), ih (i + 1) h3 (Iff.trans ?_ he)⟩⟩, fun h => by omega⟩
      · rwa [decide_eq_true (he.1 (by simp [hx]))] at hk
      · simp [Ne.symm hx]
  exact ⟨_, key l 0 rfl Iff.rfl⟩
-- laws.FnUseSegmentsKeep
def T0_laws_FnUseSegmentsKeep_j0 (drawUseSegments18Old : List Int) (useSegments24Old : List Int) (useSegments24r1 : Bool) (xlost11 : Int) (k : Bool → Prop) : Prop :=
  br (!useSegments24r1)
  (br (decide (xlost11 ≤ 1))
    (F_laws_equalInts useSegments24Old drawUseSegments18Old fun equalInts91 =>
      k equalInts91)
    (k false))
  (k false)
def T0_laws_FnUseSegmentsKeep (drawUseSegments18New : List Int) (drawUseSegments18Old : List Int) (drawUseSegments18Safe : Int) (drawUseSegments18Trial : Int) (keysOf56 : List Int) (keysOf58 : List Int) (useSegments24New : List Int) (useSegments24Old : List Int) (useSegments24Safe : Int) (useSegments24Trial : Int) (useSegments24r1 : Bool) (xlost11 : Int) (xi12 : Int) (k : Bool → Prop) (B0 : Int → Int → Prop) : Prop :=
  br (decide (xi12 < (keysOf56.length : Int)))
  ((0 ≤ xi12 ∧ xi12 < (keysOf56.length : Int)) ∧
    F_laws_isIn keysOf58 (List.getD keysOf56 (Int.toNat xi12) (0 : Int)) fun isIn70 =>
    br (!isIn70)
    (InR (xlost11 + 1) ∧
      InR (xi12 + 1) ∧
      B0 (xlost11 + 1) (xi12 + 1))
    (InR (xi12 + 1) ∧
      B0 xlost11 (xi12 + 1)))
  (br useSegments24r1
    (br (xlost11 == 0)
      (k true)
      (T0_laws_FnUseSegmentsKeep_j0 drawUseSegments18Old useSegments24Old useSegments24r1 xlost11 k))
    (T0_laws_FnUseSegmentsKeep_j0 drawUseSegments18Old useSegments24Old useSegments24r1 xlost11 k))
def L0_laws_FnUseSegmentsKeep (drawUseSegments18New : List Int) (drawUseSegments18Old : List Int) (drawUseSegments18Safe : Int) (drawUseSegments18Trial : Int) (keysOf56 : List Int) (keysOf58 : List Int) (useSegments24New : List Int) (useSegments24Old : List Int) (useSegments24Safe : Int) (useSegments24Trial : Int) (useSegments24r1 : Bool) (k : Bool → Prop) : Nat → Int → Int → Prop
  | 0, _, _ => False
  | n + 1, xlost11, xi12 => T0_laws_FnUseSegmentsKeep drawUseSegments18New drawUseSegments18Old drawUseSegments18Safe drawUseSegments18Trial keysOf56 keysOf58 useSegments24New useSegments24Old useSegments24Safe useSegments24Trial useSegments24r1 xlost11 xi12 k (L0_laws_FnUseSegmentsKeep drawUseSegments18New drawUseSegments18Old drawUseSegments18Safe drawUseSegments18Trial keysOf56 keysOf58 useSegments24New useSegments24Old useSegments24Safe useSegments24Trial useSegments24r1 k n)
def G_laws_FnUseSegmentsKeep_j0 (useSegments24New : List Int) (useSegments24Old : List Int) (useSegments24Safe : Int) (useSegments24Trial : Int) (useSegments24r1 : Bool) (useSegments30New : List Int) (useSegments30Old : List Int) (useSegments30Safe : Int) (useSegments30Trial : Int) (useSegments30r1 : Bool) (k : Bool → Prop) : Prop :=
  F_laws_equalSegments useSegments24Trial useSegments24Safe useSegments24New useSegments24Old useSegments30Trial useSegments30Safe useSegments30New useSegments30Old fun equalSegments49 =>
  br equalSegments49
  (k (useSegments24r1 == useSegments30r1))
  (k false)
def G_laws_FnUseSegmentsKeep (code0 : List Int) (k : Bool → Prop) (I0 : List Int → List Int → Int → Int → List Int → List Int → List Int → List Int → Int → Int → Bool → Int → Int → Prop) : Prop :=
  br (decide ((code0.length : Int) > 1048576))
  (k true)
  (F_spec_DrawUseSegments code0 fun drawUseSegments18Trial drawUseSegments18Safe drawUseSegments18New drawUseSegments18Old drawUseSegments18r1 =>
    F_impl_UseSegments drawUseSegments18Trial drawUseSegments18Safe drawUseSegments18New drawUseSegments18Old drawUseSegments18r1 fun useSegments24Trial useSegments24Safe useSegments24New useSegments24Old useSegments24r1 =>
    F_spec_UseSegments drawUseSegments18Trial drawUseSegments18Safe drawUseSegments18New drawUseSegments18Old drawUseSegments18r1 fun useSegments30Trial useSegments30Safe useSegments30New useSegments30Old useSegments30r1 =>
    F_laws_equalSegments useSegments24Trial useSegments24Safe useSegments24New useSegments24Old useSegments30Trial useSegments30Safe useSegments30New useSegments30Old fun equalSegments35 =>
    br (!equalSegments35)
    (G_laws_FnUseSegmentsKeep_j0 useSegments24New useSegments24Old useSegments24Safe useSegments24Trial useSegments24r1 useSegments30New useSegments30Old useSegments30Safe useSegments30Trial useSegments30r1 k)
    (br (!(useSegments24r1 == useSegments30r1))
      (G_laws_FnUseSegmentsKeep_j0 useSegments24New useSegments24Old useSegments24Safe useSegments24Trial useSegments24r1 useSegments30New useSegments30Old useSegments30Safe useSegments30Trial useSegments30r1 k)
      (br (useSegments24Trial == 0)
        (G_laws_FnUseSegmentsKeep_j0 useSegments24New useSegments24Old useSegments24Safe useSegments24Trial useSegments24r1 useSegments30New useSegments30Old useSegments30Safe useSegments30Trial useSegments30r1 k)
        (F_impl_KeysOf drawUseSegments18Trial drawUseSegments18Safe drawUseSegments18New drawUseSegments18Old fun keysOf56 =>
          F_impl_KeysOf useSegments24Trial useSegments24Safe useSegments24New useSegments24Old fun keysOf58 =>
          I0 drawUseSegments18New drawUseSegments18Old drawUseSegments18Safe drawUseSegments18Trial keysOf56 keysOf58 useSegments24New useSegments24Old useSegments24Safe useSegments24Trial useSegments24r1 0 0))))
def S_laws_FnUseSegmentsKeep (code0 : List Int) (k : Bool → Prop) : Prop := G_laws_FnUseSegmentsKeep code0 k (fun drawUseSegments18New drawUseSegments18Old drawUseSegments18Safe drawUseSegments18Trial keysOf56 keysOf58 useSegments24New useSegments24Old useSegments24Safe useSegments24Trial useSegments24r1 xlost11 xi12 => ∃ j, L0_laws_FnUseSegmentsKeep drawUseSegments18New drawUseSegments18Old drawUseSegments18Safe drawUseSegments18Trial keysOf56 keysOf58 useSegments24New useSegments24Old useSegments24Safe useSegments24Trial useSegments24r1 k j xlost11 xi12)
abbrev F_laws_FnUseSegmentsKeep (code0 : List Int) (k : Bool → Prop) : Prop := S_laws_FnUseSegmentsKeep code0 k
theorem F_laws_FnUseSegmentsKeep_S {code0 : List Int} {k : Bool → Prop} (h : F_laws_FnUseSegmentsKeep code0 k) : S_laws_FnUseSegmentsKeep code0 k := h
theorem law_FnUseSegmentsKeep (code : List Int) (hb : ∀ x ∈ code, 0 ≤ x ∧ x ≤ 255) : F_laws_FnUseSegmentsKeep code (fun r => r = true) := by
  refine br_dec.2 ⟨fun _ => rfl, fun hlen => ⟨hb, fun trial safe new old key l1 l2 => ?_⟩⟩
  by_cases v : VSegs trial safe new old ∧ 0 ≤ key ∧ key ≤ 31
  · refine ⟨fun _ => ⟨fun _ => ?_, fun h => absurd v h⟩, fun h => absurd v h⟩
    have hval := segM_valid (key := key) v.1 v.2
    obtain ⟨g1, g2⟩ := segs_len hval
    have ht1 := v.1.1.1
    have l0 := segs_len v.1
    have hkeep := segM_keep (key := key) v.1
    generalize segM trial safe new old key = q at *
    obtain ⟨a, b, hit⟩ := q
    dsimp only at g1 g2 hval hkeep ⊢
    refine equalSegments_same (by omega) (by omega) (br_nt (br_same (br_beq.2 ⟨fun h => by omega, fun _ => ⟨fun _ => ⟨fun _ => ?_, fun h => absurd hval h⟩, fun h => absurd v.1 h⟩⟩)))
    have key1 : ∀ (r : List Int) (i n : Nat), (old ++ new).drop i = r → n ≤ i → n + outN (b ++ a) r = outN (b ++ a) (old ++ new) → L0_laws_FnUseSegmentsKeep new old safe trial (old ++ new) (b ++ a) a b safe trial hit (fun r => r = true) (r.length + 1) (n : Int) (i : Int) := by
      intro r
      induction r with
      | nil =>
        intro i n hd hn he
        have := drop_nil' hd
        rw [L0_laws_FnUseSegmentsKeep, T0_laws_FnUseSegmentsKeep]
        have he : n = outN (b ++ a) (old ++ new) := by rw [← he]; rfl
        refine br_dec.2 ⟨fun h => by omega, fun _ => ?_⟩
        cases hit with
        | true =>
          have := hkeep.1 rfl
          exact br_beq.2 ⟨fun _ => rfl, fun h => by omega⟩
        | false =>
          obtain ⟨k1, k2⟩ := hkeep.2 rfl
          exact br_dec.2 ⟨fun _ => ⟨by omega, decide_eq_true k2⟩, fun h => by omega⟩
      | cons x r ih =>
        intro i n hd hn he
        obtain ⟨h1, h2, h5, h3, _⟩ := drop_cons' hd
        simp only [List.length_append] at h1
        rw [outN_cons] at he
        rw [List.length_cons, L0_laws_FnUseSegmentsKeep, T0_laws_FnUseSegmentsKeep]
        simp only [br_dec, br_not, Int.toNat_natCast, h2, F_laws_isIn, List.length_append]
        refine ⟨fun _ => ⟨⟨by omega, by omega⟩, by omega, fun c => ⟨inR (by omega) (by omega), ?_⟩, fun c => ⟨inR (by omega) (by omega), inR (by omega) (by omega), ?_⟩⟩, fun h => by omega⟩
        · rw [if_pos c] at he
          exact ih (i + 1) n h3 (by omega) (by omega)
        · rw [if_neg c] at he
          exact ih (i + 1) (n + 1) h3 (by omega) (by omega)
    exact ⟨_, key1 (old ++ new) 0 0 rfl (by omega) (by simp)⟩
  · refine ⟨fun h => absurd h v, fun _ => ⟨fun h => absurd h v, fun _ => ?_⟩⟩
    exact equalSegments_same (by simp) (by simp) (br_nt (br_same (br_beq.2 ⟨fun h => equalSegments_same (by simp) (by simp) rfl, fun h => absurd rfl h⟩)))
end Go.Ev
