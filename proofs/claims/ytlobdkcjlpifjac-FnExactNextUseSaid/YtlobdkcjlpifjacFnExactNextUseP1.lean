/- What the functions that the law reaches do, written as plain Lean. No statement is proved here. -/
import Derived.Test.YtlobdkcjlpifjacFnExactNextUseP0
namespace Go.Ev
set_option linter.unusedVariables false
open Go
def L0_impl_ValidTrace (t0 : List Int) (xt9 : Int) (k : Bool → Prop) : Nat → Int → Prop
  | 0, _ => False
  | n + 1, xt10 => T0_impl_ValidTrace t0 xt9 xt10 k (L0_impl_ValidTrace t0 xt9 k n)
def G_impl_ValidTrace (t0 : List Int) (k : Bool → Prop) (I0 : List Int → Int → Int → Prop) : Prop :=
  br (decide ((t0.length : Int) > 24))
  (k false)
  (I0 t0 (t0.length : Int) 0)
def S_impl_ValidTrace (t0 : List Int) (k : Bool → Prop) : Prop := G_impl_ValidTrace t0 k (fun t0 xt9 xt10 => ∃ j, L0_impl_ValidTrace t0 xt9 k j xt10)
def F_impl_ValidTrace (t : List Int) (k : Bool → Prop) : Prop := ∀ b : Bool, (b = true ↔ VTrace t) → k b
theorem F_impl_ValidTrace_S {t : List Int} {k : Bool → Prop} (h : F_impl_ValidTrace t k) : S_impl_ValidTrace t k := by
  have hno : ¬ VTrace t → k false := fun hv => h false (by simp [hv])
  have key : t.length ≤ 24 → ∀ (r : List Int) (i : Nat), t.drop i = r → (∀ x ∈ t.take i, 0 ≤ x ∧ x ≤ 31) → L0_impl_ValidTrace t (t.length : Int) k (r.length + 1) (i : Int) := by
    intro hl r
    induction r with
    | nil =>
      intro i hd he
      have := drop_nil' hd
      rw [List.take_of_length_le this] at he
      rw [L0_impl_ValidTrace, T0_impl_ValidTrace]
      simp only [br_dec]
      exact ⟨fun h => by omega, fun _ => h true (by simp only [true_iff]; exact ⟨hl, he⟩)⟩
    | cons x r ih =>
      intro i hd he
      obtain ⟨h1, h2, h5, h3, h4⟩ := drop_cons' hd
      rw [List.length_cons, L0_impl_ValidTrace, T0_impl_ValidTrace]
      simp only [br_dec, F_impl_validKey, Int.toNat_natCast, h2, br_not]
      refine ⟨fun _ => ⟨⟨by omega, by omega⟩, fun hx => ⟨inR (by omega) (by omega), ih (i + 1) h3 ?_⟩, fun hx => hno fun v => hx (v.2 x (List.mem_of_getElem? h5))⟩, fun h => by omega⟩
      rw [h4]; intro y hy
      rcases List.mem_append.1 hy with hy | hy
      · exact he y hy
      · simp at hy; subst hy; exact hx
  exact br_dec.2 ⟨fun h3 => hno fun v => by have := v.1; omega, fun h3 => ⟨_, key (by omega) t 0 rfl (by simp)⟩⟩
-- impl.validPlace
def G_impl_validPlace (t0 : List Int) (place1 : Int) (k : Bool → Prop) : Prop :=
  br (decide (0 ≤ place1))
  (k (decide (place1 ≤ (t0.length : Int))))
  (k false)
def S_impl_validPlace (t0 : List Int) (place1 : Int) (k : Bool → Prop) : Prop := G_impl_validPlace t0 place1 k
def F_impl_validPlace (t : List Int) (p : Int) (k : Bool → Prop) : Prop := k (decide (0 ≤ p ∧ p ≤ t.length))
theorem F_impl_validPlace_S {t : List Int} {p : Int} {k : Bool → Prop} (h : F_impl_validPlace t p k) : S_impl_validPlace t p k := by
  unfold F_impl_validPlace at h
  simp only [S_impl_validPlace, G_impl_validPlace, br_dec]
  refine ⟨fun h1 => ?_, fun h1 => ?_⟩
  · simpa [h1] using h
  · simpa [h1] using h
-- slices.Index[[]int,int]
def T0_slices_Index_sint_int (s0 : List Int) (v1 : Int) (xt7 : Int) (xt8 : Int) (k : Int → Prop) (B0 : Int → Prop) : Prop :=
  br (decide (xt8 < xt7))
  ((0 ≤ xt8 ∧ xt8 < (s0.length : Int)) ∧
    br (v1 == (List.getD s0 (Int.toNat xt8) (0 : Int)))
    (k xt8)
    (InR (xt8 + 1) ∧
      B0 (xt8 + 1)))
  (k (-1))
def L0_slices_Index_sint_int (s0 : List Int) (v1 : Int) (xt7 : Int) (k : Int → Prop) : Nat → Int → Prop
  | 0, _ => False
  | n + 1, xt8 => T0_slices_Index_sint_int s0 v1 xt7 xt8 k (L0_slices_Index_sint_int s0 v1 xt7 k n)
def G_slices_Index_sint_int (s0 : List Int) (v1 : Int) (I0 : List Int → Int → Int → Int → Prop) : Prop :=
  I0 s0 v1 (s0.length : Int) 0
def S_slices_Index_sint_int (s0 : List Int) (v1 : Int) (k : Int → Prop) : Prop := G_slices_Index_sint_int s0 v1 (fun s0 v1 xt7 xt8 => ∃ j, L0_slices_Index_sint_int s0 v1 xt7 k j xt8)
def F_slices_Index_sint_int (l : List Int) (n : Int) (k : Int → Prop) : Prop := l.length ≤ 1000000000 ∧ k (plc l n)
theorem F_slices_Index_sint_int_S {l : List Int} {n : Int} {k : Int → Prop} (h : F_slices_Index_sint_int l n k) : S_slices_Index_sint_int l n k := by
  obtain ⟨hl, hk⟩ := h
  have key : ∀ (r : List Int) (i : Nat), l.drop i = r → plcF r n i = plc l n → L0_slices_Index_sint_int l n (l.length : Int) k (r.length + 1) (i : Int) := by
    intro r
    induction r with
    | nil =>
      intro i hd he
      have := drop_nil' hd
      rw [L0_slices_Index_sint_int, T0_slices_Index_sint_int]
      simp only [br_dec]
      exact ⟨fun h => by omega, fun _ => by rw [show (-1 : Int) = plc l n from he]; exact hk⟩
    | cons x r ih =>
      intro i hd he
      obtain ⟨h1, h2, _, h3, _⟩ := drop_cons' hd
      rw [List.length_cons, L0_slices_Index_sint_int, T0_slices_Index_sint_int]
      simp only [br_dec, br_beq, Int.toNat_natCast, h2]
      refine ⟨fun _ => ⟨⟨by omega, by omega⟩, fun hx => ?_, fun hx => ⟨inR (by omega) (by omega), ?_⟩⟩, fun h => by omega⟩
      · simp only [plcF, if_pos hx.symm] at he; rw [he]; exact hk
      · simp only [plcF, if_neg (Ne.symm hx)] at he; exact ih (i + 1) h3 he
  exact ⟨_, key l 0 rfl rfl⟩
-- impl.NextUse
def G_impl_NextUse (t0 : List Int) (from1 : Int) (key2 : Int) (k : Int → Prop) : Prop :=
  F_impl_ValidTrace t0 fun validTrace9 =>
  br (!validTrace9)
  (k (-1))
  (F_impl_validPlace t0 from1 fun validPlace14 =>
    br (!validPlace14)
    (k (-1))
    (F_impl_validKey key2 fun validKey19 =>
      br (!validKey19)
      (k (-1))
      ((0 ≤ from1 ∧ from1 ≤ (t0.length : Int)) ∧
        F_slices_Index_sint_int (List.drop (Int.toNat from1) t0) key2 fun index26 =>
        br (decide (index26 ≥ 0))
        (InR (from1 + index26) ∧
          k (from1 + index26))
        (k (t0.length : Int)))))
def S_impl_NextUse (t0 : List Int) (from1 : Int) (key2 : Int) (k : Int → Prop) : Prop := G_impl_NextUse t0 from1 key2 k
def F_impl_NextUse (t : List Int) (i : Int) (key : Int) (k : Int → Prop) : Prop := (VTrace t ∧ (0 ≤ i ∧ i ≤ t.length) ∧ 0 ≤ key ∧ key ≤ 31 → k (nextM t i key)) ∧ (¬ (VTrace t ∧ (0 ≤ i ∧ i ≤ t.length) ∧ 0 ≤ key ∧ key ≤ 31) → k (-1))
theorem F_impl_NextUse_S {t : List Int} {i : Int} {key : Int} {k : Int → Prop} (h : F_impl_NextUse t i key k) : S_impl_NextUse t i key k := by
  obtain ⟨hyes, hno⟩ := h
  intro b hb
  refine br_not.2 (br_iff.2 ⟨fun e => ?_, fun e => hno fun w => by rw [hb.2 w.1] at e; cases e⟩)
  have v := hb.1 e
  have hl := v.1
  refine br_not.2 (br_dec.2 ⟨fun hi => br_not.2 (br_dec.2 ⟨fun hkey => ?_, fun hkey => hno fun w => hkey w.2.2⟩), fun hi => hno fun w => hi w.2.1⟩)
  have hk := hyes ⟨v, hi, hkey⟩
  have hd : (t.drop i.toNat).length = t.length - i.toNat := List.length_drop
  refine ⟨hi, by omega, br_dec.2 ⟨fun hm => ?_, fun hm => ?_⟩⟩
  · have := plc_nxt (plc_ge.1 hm)
    have := nxt_le key (t.drop i.toNat)
    rw [show nextM t i key = i + plc (t.drop i.toNat) key by unfold nextM; omega] at hk
    exact ⟨inR (by omega) (by omega), hk⟩
  · have := nxt_out (fun c => hm (plc_ge.2 c))
    rw [show nextM t i key = (t.length : Int) by unfold nextM; omega] at hk
    exact hk
-- laws.eqIntS
def T0_laws_eqIntS (a0 : List Int) (b1 : List Int) (xi5 : Int) (k : Bool → Prop) (B0 : Int → Prop) : Prop :=
  br (decide (xi5 < (a0.length : Int)))
  ((0 ≤ xi5 ∧ xi5 < (a0.length : Int)) ∧
    (0 ≤ xi5 ∧ xi5 < (b1.length : Int)) ∧
    br ((List.getD a0 (Int.toNat xi5) (0 : Int)) != (List.getD b1 (Int.toNat xi5) (0 : Int)))
    (k false)
    (InR (xi5 + 1) ∧
      B0 (xi5 + 1)))
  (k true)
def L0_laws_eqIntS (a0 : List Int) (b1 : List Int) (k : Bool → Prop) : Nat → Int → Prop
  | 0, _ => False
  | n + 1, xi5 => T0_laws_eqIntS a0 b1 xi5 k (L0_laws_eqIntS a0 b1 k n)
def G_laws_eqIntS (a0 : List Int) (b1 : List Int) (k : Bool → Prop) (I0 : List Int → List Int → Int → Prop) : Prop :=
  br ((a0.length : Int) != (b1.length : Int))
  (k false)
  (I0 a0 b1 0)
def S_laws_eqIntS (a0 : List Int) (b1 : List Int) (k : Bool → Prop) : Prop := G_laws_eqIntS a0 b1 k (fun a0 b1 xi5 => ∃ j, L0_laws_eqIntS a0 b1 k j xi5)
def F_laws_eqIntS (a b : List Int) (k : Bool → Prop) : Prop := a.length ≤ 1000000000 ∧ k (decide (a = b))
theorem F_laws_eqIntS_S {a b : List Int} {k : Bool → Prop} (h : F_laws_eqIntS a b k) : S_laws_eqIntS a b k := by
  obtain ⟨hl, hk⟩ := h
  refine br_bne.2 ⟨fun he => by rwa [decide_eq_false (fun e => he (by rw [e]))] at hk, fun he => ?_⟩
  have he : a.length = b.length := by omega
  have key : ∀ (r : List Int) (i : Nat), a.drop i = r → (r = b.drop i ↔ a = b) → L0_laws_eqIntS a b k (r.length + 1) (i : Int) := by
    intro r
    induction r with
    | nil =>
      intro i hd hi
      have := drop_nil' hd
      rw [L0_laws_eqIntS, T0_laws_eqIntS]
      simp only [br_dec]
      exact ⟨fun h => by omega, fun _ => by rwa [decide_eq_true (hi.1 (List.drop_eq_nil_of_le (by omega)).symm)] at hk⟩
    | cons x r ih =>
      intro i hd hi
      obtain ⟨h1, h2, _, h3, _⟩ := drop_cons' hd
      obtain ⟨y, s, hs⟩ : ∃ y s, b.drop i = y :: s := by
        cases e : b.drop i with
        | nil => have := drop_nil' e; omega
        | cons y s => exact ⟨y, s, rfl⟩
      obtain ⟨g1, g2, _, g3, _⟩ := drop_cons' hs
      rw [List.length_cons, L0_laws_eqIntS, T0_laws_eqIntS]
      simp only [br_dec, br_bne, Int.toNat_natCast, h2, g2]
      rw [hs] at hi
      refine ⟨fun _ => ⟨⟨by omega, by omega⟩, ⟨by omega, by omega⟩, ?_⟩, fun h => by omega⟩
      have go : x = y → L0_laws_eqIntS a b k (r.length + 1) ((i : Int) + 1) := fun hx => ih (i + 1) h3 (by rw [g3, ← hi, hx]; simp)
      have no : x ≠ y → k false := fun hx => by rwa [decide_eq_false (fun e => hx (List.cons.inj (hi.2 e)).1)] at hk
      exact ⟨no, fun hx => ⟨inR (by omega) (by omega), go hx⟩⟩
  exact ⟨_, key a 0 rfl (by simp)⟩
-- laws.FnExactNextUse
def G_laws_FnExactNextUse (aT0 : List Int) (aFrom1 : Int) (aKey2 : Int) (k : Bool → Prop) : Prop :=
  br (decide ((aT0.length : Int) > 1048576))
  (k true)
  (F_laws_toIntS aT0 fun toIntS14 =>
    F_spec_NextUse toIntS14 aFrom1 aKey2 fun nextUse17 =>
    F_laws_toIntS aT0 fun toIntS19 =>
    F_impl_NextUse toIntS19 aFrom1 aKey2 fun nextUse23 =>
    br (nextUse23 != nextUse17)
    (k false)
    (F_laws_toIntS aT0 fun toIntS29 =>
      F_laws_eqIntS toIntS19 toIntS29 fun eqIntS30 =>
      br (!eqIntS30)
      (k false)
      (k true)))
def S_laws_FnExactNextUse (aT0 : List Int) (aFrom1 : Int) (aKey2 : Int) (k : Bool → Prop) : Prop := G_laws_FnExactNextUse aT0 aFrom1 aKey2 k
abbrev F_laws_FnExactNextUse (aT0 : List Int) (aFrom1 : Int) (aKey2 : Int) (k : Bool → Prop) : Prop := S_laws_FnExactNextUse aT0 aFrom1 aKey2 k
theorem F_laws_FnExactNextUse_S {aT0 : List Int} {aFrom1 : Int} {aKey2 : Int} {k : Bool → Prop} (h : F_laws_FnExactNextUse aT0 aFrom1 aKey2 k) : S_laws_FnExactNextUse aT0 aFrom1 aKey2 k := h
theorem law_FnExactNextUse (t : List Int) (lt : t.length ≤ maxLen) (rt : ∀ x ∈ t, InR x) (from_ : Int) (rfrom_ : InR from_) (key : Int) (rkey : InR key) :
    F_laws_FnExactNextUse t from_ key (fun r => r = true) := by
  refine br_dec.2 ⟨fun _ => rfl, fun t0 => ?_⟩
  have mt : t.length ≤ 1000000000 := by omega
  by_cases v : VTrace t ∧ (0 ≤ from_ ∧ from_ ≤ t.length) ∧ 0 ≤ key ∧ key ≤ 31
  · exact ⟨mt, ⟨fun _ => ⟨mt, ⟨fun _ => br_same' (⟨mt, mt, br_de (rfl)⟩), fun h => absurd v h⟩⟩, fun h => absurd v h⟩⟩
  · exact ⟨mt, ⟨fun h => absurd h v, fun _ => ⟨mt, ⟨fun h => absurd h v, fun _ => br_same' (⟨mt, mt, br_de (rfl)⟩)⟩⟩⟩⟩
end Go.Ev
