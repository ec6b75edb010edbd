/- What the functions that the law reaches do, written as plain Lean. No statement is proved here. -/
import Derived.Test.YtlobdkcjlpifjacFnNextUseNeverP0
namespace Go.Ev
set_option linter.unusedVariables false
open Go
def F_spec_allIn (l : List Int) (low high : Int) (k : Bool → Prop) : Prop := l.length ≤ 1000000000 ∧ k (decide (∀ x ∈ l, low ≤ x ∧ x ≤ high))
theorem F_spec_allIn_S {l : List Int} {low high : Int} {k : Bool → Prop} (h : F_spec_allIn l low high k) : S_spec_allIn l low high k := by
  obtain ⟨hl, hk⟩ := h
  have key : ∀ (r : List Int) (i : Nat), l.drop i = r → ((∀ x ∈ r, low ≤ x ∧ x ≤ high) ↔ (∀ x ∈ l, low ≤ x ∧ x ≤ high)) → L0_spec_allIn high l low k (r.length + 1) (i : Int) := by
    intro r
    induction r with
    | nil =>
      intro i hd he
      have := drop_nil' hd
      rw [L0_spec_allIn, T0_spec_allIn]
      simp only [br_dec]
      refine ⟨fun h => by omega, fun _ => ?_⟩
      rwa [decide_eq_true (he.1 (by simp))] at hk
    | cons x r ih =>
      intro i hd he
      obtain ⟨h1, h2, _, h3, _⟩ := drop_cons' hd
      rw [List.length_cons, L0_spec_allIn, T0_spec_allIn]
      simp only [br_dec, F_spec_inRange, br_not, Int.toNat_natCast, h2]
      refine ⟨fun _ => ⟨⟨by omega, by omega⟩, fun hx => ⟨inR (by omega) (by omega), ?_⟩, fun hx => ?_⟩, fun h => by omega⟩
      · refine ih (i + 1) h3 (Iff.trans ?_ he)
        simp only [List.mem_cons, forall_eq_or_imp]
        exact ⟨fun h => ⟨hx, h⟩, fun h => h.2⟩
      · rwa [decide_eq_false (fun h => hx (he.2 h x (by simp)))] at hk
  exact ⟨_, key l 0 rfl Iff.rfl⟩
-- spec.validTrace
def G_spec_validTrace (t0 : List Int) (k : Bool → Prop) : Prop :=
  br (decide ((t0.length : Int) ≤ 24))
  (F_spec_allIn t0 (0 : Int) (31 : Int) fun allIn8 =>
    k allIn8)
  (k false)
def S_spec_validTrace (t0 : List Int) (k : Bool → Prop) : Prop := G_spec_validTrace t0 k
def F_spec_validTrace (t : List Int) (k : Bool → Prop) : Prop := ∀ b : Bool, (b = true ↔ VTrace t) → k b
theorem F_spec_validTrace_S {t : List Int} {k : Bool → Prop} (h : F_spec_validTrace t k) : S_spec_validTrace t k :=
  br_dec.2 ⟨fun h1 => ⟨by omega, h _ (by simp only [decide_eq_true_eq]; exact ⟨fun h2 => ⟨by omega, h2⟩, fun v => v.2⟩)⟩, fun h1 => h false (by simp only [Bool.false_eq_true, false_iff]; exact fun v => h1 (by have := v.1; omega))⟩
-- spec.nextUse
def T0_spec_nextUse (key2 : Int) (t0 : List Int) (xi7 : Int) (k : Int → Prop) (B0 : Int → Prop) : Prop :=
  br (decide (xi7 < (t0.length : Int)))
  ((0 ≤ xi7 ∧ xi7 < (t0.length : Int)) ∧
    br ((List.getD t0 (Int.toNat xi7) (0 : Int)) == key2)
    (k xi7)
    (InR (xi7 + 1) ∧
      B0 (xi7 + 1)))
  (k (t0.length : Int))
def L0_spec_nextUse (key2 : Int) (t0 : List Int) (k : Int → Prop) : Nat → Int → Prop
  | 0, _ => False
  | n + 1, xi7 => T0_spec_nextUse key2 t0 xi7 k (L0_spec_nextUse key2 t0 k n)
def G_spec_nextUse (t0 : List Int) (from1 : Int) (key2 : Int) (I0 : Int → List Int → Int → Prop) : Prop :=
  I0 key2 t0 from1
def S_spec_nextUse (t0 : List Int) (from1 : Int) (key2 : Int) (k : Int → Prop) : Prop := G_spec_nextUse t0 from1 key2 (fun key2 t0 xi7 => ∃ j, L0_spec_nextUse key2 t0 k j xi7)
def F_spec_nextUse (t : List Int) (i key : Int) (k : Int → Prop) : Prop := (0 ≤ i ∧ i ≤ t.length ∧ t.length ≤ 1000000000) ∧ k (nextM t i key)
theorem F_spec_nextUse_S {t : List Int} {i key : Int} {k : Int → Prop} (h : F_spec_nextUse t i key k) : S_spec_nextUse t i key k := by
  obtain ⟨⟨h0, h1, h2⟩, hk⟩ := h
  have go : ∀ (m j : Nat), j + m = t.length → (j : Int) + (nxt key (t.drop j) : Int) = nextM t i key → L0_spec_nextUse key t k (m + 1) (j : Int) := by
    intro m
    induction m with
    | zero =>
      intro j hj he
      rw [L0_spec_nextUse, T0_spec_nextUse]
      refine br_dec.2 ⟨fun h => by omega, fun _ => ?_⟩
      rw [List.drop_of_length_le (by omega)] at he
      simp only [nxt] at he
      rw [show (t.length : Int) = nextM t i key by omega]; exact hk
    | succ m ih =>
      intro j hj he
      rw [nxt_drop (by omega)] at he
      rw [L0_spec_nextUse, T0_spec_nextUse]
      simp only [br_dec, br_beq, Int.toNat_natCast]
      refine ⟨fun _ => ⟨⟨by omega, by omega⟩, fun e => ?_, fun e => ⟨inR (by omega) (by omega), ?_⟩⟩, fun h => by omega⟩
      · rw [if_pos e] at he
        rw [show (j : Int) = nextM t i key by omega]; exact hk
      · rw [if_neg e] at he
        exact ih (j + 1) (by omega) (by omega)
  have := go (t.length - i.toNat) i.toNat (by omega) (by unfold nextM; omega)
  rw [Int.toNat_of_nonneg h0] at this
  exact ⟨_, this⟩
-- spec.NextUse
def G_spec_NextUse (t0 : List Int) (from1 : Int) (key2 : Int) (k : Int → Prop) : Prop :=
  F_spec_validTrace t0 fun validTrace8 =>
  br (!validTrace8)
  (k (-1))
  (F_spec_inRange from1 (0 : Int) (t0.length : Int) fun inRange14 =>
    br (!inRange14)
    (k (-1))
    (F_spec_inRange key2 (0 : Int) (31 : Int) fun inRange19 =>
      br (!inRange19)
      (k (-1))
      (F_spec_nextUse t0 from1 key2 fun nextUse25 =>
        k nextUse25)))
def S_spec_NextUse (t0 : List Int) (from1 : Int) (key2 : Int) (k : Int → Prop) : Prop := G_spec_NextUse t0 from1 key2 k
def F_spec_NextUse (t : List Int) (i : Int) (key : Int) (k : Int → Prop) : Prop := (VTrace t ∧ (0 ≤ i ∧ i ≤ t.length) ∧ 0 ≤ key ∧ key ≤ 31 → k (nextM t i key)) ∧ (¬ (VTrace t ∧ (0 ≤ i ∧ i ≤ t.length) ∧ 0 ≤ key ∧ key ≤ 31) → k (-1))
theorem F_spec_NextUse_S {t : List Int} {i : Int} {key : Int} {k : Int → Prop} (h : F_spec_NextUse t i key k) : S_spec_NextUse t i key k := by
  obtain ⟨hyes, hno⟩ := h
  intro b hb
  refine br_not.2 (br_iff.2 ⟨fun e => ?_, fun e => hno fun w => by rw [hb.2 w.1] at e; cases e⟩)
  have v := hb.1 e
  refine br_not.2 (br_dec.2 ⟨fun hi => br_not.2 (br_dec.2 ⟨fun hkey => ⟨⟨by omega, by omega, by have := v.1; omega⟩, hyes ⟨v, hi, hkey⟩⟩, fun hkey => hno fun w => hkey w.2.2⟩), fun hi => hno fun w => hi w.2.1⟩)
-- laws.isIn
def T0_laws_isIn (list0 : List Int) (n1 : Int) (xi5 : Int) (k : Bool → Prop) (B0 : Int → Prop) : Prop :=
  br (decide (xi5 < (list0.length : Int)))
  ((0 ≤ xi5 ∧ xi5 < (list0.length : Int)) ∧
    br ((List.getD list0 (Int.toNat xi5) (0 : Int)) == n1)
    (k true)
    (InR (xi5 + 1) ∧
      B0 (xi5 + 1)))
  (k false)
def L0_laws_isIn (list0 : List Int) (n1 : Int) (k : Bool → Prop) : Nat → Int → Prop
  | 0, _ => False
  | n + 1, xi5 => T0_laws_isIn list0 n1 xi5 k (L0_laws_isIn list0 n1 k n)
def G_laws_isIn (list0 : List Int) (n1 : Int) (I0 : List Int → Int → Int → Prop) : Prop :=
  I0 list0 n1 0
def S_laws_isIn (list0 : List Int) (n1 : Int) (k : Bool → Prop) : Prop := G_laws_isIn list0 n1 (fun list0 n1 xi5 => ∃ j, L0_laws_isIn list0 n1 k j xi5)
def F_laws_isIn (l : List Int) (n : Int) (k : Bool → Prop) : Prop := l.length ≤ 1000000000 ∧ k (decide (n ∈ l))
theorem F_laws_isIn_S {l : List Int} {n : Int} {k : Bool → Prop} (h : F_laws_isIn l n k) : S_laws_isIn l n k := by
  obtain ⟨hl, hk⟩ := h
  have key : ∀ (r : List Int) (i : Nat), l.drop i = r → (n ∈ r ↔ n ∈ l) → L0_laws_isIn l n k (r.length + 1) (i : Int) := by
    intro r
    induction r with
    | nil =>
      intro i hd he
      have := drop_nil' hd
      rw [L0_laws_isIn, T0_laws_isIn]
      simp only [br_dec]
      exact ⟨fun h => by omega, fun _ => by rwa [decide_eq_false (fun h => absurd (he.2 h) (by simp))] at hk⟩
    | cons x r ih =>
      intro i hd he
      obtain ⟨h1, h2, h5, h3, _⟩ := drop_cons' hd
      rw [List.length_cons, L0_laws_isIn, T0_laws_isIn]
      simp only [br_dec, br_beq, Int.toNat_natCast, h2]
      refine ⟨fun _ => ⟨⟨by omega, by omega⟩, fun hx => ?_, fun hx => ⟨inR (by omega) (by omega), ih (i + 1) h3 (Iff.trans ?_ he)⟩⟩, fun h => by omega⟩
      · rwa [decide_eq_true (he.1 (by simp [hx]))] at hk
      · simp [Ne.symm hx]
  exact ⟨_, key l 0 rfl Iff.rfl⟩
-- laws.FnNextUseNever
def G_laws_FnNextUseNever (code0 : List Int) (k : Bool → Prop) : Prop :=
  br (decide ((code0.length : Int) > 1048576))
  (k true)
  (F_spec_DrawNextUse code0 fun drawNextUse12r0 drawNextUse12r1 drawNextUse12r2 =>
    F_impl_NextUse drawNextUse12r0 drawNextUse12r1 drawNextUse12r2 fun nextUse19 =>
    F_spec_NextUse drawNextUse12r0 drawNextUse12r1 drawNextUse12r2 fun nextUse24 =>
    br (nextUse19 != nextUse24)
    (F_spec_NextUse drawNextUse12r0 drawNextUse12r1 drawNextUse12r2 fun nextUse34 =>
      k (nextUse19 == nextUse34))
    (br (decide (nextUse19 < 0))
      (F_spec_NextUse drawNextUse12r0 drawNextUse12r1 drawNextUse12r2 fun nextUse34 =>
        k (nextUse19 == nextUse34))
      ((0 ≤ drawNextUse12r1 ∧ drawNextUse12r1 ≤ (drawNextUse12r0.length : Int)) ∧
        F_laws_isIn (List.take (drawNextUse12r0.length - (Int.toNat drawNextUse12r1)) (List.drop (Int.toNat drawNextUse12r1) drawNextUse12r0)) drawNextUse12r2 fun isIn40 =>
        br isIn40
        (F_impl_NextUse drawNextUse12r0 (drawNextUse12r0.length : Int) drawNextUse12r2 fun nextUse52 =>
          k (nextUse52 == (drawNextUse12r0.length : Int)))
        (br (nextUse19 == (drawNextUse12r0.length : Int))
          (F_impl_NextUse drawNextUse12r0 (drawNextUse12r0.length : Int) drawNextUse12r2 fun nextUse52 =>
            k (nextUse52 == (drawNextUse12r0.length : Int)))
          (k false)))))
def S_laws_FnNextUseNever (code0 : List Int) (k : Bool → Prop) : Prop := G_laws_FnNextUseNever code0 k
abbrev F_laws_FnNextUseNever (code0 : List Int) (k : Bool → Prop) : Prop := S_laws_FnNextUseNever code0 k
theorem F_laws_FnNextUseNever_S {code0 : List Int} {k : Bool → Prop} (h : F_laws_FnNextUseNever code0 k) : S_laws_FnNextUseNever code0 k := h
theorem law_FnNextUseNever (code : List Int) (hb : ∀ x ∈ code, 0 ≤ x ∧ x ≤ 255) : F_laws_FnNextUseNever code (fun r => r = true) := by
  refine br_dec.2 ⟨fun _ => rfl, fun hlen => ⟨hb, fun t i key l1 i1 i2 => ?_⟩⟩
  by_cases v : VTrace t ∧ (0 ≤ i ∧ i ≤ t.length) ∧ 0 ≤ key ∧ key ≤ 31
  · have hi := v.2.1
    have hl : (t.drop i.toNat).length = t.length - i.toNat := List.length_drop
    have fin : F_impl_NextUse t (t.length : Int) key fun n => ((n == (t.length : Int)) = true) := yes ⟨v.1, by omega, v.2.2⟩ (beq_t (by
      unfold nextM
      rw [List.drop_of_length_le (by omega)]; simp [nxt]))
    refine yes v (yes v (br_same' (br_nd (by unfold nextM; omega) ⟨hi, ?_⟩)))
    rw [List.take_of_length_le (by omega)]
    refine ⟨by omega, br_dec.2 ⟨fun _ => fin, fun hm => br_ye ?_ fin⟩⟩
    unfold nextM
    rw [nxt_out hm]; omega
  · exact nay v (nay v (br_same' (br_yd (by omega) (nay v rfl))))
end Go.Ev
