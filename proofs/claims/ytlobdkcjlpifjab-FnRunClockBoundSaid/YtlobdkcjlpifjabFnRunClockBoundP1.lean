/- What the functions that the law reaches do, written as plain Lean. No statement is proved here. -/
import Derived.Test.YtlobdkcjlpifjabFnRunClockBoundP0
namespace Go.Ev
set_option linter.unusedVariables false
open Go
def F_spec_reader_spoil (b : List Int) (p : Int) (l : List Int) (n : Int) (k : List Int → List Int → Int → Prop) : Prop :=
  (Bs b ∧ 0 ≤ p ∧ p ≤ 100000000 ∧ l.length ≤ 100000000) ∧ ∀ r p', r.length ≤ l.length + 1 → p ≤ p' → p' ≤ p + 10 → k r b p'
theorem F_spec_reader_spoil_S {b : List Int} {p : Int} {l : List Int} {n : Int} {k : List Int → List Int → Int → Prop} (h : F_spec_reader_spoil b p l n k) : S_spec_reader_spoil b p l n k := by
  obtain ⟨⟨hb, h0, h1, h2⟩, hk⟩ := h
  refine ⟨by omega, ⟨hb, h0, by omega⟩, fun x hx => br_beq.2 ⟨fun _ => ⟨by omega, hk _ _ (by simp) (by omega) (by omega)⟩, fun _ => br_beq.2 ⟨fun _ => br_dec.2 ⟨fun h3 => ⟨⟨by omega, by omega⟩, hk _ _ (by simp; omega) (by omega) (by omega)⟩, fun _ => hk _ _ (by omega) (by omega) (by omega)⟩, fun _ => br_beq.2 ⟨fun _ => br_dec.2 ⟨fun h3 => ?_, fun _ => hk _ _ (by omega) (by omega) (by omega)⟩, fun _ => hk _ _ (by omega) (by omega) (by omega)⟩⟩⟩⟩
  refine ⟨⟨hb, by omega, by omega⟩, fun y hy => ⟨⟨hb, by omega, by omega, by simp⟩, fun z hz => ⟨?_, hk _ _ (by simp) (by omega) (by omega)⟩⟩⟩
  rcases hy with ⟨h4, _⟩ | h4
  · omega
  · exact h4
-- spec.someTrace
def T0_spec_someTrace (one10 : Int) (xn5 : Int) (xb100000c0 : List Int) (xb100000c1 : Int) (xout3 : List Int) (k : List Int → List Int → Int → Prop) (B0 : Int → List Int → Int → List Int → Prop) : Prop :=
  br (decide (xn5 > 0))
  (F_spec_reader_pick xb100000c0 xb100000c1 one10 fun pick20 opick20b opick20p =>
    br (decide ((xout3.length : Int) > 0))
    (F_spec_reader_pick opick20b opick20p (6 : Int) fun pick26 opick26b opick26p =>
      br (pick26 == 0)
      (InR ((xout3.length : Int) - 1) ∧
        (0 ≤ ((xout3.length : Int) - 1) ∧ ((xout3.length : Int) - 1) < (xout3.length : Int)) ∧
        (xout3.length + 1 ≤ 1000000000) ∧
        InR (xn5 - 1) ∧
        B0 (xn5 - 1) opick26b opick26p (xout3 ++ ([(List.getD xout3 (Int.toNat ((xout3.length : Int) - 1)) (0 : Int))] : List Int)))
      ((xout3.length + 1 ≤ 1000000000) ∧
        InR (xn5 - 1) ∧
        B0 (xn5 - 1) opick26b opick26p (xout3 ++ ([pick20] : List Int))))
    ((xout3.length + 1 ≤ 1000000000) ∧
      InR (xn5 - 1) ∧
      B0 (xn5 - 1) opick20b opick20p (xout3 ++ ([pick20] : List Int))))
  (F_spec_reader_pick xb100000c0 xb100000c1 (24 : Int) fun pick40 opick40b opick40p =>
    br (pick40 == 0)
    ((xout3.length + 1 ≤ 1000000000) ∧
      F_spec_reader_spoil opick40b opick40p (xout3 ++ ([3] : List Int)) (32 : Int) fun spoil47 ospoil47b ospoil47p =>
      k spoil47 ospoil47b ospoil47p)
    (br (pick40 == 1)
      ((xout3.length + xout3.length ≤ 1000000000) ∧
        ((List.length (xout3 ++ xout3)) + 1 ≤ 1000000000) ∧
        k ((xout3 ++ xout3) ++ ([1] : List Int)) opick40b opick40p)
      (k xout3 opick40b opick40p)))
def L0_spec_someTrace (one10 : Int) (k : List Int → List Int → Int → Prop) : Nat → Int → List Int → Int → List Int → Prop
  | 0, _, _, _, _ => False
  | n + 1, xn5, xb100000c0, xb100000c1, xout3 => T0_spec_someTrace one10 xn5 xb100000c0 xb100000c1 xout3 k (L0_spec_someTrace one10 k n)
def G_spec_someTrace (r0b : List Int) (r0p : Int) (I0 : Int → Int → List Int → Int → List Int → Prop) : Prop :=
  F_spec_reader_one r0b r0p ([4, 6, 3, 10, 2, 32] : List Int) fun one10 oone10b oone10p =>
  F_spec_reader_one oone10b oone10p ([8, 12, 16, 20, 24, 3, 1, 0] : List Int) fun one13 oone13b oone13p =>
  I0 one10 one13 oone13b oone13p ([] : List Int)
def S_spec_someTrace (r0b : List Int) (r0p : Int) (k : List Int → List Int → Int → Prop) : Prop := G_spec_someTrace r0b r0p (fun one10 xn5 xb100000c0 xb100000c1 xout3 => ∃ j, L0_spec_someTrace one10 k j xn5 xb100000c0 xb100000c1 xout3)
def F_spec_someTrace (b : List Int) (p : Int) (k : List Int → List Int → Int → Prop) : Prop :=
  (Bs b ∧ 0 ≤ p ∧ p ≤ 10000000) ∧ ∀ t p', t.length ≤ 100 → p ≤ p' → p' ≤ p + 200 → k t b p'
theorem F_spec_someTrace_S {b : List Int} {p : Int} {k : List Int → List Int → Int → Prop} (h : F_spec_someTrace b p k) : S_spec_someTrace b p k := by
  obtain ⟨⟨hb, h0, h1⟩, hk⟩ := h
  refine ⟨⟨hb, by omega, by omega, by simp⟩, fun many hm => ⟨⟨hb, by omega, by omega, by simp⟩, fun n hn => ?_⟩⟩
  have key : ∀ (d : Nat) (q : Int) (out : List Int), out.length + d ≤ 30 → p ≤ q → q + 2 * d ≤ p + 80 → L0_spec_someTrace many k (d + 1) (d : Int) b q out := by
    intro d
    induction d with
    | zero =>
      intro q out g0 g1 g2
      rw [L0_spec_someTrace, T0_spec_someTrace]
      refine br_dec.2 ⟨fun h => by omega, fun _ => ⟨⟨hb, by omega, by omega⟩, fun x hx => br_beq.2 ⟨fun _ => ⟨by omega, ⟨hb, by omega, by omega, by simp; omega⟩, fun r p' r1 r2 r3 => hk _ _ (by simp at r1; omega) (by omega) (by omega)⟩, fun _ => br_beq.2 ⟨fun _ => ⟨by omega, by simp; omega, hk _ _ (by simp; omega) (by omega) (by omega)⟩, fun _ => hk _ _ (by omega) (by omega) (by omega)⟩⟩⟩⟩
    | succ d ih =>
      intro q out g0 g1 g2
      rw [L0_spec_someTrace, T0_spec_someTrace]
      have e : ((d + 1 : Nat) : Int) - 1 = (d : Int) := by omega
      refine br_dec.2 ⟨fun _ => ⟨⟨hb, by omega, by omega⟩, fun x hx => br_dec.2 ⟨fun _ => ⟨⟨hb, by omega, by omega⟩, fun y hy => br_beq.2 ⟨fun _ => ⟨inR (by omega) (by omega), ⟨by omega, by omega⟩, by omega, inR (by omega) (by omega), ?_⟩, fun _ => ⟨by omega, inR (by omega) (by omega), ?_⟩⟩⟩, fun _ => ⟨by omega, inR (by omega) (by omega), ?_⟩⟩⟩, fun h => by omega⟩
      all_goals
        rw [e]
        exact ih _ _ (by simp; omega) (by omega) (by omega)
  simp only [List.mem_cons, List.not_mem_nil, or_false] at hn
  refine ⟨n.toNat + 1, ?_⟩
  have := key n.toNat (p + 1 + 1) [] (by simp; omega) (by omega) (by omega)
  rwa [Int.toNat_of_nonneg (by omega)] at this
-- spec.someRoom
def G_spec_someRoom (r0b : List Int) (r0p : Int) (k : Int → List Int → Int → Prop) : Prop :=
  F_spec_reader_one r0b r0p ([2, 3, 4, 1, 8, 5, 2, 3, 0, 9] : List Int) fun one5 oone5b oone5p =>
  k one5 oone5b oone5p
def S_spec_someRoom (r0b : List Int) (r0p : Int) (k : Int → List Int → Int → Prop) : Prop := G_spec_someRoom r0b r0p k
abbrev F_spec_someRoom (r0b : List Int) (r0p : Int) (k : Int → List Int → Int → Prop) : Prop := S_spec_someRoom r0b r0p k
theorem F_spec_someRoom_S {r0b : List Int} {r0p : Int} {k : Int → List Int → Int → Prop} (h : F_spec_someRoom r0b r0p k) : S_spec_someRoom r0b r0p k := h
-- spec.DrawRunRecent
def G_spec_DrawRunRecent (code0 : List Int) (k : List Int → Int → Prop) : Prop :=
  F_spec_newReader code0 fun newReader7b newReader7p =>
  F_spec_someTrace newReader7b newReader7p fun someTrace9 osomeTrace9b osomeTrace9p =>
  F_spec_someRoom osomeTrace9b osomeTrace9p fun someRoom12 osomeRoom12b osomeRoom12p =>
  k someTrace9 someRoom12
def S_spec_DrawRunRecent (code0 : List Int) (k : List Int → Int → Prop) : Prop := G_spec_DrawRunRecent code0 k
def F_spec_DrawRunRecent (code : List Int) (k : List Int → Int → Prop) : Prop :=
  (∀ x ∈ code, 0 ≤ x ∧ x ≤ 255) ∧ ∀ t room, t.length ≤ 100 → k t room
theorem F_spec_DrawRunRecent_S {code : List Int} {k : List Int → Int → Prop} (h : F_spec_DrawRunRecent code k) : S_spec_DrawRunRecent code k :=
  ⟨h.1, fun b hb => ⟨⟨hb, by omega, by omega⟩, fun t p' l1 _ _ => ⟨⟨hb, by omega, by omega, by simp⟩, fun r _ => h.2 t r l1⟩⟩⟩
-- spec.DrawRunClock
def G_spec_DrawRunClock (code0 : List Int) (k : List Int → Int → Prop) : Prop :=
  F_spec_DrawRunRecent code0 fun drawRunRecent5r0 drawRunRecent5r1 =>
  k drawRunRecent5r0 drawRunRecent5r1
def S_spec_DrawRunClock (code0 : List Int) (k : List Int → Int → Prop) : Prop := G_spec_DrawRunClock code0 k
def F_spec_DrawRunClock (code : List Int) (k : List Int → Int → Prop) : Prop :=
  (∀ x ∈ code, 0 ≤ x ∧ x ≤ 255) ∧ ∀ t room, t.length ≤ 100 → k t room
theorem F_spec_DrawRunClock_S {code : List Int} {k : List Int → Int → Prop} (h : F_spec_DrawRunClock code k) : S_spec_DrawRunClock code k := h
-- impl.validKey
def G_impl_validKey (key0 : Int) (k : Bool → Prop) : Prop :=
  br (decide (0 ≤ key0))
  (k (decide (key0 ≤ 31)))
  (k false)
def S_impl_validKey (key0 : Int) (k : Bool → Prop) : Prop := G_impl_validKey key0 k
def F_impl_validKey (n : Int) (k : Bool → Prop) : Prop := k (decide (0 ≤ n ∧ n ≤ 31))
theorem F_impl_validKey_S {n : Int} {k : Bool → Prop} (h : F_impl_validKey n k) : S_impl_validKey n k := by
  unfold F_impl_validKey at h
  simp only [S_impl_validKey, G_impl_validKey, br_dec]
  refine ⟨fun h1 => ?_, fun h1 => ?_⟩
  · simpa [h1] using h
  · simpa [h1] using h
-- impl.ValidTrace
def T0_impl_ValidTrace (t0 : List Int) (xt9 : Int) (xt10 : Int) (k : Bool → Prop) (B0 : Int → Prop) : Prop :=
  br (decide (xt10 < xt9))
  ((0 ≤ xt10 ∧ xt10 < (t0.length : Int)) ∧
    F_impl_validKey (List.getD t0 (Int.toNat xt10) (0 : Int)) fun validKey15 =>
    br (!validKey15)
    (k false)
    (InR (xt10 + 1) ∧
      B0 (xt10 + 1)))
  (k true)
def L0_impl_ValidTrace (t0 : List Int) (xt9 : Int) (k : Bool → Prop) : Nat → Int → Prop
  | 0, _ => False
  | n + 1, xt10 => T0_impl_ValidTrace t0 xt9 xt10 k (L0_impl_ValidTrace t0 xt9 k n)
def G_impl_ValidTrace (t0 : List Int) (k : Bool → Prop) (I0 : List Int → Int → Int → Prop) : Prop :=
  br (decide ((t0.length : Int) > 24))
  (k false)
  (I0 t0 (t0.length : Int) 0)
def S_impl_ValidTrace (t0 : List Int) (k : Bool → Prop) : Prop := G_impl_ValidTrace t0 k (fun t0 xt9 xt10 => ∃ j, L0_impl_ValidTrace t0 xt9 k j xt10)
def F_impl_ValidTrace (t : List Int) (k : Bool → Prop) : Prop := ∀ b : Bool, (b = true ↔ VTrace t) → k b
theorem F_impl_ValidTrace_S {t : List Int} {k : Bool → Prop} (h : F_impl_ValidTrace t k) : S_impl_ValidTrace t k := by
  have hno : ¬ VTrace t → k false := fun hv => h false (by simp [hv])
  have key : t.length ≤ 24 → ∀ (r : List Int) (i : Nat), t.drop i = r → (∀ x ∈ t.take i, 0 ≤ x ∧ x ≤ 31) → L0_impl_ValidTrace t (t.length : Int) k (r.length + 1) (i : Int) := by
    intro hl r
    induction r with
    | nil =>
      intro i hd he
      have := drop_nil' hd
      rw [List.take_of_length_le this] at he
      rw [L0_impl_ValidTrace, T0_impl_ValidTrace]
      simp only [br_dec]
      exact ⟨fun h => by omega, fun _ => h true (by simp only [true_iff]; exact ⟨hl, he⟩)⟩
    | cons x r ih =>
      intro i hd he
      obtain ⟨h1, h2, h5, h3, h4⟩ := drop_cons' hd
      rw [List.length_cons, L0_impl_ValidTrace, T0_impl_ValidTrace]
      simp only [br_dec, F_impl_validKey, Int.toNat_natCast, h2, br_not]
      refine ⟨fun _ => ⟨⟨by omega, by omega⟩, fun hx => ⟨inR (by omega) (by omega), ih (i + 1) h3 ?_⟩, fun hx => hno fun v => hx (v.2 x (List.mem_of_getElem? h5))⟩, fun h => by omega⟩
      rw [h4]; intro y hy
      rcases List.mem_append.1 hy with hy | hy
      · exact he y hy
      · simp at hy; subst hy; exact hx
  exact br_dec.2 ⟨fun h3 => hno fun v => by have := v.1; omega, fun h3 => ⟨_, key (by omega) t 0 rfl (by simp)⟩⟩
-- impl.validRoom
def G_impl_validRoom (room0 : Int) (k : Bool → Prop) : Prop :=
  br (decide (1 ≤ room0))
  (k (decide (room0 ≤ 8)))
  (k false)
def S_impl_validRoom (room0 : Int) (k : Bool → Prop) : Prop := G_impl_validRoom room0 k
def F_impl_validRoom (n : Int) (k : Bool → Prop) : Prop := k (decide (1 ≤ n ∧ n ≤ 8))
theorem F_impl_validRoom_S {n : Int} {k : Bool → Prop} (h : F_impl_validRoom n k) : S_impl_validRoom n k := by
  unfold F_impl_validRoom at h
  simp only [S_impl_validRoom, G_impl_validRoom, br_dec]
  refine ⟨fun h1 => ?_, fun h1 => ?_⟩
  · simpa [h1] using h
  · simpa [h1] using h
-- slices.Index[[]int,int]
def T0_slices_Index_sint_int (s0 : List Int) (v1 : Int) (xt7 : Int) (xt8 : Int) (k : Int → Prop) (B0 : Int → Prop) : Prop :=
  br (decide (xt8 < xt7))
  ((0 ≤ xt8 ∧ xt8 < (s0.length : Int)) ∧
    br (v1 == (List.getD s0 (Int.toNat xt8) (0 : Int)))
    (k xt8)
    (InR (xt8 + 1) ∧
      B0 (xt8 + 1)))
  (k (-1))
def L0_slices_Index_sint_int (s0 : List Int) (v1 : Int) (xt7 : Int) (k : Int → Prop) : Nat → Int → Prop
  | 0, _ => False
  | n + 1, xt8 => T0_slices_Index_sint_int s0 v1 xt7 xt8 k (L0_slices_Index_sint_int s0 v1 xt7 k n)
def G_slices_Index_sint_int (s0 : List Int) (v1 : Int) (I0 : List Int → Int → Int → Int → Prop) : Prop :=
  I0 s0 v1 (s0.length : Int) 0
def S_slices_Index_sint_int (s0 : List Int) (v1 : Int) (k : Int → Prop) : Prop := G_slices_Index_sint_int s0 v1 (fun s0 v1 xt7 xt8 => ∃ j, L0_slices_Index_sint_int s0 v1 xt7 k j xt8)
def F_slices_Index_sint_int (l : List Int) (n : Int) (k : Int → Prop) : Prop := l.length ≤ 1000000000 ∧ k (plc l n)
theorem F_slices_Index_sint_int_S {l : List Int} {n : Int} {k : Int → Prop} (h : F_slices_Index_sint_int l n k) : S_slices_Index_sint_int l n k := by
  obtain ⟨hl, hk⟩ := h
  have key : ∀ (r : List Int) (i : Nat), l.drop i = r → plcF r n i = plc l n → L0_slices_Index_sint_int l n (l.length : Int) k (r.length + 1) (i : Int) := by
    intro r
    induction r with
    | nil =>
      intro i hd he
      have := drop_nil' hd
      rw [L0_slices_Index_sint_int, T0_slices_Index_sint_int]
      simp only [br_dec]
      exact ⟨fun h => by omega, fun _ => by rw [show (-1 : Int) = plc l n from he]; exact hk⟩
    | cons x r ih =>
      intro i hd he
      obtain ⟨h1, h2, _, h3, _⟩ := drop_cons' hd
      rw [List.length_cons, L0_slices_Index_sint_int, T0_slices_Index_sint_int]
      simp only [br_dec, br_beq, Int.toNat_natCast, h2]
      refine ⟨fun _ => ⟨⟨by omega, by omega⟩, fun hx => ?_, fun hx => ⟨inR (by omega) (by omega), ?_⟩⟩, fun h => by omega⟩
      · simp only [plcF, if_pos hx.symm] at he; rw [he]; exact hk
      · simp only [plcF, if_neg (Ne.symm hx)] at he; exact ih (i + 1) h3 he
  exact ⟨_, key l 0 rfl rfl⟩
-- slices.Contains[[]int,int]
def G_slices_Contains_sint_int (s0 : List Int) (v1 : Int) (k : Bool → Prop) : Prop :=
  F_slices_Index_sint_int s0 v1 fun index7 =>
  k (decide (index7 ≥ 0))
def S_slices_Contains_sint_int (s0 : List Int) (v1 : Int) (k : Bool → Prop) : Prop := G_slices_Contains_sint_int s0 v1 k
def F_slices_Contains_sint_int (l : List Int) (n : Int) (k : Bool → Prop) : Prop := l.length ≤ 1000000000 ∧ k (decide (n ∈ l))
theorem F_slices_Contains_sint_int_S {l : List Int} {n : Int} {k : Bool → Prop} (h : F_slices_Contains_sint_int l n k) : S_slices_Contains_sint_int l n k := by
  refine ⟨h.1, ?_⟩
  have : decide (plc l n ≥ 0) = decide (n ∈ l) := decide_eq_decide.2 plc_ge
  show k (decide (plc l n ≥ 0))
  rw [this]; exact h.2
-- impl.differentKeys
def T0_impl_differentKeys (list0 : List Int) (xt6 : Int) (xt7 : Int) (k : Bool → Prop) (B0 : Int → Prop) : Prop :=
  br (decide (xt7 < xt6))
  ((0 ≤ xt7 ∧ xt7 < (list0.length : Int)) ∧
    F_impl_validKey (List.getD list0 (Int.toNat xt7) (0 : Int)) fun validKey13 =>
    br (!validKey13)
    (k false)
    ((0 ≤ xt7 ∧ xt7 ≤ (list0.length : Int)) ∧
      F_slices_Contains_sint_int (List.take (Int.toNat xt7) list0) (List.getD list0 (Int.toNat xt7) (0 : Int)) fun contains20 =>
      br contains20
      (k false)
      (InR (xt7 + 1) ∧
        B0 (xt7 + 1))))
  (k true)
def L0_impl_differentKeys (list0 : List Int) (xt6 : Int) (k : Bool → Prop) : Nat → Int → Prop
  | 0, _ => False
  | n + 1, xt7 => T0_impl_differentKeys list0 xt6 xt7 k (L0_impl_differentKeys list0 xt6 k n)
def G_impl_differentKeys (list0 : List Int) (I0 : List Int → Int → Int → Prop) : Prop :=
  I0 list0 (list0.length : Int) 0
def S_impl_differentKeys (list0 : List Int) (k : Bool → Prop) : Prop := G_impl_differentKeys list0 (fun list0 xt6 xt7 => ∃ j, L0_impl_differentKeys list0 xt6 k j xt7)
def F_impl_differentKeys (l : List Int) (k : Bool → Prop) : Prop := l.length ≤ 1000000000 ∧ ∀ b : Bool, (b = true ↔ (∀ x ∈ l, 0 ≤ x ∧ x ≤ 31) ∧ l.Nodup) → k b
theorem F_impl_differentKeys_S {l : List Int} {k : Bool → Prop} (h : F_impl_differentKeys l k) : S_impl_differentKeys l k := by
  obtain ⟨hl, h⟩ := h
  have hno : ¬ ((∀ x ∈ l, 0 ≤ x ∧ x ≤ 31) ∧ l.Nodup) → k false := fun hv => h false (by simp only [Bool.false_eq_true, false_iff]; exact hv)
  have key : ∀ (r : List Int) (i : Nat), l.drop i = r → (∀ x ∈ l.take i, 0 ≤ x ∧ x ≤ 31) → (l.take i).Nodup → L0_impl_differentKeys l (l.length : Int) k (r.length + 1) (i : Int) := by
    intro r
    induction r with
    | nil =>
      intro i hd he hn
      have := drop_nil' hd
      rw [List.take_of_length_le this] at he hn
      rw [L0_impl_differentKeys, T0_impl_differentKeys]
      simp only [br_dec]
      exact ⟨fun h => by omega, fun _ => h true (by simp only [true_iff]; exact ⟨he, hn⟩)⟩
    | cons x r ih =>
      intro i hd he hn
      obtain ⟨h1, h2, h5, h3, h4⟩ := drop_cons' hd
      rw [List.length_cons, L0_impl_differentKeys, T0_impl_differentKeys]
      simp only [br_dec, F_impl_validKey, F_slices_Contains_sint_int, Int.toNat_natCast, h2, br_not]
      have hxl : x ∈ l := List.mem_of_getElem? h5
      refine ⟨fun _ => ⟨⟨by omega, by omega⟩, fun hx => ⟨⟨by omega, by omega⟩, by simp; omega, fun hc => ?_, fun hc => ⟨inR (by omega) (by omega), ?_⟩⟩, fun hx => hno fun v => hx (v.1 x hxl)⟩, fun h => by omega⟩
      · refine hno fun v => ?_
        have hn2 := v.2
        rw [← List.take_append_drop i l, hd] at hn2
        exact (List.nodup_append.1 hn2).2.2 x hc x (by simp) rfl
      · refine ih (i + 1) h3 ?_ ?_
        · rw [h4]; intro y hy
          rcases List.mem_append.1 hy with hy | hy
          · exact he y hy
          · simp at hy; subst hy; exact hx
        · rw [h4, List.nodup_append]
          refine ⟨hn, by simp, fun a ha b hb e => ?_⟩
          simp at hb; subst hb; subst e; exact hc ha
  exact ⟨_, key l 0 rfl (by simp) (by simp)⟩
-- impl.ValidKeys
def G_impl_ValidKeys (list0 : List Int) (room1 : Int) (k : Bool → Prop) : Prop :=
  F_impl_validRoom room1 fun validRoom6 =>
  br validRoom6
  (br (decide ((list0.length : Int) ≤ room1))
    (F_impl_differentKeys list0 fun differentKeys15 =>
      k differentKeys15)
    (k false))
  (k false)
def S_impl_ValidKeys (list0 : List Int) (room1 : Int) (k : Bool → Prop) : Prop := G_impl_ValidKeys list0 room1 k
def F_impl_ValidKeys (l : List Int) (room : Int) (k : Bool → Prop) : Prop := ∀ b : Bool, (b = true ↔ VKeys l room) → k b
theorem F_impl_ValidKeys_S {l : List Int} {room : Int} {k : Bool → Prop} (h : F_impl_ValidKeys l room k) : S_impl_ValidKeys l room k := by
  have hno : ¬ VKeys l room → k false := fun hv => h false (by simp [hv])
  refine br_dec.2 ⟨fun h1 => br_dec.2 ⟨fun h3 => ⟨by omega, fun b hb => h b ?_⟩, fun h3 => hno fun v => by have := v.2.2.1; omega⟩, fun h1 => hno fun v => h1 ⟨v.1, v.2.1⟩⟩
  rw [hb]
  exact ⟨fun g => ⟨h1.1, h1.2, h3, g.1, g.2⟩, fun v => v.2.2.2⟩
-- impl.ValidClock
def G_impl_ValidClock (c0Room : Int) (c0Keys : List Int) (c0Used : List Bool) (c0Hand : Int) (k : Bool → Prop) : Prop :=
  F_impl_ValidKeys c0Keys c0Room fun validKeys7 =>
  br (!validKeys7)
  (k false)
  (br ((c0Used.length : Int) != (c0Keys.length : Int))
    (k false)
    (br (decide ((c0Keys.length : Int) < c0Room))
      (k (c0Hand == 0))
      (br (decide (0 ≤ c0Hand))
        (k (decide (c0Hand < (c0Keys.length : Int))))
        (k false))))
def S_impl_ValidClock (c0Room : Int) (c0Keys : List Int) (c0Used : List Bool) (c0Hand : Int) (k : Bool → Prop) : Prop := G_impl_ValidClock c0Room c0Keys c0Used c0Hand k
def F_impl_ValidClock (room : Int) (keys : List Int) (used : List Bool) (hand : Int) (k : Bool → Prop) : Prop := ∀ b : Bool, (b = true ↔ VClock room keys used hand) → k b
theorem F_impl_ValidClock_S {room : Int} {keys : List Int} {used : List Bool} {hand : Int} {k : Bool → Prop} (h : F_impl_ValidClock room keys used hand k) : S_impl_ValidClock room keys used hand k := by
  have hno : ¬ VClock room keys used hand → k false := fun hv => h false (by simp [hv])
  simp only [S_impl_ValidClock, G_impl_ValidClock, F_impl_ValidKeys]
  intro b hb
  rw [br_not, br_iff]
  refine ⟨fun e => ?_, fun e => hno fun v => by rw [hb.2 v.1] at e; cases e⟩
  have hv := hb.1 e
  refine br_bne.2 ⟨fun h2 => hno fun v => h2 (by rw [v.2.1]), fun h2 => br_dec.2 ⟨fun h3 => h _ ?_, fun h3 => br_dec.2 ⟨fun h4 => h _ ?_, fun h4 => hno fun v => h4 ?_⟩⟩⟩
  · simp only [beq_iff_eq]
    exact ⟨fun e => ⟨hv, by omega, fun _ => e, fun h => by omega⟩, fun v => v.2.2.1 h3⟩
  · simp only [decide_eq_true_eq]
    have := hv.2.2.1
    exact ⟨fun e => ⟨hv, by omega, fun h => absurd h h3, fun _ => ⟨h4, e⟩⟩, fun v => (v.2.2.2 (by omega)).2⟩
  · have := hv.2.2.1
    exact (v.2.2.2 (by omega)).1
-- impl.nextPlace
def G_impl_nextPlace (c0Room : Int) (c0Keys : List Int) (c0Used : List Bool) (c0Hand : Int) (k : Int → Prop) : Prop :=
  InR (c0Hand + 1) ∧
  ((c0Keys.length : Int) ≠ 0) ∧
  k (Int.tmod (c0Hand + 1) (c0Keys.length : Int))
def S_impl_nextPlace (c0Room : Int) (c0Keys : List Int) (c0Used : List Bool) (c0Hand : Int) (k : Int → Prop) : Prop := G_impl_nextPlace c0Room c0Keys c0Used c0Hand k
abbrev F_impl_nextPlace (c0Room : Int) (c0Keys : List Int) (c0Used : List Bool) (c0Hand : Int) (k : Int → Prop) : Prop := S_impl_nextPlace c0Room c0Keys c0Used c0Hand k
theorem F_impl_nextPlace_S {c0Room : Int} {c0Keys : List Int} {c0Used : List Bool} {c0Hand : Int} {k : Int → Prop} (h : F_impl_nextPlace c0Room c0Keys c0Used c0Hand k) : S_impl_nextPlace c0Room c0Keys c0Used c0Hand k := h
-- impl.UseClock
def T0_impl_UseClock (c0Keys : List Int) (c0Room : Int) (key1 : Int) (xb6c3 : Int) (xy26 : List Bool) (k : Int → List Int → List Bool → Int → Bool → Prop) (B0 : Int → List Bool → Prop) : Prop :=
  (0 ≤ xb6c3 ∧ xb6c3 < (xy26.length : Int)) ∧
  br (List.getD xy26 (Int.toNat xb6c3) false)
  ((0 ≤ xb6c3 ∧ xb6c3 < (xy26.length : Int)) ∧
    F_impl_nextPlace c0Room c0Keys (List.set xy26 (Int.toNat xb6c3) false) xb6c3 fun nextPlace71 =>
    B0 nextPlace71 (List.set xy26 (Int.toNat xb6c3) false))
  ((0 ≤ xb6c3 ∧ xb6c3 < (c0Keys.length : Int)) ∧
    F_impl_nextPlace c0Room (List.set c0Keys (Int.toNat xb6c3) key1) xy26 xb6c3 fun nextPlace80 =>
    k c0Room (List.set c0Keys (Int.toNat xb6c3) key1) xy26 nextPlace80 false)
def L0_impl_UseClock (c0Keys : List Int) (c0Room : Int) (key1 : Int) (k : Int → List Int → List Bool → Int → Bool → Prop) : Nat → Int → List Bool → Prop
  | 0, _, _ => False
  | n + 1, xb6c3, xy26 => T0_impl_UseClock c0Keys c0Room key1 xb6c3 xy26 k (L0_impl_UseClock c0Keys c0Room key1 k n)
def G_impl_UseClock_j0 (c0Hand : Int) (c0Keys : List Int) (c0Room : Int) (c0Used : List Bool) (key1 : Int) (k : Int → List Int → List Bool → Int → Bool → Prop) (I0 : List Int → Int → Int → Int → List Bool → Prop) : Prop :=
  (F_slices_Index_sint_int c0Keys key1 fun index33 =>
    br (decide (index33 ≥ 0))
    ((0 ≤ index33 ∧ index33 < (c0Used.length : Int)) ∧
      k c0Room c0Keys (List.set c0Used (Int.toNat index33) true) c0Hand true)
    (br (decide ((c0Keys.length : Int) < c0Room))
      ((c0Keys.length + 1 ≤ 1000000000) ∧
        (c0Used.length + 1 ≤ 1000000000) ∧
        k c0Room (c0Keys ++ ([key1] : List Int)) (c0Used ++ ([false] : List Bool)) c0Hand false)
      (I0 c0Keys c0Room key1 c0Hand c0Used))) ∧
  (True)
def G_impl_UseClock_j1 (c0Hand : Int) (c0Keys : List Int) (c0Room : Int) (c0Used : List Bool) (key1 : Int) (k : Int → List Int → List Bool → Int → Bool → Prop) (I0 : List Int → Int → Int → Int → List Bool → Prop) : Prop :=
  ((0 + c0Used.length ≤ 1000000000) ∧
    G_impl_UseClock_j0 c0Hand c0Keys c0Room c0Used key1 k I0) ∧
  (True)
def G_impl_UseClock_j2 (c0Hand : Int) (c0Keys : List Int) (c0Room : Int) (c0Used : List Bool) (key1 : Int) (k : Int → List Int → List Bool → Int → Bool → Prop) (I0 : List Int → Int → Int → Int → List Bool → Prop) : Prop :=
  (G_impl_UseClock_j1 c0Hand c0Keys c0Room c0Used key1 k I0) ∧
  (True)
def G_impl_UseClock_j3 (c0Hand : Int) (c0Keys : List Int) (c0Room : Int) (c0Used : List Bool) (key1 : Int) (k : Int → List Int → List Bool → Int → Bool → Prop) (I0 : List Int → Int → Int → Int → List Bool → Prop) : Prop :=
  ((0 + c0Used.length ≤ 1000000000) ∧
    (G_impl_UseClock_j0 c0Hand c0Keys c0Room c0Used key1 k I0) ∧
    (True)) ∧
  (G_impl_UseClock_j2 c0Hand c0Keys c0Room c0Used key1 k I0)
def G_impl_UseClock_j4 (c0Hand : Int) (c0Keys : List Int) (c0Room : Int) (c0Used : List Bool) (key1 : Int) (k : Int → List Int → List Bool → Int → Bool → Prop) (I0 : List Int → Int → Int → Int → List Bool → Prop) : Prop :=
  (((0 + c0Keys.length ≤ 1000000000) ∧
      G_impl_UseClock_j1 c0Hand c0Keys c0Room c0Used key1 k I0) ∧
    (True)) ∧
  (True)
def G_impl_UseClock_j5 (c0Hand : Int) (c0Keys : List Int) (c0Room : Int) (c0Used : List Bool) (key1 : Int) (k : Int → List Int → List Bool → Int → Bool → Prop) (I0 : List Int → Int → Int → Int → List Bool → Prop) : Prop :=
  ((0 + c0Keys.length ≤ 1000000000) ∧
    G_impl_UseClock_j3 c0Hand c0Keys c0Room c0Used key1 k I0) ∧
  (G_impl_UseClock_j4 c0Hand c0Keys c0Room c0Used key1 k I0)
def G_impl_UseClock_j6 (c0Hand : Int) (c0Keys : List Int) (c0Room : Int) (c0Used : List Bool) (key1 : Int) (k : Int → List Int → List Bool → Int → Bool → Prop) (I0 : List Int → Int → Int → Int → List Bool → Prop) : Prop :=
  ((0 + c0Keys.length ≤ 1000000000) ∧
    G_impl_UseClock_j2 c0Hand c0Keys c0Room c0Used key1 k I0) ∧
  (G_impl_UseClock_j4 c0Hand c0Keys c0Room c0Used key1 k I0)
def G_impl_UseClock_j7 (c0Hand : Int) (c0Keys : List Int) (c0Room : Int) (c0Used : List Bool) (key1 : Int) (k : Int → List Int → List Bool → Int → Bool → Prop) (I0 : List Int → Int → Int → Int → List Bool → Prop) : Prop :=
  (G_impl_UseClock_j4 c0Hand c0Keys c0Room c0Used key1 k I0) ∧
  (True)
def G_impl_UseClock (c0Room : Int) (c0Keys : List Int) (c0Used : List Bool) (c0Hand : Int) (key1 : Int) (k : Int → List Int → List Bool → Int → Bool → Prop) (I0 : List Int → Int → Int → Int → List Bool → Prop) : Prop :=
  F_impl_ValidClock c0Room c0Keys c0Used c0Hand fun validClock9 =>
  br (!validClock9)
  (k 0 ([] : List Int) ([] : List Bool) 0 false)
  (F_impl_validKey key1 fun validKey13 =>
    br (!validKey13)
    (k 0 ([] : List Int) ([] : List Bool) 0 false)
    ((((0 + c0Keys.length ≤ 1000000000) ∧
          (G_impl_UseClock_j3 c0Hand c0Keys c0Room c0Used key1 k I0) ∧
          ((G_impl_UseClock_j2 c0Hand c0Keys c0Room c0Used key1 k I0) ∧
            (True))) ∧
        ((G_impl_UseClock_j5 c0Hand c0Keys c0Room c0Used key1 k I0) ∧
          ((G_impl_UseClock_j6 c0Hand c0Keys c0Room c0Used key1 k I0) ∧
            (True)))) ∧
      (((G_impl_UseClock_j5 c0Hand c0Keys c0Room c0Used key1 k I0) ∧
          (G_impl_UseClock_j7 c0Hand c0Keys c0Room c0Used key1 k I0)) ∧
        (((G_impl_UseClock_j6 c0Hand c0Keys c0Room c0Used key1 k I0) ∧
            (G_impl_UseClock_j7 c0Hand c0Keys c0Room c0Used key1 k I0)) ∧
          (True)))))
def H_impl_UseClock (c0Room : Int) (c0Keys : List Int) (c0Used : List Bool) (c0Hand : Int) (key1 : Int) (k : Int → List Int → List Bool → Int → Bool → Prop) (I0 : List Int → Int → Int → Int → List Bool → Prop) : Prop :=
  F_impl_ValidClock c0Room c0Keys c0Used c0Hand fun validClock9 =>
  br (!validClock9)
  (k 0 ([] : List Int) ([] : List Bool) 0 false)
  (F_impl_validKey key1 fun validKey13 =>
    br (!validKey13)
    (k 0 ([] : List Int) ([] : List Bool) 0 false)
    ((0 + c0Keys.length ≤ 1000000000) ∧
      (0 + c0Used.length ≤ 1000000000) ∧
      F_slices_Index_sint_int c0Keys key1 fun index33 =>
      br (decide (index33 ≥ 0))
      ((0 ≤ index33 ∧ index33 < (c0Used.length : Int)) ∧
        k c0Room c0Keys (List.set c0Used (Int.toNat index33) true) c0Hand true)
      (br (decide ((c0Keys.length : Int) < c0Room))
        ((c0Keys.length + 1 ≤ 1000000000) ∧
          (c0Used.length + 1 ≤ 1000000000) ∧
          k c0Room (c0Keys ++ ([key1] : List Int)) (c0Used ++ ([false] : List Bool)) c0Hand false)
        (I0 c0Keys c0Room key1 c0Hand c0Used))))
theorem G_impl_UseClock_eq (c0Room : Int) (c0Keys : List Int) (c0Used : List Bool) (c0Hand : Int) (key1 : Int) (k : Int → List Int → List Bool → Int → Bool → Prop) (I0 : List Int → Int → Int → Int → List Bool → Prop) : G_impl_UseClock c0Room c0Keys c0Used c0Hand key1 k I0 = H_impl_UseClock c0Room c0Keys c0Used c0Hand key1 k I0 := by
  simp only [G_impl_UseClock, H_impl_UseClock, G_impl_UseClock_j0, G_impl_UseClock_j1, G_impl_UseClock_j2, G_impl_UseClock_j3, G_impl_UseClock_j4, G_impl_UseClock_j5, G_impl_UseClock_j6, G_impl_UseClock_j7, and_self, and_true]
def S_impl_UseClock (c0Room : Int) (c0Keys : List Int) (c0Used : List Bool) (c0Hand : Int) (key1 : Int) (k : Int → List Int → List Bool → Int → Bool → Prop) : Prop := H_impl_UseClock c0Room c0Keys c0Used c0Hand key1 k (fun c0Keys c0Room key1 xb6c3 xy26 => ∃ j, L0_impl_UseClock c0Keys c0Room key1 k j xb6c3 xy26)
def F_impl_UseClock (room : Int) (keys : List Int) (used : List Bool) (hand key : Int) (k : Int → List Int → List Bool → Int → Bool → Prop) : Prop :=
  ((VClock room keys used hand ∧ 0 ≤ key ∧ key ≤ 31) → k room (tickM room keys used hand key).1 (tickM room keys used hand key).2.1 (tickM room keys used hand key).2.2.1 (tickM room keys used hand key).2.2.2) ∧
  (¬ (VClock room keys used hand ∧ 0 ≤ key ∧ key ≤ 31) → k 0 [] [] 0 false)
theorem F_impl_UseClock_S {room : Int} {keys : List Int} {used : List Bool} {hand key : Int} {k : Int → List Int → List Bool → Int → Bool → Prop} (h : F_impl_UseClock room keys used hand key k) : S_impl_UseClock room keys used hand key k := by
  obtain ⟨hyes, hno⟩ := h
  intro b hb
  rw [br_not, br_iff]
  refine ⟨fun e => br_not.2 (br_dec.2 ⟨fun hkey => ?_, fun hkey => hno fun w => hkey w.2⟩), fun e => hno fun w => by rw [hb.2 w.1] at e; cases e⟩
  have v := hb.1 e
  have hk := hyes ⟨v, hkey⟩
  obtain ⟨⟨v1, v2, v3, v4, v5⟩, v6, v7, v8⟩ := v
  have key1 : (keys.length : Int) = room → ∀ (f : Nat) (u : List Bool) (h : Nat), u.length = keys.length → h < u.length → u.count true < f →
      k room (keys.set (sweep f u h).2 key) (sweep f u h).1 (((sweep f u h).2 + 1) % keys.length : Nat) false → L0_impl_UseClock keys room key k f (h : Int) u := by
    intro hr f
    induction f with
    | zero => intro u h _ _ h3; omega
    | succ f ih =>
      intro u h h1 h2 h3 h4
      unfold sweep at h4
      rw [L0_impl_UseClock, T0_impl_UseClock]
      simp only [br_iff, Int.toNat_natCast]
      refine ⟨⟨by omega, by omega⟩, fun hu => ⟨⟨by omega, by omega⟩, inR (by omega) (by omega), by omega, ?_⟩, fun hu => ⟨⟨by omega, by omega⟩, inR (by omega) (by omega), by rw [List.length_set]; omega, ?_⟩⟩
      · rw [if_pos hu] at h4
        rw [tmod_next, ← h1]
        have := count_clear hu
        refine ih _ _ (by simp [h1]) (by rw [List.length_set]; exact Nat.mod_lt _ (by omega)) (by omega) h4
      · rw [if_neg (by rw [hu]; simp)] at h4
        rw [List.length_set, tmod_next]
        exact h4
  refine ⟨by omega, by omega, by omega, br_dec.2 ⟨fun hp => ?_, fun hp => br_dec.2 ⟨fun hl => ?_, fun hl => ?_⟩⟩⟩
  · have hm := plc_ge.1 hp
    unfold tickM at hk
    rw [if_pos hm] at hk
    obtain ⟨j, j1, _, _, j2⟩ := plc_pos hm
    exact ⟨⟨by omega, by omega⟩, hk⟩
  · have hm : key ∉ keys := fun e => hp (plc_ge.2 e)
    unfold tickM at hk
    rw [if_neg hm, if_pos hl] at hk
    exact ⟨by omega, by omega, hk⟩
  · have hm : key ∉ keys := fun e => hp (plc_ge.2 e)
    unfold tickM at hk
    rw [if_neg hm, if_neg hl] at hk
    obtain ⟨w1, w2⟩ := v8 (by omega)
    refine ⟨used.length + 1, ?_⟩
    have := key1 (by omega) (used.length + 1) used hand.toNat v6 (by omega) (Nat.lt_succ_of_le List.count_le_length) hk
    rwa [Int.toNat_of_nonneg w1] at this
-- impl.useAll[impl.Clock]
def T0_impl_useAll_Clock_UseClock (t0 : List Int) (xt14 : Int) (xhits8 : Int) (xt15 : Int) (xb4c0 : Int) (xb4c3 : Int) (xb4c1 : List Int) (xb4c2 : List Bool) (k : Int → List Int → List Bool → Int → Int → Prop) (B0 : Int → Int → Int → Int → List Int → List Bool → Prop) : Prop :=
  br (decide (xt15 < xt14))
  ((0 ≤ xt15 ∧ xt15 < (t0.length : Int)) ∧
    F_impl_UseClock xb4c0 xb4c1 xb4c2 xb4c3 (List.getD t0 (Int.toNat xt15) (0 : Int)) fun useClock23Room useClock23Keys useClock23Used useClock23Hand useClock23r1 =>
    br useClock23r1
    (InR (xhits8 + 1) ∧
      InR (xt15 + 1) ∧
      B0 (xhits8 + 1) (xt15 + 1) useClock23Room useClock23Hand useClock23Keys useClock23Used)
    (InR (xt15 + 1) ∧
      B0 xhits8 (xt15 + 1) useClock23Room useClock23Hand useClock23Keys useClock23Used))
  (k xb4c0 xb4c1 xb4c2 xb4c3 xhits8)
def L0_impl_useAll_Clock_UseClock (t0 : List Int) (xt14 : Int) (k : Int → List Int → List Bool → Int → Int → Prop) : Nat → Int → Int → Int → Int → List Int → List Bool → Prop
  | 0, _, _, _, _, _, _ => False
  | n + 1, xhits8, xt15, xb4c0, xb4c3, xb4c1, xb4c2 => T0_impl_useAll_Clock_UseClock t0 xt14 xhits8 xt15 xb4c0 xb4c3 xb4c1 xb4c2 k (L0_impl_useAll_Clock_UseClock t0 xt14 k n)
def G_impl_useAll_Clock_UseClock (t0 : List Int) (cache1Room : Int) (cache1Keys : List Int) (cache1Used : List Bool) (cache1Hand : Int) (I0 : List Int → Int → Int → Int → Int → Int → List Int → List Bool → Prop) : Prop :=
  I0 t0 (t0.length : Int) 0 0 cache1Room cache1Hand cache1Keys cache1Used
def S_impl_useAll_Clock_UseClock (t0 : List Int) (cache1Room : Int) (cache1Keys : List Int) (cache1Used : List Bool) (cache1Hand : Int) (k : Int → List Int → List Bool → Int → Int → Prop) : Prop := G_impl_useAll_Clock_UseClock t0 cache1Room cache1Keys cache1Used cache1Hand (fun t0 xt14 xhits8 xt15 xb4c0 xb4c3 xb4c1 xb4c2 => ∃ j, L0_impl_useAll_Clock_UseClock t0 xt14 k j xhits8 xt15 xb4c0 xb4c3 xb4c1 xb4c2)
def F_impl_useAll_Clock_UseClock (t : List Int) (room : Int) (keys : List Int) (used : List Bool) (hand : Int) (k : Int → List Int → List Bool → Int → Int → Prop) : Prop :=
  (VTrace t ∧ VClock room keys used hand) ∧ k room (runC room t keys used hand 0).1 (runC room t keys used hand 0).2.1 (runC room t keys used hand 0).2.2.1 (runC room t keys used hand 0).2.2.2
theorem F_impl_useAll_Clock_UseClock_S {t : List Int} {room : Int} {keys : List Int} {used : List Bool} {hand : Int} {k : Int → List Int → List Bool → Int → Int → Prop} (h : F_impl_useAll_Clock_UseClock t room keys used hand k) : S_impl_useAll_Clock_UseClock t room keys used hand k := by
  obtain ⟨⟨⟨t1, t2⟩, v⟩, hk⟩ := h
  have key : ∀ (r : List Int) (i : Nat) (ks : List Int) (us : List Bool) (hd n : Int), t.drop i = r → VClock room ks us hd → 0 ≤ n → n ≤ i →
      k room (runC room r ks us hd n).1 (runC room r ks us hd n).2.1 (runC room r ks us hd n).2.2.1 (runC room r ks us hd n).2.2.2 → L0_impl_useAll_Clock_UseClock t (t.length : Int) k (r.length + 1) n (i : Int) room hd ks us := by
    intro r
    induction r with
    | nil =>
      intro i ks us hd n hdr v n0 n1 hk
      have := drop_nil' hdr
      rw [L0_impl_useAll_Clock_UseClock, T0_impl_useAll_Clock_UseClock]
      simp only [br_dec]
      exact ⟨fun h => by omega, fun _ => hk⟩
    | cons x r ih =>
      intro i ks us hd n hdr v n0 n1 hk
      obtain ⟨h1, h2, h5, h3, h4⟩ := drop_cons' hdr
      have hx := t2 x (List.mem_of_getElem? h5)
      rw [List.length_cons, L0_impl_useAll_Clock_UseClock, T0_impl_useAll_Clock_UseClock]
      simp only [br_dec, Int.toNat_natCast, h2]
      refine ⟨fun _ => ⟨⟨by omega, by omega⟩, fun _ => ?_, fun hv => absurd ⟨v, hx⟩ hv⟩, fun h => by omega⟩
      rw [runC] at hk
      rw [br_iff]
      refine ⟨fun e => ⟨inR (by omega) (by omega), inR (by omega) (by omega), ?_⟩, fun e => ⟨inR (by omega) (by omega), ?_⟩⟩
      · rw [e] at hk
        exact ih (i + 1) _ _ _ _ h3 (tick_valid v hx) (by omega) (by omega) hk
      · rw [e] at hk
        rw [show n + toI false = n by simp [toI]] at hk
        exact ih (i + 1) _ _ _ _ h3 (tick_valid v hx) (by omega) (by omega) hk
  exact ⟨_, key t 0 keys used hand 0 rfl v (by omega) (by omega) hk⟩
-- impl.RunClock
def G_impl_RunClock (t0 : List Int) (room1 : Int) (k : Int → List Int → List Bool → Int → Int → Prop) : Prop :=
  F_impl_ValidTrace t0 fun validTrace7 =>
  br (!validTrace7)
  (k 0 ([] : List Int) ([] : List Bool) 0 (-1))
  (F_impl_validRoom room1 fun validRoom11 =>
    br (!validRoom11)
    (k 0 ([] : List Int) ([] : List Bool) 0 (-1))
    (F_impl_useAll_Clock_UseClock t0 room1 ([] : List Int) ([] : List Bool) (0 : Int) fun useAll18Room useAll18Keys useAll18Used useAll18Hand useAll18r1 =>
      k useAll18Room useAll18Keys useAll18Used useAll18Hand useAll18r1))
def S_impl_RunClock (t0 : List Int) (room1 : Int) (k : Int → List Int → List Bool → Int → Int → Prop) : Prop := G_impl_RunClock t0 room1 k
def F_impl_RunClock (t : List Int) (room : Int) (k : Int → List Int → List Bool → Int → Int → Prop) : Prop :=
  ((VTrace t ∧ 1 ≤ room ∧ room ≤ 8) → k room (runC room t [] [] 0 0).1 (runC room t [] [] 0 0).2.1 (runC room t [] [] 0 0).2.2.1 (runC room t [] [] 0 0).2.2.2) ∧
  (¬ (VTrace t ∧ 1 ≤ room ∧ room ≤ 8) → k 0 [] [] 0 (-1))
theorem F_impl_RunClock_S {t : List Int} {room : Int} {k : Int → List Int → List Bool → Int → Int → Prop} (h : F_impl_RunClock t room k) : S_impl_RunClock t room k := by
  obtain ⟨hyes, hno⟩ := h
  intro b hb
  rw [br_not, br_iff]
  refine ⟨fun e => br_not.2 (br_dec.2 ⟨fun hr => ?_, fun hr => hno fun w => hr w.2⟩), fun e => hno fun v => by rw [hb.2 v.1] at e; cases e⟩
  have v := hb.1 e
  exact ⟨⟨v, clock0 hr⟩, hyes ⟨v, hr⟩⟩
-- spec.inRange
def G_spec_inRange (n0 : Int) (low1 : Int) (high2 : Int) (k : Bool → Prop) : Prop :=
  br (decide (low1 ≤ n0))
  (k (decide (n0 ≤ high2)))
  (k false)
def S_spec_inRange (n0 : Int) (low1 : Int) (high2 : Int) (k : Bool → Prop) : Prop := G_spec_inRange n0 low1 high2 k
def F_spec_inRange (n low high : Int) (k : Bool → Prop) : Prop := k (decide (low ≤ n ∧ n ≤ high))
theorem F_spec_inRange_S {n low high : Int} {k : Bool → Prop} (h : F_spec_inRange n low high k) : S_spec_inRange n low high k := by
  unfold F_spec_inRange at h
  simp only [S_spec_inRange, G_spec_inRange, br_dec]
  refine ⟨fun h1 => ?_, fun h1 => ?_⟩
  · simpa [h1] using h
  · simpa [h1] using h
-- spec.allIn
def T0_spec_allIn (high2 : Int) (list0 : List Int) (low1 : Int) (xi7 : Int) (k : Bool → Prop) (B0 : Int → Prop) : Prop :=
  br (decide (xi7 < (list0.length : Int)))
  ((0 ≤ xi7 ∧ xi7 < (list0.length : Int)) ∧
    F_spec_inRange (List.getD list0 (Int.toNat xi7) (0 : Int)) low1 high2 fun inRange20 =>
    br (!inRange20)
    (k false)
    (InR (xi7 + 1) ∧
      B0 (xi7 + 1)))
  (k true)
def L0_spec_allIn (high2 : Int) (list0 : List Int) (low1 : Int) (k : Bool → Prop) : Nat → Int → Prop
  | 0, _ => False
  | n + 1, xi7 => T0_spec_allIn high2 list0 low1 xi7 k (L0_spec_allIn high2 list0 low1 k n)
def G_spec_allIn (list0 : List Int) (low1 : Int) (high2 : Int) (I0 : Int → List Int → Int → Int → Prop) : Prop :=
  I0 high2 list0 low1 0
def S_spec_allIn (list0 : List Int) (low1 : Int) (high2 : Int) (k : Bool → Prop) : Prop := G_spec_allIn list0 low1 high2 (fun high2 list0 low1 xi7 => ∃ j, L0_spec_allIn high2 list0 low1 k j xi7)
def F_spec_allIn (l : List Int) (low high : Int) (k : Bool → Prop) : Prop := l.length ≤ 1000000000 ∧ k (decide (∀ x ∈ l, low ≤ x ∧ x ≤ high))
theorem F_spec_allIn_S {l : List Int} {low high : Int} {k : Bool → Prop} (h : F_spec_allIn l low high k) : S_spec_allIn l low high k := by
  obtain ⟨hl, hk⟩ := h
  have key : ∀ (r : List Int) (i : Nat), l.drop i = r → ((∀ x ∈ r, low ≤ x ∧ x ≤ high) ↔ (∀ x ∈ l, low ≤ x ∧ x ≤ high)) → L0_spec_allIn high l low k (r.length + 1) (i : Int) := by
    intro r
    induction r with
    | nil =>
      intro i hd he
      have := drop_nil' hd
      rw [L0_spec_allIn, T0_spec_allIn]
      simp only [br_dec]
      refine ⟨fun h => by omega, fun _ => ?_⟩
      rwa [decide_eq_true (he.1 (by simp))] at hk
    | cons x r ih =>
      intro i hd he
      obtain ⟨h1, h2, _, h3, _⟩ := drop_cons' hd
      rw [List.length_cons, L0_spec_allIn, T0_spec_allIn]
      simp only [br_dec, F_spec_inRange, br_not, Int.toNat_natCast, h2]
      refine ⟨fun _ => ⟨⟨by omega, by omega⟩, fun hx => ⟨inR (by omega) (by omega), ?_⟩, fun hx => ?_⟩, fun h => by omega⟩
      · refine ih (i + 1) h3 (Iff.trans ?_ he)
        simp only [List.mem_cons, forall_eq_or_imp]
        exact ⟨fun h => ⟨hx, h⟩, fun h => h.2⟩
      · rwa [decide_eq_false (fun h => hx (he.2 h x (by simp)))] at hk
  exact ⟨_, key l 0 rfl Iff.rfl⟩
-- spec.validTrace
def G_spec_validTrace (t0 : List Int) (k : Bool → Prop) : Prop :=
  br (decide ((t0.length : Int) ≤ 24))
  (F_spec_allIn t0 (0 : Int) (31 : Int) fun allIn8 =>
    k allIn8)
  (k false)
def S_spec_validTrace (t0 : List Int) (k : Bool → Prop) : Prop := G_spec_validTrace t0 k
def F_spec_validTrace (t : List Int) (k : Bool → Prop) : Prop := ∀ b : Bool, (b = true ↔ VTrace t) → k b
theorem F_spec_validTrace_S {t : List Int} {k : Bool → Prop} (h : F_spec_validTrace t k) : S_spec_validTrace t k :=
  br_dec.2 ⟨fun h1 => ⟨by omega, h _ (by simp only [decide_eq_true_eq]; exact ⟨fun h2 => ⟨by omega, h2⟩, fun v => v.2⟩)⟩, fun h1 => h false (by simp only [Bool.false_eq_true, false_iff]; exact fun v => h1 (by have := v.1; omega))⟩
-- spec.copyClock
def G_spec_copyClock_j0 (c0Hand : Int) (c0Room : Int) (c0Used : List Bool) (copyInts7 : List Int) (k : Int → List Int → List Bool → Int → Prop) : Prop :=
  ((0 + c0Used.length ≤ 1000000000) ∧
    (k c0Room copyInts7 c0Used c0Hand) ∧
    (True)) ∧
  (True)
def G_spec_copyClock (c0Room : Int) (c0Keys : List Int) (c0Used : List Bool) (c0Hand : Int) (k : Int → List Int → List Bool → Int → Prop) : Prop :=
  (F_spec_copyInts c0Keys fun copyInts7 =>
    (G_spec_copyClock_j0 c0Hand c0Room c0Used copyInts7 k) ∧
    (True)) ∧
  (((F_spec_copyInts c0Keys fun copyInts7 =>
        G_spec_copyClock_j0 c0Hand c0Room c0Used copyInts7 k) ∧
      (True)) ∧
    (True))
def H_spec_copyClock (c0Room : Int) (c0Keys : List Int) (c0Used : List Bool) (c0Hand : Int) (k : Int → List Int → List Bool → Int → Prop) : Prop :=
  F_spec_copyInts c0Keys fun copyInts7 =>
  (0 + c0Used.length ≤ 1000000000) ∧
  k c0Room copyInts7 c0Used c0Hand
theorem G_spec_copyClock_eq (c0Room : Int) (c0Keys : List Int) (c0Used : List Bool) (c0Hand : Int) (k : Int → List Int → List Bool → Int → Prop) : G_spec_copyClock c0Room c0Keys c0Used c0Hand k = H_spec_copyClock c0Room c0Keys c0Used c0Hand k := by
  simp only [G_spec_copyClock, H_spec_copyClock, G_spec_copyClock_j0, and_self, and_true]
def S_spec_copyClock (c0Room : Int) (c0Keys : List Int) (c0Used : List Bool) (c0Hand : Int) (k : Int → List Int → List Bool → Int → Prop) : Prop := H_spec_copyClock c0Room c0Keys c0Used c0Hand k
def F_spec_copyClock (room : Int) (keys : List Int) (used : List Bool) (hand : Int) (k : Int → List Int → List Bool → Int → Prop) : Prop := (keys.length ≤ 1000000000 ∧ used.length ≤ 1000000000) ∧ k room keys used hand
theorem F_spec_copyClock_S {room : Int} {keys : List Int} {used : List Bool} {hand : Int} {k : Int → List Int → List Bool → Int → Prop} (h : F_spec_copyClock room keys used hand k) : S_spec_copyClock room keys used hand k :=
  ⟨h.1.1, by have := h.1.2; omega, h.2⟩
-- spec.placeOf
def T0_spec_placeOf (list0 : List Int) (n1 : Int) (xi5 : Int) (k : Int → Prop) (B0 : Int → Prop) : Prop :=
  br (decide (xi5 < (list0.length : Int)))
  ((0 ≤ xi5 ∧ xi5 < (list0.length : Int)) ∧
    br ((List.getD list0 (Int.toNat xi5) (0 : Int)) == n1)
    (k xi5)
    (InR (xi5 + 1) ∧
      B0 (xi5 + 1)))
  (k (-1))
def L0_spec_placeOf (list0 : List Int) (n1 : Int) (k : Int → Prop) : Nat → Int → Prop
  | 0, _ => False
  | n + 1, xi5 => T0_spec_placeOf list0 n1 xi5 k (L0_spec_placeOf list0 n1 k n)
def G_spec_placeOf (list0 : List Int) (n1 : Int) (I0 : List Int → Int → Int → Prop) : Prop :=
  I0 list0 n1 0
def S_spec_placeOf (list0 : List Int) (n1 : Int) (k : Int → Prop) : Prop := G_spec_placeOf list0 n1 (fun list0 n1 xi5 => ∃ j, L0_spec_placeOf list0 n1 k j xi5)
def F_spec_placeOf (l : List Int) (n : Int) (k : Int → Prop) : Prop := l.length ≤ 1000000000 ∧ k (plc l n)
theorem F_spec_placeOf_S {l : List Int} {n : Int} {k : Int → Prop} (h : F_spec_placeOf l n k) : S_spec_placeOf l n k := by
  obtain ⟨hl, hk⟩ := h
  have key : ∀ (r : List Int) (i : Nat), l.drop i = r → plcF r n i = plc l n → L0_spec_placeOf l n k (r.length + 1) (i : Int) := by
    intro r
    induction r with
    | nil =>
      intro i hd he
      have := drop_nil' hd
      rw [L0_spec_placeOf, T0_spec_placeOf]
      simp only [br_dec]
      exact ⟨fun h => by omega, fun _ => by rw [show (-1 : Int) = plc l n from he]; exact hk⟩
    | cons x r ih =>
      intro i hd he
      obtain ⟨h1, h2, _, h3, _⟩ := drop_cons' hd
      rw [List.length_cons, L0_spec_placeOf, T0_spec_placeOf]
      simp only [br_dec, br_beq, Int.toNat_natCast, h2]
      refine ⟨fun _ => ⟨⟨by omega, by omega⟩, fun hx => ?_, fun hx => ⟨inR (by omega) (by omega), ?_⟩⟩, fun h => by omega⟩
      · simp only [plcF, if_pos hx] at he; rw [he]; exact hk
      · simp only [plcF, if_neg hx] at he; exact ih (i + 1) h3 he
  exact ⟨_, key l 0 rfl rfl⟩
-- spec.tick
def T0_spec_tick (copyClock9Keys : List Int) (copyClock9Room : Int) (key1 : Int) (xb6c3 : Int) (xy9 : List Bool) (k : Int → List Int → List Bool → Int → Bool → Prop) (B0 : Int → List Bool → Prop) : Prop :=
  (0 ≤ xb6c3 ∧ xb6c3 < (xy9.length : Int)) ∧
  br (List.getD xy9 (Int.toNat xb6c3) false)
  ((0 ≤ xb6c3 ∧ xb6c3 < (xy9.length : Int)) ∧
    InR (xb6c3 + 1) ∧
    (copyClock9Room ≠ 0) ∧
    B0 (Int.tmod (xb6c3 + 1) copyClock9Room) (List.set xy9 (Int.toNat xb6c3) false))
  ((0 ≤ xb6c3 ∧ xb6c3 < (copyClock9Keys.length : Int)) ∧
    InR (xb6c3 + 1) ∧
    (copyClock9Room ≠ 0) ∧
    k copyClock9Room (List.set copyClock9Keys (Int.toNat xb6c3) key1) xy9 (Int.tmod (xb6c3 + 1) copyClock9Room) false)
def L0_spec_tick (copyClock9Keys : List Int) (copyClock9Room : Int) (key1 : Int) (k : Int → List Int → List Bool → Int → Bool → Prop) : Nat → Int → List Bool → Prop
  | 0, _, _ => False
  | n + 1, xb6c3, xy9 => T0_spec_tick copyClock9Keys copyClock9Room key1 xb6c3 xy9 k (L0_spec_tick copyClock9Keys copyClock9Room key1 k n)
def G_spec_tick (c0Room : Int) (c0Keys : List Int) (c0Used : List Bool) (c0Hand : Int) (key1 : Int) (k : Int → List Int → List Bool → Int → Bool → Prop) (I0 : List Int → Int → Int → Int → List Bool → Prop) : Prop :=
  F_spec_copyClock c0Room c0Keys c0Used c0Hand fun copyClock9Room copyClock9Keys copyClock9Used copyClock9Hand =>
  F_spec_placeOf copyClock9Keys key1 fun placeOf13 =>
  br (decide (placeOf13 ≥ 0))
  ((0 ≤ placeOf13 ∧ placeOf13 < (copyClock9Used.length : Int)) ∧
    k copyClock9Room copyClock9Keys (List.set copyClock9Used (Int.toNat placeOf13) true) copyClock9Hand true)
  (br (decide ((copyClock9Keys.length : Int) < copyClock9Room))
    (F_spec_copyInts c0Keys fun copyInts29 =>
      (copyInts29.length + 1 ≤ 1000000000) ∧
      (0 + c0Used.length ≤ 1000000000) ∧
      (c0Used.length + 1 ≤ 1000000000) ∧
      k copyClock9Room (copyInts29 ++ ([key1] : List Int)) (c0Used ++ ([false] : List Bool)) copyClock9Hand false)
    (I0 copyClock9Keys copyClock9Room key1 copyClock9Hand copyClock9Used))
def S_spec_tick (c0Room : Int) (c0Keys : List Int) (c0Used : List Bool) (c0Hand : Int) (key1 : Int) (k : Int → List Int → List Bool → Int → Bool → Prop) : Prop := G_spec_tick c0Room c0Keys c0Used c0Hand key1 k (fun copyClock9Keys copyClock9Room key1 xb6c3 xy9 => ∃ j, L0_spec_tick copyClock9Keys copyClock9Room key1 k j xb6c3 xy9)
def F_spec_tick (room : Int) (keys : List Int) (used : List Bool) (hand key : Int) (k : Int → List Int → List Bool → Int → Bool → Prop) : Prop :=
  VClock room keys used hand ∧ k room (tickM room keys used hand key).1 (tickM room keys used hand key).2.1 (tickM room keys used hand key).2.2.1 (tickM room keys used hand key).2.2.2
theorem F_spec_tick_S {room : Int} {keys : List Int} {used : List Bool} {hand key : Int} {k : Int → List Int → List Bool → Int → Bool → Prop} (h : F_spec_tick room keys used hand key k) : S_spec_tick room keys used hand key k := by
  obtain ⟨v, hk⟩ := h
  have hv := v
  obtain ⟨⟨v1, v2, v3, v4, v5⟩, v6, v7, v8⟩ := v
  have key1 : (keys.length : Int) = room → ∀ (f : Nat) (u : List Bool) (h : Nat), u.length = keys.length → h < u.length → u.count true < f →
      k room (keys.set (sweep f u h).2 key) (sweep f u h).1 (((sweep f u h).2 + 1) % keys.length : Nat) false → L0_spec_tick keys room key k f (h : Int) u := by
    intro hr f
    induction f with
    | zero => intro u h _ _ h3; omega
    | succ f ih =>
      intro u h h1 h2 h3 h4
      unfold sweep at h4
      rw [L0_spec_tick, T0_spec_tick]
      simp only [br_iff, Int.toNat_natCast]
      refine ⟨⟨by omega, by omega⟩, fun hu => ⟨⟨by omega, by omega⟩, inR (by omega) (by omega), by omega, ?_⟩, fun hu => ⟨⟨by omega, by omega⟩, inR (by omega) (by omega), by omega, ?_⟩⟩
      · rw [if_pos hu] at h4
        have e : Int.tmod ((h : Int) + 1) room = (((h + 1) % u.length : Nat) : Int) := by rw [← hr, tmod_next, h1]
        rw [e]
        have := count_clear hu
        refine ih _ _ (by simp [h1]) (by rw [List.length_set]; exact Nat.mod_lt _ (by omega)) (by omega) h4
      · rw [if_neg (by rw [hu]; simp)] at h4
        have e : Int.tmod ((h : Int) + 1) room = (((h + 1) % keys.length : Nat) : Int) := by rw [← hr, tmod_next]
        rw [e]; exact h4
  refine ⟨⟨by omega, by omega⟩, by omega, br_dec.2 ⟨fun hp => ?_, fun hp => br_dec.2 ⟨fun hl => ?_, fun hl => ?_⟩⟩⟩
  · have hm := plc_ge.1 hp
    unfold tickM at hk
    rw [if_pos hm] at hk
    obtain ⟨j, j1, _, _, j2⟩ := plc_pos hm
    exact ⟨⟨by omega, by omega⟩, hk⟩
  · have hm : key ∉ keys := fun e => hp (plc_ge.2 e)
    unfold tickM at hk
    rw [if_neg hm, if_pos hl] at hk
    exact ⟨by omega, by omega, by omega, by omega, hk⟩
  · have hm : key ∉ keys := fun e => hp (plc_ge.2 e)
    unfold tickM at hk
    rw [if_neg hm, if_neg hl] at hk
    obtain ⟨w1, w2⟩ := v8 (by omega)
    refine ⟨used.length + 1, ?_⟩
    have := key1 (by omega) (used.length + 1) used hand.toNat v6 (by omega) (Nat.lt_succ_of_le List.count_le_length) hk
    rwa [Int.toNat_of_nonneg w1] at this
-- spec.toInt
def G_spec_toInt (b0 : Bool) (k : Int → Prop) : Prop :=
  br b0
  (k 1)
  (k 0)
def S_spec_toInt (b0 : Bool) (k : Int → Prop) : Prop := G_spec_toInt b0 k
def F_spec_toInt (b : Bool) (k : Int → Prop) : Prop := k (toI b)
theorem F_spec_toInt_S {b : Bool} {k : Int → Prop} (h : F_spec_toInt b k) : S_spec_toInt b k := by
  cases b <;> exact h
-- spec.RunClock
def T0_spec_RunClock (t0 : List Int) (xn7 : Int) (xi8 : Int) (xb6c0 : Int) (xb6c3 : Int) (xb6c1 : List Int) (xb6c2 : List Bool) (k : Int → List Int → List Bool → Int → Int → Prop) (B0 : Int → Int → Int → Int → List Int → List Bool → Prop) : Prop :=
  br (decide (xi8 < (t0.length : Int)))
  ((0 ≤ xi8 ∧ xi8 < (t0.length : Int)) ∧
    ((F_spec_tick xb6c0 xb6c1 xb6c2 xb6c3 (List.getD t0 (Int.toNat xi8) (0 : Int)) fun tick35Room tick35Keys tick35Used tick35Hand tick35r1 =>
        (F_spec_toInt tick35r1 fun toInt40 =>
          InR (xn7 + toInt40) ∧
          InR (xi8 + 1) ∧
          B0 (xn7 + toInt40) (xi8 + 1) tick35Room tick35Hand tick35Keys tick35Used) ∧
        (True)) ∧
      (True)) ∧
    (True))
  (k xb6c0 xb6c1 xb6c2 xb6c3 xn7)
def U0_spec_RunClock (t0 : List Int) (xn7 : Int) (xi8 : Int) (xb6c0 : Int) (xb6c3 : Int) (xb6c1 : List Int) (xb6c2 : List Bool) (k : Int → List Int → List Bool → Int → Int → Prop) (B0 : Int → Int → Int → Int → List Int → List Bool → Prop) : Prop :=
  br (decide (xi8 < (t0.length : Int)))
  ((0 ≤ xi8 ∧ xi8 < (t0.length : Int)) ∧
    F_spec_tick xb6c0 xb6c1 xb6c2 xb6c3 (List.getD t0 (Int.toNat xi8) (0 : Int)) fun tick35Room tick35Keys tick35Used tick35Hand tick35r1 =>
    F_spec_toInt tick35r1 fun toInt40 =>
    InR (xn7 + toInt40) ∧
    InR (xi8 + 1) ∧
    B0 (xn7 + toInt40) (xi8 + 1) tick35Room tick35Hand tick35Keys tick35Used)
  (k xb6c0 xb6c1 xb6c2 xb6c3 xn7)
theorem T0_spec_RunClock_eq (t0 : List Int) (xn7 : Int) (xi8 : Int) (xb6c0 : Int) (xb6c3 : Int) (xb6c1 : List Int) (xb6c2 : List Bool) (k : Int → List Int → List Bool → Int → Int → Prop) (B0 : Int → Int → Int → Int → List Int → List Bool → Prop) : T0_spec_RunClock t0 xn7 xi8 xb6c0 xb6c3 xb6c1 xb6c2 k B0 = U0_spec_RunClock t0 xn7 xi8 xb6c0 xb6c3 xb6c1 xb6c2 k B0 := by
  simp only [T0_spec_RunClock, U0_spec_RunClock, and_self, and_true]
def L0_spec_RunClock (t0 : List Int) (k : Int → List Int → List Bool → Int → Int → Prop) : Nat → Int → Int → Int → Int → List Int → List Bool → Prop
  | 0, _, _, _, _, _, _ => False
  | n + 1, xn7, xi8, xb6c0, xb6c3, xb6c1, xb6c2 => U0_spec_RunClock t0 xn7 xi8 xb6c0 xb6c3 xb6c1 xb6c2 k (L0_spec_RunClock t0 k n)
def G_spec_RunClock (t0 : List Int) (room1 : Int) (k : Int → List Int → List Bool → Int → Int → Prop) (I0 : List Int → Int → Int → Int → Int → List Int → List Bool → Prop) : Prop :=
  F_spec_validTrace t0 fun validTrace11 =>
  br (!validTrace11)
  (k 0 ([] : List Int) ([] : List Bool) 0 (-1))
  (F_spec_inRange room1 (1 : Int) (8 : Int) fun inRange15 =>
    br (!inRange15)
    (k 0 ([] : List Int) ([] : List Bool) 0 (-1))
    (I0 t0 0 0 room1 0 ([] : List Int) ([] : List Bool)))
def S_spec_RunClock (t0 : List Int) (room1 : Int) (k : Int → List Int → List Bool → Int → Int → Prop) : Prop := G_spec_RunClock t0 room1 k (fun t0 xn7 xi8 xb6c0 xb6c3 xb6c1 xb6c2 => ∃ j, L0_spec_RunClock t0 k j xn7 xi8 xb6c0 xb6c3 xb6c1 xb6c2)
def F_spec_RunClock (t : List Int) (room : Int) (k : Int → List Int → List Bool → Int → Int → Prop) : Prop :=
  ((VTrace t ∧ 1 ≤ room ∧ room ≤ 8) → k room (runC room t [] [] 0 0).1 (runC room t [] [] 0 0).2.1 (runC room t [] [] 0 0).2.2.1 (runC room t [] [] 0 0).2.2.2) ∧
  (¬ (VTrace t ∧ 1 ≤ room ∧ room ≤ 8) → k 0 [] [] 0 (-1))
theorem F_spec_RunClock_S {t : List Int} {room : Int} {k : Int → List Int → List Bool → Int → Int → Prop} (h : F_spec_RunClock t room k) : S_spec_RunClock t room k := by
  obtain ⟨hyes, hno⟩ := h
  intro b hb
  rw [br_not, br_iff]
  refine ⟨fun e => br_not.2 (br_dec.2 ⟨fun hr => ?_, fun hr => hno fun w => hr w.2⟩), fun e => hno fun v => by rw [hb.2 v.1] at e; cases e⟩
  have v := hb.1 e
  have hk := hyes ⟨v, hr⟩
  have t2 := v.2
  have t1 := v.1
  have key : ∀ (r : List Int) (i : Nat) (ks : List Int) (us : List Bool) (hd n : Int), t.drop i = r → VClock room ks us hd → 0 ≤ n → n ≤ i →
      k room (runC room r ks us hd n).1 (runC room r ks us hd n).2.1 (runC room r ks us hd n).2.2.1 (runC room r ks us hd n).2.2.2 → L0_spec_RunClock t k (r.length + 1) n (i : Int) room hd ks us := by
    intro r
    induction r with
    | nil =>
      intro i ks us hd n hdr v n0 n1 hk
      have := drop_nil' hdr
      rw [L0_spec_RunClock, U0_spec_RunClock]
      simp only [br_dec]
      exact ⟨fun h => by omega, fun _ => hk⟩
    | cons x r ih =>
      intro i ks us hd n hdr v n0 n1 hk
      obtain ⟨h1, h2, h5, h3, h4⟩ := drop_cons' hdr
      have hx := t2 x (List.mem_of_getElem? h5)
      rw [List.length_cons, L0_spec_RunClock, U0_spec_RunClock]
      simp only [br_dec, Int.toNat_natCast, h2]
      have := toI_01 (tickM room ks us hd x).2.2.2
      exact ⟨fun _ => ⟨⟨by omega, by omega⟩, v, inR (by omega) (by omega), inR (by omega) (by omega), ih (i + 1) _ _ _ _ h3 (tick_valid v hx) (by omega) (by omega) hk⟩, fun h => by omega⟩
  exact ⟨_, key t 0 [] [] 0 0 rfl (clock0 hr) (by omega) (by omega) hk⟩
-- laws.equalInts
def T0_laws_equalInts (a0 : List Int) (b1 : List Int) (xi5 : Int) (k : Bool → Prop) (B0 : Int → Prop) : Prop :=
  br (decide (xi5 < (a0.length : Int)))
  ((0 ≤ xi5 ∧ xi5 < (a0.length : Int)) ∧
    (0 ≤ xi5 ∧ xi5 < (b1.length : Int)) ∧
    br ((List.getD a0 (Int.toNat xi5) (0 : Int)) != (List.getD b1 (Int.toNat xi5) (0 : Int)))
    (k false)
    (InR (xi5 + 1) ∧
      B0 (xi5 + 1)))
  (k true)
def L0_laws_equalInts (a0 : List Int) (b1 : List Int) (k : Bool → Prop) : Nat → Int → Prop
  | 0, _ => False
  | n + 1, xi5 => T0_laws_equalInts a0 b1 xi5 k (L0_laws_equalInts a0 b1 k n)
def G_laws_equalInts (a0 : List Int) (b1 : List Int) (k : Bool → Prop) (I0 : List Int → List Int → Int → Prop) : Prop :=
  br ((a0.length : Int) != (b1.length : Int))
  (k false)
  (I0 a0 b1 0)
def S_laws_equalInts (a0 : List Int) (b1 : List Int) (k : Bool → Prop) : Prop := G_laws_equalInts a0 b1 k (fun a0 b1 xi5 => ∃ j, L0_laws_equalInts a0 b1 k j xi5)
def F_laws_equalInts (a b : List Int) (k : Bool → Prop) : Prop := a.length ≤ 1000000000 ∧ k (decide (a = b))
theorem F_laws_equalInts_S {a b : List Int} {k : Bool → Prop} (h : F_laws_equalInts a b k) : S_laws_equalInts a b k := by
  obtain ⟨hl, hk⟩ := h
  refine br_bne.2 ⟨fun he => by rwa [decide_eq_false (fun e => he (by rw [e]))] at hk, fun he => ?_⟩
  have he : a.length = b.length := by omega
  have key : ∀ (r : List Int) (i : Nat), a.drop i = r → (r = b.drop i ↔ a = b) → L0_laws_equalInts a b k (r.length + 1) (i : Int) := by
    intro r
    induction r with
    | nil =>
      intro i hd hi
      have := drop_nil' hd
      rw [L0_laws_equalInts, T0_laws_equalInts]
      simp only [br_dec]
      exact ⟨fun h => by omega, fun _ => by rwa [decide_eq_true (hi.1 (List.drop_eq_nil_of_le (by omega)).symm)] at hk⟩
    | cons x r ih =>
      intro i hd hi
      obtain ⟨h1, h2, _, h3, _⟩ := drop_cons' hd
      obtain ⟨y, s, hs⟩ : ∃ y s, b.drop i = y :: s := by
        cases e : b.drop i with
        | nil => have := drop_nil' e; omega
        | cons y s => exact ⟨y, s, rfl⟩
      obtain ⟨g1, g2, _, g3, _⟩ := drop_cons' hs
      rw [List.length_cons, L0_laws_equalInts, T0_laws_equalInts]
      simp only [br_dec, br_bne, Int.toNat_natCast, h2, g2]
      rw [hs] at hi
      refine ⟨fun _ => ⟨⟨by omega, by omega⟩, ⟨by omega, by omega⟩, ?_⟩, fun h => by omega⟩
      have go : x = y → L0_laws_equalInts a b k (r.length + 1) ((i : Int) + 1) := fun hx => ih (i + 1) h3 (by rw [g3, ← hi, hx]; simp)
      have no : x ≠ y → k false := fun hx => by rwa [decide_eq_false (fun e => hx (List.cons.inj (hi.2 e)).1)] at hk
      exact ⟨no, fun hx => ⟨inR (by omega) (by omega), go hx⟩⟩
  exact ⟨_, key a 0 rfl (by simp)⟩
-- laws.equalBools
def T0_laws_equalBools (a0 : List Bool) (b1 : List Bool) (xi5 : Int) (k : Bool → Prop) (B0 : Int → Prop) : Prop :=
  br (decide (xi5 < (a0.length : Int)))
  ((0 ≤ xi5 ∧ xi5 < (a0.length : Int)) ∧
    (0 ≤ xi5 ∧ xi5 < (b1.length : Int)) ∧
    br (!((List.getD a0 (Int.toNat xi5) false) == (List.getD b1 (Int.toNat xi5) false)))
    (k false)
    (InR (xi5 + 1) ∧
      B0 (xi5 + 1)))
  (k true)
def L0_laws_equalBools (a0 : List Bool) (b1 : List Bool) (k : Bool → Prop) : Nat → Int → Prop
  | 0, _ => False
  | n + 1, xi5 => T0_laws_equalBools a0 b1 xi5 k (L0_laws_equalBools a0 b1 k n)
def G_laws_equalBools (a0 : List Bool) (b1 : List Bool) (k : Bool → Prop) (I0 : List Bool → List Bool → Int → Prop) : Prop :=
  br ((a0.length : Int) != (b1.length : Int))
  (k false)
  (I0 a0 b1 0)
def S_laws_equalBools (a0 : List Bool) (b1 : List Bool) (k : Bool → Prop) : Prop := G_laws_equalBools a0 b1 k (fun a0 b1 xi5 => ∃ j, L0_laws_equalBools a0 b1 k j xi5)
def F_laws_equalBools (a b : List Bool) (k : Bool → Prop) : Prop := a.length ≤ 1000000000 ∧ k (decide (a = b))
theorem F_laws_equalBools_S {a b : List Bool} {k : Bool → Prop} (h : F_laws_equalBools a b k) : S_laws_equalBools a b k := by
  obtain ⟨hl, hk⟩ := h
  refine br_bne.2 ⟨fun he => by rwa [decide_eq_false (fun e => he (by rw [e]))] at hk, fun he => ?_⟩
  have he : a.length = b.length := by omega
  have key : ∀ (r : List Bool) (i : Nat), a.drop i = r → (r = b.drop i ↔ a = b) → L0_laws_equalBools a b k (r.length + 1) (i : Int) := by
    intro r
    induction r with
    | nil =>
      intro i hd hi
      have := drop_nil' hd
      rw [L0_laws_equalBools, T0_laws_equalBools]
      simp only [br_dec]
      exact ⟨fun h => by omega, fun _ => by rwa [decide_eq_true (hi.1 (List.drop_eq_nil_of_le (by omega)).symm)] at hk⟩
    | cons x r ih =>
      intro i hd hi
      obtain ⟨h1, h2, _, h3, _⟩ := drop_cons' hd
      obtain ⟨y, s, hs⟩ : ∃ y s, b.drop i = y :: s := by
        cases e : b.drop i with
        | nil => have := drop_nil' e; omega
        | cons y s => exact ⟨y, s, rfl⟩
      obtain ⟨g1, g2, _, g3, _⟩ := drop_cons' hs
      rw [List.length_cons, L0_laws_equalBools, T0_laws_equalBools]
      simp only [br_dec, br_not, br_bb, Int.toNat_natCast, h2, g2]
      rw [hs] at hi
      refine ⟨fun _ => ⟨⟨by omega, by omega⟩, ⟨by omega, by omega⟩, ?_⟩, fun h => by omega⟩
      have go : x = y → L0_laws_equalBools a b k (r.length + 1) ((i : Int) + 1) := fun hx => ih (i + 1) h3 (by rw [g3, ← hi, hx]; simp)
      have no : x ≠ y → k false := fun hx => by rwa [decide_eq_false (fun e => hx (List.cons.inj (hi.2 e)).1)] at hk
      exact ⟨fun hx => ⟨inR (by omega) (by omega), go hx⟩, no⟩
  exact ⟨_, key a 0 rfl (by simp)⟩
-- laws.equalClock
def G_laws_equalClock (a0Room : Int) (a0Keys : List Int) (a0Used : List Bool) (a0Hand : Int) (b1Room : Int) (b1Keys : List Int) (b1Used : List Bool) (b1Hand : Int) (k : Bool → Prop) : Prop :=
  br (a0Room == b1Room)
  (F_laws_equalInts a0Keys b1Keys fun equalInts15 =>
    br equalInts15
    (F_laws_equalBools a0Used b1Used fun equalBools22 =>
      br equalBools22
      (k (a0Hand == b1Hand))
      (k false))
    (k false))
  (k false)
def S_laws_equalClock (a0Room : Int) (a0Keys : List Int) (a0Used : List Bool) (a0Hand : Int) (b1Room : Int) (b1Keys : List Int) (b1Used : List Bool) (b1Hand : Int) (k : Bool → Prop) : Prop := G_laws_equalClock a0Room a0Keys a0Used a0Hand b1Room b1Keys b1Used b1Hand k
def F_laws_equalClock (r1 : Int) (k1 : List Int) (u1 : List Bool) (h1 r2 : Int) (k2 : List Int) (u2 : List Bool) (h2 : Int) (k : Bool → Prop) : Prop :=
  (k1.length ≤ 1000000000 ∧ u1.length ≤ 1000000000) ∧ ∀ b : Bool, (b = true ↔ r1 = r2 ∧ k1 = k2 ∧ u1 = u2 ∧ h1 = h2) → k b
theorem F_laws_equalClock_S {r1 : Int} {k1 : List Int} {u1 : List Bool} {h1 r2 : Int} {k2 : List Int} {u2 : List Bool} {h2 : Int} {k : Bool → Prop} (h : F_laws_equalClock r1 k1 u1 h1 r2 k2 u2 h2 k) : S_laws_equalClock r1 k1 u1 h1 r2 k2 u2 h2 k := by
  obtain ⟨⟨l1, l2⟩, hk⟩ := h
  refine br_beq.2 ⟨fun e1 => ⟨l1, br_dec.2 ⟨fun e2 => ⟨l2, br_dec.2 ⟨fun e3 => hk _ (by simp [e1, e2, e3]), fun e3 => hk _ (by simp [e3])⟩⟩, fun e2 => hk _ (by simp [e2])⟩⟩, fun e1 => hk _ (by simp [e1])⟩
theorem equalClock_same {r1 : Int} {k1 : List Int} {u1 : List Bool} {h1 : Int} {k : Bool → Prop} (l1 : k1.length ≤ 1000000000) (l2 : u1.length ≤ 1000000000) (h : k true) : F_laws_equalClock r1 k1 u1 h1 r1 k1 u1 h1 k :=
  ⟨⟨l1, l2⟩, all_t ⟨rfl, rfl, rfl, rfl⟩ h⟩
-- impl.NewKeys
def T0_impl_NewKeys (t0 : List Int) (xt10 : Int) (xcount3 : Int) (xt11 : Int) (k : Int → Prop) (B0 : Int → Int → Prop) : Prop :=
  br (decide (xt11 < xt10))
  ((0 ≤ xt11 ∧ xt11 < (t0.length : Int)) ∧
    (0 ≤ xt11 ∧ xt11 ≤ (t0.length : Int)) ∧
    F_slices_Contains_sint_int (List.take (Int.toNat xt11) t0) (List.getD t0 (Int.toNat xt11) (0 : Int)) fun contains20 =>
    br (!contains20)
    (InR (xcount3 + 1) ∧
      InR (xt11 + 1) ∧
      B0 (xcount3 + 1) (xt11 + 1))
    (InR (xt11 + 1) ∧
      B0 xcount3 (xt11 + 1)))
  (k xcount3)
def L0_impl_NewKeys (t0 : List Int) (xt10 : Int) (k : Int → Prop) : Nat → Int → Int → Prop
  | 0, _, _ => False
  | n + 1, xcount3, xt11 => T0_impl_NewKeys t0 xt10 xcount3 xt11 k (L0_impl_NewKeys t0 xt10 k n)
def G_impl_NewKeys (t0 : List Int) (k : Int → Prop) (I0 : List Int → Int → Int → Int → Prop) : Prop :=
  F_impl_ValidTrace t0 fun validTrace7 =>
  br (!validTrace7)
  (k (-1))
  (I0 t0 (t0.length : Int) 0 0)
def S_impl_NewKeys (t0 : List Int) (k : Int → Prop) : Prop := G_impl_NewKeys t0 k (fun t0 xt10 xcount3 xt11 => ∃ j, L0_impl_NewKeys t0 xt10 k j xcount3 xt11)
def F_impl_NewKeys (t : List Int) (k : Int → Prop) : Prop := (VTrace t → k (nk t : Int)) ∧ (¬ (VTrace t) → k (-1))
theorem F_impl_NewKeys_S {t : List Int} {k : Int → Prop} (h : F_impl_NewKeys t k) : S_impl_NewKeys t k := by
  obtain ⟨hyes, hno⟩ := h
  intro b hb
  refine br_not.2 (br_iff.2 ⟨fun e => ?_, fun e => hno fun w => by rw [hb.2 w] at e; cases e⟩)
  have v := hb.1 e
  have hk := hyes v
  have hl := v.1
  have go : ∀ (m i : Nat), i + m = t.length → L0_impl_NewKeys t (t.length : Int) k (m + 1) (nk (t.take i) : Int) (i : Int) := by
    intro m
    induction m with
    | zero =>
      intro i hi
      rw [show t.take i = t from List.take_of_length_le (by omega), L0_impl_NewKeys, T0_impl_NewKeys]
      exact br_dec.2 ⟨fun h => by omega, fun _ => hk⟩
    | succ m ih =>
      intro i hi
      have := nk_le (t.take i)
      rw [List.length_take] at this
      have next := ih (i + 1) (by omega)
      rw [take_get (by omega), nk_snoc] at next
      rw [L0_impl_NewKeys, T0_impl_NewKeys]
      simp only [Int.toNat_natCast]
      refine br_yd (by omega) ⟨⟨by omega, by omega⟩, ⟨by omega, by omega⟩, by rw [List.length_take]; omega, br_not.2 (br_dec.2 ⟨fun hm => ?_, fun hm => ?_⟩)⟩
      · rw [if_pos hm] at next; exact ⟨inR (by omega) (by omega), next⟩
      · rw [if_neg hm] at next; exact ⟨inR (by omega) (by omega), inR (by omega) (by omega), next⟩
  exact ⟨_, go t.length 0 (by omega)⟩
-- laws.FnRunClockBound
def G_laws_FnRunClockBound_j0 (runClock21Hand : Int) (runClock21Keys : List Int) (runClock21Room : Int) (runClock21Used : List Bool) (runClock21r1 : Int) (runClock27Hand : Int) (runClock27Keys : List Int) (runClock27Room : Int) (runClock27Used : List Bool) (runClock27r1 : Int) (k : Bool → Prop) : Prop :=
  F_laws_equalClock runClock21Room runClock21Keys runClock21Used runClock21Hand runClock27Room runClock27Keys runClock27Used runClock27Hand fun equalClock45 =>
  br equalClock45
  (k (runClock21r1 == runClock27r1))
  (k false)
def G_laws_FnRunClockBound_j1 (drawRunClock15r0 : List Int) (drawRunClock15r1 : Int) (runClock21Keys : List Int) (k : Bool → Prop) : Prop :=
  (F_impl_NewKeys drawRunClock15r0 fun newKeys76 =>
    k ((runClock21Keys.length : Int) == (if newKeys76 < drawRunClock15r1 then newKeys76 else drawRunClock15r1))) ∧
  (True)
def G_laws_FnRunClockBound_j2 (k : Bool → Prop) : Prop :=
  (k false) ∧
  (True)
def G_laws_FnRunClockBound (code0 : List Int) (k : Bool → Prop) : Prop :=
  br (decide ((code0.length : Int) > 1048576))
  (k true)
  (F_spec_DrawRunClock code0 fun drawRunClock15r0 drawRunClock15r1 =>
    F_impl_RunClock drawRunClock15r0 drawRunClock15r1 fun runClock21Room runClock21Keys runClock21Used runClock21Hand runClock21r1 =>
    F_spec_RunClock drawRunClock15r0 drawRunClock15r1 fun runClock27Room runClock27Keys runClock27Used runClock27Hand runClock27r1 =>
    F_laws_equalClock runClock21Room runClock21Keys runClock21Used runClock21Hand runClock27Room runClock27Keys runClock27Used runClock27Hand fun equalClock32 =>
    br (!equalClock32)
    (G_laws_FnRunClockBound_j0 runClock21Hand runClock21Keys runClock21Room runClock21Used runClock21r1 runClock27Hand runClock27Keys runClock27Room runClock27Used runClock27r1 k)
    (br (runClock21r1 != runClock27r1)
      (G_laws_FnRunClockBound_j0 runClock21Hand runClock21Keys runClock21Room runClock21Used runClock21r1 runClock27Hand runClock27Keys runClock27Room runClock27Used runClock27r1 k)
      (br (decide (runClock21r1 < 0))
        (G_laws_FnRunClockBound_j0 runClock21Hand runClock21Keys runClock21Room runClock21Used runClock21r1 runClock27Hand runClock27Keys runClock27Room runClock27Used runClock27r1 k)
        (F_impl_NewKeys drawRunClock15r0 fun newKeys54 =>
          InR ((drawRunClock15r0.length : Int) - newKeys54) ∧
          br (decide (runClock21r1 ≤ ((drawRunClock15r0.length : Int) - newKeys54)))
          ((F_impl_NewKeys drawRunClock15r0 fun newKeys61 =>
              br (decide (newKeys61 > drawRunClock15r1))
              (G_laws_FnRunClockBound_j1 drawRunClock15r0 drawRunClock15r1 runClock21Keys k)
              (br (runClock21r1 == ((drawRunClock15r0.length : Int) - newKeys54))
                (G_laws_FnRunClockBound_j1 drawRunClock15r0 drawRunClock15r1 runClock21Keys k)
                (G_laws_FnRunClockBound_j2 k))) ∧
            (True))
          ((G_laws_FnRunClockBound_j2 k) ∧
            (True))))))
def H_laws_FnRunClockBound_j0 (runClock21Hand : Int) (runClock21Keys : List Int) (runClock21Room : Int) (runClock21Used : List Bool) (runClock21r1 : Int) (runClock27Hand : Int) (runClock27Keys : List Int) (runClock27Room : Int) (runClock27Used : List Bool) (runClock27r1 : Int) (k : Bool → Prop) : Prop :=
  F_laws_equalClock runClock21Room runClock21Keys runClock21Used runClock21Hand runClock27Room runClock27Keys runClock27Used runClock27Hand fun equalClock45 =>
  br equalClock45
  (k (runClock21r1 == runClock27r1))
  (k false)
def H_laws_FnRunClockBound (code0 : List Int) (k : Bool → Prop) : Prop :=
  br (decide ((code0.length : Int) > 1048576))
  (k true)
  (F_spec_DrawRunClock code0 fun drawRunClock15r0 drawRunClock15r1 =>
    F_impl_RunClock drawRunClock15r0 drawRunClock15r1 fun runClock21Room runClock21Keys runClock21Used runClock21Hand runClock21r1 =>
    F_spec_RunClock drawRunClock15r0 drawRunClock15r1 fun runClock27Room runClock27Keys runClock27Used runClock27Hand runClock27r1 =>
    F_laws_equalClock runClock21Room runClock21Keys runClock21Used runClock21Hand runClock27Room runClock27Keys runClock27Used runClock27Hand fun equalClock32 =>
    br (!equalClock32)
    (H_laws_FnRunClockBound_j0 runClock21Hand runClock21Keys runClock21Room runClock21Used runClock21r1 runClock27Hand runClock27Keys runClock27Room runClock27Used runClock27r1 k)
    (br (runClock21r1 != runClock27r1)
      (H_laws_FnRunClockBound_j0 runClock21Hand runClock21Keys runClock21Room runClock21Used runClock21r1 runClock27Hand runClock27Keys runClock27Room runClock27Used runClock27r1 k)
      (br (decide (runClock21r1 < 0))
        (H_laws_FnRunClockBound_j0 runClock21Hand runClock21Keys runClock21Room runClock21Used runClock21r1 runClock27Hand runClock27Keys runClock27Room runClock27Used runClock27r1 k)
        (F_impl_NewKeys drawRunClock15r0 fun newKeys54 =>
          InR ((drawRunClock15r0.length : Int) - newKeys54) ∧
          br (decide (runClock21r1 ≤ ((drawRunClock15r0.length : Int) - newKeys54)))
          (F_impl_NewKeys drawRunClock15r0 fun newKeys61 =>
            br (decide (newKeys61 > drawRunClock15r1))
            (F_impl_NewKeys drawRunClock15r0 fun newKeys76 =>
              k ((runClock21Keys.length : Int) == (if newKeys76 < drawRunClock15r1 then newKeys76 else drawRunClock15r1)))
            (br (runClock21r1 == ((drawRunClock15r0.length : Int) - newKeys54))
              (F_impl_NewKeys drawRunClock15r0 fun newKeys76 =>
                k ((runClock21Keys.length : Int) == (if newKeys76 < drawRunClock15r1 then newKeys76 else drawRunClock15r1)))
              (k false)))
          (k false)))))
theorem G_laws_FnRunClockBound_eq (code0 : List Int) (k : Bool → Prop) : G_laws_FnRunClockBound code0 k = H_laws_FnRunClockBound code0 k := by
  simp only [G_laws_FnRunClockBound, H_laws_FnRunClockBound, G_laws_FnRunClockBound_j0, G_laws_FnRunClockBound_j1, G_laws_FnRunClockBound_j2, H_laws_FnRunClockBound_j0, and_self, and_true]
def S_laws_FnRunClockBound (code0 : List Int) (k : Bool → Prop) : Prop := H_laws_FnRunClockBound code0 k
abbrev F_laws_FnRunClockBound (code0 : List Int) (k : Bool → Prop) : Prop := S_laws_FnRunClockBound code0 k
theorem F_laws_FnRunClockBound_S {code0 : List Int} {k : Bool → Prop} (h : F_laws_FnRunClockBound code0 k) : S_laws_FnRunClockBound code0 k := h
theorem law_FnRunClockBound (code : List Int) (hb : ∀ x ∈ code, 0 ≤ x ∧ x ≤ 255) : F_laws_FnRunClockBound code (fun r => r = true) := by
  refine br_dec.2 ⟨fun _ => rfl, fun hlen => ⟨hb, fun t room l1 => ?_⟩⟩
  by_cases v : VTrace t ∧ 1 ≤ room ∧ room ≤ 8
  · have a := runC_facts v.1 v.2
    have hv := (runC_valid t [] [] 0 0 (clock0 v.2) v.1.2).1
    have hp := a.pos
    have hlen := a.len
    have hk := a.keys
    have hf := a.full
    have hnew := a.new
    have ht := v.1.1
    have h1 : (runC room t [] [] 0 0).1.length ≤ 1000000000 := by omega
    have h2 : (runC room t [] [] 0 0).2.1.length ≤ 1000000000 := by have := hv.2.1; omega
    have fin : F_impl_NewKeys t fun n => ((((runC room t [] [] 0 0).1.length : Int) == (if n < room then n else room)) = true) := yes v.1 (beq_t (by split <;> omega))
    refine yes v (yes v (equalClock_same h1 h2 (br_nt (br_same' (br_nd (by omega) (yes v.1 ⟨inR (by omega) (by omega), br_yd (by omega) (yes v.1 (br_dec.2 ⟨fun _ => fin, fun h => br_ye ?_ fin⟩))⟩))))))
    have := a.fit (by omega); omega
  · exact nay v (nay v (equalClock_same (by simp) (by simp) (br_nt (br_same' (br_yd (by omega) (equalClock_same (by simp) (by simp) rfl))))))
end Go.Ev
