/- What the functions that the law reaches do, written as plain Lean. No statement is proved here. -/
import Derived.Test.YtlobdkcjlpifjabFnRunSegmentsBestP0
namespace Go.Ev
set_option linter.unusedVariables false
open Go
def G_spec_reader_one (r0b : List Int) (r0p : Int) (list1 : List Int) (k : Int → List Int → Int → Prop) : Prop :=
  F_spec_reader_pick r0b r0p (list1.length : Int) fun pick9 opick9b opick9p =>
  (0 ≤ pick9 ∧ pick9 < (list1.length : Int)) ∧
  k (List.getD list1 (Int.toNat pick9) (0 : Int)) opick9b opick9p
def S_spec_reader_one (r0b : List Int) (r0p : Int) (list1 : List Int) (k : Int → List Int → Int → Prop) : Prop := G_spec_reader_one r0b r0p list1 k
def F_spec_reader_one (b : List Int) (p : Int) (l : List Int) (k : Int → List Int → Int → Prop) : Prop := (Bs b ∧ 0 ≤ p ∧ p ≤ 1000000000 ∧ 0 < l.length) ∧ ∀ x ∈ l, k x b (p + 1)
theorem F_spec_reader_one_S {b : List Int} {p : Int} {l : List Int} {k : Int → List Int → Int → Prop} (h : F_spec_reader_one b p l k) : S_spec_reader_one b p l k := by
  obtain ⟨⟨hb, h0, h1, h2⟩, hk⟩ := h
  refine ⟨⟨hb, h0, h1⟩, fun x hx => ?_⟩
  rcases hx with ⟨h3, _⟩ | ⟨h3, h4⟩
  · omega
  · have hlt : x.toNat < l.length := by omega
    have hx : l[x.toNat]? = some (l.getD x.toNat 0) := by simp [List.getD, hlt]
    exact ⟨⟨h3, h4⟩, hk _ (List.mem_of_getElem? hx)⟩
-- spec.copyInts
def G_spec_copyInts (list0 : List Int) (k : List Int → Prop) : Prop :=
  (0 + list0.length ≤ 1000000000) ∧
  k list0
def S_spec_copyInts (list0 : List Int) (k : List Int → Prop) : Prop := G_spec_copyInts list0 k
def F_spec_copyInts (l : List Int) (k : List Int → Prop) : Prop := l.length ≤ 1000000000 ∧ k l
theorem F_spec_copyInts_S {l : List Int} {k : List Int → Prop} (h : F_spec_copyInts l k) : S_spec_copyInts l k := ⟨by have := h.1; omega, h.2⟩
-- (*spec.reader).spoil
def G_spec_reader_spoil (r0b : List Int) (r0p : Int) (list1 : List Int) (n2 : Int) (k : List Int → List Int → Int → Prop) : Prop :=
  F_spec_copyInts list1 fun copyInts9 =>
  F_spec_reader_pick r0b r0p (20 : Int) fun pick11 opick11b opick11p =>
  br (pick11 == 0)
  ((copyInts9.length + 1 ≤ 1000000000) ∧
    k (copyInts9 ++ ([n2] : List Int)) opick11b opick11p)
  (br (pick11 == 1)
    (br (decide ((copyInts9.length : Int) > 0))
      ((0 ≤ (1 : Int) ∧ 1 ≤ (copyInts9.length : Int)) ∧
        k (List.take (copyInts9.length - 1) (List.drop 1 copyInts9)) opick11b opick11p)
      (k copyInts9 opick11b opick11p))
    (br (pick11 == 2)
      (br (decide ((copyInts9.length : Int) > 0))
        (F_spec_reader_pick opick11b opick11p (copyInts9.length : Int) fun pick34 opick34b opick34p =>
          F_spec_reader_one opick34b opick34p ([(-1), n2, 0, 1] : List Int) fun one38 oone38b oone38p =>
          (0 ≤ pick34 ∧ pick34 < (copyInts9.length : Int)) ∧
          k (List.set copyInts9 (Int.toNat pick34) one38) oone38b oone38p)
        (k copyInts9 opick11b opick11p))
      (k copyInts9 opick11b opick11p)))
def S_spec_reader_spoil (r0b : List Int) (r0p : Int) (list1 : List Int) (n2 : Int) (k : List Int → List Int → Int → Prop) : Prop := G_spec_reader_spoil r0b r0p list1 n2 k
def F_spec_reader_spoil (b : List Int) (p : Int) (l : List Int) (n : Int) (k : List Int → List Int → Int → Prop) : Prop :=
  (Bs b ∧ 0 ≤ p ∧ p ≤ 100000000 ∧ l.length ≤ 100000000) ∧ ∀ r p', r.length ≤ l.length + 1 → p ≤ p' → p' ≤ p + 10 → k r b p'
theorem F_spec_reader_spoil_S {b : List Int} {p : Int} {l : List Int} {n : Int} {k : List Int → List Int → Int → Prop} (h : F_spec_reader_spoil b p l n k) : S_spec_reader_spoil b p l n k := by
  obtain ⟨⟨hb, h0, h1, h2⟩, hk⟩ := h
  refine ⟨by omega, ⟨hb, h0, by omega⟩, fun x hx => br_beq.2 ⟨fun _ => ⟨by omega, hk _ _ (by simp) (by omega) (by omega)⟩, fun _ => br_beq.2 ⟨fun _ => br_dec.2 ⟨fun h3 => ⟨⟨by omega, by omega⟩, hk _ _ (by simp; omega) (by omega) (by omega)⟩, fun _ => hk _ _ (by omega) (by omega) (by omega)⟩, fun _ => br_beq.2 ⟨fun _ => br_dec.2 ⟨fun h3 => ?_, fun _ => hk _ _ (by omega) (by omega) (by omega)⟩, fun _ => hk _ _ (by omega) (by omega) (by omega)⟩⟩⟩⟩
  refine ⟨⟨hb, by omega, by omega⟩, fun y hy => ⟨⟨hb, by omega, by omega, by simp⟩, fun z hz => ⟨?_, hk _ _ (by simp) (by omega) (by omega)⟩⟩⟩
  rcases hy with ⟨h4, _⟩ | h4
  · omega
  · exact h4
-- spec.someTrace
def T0_spec_someTrace (one10 : Int) (xn5 : Int) (xb100000c0 : List Int) (xb100000c1 : Int) (xout3 : List Int) (k : List Int → List Int → Int → Prop) (B0 : Int → List Int → Int → List Int → Prop) : Prop :=
  br (decide (xn5 > 0))
  (F_spec_reader_pick xb100000c0 xb100000c1 one10 fun pick20 opick20b opick20p =>
    br (decide ((xout3.length : Int) > 0))
    (F_spec_reader_pick opick20b opick20p (6 : Int) fun pick26 opick26b opick26p =>
      br (pick26 == 0)
      (InR ((xout3.length : Int) - 1) ∧
        (0 ≤ ((xout3.length : Int) - 1) ∧ ((xout3.length : Int) - 1) < (xout3.length : Int)) ∧
        (xout3.length + 1 ≤ 1000000000) ∧
        InR (xn5 - 1) ∧
        B0 (xn5 - 1) opick26b opick26p (xout3 ++ ([(List.getD xout3 (Int.toNat ((xout3.length : Int) - 1)) (0 : Int))] : List Int)))
      ((xout3.length + 1 ≤ 1000000000) ∧
        InR (xn5 - 1) ∧
        B0 (xn5 - 1) opick26b opick26p (xout3 ++ ([pick20] : List Int))))
    ((xout3.length + 1 ≤ 1000000000) ∧
      InR (xn5 - 1) ∧
      B0 (xn5 - 1) opick20b opick20p (xout3 ++ ([pick20] : List Int))))
  (F_spec_reader_pick xb100000c0 xb100000c1 (24 : Int) fun pick40 opick40b opick40p =>
    br (pick40 == 0)
    ((xout3.length + 1 ≤ 1000000000) ∧
      F_spec_reader_spoil opick40b opick40p (xout3 ++ ([3] : List Int)) (32 : Int) fun spoil47 ospoil47b ospoil47p =>
      k spoil47 ospoil47b ospoil47p)
    (br (pick40 == 1)
      ((xout3.length + xout3.length ≤ 1000000000) ∧
        ((List.length (xout3 ++ xout3)) + 1 ≤ 1000000000) ∧
        k ((xout3 ++ xout3) ++ ([1] : List Int)) opick40b opick40p)
      (k xout3 opick40b opick40p)))
def L0_spec_someTrace (one10 : Int) (k : List Int → List Int → Int → Prop) : Nat → Int → List Int → Int → List Int → Prop
  | 0, _, _, _, _ => False
  | n + 1, xn5, xb100000c0, xb100000c1, xout3 => T0_spec_someTrace one10 xn5 xb100000c0 xb100000c1 xout3 k (L0_spec_someTrace one10 k n)
def G_spec_someTrace (r0b : List Int) (r0p : Int) (I0 : Int → Int → List Int → Int → List Int → Prop) : Prop :=
  F_spec_reader_one r0b r0p ([4, 6, 3, 10, 2, 32] : List Int) fun one10 oone10b oone10p =>
  F_spec_reader_one oone10b oone10p ([8, 12, 16, 20, 24, 3, 1, 0] : List Int) fun one13 oone13b oone13p =>
  I0 one10 one13 oone13b oone13p ([] : List Int)
def S_spec_someTrace (r0b : List Int) (r0p : Int) (k : List Int → List Int → Int → Prop) : Prop := G_spec_someTrace r0b r0p (fun one10 xn5 xb100000c0 xb100000c1 xout3 => ∃ j, L0_spec_someTrace one10 k j xn5 xb100000c0 xb100000c1 xout3)
def F_spec_someTrace (b : List Int) (p : Int) (k : List Int → List Int → Int → Prop) : Prop :=
  (Bs b ∧ 0 ≤ p ∧ p ≤ 10000000) ∧ ∀ t p', t.length ≤ 100 → p ≤ p' → p' ≤ p + 200 → k t b p'
theorem F_spec_someTrace_S {b : List Int} {p : Int} {k : List Int → List Int → Int → Prop} (h : F_spec_someTrace b p k) : S_spec_someTrace b p k := by
  obtain ⟨⟨hb, h0, h1⟩, hk⟩ := h
  refine ⟨⟨hb, by omega, by omega, by simp⟩, fun many hm => ⟨⟨hb, by omega, by omega, by simp⟩, fun n hn => ?_⟩⟩
  have key : ∀ (d : Nat) (q : Int) (out : List Int), out.length + d ≤ 30 → p ≤ q → q + 2 * d ≤ p + 80 → L0_spec_someTrace many k (d + 1) (d : Int) b q out := by
    intro d
    induction d with
    | zero =>
      intro q out g0 g1 g2
      rw [L0_spec_someTrace, T0_spec_someTrace]
      refine br_dec.2 ⟨fun h => by omega, fun _ => ⟨⟨hb, by omega, by omega⟩, fun x hx => br_beq.2 ⟨fun _ => ⟨by omega, ⟨hb, by omega, by omega, by simp; omega⟩, fun r p' r1 r2 r3 => hk _ _ (by simp at r1; omega) (by omega) (by omega)⟩, fun _ => br_beq.2 ⟨fun _ => ⟨by omega, by simp; omega, hk _ _ (by simp; omega) (by omega) (by omega)⟩, fun _ => hk _ _ (by omega) (by omega) (by omega)⟩⟩⟩⟩
    | succ d ih =>
      intro q out g0 g1 g2
      rw [L0_spec_someTrace, T0_spec_someTrace]
      have e : ((d + 1 : Nat) : Int) - 1 = (d : Int) := by omega
      refine br_dec.2 ⟨fun _ => ⟨⟨hb, by omega, by omega⟩, fun x hx => br_dec.2 ⟨fun _ => ⟨⟨hb, by omega, by omega⟩, fun y hy => br_beq.2 ⟨fun _ => ⟨inR (by omega) (by omega), ⟨by omega, by omega⟩, by omega, inR (by omega) (by omega), ?_⟩, fun _ => ⟨by omega, inR (by omega) (by omega), ?_⟩⟩⟩, fun _ => ⟨by omega, inR (by omega) (by omega), ?_⟩⟩⟩, fun h => by omega⟩
      all_goals
        rw [e]
        exact ih _ _ (by simp; omega) (by omega) (by omega)
  simp only [List.mem_cons, List.not_mem_nil, or_false] at hn
  refine ⟨n.toNat + 1, ?_⟩
  have := key n.toNat (p + 1 + 1) [] (by simp; omega) (by omega) (by omega)
  rwa [Int.toNat_of_nonneg (by omega)] at this
-- spec.someRoom
def G_spec_someRoom (r0b : List Int) (r0p : Int) (k : Int → List Int → Int → Prop) : Prop :=
  F_spec_reader_one r0b r0p ([2, 3, 4, 1, 8, 5, 2, 3, 0, 9] : List Int) fun one5 oone5b oone5p =>
  k one5 oone5b oone5p
def S_spec_someRoom (r0b : List Int) (r0p : Int) (k : Int → List Int → Int → Prop) : Prop := G_spec_someRoom r0b r0p k
abbrev F_spec_someRoom (r0b : List Int) (r0p : Int) (k : Int → List Int → Int → Prop) : Prop := S_spec_someRoom r0b r0p k
theorem F_spec_someRoom_S {r0b : List Int} {r0p : Int} {k : Int → List Int → Int → Prop} (h : F_spec_someRoom r0b r0p k) : S_spec_someRoom r0b r0p k := h
-- spec.DrawRunSegments
def G_spec_DrawRunSegments (code0 : List Int) (k : List Int → Int → Int → Prop) : Prop :=
  F_spec_newReader code0 fun newReader9b newReader9p =>
  F_spec_someTrace newReader9b newReader9p fun someTrace11 osomeTrace11b osomeTrace11p =>
  F_spec_someRoom osomeTrace11b osomeTrace11p fun someRoom13 osomeRoom13b osomeRoom13p =>
  F_spec_someRoom osomeRoom13b osomeRoom13p fun someRoom17 osomeRoom17b osomeRoom17p =>
  k someTrace11 someRoom13 someRoom17
def S_spec_DrawRunSegments (code0 : List Int) (k : List Int → Int → Int → Prop) : Prop := G_spec_DrawRunSegments code0 k
def F_spec_DrawRunSegments (code : List Int) (k : List Int → Int → Int → Prop) : Prop :=
  (∀ x ∈ code, 0 ≤ x ∧ x ≤ 255) ∧ ∀ t trial safe, t.length ≤ 100 → k t trial safe
theorem F_spec_DrawRunSegments_S {code : List Int} {k : List Int → Int → Int → Prop} (h : F_spec_DrawRunSegments code k) : S_spec_DrawRunSegments code k :=
  ⟨h.1, fun b hb => ⟨⟨hb, by omega, by omega⟩, fun t p' l1 _ _ => ⟨⟨hb, by omega, by omega, by simp⟩, fun r _ => ⟨⟨hb, by omega, by omega, by simp⟩, fun s _ => h.2 t r s l1⟩⟩⟩⟩
-- impl.validKey
def G_impl_validKey (key0 : Int) (k : Bool → Prop) : Prop :=
  br (decide (0 ≤ key0))
  (k (decide (key0 ≤ 31)))
  (k false)
def S_impl_validKey (key0 : Int) (k : Bool → Prop) : Prop := G_impl_validKey key0 k
def F_impl_validKey (n : Int) (k : Bool → Prop) : Prop := k (decide (0 ≤ n ∧ n ≤ 31))
theorem F_impl_validKey_S {n : Int} {k : Bool → Prop} (h : F_impl_validKey n k) : S_impl_validKey n k := by
  unfold F_impl_validKey at h
  simp only [S_impl_validKey, G_impl_validKey, br_dec]
  refine ⟨fun h1 => ?_, fun h1 => ?_⟩
  · simpa [h1] using h
  · simpa [h1] using h
-- impl.ValidTrace
def T0_impl_ValidTrace (t0 : List Int) (xt9 : Int) (xt10 : Int) (k : Bool → Prop) (B0 : Int → Prop) : Prop :=
  br (decide (xt10 < xt9))
  ((0 ≤ xt10 ∧ xt10 < (t0.length : Int)) ∧
    F_impl_validKey (List.getD t0 (Int.toNat xt10) (0 : Int)) fun validKey15 =>
    br (!validKey15)
    (k false)
    (InR (xt10 + 1) ∧
      B0 (xt10 + 1)))
  (k true)
def L0_impl_ValidTrace (t0 : List Int) (xt9 : Int) (k : Bool → Prop) : Nat → Int → Prop
  | 0, _ => False
  | n + 1, xt10 => T0_impl_ValidTrace t0 xt9 xt10 k (L0_impl_ValidTrace t0 xt9 k n)
def G_impl_ValidTrace (t0 : List Int) (k : Bool → Prop) (I0 : List Int → Int → Int → Prop) : Prop :=
  br (decide ((t0.length : Int) > 24))
  (k false)
  (I0 t0 (t0.length : Int) 0)
def S_impl_ValidTrace (t0 : List Int) (k : Bool → Prop) : Prop := G_impl_ValidTrace t0 k (fun t0 xt9 xt10 => ∃ j, L0_impl_ValidTrace t0 xt9 k j xt10)
def F_impl_ValidTrace (t : List Int) (k : Bool → Prop) : Prop := ∀ b : Bool, (b = true ↔ VTrace t) → k b
theorem F_impl_ValidTrace_S {t : List Int} {k : Bool → Prop} (h : F_impl_ValidTrace t k) : S_impl_ValidTrace t k := by
  have hno : ¬ VTrace t → k false := fun hv => h false (by simp [hv])
  have key : t.length ≤ 24 → ∀ (r : List Int) (i : Nat), t.drop i = r → (∀ x ∈ t.take i, 0 ≤ x ∧ x ≤ 31) → L0_impl_ValidTrace t (t.length : Int) k (r.length + 1) (i : Int) := by
    intro hl r
    induction r with
    | nil =>
      intro i hd he
      have := drop_nil' hd
      rw [List.take_of_length_le this] at he
      rw [L0_impl_ValidTrace, T0_impl_ValidTrace]
      simp only [br_dec]
      exact ⟨fun h => by omega, fun _ => h true (by simp only [true_iff]; exact ⟨hl, he⟩)⟩
    | cons x r ih =>
      intro i hd he
      obtain ⟨h1, h2, h5, h3, h4⟩ := drop_cons' hd
      rw [List.length_cons, L0_impl_ValidTrace, T0_impl_ValidTrace]
      simp only [br_dec, F_impl_validKey, Int.toNat_natCast, h2, br_not]
      refine ⟨fun _ => ⟨⟨by omega, by omega⟩, fun hx => ⟨inR (by omega) (by omega), ih (i + 1) h3 ?_⟩, fun hx => hno fun v => hx (v.2 x (List.mem_of_getElem? h5))⟩, fun h => by omega⟩
      rw [h4]; intro y hy
      rcases List.mem_append.1 hy with hy | hy
      · exact he y hy
      · simp at hy; subst hy; exact hx
  exact br_dec.2 ⟨fun h3 => hno fun v => by have := v.1; omega, fun h3 => ⟨_, key (by omega) t 0 rfl (by simp)⟩⟩
-- impl.validRoom
def G_impl_validRoom (room0 : Int) (k : Bool → Prop) : Prop :=
  br (decide (1 ≤ room0))
  (k (decide (room0 ≤ 8)))
  (k false)
def S_impl_validRoom (room0 : Int) (k : Bool → Prop) : Prop := G_impl_validRoom room0 k
def F_impl_validRoom (n : Int) (k : Bool → Prop) : Prop := k (decide (1 ≤ n ∧ n ≤ 8))
theorem F_impl_validRoom_S {n : Int} {k : Bool → Prop} (h : F_impl_validRoom n k) : S_impl_validRoom n k := by
  unfold F_impl_validRoom at h
  simp only [S_impl_validRoom, G_impl_validRoom, br_dec]
  refine ⟨fun h1 => ?_, fun h1 => ?_⟩
  · simpa [h1] using h
  · simpa [h1] using h
-- slices.Index[[]int,int]
def T0_slices_Index_sint_int (s0 : List Int) (v1 : Int) (xt7 : Int) (xt8 : Int) (k : Int → Prop) (B0 : Int → Prop) : Prop :=
  br (decide (xt8 < xt7))
  ((0 ≤ xt8 ∧ xt8 < (s0.length : Int)) ∧
    br (v1 == (List.getD s0 (Int.toNat xt8) (0 : Int)))
    (k xt8)
    (InR (xt8 + 1) ∧
      B0 (xt8 + 1)))
  (k (-1))
def L0_slices_Index_sint_int (s0 : List Int) (v1 : Int) (xt7 : Int) (k : Int → Prop) : Nat → Int → Prop
  | 0, _ => False
  | n + 1, xt8 => T0_slices_Index_sint_int s0 v1 xt7 xt8 k (L0_slices_Index_sint_int s0 v1 xt7 k n)
def G_slices_Index_sint_int (s0 : List Int) (v1 : Int) (I0 : List Int → Int → Int → Int → Prop) : Prop :=
  I0 s0 v1 (s0.length : Int) 0
def S_slices_Index_sint_int (s0 : List Int) (v1 : Int) (k : Int → Prop) : Prop := G_slices_Index_sint_int s0 v1 (fun s0 v1 xt7 xt8 => ∃ j, L0_slices_Index_sint_int s0 v1 xt7 k j xt8)
def F_slices_Index_sint_int (l : List Int) (n : Int) (k : Int → Prop) : Prop := l.length ≤ 1000000000 ∧ k (plc l n)
theorem F_slices_Index_sint_int_S {l : List Int} {n : Int} {k : Int → Prop} (h : F_slices_Index_sint_int l n k) : S_slices_Index_sint_int l n k := by
  obtain ⟨hl, hk⟩ := h
  have key : ∀ (r : List Int) (i : Nat), l.drop i = r → plcF r n i = plc l n → L0_slices_Index_sint_int l n (l.length : Int) k (r.length + 1) (i : Int) := by
    intro r
    induction r with
    | nil =>
      intro i hd he
      have := drop_nil' hd
      rw [L0_slices_Index_sint_int, T0_slices_Index_sint_int]
      simp only [br_dec]
      exact ⟨fun h => by omega, fun _ => by rw [show (-1 : Int) = plc l n from he]; exact hk⟩
    | cons x r ih =>
      intro i hd he
      obtain ⟨h1, h2, _, h3, _⟩ := drop_cons' hd
      rw [List.length_cons, L0_slices_Index_sint_int, T0_slices_Index_sint_int]
      simp only [br_dec, br_beq, Int.toNat_natCast, h2]
      refine ⟨fun _ => ⟨⟨by omega, by omega⟩, fun hx => ?_, fun hx => ⟨inR (by omega) (by omega), ?_⟩⟩, fun h => by omega⟩
      · simp only [plcF, if_pos hx.symm] at he; rw [he]; exact hk
      · simp only [plcF, if_neg (Ne.symm hx)] at he; exact ih (i + 1) h3 he
  exact ⟨_, key l 0 rfl rfl⟩
-- slices.Contains[[]int,int]
def G_slices_Contains_sint_int (s0 : List Int) (v1 : Int) (k : Bool → Prop) : Prop :=
  F_slices_Index_sint_int s0 v1 fun index7 =>
  k (decide (index7 ≥ 0))
def S_slices_Contains_sint_int (s0 : List Int) (v1 : Int) (k : Bool → Prop) : Prop := G_slices_Contains_sint_int s0 v1 k
def F_slices_Contains_sint_int (l : List Int) (n : Int) (k : Bool → Prop) : Prop := l.length ≤ 1000000000 ∧ k (decide (n ∈ l))
theorem F_slices_Contains_sint_int_S {l : List Int} {n : Int} {k : Bool → Prop} (h : F_slices_Contains_sint_int l n k) : S_slices_Contains_sint_int l n k := by
  refine ⟨h.1, ?_⟩
  have : decide (plc l n ≥ 0) = decide (n ∈ l) := decide_eq_decide.2 plc_ge
  show k (decide (plc l n ≥ 0))
  rw [this]; exact h.2
-- impl.differentKeys
def T0_impl_differentKeys (list0 : List Int) (xt6 : Int) (xt7 : Int) (k : Bool → Prop) (B0 : Int → Prop) : Prop :=
  br (decide (xt7 < xt6))
  ((0 ≤ xt7 ∧ xt7 < (list0.length : Int)) ∧
    F_impl_validKey (List.getD list0 (Int.toNat xt7) (0 : Int)) fun validKey13 =>
    br (!validKey13)
    (k false)
    ((0 ≤ xt7 ∧ xt7 ≤ (list0.length : Int)) ∧
      F_slices_Contains_sint_int (List.take (Int.toNat xt7) list0) (List.getD list0 (Int.toNat xt7) (0 : Int)) fun contains20 =>
      br contains20
      (k false)
      (InR (xt7 + 1) ∧
        B0 (xt7 + 1))))
  (k true)
def L0_impl_differentKeys (list0 : List Int) (xt6 : Int) (k : Bool → Prop) : Nat → Int → Prop
  | 0, _ => False
  | n + 1, xt7 => T0_impl_differentKeys list0 xt6 xt7 k (L0_impl_differentKeys list0 xt6 k n)
def G_impl_differentKeys (list0 : List Int) (I0 : List Int → Int → Int → Prop) : Prop :=
  I0 list0 (list0.length : Int) 0
def S_impl_differentKeys (list0 : List Int) (k : Bool → Prop) : Prop := G_impl_differentKeys list0 (fun list0 xt6 xt7 => ∃ j, L0_impl_differentKeys list0 xt6 k j xt7)
def F_impl_differentKeys (l : List Int) (k : Bool → Prop) : Prop := l.length ≤ 1000000000 ∧ ∀ b : Bool, (b = true ↔ (∀ x ∈ l, 0 ≤ x ∧ x ≤ 31) ∧ l.Nodup) → k b
theorem F_impl_differentKeys_S {l : List Int} {k : Bool → Prop} (h : F_impl_differentKeys l k) : S_impl_differentKeys l k := by
  obtain ⟨hl, h⟩ := h
  have hno : ¬ ((∀ x ∈ l, 0 ≤ x ∧ x ≤ 31) ∧ l.Nodup) → k false := fun hv => h false (by simp only [Bool.false_eq_true, false_iff]; exact hv)
  have key : ∀ (r : List Int) (i : Nat), l.drop i = r → (∀ x ∈ l.take i, 0 ≤ x ∧ x ≤ 31) → (l.take i).Nodup → L0_impl_differentKeys l (l.length : Int) k (r.length + 1) (i : Int) := by
    intro r
    induction r with
    | nil =>
      intro i hd he hn
      have := drop_nil' hd
      rw [List.take_of_length_le this] at he hn
      rw [L0_impl_differentKeys, T0_impl_differentKeys]
      simp only [br_dec]
      exact ⟨fun h => by omega, fun _ => h true (by simp only [true_iff]; exact ⟨he, hn⟩)⟩
    | cons x r ih =>
      intro i hd he hn
      obtain ⟨h1, h2, h5, h3, h4⟩ := drop_cons' hd
      rw [List.length_cons, L0_impl_differentKeys, T0_impl_differentKeys]
      simp only [br_dec, F_impl_validKey, F_slices_Contains_sint_int, Int.toNat_natCast, h2, br_not]
      have hxl : x ∈ l := List.mem_of_getElem? h5
      refine ⟨fun _ => ⟨⟨by omega, by omega⟩, fun hx => ⟨⟨by omega, by omega⟩, by simp; omega, fun hc => ?_, fun hc => ⟨inR (by omega) (by omega), ?_⟩⟩, fun hx => hno fun v => hx (v.1 x hxl)⟩, fun h => by omega⟩
      · refine hno fun v => ?_
        have hn2 := v.2
        rw [← List.take_append_drop i l, hd] at hn2
        exact (List.nodup_append.1 hn2).2.2 x hc x (by simp) rfl
      · refine ih (i + 1) h3 ?_ ?_
        · rw [h4]; intro y hy
          rcases List.mem_append.1 hy with hy | hy
          · exact he y hy
          · simp at hy; subst hy; exact hx
        · rw [h4, List.nodup_append]
          refine ⟨hn, by simp, fun a ha b hb e => ?_⟩
          simp at hb; subst hb; subst e; exact hc ha
  exact ⟨_, key l 0 rfl (by simp) (by simp)⟩
-- impl.ValidKeys
def G_impl_ValidKeys (list0 : List Int) (room1 : Int) (k : Bool → Prop) : Prop :=
  F_impl_validRoom room1 fun validRoom6 =>
  br validRoom6
  (br (decide ((list0.length : Int) ≤ room1))
    (F_impl_differentKeys list0 fun differentKeys15 =>
      k differentKeys15)
    (k false))
  (k false)
def S_impl_ValidKeys (list0 : List Int) (room1 : Int) (k : Bool → Prop) : Prop := G_impl_ValidKeys list0 room1 k
def F_impl_ValidKeys (l : List Int) (room : Int) (k : Bool → Prop) : Prop := ∀ b : Bool, (b = true ↔ VKeys l room) → k b
theorem F_impl_ValidKeys_S {l : List Int} {room : Int} {k : Bool → Prop} (h : F_impl_ValidKeys l room k) : S_impl_ValidKeys l room k := by
  have hno : ¬ VKeys l room → k false := fun hv => h false (by simp [hv])
  refine br_dec.2 ⟨fun h1 => br_dec.2 ⟨fun h3 => ⟨by omega, fun b hb => h b ?_⟩, fun h3 => hno fun v => by have := v.2.2.1; omega⟩, fun h1 => hno fun v => h1 ⟨v.1, v.2.1⟩⟩
  rw [hb]
  exact ⟨fun g => ⟨h1.1, h1.2, h3, g.1, g.2⟩, fun v => v.2.2.2⟩
-- impl.ValidSegments
def T0_impl_ValidSegments (s0New : List Int) (s0Old : List Int) (s0Safe : Int) (s0Trial : Int) (xt21 : Int) (xt22 : Int) (k : Bool → Prop) (B0 : Int → Prop) : Prop :=
  br (decide (xt22 < xt21))
  ((0 ≤ xt22 ∧ xt22 < (s0New.length : Int)) ∧
    F_slices_Contains_sint_int s0Old (List.getD s0New (Int.toNat xt22) (0 : Int)) fun contains29 =>
    br contains29
    (k false)
    (InR (xt22 + 1) ∧
      B0 (xt22 + 1)))
  (k true)
def L0_impl_ValidSegments (s0New : List Int) (s0Old : List Int) (s0Safe : Int) (s0Trial : Int) (xt21 : Int) (k : Bool → Prop) : Nat → Int → Prop
  | 0, _ => False
  | n + 1, xt22 => T0_impl_ValidSegments s0New s0Old s0Safe s0Trial xt21 xt22 k (L0_impl_ValidSegments s0New s0Old s0Safe s0Trial xt21 k n)
def G_impl_ValidSegments (s0Trial : Int) (s0Safe : Int) (s0New : List Int) (s0Old : List Int) (k : Bool → Prop) (I0 : List Int → List Int → Int → Int → Int → Int → Prop) : Prop :=
  F_impl_ValidKeys s0New s0Trial fun validKeys9 =>
  br (!validKeys9)
  (k false)
  (F_impl_ValidKeys s0Old s0Safe fun validKeys16 =>
    br (!validKeys16)
    (k false)
    (I0 s0New s0Old s0Safe s0Trial (s0New.length : Int) 0))
def S_impl_ValidSegments (s0Trial : Int) (s0Safe : Int) (s0New : List Int) (s0Old : List Int) (k : Bool → Prop) : Prop := G_impl_ValidSegments s0Trial s0Safe s0New s0Old k (fun s0New s0Old s0Safe s0Trial xt21 xt22 => ∃ j, L0_impl_ValidSegments s0New s0Old s0Safe s0Trial xt21 k j xt22)
def F_impl_ValidSegments (trial safe : Int) (new old : List Int) (k : Bool → Prop) : Prop := ∀ b : Bool, (b = true ↔ VSegs trial safe new old) → k b
theorem F_impl_ValidSegments_S {trial safe : Int} {new old : List Int} {k : Bool → Prop} (h : F_impl_ValidSegments trial safe new old k) : S_impl_ValidSegments trial safe new old k := by
  have hno : ¬ VSegs trial safe new old → k false := fun hv => h false (by simp [hv])
  intro b1 hb1
  rw [br_not, br_iff]
  refine ⟨fun e1 => ?_, fun e => hno fun w => by rw [hb1.2 w.1] at e; cases e⟩
  intro b2 hb2
  rw [br_not, br_iff]
  refine ⟨fun e2 => ?_, fun e => hno fun w => by rw [hb2.2 w.2.1] at e; cases e⟩
  have v1 := hb1.1 e1
  have v2 := hb2.1 e2
  have l1 : new.length ≤ 8 ∧ old.length ≤ 8 := by have := v1.2.1; have := v1.2.2.1; have := v2.2.1; have := v2.2.2.1; omega
  have key : ∀ (r : List Int) (i : Nat), new.drop i = r → (∀ x ∈ new.take i, x ∉ old) → L0_impl_ValidSegments new old safe trial (new.length : Int) k (r.length + 1) (i : Int) := by
    intro r
    induction r with
    | nil =>
      intro i hd he
      have := drop_nil' hd
      rw [List.take_of_length_le this] at he
      rw [L0_impl_ValidSegments, T0_impl_ValidSegments]
      simp only [br_dec]
      exact ⟨fun h => by omega, fun _ => h true (by simp only [true_iff]; exact ⟨v1, v2, he⟩)⟩
    | cons x r ih =>
      intro i hd he
      obtain ⟨h1, h2, h5, h3, h4⟩ := drop_cons' hd
      rw [List.length_cons, L0_impl_ValidSegments, T0_impl_ValidSegments]
      simp only [br_dec, F_slices_Contains_sint_int, Int.toNat_natCast, h2]
      refine ⟨fun _ => ⟨⟨by omega, by omega⟩, by omega, fun hx => hno fun v => v.2.2 x (List.mem_of_getElem? h5) hx, fun hx => ⟨inR (by omega) (by omega), ih (i + 1) h3 ?_⟩⟩, fun h => by omega⟩
      rw [h4]; intro y hy
      rcases List.mem_append.1 hy with hy | hy
      · exact he y hy
      · simp at hy; subst hy; exact hx
  exact ⟨_, key new 0 rfl (by simp)⟩
-- impl.withoutKey
def T0_impl_withoutKey (key1 : Int) (list0 : List Int) (xt10 : Int) (xt11 : Int) (xout5 : List Int) (k : List Int → Prop) (B0 : Int → List Int → Prop) : Prop :=
  br (decide (xt11 < xt10))
  ((0 ≤ xt11 ∧ xt11 < (list0.length : Int)) ∧
    br ((List.getD list0 (Int.toNat xt11) (0 : Int)) != key1)
    ((xout5.length + 1 ≤ 1000000000) ∧
      InR (xt11 + 1) ∧
      B0 (xt11 + 1) (xout5 ++ ([(List.getD list0 (Int.toNat xt11) (0 : Int))] : List Int)))
    (InR (xt11 + 1) ∧
      B0 (xt11 + 1) xout5))
  (k xout5)
def L0_impl_withoutKey (key1 : Int) (list0 : List Int) (xt10 : Int) (k : List Int → Prop) : Nat → Int → List Int → Prop
  | 0, _, _ => False
  | n + 1, xt11, xout5 => T0_impl_withoutKey key1 list0 xt10 xt11 xout5 k (L0_impl_withoutKey key1 list0 xt10 k n)
def G_impl_withoutKey (list0 : List Int) (key1 : Int) (I0 : Int → List Int → Int → Int → List Int → Prop) : Prop :=
  I0 key1 list0 (list0.length : Int) 0 ([] : List Int)
def S_impl_withoutKey (list0 : List Int) (key1 : Int) (k : List Int → Prop) : Prop := G_impl_withoutKey list0 key1 (fun key1 list0 xt10 xt11 xout5 => ∃ j, L0_impl_withoutKey key1 list0 xt10 k j xt11 xout5)
def F_impl_withoutKey (l : List Int) (key : Int) (k : List Int → Prop) : Prop := l.length ≤ 1000000000 ∧ k (rmK l key)
theorem F_impl_withoutKey_S {l : List Int} {key : Int} {k : List Int → Prop} (h : F_impl_withoutKey l key k) : S_impl_withoutKey l key k := by
  obtain ⟨hl, hk⟩ := h
  have key1 : ∀ (r : List Int) (i : Nat) (out : List Int), l.drop i = r → out.length ≤ i → out ++ rmK r key = rmK l key → L0_impl_withoutKey key l (l.length : Int) k (r.length + 1) (i : Int) out := by
    intro r
    induction r with
    | nil =>
      intro i out hd ho he
      have := drop_nil' hd
      rw [L0_impl_withoutKey, T0_impl_withoutKey]
      simp only [br_dec]
      refine ⟨fun h => by omega, fun _ => ?_⟩
      have : out = rmK l key := by simpa [rmK] using he
      rw [this]; exact hk
    | cons x r ih =>
      intro i out hd ho he
      obtain ⟨h1, h2, _, h3, _⟩ := drop_cons' hd
      rw [List.length_cons, L0_impl_withoutKey, T0_impl_withoutKey]
      simp only [br_dec, br_bne, Int.toNat_natCast, h2]
      refine ⟨fun _ => ⟨⟨by omega, by omega⟩, fun hx => ⟨by omega, inR (by omega) (by omega), ?_⟩, fun hx => ⟨inR (by omega) (by omega), ?_⟩⟩, fun h => by omega⟩
      · exact ih (i + 1) (out ++ [x]) h3 (by simp; omega) (by rw [← he, rmK_cons_ne hx]; simp)
      · exact ih (i + 1) out h3 (by omega) (by rw [← he, hx, rmK_cons_eq])
  exact ⟨_, key1 l 0 [] rfl (by simp) rfl⟩
-- impl.putFirst
def G_impl_putFirst (list0 : List Int) (key1 : Int) (k : List Int → Prop) : Prop :=
  (1 + list0.length ≤ 1000000000) ∧
  k (([key1] : List Int) ++ list0)
def S_impl_putFirst (list0 : List Int) (key1 : Int) (k : List Int → Prop) : Prop := G_impl_putFirst list0 key1 k
def F_impl_putFirst (l : List Int) (x : Int) (k : List Int → Prop) : Prop := l.length ≤ 999999999 ∧ k (x :: l)
theorem F_impl_putFirst_S {l : List Int} {x : Int} {k : List Int → Prop} (h : F_impl_putFirst l x k) : S_impl_putFirst l x k := ⟨by have := h.1; omega, h.2⟩
-- impl.UseRecent
def G_impl_UseRecent (list0 : List Int) (room1 : Int) (key2 : Int) (k : List Int → Bool → Prop) : Prop :=
  F_impl_ValidKeys list0 room1 fun validKeys11 =>
  br (!validKeys11)
  (k ([] : List Int) false)
  (F_impl_validKey key2 fun validKey15 =>
    br (!validKey15)
    (k ([] : List Int) false)
    (F_impl_withoutKey list0 key2 fun withoutKey20 =>
      F_impl_putFirst withoutKey20 key2 fun putFirst22 =>
      (0 ≤ (if room1 < (putFirst22.length : Int) then room1 else (putFirst22.length : Int)) ∧ (if room1 < (putFirst22.length : Int) then room1 else (putFirst22.length : Int)) ≤ (putFirst22.length : Int)) ∧
      (F_slices_Contains_sint_int list0 key2 fun contains31 =>
        k (List.take (Int.toNat (if room1 < (putFirst22.length : Int) then room1 else (putFirst22.length : Int))) (List.drop 0 putFirst22)) contains31) ∧
      (True)))
def H_impl_UseRecent (list0 : List Int) (room1 : Int) (key2 : Int) (k : List Int → Bool → Prop) : Prop :=
  F_impl_ValidKeys list0 room1 fun validKeys11 =>
  br (!validKeys11)
  (k ([] : List Int) false)
  (F_impl_validKey key2 fun validKey15 =>
    br (!validKey15)
    (k ([] : List Int) false)
    (F_impl_withoutKey list0 key2 fun withoutKey20 =>
      F_impl_putFirst withoutKey20 key2 fun putFirst22 =>
      (0 ≤ (if room1 < (putFirst22.length : Int) then room1 else (putFirst22.length : Int)) ∧ (if room1 < (putFirst22.length : Int) then room1 else (putFirst22.length : Int)) ≤ (putFirst22.length : Int)) ∧
      F_slices_Contains_sint_int list0 key2 fun contains31 =>
      k (List.take (Int.toNat (if room1 < (putFirst22.length : Int) then room1 else (putFirst22.length : Int))) (List.drop 0 putFirst22)) contains31))
theorem G_impl_UseRecent_eq (list0 : List Int) (room1 : Int) (key2 : Int) (k : List Int → Bool → Prop) : G_impl_UseRecent list0 room1 key2 k = H_impl_UseRecent list0 room1 key2 k := by
  simp only [G_impl_UseRecent, H_impl_UseRecent, and_self, and_true]
def S_impl_UseRecent (list0 : List Int) (room1 : Int) (key2 : Int) (k : List Int → Bool → Prop) : Prop := H_impl_UseRecent list0 room1 key2 k
def F_impl_UseRecent (l : List Int) (room key : Int) (k : List Int → Bool → Prop) : Prop :=
  (VKeys l room ∧ 0 ≤ key ∧ key ≤ 31 → k (recM l room key) (decide (key ∈ l))) ∧ (¬ (VKeys l room ∧ 0 ≤ key ∧ key ≤ 31) → k [] false)
theorem F_impl_UseRecent_S {l : List Int} {room key : Int} {k : List Int → Bool → Prop} (h : F_impl_UseRecent l room key k) : S_impl_UseRecent l room key k := by
  obtain ⟨hyes, hno⟩ := h
  intro b hb
  refine br_not.2 (br_iff.2 ⟨fun e => br_not.2 (br_dec.2 ⟨fun hkey => ?_, fun hkey => hno fun w => hkey w.2⟩), fun e => hno fun w => by rw [hb.2 w.1] at e; cases e⟩)
  have v := hb.1 e
  have hk := hyes ⟨v, hkey⟩
  obtain ⟨v1, v2, v3, v4, v5⟩ := v
  have := @rmK_le l key
  refine ⟨by omega, by omega, ⟨?_, ?_⟩, by omega, ?_⟩
  · split <;> omega
  · split <;> omega
  · show k (List.take (if room < (([key] ++ rmK l key).length : Int) then room else (([key] ++ rmK l key).length : Int)).toNat ([key] ++ rmK l key)) (decide (key ∈ l))
    rw [take_min2]; exact hk
-- impl.UseSegments
def G_impl_UseSegments_j0 (s0Old : List Int) (s0Safe : Int) (s0Trial : Int) (useRecent70r0 : List Int) (withoutKey97 : List Int) (k : Int → Int → List Int → List Int → Bool → Prop) : Prop :=
  ((1 + withoutKey97.length ≤ 1000000000) ∧
    (k s0Trial s0Safe (([(List.getD s0Old (Int.toNat (s0Safe - 1)) (0 : Int))] : List Int) ++ withoutKey97) useRecent70r0 true) ∧
    (True)) ∧
  (True)
def G_impl_UseSegments_j1 (key1 : Int) (s0New : List Int) (s0Old : List Int) (s0Safe : Int) (s0Trial : Int) (useRecent70r0 : List Int) (k : Int → Int → List Int → List Int → Bool → Prop) : Prop :=
  (((0 + 1 ≤ 1000000000) ∧
      (((F_impl_withoutKey s0New key1 fun withoutKey97 =>
            G_impl_UseSegments_j0 s0Old s0Safe s0Trial useRecent70r0 withoutKey97 k) ∧
          (True)) ∧
        ((F_impl_withoutKey s0New key1 fun withoutKey97 =>
            (G_impl_UseSegments_j0 s0Old s0Safe s0Trial useRecent70r0 withoutKey97 k) ∧
            (True)) ∧
          (True))) ∧
      (True)) ∧
    (True)) ∧
  (True)
def G_impl_UseSegments_j2 (s0Safe : Int) (s0Trial : Int) (useRecent70r0 : List Int) (withoutKey97 : List Int) (k : Int → Int → List Int → List Int → Bool → Prop) : Prop :=
  ((0 + withoutKey97.length ≤ 1000000000) ∧
    (k s0Trial s0Safe withoutKey97 useRecent70r0 true) ∧
    (True)) ∧
  (True)
def G_impl_UseSegments (s0Trial : Int) (s0Safe : Int) (s0New : List Int) (s0Old : List Int) (key1 : Int) (k : Int → Int → List Int → List Int → Bool → Prop) : Prop :=
  F_impl_ValidSegments s0Trial s0Safe s0New s0Old fun validSegments8 =>
  br (!validSegments8)
  (k 0 0 ([] : List Int) ([] : List Int) false)
  (F_impl_validKey key1 fun validKey12 =>
    br (!validKey12)
    (k 0 0 ([] : List Int) ([] : List Int) false)
    (F_slices_Contains_sint_int s0Old key1 fun contains24 =>
      br contains24
      (F_impl_UseRecent s0Old s0Safe key1 fun useRecent31r0 useRecent31r1 =>
        (0 + s0New.length ≤ 1000000000) ∧
        k s0Trial s0Safe s0New useRecent31r0 true)
      (F_slices_Contains_sint_int s0New key1 fun contains45 =>
        br (!contains45)
        ((0 + s0Old.length ≤ 1000000000) ∧
          F_impl_UseRecent s0New s0Trial key1 fun useRecent59r0 useRecent59r1 =>
          k s0Trial s0Safe useRecent59r0 s0Old false)
        (F_impl_UseRecent s0Old s0Safe key1 fun useRecent70r0 useRecent70r1 =>
          br ((s0Old.length : Int) == s0Safe)
          (InR (s0Safe - 1) ∧
            (0 ≤ (s0Safe - 1) ∧ (s0Safe - 1) < (s0Old.length : Int)) ∧
            (G_impl_UseSegments_j1 key1 s0New s0Old s0Safe s0Trial useRecent70r0 k) ∧
            ((G_impl_UseSegments_j1 key1 s0New s0Old s0Safe s0Trial useRecent70r0 k) ∧
              (True)))
          (((F_impl_withoutKey s0New key1 fun withoutKey97 =>
                G_impl_UseSegments_j2 s0Safe s0Trial useRecent70r0 withoutKey97 k) ∧
              (True)) ∧
            ((F_impl_withoutKey s0New key1 fun withoutKey97 =>
                (G_impl_UseSegments_j2 s0Safe s0Trial useRecent70r0 withoutKey97 k) ∧
                (True)) ∧
              (True)))))))
def H_impl_UseSegments (s0Trial : Int) (s0Safe : Int) (s0New : List Int) (s0Old : List Int) (key1 : Int) (k : Int → Int → List Int → List Int → Bool → Prop) : Prop :=
  F_impl_ValidSegments s0Trial s0Safe s0New s0Old fun validSegments8 =>
  br (!validSegments8)
  (k 0 0 ([] : List Int) ([] : List Int) false)
  (F_impl_validKey key1 fun validKey12 =>
    br (!validKey12)
    (k 0 0 ([] : List Int) ([] : List Int) false)
    (F_slices_Contains_sint_int s0Old key1 fun contains24 =>
      br contains24
      (F_impl_UseRecent s0Old s0Safe key1 fun useRecent31r0 useRecent31r1 =>
        (0 + s0New.length ≤ 1000000000) ∧
        k s0Trial s0Safe s0New useRecent31r0 true)
      (F_slices_Contains_sint_int s0New key1 fun contains45 =>
        br (!contains45)
        ((0 + s0Old.length ≤ 1000000000) ∧
          F_impl_UseRecent s0New s0Trial key1 fun useRecent59r0 useRecent59r1 =>
          k s0Trial s0Safe useRecent59r0 s0Old false)
        (F_impl_UseRecent s0Old s0Safe key1 fun useRecent70r0 useRecent70r1 =>
          br ((s0Old.length : Int) == s0Safe)
          (InR (s0Safe - 1) ∧
            (0 ≤ (s0Safe - 1) ∧ (s0Safe - 1) < (s0Old.length : Int)) ∧
            (0 + 1 ≤ 1000000000) ∧
            F_impl_withoutKey s0New key1 fun withoutKey97 =>
            (1 + withoutKey97.length ≤ 1000000000) ∧
            k s0Trial s0Safe (([(List.getD s0Old (Int.toNat (s0Safe - 1)) (0 : Int))] : List Int) ++ withoutKey97) useRecent70r0 true)
          (F_impl_withoutKey s0New key1 fun withoutKey97 =>
            (0 + withoutKey97.length ≤ 1000000000) ∧
            k s0Trial s0Safe withoutKey97 useRecent70r0 true)))))
theorem G_impl_UseSegments_eq (s0Trial : Int) (s0Safe : Int) (s0New : List Int) (s0Old : List Int) (key1 : Int) (k : Int → Int → List Int → List Int → Bool → Prop) : G_impl_UseSegments s0Trial s0Safe s0New s0Old key1 k = H_impl_UseSegments s0Trial s0Safe s0New s0Old key1 k := by
  simp only [G_impl_UseSegments, H_impl_UseSegments, G_impl_UseSegments_j0, G_impl_UseSegments_j1, G_impl_UseSegments_j2, and_self, and_true]
def S_impl_UseSegments (s0Trial : Int) (s0Safe : Int) (s0New : List Int) (s0Old : List Int) (key1 : Int) (k : Int → Int → List Int → List Int → Bool → Prop) : Prop := H_impl_UseSegments s0Trial s0Safe s0New s0Old key1 k
def F_impl_UseSegments (trial safe : Int) (new old : List Int) (key : Int) (k : Int → Int → List Int → List Int → Bool → Prop) : Prop :=
  (VSegs trial safe new old ∧ 0 ≤ key ∧ key ≤ 31 → k trial safe (segM trial safe new old key).1 (segM trial safe new old key).2.1 (segM trial safe new old key).2.2) ∧
  (¬ (VSegs trial safe new old ∧ 0 ≤ key ∧ key ≤ 31) → k 0 0 [] [] false)
theorem F_impl_UseSegments_S {trial safe : Int} {new old : List Int} {key : Int} {k : Int → Int → List Int → List Int → Bool → Prop} (h : F_impl_UseSegments trial safe new old key k) : S_impl_UseSegments trial safe new old key k := by
  obtain ⟨hyes, hno⟩ := h
  intro b hb
  rw [br_not, br_iff]
  refine ⟨fun e => br_not.2 (br_dec.2 ⟨fun hkey => ?_, fun hkey => hno fun w => hkey w.2⟩), fun e => hno fun w => by rw [hb.2 w.1] at e; cases e⟩
  have v := hb.1 e
  have hk := hyes ⟨v, hkey⟩
  have l1 := segs_len v
  obtain ⟨v1, v2, v3⟩ := v
  have hrm := @rmK_le new key
  unfold segM at hk
  refine ⟨by omega, br_dec.2 ⟨fun ho => ⟨fun _ => ⟨by omega, ?_⟩, fun h => absurd ⟨v2, hkey⟩ h⟩, fun ho => ⟨by omega, br_not.2 (br_dec.2 ⟨fun hn => ⟨fun _ => br_beq.2 ⟨fun hs => ?_, fun hs => ⟨by omega, by omega, ?_⟩⟩, fun h => absurd ⟨v2, hkey⟩ h⟩, fun hn => ⟨by omega, fun _ => ?_, fun h => absurd ⟨v1, hkey⟩ h⟩⟩)⟩⟩⟩
  · rw [if_pos ho] at hk
    rw [recM_hit v2.2.2.2.2 v2.2.2.1 ho]; exact hk
  · rw [if_neg ho, if_pos hn, if_pos hs] at hk
    have h1 := v2.1
    refine ⟨inR (by omega) (by omega), ⟨by omega, by omega⟩, by omega, by omega, by omega, ?_⟩
    rw [recM_miss ho, show (safe - 1).toNat = old.length - 1 by omega]; exact hk
  · rw [if_neg ho, if_pos hn, if_neg hs] at hk
    rw [recM_miss ho]; exact hk
  · rw [if_neg ho, if_neg hn] at hk
    rw [recM_miss hn]; exact hk
-- impl.useAll[impl.Segments]
def T0_impl_useAll_Segments_UseSegments (t0 : List Int) (xt14 : Int) (xhits8 : Int) (xt15 : Int) (xb4c0 : Int) (xb4c1 : Int) (xb4c2 : List Int) (xb4c3 : List Int) (k : Int → Int → List Int → List Int → Int → Prop) (B0 : Int → Int → Int → Int → List Int → List Int → Prop) : Prop :=
  br (decide (xt15 < xt14))
  ((0 ≤ xt15 ∧ xt15 < (t0.length : Int)) ∧
    F_impl_UseSegments xb4c0 xb4c1 xb4c2 xb4c3 (List.getD t0 (Int.toNat xt15) (0 : Int)) fun useSegments23Trial useSegments23Safe useSegments23New useSegments23Old useSegments23r1 =>
    br useSegments23r1
    (InR (xhits8 + 1) ∧
      InR (xt15 + 1) ∧
      B0 (xhits8 + 1) (xt15 + 1) useSegments23Trial useSegments23Safe useSegments23New useSegments23Old)
    (InR (xt15 + 1) ∧
      B0 xhits8 (xt15 + 1) useSegments23Trial useSegments23Safe useSegments23New useSegments23Old))
  (k xb4c0 xb4c1 xb4c2 xb4c3 xhits8)
def L0_impl_useAll_Segments_UseSegments (t0 : List Int) (xt14 : Int) (k : Int → Int → List Int → List Int → Int → Prop) : Nat → Int → Int → Int → Int → List Int → List Int → Prop
  | 0, _, _, _, _, _, _ => False
  | n + 1, xhits8, xt15, xb4c0, xb4c1, xb4c2, xb4c3 => T0_impl_useAll_Segments_UseSegments t0 xt14 xhits8 xt15 xb4c0 xb4c1 xb4c2 xb4c3 k (L0_impl_useAll_Segments_UseSegments t0 xt14 k n)
def G_impl_useAll_Segments_UseSegments (t0 : List Int) (cache1Trial : Int) (cache1Safe : Int) (cache1New : List Int) (cache1Old : List Int) (I0 : List Int → Int → Int → Int → Int → Int → List Int → List Int → Prop) : Prop :=
  I0 t0 (t0.length : Int) 0 0 cache1Trial cache1Safe cache1New cache1Old
def S_impl_useAll_Segments_UseSegments (t0 : List Int) (cache1Trial : Int) (cache1Safe : Int) (cache1New : List Int) (cache1Old : List Int) (k : Int → Int → List Int → List Int → Int → Prop) : Prop := G_impl_useAll_Segments_UseSegments t0 cache1Trial cache1Safe cache1New cache1Old (fun t0 xt14 xhits8 xt15 xb4c0 xb4c1 xb4c2 xb4c3 => ∃ j, L0_impl_useAll_Segments_UseSegments t0 xt14 k j xhits8 xt15 xb4c0 xb4c1 xb4c2 xb4c3)
def F_impl_useAll_Segments_UseSegments (t : List Int) (trial safe : Int) (new old : List Int) (k : Int → Int → List Int → List Int → Int → Prop) : Prop :=
  (VTrace t ∧ VSegs trial safe new old) ∧ k trial safe (runS trial safe t new old 0).1 (runS trial safe t new old 0).2.1 (runS trial safe t new old 0).2.2
theorem F_impl_useAll_Segments_UseSegments_S {t : List Int} {trial safe : Int} {new old : List Int} {k : Int → Int → List Int → List Int → Int → Prop} (h : F_impl_useAll_Segments_UseSegments t trial safe new old k) : S_impl_useAll_Segments_UseSegments t trial safe new old k := by
  obtain ⟨⟨⟨t1, t2⟩, v⟩, hk⟩ := h
  have key : ∀ (r : List Int) (i : Nat) (a b : List Int) (n : Int), t.drop i = r → VSegs trial safe a b → 0 ≤ n → n ≤ i →
      k trial safe (runS trial safe r a b n).1 (runS trial safe r a b n).2.1 (runS trial safe r a b n).2.2 → L0_impl_useAll_Segments_UseSegments t (t.length : Int) k (r.length + 1) n (i : Int) trial safe a b := by
    intro r
    induction r with
    | nil =>
      intro i a b n hdr v n0 n1 hk
      have := drop_nil' hdr
      rw [L0_impl_useAll_Segments_UseSegments, T0_impl_useAll_Segments_UseSegments]
      simp only [br_dec]
      exact ⟨fun h => by omega, fun _ => hk⟩
    | cons x r ih =>
      intro i a b n hdr v n0 n1 hk
      obtain ⟨h1, h2, h5, h3, h4⟩ := drop_cons' hdr
      have hx := t2 x (List.mem_of_getElem? h5)
      rw [List.length_cons, L0_impl_useAll_Segments_UseSegments, T0_impl_useAll_Segments_UseSegments]
      simp only [br_dec, Int.toNat_natCast, h2]
      refine ⟨fun _ => ⟨⟨by omega, by omega⟩, fun _ => ?_, fun hv => absurd ⟨v, hx⟩ hv⟩, fun h => by omega⟩
      rw [runS] at hk
      rw [br_iff]
      refine ⟨fun e => ⟨inR (by omega) (by omega), inR (by omega) (by omega), ?_⟩, fun e => ⟨inR (by omega) (by omega), ?_⟩⟩
      · rw [e] at hk
        exact ih (i + 1) _ _ _ h3 (segM_valid v hx) (by omega) (by omega) hk
      · rw [e] at hk
        rw [show n + toI false = n by simp [toI]] at hk
        exact ih (i + 1) _ _ _ h3 (segM_valid v hx) (by omega) (by omega) hk
  exact ⟨_, key t 0 new old 0 rfl v (by omega) (by omega) hk⟩
-- impl.RunSegments
def G_impl_RunSegments (t0 : List Int) (trial1 : Int) (safe2 : Int) (k : Int → Int → List Int → List Int → Int → Prop) : Prop :=
  F_impl_ValidTrace t0 fun validTrace9 =>
  br (!validTrace9)
  (k 0 0 ([] : List Int) ([] : List Int) (-1))
  (F_impl_validRoom trial1 fun validRoom13 =>
    br (!validRoom13)
    (k 0 0 ([] : List Int) ([] : List Int) (-1))
    (F_impl_validRoom safe2 fun validRoom18 =>
      br (!validRoom18)
      (k 0 0 ([] : List Int) ([] : List Int) (-1))
      (F_impl_useAll_Segments_UseSegments t0 trial1 safe2 ([] : List Int) ([] : List Int) fun useAll26Trial useAll26Safe useAll26New useAll26Old useAll26r1 =>
        k useAll26Trial useAll26Safe useAll26New useAll26Old useAll26r1)))
def S_impl_RunSegments (t0 : List Int) (trial1 : Int) (safe2 : Int) (k : Int → Int → List Int → List Int → Int → Prop) : Prop := G_impl_RunSegments t0 trial1 safe2 k
def F_impl_RunSegments (t : List Int) (trial safe : Int) (k : Int → Int → List Int → List Int → Int → Prop) : Prop :=
  ((VTrace t ∧ (1 ≤ trial ∧ trial ≤ 8) ∧ 1 ≤ safe ∧ safe ≤ 8) → k trial safe (runS trial safe t [] [] 0).1 (runS trial safe t [] [] 0).2.1 (runS trial safe t [] [] 0).2.2) ∧
  (¬ (VTrace t ∧ (1 ≤ trial ∧ trial ≤ 8) ∧ 1 ≤ safe ∧ safe ≤ 8) → k 0 0 [] [] (-1))
theorem F_impl_RunSegments_S {t : List Int} {trial safe : Int} {k : Int → Int → List Int → List Int → Int → Prop} (h : F_impl_RunSegments t trial safe k) : S_impl_RunSegments t trial safe k := by
  obtain ⟨hyes, hno⟩ := h
  intro b hb
  rw [br_not, br_iff]
  refine ⟨fun e => br_not.2 (br_dec.2 ⟨fun hr => br_not.2 (br_dec.2 ⟨fun hs => ?_, fun hs => hno fun w => hs w.2.2⟩), fun hr => hno fun w => hr w.2.1⟩), fun e => hno fun v => by rw [hb.2 v.1] at e; cases e⟩
  have v := hb.1 e
  exact ⟨⟨v, segs0 hr hs⟩, hyes ⟨v, hr, hs⟩⟩
-- spec.inRange
def G_spec_inRange (n0 : Int) (low1 : Int) (high2 : Int) (k : Bool → Prop) : Prop :=
  br (decide (low1 ≤ n0))
  (k (decide (n0 ≤ high2)))
  (k false)
def S_spec_inRange (n0 : Int) (low1 : Int) (high2 : Int) (k : Bool → Prop) : Prop := G_spec_inRange n0 low1 high2 k
def F_spec_inRange (n low high : Int) (k : Bool → Prop) : Prop := k (decide (low ≤ n ∧ n ≤ high))
theorem F_spec_inRange_S {n low high : Int} {k : Bool → Prop} (h : F_spec_inRange n low high k) : S_spec_inRange n low high k := by
  unfold F_spec_inRange at h
  simp only [S_spec_inRange, G_spec_inRange, br_dec]
  refine ⟨fun h1 => ?_, fun h1 => ?_⟩
  · simpa [h1] using h
  · simpa [h1] using h
-- spec.allIn
def T0_spec_allIn (high2 : Int) (list0 : List Int) (low1 : Int) (xi7 : Int) (k : Bool → Prop) (B0 : Int → Prop) : Prop :=
  br (decide (xi7 < (list0.length : Int)))
  ((0 ≤ xi7 ∧ xi7 < (list0.length : Int)) ∧
    F_spec_inRange (List.getD list0 (Int.toNat xi7) (0 : Int)) low1 high2 fun inRange20 =>
    br (!inRange20)
    (k false)
    (InR (xi7 + 1) ∧
      B0 (xi7 + 1)))
  (k true)
def L0_spec_allIn (high2 : Int) (list0 : List Int) (low1 : Int) (k : Bool → Prop) : Nat → Int → Prop
  | 0, _ => False
  | n + 1, xi7 => T0_spec_allIn high2 list0 low1 xi7 k (L0_spec_allIn high2 list0 low1 k n)
def G_spec_allIn (list0 : List Int) (low1 : Int) (high2 : Int) (I0 : Int → List Int → Int → Int → Prop) : Prop :=
  I0 high2 list0 low1 0
def S_spec_allIn (list0 : List Int) (low1 : Int) (high2 : Int) (k : Bool → Prop) : Prop := G_spec_allIn list0 low1 high2 (fun high2 list0 low1 xi7 => ∃ j, L0_spec_allIn high2 list0 low1 k j xi7)
def F_spec_allIn (l : List Int) (low high : Int) (k : Bool → Prop) : Prop := l.length ≤ 1000000000 ∧ k (decide (∀ x ∈ l, low ≤ x ∧ x ≤ high))
theorem F_spec_allIn_S {l : List Int} {low high : Int} {k : Bool → Prop} (h : F_spec_allIn l low high k) : S_spec_allIn l low high k := by
  obtain ⟨hl, hk⟩ := h
  have key : ∀ (r : List Int) (i : Nat), l.drop i = r → ((∀ x ∈ r, low ≤ x ∧ x ≤ high) ↔ (∀ x ∈ l, low ≤ x ∧ x ≤ high)) → L0_spec_allIn high l low k (r.length + 1) (i : Int) := by
    intro r
    induction r with
    | nil =>
      intro i hd he
      have := drop_nil' hd
      rw [L0_spec_allIn, T0_spec_allIn]
      simp only [br_dec]
      refine ⟨fun h => by omega, fun _ => ?_⟩
      rwa [decide_eq_true (he.1 (by simp))] at hk
    | cons x r ih =>
      intro i hd he
      obtain ⟨h1, h2, _, h3, _⟩ := drop_cons' hd
      rw [List.length_cons, L0_spec_allIn, T0_spec_allIn]
      simp only [br_dec, F_spec_inRange, br_not, Int.toNat_natCast, h2]
      refine ⟨fun _ => ⟨⟨by omega, by omega⟩, fun hx => ⟨inR (by omega) (by omega), ?_⟩, fun hx => ?_⟩, fun h => by omega⟩
      · refine ih (i + 1) h3 (Iff.trans ?_ he)
        simp only [List.mem_cons, forall_eq_or_imp]
        exact ⟨fun h => ⟨hx, h⟩, fun h => h.2⟩
      · rwa [decide_eq_false (fun h => hx (he.2 h x (by simp)))] at hk
  exact ⟨_, key l 0 rfl Iff.rfl⟩
-- spec.validTrace
def G_spec_validTrace (t0 : List Int) (k : Bool → Prop) : Prop :=
  br (decide ((t0.length : Int) ≤ 24))
  (F_spec_allIn t0 (0 : Int) (31 : Int) fun allIn8 =>
    k allIn8)
  (k false)
def S_spec_validTrace (t0 : List Int) (k : Bool → Prop) : Prop := G_spec_validTrace t0 k
def F_spec_validTrace (t : List Int) (k : Bool → Prop) : Prop := ∀ b : Bool, (b = true ↔ VTrace t) → k b
theorem F_spec_validTrace_S {t : List Int} {k : Bool → Prop} (h : F_spec_validTrace t k) : S_spec_validTrace t k :=
  br_dec.2 ⟨fun h1 => ⟨by omega, h _ (by simp only [decide_eq_true_eq]; exact ⟨fun h2 => ⟨by omega, h2⟩, fun v => v.2⟩)⟩, fun h1 => h false (by simp only [Bool.false_eq_true, false_iff]; exact fun v => h1 (by have := v.1; omega))⟩
-- spec.placeOf
def T0_spec_placeOf (list0 : List Int) (n1 : Int) (xi5 : Int) (k : Int → Prop) (B0 : Int → Prop) : Prop :=
  br (decide (xi5 < (list0.length : Int)))
  ((0 ≤ xi5 ∧ xi5 < (list0.length : Int)) ∧
    br ((List.getD list0 (Int.toNat xi5) (0 : Int)) == n1)
    (k xi5)
    (InR (xi5 + 1) ∧
      B0 (xi5 + 1)))
  (k (-1))
def L0_spec_placeOf (list0 : List Int) (n1 : Int) (k : Int → Prop) : Nat → Int → Prop
  | 0, _ => False
  | n + 1, xi5 => T0_spec_placeOf list0 n1 xi5 k (L0_spec_placeOf list0 n1 k n)
def G_spec_placeOf (list0 : List Int) (n1 : Int) (I0 : List Int → Int → Int → Prop) : Prop :=
  I0 list0 n1 0
def S_spec_placeOf (list0 : List Int) (n1 : Int) (k : Int → Prop) : Prop := G_spec_placeOf list0 n1 (fun list0 n1 xi5 => ∃ j, L0_spec_placeOf list0 n1 k j xi5)
def F_spec_placeOf (l : List Int) (n : Int) (k : Int → Prop) : Prop := l.length ≤ 1000000000 ∧ k (plc l n)
theorem F_spec_placeOf_S {l : List Int} {n : Int} {k : Int → Prop} (h : F_spec_placeOf l n k) : S_spec_placeOf l n k := by
  obtain ⟨hl, hk⟩ := h
  have key : ∀ (r : List Int) (i : Nat), l.drop i = r → plcF r n i = plc l n → L0_spec_placeOf l n k (r.length + 1) (i : Int) := by
    intro r
    induction r with
    | nil =>
      intro i hd he
      have := drop_nil' hd
      rw [L0_spec_placeOf, T0_spec_placeOf]
      simp only [br_dec]
      exact ⟨fun h => by omega, fun _ => by rw [show (-1 : Int) = plc l n from he]; exact hk⟩
    | cons x r ih =>
      intro i hd he
      obtain ⟨h1, h2, _, h3, _⟩ := drop_cons' hd
      rw [List.length_cons, L0_spec_placeOf, T0_spec_placeOf]
      simp only [br_dec, br_beq, Int.toNat_natCast, h2]
      refine ⟨fun _ => ⟨⟨by omega, by omega⟩, fun hx => ?_, fun hx => ⟨inR (by omega) (by omega), ?_⟩⟩, fun h => by omega⟩
      · simp only [plcF, if_pos hx] at he; rw [he]; exact hk
      · simp only [plcF, if_neg hx] at he; exact ih (i + 1) h3 he
  exact ⟨_, key l 0 rfl rfl⟩
-- spec.without
def G_spec_without (list0 : List Int) (at1 : Int) (k : List Int → Prop) : Prop :=
  (0 ≤ at1 ∧ at1 ≤ (list0.length : Int)) ∧
  InR (at1 + 1) ∧
  (0 ≤ (at1 + 1) ∧ (at1 + 1) ≤ (list0.length : Int)) ∧
  (((0 + (List.length (List.take (Int.toNat at1) list0)) ≤ 1000000000) ∧
      (((List.length (List.take (Int.toNat at1) list0)) + (List.length (List.drop (Int.toNat (at1 + 1)) list0)) ≤ 1000000000) ∧
        k ((List.take (Int.toNat at1) list0) ++ (List.drop (Int.toNat (at1 + 1)) list0))) ∧
      (True)) ∧
    (True)) ∧
  (True)
def H_spec_without (list0 : List Int) (at1 : Int) (k : List Int → Prop) : Prop :=
  (0 ≤ at1 ∧ at1 ≤ (list0.length : Int)) ∧
  InR (at1 + 1) ∧
  (0 ≤ (at1 + 1) ∧ (at1 + 1) ≤ (list0.length : Int)) ∧
  (0 + (List.length (List.take (Int.toNat at1) list0)) ≤ 1000000000) ∧
  ((List.length (List.take (Int.toNat at1) list0)) + (List.length (List.drop (Int.toNat (at1 + 1)) list0)) ≤ 1000000000) ∧
  k ((List.take (Int.toNat at1) list0) ++ (List.drop (Int.toNat (at1 + 1)) list0))
theorem G_spec_without_eq (list0 : List Int) (at1 : Int) (k : List Int → Prop) : G_spec_without list0 at1 k = H_spec_without list0 at1 k := by
  simp only [G_spec_without, H_spec_without, and_self, and_true]
def S_spec_without (list0 : List Int) (at1 : Int) (k : List Int → Prop) : Prop := H_spec_without list0 at1 k
def F_spec_without (l : List Int) (at1 : Int) (k : List Int → Prop) : Prop := (0 ≤ at1 ∧ at1 < l.length ∧ l.length ≤ 1000000000) ∧ k (l.take at1.toNat ++ l.drop (at1.toNat + 1))
theorem F_spec_without_S {l : List Int} {at1 : Int} {k : List Int → Prop} (h : F_spec_without l at1 k) : S_spec_without l at1 k := by
  obtain ⟨⟨h1, h2, h3⟩, hk⟩ := h
  have e : (at1 + 1).toNat = at1.toNat + 1 := by omega
  refine ⟨⟨by omega, by omega⟩, inR (by omega) (by omega), ⟨by omega, by omega⟩, by simp; omega, by simp; omega, ?_⟩
  rw [e]; exact hk
-- spec.recent
def G_spec_recent (list0 : List Int) (room1 : Int) (key2 : Int) (k : List Int → Bool → Prop) : Prop :=
  F_spec_placeOf list0 key2 fun placeOf12 =>
  br (decide (placeOf12 ≥ 0))
  (F_spec_without list0 placeOf12 fun without19 =>
    (1 + without19.length ≤ 1000000000) ∧
    k (([key2] : List Int) ++ without19) true)
  ((1 + list0.length ≤ 1000000000) ∧
    (0 ≤ (if ((List.length (([key2] : List Int) ++ list0)) : Int) < room1 then ((List.length (([key2] : List Int) ++ list0)) : Int) else room1) ∧ (if ((List.length (([key2] : List Int) ++ list0)) : Int) < room1 then ((List.length (([key2] : List Int) ++ list0)) : Int) else room1) ≤ ((List.length (([key2] : List Int) ++ list0)) : Int)) ∧
    k (List.take (Int.toNat (if ((List.length (([key2] : List Int) ++ list0)) : Int) < room1 then ((List.length (([key2] : List Int) ++ list0)) : Int) else room1)) (List.drop 0 (([key2] : List Int) ++ list0))) false)
def S_spec_recent (list0 : List Int) (room1 : Int) (key2 : Int) (k : List Int → Bool → Prop) : Prop := G_spec_recent list0 room1 key2 k
def F_spec_recent (l : List Int) (room key : Int) (k : List Int → Bool → Prop) : Prop := VKeys l room ∧ k (recM l room key) (decide (key ∈ l))
theorem F_spec_recent_S {l : List Int} {room key : Int} {k : List Int → Bool → Prop} (h : F_spec_recent l room key k) : S_spec_recent l room key k := by
  obtain ⟨⟨v1, v2, v3, v4, v5⟩, hk⟩ := h
  refine ⟨by omega, br_dec.2 ⟨fun hp => ?_, fun hp => ?_⟩⟩
  · have hm := plc_ge.1 hp
    obtain ⟨j, j1, j2, _, j3⟩ := plc_pos hm
    rw [j3]
    refine ⟨⟨by omega, by omega, by omega⟩, ?_⟩
    rw [Int.toNat_natCast, rmK_erase v5 j2]
    have := rmK_len v5 hm
    refine ⟨by omega, ?_⟩
    rw [recM_hit v5 v3 hm, decide_eq_true hm] at hk; exact hk
  · have hm : key ∉ l := fun e => hp (plc_ge.2 e)
    refine ⟨by omega, ⟨?_, ?_⟩, ?_⟩
    · split <;> omega
    · split <;> omega
    · rw [recM_miss hm, decide_eq_false hm] at hk
      rw [List.drop_zero, take_min1]; exact hk
-- spec.promote
def G_spec_promote_j0 (copyInts15 : List Int) (copyInts18 : List Int) (key1 : Int) (s0Safe : Int) (s0Trial : Int) (k : Int → Int → List Int → List Int → Bool → Prop) : Prop :=
  (F_spec_placeOf copyInts18 key1 fun placeOf23 =>
    br (decide (placeOf23 ≥ 0))
    (F_spec_without copyInts18 placeOf23 fun without31 =>
      (1 + without31.length ≤ 1000000000) ∧
      k s0Trial s0Safe copyInts15 (([key1] : List Int) ++ without31) true)
    (F_spec_placeOf copyInts15 key1 fun placeOf38 =>
      br (decide (placeOf38 < 0))
      (F_spec_recent copyInts15 s0Trial key1 fun recent47r0 recent47r1 =>
        k s0Trial s0Safe recent47r0 copyInts18 false)
      (F_spec_without copyInts15 placeOf38 fun without55 =>
        (1 + copyInts18.length ≤ 1000000000) ∧
        br (decide (((List.length (([key1] : List Int) ++ copyInts18)) : Int) > s0Safe))
        ((0 ≤ s0Safe ∧ s0Safe < ((List.length (([key1] : List Int) ++ copyInts18)) : Int)) ∧
          (0 ≤ s0Safe ∧ s0Safe ≤ ((List.length (([key1] : List Int) ++ copyInts18)) : Int)) ∧
          (1 + without55.length ≤ 1000000000) ∧
          k s0Trial s0Safe (([(List.getD (([key1] : List Int) ++ copyInts18) (Int.toNat s0Safe) (0 : Int))] : List Int) ++ without55) (List.take (Int.toNat s0Safe) (List.drop 0 (([key1] : List Int) ++ copyInts18))) true)
        (k s0Trial s0Safe without55 (([key1] : List Int) ++ copyInts18) true)))) ∧
  (True)
def G_spec_promote_j1 (copyInts15 : List Int) (key1 : Int) (s0Old : List Int) (s0Safe : Int) (s0Trial : Int) (k : Int → Int → List Int → List Int → Bool → Prop) : Prop :=
  (F_spec_copyInts s0Old fun copyInts18 =>
    G_spec_promote_j0 copyInts15 copyInts18 key1 s0Safe s0Trial k) ∧
  (True)
def G_spec_promote (s0Trial : Int) (s0Safe : Int) (s0New : List Int) (s0Old : List Int) (key1 : Int) (k : Int → Int → List Int → List Int → Bool → Prop) : Prop :=
  (F_spec_copyInts s0New fun copyInts15 =>
    (F_spec_copyInts s0Old fun copyInts18 =>
      (G_spec_promote_j0 copyInts15 copyInts18 key1 s0Safe s0Trial k) ∧
      (True)) ∧
    ((G_spec_promote_j1 copyInts15 key1 s0Old s0Safe s0Trial k) ∧
      (True))) ∧
  (((F_spec_copyInts s0New fun copyInts15 =>
        G_spec_promote_j1 copyInts15 key1 s0Old s0Safe s0Trial k) ∧
      (True)) ∧
    (True))
def H_spec_promote (s0Trial : Int) (s0Safe : Int) (s0New : List Int) (s0Old : List Int) (key1 : Int) (k : Int → Int → List Int → List Int → Bool → Prop) : Prop :=
  F_spec_copyInts s0New fun copyInts15 =>
  F_spec_copyInts s0Old fun copyInts18 =>
  F_spec_placeOf copyInts18 key1 fun placeOf23 =>
  br (decide (placeOf23 ≥ 0))
  (F_spec_without copyInts18 placeOf23 fun without31 =>
    (1 + without31.length ≤ 1000000000) ∧
    k s0Trial s0Safe copyInts15 (([key1] : List Int) ++ without31) true)
  (F_spec_placeOf copyInts15 key1 fun placeOf38 =>
    br (decide (placeOf38 < 0))
    (F_spec_recent copyInts15 s0Trial key1 fun recent47r0 recent47r1 =>
      k s0Trial s0Safe recent47r0 copyInts18 false)
    (F_spec_without copyInts15 placeOf38 fun without55 =>
      (1 + copyInts18.length ≤ 1000000000) ∧
      br (decide (((List.length (([key1] : List Int) ++ copyInts18)) : Int) > s0Safe))
      ((0 ≤ s0Safe ∧ s0Safe < ((List.length (([key1] : List Int) ++ copyInts18)) : Int)) ∧
        (0 ≤ s0Safe ∧ s0Safe ≤ ((List.length (([key1] : List Int) ++ copyInts18)) : Int)) ∧
        (1 + without55.length ≤ 1000000000) ∧
        k s0Trial s0Safe (([(List.getD (([key1] : List Int) ++ copyInts18) (Int.toNat s0Safe) (0 : Int))] : List Int) ++ without55) (List.take (Int.toNat s0Safe) (List.drop 0 (([key1] : List Int) ++ copyInts18))) true)
      (k s0Trial s0Safe without55 (([key1] : List Int) ++ copyInts18) true)))
theorem G_spec_promote_eq (s0Trial : Int) (s0Safe : Int) (s0New : List Int) (s0Old : List Int) (key1 : Int) (k : Int → Int → List Int → List Int → Bool → Prop) : G_spec_promote s0Trial s0Safe s0New s0Old key1 k = H_spec_promote s0Trial s0Safe s0New s0Old key1 k := by
  simp only [G_spec_promote, H_spec_promote, G_spec_promote_j0, G_spec_promote_j1, and_self, and_true]
def S_spec_promote (s0Trial : Int) (s0Safe : Int) (s0New : List Int) (s0Old : List Int) (key1 : Int) (k : Int → Int → List Int → List Int → Bool → Prop) : Prop := H_spec_promote s0Trial s0Safe s0New s0Old key1 k
def F_spec_promote (trial safe : Int) (new old : List Int) (key : Int) (k : Int → Int → List Int → List Int → Bool → Prop) : Prop :=
  VSegs trial safe new old ∧ k trial safe (segM trial safe new old key).1 (segM trial safe new old key).2.1 (segM trial safe new old key).2.2
theorem F_spec_promote_S {trial safe : Int} {new old : List Int} {key : Int} {k : Int → Int → List Int → List Int → Bool → Prop} (h : F_spec_promote trial safe new old key k) : S_spec_promote trial safe new old key k := by
  obtain ⟨v, hk⟩ := h
  have l1 := segs_len v
  obtain ⟨v1, v2, v3⟩ := v
  have ho8 := v2.2.2.1
  have hs1 := v2.1
  unfold segM at hk
  refine ⟨by omega, by omega, by omega, br_dec.2 ⟨fun hp => ?_, fun hp => ⟨by omega, br_dec.2 ⟨fun hq => ?_, fun hq => ?_⟩⟩⟩⟩
  · have hm := plc_ge.1 hp
    rw [if_pos hm] at hk
    obtain ⟨j, j1, j2, _, j3⟩ := plc_pos hm
    rw [j3]
    refine ⟨⟨by omega, by omega, by omega⟩, ?_⟩
    rw [Int.toNat_natCast, rmK_erase v2.2.2.2.2 j2]
    have := @rmK_le old key
    exact ⟨by omega, hk⟩
  · have hm : key ∉ old := fun e => hp (plc_ge.2 e)
    have hn : key ∉ new := fun e => by have := plc_ge.2 e; omega
    rw [if_neg hm, if_neg hn] at hk
    refine ⟨v1, ?_⟩
    rw [recM_miss hn]; exact hk
  · have hm : key ∉ old := fun e => hp (plc_ge.2 e)
    have hn : key ∈ new := plc_ge.1 (by omega)
    rw [if_neg hm, if_pos hn] at hk
    obtain ⟨j, j1, j2, _, j3⟩ := plc_pos hn
    rw [j3]
    refine ⟨⟨by omega, by omega, by omega⟩, ?_⟩
    rw [Int.toNat_natCast, rmK_erase v1.2.2.2.2 j2]
    have := @rmK_le new key
    refine ⟨by omega, br_dec.2 ⟨fun hs => ?_, fun hs => ?_⟩⟩
    · simp only [List.length_append, List.length_cons, List.length_nil] at hs
      rw [if_pos (show (old.length : Int) = safe by omega)] at hk
      refine ⟨⟨by omega, by simp; omega⟩, ⟨by omega, by simp; omega⟩, by omega, ?_⟩
      have e1 : ([key] ++ old).getD safe.toNat 0 = old.getD (old.length - 1) 0 := by
        rw [show safe.toNat = (old.length - 1) + 1 by omega]; rfl
      rw [e1]; exact hk
    · simp only [List.length_append, List.length_cons, List.length_nil] at hs
      rw [if_neg (show ¬ (old.length : Int) = safe by omega), List.take_of_length_le (by simp; omega)] at hk
      exact hk
-- spec.toInt
def G_spec_toInt (b0 : Bool) (k : Int → Prop) : Prop :=
  br b0
  (k 1)
  (k 0)
def S_spec_toInt (b0 : Bool) (k : Int → Prop) : Prop := G_spec_toInt b0 k
def F_spec_toInt (b : Bool) (k : Int → Prop) : Prop := k (toI b)
theorem F_spec_toInt_S {b : Bool} {k : Int → Prop} (h : F_spec_toInt b k) : S_spec_toInt b k := by
  cases b <;> exact h
-- spec.RunSegments
def T0_spec_RunSegments (t0 : List Int) (xn9 : Int) (xi10 : Int) (xb8c0 : Int) (xb8c1 : Int) (xb8c2 : List Int) (xb8c3 : List Int) (k : Int → Int → List Int → List Int → Int → Prop) (B0 : Int → Int → Int → Int → List Int → List Int → Prop) : Prop :=
  br (decide (xi10 < (t0.length : Int)))
  ((0 ≤ xi10 ∧ xi10 < (t0.length : Int)) ∧
    ((F_spec_promote xb8c0 xb8c1 xb8c2 xb8c3 (List.getD t0 (Int.toNat xi10) (0 : Int)) fun promote43Trial promote43Safe promote43New promote43Old promote43r1 =>
        (F_spec_toInt promote43r1 fun toInt48 =>
          InR (xn9 + toInt48) ∧
          InR (xi10 + 1) ∧
          B0 (xn9 + toInt48) (xi10 + 1) promote43Trial promote43Safe promote43New promote43Old) ∧
        (True)) ∧
      (True)) ∧
    (True))
  (k xb8c0 xb8c1 xb8c2 xb8c3 xn9)
def U0_spec_RunSegments (t0 : List Int) (xn9 : Int) (xi10 : Int) (xb8c0 : Int) (xb8c1 : Int) (xb8c2 : List Int) (xb8c3 : List Int) (k : Int → Int → List Int → List Int → Int → Prop) (B0 : Int → Int → Int → Int → List Int → List Int → Prop) : Prop :=
  br (decide (xi10 < (t0.length : Int)))
  ((0 ≤ xi10 ∧ xi10 < (t0.length : Int)) ∧
    F_spec_promote xb8c0 xb8c1 xb8c2 xb8c3 (List.getD t0 (Int.toNat xi10) (0 : Int)) fun promote43Trial promote43Safe promote43New promote43Old promote43r1 =>
    F_spec_toInt promote43r1 fun toInt48 =>
    InR (xn9 + toInt48) ∧
    InR (xi10 + 1) ∧
    B0 (xn9 + toInt48) (xi10 + 1) promote43Trial promote43Safe promote43New promote43Old)
  (k xb8c0 xb8c1 xb8c2 xb8c3 xn9)
theorem T0_spec_RunSegments_eq (t0 : List Int) (xn9 : Int) (xi10 : Int) (xb8c0 : Int) (xb8c1 : Int) (xb8c2 : List Int) (xb8c3 : List Int) (k : Int → Int → List Int → List Int → Int → Prop) (B0 : Int → Int → Int → Int → List Int → List Int → Prop) : T0_spec_RunSegments t0 xn9 xi10 xb8c0 xb8c1 xb8c2 xb8c3 k B0 = U0_spec_RunSegments t0 xn9 xi10 xb8c0 xb8c1 xb8c2 xb8c3 k B0 := by
  simp only [T0_spec_RunSegments, U0_spec_RunSegments, and_self, and_true]
def L0_spec_RunSegments (t0 : List Int) (k : Int → Int → List Int → List Int → Int → Prop) : Nat → Int → Int → Int → Int → List Int → List Int → Prop
  | 0, _, _, _, _, _, _ => False
  | n + 1, xn9, xi10, xb8c0, xb8c1, xb8c2, xb8c3 => U0_spec_RunSegments t0 xn9 xi10 xb8c0 xb8c1 xb8c2 xb8c3 k (L0_spec_RunSegments t0 k n)
def G_spec_RunSegments (t0 : List Int) (trial1 : Int) (safe2 : Int) (k : Int → Int → List Int → List Int → Int → Prop) (I0 : List Int → Int → Int → Int → Int → List Int → List Int → Prop) : Prop :=
  F_spec_validTrace t0 fun validTrace13 =>
  br (!validTrace13)
  (k 0 0 ([] : List Int) ([] : List Int) (-1))
  (F_spec_inRange trial1 (1 : Int) (8 : Int) fun inRange17 =>
    br (!inRange17)
    (k 0 0 ([] : List Int) ([] : List Int) (-1))
    (F_spec_inRange safe2 (1 : Int) (8 : Int) fun inRange22 =>
      br (!inRange22)
      (k 0 0 ([] : List Int) ([] : List Int) (-1))
      (I0 t0 0 0 trial1 safe2 ([] : List Int) ([] : List Int))))
def S_spec_RunSegments (t0 : List Int) (trial1 : Int) (safe2 : Int) (k : Int → Int → List Int → List Int → Int → Prop) : Prop := G_spec_RunSegments t0 trial1 safe2 k (fun t0 xn9 xi10 xb8c0 xb8c1 xb8c2 xb8c3 => ∃ j, L0_spec_RunSegments t0 k j xn9 xi10 xb8c0 xb8c1 xb8c2 xb8c3)
def F_spec_RunSegments (t : List Int) (trial safe : Int) (k : Int → Int → List Int → List Int → Int → Prop) : Prop :=
  ((VTrace t ∧ (1 ≤ trial ∧ trial ≤ 8) ∧ 1 ≤ safe ∧ safe ≤ 8) → k trial safe (runS trial safe t [] [] 0).1 (runS trial safe t [] [] 0).2.1 (runS trial safe t [] [] 0).2.2) ∧
  (¬ (VTrace t ∧ (1 ≤ trial ∧ trial ≤ 8) ∧ 1 ≤ safe ∧ safe ≤ 8) → k 0 0 [] [] (-1))
theorem F_spec_RunSegments_S {t : List Int} {trial safe : Int} {k : Int → Int → List Int → List Int → Int → Prop} (h : F_spec_RunSegments t trial safe k) : S_spec_RunSegments t trial safe k := by
  obtain ⟨hyes, hno⟩ := h
  intro b hb
  rw [br_not, br_iff]
  refine ⟨fun e => br_not.2 (br_dec.2 ⟨fun hr => br_not.2 (br_dec.2 ⟨fun hs => ?_, fun hs => hno fun w => hs w.2.2⟩), fun hr => hno fun w => hr w.2.1⟩), fun e => hno fun v => by rw [hb.2 v.1] at e; cases e⟩
  have v := hb.1 e
  have hk := hyes ⟨v, hr, hs⟩
  have t2 := v.2
  have t1 := v.1
  have key : ∀ (r : List Int) (i : Nat) (a b : List Int) (n : Int), t.drop i = r → VSegs trial safe a b → 0 ≤ n → n ≤ i →
      k trial safe (runS trial safe r a b n).1 (runS trial safe r a b n).2.1 (runS trial safe r a b n).2.2 → L0_spec_RunSegments t k (r.length + 1) n (i : Int) trial safe a b := by
    intro r
    induction r with
    | nil =>
      intro i a b n hdr v n0 n1 hk
      have := drop_nil' hdr
      rw [L0_spec_RunSegments, U0_spec_RunSegments]
      simp only [br_dec]
      exact ⟨fun h => by omega, fun _ => hk⟩
    | cons x r ih =>
      intro i a b n hdr v n0 n1 hk
      obtain ⟨h1, h2, h5, h3, h4⟩ := drop_cons' hdr
      have hx := t2 x (List.mem_of_getElem? h5)
      rw [List.length_cons, L0_spec_RunSegments, U0_spec_RunSegments]
      simp only [br_dec, Int.toNat_natCast, h2]
      have := toI_01 (segM trial safe a b x).2.2
      exact ⟨fun _ => ⟨⟨by omega, by omega⟩, v, inR (by omega) (by omega), inR (by omega) (by omega), ih (i + 1) _ _ _ h3 (segM_valid v hx) (by omega) (by omega) hk⟩, fun h => by omega⟩
  exact ⟨_, key t 0 [] [] 0 rfl (segs0 hr hs) (by omega) (by omega) hk⟩
-- laws.equalInts
def T0_laws_equalInts (a0 : List Int) (b1 : List Int) (xi5 : Int) (k : Bool → Prop) (B0 : Int → Prop) : Prop :=
  br (decide (xi5 < (a0.length : Int)))
  ((0 ≤ xi5 ∧ xi5 < (a0.length : Int)) ∧
    (0 ≤ xi5 ∧ xi5 < (b1.length : Int)) ∧
    br ((List.getD a0 (Int.toNat xi5) (0 : Int)) != (List.getD b1 (Int.toNat xi5) (0 : Int)))
    (k false)
    (InR (xi5 + 1) ∧
      B0 (xi5 + 1)))
  (k true)
def L0_laws_equalInts (a0 : List Int) (b1 : List Int) (k : Bool → Prop) : Nat → Int → Prop
  | 0, _ => False
  | n + 1, xi5 => T0_laws_equalInts a0 b1 xi5 k (L0_laws_equalInts a0 b1 k n)
def G_laws_equalInts (a0 : List Int) (b1 : List Int) (k : Bool → Prop) (I0 : List Int → List Int → Int → Prop) : Prop :=
  br ((a0.length : Int) != (b1.length : Int))
  (k false)
  (I0 a0 b1 0)
def S_laws_equalInts (a0 : List Int) (b1 : List Int) (k : Bool → Prop) : Prop := G_laws_equalInts a0 b1 k (fun a0 b1 xi5 => ∃ j, L0_laws_equalInts a0 b1 k j xi5)
def F_laws_equalInts (a b : List Int) (k : Bool → Prop) : Prop := a.length ≤ 1000000000 ∧ k (decide (a = b))
theorem F_laws_equalInts_S {a b : List Int} {k : Bool → Prop} (h : F_laws_equalInts a b k) : S_laws_equalInts a b k := by
  obtain ⟨hl, hk⟩ := h
  refine br_bne.2 ⟨fun he => by rwa [decide_eq_false (fun e => he (by rw [e]))] at hk, fun he => ?_⟩
  have he : a.length = b.length := by omega
  have key : ∀ (r : List Int) (i : Nat), a.drop i = r → (r = b.drop i ↔ a = b) → L0_laws_equalInts a b k (r.length + 1) (i : Int) := by
    intro r
    induction r with
    | nil =>
      intro i hd hi
      have := drop_nil' hd
      rw [L0_laws_equalInts, T0_laws_equalInts]
      simp only [br_dec]
      exact ⟨fun h => by omega, fun _ => by rwa [decide_eq_true (hi.1 (List.drop_eq_nil_of_le (by omega)).symm)] at hk⟩
    | cons x r ih =>
      intro i hd hi
      obtain ⟨h1, h2, _, h3, _⟩ := drop_cons' hd
      obtain ⟨y, s, hs⟩ : ∃ y s, b.drop i = y :: s := by
        cases e : b.drop i with
        | nil => have := drop_nil' e; omega
        | cons y s => exact ⟨y, s, rfl⟩
      obtain ⟨g1, g2, _, g3, _⟩ := drop_cons' hs
      rw [List.length_cons, L0_laws_equalInts, T0_laws_equalInts]
      simp only [br_dec, br_bne, Int.toNat_natCast, h2, g2]
      rw [hs] at hi
      refine ⟨fun _ => ⟨⟨by omega, by omega⟩, ⟨by omega, by omega⟩, ?_⟩, fun h => by omega⟩
      have go : x = y → L0_laws_equalInts a b k (r.length + 1) ((i : Int) + 1) := fun hx => ih (i + 1) h3 (by rw [g3, ← hi, hx]; simp)
      have no : x ≠ y → k false := fun hx => by rwa [decide_eq_false (fun e => hx (List.cons.inj (hi.2 e)).1)] at hk
      exact ⟨no, fun hx => ⟨inR (by omega) (by omega), go hx⟩⟩
  exact ⟨_, key a 0 rfl (by simp)⟩
-- laws.equalSegments
def G_laws_equalSegments (a0Trial : Int) (a0Safe : Int) (a0New : List Int) (a0Old : List Int) (b1Trial : Int) (b1Safe : Int) (b1New : List Int) (b1Old : List Int) (k : Bool → Prop) : Prop :=
  br (a0Trial == b1Trial)
  (br (a0Safe == b1Safe)
    (F_laws_equalInts a0New b1New fun equalInts22 =>
      br equalInts22
      (F_laws_equalInts a0Old b1Old fun equalInts29 =>
        k equalInts29)
      (k false))
    (k false))
  (k false)
def S_laws_equalSegments (a0Trial : Int) (a0Safe : Int) (a0New : List Int) (a0Old : List Int) (b1Trial : Int) (b1Safe : Int) (b1New : List Int) (b1Old : List Int) (k : Bool → Prop) : Prop := G_laws_equalSegments a0Trial a0Safe a0New a0Old b1Trial b1Safe b1New b1Old k
def F_laws_equalSegments (t1 s1 : Int) (a1 b1 : List Int) (t2 s2 : Int) (a2 b2 : List Int) (k : Bool → Prop) : Prop :=
  (a1.length ≤ 1000000000 ∧ b1.length ≤ 1000000000) ∧ ∀ b : Bool, (b = true ↔ t1 = t2 ∧ s1 = s2 ∧ a1 = a2 ∧ b1 = b2) → k b
theorem F_laws_equalSegments_S {t1 s1 : Int} {a1 b1 : List Int} {t2 s2 : Int} {a2 b2 : List Int} {k : Bool → Prop} (h : F_laws_equalSegments t1 s1 a1 b1 t2 s2 a2 b2 k) : S_laws_equalSegments t1 s1 a1 b1 t2 s2 a2 b2 k := by
  obtain ⟨⟨l1, l2⟩, hk⟩ := h
  refine br_beq.2 ⟨fun e1 => br_beq.2 ⟨fun e2 => ⟨l1, br_dec.2 ⟨fun e3 => ⟨l2, hk _ (by simp [e1, e2, e3])⟩, fun e3 => hk _ (by simp [e3])⟩⟩, fun e2 => hk _ (by simp [e2])⟩, fun e1 => hk _ (by simp [e1])⟩
theorem equalSegments_same {t1 s1 : Int} {a1 b1 : List Int} {k : Bool → Prop} (l1 : a1.length ≤ 1000000000) (l2 : b1.length ≤ 1000000000) (h : k true) : F_laws_equalSegments t1 s1 a1 b1 t1 s1 a1 b1 k :=
  ⟨⟨l1, l2⟩, all_t ⟨rfl, rfl, rfl, rfl⟩ h⟩
-- impl.validPlace
def G_impl_validPlace (t0 : List Int) (place1 : Int) (k : Bool → Prop) : Prop :=
  br (decide (0 ≤ place1))
  (k (decide (place1 ≤ (t0.length : Int))))
  (k false)
def S_impl_validPlace (t0 : List Int) (place1 : Int) (k : Bool → Prop) : Prop := G_impl_validPlace t0 place1 k
def F_impl_validPlace (t : List Int) (p : Int) (k : Bool → Prop) : Prop := k (decide (0 ≤ p ∧ p ≤ t.length))
theorem F_impl_validPlace_S {t : List Int} {p : Int} {k : Bool → Prop} (h : F_impl_validPlace t p k) : S_impl_validPlace t p k := by
  unfold F_impl_validPlace at h
  simp only [S_impl_validPlace, G_impl_validPlace, br_dec]
  refine ⟨fun h1 => ?_, fun h1 => ?_⟩
  · simpa [h1] using h
  · simpa [h1] using h
-- impl.NextUse
def G_impl_NextUse (t0 : List Int) (from1 : Int) (key2 : Int) (k : Int → Prop) : Prop :=
  F_impl_ValidTrace t0 fun validTrace9 =>
  br (!validTrace9)
  (k (-1))
  (F_impl_validPlace t0 from1 fun validPlace14 =>
    br (!validPlace14)
    (k (-1))
    (F_impl_validKey key2 fun validKey19 =>
      br (!validKey19)
      (k (-1))
      ((0 ≤ from1 ∧ from1 ≤ (t0.length : Int)) ∧
        F_slices_Index_sint_int (List.drop (Int.toNat from1) t0) key2 fun index26 =>
        br (decide (index26 ≥ 0))
        (InR (from1 + index26) ∧
          k (from1 + index26))
        (k (t0.length : Int)))))
def S_impl_NextUse (t0 : List Int) (from1 : Int) (key2 : Int) (k : Int → Prop) : Prop := G_impl_NextUse t0 from1 key2 k
def F_impl_NextUse (t : List Int) (i : Int) (key : Int) (k : Int → Prop) : Prop := (VTrace t ∧ (0 ≤ i ∧ i ≤ t.length) ∧ 0 ≤ key ∧ key ≤ 31 → k (nextM t i key)) ∧ (¬ (VTrace t ∧ (0 ≤ i ∧ i ≤ t.length) ∧ 0 ≤ key ∧ key ≤ 31) → k (-1))
theorem F_impl_NextUse_S {t : List Int} {i : Int} {key : Int} {k : Int → Prop} (h : F_impl_NextUse t i key k) : S_impl_NextUse t i key k := by
  obtain ⟨hyes, hno⟩ := h
  intro b hb
  refine br_not.2 (br_iff.2 ⟨fun e => ?_, fun e => hno fun w => by rw [hb.2 w.1] at e; cases e⟩)
  have v := hb.1 e
  have hl := v.1
  refine br_not.2 (br_dec.2 ⟨fun hi => br_not.2 (br_dec.2 ⟨fun hkey => ?_, fun hkey => hno fun w => hkey w.2.2⟩), fun hi => hno fun w => hi w.2.1⟩)
  have hk := hyes ⟨v, hi, hkey⟩
  have hd : (t.drop i.toNat).length = t.length - i.toNat := List.length_drop
  refine ⟨hi, by omega, br_dec.2 ⟨fun hm => ?_, fun hm => ?_⟩⟩
  · have := plc_nxt (plc_ge.1 hm)
    have := nxt_le key (t.drop i.toNat)
    rw [show nextM t i key = i + plc (t.drop i.toNat) key by unfold nextM; omega] at hk
    exact ⟨inR (by omega) (by omega), hk⟩
  · have := nxt_out (fun c => hm (plc_ge.2 c))
    rw [show nextM t i key = (t.length : Int) by unfold nextM; omega] at hk
    exact hk
-- impl.latestKey
def T0_impl_latestKey (cache2 : List Int) (from1 : Int) (t0 : List Int) (xt14 : Int) (xlatest7 : Int) (xt15 : Int) (k : Int → Prop) (B0 : Int → Int → Prop) : Prop :=
  br (decide (xt15 < xt14))
  ((0 ≤ xt15 ∧ xt15 < (cache2.length : Int)) ∧
    F_impl_NextUse t0 from1 (List.getD cache2 (Int.toNat xt15) (0 : Int)) fun nextUse22 =>
    F_impl_NextUse t0 from1 xlatest7 fun nextUse26 =>
    br (decide (nextUse22 > nextUse26))
    (InR (xt15 + 1) ∧
      B0 (List.getD cache2 (Int.toNat xt15) (0 : Int)) (xt15 + 1))
    (InR (xt15 + 1) ∧
      B0 xlatest7 (xt15 + 1)))
  (k xlatest7)
def L0_impl_latestKey (cache2 : List Int) (from1 : Int) (t0 : List Int) (xt14 : Int) (k : Int → Prop) : Nat → Int → Int → Prop
  | 0, _, _ => False
  | n + 1, xlatest7, xt15 => T0_impl_latestKey cache2 from1 t0 xt14 xlatest7 xt15 k (L0_impl_latestKey cache2 from1 t0 xt14 k n)
def G_impl_latestKey (t0 : List Int) (from1 : Int) (cache2 : List Int) (I0 : List Int → Int → List Int → Int → Int → Int → Prop) : Prop :=
  (0 ≤ (0 : Int) ∧ 0 < (cache2.length : Int)) ∧
  I0 cache2 from1 t0 (cache2.length : Int) (List.getD cache2 0 (0 : Int)) 0
def S_impl_latestKey (t0 : List Int) (from1 : Int) (cache2 : List Int) (k : Int → Prop) : Prop := G_impl_latestKey t0 from1 cache2 (fun cache2 from1 t0 xt14 xlatest7 xt15 => ∃ j, L0_impl_latestKey cache2 from1 t0 xt14 k j xlatest7 xt15)
def F_impl_latestKey (t : List Int) (i : Int) (l : List Int) (k : Int → Prop) : Prop := (VTrace t ∧ (0 ≤ i ∧ i ≤ t.length) ∧ (0 < l.length ∧ l.length ≤ 1000000) ∧ ∀ x ∈ l, 0 ≤ x ∧ x ≤ 31) ∧ k (farM (t.drop i.toNat) l)
theorem F_impl_latestKey_S {t : List Int} {i : Int} {l : List Int} {k : Int → Prop} (h : F_impl_latestKey t i l k) : S_impl_latestKey t i l k := by
  obtain ⟨⟨v, hi, hp, hr⟩, hk⟩ := h
  have h0 : l.getD 0 0 ∈ l := mem_getD (by omega)
  have go : ∀ (m j : Nat), j + m = l.length → L0_impl_latestKey l i t (l.length : Int) k (m + 1) (farK (t.drop i.toNat) (l.take j) (l.getD 0 0)) (j : Int) := by
    intro m
    induction m with
    | zero =>
      intro j hj
      rw [L0_impl_latestKey, T0_impl_latestKey, List.take_of_length_le (by omega)]
      refine br_dec.2 ⟨fun h => by omega, fun _ => ?_⟩
      have : farK (t.drop i.toNat) l (l.getD 0 0) = farM (t.drop i.toNat) l := by
        cases l with
        | nil => simp at hp
        | cons y l => exact farK_self _ _ _
      rw [this]; exact hk
    | succ m ih =>
      intro j hj
      have next := ih (j + 1) (by omega)
      rw [take_get (by omega), farK_snoc] at next
      have hin : l.getD j 0 ∈ l := mem_getD (by omega)
      have hfar : farK (t.drop i.toNat) (l.take j) (l.getD 0 0) ∈ l := by
        rcases List.mem_cons.1 (farK_mem (t.drop i.toNat) (l.take j) (l.getD 0 0)) with h | h
        · rw [h]; exact h0
        · exact List.mem_of_mem_take h
      rw [L0_impl_latestKey, T0_impl_latestKey]
      simp only [Int.toNat_natCast]
      refine br_yd (by omega) ⟨⟨by omega, by omega⟩, yes ⟨v, hi, hr _ hin⟩ (yes ⟨v, hi, hr _ hfar⟩ (br_dec.2 ⟨fun g => ⟨inR (by omega) (by omega), ?_⟩, fun g => ⟨inR (by omega) (by omega), ?_⟩⟩))⟩
      · rw [if_pos (by unfold nextM at g; omega)] at next; exact next
      · rw [if_neg (by unfold nextM at g; omega)] at next; exact next
  exact ⟨⟨by omega, by omega⟩, _, go l.length 0 (by omega)⟩
-- impl.BestHits
def T0_impl_BestHits (room1 : Int) (t0 : List Int) (xt19 : Int) (xhits6 : Int) (xt20 : Int) (xcache5 : List Int) (k : Int → Prop) (B0 : Int → Int → List Int → Prop) : Prop :=
  br (decide (xt20 < xt19))
  ((0 ≤ xt20 ∧ xt20 < (t0.length : Int)) ∧
    F_slices_Contains_sint_int xcache5 (List.getD t0 (Int.toNat xt20) (0 : Int)) fun contains27 =>
    br contains27
    (InR (xhits6 + 1) ∧
      InR (xt20 + 1) ∧
      B0 (xhits6 + 1) (xt20 + 1) xcache5)
    (br ((xcache5.length : Int) == room1)
      (InR (xt20 + 1) ∧
        F_impl_latestKey t0 (xt20 + 1) xcache5 fun latestKey39 =>
        F_impl_withoutKey xcache5 latestKey39 fun withoutKey40 =>
        (withoutKey40.length + 1 ≤ 1000000000) ∧
        InR (xt20 + 1) ∧
        B0 xhits6 (xt20 + 1) (withoutKey40 ++ ([(List.getD t0 (Int.toNat xt20) (0 : Int))] : List Int)))
      ((xcache5.length + 1 ≤ 1000000000) ∧
        InR (xt20 + 1) ∧
        B0 xhits6 (xt20 + 1) (xcache5 ++ ([(List.getD t0 (Int.toNat xt20) (0 : Int))] : List Int)))))
  (k xhits6)
def L0_impl_BestHits (room1 : Int) (t0 : List Int) (xt19 : Int) (k : Int → Prop) : Nat → Int → Int → List Int → Prop
  | 0, _, _, _ => False
  | n + 1, xhits6, xt20, xcache5 => T0_impl_BestHits room1 t0 xt19 xhits6 xt20 xcache5 k (L0_impl_BestHits room1 t0 xt19 k n)
def G_impl_BestHits (t0 : List Int) (room1 : Int) (k : Int → Prop) (I0 : Int → List Int → Int → Int → Int → List Int → Prop) : Prop :=
  F_impl_ValidTrace t0 fun validTrace10 =>
  br (!validTrace10)
  (k (-1))
  (F_impl_validRoom room1 fun validRoom14 =>
    br (!validRoom14)
    (k (-1))
    (I0 room1 t0 (t0.length : Int) 0 0 ([] : List Int)))
def S_impl_BestHits (t0 : List Int) (room1 : Int) (k : Int → Prop) : Prop := G_impl_BestHits t0 room1 k (fun room1 t0 xt19 xhits6 xt20 xcache5 => ∃ j, L0_impl_BestHits room1 t0 xt19 k j xhits6 xt20 xcache5)
def F_impl_BestHits (t : List Int) (room : Int) (k : Int → Prop) : Prop := (VTrace t ∧ 1 ≤ room ∧ room ≤ 8 → k (bestM room.toNat t [] : Int)) ∧ (¬ (VTrace t ∧ 1 ≤ room ∧ room ≤ 8) → k (-1))
theorem F_impl_BestHits_S {t : List Int} {room : Int} {k : Int → Prop} (h : F_impl_BestHits t room k) : S_impl_BestHits t room k := by
  obtain ⟨hyes, hno⟩ := h
  intro b hb
  refine br_not.2 (br_iff.2 ⟨fun e => ?_, fun e => hno fun w => by rw [hb.2 w.1] at e; cases e⟩)
  have v := hb.1 e
  refine br_not.2 (br_dec.2 ⟨fun hr => ?_, fun hr => hno fun w => hr w.2⟩)
  have hk := hyes ⟨v, hr⟩
  have h0 := v.1
  have go : ∀ (r : List Int) (i : Nat) (n : Int) (C : List Int), t.drop i = r → 0 ≤ n → n ≤ i → C.Nodup → C.length ≤ room.toNat → (∀ x ∈ C, 0 ≤ x ∧ x ≤ 31) → n + (bestM room.toNat r C : Int) = (bestM room.toNat t [] : Int) → L0_impl_BestHits room t (t.length : Int) k (r.length + 1) n (i : Int) C := by
    intro r
    induction r with
    | nil =>
      intro i n C hd n0 n1 hn hc hC he
      have := drop_nil' hd
      rw [L0_impl_BestHits, T0_impl_BestHits]
      refine br_dec.2 ⟨fun h => by omega, fun _ => ?_⟩
      rw [show n = (bestM room.toNat t [] : Int) by simpa [bestM] using he]; exact hk
    | cons x r ih =>
      intro i n C hd n0 n1 hn hc hC he
      obtain ⟨g1, g2, g5, g3, g4⟩ := drop_cons' hd
      have hx := v.2 x (List.mem_of_getElem? g5)
      rw [List.length_cons, L0_impl_BestHits, T0_impl_BestHits]
      simp only [Int.toNat_natCast, g2]
      refine br_yd (by omega) ⟨⟨by omega, by omega⟩, by omega, br_dec.2 ⟨fun hm => ?_, fun hm => ?_⟩⟩
      · rw [bestM, if_pos hm] at he
        exact ⟨inR (by omega) (by omega), inR (by omega) (by omega), ih (i + 1) _ C g3 (by omega) (by omega) hn hc hC (by omega)⟩
      · rw [bestM, if_neg hm] at he
        obtain ⟨m1, m2, m3, m4⟩ := missB_ok (room := room.toNat) (r := r) (by omega) hn hc hm
        have last := ih (i + 1) n (missB room.toNat r C x) g3 n0 (by omega) m1 m2 (fun y hy => by
          rcases m4 y hy with h | h
          · rw [h]; exact hx
          · exact hC y h) he
        refine br_beq.2 ⟨fun hf => ⟨inR (by omega) (by omega), ⟨v, ⟨by omega, by omega⟩, ⟨by omega, by omega⟩, hC⟩, ?_⟩, fun hf => ?_⟩
        · rw [show ((i : Int) + 1).toNat = i + 1 by omega, g3]
          have := @rmK_le C (farM r C)
          rw [missB, if_pos (by omega)] at last
          exact ⟨by omega, by omega, inR (by omega) (by omega), last⟩
        · rw [missB, if_neg (by omega)] at last
          exact ⟨by omega, inR (by omega) (by omega), last⟩
  exact ⟨_, go t 0 0 [] rfl (by omega) (by omega) (by simp) (by simp) (by simp) (by omega)⟩
-- laws.FnRunSegmentsBest
def G_laws_FnRunSegmentsBest_j0 (runSegments23New : List Int) (runSegments23Old : List Int) (runSegments23Safe : Int) (runSegments23Trial : Int) (runSegments23r1 : Int) (runSegments30New : List Int) (runSegments30Old : List Int) (runSegments30Safe : Int) (runSegments30Trial : Int) (runSegments30r1 : Int) (k : Bool → Prop) : Prop :=
  F_laws_equalSegments runSegments23Trial runSegments23Safe runSegments23New runSegments23Old runSegments30Trial runSegments30Safe runSegments30New runSegments30Old fun equalSegments54 =>
  br equalSegments54
  (k (runSegments23r1 == runSegments30r1))
  (k false)
def G_laws_FnRunSegmentsBest (code0 : List Int) (k : Bool → Prop) : Prop :=
  br (decide ((code0.length : Int) > 1048576))
  (k true)
  (F_spec_DrawRunSegments code0 fun drawRunSegments15r0 drawRunSegments15r1 drawRunSegments15r2 =>
    F_impl_RunSegments drawRunSegments15r0 drawRunSegments15r1 drawRunSegments15r2 fun runSegments23Trial runSegments23Safe runSegments23New runSegments23Old runSegments23r1 =>
    F_spec_RunSegments drawRunSegments15r0 drawRunSegments15r1 drawRunSegments15r2 fun runSegments30Trial runSegments30Safe runSegments30New runSegments30Old runSegments30r1 =>
    F_laws_equalSegments runSegments23Trial runSegments23Safe runSegments23New runSegments23Old runSegments30Trial runSegments30Safe runSegments30New runSegments30Old fun equalSegments35 =>
    br (!equalSegments35)
    (G_laws_FnRunSegmentsBest_j0 runSegments23New runSegments23Old runSegments23Safe runSegments23Trial runSegments23r1 runSegments30New runSegments30Old runSegments30Safe runSegments30Trial runSegments30r1 k)
    (br (runSegments23r1 != runSegments30r1)
      (G_laws_FnRunSegmentsBest_j0 runSegments23New runSegments23Old runSegments23Safe runSegments23Trial runSegments23r1 runSegments30New runSegments30Old runSegments30Safe runSegments30Trial runSegments30r1 k)
      (br (decide (runSegments23r1 < 0))
        (G_laws_FnRunSegmentsBest_j0 runSegments23New runSegments23Old runSegments23Safe runSegments23Trial runSegments23r1 runSegments30New runSegments30Old runSegments30Safe runSegments30Trial runSegments30r1 k)
        (InR (drawRunSegments15r1 + drawRunSegments15r2) ∧
          br (decide ((drawRunSegments15r1 + drawRunSegments15r2) > 8))
          (G_laws_FnRunSegmentsBest_j0 runSegments23New runSegments23Old runSegments23Safe runSegments23Trial runSegments23r1 runSegments30New runSegments30Old runSegments30Safe runSegments30Trial runSegments30r1 k)
          (InR (drawRunSegments15r1 + drawRunSegments15r2) ∧
            F_impl_BestHits drawRunSegments15r0 (drawRunSegments15r1 + drawRunSegments15r2) fun bestHits65 =>
            k (decide (runSegments23r1 ≤ bestHits65)))))))
def S_laws_FnRunSegmentsBest (code0 : List Int) (k : Bool → Prop) : Prop := G_laws_FnRunSegmentsBest code0 k
abbrev F_laws_FnRunSegmentsBest (code0 : List Int) (k : Bool → Prop) : Prop := S_laws_FnRunSegmentsBest code0 k
theorem F_laws_FnRunSegmentsBest_S {code0 : List Int} {k : Bool → Prop} (h : F_laws_FnRunSegmentsBest code0 k) : S_laws_FnRunSegmentsBest code0 k := h
theorem law_FnRunSegmentsBest (code : List Int) (hb : ∀ x ∈ code, 0 ≤ x ∧ x ≤ 255) : F_laws_FnRunSegmentsBest code (fun r => r = true) := by
  refine br_dec.2 ⟨fun _ => rfl, fun hlen => ⟨hb, fun t trial safe l1 => ?_⟩⟩
  by_cases v : VTrace t ∧ (1 ≤ trial ∧ trial ≤ 8) ∧ 1 ≤ safe ∧ safe ≤ 8
  · have hv := (runS_valid t [] [] 0 (segs0 v.2.1 v.2.2) v.1.2).1
    obtain ⟨f1, f2, f3⟩ := runS_facts v.1 v.2.1 v.2.2
    have hl := segs_len hv
    have fin : G_laws_FnRunSegmentsBest_j0 (runS trial safe t [] [] 0).1 (runS trial safe t [] [] 0).2.1 safe trial (runS trial safe t [] [] 0).2.2 (runS trial safe t [] [] 0).1 (runS trial safe t [] [] 0).2.1 safe trial (runS trial safe t [] [] 0).2.2 (fun r => r = true) := equalSegments_same (by omega) (by omega) (beq_t rfl)
    exact yes v (yes v (equalSegments_same (by omega) (by omega) (br_nt (br_same' (br_nd (by omega) ⟨inR (by omega) (by omega), br_dec.2 ⟨fun _ => fin, fun hk => ⟨inR (by omega) (by omega), yes ⟨v.1, by omega, by omega⟩ (decide_eq_true f2)⟩⟩⟩)))))
  · exact nay v (nay v (equalSegments_same (by simp) (by simp) (br_nt (br_same' (br_yd (by omega) (equalSegments_same (by simp) (by simp) rfl))))))
end Go.Ev
