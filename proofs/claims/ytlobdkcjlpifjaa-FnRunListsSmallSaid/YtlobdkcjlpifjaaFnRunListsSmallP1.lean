/- What the functions that the law reaches do, written as plain Lean. No statement is proved here. -/
import Derived.Test.YtlobdkcjlpifjaaFnRunListsSmallP0
namespace Go.Ev
set_option linter.unusedVariables false
open Go
def F_slices_Concat_sint_int (ls : List (List Int)) (k : List Int → Prop) : Prop := (ls.length ≤ 1000000000 ∧ ls.flatten.length ≤ 1000000000) ∧ k ls.flatten
theorem F_slices_Concat_sint_int_S {ls : List (List Int)} {k : List Int → Prop} (h : F_slices_Concat_sint_int ls k) : S_slices_Concat_sint_int ls k := by
  obtain ⟨⟨hl, ht⟩, hk⟩ := h
  have le : ∀ i, (ls.take i).flatten.length ≤ ls.flatten.length := fun i => by
    have := congrArg List.length (congrArg List.flatten (List.take_append_drop i ls))
    rw [List.flatten_append, List.length_append] at this
    omega
  have key1 : ∀ (r : List (List Int)) (i : Nat), ls.drop i = r → L1_slices_Concat_sint_int ls k (r.length + 1) (ls.length : Int) (i : Int) (ls.take i).flatten := by
    intro r
    induction r with
    | nil =>
      intro i hd
      have := drop_nil' hd
      rw [List.take_of_length_le this, L1_slices_Concat_sint_int, T1_slices_Concat_sint_int]
      exact br_dec.2 ⟨fun h => by omega, fun _ => hk⟩
    | cons x r ih =>
      intro i hd
      obtain ⟨h1, h2, h5, h3, h4⟩ := drop_cons' hd
      have hle := le (i + 1)
      have he : (ls.take (i + 1)).flatten = (ls.take i).flatten ++ x := by rw [h4]; simp
      have := ih (i + 1) h3
      rw [he] at this hle
      rw [List.length_append] at hle
      rw [List.length_cons, L1_slices_Concat_sint_int, T1_slices_Concat_sint_int]
      simp only [br_dec, Int.toNat_natCast, h2]
      exact ⟨fun _ => ⟨⟨by omega, by omega⟩, by omega, inR (by omega) (by omega), this⟩, fun h => by omega⟩
  have key : ∀ (r : List (List Int)) (i : Nat), ls.drop i = r → L0_slices_Concat_sint_int ls (ls.length : Int) k (r.length + 1) ((ls.take i).flatten.length : Int) (i : Int) := by
    intro r
    induction r with
    | nil =>
      intro i hd
      have := drop_nil' hd
      rw [List.take_of_length_le this, L0_slices_Concat_sint_int, T0_slices_Concat_sint_int]
      refine br_dec.2 ⟨fun h => by omega, fun _ => br_dec.2 ⟨fun h => by omega, fun _ => ⟨inR (by omega) (by omega), inR (by omega) (by omega), br_dec.2 ⟨fun h => ⟨rfl, ⟨by omega, by omega⟩, ⟨by omega, by omega⟩, ⟨_, key1 ls 0 rfl⟩⟩, fun h => ⟨_, key1 ls 0 rfl⟩⟩⟩⟩⟩
    | cons x r ih =>
      intro i hd
      obtain ⟨h1, h2, h5, h3, h4⟩ := drop_cons' hd
      have hle := le (i + 1)
      have he : (ls.take (i + 1)).flatten = (ls.take i).flatten ++ x := by rw [h4]; simp
      have := ih (i + 1) h3
      rw [he, List.length_append] at this hle
      rw [List.length_cons, L0_slices_Concat_sint_int, T0_slices_Concat_sint_int]
      simp only [br_dec, Int.toNat_natCast, h2]
      have e2 : (((ls.take i).flatten.length + x.length : Nat) : Int) = ((ls.take i).flatten.length : Int) + (x.length : Int) := by omega
      rw [e2] at this
      refine ⟨fun _ => ⟨⟨by omega, by omega⟩, inR (by omega) (by omega), fun h => by omega, fun _ => ⟨inR (by omega) (by omega), this⟩⟩, fun h => by omega⟩
  exact ⟨_, key ls 0 rfl⟩
-- slices.Index[[]int,int]
def T0_slices_Index_sint_int (s0 : List Int) (v1 : Int) (xt7 : Int) (xt8 : Int) (k : Int → Prop) (B0 : Int → Prop) : Prop :=
  br (decide (xt8 < xt7))
  ((0 ≤ xt8 ∧ xt8 < (s0.length : Int)) ∧
    br (v1 == (List.getD s0 (Int.toNat xt8) (0 : Int)))
    (k xt8)
    (InR (xt8 + 1) ∧
      B0 (xt8 + 1)))
  (k (-1))
def L0_slices_Index_sint_int (s0 : List Int) (v1 : Int) (xt7 : Int) (k : Int → Prop) : Nat → Int → Prop
  | 0, _ => False
  | n + 1, xt8 => T0_slices_Index_sint_int s0 v1 xt7 xt8 k (L0_slices_Index_sint_int s0 v1 xt7 k n)
def G_slices_Index_sint_int (s0 : List Int) (v1 : Int) (I0 : List Int → Int → Int → Int → Prop) : Prop :=
  I0 s0 v1 (s0.length : Int) 0
def S_slices_Index_sint_int (s0 : List Int) (v1 : Int) (k : Int → Prop) : Prop := G_slices_Index_sint_int s0 v1 (fun s0 v1 xt7 xt8 => ∃ j, L0_slices_Index_sint_int s0 v1 xt7 k j xt8)
def F_slices_Index_sint_int (l : List Int) (n : Int) (k : Int → Prop) : Prop := l.length ≤ 1000000000 ∧ k (plc l n)
theorem F_slices_Index_sint_int_S {l : List Int} {n : Int} {k : Int → Prop} (h : F_slices_Index_sint_int l n k) : S_slices_Index_sint_int l n k := by
  obtain ⟨hl, hk⟩ := h
  have key : ∀ (r : List Int) (i : Nat), l.drop i = r → plcF r n i = plc l n → L0_slices_Index_sint_int l n (l.length : Int) k (r.length + 1) (i : Int) := by
    intro r
    induction r with
    | nil =>
      intro i hd he
      have := drop_nil' hd
      rw [L0_slices_Index_sint_int, T0_slices_Index_sint_int]
      simp only [br_dec]
      exact ⟨fun h => by omega, fun _ => by rw [show (-1 : Int) = plc l n from he]; exact hk⟩
    | cons x r ih =>
      intro i hd he
      obtain ⟨h1, h2, _, h3, _⟩ := drop_cons' hd
      rw [List.length_cons, L0_slices_Index_sint_int, T0_slices_Index_sint_int]
      simp only [br_dec, br_beq, Int.toNat_natCast, h2]
      refine ⟨fun _ => ⟨⟨by omega, by omega⟩, fun hx => ?_, fun hx => ⟨inR (by omega) (by omega), ?_⟩⟩, fun h => by omega⟩
      · simp only [plcF, if_pos hx.symm] at he; rw [he]; exact hk
      · simp only [plcF, if_neg (Ne.symm hx)] at he; exact ih (i + 1) h3 he
  exact ⟨_, key l 0 rfl rfl⟩
-- slices.Contains[[]int,int]
def G_slices_Contains_sint_int (s0 : List Int) (v1 : Int) (k : Bool → Prop) : Prop :=
  F_slices_Index_sint_int s0 v1 fun index7 =>
  k (decide (index7 ≥ 0))
def S_slices_Contains_sint_int (s0 : List Int) (v1 : Int) (k : Bool → Prop) : Prop := G_slices_Contains_sint_int s0 v1 k
def F_slices_Contains_sint_int (l : List Int) (n : Int) (k : Bool → Prop) : Prop := l.length ≤ 1000000000 ∧ k (decide (n ∈ l))
theorem F_slices_Contains_sint_int_S {l : List Int} {n : Int} {k : Bool → Prop} (h : F_slices_Contains_sint_int l n k) : S_slices_Contains_sint_int l n k := by
  refine ⟨h.1, ?_⟩
  have : decide (plc l n ≥ 0) = decide (n ∈ l) := decide_eq_decide.2 plc_ge
  show k (decide (plc l n ≥ 0))
  rw [this]; exact h.2
-- impl.differentKeys
def T0_impl_differentKeys (list0 : List Int) (xt6 : Int) (xt7 : Int) (k : Bool → Prop) (B0 : Int → Prop) : Prop :=
  br (decide (xt7 < xt6))
  ((0 ≤ xt7 ∧ xt7 < (list0.length : Int)) ∧
    F_impl_validKey (List.getD list0 (Int.toNat xt7) (0 : Int)) fun validKey13 =>
    br (!validKey13)
    (k false)
    ((0 ≤ xt7 ∧ xt7 ≤ (list0.length : Int)) ∧
      F_slices_Contains_sint_int (List.take (Int.toNat xt7) list0) (List.getD list0 (Int.toNat xt7) (0 : Int)) fun contains20 =>
      br contains20
      (k false)
      (InR (xt7 + 1) ∧
        B0 (xt7 + 1))))
  (k true)
def L0_impl_differentKeys (list0 : List Int) (xt6 : Int) (k : Bool → Prop) : Nat → Int → Prop
  | 0, _ => False
  | n + 1, xt7 => T0_impl_differentKeys list0 xt6 xt7 k (L0_impl_differentKeys list0 xt6 k n)
def G_impl_differentKeys (list0 : List Int) (I0 : List Int → Int → Int → Prop) : Prop :=
  I0 list0 (list0.length : Int) 0
def S_impl_differentKeys (list0 : List Int) (k : Bool → Prop) : Prop := G_impl_differentKeys list0 (fun list0 xt6 xt7 => ∃ j, L0_impl_differentKeys list0 xt6 k j xt7)
def F_impl_differentKeys (l : List Int) (k : Bool → Prop) : Prop := l.length ≤ 1000000000 ∧ ∀ b : Bool, (b = true ↔ (∀ x ∈ l, 0 ≤ x ∧ x ≤ 31) ∧ l.Nodup) → k b
theorem F_impl_differentKeys_S {l : List Int} {k : Bool → Prop} (h : F_impl_differentKeys l k) : S_impl_differentKeys l k := by
  obtain ⟨hl, h⟩ := h
  have hno : ¬ ((∀ x ∈ l, 0 ≤ x ∧ x ≤ 31) ∧ l.Nodup) → k false := fun hv => h false (by simp only [Bool.false_eq_true, false_iff]; exact hv)
  have key : ∀ (r : List Int) (i : Nat), l.drop i = r → (∀ x ∈ l.take i, 0 ≤ x ∧ x ≤ 31) → (l.take i).Nodup → L0_impl_differentKeys l (l.length : Int) k (r.length + 1) (i : Int) := by
    intro r
    induction r with
    | nil =>
      intro i hd he hn
      have := drop_nil' hd
      rw [List.take_of_length_le this] at he hn
      rw [L0_impl_differentKeys, T0_impl_differentKeys]
      simp only [br_dec]
      exact ⟨fun h => by omega, fun _ => h true (by simp only [true_iff]; exact ⟨he, hn⟩)⟩
    | cons x r ih =>
      intro i hd he hn
      obtain ⟨h1, h2, h5, h3, h4⟩ := drop_cons' hd
      rw [List.length_cons, L0_impl_differentKeys, T0_impl_differentKeys]
      simp only [br_dec, F_impl_validKey, F_slices_Contains_sint_int, Int.toNat_natCast, h2, br_not]
      have hxl : x ∈ l := List.mem_of_getElem? h5
      refine ⟨fun _ => ⟨⟨by omega, by omega⟩, fun hx => ⟨⟨by omega, by omega⟩, by simp; omega, fun hc => ?_, fun hc => ⟨inR (by omega) (by omega), ?_⟩⟩, fun hx => hno fun v => hx (v.1 x hxl)⟩, fun h => by omega⟩
      · refine hno fun v => ?_
        have hn2 := v.2
        rw [← List.take_append_drop i l, hd] at hn2
        exact (List.nodup_append.1 hn2).2.2 x hc x (by simp) rfl
      · refine ih (i + 1) h3 ?_ ?_
        · rw [h4]; intro y hy
          rcases List.mem_append.1 hy with hy | hy
          · exact he y hy
          · simp at hy; subst hy; exact hx
        · rw [h4, List.nodup_append]
          refine ⟨hn, by simp, fun a ha b hb e => ?_⟩
          simp at hb; subst hb; subst e; exact hc ha
  exact ⟨_, key l 0 rfl (by simp) (by simp)⟩
-- impl.ValidLists
def G_impl_ValidLists (a0Room : Int) (a0Target : Int) (a0Once : List Int) (a0Often : List Int) (a0WasOnce : List Int) (a0WasOften : List Int) (k : Bool → Prop) : Prop :=
  F_impl_validRoom a0Room fun validRoom7 =>
  br (!validRoom7)
  (k false)
  (br (decide (a0Target < 0))
    (k false)
    (br (decide (a0Target > a0Room))
      (k false)
      (InR ((a0Once.length : Int) + (a0WasOnce.length : Int)) ∧
        InR ((a0Often.length : Int) + (a0WasOften.length : Int)) ∧
        InR ((a0Once.length : Int) + (a0Often.length : Int)) ∧
        br (decide (((a0Once.length : Int) + (a0Often.length : Int)) > a0Room))
        (k false)
        (br (decide (((a0Once.length : Int) + (a0WasOnce.length : Int)) > a0Room))
          (k false)
          (InR (((a0Once.length : Int) + (a0WasOnce.length : Int)) + ((a0Often.length : Int) + (a0WasOften.length : Int))) ∧
            InR (2 * a0Room) ∧
            br (decide ((((a0Once.length : Int) + (a0WasOnce.length : Int)) + ((a0Often.length : Int) + (a0WasOften.length : Int))) > (2 * a0Room)))
            (k false)
            (F_slices_Concat_sint_int ([a0Once, a0Often, a0WasOnce, a0WasOften] : List (List Int)) fun concat69 =>
              F_impl_differentKeys concat69 fun differentKeys70 =>
              k differentKeys70))))))
def S_impl_ValidLists (a0Room : Int) (a0Target : Int) (a0Once : List Int) (a0Often : List Int) (a0WasOnce : List Int) (a0WasOften : List Int) (k : Bool → Prop) : Prop := G_impl_ValidLists a0Room a0Target a0Once a0Often a0WasOnce a0WasOften k
def F_impl_ValidLists (r t : Int) (o f wo wf : List Int) (k : Bool → Prop) : Prop :=
  (o.length ≤ 100000000 ∧ f.length ≤ 100000000 ∧ wo.length ≤ 100000000 ∧ wf.length ≤ 100000000) ∧ ∀ b : Bool, (b = true ↔ VLists r ⟨t, o, f, wo, wf⟩) → k b
theorem F_impl_ValidLists_S {r t : Int} {o f wo wf : List Int} {k : Bool → Prop} (h : F_impl_ValidLists r t o f wo wf k) : S_impl_ValidLists r t o f wo wf k := by
  obtain ⟨⟨h1, h2, h3, h4⟩, hk⟩ := h
  have no : ¬ VLists r ⟨t, o, f, wo, wf⟩ → k false := fun hv => hk false (by simp [hv])
  refine br_not.2 (br_dec.2 ⟨fun g1 => ?_, fun g1 => no fun v => g1 v.room1⟩)
  refine br_dec.2 ⟨fun g => no fun v => by have := v.tgt; simp only at this; omega, fun g2 => br_dec.2 ⟨fun g => no fun v => by have := v.tgt; simp only at this; omega, fun g3 => ?_⟩⟩
  refine ⟨inR (by omega) (by omega), inR (by omega) (by omega), inR (by omega) (by omega), ?_⟩
  refine br_dec.2 ⟨fun g => no fun v => by have := v.inc; simp only at this; omega, fun g4 => br_dec.2 ⟨fun g => no fun v => by have := v.onc; simp only at this; omega, fun g5 => ?_⟩⟩
  refine ⟨inR (by omega) (by omega), inR (by omega) (by omega), ?_⟩
  refine br_dec.2 ⟨fun g => no fun v => by have := v.tot; simp only at this; omega, fun g6 => ?_⟩
  have e : ([o, f, wo, wf] : List (List Int)).flatten = ((o ++ f) ++ wo) ++ wf := by simp
  refine ⟨⟨by simp, by rw [e]; simp; omega⟩, ?_⟩
  rw [e]
  refine ⟨by simp; omega, fun b hb => hk b ?_⟩
  rw [hb]
  have e2 : ∀ x, x ∈ ((o ++ f) ++ wo) ++ wf ↔ (x ∈ o ∨ x ∈ f ∨ x ∈ wo ∨ x ∈ wf) := fun x => by simp [List.mem_append, or_assoc]
  exact ⟨fun ⟨h5, h6⟩ => ⟨g1, ⟨by simp only; omega, by simp only; omega⟩, by simp only; omega, by simp only; omega, by simp only; omega, D4_nodup.1 h6, fun x hx => h5 x ((e2 x).2 hx)⟩, fun v => ⟨fun x hx => v.rng x ((e2 x).1 hx), D4_nodup.2 v.dis⟩⟩
-- impl.nextTarget
def G_impl_nextTarget (a0Room : Int) (a0Target : Int) (a0Once : List Int) (a0Often : List Int) (a0WasOnce : List Int) (a0WasOften : List Int) (key1 : Int) (k : Int → Prop) : Prop :=
  F_slices_Contains_sint_int a0WasOnce key1 fun contains8 =>
  br contains8
  (((a0WasOnce.length : Int) ≠ 0 ∧ InR (Int.tdiv (a0WasOften.length : Int) (a0WasOnce.length : Int))) ∧
    InR (a0Target + (if (Int.tdiv (a0WasOften.length : Int) (a0WasOnce.length : Int)) < 1 then (1 : Int) else (Int.tdiv (a0WasOften.length : Int) (a0WasOnce.length : Int)))) ∧
    k (if a0Room < (a0Target + (if (Int.tdiv (a0WasOften.length : Int) (a0WasOnce.length : Int)) < 1 then (1 : Int) else (Int.tdiv (a0WasOften.length : Int) (a0WasOnce.length : Int)))) then a0Room else (a0Target + (if (Int.tdiv (a0WasOften.length : Int) (a0WasOnce.length : Int)) < 1 then (1 : Int) else (Int.tdiv (a0WasOften.length : Int) (a0WasOnce.length : Int))))))
  (F_slices_Contains_sint_int a0WasOften key1 fun contains26 =>
    br contains26
    (((a0WasOften.length : Int) ≠ 0 ∧ InR (Int.tdiv (a0WasOnce.length : Int) (a0WasOften.length : Int))) ∧
      InR (a0Target - (if (Int.tdiv (a0WasOnce.length : Int) (a0WasOften.length : Int)) < 1 then (1 : Int) else (Int.tdiv (a0WasOnce.length : Int) (a0WasOften.length : Int)))) ∧
      k (if (a0Target - (if (Int.tdiv (a0WasOnce.length : Int) (a0WasOften.length : Int)) < 1 then (1 : Int) else (Int.tdiv (a0WasOnce.length : Int) (a0WasOften.length : Int)))) < 0 then (0 : Int) else (a0Target - (if (Int.tdiv (a0WasOnce.length : Int) (a0WasOften.length : Int)) < 1 then (1 : Int) else (Int.tdiv (a0WasOnce.length : Int) (a0WasOften.length : Int))))))
    (k a0Target))
def S_impl_nextTarget (a0Room : Int) (a0Target : Int) (a0Once : List Int) (a0Often : List Int) (a0WasOnce : List Int) (a0WasOften : List Int) (key1 : Int) (k : Int → Prop) : Prop := G_impl_nextTarget a0Room a0Target a0Once a0Often a0WasOnce a0WasOften key1 k
def F_impl_nextTarget (r t : Int) (o f wo wf : List Int) (key : Int) (k : Int → Prop) : Prop := VLists r ⟨t, o, f, wo, wf⟩ ∧ k (nextT r ⟨t, o, f, wo, wf⟩ key)
theorem F_impl_nextTarget_S {r t : Int} {o f wo wf : List Int} {key : Int} {k : Int → Prop} (h : F_impl_nextTarget r t o f wo wf key k) : S_impl_nextTarget r t o f wo wf key k := by
  obtain ⟨v, hk⟩ := h
  obtain ⟨l1, l2, l3, l4⟩ := lists_len v
  have r1 := v.room1
  have tg := v.tgt
  simp only at l1 l2 l3 l4 tg
  have mx : ∀ x : Int, (if x < 1 then (1 : Int) else x) = max1 x := fun x => by unfold max1; split <;> split <;> omega
  unfold nextT at hk
  refine ⟨by omega, br_dec.2 ⟨fun m3 => ?_, fun m3 => ⟨by omega, br_dec.2 ⟨fun m4 => ?_, fun m4 => ?_⟩⟩⟩⟩
  · rw [if_pos m3] at hk
    have hp : 0 < wo.length := List.length_pos_of_mem m3
    have q1 : 0 ≤ Int.tdiv (wf.length : Int) wo.length := Int.tdiv_nonneg (by omega) (by omega)
    have q2 : Int.tdiv (wf.length : Int) wo.length ≤ wf.length := Int.tdiv_le_self _ (by omega)
    have q3 : 1 ≤ max1 (Int.tdiv (wf.length : Int) wo.length) ∧ max1 (Int.tdiv (wf.length : Int) wo.length) ≤ 16 := ⟨max1_pos _, by unfold max1; split <;> omega⟩
    rw [mx]
    refine ⟨⟨by omega, inR (by omega) (by omega)⟩, inR (by omega) (by omega), ?_⟩
    have e : (if r < t + max1 (Int.tdiv (wf.length : Int) wo.length) then r else t + max1 (Int.tdiv (wf.length : Int) wo.length)) = (if t + max1 (Int.tdiv (wf.length : Int) wo.length) < r then t + max1 (Int.tdiv (wf.length : Int) wo.length) else r) := by split <;> split <;> omega
    rw [e]; exact hk
  · rw [if_neg m3, if_pos m4] at hk
    have hp : 0 < wf.length := List.length_pos_of_mem m4
    have q1 : 0 ≤ Int.tdiv (wo.length : Int) wf.length := Int.tdiv_nonneg (by omega) (by omega)
    have q2 : Int.tdiv (wo.length : Int) wf.length ≤ wo.length := Int.tdiv_le_self _ (by omega)
    have q3 : 1 ≤ max1 (Int.tdiv (wo.length : Int) wf.length) ∧ max1 (Int.tdiv (wo.length : Int) wf.length) ≤ 16 := ⟨max1_pos _, by unfold max1; split <;> omega⟩
    rw [mx]
    refine ⟨⟨by omega, inR (by omega) (by omega)⟩, inR (by omega) (by omega), ?_⟩
    have e : (if t - max1 (Int.tdiv (wo.length : Int) wf.length) < 0 then (0 : Int) else t - max1 (Int.tdiv (wo.length : Int) wf.length)) = (if 0 < t - max1 (Int.tdiv (wo.length : Int) wf.length) then t - max1 (Int.tdiv (wo.length : Int) wf.length) else 0) := by split <;> split <;> omega
    rw [e]; exact hk
  · rw [if_neg m3, if_neg m4] at hk
    exact hk
-- impl.withoutKey
def T0_impl_withoutKey (key1 : Int) (list0 : List Int) (xt10 : Int) (xt11 : Int) (xout5 : List Int) (k : List Int → Prop) (B0 : Int → List Int → Prop) : Prop :=
  br (decide (xt11 < xt10))
  ((0 ≤ xt11 ∧ xt11 < (list0.length : Int)) ∧
    br ((List.getD list0 (Int.toNat xt11) (0 : Int)) != key1)
    ((xout5.length + 1 ≤ 1000000000) ∧
      InR (xt11 + 1) ∧
      B0 (xt11 + 1) (xout5 ++ ([(List.getD list0 (Int.toNat xt11) (0 : Int))] : List Int)))
    (InR (xt11 + 1) ∧
      B0 (xt11 + 1) xout5))
  (k xout5)
def L0_impl_withoutKey (key1 : Int) (list0 : List Int) (xt10 : Int) (k : List Int → Prop) : Nat → Int → List Int → Prop
  | 0, _, _ => False
  | n + 1, xt11, xout5 => T0_impl_withoutKey key1 list0 xt10 xt11 xout5 k (L0_impl_withoutKey key1 list0 xt10 k n)
def G_impl_withoutKey (list0 : List Int) (key1 : Int) (I0 : Int → List Int → Int → Int → List Int → Prop) : Prop :=
  I0 key1 list0 (list0.length : Int) 0 ([] : List Int)
def S_impl_withoutKey (list0 : List Int) (key1 : Int) (k : List Int → Prop) : Prop := G_impl_withoutKey list0 key1 (fun key1 list0 xt10 xt11 xout5 => ∃ j, L0_impl_withoutKey key1 list0 xt10 k j xt11 xout5)
def F_impl_withoutKey (l : List Int) (key : Int) (k : List Int → Prop) : Prop := l.length ≤ 1000000000 ∧ k (rmK l key)
theorem F_impl_withoutKey_S {l : List Int} {key : Int} {k : List Int → Prop} (h : F_impl_withoutKey l key k) : S_impl_withoutKey l key k := by
  obtain ⟨hl, hk⟩ := h
  have key1 : ∀ (r : List Int) (i : Nat) (out : List Int), l.drop i = r → out.length ≤ i → out ++ rmK r key = rmK l key → L0_impl_withoutKey key l (l.length : Int) k (r.length + 1) (i : Int) out := by
    intro r
    induction r with
    | nil =>
      intro i out hd ho he
      have := drop_nil' hd
      rw [L0_impl_withoutKey, T0_impl_withoutKey]
      simp only [br_dec]
      refine ⟨fun h => by omega, fun _ => ?_⟩
      have : out = rmK l key := by simpa [rmK] using he
      rw [this]; exact hk
    | cons x r ih =>
      intro i out hd ho he
      obtain ⟨h1, h2, _, h3, _⟩ := drop_cons' hd
      rw [List.length_cons, L0_impl_withoutKey, T0_impl_withoutKey]
      simp only [br_dec, br_bne, Int.toNat_natCast, h2]
      refine ⟨fun _ => ⟨⟨by omega, by omega⟩, fun hx => ⟨by omega, inR (by omega) (by omega), ?_⟩, fun hx => ⟨inR (by omega) (by omega), ?_⟩⟩, fun h => by omega⟩
      · exact ih (i + 1) (out ++ [x]) h3 (by simp; omega) (by rw [← he, rmK_cons_ne hx]; simp)
      · exact ih (i + 1) out h3 (by omega) (by rw [← he, hx, rmK_cons_eq])
  exact ⟨_, key1 l 0 [] rfl (by simp) rfl⟩
-- impl.putFirst
def G_impl_putFirst (list0 : List Int) (key1 : Int) (k : List Int → Prop) : Prop :=
  (1 + list0.length ≤ 1000000000) ∧
  k (([key1] : List Int) ++ list0)
def S_impl_putFirst (list0 : List Int) (key1 : Int) (k : List Int → Prop) : Prop := G_impl_putFirst list0 key1 k
def F_impl_putFirst (l : List Int) (x : Int) (k : List Int → Prop) : Prop := l.length ≤ 999999999 ∧ k (x :: l)
theorem F_impl_putFirst_S {l : List Int} {x : Int} {k : List Int → Prop} (h : F_impl_putFirst l x k) : S_impl_putFirst l x k := ⟨by have := h.1; omega, h.2⟩
-- impl.UseLists
def T5_impl_UseLists_j0 (a0Room : Int) (key1 : Int) (nextTarget23 : Int) (withoutKey31 : List Int) (xb6c2 : List Int) (xb6c4 : List Int) (xb6c5 : List Int) (xhit7 : Bool) (xknown9 : Bool) (k : Int → Int → List Int → List Int → List Int → List Int → Bool → Prop) : Prop :=
  (F_impl_putFirst xb6c4 (List.getD xb6c2 (Int.toNat ((xb6c2.length : Int) - 1)) (0 : Int)) fun putFirst15 =>
    ((br xknown9
        (F_impl_putFirst withoutKey31 key1 fun putFirst84 =>
          k a0Room nextTarget23 (List.take (Int.toNat ((xb6c2.length : Int) - 1)) (List.drop 0 xb6c2)) putFirst84 putFirst15 xb6c5 xhit7)
        (F_impl_putFirst (List.take (Int.toNat ((xb6c2.length : Int) - 1)) (List.drop 0 xb6c2)) key1 fun putFirst89 =>
          k a0Room nextTarget23 putFirst89 withoutKey31 putFirst15 xb6c5 xhit7)) ∧
      (True)) ∧
    (True)) ∧
  (True)
def T5_impl_UseLists_j1 (a0Room : Int) (key1 : Int) (nextTarget23 : Int) (withoutKey31 : List Int) (xb6c2 : List Int) (xb6c4 : List Int) (xb6c5 : List Int) (xhit7 : Bool) (xknown9 : Bool) (k : Int → Int → List Int → List Int → List Int → List Int → Bool → Prop) : Prop :=
  ((InR ((xb6c2.length : Int) - 1) ∧
      (0 ≤ ((xb6c2.length : Int) - 1) ∧ ((xb6c2.length : Int) - 1) < (xb6c2.length : Int)) ∧
      (InR ((xb6c2.length : Int) - 1) ∧
        (0 ≤ ((xb6c2.length : Int) - 1) ∧ ((xb6c2.length : Int) - 1) ≤ (xb6c2.length : Int)) ∧
        (T5_impl_UseLists_j0 a0Room key1 nextTarget23 withoutKey31 xb6c2 xb6c4 xb6c5 xhit7 xknown9 k) ∧
        (True)) ∧
      (((InR ((xb6c2.length : Int) - 1) ∧
            (0 ≤ ((xb6c2.length : Int) - 1) ∧ ((xb6c2.length : Int) - 1) ≤ (xb6c2.length : Int)) ∧
            T5_impl_UseLists_j0 a0Room key1 nextTarget23 withoutKey31 xb6c2 xb6c4 xb6c5 xhit7 xknown9 k) ∧
          (True)) ∧
        (True))) ∧
    (True)) ∧
  (True)
def T5_impl_UseLists (a0Room : Int) (key1 : Int) (nextTarget23 : Int) (withoutKey31 : List Int) (xb6c2 : List Int) (xb6c4 : List Int) (xb6c5 : List Int) (xhit7 : Bool) (xknown9 : Bool) (k : Int → Int → List Int → List Int → List Int → List Int → Bool → Prop) : Prop :=
  (T5_impl_UseLists_j1 a0Room key1 nextTarget23 withoutKey31 xb6c2 xb6c4 xb6c5 xhit7 xknown9 k) ∧
  ((T5_impl_UseLists_j1 a0Room key1 nextTarget23 withoutKey31 xb6c2 xb6c4 xb6c5 xhit7 xknown9 k) ∧
    (True))
def U5_impl_UseLists (a0Room : Int) (key1 : Int) (nextTarget23 : Int) (withoutKey31 : List Int) (xb6c2 : List Int) (xb6c4 : List Int) (xb6c5 : List Int) (xhit7 : Bool) (xknown9 : Bool) (k : Int → Int → List Int → List Int → List Int → List Int → Bool → Prop) : Prop :=
  InR ((xb6c2.length : Int) - 1) ∧
  (0 ≤ ((xb6c2.length : Int) - 1) ∧ ((xb6c2.length : Int) - 1) < (xb6c2.length : Int)) ∧
  InR ((xb6c2.length : Int) - 1) ∧
  (0 ≤ ((xb6c2.length : Int) - 1) ∧ ((xb6c2.length : Int) - 1) ≤ (xb6c2.length : Int)) ∧
  F_impl_putFirst xb6c4 (List.getD xb6c2 (Int.toNat ((xb6c2.length : Int) - 1)) (0 : Int)) fun putFirst15 =>
  br xknown9
  (F_impl_putFirst withoutKey31 key1 fun putFirst84 =>
    k a0Room nextTarget23 (List.take (Int.toNat ((xb6c2.length : Int) - 1)) (List.drop 0 xb6c2)) putFirst84 putFirst15 xb6c5 xhit7)
  (F_impl_putFirst (List.take (Int.toNat ((xb6c2.length : Int) - 1)) (List.drop 0 xb6c2)) key1 fun putFirst89 =>
    k a0Room nextTarget23 putFirst89 withoutKey31 putFirst15 xb6c5 xhit7)
theorem T5_impl_UseLists_eq (a0Room : Int) (key1 : Int) (nextTarget23 : Int) (withoutKey31 : List Int) (xb6c2 : List Int) (xb6c4 : List Int) (xb6c5 : List Int) (xhit7 : Bool) (xknown9 : Bool) (k : Int → Int → List Int → List Int → List Int → List Int → Bool → Prop) : T5_impl_UseLists a0Room key1 nextTarget23 withoutKey31 xb6c2 xb6c4 xb6c5 xhit7 xknown9 k = U5_impl_UseLists a0Room key1 nextTarget23 withoutKey31 xb6c2 xb6c4 xb6c5 xhit7 xknown9 k := by
  simp only [T5_impl_UseLists, U5_impl_UseLists, T5_impl_UseLists_j0, T5_impl_UseLists_j1, and_self, and_true]
def L5_impl_UseLists (a0Room : Int) (key1 : Int) (nextTarget23 : Int) (withoutKey31 : List Int) (xb6c2 : List Int) (xb6c4 : List Int) (xb6c5 : List Int) (xhit7 : Bool) (xknown9 : Bool) (k : Int → Int → List Int → List Int → List Int → List Int → Bool → Prop) : Prop := U5_impl_UseLists a0Room key1 nextTarget23 withoutKey31 xb6c2 xb6c4 xb6c5 xhit7 xknown9 k
def T4_impl_UseLists_j0 (a0Room : Int) (key1 : Int) (nextTarget23 : Int) (withoutKey31 : List Int) (xb6c2 : List Int) (xb6c4 : List Int) (xb6c5 : List Int) (xhit7 : Bool) (xknown9 : Bool) (k : Int → Int → List Int → List Int → List Int → List Int → Bool → Prop) : Prop :=
  (F_impl_putFirst xb6c5 (List.getD withoutKey31 (Int.toNat ((withoutKey31.length : Int) - 1)) (0 : Int)) fun putFirst15 =>
    ((br xknown9
        (F_impl_putFirst (List.take (Int.toNat ((withoutKey31.length : Int) - 1)) (List.drop 0 withoutKey31)) key1 fun putFirst84 =>
          k a0Room nextTarget23 xb6c2 putFirst84 xb6c4 putFirst15 xhit7)
        (F_impl_putFirst xb6c2 key1 fun putFirst89 =>
          k a0Room nextTarget23 putFirst89 (List.take (Int.toNat ((withoutKey31.length : Int) - 1)) (List.drop 0 withoutKey31)) xb6c4 putFirst15 xhit7)) ∧
      (True)) ∧
    (True)) ∧
  (True)
def T4_impl_UseLists_j1 (a0Room : Int) (key1 : Int) (nextTarget23 : Int) (withoutKey31 : List Int) (xb6c2 : List Int) (xb6c4 : List Int) (xb6c5 : List Int) (xhit7 : Bool) (xknown9 : Bool) (k : Int → Int → List Int → List Int → List Int → List Int → Bool → Prop) : Prop :=
  ((InR ((withoutKey31.length : Int) - 1) ∧
      (0 ≤ ((withoutKey31.length : Int) - 1) ∧ ((withoutKey31.length : Int) - 1) < (withoutKey31.length : Int)) ∧
      (InR ((withoutKey31.length : Int) - 1) ∧
        (0 ≤ ((withoutKey31.length : Int) - 1) ∧ ((withoutKey31.length : Int) - 1) ≤ (withoutKey31.length : Int)) ∧
        (T4_impl_UseLists_j0 a0Room key1 nextTarget23 withoutKey31 xb6c2 xb6c4 xb6c5 xhit7 xknown9 k) ∧
        (True)) ∧
      (((InR ((withoutKey31.length : Int) - 1) ∧
            (0 ≤ ((withoutKey31.length : Int) - 1) ∧ ((withoutKey31.length : Int) - 1) ≤ (withoutKey31.length : Int)) ∧
            T4_impl_UseLists_j0 a0Room key1 nextTarget23 withoutKey31 xb6c2 xb6c4 xb6c5 xhit7 xknown9 k) ∧
          (True)) ∧
        (True))) ∧
    (True)) ∧
  (True)
def T4_impl_UseLists (a0Room : Int) (key1 : Int) (nextTarget23 : Int) (withoutKey31 : List Int) (xb6c2 : List Int) (xb6c4 : List Int) (xb6c5 : List Int) (xhit7 : Bool) (xknown9 : Bool) (xmany4i1 : Bool) (xenough5i1 : Bool) (k : Int → Int → List Int → List Int → List Int → List Int → Bool → Prop) (I5 : Int → Int → Int → List Int → List Int → List Int → List Int → Bool → Bool → Prop) : Prop :=
  br xmany4i1
  (I5 a0Room key1 nextTarget23 withoutKey31 xb6c2 xb6c4 xb6c5 xhit7 xknown9)
  (br xenough5i1
    (I5 a0Room key1 nextTarget23 withoutKey31 xb6c2 xb6c4 xb6c5 xhit7 xknown9)
    (br ((withoutKey31.length : Int) == 0)
      (I5 a0Room key1 nextTarget23 withoutKey31 xb6c2 xb6c4 xb6c5 xhit7 xknown9)
      ((T4_impl_UseLists_j1 a0Room key1 nextTarget23 withoutKey31 xb6c2 xb6c4 xb6c5 xhit7 xknown9 k) ∧
        ((T4_impl_UseLists_j1 a0Room key1 nextTarget23 withoutKey31 xb6c2 xb6c4 xb6c5 xhit7 xknown9 k) ∧
          (True)))))
def U4_impl_UseLists (a0Room : Int) (key1 : Int) (nextTarget23 : Int) (withoutKey31 : List Int) (xb6c2 : List Int) (xb6c4 : List Int) (xb6c5 : List Int) (xhit7 : Bool) (xknown9 : Bool) (xmany4i1 : Bool) (xenough5i1 : Bool) (k : Int → Int → List Int → List Int → List Int → List Int → Bool → Prop) (I5 : Int → Int → Int → List Int → List Int → List Int → List Int → Bool → Bool → Prop) : Prop :=
  br xmany4i1
  (I5 a0Room key1 nextTarget23 withoutKey31 xb6c2 xb6c4 xb6c5 xhit7 xknown9)
  (br xenough5i1
    (I5 a0Room key1 nextTarget23 withoutKey31 xb6c2 xb6c4 xb6c5 xhit7 xknown9)
    (br ((withoutKey31.length : Int) == 0)
      (I5 a0Room key1 nextTarget23 withoutKey31 xb6c2 xb6c4 xb6c5 xhit7 xknown9)
      (InR ((withoutKey31.length : Int) - 1) ∧
        (0 ≤ ((withoutKey31.length : Int) - 1) ∧ ((withoutKey31.length : Int) - 1) < (withoutKey31.length : Int)) ∧
        InR ((withoutKey31.length : Int) - 1) ∧
        (0 ≤ ((withoutKey31.length : Int) - 1) ∧ ((withoutKey31.length : Int) - 1) ≤ (withoutKey31.length : Int)) ∧
        F_impl_putFirst xb6c5 (List.getD withoutKey31 (Int.toNat ((withoutKey31.length : Int) - 1)) (0 : Int)) fun putFirst15 =>
        br xknown9
        (F_impl_putFirst (List.take (Int.toNat ((withoutKey31.length : Int) - 1)) (List.drop 0 withoutKey31)) key1 fun putFirst84 =>
          k a0Room nextTarget23 xb6c2 putFirst84 xb6c4 putFirst15 xhit7)
        (F_impl_putFirst xb6c2 key1 fun putFirst89 =>
          k a0Room nextTarget23 putFirst89 (List.take (Int.toNat ((withoutKey31.length : Int) - 1)) (List.drop 0 withoutKey31)) xb6c4 putFirst15 xhit7))))
theorem T4_impl_UseLists_eq (a0Room : Int) (key1 : Int) (nextTarget23 : Int) (withoutKey31 : List Int) (xb6c2 : List Int) (xb6c4 : List Int) (xb6c5 : List Int) (xhit7 : Bool) (xknown9 : Bool) (xmany4i1 : Bool) (xenough5i1 : Bool) (k : Int → Int → List Int → List Int → List Int → List Int → Bool → Prop) (I5 : Int → Int → Int → List Int → List Int → List Int → List Int → Bool → Bool → Prop) : T4_impl_UseLists a0Room key1 nextTarget23 withoutKey31 xb6c2 xb6c4 xb6c5 xhit7 xknown9 xmany4i1 xenough5i1 k I5 = U4_impl_UseLists a0Room key1 nextTarget23 withoutKey31 xb6c2 xb6c4 xb6c5 xhit7 xknown9 xmany4i1 xenough5i1 k I5 := by
  simp only [T4_impl_UseLists, U4_impl_UseLists, T4_impl_UseLists_j0, T4_impl_UseLists_j1, and_self, and_true]
def L4_impl_UseLists (a0Room : Int) (key1 : Int) (nextTarget23 : Int) (withoutKey31 : List Int) (xb6c2 : List Int) (xb6c4 : List Int) (xb6c5 : List Int) (xhit7 : Bool) (xknown9 : Bool) (k : Int → Int → List Int → List Int → List Int → List Int → Bool → Prop) (xmany4i1 : Bool) (xenough5i1 : Bool) : Prop := U4_impl_UseLists a0Room key1 nextTarget23 withoutKey31 xb6c2 xb6c4 xb6c5 xhit7 xknown9 xmany4i1 xenough5i1 k (fun a0Room key1 nextTarget23 withoutKey31 xb6c2 xb6c4 xb6c5 xhit7 xknown9 => L5_impl_UseLists a0Room key1 nextTarget23 withoutKey31 xb6c2 xb6c4 xb6c5 xhit7 xknown9 k)
def T3_impl_UseLists (a0Room : Int) (contains54 : Bool) (key1 : Int) (nextTarget23 : Int) (withoutKey31 : List Int) (xhit7 : Bool) (xknown9 : Bool) (xb6c2 : List Int) (xb6c4 : List Int) (xb6c5 : List Int) (k : Int → Int → List Int → List Int → List Int → List Int → Bool → Prop) (I4 : Int → Int → Int → List Int → List Int → List Int → List Int → Bool → Bool → Bool → Bool → Prop) : Prop :=
  InR ((xb6c2.length : Int) + (withoutKey31.length : Int)) ∧
  br (((xb6c2.length : Int) + (withoutKey31.length : Int)) == a0Room)
  (br contains54
    (br (decide ((xb6c2.length : Int) > 0))
      (I4 a0Room key1 nextTarget23 withoutKey31 xb6c2 xb6c4 xb6c5 xhit7 xknown9 (decide ((xb6c2.length : Int) > nextTarget23)) ((xb6c2.length : Int) == nextTarget23))
      (I4 a0Room key1 nextTarget23 withoutKey31 xb6c2 xb6c4 xb6c5 xhit7 xknown9 (decide ((xb6c2.length : Int) > nextTarget23)) false))
    (I4 a0Room key1 nextTarget23 withoutKey31 xb6c2 xb6c4 xb6c5 xhit7 xknown9 (decide ((xb6c2.length : Int) > nextTarget23)) false))
  (br xknown9
    (F_impl_putFirst withoutKey31 key1 fun putFirst84 =>
      k a0Room nextTarget23 xb6c2 putFirst84 xb6c4 xb6c5 xhit7)
    (F_impl_putFirst xb6c2 key1 fun putFirst89 =>
      k a0Room nextTarget23 putFirst89 withoutKey31 xb6c4 xb6c5 xhit7))
def L3_impl_UseLists (a0Room : Int) (contains54 : Bool) (key1 : Int) (nextTarget23 : Int) (withoutKey31 : List Int) (xhit7 : Bool) (xknown9 : Bool) (k : Int → Int → List Int → List Int → List Int → List Int → Bool → Prop) (xb6c2 : List Int) (xb6c4 : List Int) (xb6c5 : List Int) : Prop := T3_impl_UseLists a0Room contains54 key1 nextTarget23 withoutKey31 xhit7 xknown9 xb6c2 xb6c4 xb6c5 k (fun a0Room key1 nextTarget23 withoutKey31 xb6c2 xb6c4 xb6c5 xhit7 xknown9 xmany4i1 xenough5i1 => L4_impl_UseLists a0Room key1 nextTarget23 withoutKey31 xb6c2 xb6c4 xb6c5 xhit7 xknown9 k xmany4i1 xenough5i1)
def T2_impl_UseLists_j0 (a0Room : Int) (contains54 : Bool) (key1 : Int) (nextTarget23 : Int) (withoutKey27 : List Int) (withoutKey31 : List Int) (withoutKey35 : List Int) (withoutKey39 : List Int) (xhit7 : Bool) (xknown9 : Bool) (I3 : Int → Bool → Int → Int → List Int → Bool → Bool → List Int → List Int → List Int → Prop) : Prop :=
  br (((withoutKey27.length : Int) + (withoutKey35.length : Int)) == a0Room)
  (InR ((withoutKey27.length : Int) - 1) ∧
    (0 ≤ ((withoutKey27.length : Int) - 1) ∧ ((withoutKey27.length : Int) - 1) ≤ (withoutKey27.length : Int)) ∧
    I3 a0Room contains54 key1 nextTarget23 withoutKey31 xhit7 xknown9 (List.take (Int.toNat ((withoutKey27.length : Int) - 1)) (List.drop 0 withoutKey27)) withoutKey35 withoutKey39)
  (InR (((withoutKey27.length : Int) + (withoutKey35.length : Int)) + ((withoutKey31.length : Int) + (withoutKey39.length : Int))) ∧
    InR (2 * a0Room) ∧
    br ((((withoutKey27.length : Int) + (withoutKey35.length : Int)) + ((withoutKey31.length : Int) + (withoutKey39.length : Int))) == (2 * a0Room))
    (InR ((withoutKey39.length : Int) - 1) ∧
      (0 ≤ ((withoutKey39.length : Int) - 1) ∧ ((withoutKey39.length : Int) - 1) ≤ (withoutKey39.length : Int)) ∧
      I3 a0Room contains54 key1 nextTarget23 withoutKey31 xhit7 xknown9 withoutKey27 withoutKey35 (List.take (Int.toNat ((withoutKey39.length : Int) - 1)) (List.drop 0 withoutKey39)))
    (I3 a0Room contains54 key1 nextTarget23 withoutKey31 xhit7 xknown9 withoutKey27 withoutKey35 withoutKey39))
def T2_impl_UseLists (a0Room : Int) (contains54 : Bool) (key1 : Int) (nextTarget23 : Int) (withoutKey27 : List Int) (withoutKey31 : List Int) (withoutKey35 : List Int) (withoutKey39 : List Int) (xhit7 : Bool) (xknown9 : Bool) (I3 : Int → Bool → Int → Int → List Int → Bool → Bool → List Int → List Int → List Int → Prop) : Prop :=
  br (!xknown9)
  (InR ((withoutKey27.length : Int) + (withoutKey35.length : Int)) ∧
    InR ((withoutKey31.length : Int) + (withoutKey39.length : Int)) ∧
    br (((withoutKey27.length : Int) + (withoutKey35.length : Int)) == a0Room)
    (br (decide ((withoutKey35.length : Int) > 0))
      (InR ((withoutKey35.length : Int) - 1) ∧
        (0 ≤ ((withoutKey35.length : Int) - 1) ∧ ((withoutKey35.length : Int) - 1) ≤ (withoutKey35.length : Int)) ∧
        I3 a0Room contains54 key1 nextTarget23 withoutKey31 xhit7 xknown9 withoutKey27 (List.take (Int.toNat ((withoutKey35.length : Int) - 1)) (List.drop 0 withoutKey35)) withoutKey39)
      (T2_impl_UseLists_j0 a0Room contains54 key1 nextTarget23 withoutKey27 withoutKey31 withoutKey35 withoutKey39 xhit7 xknown9 I3))
    (T2_impl_UseLists_j0 a0Room contains54 key1 nextTarget23 withoutKey27 withoutKey31 withoutKey35 withoutKey39 xhit7 xknown9 I3))
  (I3 a0Room contains54 key1 nextTarget23 withoutKey31 xhit7 xknown9 withoutKey27 withoutKey35 withoutKey39)
def L2_impl_UseLists (a0Room : Int) (contains54 : Bool) (key1 : Int) (nextTarget23 : Int) (withoutKey27 : List Int) (withoutKey31 : List Int) (withoutKey35 : List Int) (withoutKey39 : List Int) (xhit7 : Bool) (k : Int → Int → List Int → List Int → List Int → List Int → Bool → Prop) (xknown9 : Bool) : Prop := T2_impl_UseLists a0Room contains54 key1 nextTarget23 withoutKey27 withoutKey31 withoutKey35 withoutKey39 xhit7 xknown9 (fun a0Room contains54 key1 nextTarget23 withoutKey31 xhit7 xknown9 xb6c2 xb6c4 xb6c5 => L3_impl_UseLists a0Room contains54 key1 nextTarget23 withoutKey31 xhit7 xknown9 k xb6c2 xb6c4 xb6c5)
def T1_impl_UseLists (a0Often : List Int) (a0Once : List Int) (a0Room : Int) (a0Target : Int) (a0WasOften : List Int) (a0WasOnce : List Int) (key1 : Int) (nextTarget23 : Int) (withoutKey27 : List Int) (withoutKey31 : List Int) (withoutKey35 : List Int) (withoutKey39 : List Int) (xhit7 : Bool) (I2 : Int → Bool → Int → Int → List Int → List Int → List Int → List Int → Bool → Bool → Prop) : Prop :=
  F_slices_Contains_sint_int a0WasOften key1 fun contains54 =>
  br xhit7
  (I2 a0Room contains54 key1 nextTarget23 withoutKey27 withoutKey31 withoutKey35 withoutKey39 xhit7 true)
  (br contains54
    (I2 a0Room contains54 key1 nextTarget23 withoutKey27 withoutKey31 withoutKey35 withoutKey39 xhit7 true)
    (F_slices_Contains_sint_int a0WasOnce key1 fun contains63 =>
      I2 a0Room contains54 key1 nextTarget23 withoutKey27 withoutKey31 withoutKey35 withoutKey39 xhit7 contains63))
def L1_impl_UseLists (a0Often : List Int) (a0Once : List Int) (a0Room : Int) (a0Target : Int) (a0WasOften : List Int) (a0WasOnce : List Int) (key1 : Int) (nextTarget23 : Int) (withoutKey27 : List Int) (withoutKey31 : List Int) (withoutKey35 : List Int) (withoutKey39 : List Int) (k : Int → Int → List Int → List Int → List Int → List Int → Bool → Prop) (xhit7 : Bool) : Prop := T1_impl_UseLists a0Often a0Once a0Room a0Target a0WasOften a0WasOnce key1 nextTarget23 withoutKey27 withoutKey31 withoutKey35 withoutKey39 xhit7 (fun a0Room contains54 key1 nextTarget23 withoutKey27 withoutKey31 withoutKey35 withoutKey39 xhit7 xknown9 => L2_impl_UseLists a0Room contains54 key1 nextTarget23 withoutKey27 withoutKey31 withoutKey35 withoutKey39 xhit7 k xknown9)
def T0_impl_UseLists (a0Often : List Int) (a0Once : List Int) (a0Room : Int) (a0Target : Int) (a0WasOften : List Int) (a0WasOnce : List Int) (key1 : Int) (nextTarget23 : Int) (withoutKey27 : List Int) (withoutKey31 : List Int) (withoutKey35 : List Int) (withoutKey39 : List Int) (I1 : List Int → List Int → Int → Int → List Int → List Int → Int → Int → List Int → List Int → List Int → List Int → Bool → Prop) : Prop :=
  F_slices_Contains_sint_int a0Once key1 fun contains44 =>
  br contains44
  (I1 a0Often a0Once a0Room a0Target a0WasOften a0WasOnce key1 nextTarget23 withoutKey27 withoutKey31 withoutKey35 withoutKey39 true)
  (F_slices_Contains_sint_int a0Often key1 fun contains49 =>
    I1 a0Often a0Once a0Room a0Target a0WasOften a0WasOnce key1 nextTarget23 withoutKey27 withoutKey31 withoutKey35 withoutKey39 contains49)
def L0_impl_UseLists (a0Often : List Int) (a0Once : List Int) (a0Room : Int) (a0Target : Int) (a0WasOften : List Int) (a0WasOnce : List Int) (key1 : Int) (nextTarget23 : Int) (withoutKey27 : List Int) (withoutKey31 : List Int) (withoutKey35 : List Int) (withoutKey39 : List Int) (k : Int → Int → List Int → List Int → List Int → List Int → Bool → Prop) : Prop := T0_impl_UseLists a0Often a0Once a0Room a0Target a0WasOften a0WasOnce key1 nextTarget23 withoutKey27 withoutKey31 withoutKey35 withoutKey39 (fun a0Often a0Once a0Room a0Target a0WasOften a0WasOnce key1 nextTarget23 withoutKey27 withoutKey31 withoutKey35 withoutKey39 xhit7 => L1_impl_UseLists a0Often a0Once a0Room a0Target a0WasOften a0WasOnce key1 nextTarget23 withoutKey27 withoutKey31 withoutKey35 withoutKey39 k xhit7)
def G_impl_UseLists_j0 (a0Often : List Int) (a0Once : List Int) (a0Room : Int) (a0Target : Int) (a0WasOften : List Int) (a0WasOnce : List Int) (key1 : Int) (nextTarget23 : Int) (withoutKey27 : List Int) (withoutKey31 : List Int) (withoutKey35 : List Int) (withoutKey39 : List Int) (I0 : List Int → List Int → Int → Int → List Int → List Int → Int → Int → List Int → List Int → List Int → List Int → Prop) : Prop :=
  (I0 a0Often a0Once a0Room a0Target a0WasOften a0WasOnce key1 nextTarget23 withoutKey27 withoutKey31 withoutKey35 withoutKey39) ∧
  (True)
def G_impl_UseLists_j1 (a0Often : List Int) (a0Once : List Int) (a0Room : Int) (a0Target : Int) (a0WasOften : List Int) (a0WasOnce : List Int) (key1 : Int) (nextTarget23 : Int) (withoutKey27 : List Int) (withoutKey31 : List Int) (withoutKey35 : List Int) (I0 : List Int → List Int → Int → Int → List Int → List Int → Int → Int → List Int → List Int → List Int → List Int → Prop) : Prop :=
  (F_impl_withoutKey a0WasOften key1 fun withoutKey39 =>
    G_impl_UseLists_j0 a0Often a0Once a0Room a0Target a0WasOften a0WasOnce key1 nextTarget23 withoutKey27 withoutKey31 withoutKey35 withoutKey39 I0) ∧
  (True)
def G_impl_UseLists_j2 (a0Often : List Int) (a0Once : List Int) (a0Room : Int) (a0Target : Int) (a0WasOften : List Int) (a0WasOnce : List Int) (key1 : Int) (nextTarget23 : Int) (withoutKey27 : List Int) (withoutKey31 : List Int) (I0 : List Int → List Int → Int → Int → List Int → List Int → Int → Int → List Int → List Int → List Int → List Int → Prop) : Prop :=
  (F_impl_withoutKey a0WasOnce key1 fun withoutKey35 =>
    G_impl_UseLists_j1 a0Often a0Once a0Room a0Target a0WasOften a0WasOnce key1 nextTarget23 withoutKey27 withoutKey31 withoutKey35 I0) ∧
  (True)
def G_impl_UseLists_j3 (a0Often : List Int) (a0Once : List Int) (a0Room : Int) (a0Target : Int) (a0WasOften : List Int) (a0WasOnce : List Int) (key1 : Int) (nextTarget23 : Int) (withoutKey27 : List Int) (I0 : List Int → List Int → Int → Int → List Int → List Int → Int → Int → List Int → List Int → List Int → List Int → Prop) : Prop :=
  (F_impl_withoutKey a0Often key1 fun withoutKey31 =>
    G_impl_UseLists_j2 a0Often a0Once a0Room a0Target a0WasOften a0WasOnce key1 nextTarget23 withoutKey27 withoutKey31 I0) ∧
  (True)
def G_impl_UseLists_j4 (a0Often : List Int) (a0Once : List Int) (a0Room : Int) (a0Target : Int) (a0WasOften : List Int) (a0WasOnce : List Int) (key1 : Int) (nextTarget23 : Int) (I0 : List Int → List Int → Int → Int → List Int → List Int → Int → Int → List Int → List Int → List Int → List Int → Prop) : Prop :=
  (F_impl_withoutKey a0Once key1 fun withoutKey27 =>
    G_impl_UseLists_j3 a0Often a0Once a0Room a0Target a0WasOften a0WasOnce key1 nextTarget23 withoutKey27 I0) ∧
  (True)
def G_impl_UseLists (a0Room : Int) (a0Target : Int) (a0Once : List Int) (a0Often : List Int) (a0WasOnce : List Int) (a0WasOften : List Int) (key1 : Int) (k : Int → Int → List Int → List Int → List Int → List Int → Bool → Prop) (I0 : List Int → List Int → Int → Int → List Int → List Int → Int → Int → List Int → List Int → List Int → List Int → Prop) : Prop :=
  F_impl_ValidLists a0Room a0Target a0Once a0Often a0WasOnce a0WasOften fun validLists11 =>
  br (!validLists11)
  (k 0 0 ([] : List Int) ([] : List Int) ([] : List Int) ([] : List Int) false)
  (F_impl_validKey key1 fun validKey15 =>
    br (!validKey15)
    (k 0 0 ([] : List Int) ([] : List Int) ([] : List Int) ([] : List Int) false)
    ((F_impl_nextTarget a0Room a0Target a0Once a0Often a0WasOnce a0WasOften key1 fun nextTarget23 =>
        (F_impl_withoutKey a0Once key1 fun withoutKey27 =>
          (F_impl_withoutKey a0Often key1 fun withoutKey31 =>
            (F_impl_withoutKey a0WasOnce key1 fun withoutKey35 =>
              (F_impl_withoutKey a0WasOften key1 fun withoutKey39 =>
                (G_impl_UseLists_j0 a0Often a0Once a0Room a0Target a0WasOften a0WasOnce key1 nextTarget23 withoutKey27 withoutKey31 withoutKey35 withoutKey39 I0) ∧
                (True)) ∧
              ((G_impl_UseLists_j1 a0Often a0Once a0Room a0Target a0WasOften a0WasOnce key1 nextTarget23 withoutKey27 withoutKey31 withoutKey35 I0) ∧
                (True))) ∧
            ((G_impl_UseLists_j2 a0Often a0Once a0Room a0Target a0WasOften a0WasOnce key1 nextTarget23 withoutKey27 withoutKey31 I0) ∧
              (True))) ∧
          ((G_impl_UseLists_j3 a0Often a0Once a0Room a0Target a0WasOften a0WasOnce key1 nextTarget23 withoutKey27 I0) ∧
            (True))) ∧
        ((G_impl_UseLists_j4 a0Often a0Once a0Room a0Target a0WasOften a0WasOnce key1 nextTarget23 I0) ∧
          (True))) ∧
      (((F_impl_nextTarget a0Room a0Target a0Once a0Often a0WasOnce a0WasOften key1 fun nextTarget23 =>
            G_impl_UseLists_j4 a0Often a0Once a0Room a0Target a0WasOften a0WasOnce key1 nextTarget23 I0) ∧
          (True)) ∧
        (True))))
def H_impl_UseLists (a0Room : Int) (a0Target : Int) (a0Once : List Int) (a0Often : List Int) (a0WasOnce : List Int) (a0WasOften : List Int) (key1 : Int) (k : Int → Int → List Int → List Int → List Int → List Int → Bool → Prop) (I0 : List Int → List Int → Int → Int → List Int → List Int → Int → Int → List Int → List Int → List Int → List Int → Prop) : Prop :=
  F_impl_ValidLists a0Room a0Target a0Once a0Often a0WasOnce a0WasOften fun validLists11 =>
  br (!validLists11)
  (k 0 0 ([] : List Int) ([] : List Int) ([] : List Int) ([] : List Int) false)
  (F_impl_validKey key1 fun validKey15 =>
    br (!validKey15)
    (k 0 0 ([] : List Int) ([] : List Int) ([] : List Int) ([] : List Int) false)
    (F_impl_nextTarget a0Room a0Target a0Once a0Often a0WasOnce a0WasOften key1 fun nextTarget23 =>
      F_impl_withoutKey a0Once key1 fun withoutKey27 =>
      F_impl_withoutKey a0Often key1 fun withoutKey31 =>
      F_impl_withoutKey a0WasOnce key1 fun withoutKey35 =>
      F_impl_withoutKey a0WasOften key1 fun withoutKey39 =>
      I0 a0Often a0Once a0Room a0Target a0WasOften a0WasOnce key1 nextTarget23 withoutKey27 withoutKey31 withoutKey35 withoutKey39))
theorem G_impl_UseLists_eq (a0Room : Int) (a0Target : Int) (a0Once : List Int) (a0Often : List Int) (a0WasOnce : List Int) (a0WasOften : List Int) (key1 : Int) (k : Int → Int → List Int → List Int → List Int → List Int → Bool → Prop) (I0 : List Int → List Int → Int → Int → List Int → List Int → Int → Int → List Int → List Int → List Int → List Int → Prop) : G_impl_UseLists a0Room a0Target a0Once a0Often a0WasOnce a0WasOften key1 k I0 = H_impl_UseLists a0Room a0Target a0Once a0Often a0WasOnce a0WasOften key1 k I0 := by
  simp only [G_impl_UseLists, H_impl_UseLists, G_impl_UseLists_j0, G_impl_UseLists_j1, G_impl_UseLists_j2, G_impl_UseLists_j3, G_impl_UseLists_j4, and_self, and_true]
def S_impl_UseLists (a0Room : Int) (a0Target : Int) (a0Once : List Int) (a0Often : List Int) (a0WasOnce : List Int) (a0WasOften : List Int) (key1 : Int) (k : Int → Int → List Int → List Int → List Int → List Int → Bool → Prop) : Prop := H_impl_UseLists a0Room a0Target a0Once a0Often a0WasOnce a0WasOften key1 k (fun a0Often a0Once a0Room a0Target a0WasOften a0WasOnce key1 nextTarget23 withoutKey27 withoutKey31 withoutKey35 withoutKey39 => L0_impl_UseLists a0Often a0Once a0Room a0Target a0WasOften a0WasOnce key1 nextTarget23 withoutKey27 withoutKey31 withoutKey35 withoutKey39 k)
def F_impl_UseLists (r t : Int) (o f wo wf : List Int) (key : Int) (k : Int → Int → List Int → List Int → List Int → List Int → Bool → Prop) : Prop :=
  (o.length ≤ 100000000 ∧ f.length ≤ 100000000 ∧ wo.length ≤ 100000000 ∧ wf.length ≤ 100000000) ∧
  ((VLists r ⟨t, o, f, wo, wf⟩ ∧ 0 ≤ key ∧ key ≤ 31) → k r (adM r ⟨t, o, f, wo, wf⟩ key).1.t (adM r ⟨t, o, f, wo, wf⟩ key).1.o (adM r ⟨t, o, f, wo, wf⟩ key).1.f (adM r ⟨t, o, f, wo, wf⟩ key).1.wo (adM r ⟨t, o, f, wo, wf⟩ key).1.wf (adM r ⟨t, o, f, wo, wf⟩ key).2) ∧
  (¬ (VLists r ⟨t, o, f, wo, wf⟩ ∧ 0 ≤ key ∧ key ≤ 31) → k 0 0 [] [] [] [] false)
theorem F_impl_UseLists_S {r t : Int} {o f wo wf : List Int} {key : Int} {k : Int → Int → List Int → List Int → List Int → List Int → Bool → Prop} (h : F_impl_UseLists r t o f wo wf key k) : S_impl_UseLists r t o f wo wf key k := by
  obtain ⟨hl, hyes, hno⟩ := h
  refine ⟨hl, ?_⟩
  intro b hb
  refine br_not.2 (br_iff.2 ⟨fun e => ?_, fun e => hno fun w => by rw [hb.2 w.1] at e; cases e⟩)
  refine br_not.2 (br_dec.2 ⟨fun hkey => ?_, fun hkey => hno fun w => hkey w.2⟩)
  have v := hb.1 e
  have hk := hyes ⟨v, hkey⟩
  simp only [useL_adM v] at hk
  obtain ⟨l1, l2, l3, l4⟩ := lists_len v
  have r1 := v.room1
  have tg := v.tgt
  have hinc := v.inc
  have honc := v.onc
  have htot := v.tot
  simp only at l1 l2 l3 l4 tg hinc honc htot
  let K : Bool → Bool → AL → Prop := fun kn hit b => k r (inL (kn = true) key b).t (inL (kn = true) key b).o (inL (kn = true) key b).f (inL (kn = true) key b).wo (inL (kn = true) key b).wf hit
  have put : ∀ (kn hit : Bool) (b : AL), b.f.length ≤ 100 → b.o.length ≤ 100 → K kn hit b →
      br kn (F_impl_putFirst b.f key fun p => k r b.t b.o p b.wo b.wf hit) (F_impl_putFirst b.o key fun p => k r b.t p b.f b.wo b.wf hit) := by
    intro kn hit b g1 g2 hK
    cases kn
    · exact ⟨by omega, hK⟩
    · exact ⟨by omega, hK⟩
  have cut : ∀ l : List Int, 0 < l.length → l.length ≤ 100 → (((l.length : Int) - 1).toNat = l.length - 1) := fun l _ _ => by omega
  -- room is made
  have s5 : ∀ (t' : Int) (f o wo wf : List Int) (hit kn : Bool), 0 < o.length → o.length ≤ 50 → f.length ≤ 50 → wo.length ≤ 50 → wf.length ≤ 50 →
      K kn hit ⟨t', o.take (o.length - 1), f, lastI o :: wo, wf⟩ → L5_impl_UseLists r key t' f o wo wf hit kn k := by
    intro t' f o wo wf hit kn g1 g2 g3 g4 g5 hK
    refine ⟨inR (by omega) (by omega), ⟨by omega, by omega⟩, inR (by omega) (by omega), ⟨by omega, by omega⟩, by omega, ?_⟩
    rw [cut o g1 (by omega)]
    exact put kn hit ⟨t', o.take (o.length - 1), f, lastI o :: wo, wf⟩ (by simp only; omega) (by simp only [List.length_take]; omega) hK
  have s4 : ∀ (t' : Int) (f o wo wf : List Int) (hit kn was en : Bool), 0 ≤ t' → 0 < o.length + f.length → o.length ≤ 50 → f.length ≤ 50 → wo.length ≤ 50 → wf.length ≤ 50 →
      (en = true ↔ was = true ∧ 0 < o.length ∧ (o.length : Int) = t') →
      K kn hit (mkRoom was ⟨t', o, f, wo, wf⟩) → L4_impl_UseLists r key t' f o wo wf hit kn k (decide ((o.length : Int) > t')) en := by
    intro t' f o wo wf hit kn was en g0 g1 g2 g3 g4 g5 hen hK
    unfold mkRoom at hK
    have yes : ((0 < o.length ∧ ((o.length : Int) > t' ∨ was = true ∧ (o.length : Int) = t')) ∨ f.length = 0) → L5_impl_UseLists r key t' f o wo wf hit kn k := by
      intro c
      rw [if_pos c] at hK
      exact s5 t' f o wo wf hit kn (by omega) g2 g3 g4 g5 hK
    refine br_dec.2 ⟨fun c => yes (.inl ⟨by omega, .inl c⟩), fun c1 => br_iff.2 ⟨fun c => yes (.inl ⟨(hen.1 c).2.1, .inr ⟨(hen.1 c).1, (hen.1 c).2.2⟩⟩), fun c2 => br_beq.2 ⟨fun c => yes (.inr (by omega)), fun c3 => ?_⟩⟩⟩
    have hf : 0 < f.length := by omega
    rw [if_neg (fun c => by
      rcases c with ⟨c4, c5 | c5⟩ | c
      · exact c1 c5
      · rw [hen.2 ⟨c5.1, c4, c5.2⟩] at c2; cases c2
      · simp only at c; omega)] at hK
    refine ⟨inR (by omega) (by omega), ⟨by omega, by omega⟩, inR (by omega) (by omega), ⟨by omega, by omega⟩, by omega, ?_⟩
    rw [cut f hf (by omega)]
    exact put kn hit ⟨t', o, f.take (f.length - 1), wo, lastI f :: wf⟩ (by simp only [List.length_take]; omega) (by simp only; omega) hK
  have s3 : ∀ (t' : Int) (f o wo wf : List Int) (hit kn was : Bool), 0 ≤ t' → o.length ≤ 50 → f.length ≤ 50 → wo.length ≤ 50 → wf.length ≤ 50 →
      K kn hit (fitL r was ⟨t', o, f, wo, wf⟩) → L3_impl_UseLists r was key t' f hit kn k o wo wf := by
    intro t' f o wo wf hit kn was g0 g2 g3 g4 g5 hK
    refine ⟨inR (by omega) (by omega), br_beq.2 ⟨fun c => ?_, fun c => ?_⟩⟩
    · rw [fitL, if_pos c] at hK
      refine br_iff.2 ⟨fun hw => br_dec.2 ⟨fun ho => ?_, fun ho => ?_⟩, fun hw => ?_⟩
      · exact s4 t' f o wo wf hit kn was _ g0 (by omega) g2 g3 g4 g5 (by simp only [beq_iff_eq]; exact ⟨fun h => ⟨hw, by omega, h⟩, fun h => h.2.2⟩) hK
      · exact s4 t' f o wo wf hit kn was _ g0 (by omega) g2 g3 g4 g5 (by simp only [Bool.false_eq_true, false_iff]; intro h; omega) hK
      · exact s4 t' f o wo wf hit kn was _ g0 (by omega) g2 g3 g4 g5 (by rw [hw]; simp) hK
    · rw [fitL, if_neg c] at hK
      exact put kn hit ⟨t', o, f, wo, wf⟩ (by simp only; omega) (by simp only; omega) hK
  have s2 : ∀ (t' : Int) (f o wo wf : List Int) (hit kn was : Bool), 0 ≤ t' → o.length ≤ 50 → f.length ≤ 50 → wo.length ≤ 50 → wf.length ≤ 50 →
      (kn = false → (o.length : Int) + f.length ≤ r ∧ (o.length : Int) + wo.length ≤ r) →
      K kn hit (fitL r was (if kn = true then ⟨t', o, f, wo, wf⟩ else forgetL r ⟨t', o, f, wo, wf⟩)) → L2_impl_UseLists r was key t' o f wo wf hit k kn := by
    intro t' f o wo wf hit kn was g0 g2 g3 g4 g5 g6 hK
    refine br_not.2 (br_iff.2 ⟨fun c => ?_, fun c => ?_⟩)
    · rw [if_pos c] at hK
      exact s3 t' f o wo wf hit kn was g0 g2 g3 g4 g5 hK
    · obtain ⟨g7, g8⟩ := g6 c
      rw [if_neg (by rw [c]; simp)] at hK
      unfold forgetL at hK
      have tail : ¬ ((o.length : Int) + wo.length = r ∧ 0 < wo.length) → T2_impl_UseLists_j0 r was key t' o f wo wf hit kn (fun a0Room contains54 key1 nextTarget23 withoutKey31 xhit7 xknown9 xb6c2 xb6c4 xb6c5 => L3_impl_UseLists a0Room contains54 key1 nextTarget23 withoutKey31 xhit7 xknown9 k xb6c2 xb6c4 xb6c5) := by
        intro n1
        rw [if_neg n1] at hK
        refine br_beq.2 ⟨fun c => ?_, fun c => ⟨inR (by omega) (by omega), inR (by omega) (by omega), br_beq.2 ⟨fun c2 => ?_, fun c2 => ?_⟩⟩⟩
        · rw [if_pos c] at hK
          refine ⟨inR (by omega) (by omega), ⟨by omega, by omega⟩, ?_⟩
          rw [cut o (by omega) (by omega)]
          exact s3 t' f _ wo wf hit kn was g0 (by simp [List.length_take]; omega) g3 g4 g5 hK
        · rw [if_neg c, if_pos (show (o.length : Int) + wo.length + f.length + wf.length = 2 * r by omega)] at hK
          refine ⟨inR (by omega) (by omega), ⟨by omega, by omega⟩, ?_⟩
          rw [cut wf (by omega) (by omega)]
          exact s3 t' f o wo _ hit kn was g0 g2 g3 g4 (by simp [List.length_take]; omega) hK
        · rw [if_neg c, if_neg (show ¬ ((o.length : Int) + wo.length + f.length + wf.length = 2 * r) by omega)] at hK
          exact s3 t' f o wo wf hit kn was g0 g2 g3 g4 g5 hK
      refine ⟨inR (by omega) (by omega), inR (by omega) (by omega), br_beq.2 ⟨fun c1 => br_dec.2 ⟨fun c2 => ?_, fun c2 => tail (by omega)⟩, fun c1 => tail (by omega)⟩⟩
      rw [if_pos (show (o.length : Int) + wo.length = r ∧ 0 < wo.length from ⟨c1, by omega⟩)] at hK
      refine ⟨inR (by omega) (by omega), ⟨by omega, by omega⟩, ?_⟩
      rw [cut wo (by omega) (by omega)]
      exact s3 t' f o _ wf hit kn was g0 g2 g3 (by simp [List.length_take]; omega) g5 hK
  have b1 := @rmK_le o key
  have b2 := @rmK_le f key
  have b3 := @rmK_le wo key
  have b4 := @rmK_le wf key
  have nt : 0 ≤ nextT r ⟨t, o, f, wo, wf⟩ key := by
    unfold nextT
    have := max1_pos (Int.tdiv (wf.length : Int) wo.length)
    split
    · simp only; split <;> omega
    · split
      · simp only; split <;> omega
      · exact tg.1
  have fin : ∀ (kn hit : Bool), (kn = true ↔ knownL ⟨t, o, f, wo, wf⟩ key) → hit = decide (key ∈ o ∨ key ∈ f) →
      L2_impl_UseLists r (decide (key ∈ wf)) key (nextT r ⟨t, o, f, wo, wf⟩ key) (rmK o key) (rmK f key) (rmK wo key) (rmK wf key) hit k kn := by
    intro kn hit h1 h2
    refine s2 _ _ _ _ _ hit kn _ nt (by omega) (by omega) (by omega) (by omega) (fun _ => by omega) ?_
    show k r _ _ _ _ _ hit
    rw [h2]
    have e1 : ∀ b, inL (kn = true) key b = inL (knownL ⟨t, o, f, wo, wf⟩ key) key b := fun b => by unfold inL; simp only [h1]
    simp only [e1, h1]
    exact hk
  refine ⟨v, by omega, by omega, by omega, by omega, by omega, br_dec.2 ⟨fun m1 => ?_, fun m1 => ⟨by omega, ?_⟩⟩⟩
  · refine ⟨by omega, ?_⟩
    exact fin true true (by simp [knownL, m1]) (by simp [m1])
  · refine ⟨by omega, br_dec.2 ⟨fun m2 => ?_, fun m2 => br_dec.2 ⟨fun m4 => ?_, fun m4 => ⟨by omega, ?_⟩⟩⟩⟩
    · exact fin true _ (by simp [knownL, m2]) (by simp [m1])
    · exact fin true _ (by simp [knownL, m4]) (by simp [m1])
    · exact fin _ _ (by simp [knownL, m1, m2, m4]) (by simp [m1])
-- impl.useAll[impl.Lists]
def T0_impl_useAll_Lists_UseLists (t0 : List Int) (xt14 : Int) (xhits8 : Int) (xt15 : Int) (xb4c0 : Int) (xb4c1 : Int) (xb4c2 : List Int) (xb4c3 : List Int) (xb4c4 : List Int) (xb4c5 : List Int) (k : Int → Int → List Int → List Int → List Int → List Int → Int → Prop) (B0 : Int → Int → Int → Int → List Int → List Int → List Int → List Int → Prop) : Prop :=
  br (decide (xt15 < xt14))
  ((0 ≤ xt15 ∧ xt15 < (t0.length : Int)) ∧
    F_impl_UseLists xb4c0 xb4c1 xb4c2 xb4c3 xb4c4 xb4c5 (List.getD t0 (Int.toNat xt15) (0 : Int)) fun useLists23Room useLists23Target useLists23Once useLists23Often useLists23WasOnce useLists23WasOften useLists23r1 =>
    br useLists23r1
    (InR (xhits8 + 1) ∧
      InR (xt15 + 1) ∧
      B0 (xhits8 + 1) (xt15 + 1) useLists23Room useLists23Target useLists23Once useLists23Often useLists23WasOnce useLists23WasOften)
    (InR (xt15 + 1) ∧
      B0 xhits8 (xt15 + 1) useLists23Room useLists23Target useLists23Once useLists23Often useLists23WasOnce useLists23WasOften))
  (k xb4c0 xb4c1 xb4c2 xb4c3 xb4c4 xb4c5 xhits8)
def L0_impl_useAll_Lists_UseLists (t0 : List Int) (xt14 : Int) (k : Int → Int → List Int → List Int → List Int → List Int → Int → Prop) : Nat → Int → Int → Int → Int → List Int → List Int → List Int → List Int → Prop
  | 0, _, _, _, _, _, _, _, _ => False
  | n + 1, xhits8, xt15, xb4c0, xb4c1, xb4c2, xb4c3, xb4c4, xb4c5 => T0_impl_useAll_Lists_UseLists t0 xt14 xhits8 xt15 xb4c0 xb4c1 xb4c2 xb4c3 xb4c4 xb4c5 k (L0_impl_useAll_Lists_UseLists t0 xt14 k n)
def G_impl_useAll_Lists_UseLists (t0 : List Int) (cache1Room : Int) (cache1Target : Int) (cache1Once : List Int) (cache1Often : List Int) (cache1WasOnce : List Int) (cache1WasOften : List Int) (I0 : List Int → Int → Int → Int → Int → Int → List Int → List Int → List Int → List Int → Prop) : Prop :=
  I0 t0 (t0.length : Int) 0 0 cache1Room cache1Target cache1Once cache1Often cache1WasOnce cache1WasOften
def S_impl_useAll_Lists_UseLists (t0 : List Int) (cache1Room : Int) (cache1Target : Int) (cache1Once : List Int) (cache1Often : List Int) (cache1WasOnce : List Int) (cache1WasOften : List Int) (k : Int → Int → List Int → List Int → List Int → List Int → Int → Prop) : Prop := G_impl_useAll_Lists_UseLists t0 cache1Room cache1Target cache1Once cache1Often cache1WasOnce cache1WasOften (fun t0 xt14 xhits8 xt15 xb4c0 xb4c1 xb4c2 xb4c3 xb4c4 xb4c5 => ∃ j, L0_impl_useAll_Lists_UseLists t0 xt14 k j xhits8 xt15 xb4c0 xb4c1 xb4c2 xb4c3 xb4c4 xb4c5)
def F_impl_useAll_Lists_UseLists (t : List Int) (room tg : Int) (o f wo wf : List Int) (k : Int → Int → List Int → List Int → List Int → List Int → Int → Prop) : Prop :=
  (VTrace t ∧ VLists room ⟨tg, o, f, wo, wf⟩) ∧ k room (runL room t ⟨tg, o, f, wo, wf⟩ 0).1.t (runL room t ⟨tg, o, f, wo, wf⟩ 0).1.o (runL room t ⟨tg, o, f, wo, wf⟩ 0).1.f (runL room t ⟨tg, o, f, wo, wf⟩ 0).1.wo (runL room t ⟨tg, o, f, wo, wf⟩ 0).1.wf (runL room t ⟨tg, o, f, wo, wf⟩ 0).2
theorem F_impl_useAll_Lists_UseLists_S {t : List Int} {room tg : Int} {o f wo wf : List Int} {k : Int → Int → List Int → List Int → List Int → List Int → Int → Prop} (h : F_impl_useAll_Lists_UseLists t room tg o f wo wf k) : S_impl_useAll_Lists_UseLists t room tg o f wo wf k := by
  obtain ⟨⟨⟨t1, t2⟩, v⟩, hk⟩ := h
  have key : ∀ (r : List Int) (i : Nat) (a : AL) (n : Int), t.drop i = r → VLists room a → 0 ≤ n → n ≤ i → (let q := runL room r a n; k room q.1.t q.1.o q.1.f q.1.wo q.1.wf q.2) → L0_impl_useAll_Lists_UseLists t (t.length : Int) k (r.length + 1) n (i : Int) room a.t a.o a.f a.wo a.wf := by
    intro r
    induction r with
    | nil =>
      intro i a n hdr v n0 n1 hk
      have := drop_nil' hdr
      rw [L0_impl_useAll_Lists_UseLists, T0_impl_useAll_Lists_UseLists]
      exact br_dec.2 ⟨fun h => by omega, fun _ => hk⟩
    | cons x r ih =>
      intro i a n hdr v n0 n1 hk
      obtain ⟨h1, h2, h5, h3, h4⟩ := drop_cons' hdr
      have hx := t2 x (List.mem_of_getElem? h5)
      obtain ⟨l1, l2, l3, l4⟩ := lists_len v
      rw [List.length_cons, L0_impl_useAll_Lists_UseLists, T0_impl_useAll_Lists_UseLists]
      simp only [br_dec, Int.toNat_natCast, h2]
      refine ⟨fun _ => ⟨⟨by omega, by omega⟩, by omega, fun _ => ?_, fun hv => absurd ⟨v, hx⟩ hv⟩, fun h => by omega⟩
      change (let q := runL room r (adM room a x).1 (n + toI (adM room a x).2); k room q.1.t q.1.o q.1.f q.1.wo q.1.wf q.2) at hk
      refine br_iff.2 ⟨fun e => ⟨inR (by omega) (by omega), inR (by omega) (by omega), ?_⟩, fun e => ⟨inR (by omega) (by omega), ?_⟩⟩
      · rw [show (adM room a x).2 = true from e] at hk
        exact ih (i + 1) _ _ h3 (adM_valid v hx) (by omega) (by omega) hk
      · rw [show (adM room a x).2 = false from e, show n + toI false = n by simp [toI]] at hk
        exact ih (i + 1) _ _ h3 (adM_valid v hx) (by omega) (by omega) hk
  exact ⟨_, key t 0 ⟨tg, o, f, wo, wf⟩ 0 rfl v (by omega) (by omega) hk⟩
-- impl.RunLists
def G_impl_RunLists (t0 : List Int) (room1 : Int) (k : Int → Int → List Int → List Int → List Int → List Int → Int → Prop) : Prop :=
  F_impl_ValidTrace t0 fun validTrace7 =>
  br (!validTrace7)
  (k 0 0 ([] : List Int) ([] : List Int) ([] : List Int) ([] : List Int) (-1))
  (F_impl_validRoom room1 fun validRoom11 =>
    br (!validRoom11)
    (k 0 0 ([] : List Int) ([] : List Int) ([] : List Int) ([] : List Int) (-1))
    (F_impl_useAll_Lists_UseLists t0 room1 (0 : Int) ([] : List Int) ([] : List Int) ([] : List Int) ([] : List Int) fun useAll18Room useAll18Target useAll18Once useAll18Often useAll18WasOnce useAll18WasOften useAll18r1 =>
      k useAll18Room useAll18Target useAll18Once useAll18Often useAll18WasOnce useAll18WasOften useAll18r1))
def S_impl_RunLists (t0 : List Int) (room1 : Int) (k : Int → Int → List Int → List Int → List Int → List Int → Int → Prop) : Prop := G_impl_RunLists t0 room1 k
def F_impl_RunLists (t : List Int) (room : Int) (k : Int → Int → List Int → List Int → List Int → List Int → Int → Prop) : Prop :=
  ((VTrace t ∧ 1 ≤ room ∧ room ≤ 8) → k room (runL room t ⟨0, [], [], [], []⟩ 0).1.t (runL room t ⟨0, [], [], [], []⟩ 0).1.o (runL room t ⟨0, [], [], [], []⟩ 0).1.f (runL room t ⟨0, [], [], [], []⟩ 0).1.wo (runL room t ⟨0, [], [], [], []⟩ 0).1.wf (runL room t ⟨0, [], [], [], []⟩ 0).2) ∧
  (¬ (VTrace t ∧ 1 ≤ room ∧ room ≤ 8) → k 0 0 [] [] [] [] (-1))
theorem F_impl_RunLists_S {t : List Int} {room : Int} {k : Int → Int → List Int → List Int → List Int → List Int → Int → Prop} (h : F_impl_RunLists t room k) : S_impl_RunLists t room k := by
  obtain ⟨hyes, hno⟩ := h
  intro b hb
  refine br_not.2 (br_iff.2 ⟨fun e => br_not.2 (br_dec.2 ⟨fun hr => ?_, fun hr => hno fun w => hr w.2⟩), fun e => hno fun v => by rw [hb.2 v.1] at e; cases e⟩)
  have v := hb.1 e
  exact ⟨⟨v, lists0 hr (by omega)⟩, hyes ⟨v, hr⟩⟩
-- spec.inRange
def G_spec_inRange (n0 : Int) (low1 : Int) (high2 : Int) (k : Bool → Prop) : Prop :=
  br (decide (low1 ≤ n0))
  (k (decide (n0 ≤ high2)))
  (k false)
def S_spec_inRange (n0 : Int) (low1 : Int) (high2 : Int) (k : Bool → Prop) : Prop := G_spec_inRange n0 low1 high2 k
def F_spec_inRange (n low high : Int) (k : Bool → Prop) : Prop := k (decide (low ≤ n ∧ n ≤ high))
theorem F_spec_inRange_S {n low high : Int} {k : Bool → Prop} (h : F_spec_inRange n low high k) : S_spec_inRange n low high k := by
  unfold F_spec_inRange at h
  simp only [S_spec_inRange, G_spec_inRange, br_dec]
  refine ⟨fun h1 => ?_, fun h1 => ?_⟩
  · simpa [h1] using h
  · simpa [h1] using h
-- spec.allIn
def T0_spec_allIn (high2 : Int) (list0 : List Int) (low1 : Int) (xi7 : Int) (k : Bool → Prop) (B0 : Int → Prop) : Prop :=
  br (decide (xi7 < (list0.length : Int)))
  ((0 ≤ xi7 ∧ xi7 < (list0.length : Int)) ∧
    F_spec_inRange (List.getD list0 (Int.toNat xi7) (0 : Int)) low1 high2 fun inRange20 =>
    br (!inRange20)
    (k false)
    (InR (xi7 + 1) ∧
      B0 (xi7 + 1)))
  (k true)
def L0_spec_allIn (high2 : Int) (list0 : List Int) (low1 : Int) (k : Bool → Prop) : Nat → Int → Prop
  | 0, _ => False
  | n + 1, xi7 => T0_spec_allIn high2 list0 low1 xi7 k (L0_spec_allIn high2 list0 low1 k n)
def G_spec_allIn (list0 : List Int) (low1 : Int) (high2 : Int) (I0 : Int → List Int → Int → Int → Prop) : Prop :=
  I0 high2 list0 low1 0
def S_spec_allIn (list0 : List Int) (low1 : Int) (high2 : Int) (k : Bool → Prop) : Prop := G_spec_allIn list0 low1 high2 (fun high2 list0 low1 xi7 => ∃ j, L0_spec_allIn high2 list0 low1 k j xi7)
def F_spec_allIn (l : List Int) (low high : Int) (k : Bool → Prop) : Prop := l.length ≤ 1000000000 ∧ k (decide (∀ x ∈ l, low ≤ x ∧ x ≤ high))
theorem F_spec_allIn_S {l : List Int} {low high : Int} {k : Bool → Prop} (h : F_spec_allIn l low high k) : S_spec_allIn l low high k := by
  obtain ⟨hl, hk⟩ := h
  have key : ∀ (r : List Int) (i : Nat), l.drop i = r → ((∀ x ∈ r, low ≤ x ∧ x ≤ high) ↔ (∀ x ∈ l, low ≤ x ∧ x ≤ high)) → L0_spec_allIn high l low k (r.length + 1) (i : Int) := by
    intro r
    induction r with
    | nil =>
      intro i hd he
      have := drop_nil' hd
      rw [L0_spec_allIn, T0_spec_allIn]
      simp only [br_dec]
      refine ⟨fun h => by omega, fun _ => ?_⟩
      rwa [decide_eq_true (he.1 (by simp))] at hk
    | cons x r ih =>
      intro i hd he
      obtain ⟨h1, h2, _, h3, _⟩ := drop_cons' hd
      rw [List.length_cons, L0_spec_allIn, T0_spec_allIn]
      simp only [br_dec, F_spec_inRange, br_not, Int.toNat_natCast, h2]
      refine ⟨fun _ => ⟨⟨by omega, by omega⟩, fun hx => ⟨inR (by omega) (by omega), ?_⟩, fun hx => ?_⟩, fun h => by omega⟩
      · refine ih (i + 1) h3 (Iff.trans ?_ he)
        simp only [List.mem_cons, forall_eq_or_imp]
        exact ⟨fun h => ⟨hx, h⟩, fun h => h.2⟩
      · rwa [decide_eq_false (fun h => hx (he.2 h x (by simp)))] at hk
  exact ⟨_, key l 0 rfl Iff.rfl⟩
-- spec.validTrace
def G_spec_validTrace (t0 : List Int) (k : Bool → Prop) : Prop :=
  br (decide ((t0.length : Int) ≤ 24))
  (F_spec_allIn t0 (0 : Int) (31 : Int) fun allIn8 =>
    k allIn8)
  (k false)
def S_spec_validTrace (t0 : List Int) (k : Bool → Prop) : Prop := G_spec_validTrace t0 k
def F_spec_validTrace (t : List Int) (k : Bool → Prop) : Prop := ∀ b : Bool, (b = true ↔ VTrace t) → k b
theorem F_spec_validTrace_S {t : List Int} {k : Bool → Prop} (h : F_spec_validTrace t k) : S_spec_validTrace t k :=
  br_dec.2 ⟨fun h1 => ⟨by omega, h _ (by simp only [decide_eq_true_eq]; exact ⟨fun h2 => ⟨by omega, h2⟩, fun v => v.2⟩)⟩, fun h1 => h false (by simp only [Bool.false_eq_true, false_iff]; exact fun v => h1 (by have := v.1; omega))⟩
-- spec.copyLists
def G_spec_copyLists (a0Room : Int) (a0Target : Int) (a0Once : List Int) (a0Often : List Int) (a0WasOnce : List Int) (a0WasOften : List Int) (k : Int → Int → List Int → List Int → List Int → List Int → Prop) : Prop :=
  (F_spec_copyInts a0Once fun copyInts9 =>
    (F_spec_copyInts a0Often fun copyInts12 =>
      (F_spec_copyInts a0WasOnce fun copyInts15 =>
        (F_spec_copyInts a0WasOften fun copyInts18 =>
          (k a0Room a0Target copyInts9 copyInts12 copyInts15 copyInts18) ∧
          (True)) ∧
        (True)) ∧
      (True)) ∧
    (True)) ∧
  (True)
def H_spec_copyLists (a0Room : Int) (a0Target : Int) (a0Once : List Int) (a0Often : List Int) (a0WasOnce : List Int) (a0WasOften : List Int) (k : Int → Int → List Int → List Int → List Int → List Int → Prop) : Prop :=
  F_spec_copyInts a0Once fun copyInts9 =>
  F_spec_copyInts a0Often fun copyInts12 =>
  F_spec_copyInts a0WasOnce fun copyInts15 =>
  F_spec_copyInts a0WasOften fun copyInts18 =>
  k a0Room a0Target copyInts9 copyInts12 copyInts15 copyInts18
theorem G_spec_copyLists_eq (a0Room : Int) (a0Target : Int) (a0Once : List Int) (a0Often : List Int) (a0WasOnce : List Int) (a0WasOften : List Int) (k : Int → Int → List Int → List Int → List Int → List Int → Prop) : G_spec_copyLists a0Room a0Target a0Once a0Often a0WasOnce a0WasOften k = H_spec_copyLists a0Room a0Target a0Once a0Often a0WasOnce a0WasOften k := by
  simp only [G_spec_copyLists, H_spec_copyLists, and_self, and_true]
def S_spec_copyLists (a0Room : Int) (a0Target : Int) (a0Once : List Int) (a0Often : List Int) (a0WasOnce : List Int) (a0WasOften : List Int) (k : Int → Int → List Int → List Int → List Int → List Int → Prop) : Prop := H_spec_copyLists a0Room a0Target a0Once a0Often a0WasOnce a0WasOften k
def F_spec_copyLists (r t : Int) (o f wo wf : List Int) (k : Int → Int → List Int → List Int → List Int → List Int → Prop) : Prop :=
  (o.length ≤ 100000000 ∧ f.length ≤ 100000000 ∧ wo.length ≤ 100000000 ∧ wf.length ≤ 100000000) ∧ k r t o f wo wf
theorem F_spec_copyLists_S {r t : Int} {o f wo wf : List Int} {k : Int → Int → List Int → List Int → List Int → List Int → Prop} (h : F_spec_copyLists r t o f wo wf k) : S_spec_copyLists r t o f wo wf k := by
  obtain ⟨⟨h1, h2, h3, h4⟩, hk⟩ := h
  exact ⟨by omega, by omega, by omega, by omega, hk⟩
-- spec.placeOf
def T0_spec_placeOf (list0 : List Int) (n1 : Int) (xi5 : Int) (k : Int → Prop) (B0 : Int → Prop) : Prop :=
  br (decide (xi5 < (list0.length : Int)))
  ((0 ≤ xi5 ∧ xi5 < (list0.length : Int)) ∧
    br ((List.getD list0 (Int.toNat xi5) (0 : Int)) == n1)
    (k xi5)
    (InR (xi5 + 1) ∧
      B0 (xi5 + 1)))
  (k (-1))
def L0_spec_placeOf (list0 : List Int) (n1 : Int) (k : Int → Prop) : Nat → Int → Prop
  | 0, _ => False
  | n + 1, xi5 => T0_spec_placeOf list0 n1 xi5 k (L0_spec_placeOf list0 n1 k n)
def G_spec_placeOf (list0 : List Int) (n1 : Int) (I0 : List Int → Int → Int → Prop) : Prop :=
  I0 list0 n1 0
def S_spec_placeOf (list0 : List Int) (n1 : Int) (k : Int → Prop) : Prop := G_spec_placeOf list0 n1 (fun list0 n1 xi5 => ∃ j, L0_spec_placeOf list0 n1 k j xi5)
def F_spec_placeOf (l : List Int) (n : Int) (k : Int → Prop) : Prop := l.length ≤ 1000000000 ∧ k (plc l n)
theorem F_spec_placeOf_S {l : List Int} {n : Int} {k : Int → Prop} (h : F_spec_placeOf l n k) : S_spec_placeOf l n k := by
  obtain ⟨hl, hk⟩ := h
  have key : ∀ (r : List Int) (i : Nat), l.drop i = r → plcF r n i = plc l n → L0_spec_placeOf l n k (r.length + 1) (i : Int) := by
    intro r
    induction r with
    | nil =>
      intro i hd he
      have := drop_nil' hd
      rw [L0_spec_placeOf, T0_spec_placeOf]
      simp only [br_dec]
      exact ⟨fun h => by omega, fun _ => by rw [show (-1 : Int) = plc l n from he]; exact hk⟩
    | cons x r ih =>
      intro i hd he
      obtain ⟨h1, h2, _, h3, _⟩ := drop_cons' hd
      rw [List.length_cons, L0_spec_placeOf, T0_spec_placeOf]
      simp only [br_dec, br_beq, Int.toNat_natCast, h2]
      refine ⟨fun _ => ⟨⟨by omega, by omega⟩, fun hx => ?_, fun hx => ⟨inR (by omega) (by omega), ?_⟩⟩, fun h => by omega⟩
      · simp only [plcF, if_pos hx] at he; rw [he]; exact hk
      · simp only [plcF, if_neg hx] at he; exact ih (i + 1) h3 he
  exact ⟨_, key l 0 rfl rfl⟩
-- spec.isIn
def G_spec_isIn (list0 : List Int) (n1 : Int) (k : Bool → Prop) : Prop :=
  F_spec_placeOf list0 n1 fun placeOf7 =>
  k (decide (placeOf7 ≥ 0))
def S_spec_isIn (list0 : List Int) (n1 : Int) (k : Bool → Prop) : Prop := G_spec_isIn list0 n1 k
def F_spec_isIn (l : List Int) (n : Int) (k : Bool → Prop) : Prop := l.length ≤ 1000000000 ∧ k (decide (n ∈ l))
theorem F_spec_isIn_S {l : List Int} {n : Int} {k : Bool → Prop} (h : F_spec_isIn l n k) : S_spec_isIn l n k := by
  refine ⟨h.1, ?_⟩
  have : decide (plc l n ≥ 0) = decide (n ∈ l) := decide_eq_decide.2 plc_ge
  show k (decide (plc l n ≥ 0))
  rw [this]; exact h.2
-- spec.without
def G_spec_without (list0 : List Int) (at1 : Int) (k : List Int → Prop) : Prop :=
  (0 ≤ at1 ∧ at1 ≤ (list0.length : Int)) ∧
  InR (at1 + 1) ∧
  (0 ≤ (at1 + 1) ∧ (at1 + 1) ≤ (list0.length : Int)) ∧
  (((0 + (List.length (List.take (Int.toNat at1) list0)) ≤ 1000000000) ∧
      (((List.length (List.take (Int.toNat at1) list0)) + (List.length (List.drop (Int.toNat (at1 + 1)) list0)) ≤ 1000000000) ∧
        k ((List.take (Int.toNat at1) list0) ++ (List.drop (Int.toNat (at1 + 1)) list0))) ∧
      (True)) ∧
    (True)) ∧
  (True)
def H_spec_without (list0 : List Int) (at1 : Int) (k : List Int → Prop) : Prop :=
  (0 ≤ at1 ∧ at1 ≤ (list0.length : Int)) ∧
  InR (at1 + 1) ∧
  (0 ≤ (at1 + 1) ∧ (at1 + 1) ≤ (list0.length : Int)) ∧
  (0 + (List.length (List.take (Int.toNat at1) list0)) ≤ 1000000000) ∧
  ((List.length (List.take (Int.toNat at1) list0)) + (List.length (List.drop (Int.toNat (at1 + 1)) list0)) ≤ 1000000000) ∧
  k ((List.take (Int.toNat at1) list0) ++ (List.drop (Int.toNat (at1 + 1)) list0))
theorem G_spec_without_eq (list0 : List Int) (at1 : Int) (k : List Int → Prop) : G_spec_without list0 at1 k = H_spec_without list0 at1 k := by
  simp only [G_spec_without, H_spec_without, and_self, and_true]
def S_spec_without (list0 : List Int) (at1 : Int) (k : List Int → Prop) : Prop := H_spec_without list0 at1 k
def F_spec_without (l : List Int) (at1 : Int) (k : List Int → Prop) : Prop := (0 ≤ at1 ∧ at1 < l.length ∧ l.length ≤ 1000000000) ∧ k (l.take at1.toNat ++ l.drop (at1.toNat + 1))
theorem F_spec_without_S {l : List Int} {at1 : Int} {k : List Int → Prop} (h : F_spec_without l at1 k) : S_spec_without l at1 k := by
  obtain ⟨⟨h1, h2, h3⟩, hk⟩ := h
  have e : (at1 + 1).toNat = at1.toNat + 1 := by omega
  refine ⟨⟨by omega, by omega⟩, inR (by omega) (by omega), ⟨by omega, by omega⟩, by simp; omega, by simp; omega, ?_⟩
  rw [e]; exact hk
-- spec.front
def G_spec_front (list0 : List Int) (n1 : Int) (k : List Int → Prop) : Prop :=
  (1 + list0.length ≤ 1000000000) ∧
  k (([n1] : List Int) ++ list0)
def S_spec_front (list0 : List Int) (n1 : Int) (k : List Int → Prop) : Prop := G_spec_front list0 n1 k
def F_spec_front (l : List Int) (n : Int) (k : List Int → Prop) : Prop := l.length ≤ 100000000 ∧ k (n :: l)
theorem F_spec_front_S {l : List Int} {n : Int} {k : List Int → Prop} (h : F_spec_front l n k) : S_spec_front l n k := ⟨by have := h.1; omega, h.2⟩
-- spec.isFull
def G_spec_isFull (a0Room : Int) (a0Target : Int) (a0Once : List Int) (a0Often : List Int) (a0WasOnce : List Int) (a0WasOften : List Int) (k : Bool → Prop) : Prop :=
  InR ((a0Once.length : Int) + (a0Often.length : Int)) ∧
  k (((a0Once.length : Int) + (a0Often.length : Int)) == a0Room)
def S_spec_isFull (a0Room : Int) (a0Target : Int) (a0Once : List Int) (a0Often : List Int) (a0WasOnce : List Int) (a0WasOften : List Int) (k : Bool → Prop) : Prop := G_spec_isFull a0Room a0Target a0Once a0Often a0WasOnce a0WasOften k
def F_spec_isFull (r t : Int) (o f wo wf : List Int) (k : Bool → Prop) : Prop :=
  (o.length ≤ 100000000 ∧ f.length ≤ 100000000) ∧ k (decide ((o.length : Int) + f.length = r))
theorem F_spec_isFull_S {r t : Int} {o f wo wf : List Int} {k : Bool → Prop} (h : F_spec_isFull r t o f wo wf k) : S_spec_isFull r t o f wo wf k := by
  obtain ⟨⟨h1, h2⟩, hk⟩ := h
  refine ⟨inR (by omega) (by omega), ?_⟩
  rwa [show ((o.length : Int) + (f.length : Int) == r) = decide ((o.length : Int) + f.length = r) by rw [Bool.eq_iff_iff]; simp]
-- spec.makeRoom
def G_spec_makeRoom_j0 (a0Often : List Int) (a0Once : List Int) (a0Room : Int) (a0Target : Int) (a0WasOften : List Int) (a0WasOnce : List Int) (k : Int → Int → List Int → List Int → List Int → List Int → Prop) : Prop :=
  (F_spec_front a0WasOnce (List.getD a0Once (Int.toNat ((a0Once.length : Int) - 1)) (0 : Int)) fun front40 =>
    (InR ((a0Once.length : Int) - 1) ∧
      (0 ≤ ((a0Once.length : Int) - 1) ∧ ((a0Once.length : Int) - 1) ≤ (a0Once.length : Int)) ∧
      k a0Room a0Target (List.take (Int.toNat ((a0Once.length : Int) - 1)) a0Once) a0Often front40 a0WasOften) ∧
    (True)) ∧
  (True)
def G_spec_makeRoom_j1 (a0Often : List Int) (a0Once : List Int) (a0Room : Int) (a0Target : Int) (a0WasOften : List Int) (a0WasOnce : List Int) (k : Int → Int → List Int → List Int → List Int → List Int → Prop) : Prop :=
  InR ((a0Once.length : Int) - 1) ∧
  (((0 ≤ ((a0Once.length : Int) - 1) ∧ ((a0Once.length : Int) - 1) < (a0Once.length : Int)) ∧
      G_spec_makeRoom_j0 a0Often a0Once a0Room a0Target a0WasOften a0WasOnce k) ∧
    (True)) ∧
  (((0 ≤ ((a0Once.length : Int) - 1) ∧ ((a0Once.length : Int) - 1) < (a0Once.length : Int)) ∧
      (G_spec_makeRoom_j0 a0Often a0Once a0Room a0Target a0WasOften a0WasOnce k) ∧
      (True)) ∧
    (True))
def G_spec_makeRoom_j2 (a0Often : List Int) (a0Once : List Int) (a0Room : Int) (a0Target : Int) (a0WasOften : List Int) (a0WasOnce : List Int) (k : Int → Int → List Int → List Int → List Int → List Int → Prop) : Prop :=
  (F_spec_front a0WasOften (List.getD a0Often (Int.toNat ((a0Often.length : Int) - 1)) (0 : Int)) fun front60 =>
    (InR ((a0Often.length : Int) - 1) ∧
      (0 ≤ ((a0Often.length : Int) - 1) ∧ ((a0Often.length : Int) - 1) ≤ (a0Often.length : Int)) ∧
      k a0Room a0Target a0Once (List.take (Int.toNat ((a0Often.length : Int) - 1)) a0Often) a0WasOnce front60) ∧
    (True)) ∧
  (True)
def G_spec_makeRoom_j3 (a0Often : List Int) (a0Once : List Int) (a0Room : Int) (a0Target : Int) (a0WasOften : List Int) (a0WasOnce : List Int) (k : Int → Int → List Int → List Int → List Int → List Int → Prop) : Prop :=
  br ((a0Often.length : Int) == 0)
  (G_spec_makeRoom_j1 a0Often a0Once a0Room a0Target a0WasOften a0WasOnce k)
  (InR ((a0Often.length : Int) - 1) ∧
    (((0 ≤ ((a0Often.length : Int) - 1) ∧ ((a0Often.length : Int) - 1) < (a0Often.length : Int)) ∧
        G_spec_makeRoom_j2 a0Often a0Once a0Room a0Target a0WasOften a0WasOnce k) ∧
      (True)) ∧
    (((0 ≤ ((a0Often.length : Int) - 1) ∧ ((a0Often.length : Int) - 1) < (a0Often.length : Int)) ∧
        (G_spec_makeRoom_j2 a0Often a0Once a0Room a0Target a0WasOften a0WasOnce k) ∧
        (True)) ∧
      (True)))
def G_spec_makeRoom (a0Room : Int) (a0Target : Int) (a0Once : List Int) (a0Often : List Int) (a0WasOnce : List Int) (a0WasOften : List Int) (was1 : Bool) (k : Int → Int → List Int → List Int → List Int → List Int → Prop) : Prop :=
  br (decide ((a0Once.length : Int) > 0))
  (br (decide ((a0Once.length : Int) > a0Target))
    (G_spec_makeRoom_j1 a0Often a0Once a0Room a0Target a0WasOften a0WasOnce k)
    (br was1
      (br ((a0Once.length : Int) == a0Target)
        (G_spec_makeRoom_j1 a0Often a0Once a0Room a0Target a0WasOften a0WasOnce k)
        (G_spec_makeRoom_j3 a0Often a0Once a0Room a0Target a0WasOften a0WasOnce k))
      (G_spec_makeRoom_j3 a0Often a0Once a0Room a0Target a0WasOften a0WasOnce k)))
  (G_spec_makeRoom_j3 a0Often a0Once a0Room a0Target a0WasOften a0WasOnce k)
def H_spec_makeRoom_j0 (a0Often : List Int) (a0Once : List Int) (a0Room : Int) (a0Target : Int) (a0WasOften : List Int) (a0WasOnce : List Int) (k : Int → Int → List Int → List Int → List Int → List Int → Prop) : Prop :=
  InR ((a0Once.length : Int) - 1) ∧
  (0 ≤ ((a0Once.length : Int) - 1) ∧ ((a0Once.length : Int) - 1) < (a0Once.length : Int)) ∧
  F_spec_front a0WasOnce (List.getD a0Once (Int.toNat ((a0Once.length : Int) - 1)) (0 : Int)) fun front40 =>
  InR ((a0Once.length : Int) - 1) ∧
  (0 ≤ ((a0Once.length : Int) - 1) ∧ ((a0Once.length : Int) - 1) ≤ (a0Once.length : Int)) ∧
  k a0Room a0Target (List.take (Int.toNat ((a0Once.length : Int) - 1)) a0Once) a0Often front40 a0WasOften
def H_spec_makeRoom_j1 (a0Often : List Int) (a0Once : List Int) (a0Room : Int) (a0Target : Int) (a0WasOften : List Int) (a0WasOnce : List Int) (k : Int → Int → List Int → List Int → List Int → List Int → Prop) : Prop :=
  br ((a0Often.length : Int) == 0)
  (H_spec_makeRoom_j0 a0Often a0Once a0Room a0Target a0WasOften a0WasOnce k)
  (InR ((a0Often.length : Int) - 1) ∧
    (0 ≤ ((a0Often.length : Int) - 1) ∧ ((a0Often.length : Int) - 1) < (a0Often.length : Int)) ∧
    F_spec_front a0WasOften (List.getD a0Often (Int.toNat ((a0Often.length : Int) - 1)) (0 : Int)) fun front60 =>
    InR ((a0Often.length : Int) - 1) ∧
    (0 ≤ ((a0Often.length : Int) - 1) ∧ ((a0Often.length : Int) - 1) ≤ (a0Often.length : Int)) ∧
    k a0Room a0Target a0Once (List.take (Int.toNat ((a0Often.length : Int) - 1)) a0Often) a0WasOnce front60)
def H_spec_makeRoom (a0Room : Int) (a0Target : Int) (a0Once : List Int) (a0Often : List Int) (a0WasOnce : List Int) (a0WasOften : List Int) (was1 : Bool) (k : Int → Int → List Int → List Int → List Int → List Int → Prop) : Prop :=
  br (decide ((a0Once.length : Int) > 0))
  (br (decide ((a0Once.length : Int) > a0Target))
    (H_spec_makeRoom_j0 a0Often a0Once a0Room a0Target a0WasOften a0WasOnce k)
    (br was1
      (br ((a0Once.length : Int) == a0Target)
        (H_spec_makeRoom_j0 a0Often a0Once a0Room a0Target a0WasOften a0WasOnce k)
        (H_spec_makeRoom_j1 a0Often a0Once a0Room a0Target a0WasOften a0WasOnce k))
      (H_spec_makeRoom_j1 a0Often a0Once a0Room a0Target a0WasOften a0WasOnce k)))
  (H_spec_makeRoom_j1 a0Often a0Once a0Room a0Target a0WasOften a0WasOnce k)
theorem G_spec_makeRoom_eq (a0Room : Int) (a0Target : Int) (a0Once : List Int) (a0Often : List Int) (a0WasOnce : List Int) (a0WasOften : List Int) (was1 : Bool) (k : Int → Int → List Int → List Int → List Int → List Int → Prop) : G_spec_makeRoom a0Room a0Target a0Once a0Often a0WasOnce a0WasOften was1 k = H_spec_makeRoom a0Room a0Target a0Once a0Often a0WasOnce a0WasOften was1 k := by
  simp only [G_spec_makeRoom, H_spec_makeRoom, G_spec_makeRoom_j0, G_spec_makeRoom_j1, G_spec_makeRoom_j2, G_spec_makeRoom_j3, H_spec_makeRoom_j0, H_spec_makeRoom_j1, and_self, and_true]
def S_spec_makeRoom (a0Room : Int) (a0Target : Int) (a0Once : List Int) (a0Often : List Int) (a0WasOnce : List Int) (a0WasOften : List Int) (was1 : Bool) (k : Int → Int → List Int → List Int → List Int → List Int → Prop) : Prop := H_spec_makeRoom a0Room a0Target a0Once a0Often a0WasOnce a0WasOften was1 k
def F_spec_makeRoom (r t : Int) (o f wo wf : List Int) (was : Bool) (k : Int → Int → List Int → List Int → List Int → List Int → Prop) : Prop :=
  ((o.length ≤ 100000000 ∧ f.length ≤ 100000000 ∧ wo.length ≤ 100000000 ∧ wf.length ≤ 100000000) ∧ 0 < o.length + f.length) ∧
  k r (mkRoom was ⟨t, o, f, wo, wf⟩).t (mkRoom was ⟨t, o, f, wo, wf⟩).o (mkRoom was ⟨t, o, f, wo, wf⟩).f (mkRoom was ⟨t, o, f, wo, wf⟩).wo (mkRoom was ⟨t, o, f, wo, wf⟩).wf
theorem F_spec_makeRoom_S {r t : Int} {o f wo wf : List Int} {was : Bool} {k : Int → Int → List Int → List Int → List Int → List Int → Prop} (h : F_spec_makeRoom r t o f wo wf was k) : S_spec_makeRoom r t o f wo wf was k := by
  obtain ⟨⟨⟨h1, h2, h3, h4⟩, h5⟩, hk⟩ := h
  have first : ((0 < o.length ∧ ((o.length : Int) > t ∨ was = true ∧ (o.length : Int) = t)) ∨ f.length = 0) → H_spec_makeRoom_j0 f o r t wf wo k := by
    intro hc
    unfold mkRoom at hk
    rw [if_pos hc] at hk
    have ho : 0 < o.length := by omega
    refine ⟨inR (by omega) (by omega), ⟨by omega, by omega⟩, by omega, inR (by omega) (by omega), ⟨by omega, by omega⟩, ?_⟩
    rw [show ((o.length : Int) - 1).toNat = o.length - 1 by omega]
    exact hk
  have second : ¬ (0 < o.length ∧ ((o.length : Int) > t ∨ was = true ∧ (o.length : Int) = t)) → H_spec_makeRoom_j1 f o r t wf wo k := by
    intro hc
    refine br_beq.2 ⟨fun h => first (.inr (by omega)), fun h => ?_⟩
    unfold mkRoom at hk
    rw [if_neg (fun c => c.elim hc (by intro h6; simp only at h6; omega))] at hk
    refine ⟨inR (by omega) (by omega), ⟨by omega, by omega⟩, by omega, inR (by omega) (by omega), ⟨by omega, by omega⟩, ?_⟩
    rw [show ((f.length : Int) - 1).toNat = f.length - 1 by omega]
    exact hk
  refine br_dec.2 ⟨fun g1 => br_dec.2 ⟨fun g2 => first (.inl ⟨by omega, .inl g2⟩), fun g2 => br_iff.2 ⟨fun g3 => br_beq.2 ⟨fun g4 => first (.inl ⟨by omega, .inr ⟨g3, g4⟩⟩), fun g4 => second fun c => ?_⟩, fun g3 => second fun c => ?_⟩⟩, fun g1 => second fun c => by omega⟩
  · rcases c.2 with h | h
    · exact g2 h
    · exact g4 h.2
  · rcases c.2 with h | h
    · exact g2 h
    · rw [g3] at h; cases h.1
-- spec.fresh
def G_spec_fresh_j0 (a0Often : List Int) (a0Once : List Int) (a0Room : Int) (a0Target : Int) (a0WasOften : List Int) (a0WasOnce : List Int) (key1 : Int) (k : Int → Int → List Int → List Int → List Int → List Int → Prop) : Prop :=
  br (((a0Once.length : Int) + (a0WasOnce.length : Int)) == a0Room)
  (InR ((a0Once.length : Int) - 1) ∧
    (0 ≤ ((a0Once.length : Int) - 1) ∧ ((a0Once.length : Int) - 1) ≤ (a0Once.length : Int)) ∧
    F_spec_front (List.take (Int.toNat ((a0Once.length : Int) - 1)) a0Once) key1 fun front77 =>
    k a0Room a0Target front77 a0Often a0WasOnce a0WasOften)
  (InR (((a0Once.length : Int) + (a0WasOnce.length : Int)) + (a0Often.length : Int)) ∧
    InR ((((a0Once.length : Int) + (a0WasOnce.length : Int)) + (a0Often.length : Int)) + (a0WasOften.length : Int)) ∧
    InR (2 * a0Room) ∧
    br (((((a0Once.length : Int) + (a0WasOnce.length : Int)) + (a0Often.length : Int)) + (a0WasOften.length : Int)) == (2 * a0Room))
    (InR ((a0WasOften.length : Int) - 1) ∧
      (0 ≤ ((a0WasOften.length : Int) - 1) ∧ ((a0WasOften.length : Int) - 1) ≤ (a0WasOften.length : Int)) ∧
      F_spec_isFull a0Room a0Target a0Once a0Often a0WasOnce (List.take (Int.toNat ((a0WasOften.length : Int) - 1)) a0WasOften) fun isFull35 =>
      br isFull35
      (F_spec_makeRoom a0Room a0Target a0Once a0Often a0WasOnce (List.take (Int.toNat ((a0WasOften.length : Int) - 1)) a0WasOften) false fun makeRoom37Room makeRoom37Target makeRoom37Once makeRoom37Often makeRoom37WasOnce makeRoom37WasOften =>
        F_spec_front makeRoom37Once key1 fun front77 =>
        k makeRoom37Room makeRoom37Target front77 makeRoom37Often makeRoom37WasOnce makeRoom37WasOften)
      (F_spec_front a0Once key1 fun front77 =>
        k a0Room a0Target front77 a0Often a0WasOnce (List.take (Int.toNat ((a0WasOften.length : Int) - 1)) a0WasOften)))
    (F_spec_isFull a0Room a0Target a0Once a0Often a0WasOnce a0WasOften fun isFull35 =>
      br isFull35
      (F_spec_makeRoom a0Room a0Target a0Once a0Often a0WasOnce a0WasOften false fun makeRoom37Room makeRoom37Target makeRoom37Once makeRoom37Often makeRoom37WasOnce makeRoom37WasOften =>
        F_spec_front makeRoom37Once key1 fun front77 =>
        k makeRoom37Room makeRoom37Target front77 makeRoom37Often makeRoom37WasOnce makeRoom37WasOften)
      (F_spec_front a0Once key1 fun front77 =>
        k a0Room a0Target front77 a0Often a0WasOnce a0WasOften)))
def G_spec_fresh (a0Room : Int) (a0Target : Int) (a0Once : List Int) (a0Often : List Int) (a0WasOnce : List Int) (a0WasOften : List Int) (key1 : Int) (k : Int → Int → List Int → List Int → List Int → List Int → Prop) : Prop :=
  InR ((a0Once.length : Int) + (a0WasOnce.length : Int)) ∧
  br (((a0Once.length : Int) + (a0WasOnce.length : Int)) == a0Room)
  (br (decide ((a0WasOnce.length : Int) > 0))
    (InR ((a0WasOnce.length : Int) - 1) ∧
      (0 ≤ ((a0WasOnce.length : Int) - 1) ∧ ((a0WasOnce.length : Int) - 1) ≤ (a0WasOnce.length : Int)) ∧
      F_spec_isFull a0Room a0Target a0Once a0Often (List.take (Int.toNat ((a0WasOnce.length : Int) - 1)) a0WasOnce) a0WasOften fun isFull58 =>
      br isFull58
      (F_spec_makeRoom a0Room a0Target a0Once a0Often (List.take (Int.toNat ((a0WasOnce.length : Int) - 1)) a0WasOnce) a0WasOften false fun makeRoom60Room makeRoom60Target makeRoom60Once makeRoom60Often makeRoom60WasOnce makeRoom60WasOften =>
        F_spec_front makeRoom60Once key1 fun front77 =>
        k makeRoom60Room makeRoom60Target front77 makeRoom60Often makeRoom60WasOnce makeRoom60WasOften)
      (F_spec_front a0Once key1 fun front77 =>
        k a0Room a0Target front77 a0Often (List.take (Int.toNat ((a0WasOnce.length : Int) - 1)) a0WasOnce) a0WasOften))
    (G_spec_fresh_j0 a0Often a0Once a0Room a0Target a0WasOften a0WasOnce key1 k))
  (G_spec_fresh_j0 a0Often a0Once a0Room a0Target a0WasOften a0WasOnce key1 k)
def S_spec_fresh (a0Room : Int) (a0Target : Int) (a0Once : List Int) (a0Often : List Int) (a0WasOnce : List Int) (a0WasOften : List Int) (key1 : Int) (k : Int → Int → List Int → List Int → List Int → List Int → Prop) : Prop := G_spec_fresh a0Room a0Target a0Once a0Often a0WasOnce a0WasOften key1 k
def F_spec_fresh (r t : Int) (o f wo wf : List Int) (key : Int) (k : Int → Int → List Int → List Int → List Int → List Int → Prop) : Prop :=
  VLists r ⟨t, o, f, wo, wf⟩ ∧ k r (freshL r ⟨t, o, f, wo, wf⟩ key).t (freshL r ⟨t, o, f, wo, wf⟩ key).o (freshL r ⟨t, o, f, wo, wf⟩ key).f (freshL r ⟨t, o, f, wo, wf⟩ key).wo (freshL r ⟨t, o, f, wo, wf⟩ key).wf
theorem F_spec_fresh_S {r t : Int} {o f wo wf : List Int} {key : Int} {k : Int → Int → List Int → List Int → List Int → List Int → Prop} (h : F_spec_fresh r t o f wo wf key k) : S_spec_fresh r t o f wo wf key k := by
  obtain ⟨v, hk⟩ := h
  obtain ⟨l1, l2, l3, l4⟩ := lists_len v
  have r1 := v.room1
  have i1 := v.inc
  have o1 := v.onc
  have t1 := v.tot
  simp only at l1 l2 l3 l4 i1 o1 t1
  -- room is made where the cache is full
  have fit : ∀ (wo wf : List Int), wo.length ≤ 8 → wf.length ≤ 16 → (let b := fitL r false ⟨t, o, f, wo, wf⟩; k r b.t (key :: b.o) b.f b.wo b.wf) →
      F_spec_isFull r t o f wo wf fun c => br c (F_spec_makeRoom r t o f wo wf false fun r t o f wo wf => F_spec_front o key fun o => k r t o f wo wf) (F_spec_front o key fun o => k r t o f wo wf) := by
    intro wo wf g1 g2 hk
    refine ⟨by omega, br_dec.2 ⟨fun hf => ⟨⟨by omega, by omega⟩, ?_⟩, fun hf => ⟨by omega, ?_⟩⟩⟩
    · rw [fitL, if_pos hf] at hk
      have := (mkRoom_len (was := false) (a := ⟨t, o, f, wo, wf⟩) (by simp only; omega)).1
      simp only at this
      exact ⟨by omega, hk⟩
    · rw [fitL, if_neg hf] at hk
      exact hk
  unfold freshL at hk
  have j0 : ¬ ((o.length : Int) + wo.length = r ∧ 0 < wo.length) → G_spec_fresh_j0 f o r t wf wo key k := by
    intro hn
    simp only [if_neg hn] at hk
    refine br_beq.2 ⟨fun e1 => ?_, fun e1 => ⟨inR (by omega) (by omega), inR (by omega) (by omega), inR (by omega) (by omega), br_beq.2 ⟨fun e2 => ⟨inR (by omega) (by omega), ⟨by omega, by omega⟩, fit _ _ (by omega) (by simp; omega) ?_⟩, fun e2 => fit _ _ (by omega) (by omega) ?_⟩⟩⟩
    · simp only [if_pos e1] at hk
      refine ⟨inR (by omega) (by omega), ⟨by omega, by omega⟩, by simp; omega, ?_⟩
      rw [show ((o.length : Int) - 1).toNat = o.length - 1 by omega]
      exact hk
    · simp only [if_neg e1, if_pos e2] at hk
      rw [show ((wf.length : Int) - 1).toNat = wf.length - 1 by omega]
      exact hk
    · simp only [if_neg e1, if_neg e2] at hk
      exact hk
  refine ⟨inR (by omega) (by omega), br_beq.2 ⟨fun e1 => br_dec.2 ⟨fun e2 => ⟨inR (by omega) (by omega), ⟨by omega, by omega⟩, fit _ _ (by simp; omega) (by omega) ?_⟩, fun e2 => j0 fun c => by omega⟩, fun e1 => j0 fun c => e1 c.1⟩⟩
  simp only [if_pos (show (o.length : Int) + wo.length = r ∧ 0 < wo.length from ⟨e1, by omega⟩)] at hk
  rw [show ((wo.length : Int) - 1).toNat = wo.length - 1 by omega]
  exact hk
-- spec.adapt
def G_spec_adapt_j0 (copyLists8Often : List Int) (copyLists8Once : List Int) (copyLists8Room : Int) (copyLists8Target : Int) (copyLists8WasOften : List Int) (copyLists8WasOnce : List Int) (key1 : Int) (placeOf19 : Int) (k : Int → Int → List Int → List Int → List Int → List Int → Bool → Prop) : Prop :=
  (F_spec_without copyLists8Once placeOf19 fun without20 =>
    (F_spec_front copyLists8Often key1 fun front25 =>
      k copyLists8Room copyLists8Target without20 front25 copyLists8WasOnce copyLists8WasOften true) ∧
    (True)) ∧
  (True)
def G_spec_adapt_j1 (copyLists8Often : List Int) (copyLists8Once : List Int) (copyLists8Room : Int) (copyLists8Target : Int) (copyLists8WasOften : List Int) (copyLists8WasOnce : List Int) (key1 : Int) (k : Int → Int → List Int → List Int → List Int → List Int → Bool → Prop) : Prop :=
  (F_spec_placeOf copyLists8Once key1 fun placeOf19 =>
    G_spec_adapt_j0 copyLists8Often copyLists8Once copyLists8Room copyLists8Target copyLists8WasOften copyLists8WasOnce key1 placeOf19 k) ∧
  (True)
def G_spec_adapt_j2 (copyLists8Often : List Int) (copyLists8Once : List Int) (copyLists8Room : Int) (copyLists8Target : Int) (copyLists8WasOften : List Int) (copyLists8WasOnce : List Int) (key1 : Int) (placeOf38 : Int) (k : Int → Int → List Int → List Int → List Int → List Int → Bool → Prop) : Prop :=
  (F_spec_without copyLists8Often placeOf38 fun without39 =>
    (F_spec_front without39 key1 fun front41 =>
      (k copyLists8Room copyLists8Target copyLists8Once front41 copyLists8WasOnce copyLists8WasOften true) ∧
      (True)) ∧
    (True)) ∧
  (True)
def G_spec_adapt_j3 (copyLists8Often : List Int) (copyLists8Once : List Int) (copyLists8Room : Int) (copyLists8Target : Int) (copyLists8WasOften : List Int) (copyLists8WasOnce : List Int) (key1 : Int) (k : Int → Int → List Int → List Int → List Int → List Int → Bool → Prop) : Prop :=
  (F_spec_placeOf copyLists8Often key1 fun placeOf38 =>
    G_spec_adapt_j2 copyLists8Often copyLists8Once copyLists8Room copyLists8Target copyLists8WasOften copyLists8WasOnce key1 placeOf38 k) ∧
  (True)
def G_spec_adapt_j4 (copyLists8Often : List Int) (copyLists8Once : List Int) (copyLists8Room : Int) (copyLists8Target : Int) (copyLists8WasOften : List Int) (copyLists8WasOnce : List Int) (key1 : Int) (placeOf69 : Int) (k : Int → Int → List Int → List Int → List Int → List Int → Bool → Prop) : Prop :=
  (F_spec_without copyLists8WasOnce placeOf69 fun without70 =>
    (F_spec_isFull copyLists8Room (if (copyLists8Target + (if 1 < (Int.tdiv (copyLists8WasOften.length : Int) (copyLists8WasOnce.length : Int)) then (Int.tdiv (copyLists8WasOften.length : Int) (copyLists8WasOnce.length : Int)) else 1)) < copyLists8Room then (copyLists8Target + (if 1 < (Int.tdiv (copyLists8WasOften.length : Int) (copyLists8WasOnce.length : Int)) then (Int.tdiv (copyLists8WasOften.length : Int) (copyLists8WasOnce.length : Int)) else 1)) else copyLists8Room) copyLists8Once copyLists8Often without70 copyLists8WasOften fun isFull73 =>
      br isFull73
      (F_spec_makeRoom copyLists8Room (if (copyLists8Target + (if 1 < (Int.tdiv (copyLists8WasOften.length : Int) (copyLists8WasOnce.length : Int)) then (Int.tdiv (copyLists8WasOften.length : Int) (copyLists8WasOnce.length : Int)) else 1)) < copyLists8Room then (copyLists8Target + (if 1 < (Int.tdiv (copyLists8WasOften.length : Int) (copyLists8WasOnce.length : Int)) then (Int.tdiv (copyLists8WasOften.length : Int) (copyLists8WasOnce.length : Int)) else 1)) else copyLists8Room) copyLists8Once copyLists8Often without70 copyLists8WasOften false fun makeRoom75Room makeRoom75Target makeRoom75Once makeRoom75Often makeRoom75WasOnce makeRoom75WasOften =>
        F_spec_front makeRoom75Often key1 fun front79 =>
        k makeRoom75Room makeRoom75Target makeRoom75Once front79 makeRoom75WasOnce makeRoom75WasOften false)
      (F_spec_front copyLists8Often key1 fun front79 =>
        k copyLists8Room (if (copyLists8Target + (if 1 < (Int.tdiv (copyLists8WasOften.length : Int) (copyLists8WasOnce.length : Int)) then (Int.tdiv (copyLists8WasOften.length : Int) (copyLists8WasOnce.length : Int)) else 1)) < copyLists8Room then (copyLists8Target + (if 1 < (Int.tdiv (copyLists8WasOften.length : Int) (copyLists8WasOnce.length : Int)) then (Int.tdiv (copyLists8WasOften.length : Int) (copyLists8WasOnce.length : Int)) else 1)) else copyLists8Room) copyLists8Once front79 without70 copyLists8WasOften false)) ∧
    (True)) ∧
  (True)
def G_spec_adapt_j5 (copyLists8Often : List Int) (copyLists8Once : List Int) (copyLists8Room : Int) (copyLists8Target : Int) (copyLists8WasOften : List Int) (copyLists8WasOnce : List Int) (key1 : Int) (k : Int → Int → List Int → List Int → List Int → List Int → Bool → Prop) : Prop :=
  (F_spec_placeOf copyLists8WasOnce key1 fun placeOf69 =>
    G_spec_adapt_j4 copyLists8Often copyLists8Once copyLists8Room copyLists8Target copyLists8WasOften copyLists8WasOnce key1 placeOf69 k) ∧
  (True)
def G_spec_adapt_j6 (copyLists8Often : List Int) (copyLists8Once : List Int) (copyLists8Room : Int) (copyLists8Target : Int) (copyLists8WasOften : List Int) (copyLists8WasOnce : List Int) (key1 : Int) (k : Int → Int → List Int → List Int → List Int → List Int → Bool → Prop) : Prop :=
  (((G_spec_adapt_j5 copyLists8Often copyLists8Once copyLists8Room copyLists8Target copyLists8WasOften copyLists8WasOnce key1 k) ∧
      (True)) ∧
    (((G_spec_adapt_j5 copyLists8Often copyLists8Once copyLists8Room copyLists8Target copyLists8WasOften copyLists8WasOnce key1 k) ∧
        ((F_spec_placeOf copyLists8WasOnce key1 fun placeOf69 =>
            (G_spec_adapt_j4 copyLists8Often copyLists8Once copyLists8Room copyLists8Target copyLists8WasOften copyLists8WasOnce key1 placeOf69 k) ∧
            (True)) ∧
          (True))) ∧
      (True))) ∧
  (True)
def G_spec_adapt_j7 (copyLists8Often : List Int) (copyLists8Once : List Int) (copyLists8Room : Int) (copyLists8Target : Int) (copyLists8WasOften : List Int) (copyLists8WasOnce : List Int) (key1 : Int) (k : Int → Int → List Int → List Int → List Int → List Int → Bool → Prop) : Prop :=
  InR (copyLists8Target + (if 1 < (Int.tdiv (copyLists8WasOften.length : Int) (copyLists8WasOnce.length : Int)) then (Int.tdiv (copyLists8WasOften.length : Int) (copyLists8WasOnce.length : Int)) else 1)) ∧
  G_spec_adapt_j6 copyLists8Often copyLists8Once copyLists8Room copyLists8Target copyLists8WasOften copyLists8WasOnce key1 k
def G_spec_adapt_j8 (copyLists8Often : List Int) (copyLists8Once : List Int) (copyLists8Room : Int) (copyLists8Target : Int) (copyLists8WasOften : List Int) (copyLists8WasOnce : List Int) (key1 : Int) (k : Int → Int → List Int → List Int → List Int → List Int → Bool → Prop) : Prop :=
  (((copyLists8WasOnce.length : Int) ≠ 0 ∧ InR (Int.tdiv (copyLists8WasOften.length : Int) (copyLists8WasOnce.length : Int))) ∧
    G_spec_adapt_j7 copyLists8Often copyLists8Once copyLists8Room copyLists8Target copyLists8WasOften copyLists8WasOnce key1 k) ∧
  (True)
def G_spec_adapt_j9 (copyLists8Often : List Int) (copyLists8Once : List Int) (copyLists8Room : Int) (copyLists8Target : Int) (copyLists8WasOften : List Int) (copyLists8WasOnce : List Int) (key1 : Int) (k : Int → Int → List Int → List Int → List Int → List Int → Bool → Prop) : Prop :=
  (G_spec_adapt_j8 copyLists8Often copyLists8Once copyLists8Room copyLists8Target copyLists8WasOften copyLists8WasOnce key1 k) ∧
  ((G_spec_adapt_j8 copyLists8Often copyLists8Once copyLists8Room copyLists8Target copyLists8WasOften copyLists8WasOnce key1 k) ∧
    (True))
def G_spec_adapt_j10 (copyLists8Often : List Int) (copyLists8Once : List Int) (copyLists8Room : Int) (copyLists8Target : Int) (copyLists8WasOften : List Int) (copyLists8WasOnce : List Int) (key1 : Int) (k : Int → Int → List Int → List Int → List Int → List Int → Bool → Prop) : Prop :=
  (G_spec_adapt_j7 copyLists8Often copyLists8Once copyLists8Room copyLists8Target copyLists8WasOften copyLists8WasOnce key1 k) ∧
  (True)
def G_spec_adapt_j11 (copyLists8Often : List Int) (copyLists8Once : List Int) (copyLists8Room : Int) (copyLists8Target : Int) (copyLists8WasOften : List Int) (copyLists8WasOnce : List Int) (key1 : Int) (k : Int → Int → List Int → List Int → List Int → List Int → Bool → Prop) : Prop :=
  (G_spec_adapt_j8 copyLists8Often copyLists8Once copyLists8Room copyLists8Target copyLists8WasOften copyLists8WasOnce key1 k) ∧
  ((((copyLists8WasOnce.length : Int) ≠ 0 ∧ InR (Int.tdiv (copyLists8WasOften.length : Int) (copyLists8WasOnce.length : Int))) ∧
      G_spec_adapt_j10 copyLists8Often copyLists8Once copyLists8Room copyLists8Target copyLists8WasOften copyLists8WasOnce key1 k) ∧
    (True))
def G_spec_adapt_j12 (copyLists8Often : List Int) (copyLists8Once : List Int) (copyLists8Room : Int) (copyLists8Target : Int) (copyLists8WasOften : List Int) (copyLists8WasOnce : List Int) (key1 : Int) (k : Int → Int → List Int → List Int → List Int → List Int → Bool → Prop) : Prop :=
  InR (copyLists8Target + (if 1 < (Int.tdiv (copyLists8WasOften.length : Int) (copyLists8WasOnce.length : Int)) then (Int.tdiv (copyLists8WasOften.length : Int) (copyLists8WasOnce.length : Int)) else 1)) ∧
  (G_spec_adapt_j6 copyLists8Often copyLists8Once copyLists8Room copyLists8Target copyLists8WasOften copyLists8WasOnce key1 k) ∧
  (True)
def G_spec_adapt_j13 (copyLists8Often : List Int) (copyLists8Once : List Int) (copyLists8Room : Int) (copyLists8Target : Int) (copyLists8WasOften : List Int) (copyLists8WasOnce : List Int) (key1 : Int) (k : Int → Int → List Int → List Int → List Int → List Int → Bool → Prop) : Prop :=
  (G_spec_adapt_j8 copyLists8Often copyLists8Once copyLists8Room copyLists8Target copyLists8WasOften copyLists8WasOnce key1 k) ∧
  ((((copyLists8WasOnce.length : Int) ≠ 0 ∧ InR (Int.tdiv (copyLists8WasOften.length : Int) (copyLists8WasOnce.length : Int))) ∧
      G_spec_adapt_j12 copyLists8Often copyLists8Once copyLists8Room copyLists8Target copyLists8WasOften copyLists8WasOnce key1 k) ∧
    (True))
def G_spec_adapt_j14 (copyLists8Often : List Int) (copyLists8Once : List Int) (copyLists8Room : Int) (copyLists8Target : Int) (copyLists8WasOften : List Int) (copyLists8WasOnce : List Int) (key1 : Int) (k : Int → Int → List Int → List Int → List Int → List Int → Bool → Prop) : Prop :=
  (G_spec_adapt_j11 copyLists8Often copyLists8Once copyLists8Room copyLists8Target copyLists8WasOften copyLists8WasOnce key1 k) ∧
  ((G_spec_adapt_j13 copyLists8Often copyLists8Once copyLists8Room copyLists8Target copyLists8WasOften copyLists8WasOnce key1 k) ∧
    ((((copyLists8WasOnce.length : Int) ≠ 0 ∧ InR (Int.tdiv (copyLists8WasOften.length : Int) (copyLists8WasOnce.length : Int))) ∧
        (G_spec_adapt_j10 copyLists8Often copyLists8Once copyLists8Room copyLists8Target copyLists8WasOften copyLists8WasOnce key1 k) ∧
        ((G_spec_adapt_j12 copyLists8Often copyLists8Once copyLists8Room copyLists8Target copyLists8WasOften copyLists8WasOnce key1 k) ∧
          (True))) ∧
      (True)))
def G_spec_adapt_j15 (copyLists8Often : List Int) (copyLists8Once : List Int) (copyLists8Room : Int) (copyLists8Target : Int) (copyLists8WasOften : List Int) (copyLists8WasOnce : List Int) (key1 : Int) (placeOf105 : Int) (k : Int → Int → List Int → List Int → List Int → List Int → Bool → Prop) : Prop :=
  (F_spec_without copyLists8WasOften placeOf105 fun without106 =>
    (F_spec_isFull copyLists8Room (if 0 < (copyLists8Target - (if 1 < (Int.tdiv (copyLists8WasOnce.length : Int) (copyLists8WasOften.length : Int)) then (Int.tdiv (copyLists8WasOnce.length : Int) (copyLists8WasOften.length : Int)) else 1)) then (copyLists8Target - (if 1 < (Int.tdiv (copyLists8WasOnce.length : Int) (copyLists8WasOften.length : Int)) then (Int.tdiv (copyLists8WasOnce.length : Int) (copyLists8WasOften.length : Int)) else 1)) else 0) copyLists8Once copyLists8Often copyLists8WasOnce without106 fun isFull109 =>
      br isFull109
      (F_spec_makeRoom copyLists8Room (if 0 < (copyLists8Target - (if 1 < (Int.tdiv (copyLists8WasOnce.length : Int) (copyLists8WasOften.length : Int)) then (Int.tdiv (copyLists8WasOnce.length : Int) (copyLists8WasOften.length : Int)) else 1)) then (copyLists8Target - (if 1 < (Int.tdiv (copyLists8WasOnce.length : Int) (copyLists8WasOften.length : Int)) then (Int.tdiv (copyLists8WasOnce.length : Int) (copyLists8WasOften.length : Int)) else 1)) else 0) copyLists8Once copyLists8Often copyLists8WasOnce without106 true fun makeRoom111Room makeRoom111Target makeRoom111Once makeRoom111Often makeRoom111WasOnce makeRoom111WasOften =>
        F_spec_front makeRoom111Often key1 fun front115 =>
        k makeRoom111Room makeRoom111Target makeRoom111Once front115 makeRoom111WasOnce makeRoom111WasOften false)
      (F_spec_front copyLists8Often key1 fun front115 =>
        k copyLists8Room (if 0 < (copyLists8Target - (if 1 < (Int.tdiv (copyLists8WasOnce.length : Int) (copyLists8WasOften.length : Int)) then (Int.tdiv (copyLists8WasOnce.length : Int) (copyLists8WasOften.length : Int)) else 1)) then (copyLists8Target - (if 1 < (Int.tdiv (copyLists8WasOnce.length : Int) (copyLists8WasOften.length : Int)) then (Int.tdiv (copyLists8WasOnce.length : Int) (copyLists8WasOften.length : Int)) else 1)) else 0) copyLists8Once front115 copyLists8WasOnce without106 false)) ∧
    (True)) ∧
  (True)
def G_spec_adapt_j16 (copyLists8Often : List Int) (copyLists8Once : List Int) (copyLists8Room : Int) (copyLists8Target : Int) (copyLists8WasOften : List Int) (copyLists8WasOnce : List Int) (key1 : Int) (k : Int → Int → List Int → List Int → List Int → List Int → Bool → Prop) : Prop :=
  (F_spec_placeOf copyLists8WasOften key1 fun placeOf105 =>
    G_spec_adapt_j15 copyLists8Often copyLists8Once copyLists8Room copyLists8Target copyLists8WasOften copyLists8WasOnce key1 placeOf105 k) ∧
  (True)
def G_spec_adapt_j17 (copyLists8Often : List Int) (copyLists8Once : List Int) (copyLists8Room : Int) (copyLists8Target : Int) (copyLists8WasOften : List Int) (copyLists8WasOnce : List Int) (key1 : Int) (k : Int → Int → List Int → List Int → List Int → List Int → Bool → Prop) : Prop :=
  InR (copyLists8Target - (if 1 < (Int.tdiv (copyLists8WasOnce.length : Int) (copyLists8WasOften.length : Int)) then (Int.tdiv (copyLists8WasOnce.length : Int) (copyLists8WasOften.length : Int)) else 1)) ∧
  (((G_spec_adapt_j16 copyLists8Often copyLists8Once copyLists8Room copyLists8Target copyLists8WasOften copyLists8WasOnce key1 k) ∧
      (True)) ∧
    (((G_spec_adapt_j16 copyLists8Often copyLists8Once copyLists8Room copyLists8Target copyLists8WasOften copyLists8WasOnce key1 k) ∧
        ((F_spec_placeOf copyLists8WasOften key1 fun placeOf105 =>
            (G_spec_adapt_j15 copyLists8Often copyLists8Once copyLists8Room copyLists8Target copyLists8WasOften copyLists8WasOnce key1 placeOf105 k) ∧
            (True)) ∧
          (True))) ∧
      (True))) ∧
  (True)
def G_spec_adapt_j18 (copyLists8Often : List Int) (copyLists8Once : List Int) (copyLists8Room : Int) (copyLists8Target : Int) (copyLists8WasOften : List Int) (copyLists8WasOnce : List Int) (key1 : Int) (k : Int → Int → List Int → List Int → List Int → List Int → Bool → Prop) : Prop :=
  (((copyLists8WasOften.length : Int) ≠ 0 ∧ InR (Int.tdiv (copyLists8WasOnce.length : Int) (copyLists8WasOften.length : Int))) ∧
    G_spec_adapt_j17 copyLists8Often copyLists8Once copyLists8Room copyLists8Target copyLists8WasOften copyLists8WasOnce key1 k) ∧
  (True)
def G_spec_adapt_j19 (copyLists8Often : List Int) (copyLists8Once : List Int) (copyLists8Room : Int) (copyLists8Target : Int) (copyLists8WasOften : List Int) (copyLists8WasOnce : List Int) (key1 : Int) (k : Int → Int → List Int → List Int → List Int → List Int → Bool → Prop) : Prop :=
  (G_spec_adapt_j18 copyLists8Often copyLists8Once copyLists8Room copyLists8Target copyLists8WasOften copyLists8WasOnce key1 k) ∧
  ((((copyLists8WasOften.length : Int) ≠ 0 ∧ InR (Int.tdiv (copyLists8WasOnce.length : Int) (copyLists8WasOften.length : Int))) ∧
      (G_spec_adapt_j17 copyLists8Often copyLists8Once copyLists8Room copyLists8Target copyLists8WasOften copyLists8WasOnce key1 k) ∧
      (True)) ∧
    (True))
def G_spec_adapt (old0Room : Int) (old0Target : Int) (old0Once : List Int) (old0Often : List Int) (old0WasOnce : List Int) (old0WasOften : List Int) (key1 : Int) (k : Int → Int → List Int → List Int → List Int → List Int → Bool → Prop) : Prop :=
  F_spec_copyLists old0Room old0Target old0Once old0Often old0WasOnce old0WasOften fun copyLists8Room copyLists8Target copyLists8Once copyLists8Often copyLists8WasOnce copyLists8WasOften =>
  F_spec_isIn copyLists8Once key1 fun isIn13 =>
  br isIn13
  (((G_spec_adapt_j1 copyLists8Often copyLists8Once copyLists8Room copyLists8Target copyLists8WasOften copyLists8WasOnce key1 k) ∧
      (True)) ∧
    (((G_spec_adapt_j1 copyLists8Often copyLists8Once copyLists8Room copyLists8Target copyLists8WasOften copyLists8WasOnce key1 k) ∧
        ((F_spec_placeOf copyLists8Once key1 fun placeOf19 =>
            (G_spec_adapt_j0 copyLists8Often copyLists8Once copyLists8Room copyLists8Target copyLists8WasOften copyLists8WasOnce key1 placeOf19 k) ∧
            (True)) ∧
          (True))) ∧
      (True)))
  (F_spec_isIn copyLists8Often key1 fun isIn32 =>
    br isIn32
    (((G_spec_adapt_j3 copyLists8Often copyLists8Once copyLists8Room copyLists8Target copyLists8WasOften copyLists8WasOnce key1 k) ∧
        (True)) ∧
      (((G_spec_adapt_j3 copyLists8Often copyLists8Once copyLists8Room copyLists8Target copyLists8WasOften copyLists8WasOnce key1 k) ∧
          ((F_spec_placeOf copyLists8Often key1 fun placeOf38 =>
              (G_spec_adapt_j2 copyLists8Often copyLists8Once copyLists8Room copyLists8Target copyLists8WasOften copyLists8WasOnce key1 placeOf38 k) ∧
              (True)) ∧
            (True))) ∧
        (True)))
    (F_spec_isIn copyLists8WasOnce key1 fun isIn48 =>
      br isIn48
      (((G_spec_adapt_j9 copyLists8Often copyLists8Once copyLists8Room copyLists8Target copyLists8WasOften copyLists8WasOnce key1 k) ∧
          ((G_spec_adapt_j11 copyLists8Often copyLists8Once copyLists8Room copyLists8Target copyLists8WasOften copyLists8WasOnce key1 k) ∧
            ((G_spec_adapt_j11 copyLists8Often copyLists8Once copyLists8Room copyLists8Target copyLists8WasOften copyLists8WasOnce key1 k) ∧
              (True)))) ∧
        (((G_spec_adapt_j9 copyLists8Often copyLists8Once copyLists8Room copyLists8Target copyLists8WasOften copyLists8WasOnce key1 k) ∧
            ((G_spec_adapt_j13 copyLists8Often copyLists8Once copyLists8Room copyLists8Target copyLists8WasOften copyLists8WasOnce key1 k) ∧
              ((G_spec_adapt_j13 copyLists8Often copyLists8Once copyLists8Room copyLists8Target copyLists8WasOften copyLists8WasOnce key1 k) ∧
                (True)))) ∧
          ((G_spec_adapt_j14 copyLists8Often copyLists8Once copyLists8Room copyLists8Target copyLists8WasOften copyLists8WasOnce key1 k) ∧
            ((G_spec_adapt_j14 copyLists8Often copyLists8Once copyLists8Room copyLists8Target copyLists8WasOften copyLists8WasOnce key1 k) ∧
              (True)))))
      (F_spec_isIn copyLists8WasOften key1 fun isIn86 =>
        br isIn86
        (((G_spec_adapt_j18 copyLists8Often copyLists8Once copyLists8Room copyLists8Target copyLists8WasOften copyLists8WasOnce key1 k) ∧
            ((G_spec_adapt_j18 copyLists8Often copyLists8Once copyLists8Room copyLists8Target copyLists8WasOften copyLists8WasOnce key1 k) ∧
              (True))) ∧
          ((G_spec_adapt_j19 copyLists8Often copyLists8Once copyLists8Room copyLists8Target copyLists8WasOften copyLists8WasOnce key1 k) ∧
            ((G_spec_adapt_j19 copyLists8Often copyLists8Once copyLists8Room copyLists8Target copyLists8WasOften copyLists8WasOnce key1 k) ∧
              (True))))
        (F_spec_fresh copyLists8Room copyLists8Target copyLists8Once copyLists8Often copyLists8WasOnce copyLists8WasOften key1 fun fresh120Room fresh120Target fresh120Once fresh120Often fresh120WasOnce fresh120WasOften =>
          k fresh120Room fresh120Target fresh120Once fresh120Often fresh120WasOnce fresh120WasOften false))))
def H_spec_adapt (old0Room : Int) (old0Target : Int) (old0Once : List Int) (old0Often : List Int) (old0WasOnce : List Int) (old0WasOften : List Int) (key1 : Int) (k : Int → Int → List Int → List Int → List Int → List Int → Bool → Prop) : Prop :=
  F_spec_copyLists old0Room old0Target old0Once old0Often old0WasOnce old0WasOften fun copyLists8Room copyLists8Target copyLists8Once copyLists8Often copyLists8WasOnce copyLists8WasOften =>
  F_spec_isIn copyLists8Once key1 fun isIn13 =>
  br isIn13
  (F_spec_placeOf copyLists8Once key1 fun placeOf19 =>
    F_spec_without copyLists8Once placeOf19 fun without20 =>
    F_spec_front copyLists8Often key1 fun front25 =>
    k copyLists8Room copyLists8Target without20 front25 copyLists8WasOnce copyLists8WasOften true)
  (F_spec_isIn copyLists8Often key1 fun isIn32 =>
    br isIn32
    (F_spec_placeOf copyLists8Often key1 fun placeOf38 =>
      F_spec_without copyLists8Often placeOf38 fun without39 =>
      F_spec_front without39 key1 fun front41 =>
      k copyLists8Room copyLists8Target copyLists8Once front41 copyLists8WasOnce copyLists8WasOften true)
    (F_spec_isIn copyLists8WasOnce key1 fun isIn48 =>
      br isIn48
      (((copyLists8WasOnce.length : Int) ≠ 0 ∧ InR (Int.tdiv (copyLists8WasOften.length : Int) (copyLists8WasOnce.length : Int))) ∧
        InR (copyLists8Target + (if 1 < (Int.tdiv (copyLists8WasOften.length : Int) (copyLists8WasOnce.length : Int)) then (Int.tdiv (copyLists8WasOften.length : Int) (copyLists8WasOnce.length : Int)) else 1)) ∧
        F_spec_placeOf copyLists8WasOnce key1 fun placeOf69 =>
        F_spec_without copyLists8WasOnce placeOf69 fun without70 =>
        F_spec_isFull copyLists8Room (if (copyLists8Target + (if 1 < (Int.tdiv (copyLists8WasOften.length : Int) (copyLists8WasOnce.length : Int)) then (Int.tdiv (copyLists8WasOften.length : Int) (copyLists8WasOnce.length : Int)) else 1)) < copyLists8Room then (copyLists8Target + (if 1 < (Int.tdiv (copyLists8WasOften.length : Int) (copyLists8WasOnce.length : Int)) then (Int.tdiv (copyLists8WasOften.length : Int) (copyLists8WasOnce.length : Int)) else 1)) else copyLists8Room) copyLists8Once copyLists8Often without70 copyLists8WasOften fun isFull73 =>
        br isFull73
        (F_spec_makeRoom copyLists8Room (if (copyLists8Target + (if 1 < (Int.tdiv (copyLists8WasOften.length : Int) (copyLists8WasOnce.length : Int)) then (Int.tdiv (copyLists8WasOften.length : Int) (copyLists8WasOnce.length : Int)) else 1)) < copyLists8Room then (copyLists8Target + (if 1 < (Int.tdiv (copyLists8WasOften.length : Int) (copyLists8WasOnce.length : Int)) then (Int.tdiv (copyLists8WasOften.length : Int) (copyLists8WasOnce.length : Int)) else 1)) else copyLists8Room) copyLists8Once copyLists8Often without70 copyLists8WasOften false fun makeRoom75Room makeRoom75Target makeRoom75Once makeRoom75Often makeRoom75WasOnce makeRoom75WasOften =>
          F_spec_front makeRoom75Often key1 fun front79 =>
          k makeRoom75Room makeRoom75Target makeRoom75Once front79 makeRoom75WasOnce makeRoom75WasOften false)
        (F_spec_front copyLists8Often key1 fun front79 =>
          k copyLists8Room (if (copyLists8Target + (if 1 < (Int.tdiv (copyLists8WasOften.length : Int) (copyLists8WasOnce.length : Int)) then (Int.tdiv (copyLists8WasOften.length : Int) (copyLists8WasOnce.length : Int)) else 1)) < copyLists8Room then (copyLists8Target + (if 1 < (Int.tdiv (copyLists8WasOften.length : Int) (copyLists8WasOnce.length : Int)) then (Int.tdiv (copyLists8WasOften.length : Int) (copyLists8WasOnce.length : Int)) else 1)) else copyLists8Room) copyLists8Once front79 without70 copyLists8WasOften false))
      (F_spec_isIn copyLists8WasOften key1 fun isIn86 =>
        br isIn86
        (((copyLists8WasOften.length : Int) ≠ 0 ∧ InR (Int.tdiv (copyLists8WasOnce.length : Int) (copyLists8WasOften.length : Int))) ∧
          InR (copyLists8Target - (if 1 < (Int.tdiv (copyLists8WasOnce.length : Int) (copyLists8WasOften.length : Int)) then (Int.tdiv (copyLists8WasOnce.length : Int) (copyLists8WasOften.length : Int)) else 1)) ∧
          F_spec_placeOf copyLists8WasOften key1 fun placeOf105 =>
          F_spec_without copyLists8WasOften placeOf105 fun without106 =>
          F_spec_isFull copyLists8Room (if 0 < (copyLists8Target - (if 1 < (Int.tdiv (copyLists8WasOnce.length : Int) (copyLists8WasOften.length : Int)) then (Int.tdiv (copyLists8WasOnce.length : Int) (copyLists8WasOften.length : Int)) else 1)) then (copyLists8Target - (if 1 < (Int.tdiv (copyLists8WasOnce.length : Int) (copyLists8WasOften.length : Int)) then (Int.tdiv (copyLists8WasOnce.length : Int) (copyLists8WasOften.length : Int)) else 1)) else 0) copyLists8Once copyLists8Often copyLists8WasOnce without106 fun isFull109 =>
          br isFull109
          (F_spec_makeRoom copyLists8Room (if 0 < (copyLists8Target - (if 1 < (Int.tdiv (copyLists8WasOnce.length : Int) (copyLists8WasOften.length : Int)) then (Int.tdiv (copyLists8WasOnce.length : Int) (copyLists8WasOften.length : Int)) else 1)) then (copyLists8Target - (if 1 < (Int.tdiv (copyLists8WasOnce.length : Int) (copyLists8WasOften.length : Int)) then (Int.tdiv (copyLists8WasOnce.length : Int) (copyLists8WasOften.length : Int)) else 1)) else 0) copyLists8Once copyLists8Often copyLists8WasOnce without106 true fun makeRoom111Room makeRoom111Target makeRoom111Once makeRoom111Often makeRoom111WasOnce makeRoom111WasOften =>
            F_spec_front makeRoom111Often key1 fun front115 =>
            k makeRoom111Room makeRoom111Target makeRoom111Once front115 makeRoom111WasOnce makeRoom111WasOften false)
          (F_spec_front copyLists8Often key1 fun front115 =>
            k copyLists8Room (if 0 < (copyLists8Target - (if 1 < (Int.tdiv (copyLists8WasOnce.length : Int) (copyLists8WasOften.length : Int)) then (Int.tdiv (copyLists8WasOnce.length : Int) (copyLists8WasOften.length : Int)) else 1)) then (copyLists8Target - (if 1 < (Int.tdiv (copyLists8WasOnce.length : Int) (copyLists8WasOften.length : Int)) then (Int.tdiv (copyLists8WasOnce.length : Int) (copyLists8WasOften.length : Int)) else 1)) else 0) copyLists8Once front115 copyLists8WasOnce without106 false))
        (F_spec_fresh copyLists8Room copyLists8Target copyLists8Once copyLists8Often copyLists8WasOnce copyLists8WasOften key1 fun fresh120Room fresh120Target fresh120Once fresh120Often fresh120WasOnce fresh120WasOften =>
          k fresh120Room fresh120Target fresh120Once fresh120Often fresh120WasOnce fresh120WasOften false))))
theorem G_spec_adapt_eq (old0Room : Int) (old0Target : Int) (old0Once : List Int) (old0Often : List Int) (old0WasOnce : List Int) (old0WasOften : List Int) (key1 : Int) (k : Int → Int → List Int → List Int → List Int → List Int → Bool → Prop) : G_spec_adapt old0Room old0Target old0Once old0Often old0WasOnce old0WasOften key1 k = H_spec_adapt old0Room old0Target old0Once old0Often old0WasOnce old0WasOften key1 k := by
  simp only [G_spec_adapt, H_spec_adapt, G_spec_adapt_j0, G_spec_adapt_j1, G_spec_adapt_j2, G_spec_adapt_j3, G_spec_adapt_j4, G_spec_adapt_j5, G_spec_adapt_j6, G_spec_adapt_j7, G_spec_adapt_j8, G_spec_adapt_j9, G_spec_adapt_j10, G_spec_adapt_j11, G_spec_adapt_j12, G_spec_adapt_j13, G_spec_adapt_j14, G_spec_adapt_j15, G_spec_adapt_j16, G_spec_adapt_j17, G_spec_adapt_j18, G_spec_adapt_j19, and_self, and_true]
def S_spec_adapt (old0Room : Int) (old0Target : Int) (old0Once : List Int) (old0Often : List Int) (old0WasOnce : List Int) (old0WasOften : List Int) (key1 : Int) (k : Int → Int → List Int → List Int → List Int → List Int → Bool → Prop) : Prop := H_spec_adapt old0Room old0Target old0Once old0Often old0WasOnce old0WasOften key1 k
def F_spec_adapt (r t : Int) (o f wo wf : List Int) (key : Int) (k : Int → Int → List Int → List Int → List Int → List Int → Bool → Prop) : Prop :=
  VLists r ⟨t, o, f, wo, wf⟩ ∧ k r (adM r ⟨t, o, f, wo, wf⟩ key).1.t (adM r ⟨t, o, f, wo, wf⟩ key).1.o (adM r ⟨t, o, f, wo, wf⟩ key).1.f (adM r ⟨t, o, f, wo, wf⟩ key).1.wo (adM r ⟨t, o, f, wo, wf⟩ key).1.wf (adM r ⟨t, o, f, wo, wf⟩ key).2
theorem F_spec_adapt_S {r t : Int} {o f wo wf : List Int} {key : Int} {k : Int → Int → List Int → List Int → List Int → List Int → Bool → Prop} (h : F_spec_adapt r t o f wo wf key k) : S_spec_adapt r t o f wo wf key k := by
  obtain ⟨v, hk⟩ := h
  obtain ⟨l1, l2, l3, l4⟩ := lists_len v
  have r1 := v.room1
  have i1 := v.inc
  have tg := v.tgt
  have dis := v.dis
  simp only at l1 l2 l3 l4 i1 tg dis
  have nd : ∀ l : List Int, (∀ x, l.count x ≤ 1) → l.Nodup := fun l h => nodup_count.2 h
  have no := nd o fun x => by have := dis x; omega
  have nf := nd f fun x => by have := dis x; omega
  have nwo := nd wo fun x => by have := dis x; omega
  have nwf := nd wf fun x => by have := dis x; omega
  -- a key leaves its list
  have out : ∀ (l : List Int) (K : List Int → Prop), l.length ≤ 16 → l.Nodup → key ∈ l → ((rmK l key).length ≤ 16 → K (rmK l key)) → F_spec_placeOf l key fun p => F_spec_without l p K := by
    intro l K hl hn hm hK
    obtain ⟨j, j1, j2, _, j3⟩ := plc_pos hm
    refine ⟨by omega, ?_⟩
    rw [j3]
    refine ⟨⟨by omega, by omega, by omega⟩, ?_⟩
    rw [Int.toNat_natCast, rmK_erase hn j2]
    have := @rmK_le l key
    exact hK (by omega)
  -- room is made where the cache is full
  have fit : ∀ (was : Bool) (t : Int) (wo wf : List Int), wo.length ≤ 16 → wf.length ≤ 16 → (let b := fitL r was ⟨t, o, f, wo, wf⟩; k r b.t b.o (key :: b.f) b.wo b.wf false) →
      F_spec_isFull r t o f wo wf fun c => br c (F_spec_makeRoom r t o f wo wf was fun r t o f wo wf => F_spec_front f key fun f => k r t o f wo wf false) (F_spec_front f key fun f => k r t o f wo wf false) := by
    intro was t wo wf g1 g2 hk
    refine ⟨by omega, br_dec.2 ⟨fun hf => ⟨⟨by omega, by omega⟩, ?_⟩, fun hf => ⟨by omega, ?_⟩⟩⟩
    · rw [fitL, if_pos hf] at hk
      have := (mkRoom_len (was := was) (a := ⟨t, o, f, wo, wf⟩) (by simp only; omega)).2.1
      simp only at this
      exact ⟨by omega, hk⟩
    · rw [fitL, if_neg hf] at hk
      exact hk
  unfold adM at hk
  refine ⟨by omega, by omega, br_dec.2 ⟨fun m1 => ?_, fun m1 => ⟨by omega, br_dec.2 ⟨fun m2 => ?_, fun m2 => ⟨by omega, br_dec.2 ⟨fun m3 => ?_, fun m3 => ⟨by omega, br_dec.2 ⟨fun m4 => ?_, fun m4 => ?_⟩⟩⟩⟩⟩⟩⟩⟩
  · rw [if_pos m1] at hk
    exact out o _ (by omega) no m1 fun _ => ⟨by omega, hk⟩
  · rw [if_neg m1, if_pos m2] at hk
    exact out f _ (by omega) nf m2 fun _ => ⟨by omega, hk⟩
  · rw [if_neg m1, if_neg m2, if_pos m3] at hk
    have hp : 0 < wo.length := List.length_pos_of_mem m3
    have q1 : 0 ≤ Int.tdiv (wf.length : Int) wo.length := Int.tdiv_nonneg (by omega) (by omega)
    have q2 : Int.tdiv (wf.length : Int) wo.length ≤ wf.length := Int.tdiv_le_self _ (by omega)
    have q3 : 1 ≤ max1 (Int.tdiv (wf.length : Int) wo.length) ∧ max1 (Int.tdiv (wf.length : Int) wo.length) ≤ 16 := ⟨max1_pos _, by unfold max1; split <;> omega⟩
    refine ⟨⟨by omega, inR (by omega) (by omega)⟩, inR (show _ ≤ t + max1 _ by omega) (show t + max1 _ ≤ _ by omega), out wo _ (by omega) nwo m3 fun hl => fit false _ _ _ (by omega) (by omega) hk⟩
  · rw [if_neg m1, if_neg m2, if_neg m3, if_pos m4] at hk
    have hp : 0 < wf.length := List.length_pos_of_mem m4
    have q1 : 0 ≤ Int.tdiv (wo.length : Int) wf.length := Int.tdiv_nonneg (by omega) (by omega)
    have q2 : Int.tdiv (wo.length : Int) wf.length ≤ wo.length := Int.tdiv_le_self _ (by omega)
    have q3 : 1 ≤ max1 (Int.tdiv (wo.length : Int) wf.length) ∧ max1 (Int.tdiv (wo.length : Int) wf.length) ≤ 16 := ⟨max1_pos _, by unfold max1; split <;> omega⟩
    refine ⟨⟨by omega, inR (by omega) (by omega)⟩, inR (show _ ≤ t - max1 _ by omega) (show t - max1 _ ≤ _ by omega), out wf _ (by omega) nwf m4 fun hl => fit true _ _ _ (by omega) (by omega) hk⟩
  · rw [if_neg m1, if_neg m2, if_neg m3, if_neg m4] at hk
    exact ⟨v, hk⟩
-- spec.toInt
def G_spec_toInt (b0 : Bool) (k : Int → Prop) : Prop :=
  br b0
  (k 1)
  (k 0)
def S_spec_toInt (b0 : Bool) (k : Int → Prop) : Prop := G_spec_toInt b0 k
def F_spec_toInt (b : Bool) (k : Int → Prop) : Prop := k (toI b)
theorem F_spec_toInt_S {b : Bool} {k : Int → Prop} (h : F_spec_toInt b k) : S_spec_toInt b k := by
  cases b <;> exact h
-- spec.RunLists
def T0_spec_RunLists (t0 : List Int) (xn7 : Int) (xi8 : Int) (xb6c0 : Int) (xb6c1 : Int) (xb6c2 : List Int) (xb6c3 : List Int) (xb6c4 : List Int) (xb6c5 : List Int) (k : Int → Int → List Int → List Int → List Int → List Int → Int → Prop) (B0 : Int → Int → Int → Int → List Int → List Int → List Int → List Int → Prop) : Prop :=
  br (decide (xi8 < (t0.length : Int)))
  ((0 ≤ xi8 ∧ xi8 < (t0.length : Int)) ∧
    ((F_spec_adapt xb6c0 xb6c1 xb6c2 xb6c3 xb6c4 xb6c5 (List.getD t0 (Int.toNat xi8) (0 : Int)) fun adapt37Room adapt37Target adapt37Once adapt37Often adapt37WasOnce adapt37WasOften adapt37r1 =>
        (F_spec_toInt adapt37r1 fun toInt42 =>
          InR (xn7 + toInt42) ∧
          InR (xi8 + 1) ∧
          B0 (xn7 + toInt42) (xi8 + 1) adapt37Room adapt37Target adapt37Once adapt37Often adapt37WasOnce adapt37WasOften) ∧
        (True)) ∧
      (True)) ∧
    (True))
  (F_spec_copyLists xb6c0 xb6c1 xb6c2 xb6c3 xb6c4 xb6c5 fun copyLists45Room copyLists45Target copyLists45Once copyLists45Often copyLists45WasOnce copyLists45WasOften =>
    k copyLists45Room copyLists45Target copyLists45Once copyLists45Often copyLists45WasOnce copyLists45WasOften xn7)
def U0_spec_RunLists (t0 : List Int) (xn7 : Int) (xi8 : Int) (xb6c0 : Int) (xb6c1 : Int) (xb6c2 : List Int) (xb6c3 : List Int) (xb6c4 : List Int) (xb6c5 : List Int) (k : Int → Int → List Int → List Int → List Int → List Int → Int → Prop) (B0 : Int → Int → Int → Int → List Int → List Int → List Int → List Int → Prop) : Prop :=
  br (decide (xi8 < (t0.length : Int)))
  ((0 ≤ xi8 ∧ xi8 < (t0.length : Int)) ∧
    F_spec_adapt xb6c0 xb6c1 xb6c2 xb6c3 xb6c4 xb6c5 (List.getD t0 (Int.toNat xi8) (0 : Int)) fun adapt37Room adapt37Target adapt37Once adapt37Often adapt37WasOnce adapt37WasOften adapt37r1 =>
    F_spec_toInt adapt37r1 fun toInt42 =>
    InR (xn7 + toInt42) ∧
    InR (xi8 + 1) ∧
    B0 (xn7 + toInt42) (xi8 + 1) adapt37Room adapt37Target adapt37Once adapt37Often adapt37WasOnce adapt37WasOften)
  (F_spec_copyLists xb6c0 xb6c1 xb6c2 xb6c3 xb6c4 xb6c5 fun copyLists45Room copyLists45Target copyLists45Once copyLists45Often copyLists45WasOnce copyLists45WasOften =>
    k copyLists45Room copyLists45Target copyLists45Once copyLists45Often copyLists45WasOnce copyLists45WasOften xn7)
theorem T0_spec_RunLists_eq (t0 : List Int) (xn7 : Int) (xi8 : Int) (xb6c0 : Int) (xb6c1 : Int) (xb6c2 : List Int) (xb6c3 : List Int) (xb6c4 : List Int) (xb6c5 : List Int) (k : Int → Int → List Int → List Int → List Int → List Int → Int → Prop) (B0 : Int → Int → Int → Int → List Int → List Int → List Int → List Int → Prop) : T0_spec_RunLists t0 xn7 xi8 xb6c0 xb6c1 xb6c2 xb6c3 xb6c4 xb6c5 k B0 = U0_spec_RunLists t0 xn7 xi8 xb6c0 xb6c1 xb6c2 xb6c3 xb6c4 xb6c5 k B0 := by
  simp only [T0_spec_RunLists, U0_spec_RunLists, and_self, and_true]
def L0_spec_RunLists (t0 : List Int) (k : Int → Int → List Int → List Int → List Int → List Int → Int → Prop) : Nat → Int → Int → Int → Int → List Int → List Int → List Int → List Int → Prop
  | 0, _, _, _, _, _, _, _, _ => False
  | n + 1, xn7, xi8, xb6c0, xb6c1, xb6c2, xb6c3, xb6c4, xb6c5 => U0_spec_RunLists t0 xn7 xi8 xb6c0 xb6c1 xb6c2 xb6c3 xb6c4 xb6c5 k (L0_spec_RunLists t0 k n)
def G_spec_RunLists (t0 : List Int) (room1 : Int) (k : Int → Int → List Int → List Int → List Int → List Int → Int → Prop) (I0 : List Int → Int → Int → Int → Int → List Int → List Int → List Int → List Int → Prop) : Prop :=
  F_spec_validTrace t0 fun validTrace11 =>
  br (!validTrace11)
  (k 0 0 ([] : List Int) ([] : List Int) ([] : List Int) ([] : List Int) (-1))
  (F_spec_inRange room1 (1 : Int) (8 : Int) fun inRange15 =>
    br (!inRange15)
    (k 0 0 ([] : List Int) ([] : List Int) ([] : List Int) ([] : List Int) (-1))
    (I0 t0 0 0 room1 0 ([] : List Int) ([] : List Int) ([] : List Int) ([] : List Int)))
def S_spec_RunLists (t0 : List Int) (room1 : Int) (k : Int → Int → List Int → List Int → List Int → List Int → Int → Prop) : Prop := G_spec_RunLists t0 room1 k (fun t0 xn7 xi8 xb6c0 xb6c1 xb6c2 xb6c3 xb6c4 xb6c5 => ∃ j, L0_spec_RunLists t0 k j xn7 xi8 xb6c0 xb6c1 xb6c2 xb6c3 xb6c4 xb6c5)
def F_spec_RunLists (t : List Int) (room : Int) (k : Int → Int → List Int → List Int → List Int → List Int → Int → Prop) : Prop :=
  ((VTrace t ∧ 1 ≤ room ∧ room ≤ 8) → k room (runL room t ⟨0, [], [], [], []⟩ 0).1.t (runL room t ⟨0, [], [], [], []⟩ 0).1.o (runL room t ⟨0, [], [], [], []⟩ 0).1.f (runL room t ⟨0, [], [], [], []⟩ 0).1.wo (runL room t ⟨0, [], [], [], []⟩ 0).1.wf (runL room t ⟨0, [], [], [], []⟩ 0).2) ∧
  (¬ (VTrace t ∧ 1 ≤ room ∧ room ≤ 8) → k 0 0 [] [] [] [] (-1))
theorem F_spec_RunLists_S {t : List Int} {room : Int} {k : Int → Int → List Int → List Int → List Int → List Int → Int → Prop} (h : F_spec_RunLists t room k) : S_spec_RunLists t room k := by
  obtain ⟨hyes, hno⟩ := h
  intro b hb
  rw [br_not, br_iff]
  refine ⟨fun e => br_not.2 (br_dec.2 ⟨fun hr => ?_, fun hr => hno fun w => hr w.2⟩), fun e => hno fun v => by rw [hb.2 v.1] at e; cases e⟩
  have v := hb.1 e
  have hk := hyes ⟨v, hr⟩
  have t1 := v.1
  have t2 := v.2
  have key : ∀ (r : List Int) (i : Nat) (a : AL) (n : Int), t.drop i = r → VLists room a → 0 ≤ n → n ≤ i → (let q := runL room r a n; k room q.1.t q.1.o q.1.f q.1.wo q.1.wf q.2) → L0_spec_RunLists t k (r.length + 1) n (i : Int) room a.t a.o a.f a.wo a.wf := by
    intro r
    induction r with
    | nil =>
      intro i a n hdr v n0 n1 hk
      have := drop_nil' hdr
      obtain ⟨l1, l2, l3, l4⟩ := lists_len v
      rw [L0_spec_RunLists, U0_spec_RunLists]
      exact br_dec.2 ⟨fun h => by omega, fun _ => ⟨by omega, hk⟩⟩
    | cons x r ih =>
      intro i a n hdr v n0 n1 hk
      obtain ⟨h1, h2, h5, h3, h4⟩ := drop_cons' hdr
      have hx := t2 x (List.mem_of_getElem? h5)
      rw [List.length_cons, L0_spec_RunLists, U0_spec_RunLists]
      simp only [br_dec, Int.toNat_natCast, h2]
      have := toI_01 (adM room ⟨a.t, a.o, a.f, a.wo, a.wf⟩ x).2
      exact ⟨fun _ => ⟨⟨by omega, by omega⟩, v, inR (by omega) (by omega), inR (by omega) (by omega), ih (i + 1) _ _ h3 (adM_valid v hx) (by omega) (by omega) hk⟩, fun h => by omega⟩
  exact ⟨_, key t 0 ⟨0, [], [], [], []⟩ 0 rfl (lists0 hr (by omega)) (by omega) (by omega) hk⟩
-- laws.equalInts
def T0_laws_equalInts (a0 : List Int) (b1 : List Int) (xi5 : Int) (k : Bool → Prop) (B0 : Int → Prop) : Prop :=
  br (decide (xi5 < (a0.length : Int)))
  ((0 ≤ xi5 ∧ xi5 < (a0.length : Int)) ∧
    (0 ≤ xi5 ∧ xi5 < (b1.length : Int)) ∧
    br ((List.getD a0 (Int.toNat xi5) (0 : Int)) != (List.getD b1 (Int.toNat xi5) (0 : Int)))
    (k false)
    (InR (xi5 + 1) ∧
      B0 (xi5 + 1)))
  (k true)
def L0_laws_equalInts (a0 : List Int) (b1 : List Int) (k : Bool → Prop) : Nat → Int → Prop
  | 0, _ => False
  | n + 1, xi5 => T0_laws_equalInts a0 b1 xi5 k (L0_laws_equalInts a0 b1 k n)
def G_laws_equalInts (a0 : List Int) (b1 : List Int) (k : Bool → Prop) (I0 : List Int → List Int → Int → Prop) : Prop :=
  br ((a0.length : Int) != (b1.length : Int))
  (k false)
  (I0 a0 b1 0)
def S_laws_equalInts (a0 : List Int) (b1 : List Int) (k : Bool → Prop) : Prop := G_laws_equalInts a0 b1 k (fun a0 b1 xi5 => ∃ j, L0_laws_equalInts a0 b1 k j xi5)
def F_laws_equalInts (a b : List Int) (k : Bool → Prop) : Prop := a.length ≤ 1000000000 ∧ k (decide (a = b))
theorem F_laws_equalInts_S {a b : List Int} {k : Bool → Prop} (h : F_laws_equalInts a b k) : S_laws_equalInts a b k := by
  obtain ⟨hl, hk⟩ := h
  refine br_bne.2 ⟨fun he => by rwa [decide_eq_false (fun e => he (by rw [e]))] at hk, fun he => ?_⟩
  have he : a.length = b.length := by omega
  have key : ∀ (r : List Int) (i : Nat), a.drop i = r → (r = b.drop i ↔ a = b) → L0_laws_equalInts a b k (r.length + 1) (i : Int) := by
    intro r
    induction r with
    | nil =>
      intro i hd hi
      have := drop_nil' hd
      rw [L0_laws_equalInts, T0_laws_equalInts]
      simp only [br_dec]
      exact ⟨fun h => by omega, fun _ => by rwa [decide_eq_true (hi.1 (List.drop_eq_nil_of_le (by omega)).symm)] at hk⟩
    | cons x r ih =>
      intro i hd hi
      obtain ⟨h1, h2, _, h3, _⟩ := drop_cons' hd
      obtain ⟨y, s, hs⟩ : ∃ y s, b.drop i = y :: s := by
        cases e : b.drop i with
        | nil => have := drop_nil' e; omega
        | cons y s => exact ⟨y, s, rfl⟩
      obtain ⟨g1, g2, _, g3, _⟩ := drop_cons' hs
      rw [List.length_cons, L0_laws_equalInts, T0_laws_equalInts]
      simp only [br_dec, br_bne, Int.toNat_natCast, h2, g2]
      rw [hs] at hi
      refine ⟨fun _ => ⟨⟨by omega, by omega⟩, ⟨by omega, by omega⟩, ?_⟩, fun h => by omega⟩
      have go : x = y → L0_laws_equalInts a b k (r.length + 1) ((i : Int) + 1) := fun hx => ih (i + 1) h3 (by rw [g3, ← hi, hx]; simp)
      have no : x ≠ y → k false := fun hx => by rwa [decide_eq_false (fun e => hx (List.cons.inj (hi.2 e)).1)] at hk
      exact ⟨no, fun hx => ⟨inR (by omega) (by omega), go hx⟩⟩
  exact ⟨_, key a 0 rfl (by simp)⟩
-- laws.equalAdaptive
def G_laws_equalAdaptive (a0Room : Int) (a0Target : Int) (a0Once : List Int) (a0Often : List Int) (a0WasOnce : List Int) (a0WasOften : List Int) (b1Room : Int) (b1Target : Int) (b1Once : List Int) (b1Often : List Int) (b1WasOnce : List Int) (b1WasOften : List Int) (k : Bool → Prop) : Prop :=
  br (a0Room == b1Room)
  (br (a0Target == b1Target)
    (F_laws_equalInts a0Once b1Once fun equalInts22 =>
      br equalInts22
      (F_laws_equalInts a0Often b1Often fun equalInts29 =>
        br equalInts29
        (F_laws_equalInts a0WasOnce b1WasOnce fun equalInts36 =>
          br equalInts36
          (F_laws_equalInts a0WasOften b1WasOften fun equalInts43 =>
            k equalInts43)
          (k false))
        (k false))
      (k false))
    (k false))
  (k false)
def S_laws_equalAdaptive (a0Room : Int) (a0Target : Int) (a0Once : List Int) (a0Often : List Int) (a0WasOnce : List Int) (a0WasOften : List Int) (b1Room : Int) (b1Target : Int) (b1Once : List Int) (b1Often : List Int) (b1WasOnce : List Int) (b1WasOften : List Int) (k : Bool → Prop) : Prop := G_laws_equalAdaptive a0Room a0Target a0Once a0Often a0WasOnce a0WasOften b1Room b1Target b1Once b1Often b1WasOnce b1WasOften k
def F_laws_equalAdaptive (r t : Int) (o f wo wf : List Int) (r' t' : Int) (o' f' wo' wf' : List Int) (k : Bool → Prop) : Prop :=
  (o.length ≤ 1000000000 ∧ f.length ≤ 1000000000 ∧ wo.length ≤ 1000000000 ∧ wf.length ≤ 1000000000) ∧ ∀ b : Bool, (b = true ↔ r = r' ∧ t = t' ∧ o = o' ∧ f = f' ∧ wo = wo' ∧ wf = wf') → k b
theorem F_laws_equalAdaptive_S {r t : Int} {o f wo wf : List Int} {r' t' : Int} {o' f' wo' wf' : List Int} {k : Bool → Prop} (h : F_laws_equalAdaptive r t o f wo wf r' t' o' f' wo' wf' k) : S_laws_equalAdaptive r t o f wo wf r' t' o' f' wo' wf' k := by
  obtain ⟨⟨l1, l2, l3, l4⟩, hk⟩ := h
  refine br_beq.2 ⟨fun e1 => br_beq.2 ⟨fun e2 => ⟨l1, br_dec.2 ⟨fun e3 => ⟨l2, br_dec.2 ⟨fun e4 => ⟨l3, br_dec.2 ⟨fun e5 => ⟨l4, hk _ (by simp [e1, e2, e3, e4, e5])⟩, fun e5 => hk _ (by simp [e5])⟩⟩, fun e4 => hk _ (by simp [e4])⟩⟩, fun e3 => hk _ (by simp [e3])⟩⟩, fun e2 => hk _ (by simp [e2])⟩, fun e1 => hk _ (by simp [e1])⟩
theorem equalAdaptive_same {r t : Int} {o f wo wf : List Int} {k : Bool → Prop} (l : o.length ≤ 1000000000 ∧ f.length ≤ 1000000000 ∧ wo.length ≤ 1000000000 ∧ wf.length ≤ 1000000000) (h : k true) : F_laws_equalAdaptive r t o f wo wf r t o f wo wf k :=
  ⟨l, all_t ⟨rfl, rfl, rfl, rfl, rfl, rfl⟩ h⟩
-- impl.NewKeys
def T0_impl_NewKeys (t0 : List Int) (xt10 : Int) (xcount3 : Int) (xt11 : Int) (k : Int → Prop) (B0 : Int → Int → Prop) : Prop :=
  br (decide (xt11 < xt10))
  ((0 ≤ xt11 ∧ xt11 < (t0.length : Int)) ∧
    (0 ≤ xt11 ∧ xt11 ≤ (t0.length : Int)) ∧
    F_slices_Contains_sint_int (List.take (Int.toNat xt11) t0) (List.getD t0 (Int.toNat xt11) (0 : Int)) fun contains20 =>
    br (!contains20)
    (InR (xcount3 + 1) ∧
      InR (xt11 + 1) ∧
      B0 (xcount3 + 1) (xt11 + 1))
    (InR (xt11 + 1) ∧
      B0 xcount3 (xt11 + 1)))
  (k xcount3)
def L0_impl_NewKeys (t0 : List Int) (xt10 : Int) (k : Int → Prop) : Nat → Int → Int → Prop
  | 0, _, _ => False
  | n + 1, xcount3, xt11 => T0_impl_NewKeys t0 xt10 xcount3 xt11 k (L0_impl_NewKeys t0 xt10 k n)
def G_impl_NewKeys (t0 : List Int) (k : Int → Prop) (I0 : List Int → Int → Int → Int → Prop) : Prop :=
  F_impl_ValidTrace t0 fun validTrace7 =>
  br (!validTrace7)
  (k (-1))
  (I0 t0 (t0.length : Int) 0 0)
def S_impl_NewKeys (t0 : List Int) (k : Int → Prop) : Prop := G_impl_NewKeys t0 k (fun t0 xt10 xcount3 xt11 => ∃ j, L0_impl_NewKeys t0 xt10 k j xcount3 xt11)
def F_impl_NewKeys (t : List Int) (k : Int → Prop) : Prop := (VTrace t → k (nk t : Int)) ∧ (¬ (VTrace t) → k (-1))
theorem F_impl_NewKeys_S {t : List Int} {k : Int → Prop} (h : F_impl_NewKeys t k) : S_impl_NewKeys t k := by
  obtain ⟨hyes, hno⟩ := h
  intro b hb
  refine br_not.2 (br_iff.2 ⟨fun e => ?_, fun e => hno fun w => by rw [hb.2 w] at e; cases e⟩)
  have v := hb.1 e
  have hk := hyes v
  have hl := v.1
  have go : ∀ (m i : Nat), i + m = t.length → L0_impl_NewKeys t (t.length : Int) k (m + 1) (nk (t.take i) : Int) (i : Int) := by
    intro m
    induction m with
    | zero =>
      intro i hi
      rw [show t.take i = t from List.take_of_length_le (by omega), L0_impl_NewKeys, T0_impl_NewKeys]
      exact br_dec.2 ⟨fun h => by omega, fun _ => hk⟩
    | succ m ih =>
      intro i hi
      have := nk_le (t.take i)
      rw [List.length_take] at this
      have next := ih (i + 1) (by omega)
      rw [take_get (by omega), nk_snoc] at next
      rw [L0_impl_NewKeys, T0_impl_NewKeys]
      simp only [Int.toNat_natCast]
      refine br_yd (by omega) ⟨⟨by omega, by omega⟩, ⟨by omega, by omega⟩, by rw [List.length_take]; omega, br_not.2 (br_dec.2 ⟨fun hm => ?_, fun hm => ?_⟩)⟩
      · rw [if_pos hm] at next; exact ⟨inR (by omega) (by omega), next⟩
      · rw [if_neg hm] at next; exact ⟨inR (by omega) (by omega), inR (by omega) (by omega), next⟩
  exact ⟨_, go t.length 0 (by omega)⟩
-- impl.CachedKeys
def G_impl_CachedKeys (a0Room : Int) (a0Target : Int) (a0Once : List Int) (a0Often : List Int) (a0WasOnce : List Int) (a0WasOften : List Int) (k : List Int → Prop) : Prop :=
  F_impl_ValidLists a0Room a0Target a0Once a0Often a0WasOnce a0WasOften fun validLists4 =>
  br (!validLists4)
  (k ([] : List Int))
  (F_slices_Concat_sint_int ([a0Once, a0Often] : List (List Int)) fun concat11 =>
    k concat11)
def S_impl_CachedKeys (a0Room : Int) (a0Target : Int) (a0Once : List Int) (a0Often : List Int) (a0WasOnce : List Int) (a0WasOften : List Int) (k : List Int → Prop) : Prop := G_impl_CachedKeys a0Room a0Target a0Once a0Often a0WasOnce a0WasOften k
def F_impl_CachedKeys (r t : Int) (o f wo wf : List Int) (k : List Int → Prop) : Prop :=
  (o.length ≤ 100000000 ∧ f.length ≤ 100000000 ∧ wo.length ≤ 100000000 ∧ wf.length ≤ 100000000) ∧
  (VLists r ⟨t, o, f, wo, wf⟩ → k (o ++ f)) ∧ (¬ VLists r ⟨t, o, f, wo, wf⟩ → k [])
theorem F_impl_CachedKeys_S {r t : Int} {o f wo wf : List Int} {k : List Int → Prop} (h : F_impl_CachedKeys r t o f wo wf k) : S_impl_CachedKeys r t o f wo wf k := by
  obtain ⟨hl, hyes, hno⟩ := h
  refine ⟨hl, ?_⟩
  intro b hb
  refine br_not.2 (br_iff.2 ⟨fun e => ?_, fun e => hno fun w => by rw [hb.2 w] at e; cases e⟩)
  have e1 : ([o, f] : List (List Int)).flatten = o ++ f := by simp
  refine ⟨⟨by simp, by rw [e1]; simp; omega⟩, ?_⟩
  rw [e1]
  exact hyes (hb.1 e)
-- laws.FnRunListsSmall
def G_laws_FnRunListsSmall_j0 (runLists20Often : List Int) (runLists20Once : List Int) (runLists20Room : Int) (runLists20Target : Int) (runLists20WasOften : List Int) (runLists20WasOnce : List Int) (runLists20r1 : Int) (runLists26Often : List Int) (runLists26Once : List Int) (runLists26Room : Int) (runLists26Target : Int) (runLists26WasOften : List Int) (runLists26WasOnce : List Int) (runLists26r1 : Int) (k : Bool → Prop) : Prop :=
  F_laws_equalAdaptive runLists20Room runLists20Target runLists20Once runLists20Often runLists20WasOnce runLists20WasOften runLists26Room runLists26Target runLists26Once runLists26Often runLists26WasOnce runLists26WasOften fun equalAdaptive50 =>
  br equalAdaptive50
  (k (runLists20r1 == runLists26r1))
  (k false)
def G_laws_FnRunListsSmall (code0 : List Int) (k : Bool → Prop) : Prop :=
  br (decide ((code0.length : Int) > 1048576))
  (k true)
  (F_spec_DrawRunLists code0 fun drawRunLists14r0 drawRunLists14r1 =>
    F_impl_RunLists drawRunLists14r0 drawRunLists14r1 fun runLists20Room runLists20Target runLists20Once runLists20Often runLists20WasOnce runLists20WasOften runLists20r1 =>
    F_spec_RunLists drawRunLists14r0 drawRunLists14r1 fun runLists26Room runLists26Target runLists26Once runLists26Often runLists26WasOnce runLists26WasOften runLists26r1 =>
    F_laws_equalAdaptive runLists20Room runLists20Target runLists20Once runLists20Often runLists20WasOnce runLists20WasOften runLists26Room runLists26Target runLists26Once runLists26Often runLists26WasOnce runLists26WasOften fun equalAdaptive31 =>
    br (!equalAdaptive31)
    (G_laws_FnRunListsSmall_j0 runLists20Often runLists20Once runLists20Room runLists20Target runLists20WasOften runLists20WasOnce runLists20r1 runLists26Often runLists26Once runLists26Room runLists26Target runLists26WasOften runLists26WasOnce runLists26r1 k)
    (br (runLists20r1 != runLists26r1)
      (G_laws_FnRunListsSmall_j0 runLists20Often runLists20Once runLists20Room runLists20Target runLists20WasOften runLists20WasOnce runLists20r1 runLists26Often runLists26Once runLists26Room runLists26Target runLists26WasOften runLists26WasOnce runLists26r1 k)
      (br (decide (runLists20r1 < 0))
        (G_laws_FnRunListsSmall_j0 runLists20Often runLists20Once runLists20Room runLists20Target runLists20WasOften runLists20WasOnce runLists20r1 runLists26Often runLists26Once runLists26Room runLists26Target runLists26WasOften runLists26WasOnce runLists26r1 k)
        (F_impl_NewKeys drawRunLists14r0 fun newKeys44 =>
          br (decide (newKeys44 > drawRunLists14r1))
          (G_laws_FnRunListsSmall_j0 runLists20Often runLists20Once runLists20Room runLists20Target runLists20WasOften runLists20WasOnce runLists20r1 runLists26Often runLists26Once runLists26Room runLists26Target runLists26WasOften runLists26WasOnce runLists26r1 k)
          (F_impl_NewKeys drawRunLists14r0 fun newKeys60 =>
            InR ((drawRunLists14r0.length : Int) - newKeys60) ∧
            br (runLists20r1 == ((drawRunLists14r0.length : Int) - newKeys60))
            (F_impl_CachedKeys runLists20Room runLists20Target runLists20Once runLists20Often runLists20WasOnce runLists20WasOften fun cachedKeys65 =>
              F_impl_NewKeys drawRunLists14r0 fun newKeys68 =>
              br ((cachedKeys65.length : Int) == newKeys68)
              (k (runLists20Target == 0))
              (k false))
            (k false))))))
def S_laws_FnRunListsSmall (code0 : List Int) (k : Bool → Prop) : Prop := G_laws_FnRunListsSmall code0 k
abbrev F_laws_FnRunListsSmall (code0 : List Int) (k : Bool → Prop) : Prop := S_laws_FnRunListsSmall code0 k
theorem F_laws_FnRunListsSmall_S {code0 : List Int} {k : Bool → Prop} (h : F_laws_FnRunListsSmall code0 k) : S_laws_FnRunListsSmall code0 k := h
theorem law_FnRunListsSmall (code : List Int) (hb : ∀ x ∈ code, 0 ≤ x ∧ x ≤ 255) : F_laws_FnRunListsSmall code (fun r => r = true) := by
  refine br_dec.2 ⟨fun _ => rfl, fun hlen => ⟨hb, fun t room l1 => ?_⟩⟩
  by_cases v : VTrace t ∧ 1 ≤ room ∧ room ≤ 8
  · have a := runL_facts v.1 v.2
    have hv := (runL_valid t ⟨0, [], [], [], []⟩ 0 (lists0 v.2 (by omega)) v.1.2).1
    have hl := lists_len hv
    have hp := a.pos
    have ht := v.1.1
    have hk := nk_le t
    refine yes v (yes v (equalAdaptive_same (by omega) (br_nt (br_same' (br_nd (by omega) (yes v.1 (br_dec.2 ⟨fun _ => equalAdaptive_same (by omega) (beq_t rfl), fun h => ?_⟩)))))))
    have hs := runL_small t ⟨0, [], [], [], []⟩ 0 [] (lists0 v.2 (by omega)) v.1.2 rfl rfl (by simp) (by simp) (by have : (usedR [] t).length = nk t := rfl; omega)
    have h2 := a.fit (by omega)
    refine yes v.1 ⟨inR (by omega) (by omega), br_ye (by omega) ⟨by omega, yes hv (yes v.1 (br_ye ?_ (beq_t hs.2.2)))⟩⟩
    have := a.full; have := a.keys; have := a.len
    have := a.new
    rw [List.length_append] at *
    rcases a.full with g | g
    · rw [List.length_append] at g; omega
    · rw [List.length_append] at g; omega
  · exact nay v (nay v (equalAdaptive_same (by simp) (br_nt (br_same' (br_yd (by omega) (equalAdaptive_same (by simp) rfl))))))
end Go.Ev
