/- What the functions that the law reaches do, written as plain Lean. No statement is proved here. -/
import Derived.Test.YthdedjemjjcjhabFnCachedKeysP0
namespace Go.Ev
set_option linter.unusedVariables false
open Go
def F_spec_validLists (r t : Int) (o f wo wf : List Int) (k : Bool → Prop) : Prop :=
  (o.length ≤ 100000000 ∧ f.length ≤ 100000000 ∧ wo.length ≤ 100000000 ∧ wf.length ≤ 100000000) ∧ ∀ b : Bool, (b = true ↔ VLists r ⟨t, o, f, wo, wf⟩) → k b
theorem F_spec_validLists_S {r t : Int} {o f wo wf : List Int} {k : Bool → Prop} (h : F_spec_validLists r t o f wo wf k) : S_spec_validLists r t o f wo wf k := by
  obtain ⟨⟨h1, h2, h3, h4⟩, hk⟩ := h
  have no : ¬ VLists r ⟨t, o, f, wo, wf⟩ → k false := fun hv => hk false (by simp [hv])
  refine br_not.2 (br_dec.2 ⟨fun g1 => br_not.2 (br_dec.2 ⟨fun g2 => ⟨⟨⟨h1, h2, h3, h4⟩, g1⟩, br_not.2 (br_dec.2 ⟨fun g3 => ⟨by omega, by omega, by simp; omega, by simp; omega, by simp; omega, br_dec.2 ⟨fun g4 => ⟨by simp; omega, hk _ ?_⟩, fun g4 => no fun v => g4 (D4_nodup.2 v.dis)⟩⟩, fun g3 => no fun v => g3 ⟨v.inc, v.onc, v.tot⟩⟩)⟩, fun g2 => no fun v => g2 v.tgt⟩), fun g1 => no fun v => g1 v.room1⟩)
  rw [decide_eq_true_iff]
  have e : ∀ x, x ∈ ((o ++ f) ++ wo) ++ wf ↔ (x ∈ o ∨ x ∈ f ∨ x ∈ wo ∨ x ∈ wf) := fun x => by simp [List.mem_append, or_assoc]
  exact ⟨fun h => ⟨g1, g2, g3.1, g3.2.1, g3.2.2, D4_nodup.1 g4, fun x hx => h x ((e x).2 hx)⟩, fun v x hx => v.rng x ((e x).1 hx)⟩
-- spec.CachedKeys
def G_spec_CachedKeys (a0Room : Int) (a0Target : Int) (a0Once : List Int) (a0Often : List Int) (a0WasOnce : List Int) (a0WasOften : List Int) (k : List Int → Prop) : Prop :=
  F_spec_validLists a0Room a0Target a0Once a0Often a0WasOnce a0WasOften fun validLists4 =>
  br (!validLists4)
  (k ([] : List Int))
  ((F_spec_copyInts a0Once fun copyInts8 =>
      ((copyInts8.length + a0Often.length ≤ 1000000000) ∧
        k (copyInts8 ++ a0Often)) ∧
      (True)) ∧
    (True))
def H_spec_CachedKeys (a0Room : Int) (a0Target : Int) (a0Once : List Int) (a0Often : List Int) (a0WasOnce : List Int) (a0WasOften : List Int) (k : List Int → Prop) : Prop :=
  F_spec_validLists a0Room a0Target a0Once a0Often a0WasOnce a0WasOften fun validLists4 =>
  br (!validLists4)
  (k ([] : List Int))
  (F_spec_copyInts a0Once fun copyInts8 =>
    (copyInts8.length + a0Often.length ≤ 1000000000) ∧
    k (copyInts8 ++ a0Often))
theorem G_spec_CachedKeys_eq (a0Room : Int) (a0Target : Int) (a0Once : List Int) (a0Often : List Int) (a0WasOnce : List Int) (a0WasOften : List Int) (k : List Int → Prop) : G_spec_CachedKeys a0Room a0Target a0Once a0Often a0WasOnce a0WasOften k = H_spec_CachedKeys a0Room a0Target a0Once a0Often a0WasOnce a0WasOften k := by
  simp only [G_spec_CachedKeys, H_spec_CachedKeys, and_self, and_true]
def S_spec_CachedKeys (a0Room : Int) (a0Target : Int) (a0Once : List Int) (a0Often : List Int) (a0WasOnce : List Int) (a0WasOften : List Int) (k : List Int → Prop) : Prop := H_spec_CachedKeys a0Room a0Target a0Once a0Often a0WasOnce a0WasOften k
def F_spec_CachedKeys (r t : Int) (o f wo wf : List Int) (k : List Int → Prop) : Prop :=
  (o.length ≤ 100000000 ∧ f.length ≤ 100000000 ∧ wo.length ≤ 100000000 ∧ wf.length ≤ 100000000) ∧
  (VLists r ⟨t, o, f, wo, wf⟩ → k (o ++ f)) ∧ (¬ VLists r ⟨t, o, f, wo, wf⟩ → k [])
theorem F_spec_CachedKeys_S {r t : Int} {o f wo wf : List Int} {k : List Int → Prop} (h : F_spec_CachedKeys r t o f wo wf k) : S_spec_CachedKeys r t o f wo wf k := by
  obtain ⟨hl, hyes, hno⟩ := h
  refine ⟨hl, ?_⟩
  intro b hb
  rw [br_not, br_iff]
  exact ⟨fun e => ⟨by omega, by omega, hyes (hb.1 e)⟩, fun e => hno fun w => by rw [hb.2 w] at e; cases e⟩
-- laws.equalInts
def T0_laws_equalInts (a0 : List Int) (b1 : List Int) (xi5 : Int) (k : Bool → Prop) (B0 : Int → Prop) : Prop :=
  br (decide (xi5 < (a0.length : Int)))
  ((0 ≤ xi5 ∧ xi5 < (a0.length : Int)) ∧
    (0 ≤ xi5 ∧ xi5 < (b1.length : Int)) ∧
    br ((List.getD a0 (Int.toNat xi5) (0 : Int)) != (List.getD b1 (Int.toNat xi5) (0 : Int)))
    (k false)
    (InR (xi5 + 1) ∧
      B0 (xi5 + 1)))
  (k true)
def L0_laws_equalInts (a0 : List Int) (b1 : List Int) (k : Bool → Prop) : Nat → Int → Prop
  | 0, _ => False
  | n + 1, xi5 => T0_laws_equalInts a0 b1 xi5 k (L0_laws_equalInts a0 b1 k n)
def G_laws_equalInts (a0 : List Int) (b1 : List Int) (k : Bool → Prop) (I0 : List Int → List Int → Int → Prop) : Prop :=
  br ((a0.length : Int) != (b1.length : Int))
  (k false)
  (I0 a0 b1 0)
def S_laws_equalInts (a0 : List Int) (b1 : List Int) (k : Bool → Prop) : Prop := G_laws_equalInts a0 b1 k (fun a0 b1 xi5 => ∃ j, L0_laws_equalInts a0 b1 k j xi5)
def F_laws_equalInts (a b : List Int) (k : Bool → Prop) : Prop := a.length ≤ 1000000000 ∧ k (decide (a = b))
theorem F_laws_equalInts_S {a b : List Int} {k : Bool → Prop} (h : F_laws_equalInts a b k) : S_laws_equalInts a b k := by
  obtain ⟨hl, hk⟩ := h
  refine br_bne.2 ⟨fun he => by rwa [decide_eq_false (fun e => he (by rw [e]))] at hk, fun he => ?_⟩
  have he : a.length = b.length := by omega
  have key : ∀ (r : List Int) (i : Nat), a.drop i = r → (r = b.drop i ↔ a = b) → L0_laws_equalInts a b k (r.length + 1) (i : Int) := by
    intro r
    induction r with
    | nil =>
      intro i hd hi
      have := drop_nil' hd
      rw [L0_laws_equalInts, T0_laws_equalInts]
      simp only [br_dec]
      exact ⟨fun h => by omega, fun _ => by rwa [decide_eq_true (hi.1 (List.drop_eq_nil_of_le (by omega)).symm)] at hk⟩
    | cons x r ih =>
      intro i hd hi
      obtain ⟨h1, h2, _, h3, _⟩ := drop_cons' hd
      obtain ⟨y, s, hs⟩ : ∃ y s, b.drop i = y :: s := by
        cases e : b.drop i with
        | nil => have := drop_nil' e; omega
        | cons y s => exact ⟨y, s, rfl⟩
      obtain ⟨g1, g2, _, g3, _⟩ := drop_cons' hs
      rw [List.length_cons, L0_laws_equalInts, T0_laws_equalInts]
      simp only [br_dec, br_bne, Int.toNat_natCast, h2, g2]
      rw [hs] at hi
      refine ⟨fun _ => ⟨⟨by omega, by omega⟩, ⟨by omega, by omega⟩, ?_⟩, fun h => by omega⟩
      have go : x = y → L0_laws_equalInts a b k (r.length + 1) ((i : Int) + 1) := fun hx => ih (i + 1) h3 (by rw [g3, ← hi, hx]; simp)
      have no : x ≠ y → k false := fun hx => by rwa [decide_eq_false (fun e => hx (List.cons.inj (hi.2 e)).1)] at hk
      exact ⟨no, fun hx => ⟨inR (by omega) (by omega), go hx⟩⟩
  exact ⟨_, key a 0 rfl (by simp)⟩
-- laws.howOften
def T0_laws_howOften (list0 : List Int) (n1 : Int) (xk5 : Int) (xi6 : Int) (k : Int → Prop) (B0 : Int → Int → Prop) : Prop :=
  br (decide (xi6 < (list0.length : Int)))
  ((0 ≤ xi6 ∧ xi6 < (list0.length : Int)) ∧
    br ((List.getD list0 (Int.toNat xi6) (0 : Int)) == n1)
    (InR (xk5 + 1) ∧
      InR (xi6 + 1) ∧
      B0 (xk5 + 1) (xi6 + 1))
    (InR (xi6 + 1) ∧
      B0 xk5 (xi6 + 1)))
  (k xk5)
def L0_laws_howOften (list0 : List Int) (n1 : Int) (k : Int → Prop) : Nat → Int → Int → Prop
  | 0, _, _ => False
  | n + 1, xk5, xi6 => T0_laws_howOften list0 n1 xk5 xi6 k (L0_laws_howOften list0 n1 k n)
def G_laws_howOften (list0 : List Int) (n1 : Int) (I0 : List Int → Int → Int → Int → Prop) : Prop :=
  I0 list0 n1 0 0
def S_laws_howOften (list0 : List Int) (n1 : Int) (k : Int → Prop) : Prop := G_laws_howOften list0 n1 (fun list0 n1 xk5 xi6 => ∃ j, L0_laws_howOften list0 n1 k j xk5 xi6)
def F_laws_howOften (l : List Int) (n : Int) (k : Int → Prop) : Prop := l.length ≤ 1000000000 ∧ k (l.count n : Int)
theorem F_laws_howOften_S {l : List Int} {n : Int} {k : Int → Prop} (h : F_laws_howOften l n k) : S_laws_howOften l n k := by
  obtain ⟨hl, hk⟩ := h
  have key : ∀ (r : List Int) (i c : Nat), l.drop i = r → c ≤ i → c + r.count n = l.count n → L0_laws_howOften l n k (r.length + 1) (c : Int) (i : Int) := by
    intro r
    induction r with
    | nil =>
      intro i c hd hc he
      have := drop_nil' hd
      rw [L0_laws_howOften, T0_laws_howOften]
      simp only [br_dec]
      refine ⟨fun h => by omega, fun _ => ?_⟩
      have : c = l.count n := by simpa using he
      rw [this]; exact hk
    | cons x r ih =>
      intro i c hd hc he
      obtain ⟨h1, h2, _, h3, _⟩ := drop_cons' hd
      rw [List.count_cons] at he
      rw [List.length_cons, L0_laws_howOften, T0_laws_howOften]
      simp only [br_dec, br_beq, Int.toNat_natCast, h2]
      refine ⟨fun _ => ⟨⟨by omega, by omega⟩, fun hx => ⟨inR (by omega) (by omega), inR (by omega) (by omega), ?_⟩, fun hx => ⟨inR (by omega) (by omega), ?_⟩⟩, fun h => by omega⟩
      · rw [if_pos (by simpa using hx)] at he
        exact ih (i + 1) (c + 1) h3 (by omega) (by omega)
      · rw [if_neg (by simpa using hx)] at he
        exact ih (i + 1) c h3 (by omega) (by omega)
  exact ⟨_, key l 0 0 rfl (by omega) (by simp)⟩
-- laws.isIn
def T0_laws_isIn (list0 : List Int) (n1 : Int) (xi5 : Int) (k : Bool → Prop) (B0 : Int → Prop) : Prop :=
  br (decide (xi5 < (list0.length : Int)))
  ((0 ≤ xi5 ∧ xi5 < (list0.length : Int)) ∧
    br ((List.getD list0 (Int.toNat xi5) (0 : Int)) == n1)
    (k true)
    (InR (xi5 + 1) ∧
      B0 (xi5 + 1)))
  (k false)
def L0_laws_isIn (list0 : List Int) (n1 : Int) (k : Bool → Prop) : Nat → Int → Prop
  | 0, _ => False
  | n + 1, xi5 => T0_laws_isIn list0 n1 xi5 k (L0_laws_isIn list0 n1 k n)
def G_laws_isIn (list0 : List Int) (n1 : Int) (I0 : List Int → Int → Int → Prop) : Prop :=
  I0 list0 n1 0
def S_laws_isIn (list0 : List Int) (n1 : Int) (k : Bool → Prop) : Prop := G_laws_isIn list0 n1 (fun list0 n1 xi5 => ∃ j, L0_laws_isIn list0 n1 k j xi5)
def F_laws_isIn (l : List Int) (n : Int) (k : Bool → Prop) : Prop := l.length ≤ 1000000000 ∧ k (decide (n ∈ l))
theorem F_laws_isIn_S {l : List Int} {n : Int} {k : Bool → Prop} (h : F_laws_isIn l n k) : S_laws_isIn l n k := by
  obtain ⟨hl, hk⟩ := h
  have key : ∀ (r : List Int) (i : Nat), l.drop i = r → (n ∈ r ↔ n ∈ l) → L0_laws_isIn l n k (r.length + 1) (i : Int) := by
    intro r
    induction r with
    | nil =>
      intro i hd he
      have := drop_nil' hd
      rw [L0_laws_isIn, T0_laws_isIn]
      simp only [br_dec]
      exact ⟨fun h => by omega, fun _ => by rwa [decide_eq_false (fun h => absurd (he.2 h) (by simp))] at hk⟩
    | cons x r ih =>
      intro i hd he
      obtain ⟨h1, h2, h5, h3, _⟩ := drop_cons' hd
      rw [List.length_cons, L0_laws_isIn, T0_laws_isIn]
      simp only [br_dec, br_beq, Int.toNat_natCast, h2]
      refine ⟨fun _ => ⟨⟨by omega, by omega⟩, fun hx => ?_, fun hx => ⟨inR (by omega) (by omega), ih (i + 1) h3 (Iff.trans ?_ he)⟩⟩, fun h => by omega⟩
      · rwa [decide_eq_true (he.1 (by simp [hx]))] at hk
      · simp [Ne.symm hx]
  exact ⟨_, key l 0 rfl Iff.rfl⟩
-- laws.FnCachedKeys
def T0_laws_FnCachedKeys_j0 (k : Bool → Prop) : Prop :=
  (k false) ∧
  (True)
def T0_laws_FnCachedKeys_j1 (k : Bool → Prop) : Prop :=
  (T0_laws_FnCachedKeys_j0 k) ∧
  (True)
def T0_laws_FnCachedKeys (cachedKeys13 : List Int) (drawCachedKeys11Often : List Int) (drawCachedKeys11Once : List Int) (drawCachedKeys11Room : Int) (drawCachedKeys11Target : Int) (drawCachedKeys11WasOften : List Int) (drawCachedKeys11WasOnce : List Int) (xn5 : Int) (xi6 : Int) (k : Bool → Prop) (B0 : Int → Prop) : Prop :=
  br (decide (xi6 < (cachedKeys13.length : Int)))
  ((0 ≤ xi6 ∧ xi6 < (cachedKeys13.length : Int)) ∧
    (F_laws_howOften cachedKeys13 (List.getD cachedKeys13 (Int.toNat xi6) (0 : Int)) fun howOften42 =>
      br (howOften42 != 1)
      (T0_laws_FnCachedKeys_j1 k)
      ((0 ≤ xi6 ∧ xi6 < (cachedKeys13.length : Int)) ∧
        (F_laws_isIn drawCachedKeys11WasOnce (List.getD cachedKeys13 (Int.toNat xi6) (0 : Int)) fun isIn51 =>
          br isIn51
          (T0_laws_FnCachedKeys_j0 k)
          ((0 ≤ xi6 ∧ xi6 < (cachedKeys13.length : Int)) ∧
            (F_laws_isIn drawCachedKeys11WasOften (List.getD cachedKeys13 (Int.toNat xi6) (0 : Int)) fun isIn60 =>
              br isIn60
              (k false)
              (InR (xi6 + 1) ∧
                B0 (xi6 + 1))) ∧
            (True))) ∧
        (True))) ∧
    (True))
  (InR (xn5 + (drawCachedKeys11Often.length : Int)) ∧
    br ((cachedKeys13.length : Int) == (xn5 + (drawCachedKeys11Often.length : Int)))
    ((0 ≤ xn5 ∧ xn5 ≤ (cachedKeys13.length : Int)) ∧
      (F_laws_equalInts (List.take (Int.toNat xn5) (List.drop 0 cachedKeys13)) drawCachedKeys11Once fun equalInts76 =>
        br equalInts76
        ((0 ≤ xn5 ∧ xn5 ≤ (cachedKeys13.length : Int)) ∧
          (F_laws_equalInts (List.take (cachedKeys13.length - (Int.toNat xn5)) (List.drop (Int.toNat xn5) cachedKeys13)) drawCachedKeys11Often fun equalInts84 =>
            k equalInts84) ∧
          (True))
        (T0_laws_FnCachedKeys_j0 k)) ∧
      (True))
    (T0_laws_FnCachedKeys_j1 k))
def U0_laws_FnCachedKeys (cachedKeys13 : List Int) (drawCachedKeys11Often : List Int) (drawCachedKeys11Once : List Int) (drawCachedKeys11Room : Int) (drawCachedKeys11Target : Int) (drawCachedKeys11WasOften : List Int) (drawCachedKeys11WasOnce : List Int) (xn5 : Int) (xi6 : Int) (k : Bool → Prop) (B0 : Int → Prop) : Prop :=
  br (decide (xi6 < (cachedKeys13.length : Int)))
  ((0 ≤ xi6 ∧ xi6 < (cachedKeys13.length : Int)) ∧
    F_laws_howOften cachedKeys13 (List.getD cachedKeys13 (Int.toNat xi6) (0 : Int)) fun howOften42 =>
    br (howOften42 != 1)
    (k false)
    ((0 ≤ xi6 ∧ xi6 < (cachedKeys13.length : Int)) ∧
      F_laws_isIn drawCachedKeys11WasOnce (List.getD cachedKeys13 (Int.toNat xi6) (0 : Int)) fun isIn51 =>
      br isIn51
      (k false)
      ((0 ≤ xi6 ∧ xi6 < (cachedKeys13.length : Int)) ∧
        F_laws_isIn drawCachedKeys11WasOften (List.getD cachedKeys13 (Int.toNat xi6) (0 : Int)) fun isIn60 =>
        br isIn60
        (k false)
        (InR (xi6 + 1) ∧
          B0 (xi6 + 1)))))
  (InR (xn5 + (drawCachedKeys11Often.length : Int)) ∧
    br ((cachedKeys13.length : Int) == (xn5 + (drawCachedKeys11Often.length : Int)))
    ((0 ≤ xn5 ∧ xn5 ≤ (cachedKeys13.length : Int)) ∧
      F_laws_equalInts (List.take (Int.toNat xn5) (List.drop 0 cachedKeys13)) drawCachedKeys11Once fun equalInts76 =>
      br equalInts76
      ((0 ≤ xn5 ∧ xn5 ≤ (cachedKeys13.length : Int)) ∧
        F_laws_equalInts (List.take (cachedKeys13.length - (Int.toNat xn5)) (List.drop (Int.toNat xn5) cachedKeys13)) drawCachedKeys11Often fun equalInts84 =>
        k equalInts84)
      (k false))
    (k false))
theorem T0_laws_FnCachedKeys_eq (cachedKeys13 : List Int) (drawCachedKeys11Often : List Int) (drawCachedKeys11Once : List Int) (drawCachedKeys11Room : Int) (drawCachedKeys11Target : Int) (drawCachedKeys11WasOften : List Int) (drawCachedKeys11WasOnce : List Int) (xn5 : Int) (xi6 : Int) (k : Bool → Prop) (B0 : Int → Prop) : T0_laws_FnCachedKeys cachedKeys13 drawCachedKeys11Often drawCachedKeys11Once drawCachedKeys11Room drawCachedKeys11Target drawCachedKeys11WasOften drawCachedKeys11WasOnce xn5 xi6 k B0 = U0_laws_FnCachedKeys cachedKeys13 drawCachedKeys11Often drawCachedKeys11Once drawCachedKeys11Room drawCachedKeys11Target drawCachedKeys11WasOften drawCachedKeys11WasOnce xn5 xi6 k B0 := by
  simp only [T0_laws_FnCachedKeys, U0_laws_FnCachedKeys, T0_laws_FnCachedKeys_j0, T0_laws_FnCachedKeys_j1, and_self, and_true]
def L0_laws_FnCachedKeys (cachedKeys13 : List Int) (drawCachedKeys11Often : List Int) (drawCachedKeys11Once : List Int) (drawCachedKeys11Room : Int) (drawCachedKeys11Target : Int) (drawCachedKeys11WasOften : List Int) (drawCachedKeys11WasOnce : List Int) (xn5 : Int) (k : Bool → Prop) : Nat → Int → Prop
  | 0, _ => False
  | n + 1, xi6 => U0_laws_FnCachedKeys cachedKeys13 drawCachedKeys11Often drawCachedKeys11Once drawCachedKeys11Room drawCachedKeys11Target drawCachedKeys11WasOften drawCachedKeys11WasOnce xn5 xi6 k (L0_laws_FnCachedKeys cachedKeys13 drawCachedKeys11Often drawCachedKeys11Once drawCachedKeys11Room drawCachedKeys11Target drawCachedKeys11WasOften drawCachedKeys11WasOnce xn5 k n)
def G_laws_FnCachedKeys_j0 (cachedKeys13 : List Int) (drawCachedKeys11Often : List Int) (drawCachedKeys11Once : List Int) (drawCachedKeys11Room : Int) (drawCachedKeys11Target : Int) (drawCachedKeys11WasOften : List Int) (drawCachedKeys11WasOnce : List Int) (k : Bool → Prop) : Prop :=
  F_spec_CachedKeys drawCachedKeys11Room drawCachedKeys11Target drawCachedKeys11Once drawCachedKeys11Often drawCachedKeys11WasOnce drawCachedKeys11WasOften fun cachedKeys26 =>
  F_laws_equalInts cachedKeys13 cachedKeys26 fun equalInts27 =>
  k equalInts27
def G_laws_FnCachedKeys (code0 : List Int) (k : Bool → Prop) (I0 : List Int → List Int → List Int → Int → Int → List Int → List Int → Int → Int → Prop) : Prop :=
  br (decide ((code0.length : Int) > 1048576))
  (k true)
  (F_spec_DrawCachedKeys code0 fun drawCachedKeys11Room drawCachedKeys11Target drawCachedKeys11Once drawCachedKeys11Often drawCachedKeys11WasOnce drawCachedKeys11WasOften =>
    F_impl_CachedKeys drawCachedKeys11Room drawCachedKeys11Target drawCachedKeys11Once drawCachedKeys11Often drawCachedKeys11WasOnce drawCachedKeys11WasOften fun cachedKeys13 =>
    F_spec_CachedKeys drawCachedKeys11Room drawCachedKeys11Target drawCachedKeys11Once drawCachedKeys11Often drawCachedKeys11WasOnce drawCachedKeys11WasOften fun cachedKeys16 =>
    F_laws_equalInts cachedKeys13 cachedKeys16 fun equalInts17 =>
    br (!equalInts17)
    (G_laws_FnCachedKeys_j0 cachedKeys13 drawCachedKeys11Often drawCachedKeys11Once drawCachedKeys11Room drawCachedKeys11Target drawCachedKeys11WasOften drawCachedKeys11WasOnce k)
    (F_impl_ValidLists drawCachedKeys11Room drawCachedKeys11Target drawCachedKeys11Once drawCachedKeys11Often drawCachedKeys11WasOnce drawCachedKeys11WasOften fun validLists21 =>
      br (!validLists21)
      (G_laws_FnCachedKeys_j0 cachedKeys13 drawCachedKeys11Often drawCachedKeys11Once drawCachedKeys11Room drawCachedKeys11Target drawCachedKeys11WasOften drawCachedKeys11WasOnce k)
      (I0 cachedKeys13 drawCachedKeys11Often drawCachedKeys11Once drawCachedKeys11Room drawCachedKeys11Target drawCachedKeys11WasOften drawCachedKeys11WasOnce (drawCachedKeys11Once.length : Int) 0)))
def S_laws_FnCachedKeys (code0 : List Int) (k : Bool → Prop) : Prop := G_laws_FnCachedKeys code0 k (fun cachedKeys13 drawCachedKeys11Often drawCachedKeys11Once drawCachedKeys11Room drawCachedKeys11Target drawCachedKeys11WasOften drawCachedKeys11WasOnce xn5 xi6 => ∃ j, L0_laws_FnCachedKeys cachedKeys13 drawCachedKeys11Often drawCachedKeys11Once drawCachedKeys11Room drawCachedKeys11Target drawCachedKeys11WasOften drawCachedKeys11WasOnce xn5 k j xi6)
abbrev F_laws_FnCachedKeys (code0 : List Int) (k : Bool → Prop) : Prop := S_laws_FnCachedKeys code0 k
theorem F_laws_FnCachedKeys_S {code0 : List Int} {k : Bool → Prop} (h : F_laws_FnCachedKeys code0 k) : S_laws_FnCachedKeys code0 k := h
theorem law_FnCachedKeys (code : List Int) (hb : ∀ x ∈ code, 0 ≤ x ∧ x ≤ 255) : F_laws_FnCachedKeys code (fun r => r = true) := by
  refine br_dec.2 ⟨fun _ => rfl, fun hlen => ⟨hb, fun r t o f wo wf l => ⟨by omega, ?_⟩⟩⟩
  by_cases v : VLists r ⟨t, o, f, wo, wf⟩
  · refine ⟨fun _ => ⟨by omega, fun _ => ?_, fun h => absurd v h⟩, fun h => absurd v h⟩
    have hl : (o ++ f).length ≤ 100 := by simp; omega
    refine ⟨by omega, br_de ⟨by omega, all_t v ?_⟩⟩
    refine br_nt ?_
    have key : ∀ (s : List Int) (i : Nat), (o ++ f).drop i = s → L0_laws_FnCachedKeys (o ++ f) f o r t wf wo (o.length : Int) (fun r => r = true) (s.length + 1) (i : Int) := by
      intro s
      induction s with
      | nil =>
        intro i hd
        have hi := drop_nil' hd
        rw [L0_laws_FnCachedKeys, U0_laws_FnCachedKeys]
        refine br_dec.2 ⟨fun h => by omega, fun _ => ⟨inR (by omega) (by omega), br_beq.2 ⟨fun _ => ⟨⟨by omega, by simp; omega⟩, ?_⟩, fun h => absurd (by simp) h⟩⟩⟩
        have e1 : List.take (Int.toNat (o.length : Int)) (List.drop 0 (o ++ f)) = o := by simp
        have e2 : List.take ((o ++ f).length - Int.toNat (o.length : Int)) (List.drop (Int.toNat (o.length : Int)) (o ++ f)) = f := by simp
        rw [e1, e2]
        exact ⟨by omega, br_de' ⟨⟨by omega, by simp; omega⟩, by omega, decide_eq_true rfl⟩⟩
      | cons x s ih =>
        intro i hd
        obtain ⟨h1, h2, h5, h3, h4⟩ := drop_cons' hd
        have hx := List.mem_of_getElem? h5
        have hd4 := v.dis x
        simp only at hd4
        have hc := count_mem.1 hx
        rw [List.count_append] at hc
        rw [List.length_cons, L0_laws_FnCachedKeys, U0_laws_FnCachedKeys]
        simp only [br_dec, Int.toNat_natCast, h2]
        refine ⟨fun _ => ⟨⟨by omega, by omega⟩, by omega, br_bne.2 ⟨fun h => absurd (by rw [List.count_append]; omega) h, fun _ => ⟨⟨by omega, by omega⟩, by omega, br_dec.2 ⟨fun m => by have := count_mem.1 m; omega, fun _ => ⟨⟨by omega, by omega⟩, by omega, br_dec.2 ⟨fun m => by have := count_mem.1 m; omega, fun _ => ⟨inR (by omega) (by omega), ih (i + 1) h3⟩⟩⟩⟩⟩⟩⟩, fun h => by omega⟩
    exact ⟨_, key (o ++ f) 0 rfl⟩
  · refine ⟨fun h => absurd h v, fun _ => ⟨by omega, fun h => absurd h v, fun _ => ?_⟩⟩
    refine ⟨by simp, br_de ⟨by omega, ?_⟩⟩
    intro b hb
    have e : b = false := by cases b with
      | false => rfl
      | true => exact absurd (hb.1 rfl) v
    subst e
    exact br_nf ⟨by omega, fun h => absurd h v, fun _ => ⟨by simp, decide_eq_true rfl⟩⟩
end Go.Ev
