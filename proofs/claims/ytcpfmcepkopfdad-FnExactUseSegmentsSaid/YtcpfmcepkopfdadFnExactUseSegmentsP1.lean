/- What the functions that the law reaches do, written as plain Lean. No statement is proved here. -/
import Derived.Test.YtcpfmcepkopfdadFnExactUseSegmentsP0
namespace Go.Ev
set_option linter.unusedVariables false
open Go
def T0_impl_withoutKey (key1 : Int) (list0 : List Int) (xt10 : Int) (xt11 : Int) (xout5 : List Int) (k : List Int → Prop) (B0 : Int → List Int → Prop) : Prop :=
  br (decide (xt11 < xt10))
  ((0 ≤ xt11 ∧ xt11 < (list0.length : Int)) ∧
    br ((List.getD list0 (Int.toNat xt11) (0 : Int)) != key1)
    ((xout5.length + 1 ≤ 1000000000) ∧
      InR (xt11 + 1) ∧
      B0 (xt11 + 1) (xout5 ++ ([(List.getD list0 (Int.toNat xt11) (0 : Int))] : List Int)))
    (InR (xt11 + 1) ∧
      B0 (xt11 + 1) xout5))
  (k xout5)
def L0_impl_withoutKey (key1 : Int) (list0 : List Int) (xt10 : Int) (k : List Int → Prop) : Nat → Int → List Int → Prop
  | 0, _, _ => False
  | n + 1, xt11, xout5 => T0_impl_withoutKey key1 list0 xt10 xt11 xout5 k (L0_impl_withoutKey key1 list0 xt10 k n)
def G_impl_withoutKey (list0 : List Int) (key1 : Int) (I0 : Int → List Int → Int → Int → List Int → Prop) : Prop :=
  I0 key1 list0 (list0.length : Int) 0 ([] : List Int)
def S_impl_withoutKey (list0 : List Int) (key1 : Int) (k : List Int → Prop) : Prop := G_impl_withoutKey list0 key1 (fun key1 list0 xt10 xt11 xout5 => ∃ j, L0_impl_withoutKey key1 list0 xt10 k j xt11 xout5)
def F_impl_withoutKey (l : List Int) (key : Int) (k : List Int → Prop) : Prop := l.length ≤ 1000000000 ∧ k (rmK l key)
theorem F_impl_withoutKey_S {l : List Int} {key : Int} {k : List Int → Prop} (h : F_impl_withoutKey l key k) : S_impl_withoutKey l key k := by
  obtain ⟨hl, hk⟩ := h
  have key1 : ∀ (r : List Int) (i : Nat) (out : List Int), l.drop i = r → out.length ≤ i → out ++ rmK r key = rmK l key → L0_impl_withoutKey key l (l.length : Int) k (r.length + 1) (i : Int) out := by
    intro r
    induction r with
    | nil =>
      intro i out hd ho he
      have := drop_nil' hd
      rw [L0_impl_withoutKey, T0_impl_withoutKey]
      simp only [br_dec]
      refine ⟨fun h => by omega, fun _ => ?_⟩
      have : out = rmK l key := by simpa [rmK] using he
      rw [this]; exact hk
    | cons x r ih =>
      intro i out hd ho he
      obtain ⟨h1, h2, _, h3, _⟩ := drop_cons' hd
      rw [List.length_cons, L0_impl_withoutKey, T0_impl_withoutKey]
      simp only [br_dec, br_bne, Int.toNat_natCast, h2]
      refine ⟨fun _ => ⟨⟨by omega, by omega⟩, fun hx => ⟨by omega, inR (by omega) (by omega), ?_⟩, fun hx => ⟨inR (by omega) (by omega), ?_⟩⟩, fun h => by omega⟩
      · exact ih (i + 1) (out ++ [x]) h3 (by simp; omega) (by rw [← he, rmK_cons_ne hx]; simp)
      · exact ih (i + 1) out h3 (by omega) (by rw [← he, hx, rmK_cons_eq])
  exact ⟨_, key1 l 0 [] rfl (by simp) rfl⟩
-- impl.putFirst
def G_impl_putFirst (list0 : List Int) (key1 : Int) (k : List Int → Prop) : Prop :=
  (1 + list0.length ≤ 1000000000) ∧
  k (([key1] : List Int) ++ list0)
def S_impl_putFirst (list0 : List Int) (key1 : Int) (k : List Int → Prop) : Prop := G_impl_putFirst list0 key1 k
abbrev F_impl_putFirst (list0 : List Int) (key1 : Int) (k : List Int → Prop) : Prop := S_impl_putFirst list0 key1 k
theorem F_impl_putFirst_S {list0 : List Int} {key1 : Int} {k : List Int → Prop} (h : F_impl_putFirst list0 key1 k) : S_impl_putFirst list0 key1 k := h
-- impl.UseRecent
def G_impl_UseRecent (list0 : List Int) (room1 : Int) (key2 : Int) (k : List Int → Bool → Prop) : Prop :=
  F_impl_ValidKeys list0 room1 fun validKeys11 =>
  br (!validKeys11)
  (k ([] : List Int) false)
  (F_impl_validKey key2 fun validKey15 =>
    br (!validKey15)
    (k ([] : List Int) false)
    (F_impl_withoutKey list0 key2 fun withoutKey20 =>
      F_impl_putFirst withoutKey20 key2 fun putFirst22 =>
      (0 ≤ (if room1 < (putFirst22.length : Int) then room1 else (putFirst22.length : Int)) ∧ (if room1 < (putFirst22.length : Int) then room1 else (putFirst22.length : Int)) ≤ (putFirst22.length : Int)) ∧
      (F_slices_Contains_sint_int list0 key2 fun contains31 =>
        k (List.take (Int.toNat (if room1 < (putFirst22.length : Int) then room1 else (putFirst22.length : Int))) (List.drop 0 putFirst22)) contains31) ∧
      (True)))
def H_impl_UseRecent (list0 : List Int) (room1 : Int) (key2 : Int) (k : List Int → Bool → Prop) : Prop :=
  F_impl_ValidKeys list0 room1 fun validKeys11 =>
  br (!validKeys11)
  (k ([] : List Int) false)
  (F_impl_validKey key2 fun validKey15 =>
    br (!validKey15)
    (k ([] : List Int) false)
    (F_impl_withoutKey list0 key2 fun withoutKey20 =>
      F_impl_putFirst withoutKey20 key2 fun putFirst22 =>
      (0 ≤ (if room1 < (putFirst22.length : Int) then room1 else (putFirst22.length : Int)) ∧ (if room1 < (putFirst22.length : Int) then room1 else (putFirst22.length : Int)) ≤ (putFirst22.length : Int)) ∧
      F_slices_Contains_sint_int list0 key2 fun contains31 =>
      k (List.take (Int.toNat (if room1 < (putFirst22.length : Int) then room1 else (putFirst22.length : Int))) (List.drop 0 putFirst22)) contains31))
theorem G_impl_UseRecent_eq (list0 : List Int) (room1 : Int) (key2 : Int) (k : List Int → Bool → Prop) : G_impl_UseRecent list0 room1 key2 k = H_impl_UseRecent list0 room1 key2 k := by
  simp only [G_impl_UseRecent, H_impl_UseRecent, and_self, and_true]
def S_impl_UseRecent (list0 : List Int) (room1 : Int) (key2 : Int) (k : List Int → Bool → Prop) : Prop := H_impl_UseRecent list0 room1 key2 k
def F_impl_UseRecent (l : List Int) (room key : Int) (k : List Int → Bool → Prop) : Prop :=
  (VKeys l room ∧ 0 ≤ key ∧ key ≤ 31 → k (recM l room key) (decide (key ∈ l))) ∧ (¬ (VKeys l room ∧ 0 ≤ key ∧ key ≤ 31) → k [] false)
theorem F_impl_UseRecent_S {l : List Int} {room key : Int} {k : List Int → Bool → Prop} (h : F_impl_UseRecent l room key k) : S_impl_UseRecent l room key k := by
  obtain ⟨hyes, hno⟩ := h
  intro b hb
  refine br_not.2 (br_iff.2 ⟨fun e => br_not.2 (br_dec.2 ⟨fun hkey => ?_, fun hkey => hno fun w => hkey w.2⟩), fun e => hno fun w => by rw [hb.2 w.1] at e; cases e⟩)
  have v := hb.1 e
  have hk := hyes ⟨v, hkey⟩
  obtain ⟨v1, v2, v3, v4, v5⟩ := v
  have := @rmK_le l key
  refine ⟨by omega, by omega, ⟨?_, ?_⟩, by omega, ?_⟩
  · split <;> omega
  · split <;> omega
  · show k (List.take (if room < (([key] ++ rmK l key).length : Int) then room else (([key] ++ rmK l key).length : Int)).toNat ([key] ++ rmK l key)) (decide (key ∈ l))
    rw [take_min2]; exact hk
-- impl.UseSegments
def G_impl_UseSegments_j0 (s0Old : List Int) (s0Safe : Int) (s0Trial : Int) (useRecent70r0 : List Int) (withoutKey97 : List Int) (k : Int → Int → List Int → List Int → Bool → Prop) : Prop :=
  ((1 + withoutKey97.length ≤ 1000000000) ∧
    (k s0Trial s0Safe (([(List.getD s0Old (Int.toNat (s0Safe - 1)) (0 : Int))] : List Int) ++ withoutKey97) useRecent70r0 true) ∧
    (True)) ∧
  (True)
def G_impl_UseSegments_j1 (key1 : Int) (s0New : List Int) (s0Old : List Int) (s0Safe : Int) (s0Trial : Int) (useRecent70r0 : List Int) (k : Int → Int → List Int → List Int → Bool → Prop) : Prop :=
  (((0 + 1 ≤ 1000000000) ∧
      (((F_impl_withoutKey s0New key1 fun withoutKey97 =>
            G_impl_UseSegments_j0 s0Old s0Safe s0Trial useRecent70r0 withoutKey97 k) ∧
          (True)) ∧
        ((F_impl_withoutKey s0New key1 fun withoutKey97 =>
            (G_impl_UseSegments_j0 s0Old s0Safe s0Trial useRecent70r0 withoutKey97 k) ∧
            (True)) ∧
          (True))) ∧
      (True)) ∧
    (True)) ∧
  (True)
def G_impl_UseSegments_j2 (s0Safe : Int) (s0Trial : Int) (useRecent70r0 : List Int) (withoutKey97 : List Int) (k : Int → Int → List Int → List Int → Bool → Prop) : Prop :=
  ((0 + withoutKey97.length ≤ 1000000000) ∧
    (k s0Trial s0Safe withoutKey97 useRecent70r0 true) ∧
    (True)) ∧
  (True)
def G_impl_UseSegments (s0Trial : Int) (s0Safe : Int) (s0New : List Int) (s0Old : List Int) (key1 : Int) (k : Int → Int → List Int → List Int → Bool → Prop) : Prop :=
  F_impl_ValidSegments s0Trial s0Safe s0New s0Old fun validSegments8 =>
  br (!validSegments8)
  (k 0 0 ([] : List Int) ([] : List Int) false)
  (F_impl_validKey key1 fun validKey12 =>
    br (!validKey12)
    (k 0 0 ([] : List Int) ([] : List Int) false)
    (F_slices_Contains_sint_int s0Old key1 fun contains24 =>
      br contains24
      (F_impl_UseRecent s0Old s0Safe key1 fun useRecent31r0 useRecent31r1 =>
        (0 + s0New.length ≤ 1000000000) ∧
        k s0Trial s0Safe s0New useRecent31r0 true)
      (F_slices_Contains_sint_int s0New key1 fun contains45 =>
        br (!contains45)
        ((0 + s0Old.length ≤ 1000000000) ∧
          F_impl_UseRecent s0New s0Trial key1 fun useRecent59r0 useRecent59r1 =>
          k s0Trial s0Safe useRecent59r0 s0Old false)
        (F_impl_UseRecent s0Old s0Safe key1 fun useRecent70r0 useRecent70r1 =>
          br ((s0Old.length : Int) == s0Safe)
          (InR (s0Safe - 1) ∧
            (0 ≤ (s0Safe - 1) ∧ (s0Safe - 1) < (s0Old.length : Int)) ∧
            (G_impl_UseSegments_j1 key1 s0New s0Old s0Safe s0Trial useRecent70r0 k) ∧
            ((G_impl_UseSegments_j1 key1 s0New s0Old s0Safe s0Trial useRecent70r0 k) ∧
              (True)))
          (((F_impl_withoutKey s0New key1 fun withoutKey97 =>
                G_impl_UseSegments_j2 s0Safe s0Trial useRecent70r0 withoutKey97 k) ∧
              (True)) ∧
            ((F_impl_withoutKey s0New key1 fun withoutKey97 =>
                (G_impl_UseSegments_j2 s0Safe s0Trial useRecent70r0 withoutKey97 k) ∧
                (True)) ∧
              (True)))))))
def H_impl_UseSegments (s0Trial : Int) (s0Safe : Int) (s0New : List Int) (s0Old : List Int) (key1 : Int) (k : Int → Int → List Int → List Int → Bool → Prop) : Prop :=
  F_impl_ValidSegments s0Trial s0Safe s0New s0Old fun validSegments8 =>
  br (!validSegments8)
  (k 0 0 ([] : List Int) ([] : List Int) false)
  (F_impl_validKey key1 fun validKey12 =>
    br (!validKey12)
    (k 0 0 ([] : List Int) ([] : List Int) false)
    (F_slices_Contains_sint_int s0Old key1 fun contains24 =>
      br contains24
      (F_impl_UseRecent s0Old s0Safe key1 fun useRecent31r0 useRecent31r1 =>
        (0 + s0New.length ≤ 1000000000) ∧
        k s0Trial s0Safe s0New useRecent31r0 true)
      (F_slices_Contains_sint_int s0New key1 fun contains45 =>
        br (!contains45)
        ((0 + s0Old.length ≤ 1000000000) ∧
          F_impl_UseRecent s0New s0Trial key1 fun useRecent59r0 useRecent59r1 =>
          k s0Trial s0Safe useRecent59r0 s0Old false)
        (F_impl_UseRecent s0Old s0Safe key1 fun useRecent70r0 useRecent70r1 =>
          br ((s0Old.length : Int) == s0Safe)
          (InR (s0Safe - 1) ∧
            (0 ≤ (s0Safe - 1) ∧ (s0Safe - 1) < (s0Old.length : Int)) ∧
            (0 + 1 ≤ 1000000000) ∧
            F_impl_withoutKey s0New key1 fun withoutKey97 =>
            (1 + withoutKey97.length ≤ 1000000000) ∧
            k s0Trial s0Safe (([(List.getD s0Old (Int.toNat (s0Safe - 1)) (0 : Int))] : List Int) ++ withoutKey97) useRecent70r0 true)
          (F_impl_withoutKey s0New key1 fun withoutKey97 =>
            (0 + withoutKey97.length ≤ 1000000000) ∧
            k s0Trial s0Safe withoutKey97 useRecent70r0 true)))))
theorem G_impl_UseSegments_eq (s0Trial : Int) (s0Safe : Int) (s0New : List Int) (s0Old : List Int) (key1 : Int) (k : Int → Int → List Int → List Int → Bool → Prop) : G_impl_UseSegments s0Trial s0Safe s0New s0Old key1 k = H_impl_UseSegments s0Trial s0Safe s0New s0Old key1 k := by
  simp only [G_impl_UseSegments, H_impl_UseSegments, G_impl_UseSegments_j0, G_impl_UseSegments_j1, G_impl_UseSegments_j2, and_self, and_true]
def S_impl_UseSegments (s0Trial : Int) (s0Safe : Int) (s0New : List Int) (s0Old : List Int) (key1 : Int) (k : Int → Int → List Int → List Int → Bool → Prop) : Prop := H_impl_UseSegments s0Trial s0Safe s0New s0Old key1 k
def F_impl_UseSegments (trial safe : Int) (new old : List Int) (key : Int) (k : Int → Int → List Int → List Int → Bool → Prop) : Prop :=
  (VSegs trial safe new old ∧ 0 ≤ key ∧ key ≤ 31 → k trial safe (segM trial safe new old key).1 (segM trial safe new old key).2.1 (segM trial safe new old key).2.2) ∧
  (¬ (VSegs trial safe new old ∧ 0 ≤ key ∧ key ≤ 31) → k 0 0 [] [] false)
theorem F_impl_UseSegments_S {trial safe : Int} {new old : List Int} {key : Int} {k : Int → Int → List Int → List Int → Bool → Prop} (h : F_impl_UseSegments trial safe new old key k) : S_impl_UseSegments trial safe new old key k := by
  obtain ⟨hyes, hno⟩ := h
  intro b hb
  rw [br_not, br_iff]
  refine ⟨fun e => br_not.2 (br_dec.2 ⟨fun hkey => ?_, fun hkey => hno fun w => hkey w.2⟩), fun e => hno fun w => by rw [hb.2 w.1] at e; cases e⟩
  have v := hb.1 e
  have hk := hyes ⟨v, hkey⟩
  have l1 := segs_len v
  obtain ⟨v1, v2, v3⟩ := v
  have hrm := @rmK_le new key
  unfold segM at hk
  refine ⟨by omega, br_dec.2 ⟨fun ho => ⟨fun _ => ⟨by omega, ?_⟩, fun h => absurd ⟨v2, hkey⟩ h⟩, fun ho => ⟨by omega, br_not.2 (br_dec.2 ⟨fun hn => ⟨fun _ => br_beq.2 ⟨fun hs => ?_, fun hs => ⟨by omega, by omega, ?_⟩⟩, fun h => absurd ⟨v2, hkey⟩ h⟩, fun hn => ⟨by omega, fun _ => ?_, fun h => absurd ⟨v1, hkey⟩ h⟩⟩)⟩⟩⟩
  · rw [if_pos ho] at hk
    rw [recM_hit v2.2.2.2.2 v2.2.2.1 ho]; exact hk
  · rw [if_neg ho, if_pos hn, if_pos hs] at hk
    have h1 := v2.1
    refine ⟨inR (by omega) (by omega), ⟨by omega, by omega⟩, by omega, by omega, by omega, ?_⟩
    rw [recM_miss ho, show (safe - 1).toNat = old.length - 1 by omega]; exact hk
  · rw [if_neg ho, if_pos hn, if_neg hs] at hk
    rw [recM_miss ho]; exact hk
  · rw [if_neg ho, if_neg hn] at hk
    rw [recM_miss hn]; exact hk
-- laws.eqIntS
def T0_laws_eqIntS (a0 : List Int) (b1 : List Int) (xi5 : Int) (k : Bool → Prop) (B0 : Int → Prop) : Prop :=
  br (decide (xi5 < (a0.length : Int)))
  ((0 ≤ xi5 ∧ xi5 < (a0.length : Int)) ∧
    (0 ≤ xi5 ∧ xi5 < (b1.length : Int)) ∧
    br ((List.getD a0 (Int.toNat xi5) (0 : Int)) != (List.getD b1 (Int.toNat xi5) (0 : Int)))
    (k false)
    (InR (xi5 + 1) ∧
      B0 (xi5 + 1)))
  (k true)
def L0_laws_eqIntS (a0 : List Int) (b1 : List Int) (k : Bool → Prop) : Nat → Int → Prop
  | 0, _ => False
  | n + 1, xi5 => T0_laws_eqIntS a0 b1 xi5 k (L0_laws_eqIntS a0 b1 k n)
def G_laws_eqIntS (a0 : List Int) (b1 : List Int) (k : Bool → Prop) (I0 : List Int → List Int → Int → Prop) : Prop :=
  br ((a0.length : Int) != (b1.length : Int))
  (k false)
  (I0 a0 b1 0)
def S_laws_eqIntS (a0 : List Int) (b1 : List Int) (k : Bool → Prop) : Prop := G_laws_eqIntS a0 b1 k (fun a0 b1 xi5 => ∃ j, L0_laws_eqIntS a0 b1 k j xi5)
def F_laws_eqIntS (a b : List Int) (k : Bool → Prop) : Prop := a.length ≤ 1000000000 ∧ k (decide (a = b))
theorem F_laws_eqIntS_S {a b : List Int} {k : Bool → Prop} (h : F_laws_eqIntS a b k) : S_laws_eqIntS a b k := by
  obtain ⟨hl, hk⟩ := h
  refine br_bne.2 ⟨fun he => by rwa [decide_eq_false (fun e => he (by rw [e]))] at hk, fun he => ?_⟩
  have he : a.length = b.length := by omega
  have key : ∀ (r : List Int) (i : Nat), a.drop i = r → (r = b.drop i ↔ a = b) → L0_laws_eqIntS a b k (r.length + 1) (i : Int) := by
    intro r
    induction r with
    | nil =>
      intro i hd hi
      have := drop_nil' hd
      rw [L0_laws_eqIntS, T0_laws_eqIntS]
      simp only [br_dec]
      exact ⟨fun h => by omega, fun _ => by rwa [decide_eq_true (hi.1 (List.drop_eq_nil_of_le (by omega)).symm)] at hk⟩
    | cons x r ih =>
      intro i hd hi
      obtain ⟨h1, h2, _, h3, _⟩ := drop_cons' hd
      obtain ⟨y, s, hs⟩ : ∃ y s, b.drop i = y :: s := by
        cases e : b.drop i with
        | nil => have := drop_nil' e; omega
        | cons y s => exact ⟨y, s, rfl⟩
      obtain ⟨g1, g2, _, g3, _⟩ := drop_cons' hs
      rw [List.length_cons, L0_laws_eqIntS, T0_laws_eqIntS]
      simp only [br_dec, br_bne, Int.toNat_natCast, h2, g2]
      rw [hs] at hi
      refine ⟨fun _ => ⟨⟨by omega, by omega⟩, ⟨by omega, by omega⟩, ?_⟩, fun h => by omega⟩
      have go : x = y → L0_laws_eqIntS a b k (r.length + 1) ((i : Int) + 1) := fun hx => ih (i + 1) h3 (by rw [g3, ← hi, hx]; simp)
      have no : x ≠ y → k false := fun hx => by rwa [decide_eq_false (fun e => hx (List.cons.inj (hi.2 e)).1)] at hk
      exact ⟨no, fun hx => ⟨inR (by omega) (by omega), go hx⟩⟩
  exact ⟨_, key a 0 rfl (by simp)⟩
-- laws.eqSegments
def G_laws_eqSegments (a0Trial : Int) (a0Safe : Int) (a0New : List Int) (a0Old : List Int) (b1Trial : Int) (b1Safe : Int) (b1New : List Int) (b1Old : List Int) (k : Bool → Prop) : Prop :=
  br (a0Trial != b1Trial)
  (k false)
  (br (a0Safe != b1Safe)
    (k false)
    (F_laws_eqIntS a0New b1New fun eqIntS19 =>
      br (!eqIntS19)
      (k false)
      (F_laws_eqIntS a0Old b1Old fun eqIntS25 =>
        br (!eqIntS25)
        (k false)
        (k true))))
def S_laws_eqSegments (a0Trial : Int) (a0Safe : Int) (a0New : List Int) (a0Old : List Int) (b1Trial : Int) (b1Safe : Int) (b1New : List Int) (b1Old : List Int) (k : Bool → Prop) : Prop := G_laws_eqSegments a0Trial a0Safe a0New a0Old b1Trial b1Safe b1New b1Old k
def F_laws_eqSegments (trial : Int) (safe : Int) (new : List Int) (old : List Int) (trial' : Int) (safe' : Int) (new' : List Int) (old' : List Int) (k : Bool → Prop) : Prop := (new.length ≤ 1000000000 ∧ old.length ≤ 1000000000) ∧ ∀ b : Bool, (b = true ↔ trial = trial' ∧ safe = safe' ∧ new = new' ∧ old = old') → k b
theorem F_laws_eqSegments_S {trial : Int} {safe : Int} {new : List Int} {old : List Int} {trial' : Int} {safe' : Int} {new' : List Int} {old' : List Int} {k : Bool → Prop} (h : F_laws_eqSegments trial safe new old trial' safe' new' old' k) : S_laws_eqSegments trial safe new old trial' safe' new' old' k := by
  obtain ⟨⟨lNew, lOld⟩, hk⟩ := h
  exact br_bne.2 ⟨fun eTrial => hk false (by simp [eTrial]), fun eTrial => br_bne.2 ⟨fun eSafe => hk false (by simp [eSafe]), fun eSafe => ⟨lNew, br_not.2 (br_dec.2 ⟨fun eNew => ⟨lOld, br_not.2 (br_dec.2 ⟨fun eOld => hk true (by simp [eTrial, eSafe, eNew, eOld]), fun eOld => hk false (by simp [eOld])⟩)⟩, fun eNew => hk false (by simp [eNew])⟩)⟩⟩⟩
theorem eqSegments_same {trial : Int} {safe : Int} {new : List Int} {old : List Int} {k : Bool → Prop} (hl : new.length ≤ 1000000000 ∧ old.length ≤ 1000000000) (h : k true) : F_laws_eqSegments trial safe new old trial safe new old k := ⟨hl, all_t ⟨rfl, rfl, rfl, rfl⟩ h⟩
-- laws.markIntS
def T0_laws_markIntS (xk1 : Int) (xi5 : Int) (xy100000 : List Int) (k : Int → List Int → Prop) (B0 : Int → Int → List Int → Prop) : Prop :=
  br (decide (xi5 < (xy100000.length : Int)))
  ((0 ≤ xi5 ∧ xi5 < (xy100000.length : Int)) ∧
    InR (xk1 + 1) ∧
    InR (xi5 + 1) ∧
    B0 (xk1 + 1) (xi5 + 1) (List.set xy100000 (Int.toNat xi5) xk1))
  (k xk1 xy100000)
def L0_laws_markIntS (k : Int → List Int → Prop) : Nat → Int → Int → List Int → Prop
  | 0, _, _, _ => False
  | n + 1, xk1, xi5, xy100000 => T0_laws_markIntS xk1 xi5 xy100000 k (L0_laws_markIntS k n)
def G_laws_markIntS (a0 : List Int) (k1 : Int) (I0 : Int → Int → List Int → Prop) : Prop :=
  I0 k1 0 a0
def S_laws_markIntS (a0 : List Int) (k1 : Int) (k : Int → List Int → Prop) : Prop := G_laws_markIntS a0 k1 (fun xk1 xi5 xy100000 => ∃ j, L0_laws_markIntS k j xk1 xi5 xy100000)
def F_laws_markIntS (a : List Int) (k0 : Int) (k : Int → List Int → Prop) : Prop :=
  (a.length ≤ 1000000000 ∧ 0 ≤ k0 ∧ k0 ≤ 100000000000) ∧ k (k0 + a.length) (seqI k0 a.length)
theorem F_laws_markIntS_S {a : List Int} {k0 : Int} {k : Int → List Int → Prop} (h : F_laws_markIntS a k0 k) : S_laws_markIntS a k0 k := by
  obtain ⟨⟨h1, h2, h3⟩, hk⟩ := h
  have key : ∀ (d i : Nat) (out : List Int), i + d = a.length → out.length = a.length → out.take i = seqI k0 i → L0_laws_markIntS k (d + 1) (k0 + (i : Int)) (i : Int) out := by
    intro d
    induction d with
    | zero =>
      intro i out hi ho he
      rw [L0_laws_markIntS, T0_laws_markIntS]
      refine br_dec.2 ⟨fun h => by omega, fun _ => ?_⟩
      rw [List.take_of_length_le (by omega)] at he
      have : i = a.length := by omega
      rw [he, this]; exact hk
    | succ d ih =>
      intro i out hi ho he
      rw [L0_laws_markIntS, T0_laws_markIntS]
      rw [Int.toNat_natCast]
      refine br_dec.2 ⟨fun _ => ⟨⟨by omega, by omega⟩, inR (by omega) (by omega), inR (by omega) (by omega), ?_⟩, fun h => by omega⟩
      rw [show k0 + (i : Int) + 1 = k0 + ((i + 1 : Nat) : Int) by omega]
      exact ih (i + 1) _ (by omega) (by simpa using ho) (by rw [take_set_succ (by omega), he, seqI_snoc])
  have := key a.length 0 a (by omega) rfl (by simp [seqI])
  rw [show k0 + ((0 : Nat) : Int) = k0 by omega] at this
  exact ⟨_, this⟩
-- laws.markSegments
def G_laws_markSegments (a0Trial : Int) (a0Safe : Int) (a0New : List Int) (a0Old : List Int) (k1 : Int) (k : Int → List Int → List Int → Prop) : Prop :=
  F_laws_markIntS a0New k1 fun markIntS8 omarkIntS8 =>
  F_laws_markIntS a0Old markIntS8 fun markIntS12 omarkIntS12 =>
  k markIntS12 omarkIntS8 omarkIntS12
def S_laws_markSegments (a0Trial : Int) (a0Safe : Int) (a0New : List Int) (a0Old : List Int) (k1 : Int) (k : Int → List Int → List Int → Prop) : Prop := G_laws_markSegments a0Trial a0Safe a0New a0Old k1 k
def F_laws_markSegments (trial : Int) (safe : Int) (new : List Int) (old : List Int) (k0 : Int) (k : Int → List Int → List Int → Prop) : Prop := (new.length ≤ 1000000000 ∧ old.length ≤ 1000000000 ∧ 0 ≤ k0 ∧ k0 ≤ 100000000) ∧ k (k0 + (new.length : Int) + (old.length : Int)) (seqI (k0) new.length) (seqI (k0 + (new.length : Int)) old.length)
theorem F_laws_markSegments_S {trial : Int} {safe : Int} {new : List Int} {old : List Int} {k0 : Int} {k : Int → List Int → List Int → Prop} (h : F_laws_markSegments trial safe new old k0 k) : S_laws_markSegments trial safe new old k0 k := by
  obtain ⟨⟨lNew, lOld, g1, g2⟩, hk⟩ := h
  exact ⟨⟨by omega, by omega, by omega⟩, ⟨⟨by omega, by omega, by omega⟩, hk⟩⟩
-- laws.heldIntS
def T0_laws_heldIntS (a0 : List Int) (xk1 : Int) (xi5 : Int) (k : Int → Prop) (B0 : Int → Int → Prop) : Prop :=
  br (decide (xi5 < (a0.length : Int)))
  ((0 ≤ xi5 ∧ xi5 < (a0.length : Int)) ∧
    br ((List.getD a0 (Int.toNat xi5) (0 : Int)) != xk1)
    (k (-1))
    (InR (xk1 + 1) ∧
      InR (xi5 + 1) ∧
      B0 (xk1 + 1) (xi5 + 1)))
  (k xk1)
def L0_laws_heldIntS (a0 : List Int) (k : Int → Prop) : Nat → Int → Int → Prop
  | 0, _, _ => False
  | n + 1, xk1, xi5 => T0_laws_heldIntS a0 xk1 xi5 k (L0_laws_heldIntS a0 k n)
def G_laws_heldIntS (a0 : List Int) (k1 : Int) (I0 : List Int → Int → Int → Prop) : Prop :=
  I0 a0 k1 0
def S_laws_heldIntS (a0 : List Int) (k1 : Int) (k : Int → Prop) : Prop := G_laws_heldIntS a0 k1 (fun a0 xk1 xi5 => ∃ j, L0_laws_heldIntS a0 k j xk1 xi5)
def F_laws_heldIntS (a : List Int) (k0 : Int) (k : Int → Prop) : Prop :=
  ∃ n : Nat, (n ≤ 1000000000 ∧ 0 ≤ k0 ∧ k0 ≤ 100000000000) ∧ a = seqI k0 n ∧ k (k0 + (n : Int))
theorem F_laws_heldIntS_S {a : List Int} {k0 : Int} {k : Int → Prop} (h : F_laws_heldIntS a k0 k) : S_laws_heldIntS a k0 k := by
  obtain ⟨n, ⟨h1, h2, h3⟩, rfl, hk⟩ := h
  have key : ∀ (d i : Nat), i + d = n → L0_laws_heldIntS (seqI k0 n) k (d + 1) (k0 + (i : Int)) (i : Int) := by
    intro d
    induction d with
    | zero =>
      intro i hi
      rw [L0_laws_heldIntS, T0_laws_heldIntS]
      rw [seqI_len]
      refine br_dec.2 ⟨fun h => by omega, fun _ => ?_⟩
      have : i = n := by omega
      rw [this]; exact hk
    | succ d ih =>
      intro i hi
      have hi2 : i < n := by omega
      rw [L0_laws_heldIntS, T0_laws_heldIntS]
      rw [Int.toNat_natCast, seqI_len]
      refine br_dec.2 ⟨fun _ => ⟨⟨by omega, by omega⟩, br_bne.2 ⟨fun h => absurd (seqI_get hi2) h, fun _ => ⟨inR (by omega) (by omega), inR (by omega) (by omega), ?_⟩⟩⟩, fun h => by omega⟩
      rw [show k0 + (i : Int) + 1 = k0 + ((i + 1 : Nat) : Int) by omega]
      exact ih (i + 1) (by omega)
  have := key n 0 (by omega)
  rw [show k0 + ((0 : Nat) : Int) = k0 by omega] at this
  exact ⟨_, this⟩
-- laws.heldSegments
def G_laws_heldSegments (a0Trial : Int) (a0Safe : Int) (a0New : List Int) (a0Old : List Int) (k1 : Int) (k : Int → Prop) : Prop :=
  F_laws_heldIntS a0New k1 fun heldIntS8 =>
  br (decide (heldIntS8 < 0))
  (k (-1))
  (F_laws_heldIntS a0Old heldIntS8 fun heldIntS14 =>
    br (decide (heldIntS14 < 0))
    (k (-1))
    (k heldIntS14))
def S_laws_heldSegments (a0Trial : Int) (a0Safe : Int) (a0New : List Int) (a0Old : List Int) (k1 : Int) (k : Int → Prop) : Prop := G_laws_heldSegments a0Trial a0Safe a0New a0Old k1 k
def F_laws_heldSegments (trial : Int) (safe : Int) (new : List Int) (old : List Int) (k0 : Int) (k : Int → Prop) : Prop :=
  ∃ nNew nOld : Nat, (nNew ≤ 1000000000 ∧ nOld ≤ 1000000000 ∧ 0 ≤ k0 ∧ k0 ≤ 100000000) ∧ new = seqI (k0) nNew ∧ old = seqI (k0 + (nNew : Int)) nOld ∧ k (k0 + (nNew : Int) + (nOld : Int))
theorem F_laws_heldSegments_S {trial : Int} {safe : Int} {new : List Int} {old : List Int} {k0 : Int} {k : Int → Prop} (h : F_laws_heldSegments trial safe new old k0 k) : S_laws_heldSegments trial safe new old k0 k := by
  obtain ⟨nNew, nOld, ⟨lNew, lOld, g1, g2⟩, rfl, rfl, hk⟩ := h
  refine ⟨nNew, ⟨lNew, by omega, by omega⟩, rfl, ?_⟩
  refine br_dec.2 ⟨fun h => by omega, fun _ => ?_⟩
  refine ⟨nOld, ⟨lOld, by omega, by omega⟩, rfl, ?_⟩
  refine br_dec.2 ⟨fun h => by omega, fun _ => ?_⟩
  exact hk
-- laws.FnExactUseSegments
def G_laws_FnExactUseSegments (aS0Trial : Int) (aS0Safe : Int) (aS0New : List Int) (aS0Old : List Int) (aKey1 : Int) (k : Bool → Prop) : Prop :=
  F_laws_szSegments aS0Trial aS0Safe aS0New aS0Old (1048576 : Int) fun szSegments18 =>
  br (decide (szSegments18 < 0))
  (k true)
  (F_laws_toSegments aS0Trial aS0Safe aS0New aS0Old fun toSegments23Trial toSegments23Safe toSegments23New toSegments23Old =>
    F_spec_UseSegments toSegments23Trial toSegments23Safe toSegments23New toSegments23Old aKey1 fun useSegments25Trial useSegments25Safe useSegments25New useSegments25Old useSegments25r1 =>
    F_laws_toSegments aS0Trial aS0Safe aS0New aS0Old fun toSegments29Trial toSegments29Safe toSegments29New toSegments29Old =>
    F_impl_UseSegments toSegments29Trial toSegments29Safe toSegments29New toSegments29Old aKey1 fun useSegments33Trial useSegments33Safe useSegments33New useSegments33Old useSegments33r1 =>
    F_laws_eqSegments useSegments33Trial useSegments33Safe useSegments33New useSegments33Old useSegments25Trial useSegments25Safe useSegments25New useSegments25Old fun eqSegments38 =>
    br (!eqSegments38)
    (k false)
    (br (!(useSegments33r1 == useSegments25r1))
      (k false)
      ((F_laws_toSegments aS0Trial aS0Safe aS0New aS0Old fun toSegments47Trial toSegments47Safe toSegments47New toSegments47Old =>
          (F_laws_eqSegments toSegments29Trial toSegments29Safe toSegments29New toSegments29Old toSegments47Trial toSegments47Safe toSegments47New toSegments47Old fun eqSegments48 =>
            br (!eqSegments48)
            (k false)
            (F_laws_markSegments toSegments29Trial toSegments29Safe toSegments29New toSegments29Old (1 : Int) fun markSegments52 omarkSegments52New omarkSegments52Old =>
              br (decide (markSegments52 < 0))
              (k false)
              (F_laws_eqSegments useSegments33Trial useSegments33Safe useSegments33New useSegments33Old useSegments25Trial useSegments25Safe useSegments25New useSegments25Old fun eqSegments58 =>
                br (!eqSegments58)
                (k false)
                (br (!(useSegments33r1 == useSegments25r1))
                  (k false)
                  (F_laws_markSegments useSegments33Trial useSegments33Safe useSegments33New useSegments33Old (1 : Int) fun markSegments68 omarkSegments68New omarkSegments68Old =>
                    F_laws_heldSegments useSegments33Trial useSegments33Safe omarkSegments68New omarkSegments68Old (1 : Int) fun heldSegments71 =>
                    br (decide (heldSegments71 < 0))
                    (k false)
                    (br (heldSegments71 != markSegments68)
                      (k false)
                      (F_laws_toSegments aS0Trial aS0Safe aS0New aS0Old fun toSegments79Trial toSegments79Safe toSegments79New toSegments79Old =>
                        F_impl_UseSegments toSegments79Trial toSegments79Safe toSegments79New toSegments79Old aKey1 fun useSegments81Trial useSegments81Safe useSegments81New useSegments81Old useSegments81r1 =>
                        F_laws_eqSegments useSegments81Trial useSegments81Safe useSegments81New useSegments81Old useSegments25Trial useSegments25Safe useSegments25New useSegments25Old fun eqSegments86 =>
                        br (!eqSegments86)
                        (k false)
                        (br (!(useSegments81r1 == useSegments25r1))
                          (k false)
                          (F_laws_heldSegments useSegments33Trial useSegments33Safe omarkSegments68New omarkSegments68Old (1 : Int) fun heldSegments95 =>
                            br (decide (heldSegments95 < 0))
                            (k false)
                            (br (heldSegments95 != markSegments68)
                              (k false)
                              (k true))))))))))) ∧
          (True)) ∧
        (True))))
def H_laws_FnExactUseSegments (aS0Trial : Int) (aS0Safe : Int) (aS0New : List Int) (aS0Old : List Int) (aKey1 : Int) (k : Bool → Prop) : Prop :=
  F_laws_szSegments aS0Trial aS0Safe aS0New aS0Old (1048576 : Int) fun szSegments18 =>
  br (decide (szSegments18 < 0))
  (k true)
  (F_laws_toSegments aS0Trial aS0Safe aS0New aS0Old fun toSegments23Trial toSegments23Safe toSegments23New toSegments23Old =>
    F_spec_UseSegments toSegments23Trial toSegments23Safe toSegments23New toSegments23Old aKey1 fun useSegments25Trial useSegments25Safe useSegments25New useSegments25Old useSegments25r1 =>
    F_laws_toSegments aS0Trial aS0Safe aS0New aS0Old fun toSegments29Trial toSegments29Safe toSegments29New toSegments29Old =>
    F_impl_UseSegments toSegments29Trial toSegments29Safe toSegments29New toSegments29Old aKey1 fun useSegments33Trial useSegments33Safe useSegments33New useSegments33Old useSegments33r1 =>
    F_laws_eqSegments useSegments33Trial useSegments33Safe useSegments33New useSegments33Old useSegments25Trial useSegments25Safe useSegments25New useSegments25Old fun eqSegments38 =>
    br (!eqSegments38)
    (k false)
    (br (!(useSegments33r1 == useSegments25r1))
      (k false)
      (F_laws_toSegments aS0Trial aS0Safe aS0New aS0Old fun toSegments47Trial toSegments47Safe toSegments47New toSegments47Old =>
        F_laws_eqSegments toSegments29Trial toSegments29Safe toSegments29New toSegments29Old toSegments47Trial toSegments47Safe toSegments47New toSegments47Old fun eqSegments48 =>
        br (!eqSegments48)
        (k false)
        (F_laws_markSegments toSegments29Trial toSegments29Safe toSegments29New toSegments29Old (1 : Int) fun markSegments52 omarkSegments52New omarkSegments52Old =>
          br (decide (markSegments52 < 0))
          (k false)
          (F_laws_eqSegments useSegments33Trial useSegments33Safe useSegments33New useSegments33Old useSegments25Trial useSegments25Safe useSegments25New useSegments25Old fun eqSegments58 =>
            br (!eqSegments58)
            (k false)
            (br (!(useSegments33r1 == useSegments25r1))
              (k false)
              (F_laws_markSegments useSegments33Trial useSegments33Safe useSegments33New useSegments33Old (1 : Int) fun markSegments68 omarkSegments68New omarkSegments68Old =>
                F_laws_heldSegments useSegments33Trial useSegments33Safe omarkSegments68New omarkSegments68Old (1 : Int) fun heldSegments71 =>
                br (decide (heldSegments71 < 0))
                (k false)
                (br (heldSegments71 != markSegments68)
                  (k false)
                  (F_laws_toSegments aS0Trial aS0Safe aS0New aS0Old fun toSegments79Trial toSegments79Safe toSegments79New toSegments79Old =>
                    F_impl_UseSegments toSegments79Trial toSegments79Safe toSegments79New toSegments79Old aKey1 fun useSegments81Trial useSegments81Safe useSegments81New useSegments81Old useSegments81r1 =>
                    F_laws_eqSegments useSegments81Trial useSegments81Safe useSegments81New useSegments81Old useSegments25Trial useSegments25Safe useSegments25New useSegments25Old fun eqSegments86 =>
                    br (!eqSegments86)
                    (k false)
                    (br (!(useSegments81r1 == useSegments25r1))
                      (k false)
                      (F_laws_heldSegments useSegments33Trial useSegments33Safe omarkSegments68New omarkSegments68Old (1 : Int) fun heldSegments95 =>
                        br (decide (heldSegments95 < 0))
                        (k false)
                        (br (heldSegments95 != markSegments68)
                          (k false)
                          (k true)))))))))))))
theorem G_laws_FnExactUseSegments_eq (aS0Trial : Int) (aS0Safe : Int) (aS0New : List Int) (aS0Old : List Int) (aKey1 : Int) (k : Bool → Prop) : G_laws_FnExactUseSegments aS0Trial aS0Safe aS0New aS0Old aKey1 k = H_laws_FnExactUseSegments aS0Trial aS0Safe aS0New aS0Old aKey1 k := by
  simp only [G_laws_FnExactUseSegments, H_laws_FnExactUseSegments, and_self, and_true]
def S_laws_FnExactUseSegments (aS0Trial : Int) (aS0Safe : Int) (aS0New : List Int) (aS0Old : List Int) (aKey1 : Int) (k : Bool → Prop) : Prop := H_laws_FnExactUseSegments aS0Trial aS0Safe aS0New aS0Old aKey1 k
abbrev F_laws_FnExactUseSegments (aS0Trial : Int) (aS0Safe : Int) (aS0New : List Int) (aS0Old : List Int) (aKey1 : Int) (k : Bool → Prop) : Prop := S_laws_FnExactUseSegments aS0Trial aS0Safe aS0New aS0Old aKey1 k
theorem F_laws_FnExactUseSegments_S {aS0Trial : Int} {aS0Safe : Int} {aS0New : List Int} {aS0Old : List Int} {aKey1 : Int} {k : Bool → Prop} (h : F_laws_FnExactUseSegments aS0Trial aS0Safe aS0New aS0Old aKey1 k) : S_laws_FnExactUseSegments aS0Trial aS0Safe aS0New aS0Old aKey1 k := h
theorem law_FnExactUseSegments (sTrial : Int) (rsTrial : InR sTrial) (sSafe : Int) (rsSafe : InR sSafe) (sNew : List Int) (lsNew : sNew.length ≤ maxLen) (rsNew : ∀ x ∈ sNew, InR x) (sOld : List Int) (lsOld : sOld.length ≤ maxLen) (rsOld : ∀ x ∈ sOld, InR x) (key : Int) (rkey : InR key) :
    F_laws_FnExactUseSegments sTrial sSafe sNew sOld key (fun r => r = true) := by
  refine ⟨⟨lsNew, lsOld, by omega, by omega⟩, fun z0 _ _ s0 => br_dec.2 ⟨fun _ => rfl, fun t0 => ?_⟩⟩
  have u0 := s0 (by omega)
  have ms : sNew.length ≤ 1000000000 ∧ sOld.length ≤ 1000000000 := ⟨by omega, by omega⟩
  by_cases v : VSegs sTrial sSafe sNew sOld ∧ 0 ≤ key ∧ key ≤ 31
  · have m2 := (by have := segs_len (segM_valid (key := key) v.1 v.2); exact ⟨by omega, by omega⟩ : (segM sTrial sSafe sNew sOld key).1.length ≤ 1000000000 ∧ (segM sTrial sSafe sNew sOld key).2.1.length ≤ 1000000000)
    exact ⟨ms, ⟨fun _ => ⟨ms, ⟨fun _ => eqSegments_same m2 (br_nt (br_same (⟨ms, eqSegments_same ms (br_nt (⟨⟨ms.1, ms.2, by omega, by omega⟩, br_lt0 (by omega) (eqSegments_same m2 (br_nt (br_same (⟨⟨m2.1, m2.2, by omega, by omega⟩, ⟨_, _, ⟨m2.1, m2.2, by omega, by omega⟩, rfl, rfl, br_lt0 (by omega) (br_same' (⟨ms, ⟨fun _ => eqSegments_same m2 (br_nt (br_same (⟨_, _, ⟨m2.1, m2.2, by omega, by omega⟩, rfl, rfl, br_lt0 (by omega) (br_same' rfl)⟩))), fun h => absurd v h⟩⟩))⟩⟩))))⟩))⟩))), fun h => absurd v h⟩⟩, fun h => absurd v h⟩⟩
  · have m2 : ([] : List Int).length ≤ 1000000000 ∧ ([] : List Int).length ≤ 1000000000 := by simp
    exact ⟨ms, ⟨fun h => absurd h v, fun _ => ⟨ms, ⟨fun h => absurd h v, fun _ => eqSegments_same m2 (br_nt (br_same (⟨ms, eqSegments_same ms (br_nt (⟨⟨ms.1, ms.2, by omega, by omega⟩, br_lt0 (by omega) (eqSegments_same m2 (br_nt (br_same (⟨⟨m2.1, m2.2, by omega, by omega⟩, ⟨_, _, ⟨m2.1, m2.2, by omega, by omega⟩, rfl, rfl, br_lt0 (by omega) (br_same' (⟨ms, ⟨fun h => absurd h v, fun _ => eqSegments_same m2 (br_nt (br_same (⟨_, _, ⟨m2.1, m2.2, by omega, by omega⟩, rfl, rfl, br_lt0 (by omega) (br_same' rfl)⟩)))⟩⟩))⟩⟩))))⟩))⟩)))⟩⟩⟩⟩
end Go.Ev
