/- What the functions that the law reaches do, written as plain Lean. No statement is proved here. -/
import Derived.Test.YtlobdkcjlpifjabFnRunRecentTwiceP0
namespace Go.Ev
set_option linter.unusedVariables false
open Go
def L0_impl_withoutKey (key1 : Int) (list0 : List Int) (xt10 : Int) (k : List Int → Prop) : Nat → Int → List Int → Prop
  | 0, _, _ => False
  | n + 1, xt11, xout5 => T0_impl_withoutKey key1 list0 xt10 xt11 xout5 k (L0_impl_withoutKey key1 list0 xt10 k n)
def G_impl_withoutKey (list0 : List Int) (key1 : Int) (I0 : Int → List Int → Int → Int → List Int → Prop) : Prop :=
  I0 key1 list0 (list0.length : Int) 0 ([] : List Int)
def S_impl_withoutKey (list0 : List Int) (key1 : Int) (k : List Int → Prop) : Prop := G_impl_withoutKey list0 key1 (fun key1 list0 xt10 xt11 xout5 => ∃ j, L0_impl_withoutKey key1 list0 xt10 k j xt11 xout5)
def F_impl_withoutKey (l : List Int) (key : Int) (k : List Int → Prop) : Prop := l.length ≤ 1000000000 ∧ k (rmK l key)
theorem F_impl_withoutKey_S {l : List Int} {key : Int} {k : List Int → Prop} (h : F_impl_withoutKey l key k) : S_impl_withoutKey l key k := by
  obtain ⟨hl, hk⟩ := h
  have key1 : ∀ (r : List Int) (i : Nat) (out : List Int), l.drop i = r → out.length ≤ i → out ++ rmK r key = rmK l key → L0_impl_withoutKey key l (l.length : Int) k (r.length + 1) (i : Int) out := by
    intro r
    induction r with
    | nil =>
      intro i out hd ho he
      have := drop_nil' hd
      rw [L0_impl_withoutKey, T0_impl_withoutKey]
      simp only [br_dec]
      refine ⟨fun h => by omega, fun _ => ?_⟩
      have : out = rmK l key := by simpa [rmK] using he
      rw [this]; exact hk
    | cons x r ih =>
      intro i out hd ho he
      obtain ⟨h1, h2, _, h3, _⟩ := drop_cons' hd
      rw [List.length_cons, L0_impl_withoutKey, T0_impl_withoutKey]
      simp only [br_dec, br_bne, Int.toNat_natCast, h2]
      refine ⟨fun _ => ⟨⟨by omega, by omega⟩, fun hx => ⟨by omega, inR (by omega) (by omega), ?_⟩, fun hx => ⟨inR (by omega) (by omega), ?_⟩⟩, fun h => by omega⟩
      · exact ih (i + 1) (out ++ [x]) h3 (by simp; omega) (by rw [← he, rmK_cons_ne hx]; simp)
      · exact ih (i + 1) out h3 (by omega) (by rw [← he, hx, rmK_cons_eq])
  exact ⟨_, key1 l 0 [] rfl (by simp) rfl⟩
-- impl.putFirst
def G_impl_putFirst (list0 : List Int) (key1 : Int) (k : List Int → Prop) : Prop :=
  (1 + list0.length ≤ 1000000000) ∧
  k (([key1] : List Int) ++ list0)
def S_impl_putFirst (list0 : List Int) (key1 : Int) (k : List Int → Prop) : Prop := G_impl_putFirst list0 key1 k
def F_impl_putFirst (l : List Int) (x : Int) (k : List Int → Prop) : Prop := l.length ≤ 999999999 ∧ k (x :: l)
theorem F_impl_putFirst_S {l : List Int} {x : Int} {k : List Int → Prop} (h : F_impl_putFirst l x k) : S_impl_putFirst l x k := ⟨by have := h.1; omega, h.2⟩
-- impl.UseRecent
def G_impl_UseRecent (list0 : List Int) (room1 : Int) (key2 : Int) (k : List Int → Bool → Prop) : Prop :=
  F_impl_ValidKeys list0 room1 fun validKeys11 =>
  br (!validKeys11)
  (k ([] : List Int) false)
  (F_impl_validKey key2 fun validKey15 =>
    br (!validKey15)
    (k ([] : List Int) false)
    (F_impl_withoutKey list0 key2 fun withoutKey20 =>
      F_impl_putFirst withoutKey20 key2 fun putFirst22 =>
      (0 ≤ (if room1 < (putFirst22.length : Int) then room1 else (putFirst22.length : Int)) ∧ (if room1 < (putFirst22.length : Int) then room1 else (putFirst22.length : Int)) ≤ (putFirst22.length : Int)) ∧
      (F_slices_Contains_sint_int list0 key2 fun contains31 =>
        k (List.take (Int.toNat (if room1 < (putFirst22.length : Int) then room1 else (putFirst22.length : Int))) (List.drop 0 putFirst22)) contains31) ∧
      (True)))
def H_impl_UseRecent (list0 : List Int) (room1 : Int) (key2 : Int) (k : List Int → Bool → Prop) : Prop :=
  F_impl_ValidKeys list0 room1 fun validKeys11 =>
  br (!validKeys11)
  (k ([] : List Int) false)
  (F_impl_validKey key2 fun validKey15 =>
    br (!validKey15)
    (k ([] : List Int) false)
    (F_impl_withoutKey list0 key2 fun withoutKey20 =>
      F_impl_putFirst withoutKey20 key2 fun putFirst22 =>
      (0 ≤ (if room1 < (putFirst22.length : Int) then room1 else (putFirst22.length : Int)) ∧ (if room1 < (putFirst22.length : Int) then room1 else (putFirst22.length : Int)) ≤ (putFirst22.length : Int)) ∧
      F_slices_Contains_sint_int list0 key2 fun contains31 =>
      k (List.take (Int.toNat (if room1 < (putFirst22.length : Int) then room1 else (putFirst22.length : Int))) (List.drop 0 putFirst22)) contains31))
theorem G_impl_UseRecent_eq (list0 : List Int) (room1 : Int) (key2 : Int) (k : List Int → Bool → Prop) : G_impl_UseRecent list0 room1 key2 k = H_impl_UseRecent list0 room1 key2 k := by
  simp only [G_impl_UseRecent, H_impl_UseRecent, and_self, and_true]
def S_impl_UseRecent (list0 : List Int) (room1 : Int) (key2 : Int) (k : List Int → Bool → Prop) : Prop := H_impl_UseRecent list0 room1 key2 k
def F_impl_UseRecent (l : List Int) (room key : Int) (k : List Int → Bool → Prop) : Prop :=
  (VKeys l room ∧ 0 ≤ key ∧ key ≤ 31 → k (recM l room key) (decide (key ∈ l))) ∧ (¬ (VKeys l room ∧ 0 ≤ key ∧ key ≤ 31) → k [] false)
theorem F_impl_UseRecent_S {l : List Int} {room key : Int} {k : List Int → Bool → Prop} (h : F_impl_UseRecent l room key k) : S_impl_UseRecent l room key k := by
  obtain ⟨hyes, hno⟩ := h
  intro b hb
  refine br_not.2 (br_iff.2 ⟨fun e => br_not.2 (br_dec.2 ⟨fun hkey => ?_, fun hkey => hno fun w => hkey w.2⟩), fun e => hno fun w => by rw [hb.2 w.1] at e; cases e⟩)
  have v := hb.1 e
  have hk := hyes ⟨v, hkey⟩
  obtain ⟨v1, v2, v3, v4, v5⟩ := v
  have := @rmK_le l key
  refine ⟨by omega, by omega, ⟨?_, ?_⟩, by omega, ?_⟩
  · split <;> omega
  · split <;> omega
  · show k (List.take (if room < (([key] ++ rmK l key).length : Int) then room else (([key] ++ rmK l key).length : Int)).toNat ([key] ++ rmK l key)) (decide (key ∈ l))
    rw [take_min2]; exact hk
-- impl.runTrace$1
def G_impl_runTrace_1_UseRecent (list0 : List Int) (key1 : Int) (cap1 : Int) (k : List Int → Bool → Prop) : Prop :=
  F_impl_UseRecent list0 cap1 key1 fun useRecent12r0 useRecent12r1 =>
  k useRecent12r0 useRecent12r1
def S_impl_runTrace_1_UseRecent (list0 : List Int) (key1 : Int) (cap1 : Int) (k : List Int → Bool → Prop) : Prop := G_impl_runTrace_1_UseRecent list0 key1 cap1 k
abbrev F_impl_runTrace_1_UseRecent (list0 : List Int) (key1 : Int) (cap1 : Int) (k : List Int → Bool → Prop) : Prop := S_impl_runTrace_1_UseRecent list0 key1 cap1 k
theorem F_impl_runTrace_1_UseRecent_S {list0 : List Int} {key1 : Int} {cap1 : Int} {k : List Int → Bool → Prop} (h : F_impl_runTrace_1_UseRecent list0 key1 cap1 k) : S_impl_runTrace_1_UseRecent list0 key1 cap1 k := h
-- impl.useAll[[]int]
def T0_impl_useAll_sint_runTrace_1_UseRecent (t0 : List Int) (use2c1 : Int) (xt14 : Int) (xhits8 : Int) (xt15 : Int) (xcache1 : List Int) (k : List Int → Int → Prop) (B0 : Int → Int → List Int → Prop) : Prop :=
  br (decide (xt15 < xt14))
  ((0 ≤ xt15 ∧ xt15 < (t0.length : Int)) ∧
    F_impl_runTrace_1_UseRecent xcache1 (List.getD t0 (Int.toNat xt15) (0 : Int)) use2c1 fun runTrace123r0 runTrace123r1 =>
    br runTrace123r1
    (InR (xhits8 + 1) ∧
      InR (xt15 + 1) ∧
      B0 (xhits8 + 1) (xt15 + 1) runTrace123r0)
    (InR (xt15 + 1) ∧
      B0 xhits8 (xt15 + 1) runTrace123r0))
  (k xcache1 xhits8)
def L0_impl_useAll_sint_runTrace_1_UseRecent (t0 : List Int) (use2c1 : Int) (xt14 : Int) (k : List Int → Int → Prop) : Nat → Int → Int → List Int → Prop
  | 0, _, _, _ => False
  | n + 1, xhits8, xt15, xcache1 => T0_impl_useAll_sint_runTrace_1_UseRecent t0 use2c1 xt14 xhits8 xt15 xcache1 k (L0_impl_useAll_sint_runTrace_1_UseRecent t0 use2c1 xt14 k n)
def G_impl_useAll_sint_runTrace_1_UseRecent (t0 : List Int) (cache1 : List Int) (use2c1 : Int) (I0 : List Int → Int → Int → Int → Int → List Int → Prop) : Prop :=
  I0 t0 use2c1 (t0.length : Int) 0 0 cache1
def S_impl_useAll_sint_runTrace_1_UseRecent (t0 : List Int) (cache1 : List Int) (use2c1 : Int) (k : List Int → Int → Prop) : Prop := G_impl_useAll_sint_runTrace_1_UseRecent t0 cache1 use2c1 (fun t0 use2c1 xt14 xhits8 xt15 xcache1 => ∃ j, L0_impl_useAll_sint_runTrace_1_UseRecent t0 use2c1 xt14 k j xhits8 xt15 xcache1)
def F_impl_useAll_sint_runTrace_1_UseRecent (t l : List Int) (room : Int) (k : List Int → Int → Prop) : Prop := (VTrace t ∧ VKeys l room) ∧ k (runR room t l 0).1 (runR room t l 0).2
theorem F_impl_useAll_sint_runTrace_1_UseRecent_S {t l : List Int} {room : Int} {k : List Int → Int → Prop} (h : F_impl_useAll_sint_runTrace_1_UseRecent t l room k) : S_impl_useAll_sint_runTrace_1_UseRecent t l room k := by
  obtain ⟨⟨⟨t1, t2⟩, v⟩, hk⟩ := h
  have key : ∀ (r : List Int) (i : Nat) (l : List Int) (n : Int), t.drop i = r → VKeys l room → 0 ≤ n → n ≤ i → k (runR room r l n).1 (runR room r l n).2 → L0_impl_useAll_sint_runTrace_1_UseRecent t room (t.length : Int) k (r.length + 1) n (i : Int) l := by
    intro r
    induction r with
    | nil =>
      intro i l n hdr v n0 n1 hk
      have := drop_nil' hdr
      rw [L0_impl_useAll_sint_runTrace_1_UseRecent, T0_impl_useAll_sint_runTrace_1_UseRecent]
      simp only [br_dec]
      exact ⟨fun h => by omega, fun _ => hk⟩
    | cons x r ih =>
      intro i l n hdr v n0 n1 hk
      obtain ⟨h1, h2, h5, h3, h4⟩ := drop_cons' hdr
      have hx := t2 x (List.mem_of_getElem? h5)
      rw [List.length_cons, L0_impl_useAll_sint_runTrace_1_UseRecent, T0_impl_useAll_sint_runTrace_1_UseRecent]
      simp only [br_dec, Int.toNat_natCast, h2]
      refine ⟨fun _ => ⟨⟨by omega, by omega⟩, fun _ => ?_, fun hv => absurd ⟨v, hx⟩ hv⟩, fun h => by omega⟩
      rw [runR] at hk
      show br (decide (x ∈ l)) _ _
      rw [br_iff]
      refine ⟨fun e => ⟨inR (by omega) (by omega), inR (by omega) (by omega), ?_⟩, fun e => ⟨inR (by omega) (by omega), ?_⟩⟩
      · rw [e] at hk
        exact ih (i + 1) _ _ h3 (recM_valid v hx) (by omega) (by omega) hk
      · rw [e] at hk
        rw [show n + toI false = n by simp [toI]] at hk
        exact ih (i + 1) _ _ h3 (recM_valid v hx) (by omega) (by omega) hk
  exact ⟨_, key t 0 l 0 rfl v (by omega) (by omega) hk⟩
-- impl.runTrace
def G_impl_runTrace_UseRecent (t0 : List Int) (room1 : Int) (k : List Int → Int → Prop) : Prop :=
  F_impl_ValidTrace t0 fun validTrace9 =>
  br (!validTrace9)
  (k ([] : List Int) (-1))
  (F_impl_validRoom room1 fun validRoom13 =>
    br (!validRoom13)
    (k ([] : List Int) (-1))
    (F_impl_useAll_sint_runTrace_1_UseRecent t0 ([] : List Int) room1 fun useAll19r0 useAll19r1 =>
      k useAll19r0 useAll19r1))
def S_impl_runTrace_UseRecent (t0 : List Int) (room1 : Int) (k : List Int → Int → Prop) : Prop := G_impl_runTrace_UseRecent t0 room1 k
def F_impl_runTrace_UseRecent (t : List Int) (room : Int) (k : List Int → Int → Prop) : Prop :=
  ((VTrace t ∧ 1 ≤ room ∧ room ≤ 8) → k (runR room t [] 0).1 (runR room t [] 0).2) ∧ (¬ (VTrace t ∧ 1 ≤ room ∧ room ≤ 8) → k [] (-1))
theorem F_impl_runTrace_UseRecent_S {t : List Int} {room : Int} {k : List Int → Int → Prop} (h : F_impl_runTrace_UseRecent t room k) : S_impl_runTrace_UseRecent t room k := by
  obtain ⟨hyes, hno⟩ := h
  intro b hb
  rw [br_not, br_iff]
  refine ⟨fun e => br_not.2 (br_dec.2 ⟨fun hr => ?_, fun hr => hno fun w => hr w.2⟩), fun e => hno fun v => by rw [hb.2 v.1] at e; cases e⟩
  have v := hb.1 e
  exact ⟨⟨v, keys0 hr⟩, hyes ⟨v, hr⟩⟩
-- impl.RunRecent
def G_impl_RunRecent (t0 : List Int) (room1 : Int) (k : List Int → Int → Prop) : Prop :=
  F_impl_runTrace_UseRecent t0 room1 fun runTrace8r0 runTrace8r1 =>
  k runTrace8r0 runTrace8r1
def S_impl_RunRecent (t0 : List Int) (room1 : Int) (k : List Int → Int → Prop) : Prop := G_impl_RunRecent t0 room1 k
def F_impl_RunRecent (t : List Int) (room : Int) (k : List Int → Int → Prop) : Prop :=
  ((VTrace t ∧ 1 ≤ room ∧ room ≤ 8) → k (runR room t [] 0).1 (runR room t [] 0).2) ∧ (¬ (VTrace t ∧ 1 ≤ room ∧ room ≤ 8) → k [] (-1))
theorem F_impl_RunRecent_S {t : List Int} {room : Int} {k : List Int → Int → Prop} (h : F_impl_RunRecent t room k) : S_impl_RunRecent t room k := h
-- spec.inRange
def G_spec_inRange (n0 : Int) (low1 : Int) (high2 : Int) (k : Bool → Prop) : Prop :=
  br (decide (low1 ≤ n0))
  (k (decide (n0 ≤ high2)))
  (k false)
def S_spec_inRange (n0 : Int) (low1 : Int) (high2 : Int) (k : Bool → Prop) : Prop := G_spec_inRange n0 low1 high2 k
def F_spec_inRange (n low high : Int) (k : Bool → Prop) : Prop := k (decide (low ≤ n ∧ n ≤ high))
theorem F_spec_inRange_S {n low high : Int} {k : Bool → Prop} (h : F_spec_inRange n low high k) : S_spec_inRange n low high k := by
  unfold F_spec_inRange at h
  simp only [S_spec_inRange, G_spec_inRange, br_dec]
  refine ⟨fun h1 => ?_, fun h1 => ?_⟩
  · simpa [h1] using h
  · simpa [h1] using h
-- spec.allIn
def T0_spec_allIn (high2 : Int) (list0 : List Int) (low1 : Int) (xi7 : Int) (k : Bool → Prop) (B0 : Int → Prop) : Prop :=
  br (decide (xi7 < (list0.length : Int)))
  ((0 ≤ xi7 ∧ xi7 < (list0.length : Int)) ∧
    F_spec_inRange (List.getD list0 (Int.toNat xi7) (0 : Int)) low1 high2 fun inRange20 =>
    br (!inRange20)
    (k false)
    (InR (xi7 + 1) ∧
      B0 (xi7 + 1)))
  (k true)
def L0_spec_allIn (high2 : Int) (list0 : List Int) (low1 : Int) (k : Bool → Prop) : Nat → Int → Prop
  | 0, _ => False
  | n + 1, xi7 => T0_spec_allIn high2 list0 low1 xi7 k (L0_spec_allIn high2 list0 low1 k n)
def G_spec_allIn (list0 : List Int) (low1 : Int) (high2 : Int) (I0 : Int → List Int → Int → Int → Prop) : Prop :=
  I0 high2 list0 low1 0
def S_spec_allIn (list0 : List Int) (low1 : Int) (high2 : Int) (k : Bool → Prop) : Prop := G_spec_allIn list0 low1 high2 (fun high2 list0 low1 xi7 => ∃ j, L0_spec_allIn high2 list0 low1 k j xi7)
def F_spec_allIn (l : List Int) (low high : Int) (k : Bool → Prop) : Prop := l.length ≤ 1000000000 ∧ k (decide (∀ x ∈ l, low ≤ x ∧ x ≤ high))
theorem F_spec_allIn_S {l : List Int} {low high : Int} {k : Bool → Prop} (h : F_spec_allIn l low high k) : S_spec_allIn l low high k := by
  obtain ⟨hl, hk⟩ := h
  have key : ∀ (r : List Int) (i : Nat), l.drop i = r → ((∀ x ∈ r, low ≤ x ∧ x ≤ high) ↔ (∀ x ∈ l, low ≤ x ∧ x ≤ high)) → L0_spec_allIn high l low k (r.length + 1) (i : Int) := by
    intro r
    induction r with
    | nil =>
      intro i hd he
      have := drop_nil' hd
      rw [L0_spec_allIn, T0_spec_allIn]
      simp only [br_dec]
      refine ⟨fun h => by omega, fun _ => ?_⟩
      rwa [decide_eq_true (he.1 (by simp))] at hk
    | cons x r ih =>
      intro i hd he
      obtain ⟨h1, h2, _, h3, _⟩ := drop_cons' hd
      rw [List.length_cons, L0_spec_allIn, T0_spec_allIn]
      simp only [br_dec, F_spec_inRange, br_not, Int.toNat_natCast, h2]
      refine ⟨fun _ => ⟨⟨by omega, by omega⟩, fun hx => ⟨inR (by omega) (by omega), ?_⟩, fun hx => ?_⟩, fun h => by omega⟩
      · refine ih (i + 1) h3 (Iff.trans ?_ he)
        simp only [List.mem_cons, forall_eq_or_imp]
        exact ⟨fun h => ⟨hx, h⟩, fun h => h.2⟩
      · rwa [decide_eq_false (fun h => hx (he.2 h x (by simp)))] at hk
  exact ⟨_, key l 0 rfl Iff.rfl⟩
-- spec.validTrace
def G_spec_validTrace (t0 : List Int) (k : Bool → Prop) : Prop :=
  br (decide ((t0.length : Int) ≤ 24))
  (F_spec_allIn t0 (0 : Int) (31 : Int) fun allIn8 =>
    k allIn8)
  (k false)
def S_spec_validTrace (t0 : List Int) (k : Bool → Prop) : Prop := G_spec_validTrace t0 k
def F_spec_validTrace (t : List Int) (k : Bool → Prop) : Prop := ∀ b : Bool, (b = true ↔ VTrace t) → k b
theorem F_spec_validTrace_S {t : List Int} {k : Bool → Prop} (h : F_spec_validTrace t k) : S_spec_validTrace t k :=
  br_dec.2 ⟨fun h1 => ⟨by omega, h _ (by simp only [decide_eq_true_eq]; exact ⟨fun h2 => ⟨by omega, h2⟩, fun v => v.2⟩)⟩, fun h1 => h false (by simp only [Bool.false_eq_true, false_iff]; exact fun v => h1 (by have := v.1; omega))⟩
-- spec.placeOf
def T0_spec_placeOf (list0 : List Int) (n1 : Int) (xi5 : Int) (k : Int → Prop) (B0 : Int → Prop) : Prop :=
  br (decide (xi5 < (list0.length : Int)))
  ((0 ≤ xi5 ∧ xi5 < (list0.length : Int)) ∧
    br ((List.getD list0 (Int.toNat xi5) (0 : Int)) == n1)
    (k xi5)
    (InR (xi5 + 1) ∧
      B0 (xi5 + 1)))
  (k (-1))
def L0_spec_placeOf (list0 : List Int) (n1 : Int) (k : Int → Prop) : Nat → Int → Prop
  | 0, _ => False
  | n + 1, xi5 => T0_spec_placeOf list0 n1 xi5 k (L0_spec_placeOf list0 n1 k n)
def G_spec_placeOf (list0 : List Int) (n1 : Int) (I0 : List Int → Int → Int → Prop) : Prop :=
  I0 list0 n1 0
def S_spec_placeOf (list0 : List Int) (n1 : Int) (k : Int → Prop) : Prop := G_spec_placeOf list0 n1 (fun list0 n1 xi5 => ∃ j, L0_spec_placeOf list0 n1 k j xi5)
def F_spec_placeOf (l : List Int) (n : Int) (k : Int → Prop) : Prop := l.length ≤ 1000000000 ∧ k (plc l n)
theorem F_spec_placeOf_S {l : List Int} {n : Int} {k : Int → Prop} (h : F_spec_placeOf l n k) : S_spec_placeOf l n k := by
  obtain ⟨hl, hk⟩ := h
  have key : ∀ (r : List Int) (i : Nat), l.drop i = r → plcF r n i = plc l n → L0_spec_placeOf l n k (r.length + 1) (i : Int) := by
    intro r
    induction r with
    | nil =>
      intro i hd he
      have := drop_nil' hd
      rw [L0_spec_placeOf, T0_spec_placeOf]
      simp only [br_dec]
      exact ⟨fun h => by omega, fun _ => by rw [show (-1 : Int) = plc l n from he]; exact hk⟩
    | cons x r ih =>
      intro i hd he
      obtain ⟨h1, h2, _, h3, _⟩ := drop_cons' hd
      rw [List.length_cons, L0_spec_placeOf, T0_spec_placeOf]
      simp only [br_dec, br_beq, Int.toNat_natCast, h2]
      refine ⟨fun _ => ⟨⟨by omega, by omega⟩, fun hx => ?_, fun hx => ⟨inR (by omega) (by omega), ?_⟩⟩, fun h => by omega⟩
      · simp only [plcF, if_pos hx] at he; rw [he]; exact hk
      · simp only [plcF, if_neg hx] at he; exact ih (i + 1) h3 he
  exact ⟨_, key l 0 rfl rfl⟩
-- spec.without
def G_spec_without (list0 : List Int) (at1 : Int) (k : List Int → Prop) : Prop :=
  (0 ≤ at1 ∧ at1 ≤ (list0.length : Int)) ∧
  InR (at1 + 1) ∧
  (0 ≤ (at1 + 1) ∧ (at1 + 1) ≤ (list0.length : Int)) ∧
  (((0 + (List.length (List.take (Int.toNat at1) list0)) ≤ 1000000000) ∧
      (((List.length (List.take (Int.toNat at1) list0)) + (List.length (List.drop (Int.toNat (at1 + 1)) list0)) ≤ 1000000000) ∧
        k ((List.take (Int.toNat at1) list0) ++ (List.drop (Int.toNat (at1 + 1)) list0))) ∧
      (True)) ∧
    (True)) ∧
  (True)
def H_spec_without (list0 : List Int) (at1 : Int) (k : List Int → Prop) : Prop :=
  (0 ≤ at1 ∧ at1 ≤ (list0.length : Int)) ∧
  InR (at1 + 1) ∧
  (0 ≤ (at1 + 1) ∧ (at1 + 1) ≤ (list0.length : Int)) ∧
  (0 + (List.length (List.take (Int.toNat at1) list0)) ≤ 1000000000) ∧
  ((List.length (List.take (Int.toNat at1) list0)) + (List.length (List.drop (Int.toNat (at1 + 1)) list0)) ≤ 1000000000) ∧
  k ((List.take (Int.toNat at1) list0) ++ (List.drop (Int.toNat (at1 + 1)) list0))
theorem G_spec_without_eq (list0 : List Int) (at1 : Int) (k : List Int → Prop) : G_spec_without list0 at1 k = H_spec_without list0 at1 k := by
  simp only [G_spec_without, H_spec_without, and_self, and_true]
def S_spec_without (list0 : List Int) (at1 : Int) (k : List Int → Prop) : Prop := H_spec_without list0 at1 k
def F_spec_without (l : List Int) (at1 : Int) (k : List Int → Prop) : Prop := (0 ≤ at1 ∧ at1 < l.length ∧ l.length ≤ 1000000000) ∧ k (l.take at1.toNat ++ l.drop (at1.toNat + 1))
theorem F_spec_without_S {l : List Int} {at1 : Int} {k : List Int → Prop} (h : F_spec_without l at1 k) : S_spec_without l at1 k := by
  obtain ⟨⟨h1, h2, h3⟩, hk⟩ := h
  have e : (at1 + 1).toNat = at1.toNat + 1 := by omega
  refine ⟨⟨by omega, by omega⟩, inR (by omega) (by omega), ⟨by omega, by omega⟩, by simp; omega, by simp; omega, ?_⟩
  rw [e]; exact hk
-- spec.recent
def G_spec_recent (list0 : List Int) (room1 : Int) (key2 : Int) (k : List Int → Bool → Prop) : Prop :=
  F_spec_placeOf list0 key2 fun placeOf12 =>
  br (decide (placeOf12 ≥ 0))
  (F_spec_without list0 placeOf12 fun without19 =>
    (1 + without19.length ≤ 1000000000) ∧
    k (([key2] : List Int) ++ without19) true)
  ((1 + list0.length ≤ 1000000000) ∧
    (0 ≤ (if ((List.length (([key2] : List Int) ++ list0)) : Int) < room1 then ((List.length (([key2] : List Int) ++ list0)) : Int) else room1) ∧ (if ((List.length (([key2] : List Int) ++ list0)) : Int) < room1 then ((List.length (([key2] : List Int) ++ list0)) : Int) else room1) ≤ ((List.length (([key2] : List Int) ++ list0)) : Int)) ∧
    k (List.take (Int.toNat (if ((List.length (([key2] : List Int) ++ list0)) : Int) < room1 then ((List.length (([key2] : List Int) ++ list0)) : Int) else room1)) (List.drop 0 (([key2] : List Int) ++ list0))) false)
def S_spec_recent (list0 : List Int) (room1 : Int) (key2 : Int) (k : List Int → Bool → Prop) : Prop := G_spec_recent list0 room1 key2 k
def F_spec_recent (l : List Int) (room key : Int) (k : List Int → Bool → Prop) : Prop := VKeys l room ∧ k (recM l room key) (decide (key ∈ l))
theorem F_spec_recent_S {l : List Int} {room key : Int} {k : List Int → Bool → Prop} (h : F_spec_recent l room key k) : S_spec_recent l room key k := by
  obtain ⟨⟨v1, v2, v3, v4, v5⟩, hk⟩ := h
  refine ⟨by omega, br_dec.2 ⟨fun hp => ?_, fun hp => ?_⟩⟩
  · have hm := plc_ge.1 hp
    obtain ⟨j, j1, j2, _, j3⟩ := plc_pos hm
    rw [j3]
    refine ⟨⟨by omega, by omega, by omega⟩, ?_⟩
    rw [Int.toNat_natCast, rmK_erase v5 j2]
    have := rmK_len v5 hm
    refine ⟨by omega, ?_⟩
    rw [recM_hit v5 v3 hm, decide_eq_true hm] at hk; exact hk
  · have hm : key ∉ l := fun e => hp (plc_ge.2 e)
    refine ⟨by omega, ⟨?_, ?_⟩, ?_⟩
    · split <;> omega
    · split <;> omega
    · rw [recM_miss hm, decide_eq_false hm] at hk
      rw [List.drop_zero, take_min1]; exact hk
-- spec.toInt
def G_spec_toInt (b0 : Bool) (k : Int → Prop) : Prop :=
  br b0
  (k 1)
  (k 0)
def S_spec_toInt (b0 : Bool) (k : Int → Prop) : Prop := G_spec_toInt b0 k
def F_spec_toInt (b : Bool) (k : Int → Prop) : Prop := k (toI b)
theorem F_spec_toInt_S {b : Bool} {k : Int → Prop} (h : F_spec_toInt b k) : S_spec_toInt b k := by
  cases b <;> exact h
-- spec.RunRecent
def T0_spec_RunRecent (room1 : Int) (t0 : List Int) (xn7 : Int) (xi8 : Int) (xlist6 : List Int) (k : List Int → Int → Prop) (B0 : Int → Int → List Int → Prop) : Prop :=
  br (decide (xi8 < (t0.length : Int)))
  ((0 ≤ xi8 ∧ xi8 < (t0.length : Int)) ∧
    F_spec_recent xlist6 room1 (List.getD t0 (Int.toNat xi8) (0 : Int)) fun recent32r0 recent32r1 =>
    F_spec_toInt recent32r1 fun toInt37 =>
    InR (xn7 + toInt37) ∧
    InR (xi8 + 1) ∧
    B0 (xn7 + toInt37) (xi8 + 1) recent32r0)
  ((0 + xlist6.length ≤ 1000000000) ∧
    k xlist6 xn7)
def L0_spec_RunRecent (room1 : Int) (t0 : List Int) (k : List Int → Int → Prop) : Nat → Int → Int → List Int → Prop
  | 0, _, _, _ => False
  | n + 1, xn7, xi8, xlist6 => T0_spec_RunRecent room1 t0 xn7 xi8 xlist6 k (L0_spec_RunRecent room1 t0 k n)
def G_spec_RunRecent (t0 : List Int) (room1 : Int) (k : List Int → Int → Prop) (I0 : Int → List Int → Int → Int → List Int → Prop) : Prop :=
  F_spec_validTrace t0 fun validTrace11 =>
  br (!validTrace11)
  (k ([] : List Int) (-1))
  (F_spec_inRange room1 (1 : Int) (8 : Int) fun inRange15 =>
    br (!inRange15)
    (k ([] : List Int) (-1))
    (I0 room1 t0 0 0 ([] : List Int)))
def S_spec_RunRecent (t0 : List Int) (room1 : Int) (k : List Int → Int → Prop) : Prop := G_spec_RunRecent t0 room1 k (fun room1 t0 xn7 xi8 xlist6 => ∃ j, L0_spec_RunRecent room1 t0 k j xn7 xi8 xlist6)
def F_spec_RunRecent (t : List Int) (room : Int) (k : List Int → Int → Prop) : Prop :=
  ((VTrace t ∧ 1 ≤ room ∧ room ≤ 8) → k (runR room t [] 0).1 (runR room t [] 0).2) ∧ (¬ (VTrace t ∧ 1 ≤ room ∧ room ≤ 8) → k [] (-1))
theorem F_spec_RunRecent_S {t : List Int} {room : Int} {k : List Int → Int → Prop} (h : F_spec_RunRecent t room k) : S_spec_RunRecent t room k := by
  obtain ⟨hyes, hno⟩ := h
  intro b hb
  rw [br_not, br_iff]
  refine ⟨fun e => br_not.2 (br_dec.2 ⟨fun hr => ?_, fun hr => hno fun w => hr w.2⟩), fun e => hno fun v => by rw [hb.2 v.1] at e; cases e⟩
  have v := hb.1 e
  have hk := hyes ⟨v, hr⟩
  have t2 := v.2
  have t1 := v.1
  have key : ∀ (r : List Int) (i : Nat) (l : List Int) (n : Int), t.drop i = r → VKeys l room → 0 ≤ n → n ≤ i → k (runR room r l n).1 (runR room r l n).2 → L0_spec_RunRecent room t k (r.length + 1) n (i : Int) l := by
    intro r
    induction r with
    | nil =>
      intro i l n hdr v n0 n1 hk
      have := drop_nil' hdr
      have := vkeys_len v
      rw [L0_spec_RunRecent, T0_spec_RunRecent]
      simp only [br_dec]
      exact ⟨fun h => by omega, fun _ => ⟨by omega, hk⟩⟩
    | cons x r ih =>
      intro i l n hdr v n0 n1 hk
      obtain ⟨h1, h2, h5, h3, h4⟩ := drop_cons' hdr
      have hx := t2 x (List.mem_of_getElem? h5)
      rw [List.length_cons, L0_spec_RunRecent, T0_spec_RunRecent]
      simp only [br_dec, Int.toNat_natCast, h2]
      have := toI_01 (decide (x ∈ l))
      exact ⟨fun _ => ⟨⟨by omega, by omega⟩, v, inR (by omega) (by omega), inR (by omega) (by omega), ih (i + 1) _ _ h3 (recM_valid v hx) (by omega) (by omega) hk⟩, fun h => by omega⟩
  exact ⟨_, key t 0 [] 0 rfl (keys0 hr) (by omega) (by omega) hk⟩
-- laws.equalInts
def T0_laws_equalInts (a0 : List Int) (b1 : List Int) (xi5 : Int) (k : Bool → Prop) (B0 : Int → Prop) : Prop :=
  br (decide (xi5 < (a0.length : Int)))
  ((0 ≤ xi5 ∧ xi5 < (a0.length : Int)) ∧
    (0 ≤ xi5 ∧ xi5 < (b1.length : Int)) ∧
    br ((List.getD a0 (Int.toNat xi5) (0 : Int)) != (List.getD b1 (Int.toNat xi5) (0 : Int)))
    (k false)
    (InR (xi5 + 1) ∧
      B0 (xi5 + 1)))
  (k true)
def L0_laws_equalInts (a0 : List Int) (b1 : List Int) (k : Bool → Prop) : Nat → Int → Prop
  | 0, _ => False
  | n + 1, xi5 => T0_laws_equalInts a0 b1 xi5 k (L0_laws_equalInts a0 b1 k n)
def G_laws_equalInts (a0 : List Int) (b1 : List Int) (k : Bool → Prop) (I0 : List Int → List Int → Int → Prop) : Prop :=
  br ((a0.length : Int) != (b1.length : Int))
  (k false)
  (I0 a0 b1 0)
def S_laws_equalInts (a0 : List Int) (b1 : List Int) (k : Bool → Prop) : Prop := G_laws_equalInts a0 b1 k (fun a0 b1 xi5 => ∃ j, L0_laws_equalInts a0 b1 k j xi5)
def F_laws_equalInts (a b : List Int) (k : Bool → Prop) : Prop := a.length ≤ 1000000000 ∧ k (decide (a = b))
theorem F_laws_equalInts_S {a b : List Int} {k : Bool → Prop} (h : F_laws_equalInts a b k) : S_laws_equalInts a b k := by
  obtain ⟨hl, hk⟩ := h
  refine br_bne.2 ⟨fun he => by rwa [decide_eq_false (fun e => he (by rw [e]))] at hk, fun he => ?_⟩
  have he : a.length = b.length := by omega
  have key : ∀ (r : List Int) (i : Nat), a.drop i = r → (r = b.drop i ↔ a = b) → L0_laws_equalInts a b k (r.length + 1) (i : Int) := by
    intro r
    induction r with
    | nil =>
      intro i hd hi
      have := drop_nil' hd
      rw [L0_laws_equalInts, T0_laws_equalInts]
      simp only [br_dec]
      exact ⟨fun h => by omega, fun _ => by rwa [decide_eq_true (hi.1 (List.drop_eq_nil_of_le (by omega)).symm)] at hk⟩
    | cons x r ih =>
      intro i hd hi
      obtain ⟨h1, h2, _, h3, _⟩ := drop_cons' hd
      obtain ⟨y, s, hs⟩ : ∃ y s, b.drop i = y :: s := by
        cases e : b.drop i with
        | nil => have := drop_nil' e; omega
        | cons y s => exact ⟨y, s, rfl⟩
      obtain ⟨g1, g2, _, g3, _⟩ := drop_cons' hs
      rw [List.length_cons, L0_laws_equalInts, T0_laws_equalInts]
      simp only [br_dec, br_bne, Int.toNat_natCast, h2, g2]
      rw [hs] at hi
      refine ⟨fun _ => ⟨⟨by omega, by omega⟩, ⟨by omega, by omega⟩, ?_⟩, fun h => by omega⟩
      have go : x = y → L0_laws_equalInts a b k (r.length + 1) ((i : Int) + 1) := fun hx => ih (i + 1) h3 (by rw [g3, ← hi, hx]; simp)
      have no : x ≠ y → k false := fun hx => by rwa [decide_eq_false (fun e => hx (List.cons.inj (hi.2 e)).1)] at hk
      exact ⟨no, fun hx => ⟨inR (by omega) (by omega), go hx⟩⟩
  exact ⟨_, key a 0 rfl (by simp)⟩
-- impl.NewKeys
def T0_impl_NewKeys (t0 : List Int) (xt10 : Int) (xcount3 : Int) (xt11 : Int) (k : Int → Prop) (B0 : Int → Int → Prop) : Prop :=
  br (decide (xt11 < xt10))
  ((0 ≤ xt11 ∧ xt11 < (t0.length : Int)) ∧
    (0 ≤ xt11 ∧ xt11 ≤ (t0.length : Int)) ∧
    F_slices_Contains_sint_int (List.take (Int.toNat xt11) t0) (List.getD t0 (Int.toNat xt11) (0 : Int)) fun contains20 =>
    br (!contains20)
    (InR (xcount3 + 1) ∧
      InR (xt11 + 1) ∧
      B0 (xcount3 + 1) (xt11 + 1))
    (InR (xt11 + 1) ∧
      B0 xcount3 (xt11 + 1)))
  (k xcount3)
def L0_impl_NewKeys (t0 : List Int) (xt10 : Int) (k : Int → Prop) : Nat → Int → Int → Prop
  | 0, _, _ => False
  | n + 1, xcount3, xt11 => T0_impl_NewKeys t0 xt10 xcount3 xt11 k (L0_impl_NewKeys t0 xt10 k n)
def G_impl_NewKeys (t0 : List Int) (k : Int → Prop) (I0 : List Int → Int → Int → Int → Prop) : Prop :=
  F_impl_ValidTrace t0 fun validTrace7 =>
  br (!validTrace7)
  (k (-1))
  (I0 t0 (t0.length : Int) 0 0)
def S_impl_NewKeys (t0 : List Int) (k : Int → Prop) : Prop := G_impl_NewKeys t0 k (fun t0 xt10 xcount3 xt11 => ∃ j, L0_impl_NewKeys t0 xt10 k j xcount3 xt11)
def F_impl_NewKeys (t : List Int) (k : Int → Prop) : Prop := (VTrace t → k (nk t : Int)) ∧ (¬ (VTrace t) → k (-1))
theorem F_impl_NewKeys_S {t : List Int} {k : Int → Prop} (h : F_impl_NewKeys t k) : S_impl_NewKeys t k := by
  obtain ⟨hyes, hno⟩ := h
  intro b hb
  refine br_not.2 (br_iff.2 ⟨fun e => ?_, fun e => hno fun w => by rw [hb.2 w] at e; cases e⟩)
  have v := hb.1 e
  have hk := hyes v
  have hl := v.1
  have go : ∀ (m i : Nat), i + m = t.length → L0_impl_NewKeys t (t.length : Int) k (m + 1) (nk (t.take i) : Int) (i : Int) := by
    intro m
    induction m with
    | zero =>
      intro i hi
      rw [show t.take i = t from List.take_of_length_le (by omega), L0_impl_NewKeys, T0_impl_NewKeys]
      exact br_dec.2 ⟨fun h => by omega, fun _ => hk⟩
    | succ m ih =>
      intro i hi
      have := nk_le (t.take i)
      rw [List.length_take] at this
      have next := ih (i + 1) (by omega)
      rw [take_get (by omega), nk_snoc] at next
      rw [L0_impl_NewKeys, T0_impl_NewKeys]
      simp only [Int.toNat_natCast]
      refine br_yd (by omega) ⟨⟨by omega, by omega⟩, ⟨by omega, by omega⟩, by rw [List.length_take]; omega, br_not.2 (br_dec.2 ⟨fun hm => ?_, fun hm => ?_⟩)⟩
      · rw [if_pos hm] at next; exact ⟨inR (by omega) (by omega), next⟩
      · rw [if_neg hm] at next; exact ⟨inR (by omega) (by omega), inR (by omega) (by omega), next⟩
  exact ⟨_, go t.length 0 (by omega)⟩
-- laws.FnRunRecentTwice
def G_laws_FnRunRecentTwice_j0 (runRecent22r0 : List Int) (runRecent22r1 : Int) (runRecent28r0 : List Int) (runRecent28r1 : Int) (k : Bool → Prop) : Prop :=
  F_laws_equalInts runRecent22r0 runRecent28r0 fun equalInts58 =>
  br equalInts58
  (k (runRecent22r1 == runRecent28r1))
  (k false)
def G_laws_FnRunRecentTwice (code0 : List Int) (k : Bool → Prop) : Prop :=
  br (decide ((code0.length : Int) > 1048576))
  (k true)
  (F_spec_DrawRunRecent code0 fun drawRunRecent16r0 drawRunRecent16r1 =>
    F_impl_RunRecent drawRunRecent16r0 drawRunRecent16r1 fun runRecent22r0 runRecent22r1 =>
    F_spec_RunRecent drawRunRecent16r0 drawRunRecent16r1 fun runRecent28r0 runRecent28r1 =>
    F_laws_equalInts runRecent22r0 runRecent28r0 fun equalInts33 =>
    br (!equalInts33)
    (G_laws_FnRunRecentTwice_j0 runRecent22r0 runRecent22r1 runRecent28r0 runRecent28r1 k)
    (br (runRecent22r1 != runRecent28r1)
      (G_laws_FnRunRecentTwice_j0 runRecent22r0 runRecent22r1 runRecent28r0 runRecent28r1 k)
      (br (decide (runRecent22r1 < 0))
        (G_laws_FnRunRecentTwice_j0 runRecent22r0 runRecent22r1 runRecent28r0 runRecent28r1 k)
        (InR (2 * (drawRunRecent16r0.length : Int)) ∧
          br (decide ((2 * (drawRunRecent16r0.length : Int)) > 24))
          (G_laws_FnRunRecentTwice_j0 runRecent22r0 runRecent22r1 runRecent28r0 runRecent28r1 k)
          (F_impl_NewKeys drawRunRecent16r0 fun newKeys52 =>
            br (decide (newKeys52 > drawRunRecent16r1))
            (G_laws_FnRunRecentTwice_j0 runRecent22r0 runRecent22r1 runRecent28r0 runRecent28r1 k)
            ((0 + drawRunRecent16r0.length ≤ 1000000000) ∧
              (drawRunRecent16r0.length + drawRunRecent16r0.length ≤ 1000000000) ∧
              F_impl_RunRecent (drawRunRecent16r0 ++ drawRunRecent16r0) drawRunRecent16r1 fun runRecent71r0 runRecent71r1 =>
              InR (runRecent22r1 + (drawRunRecent16r0.length : Int)) ∧
              k (runRecent71r1 == (runRecent22r1 + (drawRunRecent16r0.length : Int)))))))))
def S_laws_FnRunRecentTwice (code0 : List Int) (k : Bool → Prop) : Prop := G_laws_FnRunRecentTwice code0 k
abbrev F_laws_FnRunRecentTwice (code0 : List Int) (k : Bool → Prop) : Prop := S_laws_FnRunRecentTwice code0 k
theorem F_laws_FnRunRecentTwice_S {code0 : List Int} {k : Bool → Prop} (h : F_laws_FnRunRecentTwice code0 k) : S_laws_FnRunRecentTwice code0 k := h
theorem law_FnRunRecentTwice (code : List Int) (hb : ∀ x ∈ code, 0 ≤ x ∧ x ≤ 255) : F_laws_FnRunRecentTwice code (fun r => r = true) := by
  refine br_dec.2 ⟨fun _ => rfl, fun hlen => ⟨hb, fun t room l1 => ?_⟩⟩
  by_cases v : VTrace t ∧ 1 ≤ room ∧ room ≤ 8
  · have a := runR_facts v.1 v.2
    have hp := a.pos
    have hlen := a.len
    have ht := v.1.1
    have hl : (runR room t [] 0).1.length ≤ 1000000000 := by omega
    have fin : G_laws_FnRunRecentTwice_j0 (runR room t [] 0).1 (runR room t [] 0).2 (runR room t [] 0).1 (runR room t [] 0).2 (fun r => r = true) := ⟨hl, br_de' (beq_t rfl)⟩
    refine yes v (yes v ⟨hl, br_de (br_same' (br_nd (by omega) ⟨inR (by omega) (by omega), br_dec.2 ⟨fun _ => fin, fun h24 => yes v.1 (br_dec.2 ⟨fun _ => fin, fun hk => ?_⟩)⟩⟩))⟩)
    have w := vtrace_twice v.1 (by omega)
    have b := runR_facts w v.2
    have h1 := a.fit (by omega)
    have h2 := b.fit (by rw [nk_twice]; omega)
    rw [nk_twice, List.length_append] at h2
    exact ⟨by omega, by omega, yes ⟨w, v.2⟩ ⟨inR (by omega) (by omega), beq_t (by omega)⟩⟩
  · exact nay v (nay v ⟨by simp, br_de (br_same' (br_yd (by omega) ⟨by simp, br_de' rfl⟩))⟩)
end Go.Ev
