/- What the functions that the law reaches do, written as plain Lean. No statement is proved here. -/
import Derived.Test.YtlobdkcjlpifjabFnRunFirstKeysP0
namespace Go.Ev
set_option linter.unusedVariables false
open Go
def S_impl_differentKeys (list0 : List Int) (k : Bool → Prop) : Prop := G_impl_differentKeys list0 (fun list0 xt6 xt7 => ∃ j, L0_impl_differentKeys list0 xt6 k j xt7)
def F_impl_differentKeys (l : List Int) (k : Bool → Prop) : Prop := l.length ≤ 1000000000 ∧ ∀ b : Bool, (b = true ↔ (∀ x ∈ l, 0 ≤ x ∧ x ≤ 31) ∧ l.Nodup) → k b
theorem F_impl_differentKeys_S {l : List Int} {k : Bool → Prop} (h : F_impl_differentKeys l k) : S_impl_differentKeys l k := by
  obtain ⟨hl, h⟩ := h
  have hno : ¬ ((∀ x ∈ l, 0 ≤ x ∧ x ≤ 31) ∧ l.Nodup) → k false := fun hv => h false (by simp only [Bool.false_eq_true, false_iff]; exact hv)
  have key : ∀ (r : List Int) (i : Nat), l.drop i = r → (∀ x ∈ l.take i, 0 ≤ x ∧ x ≤ 31) → (l.take i).Nodup → L0_impl_differentKeys l (l.length : Int) k (r.length + 1) (i : Int) := by
    intro r
    induction r with
    | nil =>
      intro i hd he hn
      have := drop_nil' hd
      rw [List.take_of_length_le this] at he hn
      rw [L0_impl_differentKeys, T0_impl_differentKeys]
      simp only [br_dec]
      exact ⟨fun h => by omega, fun _ => h true (by simp only [true_iff]; exact ⟨he, hn⟩)⟩
    | cons x r ih =>
      intro i hd he hn
      obtain ⟨h1, h2, h5, h3, h4⟩ := drop_cons' hd
      rw [List.length_cons, L0_impl_differentKeys, T0_impl_differentKeys]
      simp only [br_dec, F_impl_validKey, F_slices_Contains_sint_int, Int.toNat_natCast, h2, br_not]
      have hxl : x ∈ l := List.mem_of_getElem? h5
      refine ⟨fun _ => ⟨⟨by omega, by omega⟩, fun hx => ⟨⟨by omega, by omega⟩, by simp; omega, fun hc => ?_, fun hc => ⟨inR (by omega) (by omega), ?_⟩⟩, fun hx => hno fun v => hx (v.1 x hxl)⟩, fun h => by omega⟩
      · refine hno fun v => ?_
        have hn2 := v.2
        rw [← List.take_append_drop i l, hd] at hn2
        exact (List.nodup_append.1 hn2).2.2 x hc x (by simp) rfl
      · refine ih (i + 1) h3 ?_ ?_
        · rw [h4]; intro y hy
          rcases List.mem_append.1 hy with hy | hy
          · exact he y hy
          · simp at hy; subst hy; exact hx
        · rw [h4, List.nodup_append]
          refine ⟨hn, by simp, fun a ha b hb e => ?_⟩
          simp at hb; subst hb; subst e; exact hc ha
  exact ⟨_, key l 0 rfl (by simp) (by simp)⟩
-- impl.ValidKeys
def G_impl_ValidKeys (list0 : List Int) (room1 : Int) (k : Bool → Prop) : Prop :=
  F_impl_validRoom room1 fun validRoom6 =>
  br validRoom6
  (br (decide ((list0.length : Int) ≤ room1))
    (F_impl_differentKeys list0 fun differentKeys15 =>
      k differentKeys15)
    (k false))
  (k false)
def S_impl_ValidKeys (list0 : List Int) (room1 : Int) (k : Bool → Prop) : Prop := G_impl_ValidKeys list0 room1 k
def F_impl_ValidKeys (l : List Int) (room : Int) (k : Bool → Prop) : Prop := ∀ b : Bool, (b = true ↔ VKeys l room) → k b
theorem F_impl_ValidKeys_S {l : List Int} {room : Int} {k : Bool → Prop} (h : F_impl_ValidKeys l room k) : S_impl_ValidKeys l room k := by
  have hno : ¬ VKeys l room → k false := fun hv => h false (by simp [hv])
  refine br_dec.2 ⟨fun h1 => br_dec.2 ⟨fun h3 => ⟨by omega, fun b hb => h b ?_⟩, fun h3 => hno fun v => by have := v.2.2.1; omega⟩, fun h1 => hno fun v => h1 ⟨v.1, v.2.1⟩⟩
  rw [hb]
  exact ⟨fun g => ⟨h1.1, h1.2, h3, g.1, g.2⟩, fun v => v.2.2.2⟩
-- impl.UseFirst
def G_impl_UseFirst (list0 : List Int) (room1 : Int) (key2 : Int) (k : List Int → Bool → Prop) : Prop :=
  F_impl_ValidKeys list0 room1 fun validKeys11 =>
  br (!validKeys11)
  (k ([] : List Int) false)
  (F_impl_validKey key2 fun validKey15 =>
    br (!validKey15)
    (k ([] : List Int) false)
    ((0 + list0.length ≤ 1000000000) ∧
      F_slices_Contains_sint_int list0 key2 fun contains23 =>
      br contains23
      (k list0 true)
      ((list0.length + 1 ≤ 1000000000) ∧
        InR (((List.length (list0 ++ ([key2] : List Int))) : Int) - room1) ∧
        (0 ≤ (if (((List.length (list0 ++ ([key2] : List Int))) : Int) - room1) < 0 then (0 : Int) else (((List.length (list0 ++ ([key2] : List Int))) : Int) - room1)) ∧ (if (((List.length (list0 ++ ([key2] : List Int))) : Int) - room1) < 0 then (0 : Int) else (((List.length (list0 ++ ([key2] : List Int))) : Int) - room1)) ≤ ((List.length (list0 ++ ([key2] : List Int))) : Int)) ∧
        k (List.take ((List.length (list0 ++ ([key2] : List Int))) - (Int.toNat (if (((List.length (list0 ++ ([key2] : List Int))) : Int) - room1) < 0 then (0 : Int) else (((List.length (list0 ++ ([key2] : List Int))) : Int) - room1)))) (List.drop (Int.toNat (if (((List.length (list0 ++ ([key2] : List Int))) : Int) - room1) < 0 then (0 : Int) else (((List.length (list0 ++ ([key2] : List Int))) : Int) - room1))) (list0 ++ ([key2] : List Int)))) false)))
def S_impl_UseFirst (list0 : List Int) (room1 : Int) (key2 : Int) (k : List Int → Bool → Prop) : Prop := G_impl_UseFirst list0 room1 key2 k
def F_impl_UseFirst (l : List Int) (room key : Int) (k : List Int → Bool → Prop) : Prop :=
  (VKeys l room ∧ 0 ≤ key ∧ key ≤ 31 → k (firM l room key) (decide (key ∈ l))) ∧ (¬ (VKeys l room ∧ 0 ≤ key ∧ key ≤ 31) → k [] false)
theorem F_impl_UseFirst_S {l : List Int} {room key : Int} {k : List Int → Bool → Prop} (h : F_impl_UseFirst l room key k) : S_impl_UseFirst l room key k := by
  obtain ⟨hyes, hno⟩ := h
  intro b hb
  rw [br_not, br_iff]
  refine ⟨fun e => br_not.2 (br_dec.2 ⟨fun hkey => ?_, fun hkey => hno fun w => hkey w.2⟩), fun e => hno fun w => by rw [hb.2 w.1] at e; cases e⟩
  have v := hb.1 e
  have hk := hyes ⟨v, hkey⟩
  obtain ⟨v1, v2, v3, v4, v5⟩ := v
  unfold firM at hk
  refine ⟨by omega, by omega, br_dec.2 ⟨fun hm => ?_, fun hm => ?_⟩⟩
  · rw [if_pos hm, decide_eq_true hm] at hk; exact hk
  · rw [if_neg hm, decide_eq_false hm] at hk
    have hlen : (l ++ [key]).length = l.length + 1 := by simp
    have hX : (if (((List.length (l ++ ([key] : List Int))) : Int) - room) < 0 then (0 : Int) else (((List.length (l ++ ([key] : List Int))) : Int) - room)).toNat = l.length + 1 - room.toNat := by
      rw [hlen]; split <;> omega
    refine ⟨by omega, inR (by omega) (by omega), ⟨?_, ?_⟩, ?_⟩
    · split <;> omega
    · split <;> omega
    · rw [hX, List.take_of_length_le (by simp)]; exact hk
-- impl.runTrace$1
def G_impl_runTrace_1_UseFirst (list0 : List Int) (key1 : Int) (cap1 : Int) (k : List Int → Bool → Prop) : Prop :=
  F_impl_UseFirst list0 cap1 key1 fun useFirst12r0 useFirst12r1 =>
  k useFirst12r0 useFirst12r1
def S_impl_runTrace_1_UseFirst (list0 : List Int) (key1 : Int) (cap1 : Int) (k : List Int → Bool → Prop) : Prop := G_impl_runTrace_1_UseFirst list0 key1 cap1 k
abbrev F_impl_runTrace_1_UseFirst (list0 : List Int) (key1 : Int) (cap1 : Int) (k : List Int → Bool → Prop) : Prop := S_impl_runTrace_1_UseFirst list0 key1 cap1 k
theorem F_impl_runTrace_1_UseFirst_S {list0 : List Int} {key1 : Int} {cap1 : Int} {k : List Int → Bool → Prop} (h : F_impl_runTrace_1_UseFirst list0 key1 cap1 k) : S_impl_runTrace_1_UseFirst list0 key1 cap1 k := h
-- impl.useAll[[]int]
def T0_impl_useAll_sint_runTrace_1_UseFirst (t0 : List Int) (use2c1 : Int) (xt14 : Int) (xhits8 : Int) (xt15 : Int) (xcache1 : List Int) (k : List Int → Int → Prop) (B0 : Int → Int → List Int → Prop) : Prop :=
  br (decide (xt15 < xt14))
  ((0 ≤ xt15 ∧ xt15 < (t0.length : Int)) ∧
    F_impl_runTrace_1_UseFirst xcache1 (List.getD t0 (Int.toNat xt15) (0 : Int)) use2c1 fun runTrace123r0 runTrace123r1 =>
    br runTrace123r1
    (InR (xhits8 + 1) ∧
      InR (xt15 + 1) ∧
      B0 (xhits8 + 1) (xt15 + 1) runTrace123r0)
    (InR (xt15 + 1) ∧
      B0 xhits8 (xt15 + 1) runTrace123r0))
  (k xcache1 xhits8)
def L0_impl_useAll_sint_runTrace_1_UseFirst (t0 : List Int) (use2c1 : Int) (xt14 : Int) (k : List Int → Int → Prop) : Nat → Int → Int → List Int → Prop
  | 0, _, _, _ => False
  | n + 1, xhits8, xt15, xcache1 => T0_impl_useAll_sint_runTrace_1_UseFirst t0 use2c1 xt14 xhits8 xt15 xcache1 k (L0_impl_useAll_sint_runTrace_1_UseFirst t0 use2c1 xt14 k n)
def G_impl_useAll_sint_runTrace_1_UseFirst (t0 : List Int) (cache1 : List Int) (use2c1 : Int) (I0 : List Int → Int → Int → Int → Int → List Int → Prop) : Prop :=
  I0 t0 use2c1 (t0.length : Int) 0 0 cache1
def S_impl_useAll_sint_runTrace_1_UseFirst (t0 : List Int) (cache1 : List Int) (use2c1 : Int) (k : List Int → Int → Prop) : Prop := G_impl_useAll_sint_runTrace_1_UseFirst t0 cache1 use2c1 (fun t0 use2c1 xt14 xhits8 xt15 xcache1 => ∃ j, L0_impl_useAll_sint_runTrace_1_UseFirst t0 use2c1 xt14 k j xhits8 xt15 xcache1)
def F_impl_useAll_sint_runTrace_1_UseFirst (t l : List Int) (room : Int) (k : List Int → Int → Prop) : Prop := (VTrace t ∧ VKeys l room) ∧ k (runF room t l 0).1 (runF room t l 0).2
theorem F_impl_useAll_sint_runTrace_1_UseFirst_S {t l : List Int} {room : Int} {k : List Int → Int → Prop} (h : F_impl_useAll_sint_runTrace_1_UseFirst t l room k) : S_impl_useAll_sint_runTrace_1_UseFirst t l room k := by
  obtain ⟨⟨⟨t1, t2⟩, v⟩, hk⟩ := h
  have key : ∀ (r : List Int) (i : Nat) (l : List Int) (n : Int), t.drop i = r → VKeys l room → 0 ≤ n → n ≤ i → k (runF room r l n).1 (runF room r l n).2 → L0_impl_useAll_sint_runTrace_1_UseFirst t room (t.length : Int) k (r.length + 1) n (i : Int) l := by
    intro r
    induction r with
    | nil =>
      intro i l n hdr v n0 n1 hk
      have := drop_nil' hdr
      rw [L0_impl_useAll_sint_runTrace_1_UseFirst, T0_impl_useAll_sint_runTrace_1_UseFirst]
      simp only [br_dec]
      exact ⟨fun h => by omega, fun _ => hk⟩
    | cons x r ih =>
      intro i l n hdr v n0 n1 hk
      obtain ⟨h1, h2, h5, h3, h4⟩ := drop_cons' hdr
      have hx := t2 x (List.mem_of_getElem? h5)
      rw [List.length_cons, L0_impl_useAll_sint_runTrace_1_UseFirst, T0_impl_useAll_sint_runTrace_1_UseFirst]
      simp only [br_dec, Int.toNat_natCast, h2]
      refine ⟨fun _ => ⟨⟨by omega, by omega⟩, fun _ => ?_, fun hv => absurd ⟨v, hx⟩ hv⟩, fun h => by omega⟩
      rw [runF] at hk
      show br (decide (x ∈ l)) _ _
      rw [br_iff]
      refine ⟨fun e => ⟨inR (by omega) (by omega), inR (by omega) (by omega), ?_⟩, fun e => ⟨inR (by omega) (by omega), ?_⟩⟩
      · rw [e] at hk
        exact ih (i + 1) _ _ h3 (firM_valid v hx) (by omega) (by omega) hk
      · rw [e] at hk
        rw [show n + toI false = n by simp [toI]] at hk
        exact ih (i + 1) _ _ h3 (firM_valid v hx) (by omega) (by omega) hk
  exact ⟨_, key t 0 l 0 rfl v (by omega) (by omega) hk⟩
-- impl.runTrace
def G_impl_runTrace_UseFirst (t0 : List Int) (room1 : Int) (k : List Int → Int → Prop) : Prop :=
  F_impl_ValidTrace t0 fun validTrace9 =>
  br (!validTrace9)
  (k ([] : List Int) (-1))
  (F_impl_validRoom room1 fun validRoom13 =>
    br (!validRoom13)
    (k ([] : List Int) (-1))
    (F_impl_useAll_sint_runTrace_1_UseFirst t0 ([] : List Int) room1 fun useAll19r0 useAll19r1 =>
      k useAll19r0 useAll19r1))
def S_impl_runTrace_UseFirst (t0 : List Int) (room1 : Int) (k : List Int → Int → Prop) : Prop := G_impl_runTrace_UseFirst t0 room1 k
def F_impl_runTrace_UseFirst (t : List Int) (room : Int) (k : List Int → Int → Prop) : Prop :=
  ((VTrace t ∧ 1 ≤ room ∧ room ≤ 8) → k (runF room t [] 0).1 (runF room t [] 0).2) ∧ (¬ (VTrace t ∧ 1 ≤ room ∧ room ≤ 8) → k [] (-1))
theorem F_impl_runTrace_UseFirst_S {t : List Int} {room : Int} {k : List Int → Int → Prop} (h : F_impl_runTrace_UseFirst t room k) : S_impl_runTrace_UseFirst t room k := by
  obtain ⟨hyes, hno⟩ := h
  intro b hb
  rw [br_not, br_iff]
  refine ⟨fun e => br_not.2 (br_dec.2 ⟨fun hr => ?_, fun hr => hno fun w => hr w.2⟩), fun e => hno fun v => by rw [hb.2 v.1] at e; cases e⟩
  have v := hb.1 e
  exact ⟨⟨v, keys0 hr⟩, hyes ⟨v, hr⟩⟩
-- impl.RunFirst
def G_impl_RunFirst (t0 : List Int) (room1 : Int) (k : List Int → Int → Prop) : Prop :=
  F_impl_runTrace_UseFirst t0 room1 fun runTrace8r0 runTrace8r1 =>
  k runTrace8r0 runTrace8r1
def S_impl_RunFirst (t0 : List Int) (room1 : Int) (k : List Int → Int → Prop) : Prop := G_impl_RunFirst t0 room1 k
def F_impl_RunFirst (t : List Int) (room : Int) (k : List Int → Int → Prop) : Prop :=
  ((VTrace t ∧ 1 ≤ room ∧ room ≤ 8) → k (runF room t [] 0).1 (runF room t [] 0).2) ∧ (¬ (VTrace t ∧ 1 ≤ room ∧ room ≤ 8) → k [] (-1))
theorem F_impl_RunFirst_S {t : List Int} {room : Int} {k : List Int → Int → Prop} (h : F_impl_RunFirst t room k) : S_impl_RunFirst t room k := h
-- spec.inRange
def G_spec_inRange (n0 : Int) (low1 : Int) (high2 : Int) (k : Bool → Prop) : Prop :=
  br (decide (low1 ≤ n0))
  (k (decide (n0 ≤ high2)))
  (k false)
def S_spec_inRange (n0 : Int) (low1 : Int) (high2 : Int) (k : Bool → Prop) : Prop := G_spec_inRange n0 low1 high2 k
def F_spec_inRange (n low high : Int) (k : Bool → Prop) : Prop := k (decide (low ≤ n ∧ n ≤ high))
theorem F_spec_inRange_S {n low high : Int} {k : Bool → Prop} (h : F_spec_inRange n low high k) : S_spec_inRange n low high k := by
  unfold F_spec_inRange at h
  simp only [S_spec_inRange, G_spec_inRange, br_dec]
  refine ⟨fun h1 => ?_, fun h1 => ?_⟩
  · simpa [h1] using h
  · simpa [h1] using h
-- spec.allIn
def T0_spec_allIn (high2 : Int) (list0 : List Int) (low1 : Int) (xi7 : Int) (k : Bool → Prop) (B0 : Int → Prop) : Prop :=
  br (decide (xi7 < (list0.length : Int)))
  ((0 ≤ xi7 ∧ xi7 < (list0.length : Int)) ∧
    F_spec_inRange (List.getD list0 (Int.toNat xi7) (0 : Int)) low1 high2 fun inRange20 =>
    br (!inRange20)
    (k false)
    (InR (xi7 + 1) ∧
      B0 (xi7 + 1)))
  (k true)
def L0_spec_allIn (high2 : Int) (list0 : List Int) (low1 : Int) (k : Bool → Prop) : Nat → Int → Prop
  | 0, _ => False
  | n + 1, xi7 => T0_spec_allIn high2 list0 low1 xi7 k (L0_spec_allIn high2 list0 low1 k n)
def G_spec_allIn (list0 : List Int) (low1 : Int) (high2 : Int) (I0 : Int → List Int → Int → Int → Prop) : Prop :=
  I0 high2 list0 low1 0
def S_spec_allIn (list0 : List Int) (low1 : Int) (high2 : Int) (k : Bool → Prop) : Prop := G_spec_allIn list0 low1 high2 (fun high2 list0 low1 xi7 => ∃ j, L0_spec_allIn high2 list0 low1 k j xi7)
def F_spec_allIn (l : List Int) (low high : Int) (k : Bool → Prop) : Prop := l.length ≤ 1000000000 ∧ k (decide (∀ x ∈ l, low ≤ x ∧ x ≤ high))
theorem F_spec_allIn_S {l : List Int} {low high : Int} {k : Bool → Prop} (h : F_spec_allIn l low high k) : S_spec_allIn l low high k := by
  obtain ⟨hl, hk⟩ := h
  have key : ∀ (r : List Int) (i : Nat), l.drop i = r → ((∀ x ∈ r, low ≤ x ∧ x ≤ high) ↔ (∀ x ∈ l, low ≤ x ∧ x ≤ high)) → L0_spec_allIn high l low k (r.length + 1) (i : Int) := by
    intro r
    induction r with
    | nil =>
      intro i hd he
      have := drop_nil' hd
      rw [L0_spec_allIn, T0_spec_allIn]
      simp only [br_dec]
      refine ⟨fun h => by omega, fun _ => ?_⟩
      rwa [decide_eq_true (he.1 (by simp))] at hk
    | cons x r ih =>
      intro i hd he
      obtain ⟨h1, h2, _, h3, _⟩ := drop_cons' hd
      rw [List.length_cons, L0_spec_allIn, T0_spec_allIn]
      simp only [br_dec, F_spec_inRange, br_not, Int.toNat_natCast, h2]
      refine ⟨fun _ => ⟨⟨by omega, by omega⟩, fun hx => ⟨inR (by omega) (by omega), ?_⟩, fun hx => ?_⟩, fun h => by omega⟩
      · refine ih (i + 1) h3 (Iff.trans ?_ he)
        simp only [List.mem_cons, forall_eq_or_imp]
        exact ⟨fun h => ⟨hx, h⟩, fun h => h.2⟩
      · rwa [decide_eq_false (fun h => hx (he.2 h x (by simp)))] at hk
  exact ⟨_, key l 0 rfl Iff.rfl⟩
-- spec.validTrace
def G_spec_validTrace (t0 : List Int) (k : Bool → Prop) : Prop :=
  br (decide ((t0.length : Int) ≤ 24))
  (F_spec_allIn t0 (0 : Int) (31 : Int) fun allIn8 =>
    k allIn8)
  (k false)
def S_spec_validTrace (t0 : List Int) (k : Bool → Prop) : Prop := G_spec_validTrace t0 k
def F_spec_validTrace (t : List Int) (k : Bool → Prop) : Prop := ∀ b : Bool, (b = true ↔ VTrace t) → k b
theorem F_spec_validTrace_S {t : List Int} {k : Bool → Prop} (h : F_spec_validTrace t k) : S_spec_validTrace t k :=
  br_dec.2 ⟨fun h1 => ⟨by omega, h _ (by simp only [decide_eq_true_eq]; exact ⟨fun h2 => ⟨by omega, h2⟩, fun v => v.2⟩)⟩, fun h1 => h false (by simp only [Bool.false_eq_true, false_iff]; exact fun v => h1 (by have := v.1; omega))⟩
-- spec.placeOf
def T0_spec_placeOf (list0 : List Int) (n1 : Int) (xi5 : Int) (k : Int → Prop) (B0 : Int → Prop) : Prop :=
  br (decide (xi5 < (list0.length : Int)))
  ((0 ≤ xi5 ∧ xi5 < (list0.length : Int)) ∧
    br ((List.getD list0 (Int.toNat xi5) (0 : Int)) == n1)
    (k xi5)
    (InR (xi5 + 1) ∧
      B0 (xi5 + 1)))
  (k (-1))
def L0_spec_placeOf (list0 : List Int) (n1 : Int) (k : Int → Prop) : Nat → Int → Prop
  | 0, _ => False
  | n + 1, xi5 => T0_spec_placeOf list0 n1 xi5 k (L0_spec_placeOf list0 n1 k n)
def G_spec_placeOf (list0 : List Int) (n1 : Int) (I0 : List Int → Int → Int → Prop) : Prop :=
  I0 list0 n1 0
def S_spec_placeOf (list0 : List Int) (n1 : Int) (k : Int → Prop) : Prop := G_spec_placeOf list0 n1 (fun list0 n1 xi5 => ∃ j, L0_spec_placeOf list0 n1 k j xi5)
def F_spec_placeOf (l : List Int) (n : Int) (k : Int → Prop) : Prop := l.length ≤ 1000000000 ∧ k (plc l n)
theorem F_spec_placeOf_S {l : List Int} {n : Int} {k : Int → Prop} (h : F_spec_placeOf l n k) : S_spec_placeOf l n k := by
  obtain ⟨hl, hk⟩ := h
  have key : ∀ (r : List Int) (i : Nat), l.drop i = r → plcF r n i = plc l n → L0_spec_placeOf l n k (r.length + 1) (i : Int) := by
    intro r
    induction r with
    | nil =>
      intro i hd he
      have := drop_nil' hd
      rw [L0_spec_placeOf, T0_spec_placeOf]
      simp only [br_dec]
      exact ⟨fun h => by omega, fun _ => by rw [show (-1 : Int) = plc l n from he]; exact hk⟩
    | cons x r ih =>
      intro i hd he
      obtain ⟨h1, h2, _, h3, _⟩ := drop_cons' hd
      rw [List.length_cons, L0_spec_placeOf, T0_spec_placeOf]
      simp only [br_dec, br_beq, Int.toNat_natCast, h2]
      refine ⟨fun _ => ⟨⟨by omega, by omega⟩, fun hx => ?_, fun hx => ⟨inR (by omega) (by omega), ?_⟩⟩, fun h => by omega⟩
      · simp only [plcF, if_pos hx] at he; rw [he]; exact hk
      · simp only [plcF, if_neg hx] at he; exact ih (i + 1) h3 he
  exact ⟨_, key l 0 rfl rfl⟩
-- spec.isIn
def G_spec_isIn (list0 : List Int) (n1 : Int) (k : Bool → Prop) : Prop :=
  F_spec_placeOf list0 n1 fun placeOf7 =>
  k (decide (placeOf7 ≥ 0))
def S_spec_isIn (list0 : List Int) (n1 : Int) (k : Bool → Prop) : Prop := G_spec_isIn list0 n1 k
def F_spec_isIn (l : List Int) (n : Int) (k : Bool → Prop) : Prop := l.length ≤ 1000000000 ∧ k (decide (n ∈ l))
theorem F_spec_isIn_S {l : List Int} {n : Int} {k : Bool → Prop} (h : F_spec_isIn l n k) : S_spec_isIn l n k := by
  refine ⟨h.1, ?_⟩
  have : decide (plc l n ≥ 0) = decide (n ∈ l) := decide_eq_decide.2 plc_ge
  show k (decide (plc l n ≥ 0))
  rw [this]; exact h.2
-- spec.first
def G_spec_first (list0 : List Int) (room1 : Int) (key2 : Int) (k : List Int → Bool → Prop) : Prop :=
  F_spec_isIn list0 key2 fun isIn11 =>
  br isIn11
  (k list0 true)
  ((0 + list0.length ≤ 1000000000) ∧
    (list0.length + 1 ≤ 1000000000) ∧
    InR (((List.length (list0 ++ ([key2] : List Int))) : Int) - room1) ∧
    (0 ≤ (if 0 < (((List.length (list0 ++ ([key2] : List Int))) : Int) - room1) then (((List.length (list0 ++ ([key2] : List Int))) : Int) - room1) else 0) ∧ (if 0 < (((List.length (list0 ++ ([key2] : List Int))) : Int) - room1) then (((List.length (list0 ++ ([key2] : List Int))) : Int) - room1) else 0) ≤ ((List.length (list0 ++ ([key2] : List Int))) : Int)) ∧
    k (List.take ((List.length (list0 ++ ([key2] : List Int))) - (Int.toNat (if 0 < (((List.length (list0 ++ ([key2] : List Int))) : Int) - room1) then (((List.length (list0 ++ ([key2] : List Int))) : Int) - room1) else 0))) (List.drop (Int.toNat (if 0 < (((List.length (list0 ++ ([key2] : List Int))) : Int) - room1) then (((List.length (list0 ++ ([key2] : List Int))) : Int) - room1) else 0)) (list0 ++ ([key2] : List Int)))) false)
def S_spec_first (list0 : List Int) (room1 : Int) (key2 : Int) (k : List Int → Bool → Prop) : Prop := G_spec_first list0 room1 key2 k
def F_spec_first (l : List Int) (room key : Int) (k : List Int → Bool → Prop) : Prop := VKeys l room ∧ k (firM l room key) (decide (key ∈ l))
theorem F_spec_first_S {l : List Int} {room key : Int} {k : List Int → Bool → Prop} (h : F_spec_first l room key k) : S_spec_first l room key k := by
  obtain ⟨⟨v1, v2, v3, v4, v5⟩, hk⟩ := h
  unfold firM at hk
  refine ⟨by omega, br_dec.2 ⟨fun hm => ?_, fun hm => ?_⟩⟩
  · rw [if_pos hm, decide_eq_true hm] at hk; exact hk
  · rw [if_neg hm, decide_eq_false hm] at hk
    have hlen : (l ++ [key]).length = l.length + 1 := by simp
    have hX : (if 0 < (((List.length (l ++ ([key] : List Int))) : Int) - room) then (((List.length (l ++ ([key] : List Int))) : Int) - room) else 0).toNat = l.length + 1 - room.toNat := by
      rw [hlen]; split <;> omega
    refine ⟨by omega, by omega, inR (by omega) (by omega), ⟨?_, ?_⟩, ?_⟩
    · split <;> omega
    · split <;> omega
    · rw [hX, List.take_of_length_le (by simp)]; exact hk
-- spec.toInt
def G_spec_toInt (b0 : Bool) (k : Int → Prop) : Prop :=
  br b0
  (k 1)
  (k 0)
def S_spec_toInt (b0 : Bool) (k : Int → Prop) : Prop := G_spec_toInt b0 k
def F_spec_toInt (b : Bool) (k : Int → Prop) : Prop := k (toI b)
theorem F_spec_toInt_S {b : Bool} {k : Int → Prop} (h : F_spec_toInt b k) : S_spec_toInt b k := by
  cases b <;> exact h
-- spec.RunFirst
def T0_spec_RunFirst (room1 : Int) (t0 : List Int) (xlist6 : List Int) (xn7 : Int) (xi8 : Int) (k : List Int → Int → Prop) (B0 : List Int → Int → Int → Prop) : Prop :=
  br (decide (xi8 < (t0.length : Int)))
  ((0 ≤ xi8 ∧ xi8 < (t0.length : Int)) ∧
    F_spec_first xlist6 room1 (List.getD t0 (Int.toNat xi8) (0 : Int)) fun first32r0 first32r1 =>
    F_spec_toInt first32r1 fun toInt37 =>
    InR (xn7 + toInt37) ∧
    InR (xi8 + 1) ∧
    B0 first32r0 (xn7 + toInt37) (xi8 + 1))
  ((0 + xlist6.length ≤ 1000000000) ∧
    k xlist6 xn7)
def L0_spec_RunFirst (room1 : Int) (t0 : List Int) (k : List Int → Int → Prop) : Nat → List Int → Int → Int → Prop
  | 0, _, _, _ => False
  | n + 1, xlist6, xn7, xi8 => T0_spec_RunFirst room1 t0 xlist6 xn7 xi8 k (L0_spec_RunFirst room1 t0 k n)
def G_spec_RunFirst (t0 : List Int) (room1 : Int) (k : List Int → Int → Prop) (I0 : Int → List Int → List Int → Int → Int → Prop) : Prop :=
  F_spec_validTrace t0 fun validTrace11 =>
  br (!validTrace11)
  (k ([] : List Int) (-1))
  (F_spec_inRange room1 (1 : Int) (8 : Int) fun inRange15 =>
    br (!inRange15)
    (k ([] : List Int) (-1))
    (I0 room1 t0 ([] : List Int) 0 0))
def S_spec_RunFirst (t0 : List Int) (room1 : Int) (k : List Int → Int → Prop) : Prop := G_spec_RunFirst t0 room1 k (fun room1 t0 xlist6 xn7 xi8 => ∃ j, L0_spec_RunFirst room1 t0 k j xlist6 xn7 xi8)
def F_spec_RunFirst (t : List Int) (room : Int) (k : List Int → Int → Prop) : Prop :=
  ((VTrace t ∧ 1 ≤ room ∧ room ≤ 8) → k (runF room t [] 0).1 (runF room t [] 0).2) ∧ (¬ (VTrace t ∧ 1 ≤ room ∧ room ≤ 8) → k [] (-1))
theorem F_spec_RunFirst_S {t : List Int} {room : Int} {k : List Int → Int → Prop} (h : F_spec_RunFirst t room k) : S_spec_RunFirst t room k := by
  obtain ⟨hyes, hno⟩ := h
  intro b hb
  rw [br_not, br_iff]
  refine ⟨fun e => br_not.2 (br_dec.2 ⟨fun hr => ?_, fun hr => hno fun w => hr w.2⟩), fun e => hno fun v => by rw [hb.2 v.1] at e; cases e⟩
  have v := hb.1 e
  have hk := hyes ⟨v, hr⟩
  have t2 := v.2
  have t1 := v.1
  have key : ∀ (r : List Int) (i : Nat) (l : List Int) (n : Int), t.drop i = r → VKeys l room → 0 ≤ n → n ≤ i → k (runF room r l n).1 (runF room r l n).2 → L0_spec_RunFirst room t k (r.length + 1) l n (i : Int) := by
    intro r
    induction r with
    | nil =>
      intro i l n hdr v n0 n1 hk
      have := drop_nil' hdr
      have := vkeys_len v
      rw [L0_spec_RunFirst, T0_spec_RunFirst]
      simp only [br_dec]
      exact ⟨fun h => by omega, fun _ => ⟨by omega, hk⟩⟩
    | cons x r ih =>
      intro i l n hdr v n0 n1 hk
      obtain ⟨h1, h2, h5, h3, h4⟩ := drop_cons' hdr
      have hx := t2 x (List.mem_of_getElem? h5)
      rw [List.length_cons, L0_spec_RunFirst, T0_spec_RunFirst]
      simp only [br_dec, Int.toNat_natCast, h2]
      have := toI_01 (decide (x ∈ l))
      exact ⟨fun _ => ⟨⟨by omega, by omega⟩, v, inR (by omega) (by omega), inR (by omega) (by omega), ih (i + 1) _ _ h3 (firM_valid v hx) (by omega) (by omega) hk⟩, fun h => by omega⟩
  exact ⟨_, key t 0 [] 0 rfl (keys0 hr) (by omega) (by omega) hk⟩
-- laws.equalInts
def T0_laws_equalInts (a0 : List Int) (b1 : List Int) (xi5 : Int) (k : Bool → Prop) (B0 : Int → Prop) : Prop :=
  br (decide (xi5 < (a0.length : Int)))
  ((0 ≤ xi5 ∧ xi5 < (a0.length : Int)) ∧
    (0 ≤ xi5 ∧ xi5 < (b1.length : Int)) ∧
    br ((List.getD a0 (Int.toNat xi5) (0 : Int)) != (List.getD b1 (Int.toNat xi5) (0 : Int)))
    (k false)
    (InR (xi5 + 1) ∧
      B0 (xi5 + 1)))
  (k true)
def L0_laws_equalInts (a0 : List Int) (b1 : List Int) (k : Bool → Prop) : Nat → Int → Prop
  | 0, _ => False
  | n + 1, xi5 => T0_laws_equalInts a0 b1 xi5 k (L0_laws_equalInts a0 b1 k n)
def G_laws_equalInts (a0 : List Int) (b1 : List Int) (k : Bool → Prop) (I0 : List Int → List Int → Int → Prop) : Prop :=
  br ((a0.length : Int) != (b1.length : Int))
  (k false)
  (I0 a0 b1 0)
def S_laws_equalInts (a0 : List Int) (b1 : List Int) (k : Bool → Prop) : Prop := G_laws_equalInts a0 b1 k (fun a0 b1 xi5 => ∃ j, L0_laws_equalInts a0 b1 k j xi5)
def F_laws_equalInts (a b : List Int) (k : Bool → Prop) : Prop := a.length ≤ 1000000000 ∧ k (decide (a = b))
theorem F_laws_equalInts_S {a b : List Int} {k : Bool → Prop} (h : F_laws_equalInts a b k) : S_laws_equalInts a b k := by
  obtain ⟨hl, hk⟩ := h
  refine br_bne.2 ⟨fun he => by rwa [decide_eq_false (fun e => he (by rw [e]))] at hk, fun he => ?_⟩
  have he : a.length = b.length := by omega
  have key : ∀ (r : List Int) (i : Nat), a.drop i = r → (r = b.drop i ↔ a = b) → L0_laws_equalInts a b k (r.length + 1) (i : Int) := by
    intro r
    induction r with
    | nil =>
      intro i hd hi
      have := drop_nil' hd
      rw [L0_laws_equalInts, T0_laws_equalInts]
      simp only [br_dec]
      exact ⟨fun h => by omega, fun _ => by rwa [decide_eq_true (hi.1 (List.drop_eq_nil_of_le (by omega)).symm)] at hk⟩
    | cons x r ih =>
      intro i hd hi
      obtain ⟨h1, h2, _, h3, _⟩ := drop_cons' hd
      obtain ⟨y, s, hs⟩ : ∃ y s, b.drop i = y :: s := by
        cases e : b.drop i with
        | nil => have := drop_nil' e; omega
        | cons y s => exact ⟨y, s, rfl⟩
      obtain ⟨g1, g2, _, g3, _⟩ := drop_cons' hs
      rw [List.length_cons, L0_laws_equalInts, T0_laws_equalInts]
      simp only [br_dec, br_bne, Int.toNat_natCast, h2, g2]
      rw [hs] at hi
      refine ⟨fun _ => ⟨⟨by omega, by omega⟩, ⟨by omega, by omega⟩, ?_⟩, fun h => by omega⟩
      have go : x = y → L0_laws_equalInts a b k (r.length + 1) ((i : Int) + 1) := fun hx => ih (i + 1) h3 (by rw [g3, ← hi, hx]; simp)
      have no : x ≠ y → k false := fun hx => by rwa [decide_eq_false (fun e => hx (List.cons.inj (hi.2 e)).1)] at hk
      exact ⟨no, fun hx => ⟨inR (by omega) (by omega), go hx⟩⟩
  exact ⟨_, key a 0 rfl (by simp)⟩
-- laws.isIn
def T0_laws_isIn (list0 : List Int) (n1 : Int) (xi5 : Int) (k : Bool → Prop) (B0 : Int → Prop) : Prop :=
  br (decide (xi5 < (list0.length : Int)))
  ((0 ≤ xi5 ∧ xi5 < (list0.length : Int)) ∧
    br ((List.getD list0 (Int.toNat xi5) (0 : Int)) == n1)
    (k true)
    (InR (xi5 + 1) ∧
      B0 (xi5 + 1)))
  (k false)
def L0_laws_isIn (list0 : List Int) (n1 : Int) (k : Bool → Prop) : Nat → Int → Prop
  | 0, _ => False
  | n + 1, xi5 => T0_laws_isIn list0 n1 xi5 k (L0_laws_isIn list0 n1 k n)
def G_laws_isIn (list0 : List Int) (n1 : Int) (I0 : List Int → Int → Int → Prop) : Prop :=
  I0 list0 n1 0
def S_laws_isIn (list0 : List Int) (n1 : Int) (k : Bool → Prop) : Prop := G_laws_isIn list0 n1 (fun list0 n1 xi5 => ∃ j, L0_laws_isIn list0 n1 k j xi5)
def F_laws_isIn (l : List Int) (n : Int) (k : Bool → Prop) : Prop := l.length ≤ 1000000000 ∧ k (decide (n ∈ l))
theorem F_laws_isIn_S {l : List Int} {n : Int} {k : Bool → Prop} (h : F_laws_isIn l n k) : S_laws_isIn l n k := by
  obtain ⟨hl, hk⟩ := h
  have key : ∀ (r : List Int) (i : Nat), l.drop i = r → (n ∈ r ↔ n ∈ l) → L0_laws_isIn l n k (r.length + 1) (i : Int) := by
    intro r
    induction r with
    | nil =>
      intro i hd he
      have := drop_nil' hd
      rw [L0_laws_isIn, T0_laws_isIn]
      simp only [br_dec]
      exact ⟨fun h => by omega, fun _ => by rwa [decide_eq_false (fun h => absurd (he.2 h) (by simp))] at hk⟩
    | cons x r ih =>
      intro i hd he
      obtain ⟨h1, h2, h5, h3, _⟩ := drop_cons' hd
      rw [List.length_cons, L0_laws_isIn, T0_laws_isIn]
      simp only [br_dec, br_beq, Int.toNat_natCast, h2]
      refine ⟨fun _ => ⟨⟨by omega, by omega⟩, fun hx => ?_, fun hx => ⟨inR (by omega) (by omega), ih (i + 1) h3 (Iff.trans ?_ he)⟩⟩, fun h => by omega⟩
      · rwa [decide_eq_true (he.1 (by simp [hx]))] at hk
      · simp [Ne.symm hx]
  exact ⟨_, key l 0 rfl Iff.rfl⟩
-- impl.NewKeys
def T0_impl_NewKeys (t0 : List Int) (xt10 : Int) (xcount3 : Int) (xt11 : Int) (k : Int → Prop) (B0 : Int → Int → Prop) : Prop :=
  br (decide (xt11 < xt10))
  ((0 ≤ xt11 ∧ xt11 < (t0.length : Int)) ∧
    (0 ≤ xt11 ∧ xt11 ≤ (t0.length : Int)) ∧
    F_slices_Contains_sint_int (List.take (Int.toNat xt11) t0) (List.getD t0 (Int.toNat xt11) (0 : Int)) fun contains20 =>
    br (!contains20)
    (InR (xcount3 + 1) ∧
      InR (xt11 + 1) ∧
      B0 (xcount3 + 1) (xt11 + 1))
    (InR (xt11 + 1) ∧
      B0 xcount3 (xt11 + 1)))
  (k xcount3)
def L0_impl_NewKeys (t0 : List Int) (xt10 : Int) (k : Int → Prop) : Nat → Int → Int → Prop
  | 0, _, _ => False
  | n + 1, xcount3, xt11 => T0_impl_NewKeys t0 xt10 xcount3 xt11 k (L0_impl_NewKeys t0 xt10 k n)
def G_impl_NewKeys (t0 : List Int) (k : Int → Prop) (I0 : List Int → Int → Int → Int → Prop) : Prop :=
  F_impl_ValidTrace t0 fun validTrace7 =>
  br (!validTrace7)
  (k (-1))
  (I0 t0 (t0.length : Int) 0 0)
def S_impl_NewKeys (t0 : List Int) (k : Int → Prop) : Prop := G_impl_NewKeys t0 k (fun t0 xt10 xcount3 xt11 => ∃ j, L0_impl_NewKeys t0 xt10 k j xcount3 xt11)
def F_impl_NewKeys (t : List Int) (k : Int → Prop) : Prop := (VTrace t → k (nk t : Int)) ∧ (¬ (VTrace t) → k (-1))
theorem F_impl_NewKeys_S {t : List Int} {k : Int → Prop} (h : F_impl_NewKeys t k) : S_impl_NewKeys t k := by
  obtain ⟨hyes, hno⟩ := h
  intro b hb
  refine br_not.2 (br_iff.2 ⟨fun e => ?_, fun e => hno fun w => by rw [hb.2 w] at e; cases e⟩)
  have v := hb.1 e
  have hk := hyes v
  have hl := v.1
  have go : ∀ (m i : Nat), i + m = t.length → L0_impl_NewKeys t (t.length : Int) k (m + 1) (nk (t.take i) : Int) (i : Int) := by
    intro m
    induction m with
    | zero =>
      intro i hi
      rw [show t.take i = t from List.take_of_length_le (by omega), L0_impl_NewKeys, T0_impl_NewKeys]
      exact br_dec.2 ⟨fun h => by omega, fun _ => hk⟩
    | succ m ih =>
      intro i hi
      have := nk_le (t.take i)
      rw [List.length_take] at this
      have next := ih (i + 1) (by omega)
      rw [take_get (by omega), nk_snoc] at next
      rw [L0_impl_NewKeys, T0_impl_NewKeys]
      simp only [Int.toNat_natCast]
      refine br_yd (by omega) ⟨⟨by omega, by omega⟩, ⟨by omega, by omega⟩, by rw [List.length_take]; omega, br_not.2 (br_dec.2 ⟨fun hm => ?_, fun hm => ?_⟩)⟩
      · rw [if_pos hm] at next; exact ⟨inR (by omega) (by omega), next⟩
      · rw [if_neg hm] at next; exact ⟨inR (by omega) (by omega), inR (by omega) (by omega), next⟩
  exact ⟨_, go t.length 0 (by omega)⟩
-- laws.FnRunFirstKeys
def T0_laws_FnRunFirstKeys (drawRunFirst15r0 : List Int) (drawRunFirst15r1 : Int) (runFirst21r0 : List Int) (runFirst21r1 : Int) (xi9 : Int) (k : Bool → Prop) (B0 : Int → Prop) : Prop :=
  br (decide (xi9 < (runFirst21r0.length : Int)))
  ((0 ≤ xi9 ∧ xi9 < (runFirst21r0.length : Int)) ∧
    F_laws_isIn drawRunFirst15r0 (List.getD runFirst21r0 (Int.toNat xi9) (0 : Int)) fun isIn62 =>
    br (!isIn62)
    (k false)
    (InR (xi9 + 1) ∧
      B0 (xi9 + 1)))
  (F_impl_ValidKeys runFirst21r0 drawRunFirst15r1 fun validKeys66 =>
    br validKeys66
    (F_impl_NewKeys drawRunFirst15r0 fun newKeys72 =>
      br ((runFirst21r0.length : Int) == (if newKeys72 < drawRunFirst15r1 then newKeys72 else drawRunFirst15r1))
      (F_impl_NewKeys drawRunFirst15r0 fun newKeys81 =>
        InR ((drawRunFirst15r0.length : Int) - newKeys81) ∧
        k (decide (runFirst21r1 ≤ ((drawRunFirst15r0.length : Int) - newKeys81))))
      (k false))
    (k false))
def L0_laws_FnRunFirstKeys (drawRunFirst15r0 : List Int) (drawRunFirst15r1 : Int) (runFirst21r0 : List Int) (runFirst21r1 : Int) (k : Bool → Prop) : Nat → Int → Prop
  | 0, _ => False
  | n + 1, xi9 => T0_laws_FnRunFirstKeys drawRunFirst15r0 drawRunFirst15r1 runFirst21r0 runFirst21r1 xi9 k (L0_laws_FnRunFirstKeys drawRunFirst15r0 drawRunFirst15r1 runFirst21r0 runFirst21r1 k n)
def G_laws_FnRunFirstKeys_j0 (runFirst21r0 : List Int) (runFirst21r1 : Int) (runFirst27r0 : List Int) (runFirst27r1 : Int) (k : Bool → Prop) : Prop :=
  F_laws_equalInts runFirst21r0 runFirst27r0 fun equalInts45 =>
  br equalInts45
  (k (runFirst21r1 == runFirst27r1))
  (k false)
def G_laws_FnRunFirstKeys (code0 : List Int) (k : Bool → Prop) (I0 : List Int → Int → List Int → Int → Int → Prop) : Prop :=
  br (decide ((code0.length : Int) > 1048576))
  (k true)
  (F_spec_DrawRunFirst code0 fun drawRunFirst15r0 drawRunFirst15r1 =>
    F_impl_RunFirst drawRunFirst15r0 drawRunFirst15r1 fun runFirst21r0 runFirst21r1 =>
    F_spec_RunFirst drawRunFirst15r0 drawRunFirst15r1 fun runFirst27r0 runFirst27r1 =>
    F_laws_equalInts runFirst21r0 runFirst27r0 fun equalInts32 =>
    br (!equalInts32)
    (G_laws_FnRunFirstKeys_j0 runFirst21r0 runFirst21r1 runFirst27r0 runFirst27r1 k)
    (br (runFirst21r1 != runFirst27r1)
      (G_laws_FnRunFirstKeys_j0 runFirst21r0 runFirst21r1 runFirst27r0 runFirst27r1 k)
      (br (decide (runFirst21r1 < 0))
        (G_laws_FnRunFirstKeys_j0 runFirst21r0 runFirst21r1 runFirst27r0 runFirst27r1 k)
        (I0 drawRunFirst15r0 drawRunFirst15r1 runFirst21r0 runFirst21r1 0))))
def S_laws_FnRunFirstKeys (code0 : List Int) (k : Bool → Prop) : Prop := G_laws_FnRunFirstKeys code0 k (fun drawRunFirst15r0 drawRunFirst15r1 runFirst21r0 runFirst21r1 xi9 => ∃ j, L0_laws_FnRunFirstKeys drawRunFirst15r0 drawRunFirst15r1 runFirst21r0 runFirst21r1 k j xi9)
abbrev F_laws_FnRunFirstKeys (code0 : List Int) (k : Bool → Prop) : Prop := S_laws_FnRunFirstKeys code0 k
theorem F_laws_FnRunFirstKeys_S {code0 : List Int} {k : Bool → Prop} (h : F_laws_FnRunFirstKeys code0 k) : S_laws_FnRunFirstKeys code0 k := h
theorem law_FnRunFirstKeys (code : List Int) (hb : ∀ x ∈ code, 0 ≤ x ∧ x ≤ 255) : F_laws_FnRunFirstKeys code (fun r => r = true) := by
  refine br_dec.2 ⟨fun _ => rfl, fun hlen => ⟨hb, fun t room l1 => ?_⟩⟩
  by_cases v : VTrace t ∧ 1 ≤ room ∧ room ≤ 8
  · have a := runF_facts v.1 v.2
    have hv := (runF_valid t [] 0 (keys0 v.2) v.1.2).1
    have hp := a.pos
    have hlen := a.len
    have hk := a.keys
    have hf := a.full
    have hnew := a.new
    have ht := v.1.1
    have hl : (runF room t [] 0).1.length ≤ 1000000000 := by omega
    refine yes v (yes v ⟨hl, br_de (br_same' (br_nd (by omega) ?_))⟩)
    have hsub := a.sub
    generalize (runF room t [] 0).1 = q at *
    have go : ∀ (m i : Nat), i + m = q.length → L0_laws_FnRunFirstKeys t room q (runF room t [] 0).2 (fun r => r = true) (m + 1) (i : Int) := by
      intro m
      induction m with
      | zero =>
        intro i hi
        rw [L0_laws_FnRunFirstKeys, T0_laws_FnRunFirstKeys]
        refine br_nd (by omega) (all_t hv (yes v.1 (br_ye ?_ (yes v.1 ⟨inR (by omega) (by omega), decide_eq_true (by omega)⟩))))
        split <;> omega
      | succ m ih =>
        intro i hi
        rw [L0_laws_FnRunFirstKeys, T0_laws_FnRunFirstKeys]
        simp only [Int.toNat_natCast]
        exact br_yd (by omega) ⟨⟨by omega, by omega⟩, by omega, br_not.2 (br_yd (hsub _ (mem_getD (by omega))) ⟨inR (by omega) (by omega), ih (i + 1) (by omega)⟩)⟩
    exact ⟨_, go q.length 0 (by omega)⟩
  · exact nay v (nay v ⟨by simp, br_de (br_same' (br_yd (by omega) ⟨by simp, br_de' rfl⟩))⟩)
end Go.Ev
