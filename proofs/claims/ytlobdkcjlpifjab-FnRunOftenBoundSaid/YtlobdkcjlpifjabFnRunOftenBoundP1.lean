/- What the functions that the law reaches do, written as plain Lean. No statement is proved here. -/
import Derived.Test.YtlobdkcjlpifjabFnRunOftenBoundP0
namespace Go.Ev
set_option linter.unusedVariables false
open Go
def G_spec_reader_one (r0b : List Int) (r0p : Int) (list1 : List Int) (k : Int → List Int → Int → Prop) : Prop :=
  F_spec_reader_pick r0b r0p (list1.length : Int) fun pick9 opick9b opick9p =>
  (0 ≤ pick9 ∧ pick9 < (list1.length : Int)) ∧
  k (List.getD list1 (Int.toNat pick9) (0 : Int)) opick9b opick9p
def S_spec_reader_one (r0b : List Int) (r0p : Int) (list1 : List Int) (k : Int → List Int → Int → Prop) : Prop := G_spec_reader_one r0b r0p list1 k
def F_spec_reader_one (b : List Int) (p : Int) (l : List Int) (k : Int → List Int → Int → Prop) : Prop := (Bs b ∧ 0 ≤ p ∧ p ≤ 1000000000 ∧ 0 < l.length) ∧ ∀ x ∈ l, k x b (p + 1)
theorem F_spec_reader_one_S {b : List Int} {p : Int} {l : List Int} {k : Int → List Int → Int → Prop} (h : F_spec_reader_one b p l k) : S_spec_reader_one b p l k := by
  obtain ⟨⟨hb, h0, h1, h2⟩, hk⟩ := h
  refine ⟨⟨hb, h0, h1⟩, fun x hx => ?_⟩
  rcases hx with ⟨h3, _⟩ | ⟨h3, h4⟩
  · omega
  · have hlt : x.toNat < l.length := by omega
    have hx : l[x.toNat]? = some (l.getD x.toNat 0) := by simp [List.getD, hlt]
    exact ⟨⟨h3, h4⟩, hk _ (List.mem_of_getElem? hx)⟩
-- spec.copyInts
def G_spec_copyInts (list0 : List Int) (k : List Int → Prop) : Prop :=
  (0 + list0.length ≤ 1000000000) ∧
  k list0
def S_spec_copyInts (list0 : List Int) (k : List Int → Prop) : Prop := G_spec_copyInts list0 k
def F_spec_copyInts (l : List Int) (k : List Int → Prop) : Prop := l.length ≤ 1000000000 ∧ k l
theorem F_spec_copyInts_S {l : List Int} {k : List Int → Prop} (h : F_spec_copyInts l k) : S_spec_copyInts l k := ⟨by have := h.1; omega, h.2⟩
-- (*spec.reader).spoil
def G_spec_reader_spoil (r0b : List Int) (r0p : Int) (list1 : List Int) (n2 : Int) (k : List Int → List Int → Int → Prop) : Prop :=
  F_spec_copyInts list1 fun copyInts9 =>
  F_spec_reader_pick r0b r0p (20 : Int) fun pick11 opick11b opick11p =>
  br (pick11 == 0)
  ((copyInts9.length + 1 ≤ 1000000000) ∧
    k (copyInts9 ++ ([n2] : List Int)) opick11b opick11p)
  (br (pick11 == 1)
    (br (decide ((copyInts9.length : Int) > 0))
      ((0 ≤ (1 : Int) ∧ 1 ≤ (copyInts9.length : Int)) ∧
        k (List.take (copyInts9.length - 1) (List.drop 1 copyInts9)) opick11b opick11p)
      (k copyInts9 opick11b opick11p))
    (br (pick11 == 2)
      (br (decide ((copyInts9.length : Int) > 0))
        (F_spec_reader_pick opick11b opick11p (copyInts9.length : Int) fun pick34 opick34b opick34p =>
          F_spec_reader_one opick34b opick34p ([(-1), n2, 0, 1] : List Int) fun one38 oone38b oone38p =>
          (0 ≤ pick34 ∧ pick34 < (copyInts9.length : Int)) ∧
          k (List.set copyInts9 (Int.toNat pick34) one38) oone38b oone38p)
        (k copyInts9 opick11b opick11p))
      (k copyInts9 opick11b opick11p)))
def S_spec_reader_spoil (r0b : List Int) (r0p : Int) (list1 : List Int) (n2 : Int) (k : List Int → List Int → Int → Prop) : Prop := G_spec_reader_spoil r0b r0p list1 n2 k
def F_spec_reader_spoil (b : List Int) (p : Int) (l : List Int) (n : Int) (k : List Int → List Int → Int → Prop) : Prop :=
  (Bs b ∧ 0 ≤ p ∧ p ≤ 100000000 ∧ l.length ≤ 100000000) ∧ ∀ r p', r.length ≤ l.length + 1 → p ≤ p' → p' ≤ p + 10 → k r b p'
theorem F_spec_reader_spoil_S {b : List Int} {p : Int} {l : List Int} {n : Int} {k : List Int → List Int → Int → Prop} (h : F_spec_reader_spoil b p l n k) : S_spec_reader_spoil b p l n k := by
  obtain ⟨⟨hb, h0, h1, h2⟩, hk⟩ := h
  refine ⟨by omega, ⟨hb, h0, by omega⟩, fun x hx => br_beq.2 ⟨fun _ => ⟨by omega, hk _ _ (by simp) (by omega) (by omega)⟩, fun _ => br_beq.2 ⟨fun _ => br_dec.2 ⟨fun h3 => ⟨⟨by omega, by omega⟩, hk _ _ (by simp; omega) (by omega) (by omega)⟩, fun _ => hk _ _ (by omega) (by omega) (by omega)⟩, fun _ => br_beq.2 ⟨fun _ => br_dec.2 ⟨fun h3 => ?_, fun _ => hk _ _ (by omega) (by omega) (by omega)⟩, fun _ => hk _ _ (by omega) (by omega) (by omega)⟩⟩⟩⟩
  refine ⟨⟨hb, by omega, by omega⟩, fun y hy => ⟨⟨hb, by omega, by omega, by simp⟩, fun z hz => ⟨?_, hk _ _ (by simp) (by omega) (by omega)⟩⟩⟩
  rcases hy with ⟨h4, _⟩ | h4
  · omega
  · exact h4
-- spec.someTrace
def T0_spec_someTrace (one10 : Int) (xn5 : Int) (xb100000c0 : List Int) (xb100000c1 : Int) (xout3 : List Int) (k : List Int → List Int → Int → Prop) (B0 : Int → List Int → Int → List Int → Prop) : Prop :=
  br (decide (xn5 > 0))
  (F_spec_reader_pick xb100000c0 xb100000c1 one10 fun pick20 opick20b opick20p =>
    br (decide ((xout3.length : Int) > 0))
    (F_spec_reader_pick opick20b opick20p (6 : Int) fun pick26 opick26b opick26p =>
      br (pick26 == 0)
      (InR ((xout3.length : Int) - 1) ∧
        (0 ≤ ((xout3.length : Int) - 1) ∧ ((xout3.length : Int) - 1) < (xout3.length : Int)) ∧
        (xout3.length + 1 ≤ 1000000000) ∧
        InR (xn5 - 1) ∧
        B0 (xn5 - 1) opick26b opick26p (xout3 ++ ([(List.getD xout3 (Int.toNat ((xout3.length : Int) - 1)) (0 : Int))] : List Int)))
      ((xout3.length + 1 ≤ 1000000000) ∧
        InR (xn5 - 1) ∧
        B0 (xn5 - 1) opick26b opick26p (xout3 ++ ([pick20] : List Int))))
    ((xout3.length + 1 ≤ 1000000000) ∧
      InR (xn5 - 1) ∧
      B0 (xn5 - 1) opick20b opick20p (xout3 ++ ([pick20] : List Int))))
  (F_spec_reader_pick xb100000c0 xb100000c1 (24 : Int) fun pick40 opick40b opick40p =>
    br (pick40 == 0)
    ((xout3.length + 1 ≤ 1000000000) ∧
      F_spec_reader_spoil opick40b opick40p (xout3 ++ ([3] : List Int)) (32 : Int) fun spoil47 ospoil47b ospoil47p =>
      k spoil47 ospoil47b ospoil47p)
    (br (pick40 == 1)
      ((xout3.length + xout3.length ≤ 1000000000) ∧
        ((List.length (xout3 ++ xout3)) + 1 ≤ 1000000000) ∧
        k ((xout3 ++ xout3) ++ ([1] : List Int)) opick40b opick40p)
      (k xout3 opick40b opick40p)))
def L0_spec_someTrace (one10 : Int) (k : List Int → List Int → Int → Prop) : Nat → Int → List Int → Int → List Int → Prop
  | 0, _, _, _, _ => False
  | n + 1, xn5, xb100000c0, xb100000c1, xout3 => T0_spec_someTrace one10 xn5 xb100000c0 xb100000c1 xout3 k (L0_spec_someTrace one10 k n)
def G_spec_someTrace (r0b : List Int) (r0p : Int) (I0 : Int → Int → List Int → Int → List Int → Prop) : Prop :=
  F_spec_reader_one r0b r0p ([4, 6, 3, 10, 2, 32] : List Int) fun one10 oone10b oone10p =>
  F_spec_reader_one oone10b oone10p ([8, 12, 16, 20, 24, 3, 1, 0] : List Int) fun one13 oone13b oone13p =>
  I0 one10 one13 oone13b oone13p ([] : List Int)
def S_spec_someTrace (r0b : List Int) (r0p : Int) (k : List Int → List Int → Int → Prop) : Prop := G_spec_someTrace r0b r0p (fun one10 xn5 xb100000c0 xb100000c1 xout3 => ∃ j, L0_spec_someTrace one10 k j xn5 xb100000c0 xb100000c1 xout3)
def F_spec_someTrace (b : List Int) (p : Int) (k : List Int → List Int → Int → Prop) : Prop :=
  (Bs b ∧ 0 ≤ p ∧ p ≤ 10000000) ∧ ∀ t p', t.length ≤ 100 → p ≤ p' → p' ≤ p + 200 → k t b p'
theorem F_spec_someTrace_S {b : List Int} {p : Int} {k : List Int → List Int → Int → Prop} (h : F_spec_someTrace b p k) : S_spec_someTrace b p k := by
  obtain ⟨⟨hb, h0, h1⟩, hk⟩ := h
  refine ⟨⟨hb, by omega, by omega, by simp⟩, fun many hm => ⟨⟨hb, by omega, by omega, by simp⟩, fun n hn => ?_⟩⟩
  have key : ∀ (d : Nat) (q : Int) (out : List Int), out.length + d ≤ 30 → p ≤ q → q + 2 * d ≤ p + 80 → L0_spec_someTrace many k (d + 1) (d : Int) b q out := by
    intro d
    induction d with
    | zero =>
      intro q out g0 g1 g2
      rw [L0_spec_someTrace, T0_spec_someTrace]
      refine br_dec.2 ⟨fun h => by omega, fun _ => ⟨⟨hb, by omega, by omega⟩, fun x hx => br_beq.2 ⟨fun _ => ⟨by omega, ⟨hb, by omega, by omega, by simp; omega⟩, fun r p' r1 r2 r3 => hk _ _ (by simp at r1; omega) (by omega) (by omega)⟩, fun _ => br_beq.2 ⟨fun _ => ⟨by omega, by simp; omega, hk _ _ (by simp; omega) (by omega) (by omega)⟩, fun _ => hk _ _ (by omega) (by omega) (by omega)⟩⟩⟩⟩
    | succ d ih =>
      intro q out g0 g1 g2
      rw [L0_spec_someTrace, T0_spec_someTrace]
      have e : ((d + 1 : Nat) : Int) - 1 = (d : Int) := by omega
      refine br_dec.2 ⟨fun _ => ⟨⟨hb, by omega, by omega⟩, fun x hx => br_dec.2 ⟨fun _ => ⟨⟨hb, by omega, by omega⟩, fun y hy => br_beq.2 ⟨fun _ => ⟨inR (by omega) (by omega), ⟨by omega, by omega⟩, by omega, inR (by omega) (by omega), ?_⟩, fun _ => ⟨by omega, inR (by omega) (by omega), ?_⟩⟩⟩, fun _ => ⟨by omega, inR (by omega) (by omega), ?_⟩⟩⟩, fun h => by omega⟩
      all_goals
        rw [e]
        exact ih _ _ (by simp; omega) (by omega) (by omega)
  simp only [List.mem_cons, List.not_mem_nil, or_false] at hn
  refine ⟨n.toNat + 1, ?_⟩
  have := key n.toNat (p + 1 + 1) [] (by simp; omega) (by omega) (by omega)
  rwa [Int.toNat_of_nonneg (by omega)] at this
-- spec.someRoom
def G_spec_someRoom (r0b : List Int) (r0p : Int) (k : Int → List Int → Int → Prop) : Prop :=
  F_spec_reader_one r0b r0p ([2, 3, 4, 1, 8, 5, 2, 3, 0, 9] : List Int) fun one5 oone5b oone5p =>
  k one5 oone5b oone5p
def S_spec_someRoom (r0b : List Int) (r0p : Int) (k : Int → List Int → Int → Prop) : Prop := G_spec_someRoom r0b r0p k
abbrev F_spec_someRoom (r0b : List Int) (r0p : Int) (k : Int → List Int → Int → Prop) : Prop := S_spec_someRoom r0b r0p k
theorem F_spec_someRoom_S {r0b : List Int} {r0p : Int} {k : Int → List Int → Int → Prop} (h : F_spec_someRoom r0b r0p k) : S_spec_someRoom r0b r0p k := h
-- spec.DrawRunRecent
def G_spec_DrawRunRecent (code0 : List Int) (k : List Int → Int → Prop) : Prop :=
  F_spec_newReader code0 fun newReader7b newReader7p =>
  F_spec_someTrace newReader7b newReader7p fun someTrace9 osomeTrace9b osomeTrace9p =>
  F_spec_someRoom osomeTrace9b osomeTrace9p fun someRoom12 osomeRoom12b osomeRoom12p =>
  k someTrace9 someRoom12
def S_spec_DrawRunRecent (code0 : List Int) (k : List Int → Int → Prop) : Prop := G_spec_DrawRunRecent code0 k
def F_spec_DrawRunRecent (code : List Int) (k : List Int → Int → Prop) : Prop :=
  (∀ x ∈ code, 0 ≤ x ∧ x ≤ 255) ∧ ∀ t room, t.length ≤ 100 → k t room
theorem F_spec_DrawRunRecent_S {code : List Int} {k : List Int → Int → Prop} (h : F_spec_DrawRunRecent code k) : S_spec_DrawRunRecent code k :=
  ⟨h.1, fun b hb => ⟨⟨hb, by omega, by omega⟩, fun t p' l1 _ _ => ⟨⟨hb, by omega, by omega, by simp⟩, fun r _ => h.2 t r l1⟩⟩⟩
-- spec.DrawRunOften
def G_spec_DrawRunOften (code0 : List Int) (k : List Int → Int → Prop) : Prop :=
  F_spec_DrawRunRecent code0 fun drawRunRecent5r0 drawRunRecent5r1 =>
  k drawRunRecent5r0 drawRunRecent5r1
def S_spec_DrawRunOften (code0 : List Int) (k : List Int → Int → Prop) : Prop := G_spec_DrawRunOften code0 k
def F_spec_DrawRunOften (code : List Int) (k : List Int → Int → Prop) : Prop :=
  (∀ x ∈ code, 0 ≤ x ∧ x ≤ 255) ∧ ∀ t room, t.length ≤ 100 → k t room
theorem F_spec_DrawRunOften_S {code : List Int} {k : List Int → Int → Prop} (h : F_spec_DrawRunOften code k) : S_spec_DrawRunOften code k := h
-- impl.validKey
def G_impl_validKey (key0 : Int) (k : Bool → Prop) : Prop :=
  br (decide (0 ≤ key0))
  (k (decide (key0 ≤ 31)))
  (k false)
def S_impl_validKey (key0 : Int) (k : Bool → Prop) : Prop := G_impl_validKey key0 k
def F_impl_validKey (n : Int) (k : Bool → Prop) : Prop := k (decide (0 ≤ n ∧ n ≤ 31))
theorem F_impl_validKey_S {n : Int} {k : Bool → Prop} (h : F_impl_validKey n k) : S_impl_validKey n k := by
  unfold F_impl_validKey at h
  simp only [S_impl_validKey, G_impl_validKey, br_dec]
  refine ⟨fun h1 => ?_, fun h1 => ?_⟩
  · simpa [h1] using h
  · simpa [h1] using h
-- impl.ValidTrace
def T0_impl_ValidTrace (t0 : List Int) (xt9 : Int) (xt10 : Int) (k : Bool → Prop) (B0 : Int → Prop) : Prop :=
  br (decide (xt10 < xt9))
  ((0 ≤ xt10 ∧ xt10 < (t0.length : Int)) ∧
    F_impl_validKey (List.getD t0 (Int.toNat xt10) (0 : Int)) fun validKey15 =>
    br (!validKey15)
    (k false)
    (InR (xt10 + 1) ∧
      B0 (xt10 + 1)))
  (k true)
def L0_impl_ValidTrace (t0 : List Int) (xt9 : Int) (k : Bool → Prop) : Nat → Int → Prop
  | 0, _ => False
  | n + 1, xt10 => T0_impl_ValidTrace t0 xt9 xt10 k (L0_impl_ValidTrace t0 xt9 k n)
def G_impl_ValidTrace (t0 : List Int) (k : Bool → Prop) (I0 : List Int → Int → Int → Prop) : Prop :=
  br (decide ((t0.length : Int) > 24))
  (k false)
  (I0 t0 (t0.length : Int) 0)
def S_impl_ValidTrace (t0 : List Int) (k : Bool → Prop) : Prop := G_impl_ValidTrace t0 k (fun t0 xt9 xt10 => ∃ j, L0_impl_ValidTrace t0 xt9 k j xt10)
def F_impl_ValidTrace (t : List Int) (k : Bool → Prop) : Prop := ∀ b : Bool, (b = true ↔ VTrace t) → k b
theorem F_impl_ValidTrace_S {t : List Int} {k : Bool → Prop} (h : F_impl_ValidTrace t k) : S_impl_ValidTrace t k := by
  have hno : ¬ VTrace t → k false := fun hv => h false (by simp [hv])
  have key : t.length ≤ 24 → ∀ (r : List Int) (i : Nat), t.drop i = r → (∀ x ∈ t.take i, 0 ≤ x ∧ x ≤ 31) → L0_impl_ValidTrace t (t.length : Int) k (r.length + 1) (i : Int) := by
    intro hl r
    induction r with
    | nil =>
      intro i hd he
      have := drop_nil' hd
      rw [List.take_of_length_le this] at he
      rw [L0_impl_ValidTrace, T0_impl_ValidTrace]
      simp only [br_dec]
      exact ⟨fun h => by omega, fun _ => h true (by simp only [true_iff]; exact ⟨hl, he⟩)⟩
    | cons x r ih =>
      intro i hd he
      obtain ⟨h1, h2, h5, h3, h4⟩ := drop_cons' hd
      rw [List.length_cons, L0_impl_ValidTrace, T0_impl_ValidTrace]
      simp only [br_dec, F_impl_validKey, Int.toNat_natCast, h2, br_not]
      refine ⟨fun _ => ⟨⟨by omega, by omega⟩, fun hx => ⟨inR (by omega) (by omega), ih (i + 1) h3 ?_⟩, fun hx => hno fun v => hx (v.2 x (List.mem_of_getElem? h5))⟩, fun h => by omega⟩
      rw [h4]; intro y hy
      rcases List.mem_append.1 hy with hy | hy
      · exact he y hy
      · simp at hy; subst hy; exact hx
  exact br_dec.2 ⟨fun h3 => hno fun v => by have := v.1; omega, fun h3 => ⟨_, key (by omega) t 0 rfl (by simp)⟩⟩
-- impl.validRoom
def G_impl_validRoom (room0 : Int) (k : Bool → Prop) : Prop :=
  br (decide (1 ≤ room0))
  (k (decide (room0 ≤ 8)))
  (k false)
def S_impl_validRoom (room0 : Int) (k : Bool → Prop) : Prop := G_impl_validRoom room0 k
def F_impl_validRoom (n : Int) (k : Bool → Prop) : Prop := k (decide (1 ≤ n ∧ n ≤ 8))
theorem F_impl_validRoom_S {n : Int} {k : Bool → Prop} (h : F_impl_validRoom n k) : S_impl_validRoom n k := by
  unfold F_impl_validRoom at h
  simp only [S_impl_validRoom, G_impl_validRoom, br_dec]
  refine ⟨fun h1 => ?_, fun h1 => ?_⟩
  · simpa [h1] using h
  · simpa [h1] using h
-- impl.validTime
def G_impl_validTime (time0 : Int) (k : Bool → Prop) : Prop :=
  br (decide (0 ≤ time0))
  (k (decide (time0 ≤ 1000)))
  (k false)
def S_impl_validTime (time0 : Int) (k : Bool → Prop) : Prop := G_impl_validTime time0 k
def F_impl_validTime (n : Int) (k : Bool → Prop) : Prop := k (decide (0 ≤ n ∧ n ≤ 1000))
theorem F_impl_validTime_S {n : Int} {k : Bool → Prop} (h : F_impl_validTime n k) : S_impl_validTime n k := by
  unfold F_impl_validTime at h
  simp only [S_impl_validTime, G_impl_validTime, br_dec]
  refine ⟨fun h1 => ?_, fun h1 => ?_⟩
  · simpa [h1] using h
  · simpa [h1] using h
-- impl.validEntry
def G_impl_validEntry (e0Key : Int) (e0Count : Int) (e0Last : Int) (k : Bool → Prop) : Prop :=
  F_impl_validKey e0Key fun validKey5 =>
  br validKey5
  (br (decide (1 ≤ e0Count))
    (br (decide (e0Count ≤ 100))
      (F_impl_validTime e0Last fun validTime19 =>
        k validTime19)
      (k false))
    (k false))
  (k false)
def S_impl_validEntry (e0Key : Int) (e0Count : Int) (e0Last : Int) (k : Bool → Prop) : Prop := G_impl_validEntry e0Key e0Count e0Last k
def F_impl_validEntry (a b c : Int) (k : Bool → Prop) : Prop := ∀ r : Bool, (r = true ↔ EntR (a, b, c)) → k r
theorem F_impl_validEntry_S {a b c : Int} {k : Bool → Prop} (h : F_impl_validEntry a b c k) : S_impl_validEntry a b c k := by
  have hno : ¬ EntR (a, b, c) → k false := fun hv => h false (by simp [hv])
  refine br_dec.2 ⟨fun h1 => br_dec.2 ⟨fun h2 => br_dec.2 ⟨fun h3 => ?_, fun h3 => hno fun v => h3 v.2.1.2⟩, fun h2 => hno fun v => h2 v.2.1.1⟩, fun h1 => hno fun v => h1 v.1⟩
  refine h _ ⟨fun e => ?_, fun e => ?_⟩
  · have := of_decide_eq_true e
    exact ⟨h1, ⟨h2, h3⟩, this.1, this.2⟩
  · exact decide_eq_true ⟨e.2.2.1, e.2.2.2⟩
-- (impl.Entry).collides
def G_impl_Entry_collides (e0Key : Int) (e0Count : Int) (e0Last : Int) (other1Key : Int) (other1Count : Int) (other1Last : Int) (k : Bool → Prop) : Prop :=
  br (e0Key == other1Key)
  (k true)
  (k (e0Last == other1Last))
def S_impl_Entry_collides (e0Key : Int) (e0Count : Int) (e0Last : Int) (other1Key : Int) (other1Count : Int) (other1Last : Int) (k : Bool → Prop) : Prop := G_impl_Entry_collides e0Key e0Count e0Last other1Key other1Count other1Last k
def F_impl_Entry_collides (a1 a2 a3 b1 b2 b3 : Int) (k : Bool → Prop) : Prop := k (decide (a1 = b1 ∨ a3 = b3))
theorem F_impl_Entry_collides_S {a1 a2 a3 b1 b2 b3 : Int} {k : Bool → Prop} (h : F_impl_Entry_collides a1 a2 a3 b1 b2 b3 k) : S_impl_Entry_collides a1 a2 a3 b1 b2 b3 k := by
  unfold F_impl_Entry_collides at h
  refine br_beq.2 ⟨fun h1 => ?_, fun h1 => ?_⟩
  · simpa [h1] using h
  · have : (a3 == b3) = decide (a1 = b1 ∨ a3 = b3) := by simp [h1]; rfl
    rw [this]; exact h
-- slices.IndexFunc[[]impl.Entry,impl.Entry]
def T0_slices_IndexFunc_Entry_Entry_Entry_collides (f1fa00 : Int) (f1fa01 : Int) (f1fa02 : Int) (s0 : List (Int × Int × Int)) (xt7 : Int) (xt8 : Int) (k : Int → Prop) (B0 : Int → Prop) : Prop :=
  br (decide (xt8 < xt7))
  ((0 ≤ xt8 ∧ xt8 < (s0.length : Int)) ∧
    F_impl_Entry_collides f1fa00 f1fa01 f1fa02 (List.getD s0 (Int.toNat xt8) ((0 : Int), (0 : Int), (0 : Int))).1 (List.getD s0 (Int.toNat xt8) ((0 : Int), (0 : Int), (0 : Int))).2.1 (List.getD s0 (Int.toNat xt8) ((0 : Int), (0 : Int), (0 : Int))).2.2 fun collides16 =>
    br collides16
    (k xt8)
    (InR (xt8 + 1) ∧
      B0 (xt8 + 1)))
  (k (-1))
def L0_slices_IndexFunc_Entry_Entry_Entry_collides (f1fa00 : Int) (f1fa01 : Int) (f1fa02 : Int) (s0 : List (Int × Int × Int)) (xt7 : Int) (k : Int → Prop) : Nat → Int → Prop
  | 0, _ => False
  | n + 1, xt8 => T0_slices_IndexFunc_Entry_Entry_Entry_collides f1fa00 f1fa01 f1fa02 s0 xt7 xt8 k (L0_slices_IndexFunc_Entry_Entry_Entry_collides f1fa00 f1fa01 f1fa02 s0 xt7 k n)
def G_slices_IndexFunc_Entry_Entry_Entry_collides (s0 : List (Int × Int × Int)) (f1fa00 : Int) (f1fa01 : Int) (f1fa02 : Int) (I0 : Int → Int → Int → List (Int × Int × Int) → Int → Int → Prop) : Prop :=
  I0 f1fa00 f1fa01 f1fa02 s0 (s0.length : Int) 0
def S_slices_IndexFunc_Entry_Entry_Entry_collides (s0 : List (Int × Int × Int)) (f1fa00 : Int) (f1fa01 : Int) (f1fa02 : Int) (k : Int → Prop) : Prop := G_slices_IndexFunc_Entry_Entry_Entry_collides s0 f1fa00 f1fa01 f1fa02 (fun f1fa00 f1fa01 f1fa02 s0 xt7 xt8 => ∃ j, L0_slices_IndexFunc_Entry_Entry_Entry_collides f1fa00 f1fa01 f1fa02 s0 xt7 k j xt8)
def F_slices_IndexFunc_Entry_Entry_Entry_collides (l : List Ent) (a b c : Int) (k : Int → Prop) : Prop := l.length ≤ 1000000000 ∧ ∀ r : Int, (0 ≤ r ↔ ∃ e ∈ l, a = e.1 ∨ c = e.2.2) → k r
theorem F_slices_IndexFunc_Entry_Entry_Entry_collides_S {l : List Ent} {a b c : Int} {k : Int → Prop} (h : F_slices_IndexFunc_Entry_Entry_Entry_collides l a b c k) : S_slices_IndexFunc_Entry_Entry_Entry_collides l a b c k := by
  obtain ⟨hl, hk⟩ := h
  have key : ∀ (r : List Ent) (i : Nat), l.drop i = r → (∀ e ∈ l.take i, ¬ (a = e.1 ∨ c = e.2.2)) → L0_slices_IndexFunc_Entry_Entry_Entry_collides a b c l (l.length : Int) k (r.length + 1) (i : Int) := by
    intro r
    induction r with
    | nil =>
      intro i hd hn
      have hi := drop_nil' hd
      rw [List.take_of_length_le hi] at hn
      rw [L0_slices_IndexFunc_Entry_Entry_Entry_collides, T0_slices_IndexFunc_Entry_Entry_Entry_collides]
      simp only [br_dec]
      exact ⟨fun h => by omega, fun _ => hk _ ⟨fun h => by omega, fun ⟨e, h1, h2⟩ => absurd h2 (hn e h1)⟩⟩
    | cons x r ih =>
      intro i hd hn
      obtain ⟨h1, h2, h5, h3, h4⟩ := drop_cons' hd
      rw [List.length_cons, L0_slices_IndexFunc_Entry_Entry_Entry_collides, T0_slices_IndexFunc_Entry_Entry_Entry_collides]
      simp only [br_dec, F_impl_Entry_collides, Int.toNat_natCast, h2]
      refine ⟨fun _ => ⟨⟨by omega, by omega⟩, fun hc => hk _ ⟨fun _ => ⟨x, List.mem_of_getElem? h5, hc⟩, fun _ => by omega⟩, fun hc => ⟨inR (by omega) (by omega), ih (i + 1) h3 fun e he => ?_⟩⟩, fun h => by omega⟩
      rw [h4] at he
      rcases List.mem_append.1 he with h | h
      · exact hn e h
      · rw [List.mem_singleton.1 h]; exact hc
  exact ⟨_, key l 0 rfl (by simp)⟩
-- slices.ContainsFunc[[]impl.Entry,impl.Entry]
def G_slices_ContainsFunc_Entry_Entry_Entry_collides (s0 : List (Int × Int × Int)) (f1fa00 : Int) (f1fa01 : Int) (f1fa02 : Int) (k : Bool → Prop) : Prop :=
  F_slices_IndexFunc_Entry_Entry_Entry_collides s0 f1fa00 f1fa01 f1fa02 fun indexFunc7 =>
  k (decide (indexFunc7 ≥ 0))
def S_slices_ContainsFunc_Entry_Entry_Entry_collides (s0 : List (Int × Int × Int)) (f1fa00 : Int) (f1fa01 : Int) (f1fa02 : Int) (k : Bool → Prop) : Prop := G_slices_ContainsFunc_Entry_Entry_Entry_collides s0 f1fa00 f1fa01 f1fa02 k
def F_slices_ContainsFunc_Entry_Entry_Entry_collides (l : List Ent) (a b c : Int) (k : Bool → Prop) : Prop := l.length ≤ 1000000000 ∧ ∀ r : Bool, (r = true ↔ ∃ e ∈ l, a = e.1 ∨ c = e.2.2) → k r
theorem F_slices_ContainsFunc_Entry_Entry_Entry_collides_S {l : List Ent} {a b c : Int} {k : Bool → Prop} (h : F_slices_ContainsFunc_Entry_Entry_Entry_collides l a b c k) : S_slices_ContainsFunc_Entry_Entry_Entry_collides l a b c k :=
  ⟨h.1, fun r hr => h.2 _ (by simpa using hr)⟩
-- impl.ValidEntries
def T0_impl_ValidEntries (list0 : List (Int × Int × Int)) (xt17 : Int) (xt18 : Int) (k : Bool → Prop) (B0 : Int → Prop) : Prop :=
  br (decide (xt18 < xt17))
  ((0 ≤ xt18 ∧ xt18 < (list0.length : Int)) ∧
    (F_impl_validEntry (List.getD list0 (Int.toNat xt18) ((0 : Int), (0 : Int), (0 : Int))).1 (List.getD list0 (Int.toNat xt18) ((0 : Int), (0 : Int), (0 : Int))).2.1 (List.getD list0 (Int.toNat xt18) ((0 : Int), (0 : Int), (0 : Int))).2.2 fun validEntry24 =>
      br (!validEntry24)
      ((k false) ∧
        (True))
      ((0 ≤ xt18 ∧ xt18 ≤ (list0.length : Int)) ∧
        (F_slices_ContainsFunc_Entry_Entry_Entry_collides (List.take (Int.toNat xt18) list0) (List.getD list0 (Int.toNat xt18) ((0 : Int), (0 : Int), (0 : Int))).1 (List.getD list0 (Int.toNat xt18) ((0 : Int), (0 : Int), (0 : Int))).2.1 (List.getD list0 (Int.toNat xt18) ((0 : Int), (0 : Int), (0 : Int))).2.2 fun containsFunc32 =>
          br containsFunc32
          (k false)
          (InR (xt18 + 1) ∧
            B0 (xt18 + 1))) ∧
        (True))) ∧
    (True))
  (k true)
def U0_impl_ValidEntries (list0 : List (Int × Int × Int)) (xt17 : Int) (xt18 : Int) (k : Bool → Prop) (B0 : Int → Prop) : Prop :=
  br (decide (xt18 < xt17))
  ((0 ≤ xt18 ∧ xt18 < (list0.length : Int)) ∧
    F_impl_validEntry (List.getD list0 (Int.toNat xt18) ((0 : Int), (0 : Int), (0 : Int))).1 (List.getD list0 (Int.toNat xt18) ((0 : Int), (0 : Int), (0 : Int))).2.1 (List.getD list0 (Int.toNat xt18) ((0 : Int), (0 : Int), (0 : Int))).2.2 fun validEntry24 =>
    br (!validEntry24)
    (k false)
    ((0 ≤ xt18 ∧ xt18 ≤ (list0.length : Int)) ∧
      F_slices_ContainsFunc_Entry_Entry_Entry_collides (List.take (Int.toNat xt18) list0) (List.getD list0 (Int.toNat xt18) ((0 : Int), (0 : Int), (0 : Int))).1 (List.getD list0 (Int.toNat xt18) ((0 : Int), (0 : Int), (0 : Int))).2.1 (List.getD list0 (Int.toNat xt18) ((0 : Int), (0 : Int), (0 : Int))).2.2 fun containsFunc32 =>
      br containsFunc32
      (k false)
      (InR (xt18 + 1) ∧
        B0 (xt18 + 1))))
  (k true)
theorem T0_impl_ValidEntries_eq (list0 : List (Int × Int × Int)) (xt17 : Int) (xt18 : Int) (k : Bool → Prop) (B0 : Int → Prop) : T0_impl_ValidEntries list0 xt17 xt18 k B0 = U0_impl_ValidEntries list0 xt17 xt18 k B0 := by
  simp only [T0_impl_ValidEntries, U0_impl_ValidEntries, and_self, and_true]
def L0_impl_ValidEntries (list0 : List (Int × Int × Int)) (xt17 : Int) (k : Bool → Prop) : Nat → Int → Prop
  | 0, _ => False
  | n + 1, xt18 => U0_impl_ValidEntries list0 xt17 xt18 k (L0_impl_ValidEntries list0 xt17 k n)
def G_impl_ValidEntries (list0 : List (Int × Int × Int)) (room1 : Int) (k : Bool → Prop) (I0 : List (Int × Int × Int) → Int → Int → Prop) : Prop :=
  F_impl_validRoom room1 fun validRoom8 =>
  br (!validRoom8)
  (k false)
  (br (decide ((list0.length : Int) > room1))
    (k false)
    (I0 list0 (list0.length : Int) 0))
def S_impl_ValidEntries (list0 : List (Int × Int × Int)) (room1 : Int) (k : Bool → Prop) : Prop := G_impl_ValidEntries list0 room1 k (fun list0 xt17 xt18 => ∃ j, L0_impl_ValidEntries list0 xt17 k j xt18)
def F_impl_ValidEntries (l : List Ent) (room : Int) (k : Bool → Prop) : Prop := l.length ≤ 1000000000 ∧ ∀ b : Bool, (b = true ↔ VEnt l room) → k b
theorem F_impl_ValidEntries_S {l : List Ent} {room : Int} {k : Bool → Prop} (h : F_impl_ValidEntries l room k) : S_impl_ValidEntries l room k := by
  obtain ⟨hl, h⟩ := h
  have hno : ¬ VEnt l room → k false := fun hv => h false (by simp [hv])
  have key : (1 ≤ room ∧ room ≤ 8) → (l.length : Int) ≤ room → ∀ (r : List Ent) (i : Nat), l.drop i = r → PEnt (l.take i) → L0_impl_ValidEntries l (l.length : Int) k (r.length + 1) (i : Int) := by
    intro g1 g3 r
    induction r with
    | nil =>
      intro i hd hp
      have hi := drop_nil' hd
      rw [List.take_of_length_le hi] at hp
      rw [L0_impl_ValidEntries, U0_impl_ValidEntries]
      simp only [br_dec]
      exact ⟨fun h => by omega, fun _ => h true (by simp only [true_iff]; exact ⟨g1, g3, hp⟩)⟩
    | cons x r ih =>
      intro i hd hp
      obtain ⟨h1, h2, h5, h3, h4⟩ := drop_cons' hd
      have hxl : x ∈ l := List.mem_of_getElem? h5
      rw [List.length_cons, L0_impl_ValidEntries, U0_impl_ValidEntries]
      simp only [br_dec, Int.toNat_natCast, h2]
      refine ⟨fun _ => ⟨⟨by omega, by omega⟩, fun b hb => ?_⟩, fun h => by omega⟩
      refine br_not.2 (br_iff.2 ⟨fun e => ⟨⟨by omega, by omega⟩, by simp; omega, fun c hc => ?_⟩, fun e => hno fun v => by rw [hb.2 (v.2.2.1 x hxl)] at e; cases e⟩)
      refine br_iff.2 ⟨fun ec => hno fun v => ?_, fun ec => ⟨inR (by omega) (by omega), ih (i + 1) h3 ?_⟩⟩
      · obtain ⟨y, hy, hyx⟩ := hc.1 ec
        have hsplit : l = l.take i ++ x :: r := by rw [← hd, List.take_append_drop]
        have hn1 := v.2.2.2.1
        have hn2 := v.2.2.2.2
        rw [hsplit, List.map_append, List.nodup_append] at hn1 hn2
        rcases hyx with e1 | e1
        · exact hn1.2.2 _ (List.mem_map.2 ⟨y, hy, rfl⟩) x.1 (by simp) e1.symm
        · exact hn2.2.2 _ (List.mem_map.2 ⟨y, hy, rfl⟩) x.2.2 (by simp) e1.symm
      · rw [h4]
        refine hp.snoc (hb.1 e) fun y hy => ⟨fun c => ?_, fun c => ?_⟩
        · rw [hc.2 ⟨y, hy, .inl c.symm⟩] at ec; cases ec
        · rw [hc.2 ⟨y, hy, .inr c.symm⟩] at ec; cases ec
  show br (!decide (1 ≤ room ∧ room ≤ 8)) _ _
  rw [br_not]
  refine br_dec.2 ⟨fun h1 => br_dec.2 ⟨fun h3 => hno fun v => by have := v.2.1; omega, fun h3 => ?_⟩, fun h1 => hno fun v => h1 v.1⟩
  exact ⟨_, key h1 (by omega) l 0 rfl ⟨by simp, by simp, by simp⟩⟩
-- cmp.isNaN[int]
def G_cmp_isNaN_int (x0 : Int) (k : Bool → Prop) : Prop :=
  k (x0 != x0)
def S_cmp_isNaN_int (x0 : Int) (k : Bool → Prop) : Prop := G_cmp_isNaN_int x0 k
abbrev F_cmp_isNaN_int (x0 : Int) (k : Bool → Prop) : Prop := S_cmp_isNaN_int x0 k
theorem F_cmp_isNaN_int_S {x0 : Int} {k : Bool → Prop} (h : F_cmp_isNaN_int x0 k) : S_cmp_isNaN_int x0 k := h
-- cmp.Compare[int]
def G_cmp_Compare_int (x0 : Int) (y1 : Int) (k : Int → Prop) : Prop :=
  F_cmp_isNaN_int x0 fun isNaN8 =>
  F_cmp_isNaN_int y1 fun isNaN10 =>
  br isNaN8
  (br isNaN10
    (k 0)
    (k (-1)))
  (br isNaN10
    (k 1)
    (br (decide (x0 < y1))
      (k (-1))
      (br (decide (x0 > y1))
        (k 1)
        (k 0))))
def S_cmp_Compare_int (x0 : Int) (y1 : Int) (k : Int → Prop) : Prop := G_cmp_Compare_int x0 y1 k
def F_cmp_Compare_int (x y : Int) (k : Int → Prop) : Prop := k (cmpI x y)
theorem F_cmp_Compare_int_S {x y : Int} {k : Int → Prop} (h : F_cmp_Compare_int x y k) : S_cmp_Compare_int x y k := by
  unfold F_cmp_Compare_int cmpI at h
  show br (x != x) (br (y != y) _ _) (br (y != y) _ _)
  rw [bne_self_eq_false, bne_self_eq_false, br_f, br_f]
  refine br_dec.2 ⟨fun h1 => ?_, fun h1 => br_dec.2 ⟨fun h2 => ?_, fun h2 => ?_⟩⟩
  · rwa [if_pos h1] at h
  · rwa [if_neg h1, if_pos (show y < x from h2)] at h
  · rwa [if_neg h1, if_neg (show ¬ y < x from h2)] at h
-- cmp.Or[int]
def T0_cmp_Or_int (vals0 : List Int) (xt7 : Int) (xt8 : Int) (k : Int → Prop) (B0 : Int → Prop) : Prop :=
  br (decide (xt8 < xt7))
  ((0 ≤ xt8 ∧ xt8 < (vals0.length : Int)) ∧
    br ((List.getD vals0 (Int.toNat xt8) (0 : Int)) != 0)
    (k (List.getD vals0 (Int.toNat xt8) (0 : Int)))
    (InR (xt8 + 1) ∧
      B0 (xt8 + 1)))
  (k 0)
def L0_cmp_Or_int (vals0 : List Int) (xt7 : Int) (k : Int → Prop) : Nat → Int → Prop
  | 0, _ => False
  | n + 1, xt8 => T0_cmp_Or_int vals0 xt7 xt8 k (L0_cmp_Or_int vals0 xt7 k n)
def G_cmp_Or_int (vals0 : List Int) (I0 : List Int → Int → Int → Prop) : Prop :=
  I0 vals0 (vals0.length : Int) 0
def S_cmp_Or_int (vals0 : List Int) (k : Int → Prop) : Prop := G_cmp_Or_int vals0 (fun vals0 xt7 xt8 => ∃ j, L0_cmp_Or_int vals0 xt7 k j xt8)
def F_cmp_Or_int (l : List Int) (k : Int → Prop) : Prop := l.length ≤ 1000000000 ∧ k (orI l)
theorem F_cmp_Or_int_S {l : List Int} {k : Int → Prop} (h : F_cmp_Or_int l k) : S_cmp_Or_int l k := by
  obtain ⟨hl, hk⟩ := h
  have key : ∀ (r : List Int) (i : Nat), l.drop i = r → orI r = orI l → L0_cmp_Or_int l (l.length : Int) k (r.length + 1) (i : Int) := by
    intro r
    induction r with
    | nil =>
      intro i hd he
      have := drop_nil' hd
      rw [L0_cmp_Or_int, T0_cmp_Or_int]
      simp only [br_dec]
      exact ⟨fun h => by omega, fun _ => by rw [show (0 : Int) = orI l from he]; exact hk⟩
    | cons x r ih =>
      intro i hd he
      obtain ⟨h1, h2, _, h3, _⟩ := drop_cons' hd
      rw [List.length_cons, L0_cmp_Or_int, T0_cmp_Or_int]
      simp only [br_dec, br_bne, Int.toNat_natCast, h2]
      refine ⟨fun _ => ⟨⟨by omega, by omega⟩, fun hx => ?_, fun hx => ⟨inR (by omega) (by omega), ?_⟩⟩, fun h => by omega⟩
      · simp only [orI, if_pos hx] at he; rw [he]; exact hk
      · rw [orI, if_neg (by simpa using hx)] at he; exact ih (i + 1) h3 he
  exact ⟨_, key l 0 rfl rfl⟩
-- impl.rarestEntry$1
def G_impl_rarestEntry_1 (a0Key : Int) (a0Count : Int) (a0Last : Int) (b1Key : Int) (b1Count : Int) (b1Last : Int) (k : Int → Prop) : Prop :=
  (F_cmp_Compare_int a0Count b1Count fun compare9 =>
    (F_cmp_Compare_int a0Last b1Last fun compare14 =>
      ((F_cmp_Or_int ([compare9, compare14] : List Int) fun or16 =>
          k or16) ∧
        (True)) ∧
      (True)) ∧
    (True)) ∧
  (True)
def H_impl_rarestEntry_1 (a0Key : Int) (a0Count : Int) (a0Last : Int) (b1Key : Int) (b1Count : Int) (b1Last : Int) (k : Int → Prop) : Prop :=
  F_cmp_Compare_int a0Count b1Count fun compare9 =>
  F_cmp_Compare_int a0Last b1Last fun compare14 =>
  F_cmp_Or_int ([compare9, compare14] : List Int) fun or16 =>
  k or16
theorem G_impl_rarestEntry_1_eq (a0Key : Int) (a0Count : Int) (a0Last : Int) (b1Key : Int) (b1Count : Int) (b1Last : Int) (k : Int → Prop) : G_impl_rarestEntry_1 a0Key a0Count a0Last b1Key b1Count b1Last k = H_impl_rarestEntry_1 a0Key a0Count a0Last b1Key b1Count b1Last k := by
  simp only [G_impl_rarestEntry_1, H_impl_rarestEntry_1, and_self, and_true]
def S_impl_rarestEntry_1 (a0Key : Int) (a0Count : Int) (a0Last : Int) (b1Key : Int) (b1Count : Int) (b1Last : Int) (k : Int → Prop) : Prop := H_impl_rarestEntry_1 a0Key a0Count a0Last b1Key b1Count b1Last k
def F_impl_rarestEntry_1 (a1 a2 a3 b1 b2 b3 : Int) (k : Int → Prop) : Prop := ∀ n : Int, (n < 0 ↔ Rar (a1, a2, a3) (b1, b2, b3)) → k n
theorem F_impl_rarestEntry_1_S {a1 a2 a3 b1 b2 b3 : Int} {k : Int → Prop} (h : F_impl_rarestEntry_1 a1 a2 a3 b1 b2 b3 k) : S_impl_rarestEntry_1 a1 a2 a3 b1 b2 b3 k := by
  refine ⟨by simp, h _ ?_⟩
  rw [← cmpI_rar (a1 := a1) (a3 := a3) (b1 := b1)]
  simp only [orI]
  by_cases h1 : cmpI a2 b2 ≠ 0
  · rw [if_pos h1, if_pos h1]
  · rw [if_neg h1, if_neg h1]
    by_cases h2 : cmpI a3 b3 ≠ 0
    · rw [if_pos h2]
    · rw [if_neg h2]; simp only [ne_eq, Decidable.not_not] at h2; rw [h2]
-- slices.MinFunc[[]impl.Entry,impl.Entry]
def T0_slices_MinFunc_Entry_Entry_rarestEntry_1 (x0 : List (Int × Int × Int)) (xi6 : Int) (xb5c0 : Int) (xb5c1 : Int) (xb5c2 : Int) (k : Int → Int → Int → Prop) (B0 : Int → Int → Int → Int → Prop) : Prop :=
  br (decide (xi6 < (x0.length : Int)))
  ((0 ≤ xi6 ∧ xi6 < (x0.length : Int)) ∧
    (F_impl_rarestEntry_1 (List.getD x0 (Int.toNat xi6) ((0 : Int), (0 : Int), (0 : Int))).1 (List.getD x0 (Int.toNat xi6) ((0 : Int), (0 : Int), (0 : Int))).2.1 (List.getD x0 (Int.toNat xi6) ((0 : Int), (0 : Int), (0 : Int))).2.2 xb5c0 xb5c1 xb5c2 fun rarestEntry126 =>
      br (decide (rarestEntry126 < 0))
      ((0 ≤ xi6 ∧ xi6 < (x0.length : Int)) ∧
        InR (xi6 + 1) ∧
        B0 (xi6 + 1) (List.getD x0 (Int.toNat xi6) ((0 : Int), (0 : Int), (0 : Int))).1 (List.getD x0 (Int.toNat xi6) ((0 : Int), (0 : Int), (0 : Int))).2.1 (List.getD x0 (Int.toNat xi6) ((0 : Int), (0 : Int), (0 : Int))).2.2)
      (InR (xi6 + 1) ∧
        B0 (xi6 + 1) xb5c0 xb5c1 xb5c2)) ∧
    (True))
  (k xb5c0 xb5c1 xb5c2)
def U0_slices_MinFunc_Entry_Entry_rarestEntry_1 (x0 : List (Int × Int × Int)) (xi6 : Int) (xb5c0 : Int) (xb5c1 : Int) (xb5c2 : Int) (k : Int → Int → Int → Prop) (B0 : Int → Int → Int → Int → Prop) : Prop :=
  br (decide (xi6 < (x0.length : Int)))
  ((0 ≤ xi6 ∧ xi6 < (x0.length : Int)) ∧
    F_impl_rarestEntry_1 (List.getD x0 (Int.toNat xi6) ((0 : Int), (0 : Int), (0 : Int))).1 (List.getD x0 (Int.toNat xi6) ((0 : Int), (0 : Int), (0 : Int))).2.1 (List.getD x0 (Int.toNat xi6) ((0 : Int), (0 : Int), (0 : Int))).2.2 xb5c0 xb5c1 xb5c2 fun rarestEntry126 =>
    br (decide (rarestEntry126 < 0))
    ((0 ≤ xi6 ∧ xi6 < (x0.length : Int)) ∧
      InR (xi6 + 1) ∧
      B0 (xi6 + 1) (List.getD x0 (Int.toNat xi6) ((0 : Int), (0 : Int), (0 : Int))).1 (List.getD x0 (Int.toNat xi6) ((0 : Int), (0 : Int), (0 : Int))).2.1 (List.getD x0 (Int.toNat xi6) ((0 : Int), (0 : Int), (0 : Int))).2.2)
    (InR (xi6 + 1) ∧
      B0 (xi6 + 1) xb5c0 xb5c1 xb5c2))
  (k xb5c0 xb5c1 xb5c2)
theorem T0_slices_MinFunc_Entry_Entry_rarestEntry_1_eq (x0 : List (Int × Int × Int)) (xi6 : Int) (xb5c0 : Int) (xb5c1 : Int) (xb5c2 : Int) (k : Int → Int → Int → Prop) (B0 : Int → Int → Int → Int → Prop) : T0_slices_MinFunc_Entry_Entry_rarestEntry_1 x0 xi6 xb5c0 xb5c1 xb5c2 k B0 = U0_slices_MinFunc_Entry_Entry_rarestEntry_1 x0 xi6 xb5c0 xb5c1 xb5c2 k B0 := by
  simp only [T0_slices_MinFunc_Entry_Entry_rarestEntry_1, U0_slices_MinFunc_Entry_Entry_rarestEntry_1, and_self, and_true]
def L0_slices_MinFunc_Entry_Entry_rarestEntry_1 (x0 : List (Int × Int × Int)) (k : Int → Int → Int → Prop) : Nat → Int → Int → Int → Int → Prop
  | 0, _, _, _, _ => False
  | n + 1, xi6, xb5c0, xb5c1, xb5c2 => U0_slices_MinFunc_Entry_Entry_rarestEntry_1 x0 xi6 xb5c0 xb5c1 xb5c2 k (L0_slices_MinFunc_Entry_Entry_rarestEntry_1 x0 k n)
def G_slices_MinFunc_Entry_Entry_rarestEntry_1 (x0 : List (Int × Int × Int)) (I0 : List (Int × Int × Int) → Int → Int → Int → Int → Prop) : Prop :=
  br (decide ((x0.length : Int) < 1))
  (False)
  ((0 ≤ (0 : Int) ∧ 0 < (x0.length : Int)) ∧
    I0 x0 1 (List.getD x0 0 ((0 : Int), (0 : Int), (0 : Int))).1 (List.getD x0 0 ((0 : Int), (0 : Int), (0 : Int))).2.1 (List.getD x0 0 ((0 : Int), (0 : Int), (0 : Int))).2.2)
def S_slices_MinFunc_Entry_Entry_rarestEntry_1 (x0 : List (Int × Int × Int)) (k : Int → Int → Int → Prop) : Prop := G_slices_MinFunc_Entry_Entry_rarestEntry_1 x0 (fun x0 xi6 xb5c0 xb5c1 xb5c2 => ∃ j, L0_slices_MinFunc_Entry_Entry_rarestEntry_1 x0 k j xi6 xb5c0 xb5c1 xb5c2)
def F_slices_MinFunc_Entry_Entry_rarestEntry_1 (l : List Ent) (k : Int → Int → Int → Prop) : Prop := (0 < l.length ∧ l.length ≤ 1000000000) ∧ k (l.getD (rareM l) ent0).1 (l.getD (rareM l) ent0).2.1 (l.getD (rareM l) ent0).2.2
theorem F_slices_MinFunc_Entry_Entry_rarestEntry_1_S {l : List Ent} {k : Int → Int → Int → Prop} (h : F_slices_MinFunc_Entry_Entry_rarestEntry_1 l k) : S_slices_MinFunc_Entry_Entry_rarestEntry_1 l k := by
  obtain ⟨⟨h0, h1⟩, hk⟩ := h
  have key : ∀ (r : List Ent) (i p : Nat), l.drop i = r → p < i → i ≤ l.length → rareS l r i p = rareM l → L0_slices_MinFunc_Entry_Entry_rarestEntry_1 l k (r.length + 1) (i : Int) (l.getD p ent0).1 (l.getD p ent0).2.1 (l.getD p ent0).2.2 := by
    intro r
    induction r with
    | nil =>
      intro i p hd hp hi he
      have := drop_nil' hd
      rw [L0_slices_MinFunc_Entry_Entry_rarestEntry_1, U0_slices_MinFunc_Entry_Entry_rarestEntry_1]
      simp only [br_dec]
      exact ⟨fun h => by omega, fun _ => by rw [show p = rareM l from he]; exact hk⟩
    | cons x r ih =>
      intro i p hd hp hi he
      obtain ⟨g1, g2, _, g3, _⟩ := drop_cons' hd
      rw [rareS] at he
      rw [List.length_cons, L0_slices_MinFunc_Entry_Entry_rarestEntry_1, U0_slices_MinFunc_Entry_Entry_rarestEntry_1]
      simp only [br_dec, Int.toNat_natCast, g2]
      refine ⟨fun _ => ⟨⟨by omega, by omega⟩, fun n hn => ⟨fun hr => ⟨⟨by omega, by omega⟩, inR (by omega) (by omega), ?_⟩, fun hr => ⟨inR (by omega) (by omega), ?_⟩⟩⟩, fun h => by omega⟩
      · rw [if_pos (hn.1 hr)] at he
        have := ih (i + 1) i g3 (by omega) (by omega) he
        rwa [g2] at this
      · rw [if_neg fun c => hr (hn.2 c)] at he
        exact ih (i + 1) p g3 (by omega) (by omega) he
  refine br_dec.2 ⟨fun h => by omega, fun _ => ⟨⟨by omega, by omega⟩, _, key (l.drop 1) 1 0 rfl (by omega) (by omega) rfl⟩⟩
-- impl.rarestEntry
def G_impl_rarestEntry (list0 : List (Int × Int × Int)) (k : Int → Int → Int → Prop) : Prop :=
  F_slices_MinFunc_Entry_Entry_rarestEntry_1 list0 fun minFunc4Key minFunc4Count minFunc4Last =>
  k minFunc4Key minFunc4Count minFunc4Last
def S_impl_rarestEntry (list0 : List (Int × Int × Int)) (k : Int → Int → Int → Prop) : Prop := G_impl_rarestEntry list0 k
def F_impl_rarestEntry (l : List Ent) (k : Int → Int → Int → Prop) : Prop := (0 < l.length ∧ l.length ≤ 1000000000) ∧ k (l.getD (rareM l) ent0).1 (l.getD (rareM l) ent0).2.1 (l.getD (rareM l) ent0).2.2
theorem F_impl_rarestEntry_S {l : List Ent} {k : Int → Int → Int → Prop} (h : F_impl_rarestEntry l k) : S_impl_rarestEntry l k := h
-- slices.Index[[]impl.Entry,impl.Entry]
def T0_slices_Index_Entry_Entry (s0 : List (Int × Int × Int)) (v1Count : Int) (v1Key : Int) (v1Last : Int) (xt7 : Int) (xt8 : Int) (k : Int → Prop) (B0 : Int → Prop) : Prop :=
  br (decide (xt8 < xt7))
  ((0 ≤ xt8 ∧ xt8 < (s0.length : Int)) ∧
    br ((v1Key == (List.getD s0 (Int.toNat xt8) ((0 : Int), (0 : Int), (0 : Int))).1) && ((v1Count == (List.getD s0 (Int.toNat xt8) ((0 : Int), (0 : Int), (0 : Int))).2.1) && (v1Last == (List.getD s0 (Int.toNat xt8) ((0 : Int), (0 : Int), (0 : Int))).2.2)))
    (k xt8)
    (InR (xt8 + 1) ∧
      B0 (xt8 + 1)))
  (k (-1))
def L0_slices_Index_Entry_Entry (s0 : List (Int × Int × Int)) (v1Count : Int) (v1Key : Int) (v1Last : Int) (xt7 : Int) (k : Int → Prop) : Nat → Int → Prop
  | 0, _ => False
  | n + 1, xt8 => T0_slices_Index_Entry_Entry s0 v1Count v1Key v1Last xt7 xt8 k (L0_slices_Index_Entry_Entry s0 v1Count v1Key v1Last xt7 k n)
def G_slices_Index_Entry_Entry (s0 : List (Int × Int × Int)) (v1Key : Int) (v1Count : Int) (v1Last : Int) (I0 : List (Int × Int × Int) → Int → Int → Int → Int → Int → Prop) : Prop :=
  I0 s0 v1Count v1Key v1Last (s0.length : Int) 0
def S_slices_Index_Entry_Entry (s0 : List (Int × Int × Int)) (v1Key : Int) (v1Count : Int) (v1Last : Int) (k : Int → Prop) : Prop := G_slices_Index_Entry_Entry s0 v1Key v1Count v1Last (fun s0 v1Count v1Key v1Last xt7 xt8 => ∃ j, L0_slices_Index_Entry_Entry s0 v1Count v1Key v1Last xt7 k j xt8)
def F_slices_Index_Entry_Entry (l : List Ent) (a b c : Int) (k : Int → Prop) : Prop := l.length ≤ 1000000000 ∧ ∀ r : Int, FirstAt l (a, b, c) r → k r
theorem F_slices_Index_Entry_Entry_S {l : List Ent} {a b c : Int} {k : Int → Prop} (h : F_slices_Index_Entry_Entry l a b c k) : S_slices_Index_Entry_Entry l a b c k := by
  obtain ⟨hl, hk⟩ := h
  have key : ∀ (r : List Ent) (i : Nat), l.drop i = r → (∀ q, q < i → l[q]? ≠ some (a, b, c)) → L0_slices_Index_Entry_Entry l b a c (l.length : Int) k (r.length + 1) (i : Int) := by
    intro r
    induction r with
    | nil =>
      intro i hd hn
      have hi := drop_nil' hd
      rw [L0_slices_Index_Entry_Entry, T0_slices_Index_Entry_Entry]
      simp only [br_dec]
      refine ⟨fun h => by omega, fun _ => hk _ (.inr ⟨rfl, fun hm => ?_⟩)⟩
      obtain ⟨q, hq, e⟩ := List.getElem_of_mem hm
      exact hn q (by omega) (by rw [List.getElem?_eq_getElem hq, e])
    | cons x r ih =>
      intro i hd hn
      obtain ⟨h1, h2, h5, h3, h4⟩ := drop_cons' hd
      rw [List.length_cons, L0_slices_Index_Entry_Entry, T0_slices_Index_Entry_Entry]
      simp only [br_dec, Int.toNat_natCast, h2]
      refine ⟨fun _ => ⟨⟨by omega, by omega⟩, ?_⟩, fun h => by omega⟩
      rw [show ((a == x.1) && ((b == x.2.1) && (c == x.2.2))) = decide ((a, b, c) = x) from eq3 (x := (a, b, c)) (y := x)]
      refine br_dec.2 ⟨fun e => hk _ (.inl ⟨i, rfl, h1, by rw [h5, e], hn⟩), fun e => ⟨inR (by omega) (by omega), ih (i + 1) h3 fun q hq => ?_⟩⟩
      by_cases eq : q = i
      · subst eq; rw [h5]; intro c; injection c with c; exact e c.symm
      · exact hn q (by omega)
  exact ⟨_, key l 0 rfl (by simp)⟩
-- slices.Delete[[]impl.Entry,impl.Entry]
def G_slices_Delete_Entry_Entry (s0 : List (Int × Int × Int)) (i1 : Int) (j2 : Int) (k : List (Int × Int × Int) → Prop) : Prop :=
  (0 ≤ i1 ∧ i1 ≤ j2 ∧ j2 ≤ (s0.length : Int) ∧ (s0.length : Int) ≤ (s0.length : Int)) ∧
  br (i1 == j2)
  (k s0)
  ((0 ≤ i1 ∧ i1 ≤ (s0.length : Int)) ∧
    (0 ≤ j2 ∧ j2 ≤ (s0.length : Int)) ∧
    ((((0 + (Int.toNat i1)) + (List.length (List.take (s0.length - (Int.toNat j2)) (List.drop (Int.toNat j2) s0)))) ≤ s0.length) ∧
      (0 ≤ (((Int.toNat i1) + (List.length (List.take (s0.length - (Int.toNat j2)) (List.drop (Int.toNat j2) s0)))) : Int) ∧ (((Int.toNat i1) + (List.length (List.take (s0.length - (Int.toNat j2)) (List.drop (Int.toNat j2) s0)))) : Int) ≤ (s0.length : Int) ∧ (0 : Int) + (s0.length : Int) ≤ ((List.length (midA s0 (0 + (Int.toNat i1)) (List.take (s0.length - (Int.toNat j2)) (List.drop (Int.toNat j2) s0)))) : Int)) ∧
      k (List.take ((Int.toNat i1) + (List.length (List.take (s0.length - (Int.toNat j2)) (List.drop (Int.toNat j2) s0)))) (List.drop 0 (midA (midA s0 (0 + (Int.toNat i1)) (List.take (s0.length - (Int.toNat j2)) (List.drop (Int.toNat j2) s0))) (0 + (Int.toNat (((Int.toNat i1) + (List.length (List.take (s0.length - (Int.toNat j2)) (List.drop (Int.toNat j2) s0)))) : Int))) (List.replicate ((Int.toNat (s0.length : Int)) - (Int.toNat (((Int.toNat i1) + (List.length (List.take (s0.length - (Int.toNat j2)) (List.drop (Int.toNat j2) s0)))) : Int))) ((0 : Int), (0 : Int), (0 : Int))))))) ∧
    (True))
def H_slices_Delete_Entry_Entry (s0 : List (Int × Int × Int)) (i1 : Int) (j2 : Int) (k : List (Int × Int × Int) → Prop) : Prop :=
  (0 ≤ i1 ∧ i1 ≤ j2 ∧ j2 ≤ (s0.length : Int) ∧ (s0.length : Int) ≤ (s0.length : Int)) ∧
  br (i1 == j2)
  (k s0)
  ((0 ≤ i1 ∧ i1 ≤ (s0.length : Int)) ∧
    (0 ≤ j2 ∧ j2 ≤ (s0.length : Int)) ∧
    (((0 + (Int.toNat i1)) + (List.length (List.take (s0.length - (Int.toNat j2)) (List.drop (Int.toNat j2) s0)))) ≤ s0.length) ∧
    (0 ≤ (((Int.toNat i1) + (List.length (List.take (s0.length - (Int.toNat j2)) (List.drop (Int.toNat j2) s0)))) : Int) ∧ (((Int.toNat i1) + (List.length (List.take (s0.length - (Int.toNat j2)) (List.drop (Int.toNat j2) s0)))) : Int) ≤ (s0.length : Int) ∧ (0 : Int) + (s0.length : Int) ≤ ((List.length (midA s0 (0 + (Int.toNat i1)) (List.take (s0.length - (Int.toNat j2)) (List.drop (Int.toNat j2) s0)))) : Int)) ∧
    k (List.take ((Int.toNat i1) + (List.length (List.take (s0.length - (Int.toNat j2)) (List.drop (Int.toNat j2) s0)))) (List.drop 0 (midA (midA s0 (0 + (Int.toNat i1)) (List.take (s0.length - (Int.toNat j2)) (List.drop (Int.toNat j2) s0))) (0 + (Int.toNat (((Int.toNat i1) + (List.length (List.take (s0.length - (Int.toNat j2)) (List.drop (Int.toNat j2) s0)))) : Int))) (List.replicate ((Int.toNat (s0.length : Int)) - (Int.toNat (((Int.toNat i1) + (List.length (List.take (s0.length - (Int.toNat j2)) (List.drop (Int.toNat j2) s0)))) : Int))) ((0 : Int), (0 : Int), (0 : Int)))))))
theorem G_slices_Delete_Entry_Entry_eq (s0 : List (Int × Int × Int)) (i1 : Int) (j2 : Int) (k : List (Int × Int × Int) → Prop) : G_slices_Delete_Entry_Entry s0 i1 j2 k = H_slices_Delete_Entry_Entry s0 i1 j2 k := by
  simp only [G_slices_Delete_Entry_Entry, H_slices_Delete_Entry_Entry, and_self, and_true]
def S_slices_Delete_Entry_Entry (s0 : List (Int × Int × Int)) (i1 : Int) (j2 : Int) (k : List (Int × Int × Int) → Prop) : Prop := H_slices_Delete_Entry_Entry s0 i1 j2 k
def F_slices_Delete_Entry_Entry (l : List Ent) (i j : Int) (k : List Ent → Prop) : Prop := (0 ≤ i ∧ i ≤ j ∧ j ≤ l.length ∧ l.length ≤ 1000000000) ∧ k (l.take i.toNat ++ l.drop j.toNat)
theorem F_slices_Delete_Entry_Entry_S {l : List Ent} {i j : Int} {k : List Ent → Prop} (h : F_slices_Delete_Entry_Entry l i j k) : S_slices_Delete_Entry_Entry l i j k := by
  obtain ⟨⟨h1, h2, h3, h4⟩, hk⟩ := h
  refine ⟨⟨h1, h2, h3, Int.le_refl _⟩, br_beq.2 ⟨fun e => ?_, fun e => ?_⟩⟩
  · rw [← e, List.take_append_drop] at hk; exact hk
  · have hD : List.take (l.length - j.toNat) (l.drop j.toNat) = l.drop j.toNat := List.take_of_length_le (by simp)
    rw [hD]
    have hDl : (l.drop j.toNat).length = l.length - j.toNat := by simp
    have hm : (midA l (0 + i.toNat) (l.drop j.toNat)).length = l.length := by simp only [midA, List.length_append, List.length_take, List.length_drop]; omega
    refine ⟨⟨h1, by omega⟩, ⟨by omega, h3⟩, by omega, ⟨by omega, by omega, by omega⟩, ?_⟩
    rw [List.drop_zero]
    have e0 : ((i.toNat : Int) + ((l.drop j.toNat).length : Int)).toNat = i.toNat + (l.drop j.toNat).length := by omega
    have e2 := fun Z : List Ent => mid_take0 (l := midA l (0 + i.toNat) (l.drop j.toNat)) (r := Z) (i := 0 + (i.toNat + (l.drop j.toNat).length)) (by rw [hm]; omega)
    have e3 := mid_take1 (l := l) (r := l.drop j.toNat) (i := 0 + i.toNat) (n := 0 + (i.toNat + (l.drop j.toNat).length)) (by omega) (by omega)
    have e4 := fun Z => (e2 Z).trans e3
    simp only [Nat.zero_add] at e4
    rw [e0]
    simp only [Nat.zero_add]
    rw [e4]; exact hk
-- impl.UseOften
def T0_impl_UseOften (key2 : Int) (list0 : List (Int × Int × Int)) (now3 : Int) (room1 : Int) (xt31 : Int) (xthere11 : Bool) (xt32 : Int) (xout10 : List (Int × Int × Int)) (k : List (Int × Int × Int) → Bool → Prop) (B0 : Bool → Int → List (Int × Int × Int) → Prop) : Prop :=
  br (decide (xt32 < xt31))
  ((0 ≤ xt32 ∧ xt32 < (list0.length : Int)) ∧
    br (decide ((List.getD list0 (Int.toNat xt32) ((0 : Int), (0 : Int), (0 : Int))).2.2 ≥ now3))
    (k ([] : List (Int × Int × Int)) false)
    (br ((List.getD list0 (Int.toNat xt32) ((0 : Int), (0 : Int), (0 : Int))).1 == key2)
      (InR ((List.getD list0 (Int.toNat xt32) ((0 : Int), (0 : Int), (0 : Int))).2.1 + 1) ∧
        (xout10.length + 1 ≤ 1000000000) ∧
        InR (xt32 + 1) ∧
        B0 true (xt32 + 1) (xout10 ++ ([((List.getD list0 (Int.toNat xt32) ((0 : Int), (0 : Int), (0 : Int))).1, (if 100 < ((List.getD list0 (Int.toNat xt32) ((0 : Int), (0 : Int), (0 : Int))).2.1 + 1) then (100 : Int) else ((List.getD list0 (Int.toNat xt32) ((0 : Int), (0 : Int), (0 : Int))).2.1 + 1)), now3)] : List (Int × Int × Int))))
      ((xout10.length + 1 ≤ 1000000000) ∧
        InR (xt32 + 1) ∧
        B0 xthere11 (xt32 + 1) (xout10 ++ ([((List.getD list0 (Int.toNat xt32) ((0 : Int), (0 : Int), (0 : Int))).1, (List.getD list0 (Int.toNat xt32) ((0 : Int), (0 : Int), (0 : Int))).2.1, (List.getD list0 (Int.toNat xt32) ((0 : Int), (0 : Int), (0 : Int))).2.2)] : List (Int × Int × Int))))))
  (br xthere11
    (k xout10 true)
    (br ((xout10.length : Int) == room1)
      (F_impl_rarestEntry xout10 fun rarestEntry64Key rarestEntry64Count rarestEntry64Last =>
        F_slices_Index_Entry_Entry xout10 rarestEntry64Key rarestEntry64Count rarestEntry64Last fun index65 =>
        InR (index65 + 1) ∧
        F_slices_Delete_Entry_Entry xout10 index65 (index65 + 1) fun delete70 =>
        (delete70.length + 1 ≤ 1000000000) ∧
        k (delete70 ++ ([(key2, (1 : Int), now3)] : List (Int × Int × Int))) false)
      ((xout10.length + 1 ≤ 1000000000) ∧
        k (xout10 ++ ([(key2, (1 : Int), now3)] : List (Int × Int × Int))) false)))
def L0_impl_UseOften (key2 : Int) (list0 : List (Int × Int × Int)) (now3 : Int) (room1 : Int) (xt31 : Int) (k : List (Int × Int × Int) → Bool → Prop) : Nat → Bool → Int → List (Int × Int × Int) → Prop
  | 0, _, _, _ => False
  | n + 1, xthere11, xt32, xout10 => T0_impl_UseOften key2 list0 now3 room1 xt31 xthere11 xt32 xout10 k (L0_impl_UseOften key2 list0 now3 room1 xt31 k n)
def G_impl_UseOften (list0 : List (Int × Int × Int)) (room1 : Int) (key2 : Int) (now3 : Int) (k : List (Int × Int × Int) → Bool → Prop) (I0 : Int → List (Int × Int × Int) → Int → Int → Int → Bool → Int → List (Int × Int × Int) → Prop) : Prop :=
  F_impl_ValidEntries list0 room1 fun validEntries17 =>
  br (!validEntries17)
  (k ([] : List (Int × Int × Int)) false)
  (F_impl_validKey key2 fun validKey21 =>
    br (!validKey21)
    (k ([] : List (Int × Int × Int)) false)
    (F_impl_validTime now3 fun validTime26 =>
      br (!validTime26)
      (k ([] : List (Int × Int × Int)) false)
      (I0 key2 list0 now3 room1 (list0.length : Int) false 0 ([] : List (Int × Int × Int)))))
def S_impl_UseOften (list0 : List (Int × Int × Int)) (room1 : Int) (key2 : Int) (now3 : Int) (k : List (Int × Int × Int) → Bool → Prop) : Prop := G_impl_UseOften list0 room1 key2 now3 k (fun key2 list0 now3 room1 xt31 xthere11 xt32 xout10 => ∃ j, L0_impl_UseOften key2 list0 now3 room1 xt31 k j xthere11 xt32 xout10)
def F_impl_UseOften (l : List Ent) (room key now : Int) (k : List Ent → Bool → Prop) : Prop :=
  l.length ≤ 1000000000 ∧ (VUse l room key now → k (oftM l room key now).1 (oftM l room key now).2) ∧ (¬ VUse l room key now → k [] false)
theorem F_impl_UseOften_S {l : List Ent} {room key now : Int} {k : List Ent → Bool → Prop} (h : F_impl_UseOften l room key now k) : S_impl_UseOften l room key now k := by
  obtain ⟨hl, hyes, hno⟩ := h
  refine ⟨hl, ?_⟩; intro b hb
  refine br_not.2 (br_iff.2 ⟨fun e => br_not.2 (br_dec.2 ⟨fun hkey => br_not.2 (br_dec.2 ⟨fun hnow => ?_, fun hnow => hno fun w => hnow w.2.2.2⟩), fun hkey => hno fun w => hkey w.2.1⟩), fun e => hno fun w => by rw [hb.2 w.1] at e; cases e⟩)
  have v := hb.1 e
  have v1 := v.1
  have v2 := v.2.1
  have key1 : ∀ (r : List Ent) (i : Nat), l.drop i = r → (∀ e ∈ l.take i, e.2.2 < now) → L0_impl_UseOften key l now room (l.length : Int) k (r.length + 1) (decide (key ∈ (l.take i).map (·.1))) (i : Int) ((l.take i).map (upE key now)) := by
    intro r
    induction r with
    | nil =>
      intro i hd hn
      have hi := drop_nil' hd
      rw [List.take_of_length_le hi] at hn ⊢
      have hu : VUse l room key now := ⟨v, hkey, hn, hnow⟩
      have hk := hyes hu
      rw [L0_impl_UseOften, T0_impl_UseOften]
      refine br_dec.2 ⟨fun h => by omega, fun _ => br_dec.2 ⟨fun hm => ?_, fun hm => ?_⟩⟩
      · rw [oftM_map v.2.2.2.1 hm] at hk; exact hk
      · rw [upE_not hm]
        unfold oftM at hk
        rw [if_neg hm] at hk
        refine br_beq.2 ⟨fun hf => ?_, fun hf => ?_⟩
        · have hne : l ≠ [] := fun e => by rw [e] at hf; simp at hf; omega
          have hp := List.length_pos_iff.2 hne
          have hlt := (rareM_ok hne).1
          refine ⟨⟨hp, hl⟩, hl, fun q hq => ?_⟩
          have hq := firstAt_rare v.2.2.2.1 hne hq
          subst hq
          refine ⟨inR (by omega) (by omega), ⟨by omega, by omega, by omega, hl⟩, ?_⟩
          rw [Int.toNat_natCast, show ((rareM l : Int) + 1).toNat = rareM l + 1 by omega, ← List.eraseIdx_eq_take_drop_succ]
          rw [if_pos hf] at hk
          exact ⟨by have := List.length_eraseIdx_le l (rareM l); omega, hk⟩
        · rw [if_neg hf] at hk
          exact ⟨by omega, hk⟩
    | cons x r ih =>
      intro i hd hn
      obtain ⟨h1, h2, h5, h3, h4⟩ := drop_cons' hd
      have hxl : x ∈ l := List.mem_of_getElem? h5
      have hr := v.2.2.1 x hxl
      have hlen : ((l.take i).map (upE key now)).length ≤ 8 := by simp; omega
      rw [List.length_cons, L0_impl_UseOften, T0_impl_UseOften]
      simp only [br_dec, br_beq, Int.toNat_natCast, h2]
      refine ⟨fun _ => ⟨⟨by omega, by omega⟩, fun hge => hno fun w => ?_, fun hlt => ?_⟩, fun h => by omega⟩
      · have := w.2.2.1 x hxl; omega
      · have hn' : ∀ e ∈ l.take (i + 1), e.2.2 < now := by
          rw [h4]; intro e he
          rcases List.mem_append.1 he with h | h
          · exact hn e h
          · rw [List.mem_singleton.1 h]; omega
        have := ih (i + 1) h3 hn'
        rw [h4, List.map_append, List.map_append, List.map_singleton, List.map_singleton] at this
        refine ⟨fun hx => ⟨inR (by have := hr.2.1; omega) (by have := hr.2.1; omega), by omega, inR (by omega) (by omega), ?_⟩, fun hx => ⟨by omega, inR (by omega) (by omega), ?_⟩⟩
        · rw [upE, if_pos hx] at this
          have hd2 : decide (key ∈ (l.take i).map (·.1) ++ [x.1]) = true := by simp [hx]
          rw [hd2] at this; exact this
        · rw [upE, if_neg hx] at this
          have hd2 : decide (key ∈ (l.take i).map (·.1) ++ [x.1]) = decide (key ∈ (l.take i).map (·.1)) := by
            refine decide_eq_decide.2 ⟨fun h => ?_, fun h => List.mem_append_left _ h⟩
            rcases List.mem_append.1 h with h | h
            · exact h
            · exact absurd (List.mem_singleton.1 h).symm hx
          rw [hd2] at this; exact this
  exact ⟨_, by simpa using key1 l 0 rfl (by simp)⟩
-- impl.RunOften
def T0_impl_RunOften (room1 : Int) (t0 : List Int) (xt14i1 : Int) (xhits8i1 : Int) (xt15i1 : Int) (xcache1 : List (Int × Int × Int)) (xb6c0 : Int) (k : List (Int × Int × Int) → Int → Prop) (B0 : Int → Int → List (Int × Int × Int) → Int → Prop) : Prop :=
  br (decide (xt15i1 < xt14i1))
  ((0 ≤ xt15i1 ∧ xt15i1 < (t0.length : Int)) ∧
    F_impl_UseOften xcache1 room1 (List.getD t0 (Int.toNat xt15i1) (0 : Int)) xb6c0 fun useOften15r0 useOften15r1 =>
    InR (xb6c0 + 1) ∧
    br useOften15r1
    (InR (xhits8i1 + 1) ∧
      InR (xt15i1 + 1) ∧
      B0 (xhits8i1 + 1) (xt15i1 + 1) useOften15r0 (xb6c0 + 1))
    (InR (xt15i1 + 1) ∧
      B0 xhits8i1 (xt15i1 + 1) useOften15r0 (xb6c0 + 1)))
  (k xcache1 xhits8i1)
def L0_impl_RunOften (room1 : Int) (t0 : List Int) (xt14i1 : Int) (k : List (Int × Int × Int) → Int → Prop) : Nat → Int → Int → List (Int × Int × Int) → Int → Prop
  | 0, _, _, _, _ => False
  | n + 1, xhits8i1, xt15i1, xcache1, xb6c0 => T0_impl_RunOften room1 t0 xt14i1 xhits8i1 xt15i1 xcache1 xb6c0 k (L0_impl_RunOften room1 t0 xt14i1 k n)
def G_impl_RunOften (t0 : List Int) (room1 : Int) (k : List (Int × Int × Int) → Int → Prop) (I0 : Int → List Int → Int → Int → Int → List (Int × Int × Int) → Int → Prop) : Prop :=
  F_impl_ValidTrace t0 fun validTrace8 =>
  br (!validTrace8)
  (k ([] : List (Int × Int × Int)) (-1))
  (F_impl_validRoom room1 fun validRoom12 =>
    br (!validRoom12)
    (k ([] : List (Int × Int × Int)) (-1))
    (I0 room1 t0 (t0.length : Int) 0 0 ([] : List (Int × Int × Int)) 0))
def S_impl_RunOften (t0 : List Int) (room1 : Int) (k : List (Int × Int × Int) → Int → Prop) : Prop := G_impl_RunOften t0 room1 k (fun room1 t0 xt14i1 xhits8i1 xt15i1 xcache1 xb6c0 => ∃ j, L0_impl_RunOften room1 t0 xt14i1 k j xhits8i1 xt15i1 xcache1 xb6c0)
def F_impl_RunOften (t : List Int) (room : Int) (k : List Ent → Int → Prop) : Prop :=
  ((VTrace t ∧ 1 ≤ room ∧ room ≤ 8) → k (runO room t [] 0 0).1 (runO room t [] 0 0).2) ∧ (¬ (VTrace t ∧ 1 ≤ room ∧ room ≤ 8) → k [] (-1))
theorem F_impl_RunOften_S {t : List Int} {room : Int} {k : List Ent → Int → Prop} (h : F_impl_RunOften t room k) : S_impl_RunOften t room k := by
  obtain ⟨hyes, hno⟩ := h
  intro b hb
  refine br_not.2 (br_iff.2 ⟨fun e => br_not.2 (br_dec.2 ⟨fun hr => ?_, fun hr => hno fun w => hr w.2⟩), fun e => hno fun v => by rw [hb.2 v.1] at e; cases e⟩)
  have v := hb.1 e
  have hk := hyes ⟨v, hr⟩
  have t1 := v.1
  have t2 := v.2
  have key : ∀ (r : List Int) (i : Nat) (l : List Ent) (n : Int), t.drop i = r → VEnt l room → (∀ e ∈ l, e.2.2 < (i : Int)) → 0 ≤ n → n ≤ i → k (runO room r l i n).1 (runO room r l i n).2 → L0_impl_RunOften room t (t.length : Int) k (r.length + 1) n (i : Int) l (i : Int) := by
    intro r
    induction r with
    | nil =>
      intro i l n hdr v hl n0 n1 hk
      have := drop_nil' hdr
      rw [L0_impl_RunOften, T0_impl_RunOften]
      simp only [br_dec]
      exact ⟨fun h => by omega, fun _ => hk⟩
    | cons x r ih =>
      intro i l n hdr v hl n0 n1 hk
      obtain ⟨h1, h2, h5, h3, h4⟩ := drop_cons' hdr
      have hx := t2 x (List.mem_of_getElem? h5)
      rw [List.length_cons, L0_impl_RunOften, T0_impl_RunOften]
      simp only [br_dec, Int.toNat_natCast, h2]
      have hu : VUse l room x i := ⟨v, hx, hl, by omega, by omega⟩
      refine ⟨fun _ => ⟨⟨by omega, by omega⟩, by have := v.2.1; omega, fun _ => ⟨inR (by omega) (by omega), br_iff.2 ⟨fun e => ⟨inR (by omega) (by omega), inR (by omega) (by omega), ?_⟩, fun e => ⟨inR (by omega) (by omega), ?_⟩⟩⟩, fun hv => absurd hu hv⟩, fun h => by omega⟩
      · have := ih (i + 1) (oftM l room x i).1 (n + 1) h3 (oftM_valid v hx hl (by omega)) (by have := oftM_last (room := room) (key := x) hl; simpa using this) (by omega) (by omega) (by rw [runO, e] at hk; simpa [toI] using hk)
        simpa using this
      · have := ih (i + 1) (oftM l room x i).1 n h3 (oftM_valid v hx hl (by omega)) (by have := oftM_last (room := room) (key := x) hl; simpa using this) (by omega) (by omega) (by rw [runO, e] at hk; simpa [toI] using hk)
        simpa using this
  exact ⟨_, key t 0 [] 0 rfl (ent_nil hr) (by simp) (by omega) (by omega) (by simpa using hk)⟩
-- spec.inRange
def G_spec_inRange (n0 : Int) (low1 : Int) (high2 : Int) (k : Bool → Prop) : Prop :=
  br (decide (low1 ≤ n0))
  (k (decide (n0 ≤ high2)))
  (k false)
def S_spec_inRange (n0 : Int) (low1 : Int) (high2 : Int) (k : Bool → Prop) : Prop := G_spec_inRange n0 low1 high2 k
def F_spec_inRange (n low high : Int) (k : Bool → Prop) : Prop := k (decide (low ≤ n ∧ n ≤ high))
theorem F_spec_inRange_S {n low high : Int} {k : Bool → Prop} (h : F_spec_inRange n low high k) : S_spec_inRange n low high k := by
  unfold F_spec_inRange at h
  simp only [S_spec_inRange, G_spec_inRange, br_dec]
  refine ⟨fun h1 => ?_, fun h1 => ?_⟩
  · simpa [h1] using h
  · simpa [h1] using h
-- spec.allIn
def T0_spec_allIn (high2 : Int) (list0 : List Int) (low1 : Int) (xi7 : Int) (k : Bool → Prop) (B0 : Int → Prop) : Prop :=
  br (decide (xi7 < (list0.length : Int)))
  ((0 ≤ xi7 ∧ xi7 < (list0.length : Int)) ∧
    F_spec_inRange (List.getD list0 (Int.toNat xi7) (0 : Int)) low1 high2 fun inRange20 =>
    br (!inRange20)
    (k false)
    (InR (xi7 + 1) ∧
      B0 (xi7 + 1)))
  (k true)
def L0_spec_allIn (high2 : Int) (list0 : List Int) (low1 : Int) (k : Bool → Prop) : Nat → Int → Prop
  | 0, _ => False
  | n + 1, xi7 => T0_spec_allIn high2 list0 low1 xi7 k (L0_spec_allIn high2 list0 low1 k n)
def G_spec_allIn (list0 : List Int) (low1 : Int) (high2 : Int) (I0 : Int → List Int → Int → Int → Prop) : Prop :=
  I0 high2 list0 low1 0
def S_spec_allIn (list0 : List Int) (low1 : Int) (high2 : Int) (k : Bool → Prop) : Prop := G_spec_allIn list0 low1 high2 (fun high2 list0 low1 xi7 => ∃ j, L0_spec_allIn high2 list0 low1 k j xi7)
def F_spec_allIn (l : List Int) (low high : Int) (k : Bool → Prop) : Prop := l.length ≤ 1000000000 ∧ k (decide (∀ x ∈ l, low ≤ x ∧ x ≤ high))
theorem F_spec_allIn_S {l : List Int} {low high : Int} {k : Bool → Prop} (h : F_spec_allIn l low high k) : S_spec_allIn l low high k := by
  obtain ⟨hl, hk⟩ := h
  have key : ∀ (r : List Int) (i : Nat), l.drop i = r → ((∀ x ∈ r, low ≤ x ∧ x ≤ high) ↔ (∀ x ∈ l, low ≤ x ∧ x ≤ high)) → L0_spec_allIn high l low k (r.length + 1) (i : Int) := by
    intro r
    induction r with
    | nil =>
      intro i hd he
      have := drop_nil' hd
      rw [L0_spec_allIn, T0_spec_allIn]
      simp only [br_dec]
      refine ⟨fun h => by omega, fun _ => ?_⟩
      rwa [decide_eq_true (he.1 (by simp))] at hk
    | cons x r ih =>
      intro i hd he
      obtain ⟨h1, h2, _, h3, _⟩ := drop_cons' hd
      rw [List.length_cons, L0_spec_allIn, T0_spec_allIn]
      simp only [br_dec, F_spec_inRange, br_not, Int.toNat_natCast, h2]
      refine ⟨fun _ => ⟨⟨by omega, by omega⟩, fun hx => ⟨inR (by omega) (by omega), ?_⟩, fun hx => ?_⟩, fun h => by omega⟩
      · refine ih (i + 1) h3 (Iff.trans ?_ he)
        simp only [List.mem_cons, forall_eq_or_imp]
        exact ⟨fun h => ⟨hx, h⟩, fun h => h.2⟩
      · rwa [decide_eq_false (fun h => hx (he.2 h x (by simp)))] at hk
  exact ⟨_, key l 0 rfl Iff.rfl⟩
-- spec.validTrace
def G_spec_validTrace (t0 : List Int) (k : Bool → Prop) : Prop :=
  br (decide ((t0.length : Int) ≤ 24))
  (F_spec_allIn t0 (0 : Int) (31 : Int) fun allIn8 =>
    k allIn8)
  (k false)
def S_spec_validTrace (t0 : List Int) (k : Bool → Prop) : Prop := G_spec_validTrace t0 k
def F_spec_validTrace (t : List Int) (k : Bool → Prop) : Prop := ∀ b : Bool, (b = true ↔ VTrace t) → k b
theorem F_spec_validTrace_S {t : List Int} {k : Bool → Prop} (h : F_spec_validTrace t k) : S_spec_validTrace t k :=
  br_dec.2 ⟨fun h1 => ⟨by omega, h _ (by simp only [decide_eq_true_eq]; exact ⟨fun h2 => ⟨by omega, h2⟩, fun v => v.2⟩)⟩, fun h1 => h false (by simp only [Bool.false_eq_true, false_iff]; exact fun v => h1 (by have := v.1; omega))⟩
-- spec.rarer
def G_spec_rarer (a0Key : Int) (a0Count : Int) (a0Last : Int) (b1Key : Int) (b1Count : Int) (b1Last : Int) (k : Bool → Prop) : Prop :=
  br (decide (a0Count < b1Count))
  (k true)
  (br (a0Count == b1Count)
    (k (decide (a0Last < b1Last)))
    (k false))
def S_spec_rarer (a0Key : Int) (a0Count : Int) (a0Last : Int) (b1Key : Int) (b1Count : Int) (b1Last : Int) (k : Bool → Prop) : Prop := G_spec_rarer a0Key a0Count a0Last b1Key b1Count b1Last k
def F_spec_rarer (a1 a2 a3 b1 b2 b3 : Int) (k : Bool → Prop) : Prop := k (decide (Rar (a1, a2, a3) (b1, b2, b3)))
theorem F_spec_rarer_S {a1 a2 a3 b1 b2 b3 : Int} {k : Bool → Prop} (h : F_spec_rarer a1 a2 a3 b1 b2 b3 k) : S_spec_rarer a1 a2 a3 b1 b2 b3 k := by
  have yes : Rar (a1, a2, a3) (b1, b2, b3) → k true := fun r => by have := h; unfold F_spec_rarer at this; rwa [decide_eq_true r] at this
  have no : ¬ Rar (a1, a2, a3) (b1, b2, b3) → k false := fun r => by have := h; unfold F_spec_rarer at this; rwa [decide_eq_false r] at this
  refine br_dec.2 ⟨fun h1 => yes (.inl h1), fun h1 => br_beq.2 ⟨fun h2 => ?_, fun h2 => no fun r => ?_⟩⟩
  · by_cases h3 : a3 < b3
    · rw [decide_eq_true h3]; exact yes (.inr ⟨h2, h3⟩)
    · rw [decide_eq_false h3]; exact no fun r => by unfold Rar at r; simp only at r; omega
  · unfold Rar at r; simp only at r; omega
-- spec.rarest
def T0_spec_rarest (list0 : List (Int × Int × Int)) (xat3 : Int) (xi4 : Int) (k : Int → Prop) (B0 : Int → Int → Prop) : Prop :=
  br (decide (xi4 < (list0.length : Int)))
  ((0 ≤ xi4 ∧ xi4 < (list0.length : Int)) ∧
    (0 ≤ xat3 ∧ xat3 < (list0.length : Int)) ∧
    (F_spec_rarer (List.getD list0 (Int.toNat xi4) ((0 : Int), (0 : Int), (0 : Int))).1 (List.getD list0 (Int.toNat xi4) ((0 : Int), (0 : Int), (0 : Int))).2.1 (List.getD list0 (Int.toNat xi4) ((0 : Int), (0 : Int), (0 : Int))).2.2 (List.getD list0 (Int.toNat xat3) ((0 : Int), (0 : Int), (0 : Int))).1 (List.getD list0 (Int.toNat xat3) ((0 : Int), (0 : Int), (0 : Int))).2.1 (List.getD list0 (Int.toNat xat3) ((0 : Int), (0 : Int), (0 : Int))).2.2 fun rarer19 =>
      br rarer19
      (InR (xi4 + 1) ∧
        B0 xi4 (xi4 + 1))
      (InR (xi4 + 1) ∧
        B0 xat3 (xi4 + 1))) ∧
    (True))
  (k xat3)
def U0_spec_rarest (list0 : List (Int × Int × Int)) (xat3 : Int) (xi4 : Int) (k : Int → Prop) (B0 : Int → Int → Prop) : Prop :=
  br (decide (xi4 < (list0.length : Int)))
  ((0 ≤ xi4 ∧ xi4 < (list0.length : Int)) ∧
    (0 ≤ xat3 ∧ xat3 < (list0.length : Int)) ∧
    F_spec_rarer (List.getD list0 (Int.toNat xi4) ((0 : Int), (0 : Int), (0 : Int))).1 (List.getD list0 (Int.toNat xi4) ((0 : Int), (0 : Int), (0 : Int))).2.1 (List.getD list0 (Int.toNat xi4) ((0 : Int), (0 : Int), (0 : Int))).2.2 (List.getD list0 (Int.toNat xat3) ((0 : Int), (0 : Int), (0 : Int))).1 (List.getD list0 (Int.toNat xat3) ((0 : Int), (0 : Int), (0 : Int))).2.1 (List.getD list0 (Int.toNat xat3) ((0 : Int), (0 : Int), (0 : Int))).2.2 fun rarer19 =>
    br rarer19
    (InR (xi4 + 1) ∧
      B0 xi4 (xi4 + 1))
    (InR (xi4 + 1) ∧
      B0 xat3 (xi4 + 1)))
  (k xat3)
theorem T0_spec_rarest_eq (list0 : List (Int × Int × Int)) (xat3 : Int) (xi4 : Int) (k : Int → Prop) (B0 : Int → Int → Prop) : T0_spec_rarest list0 xat3 xi4 k B0 = U0_spec_rarest list0 xat3 xi4 k B0 := by
  simp only [T0_spec_rarest, U0_spec_rarest, and_self, and_true]
def L0_spec_rarest (list0 : List (Int × Int × Int)) (k : Int → Prop) : Nat → Int → Int → Prop
  | 0, _, _ => False
  | n + 1, xat3, xi4 => U0_spec_rarest list0 xat3 xi4 k (L0_spec_rarest list0 k n)
def G_spec_rarest (list0 : List (Int × Int × Int)) (I0 : List (Int × Int × Int) → Int → Int → Prop) : Prop :=
  I0 list0 0 1
def S_spec_rarest (list0 : List (Int × Int × Int)) (k : Int → Prop) : Prop := G_spec_rarest list0 (fun list0 xat3 xi4 => ∃ j, L0_spec_rarest list0 k j xat3 xi4)
def F_spec_rarest (l : List Ent) (k : Int → Prop) : Prop := (0 < l.length ∧ l.length ≤ 1000000000) ∧ k (rareM l : Int)
theorem F_spec_rarest_S {l : List Ent} {k : Int → Prop} (h : F_spec_rarest l k) : S_spec_rarest l k := by
  obtain ⟨⟨h0, h1⟩, hk⟩ := h
  have key : ∀ (r : List Ent) (i p : Nat), l.drop i = r → p < i → i ≤ l.length → rareS l r i p = rareM l → L0_spec_rarest l k (r.length + 1) (p : Int) (i : Int) := by
    intro r
    induction r with
    | nil =>
      intro i p hd hp hi he
      have := drop_nil' hd
      rw [L0_spec_rarest, U0_spec_rarest]
      simp only [br_dec]
      exact ⟨fun h => by omega, fun _ => by rw [show p = rareM l from he]; exact hk⟩
    | cons x r ih =>
      intro i p hd hp hi he
      obtain ⟨g1, g2, _, g3, _⟩ := drop_cons' hd
      rw [rareS] at he
      rw [List.length_cons, L0_spec_rarest, U0_spec_rarest]
      simp only [br_dec, Int.toNat_natCast, g2]
      refine ⟨fun _ => ⟨⟨by omega, by omega⟩, ⟨by omega, by omega⟩, ?_⟩, fun h => by omega⟩
      show br (decide (Rar x (l.getD p ent0))) _ _
      refine br_dec.2 ⟨fun hr => ⟨inR (by omega) (by omega), ?_⟩, fun hr => ⟨inR (by omega) (by omega), ?_⟩⟩
      · rw [if_pos hr] at he; exact ih (i + 1) i g3 (by omega) (by omega) he
      · rw [if_neg hr] at he; exact ih (i + 1) p g3 (by omega) (by omega) he
  exact ⟨_, key (l.drop 1) 1 0 rfl (by omega) (by omega) rfl⟩
-- spec.often
def T0_spec_often (key2 : Int) (list0 : List (Int × Int × Int)) (now3 : Int) (room1 : Int) (xi11 : Int) (k : List (Int × Int × Int) → Bool → Prop) (B0 : Int → Prop) : Prop :=
  br (decide (xi11 < (list0.length : Int)))
  ((0 ≤ xi11 ∧ xi11 < (list0.length : Int)) ∧
    br ((List.getD list0 (Int.toNat xi11) ((0 : Int), (0 : Int), (0 : Int))).1 == key2)
    ((0 ≤ xi11 ∧ xi11 < (list0.length : Int)) ∧
      InR ((List.getD list0 (Int.toNat xi11) ((0 : Int), (0 : Int), (0 : Int))).2.1 + 1) ∧
      (0 ≤ xi11 ∧ xi11 < (list0.length : Int)) ∧
      k (List.set list0 (Int.toNat xi11) (key2, (if 100 < ((List.getD list0 (Int.toNat xi11) ((0 : Int), (0 : Int), (0 : Int))).2.1 + 1) then (100 : Int) else ((List.getD list0 (Int.toNat xi11) ((0 : Int), (0 : Int), (0 : Int))).2.1 + 1)), now3)) true)
    (InR (xi11 + 1) ∧
      B0 (xi11 + 1)))
  (br ((list0.length : Int) == room1)
    (F_spec_rarest list0 fun rarest48 =>
      (0 ≤ rarest48 ∧ rarest48 ≤ (list0.length : Int)) ∧
      InR (rarest48 + 1) ∧
      (0 ≤ (rarest48 + 1) ∧ (rarest48 + 1) ≤ (list0.length : Int)) ∧
      ((((0 + (Int.toNat rarest48)) + (List.length (List.take (list0.length - (Int.toNat (rarest48 + 1))) (List.drop (Int.toNat (rarest48 + 1)) list0)))) ≤ list0.length) ∧
        ((List.length (List.take ((Int.toNat rarest48) + (List.length (List.take (list0.length - (Int.toNat (rarest48 + 1))) (List.drop (Int.toNat (rarest48 + 1)) list0)))) (List.drop 0 (midA list0 (0 + (Int.toNat rarest48)) (List.take (list0.length - (Int.toNat (rarest48 + 1))) (List.drop (Int.toNat (rarest48 + 1)) list0)))))) + 1 ≤ 1000000000) ∧
        k ((List.take ((Int.toNat rarest48) + (List.length (List.take (list0.length - (Int.toNat (rarest48 + 1))) (List.drop (Int.toNat (rarest48 + 1)) list0)))) (List.drop 0 (midA list0 (0 + (Int.toNat rarest48)) (List.take (list0.length - (Int.toNat (rarest48 + 1))) (List.drop (Int.toNat (rarest48 + 1)) list0))))) ++ ([(key2, (1 : Int), now3)] : List (Int × Int × Int))) false) ∧
      (True))
    ((list0.length + 1 ≤ 1000000000) ∧
      k (list0 ++ ([(key2, (1 : Int), now3)] : List (Int × Int × Int))) false))
def U0_spec_often (key2 : Int) (list0 : List (Int × Int × Int)) (now3 : Int) (room1 : Int) (xi11 : Int) (k : List (Int × Int × Int) → Bool → Prop) (B0 : Int → Prop) : Prop :=
  br (decide (xi11 < (list0.length : Int)))
  ((0 ≤ xi11 ∧ xi11 < (list0.length : Int)) ∧
    br ((List.getD list0 (Int.toNat xi11) ((0 : Int), (0 : Int), (0 : Int))).1 == key2)
    ((0 ≤ xi11 ∧ xi11 < (list0.length : Int)) ∧
      InR ((List.getD list0 (Int.toNat xi11) ((0 : Int), (0 : Int), (0 : Int))).2.1 + 1) ∧
      (0 ≤ xi11 ∧ xi11 < (list0.length : Int)) ∧
      k (List.set list0 (Int.toNat xi11) (key2, (if 100 < ((List.getD list0 (Int.toNat xi11) ((0 : Int), (0 : Int), (0 : Int))).2.1 + 1) then (100 : Int) else ((List.getD list0 (Int.toNat xi11) ((0 : Int), (0 : Int), (0 : Int))).2.1 + 1)), now3)) true)
    (InR (xi11 + 1) ∧
      B0 (xi11 + 1)))
  (br ((list0.length : Int) == room1)
    (F_spec_rarest list0 fun rarest48 =>
      (0 ≤ rarest48 ∧ rarest48 ≤ (list0.length : Int)) ∧
      InR (rarest48 + 1) ∧
      (0 ≤ (rarest48 + 1) ∧ (rarest48 + 1) ≤ (list0.length : Int)) ∧
      (((0 + (Int.toNat rarest48)) + (List.length (List.take (list0.length - (Int.toNat (rarest48 + 1))) (List.drop (Int.toNat (rarest48 + 1)) list0)))) ≤ list0.length) ∧
      ((List.length (List.take ((Int.toNat rarest48) + (List.length (List.take (list0.length - (Int.toNat (rarest48 + 1))) (List.drop (Int.toNat (rarest48 + 1)) list0)))) (List.drop 0 (midA list0 (0 + (Int.toNat rarest48)) (List.take (list0.length - (Int.toNat (rarest48 + 1))) (List.drop (Int.toNat (rarest48 + 1)) list0)))))) + 1 ≤ 1000000000) ∧
      k ((List.take ((Int.toNat rarest48) + (List.length (List.take (list0.length - (Int.toNat (rarest48 + 1))) (List.drop (Int.toNat (rarest48 + 1)) list0)))) (List.drop 0 (midA list0 (0 + (Int.toNat rarest48)) (List.take (list0.length - (Int.toNat (rarest48 + 1))) (List.drop (Int.toNat (rarest48 + 1)) list0))))) ++ ([(key2, (1 : Int), now3)] : List (Int × Int × Int))) false)
    ((list0.length + 1 ≤ 1000000000) ∧
      k (list0 ++ ([(key2, (1 : Int), now3)] : List (Int × Int × Int))) false))
theorem T0_spec_often_eq (key2 : Int) (list0 : List (Int × Int × Int)) (now3 : Int) (room1 : Int) (xi11 : Int) (k : List (Int × Int × Int) → Bool → Prop) (B0 : Int → Prop) : T0_spec_often key2 list0 now3 room1 xi11 k B0 = U0_spec_often key2 list0 now3 room1 xi11 k B0 := by
  simp only [T0_spec_often, U0_spec_often, and_self, and_true]
def L0_spec_often (key2 : Int) (list0 : List (Int × Int × Int)) (now3 : Int) (room1 : Int) (k : List (Int × Int × Int) → Bool → Prop) : Nat → Int → Prop
  | 0, _ => False
  | n + 1, xi11 => U0_spec_often key2 list0 now3 room1 xi11 k (L0_spec_often key2 list0 now3 room1 k n)
def G_spec_often (list0 : List (Int × Int × Int)) (room1 : Int) (key2 : Int) (now3 : Int) (I0 : Int → List (Int × Int × Int) → Int → Int → Int → Prop) : Prop :=
  (0 + list0.length ≤ 1000000000) ∧
  I0 key2 list0 now3 room1 0
def S_spec_often (list0 : List (Int × Int × Int)) (room1 : Int) (key2 : Int) (now3 : Int) (k : List (Int × Int × Int) → Bool → Prop) : Prop := G_spec_often list0 room1 key2 now3 (fun key2 list0 now3 room1 xi11 => ∃ j, L0_spec_often key2 list0 now3 room1 k j xi11)
def F_spec_often (l : List Ent) (room key now : Int) (k : List Ent → Bool → Prop) : Prop :=
  (l.length ≤ 1000000 ∧ 1 ≤ room ∧ ∀ e ∈ l, 0 ≤ e.2.1 ∧ e.2.1 ≤ 1000) ∧ k (oftM l room key now).1 (oftM l room key now).2
theorem F_spec_often_S {l : List Ent} {room key now : Int} {k : List Ent → Bool → Prop} (h : F_spec_often l room key now k) : S_spec_often l room key now k := by
  obtain ⟨⟨h0, h1, hc⟩, hk⟩ := h
  have go : ∀ (r : List Ent) (i : Nat), l.drop i = r → plcF (r.map (·.1)) key i = entAt l key → key ∉ (l.take i).map (·.1) → L0_spec_often key l now room k (r.length + 1) (i : Int) := by
    intro r
    induction r with
    | nil =>
      intro i hd he hn
      have hi := drop_nil' hd
      rw [List.take_of_length_le hi] at hn
      rw [L0_spec_often, U0_spec_often]
      rw [oftM, if_neg hn] at hk
      refine br_dec.2 ⟨fun h => by omega, fun _ => br_beq.2 ⟨fun hf => ?_, fun hf => ?_⟩⟩
      · rw [if_pos hf] at hk
        have hl : 0 < l.length := by omega
        have hr := (rareM_ok (l := l) (by intro e; rw [e] at hl; simp at hl)).1
        refine ⟨⟨hl, by omega⟩, ⟨by omega, by omega⟩, inR (by omega) (by omega), ⟨by omega, by omega⟩, by simp; omega, by simp; omega, ?_⟩
        have ce := cut_erase hr
        rw [List.drop_zero] at ce
        rw [List.drop_zero, mid_take1 (by omega) (by omega), Nat.zero_add, ce]; exact hk
      · rw [if_neg hf] at hk
        exact ⟨by omega, hk⟩
    | cons x r ih =>
      intro i hd he hn
      obtain ⟨g1, g2, g5, g3, g4⟩ := drop_cons' hd
      have hm := List.mem_of_getElem? g5
      have hx := hc x hm
      rw [List.length_cons, L0_spec_often, U0_spec_often]
      simp only [br_dec, br_beq, Int.toNat_natCast, g2]
      refine ⟨fun _ => ⟨⟨by omega, by omega⟩, fun e => ⟨⟨by omega, by omega⟩, inR (by omega) (by omega), ⟨by omega, by omega⟩, ?_⟩, fun e => ⟨inR (by omega) (by omega), ?_⟩⟩, fun h => by omega⟩
      · rw [oftM, if_pos (List.mem_map.2 ⟨x, hm, e⟩)] at hk
        rw [List.map_cons, plcF, if_pos e] at he
        rw [← he, Int.toNat_natCast, g2] at hk
        rw [min_100]; exact hk
      · rw [List.map_cons, plcF, if_neg e] at he
        refine ih (i + 1) g3 he ?_
        rw [g4, List.map_append, List.mem_append]
        rintro (h | h)
        · exact hn h
        · simp at h; exact e h.symm
  exact ⟨by omega, _, go l 0 rfl rfl (by simp)⟩
-- spec.toInt
def G_spec_toInt (b0 : Bool) (k : Int → Prop) : Prop :=
  br b0
  (k 1)
  (k 0)
def S_spec_toInt (b0 : Bool) (k : Int → Prop) : Prop := G_spec_toInt b0 k
def F_spec_toInt (b : Bool) (k : Int → Prop) : Prop := k (toI b)
theorem F_spec_toInt_S {b : Bool} {k : Int → Prop} (h : F_spec_toInt b k) : S_spec_toInt b k := by
  cases b <;> exact h
-- spec.RunOften
def T0_spec_RunOften (room1 : Int) (t0 : List Int) (xn7 : Int) (xi8 : Int) (xlist6 : List (Int × Int × Int)) (k : List (Int × Int × Int) → Int → Prop) (B0 : Int → Int → List (Int × Int × Int) → Prop) : Prop :=
  br (decide (xi8 < (t0.length : Int)))
  ((0 ≤ xi8 ∧ xi8 < (t0.length : Int)) ∧
    F_spec_often xlist6 room1 (List.getD t0 (Int.toNat xi8) (0 : Int)) xi8 fun often33r0 often33r1 =>
    F_spec_toInt often33r1 fun toInt38 =>
    InR (xn7 + toInt38) ∧
    InR (xi8 + 1) ∧
    B0 (xn7 + toInt38) (xi8 + 1) often33r0)
  (k xlist6 xn7)
def L0_spec_RunOften (room1 : Int) (t0 : List Int) (k : List (Int × Int × Int) → Int → Prop) : Nat → Int → Int → List (Int × Int × Int) → Prop
  | 0, _, _, _ => False
  | n + 1, xn7, xi8, xlist6 => T0_spec_RunOften room1 t0 xn7 xi8 xlist6 k (L0_spec_RunOften room1 t0 k n)
def G_spec_RunOften (t0 : List Int) (room1 : Int) (k : List (Int × Int × Int) → Int → Prop) (I0 : Int → List Int → Int → Int → List (Int × Int × Int) → Prop) : Prop :=
  F_spec_validTrace t0 fun validTrace11 =>
  br (!validTrace11)
  (k ([] : List (Int × Int × Int)) (-1))
  (F_spec_inRange room1 (1 : Int) (8 : Int) fun inRange15 =>
    br (!inRange15)
    (k ([] : List (Int × Int × Int)) (-1))
    (I0 room1 t0 0 0 ([] : List (Int × Int × Int))))
def S_spec_RunOften (t0 : List Int) (room1 : Int) (k : List (Int × Int × Int) → Int → Prop) : Prop := G_spec_RunOften t0 room1 k (fun room1 t0 xn7 xi8 xlist6 => ∃ j, L0_spec_RunOften room1 t0 k j xn7 xi8 xlist6)
def F_spec_RunOften (t : List Int) (room : Int) (k : List Ent → Int → Prop) : Prop :=
  ((VTrace t ∧ 1 ≤ room ∧ room ≤ 8) → k (runO room t [] 0 0).1 (runO room t [] 0 0).2) ∧ (¬ (VTrace t ∧ 1 ≤ room ∧ room ≤ 8) → k [] (-1))
theorem F_spec_RunOften_S {t : List Int} {room : Int} {k : List Ent → Int → Prop} (h : F_spec_RunOften t room k) : S_spec_RunOften t room k := by
  obtain ⟨hyes, hno⟩ := h
  intro b hb
  rw [br_not, br_iff]
  refine ⟨fun e => br_not.2 (br_dec.2 ⟨fun hr => ?_, fun hr => hno fun w => hr w.2⟩), fun e => hno fun v => by rw [hb.2 v.1] at e; cases e⟩
  have v := hb.1 e
  have hk := hyes ⟨v, hr⟩
  have t1 := v.1
  have t2 := v.2
  have key : ∀ (r : List Int) (i : Nat) (l : List Ent) (n : Int), t.drop i = r → VEnt l room → (∀ e ∈ l, e.2.2 < (i : Int)) → 0 ≤ n → n ≤ i → k (runO room r l i n).1 (runO room r l i n).2 → L0_spec_RunOften room t k (r.length + 1) n (i : Int) l := by
    intro r
    induction r with
    | nil =>
      intro i l n hdr v hl n0 n1 hk
      have := drop_nil' hdr
      rw [L0_spec_RunOften, T0_spec_RunOften]
      simp only [br_dec]
      exact ⟨fun h => by omega, fun _ => hk⟩
    | cons x r ih =>
      intro i l n hdr v hl n0 n1 hk
      obtain ⟨h1, h2, h5, h3, h4⟩ := drop_cons' hdr
      have hx := t2 x (List.mem_of_getElem? h5)
      rw [List.length_cons, L0_spec_RunOften, T0_spec_RunOften]
      simp only [br_dec, Int.toNat_natCast, h2]
      have h01 := toI_01 (oftM l room x i).2
      refine ⟨fun _ => ⟨⟨by omega, by omega⟩, ⟨by have := v.2.1; omega, hr.1, fun y hy => by have := (v.2.2.1 y hy).2.1; omega⟩, inR (by omega) (by omega), inR (by omega) (by omega), ?_⟩, fun h => by omega⟩
      have := ih (i + 1) (oftM l room x i).1 (n + toI (oftM l room x i).2) h3 (oftM_valid v hx hl (by omega)) (by have := oftM_last (room := room) (key := x) hl; simpa using this) (by omega) (by omega) (by simpa [runO] using hk)
      simpa using this
  exact ⟨_, key t 0 [] 0 rfl (ent_nil hr) (by simp) (by omega) (by omega) (by simpa using hk)⟩
-- laws.equalEntries
def T0_laws_equalEntries (a0 : List (Int × Int × Int)) (b1 : List (Int × Int × Int)) (xi5 : Int) (k : Bool → Prop) (B0 : Int → Prop) : Prop :=
  br (decide (xi5 < (a0.length : Int)))
  ((0 ≤ xi5 ∧ xi5 < (a0.length : Int)) ∧
    (0 ≤ xi5 ∧ xi5 < (b1.length : Int)) ∧
    br (!(((List.getD a0 (Int.toNat xi5) ((0 : Int), (0 : Int), (0 : Int))).1 == (List.getD b1 (Int.toNat xi5) ((0 : Int), (0 : Int), (0 : Int))).1) && (((List.getD a0 (Int.toNat xi5) ((0 : Int), (0 : Int), (0 : Int))).2.1 == (List.getD b1 (Int.toNat xi5) ((0 : Int), (0 : Int), (0 : Int))).2.1) && ((List.getD a0 (Int.toNat xi5) ((0 : Int), (0 : Int), (0 : Int))).2.2 == (List.getD b1 (Int.toNat xi5) ((0 : Int), (0 : Int), (0 : Int))).2.2))))
    (k false)
    (InR (xi5 + 1) ∧
      B0 (xi5 + 1)))
  (k true)
def L0_laws_equalEntries (a0 : List (Int × Int × Int)) (b1 : List (Int × Int × Int)) (k : Bool → Prop) : Nat → Int → Prop
  | 0, _ => False
  | n + 1, xi5 => T0_laws_equalEntries a0 b1 xi5 k (L0_laws_equalEntries a0 b1 k n)
def G_laws_equalEntries (a0 : List (Int × Int × Int)) (b1 : List (Int × Int × Int)) (k : Bool → Prop) (I0 : List (Int × Int × Int) → List (Int × Int × Int) → Int → Prop) : Prop :=
  br ((a0.length : Int) != (b1.length : Int))
  (k false)
  (I0 a0 b1 0)
def S_laws_equalEntries (a0 : List (Int × Int × Int)) (b1 : List (Int × Int × Int)) (k : Bool → Prop) : Prop := G_laws_equalEntries a0 b1 k (fun a0 b1 xi5 => ∃ j, L0_laws_equalEntries a0 b1 k j xi5)
def F_laws_equalEntries (a b : List Ent) (k : Bool → Prop) : Prop := a.length ≤ 1000000000 ∧ k (decide (a = b))
theorem F_laws_equalEntries_S {a b : List Ent} {k : Bool → Prop} (h : F_laws_equalEntries a b k) : S_laws_equalEntries a b k := by
  obtain ⟨hl, hk⟩ := h
  refine br_bne.2 ⟨fun he => by rwa [decide_eq_false (fun e => he (by rw [e]))] at hk, fun he => ?_⟩
  have he : a.length = b.length := by omega
  have key : ∀ (r : List Ent) (i : Nat), a.drop i = r → (r = b.drop i ↔ a = b) → L0_laws_equalEntries a b k (r.length + 1) (i : Int) := by
    intro r
    induction r with
    | nil =>
      intro i hd hi
      have := drop_nil' hd
      rw [L0_laws_equalEntries, T0_laws_equalEntries]
      simp only [br_dec]
      exact ⟨fun h => by omega, fun _ => by rwa [decide_eq_true (hi.1 (List.drop_eq_nil_of_le (by omega)).symm)] at hk⟩
    | cons x r ih =>
      intro i hd hi
      obtain ⟨h1, h2, _, h3, _⟩ := drop_cons' hd
      obtain ⟨y, s, hs⟩ : ∃ y s, b.drop i = y :: s := by
        cases e : b.drop i with
        | nil => have := drop_nil' e; omega
        | cons y s => exact ⟨y, s, rfl⟩
      obtain ⟨g1, g2, _, g3, _⟩ := drop_cons' hs
      rw [List.length_cons, L0_laws_equalEntries, T0_laws_equalEntries]
      simp only [br_dec, Int.toNat_natCast, h2, g2]
      rw [hs] at hi
      refine ⟨fun _ => ⟨⟨by omega, by omega⟩, ⟨by omega, by omega⟩, ?_⟩, fun h => by omega⟩
      have go : x = y → L0_laws_equalEntries a b k (r.length + 1) ((i : Int) + 1) := fun hx => ih (i + 1) h3 (by rw [g3, ← hi, hx]; simp)
      have no : x ≠ y → k false := fun hx => by rwa [decide_eq_false (fun e => hx (List.cons.inj (hi.2 e)).1)] at hk
      rw [br_not, eq3, br_dec]
      exact ⟨fun hx => ⟨inR (by omega) (by omega), go hx⟩, no⟩
  exact ⟨_, key a 0 rfl (by simp)⟩
-- slices.Index[[]int,int]
def T0_slices_Index_sint_int (s0 : List Int) (v1 : Int) (xt7 : Int) (xt8 : Int) (k : Int → Prop) (B0 : Int → Prop) : Prop :=
  br (decide (xt8 < xt7))
  ((0 ≤ xt8 ∧ xt8 < (s0.length : Int)) ∧
    br (v1 == (List.getD s0 (Int.toNat xt8) (0 : Int)))
    (k xt8)
    (InR (xt8 + 1) ∧
      B0 (xt8 + 1)))
  (k (-1))
def L0_slices_Index_sint_int (s0 : List Int) (v1 : Int) (xt7 : Int) (k : Int → Prop) : Nat → Int → Prop
  | 0, _ => False
  | n + 1, xt8 => T0_slices_Index_sint_int s0 v1 xt7 xt8 k (L0_slices_Index_sint_int s0 v1 xt7 k n)
def G_slices_Index_sint_int (s0 : List Int) (v1 : Int) (I0 : List Int → Int → Int → Int → Prop) : Prop :=
  I0 s0 v1 (s0.length : Int) 0
def S_slices_Index_sint_int (s0 : List Int) (v1 : Int) (k : Int → Prop) : Prop := G_slices_Index_sint_int s0 v1 (fun s0 v1 xt7 xt8 => ∃ j, L0_slices_Index_sint_int s0 v1 xt7 k j xt8)
def F_slices_Index_sint_int (l : List Int) (n : Int) (k : Int → Prop) : Prop := l.length ≤ 1000000000 ∧ k (plc l n)
theorem F_slices_Index_sint_int_S {l : List Int} {n : Int} {k : Int → Prop} (h : F_slices_Index_sint_int l n k) : S_slices_Index_sint_int l n k := by
  obtain ⟨hl, hk⟩ := h
  have key : ∀ (r : List Int) (i : Nat), l.drop i = r → plcF r n i = plc l n → L0_slices_Index_sint_int l n (l.length : Int) k (r.length + 1) (i : Int) := by
    intro r
    induction r with
    | nil =>
      intro i hd he
      have := drop_nil' hd
      rw [L0_slices_Index_sint_int, T0_slices_Index_sint_int]
      simp only [br_dec]
      exact ⟨fun h => by omega, fun _ => by rw [show (-1 : Int) = plc l n from he]; exact hk⟩
    | cons x r ih =>
      intro i hd he
      obtain ⟨h1, h2, _, h3, _⟩ := drop_cons' hd
      rw [List.length_cons, L0_slices_Index_sint_int, T0_slices_Index_sint_int]
      simp only [br_dec, br_beq, Int.toNat_natCast, h2]
      refine ⟨fun _ => ⟨⟨by omega, by omega⟩, fun hx => ?_, fun hx => ⟨inR (by omega) (by omega), ?_⟩⟩, fun h => by omega⟩
      · simp only [plcF, if_pos hx.symm] at he; rw [he]; exact hk
      · simp only [plcF, if_neg (Ne.symm hx)] at he; exact ih (i + 1) h3 he
  exact ⟨_, key l 0 rfl rfl⟩
-- slices.Contains[[]int,int]
def G_slices_Contains_sint_int (s0 : List Int) (v1 : Int) (k : Bool → Prop) : Prop :=
  F_slices_Index_sint_int s0 v1 fun index7 =>
  k (decide (index7 ≥ 0))
def S_slices_Contains_sint_int (s0 : List Int) (v1 : Int) (k : Bool → Prop) : Prop := G_slices_Contains_sint_int s0 v1 k
def F_slices_Contains_sint_int (l : List Int) (n : Int) (k : Bool → Prop) : Prop := l.length ≤ 1000000000 ∧ k (decide (n ∈ l))
theorem F_slices_Contains_sint_int_S {l : List Int} {n : Int} {k : Bool → Prop} (h : F_slices_Contains_sint_int l n k) : S_slices_Contains_sint_int l n k := by
  refine ⟨h.1, ?_⟩
  have : decide (plc l n ≥ 0) = decide (n ∈ l) := decide_eq_decide.2 plc_ge
  show k (decide (plc l n ≥ 0))
  rw [this]; exact h.2
-- impl.NewKeys
def T0_impl_NewKeys (t0 : List Int) (xt10 : Int) (xcount3 : Int) (xt11 : Int) (k : Int → Prop) (B0 : Int → Int → Prop) : Prop :=
  br (decide (xt11 < xt10))
  ((0 ≤ xt11 ∧ xt11 < (t0.length : Int)) ∧
    (0 ≤ xt11 ∧ xt11 ≤ (t0.length : Int)) ∧
    F_slices_Contains_sint_int (List.take (Int.toNat xt11) t0) (List.getD t0 (Int.toNat xt11) (0 : Int)) fun contains20 =>
    br (!contains20)
    (InR (xcount3 + 1) ∧
      InR (xt11 + 1) ∧
      B0 (xcount3 + 1) (xt11 + 1))
    (InR (xt11 + 1) ∧
      B0 xcount3 (xt11 + 1)))
  (k xcount3)
def L0_impl_NewKeys (t0 : List Int) (xt10 : Int) (k : Int → Prop) : Nat → Int → Int → Prop
  | 0, _, _ => False
  | n + 1, xcount3, xt11 => T0_impl_NewKeys t0 xt10 xcount3 xt11 k (L0_impl_NewKeys t0 xt10 k n)
def G_impl_NewKeys (t0 : List Int) (k : Int → Prop) (I0 : List Int → Int → Int → Int → Prop) : Prop :=
  F_impl_ValidTrace t0 fun validTrace7 =>
  br (!validTrace7)
  (k (-1))
  (I0 t0 (t0.length : Int) 0 0)
def S_impl_NewKeys (t0 : List Int) (k : Int → Prop) : Prop := G_impl_NewKeys t0 k (fun t0 xt10 xcount3 xt11 => ∃ j, L0_impl_NewKeys t0 xt10 k j xcount3 xt11)
def F_impl_NewKeys (t : List Int) (k : Int → Prop) : Prop := (VTrace t → k (nk t : Int)) ∧ (¬ (VTrace t) → k (-1))
theorem F_impl_NewKeys_S {t : List Int} {k : Int → Prop} (h : F_impl_NewKeys t k) : S_impl_NewKeys t k := by
  obtain ⟨hyes, hno⟩ := h
  intro b hb
  refine br_not.2 (br_iff.2 ⟨fun e => ?_, fun e => hno fun w => by rw [hb.2 w] at e; cases e⟩)
  have v := hb.1 e
  have hk := hyes v
  have hl := v.1
  have go : ∀ (m i : Nat), i + m = t.length → L0_impl_NewKeys t (t.length : Int) k (m + 1) (nk (t.take i) : Int) (i : Int) := by
    intro m
    induction m with
    | zero =>
      intro i hi
      rw [show t.take i = t from List.take_of_length_le (by omega), L0_impl_NewKeys, T0_impl_NewKeys]
      exact br_dec.2 ⟨fun h => by omega, fun _ => hk⟩
    | succ m ih =>
      intro i hi
      have := nk_le (t.take i)
      rw [List.length_take] at this
      have next := ih (i + 1) (by omega)
      rw [take_get (by omega), nk_snoc] at next
      rw [L0_impl_NewKeys, T0_impl_NewKeys]
      simp only [Int.toNat_natCast]
      refine br_yd (by omega) ⟨⟨by omega, by omega⟩, ⟨by omega, by omega⟩, by rw [List.length_take]; omega, br_not.2 (br_dec.2 ⟨fun hm => ?_, fun hm => ?_⟩)⟩
      · rw [if_pos hm] at next; exact ⟨inR (by omega) (by omega), next⟩
      · rw [if_neg hm] at next; exact ⟨inR (by omega) (by omega), inR (by omega) (by omega), next⟩
  exact ⟨_, go t.length 0 (by omega)⟩
-- laws.FnRunOftenBound
def G_laws_FnRunOftenBound_j0 (runOften20r0 : List (Int × Int × Int)) (runOften20r1 : Int) (runOften26r0 : List (Int × Int × Int)) (runOften26r1 : Int) (k : Bool → Prop) : Prop :=
  F_laws_equalEntries runOften20r0 runOften26r0 fun equalEntries44 =>
  br equalEntries44
  (k (runOften20r1 == runOften26r1))
  (k false)
def G_laws_FnRunOftenBound (code0 : List Int) (k : Bool → Prop) : Prop :=
  br (decide ((code0.length : Int) > 1048576))
  (k true)
  (F_spec_DrawRunOften code0 fun drawRunOften14r0 drawRunOften14r1 =>
    F_impl_RunOften drawRunOften14r0 drawRunOften14r1 fun runOften20r0 runOften20r1 =>
    F_spec_RunOften drawRunOften14r0 drawRunOften14r1 fun runOften26r0 runOften26r1 =>
    F_laws_equalEntries runOften20r0 runOften26r0 fun equalEntries31 =>
    br (!equalEntries31)
    (G_laws_FnRunOftenBound_j0 runOften20r0 runOften20r1 runOften26r0 runOften26r1 k)
    (br (runOften20r1 != runOften26r1)
      (G_laws_FnRunOftenBound_j0 runOften20r0 runOften20r1 runOften26r0 runOften26r1 k)
      (br (decide (runOften20r1 < 0))
        (G_laws_FnRunOftenBound_j0 runOften20r0 runOften20r1 runOften26r0 runOften26r1 k)
        (F_impl_NewKeys drawRunOften14r0 fun newKeys54 =>
          InR ((drawRunOften14r0.length : Int) - newKeys54) ∧
          br (decide (runOften20r1 ≤ ((drawRunOften14r0.length : Int) - newKeys54)))
          (F_impl_NewKeys drawRunOften14r0 fun newKeys62 =>
            br ((runOften20r0.length : Int) == (if newKeys62 < drawRunOften14r1 then newKeys62 else drawRunOften14r1))
            (F_impl_ValidEntries runOften20r0 drawRunOften14r1 fun validEntries69 =>
              k validEntries69)
            (k false))
          (k false)))))
def S_laws_FnRunOftenBound (code0 : List Int) (k : Bool → Prop) : Prop := G_laws_FnRunOftenBound code0 k
abbrev F_laws_FnRunOftenBound (code0 : List Int) (k : Bool → Prop) : Prop := S_laws_FnRunOftenBound code0 k
theorem F_laws_FnRunOftenBound_S {code0 : List Int} {k : Bool → Prop} (h : F_laws_FnRunOftenBound code0 k) : S_laws_FnRunOftenBound code0 k := h
theorem law_FnRunOftenBound (code : List Int) (hb : ∀ x ∈ code, 0 ≤ x ∧ x ≤ 255) : F_laws_FnRunOftenBound code (fun r => r = true) := by
  refine br_dec.2 ⟨fun _ => rfl, fun hlen => ⟨hb, fun t room l1 => ?_⟩⟩
  by_cases v : VTrace t ∧ 1 ≤ room ∧ room ≤ 8
  · have a := runO_facts v.1 v.2
    have hv := (runO_valid t [] 0 0 (ent_nil v.2) v.1.2 (by simp) (by omega) (by have := v.1.1; omega)).1
    have hp := a.pos
    have hlen := a.len
    have hk := a.keys
    have hf := a.full
    have hnew := a.new
    have ht := v.1.1
    rw [List.length_map] at hlen hk hf
    have hl : (runO room t [] 0 0).1.length ≤ 1000000000 := by omega
    refine yes v (yes v ⟨hl, br_de (br_same' (br_nd (by omega) (yes v.1 ⟨inR (by omega) (by omega), br_yd (by omega) (yes v.1 (br_ye ?_ ⟨hl, all_t hv rfl⟩))⟩)))⟩)
    split <;> omega
  · exact nay v (nay v ⟨by simp, br_de (br_same' (br_yd (by omega) ⟨by simp, br_de' rfl⟩))⟩)
end Go.Ev
