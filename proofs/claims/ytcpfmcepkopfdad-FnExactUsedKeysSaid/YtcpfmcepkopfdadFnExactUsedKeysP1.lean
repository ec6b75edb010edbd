/- What the functions that the law reaches do, written as plain Lean. No statement is proved here. -/
import Derived.Test.YtcpfmcepkopfdadFnExactUsedKeysP0
namespace Go.Ev
set_option linter.unusedVariables false
open Go
def G_laws_eqClock (a0Room : Int) (a0Keys : List Int) (a0Used : List Bool) (a0Hand : Int) (b1Room : Int) (b1Keys : List Int) (b1Used : List Bool) (b1Hand : Int) (k : Bool → Prop) : Prop :=
  br (a0Room != b1Room)
  (k false)
  (F_laws_eqIntS a0Keys b1Keys fun eqIntS14 =>
    br (!eqIntS14)
    (k false)
    (F_laws_eqBoolS a0Used b1Used fun eqBoolS20 =>
      br (!eqBoolS20)
      (k false)
      (br (a0Hand != b1Hand)
        (k false)
        (k true))))
def S_laws_eqClock (a0Room : Int) (a0Keys : List Int) (a0Used : List Bool) (a0Hand : Int) (b1Room : Int) (b1Keys : List Int) (b1Used : List Bool) (b1Hand : Int) (k : Bool → Prop) : Prop := G_laws_eqClock a0Room a0Keys a0Used a0Hand b1Room b1Keys b1Used b1Hand k
def F_laws_eqClock (room : Int) (keys : List Int) (used : List Bool) (hand : Int) (room' : Int) (keys' : List Int) (used' : List Bool) (hand' : Int) (k : Bool → Prop) : Prop := (keys.length ≤ 1000000000 ∧ used.length ≤ 1000000000) ∧ ∀ b : Bool, (b = true ↔ room = room' ∧ keys = keys' ∧ used = used' ∧ hand = hand') → k b
theorem F_laws_eqClock_S {room : Int} {keys : List Int} {used : List Bool} {hand : Int} {room' : Int} {keys' : List Int} {used' : List Bool} {hand' : Int} {k : Bool → Prop} (h : F_laws_eqClock room keys used hand room' keys' used' hand' k) : S_laws_eqClock room keys used hand room' keys' used' hand' k := by
  obtain ⟨⟨lKeys, lUsed⟩, hk⟩ := h
  exact br_bne.2 ⟨fun eRoom => hk false (by simp [eRoom]), fun eRoom => ⟨lKeys, br_not.2 (br_dec.2 ⟨fun eKeys => ⟨lUsed, br_not.2 (br_dec.2 ⟨fun eUsed => br_bne.2 ⟨fun eHand => hk false (by simp [eHand]), fun eHand => hk true (by simp [eRoom, eKeys, eUsed, eHand])⟩, fun eUsed => hk false (by simp [eUsed])⟩)⟩, fun eKeys => hk false (by simp [eKeys])⟩)⟩⟩
theorem eqClock_same {room : Int} {keys : List Int} {used : List Bool} {hand : Int} {k : Bool → Prop} (hl : keys.length ≤ 1000000000 ∧ used.length ≤ 1000000000) (h : k true) : F_laws_eqClock room keys used hand room keys used hand k := ⟨hl, all_t ⟨rfl, rfl, rfl, rfl⟩ h⟩
-- laws.markIntS
def T0_laws_markIntS (xk1 : Int) (xi5 : Int) (xy100000 : List Int) (k : Int → List Int → Prop) (B0 : Int → Int → List Int → Prop) : Prop :=
  br (decide (xi5 < (xy100000.length : Int)))
  ((0 ≤ xi5 ∧ xi5 < (xy100000.length : Int)) ∧
    InR (xk1 + 1) ∧
    InR (xi5 + 1) ∧
    B0 (xk1 + 1) (xi5 + 1) (List.set xy100000 (Int.toNat xi5) xk1))
  (k xk1 xy100000)
def L0_laws_markIntS (k : Int → List Int → Prop) : Nat → Int → Int → List Int → Prop
  | 0, _, _, _ => False
  | n + 1, xk1, xi5, xy100000 => T0_laws_markIntS xk1 xi5 xy100000 k (L0_laws_markIntS k n)
def G_laws_markIntS (a0 : List Int) (k1 : Int) (I0 : Int → Int → List Int → Prop) : Prop :=
  I0 k1 0 a0
def S_laws_markIntS (a0 : List Int) (k1 : Int) (k : Int → List Int → Prop) : Prop := G_laws_markIntS a0 k1 (fun xk1 xi5 xy100000 => ∃ j, L0_laws_markIntS k j xk1 xi5 xy100000)
def F_laws_markIntS (a : List Int) (k0 : Int) (k : Int → List Int → Prop) : Prop :=
  (a.length ≤ 1000000000 ∧ 0 ≤ k0 ∧ k0 ≤ 100000000000) ∧ k (k0 + a.length) (seqI k0 a.length)
theorem F_laws_markIntS_S {a : List Int} {k0 : Int} {k : Int → List Int → Prop} (h : F_laws_markIntS a k0 k) : S_laws_markIntS a k0 k := by
  obtain ⟨⟨h1, h2, h3⟩, hk⟩ := h
  have key : ∀ (d i : Nat) (out : List Int), i + d = a.length → out.length = a.length → out.take i = seqI k0 i → L0_laws_markIntS k (d + 1) (k0 + (i : Int)) (i : Int) out := by
    intro d
    induction d with
    | zero =>
      intro i out hi ho he
      rw [L0_laws_markIntS, T0_laws_markIntS]
      refine br_dec.2 ⟨fun h => by omega, fun _ => ?_⟩
      rw [List.take_of_length_le (by omega)] at he
      have : i = a.length := by omega
      rw [he, this]; exact hk
    | succ d ih =>
      intro i out hi ho he
      rw [L0_laws_markIntS, T0_laws_markIntS]
      rw [Int.toNat_natCast]
      refine br_dec.2 ⟨fun _ => ⟨⟨by omega, by omega⟩, inR (by omega) (by omega), inR (by omega) (by omega), ?_⟩, fun h => by omega⟩
      rw [show k0 + (i : Int) + 1 = k0 + ((i + 1 : Nat) : Int) by omega]
      exact ih (i + 1) _ (by omega) (by simpa using ho) (by rw [take_set_succ (by omega), he, seqI_snoc])
  have := key a.length 0 a (by omega) rfl (by simp [seqI])
  rw [show k0 + ((0 : Nat) : Int) = k0 by omega] at this
  exact ⟨_, this⟩
-- laws.markBoolS
def T0_laws_markBoolS (xk1 : Int) (xi5 : Int) (xy100000 : List Bool) (k : Int → List Bool → Prop) (B0 : Int → Int → List Bool → Prop) : Prop :=
  br (decide (xi5 < (xy100000.length : Int)))
  (((3 : Int) ≠ 0) ∧
    (0 ≤ xi5 ∧ xi5 < (xy100000.length : Int)) ∧
    InR (xk1 + 1) ∧
    InR (xi5 + 1) ∧
    B0 (xk1 + 1) (xi5 + 1) (List.set xy100000 (Int.toNat xi5) ((Int.tmod xk1 3) == 0)))
  (k xk1 xy100000)
def L0_laws_markBoolS (k : Int → List Bool → Prop) : Nat → Int → Int → List Bool → Prop
  | 0, _, _, _ => False
  | n + 1, xk1, xi5, xy100000 => T0_laws_markBoolS xk1 xi5 xy100000 k (L0_laws_markBoolS k n)
def G_laws_markBoolS (a0 : List Bool) (k1 : Int) (I0 : Int → Int → List Bool → Prop) : Prop :=
  I0 k1 0 a0
def S_laws_markBoolS (a0 : List Bool) (k1 : Int) (k : Int → List Bool → Prop) : Prop := G_laws_markBoolS a0 k1 (fun xk1 xi5 xy100000 => ∃ j, L0_laws_markBoolS k j xk1 xi5 xy100000)
def F_laws_markBoolS (a : List Bool) (k0 : Int) (k : Int → List Bool → Prop) : Prop :=
  (a.length ≤ 1000000000 ∧ 0 ≤ k0 ∧ k0 ≤ 100000000000) ∧ k (k0 + a.length) (seqB k0 a.length)
theorem F_laws_markBoolS_S {a : List Bool} {k0 : Int} {k : Int → List Bool → Prop} (h : F_laws_markBoolS a k0 k) : S_laws_markBoolS a k0 k := by
  obtain ⟨⟨h1, h2, h3⟩, hk⟩ := h
  have key : ∀ (d i : Nat) (out : List Bool), i + d = a.length → out.length = a.length → out.take i = seqB k0 i → L0_laws_markBoolS k (d + 1) (k0 + (i : Int)) (i : Int) out := by
    intro d
    induction d with
    | zero =>
      intro i out hi ho he
      rw [L0_laws_markBoolS, T0_laws_markBoolS]
      refine br_dec.2 ⟨fun h => by omega, fun _ => ?_⟩
      rw [List.take_of_length_le (by omega)] at he
      have : i = a.length := by omega
      rw [he, this]; exact hk
    | succ d ih =>
      intro i out hi ho he
      rw [L0_laws_markBoolS, T0_laws_markBoolS]
      rw [Int.toNat_natCast]
      refine br_dec.2 ⟨fun _ => ⟨by omega, ⟨by omega, by omega⟩, inR (by omega) (by omega), inR (by omega) (by omega), ?_⟩, fun h => by omega⟩
      rw [show k0 + (i : Int) + 1 = k0 + ((i + 1 : Nat) : Int) by omega]
      exact ih (i + 1) _ (by omega) (by simpa using ho) (by rw [take_set_succ (by omega), he, seqB_snoc])
  have := key a.length 0 a (by omega) rfl (by simp [seqB])
  rw [show k0 + ((0 : Nat) : Int) = k0 by omega] at this
  exact ⟨_, this⟩
-- laws.markClock
def G_laws_markClock (a0Room : Int) (a0Keys : List Int) (a0Used : List Bool) (a0Hand : Int) (k1 : Int) (k : Int → List Int → List Bool → Prop) : Prop :=
  F_laws_markIntS a0Keys k1 fun markIntS8 omarkIntS8 =>
  F_laws_markBoolS a0Used markIntS8 fun markBoolS12 omarkBoolS12 =>
  k markBoolS12 omarkIntS8 omarkBoolS12
def S_laws_markClock (a0Room : Int) (a0Keys : List Int) (a0Used : List Bool) (a0Hand : Int) (k1 : Int) (k : Int → List Int → List Bool → Prop) : Prop := G_laws_markClock a0Room a0Keys a0Used a0Hand k1 k
def F_laws_markClock (room : Int) (keys : List Int) (used : List Bool) (hand : Int) (k0 : Int) (k : Int → List Int → List Bool → Prop) : Prop := (keys.length ≤ 1000000000 ∧ used.length ≤ 1000000000 ∧ 0 ≤ k0 ∧ k0 ≤ 100000000) ∧ k (k0 + (keys.length : Int) + (used.length : Int)) (seqI (k0) keys.length) (seqB (k0 + (keys.length : Int)) used.length)
theorem F_laws_markClock_S {room : Int} {keys : List Int} {used : List Bool} {hand : Int} {k0 : Int} {k : Int → List Int → List Bool → Prop} (h : F_laws_markClock room keys used hand k0 k) : S_laws_markClock room keys used hand k0 k := by
  obtain ⟨⟨lKeys, lUsed, g1, g2⟩, hk⟩ := h
  exact ⟨⟨by omega, by omega, by omega⟩, ⟨⟨by omega, by omega, by omega⟩, hk⟩⟩
-- laws.heldIntS
def T0_laws_heldIntS (a0 : List Int) (xk1 : Int) (xi5 : Int) (k : Int → Prop) (B0 : Int → Int → Prop) : Prop :=
  br (decide (xi5 < (a0.length : Int)))
  ((0 ≤ xi5 ∧ xi5 < (a0.length : Int)) ∧
    br ((List.getD a0 (Int.toNat xi5) (0 : Int)) != xk1)
    (k (-1))
    (InR (xk1 + 1) ∧
      InR (xi5 + 1) ∧
      B0 (xk1 + 1) (xi5 + 1)))
  (k xk1)
def L0_laws_heldIntS (a0 : List Int) (k : Int → Prop) : Nat → Int → Int → Prop
  | 0, _, _ => False
  | n + 1, xk1, xi5 => T0_laws_heldIntS a0 xk1 xi5 k (L0_laws_heldIntS a0 k n)
def G_laws_heldIntS (a0 : List Int) (k1 : Int) (I0 : List Int → Int → Int → Prop) : Prop :=
  I0 a0 k1 0
def S_laws_heldIntS (a0 : List Int) (k1 : Int) (k : Int → Prop) : Prop := G_laws_heldIntS a0 k1 (fun a0 xk1 xi5 => ∃ j, L0_laws_heldIntS a0 k j xk1 xi5)
def F_laws_heldIntS (a : List Int) (k0 : Int) (k : Int → Prop) : Prop :=
  ∃ n : Nat, (n ≤ 1000000000 ∧ 0 ≤ k0 ∧ k0 ≤ 100000000000) ∧ a = seqI k0 n ∧ k (k0 + (n : Int))
theorem F_laws_heldIntS_S {a : List Int} {k0 : Int} {k : Int → Prop} (h : F_laws_heldIntS a k0 k) : S_laws_heldIntS a k0 k := by
  obtain ⟨n, ⟨h1, h2, h3⟩, rfl, hk⟩ := h
  have key : ∀ (d i : Nat), i + d = n → L0_laws_heldIntS (seqI k0 n) k (d + 1) (k0 + (i : Int)) (i : Int) := by
    intro d
    induction d with
    | zero =>
      intro i hi
      rw [L0_laws_heldIntS, T0_laws_heldIntS]
      rw [seqI_len]
      refine br_dec.2 ⟨fun h => by omega, fun _ => ?_⟩
      have : i = n := by omega
      rw [this]; exact hk
    | succ d ih =>
      intro i hi
      have hi2 : i < n := by omega
      rw [L0_laws_heldIntS, T0_laws_heldIntS]
      rw [Int.toNat_natCast, seqI_len]
      refine br_dec.2 ⟨fun _ => ⟨⟨by omega, by omega⟩, br_bne.2 ⟨fun h => absurd (seqI_get hi2) h, fun _ => ⟨inR (by omega) (by omega), inR (by omega) (by omega), ?_⟩⟩⟩, fun h => by omega⟩
      rw [show k0 + (i : Int) + 1 = k0 + ((i + 1 : Nat) : Int) by omega]
      exact ih (i + 1) (by omega)
  have := key n 0 (by omega)
  rw [show k0 + ((0 : Nat) : Int) = k0 by omega] at this
  exact ⟨_, this⟩
-- laws.FnExactUsedKeys
def G_laws_FnExactUsedKeys (aC0Room : Int) (aC0Keys : List Int) (aC0Used : List Bool) (aC0Hand : Int) (k : Bool → Prop) : Prop :=
  F_laws_szClock aC0Room aC0Keys aC0Used aC0Hand (1048576 : Int) fun szClock13 =>
  br (decide (szClock13 < 0))
  (k true)
  (F_laws_toClock aC0Room aC0Keys aC0Used aC0Hand fun toClock17Room toClock17Keys toClock17Used toClock17Hand =>
    F_spec_UsedKeys toClock17Room toClock17Keys toClock17Used toClock17Hand fun usedKeys18 =>
    F_laws_toClock aC0Room aC0Keys aC0Used aC0Hand fun toClock20Room toClock20Keys toClock20Used toClock20Hand =>
    F_impl_UsedKeys toClock20Room toClock20Keys toClock20Used toClock20Hand fun usedKeys22 =>
    F_laws_eqIntS usedKeys22 usedKeys18 fun eqIntS25 =>
    br (!eqIntS25)
    (k false)
    ((F_laws_toClock aC0Room aC0Keys aC0Used aC0Hand fun toClock29Room toClock29Keys toClock29Used toClock29Hand =>
        (F_laws_eqClock toClock20Room toClock20Keys toClock20Used toClock20Hand toClock29Room toClock29Keys toClock29Used toClock29Hand fun eqClock30 =>
          br (!eqClock30)
          (k false)
          (F_laws_markClock toClock20Room toClock20Keys toClock20Used toClock20Hand (1 : Int) fun markClock34 omarkClock34Keys omarkClock34Used =>
            br (decide (markClock34 < 0))
            (k false)
            (F_laws_eqIntS usedKeys22 usedKeys18 fun eqIntS40 =>
              br (!eqIntS40)
              (k false)
              (F_laws_markIntS usedKeys22 (1 : Int) fun markIntS45 omarkIntS45 =>
                F_laws_heldIntS omarkIntS45 (1 : Int) fun heldIntS48 =>
                br (decide (heldIntS48 < 0))
                (k false)
                (br (heldIntS48 != markIntS45)
                  (k false)
                  (F_laws_toClock aC0Room aC0Keys aC0Used aC0Hand fun toClock55Room toClock55Keys toClock55Used toClock55Hand =>
                    F_impl_UsedKeys toClock55Room toClock55Keys toClock55Used toClock55Hand fun usedKeys56 =>
                    F_laws_eqIntS usedKeys56 usedKeys18 fun eqIntS59 =>
                    br (!eqIntS59)
                    (k false)
                    (F_laws_heldIntS omarkIntS45 (1 : Int) fun heldIntS63 =>
                      br (decide (heldIntS63 < 0))
                      (k false)
                      (br (heldIntS63 != markIntS45)
                        (k false)
                        (k true))))))))) ∧
        (True)) ∧
      (True)))
def H_laws_FnExactUsedKeys (aC0Room : Int) (aC0Keys : List Int) (aC0Used : List Bool) (aC0Hand : Int) (k : Bool → Prop) : Prop :=
  F_laws_szClock aC0Room aC0Keys aC0Used aC0Hand (1048576 : Int) fun szClock13 =>
  br (decide (szClock13 < 0))
  (k true)
  (F_laws_toClock aC0Room aC0Keys aC0Used aC0Hand fun toClock17Room toClock17Keys toClock17Used toClock17Hand =>
    F_spec_UsedKeys toClock17Room toClock17Keys toClock17Used toClock17Hand fun usedKeys18 =>
    F_laws_toClock aC0Room aC0Keys aC0Used aC0Hand fun toClock20Room toClock20Keys toClock20Used toClock20Hand =>
    F_impl_UsedKeys toClock20Room toClock20Keys toClock20Used toClock20Hand fun usedKeys22 =>
    F_laws_eqIntS usedKeys22 usedKeys18 fun eqIntS25 =>
    br (!eqIntS25)
    (k false)
    (F_laws_toClock aC0Room aC0Keys aC0Used aC0Hand fun toClock29Room toClock29Keys toClock29Used toClock29Hand =>
      F_laws_eqClock toClock20Room toClock20Keys toClock20Used toClock20Hand toClock29Room toClock29Keys toClock29Used toClock29Hand fun eqClock30 =>
      br (!eqClock30)
      (k false)
      (F_laws_markClock toClock20Room toClock20Keys toClock20Used toClock20Hand (1 : Int) fun markClock34 omarkClock34Keys omarkClock34Used =>
        br (decide (markClock34 < 0))
        (k false)
        (F_laws_eqIntS usedKeys22 usedKeys18 fun eqIntS40 =>
          br (!eqIntS40)
          (k false)
          (F_laws_markIntS usedKeys22 (1 : Int) fun markIntS45 omarkIntS45 =>
            F_laws_heldIntS omarkIntS45 (1 : Int) fun heldIntS48 =>
            br (decide (heldIntS48 < 0))
            (k false)
            (br (heldIntS48 != markIntS45)
              (k false)
              (F_laws_toClock aC0Room aC0Keys aC0Used aC0Hand fun toClock55Room toClock55Keys toClock55Used toClock55Hand =>
                F_impl_UsedKeys toClock55Room toClock55Keys toClock55Used toClock55Hand fun usedKeys56 =>
                F_laws_eqIntS usedKeys56 usedKeys18 fun eqIntS59 =>
                br (!eqIntS59)
                (k false)
                (F_laws_heldIntS omarkIntS45 (1 : Int) fun heldIntS63 =>
                  br (decide (heldIntS63 < 0))
                  (k false)
                  (br (heldIntS63 != markIntS45)
                    (k false)
                    (k true))))))))))
theorem G_laws_FnExactUsedKeys_eq (aC0Room : Int) (aC0Keys : List Int) (aC0Used : List Bool) (aC0Hand : Int) (k : Bool → Prop) : G_laws_FnExactUsedKeys aC0Room aC0Keys aC0Used aC0Hand k = H_laws_FnExactUsedKeys aC0Room aC0Keys aC0Used aC0Hand k := by
  simp only [G_laws_FnExactUsedKeys, H_laws_FnExactUsedKeys, and_self, and_true]
def S_laws_FnExactUsedKeys (aC0Room : Int) (aC0Keys : List Int) (aC0Used : List Bool) (aC0Hand : Int) (k : Bool → Prop) : Prop := H_laws_FnExactUsedKeys aC0Room aC0Keys aC0Used aC0Hand k
abbrev F_laws_FnExactUsedKeys (aC0Room : Int) (aC0Keys : List Int) (aC0Used : List Bool) (aC0Hand : Int) (k : Bool → Prop) : Prop := S_laws_FnExactUsedKeys aC0Room aC0Keys aC0Used aC0Hand k
theorem F_laws_FnExactUsedKeys_S {aC0Room : Int} {aC0Keys : List Int} {aC0Used : List Bool} {aC0Hand : Int} {k : Bool → Prop} (h : F_laws_FnExactUsedKeys aC0Room aC0Keys aC0Used aC0Hand k) : S_laws_FnExactUsedKeys aC0Room aC0Keys aC0Used aC0Hand k := h
theorem law_FnExactUsedKeys (cRoom : Int) (rcRoom : InR cRoom) (cKeys : List Int) (lcKeys : cKeys.length ≤ maxLen) (rcKeys : ∀ x ∈ cKeys, InR x) (cUsed : List Bool) (lcUsed : cUsed.length ≤ maxLen) (cHand : Int) (rcHand : InR cHand) :
    F_laws_FnExactUsedKeys cRoom cKeys cUsed cHand (fun r => r = true) := by
  refine ⟨⟨lcKeys, lcUsed, by omega, by omega⟩, fun z0 _ _ s0 => br_dec.2 ⟨fun _ => rfl, fun t0 => ?_⟩⟩
  have u0 := s0 (by omega)
  have mc : cKeys.length ≤ 1000000000 ∧ cUsed.length ≤ 1000000000 := ⟨by omega, by omega⟩
  by_cases v : VClock cRoom cKeys cUsed cHand
  · have m2 := (by have := marked_le cKeys cUsed v.2.1; omega : (marked cKeys cUsed).length ≤ 1000000000)
    exact ⟨mc, ⟨fun _ => ⟨mc, ⟨fun _ => ⟨m2, br_de (⟨mc, eqClock_same mc (br_nt (⟨⟨mc.1, mc.2, by omega, by omega⟩, br_lt0 (by omega) (⟨m2, br_de (⟨⟨m2, by omega, by omega⟩, ⟨_, ⟨m2, by omega, by omega⟩, rfl, br_lt0 (by omega) (br_same' (⟨mc, ⟨fun _ => ⟨m2, br_de (⟨_, ⟨m2, by omega, by omega⟩, rfl, br_lt0 (by omega) (br_same' rfl)⟩)⟩, fun h => absurd v h⟩⟩))⟩⟩)⟩)⟩))⟩)⟩, fun h => absurd v h⟩⟩, fun h => absurd v h⟩⟩
  · have m2 : ([] : List Int).length ≤ 1000000000 := by simp
    exact ⟨mc, ⟨fun h => absurd h v, fun _ => ⟨mc, ⟨fun h => absurd h v, fun _ => ⟨m2, br_de (⟨mc, eqClock_same mc (br_nt (⟨⟨mc.1, mc.2, by omega, by omega⟩, br_lt0 (by omega) (⟨m2, br_de (⟨⟨m2, by omega, by omega⟩, ⟨_, ⟨m2, by omega, by omega⟩, rfl, br_lt0 (by omega) (br_same' (⟨mc, ⟨fun h => absurd h v, fun _ => ⟨m2, br_de (⟨_, ⟨m2, by omega, by omega⟩, rfl, br_lt0 (by omega) (br_same' rfl)⟩)⟩⟩⟩))⟩⟩)⟩)⟩))⟩)⟩⟩⟩⟩⟩
end Go.Ev
