/- What the functions that the law reaches do, written as plain Lean. No statement is proved here. -/
import Derived.Test.YtcpfmcepkopfdadFnExactRunClockP0
namespace Go.Ev
set_option linter.unusedVariables false
open Go
def T0_laws_markBoolS (xk1 : Int) (xi5 : Int) (xy100000 : List Bool) (k : Int → List Bool → Prop) (B0 : Int → Int → List Bool → Prop) : Prop :=
  br (decide (xi5 < (xy100000.length : Int)))
  (((3 : Int) ≠ 0) ∧
    (0 ≤ xi5 ∧ xi5 < (xy100000.length : Int)) ∧
    InR (xk1 + 1) ∧
    InR (xi5 + 1) ∧
    B0 (xk1 + 1) (xi5 + 1) (List.set xy100000 (Int.toNat xi5) ((Int.tmod xk1 3) == 0)))
  (k xk1 xy100000)
def L0_laws_markBoolS (k : Int → List Bool → Prop) : Nat → Int → Int → List Bool → Prop
  | 0, _, _, _ => False
  | n + 1, xk1, xi5, xy100000 => T0_laws_markBoolS xk1 xi5 xy100000 k (L0_laws_markBoolS k n)
def G_laws_markBoolS (a0 : List Bool) (k1 : Int) (I0 : Int → Int → List Bool → Prop) : Prop :=
  I0 k1 0 a0
def S_laws_markBoolS (a0 : List Bool) (k1 : Int) (k : Int → List Bool → Prop) : Prop := G_laws_markBoolS a0 k1 (fun xk1 xi5 xy100000 => ∃ j, L0_laws_markBoolS k j xk1 xi5 xy100000)
def F_laws_markBoolS (a : List Bool) (k0 : Int) (k : Int → List Bool → Prop) : Prop :=
  (a.length ≤ 1000000000 ∧ 0 ≤ k0 ∧ k0 ≤ 100000000000) ∧ k (k0 + a.length) (seqB k0 a.length)
theorem F_laws_markBoolS_S {a : List Bool} {k0 : Int} {k : Int → List Bool → Prop} (h : F_laws_markBoolS a k0 k) : S_laws_markBoolS a k0 k := by
  obtain ⟨⟨h1, h2, h3⟩, hk⟩ := h
  have key : ∀ (d i : Nat) (out : List Bool), i + d = a.length → out.length = a.length → out.take i = seqB k0 i → L0_laws_markBoolS k (d + 1) (k0 + (i : Int)) (i : Int) out := by
    intro d
    induction d with
    | zero =>
      intro i out hi ho he
      rw [L0_laws_markBoolS, T0_laws_markBoolS]
      refine br_dec.2 ⟨fun h => by omega, fun _ => ?_⟩
      rw [List.take_of_length_le (by omega)] at he
      have : i = a.length := by omega
      rw [he, this]; exact hk
    | succ d ih =>
      intro i out hi ho he
      rw [L0_laws_markBoolS, T0_laws_markBoolS]
      rw [Int.toNat_natCast]
      refine br_dec.2 ⟨fun _ => ⟨by omega, ⟨by omega, by omega⟩, inR (by omega) (by omega), inR (by omega) (by omega), ?_⟩, fun h => by omega⟩
      rw [show k0 + (i : Int) + 1 = k0 + ((i + 1 : Nat) : Int) by omega]
      exact ih (i + 1) _ (by omega) (by simpa using ho) (by rw [take_set_succ (by omega), he, seqB_snoc])
  have := key a.length 0 a (by omega) rfl (by simp [seqB])
  rw [show k0 + ((0 : Nat) : Int) = k0 by omega] at this
  exact ⟨_, this⟩
-- laws.markClock
def G_laws_markClock (a0Room : Int) (a0Keys : List Int) (a0Used : List Bool) (a0Hand : Int) (k1 : Int) (k : Int → List Int → List Bool → Prop) : Prop :=
  F_laws_markIntS a0Keys k1 fun markIntS8 omarkIntS8 =>
  F_laws_markBoolS a0Used markIntS8 fun markBoolS12 omarkBoolS12 =>
  k markBoolS12 omarkIntS8 omarkBoolS12
def S_laws_markClock (a0Room : Int) (a0Keys : List Int) (a0Used : List Bool) (a0Hand : Int) (k1 : Int) (k : Int → List Int → List Bool → Prop) : Prop := G_laws_markClock a0Room a0Keys a0Used a0Hand k1 k
def F_laws_markClock (room : Int) (keys : List Int) (used : List Bool) (hand : Int) (k0 : Int) (k : Int → List Int → List Bool → Prop) : Prop := (keys.length ≤ 1000000000 ∧ used.length ≤ 1000000000 ∧ 0 ≤ k0 ∧ k0 ≤ 100000000) ∧ k (k0 + (keys.length : Int) + (used.length : Int)) (seqI (k0) keys.length) (seqB (k0 + (keys.length : Int)) used.length)
theorem F_laws_markClock_S {room : Int} {keys : List Int} {used : List Bool} {hand : Int} {k0 : Int} {k : Int → List Int → List Bool → Prop} (h : F_laws_markClock room keys used hand k0 k) : S_laws_markClock room keys used hand k0 k := by
  obtain ⟨⟨lKeys, lUsed, g1, g2⟩, hk⟩ := h
  exact ⟨⟨by omega, by omega, by omega⟩, ⟨⟨by omega, by omega, by omega⟩, hk⟩⟩
-- laws.heldIntS
def T0_laws_heldIntS (a0 : List Int) (xk1 : Int) (xi5 : Int) (k : Int → Prop) (B0 : Int → Int → Prop) : Prop :=
  br (decide (xi5 < (a0.length : Int)))
  ((0 ≤ xi5 ∧ xi5 < (a0.length : Int)) ∧
    br ((List.getD a0 (Int.toNat xi5) (0 : Int)) != xk1)
    (k (-1))
    (InR (xk1 + 1) ∧
      InR (xi5 + 1) ∧
      B0 (xk1 + 1) (xi5 + 1)))
  (k xk1)
def L0_laws_heldIntS (a0 : List Int) (k : Int → Prop) : Nat → Int → Int → Prop
  | 0, _, _ => False
  | n + 1, xk1, xi5 => T0_laws_heldIntS a0 xk1 xi5 k (L0_laws_heldIntS a0 k n)
def G_laws_heldIntS (a0 : List Int) (k1 : Int) (I0 : List Int → Int → Int → Prop) : Prop :=
  I0 a0 k1 0
def S_laws_heldIntS (a0 : List Int) (k1 : Int) (k : Int → Prop) : Prop := G_laws_heldIntS a0 k1 (fun a0 xk1 xi5 => ∃ j, L0_laws_heldIntS a0 k j xk1 xi5)
def F_laws_heldIntS (a : List Int) (k0 : Int) (k : Int → Prop) : Prop :=
  ∃ n : Nat, (n ≤ 1000000000 ∧ 0 ≤ k0 ∧ k0 ≤ 100000000000) ∧ a = seqI k0 n ∧ k (k0 + (n : Int))
theorem F_laws_heldIntS_S {a : List Int} {k0 : Int} {k : Int → Prop} (h : F_laws_heldIntS a k0 k) : S_laws_heldIntS a k0 k := by
  obtain ⟨n, ⟨h1, h2, h3⟩, rfl, hk⟩ := h
  have key : ∀ (d i : Nat), i + d = n → L0_laws_heldIntS (seqI k0 n) k (d + 1) (k0 + (i : Int)) (i : Int) := by
    intro d
    induction d with
    | zero =>
      intro i hi
      rw [L0_laws_heldIntS, T0_laws_heldIntS]
      rw [seqI_len]
      refine br_dec.2 ⟨fun h => by omega, fun _ => ?_⟩
      have : i = n := by omega
      rw [this]; exact hk
    | succ d ih =>
      intro i hi
      have hi2 : i < n := by omega
      rw [L0_laws_heldIntS, T0_laws_heldIntS]
      rw [Int.toNat_natCast, seqI_len]
      refine br_dec.2 ⟨fun _ => ⟨⟨by omega, by omega⟩, br_bne.2 ⟨fun h => absurd (seqI_get hi2) h, fun _ => ⟨inR (by omega) (by omega), inR (by omega) (by omega), ?_⟩⟩⟩, fun h => by omega⟩
      rw [show k0 + (i : Int) + 1 = k0 + ((i + 1 : Nat) : Int) by omega]
      exact ih (i + 1) (by omega)
  have := key n 0 (by omega)
  rw [show k0 + ((0 : Nat) : Int) = k0 by omega] at this
  exact ⟨_, this⟩
-- laws.heldBoolS
def T0_laws_heldBoolS (a0 : List Bool) (xk1 : Int) (xi5 : Int) (k : Int → Prop) (B0 : Int → Int → Prop) : Prop :=
  br (decide (xi5 < (a0.length : Int)))
  ((0 ≤ xi5 ∧ xi5 < (a0.length : Int)) ∧
    ((3 : Int) ≠ 0) ∧
    br (!((List.getD a0 (Int.toNat xi5) false) == ((Int.tmod xk1 3) == 0)))
    (k (-1))
    (InR (xk1 + 1) ∧
      InR (xi5 + 1) ∧
      B0 (xk1 + 1) (xi5 + 1)))
  (k xk1)
def L0_laws_heldBoolS (a0 : List Bool) (k : Int → Prop) : Nat → Int → Int → Prop
  | 0, _, _ => False
  | n + 1, xk1, xi5 => T0_laws_heldBoolS a0 xk1 xi5 k (L0_laws_heldBoolS a0 k n)
def G_laws_heldBoolS (a0 : List Bool) (k1 : Int) (I0 : List Bool → Int → Int → Prop) : Prop :=
  I0 a0 k1 0
def S_laws_heldBoolS (a0 : List Bool) (k1 : Int) (k : Int → Prop) : Prop := G_laws_heldBoolS a0 k1 (fun a0 xk1 xi5 => ∃ j, L0_laws_heldBoolS a0 k j xk1 xi5)
def F_laws_heldBoolS (a : List Bool) (k0 : Int) (k : Int → Prop) : Prop :=
  ∃ n : Nat, (n ≤ 1000000000 ∧ 0 ≤ k0 ∧ k0 ≤ 100000000000) ∧ a = seqB k0 n ∧ k (k0 + (n : Int))
theorem F_laws_heldBoolS_S {a : List Bool} {k0 : Int} {k : Int → Prop} (h : F_laws_heldBoolS a k0 k) : S_laws_heldBoolS a k0 k := by
  obtain ⟨n, ⟨h1, h2, h3⟩, rfl, hk⟩ := h
  have key : ∀ (d i : Nat), i + d = n → L0_laws_heldBoolS (seqB k0 n) k (d + 1) (k0 + (i : Int)) (i : Int) := by
    intro d
    induction d with
    | zero =>
      intro i hi
      rw [L0_laws_heldBoolS, T0_laws_heldBoolS]
      rw [seqB_len]
      refine br_dec.2 ⟨fun h => by omega, fun _ => ?_⟩
      have : i = n := by omega
      rw [this]; exact hk
    | succ d ih =>
      intro i hi
      have hi2 : i < n := by omega
      rw [L0_laws_heldBoolS, T0_laws_heldBoolS]
      rw [Int.toNat_natCast, seqB_len]
      refine br_dec.2 ⟨fun _ => ⟨⟨by omega, by omega⟩, ⟨by omega, br_not.2 (br_bb.2 ⟨fun _ => ⟨inR (by omega) (by omega), inR (by omega) (by omega), ?_⟩, fun h => absurd (seqB_get hi2) h⟩)⟩⟩, fun h => by omega⟩
      rw [show k0 + (i : Int) + 1 = k0 + ((i + 1 : Nat) : Int) by omega]
      exact ih (i + 1) (by omega)
  have := key n 0 (by omega)
  rw [show k0 + ((0 : Nat) : Int) = k0 by omega] at this
  exact ⟨_, this⟩
-- laws.heldClock
def G_laws_heldClock (a0Room : Int) (a0Keys : List Int) (a0Used : List Bool) (a0Hand : Int) (k1 : Int) (k : Int → Prop) : Prop :=
  F_laws_heldIntS a0Keys k1 fun heldIntS8 =>
  br (decide (heldIntS8 < 0))
  (k (-1))
  (F_laws_heldBoolS a0Used heldIntS8 fun heldBoolS14 =>
    br (decide (heldBoolS14 < 0))
    (k (-1))
    (k heldBoolS14))
def S_laws_heldClock (a0Room : Int) (a0Keys : List Int) (a0Used : List Bool) (a0Hand : Int) (k1 : Int) (k : Int → Prop) : Prop := G_laws_heldClock a0Room a0Keys a0Used a0Hand k1 k
def F_laws_heldClock (room : Int) (keys : List Int) (used : List Bool) (hand : Int) (k0 : Int) (k : Int → Prop) : Prop :=
  ∃ nKeys nUsed : Nat, (nKeys ≤ 1000000000 ∧ nUsed ≤ 1000000000 ∧ 0 ≤ k0 ∧ k0 ≤ 100000000) ∧ keys = seqI (k0) nKeys ∧ used = seqB (k0 + (nKeys : Int)) nUsed ∧ k (k0 + (nKeys : Int) + (nUsed : Int))
theorem F_laws_heldClock_S {room : Int} {keys : List Int} {used : List Bool} {hand : Int} {k0 : Int} {k : Int → Prop} (h : F_laws_heldClock room keys used hand k0 k) : S_laws_heldClock room keys used hand k0 k := by
  obtain ⟨nKeys, nUsed, ⟨lKeys, lUsed, g1, g2⟩, rfl, rfl, hk⟩ := h
  refine ⟨nKeys, ⟨lKeys, by omega, by omega⟩, rfl, ?_⟩
  refine br_dec.2 ⟨fun h => by omega, fun _ => ?_⟩
  refine ⟨nUsed, ⟨lUsed, by omega, by omega⟩, rfl, ?_⟩
  refine br_dec.2 ⟨fun h => by omega, fun _ => ?_⟩
  exact hk
-- laws.FnExactRunClock
def G_laws_FnExactRunClock (aT0 : List Int) (aRoom1 : Int) (k : Bool → Prop) : Prop :=
  br (decide ((aT0.length : Int) > 1048576))
  (k true)
  (F_laws_toIntS aT0 fun toIntS20 =>
    F_spec_RunClock toIntS20 aRoom1 fun runClock22Room runClock22Keys runClock22Used runClock22Hand runClock22r1 =>
    F_laws_toIntS aT0 fun toIntS26 =>
    F_impl_RunClock toIntS26 aRoom1 fun runClock30Room runClock30Keys runClock30Used runClock30Hand runClock30r1 =>
    F_laws_eqClock runClock30Room runClock30Keys runClock30Used runClock30Hand runClock22Room runClock22Keys runClock22Used runClock22Hand fun eqClock35 =>
    br (!eqClock35)
    (k false)
    (br (runClock30r1 != runClock22r1)
      (k false)
      (F_laws_toIntS aT0 fun toIntS44 =>
        F_laws_eqIntS toIntS26 toIntS44 fun eqIntS45 =>
        br (!eqIntS45)
        (k false)
        (F_laws_markIntS toIntS26 (1 : Int) fun markIntS49 omarkIntS49 =>
          br (decide (markIntS49 < 0))
          (k false)
          (F_laws_eqClock runClock30Room runClock30Keys runClock30Used runClock30Hand runClock22Room runClock22Keys runClock22Used runClock22Hand fun eqClock55 =>
            br (!eqClock55)
            (k false)
            (br (runClock30r1 != runClock22r1)
              (k false)
              (F_laws_markClock runClock30Room runClock30Keys runClock30Used runClock30Hand (1 : Int) fun markClock65 omarkClock65Keys omarkClock65Used =>
                F_laws_heldClock runClock30Room omarkClock65Keys omarkClock65Used runClock30Hand (1 : Int) fun heldClock68 =>
                br (decide (heldClock68 < 0))
                (k false)
                (br (heldClock68 != markClock65)
                  (k false)
                  (F_laws_toIntS aT0 fun toIntS76 =>
                    F_impl_RunClock toIntS76 aRoom1 fun runClock78Room runClock78Keys runClock78Used runClock78Hand runClock78r1 =>
                    F_laws_eqClock runClock78Room runClock78Keys runClock78Used runClock78Hand runClock22Room runClock22Keys runClock22Used runClock22Hand fun eqClock83 =>
                    br (!eqClock83)
                    (k false)
                    (br (runClock78r1 != runClock22r1)
                      (k false)
                      (F_laws_heldClock runClock30Room omarkClock65Keys omarkClock65Used runClock30Hand (1 : Int) fun heldClock92 =>
                        br (decide (heldClock92 < 0))
                        (k false)
                        (br (heldClock92 != markClock65)
                          (k false)
                          (k true)))))))))))))
def S_laws_FnExactRunClock (aT0 : List Int) (aRoom1 : Int) (k : Bool → Prop) : Prop := G_laws_FnExactRunClock aT0 aRoom1 k
abbrev F_laws_FnExactRunClock (aT0 : List Int) (aRoom1 : Int) (k : Bool → Prop) : Prop := S_laws_FnExactRunClock aT0 aRoom1 k
theorem F_laws_FnExactRunClock_S {aT0 : List Int} {aRoom1 : Int} {k : Bool → Prop} (h : F_laws_FnExactRunClock aT0 aRoom1 k) : S_laws_FnExactRunClock aT0 aRoom1 k := h
theorem law_FnExactRunClock (t : List Int) (lt : t.length ≤ maxLen) (rt : ∀ x ∈ t, InR x) (room : Int) (rroom : InR room) :
    F_laws_FnExactRunClock t room (fun r => r = true) := by
  refine br_dec.2 ⟨fun _ => rfl, fun t0 => ?_⟩
  have mt : t.length ≤ 1000000000 := by omega
  by_cases v : VTrace t ∧ 1 ≤ room ∧ room ≤ 8
  · have m2 := (by have := runC_valid t [] [] 0 0 (clock0 v.2) v.1.2; have h1 := this.1.1.2.1; have h2 := this.1.1.2.2.1; have h3 := this.1.2.1; exact ⟨by omega, by omega⟩ : (runC room t [] [] 0 0).1.length ≤ 1000000000 ∧ (runC room t [] [] 0 0).2.1.length ≤ 1000000000)
    exact ⟨mt, ⟨fun _ => ⟨mt, ⟨fun _ => eqClock_same m2 (br_nt (br_same' (⟨mt, mt, br_de (⟨⟨mt, by omega, by omega⟩, br_lt0 (by omega) (eqClock_same m2 (br_nt (br_same' (⟨⟨m2.1, m2.2, by omega, by omega⟩, ⟨_, _, ⟨m2.1, m2.2, by omega, by omega⟩, rfl, rfl, br_lt0 (by omega) (br_same' (⟨mt, ⟨fun _ => eqClock_same m2 (br_nt (br_same' (⟨_, _, ⟨m2.1, m2.2, by omega, by omega⟩, rfl, rfl, br_lt0 (by omega) (br_same' rfl)⟩))), fun h => absurd v h⟩⟩))⟩⟩))))⟩)⟩))), fun h => absurd v h⟩⟩, fun h => absurd v h⟩⟩
  · have m2 : ([] : List Int).length ≤ 1000000000 ∧ ([] : List Bool).length ≤ 1000000000 := by simp
    exact ⟨mt, ⟨fun h => absurd h v, fun _ => ⟨mt, ⟨fun h => absurd h v, fun _ => eqClock_same m2 (br_nt (br_same' (⟨mt, mt, br_de (⟨⟨mt, by omega, by omega⟩, br_lt0 (by omega) (eqClock_same m2 (br_nt (br_same' (⟨⟨m2.1, m2.2, by omega, by omega⟩, ⟨_, _, ⟨m2.1, m2.2, by omega, by omega⟩, rfl, rfl, br_lt0 (by omega) (br_same' (⟨mt, ⟨fun h => absurd h v, fun _ => eqClock_same m2 (br_nt (br_same' (⟨_, _, ⟨m2.1, m2.2, by omega, by omega⟩, rfl, rfl, br_lt0 (by omega) (br_same' rfl)⟩)))⟩⟩))⟩⟩))))⟩)⟩)))⟩⟩⟩⟩
end Go.Ev
