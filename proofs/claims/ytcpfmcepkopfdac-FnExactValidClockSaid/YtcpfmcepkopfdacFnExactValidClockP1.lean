/- What the functions that the law reaches do, written as plain Lean. No statement is proved here. -/
import Derived.Test.YtcpfmcepkopfdacFnExactValidClockP0
namespace Go.Ev
set_option linter.unusedVariables false
open Go
def G_laws_eqClock (a0Room : Int) (a0Keys : List Int) (a0Used : List Bool) (a0Hand : Int) (b1Room : Int) (b1Keys : List Int) (b1Used : List Bool) (b1Hand : Int) (k : Bool → Prop) : Prop :=
  br (a0Room != b1Room)
  (k false)
  (F_laws_eqIntS a0Keys b1Keys fun eqIntS14 =>
    br (!eqIntS14)
    (k false)
    (F_laws_eqBoolS a0Used b1Used fun eqBoolS20 =>
      br (!eqBoolS20)
      (k false)
      (br (a0Hand != b1Hand)
        (k false)
        (k true))))
def S_laws_eqClock (a0Room : Int) (a0Keys : List Int) (a0Used : List Bool) (a0Hand : Int) (b1Room : Int) (b1Keys : List Int) (b1Used : List Bool) (b1Hand : Int) (k : Bool → Prop) : Prop := G_laws_eqClock a0Room a0Keys a0Used a0Hand b1Room b1Keys b1Used b1Hand k
def F_laws_eqClock (room : Int) (keys : List Int) (used : List Bool) (hand : Int) (room' : Int) (keys' : List Int) (used' : List Bool) (hand' : Int) (k : Bool → Prop) : Prop := (keys.length ≤ 1000000000 ∧ used.length ≤ 1000000000) ∧ ∀ b : Bool, (b = true ↔ room = room' ∧ keys = keys' ∧ used = used' ∧ hand = hand') → k b
theorem F_laws_eqClock_S {room : Int} {keys : List Int} {used : List Bool} {hand : Int} {room' : Int} {keys' : List Int} {used' : List Bool} {hand' : Int} {k : Bool → Prop} (h : F_laws_eqClock room keys used hand room' keys' used' hand' k) : S_laws_eqClock room keys used hand room' keys' used' hand' k := by
  obtain ⟨⟨lKeys, lUsed⟩, hk⟩ := h
  exact br_bne.2 ⟨fun eRoom => hk false (by simp [eRoom]), fun eRoom => ⟨lKeys, br_not.2 (br_dec.2 ⟨fun eKeys => ⟨lUsed, br_not.2 (br_dec.2 ⟨fun eUsed => br_bne.2 ⟨fun eHand => hk false (by simp [eHand]), fun eHand => hk true (by simp [eRoom, eKeys, eUsed, eHand])⟩, fun eUsed => hk false (by simp [eUsed])⟩)⟩, fun eKeys => hk false (by simp [eKeys])⟩)⟩⟩
theorem eqClock_same {room : Int} {keys : List Int} {used : List Bool} {hand : Int} {k : Bool → Prop} (hl : keys.length ≤ 1000000000 ∧ used.length ≤ 1000000000) (h : k true) : F_laws_eqClock room keys used hand room keys used hand k := ⟨hl, all_t ⟨rfl, rfl, rfl, rfl⟩ h⟩
-- laws.FnExactValidClock
def G_laws_FnExactValidClock (aC0Room : Int) (aC0Keys : List Int) (aC0Used : List Bool) (aC0Hand : Int) (k : Bool → Prop) : Prop :=
  F_laws_szClock aC0Room aC0Keys aC0Used aC0Hand (1048576 : Int) fun szClock9 =>
  br (decide (szClock9 < 0))
  (k true)
  (F_laws_toClock aC0Room aC0Keys aC0Used aC0Hand fun toClock13Room toClock13Keys toClock13Used toClock13Hand =>
    F_spec_ValidClock toClock13Room toClock13Keys toClock13Used toClock13Hand fun validClock14 =>
    F_laws_toClock aC0Room aC0Keys aC0Used aC0Hand fun toClock16Room toClock16Keys toClock16Used toClock16Hand =>
    F_impl_ValidClock toClock16Room toClock16Keys toClock16Used toClock16Hand fun validClock18 =>
    br (!(validClock18 == validClock14))
    (k false)
    ((F_laws_toClock aC0Room aC0Keys aC0Used aC0Hand fun toClock24Room toClock24Keys toClock24Used toClock24Hand =>
        (F_laws_eqClock toClock16Room toClock16Keys toClock16Used toClock16Hand toClock24Room toClock24Keys toClock24Used toClock24Hand fun eqClock25 =>
          br (!eqClock25)
          (k false)
          (k true)) ∧
        (True)) ∧
      (True)))
def H_laws_FnExactValidClock (aC0Room : Int) (aC0Keys : List Int) (aC0Used : List Bool) (aC0Hand : Int) (k : Bool → Prop) : Prop :=
  F_laws_szClock aC0Room aC0Keys aC0Used aC0Hand (1048576 : Int) fun szClock9 =>
  br (decide (szClock9 < 0))
  (k true)
  (F_laws_toClock aC0Room aC0Keys aC0Used aC0Hand fun toClock13Room toClock13Keys toClock13Used toClock13Hand =>
    F_spec_ValidClock toClock13Room toClock13Keys toClock13Used toClock13Hand fun validClock14 =>
    F_laws_toClock aC0Room aC0Keys aC0Used aC0Hand fun toClock16Room toClock16Keys toClock16Used toClock16Hand =>
    F_impl_ValidClock toClock16Room toClock16Keys toClock16Used toClock16Hand fun validClock18 =>
    br (!(validClock18 == validClock14))
    (k false)
    (F_laws_toClock aC0Room aC0Keys aC0Used aC0Hand fun toClock24Room toClock24Keys toClock24Used toClock24Hand =>
      F_laws_eqClock toClock16Room toClock16Keys toClock16Used toClock16Hand toClock24Room toClock24Keys toClock24Used toClock24Hand fun eqClock25 =>
      br (!eqClock25)
      (k false)
      (k true)))
theorem G_laws_FnExactValidClock_eq (aC0Room : Int) (aC0Keys : List Int) (aC0Used : List Bool) (aC0Hand : Int) (k : Bool → Prop) : G_laws_FnExactValidClock aC0Room aC0Keys aC0Used aC0Hand k = H_laws_FnExactValidClock aC0Room aC0Keys aC0Used aC0Hand k := by
  simp only [G_laws_FnExactValidClock, H_laws_FnExactValidClock, and_self, and_true]
def S_laws_FnExactValidClock (aC0Room : Int) (aC0Keys : List Int) (aC0Used : List Bool) (aC0Hand : Int) (k : Bool → Prop) : Prop := H_laws_FnExactValidClock aC0Room aC0Keys aC0Used aC0Hand k
abbrev F_laws_FnExactValidClock (aC0Room : Int) (aC0Keys : List Int) (aC0Used : List Bool) (aC0Hand : Int) (k : Bool → Prop) : Prop := S_laws_FnExactValidClock aC0Room aC0Keys aC0Used aC0Hand k
theorem F_laws_FnExactValidClock_S {aC0Room : Int} {aC0Keys : List Int} {aC0Used : List Bool} {aC0Hand : Int} {k : Bool → Prop} (h : F_laws_FnExactValidClock aC0Room aC0Keys aC0Used aC0Hand k) : S_laws_FnExactValidClock aC0Room aC0Keys aC0Used aC0Hand k := h
theorem law_FnExactValidClock (cRoom : Int) (rcRoom : InR cRoom) (cKeys : List Int) (lcKeys : cKeys.length ≤ maxLen) (rcKeys : ∀ x ∈ cKeys, InR x) (cUsed : List Bool) (lcUsed : cUsed.length ≤ maxLen) (cHand : Int) (rcHand : InR cHand) :
    F_laws_FnExactValidClock cRoom cKeys cUsed cHand (fun r => r = true) := by
  refine ⟨⟨lcKeys, lcUsed, by omega, by omega⟩, fun z0 _ _ s0 => br_dec.2 ⟨fun _ => rfl, fun t0 => ?_⟩⟩
  have u0 := s0 (by omega)
  have mc : cKeys.length ≤ 1000000000 ∧ cUsed.length ≤ 1000000000 := ⟨by omega, by omega⟩
  exact ⟨mc, (fun b0 hb0 => ⟨mc, (fun b1 hb1 => pred_same hb1 hb0 (⟨mc, eqClock_same mc (br_nt (rfl))⟩))⟩)⟩
end Go.Ev
