/- What the functions that the law reaches do, written as plain Lean. No statement is proved here. -/
import Derived.Test.YtcpfmcepkopfdabFnExactRunRecentP0
namespace Go.Ev
set_option linter.unusedVariables false
open Go
def G_laws_FnExactRunRecent (aT0 : List Int) (aRoom1 : Int) (k : Bool → Prop) : Prop :=
  br (decide ((aT0.length : Int) > 1048576))
  (k true)
  (F_laws_toIntS aT0 fun toIntS20 =>
    F_spec_RunRecent toIntS20 aRoom1 fun runRecent22r0 runRecent22r1 =>
    F_laws_toIntS aT0 fun toIntS26 =>
    F_impl_RunRecent toIntS26 aRoom1 fun runRecent30r0 runRecent30r1 =>
    F_laws_eqIntS runRecent30r0 runRecent22r0 fun eqIntS35 =>
    br (!eqIntS35)
    (k false)
    (br (runRecent30r1 != runRecent22r1)
      (k false)
      (F_laws_toIntS aT0 fun toIntS44 =>
        F_laws_eqIntS toIntS26 toIntS44 fun eqIntS45 =>
        br (!eqIntS45)
        (k false)
        (F_laws_markIntS toIntS26 (1 : Int) fun markIntS49 omarkIntS49 =>
          br (decide (markIntS49 < 0))
          (k false)
          (F_laws_eqIntS runRecent30r0 runRecent22r0 fun eqIntS55 =>
            br (!eqIntS55)
            (k false)
            (br (runRecent30r1 != runRecent22r1)
              (k false)
              (F_laws_markIntS runRecent30r0 (1 : Int) fun markIntS65 omarkIntS65 =>
                F_laws_heldIntS omarkIntS65 (1 : Int) fun heldIntS68 =>
                br (decide (heldIntS68 < 0))
                (k false)
                (br (heldIntS68 != markIntS65)
                  (k false)
                  (F_laws_toIntS aT0 fun toIntS76 =>
                    F_impl_RunRecent toIntS76 aRoom1 fun runRecent78r0 runRecent78r1 =>
                    F_laws_eqIntS runRecent78r0 runRecent22r0 fun eqIntS83 =>
                    br (!eqIntS83)
                    (k false)
                    (br (runRecent78r1 != runRecent22r1)
                      (k false)
                      (F_laws_heldIntS omarkIntS65 (1 : Int) fun heldIntS92 =>
                        br (decide (heldIntS92 < 0))
                        (k false)
                        (br (heldIntS92 != markIntS65)
                          (k false)
                          (k true)))))))))))))
def S_laws_FnExactRunRecent (aT0 : List Int) (aRoom1 : Int) (k : Bool → Prop) : Prop := G_laws_FnExactRunRecent aT0 aRoom1 k
abbrev F_laws_FnExactRunRecent (aT0 : List Int) (aRoom1 : Int) (k : Bool → Prop) : Prop := S_laws_FnExactRunRecent aT0 aRoom1 k
theorem F_laws_FnExactRunRecent_S {aT0 : List Int} {aRoom1 : Int} {k : Bool → Prop} (h : F_laws_FnExactRunRecent aT0 aRoom1 k) : S_laws_FnExactRunRecent aT0 aRoom1 k := h
theorem law_FnExactRunRecent (t : List Int) (lt : t.length ≤ maxLen) (rt : ∀ x ∈ t, InR x) (room : Int) (rroom : InR room) :
    F_laws_FnExactRunRecent t room (fun r => r = true) := by
  refine br_dec.2 ⟨fun _ => rfl, fun t0 => ?_⟩
  have mt : t.length ≤ 1000000000 := by omega
  by_cases v : VTrace t ∧ 1 ≤ room ∧ room ≤ 8
  · have m2 := (by have := vkeys_len (runR_valid t [] 0 (keys0 v.2) v.1.2).1; omega : (runR room t [] 0).1.length ≤ 1000000000)
    exact ⟨mt, ⟨fun _ => ⟨mt, ⟨fun _ => ⟨m2, br_de (br_same' (⟨mt, mt, br_de (⟨⟨mt, by omega, by omega⟩, br_lt0 (by omega) (⟨m2, br_de (br_same' (⟨⟨m2, by omega, by omega⟩, ⟨_, ⟨m2, by omega, by omega⟩, rfl, br_lt0 (by omega) (br_same' (⟨mt, ⟨fun _ => ⟨m2, br_de (br_same' (⟨_, ⟨m2, by omega, by omega⟩, rfl, br_lt0 (by omega) (br_same' rfl)⟩))⟩, fun h => absurd v h⟩⟩))⟩⟩))⟩)⟩)⟩))⟩, fun h => absurd v h⟩⟩, fun h => absurd v h⟩⟩
  · have m2 : ([] : List Int).length ≤ 1000000000 := by simp
    exact ⟨mt, ⟨fun h => absurd h v, fun _ => ⟨mt, ⟨fun h => absurd h v, fun _ => ⟨m2, br_de (br_same' (⟨mt, mt, br_de (⟨⟨mt, by omega, by omega⟩, br_lt0 (by omega) (⟨m2, br_de (br_same' (⟨⟨m2, by omega, by omega⟩, ⟨_, ⟨m2, by omega, by omega⟩, rfl, br_lt0 (by omega) (br_same' (⟨mt, ⟨fun h => absurd h v, fun _ => ⟨m2, br_de (br_same' (⟨_, ⟨m2, by omega, by omega⟩, rfl, br_lt0 (by omega) (br_same' rfl)⟩))⟩⟩⟩))⟩⟩))⟩)⟩)⟩))⟩⟩⟩⟩⟩
end Go.Ev
