/- What the functions that the law reaches do, written as plain Lean. No statement is proved here. -/
import Derived.Test.YthdedjemjjcjhaaFnValidListsP0
namespace Go.Ev
set_option linter.unusedVariables false
open Go
def F_spec_ValidLists (r t : Int) (o f wo wf : List Int) (k : Bool → Prop) : Prop :=
  (o.length ≤ 100000000 ∧ f.length ≤ 100000000 ∧ wo.length ≤ 100000000 ∧ wf.length ≤ 100000000) ∧ ∀ b : Bool, (b = true ↔ VLists r ⟨t, o, f, wo, wf⟩) → k b
theorem F_spec_ValidLists_S {r t : Int} {o f wo wf : List Int} {k : Bool → Prop} (h : F_spec_ValidLists r t o f wo wf k) : S_spec_ValidLists r t o f wo wf k := h
-- laws.FnValidLists
def G_laws_FnValidLists (code0 : List Int) (k : Bool → Prop) : Prop :=
  br (decide ((code0.length : Int) > 1048576))
  (k true)
  (F_spec_DrawValidLists code0 fun drawValidLists10Room drawValidLists10Target drawValidLists10Once drawValidLists10Often drawValidLists10WasOnce drawValidLists10WasOften =>
    F_impl_ValidLists drawValidLists10Room drawValidLists10Target drawValidLists10Once drawValidLists10Often drawValidLists10WasOnce drawValidLists10WasOften fun validLists12 =>
    F_spec_ValidLists drawValidLists10Room drawValidLists10Target drawValidLists10Once drawValidLists10Often drawValidLists10WasOnce drawValidLists10WasOften fun validLists15 =>
    br (!(validLists12 == validLists15))
    (k false)
    (((8 : Int) ≠ 0) ∧
      InR (1 + (Int.tmod (code0.length : Int) 8)) ∧
      F_impl_ValidLists (1 + (Int.tmod (code0.length : Int) 8)) (1 + (Int.tmod (code0.length : Int) 8)) ([] : List Int) ([] : List Int) ([] : List Int) ([] : List Int) fun validLists24 =>
      br validLists24
      (InR ((1 + (Int.tmod (code0.length : Int) 8)) + 1) ∧
        F_impl_ValidLists (1 + (Int.tmod (code0.length : Int) 8)) ((1 + (Int.tmod (code0.length : Int) 8)) + 1) ([] : List Int) ([] : List Int) ([] : List Int) ([] : List Int) fun validLists30 =>
        br (!validLists30)
        (br (!validLists12)
          (k true)
          (InR ((drawValidLists10Once.length : Int) + (drawValidLists10Often.length : Int)) ∧
            k (decide (((drawValidLists10Once.length : Int) + (drawValidLists10Often.length : Int)) ≤ drawValidLists10Room))))
        (k false))
      (k false)))
def S_laws_FnValidLists (code0 : List Int) (k : Bool → Prop) : Prop := G_laws_FnValidLists code0 k
abbrev F_laws_FnValidLists (code0 : List Int) (k : Bool → Prop) : Prop := S_laws_FnValidLists code0 k
theorem F_laws_FnValidLists_S {code0 : List Int} {k : Bool → Prop} (h : F_laws_FnValidLists code0 k) : S_laws_FnValidLists code0 k := h
theorem law_FnValidLists (code : List Int) (hb : ∀ x ∈ code, 0 ≤ x ∧ x ≤ 255) : F_laws_FnValidLists code (fun r => r = true) := by
  refine br_dec.2 ⟨fun _ => rfl, fun hlen => ⟨hb, fun r t o f wo wf l => ⟨by omega, ?_⟩⟩⟩
  intro b1 hb1
  refine ⟨by omega, ?_⟩
  intro b2 hb2
  have e : b1 = b2 := by rw [Bool.eq_iff_iff, hb1, hb2]
  subst e
  have m1 := Int.tmod_nonneg (8 : Int) (show (0 : Int) ≤ code.length by omega)
  have m2 := Int.tmod_lt_of_pos (code.length : Int) (show (0 : Int) < 8 by omega)
  refine br_same ⟨by omega, inR (by omega) (by omega), by simp, all_t (lists0 (by omega) (by omega)) ?_⟩
  refine ⟨inR (by omega) (by omega), by simp, ?_⟩
  intro b3 hb3
  have e3 : b3 = false := by
    cases b3 with
    | false => rfl
    | true => have := (hb3.1 rfl).tgt; simp only at this; omega
  subst e3
  refine br_nf ?_
  rw [br_not, br_iff]
  refine ⟨fun e => ⟨inR (by omega) (by omega), decide_eq_true (hb1.1 e).inc⟩, fun _ => rfl⟩
end Go.Ev
