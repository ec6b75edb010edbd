/- Small laws that the functions' texts need. No statement is proved here. -/
import Derived.Test.YtoclojfcieimfacEvS
namespace Go.Ev
set_option linter.unusedVariables false
open Go
def evF (T : Tab) (Γ : Cons) (N : Nat) (an : Ann) (f : Func) (p : List Nat) (st : St) (k : Kt) : Prop := ev T Γ N an (subc p (f.body.getD .skip)) st k
theorem ne_of_beq {a b : String} (h : (a == b) = false) : a ≠ b := fun e => by subst e; simp at h
theorem okB : (fun r : Bool => (AV.one (.c (.v (.bool r)))) = AV.one (.c (.v (.bool true)))) = (fun r => r = true) := by funext r; simp
theorem consNil {P : Program} : ConsOK P [] := fun f C h => by cases h
theorem consCons {P : Program} {f : FuncId} {C : Con} {Γ : Cons} (h : match C.box with
    | true => HoldsB P f C
    | false => Holds P f C) (hf : ∃ fn, P.funcs[f]? = some fn ∧ fn.body.isSome = true ∧ fn.name ≠ "runtime.NumGoroutine") (hΓ : ConsOK P Γ) : ConsOK P ((f, C) :: Γ) := by
  intro g D hg
  rcases beq_cases f g with ⟨rfl, _⟩ | ⟨hne, _⟩
  · rw [lkp_cons_same] at hg; injection hg with hg; subst hg; exact ⟨h, hf⟩
  · rw [lkp_cons_ne _ _ hne] at hg; exact hΓ g D hg
/-- A contract that holds for each of its shapes. -/
theorem holds_of_any {P : Program} {f : FuncId} {C : Con} (h : ∀ vs kk, C.F vs kk → ∃ F', Holds P f { C with F := F' } ∧ F' vs kk) : Holds P f C := by
  intro vs kk hF kd w vals μ M hkd hp
  obtain ⟨F', h1, h2⟩ := h vs kk hF
  exact h1 vs kk h2 kd w vals μ M hkd ⟨hp.nm, hp.one, hp.vl, hp.ob, hp.inj, hp.inM, hp.up, hp.cf, hp.fom⟩
end Go.Ev
