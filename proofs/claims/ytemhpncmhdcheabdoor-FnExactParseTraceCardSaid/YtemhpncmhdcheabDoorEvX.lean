/- A code within a round of a range over a function, and with calls that are deferred behind it. No statement is proved here. -/
import Derived.Test.YtemhpncmhdcheabDoorEvV
import Derived.RangeFuncFrom
import Derived.RangeFuncLeaves
import Derived.RangeFuncCalls
import Derived.OrdersIn
import Derived.LoopNIn
namespace Go.Ev
set_option linter.unusedVariables false
set_option linter.unusedSimpArgs false
open Go

/-! ## From the whole machine into a fence that is wide -/
def WideF (F : Fence) : Prop := F = Fence.wide ∨ ∃ l, F = Fence.wide.inRound l
/-- The same, with calls that were deferred ahead. -/
def ext (a : Act) (ds : List Deferred) : Act := { a with defers := a.defers ++ ds }

section
variable {P : Program} {F : Fence} {n : Nat}

theorem WideF.fn (hF : WideF F) (f : FuncId) : F.fn f := by
  rcases hF with rfl | ⟨l, rfl⟩ <;> trivial
theorem WideF.depth (hF : WideF F) : F.depth = none := by
  rcases hF with rfl | ⟨l, rfl⟩ <;> rfl
theorem callsIn_of (hF : WideF F) {f : FuncId} {args : Array Value} {w : World} {R : Ending → World → Prop} (h : Calls P f args w R) : CallsIn F n P f args w R := by
  rcases hF with rfl | ⟨l, rfl⟩
  · exact callsIn_wide.2 h
  · exact CallsIn.inRound l (callsIn_wide.2 h)
theorem rowsIn_of (hF : WideF F) {row : String} {args : Array Value} {w : World} {R : Value → World → Prop} (h : Rows P row args w R) : RowsIn F n P row args w R := by
  intro c cs _
  obtain ⟨v, w', r, s⟩ := h c cs
  refine ⟨v, w', r, ?_⟩
  rcases hF with rfl | ⟨l, rfl⟩
  · exact stepsIn_wide.2 s
  · exact stepsIn_wide.2 s
theorem ext_put (a : Act) (ds : List Deferred) (x : Option Tmp) (v : Value) : (ext a ds).put x v = ext (a.put x v) ds := by cases x <;> rfl
theorem ext_eval (a : Act) (ds : List Deferred) (x : Operand) : (ext a ds).eval x = a.eval x := by cases x <;> rfl
theorem ext_nil {a : Act} : ext a [] = a := by simp [ext]

variable {Q Q' : Go.Exit → Act → World → Prop} {ds : List Deferred}
theorem oper_in (hF : WideF F) {o : Oper} (hd : F.round = none ∨ ∀ c, o.op ≠ .defer c) {next next' : Act → World → Prop} (hn : ∀ a w, next a w → next' (ext a ds) w) (hQ : ∀ e a w, Q e a w → Q' e (ext a ds) w) (hL : ¬ LetsOut Q)
    {a : Act} {w : World} (h : o.wp P a w next Q) : o.wpIn F n P (ext a ds) w next' Q' := by
  refine ⟨fun f _ => hF.fn f, ?_⟩
  have hs : o.semAt F.round (ext a ds).eval = execOp a.eval o := by
    rw [show (ext a ds).eval = a.eval from funext (ext_eval a ds)]
    rcases hd with hd | hd
    · rw [hd, Oper.semAt_none]
    · exact Oper.semAt_eq _ _ _ hd
  rw [hs]
  unfold Oper.wp at h
  generalize (execOp a.eval o).run P w = r at h ⊢
  cases r with
  | ok x w' =>
    cases x <;> simp only [Oper.upon, Oper.uponIn] at h ⊢
    case value v => rw [ext_put]; exact hn _ _ h
    case skip => rw [ext_put]; exact hn _ _ h
    case defer d =>
      have := hn _ _ h
      rw [← ext_put] at this
      exact this
    case enter f args =>
      refine ⟨fun hh => (by rw [hF.depth] at hh; cases hh), callsIn_of hF (Calls.mono h fun e w'' he => ?_)⟩
      cases e with
      | returned v => simp only at he ⊢; rw [ext_put]; exact hn _ _ he
      | panicked c => exact hQ _ _ _ he
      | outgrown => exact absurd he hL
    case row row args =>
      refine ⟨fun hh => (by rw [hF.depth] at hh; cases hh), rowsIn_of hF (Rows.mono h fun v w'' he => ?_)⟩
      rw [ext_put]; exact hn _ _ he
  | halt c w' =>
    cases c <;> simp only [Oper.upon, Oper.uponIn] at h ⊢
    exact hQ _ _ _ h
def noDefs (ops : List Oper) : Bool := ops.all fun o => match o.op with
  | .defer _ => false
  | _ => true
theorem noDefs_iff {ops : Array Oper} (h : noDefs ops.toList = true) {i : Nat} {o : Oper} (ho : ops[i]? = some o) : ∀ c, o.op ≠ .defer c := by
  intro c e
  have := List.all_eq_true.1 h o (List.mem_of_getElem? (by rw [Array.getElem?_toList]; exact ho))
  rw [e] at this; cases this
theorem wpOps_in (hF : WideF F) {ops : Array Oper} (hd : noDefs ops.toList = true) (hQ : ∀ e a w, Q e a w → Q' e (ext a ds) w) (hL : ¬ LetsOut Q) : ∀ (l : List Nat) (a : Act) (w : World), wpOps P ops Q l a w → wpOpsIn F n P ops Q' l (ext a ds) w
  | [], a, w, h => hQ _ _ _ h
  | i :: r, a, w, h => by
    simp only [wpOps] at h
    simp only [wpOpsIn]
    split at h
    · rename_i e; rw [e]; exact wpOps_in hF hd hQ hL r a w h
    · rename_i o e
      rw [e]
      simp only
      by_cases hw : Region.wanted o (yielded ops a.tmps) = true
      · rw [if_pos hw] at h
        rw [if_pos (show Region.wanted o (yielded ops (ext a ds).tmps) = true from hw)]
        rcases h with h | h
        · exact oper_in hF (.inr (noDefs_iff hd e)) (wpOps_in hF hd hQ hL r) hQ hL h
        · exact absurd h.2 hL
      · rw [if_neg hw] at h
        rw [if_neg (show ¬ Region.wanted o (yielded ops (ext a ds).tmps) = true from hw), ext_put]
        exact ⟨fun f _ => hF.fn f, wpOps_in hF hd hQ hL r _ w h⟩
end

/-! ## The evaluator's code, there -/
def noDefC : Code → Bool
  | .region _ ops _ => noDefs ops.toList
  | .seq a b => match noDefC a with
    | true => noDefC b
    | false => false
  | .cond _ a b => match noDefC a with
    | true => noDefC b
    | false => false
  | .block _ a => noDefC a
  | .loop a => noDefC a
  | _ => true
/-- What holds behind, with the deferred calls. -/
def QD (ds : List Deferred) (Q : Go.Exit → Act → World → Prop) : Go.Exit → Act → World → Prop := fun e a w => ∃ a0, a = ext a0 ds ∧ Q e a0 w

section
variable {P : Program} {T : Tab} {N : Nat} {w0 : World} {M : Nat → Prop} {W : Wd} {lk : List Nat} {μ : Mu} {st : St} {a : Act} {w : World} {Γ : Cons}

theorem evIn_ok {an : Ann} (hN : Γ.B + 16 * N + 16 ≤ 100000) (hP : P.follows .mixedOrders = true) (hT : TabOK P T) (hΓ : ConsOK P N Γ) (hW : ∀ k b, W k b → M b ∨ w0.heap.size ≤ b) {F : Fence} (hF : WideF F) {n : Nat} {ds : List Deferred} : ∀ (c : Code) {k : Kt} {μ : Mu} {st : St} {a : Act} {w : World},
    plansOK an c = true → noDefC c = true → RepM N w0 M W [] μ st a w → ev T Γ N an c st k → c.wpIn F n P (QD ds (QOf N w0 M W k)) (ext a ds) w := by
  have hQ : ∀ {k : Kt} (e : Go.Exit) (a : Act) (w : World), QOf N w0 M W k e a w → QD ds (QOf N w0 M W k) e (ext a ds) w := fun e a w h => ⟨a, rfl, h⟩
  have hL : ∀ k : Kt, ¬ LetsOut (QOf N w0 M W k) := fun k ⟨a, w, h⟩ => h
  intro c
  induction c with
  | skip => intro k μ st a w _ _ hR h; exact wpIn_skip (hQ _ _ _ ⟨st, ⟨μ, hR⟩, h⟩)
  | region id ops draw =>
    intro k μ st a w hp hd hR h
    simp only [ev] at h
    have hrun : ∀ {μ : Mu} {st : St}, RepM N w0 M W [] μ st a w → evRun T Γ N an id ops draw st k → (Code.region id ops draw).wpIn F n P (QD ds (QOf N w0 M W k)) (ext a ds) w := by
     clear h hR
     intro μ st hR h
     cases draw with
     | false =>
      refine wpIn_region (wpOps_in (Q := QOf N w0 M W k) hF hd hQ (hL k) _ _ _ ?_)
      rw [List.range_eq_range']
      exact evOps_ok hN hT hΓ ops.size 0 (by omega) hR h fun μ' st' a' w' hR' hk => ⟨st', ⟨μ', hR'⟩, hk⟩
     | true =>
      simp only [evRun] at h
      simp only [plansOK] at hp
      split at h
      · rename_i p lk hl
        rw [hl] at hp
        simp only at hp
        split at hp
        · rename_i hs
          refine wpIn_region_draw fun t => wpOps_in (Q := QOf N w0 M W k) hF hd hQ (hL k) _ _ _ ?_
          simp only [Region.schedule, hP, Bool.true_or, if_true]
          refine wpAny_sound ops.size t _ a _ (wpAny_of_held (S := fun w' => Fr M w0 w') _ _ _ _ ?_)
          exact evPlan_ok (w0 := w0) (M := M) hN hT hΓ hs (fun c a w h => h) hW (fun μ' st' a' w' hR' hk => ⟨st', ⟨μ', hR'.relock hW []⟩, hk⟩) p ops.size _ none (fun h => h) ((drawn_ok hR _).relock hW lk) h hp
        · cases hp
      · exact h.elim
    obtain ⟨st, hR, h⟩ := hookA_ok hR h
    split at h
    · exact hrun hR h
    · split at h
      · rename_i st' hst
        obtain ⟨μ1, hR1⟩ := norm_ok _ hR hst
        exact hrun hR1 h.out
      · exact h.elim
  | seq x y ih1 ih2 =>
    intro k μ st a w hp hd hR h
    simp only [plansOK] at hp
    simp only [noDefC] at hd
    split at hp
    · rename_i hp1
      split at hd
      · rename_i hd1
        refine wpIn_seq (wpIn_mono (ih1 hp1 hd1 hR h) fun e a' w' hq => ?_)
        obtain ⟨a0, rfl, hq⟩ := hq
        cases e with
        | normal => obtain ⟨st', ⟨μ', hR'⟩, hk⟩ := hq; exact ih2 hp hd hR' hk
        | exit id => exact ⟨a0, rfl, hq⟩
        | ret => exact ⟨a0, rfl, hq⟩
        | goto l => exact hq.elim
        | panic c => exact hq.elim
        | outgrown => exact hq.elim
      · cases hd
    · cases hp
  | cond c x y ih1 ih2 =>
    intro k μ st a w hp hd hR h
    simp only [plansOK] at hp
    simp only [noDefC] at hd
    split at hp
    · rename_i hp1
      split at hd
      · rename_i hd1
        simp only [ev] at h
        split at h
        · rename_i i
          split at h
          · rename_i b hb
            have hi' : (ext a ds).eval (.tmp i) = .bool b := by
              have := hR.tmp i
              rw [hb] at this; exact this
            have hi := hR.tm i
            rw [(tmp_lt hb).2] at hi
            refine wpIn_cond hi' ?_
            cases b with
            | true => exact ih1 hp1 hd1 (reput_ok hR hi) h
            | false => exact ih2 hp hd (reput_ok hR hi) h
          · exact h.elim
        · rename_i b
          refine wpIn_cond (t := b) rfl ?_
          cases b with
          | true => exact ih1 hp1 hd1 hR h
          | false => exact ih2 hp hd hR h
        · exact h.elim
      · cases hd
    · cases hp
  | block id x ih =>
    intro k μ st a w hp hd hR h
    refine wpIn_block (wpIn_mono (ih hp hd hR h) fun e a' w' hq => ?_)
    obtain ⟨a0, rfl, hq⟩ := hq
    cases e with
    | normal => exact ⟨a0, rfl, hq⟩
    | exit id' =>
      obtain ⟨st', hR', hk⟩ := hq
      simp only [Exit.inBlock]
      simp only [blockK] at hk
      rcases beq_cases id' id with ⟨rfl, e⟩ | ⟨hne, e⟩
      · rw [e] at hk; rw [if_pos rfl]; exact ⟨a0, rfl, st', hR', hk⟩
      · rw [e] at hk; rw [if_neg hne]; exact ⟨a0, rfl, st', hR', hk⟩
    | ret => exact ⟨a0, rfl, hq⟩
    | goto l => exact hq.elim
    | panic c => exact hq.elim
    | outgrown => exact hq.elim
  | loop x ih =>
    intro k μ st a w hp hd hR h
    simp only [ev] at h
    have key : ∀ (nm : List NStep) (m : Nat) (μ : Mu) (st : St) (a : Act) (w : World), RepM N w0 M W [] μ st a w → iter (fun st k => ev T Γ N an x st k) nm k m st → Code.roundsIn F n P x (QD ds (QOf N w0 M W k)) m (ext a ds) w := by
      intro nm m
      induction m with
      | zero => intro μ st a w _ h; exact h.elim
      | succ m ihm =>
        intro μ st a w hR h
        rw [roundsIn_succ]
        refine wpIn_mono (ih hp hd hR h) fun e a' w' hq => ?_
        obtain ⟨a0, rfl, hq⟩ := hq
        cases e with
        | normal =>
          obtain ⟨st3, ⟨μ3, hR3⟩, h3⟩ := hq
          simp only [backK] at h3
          split at h3
          · rename_i st4 hn4
            obtain ⟨μ4, hR4⟩ := norm_ok nm hR3 hn4
            exact ihm μ4 st4 a0 w' hR4 h3
          · exact h3.elim
        | exit id => exact ⟨a0, rfl, hq⟩
        | ret => exact ⟨a0, rfl, hq⟩
        | goto l => exact hq.elim
        | panic c => exact hq.elim
        | outgrown => exact hq.elim
    split at h
    · rename_i nm hnm
      split at h
      · rename_i n _
        refine wpIn_loop_rounds n ?_
        exact key [] n μ st a w hR h
      split at h
      · rename_i st1 hn
        obtain ⟨m, h⟩ := h
        obtain ⟨μ1, hR1⟩ := norm_ok nm hR hn
        refine wpIn_loop_rounds m ?_
        exact key nm m μ1 st1 a w hR1 h
      · exact h.elim
    · exact h.elim
  | exit id => intro k μ st a w _ _ hR h; exact wpIn_exit (hQ _ _ _ ⟨st, ⟨μ, hR⟩, h⟩)
  | ret => intro k μ st a w _ _ hR h; exact wpIn_ret (hQ _ _ _ ⟨st, ⟨μ, hR⟩, h⟩)
  | _ => intro k μ st a w _ _ _ h; exact h.elim
end
end Go.Ev
