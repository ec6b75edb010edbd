/- What the functions that the law reaches do, written as plain Lean. No statement is proved here. -/
import Derived.Test.YtaajnkggomlppadFnRunListsSmallP0
namespace Go.Ev
set_option linter.unusedVariables false
open Go
def G_spec_fresh_j0 (a0Often : List Int) (a0Once : List Int) (a0Room : Int) (a0Target : Int) (a0WasOften : List Int) (a0WasOnce : List Int) (key1 : Int) (k : Int → Int → List Int → List Int → List Int → List Int → Prop) : Prop :=
  br (((a0Once.length : Int) + (a0WasOnce.length : Int)) == a0Room)
  (InR ((a0Once.length : Int) - 1) ∧
    (0 ≤ ((a0Once.length : Int) - 1) ∧ ((a0Once.length : Int) - 1) ≤ (a0Once.length : Int)) ∧
    F_spec_front (List.take (Int.toNat ((a0Once.length : Int) - 1)) a0Once) key1 fun front77 =>
    k a0Room a0Target front77 a0Often a0WasOnce a0WasOften)
  (InR (((a0Once.length : Int) + (a0WasOnce.length : Int)) + (a0Often.length : Int)) ∧
    InR ((((a0Once.length : Int) + (a0WasOnce.length : Int)) + (a0Often.length : Int)) + (a0WasOften.length : Int)) ∧
    InR (2 * a0Room) ∧
    br (((((a0Once.length : Int) + (a0WasOnce.length : Int)) + (a0Often.length : Int)) + (a0WasOften.length : Int)) == (2 * a0Room))
    (InR ((a0WasOften.length : Int) - 1) ∧
      (0 ≤ ((a0WasOften.length : Int) - 1) ∧ ((a0WasOften.length : Int) - 1) ≤ (a0WasOften.length : Int)) ∧
      F_spec_isFull a0Room a0Target a0Once a0Often a0WasOnce (List.take (Int.toNat ((a0WasOften.length : Int) - 1)) a0WasOften) fun isFull35 =>
      br isFull35
      (F_spec_makeRoom a0Room a0Target a0Once a0Often a0WasOnce (List.take (Int.toNat ((a0WasOften.length : Int) - 1)) a0WasOften) false fun makeRoom37Room makeRoom37Target makeRoom37Once makeRoom37Often makeRoom37WasOnce makeRoom37WasOften =>
        F_spec_front makeRoom37Once key1 fun front77 =>
        k makeRoom37Room makeRoom37Target front77 makeRoom37Often makeRoom37WasOnce makeRoom37WasOften)
      (F_spec_front a0Once key1 fun front77 =>
        k a0Room a0Target front77 a0Often a0WasOnce (List.take (Int.toNat ((a0WasOften.length : Int) - 1)) a0WasOften)))
    (F_spec_isFull a0Room a0Target a0Once a0Often a0WasOnce a0WasOften fun isFull35 =>
      br isFull35
      (F_spec_makeRoom a0Room a0Target a0Once a0Often a0WasOnce a0WasOften false fun makeRoom37Room makeRoom37Target makeRoom37Once makeRoom37Often makeRoom37WasOnce makeRoom37WasOften =>
        F_spec_front makeRoom37Once key1 fun front77 =>
        k makeRoom37Room makeRoom37Target front77 makeRoom37Often makeRoom37WasOnce makeRoom37WasOften)
      (F_spec_front a0Once key1 fun front77 =>
        k a0Room a0Target front77 a0Often a0WasOnce a0WasOften)))
def G_spec_fresh (a0Room : Int) (a0Target : Int) (a0Once : List Int) (a0Often : List Int) (a0WasOnce : List Int) (a0WasOften : List Int) (key1 : Int) (k : Int → Int → List Int → List Int → List Int → List Int → Prop) : Prop :=
  InR ((a0Once.length : Int) + (a0WasOnce.length : Int)) ∧
  br (((a0Once.length : Int) + (a0WasOnce.length : Int)) == a0Room)
  (br (decide ((a0WasOnce.length : Int) > 0))
    (InR ((a0WasOnce.length : Int) - 1) ∧
      (0 ≤ ((a0WasOnce.length : Int) - 1) ∧ ((a0WasOnce.length : Int) - 1) ≤ (a0WasOnce.length : Int)) ∧
      F_spec_isFull a0Room a0Target a0Once a0Often (List.take (Int.toNat ((a0WasOnce.length : Int) - 1)) a0WasOnce) a0WasOften fun isFull58 =>
      br isFull58
      (F_spec_makeRoom a0Room a0Target a0Once a0Often (List.take (Int.toNat ((a0WasOnce.length : Int) - 1)) a0WasOnce) a0WasOften false fun makeRoom60Room makeRoom60Target makeRoom60Once makeRoom60Often makeRoom60WasOnce makeRoom60WasOften =>
        F_spec_front makeRoom60Once key1 fun front77 =>
        k makeRoom60Room makeRoom60Target front77 makeRoom60Often makeRoom60WasOnce makeRoom60WasOften)
      (F_spec_front a0Once key1 fun front77 =>
        k a0Room a0Target front77 a0Often (List.take (Int.toNat ((a0WasOnce.length : Int) - 1)) a0WasOnce) a0WasOften))
    (G_spec_fresh_j0 a0Often a0Once a0Room a0Target a0WasOften a0WasOnce key1 k))
  (G_spec_fresh_j0 a0Often a0Once a0Room a0Target a0WasOften a0WasOnce key1 k)
def S_spec_fresh (a0Room : Int) (a0Target : Int) (a0Once : List Int) (a0Often : List Int) (a0WasOnce : List Int) (a0WasOften : List Int) (key1 : Int) (k : Int → Int → List Int → List Int → List Int → List Int → Prop) : Prop := G_spec_fresh a0Room a0Target a0Once a0Often a0WasOnce a0WasOften key1 k
def F_spec_fresh (r t : Int) (o f wo wf : List Int) (key : Int) (k : Int → Int → List Int → List Int → List Int → List Int → Prop) : Prop :=
  VLists r ⟨t, o, f, wo, wf⟩ ∧ k r (freshL r ⟨t, o, f, wo, wf⟩ key).t (freshL r ⟨t, o, f, wo, wf⟩ key).o (freshL r ⟨t, o, f, wo, wf⟩ key).f (freshL r ⟨t, o, f, wo, wf⟩ key).wo (freshL r ⟨t, o, f, wo, wf⟩ key).wf
theorem F_spec_fresh_S {r t : Int} {o f wo wf : List Int} {key : Int} {k : Int → Int → List Int → List Int → List Int → List Int → Prop} (h : F_spec_fresh r t o f wo wf key k) : S_spec_fresh r t o f wo wf key k := by
  obtain ⟨v, hk⟩ := h
  obtain ⟨l1, l2, l3, l4⟩ := lists_len v
  have r1 := v.room1
  have i1 := v.inc
  have o1 := v.onc
  have t1 := v.tot
  simp only at l1 l2 l3 l4 i1 o1 t1
  -- room is made where the cache is full
  have fit : ∀ (wo wf : List Int), wo.length ≤ 8 → wf.length ≤ 16 → (let b := fitL r false ⟨t, o, f, wo, wf⟩; k r b.t (key :: b.o) b.f b.wo b.wf) →
      F_spec_isFull r t o f wo wf fun c => br c (F_spec_makeRoom r t o f wo wf false fun r t o f wo wf => F_spec_front o key fun o => k r t o f wo wf) (F_spec_front o key fun o => k r t o f wo wf) := by
    intro wo wf g1 g2 hk
    refine ⟨by omega, br_dec.2 ⟨fun hf => ⟨⟨by omega, by omega⟩, ?_⟩, fun hf => ⟨by omega, ?_⟩⟩⟩
    · rw [fitL, if_pos hf] at hk
      have := (mkRoom_len (was := false) (a := ⟨t, o, f, wo, wf⟩) (by simp only; omega)).1
      simp only at this
      exact ⟨by omega, hk⟩
    · rw [fitL, if_neg hf] at hk
      exact hk
  unfold freshL at hk
  have j0 : ¬ ((o.length : Int) + wo.length = r ∧ 0 < wo.length) → G_spec_fresh_j0 f o r t wf wo key k := by
    intro hn
    simp only [if_neg hn] at hk
    refine br_beq.2 ⟨fun e1 => ?_, fun e1 => ⟨inR (by omega) (by omega), inR (by omega) (by omega), inR (by omega) (by omega), br_beq.2 ⟨fun e2 => ⟨inR (by omega) (by omega), ⟨by omega, by omega⟩, fit _ _ (by omega) (by simp; omega) ?_⟩, fun e2 => fit _ _ (by omega) (by omega) ?_⟩⟩⟩
    · simp only [if_pos e1] at hk
      refine ⟨inR (by omega) (by omega), ⟨by omega, by omega⟩, by simp; omega, ?_⟩
      rw [show ((o.length : Int) - 1).toNat = o.length - 1 by omega]
      exact hk
    · simp only [if_neg e1, if_pos e2] at hk
      rw [show ((wf.length : Int) - 1).toNat = wf.length - 1 by omega]
      exact hk
    · simp only [if_neg e1, if_neg e2] at hk
      exact hk
  refine ⟨inR (by omega) (by omega), br_beq.2 ⟨fun e1 => br_dec.2 ⟨fun e2 => ⟨inR (by omega) (by omega), ⟨by omega, by omega⟩, fit _ _ (by simp; omega) (by omega) ?_⟩, fun e2 => j0 fun c => by omega⟩, fun e1 => j0 fun c => e1 c.1⟩⟩
  simp only [if_pos (show (o.length : Int) + wo.length = r ∧ 0 < wo.length from ⟨e1, by omega⟩)] at hk
  rw [show ((wo.length : Int) - 1).toNat = wo.length - 1 by omega]
  exact hk
-- spec.adapt
def G_spec_adapt_j0 (copyLists8Often : List Int) (copyLists8Once : List Int) (copyLists8Room : Int) (copyLists8Target : Int) (copyLists8WasOften : List Int) (copyLists8WasOnce : List Int) (key1 : Int) (placeOf19 : Int) (k : Int → Int → List Int → List Int → List Int → List Int → Bool → Prop) : Prop :=
  (F_spec_without copyLists8Once placeOf19 fun without20 =>
    (F_spec_front copyLists8Often key1 fun front25 =>
      k copyLists8Room copyLists8Target without20 front25 copyLists8WasOnce copyLists8WasOften true) ∧
    (True)) ∧
  (True)
def G_spec_adapt_j1 (copyLists8Often : List Int) (copyLists8Once : List Int) (copyLists8Room : Int) (copyLists8Target : Int) (copyLists8WasOften : List Int) (copyLists8WasOnce : List Int) (key1 : Int) (k : Int → Int → List Int → List Int → List Int → List Int → Bool → Prop) : Prop :=
  (F_spec_placeOf copyLists8Once key1 fun placeOf19 =>
    G_spec_adapt_j0 copyLists8Often copyLists8Once copyLists8Room copyLists8Target copyLists8WasOften copyLists8WasOnce key1 placeOf19 k) ∧
  (True)
def G_spec_adapt_j2 (copyLists8Often : List Int) (copyLists8Once : List Int) (copyLists8Room : Int) (copyLists8Target : Int) (copyLists8WasOften : List Int) (copyLists8WasOnce : List Int) (key1 : Int) (placeOf38 : Int) (k : Int → Int → List Int → List Int → List Int → List Int → Bool → Prop) : Prop :=
  (F_spec_without copyLists8Often placeOf38 fun without39 =>
    (F_spec_front without39 key1 fun front41 =>
      (k copyLists8Room copyLists8Target copyLists8Once front41 copyLists8WasOnce copyLists8WasOften true) ∧
      (True)) ∧
    (True)) ∧
  (True)
def G_spec_adapt_j3 (copyLists8Often : List Int) (copyLists8Once : List Int) (copyLists8Room : Int) (copyLists8Target : Int) (copyLists8WasOften : List Int) (copyLists8WasOnce : List Int) (key1 : Int) (k : Int → Int → List Int → List Int → List Int → List Int → Bool → Prop) : Prop :=
  (F_spec_placeOf copyLists8Often key1 fun placeOf38 =>
    G_spec_adapt_j2 copyLists8Often copyLists8Once copyLists8Room copyLists8Target copyLists8WasOften copyLists8WasOnce key1 placeOf38 k) ∧
  (True)
def G_spec_adapt_j4 (copyLists8Often : List Int) (copyLists8Once : List Int) (copyLists8Room : Int) (copyLists8Target : Int) (copyLists8WasOften : List Int) (copyLists8WasOnce : List Int) (key1 : Int) (placeOf69 : Int) (k : Int → Int → List Int → List Int → List Int → List Int → Bool → Prop) : Prop :=
  (F_spec_without copyLists8WasOnce placeOf69 fun without70 =>
    (F_spec_isFull copyLists8Room (if (copyLists8Target + (if 1 < (Int.tdiv (copyLists8WasOften.length : Int) (copyLists8WasOnce.length : Int)) then (Int.tdiv (copyLists8WasOften.length : Int) (copyLists8WasOnce.length : Int)) else 1)) < copyLists8Room then (copyLists8Target + (if 1 < (Int.tdiv (copyLists8WasOften.length : Int) (copyLists8WasOnce.length : Int)) then (Int.tdiv (copyLists8WasOften.length : Int) (copyLists8WasOnce.length : Int)) else 1)) else copyLists8Room) copyLists8Once copyLists8Often without70 copyLists8WasOften fun isFull73 =>
      br isFull73
      (F_spec_makeRoom copyLists8Room (if (copyLists8Target + (if 1 < (Int.tdiv (copyLists8WasOften.length : Int) (copyLists8WasOnce.length : Int)) then (Int.tdiv (copyLists8WasOften.length : Int) (copyLists8WasOnce.length : Int)) else 1)) < copyLists8Room then (copyLists8Target + (if 1 < (Int.tdiv (copyLists8WasOften.length : Int) (copyLists8WasOnce.length : Int)) then (Int.tdiv (copyLists8WasOften.length : Int) (copyLists8WasOnce.length : Int)) else 1)) else copyLists8Room) copyLists8Once copyLists8Often without70 copyLists8WasOften false fun makeRoom75Room makeRoom75Target makeRoom75Once makeRoom75Often makeRoom75WasOnce makeRoom75WasOften =>
        F_spec_front makeRoom75Often key1 fun front79 =>
        k makeRoom75Room makeRoom75Target makeRoom75Once front79 makeRoom75WasOnce makeRoom75WasOften false)
      (F_spec_front copyLists8Often key1 fun front79 =>
        k copyLists8Room (if (copyLists8Target + (if 1 < (Int.tdiv (copyLists8WasOften.length : Int) (copyLists8WasOnce.length : Int)) then (Int.tdiv (copyLists8WasOften.length : Int) (copyLists8WasOnce.length : Int)) else 1)) < copyLists8Room then (copyLists8Target + (if 1 < (Int.tdiv (copyLists8WasOften.length : Int) (copyLists8WasOnce.length : Int)) then (Int.tdiv (copyLists8WasOften.length : Int) (copyLists8WasOnce.length : Int)) else 1)) else copyLists8Room) copyLists8Once front79 without70 copyLists8WasOften false)) ∧
    (True)) ∧
  (True)
def G_spec_adapt_j5 (copyLists8Often : List Int) (copyLists8Once : List Int) (copyLists8Room : Int) (copyLists8Target : Int) (copyLists8WasOften : List Int) (copyLists8WasOnce : List Int) (key1 : Int) (k : Int → Int → List Int → List Int → List Int → List Int → Bool → Prop) : Prop :=
  (F_spec_placeOf copyLists8WasOnce key1 fun placeOf69 =>
    G_spec_adapt_j4 copyLists8Often copyLists8Once copyLists8Room copyLists8Target copyLists8WasOften copyLists8WasOnce key1 placeOf69 k) ∧
  (True)
def G_spec_adapt_j6 (copyLists8Often : List Int) (copyLists8Once : List Int) (copyLists8Room : Int) (copyLists8Target : Int) (copyLists8WasOften : List Int) (copyLists8WasOnce : List Int) (key1 : Int) (k : Int → Int → List Int → List Int → List Int → List Int → Bool → Prop) : Prop :=
  (((G_spec_adapt_j5 copyLists8Often copyLists8Once copyLists8Room copyLists8Target copyLists8WasOften copyLists8WasOnce key1 k) ∧
      (True)) ∧
    (((G_spec_adapt_j5 copyLists8Often copyLists8Once copyLists8Room copyLists8Target copyLists8WasOften copyLists8WasOnce key1 k) ∧
        ((F_spec_placeOf copyLists8WasOnce key1 fun placeOf69 =>
            (G_spec_adapt_j4 copyLists8Often copyLists8Once copyLists8Room copyLists8Target copyLists8WasOften copyLists8WasOnce key1 placeOf69 k) ∧
            (True)) ∧
          (True))) ∧
      (True))) ∧
  (True)
def G_spec_adapt_j7 (copyLists8Often : List Int) (copyLists8Once : List Int) (copyLists8Room : Int) (copyLists8Target : Int) (copyLists8WasOften : List Int) (copyLists8WasOnce : List Int) (key1 : Int) (k : Int → Int → List Int → List Int → List Int → List Int → Bool → Prop) : Prop :=
  InR (copyLists8Target + (if 1 < (Int.tdiv (copyLists8WasOften.length : Int) (copyLists8WasOnce.length : Int)) then (Int.tdiv (copyLists8WasOften.length : Int) (copyLists8WasOnce.length : Int)) else 1)) ∧
  G_spec_adapt_j6 copyLists8Often copyLists8Once copyLists8Room copyLists8Target copyLists8WasOften copyLists8WasOnce key1 k
def G_spec_adapt_j8 (copyLists8Often : List Int) (copyLists8Once : List Int) (copyLists8Room : Int) (copyLists8Target : Int) (copyLists8WasOften : List Int) (copyLists8WasOnce : List Int) (key1 : Int) (k : Int → Int → List Int → List Int → List Int → List Int → Bool → Prop) : Prop :=
  (((copyLists8WasOnce.length : Int) ≠ 0 ∧ InR (Int.tdiv (copyLists8WasOften.length : Int) (copyLists8WasOnce.length : Int))) ∧
    G_spec_adapt_j7 copyLists8Often copyLists8Once copyLists8Room copyLists8Target copyLists8WasOften copyLists8WasOnce key1 k) ∧
  (True)
def G_spec_adapt_j9 (copyLists8Often : List Int) (copyLists8Once : List Int) (copyLists8Room : Int) (copyLists8Target : Int) (copyLists8WasOften : List Int) (copyLists8WasOnce : List Int) (key1 : Int) (k : Int → Int → List Int → List Int → List Int → List Int → Bool → Prop) : Prop :=
  (G_spec_adapt_j8 copyLists8Often copyLists8Once copyLists8Room copyLists8Target copyLists8WasOften copyLists8WasOnce key1 k) ∧
  ((G_spec_adapt_j8 copyLists8Often copyLists8Once copyLists8Room copyLists8Target copyLists8WasOften copyLists8WasOnce key1 k) ∧
    (True))
def G_spec_adapt_j10 (copyLists8Often : List Int) (copyLists8Once : List Int) (copyLists8Room : Int) (copyLists8Target : Int) (copyLists8WasOften : List Int) (copyLists8WasOnce : List Int) (key1 : Int) (k : Int → Int → List Int → List Int → List Int → List Int → Bool → Prop) : Prop :=
  (G_spec_adapt_j7 copyLists8Often copyLists8Once copyLists8Room copyLists8Target copyLists8WasOften copyLists8WasOnce key1 k) ∧
  (True)
def G_spec_adapt_j11 (copyLists8Often : List Int) (copyLists8Once : List Int) (copyLists8Room : Int) (copyLists8Target : Int) (copyLists8WasOften : List Int) (copyLists8WasOnce : List Int) (key1 : Int) (k : Int → Int → List Int → List Int → List Int → List Int → Bool → Prop) : Prop :=
  (G_spec_adapt_j8 copyLists8Often copyLists8Once copyLists8Room copyLists8Target copyLists8WasOften copyLists8WasOnce key1 k) ∧
  ((((copyLists8WasOnce.length : Int) ≠ 0 ∧ InR (Int.tdiv (copyLists8WasOften.length : Int) (copyLists8WasOnce.length : Int))) ∧
      G_spec_adapt_j10 copyLists8Often copyLists8Once copyLists8Room copyLists8Target copyLists8WasOften copyLists8WasOnce key1 k) ∧
    (True))
def G_spec_adapt_j12 (copyLists8Often : List Int) (copyLists8Once : List Int) (copyLists8Room : Int) (copyLists8Target : Int) (copyLists8WasOften : List Int) (copyLists8WasOnce : List Int) (key1 : Int) (k : Int → Int → List Int → List Int → List Int → List Int → Bool → Prop) : Prop :=
  InR (copyLists8Target + (if 1 < (Int.tdiv (copyLists8WasOften.length : Int) (copyLists8WasOnce.length : Int)) then (Int.tdiv (copyLists8WasOften.length : Int) (copyLists8WasOnce.length : Int)) else 1)) ∧
  (G_spec_adapt_j6 copyLists8Often copyLists8Once copyLists8Room copyLists8Target copyLists8WasOften copyLists8WasOnce key1 k) ∧
  (True)
def G_spec_adapt_j13 (copyLists8Often : List Int) (copyLists8Once : List Int) (copyLists8Room : Int) (copyLists8Target : Int) (copyLists8WasOften : List Int) (copyLists8WasOnce : List Int) (key1 : Int) (k : Int → Int → List Int → List Int → List Int → List Int → Bool → Prop) : Prop :=
  (G_spec_adapt_j8 copyLists8Often copyLists8Once copyLists8Room copyLists8Target copyLists8WasOften copyLists8WasOnce key1 k) ∧
  ((((copyLists8WasOnce.length : Int) ≠ 0 ∧ InR (Int.tdiv (copyLists8WasOften.length : Int) (copyLists8WasOnce.length : Int))) ∧
      G_spec_adapt_j12 copyLists8Often copyLists8Once copyLists8Room copyLists8Target copyLists8WasOften copyLists8WasOnce key1 k) ∧
    (True))
def G_spec_adapt_j14 (copyLists8Often : List Int) (copyLists8Once : List Int) (copyLists8Room : Int) (copyLists8Target : Int) (copyLists8WasOften : List Int) (copyLists8WasOnce : List Int) (key1 : Int) (k : Int → Int → List Int → List Int → List Int → List Int → Bool → Prop) : Prop :=
  (G_spec_adapt_j11 copyLists8Often copyLists8Once copyLists8Room copyLists8Target copyLists8WasOften copyLists8WasOnce key1 k) ∧
  ((G_spec_adapt_j13 copyLists8Often copyLists8Once copyLists8Room copyLists8Target copyLists8WasOften copyLists8WasOnce key1 k) ∧
    ((((copyLists8WasOnce.length : Int) ≠ 0 ∧ InR (Int.tdiv (copyLists8WasOften.length : Int) (copyLists8WasOnce.length : Int))) ∧
        (G_spec_adapt_j10 copyLists8Often copyLists8Once copyLists8Room copyLists8Target copyLists8WasOften copyLists8WasOnce key1 k) ∧
        ((G_spec_adapt_j12 copyLists8Often copyLists8Once copyLists8Room copyLists8Target copyLists8WasOften copyLists8WasOnce key1 k) ∧
          (True))) ∧
      (True)))
def G_spec_adapt_j15 (copyLists8Often : List Int) (copyLists8Once : List Int) (copyLists8Room : Int) (copyLists8Target : Int) (copyLists8WasOften : List Int) (copyLists8WasOnce : List Int) (key1 : Int) (placeOf105 : Int) (k : Int → Int → List Int → List Int → List Int → List Int → Bool → Prop) : Prop :=
  (F_spec_without copyLists8WasOften placeOf105 fun without106 =>
    (F_spec_isFull copyLists8Room (if 0 < (copyLists8Target - (if 1 < (Int.tdiv (copyLists8WasOnce.length : Int) (copyLists8WasOften.length : Int)) then (Int.tdiv (copyLists8WasOnce.length : Int) (copyLists8WasOften.length : Int)) else 1)) then (copyLists8Target - (if 1 < (Int.tdiv (copyLists8WasOnce.length : Int) (copyLists8WasOften.length : Int)) then (Int.tdiv (copyLists8WasOnce.length : Int) (copyLists8WasOften.length : Int)) else 1)) else 0) copyLists8Once copyLists8Often copyLists8WasOnce without106 fun isFull109 =>
      br isFull109
      (F_spec_makeRoom copyLists8Room (if 0 < (copyLists8Target - (if 1 < (Int.tdiv (copyLists8WasOnce.length : Int) (copyLists8WasOften.length : Int)) then (Int.tdiv (copyLists8WasOnce.length : Int) (copyLists8WasOften.length : Int)) else 1)) then (copyLists8Target - (if 1 < (Int.tdiv (copyLists8WasOnce.length : Int) (copyLists8WasOften.length : Int)) then (Int.tdiv (copyLists8WasOnce.length : Int) (copyLists8WasOften.length : Int)) else 1)) else 0) copyLists8Once copyLists8Often copyLists8WasOnce without106 true fun makeRoom111Room makeRoom111Target makeRoom111Once makeRoom111Often makeRoom111WasOnce makeRoom111WasOften =>
        F_spec_front makeRoom111Often key1 fun front115 =>
        k makeRoom111Room makeRoom111Target makeRoom111Once front115 makeRoom111WasOnce makeRoom111WasOften false)
      (F_spec_front copyLists8Often key1 fun front115 =>
        k copyLists8Room (if 0 < (copyLists8Target - (if 1 < (Int.tdiv (copyLists8WasOnce.length : Int) (copyLists8WasOften.length : Int)) then (Int.tdiv (copyLists8WasOnce.length : Int) (copyLists8WasOften.length : Int)) else 1)) then (copyLists8Target - (if 1 < (Int.tdiv (copyLists8WasOnce.length : Int) (copyLists8WasOften.length : Int)) then (Int.tdiv (copyLists8WasOnce.length : Int) (copyLists8WasOften.length : Int)) else 1)) else 0) copyLists8Once front115 copyLists8WasOnce without106 false)) ∧
    (True)) ∧
  (True)
def G_spec_adapt_j16 (copyLists8Often : List Int) (copyLists8Once : List Int) (copyLists8Room : Int) (copyLists8Target : Int) (copyLists8WasOften : List Int) (copyLists8WasOnce : List Int) (key1 : Int) (k : Int → Int → List Int → List Int → List Int → List Int → Bool → Prop) : Prop :=
  (F_spec_placeOf copyLists8WasOften key1 fun placeOf105 =>
    G_spec_adapt_j15 copyLists8Often copyLists8Once copyLists8Room copyLists8Target copyLists8WasOften copyLists8WasOnce key1 placeOf105 k) ∧
  (True)
def G_spec_adapt_j17 (copyLists8Often : List Int) (copyLists8Once : List Int) (copyLists8Room : Int) (copyLists8Target : Int) (copyLists8WasOften : List Int) (copyLists8WasOnce : List Int) (key1 : Int) (k : Int → Int → List Int → List Int → List Int → List Int → Bool → Prop) : Prop :=
  InR (copyLists8Target - (if 1 < (Int.tdiv (copyLists8WasOnce.length : Int) (copyLists8WasOften.length : Int)) then (Int.tdiv (copyLists8WasOnce.length : Int) (copyLists8WasOften.length : Int)) else 1)) ∧
  (((G_spec_adapt_j16 copyLists8Often copyLists8Once copyLists8Room copyLists8Target copyLists8WasOften copyLists8WasOnce key1 k) ∧
      (True)) ∧
    (((G_spec_adapt_j16 copyLists8Often copyLists8Once copyLists8Room copyLists8Target copyLists8WasOften copyLists8WasOnce key1 k) ∧
        ((F_spec_placeOf copyLists8WasOften key1 fun placeOf105 =>
            (G_spec_adapt_j15 copyLists8Often copyLists8Once copyLists8Room copyLists8Target copyLists8WasOften copyLists8WasOnce key1 placeOf105 k) ∧
            (True)) ∧
          (True))) ∧
      (True))) ∧
  (True)
def G_spec_adapt_j18 (copyLists8Often : List Int) (copyLists8Once : List Int) (copyLists8Room : Int) (copyLists8Target : Int) (copyLists8WasOften : List Int) (copyLists8WasOnce : List Int) (key1 : Int) (k : Int → Int → List Int → List Int → List Int → List Int → Bool → Prop) : Prop :=
  (((copyLists8WasOften.length : Int) ≠ 0 ∧ InR (Int.tdiv (copyLists8WasOnce.length : Int) (copyLists8WasOften.length : Int))) ∧
    G_spec_adapt_j17 copyLists8Often copyLists8Once copyLists8Room copyLists8Target copyLists8WasOften copyLists8WasOnce key1 k) ∧
  (True)
def G_spec_adapt_j19 (copyLists8Often : List Int) (copyLists8Once : List Int) (copyLists8Room : Int) (copyLists8Target : Int) (copyLists8WasOften : List Int) (copyLists8WasOnce : List Int) (key1 : Int) (k : Int → Int → List Int → List Int → List Int → List Int → Bool → Prop) : Prop :=
  (G_spec_adapt_j18 copyLists8Often copyLists8Once copyLists8Room copyLists8Target copyLists8WasOften copyLists8WasOnce key1 k) ∧
  ((((copyLists8WasOften.length : Int) ≠ 0 ∧ InR (Int.tdiv (copyLists8WasOnce.length : Int) (copyLists8WasOften.length : Int))) ∧
      (G_spec_adapt_j17 copyLists8Often copyLists8Once copyLists8Room copyLists8Target copyLists8WasOften copyLists8WasOnce key1 k) ∧
      (True)) ∧
    (True))
def G_spec_adapt (old0Room : Int) (old0Target : Int) (old0Once : List Int) (old0Often : List Int) (old0WasOnce : List Int) (old0WasOften : List Int) (key1 : Int) (k : Int → Int → List Int → List Int → List Int → List Int → Bool → Prop) : Prop :=
  F_spec_copyLists old0Room old0Target old0Once old0Often old0WasOnce old0WasOften fun copyLists8Room copyLists8Target copyLists8Once copyLists8Often copyLists8WasOnce copyLists8WasOften =>
  F_spec_isIn copyLists8Once key1 fun isIn13 =>
  br isIn13
  (((G_spec_adapt_j1 copyLists8Often copyLists8Once copyLists8Room copyLists8Target copyLists8WasOften copyLists8WasOnce key1 k) ∧
      (True)) ∧
    (((G_spec_adapt_j1 copyLists8Often copyLists8Once copyLists8Room copyLists8Target copyLists8WasOften copyLists8WasOnce key1 k) ∧
        ((F_spec_placeOf copyLists8Once key1 fun placeOf19 =>
            (G_spec_adapt_j0 copyLists8Often copyLists8Once copyLists8Room copyLists8Target copyLists8WasOften copyLists8WasOnce key1 placeOf19 k) ∧
            (True)) ∧
          (True))) ∧
      (True)))
  (F_spec_isIn copyLists8Often key1 fun isIn32 =>
    br isIn32
    (((G_spec_adapt_j3 copyLists8Often copyLists8Once copyLists8Room copyLists8Target copyLists8WasOften copyLists8WasOnce key1 k) ∧
        (True)) ∧
      (((G_spec_adapt_j3 copyLists8Often copyLists8Once copyLists8Room copyLists8Target copyLists8WasOften copyLists8WasOnce key1 k) ∧
          ((F_spec_placeOf copyLists8Often key1 fun placeOf38 =>
              (G_spec_adapt_j2 copyLists8Often copyLists8Once copyLists8Room copyLists8Target copyLists8WasOften copyLists8WasOnce key1 placeOf38 k) ∧
              (True)) ∧
            (True))) ∧
        (True)))
    (F_spec_isIn copyLists8WasOnce key1 fun isIn48 =>
      br isIn48
      (((G_spec_adapt_j9 copyLists8Often copyLists8Once copyLists8Room copyLists8Target copyLists8WasOften copyLists8WasOnce key1 k) ∧
          ((G_spec_adapt_j11 copyLists8Often copyLists8Once copyLists8Room copyLists8Target copyLists8WasOften copyLists8WasOnce key1 k) ∧
            ((G_spec_adapt_j11 copyLists8Often copyLists8Once copyLists8Room copyLists8Target copyLists8WasOften copyLists8WasOnce key1 k) ∧
              (True)))) ∧
        (((G_spec_adapt_j9 copyLists8Often copyLists8Once copyLists8Room copyLists8Target copyLists8WasOften copyLists8WasOnce key1 k) ∧
            ((G_spec_adapt_j13 copyLists8Often copyLists8Once copyLists8Room copyLists8Target copyLists8WasOften copyLists8WasOnce key1 k) ∧
              ((G_spec_adapt_j13 copyLists8Often copyLists8Once copyLists8Room copyLists8Target copyLists8WasOften copyLists8WasOnce key1 k) ∧
                (True)))) ∧
          ((G_spec_adapt_j14 copyLists8Often copyLists8Once copyLists8Room copyLists8Target copyLists8WasOften copyLists8WasOnce key1 k) ∧
            ((G_spec_adapt_j14 copyLists8Often copyLists8Once copyLists8Room copyLists8Target copyLists8WasOften copyLists8WasOnce key1 k) ∧
              (True)))))
      (F_spec_isIn copyLists8WasOften key1 fun isIn86 =>
        br isIn86
        (((G_spec_adapt_j18 copyLists8Often copyLists8Once copyLists8Room copyLists8Target copyLists8WasOften copyLists8WasOnce key1 k) ∧
            ((G_spec_adapt_j18 copyLists8Often copyLists8Once copyLists8Room copyLists8Target copyLists8WasOften copyLists8WasOnce key1 k) ∧
              (True))) ∧
          ((G_spec_adapt_j19 copyLists8Often copyLists8Once copyLists8Room copyLists8Target copyLists8WasOften copyLists8WasOnce key1 k) ∧
            ((G_spec_adapt_j19 copyLists8Often copyLists8Once copyLists8Room copyLists8Target copyLists8WasOften copyLists8WasOnce key1 k) ∧
              (True))))
        (F_spec_fresh copyLists8Room copyLists8Target copyLists8Once copyLists8Often copyLists8WasOnce copyLists8WasOften key1 fun fresh120Room fresh120Target fresh120Once fresh120Often fresh120WasOnce fresh120WasOften =>
          k fresh120Room fresh120Target fresh120Once fresh120Often fresh120WasOnce fresh120WasOften false))))
def H_spec_adapt (old0Room : Int) (old0Target : Int) (old0Once : List Int) (old0Often : List Int) (old0WasOnce : List Int) (old0WasOften : List Int) (key1 : Int) (k : Int → Int → List Int → List Int → List Int → List Int → Bool → Prop) : Prop :=
  F_spec_copyLists old0Room old0Target old0Once old0Often old0WasOnce old0WasOften fun copyLists8Room copyLists8Target copyLists8Once copyLists8Often copyLists8WasOnce copyLists8WasOften =>
  F_spec_isIn copyLists8Once key1 fun isIn13 =>
  br isIn13
  (F_spec_placeOf copyLists8Once key1 fun placeOf19 =>
    F_spec_without copyLists8Once placeOf19 fun without20 =>
    F_spec_front copyLists8Often key1 fun front25 =>
    k copyLists8Room copyLists8Target without20 front25 copyLists8WasOnce copyLists8WasOften true)
  (F_spec_isIn copyLists8Often key1 fun isIn32 =>
    br isIn32
    (F_spec_placeOf copyLists8Often key1 fun placeOf38 =>
      F_spec_without copyLists8Often placeOf38 fun without39 =>
      F_spec_front without39 key1 fun front41 =>
      k copyLists8Room copyLists8Target copyLists8Once front41 copyLists8WasOnce copyLists8WasOften true)
    (F_spec_isIn copyLists8WasOnce key1 fun isIn48 =>
      br isIn48
      (((copyLists8WasOnce.length : Int) ≠ 0 ∧ InR (Int.tdiv (copyLists8WasOften.length : Int) (copyLists8WasOnce.length : Int))) ∧
        InR (copyLists8Target + (if 1 < (Int.tdiv (copyLists8WasOften.length : Int) (copyLists8WasOnce.length : Int)) then (Int.tdiv (copyLists8WasOften.length : Int) (copyLists8WasOnce.length : Int)) else 1)) ∧
        F_spec_placeOf copyLists8WasOnce key1 fun placeOf69 =>
        F_spec_without copyLists8WasOnce placeOf69 fun without70 =>
        F_spec_isFull copyLists8Room (if (copyLists8Target + (if 1 < (Int.tdiv (copyLists8WasOften.length : Int) (copyLists8WasOnce.length : Int)) then (Int.tdiv (copyLists8WasOften.length : Int) (copyLists8WasOnce.length : Int)) else 1)) < copyLists8Room then (copyLists8Target + (if 1 < (Int.tdiv (copyLists8WasOften.length : Int) (copyLists8WasOnce.length : Int)) then (Int.tdiv (copyLists8WasOften.length : Int) (copyLists8WasOnce.length : Int)) else 1)) else copyLists8Room) copyLists8Once copyLists8Often without70 copyLists8WasOften fun isFull73 =>
        br isFull73
        (F_spec_makeRoom copyLists8Room (if (copyLists8Target + (if 1 < (Int.tdiv (copyLists8WasOften.length : Int) (copyLists8WasOnce.length : Int)) then (Int.tdiv (copyLists8WasOften.length : Int) (copyLists8WasOnce.length : Int)) else 1)) < copyLists8Room then (copyLists8Target + (if 1 < (Int.tdiv (copyLists8WasOften.length : Int) (copyLists8WasOnce.length : Int)) then (Int.tdiv (copyLists8WasOften.length : Int) (copyLists8WasOnce.length : Int)) else 1)) else copyLists8Room) copyLists8Once copyLists8Often without70 copyLists8WasOften false fun makeRoom75Room makeRoom75Target makeRoom75Once makeRoom75Often makeRoom75WasOnce makeRoom75WasOften =>
          F_spec_front makeRoom75Often key1 fun front79 =>
          k makeRoom75Room makeRoom75Target makeRoom75Once front79 makeRoom75WasOnce makeRoom75WasOften false)
        (F_spec_front copyLists8Often key1 fun front79 =>
          k copyLists8Room (if (copyLists8Target + (if 1 < (Int.tdiv (copyLists8WasOften.length : Int) (copyLists8WasOnce.length : Int)) then (Int.tdiv (copyLists8WasOften.length : Int) (copyLists8WasOnce.length : Int)) else 1)) < copyLists8Room then (copyLists8Target + (if 1 < (Int.tdiv (copyLists8WasOften.length : Int) (copyLists8WasOnce.length : Int)) then (Int.tdiv (copyLists8WasOften.length : Int) (copyLists8WasOnce.length : Int)) else 1)) else copyLists8Room) copyLists8Once front79 without70 copyLists8WasOften false))
      (F_spec_isIn copyLists8WasOften key1 fun isIn86 =>
        br isIn86
        (((copyLists8WasOften.length : Int) ≠ 0 ∧ InR (Int.tdiv (copyLists8WasOnce.length : Int) (copyLists8WasOften.length : Int))) ∧
          InR (copyLists8Target - (if 1 < (Int.tdiv (copyLists8WasOnce.length : Int) (copyLists8WasOften.length : Int)) then (Int.tdiv (copyLists8WasOnce.length : Int) (copyLists8WasOften.length : Int)) else 1)) ∧
          F_spec_placeOf copyLists8WasOften key1 fun placeOf105 =>
          F_spec_without copyLists8WasOften placeOf105 fun without106 =>
          F_spec_isFull copyLists8Room (if 0 < (copyLists8Target - (if 1 < (Int.tdiv (copyLists8WasOnce.length : Int) (copyLists8WasOften.length : Int)) then (Int.tdiv (copyLists8WasOnce.length : Int) (copyLists8WasOften.length : Int)) else 1)) then (copyLists8Target - (if 1 < (Int.tdiv (copyLists8WasOnce.length : Int) (copyLists8WasOften.length : Int)) then (Int.tdiv (copyLists8WasOnce.length : Int) (copyLists8WasOften.length : Int)) else 1)) else 0) copyLists8Once copyLists8Often copyLists8WasOnce without106 fun isFull109 =>
          br isFull109
          (F_spec_makeRoom copyLists8Room (if 0 < (copyLists8Target - (if 1 < (Int.tdiv (copyLists8WasOnce.length : Int) (copyLists8WasOften.length : Int)) then (Int.tdiv (copyLists8WasOnce.length : Int) (copyLists8WasOften.length : Int)) else 1)) then (copyLists8Target - (if 1 < (Int.tdiv (copyLists8WasOnce.length : Int) (copyLists8WasOften.length : Int)) then (Int.tdiv (copyLists8WasOnce.length : Int) (copyLists8WasOften.length : Int)) else 1)) else 0) copyLists8Once copyLists8Often copyLists8WasOnce without106 true fun makeRoom111Room makeRoom111Target makeRoom111Once makeRoom111Often makeRoom111WasOnce makeRoom111WasOften =>
            F_spec_front makeRoom111Often key1 fun front115 =>
            k makeRoom111Room makeRoom111Target makeRoom111Once front115 makeRoom111WasOnce makeRoom111WasOften false)
          (F_spec_front copyLists8Often key1 fun front115 =>
            k copyLists8Room (if 0 < (copyLists8Target - (if 1 < (Int.tdiv (copyLists8WasOnce.length : Int) (copyLists8WasOften.length : Int)) then (Int.tdiv (copyLists8WasOnce.length : Int) (copyLists8WasOften.length : Int)) else 1)) then (copyLists8Target - (if 1 < (Int.tdiv (copyLists8WasOnce.length : Int) (copyLists8WasOften.length : Int)) then (Int.tdiv (copyLists8WasOnce.length : Int) (copyLists8WasOften.length : Int)) else 1)) else 0) copyLists8Once front115 copyLists8WasOnce without106 false))
        (F_spec_fresh copyLists8Room copyLists8Target copyLists8Once copyLists8Often copyLists8WasOnce copyLists8WasOften key1 fun fresh120Room fresh120Target fresh120Once fresh120Often fresh120WasOnce fresh120WasOften =>
          k fresh120Room fresh120Target fresh120Once fresh120Often fresh120WasOnce fresh120WasOften false))))
theorem G_spec_adapt_eq (old0Room : Int) (old0Target : Int) (old0Once : List Int) (old0Often : List Int) (old0WasOnce : List Int) (old0WasOften : List Int) (key1 : Int) (k : Int → Int → List Int → List Int → List Int → List Int → Bool → Prop) : G_spec_adapt old0Room old0Target old0Once old0Often old0WasOnce old0WasOften key1 k = H_spec_adapt old0Room old0Target old0Once old0Often old0WasOnce old0WasOften key1 k := by
  first
  | (simp only [G_spec_adapt, H_spec_adapt, G_spec_adapt_j0, G_spec_adapt_j1, G_spec_adapt_j2, G_spec_adapt_j3, G_spec_adapt_j4, G_spec_adapt_j5, G_spec_adapt_j6, G_spec_adapt_j7, G_spec_adapt_j8, G_spec_adapt_j9, G_spec_adapt_j10, G_spec_adapt_j11, G_spec_adapt_j12, G_spec_adapt_j13, G_spec_adapt_j14, G_spec_adapt_j15, G_spec_adapt_j16, G_spec_adapt_j17, G_spec_adapt_j18, G_spec_adapt_j19, and_self, and_true]; done)
  | (simp only [G_spec_adapt, H_spec_adapt, G_spec_adapt_j0, G_spec_adapt_j1, G_spec_adapt_j2, G_spec_adapt_j3, G_spec_adapt_j4, G_spec_adapt_j5, G_spec_adapt_j6, G_spec_adapt_j7, G_spec_adapt_j8, G_spec_adapt_j9, G_spec_adapt_j10, G_spec_adapt_j11, G_spec_adapt_j12, G_spec_adapt_j13, G_spec_adapt_j14, G_spec_adapt_j15, G_spec_adapt_j16, G_spec_adapt_j17, G_spec_adapt_j18, G_spec_adapt_j19, and_self, and_true, and_self_left, and_assoc]; refine propext ⟨fun h => ?_, fun h => ?_⟩ <;> (repeat (cases ‹_ ∧ _›)) <;> (repeat' (apply And.intro)) <;> assumption)
def S_spec_adapt (old0Room : Int) (old0Target : Int) (old0Once : List Int) (old0Often : List Int) (old0WasOnce : List Int) (old0WasOften : List Int) (key1 : Int) (k : Int → Int → List Int → List Int → List Int → List Int → Bool → Prop) : Prop := H_spec_adapt old0Room old0Target old0Once old0Often old0WasOnce old0WasOften key1 k
def F_spec_adapt (r t : Int) (o f wo wf : List Int) (key : Int) (k : Int → Int → List Int → List Int → List Int → List Int → Bool → Prop) : Prop :=
  VLists r ⟨t, o, f, wo, wf⟩ ∧ k r (adM r ⟨t, o, f, wo, wf⟩ key).1.t (adM r ⟨t, o, f, wo, wf⟩ key).1.o (adM r ⟨t, o, f, wo, wf⟩ key).1.f (adM r ⟨t, o, f, wo, wf⟩ key).1.wo (adM r ⟨t, o, f, wo, wf⟩ key).1.wf (adM r ⟨t, o, f, wo, wf⟩ key).2
theorem F_spec_adapt_S {r t : Int} {o f wo wf : List Int} {key : Int} {k : Int → Int → List Int → List Int → List Int → List Int → Bool → Prop} (h : F_spec_adapt r t o f wo wf key k) : S_spec_adapt r t o f wo wf key k := by
  obtain ⟨v, hk⟩ := h
  obtain ⟨l1, l2, l3, l4⟩ := lists_len v
  have r1 := v.room1
  have i1 := v.inc
  have tg := v.tgt
  have dis := v.dis
  simp only at l1 l2 l3 l4 i1 tg dis
  have nd : ∀ l : List Int, (∀ x, l.count x ≤ 1) → l.Nodup := fun l h => nodup_count.2 h
  have no := nd o fun x => by have := dis x; omega
  have nf := nd f fun x => by have := dis x; omega
  have nwo := nd wo fun x => by have := dis x; omega
  have nwf := nd wf fun x => by have := dis x; omega
  -- a key leaves its list
  have out : ∀ (l : List Int) (K : List Int → Prop), l.length ≤ 16 → l.Nodup → key ∈ l → ((rmK l key).length ≤ 16 → K (rmK l key)) → F_spec_placeOf l key fun p => F_spec_without l p K := by
    intro l K hl hn hm hK
    obtain ⟨j, j1, j2, _, j3⟩ := plc_pos hm
    refine ⟨by omega, ?_⟩
    rw [j3]
    refine ⟨⟨by omega, by omega, by omega⟩, ?_⟩
    rw [Int.toNat_natCast, rmK_erase hn j2]
    have := @rmK_le l key
    exact hK (by omega)
  -- room is made where the cache is full
  have fit : ∀ (was : Bool) (t : Int) (wo wf : List Int), wo.length ≤ 16 → wf.length ≤ 16 → (let b := fitL r was ⟨t, o, f, wo, wf⟩; k r b.t b.o (key :: b.f) b.wo b.wf false) →
      F_spec_isFull r t o f wo wf fun c => br c (F_spec_makeRoom r t o f wo wf was fun r t o f wo wf => F_spec_front f key fun f => k r t o f wo wf false) (F_spec_front f key fun f => k r t o f wo wf false) := by
    intro was t wo wf g1 g2 hk
    refine ⟨by omega, br_dec.2 ⟨fun hf => ⟨⟨by omega, by omega⟩, ?_⟩, fun hf => ⟨by omega, ?_⟩⟩⟩
    · rw [fitL, if_pos hf] at hk
      have := (mkRoom_len (was := was) (a := ⟨t, o, f, wo, wf⟩) (by simp only; omega)).2.1
      simp only at this
      exact ⟨by omega, hk⟩
    · rw [fitL, if_neg hf] at hk
      exact hk
  unfold adM at hk
  refine ⟨by omega, by omega, br_dec.2 ⟨fun m1 => ?_, fun m1 => ⟨by omega, br_dec.2 ⟨fun m2 => ?_, fun m2 => ⟨by omega, br_dec.2 ⟨fun m3 => ?_, fun m3 => ⟨by omega, br_dec.2 ⟨fun m4 => ?_, fun m4 => ?_⟩⟩⟩⟩⟩⟩⟩⟩
  · rw [if_pos m1] at hk
    exact out o _ (by omega) no m1 fun _ => ⟨by omega, hk⟩
  · rw [if_neg m1, if_pos m2] at hk
    exact out f _ (by omega) nf m2 fun _ => ⟨by omega, hk⟩
  · rw [if_neg m1, if_neg m2, if_pos m3] at hk
    have hp : 0 < wo.length := List.length_pos_of_mem m3
    have q1 : 0 ≤ Int.tdiv (wf.length : Int) wo.length := Int.tdiv_nonneg (by omega) (by omega)
    have q2 : Int.tdiv (wf.length : Int) wo.length ≤ wf.length := Int.tdiv_le_self _ (by omega)
    have q3 : 1 ≤ max1 (Int.tdiv (wf.length : Int) wo.length) ∧ max1 (Int.tdiv (wf.length : Int) wo.length) ≤ 16 := ⟨max1_pos _, by unfold max1; split <;> omega⟩
    refine ⟨⟨by omega, inR (by omega) (by omega)⟩, inR (show _ ≤ t + max1 _ by omega) (show t + max1 _ ≤ _ by omega), out wo _ (by omega) nwo m3 fun hl => fit false _ _ _ (by omega) (by omega) hk⟩
  · rw [if_neg m1, if_neg m2, if_neg m3, if_pos m4] at hk
    have hp : 0 < wf.length := List.length_pos_of_mem m4
    have q1 : 0 ≤ Int.tdiv (wo.length : Int) wf.length := Int.tdiv_nonneg (by omega) (by omega)
    have q2 : Int.tdiv (wo.length : Int) wf.length ≤ wo.length := Int.tdiv_le_self _ (by omega)
    have q3 : 1 ≤ max1 (Int.tdiv (wo.length : Int) wf.length) ∧ max1 (Int.tdiv (wo.length : Int) wf.length) ≤ 16 := ⟨max1_pos _, by unfold max1; split <;> omega⟩
    refine ⟨⟨by omega, inR (by omega) (by omega)⟩, inR (show _ ≤ t - max1 _ by omega) (show t - max1 _ ≤ _ by omega), out wf _ (by omega) nwf m4 fun hl => fit true _ _ _ (by omega) (by omega) hk⟩
  · rw [if_neg m1, if_neg m2, if_neg m3, if_neg m4] at hk
    exact ⟨v, hk⟩
-- spec.toInt
def G_spec_toInt (b0 : Bool) (k : Int → Prop) : Prop :=
  br b0
  (k 1)
  (k 0)
def S_spec_toInt (b0 : Bool) (k : Int → Prop) : Prop := G_spec_toInt b0 k
def F_spec_toInt (b : Bool) (k : Int → Prop) : Prop := k (toI b)
theorem F_spec_toInt_S {b : Bool} {k : Int → Prop} (h : F_spec_toInt b k) : S_spec_toInt b k := by
  cases b <;> exact h
-- spec.RunLists
def T0_spec_RunLists (t0 : List Int) (xn7 : Int) (xi8 : Int) (xb6c0 : Int) (xb6c1 : Int) (xb6c2 : List Int) (xb6c3 : List Int) (xb6c4 : List Int) (xb6c5 : List Int) (k : Int → Int → List Int → List Int → List Int → List Int → Int → Prop) (B0 : Int → Int → Int → Int → List Int → List Int → List Int → List Int → Prop) : Prop :=
  br (decide (xi8 < (t0.length : Int)))
  ((0 ≤ xi8 ∧ xi8 < (t0.length : Int)) ∧
    ((F_spec_adapt xb6c0 xb6c1 xb6c2 xb6c3 xb6c4 xb6c5 (List.getD t0 (Int.toNat xi8) (0 : Int)) fun adapt37Room adapt37Target adapt37Once adapt37Often adapt37WasOnce adapt37WasOften adapt37r1 =>
        (F_spec_toInt adapt37r1 fun toInt42 =>
          InR (xn7 + toInt42) ∧
          InR (xi8 + 1) ∧
          B0 (xn7 + toInt42) (xi8 + 1) adapt37Room adapt37Target adapt37Once adapt37Often adapt37WasOnce adapt37WasOften) ∧
        (True)) ∧
      (True)) ∧
    (True))
  (F_spec_copyLists xb6c0 xb6c1 xb6c2 xb6c3 xb6c4 xb6c5 fun copyLists45Room copyLists45Target copyLists45Once copyLists45Often copyLists45WasOnce copyLists45WasOften =>
    k copyLists45Room copyLists45Target copyLists45Once copyLists45Often copyLists45WasOnce copyLists45WasOften xn7)
def U0_spec_RunLists (t0 : List Int) (xn7 : Int) (xi8 : Int) (xb6c0 : Int) (xb6c1 : Int) (xb6c2 : List Int) (xb6c3 : List Int) (xb6c4 : List Int) (xb6c5 : List Int) (k : Int → Int → List Int → List Int → List Int → List Int → Int → Prop) (B0 : Int → Int → Int → Int → List Int → List Int → List Int → List Int → Prop) : Prop :=
  br (decide (xi8 < (t0.length : Int)))
  ((0 ≤ xi8 ∧ xi8 < (t0.length : Int)) ∧
    F_spec_adapt xb6c0 xb6c1 xb6c2 xb6c3 xb6c4 xb6c5 (List.getD t0 (Int.toNat xi8) (0 : Int)) fun adapt37Room adapt37Target adapt37Once adapt37Often adapt37WasOnce adapt37WasOften adapt37r1 =>
    F_spec_toInt adapt37r1 fun toInt42 =>
    InR (xn7 + toInt42) ∧
    InR (xi8 + 1) ∧
    B0 (xn7 + toInt42) (xi8 + 1) adapt37Room adapt37Target adapt37Once adapt37Often adapt37WasOnce adapt37WasOften)
  (F_spec_copyLists xb6c0 xb6c1 xb6c2 xb6c3 xb6c4 xb6c5 fun copyLists45Room copyLists45Target copyLists45Once copyLists45Often copyLists45WasOnce copyLists45WasOften =>
    k copyLists45Room copyLists45Target copyLists45Once copyLists45Often copyLists45WasOnce copyLists45WasOften xn7)
theorem T0_spec_RunLists_eq (t0 : List Int) (xn7 : Int) (xi8 : Int) (xb6c0 : Int) (xb6c1 : Int) (xb6c2 : List Int) (xb6c3 : List Int) (xb6c4 : List Int) (xb6c5 : List Int) (k : Int → Int → List Int → List Int → List Int → List Int → Int → Prop) (B0 : Int → Int → Int → Int → List Int → List Int → List Int → List Int → Prop) : T0_spec_RunLists t0 xn7 xi8 xb6c0 xb6c1 xb6c2 xb6c3 xb6c4 xb6c5 k B0 = U0_spec_RunLists t0 xn7 xi8 xb6c0 xb6c1 xb6c2 xb6c3 xb6c4 xb6c5 k B0 := by
  first
  | (simp only [T0_spec_RunLists, U0_spec_RunLists, and_self, and_true]; done)
  | (simp only [T0_spec_RunLists, U0_spec_RunLists, and_self, and_true, and_self_left, and_assoc]; refine propext ⟨fun h => ?_, fun h => ?_⟩ <;> (repeat (cases ‹_ ∧ _›)) <;> (repeat' (apply And.intro)) <;> assumption)
def L0_spec_RunLists (t0 : List Int) (k : Int → Int → List Int → List Int → List Int → List Int → Int → Prop) : Nat → Int → Int → Int → Int → List Int → List Int → List Int → List Int → Prop
  | 0, _, _, _, _, _, _, _, _ => False
  | n + 1, xn7, xi8, xb6c0, xb6c1, xb6c2, xb6c3, xb6c4, xb6c5 => U0_spec_RunLists t0 xn7 xi8 xb6c0 xb6c1 xb6c2 xb6c3 xb6c4 xb6c5 k (L0_spec_RunLists t0 k n)
def G_spec_RunLists (t0 : List Int) (room1 : Int) (k : Int → Int → List Int → List Int → List Int → List Int → Int → Prop) (I0 : List Int → Int → Int → Int → Int → List Int → List Int → List Int → List Int → Prop) : Prop :=
  F_spec_validTrace t0 fun validTrace11 =>
  br (!validTrace11)
  (k 0 0 ([] : List Int) ([] : List Int) ([] : List Int) ([] : List Int) (-1))
  (F_spec_inRange room1 (1 : Int) (8 : Int) fun inRange15 =>
    br (!inRange15)
    (k 0 0 ([] : List Int) ([] : List Int) ([] : List Int) ([] : List Int) (-1))
    (I0 t0 0 0 room1 0 ([] : List Int) ([] : List Int) ([] : List Int) ([] : List Int)))
def S_spec_RunLists (t0 : List Int) (room1 : Int) (k : Int → Int → List Int → List Int → List Int → List Int → Int → Prop) : Prop := G_spec_RunLists t0 room1 k (fun t0 xn7 xi8 xb6c0 xb6c1 xb6c2 xb6c3 xb6c4 xb6c5 => ∃ j, L0_spec_RunLists t0 k j xn7 xi8 xb6c0 xb6c1 xb6c2 xb6c3 xb6c4 xb6c5)
def F_spec_RunLists (t : List Int) (room : Int) (k : Int → Int → List Int → List Int → List Int → List Int → Int → Prop) : Prop :=
  ((VTrace t ∧ 1 ≤ room ∧ room ≤ 8) → k room (runL room t ⟨0, [], [], [], []⟩ 0).1.t (runL room t ⟨0, [], [], [], []⟩ 0).1.o (runL room t ⟨0, [], [], [], []⟩ 0).1.f (runL room t ⟨0, [], [], [], []⟩ 0).1.wo (runL room t ⟨0, [], [], [], []⟩ 0).1.wf (runL room t ⟨0, [], [], [], []⟩ 0).2) ∧
  (¬ (VTrace t ∧ 1 ≤ room ∧ room ≤ 8) → k 0 0 [] [] [] [] (-1))
theorem F_spec_RunLists_S {t : List Int} {room : Int} {k : Int → Int → List Int → List Int → List Int → List Int → Int → Prop} (h : F_spec_RunLists t room k) : S_spec_RunLists t room k := by
  obtain ⟨hyes, hno⟩ := h
  intro b hb
  rw [br_not, br_iff]
  refine ⟨fun e => br_not.2 (br_dec.2 ⟨fun hr => ?_, fun hr => hno fun w => hr w.2⟩), fun e => hno fun v => by rw [hb.2 v.1] at e; cases e⟩
  have v := hb.1 e
  have hk := hyes ⟨v, hr⟩
  have t1 := v.1
  have t2 := v.2
  have key : ∀ (r : List Int) (i : Nat) (a : AL) (n : Int), t.drop i = r → VLists room a → 0 ≤ n → n ≤ i → (let q := runL room r a n; k room q.1.t q.1.o q.1.f q.1.wo q.1.wf q.2) → L0_spec_RunLists t k (r.length + 1) n (i : Int) room a.t a.o a.f a.wo a.wf := by
    intro r
    induction r with
    | nil =>
      intro i a n hdr v n0 n1 hk
      have := drop_nil' hdr
      obtain ⟨l1, l2, l3, l4⟩ := lists_len v
      rw [L0_spec_RunLists, U0_spec_RunLists]
      exact br_dec.2 ⟨fun h => by omega, fun _ => ⟨by omega, hk⟩⟩
    | cons x r ih =>
      intro i a n hdr v n0 n1 hk
      obtain ⟨h1, h2, h5, h3, h4⟩ := drop_cons' hdr
      have hx := t2 x (List.mem_of_getElem? h5)
      rw [List.length_cons, L0_spec_RunLists, U0_spec_RunLists]
      simp only [br_dec, Int.toNat_natCast, h2]
      have := toI_01 (adM room ⟨a.t, a.o, a.f, a.wo, a.wf⟩ x).2
      exact ⟨fun _ => ⟨⟨by omega, by omega⟩, v, inR (by omega) (by omega), inR (by omega) (by omega), ih (i + 1) _ _ h3 (adM_valid v hx) (by omega) (by omega) hk⟩, fun h => by omega⟩
  exact ⟨_, key t 0 ⟨0, [], [], [], []⟩ 0 rfl (lists0 hr (by omega)) (by omega) (by omega) hk⟩
-- laws.equalInts
def T0_laws_equalInts (a0 : List Int) (b1 : List Int) (xi5 : Int) (k : Bool → Prop) (B0 : Int → Prop) : Prop :=
  br (decide (xi5 < (a0.length : Int)))
  ((0 ≤ xi5 ∧ xi5 < (a0.length : Int)) ∧
    (0 ≤ xi5 ∧ xi5 < (b1.length : Int)) ∧
    br ((List.getD a0 (Int.toNat xi5) (0 : Int)) != (List.getD b1 (Int.toNat xi5) (0 : Int)))
    (k false)
    (InR (xi5 + 1) ∧
      B0 (xi5 + 1)))
  (k true)
def L0_laws_equalInts (a0 : List Int) (b1 : List Int) (k : Bool → Prop) : Nat → Int → Prop
  | 0, _ => False
  | n + 1, xi5 => T0_laws_equalInts a0 b1 xi5 k (L0_laws_equalInts a0 b1 k n)
def G_laws_equalInts (a0 : List Int) (b1 : List Int) (k : Bool → Prop) (I0 : List Int → List Int → Int → Prop) : Prop :=
  br ((a0.length : Int) != (b1.length : Int))
  (k false)
  (I0 a0 b1 0)
def S_laws_equalInts (a0 : List Int) (b1 : List Int) (k : Bool → Prop) : Prop := G_laws_equalInts a0 b1 k (fun a0 b1 xi5 => ∃ j, L0_laws_equalInts a0 b1 k j xi5)
def F_laws_equalInts (a b : List Int) (k : Bool → Prop) : Prop := a.length ≤ 1000000000 ∧ k (decide (a = b))
theorem F_laws_equalInts_S {a b : List Int} {k : Bool → Prop} (h : F_laws_equalInts a b k) : S_laws_equalInts a b k := by
  obtain ⟨hl, hk⟩ := h
  refine br_bne.2 ⟨fun he => by rwa [decide_eq_false (fun e => he (by rw [e]))] at hk, fun he => ?_⟩
  have he : a.length = b.length := by omega
  have key : ∀ (r : List Int) (i : Nat), a.drop i = r → (r = b.drop i ↔ a = b) → L0_laws_equalInts a b k (r.length + 1) (i : Int) := by
    intro r
    induction r with
    | nil =>
      intro i hd hi
      have := drop_nil' hd
      rw [L0_laws_equalInts, T0_laws_equalInts]
      simp only [br_dec]
      exact ⟨fun h => by omega, fun _ => by rwa [decide_eq_true (hi.1 (List.drop_eq_nil_of_le (by omega)).symm)] at hk⟩
    | cons x r ih =>
      intro i hd hi
      obtain ⟨h1, h2, _, h3, _⟩ := drop_cons' hd
      obtain ⟨y, s, hs⟩ : ∃ y s, b.drop i = y :: s := by
        cases e : b.drop i with
        | nil => have := drop_nil' e; omega
        | cons y s => exact ⟨y, s, rfl⟩
      obtain ⟨g1, g2, _, g3, _⟩ := drop_cons' hs
      rw [List.length_cons, L0_laws_equalInts, T0_laws_equalInts]
      simp only [br_dec, br_bne, Int.toNat_natCast, h2, g2]
      rw [hs] at hi
      refine ⟨fun _ => ⟨⟨by omega, by omega⟩, ⟨by omega, by omega⟩, ?_⟩, fun h => by omega⟩
      have go : x = y → L0_laws_equalInts a b k (r.length + 1) ((i : Int) + 1) := fun hx => ih (i + 1) h3 (by rw [g3, ← hi, hx]; simp)
      have no : x ≠ y → k false := fun hx => by rwa [decide_eq_false (fun e => hx (List.cons.inj (hi.2 e)).1)] at hk
      exact ⟨no, fun hx => ⟨inR (by omega) (by omega), go hx⟩⟩
  exact ⟨_, key a 0 rfl (by simp)⟩
-- laws.equalAdaptive
def G_laws_equalAdaptive (a0Room : Int) (a0Target : Int) (a0Once : List Int) (a0Often : List Int) (a0WasOnce : List Int) (a0WasOften : List Int) (b1Room : Int) (b1Target : Int) (b1Once : List Int) (b1Often : List Int) (b1WasOnce : List Int) (b1WasOften : List Int) (k : Bool → Prop) : Prop :=
  br (a0Room == b1Room)
  (br (a0Target == b1Target)
    (F_laws_equalInts a0Once b1Once fun equalInts22 =>
      br equalInts22
      (F_laws_equalInts a0Often b1Often fun equalInts29 =>
        br equalInts29
        (F_laws_equalInts a0WasOnce b1WasOnce fun equalInts36 =>
          br equalInts36
          (F_laws_equalInts a0WasOften b1WasOften fun equalInts43 =>
            k equalInts43)
          (k false))
        (k false))
      (k false))
    (k false))
  (k false)
def S_laws_equalAdaptive (a0Room : Int) (a0Target : Int) (a0Once : List Int) (a0Often : List Int) (a0WasOnce : List Int) (a0WasOften : List Int) (b1Room : Int) (b1Target : Int) (b1Once : List Int) (b1Often : List Int) (b1WasOnce : List Int) (b1WasOften : List Int) (k : Bool → Prop) : Prop := G_laws_equalAdaptive a0Room a0Target a0Once a0Often a0WasOnce a0WasOften b1Room b1Target b1Once b1Often b1WasOnce b1WasOften k
def F_laws_equalAdaptive (r t : Int) (o f wo wf : List Int) (r' t' : Int) (o' f' wo' wf' : List Int) (k : Bool → Prop) : Prop :=
  (o.length ≤ 1000000000 ∧ f.length ≤ 1000000000 ∧ wo.length ≤ 1000000000 ∧ wf.length ≤ 1000000000) ∧ ∀ b : Bool, (b = true ↔ r = r' ∧ t = t' ∧ o = o' ∧ f = f' ∧ wo = wo' ∧ wf = wf') → k b
theorem F_laws_equalAdaptive_S {r t : Int} {o f wo wf : List Int} {r' t' : Int} {o' f' wo' wf' : List Int} {k : Bool → Prop} (h : F_laws_equalAdaptive r t o f wo wf r' t' o' f' wo' wf' k) : S_laws_equalAdaptive r t o f wo wf r' t' o' f' wo' wf' k := by
  obtain ⟨⟨l1, l2, l3, l4⟩, hk⟩ := h
  refine br_beq.2 ⟨fun e1 => br_beq.2 ⟨fun e2 => ⟨l1, br_dec.2 ⟨fun e3 => ⟨l2, br_dec.2 ⟨fun e4 => ⟨l3, br_dec.2 ⟨fun e5 => ⟨l4, hk _ (by simp [e1, e2, e3, e4, e5])⟩, fun e5 => hk _ (by simp [e5])⟩⟩, fun e4 => hk _ (by simp [e4])⟩⟩, fun e3 => hk _ (by simp [e3])⟩⟩, fun e2 => hk _ (by simp [e2])⟩, fun e1 => hk _ (by simp [e1])⟩
theorem equalAdaptive_same {r t : Int} {o f wo wf : List Int} {k : Bool → Prop} (l : o.length ≤ 1000000000 ∧ f.length ≤ 1000000000 ∧ wo.length ≤ 1000000000 ∧ wf.length ≤ 1000000000) (h : k true) : F_laws_equalAdaptive r t o f wo wf r t o f wo wf k :=
  ⟨l, all_t ⟨rfl, rfl, rfl, rfl, rfl, rfl⟩ h⟩
-- impl.NewKeys
def T0_impl_NewKeys (t0 : List Int) (xt10 : Int) (xcount3 : Int) (xt11 : Int) (k : Int → Prop) (B0 : Int → Int → Prop) : Prop :=
  br (decide (xt11 < xt10))
  ((0 ≤ xt11 ∧ xt11 < (t0.length : Int)) ∧
    (0 ≤ xt11 ∧ xt11 ≤ (t0.length : Int)) ∧
    F_slices_Contains_sint_int (List.take (Int.toNat xt11) t0) (List.getD t0 (Int.toNat xt11) (0 : Int)) fun contains20 =>
    br (!contains20)
    (InR (xcount3 + 1) ∧
      InR (xt11 + 1) ∧
      B0 (xcount3 + 1) (xt11 + 1))
    (InR (xt11 + 1) ∧
      B0 xcount3 (xt11 + 1)))
  (k xcount3)
def L0_impl_NewKeys (t0 : List Int) (xt10 : Int) (k : Int → Prop) : Nat → Int → Int → Prop
  | 0, _, _ => False
  | n + 1, xcount3, xt11 => T0_impl_NewKeys t0 xt10 xcount3 xt11 k (L0_impl_NewKeys t0 xt10 k n)
def G_impl_NewKeys (t0 : List Int) (k : Int → Prop) (I0 : List Int → Int → Int → Int → Prop) : Prop :=
  F_impl_ValidTrace t0 fun validTrace7 =>
  br (!validTrace7)
  (k (-1))
  (I0 t0 (t0.length : Int) 0 0)
def S_impl_NewKeys (t0 : List Int) (k : Int → Prop) : Prop := G_impl_NewKeys t0 k (fun t0 xt10 xcount3 xt11 => ∃ j, L0_impl_NewKeys t0 xt10 k j xcount3 xt11)
def F_impl_NewKeys (t : List Int) (k : Int → Prop) : Prop := (VTrace t → k (nk t : Int)) ∧ (¬ (VTrace t) → k (-1))
theorem F_impl_NewKeys_S {t : List Int} {k : Int → Prop} (h : F_impl_NewKeys t k) : S_impl_NewKeys t k := by
  obtain ⟨hyes, hno⟩ := h
  intro b hb
  refine br_not.2 (br_iff.2 ⟨fun e => ?_, fun e => hno fun w => by rw [hb.2 w] at e; cases e⟩)
  have v := hb.1 e
  have hk := hyes v
  have hl := v.1
  have go : ∀ (m i : Nat), i + m = t.length → L0_impl_NewKeys t (t.length : Int) k (m + 1) (nk (t.take i) : Int) (i : Int) := by
    intro m
    induction m with
    | zero =>
      intro i hi
      rw [show t.take i = t from List.take_of_length_le (by omega), L0_impl_NewKeys, T0_impl_NewKeys]
      exact br_dec.2 ⟨fun h => by omega, fun _ => hk⟩
    | succ m ih =>
      intro i hi
      have := nk_le (t.take i)
      rw [List.length_take] at this
      have next := ih (i + 1) (by omega)
      rw [take_get (by omega), nk_snoc] at next
      rw [L0_impl_NewKeys, T0_impl_NewKeys]
      simp only [Int.toNat_natCast]
      refine br_yd (by omega) ⟨⟨by omega, by omega⟩, ⟨by omega, by omega⟩, by rw [List.length_take]; omega, br_not.2 (br_dec.2 ⟨fun hm => ?_, fun hm => ?_⟩)⟩
      · rw [if_pos hm] at next; exact ⟨inR (by omega) (by omega), next⟩
      · rw [if_neg hm] at next; exact ⟨inR (by omega) (by omega), inR (by omega) (by omega), next⟩
  exact ⟨_, go t.length 0 (by omega)⟩
-- impl.CachedKeys
def G_impl_CachedKeys (a0Room : Int) (a0Target : Int) (a0Once : List Int) (a0Often : List Int) (a0WasOnce : List Int) (a0WasOften : List Int) (k : List Int → Prop) : Prop :=
  F_impl_ValidLists a0Room a0Target a0Once a0Often a0WasOnce a0WasOften fun validLists4 =>
  br (!validLists4)
  (k ([] : List Int))
  (F_slices_Concat_sint_int ([a0Once, a0Often] : List (List Int)) fun concat11 =>
    k concat11)
def S_impl_CachedKeys (a0Room : Int) (a0Target : Int) (a0Once : List Int) (a0Often : List Int) (a0WasOnce : List Int) (a0WasOften : List Int) (k : List Int → Prop) : Prop := G_impl_CachedKeys a0Room a0Target a0Once a0Often a0WasOnce a0WasOften k
def F_impl_CachedKeys (r t : Int) (o f wo wf : List Int) (k : List Int → Prop) : Prop :=
  (o.length ≤ 100000000 ∧ f.length ≤ 100000000 ∧ wo.length ≤ 100000000 ∧ wf.length ≤ 100000000) ∧
  (VLists r ⟨t, o, f, wo, wf⟩ → k (o ++ f)) ∧ (¬ VLists r ⟨t, o, f, wo, wf⟩ → k [])
theorem F_impl_CachedKeys_S {r t : Int} {o f wo wf : List Int} {k : List Int → Prop} (h : F_impl_CachedKeys r t o f wo wf k) : S_impl_CachedKeys r t o f wo wf k := by
  obtain ⟨hl, hyes, hno⟩ := h
  refine ⟨hl, ?_⟩
  intro b hb
  refine br_not.2 (br_iff.2 ⟨fun e => ?_, fun e => hno fun w => by rw [hb.2 w] at e; cases e⟩)
  have e1 : ([o, f] : List (List Int)).flatten = o ++ f := by simp
  refine ⟨⟨by simp, by rw [e1]; simp; omega⟩, ?_⟩
  rw [e1]
  exact hyes (hb.1 e)
-- laws.FnRunListsSmall
def G_laws_FnRunListsSmall_j0 (runLists20Often : List Int) (runLists20Once : List Int) (runLists20Room : Int) (runLists20Target : Int) (runLists20WasOften : List Int) (runLists20WasOnce : List Int) (runLists20r1 : Int) (runLists26Often : List Int) (runLists26Once : List Int) (runLists26Room : Int) (runLists26Target : Int) (runLists26WasOften : List Int) (runLists26WasOnce : List Int) (runLists26r1 : Int) (k : Bool → Prop) : Prop :=
  F_laws_equalAdaptive runLists20Room runLists20Target runLists20Once runLists20Often runLists20WasOnce runLists20WasOften runLists26Room runLists26Target runLists26Once runLists26Often runLists26WasOnce runLists26WasOften fun equalAdaptive50 =>
  br equalAdaptive50
  (k (runLists20r1 == runLists26r1))
  (k false)
def G_laws_FnRunListsSmall (code0 : List Int) (k : Bool → Prop) : Prop :=
  br (decide ((code0.length : Int) > 1048576))
  (k true)
  (F_spec_DrawRunLists code0 fun drawRunLists14r0 drawRunLists14r1 =>
    F_impl_RunLists drawRunLists14r0 drawRunLists14r1 fun runLists20Room runLists20Target runLists20Once runLists20Often runLists20WasOnce runLists20WasOften runLists20r1 =>
    F_spec_RunLists drawRunLists14r0 drawRunLists14r1 fun runLists26Room runLists26Target runLists26Once runLists26Often runLists26WasOnce runLists26WasOften runLists26r1 =>
    F_laws_equalAdaptive runLists20Room runLists20Target runLists20Once runLists20Often runLists20WasOnce runLists20WasOften runLists26Room runLists26Target runLists26Once runLists26Often runLists26WasOnce runLists26WasOften fun equalAdaptive31 =>
    br (!equalAdaptive31)
    (G_laws_FnRunListsSmall_j0 runLists20Often runLists20Once runLists20Room runLists20Target runLists20WasOften runLists20WasOnce runLists20r1 runLists26Often runLists26Once runLists26Room runLists26Target runLists26WasOften runLists26WasOnce runLists26r1 k)
    (br (runLists20r1 != runLists26r1)
      (G_laws_FnRunListsSmall_j0 runLists20Often runLists20Once runLists20Room runLists20Target runLists20WasOften runLists20WasOnce runLists20r1 runLists26Often runLists26Once runLists26Room runLists26Target runLists26WasOften runLists26WasOnce runLists26r1 k)
      (br (decide (runLists20r1 < 0))
        (G_laws_FnRunListsSmall_j0 runLists20Often runLists20Once runLists20Room runLists20Target runLists20WasOften runLists20WasOnce runLists20r1 runLists26Often runLists26Once runLists26Room runLists26Target runLists26WasOften runLists26WasOnce runLists26r1 k)
        (F_impl_NewKeys drawRunLists14r0 fun newKeys44 =>
          br (decide (newKeys44 > drawRunLists14r1))
          (G_laws_FnRunListsSmall_j0 runLists20Often runLists20Once runLists20Room runLists20Target runLists20WasOften runLists20WasOnce runLists20r1 runLists26Often runLists26Once runLists26Room runLists26Target runLists26WasOften runLists26WasOnce runLists26r1 k)
          (F_impl_NewKeys drawRunLists14r0 fun newKeys60 =>
            InR ((drawRunLists14r0.length : Int) - newKeys60) ∧
            br (runLists20r1 == ((drawRunLists14r0.length : Int) - newKeys60))
            (F_impl_CachedKeys runLists20Room runLists20Target runLists20Once runLists20Often runLists20WasOnce runLists20WasOften fun cachedKeys65 =>
              F_impl_NewKeys drawRunLists14r0 fun newKeys68 =>
              br ((cachedKeys65.length : Int) == newKeys68)
              (k (runLists20Target == 0))
              (k false))
            (k false))))))
def S_laws_FnRunListsSmall (code0 : List Int) (k : Bool → Prop) : Prop := G_laws_FnRunListsSmall code0 k
abbrev F_laws_FnRunListsSmall (code0 : List Int) (k : Bool → Prop) : Prop := S_laws_FnRunListsSmall code0 k
theorem F_laws_FnRunListsSmall_S {code0 : List Int} {k : Bool → Prop} (h : F_laws_FnRunListsSmall code0 k) : S_laws_FnRunListsSmall code0 k := h
theorem law_FnRunListsSmall (code : List Int) (hb : ∀ x ∈ code, 0 ≤ x ∧ x ≤ 255) : F_laws_FnRunListsSmall code (fun r => r = true) := by
  refine br_dec.2 ⟨fun _ => rfl, fun hlen => ⟨hb, fun t room l1 => ?_⟩⟩
  by_cases v : VTrace t ∧ 1 ≤ room ∧ room ≤ 8
  · have a := runL_facts v.1 v.2
    have hv := (runL_valid t ⟨0, [], [], [], []⟩ 0 (lists0 v.2 (by omega)) v.1.2).1
    have hl := lists_len hv
    have hp := a.pos
    have ht := v.1.1
    have hk := nk_le t
    refine yes v (yes v (equalAdaptive_same (by omega) (br_nt (br_same' (br_nd (by omega) (yes v.1 (br_dec.2 ⟨fun _ => equalAdaptive_same (by omega) (beq_t rfl), fun h => ?_⟩)))))))
    have hs := runL_small t ⟨0, [], [], [], []⟩ 0 [] (lists0 v.2 (by omega)) v.1.2 rfl rfl (by simp) (by simp) (by have : (usedR [] t).length = nk t := rfl; omega)
    have h2 := a.fit (by omega)
    refine yes v.1 ⟨inR (by omega) (by omega), br_ye (by omega) ⟨by omega, yes hv (yes v.1 (br_ye ?_ (beq_t hs.2.2)))⟩⟩
    have := a.full; have := a.keys; have := a.len
    have := a.new
    rw [List.length_append] at *
    rcases a.full with g | g
    · rw [List.length_append] at g; omega
    · rw [List.length_append] at g; omega
  · exact nay v (nay v (equalAdaptive_same (by simp) (br_nt (br_same' (br_yd (by omega) (equalAdaptive_same (by simp) rfl))))))
end Go.Ev
