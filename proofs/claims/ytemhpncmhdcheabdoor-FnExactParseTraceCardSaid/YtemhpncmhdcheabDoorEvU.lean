/- What every law's frame wants: the program's own knobs, what an argument that came in reads as, and how a contract of a law becomes a call of it. No statement is proved here. -/
import Derived.Test.YtemhpncmhdcheabDoorEvT
import Derived.Test.YtemhpncmhdcheabDoorChecked
import Derived.RowKit3
import Derived.ChangeAt
import Derived.ChangeAt2
import Derived.ChangeReads
import Derived.ChangeShapes
import Derived.ChangeMaps
import Derived.OpenShut
import Derived.ShutString
import Derived.ChangeOld
import Derived.Below
import Derived.Carry
namespace Go.Proofs.YtemhpncmhdcheabDoor
open Go.RowKit

theorem own : ownKnob Tryd.prog.godebug = none := by kernel_rfl
theorem laidOut : laidOutB Tryd.prog = true := by kernel_rfl

/-- A slice of integers that came in: nil, or it leads to 'cap' cells, the numbers zs, of which the first 'len' are its elements. -/
def Came (k : IntKind) (w : World) (a : Option Addr) (len cap : Nat) (zs : List Int) : Prop :=
  (a = none ∧ len = 0 ∧ cap = 0 ∧ zs = []) ∨
  ∃ x, a = some x ∧ len ≤ cap ∧ cap ≤ maxLen ∧ zs.length = cap ∧ (∀ i, i < zs.length → w.cell? (x.add i) = some (.int k (zs.getD i 0))) ∧ ∀ n ∈ zs, (Lit.int k n).wf = true

open Go.Ev in
theorem Came.ro {w : World} {a : Option Addr} {len cap : Nat} {zs : List Int} (h : Came .u8 w a len cap zs) : Ro w a len cap .u8 (zs.take len) ∧ ∀ x ∈ zs.take len, 0 ≤ x ∧ x ≤ 255 := by
  rcases h with ⟨rfl, rfl, rfl, rfl⟩ | ⟨x, rfl, hl, hm, hz, hc, hw⟩
  · exact ⟨⟨rfl, Nat.le_refl _, Nat.zero_le _, .inl ⟨rfl, rfl⟩⟩, fun x hx => by simp at hx⟩
  · refine ⟨⟨by simp; omega, hl, hm, .inr ⟨x, rfl, fun h0 => ?_⟩⟩, fun y hy => ?_⟩
    · obtain ⟨b, o, spot⟩ := x
      have h := hc 0 (by omega)
      have hs : spot = none := by simpa [Addr.add] using World.cell?_spot h
      subst hs
      refine ⟨b, o, rfl, fun i y hy j z hz2 => ?_⟩
      have hi : i < len := by
        have := (List.getElem?_eq_some_iff.1 hy).1
        simp at this; omega
      have h2 := hc i (by omega)
      rw [List.getElem?_take, if_pos hi] at hy
      have h3 : zs.getD i 0 = y := by simp [List.getD, hy]
      rw [h3] at h2
      cases j with
      | zero =>
        have : z = .int .u8 y := by simpa [Ty.enc] using hz2.symm
        subst this
        by_cases hi0 : i = 0
        · subst hi0; simpa [Addr.add, Ty.sz] using h2
        · simpa [Addr.add, Ty.sz, hi0] using h2
      | succ j => simp [Ty.enc] at hz2
    · have := hw y (List.mem_of_mem_take hy)
      simp [Lit.wf, IntKind.min, IntKind.max, IntKind.signed, IntKind.bits] at this
      omega

/-- What a law's call leaves: true, and all that was there as it was. -/
def Law (w : World) (e : Ending) (w' : World) : Prop := e = .returned (.bool true) ∧ Below w.heap.size w w'

open Go.Ev in
/-- A law that takes bytes. -/
theorem law_bytes {f : FuncId} {C : Con} (hH : Holds Tryd.prog f C) (hmu : C.mu = [.rd]) {a : Option Addr} {n c : Nat} {z : List Int} {w : World} (h : Came .u8 w a n c z) (hG : GLm (fun _ => False) w)
    (hF : C.F [.c (.ro .u8 (z.take n))] (fun r _ => r = .one (.c (.v (.bool true))))) : Calls Tryd.prog f #[.slice a n c] w (Law w) := by
  have hpre : Pre C [.c (.ro .u8 (z.take n))] [.slice a n c] w ⟨fun _ => none, fun _ => True⟩ (fun _ => False) := by
    have hO : entO C.mu [.c (.ro .u8 (z.take n))] = [] := by rw [hmu]; rfl
    refine ⟨by rw [hmu]; rfl, by rw [hmu]; rfl, ?_, ?_, ?_, ?_, ⟨fun b _ => trivial, hG⟩, ?_, fun k _ p h => (by cases h)⟩
    · rw [hO, hmu]
      refine ⟨⟨a, n, c, rfl, h.ro.1, fun _ ad _ hown => ?_⟩, trivial⟩
      rcases hown with ⟨k, p, hk, _⟩ | hf
      · exact hk rfl
      · exact hf trivial
    · intro k ob e; rw [hO] at e; cases e
    · intro k k' p p' e; rw [hO] at e; exact absurd rfl e
    · intro k p e; rw [hO] at e; exact absurd rfl e
    · intro m x e; rw [hmu] at e; cases e
  refine (hH _ _ hF 0 w _ _ _ (by omega) hpre).mono fun e w' hpost => ?_
  obtain ⟨r, bs, v, μ1, no, rfl, rfl, hfr, _, _, _, _, _, hra, _⟩ := hpost
  have hv : v = .bool true := by
    cases hfresh : C.fresh with
    | false => rw [hfresh] at hra; exact hra
    | true => rw [hfresh] at hra; exact hra
  subst hv
  exact ⟨rfl, hfr.os, hfr.tape, hfr.output, hfr.size, fun k hk => hfr.blk k hk fun h => h⟩
end Go.Proofs.YtemhpncmhdcheabDoor
