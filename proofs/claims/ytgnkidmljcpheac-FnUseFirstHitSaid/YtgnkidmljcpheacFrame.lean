/- What every law's frame wants: the program's own knobs, and what an argument that came in reads as. No statement is proved here. -/
import Derived.Test.YtgnkidmljcpheacDrawC
import Derived.OpenShut
import Derived.ShutString
import Derived.ChangeOld
import Derived.Below
namespace Go.Proofs.Ytgnkidmljcpheac
open Go.RowKit

theorem own : ownKnob Try.prog.godebug = none := by kernel_rfl
theorem laidOut : laidOutB Try.prog = true := by kernel_rfl

/-- A slice of integers that came in: nil, or it leads to 'cap' cells, the numbers zs, of which the first 'len' are its elements. -/
def Came (k : IntKind) (w : World) (a : Option Addr) (len cap : Nat) (zs : List Int) : Prop :=
  (a = none ∧ len = 0 ∧ cap = 0 ∧ zs = []) ∨
  ∃ x, a = some x ∧ len ≤ cap ∧ cap ≤ maxLen ∧ zs.length = cap ∧ (∀ i, i < zs.length → w.cell? (x.add i) = some (.int k (zs.getD i 0))) ∧ ∀ n ∈ zs, (Lit.int k n).wf = true

theorem came_cells {k : IntKind} {w : World} {x : Addr} {zs : List Int} (hc : ∀ i, i < zs.length → w.cell? (x.add i) = some (.int k (zs.getD i 0))) {n : Nat} (hn : n ≤ zs.length) (h0 : 0 < n) :
    ∃ b o, x = ⟨b, o, none⟩ ∧ b < w.heap.size ∧ ∀ i, i < n → w.cell? ⟨b, o + i, none⟩ = some (.int k (gi (zs.take n) i)) := by
  obtain ⟨b, o, spot⟩ := x
  have h := hc 0 (by omega)
  have hs : spot = none := by simpa [Addr.add] using World.cell?_spot h
  subst hs
  refine ⟨b, o, rfl, ?_, fun i hi => ?_⟩
  · have := World.block_lt_of_cell? w _ h
    simpa [Addr.add] using this
  · have := hc i (by omega)
    rw [Addr.add_lit] at this
    rw [this, gi_take hi]; rfl

theorem Came.sb {w : World} {a : Option Addr} {len cap : Nat} {zs : List Int} (h : Came .u8 w a len cap zs) : SB w w.heap.size a len cap (zs.take len) := by
  rcases h with ⟨rfl, rfl, rfl, rfl⟩ | ⟨x, rfl, hl, hm, hz, hc, hw⟩
  · exact ⟨rfl, Nat.le_refl _, by simp [maxLen], fun x hx => by simp at hx, .inl ⟨rfl, rfl⟩⟩
  · refine ⟨by simp; omega, hl, hm, fun y hy => ?_, .inr ⟨x, rfl, fun h0 => came_cells hc (by omega) h0⟩⟩
    have := hw y (List.mem_of_mem_take hy)
    simp [Lit.wf, IntKind.min, IntKind.max, IntKind.signed, IntKind.bits] at this
    omega

/-- An int that came in lies in its kind's range. -/
def InR64 (x : Int) : Prop := -9223372036854775808 ≤ x ∧ x ≤ 9223372036854775807
theorem Came.si {w : World} {a : Option Addr} {len cap : Nat} {zs : List Int} (h : Came .i64 w a len cap zs) : SI w w.heap.size a len cap (zs.take len) ∧ ∀ x ∈ zs.take len, InR64 x := by
  rcases h with ⟨rfl, rfl, rfl, rfl⟩ | ⟨x, rfl, hl, hm, hz, hc, hw⟩
  · exact ⟨⟨rfl, Nat.le_refl _, by simp [maxLen], .inl ⟨rfl, rfl⟩⟩, fun x hx => by simp at hx⟩
  · refine ⟨⟨by simp; omega, hl, hm, .inr ⟨x, rfl, fun h0 => came_cells hc (by omega) h0⟩⟩, fun y hy => ?_⟩
    have := hw y (List.mem_of_mem_take hy)
    simp [Lit.wf, IntKind.min, IntKind.max, IntKind.signed, IntKind.bits] at this
    exact this

/-- What a law's call leaves: true, and all that was there as it was. -/
def Law (w : World) (e : Ending) (w' : World) : Prop := e = .returned (.bool true) ∧ Below w.heap.size w w'
end Go.Proofs.Ytgnkidmljcpheac
