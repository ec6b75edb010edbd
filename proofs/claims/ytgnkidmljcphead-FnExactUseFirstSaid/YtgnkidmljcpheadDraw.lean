/- Contracts of the reader of drawn arguments: what it gives is a number in its range; nothing else is asked of it. No statement is proved here. -/
import Derived.Test.YtgnkidmljcpheadSkC
namespace Go.Proofs.Ytgnkidmljcphead
open Go.RowKit

/-- The slice reads in w as the bytes l, in a block below B. -/
def SB (w : World) (B : Nat) (A : Option Addr) (n c : Nat) (l : List Int) : Prop :=
  n = l.length ∧ n ≤ c ∧ c ≤ maxLen ∧ (∀ x ∈ l, 0 ≤ x ∧ x ≤ 255) ∧ ((A = none ∧ c = 0) ∨ ∃ a, A = some a ∧ (0 < n → ∃ b o, a = ⟨b, o, none⟩ ∧ b < B ∧ ∀ i, i < n → w.cell? ⟨b, o + i, none⟩ = some (.int .u8 (gi l i))))
theorem SB.at_ {w : World} {B : Nat} {A : Option Addr} {n c : Nat} {l : List Int} (h : SB w B A n c l) {k : Nat} (hk : k < n) :
    ∃ b o, A = some ⟨b, o, none⟩ ∧ b < B ∧ w.cell? ⟨b, o + k, none⟩ = some (.int .u8 (gi l k)) ∧ 0 ≤ gi l k ∧ gi l k ≤ 255 := by
  obtain ⟨hl, hc, _, hbd, ⟨_, h0⟩ | ⟨a, rfl, ha⟩⟩ := h
  · omega
  · obtain ⟨b, o, rfl, hb, hcell⟩ := ha (by omega)
    exact ⟨b, o, rfl, hb, hcell k hk, hbd _ (gi_mem (by omega))⟩
theorem SB.keep {w w' : World} {B : Nat} {A : Option Addr} {n c : Nat} {l : List Int} (h : SB w B A n c l) (hk : ∀ p : Addr, p.block < B → w'.cell? p = w.cell? p) : SB w' B A n c l := by
  obtain ⟨h1, h2, h3, h5, h4⟩ := h
  refine ⟨h1, h2, h3, h5, ?_⟩
  rcases h4 with h4 | ⟨a, rfl, ha⟩
  · exact .inl h4
  · refine .inr ⟨a, rfl, fun hn => ?_⟩
    obtain ⟨b, o, rfl, hb, hc⟩ := ha hn
    exact ⟨b, o, rfl, hb, fun i hi => (hk ⟨b, o + i, none⟩ hb).trans (hc i hi)⟩

theorem SB.more {w : World} {B B' : Nat} {A : Option Addr} {n c : Nat} {l : List Int} (h : SB w B A n c l) (hB : B ≤ B') : SB w B' A n c l := by
  obtain ⟨h1, h2, h3, h5, h4⟩ := h
  refine ⟨h1, h2, h3, h5, ?_⟩
  rcases h4 with h4 | ⟨a, rfl, ha⟩
  · exact .inl h4
  · refine .inr ⟨a, rfl, fun hn => ?_⟩
    obtain ⟨b, o, rfl, hb, hc⟩ := ha hn
    exact ⟨b, o, rfl, by omega, hc⟩
theorem SB.below {w w' : World} {B : Nat} {A : Option Addr} {n c : Nat} {l : List Int} (h : SB w B A n c l) (hb : Below B w w') : SB w' B A n c l := h.keep fun _ hp => hb.cell hp

theorem SI.far {w w' : World} {B : Nat} {A : Option Addr} {n c : Nat} {l : List Int} (h : SI w B A n c l) {row : Option Nat} (hg : w.grownBy w' row) (hB : B ≤ w.heap.size) (hne : ∀ b, blk A = some b → row ≠ some b) : SI w' B A n c l := by
  obtain ⟨h1, h2, h3, h4⟩ := h
  refine ⟨h1, h2, h3, ?_⟩
  rcases h4 with h4 | ⟨a, rfl, ha⟩
  · exact .inl h4
  · refine .inr ⟨a, rfl, fun hn => ?_⟩
    obtain ⟨b, o, rfl, hb, hc⟩ := ha hn
    exact ⟨b, o, rfl, hb, fun i hi => (World.cell?_of_block (hg.block b (by omega) (fun e => hne b rfl e.symm))).trans (hc i hi)⟩

end Go.Proofs.Ytgnkidmljcphead
