/-
  No cell of these rows narrows 'for every input' (looked for: loops, veiled, ifaces, maps, wideKeys, modest, calm, conditions, laid).
  DERIVED. THE GIVEN ROWS OF THIS SEAT. 10 by the template 'for every input the law returns true; each argument reads behind the call as it read before'; 0 by the template 'total and deterministic' (their statements: YtemhpncmhdcheaaTotals.lean).
  GIVEN WITH THE SEED: the statements are not yours to turn. If you find one false, say at which input.
  Laid BY PROGRAM, IN A SANDBOX (cutbox-rows.mjs): the forced cells as the released guide's own fill.sh prints them over the translation 48419e3275733935… (all of the seat's roots in one cut). By AI agents, Wed Nov 11 2026. No macro, syntax, notation, axiom, sorry.
-/
import Derived.Test.YtemhpncmhdcheaaChecked
import GoSem.Claim
import GoSem.ClaimJoined
import GoSem.ClaimMapViews
import Derived.JoinedTies
import Derived.KernelRfl
namespace Go.Proofs.Ytemhpncmhdcheaa
/- THE CELL 'sum', in the pinned program and in every row, IS THE sha256 OF THE DUMP (.gsa) THAT YtemhpncmhdcheaaProg.lean LOADS. Nothing in Lean hashes anything: it is a label: what it is worth is what the hold of that sum in a sandbox is worth. -/
noncomputable def Try.pinned : Pinned := { name := "ytemhpncmhdcheaa", sum := "48419e3275733935dfe1c68da54e2b7433a3b30afb60c0913d2ff62422f8a301", checked := Try.checked }
namespace Rows
def none {H : Type} : Left H := { results := [], args := [] }

/-- 'laws.FnRunFirstLoop': WHATEVER THE INPUT: true; the input reads as it did. -/
def fnRunFirstLoopSpec : ChangeSpec := { name := "fnRunFirstLoop", fn := fun _ => fun
  | [d] => { results := [.lit (.bool true)], args := [d] }
  | _ => none }
def fnRunFirstLoopRow : OpenClaim := { program := "ytemhpncmhdcheaa", sum := "48419e3275733935dfe1c68da54e2b7433a3b30afb60c0913d2ff62422f8a301", func := "loop.example/cacheengine/laws.FnRunFirstLoop", spec := "fnRunFirstLoop", unfollowed := true, recurses := true, apart := false }
def FnRunFirstLoopSaid : Prop := fnRunFirstLoopRow.holds Try.pinned (OpenSpec.ofChange fnRunFirstLoopSpec)

/-- ITS FALSE NEIGHBOUR: 'it returns false'. Refute it at one input. -/
def fnRunFirstLoopWrong : ChangeSpec := { name := "fnRunFirstLoop", fn := fun _ => fun
  | [d] => { results := [.lit (.bool false)], args := [d] }
  | _ => none }
def FnRunFirstLoopWrongFalsely : Prop := fnRunFirstLoopRow.holds Try.pinned (OpenSpec.ofChange fnRunFirstLoopWrong)

/-- 'laws.FnRunClockFirst': WHATEVER THE INPUT: true; the input reads as it did. -/
def fnRunClockFirstSpec : ChangeSpec := { name := "fnRunClockFirst", fn := fun _ => fun
  | [d] => { results := [.lit (.bool true)], args := [d] }
  | _ => none }
def fnRunClockFirstRow : OpenClaim := { program := "ytemhpncmhdcheaa", sum := "48419e3275733935dfe1c68da54e2b7433a3b30afb60c0913d2ff62422f8a301", func := "loop.example/cacheengine/laws.FnRunClockFirst", spec := "fnRunClockFirst", unfollowed := true, recurses := true, apart := false }
def FnRunClockFirstSaid : Prop := fnRunClockFirstRow.holds Try.pinned (OpenSpec.ofChange fnRunClockFirstSpec)

/-- ITS FALSE NEIGHBOUR: 'it returns false'. Refute it at one input. -/
def fnRunClockFirstWrong : ChangeSpec := { name := "fnRunClockFirst", fn := fun _ => fun
  | [d] => { results := [.lit (.bool false)], args := [d] }
  | _ => none }
def FnRunClockFirstWrongFalsely : Prop := fnRunClockFirstRow.holds Try.pinned (OpenSpec.ofChange fnRunClockFirstWrong)

/-- 'laws.FnLoopTrace': WHATEVER THE INPUT: true; the input reads as it did. -/
def fnLoopTraceSpec : ChangeSpec := { name := "fnLoopTrace", fn := fun _ => fun
  | [d] => { results := [.lit (.bool true)], args := [d] }
  | _ => none }
def fnLoopTraceRow : OpenClaim := { program := "ytemhpncmhdcheaa", sum := "48419e3275733935dfe1c68da54e2b7433a3b30afb60c0913d2ff62422f8a301", func := "loop.example/cacheengine/laws.FnLoopTrace", spec := "fnLoopTrace", apart := false }
def FnLoopTraceSaid : Prop := fnLoopTraceRow.holds Try.pinned (OpenSpec.ofChange fnLoopTraceSpec)

/-- ITS FALSE NEIGHBOUR: 'it returns false'. Refute it at one input. -/
def fnLoopTraceWrong : ChangeSpec := { name := "fnLoopTrace", fn := fun _ => fun
  | [d] => { results := [.lit (.bool false)], args := [d] }
  | _ => none }
def FnLoopTraceWrongFalsely : Prop := fnLoopTraceRow.holds Try.pinned (OpenSpec.ofChange fnLoopTraceWrong)

/-- 'laws.FnLoopTraceDistance': WHATEVER THE INPUT: true; the input reads as it did. -/
def fnLoopTraceDistanceSpec : ChangeSpec := { name := "fnLoopTraceDistance", fn := fun _ => fun
  | [d] => { results := [.lit (.bool true)], args := [d] }
  | _ => none }
def fnLoopTraceDistanceRow : OpenClaim := { program := "ytemhpncmhdcheaa", sum := "48419e3275733935dfe1c68da54e2b7433a3b30afb60c0913d2ff62422f8a301", func := "loop.example/cacheengine/laws.FnLoopTraceDistance", spec := "fnLoopTraceDistance", apart := false }
def FnLoopTraceDistanceSaid : Prop := fnLoopTraceDistanceRow.holds Try.pinned (OpenSpec.ofChange fnLoopTraceDistanceSpec)

/-- ITS FALSE NEIGHBOUR: 'it returns false'. Refute it at one input. -/
def fnLoopTraceDistanceWrong : ChangeSpec := { name := "fnLoopTraceDistance", fn := fun _ => fun
  | [d] => { results := [.lit (.bool false)], args := [d] }
  | _ => none }
def FnLoopTraceDistanceWrongFalsely : Prop := fnLoopTraceDistanceRow.holds Try.pinned (OpenSpec.ofChange fnLoopTraceDistanceWrong)

/-- 'laws.FnMixTraces': WHATEVER THE INPUT: true; the input reads as it did. -/
def fnMixTracesSpec : ChangeSpec := { name := "fnMixTraces", fn := fun _ => fun
  | [d] => { results := [.lit (.bool true)], args := [d] }
  | _ => none }
def fnMixTracesRow : OpenClaim := { program := "ytemhpncmhdcheaa", sum := "48419e3275733935dfe1c68da54e2b7433a3b30afb60c0913d2ff62422f8a301", func := "loop.example/cacheengine/laws.FnMixTraces", spec := "fnMixTraces", apart := false }
def FnMixTracesSaid : Prop := fnMixTracesRow.holds Try.pinned (OpenSpec.ofChange fnMixTracesSpec)

/-- ITS FALSE NEIGHBOUR: 'it returns false'. Refute it at one input. -/
def fnMixTracesWrong : ChangeSpec := { name := "fnMixTraces", fn := fun _ => fun
  | [d] => { results := [.lit (.bool false)], args := [d] }
  | _ => none }
def FnMixTracesWrongFalsely : Prop := fnMixTracesRow.holds Try.pinned (OpenSpec.ofChange fnMixTracesWrong)

/-- 'laws.FnMixTracesNone': WHATEVER THE INPUT: true; the input reads as it did. -/
def fnMixTracesNoneSpec : ChangeSpec := { name := "fnMixTracesNone", fn := fun _ => fun
  | [d] => { results := [.lit (.bool true)], args := [d] }
  | _ => none }
def fnMixTracesNoneRow : OpenClaim := { program := "ytemhpncmhdcheaa", sum := "48419e3275733935dfe1c68da54e2b7433a3b30afb60c0913d2ff62422f8a301", func := "loop.example/cacheengine/laws.FnMixTracesNone", spec := "fnMixTracesNone", apart := false }
def FnMixTracesNoneSaid : Prop := fnMixTracesNoneRow.holds Try.pinned (OpenSpec.ofChange fnMixTracesNoneSpec)

/-- ITS FALSE NEIGHBOUR: 'it returns false'. Refute it at one input. -/
def fnMixTracesNoneWrong : ChangeSpec := { name := "fnMixTracesNone", fn := fun _ => fun
  | [d] => { results := [.lit (.bool false)], args := [d] }
  | _ => none }
def FnMixTracesNoneWrongFalsely : Prop := fnMixTracesNoneRow.holds Try.pinned (OpenSpec.ofChange fnMixTracesNoneWrong)

/-- 'laws.FnMissesOverLoop': WHATEVER THE INPUT: true; the input reads as it did. -/
def fnMissesOverLoopSpec : ChangeSpec := { name := "fnMissesOverLoop", fn := fun _ => fun
  | [d] => { results := [.lit (.bool true)], args := [d] }
  | _ => none }
def fnMissesOverLoopRow : OpenClaim := { program := "ytemhpncmhdcheaa", sum := "48419e3275733935dfe1c68da54e2b7433a3b30afb60c0913d2ff62422f8a301", func := "loop.example/cacheengine/laws.FnMissesOverLoop", spec := "fnMissesOverLoop", unfollowed := true, recurses := true, apart := false }
def FnMissesOverLoopSaid : Prop := fnMissesOverLoopRow.holds Try.pinned (OpenSpec.ofChange fnMissesOverLoopSpec)

/-- ITS FALSE NEIGHBOUR: 'it returns false'. Refute it at one input. -/
def fnMissesOverLoopWrong : ChangeSpec := { name := "fnMissesOverLoop", fn := fun _ => fun
  | [d] => { results := [.lit (.bool false)], args := [d] }
  | _ => none }
def FnMissesOverLoopWrongFalsely : Prop := fnMissesOverLoopRow.holds Try.pinned (OpenSpec.ofChange fnMissesOverLoopWrong)

/-- 'laws.FnMixTracesTurn': WHATEVER THE INPUT: true; the input reads as it did. -/
def fnMixTracesTurnSpec : ChangeSpec := { name := "fnMixTracesTurn", fn := fun _ => fun
  | [d] => { results := [.lit (.bool true)], args := [d] }
  | _ => none }
def fnMixTracesTurnRow : OpenClaim := { program := "ytemhpncmhdcheaa", sum := "48419e3275733935dfe1c68da54e2b7433a3b30afb60c0913d2ff62422f8a301", func := "loop.example/cacheengine/laws.FnMixTracesTurn", spec := "fnMixTracesTurn", apart := false }
def FnMixTracesTurnSaid : Prop := fnMixTracesTurnRow.holds Try.pinned (OpenSpec.ofChange fnMixTracesTurnSpec)

/-- ITS FALSE NEIGHBOUR: 'it returns false'. Refute it at one input. -/
def fnMixTracesTurnWrong : ChangeSpec := { name := "fnMixTracesTurn", fn := fun _ => fun
  | [d] => { results := [.lit (.bool false)], args := [d] }
  | _ => none }
def FnMixTracesTurnWrongFalsely : Prop := fnMixTracesTurnRow.holds Try.pinned (OpenSpec.ofChange fnMixTracesTurnWrong)

/-- 'laws.FnExactLoopTrace': WHATEVER THE INPUT: true; the input reads as it did. -/
def fnExactLoopTraceSpec : ChangeSpec := { name := "fnExactLoopTrace", fn := fun _ => fun
  | [d1, d2] => { results := [.lit (.bool true)], args := [d1, d2] }
  | _ => none }
def fnExactLoopTraceRow : OpenClaim := { program := "ytemhpncmhdcheaa", sum := "48419e3275733935dfe1c68da54e2b7433a3b30afb60c0913d2ff62422f8a301", func := "loop.example/cacheengine/laws.FnExactLoopTrace", spec := "fnExactLoopTrace", apart := false }
def FnExactLoopTraceSaid : Prop := fnExactLoopTraceRow.holds Try.pinned (OpenSpec.ofChange fnExactLoopTraceSpec)

/-- ITS FALSE NEIGHBOUR: 'it returns false'. Refute it at one input. -/
def fnExactLoopTraceWrong : ChangeSpec := { name := "fnExactLoopTrace", fn := fun _ => fun
  | [d1, d2] => { results := [.lit (.bool false)], args := [d1, d2] }
  | _ => none }
def FnExactLoopTraceWrongFalsely : Prop := fnExactLoopTraceRow.holds Try.pinned (OpenSpec.ofChange fnExactLoopTraceWrong)

/-- 'laws.FnExactMixTraces': WHATEVER THE INPUT: true; the input reads as it did. -/
def fnExactMixTracesSpec : ChangeSpec := { name := "fnExactMixTraces", fn := fun _ => fun
  | [d1, d2] => { results := [.lit (.bool true)], args := [d1, d2] }
  | _ => none }
def fnExactMixTracesRow : OpenClaim := { program := "ytemhpncmhdcheaa", sum := "48419e3275733935dfe1c68da54e2b7433a3b30afb60c0913d2ff62422f8a301", func := "loop.example/cacheengine/laws.FnExactMixTraces", spec := "fnExactMixTraces", apart := false }
def FnExactMixTracesSaid : Prop := fnExactMixTracesRow.holds Try.pinned (OpenSpec.ofChange fnExactMixTracesSpec)

/-- ITS FALSE NEIGHBOUR: 'it returns false'. Refute it at one input. -/
def fnExactMixTracesWrong : ChangeSpec := { name := "fnExactMixTraces", fn := fun _ => fun
  | [d1, d2] => { results := [.lit (.bool false)], args := [d1, d2] }
  | _ => none }
def FnExactMixTracesWrongFalsely : Prop := fnExactMixTracesRow.holds Try.pinned (OpenSpec.ofChange fnExactMixTracesWrong)

/- THE SECOND FORM. 'bulk': how many values and letters a reading holds, each counted each time it is reached (what is shared counts as often as it is met; a slice's spare places count too). A statement '..UptoSaid' is the law's where the arguments, and the package variables that the reading takes, are together of bulk at most 1048576: NARROWER than '..Said'. Prove '..Said' where nothing that the law and all that it calls make is longer than what came in: it says more and counts as full. Else prove '..UptoSaid'. A law counts once. -/
mutual
def uptoBulk {H : Type} : DataW H → Nat
  | .lit (.string bytes) => bytes.length + 1
  | .lit _ => 1
  | .nil => 1
  | .ptr d => uptoBulk d + 1
  | .slice elems spare => uptoBulkAll elems + uptoBulkAll spare + 1
  | .agg parts => uptoBulkAll parts + 1
  | .iface _ d => uptoBulk d + 1
  | .map entries => uptoBulkEntries entries + 1
  | .held _ => 1
def uptoBulkAll {H : Type} : List (DataW H) → Nat
  | [] => 0
  | d :: r => uptoBulk d + uptoBulkAll r
def uptoBulkEntries {H : Type} : List (Lit × DataW H) → Nat
  | [] => 0
  | x :: r => uptoBulkEntry x + uptoBulkEntries r
def uptoBulkEntry {H : Type} : Lit × DataW H → Nat
  | (.string bytes, d) => bytes.length + uptoBulk d + 1
  | (_, d) => uptoBulk d + 1
 end
def uptoSmall : (H : Type) → List (DataW H) → Bool := fun _ ds => decide (uptoBulkAll ds ≤ 1048576)
def OpenSpec.upto (s : _root_.Go.ChangeSpec) : _root_.Go.OpenSpec := { _root_.Go.OpenSpec.ofChange s with cond := some uptoSmall }

/-- 'laws.FnRunFirstLoop', WHERE WHAT IT READS IS OF BULK AT MOST 1048576: true; the input reads as it did. -/
def fnRunFirstLoopUptoRow : OpenClaim := { program := "ytemhpncmhdcheaa", sum := "48419e3275733935dfe1c68da54e2b7433a3b30afb60c0913d2ff62422f8a301", func := "loop.example/cacheengine/laws.FnRunFirstLoop", spec := "fnRunFirstLoop", unfollowed := true, recurses := true, apart := false, narrowed := true }
def FnRunFirstLoopUptoSaid : Prop := fnRunFirstLoopUptoRow.holds Try.pinned (OpenSpec.upto fnRunFirstLoopSpec)

/-- 'laws.FnRunClockFirst', WHERE WHAT IT READS IS OF BULK AT MOST 1048576: true; the input reads as it did. -/
def fnRunClockFirstUptoRow : OpenClaim := { program := "ytemhpncmhdcheaa", sum := "48419e3275733935dfe1c68da54e2b7433a3b30afb60c0913d2ff62422f8a301", func := "loop.example/cacheengine/laws.FnRunClockFirst", spec := "fnRunClockFirst", unfollowed := true, recurses := true, apart := false, narrowed := true }
def FnRunClockFirstUptoSaid : Prop := fnRunClockFirstUptoRow.holds Try.pinned (OpenSpec.upto fnRunClockFirstSpec)

/-- 'laws.FnLoopTrace', WHERE WHAT IT READS IS OF BULK AT MOST 1048576: true; the input reads as it did. -/
def fnLoopTraceUptoRow : OpenClaim := { program := "ytemhpncmhdcheaa", sum := "48419e3275733935dfe1c68da54e2b7433a3b30afb60c0913d2ff62422f8a301", func := "loop.example/cacheengine/laws.FnLoopTrace", spec := "fnLoopTrace", apart := false, narrowed := true }
def FnLoopTraceUptoSaid : Prop := fnLoopTraceUptoRow.holds Try.pinned (OpenSpec.upto fnLoopTraceSpec)

/-- 'laws.FnLoopTraceDistance', WHERE WHAT IT READS IS OF BULK AT MOST 1048576: true; the input reads as it did. -/
def fnLoopTraceDistanceUptoRow : OpenClaim := { program := "ytemhpncmhdcheaa", sum := "48419e3275733935dfe1c68da54e2b7433a3b30afb60c0913d2ff62422f8a301", func := "loop.example/cacheengine/laws.FnLoopTraceDistance", spec := "fnLoopTraceDistance", apart := false, narrowed := true }
def FnLoopTraceDistanceUptoSaid : Prop := fnLoopTraceDistanceUptoRow.holds Try.pinned (OpenSpec.upto fnLoopTraceDistanceSpec)

/-- 'laws.FnMixTraces', WHERE WHAT IT READS IS OF BULK AT MOST 1048576: true; the input reads as it did. -/
def fnMixTracesUptoRow : OpenClaim := { program := "ytemhpncmhdcheaa", sum := "48419e3275733935dfe1c68da54e2b7433a3b30afb60c0913d2ff62422f8a301", func := "loop.example/cacheengine/laws.FnMixTraces", spec := "fnMixTraces", apart := false, narrowed := true }
def FnMixTracesUptoSaid : Prop := fnMixTracesUptoRow.holds Try.pinned (OpenSpec.upto fnMixTracesSpec)

/-- 'laws.FnMixTracesNone', WHERE WHAT IT READS IS OF BULK AT MOST 1048576: true; the input reads as it did. -/
def fnMixTracesNoneUptoRow : OpenClaim := { program := "ytemhpncmhdcheaa", sum := "48419e3275733935dfe1c68da54e2b7433a3b30afb60c0913d2ff62422f8a301", func := "loop.example/cacheengine/laws.FnMixTracesNone", spec := "fnMixTracesNone", apart := false, narrowed := true }
def FnMixTracesNoneUptoSaid : Prop := fnMixTracesNoneUptoRow.holds Try.pinned (OpenSpec.upto fnMixTracesNoneSpec)

/-- 'laws.FnMissesOverLoop', WHERE WHAT IT READS IS OF BULK AT MOST 1048576: true; the input reads as it did. -/
def fnMissesOverLoopUptoRow : OpenClaim := { program := "ytemhpncmhdcheaa", sum := "48419e3275733935dfe1c68da54e2b7433a3b30afb60c0913d2ff62422f8a301", func := "loop.example/cacheengine/laws.FnMissesOverLoop", spec := "fnMissesOverLoop", unfollowed := true, recurses := true, apart := false, narrowed := true }
def FnMissesOverLoopUptoSaid : Prop := fnMissesOverLoopUptoRow.holds Try.pinned (OpenSpec.upto fnMissesOverLoopSpec)

/-- 'laws.FnMixTracesTurn', WHERE WHAT IT READS IS OF BULK AT MOST 1048576: true; the input reads as it did. -/
def fnMixTracesTurnUptoRow : OpenClaim := { program := "ytemhpncmhdcheaa", sum := "48419e3275733935dfe1c68da54e2b7433a3b30afb60c0913d2ff62422f8a301", func := "loop.example/cacheengine/laws.FnMixTracesTurn", spec := "fnMixTracesTurn", apart := false, narrowed := true }
def FnMixTracesTurnUptoSaid : Prop := fnMixTracesTurnUptoRow.holds Try.pinned (OpenSpec.upto fnMixTracesTurnSpec)

/-- 'laws.FnExactLoopTrace', WHERE WHAT IT READS IS OF BULK AT MOST 1048576: true; the input reads as it did. -/
def fnExactLoopTraceUptoRow : OpenClaim := { program := "ytemhpncmhdcheaa", sum := "48419e3275733935dfe1c68da54e2b7433a3b30afb60c0913d2ff62422f8a301", func := "loop.example/cacheengine/laws.FnExactLoopTrace", spec := "fnExactLoopTrace", apart := false, narrowed := true }
def FnExactLoopTraceUptoSaid : Prop := fnExactLoopTraceUptoRow.holds Try.pinned (OpenSpec.upto fnExactLoopTraceSpec)

/-- 'laws.FnExactMixTraces', WHERE WHAT IT READS IS OF BULK AT MOST 1048576: true; the input reads as it did. -/
def fnExactMixTracesUptoRow : OpenClaim := { program := "ytemhpncmhdcheaa", sum := "48419e3275733935dfe1c68da54e2b7433a3b30afb60c0913d2ff62422f8a301", func := "loop.example/cacheengine/laws.FnExactMixTraces", spec := "fnExactMixTraces", apart := false, narrowed := true }
def FnExactMixTracesUptoSaid : Prop := fnExactMixTracesUptoRow.holds Try.pinned (OpenSpec.upto fnExactMixTracesSpec)

end Rows
end Go.Proofs.Ytemhpncmhdcheaa
