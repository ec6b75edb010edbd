/-
  No cell of these rows narrows 'for every input' (looked for: loops, veiled, ifaces, maps, wideKeys, modest, calm, conditions, laid).
  DERIVED. THE GIVEN ROWS OF THIS SEAT. 12 by the template 'for every input the law returns true; each argument reads behind the call as it read before'; 0 by the template 'total and deterministic' (their statements: YtgnkidmljcpheabTotals.lean).
  GIVEN WITH THE SEED: the statements are not yours to turn. If you find one false, say at which input.
  Laid BY PROGRAM, IN A SANDBOX (cutbox-rows.mjs): the forced cells as the released guide's own fill.sh prints them over the translation ce97254fad254f5d… (all of the seat's roots in one cut). By AI agents, Wed Nov 11 2026. No macro, syntax, notation, axiom, sorry.
-/
import Derived.Test.YtgnkidmljcpheabChecked
import GoSem.Claim
import GoSem.ClaimJoined
import GoSem.ClaimMapViews
import Derived.JoinedTies
import Derived.KernelRfl
namespace Go.Proofs.Ytgnkidmljcpheab
/- THE CELL 'sum', in the pinned program and in every row, IS THE sha256 OF THE DUMP (.gsa) THAT YtgnkidmljcpheabProg.lean LOADS. Nothing in Lean hashes anything: it is a label: what it is worth is what the hold of that sum in a sandbox is worth. -/
noncomputable def Try.pinned : Pinned := { name := "ytgnkidmljcpheab", sum := "ce97254fad254f5df970c01947e1d252ecac790aa906fb4c9067d1d387d41aa2", checked := Try.checked }
namespace Rows
def none {H : Type} : Left H := { results := [], args := [] }

/-- 'laws.FnUseRecentTwice': WHATEVER THE INPUT: true; the input reads as it did. -/
def fnUseRecentTwiceSpec : ChangeSpec := { name := "fnUseRecentTwice", fn := fun _ => fun
  | [d] => { results := [.lit (.bool true)], args := [d] }
  | _ => none }
def fnUseRecentTwiceRow : OpenClaim := { program := "ytgnkidmljcpheab", sum := "ce97254fad254f5df970c01947e1d252ecac790aa906fb4c9067d1d387d41aa2", func := "loop.example/cacheengine/laws.FnUseRecentTwice", spec := "fnUseRecentTwice", apart := false }
def FnUseRecentTwiceSaid : Prop := fnUseRecentTwiceRow.holds Try.pinned (OpenSpec.ofChange fnUseRecentTwiceSpec)

/-- ITS FALSE NEIGHBOUR: 'it returns false'. Refute it at one input. -/
def fnUseRecentTwiceWrong : ChangeSpec := { name := "fnUseRecentTwice", fn := fun _ => fun
  | [d] => { results := [.lit (.bool false)], args := [d] }
  | _ => none }
def FnUseRecentTwiceWrongFalsely : Prop := fnUseRecentTwiceRow.holds Try.pinned (OpenSpec.ofChange fnUseRecentTwiceWrong)

/-- 'laws.FnRunRecent': WHATEVER THE INPUT: true; the input reads as it did. -/
def fnRunRecentSpec : ChangeSpec := { name := "fnRunRecent", fn := fun _ => fun
  | [d] => { results := [.lit (.bool true)], args := [d] }
  | _ => none }
def fnRunRecentRow : OpenClaim := { program := "ytgnkidmljcpheab", sum := "ce97254fad254f5df970c01947e1d252ecac790aa906fb4c9067d1d387d41aa2", func := "loop.example/cacheengine/laws.FnRunRecent", spec := "fnRunRecent", unfollowed := true, recurses := true, apart := false }
def FnRunRecentSaid : Prop := fnRunRecentRow.holds Try.pinned (OpenSpec.ofChange fnRunRecentSpec)

/-- ITS FALSE NEIGHBOUR: 'it returns false'. Refute it at one input. -/
def fnRunRecentWrong : ChangeSpec := { name := "fnRunRecent", fn := fun _ => fun
  | [d] => { results := [.lit (.bool false)], args := [d] }
  | _ => none }
def FnRunRecentWrongFalsely : Prop := fnRunRecentRow.holds Try.pinned (OpenSpec.ofChange fnRunRecentWrong)

/-- 'laws.FnRunRecentStep': WHATEVER THE INPUT: true; the input reads as it did. -/
def fnRunRecentStepSpec : ChangeSpec := { name := "fnRunRecentStep", fn := fun _ => fun
  | [d] => { results := [.lit (.bool true)], args := [d] }
  | _ => none }
def fnRunRecentStepRow : OpenClaim := { program := "ytgnkidmljcpheab", sum := "ce97254fad254f5df970c01947e1d252ecac790aa906fb4c9067d1d387d41aa2", func := "loop.example/cacheengine/laws.FnRunRecentStep", spec := "fnRunRecentStep", unfollowed := true, recurses := true, apart := false }
def FnRunRecentStepSaid : Prop := fnRunRecentStepRow.holds Try.pinned (OpenSpec.ofChange fnRunRecentStepSpec)

/-- ITS FALSE NEIGHBOUR: 'it returns false'. Refute it at one input. -/
def fnRunRecentStepWrong : ChangeSpec := { name := "fnRunRecentStep", fn := fun _ => fun
  | [d] => { results := [.lit (.bool false)], args := [d] }
  | _ => none }
def FnRunRecentStepWrongFalsely : Prop := fnRunRecentStepRow.holds Try.pinned (OpenSpec.ofChange fnRunRecentStepWrong)

/-- 'laws.FnRunRecentMore': WHATEVER THE INPUT: true; the input reads as it did. -/
def fnRunRecentMoreSpec : ChangeSpec := { name := "fnRunRecentMore", fn := fun _ => fun
  | [d] => { results := [.lit (.bool true)], args := [d] }
  | _ => none }
def fnRunRecentMoreRow : OpenClaim := { program := "ytgnkidmljcpheab", sum := "ce97254fad254f5df970c01947e1d252ecac790aa906fb4c9067d1d387d41aa2", func := "loop.example/cacheengine/laws.FnRunRecentMore", spec := "fnRunRecentMore", unfollowed := true, recurses := true, apart := false }
def FnRunRecentMoreSaid : Prop := fnRunRecentMoreRow.holds Try.pinned (OpenSpec.ofChange fnRunRecentMoreSpec)

/-- ITS FALSE NEIGHBOUR: 'it returns false'. Refute it at one input. -/
def fnRunRecentMoreWrong : ChangeSpec := { name := "fnRunRecentMore", fn := fun _ => fun
  | [d] => { results := [.lit (.bool false)], args := [d] }
  | _ => none }
def FnRunRecentMoreWrongFalsely : Prop := fnRunRecentMoreRow.holds Try.pinned (OpenSpec.ofChange fnRunRecentMoreWrong)

/-- 'laws.FnUseFirst': WHATEVER THE INPUT: true; the input reads as it did. -/
def fnUseFirstSpec : ChangeSpec := { name := "fnUseFirst", fn := fun _ => fun
  | [d] => { results := [.lit (.bool true)], args := [d] }
  | _ => none }
def fnUseFirstRow : OpenClaim := { program := "ytgnkidmljcpheab", sum := "ce97254fad254f5df970c01947e1d252ecac790aa906fb4c9067d1d387d41aa2", func := "loop.example/cacheengine/laws.FnUseFirst", spec := "fnUseFirst", apart := false }
def FnUseFirstSaid : Prop := fnUseFirstRow.holds Try.pinned (OpenSpec.ofChange fnUseFirstSpec)

/-- ITS FALSE NEIGHBOUR: 'it returns false'. Refute it at one input. -/
def fnUseFirstWrong : ChangeSpec := { name := "fnUseFirst", fn := fun _ => fun
  | [d] => { results := [.lit (.bool false)], args := [d] }
  | _ => none }
def FnUseFirstWrongFalsely : Prop := fnUseFirstRow.holds Try.pinned (OpenSpec.ofChange fnUseFirstWrong)

/-- 'laws.FnUseFirstTwice': WHATEVER THE INPUT: true; the input reads as it did. -/
def fnUseFirstTwiceSpec : ChangeSpec := { name := "fnUseFirstTwice", fn := fun _ => fun
  | [d] => { results := [.lit (.bool true)], args := [d] }
  | _ => none }
def fnUseFirstTwiceRow : OpenClaim := { program := "ytgnkidmljcpheab", sum := "ce97254fad254f5df970c01947e1d252ecac790aa906fb4c9067d1d387d41aa2", func := "loop.example/cacheengine/laws.FnUseFirstTwice", spec := "fnUseFirstTwice", apart := false }
def FnUseFirstTwiceSaid : Prop := fnUseFirstTwiceRow.holds Try.pinned (OpenSpec.ofChange fnUseFirstTwiceSpec)

/-- ITS FALSE NEIGHBOUR: 'it returns false'. Refute it at one input. -/
def fnUseFirstTwiceWrong : ChangeSpec := { name := "fnUseFirstTwice", fn := fun _ => fun
  | [d] => { results := [.lit (.bool false)], args := [d] }
  | _ => none }
def FnUseFirstTwiceWrongFalsely : Prop := fnUseFirstTwiceRow.holds Try.pinned (OpenSpec.ofChange fnUseFirstTwiceWrong)

/-- 'laws.FnRunFirst': WHATEVER THE INPUT: true; the input reads as it did. -/
def fnRunFirstSpec : ChangeSpec := { name := "fnRunFirst", fn := fun _ => fun
  | [d] => { results := [.lit (.bool true)], args := [d] }
  | _ => none }
def fnRunFirstRow : OpenClaim := { program := "ytgnkidmljcpheab", sum := "ce97254fad254f5df970c01947e1d252ecac790aa906fb4c9067d1d387d41aa2", func := "loop.example/cacheengine/laws.FnRunFirst", spec := "fnRunFirst", unfollowed := true, recurses := true, apart := false }
def FnRunFirstSaid : Prop := fnRunFirstRow.holds Try.pinned (OpenSpec.ofChange fnRunFirstSpec)

/-- ITS FALSE NEIGHBOUR: 'it returns false'. Refute it at one input. -/
def fnRunFirstWrong : ChangeSpec := { name := "fnRunFirst", fn := fun _ => fun
  | [d] => { results := [.lit (.bool false)], args := [d] }
  | _ => none }
def FnRunFirstWrongFalsely : Prop := fnRunFirstRow.holds Try.pinned (OpenSpec.ofChange fnRunFirstWrong)

/-- 'laws.FnCellOfSpread': WHATEVER THE INPUT: true; the input reads as it did. -/
def fnCellOfSpreadSpec : ChangeSpec := { name := "fnCellOfSpread", fn := fun _ => fun
  | [d] => { results := [.lit (.bool true)], args := [d] }
  | _ => none }
def fnCellOfSpreadRow : OpenClaim := { program := "ytgnkidmljcpheab", sum := "ce97254fad254f5df970c01947e1d252ecac790aa906fb4c9067d1d387d41aa2", func := "loop.example/cacheengine/laws.FnCellOfSpread", spec := "fnCellOfSpread", apart := false }
def FnCellOfSpreadSaid : Prop := fnCellOfSpreadRow.holds Try.pinned (OpenSpec.ofChange fnCellOfSpreadSpec)

/-- ITS FALSE NEIGHBOUR: 'it returns false'. Refute it at one input. -/
def fnCellOfSpreadWrong : ChangeSpec := { name := "fnCellOfSpread", fn := fun _ => fun
  | [d] => { results := [.lit (.bool false)], args := [d] }
  | _ => none }
def FnCellOfSpreadWrongFalsely : Prop := fnCellOfSpreadRow.holds Try.pinned (OpenSpec.ofChange fnCellOfSpreadWrong)

/-- 'laws.FnCountOfEmpty': WHATEVER THE INPUT: true; the input reads as it did. -/
def fnCountOfEmptySpec : ChangeSpec := { name := "fnCountOfEmpty", fn := fun _ => fun
  | [d] => { results := [.lit (.bool true)], args := [d] }
  | _ => none }
def fnCountOfEmptyRow : OpenClaim := { program := "ytgnkidmljcpheab", sum := "ce97254fad254f5df970c01947e1d252ecac790aa906fb4c9067d1d387d41aa2", func := "loop.example/cacheengine/laws.FnCountOfEmpty", spec := "fnCountOfEmpty", apart := false }
def FnCountOfEmptySaid : Prop := fnCountOfEmptyRow.holds Try.pinned (OpenSpec.ofChange fnCountOfEmptySpec)

/-- ITS FALSE NEIGHBOUR: 'it returns false'. Refute it at one input. -/
def fnCountOfEmptyWrong : ChangeSpec := { name := "fnCountOfEmpty", fn := fun _ => fun
  | [d] => { results := [.lit (.bool false)], args := [d] }
  | _ => none }
def FnCountOfEmptyWrongFalsely : Prop := fnCountOfEmptyRow.holds Try.pinned (OpenSpec.ofChange fnCountOfEmptyWrong)

/-- 'laws.FnAddKeyMany': WHATEVER THE INPUT: true; the input reads as it did. -/
def fnAddKeyManySpec : ChangeSpec := { name := "fnAddKeyMany", fn := fun _ => fun
  | [d] => { results := [.lit (.bool true)], args := [d] }
  | _ => none }
def fnAddKeyManyRow : OpenClaim := { program := "ytgnkidmljcpheab", sum := "ce97254fad254f5df970c01947e1d252ecac790aa906fb4c9067d1d387d41aa2", func := "loop.example/cacheengine/laws.FnAddKeyMany", spec := "fnAddKeyMany", apart := false }
def FnAddKeyManySaid : Prop := fnAddKeyManyRow.holds Try.pinned (OpenSpec.ofChange fnAddKeyManySpec)

/-- ITS FALSE NEIGHBOUR: 'it returns false'. Refute it at one input. -/
def fnAddKeyManyWrong : ChangeSpec := { name := "fnAddKeyMany", fn := fun _ => fun
  | [d] => { results := [.lit (.bool false)], args := [d] }
  | _ => none }
def FnAddKeyManyWrongFalsely : Prop := fnAddKeyManyRow.holds Try.pinned (OpenSpec.ofChange fnAddKeyManyWrong)

/-- 'laws.FnHalveSketchTwice': WHATEVER THE INPUT: true; the input reads as it did. -/
def fnHalveSketchTwiceSpec : ChangeSpec := { name := "fnHalveSketchTwice", fn := fun _ => fun
  | [d] => { results := [.lit (.bool true)], args := [d] }
  | _ => none }
def fnHalveSketchTwiceRow : OpenClaim := { program := "ytgnkidmljcpheab", sum := "ce97254fad254f5df970c01947e1d252ecac790aa906fb4c9067d1d387d41aa2", func := "loop.example/cacheengine/laws.FnHalveSketchTwice", spec := "fnHalveSketchTwice", apart := false }
def FnHalveSketchTwiceSaid : Prop := fnHalveSketchTwiceRow.holds Try.pinned (OpenSpec.ofChange fnHalveSketchTwiceSpec)

/-- ITS FALSE NEIGHBOUR: 'it returns false'. Refute it at one input. -/
def fnHalveSketchTwiceWrong : ChangeSpec := { name := "fnHalveSketchTwice", fn := fun _ => fun
  | [d] => { results := [.lit (.bool false)], args := [d] }
  | _ => none }
def FnHalveSketchTwiceWrongFalsely : Prop := fnHalveSketchTwiceRow.holds Try.pinned (OpenSpec.ofChange fnHalveSketchTwiceWrong)

/-- 'laws.FnUseRecentHit': WHATEVER THE INPUT: true; the input reads as it did. -/
def fnUseRecentHitSpec : ChangeSpec := { name := "fnUseRecentHit", fn := fun _ => fun
  | [d] => { results := [.lit (.bool true)], args := [d] }
  | _ => none }
def fnUseRecentHitRow : OpenClaim := { program := "ytgnkidmljcpheab", sum := "ce97254fad254f5df970c01947e1d252ecac790aa906fb4c9067d1d387d41aa2", func := "loop.example/cacheengine/laws.FnUseRecentHit", spec := "fnUseRecentHit", apart := false }
def FnUseRecentHitSaid : Prop := fnUseRecentHitRow.holds Try.pinned (OpenSpec.ofChange fnUseRecentHitSpec)

/-- ITS FALSE NEIGHBOUR: 'it returns false'. Refute it at one input. -/
def fnUseRecentHitWrong : ChangeSpec := { name := "fnUseRecentHit", fn := fun _ => fun
  | [d] => { results := [.lit (.bool false)], args := [d] }
  | _ => none }
def FnUseRecentHitWrongFalsely : Prop := fnUseRecentHitRow.holds Try.pinned (OpenSpec.ofChange fnUseRecentHitWrong)

/- THE SECOND FORM. 'bulk': how many values and letters a reading holds, each counted each time it is reached (what is shared counts as often as it is met; a slice's spare places count too). A statement '..UptoSaid' is the law's where the arguments, and the package variables that the reading takes, are together of bulk at most 1048576: NARROWER than '..Said'. Prove '..Said' where nothing that the law and all that it calls make is longer than what came in: it says more and counts as full. Else prove '..UptoSaid'. A law counts once. -/
mutual
def uptoBulk {H : Type} : DataW H → Nat
  | .lit (.string bytes) => bytes.length + 1
  | .lit _ => 1
  | .nil => 1
  | .ptr d => uptoBulk d + 1
  | .slice elems spare => uptoBulkAll elems + uptoBulkAll spare + 1
  | .agg parts => uptoBulkAll parts + 1
  | .iface _ d => uptoBulk d + 1
  | .map entries => uptoBulkEntries entries + 1
  | .held _ => 1
def uptoBulkAll {H : Type} : List (DataW H) → Nat
  | [] => 0
  | d :: r => uptoBulk d + uptoBulkAll r
def uptoBulkEntries {H : Type} : List (Lit × DataW H) → Nat
  | [] => 0
  | x :: r => uptoBulkEntry x + uptoBulkEntries r
def uptoBulkEntry {H : Type} : Lit × DataW H → Nat
  | (.string bytes, d) => bytes.length + uptoBulk d + 1
  | (_, d) => uptoBulk d + 1
 end
def uptoSmall : (H : Type) → List (DataW H) → Bool := fun _ ds => decide (uptoBulkAll ds ≤ 1048576)
def OpenSpec.upto (s : _root_.Go.ChangeSpec) : _root_.Go.OpenSpec := { _root_.Go.OpenSpec.ofChange s with cond := some uptoSmall }

/-- 'laws.FnUseRecentTwice', WHERE WHAT IT READS IS OF BULK AT MOST 1048576: true; the input reads as it did. -/
def fnUseRecentTwiceUptoRow : OpenClaim := { program := "ytgnkidmljcpheab", sum := "ce97254fad254f5df970c01947e1d252ecac790aa906fb4c9067d1d387d41aa2", func := "loop.example/cacheengine/laws.FnUseRecentTwice", spec := "fnUseRecentTwice", apart := false, narrowed := true }
def FnUseRecentTwiceUptoSaid : Prop := fnUseRecentTwiceUptoRow.holds Try.pinned (OpenSpec.upto fnUseRecentTwiceSpec)

/-- 'laws.FnRunRecent', WHERE WHAT IT READS IS OF BULK AT MOST 1048576: true; the input reads as it did. -/
def fnRunRecentUptoRow : OpenClaim := { program := "ytgnkidmljcpheab", sum := "ce97254fad254f5df970c01947e1d252ecac790aa906fb4c9067d1d387d41aa2", func := "loop.example/cacheengine/laws.FnRunRecent", spec := "fnRunRecent", unfollowed := true, recurses := true, apart := false, narrowed := true }
def FnRunRecentUptoSaid : Prop := fnRunRecentUptoRow.holds Try.pinned (OpenSpec.upto fnRunRecentSpec)

/-- 'laws.FnRunRecentStep', WHERE WHAT IT READS IS OF BULK AT MOST 1048576: true; the input reads as it did. -/
def fnRunRecentStepUptoRow : OpenClaim := { program := "ytgnkidmljcpheab", sum := "ce97254fad254f5df970c01947e1d252ecac790aa906fb4c9067d1d387d41aa2", func := "loop.example/cacheengine/laws.FnRunRecentStep", spec := "fnRunRecentStep", unfollowed := true, recurses := true, apart := false, narrowed := true }
def FnRunRecentStepUptoSaid : Prop := fnRunRecentStepUptoRow.holds Try.pinned (OpenSpec.upto fnRunRecentStepSpec)

/-- 'laws.FnRunRecentMore', WHERE WHAT IT READS IS OF BULK AT MOST 1048576: true; the input reads as it did. -/
def fnRunRecentMoreUptoRow : OpenClaim := { program := "ytgnkidmljcpheab", sum := "ce97254fad254f5df970c01947e1d252ecac790aa906fb4c9067d1d387d41aa2", func := "loop.example/cacheengine/laws.FnRunRecentMore", spec := "fnRunRecentMore", unfollowed := true, recurses := true, apart := false, narrowed := true }
def FnRunRecentMoreUptoSaid : Prop := fnRunRecentMoreUptoRow.holds Try.pinned (OpenSpec.upto fnRunRecentMoreSpec)

/-- 'laws.FnUseFirst', WHERE WHAT IT READS IS OF BULK AT MOST 1048576: true; the input reads as it did. -/
def fnUseFirstUptoRow : OpenClaim := { program := "ytgnkidmljcpheab", sum := "ce97254fad254f5df970c01947e1d252ecac790aa906fb4c9067d1d387d41aa2", func := "loop.example/cacheengine/laws.FnUseFirst", spec := "fnUseFirst", apart := false, narrowed := true }
def FnUseFirstUptoSaid : Prop := fnUseFirstUptoRow.holds Try.pinned (OpenSpec.upto fnUseFirstSpec)

/-- 'laws.FnUseFirstTwice', WHERE WHAT IT READS IS OF BULK AT MOST 1048576: true; the input reads as it did. -/
def fnUseFirstTwiceUptoRow : OpenClaim := { program := "ytgnkidmljcpheab", sum := "ce97254fad254f5df970c01947e1d252ecac790aa906fb4c9067d1d387d41aa2", func := "loop.example/cacheengine/laws.FnUseFirstTwice", spec := "fnUseFirstTwice", apart := false, narrowed := true }
def FnUseFirstTwiceUptoSaid : Prop := fnUseFirstTwiceUptoRow.holds Try.pinned (OpenSpec.upto fnUseFirstTwiceSpec)

/-- 'laws.FnRunFirst', WHERE WHAT IT READS IS OF BULK AT MOST 1048576: true; the input reads as it did. -/
def fnRunFirstUptoRow : OpenClaim := { program := "ytgnkidmljcpheab", sum := "ce97254fad254f5df970c01947e1d252ecac790aa906fb4c9067d1d387d41aa2", func := "loop.example/cacheengine/laws.FnRunFirst", spec := "fnRunFirst", unfollowed := true, recurses := true, apart := false, narrowed := true }
def FnRunFirstUptoSaid : Prop := fnRunFirstUptoRow.holds Try.pinned (OpenSpec.upto fnRunFirstSpec)

/-- 'laws.FnCellOfSpread', WHERE WHAT IT READS IS OF BULK AT MOST 1048576: true; the input reads as it did. -/
def fnCellOfSpreadUptoRow : OpenClaim := { program := "ytgnkidmljcpheab", sum := "ce97254fad254f5df970c01947e1d252ecac790aa906fb4c9067d1d387d41aa2", func := "loop.example/cacheengine/laws.FnCellOfSpread", spec := "fnCellOfSpread", apart := false, narrowed := true }
def FnCellOfSpreadUptoSaid : Prop := fnCellOfSpreadUptoRow.holds Try.pinned (OpenSpec.upto fnCellOfSpreadSpec)

/-- 'laws.FnCountOfEmpty', WHERE WHAT IT READS IS OF BULK AT MOST 1048576: true; the input reads as it did. -/
def fnCountOfEmptyUptoRow : OpenClaim := { program := "ytgnkidmljcpheab", sum := "ce97254fad254f5df970c01947e1d252ecac790aa906fb4c9067d1d387d41aa2", func := "loop.example/cacheengine/laws.FnCountOfEmpty", spec := "fnCountOfEmpty", apart := false, narrowed := true }
def FnCountOfEmptyUptoSaid : Prop := fnCountOfEmptyUptoRow.holds Try.pinned (OpenSpec.upto fnCountOfEmptySpec)

/-- 'laws.FnAddKeyMany', WHERE WHAT IT READS IS OF BULK AT MOST 1048576: true; the input reads as it did. -/
def fnAddKeyManyUptoRow : OpenClaim := { program := "ytgnkidmljcpheab", sum := "ce97254fad254f5df970c01947e1d252ecac790aa906fb4c9067d1d387d41aa2", func := "loop.example/cacheengine/laws.FnAddKeyMany", spec := "fnAddKeyMany", apart := false, narrowed := true }
def FnAddKeyManyUptoSaid : Prop := fnAddKeyManyUptoRow.holds Try.pinned (OpenSpec.upto fnAddKeyManySpec)

/-- 'laws.FnHalveSketchTwice', WHERE WHAT IT READS IS OF BULK AT MOST 1048576: true; the input reads as it did. -/
def fnHalveSketchTwiceUptoRow : OpenClaim := { program := "ytgnkidmljcpheab", sum := "ce97254fad254f5df970c01947e1d252ecac790aa906fb4c9067d1d387d41aa2", func := "loop.example/cacheengine/laws.FnHalveSketchTwice", spec := "fnHalveSketchTwice", apart := false, narrowed := true }
def FnHalveSketchTwiceUptoSaid : Prop := fnHalveSketchTwiceUptoRow.holds Try.pinned (OpenSpec.upto fnHalveSketchTwiceSpec)

/-- 'laws.FnUseRecentHit', WHERE WHAT IT READS IS OF BULK AT MOST 1048576: true; the input reads as it did. -/
def fnUseRecentHitUptoRow : OpenClaim := { program := "ytgnkidmljcpheab", sum := "ce97254fad254f5df970c01947e1d252ecac790aa906fb4c9067d1d387d41aa2", func := "loop.example/cacheengine/laws.FnUseRecentHit", spec := "fnUseRecentHit", apart := false, narrowed := true }
def FnUseRecentHitUptoSaid : Prop := fnUseRecentHitUptoRow.holds Try.pinned (OpenSpec.upto fnUseRecentHitSpec)

end Rows
end Go.Proofs.Ytgnkidmljcpheab
