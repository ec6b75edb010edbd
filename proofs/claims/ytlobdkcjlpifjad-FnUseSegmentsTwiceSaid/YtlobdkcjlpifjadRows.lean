/-
  No cell of these rows narrows 'for every input' (looked for: loops, veiled, ifaces, maps, wideKeys, modest, calm, conditions, laid).
  DERIVED. THE GIVEN ROWS OF THIS SEAT. 12 by the template 'for every input the law returns true; each argument reads behind the call as it read before'; 0 by the template 'total and deterministic' (their statements: YtlobdkcjlpifjadTotals.lean).
  GIVEN WITH THE SEED: the statements are not yours to turn. If you find one false, say at which input.
  Laid BY PROGRAM, IN A SANDBOX (cutbox-rows.mjs): the forced cells as the released guide's own fill.sh prints them over the translation 89666e84941fc7bf… (all of the seat's roots in one cut). By AI agents, Wed Nov 11 2026. No macro, syntax, notation, axiom, sorry.
-/
import Derived.Test.YtlobdkcjlpifjadChecked
import GoSem.Claim
import GoSem.ClaimJoined
import GoSem.ClaimMapViews
import Derived.JoinedTies
import Derived.KernelRfl
namespace Go.Proofs.Ytlobdkcjlpifjad
/- THE CELL 'sum', in the pinned program and in every row, IS THE sha256 OF THE DUMP (.gsa) THAT YtlobdkcjlpifjadProg.lean LOADS. Nothing in Lean hashes anything: it is a label: what it is worth is what the hold of that sum in a sandbox is worth. -/
noncomputable def Try.pinned : Pinned := { name := "ytlobdkcjlpifjad", sum := "89666e84941fc7bf64584cfebffcfd8817f99382af8593321100ca03492dc48a", checked := Try.checked }
namespace Rows
def none {H : Type} : Left H := { results := [], args := [] }

/-- 'laws.FnExactHitCurve': WHATEVER THE INPUT: true; the input reads as it did. -/
def fnExactHitCurveSpec : ChangeSpec := { name := "fnExactHitCurve", fn := fun _ => fun
  | [d] => { results := [.lit (.bool true)], args := [d] }
  | _ => none }
def fnExactHitCurveRow : OpenClaim := { program := "ytlobdkcjlpifjad", sum := "89666e84941fc7bf64584cfebffcfd8817f99382af8593321100ca03492dc48a", func := "loop.example/cacheengine/laws.FnExactHitCurve", spec := "fnExactHitCurve", apart := false }
def FnExactHitCurveSaid : Prop := fnExactHitCurveRow.holds Try.pinned (OpenSpec.ofChange fnExactHitCurveSpec)

/-- ITS FALSE NEIGHBOUR: 'it returns false'. Refute it at one input. -/
def fnExactHitCurveWrong : ChangeSpec := { name := "fnExactHitCurve", fn := fun _ => fun
  | [d] => { results := [.lit (.bool false)], args := [d] }
  | _ => none }
def FnExactHitCurveWrongFalsely : Prop := fnExactHitCurveRow.holds Try.pinned (OpenSpec.ofChange fnExactHitCurveWrong)

/-- 'laws.FnExactRoomFor': WHATEVER THE INPUT: true; the input reads as it did. -/
def fnExactRoomForSpec : ChangeSpec := { name := "fnExactRoomFor", fn := fun _ => fun
  | [d1, d2] => { results := [.lit (.bool true)], args := [d1, d2] }
  | _ => none }
def fnExactRoomForRow : OpenClaim := { program := "ytlobdkcjlpifjad", sum := "89666e84941fc7bf64584cfebffcfd8817f99382af8593321100ca03492dc48a", func := "loop.example/cacheengine/laws.FnExactRoomFor", spec := "fnExactRoomFor", apart := false }
def FnExactRoomForSaid : Prop := fnExactRoomForRow.holds Try.pinned (OpenSpec.ofChange fnExactRoomForSpec)

/-- ITS FALSE NEIGHBOUR: 'it returns false'. Refute it at one input. -/
def fnExactRoomForWrong : ChangeSpec := { name := "fnExactRoomFor", fn := fun _ => fun
  | [d1, d2] => { results := [.lit (.bool false)], args := [d1, d2] }
  | _ => none }
def FnExactRoomForWrongFalsely : Prop := fnExactRoomForRow.holds Try.pinned (OpenSpec.ofChange fnExactRoomForWrong)

/-- 'laws.FnExactWorkingSet': WHATEVER THE INPUT: true; the input reads as it did. -/
def fnExactWorkingSetSpec : ChangeSpec := { name := "fnExactWorkingSet", fn := fun _ => fun
  | [d1, d2, d3] => { results := [.lit (.bool true)], args := [d1, d2, d3] }
  | _ => none }
def fnExactWorkingSetRow : OpenClaim := { program := "ytlobdkcjlpifjad", sum := "89666e84941fc7bf64584cfebffcfd8817f99382af8593321100ca03492dc48a", func := "loop.example/cacheengine/laws.FnExactWorkingSet", spec := "fnExactWorkingSet", apart := false }
def FnExactWorkingSetSaid : Prop := fnExactWorkingSetRow.holds Try.pinned (OpenSpec.ofChange fnExactWorkingSetSpec)

/-- ITS FALSE NEIGHBOUR: 'it returns false'. Refute it at one input. -/
def fnExactWorkingSetWrong : ChangeSpec := { name := "fnExactWorkingSet", fn := fun _ => fun
  | [d1, d2, d3] => { results := [.lit (.bool false)], args := [d1, d2, d3] }
  | _ => none }
def FnExactWorkingSetWrongFalsely : Prop := fnExactWorkingSetRow.holds Try.pinned (OpenSpec.ofChange fnExactWorkingSetWrong)

/-- 'laws.FnValidSegments': WHATEVER THE INPUT: true; the input reads as it did. -/
def fnValidSegmentsSpec : ChangeSpec := { name := "fnValidSegments", fn := fun _ => fun
  | [d] => { results := [.lit (.bool true)], args := [d] }
  | _ => none }
def fnValidSegmentsRow : OpenClaim := { program := "ytlobdkcjlpifjad", sum := "89666e84941fc7bf64584cfebffcfd8817f99382af8593321100ca03492dc48a", func := "loop.example/cacheengine/laws.FnValidSegments", spec := "fnValidSegments", apart := false }
def FnValidSegmentsSaid : Prop := fnValidSegmentsRow.holds Try.pinned (OpenSpec.ofChange fnValidSegmentsSpec)

/-- ITS FALSE NEIGHBOUR: 'it returns false'. Refute it at one input. -/
def fnValidSegmentsWrong : ChangeSpec := { name := "fnValidSegments", fn := fun _ => fun
  | [d] => { results := [.lit (.bool false)], args := [d] }
  | _ => none }
def FnValidSegmentsWrongFalsely : Prop := fnValidSegmentsRow.holds Try.pinned (OpenSpec.ofChange fnValidSegmentsWrong)

/-- 'laws.FnUseSegments': WHATEVER THE INPUT: true; the input reads as it did. -/
def fnUseSegmentsSpec : ChangeSpec := { name := "fnUseSegments", fn := fun _ => fun
  | [d] => { results := [.lit (.bool true)], args := [d] }
  | _ => none }
def fnUseSegmentsRow : OpenClaim := { program := "ytlobdkcjlpifjad", sum := "89666e84941fc7bf64584cfebffcfd8817f99382af8593321100ca03492dc48a", func := "loop.example/cacheengine/laws.FnUseSegments", spec := "fnUseSegments", apart := false }
def FnUseSegmentsSaid : Prop := fnUseSegmentsRow.holds Try.pinned (OpenSpec.ofChange fnUseSegmentsSpec)

/-- ITS FALSE NEIGHBOUR: 'it returns false'. Refute it at one input. -/
def fnUseSegmentsWrong : ChangeSpec := { name := "fnUseSegments", fn := fun _ => fun
  | [d] => { results := [.lit (.bool false)], args := [d] }
  | _ => none }
def FnUseSegmentsWrongFalsely : Prop := fnUseSegmentsRow.holds Try.pinned (OpenSpec.ofChange fnUseSegmentsWrong)

/-- 'laws.FnUseSegmentsKeep': WHATEVER THE INPUT: true; the input reads as it did. -/
def fnUseSegmentsKeepSpec : ChangeSpec := { name := "fnUseSegmentsKeep", fn := fun _ => fun
  | [d] => { results := [.lit (.bool true)], args := [d] }
  | _ => none }
def fnUseSegmentsKeepRow : OpenClaim := { program := "ytlobdkcjlpifjad", sum := "89666e84941fc7bf64584cfebffcfd8817f99382af8593321100ca03492dc48a", func := "loop.example/cacheengine/laws.FnUseSegmentsKeep", spec := "fnUseSegmentsKeep", apart := false }
def FnUseSegmentsKeepSaid : Prop := fnUseSegmentsKeepRow.holds Try.pinned (OpenSpec.ofChange fnUseSegmentsKeepSpec)

/-- ITS FALSE NEIGHBOUR: 'it returns false'. Refute it at one input. -/
def fnUseSegmentsKeepWrong : ChangeSpec := { name := "fnUseSegmentsKeep", fn := fun _ => fun
  | [d] => { results := [.lit (.bool false)], args := [d] }
  | _ => none }
def FnUseSegmentsKeepWrongFalsely : Prop := fnUseSegmentsKeepRow.holds Try.pinned (OpenSpec.ofChange fnUseSegmentsKeepWrong)

/-- 'laws.FnRunSegments': WHATEVER THE INPUT: true; the input reads as it did. -/
def fnRunSegmentsSpec : ChangeSpec := { name := "fnRunSegments", fn := fun _ => fun
  | [d] => { results := [.lit (.bool true)], args := [d] }
  | _ => none }
def fnRunSegmentsRow : OpenClaim := { program := "ytlobdkcjlpifjad", sum := "89666e84941fc7bf64584cfebffcfd8817f99382af8593321100ca03492dc48a", func := "loop.example/cacheengine/laws.FnRunSegments", spec := "fnRunSegments", unfollowed := true, recurses := true, apart := false }
def FnRunSegmentsSaid : Prop := fnRunSegmentsRow.holds Try.pinned (OpenSpec.ofChange fnRunSegmentsSpec)

/-- ITS FALSE NEIGHBOUR: 'it returns false'. Refute it at one input. -/
def fnRunSegmentsWrong : ChangeSpec := { name := "fnRunSegments", fn := fun _ => fun
  | [d] => { results := [.lit (.bool false)], args := [d] }
  | _ => none }
def FnRunSegmentsWrongFalsely : Prop := fnRunSegmentsRow.holds Try.pinned (OpenSpec.ofChange fnRunSegmentsWrong)

/-- 'laws.FnRunSegmentsScan': WHATEVER THE INPUT: true; the input reads as it did. -/
def fnRunSegmentsScanSpec : ChangeSpec := { name := "fnRunSegmentsScan", fn := fun _ => fun
  | [d] => { results := [.lit (.bool true)], args := [d] }
  | _ => none }
def fnRunSegmentsScanRow : OpenClaim := { program := "ytlobdkcjlpifjad", sum := "89666e84941fc7bf64584cfebffcfd8817f99382af8593321100ca03492dc48a", func := "loop.example/cacheengine/laws.FnRunSegmentsScan", spec := "fnRunSegmentsScan", unfollowed := true, recurses := true, apart := false }
def FnRunSegmentsScanSaid : Prop := fnRunSegmentsScanRow.holds Try.pinned (OpenSpec.ofChange fnRunSegmentsScanSpec)

/-- ITS FALSE NEIGHBOUR: 'it returns false'. Refute it at one input. -/
def fnRunSegmentsScanWrong : ChangeSpec := { name := "fnRunSegmentsScan", fn := fun _ => fun
  | [d] => { results := [.lit (.bool false)], args := [d] }
  | _ => none }
def FnRunSegmentsScanWrongFalsely : Prop := fnRunSegmentsScanRow.holds Try.pinned (OpenSpec.ofChange fnRunSegmentsScanWrong)

/-- 'laws.FnKeysOf': WHATEVER THE INPUT: true; the input reads as it did. -/
def fnKeysOfSpec : ChangeSpec := { name := "fnKeysOf", fn := fun _ => fun
  | [d] => { results := [.lit (.bool true)], args := [d] }
  | _ => none }
def fnKeysOfRow : OpenClaim := { program := "ytlobdkcjlpifjad", sum := "89666e84941fc7bf64584cfebffcfd8817f99382af8593321100ca03492dc48a", func := "loop.example/cacheengine/laws.FnKeysOf", spec := "fnKeysOf", apart := false }
def FnKeysOfSaid : Prop := fnKeysOfRow.holds Try.pinned (OpenSpec.ofChange fnKeysOfSpec)

/-- ITS FALSE NEIGHBOUR: 'it returns false'. Refute it at one input. -/
def fnKeysOfWrong : ChangeSpec := { name := "fnKeysOf", fn := fun _ => fun
  | [d] => { results := [.lit (.bool false)], args := [d] }
  | _ => none }
def FnKeysOfWrongFalsely : Prop := fnKeysOfRow.holds Try.pinned (OpenSpec.ofChange fnKeysOfWrong)

/-- 'laws.FnUseClockMark': WHATEVER THE INPUT: true; the input reads as it did. -/
def fnUseClockMarkSpec : ChangeSpec := { name := "fnUseClockMark", fn := fun _ => fun
  | [d] => { results := [.lit (.bool true)], args := [d] }
  | _ => none }
def fnUseClockMarkRow : OpenClaim := { program := "ytlobdkcjlpifjad", sum := "89666e84941fc7bf64584cfebffcfd8817f99382af8593321100ca03492dc48a", func := "loop.example/cacheengine/laws.FnUseClockMark", spec := "fnUseClockMark", apart := false }
def FnUseClockMarkSaid : Prop := fnUseClockMarkRow.holds Try.pinned (OpenSpec.ofChange fnUseClockMarkSpec)

/-- ITS FALSE NEIGHBOUR: 'it returns false'. Refute it at one input. -/
def fnUseClockMarkWrong : ChangeSpec := { name := "fnUseClockMark", fn := fun _ => fun
  | [d] => { results := [.lit (.bool false)], args := [d] }
  | _ => none }
def FnUseClockMarkWrongFalsely : Prop := fnUseClockMarkRow.holds Try.pinned (OpenSpec.ofChange fnUseClockMarkWrong)

/-- 'laws.FnUseClockAgain': WHATEVER THE INPUT: true; the input reads as it did. -/
def fnUseClockAgainSpec : ChangeSpec := { name := "fnUseClockAgain", fn := fun _ => fun
  | [d] => { results := [.lit (.bool true)], args := [d] }
  | _ => none }
def fnUseClockAgainRow : OpenClaim := { program := "ytlobdkcjlpifjad", sum := "89666e84941fc7bf64584cfebffcfd8817f99382af8593321100ca03492dc48a", func := "loop.example/cacheengine/laws.FnUseClockAgain", spec := "fnUseClockAgain", apart := false }
def FnUseClockAgainSaid : Prop := fnUseClockAgainRow.holds Try.pinned (OpenSpec.ofChange fnUseClockAgainSpec)

/-- ITS FALSE NEIGHBOUR: 'it returns false'. Refute it at one input. -/
def fnUseClockAgainWrong : ChangeSpec := { name := "fnUseClockAgain", fn := fun _ => fun
  | [d] => { results := [.lit (.bool false)], args := [d] }
  | _ => none }
def FnUseClockAgainWrongFalsely : Prop := fnUseClockAgainRow.holds Try.pinned (OpenSpec.ofChange fnUseClockAgainWrong)

/-- 'laws.FnUseSegmentsTwice': WHATEVER THE INPUT: true; the input reads as it did. -/
def fnUseSegmentsTwiceSpec : ChangeSpec := { name := "fnUseSegmentsTwice", fn := fun _ => fun
  | [d] => { results := [.lit (.bool true)], args := [d] }
  | _ => none }
def fnUseSegmentsTwiceRow : OpenClaim := { program := "ytlobdkcjlpifjad", sum := "89666e84941fc7bf64584cfebffcfd8817f99382af8593321100ca03492dc48a", func := "loop.example/cacheengine/laws.FnUseSegmentsTwice", spec := "fnUseSegmentsTwice", apart := false }
def FnUseSegmentsTwiceSaid : Prop := fnUseSegmentsTwiceRow.holds Try.pinned (OpenSpec.ofChange fnUseSegmentsTwiceSpec)

/-- ITS FALSE NEIGHBOUR: 'it returns false'. Refute it at one input. -/
def fnUseSegmentsTwiceWrong : ChangeSpec := { name := "fnUseSegmentsTwice", fn := fun _ => fun
  | [d] => { results := [.lit (.bool false)], args := [d] }
  | _ => none }
def FnUseSegmentsTwiceWrongFalsely : Prop := fnUseSegmentsTwiceRow.holds Try.pinned (OpenSpec.ofChange fnUseSegmentsTwiceWrong)

/- THE SECOND FORM. 'bulk': how many values and letters a reading holds, each counted each time it is reached (what is shared counts as often as it is met; a slice's spare places count too). A statement '..UptoSaid' is the law's where the arguments, and the package variables that the reading takes, are together of bulk at most 1048576: NARROWER than '..Said'. Prove '..Said' where nothing that the law and all that it calls make is longer than what came in: it says more and counts as full. Else prove '..UptoSaid'. A law counts once. -/
mutual
def uptoBulk {H : Type} : DataW H → Nat
  | .lit (.string bytes) => bytes.length + 1
  | .lit _ => 1
  | .nil => 1
  | .ptr d => uptoBulk d + 1
  | .slice elems spare => uptoBulkAll elems + uptoBulkAll spare + 1
  | .agg parts => uptoBulkAll parts + 1
  | .iface _ d => uptoBulk d + 1
  | .map entries => uptoBulkEntries entries + 1
  | .held _ => 1
def uptoBulkAll {H : Type} : List (DataW H) → Nat
  | [] => 0
  | d :: r => uptoBulk d + uptoBulkAll r
def uptoBulkEntries {H : Type} : List (Lit × DataW H) → Nat
  | [] => 0
  | x :: r => uptoBulkEntry x + uptoBulkEntries r
def uptoBulkEntry {H : Type} : Lit × DataW H → Nat
  | (.string bytes, d) => bytes.length + uptoBulk d + 1
  | (_, d) => uptoBulk d + 1
 end
def uptoSmall : (H : Type) → List (DataW H) → Bool := fun _ ds => decide (uptoBulkAll ds ≤ 1048576)
def OpenSpec.upto (s : _root_.Go.ChangeSpec) : _root_.Go.OpenSpec := { _root_.Go.OpenSpec.ofChange s with cond := some uptoSmall }

/-- 'laws.FnExactHitCurve', WHERE WHAT IT READS IS OF BULK AT MOST 1048576: true; the input reads as it did. -/
def fnExactHitCurveUptoRow : OpenClaim := { program := "ytlobdkcjlpifjad", sum := "89666e84941fc7bf64584cfebffcfd8817f99382af8593321100ca03492dc48a", func := "loop.example/cacheengine/laws.FnExactHitCurve", spec := "fnExactHitCurve", apart := false, narrowed := true }
def FnExactHitCurveUptoSaid : Prop := fnExactHitCurveUptoRow.holds Try.pinned (OpenSpec.upto fnExactHitCurveSpec)

/-- 'laws.FnExactRoomFor', WHERE WHAT IT READS IS OF BULK AT MOST 1048576: true; the input reads as it did. -/
def fnExactRoomForUptoRow : OpenClaim := { program := "ytlobdkcjlpifjad", sum := "89666e84941fc7bf64584cfebffcfd8817f99382af8593321100ca03492dc48a", func := "loop.example/cacheengine/laws.FnExactRoomFor", spec := "fnExactRoomFor", apart := false, narrowed := true }
def FnExactRoomForUptoSaid : Prop := fnExactRoomForUptoRow.holds Try.pinned (OpenSpec.upto fnExactRoomForSpec)

/-- 'laws.FnExactWorkingSet', WHERE WHAT IT READS IS OF BULK AT MOST 1048576: true; the input reads as it did. -/
def fnExactWorkingSetUptoRow : OpenClaim := { program := "ytlobdkcjlpifjad", sum := "89666e84941fc7bf64584cfebffcfd8817f99382af8593321100ca03492dc48a", func := "loop.example/cacheengine/laws.FnExactWorkingSet", spec := "fnExactWorkingSet", apart := false, narrowed := true }
def FnExactWorkingSetUptoSaid : Prop := fnExactWorkingSetUptoRow.holds Try.pinned (OpenSpec.upto fnExactWorkingSetSpec)

/-- 'laws.FnValidSegments', WHERE WHAT IT READS IS OF BULK AT MOST 1048576: true; the input reads as it did. -/
def fnValidSegmentsUptoRow : OpenClaim := { program := "ytlobdkcjlpifjad", sum := "89666e84941fc7bf64584cfebffcfd8817f99382af8593321100ca03492dc48a", func := "loop.example/cacheengine/laws.FnValidSegments", spec := "fnValidSegments", apart := false, narrowed := true }
def FnValidSegmentsUptoSaid : Prop := fnValidSegmentsUptoRow.holds Try.pinned (OpenSpec.upto fnValidSegmentsSpec)

/-- 'laws.FnUseSegments', WHERE WHAT IT READS IS OF BULK AT MOST 1048576: true; the input reads as it did. -/
def fnUseSegmentsUptoRow : OpenClaim := { program := "ytlobdkcjlpifjad", sum := "89666e84941fc7bf64584cfebffcfd8817f99382af8593321100ca03492dc48a", func := "loop.example/cacheengine/laws.FnUseSegments", spec := "fnUseSegments", apart := false, narrowed := true }
def FnUseSegmentsUptoSaid : Prop := fnUseSegmentsUptoRow.holds Try.pinned (OpenSpec.upto fnUseSegmentsSpec)

/-- 'laws.FnUseSegmentsKeep', WHERE WHAT IT READS IS OF BULK AT MOST 1048576: true; the input reads as it did. -/
def fnUseSegmentsKeepUptoRow : OpenClaim := { program := "ytlobdkcjlpifjad", sum := "89666e84941fc7bf64584cfebffcfd8817f99382af8593321100ca03492dc48a", func := "loop.example/cacheengine/laws.FnUseSegmentsKeep", spec := "fnUseSegmentsKeep", apart := false, narrowed := true }
def FnUseSegmentsKeepUptoSaid : Prop := fnUseSegmentsKeepUptoRow.holds Try.pinned (OpenSpec.upto fnUseSegmentsKeepSpec)

/-- 'laws.FnRunSegments', WHERE WHAT IT READS IS OF BULK AT MOST 1048576: true; the input reads as it did. -/
def fnRunSegmentsUptoRow : OpenClaim := { program := "ytlobdkcjlpifjad", sum := "89666e84941fc7bf64584cfebffcfd8817f99382af8593321100ca03492dc48a", func := "loop.example/cacheengine/laws.FnRunSegments", spec := "fnRunSegments", unfollowed := true, recurses := true, apart := false, narrowed := true }
def FnRunSegmentsUptoSaid : Prop := fnRunSegmentsUptoRow.holds Try.pinned (OpenSpec.upto fnRunSegmentsSpec)

/-- 'laws.FnRunSegmentsScan', WHERE WHAT IT READS IS OF BULK AT MOST 1048576: true; the input reads as it did. -/
def fnRunSegmentsScanUptoRow : OpenClaim := { program := "ytlobdkcjlpifjad", sum := "89666e84941fc7bf64584cfebffcfd8817f99382af8593321100ca03492dc48a", func := "loop.example/cacheengine/laws.FnRunSegmentsScan", spec := "fnRunSegmentsScan", unfollowed := true, recurses := true, apart := false, narrowed := true }
def FnRunSegmentsScanUptoSaid : Prop := fnRunSegmentsScanUptoRow.holds Try.pinned (OpenSpec.upto fnRunSegmentsScanSpec)

/-- 'laws.FnKeysOf', WHERE WHAT IT READS IS OF BULK AT MOST 1048576: true; the input reads as it did. -/
def fnKeysOfUptoRow : OpenClaim := { program := "ytlobdkcjlpifjad", sum := "89666e84941fc7bf64584cfebffcfd8817f99382af8593321100ca03492dc48a", func := "loop.example/cacheengine/laws.FnKeysOf", spec := "fnKeysOf", apart := false, narrowed := true }
def FnKeysOfUptoSaid : Prop := fnKeysOfUptoRow.holds Try.pinned (OpenSpec.upto fnKeysOfSpec)

/-- 'laws.FnUseClockMark', WHERE WHAT IT READS IS OF BULK AT MOST 1048576: true; the input reads as it did. -/
def fnUseClockMarkUptoRow : OpenClaim := { program := "ytlobdkcjlpifjad", sum := "89666e84941fc7bf64584cfebffcfd8817f99382af8593321100ca03492dc48a", func := "loop.example/cacheengine/laws.FnUseClockMark", spec := "fnUseClockMark", apart := false, narrowed := true }
def FnUseClockMarkUptoSaid : Prop := fnUseClockMarkUptoRow.holds Try.pinned (OpenSpec.upto fnUseClockMarkSpec)

/-- 'laws.FnUseClockAgain', WHERE WHAT IT READS IS OF BULK AT MOST 1048576: true; the input reads as it did. -/
def fnUseClockAgainUptoRow : OpenClaim := { program := "ytlobdkcjlpifjad", sum := "89666e84941fc7bf64584cfebffcfd8817f99382af8593321100ca03492dc48a", func := "loop.example/cacheengine/laws.FnUseClockAgain", spec := "fnUseClockAgain", apart := false, narrowed := true }
def FnUseClockAgainUptoSaid : Prop := fnUseClockAgainUptoRow.holds Try.pinned (OpenSpec.upto fnUseClockAgainSpec)

/-- 'laws.FnUseSegmentsTwice', WHERE WHAT IT READS IS OF BULK AT MOST 1048576: true; the input reads as it did. -/
def fnUseSegmentsTwiceUptoRow : OpenClaim := { program := "ytlobdkcjlpifjad", sum := "89666e84941fc7bf64584cfebffcfd8817f99382af8593321100ca03492dc48a", func := "loop.example/cacheengine/laws.FnUseSegmentsTwice", spec := "fnUseSegmentsTwice", apart := false, narrowed := true }
def FnUseSegmentsTwiceUptoSaid : Prop := fnUseSegmentsTwiceUptoRow.holds Try.pinned (OpenSpec.upto fnUseSegmentsTwiceSpec)

end Rows
end Go.Proofs.Ytlobdkcjlpifjad
