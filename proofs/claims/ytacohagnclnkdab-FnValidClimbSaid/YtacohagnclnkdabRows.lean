/-
  No cell of these rows narrows 'for every input' (looked for: loops, veiled, ifaces, maps, wideKeys, modest, calm, conditions, laid).
  DERIVED. THE GIVEN ROWS OF THIS SEAT. 10 by the template 'for every input the law returns true; each argument reads behind the call as it read before'; 0 by the template 'total and deterministic' (their statements: YtacohagnclnkdabTotals.lean).
  GIVEN WITH THE SEED: the statements are not yours to turn. If you find one false, say at which input.
  Laid BY PROGRAM, IN A SANDBOX (cutbox-rows.mjs): the forced cells as the released guide's own fill.sh prints them over the translation 00979d9e6a3c4f8a… (all of the seat's roots in one cut). By AI agents, Wed Nov 11 2026. No macro, syntax, notation, axiom, sorry.
-/
import Derived.Test.YtacohagnclnkdabChecked
import GoSem.Claim
import GoSem.ClaimJoined
import GoSem.ClaimMapViews
import Derived.JoinedTies
import Derived.KernelRfl
namespace Go.Proofs.Ytacohagnclnkdab
/- THE CELL 'sum', in the pinned program and in every row, IS THE sha256 OF THE DUMP (.gsa) THAT YtacohagnclnkdabProg.lean LOADS. Nothing in Lean hashes anything: it is a label: what it is worth is what the hold of that sum in a sandbox is worth. -/
noncomputable def Try.pinned : Pinned := { name := "ytacohagnclnkdab", sum := "00979d9e6a3c4f8aa3f54909ce2e71ad94b44b57b06982ccfb47d6383f6508a9", checked := Try.checked }
namespace Rows
def none {H : Type} : Left H := { results := [], args := [] }

/-- 'laws.FnRatioOf': WHATEVER THE INPUT: true; the input reads as it did. -/
def fnRatioOfSpec : ChangeSpec := { name := "fnRatioOf", fn := fun _ => fun
  | [d] => { results := [.lit (.bool true)], args := [d] }
  | _ => none }
def fnRatioOfRow : OpenClaim := { program := "ytacohagnclnkdab", sum := "00979d9e6a3c4f8aa3f54909ce2e71ad94b44b57b06982ccfb47d6383f6508a9", func := "loop.example/cacheengine/laws.FnRatioOf", spec := "fnRatioOf", apart := false }
def FnRatioOfSaid : Prop := fnRatioOfRow.holds Try.pinned (OpenSpec.ofChange fnRatioOfSpec)

/-- ITS FALSE NEIGHBOUR: 'it returns false'. Refute it at one input. -/
def fnRatioOfWrong : ChangeSpec := { name := "fnRatioOf", fn := fun _ => fun
  | [d] => { results := [.lit (.bool false)], args := [d] }
  | _ => none }
def FnRatioOfWrongFalsely : Prop := fnRatioOfRow.holds Try.pinned (OpenSpec.ofChange fnRatioOfWrong)

/-- 'laws.FnRatioOfMiss': WHATEVER THE INPUT: true; the input reads as it did. -/
def fnRatioOfMissSpec : ChangeSpec := { name := "fnRatioOfMiss", fn := fun _ => fun
  | [d] => { results := [.lit (.bool true)], args := [d] }
  | _ => none }
def fnRatioOfMissRow : OpenClaim := { program := "ytacohagnclnkdab", sum := "00979d9e6a3c4f8aa3f54909ce2e71ad94b44b57b06982ccfb47d6383f6508a9", func := "loop.example/cacheengine/laws.FnRatioOfMiss", spec := "fnRatioOfMiss", apart := false }
def FnRatioOfMissSaid : Prop := fnRatioOfMissRow.holds Try.pinned (OpenSpec.ofChange fnRatioOfMissSpec)

/-- ITS FALSE NEIGHBOUR: 'it returns false'. Refute it at one input. -/
def fnRatioOfMissWrong : ChangeSpec := { name := "fnRatioOfMiss", fn := fun _ => fun
  | [d] => { results := [.lit (.bool false)], args := [d] }
  | _ => none }
def FnRatioOfMissWrongFalsely : Prop := fnRatioOfMissRow.holds Try.pinned (OpenSpec.ofChange fnRatioOfMissWrong)

/-- 'laws.FnSmoothRatio': WHATEVER THE INPUT: true; the input reads as it did. -/
def fnSmoothRatioSpec : ChangeSpec := { name := "fnSmoothRatio", fn := fun _ => fun
  | [d] => { results := [.lit (.bool true)], args := [d] }
  | _ => none }
def fnSmoothRatioRow : OpenClaim := { program := "ytacohagnclnkdab", sum := "00979d9e6a3c4f8aa3f54909ce2e71ad94b44b57b06982ccfb47d6383f6508a9", func := "loop.example/cacheengine/laws.FnSmoothRatio", spec := "fnSmoothRatio", apart := false }
def FnSmoothRatioSaid : Prop := fnSmoothRatioRow.holds Try.pinned (OpenSpec.ofChange fnSmoothRatioSpec)

/-- ITS FALSE NEIGHBOUR: 'it returns false'. Refute it at one input. -/
def fnSmoothRatioWrong : ChangeSpec := { name := "fnSmoothRatio", fn := fun _ => fun
  | [d] => { results := [.lit (.bool false)], args := [d] }
  | _ => none }
def FnSmoothRatioWrongFalsely : Prop := fnSmoothRatioRow.holds Try.pinned (OpenSpec.ofChange fnSmoothRatioWrong)

/-- 'laws.FnSmoothRatioTurn': WHATEVER THE INPUT: true; the input reads as it did. -/
def fnSmoothRatioTurnSpec : ChangeSpec := { name := "fnSmoothRatioTurn", fn := fun _ => fun
  | [d] => { results := [.lit (.bool true)], args := [d] }
  | _ => none }
def fnSmoothRatioTurnRow : OpenClaim := { program := "ytacohagnclnkdab", sum := "00979d9e6a3c4f8aa3f54909ce2e71ad94b44b57b06982ccfb47d6383f6508a9", func := "loop.example/cacheengine/laws.FnSmoothRatioTurn", spec := "fnSmoothRatioTurn", apart := false }
def FnSmoothRatioTurnSaid : Prop := fnSmoothRatioTurnRow.holds Try.pinned (OpenSpec.ofChange fnSmoothRatioTurnSpec)

/-- ITS FALSE NEIGHBOUR: 'it returns false'. Refute it at one input. -/
def fnSmoothRatioTurnWrong : ChangeSpec := { name := "fnSmoothRatioTurn", fn := fun _ => fun
  | [d] => { results := [.lit (.bool false)], args := [d] }
  | _ => none }
def FnSmoothRatioTurnWrongFalsely : Prop := fnSmoothRatioTurnRow.holds Try.pinned (OpenSpec.ofChange fnSmoothRatioTurnWrong)

/-- 'laws.FnValidClimb': WHATEVER THE INPUT: true; the input reads as it did. -/
def fnValidClimbSpec : ChangeSpec := { name := "fnValidClimb", fn := fun _ => fun
  | [d] => { results := [.lit (.bool true)], args := [d] }
  | _ => none }
def fnValidClimbRow : OpenClaim := { program := "ytacohagnclnkdab", sum := "00979d9e6a3c4f8aa3f54909ce2e71ad94b44b57b06982ccfb47d6383f6508a9", func := "loop.example/cacheengine/laws.FnValidClimb", spec := "fnValidClimb", apart := false }
def FnValidClimbSaid : Prop := fnValidClimbRow.holds Try.pinned (OpenSpec.ofChange fnValidClimbSpec)

/-- ITS FALSE NEIGHBOUR: 'it returns false'. Refute it at one input. -/
def fnValidClimbWrong : ChangeSpec := { name := "fnValidClimb", fn := fun _ => fun
  | [d] => { results := [.lit (.bool false)], args := [d] }
  | _ => none }
def FnValidClimbWrongFalsely : Prop := fnValidClimbRow.holds Try.pinned (OpenSpec.ofChange fnValidClimbWrong)

/-- 'laws.FnNextClimb': WHATEVER THE INPUT: true; the input reads as it did. -/
def fnNextClimbSpec : ChangeSpec := { name := "fnNextClimb", fn := fun _ => fun
  | [d] => { results := [.lit (.bool true)], args := [d] }
  | _ => none }
def fnNextClimbRow : OpenClaim := { program := "ytacohagnclnkdab", sum := "00979d9e6a3c4f8aa3f54909ce2e71ad94b44b57b06982ccfb47d6383f6508a9", func := "loop.example/cacheengine/laws.FnNextClimb", spec := "fnNextClimb", apart := false }
def FnNextClimbSaid : Prop := fnNextClimbRow.holds Try.pinned (OpenSpec.ofChange fnNextClimbSpec)

/-- ITS FALSE NEIGHBOUR: 'it returns false'. Refute it at one input. -/
def fnNextClimbWrong : ChangeSpec := { name := "fnNextClimb", fn := fun _ => fun
  | [d] => { results := [.lit (.bool false)], args := [d] }
  | _ => none }
def FnNextClimbWrongFalsely : Prop := fnNextClimbRow.holds Try.pinned (OpenSpec.ofChange fnNextClimbWrong)

/-- 'laws.FnNextClimbAt': WHATEVER THE INPUT: true; the input reads as it did. -/
def fnNextClimbAtSpec : ChangeSpec := { name := "fnNextClimbAt", fn := fun _ => fun
  | [d] => { results := [.lit (.bool true)], args := [d] }
  | _ => none }
def fnNextClimbAtRow : OpenClaim := { program := "ytacohagnclnkdab", sum := "00979d9e6a3c4f8aa3f54909ce2e71ad94b44b57b06982ccfb47d6383f6508a9", func := "loop.example/cacheengine/laws.FnNextClimbAt", spec := "fnNextClimbAt", apart := false }
def FnNextClimbAtSaid : Prop := fnNextClimbAtRow.holds Try.pinned (OpenSpec.ofChange fnNextClimbAtSpec)

/-- ITS FALSE NEIGHBOUR: 'it returns false'. Refute it at one input. -/
def fnNextClimbAtWrong : ChangeSpec := { name := "fnNextClimbAt", fn := fun _ => fun
  | [d] => { results := [.lit (.bool false)], args := [d] }
  | _ => none }
def FnNextClimbAtWrongFalsely : Prop := fnNextClimbAtRow.holds Try.pinned (OpenSpec.ofChange fnNextClimbAtWrong)

/-- 'laws.FnBestSplit': WHATEVER THE INPUT: true; the input reads as it did. -/
def fnBestSplitSpec : ChangeSpec := { name := "fnBestSplit", fn := fun _ => fun
  | [d] => { results := [.lit (.bool true)], args := [d] }
  | _ => none }
def fnBestSplitRow : OpenClaim := { program := "ytacohagnclnkdab", sum := "00979d9e6a3c4f8aa3f54909ce2e71ad94b44b57b06982ccfb47d6383f6508a9", func := "loop.example/cacheengine/laws.FnBestSplit", spec := "fnBestSplit", unfollowed := true, recurses := true, apart := false }
def FnBestSplitSaid : Prop := fnBestSplitRow.holds Try.pinned (OpenSpec.ofChange fnBestSplitSpec)

/-- ITS FALSE NEIGHBOUR: 'it returns false'. Refute it at one input. -/
def fnBestSplitWrong : ChangeSpec := { name := "fnBestSplit", fn := fun _ => fun
  | [d] => { results := [.lit (.bool false)], args := [d] }
  | _ => none }
def FnBestSplitWrongFalsely : Prop := fnBestSplitRow.holds Try.pinned (OpenSpec.ofChange fnBestSplitWrong)

/-- 'laws.FnReadKeyTwice': WHATEVER THE INPUT: true; the input reads as it did. -/
def fnReadKeyTwiceSpec : ChangeSpec := { name := "fnReadKeyTwice", fn := fun _ => fun
  | [d] => { results := [.lit (.bool true)], args := [d] }
  | _ => none }
def fnReadKeyTwiceRow : OpenClaim := { program := "ytacohagnclnkdab", sum := "00979d9e6a3c4f8aa3f54909ce2e71ad94b44b57b06982ccfb47d6383f6508a9", func := "loop.example/cacheengine/laws.FnReadKeyTwice", spec := "fnReadKeyTwice", apart := false }
def FnReadKeyTwiceSaid : Prop := fnReadKeyTwiceRow.holds Try.pinned (OpenSpec.ofChange fnReadKeyTwiceSpec)

/-- ITS FALSE NEIGHBOUR: 'it returns false'. Refute it at one input. -/
def fnReadKeyTwiceWrong : ChangeSpec := { name := "fnReadKeyTwice", fn := fun _ => fun
  | [d] => { results := [.lit (.bool false)], args := [d] }
  | _ => none }
def FnReadKeyTwiceWrongFalsely : Prop := fnReadKeyTwiceRow.holds Try.pinned (OpenSpec.ofChange fnReadKeyTwiceWrong)

/-- 'laws.FnFlushMemoryWrite': WHATEVER THE INPUT: true; the input reads as it did. -/
def fnFlushMemoryWriteSpec : ChangeSpec := { name := "fnFlushMemoryWrite", fn := fun _ => fun
  | [d] => { results := [.lit (.bool true)], args := [d] }
  | _ => none }
def fnFlushMemoryWriteRow : OpenClaim := { program := "ytacohagnclnkdab", sum := "00979d9e6a3c4f8aa3f54909ce2e71ad94b44b57b06982ccfb47d6383f6508a9", func := "loop.example/cacheengine/laws.FnFlushMemoryWrite", spec := "fnFlushMemoryWrite", apart := false }
def FnFlushMemoryWriteSaid : Prop := fnFlushMemoryWriteRow.holds Try.pinned (OpenSpec.ofChange fnFlushMemoryWriteSpec)

/-- ITS FALSE NEIGHBOUR: 'it returns false'. Refute it at one input. -/
def fnFlushMemoryWriteWrong : ChangeSpec := { name := "fnFlushMemoryWrite", fn := fun _ => fun
  | [d] => { results := [.lit (.bool false)], args := [d] }
  | _ => none }
def FnFlushMemoryWriteWrongFalsely : Prop := fnFlushMemoryWriteRow.holds Try.pinned (OpenSpec.ofChange fnFlushMemoryWriteWrong)

/- THE SECOND FORM. 'bulk': how many values and letters a reading holds, each counted each time it is reached (what is shared counts as often as it is met; a slice's spare places count too). A statement '..UptoSaid' is the law's where the arguments, and the package variables that the reading takes, are together of bulk at most 1048576: NARROWER than '..Said'. Prove '..Said' where nothing that the law and all that it calls make is longer than what came in: it says more and counts as full. Else prove '..UptoSaid'. A law counts once. -/
mutual
def uptoBulk {H : Type} : DataW H → Nat
  | .lit (.string bytes) => bytes.length + 1
  | .lit _ => 1
  | .nil => 1
  | .ptr d => uptoBulk d + 1
  | .slice elems spare => uptoBulkAll elems + uptoBulkAll spare + 1
  | .agg parts => uptoBulkAll parts + 1
  | .iface _ d => uptoBulk d + 1
  | .map entries => uptoBulkEntries entries + 1
  | .held _ => 1
def uptoBulkAll {H : Type} : List (DataW H) → Nat
  | [] => 0
  | d :: r => uptoBulk d + uptoBulkAll r
def uptoBulkEntries {H : Type} : List (Lit × DataW H) → Nat
  | [] => 0
  | x :: r => uptoBulkEntry x + uptoBulkEntries r
def uptoBulkEntry {H : Type} : Lit × DataW H → Nat
  | (.string bytes, d) => bytes.length + uptoBulk d + 1
  | (_, d) => uptoBulk d + 1
 end
def uptoSmall : (H : Type) → List (DataW H) → Bool := fun _ ds => decide (uptoBulkAll ds ≤ 1048576)
def OpenSpec.upto (s : _root_.Go.ChangeSpec) : _root_.Go.OpenSpec := { _root_.Go.OpenSpec.ofChange s with cond := some uptoSmall }

/-- 'laws.FnRatioOf', WHERE WHAT IT READS IS OF BULK AT MOST 1048576: true; the input reads as it did. -/
def fnRatioOfUptoRow : OpenClaim := { program := "ytacohagnclnkdab", sum := "00979d9e6a3c4f8aa3f54909ce2e71ad94b44b57b06982ccfb47d6383f6508a9", func := "loop.example/cacheengine/laws.FnRatioOf", spec := "fnRatioOf", apart := false, narrowed := true }
def FnRatioOfUptoSaid : Prop := fnRatioOfUptoRow.holds Try.pinned (OpenSpec.upto fnRatioOfSpec)

/-- 'laws.FnRatioOfMiss', WHERE WHAT IT READS IS OF BULK AT MOST 1048576: true; the input reads as it did. -/
def fnRatioOfMissUptoRow : OpenClaim := { program := "ytacohagnclnkdab", sum := "00979d9e6a3c4f8aa3f54909ce2e71ad94b44b57b06982ccfb47d6383f6508a9", func := "loop.example/cacheengine/laws.FnRatioOfMiss", spec := "fnRatioOfMiss", apart := false, narrowed := true }
def FnRatioOfMissUptoSaid : Prop := fnRatioOfMissUptoRow.holds Try.pinned (OpenSpec.upto fnRatioOfMissSpec)

/-- 'laws.FnSmoothRatio', WHERE WHAT IT READS IS OF BULK AT MOST 1048576: true; the input reads as it did. -/
def fnSmoothRatioUptoRow : OpenClaim := { program := "ytacohagnclnkdab", sum := "00979d9e6a3c4f8aa3f54909ce2e71ad94b44b57b06982ccfb47d6383f6508a9", func := "loop.example/cacheengine/laws.FnSmoothRatio", spec := "fnSmoothRatio", apart := false, narrowed := true }
def FnSmoothRatioUptoSaid : Prop := fnSmoothRatioUptoRow.holds Try.pinned (OpenSpec.upto fnSmoothRatioSpec)

/-- 'laws.FnSmoothRatioTurn', WHERE WHAT IT READS IS OF BULK AT MOST 1048576: true; the input reads as it did. -/
def fnSmoothRatioTurnUptoRow : OpenClaim := { program := "ytacohagnclnkdab", sum := "00979d9e6a3c4f8aa3f54909ce2e71ad94b44b57b06982ccfb47d6383f6508a9", func := "loop.example/cacheengine/laws.FnSmoothRatioTurn", spec := "fnSmoothRatioTurn", apart := false, narrowed := true }
def FnSmoothRatioTurnUptoSaid : Prop := fnSmoothRatioTurnUptoRow.holds Try.pinned (OpenSpec.upto fnSmoothRatioTurnSpec)

/-- 'laws.FnValidClimb', WHERE WHAT IT READS IS OF BULK AT MOST 1048576: true; the input reads as it did. -/
def fnValidClimbUptoRow : OpenClaim := { program := "ytacohagnclnkdab", sum := "00979d9e6a3c4f8aa3f54909ce2e71ad94b44b57b06982ccfb47d6383f6508a9", func := "loop.example/cacheengine/laws.FnValidClimb", spec := "fnValidClimb", apart := false, narrowed := true }
def FnValidClimbUptoSaid : Prop := fnValidClimbUptoRow.holds Try.pinned (OpenSpec.upto fnValidClimbSpec)

/-- 'laws.FnNextClimb', WHERE WHAT IT READS IS OF BULK AT MOST 1048576: true; the input reads as it did. -/
def fnNextClimbUptoRow : OpenClaim := { program := "ytacohagnclnkdab", sum := "00979d9e6a3c4f8aa3f54909ce2e71ad94b44b57b06982ccfb47d6383f6508a9", func := "loop.example/cacheengine/laws.FnNextClimb", spec := "fnNextClimb", apart := false, narrowed := true }
def FnNextClimbUptoSaid : Prop := fnNextClimbUptoRow.holds Try.pinned (OpenSpec.upto fnNextClimbSpec)

/-- 'laws.FnNextClimbAt', WHERE WHAT IT READS IS OF BULK AT MOST 1048576: true; the input reads as it did. -/
def fnNextClimbAtUptoRow : OpenClaim := { program := "ytacohagnclnkdab", sum := "00979d9e6a3c4f8aa3f54909ce2e71ad94b44b57b06982ccfb47d6383f6508a9", func := "loop.example/cacheengine/laws.FnNextClimbAt", spec := "fnNextClimbAt", apart := false, narrowed := true }
def FnNextClimbAtUptoSaid : Prop := fnNextClimbAtUptoRow.holds Try.pinned (OpenSpec.upto fnNextClimbAtSpec)

/-- 'laws.FnBestSplit', WHERE WHAT IT READS IS OF BULK AT MOST 1048576: true; the input reads as it did. -/
def fnBestSplitUptoRow : OpenClaim := { program := "ytacohagnclnkdab", sum := "00979d9e6a3c4f8aa3f54909ce2e71ad94b44b57b06982ccfb47d6383f6508a9", func := "loop.example/cacheengine/laws.FnBestSplit", spec := "fnBestSplit", unfollowed := true, recurses := true, apart := false, narrowed := true }
def FnBestSplitUptoSaid : Prop := fnBestSplitUptoRow.holds Try.pinned (OpenSpec.upto fnBestSplitSpec)

/-- 'laws.FnReadKeyTwice', WHERE WHAT IT READS IS OF BULK AT MOST 1048576: true; the input reads as it did. -/
def fnReadKeyTwiceUptoRow : OpenClaim := { program := "ytacohagnclnkdab", sum := "00979d9e6a3c4f8aa3f54909ce2e71ad94b44b57b06982ccfb47d6383f6508a9", func := "loop.example/cacheengine/laws.FnReadKeyTwice", spec := "fnReadKeyTwice", apart := false, narrowed := true }
def FnReadKeyTwiceUptoSaid : Prop := fnReadKeyTwiceUptoRow.holds Try.pinned (OpenSpec.upto fnReadKeyTwiceSpec)

/-- 'laws.FnFlushMemoryWrite', WHERE WHAT IT READS IS OF BULK AT MOST 1048576: true; the input reads as it did. -/
def fnFlushMemoryWriteUptoRow : OpenClaim := { program := "ytacohagnclnkdab", sum := "00979d9e6a3c4f8aa3f54909ce2e71ad94b44b57b06982ccfb47d6383f6508a9", func := "loop.example/cacheengine/laws.FnFlushMemoryWrite", spec := "fnFlushMemoryWrite", apart := false, narrowed := true }
def FnFlushMemoryWriteUptoSaid : Prop := fnFlushMemoryWriteUptoRow.holds Try.pinned (OpenSpec.upto fnFlushMemoryWriteSpec)

end Rows
end Go.Proofs.Ytacohagnclnkdab
