/-
  No cell of these rows narrows 'for every input' (looked for: loops, veiled, ifaces, maps, wideKeys, modest, calm, conditions, laid).
  DERIVED. THE GIVEN ROWS OF THIS SEAT. 10 by the template 'for every input the law returns true; each argument reads behind the call as it read before'; 0 by the template 'total and deterministic' (their statements: YtacohagnclnkdacTotals.lean).
  GIVEN WITH THE SEED: the statements are not yours to turn. If you find one false, say at which input.
  Laid BY PROGRAM, IN A SANDBOX (cutbox-rows.mjs): the forced cells as the released guide's own fill.sh prints them over the translation 05a1f656bfce93c9… (all of the seat's roots in one cut). By AI agents, Wed Nov 11 2026. No macro, syntax, notation, axiom, sorry.
-/
import Derived.Test.YtacohagnclnkdacChecked
import GoSem.Claim
import GoSem.ClaimJoined
import GoSem.ClaimMapViews
import Derived.JoinedTies
import Derived.KernelRfl
namespace Go.Proofs.Ytacohagnclnkdac
/- THE CELL 'sum', in the pinned program and in every row, IS THE sha256 OF THE DUMP (.gsa) THAT YtacohagnclnkdacProg.lean LOADS. Nothing in Lean hashes anything: it is a label: what it is worth is what the hold of that sum in a sandbox is worth. -/
noncomputable def Try.pinned : Pinned := { name := "ytacohagnclnkdac", sum := "05a1f656bfce93c92a3c92991b11d48a24177d5184810d5f01ef061329df627a", checked := Try.checked }
namespace Rows
def none {H : Type} : Left H := { results := [], args := [] }

/-- 'laws.FnDirtyKeysWrite': WHATEVER THE INPUT: true; the input reads as it did. -/
def fnDirtyKeysWriteSpec : ChangeSpec := { name := "fnDirtyKeysWrite", fn := fun _ => fun
  | [d] => { results := [.lit (.bool true)], args := [d] }
  | _ => none }
def fnDirtyKeysWriteRow : OpenClaim := { program := "ytacohagnclnkdac", sum := "05a1f656bfce93c92a3c92991b11d48a24177d5184810d5f01ef061329df627a", func := "loop.example/cacheengine/laws.FnDirtyKeysWrite", spec := "fnDirtyKeysWrite", apart := false }
def FnDirtyKeysWriteSaid : Prop := fnDirtyKeysWriteRow.holds Try.pinned (OpenSpec.ofChange fnDirtyKeysWriteSpec)

/-- ITS FALSE NEIGHBOUR: 'it returns false'. Refute it at one input. -/
def fnDirtyKeysWriteWrong : ChangeSpec := { name := "fnDirtyKeysWrite", fn := fun _ => fun
  | [d] => { results := [.lit (.bool false)], args := [d] }
  | _ => none }
def FnDirtyKeysWriteWrongFalsely : Prop := fnDirtyKeysWriteRow.holds Try.pinned (OpenSpec.ofChange fnDirtyKeysWriteWrong)

/-- 'laws.FnNextClimbSteps': WHATEVER THE INPUT: true; the input reads as it did. -/
def fnNextClimbStepsSpec : ChangeSpec := { name := "fnNextClimbSteps", fn := fun _ => fun
  | [d] => { results := [.lit (.bool true)], args := [d] }
  | _ => none }
def fnNextClimbStepsRow : OpenClaim := { program := "ytacohagnclnkdac", sum := "05a1f656bfce93c92a3c92991b11d48a24177d5184810d5f01ef061329df627a", func := "loop.example/cacheengine/laws.FnNextClimbSteps", spec := "fnNextClimbSteps", apart := false }
def FnNextClimbStepsSaid : Prop := fnNextClimbStepsRow.holds Try.pinned (OpenSpec.ofChange fnNextClimbStepsSpec)

/-- ITS FALSE NEIGHBOUR: 'it returns false'. Refute it at one input. -/
def fnNextClimbStepsWrong : ChangeSpec := { name := "fnNextClimbSteps", fn := fun _ => fun
  | [d] => { results := [.lit (.bool false)], args := [d] }
  | _ => none }
def FnNextClimbStepsWrongFalsely : Prop := fnNextClimbStepsRow.holds Try.pinned (OpenSpec.ofChange fnNextClimbStepsWrong)

/-- 'laws.FnBestSplitHits': WHATEVER THE INPUT: true; the input reads as it did. -/
def fnBestSplitHitsSpec : ChangeSpec := { name := "fnBestSplitHits", fn := fun _ => fun
  | [d] => { results := [.lit (.bool true)], args := [d] }
  | _ => none }
def fnBestSplitHitsRow : OpenClaim := { program := "ytacohagnclnkdac", sum := "05a1f656bfce93c92a3c92991b11d48a24177d5184810d5f01ef061329df627a", func := "loop.example/cacheengine/laws.FnBestSplitHits", spec := "fnBestSplitHits", unfollowed := true, recurses := true, apart := false }
def FnBestSplitHitsSaid : Prop := fnBestSplitHitsRow.holds Try.pinned (OpenSpec.ofChange fnBestSplitHitsSpec)

/-- ITS FALSE NEIGHBOUR: 'it returns false'. Refute it at one input. -/
def fnBestSplitHitsWrong : ChangeSpec := { name := "fnBestSplitHits", fn := fun _ => fun
  | [d] => { results := [.lit (.bool false)], args := [d] }
  | _ => none }
def FnBestSplitHitsWrongFalsely : Prop := fnBestSplitHitsRow.holds Try.pinned (OpenSpec.ofChange fnBestSplitHitsWrong)

/-- 'laws.FnExactValidMemory': WHATEVER THE INPUT: true; the input reads as it did. -/
def fnExactValidMemorySpec : ChangeSpec := { name := "fnExactValidMemory", fn := fun _ => fun
  | [d] => { results := [.lit (.bool true)], args := [d] }
  | _ => none }
def fnExactValidMemoryRow : OpenClaim := { program := "ytacohagnclnkdac", sum := "05a1f656bfce93c92a3c92991b11d48a24177d5184810d5f01ef061329df627a", func := "loop.example/cacheengine/laws.FnExactValidMemory", spec := "fnExactValidMemory", apart := false }
def FnExactValidMemorySaid : Prop := fnExactValidMemoryRow.holds Try.pinned (OpenSpec.ofChange fnExactValidMemorySpec)

/-- ITS FALSE NEIGHBOUR: 'it returns false'. Refute it at one input. -/
def fnExactValidMemoryWrong : ChangeSpec := { name := "fnExactValidMemory", fn := fun _ => fun
  | [d] => { results := [.lit (.bool false)], args := [d] }
  | _ => none }
def FnExactValidMemoryWrongFalsely : Prop := fnExactValidMemoryRow.holds Try.pinned (OpenSpec.ofChange fnExactValidMemoryWrong)

/-- 'laws.FnExactReadKey': WHATEVER THE INPUT: true; the input reads as it did. -/
def fnExactReadKeySpec : ChangeSpec := { name := "fnExactReadKey", fn := fun _ => fun
  | [d1, d2] => { results := [.lit (.bool true)], args := [d1, d2] }
  | _ => none }
def fnExactReadKeyRow : OpenClaim := { program := "ytacohagnclnkdac", sum := "05a1f656bfce93c92a3c92991b11d48a24177d5184810d5f01ef061329df627a", func := "loop.example/cacheengine/laws.FnExactReadKey", spec := "fnExactReadKey", apart := false }
def FnExactReadKeySaid : Prop := fnExactReadKeyRow.holds Try.pinned (OpenSpec.ofChange fnExactReadKeySpec)

/-- ITS FALSE NEIGHBOUR: 'it returns false'. Refute it at one input. -/
def fnExactReadKeyWrong : ChangeSpec := { name := "fnExactReadKey", fn := fun _ => fun
  | [d1, d2] => { results := [.lit (.bool false)], args := [d1, d2] }
  | _ => none }
def FnExactReadKeyWrongFalsely : Prop := fnExactReadKeyRow.holds Try.pinned (OpenSpec.ofChange fnExactReadKeyWrong)

/-- 'laws.FnExactWriteKey': WHATEVER THE INPUT: true; the input reads as it did. -/
def fnExactWriteKeySpec : ChangeSpec := { name := "fnExactWriteKey", fn := fun _ => fun
  | [d1, d2, d3] => { results := [.lit (.bool true)], args := [d1, d2, d3] }
  | _ => none }
def fnExactWriteKeyRow : OpenClaim := { program := "ytacohagnclnkdac", sum := "05a1f656bfce93c92a3c92991b11d48a24177d5184810d5f01ef061329df627a", func := "loop.example/cacheengine/laws.FnExactWriteKey", spec := "fnExactWriteKey", apart := false }
def FnExactWriteKeySaid : Prop := fnExactWriteKeyRow.holds Try.pinned (OpenSpec.ofChange fnExactWriteKeySpec)

/-- ITS FALSE NEIGHBOUR: 'it returns false'. Refute it at one input. -/
def fnExactWriteKeyWrong : ChangeSpec := { name := "fnExactWriteKey", fn := fun _ => fun
  | [d1, d2, d3] => { results := [.lit (.bool false)], args := [d1, d2, d3] }
  | _ => none }
def FnExactWriteKeyWrongFalsely : Prop := fnExactWriteKeyRow.holds Try.pinned (OpenSpec.ofChange fnExactWriteKeyWrong)

/-- 'laws.FnExactFlushMemory': WHATEVER THE INPUT: true; the input reads as it did. -/
def fnExactFlushMemorySpec : ChangeSpec := { name := "fnExactFlushMemory", fn := fun _ => fun
  | [d] => { results := [.lit (.bool true)], args := [d] }
  | _ => none }
def fnExactFlushMemoryRow : OpenClaim := { program := "ytacohagnclnkdac", sum := "05a1f656bfce93c92a3c92991b11d48a24177d5184810d5f01ef061329df627a", func := "loop.example/cacheengine/laws.FnExactFlushMemory", spec := "fnExactFlushMemory", apart := false }
def FnExactFlushMemorySaid : Prop := fnExactFlushMemoryRow.holds Try.pinned (OpenSpec.ofChange fnExactFlushMemorySpec)

/-- ITS FALSE NEIGHBOUR: 'it returns false'. Refute it at one input. -/
def fnExactFlushMemoryWrong : ChangeSpec := { name := "fnExactFlushMemory", fn := fun _ => fun
  | [d] => { results := [.lit (.bool false)], args := [d] }
  | _ => none }
def FnExactFlushMemoryWrongFalsely : Prop := fnExactFlushMemoryRow.holds Try.pinned (OpenSpec.ofChange fnExactFlushMemoryWrong)

/-- 'laws.FnExactDirtyKeys': WHATEVER THE INPUT: true; the input reads as it did. -/
def fnExactDirtyKeysSpec : ChangeSpec := { name := "fnExactDirtyKeys", fn := fun _ => fun
  | [d] => { results := [.lit (.bool true)], args := [d] }
  | _ => none }
def fnExactDirtyKeysRow : OpenClaim := { program := "ytacohagnclnkdac", sum := "05a1f656bfce93c92a3c92991b11d48a24177d5184810d5f01ef061329df627a", func := "loop.example/cacheengine/laws.FnExactDirtyKeys", spec := "fnExactDirtyKeys", apart := false }
def FnExactDirtyKeysSaid : Prop := fnExactDirtyKeysRow.holds Try.pinned (OpenSpec.ofChange fnExactDirtyKeysSpec)

/-- ITS FALSE NEIGHBOUR: 'it returns false'. Refute it at one input. -/
def fnExactDirtyKeysWrong : ChangeSpec := { name := "fnExactDirtyKeys", fn := fun _ => fun
  | [d] => { results := [.lit (.bool false)], args := [d] }
  | _ => none }
def FnExactDirtyKeysWrongFalsely : Prop := fnExactDirtyKeysRow.holds Try.pinned (OpenSpec.ofChange fnExactDirtyKeysWrong)

/-- 'laws.FnExactValueOf': WHATEVER THE INPUT: true; the input reads as it did. -/
def fnExactValueOfSpec : ChangeSpec := { name := "fnExactValueOf", fn := fun _ => fun
  | [d1, d2] => { results := [.lit (.bool true)], args := [d1, d2] }
  | _ => none }
def fnExactValueOfRow : OpenClaim := { program := "ytacohagnclnkdac", sum := "05a1f656bfce93c92a3c92991b11d48a24177d5184810d5f01ef061329df627a", func := "loop.example/cacheengine/laws.FnExactValueOf", spec := "fnExactValueOf", apart := false }
def FnExactValueOfSaid : Prop := fnExactValueOfRow.holds Try.pinned (OpenSpec.ofChange fnExactValueOfSpec)

/-- ITS FALSE NEIGHBOUR: 'it returns false'. Refute it at one input. -/
def fnExactValueOfWrong : ChangeSpec := { name := "fnExactValueOf", fn := fun _ => fun
  | [d1, d2] => { results := [.lit (.bool false)], args := [d1, d2] }
  | _ => none }
def FnExactValueOfWrongFalsely : Prop := fnExactValueOfRow.holds Try.pinned (OpenSpec.ofChange fnExactValueOfWrong)

/-- 'laws.FnExactRatioOf': WHATEVER THE INPUT: true; the input reads as it did. -/
def fnExactRatioOfSpec : ChangeSpec := { name := "fnExactRatioOf", fn := fun _ => fun
  | [d1, d2] => { results := [.lit (.bool true)], args := [d1, d2] }
  | _ => none }
def fnExactRatioOfRow : OpenClaim := { program := "ytacohagnclnkdac", sum := "05a1f656bfce93c92a3c92991b11d48a24177d5184810d5f01ef061329df627a", func := "loop.example/cacheengine/laws.FnExactRatioOf", spec := "fnExactRatioOf", apart := false }
def FnExactRatioOfSaid : Prop := fnExactRatioOfRow.holds Try.pinned (OpenSpec.ofChange fnExactRatioOfSpec)

/-- ITS FALSE NEIGHBOUR: 'it returns false'. Refute it at one input. -/
def fnExactRatioOfWrong : ChangeSpec := { name := "fnExactRatioOf", fn := fun _ => fun
  | [d1, d2] => { results := [.lit (.bool false)], args := [d1, d2] }
  | _ => none }
def FnExactRatioOfWrongFalsely : Prop := fnExactRatioOfRow.holds Try.pinned (OpenSpec.ofChange fnExactRatioOfWrong)

/- THE SECOND FORM. 'bulk': how many values and letters a reading holds, each counted each time it is reached (what is shared counts as often as it is met; a slice's spare places count too). A statement '..UptoSaid' is the law's where the arguments, and the package variables that the reading takes, are together of bulk at most 1048576: NARROWER than '..Said'. Prove '..Said' where nothing that the law and all that it calls make is longer than what came in: it says more and counts as full. Else prove '..UptoSaid'. A law counts once. -/
mutual
def uptoBulk {H : Type} : DataW H → Nat
  | .lit (.string bytes) => bytes.length + 1
  | .lit _ => 1
  | .nil => 1
  | .ptr d => uptoBulk d + 1
  | .slice elems spare => uptoBulkAll elems + uptoBulkAll spare + 1
  | .agg parts => uptoBulkAll parts + 1
  | .iface _ d => uptoBulk d + 1
  | .map entries => uptoBulkEntries entries + 1
  | .held _ => 1
def uptoBulkAll {H : Type} : List (DataW H) → Nat
  | [] => 0
  | d :: r => uptoBulk d + uptoBulkAll r
def uptoBulkEntries {H : Type} : List (Lit × DataW H) → Nat
  | [] => 0
  | x :: r => uptoBulkEntry x + uptoBulkEntries r
def uptoBulkEntry {H : Type} : Lit × DataW H → Nat
  | (.string bytes, d) => bytes.length + uptoBulk d + 1
  | (_, d) => uptoBulk d + 1
 end
def uptoSmall : (H : Type) → List (DataW H) → Bool := fun _ ds => decide (uptoBulkAll ds ≤ 1048576)
def OpenSpec.upto (s : _root_.Go.ChangeSpec) : _root_.Go.OpenSpec := { _root_.Go.OpenSpec.ofChange s with cond := some uptoSmall }

/-- 'laws.FnDirtyKeysWrite', WHERE WHAT IT READS IS OF BULK AT MOST 1048576: true; the input reads as it did. -/
def fnDirtyKeysWriteUptoRow : OpenClaim := { program := "ytacohagnclnkdac", sum := "05a1f656bfce93c92a3c92991b11d48a24177d5184810d5f01ef061329df627a", func := "loop.example/cacheengine/laws.FnDirtyKeysWrite", spec := "fnDirtyKeysWrite", apart := false, narrowed := true }
def FnDirtyKeysWriteUptoSaid : Prop := fnDirtyKeysWriteUptoRow.holds Try.pinned (OpenSpec.upto fnDirtyKeysWriteSpec)

/-- 'laws.FnNextClimbSteps', WHERE WHAT IT READS IS OF BULK AT MOST 1048576: true; the input reads as it did. -/
def fnNextClimbStepsUptoRow : OpenClaim := { program := "ytacohagnclnkdac", sum := "05a1f656bfce93c92a3c92991b11d48a24177d5184810d5f01ef061329df627a", func := "loop.example/cacheengine/laws.FnNextClimbSteps", spec := "fnNextClimbSteps", apart := false, narrowed := true }
def FnNextClimbStepsUptoSaid : Prop := fnNextClimbStepsUptoRow.holds Try.pinned (OpenSpec.upto fnNextClimbStepsSpec)

/-- 'laws.FnBestSplitHits', WHERE WHAT IT READS IS OF BULK AT MOST 1048576: true; the input reads as it did. -/
def fnBestSplitHitsUptoRow : OpenClaim := { program := "ytacohagnclnkdac", sum := "05a1f656bfce93c92a3c92991b11d48a24177d5184810d5f01ef061329df627a", func := "loop.example/cacheengine/laws.FnBestSplitHits", spec := "fnBestSplitHits", unfollowed := true, recurses := true, apart := false, narrowed := true }
def FnBestSplitHitsUptoSaid : Prop := fnBestSplitHitsUptoRow.holds Try.pinned (OpenSpec.upto fnBestSplitHitsSpec)

/-- 'laws.FnExactValidMemory', WHERE WHAT IT READS IS OF BULK AT MOST 1048576: true; the input reads as it did. -/
def fnExactValidMemoryUptoRow : OpenClaim := { program := "ytacohagnclnkdac", sum := "05a1f656bfce93c92a3c92991b11d48a24177d5184810d5f01ef061329df627a", func := "loop.example/cacheengine/laws.FnExactValidMemory", spec := "fnExactValidMemory", apart := false, narrowed := true }
def FnExactValidMemoryUptoSaid : Prop := fnExactValidMemoryUptoRow.holds Try.pinned (OpenSpec.upto fnExactValidMemorySpec)

/-- 'laws.FnExactReadKey', WHERE WHAT IT READS IS OF BULK AT MOST 1048576: true; the input reads as it did. -/
def fnExactReadKeyUptoRow : OpenClaim := { program := "ytacohagnclnkdac", sum := "05a1f656bfce93c92a3c92991b11d48a24177d5184810d5f01ef061329df627a", func := "loop.example/cacheengine/laws.FnExactReadKey", spec := "fnExactReadKey", apart := false, narrowed := true }
def FnExactReadKeyUptoSaid : Prop := fnExactReadKeyUptoRow.holds Try.pinned (OpenSpec.upto fnExactReadKeySpec)

/-- 'laws.FnExactWriteKey', WHERE WHAT IT READS IS OF BULK AT MOST 1048576: true; the input reads as it did. -/
def fnExactWriteKeyUptoRow : OpenClaim := { program := "ytacohagnclnkdac", sum := "05a1f656bfce93c92a3c92991b11d48a24177d5184810d5f01ef061329df627a", func := "loop.example/cacheengine/laws.FnExactWriteKey", spec := "fnExactWriteKey", apart := false, narrowed := true }
def FnExactWriteKeyUptoSaid : Prop := fnExactWriteKeyUptoRow.holds Try.pinned (OpenSpec.upto fnExactWriteKeySpec)

/-- 'laws.FnExactFlushMemory', WHERE WHAT IT READS IS OF BULK AT MOST 1048576: true; the input reads as it did. -/
def fnExactFlushMemoryUptoRow : OpenClaim := { program := "ytacohagnclnkdac", sum := "05a1f656bfce93c92a3c92991b11d48a24177d5184810d5f01ef061329df627a", func := "loop.example/cacheengine/laws.FnExactFlushMemory", spec := "fnExactFlushMemory", apart := false, narrowed := true }
def FnExactFlushMemoryUptoSaid : Prop := fnExactFlushMemoryUptoRow.holds Try.pinned (OpenSpec.upto fnExactFlushMemorySpec)

/-- 'laws.FnExactDirtyKeys', WHERE WHAT IT READS IS OF BULK AT MOST 1048576: true; the input reads as it did. -/
def fnExactDirtyKeysUptoRow : OpenClaim := { program := "ytacohagnclnkdac", sum := "05a1f656bfce93c92a3c92991b11d48a24177d5184810d5f01ef061329df627a", func := "loop.example/cacheengine/laws.FnExactDirtyKeys", spec := "fnExactDirtyKeys", apart := false, narrowed := true }
def FnExactDirtyKeysUptoSaid : Prop := fnExactDirtyKeysUptoRow.holds Try.pinned (OpenSpec.upto fnExactDirtyKeysSpec)

/-- 'laws.FnExactValueOf', WHERE WHAT IT READS IS OF BULK AT MOST 1048576: true; the input reads as it did. -/
def fnExactValueOfUptoRow : OpenClaim := { program := "ytacohagnclnkdac", sum := "05a1f656bfce93c92a3c92991b11d48a24177d5184810d5f01ef061329df627a", func := "loop.example/cacheengine/laws.FnExactValueOf", spec := "fnExactValueOf", apart := false, narrowed := true }
def FnExactValueOfUptoSaid : Prop := fnExactValueOfUptoRow.holds Try.pinned (OpenSpec.upto fnExactValueOfSpec)

/-- 'laws.FnExactRatioOf', WHERE WHAT IT READS IS OF BULK AT MOST 1048576: true; the input reads as it did. -/
def fnExactRatioOfUptoRow : OpenClaim := { program := "ytacohagnclnkdac", sum := "05a1f656bfce93c92a3c92991b11d48a24177d5184810d5f01ef061329df627a", func := "loop.example/cacheengine/laws.FnExactRatioOf", spec := "fnExactRatioOf", apart := false, narrowed := true }
def FnExactRatioOfUptoSaid : Prop := fnExactRatioOfUptoRow.holds Try.pinned (OpenSpec.upto fnExactRatioOfSpec)

end Rows
end Go.Proofs.Ytacohagnclnkdac
