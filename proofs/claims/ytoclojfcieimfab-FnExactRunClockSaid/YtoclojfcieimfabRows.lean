/-
  No cell of these rows narrows 'for every input' (looked for: loops, veiled, ifaces, maps, wideKeys, modest, calm, conditions, laid).
  DERIVED. THE GIVEN ROWS OF THIS SEAT. 12 by the template 'for every input the law returns true; each argument reads behind the call as it read before'; 0 by the template 'total and deterministic' (their statements: YtoclojfcieimfabTotals.lean).
  GIVEN WITH THE SEED: the statements are not yours to turn. If you find one false, say at which input.
  Laid BY PROGRAM, IN A SANDBOX (cutbox-rows.mjs): the forced cells as the released guide's own fill.sh prints them over the translation 03e8cd49975a1768… (all of the seat's roots in one cut). By AI agents, Wed Nov 11 2026. No macro, syntax, notation, axiom, sorry.
-/
import Derived.Test.YtoclojfcieimfabChecked
import GoSem.Claim
import GoSem.ClaimJoined
import GoSem.ClaimMapViews
import Derived.JoinedTies
import Derived.KernelRfl
namespace Go.Proofs.Ytoclojfcieimfab
/- THE CELL 'sum', in the pinned program and in every row, IS THE sha256 OF THE DUMP (.gsa) THAT YtoclojfcieimfabProg.lean LOADS. Nothing in Lean hashes anything: it is a label: what it is worth is what the hold of that sum in a sandbox is worth. -/
noncomputable def Try.pinned : Pinned := { name := "ytoclojfcieimfab", sum := "03e8cd49975a176848474d221a94cdb911e0f4b9d21f0e0467e61b24a857208f", checked := Try.checked }
namespace Rows
def none {H : Type} : Left H := { results := [], args := [] }

/-- 'laws.FnKeysOf': WHATEVER THE INPUT: true; the input reads as it did. -/
def fnKeysOfSpec : ChangeSpec := { name := "fnKeysOf", fn := fun _ => fun
  | [d] => { results := [.lit (.bool true)], args := [d] }
  | _ => none }
def fnKeysOfRow : OpenClaim := { program := "ytoclojfcieimfab", sum := "03e8cd49975a176848474d221a94cdb911e0f4b9d21f0e0467e61b24a857208f", func := "loop.example/cacheengine/laws.FnKeysOf", spec := "fnKeysOf", apart := false }
def FnKeysOfSaid : Prop := fnKeysOfRow.holds Try.pinned (OpenSpec.ofChange fnKeysOfSpec)

/-- ITS FALSE NEIGHBOUR: 'it returns false'. Refute it at one input. -/
def fnKeysOfWrong : ChangeSpec := { name := "fnKeysOf", fn := fun _ => fun
  | [d] => { results := [.lit (.bool false)], args := [d] }
  | _ => none }
def FnKeysOfWrongFalsely : Prop := fnKeysOfRow.holds Try.pinned (OpenSpec.ofChange fnKeysOfWrong)

/-- 'laws.FnUseClockMark': WHATEVER THE INPUT: true; the input reads as it did. -/
def fnUseClockMarkSpec : ChangeSpec := { name := "fnUseClockMark", fn := fun _ => fun
  | [d] => { results := [.lit (.bool true)], args := [d] }
  | _ => none }
def fnUseClockMarkRow : OpenClaim := { program := "ytoclojfcieimfab", sum := "03e8cd49975a176848474d221a94cdb911e0f4b9d21f0e0467e61b24a857208f", func := "loop.example/cacheengine/laws.FnUseClockMark", spec := "fnUseClockMark", apart := false }
def FnUseClockMarkSaid : Prop := fnUseClockMarkRow.holds Try.pinned (OpenSpec.ofChange fnUseClockMarkSpec)

/-- ITS FALSE NEIGHBOUR: 'it returns false'. Refute it at one input. -/
def fnUseClockMarkWrong : ChangeSpec := { name := "fnUseClockMark", fn := fun _ => fun
  | [d] => { results := [.lit (.bool false)], args := [d] }
  | _ => none }
def FnUseClockMarkWrongFalsely : Prop := fnUseClockMarkRow.holds Try.pinned (OpenSpec.ofChange fnUseClockMarkWrong)

/-- 'laws.FnUseClockAgain': WHATEVER THE INPUT: true; the input reads as it did. -/
def fnUseClockAgainSpec : ChangeSpec := { name := "fnUseClockAgain", fn := fun _ => fun
  | [d] => { results := [.lit (.bool true)], args := [d] }
  | _ => none }
def fnUseClockAgainRow : OpenClaim := { program := "ytoclojfcieimfab", sum := "03e8cd49975a176848474d221a94cdb911e0f4b9d21f0e0467e61b24a857208f", func := "loop.example/cacheengine/laws.FnUseClockAgain", spec := "fnUseClockAgain", apart := false }
def FnUseClockAgainSaid : Prop := fnUseClockAgainRow.holds Try.pinned (OpenSpec.ofChange fnUseClockAgainSpec)

/-- ITS FALSE NEIGHBOUR: 'it returns false'. Refute it at one input. -/
def fnUseClockAgainWrong : ChangeSpec := { name := "fnUseClockAgain", fn := fun _ => fun
  | [d] => { results := [.lit (.bool false)], args := [d] }
  | _ => none }
def FnUseClockAgainWrongFalsely : Prop := fnUseClockAgainRow.holds Try.pinned (OpenSpec.ofChange fnUseClockAgainWrong)

/-- 'laws.FnUseSegmentsTwice': WHATEVER THE INPUT: true; the input reads as it did. -/
def fnUseSegmentsTwiceSpec : ChangeSpec := { name := "fnUseSegmentsTwice", fn := fun _ => fun
  | [d] => { results := [.lit (.bool true)], args := [d] }
  | _ => none }
def fnUseSegmentsTwiceRow : OpenClaim := { program := "ytoclojfcieimfab", sum := "03e8cd49975a176848474d221a94cdb911e0f4b9d21f0e0467e61b24a857208f", func := "loop.example/cacheengine/laws.FnUseSegmentsTwice", spec := "fnUseSegmentsTwice", apart := false }
def FnUseSegmentsTwiceSaid : Prop := fnUseSegmentsTwiceRow.holds Try.pinned (OpenSpec.ofChange fnUseSegmentsTwiceSpec)

/-- ITS FALSE NEIGHBOUR: 'it returns false'. Refute it at one input. -/
def fnUseSegmentsTwiceWrong : ChangeSpec := { name := "fnUseSegmentsTwice", fn := fun _ => fun
  | [d] => { results := [.lit (.bool false)], args := [d] }
  | _ => none }
def FnUseSegmentsTwiceWrongFalsely : Prop := fnUseSegmentsTwiceRow.holds Try.pinned (OpenSpec.ofChange fnUseSegmentsTwiceWrong)

/-- 'laws.FnKeysOfOnce': WHATEVER THE INPUT: true; the input reads as it did. -/
def fnKeysOfOnceSpec : ChangeSpec := { name := "fnKeysOfOnce", fn := fun _ => fun
  | [d] => { results := [.lit (.bool true)], args := [d] }
  | _ => none }
def fnKeysOfOnceRow : OpenClaim := { program := "ytoclojfcieimfab", sum := "03e8cd49975a176848474d221a94cdb911e0f4b9d21f0e0467e61b24a857208f", func := "loop.example/cacheengine/laws.FnKeysOfOnce", spec := "fnKeysOfOnce", apart := false }
def FnKeysOfOnceSaid : Prop := fnKeysOfOnceRow.holds Try.pinned (OpenSpec.ofChange fnKeysOfOnceSpec)

/-- ITS FALSE NEIGHBOUR: 'it returns false'. Refute it at one input. -/
def fnKeysOfOnceWrong : ChangeSpec := { name := "fnKeysOfOnce", fn := fun _ => fun
  | [d] => { results := [.lit (.bool false)], args := [d] }
  | _ => none }
def FnKeysOfOnceWrongFalsely : Prop := fnKeysOfOnceRow.holds Try.pinned (OpenSpec.ofChange fnKeysOfOnceWrong)

/-- 'laws.FnExactValidClock': WHATEVER THE INPUT: true; the input reads as it did. -/
def fnExactValidClockSpec : ChangeSpec := { name := "fnExactValidClock", fn := fun _ => fun
  | [d] => { results := [.lit (.bool true)], args := [d] }
  | _ => none }
def fnExactValidClockRow : OpenClaim := { program := "ytoclojfcieimfab", sum := "03e8cd49975a176848474d221a94cdb911e0f4b9d21f0e0467e61b24a857208f", func := "loop.example/cacheengine/laws.FnExactValidClock", spec := "fnExactValidClock", apart := false }
def FnExactValidClockSaid : Prop := fnExactValidClockRow.holds Try.pinned (OpenSpec.ofChange fnExactValidClockSpec)

/-- ITS FALSE NEIGHBOUR: 'it returns false'. Refute it at one input. -/
def fnExactValidClockWrong : ChangeSpec := { name := "fnExactValidClock", fn := fun _ => fun
  | [d] => { results := [.lit (.bool false)], args := [d] }
  | _ => none }
def FnExactValidClockWrongFalsely : Prop := fnExactValidClockRow.holds Try.pinned (OpenSpec.ofChange fnExactValidClockWrong)

/-- 'laws.FnExactUseClock': WHATEVER THE INPUT: true; the input reads as it did. -/
def fnExactUseClockSpec : ChangeSpec := { name := "fnExactUseClock", fn := fun _ => fun
  | [d1, d2] => { results := [.lit (.bool true)], args := [d1, d2] }
  | _ => none }
def fnExactUseClockRow : OpenClaim := { program := "ytoclojfcieimfab", sum := "03e8cd49975a176848474d221a94cdb911e0f4b9d21f0e0467e61b24a857208f", func := "loop.example/cacheengine/laws.FnExactUseClock", spec := "fnExactUseClock", apart := false }
def FnExactUseClockSaid : Prop := fnExactUseClockRow.holds Try.pinned (OpenSpec.ofChange fnExactUseClockSpec)

/-- ITS FALSE NEIGHBOUR: 'it returns false'. Refute it at one input. -/
def fnExactUseClockWrong : ChangeSpec := { name := "fnExactUseClock", fn := fun _ => fun
  | [d1, d2] => { results := [.lit (.bool false)], args := [d1, d2] }
  | _ => none }
def FnExactUseClockWrongFalsely : Prop := fnExactUseClockRow.holds Try.pinned (OpenSpec.ofChange fnExactUseClockWrong)

/-- 'laws.FnExactRunClock': WHATEVER THE INPUT: true; the input reads as it did. -/
def fnExactRunClockSpec : ChangeSpec := { name := "fnExactRunClock", fn := fun _ => fun
  | [d1, d2] => { results := [.lit (.bool true)], args := [d1, d2] }
  | _ => none }
def fnExactRunClockRow : OpenClaim := { program := "ytoclojfcieimfab", sum := "03e8cd49975a176848474d221a94cdb911e0f4b9d21f0e0467e61b24a857208f", func := "loop.example/cacheengine/laws.FnExactRunClock", spec := "fnExactRunClock", unfollowed := true, recurses := true, apart := false }
def FnExactRunClockSaid : Prop := fnExactRunClockRow.holds Try.pinned (OpenSpec.ofChange fnExactRunClockSpec)

/-- ITS FALSE NEIGHBOUR: 'it returns false'. Refute it at one input. -/
def fnExactRunClockWrong : ChangeSpec := { name := "fnExactRunClock", fn := fun _ => fun
  | [d1, d2] => { results := [.lit (.bool false)], args := [d1, d2] }
  | _ => none }
def FnExactRunClockWrongFalsely : Prop := fnExactRunClockRow.holds Try.pinned (OpenSpec.ofChange fnExactRunClockWrong)

/-- 'laws.FnExactUsedKeys': WHATEVER THE INPUT: true; the input reads as it did. -/
def fnExactUsedKeysSpec : ChangeSpec := { name := "fnExactUsedKeys", fn := fun _ => fun
  | [d] => { results := [.lit (.bool true)], args := [d] }
  | _ => none }
def fnExactUsedKeysRow : OpenClaim := { program := "ytoclojfcieimfab", sum := "03e8cd49975a176848474d221a94cdb911e0f4b9d21f0e0467e61b24a857208f", func := "loop.example/cacheengine/laws.FnExactUsedKeys", spec := "fnExactUsedKeys", apart := false }
def FnExactUsedKeysSaid : Prop := fnExactUsedKeysRow.holds Try.pinned (OpenSpec.ofChange fnExactUsedKeysSpec)

/-- ITS FALSE NEIGHBOUR: 'it returns false'. Refute it at one input. -/
def fnExactUsedKeysWrong : ChangeSpec := { name := "fnExactUsedKeys", fn := fun _ => fun
  | [d] => { results := [.lit (.bool false)], args := [d] }
  | _ => none }
def FnExactUsedKeysWrongFalsely : Prop := fnExactUsedKeysRow.holds Try.pinned (OpenSpec.ofChange fnExactUsedKeysWrong)

/-- 'laws.FnExactNextVictim': WHATEVER THE INPUT: true; the input reads as it did. -/
def fnExactNextVictimSpec : ChangeSpec := { name := "fnExactNextVictim", fn := fun _ => fun
  | [d] => { results := [.lit (.bool true)], args := [d] }
  | _ => none }
def fnExactNextVictimRow : OpenClaim := { program := "ytoclojfcieimfab", sum := "03e8cd49975a176848474d221a94cdb911e0f4b9d21f0e0467e61b24a857208f", func := "loop.example/cacheengine/laws.FnExactNextVictim", spec := "fnExactNextVictim", apart := false }
def FnExactNextVictimSaid : Prop := fnExactNextVictimRow.holds Try.pinned (OpenSpec.ofChange fnExactNextVictimSpec)

/-- ITS FALSE NEIGHBOUR: 'it returns false'. Refute it at one input. -/
def fnExactNextVictimWrong : ChangeSpec := { name := "fnExactNextVictim", fn := fun _ => fun
  | [d] => { results := [.lit (.bool false)], args := [d] }
  | _ => none }
def FnExactNextVictimWrongFalsely : Prop := fnExactNextVictimRow.holds Try.pinned (OpenSpec.ofChange fnExactNextVictimWrong)

/-- 'laws.FnExactValidSegments': WHATEVER THE INPUT: true; the input reads as it did. -/
def fnExactValidSegmentsSpec : ChangeSpec := { name := "fnExactValidSegments", fn := fun _ => fun
  | [d] => { results := [.lit (.bool true)], args := [d] }
  | _ => none }
def fnExactValidSegmentsRow : OpenClaim := { program := "ytoclojfcieimfab", sum := "03e8cd49975a176848474d221a94cdb911e0f4b9d21f0e0467e61b24a857208f", func := "loop.example/cacheengine/laws.FnExactValidSegments", spec := "fnExactValidSegments", apart := false }
def FnExactValidSegmentsSaid : Prop := fnExactValidSegmentsRow.holds Try.pinned (OpenSpec.ofChange fnExactValidSegmentsSpec)

/-- ITS FALSE NEIGHBOUR: 'it returns false'. Refute it at one input. -/
def fnExactValidSegmentsWrong : ChangeSpec := { name := "fnExactValidSegments", fn := fun _ => fun
  | [d] => { results := [.lit (.bool false)], args := [d] }
  | _ => none }
def FnExactValidSegmentsWrongFalsely : Prop := fnExactValidSegmentsRow.holds Try.pinned (OpenSpec.ofChange fnExactValidSegmentsWrong)

/-- 'laws.FnExactUseSegments': WHATEVER THE INPUT: true; the input reads as it did. -/
def fnExactUseSegmentsSpec : ChangeSpec := { name := "fnExactUseSegments", fn := fun _ => fun
  | [d1, d2] => { results := [.lit (.bool true)], args := [d1, d2] }
  | _ => none }
def fnExactUseSegmentsRow : OpenClaim := { program := "ytoclojfcieimfab", sum := "03e8cd49975a176848474d221a94cdb911e0f4b9d21f0e0467e61b24a857208f", func := "loop.example/cacheengine/laws.FnExactUseSegments", spec := "fnExactUseSegments", apart := false }
def FnExactUseSegmentsSaid : Prop := fnExactUseSegmentsRow.holds Try.pinned (OpenSpec.ofChange fnExactUseSegmentsSpec)

/-- ITS FALSE NEIGHBOUR: 'it returns false'. Refute it at one input. -/
def fnExactUseSegmentsWrong : ChangeSpec := { name := "fnExactUseSegments", fn := fun _ => fun
  | [d1, d2] => { results := [.lit (.bool false)], args := [d1, d2] }
  | _ => none }
def FnExactUseSegmentsWrongFalsely : Prop := fnExactUseSegmentsRow.holds Try.pinned (OpenSpec.ofChange fnExactUseSegmentsWrong)

/- THE SECOND FORM. 'bulk': how many values and letters a reading holds, each counted each time it is reached (what is shared counts as often as it is met; a slice's spare places count too). A statement '..UptoSaid' is the law's where the arguments, and the package variables that the reading takes, are together of bulk at most 1048576: NARROWER than '..Said'. Prove '..Said' where nothing that the law and all that it calls make is longer than what came in: it says more and counts as full. Else prove '..UptoSaid'. A law counts once. -/
mutual
def uptoBulk {H : Type} : DataW H → Nat
  | .lit (.string bytes) => bytes.length + 1
  | .lit _ => 1
  | .nil => 1
  | .ptr d => uptoBulk d + 1
  | .slice elems spare => uptoBulkAll elems + uptoBulkAll spare + 1
  | .agg parts => uptoBulkAll parts + 1
  | .iface _ d => uptoBulk d + 1
  | .map entries => uptoBulkEntries entries + 1
  | .held _ => 1
def uptoBulkAll {H : Type} : List (DataW H) → Nat
  | [] => 0
  | d :: r => uptoBulk d + uptoBulkAll r
def uptoBulkEntries {H : Type} : List (Lit × DataW H) → Nat
  | [] => 0
  | x :: r => uptoBulkEntry x + uptoBulkEntries r
def uptoBulkEntry {H : Type} : Lit × DataW H → Nat
  | (.string bytes, d) => bytes.length + uptoBulk d + 1
  | (_, d) => uptoBulk d + 1
 end
def uptoSmall : (H : Type) → List (DataW H) → Bool := fun _ ds => decide (uptoBulkAll ds ≤ 1048576)
def OpenSpec.upto (s : _root_.Go.ChangeSpec) : _root_.Go.OpenSpec := { _root_.Go.OpenSpec.ofChange s with cond := some uptoSmall }

/-- 'laws.FnKeysOf', WHERE WHAT IT READS IS OF BULK AT MOST 1048576: true; the input reads as it did. -/
def fnKeysOfUptoRow : OpenClaim := { program := "ytoclojfcieimfab", sum := "03e8cd49975a176848474d221a94cdb911e0f4b9d21f0e0467e61b24a857208f", func := "loop.example/cacheengine/laws.FnKeysOf", spec := "fnKeysOf", apart := false, narrowed := true }
def FnKeysOfUptoSaid : Prop := fnKeysOfUptoRow.holds Try.pinned (OpenSpec.upto fnKeysOfSpec)

/-- 'laws.FnUseClockMark', WHERE WHAT IT READS IS OF BULK AT MOST 1048576: true; the input reads as it did. -/
def fnUseClockMarkUptoRow : OpenClaim := { program := "ytoclojfcieimfab", sum := "03e8cd49975a176848474d221a94cdb911e0f4b9d21f0e0467e61b24a857208f", func := "loop.example/cacheengine/laws.FnUseClockMark", spec := "fnUseClockMark", apart := false, narrowed := true }
def FnUseClockMarkUptoSaid : Prop := fnUseClockMarkUptoRow.holds Try.pinned (OpenSpec.upto fnUseClockMarkSpec)

/-- 'laws.FnUseClockAgain', WHERE WHAT IT READS IS OF BULK AT MOST 1048576: true; the input reads as it did. -/
def fnUseClockAgainUptoRow : OpenClaim := { program := "ytoclojfcieimfab", sum := "03e8cd49975a176848474d221a94cdb911e0f4b9d21f0e0467e61b24a857208f", func := "loop.example/cacheengine/laws.FnUseClockAgain", spec := "fnUseClockAgain", apart := false, narrowed := true }
def FnUseClockAgainUptoSaid : Prop := fnUseClockAgainUptoRow.holds Try.pinned (OpenSpec.upto fnUseClockAgainSpec)

/-- 'laws.FnUseSegmentsTwice', WHERE WHAT IT READS IS OF BULK AT MOST 1048576: true; the input reads as it did. -/
def fnUseSegmentsTwiceUptoRow : OpenClaim := { program := "ytoclojfcieimfab", sum := "03e8cd49975a176848474d221a94cdb911e0f4b9d21f0e0467e61b24a857208f", func := "loop.example/cacheengine/laws.FnUseSegmentsTwice", spec := "fnUseSegmentsTwice", apart := false, narrowed := true }
def FnUseSegmentsTwiceUptoSaid : Prop := fnUseSegmentsTwiceUptoRow.holds Try.pinned (OpenSpec.upto fnUseSegmentsTwiceSpec)

/-- 'laws.FnKeysOfOnce', WHERE WHAT IT READS IS OF BULK AT MOST 1048576: true; the input reads as it did. -/
def fnKeysOfOnceUptoRow : OpenClaim := { program := "ytoclojfcieimfab", sum := "03e8cd49975a176848474d221a94cdb911e0f4b9d21f0e0467e61b24a857208f", func := "loop.example/cacheengine/laws.FnKeysOfOnce", spec := "fnKeysOfOnce", apart := false, narrowed := true }
def FnKeysOfOnceUptoSaid : Prop := fnKeysOfOnceUptoRow.holds Try.pinned (OpenSpec.upto fnKeysOfOnceSpec)

/-- 'laws.FnExactValidClock', WHERE WHAT IT READS IS OF BULK AT MOST 1048576: true; the input reads as it did. -/
def fnExactValidClockUptoRow : OpenClaim := { program := "ytoclojfcieimfab", sum := "03e8cd49975a176848474d221a94cdb911e0f4b9d21f0e0467e61b24a857208f", func := "loop.example/cacheengine/laws.FnExactValidClock", spec := "fnExactValidClock", apart := false, narrowed := true }
def FnExactValidClockUptoSaid : Prop := fnExactValidClockUptoRow.holds Try.pinned (OpenSpec.upto fnExactValidClockSpec)

/-- 'laws.FnExactUseClock', WHERE WHAT IT READS IS OF BULK AT MOST 1048576: true; the input reads as it did. -/
def fnExactUseClockUptoRow : OpenClaim := { program := "ytoclojfcieimfab", sum := "03e8cd49975a176848474d221a94cdb911e0f4b9d21f0e0467e61b24a857208f", func := "loop.example/cacheengine/laws.FnExactUseClock", spec := "fnExactUseClock", apart := false, narrowed := true }
def FnExactUseClockUptoSaid : Prop := fnExactUseClockUptoRow.holds Try.pinned (OpenSpec.upto fnExactUseClockSpec)

/-- 'laws.FnExactRunClock', WHERE WHAT IT READS IS OF BULK AT MOST 1048576: true; the input reads as it did. -/
def fnExactRunClockUptoRow : OpenClaim := { program := "ytoclojfcieimfab", sum := "03e8cd49975a176848474d221a94cdb911e0f4b9d21f0e0467e61b24a857208f", func := "loop.example/cacheengine/laws.FnExactRunClock", spec := "fnExactRunClock", unfollowed := true, recurses := true, apart := false, narrowed := true }
def FnExactRunClockUptoSaid : Prop := fnExactRunClockUptoRow.holds Try.pinned (OpenSpec.upto fnExactRunClockSpec)

/-- 'laws.FnExactUsedKeys', WHERE WHAT IT READS IS OF BULK AT MOST 1048576: true; the input reads as it did. -/
def fnExactUsedKeysUptoRow : OpenClaim := { program := "ytoclojfcieimfab", sum := "03e8cd49975a176848474d221a94cdb911e0f4b9d21f0e0467e61b24a857208f", func := "loop.example/cacheengine/laws.FnExactUsedKeys", spec := "fnExactUsedKeys", apart := false, narrowed := true }
def FnExactUsedKeysUptoSaid : Prop := fnExactUsedKeysUptoRow.holds Try.pinned (OpenSpec.upto fnExactUsedKeysSpec)

/-- 'laws.FnExactNextVictim', WHERE WHAT IT READS IS OF BULK AT MOST 1048576: true; the input reads as it did. -/
def fnExactNextVictimUptoRow : OpenClaim := { program := "ytoclojfcieimfab", sum := "03e8cd49975a176848474d221a94cdb911e0f4b9d21f0e0467e61b24a857208f", func := "loop.example/cacheengine/laws.FnExactNextVictim", spec := "fnExactNextVictim", apart := false, narrowed := true }
def FnExactNextVictimUptoSaid : Prop := fnExactNextVictimUptoRow.holds Try.pinned (OpenSpec.upto fnExactNextVictimSpec)

/-- 'laws.FnExactValidSegments', WHERE WHAT IT READS IS OF BULK AT MOST 1048576: true; the input reads as it did. -/
def fnExactValidSegmentsUptoRow : OpenClaim := { program := "ytoclojfcieimfab", sum := "03e8cd49975a176848474d221a94cdb911e0f4b9d21f0e0467e61b24a857208f", func := "loop.example/cacheengine/laws.FnExactValidSegments", spec := "fnExactValidSegments", apart := false, narrowed := true }
def FnExactValidSegmentsUptoSaid : Prop := fnExactValidSegmentsUptoRow.holds Try.pinned (OpenSpec.upto fnExactValidSegmentsSpec)

/-- 'laws.FnExactUseSegments', WHERE WHAT IT READS IS OF BULK AT MOST 1048576: true; the input reads as it did. -/
def fnExactUseSegmentsUptoRow : OpenClaim := { program := "ytoclojfcieimfab", sum := "03e8cd49975a176848474d221a94cdb911e0f4b9d21f0e0467e61b24a857208f", func := "loop.example/cacheengine/laws.FnExactUseSegments", spec := "fnExactUseSegments", apart := false, narrowed := true }
def FnExactUseSegmentsUptoSaid : Prop := fnExactUseSegmentsUptoRow.holds Try.pinned (OpenSpec.upto fnExactUseSegmentsSpec)

end Rows
end Go.Proofs.Ytoclojfcieimfab
