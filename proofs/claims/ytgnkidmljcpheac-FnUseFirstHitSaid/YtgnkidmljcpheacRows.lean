/-
  No cell of these rows narrows 'for every input' (looked for: loops, veiled, ifaces, maps, wideKeys, modest, calm, conditions, laid).
  DERIVED. THE GIVEN ROWS OF THIS SEAT. 12 by the template 'for every input the law returns true; each argument reads behind the call as it read before'; 0 by the template 'total and deterministic' (their statements: YtgnkidmljcpheacTotals.lean).
  GIVEN WITH THE SEED: the statements are not yours to turn. If you find one false, say at which input.
  Laid BY PROGRAM, IN A SANDBOX (cutbox-rows.mjs): the forced cells as the released guide's own fill.sh prints them over the translation b3a76afcef05c9a3… (all of the seat's roots in one cut). By AI agents, Wed Nov 11 2026. No macro, syntax, notation, axiom, sorry.
-/
import Derived.Test.YtgnkidmljcpheacChecked
import GoSem.Claim
import GoSem.ClaimJoined
import GoSem.ClaimMapViews
import Derived.JoinedTies
import Derived.KernelRfl
namespace Go.Proofs.Ytgnkidmljcpheac
/- THE CELL 'sum', in the pinned program and in every row, IS THE sha256 OF THE DUMP (.gsa) THAT YtgnkidmljcpheacProg.lean LOADS. Nothing in Lean hashes anything: it is a label: what it is worth is what the hold of that sum in a sandbox is worth. -/
noncomputable def Try.pinned : Pinned := { name := "ytgnkidmljcpheac", sum := "b3a76afcef05c9a3bd16c0db8ff69c0a9b2f0bd79aa517eb2a843d0da31343bf", checked := Try.checked }
namespace Rows
def none {H : Type} : Left H := { results := [], args := [] }

/-- 'laws.FnUseRecentRoom': WHATEVER THE INPUT: true; the input reads as it did. -/
def fnUseRecentRoomSpec : ChangeSpec := { name := "fnUseRecentRoom", fn := fun _ => fun
  | [d] => { results := [.lit (.bool true)], args := [d] }
  | _ => none }
def fnUseRecentRoomRow : OpenClaim := { program := "ytgnkidmljcpheac", sum := "b3a76afcef05c9a3bd16c0db8ff69c0a9b2f0bd79aa517eb2a843d0da31343bf", func := "loop.example/cacheengine/laws.FnUseRecentRoom", spec := "fnUseRecentRoom", apart := false }
def FnUseRecentRoomSaid : Prop := fnUseRecentRoomRow.holds Try.pinned (OpenSpec.ofChange fnUseRecentRoomSpec)

/-- ITS FALSE NEIGHBOUR: 'it returns false'. Refute it at one input. -/
def fnUseRecentRoomWrong : ChangeSpec := { name := "fnUseRecentRoom", fn := fun _ => fun
  | [d] => { results := [.lit (.bool false)], args := [d] }
  | _ => none }
def FnUseRecentRoomWrongFalsely : Prop := fnUseRecentRoomRow.holds Try.pinned (OpenSpec.ofChange fnUseRecentRoomWrong)

/-- 'laws.FnUseFirstHit': WHATEVER THE INPUT: true; the input reads as it did. -/
def fnUseFirstHitSpec : ChangeSpec := { name := "fnUseFirstHit", fn := fun _ => fun
  | [d] => { results := [.lit (.bool true)], args := [d] }
  | _ => none }
def fnUseFirstHitRow : OpenClaim := { program := "ytgnkidmljcpheac", sum := "b3a76afcef05c9a3bd16c0db8ff69c0a9b2f0bd79aa517eb2a843d0da31343bf", func := "loop.example/cacheengine/laws.FnUseFirstHit", spec := "fnUseFirstHit", apart := false }
def FnUseFirstHitSaid : Prop := fnUseFirstHitRow.holds Try.pinned (OpenSpec.ofChange fnUseFirstHitSpec)

/-- ITS FALSE NEIGHBOUR: 'it returns false'. Refute it at one input. -/
def fnUseFirstHitWrong : ChangeSpec := { name := "fnUseFirstHit", fn := fun _ => fun
  | [d] => { results := [.lit (.bool false)], args := [d] }
  | _ => none }
def FnUseFirstHitWrongFalsely : Prop := fnUseFirstHitRow.holds Try.pinned (OpenSpec.ofChange fnUseFirstHitWrong)

/-- 'laws.FnExactValidSketch': WHATEVER THE INPUT: true; the input reads as it did. -/
def fnExactValidSketchSpec : ChangeSpec := { name := "fnExactValidSketch", fn := fun _ => fun
  | [d] => { results := [.lit (.bool true)], args := [d] }
  | _ => none }
def fnExactValidSketchRow : OpenClaim := { program := "ytgnkidmljcpheac", sum := "b3a76afcef05c9a3bd16c0db8ff69c0a9b2f0bd79aa517eb2a843d0da31343bf", func := "loop.example/cacheengine/laws.FnExactValidSketch", spec := "fnExactValidSketch", apart := false }
def FnExactValidSketchSaid : Prop := fnExactValidSketchRow.holds Try.pinned (OpenSpec.ofChange fnExactValidSketchSpec)

/-- ITS FALSE NEIGHBOUR: 'it returns false'. Refute it at one input. -/
def fnExactValidSketchWrong : ChangeSpec := { name := "fnExactValidSketch", fn := fun _ => fun
  | [d] => { results := [.lit (.bool false)], args := [d] }
  | _ => none }
def FnExactValidSketchWrongFalsely : Prop := fnExactValidSketchRow.holds Try.pinned (OpenSpec.ofChange fnExactValidSketchWrong)

/-- 'laws.FnExactEmptySketch': WHATEVER THE INPUT: true; the input reads as it did. -/
def fnExactEmptySketchSpec : ChangeSpec := { name := "fnExactEmptySketch", fn := fun _ => fun
  | [] => { results := [.lit (.bool true)], args := [] }
  | _ => none }
def fnExactEmptySketchRow : OpenClaim := { program := "ytgnkidmljcpheac", sum := "b3a76afcef05c9a3bd16c0db8ff69c0a9b2f0bd79aa517eb2a843d0da31343bf", func := "loop.example/cacheengine/laws.FnExactEmptySketch", spec := "fnExactEmptySketch", apart := false }
def FnExactEmptySketchSaid : Prop := fnExactEmptySketchRow.holds Try.pinned (OpenSpec.ofChange fnExactEmptySketchSpec)

/-- ITS FALSE NEIGHBOUR: 'it returns false'. Refute it at one input. -/
def fnExactEmptySketchWrong : ChangeSpec := { name := "fnExactEmptySketch", fn := fun _ => fun
  | [] => { results := [.lit (.bool false)], args := [] }
  | _ => none }
def FnExactEmptySketchWrongFalsely : Prop := fnExactEmptySketchRow.holds Try.pinned (OpenSpec.ofChange fnExactEmptySketchWrong)

/-- 'laws.FnExactCellOf': WHATEVER THE INPUT: true; the input reads as it did. -/
def fnExactCellOfSpec : ChangeSpec := { name := "fnExactCellOf", fn := fun _ => fun
  | [d1, d2] => { results := [.lit (.bool true)], args := [d1, d2] }
  | _ => none }
def fnExactCellOfRow : OpenClaim := { program := "ytgnkidmljcpheac", sum := "b3a76afcef05c9a3bd16c0db8ff69c0a9b2f0bd79aa517eb2a843d0da31343bf", func := "loop.example/cacheengine/laws.FnExactCellOf", spec := "fnExactCellOf", apart := false }
def FnExactCellOfSaid : Prop := fnExactCellOfRow.holds Try.pinned (OpenSpec.ofChange fnExactCellOfSpec)

/-- ITS FALSE NEIGHBOUR: 'it returns false'. Refute it at one input. -/
def fnExactCellOfWrong : ChangeSpec := { name := "fnExactCellOf", fn := fun _ => fun
  | [d1, d2] => { results := [.lit (.bool false)], args := [d1, d2] }
  | _ => none }
def FnExactCellOfWrongFalsely : Prop := fnExactCellOfRow.holds Try.pinned (OpenSpec.ofChange fnExactCellOfWrong)

/-- 'laws.FnExactCountOf': WHATEVER THE INPUT: true; the input reads as it did. -/
def fnExactCountOfSpec : ChangeSpec := { name := "fnExactCountOf", fn := fun _ => fun
  | [d1, d2] => { results := [.lit (.bool true)], args := [d1, d2] }
  | _ => none }
def fnExactCountOfRow : OpenClaim := { program := "ytgnkidmljcpheac", sum := "b3a76afcef05c9a3bd16c0db8ff69c0a9b2f0bd79aa517eb2a843d0da31343bf", func := "loop.example/cacheengine/laws.FnExactCountOf", spec := "fnExactCountOf", apart := false }
def FnExactCountOfSaid : Prop := fnExactCountOfRow.holds Try.pinned (OpenSpec.ofChange fnExactCountOfSpec)

/-- ITS FALSE NEIGHBOUR: 'it returns false'. Refute it at one input. -/
def fnExactCountOfWrong : ChangeSpec := { name := "fnExactCountOf", fn := fun _ => fun
  | [d1, d2] => { results := [.lit (.bool false)], args := [d1, d2] }
  | _ => none }
def FnExactCountOfWrongFalsely : Prop := fnExactCountOfRow.holds Try.pinned (OpenSpec.ofChange fnExactCountOfWrong)

/-- 'laws.FnExactAddKey': WHATEVER THE INPUT: true; the input reads as it did. -/
def fnExactAddKeySpec : ChangeSpec := { name := "fnExactAddKey", fn := fun _ => fun
  | [d1, d2] => { results := [.lit (.bool true)], args := [d1, d2] }
  | _ => none }
def fnExactAddKeyRow : OpenClaim := { program := "ytgnkidmljcpheac", sum := "b3a76afcef05c9a3bd16c0db8ff69c0a9b2f0bd79aa517eb2a843d0da31343bf", func := "loop.example/cacheengine/laws.FnExactAddKey", spec := "fnExactAddKey", apart := false }
def FnExactAddKeySaid : Prop := fnExactAddKeyRow.holds Try.pinned (OpenSpec.ofChange fnExactAddKeySpec)

/-- ITS FALSE NEIGHBOUR: 'it returns false'. Refute it at one input. -/
def fnExactAddKeyWrong : ChangeSpec := { name := "fnExactAddKey", fn := fun _ => fun
  | [d1, d2] => { results := [.lit (.bool false)], args := [d1, d2] }
  | _ => none }
def FnExactAddKeyWrongFalsely : Prop := fnExactAddKeyRow.holds Try.pinned (OpenSpec.ofChange fnExactAddKeyWrong)

/-- 'laws.FnExactHalveSketch': WHATEVER THE INPUT: true; the input reads as it did. -/
def fnExactHalveSketchSpec : ChangeSpec := { name := "fnExactHalveSketch", fn := fun _ => fun
  | [d] => { results := [.lit (.bool true)], args := [d] }
  | _ => none }
def fnExactHalveSketchRow : OpenClaim := { program := "ytgnkidmljcpheac", sum := "b3a76afcef05c9a3bd16c0db8ff69c0a9b2f0bd79aa517eb2a843d0da31343bf", func := "loop.example/cacheengine/laws.FnExactHalveSketch", spec := "fnExactHalveSketch", apart := false }
def FnExactHalveSketchSaid : Prop := fnExactHalveSketchRow.holds Try.pinned (OpenSpec.ofChange fnExactHalveSketchSpec)

/-- ITS FALSE NEIGHBOUR: 'it returns false'. Refute it at one input. -/
def fnExactHalveSketchWrong : ChangeSpec := { name := "fnExactHalveSketch", fn := fun _ => fun
  | [d] => { results := [.lit (.bool false)], args := [d] }
  | _ => none }
def FnExactHalveSketchWrongFalsely : Prop := fnExactHalveSketchRow.holds Try.pinned (OpenSpec.ofChange fnExactHalveSketchWrong)

/-- 'laws.FnExactJoinSketches': WHATEVER THE INPUT: true; the input reads as it did. -/
def fnExactJoinSketchesSpec : ChangeSpec := { name := "fnExactJoinSketches", fn := fun _ => fun
  | [d1, d2] => { results := [.lit (.bool true)], args := [d1, d2] }
  | _ => none }
def fnExactJoinSketchesRow : OpenClaim := { program := "ytgnkidmljcpheac", sum := "b3a76afcef05c9a3bd16c0db8ff69c0a9b2f0bd79aa517eb2a843d0da31343bf", func := "loop.example/cacheengine/laws.FnExactJoinSketches", spec := "fnExactJoinSketches", apart := false }
def FnExactJoinSketchesSaid : Prop := fnExactJoinSketchesRow.holds Try.pinned (OpenSpec.ofChange fnExactJoinSketchesSpec)

/-- ITS FALSE NEIGHBOUR: 'it returns false'. Refute it at one input. -/
def fnExactJoinSketchesWrong : ChangeSpec := { name := "fnExactJoinSketches", fn := fun _ => fun
  | [d1, d2] => { results := [.lit (.bool false)], args := [d1, d2] }
  | _ => none }
def FnExactJoinSketchesWrongFalsely : Prop := fnExactJoinSketchesRow.holds Try.pinned (OpenSpec.ofChange fnExactJoinSketchesWrong)

/-- 'laws.FnExactValidTrace': WHATEVER THE INPUT: true; the input reads as it did. -/
def fnExactValidTraceSpec : ChangeSpec := { name := "fnExactValidTrace", fn := fun _ => fun
  | [d] => { results := [.lit (.bool true)], args := [d] }
  | _ => none }
def fnExactValidTraceRow : OpenClaim := { program := "ytgnkidmljcpheac", sum := "b3a76afcef05c9a3bd16c0db8ff69c0a9b2f0bd79aa517eb2a843d0da31343bf", func := "loop.example/cacheengine/laws.FnExactValidTrace", spec := "fnExactValidTrace", apart := false }
def FnExactValidTraceSaid : Prop := fnExactValidTraceRow.holds Try.pinned (OpenSpec.ofChange fnExactValidTraceSpec)

/-- ITS FALSE NEIGHBOUR: 'it returns false'. Refute it at one input. -/
def fnExactValidTraceWrong : ChangeSpec := { name := "fnExactValidTrace", fn := fun _ => fun
  | [d] => { results := [.lit (.bool false)], args := [d] }
  | _ => none }
def FnExactValidTraceWrongFalsely : Prop := fnExactValidTraceRow.holds Try.pinned (OpenSpec.ofChange fnExactValidTraceWrong)

/-- 'laws.FnExactValidKeys': WHATEVER THE INPUT: true; the input reads as it did. -/
def fnExactValidKeysSpec : ChangeSpec := { name := "fnExactValidKeys", fn := fun _ => fun
  | [d1, d2] => { results := [.lit (.bool true)], args := [d1, d2] }
  | _ => none }
def fnExactValidKeysRow : OpenClaim := { program := "ytgnkidmljcpheac", sum := "b3a76afcef05c9a3bd16c0db8ff69c0a9b2f0bd79aa517eb2a843d0da31343bf", func := "loop.example/cacheengine/laws.FnExactValidKeys", spec := "fnExactValidKeys", apart := false }
def FnExactValidKeysSaid : Prop := fnExactValidKeysRow.holds Try.pinned (OpenSpec.ofChange fnExactValidKeysSpec)

/-- ITS FALSE NEIGHBOUR: 'it returns false'. Refute it at one input. -/
def fnExactValidKeysWrong : ChangeSpec := { name := "fnExactValidKeys", fn := fun _ => fun
  | [d1, d2] => { results := [.lit (.bool false)], args := [d1, d2] }
  | _ => none }
def FnExactValidKeysWrongFalsely : Prop := fnExactValidKeysRow.holds Try.pinned (OpenSpec.ofChange fnExactValidKeysWrong)

/-- 'laws.FnExactUseRecent': WHATEVER THE INPUT: true; the input reads as it did. -/
def fnExactUseRecentSpec : ChangeSpec := { name := "fnExactUseRecent", fn := fun _ => fun
  | [d1, d2, d3] => { results := [.lit (.bool true)], args := [d1, d2, d3] }
  | _ => none }
def fnExactUseRecentRow : OpenClaim := { program := "ytgnkidmljcpheac", sum := "b3a76afcef05c9a3bd16c0db8ff69c0a9b2f0bd79aa517eb2a843d0da31343bf", func := "loop.example/cacheengine/laws.FnExactUseRecent", spec := "fnExactUseRecent", apart := false }
def FnExactUseRecentSaid : Prop := fnExactUseRecentRow.holds Try.pinned (OpenSpec.ofChange fnExactUseRecentSpec)

/-- ITS FALSE NEIGHBOUR: 'it returns false'. Refute it at one input. -/
def fnExactUseRecentWrong : ChangeSpec := { name := "fnExactUseRecent", fn := fun _ => fun
  | [d1, d2, d3] => { results := [.lit (.bool false)], args := [d1, d2, d3] }
  | _ => none }
def FnExactUseRecentWrongFalsely : Prop := fnExactUseRecentRow.holds Try.pinned (OpenSpec.ofChange fnExactUseRecentWrong)

/- THE SECOND FORM. 'bulk': how many values and letters a reading holds, each counted each time it is reached (what is shared counts as often as it is met; a slice's spare places count too). A statement '..UptoSaid' is the law's where the arguments, and the package variables that the reading takes, are together of bulk at most 1048576: NARROWER than '..Said'. Prove '..Said' where nothing that the law and all that it calls make is longer than what came in: it says more and counts as full. Else prove '..UptoSaid'. A law counts once. -/
mutual
def uptoBulk {H : Type} : DataW H → Nat
  | .lit (.string bytes) => bytes.length + 1
  | .lit _ => 1
  | .nil => 1
  | .ptr d => uptoBulk d + 1
  | .slice elems spare => uptoBulkAll elems + uptoBulkAll spare + 1
  | .agg parts => uptoBulkAll parts + 1
  | .iface _ d => uptoBulk d + 1
  | .map entries => uptoBulkEntries entries + 1
  | .held _ => 1
def uptoBulkAll {H : Type} : List (DataW H) → Nat
  | [] => 0
  | d :: r => uptoBulk d + uptoBulkAll r
def uptoBulkEntries {H : Type} : List (Lit × DataW H) → Nat
  | [] => 0
  | x :: r => uptoBulkEntry x + uptoBulkEntries r
def uptoBulkEntry {H : Type} : Lit × DataW H → Nat
  | (.string bytes, d) => bytes.length + uptoBulk d + 1
  | (_, d) => uptoBulk d + 1
 end
def uptoSmall : (H : Type) → List (DataW H) → Bool := fun _ ds => decide (uptoBulkAll ds ≤ 1048576)
def OpenSpec.upto (s : _root_.Go.ChangeSpec) : _root_.Go.OpenSpec := { _root_.Go.OpenSpec.ofChange s with cond := some uptoSmall }

/-- 'laws.FnUseRecentRoom', WHERE WHAT IT READS IS OF BULK AT MOST 1048576: true; the input reads as it did. -/
def fnUseRecentRoomUptoRow : OpenClaim := { program := "ytgnkidmljcpheac", sum := "b3a76afcef05c9a3bd16c0db8ff69c0a9b2f0bd79aa517eb2a843d0da31343bf", func := "loop.example/cacheengine/laws.FnUseRecentRoom", spec := "fnUseRecentRoom", apart := false, narrowed := true }
def FnUseRecentRoomUptoSaid : Prop := fnUseRecentRoomUptoRow.holds Try.pinned (OpenSpec.upto fnUseRecentRoomSpec)

/-- 'laws.FnUseFirstHit', WHERE WHAT IT READS IS OF BULK AT MOST 1048576: true; the input reads as it did. -/
def fnUseFirstHitUptoRow : OpenClaim := { program := "ytgnkidmljcpheac", sum := "b3a76afcef05c9a3bd16c0db8ff69c0a9b2f0bd79aa517eb2a843d0da31343bf", func := "loop.example/cacheengine/laws.FnUseFirstHit", spec := "fnUseFirstHit", apart := false, narrowed := true }
def FnUseFirstHitUptoSaid : Prop := fnUseFirstHitUptoRow.holds Try.pinned (OpenSpec.upto fnUseFirstHitSpec)

/-- 'laws.FnExactValidSketch', WHERE WHAT IT READS IS OF BULK AT MOST 1048576: true; the input reads as it did. -/
def fnExactValidSketchUptoRow : OpenClaim := { program := "ytgnkidmljcpheac", sum := "b3a76afcef05c9a3bd16c0db8ff69c0a9b2f0bd79aa517eb2a843d0da31343bf", func := "loop.example/cacheengine/laws.FnExactValidSketch", spec := "fnExactValidSketch", apart := false, narrowed := true }
def FnExactValidSketchUptoSaid : Prop := fnExactValidSketchUptoRow.holds Try.pinned (OpenSpec.upto fnExactValidSketchSpec)

/-- 'laws.FnExactEmptySketch', WHERE WHAT IT READS IS OF BULK AT MOST 1048576: true; the input reads as it did. -/
def fnExactEmptySketchUptoRow : OpenClaim := { program := "ytgnkidmljcpheac", sum := "b3a76afcef05c9a3bd16c0db8ff69c0a9b2f0bd79aa517eb2a843d0da31343bf", func := "loop.example/cacheengine/laws.FnExactEmptySketch", spec := "fnExactEmptySketch", apart := false, narrowed := true }
def FnExactEmptySketchUptoSaid : Prop := fnExactEmptySketchUptoRow.holds Try.pinned (OpenSpec.upto fnExactEmptySketchSpec)

/-- 'laws.FnExactCellOf', WHERE WHAT IT READS IS OF BULK AT MOST 1048576: true; the input reads as it did. -/
def fnExactCellOfUptoRow : OpenClaim := { program := "ytgnkidmljcpheac", sum := "b3a76afcef05c9a3bd16c0db8ff69c0a9b2f0bd79aa517eb2a843d0da31343bf", func := "loop.example/cacheengine/laws.FnExactCellOf", spec := "fnExactCellOf", apart := false, narrowed := true }
def FnExactCellOfUptoSaid : Prop := fnExactCellOfUptoRow.holds Try.pinned (OpenSpec.upto fnExactCellOfSpec)

/-- 'laws.FnExactCountOf', WHERE WHAT IT READS IS OF BULK AT MOST 1048576: true; the input reads as it did. -/
def fnExactCountOfUptoRow : OpenClaim := { program := "ytgnkidmljcpheac", sum := "b3a76afcef05c9a3bd16c0db8ff69c0a9b2f0bd79aa517eb2a843d0da31343bf", func := "loop.example/cacheengine/laws.FnExactCountOf", spec := "fnExactCountOf", apart := false, narrowed := true }
def FnExactCountOfUptoSaid : Prop := fnExactCountOfUptoRow.holds Try.pinned (OpenSpec.upto fnExactCountOfSpec)

/-- 'laws.FnExactAddKey', WHERE WHAT IT READS IS OF BULK AT MOST 1048576: true; the input reads as it did. -/
def fnExactAddKeyUptoRow : OpenClaim := { program := "ytgnkidmljcpheac", sum := "b3a76afcef05c9a3bd16c0db8ff69c0a9b2f0bd79aa517eb2a843d0da31343bf", func := "loop.example/cacheengine/laws.FnExactAddKey", spec := "fnExactAddKey", apart := false, narrowed := true }
def FnExactAddKeyUptoSaid : Prop := fnExactAddKeyUptoRow.holds Try.pinned (OpenSpec.upto fnExactAddKeySpec)

/-- 'laws.FnExactHalveSketch', WHERE WHAT IT READS IS OF BULK AT MOST 1048576: true; the input reads as it did. -/
def fnExactHalveSketchUptoRow : OpenClaim := { program := "ytgnkidmljcpheac", sum := "b3a76afcef05c9a3bd16c0db8ff69c0a9b2f0bd79aa517eb2a843d0da31343bf", func := "loop.example/cacheengine/laws.FnExactHalveSketch", spec := "fnExactHalveSketch", apart := false, narrowed := true }
def FnExactHalveSketchUptoSaid : Prop := fnExactHalveSketchUptoRow.holds Try.pinned (OpenSpec.upto fnExactHalveSketchSpec)

/-- 'laws.FnExactJoinSketches', WHERE WHAT IT READS IS OF BULK AT MOST 1048576: true; the input reads as it did. -/
def fnExactJoinSketchesUptoRow : OpenClaim := { program := "ytgnkidmljcpheac", sum := "b3a76afcef05c9a3bd16c0db8ff69c0a9b2f0bd79aa517eb2a843d0da31343bf", func := "loop.example/cacheengine/laws.FnExactJoinSketches", spec := "fnExactJoinSketches", apart := false, narrowed := true }
def FnExactJoinSketchesUptoSaid : Prop := fnExactJoinSketchesUptoRow.holds Try.pinned (OpenSpec.upto fnExactJoinSketchesSpec)

/-- 'laws.FnExactValidTrace', WHERE WHAT IT READS IS OF BULK AT MOST 1048576: true; the input reads as it did. -/
def fnExactValidTraceUptoRow : OpenClaim := { program := "ytgnkidmljcpheac", sum := "b3a76afcef05c9a3bd16c0db8ff69c0a9b2f0bd79aa517eb2a843d0da31343bf", func := "loop.example/cacheengine/laws.FnExactValidTrace", spec := "fnExactValidTrace", apart := false, narrowed := true }
def FnExactValidTraceUptoSaid : Prop := fnExactValidTraceUptoRow.holds Try.pinned (OpenSpec.upto fnExactValidTraceSpec)

/-- 'laws.FnExactValidKeys', WHERE WHAT IT READS IS OF BULK AT MOST 1048576: true; the input reads as it did. -/
def fnExactValidKeysUptoRow : OpenClaim := { program := "ytgnkidmljcpheac", sum := "b3a76afcef05c9a3bd16c0db8ff69c0a9b2f0bd79aa517eb2a843d0da31343bf", func := "loop.example/cacheengine/laws.FnExactValidKeys", spec := "fnExactValidKeys", apart := false, narrowed := true }
def FnExactValidKeysUptoSaid : Prop := fnExactValidKeysUptoRow.holds Try.pinned (OpenSpec.upto fnExactValidKeysSpec)

/-- 'laws.FnExactUseRecent', WHERE WHAT IT READS IS OF BULK AT MOST 1048576: true; the input reads as it did. -/
def fnExactUseRecentUptoRow : OpenClaim := { program := "ytgnkidmljcpheac", sum := "b3a76afcef05c9a3bd16c0db8ff69c0a9b2f0bd79aa517eb2a843d0da31343bf", func := "loop.example/cacheengine/laws.FnExactUseRecent", spec := "fnExactUseRecent", apart := false, narrowed := true }
def FnExactUseRecentUptoSaid : Prop := fnExactUseRecentUptoRow.holds Try.pinned (OpenSpec.upto fnExactUseRecentSpec)

end Rows
end Go.Proofs.Ytgnkidmljcpheac
