/-
  No cell of these rows narrows 'for every input' (looked for: loops, veiled, ifaces, maps, wideKeys, modest, calm, conditions, laid).
  DERIVED. THE GIVEN ROWS OF THIS SEAT. 12 by the template 'for every input the law returns true; each argument reads behind the call as it read before'; 0 by the template 'total and deterministic' (their statements: YtgnkidmljcpheaaTotals.lean).
  GIVEN WITH THE SEED: the statements are not yours to turn. If you find one false, say at which input.
  Laid BY PROGRAM, IN A SANDBOX (cutbox-rows.mjs): the forced cells as the released guide's own fill.sh prints them over the translation 429b5c698a2fd005… (all of the seat's roots in one cut). By AI agents, Wed Nov 11 2026. No macro, syntax, notation, axiom, sorry.
-/
import Derived.Test.YtgnkidmljcpheaaChecked
import GoSem.Claim
import GoSem.ClaimJoined
import GoSem.ClaimMapViews
import Derived.JoinedTies
import Derived.KernelRfl
namespace Go.Proofs.Ytgnkidmljcpheaa
/- THE CELL 'sum', in the pinned program and in every row, IS THE sha256 OF THE DUMP (.gsa) THAT YtgnkidmljcpheaaProg.lean LOADS. Nothing in Lean hashes anything: it is a label: what it is worth is what the hold of that sum in a sandbox is worth. -/
noncomputable def Try.pinned : Pinned := { name := "ytgnkidmljcpheaa", sum := "429b5c698a2fd0056f9001f9cde203d756883871a566e9156977ce0992afdcc8", checked := Try.checked }
namespace Rows
def none {H : Type} : Left H := { results := [], args := [] }

/-- 'laws.FnValidSketch': WHATEVER THE INPUT: true; the input reads as it did. -/
def fnValidSketchSpec : ChangeSpec := { name := "fnValidSketch", fn := fun _ => fun
  | [d] => { results := [.lit (.bool true)], args := [d] }
  | _ => none }
def fnValidSketchRow : OpenClaim := { program := "ytgnkidmljcpheaa", sum := "429b5c698a2fd0056f9001f9cde203d756883871a566e9156977ce0992afdcc8", func := "loop.example/cacheengine/laws.FnValidSketch", spec := "fnValidSketch", apart := false }
def FnValidSketchSaid : Prop := fnValidSketchRow.holds Try.pinned (OpenSpec.ofChange fnValidSketchSpec)

/-- ITS FALSE NEIGHBOUR: 'it returns false'. Refute it at one input. -/
def fnValidSketchWrong : ChangeSpec := { name := "fnValidSketch", fn := fun _ => fun
  | [d] => { results := [.lit (.bool false)], args := [d] }
  | _ => none }
def FnValidSketchWrongFalsely : Prop := fnValidSketchRow.holds Try.pinned (OpenSpec.ofChange fnValidSketchWrong)

/-- 'laws.FnCellOf': WHATEVER THE INPUT: true; the input reads as it did. -/
def fnCellOfSpec : ChangeSpec := { name := "fnCellOf", fn := fun _ => fun
  | [d] => { results := [.lit (.bool true)], args := [d] }
  | _ => none }
def fnCellOfRow : OpenClaim := { program := "ytgnkidmljcpheaa", sum := "429b5c698a2fd0056f9001f9cde203d756883871a566e9156977ce0992afdcc8", func := "loop.example/cacheengine/laws.FnCellOf", spec := "fnCellOf", apart := false }
def FnCellOfSaid : Prop := fnCellOfRow.holds Try.pinned (OpenSpec.ofChange fnCellOfSpec)

/-- ITS FALSE NEIGHBOUR: 'it returns false'. Refute it at one input. -/
def fnCellOfWrong : ChangeSpec := { name := "fnCellOf", fn := fun _ => fun
  | [d] => { results := [.lit (.bool false)], args := [d] }
  | _ => none }
def FnCellOfWrongFalsely : Prop := fnCellOfRow.holds Try.pinned (OpenSpec.ofChange fnCellOfWrong)

/-- 'laws.FnCountOf': WHATEVER THE INPUT: true; the input reads as it did. -/
def fnCountOfSpec : ChangeSpec := { name := "fnCountOf", fn := fun _ => fun
  | [d] => { results := [.lit (.bool true)], args := [d] }
  | _ => none }
def fnCountOfRow : OpenClaim := { program := "ytgnkidmljcpheaa", sum := "429b5c698a2fd0056f9001f9cde203d756883871a566e9156977ce0992afdcc8", func := "loop.example/cacheengine/laws.FnCountOf", spec := "fnCountOf", apart := false }
def FnCountOfSaid : Prop := fnCountOfRow.holds Try.pinned (OpenSpec.ofChange fnCountOfSpec)

/-- ITS FALSE NEIGHBOUR: 'it returns false'. Refute it at one input. -/
def fnCountOfWrong : ChangeSpec := { name := "fnCountOf", fn := fun _ => fun
  | [d] => { results := [.lit (.bool false)], args := [d] }
  | _ => none }
def FnCountOfWrongFalsely : Prop := fnCountOfRow.holds Try.pinned (OpenSpec.ofChange fnCountOfWrong)

/-- 'laws.FnAddKey': WHATEVER THE INPUT: true; the input reads as it did. -/
def fnAddKeySpec : ChangeSpec := { name := "fnAddKey", fn := fun _ => fun
  | [d] => { results := [.lit (.bool true)], args := [d] }
  | _ => none }
def fnAddKeyRow : OpenClaim := { program := "ytgnkidmljcpheaa", sum := "429b5c698a2fd0056f9001f9cde203d756883871a566e9156977ce0992afdcc8", func := "loop.example/cacheengine/laws.FnAddKey", spec := "fnAddKey", apart := false }
def FnAddKeySaid : Prop := fnAddKeyRow.holds Try.pinned (OpenSpec.ofChange fnAddKeySpec)

/-- ITS FALSE NEIGHBOUR: 'it returns false'. Refute it at one input. -/
def fnAddKeyWrong : ChangeSpec := { name := "fnAddKey", fn := fun _ => fun
  | [d] => { results := [.lit (.bool false)], args := [d] }
  | _ => none }
def FnAddKeyWrongFalsely : Prop := fnAddKeyRow.holds Try.pinned (OpenSpec.ofChange fnAddKeyWrong)

/-- 'laws.FnAddKeyOrder': WHATEVER THE INPUT: true; the input reads as it did. -/
def fnAddKeyOrderSpec : ChangeSpec := { name := "fnAddKeyOrder", fn := fun _ => fun
  | [d] => { results := [.lit (.bool true)], args := [d] }
  | _ => none }
def fnAddKeyOrderRow : OpenClaim := { program := "ytgnkidmljcpheaa", sum := "429b5c698a2fd0056f9001f9cde203d756883871a566e9156977ce0992afdcc8", func := "loop.example/cacheengine/laws.FnAddKeyOrder", spec := "fnAddKeyOrder", apart := false }
def FnAddKeyOrderSaid : Prop := fnAddKeyOrderRow.holds Try.pinned (OpenSpec.ofChange fnAddKeyOrderSpec)

/-- ITS FALSE NEIGHBOUR: 'it returns false'. Refute it at one input. -/
def fnAddKeyOrderWrong : ChangeSpec := { name := "fnAddKeyOrder", fn := fun _ => fun
  | [d] => { results := [.lit (.bool false)], args := [d] }
  | _ => none }
def FnAddKeyOrderWrongFalsely : Prop := fnAddKeyOrderRow.holds Try.pinned (OpenSpec.ofChange fnAddKeyOrderWrong)

/-- 'laws.FnAddKeyTrace': WHATEVER THE INPUT: true; the input reads as it did. -/
def fnAddKeyTraceSpec : ChangeSpec := { name := "fnAddKeyTrace", fn := fun _ => fun
  | [d] => { results := [.lit (.bool true)], args := [d] }
  | _ => none }
def fnAddKeyTraceRow : OpenClaim := { program := "ytgnkidmljcpheaa", sum := "429b5c698a2fd0056f9001f9cde203d756883871a566e9156977ce0992afdcc8", func := "loop.example/cacheengine/laws.FnAddKeyTrace", spec := "fnAddKeyTrace", apart := false }
def FnAddKeyTraceSaid : Prop := fnAddKeyTraceRow.holds Try.pinned (OpenSpec.ofChange fnAddKeyTraceSpec)

/-- ITS FALSE NEIGHBOUR: 'it returns false'. Refute it at one input. -/
def fnAddKeyTraceWrong : ChangeSpec := { name := "fnAddKeyTrace", fn := fun _ => fun
  | [d] => { results := [.lit (.bool false)], args := [d] }
  | _ => none }
def FnAddKeyTraceWrongFalsely : Prop := fnAddKeyTraceRow.holds Try.pinned (OpenSpec.ofChange fnAddKeyTraceWrong)

/-- 'laws.FnHalveSketch': WHATEVER THE INPUT: true; the input reads as it did. -/
def fnHalveSketchSpec : ChangeSpec := { name := "fnHalveSketch", fn := fun _ => fun
  | [d] => { results := [.lit (.bool true)], args := [d] }
  | _ => none }
def fnHalveSketchRow : OpenClaim := { program := "ytgnkidmljcpheaa", sum := "429b5c698a2fd0056f9001f9cde203d756883871a566e9156977ce0992afdcc8", func := "loop.example/cacheengine/laws.FnHalveSketch", spec := "fnHalveSketch", apart := false }
def FnHalveSketchSaid : Prop := fnHalveSketchRow.holds Try.pinned (OpenSpec.ofChange fnHalveSketchSpec)

/-- ITS FALSE NEIGHBOUR: 'it returns false'. Refute it at one input. -/
def fnHalveSketchWrong : ChangeSpec := { name := "fnHalveSketch", fn := fun _ => fun
  | [d] => { results := [.lit (.bool false)], args := [d] }
  | _ => none }
def FnHalveSketchWrongFalsely : Prop := fnHalveSketchRow.holds Try.pinned (OpenSpec.ofChange fnHalveSketchWrong)

/-- 'laws.FnJoinSketches': WHATEVER THE INPUT: true; the input reads as it did. -/
def fnJoinSketchesSpec : ChangeSpec := { name := "fnJoinSketches", fn := fun _ => fun
  | [d] => { results := [.lit (.bool true)], args := [d] }
  | _ => none }
def fnJoinSketchesRow : OpenClaim := { program := "ytgnkidmljcpheaa", sum := "429b5c698a2fd0056f9001f9cde203d756883871a566e9156977ce0992afdcc8", func := "loop.example/cacheengine/laws.FnJoinSketches", spec := "fnJoinSketches", apart := false }
def FnJoinSketchesSaid : Prop := fnJoinSketchesRow.holds Try.pinned (OpenSpec.ofChange fnJoinSketchesSpec)

/-- ITS FALSE NEIGHBOUR: 'it returns false'. Refute it at one input. -/
def fnJoinSketchesWrong : ChangeSpec := { name := "fnJoinSketches", fn := fun _ => fun
  | [d] => { results := [.lit (.bool false)], args := [d] }
  | _ => none }
def FnJoinSketchesWrongFalsely : Prop := fnJoinSketchesRow.holds Try.pinned (OpenSpec.ofChange fnJoinSketchesWrong)

/-- 'laws.FnJoinSketchesAdd': WHATEVER THE INPUT: true; the input reads as it did. -/
def fnJoinSketchesAddSpec : ChangeSpec := { name := "fnJoinSketchesAdd", fn := fun _ => fun
  | [d] => { results := [.lit (.bool true)], args := [d] }
  | _ => none }
def fnJoinSketchesAddRow : OpenClaim := { program := "ytgnkidmljcpheaa", sum := "429b5c698a2fd0056f9001f9cde203d756883871a566e9156977ce0992afdcc8", func := "loop.example/cacheengine/laws.FnJoinSketchesAdd", spec := "fnJoinSketchesAdd", apart := false }
def FnJoinSketchesAddSaid : Prop := fnJoinSketchesAddRow.holds Try.pinned (OpenSpec.ofChange fnJoinSketchesAddSpec)

/-- ITS FALSE NEIGHBOUR: 'it returns false'. Refute it at one input. -/
def fnJoinSketchesAddWrong : ChangeSpec := { name := "fnJoinSketchesAdd", fn := fun _ => fun
  | [d] => { results := [.lit (.bool false)], args := [d] }
  | _ => none }
def FnJoinSketchesAddWrongFalsely : Prop := fnJoinSketchesAddRow.holds Try.pinned (OpenSpec.ofChange fnJoinSketchesAddWrong)

/-- 'laws.FnValidTrace': WHATEVER THE INPUT: true; the input reads as it did. -/
def fnValidTraceSpec : ChangeSpec := { name := "fnValidTrace", fn := fun _ => fun
  | [d] => { results := [.lit (.bool true)], args := [d] }
  | _ => none }
def fnValidTraceRow : OpenClaim := { program := "ytgnkidmljcpheaa", sum := "429b5c698a2fd0056f9001f9cde203d756883871a566e9156977ce0992afdcc8", func := "loop.example/cacheengine/laws.FnValidTrace", spec := "fnValidTrace", apart := false }
def FnValidTraceSaid : Prop := fnValidTraceRow.holds Try.pinned (OpenSpec.ofChange fnValidTraceSpec)

/-- ITS FALSE NEIGHBOUR: 'it returns false'. Refute it at one input. -/
def fnValidTraceWrong : ChangeSpec := { name := "fnValidTrace", fn := fun _ => fun
  | [d] => { results := [.lit (.bool false)], args := [d] }
  | _ => none }
def FnValidTraceWrongFalsely : Prop := fnValidTraceRow.holds Try.pinned (OpenSpec.ofChange fnValidTraceWrong)

/-- 'laws.FnValidKeys': WHATEVER THE INPUT: true; the input reads as it did. -/
def fnValidKeysSpec : ChangeSpec := { name := "fnValidKeys", fn := fun _ => fun
  | [d] => { results := [.lit (.bool true)], args := [d] }
  | _ => none }
def fnValidKeysRow : OpenClaim := { program := "ytgnkidmljcpheaa", sum := "429b5c698a2fd0056f9001f9cde203d756883871a566e9156977ce0992afdcc8", func := "loop.example/cacheengine/laws.FnValidKeys", spec := "fnValidKeys", apart := false }
def FnValidKeysSaid : Prop := fnValidKeysRow.holds Try.pinned (OpenSpec.ofChange fnValidKeysSpec)

/-- ITS FALSE NEIGHBOUR: 'it returns false'. Refute it at one input. -/
def fnValidKeysWrong : ChangeSpec := { name := "fnValidKeys", fn := fun _ => fun
  | [d] => { results := [.lit (.bool false)], args := [d] }
  | _ => none }
def FnValidKeysWrongFalsely : Prop := fnValidKeysRow.holds Try.pinned (OpenSpec.ofChange fnValidKeysWrong)

/-- 'laws.FnUseRecent': WHATEVER THE INPUT: true; the input reads as it did. -/
def fnUseRecentSpec : ChangeSpec := { name := "fnUseRecent", fn := fun _ => fun
  | [d] => { results := [.lit (.bool true)], args := [d] }
  | _ => none }
def fnUseRecentRow : OpenClaim := { program := "ytgnkidmljcpheaa", sum := "429b5c698a2fd0056f9001f9cde203d756883871a566e9156977ce0992afdcc8", func := "loop.example/cacheengine/laws.FnUseRecent", spec := "fnUseRecent", apart := false }
def FnUseRecentSaid : Prop := fnUseRecentRow.holds Try.pinned (OpenSpec.ofChange fnUseRecentSpec)

/-- ITS FALSE NEIGHBOUR: 'it returns false'. Refute it at one input. -/
def fnUseRecentWrong : ChangeSpec := { name := "fnUseRecent", fn := fun _ => fun
  | [d] => { results := [.lit (.bool false)], args := [d] }
  | _ => none }
def FnUseRecentWrongFalsely : Prop := fnUseRecentRow.holds Try.pinned (OpenSpec.ofChange fnUseRecentWrong)

/- THE SECOND FORM. 'bulk': how many values and letters a reading holds, each counted each time it is reached (what is shared counts as often as it is met; a slice's spare places count too). A statement '..UptoSaid' is the law's where the arguments, and the package variables that the reading takes, are together of bulk at most 1048576: NARROWER than '..Said'. Prove '..Said' where nothing that the law and all that it calls make is longer than what came in: it says more and counts as full. Else prove '..UptoSaid'. A law counts once. -/
mutual
def uptoBulk {H : Type} : DataW H → Nat
  | .lit (.string bytes) => bytes.length + 1
  | .lit _ => 1
  | .nil => 1
  | .ptr d => uptoBulk d + 1
  | .slice elems spare => uptoBulkAll elems + uptoBulkAll spare + 1
  | .agg parts => uptoBulkAll parts + 1
  | .iface _ d => uptoBulk d + 1
  | .map entries => uptoBulkEntries entries + 1
  | .held _ => 1
def uptoBulkAll {H : Type} : List (DataW H) → Nat
  | [] => 0
  | d :: r => uptoBulk d + uptoBulkAll r
def uptoBulkEntries {H : Type} : List (Lit × DataW H) → Nat
  | [] => 0
  | x :: r => uptoBulkEntry x + uptoBulkEntries r
def uptoBulkEntry {H : Type} : Lit × DataW H → Nat
  | (.string bytes, d) => bytes.length + uptoBulk d + 1
  | (_, d) => uptoBulk d + 1
 end
def uptoSmall : (H : Type) → List (DataW H) → Bool := fun _ ds => decide (uptoBulkAll ds ≤ 1048576)
def OpenSpec.upto (s : _root_.Go.ChangeSpec) : _root_.Go.OpenSpec := { _root_.Go.OpenSpec.ofChange s with cond := some uptoSmall }

/-- 'laws.FnValidSketch', WHERE WHAT IT READS IS OF BULK AT MOST 1048576: true; the input reads as it did. -/
def fnValidSketchUptoRow : OpenClaim := { program := "ytgnkidmljcpheaa", sum := "429b5c698a2fd0056f9001f9cde203d756883871a566e9156977ce0992afdcc8", func := "loop.example/cacheengine/laws.FnValidSketch", spec := "fnValidSketch", apart := false, narrowed := true }
def FnValidSketchUptoSaid : Prop := fnValidSketchUptoRow.holds Try.pinned (OpenSpec.upto fnValidSketchSpec)

/-- 'laws.FnCellOf', WHERE WHAT IT READS IS OF BULK AT MOST 1048576: true; the input reads as it did. -/
def fnCellOfUptoRow : OpenClaim := { program := "ytgnkidmljcpheaa", sum := "429b5c698a2fd0056f9001f9cde203d756883871a566e9156977ce0992afdcc8", func := "loop.example/cacheengine/laws.FnCellOf", spec := "fnCellOf", apart := false, narrowed := true }
def FnCellOfUptoSaid : Prop := fnCellOfUptoRow.holds Try.pinned (OpenSpec.upto fnCellOfSpec)

/-- 'laws.FnCountOf', WHERE WHAT IT READS IS OF BULK AT MOST 1048576: true; the input reads as it did. -/
def fnCountOfUptoRow : OpenClaim := { program := "ytgnkidmljcpheaa", sum := "429b5c698a2fd0056f9001f9cde203d756883871a566e9156977ce0992afdcc8", func := "loop.example/cacheengine/laws.FnCountOf", spec := "fnCountOf", apart := false, narrowed := true }
def FnCountOfUptoSaid : Prop := fnCountOfUptoRow.holds Try.pinned (OpenSpec.upto fnCountOfSpec)

/-- 'laws.FnAddKey', WHERE WHAT IT READS IS OF BULK AT MOST 1048576: true; the input reads as it did. -/
def fnAddKeyUptoRow : OpenClaim := { program := "ytgnkidmljcpheaa", sum := "429b5c698a2fd0056f9001f9cde203d756883871a566e9156977ce0992afdcc8", func := "loop.example/cacheengine/laws.FnAddKey", spec := "fnAddKey", apart := false, narrowed := true }
def FnAddKeyUptoSaid : Prop := fnAddKeyUptoRow.holds Try.pinned (OpenSpec.upto fnAddKeySpec)

/-- 'laws.FnAddKeyOrder', WHERE WHAT IT READS IS OF BULK AT MOST 1048576: true; the input reads as it did. -/
def fnAddKeyOrderUptoRow : OpenClaim := { program := "ytgnkidmljcpheaa", sum := "429b5c698a2fd0056f9001f9cde203d756883871a566e9156977ce0992afdcc8", func := "loop.example/cacheengine/laws.FnAddKeyOrder", spec := "fnAddKeyOrder", apart := false, narrowed := true }
def FnAddKeyOrderUptoSaid : Prop := fnAddKeyOrderUptoRow.holds Try.pinned (OpenSpec.upto fnAddKeyOrderSpec)

/-- 'laws.FnAddKeyTrace', WHERE WHAT IT READS IS OF BULK AT MOST 1048576: true; the input reads as it did. -/
def fnAddKeyTraceUptoRow : OpenClaim := { program := "ytgnkidmljcpheaa", sum := "429b5c698a2fd0056f9001f9cde203d756883871a566e9156977ce0992afdcc8", func := "loop.example/cacheengine/laws.FnAddKeyTrace", spec := "fnAddKeyTrace", apart := false, narrowed := true }
def FnAddKeyTraceUptoSaid : Prop := fnAddKeyTraceUptoRow.holds Try.pinned (OpenSpec.upto fnAddKeyTraceSpec)

/-- 'laws.FnHalveSketch', WHERE WHAT IT READS IS OF BULK AT MOST 1048576: true; the input reads as it did. -/
def fnHalveSketchUptoRow : OpenClaim := { program := "ytgnkidmljcpheaa", sum := "429b5c698a2fd0056f9001f9cde203d756883871a566e9156977ce0992afdcc8", func := "loop.example/cacheengine/laws.FnHalveSketch", spec := "fnHalveSketch", apart := false, narrowed := true }
def FnHalveSketchUptoSaid : Prop := fnHalveSketchUptoRow.holds Try.pinned (OpenSpec.upto fnHalveSketchSpec)

/-- 'laws.FnJoinSketches', WHERE WHAT IT READS IS OF BULK AT MOST 1048576: true; the input reads as it did. -/
def fnJoinSketchesUptoRow : OpenClaim := { program := "ytgnkidmljcpheaa", sum := "429b5c698a2fd0056f9001f9cde203d756883871a566e9156977ce0992afdcc8", func := "loop.example/cacheengine/laws.FnJoinSketches", spec := "fnJoinSketches", apart := false, narrowed := true }
def FnJoinSketchesUptoSaid : Prop := fnJoinSketchesUptoRow.holds Try.pinned (OpenSpec.upto fnJoinSketchesSpec)

/-- 'laws.FnJoinSketchesAdd', WHERE WHAT IT READS IS OF BULK AT MOST 1048576: true; the input reads as it did. -/
def fnJoinSketchesAddUptoRow : OpenClaim := { program := "ytgnkidmljcpheaa", sum := "429b5c698a2fd0056f9001f9cde203d756883871a566e9156977ce0992afdcc8", func := "loop.example/cacheengine/laws.FnJoinSketchesAdd", spec := "fnJoinSketchesAdd", apart := false, narrowed := true }
def FnJoinSketchesAddUptoSaid : Prop := fnJoinSketchesAddUptoRow.holds Try.pinned (OpenSpec.upto fnJoinSketchesAddSpec)

/-- 'laws.FnValidTrace', WHERE WHAT IT READS IS OF BULK AT MOST 1048576: true; the input reads as it did. -/
def fnValidTraceUptoRow : OpenClaim := { program := "ytgnkidmljcpheaa", sum := "429b5c698a2fd0056f9001f9cde203d756883871a566e9156977ce0992afdcc8", func := "loop.example/cacheengine/laws.FnValidTrace", spec := "fnValidTrace", apart := false, narrowed := true }
def FnValidTraceUptoSaid : Prop := fnValidTraceUptoRow.holds Try.pinned (OpenSpec.upto fnValidTraceSpec)

/-- 'laws.FnValidKeys', WHERE WHAT IT READS IS OF BULK AT MOST 1048576: true; the input reads as it did. -/
def fnValidKeysUptoRow : OpenClaim := { program := "ytgnkidmljcpheaa", sum := "429b5c698a2fd0056f9001f9cde203d756883871a566e9156977ce0992afdcc8", func := "loop.example/cacheengine/laws.FnValidKeys", spec := "fnValidKeys", apart := false, narrowed := true }
def FnValidKeysUptoSaid : Prop := fnValidKeysUptoRow.holds Try.pinned (OpenSpec.upto fnValidKeysSpec)

/-- 'laws.FnUseRecent', WHERE WHAT IT READS IS OF BULK AT MOST 1048576: true; the input reads as it did. -/
def fnUseRecentUptoRow : OpenClaim := { program := "ytgnkidmljcpheaa", sum := "429b5c698a2fd0056f9001f9cde203d756883871a566e9156977ce0992afdcc8", func := "loop.example/cacheengine/laws.FnUseRecent", spec := "fnUseRecent", apart := false, narrowed := true }
def FnUseRecentUptoSaid : Prop := fnUseRecentUptoRow.holds Try.pinned (OpenSpec.upto fnUseRecentSpec)

end Rows
end Go.Proofs.Ytgnkidmljcpheaa
