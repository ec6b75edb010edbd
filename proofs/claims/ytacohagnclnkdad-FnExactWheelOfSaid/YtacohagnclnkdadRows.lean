/-
  No cell of these rows narrows 'for every input' (looked for: loops, veiled, ifaces, maps, wideKeys, modest, calm, conditions, laid).
  DERIVED. THE GIVEN ROWS OF THIS SEAT. 5 by the template 'for every input the law returns true; each argument reads behind the call as it read before'; 0 by the template 'total and deterministic' (their statements: YtacohagnclnkdadTotals.lean).
  GIVEN WITH THE SEED: the statements are not yours to turn. If you find one false, say at which input.
  Laid BY PROGRAM, IN A SANDBOX (cutbox-rows.mjs): the forced cells as the released guide's own fill.sh prints them over the translation 54cd8fc2172055f9… (all of the seat's roots in one cut). By AI agents, Wed Nov 11 2026. No macro, syntax, notation, axiom, sorry.
-/
import Derived.Test.YtacohagnclnkdadChecked
import GoSem.Claim
import GoSem.ClaimJoined
import GoSem.ClaimMapViews
import Derived.JoinedTies
import Derived.KernelRfl
namespace Go.Proofs.Ytacohagnclnkdad
/- THE CELL 'sum', in the pinned program and in every row, IS THE sha256 OF THE DUMP (.gsa) THAT YtacohagnclnkdadProg.lean LOADS. Nothing in Lean hashes anything: it is a label: what it is worth is what the hold of that sum in a sandbox is worth. -/
noncomputable def Try.pinned : Pinned := { name := "ytacohagnclnkdad", sum := "54cd8fc2172055f9de4f4c3c33d534aaf522940293aed079fe15a176bd6bd318", checked := Try.checked }
namespace Rows
def none {H : Type} : Left H := { results := [], args := [] }

/-- 'laws.FnExactSmoothRatio': WHATEVER THE INPUT: true; the input reads as it did. -/
def fnExactSmoothRatioSpec : ChangeSpec := { name := "fnExactSmoothRatio", fn := fun _ => fun
  | [d1, d2] => { results := [.lit (.bool true)], args := [d1, d2] }
  | _ => none }
def fnExactSmoothRatioRow : OpenClaim := { program := "ytacohagnclnkdad", sum := "54cd8fc2172055f9de4f4c3c33d534aaf522940293aed079fe15a176bd6bd318", func := "loop.example/cacheengine/laws.FnExactSmoothRatio", spec := "fnExactSmoothRatio", apart := false }
def FnExactSmoothRatioSaid : Prop := fnExactSmoothRatioRow.holds Try.pinned (OpenSpec.ofChange fnExactSmoothRatioSpec)

/-- ITS FALSE NEIGHBOUR: 'it returns false'. Refute it at one input. -/
def fnExactSmoothRatioWrong : ChangeSpec := { name := "fnExactSmoothRatio", fn := fun _ => fun
  | [d1, d2] => { results := [.lit (.bool false)], args := [d1, d2] }
  | _ => none }
def FnExactSmoothRatioWrongFalsely : Prop := fnExactSmoothRatioRow.holds Try.pinned (OpenSpec.ofChange fnExactSmoothRatioWrong)

/-- 'laws.FnExactValidClimb': WHATEVER THE INPUT: true; the input reads as it did. -/
def fnExactValidClimbSpec : ChangeSpec := { name := "fnExactValidClimb", fn := fun _ => fun
  | [d] => { results := [.lit (.bool true)], args := [d] }
  | _ => none }
def fnExactValidClimbRow : OpenClaim := { program := "ytacohagnclnkdad", sum := "54cd8fc2172055f9de4f4c3c33d534aaf522940293aed079fe15a176bd6bd318", func := "loop.example/cacheengine/laws.FnExactValidClimb", spec := "fnExactValidClimb", apart := false }
def FnExactValidClimbSaid : Prop := fnExactValidClimbRow.holds Try.pinned (OpenSpec.ofChange fnExactValidClimbSpec)

/-- ITS FALSE NEIGHBOUR: 'it returns false'. Refute it at one input. -/
def fnExactValidClimbWrong : ChangeSpec := { name := "fnExactValidClimb", fn := fun _ => fun
  | [d] => { results := [.lit (.bool false)], args := [d] }
  | _ => none }
def FnExactValidClimbWrongFalsely : Prop := fnExactValidClimbRow.holds Try.pinned (OpenSpec.ofChange fnExactValidClimbWrong)

/-- 'laws.FnExactNextClimb': WHATEVER THE INPUT: true; the input reads as it did. -/
def fnExactNextClimbSpec : ChangeSpec := { name := "fnExactNextClimb", fn := fun _ => fun
  | [d1, d2] => { results := [.lit (.bool true)], args := [d1, d2] }
  | _ => none }
def fnExactNextClimbRow : OpenClaim := { program := "ytacohagnclnkdad", sum := "54cd8fc2172055f9de4f4c3c33d534aaf522940293aed079fe15a176bd6bd318", func := "loop.example/cacheengine/laws.FnExactNextClimb", spec := "fnExactNextClimb", apart := false }
def FnExactNextClimbSaid : Prop := fnExactNextClimbRow.holds Try.pinned (OpenSpec.ofChange fnExactNextClimbSpec)

/-- ITS FALSE NEIGHBOUR: 'it returns false'. Refute it at one input. -/
def fnExactNextClimbWrong : ChangeSpec := { name := "fnExactNextClimb", fn := fun _ => fun
  | [d1, d2] => { results := [.lit (.bool false)], args := [d1, d2] }
  | _ => none }
def FnExactNextClimbWrongFalsely : Prop := fnExactNextClimbRow.holds Try.pinned (OpenSpec.ofChange fnExactNextClimbWrong)

/-- 'laws.FnExactBestSplit': WHATEVER THE INPUT: true; the input reads as it did. -/
def fnExactBestSplitSpec : ChangeSpec := { name := "fnExactBestSplit", fn := fun _ => fun
  | [d1, d2] => { results := [.lit (.bool true)], args := [d1, d2] }
  | _ => none }
def fnExactBestSplitRow : OpenClaim := { program := "ytacohagnclnkdad", sum := "54cd8fc2172055f9de4f4c3c33d534aaf522940293aed079fe15a176bd6bd318", func := "loop.example/cacheengine/laws.FnExactBestSplit", spec := "fnExactBestSplit", unfollowed := true, recurses := true, apart := false }
def FnExactBestSplitSaid : Prop := fnExactBestSplitRow.holds Try.pinned (OpenSpec.ofChange fnExactBestSplitSpec)

/-- ITS FALSE NEIGHBOUR: 'it returns false'. Refute it at one input. -/
def fnExactBestSplitWrong : ChangeSpec := { name := "fnExactBestSplit", fn := fun _ => fun
  | [d1, d2] => { results := [.lit (.bool false)], args := [d1, d2] }
  | _ => none }
def FnExactBestSplitWrongFalsely : Prop := fnExactBestSplitRow.holds Try.pinned (OpenSpec.ofChange fnExactBestSplitWrong)

/-- 'laws.FnExactWheelOf': WHATEVER THE INPUT: true; the input reads as it did. -/
def fnExactWheelOfSpec : ChangeSpec := { name := "fnExactWheelOf", fn := fun _ => fun
  | [d] => { results := [.lit (.bool true)], args := [d] }
  | _ => none }
def fnExactWheelOfRow : OpenClaim := { program := "ytacohagnclnkdad", sum := "54cd8fc2172055f9de4f4c3c33d534aaf522940293aed079fe15a176bd6bd318", func := "loop.example/cacheengine/laws.FnExactWheelOf", spec := "fnExactWheelOf", apart := false }
def FnExactWheelOfSaid : Prop := fnExactWheelOfRow.holds Try.pinned (OpenSpec.ofChange fnExactWheelOfSpec)

/-- ITS FALSE NEIGHBOUR: 'it returns false'. Refute it at one input. -/
def fnExactWheelOfWrong : ChangeSpec := { name := "fnExactWheelOf", fn := fun _ => fun
  | [d] => { results := [.lit (.bool false)], args := [d] }
  | _ => none }
def FnExactWheelOfWrongFalsely : Prop := fnExactWheelOfRow.holds Try.pinned (OpenSpec.ofChange fnExactWheelOfWrong)

/- THE SECOND FORM. 'bulk': how many values and letters a reading holds, each counted each time it is reached (what is shared counts as often as it is met; a slice's spare places count too). A statement '..UptoSaid' is the law's where the arguments, and the package variables that the reading takes, are together of bulk at most 1048576: NARROWER than '..Said'. Prove '..Said' where nothing that the law and all that it calls make is longer than what came in: it says more and counts as full. Else prove '..UptoSaid'. A law counts once. -/
mutual
def uptoBulk {H : Type} : DataW H → Nat
  | .lit (.string bytes) => bytes.length + 1
  | .lit _ => 1
  | .nil => 1
  | .ptr d => uptoBulk d + 1
  | .slice elems spare => uptoBulkAll elems + uptoBulkAll spare + 1
  | .agg parts => uptoBulkAll parts + 1
  | .iface _ d => uptoBulk d + 1
  | .map entries => uptoBulkEntries entries + 1
  | .held _ => 1
def uptoBulkAll {H : Type} : List (DataW H) → Nat
  | [] => 0
  | d :: r => uptoBulk d + uptoBulkAll r
def uptoBulkEntries {H : Type} : List (Lit × DataW H) → Nat
  | [] => 0
  | x :: r => uptoBulkEntry x + uptoBulkEntries r
def uptoBulkEntry {H : Type} : Lit × DataW H → Nat
  | (.string bytes, d) => bytes.length + uptoBulk d + 1
  | (_, d) => uptoBulk d + 1
 end
def uptoSmall : (H : Type) → List (DataW H) → Bool := fun _ ds => decide (uptoBulkAll ds ≤ 1048576)
def OpenSpec.upto (s : _root_.Go.ChangeSpec) : _root_.Go.OpenSpec := { _root_.Go.OpenSpec.ofChange s with cond := some uptoSmall }

/-- 'laws.FnExactSmoothRatio', WHERE WHAT IT READS IS OF BULK AT MOST 1048576: true; the input reads as it did. -/
def fnExactSmoothRatioUptoRow : OpenClaim := { program := "ytacohagnclnkdad", sum := "54cd8fc2172055f9de4f4c3c33d534aaf522940293aed079fe15a176bd6bd318", func := "loop.example/cacheengine/laws.FnExactSmoothRatio", spec := "fnExactSmoothRatio", apart := false, narrowed := true }
def FnExactSmoothRatioUptoSaid : Prop := fnExactSmoothRatioUptoRow.holds Try.pinned (OpenSpec.upto fnExactSmoothRatioSpec)

/-- 'laws.FnExactValidClimb', WHERE WHAT IT READS IS OF BULK AT MOST 1048576: true; the input reads as it did. -/
def fnExactValidClimbUptoRow : OpenClaim := { program := "ytacohagnclnkdad", sum := "54cd8fc2172055f9de4f4c3c33d534aaf522940293aed079fe15a176bd6bd318", func := "loop.example/cacheengine/laws.FnExactValidClimb", spec := "fnExactValidClimb", apart := false, narrowed := true }
def FnExactValidClimbUptoSaid : Prop := fnExactValidClimbUptoRow.holds Try.pinned (OpenSpec.upto fnExactValidClimbSpec)

/-- 'laws.FnExactNextClimb', WHERE WHAT IT READS IS OF BULK AT MOST 1048576: true; the input reads as it did. -/
def fnExactNextClimbUptoRow : OpenClaim := { program := "ytacohagnclnkdad", sum := "54cd8fc2172055f9de4f4c3c33d534aaf522940293aed079fe15a176bd6bd318", func := "loop.example/cacheengine/laws.FnExactNextClimb", spec := "fnExactNextClimb", apart := false, narrowed := true }
def FnExactNextClimbUptoSaid : Prop := fnExactNextClimbUptoRow.holds Try.pinned (OpenSpec.upto fnExactNextClimbSpec)

/-- 'laws.FnExactBestSplit', WHERE WHAT IT READS IS OF BULK AT MOST 1048576: true; the input reads as it did. -/
def fnExactBestSplitUptoRow : OpenClaim := { program := "ytacohagnclnkdad", sum := "54cd8fc2172055f9de4f4c3c33d534aaf522940293aed079fe15a176bd6bd318", func := "loop.example/cacheengine/laws.FnExactBestSplit", spec := "fnExactBestSplit", unfollowed := true, recurses := true, apart := false, narrowed := true }
def FnExactBestSplitUptoSaid : Prop := fnExactBestSplitUptoRow.holds Try.pinned (OpenSpec.upto fnExactBestSplitSpec)

/-- 'laws.FnExactWheelOf', WHERE WHAT IT READS IS OF BULK AT MOST 1048576: true; the input reads as it did. -/
def fnExactWheelOfUptoRow : OpenClaim := { program := "ytacohagnclnkdad", sum := "54cd8fc2172055f9de4f4c3c33d534aaf522940293aed079fe15a176bd6bd318", func := "loop.example/cacheengine/laws.FnExactWheelOf", spec := "fnExactWheelOf", apart := false, narrowed := true }
def FnExactWheelOfUptoSaid : Prop := fnExactWheelOfUptoRow.holds Try.pinned (OpenSpec.upto fnExactWheelOfSpec)

end Rows
end Go.Proofs.Ytacohagnclnkdad
