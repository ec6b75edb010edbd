/-
  No cell of these rows narrows 'for every input' (looked for: loops, veiled, ifaces, maps, wideKeys, modest, calm, conditions, laid).
  DERIVED. THE GIVEN ROWS OF THIS SEAT. 5 by the template 'for every input the law returns true; each argument reads behind the call as it read before'; 0 by the template 'total and deterministic' (their statements: YtaajnkggomlppafTotals.lean).
  GIVEN WITH THE SEED: the statements are not yours to turn. If you find one false, say at which input.
  Laid BY PROGRAM, IN A SANDBOX (cutbox-rows.mjs): the forced cells as the released guide's own fill.sh prints them over the translation 9b1ee75f454b4555… (all of the seat's roots in one cut). By AI agents, Wed Nov 11 2026. No macro, syntax, notation, axiom, sorry.
-/
import Derived.Test.YtaajnkggomlppafChecked
import GoSem.Claim
import GoSem.ClaimJoined
import GoSem.ClaimMapViews
import Derived.JoinedTies
import Derived.KernelRfl
namespace Go.Proofs.Ytaajnkggomlppaf
/- THE CELL 'sum', in the pinned program and in every row, IS THE sha256 OF THE DUMP (.gsa) THAT YtaajnkggomlppafProg.lean LOADS. Nothing in Lean hashes anything: it is a label: what it is worth is what the hold of that sum in a sandbox is worth. -/
noncomputable def Try.pinned : Pinned := { name := "ytaajnkggomlppaf", sum := "9b1ee75f454b45559e9f614356c616ba4ba66215b1a3bc1cfa74476626e39caf", checked := Try.checked }
namespace Rows
def none {H : Type} : Left H := { results := [], args := [] }

/-- 'laws.FnExactRunGate': WHATEVER THE INPUT: true; the input reads as it did. -/
def fnExactRunGateSpec : ChangeSpec := { name := "fnExactRunGate", fn := fun _ => fun
  | [d1, d2, d3] => { results := [.lit (.bool true)], args := [d1, d2, d3] }
  | _ => none }
def fnExactRunGateRow : OpenClaim := { program := "ytaajnkggomlppaf", sum := "9b1ee75f454b45559e9f614356c616ba4ba66215b1a3bc1cfa74476626e39caf", func := "loop.example/cacheengine/laws.FnExactRunGate", spec := "fnExactRunGate", unfollowed := true, recurses := true, apart := false }
def FnExactRunGateSaid : Prop := fnExactRunGateRow.holds Try.pinned (OpenSpec.ofChange fnExactRunGateSpec)

/-- ITS FALSE NEIGHBOUR: 'it returns false'. Refute it at one input. -/
def fnExactRunGateWrong : ChangeSpec := { name := "fnExactRunGate", fn := fun _ => fun
  | [d1, d2, d3] => { results := [.lit (.bool false)], args := [d1, d2, d3] }
  | _ => none }
def FnExactRunGateWrongFalsely : Prop := fnExactRunGateRow.holds Try.pinned (OpenSpec.ofChange fnExactRunGateWrong)

/-- 'laws.FnWheelOf': WHATEVER THE INPUT: true; the input reads as it did. -/
def fnWheelOfSpec : ChangeSpec := { name := "fnWheelOf", fn := fun _ => fun
  | [d] => { results := [.lit (.bool true)], args := [d] }
  | _ => none }
def fnWheelOfRow : OpenClaim := { program := "ytaajnkggomlppaf", sum := "9b1ee75f454b45559e9f614356c616ba4ba66215b1a3bc1cfa74476626e39caf", func := "loop.example/cacheengine/laws.FnWheelOf", spec := "fnWheelOf", apart := false }
def FnWheelOfSaid : Prop := fnWheelOfRow.holds Try.pinned (OpenSpec.ofChange fnWheelOfSpec)

/-- ITS FALSE NEIGHBOUR: 'it returns false'. Refute it at one input. -/
def fnWheelOfWrong : ChangeSpec := { name := "fnWheelOf", fn := fun _ => fun
  | [d] => { results := [.lit (.bool false)], args := [d] }
  | _ => none }
def FnWheelOfWrongFalsely : Prop := fnWheelOfRow.holds Try.pinned (OpenSpec.ofChange fnWheelOfWrong)

/-- 'laws.FnWheelOfTurn': WHATEVER THE INPUT: true; the input reads as it did. -/
def fnWheelOfTurnSpec : ChangeSpec := { name := "fnWheelOfTurn", fn := fun _ => fun
  | [d] => { results := [.lit (.bool true)], args := [d] }
  | _ => none }
def fnWheelOfTurnRow : OpenClaim := { program := "ytaajnkggomlppaf", sum := "9b1ee75f454b45559e9f614356c616ba4ba66215b1a3bc1cfa74476626e39caf", func := "loop.example/cacheengine/laws.FnWheelOfTurn", spec := "fnWheelOfTurn", inPlace := ["slices.overlaps[loop.example/cacheengine/impl.Timed]"], unfollowed := true, recurses := true, apart := false }
def FnWheelOfTurnSaid : Prop := fnWheelOfTurnRow.holds Try.pinned (OpenSpec.ofChange fnWheelOfTurnSpec)

/-- ITS FALSE NEIGHBOUR: 'it returns false'. Refute it at one input. -/
def fnWheelOfTurnWrong : ChangeSpec := { name := "fnWheelOfTurn", fn := fun _ => fun
  | [d] => { results := [.lit (.bool false)], args := [d] }
  | _ => none }
def FnWheelOfTurnWrongFalsely : Prop := fnWheelOfTurnRow.holds Try.pinned (OpenSpec.ofChange fnWheelOfTurnWrong)

/-- 'laws.FnWheelOfDead': WHATEVER THE INPUT: true; the input reads as it did. -/
def fnWheelOfDeadSpec : ChangeSpec := { name := "fnWheelOfDead", fn := fun _ => fun
  | [d] => { results := [.lit (.bool true)], args := [d] }
  | _ => none }
def fnWheelOfDeadRow : OpenClaim := { program := "ytaajnkggomlppaf", sum := "9b1ee75f454b45559e9f614356c616ba4ba66215b1a3bc1cfa74476626e39caf", func := "loop.example/cacheengine/laws.FnWheelOfDead", spec := "fnWheelOfDead", apart := false }
def FnWheelOfDeadSaid : Prop := fnWheelOfDeadRow.holds Try.pinned (OpenSpec.ofChange fnWheelOfDeadSpec)

/-- ITS FALSE NEIGHBOUR: 'it returns false'. Refute it at one input. -/
def fnWheelOfDeadWrong : ChangeSpec := { name := "fnWheelOfDead", fn := fun _ => fun
  | [d] => { results := [.lit (.bool false)], args := [d] }
  | _ => none }
def FnWheelOfDeadWrongFalsely : Prop := fnWheelOfDeadRow.holds Try.pinned (OpenSpec.ofChange fnWheelOfDeadWrong)

/-- 'laws.FnExactWheelOf': WHATEVER THE INPUT: true; the input reads as it did. -/
def fnExactWheelOfSpec : ChangeSpec := { name := "fnExactWheelOf", fn := fun _ => fun
  | [d] => { results := [.lit (.bool true)], args := [d] }
  | _ => none }
def fnExactWheelOfRow : OpenClaim := { program := "ytaajnkggomlppaf", sum := "9b1ee75f454b45559e9f614356c616ba4ba66215b1a3bc1cfa74476626e39caf", func := "loop.example/cacheengine/laws.FnExactWheelOf", spec := "fnExactWheelOf", apart := false }
def FnExactWheelOfSaid : Prop := fnExactWheelOfRow.holds Try.pinned (OpenSpec.ofChange fnExactWheelOfSpec)

/-- ITS FALSE NEIGHBOUR: 'it returns false'. Refute it at one input. -/
def fnExactWheelOfWrong : ChangeSpec := { name := "fnExactWheelOf", fn := fun _ => fun
  | [d] => { results := [.lit (.bool false)], args := [d] }
  | _ => none }
def FnExactWheelOfWrongFalsely : Prop := fnExactWheelOfRow.holds Try.pinned (OpenSpec.ofChange fnExactWheelOfWrong)

/- THE SECOND FORM. 'bulk': how many values and letters a reading holds, each counted each time it is reached (what is shared counts as often as it is met; a slice's spare places count too). A statement '..UptoSaid' is the law's where the arguments, and the package variables that the reading takes, are together of bulk at most 1048576: NARROWER than '..Said'. Prove '..Said' where nothing that the law and all that it calls make is longer than what came in: it says more and counts as full. Else prove '..UptoSaid'. A law counts once. -/
mutual
def uptoBulk {H : Type} : DataW H → Nat
  | .lit (.string bytes) => bytes.length + 1
  | .lit _ => 1
  | .nil => 1
  | .ptr d => uptoBulk d + 1
  | .slice elems spare => uptoBulkAll elems + uptoBulkAll spare + 1
  | .agg parts => uptoBulkAll parts + 1
  | .iface _ d => uptoBulk d + 1
  | .map entries => uptoBulkEntries entries + 1
  | .held _ => 1
def uptoBulkAll {H : Type} : List (DataW H) → Nat
  | [] => 0
  | d :: r => uptoBulk d + uptoBulkAll r
def uptoBulkEntries {H : Type} : List (Lit × DataW H) → Nat
  | [] => 0
  | x :: r => uptoBulkEntry x + uptoBulkEntries r
def uptoBulkEntry {H : Type} : Lit × DataW H → Nat
  | (.string bytes, d) => bytes.length + uptoBulk d + 1
  | (_, d) => uptoBulk d + 1
 end
def uptoSmall : (H : Type) → List (DataW H) → Bool := fun _ ds => decide (uptoBulkAll ds ≤ 1048576)
def OpenSpec.upto (s : _root_.Go.ChangeSpec) : _root_.Go.OpenSpec := { _root_.Go.OpenSpec.ofChange s with cond := some uptoSmall }

/-- 'laws.FnExactRunGate', WHERE WHAT IT READS IS OF BULK AT MOST 1048576: true; the input reads as it did. -/
def fnExactRunGateUptoRow : OpenClaim := { program := "ytaajnkggomlppaf", sum := "9b1ee75f454b45559e9f614356c616ba4ba66215b1a3bc1cfa74476626e39caf", func := "loop.example/cacheengine/laws.FnExactRunGate", spec := "fnExactRunGate", unfollowed := true, recurses := true, apart := false, narrowed := true }
def FnExactRunGateUptoSaid : Prop := fnExactRunGateUptoRow.holds Try.pinned (OpenSpec.upto fnExactRunGateSpec)

/-- 'laws.FnWheelOf', WHERE WHAT IT READS IS OF BULK AT MOST 1048576: true; the input reads as it did. -/
def fnWheelOfUptoRow : OpenClaim := { program := "ytaajnkggomlppaf", sum := "9b1ee75f454b45559e9f614356c616ba4ba66215b1a3bc1cfa74476626e39caf", func := "loop.example/cacheengine/laws.FnWheelOf", spec := "fnWheelOf", apart := false, narrowed := true }
def FnWheelOfUptoSaid : Prop := fnWheelOfUptoRow.holds Try.pinned (OpenSpec.upto fnWheelOfSpec)

/-- 'laws.FnWheelOfTurn', WHERE WHAT IT READS IS OF BULK AT MOST 1048576: true; the input reads as it did. -/
def fnWheelOfTurnUptoRow : OpenClaim := { program := "ytaajnkggomlppaf", sum := "9b1ee75f454b45559e9f614356c616ba4ba66215b1a3bc1cfa74476626e39caf", func := "loop.example/cacheengine/laws.FnWheelOfTurn", spec := "fnWheelOfTurn", inPlace := ["slices.overlaps[loop.example/cacheengine/impl.Timed]"], unfollowed := true, recurses := true, apart := false, narrowed := true }
def FnWheelOfTurnUptoSaid : Prop := fnWheelOfTurnUptoRow.holds Try.pinned (OpenSpec.upto fnWheelOfTurnSpec)

/-- 'laws.FnWheelOfDead', WHERE WHAT IT READS IS OF BULK AT MOST 1048576: true; the input reads as it did. -/
def fnWheelOfDeadUptoRow : OpenClaim := { program := "ytaajnkggomlppaf", sum := "9b1ee75f454b45559e9f614356c616ba4ba66215b1a3bc1cfa74476626e39caf", func := "loop.example/cacheengine/laws.FnWheelOfDead", spec := "fnWheelOfDead", apart := false, narrowed := true }
def FnWheelOfDeadUptoSaid : Prop := fnWheelOfDeadUptoRow.holds Try.pinned (OpenSpec.upto fnWheelOfDeadSpec)

/-- 'laws.FnExactWheelOf', WHERE WHAT IT READS IS OF BULK AT MOST 1048576: true; the input reads as it did. -/
def fnExactWheelOfUptoRow : OpenClaim := { program := "ytaajnkggomlppaf", sum := "9b1ee75f454b45559e9f614356c616ba4ba66215b1a3bc1cfa74476626e39caf", func := "loop.example/cacheengine/laws.FnExactWheelOf", spec := "fnExactWheelOf", apart := false, narrowed := true }
def FnExactWheelOfUptoSaid : Prop := fnExactWheelOfUptoRow.holds Try.pinned (OpenSpec.upto fnExactWheelOfSpec)

end Rows
end Go.Proofs.Ytaajnkggomlppaf
