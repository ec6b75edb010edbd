/-
  No cell of these rows narrows 'for every input' (looked for: loops, veiled, ifaces, maps, wideKeys, modest, calm, conditions, laid).
  DERIVED. THE GIVEN ROWS OF THIS SEAT. 11 by the template 'for every input the law returns true; each argument reads behind the call as it read before'; 0 by the template 'total and deterministic' (their statements: YtnkmhjdenddpbacTotals.lean).
  GIVEN WITH THE SEED: the statements are not yours to turn. If you find one false, say at which input.
  Laid BY PROGRAM, IN A SANDBOX (cutbox-rows.mjs): the forced cells as the released guide's own fill.sh prints them over the translation b345039a385f7d30… (all of the seat's roots in one cut). By AI agents, Wed Nov 11 2026. No macro, syntax, notation, axiom, sorry.
-/
import Derived.Test.YtnkmhjdenddpbacChecked
import GoSem.Claim
import GoSem.ClaimJoined
import GoSem.ClaimMapViews
import Derived.JoinedTies
import Derived.KernelRfl
namespace Go.Proofs.Ytnkmhjdenddpbac
/- THE CELL 'sum', in the pinned program and in every row, IS THE sha256 OF THE DUMP (.gsa) THAT YtnkmhjdenddpbacProg.lean LOADS. Nothing in Lean hashes anything: it is a label: what it is worth is what the hold of that sum in a sandbox is worth. -/
noncomputable def Try.pinned : Pinned := { name := "ytnkmhjdenddpbac", sum := "b345039a385f7d30823541d476b7b60f62128630e76f62304f2aa26715e52edd", checked := Try.checked }
namespace Rows
def none {H : Type} : Left H := { results := [], args := [] }

/-- 'laws.FnWheelOfDead': WHATEVER THE INPUT: true; the input reads as it did. -/
def fnWheelOfDeadSpec : ChangeSpec := { name := "fnWheelOfDead", fn := fun _ => fun
  | [d] => { results := [.lit (.bool true)], args := [d] }
  | _ => none }
def fnWheelOfDeadRow : OpenClaim := { program := "ytnkmhjdenddpbac", sum := "b345039a385f7d30823541d476b7b60f62128630e76f62304f2aa26715e52edd", func := "loop.example/cacheengine/laws.FnWheelOfDead", spec := "fnWheelOfDead", apart := false }
def FnWheelOfDeadSaid : Prop := fnWheelOfDeadRow.holds Try.pinned (OpenSpec.ofChange fnWheelOfDeadSpec)

/-- ITS FALSE NEIGHBOUR: 'it returns false'. Refute it at one input. -/
def fnWheelOfDeadWrong : ChangeSpec := { name := "fnWheelOfDead", fn := fun _ => fun
  | [d] => { results := [.lit (.bool false)], args := [d] }
  | _ => none }
def FnWheelOfDeadWrongFalsely : Prop := fnWheelOfDeadRow.holds Try.pinned (OpenSpec.ofChange fnWheelOfDeadWrong)

/-- 'laws.FnExactValidTimed': WHATEVER THE INPUT: true; the input reads as it did. -/
def fnExactValidTimedSpec : ChangeSpec := { name := "fnExactValidTimed", fn := fun _ => fun
  | [d] => { results := [.lit (.bool true)], args := [d] }
  | _ => none }
def fnExactValidTimedRow : OpenClaim := { program := "ytnkmhjdenddpbac", sum := "b345039a385f7d30823541d476b7b60f62128630e76f62304f2aa26715e52edd", func := "loop.example/cacheengine/laws.FnExactValidTimed", spec := "fnExactValidTimed", apart := false }
def FnExactValidTimedSaid : Prop := fnExactValidTimedRow.holds Try.pinned (OpenSpec.ofChange fnExactValidTimedSpec)

/-- ITS FALSE NEIGHBOUR: 'it returns false'. Refute it at one input. -/
def fnExactValidTimedWrong : ChangeSpec := { name := "fnExactValidTimed", fn := fun _ => fun
  | [d] => { results := [.lit (.bool false)], args := [d] }
  | _ => none }
def FnExactValidTimedWrongFalsely : Prop := fnExactValidTimedRow.holds Try.pinned (OpenSpec.ofChange fnExactValidTimedWrong)

/-- 'laws.FnExactPutTimed': WHATEVER THE INPUT: true; the input reads as it did. -/
def fnExactPutTimedSpec : ChangeSpec := { name := "fnExactPutTimed", fn := fun _ => fun
  | [d1, d2, d3] => { results := [.lit (.bool true)], args := [d1, d2, d3] }
  | _ => none }
def fnExactPutTimedRow : OpenClaim := { program := "ytnkmhjdenddpbac", sum := "b345039a385f7d30823541d476b7b60f62128630e76f62304f2aa26715e52edd", func := "loop.example/cacheengine/laws.FnExactPutTimed", spec := "fnExactPutTimed", inPlace := ["slices.overlaps[loop.example/cacheengine/impl.Timed]"], unfollowed := true, recurses := true, apart := false }
def FnExactPutTimedSaid : Prop := fnExactPutTimedRow.holds Try.pinned (OpenSpec.ofChange fnExactPutTimedSpec)

/-- ITS FALSE NEIGHBOUR: 'it returns false'. Refute it at one input. -/
def fnExactPutTimedWrong : ChangeSpec := { name := "fnExactPutTimed", fn := fun _ => fun
  | [d1, d2, d3] => { results := [.lit (.bool false)], args := [d1, d2, d3] }
  | _ => none }
def FnExactPutTimedWrongFalsely : Prop := fnExactPutTimedRow.holds Try.pinned (OpenSpec.ofChange fnExactPutTimedWrong)

/-- 'laws.FnExactLiveAt': WHATEVER THE INPUT: true; the input reads as it did. -/
def fnExactLiveAtSpec : ChangeSpec := { name := "fnExactLiveAt", fn := fun _ => fun
  | [d1, d2, d3] => { results := [.lit (.bool true)], args := [d1, d2, d3] }
  | _ => none }
def fnExactLiveAtRow : OpenClaim := { program := "ytnkmhjdenddpbac", sum := "b345039a385f7d30823541d476b7b60f62128630e76f62304f2aa26715e52edd", func := "loop.example/cacheengine/laws.FnExactLiveAt", spec := "fnExactLiveAt", unfollowed := true, recurses := true, apart := false }
def FnExactLiveAtSaid : Prop := fnExactLiveAtRow.holds Try.pinned (OpenSpec.ofChange fnExactLiveAtSpec)

/-- ITS FALSE NEIGHBOUR: 'it returns false'. Refute it at one input. -/
def fnExactLiveAtWrong : ChangeSpec := { name := "fnExactLiveAt", fn := fun _ => fun
  | [d1, d2, d3] => { results := [.lit (.bool false)], args := [d1, d2, d3] }
  | _ => none }
def FnExactLiveAtWrongFalsely : Prop := fnExactLiveAtRow.holds Try.pinned (OpenSpec.ofChange fnExactLiveAtWrong)

/-- 'laws.FnExactDropDead': WHATEVER THE INPUT: true; the input reads as it did. -/
def fnExactDropDeadSpec : ChangeSpec := { name := "fnExactDropDead", fn := fun _ => fun
  | [d1, d2] => { results := [.lit (.bool true)], args := [d1, d2] }
  | _ => none }
def fnExactDropDeadRow : OpenClaim := { program := "ytnkmhjdenddpbac", sum := "b345039a385f7d30823541d476b7b60f62128630e76f62304f2aa26715e52edd", func := "loop.example/cacheengine/laws.FnExactDropDead", spec := "fnExactDropDead", apart := false }
def FnExactDropDeadSaid : Prop := fnExactDropDeadRow.holds Try.pinned (OpenSpec.ofChange fnExactDropDeadSpec)

/-- ITS FALSE NEIGHBOUR: 'it returns false'. Refute it at one input. -/
def fnExactDropDeadWrong : ChangeSpec := { name := "fnExactDropDead", fn := fun _ => fun
  | [d1, d2] => { results := [.lit (.bool false)], args := [d1, d2] }
  | _ => none }
def FnExactDropDeadWrongFalsely : Prop := fnExactDropDeadRow.holds Try.pinned (OpenSpec.ofChange fnExactDropDeadWrong)

/-- 'laws.FnExactNextDeath': WHATEVER THE INPUT: true; the input reads as it did. -/
def fnExactNextDeathSpec : ChangeSpec := { name := "fnExactNextDeath", fn := fun _ => fun
  | [d] => { results := [.lit (.bool true)], args := [d] }
  | _ => none }
def fnExactNextDeathRow : OpenClaim := { program := "ytnkmhjdenddpbac", sum := "b345039a385f7d30823541d476b7b60f62128630e76f62304f2aa26715e52edd", func := "loop.example/cacheengine/laws.FnExactNextDeath", spec := "fnExactNextDeath", apart := false }
def FnExactNextDeathSaid : Prop := fnExactNextDeathRow.holds Try.pinned (OpenSpec.ofChange fnExactNextDeathSpec)

/-- ITS FALSE NEIGHBOUR: 'it returns false'. Refute it at one input. -/
def fnExactNextDeathWrong : ChangeSpec := { name := "fnExactNextDeath", fn := fun _ => fun
  | [d] => { results := [.lit (.bool false)], args := [d] }
  | _ => none }
def FnExactNextDeathWrongFalsely : Prop := fnExactNextDeathRow.holds Try.pinned (OpenSpec.ofChange fnExactNextDeathWrong)

/-- 'laws.FnExactWheelOf': WHATEVER THE INPUT: true; the input reads as it did. -/
def fnExactWheelOfSpec : ChangeSpec := { name := "fnExactWheelOf", fn := fun _ => fun
  | [d] => { results := [.lit (.bool true)], args := [d] }
  | _ => none }
def fnExactWheelOfRow : OpenClaim := { program := "ytnkmhjdenddpbac", sum := "b345039a385f7d30823541d476b7b60f62128630e76f62304f2aa26715e52edd", func := "loop.example/cacheengine/laws.FnExactWheelOf", spec := "fnExactWheelOf", apart := false }
def FnExactWheelOfSaid : Prop := fnExactWheelOfRow.holds Try.pinned (OpenSpec.ofChange fnExactWheelOfSpec)

/-- ITS FALSE NEIGHBOUR: 'it returns false'. Refute it at one input. -/
def fnExactWheelOfWrong : ChangeSpec := { name := "fnExactWheelOf", fn := fun _ => fun
  | [d] => { results := [.lit (.bool false)], args := [d] }
  | _ => none }
def FnExactWheelOfWrongFalsely : Prop := fnExactWheelOfRow.holds Try.pinned (OpenSpec.ofChange fnExactWheelOfWrong)

/-- 'laws.FnExactValidGate': WHATEVER THE INPUT: true; the input reads as it did. -/
def fnExactValidGateSpec : ChangeSpec := { name := "fnExactValidGate", fn := fun _ => fun
  | [d] => { results := [.lit (.bool true)], args := [d] }
  | _ => none }
def fnExactValidGateRow : OpenClaim := { program := "ytnkmhjdenddpbac", sum := "b345039a385f7d30823541d476b7b60f62128630e76f62304f2aa26715e52edd", func := "loop.example/cacheengine/laws.FnExactValidGate", spec := "fnExactValidGate", apart := false }
def FnExactValidGateSaid : Prop := fnExactValidGateRow.holds Try.pinned (OpenSpec.ofChange fnExactValidGateSpec)

/-- ITS FALSE NEIGHBOUR: 'it returns false'. Refute it at one input. -/
def fnExactValidGateWrong : ChangeSpec := { name := "fnExactValidGate", fn := fun _ => fun
  | [d] => { results := [.lit (.bool false)], args := [d] }
  | _ => none }
def FnExactValidGateWrongFalsely : Prop := fnExactValidGateRow.holds Try.pinned (OpenSpec.ofChange fnExactValidGateWrong)

/-- 'laws.FnExactUseGate': WHATEVER THE INPUT: true; the input reads as it did. -/
def fnExactUseGateSpec : ChangeSpec := { name := "fnExactUseGate", fn := fun _ => fun
  | [d1, d2] => { results := [.lit (.bool true)], args := [d1, d2] }
  | _ => none }
def fnExactUseGateRow : OpenClaim := { program := "ytnkmhjdenddpbac", sum := "b345039a385f7d30823541d476b7b60f62128630e76f62304f2aa26715e52edd", func := "loop.example/cacheengine/laws.FnExactUseGate", spec := "fnExactUseGate", apart := false }
def FnExactUseGateSaid : Prop := fnExactUseGateRow.holds Try.pinned (OpenSpec.ofChange fnExactUseGateSpec)

/-- ITS FALSE NEIGHBOUR: 'it returns false'. Refute it at one input. -/
def fnExactUseGateWrong : ChangeSpec := { name := "fnExactUseGate", fn := fun _ => fun
  | [d1, d2] => { results := [.lit (.bool false)], args := [d1, d2] }
  | _ => none }
def FnExactUseGateWrongFalsely : Prop := fnExactUseGateRow.holds Try.pinned (OpenSpec.ofChange fnExactUseGateWrong)

/-- 'laws.FnExactRunGate': WHATEVER THE INPUT: true; the input reads as it did. -/
def fnExactRunGateSpec : ChangeSpec := { name := "fnExactRunGate", fn := fun _ => fun
  | [d1, d2, d3] => { results := [.lit (.bool true)], args := [d1, d2, d3] }
  | _ => none }
def fnExactRunGateRow : OpenClaim := { program := "ytnkmhjdenddpbac", sum := "b345039a385f7d30823541d476b7b60f62128630e76f62304f2aa26715e52edd", func := "loop.example/cacheengine/laws.FnExactRunGate", spec := "fnExactRunGate", unfollowed := true, recurses := true, apart := false }
def FnExactRunGateSaid : Prop := fnExactRunGateRow.holds Try.pinned (OpenSpec.ofChange fnExactRunGateSpec)

/-- ITS FALSE NEIGHBOUR: 'it returns false'. Refute it at one input. -/
def fnExactRunGateWrong : ChangeSpec := { name := "fnExactRunGate", fn := fun _ => fun
  | [d1, d2, d3] => { results := [.lit (.bool false)], args := [d1, d2, d3] }
  | _ => none }
def FnExactRunGateWrongFalsely : Prop := fnExactRunGateRow.holds Try.pinned (OpenSpec.ofChange fnExactRunGateWrong)

/-- 'laws.FnExactPrefers': WHATEVER THE INPUT: true; the input reads as it did. -/
def fnExactPrefersSpec : ChangeSpec := { name := "fnExactPrefers", fn := fun _ => fun
  | [d1, d2, d3] => { results := [.lit (.bool true)], args := [d1, d2, d3] }
  | _ => none }
def fnExactPrefersRow : OpenClaim := { program := "ytnkmhjdenddpbac", sum := "b345039a385f7d30823541d476b7b60f62128630e76f62304f2aa26715e52edd", func := "loop.example/cacheengine/laws.FnExactPrefers", spec := "fnExactPrefers", apart := false }
def FnExactPrefersSaid : Prop := fnExactPrefersRow.holds Try.pinned (OpenSpec.ofChange fnExactPrefersSpec)

/-- ITS FALSE NEIGHBOUR: 'it returns false'. Refute it at one input. -/
def fnExactPrefersWrong : ChangeSpec := { name := "fnExactPrefers", fn := fun _ => fun
  | [d1, d2, d3] => { results := [.lit (.bool false)], args := [d1, d2, d3] }
  | _ => none }
def FnExactPrefersWrongFalsely : Prop := fnExactPrefersRow.holds Try.pinned (OpenSpec.ofChange fnExactPrefersWrong)

/- THE SECOND FORM. 'bulk': how many values and letters a reading holds, each counted each time it is reached (what is shared counts as often as it is met; a slice's spare places count too). A statement '..UptoSaid' is the law's where the arguments, and the package variables that the reading takes, are together of bulk at most 1048576: NARROWER than '..Said'. Prove '..Said' where nothing that the law and all that it calls make is longer than what came in: it says more and counts as full. Else prove '..UptoSaid'. A law counts once. -/
mutual
def uptoBulk {H : Type} : DataW H → Nat
  | .lit (.string bytes) => bytes.length + 1
  | .lit _ => 1
  | .nil => 1
  | .ptr d => uptoBulk d + 1
  | .slice elems spare => uptoBulkAll elems + uptoBulkAll spare + 1
  | .agg parts => uptoBulkAll parts + 1
  | .iface _ d => uptoBulk d + 1
  | .map entries => uptoBulkEntries entries + 1
  | .held _ => 1
def uptoBulkAll {H : Type} : List (DataW H) → Nat
  | [] => 0
  | d :: r => uptoBulk d + uptoBulkAll r
def uptoBulkEntries {H : Type} : List (Lit × DataW H) → Nat
  | [] => 0
  | x :: r => uptoBulkEntry x + uptoBulkEntries r
def uptoBulkEntry {H : Type} : Lit × DataW H → Nat
  | (.string bytes, d) => bytes.length + uptoBulk d + 1
  | (_, d) => uptoBulk d + 1
 end
def uptoSmall : (H : Type) → List (DataW H) → Bool := fun _ ds => decide (uptoBulkAll ds ≤ 1048576)
def OpenSpec.upto (s : _root_.Go.ChangeSpec) : _root_.Go.OpenSpec := { _root_.Go.OpenSpec.ofChange s with cond := some uptoSmall }

/-- 'laws.FnWheelOfDead', WHERE WHAT IT READS IS OF BULK AT MOST 1048576: true; the input reads as it did. -/
def fnWheelOfDeadUptoRow : OpenClaim := { program := "ytnkmhjdenddpbac", sum := "b345039a385f7d30823541d476b7b60f62128630e76f62304f2aa26715e52edd", func := "loop.example/cacheengine/laws.FnWheelOfDead", spec := "fnWheelOfDead", apart := false, narrowed := true }
def FnWheelOfDeadUptoSaid : Prop := fnWheelOfDeadUptoRow.holds Try.pinned (OpenSpec.upto fnWheelOfDeadSpec)

/-- 'laws.FnExactValidTimed', WHERE WHAT IT READS IS OF BULK AT MOST 1048576: true; the input reads as it did. -/
def fnExactValidTimedUptoRow : OpenClaim := { program := "ytnkmhjdenddpbac", sum := "b345039a385f7d30823541d476b7b60f62128630e76f62304f2aa26715e52edd", func := "loop.example/cacheengine/laws.FnExactValidTimed", spec := "fnExactValidTimed", apart := false, narrowed := true }
def FnExactValidTimedUptoSaid : Prop := fnExactValidTimedUptoRow.holds Try.pinned (OpenSpec.upto fnExactValidTimedSpec)

/-- 'laws.FnExactPutTimed', WHERE WHAT IT READS IS OF BULK AT MOST 1048576: true; the input reads as it did. -/
def fnExactPutTimedUptoRow : OpenClaim := { program := "ytnkmhjdenddpbac", sum := "b345039a385f7d30823541d476b7b60f62128630e76f62304f2aa26715e52edd", func := "loop.example/cacheengine/laws.FnExactPutTimed", spec := "fnExactPutTimed", inPlace := ["slices.overlaps[loop.example/cacheengine/impl.Timed]"], unfollowed := true, recurses := true, apart := false, narrowed := true }
def FnExactPutTimedUptoSaid : Prop := fnExactPutTimedUptoRow.holds Try.pinned (OpenSpec.upto fnExactPutTimedSpec)

/-- 'laws.FnExactLiveAt', WHERE WHAT IT READS IS OF BULK AT MOST 1048576: true; the input reads as it did. -/
def fnExactLiveAtUptoRow : OpenClaim := { program := "ytnkmhjdenddpbac", sum := "b345039a385f7d30823541d476b7b60f62128630e76f62304f2aa26715e52edd", func := "loop.example/cacheengine/laws.FnExactLiveAt", spec := "fnExactLiveAt", unfollowed := true, recurses := true, apart := false, narrowed := true }
def FnExactLiveAtUptoSaid : Prop := fnExactLiveAtUptoRow.holds Try.pinned (OpenSpec.upto fnExactLiveAtSpec)

/-- 'laws.FnExactDropDead', WHERE WHAT IT READS IS OF BULK AT MOST 1048576: true; the input reads as it did. -/
def fnExactDropDeadUptoRow : OpenClaim := { program := "ytnkmhjdenddpbac", sum := "b345039a385f7d30823541d476b7b60f62128630e76f62304f2aa26715e52edd", func := "loop.example/cacheengine/laws.FnExactDropDead", spec := "fnExactDropDead", apart := false, narrowed := true }
def FnExactDropDeadUptoSaid : Prop := fnExactDropDeadUptoRow.holds Try.pinned (OpenSpec.upto fnExactDropDeadSpec)

/-- 'laws.FnExactNextDeath', WHERE WHAT IT READS IS OF BULK AT MOST 1048576: true; the input reads as it did. -/
def fnExactNextDeathUptoRow : OpenClaim := { program := "ytnkmhjdenddpbac", sum := "b345039a385f7d30823541d476b7b60f62128630e76f62304f2aa26715e52edd", func := "loop.example/cacheengine/laws.FnExactNextDeath", spec := "fnExactNextDeath", apart := false, narrowed := true }
def FnExactNextDeathUptoSaid : Prop := fnExactNextDeathUptoRow.holds Try.pinned (OpenSpec.upto fnExactNextDeathSpec)

/-- 'laws.FnExactWheelOf', WHERE WHAT IT READS IS OF BULK AT MOST 1048576: true; the input reads as it did. -/
def fnExactWheelOfUptoRow : OpenClaim := { program := "ytnkmhjdenddpbac", sum := "b345039a385f7d30823541d476b7b60f62128630e76f62304f2aa26715e52edd", func := "loop.example/cacheengine/laws.FnExactWheelOf", spec := "fnExactWheelOf", apart := false, narrowed := true }
def FnExactWheelOfUptoSaid : Prop := fnExactWheelOfUptoRow.holds Try.pinned (OpenSpec.upto fnExactWheelOfSpec)

/-- 'laws.FnExactValidGate', WHERE WHAT IT READS IS OF BULK AT MOST 1048576: true; the input reads as it did. -/
def fnExactValidGateUptoRow : OpenClaim := { program := "ytnkmhjdenddpbac", sum := "b345039a385f7d30823541d476b7b60f62128630e76f62304f2aa26715e52edd", func := "loop.example/cacheengine/laws.FnExactValidGate", spec := "fnExactValidGate", apart := false, narrowed := true }
def FnExactValidGateUptoSaid : Prop := fnExactValidGateUptoRow.holds Try.pinned (OpenSpec.upto fnExactValidGateSpec)

/-- 'laws.FnExactUseGate', WHERE WHAT IT READS IS OF BULK AT MOST 1048576: true; the input reads as it did. -/
def fnExactUseGateUptoRow : OpenClaim := { program := "ytnkmhjdenddpbac", sum := "b345039a385f7d30823541d476b7b60f62128630e76f62304f2aa26715e52edd", func := "loop.example/cacheengine/laws.FnExactUseGate", spec := "fnExactUseGate", apart := false, narrowed := true }
def FnExactUseGateUptoSaid : Prop := fnExactUseGateUptoRow.holds Try.pinned (OpenSpec.upto fnExactUseGateSpec)

/-- 'laws.FnExactRunGate', WHERE WHAT IT READS IS OF BULK AT MOST 1048576: true; the input reads as it did. -/
def fnExactRunGateUptoRow : OpenClaim := { program := "ytnkmhjdenddpbac", sum := "b345039a385f7d30823541d476b7b60f62128630e76f62304f2aa26715e52edd", func := "loop.example/cacheengine/laws.FnExactRunGate", spec := "fnExactRunGate", unfollowed := true, recurses := true, apart := false, narrowed := true }
def FnExactRunGateUptoSaid : Prop := fnExactRunGateUptoRow.holds Try.pinned (OpenSpec.upto fnExactRunGateSpec)

/-- 'laws.FnExactPrefers', WHERE WHAT IT READS IS OF BULK AT MOST 1048576: true; the input reads as it did. -/
def fnExactPrefersUptoRow : OpenClaim := { program := "ytnkmhjdenddpbac", sum := "b345039a385f7d30823541d476b7b60f62128630e76f62304f2aa26715e52edd", func := "loop.example/cacheengine/laws.FnExactPrefers", spec := "fnExactPrefers", apart := false, narrowed := true }
def FnExactPrefersUptoSaid : Prop := fnExactPrefersUptoRow.holds Try.pinned (OpenSpec.upto fnExactPrefersSpec)

end Rows
end Go.Proofs.Ytnkmhjdenddpbac
