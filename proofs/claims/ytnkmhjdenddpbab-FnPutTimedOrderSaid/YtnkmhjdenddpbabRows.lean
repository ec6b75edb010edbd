/-
  No cell of these rows narrows 'for every input' (looked for: loops, veiled, ifaces, maps, wideKeys, modest, calm, conditions, laid).
  DERIVED. THE GIVEN ROWS OF THIS SEAT. 12 by the template 'for every input the law returns true; each argument reads behind the call as it read before'; 0 by the template 'total and deterministic' (their statements: YtnkmhjdenddpbabTotals.lean).
  GIVEN WITH THE SEED: the statements are not yours to turn. If you find one false, say at which input.
  Laid BY PROGRAM, IN A SANDBOX (cutbox-rows.mjs): the forced cells as the released guide's own fill.sh prints them over the translation e708eee9be6ccf27… (all of the seat's roots in one cut). By AI agents, Wed Nov 11 2026. No macro, syntax, notation, axiom, sorry.
-/
import Derived.Test.YtnkmhjdenddpbabChecked
import GoSem.Claim
import GoSem.ClaimJoined
import GoSem.ClaimMapViews
import Derived.JoinedTies
import Derived.KernelRfl
namespace Go.Proofs.Ytnkmhjdenddpbab
/- THE CELL 'sum', in the pinned program and in every row, IS THE sha256 OF THE DUMP (.gsa) THAT YtnkmhjdenddpbabProg.lean LOADS. Nothing in Lean hashes anything: it is a label: what it is worth is what the hold of that sum in a sandbox is worth. -/
noncomputable def Try.pinned : Pinned := { name := "ytnkmhjdenddpbab", sum := "e708eee9be6ccf27f07145a25322c19015a0c0dcdf9b8977901a036855e99bb9", checked := Try.checked }
namespace Rows
def none {H : Type} : Left H := { results := [], args := [] }

/-- 'laws.FnDropDead': WHATEVER THE INPUT: true; the input reads as it did. -/
def fnDropDeadSpec : ChangeSpec := { name := "fnDropDead", fn := fun _ => fun
  | [d] => { results := [.lit (.bool true)], args := [d] }
  | _ => none }
def fnDropDeadRow : OpenClaim := { program := "ytnkmhjdenddpbab", sum := "e708eee9be6ccf27f07145a25322c19015a0c0dcdf9b8977901a036855e99bb9", func := "loop.example/cacheengine/laws.FnDropDead", spec := "fnDropDead", unfollowed := true, recurses := true, apart := false }
def FnDropDeadSaid : Prop := fnDropDeadRow.holds Try.pinned (OpenSpec.ofChange fnDropDeadSpec)

/-- ITS FALSE NEIGHBOUR: 'it returns false'. Refute it at one input. -/
def fnDropDeadWrong : ChangeSpec := { name := "fnDropDead", fn := fun _ => fun
  | [d] => { results := [.lit (.bool false)], args := [d] }
  | _ => none }
def FnDropDeadWrongFalsely : Prop := fnDropDeadRow.holds Try.pinned (OpenSpec.ofChange fnDropDeadWrong)

/-- 'laws.FnDropDeadAgain': WHATEVER THE INPUT: true; the input reads as it did. -/
def fnDropDeadAgainSpec : ChangeSpec := { name := "fnDropDeadAgain", fn := fun _ => fun
  | [d] => { results := [.lit (.bool true)], args := [d] }
  | _ => none }
def fnDropDeadAgainRow : OpenClaim := { program := "ytnkmhjdenddpbab", sum := "e708eee9be6ccf27f07145a25322c19015a0c0dcdf9b8977901a036855e99bb9", func := "loop.example/cacheengine/laws.FnDropDeadAgain", spec := "fnDropDeadAgain", apart := false }
def FnDropDeadAgainSaid : Prop := fnDropDeadAgainRow.holds Try.pinned (OpenSpec.ofChange fnDropDeadAgainSpec)

/-- ITS FALSE NEIGHBOUR: 'it returns false'. Refute it at one input. -/
def fnDropDeadAgainWrong : ChangeSpec := { name := "fnDropDeadAgain", fn := fun _ => fun
  | [d] => { results := [.lit (.bool false)], args := [d] }
  | _ => none }
def FnDropDeadAgainWrongFalsely : Prop := fnDropDeadAgainRow.holds Try.pinned (OpenSpec.ofChange fnDropDeadAgainWrong)

/-- 'laws.FnNextDeath': WHATEVER THE INPUT: true; the input reads as it did. -/
def fnNextDeathSpec : ChangeSpec := { name := "fnNextDeath", fn := fun _ => fun
  | [d] => { results := [.lit (.bool true)], args := [d] }
  | _ => none }
def fnNextDeathRow : OpenClaim := { program := "ytnkmhjdenddpbab", sum := "e708eee9be6ccf27f07145a25322c19015a0c0dcdf9b8977901a036855e99bb9", func := "loop.example/cacheengine/laws.FnNextDeath", spec := "fnNextDeath", apart := false }
def FnNextDeathSaid : Prop := fnNextDeathRow.holds Try.pinned (OpenSpec.ofChange fnNextDeathSpec)

/-- ITS FALSE NEIGHBOUR: 'it returns false'. Refute it at one input. -/
def fnNextDeathWrong : ChangeSpec := { name := "fnNextDeath", fn := fun _ => fun
  | [d] => { results := [.lit (.bool false)], args := [d] }
  | _ => none }
def FnNextDeathWrongFalsely : Prop := fnNextDeathRow.holds Try.pinned (OpenSpec.ofChange fnNextDeathWrong)

/-- 'laws.FnNextDeathNone': WHATEVER THE INPUT: true; the input reads as it did. -/
def fnNextDeathNoneSpec : ChangeSpec := { name := "fnNextDeathNone", fn := fun _ => fun
  | [d] => { results := [.lit (.bool true)], args := [d] }
  | _ => none }
def fnNextDeathNoneRow : OpenClaim := { program := "ytnkmhjdenddpbab", sum := "e708eee9be6ccf27f07145a25322c19015a0c0dcdf9b8977901a036855e99bb9", func := "loop.example/cacheengine/laws.FnNextDeathNone", spec := "fnNextDeathNone", apart := false }
def FnNextDeathNoneSaid : Prop := fnNextDeathNoneRow.holds Try.pinned (OpenSpec.ofChange fnNextDeathNoneSpec)

/-- ITS FALSE NEIGHBOUR: 'it returns false'. Refute it at one input. -/
def fnNextDeathNoneWrong : ChangeSpec := { name := "fnNextDeathNone", fn := fun _ => fun
  | [d] => { results := [.lit (.bool false)], args := [d] }
  | _ => none }
def FnNextDeathNoneWrongFalsely : Prop := fnNextDeathNoneRow.holds Try.pinned (OpenSpec.ofChange fnNextDeathNoneWrong)

/-- 'laws.FnWheelOf': WHATEVER THE INPUT: true; the input reads as it did. -/
def fnWheelOfSpec : ChangeSpec := { name := "fnWheelOf", fn := fun _ => fun
  | [d] => { results := [.lit (.bool true)], args := [d] }
  | _ => none }
def fnWheelOfRow : OpenClaim := { program := "ytnkmhjdenddpbab", sum := "e708eee9be6ccf27f07145a25322c19015a0c0dcdf9b8977901a036855e99bb9", func := "loop.example/cacheengine/laws.FnWheelOf", spec := "fnWheelOf", apart := false }
def FnWheelOfSaid : Prop := fnWheelOfRow.holds Try.pinned (OpenSpec.ofChange fnWheelOfSpec)

/-- ITS FALSE NEIGHBOUR: 'it returns false'. Refute it at one input. -/
def fnWheelOfWrong : ChangeSpec := { name := "fnWheelOf", fn := fun _ => fun
  | [d] => { results := [.lit (.bool false)], args := [d] }
  | _ => none }
def FnWheelOfWrongFalsely : Prop := fnWheelOfRow.holds Try.pinned (OpenSpec.ofChange fnWheelOfWrong)

/-- 'laws.FnWheelOfTurn': WHATEVER THE INPUT: true; the input reads as it did. -/
def fnWheelOfTurnSpec : ChangeSpec := { name := "fnWheelOfTurn", fn := fun _ => fun
  | [d] => { results := [.lit (.bool true)], args := [d] }
  | _ => none }
def fnWheelOfTurnRow : OpenClaim := { program := "ytnkmhjdenddpbab", sum := "e708eee9be6ccf27f07145a25322c19015a0c0dcdf9b8977901a036855e99bb9", func := "loop.example/cacheengine/laws.FnWheelOfTurn", spec := "fnWheelOfTurn", inPlace := ["slices.overlaps[loop.example/cacheengine/impl.Timed]"], unfollowed := true, recurses := true, apart := false }
def FnWheelOfTurnSaid : Prop := fnWheelOfTurnRow.holds Try.pinned (OpenSpec.ofChange fnWheelOfTurnSpec)

/-- ITS FALSE NEIGHBOUR: 'it returns false'. Refute it at one input. -/
def fnWheelOfTurnWrong : ChangeSpec := { name := "fnWheelOfTurn", fn := fun _ => fun
  | [d] => { results := [.lit (.bool false)], args := [d] }
  | _ => none }
def FnWheelOfTurnWrongFalsely : Prop := fnWheelOfTurnRow.holds Try.pinned (OpenSpec.ofChange fnWheelOfTurnWrong)

/-- 'laws.FnBestHitsSegments': WHATEVER THE INPUT: true; the input reads as it did. -/
def fnBestHitsSegmentsSpec : ChangeSpec := { name := "fnBestHitsSegments", fn := fun _ => fun
  | [d] => { results := [.lit (.bool true)], args := [d] }
  | _ => none }
def fnBestHitsSegmentsRow : OpenClaim := { program := "ytnkmhjdenddpbab", sum := "e708eee9be6ccf27f07145a25322c19015a0c0dcdf9b8977901a036855e99bb9", func := "loop.example/cacheengine/laws.FnBestHitsSegments", spec := "fnBestHitsSegments", unfollowed := true, recurses := true, apart := false }
def FnBestHitsSegmentsSaid : Prop := fnBestHitsSegmentsRow.holds Try.pinned (OpenSpec.ofChange fnBestHitsSegmentsSpec)

/-- ITS FALSE NEIGHBOUR: 'it returns false'. Refute it at one input. -/
def fnBestHitsSegmentsWrong : ChangeSpec := { name := "fnBestHitsSegments", fn := fun _ => fun
  | [d] => { results := [.lit (.bool false)], args := [d] }
  | _ => none }
def FnBestHitsSegmentsWrongFalsely : Prop := fnBestHitsSegmentsRow.holds Try.pinned (OpenSpec.ofChange fnBestHitsSegmentsWrong)

/-- 'laws.FnUseGateHit': WHATEVER THE INPUT: true; the input reads as it did. -/
def fnUseGateHitSpec : ChangeSpec := { name := "fnUseGateHit", fn := fun _ => fun
  | [d] => { results := [.lit (.bool true)], args := [d] }
  | _ => none }
def fnUseGateHitRow : OpenClaim := { program := "ytnkmhjdenddpbab", sum := "e708eee9be6ccf27f07145a25322c19015a0c0dcdf9b8977901a036855e99bb9", func := "loop.example/cacheengine/laws.FnUseGateHit", spec := "fnUseGateHit", apart := false }
def FnUseGateHitSaid : Prop := fnUseGateHitRow.holds Try.pinned (OpenSpec.ofChange fnUseGateHitSpec)

/-- ITS FALSE NEIGHBOUR: 'it returns false'. Refute it at one input. -/
def fnUseGateHitWrong : ChangeSpec := { name := "fnUseGateHit", fn := fun _ => fun
  | [d] => { results := [.lit (.bool false)], args := [d] }
  | _ => none }
def FnUseGateHitWrongFalsely : Prop := fnUseGateHitRow.holds Try.pinned (OpenSpec.ofChange fnUseGateHitWrong)

/-- 'laws.FnRunGateBound': WHATEVER THE INPUT: true; the input reads as it did. -/
def fnRunGateBoundSpec : ChangeSpec := { name := "fnRunGateBound", fn := fun _ => fun
  | [d] => { results := [.lit (.bool true)], args := [d] }
  | _ => none }
def fnRunGateBoundRow : OpenClaim := { program := "ytnkmhjdenddpbab", sum := "e708eee9be6ccf27f07145a25322c19015a0c0dcdf9b8977901a036855e99bb9", func := "loop.example/cacheengine/laws.FnRunGateBound", spec := "fnRunGateBound", unfollowed := true, recurses := true, apart := false }
def FnRunGateBoundSaid : Prop := fnRunGateBoundRow.holds Try.pinned (OpenSpec.ofChange fnRunGateBoundSpec)

/-- ITS FALSE NEIGHBOUR: 'it returns false'. Refute it at one input. -/
def fnRunGateBoundWrong : ChangeSpec := { name := "fnRunGateBound", fn := fun _ => fun
  | [d] => { results := [.lit (.bool false)], args := [d] }
  | _ => none }
def FnRunGateBoundWrongFalsely : Prop := fnRunGateBoundRow.holds Try.pinned (OpenSpec.ofChange fnRunGateBoundWrong)

/-- 'laws.FnPrefersAdd': WHATEVER THE INPUT: true; the input reads as it did. -/
def fnPrefersAddSpec : ChangeSpec := { name := "fnPrefersAdd", fn := fun _ => fun
  | [d] => { results := [.lit (.bool true)], args := [d] }
  | _ => none }
def fnPrefersAddRow : OpenClaim := { program := "ytnkmhjdenddpbab", sum := "e708eee9be6ccf27f07145a25322c19015a0c0dcdf9b8977901a036855e99bb9", func := "loop.example/cacheengine/laws.FnPrefersAdd", spec := "fnPrefersAdd", apart := false }
def FnPrefersAddSaid : Prop := fnPrefersAddRow.holds Try.pinned (OpenSpec.ofChange fnPrefersAddSpec)

/-- ITS FALSE NEIGHBOUR: 'it returns false'. Refute it at one input. -/
def fnPrefersAddWrong : ChangeSpec := { name := "fnPrefersAdd", fn := fun _ => fun
  | [d] => { results := [.lit (.bool false)], args := [d] }
  | _ => none }
def FnPrefersAddWrongFalsely : Prop := fnPrefersAddRow.holds Try.pinned (OpenSpec.ofChange fnPrefersAddWrong)

/-- 'laws.FnPutTimedOrder': WHATEVER THE INPUT: true; the input reads as it did. -/
def fnPutTimedOrderSpec : ChangeSpec := { name := "fnPutTimedOrder", fn := fun _ => fun
  | [d] => { results := [.lit (.bool true)], args := [d] }
  | _ => none }
def fnPutTimedOrderRow : OpenClaim := { program := "ytnkmhjdenddpbab", sum := "e708eee9be6ccf27f07145a25322c19015a0c0dcdf9b8977901a036855e99bb9", func := "loop.example/cacheengine/laws.FnPutTimedOrder", spec := "fnPutTimedOrder", inPlace := ["slices.overlaps[loop.example/cacheengine/impl.Timed]"], unfollowed := true, recurses := true, apart := false }
def FnPutTimedOrderSaid : Prop := fnPutTimedOrderRow.holds Try.pinned (OpenSpec.ofChange fnPutTimedOrderSpec)

/-- ITS FALSE NEIGHBOUR: 'it returns false'. Refute it at one input. -/
def fnPutTimedOrderWrong : ChangeSpec := { name := "fnPutTimedOrder", fn := fun _ => fun
  | [d] => { results := [.lit (.bool false)], args := [d] }
  | _ => none }
def FnPutTimedOrderWrongFalsely : Prop := fnPutTimedOrderRow.holds Try.pinned (OpenSpec.ofChange fnPutTimedOrderWrong)

/-- 'laws.FnDropDeadLater': WHATEVER THE INPUT: true; the input reads as it did. -/
def fnDropDeadLaterSpec : ChangeSpec := { name := "fnDropDeadLater", fn := fun _ => fun
  | [d] => { results := [.lit (.bool true)], args := [d] }
  | _ => none }
def fnDropDeadLaterRow : OpenClaim := { program := "ytnkmhjdenddpbab", sum := "e708eee9be6ccf27f07145a25322c19015a0c0dcdf9b8977901a036855e99bb9", func := "loop.example/cacheengine/laws.FnDropDeadLater", spec := "fnDropDeadLater", apart := false }
def FnDropDeadLaterSaid : Prop := fnDropDeadLaterRow.holds Try.pinned (OpenSpec.ofChange fnDropDeadLaterSpec)

/-- ITS FALSE NEIGHBOUR: 'it returns false'. Refute it at one input. -/
def fnDropDeadLaterWrong : ChangeSpec := { name := "fnDropDeadLater", fn := fun _ => fun
  | [d] => { results := [.lit (.bool false)], args := [d] }
  | _ => none }
def FnDropDeadLaterWrongFalsely : Prop := fnDropDeadLaterRow.holds Try.pinned (OpenSpec.ofChange fnDropDeadLaterWrong)

/- THE SECOND FORM. 'bulk': how many values and letters a reading holds, each counted each time it is reached (what is shared counts as often as it is met; a slice's spare places count too). A statement '..UptoSaid' is the law's where the arguments, and the package variables that the reading takes, are together of bulk at most 1048576: NARROWER than '..Said'. Prove '..Said' where nothing that the law and all that it calls make is longer than what came in: it says more and counts as full. Else prove '..UptoSaid'. A law counts once. -/
mutual
def uptoBulk {H : Type} : DataW H → Nat
  | .lit (.string bytes) => bytes.length + 1
  | .lit _ => 1
  | .nil => 1
  | .ptr d => uptoBulk d + 1
  | .slice elems spare => uptoBulkAll elems + uptoBulkAll spare + 1
  | .agg parts => uptoBulkAll parts + 1
  | .iface _ d => uptoBulk d + 1
  | .map entries => uptoBulkEntries entries + 1
  | .held _ => 1
def uptoBulkAll {H : Type} : List (DataW H) → Nat
  | [] => 0
  | d :: r => uptoBulk d + uptoBulkAll r
def uptoBulkEntries {H : Type} : List (Lit × DataW H) → Nat
  | [] => 0
  | x :: r => uptoBulkEntry x + uptoBulkEntries r
def uptoBulkEntry {H : Type} : Lit × DataW H → Nat
  | (.string bytes, d) => bytes.length + uptoBulk d + 1
  | (_, d) => uptoBulk d + 1
 end
def uptoSmall : (H : Type) → List (DataW H) → Bool := fun _ ds => decide (uptoBulkAll ds ≤ 1048576)
def OpenSpec.upto (s : _root_.Go.ChangeSpec) : _root_.Go.OpenSpec := { _root_.Go.OpenSpec.ofChange s with cond := some uptoSmall }

/-- 'laws.FnDropDead', WHERE WHAT IT READS IS OF BULK AT MOST 1048576: true; the input reads as it did. -/
def fnDropDeadUptoRow : OpenClaim := { program := "ytnkmhjdenddpbab", sum := "e708eee9be6ccf27f07145a25322c19015a0c0dcdf9b8977901a036855e99bb9", func := "loop.example/cacheengine/laws.FnDropDead", spec := "fnDropDead", unfollowed := true, recurses := true, apart := false, narrowed := true }
def FnDropDeadUptoSaid : Prop := fnDropDeadUptoRow.holds Try.pinned (OpenSpec.upto fnDropDeadSpec)

/-- 'laws.FnDropDeadAgain', WHERE WHAT IT READS IS OF BULK AT MOST 1048576: true; the input reads as it did. -/
def fnDropDeadAgainUptoRow : OpenClaim := { program := "ytnkmhjdenddpbab", sum := "e708eee9be6ccf27f07145a25322c19015a0c0dcdf9b8977901a036855e99bb9", func := "loop.example/cacheengine/laws.FnDropDeadAgain", spec := "fnDropDeadAgain", apart := false, narrowed := true }
def FnDropDeadAgainUptoSaid : Prop := fnDropDeadAgainUptoRow.holds Try.pinned (OpenSpec.upto fnDropDeadAgainSpec)

/-- 'laws.FnNextDeath', WHERE WHAT IT READS IS OF BULK AT MOST 1048576: true; the input reads as it did. -/
def fnNextDeathUptoRow : OpenClaim := { program := "ytnkmhjdenddpbab", sum := "e708eee9be6ccf27f07145a25322c19015a0c0dcdf9b8977901a036855e99bb9", func := "loop.example/cacheengine/laws.FnNextDeath", spec := "fnNextDeath", apart := false, narrowed := true }
def FnNextDeathUptoSaid : Prop := fnNextDeathUptoRow.holds Try.pinned (OpenSpec.upto fnNextDeathSpec)

/-- 'laws.FnNextDeathNone', WHERE WHAT IT READS IS OF BULK AT MOST 1048576: true; the input reads as it did. -/
def fnNextDeathNoneUptoRow : OpenClaim := { program := "ytnkmhjdenddpbab", sum := "e708eee9be6ccf27f07145a25322c19015a0c0dcdf9b8977901a036855e99bb9", func := "loop.example/cacheengine/laws.FnNextDeathNone", spec := "fnNextDeathNone", apart := false, narrowed := true }
def FnNextDeathNoneUptoSaid : Prop := fnNextDeathNoneUptoRow.holds Try.pinned (OpenSpec.upto fnNextDeathNoneSpec)

/-- 'laws.FnWheelOf', WHERE WHAT IT READS IS OF BULK AT MOST 1048576: true; the input reads as it did. -/
def fnWheelOfUptoRow : OpenClaim := { program := "ytnkmhjdenddpbab", sum := "e708eee9be6ccf27f07145a25322c19015a0c0dcdf9b8977901a036855e99bb9", func := "loop.example/cacheengine/laws.FnWheelOf", spec := "fnWheelOf", apart := false, narrowed := true }
def FnWheelOfUptoSaid : Prop := fnWheelOfUptoRow.holds Try.pinned (OpenSpec.upto fnWheelOfSpec)

/-- 'laws.FnWheelOfTurn', WHERE WHAT IT READS IS OF BULK AT MOST 1048576: true; the input reads as it did. -/
def fnWheelOfTurnUptoRow : OpenClaim := { program := "ytnkmhjdenddpbab", sum := "e708eee9be6ccf27f07145a25322c19015a0c0dcdf9b8977901a036855e99bb9", func := "loop.example/cacheengine/laws.FnWheelOfTurn", spec := "fnWheelOfTurn", inPlace := ["slices.overlaps[loop.example/cacheengine/impl.Timed]"], unfollowed := true, recurses := true, apart := false, narrowed := true }
def FnWheelOfTurnUptoSaid : Prop := fnWheelOfTurnUptoRow.holds Try.pinned (OpenSpec.upto fnWheelOfTurnSpec)

/-- 'laws.FnBestHitsSegments', WHERE WHAT IT READS IS OF BULK AT MOST 1048576: true; the input reads as it did. -/
def fnBestHitsSegmentsUptoRow : OpenClaim := { program := "ytnkmhjdenddpbab", sum := "e708eee9be6ccf27f07145a25322c19015a0c0dcdf9b8977901a036855e99bb9", func := "loop.example/cacheengine/laws.FnBestHitsSegments", spec := "fnBestHitsSegments", unfollowed := true, recurses := true, apart := false, narrowed := true }
def FnBestHitsSegmentsUptoSaid : Prop := fnBestHitsSegmentsUptoRow.holds Try.pinned (OpenSpec.upto fnBestHitsSegmentsSpec)

/-- 'laws.FnUseGateHit', WHERE WHAT IT READS IS OF BULK AT MOST 1048576: true; the input reads as it did. -/
def fnUseGateHitUptoRow : OpenClaim := { program := "ytnkmhjdenddpbab", sum := "e708eee9be6ccf27f07145a25322c19015a0c0dcdf9b8977901a036855e99bb9", func := "loop.example/cacheengine/laws.FnUseGateHit", spec := "fnUseGateHit", apart := false, narrowed := true }
def FnUseGateHitUptoSaid : Prop := fnUseGateHitUptoRow.holds Try.pinned (OpenSpec.upto fnUseGateHitSpec)

/-- 'laws.FnRunGateBound', WHERE WHAT IT READS IS OF BULK AT MOST 1048576: true; the input reads as it did. -/
def fnRunGateBoundUptoRow : OpenClaim := { program := "ytnkmhjdenddpbab", sum := "e708eee9be6ccf27f07145a25322c19015a0c0dcdf9b8977901a036855e99bb9", func := "loop.example/cacheengine/laws.FnRunGateBound", spec := "fnRunGateBound", unfollowed := true, recurses := true, apart := false, narrowed := true }
def FnRunGateBoundUptoSaid : Prop := fnRunGateBoundUptoRow.holds Try.pinned (OpenSpec.upto fnRunGateBoundSpec)

/-- 'laws.FnPrefersAdd', WHERE WHAT IT READS IS OF BULK AT MOST 1048576: true; the input reads as it did. -/
def fnPrefersAddUptoRow : OpenClaim := { program := "ytnkmhjdenddpbab", sum := "e708eee9be6ccf27f07145a25322c19015a0c0dcdf9b8977901a036855e99bb9", func := "loop.example/cacheengine/laws.FnPrefersAdd", spec := "fnPrefersAdd", apart := false, narrowed := true }
def FnPrefersAddUptoSaid : Prop := fnPrefersAddUptoRow.holds Try.pinned (OpenSpec.upto fnPrefersAddSpec)

/-- 'laws.FnPutTimedOrder', WHERE WHAT IT READS IS OF BULK AT MOST 1048576: true; the input reads as it did. -/
def fnPutTimedOrderUptoRow : OpenClaim := { program := "ytnkmhjdenddpbab", sum := "e708eee9be6ccf27f07145a25322c19015a0c0dcdf9b8977901a036855e99bb9", func := "loop.example/cacheengine/laws.FnPutTimedOrder", spec := "fnPutTimedOrder", inPlace := ["slices.overlaps[loop.example/cacheengine/impl.Timed]"], unfollowed := true, recurses := true, apart := false, narrowed := true }
def FnPutTimedOrderUptoSaid : Prop := fnPutTimedOrderUptoRow.holds Try.pinned (OpenSpec.upto fnPutTimedOrderSpec)

/-- 'laws.FnDropDeadLater', WHERE WHAT IT READS IS OF BULK AT MOST 1048576: true; the input reads as it did. -/
def fnDropDeadLaterUptoRow : OpenClaim := { program := "ytnkmhjdenddpbab", sum := "e708eee9be6ccf27f07145a25322c19015a0c0dcdf9b8977901a036855e99bb9", func := "loop.example/cacheengine/laws.FnDropDeadLater", spec := "fnDropDeadLater", apart := false, narrowed := true }
def FnDropDeadLaterUptoSaid : Prop := fnDropDeadLaterUptoRow.holds Try.pinned (OpenSpec.upto fnDropDeadLaterSpec)

end Rows
end Go.Proofs.Ytnkmhjdenddpbab
