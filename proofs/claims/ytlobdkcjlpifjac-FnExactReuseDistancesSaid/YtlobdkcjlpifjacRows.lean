/-
  No cell of these rows narrows 'for every input' (looked for: loops, veiled, ifaces, maps, wideKeys, modest, calm, conditions, laid).
  DERIVED. THE GIVEN ROWS OF THIS SEAT. 12 by the template 'for every input the law returns true; each argument reads behind the call as it read before'; 0 by the template 'total and deterministic' (their statements: YtlobdkcjlpifjacTotals.lean).
  GIVEN WITH THE SEED: the statements are not yours to turn. If you find one false, say at which input.
  Laid BY PROGRAM, IN A SANDBOX (cutbox-rows.mjs): the forced cells as the released guide's own fill.sh prints them over the translation c4978dbeec951202… (all of the seat's roots in one cut). By AI agents, Wed Nov 11 2026. No macro, syntax, notation, axiom, sorry.
-/
import Derived.Test.YtlobdkcjlpifjacChecked
import GoSem.Claim
import GoSem.ClaimJoined
import GoSem.ClaimMapViews
import Derived.JoinedTies
import Derived.KernelRfl
namespace Go.Proofs.Ytlobdkcjlpifjac
/- THE CELL 'sum', in the pinned program and in every row, IS THE sha256 OF THE DUMP (.gsa) THAT YtlobdkcjlpifjacProg.lean LOADS. Nothing in Lean hashes anything: it is a label: what it is worth is what the hold of that sum in a sandbox is worth. -/
noncomputable def Try.pinned : Pinned := { name := "ytlobdkcjlpifjac", sum := "c4978dbeec9512020a4c510c32a8ea8e83299f12830a8df81ffbe5c859faf308", checked := Try.checked }
namespace Rows
def none {H : Type} : Left H := { results := [], args := [] }

/-- 'laws.FnRunListsBound': WHATEVER THE INPUT: true; the input reads as it did. -/
def fnRunListsBoundSpec : ChangeSpec := { name := "fnRunListsBound", fn := fun _ => fun
  | [d] => { results := [.lit (.bool true)], args := [d] }
  | _ => none }
def fnRunListsBoundRow : OpenClaim := { program := "ytlobdkcjlpifjac", sum := "c4978dbeec9512020a4c510c32a8ea8e83299f12830a8df81ffbe5c859faf308", func := "loop.example/cacheengine/laws.FnRunListsBound", spec := "fnRunListsBound", unfollowed := true, recurses := true, apart := false }
def FnRunListsBoundSaid : Prop := fnRunListsBoundRow.holds Try.pinned (OpenSpec.ofChange fnRunListsBoundSpec)

/-- ITS FALSE NEIGHBOUR: 'it returns false'. Refute it at one input. -/
def fnRunListsBoundWrong : ChangeSpec := { name := "fnRunListsBound", fn := fun _ => fun
  | [d] => { results := [.lit (.bool false)], args := [d] }
  | _ => none }
def FnRunListsBoundWrongFalsely : Prop := fnRunListsBoundRow.holds Try.pinned (OpenSpec.ofChange fnRunListsBoundWrong)

/-- 'laws.FnNextUseNever': WHATEVER THE INPUT: true; the input reads as it did. -/
def fnNextUseNeverSpec : ChangeSpec := { name := "fnNextUseNever", fn := fun _ => fun
  | [d] => { results := [.lit (.bool true)], args := [d] }
  | _ => none }
def fnNextUseNeverRow : OpenClaim := { program := "ytlobdkcjlpifjac", sum := "c4978dbeec9512020a4c510c32a8ea8e83299f12830a8df81ffbe5c859faf308", func := "loop.example/cacheengine/laws.FnNextUseNever", spec := "fnNextUseNever", apart := false }
def FnNextUseNeverSaid : Prop := fnNextUseNeverRow.holds Try.pinned (OpenSpec.ofChange fnNextUseNeverSpec)

/-- ITS FALSE NEIGHBOUR: 'it returns false'. Refute it at one input. -/
def fnNextUseNeverWrong : ChangeSpec := { name := "fnNextUseNever", fn := fun _ => fun
  | [d] => { results := [.lit (.bool false)], args := [d] }
  | _ => none }
def FnNextUseNeverWrongFalsely : Prop := fnNextUseNeverRow.holds Try.pinned (OpenSpec.ofChange fnNextUseNeverWrong)

/-- 'laws.FnNewKeysParts': WHATEVER THE INPUT: true; the input reads as it did. -/
def fnNewKeysPartsSpec : ChangeSpec := { name := "fnNewKeysParts", fn := fun _ => fun
  | [d] => { results := [.lit (.bool true)], args := [d] }
  | _ => none }
def fnNewKeysPartsRow : OpenClaim := { program := "ytlobdkcjlpifjac", sum := "c4978dbeec9512020a4c510c32a8ea8e83299f12830a8df81ffbe5c859faf308", func := "loop.example/cacheengine/laws.FnNewKeysParts", spec := "fnNewKeysParts", apart := false }
def FnNewKeysPartsSaid : Prop := fnNewKeysPartsRow.holds Try.pinned (OpenSpec.ofChange fnNewKeysPartsSpec)

/-- ITS FALSE NEIGHBOUR: 'it returns false'. Refute it at one input. -/
def fnNewKeysPartsWrong : ChangeSpec := { name := "fnNewKeysParts", fn := fun _ => fun
  | [d] => { results := [.lit (.bool false)], args := [d] }
  | _ => none }
def FnNewKeysPartsWrongFalsely : Prop := fnNewKeysPartsRow.holds Try.pinned (OpenSpec.ofChange fnNewKeysPartsWrong)

/-- 'laws.FnReuseDistancesAppend': WHATEVER THE INPUT: true; the input reads as it did. -/
def fnReuseDistancesAppendSpec : ChangeSpec := { name := "fnReuseDistancesAppend", fn := fun _ => fun
  | [d] => { results := [.lit (.bool true)], args := [d] }
  | _ => none }
def fnReuseDistancesAppendRow : OpenClaim := { program := "ytlobdkcjlpifjac", sum := "c4978dbeec9512020a4c510c32a8ea8e83299f12830a8df81ffbe5c859faf308", func := "loop.example/cacheengine/laws.FnReuseDistancesAppend", spec := "fnReuseDistancesAppend", apart := false }
def FnReuseDistancesAppendSaid : Prop := fnReuseDistancesAppendRow.holds Try.pinned (OpenSpec.ofChange fnReuseDistancesAppendSpec)

/-- ITS FALSE NEIGHBOUR: 'it returns false'. Refute it at one input. -/
def fnReuseDistancesAppendWrong : ChangeSpec := { name := "fnReuseDistancesAppend", fn := fun _ => fun
  | [d] => { results := [.lit (.bool false)], args := [d] }
  | _ => none }
def FnReuseDistancesAppendWrongFalsely : Prop := fnReuseDistancesAppendRow.holds Try.pinned (OpenSpec.ofChange fnReuseDistancesAppendWrong)

/-- 'laws.FnHitCurveEnd': WHATEVER THE INPUT: true; the input reads as it did. -/
def fnHitCurveEndSpec : ChangeSpec := { name := "fnHitCurveEnd", fn := fun _ => fun
  | [d] => { results := [.lit (.bool true)], args := [d] }
  | _ => none }
def fnHitCurveEndRow : OpenClaim := { program := "ytlobdkcjlpifjac", sum := "c4978dbeec9512020a4c510c32a8ea8e83299f12830a8df81ffbe5c859faf308", func := "loop.example/cacheengine/laws.FnHitCurveEnd", spec := "fnHitCurveEnd", apart := false }
def FnHitCurveEndSaid : Prop := fnHitCurveEndRow.holds Try.pinned (OpenSpec.ofChange fnHitCurveEndSpec)

/-- ITS FALSE NEIGHBOUR: 'it returns false'. Refute it at one input. -/
def fnHitCurveEndWrong : ChangeSpec := { name := "fnHitCurveEnd", fn := fun _ => fun
  | [d] => { results := [.lit (.bool false)], args := [d] }
  | _ => none }
def FnHitCurveEndWrongFalsely : Prop := fnHitCurveEndRow.holds Try.pinned (OpenSpec.ofChange fnHitCurveEndWrong)

/-- 'laws.FnRoomForMore': WHATEVER THE INPUT: true; the input reads as it did. -/
def fnRoomForMoreSpec : ChangeSpec := { name := "fnRoomForMore", fn := fun _ => fun
  | [d] => { results := [.lit (.bool true)], args := [d] }
  | _ => none }
def fnRoomForMoreRow : OpenClaim := { program := "ytlobdkcjlpifjac", sum := "c4978dbeec9512020a4c510c32a8ea8e83299f12830a8df81ffbe5c859faf308", func := "loop.example/cacheengine/laws.FnRoomForMore", spec := "fnRoomForMore", apart := false }
def FnRoomForMoreSaid : Prop := fnRoomForMoreRow.holds Try.pinned (OpenSpec.ofChange fnRoomForMoreSpec)

/-- ITS FALSE NEIGHBOUR: 'it returns false'. Refute it at one input. -/
def fnRoomForMoreWrong : ChangeSpec := { name := "fnRoomForMore", fn := fun _ => fun
  | [d] => { results := [.lit (.bool false)], args := [d] }
  | _ => none }
def FnRoomForMoreWrongFalsely : Prop := fnRoomForMoreRow.holds Try.pinned (OpenSpec.ofChange fnRoomForMoreWrong)

/-- 'laws.FnWorkingSetOne': WHATEVER THE INPUT: true; the input reads as it did. -/
def fnWorkingSetOneSpec : ChangeSpec := { name := "fnWorkingSetOne", fn := fun _ => fun
  | [d] => { results := [.lit (.bool true)], args := [d] }
  | _ => none }
def fnWorkingSetOneRow : OpenClaim := { program := "ytlobdkcjlpifjac", sum := "c4978dbeec9512020a4c510c32a8ea8e83299f12830a8df81ffbe5c859faf308", func := "loop.example/cacheengine/laws.FnWorkingSetOne", spec := "fnWorkingSetOne", apart := false }
def FnWorkingSetOneSaid : Prop := fnWorkingSetOneRow.holds Try.pinned (OpenSpec.ofChange fnWorkingSetOneSpec)

/-- ITS FALSE NEIGHBOUR: 'it returns false'. Refute it at one input. -/
def fnWorkingSetOneWrong : ChangeSpec := { name := "fnWorkingSetOne", fn := fun _ => fun
  | [d] => { results := [.lit (.bool false)], args := [d] }
  | _ => none }
def FnWorkingSetOneWrongFalsely : Prop := fnWorkingSetOneRow.holds Try.pinned (OpenSpec.ofChange fnWorkingSetOneWrong)

/-- 'laws.FnExactNextUse': WHATEVER THE INPUT: true; the input reads as it did. -/
def fnExactNextUseSpec : ChangeSpec := { name := "fnExactNextUse", fn := fun _ => fun
  | [d1, d2, d3] => { results := [.lit (.bool true)], args := [d1, d2, d3] }
  | _ => none }
def fnExactNextUseRow : OpenClaim := { program := "ytlobdkcjlpifjac", sum := "c4978dbeec9512020a4c510c32a8ea8e83299f12830a8df81ffbe5c859faf308", func := "loop.example/cacheengine/laws.FnExactNextUse", spec := "fnExactNextUse", apart := false }
def FnExactNextUseSaid : Prop := fnExactNextUseRow.holds Try.pinned (OpenSpec.ofChange fnExactNextUseSpec)

/-- ITS FALSE NEIGHBOUR: 'it returns false'. Refute it at one input. -/
def fnExactNextUseWrong : ChangeSpec := { name := "fnExactNextUse", fn := fun _ => fun
  | [d1, d2, d3] => { results := [.lit (.bool false)], args := [d1, d2, d3] }
  | _ => none }
def FnExactNextUseWrongFalsely : Prop := fnExactNextUseRow.holds Try.pinned (OpenSpec.ofChange fnExactNextUseWrong)

/-- 'laws.FnExactBestHits': WHATEVER THE INPUT: true; the input reads as it did. -/
def fnExactBestHitsSpec : ChangeSpec := { name := "fnExactBestHits", fn := fun _ => fun
  | [d1, d2] => { results := [.lit (.bool true)], args := [d1, d2] }
  | _ => none }
def fnExactBestHitsRow : OpenClaim := { program := "ytlobdkcjlpifjac", sum := "c4978dbeec9512020a4c510c32a8ea8e83299f12830a8df81ffbe5c859faf308", func := "loop.example/cacheengine/laws.FnExactBestHits", spec := "fnExactBestHits", apart := false }
def FnExactBestHitsSaid : Prop := fnExactBestHitsRow.holds Try.pinned (OpenSpec.ofChange fnExactBestHitsSpec)

/-- ITS FALSE NEIGHBOUR: 'it returns false'. Refute it at one input. -/
def fnExactBestHitsWrong : ChangeSpec := { name := "fnExactBestHits", fn := fun _ => fun
  | [d1, d2] => { results := [.lit (.bool false)], args := [d1, d2] }
  | _ => none }
def FnExactBestHitsWrongFalsely : Prop := fnExactBestHitsRow.holds Try.pinned (OpenSpec.ofChange fnExactBestHitsWrong)

/-- 'laws.FnExactNewKeys': WHATEVER THE INPUT: true; the input reads as it did. -/
def fnExactNewKeysSpec : ChangeSpec := { name := "fnExactNewKeys", fn := fun _ => fun
  | [d] => { results := [.lit (.bool true)], args := [d] }
  | _ => none }
def fnExactNewKeysRow : OpenClaim := { program := "ytlobdkcjlpifjac", sum := "c4978dbeec9512020a4c510c32a8ea8e83299f12830a8df81ffbe5c859faf308", func := "loop.example/cacheengine/laws.FnExactNewKeys", spec := "fnExactNewKeys", apart := false }
def FnExactNewKeysSaid : Prop := fnExactNewKeysRow.holds Try.pinned (OpenSpec.ofChange fnExactNewKeysSpec)

/-- ITS FALSE NEIGHBOUR: 'it returns false'. Refute it at one input. -/
def fnExactNewKeysWrong : ChangeSpec := { name := "fnExactNewKeys", fn := fun _ => fun
  | [d] => { results := [.lit (.bool false)], args := [d] }
  | _ => none }
def FnExactNewKeysWrongFalsely : Prop := fnExactNewKeysRow.holds Try.pinned (OpenSpec.ofChange fnExactNewKeysWrong)

/-- 'laws.FnExactMissesOver': WHATEVER THE INPUT: true; the input reads as it did. -/
def fnExactMissesOverSpec : ChangeSpec := { name := "fnExactMissesOver", fn := fun _ => fun
  | [d1, d2] => { results := [.lit (.bool true)], args := [d1, d2] }
  | _ => none }
def fnExactMissesOverRow : OpenClaim := { program := "ytlobdkcjlpifjac", sum := "c4978dbeec9512020a4c510c32a8ea8e83299f12830a8df81ffbe5c859faf308", func := "loop.example/cacheengine/laws.FnExactMissesOver", spec := "fnExactMissesOver", unfollowed := true, recurses := true, apart := false }
def FnExactMissesOverSaid : Prop := fnExactMissesOverRow.holds Try.pinned (OpenSpec.ofChange fnExactMissesOverSpec)

/-- ITS FALSE NEIGHBOUR: 'it returns false'. Refute it at one input. -/
def fnExactMissesOverWrong : ChangeSpec := { name := "fnExactMissesOver", fn := fun _ => fun
  | [d1, d2] => { results := [.lit (.bool false)], args := [d1, d2] }
  | _ => none }
def FnExactMissesOverWrongFalsely : Prop := fnExactMissesOverRow.holds Try.pinned (OpenSpec.ofChange fnExactMissesOverWrong)

/-- 'laws.FnExactReuseDistances': WHATEVER THE INPUT: true; the input reads as it did. -/
def fnExactReuseDistancesSpec : ChangeSpec := { name := "fnExactReuseDistances", fn := fun _ => fun
  | [d] => { results := [.lit (.bool true)], args := [d] }
  | _ => none }
def fnExactReuseDistancesRow : OpenClaim := { program := "ytlobdkcjlpifjac", sum := "c4978dbeec9512020a4c510c32a8ea8e83299f12830a8df81ffbe5c859faf308", func := "loop.example/cacheengine/laws.FnExactReuseDistances", spec := "fnExactReuseDistances", apart := false }
def FnExactReuseDistancesSaid : Prop := fnExactReuseDistancesRow.holds Try.pinned (OpenSpec.ofChange fnExactReuseDistancesSpec)

/-- ITS FALSE NEIGHBOUR: 'it returns false'. Refute it at one input. -/
def fnExactReuseDistancesWrong : ChangeSpec := { name := "fnExactReuseDistances", fn := fun _ => fun
  | [d] => { results := [.lit (.bool false)], args := [d] }
  | _ => none }
def FnExactReuseDistancesWrongFalsely : Prop := fnExactReuseDistancesRow.holds Try.pinned (OpenSpec.ofChange fnExactReuseDistancesWrong)

/- THE SECOND FORM. 'bulk': how many values and letters a reading holds, each counted each time it is reached (what is shared counts as often as it is met; a slice's spare places count too). A statement '..UptoSaid' is the law's where the arguments, and the package variables that the reading takes, are together of bulk at most 1048576: NARROWER than '..Said'. Prove '..Said' where nothing that the law and all that it calls make is longer than what came in: it says more and counts as full. Else prove '..UptoSaid'. A law counts once. -/
mutual
def uptoBulk {H : Type} : DataW H → Nat
  | .lit (.string bytes) => bytes.length + 1
  | .lit _ => 1
  | .nil => 1
  | .ptr d => uptoBulk d + 1
  | .slice elems spare => uptoBulkAll elems + uptoBulkAll spare + 1
  | .agg parts => uptoBulkAll parts + 1
  | .iface _ d => uptoBulk d + 1
  | .map entries => uptoBulkEntries entries + 1
  | .held _ => 1
def uptoBulkAll {H : Type} : List (DataW H) → Nat
  | [] => 0
  | d :: r => uptoBulk d + uptoBulkAll r
def uptoBulkEntries {H : Type} : List (Lit × DataW H) → Nat
  | [] => 0
  | x :: r => uptoBulkEntry x + uptoBulkEntries r
def uptoBulkEntry {H : Type} : Lit × DataW H → Nat
  | (.string bytes, d) => bytes.length + uptoBulk d + 1
  | (_, d) => uptoBulk d + 1
 end
def uptoSmall : (H : Type) → List (DataW H) → Bool := fun _ ds => decide (uptoBulkAll ds ≤ 1048576)
def OpenSpec.upto (s : _root_.Go.ChangeSpec) : _root_.Go.OpenSpec := { _root_.Go.OpenSpec.ofChange s with cond := some uptoSmall }

/-- 'laws.FnRunListsBound', WHERE WHAT IT READS IS OF BULK AT MOST 1048576: true; the input reads as it did. -/
def fnRunListsBoundUptoRow : OpenClaim := { program := "ytlobdkcjlpifjac", sum := "c4978dbeec9512020a4c510c32a8ea8e83299f12830a8df81ffbe5c859faf308", func := "loop.example/cacheengine/laws.FnRunListsBound", spec := "fnRunListsBound", unfollowed := true, recurses := true, apart := false, narrowed := true }
def FnRunListsBoundUptoSaid : Prop := fnRunListsBoundUptoRow.holds Try.pinned (OpenSpec.upto fnRunListsBoundSpec)

/-- 'laws.FnNextUseNever', WHERE WHAT IT READS IS OF BULK AT MOST 1048576: true; the input reads as it did. -/
def fnNextUseNeverUptoRow : OpenClaim := { program := "ytlobdkcjlpifjac", sum := "c4978dbeec9512020a4c510c32a8ea8e83299f12830a8df81ffbe5c859faf308", func := "loop.example/cacheengine/laws.FnNextUseNever", spec := "fnNextUseNever", apart := false, narrowed := true }
def FnNextUseNeverUptoSaid : Prop := fnNextUseNeverUptoRow.holds Try.pinned (OpenSpec.upto fnNextUseNeverSpec)

/-- 'laws.FnNewKeysParts', WHERE WHAT IT READS IS OF BULK AT MOST 1048576: true; the input reads as it did. -/
def fnNewKeysPartsUptoRow : OpenClaim := { program := "ytlobdkcjlpifjac", sum := "c4978dbeec9512020a4c510c32a8ea8e83299f12830a8df81ffbe5c859faf308", func := "loop.example/cacheengine/laws.FnNewKeysParts", spec := "fnNewKeysParts", apart := false, narrowed := true }
def FnNewKeysPartsUptoSaid : Prop := fnNewKeysPartsUptoRow.holds Try.pinned (OpenSpec.upto fnNewKeysPartsSpec)

/-- 'laws.FnReuseDistancesAppend', WHERE WHAT IT READS IS OF BULK AT MOST 1048576: true; the input reads as it did. -/
def fnReuseDistancesAppendUptoRow : OpenClaim := { program := "ytlobdkcjlpifjac", sum := "c4978dbeec9512020a4c510c32a8ea8e83299f12830a8df81ffbe5c859faf308", func := "loop.example/cacheengine/laws.FnReuseDistancesAppend", spec := "fnReuseDistancesAppend", apart := false, narrowed := true }
def FnReuseDistancesAppendUptoSaid : Prop := fnReuseDistancesAppendUptoRow.holds Try.pinned (OpenSpec.upto fnReuseDistancesAppendSpec)

/-- 'laws.FnHitCurveEnd', WHERE WHAT IT READS IS OF BULK AT MOST 1048576: true; the input reads as it did. -/
def fnHitCurveEndUptoRow : OpenClaim := { program := "ytlobdkcjlpifjac", sum := "c4978dbeec9512020a4c510c32a8ea8e83299f12830a8df81ffbe5c859faf308", func := "loop.example/cacheengine/laws.FnHitCurveEnd", spec := "fnHitCurveEnd", apart := false, narrowed := true }
def FnHitCurveEndUptoSaid : Prop := fnHitCurveEndUptoRow.holds Try.pinned (OpenSpec.upto fnHitCurveEndSpec)

/-- 'laws.FnRoomForMore', WHERE WHAT IT READS IS OF BULK AT MOST 1048576: true; the input reads as it did. -/
def fnRoomForMoreUptoRow : OpenClaim := { program := "ytlobdkcjlpifjac", sum := "c4978dbeec9512020a4c510c32a8ea8e83299f12830a8df81ffbe5c859faf308", func := "loop.example/cacheengine/laws.FnRoomForMore", spec := "fnRoomForMore", apart := false, narrowed := true }
def FnRoomForMoreUptoSaid : Prop := fnRoomForMoreUptoRow.holds Try.pinned (OpenSpec.upto fnRoomForMoreSpec)

/-- 'laws.FnWorkingSetOne', WHERE WHAT IT READS IS OF BULK AT MOST 1048576: true; the input reads as it did. -/
def fnWorkingSetOneUptoRow : OpenClaim := { program := "ytlobdkcjlpifjac", sum := "c4978dbeec9512020a4c510c32a8ea8e83299f12830a8df81ffbe5c859faf308", func := "loop.example/cacheengine/laws.FnWorkingSetOne", spec := "fnWorkingSetOne", apart := false, narrowed := true }
def FnWorkingSetOneUptoSaid : Prop := fnWorkingSetOneUptoRow.holds Try.pinned (OpenSpec.upto fnWorkingSetOneSpec)

/-- 'laws.FnExactNextUse', WHERE WHAT IT READS IS OF BULK AT MOST 1048576: true; the input reads as it did. -/
def fnExactNextUseUptoRow : OpenClaim := { program := "ytlobdkcjlpifjac", sum := "c4978dbeec9512020a4c510c32a8ea8e83299f12830a8df81ffbe5c859faf308", func := "loop.example/cacheengine/laws.FnExactNextUse", spec := "fnExactNextUse", apart := false, narrowed := true }
def FnExactNextUseUptoSaid : Prop := fnExactNextUseUptoRow.holds Try.pinned (OpenSpec.upto fnExactNextUseSpec)

/-- 'laws.FnExactBestHits', WHERE WHAT IT READS IS OF BULK AT MOST 1048576: true; the input reads as it did. -/
def fnExactBestHitsUptoRow : OpenClaim := { program := "ytlobdkcjlpifjac", sum := "c4978dbeec9512020a4c510c32a8ea8e83299f12830a8df81ffbe5c859faf308", func := "loop.example/cacheengine/laws.FnExactBestHits", spec := "fnExactBestHits", apart := false, narrowed := true }
def FnExactBestHitsUptoSaid : Prop := fnExactBestHitsUptoRow.holds Try.pinned (OpenSpec.upto fnExactBestHitsSpec)

/-- 'laws.FnExactNewKeys', WHERE WHAT IT READS IS OF BULK AT MOST 1048576: true; the input reads as it did. -/
def fnExactNewKeysUptoRow : OpenClaim := { program := "ytlobdkcjlpifjac", sum := "c4978dbeec9512020a4c510c32a8ea8e83299f12830a8df81ffbe5c859faf308", func := "loop.example/cacheengine/laws.FnExactNewKeys", spec := "fnExactNewKeys", apart := false, narrowed := true }
def FnExactNewKeysUptoSaid : Prop := fnExactNewKeysUptoRow.holds Try.pinned (OpenSpec.upto fnExactNewKeysSpec)

/-- 'laws.FnExactMissesOver', WHERE WHAT IT READS IS OF BULK AT MOST 1048576: true; the input reads as it did. -/
def fnExactMissesOverUptoRow : OpenClaim := { program := "ytlobdkcjlpifjac", sum := "c4978dbeec9512020a4c510c32a8ea8e83299f12830a8df81ffbe5c859faf308", func := "loop.example/cacheengine/laws.FnExactMissesOver", spec := "fnExactMissesOver", unfollowed := true, recurses := true, apart := false, narrowed := true }
def FnExactMissesOverUptoSaid : Prop := fnExactMissesOverUptoRow.holds Try.pinned (OpenSpec.upto fnExactMissesOverSpec)

/-- 'laws.FnExactReuseDistances', WHERE WHAT IT READS IS OF BULK AT MOST 1048576: true; the input reads as it did. -/
def fnExactReuseDistancesUptoRow : OpenClaim := { program := "ytlobdkcjlpifjac", sum := "c4978dbeec9512020a4c510c32a8ea8e83299f12830a8df81ffbe5c859faf308", func := "loop.example/cacheengine/laws.FnExactReuseDistances", spec := "fnExactReuseDistances", apart := false, narrowed := true }
def FnExactReuseDistancesUptoSaid : Prop := fnExactReuseDistancesUptoRow.holds Try.pinned (OpenSpec.upto fnExactReuseDistancesSpec)

end Rows
end Go.Proofs.Ytlobdkcjlpifjac
