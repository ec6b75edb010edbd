/-
  No cell of these rows narrows 'for every input' (looked for: loops, veiled, ifaces, maps, wideKeys, modest, calm, conditions, laid).
  DERIVED. THE GIVEN ROWS OF THIS SEAT. 12 by the template 'for every input the law returns true; each argument reads behind the call as it read before'; 0 by the template 'total and deterministic' (their statements: YtlobdkcjlpifjabTotals.lean).
  GIVEN WITH THE SEED: the statements are not yours to turn. If you find one false, say at which input.
  Laid BY PROGRAM, IN A SANDBOX (cutbox-rows.mjs): the forced cells as the released guide's own fill.sh prints them over the translation 77941c579180bd21… (all of the seat's roots in one cut). By AI agents, Wed Nov 11 2026. No macro, syntax, notation, axiom, sorry.
-/
import Derived.Test.YtlobdkcjlpifjabChecked
import GoSem.Claim
import GoSem.ClaimJoined
import GoSem.ClaimMapViews
import Derived.JoinedTies
import Derived.KernelRfl
namespace Go.Proofs.Ytlobdkcjlpifjab
/- THE CELL 'sum', in the pinned program and in every row, IS THE sha256 OF THE DUMP (.gsa) THAT YtlobdkcjlpifjabProg.lean LOADS. Nothing in Lean hashes anything: it is a label: what it is worth is what the hold of that sum in a sandbox is worth. -/
noncomputable def Try.pinned : Pinned := { name := "ytlobdkcjlpifjab", sum := "77941c579180bd21927bf9db1817237d99ce205f900747881142884e6d4937b7", checked := Try.checked }
namespace Rows
def none {H : Type} : Left H := { results := [], args := [] }

/-- 'laws.FnHitCurve': WHATEVER THE INPUT: true; the input reads as it did. -/
def fnHitCurveSpec : ChangeSpec := { name := "fnHitCurve", fn := fun _ => fun
  | [d] => { results := [.lit (.bool true)], args := [d] }
  | _ => none }
def fnHitCurveRow : OpenClaim := { program := "ytlobdkcjlpifjab", sum := "77941c579180bd21927bf9db1817237d99ce205f900747881142884e6d4937b7", func := "loop.example/cacheengine/laws.FnHitCurve", spec := "fnHitCurve", unfollowed := true, recurses := true, apart := false }
def FnHitCurveSaid : Prop := fnHitCurveRow.holds Try.pinned (OpenSpec.ofChange fnHitCurveSpec)

/-- ITS FALSE NEIGHBOUR: 'it returns false'. Refute it at one input. -/
def fnHitCurveWrong : ChangeSpec := { name := "fnHitCurve", fn := fun _ => fun
  | [d] => { results := [.lit (.bool false)], args := [d] }
  | _ => none }
def FnHitCurveWrongFalsely : Prop := fnHitCurveRow.holds Try.pinned (OpenSpec.ofChange fnHitCurveWrong)

/-- 'laws.FnHitCurveUp': WHATEVER THE INPUT: true; the input reads as it did. -/
def fnHitCurveUpSpec : ChangeSpec := { name := "fnHitCurveUp", fn := fun _ => fun
  | [d] => { results := [.lit (.bool true)], args := [d] }
  | _ => none }
def fnHitCurveUpRow : OpenClaim := { program := "ytlobdkcjlpifjab", sum := "77941c579180bd21927bf9db1817237d99ce205f900747881142884e6d4937b7", func := "loop.example/cacheengine/laws.FnHitCurveUp", spec := "fnHitCurveUp", apart := false }
def FnHitCurveUpSaid : Prop := fnHitCurveUpRow.holds Try.pinned (OpenSpec.ofChange fnHitCurveUpSpec)

/-- ITS FALSE NEIGHBOUR: 'it returns false'. Refute it at one input. -/
def fnHitCurveUpWrong : ChangeSpec := { name := "fnHitCurveUp", fn := fun _ => fun
  | [d] => { results := [.lit (.bool false)], args := [d] }
  | _ => none }
def FnHitCurveUpWrongFalsely : Prop := fnHitCurveUpRow.holds Try.pinned (OpenSpec.ofChange fnHitCurveUpWrong)

/-- 'laws.FnRoomFor': WHATEVER THE INPUT: true; the input reads as it did. -/
def fnRoomForSpec : ChangeSpec := { name := "fnRoomFor", fn := fun _ => fun
  | [d] => { results := [.lit (.bool true)], args := [d] }
  | _ => none }
def fnRoomForRow : OpenClaim := { program := "ytlobdkcjlpifjab", sum := "77941c579180bd21927bf9db1817237d99ce205f900747881142884e6d4937b7", func := "loop.example/cacheengine/laws.FnRoomFor", spec := "fnRoomFor", unfollowed := true, recurses := true, apart := false }
def FnRoomForSaid : Prop := fnRoomForRow.holds Try.pinned (OpenSpec.ofChange fnRoomForSpec)

/-- ITS FALSE NEIGHBOUR: 'it returns false'. Refute it at one input. -/
def fnRoomForWrong : ChangeSpec := { name := "fnRoomFor", fn := fun _ => fun
  | [d] => { results := [.lit (.bool false)], args := [d] }
  | _ => none }
def FnRoomForWrongFalsely : Prop := fnRoomForRow.holds Try.pinned (OpenSpec.ofChange fnRoomForWrong)

/-- 'laws.FnRoomForNone': WHATEVER THE INPUT: true; the input reads as it did. -/
def fnRoomForNoneSpec : ChangeSpec := { name := "fnRoomForNone", fn := fun _ => fun
  | [d] => { results := [.lit (.bool true)], args := [d] }
  | _ => none }
def fnRoomForNoneRow : OpenClaim := { program := "ytlobdkcjlpifjab", sum := "77941c579180bd21927bf9db1817237d99ce205f900747881142884e6d4937b7", func := "loop.example/cacheengine/laws.FnRoomForNone", spec := "fnRoomForNone", unfollowed := true, recurses := true, apart := false }
def FnRoomForNoneSaid : Prop := fnRoomForNoneRow.holds Try.pinned (OpenSpec.ofChange fnRoomForNoneSpec)

/-- ITS FALSE NEIGHBOUR: 'it returns false'. Refute it at one input. -/
def fnRoomForNoneWrong : ChangeSpec := { name := "fnRoomForNone", fn := fun _ => fun
  | [d] => { results := [.lit (.bool false)], args := [d] }
  | _ => none }
def FnRoomForNoneWrongFalsely : Prop := fnRoomForNoneRow.holds Try.pinned (OpenSpec.ofChange fnRoomForNoneWrong)

/-- 'laws.FnWorkingSet': WHATEVER THE INPUT: true; the input reads as it did. -/
def fnWorkingSetSpec : ChangeSpec := { name := "fnWorkingSet", fn := fun _ => fun
  | [d] => { results := [.lit (.bool true)], args := [d] }
  | _ => none }
def fnWorkingSetRow : OpenClaim := { program := "ytlobdkcjlpifjab", sum := "77941c579180bd21927bf9db1817237d99ce205f900747881142884e6d4937b7", func := "loop.example/cacheengine/laws.FnWorkingSet", spec := "fnWorkingSet", apart := false }
def FnWorkingSetSaid : Prop := fnWorkingSetRow.holds Try.pinned (OpenSpec.ofChange fnWorkingSetSpec)

/-- ITS FALSE NEIGHBOUR: 'it returns false'. Refute it at one input. -/
def fnWorkingSetWrong : ChangeSpec := { name := "fnWorkingSet", fn := fun _ => fun
  | [d] => { results := [.lit (.bool false)], args := [d] }
  | _ => none }
def FnWorkingSetWrongFalsely : Prop := fnWorkingSetRow.holds Try.pinned (OpenSpec.ofChange fnWorkingSetWrong)

/-- 'laws.FnWorkingSetMore': WHATEVER THE INPUT: true; the input reads as it did. -/
def fnWorkingSetMoreSpec : ChangeSpec := { name := "fnWorkingSetMore", fn := fun _ => fun
  | [d] => { results := [.lit (.bool true)], args := [d] }
  | _ => none }
def fnWorkingSetMoreRow : OpenClaim := { program := "ytlobdkcjlpifjab", sum := "77941c579180bd21927bf9db1817237d99ce205f900747881142884e6d4937b7", func := "loop.example/cacheengine/laws.FnWorkingSetMore", spec := "fnWorkingSetMore", apart := false }
def FnWorkingSetMoreSaid : Prop := fnWorkingSetMoreRow.holds Try.pinned (OpenSpec.ofChange fnWorkingSetMoreSpec)

/-- ITS FALSE NEIGHBOUR: 'it returns false'. Refute it at one input. -/
def fnWorkingSetMoreWrong : ChangeSpec := { name := "fnWorkingSetMore", fn := fun _ => fun
  | [d] => { results := [.lit (.bool false)], args := [d] }
  | _ => none }
def FnWorkingSetMoreWrongFalsely : Prop := fnWorkingSetMoreRow.holds Try.pinned (OpenSpec.ofChange fnWorkingSetMoreWrong)

/-- 'laws.FnRunRecentTwice': WHATEVER THE INPUT: true; the input reads as it did. -/
def fnRunRecentTwiceSpec : ChangeSpec := { name := "fnRunRecentTwice", fn := fun _ => fun
  | [d] => { results := [.lit (.bool true)], args := [d] }
  | _ => none }
def fnRunRecentTwiceRow : OpenClaim := { program := "ytlobdkcjlpifjab", sum := "77941c579180bd21927bf9db1817237d99ce205f900747881142884e6d4937b7", func := "loop.example/cacheengine/laws.FnRunRecentTwice", spec := "fnRunRecentTwice", unfollowed := true, recurses := true, apart := false }
def FnRunRecentTwiceSaid : Prop := fnRunRecentTwiceRow.holds Try.pinned (OpenSpec.ofChange fnRunRecentTwiceSpec)

/-- ITS FALSE NEIGHBOUR: 'it returns false'. Refute it at one input. -/
def fnRunRecentTwiceWrong : ChangeSpec := { name := "fnRunRecentTwice", fn := fun _ => fun
  | [d] => { results := [.lit (.bool false)], args := [d] }
  | _ => none }
def FnRunRecentTwiceWrongFalsely : Prop := fnRunRecentTwiceRow.holds Try.pinned (OpenSpec.ofChange fnRunRecentTwiceWrong)

/-- 'laws.FnRunFirstKeys': WHATEVER THE INPUT: true; the input reads as it did. -/
def fnRunFirstKeysSpec : ChangeSpec := { name := "fnRunFirstKeys", fn := fun _ => fun
  | [d] => { results := [.lit (.bool true)], args := [d] }
  | _ => none }
def fnRunFirstKeysRow : OpenClaim := { program := "ytlobdkcjlpifjab", sum := "77941c579180bd21927bf9db1817237d99ce205f900747881142884e6d4937b7", func := "loop.example/cacheengine/laws.FnRunFirstKeys", spec := "fnRunFirstKeys", unfollowed := true, recurses := true, apart := false }
def FnRunFirstKeysSaid : Prop := fnRunFirstKeysRow.holds Try.pinned (OpenSpec.ofChange fnRunFirstKeysSpec)

/-- ITS FALSE NEIGHBOUR: 'it returns false'. Refute it at one input. -/
def fnRunFirstKeysWrong : ChangeSpec := { name := "fnRunFirstKeys", fn := fun _ => fun
  | [d] => { results := [.lit (.bool false)], args := [d] }
  | _ => none }
def FnRunFirstKeysWrongFalsely : Prop := fnRunFirstKeysRow.holds Try.pinned (OpenSpec.ofChange fnRunFirstKeysWrong)

/-- 'laws.FnRunClockBound': WHATEVER THE INPUT: true; the input reads as it did. -/
def fnRunClockBoundSpec : ChangeSpec := { name := "fnRunClockBound", fn := fun _ => fun
  | [d] => { results := [.lit (.bool true)], args := [d] }
  | _ => none }
def fnRunClockBoundRow : OpenClaim := { program := "ytlobdkcjlpifjab", sum := "77941c579180bd21927bf9db1817237d99ce205f900747881142884e6d4937b7", func := "loop.example/cacheengine/laws.FnRunClockBound", spec := "fnRunClockBound", unfollowed := true, recurses := true, apart := false }
def FnRunClockBoundSaid : Prop := fnRunClockBoundRow.holds Try.pinned (OpenSpec.ofChange fnRunClockBoundSpec)

/-- ITS FALSE NEIGHBOUR: 'it returns false'. Refute it at one input. -/
def fnRunClockBoundWrong : ChangeSpec := { name := "fnRunClockBound", fn := fun _ => fun
  | [d] => { results := [.lit (.bool false)], args := [d] }
  | _ => none }
def FnRunClockBoundWrongFalsely : Prop := fnRunClockBoundRow.holds Try.pinned (OpenSpec.ofChange fnRunClockBoundWrong)

/-- 'laws.FnRunSegmentsSmall': WHATEVER THE INPUT: true; the input reads as it did. -/
def fnRunSegmentsSmallSpec : ChangeSpec := { name := "fnRunSegmentsSmall", fn := fun _ => fun
  | [d] => { results := [.lit (.bool true)], args := [d] }
  | _ => none }
def fnRunSegmentsSmallRow : OpenClaim := { program := "ytlobdkcjlpifjab", sum := "77941c579180bd21927bf9db1817237d99ce205f900747881142884e6d4937b7", func := "loop.example/cacheengine/laws.FnRunSegmentsSmall", spec := "fnRunSegmentsSmall", unfollowed := true, recurses := true, apart := false }
def FnRunSegmentsSmallSaid : Prop := fnRunSegmentsSmallRow.holds Try.pinned (OpenSpec.ofChange fnRunSegmentsSmallSpec)

/-- ITS FALSE NEIGHBOUR: 'it returns false'. Refute it at one input. -/
def fnRunSegmentsSmallWrong : ChangeSpec := { name := "fnRunSegmentsSmall", fn := fun _ => fun
  | [d] => { results := [.lit (.bool false)], args := [d] }
  | _ => none }
def FnRunSegmentsSmallWrongFalsely : Prop := fnRunSegmentsSmallRow.holds Try.pinned (OpenSpec.ofChange fnRunSegmentsSmallWrong)

/-- 'laws.FnRunSegmentsBest': WHATEVER THE INPUT: true; the input reads as it did. -/
def fnRunSegmentsBestSpec : ChangeSpec := { name := "fnRunSegmentsBest", fn := fun _ => fun
  | [d] => { results := [.lit (.bool true)], args := [d] }
  | _ => none }
def fnRunSegmentsBestRow : OpenClaim := { program := "ytlobdkcjlpifjab", sum := "77941c579180bd21927bf9db1817237d99ce205f900747881142884e6d4937b7", func := "loop.example/cacheengine/laws.FnRunSegmentsBest", spec := "fnRunSegmentsBest", unfollowed := true, recurses := true, apart := false }
def FnRunSegmentsBestSaid : Prop := fnRunSegmentsBestRow.holds Try.pinned (OpenSpec.ofChange fnRunSegmentsBestSpec)

/-- ITS FALSE NEIGHBOUR: 'it returns false'. Refute it at one input. -/
def fnRunSegmentsBestWrong : ChangeSpec := { name := "fnRunSegmentsBest", fn := fun _ => fun
  | [d] => { results := [.lit (.bool false)], args := [d] }
  | _ => none }
def FnRunSegmentsBestWrongFalsely : Prop := fnRunSegmentsBestRow.holds Try.pinned (OpenSpec.ofChange fnRunSegmentsBestWrong)

/-- 'laws.FnRunOftenBound': WHATEVER THE INPUT: true; the input reads as it did. -/
def fnRunOftenBoundSpec : ChangeSpec := { name := "fnRunOftenBound", fn := fun _ => fun
  | [d] => { results := [.lit (.bool true)], args := [d] }
  | _ => none }
def fnRunOftenBoundRow : OpenClaim := { program := "ytlobdkcjlpifjab", sum := "77941c579180bd21927bf9db1817237d99ce205f900747881142884e6d4937b7", func := "loop.example/cacheengine/laws.FnRunOftenBound", spec := "fnRunOftenBound", unfollowed := true, recurses := true, apart := false }
def FnRunOftenBoundSaid : Prop := fnRunOftenBoundRow.holds Try.pinned (OpenSpec.ofChange fnRunOftenBoundSpec)

/-- ITS FALSE NEIGHBOUR: 'it returns false'. Refute it at one input. -/
def fnRunOftenBoundWrong : ChangeSpec := { name := "fnRunOftenBound", fn := fun _ => fun
  | [d] => { results := [.lit (.bool false)], args := [d] }
  | _ => none }
def FnRunOftenBoundWrongFalsely : Prop := fnRunOftenBoundRow.holds Try.pinned (OpenSpec.ofChange fnRunOftenBoundWrong)

/- THE SECOND FORM. 'bulk': how many values and letters a reading holds, each counted each time it is reached (what is shared counts as often as it is met; a slice's spare places count too). A statement '..UptoSaid' is the law's where the arguments, and the package variables that the reading takes, are together of bulk at most 1048576: NARROWER than '..Said'. Prove '..Said' where nothing that the law and all that it calls make is longer than what came in: it says more and counts as full. Else prove '..UptoSaid'. A law counts once. -/
mutual
def uptoBulk {H : Type} : DataW H → Nat
  | .lit (.string bytes) => bytes.length + 1
  | .lit _ => 1
  | .nil => 1
  | .ptr d => uptoBulk d + 1
  | .slice elems spare => uptoBulkAll elems + uptoBulkAll spare + 1
  | .agg parts => uptoBulkAll parts + 1
  | .iface _ d => uptoBulk d + 1
  | .map entries => uptoBulkEntries entries + 1
  | .held _ => 1
def uptoBulkAll {H : Type} : List (DataW H) → Nat
  | [] => 0
  | d :: r => uptoBulk d + uptoBulkAll r
def uptoBulkEntries {H : Type} : List (Lit × DataW H) → Nat
  | [] => 0
  | x :: r => uptoBulkEntry x + uptoBulkEntries r
def uptoBulkEntry {H : Type} : Lit × DataW H → Nat
  | (.string bytes, d) => bytes.length + uptoBulk d + 1
  | (_, d) => uptoBulk d + 1
 end
def uptoSmall : (H : Type) → List (DataW H) → Bool := fun _ ds => decide (uptoBulkAll ds ≤ 1048576)
def OpenSpec.upto (s : _root_.Go.ChangeSpec) : _root_.Go.OpenSpec := { _root_.Go.OpenSpec.ofChange s with cond := some uptoSmall }

/-- 'laws.FnHitCurve', WHERE WHAT IT READS IS OF BULK AT MOST 1048576: true; the input reads as it did. -/
def fnHitCurveUptoRow : OpenClaim := { program := "ytlobdkcjlpifjab", sum := "77941c579180bd21927bf9db1817237d99ce205f900747881142884e6d4937b7", func := "loop.example/cacheengine/laws.FnHitCurve", spec := "fnHitCurve", unfollowed := true, recurses := true, apart := false, narrowed := true }
def FnHitCurveUptoSaid : Prop := fnHitCurveUptoRow.holds Try.pinned (OpenSpec.upto fnHitCurveSpec)

/-- 'laws.FnHitCurveUp', WHERE WHAT IT READS IS OF BULK AT MOST 1048576: true; the input reads as it did. -/
def fnHitCurveUpUptoRow : OpenClaim := { program := "ytlobdkcjlpifjab", sum := "77941c579180bd21927bf9db1817237d99ce205f900747881142884e6d4937b7", func := "loop.example/cacheengine/laws.FnHitCurveUp", spec := "fnHitCurveUp", apart := false, narrowed := true }
def FnHitCurveUpUptoSaid : Prop := fnHitCurveUpUptoRow.holds Try.pinned (OpenSpec.upto fnHitCurveUpSpec)

/-- 'laws.FnRoomFor', WHERE WHAT IT READS IS OF BULK AT MOST 1048576: true; the input reads as it did. -/
def fnRoomForUptoRow : OpenClaim := { program := "ytlobdkcjlpifjab", sum := "77941c579180bd21927bf9db1817237d99ce205f900747881142884e6d4937b7", func := "loop.example/cacheengine/laws.FnRoomFor", spec := "fnRoomFor", unfollowed := true, recurses := true, apart := false, narrowed := true }
def FnRoomForUptoSaid : Prop := fnRoomForUptoRow.holds Try.pinned (OpenSpec.upto fnRoomForSpec)

/-- 'laws.FnRoomForNone', WHERE WHAT IT READS IS OF BULK AT MOST 1048576: true; the input reads as it did. -/
def fnRoomForNoneUptoRow : OpenClaim := { program := "ytlobdkcjlpifjab", sum := "77941c579180bd21927bf9db1817237d99ce205f900747881142884e6d4937b7", func := "loop.example/cacheengine/laws.FnRoomForNone", spec := "fnRoomForNone", unfollowed := true, recurses := true, apart := false, narrowed := true }
def FnRoomForNoneUptoSaid : Prop := fnRoomForNoneUptoRow.holds Try.pinned (OpenSpec.upto fnRoomForNoneSpec)

/-- 'laws.FnWorkingSet', WHERE WHAT IT READS IS OF BULK AT MOST 1048576: true; the input reads as it did. -/
def fnWorkingSetUptoRow : OpenClaim := { program := "ytlobdkcjlpifjab", sum := "77941c579180bd21927bf9db1817237d99ce205f900747881142884e6d4937b7", func := "loop.example/cacheengine/laws.FnWorkingSet", spec := "fnWorkingSet", apart := false, narrowed := true }
def FnWorkingSetUptoSaid : Prop := fnWorkingSetUptoRow.holds Try.pinned (OpenSpec.upto fnWorkingSetSpec)

/-- 'laws.FnWorkingSetMore', WHERE WHAT IT READS IS OF BULK AT MOST 1048576: true; the input reads as it did. -/
def fnWorkingSetMoreUptoRow : OpenClaim := { program := "ytlobdkcjlpifjab", sum := "77941c579180bd21927bf9db1817237d99ce205f900747881142884e6d4937b7", func := "loop.example/cacheengine/laws.FnWorkingSetMore", spec := "fnWorkingSetMore", apart := false, narrowed := true }
def FnWorkingSetMoreUptoSaid : Prop := fnWorkingSetMoreUptoRow.holds Try.pinned (OpenSpec.upto fnWorkingSetMoreSpec)

/-- 'laws.FnRunRecentTwice', WHERE WHAT IT READS IS OF BULK AT MOST 1048576: true; the input reads as it did. -/
def fnRunRecentTwiceUptoRow : OpenClaim := { program := "ytlobdkcjlpifjab", sum := "77941c579180bd21927bf9db1817237d99ce205f900747881142884e6d4937b7", func := "loop.example/cacheengine/laws.FnRunRecentTwice", spec := "fnRunRecentTwice", unfollowed := true, recurses := true, apart := false, narrowed := true }
def FnRunRecentTwiceUptoSaid : Prop := fnRunRecentTwiceUptoRow.holds Try.pinned (OpenSpec.upto fnRunRecentTwiceSpec)

/-- 'laws.FnRunFirstKeys', WHERE WHAT IT READS IS OF BULK AT MOST 1048576: true; the input reads as it did. -/
def fnRunFirstKeysUptoRow : OpenClaim := { program := "ytlobdkcjlpifjab", sum := "77941c579180bd21927bf9db1817237d99ce205f900747881142884e6d4937b7", func := "loop.example/cacheengine/laws.FnRunFirstKeys", spec := "fnRunFirstKeys", unfollowed := true, recurses := true, apart := false, narrowed := true }
def FnRunFirstKeysUptoSaid : Prop := fnRunFirstKeysUptoRow.holds Try.pinned (OpenSpec.upto fnRunFirstKeysSpec)

/-- 'laws.FnRunClockBound', WHERE WHAT IT READS IS OF BULK AT MOST 1048576: true; the input reads as it did. -/
def fnRunClockBoundUptoRow : OpenClaim := { program := "ytlobdkcjlpifjab", sum := "77941c579180bd21927bf9db1817237d99ce205f900747881142884e6d4937b7", func := "loop.example/cacheengine/laws.FnRunClockBound", spec := "fnRunClockBound", unfollowed := true, recurses := true, apart := false, narrowed := true }
def FnRunClockBoundUptoSaid : Prop := fnRunClockBoundUptoRow.holds Try.pinned (OpenSpec.upto fnRunClockBoundSpec)

/-- 'laws.FnRunSegmentsSmall', WHERE WHAT IT READS IS OF BULK AT MOST 1048576: true; the input reads as it did. -/
def fnRunSegmentsSmallUptoRow : OpenClaim := { program := "ytlobdkcjlpifjab", sum := "77941c579180bd21927bf9db1817237d99ce205f900747881142884e6d4937b7", func := "loop.example/cacheengine/laws.FnRunSegmentsSmall", spec := "fnRunSegmentsSmall", unfollowed := true, recurses := true, apart := false, narrowed := true }
def FnRunSegmentsSmallUptoSaid : Prop := fnRunSegmentsSmallUptoRow.holds Try.pinned (OpenSpec.upto fnRunSegmentsSmallSpec)

/-- 'laws.FnRunSegmentsBest', WHERE WHAT IT READS IS OF BULK AT MOST 1048576: true; the input reads as it did. -/
def fnRunSegmentsBestUptoRow : OpenClaim := { program := "ytlobdkcjlpifjab", sum := "77941c579180bd21927bf9db1817237d99ce205f900747881142884e6d4937b7", func := "loop.example/cacheengine/laws.FnRunSegmentsBest", spec := "fnRunSegmentsBest", unfollowed := true, recurses := true, apart := false, narrowed := true }
def FnRunSegmentsBestUptoSaid : Prop := fnRunSegmentsBestUptoRow.holds Try.pinned (OpenSpec.upto fnRunSegmentsBestSpec)

/-- 'laws.FnRunOftenBound', WHERE WHAT IT READS IS OF BULK AT MOST 1048576: true; the input reads as it did. -/
def fnRunOftenBoundUptoRow : OpenClaim := { program := "ytlobdkcjlpifjab", sum := "77941c579180bd21927bf9db1817237d99ce205f900747881142884e6d4937b7", func := "loop.example/cacheengine/laws.FnRunOftenBound", spec := "fnRunOftenBound", unfollowed := true, recurses := true, apart := false, narrowed := true }
def FnRunOftenBoundUptoSaid : Prop := fnRunOftenBoundUptoRow.holds Try.pinned (OpenSpec.upto fnRunOftenBoundSpec)

end Rows
end Go.Proofs.Ytlobdkcjlpifjab
