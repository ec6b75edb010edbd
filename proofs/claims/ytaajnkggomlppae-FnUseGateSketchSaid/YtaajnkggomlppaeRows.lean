/-
  No cell of these rows narrows 'for every input' (looked for: loops, veiled, ifaces, maps, wideKeys, modest, calm, conditions, laid).
  DERIVED. THE GIVEN ROWS OF THIS SEAT. 10 by the template 'for every input the law returns true; each argument reads behind the call as it read before'; 0 by the template 'total and deterministic' (their statements: YtaajnkggomlppaeTotals.lean).
  GIVEN WITH THE SEED: the statements are not yours to turn. If you find one false, say at which input.
  Laid BY PROGRAM, IN A SANDBOX (cutbox-rows.mjs): the forced cells as the released guide's own fill.sh prints them over the translation 98f0ae619f1d4fb0… (all of the seat's roots in one cut). By AI agents, Wed Nov 11 2026. No macro, syntax, notation, axiom, sorry.
-/
import Derived.Test.YtaajnkggomlppaeChecked
import GoSem.Claim
import GoSem.ClaimJoined
import GoSem.ClaimMapViews
import Derived.JoinedTies
import Derived.KernelRfl
namespace Go.Proofs.Ytaajnkggomlppae
/- THE CELL 'sum', in the pinned program and in every row, IS THE sha256 OF THE DUMP (.gsa) THAT YtaajnkggomlppaeProg.lean LOADS. Nothing in Lean hashes anything: it is a label: what it is worth is what the hold of that sum in a sandbox is worth. -/
noncomputable def Try.pinned : Pinned := { name := "ytaajnkggomlppae", sum := "98f0ae619f1d4fb0a17e2b1c94241c50b9dcc5125a66da98ed121d163435e69e", checked := Try.checked }
namespace Rows
def none {H : Type} : Left H := { results := [], args := [] }

/-- 'laws.FnBestHits': WHATEVER THE INPUT: true; the input reads as it did. -/
def fnBestHitsSpec : ChangeSpec := { name := "fnBestHits", fn := fun _ => fun
  | [d] => { results := [.lit (.bool true)], args := [d] }
  | _ => none }
def fnBestHitsRow : OpenClaim := { program := "ytaajnkggomlppae", sum := "98f0ae619f1d4fb0a17e2b1c94241c50b9dcc5125a66da98ed121d163435e69e", func := "loop.example/cacheengine/laws.FnBestHits", spec := "fnBestHits", unfollowed := true, recurses := true, apart := false }
def FnBestHitsSaid : Prop := fnBestHitsRow.holds Try.pinned (OpenSpec.ofChange fnBestHitsSpec)

/-- ITS FALSE NEIGHBOUR: 'it returns false'. Refute it at one input. -/
def fnBestHitsWrong : ChangeSpec := { name := "fnBestHits", fn := fun _ => fun
  | [d] => { results := [.lit (.bool false)], args := [d] }
  | _ => none }
def FnBestHitsWrongFalsely : Prop := fnBestHitsRow.holds Try.pinned (OpenSpec.ofChange fnBestHitsWrong)

/-- 'laws.FnUseGate': WHATEVER THE INPUT: true; the input reads as it did. -/
def fnUseGateSpec : ChangeSpec := { name := "fnUseGate", fn := fun _ => fun
  | [d] => { results := [.lit (.bool true)], args := [d] }
  | _ => none }
def fnUseGateRow : OpenClaim := { program := "ytaajnkggomlppae", sum := "98f0ae619f1d4fb0a17e2b1c94241c50b9dcc5125a66da98ed121d163435e69e", func := "loop.example/cacheengine/laws.FnUseGate", spec := "fnUseGate", apart := false }
def FnUseGateSaid : Prop := fnUseGateRow.holds Try.pinned (OpenSpec.ofChange fnUseGateSpec)

/-- ITS FALSE NEIGHBOUR: 'it returns false'. Refute it at one input. -/
def fnUseGateWrong : ChangeSpec := { name := "fnUseGate", fn := fun _ => fun
  | [d] => { results := [.lit (.bool false)], args := [d] }
  | _ => none }
def FnUseGateWrongFalsely : Prop := fnUseGateRow.holds Try.pinned (OpenSpec.ofChange fnUseGateWrong)

/-- 'laws.FnUseGateSketch': WHATEVER THE INPUT: true; the input reads as it did. -/
def fnUseGateSketchSpec : ChangeSpec := { name := "fnUseGateSketch", fn := fun _ => fun
  | [d] => { results := [.lit (.bool true)], args := [d] }
  | _ => none }
def fnUseGateSketchRow : OpenClaim := { program := "ytaajnkggomlppae", sum := "98f0ae619f1d4fb0a17e2b1c94241c50b9dcc5125a66da98ed121d163435e69e", func := "loop.example/cacheengine/laws.FnUseGateSketch", spec := "fnUseGateSketch", apart := false }
def FnUseGateSketchSaid : Prop := fnUseGateSketchRow.holds Try.pinned (OpenSpec.ofChange fnUseGateSketchSpec)

/-- ITS FALSE NEIGHBOUR: 'it returns false'. Refute it at one input. -/
def fnUseGateSketchWrong : ChangeSpec := { name := "fnUseGateSketch", fn := fun _ => fun
  | [d] => { results := [.lit (.bool false)], args := [d] }
  | _ => none }
def FnUseGateSketchWrongFalsely : Prop := fnUseGateSketchRow.holds Try.pinned (OpenSpec.ofChange fnUseGateSketchWrong)

/-- 'laws.FnUseGateAdmit': WHATEVER THE INPUT: true; the input reads as it did. -/
def fnUseGateAdmitSpec : ChangeSpec := { name := "fnUseGateAdmit", fn := fun _ => fun
  | [d] => { results := [.lit (.bool true)], args := [d] }
  | _ => none }
def fnUseGateAdmitRow : OpenClaim := { program := "ytaajnkggomlppae", sum := "98f0ae619f1d4fb0a17e2b1c94241c50b9dcc5125a66da98ed121d163435e69e", func := "loop.example/cacheengine/laws.FnUseGateAdmit", spec := "fnUseGateAdmit", apart := false }
def FnUseGateAdmitSaid : Prop := fnUseGateAdmitRow.holds Try.pinned (OpenSpec.ofChange fnUseGateAdmitSpec)

/-- ITS FALSE NEIGHBOUR: 'it returns false'. Refute it at one input. -/
def fnUseGateAdmitWrong : ChangeSpec := { name := "fnUseGateAdmit", fn := fun _ => fun
  | [d] => { results := [.lit (.bool false)], args := [d] }
  | _ => none }
def FnUseGateAdmitWrongFalsely : Prop := fnUseGateAdmitRow.holds Try.pinned (OpenSpec.ofChange fnUseGateAdmitWrong)

/-- 'laws.FnRunGate': WHATEVER THE INPUT: true; the input reads as it did. -/
def fnRunGateSpec : ChangeSpec := { name := "fnRunGate", fn := fun _ => fun
  | [d] => { results := [.lit (.bool true)], args := [d] }
  | _ => none }
def fnRunGateRow : OpenClaim := { program := "ytaajnkggomlppae", sum := "98f0ae619f1d4fb0a17e2b1c94241c50b9dcc5125a66da98ed121d163435e69e", func := "loop.example/cacheengine/laws.FnRunGate", spec := "fnRunGate", unfollowed := true, recurses := true, apart := false }
def FnRunGateSaid : Prop := fnRunGateRow.holds Try.pinned (OpenSpec.ofChange fnRunGateSpec)

/-- ITS FALSE NEIGHBOUR: 'it returns false'. Refute it at one input. -/
def fnRunGateWrong : ChangeSpec := { name := "fnRunGate", fn := fun _ => fun
  | [d] => { results := [.lit (.bool false)], args := [d] }
  | _ => none }
def FnRunGateWrongFalsely : Prop := fnRunGateRow.holds Try.pinned (OpenSpec.ofChange fnRunGateWrong)

/-- 'laws.FnRunGateSmall': WHATEVER THE INPUT: true; the input reads as it did. -/
def fnRunGateSmallSpec : ChangeSpec := { name := "fnRunGateSmall", fn := fun _ => fun
  | [d] => { results := [.lit (.bool true)], args := [d] }
  | _ => none }
def fnRunGateSmallRow : OpenClaim := { program := "ytaajnkggomlppae", sum := "98f0ae619f1d4fb0a17e2b1c94241c50b9dcc5125a66da98ed121d163435e69e", func := "loop.example/cacheengine/laws.FnRunGateSmall", spec := "fnRunGateSmall", unfollowed := true, recurses := true, apart := false }
def FnRunGateSmallSaid : Prop := fnRunGateSmallRow.holds Try.pinned (OpenSpec.ofChange fnRunGateSmallSpec)

/-- ITS FALSE NEIGHBOUR: 'it returns false'. Refute it at one input. -/
def fnRunGateSmallWrong : ChangeSpec := { name := "fnRunGateSmall", fn := fun _ => fun
  | [d] => { results := [.lit (.bool false)], args := [d] }
  | _ => none }
def FnRunGateSmallWrongFalsely : Prop := fnRunGateSmallRow.holds Try.pinned (OpenSpec.ofChange fnRunGateSmallWrong)

/-- 'laws.FnBestHitsSegments': WHATEVER THE INPUT: true; the input reads as it did. -/
def fnBestHitsSegmentsSpec : ChangeSpec := { name := "fnBestHitsSegments", fn := fun _ => fun
  | [d] => { results := [.lit (.bool true)], args := [d] }
  | _ => none }
def fnBestHitsSegmentsRow : OpenClaim := { program := "ytaajnkggomlppae", sum := "98f0ae619f1d4fb0a17e2b1c94241c50b9dcc5125a66da98ed121d163435e69e", func := "loop.example/cacheengine/laws.FnBestHitsSegments", spec := "fnBestHitsSegments", unfollowed := true, recurses := true, apart := false }
def FnBestHitsSegmentsSaid : Prop := fnBestHitsSegmentsRow.holds Try.pinned (OpenSpec.ofChange fnBestHitsSegmentsSpec)

/-- ITS FALSE NEIGHBOUR: 'it returns false'. Refute it at one input. -/
def fnBestHitsSegmentsWrong : ChangeSpec := { name := "fnBestHitsSegments", fn := fun _ => fun
  | [d] => { results := [.lit (.bool false)], args := [d] }
  | _ => none }
def FnBestHitsSegmentsWrongFalsely : Prop := fnBestHitsSegmentsRow.holds Try.pinned (OpenSpec.ofChange fnBestHitsSegmentsWrong)

/-- 'laws.FnUseGateHit': WHATEVER THE INPUT: true; the input reads as it did. -/
def fnUseGateHitSpec : ChangeSpec := { name := "fnUseGateHit", fn := fun _ => fun
  | [d] => { results := [.lit (.bool true)], args := [d] }
  | _ => none }
def fnUseGateHitRow : OpenClaim := { program := "ytaajnkggomlppae", sum := "98f0ae619f1d4fb0a17e2b1c94241c50b9dcc5125a66da98ed121d163435e69e", func := "loop.example/cacheengine/laws.FnUseGateHit", spec := "fnUseGateHit", apart := false }
def FnUseGateHitSaid : Prop := fnUseGateHitRow.holds Try.pinned (OpenSpec.ofChange fnUseGateHitSpec)

/-- ITS FALSE NEIGHBOUR: 'it returns false'. Refute it at one input. -/
def fnUseGateHitWrong : ChangeSpec := { name := "fnUseGateHit", fn := fun _ => fun
  | [d] => { results := [.lit (.bool false)], args := [d] }
  | _ => none }
def FnUseGateHitWrongFalsely : Prop := fnUseGateHitRow.holds Try.pinned (OpenSpec.ofChange fnUseGateHitWrong)

/-- 'laws.FnRunGateBound': WHATEVER THE INPUT: true; the input reads as it did. -/
def fnRunGateBoundSpec : ChangeSpec := { name := "fnRunGateBound", fn := fun _ => fun
  | [d] => { results := [.lit (.bool true)], args := [d] }
  | _ => none }
def fnRunGateBoundRow : OpenClaim := { program := "ytaajnkggomlppae", sum := "98f0ae619f1d4fb0a17e2b1c94241c50b9dcc5125a66da98ed121d163435e69e", func := "loop.example/cacheengine/laws.FnRunGateBound", spec := "fnRunGateBound", unfollowed := true, recurses := true, apart := false }
def FnRunGateBoundSaid : Prop := fnRunGateBoundRow.holds Try.pinned (OpenSpec.ofChange fnRunGateBoundSpec)

/-- ITS FALSE NEIGHBOUR: 'it returns false'. Refute it at one input. -/
def fnRunGateBoundWrong : ChangeSpec := { name := "fnRunGateBound", fn := fun _ => fun
  | [d] => { results := [.lit (.bool false)], args := [d] }
  | _ => none }
def FnRunGateBoundWrongFalsely : Prop := fnRunGateBoundRow.holds Try.pinned (OpenSpec.ofChange fnRunGateBoundWrong)

/-- 'laws.FnExactUseGate': WHATEVER THE INPUT: true; the input reads as it did. -/
def fnExactUseGateSpec : ChangeSpec := { name := "fnExactUseGate", fn := fun _ => fun
  | [d1, d2] => { results := [.lit (.bool true)], args := [d1, d2] }
  | _ => none }
def fnExactUseGateRow : OpenClaim := { program := "ytaajnkggomlppae", sum := "98f0ae619f1d4fb0a17e2b1c94241c50b9dcc5125a66da98ed121d163435e69e", func := "loop.example/cacheengine/laws.FnExactUseGate", spec := "fnExactUseGate", apart := false }
def FnExactUseGateSaid : Prop := fnExactUseGateRow.holds Try.pinned (OpenSpec.ofChange fnExactUseGateSpec)

/-- ITS FALSE NEIGHBOUR: 'it returns false'. Refute it at one input. -/
def fnExactUseGateWrong : ChangeSpec := { name := "fnExactUseGate", fn := fun _ => fun
  | [d1, d2] => { results := [.lit (.bool false)], args := [d1, d2] }
  | _ => none }
def FnExactUseGateWrongFalsely : Prop := fnExactUseGateRow.holds Try.pinned (OpenSpec.ofChange fnExactUseGateWrong)

/- THE SECOND FORM. 'bulk': how many values and letters a reading holds, each counted each time it is reached (what is shared counts as often as it is met; a slice's spare places count too). A statement '..UptoSaid' is the law's where the arguments, and the package variables that the reading takes, are together of bulk at most 1048576: NARROWER than '..Said'. Prove '..Said' where nothing that the law and all that it calls make is longer than what came in: it says more and counts as full. Else prove '..UptoSaid'. A law counts once. -/
mutual
def uptoBulk {H : Type} : DataW H → Nat
  | .lit (.string bytes) => bytes.length + 1
  | .lit _ => 1
  | .nil => 1
  | .ptr d => uptoBulk d + 1
  | .slice elems spare => uptoBulkAll elems + uptoBulkAll spare + 1
  | .agg parts => uptoBulkAll parts + 1
  | .iface _ d => uptoBulk d + 1
  | .map entries => uptoBulkEntries entries + 1
  | .held _ => 1
def uptoBulkAll {H : Type} : List (DataW H) → Nat
  | [] => 0
  | d :: r => uptoBulk d + uptoBulkAll r
def uptoBulkEntries {H : Type} : List (Lit × DataW H) → Nat
  | [] => 0
  | x :: r => uptoBulkEntry x + uptoBulkEntries r
def uptoBulkEntry {H : Type} : Lit × DataW H → Nat
  | (.string bytes, d) => bytes.length + uptoBulk d + 1
  | (_, d) => uptoBulk d + 1
 end
def uptoSmall : (H : Type) → List (DataW H) → Bool := fun _ ds => decide (uptoBulkAll ds ≤ 1048576)
def OpenSpec.upto (s : _root_.Go.ChangeSpec) : _root_.Go.OpenSpec := { _root_.Go.OpenSpec.ofChange s with cond := some uptoSmall }

/-- 'laws.FnBestHits', WHERE WHAT IT READS IS OF BULK AT MOST 1048576: true; the input reads as it did. -/
def fnBestHitsUptoRow : OpenClaim := { program := "ytaajnkggomlppae", sum := "98f0ae619f1d4fb0a17e2b1c94241c50b9dcc5125a66da98ed121d163435e69e", func := "loop.example/cacheengine/laws.FnBestHits", spec := "fnBestHits", unfollowed := true, recurses := true, apart := false, narrowed := true }
def FnBestHitsUptoSaid : Prop := fnBestHitsUptoRow.holds Try.pinned (OpenSpec.upto fnBestHitsSpec)

/-- 'laws.FnUseGate', WHERE WHAT IT READS IS OF BULK AT MOST 1048576: true; the input reads as it did. -/
def fnUseGateUptoRow : OpenClaim := { program := "ytaajnkggomlppae", sum := "98f0ae619f1d4fb0a17e2b1c94241c50b9dcc5125a66da98ed121d163435e69e", func := "loop.example/cacheengine/laws.FnUseGate", spec := "fnUseGate", apart := false, narrowed := true }
def FnUseGateUptoSaid : Prop := fnUseGateUptoRow.holds Try.pinned (OpenSpec.upto fnUseGateSpec)

/-- 'laws.FnUseGateSketch', WHERE WHAT IT READS IS OF BULK AT MOST 1048576: true; the input reads as it did. -/
def fnUseGateSketchUptoRow : OpenClaim := { program := "ytaajnkggomlppae", sum := "98f0ae619f1d4fb0a17e2b1c94241c50b9dcc5125a66da98ed121d163435e69e", func := "loop.example/cacheengine/laws.FnUseGateSketch", spec := "fnUseGateSketch", apart := false, narrowed := true }
def FnUseGateSketchUptoSaid : Prop := fnUseGateSketchUptoRow.holds Try.pinned (OpenSpec.upto fnUseGateSketchSpec)

/-- 'laws.FnUseGateAdmit', WHERE WHAT IT READS IS OF BULK AT MOST 1048576: true; the input reads as it did. -/
def fnUseGateAdmitUptoRow : OpenClaim := { program := "ytaajnkggomlppae", sum := "98f0ae619f1d4fb0a17e2b1c94241c50b9dcc5125a66da98ed121d163435e69e", func := "loop.example/cacheengine/laws.FnUseGateAdmit", spec := "fnUseGateAdmit", apart := false, narrowed := true }
def FnUseGateAdmitUptoSaid : Prop := fnUseGateAdmitUptoRow.holds Try.pinned (OpenSpec.upto fnUseGateAdmitSpec)

/-- 'laws.FnRunGate', WHERE WHAT IT READS IS OF BULK AT MOST 1048576: true; the input reads as it did. -/
def fnRunGateUptoRow : OpenClaim := { program := "ytaajnkggomlppae", sum := "98f0ae619f1d4fb0a17e2b1c94241c50b9dcc5125a66da98ed121d163435e69e", func := "loop.example/cacheengine/laws.FnRunGate", spec := "fnRunGate", unfollowed := true, recurses := true, apart := false, narrowed := true }
def FnRunGateUptoSaid : Prop := fnRunGateUptoRow.holds Try.pinned (OpenSpec.upto fnRunGateSpec)

/-- 'laws.FnRunGateSmall', WHERE WHAT IT READS IS OF BULK AT MOST 1048576: true; the input reads as it did. -/
def fnRunGateSmallUptoRow : OpenClaim := { program := "ytaajnkggomlppae", sum := "98f0ae619f1d4fb0a17e2b1c94241c50b9dcc5125a66da98ed121d163435e69e", func := "loop.example/cacheengine/laws.FnRunGateSmall", spec := "fnRunGateSmall", unfollowed := true, recurses := true, apart := false, narrowed := true }
def FnRunGateSmallUptoSaid : Prop := fnRunGateSmallUptoRow.holds Try.pinned (OpenSpec.upto fnRunGateSmallSpec)

/-- 'laws.FnBestHitsSegments', WHERE WHAT IT READS IS OF BULK AT MOST 1048576: true; the input reads as it did. -/
def fnBestHitsSegmentsUptoRow : OpenClaim := { program := "ytaajnkggomlppae", sum := "98f0ae619f1d4fb0a17e2b1c94241c50b9dcc5125a66da98ed121d163435e69e", func := "loop.example/cacheengine/laws.FnBestHitsSegments", spec := "fnBestHitsSegments", unfollowed := true, recurses := true, apart := false, narrowed := true }
def FnBestHitsSegmentsUptoSaid : Prop := fnBestHitsSegmentsUptoRow.holds Try.pinned (OpenSpec.upto fnBestHitsSegmentsSpec)

/-- 'laws.FnUseGateHit', WHERE WHAT IT READS IS OF BULK AT MOST 1048576: true; the input reads as it did. -/
def fnUseGateHitUptoRow : OpenClaim := { program := "ytaajnkggomlppae", sum := "98f0ae619f1d4fb0a17e2b1c94241c50b9dcc5125a66da98ed121d163435e69e", func := "loop.example/cacheengine/laws.FnUseGateHit", spec := "fnUseGateHit", apart := false, narrowed := true }
def FnUseGateHitUptoSaid : Prop := fnUseGateHitUptoRow.holds Try.pinned (OpenSpec.upto fnUseGateHitSpec)

/-- 'laws.FnRunGateBound', WHERE WHAT IT READS IS OF BULK AT MOST 1048576: true; the input reads as it did. -/
def fnRunGateBoundUptoRow : OpenClaim := { program := "ytaajnkggomlppae", sum := "98f0ae619f1d4fb0a17e2b1c94241c50b9dcc5125a66da98ed121d163435e69e", func := "loop.example/cacheengine/laws.FnRunGateBound", spec := "fnRunGateBound", unfollowed := true, recurses := true, apart := false, narrowed := true }
def FnRunGateBoundUptoSaid : Prop := fnRunGateBoundUptoRow.holds Try.pinned (OpenSpec.upto fnRunGateBoundSpec)

/-- 'laws.FnExactUseGate', WHERE WHAT IT READS IS OF BULK AT MOST 1048576: true; the input reads as it did. -/
def fnExactUseGateUptoRow : OpenClaim := { program := "ytaajnkggomlppae", sum := "98f0ae619f1d4fb0a17e2b1c94241c50b9dcc5125a66da98ed121d163435e69e", func := "loop.example/cacheengine/laws.FnExactUseGate", spec := "fnExactUseGate", apart := false, narrowed := true }
def FnExactUseGateUptoSaid : Prop := fnExactUseGateUptoRow.holds Try.pinned (OpenSpec.upto fnExactUseGateSpec)

end Rows
end Go.Proofs.Ytaajnkggomlppae
