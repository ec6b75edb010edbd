/-
  No cell of these rows narrows 'for every input' (looked for: loops, veiled, ifaces, maps, wideKeys, modest, calm, conditions, laid).
  DERIVED. THE GIVEN ROWS OF THIS SEAT. 12 by the template 'for every input the law returns true; each argument reads behind the call as it read before'; 0 by the template 'total and deterministic' (their statements: YtnkmhjdenddpbaaTotals.lean).
  GIVEN WITH THE SEED: the statements are not yours to turn. If you find one false, say at which input.
  Laid BY PROGRAM, IN A SANDBOX (cutbox-rows.mjs): the forced cells as the released guide's own fill.sh prints them over the translation e66ae54877bb918a… (all of the seat's roots in one cut). By AI agents, Wed Nov 11 2026. No macro, syntax, notation, axiom, sorry.
-/
import Derived.Test.YtnkmhjdenddpbaaChecked
import GoSem.Claim
import GoSem.ClaimJoined
import GoSem.ClaimMapViews
import Derived.JoinedTies
import Derived.KernelRfl
namespace Go.Proofs.Ytnkmhjdenddpbaa
/- THE CELL 'sum', in the pinned program and in every row, IS THE sha256 OF THE DUMP (.gsa) THAT YtnkmhjdenddpbaaProg.lean LOADS. Nothing in Lean hashes anything: it is a label: what it is worth is what the hold of that sum in a sandbox is worth. -/
noncomputable def Try.pinned : Pinned := { name := "ytnkmhjdenddpbaa", sum := "e66ae54877bb918a6905552712d6fecba3e391925931d94b86c0ab037809ccc0", checked := Try.checked }
namespace Rows
def none {H : Type} : Left H := { results := [], args := [] }

/-- 'laws.FnValidGate': WHATEVER THE INPUT: true; the input reads as it did. -/
def fnValidGateSpec : ChangeSpec := { name := "fnValidGate", fn := fun _ => fun
  | [d] => { results := [.lit (.bool true)], args := [d] }
  | _ => none }
def fnValidGateRow : OpenClaim := { program := "ytnkmhjdenddpbaa", sum := "e66ae54877bb918a6905552712d6fecba3e391925931d94b86c0ab037809ccc0", func := "loop.example/cacheengine/laws.FnValidGate", spec := "fnValidGate", apart := false }
def FnValidGateSaid : Prop := fnValidGateRow.holds Try.pinned (OpenSpec.ofChange fnValidGateSpec)

/-- ITS FALSE NEIGHBOUR: 'it returns false'. Refute it at one input. -/
def fnValidGateWrong : ChangeSpec := { name := "fnValidGate", fn := fun _ => fun
  | [d] => { results := [.lit (.bool false)], args := [d] }
  | _ => none }
def FnValidGateWrongFalsely : Prop := fnValidGateRow.holds Try.pinned (OpenSpec.ofChange fnValidGateWrong)

/-- 'laws.FnUseGate': WHATEVER THE INPUT: true; the input reads as it did. -/
def fnUseGateSpec : ChangeSpec := { name := "fnUseGate", fn := fun _ => fun
  | [d] => { results := [.lit (.bool true)], args := [d] }
  | _ => none }
def fnUseGateRow : OpenClaim := { program := "ytnkmhjdenddpbaa", sum := "e66ae54877bb918a6905552712d6fecba3e391925931d94b86c0ab037809ccc0", func := "loop.example/cacheengine/laws.FnUseGate", spec := "fnUseGate", apart := false }
def FnUseGateSaid : Prop := fnUseGateRow.holds Try.pinned (OpenSpec.ofChange fnUseGateSpec)

/-- ITS FALSE NEIGHBOUR: 'it returns false'. Refute it at one input. -/
def fnUseGateWrong : ChangeSpec := { name := "fnUseGate", fn := fun _ => fun
  | [d] => { results := [.lit (.bool false)], args := [d] }
  | _ => none }
def FnUseGateWrongFalsely : Prop := fnUseGateRow.holds Try.pinned (OpenSpec.ofChange fnUseGateWrong)

/-- 'laws.FnUseGateSketch': WHATEVER THE INPUT: true; the input reads as it did. -/
def fnUseGateSketchSpec : ChangeSpec := { name := "fnUseGateSketch", fn := fun _ => fun
  | [d] => { results := [.lit (.bool true)], args := [d] }
  | _ => none }
def fnUseGateSketchRow : OpenClaim := { program := "ytnkmhjdenddpbaa", sum := "e66ae54877bb918a6905552712d6fecba3e391925931d94b86c0ab037809ccc0", func := "loop.example/cacheengine/laws.FnUseGateSketch", spec := "fnUseGateSketch", apart := false }
def FnUseGateSketchSaid : Prop := fnUseGateSketchRow.holds Try.pinned (OpenSpec.ofChange fnUseGateSketchSpec)

/-- ITS FALSE NEIGHBOUR: 'it returns false'. Refute it at one input. -/
def fnUseGateSketchWrong : ChangeSpec := { name := "fnUseGateSketch", fn := fun _ => fun
  | [d] => { results := [.lit (.bool false)], args := [d] }
  | _ => none }
def FnUseGateSketchWrongFalsely : Prop := fnUseGateSketchRow.holds Try.pinned (OpenSpec.ofChange fnUseGateSketchWrong)

/-- 'laws.FnUseGateAdmit': WHATEVER THE INPUT: true; the input reads as it did. -/
def fnUseGateAdmitSpec : ChangeSpec := { name := "fnUseGateAdmit", fn := fun _ => fun
  | [d] => { results := [.lit (.bool true)], args := [d] }
  | _ => none }
def fnUseGateAdmitRow : OpenClaim := { program := "ytnkmhjdenddpbaa", sum := "e66ae54877bb918a6905552712d6fecba3e391925931d94b86c0ab037809ccc0", func := "loop.example/cacheengine/laws.FnUseGateAdmit", spec := "fnUseGateAdmit", apart := false }
def FnUseGateAdmitSaid : Prop := fnUseGateAdmitRow.holds Try.pinned (OpenSpec.ofChange fnUseGateAdmitSpec)

/-- ITS FALSE NEIGHBOUR: 'it returns false'. Refute it at one input. -/
def fnUseGateAdmitWrong : ChangeSpec := { name := "fnUseGateAdmit", fn := fun _ => fun
  | [d] => { results := [.lit (.bool false)], args := [d] }
  | _ => none }
def FnUseGateAdmitWrongFalsely : Prop := fnUseGateAdmitRow.holds Try.pinned (OpenSpec.ofChange fnUseGateAdmitWrong)

/-- 'laws.FnRunGate': WHATEVER THE INPUT: true; the input reads as it did. -/
def fnRunGateSpec : ChangeSpec := { name := "fnRunGate", fn := fun _ => fun
  | [d] => { results := [.lit (.bool true)], args := [d] }
  | _ => none }
def fnRunGateRow : OpenClaim := { program := "ytnkmhjdenddpbaa", sum := "e66ae54877bb918a6905552712d6fecba3e391925931d94b86c0ab037809ccc0", func := "loop.example/cacheengine/laws.FnRunGate", spec := "fnRunGate", unfollowed := true, recurses := true, apart := false }
def FnRunGateSaid : Prop := fnRunGateRow.holds Try.pinned (OpenSpec.ofChange fnRunGateSpec)

/-- ITS FALSE NEIGHBOUR: 'it returns false'. Refute it at one input. -/
def fnRunGateWrong : ChangeSpec := { name := "fnRunGate", fn := fun _ => fun
  | [d] => { results := [.lit (.bool false)], args := [d] }
  | _ => none }
def FnRunGateWrongFalsely : Prop := fnRunGateRow.holds Try.pinned (OpenSpec.ofChange fnRunGateWrong)

/-- 'laws.FnRunGateSmall': WHATEVER THE INPUT: true; the input reads as it did. -/
def fnRunGateSmallSpec : ChangeSpec := { name := "fnRunGateSmall", fn := fun _ => fun
  | [d] => { results := [.lit (.bool true)], args := [d] }
  | _ => none }
def fnRunGateSmallRow : OpenClaim := { program := "ytnkmhjdenddpbaa", sum := "e66ae54877bb918a6905552712d6fecba3e391925931d94b86c0ab037809ccc0", func := "loop.example/cacheengine/laws.FnRunGateSmall", spec := "fnRunGateSmall", unfollowed := true, recurses := true, apart := false }
def FnRunGateSmallSaid : Prop := fnRunGateSmallRow.holds Try.pinned (OpenSpec.ofChange fnRunGateSmallSpec)

/-- ITS FALSE NEIGHBOUR: 'it returns false'. Refute it at one input. -/
def fnRunGateSmallWrong : ChangeSpec := { name := "fnRunGateSmall", fn := fun _ => fun
  | [d] => { results := [.lit (.bool false)], args := [d] }
  | _ => none }
def FnRunGateSmallWrongFalsely : Prop := fnRunGateSmallRow.holds Try.pinned (OpenSpec.ofChange fnRunGateSmallWrong)

/-- 'laws.FnPrefers': WHATEVER THE INPUT: true; the input reads as it did. -/
def fnPrefersSpec : ChangeSpec := { name := "fnPrefers", fn := fun _ => fun
  | [d] => { results := [.lit (.bool true)], args := [d] }
  | _ => none }
def fnPrefersRow : OpenClaim := { program := "ytnkmhjdenddpbaa", sum := "e66ae54877bb918a6905552712d6fecba3e391925931d94b86c0ab037809ccc0", func := "loop.example/cacheengine/laws.FnPrefers", spec := "fnPrefers", apart := false }
def FnPrefersSaid : Prop := fnPrefersRow.holds Try.pinned (OpenSpec.ofChange fnPrefersSpec)

/-- ITS FALSE NEIGHBOUR: 'it returns false'. Refute it at one input. -/
def fnPrefersWrong : ChangeSpec := { name := "fnPrefers", fn := fun _ => fun
  | [d] => { results := [.lit (.bool false)], args := [d] }
  | _ => none }
def FnPrefersWrongFalsely : Prop := fnPrefersRow.holds Try.pinned (OpenSpec.ofChange fnPrefersWrong)

/-- 'laws.FnValidTimed': WHATEVER THE INPUT: true; the input reads as it did. -/
def fnValidTimedSpec : ChangeSpec := { name := "fnValidTimed", fn := fun _ => fun
  | [d] => { results := [.lit (.bool true)], args := [d] }
  | _ => none }
def fnValidTimedRow : OpenClaim := { program := "ytnkmhjdenddpbaa", sum := "e66ae54877bb918a6905552712d6fecba3e391925931d94b86c0ab037809ccc0", func := "loop.example/cacheengine/laws.FnValidTimed", spec := "fnValidTimed", apart := false }
def FnValidTimedSaid : Prop := fnValidTimedRow.holds Try.pinned (OpenSpec.ofChange fnValidTimedSpec)

/-- ITS FALSE NEIGHBOUR: 'it returns false'. Refute it at one input. -/
def fnValidTimedWrong : ChangeSpec := { name := "fnValidTimed", fn := fun _ => fun
  | [d] => { results := [.lit (.bool false)], args := [d] }
  | _ => none }
def FnValidTimedWrongFalsely : Prop := fnValidTimedRow.holds Try.pinned (OpenSpec.ofChange fnValidTimedWrong)

/-- 'laws.FnPutTimed': WHATEVER THE INPUT: true; the input reads as it did. -/
def fnPutTimedSpec : ChangeSpec := { name := "fnPutTimed", fn := fun _ => fun
  | [d] => { results := [.lit (.bool true)], args := [d] }
  | _ => none }
def fnPutTimedRow : OpenClaim := { program := "ytnkmhjdenddpbaa", sum := "e66ae54877bb918a6905552712d6fecba3e391925931d94b86c0ab037809ccc0", func := "loop.example/cacheengine/laws.FnPutTimed", spec := "fnPutTimed", inPlace := ["slices.overlaps[loop.example/cacheengine/impl.Timed]"], unfollowed := true, recurses := true, apart := false }
def FnPutTimedSaid : Prop := fnPutTimedRow.holds Try.pinned (OpenSpec.ofChange fnPutTimedSpec)

/-- ITS FALSE NEIGHBOUR: 'it returns false'. Refute it at one input. -/
def fnPutTimedWrong : ChangeSpec := { name := "fnPutTimed", fn := fun _ => fun
  | [d] => { results := [.lit (.bool false)], args := [d] }
  | _ => none }
def FnPutTimedWrongFalsely : Prop := fnPutTimedRow.holds Try.pinned (OpenSpec.ofChange fnPutTimedWrong)

/-- 'laws.FnPutTimedOthers': WHATEVER THE INPUT: true; the input reads as it did. -/
def fnPutTimedOthersSpec : ChangeSpec := { name := "fnPutTimedOthers", fn := fun _ => fun
  | [d] => { results := [.lit (.bool true)], args := [d] }
  | _ => none }
def fnPutTimedOthersRow : OpenClaim := { program := "ytnkmhjdenddpbaa", sum := "e66ae54877bb918a6905552712d6fecba3e391925931d94b86c0ab037809ccc0", func := "loop.example/cacheengine/laws.FnPutTimedOthers", spec := "fnPutTimedOthers", inPlace := ["slices.overlaps[loop.example/cacheengine/impl.Timed]"], unfollowed := true, recurses := true, apart := false }
def FnPutTimedOthersSaid : Prop := fnPutTimedOthersRow.holds Try.pinned (OpenSpec.ofChange fnPutTimedOthersSpec)

/-- ITS FALSE NEIGHBOUR: 'it returns false'. Refute it at one input. -/
def fnPutTimedOthersWrong : ChangeSpec := { name := "fnPutTimedOthers", fn := fun _ => fun
  | [d] => { results := [.lit (.bool false)], args := [d] }
  | _ => none }
def FnPutTimedOthersWrongFalsely : Prop := fnPutTimedOthersRow.holds Try.pinned (OpenSpec.ofChange fnPutTimedOthersWrong)

/-- 'laws.FnPutTimedTwice': WHATEVER THE INPUT: true; the input reads as it did. -/
def fnPutTimedTwiceSpec : ChangeSpec := { name := "fnPutTimedTwice", fn := fun _ => fun
  | [d] => { results := [.lit (.bool true)], args := [d] }
  | _ => none }
def fnPutTimedTwiceRow : OpenClaim := { program := "ytnkmhjdenddpbaa", sum := "e66ae54877bb918a6905552712d6fecba3e391925931d94b86c0ab037809ccc0", func := "loop.example/cacheengine/laws.FnPutTimedTwice", spec := "fnPutTimedTwice", inPlace := ["slices.overlaps[loop.example/cacheengine/impl.Timed]"], unfollowed := true, recurses := true, apart := false }
def FnPutTimedTwiceSaid : Prop := fnPutTimedTwiceRow.holds Try.pinned (OpenSpec.ofChange fnPutTimedTwiceSpec)

/-- ITS FALSE NEIGHBOUR: 'it returns false'. Refute it at one input. -/
def fnPutTimedTwiceWrong : ChangeSpec := { name := "fnPutTimedTwice", fn := fun _ => fun
  | [d] => { results := [.lit (.bool false)], args := [d] }
  | _ => none }
def FnPutTimedTwiceWrongFalsely : Prop := fnPutTimedTwiceRow.holds Try.pinned (OpenSpec.ofChange fnPutTimedTwiceWrong)

/-- 'laws.FnLiveAt': WHATEVER THE INPUT: true; the input reads as it did. -/
def fnLiveAtSpec : ChangeSpec := { name := "fnLiveAt", fn := fun _ => fun
  | [d] => { results := [.lit (.bool true)], args := [d] }
  | _ => none }
def fnLiveAtRow : OpenClaim := { program := "ytnkmhjdenddpbaa", sum := "e66ae54877bb918a6905552712d6fecba3e391925931d94b86c0ab037809ccc0", func := "loop.example/cacheengine/laws.FnLiveAt", spec := "fnLiveAt", unfollowed := true, recurses := true, apart := false }
def FnLiveAtSaid : Prop := fnLiveAtRow.holds Try.pinned (OpenSpec.ofChange fnLiveAtSpec)

/-- ITS FALSE NEIGHBOUR: 'it returns false'. Refute it at one input. -/
def fnLiveAtWrong : ChangeSpec := { name := "fnLiveAt", fn := fun _ => fun
  | [d] => { results := [.lit (.bool false)], args := [d] }
  | _ => none }
def FnLiveAtWrongFalsely : Prop := fnLiveAtRow.holds Try.pinned (OpenSpec.ofChange fnLiveAtWrong)

/- THE SECOND FORM. 'bulk': how many values and letters a reading holds, each counted each time it is reached (what is shared counts as often as it is met; a slice's spare places count too). A statement '..UptoSaid' is the law's where the arguments, and the package variables that the reading takes, are together of bulk at most 1048576: NARROWER than '..Said'. Prove '..Said' where nothing that the law and all that it calls make is longer than what came in: it says more and counts as full. Else prove '..UptoSaid'. A law counts once. -/
mutual
def uptoBulk {H : Type} : DataW H → Nat
  | .lit (.string bytes) => bytes.length + 1
  | .lit _ => 1
  | .nil => 1
  | .ptr d => uptoBulk d + 1
  | .slice elems spare => uptoBulkAll elems + uptoBulkAll spare + 1
  | .agg parts => uptoBulkAll parts + 1
  | .iface _ d => uptoBulk d + 1
  | .map entries => uptoBulkEntries entries + 1
  | .held _ => 1
def uptoBulkAll {H : Type} : List (DataW H) → Nat
  | [] => 0
  | d :: r => uptoBulk d + uptoBulkAll r
def uptoBulkEntries {H : Type} : List (Lit × DataW H) → Nat
  | [] => 0
  | x :: r => uptoBulkEntry x + uptoBulkEntries r
def uptoBulkEntry {H : Type} : Lit × DataW H → Nat
  | (.string bytes, d) => bytes.length + uptoBulk d + 1
  | (_, d) => uptoBulk d + 1
 end
def uptoSmall : (H : Type) → List (DataW H) → Bool := fun _ ds => decide (uptoBulkAll ds ≤ 1048576)
def OpenSpec.upto (s : _root_.Go.ChangeSpec) : _root_.Go.OpenSpec := { _root_.Go.OpenSpec.ofChange s with cond := some uptoSmall }

/-- 'laws.FnValidGate', WHERE WHAT IT READS IS OF BULK AT MOST 1048576: true; the input reads as it did. -/
def fnValidGateUptoRow : OpenClaim := { program := "ytnkmhjdenddpbaa", sum := "e66ae54877bb918a6905552712d6fecba3e391925931d94b86c0ab037809ccc0", func := "loop.example/cacheengine/laws.FnValidGate", spec := "fnValidGate", apart := false, narrowed := true }
def FnValidGateUptoSaid : Prop := fnValidGateUptoRow.holds Try.pinned (OpenSpec.upto fnValidGateSpec)

/-- 'laws.FnUseGate', WHERE WHAT IT READS IS OF BULK AT MOST 1048576: true; the input reads as it did. -/
def fnUseGateUptoRow : OpenClaim := { program := "ytnkmhjdenddpbaa", sum := "e66ae54877bb918a6905552712d6fecba3e391925931d94b86c0ab037809ccc0", func := "loop.example/cacheengine/laws.FnUseGate", spec := "fnUseGate", apart := false, narrowed := true }
def FnUseGateUptoSaid : Prop := fnUseGateUptoRow.holds Try.pinned (OpenSpec.upto fnUseGateSpec)

/-- 'laws.FnUseGateSketch', WHERE WHAT IT READS IS OF BULK AT MOST 1048576: true; the input reads as it did. -/
def fnUseGateSketchUptoRow : OpenClaim := { program := "ytnkmhjdenddpbaa", sum := "e66ae54877bb918a6905552712d6fecba3e391925931d94b86c0ab037809ccc0", func := "loop.example/cacheengine/laws.FnUseGateSketch", spec := "fnUseGateSketch", apart := false, narrowed := true }
def FnUseGateSketchUptoSaid : Prop := fnUseGateSketchUptoRow.holds Try.pinned (OpenSpec.upto fnUseGateSketchSpec)

/-- 'laws.FnUseGateAdmit', WHERE WHAT IT READS IS OF BULK AT MOST 1048576: true; the input reads as it did. -/
def fnUseGateAdmitUptoRow : OpenClaim := { program := "ytnkmhjdenddpbaa", sum := "e66ae54877bb918a6905552712d6fecba3e391925931d94b86c0ab037809ccc0", func := "loop.example/cacheengine/laws.FnUseGateAdmit", spec := "fnUseGateAdmit", apart := false, narrowed := true }
def FnUseGateAdmitUptoSaid : Prop := fnUseGateAdmitUptoRow.holds Try.pinned (OpenSpec.upto fnUseGateAdmitSpec)

/-- 'laws.FnRunGate', WHERE WHAT IT READS IS OF BULK AT MOST 1048576: true; the input reads as it did. -/
def fnRunGateUptoRow : OpenClaim := { program := "ytnkmhjdenddpbaa", sum := "e66ae54877bb918a6905552712d6fecba3e391925931d94b86c0ab037809ccc0", func := "loop.example/cacheengine/laws.FnRunGate", spec := "fnRunGate", unfollowed := true, recurses := true, apart := false, narrowed := true }
def FnRunGateUptoSaid : Prop := fnRunGateUptoRow.holds Try.pinned (OpenSpec.upto fnRunGateSpec)

/-- 'laws.FnRunGateSmall', WHERE WHAT IT READS IS OF BULK AT MOST 1048576: true; the input reads as it did. -/
def fnRunGateSmallUptoRow : OpenClaim := { program := "ytnkmhjdenddpbaa", sum := "e66ae54877bb918a6905552712d6fecba3e391925931d94b86c0ab037809ccc0", func := "loop.example/cacheengine/laws.FnRunGateSmall", spec := "fnRunGateSmall", unfollowed := true, recurses := true, apart := false, narrowed := true }
def FnRunGateSmallUptoSaid : Prop := fnRunGateSmallUptoRow.holds Try.pinned (OpenSpec.upto fnRunGateSmallSpec)

/-- 'laws.FnPrefers', WHERE WHAT IT READS IS OF BULK AT MOST 1048576: true; the input reads as it did. -/
def fnPrefersUptoRow : OpenClaim := { program := "ytnkmhjdenddpbaa", sum := "e66ae54877bb918a6905552712d6fecba3e391925931d94b86c0ab037809ccc0", func := "loop.example/cacheengine/laws.FnPrefers", spec := "fnPrefers", apart := false, narrowed := true }
def FnPrefersUptoSaid : Prop := fnPrefersUptoRow.holds Try.pinned (OpenSpec.upto fnPrefersSpec)

/-- 'laws.FnValidTimed', WHERE WHAT IT READS IS OF BULK AT MOST 1048576: true; the input reads as it did. -/
def fnValidTimedUptoRow : OpenClaim := { program := "ytnkmhjdenddpbaa", sum := "e66ae54877bb918a6905552712d6fecba3e391925931d94b86c0ab037809ccc0", func := "loop.example/cacheengine/laws.FnValidTimed", spec := "fnValidTimed", apart := false, narrowed := true }
def FnValidTimedUptoSaid : Prop := fnValidTimedUptoRow.holds Try.pinned (OpenSpec.upto fnValidTimedSpec)

/-- 'laws.FnPutTimed', WHERE WHAT IT READS IS OF BULK AT MOST 1048576: true; the input reads as it did. -/
def fnPutTimedUptoRow : OpenClaim := { program := "ytnkmhjdenddpbaa", sum := "e66ae54877bb918a6905552712d6fecba3e391925931d94b86c0ab037809ccc0", func := "loop.example/cacheengine/laws.FnPutTimed", spec := "fnPutTimed", inPlace := ["slices.overlaps[loop.example/cacheengine/impl.Timed]"], unfollowed := true, recurses := true, apart := false, narrowed := true }
def FnPutTimedUptoSaid : Prop := fnPutTimedUptoRow.holds Try.pinned (OpenSpec.upto fnPutTimedSpec)

/-- 'laws.FnPutTimedOthers', WHERE WHAT IT READS IS OF BULK AT MOST 1048576: true; the input reads as it did. -/
def fnPutTimedOthersUptoRow : OpenClaim := { program := "ytnkmhjdenddpbaa", sum := "e66ae54877bb918a6905552712d6fecba3e391925931d94b86c0ab037809ccc0", func := "loop.example/cacheengine/laws.FnPutTimedOthers", spec := "fnPutTimedOthers", inPlace := ["slices.overlaps[loop.example/cacheengine/impl.Timed]"], unfollowed := true, recurses := true, apart := false, narrowed := true }
def FnPutTimedOthersUptoSaid : Prop := fnPutTimedOthersUptoRow.holds Try.pinned (OpenSpec.upto fnPutTimedOthersSpec)

/-- 'laws.FnPutTimedTwice', WHERE WHAT IT READS IS OF BULK AT MOST 1048576: true; the input reads as it did. -/
def fnPutTimedTwiceUptoRow : OpenClaim := { program := "ytnkmhjdenddpbaa", sum := "e66ae54877bb918a6905552712d6fecba3e391925931d94b86c0ab037809ccc0", func := "loop.example/cacheengine/laws.FnPutTimedTwice", spec := "fnPutTimedTwice", inPlace := ["slices.overlaps[loop.example/cacheengine/impl.Timed]"], unfollowed := true, recurses := true, apart := false, narrowed := true }
def FnPutTimedTwiceUptoSaid : Prop := fnPutTimedTwiceUptoRow.holds Try.pinned (OpenSpec.upto fnPutTimedTwiceSpec)

/-- 'laws.FnLiveAt', WHERE WHAT IT READS IS OF BULK AT MOST 1048576: true; the input reads as it did. -/
def fnLiveAtUptoRow : OpenClaim := { program := "ytnkmhjdenddpbaa", sum := "e66ae54877bb918a6905552712d6fecba3e391925931d94b86c0ab037809ccc0", func := "loop.example/cacheengine/laws.FnLiveAt", spec := "fnLiveAt", unfollowed := true, recurses := true, apart := false, narrowed := true }
def FnLiveAtUptoSaid : Prop := fnLiveAtUptoRow.holds Try.pinned (OpenSpec.upto fnLiveAtSpec)

end Rows
end Go.Proofs.Ytnkmhjdenddpbaa
