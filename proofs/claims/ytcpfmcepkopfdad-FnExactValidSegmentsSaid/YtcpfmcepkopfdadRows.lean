/-
  No cell of these rows narrows 'for every input' (looked for: loops, veiled, ifaces, maps, wideKeys, modest, calm, conditions, laid).
  DERIVED. THE GIVEN ROWS OF THIS SEAT. 7 by the template 'for every input the law returns true; each argument reads behind the call as it read before'; 0 by the template 'total and deterministic' (their statements: YtcpfmcepkopfdadTotals.lean).
  GIVEN WITH THE SEED: the statements are not yours to turn. If you find one false, say at which input.
  Laid BY PROGRAM, IN A SANDBOX (cutbox-rows.mjs): the forced cells as the released guide's own fill.sh prints them over the translation 7239307055b02d80… (all of the seat's roots in one cut). By AI agents, Wed Nov 11 2026. No macro, syntax, notation, axiom, sorry.
-/
import Derived.Test.YtcpfmcepkopfdadChecked
import GoSem.Claim
import GoSem.ClaimJoined
import GoSem.ClaimMapViews
import Derived.JoinedTies
import Derived.KernelRfl
namespace Go.Proofs.Ytcpfmcepkopfdad
/- THE CELL 'sum', in the pinned program and in every row, IS THE sha256 OF THE DUMP (.gsa) THAT YtcpfmcepkopfdadProg.lean LOADS. Nothing in Lean hashes anything: it is a label: what it is worth is what the hold of that sum in a sandbox is worth. -/
noncomputable def Try.pinned : Pinned := { name := "ytcpfmcepkopfdad", sum := "7239307055b02d8036655ff36dab1a2d251ac17062e5077c27a1eabeeacd9c43", checked := Try.checked }
namespace Rows
def none {H : Type} : Left H := { results := [], args := [] }

/-- 'laws.FnExactRunClock': WHATEVER THE INPUT: true; the input reads as it did. -/
def fnExactRunClockSpec : ChangeSpec := { name := "fnExactRunClock", fn := fun _ => fun
  | [d1, d2] => { results := [.lit (.bool true)], args := [d1, d2] }
  | _ => none }
def fnExactRunClockRow : OpenClaim := { program := "ytcpfmcepkopfdad", sum := "7239307055b02d8036655ff36dab1a2d251ac17062e5077c27a1eabeeacd9c43", func := "loop.example/cacheengine/laws.FnExactRunClock", spec := "fnExactRunClock", unfollowed := true, recurses := true, apart := false }
def FnExactRunClockSaid : Prop := fnExactRunClockRow.holds Try.pinned (OpenSpec.ofChange fnExactRunClockSpec)

/-- ITS FALSE NEIGHBOUR: 'it returns false'. Refute it at one input. -/
def fnExactRunClockWrong : ChangeSpec := { name := "fnExactRunClock", fn := fun _ => fun
  | [d1, d2] => { results := [.lit (.bool false)], args := [d1, d2] }
  | _ => none }
def FnExactRunClockWrongFalsely : Prop := fnExactRunClockRow.holds Try.pinned (OpenSpec.ofChange fnExactRunClockWrong)

/-- 'laws.FnExactUsedKeys': WHATEVER THE INPUT: true; the input reads as it did. -/
def fnExactUsedKeysSpec : ChangeSpec := { name := "fnExactUsedKeys", fn := fun _ => fun
  | [d] => { results := [.lit (.bool true)], args := [d] }
  | _ => none }
def fnExactUsedKeysRow : OpenClaim := { program := "ytcpfmcepkopfdad", sum := "7239307055b02d8036655ff36dab1a2d251ac17062e5077c27a1eabeeacd9c43", func := "loop.example/cacheengine/laws.FnExactUsedKeys", spec := "fnExactUsedKeys", apart := false }
def FnExactUsedKeysSaid : Prop := fnExactUsedKeysRow.holds Try.pinned (OpenSpec.ofChange fnExactUsedKeysSpec)

/-- ITS FALSE NEIGHBOUR: 'it returns false'. Refute it at one input. -/
def fnExactUsedKeysWrong : ChangeSpec := { name := "fnExactUsedKeys", fn := fun _ => fun
  | [d] => { results := [.lit (.bool false)], args := [d] }
  | _ => none }
def FnExactUsedKeysWrongFalsely : Prop := fnExactUsedKeysRow.holds Try.pinned (OpenSpec.ofChange fnExactUsedKeysWrong)

/-- 'laws.FnExactNextVictim': WHATEVER THE INPUT: true; the input reads as it did. -/
def fnExactNextVictimSpec : ChangeSpec := { name := "fnExactNextVictim", fn := fun _ => fun
  | [d] => { results := [.lit (.bool true)], args := [d] }
  | _ => none }
def fnExactNextVictimRow : OpenClaim := { program := "ytcpfmcepkopfdad", sum := "7239307055b02d8036655ff36dab1a2d251ac17062e5077c27a1eabeeacd9c43", func := "loop.example/cacheengine/laws.FnExactNextVictim", spec := "fnExactNextVictim", apart := false }
def FnExactNextVictimSaid : Prop := fnExactNextVictimRow.holds Try.pinned (OpenSpec.ofChange fnExactNextVictimSpec)

/-- ITS FALSE NEIGHBOUR: 'it returns false'. Refute it at one input. -/
def fnExactNextVictimWrong : ChangeSpec := { name := "fnExactNextVictim", fn := fun _ => fun
  | [d] => { results := [.lit (.bool false)], args := [d] }
  | _ => none }
def FnExactNextVictimWrongFalsely : Prop := fnExactNextVictimRow.holds Try.pinned (OpenSpec.ofChange fnExactNextVictimWrong)

/-- 'laws.FnExactValidSegments': WHATEVER THE INPUT: true; the input reads as it did. -/
def fnExactValidSegmentsSpec : ChangeSpec := { name := "fnExactValidSegments", fn := fun _ => fun
  | [d] => { results := [.lit (.bool true)], args := [d] }
  | _ => none }
def fnExactValidSegmentsRow : OpenClaim := { program := "ytcpfmcepkopfdad", sum := "7239307055b02d8036655ff36dab1a2d251ac17062e5077c27a1eabeeacd9c43", func := "loop.example/cacheengine/laws.FnExactValidSegments", spec := "fnExactValidSegments", apart := false }
def FnExactValidSegmentsSaid : Prop := fnExactValidSegmentsRow.holds Try.pinned (OpenSpec.ofChange fnExactValidSegmentsSpec)

/-- ITS FALSE NEIGHBOUR: 'it returns false'. Refute it at one input. -/
def fnExactValidSegmentsWrong : ChangeSpec := { name := "fnExactValidSegments", fn := fun _ => fun
  | [d] => { results := [.lit (.bool false)], args := [d] }
  | _ => none }
def FnExactValidSegmentsWrongFalsely : Prop := fnExactValidSegmentsRow.holds Try.pinned (OpenSpec.ofChange fnExactValidSegmentsWrong)

/-- 'laws.FnExactUseSegments': WHATEVER THE INPUT: true; the input reads as it did. -/
def fnExactUseSegmentsSpec : ChangeSpec := { name := "fnExactUseSegments", fn := fun _ => fun
  | [d1, d2] => { results := [.lit (.bool true)], args := [d1, d2] }
  | _ => none }
def fnExactUseSegmentsRow : OpenClaim := { program := "ytcpfmcepkopfdad", sum := "7239307055b02d8036655ff36dab1a2d251ac17062e5077c27a1eabeeacd9c43", func := "loop.example/cacheengine/laws.FnExactUseSegments", spec := "fnExactUseSegments", apart := false }
def FnExactUseSegmentsSaid : Prop := fnExactUseSegmentsRow.holds Try.pinned (OpenSpec.ofChange fnExactUseSegmentsSpec)

/-- ITS FALSE NEIGHBOUR: 'it returns false'. Refute it at one input. -/
def fnExactUseSegmentsWrong : ChangeSpec := { name := "fnExactUseSegments", fn := fun _ => fun
  | [d1, d2] => { results := [.lit (.bool false)], args := [d1, d2] }
  | _ => none }
def FnExactUseSegmentsWrongFalsely : Prop := fnExactUseSegmentsRow.holds Try.pinned (OpenSpec.ofChange fnExactUseSegmentsWrong)

/-- 'laws.FnExactRunSegments': WHATEVER THE INPUT: true; the input reads as it did. -/
def fnExactRunSegmentsSpec : ChangeSpec := { name := "fnExactRunSegments", fn := fun _ => fun
  | [d1, d2, d3] => { results := [.lit (.bool true)], args := [d1, d2, d3] }
  | _ => none }
def fnExactRunSegmentsRow : OpenClaim := { program := "ytcpfmcepkopfdad", sum := "7239307055b02d8036655ff36dab1a2d251ac17062e5077c27a1eabeeacd9c43", func := "loop.example/cacheengine/laws.FnExactRunSegments", spec := "fnExactRunSegments", unfollowed := true, recurses := true, apart := false }
def FnExactRunSegmentsSaid : Prop := fnExactRunSegmentsRow.holds Try.pinned (OpenSpec.ofChange fnExactRunSegmentsSpec)

/-- ITS FALSE NEIGHBOUR: 'it returns false'. Refute it at one input. -/
def fnExactRunSegmentsWrong : ChangeSpec := { name := "fnExactRunSegments", fn := fun _ => fun
  | [d1, d2, d3] => { results := [.lit (.bool false)], args := [d1, d2, d3] }
  | _ => none }
def FnExactRunSegmentsWrongFalsely : Prop := fnExactRunSegmentsRow.holds Try.pinned (OpenSpec.ofChange fnExactRunSegmentsWrong)

/-- 'laws.FnExactKeysOf': WHATEVER THE INPUT: true; the input reads as it did. -/
def fnExactKeysOfSpec : ChangeSpec := { name := "fnExactKeysOf", fn := fun _ => fun
  | [d] => { results := [.lit (.bool true)], args := [d] }
  | _ => none }
def fnExactKeysOfRow : OpenClaim := { program := "ytcpfmcepkopfdad", sum := "7239307055b02d8036655ff36dab1a2d251ac17062e5077c27a1eabeeacd9c43", func := "loop.example/cacheengine/laws.FnExactKeysOf", spec := "fnExactKeysOf", apart := false }
def FnExactKeysOfSaid : Prop := fnExactKeysOfRow.holds Try.pinned (OpenSpec.ofChange fnExactKeysOfSpec)

/-- ITS FALSE NEIGHBOUR: 'it returns false'. Refute it at one input. -/
def fnExactKeysOfWrong : ChangeSpec := { name := "fnExactKeysOf", fn := fun _ => fun
  | [d] => { results := [.lit (.bool false)], args := [d] }
  | _ => none }
def FnExactKeysOfWrongFalsely : Prop := fnExactKeysOfRow.holds Try.pinned (OpenSpec.ofChange fnExactKeysOfWrong)

/- THE SECOND FORM. 'bulk': how many values and letters a reading holds, each counted each time it is reached (what is shared counts as often as it is met; a slice's spare places count too). A statement '..UptoSaid' is the law's where the arguments, and the package variables that the reading takes, are together of bulk at most 1048576: NARROWER than '..Said'. Prove '..Said' where nothing that the law and all that it calls make is longer than what came in: it says more and counts as full. Else prove '..UptoSaid'. A law counts once. -/
mutual
def uptoBulk {H : Type} : DataW H → Nat
  | .lit (.string bytes) => bytes.length + 1
  | .lit _ => 1
  | .nil => 1
  | .ptr d => uptoBulk d + 1
  | .slice elems spare => uptoBulkAll elems + uptoBulkAll spare + 1
  | .agg parts => uptoBulkAll parts + 1
  | .iface _ d => uptoBulk d + 1
  | .map entries => uptoBulkEntries entries + 1
  | .held _ => 1
def uptoBulkAll {H : Type} : List (DataW H) → Nat
  | [] => 0
  | d :: r => uptoBulk d + uptoBulkAll r
def uptoBulkEntries {H : Type} : List (Lit × DataW H) → Nat
  | [] => 0
  | x :: r => uptoBulkEntry x + uptoBulkEntries r
def uptoBulkEntry {H : Type} : Lit × DataW H → Nat
  | (.string bytes, d) => bytes.length + uptoBulk d + 1
  | (_, d) => uptoBulk d + 1
 end
def uptoSmall : (H : Type) → List (DataW H) → Bool := fun _ ds => decide (uptoBulkAll ds ≤ 1048576)
def OpenSpec.upto (s : _root_.Go.ChangeSpec) : _root_.Go.OpenSpec := { _root_.Go.OpenSpec.ofChange s with cond := some uptoSmall }

/-- 'laws.FnExactRunClock', WHERE WHAT IT READS IS OF BULK AT MOST 1048576: true; the input reads as it did. -/
def fnExactRunClockUptoRow : OpenClaim := { program := "ytcpfmcepkopfdad", sum := "7239307055b02d8036655ff36dab1a2d251ac17062e5077c27a1eabeeacd9c43", func := "loop.example/cacheengine/laws.FnExactRunClock", spec := "fnExactRunClock", unfollowed := true, recurses := true, apart := false, narrowed := true }
def FnExactRunClockUptoSaid : Prop := fnExactRunClockUptoRow.holds Try.pinned (OpenSpec.upto fnExactRunClockSpec)

/-- 'laws.FnExactUsedKeys', WHERE WHAT IT READS IS OF BULK AT MOST 1048576: true; the input reads as it did. -/
def fnExactUsedKeysUptoRow : OpenClaim := { program := "ytcpfmcepkopfdad", sum := "7239307055b02d8036655ff36dab1a2d251ac17062e5077c27a1eabeeacd9c43", func := "loop.example/cacheengine/laws.FnExactUsedKeys", spec := "fnExactUsedKeys", apart := false, narrowed := true }
def FnExactUsedKeysUptoSaid : Prop := fnExactUsedKeysUptoRow.holds Try.pinned (OpenSpec.upto fnExactUsedKeysSpec)

/-- 'laws.FnExactNextVictim', WHERE WHAT IT READS IS OF BULK AT MOST 1048576: true; the input reads as it did. -/
def fnExactNextVictimUptoRow : OpenClaim := { program := "ytcpfmcepkopfdad", sum := "7239307055b02d8036655ff36dab1a2d251ac17062e5077c27a1eabeeacd9c43", func := "loop.example/cacheengine/laws.FnExactNextVictim", spec := "fnExactNextVictim", apart := false, narrowed := true }
def FnExactNextVictimUptoSaid : Prop := fnExactNextVictimUptoRow.holds Try.pinned (OpenSpec.upto fnExactNextVictimSpec)

/-- 'laws.FnExactValidSegments', WHERE WHAT IT READS IS OF BULK AT MOST 1048576: true; the input reads as it did. -/
def fnExactValidSegmentsUptoRow : OpenClaim := { program := "ytcpfmcepkopfdad", sum := "7239307055b02d8036655ff36dab1a2d251ac17062e5077c27a1eabeeacd9c43", func := "loop.example/cacheengine/laws.FnExactValidSegments", spec := "fnExactValidSegments", apart := false, narrowed := true }
def FnExactValidSegmentsUptoSaid : Prop := fnExactValidSegmentsUptoRow.holds Try.pinned (OpenSpec.upto fnExactValidSegmentsSpec)

/-- 'laws.FnExactUseSegments', WHERE WHAT IT READS IS OF BULK AT MOST 1048576: true; the input reads as it did. -/
def fnExactUseSegmentsUptoRow : OpenClaim := { program := "ytcpfmcepkopfdad", sum := "7239307055b02d8036655ff36dab1a2d251ac17062e5077c27a1eabeeacd9c43", func := "loop.example/cacheengine/laws.FnExactUseSegments", spec := "fnExactUseSegments", apart := false, narrowed := true }
def FnExactUseSegmentsUptoSaid : Prop := fnExactUseSegmentsUptoRow.holds Try.pinned (OpenSpec.upto fnExactUseSegmentsSpec)

/-- 'laws.FnExactRunSegments', WHERE WHAT IT READS IS OF BULK AT MOST 1048576: true; the input reads as it did. -/
def fnExactRunSegmentsUptoRow : OpenClaim := { program := "ytcpfmcepkopfdad", sum := "7239307055b02d8036655ff36dab1a2d251ac17062e5077c27a1eabeeacd9c43", func := "loop.example/cacheengine/laws.FnExactRunSegments", spec := "fnExactRunSegments", unfollowed := true, recurses := true, apart := false, narrowed := true }
def FnExactRunSegmentsUptoSaid : Prop := fnExactRunSegmentsUptoRow.holds Try.pinned (OpenSpec.upto fnExactRunSegmentsSpec)

/-- 'laws.FnExactKeysOf', WHERE WHAT IT READS IS OF BULK AT MOST 1048576: true; the input reads as it did. -/
def fnExactKeysOfUptoRow : OpenClaim := { program := "ytcpfmcepkopfdad", sum := "7239307055b02d8036655ff36dab1a2d251ac17062e5077c27a1eabeeacd9c43", func := "loop.example/cacheengine/laws.FnExactKeysOf", spec := "fnExactKeysOf", apart := false, narrowed := true }
def FnExactKeysOfUptoSaid : Prop := fnExactKeysOfUptoRow.holds Try.pinned (OpenSpec.upto fnExactKeysOfSpec)

end Rows
end Go.Proofs.Ytcpfmcepkopfdad
