/-
  No cell of these rows narrows 'for every input' (looked for: loops, veiled, ifaces, maps, wideKeys, modest, calm, conditions, laid).
  DERIVED. THE GIVEN ROWS OF THIS SEAT. 12 by the template 'for every input the law returns true; each argument reads behind the call as it read before'; 0 by the template 'total and deterministic' (their statements: YtcpfmcepkopfdabTotals.lean).
  GIVEN WITH THE SEED: the statements are not yours to turn. If you find one false, say at which input.
  Laid BY PROGRAM, IN A SANDBOX (cutbox-rows.mjs): the forced cells as the released guide's own fill.sh prints them over the translation 9c6535dc4cbd8d5b… (all of the seat's roots in one cut). By AI agents, Wed Nov 11 2026. No macro, syntax, notation, axiom, sorry.
-/
import Derived.Test.YtcpfmcepkopfdabChecked
import GoSem.Claim
import GoSem.ClaimJoined
import GoSem.ClaimMapViews
import Derived.JoinedTies
import Derived.KernelRfl
namespace Go.Proofs.Ytcpfmcepkopfdab
/- THE CELL 'sum', in the pinned program and in every row, IS THE sha256 OF THE DUMP (.gsa) THAT YtcpfmcepkopfdabProg.lean LOADS. Nothing in Lean hashes anything: it is a label: what it is worth is what the hold of that sum in a sandbox is worth. -/
noncomputable def Try.pinned : Pinned := { name := "ytcpfmcepkopfdab", sum := "9c6535dc4cbd8d5bcc663b687225c236504dcf64fe3ed09639a1490d7d8590e6", checked := Try.checked }
namespace Rows
def none {H : Type} : Left H := { results := [], args := [] }

/-- 'laws.FnExactValidKeys': WHATEVER THE INPUT: true; the input reads as it did. -/
def fnExactValidKeysSpec : ChangeSpec := { name := "fnExactValidKeys", fn := fun _ => fun
  | [d1, d2] => { results := [.lit (.bool true)], args := [d1, d2] }
  | _ => none }
def fnExactValidKeysRow : OpenClaim := { program := "ytcpfmcepkopfdab", sum := "9c6535dc4cbd8d5bcc663b687225c236504dcf64fe3ed09639a1490d7d8590e6", func := "loop.example/cacheengine/laws.FnExactValidKeys", spec := "fnExactValidKeys", apart := false }
def FnExactValidKeysSaid : Prop := fnExactValidKeysRow.holds Try.pinned (OpenSpec.ofChange fnExactValidKeysSpec)

/-- ITS FALSE NEIGHBOUR: 'it returns false'. Refute it at one input. -/
def fnExactValidKeysWrong : ChangeSpec := { name := "fnExactValidKeys", fn := fun _ => fun
  | [d1, d2] => { results := [.lit (.bool false)], args := [d1, d2] }
  | _ => none }
def FnExactValidKeysWrongFalsely : Prop := fnExactValidKeysRow.holds Try.pinned (OpenSpec.ofChange fnExactValidKeysWrong)

/-- 'laws.FnExactUseRecent': WHATEVER THE INPUT: true; the input reads as it did. -/
def fnExactUseRecentSpec : ChangeSpec := { name := "fnExactUseRecent", fn := fun _ => fun
  | [d1, d2, d3] => { results := [.lit (.bool true)], args := [d1, d2, d3] }
  | _ => none }
def fnExactUseRecentRow : OpenClaim := { program := "ytcpfmcepkopfdab", sum := "9c6535dc4cbd8d5bcc663b687225c236504dcf64fe3ed09639a1490d7d8590e6", func := "loop.example/cacheengine/laws.FnExactUseRecent", spec := "fnExactUseRecent", apart := false }
def FnExactUseRecentSaid : Prop := fnExactUseRecentRow.holds Try.pinned (OpenSpec.ofChange fnExactUseRecentSpec)

/-- ITS FALSE NEIGHBOUR: 'it returns false'. Refute it at one input. -/
def fnExactUseRecentWrong : ChangeSpec := { name := "fnExactUseRecent", fn := fun _ => fun
  | [d1, d2, d3] => { results := [.lit (.bool false)], args := [d1, d2, d3] }
  | _ => none }
def FnExactUseRecentWrongFalsely : Prop := fnExactUseRecentRow.holds Try.pinned (OpenSpec.ofChange fnExactUseRecentWrong)

/-- 'laws.FnExactRunRecent': WHATEVER THE INPUT: true; the input reads as it did. -/
def fnExactRunRecentSpec : ChangeSpec := { name := "fnExactRunRecent", fn := fun _ => fun
  | [d1, d2] => { results := [.lit (.bool true)], args := [d1, d2] }
  | _ => none }
def fnExactRunRecentRow : OpenClaim := { program := "ytcpfmcepkopfdab", sum := "9c6535dc4cbd8d5bcc663b687225c236504dcf64fe3ed09639a1490d7d8590e6", func := "loop.example/cacheengine/laws.FnExactRunRecent", spec := "fnExactRunRecent", unfollowed := true, recurses := true, apart := false }
def FnExactRunRecentSaid : Prop := fnExactRunRecentRow.holds Try.pinned (OpenSpec.ofChange fnExactRunRecentSpec)

/-- ITS FALSE NEIGHBOUR: 'it returns false'. Refute it at one input. -/
def fnExactRunRecentWrong : ChangeSpec := { name := "fnExactRunRecent", fn := fun _ => fun
  | [d1, d2] => { results := [.lit (.bool false)], args := [d1, d2] }
  | _ => none }
def FnExactRunRecentWrongFalsely : Prop := fnExactRunRecentRow.holds Try.pinned (OpenSpec.ofChange fnExactRunRecentWrong)

/-- 'laws.FnExactUseFirst': WHATEVER THE INPUT: true; the input reads as it did. -/
def fnExactUseFirstSpec : ChangeSpec := { name := "fnExactUseFirst", fn := fun _ => fun
  | [d1, d2, d3] => { results := [.lit (.bool true)], args := [d1, d2, d3] }
  | _ => none }
def fnExactUseFirstRow : OpenClaim := { program := "ytcpfmcepkopfdab", sum := "9c6535dc4cbd8d5bcc663b687225c236504dcf64fe3ed09639a1490d7d8590e6", func := "loop.example/cacheengine/laws.FnExactUseFirst", spec := "fnExactUseFirst", apart := false }
def FnExactUseFirstSaid : Prop := fnExactUseFirstRow.holds Try.pinned (OpenSpec.ofChange fnExactUseFirstSpec)

/-- ITS FALSE NEIGHBOUR: 'it returns false'. Refute it at one input. -/
def fnExactUseFirstWrong : ChangeSpec := { name := "fnExactUseFirst", fn := fun _ => fun
  | [d1, d2, d3] => { results := [.lit (.bool false)], args := [d1, d2, d3] }
  | _ => none }
def FnExactUseFirstWrongFalsely : Prop := fnExactUseFirstRow.holds Try.pinned (OpenSpec.ofChange fnExactUseFirstWrong)

/-- 'laws.FnExactRunFirst': WHATEVER THE INPUT: true; the input reads as it did. -/
def fnExactRunFirstSpec : ChangeSpec := { name := "fnExactRunFirst", fn := fun _ => fun
  | [d1, d2] => { results := [.lit (.bool true)], args := [d1, d2] }
  | _ => none }
def fnExactRunFirstRow : OpenClaim := { program := "ytcpfmcepkopfdab", sum := "9c6535dc4cbd8d5bcc663b687225c236504dcf64fe3ed09639a1490d7d8590e6", func := "loop.example/cacheengine/laws.FnExactRunFirst", spec := "fnExactRunFirst", unfollowed := true, recurses := true, apart := false }
def FnExactRunFirstSaid : Prop := fnExactRunFirstRow.holds Try.pinned (OpenSpec.ofChange fnExactRunFirstSpec)

/-- ITS FALSE NEIGHBOUR: 'it returns false'. Refute it at one input. -/
def fnExactRunFirstWrong : ChangeSpec := { name := "fnExactRunFirst", fn := fun _ => fun
  | [d1, d2] => { results := [.lit (.bool false)], args := [d1, d2] }
  | _ => none }
def FnExactRunFirstWrongFalsely : Prop := fnExactRunFirstRow.holds Try.pinned (OpenSpec.ofChange fnExactRunFirstWrong)

/-- 'laws.FnValidClock': WHATEVER THE INPUT: true; the input reads as it did. -/
def fnValidClockSpec : ChangeSpec := { name := "fnValidClock", fn := fun _ => fun
  | [d] => { results := [.lit (.bool true)], args := [d] }
  | _ => none }
def fnValidClockRow : OpenClaim := { program := "ytcpfmcepkopfdab", sum := "9c6535dc4cbd8d5bcc663b687225c236504dcf64fe3ed09639a1490d7d8590e6", func := "loop.example/cacheengine/laws.FnValidClock", spec := "fnValidClock", apart := false }
def FnValidClockSaid : Prop := fnValidClockRow.holds Try.pinned (OpenSpec.ofChange fnValidClockSpec)

/-- ITS FALSE NEIGHBOUR: 'it returns false'. Refute it at one input. -/
def fnValidClockWrong : ChangeSpec := { name := "fnValidClock", fn := fun _ => fun
  | [d] => { results := [.lit (.bool false)], args := [d] }
  | _ => none }
def FnValidClockWrongFalsely : Prop := fnValidClockRow.holds Try.pinned (OpenSpec.ofChange fnValidClockWrong)

/-- 'laws.FnUseClock': WHATEVER THE INPUT: true; the input reads as it did. -/
def fnUseClockSpec : ChangeSpec := { name := "fnUseClock", fn := fun _ => fun
  | [d] => { results := [.lit (.bool true)], args := [d] }
  | _ => none }
def fnUseClockRow : OpenClaim := { program := "ytcpfmcepkopfdab", sum := "9c6535dc4cbd8d5bcc663b687225c236504dcf64fe3ed09639a1490d7d8590e6", func := "loop.example/cacheengine/laws.FnUseClock", spec := "fnUseClock", apart := false }
def FnUseClockSaid : Prop := fnUseClockRow.holds Try.pinned (OpenSpec.ofChange fnUseClockSpec)

/-- ITS FALSE NEIGHBOUR: 'it returns false'. Refute it at one input. -/
def fnUseClockWrong : ChangeSpec := { name := "fnUseClock", fn := fun _ => fun
  | [d] => { results := [.lit (.bool false)], args := [d] }
  | _ => none }
def FnUseClockWrongFalsely : Prop := fnUseClockRow.holds Try.pinned (OpenSpec.ofChange fnUseClockWrong)

/-- 'laws.FnUseClockPlaces': WHATEVER THE INPUT: true; the input reads as it did. -/
def fnUseClockPlacesSpec : ChangeSpec := { name := "fnUseClockPlaces", fn := fun _ => fun
  | [d] => { results := [.lit (.bool true)], args := [d] }
  | _ => none }
def fnUseClockPlacesRow : OpenClaim := { program := "ytcpfmcepkopfdab", sum := "9c6535dc4cbd8d5bcc663b687225c236504dcf64fe3ed09639a1490d7d8590e6", func := "loop.example/cacheengine/laws.FnUseClockPlaces", spec := "fnUseClockPlaces", apart := false }
def FnUseClockPlacesSaid : Prop := fnUseClockPlacesRow.holds Try.pinned (OpenSpec.ofChange fnUseClockPlacesSpec)

/-- ITS FALSE NEIGHBOUR: 'it returns false'. Refute it at one input. -/
def fnUseClockPlacesWrong : ChangeSpec := { name := "fnUseClockPlaces", fn := fun _ => fun
  | [d] => { results := [.lit (.bool false)], args := [d] }
  | _ => none }
def FnUseClockPlacesWrongFalsely : Prop := fnUseClockPlacesRow.holds Try.pinned (OpenSpec.ofChange fnUseClockPlacesWrong)

/-- 'laws.FnNextVictim': WHATEVER THE INPUT: true; the input reads as it did. -/
def fnNextVictimSpec : ChangeSpec := { name := "fnNextVictim", fn := fun _ => fun
  | [d] => { results := [.lit (.bool true)], args := [d] }
  | _ => none }
def fnNextVictimRow : OpenClaim := { program := "ytcpfmcepkopfdab", sum := "9c6535dc4cbd8d5bcc663b687225c236504dcf64fe3ed09639a1490d7d8590e6", func := "loop.example/cacheengine/laws.FnNextVictim", spec := "fnNextVictim", apart := false }
def FnNextVictimSaid : Prop := fnNextVictimRow.holds Try.pinned (OpenSpec.ofChange fnNextVictimSpec)

/-- ITS FALSE NEIGHBOUR: 'it returns false'. Refute it at one input. -/
def fnNextVictimWrong : ChangeSpec := { name := "fnNextVictim", fn := fun _ => fun
  | [d] => { results := [.lit (.bool false)], args := [d] }
  | _ => none }
def FnNextVictimWrongFalsely : Prop := fnNextVictimRow.holds Try.pinned (OpenSpec.ofChange fnNextVictimWrong)

/-- 'laws.FnNextVictimUsed': WHATEVER THE INPUT: true; the input reads as it did. -/
def fnNextVictimUsedSpec : ChangeSpec := { name := "fnNextVictimUsed", fn := fun _ => fun
  | [d] => { results := [.lit (.bool true)], args := [d] }
  | _ => none }
def fnNextVictimUsedRow : OpenClaim := { program := "ytcpfmcepkopfdab", sum := "9c6535dc4cbd8d5bcc663b687225c236504dcf64fe3ed09639a1490d7d8590e6", func := "loop.example/cacheengine/laws.FnNextVictimUsed", spec := "fnNextVictimUsed", apart := false }
def FnNextVictimUsedSaid : Prop := fnNextVictimUsedRow.holds Try.pinned (OpenSpec.ofChange fnNextVictimUsedSpec)

/-- ITS FALSE NEIGHBOUR: 'it returns false'. Refute it at one input. -/
def fnNextVictimUsedWrong : ChangeSpec := { name := "fnNextVictimUsed", fn := fun _ => fun
  | [d] => { results := [.lit (.bool false)], args := [d] }
  | _ => none }
def FnNextVictimUsedWrongFalsely : Prop := fnNextVictimUsedRow.holds Try.pinned (OpenSpec.ofChange fnNextVictimUsedWrong)

/-- 'laws.FnUsedKeys': WHATEVER THE INPUT: true; the input reads as it did. -/
def fnUsedKeysSpec : ChangeSpec := { name := "fnUsedKeys", fn := fun _ => fun
  | [d] => { results := [.lit (.bool true)], args := [d] }
  | _ => none }
def fnUsedKeysRow : OpenClaim := { program := "ytcpfmcepkopfdab", sum := "9c6535dc4cbd8d5bcc663b687225c236504dcf64fe3ed09639a1490d7d8590e6", func := "loop.example/cacheengine/laws.FnUsedKeys", spec := "fnUsedKeys", apart := false }
def FnUsedKeysSaid : Prop := fnUsedKeysRow.holds Try.pinned (OpenSpec.ofChange fnUsedKeysSpec)

/-- ITS FALSE NEIGHBOUR: 'it returns false'. Refute it at one input. -/
def fnUsedKeysWrong : ChangeSpec := { name := "fnUsedKeys", fn := fun _ => fun
  | [d] => { results := [.lit (.bool false)], args := [d] }
  | _ => none }
def FnUsedKeysWrongFalsely : Prop := fnUsedKeysRow.holds Try.pinned (OpenSpec.ofChange fnUsedKeysWrong)

/-- 'laws.FnRunClock': WHATEVER THE INPUT: true; the input reads as it did. -/
def fnRunClockSpec : ChangeSpec := { name := "fnRunClock", fn := fun _ => fun
  | [d] => { results := [.lit (.bool true)], args := [d] }
  | _ => none }
def fnRunClockRow : OpenClaim := { program := "ytcpfmcepkopfdab", sum := "9c6535dc4cbd8d5bcc663b687225c236504dcf64fe3ed09639a1490d7d8590e6", func := "loop.example/cacheengine/laws.FnRunClock", spec := "fnRunClock", unfollowed := true, recurses := true, apart := false }
def FnRunClockSaid : Prop := fnRunClockRow.holds Try.pinned (OpenSpec.ofChange fnRunClockSpec)

/-- ITS FALSE NEIGHBOUR: 'it returns false'. Refute it at one input. -/
def fnRunClockWrong : ChangeSpec := { name := "fnRunClock", fn := fun _ => fun
  | [d] => { results := [.lit (.bool false)], args := [d] }
  | _ => none }
def FnRunClockWrongFalsely : Prop := fnRunClockRow.holds Try.pinned (OpenSpec.ofChange fnRunClockWrong)

/- THE SECOND FORM. 'bulk': how many values and letters a reading holds, each counted each time it is reached (what is shared counts as often as it is met; a slice's spare places count too). A statement '..UptoSaid' is the law's where the arguments, and the package variables that the reading takes, are together of bulk at most 1048576: NARROWER than '..Said'. Prove '..Said' where nothing that the law and all that it calls make is longer than what came in: it says more and counts as full. Else prove '..UptoSaid'. A law counts once. -/
mutual
def uptoBulk {H : Type} : DataW H → Nat
  | .lit (.string bytes) => bytes.length + 1
  | .lit _ => 1
  | .nil => 1
  | .ptr d => uptoBulk d + 1
  | .slice elems spare => uptoBulkAll elems + uptoBulkAll spare + 1
  | .agg parts => uptoBulkAll parts + 1
  | .iface _ d => uptoBulk d + 1
  | .map entries => uptoBulkEntries entries + 1
  | .held _ => 1
def uptoBulkAll {H : Type} : List (DataW H) → Nat
  | [] => 0
  | d :: r => uptoBulk d + uptoBulkAll r
def uptoBulkEntries {H : Type} : List (Lit × DataW H) → Nat
  | [] => 0
  | x :: r => uptoBulkEntry x + uptoBulkEntries r
def uptoBulkEntry {H : Type} : Lit × DataW H → Nat
  | (.string bytes, d) => bytes.length + uptoBulk d + 1
  | (_, d) => uptoBulk d + 1
 end
def uptoSmall : (H : Type) → List (DataW H) → Bool := fun _ ds => decide (uptoBulkAll ds ≤ 1048576)
def OpenSpec.upto (s : _root_.Go.ChangeSpec) : _root_.Go.OpenSpec := { _root_.Go.OpenSpec.ofChange s with cond := some uptoSmall }

/-- 'laws.FnExactValidKeys', WHERE WHAT IT READS IS OF BULK AT MOST 1048576: true; the input reads as it did. -/
def fnExactValidKeysUptoRow : OpenClaim := { program := "ytcpfmcepkopfdab", sum := "9c6535dc4cbd8d5bcc663b687225c236504dcf64fe3ed09639a1490d7d8590e6", func := "loop.example/cacheengine/laws.FnExactValidKeys", spec := "fnExactValidKeys", apart := false, narrowed := true }
def FnExactValidKeysUptoSaid : Prop := fnExactValidKeysUptoRow.holds Try.pinned (OpenSpec.upto fnExactValidKeysSpec)

/-- 'laws.FnExactUseRecent', WHERE WHAT IT READS IS OF BULK AT MOST 1048576: true; the input reads as it did. -/
def fnExactUseRecentUptoRow : OpenClaim := { program := "ytcpfmcepkopfdab", sum := "9c6535dc4cbd8d5bcc663b687225c236504dcf64fe3ed09639a1490d7d8590e6", func := "loop.example/cacheengine/laws.FnExactUseRecent", spec := "fnExactUseRecent", apart := false, narrowed := true }
def FnExactUseRecentUptoSaid : Prop := fnExactUseRecentUptoRow.holds Try.pinned (OpenSpec.upto fnExactUseRecentSpec)

/-- 'laws.FnExactRunRecent', WHERE WHAT IT READS IS OF BULK AT MOST 1048576: true; the input reads as it did. -/
def fnExactRunRecentUptoRow : OpenClaim := { program := "ytcpfmcepkopfdab", sum := "9c6535dc4cbd8d5bcc663b687225c236504dcf64fe3ed09639a1490d7d8590e6", func := "loop.example/cacheengine/laws.FnExactRunRecent", spec := "fnExactRunRecent", unfollowed := true, recurses := true, apart := false, narrowed := true }
def FnExactRunRecentUptoSaid : Prop := fnExactRunRecentUptoRow.holds Try.pinned (OpenSpec.upto fnExactRunRecentSpec)

/-- 'laws.FnExactUseFirst', WHERE WHAT IT READS IS OF BULK AT MOST 1048576: true; the input reads as it did. -/
def fnExactUseFirstUptoRow : OpenClaim := { program := "ytcpfmcepkopfdab", sum := "9c6535dc4cbd8d5bcc663b687225c236504dcf64fe3ed09639a1490d7d8590e6", func := "loop.example/cacheengine/laws.FnExactUseFirst", spec := "fnExactUseFirst", apart := false, narrowed := true }
def FnExactUseFirstUptoSaid : Prop := fnExactUseFirstUptoRow.holds Try.pinned (OpenSpec.upto fnExactUseFirstSpec)

/-- 'laws.FnExactRunFirst', WHERE WHAT IT READS IS OF BULK AT MOST 1048576: true; the input reads as it did. -/
def fnExactRunFirstUptoRow : OpenClaim := { program := "ytcpfmcepkopfdab", sum := "9c6535dc4cbd8d5bcc663b687225c236504dcf64fe3ed09639a1490d7d8590e6", func := "loop.example/cacheengine/laws.FnExactRunFirst", spec := "fnExactRunFirst", unfollowed := true, recurses := true, apart := false, narrowed := true }
def FnExactRunFirstUptoSaid : Prop := fnExactRunFirstUptoRow.holds Try.pinned (OpenSpec.upto fnExactRunFirstSpec)

/-- 'laws.FnValidClock', WHERE WHAT IT READS IS OF BULK AT MOST 1048576: true; the input reads as it did. -/
def fnValidClockUptoRow : OpenClaim := { program := "ytcpfmcepkopfdab", sum := "9c6535dc4cbd8d5bcc663b687225c236504dcf64fe3ed09639a1490d7d8590e6", func := "loop.example/cacheengine/laws.FnValidClock", spec := "fnValidClock", apart := false, narrowed := true }
def FnValidClockUptoSaid : Prop := fnValidClockUptoRow.holds Try.pinned (OpenSpec.upto fnValidClockSpec)

/-- 'laws.FnUseClock', WHERE WHAT IT READS IS OF BULK AT MOST 1048576: true; the input reads as it did. -/
def fnUseClockUptoRow : OpenClaim := { program := "ytcpfmcepkopfdab", sum := "9c6535dc4cbd8d5bcc663b687225c236504dcf64fe3ed09639a1490d7d8590e6", func := "loop.example/cacheengine/laws.FnUseClock", spec := "fnUseClock", apart := false, narrowed := true }
def FnUseClockUptoSaid : Prop := fnUseClockUptoRow.holds Try.pinned (OpenSpec.upto fnUseClockSpec)

/-- 'laws.FnUseClockPlaces', WHERE WHAT IT READS IS OF BULK AT MOST 1048576: true; the input reads as it did. -/
def fnUseClockPlacesUptoRow : OpenClaim := { program := "ytcpfmcepkopfdab", sum := "9c6535dc4cbd8d5bcc663b687225c236504dcf64fe3ed09639a1490d7d8590e6", func := "loop.example/cacheengine/laws.FnUseClockPlaces", spec := "fnUseClockPlaces", apart := false, narrowed := true }
def FnUseClockPlacesUptoSaid : Prop := fnUseClockPlacesUptoRow.holds Try.pinned (OpenSpec.upto fnUseClockPlacesSpec)

/-- 'laws.FnNextVictim', WHERE WHAT IT READS IS OF BULK AT MOST 1048576: true; the input reads as it did. -/
def fnNextVictimUptoRow : OpenClaim := { program := "ytcpfmcepkopfdab", sum := "9c6535dc4cbd8d5bcc663b687225c236504dcf64fe3ed09639a1490d7d8590e6", func := "loop.example/cacheengine/laws.FnNextVictim", spec := "fnNextVictim", apart := false, narrowed := true }
def FnNextVictimUptoSaid : Prop := fnNextVictimUptoRow.holds Try.pinned (OpenSpec.upto fnNextVictimSpec)

/-- 'laws.FnNextVictimUsed', WHERE WHAT IT READS IS OF BULK AT MOST 1048576: true; the input reads as it did. -/
def fnNextVictimUsedUptoRow : OpenClaim := { program := "ytcpfmcepkopfdab", sum := "9c6535dc4cbd8d5bcc663b687225c236504dcf64fe3ed09639a1490d7d8590e6", func := "loop.example/cacheengine/laws.FnNextVictimUsed", spec := "fnNextVictimUsed", apart := false, narrowed := true }
def FnNextVictimUsedUptoSaid : Prop := fnNextVictimUsedUptoRow.holds Try.pinned (OpenSpec.upto fnNextVictimUsedSpec)

/-- 'laws.FnUsedKeys', WHERE WHAT IT READS IS OF BULK AT MOST 1048576: true; the input reads as it did. -/
def fnUsedKeysUptoRow : OpenClaim := { program := "ytcpfmcepkopfdab", sum := "9c6535dc4cbd8d5bcc663b687225c236504dcf64fe3ed09639a1490d7d8590e6", func := "loop.example/cacheengine/laws.FnUsedKeys", spec := "fnUsedKeys", apart := false, narrowed := true }
def FnUsedKeysUptoSaid : Prop := fnUsedKeysUptoRow.holds Try.pinned (OpenSpec.upto fnUsedKeysSpec)

/-- 'laws.FnRunClock', WHERE WHAT IT READS IS OF BULK AT MOST 1048576: true; the input reads as it did. -/
def fnRunClockUptoRow : OpenClaim := { program := "ytcpfmcepkopfdab", sum := "9c6535dc4cbd8d5bcc663b687225c236504dcf64fe3ed09639a1490d7d8590e6", func := "loop.example/cacheengine/laws.FnRunClock", spec := "fnRunClock", unfollowed := true, recurses := true, apart := false, narrowed := true }
def FnRunClockUptoSaid : Prop := fnRunClockUptoRow.holds Try.pinned (OpenSpec.upto fnRunClockSpec)

end Rows
end Go.Proofs.Ytcpfmcepkopfdab
