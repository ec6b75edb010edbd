/-
  No cell of these rows narrows 'for every input' (looked for: loops, veiled, ifaces, maps, wideKeys, modest, calm, conditions, laid).
  DERIVED. THE GIVEN ROWS OF THIS SEAT. 12 by the template 'for every input the law returns true; each argument reads behind the call as it read before'; 0 by the template 'total and deterministic' (their statements: YtcpfmcepkopfdaaTotals.lean).
  GIVEN WITH THE SEED: the statements are not yours to turn. If you find one false, say at which input.
  Laid BY PROGRAM, IN A SANDBOX (cutbox-rows.mjs): the forced cells as the released guide's own fill.sh prints them over the translation 12557f35a16f7279… (all of the seat's roots in one cut). By AI agents, Wed Nov 11 2026. No macro, syntax, notation, axiom, sorry.
-/
import Derived.Test.YtcpfmcepkopfdaaChecked
import GoSem.Claim
import GoSem.ClaimJoined
import GoSem.ClaimMapViews
import Derived.JoinedTies
import Derived.KernelRfl
namespace Go.Proofs.Ytcpfmcepkopfdaa
/- THE CELL 'sum', in the pinned program and in every row, IS THE sha256 OF THE DUMP (.gsa) THAT YtcpfmcepkopfdaaProg.lean LOADS. Nothing in Lean hashes anything: it is a label: what it is worth is what the hold of that sum in a sandbox is worth. -/
noncomputable def Try.pinned : Pinned := { name := "ytcpfmcepkopfdaa", sum := "12557f35a16f7279c013cd3750f94769e24a1f4ecd9c49862fa32c955d62c153", checked := Try.checked }
namespace Rows
def none {H : Type} : Left H := { results := [], args := [] }

/-- 'laws.FnValidKeys': WHATEVER THE INPUT: true; the input reads as it did. -/
def fnValidKeysSpec : ChangeSpec := { name := "fnValidKeys", fn := fun _ => fun
  | [d] => { results := [.lit (.bool true)], args := [d] }
  | _ => none }
def fnValidKeysRow : OpenClaim := { program := "ytcpfmcepkopfdaa", sum := "12557f35a16f7279c013cd3750f94769e24a1f4ecd9c49862fa32c955d62c153", func := "loop.example/cacheengine/laws.FnValidKeys", spec := "fnValidKeys", apart := false }
def FnValidKeysSaid : Prop := fnValidKeysRow.holds Try.pinned (OpenSpec.ofChange fnValidKeysSpec)

/-- ITS FALSE NEIGHBOUR: 'it returns false'. Refute it at one input. -/
def fnValidKeysWrong : ChangeSpec := { name := "fnValidKeys", fn := fun _ => fun
  | [d] => { results := [.lit (.bool false)], args := [d] }
  | _ => none }
def FnValidKeysWrongFalsely : Prop := fnValidKeysRow.holds Try.pinned (OpenSpec.ofChange fnValidKeysWrong)

/-- 'laws.FnUseRecent': WHATEVER THE INPUT: true; the input reads as it did. -/
def fnUseRecentSpec : ChangeSpec := { name := "fnUseRecent", fn := fun _ => fun
  | [d] => { results := [.lit (.bool true)], args := [d] }
  | _ => none }
def fnUseRecentRow : OpenClaim := { program := "ytcpfmcepkopfdaa", sum := "12557f35a16f7279c013cd3750f94769e24a1f4ecd9c49862fa32c955d62c153", func := "loop.example/cacheengine/laws.FnUseRecent", spec := "fnUseRecent", apart := false }
def FnUseRecentSaid : Prop := fnUseRecentRow.holds Try.pinned (OpenSpec.ofChange fnUseRecentSpec)

/-- ITS FALSE NEIGHBOUR: 'it returns false'. Refute it at one input. -/
def fnUseRecentWrong : ChangeSpec := { name := "fnUseRecent", fn := fun _ => fun
  | [d] => { results := [.lit (.bool false)], args := [d] }
  | _ => none }
def FnUseRecentWrongFalsely : Prop := fnUseRecentRow.holds Try.pinned (OpenSpec.ofChange fnUseRecentWrong)

/-- 'laws.FnUseRecentTwice': WHATEVER THE INPUT: true; the input reads as it did. -/
def fnUseRecentTwiceSpec : ChangeSpec := { name := "fnUseRecentTwice", fn := fun _ => fun
  | [d] => { results := [.lit (.bool true)], args := [d] }
  | _ => none }
def fnUseRecentTwiceRow : OpenClaim := { program := "ytcpfmcepkopfdaa", sum := "12557f35a16f7279c013cd3750f94769e24a1f4ecd9c49862fa32c955d62c153", func := "loop.example/cacheengine/laws.FnUseRecentTwice", spec := "fnUseRecentTwice", apart := false }
def FnUseRecentTwiceSaid : Prop := fnUseRecentTwiceRow.holds Try.pinned (OpenSpec.ofChange fnUseRecentTwiceSpec)

/-- ITS FALSE NEIGHBOUR: 'it returns false'. Refute it at one input. -/
def fnUseRecentTwiceWrong : ChangeSpec := { name := "fnUseRecentTwice", fn := fun _ => fun
  | [d] => { results := [.lit (.bool false)], args := [d] }
  | _ => none }
def FnUseRecentTwiceWrongFalsely : Prop := fnUseRecentTwiceRow.holds Try.pinned (OpenSpec.ofChange fnUseRecentTwiceWrong)

/-- 'laws.FnRunRecent': WHATEVER THE INPUT: true; the input reads as it did. -/
def fnRunRecentSpec : ChangeSpec := { name := "fnRunRecent", fn := fun _ => fun
  | [d] => { results := [.lit (.bool true)], args := [d] }
  | _ => none }
def fnRunRecentRow : OpenClaim := { program := "ytcpfmcepkopfdaa", sum := "12557f35a16f7279c013cd3750f94769e24a1f4ecd9c49862fa32c955d62c153", func := "loop.example/cacheengine/laws.FnRunRecent", spec := "fnRunRecent", unfollowed := true, recurses := true, apart := false }
def FnRunRecentSaid : Prop := fnRunRecentRow.holds Try.pinned (OpenSpec.ofChange fnRunRecentSpec)

/-- ITS FALSE NEIGHBOUR: 'it returns false'. Refute it at one input. -/
def fnRunRecentWrong : ChangeSpec := { name := "fnRunRecent", fn := fun _ => fun
  | [d] => { results := [.lit (.bool false)], args := [d] }
  | _ => none }
def FnRunRecentWrongFalsely : Prop := fnRunRecentRow.holds Try.pinned (OpenSpec.ofChange fnRunRecentWrong)

/-- 'laws.FnRunRecentStep': WHATEVER THE INPUT: true; the input reads as it did. -/
def fnRunRecentStepSpec : ChangeSpec := { name := "fnRunRecentStep", fn := fun _ => fun
  | [d] => { results := [.lit (.bool true)], args := [d] }
  | _ => none }
def fnRunRecentStepRow : OpenClaim := { program := "ytcpfmcepkopfdaa", sum := "12557f35a16f7279c013cd3750f94769e24a1f4ecd9c49862fa32c955d62c153", func := "loop.example/cacheengine/laws.FnRunRecentStep", spec := "fnRunRecentStep", unfollowed := true, recurses := true, apart := false }
def FnRunRecentStepSaid : Prop := fnRunRecentStepRow.holds Try.pinned (OpenSpec.ofChange fnRunRecentStepSpec)

/-- ITS FALSE NEIGHBOUR: 'it returns false'. Refute it at one input. -/
def fnRunRecentStepWrong : ChangeSpec := { name := "fnRunRecentStep", fn := fun _ => fun
  | [d] => { results := [.lit (.bool false)], args := [d] }
  | _ => none }
def FnRunRecentStepWrongFalsely : Prop := fnRunRecentStepRow.holds Try.pinned (OpenSpec.ofChange fnRunRecentStepWrong)

/-- 'laws.FnRunRecentMore': WHATEVER THE INPUT: true; the input reads as it did. -/
def fnRunRecentMoreSpec : ChangeSpec := { name := "fnRunRecentMore", fn := fun _ => fun
  | [d] => { results := [.lit (.bool true)], args := [d] }
  | _ => none }
def fnRunRecentMoreRow : OpenClaim := { program := "ytcpfmcepkopfdaa", sum := "12557f35a16f7279c013cd3750f94769e24a1f4ecd9c49862fa32c955d62c153", func := "loop.example/cacheengine/laws.FnRunRecentMore", spec := "fnRunRecentMore", unfollowed := true, recurses := true, apart := false }
def FnRunRecentMoreSaid : Prop := fnRunRecentMoreRow.holds Try.pinned (OpenSpec.ofChange fnRunRecentMoreSpec)

/-- ITS FALSE NEIGHBOUR: 'it returns false'. Refute it at one input. -/
def fnRunRecentMoreWrong : ChangeSpec := { name := "fnRunRecentMore", fn := fun _ => fun
  | [d] => { results := [.lit (.bool false)], args := [d] }
  | _ => none }
def FnRunRecentMoreWrongFalsely : Prop := fnRunRecentMoreRow.holds Try.pinned (OpenSpec.ofChange fnRunRecentMoreWrong)

/-- 'laws.FnUseFirst': WHATEVER THE INPUT: true; the input reads as it did. -/
def fnUseFirstSpec : ChangeSpec := { name := "fnUseFirst", fn := fun _ => fun
  | [d] => { results := [.lit (.bool true)], args := [d] }
  | _ => none }
def fnUseFirstRow : OpenClaim := { program := "ytcpfmcepkopfdaa", sum := "12557f35a16f7279c013cd3750f94769e24a1f4ecd9c49862fa32c955d62c153", func := "loop.example/cacheengine/laws.FnUseFirst", spec := "fnUseFirst", apart := false }
def FnUseFirstSaid : Prop := fnUseFirstRow.holds Try.pinned (OpenSpec.ofChange fnUseFirstSpec)

/-- ITS FALSE NEIGHBOUR: 'it returns false'. Refute it at one input. -/
def fnUseFirstWrong : ChangeSpec := { name := "fnUseFirst", fn := fun _ => fun
  | [d] => { results := [.lit (.bool false)], args := [d] }
  | _ => none }
def FnUseFirstWrongFalsely : Prop := fnUseFirstRow.holds Try.pinned (OpenSpec.ofChange fnUseFirstWrong)

/-- 'laws.FnUseFirstTwice': WHATEVER THE INPUT: true; the input reads as it did. -/
def fnUseFirstTwiceSpec : ChangeSpec := { name := "fnUseFirstTwice", fn := fun _ => fun
  | [d] => { results := [.lit (.bool true)], args := [d] }
  | _ => none }
def fnUseFirstTwiceRow : OpenClaim := { program := "ytcpfmcepkopfdaa", sum := "12557f35a16f7279c013cd3750f94769e24a1f4ecd9c49862fa32c955d62c153", func := "loop.example/cacheengine/laws.FnUseFirstTwice", spec := "fnUseFirstTwice", apart := false }
def FnUseFirstTwiceSaid : Prop := fnUseFirstTwiceRow.holds Try.pinned (OpenSpec.ofChange fnUseFirstTwiceSpec)

/-- ITS FALSE NEIGHBOUR: 'it returns false'. Refute it at one input. -/
def fnUseFirstTwiceWrong : ChangeSpec := { name := "fnUseFirstTwice", fn := fun _ => fun
  | [d] => { results := [.lit (.bool false)], args := [d] }
  | _ => none }
def FnUseFirstTwiceWrongFalsely : Prop := fnUseFirstTwiceRow.holds Try.pinned (OpenSpec.ofChange fnUseFirstTwiceWrong)

/-- 'laws.FnRunFirst': WHATEVER THE INPUT: true; the input reads as it did. -/
def fnRunFirstSpec : ChangeSpec := { name := "fnRunFirst", fn := fun _ => fun
  | [d] => { results := [.lit (.bool true)], args := [d] }
  | _ => none }
def fnRunFirstRow : OpenClaim := { program := "ytcpfmcepkopfdaa", sum := "12557f35a16f7279c013cd3750f94769e24a1f4ecd9c49862fa32c955d62c153", func := "loop.example/cacheengine/laws.FnRunFirst", spec := "fnRunFirst", unfollowed := true, recurses := true, apart := false }
def FnRunFirstSaid : Prop := fnRunFirstRow.holds Try.pinned (OpenSpec.ofChange fnRunFirstSpec)

/-- ITS FALSE NEIGHBOUR: 'it returns false'. Refute it at one input. -/
def fnRunFirstWrong : ChangeSpec := { name := "fnRunFirst", fn := fun _ => fun
  | [d] => { results := [.lit (.bool false)], args := [d] }
  | _ => none }
def FnRunFirstWrongFalsely : Prop := fnRunFirstRow.holds Try.pinned (OpenSpec.ofChange fnRunFirstWrong)

/-- 'laws.FnUseRecentHit': WHATEVER THE INPUT: true; the input reads as it did. -/
def fnUseRecentHitSpec : ChangeSpec := { name := "fnUseRecentHit", fn := fun _ => fun
  | [d] => { results := [.lit (.bool true)], args := [d] }
  | _ => none }
def fnUseRecentHitRow : OpenClaim := { program := "ytcpfmcepkopfdaa", sum := "12557f35a16f7279c013cd3750f94769e24a1f4ecd9c49862fa32c955d62c153", func := "loop.example/cacheengine/laws.FnUseRecentHit", spec := "fnUseRecentHit", apart := false }
def FnUseRecentHitSaid : Prop := fnUseRecentHitRow.holds Try.pinned (OpenSpec.ofChange fnUseRecentHitSpec)

/-- ITS FALSE NEIGHBOUR: 'it returns false'. Refute it at one input. -/
def fnUseRecentHitWrong : ChangeSpec := { name := "fnUseRecentHit", fn := fun _ => fun
  | [d] => { results := [.lit (.bool false)], args := [d] }
  | _ => none }
def FnUseRecentHitWrongFalsely : Prop := fnUseRecentHitRow.holds Try.pinned (OpenSpec.ofChange fnUseRecentHitWrong)

/-- 'laws.FnUseRecentRoom': WHATEVER THE INPUT: true; the input reads as it did. -/
def fnUseRecentRoomSpec : ChangeSpec := { name := "fnUseRecentRoom", fn := fun _ => fun
  | [d] => { results := [.lit (.bool true)], args := [d] }
  | _ => none }
def fnUseRecentRoomRow : OpenClaim := { program := "ytcpfmcepkopfdaa", sum := "12557f35a16f7279c013cd3750f94769e24a1f4ecd9c49862fa32c955d62c153", func := "loop.example/cacheengine/laws.FnUseRecentRoom", spec := "fnUseRecentRoom", apart := false }
def FnUseRecentRoomSaid : Prop := fnUseRecentRoomRow.holds Try.pinned (OpenSpec.ofChange fnUseRecentRoomSpec)

/-- ITS FALSE NEIGHBOUR: 'it returns false'. Refute it at one input. -/
def fnUseRecentRoomWrong : ChangeSpec := { name := "fnUseRecentRoom", fn := fun _ => fun
  | [d] => { results := [.lit (.bool false)], args := [d] }
  | _ => none }
def FnUseRecentRoomWrongFalsely : Prop := fnUseRecentRoomRow.holds Try.pinned (OpenSpec.ofChange fnUseRecentRoomWrong)

/-- 'laws.FnUseFirstHit': WHATEVER THE INPUT: true; the input reads as it did. -/
def fnUseFirstHitSpec : ChangeSpec := { name := "fnUseFirstHit", fn := fun _ => fun
  | [d] => { results := [.lit (.bool true)], args := [d] }
  | _ => none }
def fnUseFirstHitRow : OpenClaim := { program := "ytcpfmcepkopfdaa", sum := "12557f35a16f7279c013cd3750f94769e24a1f4ecd9c49862fa32c955d62c153", func := "loop.example/cacheengine/laws.FnUseFirstHit", spec := "fnUseFirstHit", apart := false }
def FnUseFirstHitSaid : Prop := fnUseFirstHitRow.holds Try.pinned (OpenSpec.ofChange fnUseFirstHitSpec)

/-- ITS FALSE NEIGHBOUR: 'it returns false'. Refute it at one input. -/
def fnUseFirstHitWrong : ChangeSpec := { name := "fnUseFirstHit", fn := fun _ => fun
  | [d] => { results := [.lit (.bool false)], args := [d] }
  | _ => none }
def FnUseFirstHitWrongFalsely : Prop := fnUseFirstHitRow.holds Try.pinned (OpenSpec.ofChange fnUseFirstHitWrong)

/- THE SECOND FORM. 'bulk': how many values and letters a reading holds, each counted each time it is reached (what is shared counts as often as it is met; a slice's spare places count too). A statement '..UptoSaid' is the law's where the arguments, and the package variables that the reading takes, are together of bulk at most 1048576: NARROWER than '..Said'. Prove '..Said' where nothing that the law and all that it calls make is longer than what came in: it says more and counts as full. Else prove '..UptoSaid'. A law counts once. -/
mutual
def uptoBulk {H : Type} : DataW H → Nat
  | .lit (.string bytes) => bytes.length + 1
  | .lit _ => 1
  | .nil => 1
  | .ptr d => uptoBulk d + 1
  | .slice elems spare => uptoBulkAll elems + uptoBulkAll spare + 1
  | .agg parts => uptoBulkAll parts + 1
  | .iface _ d => uptoBulk d + 1
  | .map entries => uptoBulkEntries entries + 1
  | .held _ => 1
def uptoBulkAll {H : Type} : List (DataW H) → Nat
  | [] => 0
  | d :: r => uptoBulk d + uptoBulkAll r
def uptoBulkEntries {H : Type} : List (Lit × DataW H) → Nat
  | [] => 0
  | x :: r => uptoBulkEntry x + uptoBulkEntries r
def uptoBulkEntry {H : Type} : Lit × DataW H → Nat
  | (.string bytes, d) => bytes.length + uptoBulk d + 1
  | (_, d) => uptoBulk d + 1
 end
def uptoSmall : (H : Type) → List (DataW H) → Bool := fun _ ds => decide (uptoBulkAll ds ≤ 1048576)
def OpenSpec.upto (s : _root_.Go.ChangeSpec) : _root_.Go.OpenSpec := { _root_.Go.OpenSpec.ofChange s with cond := some uptoSmall }

/-- 'laws.FnValidKeys', WHERE WHAT IT READS IS OF BULK AT MOST 1048576: true; the input reads as it did. -/
def fnValidKeysUptoRow : OpenClaim := { program := "ytcpfmcepkopfdaa", sum := "12557f35a16f7279c013cd3750f94769e24a1f4ecd9c49862fa32c955d62c153", func := "loop.example/cacheengine/laws.FnValidKeys", spec := "fnValidKeys", apart := false, narrowed := true }
def FnValidKeysUptoSaid : Prop := fnValidKeysUptoRow.holds Try.pinned (OpenSpec.upto fnValidKeysSpec)

/-- 'laws.FnUseRecent', WHERE WHAT IT READS IS OF BULK AT MOST 1048576: true; the input reads as it did. -/
def fnUseRecentUptoRow : OpenClaim := { program := "ytcpfmcepkopfdaa", sum := "12557f35a16f7279c013cd3750f94769e24a1f4ecd9c49862fa32c955d62c153", func := "loop.example/cacheengine/laws.FnUseRecent", spec := "fnUseRecent", apart := false, narrowed := true }
def FnUseRecentUptoSaid : Prop := fnUseRecentUptoRow.holds Try.pinned (OpenSpec.upto fnUseRecentSpec)

/-- 'laws.FnUseRecentTwice', WHERE WHAT IT READS IS OF BULK AT MOST 1048576: true; the input reads as it did. -/
def fnUseRecentTwiceUptoRow : OpenClaim := { program := "ytcpfmcepkopfdaa", sum := "12557f35a16f7279c013cd3750f94769e24a1f4ecd9c49862fa32c955d62c153", func := "loop.example/cacheengine/laws.FnUseRecentTwice", spec := "fnUseRecentTwice", apart := false, narrowed := true }
def FnUseRecentTwiceUptoSaid : Prop := fnUseRecentTwiceUptoRow.holds Try.pinned (OpenSpec.upto fnUseRecentTwiceSpec)

/-- 'laws.FnRunRecent', WHERE WHAT IT READS IS OF BULK AT MOST 1048576: true; the input reads as it did. -/
def fnRunRecentUptoRow : OpenClaim := { program := "ytcpfmcepkopfdaa", sum := "12557f35a16f7279c013cd3750f94769e24a1f4ecd9c49862fa32c955d62c153", func := "loop.example/cacheengine/laws.FnRunRecent", spec := "fnRunRecent", unfollowed := true, recurses := true, apart := false, narrowed := true }
def FnRunRecentUptoSaid : Prop := fnRunRecentUptoRow.holds Try.pinned (OpenSpec.upto fnRunRecentSpec)

/-- 'laws.FnRunRecentStep', WHERE WHAT IT READS IS OF BULK AT MOST 1048576: true; the input reads as it did. -/
def fnRunRecentStepUptoRow : OpenClaim := { program := "ytcpfmcepkopfdaa", sum := "12557f35a16f7279c013cd3750f94769e24a1f4ecd9c49862fa32c955d62c153", func := "loop.example/cacheengine/laws.FnRunRecentStep", spec := "fnRunRecentStep", unfollowed := true, recurses := true, apart := false, narrowed := true }
def FnRunRecentStepUptoSaid : Prop := fnRunRecentStepUptoRow.holds Try.pinned (OpenSpec.upto fnRunRecentStepSpec)

/-- 'laws.FnRunRecentMore', WHERE WHAT IT READS IS OF BULK AT MOST 1048576: true; the input reads as it did. -/
def fnRunRecentMoreUptoRow : OpenClaim := { program := "ytcpfmcepkopfdaa", sum := "12557f35a16f7279c013cd3750f94769e24a1f4ecd9c49862fa32c955d62c153", func := "loop.example/cacheengine/laws.FnRunRecentMore", spec := "fnRunRecentMore", unfollowed := true, recurses := true, apart := false, narrowed := true }
def FnRunRecentMoreUptoSaid : Prop := fnRunRecentMoreUptoRow.holds Try.pinned (OpenSpec.upto fnRunRecentMoreSpec)

/-- 'laws.FnUseFirst', WHERE WHAT IT READS IS OF BULK AT MOST 1048576: true; the input reads as it did. -/
def fnUseFirstUptoRow : OpenClaim := { program := "ytcpfmcepkopfdaa", sum := "12557f35a16f7279c013cd3750f94769e24a1f4ecd9c49862fa32c955d62c153", func := "loop.example/cacheengine/laws.FnUseFirst", spec := "fnUseFirst", apart := false, narrowed := true }
def FnUseFirstUptoSaid : Prop := fnUseFirstUptoRow.holds Try.pinned (OpenSpec.upto fnUseFirstSpec)

/-- 'laws.FnUseFirstTwice', WHERE WHAT IT READS IS OF BULK AT MOST 1048576: true; the input reads as it did. -/
def fnUseFirstTwiceUptoRow : OpenClaim := { program := "ytcpfmcepkopfdaa", sum := "12557f35a16f7279c013cd3750f94769e24a1f4ecd9c49862fa32c955d62c153", func := "loop.example/cacheengine/laws.FnUseFirstTwice", spec := "fnUseFirstTwice", apart := false, narrowed := true }
def FnUseFirstTwiceUptoSaid : Prop := fnUseFirstTwiceUptoRow.holds Try.pinned (OpenSpec.upto fnUseFirstTwiceSpec)

/-- 'laws.FnRunFirst', WHERE WHAT IT READS IS OF BULK AT MOST 1048576: true; the input reads as it did. -/
def fnRunFirstUptoRow : OpenClaim := { program := "ytcpfmcepkopfdaa", sum := "12557f35a16f7279c013cd3750f94769e24a1f4ecd9c49862fa32c955d62c153", func := "loop.example/cacheengine/laws.FnRunFirst", spec := "fnRunFirst", unfollowed := true, recurses := true, apart := false, narrowed := true }
def FnRunFirstUptoSaid : Prop := fnRunFirstUptoRow.holds Try.pinned (OpenSpec.upto fnRunFirstSpec)

/-- 'laws.FnUseRecentHit', WHERE WHAT IT READS IS OF BULK AT MOST 1048576: true; the input reads as it did. -/
def fnUseRecentHitUptoRow : OpenClaim := { program := "ytcpfmcepkopfdaa", sum := "12557f35a16f7279c013cd3750f94769e24a1f4ecd9c49862fa32c955d62c153", func := "loop.example/cacheengine/laws.FnUseRecentHit", spec := "fnUseRecentHit", apart := false, narrowed := true }
def FnUseRecentHitUptoSaid : Prop := fnUseRecentHitUptoRow.holds Try.pinned (OpenSpec.upto fnUseRecentHitSpec)

/-- 'laws.FnUseRecentRoom', WHERE WHAT IT READS IS OF BULK AT MOST 1048576: true; the input reads as it did. -/
def fnUseRecentRoomUptoRow : OpenClaim := { program := "ytcpfmcepkopfdaa", sum := "12557f35a16f7279c013cd3750f94769e24a1f4ecd9c49862fa32c955d62c153", func := "loop.example/cacheengine/laws.FnUseRecentRoom", spec := "fnUseRecentRoom", apart := false, narrowed := true }
def FnUseRecentRoomUptoSaid : Prop := fnUseRecentRoomUptoRow.holds Try.pinned (OpenSpec.upto fnUseRecentRoomSpec)

/-- 'laws.FnUseFirstHit', WHERE WHAT IT READS IS OF BULK AT MOST 1048576: true; the input reads as it did. -/
def fnUseFirstHitUptoRow : OpenClaim := { program := "ytcpfmcepkopfdaa", sum := "12557f35a16f7279c013cd3750f94769e24a1f4ecd9c49862fa32c955d62c153", func := "loop.example/cacheengine/laws.FnUseFirstHit", spec := "fnUseFirstHit", apart := false, narrowed := true }
def FnUseFirstHitUptoSaid : Prop := fnUseFirstHitUptoRow.holds Try.pinned (OpenSpec.upto fnUseFirstHitSpec)

end Rows
end Go.Proofs.Ytcpfmcepkopfdaa
