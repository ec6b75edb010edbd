/-
  No cell of these rows narrows 'for every input' (looked for: loops, veiled, ifaces, maps, wideKeys, modest, calm, conditions, laid).
  DERIVED. THE GIVEN ROWS OF THIS SEAT. 10 by the template 'for every input the law returns true; each argument reads behind the call as it read before'; 0 by the template 'total and deterministic' (their statements: YtaajnkggomlppadTotals.lean).
  GIVEN WITH THE SEED: the statements are not yours to turn. If you find one false, say at which input.
  Laid BY PROGRAM, IN A SANDBOX (cutbox-rows.mjs): the forced cells as the released guide's own fill.sh prints them over the translation 8745620051051f13… (all of the seat's roots in one cut). By AI agents, Wed Nov 11 2026. No macro, syntax, notation, axiom, sorry.
-/
import Derived.Test.YtaajnkggomlppadChecked
import GoSem.Claim
import GoSem.ClaimJoined
import GoSem.ClaimMapViews
import Derived.JoinedTies
import Derived.KernelRfl
namespace Go.Proofs.Ytaajnkggomlppad
/- THE CELL 'sum', in the pinned program and in every row, IS THE sha256 OF THE DUMP (.gsa) THAT YtaajnkggomlppadProg.lean LOADS. Nothing in Lean hashes anything: it is a label: what it is worth is what the hold of that sum in a sandbox is worth. -/
noncomputable def Try.pinned : Pinned := { name := "ytaajnkggomlppad", sum := "8745620051051f1332d42792f4becda6f80726646c5959a403c0aa2ac4c6ceac", checked := Try.checked }
namespace Rows
def none {H : Type} : Left H := { results := [], args := [] }

/-- 'laws.FnUseLists': WHATEVER THE INPUT: true; the input reads as it did. -/
def fnUseListsSpec : ChangeSpec := { name := "fnUseLists", fn := fun _ => fun
  | [d] => { results := [.lit (.bool true)], args := [d] }
  | _ => none }
def fnUseListsRow : OpenClaim := { program := "ytaajnkggomlppad", sum := "8745620051051f1332d42792f4becda6f80726646c5959a403c0aa2ac4c6ceac", func := "loop.example/cacheengine/laws.FnUseLists", spec := "fnUseLists", apart := false }
def FnUseListsSaid : Prop := fnUseListsRow.holds Try.pinned (OpenSpec.ofChange fnUseListsSpec)

/-- ITS FALSE NEIGHBOUR: 'it returns false'. Refute it at one input. -/
def fnUseListsWrong : ChangeSpec := { name := "fnUseLists", fn := fun _ => fun
  | [d] => { results := [.lit (.bool false)], args := [d] }
  | _ => none }
def FnUseListsWrongFalsely : Prop := fnUseListsRow.holds Try.pinned (OpenSpec.ofChange fnUseListsWrong)

/-- 'laws.FnUseListsTarget': WHATEVER THE INPUT: true; the input reads as it did. -/
def fnUseListsTargetSpec : ChangeSpec := { name := "fnUseListsTarget", fn := fun _ => fun
  | [d] => { results := [.lit (.bool true)], args := [d] }
  | _ => none }
def fnUseListsTargetRow : OpenClaim := { program := "ytaajnkggomlppad", sum := "8745620051051f1332d42792f4becda6f80726646c5959a403c0aa2ac4c6ceac", func := "loop.example/cacheengine/laws.FnUseListsTarget", spec := "fnUseListsTarget", apart := false }
def FnUseListsTargetSaid : Prop := fnUseListsTargetRow.holds Try.pinned (OpenSpec.ofChange fnUseListsTargetSpec)

/-- ITS FALSE NEIGHBOUR: 'it returns false'. Refute it at one input. -/
def fnUseListsTargetWrong : ChangeSpec := { name := "fnUseListsTarget", fn := fun _ => fun
  | [d] => { results := [.lit (.bool false)], args := [d] }
  | _ => none }
def FnUseListsTargetWrongFalsely : Prop := fnUseListsTargetRow.holds Try.pinned (OpenSpec.ofChange fnUseListsTargetWrong)

/-- 'laws.FnUseListsCache': WHATEVER THE INPUT: true; the input reads as it did. -/
def fnUseListsCacheSpec : ChangeSpec := { name := "fnUseListsCache", fn := fun _ => fun
  | [d] => { results := [.lit (.bool true)], args := [d] }
  | _ => none }
def fnUseListsCacheRow : OpenClaim := { program := "ytaajnkggomlppad", sum := "8745620051051f1332d42792f4becda6f80726646c5959a403c0aa2ac4c6ceac", func := "loop.example/cacheengine/laws.FnUseListsCache", spec := "fnUseListsCache", apart := false }
def FnUseListsCacheSaid : Prop := fnUseListsCacheRow.holds Try.pinned (OpenSpec.ofChange fnUseListsCacheSpec)

/-- ITS FALSE NEIGHBOUR: 'it returns false'. Refute it at one input. -/
def fnUseListsCacheWrong : ChangeSpec := { name := "fnUseListsCache", fn := fun _ => fun
  | [d] => { results := [.lit (.bool false)], args := [d] }
  | _ => none }
def FnUseListsCacheWrongFalsely : Prop := fnUseListsCacheRow.holds Try.pinned (OpenSpec.ofChange fnUseListsCacheWrong)

/-- 'laws.FnRunLists': WHATEVER THE INPUT: true; the input reads as it did. -/
def fnRunListsSpec : ChangeSpec := { name := "fnRunLists", fn := fun _ => fun
  | [d] => { results := [.lit (.bool true)], args := [d] }
  | _ => none }
def fnRunListsRow : OpenClaim := { program := "ytaajnkggomlppad", sum := "8745620051051f1332d42792f4becda6f80726646c5959a403c0aa2ac4c6ceac", func := "loop.example/cacheengine/laws.FnRunLists", spec := "fnRunLists", unfollowed := true, recurses := true, apart := false }
def FnRunListsSaid : Prop := fnRunListsRow.holds Try.pinned (OpenSpec.ofChange fnRunListsSpec)

/-- ITS FALSE NEIGHBOUR: 'it returns false'. Refute it at one input. -/
def fnRunListsWrong : ChangeSpec := { name := "fnRunLists", fn := fun _ => fun
  | [d] => { results := [.lit (.bool false)], args := [d] }
  | _ => none }
def FnRunListsWrongFalsely : Prop := fnRunListsRow.holds Try.pinned (OpenSpec.ofChange fnRunListsWrong)

/-- 'laws.FnRunListsSmall': WHATEVER THE INPUT: true; the input reads as it did. -/
def fnRunListsSmallSpec : ChangeSpec := { name := "fnRunListsSmall", fn := fun _ => fun
  | [d] => { results := [.lit (.bool true)], args := [d] }
  | _ => none }
def fnRunListsSmallRow : OpenClaim := { program := "ytaajnkggomlppad", sum := "8745620051051f1332d42792f4becda6f80726646c5959a403c0aa2ac4c6ceac", func := "loop.example/cacheengine/laws.FnRunListsSmall", spec := "fnRunListsSmall", unfollowed := true, recurses := true, apart := false }
def FnRunListsSmallSaid : Prop := fnRunListsSmallRow.holds Try.pinned (OpenSpec.ofChange fnRunListsSmallSpec)

/-- ITS FALSE NEIGHBOUR: 'it returns false'. Refute it at one input. -/
def fnRunListsSmallWrong : ChangeSpec := { name := "fnRunListsSmall", fn := fun _ => fun
  | [d] => { results := [.lit (.bool false)], args := [d] }
  | _ => none }
def FnRunListsSmallWrongFalsely : Prop := fnRunListsSmallRow.holds Try.pinned (OpenSpec.ofChange fnRunListsSmallWrong)

/-- 'laws.FnUseListsTwice': WHATEVER THE INPUT: true; the input reads as it did. -/
def fnUseListsTwiceSpec : ChangeSpec := { name := "fnUseListsTwice", fn := fun _ => fun
  | [d] => { results := [.lit (.bool true)], args := [d] }
  | _ => none }
def fnUseListsTwiceRow : OpenClaim := { program := "ytaajnkggomlppad", sum := "8745620051051f1332d42792f4becda6f80726646c5959a403c0aa2ac4c6ceac", func := "loop.example/cacheengine/laws.FnUseListsTwice", spec := "fnUseListsTwice", apart := false }
def FnUseListsTwiceSaid : Prop := fnUseListsTwiceRow.holds Try.pinned (OpenSpec.ofChange fnUseListsTwiceSpec)

/-- ITS FALSE NEIGHBOUR: 'it returns false'. Refute it at one input. -/
def fnUseListsTwiceWrong : ChangeSpec := { name := "fnUseListsTwice", fn := fun _ => fun
  | [d] => { results := [.lit (.bool false)], args := [d] }
  | _ => none }
def FnUseListsTwiceWrongFalsely : Prop := fnUseListsTwiceRow.holds Try.pinned (OpenSpec.ofChange fnUseListsTwiceWrong)

/-- 'laws.FnUseListsGhost': WHATEVER THE INPUT: true; the input reads as it did. -/
def fnUseListsGhostSpec : ChangeSpec := { name := "fnUseListsGhost", fn := fun _ => fun
  | [d] => { results := [.lit (.bool true)], args := [d] }
  | _ => none }
def fnUseListsGhostRow : OpenClaim := { program := "ytaajnkggomlppad", sum := "8745620051051f1332d42792f4becda6f80726646c5959a403c0aa2ac4c6ceac", func := "loop.example/cacheengine/laws.FnUseListsGhost", spec := "fnUseListsGhost", apart := false }
def FnUseListsGhostSaid : Prop := fnUseListsGhostRow.holds Try.pinned (OpenSpec.ofChange fnUseListsGhostSpec)

/-- ITS FALSE NEIGHBOUR: 'it returns false'. Refute it at one input. -/
def fnUseListsGhostWrong : ChangeSpec := { name := "fnUseListsGhost", fn := fun _ => fun
  | [d] => { results := [.lit (.bool false)], args := [d] }
  | _ => none }
def FnUseListsGhostWrongFalsely : Prop := fnUseListsGhostRow.holds Try.pinned (OpenSpec.ofChange fnUseListsGhostWrong)

/-- 'laws.FnRunListsBound': WHATEVER THE INPUT: true; the input reads as it did. -/
def fnRunListsBoundSpec : ChangeSpec := { name := "fnRunListsBound", fn := fun _ => fun
  | [d] => { results := [.lit (.bool true)], args := [d] }
  | _ => none }
def fnRunListsBoundRow : OpenClaim := { program := "ytaajnkggomlppad", sum := "8745620051051f1332d42792f4becda6f80726646c5959a403c0aa2ac4c6ceac", func := "loop.example/cacheengine/laws.FnRunListsBound", spec := "fnRunListsBound", unfollowed := true, recurses := true, apart := false }
def FnRunListsBoundSaid : Prop := fnRunListsBoundRow.holds Try.pinned (OpenSpec.ofChange fnRunListsBoundSpec)

/-- ITS FALSE NEIGHBOUR: 'it returns false'. Refute it at one input. -/
def fnRunListsBoundWrong : ChangeSpec := { name := "fnRunListsBound", fn := fun _ => fun
  | [d] => { results := [.lit (.bool false)], args := [d] }
  | _ => none }
def FnRunListsBoundWrongFalsely : Prop := fnRunListsBoundRow.holds Try.pinned (OpenSpec.ofChange fnRunListsBoundWrong)

/-- 'laws.FnExactUseLists': WHATEVER THE INPUT: true; the input reads as it did. -/
def fnExactUseListsSpec : ChangeSpec := { name := "fnExactUseLists", fn := fun _ => fun
  | [d1, d2] => { results := [.lit (.bool true)], args := [d1, d2] }
  | _ => none }
def fnExactUseListsRow : OpenClaim := { program := "ytaajnkggomlppad", sum := "8745620051051f1332d42792f4becda6f80726646c5959a403c0aa2ac4c6ceac", func := "loop.example/cacheengine/laws.FnExactUseLists", spec := "fnExactUseLists", apart := false }
def FnExactUseListsSaid : Prop := fnExactUseListsRow.holds Try.pinned (OpenSpec.ofChange fnExactUseListsSpec)

/-- ITS FALSE NEIGHBOUR: 'it returns false'. Refute it at one input. -/
def fnExactUseListsWrong : ChangeSpec := { name := "fnExactUseLists", fn := fun _ => fun
  | [d1, d2] => { results := [.lit (.bool false)], args := [d1, d2] }
  | _ => none }
def FnExactUseListsWrongFalsely : Prop := fnExactUseListsRow.holds Try.pinned (OpenSpec.ofChange fnExactUseListsWrong)

/-- 'laws.FnExactRunLists': WHATEVER THE INPUT: true; the input reads as it did. -/
def fnExactRunListsSpec : ChangeSpec := { name := "fnExactRunLists", fn := fun _ => fun
  | [d1, d2] => { results := [.lit (.bool true)], args := [d1, d2] }
  | _ => none }
def fnExactRunListsRow : OpenClaim := { program := "ytaajnkggomlppad", sum := "8745620051051f1332d42792f4becda6f80726646c5959a403c0aa2ac4c6ceac", func := "loop.example/cacheengine/laws.FnExactRunLists", spec := "fnExactRunLists", unfollowed := true, recurses := true, apart := false }
def FnExactRunListsSaid : Prop := fnExactRunListsRow.holds Try.pinned (OpenSpec.ofChange fnExactRunListsSpec)

/-- ITS FALSE NEIGHBOUR: 'it returns false'. Refute it at one input. -/
def fnExactRunListsWrong : ChangeSpec := { name := "fnExactRunLists", fn := fun _ => fun
  | [d1, d2] => { results := [.lit (.bool false)], args := [d1, d2] }
  | _ => none }
def FnExactRunListsWrongFalsely : Prop := fnExactRunListsRow.holds Try.pinned (OpenSpec.ofChange fnExactRunListsWrong)

/- THE SECOND FORM. 'bulk': how many values and letters a reading holds, each counted each time it is reached (what is shared counts as often as it is met; a slice's spare places count too). A statement '..UptoSaid' is the law's where the arguments, and the package variables that the reading takes, are together of bulk at most 1048576: NARROWER than '..Said'. Prove '..Said' where nothing that the law and all that it calls make is longer than what came in: it says more and counts as full. Else prove '..UptoSaid'. A law counts once. -/
mutual
def uptoBulk {H : Type} : DataW H → Nat
  | .lit (.string bytes) => bytes.length + 1
  | .lit _ => 1
  | .nil => 1
  | .ptr d => uptoBulk d + 1
  | .slice elems spare => uptoBulkAll elems + uptoBulkAll spare + 1
  | .agg parts => uptoBulkAll parts + 1
  | .iface _ d => uptoBulk d + 1
  | .map entries => uptoBulkEntries entries + 1
  | .held _ => 1
def uptoBulkAll {H : Type} : List (DataW H) → Nat
  | [] => 0
  | d :: r => uptoBulk d + uptoBulkAll r
def uptoBulkEntries {H : Type} : List (Lit × DataW H) → Nat
  | [] => 0
  | x :: r => uptoBulkEntry x + uptoBulkEntries r
def uptoBulkEntry {H : Type} : Lit × DataW H → Nat
  | (.string bytes, d) => bytes.length + uptoBulk d + 1
  | (_, d) => uptoBulk d + 1
 end
def uptoSmall : (H : Type) → List (DataW H) → Bool := fun _ ds => decide (uptoBulkAll ds ≤ 1048576)
def OpenSpec.upto (s : _root_.Go.ChangeSpec) : _root_.Go.OpenSpec := { _root_.Go.OpenSpec.ofChange s with cond := some uptoSmall }

/-- 'laws.FnUseLists', WHERE WHAT IT READS IS OF BULK AT MOST 1048576: true; the input reads as it did. -/
def fnUseListsUptoRow : OpenClaim := { program := "ytaajnkggomlppad", sum := "8745620051051f1332d42792f4becda6f80726646c5959a403c0aa2ac4c6ceac", func := "loop.example/cacheengine/laws.FnUseLists", spec := "fnUseLists", apart := false, narrowed := true }
def FnUseListsUptoSaid : Prop := fnUseListsUptoRow.holds Try.pinned (OpenSpec.upto fnUseListsSpec)

/-- 'laws.FnUseListsTarget', WHERE WHAT IT READS IS OF BULK AT MOST 1048576: true; the input reads as it did. -/
def fnUseListsTargetUptoRow : OpenClaim := { program := "ytaajnkggomlppad", sum := "8745620051051f1332d42792f4becda6f80726646c5959a403c0aa2ac4c6ceac", func := "loop.example/cacheengine/laws.FnUseListsTarget", spec := "fnUseListsTarget", apart := false, narrowed := true }
def FnUseListsTargetUptoSaid : Prop := fnUseListsTargetUptoRow.holds Try.pinned (OpenSpec.upto fnUseListsTargetSpec)

/-- 'laws.FnUseListsCache', WHERE WHAT IT READS IS OF BULK AT MOST 1048576: true; the input reads as it did. -/
def fnUseListsCacheUptoRow : OpenClaim := { program := "ytaajnkggomlppad", sum := "8745620051051f1332d42792f4becda6f80726646c5959a403c0aa2ac4c6ceac", func := "loop.example/cacheengine/laws.FnUseListsCache", spec := "fnUseListsCache", apart := false, narrowed := true }
def FnUseListsCacheUptoSaid : Prop := fnUseListsCacheUptoRow.holds Try.pinned (OpenSpec.upto fnUseListsCacheSpec)

/-- 'laws.FnRunLists', WHERE WHAT IT READS IS OF BULK AT MOST 1048576: true; the input reads as it did. -/
def fnRunListsUptoRow : OpenClaim := { program := "ytaajnkggomlppad", sum := "8745620051051f1332d42792f4becda6f80726646c5959a403c0aa2ac4c6ceac", func := "loop.example/cacheengine/laws.FnRunLists", spec := "fnRunLists", unfollowed := true, recurses := true, apart := false, narrowed := true }
def FnRunListsUptoSaid : Prop := fnRunListsUptoRow.holds Try.pinned (OpenSpec.upto fnRunListsSpec)

/-- 'laws.FnRunListsSmall', WHERE WHAT IT READS IS OF BULK AT MOST 1048576: true; the input reads as it did. -/
def fnRunListsSmallUptoRow : OpenClaim := { program := "ytaajnkggomlppad", sum := "8745620051051f1332d42792f4becda6f80726646c5959a403c0aa2ac4c6ceac", func := "loop.example/cacheengine/laws.FnRunListsSmall", spec := "fnRunListsSmall", unfollowed := true, recurses := true, apart := false, narrowed := true }
def FnRunListsSmallUptoSaid : Prop := fnRunListsSmallUptoRow.holds Try.pinned (OpenSpec.upto fnRunListsSmallSpec)

/-- 'laws.FnUseListsTwice', WHERE WHAT IT READS IS OF BULK AT MOST 1048576: true; the input reads as it did. -/
def fnUseListsTwiceUptoRow : OpenClaim := { program := "ytaajnkggomlppad", sum := "8745620051051f1332d42792f4becda6f80726646c5959a403c0aa2ac4c6ceac", func := "loop.example/cacheengine/laws.FnUseListsTwice", spec := "fnUseListsTwice", apart := false, narrowed := true }
def FnUseListsTwiceUptoSaid : Prop := fnUseListsTwiceUptoRow.holds Try.pinned (OpenSpec.upto fnUseListsTwiceSpec)

/-- 'laws.FnUseListsGhost', WHERE WHAT IT READS IS OF BULK AT MOST 1048576: true; the input reads as it did. -/
def fnUseListsGhostUptoRow : OpenClaim := { program := "ytaajnkggomlppad", sum := "8745620051051f1332d42792f4becda6f80726646c5959a403c0aa2ac4c6ceac", func := "loop.example/cacheengine/laws.FnUseListsGhost", spec := "fnUseListsGhost", apart := false, narrowed := true }
def FnUseListsGhostUptoSaid : Prop := fnUseListsGhostUptoRow.holds Try.pinned (OpenSpec.upto fnUseListsGhostSpec)

/-- 'laws.FnRunListsBound', WHERE WHAT IT READS IS OF BULK AT MOST 1048576: true; the input reads as it did. -/
def fnRunListsBoundUptoRow : OpenClaim := { program := "ytaajnkggomlppad", sum := "8745620051051f1332d42792f4becda6f80726646c5959a403c0aa2ac4c6ceac", func := "loop.example/cacheengine/laws.FnRunListsBound", spec := "fnRunListsBound", unfollowed := true, recurses := true, apart := false, narrowed := true }
def FnRunListsBoundUptoSaid : Prop := fnRunListsBoundUptoRow.holds Try.pinned (OpenSpec.upto fnRunListsBoundSpec)

/-- 'laws.FnExactUseLists', WHERE WHAT IT READS IS OF BULK AT MOST 1048576: true; the input reads as it did. -/
def fnExactUseListsUptoRow : OpenClaim := { program := "ytaajnkggomlppad", sum := "8745620051051f1332d42792f4becda6f80726646c5959a403c0aa2ac4c6ceac", func := "loop.example/cacheengine/laws.FnExactUseLists", spec := "fnExactUseLists", apart := false, narrowed := true }
def FnExactUseListsUptoSaid : Prop := fnExactUseListsUptoRow.holds Try.pinned (OpenSpec.upto fnExactUseListsSpec)

/-- 'laws.FnExactRunLists', WHERE WHAT IT READS IS OF BULK AT MOST 1048576: true; the input reads as it did. -/
def fnExactRunListsUptoRow : OpenClaim := { program := "ytaajnkggomlppad", sum := "8745620051051f1332d42792f4becda6f80726646c5959a403c0aa2ac4c6ceac", func := "loop.example/cacheengine/laws.FnExactRunLists", spec := "fnExactRunLists", unfollowed := true, recurses := true, apart := false, narrowed := true }
def FnExactRunListsUptoSaid : Prop := fnExactRunListsUptoRow.holds Try.pinned (OpenSpec.upto fnExactRunListsSpec)

end Rows
end Go.Proofs.Ytaajnkggomlppad
