/-
  No cell of these rows narrows 'for every input' (looked for: loops, veiled, ifaces, maps, wideKeys, modest, calm, conditions, laid).
  DERIVED. THE GIVEN ROWS OF THIS SEAT. 10 by the template 'for every input the law returns true; each argument reads behind the call as it read before'; 0 by the template 'total and deterministic' (their statements: YtaajnkggomlppacTotals.lean).
  GIVEN WITH THE SEED: the statements are not yours to turn. If you find one false, say at which input.
  Laid BY PROGRAM, IN A SANDBOX (cutbox-rows.mjs): the forced cells as the released guide's own fill.sh prints them over the translation 6a2cc043a95a631e… (all of the seat's roots in one cut). By AI agents, Wed Nov 11 2026. No macro, syntax, notation, axiom, sorry.
-/
import Derived.Test.YtaajnkggomlppacChecked
import GoSem.Claim
import GoSem.ClaimJoined
import GoSem.ClaimMapViews
import Derived.JoinedTies
import Derived.KernelRfl
namespace Go.Proofs.Ytaajnkggomlppac
/- THE CELL 'sum', in the pinned program and in every row, IS THE sha256 OF THE DUMP (.gsa) THAT YtaajnkggomlppacProg.lean LOADS. Nothing in Lean hashes anything: it is a label: what it is worth is what the hold of that sum in a sandbox is worth. -/
noncomputable def Try.pinned : Pinned := { name := "ytaajnkggomlppac", sum := "6a2cc043a95a631edd615c7ab3406b7ee093e1f2f641a1be0fb29c2751b0b319", checked := Try.checked }
namespace Rows
def none {H : Type} : Left H := { results := [], args := [] }

/-- 'laws.FnBestFill': WHATEVER THE INPUT: true; the input reads as it did. -/
def fnBestFillSpec : ChangeSpec := { name := "fnBestFill", fn := fun _ => fun
  | [d] => { results := [.lit (.bool true)], args := [d] }
  | _ => none }
def fnBestFillRow : OpenClaim := { program := "ytaajnkggomlppac", sum := "6a2cc043a95a631edd615c7ab3406b7ee093e1f2f641a1be0fb29c2751b0b319", func := "loop.example/cacheengine/laws.FnBestFill", spec := "fnBestFill", unfollowed := true, recurses := true, apart := false }
def FnBestFillSaid : Prop := fnBestFillRow.holds Try.pinned (OpenSpec.ofChange fnBestFillSpec)

/-- ITS FALSE NEIGHBOUR: 'it returns false'. Refute it at one input. -/
def fnBestFillWrong : ChangeSpec := { name := "fnBestFill", fn := fun _ => fun
  | [d] => { results := [.lit (.bool false)], args := [d] }
  | _ => none }
def FnBestFillWrongFalsely : Prop := fnBestFillRow.holds Try.pinned (OpenSpec.ofChange fnBestFillWrong)

/-- 'laws.FnBestFillMost': WHATEVER THE INPUT: true; the input reads as it did. -/
def fnBestFillMostSpec : ChangeSpec := { name := "fnBestFillMost", fn := fun _ => fun
  | [d] => { results := [.lit (.bool true)], args := [d] }
  | _ => none }
def fnBestFillMostRow : OpenClaim := { program := "ytaajnkggomlppac", sum := "6a2cc043a95a631edd615c7ab3406b7ee093e1f2f641a1be0fb29c2751b0b319", func := "loop.example/cacheengine/laws.FnBestFillMost", spec := "fnBestFillMost", unfollowed := true, recurses := true, apart := false }
def FnBestFillMostSaid : Prop := fnBestFillMostRow.holds Try.pinned (OpenSpec.ofChange fnBestFillMostSpec)

/-- ITS FALSE NEIGHBOUR: 'it returns false'. Refute it at one input. -/
def fnBestFillMostWrong : ChangeSpec := { name := "fnBestFillMost", fn := fun _ => fun
  | [d] => { results := [.lit (.bool false)], args := [d] }
  | _ => none }
def FnBestFillMostWrongFalsely : Prop := fnBestFillMostRow.holds Try.pinned (OpenSpec.ofChange fnBestFillMostWrong)

/-- 'laws.FnBestFillAll': WHATEVER THE INPUT: true; the input reads as it did. -/
def fnBestFillAllSpec : ChangeSpec := { name := "fnBestFillAll", fn := fun _ => fun
  | [d] => { results := [.lit (.bool true)], args := [d] }
  | _ => none }
def fnBestFillAllRow : OpenClaim := { program := "ytaajnkggomlppac", sum := "6a2cc043a95a631edd615c7ab3406b7ee093e1f2f641a1be0fb29c2751b0b319", func := "loop.example/cacheengine/laws.FnBestFillAll", spec := "fnBestFillAll", unfollowed := true, recurses := true, apart := false }
def FnBestFillAllSaid : Prop := fnBestFillAllRow.holds Try.pinned (OpenSpec.ofChange fnBestFillAllSpec)

/-- ITS FALSE NEIGHBOUR: 'it returns false'. Refute it at one input. -/
def fnBestFillAllWrong : ChangeSpec := { name := "fnBestFillAll", fn := fun _ => fun
  | [d] => { results := [.lit (.bool false)], args := [d] }
  | _ => none }
def FnBestFillAllWrongFalsely : Prop := fnBestFillAllRow.holds Try.pinned (OpenSpec.ofChange fnBestFillAllWrong)

/-- 'laws.FnBestFillRoom': WHATEVER THE INPUT: true; the input reads as it did. -/
def fnBestFillRoomSpec : ChangeSpec := { name := "fnBestFillRoom", fn := fun _ => fun
  | [d] => { results := [.lit (.bool true)], args := [d] }
  | _ => none }
def fnBestFillRoomRow : OpenClaim := { program := "ytaajnkggomlppac", sum := "6a2cc043a95a631edd615c7ab3406b7ee093e1f2f641a1be0fb29c2751b0b319", func := "loop.example/cacheengine/laws.FnBestFillRoom", spec := "fnBestFillRoom", unfollowed := true, recurses := true, apart := false }
def FnBestFillRoomSaid : Prop := fnBestFillRoomRow.holds Try.pinned (OpenSpec.ofChange fnBestFillRoomSpec)

/-- ITS FALSE NEIGHBOUR: 'it returns false'. Refute it at one input. -/
def fnBestFillRoomWrong : ChangeSpec := { name := "fnBestFillRoom", fn := fun _ => fun
  | [d] => { results := [.lit (.bool false)], args := [d] }
  | _ => none }
def FnBestFillRoomWrongFalsely : Prop := fnBestFillRoomRow.holds Try.pinned (OpenSpec.ofChange fnBestFillRoomWrong)

/-- 'laws.FnExactBestFill': WHATEVER THE INPUT: true; the input reads as it did. -/
def fnExactBestFillSpec : ChangeSpec := { name := "fnExactBestFill", fn := fun _ => fun
  | [d1, d2, d3] => { results := [.lit (.bool true)], args := [d1, d2, d3] }
  | _ => none }
def fnExactBestFillRow : OpenClaim := { program := "ytaajnkggomlppac", sum := "6a2cc043a95a631edd615c7ab3406b7ee093e1f2f641a1be0fb29c2751b0b319", func := "loop.example/cacheengine/laws.FnExactBestFill", spec := "fnExactBestFill", unfollowed := true, recurses := true, apart := false }
def FnExactBestFillSaid : Prop := fnExactBestFillRow.holds Try.pinned (OpenSpec.ofChange fnExactBestFillSpec)

/-- ITS FALSE NEIGHBOUR: 'it returns false'. Refute it at one input. -/
def fnExactBestFillWrong : ChangeSpec := { name := "fnExactBestFill", fn := fun _ => fun
  | [d1, d2, d3] => { results := [.lit (.bool false)], args := [d1, d2, d3] }
  | _ => none }
def FnExactBestFillWrongFalsely : Prop := fnExactBestFillRow.holds Try.pinned (OpenSpec.ofChange fnExactBestFillWrong)

/-- 'laws.FnWorthOf': WHATEVER THE INPUT: true; the input reads as it did. -/
def fnWorthOfSpec : ChangeSpec := { name := "fnWorthOf", fn := fun _ => fun
  | [d] => { results := [.lit (.bool true)], args := [d] }
  | _ => none }
def fnWorthOfRow : OpenClaim := { program := "ytaajnkggomlppac", sum := "6a2cc043a95a631edd615c7ab3406b7ee093e1f2f641a1be0fb29c2751b0b319", func := "loop.example/cacheengine/laws.FnWorthOf", spec := "fnWorthOf", apart := false }
def FnWorthOfSaid : Prop := fnWorthOfRow.holds Try.pinned (OpenSpec.ofChange fnWorthOfSpec)

/-- ITS FALSE NEIGHBOUR: 'it returns false'. Refute it at one input. -/
def fnWorthOfWrong : ChangeSpec := { name := "fnWorthOf", fn := fun _ => fun
  | [d] => { results := [.lit (.bool false)], args := [d] }
  | _ => none }
def FnWorthOfWrongFalsely : Prop := fnWorthOfRow.holds Try.pinned (OpenSpec.ofChange fnWorthOfWrong)

/-- 'laws.FnWorthOfOne': WHATEVER THE INPUT: true; the input reads as it did. -/
def fnWorthOfOneSpec : ChangeSpec := { name := "fnWorthOfOne", fn := fun _ => fun
  | [d] => { results := [.lit (.bool true)], args := [d] }
  | _ => none }
def fnWorthOfOneRow : OpenClaim := { program := "ytaajnkggomlppac", sum := "6a2cc043a95a631edd615c7ab3406b7ee093e1f2f641a1be0fb29c2751b0b319", func := "loop.example/cacheengine/laws.FnWorthOfOne", spec := "fnWorthOfOne", apart := false }
def FnWorthOfOneSaid : Prop := fnWorthOfOneRow.holds Try.pinned (OpenSpec.ofChange fnWorthOfOneSpec)

/-- ITS FALSE NEIGHBOUR: 'it returns false'. Refute it at one input. -/
def fnWorthOfOneWrong : ChangeSpec := { name := "fnWorthOfOne", fn := fun _ => fun
  | [d] => { results := [.lit (.bool false)], args := [d] }
  | _ => none }
def FnWorthOfOneWrongFalsely : Prop := fnWorthOfOneRow.holds Try.pinned (OpenSpec.ofChange fnWorthOfOneWrong)

/-- 'laws.FnExactWorthOf': WHATEVER THE INPUT: true; the input reads as it did. -/
def fnExactWorthOfSpec : ChangeSpec := { name := "fnExactWorthOf", fn := fun _ => fun
  | [d1, d2, d3] => { results := [.lit (.bool true)], args := [d1, d2, d3] }
  | _ => none }
def fnExactWorthOfRow : OpenClaim := { program := "ytaajnkggomlppac", sum := "6a2cc043a95a631edd615c7ab3406b7ee093e1f2f641a1be0fb29c2751b0b319", func := "loop.example/cacheengine/laws.FnExactWorthOf", spec := "fnExactWorthOf", apart := false }
def FnExactWorthOfSaid : Prop := fnExactWorthOfRow.holds Try.pinned (OpenSpec.ofChange fnExactWorthOfSpec)

/-- ITS FALSE NEIGHBOUR: 'it returns false'. Refute it at one input. -/
def fnExactWorthOfWrong : ChangeSpec := { name := "fnExactWorthOf", fn := fun _ => fun
  | [d1, d2, d3] => { results := [.lit (.bool false)], args := [d1, d2, d3] }
  | _ => none }
def FnExactWorthOfWrongFalsely : Prop := fnExactWorthOfRow.holds Try.pinned (OpenSpec.ofChange fnExactWorthOfWrong)

/-- 'laws.FnExactValidTiers': WHATEVER THE INPUT: true; the input reads as it did. -/
def fnExactValidTiersSpec : ChangeSpec := { name := "fnExactValidTiers", fn := fun _ => fun
  | [d] => { results := [.lit (.bool true)], args := [d] }
  | _ => none }
def fnExactValidTiersRow : OpenClaim := { program := "ytaajnkggomlppac", sum := "6a2cc043a95a631edd615c7ab3406b7ee093e1f2f641a1be0fb29c2751b0b319", func := "loop.example/cacheengine/laws.FnExactValidTiers", spec := "fnExactValidTiers", apart := false }
def FnExactValidTiersSaid : Prop := fnExactValidTiersRow.holds Try.pinned (OpenSpec.ofChange fnExactValidTiersSpec)

/-- ITS FALSE NEIGHBOUR: 'it returns false'. Refute it at one input. -/
def fnExactValidTiersWrong : ChangeSpec := { name := "fnExactValidTiers", fn := fun _ => fun
  | [d] => { results := [.lit (.bool false)], args := [d] }
  | _ => none }
def FnExactValidTiersWrongFalsely : Prop := fnExactValidTiersRow.holds Try.pinned (OpenSpec.ofChange fnExactValidTiersWrong)

/-- 'laws.FnExactAllKeys': WHATEVER THE INPUT: true; the input reads as it did. -/
def fnExactAllKeysSpec : ChangeSpec := { name := "fnExactAllKeys", fn := fun _ => fun
  | [d] => { results := [.lit (.bool true)], args := [d] }
  | _ => none }
def fnExactAllKeysRow : OpenClaim := { program := "ytaajnkggomlppac", sum := "6a2cc043a95a631edd615c7ab3406b7ee093e1f2f641a1be0fb29c2751b0b319", func := "loop.example/cacheengine/laws.FnExactAllKeys", spec := "fnExactAllKeys", apart := false }
def FnExactAllKeysSaid : Prop := fnExactAllKeysRow.holds Try.pinned (OpenSpec.ofChange fnExactAllKeysSpec)

/-- ITS FALSE NEIGHBOUR: 'it returns false'. Refute it at one input. -/
def fnExactAllKeysWrong : ChangeSpec := { name := "fnExactAllKeys", fn := fun _ => fun
  | [d] => { results := [.lit (.bool false)], args := [d] }
  | _ => none }
def FnExactAllKeysWrongFalsely : Prop := fnExactAllKeysRow.holds Try.pinned (OpenSpec.ofChange fnExactAllKeysWrong)

/- THE SECOND FORM. 'bulk': how many values and letters a reading holds, each counted each time it is reached (what is shared counts as often as it is met; a slice's spare places count too). A statement '..UptoSaid' is the law's where the arguments, and the package variables that the reading takes, are together of bulk at most 1048576: NARROWER than '..Said'. Prove '..Said' where nothing that the law and all that it calls make is longer than what came in: it says more and counts as full. Else prove '..UptoSaid'. A law counts once. -/
mutual
def uptoBulk {H : Type} : DataW H → Nat
  | .lit (.string bytes) => bytes.length + 1
  | .lit _ => 1
  | .nil => 1
  | .ptr d => uptoBulk d + 1
  | .slice elems spare => uptoBulkAll elems + uptoBulkAll spare + 1
  | .agg parts => uptoBulkAll parts + 1
  | .iface _ d => uptoBulk d + 1
  | .map entries => uptoBulkEntries entries + 1
  | .held _ => 1
def uptoBulkAll {H : Type} : List (DataW H) → Nat
  | [] => 0
  | d :: r => uptoBulk d + uptoBulkAll r
def uptoBulkEntries {H : Type} : List (Lit × DataW H) → Nat
  | [] => 0
  | x :: r => uptoBulkEntry x + uptoBulkEntries r
def uptoBulkEntry {H : Type} : Lit × DataW H → Nat
  | (.string bytes, d) => bytes.length + uptoBulk d + 1
  | (_, d) => uptoBulk d + 1
 end
def uptoSmall : (H : Type) → List (DataW H) → Bool := fun _ ds => decide (uptoBulkAll ds ≤ 1048576)
def OpenSpec.upto (s : _root_.Go.ChangeSpec) : _root_.Go.OpenSpec := { _root_.Go.OpenSpec.ofChange s with cond := some uptoSmall }

/-- 'laws.FnBestFill', WHERE WHAT IT READS IS OF BULK AT MOST 1048576: true; the input reads as it did. -/
def fnBestFillUptoRow : OpenClaim := { program := "ytaajnkggomlppac", sum := "6a2cc043a95a631edd615c7ab3406b7ee093e1f2f641a1be0fb29c2751b0b319", func := "loop.example/cacheengine/laws.FnBestFill", spec := "fnBestFill", unfollowed := true, recurses := true, apart := false, narrowed := true }
def FnBestFillUptoSaid : Prop := fnBestFillUptoRow.holds Try.pinned (OpenSpec.upto fnBestFillSpec)

/-- 'laws.FnBestFillMost', WHERE WHAT IT READS IS OF BULK AT MOST 1048576: true; the input reads as it did. -/
def fnBestFillMostUptoRow : OpenClaim := { program := "ytaajnkggomlppac", sum := "6a2cc043a95a631edd615c7ab3406b7ee093e1f2f641a1be0fb29c2751b0b319", func := "loop.example/cacheengine/laws.FnBestFillMost", spec := "fnBestFillMost", unfollowed := true, recurses := true, apart := false, narrowed := true }
def FnBestFillMostUptoSaid : Prop := fnBestFillMostUptoRow.holds Try.pinned (OpenSpec.upto fnBestFillMostSpec)

/-- 'laws.FnBestFillAll', WHERE WHAT IT READS IS OF BULK AT MOST 1048576: true; the input reads as it did. -/
def fnBestFillAllUptoRow : OpenClaim := { program := "ytaajnkggomlppac", sum := "6a2cc043a95a631edd615c7ab3406b7ee093e1f2f641a1be0fb29c2751b0b319", func := "loop.example/cacheengine/laws.FnBestFillAll", spec := "fnBestFillAll", unfollowed := true, recurses := true, apart := false, narrowed := true }
def FnBestFillAllUptoSaid : Prop := fnBestFillAllUptoRow.holds Try.pinned (OpenSpec.upto fnBestFillAllSpec)

/-- 'laws.FnBestFillRoom', WHERE WHAT IT READS IS OF BULK AT MOST 1048576: true; the input reads as it did. -/
def fnBestFillRoomUptoRow : OpenClaim := { program := "ytaajnkggomlppac", sum := "6a2cc043a95a631edd615c7ab3406b7ee093e1f2f641a1be0fb29c2751b0b319", func := "loop.example/cacheengine/laws.FnBestFillRoom", spec := "fnBestFillRoom", unfollowed := true, recurses := true, apart := false, narrowed := true }
def FnBestFillRoomUptoSaid : Prop := fnBestFillRoomUptoRow.holds Try.pinned (OpenSpec.upto fnBestFillRoomSpec)

/-- 'laws.FnExactBestFill', WHERE WHAT IT READS IS OF BULK AT MOST 1048576: true; the input reads as it did. -/
def fnExactBestFillUptoRow : OpenClaim := { program := "ytaajnkggomlppac", sum := "6a2cc043a95a631edd615c7ab3406b7ee093e1f2f641a1be0fb29c2751b0b319", func := "loop.example/cacheengine/laws.FnExactBestFill", spec := "fnExactBestFill", unfollowed := true, recurses := true, apart := false, narrowed := true }
def FnExactBestFillUptoSaid : Prop := fnExactBestFillUptoRow.holds Try.pinned (OpenSpec.upto fnExactBestFillSpec)

/-- 'laws.FnWorthOf', WHERE WHAT IT READS IS OF BULK AT MOST 1048576: true; the input reads as it did. -/
def fnWorthOfUptoRow : OpenClaim := { program := "ytaajnkggomlppac", sum := "6a2cc043a95a631edd615c7ab3406b7ee093e1f2f641a1be0fb29c2751b0b319", func := "loop.example/cacheengine/laws.FnWorthOf", spec := "fnWorthOf", apart := false, narrowed := true }
def FnWorthOfUptoSaid : Prop := fnWorthOfUptoRow.holds Try.pinned (OpenSpec.upto fnWorthOfSpec)

/-- 'laws.FnWorthOfOne', WHERE WHAT IT READS IS OF BULK AT MOST 1048576: true; the input reads as it did. -/
def fnWorthOfOneUptoRow : OpenClaim := { program := "ytaajnkggomlppac", sum := "6a2cc043a95a631edd615c7ab3406b7ee093e1f2f641a1be0fb29c2751b0b319", func := "loop.example/cacheengine/laws.FnWorthOfOne", spec := "fnWorthOfOne", apart := false, narrowed := true }
def FnWorthOfOneUptoSaid : Prop := fnWorthOfOneUptoRow.holds Try.pinned (OpenSpec.upto fnWorthOfOneSpec)

/-- 'laws.FnExactWorthOf', WHERE WHAT IT READS IS OF BULK AT MOST 1048576: true; the input reads as it did. -/
def fnExactWorthOfUptoRow : OpenClaim := { program := "ytaajnkggomlppac", sum := "6a2cc043a95a631edd615c7ab3406b7ee093e1f2f641a1be0fb29c2751b0b319", func := "loop.example/cacheengine/laws.FnExactWorthOf", spec := "fnExactWorthOf", apart := false, narrowed := true }
def FnExactWorthOfUptoSaid : Prop := fnExactWorthOfUptoRow.holds Try.pinned (OpenSpec.upto fnExactWorthOfSpec)

/-- 'laws.FnExactValidTiers', WHERE WHAT IT READS IS OF BULK AT MOST 1048576: true; the input reads as it did. -/
def fnExactValidTiersUptoRow : OpenClaim := { program := "ytaajnkggomlppac", sum := "6a2cc043a95a631edd615c7ab3406b7ee093e1f2f641a1be0fb29c2751b0b319", func := "loop.example/cacheengine/laws.FnExactValidTiers", spec := "fnExactValidTiers", apart := false, narrowed := true }
def FnExactValidTiersUptoSaid : Prop := fnExactValidTiersUptoRow.holds Try.pinned (OpenSpec.upto fnExactValidTiersSpec)

/-- 'laws.FnExactAllKeys', WHERE WHAT IT READS IS OF BULK AT MOST 1048576: true; the input reads as it did. -/
def fnExactAllKeysUptoRow : OpenClaim := { program := "ytaajnkggomlppac", sum := "6a2cc043a95a631edd615c7ab3406b7ee093e1f2f641a1be0fb29c2751b0b319", func := "loop.example/cacheengine/laws.FnExactAllKeys", spec := "fnExactAllKeys", apart := false, narrowed := true }
def FnExactAllKeysUptoSaid : Prop := fnExactAllKeysUptoRow.holds Try.pinned (OpenSpec.upto fnExactAllKeysSpec)

end Rows
end Go.Proofs.Ytaajnkggomlppac
