/-
  No cell of these rows narrows 'for every input' (looked for: loops, veiled, ifaces, maps, wideKeys, modest, calm, conditions, laid).
  DERIVED. THE GIVEN ROWS OF THIS SEAT. 10 by the template 'for every input the law returns true; each argument reads behind the call as it read before'; 0 by the template 'total and deterministic' (their statements: YtacohagnclnkdaaTotals.lean).
  GIVEN WITH THE SEED: the statements are not yours to turn. If you find one false, say at which input.
  Laid BY PROGRAM, IN A SANDBOX (cutbox-rows.mjs): the forced cells as the released guide's own fill.sh prints them over the translation 34e45154d9127bef… (all of the seat's roots in one cut). By AI agents, Wed Nov 11 2026. No macro, syntax, notation, axiom, sorry.
-/
import Derived.Test.YtacohagnclnkdaaChecked
import GoSem.Claim
import GoSem.ClaimJoined
import GoSem.ClaimMapViews
import Derived.JoinedTies
import Derived.KernelRfl
namespace Go.Proofs.Ytacohagnclnkdaa
/- THE CELL 'sum', in the pinned program and in every row, IS THE sha256 OF THE DUMP (.gsa) THAT YtacohagnclnkdaaProg.lean LOADS. Nothing in Lean hashes anything: it is a label: what it is worth is what the hold of that sum in a sandbox is worth. -/
noncomputable def Try.pinned : Pinned := { name := "ytacohagnclnkdaa", sum := "34e45154d9127bef5f01cee0819d7f37711b6b1519becae4b6a404101a343f9b", checked := Try.checked }
namespace Rows
def none {H : Type} : Left H := { results := [], args := [] }

/-- 'laws.FnValidMemory': WHATEVER THE INPUT: true; the input reads as it did. -/
def fnValidMemorySpec : ChangeSpec := { name := "fnValidMemory", fn := fun _ => fun
  | [d] => { results := [.lit (.bool true)], args := [d] }
  | _ => none }
def fnValidMemoryRow : OpenClaim := { program := "ytacohagnclnkdaa", sum := "34e45154d9127bef5f01cee0819d7f37711b6b1519becae4b6a404101a343f9b", func := "loop.example/cacheengine/laws.FnValidMemory", spec := "fnValidMemory", apart := false }
def FnValidMemorySaid : Prop := fnValidMemoryRow.holds Try.pinned (OpenSpec.ofChange fnValidMemorySpec)

/-- ITS FALSE NEIGHBOUR: 'it returns false'. Refute it at one input. -/
def fnValidMemoryWrong : ChangeSpec := { name := "fnValidMemory", fn := fun _ => fun
  | [d] => { results := [.lit (.bool false)], args := [d] }
  | _ => none }
def FnValidMemoryWrongFalsely : Prop := fnValidMemoryRow.holds Try.pinned (OpenSpec.ofChange fnValidMemoryWrong)

/-- 'laws.FnReadKey': WHATEVER THE INPUT: true; the input reads as it did. -/
def fnReadKeySpec : ChangeSpec := { name := "fnReadKey", fn := fun _ => fun
  | [d] => { results := [.lit (.bool true)], args := [d] }
  | _ => none }
def fnReadKeyRow : OpenClaim := { program := "ytacohagnclnkdaa", sum := "34e45154d9127bef5f01cee0819d7f37711b6b1519becae4b6a404101a343f9b", func := "loop.example/cacheengine/laws.FnReadKey", spec := "fnReadKey", apart := false }
def FnReadKeySaid : Prop := fnReadKeyRow.holds Try.pinned (OpenSpec.ofChange fnReadKeySpec)

/-- ITS FALSE NEIGHBOUR: 'it returns false'. Refute it at one input. -/
def fnReadKeyWrong : ChangeSpec := { name := "fnReadKey", fn := fun _ => fun
  | [d] => { results := [.lit (.bool false)], args := [d] }
  | _ => none }
def FnReadKeyWrongFalsely : Prop := fnReadKeyRow.holds Try.pinned (OpenSpec.ofChange fnReadKeyWrong)

/-- 'laws.FnReadKeyFirst': WHATEVER THE INPUT: true; the input reads as it did. -/
def fnReadKeyFirstSpec : ChangeSpec := { name := "fnReadKeyFirst", fn := fun _ => fun
  | [d] => { results := [.lit (.bool true)], args := [d] }
  | _ => none }
def fnReadKeyFirstRow : OpenClaim := { program := "ytacohagnclnkdaa", sum := "34e45154d9127bef5f01cee0819d7f37711b6b1519becae4b6a404101a343f9b", func := "loop.example/cacheengine/laws.FnReadKeyFirst", spec := "fnReadKeyFirst", apart := false }
def FnReadKeyFirstSaid : Prop := fnReadKeyFirstRow.holds Try.pinned (OpenSpec.ofChange fnReadKeyFirstSpec)

/-- ITS FALSE NEIGHBOUR: 'it returns false'. Refute it at one input. -/
def fnReadKeyFirstWrong : ChangeSpec := { name := "fnReadKeyFirst", fn := fun _ => fun
  | [d] => { results := [.lit (.bool false)], args := [d] }
  | _ => none }
def FnReadKeyFirstWrongFalsely : Prop := fnReadKeyFirstRow.holds Try.pinned (OpenSpec.ofChange fnReadKeyFirstWrong)

/-- 'laws.FnWriteKey': WHATEVER THE INPUT: true; the input reads as it did. -/
def fnWriteKeySpec : ChangeSpec := { name := "fnWriteKey", fn := fun _ => fun
  | [d] => { results := [.lit (.bool true)], args := [d] }
  | _ => none }
def fnWriteKeyRow : OpenClaim := { program := "ytacohagnclnkdaa", sum := "34e45154d9127bef5f01cee0819d7f37711b6b1519becae4b6a404101a343f9b", func := "loop.example/cacheengine/laws.FnWriteKey", spec := "fnWriteKey", apart := false }
def FnWriteKeySaid : Prop := fnWriteKeyRow.holds Try.pinned (OpenSpec.ofChange fnWriteKeySpec)

/-- ITS FALSE NEIGHBOUR: 'it returns false'. Refute it at one input. -/
def fnWriteKeyWrong : ChangeSpec := { name := "fnWriteKey", fn := fun _ => fun
  | [d] => { results := [.lit (.bool false)], args := [d] }
  | _ => none }
def FnWriteKeyWrongFalsely : Prop := fnWriteKeyRow.holds Try.pinned (OpenSpec.ofChange fnWriteKeyWrong)

/-- 'laws.FnWriteKeyTwice': WHATEVER THE INPUT: true; the input reads as it did. -/
def fnWriteKeyTwiceSpec : ChangeSpec := { name := "fnWriteKeyTwice", fn := fun _ => fun
  | [d] => { results := [.lit (.bool true)], args := [d] }
  | _ => none }
def fnWriteKeyTwiceRow : OpenClaim := { program := "ytacohagnclnkdaa", sum := "34e45154d9127bef5f01cee0819d7f37711b6b1519becae4b6a404101a343f9b", func := "loop.example/cacheengine/laws.FnWriteKeyTwice", spec := "fnWriteKeyTwice", apart := false }
def FnWriteKeyTwiceSaid : Prop := fnWriteKeyTwiceRow.holds Try.pinned (OpenSpec.ofChange fnWriteKeyTwiceSpec)

/-- ITS FALSE NEIGHBOUR: 'it returns false'. Refute it at one input. -/
def fnWriteKeyTwiceWrong : ChangeSpec := { name := "fnWriteKeyTwice", fn := fun _ => fun
  | [d] => { results := [.lit (.bool false)], args := [d] }
  | _ => none }
def FnWriteKeyTwiceWrongFalsely : Prop := fnWriteKeyTwiceRow.holds Try.pinned (OpenSpec.ofChange fnWriteKeyTwiceWrong)

/-- 'laws.FnWriteKeyStore': WHATEVER THE INPUT: true; the input reads as it did. -/
def fnWriteKeyStoreSpec : ChangeSpec := { name := "fnWriteKeyStore", fn := fun _ => fun
  | [d] => { results := [.lit (.bool true)], args := [d] }
  | _ => none }
def fnWriteKeyStoreRow : OpenClaim := { program := "ytacohagnclnkdaa", sum := "34e45154d9127bef5f01cee0819d7f37711b6b1519becae4b6a404101a343f9b", func := "loop.example/cacheengine/laws.FnWriteKeyStore", spec := "fnWriteKeyStore", apart := false }
def FnWriteKeyStoreSaid : Prop := fnWriteKeyStoreRow.holds Try.pinned (OpenSpec.ofChange fnWriteKeyStoreSpec)

/-- ITS FALSE NEIGHBOUR: 'it returns false'. Refute it at one input. -/
def fnWriteKeyStoreWrong : ChangeSpec := { name := "fnWriteKeyStore", fn := fun _ => fun
  | [d] => { results := [.lit (.bool false)], args := [d] }
  | _ => none }
def FnWriteKeyStoreWrongFalsely : Prop := fnWriteKeyStoreRow.holds Try.pinned (OpenSpec.ofChange fnWriteKeyStoreWrong)

/-- 'laws.FnFlushMemory': WHATEVER THE INPUT: true; the input reads as it did. -/
def fnFlushMemorySpec : ChangeSpec := { name := "fnFlushMemory", fn := fun _ => fun
  | [d] => { results := [.lit (.bool true)], args := [d] }
  | _ => none }
def fnFlushMemoryRow : OpenClaim := { program := "ytacohagnclnkdaa", sum := "34e45154d9127bef5f01cee0819d7f37711b6b1519becae4b6a404101a343f9b", func := "loop.example/cacheengine/laws.FnFlushMemory", spec := "fnFlushMemory", apart := false }
def FnFlushMemorySaid : Prop := fnFlushMemoryRow.holds Try.pinned (OpenSpec.ofChange fnFlushMemorySpec)

/-- ITS FALSE NEIGHBOUR: 'it returns false'. Refute it at one input. -/
def fnFlushMemoryWrong : ChangeSpec := { name := "fnFlushMemory", fn := fun _ => fun
  | [d] => { results := [.lit (.bool false)], args := [d] }
  | _ => none }
def FnFlushMemoryWrongFalsely : Prop := fnFlushMemoryRow.holds Try.pinned (OpenSpec.ofChange fnFlushMemoryWrong)

/-- 'laws.FnFlushMemoryTwice': WHATEVER THE INPUT: true; the input reads as it did. -/
def fnFlushMemoryTwiceSpec : ChangeSpec := { name := "fnFlushMemoryTwice", fn := fun _ => fun
  | [d] => { results := [.lit (.bool true)], args := [d] }
  | _ => none }
def fnFlushMemoryTwiceRow : OpenClaim := { program := "ytacohagnclnkdaa", sum := "34e45154d9127bef5f01cee0819d7f37711b6b1519becae4b6a404101a343f9b", func := "loop.example/cacheengine/laws.FnFlushMemoryTwice", spec := "fnFlushMemoryTwice", apart := false }
def FnFlushMemoryTwiceSaid : Prop := fnFlushMemoryTwiceRow.holds Try.pinned (OpenSpec.ofChange fnFlushMemoryTwiceSpec)

/-- ITS FALSE NEIGHBOUR: 'it returns false'. Refute it at one input. -/
def fnFlushMemoryTwiceWrong : ChangeSpec := { name := "fnFlushMemoryTwice", fn := fun _ => fun
  | [d] => { results := [.lit (.bool false)], args := [d] }
  | _ => none }
def FnFlushMemoryTwiceWrongFalsely : Prop := fnFlushMemoryTwiceRow.holds Try.pinned (OpenSpec.ofChange fnFlushMemoryTwiceWrong)

/-- 'laws.FnDirtyKeys': WHATEVER THE INPUT: true; the input reads as it did. -/
def fnDirtyKeysSpec : ChangeSpec := { name := "fnDirtyKeys", fn := fun _ => fun
  | [d] => { results := [.lit (.bool true)], args := [d] }
  | _ => none }
def fnDirtyKeysRow : OpenClaim := { program := "ytacohagnclnkdaa", sum := "34e45154d9127bef5f01cee0819d7f37711b6b1519becae4b6a404101a343f9b", func := "loop.example/cacheengine/laws.FnDirtyKeys", spec := "fnDirtyKeys", apart := false }
def FnDirtyKeysSaid : Prop := fnDirtyKeysRow.holds Try.pinned (OpenSpec.ofChange fnDirtyKeysSpec)

/-- ITS FALSE NEIGHBOUR: 'it returns false'. Refute it at one input. -/
def fnDirtyKeysWrong : ChangeSpec := { name := "fnDirtyKeys", fn := fun _ => fun
  | [d] => { results := [.lit (.bool false)], args := [d] }
  | _ => none }
def FnDirtyKeysWrongFalsely : Prop := fnDirtyKeysRow.holds Try.pinned (OpenSpec.ofChange fnDirtyKeysWrong)

/-- 'laws.FnValueOf': WHATEVER THE INPUT: true; the input reads as it did. -/
def fnValueOfSpec : ChangeSpec := { name := "fnValueOf", fn := fun _ => fun
  | [d] => { results := [.lit (.bool true)], args := [d] }
  | _ => none }
def fnValueOfRow : OpenClaim := { program := "ytacohagnclnkdaa", sum := "34e45154d9127bef5f01cee0819d7f37711b6b1519becae4b6a404101a343f9b", func := "loop.example/cacheengine/laws.FnValueOf", spec := "fnValueOf", apart := false }
def FnValueOfSaid : Prop := fnValueOfRow.holds Try.pinned (OpenSpec.ofChange fnValueOfSpec)

/-- ITS FALSE NEIGHBOUR: 'it returns false'. Refute it at one input. -/
def fnValueOfWrong : ChangeSpec := { name := "fnValueOf", fn := fun _ => fun
  | [d] => { results := [.lit (.bool false)], args := [d] }
  | _ => none }
def FnValueOfWrongFalsely : Prop := fnValueOfRow.holds Try.pinned (OpenSpec.ofChange fnValueOfWrong)

/- THE SECOND FORM. 'bulk': how many values and letters a reading holds, each counted each time it is reached (what is shared counts as often as it is met; a slice's spare places count too). A statement '..UptoSaid' is the law's where the arguments, and the package variables that the reading takes, are together of bulk at most 1048576: NARROWER than '..Said'. Prove '..Said' where nothing that the law and all that it calls make is longer than what came in: it says more and counts as full. Else prove '..UptoSaid'. A law counts once. -/
mutual
def uptoBulk {H : Type} : DataW H → Nat
  | .lit (.string bytes) => bytes.length + 1
  | .lit _ => 1
  | .nil => 1
  | .ptr d => uptoBulk d + 1
  | .slice elems spare => uptoBulkAll elems + uptoBulkAll spare + 1
  | .agg parts => uptoBulkAll parts + 1
  | .iface _ d => uptoBulk d + 1
  | .map entries => uptoBulkEntries entries + 1
  | .held _ => 1
def uptoBulkAll {H : Type} : List (DataW H) → Nat
  | [] => 0
  | d :: r => uptoBulk d + uptoBulkAll r
def uptoBulkEntries {H : Type} : List (Lit × DataW H) → Nat
  | [] => 0
  | x :: r => uptoBulkEntry x + uptoBulkEntries r
def uptoBulkEntry {H : Type} : Lit × DataW H → Nat
  | (.string bytes, d) => bytes.length + uptoBulk d + 1
  | (_, d) => uptoBulk d + 1
 end
def uptoSmall : (H : Type) → List (DataW H) → Bool := fun _ ds => decide (uptoBulkAll ds ≤ 1048576)
def OpenSpec.upto (s : _root_.Go.ChangeSpec) : _root_.Go.OpenSpec := { _root_.Go.OpenSpec.ofChange s with cond := some uptoSmall }

/-- 'laws.FnValidMemory', WHERE WHAT IT READS IS OF BULK AT MOST 1048576: true; the input reads as it did. -/
def fnValidMemoryUptoRow : OpenClaim := { program := "ytacohagnclnkdaa", sum := "34e45154d9127bef5f01cee0819d7f37711b6b1519becae4b6a404101a343f9b", func := "loop.example/cacheengine/laws.FnValidMemory", spec := "fnValidMemory", apart := false, narrowed := true }
def FnValidMemoryUptoSaid : Prop := fnValidMemoryUptoRow.holds Try.pinned (OpenSpec.upto fnValidMemorySpec)

/-- 'laws.FnReadKey', WHERE WHAT IT READS IS OF BULK AT MOST 1048576: true; the input reads as it did. -/
def fnReadKeyUptoRow : OpenClaim := { program := "ytacohagnclnkdaa", sum := "34e45154d9127bef5f01cee0819d7f37711b6b1519becae4b6a404101a343f9b", func := "loop.example/cacheengine/laws.FnReadKey", spec := "fnReadKey", apart := false, narrowed := true }
def FnReadKeyUptoSaid : Prop := fnReadKeyUptoRow.holds Try.pinned (OpenSpec.upto fnReadKeySpec)

/-- 'laws.FnReadKeyFirst', WHERE WHAT IT READS IS OF BULK AT MOST 1048576: true; the input reads as it did. -/
def fnReadKeyFirstUptoRow : OpenClaim := { program := "ytacohagnclnkdaa", sum := "34e45154d9127bef5f01cee0819d7f37711b6b1519becae4b6a404101a343f9b", func := "loop.example/cacheengine/laws.FnReadKeyFirst", spec := "fnReadKeyFirst", apart := false, narrowed := true }
def FnReadKeyFirstUptoSaid : Prop := fnReadKeyFirstUptoRow.holds Try.pinned (OpenSpec.upto fnReadKeyFirstSpec)

/-- 'laws.FnWriteKey', WHERE WHAT IT READS IS OF BULK AT MOST 1048576: true; the input reads as it did. -/
def fnWriteKeyUptoRow : OpenClaim := { program := "ytacohagnclnkdaa", sum := "34e45154d9127bef5f01cee0819d7f37711b6b1519becae4b6a404101a343f9b", func := "loop.example/cacheengine/laws.FnWriteKey", spec := "fnWriteKey", apart := false, narrowed := true }
def FnWriteKeyUptoSaid : Prop := fnWriteKeyUptoRow.holds Try.pinned (OpenSpec.upto fnWriteKeySpec)

/-- 'laws.FnWriteKeyTwice', WHERE WHAT IT READS IS OF BULK AT MOST 1048576: true; the input reads as it did. -/
def fnWriteKeyTwiceUptoRow : OpenClaim := { program := "ytacohagnclnkdaa", sum := "34e45154d9127bef5f01cee0819d7f37711b6b1519becae4b6a404101a343f9b", func := "loop.example/cacheengine/laws.FnWriteKeyTwice", spec := "fnWriteKeyTwice", apart := false, narrowed := true }
def FnWriteKeyTwiceUptoSaid : Prop := fnWriteKeyTwiceUptoRow.holds Try.pinned (OpenSpec.upto fnWriteKeyTwiceSpec)

/-- 'laws.FnWriteKeyStore', WHERE WHAT IT READS IS OF BULK AT MOST 1048576: true; the input reads as it did. -/
def fnWriteKeyStoreUptoRow : OpenClaim := { program := "ytacohagnclnkdaa", sum := "34e45154d9127bef5f01cee0819d7f37711b6b1519becae4b6a404101a343f9b", func := "loop.example/cacheengine/laws.FnWriteKeyStore", spec := "fnWriteKeyStore", apart := false, narrowed := true }
def FnWriteKeyStoreUptoSaid : Prop := fnWriteKeyStoreUptoRow.holds Try.pinned (OpenSpec.upto fnWriteKeyStoreSpec)

/-- 'laws.FnFlushMemory', WHERE WHAT IT READS IS OF BULK AT MOST 1048576: true; the input reads as it did. -/
def fnFlushMemoryUptoRow : OpenClaim := { program := "ytacohagnclnkdaa", sum := "34e45154d9127bef5f01cee0819d7f37711b6b1519becae4b6a404101a343f9b", func := "loop.example/cacheengine/laws.FnFlushMemory", spec := "fnFlushMemory", apart := false, narrowed := true }
def FnFlushMemoryUptoSaid : Prop := fnFlushMemoryUptoRow.holds Try.pinned (OpenSpec.upto fnFlushMemorySpec)

/-- 'laws.FnFlushMemoryTwice', WHERE WHAT IT READS IS OF BULK AT MOST 1048576: true; the input reads as it did. -/
def fnFlushMemoryTwiceUptoRow : OpenClaim := { program := "ytacohagnclnkdaa", sum := "34e45154d9127bef5f01cee0819d7f37711b6b1519becae4b6a404101a343f9b", func := "loop.example/cacheengine/laws.FnFlushMemoryTwice", spec := "fnFlushMemoryTwice", apart := false, narrowed := true }
def FnFlushMemoryTwiceUptoSaid : Prop := fnFlushMemoryTwiceUptoRow.holds Try.pinned (OpenSpec.upto fnFlushMemoryTwiceSpec)

/-- 'laws.FnDirtyKeys', WHERE WHAT IT READS IS OF BULK AT MOST 1048576: true; the input reads as it did. -/
def fnDirtyKeysUptoRow : OpenClaim := { program := "ytacohagnclnkdaa", sum := "34e45154d9127bef5f01cee0819d7f37711b6b1519becae4b6a404101a343f9b", func := "loop.example/cacheengine/laws.FnDirtyKeys", spec := "fnDirtyKeys", apart := false, narrowed := true }
def FnDirtyKeysUptoSaid : Prop := fnDirtyKeysUptoRow.holds Try.pinned (OpenSpec.upto fnDirtyKeysSpec)

/-- 'laws.FnValueOf', WHERE WHAT IT READS IS OF BULK AT MOST 1048576: true; the input reads as it did. -/
def fnValueOfUptoRow : OpenClaim := { program := "ytacohagnclnkdaa", sum := "34e45154d9127bef5f01cee0819d7f37711b6b1519becae4b6a404101a343f9b", func := "loop.example/cacheengine/laws.FnValueOf", spec := "fnValueOf", apart := false, narrowed := true }
def FnValueOfUptoSaid : Prop := fnValueOfUptoRow.holds Try.pinned (OpenSpec.upto fnValueOfSpec)

end Rows
end Go.Proofs.Ytacohagnclnkdaa
