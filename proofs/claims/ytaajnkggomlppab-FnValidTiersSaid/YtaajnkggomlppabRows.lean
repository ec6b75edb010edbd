/-
  No cell of these rows narrows 'for every input' (looked for: loops, veiled, ifaces, maps, wideKeys, modest, calm, conditions, laid).
  DERIVED. THE GIVEN ROWS OF THIS SEAT. 10 by the template 'for every input the law returns true; each argument reads behind the call as it read before'; 0 by the template 'total and deterministic' (their statements: YtaajnkggomlppabTotals.lean).
  GIVEN WITH THE SEED: the statements are not yours to turn. If you find one false, say at which input.
  Laid BY PROGRAM, IN A SANDBOX (cutbox-rows.mjs): the forced cells as the released guide's own fill.sh prints them over the translation 72162e59cc106030… (all of the seat's roots in one cut). By AI agents, Wed Nov 11 2026. No macro, syntax, notation, axiom, sorry.
-/
import Derived.Test.YtaajnkggomlppabChecked
import GoSem.Claim
import GoSem.ClaimJoined
import GoSem.ClaimMapViews
import Derived.JoinedTies
import Derived.KernelRfl
namespace Go.Proofs.Ytaajnkggomlppab
/- THE CELL 'sum', in the pinned program and in every row, IS THE sha256 OF THE DUMP (.gsa) THAT YtaajnkggomlppabProg.lean LOADS. Nothing in Lean hashes anything: it is a label: what it is worth is what the hold of that sum in a sandbox is worth. -/
noncomputable def Try.pinned : Pinned := { name := "ytaajnkggomlppab", sum := "72162e59cc10603083b8ec35af338fa75074c8792f6e7e6c4212fd771fb386ac", checked := Try.checked }
namespace Rows
def none {H : Type} : Left H := { results := [], args := [] }

/-- 'laws.FnValidTiers': WHATEVER THE INPUT: true; the input reads as it did. -/
def fnValidTiersSpec : ChangeSpec := { name := "fnValidTiers", fn := fun _ => fun
  | [d] => { results := [.lit (.bool true)], args := [d] }
  | _ => none }
def fnValidTiersRow : OpenClaim := { program := "ytaajnkggomlppab", sum := "72162e59cc10603083b8ec35af338fa75074c8792f6e7e6c4212fd771fb386ac", func := "loop.example/cacheengine/laws.FnValidTiers", spec := "fnValidTiers", apart := false }
def FnValidTiersSaid : Prop := fnValidTiersRow.holds Try.pinned (OpenSpec.ofChange fnValidTiersSpec)

/-- ITS FALSE NEIGHBOUR: 'it returns false'. Refute it at one input. -/
def fnValidTiersWrong : ChangeSpec := { name := "fnValidTiers", fn := fun _ => fun
  | [d] => { results := [.lit (.bool false)], args := [d] }
  | _ => none }
def FnValidTiersWrongFalsely : Prop := fnValidTiersRow.holds Try.pinned (OpenSpec.ofChange fnValidTiersWrong)

/-- 'laws.FnUseTiers': WHATEVER THE INPUT: true; the input reads as it did. -/
def fnUseTiersSpec : ChangeSpec := { name := "fnUseTiers", fn := fun _ => fun
  | [d] => { results := [.lit (.bool true)], args := [d] }
  | _ => none }
def fnUseTiersRow : OpenClaim := { program := "ytaajnkggomlppab", sum := "72162e59cc10603083b8ec35af338fa75074c8792f6e7e6c4212fd771fb386ac", func := "loop.example/cacheengine/laws.FnUseTiers", spec := "fnUseTiers", apart := false }
def FnUseTiersSaid : Prop := fnUseTiersRow.holds Try.pinned (OpenSpec.ofChange fnUseTiersSpec)

/-- ITS FALSE NEIGHBOUR: 'it returns false'. Refute it at one input. -/
def fnUseTiersWrong : ChangeSpec := { name := "fnUseTiers", fn := fun _ => fun
  | [d] => { results := [.lit (.bool false)], args := [d] }
  | _ => none }
def FnUseTiersWrongFalsely : Prop := fnUseTiersRow.holds Try.pinned (OpenSpec.ofChange fnUseTiersWrong)

/-- 'laws.FnUseTiersKeep': WHATEVER THE INPUT: true; the input reads as it did. -/
def fnUseTiersKeepSpec : ChangeSpec := { name := "fnUseTiersKeep", fn := fun _ => fun
  | [d] => { results := [.lit (.bool true)], args := [d] }
  | _ => none }
def fnUseTiersKeepRow : OpenClaim := { program := "ytaajnkggomlppab", sum := "72162e59cc10603083b8ec35af338fa75074c8792f6e7e6c4212fd771fb386ac", func := "loop.example/cacheengine/laws.FnUseTiersKeep", spec := "fnUseTiersKeep", apart := false }
def FnUseTiersKeepSaid : Prop := fnUseTiersKeepRow.holds Try.pinned (OpenSpec.ofChange fnUseTiersKeepSpec)

/-- ITS FALSE NEIGHBOUR: 'it returns false'. Refute it at one input. -/
def fnUseTiersKeepWrong : ChangeSpec := { name := "fnUseTiersKeep", fn := fun _ => fun
  | [d] => { results := [.lit (.bool false)], args := [d] }
  | _ => none }
def FnUseTiersKeepWrongFalsely : Prop := fnUseTiersKeepRow.holds Try.pinned (OpenSpec.ofChange fnUseTiersKeepWrong)

/-- 'laws.FnRunTiers': WHATEVER THE INPUT: true; the input reads as it did. -/
def fnRunTiersSpec : ChangeSpec := { name := "fnRunTiers", fn := fun _ => fun
  | [d] => { results := [.lit (.bool true)], args := [d] }
  | _ => none }
def fnRunTiersRow : OpenClaim := { program := "ytaajnkggomlppab", sum := "72162e59cc10603083b8ec35af338fa75074c8792f6e7e6c4212fd771fb386ac", func := "loop.example/cacheengine/laws.FnRunTiers", spec := "fnRunTiers", unfollowed := true, recurses := true, apart := false }
def FnRunTiersSaid : Prop := fnRunTiersRow.holds Try.pinned (OpenSpec.ofChange fnRunTiersSpec)

/-- ITS FALSE NEIGHBOUR: 'it returns false'. Refute it at one input. -/
def fnRunTiersWrong : ChangeSpec := { name := "fnRunTiers", fn := fun _ => fun
  | [d] => { results := [.lit (.bool false)], args := [d] }
  | _ => none }
def FnRunTiersWrongFalsely : Prop := fnRunTiersRow.holds Try.pinned (OpenSpec.ofChange fnRunTiersWrong)

/-- 'laws.FnRunTiersStep': WHATEVER THE INPUT: true; the input reads as it did. -/
def fnRunTiersStepSpec : ChangeSpec := { name := "fnRunTiersStep", fn := fun _ => fun
  | [d] => { results := [.lit (.bool true)], args := [d] }
  | _ => none }
def fnRunTiersStepRow : OpenClaim := { program := "ytaajnkggomlppab", sum := "72162e59cc10603083b8ec35af338fa75074c8792f6e7e6c4212fd771fb386ac", func := "loop.example/cacheengine/laws.FnRunTiersStep", spec := "fnRunTiersStep", apart := false }
def FnRunTiersStepSaid : Prop := fnRunTiersStepRow.holds Try.pinned (OpenSpec.ofChange fnRunTiersStepSpec)

/-- ITS FALSE NEIGHBOUR: 'it returns false'. Refute it at one input. -/
def fnRunTiersStepWrong : ChangeSpec := { name := "fnRunTiersStep", fn := fun _ => fun
  | [d] => { results := [.lit (.bool false)], args := [d] }
  | _ => none }
def FnRunTiersStepWrongFalsely : Prop := fnRunTiersStepRow.holds Try.pinned (OpenSpec.ofChange fnRunTiersStepWrong)

/-- 'laws.FnAllKeys': WHATEVER THE INPUT: true; the input reads as it did. -/
def fnAllKeysSpec : ChangeSpec := { name := "fnAllKeys", fn := fun _ => fun
  | [d] => { results := [.lit (.bool true)], args := [d] }
  | _ => none }
def fnAllKeysRow : OpenClaim := { program := "ytaajnkggomlppab", sum := "72162e59cc10603083b8ec35af338fa75074c8792f6e7e6c4212fd771fb386ac", func := "loop.example/cacheengine/laws.FnAllKeys", spec := "fnAllKeys", apart := false }
def FnAllKeysSaid : Prop := fnAllKeysRow.holds Try.pinned (OpenSpec.ofChange fnAllKeysSpec)

/-- ITS FALSE NEIGHBOUR: 'it returns false'. Refute it at one input. -/
def fnAllKeysWrong : ChangeSpec := { name := "fnAllKeys", fn := fun _ => fun
  | [d] => { results := [.lit (.bool false)], args := [d] }
  | _ => none }
def FnAllKeysWrongFalsely : Prop := fnAllKeysRow.holds Try.pinned (OpenSpec.ofChange fnAllKeysWrong)

/-- 'laws.FnUseTiersTwice': WHATEVER THE INPUT: true; the input reads as it did. -/
def fnUseTiersTwiceSpec : ChangeSpec := { name := "fnUseTiersTwice", fn := fun _ => fun
  | [d] => { results := [.lit (.bool true)], args := [d] }
  | _ => none }
def fnUseTiersTwiceRow : OpenClaim := { program := "ytaajnkggomlppab", sum := "72162e59cc10603083b8ec35af338fa75074c8792f6e7e6c4212fd771fb386ac", func := "loop.example/cacheengine/laws.FnUseTiersTwice", spec := "fnUseTiersTwice", apart := false }
def FnUseTiersTwiceSaid : Prop := fnUseTiersTwiceRow.holds Try.pinned (OpenSpec.ofChange fnUseTiersTwiceSpec)

/-- ITS FALSE NEIGHBOUR: 'it returns false'. Refute it at one input. -/
def fnUseTiersTwiceWrong : ChangeSpec := { name := "fnUseTiersTwice", fn := fun _ => fun
  | [d] => { results := [.lit (.bool false)], args := [d] }
  | _ => none }
def FnUseTiersTwiceWrongFalsely : Prop := fnUseTiersTwiceRow.holds Try.pinned (OpenSpec.ofChange fnUseTiersTwiceWrong)

/-- 'laws.FnRunTiersCost': WHATEVER THE INPUT: true; the input reads as it did. -/
def fnRunTiersCostSpec : ChangeSpec := { name := "fnRunTiersCost", fn := fun _ => fun
  | [d] => { results := [.lit (.bool true)], args := [d] }
  | _ => none }
def fnRunTiersCostRow : OpenClaim := { program := "ytaajnkggomlppab", sum := "72162e59cc10603083b8ec35af338fa75074c8792f6e7e6c4212fd771fb386ac", func := "loop.example/cacheengine/laws.FnRunTiersCost", spec := "fnRunTiersCost", apart := false }
def FnRunTiersCostSaid : Prop := fnRunTiersCostRow.holds Try.pinned (OpenSpec.ofChange fnRunTiersCostSpec)

/-- ITS FALSE NEIGHBOUR: 'it returns false'. Refute it at one input. -/
def fnRunTiersCostWrong : ChangeSpec := { name := "fnRunTiersCost", fn := fun _ => fun
  | [d] => { results := [.lit (.bool false)], args := [d] }
  | _ => none }
def FnRunTiersCostWrongFalsely : Prop := fnRunTiersCostRow.holds Try.pinned (OpenSpec.ofChange fnRunTiersCostWrong)

/-- 'laws.FnExactUseTiers': WHATEVER THE INPUT: true; the input reads as it did. -/
def fnExactUseTiersSpec : ChangeSpec := { name := "fnExactUseTiers", fn := fun _ => fun
  | [d1, d2] => { results := [.lit (.bool true)], args := [d1, d2] }
  | _ => none }
def fnExactUseTiersRow : OpenClaim := { program := "ytaajnkggomlppab", sum := "72162e59cc10603083b8ec35af338fa75074c8792f6e7e6c4212fd771fb386ac", func := "loop.example/cacheengine/laws.FnExactUseTiers", spec := "fnExactUseTiers", apart := false }
def FnExactUseTiersSaid : Prop := fnExactUseTiersRow.holds Try.pinned (OpenSpec.ofChange fnExactUseTiersSpec)

/-- ITS FALSE NEIGHBOUR: 'it returns false'. Refute it at one input. -/
def fnExactUseTiersWrong : ChangeSpec := { name := "fnExactUseTiers", fn := fun _ => fun
  | [d1, d2] => { results := [.lit (.bool false)], args := [d1, d2] }
  | _ => none }
def FnExactUseTiersWrongFalsely : Prop := fnExactUseTiersRow.holds Try.pinned (OpenSpec.ofChange fnExactUseTiersWrong)

/-- 'laws.FnExactRunTiers': WHATEVER THE INPUT: true; the input reads as it did. -/
def fnExactRunTiersSpec : ChangeSpec := { name := "fnExactRunTiers", fn := fun _ => fun
  | [d1, d2, d3] => { results := [.lit (.bool true)], args := [d1, d2, d3] }
  | _ => none }
def fnExactRunTiersRow : OpenClaim := { program := "ytaajnkggomlppab", sum := "72162e59cc10603083b8ec35af338fa75074c8792f6e7e6c4212fd771fb386ac", func := "loop.example/cacheengine/laws.FnExactRunTiers", spec := "fnExactRunTiers", apart := false }
def FnExactRunTiersSaid : Prop := fnExactRunTiersRow.holds Try.pinned (OpenSpec.ofChange fnExactRunTiersSpec)

/-- ITS FALSE NEIGHBOUR: 'it returns false'. Refute it at one input. -/
def fnExactRunTiersWrong : ChangeSpec := { name := "fnExactRunTiers", fn := fun _ => fun
  | [d1, d2, d3] => { results := [.lit (.bool false)], args := [d1, d2, d3] }
  | _ => none }
def FnExactRunTiersWrongFalsely : Prop := fnExactRunTiersRow.holds Try.pinned (OpenSpec.ofChange fnExactRunTiersWrong)

/- THE SECOND FORM. 'bulk': how many values and letters a reading holds, each counted each time it is reached (what is shared counts as often as it is met; a slice's spare places count too). A statement '..UptoSaid' is the law's where the arguments, and the package variables that the reading takes, are together of bulk at most 1048576: NARROWER than '..Said'. Prove '..Said' where nothing that the law and all that it calls make is longer than what came in: it says more and counts as full. Else prove '..UptoSaid'. A law counts once. -/
mutual
def uptoBulk {H : Type} : DataW H → Nat
  | .lit (.string bytes) => bytes.length + 1
  | .lit _ => 1
  | .nil => 1
  | .ptr d => uptoBulk d + 1
  | .slice elems spare => uptoBulkAll elems + uptoBulkAll spare + 1
  | .agg parts => uptoBulkAll parts + 1
  | .iface _ d => uptoBulk d + 1
  | .map entries => uptoBulkEntries entries + 1
  | .held _ => 1
def uptoBulkAll {H : Type} : List (DataW H) → Nat
  | [] => 0
  | d :: r => uptoBulk d + uptoBulkAll r
def uptoBulkEntries {H : Type} : List (Lit × DataW H) → Nat
  | [] => 0
  | x :: r => uptoBulkEntry x + uptoBulkEntries r
def uptoBulkEntry {H : Type} : Lit × DataW H → Nat
  | (.string bytes, d) => bytes.length + uptoBulk d + 1
  | (_, d) => uptoBulk d + 1
 end
def uptoSmall : (H : Type) → List (DataW H) → Bool := fun _ ds => decide (uptoBulkAll ds ≤ 1048576)
def OpenSpec.upto (s : _root_.Go.ChangeSpec) : _root_.Go.OpenSpec := { _root_.Go.OpenSpec.ofChange s with cond := some uptoSmall }

/-- 'laws.FnValidTiers', WHERE WHAT IT READS IS OF BULK AT MOST 1048576: true; the input reads as it did. -/
def fnValidTiersUptoRow : OpenClaim := { program := "ytaajnkggomlppab", sum := "72162e59cc10603083b8ec35af338fa75074c8792f6e7e6c4212fd771fb386ac", func := "loop.example/cacheengine/laws.FnValidTiers", spec := "fnValidTiers", apart := false, narrowed := true }
def FnValidTiersUptoSaid : Prop := fnValidTiersUptoRow.holds Try.pinned (OpenSpec.upto fnValidTiersSpec)

/-- 'laws.FnUseTiers', WHERE WHAT IT READS IS OF BULK AT MOST 1048576: true; the input reads as it did. -/
def fnUseTiersUptoRow : OpenClaim := { program := "ytaajnkggomlppab", sum := "72162e59cc10603083b8ec35af338fa75074c8792f6e7e6c4212fd771fb386ac", func := "loop.example/cacheengine/laws.FnUseTiers", spec := "fnUseTiers", apart := false, narrowed := true }
def FnUseTiersUptoSaid : Prop := fnUseTiersUptoRow.holds Try.pinned (OpenSpec.upto fnUseTiersSpec)

/-- 'laws.FnUseTiersKeep', WHERE WHAT IT READS IS OF BULK AT MOST 1048576: true; the input reads as it did. -/
def fnUseTiersKeepUptoRow : OpenClaim := { program := "ytaajnkggomlppab", sum := "72162e59cc10603083b8ec35af338fa75074c8792f6e7e6c4212fd771fb386ac", func := "loop.example/cacheengine/laws.FnUseTiersKeep", spec := "fnUseTiersKeep", apart := false, narrowed := true }
def FnUseTiersKeepUptoSaid : Prop := fnUseTiersKeepUptoRow.holds Try.pinned (OpenSpec.upto fnUseTiersKeepSpec)

/-- 'laws.FnRunTiers', WHERE WHAT IT READS IS OF BULK AT MOST 1048576: true; the input reads as it did. -/
def fnRunTiersUptoRow : OpenClaim := { program := "ytaajnkggomlppab", sum := "72162e59cc10603083b8ec35af338fa75074c8792f6e7e6c4212fd771fb386ac", func := "loop.example/cacheengine/laws.FnRunTiers", spec := "fnRunTiers", unfollowed := true, recurses := true, apart := false, narrowed := true }
def FnRunTiersUptoSaid : Prop := fnRunTiersUptoRow.holds Try.pinned (OpenSpec.upto fnRunTiersSpec)

/-- 'laws.FnRunTiersStep', WHERE WHAT IT READS IS OF BULK AT MOST 1048576: true; the input reads as it did. -/
def fnRunTiersStepUptoRow : OpenClaim := { program := "ytaajnkggomlppab", sum := "72162e59cc10603083b8ec35af338fa75074c8792f6e7e6c4212fd771fb386ac", func := "loop.example/cacheengine/laws.FnRunTiersStep", spec := "fnRunTiersStep", apart := false, narrowed := true }
def FnRunTiersStepUptoSaid : Prop := fnRunTiersStepUptoRow.holds Try.pinned (OpenSpec.upto fnRunTiersStepSpec)

/-- 'laws.FnAllKeys', WHERE WHAT IT READS IS OF BULK AT MOST 1048576: true; the input reads as it did. -/
def fnAllKeysUptoRow : OpenClaim := { program := "ytaajnkggomlppab", sum := "72162e59cc10603083b8ec35af338fa75074c8792f6e7e6c4212fd771fb386ac", func := "loop.example/cacheengine/laws.FnAllKeys", spec := "fnAllKeys", apart := false, narrowed := true }
def FnAllKeysUptoSaid : Prop := fnAllKeysUptoRow.holds Try.pinned (OpenSpec.upto fnAllKeysSpec)

/-- 'laws.FnUseTiersTwice', WHERE WHAT IT READS IS OF BULK AT MOST 1048576: true; the input reads as it did. -/
def fnUseTiersTwiceUptoRow : OpenClaim := { program := "ytaajnkggomlppab", sum := "72162e59cc10603083b8ec35af338fa75074c8792f6e7e6c4212fd771fb386ac", func := "loop.example/cacheengine/laws.FnUseTiersTwice", spec := "fnUseTiersTwice", apart := false, narrowed := true }
def FnUseTiersTwiceUptoSaid : Prop := fnUseTiersTwiceUptoRow.holds Try.pinned (OpenSpec.upto fnUseTiersTwiceSpec)

/-- 'laws.FnRunTiersCost', WHERE WHAT IT READS IS OF BULK AT MOST 1048576: true; the input reads as it did. -/
def fnRunTiersCostUptoRow : OpenClaim := { program := "ytaajnkggomlppab", sum := "72162e59cc10603083b8ec35af338fa75074c8792f6e7e6c4212fd771fb386ac", func := "loop.example/cacheengine/laws.FnRunTiersCost", spec := "fnRunTiersCost", apart := false, narrowed := true }
def FnRunTiersCostUptoSaid : Prop := fnRunTiersCostUptoRow.holds Try.pinned (OpenSpec.upto fnRunTiersCostSpec)

/-- 'laws.FnExactUseTiers', WHERE WHAT IT READS IS OF BULK AT MOST 1048576: true; the input reads as it did. -/
def fnExactUseTiersUptoRow : OpenClaim := { program := "ytaajnkggomlppab", sum := "72162e59cc10603083b8ec35af338fa75074c8792f6e7e6c4212fd771fb386ac", func := "loop.example/cacheengine/laws.FnExactUseTiers", spec := "fnExactUseTiers", apart := false, narrowed := true }
def FnExactUseTiersUptoSaid : Prop := fnExactUseTiersUptoRow.holds Try.pinned (OpenSpec.upto fnExactUseTiersSpec)

/-- 'laws.FnExactRunTiers', WHERE WHAT IT READS IS OF BULK AT MOST 1048576: true; the input reads as it did. -/
def fnExactRunTiersUptoRow : OpenClaim := { program := "ytaajnkggomlppab", sum := "72162e59cc10603083b8ec35af338fa75074c8792f6e7e6c4212fd771fb386ac", func := "loop.example/cacheengine/laws.FnExactRunTiers", spec := "fnExactRunTiers", apart := false, narrowed := true }
def FnExactRunTiersUptoSaid : Prop := fnExactRunTiersUptoRow.holds Try.pinned (OpenSpec.upto fnExactRunTiersSpec)

end Rows
end Go.Proofs.Ytaajnkggomlppab
