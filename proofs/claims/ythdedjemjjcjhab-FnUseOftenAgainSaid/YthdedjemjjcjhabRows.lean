/-
  No cell of these rows narrows 'for every input' (looked for: loops, veiled, ifaces, maps, wideKeys, modest, calm, conditions, laid).
  DERIVED. THE GIVEN ROWS OF THIS SEAT. 12 by the template 'for every input the law returns true; each argument reads behind the call as it read before'; 0 by the template 'total and deterministic' (their statements: YthdedjemjjcjhabTotals.lean).
  GIVEN WITH THE SEED: the statements are not yours to turn. If you find one false, say at which input.
  Laid BY PROGRAM, IN A SANDBOX (cutbox-rows.mjs): the forced cells as the released guide's own fill.sh prints them over the translation ee483e3c303dfb4c… (all of the seat's roots in one cut). By AI agents, Wed Nov 11 2026. No macro, syntax, notation, axiom, sorry.
-/
import Derived.Test.YthdedjemjjcjhabChecked
import GoSem.Claim
import GoSem.ClaimJoined
import GoSem.ClaimMapViews
import Derived.JoinedTies
import Derived.KernelRfl
namespace Go.Proofs.Ythdedjemjjcjhab
/- THE CELL 'sum', in the pinned program and in every row, IS THE sha256 OF THE DUMP (.gsa) THAT YthdedjemjjcjhabProg.lean LOADS. Nothing in Lean hashes anything: it is a label: what it is worth is what the hold of that sum in a sandbox is worth. -/
noncomputable def Try.pinned : Pinned := { name := "ythdedjemjjcjhab", sum := "ee483e3c303dfb4c84ae0e9ae9aa7b07ee5100caf2b703fc71522d816d7e4235", checked := Try.checked }
namespace Rows
def none {H : Type} : Left H := { results := [], args := [] }

/-- 'laws.FnRunLists': WHATEVER THE INPUT: true; the input reads as it did. -/
def fnRunListsSpec : ChangeSpec := { name := "fnRunLists", fn := fun _ => fun
  | [d] => { results := [.lit (.bool true)], args := [d] }
  | _ => none }
def fnRunListsRow : OpenClaim := { program := "ythdedjemjjcjhab", sum := "ee483e3c303dfb4c84ae0e9ae9aa7b07ee5100caf2b703fc71522d816d7e4235", func := "loop.example/cacheengine/laws.FnRunLists", spec := "fnRunLists", unfollowed := true, recurses := true, apart := false }
def FnRunListsSaid : Prop := fnRunListsRow.holds Try.pinned (OpenSpec.ofChange fnRunListsSpec)

/-- ITS FALSE NEIGHBOUR: 'it returns false'. Refute it at one input. -/
def fnRunListsWrong : ChangeSpec := { name := "fnRunLists", fn := fun _ => fun
  | [d] => { results := [.lit (.bool false)], args := [d] }
  | _ => none }
def FnRunListsWrongFalsely : Prop := fnRunListsRow.holds Try.pinned (OpenSpec.ofChange fnRunListsWrong)

/-- 'laws.FnCachedKeys': WHATEVER THE INPUT: true; the input reads as it did. -/
def fnCachedKeysSpec : ChangeSpec := { name := "fnCachedKeys", fn := fun _ => fun
  | [d] => { results := [.lit (.bool true)], args := [d] }
  | _ => none }
def fnCachedKeysRow : OpenClaim := { program := "ythdedjemjjcjhab", sum := "ee483e3c303dfb4c84ae0e9ae9aa7b07ee5100caf2b703fc71522d816d7e4235", func := "loop.example/cacheengine/laws.FnCachedKeys", spec := "fnCachedKeys", apart := false }
def FnCachedKeysSaid : Prop := fnCachedKeysRow.holds Try.pinned (OpenSpec.ofChange fnCachedKeysSpec)

/-- ITS FALSE NEIGHBOUR: 'it returns false'. Refute it at one input. -/
def fnCachedKeysWrong : ChangeSpec := { name := "fnCachedKeys", fn := fun _ => fun
  | [d] => { results := [.lit (.bool false)], args := [d] }
  | _ => none }
def FnCachedKeysWrongFalsely : Prop := fnCachedKeysRow.holds Try.pinned (OpenSpec.ofChange fnCachedKeysWrong)

/-- 'laws.FnUseOftenAgain': WHATEVER THE INPUT: true; the input reads as it did. -/
def fnUseOftenAgainSpec : ChangeSpec := { name := "fnUseOftenAgain", fn := fun _ => fun
  | [d] => { results := [.lit (.bool true)], args := [d] }
  | _ => none }
def fnUseOftenAgainRow : OpenClaim := { program := "ythdedjemjjcjhab", sum := "ee483e3c303dfb4c84ae0e9ae9aa7b07ee5100caf2b703fc71522d816d7e4235", func := "loop.example/cacheengine/laws.FnUseOftenAgain", spec := "fnUseOftenAgain", unfollowed := true, recurses := true, apart := false }
def FnUseOftenAgainSaid : Prop := fnUseOftenAgainRow.holds Try.pinned (OpenSpec.ofChange fnUseOftenAgainSpec)

/-- ITS FALSE NEIGHBOUR: 'it returns false'. Refute it at one input. -/
def fnUseOftenAgainWrong : ChangeSpec := { name := "fnUseOftenAgain", fn := fun _ => fun
  | [d] => { results := [.lit (.bool false)], args := [d] }
  | _ => none }
def FnUseOftenAgainWrongFalsely : Prop := fnUseOftenAgainRow.holds Try.pinned (OpenSpec.ofChange fnUseOftenAgainWrong)

/-- 'laws.FnUseListsTwice': WHATEVER THE INPUT: true; the input reads as it did. -/
def fnUseListsTwiceSpec : ChangeSpec := { name := "fnUseListsTwice", fn := fun _ => fun
  | [d] => { results := [.lit (.bool true)], args := [d] }
  | _ => none }
def fnUseListsTwiceRow : OpenClaim := { program := "ythdedjemjjcjhab", sum := "ee483e3c303dfb4c84ae0e9ae9aa7b07ee5100caf2b703fc71522d816d7e4235", func := "loop.example/cacheengine/laws.FnUseListsTwice", spec := "fnUseListsTwice", apart := false }
def FnUseListsTwiceSaid : Prop := fnUseListsTwiceRow.holds Try.pinned (OpenSpec.ofChange fnUseListsTwiceSpec)

/-- ITS FALSE NEIGHBOUR: 'it returns false'. Refute it at one input. -/
def fnUseListsTwiceWrong : ChangeSpec := { name := "fnUseListsTwice", fn := fun _ => fun
  | [d] => { results := [.lit (.bool false)], args := [d] }
  | _ => none }
def FnUseListsTwiceWrongFalsely : Prop := fnUseListsTwiceRow.holds Try.pinned (OpenSpec.ofChange fnUseListsTwiceWrong)

/-- 'laws.FnUseListsGhost': WHATEVER THE INPUT: true; the input reads as it did. -/
def fnUseListsGhostSpec : ChangeSpec := { name := "fnUseListsGhost", fn := fun _ => fun
  | [d] => { results := [.lit (.bool true)], args := [d] }
  | _ => none }
def fnUseListsGhostRow : OpenClaim := { program := "ythdedjemjjcjhab", sum := "ee483e3c303dfb4c84ae0e9ae9aa7b07ee5100caf2b703fc71522d816d7e4235", func := "loop.example/cacheengine/laws.FnUseListsGhost", spec := "fnUseListsGhost", apart := false }
def FnUseListsGhostSaid : Prop := fnUseListsGhostRow.holds Try.pinned (OpenSpec.ofChange fnUseListsGhostSpec)

/-- ITS FALSE NEIGHBOUR: 'it returns false'. Refute it at one input. -/
def fnUseListsGhostWrong : ChangeSpec := { name := "fnUseListsGhost", fn := fun _ => fun
  | [d] => { results := [.lit (.bool false)], args := [d] }
  | _ => none }
def FnUseListsGhostWrongFalsely : Prop := fnUseListsGhostRow.holds Try.pinned (OpenSpec.ofChange fnUseListsGhostWrong)

/-- 'laws.FnExactValidEntries': WHATEVER THE INPUT: true; the input reads as it did. -/
def fnExactValidEntriesSpec : ChangeSpec := { name := "fnExactValidEntries", fn := fun _ => fun
  | [d1, d2] => { results := [.lit (.bool true)], args := [d1, d2] }
  | _ => none }
def fnExactValidEntriesRow : OpenClaim := { program := "ythdedjemjjcjhab", sum := "ee483e3c303dfb4c84ae0e9ae9aa7b07ee5100caf2b703fc71522d816d7e4235", func := "loop.example/cacheengine/laws.FnExactValidEntries", spec := "fnExactValidEntries", unfollowed := true, recurses := true, apart := false }
def FnExactValidEntriesSaid : Prop := fnExactValidEntriesRow.holds Try.pinned (OpenSpec.ofChange fnExactValidEntriesSpec)

/-- ITS FALSE NEIGHBOUR: 'it returns false'. Refute it at one input. -/
def fnExactValidEntriesWrong : ChangeSpec := { name := "fnExactValidEntries", fn := fun _ => fun
  | [d1, d2] => { results := [.lit (.bool false)], args := [d1, d2] }
  | _ => none }
def FnExactValidEntriesWrongFalsely : Prop := fnExactValidEntriesRow.holds Try.pinned (OpenSpec.ofChange fnExactValidEntriesWrong)

/-- 'laws.FnExactUseOften': WHATEVER THE INPUT: true; the input reads as it did. -/
def fnExactUseOftenSpec : ChangeSpec := { name := "fnExactUseOften", fn := fun _ => fun
  | [d1, d2, d3, d4] => { results := [.lit (.bool true)], args := [d1, d2, d3, d4] }
  | _ => none }
def fnExactUseOftenRow : OpenClaim := { program := "ythdedjemjjcjhab", sum := "ee483e3c303dfb4c84ae0e9ae9aa7b07ee5100caf2b703fc71522d816d7e4235", func := "loop.example/cacheengine/laws.FnExactUseOften", spec := "fnExactUseOften", unfollowed := true, recurses := true, apart := false }
def FnExactUseOftenSaid : Prop := fnExactUseOftenRow.holds Try.pinned (OpenSpec.ofChange fnExactUseOftenSpec)

/-- ITS FALSE NEIGHBOUR: 'it returns false'. Refute it at one input. -/
def fnExactUseOftenWrong : ChangeSpec := { name := "fnExactUseOften", fn := fun _ => fun
  | [d1, d2, d3, d4] => { results := [.lit (.bool false)], args := [d1, d2, d3, d4] }
  | _ => none }
def FnExactUseOftenWrongFalsely : Prop := fnExactUseOftenRow.holds Try.pinned (OpenSpec.ofChange fnExactUseOftenWrong)

/-- 'laws.FnExactRunOften': WHATEVER THE INPUT: true; the input reads as it did. -/
def fnExactRunOftenSpec : ChangeSpec := { name := "fnExactRunOften", fn := fun _ => fun
  | [d1, d2] => { results := [.lit (.bool true)], args := [d1, d2] }
  | _ => none }
def fnExactRunOftenRow : OpenClaim := { program := "ythdedjemjjcjhab", sum := "ee483e3c303dfb4c84ae0e9ae9aa7b07ee5100caf2b703fc71522d816d7e4235", func := "loop.example/cacheengine/laws.FnExactRunOften", spec := "fnExactRunOften", unfollowed := true, recurses := true, apart := false }
def FnExactRunOftenSaid : Prop := fnExactRunOftenRow.holds Try.pinned (OpenSpec.ofChange fnExactRunOftenSpec)

/-- ITS FALSE NEIGHBOUR: 'it returns false'. Refute it at one input. -/
def fnExactRunOftenWrong : ChangeSpec := { name := "fnExactRunOften", fn := fun _ => fun
  | [d1, d2] => { results := [.lit (.bool false)], args := [d1, d2] }
  | _ => none }
def FnExactRunOftenWrongFalsely : Prop := fnExactRunOftenRow.holds Try.pinned (OpenSpec.ofChange fnExactRunOftenWrong)

/-- 'laws.FnExactAgeEntries': WHATEVER THE INPUT: true; the input reads as it did. -/
def fnExactAgeEntriesSpec : ChangeSpec := { name := "fnExactAgeEntries", fn := fun _ => fun
  | [d1, d2] => { results := [.lit (.bool true)], args := [d1, d2] }
  | _ => none }
def fnExactAgeEntriesRow : OpenClaim := { program := "ythdedjemjjcjhab", sum := "ee483e3c303dfb4c84ae0e9ae9aa7b07ee5100caf2b703fc71522d816d7e4235", func := "loop.example/cacheengine/laws.FnExactAgeEntries", spec := "fnExactAgeEntries", unfollowed := true, recurses := true, apart := false }
def FnExactAgeEntriesSaid : Prop := fnExactAgeEntriesRow.holds Try.pinned (OpenSpec.ofChange fnExactAgeEntriesSpec)

/-- ITS FALSE NEIGHBOUR: 'it returns false'. Refute it at one input. -/
def fnExactAgeEntriesWrong : ChangeSpec := { name := "fnExactAgeEntries", fn := fun _ => fun
  | [d1, d2] => { results := [.lit (.bool false)], args := [d1, d2] }
  | _ => none }
def FnExactAgeEntriesWrongFalsely : Prop := fnExactAgeEntriesRow.holds Try.pinned (OpenSpec.ofChange fnExactAgeEntriesWrong)

/-- 'laws.FnExactRarestKey': WHATEVER THE INPUT: true; the input reads as it did. -/
def fnExactRarestKeySpec : ChangeSpec := { name := "fnExactRarestKey", fn := fun _ => fun
  | [d1, d2] => { results := [.lit (.bool true)], args := [d1, d2] }
  | _ => none }
def fnExactRarestKeyRow : OpenClaim := { program := "ythdedjemjjcjhab", sum := "ee483e3c303dfb4c84ae0e9ae9aa7b07ee5100caf2b703fc71522d816d7e4235", func := "loop.example/cacheengine/laws.FnExactRarestKey", spec := "fnExactRarestKey", unfollowed := true, recurses := true, apart := false }
def FnExactRarestKeySaid : Prop := fnExactRarestKeyRow.holds Try.pinned (OpenSpec.ofChange fnExactRarestKeySpec)

/-- ITS FALSE NEIGHBOUR: 'it returns false'. Refute it at one input. -/
def fnExactRarestKeyWrong : ChangeSpec := { name := "fnExactRarestKey", fn := fun _ => fun
  | [d1, d2] => { results := [.lit (.bool false)], args := [d1, d2] }
  | _ => none }
def FnExactRarestKeyWrongFalsely : Prop := fnExactRarestKeyRow.holds Try.pinned (OpenSpec.ofChange fnExactRarestKeyWrong)

/-- 'laws.FnExactValidLists': WHATEVER THE INPUT: true; the input reads as it did. -/
def fnExactValidListsSpec : ChangeSpec := { name := "fnExactValidLists", fn := fun _ => fun
  | [d] => { results := [.lit (.bool true)], args := [d] }
  | _ => none }
def fnExactValidListsRow : OpenClaim := { program := "ythdedjemjjcjhab", sum := "ee483e3c303dfb4c84ae0e9ae9aa7b07ee5100caf2b703fc71522d816d7e4235", func := "loop.example/cacheengine/laws.FnExactValidLists", spec := "fnExactValidLists", apart := false }
def FnExactValidListsSaid : Prop := fnExactValidListsRow.holds Try.pinned (OpenSpec.ofChange fnExactValidListsSpec)

/-- ITS FALSE NEIGHBOUR: 'it returns false'. Refute it at one input. -/
def fnExactValidListsWrong : ChangeSpec := { name := "fnExactValidLists", fn := fun _ => fun
  | [d] => { results := [.lit (.bool false)], args := [d] }
  | _ => none }
def FnExactValidListsWrongFalsely : Prop := fnExactValidListsRow.holds Try.pinned (OpenSpec.ofChange fnExactValidListsWrong)

/-- 'laws.FnExactUseLists': WHATEVER THE INPUT: true; the input reads as it did. -/
def fnExactUseListsSpec : ChangeSpec := { name := "fnExactUseLists", fn := fun _ => fun
  | [d1, d2] => { results := [.lit (.bool true)], args := [d1, d2] }
  | _ => none }
def fnExactUseListsRow : OpenClaim := { program := "ythdedjemjjcjhab", sum := "ee483e3c303dfb4c84ae0e9ae9aa7b07ee5100caf2b703fc71522d816d7e4235", func := "loop.example/cacheengine/laws.FnExactUseLists", spec := "fnExactUseLists", apart := false }
def FnExactUseListsSaid : Prop := fnExactUseListsRow.holds Try.pinned (OpenSpec.ofChange fnExactUseListsSpec)

/-- ITS FALSE NEIGHBOUR: 'it returns false'. Refute it at one input. -/
def fnExactUseListsWrong : ChangeSpec := { name := "fnExactUseLists", fn := fun _ => fun
  | [d1, d2] => { results := [.lit (.bool false)], args := [d1, d2] }
  | _ => none }
def FnExactUseListsWrongFalsely : Prop := fnExactUseListsRow.holds Try.pinned (OpenSpec.ofChange fnExactUseListsWrong)

/- THE SECOND FORM. 'bulk': how many values and letters a reading holds, each counted each time it is reached (what is shared counts as often as it is met; a slice's spare places count too). A statement '..UptoSaid' is the law's where the arguments, and the package variables that the reading takes, are together of bulk at most 1048576: NARROWER than '..Said'. Prove '..Said' where nothing that the law and all that it calls make is longer than what came in: it says more and counts as full. Else prove '..UptoSaid'. A law counts once. -/
mutual
def uptoBulk {H : Type} : DataW H → Nat
  | .lit (.string bytes) => bytes.length + 1
  | .lit _ => 1
  | .nil => 1
  | .ptr d => uptoBulk d + 1
  | .slice elems spare => uptoBulkAll elems + uptoBulkAll spare + 1
  | .agg parts => uptoBulkAll parts + 1
  | .iface _ d => uptoBulk d + 1
  | .map entries => uptoBulkEntries entries + 1
  | .held _ => 1
def uptoBulkAll {H : Type} : List (DataW H) → Nat
  | [] => 0
  | d :: r => uptoBulk d + uptoBulkAll r
def uptoBulkEntries {H : Type} : List (Lit × DataW H) → Nat
  | [] => 0
  | x :: r => uptoBulkEntry x + uptoBulkEntries r
def uptoBulkEntry {H : Type} : Lit × DataW H → Nat
  | (.string bytes, d) => bytes.length + uptoBulk d + 1
  | (_, d) => uptoBulk d + 1
 end
def uptoSmall : (H : Type) → List (DataW H) → Bool := fun _ ds => decide (uptoBulkAll ds ≤ 1048576)
def OpenSpec.upto (s : _root_.Go.ChangeSpec) : _root_.Go.OpenSpec := { _root_.Go.OpenSpec.ofChange s with cond := some uptoSmall }

/-- 'laws.FnRunLists', WHERE WHAT IT READS IS OF BULK AT MOST 1048576: true; the input reads as it did. -/
def fnRunListsUptoRow : OpenClaim := { program := "ythdedjemjjcjhab", sum := "ee483e3c303dfb4c84ae0e9ae9aa7b07ee5100caf2b703fc71522d816d7e4235", func := "loop.example/cacheengine/laws.FnRunLists", spec := "fnRunLists", unfollowed := true, recurses := true, apart := false, narrowed := true }
def FnRunListsUptoSaid : Prop := fnRunListsUptoRow.holds Try.pinned (OpenSpec.upto fnRunListsSpec)

/-- 'laws.FnCachedKeys', WHERE WHAT IT READS IS OF BULK AT MOST 1048576: true; the input reads as it did. -/
def fnCachedKeysUptoRow : OpenClaim := { program := "ythdedjemjjcjhab", sum := "ee483e3c303dfb4c84ae0e9ae9aa7b07ee5100caf2b703fc71522d816d7e4235", func := "loop.example/cacheengine/laws.FnCachedKeys", spec := "fnCachedKeys", apart := false, narrowed := true }
def FnCachedKeysUptoSaid : Prop := fnCachedKeysUptoRow.holds Try.pinned (OpenSpec.upto fnCachedKeysSpec)

/-- 'laws.FnUseOftenAgain', WHERE WHAT IT READS IS OF BULK AT MOST 1048576: true; the input reads as it did. -/
def fnUseOftenAgainUptoRow : OpenClaim := { program := "ythdedjemjjcjhab", sum := "ee483e3c303dfb4c84ae0e9ae9aa7b07ee5100caf2b703fc71522d816d7e4235", func := "loop.example/cacheengine/laws.FnUseOftenAgain", spec := "fnUseOftenAgain", unfollowed := true, recurses := true, apart := false, narrowed := true }
def FnUseOftenAgainUptoSaid : Prop := fnUseOftenAgainUptoRow.holds Try.pinned (OpenSpec.upto fnUseOftenAgainSpec)

/-- 'laws.FnUseListsTwice', WHERE WHAT IT READS IS OF BULK AT MOST 1048576: true; the input reads as it did. -/
def fnUseListsTwiceUptoRow : OpenClaim := { program := "ythdedjemjjcjhab", sum := "ee483e3c303dfb4c84ae0e9ae9aa7b07ee5100caf2b703fc71522d816d7e4235", func := "loop.example/cacheengine/laws.FnUseListsTwice", spec := "fnUseListsTwice", apart := false, narrowed := true }
def FnUseListsTwiceUptoSaid : Prop := fnUseListsTwiceUptoRow.holds Try.pinned (OpenSpec.upto fnUseListsTwiceSpec)

/-- 'laws.FnUseListsGhost', WHERE WHAT IT READS IS OF BULK AT MOST 1048576: true; the input reads as it did. -/
def fnUseListsGhostUptoRow : OpenClaim := { program := "ythdedjemjjcjhab", sum := "ee483e3c303dfb4c84ae0e9ae9aa7b07ee5100caf2b703fc71522d816d7e4235", func := "loop.example/cacheengine/laws.FnUseListsGhost", spec := "fnUseListsGhost", apart := false, narrowed := true }
def FnUseListsGhostUptoSaid : Prop := fnUseListsGhostUptoRow.holds Try.pinned (OpenSpec.upto fnUseListsGhostSpec)

/-- 'laws.FnExactValidEntries', WHERE WHAT IT READS IS OF BULK AT MOST 1048576: true; the input reads as it did. -/
def fnExactValidEntriesUptoRow : OpenClaim := { program := "ythdedjemjjcjhab", sum := "ee483e3c303dfb4c84ae0e9ae9aa7b07ee5100caf2b703fc71522d816d7e4235", func := "loop.example/cacheengine/laws.FnExactValidEntries", spec := "fnExactValidEntries", unfollowed := true, recurses := true, apart := false, narrowed := true }
def FnExactValidEntriesUptoSaid : Prop := fnExactValidEntriesUptoRow.holds Try.pinned (OpenSpec.upto fnExactValidEntriesSpec)

/-- 'laws.FnExactUseOften', WHERE WHAT IT READS IS OF BULK AT MOST 1048576: true; the input reads as it did. -/
def fnExactUseOftenUptoRow : OpenClaim := { program := "ythdedjemjjcjhab", sum := "ee483e3c303dfb4c84ae0e9ae9aa7b07ee5100caf2b703fc71522d816d7e4235", func := "loop.example/cacheengine/laws.FnExactUseOften", spec := "fnExactUseOften", unfollowed := true, recurses := true, apart := false, narrowed := true }
def FnExactUseOftenUptoSaid : Prop := fnExactUseOftenUptoRow.holds Try.pinned (OpenSpec.upto fnExactUseOftenSpec)

/-- 'laws.FnExactRunOften', WHERE WHAT IT READS IS OF BULK AT MOST 1048576: true; the input reads as it did. -/
def fnExactRunOftenUptoRow : OpenClaim := { program := "ythdedjemjjcjhab", sum := "ee483e3c303dfb4c84ae0e9ae9aa7b07ee5100caf2b703fc71522d816d7e4235", func := "loop.example/cacheengine/laws.FnExactRunOften", spec := "fnExactRunOften", unfollowed := true, recurses := true, apart := false, narrowed := true }
def FnExactRunOftenUptoSaid : Prop := fnExactRunOftenUptoRow.holds Try.pinned (OpenSpec.upto fnExactRunOftenSpec)

/-- 'laws.FnExactAgeEntries', WHERE WHAT IT READS IS OF BULK AT MOST 1048576: true; the input reads as it did. -/
def fnExactAgeEntriesUptoRow : OpenClaim := { program := "ythdedjemjjcjhab", sum := "ee483e3c303dfb4c84ae0e9ae9aa7b07ee5100caf2b703fc71522d816d7e4235", func := "loop.example/cacheengine/laws.FnExactAgeEntries", spec := "fnExactAgeEntries", unfollowed := true, recurses := true, apart := false, narrowed := true }
def FnExactAgeEntriesUptoSaid : Prop := fnExactAgeEntriesUptoRow.holds Try.pinned (OpenSpec.upto fnExactAgeEntriesSpec)

/-- 'laws.FnExactRarestKey', WHERE WHAT IT READS IS OF BULK AT MOST 1048576: true; the input reads as it did. -/
def fnExactRarestKeyUptoRow : OpenClaim := { program := "ythdedjemjjcjhab", sum := "ee483e3c303dfb4c84ae0e9ae9aa7b07ee5100caf2b703fc71522d816d7e4235", func := "loop.example/cacheengine/laws.FnExactRarestKey", spec := "fnExactRarestKey", unfollowed := true, recurses := true, apart := false, narrowed := true }
def FnExactRarestKeyUptoSaid : Prop := fnExactRarestKeyUptoRow.holds Try.pinned (OpenSpec.upto fnExactRarestKeySpec)

/-- 'laws.FnExactValidLists', WHERE WHAT IT READS IS OF BULK AT MOST 1048576: true; the input reads as it did. -/
def fnExactValidListsUptoRow : OpenClaim := { program := "ythdedjemjjcjhab", sum := "ee483e3c303dfb4c84ae0e9ae9aa7b07ee5100caf2b703fc71522d816d7e4235", func := "loop.example/cacheengine/laws.FnExactValidLists", spec := "fnExactValidLists", apart := false, narrowed := true }
def FnExactValidListsUptoSaid : Prop := fnExactValidListsUptoRow.holds Try.pinned (OpenSpec.upto fnExactValidListsSpec)

/-- 'laws.FnExactUseLists', WHERE WHAT IT READS IS OF BULK AT MOST 1048576: true; the input reads as it did. -/
def fnExactUseListsUptoRow : OpenClaim := { program := "ythdedjemjjcjhab", sum := "ee483e3c303dfb4c84ae0e9ae9aa7b07ee5100caf2b703fc71522d816d7e4235", func := "loop.example/cacheengine/laws.FnExactUseLists", spec := "fnExactUseLists", apart := false, narrowed := true }
def FnExactUseListsUptoSaid : Prop := fnExactUseListsUptoRow.holds Try.pinned (OpenSpec.upto fnExactUseListsSpec)

end Rows
end Go.Proofs.Ythdedjemjjcjhab
