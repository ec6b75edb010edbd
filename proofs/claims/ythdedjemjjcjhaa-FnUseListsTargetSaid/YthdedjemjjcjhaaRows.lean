/-
  No cell of these rows narrows 'for every input' (looked for: loops, veiled, ifaces, maps, wideKeys, modest, calm, conditions, laid).
  DERIVED. THE GIVEN ROWS OF THIS SEAT. 12 by the template 'for every input the law returns true; each argument reads behind the call as it read before'; 0 by the template 'total and deterministic' (their statements: YthdedjemjjcjhaaTotals.lean).
  GIVEN WITH THE SEED: the statements are not yours to turn. If you find one false, say at which input.
  Laid BY PROGRAM, IN A SANDBOX (cutbox-rows.mjs): the forced cells as the released guide's own fill.sh prints them over the translation 2a9a58a9ce70f0b9… (all of the seat's roots in one cut). By AI agents, Wed Nov 11 2026. No macro, syntax, notation, axiom, sorry.
-/
import Derived.Test.YthdedjemjjcjhaaChecked
import GoSem.Claim
import GoSem.ClaimJoined
import GoSem.ClaimMapViews
import Derived.JoinedTies
import Derived.KernelRfl
namespace Go.Proofs.Ythdedjemjjcjhaa
/- THE CELL 'sum', in the pinned program and in every row, IS THE sha256 OF THE DUMP (.gsa) THAT YthdedjemjjcjhaaProg.lean LOADS. Nothing in Lean hashes anything: it is a label: what it is worth is what the hold of that sum in a sandbox is worth. -/
noncomputable def Try.pinned : Pinned := { name := "ythdedjemjjcjhaa", sum := "2a9a58a9ce70f0b9e2b456d4248a407a80f6a1c3997cc09d7e89fb096307b539", checked := Try.checked }
namespace Rows
def none {H : Type} : Left H := { results := [], args := [] }

/-- 'laws.FnValidEntries': WHATEVER THE INPUT: true; the input reads as it did. -/
def fnValidEntriesSpec : ChangeSpec := { name := "fnValidEntries", fn := fun _ => fun
  | [d] => { results := [.lit (.bool true)], args := [d] }
  | _ => none }
def fnValidEntriesRow : OpenClaim := { program := "ythdedjemjjcjhaa", sum := "2a9a58a9ce70f0b9e2b456d4248a407a80f6a1c3997cc09d7e89fb096307b539", func := "loop.example/cacheengine/laws.FnValidEntries", spec := "fnValidEntries", unfollowed := true, recurses := true, apart := false }
def FnValidEntriesSaid : Prop := fnValidEntriesRow.holds Try.pinned (OpenSpec.ofChange fnValidEntriesSpec)

/-- ITS FALSE NEIGHBOUR: 'it returns false'. Refute it at one input. -/
def fnValidEntriesWrong : ChangeSpec := { name := "fnValidEntries", fn := fun _ => fun
  | [d] => { results := [.lit (.bool false)], args := [d] }
  | _ => none }
def FnValidEntriesWrongFalsely : Prop := fnValidEntriesRow.holds Try.pinned (OpenSpec.ofChange fnValidEntriesWrong)

/-- 'laws.FnUseOften': WHATEVER THE INPUT: true; the input reads as it did. -/
def fnUseOftenSpec : ChangeSpec := { name := "fnUseOften", fn := fun _ => fun
  | [d] => { results := [.lit (.bool true)], args := [d] }
  | _ => none }
def fnUseOftenRow : OpenClaim := { program := "ythdedjemjjcjhaa", sum := "2a9a58a9ce70f0b9e2b456d4248a407a80f6a1c3997cc09d7e89fb096307b539", func := "loop.example/cacheengine/laws.FnUseOften", spec := "fnUseOften", unfollowed := true, recurses := true, apart := false }
def FnUseOftenSaid : Prop := fnUseOftenRow.holds Try.pinned (OpenSpec.ofChange fnUseOftenSpec)

/-- ITS FALSE NEIGHBOUR: 'it returns false'. Refute it at one input. -/
def fnUseOftenWrong : ChangeSpec := { name := "fnUseOften", fn := fun _ => fun
  | [d] => { results := [.lit (.bool false)], args := [d] }
  | _ => none }
def FnUseOftenWrongFalsely : Prop := fnUseOftenRow.holds Try.pinned (OpenSpec.ofChange fnUseOftenWrong)

/-- 'laws.FnUseOftenOthers': WHATEVER THE INPUT: true; the input reads as it did. -/
def fnUseOftenOthersSpec : ChangeSpec := { name := "fnUseOftenOthers", fn := fun _ => fun
  | [d] => { results := [.lit (.bool true)], args := [d] }
  | _ => none }
def fnUseOftenOthersRow : OpenClaim := { program := "ythdedjemjjcjhaa", sum := "2a9a58a9ce70f0b9e2b456d4248a407a80f6a1c3997cc09d7e89fb096307b539", func := "loop.example/cacheengine/laws.FnUseOftenOthers", spec := "fnUseOftenOthers", unfollowed := true, recurses := true, apart := false }
def FnUseOftenOthersSaid : Prop := fnUseOftenOthersRow.holds Try.pinned (OpenSpec.ofChange fnUseOftenOthersSpec)

/-- ITS FALSE NEIGHBOUR: 'it returns false'. Refute it at one input. -/
def fnUseOftenOthersWrong : ChangeSpec := { name := "fnUseOftenOthers", fn := fun _ => fun
  | [d] => { results := [.lit (.bool false)], args := [d] }
  | _ => none }
def FnUseOftenOthersWrongFalsely : Prop := fnUseOftenOthersRow.holds Try.pinned (OpenSpec.ofChange fnUseOftenOthersWrong)

/-- 'laws.FnRunOften': WHATEVER THE INPUT: true; the input reads as it did. -/
def fnRunOftenSpec : ChangeSpec := { name := "fnRunOften", fn := fun _ => fun
  | [d] => { results := [.lit (.bool true)], args := [d] }
  | _ => none }
def fnRunOftenRow : OpenClaim := { program := "ythdedjemjjcjhaa", sum := "2a9a58a9ce70f0b9e2b456d4248a407a80f6a1c3997cc09d7e89fb096307b539", func := "loop.example/cacheengine/laws.FnRunOften", spec := "fnRunOften", unfollowed := true, recurses := true, apart := false }
def FnRunOftenSaid : Prop := fnRunOftenRow.holds Try.pinned (OpenSpec.ofChange fnRunOftenSpec)

/-- ITS FALSE NEIGHBOUR: 'it returns false'. Refute it at one input. -/
def fnRunOftenWrong : ChangeSpec := { name := "fnRunOften", fn := fun _ => fun
  | [d] => { results := [.lit (.bool false)], args := [d] }
  | _ => none }
def FnRunOftenWrongFalsely : Prop := fnRunOftenRow.holds Try.pinned (OpenSpec.ofChange fnRunOftenWrong)

/-- 'laws.FnAgeEntries': WHATEVER THE INPUT: true; the input reads as it did. -/
def fnAgeEntriesSpec : ChangeSpec := { name := "fnAgeEntries", fn := fun _ => fun
  | [d] => { results := [.lit (.bool true)], args := [d] }
  | _ => none }
def fnAgeEntriesRow : OpenClaim := { program := "ythdedjemjjcjhaa", sum := "2a9a58a9ce70f0b9e2b456d4248a407a80f6a1c3997cc09d7e89fb096307b539", func := "loop.example/cacheengine/laws.FnAgeEntries", spec := "fnAgeEntries", unfollowed := true, recurses := true, apart := false }
def FnAgeEntriesSaid : Prop := fnAgeEntriesRow.holds Try.pinned (OpenSpec.ofChange fnAgeEntriesSpec)

/-- ITS FALSE NEIGHBOUR: 'it returns false'. Refute it at one input. -/
def fnAgeEntriesWrong : ChangeSpec := { name := "fnAgeEntries", fn := fun _ => fun
  | [d] => { results := [.lit (.bool false)], args := [d] }
  | _ => none }
def FnAgeEntriesWrongFalsely : Prop := fnAgeEntriesRow.holds Try.pinned (OpenSpec.ofChange fnAgeEntriesWrong)

/-- 'laws.FnAgeEntriesEnd': WHATEVER THE INPUT: true; the input reads as it did. -/
def fnAgeEntriesEndSpec : ChangeSpec := { name := "fnAgeEntriesEnd", fn := fun _ => fun
  | [d] => { results := [.lit (.bool true)], args := [d] }
  | _ => none }
def fnAgeEntriesEndRow : OpenClaim := { program := "ythdedjemjjcjhaa", sum := "2a9a58a9ce70f0b9e2b456d4248a407a80f6a1c3997cc09d7e89fb096307b539", func := "loop.example/cacheengine/laws.FnAgeEntriesEnd", spec := "fnAgeEntriesEnd", unfollowed := true, recurses := true, apart := false }
def FnAgeEntriesEndSaid : Prop := fnAgeEntriesEndRow.holds Try.pinned (OpenSpec.ofChange fnAgeEntriesEndSpec)

/-- ITS FALSE NEIGHBOUR: 'it returns false'. Refute it at one input. -/
def fnAgeEntriesEndWrong : ChangeSpec := { name := "fnAgeEntriesEnd", fn := fun _ => fun
  | [d] => { results := [.lit (.bool false)], args := [d] }
  | _ => none }
def FnAgeEntriesEndWrongFalsely : Prop := fnAgeEntriesEndRow.holds Try.pinned (OpenSpec.ofChange fnAgeEntriesEndWrong)

/-- 'laws.FnRarestKey': WHATEVER THE INPUT: true; the input reads as it did. -/
def fnRarestKeySpec : ChangeSpec := { name := "fnRarestKey", fn := fun _ => fun
  | [d] => { results := [.lit (.bool true)], args := [d] }
  | _ => none }
def fnRarestKeyRow : OpenClaim := { program := "ythdedjemjjcjhaa", sum := "2a9a58a9ce70f0b9e2b456d4248a407a80f6a1c3997cc09d7e89fb096307b539", func := "loop.example/cacheengine/laws.FnRarestKey", spec := "fnRarestKey", unfollowed := true, recurses := true, apart := false }
def FnRarestKeySaid : Prop := fnRarestKeyRow.holds Try.pinned (OpenSpec.ofChange fnRarestKeySpec)

/-- ITS FALSE NEIGHBOUR: 'it returns false'. Refute it at one input. -/
def fnRarestKeyWrong : ChangeSpec := { name := "fnRarestKey", fn := fun _ => fun
  | [d] => { results := [.lit (.bool false)], args := [d] }
  | _ => none }
def FnRarestKeyWrongFalsely : Prop := fnRarestKeyRow.holds Try.pinned (OpenSpec.ofChange fnRarestKeyWrong)

/-- 'laws.FnRarestKeyAge': WHATEVER THE INPUT: true; the input reads as it did. -/
def fnRarestKeyAgeSpec : ChangeSpec := { name := "fnRarestKeyAge", fn := fun _ => fun
  | [d] => { results := [.lit (.bool true)], args := [d] }
  | _ => none }
def fnRarestKeyAgeRow : OpenClaim := { program := "ythdedjemjjcjhaa", sum := "2a9a58a9ce70f0b9e2b456d4248a407a80f6a1c3997cc09d7e89fb096307b539", func := "loop.example/cacheengine/laws.FnRarestKeyAge", spec := "fnRarestKeyAge", unfollowed := true, recurses := true, apart := false }
def FnRarestKeyAgeSaid : Prop := fnRarestKeyAgeRow.holds Try.pinned (OpenSpec.ofChange fnRarestKeyAgeSpec)

/-- ITS FALSE NEIGHBOUR: 'it returns false'. Refute it at one input. -/
def fnRarestKeyAgeWrong : ChangeSpec := { name := "fnRarestKeyAge", fn := fun _ => fun
  | [d] => { results := [.lit (.bool false)], args := [d] }
  | _ => none }
def FnRarestKeyAgeWrongFalsely : Prop := fnRarestKeyAgeRow.holds Try.pinned (OpenSpec.ofChange fnRarestKeyAgeWrong)

/-- 'laws.FnValidLists': WHATEVER THE INPUT: true; the input reads as it did. -/
def fnValidListsSpec : ChangeSpec := { name := "fnValidLists", fn := fun _ => fun
  | [d] => { results := [.lit (.bool true)], args := [d] }
  | _ => none }
def fnValidListsRow : OpenClaim := { program := "ythdedjemjjcjhaa", sum := "2a9a58a9ce70f0b9e2b456d4248a407a80f6a1c3997cc09d7e89fb096307b539", func := "loop.example/cacheengine/laws.FnValidLists", spec := "fnValidLists", apart := false }
def FnValidListsSaid : Prop := fnValidListsRow.holds Try.pinned (OpenSpec.ofChange fnValidListsSpec)

/-- ITS FALSE NEIGHBOUR: 'it returns false'. Refute it at one input. -/
def fnValidListsWrong : ChangeSpec := { name := "fnValidLists", fn := fun _ => fun
  | [d] => { results := [.lit (.bool false)], args := [d] }
  | _ => none }
def FnValidListsWrongFalsely : Prop := fnValidListsRow.holds Try.pinned (OpenSpec.ofChange fnValidListsWrong)

/-- 'laws.FnUseLists': WHATEVER THE INPUT: true; the input reads as it did. -/
def fnUseListsSpec : ChangeSpec := { name := "fnUseLists", fn := fun _ => fun
  | [d] => { results := [.lit (.bool true)], args := [d] }
  | _ => none }
def fnUseListsRow : OpenClaim := { program := "ythdedjemjjcjhaa", sum := "2a9a58a9ce70f0b9e2b456d4248a407a80f6a1c3997cc09d7e89fb096307b539", func := "loop.example/cacheengine/laws.FnUseLists", spec := "fnUseLists", apart := false }
def FnUseListsSaid : Prop := fnUseListsRow.holds Try.pinned (OpenSpec.ofChange fnUseListsSpec)

/-- ITS FALSE NEIGHBOUR: 'it returns false'. Refute it at one input. -/
def fnUseListsWrong : ChangeSpec := { name := "fnUseLists", fn := fun _ => fun
  | [d] => { results := [.lit (.bool false)], args := [d] }
  | _ => none }
def FnUseListsWrongFalsely : Prop := fnUseListsRow.holds Try.pinned (OpenSpec.ofChange fnUseListsWrong)

/-- 'laws.FnUseListsTarget': WHATEVER THE INPUT: true; the input reads as it did. -/
def fnUseListsTargetSpec : ChangeSpec := { name := "fnUseListsTarget", fn := fun _ => fun
  | [d] => { results := [.lit (.bool true)], args := [d] }
  | _ => none }
def fnUseListsTargetRow : OpenClaim := { program := "ythdedjemjjcjhaa", sum := "2a9a58a9ce70f0b9e2b456d4248a407a80f6a1c3997cc09d7e89fb096307b539", func := "loop.example/cacheengine/laws.FnUseListsTarget", spec := "fnUseListsTarget", apart := false }
def FnUseListsTargetSaid : Prop := fnUseListsTargetRow.holds Try.pinned (OpenSpec.ofChange fnUseListsTargetSpec)

/-- ITS FALSE NEIGHBOUR: 'it returns false'. Refute it at one input. -/
def fnUseListsTargetWrong : ChangeSpec := { name := "fnUseListsTarget", fn := fun _ => fun
  | [d] => { results := [.lit (.bool false)], args := [d] }
  | _ => none }
def FnUseListsTargetWrongFalsely : Prop := fnUseListsTargetRow.holds Try.pinned (OpenSpec.ofChange fnUseListsTargetWrong)

/-- 'laws.FnUseListsCache': WHATEVER THE INPUT: true; the input reads as it did. -/
def fnUseListsCacheSpec : ChangeSpec := { name := "fnUseListsCache", fn := fun _ => fun
  | [d] => { results := [.lit (.bool true)], args := [d] }
  | _ => none }
def fnUseListsCacheRow : OpenClaim := { program := "ythdedjemjjcjhaa", sum := "2a9a58a9ce70f0b9e2b456d4248a407a80f6a1c3997cc09d7e89fb096307b539", func := "loop.example/cacheengine/laws.FnUseListsCache", spec := "fnUseListsCache", apart := false }
def FnUseListsCacheSaid : Prop := fnUseListsCacheRow.holds Try.pinned (OpenSpec.ofChange fnUseListsCacheSpec)

/-- ITS FALSE NEIGHBOUR: 'it returns false'. Refute it at one input. -/
def fnUseListsCacheWrong : ChangeSpec := { name := "fnUseListsCache", fn := fun _ => fun
  | [d] => { results := [.lit (.bool false)], args := [d] }
  | _ => none }
def FnUseListsCacheWrongFalsely : Prop := fnUseListsCacheRow.holds Try.pinned (OpenSpec.ofChange fnUseListsCacheWrong)

/- THE SECOND FORM. 'bulk': how many values and letters a reading holds, each counted each time it is reached (what is shared counts as often as it is met; a slice's spare places count too). A statement '..UptoSaid' is the law's where the arguments, and the package variables that the reading takes, are together of bulk at most 1048576: NARROWER than '..Said'. Prove '..Said' where nothing that the law and all that it calls make is longer than what came in: it says more and counts as full. Else prove '..UptoSaid'. A law counts once. -/
mutual
def uptoBulk {H : Type} : DataW H → Nat
  | .lit (.string bytes) => bytes.length + 1
  | .lit _ => 1
  | .nil => 1
  | .ptr d => uptoBulk d + 1
  | .slice elems spare => uptoBulkAll elems + uptoBulkAll spare + 1
  | .agg parts => uptoBulkAll parts + 1
  | .iface _ d => uptoBulk d + 1
  | .map entries => uptoBulkEntries entries + 1
  | .held _ => 1
def uptoBulkAll {H : Type} : List (DataW H) → Nat
  | [] => 0
  | d :: r => uptoBulk d + uptoBulkAll r
def uptoBulkEntries {H : Type} : List (Lit × DataW H) → Nat
  | [] => 0
  | x :: r => uptoBulkEntry x + uptoBulkEntries r
def uptoBulkEntry {H : Type} : Lit × DataW H → Nat
  | (.string bytes, d) => bytes.length + uptoBulk d + 1
  | (_, d) => uptoBulk d + 1
 end
def uptoSmall : (H : Type) → List (DataW H) → Bool := fun _ ds => decide (uptoBulkAll ds ≤ 1048576)
def OpenSpec.upto (s : _root_.Go.ChangeSpec) : _root_.Go.OpenSpec := { _root_.Go.OpenSpec.ofChange s with cond := some uptoSmall }

/-- 'laws.FnValidEntries', WHERE WHAT IT READS IS OF BULK AT MOST 1048576: true; the input reads as it did. -/
def fnValidEntriesUptoRow : OpenClaim := { program := "ythdedjemjjcjhaa", sum := "2a9a58a9ce70f0b9e2b456d4248a407a80f6a1c3997cc09d7e89fb096307b539", func := "loop.example/cacheengine/laws.FnValidEntries", spec := "fnValidEntries", unfollowed := true, recurses := true, apart := false, narrowed := true }
def FnValidEntriesUptoSaid : Prop := fnValidEntriesUptoRow.holds Try.pinned (OpenSpec.upto fnValidEntriesSpec)

/-- 'laws.FnUseOften', WHERE WHAT IT READS IS OF BULK AT MOST 1048576: true; the input reads as it did. -/
def fnUseOftenUptoRow : OpenClaim := { program := "ythdedjemjjcjhaa", sum := "2a9a58a9ce70f0b9e2b456d4248a407a80f6a1c3997cc09d7e89fb096307b539", func := "loop.example/cacheengine/laws.FnUseOften", spec := "fnUseOften", unfollowed := true, recurses := true, apart := false, narrowed := true }
def FnUseOftenUptoSaid : Prop := fnUseOftenUptoRow.holds Try.pinned (OpenSpec.upto fnUseOftenSpec)

/-- 'laws.FnUseOftenOthers', WHERE WHAT IT READS IS OF BULK AT MOST 1048576: true; the input reads as it did. -/
def fnUseOftenOthersUptoRow : OpenClaim := { program := "ythdedjemjjcjhaa", sum := "2a9a58a9ce70f0b9e2b456d4248a407a80f6a1c3997cc09d7e89fb096307b539", func := "loop.example/cacheengine/laws.FnUseOftenOthers", spec := "fnUseOftenOthers", unfollowed := true, recurses := true, apart := false, narrowed := true }
def FnUseOftenOthersUptoSaid : Prop := fnUseOftenOthersUptoRow.holds Try.pinned (OpenSpec.upto fnUseOftenOthersSpec)

/-- 'laws.FnRunOften', WHERE WHAT IT READS IS OF BULK AT MOST 1048576: true; the input reads as it did. -/
def fnRunOftenUptoRow : OpenClaim := { program := "ythdedjemjjcjhaa", sum := "2a9a58a9ce70f0b9e2b456d4248a407a80f6a1c3997cc09d7e89fb096307b539", func := "loop.example/cacheengine/laws.FnRunOften", spec := "fnRunOften", unfollowed := true, recurses := true, apart := false, narrowed := true }
def FnRunOftenUptoSaid : Prop := fnRunOftenUptoRow.holds Try.pinned (OpenSpec.upto fnRunOftenSpec)

/-- 'laws.FnAgeEntries', WHERE WHAT IT READS IS OF BULK AT MOST 1048576: true; the input reads as it did. -/
def fnAgeEntriesUptoRow : OpenClaim := { program := "ythdedjemjjcjhaa", sum := "2a9a58a9ce70f0b9e2b456d4248a407a80f6a1c3997cc09d7e89fb096307b539", func := "loop.example/cacheengine/laws.FnAgeEntries", spec := "fnAgeEntries", unfollowed := true, recurses := true, apart := false, narrowed := true }
def FnAgeEntriesUptoSaid : Prop := fnAgeEntriesUptoRow.holds Try.pinned (OpenSpec.upto fnAgeEntriesSpec)

/-- 'laws.FnAgeEntriesEnd', WHERE WHAT IT READS IS OF BULK AT MOST 1048576: true; the input reads as it did. -/
def fnAgeEntriesEndUptoRow : OpenClaim := { program := "ythdedjemjjcjhaa", sum := "2a9a58a9ce70f0b9e2b456d4248a407a80f6a1c3997cc09d7e89fb096307b539", func := "loop.example/cacheengine/laws.FnAgeEntriesEnd", spec := "fnAgeEntriesEnd", unfollowed := true, recurses := true, apart := false, narrowed := true }
def FnAgeEntriesEndUptoSaid : Prop := fnAgeEntriesEndUptoRow.holds Try.pinned (OpenSpec.upto fnAgeEntriesEndSpec)

/-- 'laws.FnRarestKey', WHERE WHAT IT READS IS OF BULK AT MOST 1048576: true; the input reads as it did. -/
def fnRarestKeyUptoRow : OpenClaim := { program := "ythdedjemjjcjhaa", sum := "2a9a58a9ce70f0b9e2b456d4248a407a80f6a1c3997cc09d7e89fb096307b539", func := "loop.example/cacheengine/laws.FnRarestKey", spec := "fnRarestKey", unfollowed := true, recurses := true, apart := false, narrowed := true }
def FnRarestKeyUptoSaid : Prop := fnRarestKeyUptoRow.holds Try.pinned (OpenSpec.upto fnRarestKeySpec)

/-- 'laws.FnRarestKeyAge', WHERE WHAT IT READS IS OF BULK AT MOST 1048576: true; the input reads as it did. -/
def fnRarestKeyAgeUptoRow : OpenClaim := { program := "ythdedjemjjcjhaa", sum := "2a9a58a9ce70f0b9e2b456d4248a407a80f6a1c3997cc09d7e89fb096307b539", func := "loop.example/cacheengine/laws.FnRarestKeyAge", spec := "fnRarestKeyAge", unfollowed := true, recurses := true, apart := false, narrowed := true }
def FnRarestKeyAgeUptoSaid : Prop := fnRarestKeyAgeUptoRow.holds Try.pinned (OpenSpec.upto fnRarestKeyAgeSpec)

/-- 'laws.FnValidLists', WHERE WHAT IT READS IS OF BULK AT MOST 1048576: true; the input reads as it did. -/
def fnValidListsUptoRow : OpenClaim := { program := "ythdedjemjjcjhaa", sum := "2a9a58a9ce70f0b9e2b456d4248a407a80f6a1c3997cc09d7e89fb096307b539", func := "loop.example/cacheengine/laws.FnValidLists", spec := "fnValidLists", apart := false, narrowed := true }
def FnValidListsUptoSaid : Prop := fnValidListsUptoRow.holds Try.pinned (OpenSpec.upto fnValidListsSpec)

/-- 'laws.FnUseLists', WHERE WHAT IT READS IS OF BULK AT MOST 1048576: true; the input reads as it did. -/
def fnUseListsUptoRow : OpenClaim := { program := "ythdedjemjjcjhaa", sum := "2a9a58a9ce70f0b9e2b456d4248a407a80f6a1c3997cc09d7e89fb096307b539", func := "loop.example/cacheengine/laws.FnUseLists", spec := "fnUseLists", apart := false, narrowed := true }
def FnUseListsUptoSaid : Prop := fnUseListsUptoRow.holds Try.pinned (OpenSpec.upto fnUseListsSpec)

/-- 'laws.FnUseListsTarget', WHERE WHAT IT READS IS OF BULK AT MOST 1048576: true; the input reads as it did. -/
def fnUseListsTargetUptoRow : OpenClaim := { program := "ythdedjemjjcjhaa", sum := "2a9a58a9ce70f0b9e2b456d4248a407a80f6a1c3997cc09d7e89fb096307b539", func := "loop.example/cacheengine/laws.FnUseListsTarget", spec := "fnUseListsTarget", apart := false, narrowed := true }
def FnUseListsTargetUptoSaid : Prop := fnUseListsTargetUptoRow.holds Try.pinned (OpenSpec.upto fnUseListsTargetSpec)

/-- 'laws.FnUseListsCache', WHERE WHAT IT READS IS OF BULK AT MOST 1048576: true; the input reads as it did. -/
def fnUseListsCacheUptoRow : OpenClaim := { program := "ythdedjemjjcjhaa", sum := "2a9a58a9ce70f0b9e2b456d4248a407a80f6a1c3997cc09d7e89fb096307b539", func := "loop.example/cacheengine/laws.FnUseListsCache", spec := "fnUseListsCache", apart := false, narrowed := true }
def FnUseListsCacheUptoSaid : Prop := fnUseListsCacheUptoRow.holds Try.pinned (OpenSpec.upto fnUseListsCacheSpec)

end Rows
end Go.Proofs.Ythdedjemjjcjhaa
