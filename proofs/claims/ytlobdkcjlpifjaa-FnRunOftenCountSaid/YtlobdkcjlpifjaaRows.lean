/-
  No cell of these rows narrows 'for every input' (looked for: loops, veiled, ifaces, maps, wideKeys, modest, calm, conditions, laid).
  DERIVED. THE GIVEN ROWS OF THIS SEAT. 12 by the template 'for every input the law returns true; each argument reads behind the call as it read before'; 0 by the template 'total and deterministic' (their statements: YtlobdkcjlpifjaaTotals.lean).
  GIVEN WITH THE SEED: the statements are not yours to turn. If you find one false, say at which input.
  Laid BY PROGRAM, IN A SANDBOX (cutbox-rows.mjs): the forced cells as the released guide's own fill.sh prints them over the translation adc502f71cffb5b2… (all of the seat's roots in one cut). By AI agents, Wed Nov 11 2026. No macro, syntax, notation, axiom, sorry.
-/
import Derived.Test.YtlobdkcjlpifjaaChecked
import GoSem.Claim
import GoSem.ClaimJoined
import GoSem.ClaimMapViews
import Derived.JoinedTies
import Derived.KernelRfl
namespace Go.Proofs.Ytlobdkcjlpifjaa
/- THE CELL 'sum', in the pinned program and in every row, IS THE sha256 OF THE DUMP (.gsa) THAT YtlobdkcjlpifjaaProg.lean LOADS. Nothing in Lean hashes anything: it is a label: what it is worth is what the hold of that sum in a sandbox is worth. -/
noncomputable def Try.pinned : Pinned := { name := "ytlobdkcjlpifjaa", sum := "adc502f71cffb5b2a567a947c375244167dc859b11f42434da5c86a4e3eb2f5f", checked := Try.checked }
namespace Rows
def none {H : Type} : Left H := { results := [], args := [] }

/-- 'laws.FnRunOftenCount': WHATEVER THE INPUT: true; the input reads as it did. -/
def fnRunOftenCountSpec : ChangeSpec := { name := "fnRunOftenCount", fn := fun _ => fun
  | [d] => { results := [.lit (.bool true)], args := [d] }
  | _ => none }
def fnRunOftenCountRow : OpenClaim := { program := "ytlobdkcjlpifjaa", sum := "adc502f71cffb5b2a567a947c375244167dc859b11f42434da5c86a4e3eb2f5f", func := "loop.example/cacheengine/laws.FnRunOftenCount", spec := "fnRunOftenCount", unfollowed := true, recurses := true, apart := false }
def FnRunOftenCountSaid : Prop := fnRunOftenCountRow.holds Try.pinned (OpenSpec.ofChange fnRunOftenCountSpec)

/-- ITS FALSE NEIGHBOUR: 'it returns false'. Refute it at one input. -/
def fnRunOftenCountWrong : ChangeSpec := { name := "fnRunOftenCount", fn := fun _ => fun
  | [d] => { results := [.lit (.bool false)], args := [d] }
  | _ => none }
def FnRunOftenCountWrongFalsely : Prop := fnRunOftenCountRow.holds Try.pinned (OpenSpec.ofChange fnRunOftenCountWrong)

/-- 'laws.FnRunListsSmall': WHATEVER THE INPUT: true; the input reads as it did. -/
def fnRunListsSmallSpec : ChangeSpec := { name := "fnRunListsSmall", fn := fun _ => fun
  | [d] => { results := [.lit (.bool true)], args := [d] }
  | _ => none }
def fnRunListsSmallRow : OpenClaim := { program := "ytlobdkcjlpifjaa", sum := "adc502f71cffb5b2a567a947c375244167dc859b11f42434da5c86a4e3eb2f5f", func := "loop.example/cacheengine/laws.FnRunListsSmall", spec := "fnRunListsSmall", unfollowed := true, recurses := true, apart := false }
def FnRunListsSmallSaid : Prop := fnRunListsSmallRow.holds Try.pinned (OpenSpec.ofChange fnRunListsSmallSpec)

/-- ITS FALSE NEIGHBOUR: 'it returns false'. Refute it at one input. -/
def fnRunListsSmallWrong : ChangeSpec := { name := "fnRunListsSmall", fn := fun _ => fun
  | [d] => { results := [.lit (.bool false)], args := [d] }
  | _ => none }
def FnRunListsSmallWrongFalsely : Prop := fnRunListsSmallRow.holds Try.pinned (OpenSpec.ofChange fnRunListsSmallWrong)

/-- 'laws.FnNextUse': WHATEVER THE INPUT: true; the input reads as it did. -/
def fnNextUseSpec : ChangeSpec := { name := "fnNextUse", fn := fun _ => fun
  | [d] => { results := [.lit (.bool true)], args := [d] }
  | _ => none }
def fnNextUseRow : OpenClaim := { program := "ytlobdkcjlpifjaa", sum := "adc502f71cffb5b2a567a947c375244167dc859b11f42434da5c86a4e3eb2f5f", func := "loop.example/cacheengine/laws.FnNextUse", spec := "fnNextUse", apart := false }
def FnNextUseSaid : Prop := fnNextUseRow.holds Try.pinned (OpenSpec.ofChange fnNextUseSpec)

/-- ITS FALSE NEIGHBOUR: 'it returns false'. Refute it at one input. -/
def fnNextUseWrong : ChangeSpec := { name := "fnNextUse", fn := fun _ => fun
  | [d] => { results := [.lit (.bool false)], args := [d] }
  | _ => none }
def FnNextUseWrongFalsely : Prop := fnNextUseRow.holds Try.pinned (OpenSpec.ofChange fnNextUseWrong)

/-- 'laws.FnNextUseStep': WHATEVER THE INPUT: true; the input reads as it did. -/
def fnNextUseStepSpec : ChangeSpec := { name := "fnNextUseStep", fn := fun _ => fun
  | [d] => { results := [.lit (.bool true)], args := [d] }
  | _ => none }
def fnNextUseStepRow : OpenClaim := { program := "ytlobdkcjlpifjaa", sum := "adc502f71cffb5b2a567a947c375244167dc859b11f42434da5c86a4e3eb2f5f", func := "loop.example/cacheengine/laws.FnNextUseStep", spec := "fnNextUseStep", apart := false }
def FnNextUseStepSaid : Prop := fnNextUseStepRow.holds Try.pinned (OpenSpec.ofChange fnNextUseStepSpec)

/-- ITS FALSE NEIGHBOUR: 'it returns false'. Refute it at one input. -/
def fnNextUseStepWrong : ChangeSpec := { name := "fnNextUseStep", fn := fun _ => fun
  | [d] => { results := [.lit (.bool false)], args := [d] }
  | _ => none }
def FnNextUseStepWrongFalsely : Prop := fnNextUseStepRow.holds Try.pinned (OpenSpec.ofChange fnNextUseStepWrong)

/-- 'laws.FnBestHits': WHATEVER THE INPUT: true; the input reads as it did. -/
def fnBestHitsSpec : ChangeSpec := { name := "fnBestHits", fn := fun _ => fun
  | [d] => { results := [.lit (.bool true)], args := [d] }
  | _ => none }
def fnBestHitsRow : OpenClaim := { program := "ytlobdkcjlpifjaa", sum := "adc502f71cffb5b2a567a947c375244167dc859b11f42434da5c86a4e3eb2f5f", func := "loop.example/cacheengine/laws.FnBestHits", spec := "fnBestHits", unfollowed := true, recurses := true, apart := false }
def FnBestHitsSaid : Prop := fnBestHitsRow.holds Try.pinned (OpenSpec.ofChange fnBestHitsSpec)

/-- ITS FALSE NEIGHBOUR: 'it returns false'. Refute it at one input. -/
def fnBestHitsWrong : ChangeSpec := { name := "fnBestHits", fn := fun _ => fun
  | [d] => { results := [.lit (.bool false)], args := [d] }
  | _ => none }
def FnBestHitsWrongFalsely : Prop := fnBestHitsRow.holds Try.pinned (OpenSpec.ofChange fnBestHitsWrong)

/-- 'laws.FnBestHitsBound': WHATEVER THE INPUT: true; the input reads as it did. -/
def fnBestHitsBoundSpec : ChangeSpec := { name := "fnBestHitsBound", fn := fun _ => fun
  | [d] => { results := [.lit (.bool true)], args := [d] }
  | _ => none }
def fnBestHitsBoundRow : OpenClaim := { program := "ytlobdkcjlpifjaa", sum := "adc502f71cffb5b2a567a947c375244167dc859b11f42434da5c86a4e3eb2f5f", func := "loop.example/cacheengine/laws.FnBestHitsBound", spec := "fnBestHitsBound", apart := false }
def FnBestHitsBoundSaid : Prop := fnBestHitsBoundRow.holds Try.pinned (OpenSpec.ofChange fnBestHitsBoundSpec)

/-- ITS FALSE NEIGHBOUR: 'it returns false'. Refute it at one input. -/
def fnBestHitsBoundWrong : ChangeSpec := { name := "fnBestHitsBound", fn := fun _ => fun
  | [d] => { results := [.lit (.bool false)], args := [d] }
  | _ => none }
def FnBestHitsBoundWrongFalsely : Prop := fnBestHitsBoundRow.holds Try.pinned (OpenSpec.ofChange fnBestHitsBoundWrong)

/-- 'laws.FnBestHitsMore': WHATEVER THE INPUT: true; the input reads as it did. -/
def fnBestHitsMoreSpec : ChangeSpec := { name := "fnBestHitsMore", fn := fun _ => fun
  | [d] => { results := [.lit (.bool true)], args := [d] }
  | _ => none }
def fnBestHitsMoreRow : OpenClaim := { program := "ytlobdkcjlpifjaa", sum := "adc502f71cffb5b2a567a947c375244167dc859b11f42434da5c86a4e3eb2f5f", func := "loop.example/cacheengine/laws.FnBestHitsMore", spec := "fnBestHitsMore", apart := false }
def FnBestHitsMoreSaid : Prop := fnBestHitsMoreRow.holds Try.pinned (OpenSpec.ofChange fnBestHitsMoreSpec)

/-- ITS FALSE NEIGHBOUR: 'it returns false'. Refute it at one input. -/
def fnBestHitsMoreWrong : ChangeSpec := { name := "fnBestHitsMore", fn := fun _ => fun
  | [d] => { results := [.lit (.bool false)], args := [d] }
  | _ => none }
def FnBestHitsMoreWrongFalsely : Prop := fnBestHitsMoreRow.holds Try.pinned (OpenSpec.ofChange fnBestHitsMoreWrong)

/-- 'laws.FnBestHitsBack': WHATEVER THE INPUT: true; the input reads as it did. -/
def fnBestHitsBackSpec : ChangeSpec := { name := "fnBestHitsBack", fn := fun _ => fun
  | [d] => { results := [.lit (.bool true)], args := [d] }
  | _ => none }
def fnBestHitsBackRow : OpenClaim := { program := "ytlobdkcjlpifjaa", sum := "adc502f71cffb5b2a567a947c375244167dc859b11f42434da5c86a4e3eb2f5f", func := "loop.example/cacheengine/laws.FnBestHitsBack", spec := "fnBestHitsBack", apart := false }
def FnBestHitsBackSaid : Prop := fnBestHitsBackRow.holds Try.pinned (OpenSpec.ofChange fnBestHitsBackSpec)

/-- ITS FALSE NEIGHBOUR: 'it returns false'. Refute it at one input. -/
def fnBestHitsBackWrong : ChangeSpec := { name := "fnBestHitsBack", fn := fun _ => fun
  | [d] => { results := [.lit (.bool false)], args := [d] }
  | _ => none }
def FnBestHitsBackWrongFalsely : Prop := fnBestHitsBackRow.holds Try.pinned (OpenSpec.ofChange fnBestHitsBackWrong)

/-- 'laws.FnNewKeys': WHATEVER THE INPUT: true; the input reads as it did. -/
def fnNewKeysSpec : ChangeSpec := { name := "fnNewKeys", fn := fun _ => fun
  | [d] => { results := [.lit (.bool true)], args := [d] }
  | _ => none }
def fnNewKeysRow : OpenClaim := { program := "ytlobdkcjlpifjaa", sum := "adc502f71cffb5b2a567a947c375244167dc859b11f42434da5c86a4e3eb2f5f", func := "loop.example/cacheengine/laws.FnNewKeys", spec := "fnNewKeys", apart := false }
def FnNewKeysSaid : Prop := fnNewKeysRow.holds Try.pinned (OpenSpec.ofChange fnNewKeysSpec)

/-- ITS FALSE NEIGHBOUR: 'it returns false'. Refute it at one input. -/
def fnNewKeysWrong : ChangeSpec := { name := "fnNewKeys", fn := fun _ => fun
  | [d] => { results := [.lit (.bool false)], args := [d] }
  | _ => none }
def FnNewKeysWrongFalsely : Prop := fnNewKeysRow.holds Try.pinned (OpenSpec.ofChange fnNewKeysWrong)

/-- 'laws.FnMissesOver': WHATEVER THE INPUT: true; the input reads as it did. -/
def fnMissesOverSpec : ChangeSpec := { name := "fnMissesOver", fn := fun _ => fun
  | [d] => { results := [.lit (.bool true)], args := [d] }
  | _ => none }
def fnMissesOverRow : OpenClaim := { program := "ytlobdkcjlpifjaa", sum := "adc502f71cffb5b2a567a947c375244167dc859b11f42434da5c86a4e3eb2f5f", func := "loop.example/cacheengine/laws.FnMissesOver", spec := "fnMissesOver", unfollowed := true, recurses := true, apart := false }
def FnMissesOverSaid : Prop := fnMissesOverRow.holds Try.pinned (OpenSpec.ofChange fnMissesOverSpec)

/-- ITS FALSE NEIGHBOUR: 'it returns false'. Refute it at one input. -/
def fnMissesOverWrong : ChangeSpec := { name := "fnMissesOver", fn := fun _ => fun
  | [d] => { results := [.lit (.bool false)], args := [d] }
  | _ => none }
def FnMissesOverWrongFalsely : Prop := fnMissesOverRow.holds Try.pinned (OpenSpec.ofChange fnMissesOverWrong)

/-- 'laws.FnReuseDistances': WHATEVER THE INPUT: true; the input reads as it did. -/
def fnReuseDistancesSpec : ChangeSpec := { name := "fnReuseDistances", fn := fun _ => fun
  | [d] => { results := [.lit (.bool true)], args := [d] }
  | _ => none }
def fnReuseDistancesRow : OpenClaim := { program := "ytlobdkcjlpifjaa", sum := "adc502f71cffb5b2a567a947c375244167dc859b11f42434da5c86a4e3eb2f5f", func := "loop.example/cacheengine/laws.FnReuseDistances", spec := "fnReuseDistances", apart := false }
def FnReuseDistancesSaid : Prop := fnReuseDistancesRow.holds Try.pinned (OpenSpec.ofChange fnReuseDistancesSpec)

/-- ITS FALSE NEIGHBOUR: 'it returns false'. Refute it at one input. -/
def fnReuseDistancesWrong : ChangeSpec := { name := "fnReuseDistances", fn := fun _ => fun
  | [d] => { results := [.lit (.bool false)], args := [d] }
  | _ => none }
def FnReuseDistancesWrongFalsely : Prop := fnReuseDistancesRow.holds Try.pinned (OpenSpec.ofChange fnReuseDistancesWrong)

/-- 'laws.FnReuseDistancesOne': WHATEVER THE INPUT: true; the input reads as it did. -/
def fnReuseDistancesOneSpec : ChangeSpec := { name := "fnReuseDistancesOne", fn := fun _ => fun
  | [d] => { results := [.lit (.bool true)], args := [d] }
  | _ => none }
def fnReuseDistancesOneRow : OpenClaim := { program := "ytlobdkcjlpifjaa", sum := "adc502f71cffb5b2a567a947c375244167dc859b11f42434da5c86a4e3eb2f5f", func := "loop.example/cacheengine/laws.FnReuseDistancesOne", spec := "fnReuseDistancesOne", apart := false }
def FnReuseDistancesOneSaid : Prop := fnReuseDistancesOneRow.holds Try.pinned (OpenSpec.ofChange fnReuseDistancesOneSpec)

/-- ITS FALSE NEIGHBOUR: 'it returns false'. Refute it at one input. -/
def fnReuseDistancesOneWrong : ChangeSpec := { name := "fnReuseDistancesOne", fn := fun _ => fun
  | [d] => { results := [.lit (.bool false)], args := [d] }
  | _ => none }
def FnReuseDistancesOneWrongFalsely : Prop := fnReuseDistancesOneRow.holds Try.pinned (OpenSpec.ofChange fnReuseDistancesOneWrong)

/- THE SECOND FORM. 'bulk': how many values and letters a reading holds, each counted each time it is reached (what is shared counts as often as it is met; a slice's spare places count too). A statement '..UptoSaid' is the law's where the arguments, and the package variables that the reading takes, are together of bulk at most 1048576: NARROWER than '..Said'. Prove '..Said' where nothing that the law and all that it calls make is longer than what came in: it says more and counts as full. Else prove '..UptoSaid'. A law counts once. -/
mutual
def uptoBulk {H : Type} : DataW H → Nat
  | .lit (.string bytes) => bytes.length + 1
  | .lit _ => 1
  | .nil => 1
  | .ptr d => uptoBulk d + 1
  | .slice elems spare => uptoBulkAll elems + uptoBulkAll spare + 1
  | .agg parts => uptoBulkAll parts + 1
  | .iface _ d => uptoBulk d + 1
  | .map entries => uptoBulkEntries entries + 1
  | .held _ => 1
def uptoBulkAll {H : Type} : List (DataW H) → Nat
  | [] => 0
  | d :: r => uptoBulk d + uptoBulkAll r
def uptoBulkEntries {H : Type} : List (Lit × DataW H) → Nat
  | [] => 0
  | x :: r => uptoBulkEntry x + uptoBulkEntries r
def uptoBulkEntry {H : Type} : Lit × DataW H → Nat
  | (.string bytes, d) => bytes.length + uptoBulk d + 1
  | (_, d) => uptoBulk d + 1
 end
def uptoSmall : (H : Type) → List (DataW H) → Bool := fun _ ds => decide (uptoBulkAll ds ≤ 1048576)
def OpenSpec.upto (s : _root_.Go.ChangeSpec) : _root_.Go.OpenSpec := { _root_.Go.OpenSpec.ofChange s with cond := some uptoSmall }

/-- 'laws.FnRunOftenCount', WHERE WHAT IT READS IS OF BULK AT MOST 1048576: true; the input reads as it did. -/
def fnRunOftenCountUptoRow : OpenClaim := { program := "ytlobdkcjlpifjaa", sum := "adc502f71cffb5b2a567a947c375244167dc859b11f42434da5c86a4e3eb2f5f", func := "loop.example/cacheengine/laws.FnRunOftenCount", spec := "fnRunOftenCount", unfollowed := true, recurses := true, apart := false, narrowed := true }
def FnRunOftenCountUptoSaid : Prop := fnRunOftenCountUptoRow.holds Try.pinned (OpenSpec.upto fnRunOftenCountSpec)

/-- 'laws.FnRunListsSmall', WHERE WHAT IT READS IS OF BULK AT MOST 1048576: true; the input reads as it did. -/
def fnRunListsSmallUptoRow : OpenClaim := { program := "ytlobdkcjlpifjaa", sum := "adc502f71cffb5b2a567a947c375244167dc859b11f42434da5c86a4e3eb2f5f", func := "loop.example/cacheengine/laws.FnRunListsSmall", spec := "fnRunListsSmall", unfollowed := true, recurses := true, apart := false, narrowed := true }
def FnRunListsSmallUptoSaid : Prop := fnRunListsSmallUptoRow.holds Try.pinned (OpenSpec.upto fnRunListsSmallSpec)

/-- 'laws.FnNextUse', WHERE WHAT IT READS IS OF BULK AT MOST 1048576: true; the input reads as it did. -/
def fnNextUseUptoRow : OpenClaim := { program := "ytlobdkcjlpifjaa", sum := "adc502f71cffb5b2a567a947c375244167dc859b11f42434da5c86a4e3eb2f5f", func := "loop.example/cacheengine/laws.FnNextUse", spec := "fnNextUse", apart := false, narrowed := true }
def FnNextUseUptoSaid : Prop := fnNextUseUptoRow.holds Try.pinned (OpenSpec.upto fnNextUseSpec)

/-- 'laws.FnNextUseStep', WHERE WHAT IT READS IS OF BULK AT MOST 1048576: true; the input reads as it did. -/
def fnNextUseStepUptoRow : OpenClaim := { program := "ytlobdkcjlpifjaa", sum := "adc502f71cffb5b2a567a947c375244167dc859b11f42434da5c86a4e3eb2f5f", func := "loop.example/cacheengine/laws.FnNextUseStep", spec := "fnNextUseStep", apart := false, narrowed := true }
def FnNextUseStepUptoSaid : Prop := fnNextUseStepUptoRow.holds Try.pinned (OpenSpec.upto fnNextUseStepSpec)

/-- 'laws.FnBestHits', WHERE WHAT IT READS IS OF BULK AT MOST 1048576: true; the input reads as it did. -/
def fnBestHitsUptoRow : OpenClaim := { program := "ytlobdkcjlpifjaa", sum := "adc502f71cffb5b2a567a947c375244167dc859b11f42434da5c86a4e3eb2f5f", func := "loop.example/cacheengine/laws.FnBestHits", spec := "fnBestHits", unfollowed := true, recurses := true, apart := false, narrowed := true }
def FnBestHitsUptoSaid : Prop := fnBestHitsUptoRow.holds Try.pinned (OpenSpec.upto fnBestHitsSpec)

/-- 'laws.FnBestHitsBound', WHERE WHAT IT READS IS OF BULK AT MOST 1048576: true; the input reads as it did. -/
def fnBestHitsBoundUptoRow : OpenClaim := { program := "ytlobdkcjlpifjaa", sum := "adc502f71cffb5b2a567a947c375244167dc859b11f42434da5c86a4e3eb2f5f", func := "loop.example/cacheengine/laws.FnBestHitsBound", spec := "fnBestHitsBound", apart := false, narrowed := true }
def FnBestHitsBoundUptoSaid : Prop := fnBestHitsBoundUptoRow.holds Try.pinned (OpenSpec.upto fnBestHitsBoundSpec)

/-- 'laws.FnBestHitsMore', WHERE WHAT IT READS IS OF BULK AT MOST 1048576: true; the input reads as it did. -/
def fnBestHitsMoreUptoRow : OpenClaim := { program := "ytlobdkcjlpifjaa", sum := "adc502f71cffb5b2a567a947c375244167dc859b11f42434da5c86a4e3eb2f5f", func := "loop.example/cacheengine/laws.FnBestHitsMore", spec := "fnBestHitsMore", apart := false, narrowed := true }
def FnBestHitsMoreUptoSaid : Prop := fnBestHitsMoreUptoRow.holds Try.pinned (OpenSpec.upto fnBestHitsMoreSpec)

/-- 'laws.FnBestHitsBack', WHERE WHAT IT READS IS OF BULK AT MOST 1048576: true; the input reads as it did. -/
def fnBestHitsBackUptoRow : OpenClaim := { program := "ytlobdkcjlpifjaa", sum := "adc502f71cffb5b2a567a947c375244167dc859b11f42434da5c86a4e3eb2f5f", func := "loop.example/cacheengine/laws.FnBestHitsBack", spec := "fnBestHitsBack", apart := false, narrowed := true }
def FnBestHitsBackUptoSaid : Prop := fnBestHitsBackUptoRow.holds Try.pinned (OpenSpec.upto fnBestHitsBackSpec)

/-- 'laws.FnNewKeys', WHERE WHAT IT READS IS OF BULK AT MOST 1048576: true; the input reads as it did. -/
def fnNewKeysUptoRow : OpenClaim := { program := "ytlobdkcjlpifjaa", sum := "adc502f71cffb5b2a567a947c375244167dc859b11f42434da5c86a4e3eb2f5f", func := "loop.example/cacheengine/laws.FnNewKeys", spec := "fnNewKeys", apart := false, narrowed := true }
def FnNewKeysUptoSaid : Prop := fnNewKeysUptoRow.holds Try.pinned (OpenSpec.upto fnNewKeysSpec)

/-- 'laws.FnMissesOver', WHERE WHAT IT READS IS OF BULK AT MOST 1048576: true; the input reads as it did. -/
def fnMissesOverUptoRow : OpenClaim := { program := "ytlobdkcjlpifjaa", sum := "adc502f71cffb5b2a567a947c375244167dc859b11f42434da5c86a4e3eb2f5f", func := "loop.example/cacheengine/laws.FnMissesOver", spec := "fnMissesOver", unfollowed := true, recurses := true, apart := false, narrowed := true }
def FnMissesOverUptoSaid : Prop := fnMissesOverUptoRow.holds Try.pinned (OpenSpec.upto fnMissesOverSpec)

/-- 'laws.FnReuseDistances', WHERE WHAT IT READS IS OF BULK AT MOST 1048576: true; the input reads as it did. -/
def fnReuseDistancesUptoRow : OpenClaim := { program := "ytlobdkcjlpifjaa", sum := "adc502f71cffb5b2a567a947c375244167dc859b11f42434da5c86a4e3eb2f5f", func := "loop.example/cacheengine/laws.FnReuseDistances", spec := "fnReuseDistances", apart := false, narrowed := true }
def FnReuseDistancesUptoSaid : Prop := fnReuseDistancesUptoRow.holds Try.pinned (OpenSpec.upto fnReuseDistancesSpec)

/-- 'laws.FnReuseDistancesOne', WHERE WHAT IT READS IS OF BULK AT MOST 1048576: true; the input reads as it did. -/
def fnReuseDistancesOneUptoRow : OpenClaim := { program := "ytlobdkcjlpifjaa", sum := "adc502f71cffb5b2a567a947c375244167dc859b11f42434da5c86a4e3eb2f5f", func := "loop.example/cacheengine/laws.FnReuseDistancesOne", spec := "fnReuseDistancesOne", apart := false, narrowed := true }
def FnReuseDistancesOneUptoSaid : Prop := fnReuseDistancesOneUptoRow.holds Try.pinned (OpenSpec.upto fnReuseDistancesOneSpec)

end Rows
end Go.Proofs.Ytlobdkcjlpifjaa
