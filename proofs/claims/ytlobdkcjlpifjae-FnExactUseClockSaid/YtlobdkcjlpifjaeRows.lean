/-
  No cell of these rows narrows 'for every input' (looked for: loops, veiled, ifaces, maps, wideKeys, modest, calm, conditions, laid).
  DERIVED. THE GIVEN ROWS OF THIS SEAT. 7 by the template 'for every input the law returns true; each argument reads behind the call as it read before'; 0 by the template 'total and deterministic' (their statements: YtlobdkcjlpifjaeTotals.lean).
  GIVEN WITH THE SEED: the statements are not yours to turn. If you find one false, say at which input.
  Laid BY PROGRAM, IN A SANDBOX (cutbox-rows.mjs): the forced cells as the released guide's own fill.sh prints them over the translation 2fec387631117f00… (all of the seat's roots in one cut). By AI agents, Wed Nov 11 2026. No macro, syntax, notation, axiom, sorry.
-/
import Derived.Test.YtlobdkcjlpifjaeChecked
import GoSem.Claim
import GoSem.ClaimJoined
import GoSem.ClaimMapViews
import Derived.JoinedTies
import Derived.KernelRfl
namespace Go.Proofs.Ytlobdkcjlpifjae
/- THE CELL 'sum', in the pinned program and in every row, IS THE sha256 OF THE DUMP (.gsa) THAT YtlobdkcjlpifjaeProg.lean LOADS. Nothing in Lean hashes anything: it is a label: what it is worth is what the hold of that sum in a sandbox is worth. -/
noncomputable def Try.pinned : Pinned := { name := "ytlobdkcjlpifjae", sum := "2fec387631117f007515e4ac55c36abe37d2be0a4e5aeabb2a733cb07b4e37e7", checked := Try.checked }
namespace Rows
def none {H : Type} : Left H := { results := [], args := [] }

/-- 'laws.FnKeysOfOnce': WHATEVER THE INPUT: true; the input reads as it did. -/
def fnKeysOfOnceSpec : ChangeSpec := { name := "fnKeysOfOnce", fn := fun _ => fun
  | [d] => { results := [.lit (.bool true)], args := [d] }
  | _ => none }
def fnKeysOfOnceRow : OpenClaim := { program := "ytlobdkcjlpifjae", sum := "2fec387631117f007515e4ac55c36abe37d2be0a4e5aeabb2a733cb07b4e37e7", func := "loop.example/cacheengine/laws.FnKeysOfOnce", spec := "fnKeysOfOnce", apart := false }
def FnKeysOfOnceSaid : Prop := fnKeysOfOnceRow.holds Try.pinned (OpenSpec.ofChange fnKeysOfOnceSpec)

/-- ITS FALSE NEIGHBOUR: 'it returns false'. Refute it at one input. -/
def fnKeysOfOnceWrong : ChangeSpec := { name := "fnKeysOfOnce", fn := fun _ => fun
  | [d] => { results := [.lit (.bool false)], args := [d] }
  | _ => none }
def FnKeysOfOnceWrongFalsely : Prop := fnKeysOfOnceRow.holds Try.pinned (OpenSpec.ofChange fnKeysOfOnceWrong)

/-- 'laws.FnExactUseRecent': WHATEVER THE INPUT: true; the input reads as it did. -/
def fnExactUseRecentSpec : ChangeSpec := { name := "fnExactUseRecent", fn := fun _ => fun
  | [d1, d2, d3] => { results := [.lit (.bool true)], args := [d1, d2, d3] }
  | _ => none }
def fnExactUseRecentRow : OpenClaim := { program := "ytlobdkcjlpifjae", sum := "2fec387631117f007515e4ac55c36abe37d2be0a4e5aeabb2a733cb07b4e37e7", func := "loop.example/cacheengine/laws.FnExactUseRecent", spec := "fnExactUseRecent", apart := false }
def FnExactUseRecentSaid : Prop := fnExactUseRecentRow.holds Try.pinned (OpenSpec.ofChange fnExactUseRecentSpec)

/-- ITS FALSE NEIGHBOUR: 'it returns false'. Refute it at one input. -/
def fnExactUseRecentWrong : ChangeSpec := { name := "fnExactUseRecent", fn := fun _ => fun
  | [d1, d2, d3] => { results := [.lit (.bool false)], args := [d1, d2, d3] }
  | _ => none }
def FnExactUseRecentWrongFalsely : Prop := fnExactUseRecentRow.holds Try.pinned (OpenSpec.ofChange fnExactUseRecentWrong)

/-- 'laws.FnExactRunRecent': WHATEVER THE INPUT: true; the input reads as it did. -/
def fnExactRunRecentSpec : ChangeSpec := { name := "fnExactRunRecent", fn := fun _ => fun
  | [d1, d2] => { results := [.lit (.bool true)], args := [d1, d2] }
  | _ => none }
def fnExactRunRecentRow : OpenClaim := { program := "ytlobdkcjlpifjae", sum := "2fec387631117f007515e4ac55c36abe37d2be0a4e5aeabb2a733cb07b4e37e7", func := "loop.example/cacheengine/laws.FnExactRunRecent", spec := "fnExactRunRecent", unfollowed := true, recurses := true, apart := false }
def FnExactRunRecentSaid : Prop := fnExactRunRecentRow.holds Try.pinned (OpenSpec.ofChange fnExactRunRecentSpec)

/-- ITS FALSE NEIGHBOUR: 'it returns false'. Refute it at one input. -/
def fnExactRunRecentWrong : ChangeSpec := { name := "fnExactRunRecent", fn := fun _ => fun
  | [d1, d2] => { results := [.lit (.bool false)], args := [d1, d2] }
  | _ => none }
def FnExactRunRecentWrongFalsely : Prop := fnExactRunRecentRow.holds Try.pinned (OpenSpec.ofChange fnExactRunRecentWrong)

/-- 'laws.FnExactUseFirst': WHATEVER THE INPUT: true; the input reads as it did. -/
def fnExactUseFirstSpec : ChangeSpec := { name := "fnExactUseFirst", fn := fun _ => fun
  | [d1, d2, d3] => { results := [.lit (.bool true)], args := [d1, d2, d3] }
  | _ => none }
def fnExactUseFirstRow : OpenClaim := { program := "ytlobdkcjlpifjae", sum := "2fec387631117f007515e4ac55c36abe37d2be0a4e5aeabb2a733cb07b4e37e7", func := "loop.example/cacheengine/laws.FnExactUseFirst", spec := "fnExactUseFirst", apart := false }
def FnExactUseFirstSaid : Prop := fnExactUseFirstRow.holds Try.pinned (OpenSpec.ofChange fnExactUseFirstSpec)

/-- ITS FALSE NEIGHBOUR: 'it returns false'. Refute it at one input. -/
def fnExactUseFirstWrong : ChangeSpec := { name := "fnExactUseFirst", fn := fun _ => fun
  | [d1, d2, d3] => { results := [.lit (.bool false)], args := [d1, d2, d3] }
  | _ => none }
def FnExactUseFirstWrongFalsely : Prop := fnExactUseFirstRow.holds Try.pinned (OpenSpec.ofChange fnExactUseFirstWrong)

/-- 'laws.FnExactRunFirst': WHATEVER THE INPUT: true; the input reads as it did. -/
def fnExactRunFirstSpec : ChangeSpec := { name := "fnExactRunFirst", fn := fun _ => fun
  | [d1, d2] => { results := [.lit (.bool true)], args := [d1, d2] }
  | _ => none }
def fnExactRunFirstRow : OpenClaim := { program := "ytlobdkcjlpifjae", sum := "2fec387631117f007515e4ac55c36abe37d2be0a4e5aeabb2a733cb07b4e37e7", func := "loop.example/cacheengine/laws.FnExactRunFirst", spec := "fnExactRunFirst", unfollowed := true, recurses := true, apart := false }
def FnExactRunFirstSaid : Prop := fnExactRunFirstRow.holds Try.pinned (OpenSpec.ofChange fnExactRunFirstSpec)

/-- ITS FALSE NEIGHBOUR: 'it returns false'. Refute it at one input. -/
def fnExactRunFirstWrong : ChangeSpec := { name := "fnExactRunFirst", fn := fun _ => fun
  | [d1, d2] => { results := [.lit (.bool false)], args := [d1, d2] }
  | _ => none }
def FnExactRunFirstWrongFalsely : Prop := fnExactRunFirstRow.holds Try.pinned (OpenSpec.ofChange fnExactRunFirstWrong)

/-- 'laws.FnExactValidClock': WHATEVER THE INPUT: true; the input reads as it did. -/
def fnExactValidClockSpec : ChangeSpec := { name := "fnExactValidClock", fn := fun _ => fun
  | [d] => { results := [.lit (.bool true)], args := [d] }
  | _ => none }
def fnExactValidClockRow : OpenClaim := { program := "ytlobdkcjlpifjae", sum := "2fec387631117f007515e4ac55c36abe37d2be0a4e5aeabb2a733cb07b4e37e7", func := "loop.example/cacheengine/laws.FnExactValidClock", spec := "fnExactValidClock", apart := false }
def FnExactValidClockSaid : Prop := fnExactValidClockRow.holds Try.pinned (OpenSpec.ofChange fnExactValidClockSpec)

/-- ITS FALSE NEIGHBOUR: 'it returns false'. Refute it at one input. -/
def fnExactValidClockWrong : ChangeSpec := { name := "fnExactValidClock", fn := fun _ => fun
  | [d] => { results := [.lit (.bool false)], args := [d] }
  | _ => none }
def FnExactValidClockWrongFalsely : Prop := fnExactValidClockRow.holds Try.pinned (OpenSpec.ofChange fnExactValidClockWrong)

/-- 'laws.FnExactUseClock': WHATEVER THE INPUT: true; the input reads as it did. -/
def fnExactUseClockSpec : ChangeSpec := { name := "fnExactUseClock", fn := fun _ => fun
  | [d1, d2] => { results := [.lit (.bool true)], args := [d1, d2] }
  | _ => none }
def fnExactUseClockRow : OpenClaim := { program := "ytlobdkcjlpifjae", sum := "2fec387631117f007515e4ac55c36abe37d2be0a4e5aeabb2a733cb07b4e37e7", func := "loop.example/cacheengine/laws.FnExactUseClock", spec := "fnExactUseClock", apart := false }
def FnExactUseClockSaid : Prop := fnExactUseClockRow.holds Try.pinned (OpenSpec.ofChange fnExactUseClockSpec)

/-- ITS FALSE NEIGHBOUR: 'it returns false'. Refute it at one input. -/
def fnExactUseClockWrong : ChangeSpec := { name := "fnExactUseClock", fn := fun _ => fun
  | [d1, d2] => { results := [.lit (.bool false)], args := [d1, d2] }
  | _ => none }
def FnExactUseClockWrongFalsely : Prop := fnExactUseClockRow.holds Try.pinned (OpenSpec.ofChange fnExactUseClockWrong)

/- THE SECOND FORM. 'bulk': how many values and letters a reading holds, each counted each time it is reached (what is shared counts as often as it is met; a slice's spare places count too). A statement '..UptoSaid' is the law's where the arguments, and the package variables that the reading takes, are together of bulk at most 1048576: NARROWER than '..Said'. Prove '..Said' where nothing that the law and all that it calls make is longer than what came in: it says more and counts as full. Else prove '..UptoSaid'. A law counts once. -/
mutual
def uptoBulk {H : Type} : DataW H → Nat
  | .lit (.string bytes) => bytes.length + 1
  | .lit _ => 1
  | .nil => 1
  | .ptr d => uptoBulk d + 1
  | .slice elems spare => uptoBulkAll elems + uptoBulkAll spare + 1
  | .agg parts => uptoBulkAll parts + 1
  | .iface _ d => uptoBulk d + 1
  | .map entries => uptoBulkEntries entries + 1
  | .held _ => 1
def uptoBulkAll {H : Type} : List (DataW H) → Nat
  | [] => 0
  | d :: r => uptoBulk d + uptoBulkAll r
def uptoBulkEntries {H : Type} : List (Lit × DataW H) → Nat
  | [] => 0
  | x :: r => uptoBulkEntry x + uptoBulkEntries r
def uptoBulkEntry {H : Type} : Lit × DataW H → Nat
  | (.string bytes, d) => bytes.length + uptoBulk d + 1
  | (_, d) => uptoBulk d + 1
 end
def uptoSmall : (H : Type) → List (DataW H) → Bool := fun _ ds => decide (uptoBulkAll ds ≤ 1048576)
def OpenSpec.upto (s : _root_.Go.ChangeSpec) : _root_.Go.OpenSpec := { _root_.Go.OpenSpec.ofChange s with cond := some uptoSmall }

/-- 'laws.FnKeysOfOnce', WHERE WHAT IT READS IS OF BULK AT MOST 1048576: true; the input reads as it did. -/
def fnKeysOfOnceUptoRow : OpenClaim := { program := "ytlobdkcjlpifjae", sum := "2fec387631117f007515e4ac55c36abe37d2be0a4e5aeabb2a733cb07b4e37e7", func := "loop.example/cacheengine/laws.FnKeysOfOnce", spec := "fnKeysOfOnce", apart := false, narrowed := true }
def FnKeysOfOnceUptoSaid : Prop := fnKeysOfOnceUptoRow.holds Try.pinned (OpenSpec.upto fnKeysOfOnceSpec)

/-- 'laws.FnExactUseRecent', WHERE WHAT IT READS IS OF BULK AT MOST 1048576: true; the input reads as it did. -/
def fnExactUseRecentUptoRow : OpenClaim := { program := "ytlobdkcjlpifjae", sum := "2fec387631117f007515e4ac55c36abe37d2be0a4e5aeabb2a733cb07b4e37e7", func := "loop.example/cacheengine/laws.FnExactUseRecent", spec := "fnExactUseRecent", apart := false, narrowed := true }
def FnExactUseRecentUptoSaid : Prop := fnExactUseRecentUptoRow.holds Try.pinned (OpenSpec.upto fnExactUseRecentSpec)

/-- 'laws.FnExactRunRecent', WHERE WHAT IT READS IS OF BULK AT MOST 1048576: true; the input reads as it did. -/
def fnExactRunRecentUptoRow : OpenClaim := { program := "ytlobdkcjlpifjae", sum := "2fec387631117f007515e4ac55c36abe37d2be0a4e5aeabb2a733cb07b4e37e7", func := "loop.example/cacheengine/laws.FnExactRunRecent", spec := "fnExactRunRecent", unfollowed := true, recurses := true, apart := false, narrowed := true }
def FnExactRunRecentUptoSaid : Prop := fnExactRunRecentUptoRow.holds Try.pinned (OpenSpec.upto fnExactRunRecentSpec)

/-- 'laws.FnExactUseFirst', WHERE WHAT IT READS IS OF BULK AT MOST 1048576: true; the input reads as it did. -/
def fnExactUseFirstUptoRow : OpenClaim := { program := "ytlobdkcjlpifjae", sum := "2fec387631117f007515e4ac55c36abe37d2be0a4e5aeabb2a733cb07b4e37e7", func := "loop.example/cacheengine/laws.FnExactUseFirst", spec := "fnExactUseFirst", apart := false, narrowed := true }
def FnExactUseFirstUptoSaid : Prop := fnExactUseFirstUptoRow.holds Try.pinned (OpenSpec.upto fnExactUseFirstSpec)

/-- 'laws.FnExactRunFirst', WHERE WHAT IT READS IS OF BULK AT MOST 1048576: true; the input reads as it did. -/
def fnExactRunFirstUptoRow : OpenClaim := { program := "ytlobdkcjlpifjae", sum := "2fec387631117f007515e4ac55c36abe37d2be0a4e5aeabb2a733cb07b4e37e7", func := "loop.example/cacheengine/laws.FnExactRunFirst", spec := "fnExactRunFirst", unfollowed := true, recurses := true, apart := false, narrowed := true }
def FnExactRunFirstUptoSaid : Prop := fnExactRunFirstUptoRow.holds Try.pinned (OpenSpec.upto fnExactRunFirstSpec)

/-- 'laws.FnExactValidClock', WHERE WHAT IT READS IS OF BULK AT MOST 1048576: true; the input reads as it did. -/
def fnExactValidClockUptoRow : OpenClaim := { program := "ytlobdkcjlpifjae", sum := "2fec387631117f007515e4ac55c36abe37d2be0a4e5aeabb2a733cb07b4e37e7", func := "loop.example/cacheengine/laws.FnExactValidClock", spec := "fnExactValidClock", apart := false, narrowed := true }
def FnExactValidClockUptoSaid : Prop := fnExactValidClockUptoRow.holds Try.pinned (OpenSpec.upto fnExactValidClockSpec)

/-- 'laws.FnExactUseClock', WHERE WHAT IT READS IS OF BULK AT MOST 1048576: true; the input reads as it did. -/
def fnExactUseClockUptoRow : OpenClaim := { program := "ytlobdkcjlpifjae", sum := "2fec387631117f007515e4ac55c36abe37d2be0a4e5aeabb2a733cb07b4e37e7", func := "loop.example/cacheengine/laws.FnExactUseClock", spec := "fnExactUseClock", apart := false, narrowed := true }
def FnExactUseClockUptoSaid : Prop := fnExactUseClockUptoRow.holds Try.pinned (OpenSpec.upto fnExactUseClockSpec)

end Rows
end Go.Proofs.Ytlobdkcjlpifjae
