/-
  No cell of these rows narrows 'for every input' (looked for: loops, veiled, ifaces, maps, wideKeys, modest, calm, conditions, laid).
  DERIVED. THE GIVEN ROWS OF THIS SEAT. 10 by the template 'for every input the law returns true; each argument reads behind the call as it read before'; 0 by the template 'total and deterministic' (their statements: YtaajnkggomlppaaTotals.lean).
  GIVEN WITH THE SEED: the statements are not yours to turn. If you find one false, say at which input.
  Laid BY PROGRAM, IN A SANDBOX (cutbox-rows.mjs): the forced cells as the released guide's own fill.sh prints them over the translation e6537ea5f09fae00… (all of the seat's roots in one cut). By AI agents, Wed Nov 11 2026. No macro, syntax, notation, axiom, sorry.
-/
import Derived.Test.YtaajnkggomlppaaChecked
import GoSem.Claim
import GoSem.ClaimJoined
import GoSem.ClaimMapViews
import Derived.JoinedTies
import Derived.KernelRfl
namespace Go.Proofs.Ytaajnkggomlppaa
/- THE CELL 'sum', in the pinned program and in every row, IS THE sha256 OF THE DUMP (.gsa) THAT YtaajnkggomlppaaProg.lean LOADS. Nothing in Lean hashes anything: it is a label: what it is worth is what the hold of that sum in a sandbox is worth. -/
noncomputable def Try.pinned : Pinned := { name := "ytaajnkggomlppaa", sum := "e6537ea5f09fae001bf47205ed8a5d79d472301bdb3410eebe0c5d3de41556d0", checked := Try.checked }
namespace Rows
def none {H : Type} : Left H := { results := [], args := [] }

/-- 'laws.FnValidWeighed': WHATEVER THE INPUT: true; the input reads as it did. -/
def fnValidWeighedSpec : ChangeSpec := { name := "fnValidWeighed", fn := fun _ => fun
  | [d] => { results := [.lit (.bool true)], args := [d] }
  | _ => none }
def fnValidWeighedRow : OpenClaim := { program := "ytaajnkggomlppaa", sum := "e6537ea5f09fae001bf47205ed8a5d79d472301bdb3410eebe0c5d3de41556d0", func := "loop.example/cacheengine/laws.FnValidWeighed", spec := "fnValidWeighed", unfollowed := true, recurses := true, apart := false }
def FnValidWeighedSaid : Prop := fnValidWeighedRow.holds Try.pinned (OpenSpec.ofChange fnValidWeighedSpec)

/-- ITS FALSE NEIGHBOUR: 'it returns false'. Refute it at one input. -/
def fnValidWeighedWrong : ChangeSpec := { name := "fnValidWeighed", fn := fun _ => fun
  | [d] => { results := [.lit (.bool false)], args := [d] }
  | _ => none }
def FnValidWeighedWrongFalsely : Prop := fnValidWeighedRow.holds Try.pinned (OpenSpec.ofChange fnValidWeighedWrong)

/-- 'laws.FnFreeSpace': WHATEVER THE INPUT: true; the input reads as it did. -/
def fnFreeSpaceSpec : ChangeSpec := { name := "fnFreeSpace", fn := fun _ => fun
  | [d] => { results := [.lit (.bool true)], args := [d] }
  | _ => none }
def fnFreeSpaceRow : OpenClaim := { program := "ytaajnkggomlppaa", sum := "e6537ea5f09fae001bf47205ed8a5d79d472301bdb3410eebe0c5d3de41556d0", func := "loop.example/cacheengine/laws.FnFreeSpace", spec := "fnFreeSpace", unfollowed := true, recurses := true, apart := false }
def FnFreeSpaceSaid : Prop := fnFreeSpaceRow.holds Try.pinned (OpenSpec.ofChange fnFreeSpaceSpec)

/-- ITS FALSE NEIGHBOUR: 'it returns false'. Refute it at one input. -/
def fnFreeSpaceWrong : ChangeSpec := { name := "fnFreeSpace", fn := fun _ => fun
  | [d] => { results := [.lit (.bool false)], args := [d] }
  | _ => none }
def FnFreeSpaceWrongFalsely : Prop := fnFreeSpaceRow.holds Try.pinned (OpenSpec.ofChange fnFreeSpaceWrong)

/-- 'laws.FnUseWeighed': WHATEVER THE INPUT: true; the input reads as it did. -/
def fnUseWeighedSpec : ChangeSpec := { name := "fnUseWeighed", fn := fun _ => fun
  | [d] => { results := [.lit (.bool true)], args := [d] }
  | _ => none }
def fnUseWeighedRow : OpenClaim := { program := "ytaajnkggomlppaa", sum := "e6537ea5f09fae001bf47205ed8a5d79d472301bdb3410eebe0c5d3de41556d0", func := "loop.example/cacheengine/laws.FnUseWeighed", spec := "fnUseWeighed", unfollowed := true, recurses := true, apart := false }
def FnUseWeighedSaid : Prop := fnUseWeighedRow.holds Try.pinned (OpenSpec.ofChange fnUseWeighedSpec)

/-- ITS FALSE NEIGHBOUR: 'it returns false'. Refute it at one input. -/
def fnUseWeighedWrong : ChangeSpec := { name := "fnUseWeighed", fn := fun _ => fun
  | [d] => { results := [.lit (.bool false)], args := [d] }
  | _ => none }
def FnUseWeighedWrongFalsely : Prop := fnUseWeighedRow.holds Try.pinned (OpenSpec.ofChange fnUseWeighedWrong)

/-- 'laws.FnUseWeighedOthers': WHATEVER THE INPUT: true; the input reads as it did. -/
def fnUseWeighedOthersSpec : ChangeSpec := { name := "fnUseWeighedOthers", fn := fun _ => fun
  | [d] => { results := [.lit (.bool true)], args := [d] }
  | _ => none }
def fnUseWeighedOthersRow : OpenClaim := { program := "ytaajnkggomlppaa", sum := "e6537ea5f09fae001bf47205ed8a5d79d472301bdb3410eebe0c5d3de41556d0", func := "loop.example/cacheengine/laws.FnUseWeighedOthers", spec := "fnUseWeighedOthers", unfollowed := true, recurses := true, apart := false }
def FnUseWeighedOthersSaid : Prop := fnUseWeighedOthersRow.holds Try.pinned (OpenSpec.ofChange fnUseWeighedOthersSpec)

/-- ITS FALSE NEIGHBOUR: 'it returns false'. Refute it at one input. -/
def fnUseWeighedOthersWrong : ChangeSpec := { name := "fnUseWeighedOthers", fn := fun _ => fun
  | [d] => { results := [.lit (.bool false)], args := [d] }
  | _ => none }
def FnUseWeighedOthersWrongFalsely : Prop := fnUseWeighedOthersRow.holds Try.pinned (OpenSpec.ofChange fnUseWeighedOthersWrong)

/-- 'laws.FnUseWeighedLast': WHATEVER THE INPUT: true; the input reads as it did. -/
def fnUseWeighedLastSpec : ChangeSpec := { name := "fnUseWeighedLast", fn := fun _ => fun
  | [d] => { results := [.lit (.bool true)], args := [d] }
  | _ => none }
def fnUseWeighedLastRow : OpenClaim := { program := "ytaajnkggomlppaa", sum := "e6537ea5f09fae001bf47205ed8a5d79d472301bdb3410eebe0c5d3de41556d0", func := "loop.example/cacheengine/laws.FnUseWeighedLast", spec := "fnUseWeighedLast", unfollowed := true, recurses := true, apart := false }
def FnUseWeighedLastSaid : Prop := fnUseWeighedLastRow.holds Try.pinned (OpenSpec.ofChange fnUseWeighedLastSpec)

/-- ITS FALSE NEIGHBOUR: 'it returns false'. Refute it at one input. -/
def fnUseWeighedLastWrong : ChangeSpec := { name := "fnUseWeighedLast", fn := fun _ => fun
  | [d] => { results := [.lit (.bool false)], args := [d] }
  | _ => none }
def FnUseWeighedLastWrongFalsely : Prop := fnUseWeighedLastRow.holds Try.pinned (OpenSpec.ofChange fnUseWeighedLastWrong)

/-- 'laws.FnFreeSpaceUse': WHATEVER THE INPUT: true; the input reads as it did. -/
def fnFreeSpaceUseSpec : ChangeSpec := { name := "fnFreeSpaceUse", fn := fun _ => fun
  | [d] => { results := [.lit (.bool true)], args := [d] }
  | _ => none }
def fnFreeSpaceUseRow : OpenClaim := { program := "ytaajnkggomlppaa", sum := "e6537ea5f09fae001bf47205ed8a5d79d472301bdb3410eebe0c5d3de41556d0", func := "loop.example/cacheengine/laws.FnFreeSpaceUse", spec := "fnFreeSpaceUse", unfollowed := true, recurses := true, apart := false }
def FnFreeSpaceUseSaid : Prop := fnFreeSpaceUseRow.holds Try.pinned (OpenSpec.ofChange fnFreeSpaceUseSpec)

/-- ITS FALSE NEIGHBOUR: 'it returns false'. Refute it at one input. -/
def fnFreeSpaceUseWrong : ChangeSpec := { name := "fnFreeSpaceUse", fn := fun _ => fun
  | [d] => { results := [.lit (.bool false)], args := [d] }
  | _ => none }
def FnFreeSpaceUseWrongFalsely : Prop := fnFreeSpaceUseRow.holds Try.pinned (OpenSpec.ofChange fnFreeSpaceUseWrong)

/-- 'laws.FnUseWeighedTwice': WHATEVER THE INPUT: true; the input reads as it did. -/
def fnUseWeighedTwiceSpec : ChangeSpec := { name := "fnUseWeighedTwice", fn := fun _ => fun
  | [d] => { results := [.lit (.bool true)], args := [d] }
  | _ => none }
def fnUseWeighedTwiceRow : OpenClaim := { program := "ytaajnkggomlppaa", sum := "e6537ea5f09fae001bf47205ed8a5d79d472301bdb3410eebe0c5d3de41556d0", func := "loop.example/cacheengine/laws.FnUseWeighedTwice", spec := "fnUseWeighedTwice", unfollowed := true, recurses := true, apart := false }
def FnUseWeighedTwiceSaid : Prop := fnUseWeighedTwiceRow.holds Try.pinned (OpenSpec.ofChange fnUseWeighedTwiceSpec)

/-- ITS FALSE NEIGHBOUR: 'it returns false'. Refute it at one input. -/
def fnUseWeighedTwiceWrong : ChangeSpec := { name := "fnUseWeighedTwice", fn := fun _ => fun
  | [d] => { results := [.lit (.bool false)], args := [d] }
  | _ => none }
def FnUseWeighedTwiceWrongFalsely : Prop := fnUseWeighedTwiceRow.holds Try.pinned (OpenSpec.ofChange fnUseWeighedTwiceWrong)

/-- 'laws.FnExactValidWeighed': WHATEVER THE INPUT: true; the input reads as it did. -/
def fnExactValidWeighedSpec : ChangeSpec := { name := "fnExactValidWeighed", fn := fun _ => fun
  | [d1, d2] => { results := [.lit (.bool true)], args := [d1, d2] }
  | _ => none }
def fnExactValidWeighedRow : OpenClaim := { program := "ytaajnkggomlppaa", sum := "e6537ea5f09fae001bf47205ed8a5d79d472301bdb3410eebe0c5d3de41556d0", func := "loop.example/cacheengine/laws.FnExactValidWeighed", spec := "fnExactValidWeighed", unfollowed := true, recurses := true, apart := false }
def FnExactValidWeighedSaid : Prop := fnExactValidWeighedRow.holds Try.pinned (OpenSpec.ofChange fnExactValidWeighedSpec)

/-- ITS FALSE NEIGHBOUR: 'it returns false'. Refute it at one input. -/
def fnExactValidWeighedWrong : ChangeSpec := { name := "fnExactValidWeighed", fn := fun _ => fun
  | [d1, d2] => { results := [.lit (.bool false)], args := [d1, d2] }
  | _ => none }
def FnExactValidWeighedWrongFalsely : Prop := fnExactValidWeighedRow.holds Try.pinned (OpenSpec.ofChange fnExactValidWeighedWrong)

/-- 'laws.FnExactFreeSpace': WHATEVER THE INPUT: true; the input reads as it did. -/
def fnExactFreeSpaceSpec : ChangeSpec := { name := "fnExactFreeSpace", fn := fun _ => fun
  | [d1, d2] => { results := [.lit (.bool true)], args := [d1, d2] }
  | _ => none }
def fnExactFreeSpaceRow : OpenClaim := { program := "ytaajnkggomlppaa", sum := "e6537ea5f09fae001bf47205ed8a5d79d472301bdb3410eebe0c5d3de41556d0", func := "loop.example/cacheengine/laws.FnExactFreeSpace", spec := "fnExactFreeSpace", unfollowed := true, recurses := true, apart := false }
def FnExactFreeSpaceSaid : Prop := fnExactFreeSpaceRow.holds Try.pinned (OpenSpec.ofChange fnExactFreeSpaceSpec)

/-- ITS FALSE NEIGHBOUR: 'it returns false'. Refute it at one input. -/
def fnExactFreeSpaceWrong : ChangeSpec := { name := "fnExactFreeSpace", fn := fun _ => fun
  | [d1, d2] => { results := [.lit (.bool false)], args := [d1, d2] }
  | _ => none }
def FnExactFreeSpaceWrongFalsely : Prop := fnExactFreeSpaceRow.holds Try.pinned (OpenSpec.ofChange fnExactFreeSpaceWrong)

/-- 'laws.FnExactUseWeighed': WHATEVER THE INPUT: true; the input reads as it did. -/
def fnExactUseWeighedSpec : ChangeSpec := { name := "fnExactUseWeighed", fn := fun _ => fun
  | [d1, d2, d3, d4] => { results := [.lit (.bool true)], args := [d1, d2, d3, d4] }
  | _ => none }
def fnExactUseWeighedRow : OpenClaim := { program := "ytaajnkggomlppaa", sum := "e6537ea5f09fae001bf47205ed8a5d79d472301bdb3410eebe0c5d3de41556d0", func := "loop.example/cacheengine/laws.FnExactUseWeighed", spec := "fnExactUseWeighed", unfollowed := true, recurses := true, apart := false }
def FnExactUseWeighedSaid : Prop := fnExactUseWeighedRow.holds Try.pinned (OpenSpec.ofChange fnExactUseWeighedSpec)

/-- ITS FALSE NEIGHBOUR: 'it returns false'. Refute it at one input. -/
def fnExactUseWeighedWrong : ChangeSpec := { name := "fnExactUseWeighed", fn := fun _ => fun
  | [d1, d2, d3, d4] => { results := [.lit (.bool false)], args := [d1, d2, d3, d4] }
  | _ => none }
def FnExactUseWeighedWrongFalsely : Prop := fnExactUseWeighedRow.holds Try.pinned (OpenSpec.ofChange fnExactUseWeighedWrong)

/- THE SECOND FORM. 'bulk': how many values and letters a reading holds, each counted each time it is reached (what is shared counts as often as it is met; a slice's spare places count too). A statement '..UptoSaid' is the law's where the arguments, and the package variables that the reading takes, are together of bulk at most 1048576: NARROWER than '..Said'. Prove '..Said' where nothing that the law and all that it calls make is longer than what came in: it says more and counts as full. Else prove '..UptoSaid'. A law counts once. -/
mutual
def uptoBulk {H : Type} : DataW H → Nat
  | .lit (.string bytes) => bytes.length + 1
  | .lit _ => 1
  | .nil => 1
  | .ptr d => uptoBulk d + 1
  | .slice elems spare => uptoBulkAll elems + uptoBulkAll spare + 1
  | .agg parts => uptoBulkAll parts + 1
  | .iface _ d => uptoBulk d + 1
  | .map entries => uptoBulkEntries entries + 1
  | .held _ => 1
def uptoBulkAll {H : Type} : List (DataW H) → Nat
  | [] => 0
  | d :: r => uptoBulk d + uptoBulkAll r
def uptoBulkEntries {H : Type} : List (Lit × DataW H) → Nat
  | [] => 0
  | x :: r => uptoBulkEntry x + uptoBulkEntries r
def uptoBulkEntry {H : Type} : Lit × DataW H → Nat
  | (.string bytes, d) => bytes.length + uptoBulk d + 1
  | (_, d) => uptoBulk d + 1
 end
def uptoSmall : (H : Type) → List (DataW H) → Bool := fun _ ds => decide (uptoBulkAll ds ≤ 1048576)
def OpenSpec.upto (s : _root_.Go.ChangeSpec) : _root_.Go.OpenSpec := { _root_.Go.OpenSpec.ofChange s with cond := some uptoSmall }

/-- 'laws.FnValidWeighed', WHERE WHAT IT READS IS OF BULK AT MOST 1048576: true; the input reads as it did. -/
def fnValidWeighedUptoRow : OpenClaim := { program := "ytaajnkggomlppaa", sum := "e6537ea5f09fae001bf47205ed8a5d79d472301bdb3410eebe0c5d3de41556d0", func := "loop.example/cacheengine/laws.FnValidWeighed", spec := "fnValidWeighed", unfollowed := true, recurses := true, apart := false, narrowed := true }
def FnValidWeighedUptoSaid : Prop := fnValidWeighedUptoRow.holds Try.pinned (OpenSpec.upto fnValidWeighedSpec)

/-- 'laws.FnFreeSpace', WHERE WHAT IT READS IS OF BULK AT MOST 1048576: true; the input reads as it did. -/
def fnFreeSpaceUptoRow : OpenClaim := { program := "ytaajnkggomlppaa", sum := "e6537ea5f09fae001bf47205ed8a5d79d472301bdb3410eebe0c5d3de41556d0", func := "loop.example/cacheengine/laws.FnFreeSpace", spec := "fnFreeSpace", unfollowed := true, recurses := true, apart := false, narrowed := true }
def FnFreeSpaceUptoSaid : Prop := fnFreeSpaceUptoRow.holds Try.pinned (OpenSpec.upto fnFreeSpaceSpec)

/-- 'laws.FnUseWeighed', WHERE WHAT IT READS IS OF BULK AT MOST 1048576: true; the input reads as it did. -/
def fnUseWeighedUptoRow : OpenClaim := { program := "ytaajnkggomlppaa", sum := "e6537ea5f09fae001bf47205ed8a5d79d472301bdb3410eebe0c5d3de41556d0", func := "loop.example/cacheengine/laws.FnUseWeighed", spec := "fnUseWeighed", unfollowed := true, recurses := true, apart := false, narrowed := true }
def FnUseWeighedUptoSaid : Prop := fnUseWeighedUptoRow.holds Try.pinned (OpenSpec.upto fnUseWeighedSpec)

/-- 'laws.FnUseWeighedOthers', WHERE WHAT IT READS IS OF BULK AT MOST 1048576: true; the input reads as it did. -/
def fnUseWeighedOthersUptoRow : OpenClaim := { program := "ytaajnkggomlppaa", sum := "e6537ea5f09fae001bf47205ed8a5d79d472301bdb3410eebe0c5d3de41556d0", func := "loop.example/cacheengine/laws.FnUseWeighedOthers", spec := "fnUseWeighedOthers", unfollowed := true, recurses := true, apart := false, narrowed := true }
def FnUseWeighedOthersUptoSaid : Prop := fnUseWeighedOthersUptoRow.holds Try.pinned (OpenSpec.upto fnUseWeighedOthersSpec)

/-- 'laws.FnUseWeighedLast', WHERE WHAT IT READS IS OF BULK AT MOST 1048576: true; the input reads as it did. -/
def fnUseWeighedLastUptoRow : OpenClaim := { program := "ytaajnkggomlppaa", sum := "e6537ea5f09fae001bf47205ed8a5d79d472301bdb3410eebe0c5d3de41556d0", func := "loop.example/cacheengine/laws.FnUseWeighedLast", spec := "fnUseWeighedLast", unfollowed := true, recurses := true, apart := false, narrowed := true }
def FnUseWeighedLastUptoSaid : Prop := fnUseWeighedLastUptoRow.holds Try.pinned (OpenSpec.upto fnUseWeighedLastSpec)

/-- 'laws.FnFreeSpaceUse', WHERE WHAT IT READS IS OF BULK AT MOST 1048576: true; the input reads as it did. -/
def fnFreeSpaceUseUptoRow : OpenClaim := { program := "ytaajnkggomlppaa", sum := "e6537ea5f09fae001bf47205ed8a5d79d472301bdb3410eebe0c5d3de41556d0", func := "loop.example/cacheengine/laws.FnFreeSpaceUse", spec := "fnFreeSpaceUse", unfollowed := true, recurses := true, apart := false, narrowed := true }
def FnFreeSpaceUseUptoSaid : Prop := fnFreeSpaceUseUptoRow.holds Try.pinned (OpenSpec.upto fnFreeSpaceUseSpec)

/-- 'laws.FnUseWeighedTwice', WHERE WHAT IT READS IS OF BULK AT MOST 1048576: true; the input reads as it did. -/
def fnUseWeighedTwiceUptoRow : OpenClaim := { program := "ytaajnkggomlppaa", sum := "e6537ea5f09fae001bf47205ed8a5d79d472301bdb3410eebe0c5d3de41556d0", func := "loop.example/cacheengine/laws.FnUseWeighedTwice", spec := "fnUseWeighedTwice", unfollowed := true, recurses := true, apart := false, narrowed := true }
def FnUseWeighedTwiceUptoSaid : Prop := fnUseWeighedTwiceUptoRow.holds Try.pinned (OpenSpec.upto fnUseWeighedTwiceSpec)

/-- 'laws.FnExactValidWeighed', WHERE WHAT IT READS IS OF BULK AT MOST 1048576: true; the input reads as it did. -/
def fnExactValidWeighedUptoRow : OpenClaim := { program := "ytaajnkggomlppaa", sum := "e6537ea5f09fae001bf47205ed8a5d79d472301bdb3410eebe0c5d3de41556d0", func := "loop.example/cacheengine/laws.FnExactValidWeighed", spec := "fnExactValidWeighed", unfollowed := true, recurses := true, apart := false, narrowed := true }
def FnExactValidWeighedUptoSaid : Prop := fnExactValidWeighedUptoRow.holds Try.pinned (OpenSpec.upto fnExactValidWeighedSpec)

/-- 'laws.FnExactFreeSpace', WHERE WHAT IT READS IS OF BULK AT MOST 1048576: true; the input reads as it did. -/
def fnExactFreeSpaceUptoRow : OpenClaim := { program := "ytaajnkggomlppaa", sum := "e6537ea5f09fae001bf47205ed8a5d79d472301bdb3410eebe0c5d3de41556d0", func := "loop.example/cacheengine/laws.FnExactFreeSpace", spec := "fnExactFreeSpace", unfollowed := true, recurses := true, apart := false, narrowed := true }
def FnExactFreeSpaceUptoSaid : Prop := fnExactFreeSpaceUptoRow.holds Try.pinned (OpenSpec.upto fnExactFreeSpaceSpec)

/-- 'laws.FnExactUseWeighed', WHERE WHAT IT READS IS OF BULK AT MOST 1048576: true; the input reads as it did. -/
def fnExactUseWeighedUptoRow : OpenClaim := { program := "ytaajnkggomlppaa", sum := "e6537ea5f09fae001bf47205ed8a5d79d472301bdb3410eebe0c5d3de41556d0", func := "loop.example/cacheengine/laws.FnExactUseWeighed", spec := "fnExactUseWeighed", unfollowed := true, recurses := true, apart := false, narrowed := true }
def FnExactUseWeighedUptoSaid : Prop := fnExactUseWeighedUptoRow.holds Try.pinned (OpenSpec.upto fnExactUseWeighedSpec)

end Rows
end Go.Proofs.Ytaajnkggomlppaa
