/- Contracts of what is drawn for each function of the chapters 1 and 2. No statement is proved here. -/
import Derived.Test.YtgnkidmljcpheadDrawB
namespace Go.Proofs.Ytgnkidmljcphead
open Go.RowKit




/-- A list was drawn: small, in new memory. -/
def Drawn1 (w : World) (e : Ending) (w' : World) : Prop := ∃ A n c l, e = .returned (.slice A n c) ∧ OI w' w.heap.size A n c l ∧ n ≤ 1000 ∧ Bd l ∧ Below w.heap.size w w'
/-- A list and a number. -/
def Drawn2 (w : World) (e : Ending) (w' : World) : Prop := ∃ A n c l x, e = .returned (.tuple #[.slice A n c, .int .i64 x]) ∧ OI w' w.heap.size A n c l ∧ n ≤ 1000 ∧ Bd l ∧ (-100000 ≤ x ∧ x ≤ 100000) ∧ Below w.heap.size w w'
/-- A list and two numbers. -/
def Drawn3 (w : World) (e : Ending) (w' : World) : Prop := ∃ A n c l x y, e = .returned (.tuple #[.slice A n c, .int .i64 x, .int .i64 y]) ∧ OI w' w.heap.size A n c l ∧ n ≤ 1000 ∧ Bd l ∧ (-100000 ≤ x ∧ x ≤ 100000) ∧ (-100000 ≤ y ∧ y ≤ 100000) ∧ Below w.heap.size w w'
/-- Two numbers. -/
def DrawnII (w : World) (e : Ending) (w' : World) : Prop := ∃ x y, e = .returned (.tuple #[.int .i64 x, .int .i64 y]) ∧ (-100000 ≤ x ∧ x ≤ 100000) ∧ (-100000 ≤ y ∧ y ≤ 100000) ∧ Below w.heap.size w w'
/-- Two lists. -/
def DrawnLL (w : World) (e : Ending) (w' : World) : Prop := ∃ A n c l A' n' c' l', e = .returned (.tuple #[.slice A n c, .slice A' n' c']) ∧ OI w' w.heap.size A n c l ∧ n ≤ 1000 ∧ Bd l ∧ OI w' w.heap.size A' n' c' l' ∧ n' ≤ 1000 ∧ Bd l' ∧ Below w.heap.size w w'

end Go.Proofs.Ytgnkidmljcphead
