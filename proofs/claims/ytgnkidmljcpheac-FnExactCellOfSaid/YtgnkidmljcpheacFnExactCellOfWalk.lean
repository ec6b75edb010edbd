/- The walk of a law: Law FnExactCellOf: the function answers as the model's does, leaves its arguments as they were, and what it answers is its own. -/
import Derived.Test.YtgnkidmljcpheacEx
import Derived.Test.YtgnkidmljcpheacFrame
namespace Go.Proofs.Ytgnkidmljcpheac.fnExactCellOf
open Go.RowKit

set_option maxRecDepth 100000 in
set_option maxHeartbeats 2000000 in
theorem walk  (s0 : Int) (s1 : Int) (w : World)  (_h0 : InR64 s0) (_h1 : InR64 s1) :
    Calls Try.prog 7 #[.int .i64 s0, .int .i64 s1] w (Law w) := by
  go_enter Try.func7, Try.ntmps7
  have hbw := Below.refl w.heap.size w
  go_wp2_with fail
  refine (specCellOf_c s0 s1 _).mono ?_
  rintro e w' ⟨rfl, rfl⟩
  go_wp2_with fail
  refine (implCellOf_c s0 s1 _).mono ?_
  rintro e w' ⟨rfl, rfl⟩
  go_wp2
  go_ret
  exact ⟨ret_bool (by simp), hbw⟩

end Go.Proofs.Ytgnkidmljcpheac.fnExactCellOf
