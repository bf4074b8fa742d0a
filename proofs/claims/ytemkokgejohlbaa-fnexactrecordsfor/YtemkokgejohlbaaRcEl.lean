/-

  How the exact laws compare two records.
-/
import Derived.Test.YtemkokgejohlbaaRcD
import Derived.Test.YtemkokgejohlbaaArr
namespace Go.Proofs.Ytemkokgejohlbaa.W
open Go.ChangeShapes Go.WideShapes Go.ChangeAt Go.RowKit
open Go.Proofs.Ytemkokgejohlbaa.M
set_option maxHeartbeats 1000000 in
set_option maxRecDepth 100000 in
theorem eqdl (a b c : Int) (w : World) :
    Calls Try.prog 27 #[.agg #[.int .i64 a, .int .i64 b, .int .i64 c], .agg #[.int .i64 a, .int .i64 b, .int .i64 c]] w fun e w' => e = .returned (.bool true) ∧ Below w.heap.size w w' := by
  go_enter Try.func27, Try.ntmps27
  go_wp2
  go_ret
  exact ⟨rfl, below_alloc2 w _ _⟩
end Go.Proofs.Ytemkokgejohlbaa.W
