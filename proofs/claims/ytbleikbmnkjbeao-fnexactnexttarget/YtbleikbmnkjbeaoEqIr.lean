/-
  Two answers of a code and a number: what the laws' eqIntResult answers where they are the same.
-/
import Derived.Test.YtbleikbmnkjbeaoBase
namespace Go.Proofs.Ytbleikbmnkjbeao.W
open Go.ChangeShapes Go.WideShapes Go.ChangeAt Go.RowKit
open Go.Proofs.Ytbleikbmnkjbeao.M

set_option maxRecDepth 100000 in
theorem eqIR (c v : Int) (w : World) :
    Calls Try.prog 29 #[.agg #[.int .i64 c, .int .i64 v], .agg #[.int .i64 c, .int .i64 v]] w fun e w' => e = .returned (.bool true) ∧ Below w.heap.size w w' := by
  go_enter Try.func29, Try.ntmps29
  go_wp2
  go_ret
  exact ⟨rfl, below_alloc2 w _ _⟩

end Go.Proofs.Ytbleikbmnkjbeao.W
