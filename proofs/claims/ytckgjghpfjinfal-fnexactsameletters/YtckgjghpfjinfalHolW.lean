/-
  The head of a letter: what the program's headOfLetter answers.
-/
import Derived.Test.YtckgjghpfjinfalBase
namespace Go.Proofs.Ytckgjghpfjinfal.W
open Go.ChangeShapes Go.WideShapes Go.ChangeAt Go.RowKit
open Go.Proofs.Ytckgjghpfjinfal.M

set_option maxRecDepth 100000 in
theorem ihol (k s c : Int) (a : Option Addr) (n cap : Nat) (w : World) :
    Calls Try.prog 11 #[.agg #[.int .i64 k, .int .i64 s, .int .i64 c, .slice a n cap]] w fun e w' => e = .returned (.agg #[.int .i64 s, .int .i64 c, .int .i64 k]) ∧ Below w.heap.size w w' := by
  go_enter Try.func11, Try.ntmps11
  go_wp2
  exact bodyPost_ret (v := .agg #[.int .i64 s, .int .i64 c, .int .i64 k]) (results_cell_row rfl _ _ (w.heap.size + 1) 35 _ _ _ rfl (heap_alloc2_new w _ _) Try.underlying35 rfl (by kernel_rfl)) rfl ⟨rfl, below_alloc2 w _ _⟩
end Go.Proofs.Ytckgjghpfjinfal.W
