/-
  A record that the laws copy.
-/
import Derived.Test.YtlbkhjmenglefaaRcD
import Derived.Test.YtlbkhjmenglefaaArr
namespace Go.Proofs.Ytlbkhjmenglefaa.W
open Go.ChangeShapes Go.WideShapes Go.ChangeAt Go.RowKit
open Go.Proofs.Ytlbkhjmenglefaa.M

set_option maxHeartbeats 1000000 in
set_option maxRecDepth 100000 in
theorem todl (a b c : Int) (w : World) :
    Calls Try.prog 9 #[.agg #[.int .i64 a, .int .i64 b, .int .i64 c]] w fun e' w' => e' = .returned (.agg #[.int .i64 a, .int .i64 b, .int .i64 c]) ∧ Below w.heap.size w w' := by
  go_enter Try.func9, Try.ntmps9
  go_wp2
  exact bodyPost_ret (v := .agg #[.int .i64 a, .int .i64 b, .int .i64 c]) (results_cell_row rfl _ _ (w.heap.size + 1) 29 _ _ _ rfl (var_alloc _ (heap_alloc2_new w _ _)) Try.underlying29 rfl (by kernel_rfl)) rfl ⟨rfl, (((Below.refl _ _).alloc (Nat.le_refl _) _).alloc (by simp) _).alloc (by simp; omega) _⟩
end Go.Proofs.Ytlbkhjmenglefaa.W
