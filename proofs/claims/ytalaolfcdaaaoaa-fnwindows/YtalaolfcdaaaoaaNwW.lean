/-
  What NewWindow answers, of the model and of the program.
-/
import Derived.Test.YtalaolfcdaaaoaaBase
import Derived.Test.YtalaolfcdaaaoaaArr
namespace Go.Proofs.Ytalaolfcdaaaoaa.W
open Go.ChangeShapes Go.WideShapes Go.ChangeAt Go.RowKit
open Go.Proofs.Ytalaolfcdaaaoaa.M

set_option maxRecDepth 100000 in
theorem snw (w : World) : Calls Try.prog 128 #[] w fun e w' => e = .returned (.agg #[.int .i64 (-1), .slice none 0 0]) ∧ Below w.heap.size w w' := by
  have HS := hid (heap_alloc_new w (.cells #[.int .i64 (-1), .slice none 0 0] 69))
  have HB := hid (below_alloc1 w (.cells #[.int .i64 (-1), .slice none 0 0] 69))
  go_enter Try.func128, Try.ntmps128
  go_wp2
  exact bodyPost_ret (v := .agg #[.int .i64 (-1), .slice none 0 0]) (results_cell_row rfl _ _ w.heap.size 69 _ _ _ rfl HS.out Try.underlying69 rfl (by kernel_rfl)) rfl ⟨rfl, HB.out⟩
set_option maxRecDepth 100000 in
theorem inw (w : World) : Calls Try.prog 52 #[] w fun e w' => e = .returned (.agg #[.int .i64 (-1), .slice none 0 0]) ∧ Below w.heap.size w w' := by
  have HS := hid (heap_alloc_new w (.cells #[.int .i64 (-1), .slice none 0 0] 69))
  have HB := hid (below_alloc1 w (.cells #[.int .i64 (-1), .slice none 0 0] 69))
  go_enter Try.func52, Try.ntmps52
  go_wp2
  exact bodyPost_ret (v := .agg #[.int .i64 (-1), .slice none 0 0]) (results_cell_row rfl _ _ w.heap.size 69 _ _ _ rfl HS.out Try.underlying69 rfl (by kernel_rfl)) rfl ⟨rfl, HB.out⟩
end Go.Proofs.Ytalaolfcdaaaoaa.W
