/-
  A key that is told out of a ring's map.
-/
import Derived.Test.YtbfdbicddmffnabIkrW
import Derived.Test.YtbfdbicddmffnabLetF3
import Derived.Test.YtbfdbicddmffnabIv
namespace Go.Proofs.Ytbfdbicddmffnab.W
open Go.ChangeShapes Go.WideShapes Go.ChangeAt Go.RowKit
open Go.Proofs.Ytbfdbicddmffnab.M

set_option maxRecDepth 100000 in
theorem itellK (l : List Nat) (id' : Int) (w : World) (hl : l.length = 16) :
    Calls Try.prog 89 #[.agg (arr l), .int .i64 id'] w fun e w' => ∃ g, e = .returned (.agg #[.int .i64 id', .slice (some ⟨g, 0, none⟩) 16 16]) ∧ OB w' w.heap.size w'.heap.size (.slice (some ⟨g, 0, none⟩) 16 16) l ∧ Below w.heap.size w w' := by
  have HL := hid hl
  clear hl
  go_enter Try.func89, Try.ntmps89
  go_wp2_with fail
  exact bodyPost_ret (v := .agg #[.int .i64 id', .slice (some ⟨w.heap.size, 0, none⟩) 16 16]) (results_cell_row rfl _ _ (w.heap.size + 1) 40 _ _ _ rfl (heap_alloc2_new w _ _) Try.underlying40 rfl (by kernel_rfl)) rfl ⟨w.heap.size, rfl, OB.of (Owx.ofAr (show Ar _ w.heap.size 115 l from heap_alloc2_old w _ _) HL.out (Nat.le_refl _) (by unfold maxLen; omega)), below_alloc2 w _ _⟩
end Go.Proofs.Ytbfdbicddmffnab.W
