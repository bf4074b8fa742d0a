/-
  Blocks as arrays: their size.
-/
import Derived.Test.YtckgjghpfjinfabArrIx
namespace Go.Proofs.Ytckgjghpfjinfab.W
open Go.ChangeShapes Go.WideShapes Go.ChangeAt Go.RowKit
open Go.Proofs.Ytckgjghpfjinfab.M

theorem blk_size (l : List Nat) (hl : l.length = 16) : (Try.prog.info? 79).map (·.size) = some (arr l).size := by rw [arr_size, hl]; kernel_rfl

end Go.Proofs.Ytckgjghpfjinfab.W
