/-
  Blocks as arrays: their size.
-/
import Derived.Test.YtckgjghpfjinfaiArrIx
namespace Go.Proofs.Ytckgjghpfjinfai.W
open Go.ChangeShapes Go.WideShapes Go.ChangeAt Go.RowKit
open Go.Proofs.Ytckgjghpfjinfai.M

theorem blk_size (l : List Nat) (hl : l.length = 16) : (Try.prog.info? 63).map (·.size) = some (arr l).size := by rw [arr_size, hl]; kernel_rfl

end Go.Proofs.Ytckgjghpfjinfai.W
