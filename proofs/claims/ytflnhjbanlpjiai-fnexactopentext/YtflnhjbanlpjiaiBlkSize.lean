/-
  Blocks as arrays: their size.
-/
import Derived.Test.YtflnhjbanlpjiaiArrIx
namespace Go.Proofs.Ytflnhjbanlpjiai.W
open Go.ChangeShapes Go.WideShapes Go.ChangeAt Go.RowKit
open Go.Proofs.Ytflnhjbanlpjiai.M

theorem blk_size (l : List Nat) (hl : l.length = 16) : (Try.prog.info? 39).map (·.size) = some (arr l).size := by rw [arr_size, hl]; kernel_rfl

end Go.Proofs.Ytflnhjbanlpjiai.W
