/-
  Blocks as arrays: their size.
-/
import Derived.Test.YtflnhjbanlpjiahArrIx
namespace Go.Proofs.Ytflnhjbanlpjiah.W
open Go.ChangeShapes Go.WideShapes Go.ChangeAt Go.RowKit
open Go.Proofs.Ytflnhjbanlpjiah.M

theorem blk_size (l : List Nat) (hl : l.length = 16) : (Try.prog.info? 34).map (·.size) = some (arr l).size := by rw [arr_size, hl]; kernel_rfl

end Go.Proofs.Ytflnhjbanlpjiah.W
