/-
  Blocks as arrays: their size.
-/
import Derived.Test.YtaopocjagikacahArrIx
namespace Go.Proofs.Ytaopocjagikacah.W
open Go.ChangeShapes Go.WideShapes Go.ChangeAt Go.RowKit
open Go.Proofs.Ytaopocjagikacah.M

theorem blk_size (l : List Nat) (hl : l.length = 16) : (Try.prog.info? 34).map (·.size) = some (arr l).size := by rw [arr_size, hl]; kernel_rfl

end Go.Proofs.Ytaopocjagikacah.W
