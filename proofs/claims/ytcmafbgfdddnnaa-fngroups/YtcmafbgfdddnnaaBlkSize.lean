/-
  Blocks as arrays: their size.
-/
import Derived.Test.YtcmafbgfdddnnaaArrIx
namespace Go.Proofs.Ytcmafbgfdddnnaa.W
open Go.ChangeShapes Go.WideShapes Go.ChangeAt Go.RowKit
open Go.Proofs.Ytcmafbgfdddnnaa.M

theorem blk_size (l : List Nat) (hl : l.length = 16) : (Try.prog.info? 76).map (·.size) = some (arr l).size := by rw [arr_size, hl]; kernel_rfl

end Go.Proofs.Ytcmafbgfdddnnaa.W
