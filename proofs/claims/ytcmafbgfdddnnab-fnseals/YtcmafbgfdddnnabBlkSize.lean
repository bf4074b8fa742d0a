/-
  Blocks as arrays: their size.
-/
import Derived.Test.YtcmafbgfdddnnabArrIx
namespace Go.Proofs.Ytcmafbgfdddnnab.W
open Go.ChangeShapes Go.WideShapes Go.ChangeAt Go.RowKit
open Go.Proofs.Ytcmafbgfdddnnab.M

theorem blk_size (l : List Nat) (hl : l.length = 16) : (Try.prog.info? 68).map (·.size) = some (arr l).size := by rw [arr_size, hl]; kernel_rfl

end Go.Proofs.Ytcmafbgfdddnnab.W
