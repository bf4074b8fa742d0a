/-
  Slices of whole numbers: the type of their elements.
-/
import Derived.WalkSpells
import Derived.Test.YtalaolfcdaaaoaaSlZ
namespace Go.Proofs.Ytalaolfcdaaaoaa.W
open Go.ChangeShapes Go.WideShapes Go.ChangeAt Go.RowKit
open Go.Proofs.Ytalaolfcdaaaoaa.M

theorem info64 : (Try.prog.info? 2).map (fun i => (i.zero, i.size, i.bytes)) = some (some (.int .i64 0), 1, 8) := by kernel_rfl
end Go.Proofs.Ytalaolfcdaaaoaa.W
