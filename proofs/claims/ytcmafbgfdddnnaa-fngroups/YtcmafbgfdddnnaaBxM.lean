/-
  A slice in a variable of its own.
-/
import Derived.Test.YtcmafbgfdddnnaaSlX
namespace Go.Proofs.Ytcmafbgfdddnnaa.M
open Go.RowKit

/-- A slice in a variable of its own. -/
def Bx (w : World) (g : Nat) (v : Value) : Prop := w.cell? ⟨g, 0, none⟩ = some v
theorem Bx.below {w w' : World} {g : Nat} {v : Value} (h : Bx w g v) (hb : Below w.heap.size w w') : Bx w' g v := cell_kept hb h
end Go.Proofs.Ytcmafbgfdddnnaa.M
