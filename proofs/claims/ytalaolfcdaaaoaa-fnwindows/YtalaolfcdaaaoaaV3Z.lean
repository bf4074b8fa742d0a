/-
  Variables of three cells that are stored into; a field of what is told of a window.
-/
import Derived.Test.YtalaolfcdaaaoaaSlZI
import Derived.Test.YtalaolfcdaaaoaaLetV
namespace Go.Proofs.Ytalaolfcdaaaoaa.W
open Go.ChangeShapes Go.WideShapes Go.ChangeAt Go.RowKit
open Go.Proofs.Ytalaolfcdaaaoaa.M

theorem var3_setZ {w' : World} {g : Nat} {x y z x' y' z' : Value} {T : TypeId} (h : w'.heap[g]? = some (.cells #[x, y, z] T)) :
    (((w'.setCell ⟨g, 0, none⟩ x').setCell ⟨g, 1, none⟩ y').setCell ⟨g, 2, none⟩ z').heap[g]? = some (.cells #[x', y', z'] T) := by
  have h1 := heap_setCell_same w' g 0 _ T x' h
  have h2 := heap_setCell_same _ g 1 _ T y' h1
  have h3 := heap_setCell_same _ g 2 _ T z' h2
  simpa using h3
theorem below_set3Z {w w' : World} {g : Nat} {x y z : Value} (hB : Below w.heap.size w w') (hg : w.heap.size ≤ g) : Below w.heap.size w (((w'.setCell ⟨g, 0, none⟩ x).setCell ⟨g, 1, none⟩ y).setCell ⟨g, 2, none⟩ z) :=
  ((hB.setCell (p := ⟨g, 0, none⟩) hg x).setCell (p := ⟨g, 1, none⟩) hg y).setCell (p := ⟨g, 2, none⟩) hg z
theorem OwZ.set3 {w' : World} {base g : Nat} {v x y z : Value} {l : List Int} (h : OwZ w' base v l) (hg : g < base) : OwZ (((w'.setCell ⟨g, 0, none⟩ x).setCell ⟨g, 1, none⟩ y).setCell ⟨g, 2, none⟩ z) base v l :=
  ownsRow_setCell_below (ownsRow_setCell_below (ownsRow_setCell_below h (a := ⟨g, 0, none⟩) hg x) (a := ⟨g, 1, none⟩) hg y) (a := ⟨g, 2, none⟩) hg z
theorem fldWR (c rk : Int) (u : Value) (w : World) : (Instr.field 73 (.agg #[.int .i64 c, .int .i64 rk, u]) 0).run Try.prog w = .ok (.int .i64 c) w := by kernel_rfl
end Go.Proofs.Ytalaolfcdaaaoaa.W
