/-
  Variables of three, four and five cells.
-/
import Derived.Test.YtalaolfcdaaaoaaSl
namespace Go.Proofs.Ytalaolfcdaaaoaa.M
open Go.RowKit

theorem var3_facts {w' : World} {g : Nat} {x y z : Value} {T : TypeId} (h : w'.heap[g]? = some (.cells #[x, y, z] T)) :
    (w'.cell? ⟨g, 0, none⟩ = some x ∧ w'.cell? ⟨g, 1, none⟩ = some y ∧ w'.cell? ⟨g, 2, none⟩ = some z) ∧ w'.frozen? ⟨g, 0, none⟩ = false ∧ w'.frozen? ⟨g, 1, none⟩ = false ∧ w'.frozen? ⟨g, 2, none⟩ = false :=
  ⟨⟨by rw [cell_of_row w' g 0 _ _ _ h]; rfl, by rw [cell_of_row w' g 1 _ _ _ h]; rfl, by rw [cell_of_row w' g 2 _ _ _ h]; rfl⟩, frozen_of_row w' g 0 _ T h, frozen_of_row w' g 1 _ T h, frozen_of_row w' g 2 _ T h⟩
end Go.Proofs.Ytalaolfcdaaaoaa.M
