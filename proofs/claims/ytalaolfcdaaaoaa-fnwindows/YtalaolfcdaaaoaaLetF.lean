/-
  Letters: their faults (plain mathematics), and variables of four and five cells.
-/
import Derived.Test.YtalaolfcdaaaoaaEnvF
import Derived.Test.YtalaolfcdaaaoaaIv
import Derived.Test.YtalaolfcdaaaoaaLetV
namespace Go.Proofs.Ytalaolfcdaaaoaa.M
open Go.RowKit

/-- The fault of a letter: key, sender, counter, and how many bytes its text has. -/
def lF (k s c : Int) (n : Nat) : Int := if (1 ≤ k ∧ k ≤ 255) ∧ (0 ≤ s ∧ s ≤ 15) ∧ 0 ≤ c ∧ c ≤ 1000000000 then (if n ≤ 300 then 0 else 2) else 3
theorem lF_ok {k s c : Int} {n : Nat} (h : hOk k s c) (hn : n ≤ 300) : lF k s c n = 0 := by
  have h' : (1 ≤ k ∧ k ≤ 255) ∧ (0 ≤ s ∧ s ≤ 15) ∧ 0 ≤ c ∧ c ≤ 1000000000 := h
  rw [lF, if_pos h', if_pos hn]
theorem lF_many {k s c : Int} {n : Nat} (h : hOk k s c) (hn : ¬ n ≤ 300) : lF k s c n = 2 := by
  have h' : (1 ≤ k ∧ k ≤ 255) ∧ (0 ≤ s ∧ s ≤ 15) ∧ 0 ≤ c ∧ c ≤ 1000000000 := h
  rw [lF, if_pos h', if_neg hn]
theorem lF_range {k s c : Int} {n : Nat} (h : ¬ hOk k s c) : lF k s c n = 3 := by
  have h' : ¬ ((1 ≤ k ∧ k ≤ 255) ∧ (0 ≤ s ∧ s ≤ 15) ∧ 0 ≤ c ∧ c ≤ 1000000000) := h
  rw [lF, if_neg h']
theorem lF_zero {k s c : Int} {n : Nat} (h : lF k s c n = 0) : hOk k s c ∧ n ≤ 300 := by
  unfold lF at h
  split at h
  · rename_i h1
    split at h
    · rename_i h2
      exact ⟨h1, h2⟩
    · omega
  · omega
theorem var4_facts {w' : World} {g : Nat} {x y z u : Value} {T : TypeId} (h : w'.heap[g]? = some (.cells #[x, y, z, u] T)) :
    (w'.cell? ⟨g, 0, none⟩ = some x ∧ w'.cell? ⟨g, 1, none⟩ = some y ∧ w'.cell? ⟨g, 2, none⟩ = some z ∧ w'.cell? ⟨g, 3, none⟩ = some u) ∧ w'.frozen? ⟨g, 0, none⟩ = false ∧ w'.frozen? ⟨g, 1, none⟩ = false ∧ w'.frozen? ⟨g, 2, none⟩ = false ∧ w'.frozen? ⟨g, 3, none⟩ = false :=
  ⟨⟨by rw [cell_of_row w' g 0 _ _ _ h]; rfl, by rw [cell_of_row w' g 1 _ _ _ h]; rfl, by rw [cell_of_row w' g 2 _ _ _ h]; rfl, by rw [cell_of_row w' g 3 _ _ _ h]; rfl⟩, frozen_of_row w' g 0 _ T h, frozen_of_row w' g 1 _ T h, frozen_of_row w' g 2 _ T h, frozen_of_row w' g 3 _ T h⟩
theorem var5_facts {w' : World} {g : Nat} {v x y z u : Value} {T : TypeId} (h : w'.heap[g]? = some (.cells #[v, x, y, z, u] T)) :
    (w'.cell? ⟨g, 0, none⟩ = some v ∧ w'.cell? ⟨g, 1, none⟩ = some x ∧ w'.cell? ⟨g, 2, none⟩ = some y ∧ w'.cell? ⟨g, 3, none⟩ = some z ∧ w'.cell? ⟨g, 4, none⟩ = some u) ∧ w'.frozen? ⟨g, 0, none⟩ = false ∧ w'.frozen? ⟨g, 1, none⟩ = false ∧ w'.frozen? ⟨g, 2, none⟩ = false ∧ w'.frozen? ⟨g, 3, none⟩ = false ∧ w'.frozen? ⟨g, 4, none⟩ = false :=
  ⟨⟨by rw [cell_of_row w' g 0 _ _ _ h]; rfl, by rw [cell_of_row w' g 1 _ _ _ h]; rfl, by rw [cell_of_row w' g 2 _ _ _ h]; rfl, by rw [cell_of_row w' g 3 _ _ _ h]; rfl, by rw [cell_of_row w' g 4 _ _ _ h]; rfl⟩, frozen_of_row w' g 0 _ T h, frozen_of_row w' g 1 _ T h, frozen_of_row w' g 2 _ T h, frozen_of_row w' g 3 _ T h, frozen_of_row w' g 4 _ T h⟩
theorem var4_set {w' : World} {g : Nat} {x y z u x' y' z' u' : Value} {T : TypeId} (h : w'.heap[g]? = some (.cells #[x, y, z, u] T)) :
    ((((w'.setCell ⟨g, 0, none⟩ x').setCell ⟨g, 1, none⟩ y').setCell ⟨g, 2, none⟩ z').setCell ⟨g, 3, none⟩ u').heap[g]? = some (.cells #[x', y', z', u'] T) := by
  have h1 := heap_setCell_same w' g 0 _ T x' h
  have h2 := heap_setCell_same _ g 1 _ T y' h1
  have h3 := heap_setCell_same _ g 2 _ T z' h2
  have h4 := heap_setCell_same _ g 3 _ T u' h3
  simpa using h4
theorem var4_one {w' : World} {g : Nat} {x y z u u' : Value} {T : TypeId} (h : w'.heap[g]? = some (.cells #[x, y, z, u] T)) :
    (w'.setCell ⟨g, 3, none⟩ u').heap[g]? = some (.cells #[x, y, z, u'] T) := by
  have h4 := heap_setCell_same _ g 3 _ T u' h
  simpa using h4
theorem var_other {w : World} {g : Nat} {o : Obj} (h : w.heap[g]? = some o) (a : Addr) (x : Value) (hne : g ≠ a.block) : (w.setCell a x).heap[g]? = some o := by
  rw [Below.heap_setCell _ _ _ _ hne]; exact h
theorem below_st4 {w w' : World} {g : Nat} {x y z u : Value} (hB : Below w.heap.size w w') (hg : w.heap.size ≤ g) : Below w.heap.size w ((((w'.setCell ⟨g, 0, none⟩ x).setCell ⟨g, 1, none⟩ y).setCell ⟨g, 2, none⟩ z).setCell ⟨g, 3, none⟩ u) :=
  (((hB.setCell (p := ⟨g, 0, none⟩) hg x).setCell (p := ⟨g, 1, none⟩) hg y).setCell (p := ⟨g, 2, none⟩) hg z).setCell (p := ⟨g, 3, none⟩) hg u
theorem OB.low {w : World} {lo hi : Nat} {v : Value} {l : List Nat} (h : OB w lo hi v l) (a : Addr) (ha : a.block < lo) (x : Value) : OB (w.setCell a x) lo hi v l :=
  ⟨by obtain ⟨T, q⟩ := h.1; exact ⟨T, ownsRow_setCell_below q ha x⟩, h.2⟩
theorem OB.low4 {w : World} {lo hi g : Nat} {v x y z u : Value} {l : List Nat} (h : OB w lo hi v l) (hg : g < lo) : OB ((((w.setCell ⟨g, 0, none⟩ x).setCell ⟨g, 1, none⟩ y).setCell ⟨g, 2, none⟩ z).setCell ⟨g, 3, none⟩ u) lo hi v l :=
  (((h.low ⟨g, 0, none⟩ hg x).low ⟨g, 1, none⟩ hg y).low ⟨g, 2, none⟩ hg z).low ⟨g, 3, none⟩ hg u
theorem var4_two {w' : World} {g : Nat} {x y z u z' : Value} {T : TypeId} (h : w'.heap[g]? = some (.cells #[x, y, z, u] T)) :
    (w'.setCell ⟨g, 2, none⟩ z').heap[g]? = some (.cells #[x, y, z', u] T) := by
  have h4 := heap_setCell_same _ g 2 _ T z' h
  simpa using h4
theorem var5_set {w' : World} {g : Nat} {v x y z u v' x' y' z' u' : Value} {T : TypeId} (h : w'.heap[g]? = some (.cells #[v, x, y, z, u] T)) :
    (((((w'.setCell ⟨g, 0, none⟩ v').setCell ⟨g, 1, none⟩ x').setCell ⟨g, 2, none⟩ y').setCell ⟨g, 3, none⟩ z').setCell ⟨g, 4, none⟩ u').heap[g]? = some (.cells #[v', x', y', z', u'] T) := by
  have h0 := heap_setCell_same w' g 0 _ T v' h
  have h1 := heap_setCell_same _ g 1 _ T x' h0
  have h2 := heap_setCell_same _ g 2 _ T y' h1
  have h3 := heap_setCell_same _ g 3 _ T z' h2
  have h4 := heap_setCell_same _ g 4 _ T u' h3
  simpa using h4
theorem below_set5 {w w' : World} {g : Nat} {v x y z u : Value} (hB : Below w.heap.size w w') (hg : w.heap.size ≤ g) : Below w.heap.size w (((((w'.setCell ⟨g, 0, none⟩ v).setCell ⟨g, 1, none⟩ x).setCell ⟨g, 2, none⟩ y).setCell ⟨g, 3, none⟩ z).setCell ⟨g, 4, none⟩ u) :=
  ((((hB.setCell (p := ⟨g, 0, none⟩) hg v).setCell (p := ⟨g, 1, none⟩) hg x).setCell (p := ⟨g, 2, none⟩) hg y).setCell (p := ⟨g, 3, none⟩) hg z).setCell (p := ⟨g, 4, none⟩) hg u
theorem var3_set {w' : World} {g : Nat} {x y z x' y' z' : Value} {T : TypeId} (h : w'.heap[g]? = some (.cells #[x, y, z] T)) :
    (((w'.setCell ⟨g, 0, none⟩ x').setCell ⟨g, 1, none⟩ y').setCell ⟨g, 2, none⟩ z').heap[g]? = some (.cells #[x', y', z'] T) := by
  have h1 := heap_setCell_same w' g 0 _ T x' h
  have h2 := heap_setCell_same _ g 1 _ T y' h1
  have h3 := heap_setCell_same _ g 2 _ T z' h2
  simpa using h3
theorem below_set3 {w w' : World} {g : Nat} {x y z : Value} (hB : Below w.heap.size w w') (hg : w.heap.size ≤ g) : Below w.heap.size w (((w'.setCell ⟨g, 0, none⟩ x).setCell ⟨g, 1, none⟩ y).setCell ⟨g, 2, none⟩ z) :=
  ((hB.setCell (p := ⟨g, 0, none⟩) hg x).setCell (p := ⟨g, 1, none⟩) hg y).setCell (p := ⟨g, 2, none⟩) hg z
theorem size_set (w : World) (a : Addr) (x : Value) : (w.setCell a x).heap.size = w.heap.size := by simp [World.setCell]
end Go.Proofs.Ytalaolfcdaaaoaa.M
