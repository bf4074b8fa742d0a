/-
  The bytes of a slice as an array: of no function.
-/
import Derived.Test.YtbfdbicddmffnabSlX
import Derived.Test.YtbfdbicddmffnabArrIx
namespace Go.Proofs.Ytbfdbicddmffnab.W
open Go.ChangeShapes Go.WideShapes Go.ChangeAt Go.RowKit
open Go.Proofs.Ytbfdbicddmffnab.M

theorem rd_range {w : World} {b o n cap : Nat} {l : List Nat} (h : Rd w (.slice (some ⟨b, o, none⟩) n cap) l) : w.rangeAt b o (l.map bv) := fun j v hv => by
  obtain ⟨a, c, e, _, _, hcc⟩ := h
  have hj : j < l.length := by have := (List.getElem?_eq_some_iff.1 hv).1; simpa using this
  obtain ⟨b', o', e', hc⟩ := hcc j hj
  subst e'
  cases e
  rw [List.getElem?_map, List.getElem?_eq_getElem hj] at hv
  cases hv
  exact hc
theorem rangeAt.below {w w' : World} {b o : Nat} {cs : List Value} (h : w.rangeAt b o cs) (hb : Below w.heap.size w w') : w'.rangeAt b o cs := fun j v hv => cell_kept hb (h j v hv)
theorem setRow_alloc2 (w : World) (R : Obj) (c c' : Array Value) (t : TypeId) : ((w.alloc R).alloc (.cells c t)).setRow (w.heap.size + 1) c' = (w.alloc R).alloc (.cells c' t) := by
  have h := World.setRow_alloc_new (w.alloc R) c c' t
  rw [World.size_alloc] at h
  exact h
end Go.Proofs.Ytbfdbicddmffnab.W
