/-
  Bytes that are read stay what they are where a variable of other cells is stored into.
-/
import Derived.Test.YtckgjghpfjinfakGreatSl
namespace Go.Proofs.YtckgjghpfjinfakGreat.M
open Go.RowKit
theorem rd_other {w : World} {v : Value} {l : List Nat} {g : Nat} {cs : Array Value} {T : TypeId} (h : Rd w v l) (hg : w.heap[g]? = some (.cells cs T)) (hc : ∀ (i n : Nat), cs[i]? ≠ some (bv n)) {w' : World} (hw : ∀ k, k ≠ g → w'.heap[k]? = w.heap[k]?) : Rd w' v l := by
  obtain ⟨a, cap, rfl, h1, h2, h3⟩ := h
  refine ⟨a, cap, rfl, h1, h2, fun i hi => ?_⟩
  obtain ⟨b, o, rfl, hx⟩ := h3 i hi
  refine ⟨b, o, rfl, ?_⟩
  by_cases e : b = g
  · subst e
    rw [cell_of_row w b (o + i) _ _ _ hg] at hx
    exact absurd hx (hc _ _)
  · exact (World.cell?_of_block (w := w) (a := ⟨b, o + i, none⟩) (hw b e)).trans hx
theorem rd_set2 {w : World} {v : Value} {l : List Nat} {g : Nat} {x' y' : Value} {T : TypeId} (h : Rd w v l) (hg : w.heap[g]? = some (.cells #[.int .i64 0, .slice none 0 0] T)) : Rd ((w.setCell ⟨g, 0, none⟩ x').setCell ⟨g, 1, none⟩ y') v l :=
  rd_other h hg (fun i n e => by
    match i, e with
    | 0, e => simp [bv] at e
    | 1, e => simp [bv] at e
    | i + 2, e => simp at e) (fun k hk => (Below.heap_setCell _ _ _ _ hk).trans (Below.heap_setCell _ _ _ _ hk))
end Go.Proofs.YtckgjghpfjinfakGreat.M
