/-
  Keys that are read out of blocks from a base on; and what stays of them where a variable is stored into.
-/
import Derived.Test.YtifgcffifffdnajKsM
namespace Go.Proofs.Ytifgcffifffdnaj.M
open Go.RowKit
theorem rdk_blocks {w w' : World} {v : Value} {t : List (Int × List Nat)} (h : RdK w v t) (hw : ∀ b, b < w.heap.size → w'.heap[b]? = w.heap[b]?) : RdK w' v t := by
  have hc : ∀ b o x, w.cell? ⟨b, o, none⟩ = some x → w'.cell? ⟨b, o, none⟩ = some x := fun b o x q => by
    rw [← q]
    have e := hw b (World.block_lt_of_cell? w _ q)
    simp only [World.cell?, e]
  obtain ⟨a, cap, rfl, h1, h2, h3⟩ := h
  refine ⟨a, cap, rfl, h1, h2, fun i hi => ?_⟩
  obtain ⟨b, o, u, rfl, q1, q2, q3⟩ := h3 i hi
  obtain ⟨a', c', rfl, r1, r2, r3⟩ := q3
  refine ⟨b, o, _, rfl, hc _ _ _ q1, hc _ _ _ q2, ⟨a', c', rfl, r1, r2, fun j hj => ?_⟩⟩
  obtain ⟨b', o', rfl, hx⟩ := r3 j hj
  exact ⟨b', o', rfl, hc _ _ _ hx⟩
/-- The keys are read, whatever lies below base. -/
def FarK (w : World) (base : Nat) (v : Value) (t : List (Int × List Nat)) : Prop := ∀ w' : World, (∀ b, base ≤ b → w'.heap[b]? = w.heap[b]?) → RdK w' v t
theorem FarK.rd {w : World} {base : Nat} {v : Value} {t : List (Int × List Nat)} (h : FarK w base v t) : RdK w v t := h w fun _ _ => rfl
theorem FarK.far {w : World} {base : Nat} {v : Value} {t : List (Int × List Nat)} (h : FarK w base v t) : FarK w base v t := h
theorem FarK.mono {w : World} {b0 base : Nat} {v : Value} {t : List (Int × List Nat)} (h : FarK w base v t) (hb : b0 ≤ base) : FarK w b0 v t := fun w' hw => h w' fun b q => hw b (Nat.le_trans hb q)
theorem FarK.nil (w : World) (base : Nat) : FarK w base (.slice none 0 0) [] := fun _ _ => RdK.nil _
theorem OKs.far {w : World} {lo hi : Nat} {v : Value} {t : List (Int × List Nat)} (h : OKs w lo hi v t) : FarK w lo v t := fun w' hw => (h.agr (w' := w') (fun b h1 _ => hw b h1)).rd
/-- The keys are read, whatever lies in block g. -/
def RdF (w : World) (g : Nat) (v : Value) (t : List (Int × List Nat)) : Prop := ∀ w' : World, (∀ b, b ≠ g → w'.heap[b]? = w.heap[b]?) → RdK w' v t
theorem rdF_far {w : World} {base g : Nat} {v : Value} {t : List (Int × List Nat)} (h : FarK w base v t) (hg : g < base) : RdF w g v t := fun w' hw => h w' fun b hb => hw b (by omega)
theorem rdF_new {w : World} {v : Value} {t : List (Int × List Nat)} (h : RdK w v t) (o : Obj) : RdF (w.alloc o) w.heap.size v t := fun w' hw => rdk_blocks h fun b hb => (hw b (by omega)).trans ((below_alloc1 w o).block b hb)
theorem rdF_set3 {w : World} {g : Nat} {v : Value} {t : List (Int × List Nat)} {x' y' z' : Value} (h : RdF w g v t) : RdK (((w.setCell ⟨g, 0, none⟩ x').setCell ⟨g, 1, none⟩ y').setCell ⟨g, 2, none⟩ z') v t :=
  h _ fun _ hb => (Below.heap_setCell _ _ _ _ hb).trans ((Below.heap_setCell _ _ _ _ hb).trans (Below.heap_setCell _ _ _ _ hb))
end Go.Proofs.Ytifgcffifffdnaj.M
