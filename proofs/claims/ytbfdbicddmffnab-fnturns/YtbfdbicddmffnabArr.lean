/-
  Arrays of bytes in memory, known whole.
-/
import Derived.Test.YtbfdbicddmffnabBase
import Derived.Deep.WholeRow
import Derived.Deep.RegionHeld3
import Derived.BigRegion
import Derived.Laws.CopyOwn
import Derived.Deep.MidRow
namespace Go.Proofs.Ytbfdbicddmffnab.M
open Go.RowKit

/-- The byte at a place of a list (0 where there is none). -/
def gt (l : List Nat) (k : Nat) : Nat := l.getD k 0
theorem gt_eq (l : List Nat) (k : Nat) (h : k < l.length) : gt l k = l[k] := by simp [gt, List.getElem?_eq_getElem h]
theorem gt_some (l : List Nat) (k x : Nat) (h : l[k]? = some x) : gt l k = x := by simp [gt, h]
theorem gt_byt (l : List Nat) (h : Byt l) (k : Nat) : gt l k < 256 := by
  unfold gt
  rw [List.getD_eq_getElem?_getD]
  by_cases hi : k < l.length
  · rw [List.getElem?_eq_getElem hi]; exact h.at k hi
  · rw [List.getElem?_eq_none (by omega)]; decide
/-- The cells of an array of bytes. -/
def arr (l : List Nat) : Array Value := (l.map bv).toArray
theorem arr_size (l : List Nat) : (arr l).size = l.length := by simp [arr]
theorem arr_get (l : List Nat) (j : Nat) (h : j < l.length) : (arr l)[j]? = some (.int .u8 (gt l j : Nat)) := by
  simp [arr, List.getElem?_eq_getElem h, bv, gt]
theorem arr_set (l : List Nat) (k x : Nat) : (arr l).setIfInBounds k (.int .u8 (x : Int)) = arr (l.set k x) := by
  have h := map_set l k x
  unfold arr
  rw [← h]
  simp [bv]
/-- As many zeros. -/
def zs (n : Nat) : List Nat := List.replicate n 0
theorem zs_len (n : Nat) : (zs n).length = n := by simp [zs]
/-- The block g is an array that holds the bytes l. -/
def Ar (w : World) (g : Nat) (T : TypeId) (l : List Nat) : Prop := w.heap[g]? = some (.cells (arr l) T)
theorem Ar.lt {w : World} {g : Nat} {T : TypeId} {l : List Nat} (h : Ar w g T l) : g < w.heap.size := (Array.getElem?_eq_some_iff.1 h).1
theorem Ar.cell {w : World} {g : Nat} {T : TypeId} {l : List Nat} (h : Ar w g T l) (j : Nat) (hj : j < l.length) : w.cell? ⟨g, j, none⟩ = some (.int .u8 (gt l j : Nat)) := by
  rw [cell_of_row w g j _ _ _ h]; exact arr_get l j hj
theorem Ar.open {w : World} {g : Nat} {T : TypeId} {l : List Nat} (h : Ar w g T l) (j : Nat) : w.frozen? ⟨g, j, none⟩ = false := frozen_of_row w g j _ _ h
theorem Ar.below {w w' : World} {g : Nat} {T : TypeId} {l : List Nat} (h : Ar w g T l) (hb : Below w.heap.size w w') : Ar w' g T l := var_below hb h
theorem Ar.keep {w w' : World} {g B : Nat} {T : TypeId} {l : List Nat} (h : Ar w g T l) (hb : Below B w w') (hg : g < B) : Ar w' g T l := var_keep hb h hg
theorem Ar.alloc {w : World} {g : Nat} {T : TypeId} {l : List Nat} (h : Ar w g T l) (x : Obj) : Ar (w.alloc x) g T l := var_alloc x h
theorem Ar.new (w : World) (T : TypeId) (l : List Nat) : Ar (w.alloc (.cells (arr l) T)) w.heap.size T l := heap_alloc_new w _
theorem Ar.stored {w : World} {g : Nat} {T : TypeId} {l : List Nat} (h : Ar w g T l) (k x : Nat) : Ar (w.setCell ⟨g, k, none⟩ (.int .u8 (x : Int))) g T (l.set k x) := by
  have h1 := heap_setCell_same w g k _ T (.int .u8 (x : Int)) h
  rw [arr_set] at h1
  exact h1
theorem Ar.far {w : World} {g g' k : Nat} {T : TypeId} {l : List Nat} (h : Ar w g T l) (v : Value) (hne : g ≠ g') : Ar (w.setCell ⟨g', k, none⟩ v) g T l := by
  unfold Ar
  rw [heap_setCell_other w ⟨g', k, none⟩ g v hne]
  exact h
theorem Ar.row {w : World} {g : Nat} {T : TypeId} {l l' : List Nat} (h : Ar w g T l) : Ar (w.setRow g (arr l')) g T l' := setRow_heap w g _ _ T _ h
theorem Ar.rowFar {w : World} {g g' : Nat} {T : TypeId} {l : List Nat} (h : Ar w g T l) (cs : Array Value) (hne : g ≠ g') : Ar (w.setRow g' cs) g T l := by
  unfold Ar
  rw [setRow_other w g' g cs hne]
  exact h
/-- The first k bytes are the new ones, the others the old ones. -/
def upd (n o : List Nat) (k : Nat) : List Nat := n.take k ++ o.drop k
theorem upd_len (n o : List Nat) (h : n.length = o.length) (k : Nat) : (upd n o k).length = o.length := by simp [upd]; omega
theorem upd_zero (n o : List Nat) : upd n o 0 = o := by simp [upd]
theorem upd_end (n o : List Nat) (h : n.length = o.length) (k : Nat) (hk : k = o.length) : upd n o k = n := by simp [upd, hk, ← h]
theorem upd_set (n o : List Nat) (h : n.length = o.length) (k : Nat) (hk : k < o.length) : (upd n o k).set k (gt n k) = upd n o (k + 1) := by
  have hn : k < n.length := by omega
  unfold upd
  rw [gt_eq n k hn, List.take_succ_eq_append_getElem hn, List.set_append_right _ _ (by simp; omega), List.drop_eq_getElem_cons hk, List.append_assoc]
  have e : k - (List.take k n).length = 0 := by simp; omega
  rw [e, List.set_cons_zero]
  rfl
theorem upd_gt (n o : List Nat) (h : n.length = o.length) (k j : Nat) (hj : k ≤ j) (hk : k ≤ o.length) : gt (upd n o k) j = gt o j := by
  have e : (List.take k n).length = k := by simp; omega
  unfold gt upd
  rw [List.getD_eq_getElem?_getD, List.getD_eq_getElem?_getD, List.getElem?_append_right (by omega), e, List.getElem?_drop, show k + (j - k) = j by omega]
theorem Ar.drewN {w : World} {g : Nat} {T : TypeId} {l : List Nat} (h : Ar w g T l) (n : Nat) : Ar (w.drewN n) g T l := h
theorem Ar.drew {w : World} {g : Nat} {T : TypeId} {l : List Nat} (h : Ar w g T l) : Ar w.drew g T l := h
theorem grown_drewN {w w' : World} {row : Option Nat} (h : w.grownBy w' row) (n : Nat) : w.grownBy (w'.drewN n) row := ⟨h.os, h.tape, h.output, h.size, h.block⟩
theorem grown_drew {w w' : World} {row : Option Nat} (h : w.grownBy w' row) : w.grownBy w'.drew row := ⟨h.os, h.tape, h.output, h.size, h.block⟩
theorem grown_cell {w w' : World} {g : Nat} (h : w.grownBy w' (some g)) (k : Nat) (v : Value) : w.grownBy (w'.setCell ⟨g, k, none⟩ v) (some g) :=
  grown_trans h ⟨rfl, rfl, rfl, by simp, fun i _ hr => heap_setCell_other w' ⟨g, k, none⟩ i v (fun e => hr (by rw [e]))⟩
theorem grown_cell? {w w' : World} {g b o : Nat} {u : Value} (h : w.grownBy w' (some g)) (hc : w.cell? ⟨b, o, none⟩ = some u) (hne : b ≠ g) : w'.cell? ⟨b, o, none⟩ = some u := by
  rw [World.cell?_of_block (w := w) (w' := w') (a := ⟨b, o, none⟩) (h.block b (World.block_lt_of_cell? w _ hc) (fun e => hne (Option.some.inj e)))]
  exact hc
theorem arr_one (l : List Nat) : (arr l).all (·.oneCell') = true := by
  rw [Array.all_eq_true_iff_forall_mem]
  intro v hv
  simp only [arr, List.mem_toArray, List.mem_map] at hv
  obtain ⟨x, _, rfl⟩ := hv
  rfl
/-- n bytes from o on. -/
def sub (l : List Nat) (o n : Nat) : List Nat := (l.drop o).take n
theorem sub_len (l : List Nat) (o n : Nat) (h : o + n ≤ l.length) : (sub l o n).length = n := by simp [sub]; omega
theorem sub_gt (l : List Nat) (o n j : Nat) (h : j < n) : gt (sub l o n) j = gt l (o + j) := by
  unfold gt sub
  rw [List.getD_eq_getElem?_getD, List.getD_eq_getElem?_getD, List.getElem?_take, if_pos h, List.getElem?_drop]
theorem Ar.range {w : World} {g : Nat} {T : TypeId} {l : List Nat} (h : Ar w g T l) (o n : Nat) : w.rangeAt g o ((sub l o n).map bv) := fun j v hv => by
  rw [cell_of_row w g (o + j) _ _ _ h]
  unfold sub at hv
  rw [List.getElem?_map, List.getElem?_take] at hv
  by_cases hj : j < n
  · rw [if_pos hj, List.getElem?_drop] at hv
    simp [arr, hv]
  · rw [if_neg hj] at hv; simp at hv
theorem load_sub {P : Program} {ops : Array Oper} {rest : List Oper} {op : Oper} {a : Act} {w : World} {Q : Exit → Act → World → Prop} (hgd : op.guard = none) (ty : TypeId) (x : Operand) (ho : op.op = .load ty x)
    (b o : Nat) (hx : a.eval x = .pointer (some ⟨b, o, none⟩)) (l : List Nat) (hc : w.rangeAt b o (l.map bv)) (d : TypeDesc) (hu : P.underlying ty = some d) (hd : d.isRow = true) (hi : (P.info? ty).map (·.size) = some (arr l).size)
    (h : wpList P ops Q rest (a.put op.dst (.agg (arr l))) w) : wpList P ops Q (op :: rest) a w :=
  wpList_load_mid hgd ty x ho b o hx (l.map bv) d hc hu hd (by rw [List.length_map, ← arr_size]; exact hi) h
theorem below_row {B : Nat} {w w' : World} {g : Nat} (hB : Below B w w') (hg : B ≤ g) (cs : Array Value) : Below B w (w'.setRow g cs) := below_setRow hB hg cs
end Go.Proofs.Ytbfdbicddmffnab.M
