/-
  What a key and a nonce tell, in memory: the program's sealer.
-/
import Derived.Test.YtckgjghpfjinfabElM
import Derived.Test.YtckgjghpfjinfabSlX
import Derived.Test.YtckgjghpfjinfabBlkSize
import Derived.Test.YtckgjghpfjinfabSteps
import Derived.Test.YtckgjghpfjinfabCtrF
namespace Go.Proofs.Ytckgjghpfjinfab.W
open Go.ChangeShapes Go.WideShapes Go.ChangeAt Go.RowKit
open Go.Proofs.Ytckgjghpfjinfab.M

/-- The cells of a sealer: its cipher, its group element, its first block. -/
def sc (gc : Nat) (h : Nat × Nat) (j : List Nat) : Array Value := #[.pointer (some ⟨gc, 0, none⟩), .int .u64 (h.1 : Int), .int .u64 (h.2 : Int)] ++ arr j
theorem sc_size (gc : Nat) (h : Nat × Nat) (j : List Nat) (hj : j.length = 16) : (sc gc h j).size = 19 := by rw [sc, Array.size_append, arr_size, hj]; rfl
theorem sc_info (gc : Nat) (h : Nat × Nat) (j : List Nat) (hj : j.length = 16) : (Try.prog.info? 97).map (·.size) = some (sc gc h j).size := by rw [sc_size gc h j hj]; kernel_rfl
theorem sc_one (gc : Nat) (h : Nat × Nat) (j : List Nat) : (sc gc h j).all (·.oneCell') = true := by
  rw [Array.all_eq_true_iff_forall_mem]
  intro v hv
  rcases Array.mem_append.1 hv with q | q
  · simp only [List.mem_toArray, List.mem_cons, List.not_mem_nil, or_false] at q
    rcases q with rfl | rfl | rfl <;> rfl
  · exact (Array.all_eq_true_iff_forall_mem.1 (arr_one j)) v q
/-- The block g is a sealer. -/
def Sv (w : World) (g gc : Nat) (h : Nat × Nat) (j : List Nat) : Prop := w.heap[g]? = some (.cells (sc gc h j) 97)
theorem Sv.below {w w' : World} {g gc : Nat} {h : Nat × Nat} {j : List Nat} (q : Sv w g gc h j) (hb : Below w.heap.size w w') : Sv w' g gc h j := var_below hb q
theorem sc_low (gc : Nat) (h : Nat × Nat) (j : List Nat) (i : Nat) (hi : i < 3) : (sc gc h j)[i]? = #[.pointer (some ⟨gc, 0, none⟩), .int .u64 (h.1 : Int), .int .u64 (h.2 : Int)][i]? := by
  unfold sc
  rw [Array.getElem?_append_left (by simpa using hi)]
theorem sc_high (gc : Nat) (h : Nat × Nat) (j : List Nat) (i : Nat) : (sc gc h j)[3 + i]? = (arr j)[i]? := by
  unfold sc
  rw [Array.getElem?_append_right (by simp)]
  simp
theorem Sv.c0 {w : World} {g gc : Nat} {h : Nat × Nat} {j : List Nat} (q : Sv w g gc h j) : w.cell? ⟨g, 0, none⟩ = some (.pointer (some ⟨gc, 0, none⟩)) := by rw [cell_of_row w g 0 _ _ _ q, sc_low _ _ _ _ (by omega)]; rfl
theorem Sv.c1 {w : World} {g gc : Nat} {h : Nat × Nat} {j : List Nat} (q : Sv w g gc h j) : w.cell? ⟨g, 1, none⟩ = some (.int .u64 (h.1 : Int)) := by rw [cell_of_row w g 1 _ _ _ q, sc_low _ _ _ _ (by omega)]; rfl
theorem Sv.c2 {w : World} {g gc : Nat} {h : Nat × Nat} {j : List Nat} (q : Sv w g gc h j) : w.cell? ⟨g, 2, none⟩ = some (.int .u64 (h.2 : Int)) := by rw [cell_of_row w g 2 _ _ _ q, sc_low _ _ _ _ (by omega)]; rfl
theorem Sv.range {w : World} {g gc : Nat} {h : Nat × Nat} {j : List Nat} (q : Sv w g gc h j) : w.rangeAt g 3 (j.map bv) := fun i v hv => by
  rw [cell_of_row w g (3 + i) _ _ _ q, sc_high]
  simp [arr, hv]
theorem sc_built (gc : Nat) (h : Nat × Nat) (j : List Nat) (hj : j.length = 16) : Try.prog.built 97 [(0, .pointer (some ⟨gc, 0, none⟩)), (1, .agg (ec h)), (2, .agg (arr j))] = some (sc gc h j) := by
  obtain ⟨a0, a1, a2, a3, a4, a5, a6, a7, a8, a9, b0, b1, b2, b3, b4, b5, rfl⟩ := list16 j hj
  kernel_rfl
theorem sc_eq {x : List (Nat × Value)} (gc : Nat) (h : Nat × Nat) (j : List Nat) (hj : j.length = 16) (hx : x = [(0, .pointer (some ⟨gc, 0, none⟩)), (1, .agg (ec h)), (2, .agg (arr j))]) : Try.prog.built 97 x = some (sc gc h j) := by rw [hx]; exact sc_built gc h j hj
theorem j_built : Try.prog.built 79 [(15, .int .u8 1)] = some (arr (zs 15 ++ [1])) := by kernel_rfl
theorem step_build {ops : Array Oper} {o : Oper} {a : Act} {w : World} {K : Act → World → Prop} {Q : Exit → Act → World → Prop} {E : Prop} (hgd : o.guard = none) (t : TypeId) (parts : Array (Nat × Operand)) (ho : o.op = .build t parts) (cells : Array Value)
    (hb : Try.prog.built t (parts.map fun (i, x) => (i, a.eval x)).toList = some cells) (h : K (a.put o.dst (.agg cells)) w) : if Region.wanted o (yielded ops a.tmps) = true then Oper.wp Try.prog o a w K Q else E := by
  have hw : Region.wanted o (yielded ops a.tmps) = true := by simp [Region.wanted, hgd]
  rw [if_pos hw]
  refine wp_build t parts ho (by rw [hb]; rfl) ?_
  rw [hb]
  exact h
theorem cut_blk (g : Nat) (w : World) : (Instr.sliceAt 79 (.pointer (some ⟨g, 0, none⟩)) none none none).run Try.prog w = .ok (.slice (some ⟨g, 0, none⟩) 16 16) w := by
  have hs : ∀ w : World, (sizeOf (Try.prog.elem 79)).run Try.prog w = .ok 1 w := fun _ => by kernel_rfl
  have hl : Try.prog.arrayLen 79 = 16 := by kernel_rfl
  rw [run_sliceAt_array_all (P := Try.prog) w 79 _ (by kernel_rfl), hs]
  simp [Result.andThen, slicedAt, Addr.add_lit, hl]
theorem cut_non (g : Nat) (w : World) : (Instr.sliceAt 99 (.pointer (some ⟨g, 0, none⟩)) none none none).run Try.prog w = .ok (.slice (some ⟨g, 0, none⟩) 12 12) w := by
  have hs : ∀ w : World, (sizeOf (Try.prog.elem 99)).run Try.prog w = .ok 1 w := fun _ => by kernel_rfl
  have hl : Try.prog.arrayLen 99 = 12 := by kernel_rfl
  rw [run_sliceAt_array_all (P := Try.prog) w 99 _ (by kernel_rfl), hs]
  simp [Result.andThen, slicedAt, Addr.add_lit, hl]
end Go.Proofs.Ytckgjghpfjinfab.W
