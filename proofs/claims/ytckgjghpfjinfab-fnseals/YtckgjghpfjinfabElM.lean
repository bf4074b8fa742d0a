/-
  Group elements in memory.
-/
import Derived.Test.YtckgjghpfjinfabBase
import Derived.Test.YtckgjghpfjinfabGrpF
namespace Go.Proofs.Ytckgjghpfjinfab.W
open Go.ChangeShapes Go.WideShapes Go.ChangeAt Go.RowKit
open Go.Proofs.Ytckgjghpfjinfab.M

theorem below_alloc3 (w : World) (a b c : Obj) : Below w.heap.size w (((w.alloc a).alloc b).alloc c) := (below_alloc2 w a b).alloc (by simp; omega) _
/-- A group element's cells, and it as a value. -/
def ec (p : Nat × Nat) : Array Value := #[.int .u64 (p.1 : Int), .int .u64 (p.2 : Int)]
def ev (p : Nat × Nat) : Value := .agg (ec p)
theorem ec_size (p : Nat × Nat) : (Try.prog.info? 95).map (·.size) = some (ec p).size := by
  rw [show (ec p).size = 2 from rfl]; kernel_rfl
theorem ec_one (p : Nat × Nat) : (ec p).all (·.oneCell') = true := by
  rw [Array.all_eq_true_iff_forall_mem]
  intro v hv
  simp only [ec, List.mem_toArray, List.mem_cons, List.not_mem_nil, or_false] at hv
  rcases hv with rfl | rfl <;> rfl
/-- The block g is a group element. -/
def El (w : World) (g : Nat) (p : Nat × Nat) : Prop := w.heap[g]? = some (.cells (ec p) 95)
theorem El.below {w w' : World} {g : Nat} {p : Nat × Nat} (h : El w g p) (hb : Below w.heap.size w w') : El w' g p := var_below hb h
theorem El.row {w : World} {g : Nat} {p q : Nat × Nat} (h : El w g p) : El (w.setRow g (ec q)) g q := setRow_heap w g _ _ _ _ h
theorem El.far {w : World} {g g' : Nat} {p : Nat × Nat} (h : El w g p) (cs : Array Value) (hne : g ≠ g') : El (w.setRow g' cs) g p := by
  unfold El
  rw [setRow_other w g' g cs hne]
  exact h
theorem El.drew {w : World} {g : Nat} {p : Nat × Nat} (h : El w g p) : El w.drew g p := h

end Go.Proofs.Ytckgjghpfjinfab.W
