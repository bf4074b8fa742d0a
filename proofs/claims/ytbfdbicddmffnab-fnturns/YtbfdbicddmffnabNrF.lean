/-
  What is told of a new ring with one key.
-/
import Derived.Test.YtbfdbicddmffnabLetF3
namespace Go.Proofs.Ytbfdbicddmffnab.W
open Go.ChangeShapes Go.WideShapes Go.ChangeAt Go.RowKit
open Go.Proofs.Ytbfdbicddmffnab.M

def nrIs (p : Int) (l : List Nat) (c rk : Int) (t : List (Int × List Nat)) : Prop :=
  (rF p [(p, l)] ≠ 0 ∧ c = rF p [(p, l)] ∧ rk = 0 ∧ t = []) ∨ (rF p [(p, l)] = 0 ∧ c = 0 ∧ rk = p ∧ t = [(p, l)])
theorem nr_some (p : Int) (l : List Nat) : ∃ c rk t, nrIs p l c rk t := by
  by_cases h : rF p [(p, l)] = 0
  · exact ⟨_, _, _, .inr ⟨h, rfl, rfl, rfl⟩⟩
  · exact ⟨_, _, _, .inl ⟨h, rfl, rfl, rfl⟩⟩
/-- A slice of one key that lies in a block of its own. -/
theorem rdk_one {w : World} {g : Nat} {p : Int} {v : Value} {l : List Nat} {T : TypeId} (h : w.heap[g]? = some (.cells #[.int .i64 p, v] T)) (hv : Rd w v l) : RdK w (.slice (some ⟨g, 0, none⟩) 1 1) [(p, l)] := by
  obtain ⟨c0, c1, -, -⟩ := var2_facts h
  refine ⟨_, 1, rfl, Nat.le_refl _, by unfold maxLen; omega, fun i hi => ?_⟩
  obtain rfl : i = 0 := by simpa using hi
  exact ⟨g, 0, v, rfl, c0, c1, hv⟩
end Go.Proofs.Ytbfdbicddmffnab.W
