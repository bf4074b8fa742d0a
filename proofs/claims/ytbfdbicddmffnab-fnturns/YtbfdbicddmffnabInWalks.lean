/-
  Bounds: what the model's l1In and the program's within answer.
-/
import Derived.Test.YtbfdbicddmffnabWithin
namespace Go.Proofs.Ytbfdbicddmffnab.W
open Go.ChangeShapes Go.WideShapes Go.ChangeAt Go.RowKit
open Go.Proofs.Ytbfdbicddmffnab.M

theorem l1in (v lo hi : Int) (w : World) :
    Calls Try.prog 101 #[.int .i64 v, .int .i64 lo, .int .i64 hi] w fun e w' => e = .returned (.bool (inB v lo hi)) ∧ w' = w := by
  by_cases h1 : lo ≤ v
  · by_cases h2 : v ≤ hi
    · have E : Hid (inB v lo hi = true) := by unfold Hid inB; simp [h1, h2]
      go_enter Try.func101, Try.ntmps101
      go_wp2
      go_ret
      exact ⟨ret_b E.out.symm, rfl⟩
    · have E : Hid (inB v lo hi = false) := by unfold Hid inB; rw [decide_eq_false (fun h : lo ≤ v ∧ v ≤ hi => h2 h.2)]
      go_enter Try.func101, Try.ntmps101
      go_wp2
      go_ret
      exact ⟨ret_b E.out.symm, rfl⟩
  · have E : Hid (inB v lo hi = false) := by unfold Hid inB; rw [decide_eq_false (fun h : lo ≤ v ∧ v ≤ hi => h1 h.1)]
    go_enter Try.func101, Try.ntmps101
    go_wp2
    go_ret
    exact ⟨ret_b E.out.symm, rfl⟩

end Go.Proofs.Ytbfdbicddmffnab.W
