/-
  Which of two claims beats the other: what Beats of the model and of the program answers.
-/
import Derived.Test.YtalaolfcdaaaoaaVwS
namespace Go.Proofs.Ytalaolfcdaaaoaa.W
open Go.ChangeShapes Go.WideShapes Go.ChangeAt Go.RowKit
open Go.Proofs.Ytalaolfcdaaaoaa.M

set_option maxHeartbeats 1000000 in
set_option maxRecDepth 100000 in
theorem sbt (a b : Clm) (w : World) :
    Calls Try.prog 97 #[.agg #[.int .i64 a.n, .int .i64 a.i, .int .i64 a.s, .int .i64 a.m], .agg #[.int .i64 b.n, .int .i64 b.i, .int .i64 b.s, .int .i64 b.m]] w fun e w' => e = .returned (.bool (bC a b)) ∧ Below w.heap.size w w' := by
  by_cases h1 : b.i < a.i
  · have E := hid (show bC a b = true by simp [bC, h1])
    go_enter Try.func97, Try.ntmps97
    go_wp2
    go_ret
    exact ⟨ret_vb E.out.symm, below_alloc2 w _ _⟩
  · by_cases h2 : a.i = b.i
    · have E := hid (show bC a b = decide (b.s < a.s) by simp [bC, h2]; try omega)
      by_cases h3 : b.s < a.s
      · replace E := hid (show bC a b = true by rw [E.out]; simp [h3])
        go_enter Try.func97, Try.ntmps97
        go_wp2
        go_ret
        exact ⟨ret_vb E.out.symm, below_alloc2 w _ _⟩
      · replace E := hid (show bC a b = false by rw [E.out]; simp [h3])
        go_enter Try.func97, Try.ntmps97
        go_wp2
        go_ret
        exact ⟨ret_vb E.out.symm, below_alloc2 w _ _⟩
    · have E := hid (show bC a b = false by simp [bC, h2]; try omega)
      go_enter Try.func97, Try.ntmps97
      go_wp2
      go_ret
      exact ⟨ret_vb E.out.symm, below_alloc2 w _ _⟩
set_option maxHeartbeats 1000000 in
set_option maxRecDepth 100000 in
theorem ibt (a b : Clm) (w : World) :
    Calls Try.prog 38 #[.agg #[.int .i64 a.n, .int .i64 a.i, .int .i64 a.s, .int .i64 a.m], .agg #[.int .i64 b.n, .int .i64 b.i, .int .i64 b.s, .int .i64 b.m]] w fun e w' => e = .returned (.bool (bC a b)) ∧ Below w.heap.size w w' := by
  by_cases h1 : b.i < a.i
  · have E := hid (show bC a b = true by simp [bC, h1])
    go_enter Try.func38, Try.ntmps38
    go_wp2
    go_ret
    exact ⟨ret_vb E.out.symm, below_alloc2 w _ _⟩
  · by_cases h2 : a.i = b.i
    · have E := hid (show bC a b = decide (b.s < a.s) by simp [bC, h2]; try omega)
      by_cases h3 : b.s < a.s
      · replace E := hid (show bC a b = true by rw [E.out]; simp [h3])
        go_enter Try.func38, Try.ntmps38
        go_wp2
        go_ret
        exact ⟨ret_vb E.out.symm, below_alloc2 w _ _⟩
      · replace E := hid (show bC a b = false by rw [E.out]; simp [h3])
        go_enter Try.func38, Try.ntmps38
        go_wp2
        go_ret
        exact ⟨ret_vb E.out.symm, below_alloc2 w _ _⟩
    · have E := hid (show bC a b = false by simp [bC, h2]; try omega)
      go_enter Try.func38, Try.ntmps38
      go_wp2
      go_ret
      exact ⟨ret_vb E.out.symm, below_alloc2 w _ _⟩
end Go.Proofs.Ytalaolfcdaaaoaa.W
