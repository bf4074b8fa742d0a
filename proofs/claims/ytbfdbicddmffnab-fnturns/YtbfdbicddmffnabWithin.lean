/-
  Bounds: what the program's within answers.
-/
import Derived.Test.YtbfdbicddmffnabBase
namespace Go.Proofs.Ytbfdbicddmffnab.W
open Go.ChangeShapes Go.WideShapes Go.ChangeAt Go.RowKit
open Go.Proofs.Ytbfdbicddmffnab.M

/-- The bounds that within is told. -/
def inB (x lo hi : Int) : Bool := decide (lo ≤ x ∧ x ≤ hi)

set_option maxRecDepth 100000 in
theorem within2 (x1 l1 h1 x2 l2 h2 : Int) (g : Nat) (w : World) (hg : w.heap[g]? = some (.cells #[.int .i64 x1, .int .i64 l1, .int .i64 h1, .int .i64 x2, .int .i64 l2, .int .i64 h2] 83)) :
    Calls Try.prog 59 #[.slice (some ⟨g, 0, none⟩) 2 2] w fun e w' => e = .returned (.bool (inB x1 l1 h1 && inB x2 l2 h2)) ∧ Below w.heap.size w w' := by
  have hgl : g < w.heap.size := (Array.getElem?_eq_some_iff.1 hg).1
  have c0 : w.cell? ⟨g, 0, none⟩ = some (.int .i64 x1) := by rw [cell_of_row w g 0 _ _ _ hg]; rfl
  have c1 : w.cell? ⟨g, 1, none⟩ = some (.int .i64 l1) := by rw [cell_of_row w g 1 _ _ _ hg]; rfl
  have c2 : w.cell? ⟨g, 2, none⟩ = some (.int .i64 h1) := by rw [cell_of_row w g 2 _ _ _ hg]; rfl
  have c3 : w.cell? ⟨g, 3, none⟩ = some (.int .i64 x2) := by rw [cell_of_row w g 3 _ _ _ hg]; rfl
  have c4 : w.cell? ⟨g, 4, none⟩ = some (.int .i64 l2) := by rw [cell_of_row w g 4 _ _ _ hg]; rfl
  have c5 : w.cell? ⟨g, 5, none⟩ = some (.int .i64 h2) := by rw [cell_of_row w g 5 _ _ _ hg]; rfl
  clear hg
  by_cases a1 : l1 ≤ x1
  · by_cases a2 : x1 ≤ h1
    · by_cases a3 : l2 ≤ x2
      · by_cases a4 : x2 ≤ h2
        · have E : Hid ((inB x1 l1 h1 && inB x2 l2 h2) = true) := by unfold Hid inB; simp [a1, a2, a3, a4]
          go_enter Try.func59, Try.ntmps59
          go_wp2
          refine wp_loop_rounds 3 ?_
          iterate 3
            rw [rounds_succ]
            go_wp2
          go_ret
          exact ⟨ret_b E.out.symm, below_alloc2 w _ _ ⟩
        · have E : Hid ((inB x1 l1 h1 && inB x2 l2 h2) = false) := by unfold Hid inB; rw [decide_eq_false (fun h : l2 ≤ x2 ∧ x2 ≤ h2 => a4 h.2), Bool.and_false]
          go_enter Try.func59, Try.ntmps59
          go_wp2
          refine wp_loop_rounds 2 ?_
          iterate 2
            rw [rounds_succ]
            go_wp2
          go_ret
          exact ⟨ret_b E.out.symm, below_alloc2 w _ _ ⟩
      · have E : Hid ((inB x1 l1 h1 && inB x2 l2 h2) = false) := by unfold Hid inB; rw [decide_eq_false (fun h : l2 ≤ x2 ∧ x2 ≤ h2 => a3 h.1), Bool.and_false]
        go_enter Try.func59, Try.ntmps59
        go_wp2
        refine wp_loop_rounds 2 ?_
        iterate 2
          rw [rounds_succ]
          go_wp2
        go_ret
        exact ⟨ret_b E.out.symm, below_alloc2 w _ _ ⟩
    · have E : Hid ((inB x1 l1 h1 && inB x2 l2 h2) = false) := by unfold Hid inB; rw [decide_eq_false (fun h : l1 ≤ x1 ∧ x1 ≤ h1 => a2 h.2), Bool.false_and]
      go_enter Try.func59, Try.ntmps59
      go_wp2
      refine wp_loop_rounds 1 ?_
      iterate 1
        rw [rounds_succ]
        go_wp2
      go_ret
      exact ⟨ret_b E.out.symm, below_alloc1 w _ ⟩
  · have E : Hid ((inB x1 l1 h1 && inB x2 l2 h2) = false) := by unfold Hid inB; rw [decide_eq_false (fun h : l1 ≤ x1 ∧ x1 ≤ h1 => a1 h.1), Bool.false_and]
    go_enter Try.func59, Try.ntmps59
    go_wp2
    refine wp_loop_rounds 1 ?_
    iterate 1
      rw [rounds_succ]
      go_wp2
    go_ret
    exact ⟨ret_b E.out.symm, below_alloc1 w _ ⟩

set_option maxRecDepth 100000 in
theorem within1 (x1 l1 h1 : Int) (g : Nat) (w : World) (hg : w.heap[g]? = some (.cells #[.int .i64 x1, .int .i64 l1, .int .i64 h1] 83)) :
    Calls Try.prog 59 #[.slice (some ⟨g, 0, none⟩) 1 1] w fun e w' => e = .returned (.bool (inB x1 l1 h1)) ∧ Below w.heap.size w w' := by
  have hgl : g < w.heap.size := (Array.getElem?_eq_some_iff.1 hg).1
  have c0 : w.cell? ⟨g, 0, none⟩ = some (.int .i64 x1) := by rw [cell_of_row w g 0 _ _ _ hg]; rfl
  have c1 : w.cell? ⟨g, 1, none⟩ = some (.int .i64 l1) := by rw [cell_of_row w g 1 _ _ _ hg]; rfl
  have c2 : w.cell? ⟨g, 2, none⟩ = some (.int .i64 h1) := by rw [cell_of_row w g 2 _ _ _ hg]; rfl
  clear hg
  by_cases a1 : l1 ≤ x1
  · by_cases a2 : x1 ≤ h1
    · have E : Hid (inB x1 l1 h1 = true) := by unfold Hid inB; simp [a1, a2]
      go_enter Try.func59, Try.ntmps59
      go_wp2
      refine wp_loop_rounds 2 ?_
      iterate 2
        rw [rounds_succ]
        go_wp2
      go_ret
      exact ⟨ret_b E.out.symm, below_alloc1 w _ ⟩
    · have E : Hid (inB x1 l1 h1 = false) := by unfold Hid inB; rw [decide_eq_false (fun h : l1 ≤ x1 ∧ x1 ≤ h1 => a2 h.2)]
      go_enter Try.func59, Try.ntmps59
      go_wp2
      refine wp_loop_rounds 1 ?_
      iterate 1
        rw [rounds_succ]
        go_wp2
      go_ret
      exact ⟨ret_b E.out.symm, below_alloc1 w _ ⟩
  · have E : Hid (inB x1 l1 h1 = false) := by unfold Hid inB; rw [decide_eq_false (fun h : l1 ≤ x1 ∧ x1 ≤ h1 => a1 h.1)]
    go_enter Try.func59, Try.ntmps59
    go_wp2
    refine wp_loop_rounds 1 ?_
    iterate 1
      rw [rounds_succ]
      go_wp2
    go_ret
    exact ⟨ret_b E.out.symm, below_alloc1 w _ ⟩
end Go.Proofs.Ytbfdbicddmffnab.W
