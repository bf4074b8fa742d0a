/-
  The fault of a claim: what ClaimFault of the model and of the program answers.
-/
import Derived.Test.YtalaolfcdaaaoaaClnW
import Derived.Test.YtalaolfcdaaaoaaInWalks
namespace Go.Proofs.Ytalaolfcdaaaoaa.W
open Go.ChangeShapes Go.WideShapes Go.ChangeAt Go.RowKit
open Go.Proofs.Ytalaolfcdaaaoaa.M

theorem ret_cl {a b : Int} (h : a = b) : Ending.returned (.int .i64 a) = .returned (.int .i64 b) := by rw [h]
theorem cl_yes {a b c d : Int} (h1 : inB a 0 3 = true) (h2 : inB b 0 1000000 = true) (h3 : inB c 0 2 = true) (h4 : inB d 0 9999999 = true) : clF a b c d = 0 := by rw [clF, if_pos ⟨h1, h2, h3, h4⟩]
theorem cl_no {a b c d : Int} (h : ¬ (inB a 0 3 = true ∧ inB b 0 1000000 = true ∧ inB c 0 2 = true ∧ inB d 0 9999999 = true)) : clF a b c d = 3 := by rw [clF, if_neg h]
theorem cl_fit {a b c d : Int} {B o : Nat} : fitB [⟨B, o, 1, 0, 3⟩, ⟨B, o + 1, 4, 0, 1000000⟩, ⟨B, o + 2, 1, 0, 2⟩, ⟨B, o + 3, 4, 0, 9999999⟩] [a, b, c, d] = true ↔ (inB a 0 3 = true ∧ inB b 0 1000000 = true ∧ inB c 0 2 = true ∧ inB d 0 9999999 = true) := by
  simp [fitB, List.range_succ]
theorem kp4 {w : World} {g : Nat} {a b c d : Int} {T : TypeId} (h : w.heap[g]? = some (.cells #[.int .i64 a, .int .i64 b, .int .i64 c, .int .i64 d] T)) : Kp w [⟨g, 0, 1, 0, 3⟩, ⟨g, 0 + 1, 4, 0, 1000000⟩, ⟨g, 0 + 2, 1, 0, 2⟩, ⟨g, 0 + 3, 4, 0, 9999999⟩] [a, b, c, d] :=
  ⟨rfl, fun i hi => by
    match i, hi with
    | 0, _ => exact (cell_of_row w g 0 _ _ _ h).trans rfl
    | 1, _ => exact (cell_of_row w g 1 _ _ _ h).trans rfl
    | 2, _ => exact (cell_of_row w g 2 _ _ _ h).trans rfl
    | 3, _ => exact (cell_of_row w g 3 _ _ _ h).trans rfl⟩
set_option maxHeartbeats 1000000 in
set_option maxRecDepth 100000 in
theorem sclf (a b c d : Int) (w : World) :
    Calls Try.prog 96 #[.agg #[.int .i64 a, .int .i64 b, .int .i64 c, .int .i64 d]] w fun e w' => e = .returned (.int .i64 (clF a b c d)) ∧ Below w.heap.size w w' := by
  go_enter Try.func96, Try.ntmps96
  have V := hid (heap_alloc_new w (.cells #[.int .i64 a, .int .i64 b, .int .i64 c, .int .i64 d] 38))
  have BB := hid (below_alloc1 w (.cells #[.int .i64 a, .int .i64 b, .int .i64 c, .int .i64 d] 38))
  go_wp2_with fail
  generalize w.alloc (.cells #[.int .i64 a, .int .i64 b, .int .i64 c, .int .i64 d] 38) = w0 at *
  obtain ⟨g, hg⟩ : ∃ g, g = w.heap.size := ⟨_, rfl⟩
  rw [← hg] at V ⊢
  replace hg := hid hg
  obtain ⟨⟨f0, f1, f2, f3⟩, -⟩ := var4_facts V.out
  clear V
  refine (l1in _ _ _ _).mono ?_
  rintro e w1 ⟨rfl, rfl⟩
  obtain ⟨t1, h1⟩ : ∃ t, t = inB a 0 3 := ⟨_, rfl⟩
  rw [← h1]
  replace h1 := hid h1
  cases t1
  case false =>
    have E := hid (cl_no (a := a) (b := b) (c := c) (d := d) (fun q => by rw [← h1.out] at q; cases q.1))
    go_wp2
    go_ret
    exact ⟨ret_cl E.out.symm, BB.out⟩
  go_wp2_with fail
  refine (l1in _ _ _ _).mono ?_
  rintro e w1 ⟨rfl, rfl⟩
  obtain ⟨t1, h2⟩ : ∃ t, t = inB b 0 1000000 := ⟨_, rfl⟩
  rw [← h2]
  replace h2 := hid h2
  cases t1
  case false =>
    have E := hid (cl_no (a := a) (b := b) (c := c) (d := d) (fun q => by rw [← h2.out] at q; cases q.2.1))
    go_wp2
    go_ret
    exact ⟨ret_cl E.out.symm, BB.out⟩
  go_wp2_with fail
  refine (l1in _ _ _ _).mono ?_
  rintro e w1 ⟨rfl, rfl⟩
  obtain ⟨t1, h3⟩ : ∃ t, t = inB c 0 2 := ⟨_, rfl⟩
  rw [← h3]
  replace h3 := hid h3
  cases t1
  case false =>
    have E := hid (cl_no (a := a) (b := b) (c := c) (d := d) (fun q => by rw [← h3.out] at q; cases q.2.2.1))
    go_wp2
    go_ret
    exact ⟨ret_cl E.out.symm, BB.out⟩
  go_wp2_with fail
  refine (l1in _ _ _ _).mono ?_
  rintro e w1 ⟨rfl, rfl⟩
  obtain ⟨t1, h4⟩ : ∃ t, t = inB d 0 9999999 := ⟨_, rfl⟩
  rw [← h4]
  replace h4 := hid h4
  cases t1
  case false =>
    have E := hid (cl_no (a := a) (b := b) (c := c) (d := d) (fun q => by rw [← h4.out] at q; cases q.2.2.2))
    go_wp2
    go_ret
    exact ⟨ret_cl E.out.symm, BB.out⟩
  have E := hid (cl_yes h1.out.symm h2.out.symm h3.out.symm h4.out.symm)
  go_wp2
  go_ret
  exact ⟨ret_cl E.out.symm, BB.out⟩
end Go.Proofs.Ytalaolfcdaaaoaa.W
