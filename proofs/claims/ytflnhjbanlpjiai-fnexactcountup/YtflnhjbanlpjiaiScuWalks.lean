/-
  A block counted up: what the model's CountUp answers.
-/
import Derived.Test.YtflnhjbanlpjiaiL3cWalks
import Derived.Test.YtflnhjbanlpjiaiCuC
namespace Go.Proofs.Ytflnhjbanlpjiai.W
open Go.ChangeShapes Go.WideShapes Go.ChangeAt Go.RowKit
open Go.Proofs.Ytflnhjbanlpjiai.M

set_option maxRecDepth 100000 in
theorem scu_ok (v : Value) (l : List Nat) (w : World) (h : Rd w v l) (y : Byt l) (nl : l.length = 16) :
    Calls Try.prog 7 #[v] w fun e w' => ∃ r, e = .returned (.agg #[.int .i64 0, r]) ∧ Owx w' w.heap.size r (cu l) ∧ Below w.heap.size w w' := by
  obtain ⟨b1, o1, cap1, rfl, -, -⟩ := h.spot (by omega)
  have N1 := hid nl
  rw [nl] at h ⊢
  have A := hid (h.below (below_alloc1 w (.cells #[.int .i64 0, .slice none 0 0] 24)))
  clear h nl
  go_enter Try.func7, Try.ntmps7
  go_wp2_with fail
  refine (l3count _ l _ A.out y N1.out).mono ?_
  rintro e w1 ⟨v, rfl, O, B1⟩
  simp only [World.size_alloc] at O
  obtain ⟨q, c, rfl, -, -, -⟩ := O.rd.parts
  have hv := var_below B1 (heap_alloc_new w (.cells #[.int .i64 0, .slice none 0 0] 24))
  have hB3 := (below_alloc1 w (.cells #[.int .i64 0, .slice none 0 0] 24)).trans (B1.mono (by simp))
  obtain ⟨f1, f2, f3, f4⟩ := var2_facts hv
  have hset := hid (var2_set (x' := .int .i64 0) (y' := .slice q (cu l).length c) hv)
  have hbel := hid (below_set2 (x := .int .i64 0) (y := .slice q (cu l).length c) hB3 (Nat.le_refl _))
  have hown := hid ((O.set2 (g := w.heap.size) (x := .int .i64 0) (y := .slice q (cu l).length c) (by omega)).mono (base' := w.heap.size) (by omega)).x
  clear hv O B1 hB3 A
  go_wp2
  exact bodyPost_ret (v := .agg #[.int .i64 0, .slice q (cu l).length c]) (results_cell_row rfl _ _ w.heap.size 24 _ _ _ rfl hset.out Try.underlying24 rfl (by kernel_rfl)) rfl ⟨_, rfl, hown.out, hbel.out⟩

set_option maxRecDepth 100000 in
theorem scu_no (v : Value) (l : List Nat) (w : World) (h : Rd w v l) (nl : l.length ≠ 16) :
    Calls Try.prog 7 #[v] w fun e w' => e = .returned (.agg #[.int .i64 2, .slice none 0 0]) ∧ Below w.heap.size w w' := by
  obtain ⟨p1, cap1, rfl, -, -, -⟩ := h.parts
  clear h
  have n1 : ((l.length : Int) != 16) = true := by rw [bne_iff_ne]; omega
  clear nl
  go_enter Try.func7, Try.ntmps7
  go_wp2
  exact bodyPost_ret (v := .agg #[.int .i64 2, .slice none 0 0]) (by simp [results, Try.results7, go_sem]) rfl ⟨rfl, below_alloc1 w _⟩

theorem scu (v : Value) (l : List Nat) (w : World) (h : Rd w v l) (y : Byt l) :
    Calls Try.prog 7 #[v] w fun e w' => ∃ r, e = .returned (.agg #[.int .i64 (cuC l), r]) ∧ Owx w' w.heap.size r (cuB l) ∧ Below w.heap.size w w' := by
  by_cases n : l.length = 16
  · rw [show cuC l = 0 by rw [cuC, if_pos n], show cuB l = cu l by rw [cuB, if_pos n]]
    exact scu_ok v l w h y n
  · rw [show cuC l = 2 by rw [cuC, if_neg n], show cuB l = [] by rw [cuB, if_neg n]]
    exact (scu_no v l w h n).mono fun e w' ⟨he, hb⟩ => ⟨_, he, Owx.nil _ _, hb⟩
end Go.Proofs.Ytflnhjbanlpjiai.W
