/-
  A word turned: what the program's method turned answers.
-/
import Derived.Test.YtckgjghpfjinfaiArrIx
import Derived.Test.YtckgjghpfjinfaiBox
import Derived.Test.YtckgjghpfjinfaiSlX
import Derived.StillTailTactics
namespace Go.Proofs.Ytckgjghpfjinfai.W
open Go.ChangeShapes Go.WideShapes Go.ChangeAt Go.RowKit
open Go.Proofs.Ytckgjghpfjinfai.M

set_option maxHeartbeats 2000000 in
set_option maxRecDepth 100000 in
theorem turnd (a0 a1 a2 a3 c gx : Nat) (w : World) (x0 : a0 < 256) (x1 : a1 < 256) (x2 : a2 < 256) (x3 : a3 < 256) (xc : c < 256) (hX : ∀ a, a < 256 → w.cell? ⟨gx, a, none⟩ = some (.int .u8 (sbx a : Nat))) :
    Calls Try.prog 100 #[.agg (arr [a0, a1, a2, a3]), .pointer (some ⟨gx, 0, none⟩), .int .u8 (c : Int)] w fun e w' => e = .returned (.agg (arr [sbx a1 ^^^ c, sbx a2, sbx a3, sbx a0])) ∧ Below w.heap.size w w' := by
  have T := (Ar.new w 111 [a0, a1, a2, a3]).alloc (.cells #[.int .u8 0, .int .u8 0, .int .u8 0, .int .u8 0] 111)
  have R : Ar ((w.alloc (.cells (arr [a0, a1, a2, a3]) 111)).alloc (.cells #[.int .u8 0, .int .u8 0, .int .u8 0, .int .u8 0] 111)) (w.heap.size + 1) 111 [0, 0, 0, 0] := heap_alloc2_new w _ _
  have B := below_alloc2 w (.cells (arr [a0, a1, a2, a3]) 111) (.cells #[.int .u8 0, .int .u8 0, .int .u8 0, .int .u8 0] 111)
  have X0 := cell_kept B (hX a0 x0)
  have X1 := cell_kept B (hX a1 x1)
  have X2 := cell_kept B (hX a2 x2)
  have X3 := cell_kept B (hX a3 x3)
  have c0 := T.cell 0 (by simp)
  have c1 := T.cell 1 (by simp)
  have c2 := T.cell 2 (by simp)
  have c3 := T.cell 3 (by simp)
  rw [show gt [a0, a1, a2, a3] 0 = a0 from rfl] at c0
  rw [show gt [a0, a1, a2, a3] 1 = a1 from rfl] at c1
  rw [show gt [a0, a1, a2, a3] 2 = a2 from rfl] at c2
  rw [show gt [a0, a1, a2, a3] 3 = a3 from rfl] at c3
  have E := xor8 _ _ (sbx_lt a1 x1) xc
  have Z4 := hid (show (Try.prog.info? 111).map (·.size) = some (arr [sbx a1 ^^^ c, sbx a2, sbx a3, sbx a0]).size by rw [arr_size]; kernel_rfl)
  go_enter Try.func100, Try.ntmps100
  go_wp2_with fail
  generalize (w.alloc (.cells (arr [a0, a1, a2, a3]) 111)).alloc (.cells #[.int .u8 0, .int .u8 0, .int .u8 0, .int .u8 0] 111) = W at *
  replace R := hid R
  replace B := hid B
  clear T hX
  have p0 : (0 : Int) ≤ (a0 : Int) := by omega
  have q0 : (a0 : Int) < 256 := by omega
  have p1 : (0 : Int) ≤ (a1 : Int) := by omega
  have q1 : (a1 : Int) < 256 := by omega
  have p2 : (0 : Int) ≤ (a2 : Int) := by omega
  have q2 : (a2 : Int) < 256 := by omega
  have p3 : (0 : Int) ≤ (a3 : Int) := by omega
  have q3 : (a3 : Int) < 256 := by omega
  refine wp_region_still_tail 27 (by kernel_rfl) (by kernel_rfl) ?_
  change wpStill _ _ (World.drew _) (fun a' => wpList _ _ _ _ a' (World.drew _)) _ _
  simp only [List.take_succ_cons, List.take_zero, List.drop_succ_cons, List.drop_zero]
  repeat still_step
  refine wpStill_nil ?_
  have S := hid (R.out.drew.row (l' := [sbx a1 ^^^ c, sbx a2, sbx a3, sbx a0]))
  have SB := hid (below_row B.out.drew (g := w.heap.size + 1) (by omega) (arr [sbx a1 ^^^ c, sbx a2, sbx a3, sbx a0]))
  refine wpList_store_row rfl 111 _ _ rfl (w.heap.size + 1) (arr [sbx a1 ^^^ c, sbx a2, sbx a3, sbx a0]) rfl rfl 111 _ R.out.drew Z4.out (by rw [arr_size, arr_size]; rfl) (arr_one _) ?_
  go_wp2
  exact bodyPost_ret (v := .agg (arr [sbx a1 ^^^ c, sbx a2, sbx a3, sbx a0])) (results_cell_row rfl _ _ (w.heap.size + 1) 111 _ _ _ rfl S.out Try.underlying111 rfl Z4.out) rfl ⟨rfl, SB.out⟩
end Go.Proofs.Ytckgjghpfjinfai.W
