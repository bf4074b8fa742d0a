/-
  The exact law of NewWindow.
-/
import Derived.Test.YtmamdbmkjipahalWinX
namespace Go.Proofs.Ytmamdbmkjipahal.W
open Go.ChangeShapes Go.WideShapes Go.ChangeAt Go.RowKit
open Go.Proofs.Ytmamdbmkjipahal.M

set_option maxRecDepth 100000 in
theorem snw (w : World) : Calls Try.prog 19 #[] w fun e w' => e = .returned (.agg #[.int .i64 (-1), .slice none 0 0]) ∧ Below w.heap.size w w' := by
  have HS := hid (heap_alloc_new w (.cells #[.int .i64 (-1), .slice none 0 0] 35))
  have HB := hid (below_alloc1 w (.cells #[.int .i64 (-1), .slice none 0 0] 35))
  go_enter Try.func19, Try.ntmps19
  go_wp2
  exact bodyPost_ret (v := .agg #[.int .i64 (-1), .slice none 0 0]) (results_cell_row rfl _ _ w.heap.size 35 _ _ _ rfl HS.out Try.underlying35 rfl (by kernel_rfl)) rfl ⟨rfl, HB.out⟩
set_option maxRecDepth 100000 in
theorem inw (w : World) : Calls Try.prog 20 #[] w fun e w' => e = .returned (.agg #[.int .i64 (-1), .slice none 0 0]) ∧ Below w.heap.size w w' := by
  have HS := hid (heap_alloc_new w (.cells #[.int .i64 (-1), .slice none 0 0] 35))
  have HB := hid (below_alloc1 w (.cells #[.int .i64 (-1), .slice none 0 0] 35))
  go_enter Try.func20, Try.ntmps20
  go_wp2
  exact bodyPost_ret (v := .agg #[.int .i64 (-1), .slice none 0 0]) (results_cell_row rfl _ _ w.heap.size 35 _ _ _ rfl HS.out Try.underlying35 rfl (by kernel_rfl)) rfl ⟨rfl, HB.out⟩
set_option maxHeartbeats 4000000 in
set_option maxRecDepth 100000 in
theorem law_nw (w : World) : Calls Try.prog 5 #[] w fun e w' => e = .returned (.bool true) ∧ Below w.heap.size w w' := by
  have BB := hid (Below.refl w.heap.size w)
  go_enter Try.func5, Try.ntmps5
  go_wp2_with fail
  refine (snw _).mono ?_
  rintro e w1 ⟨rfl, hB⟩
  replace BB := hid (BB.out.trans (hB.mono BB.out.size))
  clear hB
  have VW := hid (heap_alloc_new w1 (.cells #[.int .i64 (-1), .slice none 0 0] 35))
  have hB := below_alloc1 w1 (.cells #[.int .i64 (-1), .slice none 0 0] 35)
  replace BB := hid (BB.out.trans (hB.mono BB.out.size))
  clear hB
  obtain ⟨vw0, vw1, vw2, vw3⟩ := var2_facts VW.out
  go_wp2_with fail
  clear vw0 vw1 vw2 vw3
  generalize w1.alloc (.cells #[.int .i64 (-1), .slice none 0 0] 35) = w1a at *
  generalize w1.heap.size = gVW at *
  refine (inw _).mono ?_
  rintro e w2 ⟨rfl, hB⟩
  replace VW := hid (var_below hB VW.out)
  replace BB := hid (BB.out.trans (hB.mono BB.out.size))
  clear hB
  have VG := hid (heap_alloc_new w2 (.cells #[.int .i64 (-1), .slice none 0 0] 35))
  have hB := below_alloc1 w2 (.cells #[.int .i64 (-1), .slice none 0 0] 35)
  replace VW := hid (var_below hB VW.out)
  replace BB := hid (BB.out.trans (hB.mono BB.out.size))
  clear hB
  obtain ⟨vw0, vw1, vw2, vw3⟩ := var2_facts VW.out
  obtain ⟨vg0, vg1, vg2, vg3⟩ := var2_facts VG.out
  go_wp2_with fail
  clear vw0 vw1 vw2 vw3 vg0 vg1 vg2 vg3
  generalize w2.alloc (.cells #[.int .i64 (-1), .slice none 0 0] 35) = w2a at *
  generalize w2.heap.size = gVG at *
  refine (eqW (-1) _ _ [] _ (RdZ.nil _) (RdZ.nil _) (by simp)).mono ?_
  rintro e w3 ⟨rfl, hB⟩
  replace VW := hid (var_below hB VW.out)
  replace VG := hid (var_below hB VG.out)
  replace BB := hid (BB.out.trans (hB.mono BB.out.size))
  clear hB
  obtain ⟨vw0, vw1, vw2, vw3⟩ := var2_facts VW.out
  obtain ⟨vg0, vg1, vg2, vg3⟩ := var2_facts VG.out
  go_wp2_with fail
  clear vw0 vw1 vw2 vw3 vg0 vg1 vg2 vg3
  refine (markWo (-1) _ [] 1 _ rfl 0 0 _ (OZ.nil _ _ _) (by simp) (by omega)).mono ?_
  rintro e w4 ⟨rfl, -, hI⟩
  have hB : Below w3.heap.size w3 w4 := ⟨hI.os, hI.tape, hI.output, hI.size, fun k hk => hI.block k hk (.inr (Nat.zero_le _))⟩
  clear hI
  replace VW := hid (var_below hB VW.out)
  replace VG := hid (var_below hB VG.out)
  replace BB := hid (BB.out.trans (hB.mono BB.out.size))
  clear hB
  obtain ⟨vw0, vw1, vw2, vw3⟩ := var2_facts VW.out
  obtain ⟨vg0, vg1, vg2, vg3⟩ := var2_facts VG.out
  go_wp2_with fail
  clear vw0 vw1 vw2 vw3 vg0 vg1 vg2 vg3
  refine (heldWo (-1) _ [] 1 _ rfl _ (RdZ.nil _) (by simp) (by omega)).mono ?_
  rintro e w5 ⟨rfl, hB⟩
  replace VW := hid (var_below hB VW.out)
  replace VG := hid (var_below hB VG.out)
  replace BB := hid (BB.out.trans (hB.mono BB.out.size))
  clear hB
  obtain ⟨vw0, vw1, vw2, vw3⟩ := var2_facts VW.out
  obtain ⟨vg0, vg1, vg2, vg3⟩ := var2_facts VG.out
  go_wp2_with fail
  clear vw0 vw1 vw2 vw3 vg0 vg1 vg2 vg3
  refine (inw _).mono ?_
  rintro e w6 ⟨rfl, hB⟩
  replace VW := hid (var_below hB VW.out)
  replace VG := hid (var_below hB VG.out)
  replace BB := hid (BB.out.trans (hB.mono BB.out.size))
  clear hB
  have VH := hid (heap_alloc_new w6 (.cells #[.int .i64 (-1), .slice none 0 0] 35))
  have hB := below_alloc1 w6 (.cells #[.int .i64 (-1), .slice none 0 0] 35)
  replace VW := hid (var_below hB VW.out)
  replace VG := hid (var_below hB VG.out)
  replace BB := hid (BB.out.trans (hB.mono BB.out.size))
  clear hB
  obtain ⟨vw0, vw1, vw2, vw3⟩ := var2_facts VW.out
  obtain ⟨vg0, vg1, vg2, vg3⟩ := var2_facts VG.out
  obtain ⟨vh0, vh1, vh2, vh3⟩ := var2_facts VH.out
  go_wp2_with fail
  clear vw0 vw1 vw2 vw3 vg0 vg1 vg2 vg3 vh0 vh1 vh2 vh3
  generalize w6.alloc (.cells #[.int .i64 (-1), .slice none 0 0] 35) = w6a at *
  generalize w6.heap.size = gVH at *
  refine (eqW (-1) _ _ [] _ (RdZ.nil _) (RdZ.nil _) (by simp)).mono ?_
  rintro e w7 ⟨rfl, hB⟩
  replace VW := hid (var_below hB VW.out)
  replace VG := hid (var_below hB VG.out)
  replace VH := hid (var_below hB VH.out)
  replace BB := hid (BB.out.trans (hB.mono BB.out.size))
  clear hB
  obtain ⟨vw0, vw1, vw2, vw3⟩ := var2_facts VW.out
  obtain ⟨vg0, vg1, vg2, vg3⟩ := var2_facts VG.out
  obtain ⟨vh0, vh1, vh2, vh3⟩ := var2_facts VH.out
  go_wp2_with fail
  clear vw0 vw1 vw2 vw3 vg0 vg1 vg2 vg3 vh0 vh1 vh2 vh3
  refine (heldWo (-1) _ [] 1 _ rfl _ (RdZ.nil _) (by simp) (by omega)).mono ?_
  rintro e w8 ⟨rfl, hB⟩
  replace VW := hid (var_below hB VW.out)
  replace VG := hid (var_below hB VG.out)
  replace VH := hid (var_below hB VH.out)
  replace BB := hid (BB.out.trans (hB.mono BB.out.size))
  clear hB
  go_wp2
  go_ret
  exact ⟨rfl, BB.out⟩
end Go.Proofs.Ytmamdbmkjipahal.W
