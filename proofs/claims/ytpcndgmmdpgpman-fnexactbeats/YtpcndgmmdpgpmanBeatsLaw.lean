/-
  The exact law of Beats, out of the contracts of its callees. Generated text.
-/
import Derived.Test.YtpcndgmmdpgpmanVwB
import Derived.Test.YtpcndgmmdpgpmanVwE
namespace Go.Proofs.Ytpcndgmmdpgpman.W
open Go.ChangeShapes Go.WideShapes Go.ChangeAt Go.RowKit
open Go.Proofs.Ytpcndgmmdpgpman.M

set_option maxHeartbeats 2000000 in
set_option maxRecDepth 100000 in
theorem law_Beats (a b : Clm) (w : World) :
    Calls Try.prog 6 #[.agg #[.int .i64 a.n, .int .i64 a.i, .int .i64 a.s, .int .i64 a.m], .agg #[.int .i64 b.n, .int .i64 b.i, .int .i64 b.s, .int .i64 b.m]] w fun e w' => e = .returned (.bool true) ∧ Below w.heap.size w w' := by
  go_enter Try.func6, Try.ntmps6
  have VA := hid (heap_alloc2_old w (.cells #[.int .i64 a.n, .int .i64 a.i, .int .i64 a.s, .int .i64 a.m] 46) (.cells #[.int .i64 b.n, .int .i64 b.i, .int .i64 b.s, .int .i64 b.m] 46))
  have VB := hid (heap_alloc2_new w (.cells #[.int .i64 a.n, .int .i64 a.i, .int .i64 a.s, .int .i64 a.m] 46) (.cells #[.int .i64 b.n, .int .i64 b.i, .int .i64 b.s, .int .i64 b.m] 46))
  have BB := hid (below_alloc2 w (.cells #[.int .i64 a.n, .int .i64 a.i, .int .i64 a.s, .int .i64 a.m] 46) (.cells #[.int .i64 b.n, .int .i64 b.i, .int .i64 b.s, .int .i64 b.m] 46))
  go_wp2_with fail
  generalize (w.alloc (.cells #[.int .i64 a.n, .int .i64 a.i, .int .i64 a.s, .int .i64 a.m] 46)).alloc (.cells #[.int .i64 b.n, .int .i64 b.i, .int .i64 b.s, .int .i64 b.m] 46) = w0 at *
  obtain ⟨⟨a0, a1, a2, a3⟩, -⟩ := var4_facts VA.out
  obtain ⟨⟨b0, b1, b2, b3⟩, -⟩ := var4_facts VB.out
  refine wp_region_held_drew (S := fun w' => Below w0.heap.size w0 w') (by kernel_rfl) (Below.refl _ _).drew (fun hH => ?_)
  generalize w0.drew = y0 at hH ⊢
  refine wpAnyH_take (i := 0) (v := .agg #[.int .i64 a.n, .int .i64 a.i, .int .i64 a.s, .int .i64 a.m]) (by simp only [List.getElem?_toArray, List.getElem?_cons_zero]; rfl) (by kernel_rfl) (by kernel_rfl) (by kernel_rfl) (by intro _ _ _ h; exact h) (Or.inl ⟨by rfl, fun w hS => by (have y0 := cell_kept hS a0; have y1 := cell_kept hS a1; have y2 := cell_kept hS a2; have y3 := cell_kept hS a3; go_simp)⟩) hH ?_
  simp only [Act.put, List.setIfInBounds_toArray, List.set_cons_zero, List.set_cons_succ]
  refine wpAnyH_take (i := 2) (v := .agg #[.int .i64 b.n, .int .i64 b.i, .int .i64 b.s, .int .i64 b.m]) (by simp only [List.getElem?_toArray, List.getElem?_cons_succ, List.getElem?_cons_zero]; rfl) (by kernel_rfl) (by kernel_rfl) (by kernel_rfl) (by intro _ _ _ h; exact h) (Or.inl ⟨by rfl, fun w hS => by (have y0 := cell_kept hS b0; have y1 := cell_kept hS b1; have y2 := cell_kept hS b2; have y3 := cell_kept hS b3; go_simp)⟩) hH ?_
  simp only [Act.put, List.setIfInBounds_toArray, List.set_cons_zero, List.set_cons_succ]
  refine wpAnyH_ready (rs := [1]) (by kernel_rfl) (by simp) ?_
  refine AllReadyH.cons (by simp only [List.getElem?_toArray, List.getElem?_cons_succ, List.getElem?_cons_zero]; rfl) (fun K hK => ?_) AllReadyH.nil
  go_simp
  refine (tocl _ _ _ _ _).mono ?_
  rintro e x1 ⟨rfl, hM⟩
  refine hK.out _ _ (hH.trans (hM.mono hH.size)) (fun hH => ?_)
  clear hK K
  clear hM
  refine wpAnyH_ready (rs := [3]) (by kernel_rfl) (by simp) ?_
  refine AllReadyH.cons (by simp only [List.getElem?_toArray, List.getElem?_cons_succ, List.getElem?_cons_zero]; rfl) (fun K hK => ?_) AllReadyH.nil
  go_simp
  refine (tocl _ _ _ _ _).mono ?_
  rintro e x3 ⟨rfl, hM⟩
  refine hK.out _ _ (hH.trans (hM.mono hH.size)) (fun hH => ?_)
  clear hK K
  clear hM
  refine wpAnyH_ready (rs := [4]) (by kernel_rfl) (by simp) ?_
  refine AllReadyH.cons (by simp only [List.getElem?_toArray, List.getElem?_cons_succ, List.getElem?_cons_zero]; rfl) (fun K hK => ?_) AllReadyH.nil
  go_simp
  refine (sbt a b _).mono ?_
  rintro e x4 ⟨rfl, hM⟩
  refine hK.out _ _ (hH.trans (hM.mono hH.size)) (fun hH => ?_)
  clear hK K
  clear hM
  refine wpAnyH_take (i := 5) (v := .bool (bC a b)) (by simp only [List.getElem?_toArray, List.getElem?_cons_succ, List.getElem?_cons_zero]; rfl) (by kernel_rfl) (by kernel_rfl) (by kernel_rfl) (by intro _ _ _ h; exact h) (Or.inl ⟨by rfl, fun w hS => by go_simp⟩) hH ?_
  simp only [Act.put, List.setIfInBounds_toArray, List.set_cons_zero, List.set_cons_succ]
  refine wpAnyH_done (by kernel_rfl) ?_ _
  have hB := hH
  clear hH a0 a1 a2 a3 b0 b1 b2 b3
  replace VA := hid (var_below hB VA.out)
  replace VB := hid (var_below hB VB.out)
  replace BB := hid (BB.out.trans (hB.mono BB.out.size))
  clear hB
  generalize x4 = w1 at *
  go_wp2_with fail
  obtain ⟨⟨a0, a1, a2, a3⟩, -⟩ := var4_facts VA.out
  obtain ⟨⟨b0, b1, b2, b3⟩, -⟩ := var4_facts VB.out
  refine wp_region_held_drew (S := fun w' => Below w1.heap.size w1 w') (by kernel_rfl) (Below.refl _ _).drew (fun hH => ?_)
  generalize w1.drew = y1 at hH ⊢
  refine wpAnyH_take (i := 0) (v := .agg #[.int .i64 a.n, .int .i64 a.i, .int .i64 a.s, .int .i64 a.m]) (by simp only [List.getElem?_toArray, List.getElem?_cons_zero]; rfl) (by kernel_rfl) (by kernel_rfl) (by kernel_rfl) (by intro _ _ _ h; exact h) (Or.inl ⟨by rfl, fun w hS => by (have y0 := cell_kept hS a0; have y1 := cell_kept hS a1; have y2 := cell_kept hS a2; have y3 := cell_kept hS a3; go_simp)⟩) hH ?_
  simp only [Act.put, List.setIfInBounds_toArray, List.set_cons_zero, List.set_cons_succ]
  refine wpAnyH_take (i := 2) (v := .agg #[.int .i64 b.n, .int .i64 b.i, .int .i64 b.s, .int .i64 b.m]) (by simp only [List.getElem?_toArray, List.getElem?_cons_succ, List.getElem?_cons_zero]; rfl) (by kernel_rfl) (by kernel_rfl) (by kernel_rfl) (by intro _ _ _ h; exact h) (Or.inl ⟨by rfl, fun w hS => by (have y0 := cell_kept hS b0; have y1 := cell_kept hS b1; have y2 := cell_kept hS b2; have y3 := cell_kept hS b3; go_simp)⟩) hH ?_
  simp only [Act.put, List.setIfInBounds_toArray, List.set_cons_zero, List.set_cons_succ]
  refine wpAnyH_ready (rs := [1]) (by kernel_rfl) (by simp) ?_
  refine AllReadyH.cons (by simp only [List.getElem?_toArray, List.getElem?_cons_succ, List.getElem?_cons_zero]; rfl) (fun K hK => ?_) AllReadyH.nil
  go_simp
  refine (tocl _ _ _ _ _).mono ?_
  rintro e x1 ⟨rfl, hM⟩
  refine hK.out _ _ (hH.trans (hM.mono hH.size)) (fun hH => ?_)
  clear hK K
  clear hM
  refine wpAnyH_ready (rs := [3]) (by kernel_rfl) (by simp) ?_
  refine AllReadyH.cons (by simp only [List.getElem?_toArray, List.getElem?_cons_succ, List.getElem?_cons_zero]; rfl) (fun K hK => ?_) AllReadyH.nil
  go_simp
  refine (tocl _ _ _ _ _).mono ?_
  rintro e x3 ⟨rfl, hM⟩
  refine hK.out _ _ (hH.trans (hM.mono hH.size)) (fun hH => ?_)
  clear hK K
  clear hM
  refine wpAnyH_ready (rs := [4]) (by kernel_rfl) (by simp) ?_
  refine AllReadyH.cons (by simp only [List.getElem?_toArray, List.getElem?_cons_succ, List.getElem?_cons_zero]; rfl) (fun K hK => ?_) AllReadyH.nil
  go_simp
  refine (ibt a b _).mono ?_
  rintro e x4 ⟨rfl, hM⟩
  refine hK.out _ _ (hH.trans (hM.mono hH.size)) (fun hH => ?_)
  clear hK K
  clear hM
  refine wpAnyH_take (i := 5) (v := .bool (bC a b)) (by simp only [List.getElem?_toArray, List.getElem?_cons_succ, List.getElem?_cons_zero]; rfl) (by kernel_rfl) (by kernel_rfl) (by kernel_rfl) (by intro _ _ _ h; exact h) (Or.inl ⟨by rfl, fun w hS => by go_simp⟩) hH ?_
  simp only [Act.put, List.setIfInBounds_toArray, List.set_cons_zero, List.set_cons_succ]
  refine wpAnyH_done (by kernel_rfl) ?_ _
  have hB := hH
  clear hH a0 a1 a2 a3 b0 b1 b2 b3
  replace VA := hid (var_below hB VA.out)
  replace VB := hid (var_below hB VB.out)
  replace BB := hid (BB.out.trans (hB.mono BB.out.size))
  clear hB
  generalize x4 = w2 at *
  generalize bC a b = t
  cases t
  · go_wp2
    go_ret
    exact ⟨rfl, BB.out⟩
  · go_wp2
    go_ret
    exact ⟨rfl, BB.out⟩
end Go.Proofs.Ytpcndgmmdpgpman.W
