/-
  The exact law of SameWindows, out of the contracts of its callees.
-/
import Derived.Test.YtmamdbmkjipahamWinW
import Derived.Test.YtmamdbmkjipahamSmwW
namespace Go.Proofs.Ytmamdbmkjipaham.W
open Go.ChangeShapes Go.WideShapes Go.ChangeAt Go.RowKit
open Go.Proofs.Ytmamdbmkjipaham.M

set_option maxHeartbeats 4000000 in
set_option maxRecDepth 100000 in
theorem law_sw (k k' : Int) (va vb : Value) (la lb : List Int) (w : World) (ha : RdZ w va la) (hb : RdZ w vb lb) (t : Bool) (ht : (k = k' ∧ t = sameZ la lb) ∨ (¬ k = k' ∧ t = false)) :
    Calls Try.prog 3 #[.agg #[.int .i64 k, va], .agg #[.int .i64 k', vb]] w fun e w' => e = .returned (.bool true) ∧ Below w.heap.size w w' := by
  have HA := hid ha
  have HB := hid hb
  obtain ⟨a, ca, rfl, h1, h2, -⟩ := ha.parts
  obtain ⟨b, cb, rfl, h3, h4, -⟩ := hb.parts
  have LA := hid (Nat.le_trans h1 h2)
  have LB := hid (Nat.le_trans h3 h4)
  have HT := hid ht
  clear ha hb h1 h2 h3 h4 ht
  go_enter Try.func3, Try.ntmps3
  go_wp2_with fail
  have VA := hid (heap_alloc2_old w (.cells #[.int .i64 k, .slice a la.length ca] 24) (.cells #[.int .i64 k', .slice b lb.length cb] 24))
  have VB := hid (heap_alloc2_new w (.cells #[.int .i64 k, .slice a la.length ca] 24) (.cells #[.int .i64 k', .slice b lb.length cb] 24))
  have BB := hid (below_alloc2 w (.cells #[.int .i64 k, .slice a la.length ca] 24) (.cells #[.int .i64 k', .slice b lb.length cb] 24))
  replace HA := hid (HA.out.below BB.out)
  replace HB := hid (HB.out.below BB.out)
  generalize (w.alloc (.cells #[.int .i64 k, .slice a la.length ca] 24)).alloc (.cells #[.int .i64 k', .slice b lb.length cb] 24) = w0 at *
  generalize w.heap.size + 1 = gb at *
  obtain ⟨ga, hga⟩ : ∃ g, g = w.heap.size := ⟨_, rfl⟩
  rw [← hga] at VA ⊢
  clear hga
  refine (szW _ _ _ _ 1048576 _ (by omega) (by omega) LA.out).mono ?_
  rintro e w1 ⟨rfl, hB⟩
  replace HA := hid (HA.out.below hB)
  replace HB := hid (HB.out.below hB)
  replace VA := hid (var_below hB VA.out)
  replace VB := hid (var_below hB VB.out)
  replace BB := hid (BB.out.trans (hB.mono BB.out.size))
  clear hB
  by_cases h1 : (1048576 : Int) - la.length < 0
  · rw [show szZn 1048576 la.length = -1 by rw [szZn, if_pos h1]]
    go_wp2
    go_ret
    exact ⟨rfl, BB.out⟩
  · obtain ⟨l1, e1⟩ : ∃ r, r = szZn 1048576 la.length := ⟨_, rfl⟩
    have e1' : szZn 1048576 la.length = 1048576 - la.length := by rw [szZn, if_neg h1]
    have g1 : 0 ≤ l1 := by rw [e1, e1']; omega
    have g2 : l1 ≤ 1048576 := by rw [e1, e1']; omega
    rw [← e1]
    clear e1 e1'
    obtain ⟨va0, va1, -, -⟩ := var2_facts VA.out
    obtain ⟨vb0, vb1, -, -⟩ := var2_facts VB.out
    go_wp2_with fail
    clear va0 va1 vb0 vb1
    refine (szW _ _ _ _ l1 _ g1 g2 LB.out).mono ?_
    rintro e w2 ⟨rfl, hB⟩
    replace HA := hid (HA.out.below hB)
    replace HB := hid (HB.out.below hB)
    replace VA := hid (var_below hB VA.out)
    replace VB := hid (var_below hB VB.out)
    replace BB := hid (BB.out.trans (hB.mono BB.out.size))
    clear hB
    by_cases h2 : l1 - lb.length < 0
    · rw [show szZn l1 lb.length = -1 by rw [szZn, if_pos h2]]
      go_wp2
      go_ret
      exact ⟨rfl, BB.out⟩
    · obtain ⟨l2, e2⟩ : ∃ r, r = szZn l1 lb.length := ⟨_, rfl⟩
      have e2' : szZn l1 lb.length = l1 - lb.length := by rw [szZn, if_neg h2]
      have g3 : 0 ≤ l2 := by rw [e2, e2']; omega
      have hk : la.length ≤ 1048576 := by omega
      have hm : lb.length ≤ 1048576 := by omega
      rw [← e2]
      clear e2 e2' h1 h2
      obtain ⟨va0, va1, -, -⟩ := var2_facts VA.out
      obtain ⟨vb0, vb1, -, -⟩ := var2_facts VB.out
      go_wp2_with fail
      refine wp_region_held_drew (S := fun w' => Below w2.heap.size w2 w') (by kernel_rfl) (Below.refl _ _).drew (fun hH => ?_)
      refine wpAnyH_take (i := 0) (v := .agg #[.int .i64 k, .slice a la.length ca]) (by simp only [List.getElem?_toArray, List.getElem?_cons_zero]; rfl) (by kernel_rfl) (by kernel_rfl) (by kernel_rfl) (by intro _ _ _ h; exact h) (Or.inl ⟨by rfl, fun w hS => by (have y0 := cell_kept hS va0; have y1 := cell_kept hS va1; go_simp)⟩) hH ?_
      simp only [Act.put, List.setIfInBounds_toArray, List.set_cons_zero, List.set_cons_succ]
      refine wpAnyH_take (i := 2) (v := .agg #[.int .i64 k', .slice b lb.length cb]) (by simp only [List.getElem?_toArray, List.getElem?_cons_succ, List.getElem?_cons_zero]; rfl) (by kernel_rfl) (by kernel_rfl) (by kernel_rfl) (by intro _ _ _ h; exact h) (Or.inl ⟨by rfl, fun w hS => by (have y0 := cell_kept hS vb0; have y1 := cell_kept hS vb1; go_simp)⟩) hH ?_
      simp only [Act.put, List.setIfInBounds_toArray, List.set_cons_zero, List.set_cons_succ]
      refine wpAnyH_ready (rs := [1]) (by kernel_rfl) (by simp) ?_
      refine AllReadyH.cons (by simp only [List.getElem?_toArray, List.getElem?_cons_succ, List.getElem?_cons_zero]; rfl) (fun K hK => ?_) AllReadyH.nil
      go_simp
      refine (toWo k _ la _ (HA.out.below hH) hk).mono ?_
      rintro e x1 ⟨gX3, rfl, hF, hM⟩
      refine hK.out _ _ (hH.trans (hM.mono hH.size)) (fun hH => ?_)
      clear hK K
      have X3 := hid hF.rd
      clear hF
      clear hM
      refine wpAnyH_ready (rs := [3]) (by kernel_rfl) (by simp) ?_
      refine AllReadyH.cons (by simp only [List.getElem?_toArray, List.getElem?_cons_succ, List.getElem?_cons_zero]; rfl) (fun K hK => ?_) AllReadyH.nil
      go_simp
      refine (toWo k' _ lb _ (HB.out.below hH) hm).mono ?_
      rintro e x3 ⟨gX4, rfl, hF, hM⟩
      refine hK.out _ _ (hH.trans (hM.mono hH.size)) (fun hH => ?_)
      clear hK K
      have X4 := hid hF.rd
      clear hF
      replace X3 := hid (X3.out.below hM)
      clear hM
      refine wpAnyH_ready (rs := [4]) (by kernel_rfl) (by simp) ?_
      refine AllReadyH.cons (by simp only [List.getElem?_toArray, List.getElem?_cons_succ, List.getElem?_cons_zero]; rfl) (fun K hK => ?_) AllReadyH.nil
      go_simp
      refine (ssmw k k' _ _ la lb _ X3.out X4.out t HT.out).mono ?_
      rintro e x4 ⟨rfl, hM⟩
      refine hK.out _ _ (hH.trans (hM.mono hH.size)) (fun hH => ?_)
      clear hK K
      clear X3 X4
      clear hM
      refine wpAnyH_take (i := 5) (v := .bool t) (by simp only [List.getElem?_toArray, List.getElem?_cons_succ, List.getElem?_cons_zero]; rfl) (by kernel_rfl) (by kernel_rfl) (by kernel_rfl) (by intro _ _ _ h; exact h) (Or.inl ⟨by rfl, fun w hS => by go_simp⟩) hH ?_
      simp only [Act.put, List.setIfInBounds_toArray, List.set_cons_zero, List.set_cons_succ]
      refine wpAnyH_done (by kernel_rfl) ?_ _
      have hB := hH
      clear hH
      clear va0 va1 vb0 vb1
      replace HA := hid (HA.out.below hB)
      replace HB := hid (HB.out.below hB)
      replace VA := hid (var_below hB VA.out)
      replace VB := hid (var_below hB VB.out)
      replace BB := hid (BB.out.trans (hB.mono BB.out.size))
      clear hB
      obtain ⟨va0, va1, -, -⟩ := var2_facts VA.out
      obtain ⟨vb0, vb1, -, -⟩ := var2_facts VB.out
      go_wp2_with fail
      clear va0 va1 vb0 vb1
      refine (toWo k _ la _ HA.out hk).mono ?_
      rintro e w6 ⟨gX6, rfl, hF, hB⟩
      replace HA := hid (HA.out.below hB)
      replace HB := hid (HB.out.below hB)
      replace VA := hid (var_below hB VA.out)
      replace VB := hid (var_below hB VB.out)
      replace BB := hid (BB.out.trans (hB.mono BB.out.size))
      have X6 := hid hF.rd
      clear hB hF
      have VX := hid (heap_alloc_new w6 (.cells #[.int .i64 k, .slice (some ⟨gX6, 0, none⟩) la.length la.length] 27))
      have hB := below_alloc1 w6 (.cells #[.int .i64 k, .slice (some ⟨gX6, 0, none⟩) la.length la.length] 27)
      replace HA := hid (HA.out.below hB)
      replace HB := hid (HB.out.below hB)
      replace X6 := hid (X6.out.below hB)
      replace VA := hid (var_below hB VA.out)
      replace VB := hid (var_below hB VB.out)
      replace BB := hid (BB.out.trans (hB.mono BB.out.size))
      clear hB
      obtain ⟨va0, va1, -, -⟩ := var2_facts VA.out
      obtain ⟨vb0, vb1, -, -⟩ := var2_facts VB.out
      obtain ⟨vx0, vx1, -, -⟩ := var2_facts VX.out
      go_wp2_with fail
      clear va0 va1 vb0 vb1 vx0 vx1
      generalize w6.alloc (.cells #[.int .i64 k, .slice (some ⟨gX6, 0, none⟩) la.length la.length] 27) = w6a at *
      generalize w6.heap.size = gVX at *
      refine (toWo k' _ lb _ HB.out hm).mono ?_
      rintro e w7 ⟨gX7, rfl, hF, hB⟩
      replace HA := hid (HA.out.below hB)
      replace HB := hid (HB.out.below hB)
      replace X6 := hid (X6.out.below hB)
      replace VA := hid (var_below hB VA.out)
      replace VB := hid (var_below hB VB.out)
      replace VX := hid (var_below hB VX.out)
      replace BB := hid (BB.out.trans (hB.mono BB.out.size))
      have X7 := hid hF.rd
      clear hB hF
      have VY := hid (heap_alloc_new w7 (.cells #[.int .i64 k', .slice (some ⟨gX7, 0, none⟩) lb.length lb.length] 27))
      have hB := below_alloc1 w7 (.cells #[.int .i64 k', .slice (some ⟨gX7, 0, none⟩) lb.length lb.length] 27)
      replace HA := hid (HA.out.below hB)
      replace HB := hid (HB.out.below hB)
      replace X6 := hid (X6.out.below hB)
      replace X7 := hid (X7.out.below hB)
      replace VA := hid (var_below hB VA.out)
      replace VB := hid (var_below hB VB.out)
      replace VX := hid (var_below hB VX.out)
      replace BB := hid (BB.out.trans (hB.mono BB.out.size))
      clear hB
      obtain ⟨va0, va1, -, -⟩ := var2_facts VA.out
      obtain ⟨vb0, vb1, -, -⟩ := var2_facts VB.out
      obtain ⟨vx0, vx1, -, -⟩ := var2_facts VX.out
      obtain ⟨vy0, vy1, -, -⟩ := var2_facts VY.out
      go_wp2_with fail
      clear va0 va1 vb0 vb1 vx0 vx1 vy0 vy1
      generalize w7.alloc (.cells #[.int .i64 k', .slice (some ⟨gX7, 0, none⟩) lb.length lb.length] 27) = w7a at *
      generalize w7.heap.size = gVY at *
      refine (ismw k k' _ _ la lb _ X6.out X7.out t HT.out).mono ?_
      rintro e w8 ⟨rfl, hB⟩
      replace HA := hid (HA.out.below hB)
      replace HB := hid (HB.out.below hB)
      replace X6 := hid (X6.out.below hB)
      replace X7 := hid (X7.out.below hB)
      replace VA := hid (var_below hB VA.out)
      replace VB := hid (var_below hB VB.out)
      replace VX := hid (var_below hB VX.out)
      replace VY := hid (var_below hB VY.out)
      replace BB := hid (BB.out.trans (hB.mono BB.out.size))
      clear hB HT
      have tt : (t != t) = false := by simp
      obtain ⟨va0, va1, -, -⟩ := var2_facts VA.out
      obtain ⟨vb0, vb1, -, -⟩ := var2_facts VB.out
      obtain ⟨vx0, vx1, -, -⟩ := var2_facts VX.out
      obtain ⟨vy0, vy1, -, -⟩ := var2_facts VY.out
      go_wp2_with fail
      refine wp_region_held_drew (S := fun w' => Below w8.heap.size w8 w') (by kernel_rfl) (Below.refl _ _).drew (fun hH => ?_)
      refine wpAnyH_take (i := 0) (v := .agg #[.int .i64 k, .slice (some ⟨gX6, 0, none⟩) la.length la.length]) (by simp only [List.getElem?_toArray, List.getElem?_cons_zero]; rfl) (by kernel_rfl) (by kernel_rfl) (by kernel_rfl) (by intro _ _ _ h; exact h) (Or.inl ⟨by rfl, fun w hS => by (have y0 := cell_kept hS vx0; have y1 := cell_kept hS vx1; go_simp)⟩) hH ?_
      simp only [Act.put, List.setIfInBounds_toArray, List.set_cons_zero, List.set_cons_succ]
      refine wpAnyH_take (i := 1) (v := .agg #[.int .i64 k, .slice a la.length ca]) (by simp only [List.getElem?_toArray, List.getElem?_cons_succ, List.getElem?_cons_zero]; rfl) (by kernel_rfl) (by kernel_rfl) (by kernel_rfl) (by intro _ _ _ h; exact h) (Or.inl ⟨by rfl, fun w hS => by (have y0 := cell_kept hS va0; have y1 := cell_kept hS va1; go_simp)⟩) hH ?_
      simp only [Act.put, List.setIfInBounds_toArray, List.set_cons_zero, List.set_cons_succ]
      refine wpAnyH_ready (rs := [2]) (by kernel_rfl) (by simp) ?_
      refine AllReadyH.cons (by simp only [List.getElem?_toArray, List.getElem?_cons_succ, List.getElem?_cons_zero]; rfl) (fun K hK => ?_) AllReadyH.nil
      go_simp
      refine (toWo k _ la _ (HA.out.below hH) hk).mono ?_
      rintro e x2 ⟨gZ, rfl, hF, hM⟩
      refine hK.out _ _ (hH.trans (hM.mono hH.size)) (fun hH => ?_)
      clear hK K
      have XZ := hid hF.rd
      clear hF
      clear hM
      refine wpAnyH_ready (rs := [3]) (by kernel_rfl) (by simp) ?_
      refine AllReadyH.cons (by simp only [List.getElem?_toArray, List.getElem?_cons_succ, List.getElem?_cons_zero]; rfl) (fun K hK => ?_) AllReadyH.nil
      go_simp
      refine (eqW k _ _ la _ (X6.out.below hH) XZ.out hk).mono ?_
      rintro e x3 ⟨rfl, hM⟩
      refine hK.out _ _ (hH.trans (hM.mono hH.size)) (fun hH => ?_)
      clear hK K
      clear XZ
      clear hM
      refine wpAnyH_take (i := 4) (v := .bool false) (by simp only [List.getElem?_toArray, List.getElem?_cons_succ, List.getElem?_cons_zero]; rfl) (by kernel_rfl) (by kernel_rfl) (by kernel_rfl) (by intro _ _ _ h; exact h) (Or.inl ⟨by rfl, fun w hS => by go_simp⟩) hH ?_
      simp only [Act.put, List.setIfInBounds_toArray, List.set_cons_zero, List.set_cons_succ]
      refine wpAnyH_done (by kernel_rfl) ?_ _
      have hB := hH
      clear hH
      clear va0 va1 vb0 vb1 vx0 vx1 vy0 vy1
      replace HA := hid (HA.out.below hB)
      replace HB := hid (HB.out.below hB)
      replace X6 := hid (X6.out.below hB)
      replace X7 := hid (X7.out.below hB)
      replace VA := hid (var_below hB VA.out)
      replace VB := hid (var_below hB VB.out)
      replace VX := hid (var_below hB VX.out)
      replace VY := hid (var_below hB VY.out)
      replace BB := hid (BB.out.trans (hB.mono BB.out.size))
      clear hB
      generalize x3 = w9 at *
      obtain ⟨va0, va1, -, -⟩ := var2_facts VA.out
      obtain ⟨vb0, vb1, -, -⟩ := var2_facts VB.out
      obtain ⟨vx0, vx1, -, -⟩ := var2_facts VX.out
      obtain ⟨vy0, vy1, -, -⟩ := var2_facts VY.out
      go_wp2_with fail
      refine wp_region_held_drew (S := fun w' => Below w9.heap.size w9 w') (by kernel_rfl) (Below.refl _ _).drew (fun hH => ?_)
      refine wpAnyH_take (i := 0) (v := .agg #[.int .i64 k', .slice (some ⟨gX7, 0, none⟩) lb.length lb.length]) (by simp only [List.getElem?_toArray, List.getElem?_cons_zero]; rfl) (by kernel_rfl) (by kernel_rfl) (by kernel_rfl) (by intro _ _ _ h; exact h) (Or.inl ⟨by rfl, fun w hS => by (have y0 := cell_kept hS vy0; have y1 := cell_kept hS vy1; go_simp)⟩) hH ?_
      simp only [Act.put, List.setIfInBounds_toArray, List.set_cons_zero, List.set_cons_succ]
      refine wpAnyH_take (i := 1) (v := .agg #[.int .i64 k', .slice b lb.length cb]) (by simp only [List.getElem?_toArray, List.getElem?_cons_succ, List.getElem?_cons_zero]; rfl) (by kernel_rfl) (by kernel_rfl) (by kernel_rfl) (by intro _ _ _ h; exact h) (Or.inl ⟨by rfl, fun w hS => by (have y0 := cell_kept hS vb0; have y1 := cell_kept hS vb1; go_simp)⟩) hH ?_
      simp only [Act.put, List.setIfInBounds_toArray, List.set_cons_zero, List.set_cons_succ]
      refine wpAnyH_ready (rs := [2]) (by kernel_rfl) (by simp) ?_
      refine AllReadyH.cons (by simp only [List.getElem?_toArray, List.getElem?_cons_succ, List.getElem?_cons_zero]; rfl) (fun K hK => ?_) AllReadyH.nil
      go_simp
      refine (toWo k' _ lb _ (HB.out.below hH) hm).mono ?_
      rintro e x2 ⟨gZ, rfl, hF, hM⟩
      refine hK.out _ _ (hH.trans (hM.mono hH.size)) (fun hH => ?_)
      clear hK K
      have XZ := hid hF.rd
      clear hF
      clear hM
      refine wpAnyH_ready (rs := [3]) (by kernel_rfl) (by simp) ?_
      refine AllReadyH.cons (by simp only [List.getElem?_toArray, List.getElem?_cons_succ, List.getElem?_cons_zero]; rfl) (fun K hK => ?_) AllReadyH.nil
      go_simp
      refine (eqW k' _ _ lb _ (X7.out.below hH) XZ.out hm).mono ?_
      rintro e x3 ⟨rfl, hM⟩
      refine hK.out _ _ (hH.trans (hM.mono hH.size)) (fun hH => ?_)
      clear hK K
      clear XZ
      clear hM
      refine wpAnyH_take (i := 4) (v := .bool false) (by simp only [List.getElem?_toArray, List.getElem?_cons_succ, List.getElem?_cons_zero]; rfl) (by kernel_rfl) (by kernel_rfl) (by kernel_rfl) (by intro _ _ _ h; exact h) (Or.inl ⟨by rfl, fun w hS => by go_simp⟩) hH ?_
      simp only [Act.put, List.setIfInBounds_toArray, List.set_cons_zero, List.set_cons_succ]
      refine wpAnyH_done (by kernel_rfl) ?_ _
      have hB := hH
      clear hH
      clear va0 va1 vb0 vb1 vx0 vx1 vy0 vy1
      replace HA := hid (HA.out.below hB)
      replace HB := hid (HB.out.below hB)
      replace X6 := hid (X6.out.below hB)
      replace X7 := hid (X7.out.below hB)
      replace VA := hid (var_below hB VA.out)
      replace VB := hid (var_below hB VB.out)
      replace VX := hid (var_below hB VX.out)
      replace VY := hid (var_below hB VY.out)
      replace BB := hid (BB.out.trans (hB.mono BB.out.size))
      clear hB
      generalize x3 = w10 at *
      go_wp2
      go_ret
      exact ⟨rfl, BB.out⟩
end Go.Proofs.Ytmamdbmkjipaham.W
