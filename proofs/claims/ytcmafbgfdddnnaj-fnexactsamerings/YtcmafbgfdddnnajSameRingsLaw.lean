/-
  The exact law of SameRings, out of the contracts of its callees.
-/
import Derived.Test.YtcmafbgfdddnnajSzR
import Derived.Test.YtcmafbgfdddnnajToR
import Derived.Test.YtcmafbgfdddnnajEqR
import Derived.Test.YtcmafbgfdddnnajSsrW
import Derived.Test.YtcmafbgfdddnnajIsrW
namespace Go.Proofs.Ytcmafbgfdddnnaj.W
open Go.ChangeShapes Go.WideShapes Go.ChangeAt Go.RowKit
open Go.Proofs.Ytcmafbgfdddnnaj.M

set_option maxHeartbeats 4000000 in
set_option maxRecDepth 100000 in
theorem law_sr (p q : Int) (va vb : Value) (ks ms : List (Int × List Nat)) (w : World) (ha : RdK w va ks) (hb : RdK w vb ms) :
    Calls Try.prog 8 #[.agg #[.int .i64 p, va], .agg #[.int .i64 q, vb]] w fun e w' => e = .returned (.bool true) ∧ Below w.heap.size w w' := by
  have HA := hid ha
  have HB := hid hb
  obtain ⟨a, ca, rfl, -, -, -⟩ := ha.parts
  obtain ⟨b, cb, rfl, -, -, -⟩ := hb.parts
  clear ha hb
  go_enter Try.func8, Try.ntmps8
  go_wp2_with fail
  have VA := hid (heap_alloc2_old w (.cells #[.int .i64 p, .slice a ks.length ca] 24) (.cells #[.int .i64 q, .slice b ms.length cb] 24))
  have VB := hid (heap_alloc2_new w (.cells #[.int .i64 p, .slice a ks.length ca] 24) (.cells #[.int .i64 q, .slice b ms.length cb] 24))
  have BB := hid (below_alloc2 w (.cells #[.int .i64 p, .slice a ks.length ca] 24) (.cells #[.int .i64 q, .slice b ms.length cb] 24))
  replace HA := hid (HA.out.below BB.out)
  replace HB := hid (HB.out.below BB.out)
  generalize (w.alloc (.cells #[.int .i64 p, .slice a ks.length ca] 24)).alloc (.cells #[.int .i64 q, .slice b ms.length cb] 24) = w0 at *
  generalize w.heap.size + 1 = gb at *
  obtain ⟨ga, hga⟩ : ∃ g, g = w.heap.size := ⟨_, rfl⟩
  rw [← hga] at VA ⊢
  clear hga
  refine (szR _ _ ks 1048576 _ HA.out (by omega) (by omega)).mono ?_
  rintro e w1 ⟨rfl, hB⟩
  replace HA := hid (HA.out.below hB)
  replace HB := hid (HB.out.below hB)
  replace VA := hid (var_below hB VA.out)
  replace VB := hid (var_below hB VB.out)
  replace BB := hid (BB.out.trans (hB.mono BB.out.size))
  clear hB
  by_cases h1 : (1048576 : Int) < ks.length + tot ks
  · rw [show szS 1048576 ks = -1 by rw [szS, if_pos h1]]
    go_wp2
    go_ret
    exact ⟨rfl, BB.out⟩
  · obtain ⟨l1, e1⟩ : ∃ r, r = szS 1048576 ks := ⟨_, rfl⟩
    have e1' : szS 1048576 ks = 1048576 - (ks.length + tot ks) := by rw [szS, if_neg h1]
    have g1 : 0 ≤ l1 := by rw [e1, e1']; omega
    have g2 : l1 ≤ 1048576 := by rw [e1, e1']; omega
    rw [← e1]
    clear e1 e1'
    obtain ⟨va0, va1, -, -⟩ := var2_facts VA.out
    obtain ⟨vb0, vb1, -, -⟩ := var2_facts VB.out
    go_wp2_with fail
    clear va0 va1 vb0 vb1
    refine (szR _ _ ms l1 _ HB.out g1 g2).mono ?_
    rintro e w2 ⟨rfl, hB⟩
    replace HA := hid (HA.out.below hB)
    replace HB := hid (HB.out.below hB)
    replace VA := hid (var_below hB VA.out)
    replace VB := hid (var_below hB VB.out)
    replace BB := hid (BB.out.trans (hB.mono BB.out.size))
    clear hB
    by_cases h2 : l1 < ms.length + tot ms
    · rw [show szS l1 ms = -1 by rw [szS, if_pos h2]]
      go_wp2
      go_ret
      exact ⟨rfl, BB.out⟩
    · obtain ⟨l2, e2⟩ : ∃ r, r = szS l1 ms := ⟨_, rfl⟩
      have e2' : szS l1 ms = l1 - (ms.length + tot ms) := by rw [szS, if_neg h2]
      have g3 : 0 ≤ l2 := by rw [e2, e2']; omega
      have hk : ks.length + tot ks ≤ 1048576 := by omega
      have hm : ms.length + tot ms ≤ 1048576 := by omega
      rw [← e2]
      clear e2 e2' h1 h2
      obtain ⟨va0, va1, -, -⟩ := var2_facts VA.out
      obtain ⟨vb0, vb1, -, -⟩ := var2_facts VB.out
      go_wp2_with fail
      refine wp_region_held_drew (S := fun w' => Below w2.heap.size w2 w') (by kernel_rfl) (Below.refl _ _).drew (fun hH => ?_)
      refine wpAnyH_take (i := 0) (v := .agg #[.int .i64 p, .slice a ks.length ca]) (by simp only [List.getElem?_toArray, List.getElem?_cons_zero]; rfl) (by kernel_rfl) (by kernel_rfl) (by kernel_rfl) (by intro _ _ _ h; exact h) (Or.inl ⟨by rfl, fun w hS => by (have y0 := cell_kept hS va0; have y1 := cell_kept hS va1; go_simp)⟩) hH ?_
      simp only [Act.put, List.setIfInBounds_toArray, List.set_cons_zero, List.set_cons_succ]
      refine wpAnyH_take (i := 2) (v := .agg #[.int .i64 q, .slice b ms.length cb]) (by simp only [List.getElem?_toArray, List.getElem?_cons_succ, List.getElem?_cons_zero]; rfl) (by kernel_rfl) (by kernel_rfl) (by kernel_rfl) (by intro _ _ _ h; exact h) (Or.inl ⟨by rfl, fun w hS => by (have y0 := cell_kept hS vb0; have y1 := cell_kept hS vb1; go_simp)⟩) hH ?_
      simp only [Act.put, List.setIfInBounds_toArray, List.set_cons_zero, List.set_cons_succ]
      refine wpAnyH_ready (rs := [1]) (by kernel_rfl) (by simp) ?_
      refine AllReadyH.cons (by simp only [List.getElem?_toArray, List.getElem?_cons_succ, List.getElem?_cons_zero]; rfl) (fun K hK => ?_) AllReadyH.nil
      go_simp
      refine (toR p _ ks _ (HA.out.below hH) hk).mono ?_
      rintro e x1 ⟨gX3, L3, rfl, hF, -, hM⟩
      refine hK.out _ _ (hH.trans (hM.mono hH.size)) (fun hH => ?_)
      clear hK K
      have X3 := hid (hF.rd (by unfold maxLen; omega))
      clear hF
      clear hM
      refine wpAnyH_ready (rs := [3]) (by kernel_rfl) (by simp) ?_
      refine AllReadyH.cons (by simp only [List.getElem?_toArray, List.getElem?_cons_succ, List.getElem?_cons_zero]; rfl) (fun K hK => ?_) AllReadyH.nil
      go_simp
      refine (toR q _ ms _ (HB.out.below hH) hm).mono ?_
      rintro e x3 ⟨gX4, L4, rfl, hF, -, hM⟩
      refine hK.out _ _ (hH.trans (hM.mono hH.size)) (fun hH => ?_)
      clear hK K
      have X4 := hid (hF.rd (by unfold maxLen; omega))
      clear hF
      replace X3 := hid (X3.out.below hM)
      clear hM
      refine wpAnyH_ready (rs := [4]) (by kernel_rfl) (by simp) ?_
      refine AllReadyH.cons (by simp only [List.getElem?_toArray, List.getElem?_cons_succ, List.getElem?_cons_zero]; rfl) (fun K hK => ?_) AllReadyH.nil
      go_simp
      refine (ssr p q _ _ ks ms _ X3.out X4.out (by omega)).mono ?_
      rintro e x4 ⟨rfl, hM⟩
      refine hK.out _ _ (hH.trans (hM.mono hH.size)) (fun hH => ?_)
      clear hK K
      clear X3 X4
      clear hM
      obtain ⟨t, ht⟩ : ∃ t, t = smR p q ks ms := ⟨_, rfl⟩
      rw [← ht]
      have HT := hid ht
      clear ht
      refine wpAnyH_take (i := 5) (v := .bool t) (by simp only [List.getElem?_toArray, List.getElem?_cons_succ, List.getElem?_cons_zero]; rfl) (by kernel_rfl) (by kernel_rfl) (by kernel_rfl) (by intro _ _ _ h; exact h) (Or.inl ⟨by rfl, fun w hS => by go_simp⟩) hH ?_
      simp only [Act.put, List.setIfInBounds_toArray, List.set_cons_zero, List.set_cons_succ]
      refine wpAnyH_done (by kernel_rfl) ?_ _
      have hB := hH
      clear hH
      clear va0 va1 vb0 vb1
      replace HA := hid (HA.out.below hB)
      replace HB := hid (HB.out.below hB)
      replace VA := hid (var_below hB VA.out)
      replace VB := hid (var_below hB VB.out)
      replace BB := hid (BB.out.trans (hB.mono BB.out.size))
      clear hB
      obtain ⟨va0, va1, -, -⟩ := var2_facts VA.out
      obtain ⟨vb0, vb1, -, -⟩ := var2_facts VB.out
      go_wp2_with fail
      clear va0 va1 vb0 vb1
      refine (toR p _ ks _ HA.out hk).mono ?_
      rintro e w6 ⟨gX6, L, rfl, hF, -, hB⟩
      replace HA := hid (HA.out.below hB)
      replace HB := hid (HB.out.below hB)
      replace VA := hid (var_below hB VA.out)
      replace VB := hid (var_below hB VB.out)
      replace BB := hid (BB.out.trans (hB.mono BB.out.size))
      have X6 := hid (hF.rd (by unfold maxLen; omega))
      clear hB hF
      have VX := hid (heap_alloc_new w6 (.cells #[.int .i64 p, .slice (some ⟨gX6, 0, none⟩) ks.length ks.length] 34))
      have hB := below_alloc1 w6 (.cells #[.int .i64 p, .slice (some ⟨gX6, 0, none⟩) ks.length ks.length] 34)
      replace HA := hid (HA.out.below hB)
      replace HB := hid (HB.out.below hB)
      replace X6 := hid (X6.out.below hB)
      replace VA := hid (var_below hB VA.out)
      replace VB := hid (var_below hB VB.out)
      replace BB := hid (BB.out.trans (hB.mono BB.out.size))
      clear hB
      obtain ⟨va0, va1, -, -⟩ := var2_facts VA.out
      obtain ⟨vb0, vb1, -, -⟩ := var2_facts VB.out
      obtain ⟨vx0, vx1, -, -⟩ := var2_facts VX.out
      go_wp2_with fail
      clear va0 va1 vb0 vb1 vx0 vx1
      generalize w6.alloc (.cells #[.int .i64 p, .slice (some ⟨gX6, 0, none⟩) ks.length ks.length] 34) = w6a at *
      generalize w6.heap.size = gVX at *
      refine (toR q _ ms _ HB.out hm).mono ?_
      rintro e w7 ⟨gX7, L, rfl, hF, -, hB⟩
      replace HA := hid (HA.out.below hB)
      replace HB := hid (HB.out.below hB)
      replace X6 := hid (X6.out.below hB)
      replace VA := hid (var_below hB VA.out)
      replace VB := hid (var_below hB VB.out)
      replace VX := hid (var_below hB VX.out)
      replace BB := hid (BB.out.trans (hB.mono BB.out.size))
      have X7 := hid (hF.rd (by unfold maxLen; omega))
      clear hB hF
      have VY := hid (heap_alloc_new w7 (.cells #[.int .i64 q, .slice (some ⟨gX7, 0, none⟩) ms.length ms.length] 34))
      have hB := below_alloc1 w7 (.cells #[.int .i64 q, .slice (some ⟨gX7, 0, none⟩) ms.length ms.length] 34)
      replace HA := hid (HA.out.below hB)
      replace HB := hid (HB.out.below hB)
      replace X6 := hid (X6.out.below hB)
      replace X7 := hid (X7.out.below hB)
      replace VA := hid (var_below hB VA.out)
      replace VB := hid (var_below hB VB.out)
      replace VX := hid (var_below hB VX.out)
      replace BB := hid (BB.out.trans (hB.mono BB.out.size))
      clear hB
      obtain ⟨va0, va1, -, -⟩ := var2_facts VA.out
      obtain ⟨vb0, vb1, -, -⟩ := var2_facts VB.out
      obtain ⟨vx0, vx1, -, -⟩ := var2_facts VX.out
      obtain ⟨vy0, vy1, -, -⟩ := var2_facts VY.out
      go_wp2_with fail
      clear va0 va1 vb0 vb1 vx0 vx1 vy0 vy1
      generalize w7.alloc (.cells #[.int .i64 q, .slice (some ⟨gX7, 0, none⟩) ms.length ms.length] 34) = w7a at *
      generalize w7.heap.size = gVY at *
      refine (isr p q _ _ ks ms _ X6.out X7.out (by omega)).mono ?_
      rintro e w8 ⟨rfl, hB⟩
      replace HA := hid (HA.out.below hB)
      replace HB := hid (HB.out.below hB)
      replace X6 := hid (X6.out.below hB)
      replace X7 := hid (X7.out.below hB)
      replace VA := hid (var_below hB VA.out)
      replace VB := hid (var_below hB VB.out)
      replace VX := hid (var_below hB VX.out)
      replace VY := hid (var_below hB VY.out)
      replace BB := hid (BB.out.trans (hB.mono BB.out.size))
      clear hB
      rw [← HT.out]
      clear HT
      have tt : (t != t) = false := by simp
      obtain ⟨va0, va1, -, -⟩ := var2_facts VA.out
      obtain ⟨vb0, vb1, -, -⟩ := var2_facts VB.out
      obtain ⟨vx0, vx1, -, -⟩ := var2_facts VX.out
      obtain ⟨vy0, vy1, -, -⟩ := var2_facts VY.out
      go_wp2_with fail
      refine wp_region_held_drew (S := fun w' => Below w8.heap.size w8 w') (by kernel_rfl) (Below.refl _ _).drew (fun hH => ?_)
      refine wpAnyH_take (i := 0) (v := .agg #[.int .i64 p, .slice (some ⟨gX6, 0, none⟩) ks.length ks.length]) (by simp only [List.getElem?_toArray, List.getElem?_cons_zero]; rfl) (by kernel_rfl) (by kernel_rfl) (by kernel_rfl) (by intro _ _ _ h; exact h) (Or.inl ⟨by rfl, fun w hS => by (have y0 := cell_kept hS vx0; have y1 := cell_kept hS vx1; go_simp)⟩) hH ?_
      simp only [Act.put, List.setIfInBounds_toArray, List.set_cons_zero, List.set_cons_succ]
      refine wpAnyH_take (i := 1) (v := .agg #[.int .i64 p, .slice a ks.length ca]) (by simp only [List.getElem?_toArray, List.getElem?_cons_succ, List.getElem?_cons_zero]; rfl) (by kernel_rfl) (by kernel_rfl) (by kernel_rfl) (by intro _ _ _ h; exact h) (Or.inl ⟨by rfl, fun w hS => by (have y0 := cell_kept hS va0; have y1 := cell_kept hS va1; go_simp)⟩) hH ?_
      simp only [Act.put, List.setIfInBounds_toArray, List.set_cons_zero, List.set_cons_succ]
      refine wpAnyH_ready (rs := [2]) (by kernel_rfl) (by simp) ?_
      refine AllReadyH.cons (by simp only [List.getElem?_toArray, List.getElem?_cons_succ, List.getElem?_cons_zero]; rfl) (fun K hK => ?_) AllReadyH.nil
      go_simp
      refine (toR p _ ks _ (HA.out.below hH) hk).mono ?_
      rintro e x2 ⟨gZ, LZ, rfl, hF, -, hM⟩
      refine hK.out _ _ (hH.trans (hM.mono hH.size)) (fun hH => ?_)
      clear hK K
      have XZ := hid (hF.rd (by unfold maxLen; omega))
      clear hF
      clear hM
      refine wpAnyH_ready (rs := [3]) (by kernel_rfl) (by simp) ?_
      refine AllReadyH.cons (by simp only [List.getElem?_toArray, List.getElem?_cons_succ, List.getElem?_cons_zero]; rfl) (fun K hK => ?_) AllReadyH.nil
      go_simp
      refine (eqR p _ _ ks _ (X6.out.below hH) XZ.out hk).mono ?_
      rintro e x3 ⟨rfl, hM⟩
      refine hK.out _ _ (hH.trans (hM.mono hH.size)) (fun hH => ?_)
      clear hK K
      clear XZ
      clear hM
      refine wpAnyH_take (i := 4) (v := .bool false) (by simp only [List.getElem?_toArray, List.getElem?_cons_succ, List.getElem?_cons_zero]; rfl) (by kernel_rfl) (by kernel_rfl) (by kernel_rfl) (by intro _ _ _ h; exact h) (Or.inl ⟨by rfl, fun w hS => by go_simp⟩) hH ?_
      simp only [Act.put, List.setIfInBounds_toArray, List.set_cons_zero, List.set_cons_succ]
      refine wpAnyH_done (by kernel_rfl) ?_ _
      have hB := hH
      clear hH
      clear va0 va1 vb0 vb1 vx0 vx1 vy0 vy1
      replace HA := hid (HA.out.below hB)
      replace HB := hid (HB.out.below hB)
      replace X6 := hid (X6.out.below hB)
      replace X7 := hid (X7.out.below hB)
      replace VA := hid (var_below hB VA.out)
      replace VB := hid (var_below hB VB.out)
      replace VX := hid (var_below hB VX.out)
      replace VY := hid (var_below hB VY.out)
      replace BB := hid (BB.out.trans (hB.mono BB.out.size))
      clear hB
      generalize x3 = w9 at *
      obtain ⟨va0, va1, -, -⟩ := var2_facts VA.out
      obtain ⟨vb0, vb1, -, -⟩ := var2_facts VB.out
      obtain ⟨vx0, vx1, -, -⟩ := var2_facts VX.out
      obtain ⟨vy0, vy1, -, -⟩ := var2_facts VY.out
      go_wp2_with fail
      refine wp_region_held_drew (S := fun w' => Below w9.heap.size w9 w') (by kernel_rfl) (Below.refl _ _).drew (fun hH => ?_)
      refine wpAnyH_take (i := 0) (v := .agg #[.int .i64 q, .slice (some ⟨gX7, 0, none⟩) ms.length ms.length]) (by simp only [List.getElem?_toArray, List.getElem?_cons_zero]; rfl) (by kernel_rfl) (by kernel_rfl) (by kernel_rfl) (by intro _ _ _ h; exact h) (Or.inl ⟨by rfl, fun w hS => by (have y0 := cell_kept hS vy0; have y1 := cell_kept hS vy1; go_simp)⟩) hH ?_
      simp only [Act.put, List.setIfInBounds_toArray, List.set_cons_zero, List.set_cons_succ]
      refine wpAnyH_take (i := 1) (v := .agg #[.int .i64 q, .slice b ms.length cb]) (by simp only [List.getElem?_toArray, List.getElem?_cons_succ, List.getElem?_cons_zero]; rfl) (by kernel_rfl) (by kernel_rfl) (by kernel_rfl) (by intro _ _ _ h; exact h) (Or.inl ⟨by rfl, fun w hS => by (have y0 := cell_kept hS vb0; have y1 := cell_kept hS vb1; go_simp)⟩) hH ?_
      simp only [Act.put, List.setIfInBounds_toArray, List.set_cons_zero, List.set_cons_succ]
      refine wpAnyH_ready (rs := [2]) (by kernel_rfl) (by simp) ?_
      refine AllReadyH.cons (by simp only [List.getElem?_toArray, List.getElem?_cons_succ, List.getElem?_cons_zero]; rfl) (fun K hK => ?_) AllReadyH.nil
      go_simp
      refine (toR q _ ms _ (HB.out.below hH) hm).mono ?_
      rintro e x2 ⟨gZ, LZ, rfl, hF, -, hM⟩
      refine hK.out _ _ (hH.trans (hM.mono hH.size)) (fun hH => ?_)
      clear hK K
      have XZ := hid (hF.rd (by unfold maxLen; omega))
      clear hF
      clear hM
      refine wpAnyH_ready (rs := [3]) (by kernel_rfl) (by simp) ?_
      refine AllReadyH.cons (by simp only [List.getElem?_toArray, List.getElem?_cons_succ, List.getElem?_cons_zero]; rfl) (fun K hK => ?_) AllReadyH.nil
      go_simp
      refine (eqR q _ _ ms _ (X7.out.below hH) XZ.out hm).mono ?_
      rintro e x3 ⟨rfl, hM⟩
      refine hK.out _ _ (hH.trans (hM.mono hH.size)) (fun hH => ?_)
      clear hK K
      clear XZ
      clear hM
      refine wpAnyH_take (i := 4) (v := .bool false) (by simp only [List.getElem?_toArray, List.getElem?_cons_succ, List.getElem?_cons_zero]; rfl) (by kernel_rfl) (by kernel_rfl) (by kernel_rfl) (by intro _ _ _ h; exact h) (Or.inl ⟨by rfl, fun w hS => by go_simp⟩) hH ?_
      simp only [Act.put, List.setIfInBounds_toArray, List.set_cons_zero, List.set_cons_succ]
      refine wpAnyH_done (by kernel_rfl) ?_ _
      have hB := hH
      clear hH
      clear va0 va1 vb0 vb1 vx0 vx1 vy0 vy1
      replace HA := hid (HA.out.below hB)
      replace HB := hid (HB.out.below hB)
      replace X6 := hid (X6.out.below hB)
      replace X7 := hid (X7.out.below hB)
      replace VA := hid (var_below hB VA.out)
      replace VB := hid (var_below hB VB.out)
      replace VX := hid (var_below hB VX.out)
      replace VY := hid (var_below hB VY.out)
      replace BB := hid (BB.out.trans (hB.mono BB.out.size))
      clear hB
      generalize x3 = w10 at *
      go_wp2
      go_ret
      exact ⟨rfl, BB.out⟩
end Go.Proofs.Ytcmafbgfdddnnaj.W
