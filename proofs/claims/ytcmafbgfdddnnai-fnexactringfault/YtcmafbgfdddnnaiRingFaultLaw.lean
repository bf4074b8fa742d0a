/-
  The exact law of RingFault, out of the contracts of its callees.
-/
import Derived.Test.YtcmafbgfdddnnaiSzR
import Derived.Test.YtcmafbgfdddnnaiToR
import Derived.Test.YtcmafbgfdddnnaiEqR
import Derived.Test.YtcmafbgfdddnnaiSrfW
import Derived.Test.YtcmafbgfdddnnaiIkrW
namespace Go.Proofs.Ytcmafbgfdddnnai.W
open Go.ChangeShapes Go.WideShapes Go.ChangeAt Go.RowKit
open Go.Proofs.Ytcmafbgfdddnnai.M

set_option maxRecDepth 100000 in
theorem irf (p : Int) (v : Value) (ks : List (Int × List Nat)) (w : World) (h : RdK w v ks) (hp : (Lit.int .i64 p).wf = true) :
    Calls Try.prog 26 #[.agg #[.int .i64 p, v]] w fun e w' => e = .returned (.int .i64 (rF p ks)) ∧ Below w.heap.size w w' := by
  have H := hid h
  obtain ⟨a, cap, rfl, -, -, -⟩ := h.parts
  clear h
  go_enter Try.func26, Try.ntmps26
  go_wp2_with fail
  first
  | refine (ikr _ _ ks _ H.out hp).mono ?_
  | refine (ikr _ _ ks _ (H.out.below (below_alloc1 w _)) hp).mono ?_
  rintro e w' ⟨r, rfl, hB⟩
  first
  | have BB := hid (show Below w.heap.size w w' from hB)
  | have BB := hid (show Below w.heap.size w w' from (below_alloc1 w _).trans (hB.mono (by simp)))
  clear hB
  obtain ⟨x, hx⟩ : ∃ x, x = rF p ks := ⟨_, rfl⟩
  rw [← hx]
  replace hx := hid hx
  go_wp2
  go_ret
  exact ⟨ret_i hx.out, BB.out⟩

set_option maxHeartbeats 4000000 in
set_option maxRecDepth 100000 in
theorem law_rf (p : Int) (va : Value) (ks : List (Int × List Nat)) (w : World) (ha : RdK w va ks) (hp : (Lit.int .i64 p).wf = true) :
    Calls Try.prog 7 #[.agg #[.int .i64 p, va]] w fun e w' => e = .returned (.bool true) ∧ Below w.heap.size w w' := by
  have HA := hid ha
  obtain ⟨a, ca, rfl, -, -, -⟩ := ha.parts
  clear ha
  go_enter Try.func7, Try.ntmps7
  go_wp2_with fail
  have VA := hid (heap_alloc_new w (.cells #[.int .i64 p, .slice a ks.length ca] 38))
  have BB := hid (below_alloc1 w (.cells #[.int .i64 p, .slice a ks.length ca] 38))
  replace HA := hid (HA.out.below BB.out)
  generalize w.alloc (.cells #[.int .i64 p, .slice a ks.length ca] 38) = w0 at *
  obtain ⟨ga, hga⟩ : ∃ g, g = w.heap.size := ⟨_, rfl⟩
  rw [← hga] at VA ⊢
  clear hga
  refine (szR _ _ ks 1048576 _ HA.out (by omega) (by omega)).mono ?_
  rintro e w1 ⟨rfl, hB⟩
  replace HA := hid (HA.out.below hB)
  replace VA := hid (var_below hB VA.out)
  replace BB := hid (BB.out.trans (hB.mono BB.out.size))
  clear hB
  by_cases h1 : (1048576 : Int) < ks.length + tot ks
  · rw [show szS 1048576 ks = -1 by rw [szS, if_pos h1]]
    go_wp2
    go_ret
    exact ⟨rfl, BB.out⟩
  · obtain ⟨l1, e1⟩ : ∃ r, r = szS 1048576 ks := ⟨_, rfl⟩
    have e1' : szS 1048576 ks = 1048576 - (ks.length + tot ks) := by rw [szS, if_neg h1]
    have g1 : 0 ≤ l1 := by rw [e1, e1']; omega
    have hk : ks.length + tot ks ≤ 1048576 := by omega
    rw [← e1]
    clear e1 e1' h1
    obtain ⟨va0, va1, -, -⟩ := var2_facts VA.out
    go_wp2_with fail
    clear va0 va1
    refine (toR p _ ks _ HA.out hk).mono ?_
    rintro e w3 ⟨gX3, L, rfl, hF, -, hB⟩
    replace HA := hid (HA.out.below hB)
    replace VA := hid (var_below hB VA.out)
    replace BB := hid (BB.out.trans (hB.mono BB.out.size))
    have X3 := hid (hF.rd (by unfold maxLen; omega))
    clear hB hF
    obtain ⟨va0, va1, -, -⟩ := var2_facts VA.out
    go_wp2_with fail
    clear va0 va1
    refine (srf p _ ks _ X3.out).mono ?_
    rintro e w5 ⟨rfl, hB⟩
    replace HA := hid (HA.out.below hB)
    replace X3 := hid (X3.out.below hB)
    replace VA := hid (var_below hB VA.out)
    replace BB := hid (BB.out.trans (hB.mono BB.out.size))
    clear hB X3
    obtain ⟨t, ht⟩ : ∃ t, t = rF p ks := ⟨_, rfl⟩
    rw [← ht]
    have HT := hid ht
    clear ht
    obtain ⟨va0, va1, -, -⟩ := var2_facts VA.out
    go_wp2_with fail
    clear va0 va1
    refine (toR p _ ks _ HA.out hk).mono ?_
    rintro e w6 ⟨gX6, L, rfl, hF, -, hB⟩
    replace HA := hid (HA.out.below hB)
    replace VA := hid (var_below hB VA.out)
    replace BB := hid (BB.out.trans (hB.mono BB.out.size))
    have X6 := hid (hF.rd (by unfold maxLen; omega))
    clear hB hF
    have VX := hid (heap_alloc_new w6 (.cells #[.int .i64 p, .slice (some ⟨gX6, 0, none⟩) ks.length ks.length] 43))
    have hB := below_alloc1 w6 (.cells #[.int .i64 p, .slice (some ⟨gX6, 0, none⟩) ks.length ks.length] 43)
    replace HA := hid (HA.out.below hB)
    replace X6 := hid (X6.out.below hB)
    replace VA := hid (var_below hB VA.out)
    replace BB := hid (BB.out.trans (hB.mono BB.out.size))
    clear hB
    obtain ⟨va0, va1, -, -⟩ := var2_facts VA.out
    obtain ⟨vx0, vx1, -, -⟩ := var2_facts VX.out
    go_wp2_with fail
    clear va0 va1 vx0 vx1
    generalize w6.alloc (.cells #[.int .i64 p, .slice (some ⟨gX6, 0, none⟩) ks.length ks.length] 43) = w6a at *
    generalize w6.heap.size = gVX at *
    refine (irf p _ ks _ X6.out hp).mono ?_
    rintro e w8 ⟨rfl, hB⟩
    replace HA := hid (HA.out.below hB)
    replace X6 := hid (X6.out.below hB)
    replace VA := hid (var_below hB VA.out)
    replace VX := hid (var_below hB VX.out)
    replace BB := hid (BB.out.trans (hB.mono BB.out.size))
    clear hB
    rw [← HT.out]
    clear HT
    have tt : (t != t) = false := by simp
    obtain ⟨va0, va1, -, -⟩ := var2_facts VA.out
    obtain ⟨vx0, vx1, -, -⟩ := var2_facts VX.out
    go_wp2_with fail
    refine wp_region_held_drew (S := fun w' => Below w8.heap.size w8 w') (by kernel_rfl) (Below.refl _ _).drew (fun hH => ?_)
    refine wpAnyH_take (i := 0) (v := .agg #[.int .i64 p, .slice (some ⟨gX6, 0, none⟩) ks.length ks.length]) (by simp only [List.getElem?_toArray, List.getElem?_cons_zero]; rfl) (by kernel_rfl) (by kernel_rfl) (by kernel_rfl) (by intro _ _ _ h; exact h) (Or.inl ⟨by rfl, fun w hS => by (have y0 := cell_kept hS vx0; have y1 := cell_kept hS vx1; go_simp)⟩) hH ?_
    simp only [Act.put, List.setIfInBounds_toArray, List.set_cons_zero, List.set_cons_succ]
    refine wpAnyH_take (i := 1) (v := .agg #[.int .i64 p, .slice a ks.length ca]) (by simp only [List.getElem?_toArray, List.getElem?_cons_succ, List.getElem?_cons_zero]; rfl) (by kernel_rfl) (by kernel_rfl) (by kernel_rfl) (by intro _ _ _ h; exact h) (Or.inl ⟨by rfl, fun w hS => by (have y0 := cell_kept hS va0; have y1 := cell_kept hS va1; go_simp)⟩) hH ?_
    simp only [Act.put, List.setIfInBounds_toArray, List.set_cons_zero, List.set_cons_succ]
    refine wpAnyH_ready (rs := [2]) (by kernel_rfl) (by simp) ?_
    refine AllReadyH.cons (by simp only [List.getElem?_toArray, List.getElem?_cons_succ, List.getElem?_cons_zero]; rfl) (fun K hK => ?_) AllReadyH.nil
    go_simp
    refine (toR p _ ks _ (HA.out.below hH) hk).mono ?_
    rintro e x2 ⟨gZ, LZ, rfl, hF, -, hM⟩
    refine hK.out _ _ (hH.trans (hM.mono hH.size)) (fun hH => ?_)
    clear hK K
    have XZ := hid (hF.rd (by unfold maxLen; omega))
    clear hF
    clear hM
    refine wpAnyH_ready (rs := [3]) (by kernel_rfl) (by simp) ?_
    refine AllReadyH.cons (by simp only [List.getElem?_toArray, List.getElem?_cons_succ, List.getElem?_cons_zero]; rfl) (fun K hK => ?_) AllReadyH.nil
    go_simp
    refine (eqR p _ _ ks _ (X6.out.below hH) XZ.out hk).mono ?_
    rintro e x3 ⟨rfl, hM⟩
    refine hK.out _ _ (hH.trans (hM.mono hH.size)) (fun hH => ?_)
    clear hK K
    clear XZ
    clear hM
    refine wpAnyH_take (i := 4) (v := .bool false) (by simp only [List.getElem?_toArray, List.getElem?_cons_succ, List.getElem?_cons_zero]; rfl) (by kernel_rfl) (by kernel_rfl) (by kernel_rfl) (by intro _ _ _ h; exact h) (Or.inl ⟨by rfl, fun w hS => by go_simp⟩) hH ?_
    simp only [Act.put, List.setIfInBounds_toArray, List.set_cons_zero, List.set_cons_succ]
    refine wpAnyH_done (by kernel_rfl) ?_ _
    have hB := hH
    clear hH
    clear va0 va1 vx0 vx1
    replace HA := hid (HA.out.below hB)
    replace X6 := hid (X6.out.below hB)
    replace VA := hid (var_below hB VA.out)
    replace VX := hid (var_below hB VX.out)
    replace BB := hid (BB.out.trans (hB.mono BB.out.size))
    clear hB
    go_wp2
    go_ret
    exact ⟨rfl, BB.out⟩
end Go.Proofs.Ytcmafbgfdddnnai.W
