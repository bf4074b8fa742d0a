/-
  The exact law of IsNews, out of the contracts of its callees.
-/
import Derived.Test.YtmamdbmkjipahalWinW
namespace Go.Proofs.Ytmamdbmkjipahal.W
open Go.ChangeShapes Go.WideShapes Go.ChangeAt Go.RowKit
open Go.Proofs.Ytmamdbmkjipahal.M

set_option maxHeartbeats 4000000 in
set_option maxRecDepth 100000 in
theorem law_IsNews (k n : Int) (t : Bool) (va : Value) (l : List Int) (w : World) (ha : RdZ w va l)
    (SP : Hid (∀ (w : World) (v : Value), l.length ≤ 1048576 → RdZ w v l → Calls Try.prog 28 #[.agg #[.int .i64 k, v], .int .i64 n] w fun e w' => e = .returned (.bool t) ∧ Below w.heap.size w w'))
    (IP : Hid (∀ (w : World) (v : Value), l.length ≤ 1048576 → RdZ w v l → Calls Try.prog 29 #[.agg #[.int .i64 k, v], .int .i64 n] w fun e w' => e = .returned (.bool t) ∧ Below w.heap.size w w')) :
    Calls Try.prog 7 #[.agg #[.int .i64 k, va], .int .i64 n] w fun e w' => e = .returned (.bool true) ∧ Below w.heap.size w w' := by
  have HA := hid ha
  obtain ⟨a, ca, rfl, hlc, hcm, -⟩ := ha.parts
  have LM := hid (Nat.le_trans hlc hcm)
  clear ha hlc hcm
  go_enter Try.func7, Try.ntmps7
  go_wp2_with fail
  have VA := hid (heap_alloc_new w (.cells #[.int .i64 k, .slice a l.length ca] 32))
  have BB := hid (below_alloc1 w (.cells #[.int .i64 k, .slice a l.length ca] 32))
  replace HA := hid (HA.out.below BB.out)
  generalize w.alloc (.cells #[.int .i64 k, .slice a l.length ca] 32) = w0 at *
  obtain ⟨ga, hga⟩ : ∃ g, g = w.heap.size := ⟨_, rfl⟩
  rw [← hga] at VA ⊢
  clear hga
  refine (szW _ _ _ _ 1048576 _ (by omega) (by omega) LM.out).mono ?_
  rintro e w1 ⟨rfl, hB⟩
  replace HA := hid (HA.out.below hB)
  replace VA := hid (var_below hB VA.out)
  replace BB := hid (BB.out.trans (hB.mono BB.out.size))
  clear hB
  by_cases h1 : (1048576 : Int) - l.length < 0
  · rw [show szZn 1048576 l.length = -1 by rw [szZn, if_pos h1]]
    go_wp2
    go_ret
    exact ⟨rfl, BB.out⟩
  · obtain ⟨l1, e1⟩ : ∃ r, r = szZn 1048576 l.length := ⟨_, rfl⟩
    have e1' : szZn 1048576 l.length = 1048576 - l.length := by rw [szZn, if_neg h1]
    have g1 : 0 ≤ l1 := by rw [e1, e1']; omega
    have hk : l.length ≤ 1048576 := by omega
    rw [← e1]
    clear e1 e1' h1
    obtain ⟨va0, va1, -, -⟩ := var2_facts VA.out
    go_wp2_with fail
    clear va0 va1
    refine (toWo k _ l _ HA.out hk).mono ?_
    rintro e w3 ⟨gX3, rfl, hF, hB⟩
    replace HA := hid (HA.out.below hB)
    replace VA := hid (var_below hB VA.out)
    replace BB := hid (BB.out.trans (hB.mono BB.out.size))
    have X3 := hid hF.rd
    clear hB hF
    obtain ⟨va0, va1, -, -⟩ := var2_facts VA.out
    go_wp2_with fail
    clear va0 va1
    refine (SP.out _ _ hk X3.out).mono ?_
    rintro e w5 ⟨rfl, hB⟩
    replace HA := hid (HA.out.below hB)
    replace X3 := hid (X3.out.below hB)
    replace VA := hid (var_below hB VA.out)
    replace BB := hid (BB.out.trans (hB.mono BB.out.size))
    clear hB X3
    obtain ⟨va0, va1, -, -⟩ := var2_facts VA.out
    go_wp2_with fail
    clear va0 va1
    refine (toWo k _ l _ HA.out hk).mono ?_
    rintro e w6 ⟨gX6, rfl, hF, hB⟩
    replace HA := hid (HA.out.below hB)
    replace VA := hid (var_below hB VA.out)
    replace BB := hid (BB.out.trans (hB.mono BB.out.size))
    have X6 := hid hF.rd
    clear hB hF
    have VX := hid (heap_alloc_new w6 (.cells #[.int .i64 k, .slice (some ⟨gX6, 0, none⟩) l.length l.length] 35))
    have hB := below_alloc1 w6 (.cells #[.int .i64 k, .slice (some ⟨gX6, 0, none⟩) l.length l.length] 35)
    replace HA := hid (HA.out.below hB)
    replace X6 := hid (X6.out.below hB)
    replace VA := hid (var_below hB VA.out)
    replace BB := hid (BB.out.trans (hB.mono BB.out.size))
    clear hB
    obtain ⟨va0, va1, -, -⟩ := var2_facts VA.out
    obtain ⟨vx0, vx1, -, -⟩ := var2_facts VX.out
    go_wp2_with fail
    clear va0 va1 vx0 vx1
    generalize w6.alloc (.cells #[.int .i64 k, .slice (some ⟨gX6, 0, none⟩) l.length l.length] 35) = w6a at *
    generalize w6.heap.size = gVX at *
    refine (IP.out _ _ hk X6.out).mono ?_
    rintro e w8 ⟨rfl, hB⟩
    replace HA := hid (HA.out.below hB)
    replace X6 := hid (X6.out.below hB)
    replace VA := hid (var_below hB VA.out)
    replace VX := hid (var_below hB VX.out)
    replace BB := hid (BB.out.trans (hB.mono BB.out.size))
    clear hB
    have tt : (t != t) = false := by simp
    obtain ⟨va0, va1, -, -⟩ := var2_facts VA.out
    obtain ⟨vx0, vx1, -, -⟩ := var2_facts VX.out
    go_wp2_with fail
    refine wp_region_held_drew (S := fun w' => Below w8.heap.size w8 w') (by kernel_rfl) (Below.refl _ _).drew (fun hH => ?_)
    refine wpAnyH_take (i := 0) (v := .agg #[.int .i64 k, .slice (some ⟨gX6, 0, none⟩) l.length l.length]) (by simp only [List.getElem?_toArray, List.getElem?_cons_zero]; rfl) (by kernel_rfl) (by kernel_rfl) (by kernel_rfl) (by intro _ _ _ h; exact h) (Or.inl ⟨by rfl, fun w hS => by (have y0 := cell_kept hS vx0; have y1 := cell_kept hS vx1; go_simp)⟩) hH ?_
    simp only [Act.put, List.setIfInBounds_toArray, List.set_cons_zero, List.set_cons_succ]
    refine wpAnyH_take (i := 1) (v := .agg #[.int .i64 k, .slice a l.length ca]) (by simp only [List.getElem?_toArray, List.getElem?_cons_succ, List.getElem?_cons_zero]; rfl) (by kernel_rfl) (by kernel_rfl) (by kernel_rfl) (by intro _ _ _ h; exact h) (Or.inl ⟨by rfl, fun w hS => by (have y0 := cell_kept hS va0; have y1 := cell_kept hS va1; go_simp)⟩) hH ?_
    simp only [Act.put, List.setIfInBounds_toArray, List.set_cons_zero, List.set_cons_succ]
    refine wpAnyH_ready (rs := [2]) (by kernel_rfl) (by simp) ?_
    refine AllReadyH.cons (by simp only [List.getElem?_toArray, List.getElem?_cons_succ, List.getElem?_cons_zero]; rfl) (fun K hK => ?_) AllReadyH.nil
    go_simp
    refine (toWo k _ l _ (HA.out.below hH) hk).mono ?_
    rintro e x2 ⟨gZ, rfl, hF, hM⟩
    refine hK.out _ _ (hH.trans (hM.mono hH.size)) (fun hH => ?_)
    clear hK K
    have XZ := hid hF.rd
    clear hF
    clear hM
    refine wpAnyH_ready (rs := [3]) (by kernel_rfl) (by simp) ?_
    refine AllReadyH.cons (by simp only [List.getElem?_toArray, List.getElem?_cons_succ, List.getElem?_cons_zero]; rfl) (fun K hK => ?_) AllReadyH.nil
    go_simp
    refine (eqW k _ _ l _ (X6.out.below hH) XZ.out hk).mono ?_
    rintro e x3 ⟨rfl, hM⟩
    refine hK.out _ _ (hH.trans (hM.mono hH.size)) (fun hH => ?_)
    clear hK K
    clear XZ
    clear hM
    refine wpAnyH_take (i := 4) (v := .bool false) (by simp only [List.getElem?_toArray, List.getElem?_cons_succ, List.getElem?_cons_zero]; rfl) (by kernel_rfl) (by kernel_rfl) (by kernel_rfl) (by intro _ _ _ h; exact h) (Or.inl ⟨by rfl, fun w hS => by go_simp⟩) hH ?_
    simp only [Act.put, List.setIfInBounds_toArray, List.set_cons_zero, List.set_cons_succ]
    refine wpAnyH_done (by kernel_rfl) ?_ _
    have hB := hH
    clear hH
    clear va0 va1 vx0 vx1
    replace HA := hid (HA.out.below hB)
    replace X6 := hid (X6.out.below hB)
    replace VA := hid (var_below hB VA.out)
    replace VX := hid (var_below hB VX.out)
    replace BB := hid (BB.out.trans (hB.mono BB.out.size))
    clear hB
    go_wp2
    go_ret
    exact ⟨rfl, BB.out⟩
end Go.Proofs.Ytmamdbmkjipahal.W
