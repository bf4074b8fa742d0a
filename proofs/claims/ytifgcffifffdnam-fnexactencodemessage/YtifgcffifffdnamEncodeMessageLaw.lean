/-
  The exact law of EncodeMessage, out of the contracts of its callees.
-/
import Derived.Test.YtifgcffifffdnamMgL
import Derived.Test.YtifgcffifffdnamBytX
import Derived.Test.YtifgcffifffdnamEncmW
namespace Go.Proofs.Ytifgcffifffdnam.W
open Go.ChangeShapes Go.WideShapes Go.ChangeAt Go.RowKit
open Go.Proofs.Ytifgcffifffdnam.M

set_option maxHeartbeats 4000000 in
set_option maxRecDepth 100000 in
theorem law_EncodeMessage (pa0 pb0 pc0 pd0 pe0 pf0 pg0 ph0 pi0 c : Int) (l0 : List Nat) (l : List Nat) (a0 : Value) (w : World) (hl : l.length ≤ 1048576)
    (h0 : Rd w a0 l0)
    (SP : Hid (∀ (w : World) (v0 : Value), Rd w v0 l0 → Calls Try.prog 22 #[.agg #[.int .i64 pa0, .int .i64 pb0, .int .i64 pc0, .int .i64 pd0, .int .i64 pe0, .int .i64 pf0, .int .i64 pg0, .int .i64 ph0, .int .i64 pi0, v0]] w fun e w' => ∃ v, e = .returned (.agg #[.int .i64 c, v]) ∧ Rd w' v l ∧ Below w.heap.size w w'))
    (IP : Hid (∀ (w : World) (v0 : Value), Rd w v0 l0 → Calls Try.prog 23 #[.agg #[.int .i64 pa0, .int .i64 pb0, .int .i64 pc0, .int .i64 pd0, .int .i64 pe0, .int .i64 pf0, .int .i64 pg0, .int .i64 ph0, .int .i64 pi0, v0]] w fun e w' => ∃ v, e = .returned (.agg #[.int .i64 c, v]) ∧ OB w' w.heap.size w'.heap.size v l ∧ Below w.heap.size w w')) :
    Calls Try.prog 6 #[.agg #[.int .i64 pa0, .int .i64 pb0, .int .i64 pc0, .int .i64 pd0, .int .i64 pe0, .int .i64 pf0, .int .i64 pg0, .int .i64 ph0, .int .i64 pi0, a0]] w fun e w' => e = .returned (.bool true) ∧ Below w.heap.size w w' := by
  have HA0 := hid h0
  obtain ⟨b0, cap0, rfl, hlc, hcm, -⟩ := h0.parts
  have LM0 := hid (Nat.le_trans hlc hcm)
  clear h0 hlc hcm
  have BB := hid (Below.refl w.heap.size w)
  go_enter Try.func6, Try.ntmps6
  go_wp2_with fail
  have VA0 := hid (heap_alloc_new w (.cells #[.int .i64 pa0, .int .i64 pb0, .int .i64 pc0, .int .i64 pd0, .int .i64 pe0, .int .i64 pf0, .int .i64 pg0, .int .i64 ph0, .int .i64 pi0, .slice b0 l0.length cap0] 40))
  have hA := below_alloc1 w (.cells #[.int .i64 pa0, .int .i64 pb0, .int .i64 pc0, .int .i64 pd0, .int .i64 pe0, .int .i64 pf0, .int .i64 pg0, .int .i64 ph0, .int .i64 pi0, .slice b0 l0.length cap0] 40)
  replace BB := hid hA
  clear hA
  have Z1 := hid (show w.heap.size + 1 ≤ (w.alloc (.cells #[.int .i64 pa0, .int .i64 pb0, .int .i64 pc0, .int .i64 pd0, .int .i64 pe0, .int .i64 pf0, .int .i64 pg0, .int .i64 ph0, .int .i64 pi0, .slice b0 l0.length cap0] 40)).heap.size by simp)
  generalize w.alloc (.cells #[.int .i64 pa0, .int .i64 pb0, .int .i64 pc0, .int .i64 pd0, .int .i64 pe0, .int .i64 pf0, .int .i64 pg0, .int .i64 ph0, .int .i64 pi0, .slice b0 l0.length cap0] 40) = w0 at *
  refine (szMg _ _ _ _ _ _ _ _ _ _ _ _ 1048576 _ (by omega) (by omega) LM0.out).mono ?_
  rintro e w1 ⟨rfl, hB⟩
  replace VA0 := hid (var_below hB VA0.out)
  replace BB := hid (BB.out.trans (hB.mono BB.out.size))
  have Z2 := hid (hB.size)
  clear hB
  by_cases hz0 : (1048576 : Int) - l0.length < 0
  · rw [show szN 1048576 l0.length = -1 by rw [szN, if_pos hz0]]
    go_wp2
    go_ret
    exact ⟨rfl, BB.out⟩
  obtain ⟨lft0, e1⟩ : ∃ r, r = szN 1048576 l0.length := ⟨_, rfl⟩
  have e1' : szN 1048576 l0.length = 1048576 - l0.length := by rw [szN, if_neg hz0]
  have g0 : 0 ≤ lft0 := by rw [e1, e1']; omega
  have f0 : lft0 ≤ 1048576 := by rw [e1, e1']; omega
  have hk0 : l0.length ≤ 1048576 := by omega
  rw [← e1]
  clear e1 e1'
  clear hz0
  obtain ⟨⟨va0_0, va0_1, va0_2, va0_3, va0_4, va0_5, va0_6, va0_7, va0_8, va0_9⟩, -⟩ := v10_facts VA0.out
  go_wp2_with fail
  clear va0_0 va0_1 va0_2 va0_3 va0_4 va0_5 va0_6 va0_7 va0_8 va0_9
  refine (toM pa0 pb0 pc0 pd0 pe0 pf0 pg0 ph0 pi0 _ l0 _ (HA0.out.below BB.out) hk0).mono ?_
  rintro e w2 ⟨gT0, rfl, hF, hB⟩
  have T0 := hid hF.rd
  clear hF
  replace VA0 := hid (var_below hB VA0.out)
  replace BB := hid (BB.out.trans (hB.mono BB.out.size))
  have Z3 := hid (hB.size)
  clear hB
  obtain ⟨⟨va0_0, va0_1, va0_2, va0_3, va0_4, va0_5, va0_6, va0_7, va0_8, va0_9⟩, -⟩ := v10_facts VA0.out
  go_wp2_with fail
  clear va0_0 va0_1 va0_2 va0_3 va0_4 va0_5 va0_6 va0_7 va0_8 va0_9
  refine (SP.out _ _ T0.out).mono ?_
  rintro e w3 ⟨v, rfl, hR, hB⟩
  obtain ⟨pv, kv, rfl, -, -, -⟩ := hR.parts
  have RW := hid hR
  clear hR
  replace VA0 := hid (var_below hB VA0.out)
  replace BB := hid (BB.out.trans (hB.mono BB.out.size))
  have Z4 := hid (hB.size)
  clear hB
  clear T0
  have BW := hid (Below.refl w3.heap.size w3)
  obtain ⟨pW, kW, hpk⟩ : ∃ a b, a = pv ∧ b = kv := ⟨_, _, rfl, rfl⟩
  obtain ⟨rfl, rfl⟩ := hpk
  have VW := hid (heap_alloc_new w3 (.cells #[.int .i64 c, .slice pW l.length kW] 50))
  have hA := below_alloc1 w3 (.cells #[.int .i64 c, .slice pW l.length kW] 50)
  replace VA0 := hid (var_below hA VA0.out)
  replace BB := hid (BB.out.trans (hA.mono BB.out.size))
  replace BW := hid (BW.out.trans (hA.mono BW.out.size))
  have Z5 := hid (show w3.heap.size < (w3.alloc (.cells #[.int .i64 c, .slice pW l.length kW] 50)).heap.size by simp)
  clear hA
  obtain ⟨⟨va0_0, va0_1, va0_2, va0_3, va0_4, va0_5, va0_6, va0_7, va0_8, va0_9⟩, -⟩ := v10_facts VA0.out
  obtain ⟨vw_0, vw_1, -, -⟩ := var2_facts VW.out
  go_wp2_with fail
  clear va0_0 va0_1 va0_2 va0_3 va0_4 va0_5 va0_6 va0_7 va0_8 va0_9 vw_0 vw_1
  generalize w3.alloc (.cells #[.int .i64 c, .slice pW l.length kW] 50) = w3a at *
  refine (toM pa0 pb0 pc0 pd0 pe0 pf0 pg0 ph0 pi0 _ l0 _ (HA0.out.below BB.out) hk0).mono ?_
  rintro e w4 ⟨gX0, rfl, hF, hB⟩
  have X0 := hid hF
  clear hF
  replace VA0 := hid (var_below hB VA0.out)
  replace VW := hid (var_below hB VW.out)
  replace BB := hid (BB.out.trans (hB.mono BB.out.size))
  replace BW := hid (BW.out.trans (hB.mono BW.out.size))
  have Z6 := hid (hB.size)
  clear hB
  have VX0 := hid (heap_alloc_new w4 (.cells #[.int .i64 pa0, .int .i64 pb0, .int .i64 pc0, .int .i64 pd0, .int .i64 pe0, .int .i64 pf0, .int .i64 pg0, .int .i64 ph0, .int .i64 pi0, .slice (some ⟨gX0, 0, none⟩) l0.length l0.length] 45))
  have hA := below_alloc1 w4 (.cells #[.int .i64 pa0, .int .i64 pb0, .int .i64 pc0, .int .i64 pd0, .int .i64 pe0, .int .i64 pf0, .int .i64 pg0, .int .i64 ph0, .int .i64 pi0, .slice (some ⟨gX0, 0, none⟩) l0.length l0.length] 45)
  replace VA0 := hid (var_below hA VA0.out)
  replace VW := hid (var_below hA VW.out)
  replace X0 := hid (X0.out.below hA)
  replace BB := hid (BB.out.trans (hA.mono BB.out.size))
  replace BW := hid (BW.out.trans (hA.mono BW.out.size))
  have Z7 := hid (show w4.heap.size < (w4.alloc (.cells #[.int .i64 pa0, .int .i64 pb0, .int .i64 pc0, .int .i64 pd0, .int .i64 pe0, .int .i64 pf0, .int .i64 pg0, .int .i64 ph0, .int .i64 pi0, .slice (some ⟨gX0, 0, none⟩) l0.length l0.length] 45)).heap.size by simp)
  clear hA
  obtain ⟨⟨va0_0, va0_1, va0_2, va0_3, va0_4, va0_5, va0_6, va0_7, va0_8, va0_9⟩, -⟩ := v10_facts VA0.out
  obtain ⟨vw_0, vw_1, -, -⟩ := var2_facts VW.out
  obtain ⟨⟨vx0_0, vx0_1, vx0_2, vx0_3, vx0_4, vx0_5, vx0_6, vx0_7, vx0_8, vx0_9⟩, -⟩ := v10_facts VX0.out
  go_wp2_with fail
  clear va0_0 va0_1 va0_2 va0_3 va0_4 va0_5 va0_6 va0_7 va0_8 va0_9 vw_0 vw_1 vx0_0 vx0_1 vx0_2 vx0_3 vx0_4 vx0_5 vx0_6 vx0_7 vx0_8 vx0_9
  generalize w4.alloc (.cells #[.int .i64 pa0, .int .i64 pb0, .int .i64 pc0, .int .i64 pd0, .int .i64 pe0, .int .i64 pf0, .int .i64 pg0, .int .i64 ph0, .int .i64 pi0, .slice (some ⟨gX0, 0, none⟩) l0.length l0.length] 45) = w4a at *
  refine (IP.out _ _ X0.out.rd).mono ?_
  rintro e w5 ⟨v, rfl, hF, hB⟩
  obtain ⟨pG, kG, rfl, -, -, -⟩ := hF.rd.parts
  have OG := hid hF
  clear hF
  replace VA0 := hid (var_below hB VA0.out)
  replace VW := hid (var_below hB VW.out)
  replace VX0 := hid (var_below hB VX0.out)
  replace X0 := hid (X0.out.below hB)
  replace BB := hid (BB.out.trans (hB.mono BB.out.size))
  replace BW := hid (BW.out.trans (hB.mono BW.out.size))
  have Z8 := hid (hB.size)
  clear hB
  have VG := hid (heap_alloc_new w5 (.cells #[.int .i64 c, .slice pG l.length kG] 50))
  have hA := below_alloc1 w5 (.cells #[.int .i64 c, .slice pG l.length kG] 50)
  replace VA0 := hid (var_below hA VA0.out)
  replace VW := hid (var_below hA VW.out)
  replace VX0 := hid (var_below hA VX0.out)
  replace X0 := hid (X0.out.below hA)
  replace OG := hid (OG.out.below hA)
  replace BB := hid (BB.out.trans (hA.mono BB.out.size))
  replace BW := hid (BW.out.trans (hA.mono BW.out.size))
  have Z9 := hid (show w5.heap.size < (w5.alloc (.cells #[.int .i64 c, .slice pG l.length kG] 50)).heap.size by simp)
  clear hA
  obtain ⟨⟨va0_0, va0_1, va0_2, va0_3, va0_4, va0_5, va0_6, va0_7, va0_8, va0_9⟩, -⟩ := v10_facts VA0.out
  obtain ⟨vw_0, vw_1, -, -⟩ := var2_facts VW.out
  obtain ⟨⟨vx0_0, vx0_1, vx0_2, vx0_3, vx0_4, vx0_5, vx0_6, vx0_7, vx0_8, vx0_9⟩, -⟩ := v10_facts VX0.out
  obtain ⟨vg_0, vg_1, -, -⟩ := var2_facts VG.out
  go_wp2_with fail
  clear va0_0 va0_1 va0_2 va0_3 va0_4 va0_5 va0_6 va0_7 va0_8 va0_9 vw_0 vw_1 vx0_0 vx0_1 vx0_2 vx0_3 vx0_4 vx0_5 vx0_6 vx0_7 vx0_8 vx0_9 vg_0 vg_1
  generalize w5.alloc (.cells #[.int .i64 c, .slice pG l.length kG] 50) = w5a at *
  refine (eqBR c _ _ l _ OG.out.rd (RW.out.below BW.out) hl).mono ?_
  rintro e w6 ⟨rfl, hB⟩
  replace VA0 := hid (var_below hB VA0.out)
  replace VW := hid (var_below hB VW.out)
  replace VX0 := hid (var_below hB VX0.out)
  replace VG := hid (var_below hB VG.out)
  replace X0 := hid (X0.out.below hB)
  replace OG := hid (OG.out.below hB)
  replace BB := hid (BB.out.trans (hB.mono BB.out.size))
  replace BW := hid (BW.out.trans (hB.mono BW.out.size))
  have Z10 := hid (hB.size)
  clear hB
  obtain ⟨⟨va0_0, va0_1, va0_2, va0_3, va0_4, va0_5, va0_6, va0_7, va0_8, va0_9⟩, -⟩ := v10_facts VA0.out
  obtain ⟨vw_0, vw_1, -, -⟩ := var2_facts VW.out
  obtain ⟨⟨vx0_0, vx0_1, vx0_2, vx0_3, vx0_4, vx0_5, vx0_6, vx0_7, vx0_8, vx0_9⟩, -⟩ := v10_facts VX0.out
  obtain ⟨vg_0, vg_1, -, -⟩ := var2_facts VG.out
  go_wp2_with fail
  refine wp_region_held_drew (S := fun w' => Below w6.heap.size w6 w') (by kernel_rfl) (Below.refl _ _).drew (fun hH => ?_)
  refine wpAnyH_take (i := 0) (v := .agg #[.int .i64 pa0, .int .i64 pb0, .int .i64 pc0, .int .i64 pd0, .int .i64 pe0, .int .i64 pf0, .int .i64 pg0, .int .i64 ph0, .int .i64 pi0, .slice (some ⟨gX0, 0, none⟩) l0.length l0.length]) (by simp only [List.getElem?_toArray, List.getElem?_cons_zero]; rfl) (by kernel_rfl) (by kernel_rfl) (by kernel_rfl) (by intro _ _ _ h; exact h) (Or.inl ⟨by rfl, fun w hS => by (have y0 := cell_kept hS vx0_0; have y1 := cell_kept hS vx0_1; have y2 := cell_kept hS vx0_2; have y3 := cell_kept hS vx0_3; have y4 := cell_kept hS vx0_4; have y5 := cell_kept hS vx0_5; have y6 := cell_kept hS vx0_6; have y7 := cell_kept hS vx0_7; have y8 := cell_kept hS vx0_8; have y9 := cell_kept hS vx0_9; go_simp)⟩) hH ?_
  simp only [Act.put, List.setIfInBounds_toArray, List.set_cons_zero, List.set_cons_succ]
  refine wpAnyH_take (i := 1) (v := .agg #[.int .i64 pa0, .int .i64 pb0, .int .i64 pc0, .int .i64 pd0, .int .i64 pe0, .int .i64 pf0, .int .i64 pg0, .int .i64 ph0, .int .i64 pi0, .slice b0 l0.length cap0]) (by simp only [List.getElem?_toArray, List.getElem?_cons_succ, List.getElem?_cons_zero]; rfl) (by kernel_rfl) (by kernel_rfl) (by kernel_rfl) (by intro _ _ _ h; exact h) (Or.inl ⟨by rfl, fun w hS => by (have y0 := cell_kept hS va0_0; have y1 := cell_kept hS va0_1; have y2 := cell_kept hS va0_2; have y3 := cell_kept hS va0_3; have y4 := cell_kept hS va0_4; have y5 := cell_kept hS va0_5; have y6 := cell_kept hS va0_6; have y7 := cell_kept hS va0_7; have y8 := cell_kept hS va0_8; have y9 := cell_kept hS va0_9; go_simp)⟩) hH ?_
  simp only [Act.put, List.setIfInBounds_toArray, List.set_cons_zero, List.set_cons_succ]
  refine wpAnyH_ready (rs := [2]) (by kernel_rfl) (by simp) ?_
  refine AllReadyH.cons (by simp only [List.getElem?_toArray, List.getElem?_cons_succ, List.getElem?_cons_zero]; rfl) (fun K hK => ?_) AllReadyH.nil
  go_simp
  refine (toM pa0 pb0 pc0 pd0 pe0 pf0 pg0 ph0 pi0 _ l0 _ ((HA0.out.below BB.out).below hH) hk0).mono ?_
  rintro e x2 ⟨gZ, rfl, hF, hM⟩
  refine hK.out _ _ (hH.trans (hM.mono hH.size)) (fun hH => ?_)
  clear hK K
  have XZ := hid hF.rd
  clear hF
  clear hM
  refine wpAnyH_ready (rs := [3]) (by kernel_rfl) (by simp) ?_
  refine AllReadyH.cons (by simp only [List.getElem?_toArray, List.getElem?_cons_succ, List.getElem?_cons_zero]; rfl) (fun K hK => ?_) AllReadyH.nil
  go_simp
  refine (eqM pa0 pb0 pc0 pd0 pe0 pf0 pg0 ph0 pi0 _ _ l0 _ (X0.out.rd.below hH) XZ.out hk0).mono ?_
  rintro e x3 ⟨rfl, hM⟩
  refine hK.out _ _ (hH.trans (hM.mono hH.size)) (fun hH => ?_)
  clear hK K
  clear XZ
  clear hM
  refine wpAnyH_take (i := 4) (v := .bool false) (by simp only [List.getElem?_toArray, List.getElem?_cons_succ, List.getElem?_cons_zero]; rfl) (by kernel_rfl) (by kernel_rfl) (by kernel_rfl) (by intro _ _ _ h; exact h) (Or.inl ⟨by rfl, fun w hS => by go_simp⟩) hH ?_
  simp only [Act.put, List.setIfInBounds_toArray, List.set_cons_zero, List.set_cons_succ]
  refine wpAnyH_done (by kernel_rfl) ?_ _
  have hB := hH
  clear hH
  clear va0_0 va0_1 va0_2 va0_3 va0_4 va0_5 va0_6 va0_7 va0_8 va0_9 vw_0 vw_1 vx0_0 vx0_1 vx0_2 vx0_3 vx0_4 vx0_5 vx0_6 vx0_7 vx0_8 vx0_9 vg_0 vg_1
  replace VA0 := hid (var_below hB VA0.out)
  replace VW := hid (var_below hB VW.out)
  replace VX0 := hid (var_below hB VX0.out)
  replace VG := hid (var_below hB VG.out)
  replace X0 := hid (X0.out.below hB)
  replace OG := hid (OG.out.below hB)
  replace BB := hid (BB.out.trans (hB.mono BB.out.size))
  replace BW := hid (BW.out.trans (hB.mono BW.out.size))
  have Z11 := hid (hB.size)
  clear hB
  generalize x3 = w7 at *
  obtain ⟨⟨va0_0, va0_1, va0_2, va0_3, va0_4, va0_5, va0_6, va0_7, va0_8, va0_9⟩, -⟩ := v10_facts VA0.out
  obtain ⟨vw_0, vw_1, -, -⟩ := var2_facts VW.out
  obtain ⟨⟨vx0_0, vx0_1, vx0_2, vx0_3, vx0_4, vx0_5, vx0_6, vx0_7, vx0_8, vx0_9⟩, -⟩ := v10_facts VX0.out
  obtain ⟨vg_0, vg_1, -, -⟩ := var2_facts VG.out
  go_wp2_with fail
  clear va0_0 va0_1 va0_2 va0_3 va0_4 va0_5 va0_6 va0_7 va0_8 va0_9 vw_0 vw_1 vx0_0 vx0_1 vx0_2 vx0_3 vx0_4 vx0_5 vx0_6 vx0_7 vx0_8 vx0_9 vg_0 vg_1
  refine (markM pa0 pb0 pc0 pd0 pe0 pf0 pg0 ph0 pi0 _ l0 1 _ rfl _ _ _ X0.out hk0 (by omega)).mono ?_
  rintro e w8 ⟨rfl, -, hI⟩
  replace VA0 := hid (hI.var VA0.out (by have := Z1.out; have := Z2.out; have := Z3.out; have := Z4.out; have := Z5.out; have := Z6.out; have := Z7.out; have := Z8.out; have := Z9.out; have := Z10.out; have := Z11.out; omega))
  replace VW := hid (hI.var VW.out (by have := Z1.out; have := Z2.out; have := Z3.out; have := Z4.out; have := Z5.out; have := Z6.out; have := Z7.out; have := Z8.out; have := Z9.out; have := Z10.out; have := Z11.out; omega))
  replace VX0 := hid (hI.var VX0.out (by have := Z1.out; have := Z2.out; have := Z3.out; have := Z4.out; have := Z5.out; have := Z6.out; have := Z7.out; have := Z8.out; have := Z9.out; have := Z10.out; have := Z11.out; omega))
  replace VG := hid (hI.var VG.out (by have := Z1.out; have := Z2.out; have := Z3.out; have := Z4.out; have := Z5.out; have := Z6.out; have := Z7.out; have := Z8.out; have := Z9.out; have := Z10.out; have := Z11.out; omega))
  replace OG := hid (OG.out.agr (Agr.of_ins hI (by have := Z1.out; have := Z2.out; have := Z3.out; have := Z4.out; have := Z5.out; have := Z6.out; have := Z7.out; have := Z8.out; have := Z9.out; have := Z10.out; have := Z11.out; omega) (by have := Z1.out; have := Z2.out; have := Z3.out; have := Z4.out; have := Z5.out; have := Z6.out; have := Z7.out; have := Z8.out; have := Z9.out; have := Z10.out; have := Z11.out; omega)))
  replace BB := hid (BB.out.trans (hI.below (by have := Z1.out; have := Z2.out; have := Z3.out; have := Z4.out; have := Z5.out; have := Z6.out; have := Z7.out; have := Z8.out; have := Z9.out; have := Z10.out; have := Z11.out; omega) BB.out.size))
  replace BW := hid (BW.out.trans (hI.below (by have := Z1.out; have := Z2.out; have := Z3.out; have := Z4.out; have := Z5.out; have := Z6.out; have := Z7.out; have := Z8.out; have := Z9.out; have := Z10.out; have := Z11.out; omega) BW.out.size))
  have Z12 := hid (hI.size)
  clear hI
  clear X0
  obtain ⟨k1, hkk⟩ : ∃ m : Nat, m = 1 + l0.length := ⟨_, rfl⟩
  rw [← hkk]
  have kb1 : k1 ≤ 1048577 := by omega
  clear hkk
  have hk0 : decide ((k1 : Int) < 0) = false := decide_eq_false (by omega)
  obtain ⟨⟨va0_0, va0_1, va0_2, va0_3, va0_4, va0_5, va0_6, va0_7, va0_8, va0_9⟩, -⟩ := v10_facts VA0.out
  obtain ⟨vw_0, vw_1, -, -⟩ := var2_facts VW.out
  obtain ⟨⟨vx0_0, vx0_1, vx0_2, vx0_3, vx0_4, vx0_5, vx0_6, vx0_7, vx0_8, vx0_9⟩, -⟩ := v10_facts VX0.out
  obtain ⟨vg_0, vg_1, -, -⟩ := var2_facts VG.out
  go_wp2_with fail
  clear va0_0 va0_1 va0_2 va0_3 va0_4 va0_5 va0_6 va0_7 va0_8 va0_9 vw_0 vw_1 vx0_0 vx0_1 vx0_2 vx0_3 vx0_4 vx0_5 vx0_6 vx0_7 vx0_8 vx0_9 vg_0 vg_1
  refine (eqBR c _ _ l _ OG.out.rd (RW.out.below BW.out) hl).mono ?_
  rintro e w9 ⟨rfl, hB⟩
  replace VA0 := hid (var_below hB VA0.out)
  replace VW := hid (var_below hB VW.out)
  replace VX0 := hid (var_below hB VX0.out)
  replace VG := hid (var_below hB VG.out)
  replace OG := hid (OG.out.below hB)
  replace BB := hid (BB.out.trans (hB.mono BB.out.size))
  replace BW := hid (BW.out.trans (hB.mono BW.out.size))
  have Z13 := hid (hB.size)
  clear hB
  clear hk0
  obtain ⟨⟨va0_0, va0_1, va0_2, va0_3, va0_4, va0_5, va0_6, va0_7, va0_8, va0_9⟩, -⟩ := v10_facts VA0.out
  obtain ⟨vw_0, vw_1, -, -⟩ := var2_facts VW.out
  obtain ⟨⟨vx0_0, vx0_1, vx0_2, vx0_3, vx0_4, vx0_5, vx0_6, vx0_7, vx0_8, vx0_9⟩, -⟩ := v10_facts VX0.out
  obtain ⟨vg_0, vg_1, -, -⟩ := var2_facts VG.out
  go_wp2_with fail
  clear va0_0 va0_1 va0_2 va0_3 va0_4 va0_5 va0_6 va0_7 va0_8 va0_9 vw_0 vw_1 vx0_0 vx0_1 vx0_2 vx0_3 vx0_4 vx0_5 vx0_6 vx0_7 vx0_8 vx0_9 vg_0 vg_1
  refine (markBRo c _ l 1 _ rfl _ _ _ OG.out hl (by omega)).mono ?_
  rintro e w10 ⟨rfl, hF, hI⟩
  replace OG := hid hF
  clear hF
  replace VA0 := hid (hI.var VA0.out (by have := Z1.out; have := Z2.out; have := Z3.out; have := Z4.out; have := Z5.out; have := Z6.out; have := Z7.out; have := Z8.out; have := Z9.out; have := Z10.out; have := Z11.out; have := Z12.out; have := Z13.out; omega))
  replace VW := hid (hI.var VW.out (by have := Z1.out; have := Z2.out; have := Z3.out; have := Z4.out; have := Z5.out; have := Z6.out; have := Z7.out; have := Z8.out; have := Z9.out; have := Z10.out; have := Z11.out; have := Z12.out; have := Z13.out; omega))
  replace VX0 := hid (hI.var VX0.out (by have := Z1.out; have := Z2.out; have := Z3.out; have := Z4.out; have := Z5.out; have := Z6.out; have := Z7.out; have := Z8.out; have := Z9.out; have := Z10.out; have := Z11.out; have := Z12.out; have := Z13.out; omega))
  replace VG := hid (hI.var VG.out (by have := Z1.out; have := Z2.out; have := Z3.out; have := Z4.out; have := Z5.out; have := Z6.out; have := Z7.out; have := Z8.out; have := Z9.out; have := Z10.out; have := Z11.out; have := Z12.out; have := Z13.out; omega))
  replace BB := hid (BB.out.trans (hI.below (by have := Z1.out; have := Z2.out; have := Z3.out; have := Z4.out; have := Z5.out; have := Z6.out; have := Z7.out; have := Z8.out; have := Z9.out; have := Z10.out; have := Z11.out; have := Z12.out; have := Z13.out; omega) BB.out.size))
  replace BW := hid (BW.out.trans (hI.below (by have := Z1.out; have := Z2.out; have := Z3.out; have := Z4.out; have := Z5.out; have := Z6.out; have := Z7.out; have := Z8.out; have := Z9.out; have := Z10.out; have := Z11.out; have := Z12.out; have := Z13.out; omega) BW.out.size))
  have Z14 := hid (hI.size)
  clear hI
  obtain ⟨m1, hm1⟩ : ∃ m : Nat, m = 1 + l.length := ⟨_, rfl⟩
  rw [← hm1]
  have HM := hid hm1
  clear hm1
  have hm0 : decide ((m1 : Int) < 0) = false := decide_eq_false (by omega)
  obtain ⟨⟨va0_0, va0_1, va0_2, va0_3, va0_4, va0_5, va0_6, va0_7, va0_8, va0_9⟩, -⟩ := v10_facts VA0.out
  obtain ⟨vw_0, vw_1, -, -⟩ := var2_facts VW.out
  obtain ⟨⟨vx0_0, vx0_1, vx0_2, vx0_3, vx0_4, vx0_5, vx0_6, vx0_7, vx0_8, vx0_9⟩, -⟩ := v10_facts VX0.out
  obtain ⟨vg_0, vg_1, -, -⟩ := var2_facts VG.out
  go_wp2_with fail
  clear va0_0 va0_1 va0_2 va0_3 va0_4 va0_5 va0_6 va0_7 va0_8 va0_9 vw_0 vw_1 vx0_0 vx0_1 vx0_2 vx0_3 vx0_4 vx0_5 vx0_6 vx0_7 vx0_8 vx0_9 vg_0 vg_1
  refine (heldBRo c _ l 1 _ rfl _ OG.out.rd hl (by omega)).mono ?_
  rintro e w11 ⟨rfl, hB⟩
  rw [← HM.out]
  replace VA0 := hid (var_below hB VA0.out)
  replace VW := hid (var_below hB VW.out)
  replace VX0 := hid (var_below hB VX0.out)
  replace VG := hid (var_below hB VG.out)
  replace OG := hid (OG.out.below hB)
  replace BB := hid (BB.out.trans (hB.mono BB.out.size))
  replace BW := hid (BW.out.trans (hB.mono BW.out.size))
  have Z15 := hid (hB.size)
  clear hB
  obtain ⟨⟨va0_0, va0_1, va0_2, va0_3, va0_4, va0_5, va0_6, va0_7, va0_8, va0_9⟩, -⟩ := v10_facts VA0.out
  obtain ⟨vw_0, vw_1, -, -⟩ := var2_facts VW.out
  obtain ⟨⟨vx0_0, vx0_1, vx0_2, vx0_3, vx0_4, vx0_5, vx0_6, vx0_7, vx0_8, vx0_9⟩, -⟩ := v10_facts VX0.out
  obtain ⟨vg_0, vg_1, -, -⟩ := var2_facts VG.out
  go_wp2_with fail
  clear va0_0 va0_1 va0_2 va0_3 va0_4 va0_5 va0_6 va0_7 va0_8 va0_9 vw_0 vw_1 vx0_0 vx0_1 vx0_2 vx0_3 vx0_4 vx0_5 vx0_6 vx0_7 vx0_8 vx0_9 vg_0 vg_1
  refine (toM pa0 pb0 pc0 pd0 pe0 pf0 pg0 ph0 pi0 _ l0 _ (HA0.out.below BB.out) hk0).mono ?_
  rintro e w12 ⟨gT0, rfl, hF, hB⟩
  have T0 := hid hF.rd
  clear hF
  replace VA0 := hid (var_below hB VA0.out)
  replace VW := hid (var_below hB VW.out)
  replace VX0 := hid (var_below hB VX0.out)
  replace VG := hid (var_below hB VG.out)
  replace OG := hid (OG.out.below hB)
  replace BB := hid (BB.out.trans (hB.mono BB.out.size))
  replace BW := hid (BW.out.trans (hB.mono BW.out.size))
  have Z16 := hid (hB.size)
  clear hB
  obtain ⟨⟨va0_0, va0_1, va0_2, va0_3, va0_4, va0_5, va0_6, va0_7, va0_8, va0_9⟩, -⟩ := v10_facts VA0.out
  obtain ⟨vw_0, vw_1, -, -⟩ := var2_facts VW.out
  obtain ⟨⟨vx0_0, vx0_1, vx0_2, vx0_3, vx0_4, vx0_5, vx0_6, vx0_7, vx0_8, vx0_9⟩, -⟩ := v10_facts VX0.out
  obtain ⟨vg_0, vg_1, -, -⟩ := var2_facts VG.out
  go_wp2_with fail
  clear va0_0 va0_1 va0_2 va0_3 va0_4 va0_5 va0_6 va0_7 va0_8 va0_9 vw_0 vw_1 vx0_0 vx0_1 vx0_2 vx0_3 vx0_4 vx0_5 vx0_6 vx0_7 vx0_8 vx0_9 vg_0 vg_1
  refine (IP.out _ _ T0.out).mono ?_
  rintro e w13 ⟨v, rfl, hR, hB⟩
  obtain ⟨pv, kv, rfl, -, -, -⟩ := hR.rd.parts
  have OH := hid hR.rd
  clear hR
  replace VA0 := hid (var_below hB VA0.out)
  replace VW := hid (var_below hB VW.out)
  replace VX0 := hid (var_below hB VX0.out)
  replace VG := hid (var_below hB VG.out)
  replace OG := hid (OG.out.below hB)
  replace BB := hid (BB.out.trans (hB.mono BB.out.size))
  replace BW := hid (BW.out.trans (hB.mono BW.out.size))
  have Z17 := hid (hB.size)
  clear hB
  clear T0
  obtain ⟨pH, kH, hpk⟩ : ∃ a b, a = pv ∧ b = kv := ⟨_, _, rfl, rfl⟩
  obtain ⟨rfl, rfl⟩ := hpk
  have VH := hid (heap_alloc_new w13 (.cells #[.int .i64 c, .slice pH l.length kH] 50))
  have hA := below_alloc1 w13 (.cells #[.int .i64 c, .slice pH l.length kH] 50)
  replace VA0 := hid (var_below hA VA0.out)
  replace VW := hid (var_below hA VW.out)
  replace VX0 := hid (var_below hA VX0.out)
  replace VG := hid (var_below hA VG.out)
  replace OG := hid (OG.out.below hA)
  replace OH := hid (OH.out.below hA)
  replace BB := hid (BB.out.trans (hA.mono BB.out.size))
  replace BW := hid (BW.out.trans (hA.mono BW.out.size))
  have Z18 := hid (show w13.heap.size < (w13.alloc (.cells #[.int .i64 c, .slice pH l.length kH] 50)).heap.size by simp)
  clear hA
  obtain ⟨⟨va0_0, va0_1, va0_2, va0_3, va0_4, va0_5, va0_6, va0_7, va0_8, va0_9⟩, -⟩ := v10_facts VA0.out
  obtain ⟨vw_0, vw_1, -, -⟩ := var2_facts VW.out
  obtain ⟨⟨vx0_0, vx0_1, vx0_2, vx0_3, vx0_4, vx0_5, vx0_6, vx0_7, vx0_8, vx0_9⟩, -⟩ := v10_facts VX0.out
  obtain ⟨vg_0, vg_1, -, -⟩ := var2_facts VG.out
  obtain ⟨vh_0, vh_1, -, -⟩ := var2_facts VH.out
  go_wp2_with fail
  clear va0_0 va0_1 va0_2 va0_3 va0_4 va0_5 va0_6 va0_7 va0_8 va0_9 vw_0 vw_1 vx0_0 vx0_1 vx0_2 vx0_3 vx0_4 vx0_5 vx0_6 vx0_7 vx0_8 vx0_9 vg_0 vg_1 vh_0 vh_1
  generalize w13.alloc (.cells #[.int .i64 c, .slice pH l.length kH] 50) = w13a at *
  refine (eqBR c _ _ l _ OH.out (RW.out.below BW.out) hl).mono ?_
  rintro e w14 ⟨rfl, hB⟩
  replace VA0 := hid (var_below hB VA0.out)
  replace VW := hid (var_below hB VW.out)
  replace VX0 := hid (var_below hB VX0.out)
  replace VG := hid (var_below hB VG.out)
  replace VH := hid (var_below hB VH.out)
  replace OG := hid (OG.out.below hB)
  replace OH := hid (OH.out.below hB)
  replace BB := hid (BB.out.trans (hB.mono BB.out.size))
  replace BW := hid (BW.out.trans (hB.mono BW.out.size))
  have Z19 := hid (hB.size)
  clear hB
  clear OH
  obtain ⟨⟨va0_0, va0_1, va0_2, va0_3, va0_4, va0_5, va0_6, va0_7, va0_8, va0_9⟩, -⟩ := v10_facts VA0.out
  obtain ⟨vw_0, vw_1, -, -⟩ := var2_facts VW.out
  obtain ⟨⟨vx0_0, vx0_1, vx0_2, vx0_3, vx0_4, vx0_5, vx0_6, vx0_7, vx0_8, vx0_9⟩, -⟩ := v10_facts VX0.out
  obtain ⟨vg_0, vg_1, -, -⟩ := var2_facts VG.out
  obtain ⟨vh_0, vh_1, -, -⟩ := var2_facts VH.out
  go_wp2_with fail
  clear va0_0 va0_1 va0_2 va0_3 va0_4 va0_5 va0_6 va0_7 va0_8 va0_9 vw_0 vw_1 vx0_0 vx0_1 vx0_2 vx0_3 vx0_4 vx0_5 vx0_6 vx0_7 vx0_8 vx0_9 vg_0 vg_1 vh_0 vh_1
  refine (heldBRo c _ l 1 _ rfl _ OG.out.rd hl (by omega)).mono ?_
  rintro e w15 ⟨rfl, hB⟩
  rw [← HM.out]
  replace VA0 := hid (var_below hB VA0.out)
  replace VW := hid (var_below hB VW.out)
  replace VX0 := hid (var_below hB VX0.out)
  replace VG := hid (var_below hB VG.out)
  replace VH := hid (var_below hB VH.out)
  replace OG := hid (OG.out.below hB)
  replace BB := hid (BB.out.trans (hB.mono BB.out.size))
  replace BW := hid (BW.out.trans (hB.mono BW.out.size))
  have Z20 := hid (hB.size)
  clear hB
  go_wp2
  go_ret
  exact ⟨rfl, BB.out⟩
end Go.Proofs.Ytifgcffifffdnam.W
