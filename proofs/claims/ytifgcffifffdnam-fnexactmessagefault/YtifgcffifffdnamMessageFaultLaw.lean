/-
  The exact law of MessageFault, out of the contracts of its callees. Generated text.
-/
import Derived.Test.YtifgcffifffdnamMgL
import Derived.Test.YtifgcffifffdnamSmfW
import Derived.Test.YtifgcffifffdnamMgO
namespace Go.Proofs.Ytifgcffifffdnam.W
open Go.ChangeShapes Go.WideShapes Go.ChangeAt Go.RowKit
open Go.Proofs.Ytifgcffifffdnam.M

set_option maxHeartbeats 2000000 in
set_option maxRecDepth 100000 in
theorem law_MessageFault (k s n cn ci cs cm op id' : Int) (v : Value) (l : List Nat) (w : World) (h : Rd w v l) :
    Calls Try.prog 5 #[.agg #[.int .i64 k, .int .i64 s, .int .i64 n, .int .i64 cn, .int .i64 ci, .int .i64 cs, .int .i64 cm, .int .i64 op, .int .i64 id', v]] w fun e w' => e = .returned (.bool true) ∧ Below w.heap.size w w' := by
  obtain ⟨code, hc⟩ := mF_some ⟨k, s, n, cn, ci, cs, cm, op, id', l⟩
  replace hc := hid hc
  have H := hid h
  obtain ⟨a, cap, rfl, hlc, hcm, -⟩ := h.parts
  have hlm := Nat.le_trans hlc hcm
  clear h hlc hcm
  go_enter Try.func5, Try.ntmps5
  go_wp2_with fail
  have VA := hid (heap_alloc_new w (.cells #[.int .i64 k, .int .i64 s, .int .i64 n, .int .i64 cn, .int .i64 ci, .int .i64 cs, .int .i64 cm, .int .i64 op, .int .i64 id', .slice a l.length cap] 40))
  have BB := hid (below_alloc1 w (.cells #[.int .i64 k, .int .i64 s, .int .i64 n, .int .i64 cn, .int .i64 ci, .int .i64 cs, .int .i64 cm, .int .i64 op, .int .i64 id', .slice a l.length cap] 40))
  replace H := hid (H.out.below BB.out)
  generalize w.alloc (.cells #[.int .i64 k, .int .i64 s, .int .i64 n, .int .i64 cn, .int .i64 ci, .int .i64 cs, .int .i64 cm, .int .i64 op, .int .i64 id', .slice a l.length cap] 40) = w0 at *
  obtain ⟨g, hg⟩ : ∃ g, g = w.heap.size := ⟨_, rfl⟩
  rw [← hg] at VA ⊢
  have LG := hid (Nat.le_of_eq hg.symm)
  clear hg
  refine (szMg _ _ _ _ _ _ _ _ _ _ _ _ _ _ (by omega) (by omega) hlm).mono ?_
  rintro e w1 ⟨rfl, hB⟩
  replace H := hid (H.out.below hB)
  replace VA := hid (var_below hB VA.out)
  replace BB := hid (BB.out.trans (hB.mono BB.out.size))
  clear hB hlm
  by_cases hz : (1048576 : Int) - l.length < 0
  · rw [show szN 1048576 l.length = -1 by rw [szN, if_pos hz]]
    go_wp2
    go_ret
    exact ⟨rfl, BB.out⟩
  obtain ⟨lf, e1⟩ : ∃ r, r = szN 1048576 l.length := ⟨_, rfl⟩
  have e1' : szN 1048576 l.length = 1048576 - l.length := by rw [szN, if_neg hz]
  have g0 : 0 ≤ lf := by rw [e1, e1']; omega
  have hl : l.length ≤ 1048576 := by omega
  rw [← e1]
  clear e1 e1' hz
  obtain ⟨⟨f0, f1, f2, f3, f4, f5, f6, f7, f8, f9⟩, -⟩ := v10_facts VA.out
  go_wp2_with fail
  refine (toM _ _ _ _ _ _ _ _ _ _ l _ H.out hl).mono ?_
  rintro e w2 ⟨gt, rfl, hO, hB⟩
  clear f0 f1 f2 f3 f4 f5 f6 f7 f8 f9
  replace H := hid (H.out.below hB)
  replace VA := hid (var_below hB VA.out)
  replace BB := hid (BB.out.trans (hB.mono BB.out.size))
  have T := hid hO.rd
  clear hB hO
  go_wp2_with fail
  refine (smf _ _ _ _ _ _ _ _ _ code _ l _ T.out hc.out).mono ?_
  rintro e w3 ⟨rfl, hB⟩
  replace H := hid (H.out.below hB)
  replace VA := hid (var_below hB VA.out)
  replace BB := hid (BB.out.trans (hB.mono BB.out.size))
  clear hB T
  obtain ⟨⟨f0, f1, f2, f3, f4, f5, f6, f7, f8, f9⟩, -⟩ := v10_facts VA.out
  go_wp2_with fail
  refine (toM _ _ _ _ _ _ _ _ _ _ l _ H.out hl).mono ?_
  rintro e w4 ⟨gx, rfl, hO, hB⟩
  clear f0 f1 f2 f3 f4 f5 f6 f7 f8 f9
  replace H := hid (H.out.below hB)
  replace VA := hid (var_below hB VA.out)
  replace BB := hid (BB.out.trans (hB.mono BB.out.size))
  have T := hid hO.rd
  clear hB hO
  go_wp2_with fail
  have VX := hid (heap_alloc_new w4 (.cells #[.int .i64 k, .int .i64 s, .int .i64 n, .int .i64 cn, .int .i64 ci, .int .i64 cs, .int .i64 cm, .int .i64 op, .int .i64 id', .slice (some ⟨gx, 0, none⟩) l.length l.length] 45))
  have hA := below_alloc1 w4 (.cells #[.int .i64 k, .int .i64 s, .int .i64 n, .int .i64 cn, .int .i64 ci, .int .i64 cs, .int .i64 cm, .int .i64 op, .int .i64 id', .slice (some ⟨gx, 0, none⟩) l.length l.length] 45)
  replace H := hid (H.out.below hA)
  replace T := hid (T.out.below hA)
  replace VA := hid (var_below hA VA.out)
  replace BB := hid (BB.out.trans (hA.mono BB.out.size))
  clear hA
  generalize w4.alloc (.cells #[.int .i64 k, .int .i64 s, .int .i64 n, .int .i64 cn, .int .i64 ci, .int .i64 cs, .int .i64 cm, .int .i64 op, .int .i64 id', .slice (some ⟨gx, 0, none⟩) l.length l.length] 45) = w5 at *
  obtain ⟨gv, hgv⟩ : ∃ g, g = w4.heap.size := ⟨_, rfl⟩
  rw [← hgv] at VX ⊢
  clear hgv
  refine (imf _ _ _ _ _ _ _ _ _ code _ l _ T.out hc.out).mono ?_
  rintro e w6 ⟨rfl, hB⟩
  replace H := hid (H.out.below hB)
  replace T := hid (T.out.below hB)
  replace VA := hid (var_below hB VA.out)
  replace VX := hid (var_below hB VX.out)
  replace BB := hid (BB.out.trans (hB.mono BB.out.size))
  clear hB hc
  obtain ⟨⟨f0, f1, f2, f3, f4, f5, f6, f7, f8, f9⟩, -⟩ := v10_facts VA.out
  obtain ⟨⟨q0, q1, q2, q3, q4, q5, q6, q7, q8, q9⟩, -⟩ := v10_facts VX.out
  go_wp2_with fail
  refine wp_region_held_drew (S := fun w' => Below w6.heap.size w6 w') (by kernel_rfl) (Below.refl _ _).drew (fun hH => ?_)
  refine wpAnyH_take (i := 0) (v := .agg #[.int .i64 k, .int .i64 s, .int .i64 n, .int .i64 cn, .int .i64 ci, .int .i64 cs, .int .i64 cm, .int .i64 op, .int .i64 id', .slice (some ⟨gx, 0, none⟩) l.length l.length]) (by simp only [List.getElem?_toArray, List.getElem?_cons_zero]; rfl) (by kernel_rfl) (by kernel_rfl) (by kernel_rfl) (by intro _ _ _ h; exact h) (Or.inl ⟨by rfl, fun w hS => by (have y0 := cell_kept hS q0; have y1 := cell_kept hS q1; have y2 := cell_kept hS q2; have y3 := cell_kept hS q3; have y4 := cell_kept hS q4; have y5 := cell_kept hS q5; have y6 := cell_kept hS q6; have y7 := cell_kept hS q7; have y8 := cell_kept hS q8; have y9 := cell_kept hS q9; go_simp)⟩) hH ?_
  simp only [Act.put, List.setIfInBounds_toArray, List.set_cons_zero, List.set_cons_succ]
  refine wpAnyH_take (i := 1) (v := .agg #[.int .i64 k, .int .i64 s, .int .i64 n, .int .i64 cn, .int .i64 ci, .int .i64 cs, .int .i64 cm, .int .i64 op, .int .i64 id', .slice a l.length cap]) (by simp only [List.getElem?_toArray, List.getElem?_cons_succ, List.getElem?_cons_zero]; rfl) (by kernel_rfl) (by kernel_rfl) (by kernel_rfl) (by intro _ _ _ h; exact h) (Or.inl ⟨by rfl, fun w hS => by (have y0 := cell_kept hS f0; have y1 := cell_kept hS f1; have y2 := cell_kept hS f2; have y3 := cell_kept hS f3; have y4 := cell_kept hS f4; have y5 := cell_kept hS f5; have y6 := cell_kept hS f6; have y7 := cell_kept hS f7; have y8 := cell_kept hS f8; have y9 := cell_kept hS f9; go_simp)⟩) hH ?_
  simp only [Act.put, List.setIfInBounds_toArray, List.set_cons_zero, List.set_cons_succ]
  refine wpAnyH_ready (rs := [2]) (by kernel_rfl) (by simp) ?_
  refine AllReadyH.cons (by simp only [List.getElem?_toArray, List.getElem?_cons_succ, List.getElem?_cons_zero]; rfl) (fun K hK => ?_) AllReadyH.nil
  go_simp
  refine (toM _ _ _ _ _ _ _ _ _ _ l _ (H.out.below hH) hl).mono ?_
  rintro e x2 ⟨gz, rfl, hF, hM⟩
  refine hK.out _ _ (hH.trans (hM.mono hH.size)) (fun hH => ?_)
  clear hK K
  have XZ := hid hF.rd
  clear hF
  clear hM
  refine wpAnyH_ready (rs := [3]) (by kernel_rfl) (by simp) ?_
  refine AllReadyH.cons (by simp only [List.getElem?_toArray, List.getElem?_cons_succ, List.getElem?_cons_zero]; rfl) (fun K hK => ?_) AllReadyH.nil
  go_simp
  refine (eqM _ _ _ _ _ _ _ _ _ _ _ l _ (T.out.below hH) XZ.out hl).mono ?_
  rintro e x3 ⟨rfl, hM⟩
  refine hK.out _ _ (hH.trans (hM.mono hH.size)) (fun hH => ?_)
  clear hK K
  clear XZ
  clear hM
  refine wpAnyH_take (i := 4) (v := .bool false) (by simp only [List.getElem?_toArray, List.getElem?_cons_succ, List.getElem?_cons_zero]; rfl) (by kernel_rfl) (by kernel_rfl) (by kernel_rfl) (by intro _ _ _ h; exact h) (Or.inl ⟨by rfl, fun w hS => by go_simp⟩) hH ?_
  simp only [Act.put, List.setIfInBounds_toArray, List.set_cons_zero, List.set_cons_succ]
  refine wpAnyH_done (by kernel_rfl) ?_ _
  replace BB := hid (BB.out.trans (hH.mono BB.out.size))
  clear hH f0 q0 f1 q1 f2 q2 f3 q3 f4 q4 f5 q5 f6 q6 f7 q7 f8 q8 f9 q9
  go_wp2
  go_ret
  exact ⟨rfl, BB.out⟩
end Go.Proofs.Ytifgcffifffdnam.W
