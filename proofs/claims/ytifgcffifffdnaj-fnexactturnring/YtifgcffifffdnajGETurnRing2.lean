/-
  The exact law of TurnRing, out of the contracts of its callees.
-/
import Derived.Test.YtifgcffifffdnajSzR
import Derived.Test.YtifgcffifffdnajGETurnRing1
import Derived.Test.YtifgcffifffdnajLetF3
import Derived.Test.YtifgcffifffdnajFarW

namespace Go.Proofs.Ytifgcffifffdnaj.W
open Go.ChangeShapes Go.WideShapes Go.ChangeAt Go.RowKit
open Go.Proofs.Ytifgcffifffdnaj.M

set_option maxHeartbeats 4000000 in
set_option maxRecDepth 100000 in
theorem law_TurnRing (p0 n1 p2 c rk : Int) (ks0 : List (Int × List Nat)) (l2 : List Nat) (l : List (Int × List Nat)) (a0 a2 : Value) (w : World) (hl : (l.length + tot l) ≤ 1048576)
    (h0 : RdK w a0 ks0)
    (h2 : Rd w a2 l2)
    (SP : Hid (∀ (w : World) (v0 v2 : Value), RdK w v0 ks0 → Rd w v2 l2 → Calls Try.prog 31 #[.agg #[.int .i64 p0, v0], .int .i64 n1, .agg #[.int .i64 p2, v2]] w fun e w' => ∃ v, e = .returned (.agg #[.int .i64 c, .int .i64 rk, v]) ∧ FarK w' w.heap.size v l ∧ Below w.heap.size w w'))
    (IP : Hid (∀ (w : World) (v0 v2 : Value), RdK w v0 ks0 → Rd w v2 l2 → Calls Try.prog 32 #[.agg #[.int .i64 p0, v0], .int .i64 n1, .agg #[.int .i64 p2, v2]] w fun e w' => ∃ v, e = .returned (.agg #[.int .i64 c, .int .i64 rk, v]) ∧ OKs w' w.heap.size w'.heap.size v l ∧ Below w.heap.size w w')) :
    Calls Try.prog 7 #[.agg #[.int .i64 p0, a0], .int .i64 n1, .agg #[.int .i64 p2, a2]] w fun e w' => e = .returned (.bool true) ∧ Below w.heap.size w w' := by
  have HA0 := hid h0
  obtain ⟨b0, cap0, rfl, hlc, hcm, -⟩ := h0.parts
  have LM0 := hid (Nat.le_trans hlc hcm)
  clear h0 hlc hcm
  have HA2 := hid h2
  obtain ⟨b2, cap2, rfl, hlc, hcm, -⟩ := h2.parts
  have LM2 := hid (Nat.le_trans hlc hcm)
  clear h2 hlc hcm
  have BB := hid (Below.refl w.heap.size w)
  go_enter Try.func7, Try.ntmps7
  go_wp2_with fail
  have VA0 := hid (heap_alloc2_old w (.cells #[.int .i64 p0, .slice b0 ks0.length cap0] 24) (.cells #[.int .i64 p2, .slice b2 l2.length cap2] 41))
  have VA2 := hid (heap_alloc2_new w (.cells #[.int .i64 p0, .slice b0 ks0.length cap0] 24) (.cells #[.int .i64 p2, .slice b2 l2.length cap2] 41))
  have hA := below_alloc2 w (.cells #[.int .i64 p0, .slice b0 ks0.length cap0] 24) (.cells #[.int .i64 p2, .slice b2 l2.length cap2] 41)
  replace BB := hid hA
  clear hA
  have Z1 := hid (show w.heap.size + 2 ≤ ((w.alloc (.cells #[.int .i64 p0, .slice b0 ks0.length cap0] 24)).alloc (.cells #[.int .i64 p2, .slice b2 l2.length cap2] 41)).heap.size by simp)
  generalize (w.alloc (.cells #[.int .i64 p0, .slice b0 ks0.length cap0] 24)).alloc (.cells #[.int .i64 p2, .slice b2 l2.length cap2] 41) = w0 at *
  refine (szR _ _ ks0 1048576 _ (HA0.out.below BB.out) (by omega) (by omega)).mono ?_
  rintro e w1 ⟨rfl, hB⟩
  replace VA0 := hid (var_below hB VA0.out)
  replace VA2 := hid (var_below hB VA2.out)
  replace BB := hid (BB.out.trans (hB.mono BB.out.size))
  have Z2 := hid (hB.size)
  clear hB
  by_cases hz0 : (1048576 : Int) < ks0.length + tot ks0
  · rw [show szS 1048576 ks0 = -1 by rw [szS, if_pos hz0]]
    go_wp2
    go_ret
    exact ⟨rfl, BB.out⟩
  obtain ⟨lft0, e1⟩ : ∃ r, r = szS 1048576 ks0 := ⟨_, rfl⟩
  have e1' : szS 1048576 ks0 = 1048576 - (ks0.length + tot ks0) := by rw [szS, if_neg hz0]
  have g0 : 0 ≤ lft0 := by rw [e1, e1']; omega
  have f0 : lft0 ≤ 1048576 := by rw [e1, e1']; omega
  have hk0 : (ks0.length + tot ks0) ≤ 1048576 := by omega
  rw [← e1]
  clear e1 e1'
  obtain ⟨va0_0, va0_1, -, -⟩ := var2_facts VA0.out
  obtain ⟨va2_0, va2_1, -, -⟩ := var2_facts VA2.out
  go_wp2_with fail
  clear va0_0 va0_1 va2_0 va2_1
  refine (szK _ _ _ _ lft0 _ g0 f0 LM2.out).mono ?_
  rintro e w2 ⟨rfl, hB⟩
  replace VA0 := hid (var_below hB VA0.out)
  replace VA2 := hid (var_below hB VA2.out)
  replace BB := hid (BB.out.trans (hB.mono BB.out.size))
  have Z3 := hid (hB.size)
  clear hB
  by_cases hz1 : lft0 - l2.length < 0
  · rw [show szN lft0 l2.length = -1 by rw [szN, if_pos hz1]]
    go_wp2
    go_ret
    exact ⟨rfl, BB.out⟩
  obtain ⟨lft1, e1⟩ : ∃ r, r = szN lft0 l2.length := ⟨_, rfl⟩
  have e1' : szN lft0 l2.length = lft0 - l2.length := by rw [szN, if_neg hz1]
  have g1 : 0 ≤ lft1 := by rw [e1, e1']; omega
  have f1 : lft1 ≤ 1048576 := by rw [e1, e1']; omega
  have hk2 : l2.length ≤ 1048576 := by omega
  rw [← e1]
  clear e1 e1'
  clear hz0 hz1
  obtain ⟨va0_0, va0_1, -, -⟩ := var2_facts VA0.out
  obtain ⟨va2_0, va2_1, -, -⟩ := var2_facts VA2.out
  go_wp2_with fail
  refine wp_region_held_drew (S := fun w' => Below w2.heap.size w2 w') (by kernel_rfl) (Below.refl _ _).drew (fun hH => ?_)
  generalize w2.drew = x at hH ⊢
  refine wpAnyH_take (i := 0) (v := .agg #[.int .i64 p0, .slice b0 ks0.length cap0]) (by simp only [List.getElem?_toArray, List.getElem?_cons_zero]; rfl) (by kernel_rfl) (by kernel_rfl) (by kernel_rfl) (by intro _ _ _ h; exact h) (Or.inl ⟨by rfl, fun w hS => by (have y0 := cell_kept hS va0_0; have y1 := cell_kept hS va0_1; go_simp)⟩) hH ?_
  simp only [Act.put, List.setIfInBounds_toArray, List.set_cons_zero, List.set_cons_succ]
  refine wpAnyH_take (i := 2) (v := .int .i64 n1) (by simp only [List.getElem?_toArray, List.getElem?_cons_succ, List.getElem?_cons_zero]; rfl) (by kernel_rfl) (by kernel_rfl) (by kernel_rfl) (by intro _ _ _ h; exact h) (Or.inl ⟨by rfl, fun w hS => by go_simp⟩) hH ?_
  simp only [Act.put, List.setIfInBounds_toArray, List.set_cons_zero, List.set_cons_succ]
  refine wpAnyH_take (i := 3) (v := .agg #[.int .i64 p2, .slice b2 l2.length cap2]) (by simp only [List.getElem?_toArray, List.getElem?_cons_succ, List.getElem?_cons_zero]; rfl) (by kernel_rfl) (by kernel_rfl) (by kernel_rfl) (by intro _ _ _ h; exact h) (Or.inl ⟨by rfl, fun w hS => by (have y0 := cell_kept hS va2_0; have y1 := cell_kept hS va2_1; go_simp)⟩) hH ?_
  simp only [Act.put, List.setIfInBounds_toArray, List.set_cons_zero, List.set_cons_succ]
  refine wpAnyH_ready (rs := [1, 6]) (by kernel_rfl) (by simp) ?_
  refine AllReadyH.cons (by simp only [List.getElem?_toArray, List.getElem?_cons_succ, List.getElem?_cons_zero]; rfl) (fun K hK => ?br1_90) ?rs1_90
  case' br1_90 =>
    go_simp
    refine (toRo p0 _ ks0 _ ((HA0.out.below BB.out).below hH) hk0).mono ?_
    rintro e x1 ⟨gT0, rfl, hF, hM⟩
    refine hK.out _ _ (hH.trans (hM.mono hH.size)) (fun hH => ?_)
    clear hK K
    have T0 := hid hF.rd
    clear hF hM
    refine wpAnyH_ready (rs := [4, 6]) (by kernel_rfl) (by simp) ?_
    refine AllReadyH.cons (by simp only [List.getElem?_toArray, List.getElem?_cons_succ, List.getElem?_cons_zero]; rfl) (fun K hK => ?br2_90) ?rs2_90
    case' br2_90 =>
      go_simp
      refine (toKo p2 _ l2 _ ((HA2.out.below BB.out).below hH) hk2).mono ?_
      rintro e x4 ⟨gT2, rfl, hF, hM⟩
      refine hK.out _ _ (hH.trans (hM.mono hH.size)) (fun hH => ?_)
      clear hK K
      replace T0 := hid (T0.out.below hM)
      have T2 := hid hF.rd
      clear hF hM
      refine wpAnyH_ready (rs := [5, 6]) (by kernel_rfl) (by simp) ?_
      refine AllReadyH.cons (by simp only [List.getElem?_toArray, List.getElem?_cons_succ, List.getElem?_cons_zero]; rfl) (fun K hK => ?br3_90) ?rs3_90
      case' br3_90 =>
        go_simp
        refine (SP.out _ _ _ T0.out T2.out).mono ?_
        rintro e x5 ⟨v, rfl, hR, hM⟩
        obtain ⟨pv, kv, rfl, -, -, -⟩ := hR.rd.parts
        refine hK.out _ _ (hH.trans (hM.mono hH.size)) (fun hH => ?_)
        clear hK K
        replace T0 := hid (T0.out.below hM)
        replace T2 := hid (T2.out.below hM)
        have RR := hid hR.rd
        clear hR hM T0 T2
        refine wpAnyH_ready (rs := [6]) (by kernel_rfl) (by simp) ?_
        refine AllReadyH.cons (by simp only [List.getElem?_toArray, List.getElem?_cons_succ, List.getElem?_cons_zero]; rfl) (fun K hK => ?_) AllReadyH.nil
        go_simp
        have hM := below_alloc1 x5 (.cells #[.int .i64 0, .int .i64 0, .slice none 0 0] 44)
        have LZ := hid hH.size
        replace RR := hid (rdF_new RR.out (.cells #[.int .i64 0, .int .i64 0, .slice none 0 0] 44))
        have VZ := hid (heap_alloc_new x5 (.cells #[.int .i64 0, .int .i64 0, .slice none 0 0] 44))
        refine hK.out _ _ (hH.alloc hH.size _) (fun hH => ?_)
        clear hK K hM
        generalize x5.alloc (.cells #[.int .i64 0, .int .i64 0, .slice none 0 0] 44) = x6 at *
        obtain ⟨gz1, hgz⟩ : ∃ g, g = x5.heap.size := ⟨_, rfl⟩
        rw [← hgz] at VZ LZ RR ⊢
        clear hgz
        refine wpAnyH_ready (rs := [7]) (by kernel_rfl) (by simp) ?_
        refine AllReadyH.cons (by simp only [List.getElem?_toArray, List.getElem?_cons_succ, List.getElem?_cons_zero]; rfl) (fun K hK => ?_) AllReadyH.nil
        obtain ⟨⟨q0, q1, q2⟩, z0, z1, z2⟩ := var3_facts VZ.out
        go_simp
        have VE := hid (w3_set (x' := .int .i64 c) (y' := .int .i64 rk) (z' := .slice pv l.length kv) VZ.out)
        have RE := hid (rdF_set3 (x' := .int .i64 c) (y' := .int .i64 rk) (z' := .slice pv l.length kv) RR.out)
        refine hK.out _ _ (((hH.setCell (p := ⟨gz1, 0, none⟩) LZ.out (.int .i64 c)).setCell (p := ⟨gz1, 1, none⟩) LZ.out (.int .i64 rk)).setCell (p := ⟨gz1, 2, none⟩) LZ.out (.slice pv l.length kv)) (fun hH => ?_)
        clear hK K VZ RR LZ q0 q1 q2 z0 z1 z2
        generalize (((x6.setCell ⟨gz1, 0, none⟩ (.int .i64 c)).setCell ⟨gz1, 1, none⟩ (.int .i64 rk)).setCell ⟨gz1, 2, none⟩ (.slice pv l.length kv)) = xE at *
        refine wpAnyH_done (by kernel_rfl) ?_ _
      case' rs3_90 =>
        refine AllReadyH.cons (by simp only [List.getElem?_toArray, List.getElem?_cons_succ, List.getElem?_cons_zero]; rfl) (fun K hK => ?_) AllReadyH.nil
        go_simp
        have hM := below_alloc1 x4 (.cells #[.int .i64 0, .int .i64 0, .slice none 0 0] 44)
        have LZ := hid hH.size
        replace T0 := hid (T0.out.below hM)
        replace T2 := hid (T2.out.below hM)
        have VZ := hid (heap_alloc_new x4 (.cells #[.int .i64 0, .int .i64 0, .slice none 0 0] 44))
        refine hK.out _ _ (hH.alloc hH.size _) (fun hH => ?_)
        clear hK K hM
        generalize x4.alloc (.cells #[.int .i64 0, .int .i64 0, .slice none 0 0] 44) = x6 at *
        obtain ⟨gz1, hgz⟩ : ∃ g, g = x4.heap.size := ⟨_, rfl⟩
        rw [← hgz] at VZ LZ ⊢
        clear hgz
        refine wpAnyH_ready (rs := [5]) (by kernel_rfl) (by simp) ?_
        refine AllReadyH.cons (by simp only [List.getElem?_toArray, List.getElem?_cons_succ, List.getElem?_cons_zero]; rfl) (fun K hK => ?_) AllReadyH.nil
        go_simp
        refine (SP.out _ _ _ T0.out T2.out).mono ?_
        rintro e x5 ⟨v, rfl, hR, hM⟩
        obtain ⟨pv, kv, rfl, -, -, -⟩ := hR.rd.parts
        have FG := hid (var_lt VZ.out)
        refine hK.out _ _ (hH.trans (hM.mono hH.size)) (fun hH => ?_)
        clear hK K
        replace T0 := hid (T0.out.below hM)
        replace T2 := hid (T2.out.below hM)
        replace VZ := hid (var_below hM VZ.out)
        have RR := hid (rdF_far hR.far FG.out)
        clear FG
        clear hR hM T0 T2
        refine wpAnyH_ready (rs := [7]) (by kernel_rfl) (by simp) ?_
        refine AllReadyH.cons (by simp only [List.getElem?_toArray, List.getElem?_cons_succ, List.getElem?_cons_zero]; rfl) (fun K hK => ?_) AllReadyH.nil
        obtain ⟨⟨q0, q1, q2⟩, z0, z1, z2⟩ := var3_facts VZ.out
        go_simp
        have VE := hid (w3_set (x' := .int .i64 c) (y' := .int .i64 rk) (z' := .slice pv l.length kv) VZ.out)
        have RE := hid (rdF_set3 (x' := .int .i64 c) (y' := .int .i64 rk) (z' := .slice pv l.length kv) RR.out)
        refine hK.out _ _ (((hH.setCell (p := ⟨gz1, 0, none⟩) LZ.out (.int .i64 c)).setCell (p := ⟨gz1, 1, none⟩) LZ.out (.int .i64 rk)).setCell (p := ⟨gz1, 2, none⟩) LZ.out (.slice pv l.length kv)) (fun hH => ?_)
        clear hK K VZ RR LZ q0 q1 q2 z0 z1 z2
        generalize (((x5.setCell ⟨gz1, 0, none⟩ (.int .i64 c)).setCell ⟨gz1, 1, none⟩ (.int .i64 rk)).setCell ⟨gz1, 2, none⟩ (.slice pv l.length kv)) = xE at *
        refine wpAnyH_done (by kernel_rfl) ?_ _
    case' rs2_90 =>
      refine AllReadyH.cons (by simp only [List.getElem?_toArray, List.getElem?_cons_succ, List.getElem?_cons_zero]; rfl) (fun K hK => ?_) AllReadyH.nil
      go_simp
      have hM := below_alloc1 x1 (.cells #[.int .i64 0, .int .i64 0, .slice none 0 0] 44)
      have LZ := hid hH.size
      replace T0 := hid (T0.out.below hM)
      have VZ := hid (heap_alloc_new x1 (.cells #[.int .i64 0, .int .i64 0, .slice none 0 0] 44))
      refine hK.out _ _ (hH.alloc hH.size _) (fun hH => ?_)
      clear hK K hM
      generalize x1.alloc (.cells #[.int .i64 0, .int .i64 0, .slice none 0 0] 44) = x6 at *
      obtain ⟨gz1, hgz⟩ : ∃ g, g = x1.heap.size := ⟨_, rfl⟩
      rw [← hgz] at VZ LZ ⊢
      clear hgz
      refine wpAnyH_ready (rs := [4]) (by kernel_rfl) (by simp) ?_
      refine AllReadyH.cons (by simp only [List.getElem?_toArray, List.getElem?_cons_succ, List.getElem?_cons_zero]; rfl) (fun K hK => ?_) AllReadyH.nil
      go_simp
      refine (toKo p2 _ l2 _ ((HA2.out.below BB.out).below hH) hk2).mono ?_
      rintro e x4 ⟨gT2, rfl, hF, hM⟩
      refine hK.out _ _ (hH.trans (hM.mono hH.size)) (fun hH => ?_)
      clear hK K
      replace T0 := hid (T0.out.below hM)
      replace VZ := hid (var_below hM VZ.out)
      have T2 := hid hF.rd
      clear hF hM
      refine wpAnyH_ready (rs := [5]) (by kernel_rfl) (by simp) ?_
      refine AllReadyH.cons (by simp only [List.getElem?_toArray, List.getElem?_cons_succ, List.getElem?_cons_zero]; rfl) (fun K hK => ?_) AllReadyH.nil
      go_simp
      refine (SP.out _ _ _ T0.out T2.out).mono ?_
      rintro e x5 ⟨v, rfl, hR, hM⟩
      obtain ⟨pv, kv, rfl, -, -, -⟩ := hR.rd.parts
      have FG := hid (var_lt VZ.out)
      refine hK.out _ _ (hH.trans (hM.mono hH.size)) (fun hH => ?_)
      clear hK K
      replace T0 := hid (T0.out.below hM)
      replace T2 := hid (T2.out.below hM)
      replace VZ := hid (var_below hM VZ.out)
      have RR := hid (rdF_far hR.far FG.out)
      clear FG
      clear hR hM T0 T2
      refine wpAnyH_ready (rs := [7]) (by kernel_rfl) (by simp) ?_
      refine AllReadyH.cons (by simp only [List.getElem?_toArray, List.getElem?_cons_succ, List.getElem?_cons_zero]; rfl) (fun K hK => ?_) AllReadyH.nil
      obtain ⟨⟨q0, q1, q2⟩, z0, z1, z2⟩ := var3_facts VZ.out
      go_simp
      have VE := hid (w3_set (x' := .int .i64 c) (y' := .int .i64 rk) (z' := .slice pv l.length kv) VZ.out)
      have RE := hid (rdF_set3 (x' := .int .i64 c) (y' := .int .i64 rk) (z' := .slice pv l.length kv) RR.out)
      refine hK.out _ _ (((hH.setCell (p := ⟨gz1, 0, none⟩) LZ.out (.int .i64 c)).setCell (p := ⟨gz1, 1, none⟩) LZ.out (.int .i64 rk)).setCell (p := ⟨gz1, 2, none⟩) LZ.out (.slice pv l.length kv)) (fun hH => ?_)
      clear hK K VZ RR LZ q0 q1 q2 z0 z1 z2
      generalize (((x5.setCell ⟨gz1, 0, none⟩ (.int .i64 c)).setCell ⟨gz1, 1, none⟩ (.int .i64 rk)).setCell ⟨gz1, 2, none⟩ (.slice pv l.length kv)) = xE at *
      refine wpAnyH_done (by kernel_rfl) ?_ _
  case' rs1_90 =>
    refine AllReadyH.cons (by simp only [List.getElem?_toArray, List.getElem?_cons_succ, List.getElem?_cons_zero]; rfl) (fun K hK => ?_) AllReadyH.nil
    go_simp
    have hM := below_alloc1 x (.cells #[.int .i64 0, .int .i64 0, .slice none 0 0] 44)
    have LZ := hid hH.size
    have VZ := hid (heap_alloc_new x (.cells #[.int .i64 0, .int .i64 0, .slice none 0 0] 44))
    refine hK.out _ _ (hH.alloc hH.size _) (fun hH => ?_)
    clear hK K hM
    generalize x.alloc (.cells #[.int .i64 0, .int .i64 0, .slice none 0 0] 44) = x6 at *
    obtain ⟨gz1, hgz⟩ : ∃ g, g = x.heap.size := ⟨_, rfl⟩
    rw [← hgz] at VZ LZ ⊢
    clear hgz
    refine wpAnyH_ready (rs := [1]) (by kernel_rfl) (by simp) ?_
    refine AllReadyH.cons (by simp only [List.getElem?_toArray, List.getElem?_cons_succ, List.getElem?_cons_zero]; rfl) (fun K hK => ?_) AllReadyH.nil
    go_simp
    refine (toRo p0 _ ks0 _ ((HA0.out.below BB.out).below hH) hk0).mono ?_
    rintro e x1 ⟨gT0, rfl, hF, hM⟩
    refine hK.out _ _ (hH.trans (hM.mono hH.size)) (fun hH => ?_)
    clear hK K
    replace VZ := hid (var_below hM VZ.out)
    have T0 := hid hF.rd
    clear hF hM
    refine wpAnyH_ready (rs := [4]) (by kernel_rfl) (by simp) ?_
    refine AllReadyH.cons (by simp only [List.getElem?_toArray, List.getElem?_cons_succ, List.getElem?_cons_zero]; rfl) (fun K hK => ?_) AllReadyH.nil
    go_simp
    refine (toKo p2 _ l2 _ ((HA2.out.below BB.out).below hH) hk2).mono ?_
    rintro e x4 ⟨gT2, rfl, hF, hM⟩
    refine hK.out _ _ (hH.trans (hM.mono hH.size)) (fun hH => ?_)
    clear hK K
    replace T0 := hid (T0.out.below hM)
    replace VZ := hid (var_below hM VZ.out)
    have T2 := hid hF.rd
    clear hF hM
    refine wpAnyH_ready (rs := [5]) (by kernel_rfl) (by simp) ?_
    refine AllReadyH.cons (by simp only [List.getElem?_toArray, List.getElem?_cons_succ, List.getElem?_cons_zero]; rfl) (fun K hK => ?_) AllReadyH.nil
    go_simp
    refine (SP.out _ _ _ T0.out T2.out).mono ?_
    rintro e x5 ⟨v, rfl, hR, hM⟩
    obtain ⟨pv, kv, rfl, -, -, -⟩ := hR.rd.parts
    have FG := hid (var_lt VZ.out)
    refine hK.out _ _ (hH.trans (hM.mono hH.size)) (fun hH => ?_)
    clear hK K
    replace T0 := hid (T0.out.below hM)
    replace T2 := hid (T2.out.below hM)
    replace VZ := hid (var_below hM VZ.out)
    have RR := hid (rdF_far hR.far FG.out)
    clear FG
    clear hR hM T0 T2
    refine wpAnyH_ready (rs := [7]) (by kernel_rfl) (by simp) ?_
    refine AllReadyH.cons (by simp only [List.getElem?_toArray, List.getElem?_cons_succ, List.getElem?_cons_zero]; rfl) (fun K hK => ?_) AllReadyH.nil
    obtain ⟨⟨q0, q1, q2⟩, z0, z1, z2⟩ := var3_facts VZ.out
    go_simp
    have VE := hid (w3_set (x' := .int .i64 c) (y' := .int .i64 rk) (z' := .slice pv l.length kv) VZ.out)
    have RE := hid (rdF_set3 (x' := .int .i64 c) (y' := .int .i64 rk) (z' := .slice pv l.length kv) RR.out)
    refine hK.out _ _ (((hH.setCell (p := ⟨gz1, 0, none⟩) LZ.out (.int .i64 c)).setCell (p := ⟨gz1, 1, none⟩) LZ.out (.int .i64 rk)).setCell (p := ⟨gz1, 2, none⟩) LZ.out (.slice pv l.length kv)) (fun hH => ?_)
    clear hK K VZ RR LZ q0 q1 q2 z0 z1 z2
    generalize (((x5.setCell ⟨gz1, 0, none⟩ (.int .i64 c)).setCell ⟨gz1, 1, none⟩ (.int .i64 rk)).setCell ⟨gz1, 2, none⟩ (.slice pv l.length kv)) = xE at *
    refine wpAnyH_done (by kernel_rfl) ?_ _
  all_goals
    have hB := hH
    clear hH
    clear va0_0 va0_1 va2_0 va2_1
    replace VA0 := hid (var_below hB VA0.out)
    replace VA2 := hid (var_below hB VA2.out)
    replace BB := hid (BB.out.trans (hB.mono BB.out.size))
    have Z4 := hid (hB.size)
    clear hB
    generalize xE = w3 at *
    have BW := hid (Below.refl w3.heap.size w3)
    obtain ⟨pW, kW, hpk⟩ : ∃ a b, a = pv ∧ b = kv := ⟨_, _, rfl, rfl⟩
    obtain ⟨rfl, rfl⟩ := hpk
    have RW := RE
    have VW := VE
    clear RE VE
    have Z5 := hid (var_lt VW.out)
    obtain ⟨va0_0, va0_1, -, -⟩ := var2_facts VA0.out
    obtain ⟨va2_0, va2_1, -, -⟩ := var2_facts VA2.out
    obtain ⟨⟨vw_0, vw_1, vw_2⟩, -⟩ := var3_facts VW.out
    go_wp2_with fail
    clear va0_0 va0_1 va2_0 va2_1 vw_0 vw_1 vw_2
    refine (toRo p0 _ ks0 _ (HA0.out.below BB.out) hk0).mono ?_
    rintro e w4 ⟨gX0, rfl, hF, hB⟩
    have X0 := hid hF
    clear hF
    replace VA0 := hid (var_below hB VA0.out)
    replace VA2 := hid (var_below hB VA2.out)
    replace VW := hid (var_below hB VW.out)
    replace BB := hid (BB.out.trans (hB.mono BB.out.size))
    replace BW := hid (BW.out.trans (hB.mono BW.out.size))
    have Z6 := hid (hB.size)
    clear hB
    have VX0 := hid (heap_alloc_new w4 (.cells #[.int .i64 p0, .slice (some ⟨gX0, 0, none⟩) ks0.length ks0.length] 34))
    have hA := below_alloc1 w4 (.cells #[.int .i64 p0, .slice (some ⟨gX0, 0, none⟩) ks0.length ks0.length] 34)
    replace VA0 := hid (var_below hA VA0.out)
    replace VA2 := hid (var_below hA VA2.out)
    replace VW := hid (var_below hA VW.out)
    replace X0 := hid (X0.out.below hA)
    replace BB := hid (BB.out.trans (hA.mono BB.out.size))
    replace BW := hid (BW.out.trans (hA.mono BW.out.size))
    have Z7 := hid (show w4.heap.size < (w4.alloc (.cells #[.int .i64 p0, .slice (some ⟨gX0, 0, none⟩) ks0.length ks0.length] 34)).heap.size by simp)
    clear hA
    obtain ⟨va0_0, va0_1, -, -⟩ := var2_facts VA0.out
    obtain ⟨va2_0, va2_1, -, -⟩ := var2_facts VA2.out
    obtain ⟨⟨vw_0, vw_1, vw_2⟩, -⟩ := var3_facts VW.out
    obtain ⟨vx0_0, vx0_1, -, -⟩ := var2_facts VX0.out
    go_wp2_with fail
    clear va0_0 va0_1 va2_0 va2_1 vw_0 vw_1 vw_2 vx0_0 vx0_1
    generalize w4.alloc (.cells #[.int .i64 p0, .slice (some ⟨gX0, 0, none⟩) ks0.length ks0.length] 34) = w4a at *
    refine (toKo p2 _ l2 _ (HA2.out.below BB.out) hk2).mono ?_
    rintro e w5 ⟨gX2, rfl, hF, hB⟩
    have X2 := hid hF
    clear hF
    replace VA0 := hid (var_below hB VA0.out)
    replace VA2 := hid (var_below hB VA2.out)
    replace VW := hid (var_below hB VW.out)
    replace VX0 := hid (var_below hB VX0.out)
    replace X0 := hid (X0.out.below hB)
    replace BB := hid (BB.out.trans (hB.mono BB.out.size))
    replace BW := hid (BW.out.trans (hB.mono BW.out.size))
    have Z8 := hid (hB.size)
    clear hB
    have VX2 := hid (heap_alloc_new w5 (.cells #[.int .i64 p2, .slice (some ⟨gX2, 0, none⟩) l2.length l2.length] 28))
    have hA := below_alloc1 w5 (.cells #[.int .i64 p2, .slice (some ⟨gX2, 0, none⟩) l2.length l2.length] 28)
    replace VA0 := hid (var_below hA VA0.out)
    replace VA2 := hid (var_below hA VA2.out)
    replace VW := hid (var_below hA VW.out)
    replace VX0 := hid (var_below hA VX0.out)
    replace X0 := hid (X0.out.below hA)
    replace X2 := hid (X2.out.below hA)
    replace BB := hid (BB.out.trans (hA.mono BB.out.size))
    replace BW := hid (BW.out.trans (hA.mono BW.out.size))
    have Z9 := hid (show w5.heap.size < (w5.alloc (.cells #[.int .i64 p2, .slice (some ⟨gX2, 0, none⟩) l2.length l2.length] 28)).heap.size by simp)
    clear hA
    obtain ⟨va0_0, va0_1, -, -⟩ := var2_facts VA0.out
    obtain ⟨va2_0, va2_1, -, -⟩ := var2_facts VA2.out
    obtain ⟨⟨vw_0, vw_1, vw_2⟩, -⟩ := var3_facts VW.out
    obtain ⟨vx0_0, vx0_1, -, -⟩ := var2_facts VX0.out
    obtain ⟨vx2_0, vx2_1, -, -⟩ := var2_facts VX2.out
    go_wp2_with fail
    clear va0_0 va0_1 va2_0 va2_1 vw_0 vw_1 vw_2 vx0_0 vx0_1 vx2_0 vx2_1
    generalize w5.alloc (.cells #[.int .i64 p2, .slice (some ⟨gX2, 0, none⟩) l2.length l2.length] 28) = w5a at *
    refine (IP.out _ _ _ X0.out.rd X2.out.rd).mono ?_
    rintro e w6 ⟨v, rfl, hF, hB⟩
    obtain ⟨pG, kG, rfl, -, -, -⟩ := hF.rd.parts
    have OG := hid hF
    clear hF
    replace VA0 := hid (var_below hB VA0.out)
    replace VA2 := hid (var_below hB VA2.out)
    replace VW := hid (var_below hB VW.out)
    replace VX0 := hid (var_below hB VX0.out)
    replace VX2 := hid (var_below hB VX2.out)
    replace X0 := hid (X0.out.below hB)
    replace X2 := hid (X2.out.below hB)
    replace BB := hid (BB.out.trans (hB.mono BB.out.size))
    replace BW := hid (BW.out.trans (hB.mono BW.out.size))
    have Z10 := hid (hB.size)
    clear hB
    have VG := hid (heap_alloc_new w6 (.cells #[.int .i64 c, .int .i64 rk, .slice pG l.length kG] 44))
    have hA := below_alloc1 w6 (.cells #[.int .i64 c, .int .i64 rk, .slice pG l.length kG] 44)
    replace VA0 := hid (var_below hA VA0.out)
    replace VA2 := hid (var_below hA VA2.out)
    replace VW := hid (var_below hA VW.out)
    replace VX0 := hid (var_below hA VX0.out)
    replace VX2 := hid (var_below hA VX2.out)
    replace X0 := hid (X0.out.below hA)
    replace X2 := hid (X2.out.below hA)
    replace OG := hid (OG.out.below hA)
    replace BB := hid (BB.out.trans (hA.mono BB.out.size))
    replace BW := hid (BW.out.trans (hA.mono BW.out.size))
    have Z11 := hid (show w6.heap.size < (w6.alloc (.cells #[.int .i64 c, .int .i64 rk, .slice pG l.length kG] 44)).heap.size by simp)
    clear hA
    obtain ⟨va0_0, va0_1, -, -⟩ := var2_facts VA0.out
    obtain ⟨va2_0, va2_1, -, -⟩ := var2_facts VA2.out
    obtain ⟨⟨vw_0, vw_1, vw_2⟩, -⟩ := var3_facts VW.out
    obtain ⟨vx0_0, vx0_1, -, -⟩ := var2_facts VX0.out
    obtain ⟨vx2_0, vx2_1, -, -⟩ := var2_facts VX2.out
    obtain ⟨⟨vg_0, vg_1, vg_2⟩, -⟩ := var3_facts VG.out
    go_wp2_with fail
    clear va0_0 va0_1 va2_0 va2_1 vw_0 vw_1 vw_2 vx0_0 vx0_1 vx2_0 vx2_1 vg_0 vg_1 vg_2
    generalize w6.alloc (.cells #[.int .i64 c, .int .i64 rk, .slice pG l.length kG] 44) = w6a at *
    refine (eqRR c rk _ _ l _ OG.out.rd (RW.out.below BW.out) hl).mono ?_
    rintro e w7 ⟨rfl, hB⟩
    replace VA0 := hid (var_below hB VA0.out)
    replace VA2 := hid (var_below hB VA2.out)
    replace VW := hid (var_below hB VW.out)
    replace VX0 := hid (var_below hB VX0.out)
    replace VX2 := hid (var_below hB VX2.out)
    replace VG := hid (var_below hB VG.out)
    replace X0 := hid (X0.out.below hB)
    replace X2 := hid (X2.out.below hB)
    replace OG := hid (OG.out.below hB)
    replace BB := hid (BB.out.trans (hB.mono BB.out.size))
    replace BW := hid (BW.out.trans (hB.mono BW.out.size))
    have Z12 := hid (hB.size)
    clear hB
    obtain ⟨va0_0, va0_1, -, -⟩ := var2_facts VA0.out
    obtain ⟨va2_0, va2_1, -, -⟩ := var2_facts VA2.out
    obtain ⟨⟨vw_0, vw_1, vw_2⟩, -⟩ := var3_facts VW.out
    obtain ⟨vx0_0, vx0_1, -, -⟩ := var2_facts VX0.out
    obtain ⟨vx2_0, vx2_1, -, -⟩ := var2_facts VX2.out
    obtain ⟨⟨vg_0, vg_1, vg_2⟩, -⟩ := var3_facts VG.out
    go_wp2_with fail
    refine wp_region_held_drew (S := fun w' => Below w7.heap.size w7 w') (by kernel_rfl) (Below.refl _ _).drew (fun hH => ?_)
    refine wpAnyH_take (i := 0) (v := .agg #[.int .i64 p0, .slice (some ⟨gX0, 0, none⟩) ks0.length ks0.length]) (by simp only [List.getElem?_toArray, List.getElem?_cons_zero]; rfl) (by kernel_rfl) (by kernel_rfl) (by kernel_rfl) (by intro _ _ _ h; exact h) (Or.inl ⟨by rfl, fun w hS => by (have y0 := cell_kept hS vx0_0; have y1 := cell_kept hS vx0_1; go_simp)⟩) hH ?_
    simp only [Act.put, List.setIfInBounds_toArray, List.set_cons_zero, List.set_cons_succ]
    refine wpAnyH_take (i := 1) (v := .agg #[.int .i64 p0, .slice b0 ks0.length cap0]) (by simp only [List.getElem?_toArray, List.getElem?_cons_succ, List.getElem?_cons_zero]; rfl) (by kernel_rfl) (by kernel_rfl) (by kernel_rfl) (by intro _ _ _ h; exact h) (Or.inl ⟨by rfl, fun w hS => by (have y0 := cell_kept hS va0_0; have y1 := cell_kept hS va0_1; go_simp)⟩) hH ?_
    simp only [Act.put, List.setIfInBounds_toArray, List.set_cons_zero, List.set_cons_succ]
    refine wpAnyH_ready (rs := [2]) (by kernel_rfl) (by simp) ?_
    refine AllReadyH.cons (by simp only [List.getElem?_toArray, List.getElem?_cons_succ, List.getElem?_cons_zero]; rfl) (fun K hK => ?_) AllReadyH.nil
    go_simp
    refine (toRo p0 _ ks0 _ ((HA0.out.below BB.out).below hH) hk0).mono ?_
    rintro e x2 ⟨gZ, rfl, hF, hM⟩
    refine hK.out _ _ (hH.trans (hM.mono hH.size)) (fun hH => ?_)
    clear hK K
    have XZ := hid hF.rd
    clear hF
    clear hM
    refine wpAnyH_ready (rs := [3]) (by kernel_rfl) (by simp) ?_
    refine AllReadyH.cons (by simp only [List.getElem?_toArray, List.getElem?_cons_succ, List.getElem?_cons_zero]; rfl) (fun K hK => ?_) AllReadyH.nil
    go_simp
    refine (eqR p0 _ _ ks0 _ (X0.out.rd.below hH) XZ.out hk0).mono ?_
    rintro e x3 ⟨rfl, hM⟩
    refine hK.out _ _ (hH.trans (hM.mono hH.size)) (fun hH => ?_)
    clear hK K
    clear XZ
    clear hM
    refine wpAnyH_take (i := 4) (v := .bool false) (by simp only [List.getElem?_toArray, List.getElem?_cons_succ, List.getElem?_cons_zero]; rfl) (by kernel_rfl) (by kernel_rfl) (by kernel_rfl) (by intro _ _ _ h; exact h) (Or.inl ⟨by rfl, fun w hS => by go_simp⟩) hH ?_
    simp only [Act.put, List.setIfInBounds_toArray, List.set_cons_zero, List.set_cons_succ]
    refine wpAnyH_done (by kernel_rfl) ?_ _
    have hB := hH
    clear hH
    clear va0_0 va0_1 va2_0 va2_1 vw_0 vw_1 vw_2 vx0_0 vx0_1 vx2_0 vx2_1 vg_0 vg_1 vg_2
    replace VA0 := hid (var_below hB VA0.out)
    replace VA2 := hid (var_below hB VA2.out)
    replace VW := hid (var_below hB VW.out)
    replace VX0 := hid (var_below hB VX0.out)
    replace VX2 := hid (var_below hB VX2.out)
    replace VG := hid (var_below hB VG.out)
    replace X0 := hid (X0.out.below hB)
    replace X2 := hid (X2.out.below hB)
    replace OG := hid (OG.out.below hB)
    replace BB := hid (BB.out.trans (hB.mono BB.out.size))
    replace BW := hid (BW.out.trans (hB.mono BW.out.size))
    have Z13 := hid (hB.size)
    clear hB
    generalize x3 = w8 at *
    obtain ⟨va0_0, va0_1, -, -⟩ := var2_facts VA0.out
    obtain ⟨va2_0, va2_1, -, -⟩ := var2_facts VA2.out
    obtain ⟨⟨vw_0, vw_1, vw_2⟩, -⟩ := var3_facts VW.out
    obtain ⟨vx0_0, vx0_1, -, -⟩ := var2_facts VX0.out
    obtain ⟨vx2_0, vx2_1, -, -⟩ := var2_facts VX2.out
    obtain ⟨⟨vg_0, vg_1, vg_2⟩, -⟩ := var3_facts VG.out
    go_wp2_with fail
    refine wp_region_held_drew (S := fun w' => Below w8.heap.size w8 w') (by kernel_rfl) (Below.refl _ _).drew (fun hH => ?_)
    refine wpAnyH_take (i := 0) (v := .agg #[.int .i64 p2, .slice (some ⟨gX2, 0, none⟩) l2.length l2.length]) (by simp only [List.getElem?_toArray, List.getElem?_cons_zero]; rfl) (by kernel_rfl) (by kernel_rfl) (by kernel_rfl) (by intro _ _ _ h; exact h) (Or.inl ⟨by rfl, fun w hS => by (have y0 := cell_kept hS vx2_0; have y1 := cell_kept hS vx2_1; go_simp)⟩) hH ?_
    simp only [Act.put, List.setIfInBounds_toArray, List.set_cons_zero, List.set_cons_succ]
    refine wpAnyH_take (i := 1) (v := .agg #[.int .i64 p2, .slice b2 l2.length cap2]) (by simp only [List.getElem?_toArray, List.getElem?_cons_succ, List.getElem?_cons_zero]; rfl) (by kernel_rfl) (by kernel_rfl) (by kernel_rfl) (by intro _ _ _ h; exact h) (Or.inl ⟨by rfl, fun w hS => by (have y0 := cell_kept hS va2_0; have y1 := cell_kept hS va2_1; go_simp)⟩) hH ?_
    simp only [Act.put, List.setIfInBounds_toArray, List.set_cons_zero, List.set_cons_succ]
    refine wpAnyH_ready (rs := [2]) (by kernel_rfl) (by simp) ?_
    refine AllReadyH.cons (by simp only [List.getElem?_toArray, List.getElem?_cons_succ, List.getElem?_cons_zero]; rfl) (fun K hK => ?_) AllReadyH.nil
    go_simp
    refine (toKo p2 _ l2 _ ((HA2.out.below BB.out).below hH) hk2).mono ?_
    rintro e x2 ⟨gZ, rfl, hF, hM⟩
    refine hK.out _ _ (hH.trans (hM.mono hH.size)) (fun hH => ?_)
    clear hK K
    have XZ := hid hF.rd
    clear hF
    clear hM
    refine wpAnyH_ready (rs := [3]) (by kernel_rfl) (by simp) ?_
    refine AllReadyH.cons (by simp only [List.getElem?_toArray, List.getElem?_cons_succ, List.getElem?_cons_zero]; rfl) (fun K hK => ?_) AllReadyH.nil
    go_simp
    refine (eqK p2 _ _ l2 _ (X2.out.rd.below hH) XZ.out hk2).mono ?_
    rintro e x3 ⟨rfl, hM⟩
    refine hK.out _ _ (hH.trans (hM.mono hH.size)) (fun hH => ?_)
    clear hK K
    clear XZ
    clear hM
    refine wpAnyH_take (i := 4) (v := .bool false) (by simp only [List.getElem?_toArray, List.getElem?_cons_succ, List.getElem?_cons_zero]; rfl) (by kernel_rfl) (by kernel_rfl) (by kernel_rfl) (by intro _ _ _ h; exact h) (Or.inl ⟨by rfl, fun w hS => by go_simp⟩) hH ?_
    simp only [Act.put, List.setIfInBounds_toArray, List.set_cons_zero, List.set_cons_succ]
    refine wpAnyH_done (by kernel_rfl) ?_ _
    have hB := hH
    clear hH
    clear va0_0 va0_1 va2_0 va2_1 vw_0 vw_1 vw_2 vx0_0 vx0_1 vx2_0 vx2_1 vg_0 vg_1 vg_2
    replace VA0 := hid (var_below hB VA0.out)
    replace VA2 := hid (var_below hB VA2.out)
    replace VW := hid (var_below hB VW.out)
    replace VX0 := hid (var_below hB VX0.out)
    replace VX2 := hid (var_below hB VX2.out)
    replace VG := hid (var_below hB VG.out)
    replace X0 := hid (X0.out.below hB)
    replace X2 := hid (X2.out.below hB)
    replace OG := hid (OG.out.below hB)
    replace BB := hid (BB.out.trans (hB.mono BB.out.size))
    replace BW := hid (BW.out.trans (hB.mono BW.out.size))
    have Z14 := hid (hB.size)
    clear hB
    generalize x3 = w9 at *
    obtain ⟨va0_0, va0_1, -, -⟩ := var2_facts VA0.out
    obtain ⟨va2_0, va2_1, -, -⟩ := var2_facts VA2.out
    obtain ⟨⟨vw_0, vw_1, vw_2⟩, -⟩ := var3_facts VW.out
    obtain ⟨vx0_0, vx0_1, -, -⟩ := var2_facts VX0.out
    obtain ⟨vx2_0, vx2_1, -, -⟩ := var2_facts VX2.out
    obtain ⟨⟨vg_0, vg_1, vg_2⟩, -⟩ := var3_facts VG.out
    go_wp2_with fail
    clear va0_0 va0_1 va2_0 va2_1 vw_0 vw_1 vw_2 vx0_0 vx0_1 vx2_0 vx2_1 vg_0 vg_1 vg_2
    refine (markRo p0 _ ks0 1 _ rfl _ _ _ X0.out hk0 (by omega)).mono ?_
    rintro e w10 ⟨rfl, -, hI⟩
    replace VA0 := hid (hI.var VA0.out (by have := Z1.out; have := Z2.out; have := Z3.out; have := Z4.out; have := Z5.out; have := Z6.out; have := Z7.out; have := Z8.out; have := Z9.out; have := Z10.out; have := Z11.out; have := Z12.out; have := Z13.out; have := Z14.out; omega))
    replace VA2 := hid (hI.var VA2.out (by have := Z1.out; have := Z2.out; have := Z3.out; have := Z4.out; have := Z5.out; have := Z6.out; have := Z7.out; have := Z8.out; have := Z9.out; have := Z10.out; have := Z11.out; have := Z12.out; have := Z13.out; have := Z14.out; omega))
    replace VW := hid (hI.var VW.out (by have := Z1.out; have := Z2.out; have := Z3.out; have := Z4.out; have := Z5.out; have := Z6.out; have := Z7.out; have := Z8.out; have := Z9.out; have := Z10.out; have := Z11.out; have := Z12.out; have := Z13.out; have := Z14.out; omega))
    replace VX0 := hid (hI.var VX0.out (by have := Z1.out; have := Z2.out; have := Z3.out; have := Z4.out; have := Z5.out; have := Z6.out; have := Z7.out; have := Z8.out; have := Z9.out; have := Z10.out; have := Z11.out; have := Z12.out; have := Z13.out; have := Z14.out; omega))
    replace VX2 := hid (hI.var VX2.out (by have := Z1.out; have := Z2.out; have := Z3.out; have := Z4.out; have := Z5.out; have := Z6.out; have := Z7.out; have := Z8.out; have := Z9.out; have := Z10.out; have := Z11.out; have := Z12.out; have := Z13.out; have := Z14.out; omega))
    replace VG := hid (hI.var VG.out (by have := Z1.out; have := Z2.out; have := Z3.out; have := Z4.out; have := Z5.out; have := Z6.out; have := Z7.out; have := Z8.out; have := Z9.out; have := Z10.out; have := Z11.out; have := Z12.out; have := Z13.out; have := Z14.out; omega))
    replace X2 := hid (X2.out.agr (Agr.of_ins hI (by have := Z1.out; have := Z2.out; have := Z3.out; have := Z4.out; have := Z5.out; have := Z6.out; have := Z7.out; have := Z8.out; have := Z9.out; have := Z10.out; have := Z11.out; have := Z12.out; have := Z13.out; have := Z14.out; omega) (by have := Z1.out; have := Z2.out; have := Z3.out; have := Z4.out; have := Z5.out; have := Z6.out; have := Z7.out; have := Z8.out; have := Z9.out; have := Z10.out; have := Z11.out; have := Z12.out; have := Z13.out; have := Z14.out; omega)))
    replace OG := hid (OG.out.agr (Agr.of_ins hI (by have := Z1.out; have := Z2.out; have := Z3.out; have := Z4.out; have := Z5.out; have := Z6.out; have := Z7.out; have := Z8.out; have := Z9.out; have := Z10.out; have := Z11.out; have := Z12.out; have := Z13.out; have := Z14.out; omega) (by have := Z1.out; have := Z2.out; have := Z3.out; have := Z4.out; have := Z5.out; have := Z6.out; have := Z7.out; have := Z8.out; have := Z9.out; have := Z10.out; have := Z11.out; have := Z12.out; have := Z13.out; have := Z14.out; omega)))
    replace BB := hid (BB.out.trans (hI.below (by have := Z1.out; have := Z2.out; have := Z3.out; have := Z4.out; have := Z5.out; have := Z6.out; have := Z7.out; have := Z8.out; have := Z9.out; have := Z10.out; have := Z11.out; have := Z12.out; have := Z13.out; have := Z14.out; omega) BB.out.size))
    replace BW := hid (BW.out.trans (hI.below (by have := Z1.out; have := Z2.out; have := Z3.out; have := Z4.out; have := Z5.out; have := Z6.out; have := Z7.out; have := Z8.out; have := Z9.out; have := Z10.out; have := Z11.out; have := Z12.out; have := Z13.out; have := Z14.out; omega) BW.out.size))
    have Z15 := hid (hI.size)
    clear hI
    clear X0
    obtain ⟨k1, hkk⟩ : ∃ m : Nat, m = 1 + (ks0.length + tot ks0) := ⟨_, rfl⟩
    rw [← hkk]
    have kb1 : k1 ≤ 1048577 := by omega
    clear hkk
    obtain ⟨va0_0, va0_1, -, -⟩ := var2_facts VA0.out
    obtain ⟨va2_0, va2_1, -, -⟩ := var2_facts VA2.out
    obtain ⟨⟨vw_0, vw_1, vw_2⟩, -⟩ := var3_facts VW.out
    obtain ⟨vx0_0, vx0_1, -, -⟩ := var2_facts VX0.out
    obtain ⟨vx2_0, vx2_1, -, -⟩ := var2_facts VX2.out
    obtain ⟨⟨vg_0, vg_1, vg_2⟩, -⟩ := var3_facts VG.out
    go_wp2_with fail
    clear va0_0 va0_1 va2_0 va2_1 vw_0 vw_1 vw_2 vx0_0 vx0_1 vx2_0 vx2_1 vg_0 vg_1 vg_2
    refine (markKo p2 _ l2 k1 _ rfl _ _ _ X2.out hk2 (by omega)).mono ?_
    rintro e w11 ⟨rfl, -, hI⟩
    replace VA0 := hid (hI.var VA0.out (by have := Z1.out; have := Z2.out; have := Z3.out; have := Z4.out; have := Z5.out; have := Z6.out; have := Z7.out; have := Z8.out; have := Z9.out; have := Z10.out; have := Z11.out; have := Z12.out; have := Z13.out; have := Z14.out; have := Z15.out; omega))
    replace VA2 := hid (hI.var VA2.out (by have := Z1.out; have := Z2.out; have := Z3.out; have := Z4.out; have := Z5.out; have := Z6.out; have := Z7.out; have := Z8.out; have := Z9.out; have := Z10.out; have := Z11.out; have := Z12.out; have := Z13.out; have := Z14.out; have := Z15.out; omega))
    replace VW := hid (hI.var VW.out (by have := Z1.out; have := Z2.out; have := Z3.out; have := Z4.out; have := Z5.out; have := Z6.out; have := Z7.out; have := Z8.out; have := Z9.out; have := Z10.out; have := Z11.out; have := Z12.out; have := Z13.out; have := Z14.out; have := Z15.out; omega))
    replace VX0 := hid (hI.var VX0.out (by have := Z1.out; have := Z2.out; have := Z3.out; have := Z4.out; have := Z5.out; have := Z6.out; have := Z7.out; have := Z8.out; have := Z9.out; have := Z10.out; have := Z11.out; have := Z12.out; have := Z13.out; have := Z14.out; have := Z15.out; omega))
    replace VX2 := hid (hI.var VX2.out (by have := Z1.out; have := Z2.out; have := Z3.out; have := Z4.out; have := Z5.out; have := Z6.out; have := Z7.out; have := Z8.out; have := Z9.out; have := Z10.out; have := Z11.out; have := Z12.out; have := Z13.out; have := Z14.out; have := Z15.out; omega))
    replace VG := hid (hI.var VG.out (by have := Z1.out; have := Z2.out; have := Z3.out; have := Z4.out; have := Z5.out; have := Z6.out; have := Z7.out; have := Z8.out; have := Z9.out; have := Z10.out; have := Z11.out; have := Z12.out; have := Z13.out; have := Z14.out; have := Z15.out; omega))
    replace OG := hid (OG.out.agr (Agr.of_ins hI (by have := Z1.out; have := Z2.out; have := Z3.out; have := Z4.out; have := Z5.out; have := Z6.out; have := Z7.out; have := Z8.out; have := Z9.out; have := Z10.out; have := Z11.out; have := Z12.out; have := Z13.out; have := Z14.out; have := Z15.out; omega) (by have := Z1.out; have := Z2.out; have := Z3.out; have := Z4.out; have := Z5.out; have := Z6.out; have := Z7.out; have := Z8.out; have := Z9.out; have := Z10.out; have := Z11.out; have := Z12.out; have := Z13.out; have := Z14.out; have := Z15.out; omega)))
    replace BB := hid (BB.out.trans (hI.below (by have := Z1.out; have := Z2.out; have := Z3.out; have := Z4.out; have := Z5.out; have := Z6.out; have := Z7.out; have := Z8.out; have := Z9.out; have := Z10.out; have := Z11.out; have := Z12.out; have := Z13.out; have := Z14.out; have := Z15.out; omega) BB.out.size))
    replace BW := hid (BW.out.trans (hI.below (by have := Z1.out; have := Z2.out; have := Z3.out; have := Z4.out; have := Z5.out; have := Z6.out; have := Z7.out; have := Z8.out; have := Z9.out; have := Z10.out; have := Z11.out; have := Z12.out; have := Z13.out; have := Z14.out; have := Z15.out; omega) BW.out.size))
    have Z16 := hid (hI.size)
    clear hI
    clear X2
    obtain ⟨k3, hkk⟩ : ∃ m : Nat, m = k1 + l2.length := ⟨_, rfl⟩
    rw [← hkk]
    have kb3 : k3 ≤ 2097153 := by omega
    clear hkk
    have hk0 : decide ((k3 : Int) < 0) = false := decide_eq_false (by omega)
    obtain ⟨va0_0, va0_1, -, -⟩ := var2_facts VA0.out
    obtain ⟨va2_0, va2_1, -, -⟩ := var2_facts VA2.out
    obtain ⟨⟨vw_0, vw_1, vw_2⟩, -⟩ := var3_facts VW.out
    obtain ⟨vx0_0, vx0_1, -, -⟩ := var2_facts VX0.out
    obtain ⟨vx2_0, vx2_1, -, -⟩ := var2_facts VX2.out
    obtain ⟨⟨vg_0, vg_1, vg_2⟩, -⟩ := var3_facts VG.out
    go_wp2_with fail
    clear va0_0 va0_1 va2_0 va2_1 vw_0 vw_1 vw_2 vx0_0 vx0_1 vx2_0 vx2_1 vg_0 vg_1 vg_2
    refine (eqRR c rk _ _ l _ OG.out.rd (RW.out.below BW.out) hl).mono ?_
    rintro e w12 ⟨rfl, hB⟩
    replace VA0 := hid (var_below hB VA0.out)
    replace VA2 := hid (var_below hB VA2.out)
    replace VW := hid (var_below hB VW.out)
    replace VX0 := hid (var_below hB VX0.out)
    replace VX2 := hid (var_below hB VX2.out)
    replace VG := hid (var_below hB VG.out)
    replace OG := hid (OG.out.below hB)
    replace BB := hid (BB.out.trans (hB.mono BB.out.size))
    replace BW := hid (BW.out.trans (hB.mono BW.out.size))
    have Z17 := hid (hB.size)
    clear hB
    clear hk0
    obtain ⟨va0_0, va0_1, -, -⟩ := var2_facts VA0.out
    obtain ⟨va2_0, va2_1, -, -⟩ := var2_facts VA2.out
    obtain ⟨⟨vw_0, vw_1, vw_2⟩, -⟩ := var3_facts VW.out
    obtain ⟨vx0_0, vx0_1, -, -⟩ := var2_facts VX0.out
    obtain ⟨vx2_0, vx2_1, -, -⟩ := var2_facts VX2.out
    obtain ⟨⟨vg_0, vg_1, vg_2⟩, -⟩ := var3_facts VG.out
    go_wp2_with fail
    clear va0_0 va0_1 va2_0 va2_1 vw_0 vw_1 vw_2 vx0_0 vx0_1 vx2_0 vx2_1 vg_0 vg_1 vg_2
    refine (markRRo c rk _ l 1 _ rfl _ _ _ OG.out hl (by omega)).mono ?_
    rintro e w13 ⟨rfl, hF, hI⟩
    replace OG := hid hF
    clear hF
    replace VA0 := hid (hI.var VA0.out (by have := Z1.out; have := Z2.out; have := Z3.out; have := Z4.out; have := Z5.out; have := Z6.out; have := Z7.out; have := Z8.out; have := Z9.out; have := Z10.out; have := Z11.out; have := Z12.out; have := Z13.out; have := Z14.out; have := Z15.out; have := Z16.out; have := Z17.out; omega))
    replace VA2 := hid (hI.var VA2.out (by have := Z1.out; have := Z2.out; have := Z3.out; have := Z4.out; have := Z5.out; have := Z6.out; have := Z7.out; have := Z8.out; have := Z9.out; have := Z10.out; have := Z11.out; have := Z12.out; have := Z13.out; have := Z14.out; have := Z15.out; have := Z16.out; have := Z17.out; omega))
    replace VW := hid (hI.var VW.out (by have := Z1.out; have := Z2.out; have := Z3.out; have := Z4.out; have := Z5.out; have := Z6.out; have := Z7.out; have := Z8.out; have := Z9.out; have := Z10.out; have := Z11.out; have := Z12.out; have := Z13.out; have := Z14.out; have := Z15.out; have := Z16.out; have := Z17.out; omega))
    replace VX0 := hid (hI.var VX0.out (by have := Z1.out; have := Z2.out; have := Z3.out; have := Z4.out; have := Z5.out; have := Z6.out; have := Z7.out; have := Z8.out; have := Z9.out; have := Z10.out; have := Z11.out; have := Z12.out; have := Z13.out; have := Z14.out; have := Z15.out; have := Z16.out; have := Z17.out; omega))
    replace VX2 := hid (hI.var VX2.out (by have := Z1.out; have := Z2.out; have := Z3.out; have := Z4.out; have := Z5.out; have := Z6.out; have := Z7.out; have := Z8.out; have := Z9.out; have := Z10.out; have := Z11.out; have := Z12.out; have := Z13.out; have := Z14.out; have := Z15.out; have := Z16.out; have := Z17.out; omega))
    replace VG := hid (hI.var VG.out (by have := Z1.out; have := Z2.out; have := Z3.out; have := Z4.out; have := Z5.out; have := Z6.out; have := Z7.out; have := Z8.out; have := Z9.out; have := Z10.out; have := Z11.out; have := Z12.out; have := Z13.out; have := Z14.out; have := Z15.out; have := Z16.out; have := Z17.out; omega))
    replace BB := hid (BB.out.trans (hI.below (by have := Z1.out; have := Z2.out; have := Z3.out; have := Z4.out; have := Z5.out; have := Z6.out; have := Z7.out; have := Z8.out; have := Z9.out; have := Z10.out; have := Z11.out; have := Z12.out; have := Z13.out; have := Z14.out; have := Z15.out; have := Z16.out; have := Z17.out; omega) BB.out.size))
    replace BW := hid (BW.out.trans (hI.below (by have := Z1.out; have := Z2.out; have := Z3.out; have := Z4.out; have := Z5.out; have := Z6.out; have := Z7.out; have := Z8.out; have := Z9.out; have := Z10.out; have := Z11.out; have := Z12.out; have := Z13.out; have := Z14.out; have := Z15.out; have := Z16.out; have := Z17.out; omega) BW.out.size))
    have Z18 := hid (hI.size)
    clear hI
    obtain ⟨m1, hm1⟩ : ∃ m : Nat, m = 1 + (l.length + tot l) := ⟨_, rfl⟩
    rw [← hm1]
    have HM := hid hm1
    clear hm1
    have hm0 : decide ((m1 : Int) < 0) = false := decide_eq_false (by omega)
    obtain ⟨va0_0, va0_1, -, -⟩ := var2_facts VA0.out
    obtain ⟨va2_0, va2_1, -, -⟩ := var2_facts VA2.out
    obtain ⟨⟨vw_0, vw_1, vw_2⟩, -⟩ := var3_facts VW.out
    obtain ⟨vx0_0, vx0_1, -, -⟩ := var2_facts VX0.out
    obtain ⟨vx2_0, vx2_1, -, -⟩ := var2_facts VX2.out
    obtain ⟨⟨vg_0, vg_1, vg_2⟩, -⟩ := var3_facts VG.out
    go_wp2_with fail
    clear va0_0 va0_1 va2_0 va2_1 vw_0 vw_1 vw_2 vx0_0 vx0_1 vx2_0 vx2_1 vg_0 vg_1 vg_2
    refine (heldRRo c rk _ l 1 _ rfl _ OG.out.rd hl (by omega)).mono ?_
    rintro e w14 ⟨rfl, hB⟩
    rw [← HM.out]
    replace VA0 := hid (var_below hB VA0.out)
    replace VA2 := hid (var_below hB VA2.out)
    replace VW := hid (var_below hB VW.out)
    replace VX0 := hid (var_below hB VX0.out)
    replace VX2 := hid (var_below hB VX2.out)
    replace VG := hid (var_below hB VG.out)
    replace OG := hid (OG.out.below hB)
    replace BB := hid (BB.out.trans (hB.mono BB.out.size))
    replace BW := hid (BW.out.trans (hB.mono BW.out.size))
    have Z19 := hid (hB.size)
    clear hB
    obtain ⟨va0_0, va0_1, -, -⟩ := var2_facts VA0.out
    obtain ⟨va2_0, va2_1, -, -⟩ := var2_facts VA2.out
    obtain ⟨⟨vw_0, vw_1, vw_2⟩, -⟩ := var3_facts VW.out
    obtain ⟨vx0_0, vx0_1, -, -⟩ := var2_facts VX0.out
    obtain ⟨vx2_0, vx2_1, -, -⟩ := var2_facts VX2.out
    obtain ⟨⟨vg_0, vg_1, vg_2⟩, -⟩ := var3_facts VG.out
    go_wp2_with fail
    refine wp_region_held_drew (S := fun w' => Below w14.heap.size w14 w') (by kernel_rfl) (Below.refl _ _).drew (fun hH => ?_)
    generalize w14.drew = x at hH ⊢
    refine wpAnyH_take (i := 0) (v := .agg #[.int .i64 p0, .slice b0 ks0.length cap0]) (by simp only [List.getElem?_toArray, List.getElem?_cons_zero]; rfl) (by kernel_rfl) (by kernel_rfl) (by kernel_rfl) (by intro _ _ _ h; exact h) (Or.inl ⟨by rfl, fun w hS => by (have y0 := cell_kept hS va0_0; have y1 := cell_kept hS va0_1; go_simp)⟩) hH ?_
    simp only [Act.put, List.setIfInBounds_toArray, List.set_cons_zero, List.set_cons_succ]
    refine wpAnyH_take (i := 2) (v := .int .i64 n1) (by simp only [List.getElem?_toArray, List.getElem?_cons_succ, List.getElem?_cons_zero]; rfl) (by kernel_rfl) (by kernel_rfl) (by kernel_rfl) (by intro _ _ _ h; exact h) (Or.inl ⟨by rfl, fun w hS => by go_simp⟩) hH ?_
    simp only [Act.put, List.setIfInBounds_toArray, List.set_cons_zero, List.set_cons_succ]
    refine wpAnyH_take (i := 3) (v := .agg #[.int .i64 p2, .slice b2 l2.length cap2]) (by simp only [List.getElem?_toArray, List.getElem?_cons_succ, List.getElem?_cons_zero]; rfl) (by kernel_rfl) (by kernel_rfl) (by kernel_rfl) (by intro _ _ _ h; exact h) (Or.inl ⟨by rfl, fun w hS => by (have y0 := cell_kept hS va2_0; have y1 := cell_kept hS va2_1; go_simp)⟩) hH ?_
    simp only [Act.put, List.setIfInBounds_toArray, List.set_cons_zero, List.set_cons_succ]
    refine wpAnyH_ready (rs := [1, 6]) (by kernel_rfl) (by simp) ?_
    refine AllReadyH.cons (by simp only [List.getElem?_toArray, List.getElem?_cons_succ, List.getElem?_cons_zero]; rfl) (fun K hK => ?_) ?_
    · go_simp
      refine (toRo p0 _ ks0 _ ((HA0.out.below BB.out).below hH) hk0).mono ?_
      rintro e x1 ⟨gT0, rfl, hF, hM⟩
      refine hK.out _ _ (hH.trans (hM.mono hH.size)) (fun hH => ?_)
      clear hK K
      have T0 := hid hF.rd
      clear hF hM
      refine wpAnyH_ready (rs := [4, 6]) (by kernel_rfl) (by simp) ?_
      refine AllReadyH.cons (by simp only [List.getElem?_toArray, List.getElem?_cons_succ, List.getElem?_cons_zero]; rfl) (fun K hK => ?_) ?_
      · go_simp
        refine (toKo p2 _ l2 _ ((HA2.out.below BB.out).below hH) hk2).mono ?_
        rintro e x4 ⟨gT2, rfl, hF, hM⟩
        refine hK.out _ _ (hH.trans (hM.mono hH.size)) (fun hH => ?_)
        clear hK K
        replace T0 := hid (T0.out.below hM)
        have T2 := hid hF.rd
        clear hF hM
        refine wpAnyH_ready (rs := [5, 6]) (by kernel_rfl) (by simp) ?_
        refine AllReadyH.cons (by simp only [List.getElem?_toArray, List.getElem?_cons_succ, List.getElem?_cons_zero]; rfl) (fun K hK => ?_) ?_
        · go_simp
          refine (IP.out _ _ _ T0.out T2.out).mono ?_
          rintro e x5 ⟨v, rfl, hR, hM⟩
          obtain ⟨pv, kv, rfl, -, -, -⟩ := hR.rd.parts
          refine hK.out _ _ (hH.trans (hM.mono hH.size)) (fun hH => ?_)
          clear hK K
          replace T0 := hid (T0.out.below hM)
          replace T2 := hid (T2.out.below hM)
          have RR := hid hR.rd
          clear hR hM T0 T2
          refine wpAnyH_ready (rs := [6]) (by kernel_rfl) (by simp) ?_
          refine AllReadyH.cons (by simp only [List.getElem?_toArray, List.getElem?_cons_succ, List.getElem?_cons_zero]; rfl) (fun K hK => ?_) AllReadyH.nil
          go_simp
          have hM := below_alloc1 x5 (.cells #[.int .i64 0, .int .i64 0, .slice none 0 0] 44)
          have LZ := hid hH.size
          replace RR := hid (rdF_new RR.out (.cells #[.int .i64 0, .int .i64 0, .slice none 0 0] 44))
          have VZ := hid (heap_alloc_new x5 (.cells #[.int .i64 0, .int .i64 0, .slice none 0 0] 44))
          refine hK.out _ _ (hH.alloc hH.size _) (fun hH => ?_)
          clear hK K hM
          generalize x5.alloc (.cells #[.int .i64 0, .int .i64 0, .slice none 0 0] 44) = x6 at *
          obtain ⟨gz2, hgz⟩ : ∃ g, g = x5.heap.size := ⟨_, rfl⟩
          rw [← hgz] at VZ LZ RR ⊢
          clear hgz
          refine wpAnyH_ready (rs := [7]) (by kernel_rfl) (by simp) ?_
          refine AllReadyH.cons (by simp only [List.getElem?_toArray, List.getElem?_cons_succ, List.getElem?_cons_zero]; rfl) (fun K hK => ?_) AllReadyH.nil
          obtain ⟨⟨q0, q1, q2⟩, z0, z1, z2⟩ := var3_facts VZ.out
          go_simp
          have VE := hid (w3_set (x' := .int .i64 c) (y' := .int .i64 rk) (z' := .slice pv l.length kv) VZ.out)
          have RE := hid (rdF_set3 (x' := .int .i64 c) (y' := .int .i64 rk) (z' := .slice pv l.length kv) RR.out)
          refine hK.out _ _ (((hH.setCell (p := ⟨gz2, 0, none⟩) LZ.out (.int .i64 c)).setCell (p := ⟨gz2, 1, none⟩) LZ.out (.int .i64 rk)).setCell (p := ⟨gz2, 2, none⟩) LZ.out (.slice pv l.length kv)) (fun hH => ?_)
          clear hK K VZ RR LZ q0 q1 q2 z0 z1 z2
          generalize (((x6.setCell ⟨gz2, 0, none⟩ (.int .i64 c)).setCell ⟨gz2, 1, none⟩ (.int .i64 rk)).setCell ⟨gz2, 2, none⟩ (.slice pv l.length kv)) = xE at *
          refine wpAnyH_done (by kernel_rfl) ?_ _
          have hB := hH
          clear hH
          clear va0_0 va0_1 va2_0 va2_1 vw_0 vw_1 vw_2 vx0_0 vx0_1 vx2_0 vx2_1 vg_0 vg_1 vg_2
          replace VA0 := hid (var_below hB VA0.out)
          replace VA2 := hid (var_below hB VA2.out)
          replace VW := hid (var_below hB VW.out)
          replace VX0 := hid (var_below hB VX0.out)
          replace VX2 := hid (var_below hB VX2.out)
          replace VG := hid (var_below hB VG.out)
          replace OG := hid (OG.out.below hB)
          replace BB := hid (BB.out.trans (hB.mono BB.out.size))
          replace BW := hid (BW.out.trans (hB.mono BW.out.size))
          have Z20 := hid (hB.size)
          clear hB
          generalize xE = w15 at *
          obtain ⟨pH, kH, hpk⟩ : ∃ a b, a = pv ∧ b = kv := ⟨_, _, rfl, rfl⟩
          obtain ⟨rfl, rfl⟩ := hpk
          have OH := RE
          have VH := VE
          clear RE VE
          obtain ⟨va0_0, va0_1, -, -⟩ := var2_facts VA0.out
          obtain ⟨va2_0, va2_1, -, -⟩ := var2_facts VA2.out
          obtain ⟨⟨vw_0, vw_1, vw_2⟩, -⟩ := var3_facts VW.out
          obtain ⟨vx0_0, vx0_1, -, -⟩ := var2_facts VX0.out
          obtain ⟨vx2_0, vx2_1, -, -⟩ := var2_facts VX2.out
          obtain ⟨⟨vg_0, vg_1, vg_2⟩, -⟩ := var3_facts VG.out
          obtain ⟨⟨vh_0, vh_1, vh_2⟩, -⟩ := var3_facts VH.out
          go_wp2_with fail
          clear va0_0 va0_1 va2_0 va2_1 vw_0 vw_1 vw_2 vx0_0 vx0_1 vx2_0 vx2_1 vg_0 vg_1 vg_2 vh_0 vh_1 vh_2
          refine (eqRR c rk _ _ l _ OH.out (RW.out.below BW.out) hl).mono ?_
          rintro e w16 ⟨rfl, hB⟩
          replace VA0 := hid (var_below hB VA0.out)
          replace VA2 := hid (var_below hB VA2.out)
          replace VW := hid (var_below hB VW.out)
          replace VX0 := hid (var_below hB VX0.out)
          replace VX2 := hid (var_below hB VX2.out)
          replace VG := hid (var_below hB VG.out)
          replace VH := hid (var_below hB VH.out)
          replace OG := hid (OG.out.below hB)
          replace OH := hid (OH.out.below hB)
          replace BB := hid (BB.out.trans (hB.mono BB.out.size))
          replace BW := hid (BW.out.trans (hB.mono BW.out.size))
          have Z21 := hid (hB.size)
          clear hB
          clear OH
          obtain ⟨va0_0, va0_1, -, -⟩ := var2_facts VA0.out
          obtain ⟨va2_0, va2_1, -, -⟩ := var2_facts VA2.out
          obtain ⟨⟨vw_0, vw_1, vw_2⟩, -⟩ := var3_facts VW.out
          obtain ⟨vx0_0, vx0_1, -, -⟩ := var2_facts VX0.out
          obtain ⟨vx2_0, vx2_1, -, -⟩ := var2_facts VX2.out
          obtain ⟨⟨vg_0, vg_1, vg_2⟩, -⟩ := var3_facts VG.out
          obtain ⟨⟨vh_0, vh_1, vh_2⟩, -⟩ := var3_facts VH.out
          go_wp2_with fail
          clear va0_0 va0_1 va2_0 va2_1 vw_0 vw_1 vw_2 vx0_0 vx0_1 vx2_0 vx2_1 vg_0 vg_1 vg_2 vh_0 vh_1 vh_2
          refine (heldRRo c rk _ l 1 _ rfl _ OG.out.rd hl (by omega)).mono ?_
          rintro e w17 ⟨rfl, hB⟩
          rw [← HM.out]
          replace VA0 := hid (var_below hB VA0.out)
          replace VA2 := hid (var_below hB VA2.out)
          replace VW := hid (var_below hB VW.out)
          replace VX0 := hid (var_below hB VX0.out)
          replace VX2 := hid (var_below hB VX2.out)
          replace VG := hid (var_below hB VG.out)
          replace VH := hid (var_below hB VH.out)
          replace OG := hid (OG.out.below hB)
          replace BB := hid (BB.out.trans (hB.mono BB.out.size))
          replace BW := hid (BW.out.trans (hB.mono BW.out.size))
          have Z22 := hid (hB.size)
          clear hB
          go_wp2
          go_ret
          exact ⟨rfl, BB.out⟩
        refine AllReadyH.cons (by simp only [List.getElem?_toArray, List.getElem?_cons_succ, List.getElem?_cons_zero]; rfl) (fun K hK => ?_) AllReadyH.nil
        go_simp
        have hM := below_alloc1 x4 (.cells #[.int .i64 0, .int .i64 0, .slice none 0 0] 44)
        have LZ := hid hH.size
        replace T0 := hid (T0.out.below hM)
        replace T2 := hid (T2.out.below hM)
        have VZ := hid (heap_alloc_new x4 (.cells #[.int .i64 0, .int .i64 0, .slice none 0 0] 44))
        refine hK.out _ _ (hH.alloc hH.size _) (fun hH => ?_)
        clear hK K hM
        generalize x4.alloc (.cells #[.int .i64 0, .int .i64 0, .slice none 0 0] 44) = x6 at *
        obtain ⟨gz2, hgz⟩ : ∃ g, g = x4.heap.size := ⟨_, rfl⟩
        rw [← hgz] at VZ LZ ⊢
        clear hgz
        refine wpAnyH_ready (rs := [5]) (by kernel_rfl) (by simp) ?_
        refine AllReadyH.cons (by simp only [List.getElem?_toArray, List.getElem?_cons_succ, List.getElem?_cons_zero]; rfl) (fun K hK => ?_) AllReadyH.nil
        go_simp
        refine (IP.out _ _ _ T0.out T2.out).mono ?_
        rintro e x5 ⟨v, rfl, hR, hM⟩
        obtain ⟨pv, kv, rfl, -, -, -⟩ := hR.rd.parts
        have FG := hid (var_lt VZ.out)
        refine hK.out _ _ (hH.trans (hM.mono hH.size)) (fun hH => ?_)
        clear hK K
        replace T0 := hid (T0.out.below hM)
        replace T2 := hid (T2.out.below hM)
        replace VZ := hid (var_below hM VZ.out)
        have RR := hid (rdF_far hR.far FG.out)
        clear FG
        clear hR hM T0 T2
        refine wpAnyH_ready (rs := [7]) (by kernel_rfl) (by simp) ?_
        refine AllReadyH.cons (by simp only [List.getElem?_toArray, List.getElem?_cons_succ, List.getElem?_cons_zero]; rfl) (fun K hK => ?_) AllReadyH.nil
        obtain ⟨⟨q0, q1, q2⟩, z0, z1, z2⟩ := var3_facts VZ.out
        go_simp
        have VE := hid (w3_set (x' := .int .i64 c) (y' := .int .i64 rk) (z' := .slice pv l.length kv) VZ.out)
        have RE := hid (rdF_set3 (x' := .int .i64 c) (y' := .int .i64 rk) (z' := .slice pv l.length kv) RR.out)
        refine hK.out _ _ (((hH.setCell (p := ⟨gz2, 0, none⟩) LZ.out (.int .i64 c)).setCell (p := ⟨gz2, 1, none⟩) LZ.out (.int .i64 rk)).setCell (p := ⟨gz2, 2, none⟩) LZ.out (.slice pv l.length kv)) (fun hH => ?_)
        clear hK K VZ RR LZ q0 q1 q2 z0 z1 z2
        generalize (((x5.setCell ⟨gz2, 0, none⟩ (.int .i64 c)).setCell ⟨gz2, 1, none⟩ (.int .i64 rk)).setCell ⟨gz2, 2, none⟩ (.slice pv l.length kv)) = xE at *
        refine wpAnyH_done (by kernel_rfl) ?_ _
        have hB := hH
        clear hH
        clear va0_0 va0_1 va2_0 va2_1 vw_0 vw_1 vw_2 vx0_0 vx0_1 vx2_0 vx2_1 vg_0 vg_1 vg_2
        replace VA0 := hid (var_below hB VA0.out)
        replace VA2 := hid (var_below hB VA2.out)
        replace VW := hid (var_below hB VW.out)
        replace VX0 := hid (var_below hB VX0.out)
        replace VX2 := hid (var_below hB VX2.out)
        replace VG := hid (var_below hB VG.out)
        replace OG := hid (OG.out.below hB)
        replace BB := hid (BB.out.trans (hB.mono BB.out.size))
        replace BW := hid (BW.out.trans (hB.mono BW.out.size))
        have Z20 := hid (hB.size)
        clear hB
        generalize xE = w15 at *
        obtain ⟨pH, kH, hpk⟩ : ∃ a b, a = pv ∧ b = kv := ⟨_, _, rfl, rfl⟩
        obtain ⟨rfl, rfl⟩ := hpk
        have OH := RE
        have VH := VE
        clear RE VE
        obtain ⟨va0_0, va0_1, -, -⟩ := var2_facts VA0.out
        obtain ⟨va2_0, va2_1, -, -⟩ := var2_facts VA2.out
        obtain ⟨⟨vw_0, vw_1, vw_2⟩, -⟩ := var3_facts VW.out
        obtain ⟨vx0_0, vx0_1, -, -⟩ := var2_facts VX0.out
        obtain ⟨vx2_0, vx2_1, -, -⟩ := var2_facts VX2.out
        obtain ⟨⟨vg_0, vg_1, vg_2⟩, -⟩ := var3_facts VG.out
        obtain ⟨⟨vh_0, vh_1, vh_2⟩, -⟩ := var3_facts VH.out
        go_wp2_with fail
        clear va0_0 va0_1 va2_0 va2_1 vw_0 vw_1 vw_2 vx0_0 vx0_1 vx2_0 vx2_1 vg_0 vg_1 vg_2 vh_0 vh_1 vh_2
        refine (eqRR c rk _ _ l _ OH.out (RW.out.below BW.out) hl).mono ?_
        rintro e w16 ⟨rfl, hB⟩
        replace VA0 := hid (var_below hB VA0.out)
        replace VA2 := hid (var_below hB VA2.out)
        replace VW := hid (var_below hB VW.out)
        replace VX0 := hid (var_below hB VX0.out)
        replace VX2 := hid (var_below hB VX2.out)
        replace VG := hid (var_below hB VG.out)
        replace VH := hid (var_below hB VH.out)
        replace OG := hid (OG.out.below hB)
        replace OH := hid (OH.out.below hB)
        replace BB := hid (BB.out.trans (hB.mono BB.out.size))
        replace BW := hid (BW.out.trans (hB.mono BW.out.size))
        have Z21 := hid (hB.size)
        clear hB
        clear OH
        obtain ⟨va0_0, va0_1, -, -⟩ := var2_facts VA0.out
        obtain ⟨va2_0, va2_1, -, -⟩ := var2_facts VA2.out
        obtain ⟨⟨vw_0, vw_1, vw_2⟩, -⟩ := var3_facts VW.out
        obtain ⟨vx0_0, vx0_1, -, -⟩ := var2_facts VX0.out
        obtain ⟨vx2_0, vx2_1, -, -⟩ := var2_facts VX2.out
        obtain ⟨⟨vg_0, vg_1, vg_2⟩, -⟩ := var3_facts VG.out
        obtain ⟨⟨vh_0, vh_1, vh_2⟩, -⟩ := var3_facts VH.out
        go_wp2_with fail
        clear va0_0 va0_1 va2_0 va2_1 vw_0 vw_1 vw_2 vx0_0 vx0_1 vx2_0 vx2_1 vg_0 vg_1 vg_2 vh_0 vh_1 vh_2
        refine (heldRRo c rk _ l 1 _ rfl _ OG.out.rd hl (by omega)).mono ?_
        rintro e w17 ⟨rfl, hB⟩
        rw [← HM.out]
        replace VA0 := hid (var_below hB VA0.out)
        replace VA2 := hid (var_below hB VA2.out)
        replace VW := hid (var_below hB VW.out)
        replace VX0 := hid (var_below hB VX0.out)
        replace VX2 := hid (var_below hB VX2.out)
        replace VG := hid (var_below hB VG.out)
        replace VH := hid (var_below hB VH.out)
        replace OG := hid (OG.out.below hB)
        replace BB := hid (BB.out.trans (hB.mono BB.out.size))
        replace BW := hid (BW.out.trans (hB.mono BW.out.size))
        have Z22 := hid (hB.size)
        clear hB
        go_wp2
        go_ret
        exact ⟨rfl, BB.out⟩
      refine AllReadyH.cons (by simp only [List.getElem?_toArray, List.getElem?_cons_succ, List.getElem?_cons_zero]; rfl) (fun K hK => ?_) AllReadyH.nil
      go_simp
      have hM := below_alloc1 x1 (.cells #[.int .i64 0, .int .i64 0, .slice none 0 0] 44)
      have LZ := hid hH.size
      replace T0 := hid (T0.out.below hM)
      have VZ := hid (heap_alloc_new x1 (.cells #[.int .i64 0, .int .i64 0, .slice none 0 0] 44))
      refine hK.out _ _ (hH.alloc hH.size _) (fun hH => ?_)
      clear hK K hM
      generalize x1.alloc (.cells #[.int .i64 0, .int .i64 0, .slice none 0 0] 44) = x6 at *
      obtain ⟨gz2, hgz⟩ : ∃ g, g = x1.heap.size := ⟨_, rfl⟩
      rw [← hgz] at VZ LZ ⊢
      clear hgz
      refine wpAnyH_ready (rs := [4]) (by kernel_rfl) (by simp) ?_
      refine AllReadyH.cons (by simp only [List.getElem?_toArray, List.getElem?_cons_succ, List.getElem?_cons_zero]; rfl) (fun K hK => ?_) AllReadyH.nil
      go_simp
      refine (toKo p2 _ l2 _ ((HA2.out.below BB.out).below hH) hk2).mono ?_
      rintro e x4 ⟨gT2, rfl, hF, hM⟩
      refine hK.out _ _ (hH.trans (hM.mono hH.size)) (fun hH => ?_)
      clear hK K
      replace T0 := hid (T0.out.below hM)
      replace VZ := hid (var_below hM VZ.out)
      have T2 := hid hF.rd
      clear hF hM
      refine wpAnyH_ready (rs := [5]) (by kernel_rfl) (by simp) ?_
      refine AllReadyH.cons (by simp only [List.getElem?_toArray, List.getElem?_cons_succ, List.getElem?_cons_zero]; rfl) (fun K hK => ?_) AllReadyH.nil
      go_simp
      refine (IP.out _ _ _ T0.out T2.out).mono ?_
      rintro e x5 ⟨v, rfl, hR, hM⟩
      obtain ⟨pv, kv, rfl, -, -, -⟩ := hR.rd.parts
      have FG := hid (var_lt VZ.out)
      refine hK.out _ _ (hH.trans (hM.mono hH.size)) (fun hH => ?_)
      clear hK K
      replace T0 := hid (T0.out.below hM)
      replace T2 := hid (T2.out.below hM)
      replace VZ := hid (var_below hM VZ.out)
      have RR := hid (rdF_far hR.far FG.out)
      clear FG
      clear hR hM T0 T2
      refine wpAnyH_ready (rs := [7]) (by kernel_rfl) (by simp) ?_
      refine AllReadyH.cons (by simp only [List.getElem?_toArray, List.getElem?_cons_succ, List.getElem?_cons_zero]; rfl) (fun K hK => ?_) AllReadyH.nil
      obtain ⟨⟨q0, q1, q2⟩, z0, z1, z2⟩ := var3_facts VZ.out
      go_simp
      have VE := hid (w3_set (x' := .int .i64 c) (y' := .int .i64 rk) (z' := .slice pv l.length kv) VZ.out)
      have RE := hid (rdF_set3 (x' := .int .i64 c) (y' := .int .i64 rk) (z' := .slice pv l.length kv) RR.out)
      refine hK.out _ _ (((hH.setCell (p := ⟨gz2, 0, none⟩) LZ.out (.int .i64 c)).setCell (p := ⟨gz2, 1, none⟩) LZ.out (.int .i64 rk)).setCell (p := ⟨gz2, 2, none⟩) LZ.out (.slice pv l.length kv)) (fun hH => ?_)
      clear hK K VZ RR LZ q0 q1 q2 z0 z1 z2
      generalize (((x5.setCell ⟨gz2, 0, none⟩ (.int .i64 c)).setCell ⟨gz2, 1, none⟩ (.int .i64 rk)).setCell ⟨gz2, 2, none⟩ (.slice pv l.length kv)) = xE at *
      refine wpAnyH_done (by kernel_rfl) ?_ _
      have hB := hH
      clear hH
      clear va0_0 va0_1 va2_0 va2_1 vw_0 vw_1 vw_2 vx0_0 vx0_1 vx2_0 vx2_1 vg_0 vg_1 vg_2
      replace VA0 := hid (var_below hB VA0.out)
      replace VA2 := hid (var_below hB VA2.out)
      replace VW := hid (var_below hB VW.out)
      replace VX0 := hid (var_below hB VX0.out)
      replace VX2 := hid (var_below hB VX2.out)
      replace VG := hid (var_below hB VG.out)
      replace OG := hid (OG.out.below hB)
      replace BB := hid (BB.out.trans (hB.mono BB.out.size))
      replace BW := hid (BW.out.trans (hB.mono BW.out.size))
      have Z20 := hid (hB.size)
      clear hB
      generalize xE = w15 at *
      obtain ⟨pH, kH, hpk⟩ : ∃ a b, a = pv ∧ b = kv := ⟨_, _, rfl, rfl⟩
      obtain ⟨rfl, rfl⟩ := hpk
      have OH := RE
      have VH := VE
      clear RE VE
      obtain ⟨va0_0, va0_1, -, -⟩ := var2_facts VA0.out
      obtain ⟨va2_0, va2_1, -, -⟩ := var2_facts VA2.out
      obtain ⟨⟨vw_0, vw_1, vw_2⟩, -⟩ := var3_facts VW.out
      obtain ⟨vx0_0, vx0_1, -, -⟩ := var2_facts VX0.out
      obtain ⟨vx2_0, vx2_1, -, -⟩ := var2_facts VX2.out
      obtain ⟨⟨vg_0, vg_1, vg_2⟩, -⟩ := var3_facts VG.out
      obtain ⟨⟨vh_0, vh_1, vh_2⟩, -⟩ := var3_facts VH.out
      go_wp2_with fail
      clear va0_0 va0_1 va2_0 va2_1 vw_0 vw_1 vw_2 vx0_0 vx0_1 vx2_0 vx2_1 vg_0 vg_1 vg_2 vh_0 vh_1 vh_2
      refine (eqRR c rk _ _ l _ OH.out (RW.out.below BW.out) hl).mono ?_
      rintro e w16 ⟨rfl, hB⟩
      replace VA0 := hid (var_below hB VA0.out)
      replace VA2 := hid (var_below hB VA2.out)
      replace VW := hid (var_below hB VW.out)
      replace VX0 := hid (var_below hB VX0.out)
      replace VX2 := hid (var_below hB VX2.out)
      replace VG := hid (var_below hB VG.out)
      replace VH := hid (var_below hB VH.out)
      replace OG := hid (OG.out.below hB)
      replace OH := hid (OH.out.below hB)
      replace BB := hid (BB.out.trans (hB.mono BB.out.size))
      replace BW := hid (BW.out.trans (hB.mono BW.out.size))
      have Z21 := hid (hB.size)
      clear hB
      clear OH
      obtain ⟨va0_0, va0_1, -, -⟩ := var2_facts VA0.out
      obtain ⟨va2_0, va2_1, -, -⟩ := var2_facts VA2.out
      obtain ⟨⟨vw_0, vw_1, vw_2⟩, -⟩ := var3_facts VW.out
      obtain ⟨vx0_0, vx0_1, -, -⟩ := var2_facts VX0.out
      obtain ⟨vx2_0, vx2_1, -, -⟩ := var2_facts VX2.out
      obtain ⟨⟨vg_0, vg_1, vg_2⟩, -⟩ := var3_facts VG.out
      obtain ⟨⟨vh_0, vh_1, vh_2⟩, -⟩ := var3_facts VH.out
      go_wp2_with fail
      clear va0_0 va0_1 va2_0 va2_1 vw_0 vw_1 vw_2 vx0_0 vx0_1 vx2_0 vx2_1 vg_0 vg_1 vg_2 vh_0 vh_1 vh_2
      refine (heldRRo c rk _ l 1 _ rfl _ OG.out.rd hl (by omega)).mono ?_
      rintro e w17 ⟨rfl, hB⟩
      rw [← HM.out]
      replace VA0 := hid (var_below hB VA0.out)
      replace VA2 := hid (var_below hB VA2.out)
      replace VW := hid (var_below hB VW.out)
      replace VX0 := hid (var_below hB VX0.out)
      replace VX2 := hid (var_below hB VX2.out)
      replace VG := hid (var_below hB VG.out)
      replace VH := hid (var_below hB VH.out)
      replace OG := hid (OG.out.below hB)
      replace BB := hid (BB.out.trans (hB.mono BB.out.size))
      replace BW := hid (BW.out.trans (hB.mono BW.out.size))
      have Z22 := hid (hB.size)
      clear hB
      go_wp2
      go_ret
      exact ⟨rfl, BB.out⟩
    refine AllReadyH.cons (by simp only [List.getElem?_toArray, List.getElem?_cons_succ, List.getElem?_cons_zero]; rfl) (fun K hK => ?_) AllReadyH.nil
    go_simp
    have hM := below_alloc1 x (.cells #[.int .i64 0, .int .i64 0, .slice none 0 0] 44)
    have LZ := hid hH.size
    have VZ := hid (heap_alloc_new x (.cells #[.int .i64 0, .int .i64 0, .slice none 0 0] 44))
    refine hK.out _ _ (hH.alloc hH.size _) (fun hH => ?_)
    clear hK K hM
    generalize x.alloc (.cells #[.int .i64 0, .int .i64 0, .slice none 0 0] 44) = x6 at *
    obtain ⟨gz2, hgz⟩ : ∃ g, g = x.heap.size := ⟨_, rfl⟩
    rw [← hgz] at VZ LZ ⊢
    clear hgz
    refine wpAnyH_ready (rs := [1]) (by kernel_rfl) (by simp) ?_
    refine AllReadyH.cons (by simp only [List.getElem?_toArray, List.getElem?_cons_succ, List.getElem?_cons_zero]; rfl) (fun K hK => ?_) AllReadyH.nil
    go_simp
    refine (toRo p0 _ ks0 _ ((HA0.out.below BB.out).below hH) hk0).mono ?_
    rintro e x1 ⟨gT0, rfl, hF, hM⟩
    refine hK.out _ _ (hH.trans (hM.mono hH.size)) (fun hH => ?_)
    clear hK K
    replace VZ := hid (var_below hM VZ.out)
    have T0 := hid hF.rd
    clear hF hM
    refine wpAnyH_ready (rs := [4]) (by kernel_rfl) (by simp) ?_
    refine AllReadyH.cons (by simp only [List.getElem?_toArray, List.getElem?_cons_succ, List.getElem?_cons_zero]; rfl) (fun K hK => ?_) AllReadyH.nil
    go_simp
    refine (toKo p2 _ l2 _ ((HA2.out.below BB.out).below hH) hk2).mono ?_
    rintro e x4 ⟨gT2, rfl, hF, hM⟩
    refine hK.out _ _ (hH.trans (hM.mono hH.size)) (fun hH => ?_)
    clear hK K
    replace T0 := hid (T0.out.below hM)
    replace VZ := hid (var_below hM VZ.out)
    have T2 := hid hF.rd
    clear hF hM
    refine wpAnyH_ready (rs := [5]) (by kernel_rfl) (by simp) ?_
    refine AllReadyH.cons (by simp only [List.getElem?_toArray, List.getElem?_cons_succ, List.getElem?_cons_zero]; rfl) (fun K hK => ?_) AllReadyH.nil
    go_simp
    refine (IP.out _ _ _ T0.out T2.out).mono ?_
    rintro e x5 ⟨v, rfl, hR, hM⟩
    obtain ⟨pv, kv, rfl, -, -, -⟩ := hR.rd.parts
    have FG := hid (var_lt VZ.out)
    refine hK.out _ _ (hH.trans (hM.mono hH.size)) (fun hH => ?_)
    clear hK K
    replace T0 := hid (T0.out.below hM)
    replace T2 := hid (T2.out.below hM)
    replace VZ := hid (var_below hM VZ.out)
    have RR := hid (rdF_far hR.far FG.out)
    clear FG
    clear hR hM T0 T2
    refine wpAnyH_ready (rs := [7]) (by kernel_rfl) (by simp) ?_
    refine AllReadyH.cons (by simp only [List.getElem?_toArray, List.getElem?_cons_succ, List.getElem?_cons_zero]; rfl) (fun K hK => ?_) AllReadyH.nil
    obtain ⟨⟨q0, q1, q2⟩, z0, z1, z2⟩ := var3_facts VZ.out
    go_simp
    have VE := hid (w3_set (x' := .int .i64 c) (y' := .int .i64 rk) (z' := .slice pv l.length kv) VZ.out)
    have RE := hid (rdF_set3 (x' := .int .i64 c) (y' := .int .i64 rk) (z' := .slice pv l.length kv) RR.out)
    refine hK.out _ _ (((hH.setCell (p := ⟨gz2, 0, none⟩) LZ.out (.int .i64 c)).setCell (p := ⟨gz2, 1, none⟩) LZ.out (.int .i64 rk)).setCell (p := ⟨gz2, 2, none⟩) LZ.out (.slice pv l.length kv)) (fun hH => ?_)
    clear hK K VZ RR LZ q0 q1 q2 z0 z1 z2
    generalize (((x5.setCell ⟨gz2, 0, none⟩ (.int .i64 c)).setCell ⟨gz2, 1, none⟩ (.int .i64 rk)).setCell ⟨gz2, 2, none⟩ (.slice pv l.length kv)) = xE at *
    refine wpAnyH_done (by kernel_rfl) ?_ _
    have hB := hH
    clear hH
    clear va0_0 va0_1 va2_0 va2_1 vw_0 vw_1 vw_2 vx0_0 vx0_1 vx2_0 vx2_1 vg_0 vg_1 vg_2
    replace VA0 := hid (var_below hB VA0.out)
    replace VA2 := hid (var_below hB VA2.out)
    replace VW := hid (var_below hB VW.out)
    replace VX0 := hid (var_below hB VX0.out)
    replace VX2 := hid (var_below hB VX2.out)
    replace VG := hid (var_below hB VG.out)
    replace OG := hid (OG.out.below hB)
    replace BB := hid (BB.out.trans (hB.mono BB.out.size))
    replace BW := hid (BW.out.trans (hB.mono BW.out.size))
    have Z20 := hid (hB.size)
    clear hB
    generalize xE = w15 at *
    obtain ⟨pH, kH, hpk⟩ : ∃ a b, a = pv ∧ b = kv := ⟨_, _, rfl, rfl⟩
    obtain ⟨rfl, rfl⟩ := hpk
    have OH := RE
    have VH := VE
    clear RE VE
    obtain ⟨va0_0, va0_1, -, -⟩ := var2_facts VA0.out
    obtain ⟨va2_0, va2_1, -, -⟩ := var2_facts VA2.out
    obtain ⟨⟨vw_0, vw_1, vw_2⟩, -⟩ := var3_facts VW.out
    obtain ⟨vx0_0, vx0_1, -, -⟩ := var2_facts VX0.out
    obtain ⟨vx2_0, vx2_1, -, -⟩ := var2_facts VX2.out
    obtain ⟨⟨vg_0, vg_1, vg_2⟩, -⟩ := var3_facts VG.out
    obtain ⟨⟨vh_0, vh_1, vh_2⟩, -⟩ := var3_facts VH.out
    go_wp2_with fail
    clear va0_0 va0_1 va2_0 va2_1 vw_0 vw_1 vw_2 vx0_0 vx0_1 vx2_0 vx2_1 vg_0 vg_1 vg_2 vh_0 vh_1 vh_2
    refine (eqRR c rk _ _ l _ OH.out (RW.out.below BW.out) hl).mono ?_
    rintro e w16 ⟨rfl, hB⟩
    replace VA0 := hid (var_below hB VA0.out)
    replace VA2 := hid (var_below hB VA2.out)
    replace VW := hid (var_below hB VW.out)
    replace VX0 := hid (var_below hB VX0.out)
    replace VX2 := hid (var_below hB VX2.out)
    replace VG := hid (var_below hB VG.out)
    replace VH := hid (var_below hB VH.out)
    replace OG := hid (OG.out.below hB)
    replace OH := hid (OH.out.below hB)
    replace BB := hid (BB.out.trans (hB.mono BB.out.size))
    replace BW := hid (BW.out.trans (hB.mono BW.out.size))
    have Z21 := hid (hB.size)
    clear hB
    clear OH
    obtain ⟨va0_0, va0_1, -, -⟩ := var2_facts VA0.out
    obtain ⟨va2_0, va2_1, -, -⟩ := var2_facts VA2.out
    obtain ⟨⟨vw_0, vw_1, vw_2⟩, -⟩ := var3_facts VW.out
    obtain ⟨vx0_0, vx0_1, -, -⟩ := var2_facts VX0.out
    obtain ⟨vx2_0, vx2_1, -, -⟩ := var2_facts VX2.out
    obtain ⟨⟨vg_0, vg_1, vg_2⟩, -⟩ := var3_facts VG.out
    obtain ⟨⟨vh_0, vh_1, vh_2⟩, -⟩ := var3_facts VH.out
    go_wp2_with fail
    clear va0_0 va0_1 va2_0 va2_1 vw_0 vw_1 vw_2 vx0_0 vx0_1 vx2_0 vx2_1 vg_0 vg_1 vg_2 vh_0 vh_1 vh_2
    refine (heldRRo c rk _ l 1 _ rfl _ OG.out.rd hl (by omega)).mono ?_
    rintro e w17 ⟨rfl, hB⟩
    rw [← HM.out]
    replace VA0 := hid (var_below hB VA0.out)
    replace VA2 := hid (var_below hB VA2.out)
    replace VW := hid (var_below hB VW.out)
    replace VX0 := hid (var_below hB VX0.out)
    replace VX2 := hid (var_below hB VX2.out)
    replace VG := hid (var_below hB VG.out)
    replace VH := hid (var_below hB VH.out)
    replace OG := hid (OG.out.below hB)
    replace BB := hid (BB.out.trans (hB.mono BB.out.size))
    replace BW := hid (BW.out.trans (hB.mono BW.out.size))
    have Z22 := hid (hB.size)
    clear hB
    go_wp2
    go_ret
    exact ⟨rfl, BB.out⟩
end Go.Proofs.Ytifgcffifffdnaj.W
