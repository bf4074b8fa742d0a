/-
  A ring with one key more: what the model's InstallKey answers.
  A ring's primary, turned: what the model's UseKey answers.
-/
import Derived.Test.YtbfdbicddmffnabGFnTurns2
import Derived.Test.YtbfdbicddmffnabIkF
import Derived.Test.YtbfdbicddmffnabGFnTurns3
import Derived.Test.YtbfdbicddmffnabGFnTurns1
import Derived.Test.YtbfdbicddmffnabUkF

namespace Go.Proofs.Ytbfdbicddmffnab.W
open Go.ChangeShapes Go.WideShapes Go.ChangeAt Go.RowKit
open Go.Proofs.Ytbfdbicddmffnab.M

set_option maxHeartbeats 8000000 in
set_option maxRecDepth 100000 in
theorem sik (p id' : Int) (v u : Value) (ks : List (Int × List Nat)) (xs : List Nat) (c rk : Int) (t : List (Int × List Nat)) (w : World) (h : RdK w v ks) (hu : Rd w u xs) (hF : ikIs p ks (id', xs) c rk t) :
    Calls Try.prog 29 #[.agg #[.int .i64 p, v], .agg #[.int .i64 id', u]] w fun e w' => ∃ v', e = .returned (.agg #[.int .i64 c, .int .i64 rk, v']) ∧ FarK w' w.heap.size v' t ∧ Below w.heap.size w w' := by
  have H := hid h
  have HU := hid hu
  have HF := hid hF
  obtain ⟨a, cap, rfl, -, hcm, -⟩ := h.parts
  obtain ⟨au, cu, rfl, -, -, -⟩ := hu.parts
  clear h hF hcm hu
  go_enter Try.func29, Try.ntmps29
  go_wp2_with fail
  have VA := hid (var_alloc (.cells #[.int .i64 0, .int .i64 0, .slice none 0 0] 44) (heap_alloc2_old w (.cells #[.int .i64 p, .slice a ks.length cap] 38) (.cells #[.int .i64 id', .slice au xs.length cu] 40)))
  have VK := hid (heap_alloc2_old (w.alloc (.cells #[.int .i64 p, .slice a ks.length cap] 38)) (.cells #[.int .i64 id', .slice au xs.length cu] 40) (.cells #[.int .i64 0, .int .i64 0, .slice none 0 0] 44))
  have VR := hid (heap_alloc2_new (w.alloc (.cells #[.int .i64 p, .slice a ks.length cap] 38)) (.cells #[.int .i64 id', .slice au xs.length cu] 40) (.cells #[.int .i64 0, .int .i64 0, .slice none 0 0] 44))
  have BB := hid ((below_alloc1 w (.cells #[.int .i64 p, .slice a ks.length cap] 38)).trans ((below_alloc2 (w.alloc (.cells #[.int .i64 p, .slice a ks.length cap] 38)) (.cells #[.int .i64 id', .slice au xs.length cu] 40) (.cells #[.int .i64 0, .int .i64 0, .slice none 0 0] 44)).mono (by simp)))
  simp only [World.size_alloc] at VK VR
  replace H := hid (H.out.below BB.out)
  replace HU := hid (HU.out.below BB.out)
  generalize ((w.alloc (.cells #[.int .i64 p, .slice a ks.length cap] 38)).alloc (.cells #[.int .i64 id', .slice au xs.length cu] 40)).alloc (.cells #[.int .i64 0, .int .i64 0, .slice none 0 0] 44) = w0 at *
  obtain ⟨g1, hg1⟩ : ∃ g, g = w.heap.size + 1 + 1 := ⟨_, rfl⟩
  obtain ⟨gk, hgk⟩ : ∃ g, g = w.heap.size + 1 := ⟨_, rfl⟩
  obtain ⟨g, hg⟩ : ∃ g, g = w.heap.size := ⟨_, rfl⟩
  have LG := hid (show w.heap.size ≤ g1 by omega)
  rw [← hg1] at VR ⊢
  rw [← hgk] at VK ⊢
  rw [← hg] at VA ⊢
  clear hg hgk hg1
  refine (srf p _ ks _ H.out).mono ?_
  rintro e w1 ⟨rfl, hB⟩
  replace VA := hid (var_below hB VA.out)
  replace VK := hid (var_below hB VK.out)
  replace VR := hid (var_below hB VR.out)
  replace H := hid (H.out.below hB)
  replace HU := hid (HU.out.below hB)
  replace BB := hid (BB.out.trans (hB.mono BB.out.size))
  clear hB
  by_cases h0 : rF p ks = 0
  case neg =>
    obtain ⟨hc, hk', ht'⟩ : c = rF p ks ∧ rk = 0 ∧ t = [] := by
      rcases HF.out with ⟨-, q⟩ | ⟨q, -⟩ | ⟨q, -⟩ | ⟨q, -⟩ | ⟨q, -⟩
      · exact q
      all_goals exact absurd q h0
    subst hk' ht'
    rw [← hc] at h0 ⊢
    have ne : (c != 0) = true := by rw [bne_iff_ne]; exact h0
    replace hc := hid hc
    clear HF h0
    obtain ⟨⟨r0, r1, r2⟩, y0, y1, y2⟩ := w3_facts VR.out
    have hset := hid (w3_set (x' := .int .i64 c) (y' := .int .i64 0) (z' := .slice none 0 0) VR.out)
    have hbel := hid (w3_below (g := g1) (x := .int .i64 c) (y := .int .i64 0) (z := .slice none 0 0) BB.out LG.out)
    go_wp2
    try simp only [Exit.inBlock, Exit.then]
    exact bodyPost_ret (v := .agg #[.int .i64 c, .int .i64 0, .slice none 0 0]) (results_cell_row rfl _ _ g1 44 _ _ _ rfl hset.out Try.underlying44 rfl (by kernel_rfl)) rfl ⟨_, rfl, FarK.nil _ _, hbel.out⟩
  rw [h0]
  obtain ⟨k1, k3, k16, -, -⟩ := rF_parts h0
  have F0 := hid h0
  have K16 := hid (fun i hi => (k16 i hi).2)
  clear h0 k16
  obtain ⟨c0, c1, -, -⟩ := var2_facts VK.out
  go_wp2_with fail
  refine (l4key gk 0 id' au xs.length cu _ c0 c1 xs rfl).mono ?_
  rintro e w2 ⟨rfl, hB⟩
  clear c0 c1
  replace VA := hid (var_below hB VA.out)
  replace VK := hid (var_below hB VK.out)
  replace VR := hid (var_below hB VR.out)
  replace H := hid (H.out.below hB)
  replace HU := hid (HU.out.below hB)
  replace BB := hid (BB.out.trans (hB.mono BB.out.size))
  clear hB
  by_cases hx : kF (id', xs) = 0
  case neg =>
    obtain ⟨hc, hk', ht'⟩ : c = kF (id', xs) ∧ rk = 0 ∧ t = [] := by
      rcases HF.out with ⟨q, -⟩ | ⟨-, -, q⟩ | ⟨-, q, -⟩ | ⟨-, q, -⟩ | ⟨-, q, -⟩
      · exact absurd F0.out q
      · exact q
      all_goals exact absurd q hx
    subst hk' ht'
    rw [← hc] at hx ⊢
    have ne : (c != 0) = true := by rw [bne_iff_ne]; exact hx
    replace hc := hid hc
    clear HF hx
    obtain ⟨⟨r0, r1, r2⟩, y0, y1, y2⟩ := w3_facts VR.out
    have hset := hid (w3_set (x' := .int .i64 c) (y' := .int .i64 0) (z' := .slice none 0 0) VR.out)
    have hbel := hid (w3_below (g := g1) (x := .int .i64 c) (y := .int .i64 0) (z := .slice none 0 0) BB.out LG.out)
    go_wp2
    try simp only [Exit.inBlock, Exit.then]
    exact bodyPost_ret (v := .agg #[.int .i64 c, .int .i64 0, .slice none 0 0]) (results_cell_row rfl _ _ g1 44 _ _ _ rfl hset.out Try.underlying44 rfl (by kernel_rfl)) rfl ⟨_, rfl, FarK.nil _ _, hbel.out⟩
  rw [hx]
  have X0 := hid hx
  have N16 := hid (show xs.length = 16 from (kF_ok hx).2)
  clear hx
  obtain ⟨c0, c1, -, -⟩ := var2_facts VK.out
  go_wp2_with fail
  refine (l4find g p id' _ ks _ VA.out H.out (by omega)).mono ?_
  rintro e w3 ⟨r, rfl, hr, hB⟩
  clear c0 c1
  replace VA := hid (var_below hB VA.out)
  replace VK := hid (var_below hB VK.out)
  replace VR := hid (var_below hB VR.out)
  replace H := hid (H.out.below hB)
  replace HU := hid (HU.out.below hB)
  replace BB := hid (BB.out.trans (hB.mono BB.out.size))
  clear hB
  rcases hr with ⟨rfl, hN⟩ | ⟨i, hi, rfl, he, hn⟩
  case inr =>
    have HH := hid (show Has ks id' from ⟨i, hi, he⟩)
    obtain ⟨rfl, rfl, rfl⟩ : c = 6 ∧ rk = 0 ∧ t = [] := by
      rcases HF.out with ⟨q, -⟩ | ⟨-, q, -⟩ | ⟨-, -, -, q⟩ | ⟨-, -, q, -⟩ | ⟨-, -, q, -⟩
      · exact absurd F0.out q
      · exact absurd X0.out q
      · exact q
      all_goals exact absurd HH.out q
    have i0 : (i : Int) ≥ 0 := by omega
    clear he hn HF
    obtain ⟨⟨r0, r1, r2⟩, y0, y1, y2⟩ := w3_facts VR.out
    have hset := hid (w3_set (x' := .int .i64 6) (y' := .int .i64 0) (z' := .slice none 0 0) VR.out)
    have hbel := hid (w3_below (g := g1) (x := .int .i64 6) (y := .int .i64 0) (z := .slice none 0 0) BB.out LG.out)
    go_wp2
    try simp only [Exit.inBlock, Exit.then]
    exact bodyPost_ret (v := .agg #[.int .i64 6, .int .i64 0, .slice none 0 0]) (results_cell_row rfl _ _ g1 44 _ _ _ rfl hset.out Try.underlying44 rfl (by kernel_rfl)) rfl ⟨_, rfl, FarK.nil _ _, hbel.out⟩
  obtain ⟨a0, a1, -, -⟩ := var2_facts VA.out
  have HN := hid hN
  clear hN
  by_cases h3 : 3 ≤ ks.length
  · obtain ⟨rfl, rfl, rfl⟩ : c = 7 ∧ rk = 0 ∧ t = [] := by
      rcases HF.out with ⟨q, -⟩ | ⟨-, q, -⟩ | ⟨-, -, q, -⟩ | ⟨-, -, -, -, q⟩ | ⟨-, -, -, q, -⟩
      · exact absurd F0.out q
      · exact absurd X0.out q
      · exact absurd q HN.out
      · exact q
      · omega
    have h3' : (ks.length : Int) ≥ 3 := by omega
    clear HF
    obtain ⟨⟨r0, r1, r2⟩, y0, y1, y2⟩ := w3_facts VR.out
    have hset := hid (w3_set (x' := .int .i64 7) (y' := .int .i64 0) (z' := .slice none 0 0) VR.out)
    have hbel := hid (w3_below (g := g1) (x := .int .i64 7) (y := .int .i64 0) (z := .slice none 0 0) BB.out LG.out)
    go_wp2
    try simp only [Exit.inBlock, Exit.then]
    exact bodyPost_ret (v := .agg #[.int .i64 7, .int .i64 0, .slice none 0 0]) (results_cell_row rfl _ _ g1 44 _ _ _ rfl hset.out Try.underlying44 rfl (by kernel_rfl)) rfl ⟨_, rfl, FarK.nil _ _, hbel.out⟩
  obtain ⟨rfl, rfl, rfl⟩ : c = 0 ∧ rk = p ∧ t = insK (id', xs) ks := by
    rcases HF.out with ⟨q, -⟩ | ⟨-, q, -⟩ | ⟨-, -, q, -⟩ | ⟨-, -, -, q, -⟩ | ⟨-, -, -, -, q⟩
    · exact absurd F0.out q
    · exact absurd X0.out q
    · exact absurd q HN.out
    · omega
    · exact q
  have h3' : ¬ (ks.length : Int) ≥ 3 := by omega
  clear HF
  go_wp2_with fail
  clear a0 a1 h3'
  refine (l4copy g rk _ ks _ VA.out H.out K16.out (by omega)).mono ?_
  rintro e w4 ⟨v', rfl, hO, hB⟩
  obtain ⟨gb, cv, rfl, -, -, -⟩ := hO.shape (by omega)
  have LG1 := hid (show g1 < w3.heap.size from var_lt VR.out)
  replace VA := hid (var_below hB VA.out)
  replace VK := hid (var_below hB VK.out)
  replace VR := hid (var_below hB VR.out)
  replace HU := hid (HU.out.below hB)
  replace BB := hid (BB.out.trans (hB.mono BB.out.size))
  have SZ := hid hB.size
  clear hB H
  obtain ⟨v0, v1, -, -⟩ := var2_facts VA.out
  have v2 := cell_alloc v0 (.cells #[.int .i64 rk, .slice (some ⟨gb, 0, none⟩) ks.length cv] 38)
  have v3 := cell_alloc v2 (.cells #[.int .i64 rk, .slice none 0 0] 38)
  go_wp2_with fail
  clear v0 v1 v2 v3 VA
  have VW := hid (heap_alloc_new w4 (.cells #[.int .i64 rk, .slice (some ⟨gb, 0, none⟩) ks.length cv] 38))
  have hA := below_alloc1 w4 (.cells #[.int .i64 rk, .slice (some ⟨gb, 0, none⟩) ks.length cv] 38)
  have E5 : (w4.alloc (.cells #[.int .i64 rk, .slice (some ⟨gb, 0, none⟩) ks.length cv] 38)).heap.size = w4.heap.size + 1 := by simp
  have OO := hid (hO.below hA)
  replace VK := hid (var_below hA VK.out)
  replace VR := hid (var_below hA VR.out)
  replace HU := hid (HU.out.below hA)
  replace BB := hid (BB.out.trans (hA.mono BB.out.size))
  clear hO hA
  generalize w4.alloc (.cells #[.int .i64 rk, .slice (some ⟨gb, 0, none⟩) ks.length cv] 38) = w5 at *
  have VO := hid (heap_alloc_new w5 (.cells #[.int .i64 rk, .slice none 0 0] 38))
  have hA := below_alloc1 w5 (.cells #[.int .i64 rk, .slice none 0 0] 38)
  have E6 : (w5.alloc (.cells #[.int .i64 rk, .slice none 0 0] 38)).heap.size = w5.heap.size + 1 := by simp
  have BL0 := hid hA
  clear hA
  generalize w5.alloc (.cells #[.int .i64 rk, .slice none 0 0] 38) = w6 at *
  obtain ⟨lo, hlo⟩ : ∃ g, g = w3.heap.size := ⟨_, rfl⟩
  obtain ⟨gw, hgw⟩ : ∃ g, g = w4.heap.size := ⟨_, rfl⟩
  obtain ⟨go, hgo⟩ : ∃ g, g = w5.heap.size := ⟨_, rfl⟩
  obtain ⟨bs, hbs⟩ : ∃ g, g = w6.heap.size := ⟨_, rfl⟩
  rw [← hgw, ← hgo] at E5
  try rw [← hgw]
  rw [← E5]
  rw [← hgw] at VW OO SZ
  rw [← hlo] at OO SZ LG1
  rw [← hgo] at VO
  have GS := hid hgo
  have NUM := hid (show lo ≤ gw ∧ gw < go ∧ go < bs ∧ g1 < lo ∧ bs = w6.heap.size from ⟨SZ.out, by omega, by omega, LG1.out, hbs⟩)
  obtain ⟨L0, q1, -, q3, -⟩ := OO.out
  have Q1 := hid q1
  have Q3 := hid q3
  have LGB := hid (show w5.heap.size ≤ bs by rw [← GS.out]; exact Nat.le_of_lt NUM.out.2.2.1)
  have KX := hid (show 0 < xs.length by have := N16.out; omega)
  obtain ⟨bu, ou, rfl⟩ : ∃ bu ou, au = some ⟨bu, ou, none⟩ := by
    obtain ⟨b, o, c, e, -, -⟩ := HU.out.spot KX.out
    cases e
    exact ⟨b, o, rfl⟩
  clear hlo hgw hgo hbs OO q1 q3 E5 E6 SZ
  go_loopw [9, 10] (fun s9 s10 wr => ∃ (k : Nat) (d : Bool) (v : Value) (acc : List (Int × List Nat)) (LL : List Value), k ≤ ks.length ∧ s9 = .bool d ∧ s10 = .int .i64 k ∧ Hid (InsTo (id', xs) ks k d acc) ∧ Hid (wr.heap[go]? = some (.cells #[.int .i64 rk, v] 38)) ∧ Hid (RowE wr bs v lo go acc LL) ∧ Hid (Below w5.heap.size w5 wr)) (fun _ s10 _ => ks.length - (Go.RowKit.intOf s10).toNat)
  case atStart => exact ⟨0, false, .slice none 0 0, [], [], Nat.zero_le _, rfl, rfl, hid (insTo_zero _ _), VO, hid (RowE.nil _ _ (Nat.le_of_eq NUM.out.2.2.2.2)), BL0⟩
  case round =>
    clear VO BL0
    obtain ⟨k, d, v, acc, LL, hk, rfl, rfl, IT, VO, RE, BL⟩ := hrel
    have AL := hid (show acc.length ≤ 1048576 by have := insTo_len IT.out hk; omega)
    obtain ⟨-, w1, -, -⟩ := var2_facts VW.out
    obtain ⟨c0, c1, -, -⟩ := var2_facts VK.out
    have W1 := hid w1
    have C0 := hid c0
    have C1 := hid c1
    replace w1 := cell_kept BL.out w1
    replace c0 := cell_kept BL.out c0
    clear c1
    by_cases hlt : k < ks.length
    · obtain ⟨u, e0, e1, hOB⟩ : ∃ u, L0[k * 2]? = some (.int .i64 (ks[k]).1) ∧ L0[k * 2 + 1]? = some u ∧ OB w5 lo gw u (ks[k]).2 := by
        obtain ⟨u, h1, h2, h3, -⟩ := Q3.out k hlt
        exact ⟨u, h1, h2, h3⟩
      have B0 := hid ((World.ownsRow.cellAt Q1.out (k * 2) (by omega)).trans e0)
      have B1 := hid ((World.ownsRow.cellAt Q1.out (k * 2 + 1) (by omega)).trans e1)
      have b0 := cell_kept BL.out B0.out
      obtain ⟨pu, cq, rfl, -, -, -⟩ := hOB.rd.parts
      rw [K16.out k hlt] at B1 hOB
      have OBk := hid hOB
      have KL := hid (show 0 < (ks[k]).2.length by rw [K16.out k hlt]; omega)
      have I1 := idx_kc gb 0 ks.length cv k hlt
      rw [Nat.zero_add] at I1
      have k0 : (0 : Int) ≤ (k : Int) := by omega
      have k1' : (k : Int) < (ks.length : Int) := by omega
      clear e0 e1 hOB
      cases d with
      | true =>
        have IN := hid (insTo_step IT.out hlt (.inl rfl))
        clear IT
        go_wp2
        go_quiet (fail)
        have hD : Below wr.heap.size wr (wr.drewN nq) := below_drewN (Below.refl _ _) _
        replace VO := hid (var_below hD VO.out)
        replace RE := hid (RE.out.below hD)
        replace BL := hid (BL.out.trans (hD.mono BL.out.size))
        clear hD c0 w1 b0
        generalize wr.drewN nq = x0 at *
        go_wp2
        refine wp_region_held_drew (S := fun w' => Below w5.heap.size w5 w') (by kernel_rfl) BL.out.drew (fun hH => ?_)
        replace VO := hid (show x0.drew.heap[go]? = _ from VO.out)
        replace RE := hid (RE.out.below ((Below.refl x0.heap.size x0).drew))
        have NK := hid (show Nk x0.drew v lo go (.slice pu 16 cq) (ks[k]).2 from Nk.ob RE.out (OBk.out.below hH) KL.out (Nat.le_of_lt NUM.out.2.1) NUM.out.2.2.1)
        clear BL
        generalize x0.drew = x at *
        refine wpAnyH_take (i := 0) (v := .pointer (some ⟨go, 1, none⟩)) (by simp only [List.getElem?_toArray, List.getElem?_cons_zero]; rfl) (by kernel_rfl) (by kernel_rfl) (by kernel_rfl) (by intro _ _ _ h; exact h) (Or.inl ⟨by rfl, fun w hS => by go_simp⟩) hH ?_
        simp only [Act.put, List.setIfInBounds_toArray, List.set_cons_zero, List.set_cons_succ]
        refine wpAnyH_take (i := 2) (v := .pointer (some ⟨gw, 1, none⟩)) (by simp only [List.getElem?_toArray, List.getElem?_cons_succ, List.getElem?_cons_zero]; rfl) (by kernel_rfl) (by kernel_rfl) (by kernel_rfl) (by intro _ _ _ h; exact h) (Or.inl ⟨by rfl, fun w hS => by go_simp⟩) hH ?_
        simp only [Act.put, List.setIfInBounds_toArray, List.set_cons_zero, List.set_cons_succ]
        refine wpAnyH_take (i := 3) (v := .slice (some ⟨gb, 0, none⟩) ks.length cv) (by simp only [List.getElem?_toArray, List.getElem?_cons_succ, List.getElem?_cons_zero]; rfl) (by kernel_rfl) (by kernel_rfl) (by kernel_rfl) (by intro _ _ _ h; exact h) (Or.inl ⟨by rfl, fun w hS => by (have y0 := cell_kept hS W1.out; go_simp)⟩) hH ?_
        simp only [Act.put, List.setIfInBounds_toArray, List.set_cons_zero, List.set_cons_succ]
        refine wpAnyH_take (i := 4) (v := .int .i64 (k : Int)) (by simp only [List.getElem?_toArray, List.getElem?_cons_succ, List.getElem?_cons_zero]; rfl) (by kernel_rfl) (by kernel_rfl) (by kernel_rfl) (by intro _ _ _ h; exact h) (Or.inl ⟨by rfl, fun w hS => by go_simp⟩) hH ?_
        simp only [Act.put, List.setIfInBounds_toArray, List.set_cons_zero, List.set_cons_succ]
        refine wpAnyH_take (i := 5) (v := .pointer (some ⟨gb, k * 2, none⟩)) (by simp only [List.getElem?_toArray, List.getElem?_cons_succ, List.getElem?_cons_zero]; rfl) (by kernel_rfl) (by kernel_rfl) (by kernel_rfl) (by intro _ _ _ h; exact h) (Or.inl ⟨by rfl, fun w hS => by (have y := I1 w; go_simp)⟩) hH ?_
        simp only [Act.put, List.setIfInBounds_toArray, List.set_cons_zero, List.set_cons_succ]
        refine wpAnyH_take (i := 6) (v := .agg #[.int .i64 (ks[k]).1, .slice pu 16 cq]) (by simp only [List.getElem?_toArray, List.getElem?_cons_succ, List.getElem?_cons_zero]; rfl) (by kernel_rfl) (by kernel_rfl) (by kernel_rfl) (by intro _ _ _ h; exact h) (Or.inl ⟨by rfl, fun w hS => by (have y0 := cell_kept hS B0.out; have y1 := cell_kept hS B1.out; go_simp)⟩) hH ?_
        simp only [Act.put, List.setIfInBounds_toArray, List.set_cons_zero, List.set_cons_succ]
        refine wpAnyH_ready (rs := [1, 7]) (by kernel_rfl) (by simp) ?_
        refine AllReadyH.cons (by simp only [List.getElem?_toArray, List.getElem?_cons_succ, List.getElem?_cons_zero]; rfl) (fun K hK => ?_) ?_
        · obtain ⟨q_0, q_1, -, -⟩ := var2_facts VO.out
          go_simp
          refine hK.out _ _ hH (fun hH => ?_)
          clear hK K q_0 q_1
          try simp only [Act.put, List.setIfInBounds_toArray, List.set_cons_zero, List.set_cons_succ]
          refine wpAnyH_ready (rs := [7]) (by kernel_rfl) (by simp) ?_
          refine AllReadyH.cons (by simp only [List.getElem?_toArray, List.getElem?_cons_succ, List.getElem?_cons_zero]; rfl) (fun K hK => ?_) AllReadyH.nil
          go_simp
          have hM := below_alloc1 x (.cells #[.int .i64 (ks[k]).1, .slice pu 16 cq] 40)
          replace VO := hid (var_below hM VO.out)
          replace RE := hid (RE.out.below hM)
          replace NK := hid (NK.out.below hM)
          have VX := hid (heap_alloc_new x (.cells #[.int .i64 (ks[k]).1, .slice pu 16 cq] 40))
          refine hK.out _ _ (hH.trans (hM.mono hH.size)) (fun hH => ?_)
          clear hK K hM
          generalize x.alloc (.cells #[.int .i64 (ks[k]).1, .slice pu 16 cq] 40) = x7 at *
          generalize x.heap.size = gx at *
          refine wpAnyH_ready (rs := [8]) (by kernel_rfl) (by simp) ?_
          refine AllReadyH.cons (by simp only [List.getElem?_toArray, List.getElem?_cons_succ, List.getElem?_cons_zero]; rfl) (fun K hK => ?_) AllReadyH.nil
          obtain ⟨c0, c1, -, -⟩ := var2_facts VX.out
          refine step_appL (by rfl) _ _ (by rfl) _ _ acc.length LL bs gx 1 (ks[k]).1 (by rfl) (by rfl) RE.out.1 RE.out.2.2 c0 c1 NK.out.one AL.out ?_
          intro g8 c8 x8 hO hG hg hgl
          have RE2 := hid (RE.out.app (x := (ks[k])) NK.out hO hG hg)
          have VO2 := hid (var_grown hG VO.out (fun e => absurd ((World.ownsRow.lt RE.out.1 _ e.symm).1) (Nat.not_le_of_lt NUM.out.2.2.1)))
          refine hK.out _ _ (hH.grown hG hH.size (fun j e => Nat.le_trans LGB.out (World.ownsRow.lt RE.out.1 j e).1)) (fun hH => ?_)
          clear hK K hO hG hg hgl c0 c1 VX RE VO NK
          refine wpAnyH_take (i := 9) (v := .pointer (some ⟨go, 1, none⟩)) (by simp only [List.getElem?_toArray, List.getElem?_cons_succ, List.getElem?_cons_zero]; rfl) (by kernel_rfl) (by kernel_rfl) (by kernel_rfl) (by intro _ _ _ h; exact h) (Or.inl ⟨by rfl, fun w hS => by go_simp⟩) hH ?_
          simp only [Act.put, List.setIfInBounds_toArray, List.set_cons_zero, List.set_cons_succ]
          refine wpAnyH_ready (rs := [10]) (by kernel_rfl) (by simp) ?_
          refine AllReadyH.cons (by simp only [List.getElem?_toArray, List.getElem?_cons_succ, List.getElem?_cons_zero]; rfl) (fun K hK => ?_) AllReadyH.nil
          obtain ⟨e0, e1, e2, e3⟩ := var2_facts VO2.out
          go_simp
          have VO := hid (cellS1 (y' := .slice (some ⟨g8, 0, none⟩) (acc.length + 1) c8) VO2.out)
          have RE := hid (RE2.out.set (i := 1) NUM.out.2.2.1 (.slice (some ⟨g8, 0, none⟩) (acc.length + 1) c8))
          refine hK.out _ _ (hH.setCell (p := ⟨go, 1, none⟩) (Nat.le_of_eq GS.out.symm) (.slice (some ⟨g8, 0, none⟩) (acc.length + 1) c8)) (fun hH => ?_)
          clear hK K e0 e1 e2 e3 VO2 RE2
          refine wpAnyH_done (by kernel_rfl) ?_ _
          have BL2 := hid hH
          clear hH
          go_wp2
          go_roundw
          case rel => exact ⟨k + 1, _, _, acc ++ [ks[k]], LL ++ [.int .i64 (ks[k]).1, .slice pu 16 cq], hlt, rfl, by go_num, IN, VO, RE, BL2⟩
          case measure => simp [Go.RowKit.intOf]; omega
        refine AllReadyH.cons (by simp only [List.getElem?_toArray, List.getElem?_cons_succ, List.getElem?_cons_zero]; rfl) (fun K hK => ?_) ?_
        · go_simp
          have hM := below_alloc1 x (.cells #[.int .i64 (ks[k]).1, .slice pu 16 cq] 40)
          replace VO := hid (var_below hM VO.out)
          replace RE := hid (RE.out.below hM)
          replace NK := hid (NK.out.below hM)
          have VX := hid (heap_alloc_new x (.cells #[.int .i64 (ks[k]).1, .slice pu 16 cq] 40))
          refine hK.out _ _ (hH.trans (hM.mono hH.size)) (fun hH => ?_)
          clear hK K hM
          generalize x.alloc (.cells #[.int .i64 (ks[k]).1, .slice pu 16 cq] 40) = x7 at *
          generalize x.heap.size = gx at *
          refine wpAnyH_ready (rs := [1]) (by kernel_rfl) (by simp) ?_
          refine AllReadyH.cons (by simp only [List.getElem?_toArray, List.getElem?_cons_succ, List.getElem?_cons_zero]; rfl) (fun K hK => ?_) AllReadyH.nil
          obtain ⟨q_0, q_1, -, -⟩ := var2_facts VO.out
          go_simp
          refine hK.out _ _ hH (fun hH => ?_)
          clear hK K q_0 q_1
          try simp only [Act.put, List.setIfInBounds_toArray, List.set_cons_zero, List.set_cons_succ]
          refine wpAnyH_ready (rs := [8]) (by kernel_rfl) (by simp) ?_
          refine AllReadyH.cons (by simp only [List.getElem?_toArray, List.getElem?_cons_succ, List.getElem?_cons_zero]; rfl) (fun K hK => ?_) AllReadyH.nil
          obtain ⟨c0, c1, -, -⟩ := var2_facts VX.out
          refine step_appL (by rfl) _ _ (by rfl) _ _ acc.length LL bs gx 1 (ks[k]).1 (by rfl) (by rfl) RE.out.1 RE.out.2.2 c0 c1 NK.out.one AL.out ?_
          intro g8 c8 x8 hO hG hg hgl
          have RE2 := hid (RE.out.app (x := (ks[k])) NK.out hO hG hg)
          have VO2 := hid (var_grown hG VO.out (fun e => absurd ((World.ownsRow.lt RE.out.1 _ e.symm).1) (Nat.not_le_of_lt NUM.out.2.2.1)))
          refine hK.out _ _ (hH.grown hG hH.size (fun j e => Nat.le_trans LGB.out (World.ownsRow.lt RE.out.1 j e).1)) (fun hH => ?_)
          clear hK K hO hG hg hgl c0 c1 VX RE VO NK
          refine wpAnyH_take (i := 9) (v := .pointer (some ⟨go, 1, none⟩)) (by simp only [List.getElem?_toArray, List.getElem?_cons_succ, List.getElem?_cons_zero]; rfl) (by kernel_rfl) (by kernel_rfl) (by kernel_rfl) (by intro _ _ _ h; exact h) (Or.inl ⟨by rfl, fun w hS => by go_simp⟩) hH ?_
          simp only [Act.put, List.setIfInBounds_toArray, List.set_cons_zero, List.set_cons_succ]
          refine wpAnyH_ready (rs := [10]) (by kernel_rfl) (by simp) ?_
          refine AllReadyH.cons (by simp only [List.getElem?_toArray, List.getElem?_cons_succ, List.getElem?_cons_zero]; rfl) (fun K hK => ?_) AllReadyH.nil
          obtain ⟨e0, e1, e2, e3⟩ := var2_facts VO2.out
          go_simp
          have VO := hid (cellS1 (y' := .slice (some ⟨g8, 0, none⟩) (acc.length + 1) c8) VO2.out)
          have RE := hid (RE2.out.set (i := 1) NUM.out.2.2.1 (.slice (some ⟨g8, 0, none⟩) (acc.length + 1) c8))
          refine hK.out _ _ (hH.setCell (p := ⟨go, 1, none⟩) (Nat.le_of_eq GS.out.symm) (.slice (some ⟨g8, 0, none⟩) (acc.length + 1) c8)) (fun hH => ?_)
          clear hK K e0 e1 e2 e3 VO2 RE2
          refine wpAnyH_done (by kernel_rfl) ?_ _
          have BL2 := hid hH
          clear hH
          go_wp2
          go_roundw
          case rel => exact ⟨k + 1, _, _, acc ++ [ks[k]], LL ++ [.int .i64 (ks[k]).1, .slice pu 16 cq], hlt, rfl, by go_num, IN, VO, RE, BL2⟩
          case measure => simp [Go.RowKit.intOf]; omega
        exact AllReadyH.nil
      | false =>
        by_cases hn : id' < (ks[k]).1
        · have IN := hid (insTo_step (insTo_put IT.out hlt hn) hlt (.inl rfl))
          have AL1 := hid (show (acc ++ [(id', xs)]).length ≤ 1048576 by have := insTo_len (insTo_put IT.out hlt hn) hk; omega)
          clear IT
          go_wp2
          go_quiet (fail)
          have hD : Below wr.heap.size wr (wr.drewN nq) := below_drewN (Below.refl _ _) _
          replace VO := hid (var_below hD VO.out)
          replace RE := hid (RE.out.below hD)
          replace BL := hid (BL.out.trans (hD.mono BL.out.size))
          clear hD c0 w1 b0
          generalize wr.drewN nq = x0 at *
          go_wp2
          refine wp_region_held_drew (S := fun w' => Below w5.heap.size w5 w') (by kernel_rfl) BL.out.drew (fun hH => ?_)
          replace VO := hid (show x0.drew.heap[go]? = _ from VO.out)
          replace RE := hid (RE.out.below ((Below.refl x0.heap.size x0).drew))
          have HX := hid (HU.out.below hH)
          clear BL
          generalize x0.drew = x at *
          refine wpAnyH_take (i := 0) (v := .pointer (some ⟨go, 1, none⟩)) (by simp only [List.getElem?_toArray, List.getElem?_cons_zero]; rfl) (by kernel_rfl) (by kernel_rfl) (by kernel_rfl) (by intro _ _ _ h; exact h) (Or.inl ⟨by rfl, fun w hS => by go_simp⟩) hH ?_
          simp only [Act.put, List.setIfInBounds_toArray, List.set_cons_zero, List.set_cons_succ]
          refine wpAnyH_take (i := 2) (v := .pointer (some ⟨gk, 0, none⟩)) (by simp only [List.getElem?_toArray, List.getElem?_cons_succ, List.getElem?_cons_zero]; rfl) (by kernel_rfl) (by kernel_rfl) (by kernel_rfl) (by intro _ _ _ h; exact h) (Or.inl ⟨by rfl, fun w hS => by go_simp⟩) hH ?_
          simp only [Act.put, List.setIfInBounds_toArray, List.set_cons_zero, List.set_cons_succ]
          refine wpAnyH_take (i := 3) (v := .int .i64 id') (by simp only [List.getElem?_toArray, List.getElem?_cons_succ, List.getElem?_cons_zero]; rfl) (by kernel_rfl) (by kernel_rfl) (by kernel_rfl) (by intro _ _ _ h; exact h) (Or.inl ⟨by rfl, fun w hS => by (have y0 := cell_kept hS C0.out; go_simp)⟩) hH ?_
          simp only [Act.put, List.setIfInBounds_toArray, List.set_cons_zero, List.set_cons_succ]
          refine wpAnyH_take (i := 4) (v := .pointer (some ⟨gk, 1, none⟩)) (by simp only [List.getElem?_toArray, List.getElem?_cons_succ, List.getElem?_cons_zero]; rfl) (by kernel_rfl) (by kernel_rfl) (by kernel_rfl) (by intro _ _ _ h; exact h) (Or.inl ⟨by rfl, fun w hS => by go_simp⟩) hH ?_
          simp only [Act.put, List.setIfInBounds_toArray, List.set_cons_zero, List.set_cons_succ]
          refine wpAnyH_take (i := 5) (v := .slice (some ⟨bu, ou, none⟩) xs.length cu) (by simp only [List.getElem?_toArray, List.getElem?_cons_succ, List.getElem?_cons_zero]; rfl) (by kernel_rfl) (by kernel_rfl) (by kernel_rfl) (by intro _ _ _ h; exact h) (Or.inl ⟨by rfl, fun w hS => by (have y0 := cell_kept hS C1.out; go_simp)⟩) hH ?_
          simp only [Act.put, List.setIfInBounds_toArray, List.set_cons_zero, List.set_cons_succ]
          refine wpAnyH_ready (rs := [1, 6]) (by kernel_rfl) (by simp) ?_
          refine AllReadyH.cons (by simp only [List.getElem?_toArray, List.getElem?_cons_succ, List.getElem?_cons_zero]; rfl) (fun K hK => ?_) ?_
          · obtain ⟨q_0, q_1, -, -⟩ := var2_facts VO.out
            go_simp
            refine hK.out _ _ hH (fun hH => ?_)
            clear hK K q_0 q_1
            try simp only [Act.put, List.setIfInBounds_toArray, List.set_cons_zero, List.set_cons_succ]
            refine wpAnyH_ready (rs := [6]) (by kernel_rfl) (by simp) ?_
            refine AllReadyH.cons (by simp only [List.getElem?_toArray, List.getElem?_cons_succ, List.getElem?_cons_zero]; rfl) (fun K hK => ?_) AllReadyH.nil
            go_simp
            refine (copyR _ xs xs.length _ HX.out rfl KX.out (by have := N16.out; omega)).mono ?_
            rintro e x6 ⟨un, rfl, hN, hM⟩
            have NK := hid (Nk.own RE.out hN KX.out (Nat.le_of_lt (Nat.lt_of_le_of_lt NUM.out.1 (Nat.lt_trans NUM.out.2.1 NUM.out.2.2.1))) NUM.out.2.2.1)
            refine hK.out _ _ (hH.trans (hM.mono hH.size)) (fun hH => ?_)
            clear hK K hN HX
            replace VO := hid (var_below hM VO.out)
            replace RE := hid (RE.out.below hM)
            clear hM
            obtain ⟨pn, cn, rfl, -, -, -⟩ := NK.out.rd.parts
            refine wpAnyH_take (i := 7) (v := .agg #[.int .i64 id', .slice pn xs.length cn]) (by simp only [List.getElem?_toArray, List.getElem?_cons_succ, List.getElem?_cons_zero]; rfl) (by kernel_rfl) (by kernel_rfl) (by kernel_rfl) (by intro _ _ _ h; exact h) (Or.inl ⟨by rfl, fun w hS => by go_simp⟩) hH ?_
            simp only [Act.put, List.setIfInBounds_toArray, List.set_cons_zero, List.set_cons_succ]
            refine wpAnyH_ready (rs := [8]) (by kernel_rfl) (by simp) ?_
            refine AllReadyH.cons (by simp only [List.getElem?_toArray, List.getElem?_cons_succ, List.getElem?_cons_zero]; rfl) (fun K hK => ?_) AllReadyH.nil
            go_simp
            have hM := below_alloc1 x6 (.cells #[.int .i64 id', .slice pn xs.length cn] 40)
            replace VO := hid (var_below hM VO.out)
            replace RE := hid (RE.out.below hM)
            replace NK := hid (NK.out.below hM)
            have VX := hid (heap_alloc_new x6 (.cells #[.int .i64 id', .slice pn xs.length cn] 40))
            refine hK.out _ _ (hH.trans (hM.mono hH.size)) (fun hH => ?_)
            clear hK K hM
            generalize x6.alloc (.cells #[.int .i64 id', .slice pn xs.length cn] 40) = x7 at *
            generalize x6.heap.size = gx at *
            refine wpAnyH_ready (rs := [9]) (by kernel_rfl) (by simp) ?_
            refine AllReadyH.cons (by simp only [List.getElem?_toArray, List.getElem?_cons_succ, List.getElem?_cons_zero]; rfl) (fun K hK => ?_) AllReadyH.nil
            obtain ⟨c0, c1, -, -⟩ := var2_facts VX.out
            refine step_appL (by rfl) _ _ (by rfl) _ _ acc.length LL bs gx 1 id' (by rfl) (by rfl) RE.out.1 RE.out.2.2 c0 c1 NK.out.one AL.out ?_
            intro g8 c8 x8 hO hG hg hgl
            have RE2 := hid (RE.out.app (x := (id', xs)) NK.out hO hG hg)
            have VO2 := hid (var_grown hG VO.out (fun e => absurd ((World.ownsRow.lt RE.out.1 _ e.symm).1) (Nat.not_le_of_lt NUM.out.2.2.1)))
            refine hK.out _ _ (hH.grown hG hH.size (fun j e => Nat.le_trans LGB.out (World.ownsRow.lt RE.out.1 j e).1)) (fun hH => ?_)
            clear hK K hO hG hg hgl c0 c1 VX RE VO NK
            refine wpAnyH_take (i := 10) (v := .pointer (some ⟨go, 1, none⟩)) (by simp only [List.getElem?_toArray, List.getElem?_cons_succ, List.getElem?_cons_zero]; rfl) (by kernel_rfl) (by kernel_rfl) (by kernel_rfl) (by intro _ _ _ h; exact h) (Or.inl ⟨by rfl, fun w hS => by go_simp⟩) hH ?_
            simp only [Act.put, List.setIfInBounds_toArray, List.set_cons_zero, List.set_cons_succ]
            refine wpAnyH_ready (rs := [11]) (by kernel_rfl) (by simp) ?_
            refine AllReadyH.cons (by simp only [List.getElem?_toArray, List.getElem?_cons_succ, List.getElem?_cons_zero]; rfl) (fun K hK => ?_) AllReadyH.nil
            obtain ⟨e0, e1, e2, e3⟩ := var2_facts VO2.out
            go_simp
            have VO := hid (cellS1 (y' := .slice (some ⟨g8, 0, none⟩) (acc.length + 1) c8) VO2.out)
            have RE := hid (RE2.out.set (i := 1) NUM.out.2.2.1 (.slice (some ⟨g8, 0, none⟩) (acc.length + 1) c8))
            refine hK.out _ _ (hH.setCell (p := ⟨go, 1, none⟩) (Nat.le_of_eq GS.out.symm) (.slice (some ⟨g8, 0, none⟩) (acc.length + 1) c8)) (fun hH => ?_)
            clear hK K e0 e1 e2 e3 VO2 RE2
            refine wpAnyH_done (by kernel_rfl) ?_ _
            have BL := hid hH
            clear hH
            generalize x8.setCell ⟨go, 1, none⟩ (.slice (some ⟨g8, 0, none⟩) (acc.length + 1) c8) = x0 at *
            generalize (.slice (some ⟨g8, 0, none⟩) (acc.length + 1) c8 : Value) = v1 at *
            generalize acc ++ [(id', xs)] = acc1 at *
            generalize LL ++ [.int .i64 id', .slice pn xs.length cn] = LL1 at *
            go_wp2
            refine wp_region_held_drew (S := fun w' => Below w5.heap.size w5 w') (by kernel_rfl) BL.out.drew (fun hH => ?_)
            replace VO := hid (show x0.drew.heap[go]? = _ from VO.out)
            replace RE := hid (RE.out.below ((Below.refl x0.heap.size x0).drew))
            have NK := hid (show Nk x0.drew v1 lo go (.slice pu 16 cq) (ks[k]).2 from Nk.ob RE.out (OBk.out.below hH) KL.out (Nat.le_of_lt NUM.out.2.1) NUM.out.2.2.1)
            clear BL
            generalize x0.drew = x at *
            refine wpAnyH_take (i := 0) (v := .pointer (some ⟨go, 1, none⟩)) (by simp only [List.getElem?_toArray, List.getElem?_cons_zero]; rfl) (by kernel_rfl) (by kernel_rfl) (by kernel_rfl) (by intro _ _ _ h; exact h) (Or.inl ⟨by rfl, fun w hS => by go_simp⟩) hH ?_
            simp only [Act.put, List.setIfInBounds_toArray, List.set_cons_zero, List.set_cons_succ]
            refine wpAnyH_take (i := 2) (v := .pointer (some ⟨gw, 1, none⟩)) (by simp only [List.getElem?_toArray, List.getElem?_cons_succ, List.getElem?_cons_zero]; rfl) (by kernel_rfl) (by kernel_rfl) (by kernel_rfl) (by intro _ _ _ h; exact h) (Or.inl ⟨by rfl, fun w hS => by go_simp⟩) hH ?_
            simp only [Act.put, List.setIfInBounds_toArray, List.set_cons_zero, List.set_cons_succ]
            refine wpAnyH_take (i := 3) (v := .slice (some ⟨gb, 0, none⟩) ks.length cv) (by simp only [List.getElem?_toArray, List.getElem?_cons_succ, List.getElem?_cons_zero]; rfl) (by kernel_rfl) (by kernel_rfl) (by kernel_rfl) (by intro _ _ _ h; exact h) (Or.inl ⟨by rfl, fun w hS => by (have y0 := cell_kept hS W1.out; go_simp)⟩) hH ?_
            simp only [Act.put, List.setIfInBounds_toArray, List.set_cons_zero, List.set_cons_succ]
            refine wpAnyH_take (i := 4) (v := .int .i64 (k : Int)) (by simp only [List.getElem?_toArray, List.getElem?_cons_succ, List.getElem?_cons_zero]; rfl) (by kernel_rfl) (by kernel_rfl) (by kernel_rfl) (by intro _ _ _ h; exact h) (Or.inl ⟨by rfl, fun w hS => by go_simp⟩) hH ?_
            simp only [Act.put, List.setIfInBounds_toArray, List.set_cons_zero, List.set_cons_succ]
            refine wpAnyH_take (i := 5) (v := .pointer (some ⟨gb, k * 2, none⟩)) (by simp only [List.getElem?_toArray, List.getElem?_cons_succ, List.getElem?_cons_zero]; rfl) (by kernel_rfl) (by kernel_rfl) (by kernel_rfl) (by intro _ _ _ h; exact h) (Or.inl ⟨by rfl, fun w hS => by (have y := I1 w; go_simp)⟩) hH ?_
            simp only [Act.put, List.setIfInBounds_toArray, List.set_cons_zero, List.set_cons_succ]
            refine wpAnyH_take (i := 6) (v := .agg #[.int .i64 (ks[k]).1, .slice pu 16 cq]) (by simp only [List.getElem?_toArray, List.getElem?_cons_succ, List.getElem?_cons_zero]; rfl) (by kernel_rfl) (by kernel_rfl) (by kernel_rfl) (by intro _ _ _ h; exact h) (Or.inl ⟨by rfl, fun w hS => by (have y0 := cell_kept hS B0.out; have y1 := cell_kept hS B1.out; go_simp)⟩) hH ?_
            simp only [Act.put, List.setIfInBounds_toArray, List.set_cons_zero, List.set_cons_succ]
            refine wpAnyH_ready (rs := [1, 7]) (by kernel_rfl) (by simp) ?_
            refine AllReadyH.cons (by simp only [List.getElem?_toArray, List.getElem?_cons_succ, List.getElem?_cons_zero]; rfl) (fun K hK => ?_) ?_
            · obtain ⟨q_0, q_1, -, -⟩ := var2_facts VO.out
              go_simp
              refine hK.out _ _ hH (fun hH => ?_)
              clear hK K q_0 q_1
              try simp only [Act.put, List.setIfInBounds_toArray, List.set_cons_zero, List.set_cons_succ]
              refine wpAnyH_ready (rs := [7]) (by kernel_rfl) (by simp) ?_
              refine AllReadyH.cons (by simp only [List.getElem?_toArray, List.getElem?_cons_succ, List.getElem?_cons_zero]; rfl) (fun K hK => ?_) AllReadyH.nil
              go_simp
              have hM := below_alloc1 x (.cells #[.int .i64 (ks[k]).1, .slice pu 16 cq] 40)
              replace VO := hid (var_below hM VO.out)
              replace RE := hid (RE.out.below hM)
              replace NK := hid (NK.out.below hM)
              have VX := hid (heap_alloc_new x (.cells #[.int .i64 (ks[k]).1, .slice pu 16 cq] 40))
              refine hK.out _ _ (hH.trans (hM.mono hH.size)) (fun hH => ?_)
              clear hK K hM
              generalize x.alloc (.cells #[.int .i64 (ks[k]).1, .slice pu 16 cq] 40) = x7 at *
              generalize x.heap.size = gx at *
              refine wpAnyH_ready (rs := [8]) (by kernel_rfl) (by simp) ?_
              refine AllReadyH.cons (by simp only [List.getElem?_toArray, List.getElem?_cons_succ, List.getElem?_cons_zero]; rfl) (fun K hK => ?_) AllReadyH.nil
              obtain ⟨c0, c1, -, -⟩ := var2_facts VX.out
              refine step_appL (by rfl) _ _ (by rfl) _ _ acc1.length LL1 bs gx 1 (ks[k]).1 (by rfl) (by rfl) RE.out.1 RE.out.2.2 c0 c1 NK.out.one AL1.out ?_
              intro g8 c8 x8 hO hG hg hgl
              have RE2 := hid (RE.out.app (x := (ks[k])) NK.out hO hG hg)
              have VO2 := hid (var_grown hG VO.out (fun e => absurd ((World.ownsRow.lt RE.out.1 _ e.symm).1) (Nat.not_le_of_lt NUM.out.2.2.1)))
              refine hK.out _ _ (hH.grown hG hH.size (fun j e => Nat.le_trans LGB.out (World.ownsRow.lt RE.out.1 j e).1)) (fun hH => ?_)
              clear hK K hO hG hg hgl c0 c1 VX RE VO NK
              refine wpAnyH_take (i := 9) (v := .pointer (some ⟨go, 1, none⟩)) (by simp only [List.getElem?_toArray, List.getElem?_cons_succ, List.getElem?_cons_zero]; rfl) (by kernel_rfl) (by kernel_rfl) (by kernel_rfl) (by intro _ _ _ h; exact h) (Or.inl ⟨by rfl, fun w hS => by go_simp⟩) hH ?_
              simp only [Act.put, List.setIfInBounds_toArray, List.set_cons_zero, List.set_cons_succ]
              refine wpAnyH_ready (rs := [10]) (by kernel_rfl) (by simp) ?_
              refine AllReadyH.cons (by simp only [List.getElem?_toArray, List.getElem?_cons_succ, List.getElem?_cons_zero]; rfl) (fun K hK => ?_) AllReadyH.nil
              obtain ⟨e0, e1, e2, e3⟩ := var2_facts VO2.out
              go_simp
              have VO := hid (cellS1 (y' := .slice (some ⟨g8, 0, none⟩) (acc1.length + 1) c8) VO2.out)
              have RE := hid (RE2.out.set (i := 1) NUM.out.2.2.1 (.slice (some ⟨g8, 0, none⟩) (acc1.length + 1) c8))
              refine hK.out _ _ (hH.setCell (p := ⟨go, 1, none⟩) (Nat.le_of_eq GS.out.symm) (.slice (some ⟨g8, 0, none⟩) (acc1.length + 1) c8)) (fun hH => ?_)
              clear hK K e0 e1 e2 e3 VO2 RE2
              refine wpAnyH_done (by kernel_rfl) ?_ _
              have BL2 := hid hH
              clear hH
              go_wp2
              go_roundw
              case rel => exact ⟨k + 1, _, _, acc1 ++ [ks[k]], LL1 ++ [.int .i64 (ks[k]).1, .slice pu 16 cq], hlt, rfl, by go_num, IN, VO, RE, BL2⟩
              case measure => simp [Go.RowKit.intOf]; omega
            refine AllReadyH.cons (by simp only [List.getElem?_toArray, List.getElem?_cons_succ, List.getElem?_cons_zero]; rfl) (fun K hK => ?_) ?_
            · go_simp
              have hM := below_alloc1 x (.cells #[.int .i64 (ks[k]).1, .slice pu 16 cq] 40)
              replace VO := hid (var_below hM VO.out)
              replace RE := hid (RE.out.below hM)
              replace NK := hid (NK.out.below hM)
              have VX := hid (heap_alloc_new x (.cells #[.int .i64 (ks[k]).1, .slice pu 16 cq] 40))
              refine hK.out _ _ (hH.trans (hM.mono hH.size)) (fun hH => ?_)
              clear hK K hM
              generalize x.alloc (.cells #[.int .i64 (ks[k]).1, .slice pu 16 cq] 40) = x7 at *
              generalize x.heap.size = gx at *
              refine wpAnyH_ready (rs := [1]) (by kernel_rfl) (by simp) ?_
              refine AllReadyH.cons (by simp only [List.getElem?_toArray, List.getElem?_cons_succ, List.getElem?_cons_zero]; rfl) (fun K hK => ?_) AllReadyH.nil
              obtain ⟨q_0, q_1, -, -⟩ := var2_facts VO.out
              go_simp
              refine hK.out _ _ hH (fun hH => ?_)
              clear hK K q_0 q_1
              try simp only [Act.put, List.setIfInBounds_toArray, List.set_cons_zero, List.set_cons_succ]
              refine wpAnyH_ready (rs := [8]) (by kernel_rfl) (by simp) ?_
              refine AllReadyH.cons (by simp only [List.getElem?_toArray, List.getElem?_cons_succ, List.getElem?_cons_zero]; rfl) (fun K hK => ?_) AllReadyH.nil
              obtain ⟨c0, c1, -, -⟩ := var2_facts VX.out
              refine step_appL (by rfl) _ _ (by rfl) _ _ acc1.length LL1 bs gx 1 (ks[k]).1 (by rfl) (by rfl) RE.out.1 RE.out.2.2 c0 c1 NK.out.one AL1.out ?_
              intro g8 c8 x8 hO hG hg hgl
              have RE2 := hid (RE.out.app (x := (ks[k])) NK.out hO hG hg)
              have VO2 := hid (var_grown hG VO.out (fun e => absurd ((World.ownsRow.lt RE.out.1 _ e.symm).1) (Nat.not_le_of_lt NUM.out.2.2.1)))
              refine hK.out _ _ (hH.grown hG hH.size (fun j e => Nat.le_trans LGB.out (World.ownsRow.lt RE.out.1 j e).1)) (fun hH => ?_)
              clear hK K hO hG hg hgl c0 c1 VX RE VO NK
              refine wpAnyH_take (i := 9) (v := .pointer (some ⟨go, 1, none⟩)) (by simp only [List.getElem?_toArray, List.getElem?_cons_succ, List.getElem?_cons_zero]; rfl) (by kernel_rfl) (by kernel_rfl) (by kernel_rfl) (by intro _ _ _ h; exact h) (Or.inl ⟨by rfl, fun w hS => by go_simp⟩) hH ?_
              simp only [Act.put, List.setIfInBounds_toArray, List.set_cons_zero, List.set_cons_succ]
              refine wpAnyH_ready (rs := [10]) (by kernel_rfl) (by simp) ?_
              refine AllReadyH.cons (by simp only [List.getElem?_toArray, List.getElem?_cons_succ, List.getElem?_cons_zero]; rfl) (fun K hK => ?_) AllReadyH.nil
              obtain ⟨e0, e1, e2, e3⟩ := var2_facts VO2.out
              go_simp
              have VO := hid (cellS1 (y' := .slice (some ⟨g8, 0, none⟩) (acc1.length + 1) c8) VO2.out)
              have RE := hid (RE2.out.set (i := 1) NUM.out.2.2.1 (.slice (some ⟨g8, 0, none⟩) (acc1.length + 1) c8))
              refine hK.out _ _ (hH.setCell (p := ⟨go, 1, none⟩) (Nat.le_of_eq GS.out.symm) (.slice (some ⟨g8, 0, none⟩) (acc1.length + 1) c8)) (fun hH => ?_)
              clear hK K e0 e1 e2 e3 VO2 RE2
              refine wpAnyH_done (by kernel_rfl) ?_ _
              have BL2 := hid hH
              clear hH
              go_wp2
              go_roundw
              case rel => exact ⟨k + 1, _, _, acc1 ++ [ks[k]], LL1 ++ [.int .i64 (ks[k]).1, .slice pu 16 cq], hlt, rfl, by go_num, IN, VO, RE, BL2⟩
              case measure => simp [Go.RowKit.intOf]; omega
            exact AllReadyH.nil
          refine AllReadyH.cons (by simp only [List.getElem?_toArray, List.getElem?_cons_succ, List.getElem?_cons_zero]; rfl) (fun K hK => ?_) ?_
          · go_simp
            refine (copyR _ xs xs.length _ HX.out rfl KX.out (by have := N16.out; omega)).mono ?_
            rintro e x6 ⟨un, rfl, hN, hM⟩
            have NK := hid (Nk.own RE.out hN KX.out (Nat.le_of_lt (Nat.lt_of_le_of_lt NUM.out.1 (Nat.lt_trans NUM.out.2.1 NUM.out.2.2.1))) NUM.out.2.2.1)
            refine hK.out _ _ (hH.trans (hM.mono hH.size)) (fun hH => ?_)
            clear hK K hN HX
            replace VO := hid (var_below hM VO.out)
            replace RE := hid (RE.out.below hM)
            clear hM
            obtain ⟨pn, cn, rfl, -, -, -⟩ := NK.out.rd.parts
            refine wpAnyH_take (i := 7) (v := .agg #[.int .i64 id', .slice pn xs.length cn]) (by simp only [List.getElem?_toArray, List.getElem?_cons_succ, List.getElem?_cons_zero]; rfl) (by kernel_rfl) (by kernel_rfl) (by kernel_rfl) (by intro _ _ _ h; exact h) (Or.inl ⟨by rfl, fun w hS => by go_simp⟩) hH ?_
            simp only [Act.put, List.setIfInBounds_toArray, List.set_cons_zero, List.set_cons_succ]
            refine wpAnyH_ready (rs := [1, 8]) (by kernel_rfl) (by simp) ?_
            refine AllReadyH.cons (by simp only [List.getElem?_toArray, List.getElem?_cons_succ, List.getElem?_cons_zero]; rfl) (fun K hK => ?_) ?_
            · obtain ⟨q_0, q_1, -, -⟩ := var2_facts VO.out
              go_simp
              refine hK.out _ _ hH (fun hH => ?_)
              clear hK K q_0 q_1
              try simp only [Act.put, List.setIfInBounds_toArray, List.set_cons_zero, List.set_cons_succ]
              refine wpAnyH_ready (rs := [8]) (by kernel_rfl) (by simp) ?_
              refine AllReadyH.cons (by simp only [List.getElem?_toArray, List.getElem?_cons_succ, List.getElem?_cons_zero]; rfl) (fun K hK => ?_) AllReadyH.nil
              go_simp
              have hM := below_alloc1 x6 (.cells #[.int .i64 id', .slice pn xs.length cn] 40)
              replace VO := hid (var_below hM VO.out)
              replace RE := hid (RE.out.below hM)
              replace NK := hid (NK.out.below hM)
              have VX := hid (heap_alloc_new x6 (.cells #[.int .i64 id', .slice pn xs.length cn] 40))
              refine hK.out _ _ (hH.trans (hM.mono hH.size)) (fun hH => ?_)
              clear hK K hM
              generalize x6.alloc (.cells #[.int .i64 id', .slice pn xs.length cn] 40) = x7 at *
              generalize x6.heap.size = gx at *
              refine wpAnyH_ready (rs := [9]) (by kernel_rfl) (by simp) ?_
              refine AllReadyH.cons (by simp only [List.getElem?_toArray, List.getElem?_cons_succ, List.getElem?_cons_zero]; rfl) (fun K hK => ?_) AllReadyH.nil
              obtain ⟨c0, c1, -, -⟩ := var2_facts VX.out
              refine step_appL (by rfl) _ _ (by rfl) _ _ acc.length LL bs gx 1 id' (by rfl) (by rfl) RE.out.1 RE.out.2.2 c0 c1 NK.out.one AL.out ?_
              intro g8 c8 x8 hO hG hg hgl
              have RE2 := hid (RE.out.app (x := (id', xs)) NK.out hO hG hg)
              have VO2 := hid (var_grown hG VO.out (fun e => absurd ((World.ownsRow.lt RE.out.1 _ e.symm).1) (Nat.not_le_of_lt NUM.out.2.2.1)))
              refine hK.out _ _ (hH.grown hG hH.size (fun j e => Nat.le_trans LGB.out (World.ownsRow.lt RE.out.1 j e).1)) (fun hH => ?_)
              clear hK K hO hG hg hgl c0 c1 VX RE VO NK
              refine wpAnyH_take (i := 10) (v := .pointer (some ⟨go, 1, none⟩)) (by simp only [List.getElem?_toArray, List.getElem?_cons_succ, List.getElem?_cons_zero]; rfl) (by kernel_rfl) (by kernel_rfl) (by kernel_rfl) (by intro _ _ _ h; exact h) (Or.inl ⟨by rfl, fun w hS => by go_simp⟩) hH ?_
              simp only [Act.put, List.setIfInBounds_toArray, List.set_cons_zero, List.set_cons_succ]
              refine wpAnyH_ready (rs := [11]) (by kernel_rfl) (by simp) ?_
              refine AllReadyH.cons (by simp only [List.getElem?_toArray, List.getElem?_cons_succ, List.getElem?_cons_zero]; rfl) (fun K hK => ?_) AllReadyH.nil
              obtain ⟨e0, e1, e2, e3⟩ := var2_facts VO2.out
              go_simp
              have VO := hid (cellS1 (y' := .slice (some ⟨g8, 0, none⟩) (acc.length + 1) c8) VO2.out)
              have RE := hid (RE2.out.set (i := 1) NUM.out.2.2.1 (.slice (some ⟨g8, 0, none⟩) (acc.length + 1) c8))
              refine hK.out _ _ (hH.setCell (p := ⟨go, 1, none⟩) (Nat.le_of_eq GS.out.symm) (.slice (some ⟨g8, 0, none⟩) (acc.length + 1) c8)) (fun hH => ?_)
              clear hK K e0 e1 e2 e3 VO2 RE2
              refine wpAnyH_done (by kernel_rfl) ?_ _
              have BL := hid hH
              clear hH
              generalize x8.setCell ⟨go, 1, none⟩ (.slice (some ⟨g8, 0, none⟩) (acc.length + 1) c8) = x0 at *
              generalize (.slice (some ⟨g8, 0, none⟩) (acc.length + 1) c8 : Value) = v1 at *
              generalize acc ++ [(id', xs)] = acc1 at *
              generalize LL ++ [.int .i64 id', .slice pn xs.length cn] = LL1 at *
              go_wp2
              refine wp_region_held_drew (S := fun w' => Below w5.heap.size w5 w') (by kernel_rfl) BL.out.drew (fun hH => ?_)
              replace VO := hid (show x0.drew.heap[go]? = _ from VO.out)
              replace RE := hid (RE.out.below ((Below.refl x0.heap.size x0).drew))
              have NK := hid (show Nk x0.drew v1 lo go (.slice pu 16 cq) (ks[k]).2 from Nk.ob RE.out (OBk.out.below hH) KL.out (Nat.le_of_lt NUM.out.2.1) NUM.out.2.2.1)
              clear BL
              generalize x0.drew = x at *
              refine wpAnyH_take (i := 0) (v := .pointer (some ⟨go, 1, none⟩)) (by simp only [List.getElem?_toArray, List.getElem?_cons_zero]; rfl) (by kernel_rfl) (by kernel_rfl) (by kernel_rfl) (by intro _ _ _ h; exact h) (Or.inl ⟨by rfl, fun w hS => by go_simp⟩) hH ?_
              simp only [Act.put, List.setIfInBounds_toArray, List.set_cons_zero, List.set_cons_succ]
              refine wpAnyH_take (i := 2) (v := .pointer (some ⟨gw, 1, none⟩)) (by simp only [List.getElem?_toArray, List.getElem?_cons_succ, List.getElem?_cons_zero]; rfl) (by kernel_rfl) (by kernel_rfl) (by kernel_rfl) (by intro _ _ _ h; exact h) (Or.inl ⟨by rfl, fun w hS => by go_simp⟩) hH ?_
              simp only [Act.put, List.setIfInBounds_toArray, List.set_cons_zero, List.set_cons_succ]
              refine wpAnyH_take (i := 3) (v := .slice (some ⟨gb, 0, none⟩) ks.length cv) (by simp only [List.getElem?_toArray, List.getElem?_cons_succ, List.getElem?_cons_zero]; rfl) (by kernel_rfl) (by kernel_rfl) (by kernel_rfl) (by intro _ _ _ h; exact h) (Or.inl ⟨by rfl, fun w hS => by (have y0 := cell_kept hS W1.out; go_simp)⟩) hH ?_
              simp only [Act.put, List.setIfInBounds_toArray, List.set_cons_zero, List.set_cons_succ]
              refine wpAnyH_take (i := 4) (v := .int .i64 (k : Int)) (by simp only [List.getElem?_toArray, List.getElem?_cons_succ, List.getElem?_cons_zero]; rfl) (by kernel_rfl) (by kernel_rfl) (by kernel_rfl) (by intro _ _ _ h; exact h) (Or.inl ⟨by rfl, fun w hS => by go_simp⟩) hH ?_
              simp only [Act.put, List.setIfInBounds_toArray, List.set_cons_zero, List.set_cons_succ]
              refine wpAnyH_take (i := 5) (v := .pointer (some ⟨gb, k * 2, none⟩)) (by simp only [List.getElem?_toArray, List.getElem?_cons_succ, List.getElem?_cons_zero]; rfl) (by kernel_rfl) (by kernel_rfl) (by kernel_rfl) (by intro _ _ _ h; exact h) (Or.inl ⟨by rfl, fun w hS => by (have y := I1 w; go_simp)⟩) hH ?_
              simp only [Act.put, List.setIfInBounds_toArray, List.set_cons_zero, List.set_cons_succ]
              refine wpAnyH_take (i := 6) (v := .agg #[.int .i64 (ks[k]).1, .slice pu 16 cq]) (by simp only [List.getElem?_toArray, List.getElem?_cons_succ, List.getElem?_cons_zero]; rfl) (by kernel_rfl) (by kernel_rfl) (by kernel_rfl) (by intro _ _ _ h; exact h) (Or.inl ⟨by rfl, fun w hS => by (have y0 := cell_kept hS B0.out; have y1 := cell_kept hS B1.out; go_simp)⟩) hH ?_
              simp only [Act.put, List.setIfInBounds_toArray, List.set_cons_zero, List.set_cons_succ]
              refine wpAnyH_ready (rs := [1, 7]) (by kernel_rfl) (by simp) ?_
              refine AllReadyH.cons (by simp only [List.getElem?_toArray, List.getElem?_cons_succ, List.getElem?_cons_zero]; rfl) (fun K hK => ?_) ?_
              · obtain ⟨q_0, q_1, -, -⟩ := var2_facts VO.out
                go_simp
                refine hK.out _ _ hH (fun hH => ?_)
                clear hK K q_0 q_1
                try simp only [Act.put, List.setIfInBounds_toArray, List.set_cons_zero, List.set_cons_succ]
                refine wpAnyH_ready (rs := [7]) (by kernel_rfl) (by simp) ?_
                refine AllReadyH.cons (by simp only [List.getElem?_toArray, List.getElem?_cons_succ, List.getElem?_cons_zero]; rfl) (fun K hK => ?_) AllReadyH.nil
                go_simp
                have hM := below_alloc1 x (.cells #[.int .i64 (ks[k]).1, .slice pu 16 cq] 40)
                replace VO := hid (var_below hM VO.out)
                replace RE := hid (RE.out.below hM)
                replace NK := hid (NK.out.below hM)
                have VX := hid (heap_alloc_new x (.cells #[.int .i64 (ks[k]).1, .slice pu 16 cq] 40))
                refine hK.out _ _ (hH.trans (hM.mono hH.size)) (fun hH => ?_)
                clear hK K hM
                generalize x.alloc (.cells #[.int .i64 (ks[k]).1, .slice pu 16 cq] 40) = x7 at *
                generalize x.heap.size = gx at *
                refine wpAnyH_ready (rs := [8]) (by kernel_rfl) (by simp) ?_
                refine AllReadyH.cons (by simp only [List.getElem?_toArray, List.getElem?_cons_succ, List.getElem?_cons_zero]; rfl) (fun K hK => ?_) AllReadyH.nil
                obtain ⟨c0, c1, -, -⟩ := var2_facts VX.out
                refine step_appL (by rfl) _ _ (by rfl) _ _ acc1.length LL1 bs gx 1 (ks[k]).1 (by rfl) (by rfl) RE.out.1 RE.out.2.2 c0 c1 NK.out.one AL1.out ?_
                intro g8 c8 x8 hO hG hg hgl
                have RE2 := hid (RE.out.app (x := (ks[k])) NK.out hO hG hg)
                have VO2 := hid (var_grown hG VO.out (fun e => absurd ((World.ownsRow.lt RE.out.1 _ e.symm).1) (Nat.not_le_of_lt NUM.out.2.2.1)))
                refine hK.out _ _ (hH.grown hG hH.size (fun j e => Nat.le_trans LGB.out (World.ownsRow.lt RE.out.1 j e).1)) (fun hH => ?_)
                clear hK K hO hG hg hgl c0 c1 VX RE VO NK
                refine wpAnyH_take (i := 9) (v := .pointer (some ⟨go, 1, none⟩)) (by simp only [List.getElem?_toArray, List.getElem?_cons_succ, List.getElem?_cons_zero]; rfl) (by kernel_rfl) (by kernel_rfl) (by kernel_rfl) (by intro _ _ _ h; exact h) (Or.inl ⟨by rfl, fun w hS => by go_simp⟩) hH ?_
                simp only [Act.put, List.setIfInBounds_toArray, List.set_cons_zero, List.set_cons_succ]
                refine wpAnyH_ready (rs := [10]) (by kernel_rfl) (by simp) ?_
                refine AllReadyH.cons (by simp only [List.getElem?_toArray, List.getElem?_cons_succ, List.getElem?_cons_zero]; rfl) (fun K hK => ?_) AllReadyH.nil
                obtain ⟨e0, e1, e2, e3⟩ := var2_facts VO2.out
                go_simp
                have VO := hid (cellS1 (y' := .slice (some ⟨g8, 0, none⟩) (acc1.length + 1) c8) VO2.out)
                have RE := hid (RE2.out.set (i := 1) NUM.out.2.2.1 (.slice (some ⟨g8, 0, none⟩) (acc1.length + 1) c8))
                refine hK.out _ _ (hH.setCell (p := ⟨go, 1, none⟩) (Nat.le_of_eq GS.out.symm) (.slice (some ⟨g8, 0, none⟩) (acc1.length + 1) c8)) (fun hH => ?_)
                clear hK K e0 e1 e2 e3 VO2 RE2
                refine wpAnyH_done (by kernel_rfl) ?_ _
                have BL2 := hid hH
                clear hH
                go_wp2
                go_roundw
                case rel => exact ⟨k + 1, _, _, acc1 ++ [ks[k]], LL1 ++ [.int .i64 (ks[k]).1, .slice pu 16 cq], hlt, rfl, by go_num, IN, VO, RE, BL2⟩
                case measure => simp [Go.RowKit.intOf]; omega
              refine AllReadyH.cons (by simp only [List.getElem?_toArray, List.getElem?_cons_succ, List.getElem?_cons_zero]; rfl) (fun K hK => ?_) ?_
              · go_simp
                have hM := below_alloc1 x (.cells #[.int .i64 (ks[k]).1, .slice pu 16 cq] 40)
                replace VO := hid (var_below hM VO.out)
                replace RE := hid (RE.out.below hM)
                replace NK := hid (NK.out.below hM)
                have VX := hid (heap_alloc_new x (.cells #[.int .i64 (ks[k]).1, .slice pu 16 cq] 40))
                refine hK.out _ _ (hH.trans (hM.mono hH.size)) (fun hH => ?_)
                clear hK K hM
                generalize x.alloc (.cells #[.int .i64 (ks[k]).1, .slice pu 16 cq] 40) = x7 at *
                generalize x.heap.size = gx at *
                refine wpAnyH_ready (rs := [1]) (by kernel_rfl) (by simp) ?_
                refine AllReadyH.cons (by simp only [List.getElem?_toArray, List.getElem?_cons_succ, List.getElem?_cons_zero]; rfl) (fun K hK => ?_) AllReadyH.nil
                obtain ⟨q_0, q_1, -, -⟩ := var2_facts VO.out
                go_simp
                refine hK.out _ _ hH (fun hH => ?_)
                clear hK K q_0 q_1
                try simp only [Act.put, List.setIfInBounds_toArray, List.set_cons_zero, List.set_cons_succ]
                refine wpAnyH_ready (rs := [8]) (by kernel_rfl) (by simp) ?_
                refine AllReadyH.cons (by simp only [List.getElem?_toArray, List.getElem?_cons_succ, List.getElem?_cons_zero]; rfl) (fun K hK => ?_) AllReadyH.nil
                obtain ⟨c0, c1, -, -⟩ := var2_facts VX.out
                refine step_appL (by rfl) _ _ (by rfl) _ _ acc1.length LL1 bs gx 1 (ks[k]).1 (by rfl) (by rfl) RE.out.1 RE.out.2.2 c0 c1 NK.out.one AL1.out ?_
                intro g8 c8 x8 hO hG hg hgl
                have RE2 := hid (RE.out.app (x := (ks[k])) NK.out hO hG hg)
                have VO2 := hid (var_grown hG VO.out (fun e => absurd ((World.ownsRow.lt RE.out.1 _ e.symm).1) (Nat.not_le_of_lt NUM.out.2.2.1)))
                refine hK.out _ _ (hH.grown hG hH.size (fun j e => Nat.le_trans LGB.out (World.ownsRow.lt RE.out.1 j e).1)) (fun hH => ?_)
                clear hK K hO hG hg hgl c0 c1 VX RE VO NK
                refine wpAnyH_take (i := 9) (v := .pointer (some ⟨go, 1, none⟩)) (by simp only [List.getElem?_toArray, List.getElem?_cons_succ, List.getElem?_cons_zero]; rfl) (by kernel_rfl) (by kernel_rfl) (by kernel_rfl) (by intro _ _ _ h; exact h) (Or.inl ⟨by rfl, fun w hS => by go_simp⟩) hH ?_
                simp only [Act.put, List.setIfInBounds_toArray, List.set_cons_zero, List.set_cons_succ]
                refine wpAnyH_ready (rs := [10]) (by kernel_rfl) (by simp) ?_
                refine AllReadyH.cons (by simp only [List.getElem?_toArray, List.getElem?_cons_succ, List.getElem?_cons_zero]; rfl) (fun K hK => ?_) AllReadyH.nil
                obtain ⟨e0, e1, e2, e3⟩ := var2_facts VO2.out
                go_simp
                have VO := hid (cellS1 (y' := .slice (some ⟨g8, 0, none⟩) (acc1.length + 1) c8) VO2.out)
                have RE := hid (RE2.out.set (i := 1) NUM.out.2.2.1 (.slice (some ⟨g8, 0, none⟩) (acc1.length + 1) c8))
                refine hK.out _ _ (hH.setCell (p := ⟨go, 1, none⟩) (Nat.le_of_eq GS.out.symm) (.slice (some ⟨g8, 0, none⟩) (acc1.length + 1) c8)) (fun hH => ?_)
                clear hK K e0 e1 e2 e3 VO2 RE2
                refine wpAnyH_done (by kernel_rfl) ?_ _
                have BL2 := hid hH
                clear hH
                go_wp2
                go_roundw
                case rel => exact ⟨k + 1, _, _, acc1 ++ [ks[k]], LL1 ++ [.int .i64 (ks[k]).1, .slice pu 16 cq], hlt, rfl, by go_num, IN, VO, RE, BL2⟩
                case measure => simp [Go.RowKit.intOf]; omega
              exact AllReadyH.nil
            refine AllReadyH.cons (by simp only [List.getElem?_toArray, List.getElem?_cons_succ, List.getElem?_cons_zero]; rfl) (fun K hK => ?_) ?_
            · go_simp
              have hM := below_alloc1 x6 (.cells #[.int .i64 id', .slice pn xs.length cn] 40)
              replace VO := hid (var_below hM VO.out)
              replace RE := hid (RE.out.below hM)
              replace NK := hid (NK.out.below hM)
              have VX := hid (heap_alloc_new x6 (.cells #[.int .i64 id', .slice pn xs.length cn] 40))
              refine hK.out _ _ (hH.trans (hM.mono hH.size)) (fun hH => ?_)
              clear hK K hM
              generalize x6.alloc (.cells #[.int .i64 id', .slice pn xs.length cn] 40) = x7 at *
              generalize x6.heap.size = gx at *
              refine wpAnyH_ready (rs := [1]) (by kernel_rfl) (by simp) ?_
              refine AllReadyH.cons (by simp only [List.getElem?_toArray, List.getElem?_cons_succ, List.getElem?_cons_zero]; rfl) (fun K hK => ?_) AllReadyH.nil
              obtain ⟨q_0, q_1, -, -⟩ := var2_facts VO.out
              go_simp
              refine hK.out _ _ hH (fun hH => ?_)
              clear hK K q_0 q_1
              try simp only [Act.put, List.setIfInBounds_toArray, List.set_cons_zero, List.set_cons_succ]
              refine wpAnyH_ready (rs := [9]) (by kernel_rfl) (by simp) ?_
              refine AllReadyH.cons (by simp only [List.getElem?_toArray, List.getElem?_cons_succ, List.getElem?_cons_zero]; rfl) (fun K hK => ?_) AllReadyH.nil
              obtain ⟨c0, c1, -, -⟩ := var2_facts VX.out
              refine step_appL (by rfl) _ _ (by rfl) _ _ acc.length LL bs gx 1 id' (by rfl) (by rfl) RE.out.1 RE.out.2.2 c0 c1 NK.out.one AL.out ?_
              intro g8 c8 x8 hO hG hg hgl
              have RE2 := hid (RE.out.app (x := (id', xs)) NK.out hO hG hg)
              have VO2 := hid (var_grown hG VO.out (fun e => absurd ((World.ownsRow.lt RE.out.1 _ e.symm).1) (Nat.not_le_of_lt NUM.out.2.2.1)))
              refine hK.out _ _ (hH.grown hG hH.size (fun j e => Nat.le_trans LGB.out (World.ownsRow.lt RE.out.1 j e).1)) (fun hH => ?_)
              clear hK K hO hG hg hgl c0 c1 VX RE VO NK
              refine wpAnyH_take (i := 10) (v := .pointer (some ⟨go, 1, none⟩)) (by simp only [List.getElem?_toArray, List.getElem?_cons_succ, List.getElem?_cons_zero]; rfl) (by kernel_rfl) (by kernel_rfl) (by kernel_rfl) (by intro _ _ _ h; exact h) (Or.inl ⟨by rfl, fun w hS => by go_simp⟩) hH ?_
              simp only [Act.put, List.setIfInBounds_toArray, List.set_cons_zero, List.set_cons_succ]
              refine wpAnyH_ready (rs := [11]) (by kernel_rfl) (by simp) ?_
              refine AllReadyH.cons (by simp only [List.getElem?_toArray, List.getElem?_cons_succ, List.getElem?_cons_zero]; rfl) (fun K hK => ?_) AllReadyH.nil
              obtain ⟨e0, e1, e2, e3⟩ := var2_facts VO2.out
              go_simp
              have VO := hid (cellS1 (y' := .slice (some ⟨g8, 0, none⟩) (acc.length + 1) c8) VO2.out)
              have RE := hid (RE2.out.set (i := 1) NUM.out.2.2.1 (.slice (some ⟨g8, 0, none⟩) (acc.length + 1) c8))
              refine hK.out _ _ (hH.setCell (p := ⟨go, 1, none⟩) (Nat.le_of_eq GS.out.symm) (.slice (some ⟨g8, 0, none⟩) (acc.length + 1) c8)) (fun hH => ?_)
              clear hK K e0 e1 e2 e3 VO2 RE2
              refine wpAnyH_done (by kernel_rfl) ?_ _
              have BL := hid hH
              clear hH
              generalize x8.setCell ⟨go, 1, none⟩ (.slice (some ⟨g8, 0, none⟩) (acc.length + 1) c8) = x0 at *
              generalize (.slice (some ⟨g8, 0, none⟩) (acc.length + 1) c8 : Value) = v1 at *
              generalize acc ++ [(id', xs)] = acc1 at *
              generalize LL ++ [.int .i64 id', .slice pn xs.length cn] = LL1 at *
              go_wp2
              refine wp_region_held_drew (S := fun w' => Below w5.heap.size w5 w') (by kernel_rfl) BL.out.drew (fun hH => ?_)
              replace VO := hid (show x0.drew.heap[go]? = _ from VO.out)
              replace RE := hid (RE.out.below ((Below.refl x0.heap.size x0).drew))
              have NK := hid (show Nk x0.drew v1 lo go (.slice pu 16 cq) (ks[k]).2 from Nk.ob RE.out (OBk.out.below hH) KL.out (Nat.le_of_lt NUM.out.2.1) NUM.out.2.2.1)
              clear BL
              generalize x0.drew = x at *
              refine wpAnyH_take (i := 0) (v := .pointer (some ⟨go, 1, none⟩)) (by simp only [List.getElem?_toArray, List.getElem?_cons_zero]; rfl) (by kernel_rfl) (by kernel_rfl) (by kernel_rfl) (by intro _ _ _ h; exact h) (Or.inl ⟨by rfl, fun w hS => by go_simp⟩) hH ?_
              simp only [Act.put, List.setIfInBounds_toArray, List.set_cons_zero, List.set_cons_succ]
              refine wpAnyH_take (i := 2) (v := .pointer (some ⟨gw, 1, none⟩)) (by simp only [List.getElem?_toArray, List.getElem?_cons_succ, List.getElem?_cons_zero]; rfl) (by kernel_rfl) (by kernel_rfl) (by kernel_rfl) (by intro _ _ _ h; exact h) (Or.inl ⟨by rfl, fun w hS => by go_simp⟩) hH ?_
              simp only [Act.put, List.setIfInBounds_toArray, List.set_cons_zero, List.set_cons_succ]
              refine wpAnyH_take (i := 3) (v := .slice (some ⟨gb, 0, none⟩) ks.length cv) (by simp only [List.getElem?_toArray, List.getElem?_cons_succ, List.getElem?_cons_zero]; rfl) (by kernel_rfl) (by kernel_rfl) (by kernel_rfl) (by intro _ _ _ h; exact h) (Or.inl ⟨by rfl, fun w hS => by (have y0 := cell_kept hS W1.out; go_simp)⟩) hH ?_
              simp only [Act.put, List.setIfInBounds_toArray, List.set_cons_zero, List.set_cons_succ]
              refine wpAnyH_take (i := 4) (v := .int .i64 (k : Int)) (by simp only [List.getElem?_toArray, List.getElem?_cons_succ, List.getElem?_cons_zero]; rfl) (by kernel_rfl) (by kernel_rfl) (by kernel_rfl) (by intro _ _ _ h; exact h) (Or.inl ⟨by rfl, fun w hS => by go_simp⟩) hH ?_
              simp only [Act.put, List.setIfInBounds_toArray, List.set_cons_zero, List.set_cons_succ]
              refine wpAnyH_take (i := 5) (v := .pointer (some ⟨gb, k * 2, none⟩)) (by simp only [List.getElem?_toArray, List.getElem?_cons_succ, List.getElem?_cons_zero]; rfl) (by kernel_rfl) (by kernel_rfl) (by kernel_rfl) (by intro _ _ _ h; exact h) (Or.inl ⟨by rfl, fun w hS => by (have y := I1 w; go_simp)⟩) hH ?_
              simp only [Act.put, List.setIfInBounds_toArray, List.set_cons_zero, List.set_cons_succ]
              refine wpAnyH_take (i := 6) (v := .agg #[.int .i64 (ks[k]).1, .slice pu 16 cq]) (by simp only [List.getElem?_toArray, List.getElem?_cons_succ, List.getElem?_cons_zero]; rfl) (by kernel_rfl) (by kernel_rfl) (by kernel_rfl) (by intro _ _ _ h; exact h) (Or.inl ⟨by rfl, fun w hS => by (have y0 := cell_kept hS B0.out; have y1 := cell_kept hS B1.out; go_simp)⟩) hH ?_
              simp only [Act.put, List.setIfInBounds_toArray, List.set_cons_zero, List.set_cons_succ]
              refine wpAnyH_ready (rs := [1, 7]) (by kernel_rfl) (by simp) ?_
              refine AllReadyH.cons (by simp only [List.getElem?_toArray, List.getElem?_cons_succ, List.getElem?_cons_zero]; rfl) (fun K hK => ?_) ?_
              · obtain ⟨q_0, q_1, -, -⟩ := var2_facts VO.out
                go_simp
                refine hK.out _ _ hH (fun hH => ?_)
                clear hK K q_0 q_1
                try simp only [Act.put, List.setIfInBounds_toArray, List.set_cons_zero, List.set_cons_succ]
                refine wpAnyH_ready (rs := [7]) (by kernel_rfl) (by simp) ?_
                refine AllReadyH.cons (by simp only [List.getElem?_toArray, List.getElem?_cons_succ, List.getElem?_cons_zero]; rfl) (fun K hK => ?_) AllReadyH.nil
                go_simp
                have hM := below_alloc1 x (.cells #[.int .i64 (ks[k]).1, .slice pu 16 cq] 40)
                replace VO := hid (var_below hM VO.out)
                replace RE := hid (RE.out.below hM)
                replace NK := hid (NK.out.below hM)
                have VX := hid (heap_alloc_new x (.cells #[.int .i64 (ks[k]).1, .slice pu 16 cq] 40))
                refine hK.out _ _ (hH.trans (hM.mono hH.size)) (fun hH => ?_)
                clear hK K hM
                generalize x.alloc (.cells #[.int .i64 (ks[k]).1, .slice pu 16 cq] 40) = x7 at *
                generalize x.heap.size = gx at *
                refine wpAnyH_ready (rs := [8]) (by kernel_rfl) (by simp) ?_
                refine AllReadyH.cons (by simp only [List.getElem?_toArray, List.getElem?_cons_succ, List.getElem?_cons_zero]; rfl) (fun K hK => ?_) AllReadyH.nil
                obtain ⟨c0, c1, -, -⟩ := var2_facts VX.out
                refine step_appL (by rfl) _ _ (by rfl) _ _ acc1.length LL1 bs gx 1 (ks[k]).1 (by rfl) (by rfl) RE.out.1 RE.out.2.2 c0 c1 NK.out.one AL1.out ?_
                intro g8 c8 x8 hO hG hg hgl
                have RE2 := hid (RE.out.app (x := (ks[k])) NK.out hO hG hg)
                have VO2 := hid (var_grown hG VO.out (fun e => absurd ((World.ownsRow.lt RE.out.1 _ e.symm).1) (Nat.not_le_of_lt NUM.out.2.2.1)))
                refine hK.out _ _ (hH.grown hG hH.size (fun j e => Nat.le_trans LGB.out (World.ownsRow.lt RE.out.1 j e).1)) (fun hH => ?_)
                clear hK K hO hG hg hgl c0 c1 VX RE VO NK
                refine wpAnyH_take (i := 9) (v := .pointer (some ⟨go, 1, none⟩)) (by simp only [List.getElem?_toArray, List.getElem?_cons_succ, List.getElem?_cons_zero]; rfl) (by kernel_rfl) (by kernel_rfl) (by kernel_rfl) (by intro _ _ _ h; exact h) (Or.inl ⟨by rfl, fun w hS => by go_simp⟩) hH ?_
                simp only [Act.put, List.setIfInBounds_toArray, List.set_cons_zero, List.set_cons_succ]
                refine wpAnyH_ready (rs := [10]) (by kernel_rfl) (by simp) ?_
                refine AllReadyH.cons (by simp only [List.getElem?_toArray, List.getElem?_cons_succ, List.getElem?_cons_zero]; rfl) (fun K hK => ?_) AllReadyH.nil
                obtain ⟨e0, e1, e2, e3⟩ := var2_facts VO2.out
                go_simp
                have VO := hid (cellS1 (y' := .slice (some ⟨g8, 0, none⟩) (acc1.length + 1) c8) VO2.out)
                have RE := hid (RE2.out.set (i := 1) NUM.out.2.2.1 (.slice (some ⟨g8, 0, none⟩) (acc1.length + 1) c8))
                refine hK.out _ _ (hH.setCell (p := ⟨go, 1, none⟩) (Nat.le_of_eq GS.out.symm) (.slice (some ⟨g8, 0, none⟩) (acc1.length + 1) c8)) (fun hH => ?_)
                clear hK K e0 e1 e2 e3 VO2 RE2
                refine wpAnyH_done (by kernel_rfl) ?_ _
                have BL2 := hid hH
                clear hH
                go_wp2
                go_roundw
                case rel => exact ⟨k + 1, _, _, acc1 ++ [ks[k]], LL1 ++ [.int .i64 (ks[k]).1, .slice pu 16 cq], hlt, rfl, by go_num, IN, VO, RE, BL2⟩
                case measure => simp [Go.RowKit.intOf]; omega
              refine AllReadyH.cons (by simp only [List.getElem?_toArray, List.getElem?_cons_succ, List.getElem?_cons_zero]; rfl) (fun K hK => ?_) ?_
              · go_simp
                have hM := below_alloc1 x (.cells #[.int .i64 (ks[k]).1, .slice pu 16 cq] 40)
                replace VO := hid (var_below hM VO.out)
                replace RE := hid (RE.out.below hM)
                replace NK := hid (NK.out.below hM)
                have VX := hid (heap_alloc_new x (.cells #[.int .i64 (ks[k]).1, .slice pu 16 cq] 40))
                refine hK.out _ _ (hH.trans (hM.mono hH.size)) (fun hH => ?_)
                clear hK K hM
                generalize x.alloc (.cells #[.int .i64 (ks[k]).1, .slice pu 16 cq] 40) = x7 at *
                generalize x.heap.size = gx at *
                refine wpAnyH_ready (rs := [1]) (by kernel_rfl) (by simp) ?_
                refine AllReadyH.cons (by simp only [List.getElem?_toArray, List.getElem?_cons_succ, List.getElem?_cons_zero]; rfl) (fun K hK => ?_) AllReadyH.nil
                obtain ⟨q_0, q_1, -, -⟩ := var2_facts VO.out
                go_simp
                refine hK.out _ _ hH (fun hH => ?_)
                clear hK K q_0 q_1
                try simp only [Act.put, List.setIfInBounds_toArray, List.set_cons_zero, List.set_cons_succ]
                refine wpAnyH_ready (rs := [8]) (by kernel_rfl) (by simp) ?_
                refine AllReadyH.cons (by simp only [List.getElem?_toArray, List.getElem?_cons_succ, List.getElem?_cons_zero]; rfl) (fun K hK => ?_) AllReadyH.nil
                obtain ⟨c0, c1, -, -⟩ := var2_facts VX.out
                refine step_appL (by rfl) _ _ (by rfl) _ _ acc1.length LL1 bs gx 1 (ks[k]).1 (by rfl) (by rfl) RE.out.1 RE.out.2.2 c0 c1 NK.out.one AL1.out ?_
                intro g8 c8 x8 hO hG hg hgl
                have RE2 := hid (RE.out.app (x := (ks[k])) NK.out hO hG hg)
                have VO2 := hid (var_grown hG VO.out (fun e => absurd ((World.ownsRow.lt RE.out.1 _ e.symm).1) (Nat.not_le_of_lt NUM.out.2.2.1)))
                refine hK.out _ _ (hH.grown hG hH.size (fun j e => Nat.le_trans LGB.out (World.ownsRow.lt RE.out.1 j e).1)) (fun hH => ?_)
                clear hK K hO hG hg hgl c0 c1 VX RE VO NK
                refine wpAnyH_take (i := 9) (v := .pointer (some ⟨go, 1, none⟩)) (by simp only [List.getElem?_toArray, List.getElem?_cons_succ, List.getElem?_cons_zero]; rfl) (by kernel_rfl) (by kernel_rfl) (by kernel_rfl) (by intro _ _ _ h; exact h) (Or.inl ⟨by rfl, fun w hS => by go_simp⟩) hH ?_
                simp only [Act.put, List.setIfInBounds_toArray, List.set_cons_zero, List.set_cons_succ]
                refine wpAnyH_ready (rs := [10]) (by kernel_rfl) (by simp) ?_
                refine AllReadyH.cons (by simp only [List.getElem?_toArray, List.getElem?_cons_succ, List.getElem?_cons_zero]; rfl) (fun K hK => ?_) AllReadyH.nil
                obtain ⟨e0, e1, e2, e3⟩ := var2_facts VO2.out
                go_simp
                have VO := hid (cellS1 (y' := .slice (some ⟨g8, 0, none⟩) (acc1.length + 1) c8) VO2.out)
                have RE := hid (RE2.out.set (i := 1) NUM.out.2.2.1 (.slice (some ⟨g8, 0, none⟩) (acc1.length + 1) c8))
                refine hK.out _ _ (hH.setCell (p := ⟨go, 1, none⟩) (Nat.le_of_eq GS.out.symm) (.slice (some ⟨g8, 0, none⟩) (acc1.length + 1) c8)) (fun hH => ?_)
                clear hK K e0 e1 e2 e3 VO2 RE2
                refine wpAnyH_done (by kernel_rfl) ?_ _
                have BL2 := hid hH
                clear hH
                go_wp2
                go_roundw
                case rel => exact ⟨k + 1, _, _, acc1 ++ [ks[k]], LL1 ++ [.int .i64 (ks[k]).1, .slice pu 16 cq], hlt, rfl, by go_num, IN, VO, RE, BL2⟩
                case measure => simp [Go.RowKit.intOf]; omega
              exact AllReadyH.nil
            exact AllReadyH.nil
          exact AllReadyH.nil
        · have IN := hid (insTo_step IT.out hlt (.inr hn))
          clear IT
          go_wp2
          go_quiet (fail)
          have hD : Below wr.heap.size wr (wr.drewN nq) := below_drewN (Below.refl _ _) _
          replace VO := hid (var_below hD VO.out)
          replace RE := hid (RE.out.below hD)
          replace BL := hid (BL.out.trans (hD.mono BL.out.size))
          clear hD c0 w1 b0
          generalize wr.drewN nq = x0 at *
          go_wp2
          refine wp_region_held_drew (S := fun w' => Below w5.heap.size w5 w') (by kernel_rfl) BL.out.drew (fun hH => ?_)
          replace VO := hid (show x0.drew.heap[go]? = _ from VO.out)
          replace RE := hid (RE.out.below ((Below.refl x0.heap.size x0).drew))
          have NK := hid (show Nk x0.drew v lo go (.slice pu 16 cq) (ks[k]).2 from Nk.ob RE.out (OBk.out.below hH) KL.out (Nat.le_of_lt NUM.out.2.1) NUM.out.2.2.1)
          clear BL
          generalize x0.drew = x at *
          refine wpAnyH_take (i := 0) (v := .pointer (some ⟨go, 1, none⟩)) (by simp only [List.getElem?_toArray, List.getElem?_cons_zero]; rfl) (by kernel_rfl) (by kernel_rfl) (by kernel_rfl) (by intro _ _ _ h; exact h) (Or.inl ⟨by rfl, fun w hS => by go_simp⟩) hH ?_
          simp only [Act.put, List.setIfInBounds_toArray, List.set_cons_zero, List.set_cons_succ]
          refine wpAnyH_take (i := 2) (v := .pointer (some ⟨gw, 1, none⟩)) (by simp only [List.getElem?_toArray, List.getElem?_cons_succ, List.getElem?_cons_zero]; rfl) (by kernel_rfl) (by kernel_rfl) (by kernel_rfl) (by intro _ _ _ h; exact h) (Or.inl ⟨by rfl, fun w hS => by go_simp⟩) hH ?_
          simp only [Act.put, List.setIfInBounds_toArray, List.set_cons_zero, List.set_cons_succ]
          refine wpAnyH_take (i := 3) (v := .slice (some ⟨gb, 0, none⟩) ks.length cv) (by simp only [List.getElem?_toArray, List.getElem?_cons_succ, List.getElem?_cons_zero]; rfl) (by kernel_rfl) (by kernel_rfl) (by kernel_rfl) (by intro _ _ _ h; exact h) (Or.inl ⟨by rfl, fun w hS => by (have y0 := cell_kept hS W1.out; go_simp)⟩) hH ?_
          simp only [Act.put, List.setIfInBounds_toArray, List.set_cons_zero, List.set_cons_succ]
          refine wpAnyH_take (i := 4) (v := .int .i64 (k : Int)) (by simp only [List.getElem?_toArray, List.getElem?_cons_succ, List.getElem?_cons_zero]; rfl) (by kernel_rfl) (by kernel_rfl) (by kernel_rfl) (by intro _ _ _ h; exact h) (Or.inl ⟨by rfl, fun w hS => by go_simp⟩) hH ?_
          simp only [Act.put, List.setIfInBounds_toArray, List.set_cons_zero, List.set_cons_succ]
          refine wpAnyH_take (i := 5) (v := .pointer (some ⟨gb, k * 2, none⟩)) (by simp only [List.getElem?_toArray, List.getElem?_cons_succ, List.getElem?_cons_zero]; rfl) (by kernel_rfl) (by kernel_rfl) (by kernel_rfl) (by intro _ _ _ h; exact h) (Or.inl ⟨by rfl, fun w hS => by (have y := I1 w; go_simp)⟩) hH ?_
          simp only [Act.put, List.setIfInBounds_toArray, List.set_cons_zero, List.set_cons_succ]
          refine wpAnyH_take (i := 6) (v := .agg #[.int .i64 (ks[k]).1, .slice pu 16 cq]) (by simp only [List.getElem?_toArray, List.getElem?_cons_succ, List.getElem?_cons_zero]; rfl) (by kernel_rfl) (by kernel_rfl) (by kernel_rfl) (by intro _ _ _ h; exact h) (Or.inl ⟨by rfl, fun w hS => by (have y0 := cell_kept hS B0.out; have y1 := cell_kept hS B1.out; go_simp)⟩) hH ?_
          simp only [Act.put, List.setIfInBounds_toArray, List.set_cons_zero, List.set_cons_succ]
          refine wpAnyH_ready (rs := [1, 7]) (by kernel_rfl) (by simp) ?_
          refine AllReadyH.cons (by simp only [List.getElem?_toArray, List.getElem?_cons_succ, List.getElem?_cons_zero]; rfl) (fun K hK => ?_) ?_
          · obtain ⟨q_0, q_1, -, -⟩ := var2_facts VO.out
            go_simp
            refine hK.out _ _ hH (fun hH => ?_)
            clear hK K q_0 q_1
            try simp only [Act.put, List.setIfInBounds_toArray, List.set_cons_zero, List.set_cons_succ]
            refine wpAnyH_ready (rs := [7]) (by kernel_rfl) (by simp) ?_
            refine AllReadyH.cons (by simp only [List.getElem?_toArray, List.getElem?_cons_succ, List.getElem?_cons_zero]; rfl) (fun K hK => ?_) AllReadyH.nil
            go_simp
            have hM := below_alloc1 x (.cells #[.int .i64 (ks[k]).1, .slice pu 16 cq] 40)
            replace VO := hid (var_below hM VO.out)
            replace RE := hid (RE.out.below hM)
            replace NK := hid (NK.out.below hM)
            have VX := hid (heap_alloc_new x (.cells #[.int .i64 (ks[k]).1, .slice pu 16 cq] 40))
            refine hK.out _ _ (hH.trans (hM.mono hH.size)) (fun hH => ?_)
            clear hK K hM
            generalize x.alloc (.cells #[.int .i64 (ks[k]).1, .slice pu 16 cq] 40) = x7 at *
            generalize x.heap.size = gx at *
            refine wpAnyH_ready (rs := [8]) (by kernel_rfl) (by simp) ?_
            refine AllReadyH.cons (by simp only [List.getElem?_toArray, List.getElem?_cons_succ, List.getElem?_cons_zero]; rfl) (fun K hK => ?_) AllReadyH.nil
            obtain ⟨c0, c1, -, -⟩ := var2_facts VX.out
            refine step_appL (by rfl) _ _ (by rfl) _ _ acc.length LL bs gx 1 (ks[k]).1 (by rfl) (by rfl) RE.out.1 RE.out.2.2 c0 c1 NK.out.one AL.out ?_
            intro g8 c8 x8 hO hG hg hgl
            have RE2 := hid (RE.out.app (x := (ks[k])) NK.out hO hG hg)
            have VO2 := hid (var_grown hG VO.out (fun e => absurd ((World.ownsRow.lt RE.out.1 _ e.symm).1) (Nat.not_le_of_lt NUM.out.2.2.1)))
            refine hK.out _ _ (hH.grown hG hH.size (fun j e => Nat.le_trans LGB.out (World.ownsRow.lt RE.out.1 j e).1)) (fun hH => ?_)
            clear hK K hO hG hg hgl c0 c1 VX RE VO NK
            refine wpAnyH_take (i := 9) (v := .pointer (some ⟨go, 1, none⟩)) (by simp only [List.getElem?_toArray, List.getElem?_cons_succ, List.getElem?_cons_zero]; rfl) (by kernel_rfl) (by kernel_rfl) (by kernel_rfl) (by intro _ _ _ h; exact h) (Or.inl ⟨by rfl, fun w hS => by go_simp⟩) hH ?_
            simp only [Act.put, List.setIfInBounds_toArray, List.set_cons_zero, List.set_cons_succ]
            refine wpAnyH_ready (rs := [10]) (by kernel_rfl) (by simp) ?_
            refine AllReadyH.cons (by simp only [List.getElem?_toArray, List.getElem?_cons_succ, List.getElem?_cons_zero]; rfl) (fun K hK => ?_) AllReadyH.nil
            obtain ⟨e0, e1, e2, e3⟩ := var2_facts VO2.out
            go_simp
            have VO := hid (cellS1 (y' := .slice (some ⟨g8, 0, none⟩) (acc.length + 1) c8) VO2.out)
            have RE := hid (RE2.out.set (i := 1) NUM.out.2.2.1 (.slice (some ⟨g8, 0, none⟩) (acc.length + 1) c8))
            refine hK.out _ _ (hH.setCell (p := ⟨go, 1, none⟩) (Nat.le_of_eq GS.out.symm) (.slice (some ⟨g8, 0, none⟩) (acc.length + 1) c8)) (fun hH => ?_)
            clear hK K e0 e1 e2 e3 VO2 RE2
            refine wpAnyH_done (by kernel_rfl) ?_ _
            have BL2 := hid hH
            clear hH
            go_wp2
            go_roundw
            case rel => exact ⟨k + 1, _, _, acc ++ [ks[k]], LL ++ [.int .i64 (ks[k]).1, .slice pu 16 cq], hlt, rfl, by go_num, IN, VO, RE, BL2⟩
            case measure => simp [Go.RowKit.intOf]; omega
          refine AllReadyH.cons (by simp only [List.getElem?_toArray, List.getElem?_cons_succ, List.getElem?_cons_zero]; rfl) (fun K hK => ?_) ?_
          · go_simp
            have hM := below_alloc1 x (.cells #[.int .i64 (ks[k]).1, .slice pu 16 cq] 40)
            replace VO := hid (var_below hM VO.out)
            replace RE := hid (RE.out.below hM)
            replace NK := hid (NK.out.below hM)
            have VX := hid (heap_alloc_new x (.cells #[.int .i64 (ks[k]).1, .slice pu 16 cq] 40))
            refine hK.out _ _ (hH.trans (hM.mono hH.size)) (fun hH => ?_)
            clear hK K hM
            generalize x.alloc (.cells #[.int .i64 (ks[k]).1, .slice pu 16 cq] 40) = x7 at *
            generalize x.heap.size = gx at *
            refine wpAnyH_ready (rs := [1]) (by kernel_rfl) (by simp) ?_
            refine AllReadyH.cons (by simp only [List.getElem?_toArray, List.getElem?_cons_succ, List.getElem?_cons_zero]; rfl) (fun K hK => ?_) AllReadyH.nil
            obtain ⟨q_0, q_1, -, -⟩ := var2_facts VO.out
            go_simp
            refine hK.out _ _ hH (fun hH => ?_)
            clear hK K q_0 q_1
            try simp only [Act.put, List.setIfInBounds_toArray, List.set_cons_zero, List.set_cons_succ]
            refine wpAnyH_ready (rs := [8]) (by kernel_rfl) (by simp) ?_
            refine AllReadyH.cons (by simp only [List.getElem?_toArray, List.getElem?_cons_succ, List.getElem?_cons_zero]; rfl) (fun K hK => ?_) AllReadyH.nil
            obtain ⟨c0, c1, -, -⟩ := var2_facts VX.out
            refine step_appL (by rfl) _ _ (by rfl) _ _ acc.length LL bs gx 1 (ks[k]).1 (by rfl) (by rfl) RE.out.1 RE.out.2.2 c0 c1 NK.out.one AL.out ?_
            intro g8 c8 x8 hO hG hg hgl
            have RE2 := hid (RE.out.app (x := (ks[k])) NK.out hO hG hg)
            have VO2 := hid (var_grown hG VO.out (fun e => absurd ((World.ownsRow.lt RE.out.1 _ e.symm).1) (Nat.not_le_of_lt NUM.out.2.2.1)))
            refine hK.out _ _ (hH.grown hG hH.size (fun j e => Nat.le_trans LGB.out (World.ownsRow.lt RE.out.1 j e).1)) (fun hH => ?_)
            clear hK K hO hG hg hgl c0 c1 VX RE VO NK
            refine wpAnyH_take (i := 9) (v := .pointer (some ⟨go, 1, none⟩)) (by simp only [List.getElem?_toArray, List.getElem?_cons_succ, List.getElem?_cons_zero]; rfl) (by kernel_rfl) (by kernel_rfl) (by kernel_rfl) (by intro _ _ _ h; exact h) (Or.inl ⟨by rfl, fun w hS => by go_simp⟩) hH ?_
            simp only [Act.put, List.setIfInBounds_toArray, List.set_cons_zero, List.set_cons_succ]
            refine wpAnyH_ready (rs := [10]) (by kernel_rfl) (by simp) ?_
            refine AllReadyH.cons (by simp only [List.getElem?_toArray, List.getElem?_cons_succ, List.getElem?_cons_zero]; rfl) (fun K hK => ?_) AllReadyH.nil
            obtain ⟨e0, e1, e2, e3⟩ := var2_facts VO2.out
            go_simp
            have VO := hid (cellS1 (y' := .slice (some ⟨g8, 0, none⟩) (acc.length + 1) c8) VO2.out)
            have RE := hid (RE2.out.set (i := 1) NUM.out.2.2.1 (.slice (some ⟨g8, 0, none⟩) (acc.length + 1) c8))
            refine hK.out _ _ (hH.setCell (p := ⟨go, 1, none⟩) (Nat.le_of_eq GS.out.symm) (.slice (some ⟨g8, 0, none⟩) (acc.length + 1) c8)) (fun hH => ?_)
            clear hK K e0 e1 e2 e3 VO2 RE2
            refine wpAnyH_done (by kernel_rfl) ?_ _
            have BL2 := hid hH
            clear hH
            go_wp2
            go_roundw
            case rel => exact ⟨k + 1, _, _, acc ++ [ks[k]], LL ++ [.int .i64 (ks[k]).1, .slice pu 16 cq], hlt, rfl, by go_num, IN, VO, RE, BL2⟩
            case measure => simp [Go.RowKit.intOf]; omega
          exact AllReadyH.nil
    · have hke : k = ks.length := by omega
      subst hke
      have hnl : ¬ ((ks.length : Int) < (ks.length : Int)) := by omega
      clear c0
      cases d with
      | true =>
        have EA := hid (insTo_done IT.out)
        clear IT
        have VR2 := hid (var_below BL.out VR.out)
        have BE := hid (BB.out.trans (BL.out.mono BB.out.size))
        obtain ⟨pv, cz, rfl, -, -, -⟩ := RE.out.rd.parts
        obtain ⟨o0, o1, -, -⟩ := var2_facts VO.out
        obtain ⟨⟨r0, r1, r2⟩, y0, y1, y2⟩ := w3_facts VR2.out
        have hset := hid (w3_set (x' := .int .i64 0) (y' := .int .i64 rk) (z' := .slice pv acc.length cz) VR2.out)
        have hbel := hid (w3_below (g := g1) (x := .int .i64 0) (y := .int .i64 rk) (z := .slice pv acc.length cz) BE.out LG.out)
        have GB1 := hid (show g1 < bs by have := NUM.out; omega)
        have LWL := hid (show w.heap.size ≤ lo by have := NUM.out; have := LG.out; omega)
        have LWB := hid (show w.heap.size ≤ bs by have := NUM.out; have := LG.out; omega)
        have RF := hid ((((RE.out.low (i := 0) GB1.out NUM.out.2.2.2.1 (.int .i64 0)).low (i := 1) GB1.out NUM.out.2.2.2.1 (.int .i64 rk)).low (i := 2) GB1.out NUM.out.2.2.2.1 (.slice pv acc.length cz)).far LWL.out LWB.out)
        go_wp2
        try simp only [Exit.inBlock, Exit.then]
        exact bodyPost_ret (v := .agg #[.int .i64 0, .int .i64 rk, .slice pv acc.length cz]) (results_cell_row rfl _ _ g1 44 _ _ _ rfl hset.out Try.underlying44 rfl (by kernel_rfl)) rfl ⟨_, rfl, by rw [← EA.out]; exact RF.out, hbel.out⟩
      | false =>
        have EA := hid (insTo_open IT.out)
        clear IT
        go_wp2
        refine wp_region_held_drew (S := fun w' => Below w5.heap.size w5 w') (by kernel_rfl) BL.out.drew (fun hH => ?_)
        replace VO := hid (show wr.drew.heap[go]? = _ from VO.out)
        replace RE := hid (RE.out.below ((Below.refl wr.heap.size wr).drew))
        have HX := hid (HU.out.below hH)
        clear BL
        generalize wr.drew = x at *
        refine wpAnyH_take (i := 0) (v := .pointer (some ⟨go, 1, none⟩)) (by simp only [List.getElem?_toArray, List.getElem?_cons_zero]; rfl) (by kernel_rfl) (by kernel_rfl) (by kernel_rfl) (by intro _ _ _ h; exact h) (Or.inl ⟨by rfl, fun w hS => by go_simp⟩) hH ?_
        simp only [Act.put, List.setIfInBounds_toArray, List.set_cons_zero, List.set_cons_succ]
        refine wpAnyH_take (i := 2) (v := .pointer (some ⟨gk, 0, none⟩)) (by simp only [List.getElem?_toArray, List.getElem?_cons_succ, List.getElem?_cons_zero]; rfl) (by kernel_rfl) (by kernel_rfl) (by kernel_rfl) (by intro _ _ _ h; exact h) (Or.inl ⟨by rfl, fun w hS => by go_simp⟩) hH ?_
        simp only [Act.put, List.setIfInBounds_toArray, List.set_cons_zero, List.set_cons_succ]
        refine wpAnyH_take (i := 3) (v := .int .i64 id') (by simp only [List.getElem?_toArray, List.getElem?_cons_succ, List.getElem?_cons_zero]; rfl) (by kernel_rfl) (by kernel_rfl) (by kernel_rfl) (by intro _ _ _ h; exact h) (Or.inl ⟨by rfl, fun w hS => by (have y0 := cell_kept hS C0.out; go_simp)⟩) hH ?_
        simp only [Act.put, List.setIfInBounds_toArray, List.set_cons_zero, List.set_cons_succ]
        refine wpAnyH_take (i := 4) (v := .pointer (some ⟨gk, 1, none⟩)) (by simp only [List.getElem?_toArray, List.getElem?_cons_succ, List.getElem?_cons_zero]; rfl) (by kernel_rfl) (by kernel_rfl) (by kernel_rfl) (by intro _ _ _ h; exact h) (Or.inl ⟨by rfl, fun w hS => by go_simp⟩) hH ?_
        simp only [Act.put, List.setIfInBounds_toArray, List.set_cons_zero, List.set_cons_succ]
        refine wpAnyH_take (i := 5) (v := .slice (some ⟨bu, ou, none⟩) xs.length cu) (by simp only [List.getElem?_toArray, List.getElem?_cons_succ, List.getElem?_cons_zero]; rfl) (by kernel_rfl) (by kernel_rfl) (by kernel_rfl) (by intro _ _ _ h; exact h) (Or.inl ⟨by rfl, fun w hS => by (have y0 := cell_kept hS C1.out; go_simp)⟩) hH ?_
        simp only [Act.put, List.setIfInBounds_toArray, List.set_cons_zero, List.set_cons_succ]
        refine wpAnyH_ready (rs := [1, 6]) (by kernel_rfl) (by simp) ?_
        refine AllReadyH.cons (by simp only [List.getElem?_toArray, List.getElem?_cons_succ, List.getElem?_cons_zero]; rfl) (fun K hK => ?_) ?_
        · obtain ⟨q_0, q_1, -, -⟩ := var2_facts VO.out
          go_simp
          refine hK.out _ _ hH (fun hH => ?_)
          clear hK K q_0 q_1
          try simp only [Act.put, List.setIfInBounds_toArray, List.set_cons_zero, List.set_cons_succ]
          refine wpAnyH_ready (rs := [6]) (by kernel_rfl) (by simp) ?_
          refine AllReadyH.cons (by simp only [List.getElem?_toArray, List.getElem?_cons_succ, List.getElem?_cons_zero]; rfl) (fun K hK => ?_) AllReadyH.nil
          go_simp
          refine (copyR _ xs xs.length _ HX.out rfl KX.out (by have := N16.out; omega)).mono ?_
          rintro e x6 ⟨un, rfl, hN, hM⟩
          have NK := hid (Nk.own RE.out hN KX.out (Nat.le_of_lt (Nat.lt_of_le_of_lt NUM.out.1 (Nat.lt_trans NUM.out.2.1 NUM.out.2.2.1))) NUM.out.2.2.1)
          refine hK.out _ _ (hH.trans (hM.mono hH.size)) (fun hH => ?_)
          clear hK K hN HX
          replace VO := hid (var_below hM VO.out)
          replace RE := hid (RE.out.below hM)
          clear hM
          obtain ⟨pn, cn, rfl, -, -, -⟩ := NK.out.rd.parts
          refine wpAnyH_take (i := 7) (v := .agg #[.int .i64 id', .slice pn xs.length cn]) (by simp only [List.getElem?_toArray, List.getElem?_cons_succ, List.getElem?_cons_zero]; rfl) (by kernel_rfl) (by kernel_rfl) (by kernel_rfl) (by intro _ _ _ h; exact h) (Or.inl ⟨by rfl, fun w hS => by go_simp⟩) hH ?_
          simp only [Act.put, List.setIfInBounds_toArray, List.set_cons_zero, List.set_cons_succ]
          refine wpAnyH_ready (rs := [8]) (by kernel_rfl) (by simp) ?_
          refine AllReadyH.cons (by simp only [List.getElem?_toArray, List.getElem?_cons_succ, List.getElem?_cons_zero]; rfl) (fun K hK => ?_) AllReadyH.nil
          go_simp
          have hM := below_alloc1 x6 (.cells #[.int .i64 id', .slice pn xs.length cn] 40)
          replace VO := hid (var_below hM VO.out)
          replace RE := hid (RE.out.below hM)
          replace NK := hid (NK.out.below hM)
          have VX := hid (heap_alloc_new x6 (.cells #[.int .i64 id', .slice pn xs.length cn] 40))
          refine hK.out _ _ (hH.trans (hM.mono hH.size)) (fun hH => ?_)
          clear hK K hM
          generalize x6.alloc (.cells #[.int .i64 id', .slice pn xs.length cn] 40) = x7 at *
          generalize x6.heap.size = gx at *
          refine wpAnyH_ready (rs := [9]) (by kernel_rfl) (by simp) ?_
          refine AllReadyH.cons (by simp only [List.getElem?_toArray, List.getElem?_cons_succ, List.getElem?_cons_zero]; rfl) (fun K hK => ?_) AllReadyH.nil
          obtain ⟨c0, c1, -, -⟩ := var2_facts VX.out
          refine step_appL (by rfl) _ _ (by rfl) _ _ acc.length LL bs gx 1 id' (by rfl) (by rfl) RE.out.1 RE.out.2.2 c0 c1 NK.out.one AL.out ?_
          intro g8 c8 x8 hO hG hg hgl
          have RE2 := hid (RE.out.app (x := (id', xs)) NK.out hO hG hg)
          have VO2 := hid (var_grown hG VO.out (fun e => absurd ((World.ownsRow.lt RE.out.1 _ e.symm).1) (Nat.not_le_of_lt NUM.out.2.2.1)))
          refine hK.out _ _ (hH.grown hG hH.size (fun j e => Nat.le_trans LGB.out (World.ownsRow.lt RE.out.1 j e).1)) (fun hH => ?_)
          clear hK K hO hG hg hgl c0 c1 VX RE VO NK
          refine wpAnyH_take (i := 10) (v := .pointer (some ⟨go, 1, none⟩)) (by simp only [List.getElem?_toArray, List.getElem?_cons_succ, List.getElem?_cons_zero]; rfl) (by kernel_rfl) (by kernel_rfl) (by kernel_rfl) (by intro _ _ _ h; exact h) (Or.inl ⟨by rfl, fun w hS => by go_simp⟩) hH ?_
          simp only [Act.put, List.setIfInBounds_toArray, List.set_cons_zero, List.set_cons_succ]
          refine wpAnyH_ready (rs := [11]) (by kernel_rfl) (by simp) ?_
          refine AllReadyH.cons (by simp only [List.getElem?_toArray, List.getElem?_cons_succ, List.getElem?_cons_zero]; rfl) (fun K hK => ?_) AllReadyH.nil
          obtain ⟨e0, e1, e2, e3⟩ := var2_facts VO2.out
          go_simp
          have VO := hid (cellS1 (y' := .slice (some ⟨g8, 0, none⟩) (acc.length + 1) c8) VO2.out)
          have RE := hid (RE2.out.set (i := 1) NUM.out.2.2.1 (.slice (some ⟨g8, 0, none⟩) (acc.length + 1) c8))
          refine hK.out _ _ (hH.setCell (p := ⟨go, 1, none⟩) (Nat.le_of_eq GS.out.symm) (.slice (some ⟨g8, 0, none⟩) (acc.length + 1) c8)) (fun hH => ?_)
          clear hK K e0 e1 e2 e3 VO2 RE2
          refine wpAnyH_done (by kernel_rfl) ?_ _
          have BL := hid hH
          clear hH
          generalize x8.setCell ⟨go, 1, none⟩ (.slice (some ⟨g8, 0, none⟩) (acc.length + 1) c8) = x0 at *
          generalize (.slice (some ⟨g8, 0, none⟩) (acc.length + 1) c8 : Value) = v1 at *
          generalize acc ++ [(id', xs)] = acc1 at *
          generalize LL ++ [.int .i64 id', .slice pn xs.length cn] = LL1 at *
          have VR2 := hid (var_below BL.out VR.out)
          have BE := hid (BB.out.trans (BL.out.mono BB.out.size))
          obtain ⟨pv, cz, rfl, -, -, -⟩ := RE.out.rd.parts
          obtain ⟨o0, o1, -, -⟩ := var2_facts VO.out
          obtain ⟨⟨r0, r1, r2⟩, y0, y1, y2⟩ := w3_facts VR2.out
          have hset := hid (w3_set (x' := .int .i64 0) (y' := .int .i64 rk) (z' := .slice pv acc1.length cz) VR2.out)
          have hbel := hid (w3_below (g := g1) (x := .int .i64 0) (y := .int .i64 rk) (z := .slice pv acc1.length cz) BE.out LG.out)
          have GB1 := hid (show g1 < bs by have := NUM.out; omega)
          have LWL := hid (show w.heap.size ≤ lo by have := NUM.out; have := LG.out; omega)
          have LWB := hid (show w.heap.size ≤ bs by have := NUM.out; have := LG.out; omega)
          have RF := hid ((((RE.out.low (i := 0) GB1.out NUM.out.2.2.2.1 (.int .i64 0)).low (i := 1) GB1.out NUM.out.2.2.2.1 (.int .i64 rk)).low (i := 2) GB1.out NUM.out.2.2.2.1 (.slice pv acc1.length cz)).far LWL.out LWB.out)
          go_wp2
          try simp only [Exit.inBlock, Exit.then]
          exact bodyPost_ret (v := .agg #[.int .i64 0, .int .i64 rk, .slice pv acc1.length cz]) (results_cell_row rfl _ _ g1 44 _ _ _ rfl hset.out Try.underlying44 rfl (by kernel_rfl)) rfl ⟨_, rfl, by rw [← EA.out]; exact RF.out, hbel.out⟩
        refine AllReadyH.cons (by simp only [List.getElem?_toArray, List.getElem?_cons_succ, List.getElem?_cons_zero]; rfl) (fun K hK => ?_) ?_
        · go_simp
          refine (copyR _ xs xs.length _ HX.out rfl KX.out (by have := N16.out; omega)).mono ?_
          rintro e x6 ⟨un, rfl, hN, hM⟩
          have NK := hid (Nk.own RE.out hN KX.out (Nat.le_of_lt (Nat.lt_of_le_of_lt NUM.out.1 (Nat.lt_trans NUM.out.2.1 NUM.out.2.2.1))) NUM.out.2.2.1)
          refine hK.out _ _ (hH.trans (hM.mono hH.size)) (fun hH => ?_)
          clear hK K hN HX
          replace VO := hid (var_below hM VO.out)
          replace RE := hid (RE.out.below hM)
          clear hM
          obtain ⟨pn, cn, rfl, -, -, -⟩ := NK.out.rd.parts
          refine wpAnyH_take (i := 7) (v := .agg #[.int .i64 id', .slice pn xs.length cn]) (by simp only [List.getElem?_toArray, List.getElem?_cons_succ, List.getElem?_cons_zero]; rfl) (by kernel_rfl) (by kernel_rfl) (by kernel_rfl) (by intro _ _ _ h; exact h) (Or.inl ⟨by rfl, fun w hS => by go_simp⟩) hH ?_
          simp only [Act.put, List.setIfInBounds_toArray, List.set_cons_zero, List.set_cons_succ]
          refine wpAnyH_ready (rs := [1, 8]) (by kernel_rfl) (by simp) ?_
          refine AllReadyH.cons (by simp only [List.getElem?_toArray, List.getElem?_cons_succ, List.getElem?_cons_zero]; rfl) (fun K hK => ?_) ?_
          · obtain ⟨q_0, q_1, -, -⟩ := var2_facts VO.out
            go_simp
            refine hK.out _ _ hH (fun hH => ?_)
            clear hK K q_0 q_1
            try simp only [Act.put, List.setIfInBounds_toArray, List.set_cons_zero, List.set_cons_succ]
            refine wpAnyH_ready (rs := [8]) (by kernel_rfl) (by simp) ?_
            refine AllReadyH.cons (by simp only [List.getElem?_toArray, List.getElem?_cons_succ, List.getElem?_cons_zero]; rfl) (fun K hK => ?_) AllReadyH.nil
            go_simp
            have hM := below_alloc1 x6 (.cells #[.int .i64 id', .slice pn xs.length cn] 40)
            replace VO := hid (var_below hM VO.out)
            replace RE := hid (RE.out.below hM)
            replace NK := hid (NK.out.below hM)
            have VX := hid (heap_alloc_new x6 (.cells #[.int .i64 id', .slice pn xs.length cn] 40))
            refine hK.out _ _ (hH.trans (hM.mono hH.size)) (fun hH => ?_)
            clear hK K hM
            generalize x6.alloc (.cells #[.int .i64 id', .slice pn xs.length cn] 40) = x7 at *
            generalize x6.heap.size = gx at *
            refine wpAnyH_ready (rs := [9]) (by kernel_rfl) (by simp) ?_
            refine AllReadyH.cons (by simp only [List.getElem?_toArray, List.getElem?_cons_succ, List.getElem?_cons_zero]; rfl) (fun K hK => ?_) AllReadyH.nil
            obtain ⟨c0, c1, -, -⟩ := var2_facts VX.out
            refine step_appL (by rfl) _ _ (by rfl) _ _ acc.length LL bs gx 1 id' (by rfl) (by rfl) RE.out.1 RE.out.2.2 c0 c1 NK.out.one AL.out ?_
            intro g8 c8 x8 hO hG hg hgl
            have RE2 := hid (RE.out.app (x := (id', xs)) NK.out hO hG hg)
            have VO2 := hid (var_grown hG VO.out (fun e => absurd ((World.ownsRow.lt RE.out.1 _ e.symm).1) (Nat.not_le_of_lt NUM.out.2.2.1)))
            refine hK.out _ _ (hH.grown hG hH.size (fun j e => Nat.le_trans LGB.out (World.ownsRow.lt RE.out.1 j e).1)) (fun hH => ?_)
            clear hK K hO hG hg hgl c0 c1 VX RE VO NK
            refine wpAnyH_take (i := 10) (v := .pointer (some ⟨go, 1, none⟩)) (by simp only [List.getElem?_toArray, List.getElem?_cons_succ, List.getElem?_cons_zero]; rfl) (by kernel_rfl) (by kernel_rfl) (by kernel_rfl) (by intro _ _ _ h; exact h) (Or.inl ⟨by rfl, fun w hS => by go_simp⟩) hH ?_
            simp only [Act.put, List.setIfInBounds_toArray, List.set_cons_zero, List.set_cons_succ]
            refine wpAnyH_ready (rs := [11]) (by kernel_rfl) (by simp) ?_
            refine AllReadyH.cons (by simp only [List.getElem?_toArray, List.getElem?_cons_succ, List.getElem?_cons_zero]; rfl) (fun K hK => ?_) AllReadyH.nil
            obtain ⟨e0, e1, e2, e3⟩ := var2_facts VO2.out
            go_simp
            have VO := hid (cellS1 (y' := .slice (some ⟨g8, 0, none⟩) (acc.length + 1) c8) VO2.out)
            have RE := hid (RE2.out.set (i := 1) NUM.out.2.2.1 (.slice (some ⟨g8, 0, none⟩) (acc.length + 1) c8))
            refine hK.out _ _ (hH.setCell (p := ⟨go, 1, none⟩) (Nat.le_of_eq GS.out.symm) (.slice (some ⟨g8, 0, none⟩) (acc.length + 1) c8)) (fun hH => ?_)
            clear hK K e0 e1 e2 e3 VO2 RE2
            refine wpAnyH_done (by kernel_rfl) ?_ _
            have BL := hid hH
            clear hH
            generalize x8.setCell ⟨go, 1, none⟩ (.slice (some ⟨g8, 0, none⟩) (acc.length + 1) c8) = x0 at *
            generalize (.slice (some ⟨g8, 0, none⟩) (acc.length + 1) c8 : Value) = v1 at *
            generalize acc ++ [(id', xs)] = acc1 at *
            generalize LL ++ [.int .i64 id', .slice pn xs.length cn] = LL1 at *
            have VR2 := hid (var_below BL.out VR.out)
            have BE := hid (BB.out.trans (BL.out.mono BB.out.size))
            obtain ⟨pv, cz, rfl, -, -, -⟩ := RE.out.rd.parts
            obtain ⟨o0, o1, -, -⟩ := var2_facts VO.out
            obtain ⟨⟨r0, r1, r2⟩, y0, y1, y2⟩ := w3_facts VR2.out
            have hset := hid (w3_set (x' := .int .i64 0) (y' := .int .i64 rk) (z' := .slice pv acc1.length cz) VR2.out)
            have hbel := hid (w3_below (g := g1) (x := .int .i64 0) (y := .int .i64 rk) (z := .slice pv acc1.length cz) BE.out LG.out)
            have GB1 := hid (show g1 < bs by have := NUM.out; omega)
            have LWL := hid (show w.heap.size ≤ lo by have := NUM.out; have := LG.out; omega)
            have LWB := hid (show w.heap.size ≤ bs by have := NUM.out; have := LG.out; omega)
            have RF := hid ((((RE.out.low (i := 0) GB1.out NUM.out.2.2.2.1 (.int .i64 0)).low (i := 1) GB1.out NUM.out.2.2.2.1 (.int .i64 rk)).low (i := 2) GB1.out NUM.out.2.2.2.1 (.slice pv acc1.length cz)).far LWL.out LWB.out)
            go_wp2
            try simp only [Exit.inBlock, Exit.then]
            exact bodyPost_ret (v := .agg #[.int .i64 0, .int .i64 rk, .slice pv acc1.length cz]) (results_cell_row rfl _ _ g1 44 _ _ _ rfl hset.out Try.underlying44 rfl (by kernel_rfl)) rfl ⟨_, rfl, by rw [← EA.out]; exact RF.out, hbel.out⟩
          refine AllReadyH.cons (by simp only [List.getElem?_toArray, List.getElem?_cons_succ, List.getElem?_cons_zero]; rfl) (fun K hK => ?_) ?_
          · go_simp
            have hM := below_alloc1 x6 (.cells #[.int .i64 id', .slice pn xs.length cn] 40)
            replace VO := hid (var_below hM VO.out)
            replace RE := hid (RE.out.below hM)
            replace NK := hid (NK.out.below hM)
            have VX := hid (heap_alloc_new x6 (.cells #[.int .i64 id', .slice pn xs.length cn] 40))
            refine hK.out _ _ (hH.trans (hM.mono hH.size)) (fun hH => ?_)
            clear hK K hM
            generalize x6.alloc (.cells #[.int .i64 id', .slice pn xs.length cn] 40) = x7 at *
            generalize x6.heap.size = gx at *
            refine wpAnyH_ready (rs := [1]) (by kernel_rfl) (by simp) ?_
            refine AllReadyH.cons (by simp only [List.getElem?_toArray, List.getElem?_cons_succ, List.getElem?_cons_zero]; rfl) (fun K hK => ?_) AllReadyH.nil
            obtain ⟨q_0, q_1, -, -⟩ := var2_facts VO.out
            go_simp
            refine hK.out _ _ hH (fun hH => ?_)
            clear hK K q_0 q_1
            try simp only [Act.put, List.setIfInBounds_toArray, List.set_cons_zero, List.set_cons_succ]
            refine wpAnyH_ready (rs := [9]) (by kernel_rfl) (by simp) ?_
            refine AllReadyH.cons (by simp only [List.getElem?_toArray, List.getElem?_cons_succ, List.getElem?_cons_zero]; rfl) (fun K hK => ?_) AllReadyH.nil
            obtain ⟨c0, c1, -, -⟩ := var2_facts VX.out
            refine step_appL (by rfl) _ _ (by rfl) _ _ acc.length LL bs gx 1 id' (by rfl) (by rfl) RE.out.1 RE.out.2.2 c0 c1 NK.out.one AL.out ?_
            intro g8 c8 x8 hO hG hg hgl
            have RE2 := hid (RE.out.app (x := (id', xs)) NK.out hO hG hg)
            have VO2 := hid (var_grown hG VO.out (fun e => absurd ((World.ownsRow.lt RE.out.1 _ e.symm).1) (Nat.not_le_of_lt NUM.out.2.2.1)))
            refine hK.out _ _ (hH.grown hG hH.size (fun j e => Nat.le_trans LGB.out (World.ownsRow.lt RE.out.1 j e).1)) (fun hH => ?_)
            clear hK K hO hG hg hgl c0 c1 VX RE VO NK
            refine wpAnyH_take (i := 10) (v := .pointer (some ⟨go, 1, none⟩)) (by simp only [List.getElem?_toArray, List.getElem?_cons_succ, List.getElem?_cons_zero]; rfl) (by kernel_rfl) (by kernel_rfl) (by kernel_rfl) (by intro _ _ _ h; exact h) (Or.inl ⟨by rfl, fun w hS => by go_simp⟩) hH ?_
            simp only [Act.put, List.setIfInBounds_toArray, List.set_cons_zero, List.set_cons_succ]
            refine wpAnyH_ready (rs := [11]) (by kernel_rfl) (by simp) ?_
            refine AllReadyH.cons (by simp only [List.getElem?_toArray, List.getElem?_cons_succ, List.getElem?_cons_zero]; rfl) (fun K hK => ?_) AllReadyH.nil
            obtain ⟨e0, e1, e2, e3⟩ := var2_facts VO2.out
            go_simp
            have VO := hid (cellS1 (y' := .slice (some ⟨g8, 0, none⟩) (acc.length + 1) c8) VO2.out)
            have RE := hid (RE2.out.set (i := 1) NUM.out.2.2.1 (.slice (some ⟨g8, 0, none⟩) (acc.length + 1) c8))
            refine hK.out _ _ (hH.setCell (p := ⟨go, 1, none⟩) (Nat.le_of_eq GS.out.symm) (.slice (some ⟨g8, 0, none⟩) (acc.length + 1) c8)) (fun hH => ?_)
            clear hK K e0 e1 e2 e3 VO2 RE2
            refine wpAnyH_done (by kernel_rfl) ?_ _
            have BL := hid hH
            clear hH
            generalize x8.setCell ⟨go, 1, none⟩ (.slice (some ⟨g8, 0, none⟩) (acc.length + 1) c8) = x0 at *
            generalize (.slice (some ⟨g8, 0, none⟩) (acc.length + 1) c8 : Value) = v1 at *
            generalize acc ++ [(id', xs)] = acc1 at *
            generalize LL ++ [.int .i64 id', .slice pn xs.length cn] = LL1 at *
            have VR2 := hid (var_below BL.out VR.out)
            have BE := hid (BB.out.trans (BL.out.mono BB.out.size))
            obtain ⟨pv, cz, rfl, -, -, -⟩ := RE.out.rd.parts
            obtain ⟨o0, o1, -, -⟩ := var2_facts VO.out
            obtain ⟨⟨r0, r1, r2⟩, y0, y1, y2⟩ := w3_facts VR2.out
            have hset := hid (w3_set (x' := .int .i64 0) (y' := .int .i64 rk) (z' := .slice pv acc1.length cz) VR2.out)
            have hbel := hid (w3_below (g := g1) (x := .int .i64 0) (y := .int .i64 rk) (z := .slice pv acc1.length cz) BE.out LG.out)
            have GB1 := hid (show g1 < bs by have := NUM.out; omega)
            have LWL := hid (show w.heap.size ≤ lo by have := NUM.out; have := LG.out; omega)
            have LWB := hid (show w.heap.size ≤ bs by have := NUM.out; have := LG.out; omega)
            have RF := hid ((((RE.out.low (i := 0) GB1.out NUM.out.2.2.2.1 (.int .i64 0)).low (i := 1) GB1.out NUM.out.2.2.2.1 (.int .i64 rk)).low (i := 2) GB1.out NUM.out.2.2.2.1 (.slice pv acc1.length cz)).far LWL.out LWB.out)
            go_wp2
            try simp only [Exit.inBlock, Exit.then]
            exact bodyPost_ret (v := .agg #[.int .i64 0, .int .i64 rk, .slice pv acc1.length cz]) (results_cell_row rfl _ _ g1 44 _ _ _ rfl hset.out Try.underlying44 rfl (by kernel_rfl)) rfl ⟨_, rfl, by rw [← EA.out]; exact RF.out, hbel.out⟩
          exact AllReadyH.nil
        exact AllReadyH.nil
end Go.Proofs.Ytbfdbicddmffnab.W

namespace Go.Proofs.Ytbfdbicddmffnab.W
open Go.ChangeShapes Go.WideShapes Go.ChangeAt Go.RowKit
open Go.Proofs.Ytbfdbicddmffnab.M

set_option maxHeartbeats 2000000 in
set_option maxRecDepth 100000 in
theorem suk (p id' : Int) (v : Value) (ks : List (Int × List Nat)) (c rk : Int) (l : List (Int × List Nat)) (w : World) (h : RdK w v ks) (hF : ukIs p ks id' c rk l) :
    Calls Try.prog 31 #[.agg #[.int .i64 p, v], .int .i64 id'] w fun e w' => ∃ v', e = .returned (.agg #[.int .i64 c, .int .i64 rk, v']) ∧ FarK w' w.heap.size v' l ∧ Below w.heap.size w w' := by
  have H := hid h
  have HF := hid hF
  obtain ⟨a, cap, rfl, -, hcm, -⟩ := h.parts
  clear h hF hcm
  go_enter Try.func31, Try.ntmps31
  go_wp2_with fail
  have VA := hid (heap_alloc2_old w (.cells #[.int .i64 p, .slice a ks.length cap] 38) (.cells #[.int .i64 0, .int .i64 0, .slice none 0 0] 44))
  have VR := hid (heap_alloc2_new w (.cells #[.int .i64 p, .slice a ks.length cap] 38) (.cells #[.int .i64 0, .int .i64 0, .slice none 0 0] 44))
  have BB := hid (below_alloc2 w (.cells #[.int .i64 p, .slice a ks.length cap] 38) (.cells #[.int .i64 0, .int .i64 0, .slice none 0 0] 44))
  replace H := hid (H.out.below BB.out)
  generalize (w.alloc (.cells #[.int .i64 p, .slice a ks.length cap] 38)).alloc (.cells #[.int .i64 0, .int .i64 0, .slice none 0 0] 44) = w0 at *
  obtain ⟨g1, hg1⟩ : ∃ g, g = w.heap.size + 1 := ⟨_, rfl⟩
  obtain ⟨g, hg⟩ : ∃ g, g = w.heap.size := ⟨_, rfl⟩
  have LG := hid (show w.heap.size ≤ g1 by omega)
  rw [← hg1] at VR ⊢
  rw [← hg] at VA ⊢
  clear hg hg1
  refine (srf p _ ks _ H.out).mono ?_
  rintro e w1 ⟨rfl, hB⟩
  replace VA := hid (var_below hB VA.out)
  replace VR := hid (var_below hB VR.out)
  replace H := hid (H.out.below hB)
  replace BB := hid (BB.out.trans (hB.mono BB.out.size))
  clear hB
  obtain ⟨f, hf⟩ : ∃ f, f = rF p ks := ⟨_, rfl⟩
  rw [← hf]
  by_cases h0 : f = 0
  · subst h0
    obtain ⟨k1, k3, k16, -, -⟩ := rF_parts hf.symm
    replace hf := hid hf
    have K16 := hid (fun i hi => (k16 i hi).2)
    clear k16
    go_wp2_with fail
    refine (l4find g p id' _ ks _ VA.out H.out (by omega)).mono ?_
    rintro e w2 ⟨r, rfl, hr, hB⟩
    replace VA := hid (var_below hB VA.out)
    replace VR := hid (var_below hB VR.out)
    replace H := hid (H.out.below hB)
    replace BB := hid (BB.out.trans (hB.mono BB.out.size))
    clear hB
    rcases hr with ⟨rfl, hN⟩ | ⟨i, hi, rfl, he, hn⟩
    · obtain ⟨rfl, rfl, rfl⟩ := uk_none HF.out hf.out.symm hN
      replace hN := hid hN
      obtain ⟨⟨r0, r1, r2⟩, y0, y1, y2⟩ := w3_facts VR.out
      have hset := hid (w3_set (x' := .int .i64 4) (y' := .int .i64 0) (z' := .slice none 0 0) VR.out)
      have hbel := hid (w3_below (g := g1) (x := .int .i64 4) (y := .int .i64 0) (z := .slice none 0 0) BB.out LG.out)
      go_wp2
      try simp only [Exit.inBlock, Exit.then]
      exact bodyPost_ret (v := .agg #[.int .i64 4, .int .i64 0, .slice none 0 0]) (results_cell_row rfl _ _ g1 44 _ _ _ rfl hset.out Try.underlying44 rfl (by kernel_rfl)) rfl ⟨_, rfl, FarK.nil _ _, hbel.out⟩
    · obtain ⟨rfl, rfl, rfl⟩ := uk_ok HF.out hf.out.symm ⟨i, hi, he⟩
      replace he := hid he
      replace hn := hid hn
      have i0 : ¬ ((i : Int) < 0) := by omega
      go_wp2_with fail
      refine (l4copy g p _ l _ VA.out H.out K16.out (by omega)).mono ?_
      rintro e w3 ⟨v', rfl, hO, hB⟩
      have LW := hid (show g1 < w2.heap.size from var_lt VR.out)
      replace VR := hid (var_below hB VR.out)
      replace BB := hid (BB.out.trans (hB.mono BB.out.size))
      clear hB
      have OU := hid hO
      obtain ⟨pv, cv, rfl, -, -, -⟩ := hO.rd.parts
      clear hO
      obtain ⟨m, hm9⟩ : ∃ m, m = l.length := ⟨_, rfl⟩
      rw [← hm9] at OU ⊢
      replace hm9 := hid hm9
      replace VR := hid (var_alloc (.cells #[.int .i64 rk, .slice pv m cv] 38) VR.out)
      replace BB := hid (BB.out.trans ((below_alloc1 w3 (.cells #[.int .i64 rk, .slice pv m cv] 38)).mono BB.out.size))
      replace OU := hid (OU.out.below (below_alloc1 w3 (.cells #[.int .i64 rk, .slice pv m cv] 38)))
      have OF := hid (((OU.out.low ⟨g1, 0, none⟩ LW.out (.int .i64 0)).low ⟨g1, 1, none⟩ LW.out (.int .i64 rk)).low ⟨g1, 2, none⟩ LW.out (.slice pv m cv))
      obtain ⟨⟨r0, r1, r2⟩, y0, y1, y2⟩ := w3_facts VR.out
      have hset := hid (w3_set (x' := .int .i64 0) (y' := .int .i64 rk) (z' := .slice pv m cv) VR.out)
      have hbel := hid (w3_below (g := g1) (x := .int .i64 0) (y := .int .i64 rk) (z := .slice pv m cv) BB.out LG.out)
      go_wp2
      try simp only [Exit.inBlock, Exit.then]
      exact bodyPost_ret (v := .agg #[.int .i64 0, .int .i64 rk, .slice pv m cv]) (results_cell_row rfl _ _ g1 44 _ _ _ rfl hset.out Try.underlying44 rfl (by kernel_rfl)) rfl ⟨_, rfl, OF.out.far.mono (Nat.le_of_lt (Nat.lt_of_le_of_lt LG.out LW.out)), hbel.out⟩
  · obtain ⟨hc, rfl, rfl⟩ := uk_bad HF.out (fun q => h0 (hf.trans q))
    rw [← hf] at hc
    subst hc
    replace hf := hid hf
    have ne : (c != 0) = true := by rw [bne_iff_ne]; exact h0
    replace h0 := hid h0
    obtain ⟨⟨r0, r1, r2⟩, y0, y1, y2⟩ := w3_facts VR.out
    have hset := hid (w3_set (x' := .int .i64 c) (y' := .int .i64 0) (z' := .slice none 0 0) VR.out)
    have hbel := hid (w3_below (g := g1) (x := .int .i64 c) (y := .int .i64 0) (z := .slice none 0 0) BB.out LG.out)
    go_wp2
    try simp only [Exit.inBlock, Exit.then]
    exact bodyPost_ret (v := .agg #[.int .i64 c, .int .i64 0, .slice none 0 0]) (results_cell_row rfl _ _ g1 44 _ _ _ rfl hset.out Try.underlying44 rfl (by kernel_rfl)) rfl ⟨_, rfl, FarK.nil _ _, hbel.out⟩
end Go.Proofs.Ytbfdbicddmffnab.W
