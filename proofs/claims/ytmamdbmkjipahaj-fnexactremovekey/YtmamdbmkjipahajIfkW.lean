/-
  A key of a ring: what the program's FindKey answers.
-/
import Derived.Test.YtmamdbmkjipahajIkrW
import Derived.Test.YtmamdbmkjipahajLetF3
import Derived.Test.YtmamdbmkjipahajIv
namespace Go.Proofs.Ytmamdbmkjipahaj.W
open Go.ChangeShapes Go.WideShapes Go.ChangeAt Go.RowKit
open Go.Proofs.Ytmamdbmkjipahaj.M

set_option maxRecDepth 100000 in
theorem itellK (l : List Nat) (id' : Int) (w : World) (hl : l.length = 16) :
    Calls Try.prog 41 #[.agg (arr l), .int .i64 id'] w fun e w' => ∃ g, e = .returned (.agg #[.int .i64 id', .slice (some ⟨g, 0, none⟩) 16 16]) ∧ OB w' w.heap.size w'.heap.size (.slice (some ⟨g, 0, none⟩) 16 16) l ∧ Below w.heap.size w w' := by
  have HL := hid hl
  clear hl
  go_enter Try.func41, Try.ntmps41
  go_wp2_with fail
  exact bodyPost_ret (v := .agg #[.int .i64 id', .slice (some ⟨w.heap.size, 0, none⟩) 16 16]) (results_cell_row rfl _ _ (w.heap.size + 1) 28 _ _ _ rfl (heap_alloc2_new w _ _) Try.underlying28 rfl (by kernel_rfl)) rfl ⟨w.heap.size, rfl, OB.of (Owx.ofAr (show Ar _ w.heap.size 67 l from heap_alloc2_old w _ _) HL.out (Nat.le_refl _) (by unfold maxLen; omega)), below_alloc2 w _ _⟩
set_option maxHeartbeats 2000000 in
set_option maxRecDepth 100000 in
theorem ifk (p id' : Int) (v : Value) (ks : List (Int × List Nat)) (c rk : Int) (l : List Nat) (w : World) (h : RdK w v ks) (hp : (Lit.int .i64 p).wf = true) (hi : (Lit.int .i64 id').wf = true) (hF : fkIs p ks id' c rk l) :
    Calls Try.prog 12 #[.agg #[.int .i64 p, v], .int .i64 id'] w fun e w' => ∃ v', e = .returned (.agg #[.int .i64 c, .int .i64 rk, v']) ∧ OB w' w.heap.size w'.heap.size v' l ∧ Below w.heap.size w w' := by
  have H := hid h
  have HF := hid hF
  obtain ⟨a, cap, rfl, -, hcm, -⟩ := h.parts
  clear h hF hcm
  go_enter Try.func12, Try.ntmps12
  go_wp2_with fail
  have VR := hid (heap_alloc2_new w (.cells #[.int .i64 p, .slice a ks.length cap] 34) (.cells #[.int .i64 0, .int .i64 0, .slice none 0 0] 30))
  have BB := hid (below_alloc2 w (.cells #[.int .i64 p, .slice a ks.length cap] 34) (.cells #[.int .i64 0, .int .i64 0, .slice none 0 0] 30))
  replace H := hid (H.out.below BB.out)
  generalize (w.alloc (.cells #[.int .i64 p, .slice a ks.length cap] 34)).alloc (.cells #[.int .i64 0, .int .i64 0, .slice none 0 0] 30) = w0 at *
  obtain ⟨g1, hg1⟩ : ∃ g, g = w.heap.size + 1 := ⟨_, rfl⟩
  have LG := hid (show w.heap.size ≤ g1 by omega)
  rw [← hg1] at VR ⊢
  clear hg1
  refine (ikrD p _ ks _ H.out hp).mono ?_
  rintro e w1 ⟨r, rfl, hr, hB⟩
  replace VR := hid (var_below hB VR.out)
  replace BB := hid (BB.out.trans (hB.mono BB.out.size))
  clear hB
  obtain ⟨f, hf⟩ : ∃ f, f = rF p ks := ⟨_, rfl⟩
  rw [← hf] at hr ⊢
  by_cases h0 : f = 0
  · obtain ⟨g, b, D, rfl, -, -, hR⟩ := hr h0
    subst h0
    obtain ⟨k1, k3, k16, -, -⟩ := rF_parts hf.symm
    replace hf := hid hf
    have R1 := hid hR
    obtain ⟨f0, f1, -, -⟩ := var2_facts hR.block
    clear hr hR
    have LW := hid (show g1 < w1.heap.size from var_lt VR.out)
    by_cases hh : Has ks id'
    · obtain ⟨j, hj, hx⟩ := hh
      have HS := hid (show Maps.has D (.int .i64 id') = true from (R1.out.has id').2 ⟨j, hj, hj, hx⟩)
      have HB := hid (show D.atKey (.int .i64 id') (.held (.agg (arr (zs 16)))) = .held (.agg (arr (ks[j]).2)) by rw [← hx]; exact R1.out.bytes j hj hj)
      have K16 := hid (k16 j hj).2
      have FF := hid (fk_found HF.out hf.out.symm j hj hx (fun i hi hij he => by
        obtain ⟨-, -, -, hr, -⟩ := rF_parts hf.out.symm
        have := rise_lt hr j i hj hij
        omega))
      clear k16 hx
      go_wp2_with (at_lookup; refine wpList_lookup_own_ok _ rfl _ _ 69 rfl 2 67 lawK Try.underlying69 Rv (zeroH _) (.held (.agg (arr (zs 16)))) [] rfl b ks.length D rfl R1.out.map _ _ rfl (Go.Maps.keyOf_int_mk Try.underlying2 hi) ?_)
      intro v ps hv
      rw [HB.out] at hv
      unfold Rv at hv
      simp only [Option.some.injEq, Prod.mk.injEq, DataW.held.injEq] at hv
      obtain ⟨rfl, rfl⟩ := hv
      rw [HS.out]
      obtain ⟨rfl, rfl, rfl⟩ := FF.out
      clear FF HB HF
      obtain ⟨l, hlx⟩ : ∃ x, x = (ks[j]).2 := ⟨_, rfl⟩
      rw [← hlx] at K16 ⊢
      replace hlx := hid hlx
      have Zs := hid (show (Try.prog.info? 67).map (·.size) = some (arr l).size by rw [arr_size, K16.out]; kernel_rfl)
      have VR2 := hid (var_alloc (.cells (arr l) 67) VR.out)
      have B2 := hid (BB.out.trans ((below_alloc1 w1 (.cells (arr l) 67)).mono BB.out.size))
      go_wp2_with (first | (refine wpList_store_row rfl 67 _ _ rfl w1.heap.size (arr l) rfl rfl 67 _ (heap_alloc_new w1 _) Zs.out (by rw [arr_size, K16.out]; rfl) (arr_one l) ?_; rw [World.setRow_alloc_new]) | refine wpList_load_row rfl 67 _ rfl w1.heap.size rfl 67 (arr l) _ _ (heap_alloc_new w1 _) Try.underlying67 rfl Zs.out ?_)
      clear f0 f1 VR BB
      refine (itellK l rk _ K16.out).mono ?_
      rintro e w2 ⟨gt, rfl, hO, hB⟩
      replace VR2 := hid (var_below hB VR2.out)
      replace B2 := hid (B2.out.trans (hB.mono B2.out.size))
      have SG := hid (show w.heap.size ≤ (w1.alloc (.cells (arr l) 67)).heap.size by have := LW.out; have := LG.out; simp; omega)
      have LW2 := hid (show g1 < (w1.alloc (.cells (arr l) 67)).heap.size by have := LW.out; simp; omega)
      have OU := hid hO
      clear hO hB
      generalize (w1.alloc (.cells (arr l) 67)).heap.size = b2 at *
      obtain ⟨⟨r0, r1, r2⟩, y0, y1, y2⟩ := w3_facts VR2.out
      have hset := hid (w3_set (x' := .int .i64 0) (y' := .int .i64 rk) (z' := .slice (some ⟨gt, 0, none⟩) 16 16) VR2.out)
      have hbel := hid (w3_below (g := g1) (x := .int .i64 0) (y := .int .i64 rk) (z := .slice (some ⟨gt, 0, none⟩) 16 16) B2.out LG.out)
      have hob := hid ((((OU.out.under ⟨g1, 0, none⟩ LW2.out (.int .i64 0)).under ⟨g1, 1, none⟩ LW2.out (.int .i64 rk)).under ⟨g1, 2, none⟩ LW2.out (.slice (some ⟨gt, 0, none⟩) 16 16)))
      go_wp2
      try simp only [Exit.inBlock, Exit.then]
      exact bodyPost_ret (v := .agg #[.int .i64 0, .int .i64 rk, .slice (some ⟨gt, 0, none⟩) 16 16]) (results_cell_row rfl _ _ g1 30 _ _ _ rfl hset.out Try.underlying30 rfl (by kernel_rfl)) rfl ⟨_, rfl, hlx.out ▸ (OB.of hob.out.1).mono SG.out (Nat.le_refl _), hbel.out⟩
    · have HS := hid (show Maps.has D (.int .i64 id') = false by
        cases q : Maps.has D (.int .i64 id')
        · rfl
        · obtain ⟨j, hj, -, hx⟩ := (R1.out.has id').1 q
          exact absurd ⟨j, hj, hx⟩ hh)
      obtain ⟨rfl, rfl, rfl⟩ := fk_none HF.out hf.out.symm hh
      replace hh := hid hh
      clear k16
      go_wp2_with (at_lookup; refine wpList_lookup_own_ok _ rfl _ _ 69 rfl 2 67 lawK Try.underlying69 Rv (zeroH _) (.held (.agg (arr (zs 16)))) [] rfl b ks.length D rfl R1.out.map _ _ rfl (Go.Maps.keyOf_int_mk Try.underlying2 hi) ?_)
      intro v ps hv
      obtain ⟨l, hl, rfl⟩ := R1.out.good.val hv
      rw [HS.out]
      clear hv
      have K16 := hid hl
      clear hl
      have Zs := hid (show (Try.prog.info? 67).map (·.size) = some (arr l).size by rw [arr_size, K16.out]; kernel_rfl)
      replace VR := hid (var_alloc (.cells (arr l) 67) VR.out)
      replace BB := hid (BB.out.trans ((below_alloc1 w1 (.cells (arr l) 67)).mono BB.out.size))
      clear f0 f1
      go_wp2_with (refine wpList_store_row rfl 67 _ _ rfl w1.heap.size (arr l) rfl rfl 67 _ (heap_alloc_new w1 _) Zs.out (by rw [arr_size, K16.out]; rfl) (arr_one l) ?_; rw [World.setRow_alloc_new]; obtain ⟨⟨r0, r1, r2⟩, y0, y1, y2⟩ := w3_facts VR.out)
      have hset := hid (w3_set (x' := .int .i64 4) (y' := .int .i64 0) (z' := .slice none 0 0) VR.out)
      have hbel := hid (w3_below (g := g1) (x := .int .i64 4) (y := .int .i64 0) (z := .slice none 0 0) BB.out LG.out)
      exact bodyPost_ret (v := .agg #[.int .i64 4, .int .i64 0, .slice none 0 0]) (results_cell_row rfl _ _ g1 30 _ _ _ rfl hset.out Try.underlying30 rfl (by kernel_rfl)) rfl ⟨_, rfl, OB.nil _ _ _, hbel.out⟩
  · obtain ⟨hc, rfl, rfl⟩ := fk_bad HF.out (fun q => h0 (hf.trans q))
    rw [← hf] at hc
    subst hc
    replace hf := hid hf
    have ne : (c != 0) = true := by rw [bne_iff_ne]; exact h0
    replace h0 := hid h0
    clear hr
    obtain ⟨⟨r0, r1, r2⟩, y0, y1, y2⟩ := w3_facts VR.out
    have hset := hid (w3_set (x' := .int .i64 c) (y' := .int .i64 0) (z' := .slice none 0 0) VR.out)
    have hbel := hid (w3_below (g := g1) (x := .int .i64 c) (y := .int .i64 0) (z := .slice none 0 0) BB.out LG.out)
    go_wp2
    try simp only [Exit.inBlock, Exit.then]
    exact bodyPost_ret (v := .agg #[.int .i64 c, .int .i64 0, .slice none 0 0]) (results_cell_row rfl _ _ g1 30 _ _ _ rfl hset.out Try.underlying30 rfl (by kernel_rfl)) rfl ⟨_, rfl, OB.nil _ _ _, hbel.out⟩
end Go.Proofs.Ytmamdbmkjipahaj.W
