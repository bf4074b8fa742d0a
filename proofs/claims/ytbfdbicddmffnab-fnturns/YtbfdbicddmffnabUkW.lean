/-
  A ring's primary, turned: what the program's UseKey answers.
-/
import Derived.Test.YtbfdbicddmffnabIukW
namespace Go.Proofs.Ytbfdbicddmffnab.W
open Go.ChangeShapes Go.WideShapes Go.ChangeAt Go.RowKit
open Go.Proofs.Ytbfdbicddmffnab.M

set_option maxHeartbeats 2000000 in
set_option maxRecDepth 100000 in
theorem iturned_bad (p c : Int) (v x : Value) (ks : List (Int × List Nat)) (w : World) (h : RdK w v ks) (hp : (Lit.int .i64 p).wf = true) (h0 : rF p ks ≠ 0) (hc : c = rF p ks) :
    Calls Try.prog 80 #[.agg #[.int .i64 p, v], x] w fun e w' => e = .returned (.agg #[.int .i64 c, .int .i64 0, .slice none 0 0]) ∧ Below w.heap.size w w' := by
  have H := hid h
  obtain ⟨a, cap, rfl, -, -, -⟩ := h.parts
  clear h
  go_enter Try.func80, Try.ntmps80
  go_wp2_with fail
  have VR := hid (heap_alloc2_new w (.cells #[.int .i64 p, .slice a ks.length cap] 38) (.cells #[.int .i64 0, .int .i64 0, .slice none 0 0] 44))
  have BB := hid (below_alloc2 w (.cells #[.int .i64 p, .slice a ks.length cap] 38) (.cells #[.int .i64 0, .int .i64 0, .slice none 0 0] 44))
  replace H := hid (H.out.below BB.out)
  generalize (w.alloc (.cells #[.int .i64 p, .slice a ks.length cap] 38)).alloc (.cells #[.int .i64 0, .int .i64 0, .slice none 0 0] 44) = w0 at *
  obtain ⟨g1, hg1⟩ : ∃ g, g = w.heap.size + 1 := ⟨_, rfl⟩
  have LG := hid (show w.heap.size ≤ g1 by omega)
  rw [← hg1] at VR ⊢
  clear hg1
  refine (ikrD p _ ks _ H.out hp).mono ?_
  rintro e w1 ⟨r, rfl, hr, hB⟩
  replace VR := hid (var_below hB VR.out)
  replace BB := hid (BB.out.trans (hB.mono BB.out.size))
  clear hB hr
  rw [← hc] at h0 ⊢
  replace hc := hid hc
  have ne : (c != 0) = true := by rw [bne_iff_ne]; exact h0
  replace h0 := hid h0
  obtain ⟨⟨r0, r1, r2⟩, y0, y1, y2⟩ := w3_facts VR.out
  have hset := hid (w3_set (x' := .int .i64 c) (y' := .int .i64 0) (z' := .slice none 0 0) VR.out)
  have hbel := hid (w3_below (g := g1) (x := .int .i64 c) (y := .int .i64 0) (z := .slice none 0 0) BB.out LG.out)
  go_wp2
  try simp only [Exit.inBlock, Exit.then]
  exact bodyPost_ret (v := .agg #[.int .i64 c, .int .i64 0, .slice none 0 0]) (results_cell_row rfl _ _ g1 44 _ _ _ rfl hset.out Try.underlying44 rfl (by kernel_rfl)) rfl ⟨rfl, hbel.out⟩

set_option maxHeartbeats 2000000 in
set_option maxRecDepth 100000 in
theorem iuk (p id' c rk : Int) (v : Value) (ks t : List (Int × List Nat)) (w : World) (h : RdK w v ks) (hp : (Lit.int .i64 p).wf = true) (hi : (Lit.int .i64 id').wf = true) (hF : ukIs p ks id' c rk t) :
    Calls Try.prog 27 #[.agg #[.int .i64 p, v], .int .i64 id'] w fun e w' => ∃ v', e = .returned (.agg #[.int .i64 c, .int .i64 rk, v']) ∧ OKs w' w.heap.size w'.heap.size v' t ∧ Below w.heap.size w w' := by
  have H := hid h
  have HF := hid hF
  obtain ⟨a, cap, rfl, -, -, -⟩ := h.parts
  clear h hF
  go_enter Try.func27, Try.ntmps27
  go_wp2_with fail
  have VC := hid (heap_alloc2_old (w.alloc (.cells #[.int .i64 p, .slice a ks.length cap] 38)) (.cells #[.int .i64 id'] 2) (.cells #[.int .i64 0, .int .i64 0, .slice none 0 0] 44))
  have VR := hid (heap_alloc2_new (w.alloc (.cells #[.int .i64 p, .slice a ks.length cap] 38)) (.cells #[.int .i64 id'] 2) (.cells #[.int .i64 0, .int .i64 0, .slice none 0 0] 44))
  have BB := hid ((below_alloc1 w (.cells #[.int .i64 p, .slice a ks.length cap] 38)).trans ((below_alloc2 (w.alloc (.cells #[.int .i64 p, .slice a ks.length cap] 38)) (.cells #[.int .i64 id'] 2) (.cells #[.int .i64 0, .int .i64 0, .slice none 0 0] 44)).mono (below_alloc1 w (.cells #[.int .i64 p, .slice a ks.length cap] 38)).size))
  simp only [World.size_alloc] at VC VR
  replace H := hid (H.out.below BB.out)
  generalize ((w.alloc (.cells #[.int .i64 p, .slice a ks.length cap] 38)).alloc (.cells #[.int .i64 id'] 2)).alloc (.cells #[.int .i64 0, .int .i64 0, .slice none 0 0] 44) = w0 at *
  obtain ⟨g1, hg1⟩ : ∃ g, g = w.heap.size + 1 + 1 := ⟨_, rfl⟩
  obtain ⟨gc, hgc⟩ : ∃ g, g = w.heap.size + 1 := ⟨_, rfl⟩
  have LG := hid (show w.heap.size ≤ g1 by omega)
  rw [← hg1] at VR
  rw [← hgc] at VC ⊢
  simp only [← hgc] at hg1
  try rw [← hg1]
  clear hgc hg1
  have LV := hid (show g1 < w0.heap.size from var_lt VR.out)
  by_cases h0 : rF p ks = 0
  · obtain ⟨k1, k3, k16, kr, -⟩ := rF_parts h0
    have F0 := hid h0
    clear h0
    by_cases hh : Has ks id'
    · obtain ⟨rfl, rfl, rfl⟩ := uk_ok HF.out F0.out hh
      refine (iturned_use p rk 0 _ t t gc _ _ H.out hp F0.out VC.out kr k16 k1 (by omega) (hid fun W g b D hR hV => iuse1 g b gc p rk t D W hR hV hi 0 (.inl ⟨hh, rfl⟩) (by omega))).mono ?_
      rintro e w1 ⟨-, hz, hB⟩
      obtain ⟨v', rfl, hO⟩ := hz rfl
      have LS := hid BB.out.size
      replace VR := hid (var_below hB VR.out)
      replace BB := hid (BB.out.trans (hB.mono BB.out.size))
      obtain ⟨pv, cv, rfl, -, -, -⟩ := hO.rd.parts
      have OU := hid hO
      replace hh := hid hh
      clear hO hB hz k1 k3 k16 kr VC
      obtain ⟨m, hm9⟩ : ∃ m, m = t.length := ⟨_, rfl⟩
      rw [← hm9] at OU ⊢
      replace hm9 := hid hm9
      have OF := hid (((OU.out.low ⟨g1, 0, none⟩ LV.out (.int .i64 0)).low ⟨g1, 1, none⟩ LV.out (.int .i64 rk)).low ⟨g1, 2, none⟩ LV.out (.slice pv m cv))
      obtain ⟨⟨r0, r1, r2⟩, y0, y1, y2⟩ := w3_facts VR.out
      have hset := hid (w3_set (x' := .int .i64 0) (y' := .int .i64 rk) (z' := .slice pv m cv) VR.out)
      have hbel := hid (w3_below (g := g1) (x := .int .i64 0) (y := .int .i64 rk) (z := .slice pv m cv) BB.out LG.out)
      go_wp2
      try simp only [Exit.inBlock, Exit.then]
      exact bodyPost_ret (v := .agg #[.int .i64 0, .int .i64 rk, .slice pv m cv]) (results_cell_row rfl _ _ g1 44 _ _ _ rfl hset.out Try.underlying44 rfl (by kernel_rfl)) rfl ⟨_, rfl, OF.out.mono LS.out (by rw [sizeT1, sizeT1, sizeT1]; exact Nat.le_refl _), hbel.out⟩
    · obtain ⟨rfl, rfl, rfl⟩ := uk_none HF.out F0.out hh
      refine (iturned_use p id' 4 _ ks ks gc _ _ H.out hp F0.out VC.out kr k16 k1 (by omega) (hid fun W g b D hR hV => iuse1 g b gc p id' ks D W hR hV hi 4 (.inr ⟨hh, rfl⟩) (by omega))).mono ?_
      rintro e w1 ⟨hz, -, hB⟩
      obtain rfl := hz (by decide)
      replace VR := hid (var_below hB VR.out)
      replace BB := hid (BB.out.trans (hB.mono BB.out.size))
      replace hh := hid hh
      clear hB hz k1 k3 k16 kr VC
      obtain ⟨⟨r0, r1, r2⟩, y0, y1, y2⟩ := w3_facts VR.out
      have hset := hid (w3_set (x' := .int .i64 4) (y' := .int .i64 0) (z' := .slice none 0 0) VR.out)
      have hbel := hid (w3_below (g := g1) (x := .int .i64 4) (y := .int .i64 0) (z := .slice none 0 0) BB.out LG.out)
      go_wp2
      try simp only [Exit.inBlock, Exit.then]
      exact bodyPost_ret (v := .agg #[.int .i64 4, .int .i64 0, .slice none 0 0]) (results_cell_row rfl _ _ g1 44 _ _ _ rfl hset.out Try.underlying44 rfl (by kernel_rfl)) rfl ⟨_, rfl, OKs.nil _ _ _, hbel.out⟩
  · obtain ⟨hc, rfl, rfl⟩ := uk_bad HF.out h0
    refine (iturned_bad p c _ _ ks _ H.out hp h0 hc).mono ?_
    rintro e w1 ⟨rfl, hB⟩
    replace VR := hid (var_below hB VR.out)
    replace BB := hid (BB.out.trans (hB.mono BB.out.size))
    replace hc := hid hc
    replace h0 := hid h0
    clear hB VC
    obtain ⟨⟨r0, r1, r2⟩, y0, y1, y2⟩ := w3_facts VR.out
    have hset := hid (w3_set (x' := .int .i64 c) (y' := .int .i64 0) (z' := .slice none 0 0) VR.out)
    have hbel := hid (w3_below (g := g1) (x := .int .i64 c) (y := .int .i64 0) (z := .slice none 0 0) BB.out LG.out)
    go_wp2
    try simp only [Exit.inBlock, Exit.then]
    exact bodyPost_ret (v := .agg #[.int .i64 c, .int .i64 0, .slice none 0 0]) (results_cell_row rfl _ _ g1 44 _ _ _ rfl hset.out Try.underlying44 rfl (by kernel_rfl)) rfl ⟨_, rfl, OKs.nil _ _ _, hbel.out⟩
end Go.Proofs.Ytbfdbicddmffnab.W
