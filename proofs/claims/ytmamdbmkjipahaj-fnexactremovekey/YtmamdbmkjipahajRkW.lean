/-
  A ring that loses a key: what the program's RemoveKey answers.
-/
import Derived.Test.YtmamdbmkjipahajIrmW
import Derived.Test.YtmamdbmkjipahajUkW
import Derived.Test.YtmamdbmkjipahajRkF
namespace Go.Proofs.Ytmamdbmkjipahaj.W
open Go.ChangeShapes Go.WideShapes Go.ChangeAt Go.RowKit
open Go.Proofs.Ytmamdbmkjipahaj.M

set_option maxHeartbeats 2000000 in
set_option maxRecDepth 100000 in
theorem irk (p id' c rk : Int) (v : Value) (ks t : List (Int × List Nat)) (w : World) (h : RdK w v ks) (hp : (Lit.int .i64 p).wf = true) (hi : (Lit.int .i64 id').wf = true) (hF : rmIs p ks id' c rk t) :
    Calls Try.prog 30 #[.agg #[.int .i64 p, v], .int .i64 id'] w fun e w' => ∃ v', e = .returned (.agg #[.int .i64 c, .int .i64 rk, v']) ∧ OKs w' w.heap.size w'.heap.size v' t ∧ Below w.heap.size w w' := by
  have H := hid h
  have HF := hid hF
  obtain ⟨a, cap, rfl, -, -, -⟩ := h.parts
  clear h hF
  go_enter Try.func30, Try.ntmps30
  go_wp2_with fail
  have VC := hid (heap_alloc2_old (w.alloc (.cells #[.int .i64 p, .slice a ks.length cap] 34)) (.cells #[.int .i64 id'] 2) (.cells #[.int .i64 0, .int .i64 0, .slice none 0 0] 44))
  have VR := hid (heap_alloc2_new (w.alloc (.cells #[.int .i64 p, .slice a ks.length cap] 34)) (.cells #[.int .i64 id'] 2) (.cells #[.int .i64 0, .int .i64 0, .slice none 0 0] 44))
  have BB := hid ((below_alloc1 w (.cells #[.int .i64 p, .slice a ks.length cap] 34)).trans ((below_alloc2 (w.alloc (.cells #[.int .i64 p, .slice a ks.length cap] 34)) (.cells #[.int .i64 id'] 2) (.cells #[.int .i64 0, .int .i64 0, .slice none 0 0] 44)).mono (below_alloc1 w (.cells #[.int .i64 p, .slice a ks.length cap] 34)).size))
  simp only [World.size_alloc] at VC VR
  replace H := hid (H.out.below BB.out)
  generalize ((w.alloc (.cells #[.int .i64 p, .slice a ks.length cap] 34)).alloc (.cells #[.int .i64 id'] 2)).alloc (.cells #[.int .i64 0, .int .i64 0, .slice none 0 0] 44) = w0 at *
  obtain ⟨g1, hg1⟩ : ∃ g, g = w.heap.size + 1 + 1 := ⟨_, rfl⟩
  obtain ⟨gc, hgc⟩ : ∃ g, g = w.heap.size + 1 := ⟨_, rfl⟩
  have LG := hid (show w.heap.size ≤ g1 by omega)
  rw [← hg1] at VR
  rw [← hgc] at VC ⊢
  simp only [← hgc] at hg1
  try rw [← hg1]
  clear hgc hg1
  have LV := hid (show g1 < w0.heap.size from var_lt VR.out)
  rcases HF.out with ⟨h0, hc', hk', ht'⟩ | ⟨h0, hh, hc', hk', ht'⟩ | ⟨h0, hh, he, hc', hk', ht'⟩ | ⟨h0, hh, hne, hc', hk', ht'⟩
  · subst hk' ht'
    have hc := hc'
    clear hc'
    refine (iturned_bad p c _ _ ks _ H.out hp h0 hc).mono ?_
    rintro e w1 ⟨rfl, hB⟩
    replace VR := hid (var_below hB VR.out)
    replace BB := hid (BB.out.trans (hB.mono BB.out.size))
    replace hc := hid hc
    replace h0 := hid h0
    clear hB VC
    obtain ⟨⟨r0, r1, r2⟩, y0, y1, y2⟩ := w3_facts VR.out
    have hset := hid (w3_set (x' := .int .i64 c) (y' := .int .i64 0) (z' := .slice none 0 0) VR.out)
    have hbel := hid (w3_below (g := g1) (x := .int .i64 c) (y := .int .i64 0) (z := .slice none 0 0) BB.out LG.out)
    go_wp2
    try simp only [Exit.inBlock, Exit.then]
    exact bodyPost_ret (v := .agg #[.int .i64 c, .int .i64 0, .slice none 0 0]) (results_cell_row rfl _ _ g1 44 _ _ _ rfl hset.out Try.underlying44 rfl (by kernel_rfl)) rfl ⟨_, rfl, OKs.nil _ _ _, hbel.out⟩
  · subst hc' hk' ht'
    obtain ⟨k1, k3, k16, kr, kp⟩ := rF_parts h0
    have F0 := hid h0
    clear h0
    refine (iturned_rem p p 4 _ ks ks gc _ _ H.out hp F0.out VC.out kr k16 k1 (by omega) (hid fun W g b D hR hV => (irem1 g b gc p id' ks D W hR hV hi 4 (.inr (.inr ⟨hh, rfl⟩)) (by omega)).mono fun e w' ⟨q1, _, q3⟩ => ⟨q1, fun q => absurd q (by decide), q3⟩)).mono ?_
    rintro e w1 ⟨hz, -, hB⟩
    obtain rfl := hz (by decide)
    replace VR := hid (var_below hB VR.out)
    replace BB := hid (BB.out.trans (hB.mono BB.out.size))
    replace hh := hid hh
    clear hB hz k1 k3 k16 kr kp VC
    obtain ⟨⟨r0, r1, r2⟩, y0, y1, y2⟩ := w3_facts VR.out
    have hset := hid (w3_set (x' := .int .i64 4) (y' := .int .i64 0) (z' := .slice none 0 0) VR.out)
    have hbel := hid (w3_below (g := g1) (x := .int .i64 4) (y := .int .i64 0) (z := .slice none 0 0) BB.out LG.out)
    go_wp2
    try simp only [Exit.inBlock, Exit.then]
    exact bodyPost_ret (v := .agg #[.int .i64 4, .int .i64 0, .slice none 0 0]) (results_cell_row rfl _ _ g1 44 _ _ _ rfl hset.out Try.underlying44 rfl (by kernel_rfl)) rfl ⟨_, rfl, OKs.nil _ _ _, hbel.out⟩
  · subst hc' hk' ht'
    obtain ⟨k1, k3, k16, kr, kp⟩ := rF_parts h0
    have F0 := hid h0
    clear h0
    refine (iturned_rem p p 8 _ ks ks gc _ _ H.out hp F0.out VC.out kr k16 k1 (by omega) (hid fun W g b D hR hV => (irem1 g b gc p id' ks D W hR hV hi 8 (.inr (.inl ⟨hh, he, rfl⟩)) (by omega)).mono fun e w' ⟨q1, _, q3⟩ => ⟨q1, fun q => absurd q (by decide), q3⟩)).mono ?_
    rintro e w1 ⟨hz, -, hB⟩
    obtain rfl := hz (by decide)
    replace VR := hid (var_below hB VR.out)
    replace BB := hid (BB.out.trans (hB.mono BB.out.size))
    replace hh := hid hh
    replace he := hid he
    clear hB hz k1 k3 k16 kr kp VC
    obtain ⟨⟨r0, r1, r2⟩, y0, y1, y2⟩ := w3_facts VR.out
    have hset := hid (w3_set (x' := .int .i64 8) (y' := .int .i64 0) (z' := .slice none 0 0) VR.out)
    have hbel := hid (w3_below (g := g1) (x := .int .i64 8) (y := .int .i64 0) (z := .slice none 0 0) BB.out LG.out)
    go_wp2
    try simp only [Exit.inBlock, Exit.then]
    exact bodyPost_ret (v := .agg #[.int .i64 8, .int .i64 0, .slice none 0 0]) (results_cell_row rfl _ _ g1 44 _ _ _ rfl hset.out Try.underlying44 rfl (by kernel_rfl)) rfl ⟨_, rfl, OKs.nil _ _ _, hbel.out⟩
  · have hk2 := hk'.symm
    clear hk'
    subst hc' hk2 ht'
    obtain ⟨k1, k3, k16, kr, kp⟩ := rF_parts h0
    have F0 := hid h0
    have kl := rm_len id' ks
    clear h0
    refine (iturned_rem p p 0 _ ks (rmv id' ks) gc _ _ H.out hp F0.out VC.out (rm_rise kr) (rm_all (P := fun k => (1 ≤ k.1 ∧ k.1 ≤ 255) ∧ k.2.length = 16) k16) (rm_one kp hne) (by omega) (hid fun W g b D hR hV => irem1 g b gc p id' ks D W hR hV hi 0 (.inl ⟨hh, hne, rfl⟩) (by omega))).mono ?_
    rintro e w1 ⟨-, hz, hB⟩
    obtain ⟨v', rfl, hO⟩ := hz rfl
    have LS := hid BB.out.size
    replace VR := hid (var_below hB VR.out)
    replace BB := hid (BB.out.trans (hB.mono BB.out.size))
    obtain ⟨pv, cv, rfl, -, -, -⟩ := hO.rd.parts
    have OU := hid hO
    replace hh := hid hh
    replace hne := hid hne
    clear hO hB hz k1 k3 k16 kr kp kl VC
    obtain ⟨m, hm9⟩ : ∃ m, m = (rmv id' ks).length := ⟨_, rfl⟩
    rw [← hm9] at OU ⊢
    replace hm9 := hid hm9
    have OF := hid (((OU.out.low ⟨g1, 0, none⟩ LV.out (.int .i64 0)).low ⟨g1, 1, none⟩ LV.out (.int .i64 p)).low ⟨g1, 2, none⟩ LV.out (.slice pv m cv))
    obtain ⟨⟨r0, r1, r2⟩, y0, y1, y2⟩ := w3_facts VR.out
    have hset := hid (w3_set (x' := .int .i64 0) (y' := .int .i64 p) (z' := .slice pv m cv) VR.out)
    have hbel := hid (w3_below (g := g1) (x := .int .i64 0) (y := .int .i64 p) (z := .slice pv m cv) BB.out LG.out)
    go_wp2
    try simp only [Exit.inBlock, Exit.then]
    exact bodyPost_ret (v := .agg #[.int .i64 0, .int .i64 p, .slice pv m cv]) (results_cell_row rfl _ _ g1 44 _ _ _ rfl hset.out Try.underlying44 rfl (by kernel_rfl)) rfl ⟨_, rfl, OF.out.mono LS.out (by rw [sizeT1, sizeT1, sizeT1]; exact Nat.le_refl _), hbel.out⟩
end Go.Proofs.Ytmamdbmkjipahaj.W
