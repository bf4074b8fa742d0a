/-
  A ring that is turned: what the model's TurnRing answers.
-/
import Derived.Test.YtifgcffifffdnajTrF
import Derived.Test.YtifgcffifffdnajSikW
import Derived.Test.YtifgcffifffdnajSukW
import Derived.Test.YtifgcffifffdnajSrkW
namespace Go.Proofs.Ytifgcffifffdnaj.W
open Go.ChangeShapes Go.WideShapes Go.ChangeAt Go.RowKit
open Go.Proofs.Ytifgcffifffdnaj.M

theorem far_set {w : World} {base g i : Nat} {v x : Value} {t : List (Int × List Nat)} (h : FarK w base v t) (hg : g < base) : FarK (w.setCell ⟨g, i, none⟩ x) base v t := fun w' hw =>
  h w' fun b hb => (hw b hb).trans (Below.heap_setCell _ _ _ _ (by show b ≠ g; omega))
theorem far_set2 {w : World} {base g i : Nat} {v x : Value} {t : List (Int × List Nat)} (h : FarK w base v t) (hg : g < base) : FarK (w.setCell ⟨g, i, none⟩ x) base v t := far_set h hg
set_option maxHeartbeats 4000000 in
set_option maxRecDepth 100000 in
theorem stn (p op id' c rk : Int) (v u : Value) (ks t : List (Int × List Nat)) (l : List Nat) (w : World) (h : RdK w v ks) (hu : Rd w u l) (hF : trIs p op ks id' l c rk t) :
    Calls Try.prog 31 #[.agg #[.int .i64 p, v], .int .i64 op, .agg #[.int .i64 id', u]] w fun e w' => ∃ v', e = .returned (.agg #[.int .i64 c, .int .i64 rk, v']) ∧ FarK w' w.heap.size v' t ∧ Below w.heap.size w w' := by
  have H := hid h
  have HU := hid hu
  have HF := hid hF
  obtain ⟨a, cap, rfl, -, hcm, -⟩ := h.parts
  obtain ⟨au, cu, rfl, -, hcu, -⟩ := hu.parts
  clear h hF hcm hu hcu
  go_enter Try.func31, Try.ntmps31
  go_wp2_with fail
  have VA := hid (var_alloc (.cells #[.int .i64 0, .int .i64 0, .slice none 0 0] 44) (heap_alloc2_old w (.cells #[.int .i64 p, .slice a ks.length cap] 34) (.cells #[.int .i64 id', .slice au l.length cu] 28)))
  have VK := hid (heap_alloc2_old (w.alloc (.cells #[.int .i64 p, .slice a ks.length cap] 34)) (.cells #[.int .i64 id', .slice au l.length cu] 28) (.cells #[.int .i64 0, .int .i64 0, .slice none 0 0] 44))
  have VR := hid (heap_alloc2_new (w.alloc (.cells #[.int .i64 p, .slice a ks.length cap] 34)) (.cells #[.int .i64 id', .slice au l.length cu] 28) (.cells #[.int .i64 0, .int .i64 0, .slice none 0 0] 44))
  have BB := hid ((below_alloc1 w (.cells #[.int .i64 p, .slice a ks.length cap] 34)).trans ((below_alloc2 (w.alloc (.cells #[.int .i64 p, .slice a ks.length cap] 34)) (.cells #[.int .i64 id', .slice au l.length cu] 28) (.cells #[.int .i64 0, .int .i64 0, .slice none 0 0] 44)).mono (by simp)))
  simp only [World.size_alloc] at VK VR
  replace H := hid (H.out.below BB.out)
  replace HU := hid (HU.out.below BB.out)
  generalize ((w.alloc (.cells #[.int .i64 p, .slice a ks.length cap] 34)).alloc (.cells #[.int .i64 id', .slice au l.length cu] 28)).alloc (.cells #[.int .i64 0, .int .i64 0, .slice none 0 0] 44) = w0 at *
  obtain ⟨g1, hg1⟩ : ∃ g, g = w.heap.size + 1 + 1 := ⟨_, rfl⟩
  obtain ⟨gk, hgk⟩ : ∃ g, g = w.heap.size + 1 := ⟨_, rfl⟩
  obtain ⟨g, hg⟩ : ∃ g, g = w.heap.size := ⟨_, rfl⟩
  have LG := hid (show w.heap.size ≤ g1 by omega)
  rw [← hg1] at VR ⊢
  rw [← hgk] at VK ⊢
  rw [← hg] at VA ⊢
  clear hg hgk hg1
  refine (srf p _ ks _ H.out).mono ?_
  rintro e w1 ⟨rfl, hB⟩
  replace VA := hid (var_below hB VA.out)
  replace VK := hid (var_below hB VK.out)
  replace VR := hid (var_below hB VR.out)
  replace H := hid (H.out.below hB)
  replace HU := hid (HU.out.below hB)
  replace BB := hid (BB.out.trans (hB.mono BB.out.size))
  clear hB
  by_cases h0 : rF p ks = 0
  case neg =>
    obtain ⟨hc, hk', ht'⟩ := tr_bad HF.out h0
    subst hk' ht'
    rw [← hc] at h0 ⊢
    have ne : (c != 0) = true := by rw [bne_iff_ne]; exact h0
    replace hc := hid hc
    clear HF h0
    obtain ⟨⟨r0, r1, r2⟩, y0, y1, y2⟩ := w3_facts VR.out
    have hset := hid (w3_set (x' := .int .i64 c) (y' := .int .i64 0) (z' := .slice none 0 0) VR.out)
    have hbel := hid (w3_below (g := g1) (x := .int .i64 c) (y := .int .i64 0) (z := .slice none 0 0) BB.out LG.out)
    go_wp2
    try simp only [Exit.inBlock, Exit.then]
    exact bodyPost_ret (v := .agg #[.int .i64 c, .int .i64 0, .slice none 0 0]) (results_cell_row rfl _ _ g1 44 _ _ _ rfl hset.out Try.underlying44 rfl (by kernel_rfl)) rfl ⟨_, rfl, FarK.nil _ _, hbel.out⟩
  have F0 := hid h0
  rw [h0]
  clear h0
  obtain ⟨a0, a1, -, -⟩ := var2_facts VA.out
  obtain ⟨k0, k1, -, -⟩ := var2_facts VK.out
  go_wp2_with fail
  refine (l1in _ _ _ _).mono ?_
  rintro e w' ⟨rfl, hw'⟩
  have hw2 := hw'.symm
  subst hw2
  by_cases h1 : op = 1
  case pos =>
    subst h1
    have IK := hid (tr_ik HF.out F0.out)
    rw [show inB 1 1 3 = true from by decide]
    go_wp2_with fail
    refine (sik p id' _ _ ks l c rk t _ H.out HU.out IK.out).mono ?_
    rintro e w2 ⟨v', rfl, hF, hB⟩
    obtain ⟨pv, cv, rfl, -, -, -⟩ := hF.rd.parts
    have LW := hid (show g1 < w1.heap.size from var_lt VR.out)
    have SW := hid (BB.out.size)
    replace VR := hid (var_below hB VR.out)
    replace BB := hid (BB.out.trans (hB.mono BB.out.size))
    have FF := hid hF
    clear hB hF HF VA VK H HU
    obtain ⟨m, hm9⟩ : ∃ m, m = t.length := ⟨_, rfl⟩
    rw [← hm9] at FF ⊢
    replace hm9 := hid hm9
    have OF := hid (far_set (far_set (far_set FF.out LW.out (i := 0) (x := .int .i64 c)) LW.out (i := 1) (x := .int .i64 rk)) LW.out (i := 2) (x := .slice pv m cv))
    obtain ⟨⟨r0, r1, r2⟩, y0, y1, y2⟩ := w3_facts VR.out
    have hset := hid (w3_set (x' := .int .i64 c) (y' := .int .i64 rk) (z' := .slice pv m cv) VR.out)
    have hbel := hid (w3_below (g := g1) (x := .int .i64 c) (y := .int .i64 rk) (z := .slice pv m cv) BB.out LG.out)
    go_wp2
    try simp only [Exit.inBlock, Exit.then]
    exact bodyPost_ret (v := .agg #[.int .i64 c, .int .i64 rk, .slice pv m cv]) (results_cell_row rfl _ _ g1 44 _ _ _ rfl hset.out Try.underlying44 rfl (by kernel_rfl)) rfl ⟨_, rfl, OF.out.mono SW.out, hbel.out⟩
  by_cases h2 : op = 2
  case pos =>
    subst h2
    rw [show inB 2 1 3 = true from by decide]
    by_cases hl : l = []
    case pos =>
      subst hl
      have UK := hid (tr_uk HF.out F0.out)
      go_wp2_with fail
      refine (suk p id' _ ks c rk t _ H.out UK.out).mono ?_
      rintro e w2 ⟨v', rfl, hF, hB⟩
      obtain ⟨pv, cv, rfl, -, -, -⟩ := hF.rd.parts
      have LW := hid (show g1 < w1.heap.size from var_lt VR.out)
      have SW := hid (BB.out.size)
      replace VR := hid (var_below hB VR.out)
      replace BB := hid (BB.out.trans (hB.mono BB.out.size))
      have FF := hid hF
      clear hB hF HF VA VK H HU
      obtain ⟨m, hm9⟩ : ∃ m, m = t.length := ⟨_, rfl⟩
      rw [← hm9] at FF ⊢
      replace hm9 := hid hm9
      have OF := hid (far_set (far_set (far_set FF.out LW.out (i := 0) (x := .int .i64 c)) LW.out (i := 1) (x := .int .i64 rk)) LW.out (i := 2) (x := .slice pv m cv))
      obtain ⟨⟨r0, r1, r2⟩, y0, y1, y2⟩ := w3_facts VR.out
      have hset := hid (w3_set (x' := .int .i64 c) (y' := .int .i64 rk) (z' := .slice pv m cv) VR.out)
      have hbel := hid (w3_below (g := g1) (x := .int .i64 c) (y := .int .i64 rk) (z := .slice pv m cv) BB.out LG.out)
      go_wp2
      try simp only [Exit.inBlock, Exit.then]
      exact bodyPost_ret (v := .agg #[.int .i64 c, .int .i64 rk, .slice pv m cv]) (results_cell_row rfl _ _ g1 44 _ _ _ rfl hset.out Try.underlying44 rfl (by kernel_rfl)) rfl ⟨_, rfl, OF.out.mono SW.out, hbel.out⟩
    obtain ⟨rfl, rfl, rfl⟩ := tr_form HF.out F0.out (by decide) (.inr hl)
    have lp : ((0 : Int) < (l.length : Int)) := by
      have := List.length_pos_iff.2 hl
      omega
    clear HF
    replace hl := hid hl
    obtain ⟨⟨r0, r1, r2⟩, y0, y1, y2⟩ := w3_facts VR.out
    have hset := hid (w3_set (x' := .int .i64 1) (y' := .int .i64 0) (z' := .slice none 0 0) VR.out)
    have hbel := hid (w3_below (g := g1) (x := .int .i64 1) (y := .int .i64 0) (z := .slice none 0 0) BB.out LG.out)
    go_wp2
    try simp only [Exit.inBlock, Exit.then]
    exact bodyPost_ret (v := .agg #[.int .i64 1, .int .i64 0, .slice none 0 0]) (results_cell_row rfl _ _ g1 44 _ _ _ rfl hset.out Try.underlying44 rfl (by kernel_rfl)) rfl ⟨_, rfl, FarK.nil _ _, hbel.out⟩
  by_cases h3 : op = 3
  case pos =>
    subst h3
    rw [show inB 3 1 3 = true from by decide]
    by_cases hl : l = []
    case pos =>
      subst hl
      have RK := hid (tr_rm HF.out F0.out)
      go_wp2_with fail
      refine (srk p id' _ ks c rk t _ H.out RK.out).mono ?_
      rintro e w2 ⟨v', rfl, hF, hB⟩
      obtain ⟨pv, cv, rfl, -, -, -⟩ := hF.rd.parts
      have LW := hid (show g1 < w1.heap.size from var_lt VR.out)
      have SW := hid (BB.out.size)
      replace VR := hid (var_below hB VR.out)
      replace BB := hid (BB.out.trans (hB.mono BB.out.size))
      have FF := hid hF
      clear hB hF HF VA VK H HU
      obtain ⟨m, hm9⟩ : ∃ m, m = t.length := ⟨_, rfl⟩
      rw [← hm9] at FF ⊢
      replace hm9 := hid hm9
      have OF := hid (far_set (far_set (far_set FF.out LW.out (i := 0) (x := .int .i64 c)) LW.out (i := 1) (x := .int .i64 rk)) LW.out (i := 2) (x := .slice pv m cv))
      obtain ⟨⟨r0, r1, r2⟩, y0, y1, y2⟩ := w3_facts VR.out
      have hset := hid (w3_set (x' := .int .i64 c) (y' := .int .i64 rk) (z' := .slice pv m cv) VR.out)
      have hbel := hid (w3_below (g := g1) (x := .int .i64 c) (y := .int .i64 rk) (z := .slice pv m cv) BB.out LG.out)
      go_wp2
      try simp only [Exit.inBlock, Exit.then]
      exact bodyPost_ret (v := .agg #[.int .i64 c, .int .i64 rk, .slice pv m cv]) (results_cell_row rfl _ _ g1 44 _ _ _ rfl hset.out Try.underlying44 rfl (by kernel_rfl)) rfl ⟨_, rfl, OF.out.mono SW.out, hbel.out⟩
    obtain ⟨rfl, rfl, rfl⟩ := tr_form HF.out F0.out (by decide) (.inr hl)
    have lp : ((0 : Int) < (l.length : Int)) := by
      have := List.length_pos_iff.2 hl
      omega
    clear HF
    replace hl := hid hl
    obtain ⟨⟨r0, r1, r2⟩, y0, y1, y2⟩ := w3_facts VR.out
    have hset := hid (w3_set (x' := .int .i64 1) (y' := .int .i64 0) (z' := .slice none 0 0) VR.out)
    have hbel := hid (w3_below (g := g1) (x := .int .i64 1) (y := .int .i64 0) (z := .slice none 0 0) BB.out LG.out)
    go_wp2
    try simp only [Exit.inBlock, Exit.then]
    exact bodyPost_ret (v := .agg #[.int .i64 1, .int .i64 0, .slice none 0 0]) (results_cell_row rfl _ _ g1 44 _ _ _ rfl hset.out Try.underlying44 rfl (by kernel_rfl)) rfl ⟨_, rfl, FarK.nil _ _, hbel.out⟩
  obtain ⟨rfl, rfl, rfl⟩ := tr_form HF.out F0.out h1 (.inl ⟨h2, h3⟩)
  clear HF
  rw [show inB op 1 3 = false from by unfold inB; exact decide_eq_false (by omega)]
  replace h1 := hid h1
  replace h2 := hid h2
  replace h3 := hid h3
  obtain ⟨⟨r0, r1, r2⟩, y0, y1, y2⟩ := w3_facts VR.out
  have hset := hid (w3_set (x' := .int .i64 1) (y' := .int .i64 0) (z' := .slice none 0 0) VR.out)
  have hbel := hid (w3_below (g := g1) (x := .int .i64 1) (y := .int .i64 0) (z := .slice none 0 0) BB.out LG.out)
  go_wp2
  try simp only [Exit.inBlock, Exit.then]
  exact bodyPost_ret (v := .agg #[.int .i64 1, .int .i64 0, .slice none 0 0]) (results_cell_row rfl _ _ g1 44 _ _ _ rfl hset.out Try.underlying44 rfl (by kernel_rfl)) rfl ⟨_, rfl, FarK.nil _ _, hbel.out⟩
end Go.Proofs.Ytifgcffifffdnaj.W
