/-
  A ring that is turned: what the model's TurnRing answers.
  A new ring with one key: what the spec's NewRing answers.
  A new ring with one key: what the impl's NewRing answers.
  Rings that are the same: what the model's SameRings answers.
  Rings that are the same: what the program's SameRings answers.
  What RingFault of the program answers.
  Variables of three, four and five cells.
  The law of turns, out of the contracts of its callees. Generated text.
-/
import Derived.Test.YtbfdbicddmffnabTrF
import Derived.Test.YtbfdbicddmffnabGFnTurns4
import Derived.Test.YtbfdbicddmffnabGFnTurns3
import Derived.Test.YtbfdbicddmffnabNrF
import Derived.Test.YtbfdbicddmffnabGFnTurns2
import Derived.Test.YtbfdbicddmffnabTellW
import Derived.Test.YtbfdbicddmffnabSrsW
import Derived.Test.YtbfdbicddmffnabIkrW
import Derived.Test.YtbfdbicddmffnabSl
import Derived.Deep.Cut
import Derived.Test.YtbfdbicddmffnabTrLem
import Derived.Test.YtbfdbicddmffnabGFnTurns1
import Derived.Test.YtbfdbicddmffnabLetF3

namespace Go.Proofs.Ytbfdbicddmffnab.W
open Go.ChangeShapes Go.WideShapes Go.ChangeAt Go.RowKit
open Go.Proofs.Ytbfdbicddmffnab.M

theorem far_set {w : World} {base g i : Nat} {v x : Value} {t : List (Int × List Nat)} (h : FarK w base v t) (hg : g < base) : FarK (w.setCell ⟨g, i, none⟩ x) base v t := fun w' hw =>
  h w' fun b hb => (hw b hb).trans (Below.heap_setCell _ _ _ _ (by show b ≠ g; omega))
theorem far_set2 {w : World} {base g i : Nat} {v x : Value} {t : List (Int × List Nat)} (h : FarK w base v t) (hg : g < base) : FarK (w.setCell ⟨g, i, none⟩ x) base v t := far_set h hg
set_option maxHeartbeats 4000000 in
set_option maxRecDepth 100000 in
theorem stn (p op id' c rk : Int) (v u : Value) (ks t : List (Int × List Nat)) (l : List Nat) (w : World) (h : RdK w v ks) (hu : Rd w u l) (hF : trIs p op ks id' l c rk t) :
    Calls Try.prog 43 #[.agg #[.int .i64 p, v], .int .i64 op, .agg #[.int .i64 id', u]] w fun e w' => ∃ v', e = .returned (.agg #[.int .i64 c, .int .i64 rk, v']) ∧ FarK w' w.heap.size v' t ∧ Below w.heap.size w w' := by
  have H := hid h
  have HU := hid hu
  have HF := hid hF
  obtain ⟨a, cap, rfl, -, hcm, -⟩ := h.parts
  obtain ⟨au, cu, rfl, -, hcu, -⟩ := hu.parts
  clear h hF hcm hu hcu
  go_enter Try.func43, Try.ntmps43
  go_wp2_with fail
  have VA := hid (var_alloc (.cells #[.int .i64 0, .int .i64 0, .slice none 0 0] 44) (heap_alloc2_old w (.cells #[.int .i64 p, .slice a ks.length cap] 38) (.cells #[.int .i64 id', .slice au l.length cu] 40)))
  have VK := hid (heap_alloc2_old (w.alloc (.cells #[.int .i64 p, .slice a ks.length cap] 38)) (.cells #[.int .i64 id', .slice au l.length cu] 40) (.cells #[.int .i64 0, .int .i64 0, .slice none 0 0] 44))
  have VR := hid (heap_alloc2_new (w.alloc (.cells #[.int .i64 p, .slice a ks.length cap] 38)) (.cells #[.int .i64 id', .slice au l.length cu] 40) (.cells #[.int .i64 0, .int .i64 0, .slice none 0 0] 44))
  have BB := hid ((below_alloc1 w (.cells #[.int .i64 p, .slice a ks.length cap] 38)).trans ((below_alloc2 (w.alloc (.cells #[.int .i64 p, .slice a ks.length cap] 38)) (.cells #[.int .i64 id', .slice au l.length cu] 40) (.cells #[.int .i64 0, .int .i64 0, .slice none 0 0] 44)).mono (by simp)))
  simp only [World.size_alloc] at VK VR
  replace H := hid (H.out.below BB.out)
  replace HU := hid (HU.out.below BB.out)
  generalize ((w.alloc (.cells #[.int .i64 p, .slice a ks.length cap] 38)).alloc (.cells #[.int .i64 id', .slice au l.length cu] 40)).alloc (.cells #[.int .i64 0, .int .i64 0, .slice none 0 0] 44) = w0 at *
  obtain ⟨g1, hg1⟩ : ∃ g, g = w.heap.size + 1 + 1 := ⟨_, rfl⟩
  obtain ⟨gk, hgk⟩ : ∃ g, g = w.heap.size + 1 := ⟨_, rfl⟩
  obtain ⟨g, hg⟩ : ∃ g, g = w.heap.size := ⟨_, rfl⟩
  have LG := hid (show w.heap.size ≤ g1 by omega)
  rw [← hg1] at VR ⊢
  rw [← hgk] at VK ⊢
  rw [← hg] at VA ⊢
  clear hg hgk hg1
  refine (srf p _ ks _ H.out).mono ?_
  rintro e w1 ⟨rfl, hB⟩
  replace VA := hid (var_below hB VA.out)
  replace VK := hid (var_below hB VK.out)
  replace VR := hid (var_below hB VR.out)
  replace H := hid (H.out.below hB)
  replace HU := hid (HU.out.below hB)
  replace BB := hid (BB.out.trans (hB.mono BB.out.size))
  clear hB
  by_cases h0 : rF p ks = 0
  case neg =>
    obtain ⟨hc, hk', ht'⟩ := tr_bad HF.out h0
    subst hk' ht'
    rw [← hc] at h0 ⊢
    have ne : (c != 0) = true := by rw [bne_iff_ne]; exact h0
    replace hc := hid hc
    clear HF h0
    obtain ⟨⟨r0, r1, r2⟩, y0, y1, y2⟩ := w3_facts VR.out
    have hset := hid (w3_set (x' := .int .i64 c) (y' := .int .i64 0) (z' := .slice none 0 0) VR.out)
    have hbel := hid (w3_below (g := g1) (x := .int .i64 c) (y := .int .i64 0) (z := .slice none 0 0) BB.out LG.out)
    go_wp2
    try simp only [Exit.inBlock, Exit.then]
    exact bodyPost_ret (v := .agg #[.int .i64 c, .int .i64 0, .slice none 0 0]) (results_cell_row rfl _ _ g1 44 _ _ _ rfl hset.out Try.underlying44 rfl (by kernel_rfl)) rfl ⟨_, rfl, FarK.nil _ _, hbel.out⟩
  have F0 := hid h0
  rw [h0]
  clear h0
  obtain ⟨a0, a1, -, -⟩ := var2_facts VA.out
  obtain ⟨k0, k1, -, -⟩ := var2_facts VK.out
  go_wp2_with fail
  refine (l1in _ _ _ _).mono ?_
  rintro e w' ⟨rfl, hw'⟩
  have hw2 := hw'.symm
  subst hw2
  by_cases h1 : op = 1
  case pos =>
    subst h1
    have IK := hid (tr_ik HF.out F0.out)
    rw [show inB 1 1 3 = true from by decide]
    go_wp2_with fail
    refine (sik p id' _ _ ks l c rk t _ H.out HU.out IK.out).mono ?_
    rintro e w2 ⟨v', rfl, hF, hB⟩
    obtain ⟨pv, cv, rfl, -, -, -⟩ := hF.rd.parts
    have LW := hid (show g1 < w1.heap.size from var_lt VR.out)
    have SW := hid (BB.out.size)
    replace VR := hid (var_below hB VR.out)
    replace BB := hid (BB.out.trans (hB.mono BB.out.size))
    have FF := hid hF
    clear hB hF HF VA VK H HU
    obtain ⟨m, hm9⟩ : ∃ m, m = t.length := ⟨_, rfl⟩
    rw [← hm9] at FF ⊢
    replace hm9 := hid hm9
    have OF := hid (far_set (far_set (far_set FF.out LW.out (i := 0) (x := .int .i64 c)) LW.out (i := 1) (x := .int .i64 rk)) LW.out (i := 2) (x := .slice pv m cv))
    obtain ⟨⟨r0, r1, r2⟩, y0, y1, y2⟩ := w3_facts VR.out
    have hset := hid (w3_set (x' := .int .i64 c) (y' := .int .i64 rk) (z' := .slice pv m cv) VR.out)
    have hbel := hid (w3_below (g := g1) (x := .int .i64 c) (y := .int .i64 rk) (z := .slice pv m cv) BB.out LG.out)
    go_wp2
    try simp only [Exit.inBlock, Exit.then]
    exact bodyPost_ret (v := .agg #[.int .i64 c, .int .i64 rk, .slice pv m cv]) (results_cell_row rfl _ _ g1 44 _ _ _ rfl hset.out Try.underlying44 rfl (by kernel_rfl)) rfl ⟨_, rfl, OF.out.mono SW.out, hbel.out⟩
  by_cases h2 : op = 2
  case pos =>
    subst h2
    rw [show inB 2 1 3 = true from by decide]
    by_cases hl : l = []
    case pos =>
      subst hl
      have UK := hid (tr_uk HF.out F0.out)
      go_wp2_with fail
      refine (suk p id' _ ks c rk t _ H.out UK.out).mono ?_
      rintro e w2 ⟨v', rfl, hF, hB⟩
      obtain ⟨pv, cv, rfl, -, -, -⟩ := hF.rd.parts
      have LW := hid (show g1 < w1.heap.size from var_lt VR.out)
      have SW := hid (BB.out.size)
      replace VR := hid (var_below hB VR.out)
      replace BB := hid (BB.out.trans (hB.mono BB.out.size))
      have FF := hid hF
      clear hB hF HF VA VK H HU
      obtain ⟨m, hm9⟩ : ∃ m, m = t.length := ⟨_, rfl⟩
      rw [← hm9] at FF ⊢
      replace hm9 := hid hm9
      have OF := hid (far_set (far_set (far_set FF.out LW.out (i := 0) (x := .int .i64 c)) LW.out (i := 1) (x := .int .i64 rk)) LW.out (i := 2) (x := .slice pv m cv))
      obtain ⟨⟨r0, r1, r2⟩, y0, y1, y2⟩ := w3_facts VR.out
      have hset := hid (w3_set (x' := .int .i64 c) (y' := .int .i64 rk) (z' := .slice pv m cv) VR.out)
      have hbel := hid (w3_below (g := g1) (x := .int .i64 c) (y := .int .i64 rk) (z := .slice pv m cv) BB.out LG.out)
      go_wp2
      try simp only [Exit.inBlock, Exit.then]
      exact bodyPost_ret (v := .agg #[.int .i64 c, .int .i64 rk, .slice pv m cv]) (results_cell_row rfl _ _ g1 44 _ _ _ rfl hset.out Try.underlying44 rfl (by kernel_rfl)) rfl ⟨_, rfl, OF.out.mono SW.out, hbel.out⟩
    obtain ⟨rfl, rfl, rfl⟩ := tr_form HF.out F0.out (by decide) (.inr hl)
    have lp : ((0 : Int) < (l.length : Int)) := by
      have := List.length_pos_iff.2 hl
      omega
    clear HF
    replace hl := hid hl
    obtain ⟨⟨r0, r1, r2⟩, y0, y1, y2⟩ := w3_facts VR.out
    have hset := hid (w3_set (x' := .int .i64 1) (y' := .int .i64 0) (z' := .slice none 0 0) VR.out)
    have hbel := hid (w3_below (g := g1) (x := .int .i64 1) (y := .int .i64 0) (z := .slice none 0 0) BB.out LG.out)
    go_wp2
    try simp only [Exit.inBlock, Exit.then]
    exact bodyPost_ret (v := .agg #[.int .i64 1, .int .i64 0, .slice none 0 0]) (results_cell_row rfl _ _ g1 44 _ _ _ rfl hset.out Try.underlying44 rfl (by kernel_rfl)) rfl ⟨_, rfl, FarK.nil _ _, hbel.out⟩
  by_cases h3 : op = 3
  case pos =>
    subst h3
    rw [show inB 3 1 3 = true from by decide]
    by_cases hl : l = []
    case pos =>
      subst hl
      have RK := hid (tr_rm HF.out F0.out)
      go_wp2_with fail
      refine (srk p id' _ ks c rk t _ H.out RK.out).mono ?_
      rintro e w2 ⟨v', rfl, hF, hB⟩
      obtain ⟨pv, cv, rfl, -, -, -⟩ := hF.rd.parts
      have LW := hid (show g1 < w1.heap.size from var_lt VR.out)
      have SW := hid (BB.out.size)
      replace VR := hid (var_below hB VR.out)
      replace BB := hid (BB.out.trans (hB.mono BB.out.size))
      have FF := hid hF
      clear hB hF HF VA VK H HU
      obtain ⟨m, hm9⟩ : ∃ m, m = t.length := ⟨_, rfl⟩
      rw [← hm9] at FF ⊢
      replace hm9 := hid hm9
      have OF := hid (far_set (far_set (far_set FF.out LW.out (i := 0) (x := .int .i64 c)) LW.out (i := 1) (x := .int .i64 rk)) LW.out (i := 2) (x := .slice pv m cv))
      obtain ⟨⟨r0, r1, r2⟩, y0, y1, y2⟩ := w3_facts VR.out
      have hset := hid (w3_set (x' := .int .i64 c) (y' := .int .i64 rk) (z' := .slice pv m cv) VR.out)
      have hbel := hid (w3_below (g := g1) (x := .int .i64 c) (y := .int .i64 rk) (z := .slice pv m cv) BB.out LG.out)
      go_wp2
      try simp only [Exit.inBlock, Exit.then]
      exact bodyPost_ret (v := .agg #[.int .i64 c, .int .i64 rk, .slice pv m cv]) (results_cell_row rfl _ _ g1 44 _ _ _ rfl hset.out Try.underlying44 rfl (by kernel_rfl)) rfl ⟨_, rfl, OF.out.mono SW.out, hbel.out⟩
    obtain ⟨rfl, rfl, rfl⟩ := tr_form HF.out F0.out (by decide) (.inr hl)
    have lp : ((0 : Int) < (l.length : Int)) := by
      have := List.length_pos_iff.2 hl
      omega
    clear HF
    replace hl := hid hl
    obtain ⟨⟨r0, r1, r2⟩, y0, y1, y2⟩ := w3_facts VR.out
    have hset := hid (w3_set (x' := .int .i64 1) (y' := .int .i64 0) (z' := .slice none 0 0) VR.out)
    have hbel := hid (w3_below (g := g1) (x := .int .i64 1) (y := .int .i64 0) (z := .slice none 0 0) BB.out LG.out)
    go_wp2
    try simp only [Exit.inBlock, Exit.then]
    exact bodyPost_ret (v := .agg #[.int .i64 1, .int .i64 0, .slice none 0 0]) (results_cell_row rfl _ _ g1 44 _ _ _ rfl hset.out Try.underlying44 rfl (by kernel_rfl)) rfl ⟨_, rfl, FarK.nil _ _, hbel.out⟩
  obtain ⟨rfl, rfl, rfl⟩ := tr_form HF.out F0.out h1 (.inl ⟨h2, h3⟩)
  clear HF
  rw [show inB op 1 3 = false from by unfold inB; exact decide_eq_false (by omega)]
  replace h1 := hid h1
  replace h2 := hid h2
  replace h3 := hid h3
  obtain ⟨⟨r0, r1, r2⟩, y0, y1, y2⟩ := w3_facts VR.out
  have hset := hid (w3_set (x' := .int .i64 1) (y' := .int .i64 0) (z' := .slice none 0 0) VR.out)
  have hbel := hid (w3_below (g := g1) (x := .int .i64 1) (y := .int .i64 0) (z := .slice none 0 0) BB.out LG.out)
  go_wp2
  try simp only [Exit.inBlock, Exit.then]
  exact bodyPost_ret (v := .agg #[.int .i64 1, .int .i64 0, .slice none 0 0]) (results_cell_row rfl _ _ g1 44 _ _ _ rfl hset.out Try.underlying44 rfl (by kernel_rfl)) rfl ⟨_, rfl, FarK.nil _ _, hbel.out⟩
end Go.Proofs.Ytbfdbicddmffnab.W

namespace Go.Proofs.Ytbfdbicddmffnab.W
open Go.ChangeShapes Go.WideShapes Go.ChangeAt Go.RowKit
open Go.Proofs.Ytbfdbicddmffnab.M

set_option maxHeartbeats 2000000 in
set_option maxRecDepth 100000 in
theorem snr (p : Int) (v : Value) (l : List Nat) (c rk : Int) (t : List (Int × List Nat)) (w : World) (h : Rd w v l) (hF : nrIs p l c rk t) :
    Calls Try.prog 42 #[.agg #[.int .i64 p, v]] w fun e w' => ∃ v', e = .returned (.agg #[.int .i64 c, .int .i64 rk, v']) ∧ RdK w' v' t ∧ Below w.heap.size w w' := by
  have H := hid h
  have HF := hid hF
  obtain ⟨a, cap, rfl, -, -, -⟩ := h.parts
  clear h hF
  go_enter Try.func42, Try.ntmps42
  go_wp2_with fail
  have VR := hid (heap_alloc2_new w (.cells #[.int .i64 p, .slice a l.length cap] 40) (.cells #[.int .i64 0, .int .i64 0, .slice none 0 0] 44))
  have BB := hid (below_alloc2 w (.cells #[.int .i64 p, .slice a l.length cap] 40) (.cells #[.int .i64 0, .int .i64 0, .slice none 0 0] 44))
  have E0 : ((w.alloc (.cells #[.int .i64 p, .slice a l.length cap] 40)).alloc (.cells #[.int .i64 0, .int .i64 0, .slice none 0 0] 44)).heap.size = w.heap.size + 1 + 1 := by simp
  replace H := hid (H.out.below BB.out)
  generalize (w.alloc (.cells #[.int .i64 p, .slice a l.length cap] 40)).alloc (.cells #[.int .i64 0, .int .i64 0, .slice none 0 0] 44) = w0 at *
  obtain ⟨gs, hgs⟩ : ∃ g, g = w.heap.size + 1 + 1 := ⟨_, rfl⟩
  rw [← hgs] at E0 ⊢
  obtain ⟨gr, hgr⟩ : ∃ g, g = w.heap.size + 1 := ⟨_, rfl⟩
  have GR := hid (show w.heap.size ≤ gr by omega)
  rw [← hgr] at VR ⊢
  have VK := heap_alloc2_old w0 (.cells #[.int .i64 p, .slice a l.length cap] 40) (.cells #[.int .i64 p, .slice (some ⟨gs, 0, none⟩) 1 1] 38)
  have VQ := heap_alloc2_new w0 (.cells #[.int .i64 p, .slice a l.length cap] 40) (.cells #[.int .i64 p, .slice (some ⟨gs, 0, none⟩) 1 1] 38)
  rw [E0] at VK VQ
  have hA := below_alloc2 w0 (.cells #[.int .i64 p, .slice a l.length cap] 40) (.cells #[.int .i64 p, .slice (some ⟨gs, 0, none⟩) 1 1] 38)
  replace VR := hid (var_below hA VR.out)
  replace BB := hid (BB.out.trans (hA.mono BB.out.size))
  have RK := hid (rdk_one VK (H.out.below hA))
  have HQ := hid VQ
  clear hgs hgr VK VQ hA E0 H
  generalize (w0.alloc (.cells #[.int .i64 p, .slice a l.length cap] 40)).alloc (.cells #[.int .i64 p, .slice (some ⟨gs, 0, none⟩) 1 1] 38) = w1 at *
  refine (srf p _ [(p, l)] _ RK.out).mono ?_
  rintro e w2 ⟨rfl, hB⟩
  replace VR := hid (var_below hB VR.out)
  replace HQ := hid (var_below hB HQ.out)
  replace RK := hid (RK.out.below hB)
  replace BB := hid (BB.out.trans (hB.mono BB.out.size))
  clear hB
  rcases HF.out with ⟨h1, rfl, rfl, rfl⟩ | ⟨h1, rfl, rfl, rfl⟩
  · obtain ⟨cc, hcc⟩ : ∃ c, c = rF p [(p, l)] := ⟨_, rfl⟩
    rw [← hcc] at h1 ⊢
    have ne : (cc != 0) = true := by rw [bne_iff_ne]; exact h1
    have HCC := hid hcc
    clear hcc h1 HF
    obtain ⟨⟨r0, r1, r2⟩, y0, y1, y2⟩ := w3_facts VR.out
    have hset := hid (w3_set (x' := .int .i64 cc) (y' := .int .i64 0) (z' := .slice none 0 0) VR.out)
    have hbel := hid (w3_below (g := gr) (x := .int .i64 cc) (y := .int .i64 0) (z := .slice none 0 0) BB.out GR.out)
    go_wp2
    try simp only [Exit.inBlock, Exit.then]
    exact bodyPost_ret (v := .agg #[.int .i64 cc, .int .i64 0, .slice none 0 0]) (results_cell_row rfl _ _ gr 44 _ _ _ rfl hset.out Try.underlying44 rfl (by kernel_rfl)) rfl ⟨_, by rw [HCC.out], (OKs.nil _ 0 0).rd, hbel.out⟩
  · obtain ⟨-, -, k16, -, -⟩ := rF_parts h1
    have K16 := hid (fun i hi => (k16 i hi).2)
    rw [h1]
    clear h1 HF k16
    go_wp2_with fail
    refine (l4copy _ _ _ [(rk, l)] _ HQ.out RK.out K16.out (by simp)).mono ?_
    rintro e w3 ⟨v', rfl, hO, hB⟩
    obtain ⟨pv, cv, e', -, -, -⟩ := hO.rd.parts
    have e1 : [(rk, l)].length = 1 := rfl
    rw [e1] at e'
    subst e'
    have L3 := hid (var_lt VR.out)
    have S3 := hid BB.out.size
    replace VR := hid (var_below hB VR.out)
    replace BB := hid (BB.out.trans (hB.mono BB.out.size))
    have OF := hid (((hO.low ⟨gr, 0, none⟩ L3.out (.int .i64 0)).low ⟨gr, 1, none⟩ L3.out (.int .i64 rk)).low ⟨gr, 2, none⟩ L3.out (.slice pv 1 cv))
    clear hO hB e1
    obtain ⟨⟨r0, r1, r2⟩, y0, y1, y2⟩ := w3_facts VR.out
    have hset := hid (w3_set (x' := .int .i64 0) (y' := .int .i64 rk) (z' := .slice pv 1 cv) VR.out)
    have hbel := hid (w3_below (g := gr) (x := .int .i64 0) (y := .int .i64 rk) (z := .slice pv 1 cv) BB.out GR.out)
    go_wp2
    try simp only [Exit.inBlock, Exit.then]
    exact bodyPost_ret (v := .agg #[.int .i64 0, .int .i64 rk, .slice pv 1 cv]) (results_cell_row rfl _ _ gr 44 _ _ _ rfl hset.out Try.underlying44 rfl (by kernel_rfl)) rfl ⟨_, rfl, OF.out.rd, hbel.out⟩
end Go.Proofs.Ytbfdbicddmffnab.W

namespace Go.Proofs.Ytbfdbicddmffnab.W
open Go.ChangeShapes Go.WideShapes Go.ChangeAt Go.RowKit
open Go.Proofs.Ytbfdbicddmffnab.M

set_option maxHeartbeats 2000000 in
set_option maxRecDepth 100000 in
theorem inr (p : Int) (v : Value) (l : List Nat) (c rk : Int) (t : List (Int × List Nat)) (w : World) (h : Rd w v l) (hp : (Lit.int .i64 p).wf = true) (hF : nrIs p l c rk t) :
    Calls Try.prog 38 #[.agg #[.int .i64 p, v]] w fun e w' => ∃ v', e = .returned (.agg #[.int .i64 c, .int .i64 rk, v']) ∧ OKs w' w.heap.size w'.heap.size v' t ∧ Below w.heap.size w w' := by
  have H := hid h
  have HF := hid hF
  obtain ⟨a, cap, rfl, -, -, -⟩ := h.parts
  clear h hF
  go_enter Try.func38, Try.ntmps38
  go_wp2_with fail
  have VR := hid (heap_alloc2_new w (.cells #[.int .i64 p, .slice a l.length cap] 40) (.cells #[.int .i64 0, .int .i64 0, .slice none 0 0] 44))
  have BB := hid (below_alloc2 w (.cells #[.int .i64 p, .slice a l.length cap] 40) (.cells #[.int .i64 0, .int .i64 0, .slice none 0 0] 44))
  have E0 : ((w.alloc (.cells #[.int .i64 p, .slice a l.length cap] 40)).alloc (.cells #[.int .i64 0, .int .i64 0, .slice none 0 0] 44)).heap.size = w.heap.size + 1 + 1 := by simp
  replace H := hid (H.out.below BB.out)
  generalize (w.alloc (.cells #[.int .i64 p, .slice a l.length cap] 40)).alloc (.cells #[.int .i64 0, .int .i64 0, .slice none 0 0] 44) = w0 at *
  obtain ⟨gs, hgs⟩ : ∃ g, g = w.heap.size + 1 + 1 := ⟨_, rfl⟩
  rw [← hgs] at E0 ⊢
  obtain ⟨gr, hgr⟩ : ∃ g, g = w.heap.size + 1 := ⟨_, rfl⟩
  have GR := hid (show w.heap.size ≤ gr by omega)
  rw [← hgr] at VR ⊢
  have VK := heap_alloc_new w0 (.cells #[.int .i64 p, .slice a l.length cap] 40)
  rw [E0] at VK
  have hA := below_alloc1 w0 (.cells #[.int .i64 p, .slice a l.length cap] 40)
  replace VR := hid (var_below hA VR.out)
  replace BB := hid (BB.out.trans (hA.mono BB.out.size))
  have RK := hid (rdk_one VK (H.out.below hA))
  clear hgs hgr VK hA E0 H
  generalize w0.alloc (.cells #[.int .i64 p, .slice a l.length cap] 40) = w1 at *
  refine (ikrD p _ [(p, l)] _ RK.out hp).mono ?_
  rintro e w2 ⟨r, rfl, hP, hB⟩
  have HP := hid hP
  replace VR := hid (var_below hB VR.out)
  replace BB := hid (BB.out.trans (hB.mono BB.out.size))
  clear hB hP
  rcases HF.out with ⟨h1, rfl, rfl, rfl⟩ | ⟨h1, rfl, rfl, rfl⟩
  · obtain ⟨cc, hcc⟩ : ∃ c, c = rF p [(p, l)] := ⟨_, rfl⟩
    rw [← hcc] at h1 ⊢
    have ne : (cc != 0) = true := by rw [bne_iff_ne]; exact h1
    have HCC := hid hcc
    clear hcc h1 HF HP
    obtain ⟨⟨r0, r1, r2⟩, y0, y1, y2⟩ := w3_facts VR.out
    have hset := hid (w3_set (x' := .int .i64 cc) (y' := .int .i64 0) (z' := .slice none 0 0) VR.out)
    have hbel := hid (w3_below (g := gr) (x := .int .i64 cc) (y := .int .i64 0) (z := .slice none 0 0) BB.out GR.out)
    go_wp2
    try simp only [Exit.inBlock, Exit.then]
    exact bodyPost_ret (v := .agg #[.int .i64 cc, .int .i64 0, .slice none 0 0]) (results_cell_row rfl _ _ gr 44 _ _ _ rfl hset.out Try.underlying44 rfl (by kernel_rfl)) rfl ⟨_, by rw [HCC.out], OKs.nil _ _ _, hbel.out⟩
  · obtain ⟨k1, -, k16, kr, -⟩ := rF_parts h1
    obtain ⟨g, b, D, rfl, -, -, hR⟩ := HP.out h1
    have K16 := hid k16
    have KR := hid kr
    have HR := hid hR
    rw [h1]
    clear h1 HF k16 kr k1 hR HP
    go_wp2_with fail
    refine (itell g b _ _ [(rk, l)] D _ HR.out.block HR.out.map (by simp) HR.out.has HR.out.bytes KR.out K16.out (by simp) (by simp)).mono ?_
    rintro e w3 ⟨v', rfl, hO, hB⟩
    obtain ⟨pv, cv, e', -, -, -⟩ := hO.rd.parts
    have e1 : [(rk, l)].length = 1 := rfl
    rw [e1] at e'
    subst e'
    have L3 := hid (var_lt VR.out)
    have S3 := hid BB.out.size
    replace VR := hid (var_below hB VR.out)
    replace BB := hid (BB.out.trans (hB.mono BB.out.size))
    have OF := hid (((hO.low ⟨gr, 0, none⟩ L3.out (.int .i64 0)).low ⟨gr, 1, none⟩ L3.out (.int .i64 rk)).low ⟨gr, 2, none⟩ L3.out (.slice pv 1 cv))
    clear hO hB e1
    obtain ⟨⟨r0, r1, r2⟩, y0, y1, y2⟩ := w3_facts VR.out
    have hset := hid (w3_set (x' := .int .i64 0) (y' := .int .i64 rk) (z' := .slice pv 1 cv) VR.out)
    have hbel := hid (w3_below (g := gr) (x := .int .i64 0) (y := .int .i64 rk) (z := .slice pv 1 cv) BB.out GR.out)
    go_wp2
    try simp only [Exit.inBlock, Exit.then]
    exact bodyPost_ret (v := .agg #[.int .i64 0, .int .i64 rk, .slice pv 1 cv]) (results_cell_row rfl _ _ gr 44 _ _ _ rfl hset.out Try.underlying44 rfl (by kernel_rfl)) rfl ⟨_, rfl, OF.out.mono S3.out (by simp only [size_set1]; exact Nat.le_refl _), hbel.out⟩
end Go.Proofs.Ytbfdbicddmffnab.W

namespace Go.Proofs.Ytbfdbicddmffnab.W
open Go.ChangeShapes Go.WideShapes Go.ChangeAt Go.RowKit
open Go.Proofs.Ytbfdbicddmffnab.M

theorem idx_ks (b o n c j : Nat) (hj : j < n) (w : World) : (Instr.indexAt 36 (.slice (some ⟨b, o, none⟩) n c) (.int .i64 (j : Int))).run Try.prog w = .ok (.pointer (some ⟨b, o + j * 2, none⟩)) w := by
  have hs : ∀ w : World, (sizeOf (Try.prog.elem 36)).run Try.prog w = .ok 2 w := fun _ => by kernel_rfl
  rw [run_indexAt_slice (P := Try.prog) w 36 _ n c .i64 (j : Int) (by kernel_rfl)]
  simp [hs, hj, Result.andThen, Addr.add_lit]
set_option maxHeartbeats 2000000 in
set_option maxRecDepth 100000 in
theorem ssr (p q : Int) (va vb : Value) (ks ms : List (Int × List Nat)) (w : World) (ha : RdK w va ks) (hb : RdK w vb ms) (hl : ks.length ≤ 1048576) :
    Calls Try.prog 36 #[.agg #[.int .i64 p, va], .agg #[.int .i64 q, vb]] w fun e w' => e = .returned (.bool (smR p q ks ms)) ∧ Below w.heap.size w w' := by
  have HA := hid ha
  have HB := hid hb
  obtain ⟨a, ca, rfl, -, -, -⟩ := ha.parts
  obtain ⟨b, cb, rfl, -, -, -⟩ := hb.parts
  clear ha hb
  by_cases e : p = q
  · subst e
    by_cases el : ms.length = ks.length
    · have E := hid (show smR p p ks ms = smTo ks ms ks.length by simp [smR, el])
      rw [el]
      replace el := hid el
      go_enter Try.func36, Try.ntmps36
      go_wp2_with fail
      have V1 : Hid (((w.alloc (.cells #[.int .i64 p, .slice a ks.length ca] 38)).alloc (.cells #[.int .i64 p, .slice b ks.length cb] 38)).heap[w.heap.size]? = some (.cells #[.int .i64 p, .slice a ks.length ca] 38)) := hid (heap_alloc2_old w _ _)
      have V2 : Hid (((w.alloc (.cells #[.int .i64 p, .slice a ks.length ca] 38)).alloc (.cells #[.int .i64 p, .slice b ks.length cb] 38)).heap[w.heap.size + 1]? = some (.cells #[.int .i64 p, .slice b ks.length cb] 38)) := hid (heap_alloc2_new w _ _)
      have B2 := hid (below_alloc2 w (.cells #[.int .i64 p, .slice a ks.length ca] 38) (.cells #[.int .i64 p, .slice b ks.length cb] 38))
      replace HA := hid (HA.out.below B2.out)
      replace HB := hid (HB.out.below B2.out)
      generalize (w.alloc (.cells #[.int .i64 p, .slice a ks.length ca] 38)).alloc (.cells #[.int .i64 p, .slice b ks.length cb] 38) = w2 at *
      generalize w.heap.size + 1 = g2 at *
      obtain ⟨g1, hg1⟩ : ∃ g, g = w.heap.size := ⟨_, rfl⟩
      rw [← hg1] at V1 ⊢
      replace hg1 := hid hg1
      go_loopw [5] (fun i wr => ∃ k : Nat, k ≤ ks.length ∧ i = .int .i64 k ∧ Hid (smTo ks ms k = true) ∧ Hid (Below w2.heap.size w2 wr)) (fun i _ => ks.length - (Go.RowKit.intOf i).toNat)
      case atStart => exact ⟨0, by omega, rfl, hid (by simp [smTo]), hid (Below.refl _ _)⟩
      case round =>
        obtain ⟨k, hk, rfl, T, BL⟩ := hrel
        have V1' := var_below BL.out V1.out
        have V2' := var_below BL.out V2.out
        obtain ⟨-, f1, -, -⟩ := var2_facts V1'
        obtain ⟨-, f2, -, -⟩ := var2_facts V2'
        by_cases hlt : k < ks.length
        · obtain ⟨a', ca', e, -, -, hcs⟩ := (HA.out.below BL.out).parts
          cases e
          obtain ⟨ba, oa, ua, rfl, q1, q2, q3⟩ := hcs k hlt
          have hlm : k < ms.length := by rw [el.out]; exact hlt
          obtain ⟨b', cb', e, -, -, hcs'⟩ := (HB.out.below BL.out).parts
          rw [el.out] at e
          cases e
          obtain ⟨bb, ob, ub, rfl, t1, t2, t3⟩ := hcs' k hlm
          have RU := hid q3
          have RV := hid t3
          have TS := hid (smTo_succ ks ms k hlt hlm)
          have I1 := idx_ks ba oa ks.length ca k hlt
          have I2 := idx_ks bb ob ks.length cb k hlt
          have k0 : (0 : Int) ≤ (k : Int) := by omega
          have k1 : (k : Int) < (ks.length : Int) := by omega
          clear q3 hcs t3 hcs' V1' V2'
          go_wp2_with fail
          refine wp_region_held_drew (S := fun w' => Below wr.heap.size wr w') (by kernel_rfl) (Below.refl _ _).drew (fun hH => ?_)
          refine wpAnyH_take (i := 0) (v := .pointer (some ⟨g1, 1, none⟩)) (by simp only [List.getElem?_toArray, List.getElem?_cons_zero]; rfl) (by kernel_rfl) (by kernel_rfl) (by kernel_rfl) (by intro _ _ _ h; exact h) (Or.inl ⟨by rfl, fun w hS => by go_simp⟩) hH ?_
          simp only [Act.put, List.setIfInBounds_toArray, List.set_cons_zero, List.set_cons_succ]
          refine wpAnyH_take (i := 1) (v := .slice (some ⟨ba, oa, none⟩) ks.length ca) (by simp only [List.getElem?_toArray, List.getElem?_cons_succ, List.getElem?_cons_zero]; rfl) (by kernel_rfl) (by kernel_rfl) (by kernel_rfl) (by intro _ _ _ h; exact h) (Or.inl ⟨by rfl, fun w hS => by (have y0 := cell_kept hS f1; go_simp)⟩) hH ?_
          simp only [Act.put, List.setIfInBounds_toArray, List.set_cons_zero, List.set_cons_succ]
          refine wpAnyH_take (i := 2) (v := .int .i64 (k : Int)) (by simp only [List.getElem?_toArray, List.getElem?_cons_succ, List.getElem?_cons_zero]; rfl) (by kernel_rfl) (by kernel_rfl) (by kernel_rfl) (by intro _ _ _ h; exact h) (Or.inl ⟨by rfl, fun w hS => by go_simp⟩) hH ?_
          simp only [Act.put, List.setIfInBounds_toArray, List.set_cons_zero, List.set_cons_succ]
          refine wpAnyH_take (i := 3) (v := .pointer (some ⟨ba, oa + k * 2, none⟩)) (by simp only [List.getElem?_toArray, List.getElem?_cons_succ, List.getElem?_cons_zero]; rfl) (by kernel_rfl) (by kernel_rfl) (by kernel_rfl) (by intro _ _ _ h; exact h) (Or.inl ⟨by rfl, fun w hS => by go_simp⟩) hH ?_
          simp only [Act.put, List.setIfInBounds_toArray, List.set_cons_zero, List.set_cons_succ]
          refine wpAnyH_take (i := 4) (v := .pointer (some ⟨g2, 1, none⟩)) (by simp only [List.getElem?_toArray, List.getElem?_cons_succ, List.getElem?_cons_zero]; rfl) (by kernel_rfl) (by kernel_rfl) (by kernel_rfl) (by intro _ _ _ h; exact h) (Or.inl ⟨by rfl, fun w hS => by go_simp⟩) hH ?_
          simp only [Act.put, List.setIfInBounds_toArray, List.set_cons_zero, List.set_cons_succ]
          refine wpAnyH_take (i := 5) (v := .slice (some ⟨bb, ob, none⟩) ks.length cb) (by simp only [List.getElem?_toArray, List.getElem?_cons_succ, List.getElem?_cons_zero]; rfl) (by kernel_rfl) (by kernel_rfl) (by kernel_rfl) (by intro _ _ _ h; exact h) (Or.inl ⟨by rfl, fun w hS => by (have y0 := cell_kept hS f2; go_simp)⟩) hH ?_
          simp only [Act.put, List.setIfInBounds_toArray, List.set_cons_zero, List.set_cons_succ]
          refine wpAnyH_take (i := 6) (v := .int .i64 (k : Int)) (by simp only [List.getElem?_toArray, List.getElem?_cons_succ, List.getElem?_cons_zero]; rfl) (by kernel_rfl) (by kernel_rfl) (by kernel_rfl) (by intro _ _ _ h; exact h) (Or.inl ⟨by rfl, fun w hS => by go_simp⟩) hH ?_
          simp only [Act.put, List.setIfInBounds_toArray, List.set_cons_zero, List.set_cons_succ]
          refine wpAnyH_take (i := 7) (v := .pointer (some ⟨bb, ob + k * 2, none⟩)) (by simp only [List.getElem?_toArray, List.getElem?_cons_succ, List.getElem?_cons_zero]; rfl) (by kernel_rfl) (by kernel_rfl) (by kernel_rfl) (by intro _ _ _ h; exact h) (Or.inl ⟨by rfl, fun w hS => by go_simp⟩) hH ?_
          simp only [Act.put, List.setIfInBounds_toArray, List.set_cons_zero, List.set_cons_succ]
          refine wpAnyH_ready (rs := [8]) (by kernel_rfl) (by simp) ?_
          refine AllReadyH.cons (by simp only [List.getElem?_toArray, List.getElem?_cons_succ, List.getElem?_cons_zero]; rfl) (fun K hK => ?_) AllReadyH.nil
          go_simp
          refine (l4same _ _ _ _ _ _ _ _ _ _ _ (cell_kept hH q1) (cell_kept hH q2) (cell_kept hH t1) (cell_kept hH t2) (RU.out.below hH) (RV.out.below hH)).mono ?_
          rintro e x8 ⟨rfl, hM⟩
          refine hK.out _ _ (hH.trans (hM.mono hH.size)) (fun hH => ?_)
          clear hK K
          clear hM
          have EB : sm1 ((ks[k]).1, (ks[k]).2) ((ms[k]).1, (ms[k]).2) = sm1 ks[k] ms[k] := rfl
          rw [EB]
          clear EB
          cases hs : sm1 ks[k] ms[k]
          · refine wpAnyH_take (i := 9) (v := .bool true) (by simp only [List.getElem?_toArray, List.getElem?_cons_succ, List.getElem?_cons_zero]; rfl) (by kernel_rfl) (by kernel_rfl) (by kernel_rfl) (by intro _ _ _ h; exact h) (Or.inl ⟨by rfl, fun w hS => by go_simp⟩) hH ?_
            simp only [Act.put, List.setIfInBounds_toArray, List.set_cons_zero, List.set_cons_succ]
            refine wpAnyH_done (by kernel_rfl) ?_ _
            have BB := hid (B2.out.trans (((BL.out.trans (hH.mono BL.out.size))).mono B2.out.size))
            have E2 := hid (show smR p p ks ms = false by rw [E.out]; exact smTo_no ks ms k _ hlt (by rw [TS.out, hs]; simp))
            clear hH
            go_wp2
            go_ret
            exact ⟨congrArg (fun z => Ending.returned (.bool z)) E2.out.symm, BB.out⟩
          · refine wpAnyH_take (i := 9) (v := .bool false) (by simp only [List.getElem?_toArray, List.getElem?_cons_succ, List.getElem?_cons_zero]; rfl) (by kernel_rfl) (by kernel_rfl) (by kernel_rfl) (by intro _ _ _ h; exact h) (Or.inl ⟨by rfl, fun w hS => by go_simp⟩) hH ?_
            simp only [Act.put, List.setIfInBounds_toArray, List.set_cons_zero, List.set_cons_succ]
            refine wpAnyH_done (by kernel_rfl) ?_ _
            have BB := hid (BL.out.trans (hH.mono BL.out.size))
            have T2 := hid (show smTo ks ms (k + 1) = true by rw [TS.out, hs, T.out]; rfl)
            clear hH
            go_wp2
            go_roundw
            case rel => exact ⟨k + 1, hlt, by go_num, T2, BB⟩
            case measure => simp [Go.RowKit.intOf]; omega
        · have hke : k = ks.length := by omega
          subst hke
          have BB := hid (B2.out.trans (BL.out.mono B2.out.size))
          have E2 := hid (show smR p p ks ms = true by rw [E.out]; exact T.out)
          go_wp2
          go_ret
          exact ⟨congrArg (fun z => Ending.returned (.bool z)) E2.out.symm, BB.out⟩
    · have E := hid (show smR p p ks ms = false by simp [smR]; intro h; exact absurd h.symm el)
      have ne : ((ks.length : Int) != (ms.length : Int)) = true := by rw [bne_iff_ne]; omega
      replace el := hid el
      go_enter Try.func36, Try.ntmps36
      go_wp2
      go_ret
      exact ⟨congrArg (fun z => Ending.returned (.bool z)) E.out.symm, below_alloc2 w _ _⟩
  · have E := hid (show smR p q ks ms = false by simp [smR, e])
    have ne : (p != q) = true := by rw [bne_iff_ne]; exact e
    replace e := hid e
    go_enter Try.func36, Try.ntmps36
    go_wp2
    go_ret
    exact ⟨congrArg (fun z => Ending.returned (.bool z)) E.out.symm, below_alloc2 w _ _⟩
end Go.Proofs.Ytbfdbicddmffnab.W

namespace Go.Proofs.Ytbfdbicddmffnab.W
open Go.ChangeShapes Go.WideShapes Go.ChangeAt Go.RowKit
open Go.Proofs.Ytbfdbicddmffnab.M

theorem idx_kr (b o n c j : Nat) (hj : j < n) (w : World) : (Instr.indexAt 36 (.slice (some ⟨b, o, none⟩) n c) (.int .i64 (j : Int))).run Try.prog w = .ok (.pointer (some ⟨b, o + j * 2, none⟩)) w := by
  have hs : ∀ w : World, (sizeOf (Try.prog.elem 36)).run Try.prog w = .ok 2 w := fun _ => by kernel_rfl
  rw [run_indexAt_slice (P := Try.prog) w 36 _ n c .i64 (j : Int) (by kernel_rfl)]
  simp [hs, hj, Result.andThen, Addr.add_lit]
set_option maxRecDepth 100000 in
theorem isk (ia ib : Int) (va vb : Value) (la lb : List Nat) (w : World) (ha : Rd w va la) (hb : Rd w vb lb) :
    Calls Try.prog 95 #[.agg #[.int .i64 ia, va], .agg #[.int .i64 ib, vb]] w fun e w' => e = .returned (.bool (sm1 (ia, la) (ib, lb))) ∧ Below w.heap.size w w' := by
  have RA := hid ha
  have RB := hid hb
  obtain ⟨a, ca, rfl, -, -, -⟩ := ha.parts
  obtain ⟨b, cb, rfl, -, -, -⟩ := hb.parts
  clear ha hb
  by_cases e : ia = ib
  · subst e
    have E := hid (show sm1 (ia, la) (ia, lb) = sameS la lb by simp [sm1])
    go_enter Try.func95, Try.ntmps95
    go_wp2_with fail
    refine (samei _ _ la lb _ (RA.out.below (below_alloc2 w _ _)) (RB.out.below (below_alloc2 w _ _))).mono ?_
    rintro e w' ⟨rfl, rfl⟩
    go_wp2
    go_ret
    exact ⟨congrArg (fun z => Ending.returned (.bool z)) E.out.symm, below_alloc2 w _ _⟩
  · have E := hid (show sm1 (ia, la) (ib, lb) = false by simp [sm1, e])
    have ne : (ia == ib) = false := beq_eq_false_iff_ne.2 e
    replace e := hid e
    go_enter Try.func95, Try.ntmps95
    go_wp2
    go_ret
    exact ⟨congrArg (fun z => Ending.returned (.bool z)) E.out.symm, below_alloc2 w _ _⟩
set_option maxHeartbeats 2000000 in
set_option maxRecDepth 100000 in
theorem eqf (va vb : Value) (ks ms : List (Int × List Nat)) (w : World) (ha : RdK w va ks) (hb : RdK w vb ms) (hl : ks.length ≤ 1048576) :
    Calls Try.prog 94 #[va, vb, .func (.func 95) #[] #[]] w fun e w' => e = .returned (.bool (ks.length == ms.length && smTo ks ms ks.length)) ∧ Below w.heap.size w w' := by
  have HA := hid ha
  have HB := hid hb
  obtain ⟨a, ca, rfl, -, -, -⟩ := ha.parts
  obtain ⟨b, cb, rfl, -, -, -⟩ := hb.parts
  clear ha hb
  by_cases el : ms.length = ks.length
  · have E := hid (show (ks.length == ks.length && smTo ks ms ks.length) = smTo ks ms ks.length by simp)
    rw [el]
    replace el := hid el
    go_enter Try.func94, Try.ntmps94
    go_wp2_with fail
    go_loopw [7, 8, 9, 17] (fun s7 s8 s9 i wr => ∃ k : Nat, ∃ u7 u8 u9 : Value, k ≤ ks.length ∧ i = .int .i64 k ∧ s7 = u7 ∧ s8 = u8 ∧ s9 = u9 ∧ Hid (smTo ks ms k = true) ∧ Hid (Below w.heap.size w wr)) (fun _ _ _ i _ => ks.length - (Go.RowKit.intOf i).toNat)
    case atStart => exact ⟨0, _, _, _, by omega, rfl, rfl, rfl, rfl, hid (by simp [smTo]), hid (Below.refl _ _)⟩
    case round =>
      obtain ⟨k, v7, v8, v9, hk, rfl, rfl, rfl, rfl, T, BL⟩ := hrel
      by_cases hlt : k < ks.length
      · obtain ⟨a', ca', e, -, -, hcs⟩ := (HA.out.below BL.out).parts
        cases e
        obtain ⟨ba, oa, ua, rfl, q1, q2, q3⟩ := hcs k hlt
        obtain ⟨pu, cu, rfl, -, -, -⟩ := q3.parts
        have hlm : k < ms.length := by rw [el.out]; exact hlt
        obtain ⟨b', cb', e, -, -, hcs'⟩ := (HB.out.below BL.out).parts
        rw [el.out] at e
        cases e
        obtain ⟨bb, ob, ub, rfl, t1, t2, t3⟩ := hcs' k hlm
        obtain ⟨pv, cv, rfl, -, -, -⟩ := t3.parts
        have RU := hid q3
        have RV := hid t3
        have TS := hid (smTo_succ ks ms k hlt hlm)
        have I1 := idx_kr ba oa ks.length ca k hlt
        have I2 := idx_kr bb ob ks.length cb k hlt
        have k0 : (0 : Int) ≤ (k : Int) := by omega
        have k1 : (k : Int) < (ks.length : Int) := by omega
        have T1 := fun x => cell_alloc t1 x
        have T2 := fun x => cell_alloc t2 x
        clear q3 hcs t3 hcs'
        go_wp2_with fail
        refine (isk _ _ _ _ _ _ _ (RU.out.below (below_alloc2 wr _ _)) (RV.out.below (below_alloc2 wr _ _))).mono ?_
        rintro e w' ⟨rfl, hB⟩
        have BB := hid (BL.out.trans (((below_alloc2 wr _ _).trans (hB.mono (by simp; omega))).mono BL.out.size))
        have EB : sm1 ((ks[k]).1, (ks[k]).2) ((ms[k]).1, (ms[k]).2) = sm1 ks[k] ms[k] := rfl
        rw [EB]
        clear EB hB t1 t2 q1 q2 T1 T2
        cases hs : sm1 ks[k] ms[k]
        · have E2 := hid (show (ks.length == ks.length && smTo ks ms ks.length) = false by rw [E.out]; exact smTo_no ks ms k _ hlt (by rw [TS.out, hs]; simp))
          go_wp2
          go_ret
          exact ⟨congrArg (fun z => Ending.returned (.bool z)) E2.out.symm, BB.out⟩
        · have T2 := hid (show smTo ks ms (k + 1) = true by rw [TS.out, hs, T.out]; rfl)
          go_wp2
          go_roundw
          case rel => exact ⟨k + 1, _, _, _, hlt, by go_num, rfl, rfl, rfl, T2, BB⟩
          case measure => simp [Go.RowKit.intOf]; omega
      · have hke : k = ks.length := by omega
        subst hke
        have E2 := hid (show (ks.length == ks.length && smTo ks ms ks.length) = true by rw [E.out]; exact T.out)
        go_wp2
        go_ret
        exact ⟨congrArg (fun z => Ending.returned (.bool z)) E2.out.symm, BL.out⟩
  · have E := hid (show (ks.length == ms.length && smTo ks ms ks.length) = false by rw [beq_eq_false_iff_ne.2 (fun h => el h.symm)]; rfl)
    have ne : ((ks.length : Int) != (ms.length : Int)) = true := by rw [bne_iff_ne]; omega
    replace el := hid el
    go_enter Try.func94, Try.ntmps94
    go_wp2
    go_ret
    exact ⟨congrArg (fun z => Ending.returned (.bool z)) E.out.symm, Below.refl _ _⟩
set_option maxRecDepth 100000 in
theorem isr (p q : Int) (va vb : Value) (ks ms : List (Int × List Nat)) (w : World) (ha : RdK w va ks) (hb : RdK w vb ms) (hl : ks.length ≤ 1048576) :
    Calls Try.prog 35 #[.agg #[.int .i64 p, va], .agg #[.int .i64 q, vb]] w fun e w' => e = .returned (.bool (smR p q ks ms)) ∧ Below w.heap.size w w' := by
  have HA := hid ha
  have HB := hid hb
  obtain ⟨a, ca, rfl, -, -, -⟩ := ha.parts
  obtain ⟨b, cb, rfl, -, -, -⟩ := hb.parts
  clear ha hb
  by_cases e : p = q
  · subst e
    go_enter Try.func35, Try.ntmps35
    go_wp2_with fail
    refine (eqf _ _ ks ms _ (HA.out.below (below_alloc2 w _ _)) (HB.out.below (below_alloc2 w _ _)) hl).mono ?_
    rintro e w' ⟨rfl, hB⟩
    have BB := hid ((below_alloc2 w _ _).trans (hB.mono (by simp; omega)))
    have E := hid (show smR p p ks ms = (ks.length == ms.length && smTo ks ms ks.length) by simp [smR])
    clear hB
    generalize (ks.length == ms.length && smTo ks ms ks.length) = t at *
    go_wp2
    go_ret
    exact ⟨congrArg (fun z => Ending.returned (.bool z)) E.out.symm, BB.out⟩
  · have E := hid (show smR p q ks ms = false by simp [smR, e])
    have ne : (p == q) = false := beq_eq_false_iff_ne.2 e
    replace e := hid e
    go_enter Try.func35, Try.ntmps35
    go_wp2
    go_ret
    exact ⟨congrArg (fun z => Ending.returned (.bool z)) E.out.symm, below_alloc2 w _ _⟩
end Go.Proofs.Ytbfdbicddmffnab.W

namespace Go.Proofs.Ytbfdbicddmffnab.W
open Go.ChangeShapes Go.WideShapes Go.ChangeAt Go.RowKit
open Go.Proofs.Ytbfdbicddmffnab.M

theorem ret_irf {a b : Int} (h : a = b) : Ending.returned (.int .i64 a) = .returned (.int .i64 b) := by rw [h]
set_option maxRecDepth 100000 in
theorem irf (p : Int) (v : Value) (ks : List (Int × List Nat)) (w : World) (h : RdK w v ks) (hp : (Lit.int .i64 p).wf = true) :
    Calls Try.prog 33 #[.agg #[.int .i64 p, v]] w fun e w' => e = .returned (.int .i64 (rF p ks)) ∧ Below w.heap.size w w' := by
  have H := hid h
  obtain ⟨a, cap, rfl, -, -, -⟩ := h.parts
  clear h
  go_enter Try.func33, Try.ntmps33
  go_wp2_with fail
  first
  | refine (ikr _ _ ks _ H.out hp).mono ?_
  | refine (ikr _ _ ks _ (H.out.below (below_alloc1 w _)) hp).mono ?_
  rintro e w' ⟨r, rfl, hB⟩
  first
  | have BB := hid (show Below w.heap.size w w' from hB)
  | have BB := hid (show Below w.heap.size w w' from (below_alloc1 w _).trans (hB.mono (by simp)))
  clear hB
  obtain ⟨x, hx⟩ : ∃ x, x = rF p ks := ⟨_, rfl⟩
  rw [← hx]
  replace hx := hid hx
  go_wp2
  go_ret
  exact ⟨ret_irf hx.out, BB.out⟩

end Go.Proofs.Ytbfdbicddmffnab.W

namespace Go.Proofs.Ytbfdbicddmffnab.M
open Go.RowKit

theorem var3_facts {w' : World} {g : Nat} {x y z : Value} {T : TypeId} (h : w'.heap[g]? = some (.cells #[x, y, z] T)) :
    (w'.cell? ⟨g, 0, none⟩ = some x ∧ w'.cell? ⟨g, 1, none⟩ = some y ∧ w'.cell? ⟨g, 2, none⟩ = some z) ∧ w'.frozen? ⟨g, 0, none⟩ = false ∧ w'.frozen? ⟨g, 1, none⟩ = false ∧ w'.frozen? ⟨g, 2, none⟩ = false :=
  ⟨⟨by rw [cell_of_row w' g 0 _ _ _ h]; rfl, by rw [cell_of_row w' g 1 _ _ _ h]; rfl, by rw [cell_of_row w' g 2 _ _ _ h]; rfl⟩, frozen_of_row w' g 0 _ T h, frozen_of_row w' g 1 _ T h, frozen_of_row w' g 2 _ T h⟩
end Go.Proofs.Ytbfdbicddmffnab.M

namespace Go.Proofs.Ytbfdbicddmffnab.W
open Go.ChangeShapes Go.WideShapes Go.ChangeAt Go.RowKit
open Go.Proofs.Ytbfdbicddmffnab.M

theorem fldR0 (c d : Int) (a : Option Addr) (n k : Nat) (w : World) : (Instr.field 44 (.agg #[.int .i64 c, .int .i64 d, .slice a n k]) 0).run Try.prog w = .ok (.int .i64 c) w := by kernel_rfl
theorem fldR1 (c d : Int) (a : Option Addr) (n k : Nat) (w : World) : (Instr.field 44 (.agg #[.int .i64 c, .int .i64 d, .slice a n k]) 1).run Try.prog w = .ok (.agg #[.int .i64 d, .slice a n k]) w := by kernel_rfl
theorem litR {x : Int} (h : 0 ≤ x ∧ x ≤ 300) : (Lit.int .i64 x).wf = true := by
  simp only [Lit.wf, decide_eq_true_eq, Bool.and_eq_true]
  have h1 : IntKind.i64.min = -9223372036854775808 := by decide
  have h2 : IntKind.i64.max = 9223372036854775807 := by decide
  omega
theorem rF_rng {p : Int} {t : List (Int × List Nat)} (h : rF p t = 0) : 0 ≤ p ∧ p ≤ 300 := by
  obtain ⟨-, -, k, -, i, hi, e⟩ := rF_parts h
  have := (k i hi).1
  omega
set_option maxHeartbeats 16000000 in
set_option maxRecDepth 100000 in
theorem law_tr (v : Value) (l : List Nat) (w : World) (h : Rd w v l) (y : Byt l) :
    Calls Try.prog 6 #[v] w fun e w' => e = .returned (.bool true) ∧ Below w.heap.size w w' := by
  have RC := hid h
  obtain ⟨q, cap, rfl, _, _, _⟩ := h.parts
  clear h
  by_cases hl : l.length ≤ 1048576
  case neg =>
    go_enter Try.func6, Try.ntmps6
    go_wp2_with (go_at_call 8; go_in)
    go_ret
    exact ⟨rfl, Below.refl _ _⟩
  go_enter Try.func6, Try.ntmps6
  go_wp2_with (go_at_call 8; go_in)
  refine (drNr _ l _ RC.out y hl).mono ?_
  rintro e w1 ⟨id0, u, bs, rfl, hU, hi, -, -, hB⟩
  obtain ⟨pb, cb, rfl, -, -, -⟩ := hU.parts
  replace RC := hid (RC.out.below hB)
  have BB := hid hB
  have HU := hid hU
  have W0 := hid (litR hi)
  clear hB hU hi
  have VK := hid (heap_alloc_new w1 (.cells #[.int .i64 id0, .slice pb bs.length cb] 40))
  have hA := below_alloc1 w1 (.cells #[.int .i64 id0, .slice pb bs.length cb] 40)
  replace RC := hid (RC.out.below hA)
  replace HU := hid (HU.out.below hA)
  replace BB := hid (BB.out.trans (hA.mono BB.out.size))
  clear hA
  obtain ⟨k_0, k_1, -, -⟩ := var2_facts VK.out
  go_wp2_with fail
  generalize w1.alloc (.cells #[.int .i64 id0, .slice pb bs.length cb] 40) = w2 at *
  obtain ⟨gk, hg⟩ : ∃ g, g = w1.heap.size := ⟨_, rfl⟩
  rw [← hg] at VK ⊢
  clear hg
  clear k_0 k_1
  obtain ⟨c, rk, lr, hF⟩ := nr_some id0 bs
  have TF := hid hF
  clear hF
  refine (inr id0 _ bs c rk lr _ HU.out W0.out TF.out).mono ?_
  rintro e w3 ⟨u, rfl, hO, hB⟩
  obtain ⟨pl, cl, rfl, -, -, -⟩ := hO.rd.parts
  replace RC := hid (RC.out.below hB)
  replace HU := hid (HU.out.below hB)
  replace VK := hid (var_below hB VK.out)
  replace BB := hid (BB.out.trans (hB.mono BB.out.size))
  clear hB
  have HLR := hid hO.rd
  clear hO
  have VT := hid (heap_alloc_new w3 (.cells #[.int .i64 c, .int .i64 rk, .slice pl lr.length cl] 44))
  have hA := below_alloc1 w3 (.cells #[.int .i64 c, .int .i64 rk, .slice pl lr.length cl] 44)
  replace RC := hid (RC.out.below hA)
  replace HU := hid (HU.out.below hA)
  replace HLR := hid (HLR.out.below hA)
  replace VK := hid (var_below hA VK.out)
  replace BB := hid (BB.out.trans (hA.mono BB.out.size))
  clear hA
  go_wp2_with fail
  generalize w3.alloc (.cells #[.int .i64 c, .int .i64 rk, .slice pl lr.length cl] 44) = w4 at *
  obtain ⟨gt, hg⟩ : ∃ g, g = w3.heap.size := ⟨_, rfl⟩
  rw [← hg] at VT ⊢
  clear hg
  refine (drTr _ l _ RC.out y hl).mono ?_
  rintro e w5 ⟨pr, op, id2, u, ub, ks, ds, rfl, hV, hZ, hKB, hpr, -, hi2, hd, hB⟩
  obtain ⟨pu, cu, rfl, -, -, -⟩ := hV.parts
  obtain ⟨pd, cd, rfl, -, -, -⟩ := hZ.parts
  replace RC := hid (RC.out.below hB)
  replace HU := hid (HU.out.below hB)
  replace HLR := hid (HLR.out.below hB)
  replace VK := hid (var_below hB VK.out)
  replace VT := hid (var_below hB VT.out)
  replace BB := hid (BB.out.trans (hB.mono BB.out.size))
  clear hB
  have HV := hid hV
  have HZ := hid hZ
  have WV := hid (And.intro (litR hpr) (litR hi2))
  clear hV hZ hKB hpr hi2 hd
  have VW := hid (heap_alloc2_old w5 (.cells #[.int .i64 pr, .slice pu ks.length cu] 38) (.cells #[.int .i64 id2, .slice pd ds.length cd] 40))
  have VX := hid (heap_alloc2_new w5 (.cells #[.int .i64 pr, .slice pu ks.length cu] 38) (.cells #[.int .i64 id2, .slice pd ds.length cd] 40))
  have hA := below_alloc2 w5 (.cells #[.int .i64 pr, .slice pu ks.length cu] 38) (.cells #[.int .i64 id2, .slice pd ds.length cd] 40)
  replace RC := hid (RC.out.below hA)
  replace HU := hid (HU.out.below hA)
  replace HLR := hid (HLR.out.below hA)
  replace HV := hid (HV.out.below hA)
  replace HZ := hid (HZ.out.below hA)
  replace VK := hid (var_below hA VK.out)
  replace VT := hid (var_below hA VT.out)
  replace BB := hid (BB.out.trans (hA.mono BB.out.size))
  clear hA
  obtain ⟨a_0, a_1, -, -⟩ := var2_facts VW.out
  obtain ⟨x_0, x_1, -, -⟩ := var2_facts VX.out
  go_wp2_with fail
  generalize (w5.alloc (.cells #[.int .i64 pr, .slice pu ks.length cu] 38)).alloc (.cells #[.int .i64 id2, .slice pd ds.length cd] 40) = w6 at *
  obtain ⟨gx, hg2⟩ : ∃ g, g = w5.heap.size + 1 := ⟨_, rfl⟩
  rw [← hg2] at VX ⊢
  obtain ⟨gw, hg1⟩ : ∃ g, g = w5.heap.size := ⟨_, rfl⟩
  rw [← hg1] at VW ⊢
  clear hg1 hg2
  clear a_0 a_1 x_0 x_1
  obtain ⟨ca, ra, la, hF⟩ := tr_some pr op id2 ks ds
  have AF := hid hF
  clear hF
  refine (itn pr op id2 ca ra _ _ ks la ds _ HV.out HZ.out WV.out.1 WV.out.2 AF.out).mono ?_
  rintro e w7 ⟨u, rfl, hO, hB⟩
  obtain ⟨pa, ka, rfl, -, -, -⟩ := hO.rd.parts
  replace RC := hid (RC.out.below hB)
  replace HU := hid (HU.out.below hB)
  replace HLR := hid (HLR.out.below hB)
  replace HV := hid (HV.out.below hB)
  replace HZ := hid (HZ.out.below hB)
  replace VK := hid (var_below hB VK.out)
  replace VT := hid (var_below hB VT.out)
  replace VW := hid (var_below hB VW.out)
  replace VX := hid (var_below hB VX.out)
  replace BB := hid (BB.out.trans (hB.mono BB.out.size))
  clear hB
  have HLA := hid hO.rd
  clear hO
  have VA := hid (heap_alloc_new w7 (.cells #[.int .i64 ca, .int .i64 ra, .slice pa la.length ka] 44))
  have hA := below_alloc1 w7 (.cells #[.int .i64 ca, .int .i64 ra, .slice pa la.length ka] 44)
  replace RC := hid (RC.out.below hA)
  replace HU := hid (HU.out.below hA)
  replace HLR := hid (HLR.out.below hA)
  replace HV := hid (HV.out.below hA)
  replace HZ := hid (HZ.out.below hA)
  replace HLA := hid (HLA.out.below hA)
  replace VK := hid (var_below hA VK.out)
  replace VT := hid (var_below hA VT.out)
  replace VW := hid (var_below hA VW.out)
  replace VX := hid (var_below hA VX.out)
  replace BB := hid (BB.out.trans (hA.mono BB.out.size))
  clear hA
  go_wp2_with fail
  generalize w7.alloc (.cells #[.int .i64 ca, .int .i64 ra, .slice pa la.length ka] 44) = w8 at *
  obtain ⟨ga, hg⟩ : ∃ g, g = w7.heap.size := ⟨_, rfl⟩
  rw [← hg] at VA ⊢
  clear hg
  refine (drSr _ l _ RC.out y hl).mono ?_
  rintro e w9 ⟨wp, wq, ua, ub, ps, qs, rfl, hP, hQ, hpl, hB⟩
  obtain ⟨pp, cp, rfl, -, -, -⟩ := hP.parts
  obtain ⟨pq, cq, rfl, -, -, -⟩ := hQ.parts
  replace RC := hid (RC.out.below hB)
  replace HU := hid (HU.out.below hB)
  replace HLR := hid (HLR.out.below hB)
  replace HV := hid (HV.out.below hB)
  replace HZ := hid (HZ.out.below hB)
  replace HLA := hid (HLA.out.below hB)
  replace VK := hid (var_below hB VK.out)
  replace VT := hid (var_below hB VT.out)
  replace VW := hid (var_below hB VW.out)
  replace VX := hid (var_below hB VX.out)
  replace VA := hid (var_below hB VA.out)
  replace BB := hid (BB.out.trans (hB.mono BB.out.size))
  clear hB
  have HP := hid hP
  have HQ := hid hQ
  have PL := hid (show ps.length ≤ 1048576 by omega)
  clear hP hQ hpl RC
  have VP := hid (heap_alloc2_old w9 (.cells #[.int .i64 wp, .slice pp ps.length cp] 38) (.cells #[.int .i64 wq, .slice pq qs.length cq] 38))
  have VQ := hid (heap_alloc2_new w9 (.cells #[.int .i64 wp, .slice pp ps.length cp] 38) (.cells #[.int .i64 wq, .slice pq qs.length cq] 38))
  have hA := below_alloc2 w9 (.cells #[.int .i64 wp, .slice pp ps.length cp] 38) (.cells #[.int .i64 wq, .slice pq qs.length cq] 38)
  replace HU := hid (HU.out.below hA)
  replace HLR := hid (HLR.out.below hA)
  replace HV := hid (HV.out.below hA)
  replace HZ := hid (HZ.out.below hA)
  replace HLA := hid (HLA.out.below hA)
  replace HP := hid (HP.out.below hA)
  replace HQ := hid (HQ.out.below hA)
  replace VK := hid (var_below hA VK.out)
  replace VT := hid (var_below hA VT.out)
  replace VW := hid (var_below hA VW.out)
  replace VX := hid (var_below hA VX.out)
  replace VA := hid (var_below hA VA.out)
  replace BB := hid (BB.out.trans (hA.mono BB.out.size))
  clear hA
  go_upto_region 8 with fail
  generalize (w9.alloc (.cells #[.int .i64 wp, .slice pp ps.length cp] 38)).alloc (.cells #[.int .i64 wq, .slice pq qs.length cq] 38) = w10 at *
  obtain ⟨gq, hg2⟩ : ∃ g, g = w9.heap.size + 1 := ⟨_, rfl⟩
  rw [← hg2] at VQ ⊢
  obtain ⟨gp, hg1⟩ : ∃ g, g = w9.heap.size := ⟨_, rfl⟩
  rw [← hg1] at VP ⊢
  clear hg1 hg2
  obtain ⟨E, hE⟩ : ∃ E, E = smR wp wq ps qs := ⟨_, rfl⟩
  have EE := hid hE.symm
  clear hE
  obtain ⟨k_0, k_1, -, -⟩ := var2_facts VK.out
  obtain ⟨⟨t_0, t_1, t_2⟩, -⟩ := var3_facts VT.out
  obtain ⟨a_0, a_1, -, -⟩ := var2_facts VW.out
  obtain ⟨x_0, x_1, -, -⟩ := var2_facts VX.out
  obtain ⟨⟨b_0, b_1, b_2⟩, -⟩ := var3_facts VA.out
  obtain ⟨v_0, v_1, -, -⟩ := var2_facts VP.out
  obtain ⟨u_0, u_1, -, -⟩ := var2_facts VQ.out
  refine wp_region_held_drew (S := fun w' => Below w10.heap.size w10 w') (by kernel_rfl) (Below.refl _ _).drew (fun hH => ?_)
  generalize w10.drew = y0 at hH ⊢
  refine wpAnyH_take (i := 0) (v := .pointer (some ⟨gt, 0, none⟩)) (by simp only [List.getElem?_toArray, List.getElem?_cons_zero]; rfl) (by kernel_rfl) (by kernel_rfl) (by kernel_rfl) (by intro _ _ _ h; exact h) (Or.inl ⟨by rfl, fun w hS => by go_simp⟩) hH ?_
  simp only [Act.put, List.setIfInBounds_toArray, List.set_cons_zero, List.set_cons_succ]
  refine wpAnyH_take (i := 1) (v := .int .i64 c) (by simp only [List.getElem?_toArray, List.getElem?_cons_succ, List.getElem?_cons_zero]; rfl) (by kernel_rfl) (by kernel_rfl) (by kernel_rfl) (by intro _ _ _ h; exact h) (Or.inl ⟨by rfl, fun w hS => by (have y0 := cell_kept hS t_0; go_simp)⟩) hH ?_
  simp only [Act.put, List.setIfInBounds_toArray, List.set_cons_zero, List.set_cons_succ]
  refine wpAnyH_take (i := 2) (v := .agg #[.int .i64 id0, .slice pb bs.length cb]) (by simp only [List.getElem?_toArray, List.getElem?_cons_succ, List.getElem?_cons_zero]; rfl) (by kernel_rfl) (by kernel_rfl) (by kernel_rfl) (by intro _ _ _ h; exact h) (Or.inl ⟨by rfl, fun w hS => by (have y0 := cell_kept hS k_0; have y1 := cell_kept hS k_1; go_simp)⟩) hH ?_
  simp only [Act.put, List.setIfInBounds_toArray, List.set_cons_zero, List.set_cons_succ]
  refine wpAnyH_ready (rs := [3]) (by kernel_rfl) (by simp) ?_
  refine AllReadyH.cons (by simp only [List.getElem?_toArray, List.getElem?_cons_succ, List.getElem?_cons_zero]; rfl) (fun K hK => ?_) AllReadyH.nil
  go_simp
  refine (snr id0 _ bs c rk lr _ (HU.out.below hH) TF.out).mono ?_
  rintro e x3 ⟨ux, rfl, hX, hM⟩
  obtain ⟨p1, k1, rfl, -, -, -⟩ := hX.parts
  clear hX
  refine hK.out _ _ (hH.trans (hM.mono hH.size)) (fun hH => ?_)
  clear hK K hM
  refine wpAnyH_take (i := 4) (v := .int .i64 c) (by simp only [List.getElem?_toArray, List.getElem?_cons_succ, List.getElem?_cons_zero]; rfl) (by kernel_rfl) (by kernel_rfl) (by kernel_rfl) (by intro _ _ _ h; exact h) (Or.inl ⟨by rfl, fun w hS => by (have hf := fldR0 c rk p1 lr.length k1; go_simp)⟩) hH ?_
  simp only [Act.put, List.setIfInBounds_toArray, List.set_cons_zero, List.set_cons_succ]
  refine wpAnyH_take (i := 5) (v := .bool false) (by simp only [List.getElem?_toArray, List.getElem?_cons_succ, List.getElem?_cons_zero]; rfl) (by kernel_rfl) (by kernel_rfl) (by kernel_rfl) (by intro _ _ _ h; exact h) (Or.inl ⟨by rfl, fun w hS => by go_simp⟩) hH ?_
  simp only [Act.put, List.setIfInBounds_toArray, List.set_cons_zero, List.set_cons_succ]
  refine wpAnyH_take (i := 6) (v := .bool false) (by simp only [List.getElem?_toArray, List.getElem?_cons_succ, List.getElem?_cons_zero]; rfl) (by kernel_rfl) (by kernel_rfl) (by kernel_rfl) (by intro _ _ _ h; exact h) (Or.inl ⟨by rfl, fun w hS => by go_simp⟩) hH ?_
  simp only [Act.put, List.setIfInBounds_toArray, List.set_cons_zero, List.set_cons_succ]
  refine wpAnyH_take (i := 7) (v := .pointer (some ⟨ga, 0, none⟩)) (by simp only [List.getElem?_toArray, List.getElem?_cons_succ, List.getElem?_cons_zero]; rfl) (by kernel_rfl) (by kernel_rfl) (by kernel_rfl) (by intro _ _ _ h; exact h) (Or.inl ⟨by rfl, fun w hS => by go_simp⟩) hH ?_
  simp only [Act.put, List.setIfInBounds_toArray, List.set_cons_zero, List.set_cons_succ]
  refine wpAnyH_take (i := 8) (v := .int .i64 ca) (by simp only [List.getElem?_toArray, List.getElem?_cons_succ, List.getElem?_cons_zero]; rfl) (by kernel_rfl) (by kernel_rfl) (by kernel_rfl) (by intro _ _ _ h; exact h) (Or.inl ⟨by rfl, fun w hS => by (have y0 := cell_kept hS b_0; go_simp)⟩) hH ?_
  simp only [Act.put, List.setIfInBounds_toArray, List.set_cons_zero, List.set_cons_succ]
  refine wpAnyH_take (i := 9) (v := .agg #[.int .i64 pr, .slice pu ks.length cu]) (by simp only [List.getElem?_toArray, List.getElem?_cons_succ, List.getElem?_cons_zero]; rfl) (by kernel_rfl) (by kernel_rfl) (by kernel_rfl) (by intro _ _ _ h; exact h) (Or.inl ⟨by rfl, fun w hS => by (have y0 := cell_kept hS a_0; have y1 := cell_kept hS a_1; go_simp)⟩) hH ?_
  simp only [Act.put, List.setIfInBounds_toArray, List.set_cons_zero, List.set_cons_succ]
  refine wpAnyH_take (i := 10) (v := .int .i64 op) (by simp only [List.getElem?_toArray, List.getElem?_cons_succ, List.getElem?_cons_zero]; rfl) (by kernel_rfl) (by kernel_rfl) (by kernel_rfl) (by intro _ _ _ h; exact h) (Or.inl ⟨by rfl, fun w hS => by go_simp⟩) hH ?_
  simp only [Act.put, List.setIfInBounds_toArray, List.set_cons_zero, List.set_cons_succ]
  refine wpAnyH_take (i := 11) (v := .agg #[.int .i64 id2, .slice pd ds.length cd]) (by simp only [List.getElem?_toArray, List.getElem?_cons_succ, List.getElem?_cons_zero]; rfl) (by kernel_rfl) (by kernel_rfl) (by kernel_rfl) (by intro _ _ _ h; exact h) (Or.inl ⟨by rfl, fun w hS => by (have y0 := cell_kept hS x_0; have y1 := cell_kept hS x_1; go_simp)⟩) hH ?_
  simp only [Act.put, List.setIfInBounds_toArray, List.set_cons_zero, List.set_cons_succ]
  refine wpAnyH_ready (rs := [12]) (by kernel_rfl) (by simp) ?_
  refine AllReadyH.cons (by simp only [List.getElem?_toArray, List.getElem?_cons_succ, List.getElem?_cons_zero]; rfl) (fun K hK => ?_) AllReadyH.nil
  go_simp
  refine (stn pr op id2 ca ra _ _ ks la ds _ (HV.out.below hH) (HZ.out.below hH) AF.out).mono ?_
  rintro e x12 ⟨ux, rfl, hX, hM⟩
  obtain ⟨p2, k2, rfl, -, -, -⟩ := hX.rd.parts
  clear hX
  refine hK.out _ _ (hH.trans (hM.mono hH.size)) (fun hH => ?_)
  clear hK K hM
  refine wpAnyH_take (i := 13) (v := .int .i64 ca) (by simp only [List.getElem?_toArray, List.getElem?_cons_succ, List.getElem?_cons_zero]; rfl) (by kernel_rfl) (by kernel_rfl) (by kernel_rfl) (by intro _ _ _ h; exact h) (Or.inl ⟨by rfl, fun w hS => by (have hf := fldR0 ca ra p2 la.length k2; go_simp)⟩) hH ?_
  simp only [Act.put, List.setIfInBounds_toArray, List.set_cons_zero, List.set_cons_succ]
  refine wpAnyH_take (i := 14) (v := .bool false) (by simp only [List.getElem?_toArray, List.getElem?_cons_succ, List.getElem?_cons_zero]; rfl) (by kernel_rfl) (by kernel_rfl) (by kernel_rfl) (by intro _ _ _ h; exact h) (Or.inl ⟨by rfl, fun w hS => by go_simp⟩) hH ?_
  simp only [Act.put, List.setIfInBounds_toArray, List.set_cons_zero, List.set_cons_succ]
  refine wpAnyH_take (i := 15) (v := .bool false) (by simp only [List.getElem?_toArray, List.getElem?_cons_succ, List.getElem?_cons_zero]; rfl) (by kernel_rfl) (by kernel_rfl) (by kernel_rfl) (by intro _ _ _ h; exact h) (Or.inl ⟨by rfl, fun w hS => by go_simp⟩) hH ?_
  simp only [Act.put, List.setIfInBounds_toArray, List.set_cons_zero, List.set_cons_succ]
  refine wpAnyH_take (i := 16) (v := .bool false) (by simp only [List.getElem?_toArray, List.getElem?_cons_succ, List.getElem?_cons_zero]; rfl) (by kernel_rfl) (by kernel_rfl) (by kernel_rfl) (by intro _ _ _ h; exact h) (Or.inl ⟨by rfl, fun w hS => by go_simp⟩) hH ?_
  simp only [Act.put, List.setIfInBounds_toArray, List.set_cons_zero, List.set_cons_succ]
  refine wpAnyH_take (i := 17) (v := .agg #[.int .i64 wp, .slice pp ps.length cp]) (by simp only [List.getElem?_toArray, List.getElem?_cons_succ, List.getElem?_cons_zero]; rfl) (by kernel_rfl) (by kernel_rfl) (by kernel_rfl) (by intro _ _ _ h; exact h) (Or.inl ⟨by rfl, fun w hS => by (have y0 := cell_kept hS v_0; have y1 := cell_kept hS v_1; go_simp)⟩) hH ?_
  simp only [Act.put, List.setIfInBounds_toArray, List.set_cons_zero, List.set_cons_succ]
  refine wpAnyH_take (i := 18) (v := .agg #[.int .i64 wq, .slice pq qs.length cq]) (by simp only [List.getElem?_toArray, List.getElem?_cons_succ, List.getElem?_cons_zero]; rfl) (by kernel_rfl) (by kernel_rfl) (by kernel_rfl) (by intro _ _ _ h; exact h) (Or.inl ⟨by rfl, fun w hS => by (have y0 := cell_kept hS u_0; have y1 := cell_kept hS u_1; go_simp)⟩) hH ?_
  simp only [Act.put, List.setIfInBounds_toArray, List.set_cons_zero, List.set_cons_succ]
  refine wpAnyH_take (i := 20) (v := .agg #[.int .i64 wp, .slice pp ps.length cp]) (by simp only [List.getElem?_toArray, List.getElem?_cons_succ, List.getElem?_cons_zero]; rfl) (by kernel_rfl) (by kernel_rfl) (by kernel_rfl) (by intro _ _ _ h; exact h) (Or.inl ⟨by rfl, fun w hS => by (have y0 := cell_kept hS v_0; have y1 := cell_kept hS v_1; go_simp)⟩) hH ?_
  simp only [Act.put, List.setIfInBounds_toArray, List.set_cons_zero, List.set_cons_succ]
  refine wpAnyH_take (i := 21) (v := .agg #[.int .i64 wq, .slice pq qs.length cq]) (by simp only [List.getElem?_toArray, List.getElem?_cons_succ, List.getElem?_cons_zero]; rfl) (by kernel_rfl) (by kernel_rfl) (by kernel_rfl) (by intro _ _ _ h; exact h) (Or.inl ⟨by rfl, fun w hS => by (have y0 := cell_kept hS u_0; have y1 := cell_kept hS u_1; go_simp)⟩) hH ?_
  simp only [Act.put, List.setIfInBounds_toArray, List.set_cons_zero, List.set_cons_succ]
  refine wpAnyH_ready (rs := [19]) (by kernel_rfl) (by simp) ?_
  refine AllReadyH.cons (by simp only [List.getElem?_toArray, List.getElem?_cons_succ, List.getElem?_cons_zero]; rfl) (fun K hK => ?_) AllReadyH.nil
  go_simp
  refine (isr wp wq _ _ ps qs _ (HP.out.below hH) (HQ.out.below hH) PL.out).mono ?_
  rintro e x19 ⟨rfl, hM⟩
  rw [EE.out]
  refine hK.out _ _ (hH.trans (hM.mono hH.size)) (fun hH => ?_)
  clear hK K hM
  refine wpAnyH_ready (rs := [22]) (by kernel_rfl) (by simp) ?_
  refine AllReadyH.cons (by simp only [List.getElem?_toArray, List.getElem?_cons_succ, List.getElem?_cons_zero]; rfl) (fun K hK => ?_) AllReadyH.nil
  go_simp
  refine (ssr wp wq _ _ ps qs _ (HP.out.below hH) (HQ.out.below hH) PL.out).mono ?_
  rintro e x22 ⟨rfl, hM⟩
  rw [EE.out]
  refine hK.out _ _ (hH.trans (hM.mono hH.size)) (fun hH => ?_)
  clear hK K hM
  refine wpAnyH_take (i := 23) (v := .bool false) (by simp only [List.getElem?_toArray, List.getElem?_cons_succ, List.getElem?_cons_zero]; rfl) (by kernel_rfl) (by kernel_rfl) (by kernel_rfl) (by intro _ _ _ h; exact h) (Or.inl ⟨by rfl, fun w hS => by (cases E <;> go_simp)⟩) hH ?_
  simp only [Act.put, List.setIfInBounds_toArray, List.set_cons_zero, List.set_cons_succ]
  refine wpAnyH_take (i := 24) (v := .bool false) (by simp only [List.getElem?_toArray, List.getElem?_cons_succ, List.getElem?_cons_zero]; rfl) (by kernel_rfl) (by kernel_rfl) (by kernel_rfl) (by intro _ _ _ h; exact h) (Or.inl ⟨by rfl, fun w hS => by go_simp⟩) hH ?_
  simp only [Act.put, List.setIfInBounds_toArray, List.set_cons_zero, List.set_cons_succ]
  refine wpAnyH_done (by kernel_rfl) ?_ _
  have hB := hH
  clear hH k_0 k_1 t_0 t_1 t_2 a_0 a_1 x_0 x_1 b_0 b_1 b_2 v_0 v_1 u_0 u_1
  replace HLR := hid (HLR.out.below hB)
  replace HV := hid (HV.out.below hB)
  replace HZ := hid (HZ.out.below hB)
  replace HLA := hid (HLA.out.below hB)
  replace VK := hid (var_below hB VK.out)
  replace VT := hid (var_below hB VT.out)
  replace VW := hid (var_below hB VW.out)
  replace VX := hid (var_below hB VX.out)
  replace VA := hid (var_below hB VA.out)
  replace BB := hid (BB.out.trans (hB.mono BB.out.size))
  clear hB
  generalize x22 = w11 at *
  clear HU HP HQ VP VQ EE PL
  by_cases c0 : c = 0
  case neg =>
    have n0 : (c == 0) = false := by simpa using c0
    obtain ⟨⟨t_0, t_1, t_2⟩, -⟩ := var3_facts VT.out
    obtain ⟨k_0, k_1, -, -⟩ := var2_facts VK.out
    go_upto_region 12 with fail
    clear t_0 t_1 t_2 k_0 k_1
    by_cases d0 : ca = 0
    case neg =>
      have nz : (ca != 0) = true := by rw [bne_iff_ne]; exact d0
      obtain ⟨⟨b_0, b_1, b_2⟩, -⟩ := var3_facts VA.out
      go_upto_region 12 with fail
      refine wp_region_held_drew (S := fun w' => Below w11.heap.size w11 w') (by kernel_rfl) (Below.refl _ _).drew (fun hH => ?_)
      generalize w11.drew = y0 at hH ⊢
      refine wpAnyH_take (i := 0) (v := .pointer (some ⟨ga, 0, none⟩)) (by simp only [List.getElem?_toArray, List.getElem?_cons_zero]; rfl) (by kernel_rfl) (by kernel_rfl) (by kernel_rfl) (by intro _ _ _ h; exact h) (Or.inl ⟨by rfl, fun w hS => by go_simp⟩) hH ?_
      simp only [Act.put, List.setIfInBounds_toArray, List.set_cons_zero, List.set_cons_succ]
      refine wpAnyH_take (i := 1) (v := .int .i64 ca) (by simp only [List.getElem?_toArray, List.getElem?_cons_succ, List.getElem?_cons_zero]; rfl) (by kernel_rfl) (by kernel_rfl) (by kernel_rfl) (by intro _ _ _ h; exact h) (Or.inl ⟨by rfl, fun w hS => by (have y0 := cell_kept hS b_0; go_simp)⟩) hH ?_
      simp only [Act.put, List.setIfInBounds_toArray, List.set_cons_zero, List.set_cons_succ]
      refine wpAnyH_take (i := 2) (v := .bool true) (by simp only [List.getElem?_toArray, List.getElem?_cons_succ, List.getElem?_cons_zero]; rfl) (by kernel_rfl) (by kernel_rfl) (by kernel_rfl) (by intro _ _ _ h; exact h) (Or.inl ⟨by rfl, fun w hS => by go_simp⟩) hH ?_
      simp only [Act.put, List.setIfInBounds_toArray, List.set_cons_zero, List.set_cons_succ]
      refine wpAnyH_take (i := 3) (v := .bool true) (by simp only [List.getElem?_toArray, List.getElem?_cons_succ, List.getElem?_cons_zero]; rfl) (by kernel_rfl) (by kernel_rfl) (by kernel_rfl) (by intro _ _ _ h; exact h) (Or.inl ⟨by rfl, fun w hS => by go_simp⟩) hH ?_
      simp only [Act.put, List.setIfInBounds_toArray, List.set_cons_zero, List.set_cons_succ]
      refine wpAnyH_take (i := 4) (v := undef) (by simp only [List.getElem?_toArray, List.getElem?_cons_succ, List.getElem?_cons_zero]; rfl) (by kernel_rfl) (by kernel_rfl) (by kernel_rfl) (by intro _ _ _ h; exact h) (Or.inr ⟨by rfl, rfl⟩) hH ?_
      simp only [Act.put, List.setIfInBounds_toArray, List.set_cons_zero, List.set_cons_succ]
      refine wpAnyH_take (i := 5) (v := undef) (by simp only [List.getElem?_toArray, List.getElem?_cons_succ, List.getElem?_cons_zero]; rfl) (by kernel_rfl) (by kernel_rfl) (by kernel_rfl) (by intro _ _ _ h; exact h) (Or.inr ⟨by rfl, rfl⟩) hH ?_
      simp only [Act.put, List.setIfInBounds_toArray, List.set_cons_zero, List.set_cons_succ]
      refine wpAnyH_take (i := 6) (v := undef) (by simp only [List.getElem?_toArray, List.getElem?_cons_succ, List.getElem?_cons_zero]; rfl) (by kernel_rfl) (by kernel_rfl) (by kernel_rfl) (by intro _ _ _ h; exact h) (Or.inr ⟨by rfl, rfl⟩) hH ?_
      simp only [Act.put, List.setIfInBounds_toArray, List.set_cons_zero, List.set_cons_succ]
      refine wpAnyH_take (i := 7) (v := undef) (by simp only [List.getElem?_toArray, List.getElem?_cons_succ, List.getElem?_cons_zero]; rfl) (by kernel_rfl) (by kernel_rfl) (by kernel_rfl) (by intro _ _ _ h; exact h) (Or.inr ⟨by rfl, rfl⟩) hH ?_
      simp only [Act.put, List.setIfInBounds_toArray, List.set_cons_zero, List.set_cons_succ]
      refine wpAnyH_take (i := 8) (v := undef) (by simp only [List.getElem?_toArray, List.getElem?_cons_succ, List.getElem?_cons_zero]; rfl) (by kernel_rfl) (by kernel_rfl) (by kernel_rfl) (by intro _ _ _ h; exact h) (Or.inr ⟨by rfl, rfl⟩) hH ?_
      simp only [Act.put, List.setIfInBounds_toArray, List.set_cons_zero, List.set_cons_succ]
      refine wpAnyH_take (i := 9) (v := undef) (by simp only [List.getElem?_toArray, List.getElem?_cons_succ, List.getElem?_cons_zero]; rfl) (by kernel_rfl) (by kernel_rfl) (by kernel_rfl) (by intro _ _ _ h; exact h) (Or.inr ⟨by rfl, rfl⟩) hH ?_
      simp only [Act.put, List.setIfInBounds_toArray, List.set_cons_zero, List.set_cons_succ]
      refine wpAnyH_take (i := 10) (v := undef) (by simp only [List.getElem?_toArray, List.getElem?_cons_succ, List.getElem?_cons_zero]; rfl) (by kernel_rfl) (by kernel_rfl) (by kernel_rfl) (by intro _ _ _ h; exact h) (Or.inr ⟨by rfl, rfl⟩) hH ?_
      simp only [Act.put, List.setIfInBounds_toArray, List.set_cons_zero, List.set_cons_succ]
      refine wpAnyH_take (i := 11) (v := undef) (by simp only [List.getElem?_toArray, List.getElem?_cons_succ, List.getElem?_cons_zero]; rfl) (by kernel_rfl) (by kernel_rfl) (by kernel_rfl) (by intro _ _ _ h; exact h) (Or.inr ⟨by rfl, rfl⟩) hH ?_
      simp only [Act.put, List.setIfInBounds_toArray, List.set_cons_zero, List.set_cons_succ]
      refine wpAnyH_take (i := 12) (v := undef) (by simp only [List.getElem?_toArray, List.getElem?_cons_succ, List.getElem?_cons_zero]; rfl) (by kernel_rfl) (by kernel_rfl) (by kernel_rfl) (by intro _ _ _ h; exact h) (Or.inr ⟨by rfl, rfl⟩) hH ?_
      simp only [Act.put, List.setIfInBounds_toArray, List.set_cons_zero, List.set_cons_succ]
      refine wpAnyH_take (i := 13) (v := undef) (by simp only [List.getElem?_toArray, List.getElem?_cons_succ, List.getElem?_cons_zero]; rfl) (by kernel_rfl) (by kernel_rfl) (by kernel_rfl) (by intro _ _ _ h; exact h) (Or.inr ⟨by rfl, rfl⟩) hH ?_
      simp only [Act.put, List.setIfInBounds_toArray, List.set_cons_zero, List.set_cons_succ]
      refine wpAnyH_take (i := 14) (v := undef) (by simp only [List.getElem?_toArray, List.getElem?_cons_succ, List.getElem?_cons_zero]; rfl) (by kernel_rfl) (by kernel_rfl) (by kernel_rfl) (by intro _ _ _ h; exact h) (Or.inr ⟨by rfl, rfl⟩) hH ?_
      simp only [Act.put, List.setIfInBounds_toArray, List.set_cons_zero, List.set_cons_succ]
      refine wpAnyH_take (i := 15) (v := undef) (by simp only [List.getElem?_toArray, List.getElem?_cons_succ, List.getElem?_cons_zero]; rfl) (by kernel_rfl) (by kernel_rfl) (by kernel_rfl) (by intro _ _ _ h; exact h) (Or.inr ⟨by rfl, rfl⟩) hH ?_
      simp only [Act.put, List.setIfInBounds_toArray, List.set_cons_zero, List.set_cons_succ]
      refine wpAnyH_take (i := 16) (v := undef) (by simp only [List.getElem?_toArray, List.getElem?_cons_succ, List.getElem?_cons_zero]; rfl) (by kernel_rfl) (by kernel_rfl) (by kernel_rfl) (by intro _ _ _ h; exact h) (Or.inr ⟨by rfl, rfl⟩) hH ?_
      simp only [Act.put, List.setIfInBounds_toArray, List.set_cons_zero, List.set_cons_succ]
      refine wpAnyH_take (i := 17) (v := undef) (by simp only [List.getElem?_toArray, List.getElem?_cons_succ, List.getElem?_cons_zero]; rfl) (by kernel_rfl) (by kernel_rfl) (by kernel_rfl) (by intro _ _ _ h; exact h) (Or.inr ⟨by rfl, rfl⟩) hH ?_
      simp only [Act.put, List.setIfInBounds_toArray, List.set_cons_zero, List.set_cons_succ]
      refine wpAnyH_take (i := 18) (v := .bool true) (by simp only [List.getElem?_toArray, List.getElem?_cons_succ, List.getElem?_cons_zero]; rfl) (by kernel_rfl) (by kernel_rfl) (by kernel_rfl) (by intro _ _ _ h; exact h) (Or.inl ⟨by rfl, fun w hS => by go_simp⟩) hH ?_
      simp only [Act.put, List.setIfInBounds_toArray, List.set_cons_zero, List.set_cons_succ]
      refine wpAnyH_take (i := 19) (v := .bool true) (by simp only [List.getElem?_toArray, List.getElem?_cons_succ, List.getElem?_cons_zero]; rfl) (by kernel_rfl) (by kernel_rfl) (by kernel_rfl) (by intro _ _ _ h; exact h) (Or.inl ⟨by rfl, fun w hS => by go_simp⟩) hH ?_
      simp only [Act.put, List.setIfInBounds_toArray, List.set_cons_zero, List.set_cons_succ]
      refine wpAnyH_done (by kernel_rfl) ?_ _
      have hB := BB.out.trans (hH.mono BB.out.size)
      clear hH
      go_wp2
      go_ret
      exact ⟨rfl, hB⟩
    have e3 := tr_law AF.out d0
    have WR := hid (litR (rF_rng e3))
    have LA := hid (show la.length ≤ 1048576 by have := (rF_parts e3).2.1; omega)
    have F0 := hid e3
    clear e3
    subst d0
    obtain ⟨⟨b_0, b_1, b_2⟩, -⟩ := var3_facts VA.out
    obtain ⟨a_0, a_1, -, -⟩ := var2_facts VW.out
    obtain ⟨x_0, x_1, -, -⟩ := var2_facts VX.out
    go_upto_region 12 with fail
    refine wp_region_held_drew (S := fun w' => Below w11.heap.size w11 w') (by kernel_rfl) (Below.refl _ _).drew (fun hH => ?_)
    generalize w11.drew = y0 at hH ⊢
    refine wpAnyH_take (i := 0) (v := .pointer (some ⟨ga, 0, none⟩)) (by simp only [List.getElem?_toArray, List.getElem?_cons_zero]; rfl) (by kernel_rfl) (by kernel_rfl) (by kernel_rfl) (by intro _ _ _ h; exact h) (Or.inl ⟨by rfl, fun w hS => by go_simp⟩) hH ?_
    simp only [Act.put, List.setIfInBounds_toArray, List.set_cons_zero, List.set_cons_succ]
    refine wpAnyH_take (i := 1) (v := .int .i64 0) (by simp only [List.getElem?_toArray, List.getElem?_cons_succ, List.getElem?_cons_zero]; rfl) (by kernel_rfl) (by kernel_rfl) (by kernel_rfl) (by intro _ _ _ h; exact h) (Or.inl ⟨by rfl, fun w hS => by (have y0 := cell_kept hS b_0; go_simp)⟩) hH ?_
    simp only [Act.put, List.setIfInBounds_toArray, List.set_cons_zero, List.set_cons_succ]
    refine wpAnyH_take (i := 2) (v := .bool false) (by simp only [List.getElem?_toArray, List.getElem?_cons_succ, List.getElem?_cons_zero]; rfl) (by kernel_rfl) (by kernel_rfl) (by kernel_rfl) (by intro _ _ _ h; exact h) (Or.inl ⟨by rfl, fun w hS => by go_simp⟩) hH ?_
    simp only [Act.put, List.setIfInBounds_toArray, List.set_cons_zero, List.set_cons_succ]
    refine wpAnyH_take (i := 3) (v := .bool false) (by simp only [List.getElem?_toArray, List.getElem?_cons_succ, List.getElem?_cons_zero]; rfl) (by kernel_rfl) (by kernel_rfl) (by kernel_rfl) (by intro _ _ _ h; exact h) (Or.inl ⟨by rfl, fun w hS => by go_simp⟩) hH ?_
    simp only [Act.put, List.setIfInBounds_toArray, List.set_cons_zero, List.set_cons_succ]
    refine wpAnyH_take (i := 4) (v := .pointer (some ⟨ga, 1, none⟩)) (by simp only [List.getElem?_toArray, List.getElem?_cons_succ, List.getElem?_cons_zero]; rfl) (by kernel_rfl) (by kernel_rfl) (by kernel_rfl) (by intro _ _ _ h; exact h) (Or.inl ⟨by rfl, fun w hS => by go_simp⟩) hH ?_
    simp only [Act.put, List.setIfInBounds_toArray, List.set_cons_zero, List.set_cons_succ]
    refine wpAnyH_take (i := 5) (v := .agg #[.int .i64 ra, .slice pa la.length ka]) (by simp only [List.getElem?_toArray, List.getElem?_cons_succ, List.getElem?_cons_zero]; rfl) (by kernel_rfl) (by kernel_rfl) (by kernel_rfl) (by intro _ _ _ h; exact h) (Or.inl ⟨by rfl, fun w hS => by (have y1 := cell_kept hS b_1; have y2 := cell_kept hS b_2; go_simp)⟩) hH ?_
    simp only [Act.put, List.setIfInBounds_toArray, List.set_cons_zero, List.set_cons_succ]
    refine wpAnyH_ready (rs := [6]) (by kernel_rfl) (by simp) ?_
    refine AllReadyH.cons (by simp only [List.getElem?_toArray, List.getElem?_cons_succ, List.getElem?_cons_zero]; rfl) (fun K hK => ?_) AllReadyH.nil
    go_simp
    refine (irf ra _ la _ (HLA.out.below hH) WR.out).mono ?_
    rintro e x6 ⟨rfl, hM⟩
    rw [F0.out]
    refine hK.out _ _ (hH.trans (hM.mono hH.size)) (fun hH => ?_)
    clear hK K hM
    refine wpAnyH_take (i := 7) (v := .bool true) (by simp only [List.getElem?_toArray, List.getElem?_cons_succ, List.getElem?_cons_zero]; rfl) (by kernel_rfl) (by kernel_rfl) (by kernel_rfl) (by intro _ _ _ h; exact h) (Or.inl ⟨by rfl, fun w hS => by go_simp⟩) hH ?_
    simp only [Act.put, List.setIfInBounds_toArray, List.set_cons_zero, List.set_cons_succ]
    refine wpAnyH_take (i := 8) (v := .bool true) (by simp only [List.getElem?_toArray, List.getElem?_cons_succ, List.getElem?_cons_zero]; rfl) (by kernel_rfl) (by kernel_rfl) (by kernel_rfl) (by intro _ _ _ h; exact h) (Or.inl ⟨by rfl, fun w hS => by go_simp⟩) hH ?_
    simp only [Act.put, List.setIfInBounds_toArray, List.set_cons_zero, List.set_cons_succ]
    refine wpAnyH_take (i := 9) (v := .pointer (some ⟨ga, 1, none⟩)) (by simp only [List.getElem?_toArray, List.getElem?_cons_succ, List.getElem?_cons_zero]; rfl) (by kernel_rfl) (by kernel_rfl) (by kernel_rfl) (by intro _ _ _ h; exact h) (Or.inl ⟨by rfl, fun w hS => by go_simp⟩) hH ?_
    simp only [Act.put, List.setIfInBounds_toArray, List.set_cons_zero, List.set_cons_succ]
    refine wpAnyH_take (i := 10) (v := .agg #[.int .i64 ra, .slice pa la.length ka]) (by simp only [List.getElem?_toArray, List.getElem?_cons_succ, List.getElem?_cons_zero]; rfl) (by kernel_rfl) (by kernel_rfl) (by kernel_rfl) (by intro _ _ _ h; exact h) (Or.inl ⟨by rfl, fun w hS => by (have y1 := cell_kept hS b_1; have y2 := cell_kept hS b_2; go_simp)⟩) hH ?_
    simp only [Act.put, List.setIfInBounds_toArray, List.set_cons_zero, List.set_cons_succ]
    refine wpAnyH_take (i := 11) (v := .agg #[.int .i64 pr, .slice pu ks.length cu]) (by simp only [List.getElem?_toArray, List.getElem?_cons_succ, List.getElem?_cons_zero]; rfl) (by kernel_rfl) (by kernel_rfl) (by kernel_rfl) (by intro _ _ _ h; exact h) (Or.inl ⟨by rfl, fun w hS => by (have y0 := cell_kept hS a_0; have y1 := cell_kept hS a_1; go_simp)⟩) hH ?_
    simp only [Act.put, List.setIfInBounds_toArray, List.set_cons_zero, List.set_cons_succ]
    refine wpAnyH_take (i := 12) (v := .int .i64 op) (by simp only [List.getElem?_toArray, List.getElem?_cons_succ, List.getElem?_cons_zero]; rfl) (by kernel_rfl) (by kernel_rfl) (by kernel_rfl) (by intro _ _ _ h; exact h) (Or.inl ⟨by rfl, fun w hS => by go_simp⟩) hH ?_
    simp only [Act.put, List.setIfInBounds_toArray, List.set_cons_zero, List.set_cons_succ]
    refine wpAnyH_take (i := 13) (v := .agg #[.int .i64 id2, .slice pd ds.length cd]) (by simp only [List.getElem?_toArray, List.getElem?_cons_succ, List.getElem?_cons_zero]; rfl) (by kernel_rfl) (by kernel_rfl) (by kernel_rfl) (by intro _ _ _ h; exact h) (Or.inl ⟨by rfl, fun w hS => by (have y0 := cell_kept hS x_0; have y1 := cell_kept hS x_1; go_simp)⟩) hH ?_
    simp only [Act.put, List.setIfInBounds_toArray, List.set_cons_zero, List.set_cons_succ]
    refine wpAnyH_ready (rs := [14]) (by kernel_rfl) (by simp) ?_
    refine AllReadyH.cons (by simp only [List.getElem?_toArray, List.getElem?_cons_succ, List.getElem?_cons_zero]; rfl) (fun K hK => ?_) AllReadyH.nil
    go_simp
    refine (stn pr op id2 0 ra _ _ ks la ds _ (HV.out.below hH) (HZ.out.below hH) AF.out).mono ?_
    rintro e x14 ⟨ux, rfl, hX, hM⟩
    obtain ⟨p2, k2, rfl, -, -, -⟩ := hX.rd.parts
    have RX := hid hX.rd
    clear hX
    refine hK.out _ _ (hH.trans (hM.mono hH.size)) (fun hH => ?_)
    clear hK K hM
    refine wpAnyH_take (i := 15) (v := .agg #[.int .i64 ra, .slice p2 la.length k2]) (by simp only [List.getElem?_toArray, List.getElem?_cons_succ, List.getElem?_cons_zero]; rfl) (by kernel_rfl) (by kernel_rfl) (by kernel_rfl) (by intro _ _ _ h; exact h) (Or.inl ⟨by rfl, fun w hS => by (have hf := fldR1 0 ra p2 la.length k2; go_simp)⟩) hH ?_
    simp only [Act.put, List.setIfInBounds_toArray, List.set_cons_zero, List.set_cons_succ]
    refine wpAnyH_ready (rs := [16]) (by kernel_rfl) (by simp) ?_
    refine AllReadyH.cons (by simp only [List.getElem?_toArray, List.getElem?_cons_succ, List.getElem?_cons_zero]; rfl) (fun K hK => ?_) AllReadyH.nil
    go_simp
    refine (isr ra ra _ _ la la _ (HLA.out.below hH) RX.out LA.out).mono ?_
    rintro e x16 ⟨rfl, hM⟩
    rw [smR_self]
    refine hK.out _ _ (hH.trans (hM.mono hH.size)) (fun hH => ?_)
    clear hK K hM
    refine wpAnyH_take (i := 17) (v := .bool true) (by simp only [List.getElem?_toArray, List.getElem?_cons_succ, List.getElem?_cons_zero]; rfl) (by kernel_rfl) (by kernel_rfl) (by kernel_rfl) (by intro _ _ _ h; exact h) (Or.inl ⟨by rfl, fun w hS => by go_simp⟩) hH ?_
    simp only [Act.put, List.setIfInBounds_toArray, List.set_cons_zero, List.set_cons_succ]
    refine wpAnyH_take (i := 18) (v := .bool true) (by simp only [List.getElem?_toArray, List.getElem?_cons_succ, List.getElem?_cons_zero]; rfl) (by kernel_rfl) (by kernel_rfl) (by kernel_rfl) (by intro _ _ _ h; exact h) (Or.inl ⟨by rfl, fun w hS => by go_simp⟩) hH ?_
    simp only [Act.put, List.setIfInBounds_toArray, List.set_cons_zero, List.set_cons_succ]
    refine wpAnyH_take (i := 19) (v := .bool true) (by simp only [List.getElem?_toArray, List.getElem?_cons_succ, List.getElem?_cons_zero]; rfl) (by kernel_rfl) (by kernel_rfl) (by kernel_rfl) (by intro _ _ _ h; exact h) (Or.inl ⟨by rfl, fun w hS => by go_simp⟩) hH ?_
    simp only [Act.put, List.setIfInBounds_toArray, List.set_cons_zero, List.set_cons_succ]
    refine wpAnyH_done (by kernel_rfl) ?_ _
    have hB := BB.out.trans (hH.mono BB.out.size)
    clear hH
    go_wp2
    go_ret
    exact ⟨rfl, hB⟩
  obtain ⟨r1, r2, r3⟩ := nr_law TF.out c0
  have W1 := hid (litR (rF_rng r3))
  have F1 := hid r3
  clear TF r3
  subst c0 r1
  rw [r2] at VT HLR
  clear r2
  obtain ⟨⟨t_0, t_1, t_2⟩, -⟩ := var3_facts VT.out
  obtain ⟨k_0, k_1, -, -⟩ := var2_facts VK.out
  go_wp2_with fail
  refine (irf _ _ lr _ HLR.out W1.out).mono ?_
  rintro e w12 ⟨rfl, hB⟩
  rw [F1.out]
  clear t_0 t_1 t_2 k_0 k_1
  replace HLR := hid (HLR.out.below hB)
  replace HV := hid (HV.out.below hB)
  replace HZ := hid (HZ.out.below hB)
  replace HLA := hid (HLA.out.below hB)
  replace VK := hid (var_below hB VK.out)
  replace VT := hid (var_below hB VT.out)
  replace VW := hid (var_below hB VW.out)
  replace VX := hid (var_below hB VX.out)
  replace VA := hid (var_below hB VA.out)
  replace BB := hid (BB.out.trans (hB.mono BB.out.size))
  clear hB
  by_cases d0 : ca = 0
  case neg =>
    have nz : (ca != 0) = true := by rw [bne_iff_ne]; exact d0
    obtain ⟨⟨b_0, b_1, b_2⟩, -⟩ := var3_facts VA.out
    go_upto_region 12 with fail
    refine wp_region_held_drew (S := fun w' => Below w12.heap.size w12 w') (by kernel_rfl) (Below.refl _ _).drew (fun hH => ?_)
    generalize w12.drew = y0 at hH ⊢
    refine wpAnyH_take (i := 0) (v := .pointer (some ⟨ga, 0, none⟩)) (by simp only [List.getElem?_toArray, List.getElem?_cons_zero]; rfl) (by kernel_rfl) (by kernel_rfl) (by kernel_rfl) (by intro _ _ _ h; exact h) (Or.inl ⟨by rfl, fun w hS => by go_simp⟩) hH ?_
    simp only [Act.put, List.setIfInBounds_toArray, List.set_cons_zero, List.set_cons_succ]
    refine wpAnyH_take (i := 1) (v := .int .i64 ca) (by simp only [List.getElem?_toArray, List.getElem?_cons_succ, List.getElem?_cons_zero]; rfl) (by kernel_rfl) (by kernel_rfl) (by kernel_rfl) (by intro _ _ _ h; exact h) (Or.inl ⟨by rfl, fun w hS => by (have y0 := cell_kept hS b_0; go_simp)⟩) hH ?_
    simp only [Act.put, List.setIfInBounds_toArray, List.set_cons_zero, List.set_cons_succ]
    refine wpAnyH_take (i := 2) (v := .bool true) (by simp only [List.getElem?_toArray, List.getElem?_cons_succ, List.getElem?_cons_zero]; rfl) (by kernel_rfl) (by kernel_rfl) (by kernel_rfl) (by intro _ _ _ h; exact h) (Or.inl ⟨by rfl, fun w hS => by go_simp⟩) hH ?_
    simp only [Act.put, List.setIfInBounds_toArray, List.set_cons_zero, List.set_cons_succ]
    refine wpAnyH_take (i := 3) (v := .bool true) (by simp only [List.getElem?_toArray, List.getElem?_cons_succ, List.getElem?_cons_zero]; rfl) (by kernel_rfl) (by kernel_rfl) (by kernel_rfl) (by intro _ _ _ h; exact h) (Or.inl ⟨by rfl, fun w hS => by go_simp⟩) hH ?_
    simp only [Act.put, List.setIfInBounds_toArray, List.set_cons_zero, List.set_cons_succ]
    refine wpAnyH_take (i := 4) (v := undef) (by simp only [List.getElem?_toArray, List.getElem?_cons_succ, List.getElem?_cons_zero]; rfl) (by kernel_rfl) (by kernel_rfl) (by kernel_rfl) (by intro _ _ _ h; exact h) (Or.inr ⟨by rfl, rfl⟩) hH ?_
    simp only [Act.put, List.setIfInBounds_toArray, List.set_cons_zero, List.set_cons_succ]
    refine wpAnyH_take (i := 5) (v := undef) (by simp only [List.getElem?_toArray, List.getElem?_cons_succ, List.getElem?_cons_zero]; rfl) (by kernel_rfl) (by kernel_rfl) (by kernel_rfl) (by intro _ _ _ h; exact h) (Or.inr ⟨by rfl, rfl⟩) hH ?_
    simp only [Act.put, List.setIfInBounds_toArray, List.set_cons_zero, List.set_cons_succ]
    refine wpAnyH_take (i := 6) (v := undef) (by simp only [List.getElem?_toArray, List.getElem?_cons_succ, List.getElem?_cons_zero]; rfl) (by kernel_rfl) (by kernel_rfl) (by kernel_rfl) (by intro _ _ _ h; exact h) (Or.inr ⟨by rfl, rfl⟩) hH ?_
    simp only [Act.put, List.setIfInBounds_toArray, List.set_cons_zero, List.set_cons_succ]
    refine wpAnyH_take (i := 7) (v := undef) (by simp only [List.getElem?_toArray, List.getElem?_cons_succ, List.getElem?_cons_zero]; rfl) (by kernel_rfl) (by kernel_rfl) (by kernel_rfl) (by intro _ _ _ h; exact h) (Or.inr ⟨by rfl, rfl⟩) hH ?_
    simp only [Act.put, List.setIfInBounds_toArray, List.set_cons_zero, List.set_cons_succ]
    refine wpAnyH_take (i := 8) (v := undef) (by simp only [List.getElem?_toArray, List.getElem?_cons_succ, List.getElem?_cons_zero]; rfl) (by kernel_rfl) (by kernel_rfl) (by kernel_rfl) (by intro _ _ _ h; exact h) (Or.inr ⟨by rfl, rfl⟩) hH ?_
    simp only [Act.put, List.setIfInBounds_toArray, List.set_cons_zero, List.set_cons_succ]
    refine wpAnyH_take (i := 9) (v := undef) (by simp only [List.getElem?_toArray, List.getElem?_cons_succ, List.getElem?_cons_zero]; rfl) (by kernel_rfl) (by kernel_rfl) (by kernel_rfl) (by intro _ _ _ h; exact h) (Or.inr ⟨by rfl, rfl⟩) hH ?_
    simp only [Act.put, List.setIfInBounds_toArray, List.set_cons_zero, List.set_cons_succ]
    refine wpAnyH_take (i := 10) (v := undef) (by simp only [List.getElem?_toArray, List.getElem?_cons_succ, List.getElem?_cons_zero]; rfl) (by kernel_rfl) (by kernel_rfl) (by kernel_rfl) (by intro _ _ _ h; exact h) (Or.inr ⟨by rfl, rfl⟩) hH ?_
    simp only [Act.put, List.setIfInBounds_toArray, List.set_cons_zero, List.set_cons_succ]
    refine wpAnyH_take (i := 11) (v := undef) (by simp only [List.getElem?_toArray, List.getElem?_cons_succ, List.getElem?_cons_zero]; rfl) (by kernel_rfl) (by kernel_rfl) (by kernel_rfl) (by intro _ _ _ h; exact h) (Or.inr ⟨by rfl, rfl⟩) hH ?_
    simp only [Act.put, List.setIfInBounds_toArray, List.set_cons_zero, List.set_cons_succ]
    refine wpAnyH_take (i := 12) (v := undef) (by simp only [List.getElem?_toArray, List.getElem?_cons_succ, List.getElem?_cons_zero]; rfl) (by kernel_rfl) (by kernel_rfl) (by kernel_rfl) (by intro _ _ _ h; exact h) (Or.inr ⟨by rfl, rfl⟩) hH ?_
    simp only [Act.put, List.setIfInBounds_toArray, List.set_cons_zero, List.set_cons_succ]
    refine wpAnyH_take (i := 13) (v := undef) (by simp only [List.getElem?_toArray, List.getElem?_cons_succ, List.getElem?_cons_zero]; rfl) (by kernel_rfl) (by kernel_rfl) (by kernel_rfl) (by intro _ _ _ h; exact h) (Or.inr ⟨by rfl, rfl⟩) hH ?_
    simp only [Act.put, List.setIfInBounds_toArray, List.set_cons_zero, List.set_cons_succ]
    refine wpAnyH_take (i := 14) (v := undef) (by simp only [List.getElem?_toArray, List.getElem?_cons_succ, List.getElem?_cons_zero]; rfl) (by kernel_rfl) (by kernel_rfl) (by kernel_rfl) (by intro _ _ _ h; exact h) (Or.inr ⟨by rfl, rfl⟩) hH ?_
    simp only [Act.put, List.setIfInBounds_toArray, List.set_cons_zero, List.set_cons_succ]
    refine wpAnyH_take (i := 15) (v := undef) (by simp only [List.getElem?_toArray, List.getElem?_cons_succ, List.getElem?_cons_zero]; rfl) (by kernel_rfl) (by kernel_rfl) (by kernel_rfl) (by intro _ _ _ h; exact h) (Or.inr ⟨by rfl, rfl⟩) hH ?_
    simp only [Act.put, List.setIfInBounds_toArray, List.set_cons_zero, List.set_cons_succ]
    refine wpAnyH_take (i := 16) (v := undef) (by simp only [List.getElem?_toArray, List.getElem?_cons_succ, List.getElem?_cons_zero]; rfl) (by kernel_rfl) (by kernel_rfl) (by kernel_rfl) (by intro _ _ _ h; exact h) (Or.inr ⟨by rfl, rfl⟩) hH ?_
    simp only [Act.put, List.setIfInBounds_toArray, List.set_cons_zero, List.set_cons_succ]
    refine wpAnyH_take (i := 17) (v := undef) (by simp only [List.getElem?_toArray, List.getElem?_cons_succ, List.getElem?_cons_zero]; rfl) (by kernel_rfl) (by kernel_rfl) (by kernel_rfl) (by intro _ _ _ h; exact h) (Or.inr ⟨by rfl, rfl⟩) hH ?_
    simp only [Act.put, List.setIfInBounds_toArray, List.set_cons_zero, List.set_cons_succ]
    refine wpAnyH_take (i := 18) (v := .bool true) (by simp only [List.getElem?_toArray, List.getElem?_cons_succ, List.getElem?_cons_zero]; rfl) (by kernel_rfl) (by kernel_rfl) (by kernel_rfl) (by intro _ _ _ h; exact h) (Or.inl ⟨by rfl, fun w hS => by go_simp⟩) hH ?_
    simp only [Act.put, List.setIfInBounds_toArray, List.set_cons_zero, List.set_cons_succ]
    refine wpAnyH_take (i := 19) (v := .bool true) (by simp only [List.getElem?_toArray, List.getElem?_cons_succ, List.getElem?_cons_zero]; rfl) (by kernel_rfl) (by kernel_rfl) (by kernel_rfl) (by intro _ _ _ h; exact h) (Or.inl ⟨by rfl, fun w hS => by go_simp⟩) hH ?_
    simp only [Act.put, List.setIfInBounds_toArray, List.set_cons_zero, List.set_cons_succ]
    refine wpAnyH_done (by kernel_rfl) ?_ _
    have hB := BB.out.trans (hH.mono BB.out.size)
    clear hH
    go_wp2
    go_ret
    exact ⟨rfl, hB⟩
  have e3 := tr_law AF.out d0
  have WR := hid (litR (rF_rng e3))
  have LA := hid (show la.length ≤ 1048576 by have := (rF_parts e3).2.1; omega)
  have F0 := hid e3
  clear e3
  subst d0
  obtain ⟨⟨b_0, b_1, b_2⟩, -⟩ := var3_facts VA.out
  obtain ⟨a_0, a_1, -, -⟩ := var2_facts VW.out
  obtain ⟨x_0, x_1, -, -⟩ := var2_facts VX.out
  go_upto_region 12 with fail
  refine wp_region_held_drew (S := fun w' => Below w12.heap.size w12 w') (by kernel_rfl) (Below.refl _ _).drew (fun hH => ?_)
  generalize w12.drew = y0 at hH ⊢
  refine wpAnyH_take (i := 0) (v := .pointer (some ⟨ga, 0, none⟩)) (by simp only [List.getElem?_toArray, List.getElem?_cons_zero]; rfl) (by kernel_rfl) (by kernel_rfl) (by kernel_rfl) (by intro _ _ _ h; exact h) (Or.inl ⟨by rfl, fun w hS => by go_simp⟩) hH ?_
  simp only [Act.put, List.setIfInBounds_toArray, List.set_cons_zero, List.set_cons_succ]
  refine wpAnyH_take (i := 1) (v := .int .i64 0) (by simp only [List.getElem?_toArray, List.getElem?_cons_succ, List.getElem?_cons_zero]; rfl) (by kernel_rfl) (by kernel_rfl) (by kernel_rfl) (by intro _ _ _ h; exact h) (Or.inl ⟨by rfl, fun w hS => by (have y0 := cell_kept hS b_0; go_simp)⟩) hH ?_
  simp only [Act.put, List.setIfInBounds_toArray, List.set_cons_zero, List.set_cons_succ]
  refine wpAnyH_take (i := 2) (v := .bool false) (by simp only [List.getElem?_toArray, List.getElem?_cons_succ, List.getElem?_cons_zero]; rfl) (by kernel_rfl) (by kernel_rfl) (by kernel_rfl) (by intro _ _ _ h; exact h) (Or.inl ⟨by rfl, fun w hS => by go_simp⟩) hH ?_
  simp only [Act.put, List.setIfInBounds_toArray, List.set_cons_zero, List.set_cons_succ]
  refine wpAnyH_take (i := 3) (v := .bool false) (by simp only [List.getElem?_toArray, List.getElem?_cons_succ, List.getElem?_cons_zero]; rfl) (by kernel_rfl) (by kernel_rfl) (by kernel_rfl) (by intro _ _ _ h; exact h) (Or.inl ⟨by rfl, fun w hS => by go_simp⟩) hH ?_
  simp only [Act.put, List.setIfInBounds_toArray, List.set_cons_zero, List.set_cons_succ]
  refine wpAnyH_take (i := 4) (v := .pointer (some ⟨ga, 1, none⟩)) (by simp only [List.getElem?_toArray, List.getElem?_cons_succ, List.getElem?_cons_zero]; rfl) (by kernel_rfl) (by kernel_rfl) (by kernel_rfl) (by intro _ _ _ h; exact h) (Or.inl ⟨by rfl, fun w hS => by go_simp⟩) hH ?_
  simp only [Act.put, List.setIfInBounds_toArray, List.set_cons_zero, List.set_cons_succ]
  refine wpAnyH_take (i := 5) (v := .agg #[.int .i64 ra, .slice pa la.length ka]) (by simp only [List.getElem?_toArray, List.getElem?_cons_succ, List.getElem?_cons_zero]; rfl) (by kernel_rfl) (by kernel_rfl) (by kernel_rfl) (by intro _ _ _ h; exact h) (Or.inl ⟨by rfl, fun w hS => by (have y1 := cell_kept hS b_1; have y2 := cell_kept hS b_2; go_simp)⟩) hH ?_
  simp only [Act.put, List.setIfInBounds_toArray, List.set_cons_zero, List.set_cons_succ]
  refine wpAnyH_ready (rs := [6]) (by kernel_rfl) (by simp) ?_
  refine AllReadyH.cons (by simp only [List.getElem?_toArray, List.getElem?_cons_succ, List.getElem?_cons_zero]; rfl) (fun K hK => ?_) AllReadyH.nil
  go_simp
  refine (irf ra _ la _ (HLA.out.below hH) WR.out).mono ?_
  rintro e x6 ⟨rfl, hM⟩
  rw [F0.out]
  refine hK.out _ _ (hH.trans (hM.mono hH.size)) (fun hH => ?_)
  clear hK K hM
  refine wpAnyH_take (i := 7) (v := .bool true) (by simp only [List.getElem?_toArray, List.getElem?_cons_succ, List.getElem?_cons_zero]; rfl) (by kernel_rfl) (by kernel_rfl) (by kernel_rfl) (by intro _ _ _ h; exact h) (Or.inl ⟨by rfl, fun w hS => by go_simp⟩) hH ?_
  simp only [Act.put, List.setIfInBounds_toArray, List.set_cons_zero, List.set_cons_succ]
  refine wpAnyH_take (i := 8) (v := .bool true) (by simp only [List.getElem?_toArray, List.getElem?_cons_succ, List.getElem?_cons_zero]; rfl) (by kernel_rfl) (by kernel_rfl) (by kernel_rfl) (by intro _ _ _ h; exact h) (Or.inl ⟨by rfl, fun w hS => by go_simp⟩) hH ?_
  simp only [Act.put, List.setIfInBounds_toArray, List.set_cons_zero, List.set_cons_succ]
  refine wpAnyH_take (i := 9) (v := .pointer (some ⟨ga, 1, none⟩)) (by simp only [List.getElem?_toArray, List.getElem?_cons_succ, List.getElem?_cons_zero]; rfl) (by kernel_rfl) (by kernel_rfl) (by kernel_rfl) (by intro _ _ _ h; exact h) (Or.inl ⟨by rfl, fun w hS => by go_simp⟩) hH ?_
  simp only [Act.put, List.setIfInBounds_toArray, List.set_cons_zero, List.set_cons_succ]
  refine wpAnyH_take (i := 10) (v := .agg #[.int .i64 ra, .slice pa la.length ka]) (by simp only [List.getElem?_toArray, List.getElem?_cons_succ, List.getElem?_cons_zero]; rfl) (by kernel_rfl) (by kernel_rfl) (by kernel_rfl) (by intro _ _ _ h; exact h) (Or.inl ⟨by rfl, fun w hS => by (have y1 := cell_kept hS b_1; have y2 := cell_kept hS b_2; go_simp)⟩) hH ?_
  simp only [Act.put, List.setIfInBounds_toArray, List.set_cons_zero, List.set_cons_succ]
  refine wpAnyH_take (i := 11) (v := .agg #[.int .i64 pr, .slice pu ks.length cu]) (by simp only [List.getElem?_toArray, List.getElem?_cons_succ, List.getElem?_cons_zero]; rfl) (by kernel_rfl) (by kernel_rfl) (by kernel_rfl) (by intro _ _ _ h; exact h) (Or.inl ⟨by rfl, fun w hS => by (have y0 := cell_kept hS a_0; have y1 := cell_kept hS a_1; go_simp)⟩) hH ?_
  simp only [Act.put, List.setIfInBounds_toArray, List.set_cons_zero, List.set_cons_succ]
  refine wpAnyH_take (i := 12) (v := .int .i64 op) (by simp only [List.getElem?_toArray, List.getElem?_cons_succ, List.getElem?_cons_zero]; rfl) (by kernel_rfl) (by kernel_rfl) (by kernel_rfl) (by intro _ _ _ h; exact h) (Or.inl ⟨by rfl, fun w hS => by go_simp⟩) hH ?_
  simp only [Act.put, List.setIfInBounds_toArray, List.set_cons_zero, List.set_cons_succ]
  refine wpAnyH_take (i := 13) (v := .agg #[.int .i64 id2, .slice pd ds.length cd]) (by simp only [List.getElem?_toArray, List.getElem?_cons_succ, List.getElem?_cons_zero]; rfl) (by kernel_rfl) (by kernel_rfl) (by kernel_rfl) (by intro _ _ _ h; exact h) (Or.inl ⟨by rfl, fun w hS => by (have y0 := cell_kept hS x_0; have y1 := cell_kept hS x_1; go_simp)⟩) hH ?_
  simp only [Act.put, List.setIfInBounds_toArray, List.set_cons_zero, List.set_cons_succ]
  refine wpAnyH_ready (rs := [14]) (by kernel_rfl) (by simp) ?_
  refine AllReadyH.cons (by simp only [List.getElem?_toArray, List.getElem?_cons_succ, List.getElem?_cons_zero]; rfl) (fun K hK => ?_) AllReadyH.nil
  go_simp
  refine (stn pr op id2 0 ra _ _ ks la ds _ (HV.out.below hH) (HZ.out.below hH) AF.out).mono ?_
  rintro e x14 ⟨ux, rfl, hX, hM⟩
  obtain ⟨p2, k2, rfl, -, -, -⟩ := hX.rd.parts
  have RX := hid hX.rd
  clear hX
  refine hK.out _ _ (hH.trans (hM.mono hH.size)) (fun hH => ?_)
  clear hK K hM
  refine wpAnyH_take (i := 15) (v := .agg #[.int .i64 ra, .slice p2 la.length k2]) (by simp only [List.getElem?_toArray, List.getElem?_cons_succ, List.getElem?_cons_zero]; rfl) (by kernel_rfl) (by kernel_rfl) (by kernel_rfl) (by intro _ _ _ h; exact h) (Or.inl ⟨by rfl, fun w hS => by (have hf := fldR1 0 ra p2 la.length k2; go_simp)⟩) hH ?_
  simp only [Act.put, List.setIfInBounds_toArray, List.set_cons_zero, List.set_cons_succ]
  refine wpAnyH_ready (rs := [16]) (by kernel_rfl) (by simp) ?_
  refine AllReadyH.cons (by simp only [List.getElem?_toArray, List.getElem?_cons_succ, List.getElem?_cons_zero]; rfl) (fun K hK => ?_) AllReadyH.nil
  go_simp
  refine (isr ra ra _ _ la la _ (HLA.out.below hH) RX.out LA.out).mono ?_
  rintro e x16 ⟨rfl, hM⟩
  rw [smR_self]
  refine hK.out _ _ (hH.trans (hM.mono hH.size)) (fun hH => ?_)
  clear hK K hM
  refine wpAnyH_take (i := 17) (v := .bool true) (by simp only [List.getElem?_toArray, List.getElem?_cons_succ, List.getElem?_cons_zero]; rfl) (by kernel_rfl) (by kernel_rfl) (by kernel_rfl) (by intro _ _ _ h; exact h) (Or.inl ⟨by rfl, fun w hS => by go_simp⟩) hH ?_
  simp only [Act.put, List.setIfInBounds_toArray, List.set_cons_zero, List.set_cons_succ]
  refine wpAnyH_take (i := 18) (v := .bool true) (by simp only [List.getElem?_toArray, List.getElem?_cons_succ, List.getElem?_cons_zero]; rfl) (by kernel_rfl) (by kernel_rfl) (by kernel_rfl) (by intro _ _ _ h; exact h) (Or.inl ⟨by rfl, fun w hS => by go_simp⟩) hH ?_
  simp only [Act.put, List.setIfInBounds_toArray, List.set_cons_zero, List.set_cons_succ]
  refine wpAnyH_take (i := 19) (v := .bool true) (by simp only [List.getElem?_toArray, List.getElem?_cons_succ, List.getElem?_cons_zero]; rfl) (by kernel_rfl) (by kernel_rfl) (by kernel_rfl) (by intro _ _ _ h; exact h) (Or.inl ⟨by rfl, fun w hS => by go_simp⟩) hH ?_
  simp only [Act.put, List.setIfInBounds_toArray, List.set_cons_zero, List.set_cons_succ]
  refine wpAnyH_done (by kernel_rfl) ?_ _
  have hB := BB.out.trans (hH.mono BB.out.size)
  clear hH
  go_wp2
  go_ret
  exact ⟨rfl, hB⟩
end Go.Proofs.Ytbfdbicddmffnab.W
