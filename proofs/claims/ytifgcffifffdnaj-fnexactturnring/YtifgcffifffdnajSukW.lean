/-
  A ring's primary, turned: what the model's UseKey answers.
-/
import Derived.Test.YtifgcffifffdnajFkW
import Derived.Test.YtifgcffifffdnajUkF
import Derived.Test.YtifgcffifffdnajFarW
namespace Go.Proofs.Ytifgcffifffdnaj.W
open Go.ChangeShapes Go.WideShapes Go.ChangeAt Go.RowKit
open Go.Proofs.Ytifgcffifffdnaj.M

set_option maxHeartbeats 2000000 in
set_option maxRecDepth 100000 in
theorem suk (p id' : Int) (v : Value) (ks : List (Int × List Nat)) (c rk : Int) (l : List (Int × List Nat)) (w : World) (h : RdK w v ks) (hF : ukIs p ks id' c rk l) :
    Calls Try.prog 27 #[.agg #[.int .i64 p, v], .int .i64 id'] w fun e w' => ∃ v', e = .returned (.agg #[.int .i64 c, .int .i64 rk, v']) ∧ FarK w' w.heap.size v' l ∧ Below w.heap.size w w' := by
  have H := hid h
  have HF := hid hF
  obtain ⟨a, cap, rfl, -, hcm, -⟩ := h.parts
  clear h hF hcm
  go_enter Try.func27, Try.ntmps27
  go_wp2_with fail
  have VA := hid (heap_alloc2_old w (.cells #[.int .i64 p, .slice a ks.length cap] 34) (.cells #[.int .i64 0, .int .i64 0, .slice none 0 0] 44))
  have VR := hid (heap_alloc2_new w (.cells #[.int .i64 p, .slice a ks.length cap] 34) (.cells #[.int .i64 0, .int .i64 0, .slice none 0 0] 44))
  have BB := hid (below_alloc2 w (.cells #[.int .i64 p, .slice a ks.length cap] 34) (.cells #[.int .i64 0, .int .i64 0, .slice none 0 0] 44))
  replace H := hid (H.out.below BB.out)
  generalize (w.alloc (.cells #[.int .i64 p, .slice a ks.length cap] 34)).alloc (.cells #[.int .i64 0, .int .i64 0, .slice none 0 0] 44) = w0 at *
  obtain ⟨g1, hg1⟩ : ∃ g, g = w.heap.size + 1 := ⟨_, rfl⟩
  obtain ⟨g, hg⟩ : ∃ g, g = w.heap.size := ⟨_, rfl⟩
  have LG := hid (show w.heap.size ≤ g1 by omega)
  rw [← hg1] at VR ⊢
  rw [← hg] at VA ⊢
  clear hg hg1
  refine (srf p _ ks _ H.out).mono ?_
  rintro e w1 ⟨rfl, hB⟩
  replace VA := hid (var_below hB VA.out)
  replace VR := hid (var_below hB VR.out)
  replace H := hid (H.out.below hB)
  replace BB := hid (BB.out.trans (hB.mono BB.out.size))
  clear hB
  obtain ⟨f, hf⟩ : ∃ f, f = rF p ks := ⟨_, rfl⟩
  rw [← hf]
  by_cases h0 : f = 0
  · subst h0
    obtain ⟨k1, k3, k16, -, -⟩ := rF_parts hf.symm
    replace hf := hid hf
    have K16 := hid (fun i hi => (k16 i hi).2)
    clear k16
    go_wp2_with fail
    refine (l4find g p id' _ ks _ VA.out H.out (by omega)).mono ?_
    rintro e w2 ⟨r, rfl, hr, hB⟩
    replace VA := hid (var_below hB VA.out)
    replace VR := hid (var_below hB VR.out)
    replace H := hid (H.out.below hB)
    replace BB := hid (BB.out.trans (hB.mono BB.out.size))
    clear hB
    rcases hr with ⟨rfl, hN⟩ | ⟨i, hi, rfl, he, hn⟩
    · obtain ⟨rfl, rfl, rfl⟩ := uk_none HF.out hf.out.symm hN
      replace hN := hid hN
      obtain ⟨⟨r0, r1, r2⟩, y0, y1, y2⟩ := w3_facts VR.out
      have hset := hid (w3_set (x' := .int .i64 4) (y' := .int .i64 0) (z' := .slice none 0 0) VR.out)
      have hbel := hid (w3_below (g := g1) (x := .int .i64 4) (y := .int .i64 0) (z := .slice none 0 0) BB.out LG.out)
      go_wp2
      try simp only [Exit.inBlock, Exit.then]
      exact bodyPost_ret (v := .agg #[.int .i64 4, .int .i64 0, .slice none 0 0]) (results_cell_row rfl _ _ g1 44 _ _ _ rfl hset.out Try.underlying44 rfl (by kernel_rfl)) rfl ⟨_, rfl, FarK.nil _ _, hbel.out⟩
    · obtain ⟨rfl, rfl, rfl⟩ := uk_ok HF.out hf.out.symm ⟨i, hi, he⟩
      replace he := hid he
      replace hn := hid hn
      have i0 : ¬ ((i : Int) < 0) := by omega
      go_wp2_with fail
      refine (l4copy g p _ l _ VA.out H.out K16.out (by omega)).mono ?_
      rintro e w3 ⟨v', rfl, hO, hB⟩
      have LW := hid (show g1 < w2.heap.size from var_lt VR.out)
      replace VR := hid (var_below hB VR.out)
      replace BB := hid (BB.out.trans (hB.mono BB.out.size))
      clear hB
      have OU := hid hO
      obtain ⟨pv, cv, rfl, -, -, -⟩ := hO.rd.parts
      clear hO
      obtain ⟨m, hm9⟩ : ∃ m, m = l.length := ⟨_, rfl⟩
      rw [← hm9] at OU ⊢
      replace hm9 := hid hm9
      replace VR := hid (var_alloc (.cells #[.int .i64 rk, .slice pv m cv] 34) VR.out)
      replace BB := hid (BB.out.trans ((below_alloc1 w3 (.cells #[.int .i64 rk, .slice pv m cv] 34)).mono BB.out.size))
      replace OU := hid (OU.out.below (below_alloc1 w3 (.cells #[.int .i64 rk, .slice pv m cv] 34)))
      have OF := hid (((OU.out.low ⟨g1, 0, none⟩ LW.out (.int .i64 0)).low ⟨g1, 1, none⟩ LW.out (.int .i64 rk)).low ⟨g1, 2, none⟩ LW.out (.slice pv m cv))
      obtain ⟨⟨r0, r1, r2⟩, y0, y1, y2⟩ := w3_facts VR.out
      have hset := hid (w3_set (x' := .int .i64 0) (y' := .int .i64 rk) (z' := .slice pv m cv) VR.out)
      have hbel := hid (w3_below (g := g1) (x := .int .i64 0) (y := .int .i64 rk) (z := .slice pv m cv) BB.out LG.out)
      go_wp2
      try simp only [Exit.inBlock, Exit.then]
      exact bodyPost_ret (v := .agg #[.int .i64 0, .int .i64 rk, .slice pv m cv]) (results_cell_row rfl _ _ g1 44 _ _ _ rfl hset.out Try.underlying44 rfl (by kernel_rfl)) rfl ⟨_, rfl, OF.out.far.mono (Nat.le_of_lt (Nat.lt_of_le_of_lt LG.out LW.out)), hbel.out⟩
  · obtain ⟨hc, rfl, rfl⟩ := uk_bad HF.out (fun q => h0 (hf.trans q))
    rw [← hf] at hc
    subst hc
    replace hf := hid hf
    have ne : (c != 0) = true := by rw [bne_iff_ne]; exact h0
    replace h0 := hid h0
    obtain ⟨⟨r0, r1, r2⟩, y0, y1, y2⟩ := w3_facts VR.out
    have hset := hid (w3_set (x' := .int .i64 c) (y' := .int .i64 0) (z' := .slice none 0 0) VR.out)
    have hbel := hid (w3_below (g := g1) (x := .int .i64 c) (y := .int .i64 0) (z := .slice none 0 0) BB.out LG.out)
    go_wp2
    try simp only [Exit.inBlock, Exit.then]
    exact bodyPost_ret (v := .agg #[.int .i64 c, .int .i64 0, .slice none 0 0]) (results_cell_row rfl _ _ g1 44 _ _ _ rfl hset.out Try.underlying44 rfl (by kernel_rfl)) rfl ⟨_, rfl, FarK.nil _ _, hbel.out⟩
end Go.Proofs.Ytifgcffifffdnaj.W
