/-
  A key of a ring: what the model's FindKey answers.
-/
import Derived.Test.YtifgcffifffdnajL4cW
import Derived.Test.YtifgcffifffdnajSrfW
import Derived.Test.YtifgcffifffdnajLetF3
namespace Go.Proofs.Ytifgcffifffdnaj.W
open Go.ChangeShapes Go.WideShapes Go.ChangeAt Go.RowKit
open Go.Proofs.Ytifgcffifffdnaj.M

theorem fldR (x : Int) (v : Value) (w : World) : (Instr.field 34 (.agg #[.int .i64 x, v]) 1).run Try.prog w = .ok v w := by kernel_rfl
set_option maxHeartbeats 2000000 in
set_option maxRecDepth 100000 in
theorem sfk (p id' : Int) (v : Value) (ks : List (Int × List Nat)) (c rk : Int) (l : List Nat) (w : World) (h : RdK w v ks) (hF : fkIs p ks id' c rk l) :
    Calls Try.prog 10 #[.agg #[.int .i64 p, v], .int .i64 id'] w fun e w' => ∃ v', e = .returned (.agg #[.int .i64 c, .int .i64 rk, v']) ∧ Rd w' v' l ∧ Below w.heap.size w w' := by
  have H := hid h
  have HF := hid hF
  obtain ⟨a, cap, rfl, -, hcm, -⟩ := h.parts
  clear h hF hcm
  go_enter Try.func10, Try.ntmps10
  go_wp2_with fail
  have VA := hid (heap_alloc2_old w (.cells #[.int .i64 p, .slice a ks.length cap] 34) (.cells #[.int .i64 0, .int .i64 0, .slice none 0 0] 30))
  have VR := hid (heap_alloc2_new w (.cells #[.int .i64 p, .slice a ks.length cap] 34) (.cells #[.int .i64 0, .int .i64 0, .slice none 0 0] 30))
  have BB := hid (below_alloc2 w (.cells #[.int .i64 p, .slice a ks.length cap] 34) (.cells #[.int .i64 0, .int .i64 0, .slice none 0 0] 30))
  replace H := hid (H.out.below BB.out)
  generalize (w.alloc (.cells #[.int .i64 p, .slice a ks.length cap] 34)).alloc (.cells #[.int .i64 0, .int .i64 0, .slice none 0 0] 30) = w0 at *
  obtain ⟨g1, hg1⟩ : ∃ g, g = w.heap.size + 1 := ⟨_, rfl⟩
  obtain ⟨g, hg⟩ : ∃ g, g = w.heap.size := ⟨_, rfl⟩
  have LG := hid (show w.heap.size ≤ g1 by omega)
  rw [← hg1] at VR ⊢
  rw [← hg] at VA ⊢
  clear hg hg1
  refine (srf p _ ks _ H.out).mono ?_
  rintro e w1 ⟨rfl, hB⟩
  replace VA := hid (var_below hB VA.out)
  replace VR := hid (var_below hB VR.out)
  replace H := hid (H.out.below hB)
  replace BB := hid (BB.out.trans (hB.mono BB.out.size))
  clear hB
  obtain ⟨f, hf⟩ : ∃ f, f = rF p ks := ⟨_, rfl⟩
  rw [← hf]
  by_cases h0 : f = 0
  · subst h0
    obtain ⟨k1, k3, k16, -, -⟩ := rF_parts hf.symm
    replace hf := hid hf
    have K16 := hid (fun i hi => (k16 i hi).2)
    clear k16
    go_wp2_with fail
    refine (l4find g p id' _ ks _ VA.out H.out (by omega)).mono ?_
    rintro e w2 ⟨r, rfl, hr, hB⟩
    replace VA := hid (var_below hB VA.out)
    replace VR := hid (var_below hB VR.out)
    replace H := hid (H.out.below hB)
    replace BB := hid (BB.out.trans (hB.mono BB.out.size))
    clear hB
    rcases hr with ⟨rfl, hN⟩ | ⟨i, hi, rfl, he, hn⟩
    · obtain ⟨rfl, rfl, rfl⟩ := fk_none HF.out hf.out.symm hN
      replace hN := hid hN
      obtain ⟨⟨r0, r1, r2⟩, y0, y1, y2⟩ := w3_facts VR.out
      have hset := hid (w3_set (x' := .int .i64 4) (y' := .int .i64 0) (z' := .slice none 0 0) VR.out)
      have hbel := hid (w3_below (g := g1) (x := .int .i64 4) (y := .int .i64 0) (z := .slice none 0 0) BB.out LG.out)
      go_wp2
      try simp only [Exit.inBlock, Exit.then]
      exact bodyPost_ret (v := .agg #[.int .i64 4, .int .i64 0, .slice none 0 0]) (results_cell_row rfl _ _ g1 30 _ _ _ rfl hset.out Try.underlying30 rfl (by kernel_rfl)) rfl ⟨_, rfl, Rd.nil _, hbel.out⟩
    · obtain ⟨rfl, rfl, rfl⟩ := fk_found HF.out hf.out.symm i hi he hn
      subst he
      replace hn := hid hn
      have i0 : ¬ ((i : Int) < 0) := by omega
      go_wp2_with fail
      refine (l4copy g p _ ks _ VA.out H.out K16.out (by omega)).mono ?_
      rintro e w3 ⟨v', rfl, hO, hB⟩
      have LW := hid (show g1 < w2.heap.size from var_lt VR.out)
      replace VA := hid (var_below hB VA.out)
      replace VR := hid (var_below hB VR.out)
      replace H := hid (H.out.below hB)
      replace BB := hid (BB.out.trans (hB.mono BB.out.size))
      clear hB
      obtain ⟨L, h1, h2, h3, -⟩ := hO
      obtain ⟨u, q1, q2, q3, -⟩ := h3 i hi
      rcases h1.2 with ⟨rfl, hz⟩ | ⟨b, cv, cur, rfl, -⟩
      · omega
      have c1 := World.ownsRow.cellAt h1 (i * 2) (by omega)
      have c2 := World.ownsRow.cellAt h1 (i * 2 + 1) (by omega)
      rw [q1] at c1
      rw [q2] at c2
      have OU := hid q3
      obtain ⟨pu, cu, rfl, -, -, -⟩ := q3.rd.parts
      have I1 := idx_kc b 0 ks.length cv i hi
      rw [Nat.zero_add] at I1
      have k0 : (0 : Int) ≤ (i : Int) := by omega
      have kk : (i : Int) < (ks.length : Int) := by omega
      have hf1 := fldR
      have K2 := hid K16.out
      clear h1 h2 h3 q1 q2 q3
      obtain ⟨n, hn9⟩ : ∃ n, n = (ks[i]).2.length := ⟨_, rfl⟩
      obtain ⟨idd, hid9⟩ : ∃ x, x = (ks[i]).1 := ⟨_, rfl⟩
      rw [← hn9] at c2 OU
      rw [← hid9] at c1 ⊢
      replace hn9 := hid hn9
      replace hid9 := hid hid9
      obtain ⟨⟨r0, r1, r2⟩, y0, y1, y2⟩ := w3_facts VR.out
      have hset := hid (w3_set (x' := .int .i64 0) (y' := .int .i64 idd) (z' := .slice pu n cu) VR.out)
      have hbel := hid (w3_below (g := g1) (x := .int .i64 0) (y := .int .i64 idd) (z := .slice pu n cu) BB.out LG.out)
      go_wp2
      try simp only [Exit.inBlock, Exit.then]
      exact bodyPost_ret (v := .agg #[.int .i64 0, .int .i64 idd, .slice pu n cu]) (results_cell_row rfl _ _ g1 30 _ _ _ rfl hset.out Try.underlying30 rfl (by kernel_rfl)) rfl ⟨_, congrArg (fun z => Ending.returned (.agg #[.int .i64 0, .int .i64 z, .slice pu n cu])) hid9.out, (((OU.out.under ⟨g1, 0, none⟩ LW.out _).under ⟨g1, 1, none⟩ LW.out _).under ⟨g1, 2, none⟩ LW.out _).rd, hbel.out⟩
  · obtain ⟨hc, rfl, rfl⟩ := fk_bad HF.out (fun q => h0 (hf.trans q))
    rw [← hf] at hc
    subst hc
    replace hf := hid hf
    have ne : (c != 0) = true := by rw [bne_iff_ne]; exact h0
    replace h0 := hid h0
    obtain ⟨⟨r0, r1, r2⟩, y0, y1, y2⟩ := w3_facts VR.out
    have hset := hid (w3_set (x' := .int .i64 c) (y' := .int .i64 0) (z' := .slice none 0 0) VR.out)
    have hbel := hid (w3_below (g := g1) (x := .int .i64 c) (y := .int .i64 0) (z := .slice none 0 0) BB.out LG.out)
    go_wp2
    try simp only [Exit.inBlock, Exit.then]
    exact bodyPost_ret (v := .agg #[.int .i64 c, .int .i64 0, .slice none 0 0]) (results_cell_row rfl _ _ g1 30 _ _ _ rfl hset.out Try.underlying30 rfl (by kernel_rfl)) rfl ⟨_, rfl, Rd.nil _, hbel.out⟩
end Go.Proofs.Ytifgcffifffdnaj.W
