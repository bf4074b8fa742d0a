/-
  turnedBy with the closure of TurnRing.
-/
import Derived.Test.YtbfdbicddmffnabItuW
import Derived.Test.YtbfdbicddmffnabUkW
namespace Go.Proofs.Ytbfdbicddmffnab.W
open Go.ChangeShapes Go.WideShapes Go.ChangeAt Go.RowKit
open Go.Proofs.Ytbfdbicddmffnab.M

set_option maxHeartbeats 4000000 in
set_option maxRecDepth 100000 in
theorem iturned_tn (p p' code : Int) (v : Value) (ks ks' : List (Int × List Nat)) (c1 c2 : Value) (w : World) (h : RdK w v ks) (hp : (Lit.int .i64 p).wf = true) (h0 : rF p ks = 0)
    (hr : Rise ks') (h16 : ∀ i (hi : i < ks'.length), ((1 ≤ (ks'[i]).1 ∧ (ks'[i]).1 ≤ 255) ∧ (ks'[i]).2.length = 16)) (h1 : 1 ≤ ks'.length) (hl : ks'.length ≤ 1000)
    (hC : Hid (∀ (W : World) (g b : Nat) (D : DataW Value), Ring1 W g b p ks D → Below w.heap.size w W → Calls Try.prog 98 #[.pointer (some ⟨g, 0, none⟩), c1, c2] W fun e w' => e = .returned (.int .i64 code) ∧ (code = 0 → ∃ (D' : DataW Value) (nn : Nat), nn ≤ 1000 ∧ w'.heap[g]? = some (.cells #[.int .i64 p', .map (some b)] 119) ∧ MapK w' b nn D' ∧ HasTo ks' ks'.length D' ∧ AtTo ks' ks'.length D') ∧ ∀ B, B ≤ g → B ≤ b → B ≤ W.heap.size → Below B W w')) :
    Calls Try.prog 80 #[.agg #[.int .i64 p, v], .func (.func 98) #[] #[c1, c2]] w fun e w' => (code ≠ 0 → e = .returned (.agg #[.int .i64 code, .int .i64 0, .slice none 0 0])) ∧ (code = 0 → ∃ v', e = .returned (.agg #[.int .i64 0, .int .i64 p', v']) ∧ OKs w' w.heap.size w'.heap.size v' ks') ∧ Below w.heap.size w w' := by
  have H := hid h
  have HR := hid hr
  have K16 := hid h16
  obtain ⟨a, cap, rfl, -, -, -⟩ := h.parts
  clear h hr h16
  have F0 := hid h0
  clear h0
  go_enter Try.func80, Try.ntmps80
  go_wp2_with fail
  have VR := hid (heap_alloc2_new w (.cells #[.int .i64 p, .slice a ks.length cap] 38) (.cells #[.int .i64 0, .int .i64 0, .slice none 0 0] 44))
  have BB := hid (below_alloc2 w (.cells #[.int .i64 p, .slice a ks.length cap] 38) (.cells #[.int .i64 0, .int .i64 0, .slice none 0 0] 44))
  replace H := hid (H.out.below BB.out)
  generalize (w.alloc (.cells #[.int .i64 p, .slice a ks.length cap] 38)).alloc (.cells #[.int .i64 0, .int .i64 0, .slice none 0 0] 44) = w0 at *
  obtain ⟨g1, hg1⟩ : ∃ g, g = w.heap.size + 1 := ⟨_, rfl⟩
  have LG := hid (show w.heap.size ≤ g1 by omega)
  rw [← hg1] at VR ⊢
  clear hg1
  refine (ikrD p _ ks _ H.out hp).mono ?_
  rintro e w1 ⟨r, rfl, hr, hB⟩
  obtain ⟨g, b, D, rfl, hgl, hbl, hR1⟩ := hr F0.out
  rw [F0.out]
  have R1 := hid hR1
  have LV0 := hid (show g1 < w0.heap.size from var_lt VR.out)
  have GL := hid (Nat.lt_of_lt_of_le LV0.out hgl)
  have GB := hid (Nat.lt_of_lt_of_le LV0.out hbl)
  replace VR := hid (var_below hB VR.out)
  replace BB := hid (BB.out.trans (hB.mono BB.out.size))
  clear hB hr hR1 hgl hbl
  go_wp2_with fail
  refine (hC.out w1 g b D R1.out BB.out).mono ?_
  rintro e w2 ⟨rfl, hz, hB⟩
  have LV := hid (show g1 < w1.heap.size from var_lt VR.out)
  have hB1 := hB (g1 + 1) GL.out GB.out LV.out
  replace VR := hid (var_keep hB1 VR.out (Nat.lt_succ_self _))
  replace BB := hid (BB.out.trans (hB1.mono (Nat.le_succ_of_le LG.out)))
  clear hB hB1
  by_cases hq : code = 0
  · obtain ⟨D', nn, hn, hV, hM, hH, hA⟩ := hz hq
    subst hq
    have VG := hid hV
    have MM := hid hM
    have HH := hid hH
    have AA := hid hA
    clear hz hV hM hH hA
    go_wp2_with fail
    refine (itell g b nn p' ks' D' _ VG.out MM.out hn HH.out AA.out HR.out K16.out h1 hl).mono ?_
    rintro e w3 ⟨v', rfl, hO, hB⟩
    have OU := hid hO
    have LW := hid (show g1 < w2.heap.size from var_lt VR.out)
    have LS := hid BB.out.size
    obtain ⟨pv, cv, rfl, -, -, -⟩ := hO.rd.parts
    replace VR := hid (var_below hB VR.out)
    replace BB := hid (BB.out.trans (hB.mono BB.out.size))
    clear hO hB
    obtain ⟨m, hm9⟩ : ∃ m, m = ks'.length := ⟨_, rfl⟩
    rw [← hm9] at OU ⊢
    replace hm9 := hid hm9
    have OF := hid (((OU.out.low ⟨g1, 0, none⟩ LW.out (.int .i64 0)).low ⟨g1, 1, none⟩ LW.out (.int .i64 p')).low ⟨g1, 2, none⟩ LW.out (.slice pv m cv))
    obtain ⟨⟨r0, r1, r2⟩, y0, y1, y2⟩ := w3_facts VR.out
    have hset := hid (w3_set (x' := .int .i64 0) (y' := .int .i64 p') (z' := .slice pv m cv) VR.out)
    have hbel := hid (w3_below (g := g1) (x := .int .i64 0) (y := .int .i64 p') (z := .slice pv m cv) BB.out LG.out)
    go_wp2
    try simp only [Exit.inBlock, Exit.then]
    exact bodyPost_ret (v := .agg #[.int .i64 0, .int .i64 p', .slice pv m cv]) (results_cell_row rfl _ _ g1 44 _ _ _ rfl hset.out Try.underlying44 rfl (by kernel_rfl)) rfl ⟨⟨_, rfl, OF.out.mono LS.out (by rw [sizeT1, sizeT1, sizeT1]; exact Nat.le_refl _)⟩, hbel.out⟩
  · have ne : (code != 0) = true := by rw [bne_iff_ne]; exact hq
    have NQ := hid hq
    clear hz hq
    obtain ⟨⟨r0, r1, r2⟩, y0, y1, y2⟩ := w3_facts VR.out
    have hset := hid (w3_set (x' := .int .i64 code) (y' := .int .i64 0) (z' := .slice none 0 0) VR.out)
    have hbel := hid (w3_below (g := g1) (x := .int .i64 code) (y := .int .i64 0) (z := .slice none 0 0) BB.out LG.out)
    go_wp2
    try simp only [Exit.inBlock, Exit.then]
    exact bodyPost_ret (v := .agg #[.int .i64 code, .int .i64 0, .slice none 0 0]) (results_cell_row rfl _ _ g1 44 _ _ _ rfl hset.out Try.underlying44 rfl (by kernel_rfl)) rfl ⟨fun _ => rfl, fun q => absurd q NQ.out, hbel.out⟩
end Go.Proofs.Ytbfdbicddmffnab.W
