/-
  A ring that loses a key: what the program's remove and turnedBy answer.
-/
import Derived.Test.YtbfdbicddmffnabTellW
import Derived.Test.YtbfdbicddmffnabRmF
namespace Go.Proofs.Ytbfdbicddmffnab.W
open Go.ChangeShapes Go.WideShapes Go.ChangeAt Go.RowKit
open Go.Proofs.Ytbfdbicddmffnab.M

set_option maxHeartbeats 1000000 in
set_option maxRecDepth 100000 in
theorem irem (g b : Nat) (p id' : Int) (ks : List (Int × List Nat)) (D : DataW Value) (w : World) (hR : Ring1 w g b p ks D) (hw : (Lit.int .i64 id').wf = true) (code : Int) (hc : (Has ks id' ∧ id' ≠ p ∧ code = 0) ∨ (Has ks id' ∧ id' = p ∧ code = 8) ∨ (¬ Has ks id' ∧ code = 4)) (hl : ks.length ≤ 1000) :
    Calls Try.prog 85 #[.pointer (some ⟨g, 0, none⟩), .int .i64 id'] w fun e w' => e = .returned (.int .i64 code) ∧ (code = 0 → ∃ (D' : DataW Value) (nn : Nat), nn ≤ 1000 ∧ w'.heap[g]? = some (.cells #[.int .i64 p, .map (some b)] 119) ∧ MapK w' b nn D' ∧ HasTo (rmv id' ks) (rmv id' ks).length D' ∧ AtTo (rmv id' ks) (rmv id' ks).length D') ∧ ∀ B, B ≤ g → B ≤ b → B ≤ w.heap.size → Below B w w' := by
  have R1 := hid hR
  have NB := hid (show some g ≠ some b from MapK.apart hR.map hR.block)
  clear hR
  go_enter Try.func85, Try.ntmps85
  go_wp2_with fail
  refine (ihas g b ks.length p id' D _ R1.out.block R1.out.map R1.out.good hw).mono ?_
  rintro e w1 ⟨rfl, hB⟩
  have BB := hid hB
  replace R1 := hid (R1.out.below hB)
  clear hB
  obtain ⟨f0, f1, f2, f3⟩ := var2_facts R1.out.block
  rcases hc with ⟨hh, hne, rfl⟩ | ⟨hh, rfl, rfl⟩ | ⟨hh, rfl⟩
  · obtain ⟨j, hj, hx⟩ := hh
    rw [(R1.out.has id').2 ⟨j, hj, hj, hx⟩]
    clear hx
    go_wp2_with (at_delete; refine wpList_delete_own _ rfl _ _ 117 2 rfl 115 lawK Try.underlying117 Rv b ks.length D rfl R1.out.map _ _ rfl (Go.Maps.keyOf_int_mk Try.underlying2 hw) ?_; intro w2 hm2 ht2)
    have V2 := hid (var_grown ht2.grown R1.out.block NB.out)
    have M2 := hid hm2
    have G2 := hid (fun B h2 h3 => below_of_grown (B := B) ht2.grown h3 (fun k e => by cases e; exact h2))
    clear hm2 ht2
    go_wp2
    go_ret
    exact ⟨rfl, ⟨_, ks.length, hl, V2.out, M2.out, rm_has R1.out.has, rm_at R1.out.bytes⟩, fun B h1 h2 h3 => (BB.out.mono h3).trans (G2.out B h2 (Nat.le_trans h3 BB.out.size))⟩
  · obtain ⟨j, hj, hx⟩ := hh
    rw [(R1.out.has id').2 ⟨j, hj, hj, hx⟩]
    clear hx
    go_wp2
    go_ret
    exact ⟨rfl, fun q => absurd q (by decide), fun B h1 h2 h3 => BB.out.mono h3⟩
  · have HS : Maps.has D (.int .i64 id') = false := by
      cases q : Maps.has D (.int .i64 id')
      · rfl
      · obtain ⟨j, hj, -, hx⟩ := (R1.out.has id').1 q
        exact absurd ⟨j, hj, hx⟩ hh
    rw [HS]
    replace hh := hid hh
    clear HS
    go_wp2
    go_ret
    exact ⟨rfl, fun q => absurd q (by decide), fun B h1 h2 h3 => BB.out.mono h3⟩
set_option maxHeartbeats 1000000 in
set_option maxRecDepth 100000 in
theorem irem1 (g b gc : Nat) (p id' : Int) (ks : List (Int × List Nat)) (D : DataW Value) (w : World) (hR : Ring1 w g b p ks D) (hV : w.heap[gc]? = some (.cells #[.int .i64 id'] 2)) (hw : (Lit.int .i64 id').wf = true) (code : Int) (hc : (Has ks id' ∧ id' ≠ p ∧ code = 0) ∨ (Has ks id' ∧ id' = p ∧ code = 8) ∨ (¬ Has ks id' ∧ code = 4)) (hl : ks.length ≤ 1000) :
    Calls Try.prog 84 #[.pointer (some ⟨g, 0, none⟩), .pointer (some ⟨gc, 0, none⟩)] w fun e w' => e = .returned (.int .i64 code) ∧ (code = 0 → ∃ (D' : DataW Value) (nn : Nat), nn ≤ 1000 ∧ w'.heap[g]? = some (.cells #[.int .i64 p, .map (some b)] 119) ∧ MapK w' b nn D' ∧ HasTo (rmv id' ks) (rmv id' ks).length D' ∧ AtTo (rmv id' ks) (rmv id' ks).length D') ∧ ∀ B, B ≤ g → B ≤ b → B ≤ w.heap.size → Below B w w' := by
  have R1 := hid hR
  have HCC := hid hc
  have c0 : w.cell? ⟨gc, 0, none⟩ = some (.int .i64 id') := by rw [cell_of_row w gc 0 _ _ _ hV]; rfl
  clear hR hV hc
  go_enter Try.func84, Try.ntmps84
  go_wp2_with fail
  refine (irem g b p id' ks D _ R1.out hw code HCC.out hl).mono ?_
  rintro e w1 ⟨rfl, h1, h2⟩
  replace h1 := hid h1
  replace h2 := hid h2
  clear c0
  go_wp2
  go_ret
  exact ⟨rfl, h1.out, h2.out⟩
set_option maxHeartbeats 4000000 in
set_option maxRecDepth 100000 in
theorem iturned_rem (p p' code : Int) (v : Value) (ks ks' : List (Int × List Nat)) (gc : Nat) (o : Obj) (w : World) (h : RdK w v ks) (hp : (Lit.int .i64 p).wf = true) (h0 : rF p ks = 0) (hc : w.heap[gc]? = some o)
    (hr : Rise ks') (h16 : ∀ i (hi : i < ks'.length), ((1 ≤ (ks'[i]).1 ∧ (ks'[i]).1 ≤ 255) ∧ (ks'[i]).2.length = 16)) (h1 : 1 ≤ ks'.length) (hl : ks'.length ≤ 1000)
    (hC : Hid (∀ (W : World) (g b : Nat) (D : DataW Value), Ring1 W g b p ks D → W.heap[gc]? = some o → Calls Try.prog 84 #[.pointer (some ⟨g, 0, none⟩), .pointer (some ⟨gc, 0, none⟩)] W fun e w' => e = .returned (.int .i64 code) ∧ (code = 0 → ∃ (D' : DataW Value) (nn : Nat), nn ≤ 1000 ∧ w'.heap[g]? = some (.cells #[.int .i64 p', .map (some b)] 119) ∧ MapK w' b nn D' ∧ HasTo ks' ks'.length D' ∧ AtTo ks' ks'.length D') ∧ ∀ B, B ≤ g → B ≤ b → B ≤ W.heap.size → Below B W w')) :
    Calls Try.prog 80 #[.agg #[.int .i64 p, v], .func (.func 84) #[] #[.pointer (some ⟨gc, 0, none⟩)]] w fun e w' => (code ≠ 0 → e = .returned (.agg #[.int .i64 code, .int .i64 0, .slice none 0 0])) ∧ (code = 0 → ∃ v', e = .returned (.agg #[.int .i64 0, .int .i64 p', v']) ∧ OKs w' w.heap.size w'.heap.size v' ks') ∧ Below w.heap.size w w' := by
  have H := hid h
  have HC := hid hc
  have HR := hid hr
  have K16 := hid h16
  have LC := hid (show gc < w.heap.size from var_lt hc)
  obtain ⟨a, cap, rfl, -, -, -⟩ := h.parts
  clear h hc hr h16
  have F0 := hid h0
  clear h0
  go_enter Try.func80, Try.ntmps80
  go_wp2_with fail
  have VR := hid (heap_alloc2_new w (.cells #[.int .i64 p, .slice a ks.length cap] 38) (.cells #[.int .i64 0, .int .i64 0, .slice none 0 0] 44))
  have BB := hid (below_alloc2 w (.cells #[.int .i64 p, .slice a ks.length cap] 38) (.cells #[.int .i64 0, .int .i64 0, .slice none 0 0] 44))
  replace H := hid (H.out.below BB.out)
  generalize (w.alloc (.cells #[.int .i64 p, .slice a ks.length cap] 38)).alloc (.cells #[.int .i64 0, .int .i64 0, .slice none 0 0] 44) = w0 at *
  obtain ⟨g1, hg1⟩ : ∃ g, g = w.heap.size + 1 := ⟨_, rfl⟩
  have LG := hid (show w.heap.size ≤ g1 by omega)
  rw [← hg1] at VR ⊢
  clear hg1
  refine (ikrD p _ ks _ H.out hp).mono ?_
  rintro e w1 ⟨r, rfl, hr, hB⟩
  obtain ⟨g, b, D, rfl, hgl, hbl, hR1⟩ := hr F0.out
  rw [F0.out]
  have R1 := hid hR1
  have LV0 := hid (show g1 < w0.heap.size from var_lt VR.out)
  have GL := hid (Nat.lt_of_lt_of_le LV0.out hgl)
  have GB := hid (Nat.lt_of_lt_of_le LV0.out hbl)
  replace VR := hid (var_below hB VR.out)
  replace BB := hid (BB.out.trans (hB.mono BB.out.size))
  replace HC := hid (var_below BB.out HC.out)
  clear hB hr hR1 hgl hbl
  go_wp2_with fail
  refine (hC.out w1 g b D R1.out HC.out).mono ?_
  rintro e w2 ⟨rfl, hz, hB⟩
  have LV := hid (show g1 < w1.heap.size from var_lt VR.out)
  have hB1 := hB (g1 + 1) GL.out GB.out LV.out
  replace VR := hid (var_keep hB1 VR.out (Nat.lt_succ_self _))
  replace BB := hid (BB.out.trans (hB1.mono (Nat.le_succ_of_le LG.out)))
  clear hB hB1
  by_cases hq : code = 0
  · obtain ⟨D', nn, hn, hV, hM, hH, hA⟩ := hz hq
    subst hq
    have VG := hid hV
    have MM := hid hM
    have HH := hid hH
    have AA := hid hA
    clear hz hV hM hH hA
    go_wp2_with fail
    refine (itell g b nn p' ks' D' _ VG.out MM.out hn HH.out AA.out HR.out K16.out h1 hl).mono ?_
    rintro e w3 ⟨v', rfl, hO, hB⟩
    have OU := hid hO
    have LW := hid (show g1 < w2.heap.size from var_lt VR.out)
    have LS := hid BB.out.size
    obtain ⟨pv, cv, rfl, -, -, -⟩ := hO.rd.parts
    replace VR := hid (var_below hB VR.out)
    replace BB := hid (BB.out.trans (hB.mono BB.out.size))
    clear hO hB
    obtain ⟨m, hm9⟩ : ∃ m, m = ks'.length := ⟨_, rfl⟩
    rw [← hm9] at OU ⊢
    replace hm9 := hid hm9
    have OF := hid (((OU.out.low ⟨g1, 0, none⟩ LW.out (.int .i64 0)).low ⟨g1, 1, none⟩ LW.out (.int .i64 p')).low ⟨g1, 2, none⟩ LW.out (.slice pv m cv))
    obtain ⟨⟨r0, r1, r2⟩, y0, y1, y2⟩ := w3_facts VR.out
    have hset := hid (w3_set (x' := .int .i64 0) (y' := .int .i64 p') (z' := .slice pv m cv) VR.out)
    have hbel := hid (w3_below (g := g1) (x := .int .i64 0) (y := .int .i64 p') (z := .slice pv m cv) BB.out LG.out)
    go_wp2
    try simp only [Exit.inBlock, Exit.then]
    exact bodyPost_ret (v := .agg #[.int .i64 0, .int .i64 p', .slice pv m cv]) (results_cell_row rfl _ _ g1 44 _ _ _ rfl hset.out Try.underlying44 rfl (by kernel_rfl)) rfl ⟨⟨_, rfl, OF.out.mono LS.out (by rw [sizeT1, sizeT1, sizeT1]; exact Nat.le_refl _)⟩, hbel.out⟩
  · have ne : (code != 0) = true := by rw [bne_iff_ne]; exact hq
    have NQ := hid hq
    clear hz hq
    obtain ⟨⟨r0, r1, r2⟩, y0, y1, y2⟩ := w3_facts VR.out
    have hset := hid (w3_set (x' := .int .i64 code) (y' := .int .i64 0) (z' := .slice none 0 0) VR.out)
    have hbel := hid (w3_below (g := g1) (x := .int .i64 code) (y := .int .i64 0) (z := .slice none 0 0) BB.out LG.out)
    go_wp2
    try simp only [Exit.inBlock, Exit.then]
    exact bodyPost_ret (v := .agg #[.int .i64 code, .int .i64 0, .slice none 0 0]) (results_cell_row rfl _ _ g1 44 _ _ _ rfl hset.out Try.underlying44 rfl (by kernel_rfl)) rfl ⟨fun _ => rfl, fun q => absurd q NQ.out, hbel.out⟩
end Go.Proofs.Ytbfdbicddmffnab.W
