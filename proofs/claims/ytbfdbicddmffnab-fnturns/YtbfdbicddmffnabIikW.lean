/-
  A ring with one key more: what the program's InstallKey answers.
-/
import Derived.Test.YtbfdbicddmffnabIinW
import Derived.Test.YtbfdbicddmffnabUkW
namespace Go.Proofs.Ytbfdbicddmffnab.W
open Go.ChangeShapes Go.WideShapes Go.ChangeAt Go.RowKit
open Go.Proofs.Ytbfdbicddmffnab.M

set_option maxHeartbeats 1000000 in
set_option maxRecDepth 100000 in
theorem iins1 (g b gc : Nat) (p id' : Int) (v : Value) (l : List Nat) (ks : List (Int × List Nat)) (D : DataW Value) (w : World) (hR : Ring1 w g b p ks D) (hV : w.heap[gc]? = some (.cells #[.int .i64 id', v] 40)) (h : Rd w v l) (hw : (Lit.int .i64 id').wf = true) (code : Int) (hc : (kF (id', l) ≠ 0 ∧ code = kF (id', l)) ∨ (kF (id', l) = 0 ∧ Has ks id' ∧ code = 6) ∨ (kF (id', l) = 0 ∧ ¬ Has ks id' ∧ 3 ≤ ks.length ∧ code = 7) ∨ (kF (id', l) = 0 ∧ ¬ Has ks id' ∧ ks.length < 3 ∧ code = 0)) (hl : ks.length ≤ 3) (hr : Rise ks) :
    Calls Try.prog 81 #[.pointer (some ⟨g, 0, none⟩), .pointer (some ⟨gc, 0, none⟩)] w fun e w' => e = .returned (.int .i64 code) ∧ (code = 0 → ∃ (D' : DataW Value) (nn : Nat), nn ≤ 1000 ∧ w'.heap[g]? = some (.cells #[.int .i64 p, .map (some b)] 119) ∧ MapK w' b nn D' ∧ HasTo (insK (id', l) ks) (insK (id', l) ks).length D' ∧ AtTo (insK (id', l) ks) (insK (id', l) ks).length D') ∧ ∀ B, B ≤ g → B ≤ b → B ≤ w.heap.size → Below B w w' := by
  have R1 := hid hR
  have HV := hid h
  have HCC := hid hc
  obtain ⟨a, cap, rfl, -, -, -⟩ := h.parts
  obtain ⟨c0, c1, -, -⟩ := var2_facts hV
  clear hR hV hc h
  go_enter Try.func81, Try.ntmps81
  go_wp2_with fail
  refine (iins g b p id' _ l ks D _ R1.out HV.out hw code HCC.out hl hr).mono ?_
  rintro e w1 ⟨rfl, h1, h2⟩
  replace h1 := hid h1
  replace h2 := hid h2
  clear c0 c1
  go_wp2
  go_ret
  exact ⟨rfl, h1.out, h2.out⟩
set_option maxHeartbeats 4000000 in
set_option maxRecDepth 100000 in
theorem iturned_ins (p p' code : Int) (v : Value) (ks ks' : List (Int × List Nat)) (gc : Nat) (o : Obj) (w : World) (h : RdK w v ks) (hp : (Lit.int .i64 p).wf = true) (h0 : rF p ks = 0) (hc : w.heap[gc]? = some o)
    (hr : Rise ks') (h16 : ∀ i (hi : i < ks'.length), ((1 ≤ (ks'[i]).1 ∧ (ks'[i]).1 ≤ 255) ∧ (ks'[i]).2.length = 16)) (h1 : 1 ≤ ks'.length) (hl : ks'.length ≤ 1000)
    (hC : Hid (∀ (W : World) (g b : Nat) (D : DataW Value), Ring1 W g b p ks D → W.heap[gc]? = some o → Below w.heap.size w W → Calls Try.prog 81 #[.pointer (some ⟨g, 0, none⟩), .pointer (some ⟨gc, 0, none⟩)] W fun e w' => e = .returned (.int .i64 code) ∧ (code = 0 → ∃ (D' : DataW Value) (nn : Nat), nn ≤ 1000 ∧ w'.heap[g]? = some (.cells #[.int .i64 p', .map (some b)] 119) ∧ MapK w' b nn D' ∧ HasTo ks' ks'.length D' ∧ AtTo ks' ks'.length D') ∧ ∀ B, B ≤ g → B ≤ b → B ≤ W.heap.size → Below B W w')) :
    Calls Try.prog 80 #[.agg #[.int .i64 p, v], .func (.func 81) #[] #[.pointer (some ⟨gc, 0, none⟩)]] w fun e w' => (code ≠ 0 → e = .returned (.agg #[.int .i64 code, .int .i64 0, .slice none 0 0])) ∧ (code = 0 → ∃ v', e = .returned (.agg #[.int .i64 0, .int .i64 p', v']) ∧ OKs w' w.heap.size w'.heap.size v' ks') ∧ Below w.heap.size w w' := by
  have H := hid h
  have HC := hid hc
  have HR := hid hr
  have K16 := hid h16
  have LC := hid (show gc < w.heap.size from var_lt hc)
  obtain ⟨a, cap, rfl, -, -, -⟩ := h.parts
  clear h hc hr h16
  have F0 := hid h0
  clear h0
  go_enter Try.func80, Try.ntmps80
  go_wp2_with fail
  have VR := hid (heap_alloc2_new w (.cells #[.int .i64 p, .slice a ks.length cap] 38) (.cells #[.int .i64 0, .int .i64 0, .slice none 0 0] 44))
  have BB := hid (below_alloc2 w (.cells #[.int .i64 p, .slice a ks.length cap] 38) (.cells #[.int .i64 0, .int .i64 0, .slice none 0 0] 44))
  replace H := hid (H.out.below BB.out)
  generalize (w.alloc (.cells #[.int .i64 p, .slice a ks.length cap] 38)).alloc (.cells #[.int .i64 0, .int .i64 0, .slice none 0 0] 44) = w0 at *
  obtain ⟨g1, hg1⟩ : ∃ g, g = w.heap.size + 1 := ⟨_, rfl⟩
  have LG := hid (show w.heap.size ≤ g1 by omega)
  rw [← hg1] at VR ⊢
  clear hg1
  refine (ikrD p _ ks _ H.out hp).mono ?_
  rintro e w1 ⟨r, rfl, hr, hB⟩
  obtain ⟨g, b, D, rfl, hgl, hbl, hR1⟩ := hr F0.out
  rw [F0.out]
  have R1 := hid hR1
  have LV0 := hid (show g1 < w0.heap.size from var_lt VR.out)
  have GL := hid (Nat.lt_of_lt_of_le LV0.out hgl)
  have GB := hid (Nat.lt_of_lt_of_le LV0.out hbl)
  replace VR := hid (var_below hB VR.out)
  replace BB := hid (BB.out.trans (hB.mono BB.out.size))
  replace HC := hid (var_below BB.out HC.out)
  clear hB hr hR1 hgl hbl
  go_wp2_with fail
  refine (hC.out w1 g b D R1.out HC.out BB.out).mono ?_
  rintro e w2 ⟨rfl, hz, hB⟩
  have LV := hid (show g1 < w1.heap.size from var_lt VR.out)
  have hB1 := hB (g1 + 1) GL.out GB.out LV.out
  replace VR := hid (var_keep hB1 VR.out (Nat.lt_succ_self _))
  replace BB := hid (BB.out.trans (hB1.mono (Nat.le_succ_of_le LG.out)))
  clear hB hB1
  by_cases hq : code = 0
  · obtain ⟨D', nn, hn, hV, hM, hH, hA⟩ := hz hq
    subst hq
    have VG := hid hV
    have MM := hid hM
    have HH := hid hH
    have AA := hid hA
    clear hz hV hM hH hA
    go_wp2_with fail
    refine (itell g b nn p' ks' D' _ VG.out MM.out hn HH.out AA.out HR.out K16.out h1 hl).mono ?_
    rintro e w3 ⟨v', rfl, hO, hB⟩
    have OU := hid hO
    have LW := hid (show g1 < w2.heap.size from var_lt VR.out)
    have LS := hid BB.out.size
    obtain ⟨pv, cv, rfl, -, -, -⟩ := hO.rd.parts
    replace VR := hid (var_below hB VR.out)
    replace BB := hid (BB.out.trans (hB.mono BB.out.size))
    clear hO hB
    obtain ⟨m, hm9⟩ : ∃ m, m = ks'.length := ⟨_, rfl⟩
    rw [← hm9] at OU ⊢
    replace hm9 := hid hm9
    have OF := hid (((OU.out.low ⟨g1, 0, none⟩ LW.out (.int .i64 0)).low ⟨g1, 1, none⟩ LW.out (.int .i64 p')).low ⟨g1, 2, none⟩ LW.out (.slice pv m cv))
    obtain ⟨⟨r0, r1, r2⟩, y0, y1, y2⟩ := w3_facts VR.out
    have hset := hid (w3_set (x' := .int .i64 0) (y' := .int .i64 p') (z' := .slice pv m cv) VR.out)
    have hbel := hid (w3_below (g := g1) (x := .int .i64 0) (y := .int .i64 p') (z := .slice pv m cv) BB.out LG.out)
    go_wp2
    try simp only [Exit.inBlock, Exit.then]
    exact bodyPost_ret (v := .agg #[.int .i64 0, .int .i64 p', .slice pv m cv]) (results_cell_row rfl _ _ g1 44 _ _ _ rfl hset.out Try.underlying44 rfl (by kernel_rfl)) rfl ⟨⟨_, rfl, OF.out.mono LS.out (by rw [sizeT1, sizeT1, sizeT1]; exact Nat.le_refl _)⟩, hbel.out⟩
  · have ne : (code != 0) = true := by rw [bne_iff_ne]; exact hq
    have NQ := hid hq
    clear hz hq
    obtain ⟨⟨r0, r1, r2⟩, y0, y1, y2⟩ := w3_facts VR.out
    have hset := hid (w3_set (x' := .int .i64 code) (y' := .int .i64 0) (z' := .slice none 0 0) VR.out)
    have hbel := hid (w3_below (g := g1) (x := .int .i64 code) (y := .int .i64 0) (z := .slice none 0 0) BB.out LG.out)
    go_wp2
    try simp only [Exit.inBlock, Exit.then]
    exact bodyPost_ret (v := .agg #[.int .i64 code, .int .i64 0, .slice none 0 0]) (results_cell_row rfl _ _ g1 44 _ _ _ rfl hset.out Try.underlying44 rfl (by kernel_rfl)) rfl ⟨fun _ => rfl, fun q => absurd q NQ.out, hbel.out⟩
set_option maxHeartbeats 4000000 in
set_option maxRecDepth 100000 in
theorem iik (p id' c rk : Int) (v u : Value) (ks t : List (Int × List Nat)) (l : List Nat) (w : World) (h : RdK w v ks) (hu : Rd w u l) (hp : (Lit.int .i64 p).wf = true) (hi : (Lit.int .i64 id').wf = true) (hF : ikIs p ks (id', l) c rk t) :
    Calls Try.prog 24 #[.agg #[.int .i64 p, v], .agg #[.int .i64 id', u]] w fun e w' => ∃ v', e = .returned (.agg #[.int .i64 c, .int .i64 rk, v']) ∧ OKs w' w.heap.size w'.heap.size v' t ∧ Below w.heap.size w w' := by
  have H := hid h
  have HU := hid hu
  have HF := hid hF
  obtain ⟨a, cap, rfl, -, -, -⟩ := h.parts
  obtain ⟨au, cu, rfl, -, -, -⟩ := hu.parts
  clear h hF hu
  go_enter Try.func24, Try.ntmps24
  go_wp2_with fail
  have VC := hid (heap_alloc2_old (w.alloc (.cells #[.int .i64 p, .slice a ks.length cap] 38)) (.cells #[.int .i64 id', .slice au l.length cu] 40) (.cells #[.int .i64 0, .int .i64 0, .slice none 0 0] 44))
  have VR := hid (heap_alloc2_new (w.alloc (.cells #[.int .i64 p, .slice a ks.length cap] 38)) (.cells #[.int .i64 id', .slice au l.length cu] 40) (.cells #[.int .i64 0, .int .i64 0, .slice none 0 0] 44))
  have BB := hid ((below_alloc1 w (.cells #[.int .i64 p, .slice a ks.length cap] 38)).trans ((below_alloc2 (w.alloc (.cells #[.int .i64 p, .slice a ks.length cap] 38)) (.cells #[.int .i64 id', .slice au l.length cu] 40) (.cells #[.int .i64 0, .int .i64 0, .slice none 0 0] 44)).mono (by simp)))
  simp only [World.size_alloc] at VC VR
  replace H := hid (H.out.below BB.out)
  replace HU := hid (HU.out.below BB.out)
  generalize ((w.alloc (.cells #[.int .i64 p, .slice a ks.length cap] 38)).alloc (.cells #[.int .i64 id', .slice au l.length cu] 40)).alloc (.cells #[.int .i64 0, .int .i64 0, .slice none 0 0] 44) = w0 at *
  obtain ⟨g1, hg1⟩ : ∃ g, g = w.heap.size + 1 + 1 := ⟨_, rfl⟩
  obtain ⟨gc, hgc⟩ : ∃ g, g = w.heap.size + 1 := ⟨_, rfl⟩
  have LG := hid (show w.heap.size ≤ g1 by omega)
  rw [← hg1] at VR
  rw [← hgc] at VC ⊢
  simp only [← hgc] at hg1
  try rw [← hg1]
  clear hgc hg1
  have LV := hid (show g1 < w0.heap.size from var_lt VR.out)
  by_cases h0 : rF p ks = 0
  case neg =>
    obtain ⟨hc, hk', ht'⟩ : c = rF p ks ∧ rk = 0 ∧ t = [] := by
      rcases HF.out with ⟨-, q⟩ | ⟨q, -⟩ | ⟨q, -⟩ | ⟨q, -⟩ | ⟨q, -⟩
      · exact q
      all_goals exact absurd q h0
    subst hk' ht'
    refine (iturned_bad p c _ _ ks _ H.out hp h0 hc).mono ?_
    rintro e w1 ⟨rfl, hB⟩
    replace VR := hid (var_below hB VR.out)
    replace BB := hid (BB.out.trans (hB.mono BB.out.size))
    replace hc := hid hc
    replace h0 := hid h0
    clear hB VC
    obtain ⟨⟨r0, r1, r2⟩, y0, y1, y2⟩ := w3_facts VR.out
    have hset := hid (w3_set (x' := .int .i64 c) (y' := .int .i64 0) (z' := .slice none 0 0) VR.out)
    have hbel := hid (w3_below (g := g1) (x := .int .i64 c) (y := .int .i64 0) (z := .slice none 0 0) BB.out LG.out)
    go_wp2
    try simp only [Exit.inBlock, Exit.then]
    exact bodyPost_ret (v := .agg #[.int .i64 c, .int .i64 0, .slice none 0 0]) (results_cell_row rfl _ _ g1 44 _ _ _ rfl hset.out Try.underlying44 rfl (by kernel_rfl)) rfl ⟨_, rfl, OKs.nil _ _ _, hbel.out⟩
  obtain ⟨k1, k3, k16, kr, kp⟩ := rF_parts h0
  by_cases hcz : c = 0
  case neg =>
    obtain ⟨hcs, hk', ht'⟩ : ((kF (id', l) ≠ 0 ∧ c = kF (id', l)) ∨ (kF (id', l) = 0 ∧ Has ks id' ∧ c = 6) ∨ (kF (id', l) = 0 ∧ ¬ Has ks id' ∧ 3 ≤ ks.length ∧ c = 7) ∨ (kF (id', l) = 0 ∧ ¬ Has ks id' ∧ ks.length < 3 ∧ c = 0)) ∧ rk = 0 ∧ t = [] := by
      rcases HF.out with ⟨q, -⟩ | ⟨-, q1, q2, q3, q4⟩ | ⟨-, q1, q2, q3, q4, q5⟩ | ⟨-, q1, q2, q3, q4, q5, q6⟩ | ⟨-, -, -, -, q, -⟩
      · exact absurd h0 q
      · exact ⟨.inl ⟨q1, q2⟩, q3, q4⟩
      · exact ⟨.inr (.inl ⟨q1, q2, q3⟩), q4, q5⟩
      · exact ⟨.inr (.inr (.inl ⟨q1, q2, q3, q4⟩)), q5, q6⟩
      · exact absurd q hcz
    subst hk' ht'
    have F0 := hid h0
    have NZ := hid hcz
    have CS := hid hcs
    have KR := hid kr
    have KN := hid (show ks.length ≤ 3 by omega)
    have ne : (c != 0) = true := by rw [bne_iff_ne]; exact hcz
    clear h0 hcs hcz
    refine (iturned_ins p p c _ ks ks gc _ _ H.out hp F0.out VC.out kr k16 k1 (by omega) (hid fun W g b D hR hV hB => (iins1 g b gc p id' _ l ks D W hR hV (HU.out.below hB) hi c CS.out KN.out KR.out).mono fun e w' ⟨q1, _, q3⟩ => ⟨q1, fun q => absurd q NZ.out, q3⟩)).mono ?_
    rintro e w1 ⟨hz, -, hB⟩
    obtain rfl := hz NZ.out
    replace VR := hid (var_below hB VR.out)
    replace BB := hid (BB.out.trans (hB.mono BB.out.size))
    clear hB hz k1 k3 k16 kr kp VC
    obtain ⟨⟨r0, r1, r2⟩, y0, y1, y2⟩ := w3_facts VR.out
    have hset := hid (w3_set (x' := .int .i64 c) (y' := .int .i64 0) (z' := .slice none 0 0) VR.out)
    have hbel := hid (w3_below (g := g1) (x := .int .i64 c) (y := .int .i64 0) (z := .slice none 0 0) BB.out LG.out)
    go_wp2
    try simp only [Exit.inBlock, Exit.then]
    exact bodyPost_ret (v := .agg #[.int .i64 c, .int .i64 0, .slice none 0 0]) (results_cell_row rfl _ _ g1 44 _ _ _ rfl hset.out Try.underlying44 rfl (by kernel_rfl)) rfl ⟨_, rfl, OKs.nil _ _ _, hbel.out⟩
  obtain ⟨hx, hn, hl3, hk', ht'⟩ : kF (id', l) = 0 ∧ ¬ Has ks id' ∧ ks.length < 3 ∧ rk = p ∧ t = insK (id', l) ks := by
    rcases HF.out with ⟨q, -⟩ | ⟨-, q1, q2, -⟩ | ⟨-, -, -, q, -⟩ | ⟨-, -, -, -, q, -⟩ | ⟨-, q1, q2, q3, -, q5, q6⟩
    · exact absurd h0 q
    · exact absurd (q2.symm.trans hcz) q1
    · rw [hcz] at q; cases q
    · rw [hcz] at q; cases q
    · exact ⟨q1, q2, q3, q5, q6⟩
  have hk2 := hk'.symm
  clear hk'
  subst hcz hk2 ht'
  have F0 := hid h0
  have KR := hid kr
  have KN := hid (show ks.length ≤ 3 by omega)
  have CS := hid (show (kF (id', l) ≠ 0 ∧ (0 : Int) = kF (id', l)) ∨ (kF (id', l) = 0 ∧ Has ks id' ∧ (0 : Int) = 6) ∨ (kF (id', l) = 0 ∧ ¬ Has ks id' ∧ 3 ≤ ks.length ∧ (0 : Int) = 7) ∨ (kF (id', l) = 0 ∧ ¬ Has ks id' ∧ ks.length < 3 ∧ (0 : Int) = 0) from .inr (.inr (.inr ⟨hx, hn, hl3, rfl⟩)))
  have kl := insK_len (id', l) ks
  have kx := kF_ok hx
  clear h0
  refine (iturned_ins p p 0 _ ks (insK (id', l) ks) gc _ _ H.out hp F0.out VC.out (insK_rise kr hn) (insK_all (P := fun k => (1 ≤ k.1 ∧ k.1 ≤ 255) ∧ k.2.length = 16) k16 kx) (by omega) (by omega) (hid fun W g b D hR hV hB => iins1 g b gc p id' _ l ks D W hR hV (HU.out.below hB) hi 0 CS.out KN.out KR.out)).mono ?_
  rintro e w1 ⟨-, hz, hB⟩
  obtain ⟨v', rfl, hO⟩ := hz rfl
  have LS := hid BB.out.size
  have LW := hid (show g1 < w0.heap.size from LV.out)
  replace VR := hid (var_below hB VR.out)
  replace BB := hid (BB.out.trans (hB.mono BB.out.size))
  obtain ⟨pv, cv, rfl, -, -, -⟩ := hO.rd.parts
  have OU := hid hO
  obtain ⟨T, hT⟩ : ∃ T, T = insK (id', l) ks := ⟨_, rfl⟩
  rw [← hT] at OU ⊢
  have HT := hid hT
  obtain ⟨m, hm9⟩ : ∃ m, m = T.length := ⟨_, rfl⟩
  rw [← hm9] at OU ⊢
  replace hm9 := hid hm9
  clear hO hB hz hT k1 k3 k16 kr kp VC hx hn hl3 kl kx CS
  have OF := hid (((OU.out.low ⟨g1, 0, none⟩ LW.out (.int .i64 0)).low ⟨g1, 1, none⟩ LW.out (.int .i64 p)).low ⟨g1, 2, none⟩ LW.out (.slice pv m cv))
  obtain ⟨⟨r0, r1, r2⟩, y0, y1, y2⟩ := w3_facts VR.out
  have hset := hid (w3_set (x' := .int .i64 0) (y' := .int .i64 p) (z' := .slice pv m cv) VR.out)
  have hbel := hid (w3_below (g := g1) (x := .int .i64 0) (y := .int .i64 p) (z := .slice pv m cv) BB.out LG.out)
  go_wp2
  try simp only [Exit.inBlock, Exit.then]
  exact bodyPost_ret (v := .agg #[.int .i64 0, .int .i64 p, .slice pv m cv]) (results_cell_row rfl _ _ g1 44 _ _ _ rfl hset.out Try.underlying44 rfl (by kernel_rfl)) rfl ⟨_, rfl, by rw [← HT.out]; exact OF.out.mono LS.out (by rw [sizeT1, sizeT1, sizeT1]; exact Nat.le_refl _), hbel.out⟩
end Go.Proofs.Ytbfdbicddmffnab.W
