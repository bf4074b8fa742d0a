/-
  A ring that is turned: what the program's TurnRing answers.
-/
import Derived.Test.YtbfdbicddmffnabIttW
import Derived.Test.YtbfdbicddmffnabIikW
namespace Go.Proofs.Ytbfdbicddmffnab.W
open Go.ChangeShapes Go.WideShapes Go.ChangeAt Go.RowKit
open Go.Proofs.Ytbfdbicddmffnab.M
/-- What TurnRing tells. -/
def trIs (p op : Int) (ks : List (Int × List Nat)) (id' : Int) (l : List Nat) (c rk : Int) (t : List (Int × List Nat)) : Prop :=
  (rF p ks ≠ 0 ∧ c = rF p ks ∧ rk = 0 ∧ t = []) ∨ (rF p ks = 0 ∧ ∃ p' ks', tnIs p op id' l ks c p' ks' ∧ ((c ≠ 0 ∧ rk = 0 ∧ t = []) ∨ (c = 0 ∧ rk = p' ∧ t = ks')))
theorem tn_good {p op id' p' : Int} {l : List Nat} {ks ks' : List (Int × List Nat)} (h0 : rF p ks = 0) (h : tnIs p op id' l ks 0 p' ks') : Rise ks' ∧ (∀ i (hi : i < ks'.length), ((1 ≤ (ks'[i]).1 ∧ (ks'[i]).1 ≤ 255) ∧ (ks'[i]).2.length = 16)) ∧ 1 ≤ ks'.length ∧ ks'.length ≤ 3 := by
  obtain ⟨k1, k3, k16, kr, kp⟩ := rF_parts h0
  rcases h with ⟨-, -, rfl, h⟩ | ⟨-, -, -, rfl, -⟩ | ⟨-, -, -, rfl, h⟩ | ⟨-, -, q⟩
  · rcases h with ⟨q, q2⟩ | ⟨-, -, q⟩ | ⟨-, -, -, q⟩ | ⟨hx, hn, hl3, -⟩
    · exact absurd q2.symm q
    · cases q
    · cases q
    · have kl := insK_len (id', l) ks
      exact ⟨insK_rise kr hn, insK_all (P := fun k => (1 ≤ k.1 ∧ k.1 ≤ 255) ∧ k.2.length = 16) k16 (kF_ok hx), by omega, by omega⟩
  · exact ⟨kr, k16, k1, k3⟩
  · rcases h with ⟨-, hne, -⟩ | ⟨-, -, q⟩ | ⟨-, q⟩
    · have := rm_len id' ks
      exact ⟨rm_rise kr, rm_all (P := fun k => (1 ≤ k.1 ∧ k.1 ≤ 255) ∧ k.2.length = 16) k16, rm_one kp hne, by omega⟩
    · cases q
    · cases q
  · cases q
set_option maxHeartbeats 1000000 in
set_option maxRecDepth 100000 in
theorem iturn1 (g b gp gc : Nat) (p op id' : Int) (v : Value) (l : List Nat) (ks : List (Int × List Nat)) (D : DataW Value) (w : World) (hR : Ring1 w g b p ks D) (hO : w.heap[gp]? = some (.cells #[.int .i64 op] 2)) (hV : w.heap[gc]? = some (.cells #[.int .i64 id', v] 40)) (h : Rd w v l) (hw : (Lit.int .i64 id').wf = true) (code p' : Int) (ks' : List (Int × List Nat)) (hc : tnIs p op id' l ks code p' ks') (hl : ks.length ≤ 3) (hr : Rise ks) :
    Calls Try.prog 98 #[.pointer (some ⟨g, 0, none⟩), .pointer (some ⟨gp, 0, none⟩), .pointer (some ⟨gc, 0, none⟩)] w fun e w' => e = .returned (.int .i64 code) ∧ (code = 0 → ∃ (D' : DataW Value) (nn : Nat), nn ≤ 1000 ∧ w'.heap[g]? = some (.cells #[.int .i64 p', .map (some b)] 119) ∧ MapK w' b nn D' ∧ HasTo ks' ks'.length D' ∧ AtTo ks' ks'.length D') ∧ ∀ B, B ≤ g → B ≤ b → B ≤ w.heap.size → Below B w w' := by
  have R1 := hid hR
  have HV := hid h
  have HCC := hid hc
  obtain ⟨a, cap, rfl, -, -, -⟩ := h.parts
  obtain ⟨c0, c1, -, -⟩ := var2_facts hV
  have o0 := cell_of_row w gp 0 _ _ _ hO
  clear hR hV hc h hO
  go_enter Try.func98, Try.ntmps98
  go_wp2_with fail
  refine (iturn g b p op id' _ l ks D _ R1.out HV.out hw code p' ks' HCC.out hl hr).mono ?_
  rintro e w1 ⟨rfl, h1, h2⟩
  replace h1 := hid h1
  replace h2 := hid h2
  clear c0 c1 o0
  go_wp2
  go_ret
  exact ⟨rfl, h1.out, h2.out⟩
set_option maxHeartbeats 4000000 in
set_option maxRecDepth 100000 in
theorem itn (p op id' c rk : Int) (v u : Value) (ks t : List (Int × List Nat)) (l : List Nat) (w : World) (h : RdK w v ks) (hu : Rd w u l) (hp : (Lit.int .i64 p).wf = true) (hi : (Lit.int .i64 id').wf = true) (hF : trIs p op ks id' l c rk t) :
    Calls Try.prog 40 #[.agg #[.int .i64 p, v], .int .i64 op, .agg #[.int .i64 id', u]] w fun e w' => ∃ v', e = .returned (.agg #[.int .i64 c, .int .i64 rk, v']) ∧ OKs w' w.heap.size w'.heap.size v' t ∧ Below w.heap.size w w' := by
  have H := hid h
  have HU := hid hu
  have HF := hid hF
  obtain ⟨a, cap, rfl, -, -, -⟩ := h.parts
  obtain ⟨au, cu, rfl, -, -, -⟩ := hu.parts
  clear h hF hu
  go_enter Try.func40, Try.ntmps40
  go_wp2_with fail
  have VP := hid (var_alloc (.cells #[.int .i64 0, .int .i64 0, .slice none 0 0] 44) (heap_alloc2_old (w.alloc (.cells #[.int .i64 p, .slice a ks.length cap] 38)) (.cells #[.int .i64 op] 2) (.cells #[.int .i64 id', .slice au l.length cu] 40)))
  have VC := hid (heap_alloc2_old ((w.alloc (.cells #[.int .i64 p, .slice a ks.length cap] 38)).alloc (.cells #[.int .i64 op] 2)) (.cells #[.int .i64 id', .slice au l.length cu] 40) (.cells #[.int .i64 0, .int .i64 0, .slice none 0 0] 44))
  have VR := hid (heap_alloc2_new ((w.alloc (.cells #[.int .i64 p, .slice a ks.length cap] 38)).alloc (.cells #[.int .i64 op] 2)) (.cells #[.int .i64 id', .slice au l.length cu] 40) (.cells #[.int .i64 0, .int .i64 0, .slice none 0 0] 44))
  have BB := hid ((below_alloc2 w (.cells #[.int .i64 p, .slice a ks.length cap] 38) (.cells #[.int .i64 op] 2)).trans ((below_alloc2 ((w.alloc (.cells #[.int .i64 p, .slice a ks.length cap] 38)).alloc (.cells #[.int .i64 op] 2)) (.cells #[.int .i64 id', .slice au l.length cu] 40) (.cells #[.int .i64 0, .int .i64 0, .slice none 0 0] 44)).mono (by simp; omega)))
  simp only [World.size_alloc] at VP VC VR
  replace H := hid (H.out.below BB.out)
  replace HU := hid (HU.out.below BB.out)
  generalize (((w.alloc (.cells #[.int .i64 p, .slice a ks.length cap] 38)).alloc (.cells #[.int .i64 op] 2)).alloc (.cells #[.int .i64 id', .slice au l.length cu] 40)).alloc (.cells #[.int .i64 0, .int .i64 0, .slice none 0 0] 44) = w0 at *
  obtain ⟨g1, hg1⟩ : ∃ g, g = w.heap.size + 1 + 1 + 1 := ⟨_, rfl⟩
  obtain ⟨gc, hgc⟩ : ∃ g, g = w.heap.size + 1 + 1 := ⟨_, rfl⟩
  obtain ⟨gp, hgp⟩ : ∃ g, g = w.heap.size + 1 := ⟨_, rfl⟩
  have LG := hid (show w.heap.size ≤ g1 by omega)
  rw [← hg1] at VR
  rw [← hgc] at VC
  rw [← hgp] at VP
  try rw [← hg1]
  try rw [← hgc]
  try rw [← hgp]
  clear hgp hgc hg1
  have LV := hid (show g1 < w0.heap.size from var_lt VR.out)
  by_cases h0 : rF p ks = 0
  case neg =>
    obtain ⟨hc, hk', ht'⟩ : c = rF p ks ∧ rk = 0 ∧ t = [] := by
      rcases HF.out with ⟨-, q⟩ | ⟨q, -⟩
      · exact q
      · exact absurd q h0
    subst hk' ht'
    refine (iturned_bad p c _ _ ks _ H.out hp h0 hc).mono ?_
    rintro e w1 ⟨rfl, hB⟩
    replace VR := hid (var_below hB VR.out)
    replace BB := hid (BB.out.trans (hB.mono BB.out.size))
    replace hc := hid hc
    replace h0 := hid h0
    clear hB VC VP
    obtain ⟨⟨r0, r1, r2⟩, y0, y1, y2⟩ := w3_facts VR.out
    have hset := hid (w3_set (x' := .int .i64 c) (y' := .int .i64 0) (z' := .slice none 0 0) VR.out)
    have hbel := hid (w3_below (g := g1) (x := .int .i64 c) (y := .int .i64 0) (z := .slice none 0 0) BB.out LG.out)
    go_wp2
    try simp only [Exit.inBlock, Exit.then]
    exact bodyPost_ret (v := .agg #[.int .i64 c, .int .i64 0, .slice none 0 0]) (results_cell_row rfl _ _ g1 44 _ _ _ rfl hset.out Try.underlying44 rfl (by kernel_rfl)) rfl ⟨_, rfl, OKs.nil _ _ _, hbel.out⟩
  obtain ⟨p', ks', HT⟩ : ∃ p' ks', Hid (tnIs p op id' l ks c p' ks' ∧ ((c ≠ 0 ∧ rk = 0 ∧ t = []) ∨ (c = 0 ∧ rk = p' ∧ t = ks'))) := by
    rcases HF.out with ⟨q, -⟩ | ⟨-, p', ks', q⟩
    · exact absurd h0 q
    · exact ⟨p', ks', hid q⟩
  obtain ⟨k1, k3, k16, kr, -⟩ := rF_parts h0
  have F0 := hid h0
  have KR := hid kr
  have KN := hid (show ks.length ≤ 3 by omega)
  clear h0 HF
  by_cases hcz : c = 0
  case neg =>
    obtain ⟨hk', ht'⟩ : rk = 0 ∧ t = [] := by
      rcases HT.out.2 with ⟨-, q⟩ | ⟨q, -⟩
      · exact q
      · exact absurd q hcz
    subst hk' ht'
    have NZ := hid hcz
    have ne : (c != 0) = true := by rw [bne_iff_ne]; exact hcz
    have TN := hid HT.out.1
    clear hcz HT
    refine (iturned_tn p p c _ ks ks _ _ _ H.out hp F0.out kr k16 k1 (by omega) (hid fun W g b D hR hB => (iturn1 g b gp gc p op id' _ l ks D W hR (var_below hB VP.out) (var_below hB VC.out) (HU.out.below hB) hi c p' ks' TN.out KN.out KR.out).mono fun e w' ⟨q1, _, q3⟩ => ⟨q1, fun q => absurd q NZ.out, q3⟩)).mono ?_
    rintro e w1 ⟨hz, -, hB⟩
    obtain rfl := hz NZ.out
    replace VR := hid (var_below hB VR.out)
    replace BB := hid (BB.out.trans (hB.mono BB.out.size))
    clear hB hz k1 k3 k16 kr VC VP
    obtain ⟨⟨r0, r1, r2⟩, y0, y1, y2⟩ := w3_facts VR.out
    have hset := hid (w3_set (x' := .int .i64 c) (y' := .int .i64 0) (z' := .slice none 0 0) VR.out)
    have hbel := hid (w3_below (g := g1) (x := .int .i64 c) (y := .int .i64 0) (z := .slice none 0 0) BB.out LG.out)
    go_wp2
    try simp only [Exit.inBlock, Exit.then]
    exact bodyPost_ret (v := .agg #[.int .i64 c, .int .i64 0, .slice none 0 0]) (results_cell_row rfl _ _ g1 44 _ _ _ rfl hset.out Try.underlying44 rfl (by kernel_rfl)) rfl ⟨_, rfl, OKs.nil _ _ _, hbel.out⟩
  subst hcz
  obtain ⟨hk', ht'⟩ : rk = p' ∧ t = ks' := by
    rcases HT.out.2 with ⟨q, -⟩ | ⟨-, q⟩
    · exact absurd rfl q
    · exact q
  subst hk' ht'
  have TN := hid HT.out.1
  obtain ⟨tr, t16, t1, t3⟩ := tn_good F0.out TN.out
  clear HT
  refine (iturned_tn p rk 0 _ ks t _ _ _ H.out hp F0.out tr t16 t1 (by omega) (hid fun W g b D hR hB => iturn1 g b gp gc p op id' _ l ks D W hR (var_below hB VP.out) (var_below hB VC.out) (HU.out.below hB) hi 0 rk t TN.out KN.out KR.out)).mono ?_
  rintro e w1 ⟨-, hz, hB⟩
  obtain ⟨v', rfl, hO⟩ := hz rfl
  have LS := hid BB.out.size
  have LW := hid (show g1 < w0.heap.size from LV.out)
  replace VR := hid (var_below hB VR.out)
  replace BB := hid (BB.out.trans (hB.mono BB.out.size))
  obtain ⟨pv, cv, rfl, -, -, -⟩ := hO.rd.parts
  have OU := hid hO
  obtain ⟨m, hm9⟩ : ∃ m, m = t.length := ⟨_, rfl⟩
  rw [← hm9] at OU ⊢
  replace hm9 := hid hm9
  clear hO hB hz k1 k3 k16 kr VC VP tr t16 t1 t3
  have OF := hid (((OU.out.low ⟨g1, 0, none⟩ LW.out (.int .i64 0)).low ⟨g1, 1, none⟩ LW.out (.int .i64 rk)).low ⟨g1, 2, none⟩ LW.out (.slice pv m cv))
  obtain ⟨⟨r0, r1, r2⟩, y0, y1, y2⟩ := w3_facts VR.out
  have hset := hid (w3_set (x' := .int .i64 0) (y' := .int .i64 rk) (z' := .slice pv m cv) VR.out)
  have hbel := hid (w3_below (g := g1) (x := .int .i64 0) (y := .int .i64 rk) (z := .slice pv m cv) BB.out LG.out)
  go_wp2
  try simp only [Exit.inBlock, Exit.then]
  exact bodyPost_ret (v := .agg #[.int .i64 0, .int .i64 rk, .slice pv m cv]) (results_cell_row rfl _ _ g1 44 _ _ _ rfl hset.out Try.underlying44 rfl (by kernel_rfl)) rfl ⟨_, rfl, OF.out.mono LS.out (by rw [sizeT1, sizeT1, sizeT1]; exact Nat.le_refl _), hbel.out⟩
end Go.Proofs.Ytbfdbicddmffnab.W
