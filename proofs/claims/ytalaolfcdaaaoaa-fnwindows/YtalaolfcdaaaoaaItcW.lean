/-
  What the program's TakeCounter and IsNews answer.
-/
import Derived.Test.YtalaolfcdaaaoaaTakW
import Derived.Test.YtalaolfcdaaaoaaTelW
import Derived.Test.YtalaolfcdaaaoaaV3Z
namespace Go.Proofs.Ytalaolfcdaaaoaa.W
open Go.ChangeShapes Go.WideShapes Go.ChangeAt Go.RowKit Go.Maps
open Go.Proofs.Ytalaolfcdaaaoaa.M

set_option maxHeartbeats 2000000 in
set_option maxRecDepth 100000 in
theorem itc (top n : Int) (v : Value) (l : List Int) (c rk : Int) (lr : List Int) (w : World) (h : RdZ w v l) (hy : WfZ l) (hl : l.length ≤ 1048576) (hF : TcIs top l n c rk lr) :
    Calls Try.prog 41 #[.agg #[.int .i64 top, v], .int .i64 n] w fun e w' => ∃ u, e = .returned (.agg #[.int .i64 c, .int .i64 rk, u]) ∧ OZ w' w.heap.size w'.heap.size u lr ∧ Below w.heap.size w w' := by
  have H := hid h
  have HY := hid hy
  have HF := hid hF
  obtain ⟨a, ca, rfl, -, -, -⟩ := h.parts
  clear h hF hy
  go_enter Try.func41, Try.ntmps41
  go_wp2_with fail
  have VR := hid (heap_alloc2_new w (.cells #[.int .i64 top, .slice a l.length ca] 69) (.cells #[.int .i64 0, .int .i64 0, .slice none 0 0] 73))
  have BB := hid (below_alloc2 w (.cells #[.int .i64 top, .slice a l.length ca] 69) (.cells #[.int .i64 0, .int .i64 0, .slice none 0 0] 73))
  replace H := hid (H.out.below BB.out)
  have S2 := hid (show w.heap.size + 1 < ((w.alloc (.cells #[.int .i64 top, .slice a l.length ca] 69)).alloc (.cells #[.int .i64 0, .int .i64 0, .slice none 0 0] 73)).heap.size by simp)
  generalize (w.alloc (.cells #[.int .i64 top, .slice a l.length ca] 69)).alloc (.cells #[.int .i64 0, .int .i64 0, .slice none 0 0] 73) = w0 at *
  obtain ⟨gr, hgr⟩ : ∃ g, g = w.heap.size + 1 := ⟨_, rfl⟩
  rw [← hgr] at VR S2 ⊢
  have GR := hid (show w.heap.size ≤ gr by rw [hgr]; exact Nat.le_succ _)
  clear hgr
  refine (iso top _ l _ H.out HY.out hl).mono ?_
  rintro e w1 ⟨r, rfl, hP, hB⟩
  have HP := hid hP
  replace VR := hid (var_below hB VR.out)
  replace BB := hid (BB.out.trans (hB.mono BB.out.size))
  have SZ := hid BB.out.size
  clear hB hP
  rcases HF.out with ⟨h1, rfl, rfl, rfl⟩ | ⟨h1, h2, rfl, rfl, rfl⟩ | ⟨h1, h2, rfl, rfl, rfl⟩
  · obtain ⟨cc, hcc⟩ : ∃ c, c = wF top l := ⟨_, rfl⟩
    rw [← hcc] at h1 ⊢
    have ne : (cc != 0) = true := by rw [bne_iff_ne]; exact h1
    have HCC := hid hcc
    clear hcc h1 HF HP
    obtain ⟨⟨z0, z1, z2⟩, z3, z4, z5⟩ := var3_facts VR.out
    have HS := hid (var3_setZ (x' := .int .i64 cc) (y' := .int .i64 0) (z' := .slice none 0 0) VR.out)
    have HX := hid (below_set3Z (x := .int .i64 cc) (y := .int .i64 0) (z := .slice none 0 0) BB.out GR.out)
    go_wp2
    try simp only [Exit.inBlock, Exit.then]
    exact bodyPost_ret (v := .agg #[.int .i64 cc, .int .i64 0, .slice none 0 0]) (results_cell_row rfl _ _ gr 73 _ _ _ rfl HS.out Try.underlying73 rfl (by kernel_rfl)) rfl ⟨_, by rw [HCC.out], OZ.nil _ _ _, HX.out⟩
  · obtain ⟨g, b, rfl, hg, hb, hW⟩ := HP.out h1
    rw [h1]
    have WK := hid (wF_zero h1)
    have HW := hid hW
    have h2' := hid h2
    clear h1 h2 HF HP hW
    go_wp2_with fail
    refine (itk_no g b l.length top n l _ HW.out WK.out h2'.out).mono ?_
    rintro e w2 ⟨rfl, hB⟩
    replace VR := hid (var_below hB VR.out)
    replace BB := hid (BB.out.trans (hB.mono BB.out.size))
    clear hB
    obtain ⟨cc, hcc⟩ : ∃ c, c = tkC top l n := ⟨_, rfl⟩
    rw [← hcc] at h2' ⊢
    have ne : (cc != 0) = true := by rw [bne_iff_ne]; exact h2'.out
    have HCC := hid hcc
    clear hcc h2'
    obtain ⟨⟨z0, z1, z2⟩, z3, z4, z5⟩ := var3_facts VR.out
    have HS := hid (var3_setZ (x' := .int .i64 cc) (y' := .int .i64 0) (z' := .slice none 0 0) VR.out)
    have HX := hid (below_set3Z (x := .int .i64 cc) (y := .int .i64 0) (z := .slice none 0 0) BB.out GR.out)
    go_wp2
    try simp only [Exit.inBlock, Exit.then]
    exact bodyPost_ret (v := .agg #[.int .i64 cc, .int .i64 0, .slice none 0 0]) (results_cell_row rfl _ _ gr 73 _ _ _ rfl HS.out Try.underlying73 rfl (by kernel_rfl)) rfl ⟨_, by rw [HCC.out], OZ.nil _ _ _, HX.out⟩
  · obtain ⟨g, b, rfl, hg, hb, hW⟩ := HP.out h1
    rw [h1]
    have WK := hid (wF_zero h1)
    have HW := hid hW
    have h2' := hid h2
    have LG := hid (show gr < g from Nat.lt_of_lt_of_le S2.out hg)
    have LB := hid (show gr < b from Nat.lt_of_lt_of_le S2.out hb)
    clear h1 h2 HF HP hW hg hb
    go_wp2_with fail
    refine (itk_ok g b l.length top n l _ HW.out WK.out h2'.out (by omega)).mono ?_
    rintro e w2 ⟨rfl, hW2, hB⟩
    have W2 := hid hW2
    have K2 := hid (WK.out.take h2'.out)
    replace VR := hid (var_keep (hB (gr + 1) LG.out LB.out (var_lt VR.out)) VR.out (Nat.lt_succ_self _))
    replace BB := hid (BB.out.trans (hB w.heap.size (Nat.le_trans GR.out (Nat.le_of_lt LG.out)) (Nat.le_trans GR.out (Nat.le_of_lt LB.out)) SZ.out))
    clear hB hW2 HW
    obtain ⟨lr, hlr⟩ : ∃ x, x = insZ (tkT top n - 16) n l := ⟨_, rfl⟩
    rw [← hlr] at W2 K2
    have HLR := hid hlr
    clear hlr
    go_wp2_with fail
    refine (itel g b (l.length + 1) (tkT top n) lr _ W2.out K2.out.ris (fun x hx => WalkArith.wf_i64 (by have := K2.out.mem x hx; have := K2.out.rng; omega)) (by omega)).mono ?_
    rintro e w3 ⟨u, rfl, hO, hB⟩
    obtain ⟨pu, cu, rfl, -, -, -⟩ := hO.rd.parts
    have L3 := hid (var_lt VR.out)
    replace VR := hid (var_below hB VR.out)
    have S3 := hid BB.out.size
    replace BB := hid (BB.out.trans (hB.mono BB.out.size))
    have OL := hid hO
    clear hO hB
    obtain ⟨⟨z0, z1, z2⟩, z3, z4, z5⟩ := var3_facts VR.out
    have HS := hid (var3_setZ (x' := .int .i64 0) (y' := .int .i64 (tkT top n)) (z' := .slice pu lr.length cu) VR.out)
    have HX := hid (below_set3Z (x := .int .i64 0) (y := .int .i64 (tkT top n)) (z := .slice pu lr.length cu) BB.out GR.out)
    have HO := hid (OZ.of ((OwZ.set3 (x := .int .i64 0) (y := .int .i64 (tkT top n)) (z := .slice pu lr.length cu) OL.out L3.out).mono S3.out))
    go_wp2
    try simp only [Exit.inBlock, Exit.then]
    exact bodyPost_ret (v := .agg #[.int .i64 0, .int .i64 (tkT top n), .slice pu lr.length cu]) (results_cell_row rfl _ _ gr 73 _ _ _ rfl HS.out Try.underlying73 rfl (by kernel_rfl)) rfl ⟨_, rfl, by rw [← HLR.out]; exact HO.out, HX.out⟩
set_option maxRecDepth 100000 in
theorem inews (top n : Int) (v : Value) (l : List Int) (w : World) (h : RdZ w v l) (hy : WfZ l) (hl : l.length ≤ 1048576) :
    Calls Try.prog 47 #[.agg #[.int .i64 top, v], .int .i64 n] w fun e w' => e = .returned (.bool (newsB top l n)) ∧ Below w.heap.size w w' := by
  have H := hid h
  have HY := hid hy
  obtain ⟨c, rk, lr, hF⟩ := tc_some top l n
  have HF := hid hF
  obtain ⟨a, ca, rfl, -, -, -⟩ := h.parts
  clear h hF hy
  go_enter Try.func47, Try.ntmps47
  go_wp2_with fail
  have hA := below_alloc1 w (.cells #[.int .i64 top, .slice a l.length ca] 69)
  refine (itc top n _ l c rk lr _ (H.out.below hA) HY.out hl HF.out).mono ?_
  rintro e w1 ⟨u, rfl, -, hB⟩
  have BB := hid (hA.trans (hB.mono hA.size))
  clear hA hB
  have E := hid HF.out.news
  have hf := fldWR c rk u
  by_cases hc : c = 0
  · subst hc
    rw [show decide ((0 : Int) = 0) = true from rfl] at E
    go_wp2
    go_ret
    exact ⟨ret_b E.out.symm, BB.out⟩
  rw [decide_eq_false hc] at E
  have hb : (c == 0) = false := by simpa using hc
  rw [← hb] at E
  clear hb
  go_wp2
  go_ret
  exact ⟨ret_b E.out.symm, BB.out⟩
end Go.Proofs.Ytalaolfcdaaaoaa.W
