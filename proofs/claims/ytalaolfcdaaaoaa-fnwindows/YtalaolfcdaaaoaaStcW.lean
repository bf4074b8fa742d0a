/-
  What the model's TakeCounter and IsNews answer.
-/
import Derived.Test.YtalaolfcdaaaoaaTcF
import Derived.Test.YtalaolfcdaaaoaaL6kW
import Derived.Test.YtalaolfcdaaaoaaV3Z
namespace Go.Proofs.Ytalaolfcdaaaoaa.W
open Go.ChangeShapes Go.WideShapes Go.ChangeAt Go.RowKit
open Go.Proofs.Ytalaolfcdaaaoaa.M

set_option maxHeartbeats 2000000 in
set_option maxRecDepth 100000 in
theorem stc (top n : Int) (v : Value) (l : List Int) (c rk : Int) (lr : List Int) (w : World) (h : RdZ w v l) (hl : l.length ≤ 1048576) (hF : TcIs top l n c rk lr) :
    Calls Try.prog 45 #[.agg #[.int .i64 top, v], .int .i64 n] w fun e w' => ∃ u, e = .returned (.agg #[.int .i64 c, .int .i64 rk, u]) ∧ RdZ w' u lr ∧ Below w.heap.size w w' := by
  have H := hid h
  have HF := hid hF
  obtain ⟨a, ca, rfl, -, -, -⟩ := h.parts
  clear h hF
  go_enter Try.func45, Try.ntmps45
  go_wp2_with fail
  have VA := hid (heap_alloc2_old w (.cells #[.int .i64 top, .slice a l.length ca] 69) (.cells #[.int .i64 0, .int .i64 0, .slice none 0 0] 73))
  have VR := hid (heap_alloc2_new w (.cells #[.int .i64 top, .slice a l.length ca] 69) (.cells #[.int .i64 0, .int .i64 0, .slice none 0 0] 73))
  have BB := hid (below_alloc2 w (.cells #[.int .i64 top, .slice a l.length ca] 69) (.cells #[.int .i64 0, .int .i64 0, .slice none 0 0] 73))
  replace H := hid (H.out.below BB.out)
  have S2 := hid (show w.heap.size + 1 < ((w.alloc (.cells #[.int .i64 top, .slice a l.length ca] 69)).alloc (.cells #[.int .i64 0, .int .i64 0, .slice none 0 0] 73)).heap.size by simp)
  generalize (w.alloc (.cells #[.int .i64 top, .slice a l.length ca] 69)).alloc (.cells #[.int .i64 0, .int .i64 0, .slice none 0 0] 73) = w0 at *
  obtain ⟨gr, hgr⟩ : ∃ g, g = w.heap.size + 1 := ⟨_, rfl⟩
  rw [← hgr] at VR S2 ⊢
  have GR := hid (show w.heap.size ≤ gr by rw [hgr]; exact Nat.le_succ _)
  clear hgr
  obtain ⟨ga, hga⟩ : ∃ g, g = w.heap.size := ⟨_, rfl⟩
  rw [← hga] at VA ⊢
  clear hga
  refine (swf top _ l _ H.out).mono ?_
  rintro e w1 ⟨rfl, hB⟩
  replace VA := hid (var_below hB VA.out)
  replace VR := hid (var_below hB VR.out)
  replace H := hid (H.out.below hB)
  replace BB := hid (BB.out.trans (hB.mono BB.out.size))
  replace S2 := hid (Nat.lt_of_lt_of_le S2.out hB.size)
  clear hB
  rcases HF.out with ⟨h1, rfl, rfl, rfl⟩ | ⟨h1, h2, rfl, rfl, rfl⟩ | ⟨h1, h2, rfl, rfl, rfl⟩
  · obtain ⟨cc, hcc⟩ : ∃ c, c = wF top l := ⟨_, rfl⟩
    rw [← hcc] at h1 ⊢
    have ne : (cc != 0) = true := by rw [bne_iff_ne]; exact h1
    have HCC := hid hcc
    clear hcc h1 HF
    obtain ⟨⟨z0, z1, z2⟩, z3, z4, z5⟩ := var3_facts VR.out
    have HS := hid (var3_setZ (x' := .int .i64 cc) (y' := .int .i64 0) (z' := .slice none 0 0) VR.out)
    have HW := hid (below_set3Z (x := .int .i64 cc) (y := .int .i64 0) (z := .slice none 0 0) BB.out GR.out)
    go_wp2
    try simp only [Exit.inBlock, Exit.then]
    exact bodyPost_ret (v := .agg #[.int .i64 cc, .int .i64 0, .slice none 0 0]) (results_cell_row rfl _ _ gr 73 _ _ _ rfl HS.out Try.underlying73 rfl (by kernel_rfl)) rfl ⟨_, by rw [HCC.out], RdZ.nil _, HW.out⟩
  · rw [h1]
    have WK := hid (wF_zero h1)
    have h2' := hid h2
    clear h1 h2 HF
    go_wp2_with fail
    refine (l6t_no ga top n _ l _ VA.out H.out WK.out.rng h2'.out).mono ?_
    rintro e w2 ⟨rfl, hB⟩
    replace VR := hid (var_below hB VR.out)
    replace BB := hid (BB.out.trans (hB.mono BB.out.size))
    clear hB
    have hA := below_alloc1 w2 (.cells #[.int .i64 0, .slice none 0 0] 69)
    have VN := hid (heap_alloc_new w2 (.cells #[.int .i64 0, .slice none 0 0] 69))
    replace VR := hid (var_below hA VR.out)
    replace BB := hid (BB.out.trans (hA.mono BB.out.size))
    clear hA
    obtain ⟨n0, n1, -, -⟩ := var2_facts VN.out
    obtain ⟨cc, hcc⟩ : ∃ c, c = tkC top l n := ⟨_, rfl⟩
    rw [← hcc]
    have HCC := hid hcc
    clear hcc h2'
    obtain ⟨⟨z0, z1, z2⟩, z3, z4, z5⟩ := var3_facts VR.out
    have HS := hid (var3_setZ (x' := .int .i64 cc) (y' := .int .i64 0) (z' := .slice none 0 0) VR.out)
    have HW := hid (below_set3Z (x := .int .i64 cc) (y := .int .i64 0) (z := .slice none 0 0) BB.out GR.out)
    go_wp2
    try simp only [Exit.inBlock, Exit.then]
    exact bodyPost_ret (v := .agg #[.int .i64 cc, .int .i64 0, .slice none 0 0]) (results_cell_row rfl _ _ gr 73 _ _ _ rfl HS.out Try.underlying73 rfl (by kernel_rfl)) rfl ⟨_, by rw [HCC.out], RdZ.nil _, HW.out⟩
  · rw [h1]
    have WK := hid (wF_zero h1)
    have h2' := hid h2
    clear h1 h2 HF
    go_wp2_with fail
    refine (l6t_ok ga top n _ l _ VA.out H.out WK.out.rng h2'.out hl).mono ?_
    rintro e w2 ⟨u, rfl, hO, hB⟩
    obtain ⟨pu, cu, rfl, -, -, -⟩ := hO.rd.parts
    obtain ⟨lr, hlr⟩ : ∃ x, x = insZ (tkT top n - 16) n l := ⟨_, rfl⟩
    rw [← hlr] at hO ⊢
    replace VR := hid (var_below hB VR.out)
    replace BB := hid (BB.out.trans (hB.mono BB.out.size))
    have HLR := hid hlr
    clear hB hlr
    have hA := below_alloc1 w2 (.cells #[.int .i64 (tkT top n), .slice pu lr.length cu] 69)
    have VN := hid (heap_alloc_new w2 (.cells #[.int .i64 (tkT top n), .slice pu lr.length cu] 69))
    replace VR := hid (var_below hA VR.out)
    replace BB := hid (BB.out.trans (hA.mono BB.out.size))
    have OL := hid (hO.below hA)
    clear hA hO
    obtain ⟨n0, n1, -, -⟩ := var2_facts VN.out
    obtain ⟨⟨z0, z1, z2⟩, z3, z4, z5⟩ := var3_facts VR.out
    have HS := hid (var3_setZ (x' := .int .i64 0) (y' := .int .i64 (tkT top n)) (z' := .slice pu lr.length cu) VR.out)
    have HW := hid (below_set3Z (x := .int .i64 0) (y := .int .i64 (tkT top n)) (z := .slice pu lr.length cu) BB.out GR.out)
    have HO := hid (OwZ.set3 (x := .int .i64 0) (y := .int .i64 (tkT top n)) (z := .slice pu lr.length cu) OL.out S2.out)
    go_wp2
    try simp only [Exit.inBlock, Exit.then]
    exact bodyPost_ret (v := .agg #[.int .i64 0, .int .i64 (tkT top n), .slice pu lr.length cu]) (results_cell_row rfl _ _ gr 73 _ _ _ rfl HS.out Try.underlying73 rfl (by kernel_rfl)) rfl ⟨_, rfl, by rw [← HLR.out]; exact HO.out.rd, HW.out⟩
end Go.Proofs.Ytalaolfcdaaaoaa.W
