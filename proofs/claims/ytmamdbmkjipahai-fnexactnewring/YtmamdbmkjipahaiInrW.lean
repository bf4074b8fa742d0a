/-
  A new ring with one key: what the impl's NewRing answers.
-/
import Derived.Test.YtmamdbmkjipahaiNrF
import Derived.Test.YtmamdbmkjipahaiTellW
import Derived.Test.YtmamdbmkjipahaiL4cW
namespace Go.Proofs.Ytmamdbmkjipahai.W
open Go.ChangeShapes Go.WideShapes Go.ChangeAt Go.RowKit
open Go.Proofs.Ytmamdbmkjipahai.M

set_option maxHeartbeats 2000000 in
set_option maxRecDepth 100000 in
theorem inr (p : Int) (v : Value) (l : List Nat) (c rk : Int) (t : List (Int × List Nat)) (w : World) (h : Rd w v l) (hp : (Lit.int .i64 p).wf = true) (hF : nrIs p l c rk t) :
    Calls Try.prog 31 #[.agg #[.int .i64 p, v]] w fun e w' => ∃ v', e = .returned (.agg #[.int .i64 c, .int .i64 rk, v']) ∧ OKs w' w.heap.size w'.heap.size v' t ∧ Below w.heap.size w w' := by
  have H := hid h
  have HF := hid hF
  obtain ⟨a, cap, rfl, -, -, -⟩ := h.parts
  clear h hF
  go_enter Try.func31, Try.ntmps31
  go_wp2_with fail
  have VR := hid (heap_alloc2_new w (.cells #[.int .i64 p, .slice a l.length cap] 53) (.cells #[.int .i64 0, .int .i64 0, .slice none 0 0] 51))
  have BB := hid (below_alloc2 w (.cells #[.int .i64 p, .slice a l.length cap] 53) (.cells #[.int .i64 0, .int .i64 0, .slice none 0 0] 51))
  have E0 : ((w.alloc (.cells #[.int .i64 p, .slice a l.length cap] 53)).alloc (.cells #[.int .i64 0, .int .i64 0, .slice none 0 0] 51)).heap.size = w.heap.size + 1 + 1 := by simp
  replace H := hid (H.out.below BB.out)
  generalize (w.alloc (.cells #[.int .i64 p, .slice a l.length cap] 53)).alloc (.cells #[.int .i64 0, .int .i64 0, .slice none 0 0] 51) = w0 at *
  obtain ⟨gs, hgs⟩ : ∃ g, g = w.heap.size + 1 + 1 := ⟨_, rfl⟩
  rw [← hgs] at E0 ⊢
  obtain ⟨gr, hgr⟩ : ∃ g, g = w.heap.size + 1 := ⟨_, rfl⟩
  have GR := hid (show w.heap.size ≤ gr by omega)
  rw [← hgr] at VR ⊢
  have VK := heap_alloc_new w0 (.cells #[.int .i64 p, .slice a l.length cap] 53)
  rw [E0] at VK
  have hA := below_alloc1 w0 (.cells #[.int .i64 p, .slice a l.length cap] 53)
  replace VR := hid (var_below hA VR.out)
  replace BB := hid (BB.out.trans (hA.mono BB.out.size))
  have RK := hid (rdk_one VK (H.out.below hA))
  clear hgs hgr VK hA E0 H
  generalize w0.alloc (.cells #[.int .i64 p, .slice a l.length cap] 53) = w1 at *
  refine (ikrD p _ [(p, l)] _ RK.out hp).mono ?_
  rintro e w2 ⟨r, rfl, hP, hB⟩
  have HP := hid hP
  replace VR := hid (var_below hB VR.out)
  replace BB := hid (BB.out.trans (hB.mono BB.out.size))
  clear hB hP
  rcases HF.out with ⟨h1, rfl, rfl, rfl⟩ | ⟨h1, rfl, rfl, rfl⟩
  · obtain ⟨cc, hcc⟩ : ∃ c, c = rF p [(p, l)] := ⟨_, rfl⟩
    rw [← hcc] at h1 ⊢
    have ne : (cc != 0) = true := by rw [bne_iff_ne]; exact h1
    have HCC := hid hcc
    clear hcc h1 HF HP
    obtain ⟨⟨r0, r1, r2⟩, y0, y1, y2⟩ := w3_facts VR.out
    have hset := hid (w3_set (x' := .int .i64 cc) (y' := .int .i64 0) (z' := .slice none 0 0) VR.out)
    have hbel := hid (w3_below (g := gr) (x := .int .i64 cc) (y := .int .i64 0) (z := .slice none 0 0) BB.out GR.out)
    go_wp2
    try simp only [Exit.inBlock, Exit.then]
    exact bodyPost_ret (v := .agg #[.int .i64 cc, .int .i64 0, .slice none 0 0]) (results_cell_row rfl _ _ gr 51 _ _ _ rfl hset.out Try.underlying51 rfl (by kernel_rfl)) rfl ⟨_, by rw [HCC.out], OKs.nil _ _ _, hbel.out⟩
  · obtain ⟨k1, -, k16, kr, -⟩ := rF_parts h1
    obtain ⟨g, b, D, rfl, -, -, hR⟩ := HP.out h1
    have K16 := hid k16
    have KR := hid kr
    have HR := hid hR
    rw [h1]
    clear h1 HF k16 kr k1 hR HP
    go_wp2_with fail
    refine (itell g b _ _ [(rk, l)] D _ HR.out.block HR.out.map (by simp) HR.out.has HR.out.bytes KR.out K16.out (by simp) (by simp)).mono ?_
    rintro e w3 ⟨v', rfl, hO, hB⟩
    obtain ⟨pv, cv, e', -, -, -⟩ := hO.rd.parts
    have e1 : [(rk, l)].length = 1 := rfl
    rw [e1] at e'
    subst e'
    have L3 := hid (var_lt VR.out)
    have S3 := hid BB.out.size
    replace VR := hid (var_below hB VR.out)
    replace BB := hid (BB.out.trans (hB.mono BB.out.size))
    have OF := hid (((hO.low ⟨gr, 0, none⟩ L3.out (.int .i64 0)).low ⟨gr, 1, none⟩ L3.out (.int .i64 rk)).low ⟨gr, 2, none⟩ L3.out (.slice pv 1 cv))
    clear hO hB e1
    obtain ⟨⟨r0, r1, r2⟩, y0, y1, y2⟩ := w3_facts VR.out
    have hset := hid (w3_set (x' := .int .i64 0) (y' := .int .i64 rk) (z' := .slice pv 1 cv) VR.out)
    have hbel := hid (w3_below (g := gr) (x := .int .i64 0) (y := .int .i64 rk) (z := .slice pv 1 cv) BB.out GR.out)
    go_wp2
    try simp only [Exit.inBlock, Exit.then]
    exact bodyPost_ret (v := .agg #[.int .i64 0, .int .i64 rk, .slice pv 1 cv]) (results_cell_row rfl _ _ gr 51 _ _ _ rfl hset.out Try.underlying51 rfl (by kernel_rfl)) rfl ⟨_, rfl, OF.out.mono S3.out (by simp only [size_set1]; exact Nat.le_refl _), hbel.out⟩
end Go.Proofs.Ytmamdbmkjipahai.W
