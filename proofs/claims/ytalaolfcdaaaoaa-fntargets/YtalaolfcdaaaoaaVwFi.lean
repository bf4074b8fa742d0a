/-
  What the program's FindClaim answers.
-/
import Derived.Test.YtalaolfcdaaaoaaVwFx
import Derived.Test.YtalaolfcdaaaoaaLetV
import Derived.Test.YtalaolfcdaaaoaaLetF
import Derived.Test.YtalaolfcdaaaoaaVwV
import Derived.Test.YtalaolfcdaaaoaaVwP2
namespace Go.Proofs.Ytalaolfcdaaaoaa.W
open Go.ChangeShapes Go.WideShapes Go.ChangeAt Go.RowKit
open Go.Proofs.Ytalaolfcdaaaoaa.M

set_option maxHeartbeats 1000000 in
set_option maxRecDepth 100000 in
theorem ifc (v : Value) (cs : List Clm) (n : Int) (w : World) (h : RdC w v cs) :
    Calls Try.prog 17 #[v, .int .i64 n] w fun e w' => ∃ u, e = .returned (.agg #[.int .i64 (fcC cs n), u, .bool false]) ∧ OC w' w.heap.size w'.heap.size u (fcL cs n) ∧ Below w.heap.size w w' := by
  have H := hid h
  obtain ⟨a, cap, rfl, hc, hm, -⟩ := h.parts
  clear h hc hm
  go_enter Try.func17, Try.ntmps17
  have V := hid (heap_alloc_new w (.cells #[.int .i64 0, .slice none 0 0, .bool false] 40))
  have BB := hid (below_alloc1 w (.cells #[.int .i64 0, .slice none 0 0, .bool false] 40))
  go_wp2_with fail
  generalize w.alloc (.cells #[.int .i64 0, .slice none 0 0, .bool false] 40) = w0 at *
  replace H := hid (H.out.below BB.out)
  have LT := hid (var_lt V.out)
  obtain ⟨g, hg⟩ : ∃ g, g = w.heap.size := ⟨_, rfl⟩
  rw [← hg] at V LT ⊢
  have GL := hid (show w.heap.size ≤ g by omega)
  clear hg
  refine (ivf _ cs _ H.out).mono ?_
  rintro e w1 ⟨rfl, hB⟩
  replace V := hid (var_below hB V.out)
  replace H := hid (H.out.below hB)
  replace BB := hid (BB.out.trans (hB.mono BB.out.size))
  replace LT := hid (Nat.lt_of_lt_of_le LT.out hB.size)
  clear hB
  obtain ⟨t, ht⟩ : ∃ t, t = vF cs := ⟨_, rfl⟩
  rw [← ht]
  by_cases h0 : t = 0
  case neg =>
    have ne : (t != 0) = true := by rw [bne_iff_ne]; exact h0
    have E := hid (show fcC cs n = t by rw [fcC, if_pos (by rw [← ht]; exact h0), ht])
    have EL := hid (show fcL cs n = [] by rw [fcL, if_neg (fun q => h0 (by rw [ht]; exact q.1))])
    obtain ⟨⟨z0, z1, z2⟩, z3, z4, z5⟩ := var3_facts V.out
    have HS := hid (var3_set (x' := .int .i64 t) (y' := .slice none 0 0) (z' := .bool false) V.out)
    have HW := hid (below_st3 (.int .i64 t) (.slice none 0 0) (.bool false) BB.out GL.out)
    clear ht h0
    go_wp2
    exact bodyPost_ret (v := .agg #[.int .i64 t, .slice none 0 0, .bool false]) (results_cell_row rfl _ _ g 40 _ _ _ rfl HS.out Try.underlying40 rfl (by kernel_rfl)) rfl ⟨_, by rw [E.out], by rw [EL.out]; exact OC.nil _ _ _, HW.out⟩
  subst h0
  have VO := hid (vF_ok ht.symm)
  go_wp2_with fail
  refine (plo _ cs n _ H.out (by have := VO.out.1; omega) VO.out.2.2).mono ?_
  rintro e w2 ⟨rfl, hB⟩
  replace V := hid (var_below hB V.out)
  replace H := hid (H.out.below hB)
  replace BB := hid (BB.out.trans (hB.mono BB.out.size))
  replace LT := hid (Nat.lt_of_lt_of_le LT.out hB.size)
  clear hB
  cases hh : hasN cs n
  · have E := hid (show fcC cs n = 4 by rw [fcC, if_neg (by rw [← ht]; simp), hh]; rfl)
    have EL := hid (show fcL cs n = [] by rw [fcL, if_neg (fun q => by rw [hh] at q; cases q.2)])
    generalize lb cs n = k at *
    obtain ⟨⟨z0, z1, z2⟩, z3, z4, z5⟩ := var3_facts V.out
    have HS := hid (var3_set (x' := .int .i64 4) (y' := .slice none 0 0) (z' := .bool false) V.out)
    have HW := hid (below_st3 (.int .i64 4) (.slice none 0 0) (.bool false) BB.out GL.out)
    clear ht hh
    go_wp2
    exact bodyPost_ret (v := .agg #[.int .i64 4, .slice none 0 0, .bool false]) (results_cell_row rfl _ _ g 40 _ _ _ rfl HS.out Try.underlying40 rfl (by kernel_rfl)) rfl ⟨_, by rw [E.out], by rw [EL.out]; exact OC.nil _ _ _, HW.out⟩
  · obtain ⟨hk, hkn⟩ := hasN_yes hh
    have E := hid (show fcC cs n = 0 by rw [fcC, if_neg (by rw [← ht]; simp), hh]; rfl)
    have EL := hid (show fcL cs n = [cs[lb cs n]'hk] by rw [fcL, if_pos ⟨ht.symm, hh⟩]; simp [List.getD_eq_getElem?_getD, hk])
    generalize lb cs n = k at *
    obtain ⟨a', cap', e, -, -, hcs⟩ := H.out.parts
    cases e
    obtain ⟨b, o, rfl, q1⟩ := hcs k hk
    obtain ⟨c0, c1, c2, c3⟩ := c_cells q1
    have I1 := idx_ci b o cs.length cap k hk
    obtain ⟨M, hM⟩ : ∃ M, M = cs[k] := ⟨_, rfl⟩
    rw [← hM] at c0 c1 c2 c3 EL
    have VN := heap_alloc_new w2 (.cells #[.int .i64 M.n, .int .i64 M.i, .int .i64 M.s, .int .i64 M.m] 38)
    have hA := below_alloc1 w2 (.cells #[.int .i64 M.n, .int .i64 M.i, .int .i64 M.s, .int .i64 M.m] 38)
    have OO := owC_one VN LT.out
    replace V := hid (var_below hA V.out)
    replace BB := hid (BB.out.trans (hA.mono BB.out.size))
    obtain ⟨⟨z0, z1, z2⟩, z3, z4, z5⟩ := var3_facts V.out
    have HS := hid (var3_set (x' := .int .i64 0) (y' := .slice (some ⟨w2.heap.size, 0, none⟩) 1 1) (z' := .bool false) V.out)
    have HW := hid (below_st3 (.int .i64 0) (.slice (some ⟨w2.heap.size, 0, none⟩) 1 1) (.bool false) BB.out GL.out)
    have HO := hid (OO.st3 (Nat.lt_succ_self g) (.int .i64 0) (.slice (some ⟨w2.heap.size, 0, none⟩) 1 1) (.bool false))
    clear hM q1 hcs ht hh hkn OO VN hA
    go_wp2
    exact bodyPost_ret (v := .agg #[.int .i64 0, .slice (some ⟨w2.heap.size, 0, none⟩) 1 1, .bool false]) (results_cell_row rfl _ _ g 40 _ _ _ rfl HS.out Try.underlying40 rfl (by kernel_rfl)) rfl ⟨_, by rw [E.out], by rw [EL.out]; exact OC.of (HO.out.mono (Nat.le_succ_of_le GL.out)), HW.out⟩
end Go.Proofs.Ytalaolfcdaaaoaa.W
