/-
  What MergeViews of the program answers. Generated text.
  Where a node stands in a view: what FindClaim of the model answers.
  What the program's FindClaim answers.
  Two views that are the same: what SameViews of the model and of the program answers.
-/
import Derived.Test.YtbleikbmnkjbeacVwMv
import Derived.Test.YtbleikbmnkjbeacVwAi
import Derived.Test.YtbleikbmnkjbeacVwFx
import Derived.Test.YtbleikbmnkjbeacLetV
import Derived.Test.YtbleikbmnkjbeacLetF
import Derived.Test.YtbleikbmnkjbeacVwV
import Derived.Test.YtbleikbmnkjbeacVwP2
import Derived.Test.YtbleikbmnkjbeacVwQ

namespace Go.Proofs.Ytbleikbmnkjbeac.W
open Go.ChangeShapes Go.WideShapes Go.ChangeAt Go.RowKit
open Go.Proofs.Ytbleikbmnkjbeac.M

set_option maxHeartbeats 8000000 in
set_option maxRecDepth 100000 in
theorem imw (va vb : Value) (cs ds : List Clm) (w : World) (ha : RdC w va cs) (hb : RdC w vb ds) :
    Calls Try.prog 50 #[va, vb] w fun e w' => ∃ u, e = .returned (.agg #[.int .i64 (mvC cs ds), u, .bool (mvT cs ds)]) ∧ OC w' w.heap.size w'.heap.size u (mvL cs ds) ∧ Below w.heap.size w w' := by
  have HA := hid ha
  have HB := hid hb
  have H0 := hid hb
  obtain ⟨a, ca, rfl, -, -, -⟩ := ha.parts
  obtain ⟨b, cb, rfl, -, -, -⟩ := hb.parts
  clear ha hb
  go_enter Try.func50, Try.ntmps50
  have V := hid (heap_alloc_new w (.cells #[.int .i64 0, .slice none 0 0, .bool false] 75))
  have BB := hid (below_alloc1 w (.cells #[.int .i64 0, .slice none 0 0, .bool false] 75))
  have VV := heap_alloc_new (w.alloc (.cells #[.int .i64 0, .slice none 0 0, .bool false] 75)) (.cells #[.slice a cs.length ca, .slice b ds.length cb] 71)
  simp only [World.size_alloc] at VV
  replace VV := hid VV
  have BV := hid (below_alloc1 (w.alloc (.cells #[.int .i64 0, .slice none 0 0, .bool false] 75)) (.cells #[.slice a cs.length ca, .slice b ds.length cb] 71))
  go_wp2_with fail
  generalize w.alloc (.cells #[.int .i64 0, .slice none 0 0, .bool false] 75) = w0 at *
  replace HA := hid (HA.out.below BB.out)
  replace HB := hid (HB.out.below BB.out)
  have LT := hid (var_lt V.out)
  obtain ⟨g, hg⟩ : ∃ g, g = w.heap.size := ⟨_, rfl⟩
  rw [← hg] at V LT VV ⊢
  have GL := hid (show w.heap.size ≤ g by omega)
  clear hg
  refine (ivsf _ _ cs ds (g + 1) _ (HA.out.below BV.out) (HB.out.below BV.out) VV.out).mono ?_
  rintro e w1 ⟨rfl, hB0⟩
  have hB := BV.out.trans (hB0.mono BV.out.size)
  clear hB0 VV BV
  replace V := hid (var_below hB V.out)
  replace HA := hid (HA.out.below hB)
  replace HB := hid (HB.out.below hB)
  replace BB := hid (BB.out.trans (hB.mono BB.out.size))
  replace LT := hid (Nat.lt_of_lt_of_le LT.out hB.size)
  clear hB
  obtain ⟨t, ht⟩ : ∃ t, t = vsF cs ds := ⟨_, rfl⟩
  rw [← ht]
  by_cases h0 : t = 0
  case neg =>
    have ne : (t != 0) = true := by rw [bne_iff_ne]; exact h0
    have E := hid (show mvC cs ds = t by rw [ht]; rfl)
    have EL := hid (mv_no (cs := cs) (ds := ds) (by rw [E.out]; exact h0))
    obtain ⟨⟨z0, z1, z2⟩, z3, z4, z5⟩ := var3_facts V.out
    have HS := hid (var3_set (x' := .int .i64 t) (y' := .slice none 0 0) (z' := .bool false) V.out)
    have HW := hid (below_st3 (.int .i64 t) (.slice none 0 0) (.bool false) BB.out GL.out)
    clear ht h0
    go_wp2
    exact bodyPost_ret (v := .agg #[.int .i64 t, .slice none 0 0, .bool false]) (results_cell_row rfl _ _ g 75 _ _ _ rfl HS.out Try.underlying75 rfl (by kernel_rfl)) rfl ⟨_, by rw [E.out, EL.out.2], by rw [EL.out.1]; exact OC.nil _ _ _, HW.out⟩
  subst h0
  have F0 := hid (show vF cs = 0 by
    by_cases q : vF cs = 0
    · exact q
    · rw [vsF, if_pos q] at ht; exact ht.symm)
  have F1 := hid (show vF ds = 0 by rw [vsF, if_neg (by simpa using F0.out)] at ht; exact ht.symm)
  have E := hid (mv_yes F0.out F1.out)
  clear ht
  go_wp2_with fail
  refine (imv _ _ cs ds _ HA.out HB.out F0.out (vF_ok F1.out).2.1 (by have := (vF_ok F1.out).1; omega)).mono ?_
  rintro e w3 ⟨u, rfl, hO, hB⟩
  have OO := hid (hO.mono (show g + 1 ≤ w1.heap.size + 1 from by have := LT.out; omega))
  replace V := hid (var_below hB V.out)
  replace HA := hid (HA.out.below hB)
  replace HB := hid (HB.out.below hB)
  replace BB := hid (BB.out.trans (hB.mono BB.out.size))
  replace LT := hid (Nat.lt_of_lt_of_le LT.out hB.size)
  clear hB
  clear hO
  obtain ⟨l, hlx⟩ : ∃ l, l = mT cs ds ds.length := ⟨_, rfl⟩
  obtain ⟨t, ht⟩ : ∃ t, t = mB cs ds ds.length := ⟨_, rfl⟩
  rw [← hlx] at OO
  rw [← ht]
  replace hlx := hid hlx
  replace ht := hid ht
  obtain ⟨pu, cu, rfl, -, -, -⟩ := OO.out.rd.parts
  obtain ⟨⟨z0, z1, z2⟩, z3, z4, z5⟩ := var3_facts V.out
  have HS := hid (var3_set (x' := .int .i64 0) (y' := .slice pu l.length cu) (z' := .bool t) V.out)
  have HW := hid (below_st3 (.int .i64 0) (.slice pu l.length cu) (.bool t) BB.out GL.out)
  have HO := hid (OO.out.st3 (Nat.lt_succ_self g) (.int .i64 0) (.slice pu l.length cu) (.bool t))
  clear OO
  go_wp2
  exact bodyPost_ret (v := .agg #[.int .i64 0, .slice pu l.length cu, .bool t]) (results_cell_row rfl _ _ g 75 _ _ _ rfl HS.out Try.underlying75 rfl (by kernel_rfl)) rfl ⟨_, by rw [E.out.1, E.out.2.2, ht.out], by rw [E.out.2.1, ← hlx.out]; exact OC.of (HO.out.mono (Nat.le_succ_of_le GL.out)), HW.out⟩
end Go.Proofs.Ytbleikbmnkjbeac.W

namespace Go.Proofs.Ytbleikbmnkjbeac.W
open Go.ChangeShapes Go.WideShapes Go.ChangeAt Go.RowKit
open Go.Proofs.Ytbleikbmnkjbeac.M

set_option maxHeartbeats 1000000 in
set_option maxRecDepth 100000 in
theorem sfc (v : Value) (cs : List Clm) (n : Int) (w : World) (h : RdC w v cs) :
    Calls Try.prog 65 #[v, .int .i64 n] w fun e w' => ∃ u, e = .returned (.agg #[.int .i64 (fcC cs n), u, .bool false]) ∧ RdC w' u (fcL cs n) ∧ Below w.heap.size w w' := by
  have H := hid h
  obtain ⟨a, cap, rfl, hc, hm, -⟩ := h.parts
  clear h hc hm
  go_enter Try.func65, Try.ntmps65
  have V := hid (heap_alloc_new w (.cells #[.int .i64 0, .slice none 0 0, .bool false] 75))
  have BB := hid (below_alloc1 w (.cells #[.int .i64 0, .slice none 0 0, .bool false] 75))
  go_wp2_with fail
  generalize w.alloc (.cells #[.int .i64 0, .slice none 0 0, .bool false] 75) = w0 at *
  replace H := hid (H.out.below BB.out)
  have LT := hid (var_lt V.out)
  obtain ⟨g, hg⟩ : ∃ g, g = w.heap.size := ⟨_, rfl⟩
  rw [← hg] at V LT ⊢
  have GL := hid (show w.heap.size ≤ g by omega)
  clear hg
  refine (svf _ cs _ H.out).mono ?_
  rintro e w1 ⟨rfl, hB⟩
  replace V := hid (var_below hB V.out)
  replace H := hid (H.out.below hB)
  replace BB := hid (BB.out.trans (hB.mono BB.out.size))
  replace LT := hid (Nat.lt_of_lt_of_le LT.out hB.size)
  clear hB
  obtain ⟨t, ht⟩ : ∃ t, t = vF cs := ⟨_, rfl⟩
  rw [← ht]
  by_cases h0 : t = 0
  case neg =>
    have ne : (t != 0) = true := by rw [bne_iff_ne]; exact h0
    have E := hid (show fcC cs n = t by rw [fcC, if_pos (by rw [← ht]; exact h0), ht])
    have EL := hid (show fcL cs n = [] by rw [fcL, if_neg (fun q => h0 (by rw [ht]; exact q.1))])
    obtain ⟨⟨z0, z1, z2⟩, z3, z4, z5⟩ := var3_facts V.out
    have HS := hid (var3_set (x' := .int .i64 t) (y' := .slice none 0 0) (z' := .bool false) V.out)
    have HW := hid (below_st3 (.int .i64 t) (.slice none 0 0) (.bool false) BB.out GL.out)
    clear ht h0
    go_wp2
    exact bodyPost_ret (v := .agg #[.int .i64 t, .slice none 0 0, .bool false]) (results_cell_row rfl _ _ g 75 _ _ _ rfl HS.out Try.underlying75 rfl (by kernel_rfl)) rfl ⟨_, by rw [E.out], by rw [EL.out]; exact RdC.nil _, HW.out⟩
  subst h0
  have VO := hid (vF_ok ht.symm)
  go_wp2_with fail
  refine (s8f _ cs n _ H.out VO.out.2.2).mono ?_
  rintro e w2 ⟨rfl, hB⟩
  replace V := hid (var_below hB V.out)
  replace H := hid (H.out.below hB)
  replace BB := hid (BB.out.trans (hB.mono BB.out.size))
  replace LT := hid (Nat.lt_of_lt_of_le LT.out hB.size)
  clear hB
  cases hh : hasN cs n
  · have E := hid (show fcC cs n = 4 by rw [fcC, if_neg (by rw [← ht]; simp), hh]; rfl)
    have EL := hid (show fcL cs n = [] by rw [fcL, if_neg (fun q => by rw [hh] at q; cases q.2)])
    rw [show fdI cs n = -1 by rw [fdI, hh]; rfl]
    obtain ⟨⟨z0, z1, z2⟩, z3, z4, z5⟩ := var3_facts V.out
    have HS := hid (var3_set (x' := .int .i64 4) (y' := .slice none 0 0) (z' := .bool false) V.out)
    have HW := hid (below_st3 (.int .i64 4) (.slice none 0 0) (.bool false) BB.out GL.out)
    clear ht hh
    go_wp2
    exact bodyPost_ret (v := .agg #[.int .i64 4, .slice none 0 0, .bool false]) (results_cell_row rfl _ _ g 75 _ _ _ rfl HS.out Try.underlying75 rfl (by kernel_rfl)) rfl ⟨_, by rw [E.out], by rw [EL.out]; exact RdC.nil _, HW.out⟩
  · obtain ⟨hk, hkn⟩ := hasN_yes hh
    have E := hid (show fcC cs n = 0 by rw [fcC, if_neg (by rw [← ht]; simp), hh]; rfl)
    have EL := hid (show fcL cs n = [cs[lb cs n]'hk] by rw [fcL, if_pos ⟨ht.symm, hh⟩]; simp [List.getD_eq_getElem?_getD, hk])
    rw [show fdI cs n = (lb cs n : Int) by rw [fdI, hh]; rfl]
    generalize lb cs n = k at *
    obtain ⟨a', cap', e, -, -, hcs⟩ := H.out.parts
    cases e
    obtain ⟨b, o, rfl, q1⟩ := hcs k hk
    obtain ⟨c0, c1, c2, c3⟩ := c_cells q1
    have I1 := idx_ci b o cs.length cap k hk
    obtain ⟨M, hM⟩ : ∃ M, M = cs[k] := ⟨_, rfl⟩
    rw [← hM] at c0 c1 c2 c3 EL
    have VN := heap_alloc_new w2 (.cells #[.int .i64 M.n, .int .i64 M.i, .int .i64 M.s, .int .i64 M.m] 45)
    have hA := below_alloc1 w2 (.cells #[.int .i64 M.n, .int .i64 M.i, .int .i64 M.s, .int .i64 M.m] 45)
    have OO := owC_one VN LT.out
    replace V := hid (var_below hA V.out)
    replace BB := hid (BB.out.trans (hA.mono BB.out.size))
    obtain ⟨⟨z0, z1, z2⟩, z3, z4, z5⟩ := var3_facts V.out
    have HS := hid (var3_set (x' := .int .i64 0) (y' := .slice (some ⟨w2.heap.size, 0, none⟩) 1 1) (z' := .bool false) V.out)
    have HW := hid (below_st3 (.int .i64 0) (.slice (some ⟨w2.heap.size, 0, none⟩) 1 1) (.bool false) BB.out GL.out)
    have HO := hid (OO.st3 (Nat.lt_succ_self g) (.int .i64 0) (.slice (some ⟨w2.heap.size, 0, none⟩) 1 1) (.bool false))
    clear hM q1 hcs ht hh hkn OO VN hA
    go_wp2
    exact bodyPost_ret (v := .agg #[.int .i64 0, .slice (some ⟨w2.heap.size, 0, none⟩) 1 1, .bool false]) (results_cell_row rfl _ _ g 75 _ _ _ rfl HS.out Try.underlying75 rfl (by kernel_rfl)) rfl ⟨_, by rw [E.out], by rw [EL.out]; exact HO.out.rd, HW.out⟩
end Go.Proofs.Ytbleikbmnkjbeac.W

namespace Go.Proofs.Ytbleikbmnkjbeac.W
open Go.ChangeShapes Go.WideShapes Go.ChangeAt Go.RowKit
open Go.Proofs.Ytbleikbmnkjbeac.M

set_option maxHeartbeats 1000000 in
set_option maxRecDepth 100000 in
theorem ifc (v : Value) (cs : List Clm) (n : Int) (w : World) (h : RdC w v cs) :
    Calls Try.prog 59 #[v, .int .i64 n] w fun e w' => ∃ u, e = .returned (.agg #[.int .i64 (fcC cs n), u, .bool false]) ∧ OC w' w.heap.size w'.heap.size u (fcL cs n) ∧ Below w.heap.size w w' := by
  have H := hid h
  obtain ⟨a, cap, rfl, hc, hm, -⟩ := h.parts
  clear h hc hm
  go_enter Try.func59, Try.ntmps59
  have V := hid (heap_alloc_new w (.cells #[.int .i64 0, .slice none 0 0, .bool false] 75))
  have BB := hid (below_alloc1 w (.cells #[.int .i64 0, .slice none 0 0, .bool false] 75))
  go_wp2_with fail
  generalize w.alloc (.cells #[.int .i64 0, .slice none 0 0, .bool false] 75) = w0 at *
  replace H := hid (H.out.below BB.out)
  have LT := hid (var_lt V.out)
  obtain ⟨g, hg⟩ : ∃ g, g = w.heap.size := ⟨_, rfl⟩
  rw [← hg] at V LT ⊢
  have GL := hid (show w.heap.size ≤ g by omega)
  clear hg
  refine (ivf _ cs _ H.out).mono ?_
  rintro e w1 ⟨rfl, hB⟩
  replace V := hid (var_below hB V.out)
  replace H := hid (H.out.below hB)
  replace BB := hid (BB.out.trans (hB.mono BB.out.size))
  replace LT := hid (Nat.lt_of_lt_of_le LT.out hB.size)
  clear hB
  obtain ⟨t, ht⟩ : ∃ t, t = vF cs := ⟨_, rfl⟩
  rw [← ht]
  by_cases h0 : t = 0
  case neg =>
    have ne : (t != 0) = true := by rw [bne_iff_ne]; exact h0
    have E := hid (show fcC cs n = t by rw [fcC, if_pos (by rw [← ht]; exact h0), ht])
    have EL := hid (show fcL cs n = [] by rw [fcL, if_neg (fun q => h0 (by rw [ht]; exact q.1))])
    obtain ⟨⟨z0, z1, z2⟩, z3, z4, z5⟩ := var3_facts V.out
    have HS := hid (var3_set (x' := .int .i64 t) (y' := .slice none 0 0) (z' := .bool false) V.out)
    have HW := hid (below_st3 (.int .i64 t) (.slice none 0 0) (.bool false) BB.out GL.out)
    clear ht h0
    go_wp2
    exact bodyPost_ret (v := .agg #[.int .i64 t, .slice none 0 0, .bool false]) (results_cell_row rfl _ _ g 75 _ _ _ rfl HS.out Try.underlying75 rfl (by kernel_rfl)) rfl ⟨_, by rw [E.out], by rw [EL.out]; exact OC.nil _ _ _, HW.out⟩
  subst h0
  have VO := hid (vF_ok ht.symm)
  go_wp2_with fail
  refine (plo _ cs n _ H.out (by have := VO.out.1; omega) VO.out.2.2).mono ?_
  rintro e w2 ⟨rfl, hB⟩
  replace V := hid (var_below hB V.out)
  replace H := hid (H.out.below hB)
  replace BB := hid (BB.out.trans (hB.mono BB.out.size))
  replace LT := hid (Nat.lt_of_lt_of_le LT.out hB.size)
  clear hB
  cases hh : hasN cs n
  · have E := hid (show fcC cs n = 4 by rw [fcC, if_neg (by rw [← ht]; simp), hh]; rfl)
    have EL := hid (show fcL cs n = [] by rw [fcL, if_neg (fun q => by rw [hh] at q; cases q.2)])
    generalize lb cs n = k at *
    obtain ⟨⟨z0, z1, z2⟩, z3, z4, z5⟩ := var3_facts V.out
    have HS := hid (var3_set (x' := .int .i64 4) (y' := .slice none 0 0) (z' := .bool false) V.out)
    have HW := hid (below_st3 (.int .i64 4) (.slice none 0 0) (.bool false) BB.out GL.out)
    clear ht hh
    go_wp2
    exact bodyPost_ret (v := .agg #[.int .i64 4, .slice none 0 0, .bool false]) (results_cell_row rfl _ _ g 75 _ _ _ rfl HS.out Try.underlying75 rfl (by kernel_rfl)) rfl ⟨_, by rw [E.out], by rw [EL.out]; exact OC.nil _ _ _, HW.out⟩
  · obtain ⟨hk, hkn⟩ := hasN_yes hh
    have E := hid (show fcC cs n = 0 by rw [fcC, if_neg (by rw [← ht]; simp), hh]; rfl)
    have EL := hid (show fcL cs n = [cs[lb cs n]'hk] by rw [fcL, if_pos ⟨ht.symm, hh⟩]; simp [List.getD_eq_getElem?_getD, hk])
    generalize lb cs n = k at *
    obtain ⟨a', cap', e, -, -, hcs⟩ := H.out.parts
    cases e
    obtain ⟨b, o, rfl, q1⟩ := hcs k hk
    obtain ⟨c0, c1, c2, c3⟩ := c_cells q1
    have I1 := idx_ci b o cs.length cap k hk
    obtain ⟨M, hM⟩ : ∃ M, M = cs[k] := ⟨_, rfl⟩
    rw [← hM] at c0 c1 c2 c3 EL
    have VN := heap_alloc_new w2 (.cells #[.int .i64 M.n, .int .i64 M.i, .int .i64 M.s, .int .i64 M.m] 45)
    have hA := below_alloc1 w2 (.cells #[.int .i64 M.n, .int .i64 M.i, .int .i64 M.s, .int .i64 M.m] 45)
    have OO := owC_one VN LT.out
    replace V := hid (var_below hA V.out)
    replace BB := hid (BB.out.trans (hA.mono BB.out.size))
    obtain ⟨⟨z0, z1, z2⟩, z3, z4, z5⟩ := var3_facts V.out
    have HS := hid (var3_set (x' := .int .i64 0) (y' := .slice (some ⟨w2.heap.size, 0, none⟩) 1 1) (z' := .bool false) V.out)
    have HW := hid (below_st3 (.int .i64 0) (.slice (some ⟨w2.heap.size, 0, none⟩) 1 1) (.bool false) BB.out GL.out)
    have HO := hid (OO.st3 (Nat.lt_succ_self g) (.int .i64 0) (.slice (some ⟨w2.heap.size, 0, none⟩) 1 1) (.bool false))
    clear hM q1 hcs ht hh hkn OO VN hA
    go_wp2
    exact bodyPost_ret (v := .agg #[.int .i64 0, .slice (some ⟨w2.heap.size, 0, none⟩) 1 1, .bool false]) (results_cell_row rfl _ _ g 75 _ _ _ rfl HS.out Try.underlying75 rfl (by kernel_rfl)) rfl ⟨_, by rw [E.out], by rw [EL.out]; exact OC.of (HO.out.mono (Nat.le_succ_of_le GL.out)), HW.out⟩
end Go.Proofs.Ytbleikbmnkjbeac.W

namespace Go.Proofs.Ytbleikbmnkjbeac.W
open Go.ChangeShapes Go.WideShapes Go.ChangeAt Go.RowKit
open Go.Proofs.Ytbleikbmnkjbeac.M

set_option maxHeartbeats 2000000 in
set_option maxRecDepth 100000 in
theorem sse (va vb : Value) (cs ds : List Clm) (w : World) (ha : RdC w va cs) (hb : RdC w vb ds) :
    Calls Try.prog 66 #[va, vb] w fun e w' => e = .returned (.bool (scA cs ds)) ∧ Below w.heap.size w w' := by
  have HA := hid ha
  have HB := hid hb
  obtain ⟨a, ca, rfl, hc, hm, -⟩ := ha.parts
  obtain ⟨b, cb, rfl, hc', hm', -⟩ := hb.parts
  have hmx : cs.length ≤ 9223372036854775807 := by unfold maxLen at hm; omega
  have hmy : ds.length ≤ 9223372036854775807 := by unfold maxLen at hm'; omega
  clear ha hb hc hm hc' hm'
  by_cases el : ds.length = cs.length
  · have E := hid (show scA cs ds = scTo cs ds cs.length by rw [scA, el]; simp)
    rw [el]
    replace el := hid el
    go_enter Try.func66, Try.ntmps66
    go_wp2_with fail
    go_loopw [5] (fun s5 wr => ∃ k : Nat,  k ≤ cs.length ∧ s5 = .int .i64 k ∧ Hid (Below w.heap.size w wr) ∧ Hid (scTo cs ds k = true)) (fun s5 _ => cs.length - (intOf s5).toNat)
    case atStart => exact ⟨0, by omega, rfl, hid (Below.refl _ _), hid (by simp [scTo])⟩
    case round =>
      obtain ⟨k, hk, rfl, BL, T⟩ := hrel
      by_cases hlt : k < cs.length
      · obtain ⟨a', ca', e, -, -, hcs⟩ := (HA.out.below BL.out).parts
        cases e
        obtain ⟨ba, oa, rfl, q1⟩ := hcs k hlt
        have hlm : k < ds.length := by rw [el.out]; exact hlt
        obtain ⟨b', cb', e, -, -, hcs'⟩ := (HB.out.below BL.out).parts
        rw [el.out] at e
        cases e
        obtain ⟨bb, ob, rfl, t1⟩ := hcs' k hlm
        have TS := hid (scTo_succ cs ds k hlt hlm)
        have I1 := idx_ci ba oa cs.length ca k hlt
        have I2 := idx_ci bb ob cs.length cb k hlt
        obtain ⟨A, hA⟩ : ∃ M, M = cs[k] := ⟨_, rfl⟩
        obtain ⟨B, hB'⟩ : ∃ M, M = ds[k] := ⟨_, rfl⟩
        rw [← hA] at q1 TS
        rw [← hB'] at t1 TS
        obtain ⟨c0, c1, c2, c3⟩ := c_cells q1
        obtain ⟨d0, d1, d2, d3⟩ := c_cells t1
        have NE := neq_clm A B
        obtain ⟨t, ht⟩ : ∃ t, t = sc1 A B := ⟨_, rfl⟩
        rw [← ht] at TS NE
        replace ht := hid ht
        clear q1 hcs t1 hcs' hA hB'
        cases t
        · have E2 := hid (show scA cs ds = false by rw [E.out]; exact scTo_no cs ds k _ hlt (by rw [TS.out]; simp))
          rw [Bool.not_false] at NE
          go_wp2
          go_quiet (fail)
          go_wp2
          go_ret
          exact ⟨ret_vb E2.out.symm, below_drewN BL.out _⟩
        · have T2 := hid (show scTo cs ds (k + 1) = true by rw [TS.out, T.out]; rfl)
          rw [Bool.not_true] at NE
          go_wp2
          go_quiet (fail)
          go_wp2
          go_roundw
          case rel => exact ⟨k + 1, hlt, by go_num, hid (below_drewN BL.out _), T2⟩
          case measure => simp [intOf]; omega
      · have hke : k = cs.length := by omega
        subst hke
        have E2 := hid (show scA cs ds = true by rw [E.out]; exact T.out)
        go_wp2
        go_ret
        exact ⟨ret_vb E2.out.symm, BL.out⟩
  · have E := hid (show scA cs ds = false by rw [scA, beq_eq_false_iff_ne.2 (fun h => el h.symm)]; rfl)
    have ne : ((cs.length : Int) != (ds.length : Int)) = true := by rw [bne_iff_ne]; omega
    replace el := hid el
    go_enter Try.func66, Try.ntmps66
    go_wp2
    go_ret
    exact ⟨ret_vb E.out.symm, Below.refl _ _⟩
set_option maxHeartbeats 2000000 in
set_option maxRecDepth 100000 in
theorem eqlC (va vb : Value) (cs ds : List Clm) (w : World) (ha : RdC w va cs) (hb : RdC w vb ds) :
    Calls Try.prog 117 #[va, vb] w fun e w' => e = .returned (.bool (scA cs ds)) ∧ Below w.heap.size w w' := by
  have HA := hid ha
  have HB := hid hb
  obtain ⟨a, ca, rfl, hc, hm, -⟩ := ha.parts
  obtain ⟨b, cb, rfl, hc', hm', -⟩ := hb.parts
  have hmx : cs.length ≤ 9223372036854775807 := by unfold maxLen at hm; omega
  have hmy : ds.length ≤ 9223372036854775807 := by unfold maxLen at hm'; omega
  clear ha hb hc hm hc' hm'
  by_cases el : ds.length = cs.length
  · have E := hid (show scA cs ds = scTo cs ds cs.length by rw [scA, el]; simp)
    rw [el]
    replace el := hid el
    go_enter Try.func117, Try.ntmps117
    go_wp2_with fail
    go_loopw [5, 13] (fun s5 s13 wr => ∃ k : Nat, ∃ u5 : Value, k ≤ cs.length ∧ s13 = .int .i64 k ∧ s5 = u5 ∧ Hid (Below w.heap.size w wr) ∧ Hid (scTo cs ds k = true)) (fun s5 s13 _ => cs.length - (intOf s13).toNat)
    case atStart => exact ⟨0, _, by omega, rfl, rfl, hid (Below.refl _ _), hid (by simp [scTo])⟩
    case round =>
      obtain ⟨k, u5, hk, rfl, rfl, BL, T⟩ := hrel
      by_cases hlt : k < cs.length
      · obtain ⟨a', ca', e, -, -, hcs⟩ := (HA.out.below BL.out).parts
        cases e
        obtain ⟨ba, oa, rfl, q1⟩ := hcs k hlt
        have hlm : k < ds.length := by rw [el.out]; exact hlt
        obtain ⟨b', cb', e, -, -, hcs'⟩ := (HB.out.below BL.out).parts
        rw [el.out] at e
        cases e
        obtain ⟨bb, ob, rfl, t1⟩ := hcs' k hlm
        have TS := hid (scTo_succ cs ds k hlt hlm)
        have I1 := idx_ci ba oa cs.length ca k hlt
        have I2 := idx_ci bb ob cs.length cb k hlt
        obtain ⟨A, hA⟩ : ∃ M, M = cs[k] := ⟨_, rfl⟩
        obtain ⟨B, hB'⟩ : ∃ M, M = ds[k] := ⟨_, rfl⟩
        rw [← hA] at q1 TS
        rw [← hB'] at t1 TS
        obtain ⟨c0, c1, c2, c3⟩ := c_cells q1
        obtain ⟨d0, d1, d2, d3⟩ := c_cells t1
        have NE := neq_clm A B
        obtain ⟨t, ht⟩ : ∃ t, t = sc1 A B := ⟨_, rfl⟩
        rw [← ht] at TS NE
        replace ht := hid ht
        clear q1 hcs t1 hcs' hA hB'
        cases t
        · have E2 := hid (show scA cs ds = false by rw [E.out]; exact scTo_no cs ds k _ hlt (by rw [TS.out]; simp))
          rw [Bool.not_false] at NE
          go_wp2
          go_quiet (fail)
          go_wp2
          go_ret
          exact ⟨ret_vb E2.out.symm, below_drewN BL.out _⟩
        · have T2 := hid (show scTo cs ds (k + 1) = true by rw [TS.out, T.out]; rfl)
          rw [Bool.not_true] at NE
          go_wp2
          go_quiet (fail)
          go_wp2
          go_roundw
          case rel => exact ⟨k + 1, _, hlt, by go_num, rfl, hid (below_drewN BL.out _), T2⟩
          case measure => simp [intOf]; omega
      · have hke : k = cs.length := by omega
        subst hke
        have E2 := hid (show scA cs ds = true by rw [E.out]; exact T.out)
        go_wp2
        go_ret
        exact ⟨ret_vb E2.out.symm, BL.out⟩
  · have E := hid (show scA cs ds = false by rw [scA, beq_eq_false_iff_ne.2 (fun h => el h.symm)]; rfl)
    have ne : ((cs.length : Int) != (ds.length : Int)) = true := by rw [bne_iff_ne]; omega
    replace el := hid el
    go_enter Try.func117, Try.ntmps117
    go_wp2
    go_ret
    exact ⟨ret_vb E.out.symm, Below.refl _ _⟩
set_option maxRecDepth 100000 in
theorem ise (va vb : Value) (cs ds : List Clm) (w : World) (ha : RdC w va cs) (hb : RdC w vb ds) :
    Calls Try.prog 58 #[va, vb] w fun e w' => e = .returned (.bool (scA cs ds)) ∧ Below w.heap.size w w' := by
  have HA := hid ha
  have HB := hid hb
  obtain ⟨a, ca, rfl, -, -, -⟩ := ha.parts
  obtain ⟨b, cb, rfl, -, -, -⟩ := hb.parts
  clear ha hb
  go_enter Try.func58, Try.ntmps58
  go_wp2_with fail
  refine (eqlC _ _ cs ds _ HA.out HB.out).mono ?_
  rintro e w' ⟨rfl, hB⟩
  have BB := hid hB
  clear hB
  obtain ⟨t, ht⟩ : ∃ t, t = scA cs ds := ⟨_, rfl⟩
  rw [← ht]
  replace ht := hid ht
  go_wp2
  go_ret
  exact ⟨ret_vb ht.out, BB.out⟩
end Go.Proofs.Ytbleikbmnkjbeac.W
