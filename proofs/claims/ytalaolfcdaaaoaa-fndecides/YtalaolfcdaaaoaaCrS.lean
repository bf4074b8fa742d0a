/-
  What RefuteBy, SuspectBy and BuryBy answer: the model: SuspectBy.
-/
import Derived.Test.YtalaolfcdaaaoaaCrF
import Derived.Test.YtalaolfcdaaaoaaVwS
namespace Go.Proofs.Ytalaolfcdaaaoaa.W
open Go.ChangeShapes Go.WideShapes Go.ChangeAt Go.RowKit
open Go.Proofs.Ytalaolfcdaaaoaa.M

set_option maxHeartbeats 2000000 in
set_option maxRecDepth 100000 in
theorem ssus (v : Value) (cs : List Clm) (n : Int) (w : World) (h : RdC w v cs) :
    Calls Try.prog 36 #[v, .int .i64 n] w fun e w' => e = .returned (.agg #[.int .i64 (suA cs n).1, .int .i64 (suA cs n).2.1.n, .int .i64 (suA cs n).2.1.i, .int .i64 (suA cs n).2.1.s, .int .i64 (suA cs n).2.1.m, .bool (suA cs n).2.2]) ∧ Below w.heap.size w w' := by
  obtain ⟨R, hR⟩ : ∃ R, R = suA cs n := ⟨_, rfl⟩
  rw [← hR]
  replace hR := hid hR
  have H := hid (h.below (below_alloc1 w (.cells #[.int .i64 0, .int .i64 0, .int .i64 0, .int .i64 0, .int .i64 0, .bool false] 57)))
  obtain ⟨a, cap, rfl, -, -, -⟩ := h.parts
  clear h
  have V := hid (heap_alloc_new w (.cells #[.int .i64 0, .int .i64 0, .int .i64 0, .int .i64 0, .int .i64 0, .bool false] 57))
  have BB := hid (below_alloc1 w (.cells #[.int .i64 0, .int .i64 0, .int .i64 0, .int .i64 0, .int .i64 0, .bool false] 57))
  go_enter Try.func36, Try.ntmps36
  go_wp2_with fail
  generalize w.alloc (.cells #[.int .i64 0, .int .i64 0, .int .i64 0, .int .i64 0, .int .i64 0, .bool false] 57) = w0 at *
  obtain ⟨g, hg⟩ : ∃ g, g = w.heap.size := ⟨_, rfl⟩
  have LG := hid (show w.heap.size ≤ g by omega)
  rw [← hg] at V ⊢
  replace hg := hid hg
  refine (svf _ cs _ H.out).mono ?_
  rintro e w1 ⟨rfl, hB⟩
  replace H := hid (H.out.below hB)
  replace V := hid (var_below hB V.out)
  replace BB := hid (BB.out.trans (hB.mono BB.out.size))
  clear hB
  obtain ⟨t, ht⟩ : ∃ t, t = vF cs := ⟨_, rfl⟩
  rw [← ht]
  replace ht := hid ht
  by_cases h0 : t = 0
  case neg =>
    have E := hid (su_fault (n := n) (show vF cs ≠ 0 by rw [← ht.out]; exact h0))
    rw [← ht.out] at E
    have V2 := hid (cr_row (new := #[.int .i64 t, .int .i64 0, .int .i64 0, .int .i64 0, .int .i64 0, .bool false]) V.out)
    have B2 := hid (cr_below (L := #[.int .i64 t, .int .i64 0, .int .i64 0, .int .i64 0, .int .i64 0, .bool false]) BB.out LG.out)
    go_wp2_with (first | refine buildC rfl 57 _ rfl _ (cr_e0 (c := t) (by simp [Act.eval])) ?_ | refine wpList_store_row rfl 57 _ _ rfl g #[.int .i64 t, .int .i64 0, .int .i64 0, .int .i64 0, .int .i64 0, .bool false] rfl rfl 57 _ V.out (cr_info _ rfl) rfl (cr_one _ _ _ _ _ _) ?_)
    exact bodyPost_ret (v := .agg #[.int .i64 t, .int .i64 0, .int .i64 0, .int .i64 0, .int .i64 0, .bool false]) (results_cell_row rfl _ _ g 57 _ _ _ rfl V2.out Try.underlying57 rfl (by kernel_rfl)) rfl ⟨by have e := hR.out.trans E.out; rw [e]; first | done | rfl, B2.out⟩
  subst h0
  have HP := hid (vF_ok ht.out.symm).2.2
  go_wp2_with fail
  refine (s8f _ cs n _ H.out HP.out).mono ?_
  rintro e w2 ⟨rfl, hB⟩
  replace H := hid (H.out.below hB)
  replace V := hid (var_below hB V.out)
  replace BB := hid (BB.out.trans (hB.mono BB.out.size))
  clear hB
  by_cases hh : hasN cs n = true
  case neg =>
    have E := hid (su_none (n := n) ht.out.symm (by simpa using hh))
    rw [show fdI cs n = -1 by rw [fdI, if_neg hh]]
    replace hh := hid hh
    have V2 := hid (cr_row (new := #[.int .i64 4, .int .i64 0, .int .i64 0, .int .i64 0, .int .i64 0, .bool false]) V.out)
    have B2 := hid (cr_below (L := #[.int .i64 4, .int .i64 0, .int .i64 0, .int .i64 0, .int .i64 0, .bool false]) BB.out LG.out)
    go_wp2_with (first | refine buildC rfl 57 _ rfl _ (cr_e0 (c := 4) (by simp [Act.eval])) ?_ | refine wpList_store_row rfl 57 _ _ rfl g #[.int .i64 4, .int .i64 0, .int .i64 0, .int .i64 0, .int .i64 0, .bool false] rfl rfl 57 _ V.out (cr_info _ rfl) rfl (cr_one _ _ _ _ _ _) ?_)
    exact bodyPost_ret (v := .agg #[.int .i64 4, .int .i64 0, .int .i64 0, .int .i64 0, .int .i64 0, .bool false]) (results_cell_row rfl _ _ g 57 _ _ _ rfl V2.out Try.underlying57 rfl (by kernel_rfl)) rfl ⟨by have e := hR.out.trans E.out; rw [e]; first | done | rfl, B2.out⟩
  obtain ⟨hk, -⟩ := hasN_yes hh
  rw [show fdI cs n = (lb cs n : Int) by rw [fdI, if_pos hh]]
  obtain ⟨X, hX⟩ : ∃ X, X = cs[lb cs n] := ⟨_, rfl⟩
  have XD : X = cs.getD (lb cs n) zC := by rw [hX]; simp [List.getD_eq_getElem?_getD, hk]
  have EM := hid fun q => su_made ht.out.symm hh XD q
  have ES := hid fun q => su_same ht.out.symm hh XD q
  obtain ⟨a', cap', e, -, -, hcs⟩ := H.out.parts
  cases e
  obtain ⟨b, o, rfl, q1⟩ := hcs _ hk
  rw [← hX] at q1
  obtain ⟨c0, c1, c2, c3⟩ := c_cells q1
  have I1 := idx_ci b o cs.length cap _ hk
  obtain ⟨k, hkk⟩ : ∃ k, k = lb cs n := ⟨_, rfl⟩
  rw [← hkk] at c0 c1 c2 c3 I1 ⊢
  have k0 : (0 : Int) ≤ (k : Int) := by omega
  have k1 : (k : Int) < (cs.length : Int) := by omega
  clear q1 hcs hX XD hk hh
  replace hkk := hid hkk
  by_cases h0 : X.s = 0
  · have E := hid (EM.out h0)
    have n0 : (X.s == 0) = true := by simp [h0]
    replace h0 := hid h0
    clear EM ES
    have k0 := cell_alloc c0 (.cells #[.int .i64 0, .int .i64 X.n, .int .i64 X.i, .int .i64 X.s, .int .i64 X.m, .bool false] 57)
    have k1 := cell_alloc c1 (.cells #[.int .i64 0, .int .i64 X.n, .int .i64 X.i, .int .i64 X.s, .int .i64 X.m, .bool false] 57)
    have k2 := cell_alloc c2 (.cells #[.int .i64 0, .int .i64 X.n, .int .i64 X.i, .int .i64 X.s, .int .i64 X.m, .bool false] 57)
    have k3 := cell_alloc c3 (.cells #[.int .i64 0, .int .i64 X.n, .int .i64 X.i, .int .i64 X.s, .int .i64 X.m, .bool false] 57)
    have VT := hid (heap_alloc_new w2 (.cells #[.int .i64 0, .int .i64 X.n, .int .i64 X.i, .int .i64 1, .int .i64 X.m, .bool true] 57))
    replace V := hid (var_alloc (.cells #[.int .i64 0, .int .i64 X.n, .int .i64 X.i, .int .i64 1, .int .i64 X.m, .bool true] 57) V.out)
    replace BB := hid (BB.out.trans ((below_alloc1 w2 (.cells #[.int .i64 0, .int .i64 X.n, .int .i64 X.i, .int .i64 1, .int .i64 X.m, .bool true] 57)).mono BB.out.size))
    have V2 := hid (cr_row (new := #[.int .i64 0, .int .i64 X.n, .int .i64 X.i, .int .i64 1, .int .i64 X.m, .bool true]) V.out)
    have B2 := hid (cr_below (L := #[.int .i64 0, .int .i64 X.n, .int .i64 X.i, .int .i64 1, .int .i64 X.m, .bool true]) BB.out LG.out)
    go_wp2_with (first | refine buildC rfl 57 _ rfl _ (cr_e1 (n := X.n) (i := X.i) (s := X.s) (m := X.m) (by simp [Act.eval])) ?_ | refine wpList_load_row rfl 57 _ rfl w2.heap.size rfl 57 #[.int .i64 0, .int .i64 X.n, .int .i64 X.i, .int .i64 1, .int .i64 X.m, .bool true] _ _ VT.out Try.underlying57 rfl (cr_info _ rfl) ?_ | refine wpList_store_row rfl 57 _ _ rfl g #[.int .i64 0, .int .i64 X.n, .int .i64 X.i, .int .i64 1, .int .i64 X.m, .bool true] rfl rfl 57 _ V.out (cr_info _ rfl) rfl (cr_one _ _ _ _ _ _) ?_)
    exact bodyPost_ret (v := .agg #[.int .i64 0, .int .i64 X.n, .int .i64 X.i, .int .i64 1, .int .i64 X.m, .bool true]) (results_cell_row rfl _ _ g 57 _ _ _ rfl V2.out Try.underlying57 rfl (by kernel_rfl)) rfl ⟨by have e := hR.out.trans E.out; rw [e]; first | done | rfl, B2.out⟩
  · have E := hid (ES.out h0)
    have n0 : (X.s == 0) = false := by simp [h0]
    replace h0 := hid h0
    clear EM ES
    have k0 := cell_alloc c0 (.cells #[.int .i64 0, .int .i64 X.n, .int .i64 X.i, .int .i64 X.s, .int .i64 X.m, .bool false] 57)
    have k1 := cell_alloc c1 (.cells #[.int .i64 0, .int .i64 X.n, .int .i64 X.i, .int .i64 X.s, .int .i64 X.m, .bool false] 57)
    have k2 := cell_alloc c2 (.cells #[.int .i64 0, .int .i64 X.n, .int .i64 X.i, .int .i64 X.s, .int .i64 X.m, .bool false] 57)
    have k3 := cell_alloc c3 (.cells #[.int .i64 0, .int .i64 X.n, .int .i64 X.i, .int .i64 X.s, .int .i64 X.m, .bool false] 57)
    have VT := hid (heap_alloc_new w2 (.cells #[.int .i64 0, .int .i64 X.n, .int .i64 X.i, .int .i64 X.s, .int .i64 X.m, .bool false] 57))
    replace V := hid (var_alloc (.cells #[.int .i64 0, .int .i64 X.n, .int .i64 X.i, .int .i64 X.s, .int .i64 X.m, .bool false] 57) V.out)
    replace BB := hid (BB.out.trans ((below_alloc1 w2 (.cells #[.int .i64 0, .int .i64 X.n, .int .i64 X.i, .int .i64 X.s, .int .i64 X.m, .bool false] 57)).mono BB.out.size))
    have V2 := hid (cr_row (new := #[.int .i64 0, .int .i64 X.n, .int .i64 X.i, .int .i64 X.s, .int .i64 X.m, .bool false]) V.out)
    have B2 := hid (cr_below (L := #[.int .i64 0, .int .i64 X.n, .int .i64 X.i, .int .i64 X.s, .int .i64 X.m, .bool false]) BB.out LG.out)
    go_wp2_with (first | refine buildC rfl 57 _ rfl _ (cr_e1 (n := X.n) (i := X.i) (s := X.s) (m := X.m) (by simp [Act.eval])) ?_ | refine wpList_load_row rfl 57 _ rfl w2.heap.size rfl 57 #[.int .i64 0, .int .i64 X.n, .int .i64 X.i, .int .i64 X.s, .int .i64 X.m, .bool false] _ _ VT.out Try.underlying57 rfl (cr_info _ rfl) ?_ | refine wpList_store_row rfl 57 _ _ rfl g #[.int .i64 0, .int .i64 X.n, .int .i64 X.i, .int .i64 X.s, .int .i64 X.m, .bool false] rfl rfl 57 _ V.out (cr_info _ rfl) rfl (cr_one _ _ _ _ _ _) ?_)
    exact bodyPost_ret (v := .agg #[.int .i64 0, .int .i64 X.n, .int .i64 X.i, .int .i64 X.s, .int .i64 X.m, .bool false]) (results_cell_row rfl _ _ g 57 _ _ _ rfl V2.out Try.underlying57 rfl (by kernel_rfl)) rfl ⟨by have e := hR.out.trans E.out; rw [e]; first | done | rfl, B2.out⟩
end Go.Proofs.Ytalaolfcdaaaoaa.W
