/-
  How a claim with a fault is drawn. Generated text.
-/
import Derived.Test.YtalaolfcdaaaoaaDrawC7
namespace Go.Proofs.Ytalaolfcdaaaoaa.W
open Go.ChangeShapes Go.WideShapes Go.ChangeAt Go.RowKit
open Go.Proofs.Ytalaolfcdaaaoaa.M

set_option maxHeartbeats 4000000 in
set_option maxRecDepth 100000 in
theorem drCf (v : Value) (l : List Nat) (w : World) (h : Rd w v l) (y : Byt l) (hl : l.length ≤ 1048576) :
    Calls Try.prog 91 #[v] w fun e w' => ∃ c : Clm, e = .returned (.agg #[.int .i64 c.n, .int .i64 c.i, .int .i64 c.s, .int .i64 c.m]) ∧ Below w.heap.size w w' := by
  have RC := hid h
  obtain ⟨q, cap, rfl, -, -, -⟩ := h.parts
  clear h
  go_enter Try.func91, Try.ntmps91
  have VA := hid (heap_alloc_new w (.cells #[.int .i64 0, .int .i64 0, .int .i64 0, .int .i64 0] 38))
  have BB := hid (below_alloc1 w (.cells #[.int .i64 0, .int .i64 0, .int .i64 0, .int .i64 0] 38))
  go_wp2_with fail
  generalize w.alloc (.cells #[.int .i64 0, .int .i64 0, .int .i64 0, .int .i64 0] 38) = w0 at *
  obtain ⟨ga, hga⟩ : ∃ g, g = w.heap.size := ⟨_, rfl⟩
  rw [← hga] at VA ⊢
  have GA := hid (show w.heap.size ≤ ga by omega)
  have LA := hid (show ga < w0.heap.size from var_lt VA.out)
  clear hga
  refine (source _ l w0 (RC.out.below BB.out) y).mono ?_
  rintro e w1 ⟨rfl, hS⟩
  have S := hid hS
  replace VA := hid (var_below hS.bel VA.out)
  clear hS
  obtain ⟨gs, hgs⟩ : ∃ g, g = w0.heap.size := ⟨_, rfl⟩
  rw [← hgs] at S LA ⊢
  have GS := hid (show w0.heap.size ≤ gs by omega)
  clear hgs
  go_wp2_with fail
  refine (l7c w0 w1 gs _ l 0 S.out (by omega) hl).mono ?_
  rintro e w2 ⟨c, rfl, hS, hG⟩
  replace S := hid hS
  replace VA := hid (var_grown hG VA.out (fun e => by have := Option.some.inj e; have := LA.out; omega))
  clear hS hG
  have VC := hid (heap_alloc_new w2 (.cells #[.int .i64 c.n, .int .i64 c.i, .int .i64 c.s, .int .i64 c.m] 38))
  have BC := hid (below_alloc1 w2 (.cells #[.int .i64 c.n, .int .i64 c.i, .int .i64 c.s, .int .i64 c.m] 38))
  replace VA := hid (var_below BC.out VA.out)
  have LS := hid (show gs < w2.heap.size from var_lt S.out.cells)
  replace S := hid (S.out.later BC.out)
  go_wp2_with fail
  generalize w2.alloc (.cells #[.int .i64 c.n, .int .i64 c.i, .int .i64 c.s, .int .i64 c.m] 38) = w3 at *
  obtain ⟨gc, hgc⟩ : ∃ g, g = w2.heap.size := ⟨_, rfl⟩
  rw [← hgc] at VC LS ⊢
  clear hgc BC
  refine (next w0 w3 gs _ l _ 9 S.out (by omega) (by omega) hl).mono ?_
  rintro e w4 ⟨r, rfl, -, hS, hG⟩
  replace S := hid hS
  replace VA := hid (var_grown hG VA.out (fun e => by have := Option.some.inj e; have := LA.out; omega))
  replace VC := hid (var_grown hG VC.out (fun e => by have := Option.some.inj e; have := LS.out; omega))
  clear hS hG
  have NA := hid (show ga ≠ gc by have := LA.out; have := LS.out; omega)
  have GC := hid (show w.heap.size ≤ gc by have := GA.out; have := LA.out; have := LS.out; omega)
  by_cases r0 : r = 0
  · subst r0
    have VL := hid (show Lst (w4.alloc (.cells #[.int .i64 (-1), .int .i64 4] 2)) w4.heap.size [-1, 4] from heap_alloc_new w4 (.cells #[.int .i64 (-1), .int .i64 4] 2))
    have BA := hid (below_alloc1 w4 (.cells #[.int .i64 (-1), .int .i64 4] 2))
    have NG := hid (show w4.heap.size ≠ gs by have := var_lt S.out.cells; omega)
    replace S := hid (S.out.later BA.out)
    replace VA := hid (var_below BA.out VA.out)
    replace VC := hid (var_below BA.out VC.out)
    go_wp2_with fail
    refine (pick' w0 _ gs w4.heap.size 2 _ l _ [-1, 4] S.out (by omega) hl VL.out NG.out rfl (by omega) (by omega)).mono ?_
    rintro e w5 ⟨x, -, rfl, hS, hG⟩
    replace VA := hid (var_grown hG VA.out (fun e => by have := Option.some.inj e; have := LA.out; omega))
    replace VC := hid (var_grown hG VC.out (fun e => by have := Option.some.inj e; have := LS.out; omega))
    replace BB := hid (BB.out.trans (hS.bel.mono BB.out.size))
    clear hS hG S VL BA NG
    obtain ⟨⟨d0, d1, d2, d3⟩, d4, d5, d6, d7⟩ := var4_facts VC.out
    have HC : (w5.setCell ⟨gc, 0, none⟩ (.int .i64 x)).heap[gc]? = some (.cells #[.int .i64 x, .int .i64 c.i, .int .i64 c.s, .int .i64 c.m] 38) := by simpa using heap_setCell_same w5 gc 0 _ _ (.int .i64 x) VC.out
    obtain ⟨⟨f0, f1, f2, f3⟩, -⟩ := var4_facts HC
    have HV := var_grown (set_grown w5 gc 0 (.int .i64 x)) VA.out (fun e => NA.out (Option.some.inj e))
    obtain ⟨⟨z0, z1, z2, z3⟩, z4, z5, z6, z7⟩ := var4_facts HV
    have HS := hid (var4_set (x' := .int .i64 x) (y' := .int .i64 c.i) (z' := .int .i64 c.s) (u' := .int .i64 c.m) HV)
    have BN := hid ((BB.out.setCell (p := ⟨gc, 0, none⟩) GC.out (.int .i64 x)).grown (st4_grown _ ga 0 ⟨x, c.i, c.s, c.m⟩) (by have := BB.out.size; simp; omega) (fun k e => by cases e; exact GA.out))
    unfold st4 at BN
    simp only [Nat.zero_add] at BN
    clear HC HV BB VA VC
    go_wp2
    exact bodyPost_ret (v := .agg #[.int .i64 x, .int .i64 c.i, .int .i64 c.s, .int .i64 c.m]) (results_cell_row rfl _ _ ga 38 _ _ _ rfl HS.out Try.underlying38 rfl (by kernel_rfl)) rfl ⟨⟨x, c.i, c.s, c.m⟩, rfl, BN.out⟩
  by_cases r1 : r = 1
  · subst r1
    have VL := hid (show Lst (w4.alloc (.cells #[.int .i64 (-1), .int .i64 1000001] 2)) w4.heap.size [-1, 1000001] from heap_alloc_new w4 (.cells #[.int .i64 (-1), .int .i64 1000001] 2))
    have BA := hid (below_alloc1 w4 (.cells #[.int .i64 (-1), .int .i64 1000001] 2))
    have NG := hid (show w4.heap.size ≠ gs by have := var_lt S.out.cells; omega)
    replace S := hid (S.out.later BA.out)
    replace VA := hid (var_below BA.out VA.out)
    replace VC := hid (var_below BA.out VC.out)
    go_wp2_with fail
    refine (pick' w0 _ gs w4.heap.size 2 _ l _ [-1, 1000001] S.out (by omega) hl VL.out NG.out rfl (by omega) (by omega)).mono ?_
    rintro e w5 ⟨x, -, rfl, hS, hG⟩
    replace VA := hid (var_grown hG VA.out (fun e => by have := Option.some.inj e; have := LA.out; omega))
    replace VC := hid (var_grown hG VC.out (fun e => by have := Option.some.inj e; have := LS.out; omega))
    replace BB := hid (BB.out.trans (hS.bel.mono BB.out.size))
    clear hS hG S VL BA NG
    obtain ⟨⟨d0, d1, d2, d3⟩, d4, d5, d6, d7⟩ := var4_facts VC.out
    have HC : (w5.setCell ⟨gc, 1, none⟩ (.int .i64 x)).heap[gc]? = some (.cells #[.int .i64 c.n, .int .i64 x, .int .i64 c.s, .int .i64 c.m] 38) := by simpa using heap_setCell_same w5 gc 1 _ _ (.int .i64 x) VC.out
    obtain ⟨⟨f0, f1, f2, f3⟩, -⟩ := var4_facts HC
    have HV := var_grown (set_grown w5 gc 1 (.int .i64 x)) VA.out (fun e => NA.out (Option.some.inj e))
    obtain ⟨⟨z0, z1, z2, z3⟩, z4, z5, z6, z7⟩ := var4_facts HV
    have HS := hid (var4_set (x' := .int .i64 c.n) (y' := .int .i64 x) (z' := .int .i64 c.s) (u' := .int .i64 c.m) HV)
    have BN := hid ((BB.out.setCell (p := ⟨gc, 1, none⟩) GC.out (.int .i64 x)).grown (st4_grown _ ga 0 ⟨c.n, x, c.s, c.m⟩) (by have := BB.out.size; simp; omega) (fun k e => by cases e; exact GA.out))
    unfold st4 at BN
    simp only [Nat.zero_add] at BN
    clear HC HV BB VA VC
    go_wp2
    exact bodyPost_ret (v := .agg #[.int .i64 c.n, .int .i64 x, .int .i64 c.s, .int .i64 c.m]) (results_cell_row rfl _ _ ga 38 _ _ _ rfl HS.out Try.underlying38 rfl (by kernel_rfl)) rfl ⟨⟨c.n, x, c.s, c.m⟩, rfl, BN.out⟩
  by_cases r2 : r = 2
  · subst r2
    have VL := hid (show Lst (w4.alloc (.cells #[.int .i64 (-1), .int .i64 3] 2)) w4.heap.size [-1, 3] from heap_alloc_new w4 (.cells #[.int .i64 (-1), .int .i64 3] 2))
    have BA := hid (below_alloc1 w4 (.cells #[.int .i64 (-1), .int .i64 3] 2))
    have NG := hid (show w4.heap.size ≠ gs by have := var_lt S.out.cells; omega)
    replace S := hid (S.out.later BA.out)
    replace VA := hid (var_below BA.out VA.out)
    replace VC := hid (var_below BA.out VC.out)
    go_wp2_with fail
    refine (pick' w0 _ gs w4.heap.size 2 _ l _ [-1, 3] S.out (by omega) hl VL.out NG.out rfl (by omega) (by omega)).mono ?_
    rintro e w5 ⟨x, -, rfl, hS, hG⟩
    replace VA := hid (var_grown hG VA.out (fun e => by have := Option.some.inj e; have := LA.out; omega))
    replace VC := hid (var_grown hG VC.out (fun e => by have := Option.some.inj e; have := LS.out; omega))
    replace BB := hid (BB.out.trans (hS.bel.mono BB.out.size))
    clear hS hG S VL BA NG
    obtain ⟨⟨d0, d1, d2, d3⟩, d4, d5, d6, d7⟩ := var4_facts VC.out
    have HC : (w5.setCell ⟨gc, 2, none⟩ (.int .i64 x)).heap[gc]? = some (.cells #[.int .i64 c.n, .int .i64 c.i, .int .i64 x, .int .i64 c.m] 38) := by simpa using heap_setCell_same w5 gc 2 _ _ (.int .i64 x) VC.out
    obtain ⟨⟨f0, f1, f2, f3⟩, -⟩ := var4_facts HC
    have HV := var_grown (set_grown w5 gc 2 (.int .i64 x)) VA.out (fun e => NA.out (Option.some.inj e))
    obtain ⟨⟨z0, z1, z2, z3⟩, z4, z5, z6, z7⟩ := var4_facts HV
    have HS := hid (var4_set (x' := .int .i64 c.n) (y' := .int .i64 c.i) (z' := .int .i64 x) (u' := .int .i64 c.m) HV)
    have BN := hid ((BB.out.setCell (p := ⟨gc, 2, none⟩) GC.out (.int .i64 x)).grown (st4_grown _ ga 0 ⟨c.n, c.i, x, c.m⟩) (by have := BB.out.size; simp; omega) (fun k e => by cases e; exact GA.out))
    unfold st4 at BN
    simp only [Nat.zero_add] at BN
    clear HC HV BB VA VC
    go_wp2
    exact bodyPost_ret (v := .agg #[.int .i64 c.n, .int .i64 c.i, .int .i64 x, .int .i64 c.m]) (results_cell_row rfl _ _ ga 38 _ _ _ rfl HS.out Try.underlying38 rfl (by kernel_rfl)) rfl ⟨⟨c.n, c.i, x, c.m⟩, rfl, BN.out⟩
  by_cases r3 : r = 3
  · subst r3
    have VL := hid (show Lst (w4.alloc (.cells #[.int .i64 (-1), .int .i64 10000000] 2)) w4.heap.size [-1, 10000000] from heap_alloc_new w4 (.cells #[.int .i64 (-1), .int .i64 10000000] 2))
    have BA := hid (below_alloc1 w4 (.cells #[.int .i64 (-1), .int .i64 10000000] 2))
    have NG := hid (show w4.heap.size ≠ gs by have := var_lt S.out.cells; omega)
    replace S := hid (S.out.later BA.out)
    replace VA := hid (var_below BA.out VA.out)
    replace VC := hid (var_below BA.out VC.out)
    go_wp2_with fail
    refine (pick' w0 _ gs w4.heap.size 2 _ l _ [-1, 10000000] S.out (by omega) hl VL.out NG.out rfl (by omega) (by omega)).mono ?_
    rintro e w5 ⟨x, -, rfl, hS, hG⟩
    replace VA := hid (var_grown hG VA.out (fun e => by have := Option.some.inj e; have := LA.out; omega))
    replace VC := hid (var_grown hG VC.out (fun e => by have := Option.some.inj e; have := LS.out; omega))
    replace BB := hid (BB.out.trans (hS.bel.mono BB.out.size))
    clear hS hG S VL BA NG
    obtain ⟨⟨d0, d1, d2, d3⟩, d4, d5, d6, d7⟩ := var4_facts VC.out
    have HC : (w5.setCell ⟨gc, 3, none⟩ (.int .i64 x)).heap[gc]? = some (.cells #[.int .i64 c.n, .int .i64 c.i, .int .i64 c.s, .int .i64 x] 38) := by simpa using heap_setCell_same w5 gc 3 _ _ (.int .i64 x) VC.out
    obtain ⟨⟨f0, f1, f2, f3⟩, -⟩ := var4_facts HC
    have HV := var_grown (set_grown w5 gc 3 (.int .i64 x)) VA.out (fun e => NA.out (Option.some.inj e))
    obtain ⟨⟨z0, z1, z2, z3⟩, z4, z5, z6, z7⟩ := var4_facts HV
    have HS := hid (var4_set (x' := .int .i64 c.n) (y' := .int .i64 c.i) (z' := .int .i64 c.s) (u' := .int .i64 x) HV)
    have BN := hid ((BB.out.setCell (p := ⟨gc, 3, none⟩) GC.out (.int .i64 x)).grown (st4_grown _ ga 0 ⟨c.n, c.i, c.s, x⟩) (by have := BB.out.size; simp; omega) (fun k e => by cases e; exact GA.out))
    unfold st4 at BN
    simp only [Nat.zero_add] at BN
    clear HC HV BB VA VC
    go_wp2
    exact bodyPost_ret (v := .agg #[.int .i64 c.n, .int .i64 c.i, .int .i64 c.s, .int .i64 x]) (results_cell_row rfl _ _ ga 38 _ _ _ rfl HS.out Try.underlying38 rfl (by kernel_rfl)) rfl ⟨⟨c.n, c.i, c.s, x⟩, rfl, BN.out⟩
  have e0 : (r == 0) = false := by simpa using r0
  have e1 : (r == 1) = false := by simpa using r1
  have e2 : (r == 2) = false := by simpa using r2
  have e3 : (r == 3) = false := by simpa using r3
  replace BB := hid (BB.out.trans (S.out.bel.mono BB.out.size))
  clear S r0 r1 r2 r3
  obtain ⟨⟨f0, f1, f2, f3⟩, -⟩ := var4_facts VC.out
  obtain ⟨⟨z0, z1, z2, z3⟩, z4, z5, z6, z7⟩ := var4_facts VA.out
  have HS := hid (var4_set (x' := .int .i64 c.n) (y' := .int .i64 c.i) (z' := .int .i64 c.s) (u' := .int .i64 c.m) VA.out)
  have BN := hid (BB.out.grown (st4_grown _ ga 0 c) BB.out.size (fun k e => by cases e; exact GA.out))
  unfold st4 at BN
  simp only [Nat.zero_add] at BN
  clear BB VA VC
  go_wp2
  exact bodyPost_ret (v := .agg #[.int .i64 c.n, .int .i64 c.i, .int .i64 c.s, .int .i64 c.m]) (results_cell_row rfl _ _ ga 38 _ _ _ rfl HS.out Try.underlying38 rfl (by kernel_rfl)) rfl ⟨c, rfl, BN.out⟩
end Go.Proofs.Ytalaolfcdaaaoaa.W
