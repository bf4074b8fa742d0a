/-
  The draws of the law of targets. Generated text.
-/
import Derived.OwnWalk
import Derived.Test.YtalaolfcdaaaoaaDrawVw
namespace Go.Proofs.Ytalaolfcdaaaoaa.W
open Go.ChangeShapes Go.WideShapes Go.ChangeAt Go.RowKit
open Go.Proofs.Ytalaolfcdaaaoaa.M

theorem results_tmp4 {fn : Func} {t u v x : Tmp} (h : fn.results = #[.tmp t, .tmp u, .tmp v, .tmp x]) (tmps : Array Value) (P : Program) (w : World) :
    (results fn tmps).run P w = .ok (.tuple #[tmps.getD t undef, tmps.getD u undef, tmps.getD v undef, tmps.getD x undef]) w := by
  simp [results, h]
set_option maxHeartbeats 4000000 in
set_option maxRecDepth 100000 in
theorem drNt (v : Value) (l : List Nat) (w : World) (h : Rd w v l) (y : Byt l) (hl : l.length ≤ 1048576) :
    Calls Try.prog 10 #[v] w fun e w' => ∃ (u : Value) (cs : List Clm) (x0 x1 : Int), e = .returned (.tuple #[u, .int .i64 x0, .int .i64 x1]) ∧ RdC w' u cs ∧ cs.length ≤ 8 ∧ Below w.heap.size w w' := by
  have RC := hid h
  obtain ⟨q, cap, rfl, -, -, -⟩ := h.parts
  clear h
  go_enter Try.func10, Try.ntmps10
  go_wp2_with fail
  refine (source _ l w RC.out y).mono ?_
  rintro e w1 ⟨rfl, hS⟩
  have S := hid hS
  clear hS
  generalize w.heap.size = gs at *
  go_wp2_with fail
  refine (l8b w w1 gs _ l 0 S.out (by omega) hl).mono ?_
  rintro e w2 ⟨u, cs, t', rfl, hO, hc, htt, hS, hG⟩
  obtain ⟨pu, cu, rfl, -, -, -⟩ := hO.rd.parts
  have GS := hid (show gs < w1.heap.size from var_lt S.out.cells)
  have OL := hid hO
  replace S := hid hS
  clear hO hS hG
  have VL := hid (show Lst (w2.alloc (.cells #[.int .i64 0, .int .i64 1, .int .i64 2, .int .i64 3, .int .i64 4] 2)) w2.heap.size [0, 1, 2, 3, 4] from heap_alloc_new w2 (.cells #[.int .i64 0, .int .i64 1, .int .i64 2, .int .i64 3, .int .i64 4] 2))
  have BA := below_alloc1 w2 (.cells #[.int .i64 0, .int .i64 1, .int .i64 2, .int .i64 3, .int .i64 4] 2)
  have NG := hid (show w2.heap.size ≠ gs by have := var_lt S.out.cells; omega)
  replace S := hid (S.out.later BA)
  replace OL := hid (OL.out.below BA)
  clear BA
  go_wp2_with fail
  refine (pick' w _ gs w2.heap.size 5 _ l _ [0, 1, 2, 3, 4] S.out (by omega) hl VL.out NG.out rfl (by omega) (by omega)).mono ?_
  rintro e w3 ⟨x0, -, rfl, hS, hG⟩
  replace OL := hid (OL.out.keepG hG GS.out)
  replace S := hid hS
  clear hS hG VL NG
  have VL := hid (show Lst (w3.alloc (.cells #[.int .i64 (-1), .int .i64 0, .int .i64 1, .int .i64 2, .int .i64 3, .int .i64 4, .int .i64 (-2)] 2)) w3.heap.size [-1, 0, 1, 2, 3, 4, -2] from heap_alloc_new w3 (.cells #[.int .i64 (-1), .int .i64 0, .int .i64 1, .int .i64 2, .int .i64 3, .int .i64 4, .int .i64 (-2)] 2))
  have BA := below_alloc1 w3 (.cells #[.int .i64 (-1), .int .i64 0, .int .i64 1, .int .i64 2, .int .i64 3, .int .i64 4, .int .i64 (-2)] 2)
  have NG := hid (show w3.heap.size ≠ gs by have := var_lt S.out.cells; omega)
  replace S := hid (S.out.later BA)
  replace OL := hid (OL.out.below BA)
  clear BA
  go_wp2_with fail
  refine (pick' w _ gs w3.heap.size 7 _ l _ [-1, 0, 1, 2, 3, 4, -2] S.out (by omega) hl VL.out NG.out rfl (by omega) (by omega)).mono ?_
  rintro e w4 ⟨x1, -, rfl, hS, hG⟩
  replace OL := hid (OL.out.keepG hG GS.out)
  replace S := hid hS
  clear hS hG VL NG
  go_wp2
  try simp only [Exit.inBlock, Exit.then]
  refine bodyPost_ret (results_tmp3 rfl _ _ _) rfl ?_
  exact ⟨.slice pu cs.length cu, cs, x0, x1, rfl, OL.out.rd, hc, S.out.bel⟩
set_option maxHeartbeats 4000000 in
set_option maxRecDepth 100000 in
theorem drHp (v : Value) (l : List Nat) (w : World) (h : Rd w v l) (y : Byt l) (hl : l.length ≤ 1048576) :
    Calls Try.prog 12 #[v] w fun e w' => ∃ (u : Value) (cs : List Clm) (x0 x1 x2 : Int), e = .returned (.tuple #[u, .int .i64 x0, .int .i64 x1, .int .i64 x2]) ∧ RdC w' u cs ∧ cs.length ≤ 8 ∧ Below w.heap.size w w' := by
  have RC := hid h
  obtain ⟨q, cap, rfl, -, -, -⟩ := h.parts
  clear h
  go_enter Try.func12, Try.ntmps12
  go_wp2_with fail
  refine (source _ l w RC.out y).mono ?_
  rintro e w1 ⟨rfl, hS⟩
  have S := hid hS
  clear hS
  generalize w.heap.size = gs at *
  go_wp2_with fail
  refine (l8b w w1 gs _ l 0 S.out (by omega) hl).mono ?_
  rintro e w2 ⟨u, cs, t', rfl, hO, hc, htt, hS, hG⟩
  obtain ⟨pu, cu, rfl, -, -, -⟩ := hO.rd.parts
  have GS := hid (show gs < w1.heap.size from var_lt S.out.cells)
  have OL := hid hO
  replace S := hid hS
  clear hO hS hG
  have VL := hid (show Lst (w2.alloc (.cells #[.int .i64 0, .int .i64 1, .int .i64 2, .int .i64 3, .int .i64 (-1)] 2)) w2.heap.size [0, 1, 2, 3, -1] from heap_alloc_new w2 (.cells #[.int .i64 0, .int .i64 1, .int .i64 2, .int .i64 3, .int .i64 (-1)] 2))
  have BA := below_alloc1 w2 (.cells #[.int .i64 0, .int .i64 1, .int .i64 2, .int .i64 3, .int .i64 (-1)] 2)
  have NG := hid (show w2.heap.size ≠ gs by have := var_lt S.out.cells; omega)
  replace S := hid (S.out.later BA)
  replace OL := hid (OL.out.below BA)
  clear BA
  go_wp2_with fail
  refine (pick' w _ gs w2.heap.size 5 _ l _ [0, 1, 2, 3, -1] S.out (by omega) hl VL.out NG.out rfl (by omega) (by omega)).mono ?_
  rintro e w3 ⟨x0, -, rfl, hS, hG⟩
  replace OL := hid (OL.out.keepG hG GS.out)
  replace S := hid hS
  clear hS hG VL NG
  have VL := hid (show Lst (w3.alloc (.cells #[.int .i64 0, .int .i64 1, .int .i64 2, .int .i64 3, .int .i64 4] 2)) w3.heap.size [0, 1, 2, 3, 4] from heap_alloc_new w3 (.cells #[.int .i64 0, .int .i64 1, .int .i64 2, .int .i64 3, .int .i64 4] 2))
  have BA := below_alloc1 w3 (.cells #[.int .i64 0, .int .i64 1, .int .i64 2, .int .i64 3, .int .i64 4] 2)
  have NG := hid (show w3.heap.size ≠ gs by have := var_lt S.out.cells; omega)
  replace S := hid (S.out.later BA)
  replace OL := hid (OL.out.below BA)
  clear BA
  go_wp2_with fail
  refine (pick' w _ gs w3.heap.size 5 _ l _ [0, 1, 2, 3, 4] S.out (by omega) hl VL.out NG.out rfl (by omega) (by omega)).mono ?_
  rintro e w4 ⟨x1, -, rfl, hS, hG⟩
  replace OL := hid (OL.out.keepG hG GS.out)
  replace S := hid hS
  clear hS hG VL NG
  have VL := hid (show Lst (w4.alloc (.cells #[.int .i64 0, .int .i64 1, .int .i64 2, .int .i64 4, .int .i64 5] 2)) w4.heap.size [0, 1, 2, 4, 5] from heap_alloc_new w4 (.cells #[.int .i64 0, .int .i64 1, .int .i64 2, .int .i64 4, .int .i64 5] 2))
  have BA := below_alloc1 w4 (.cells #[.int .i64 0, .int .i64 1, .int .i64 2, .int .i64 4, .int .i64 5] 2)
  have NG := hid (show w4.heap.size ≠ gs by have := var_lt S.out.cells; omega)
  replace S := hid (S.out.later BA)
  replace OL := hid (OL.out.below BA)
  clear BA
  go_wp2_with fail
  refine (pick' w _ gs w4.heap.size 5 _ l _ [0, 1, 2, 4, 5] S.out (by omega) hl VL.out NG.out rfl (by omega) (by omega)).mono ?_
  rintro e w5 ⟨x2, -, rfl, hS, hG⟩
  replace OL := hid (OL.out.keepG hG GS.out)
  replace S := hid hS
  clear hS hG VL NG
  go_wp2
  try simp only [Exit.inBlock, Exit.then]
  refine bodyPost_ret (results_tmp4 rfl _ _ _) rfl ?_
  exact ⟨.slice pu cs.length cu, cs, x0, x1, x2, rfl, OL.out.rd, hc, S.out.bel⟩
end Go.Proofs.Ytalaolfcdaaaoaa.W
