/-
  The draw of FindClaim. Generated text.
-/
import Derived.Test.YtalaolfcdaaaoaaDrawVw
namespace Go.Proofs.Ytalaolfcdaaaoaa.W
open Go.ChangeShapes Go.WideShapes Go.ChangeAt Go.RowKit
open Go.Proofs.Ytalaolfcdaaaoaa.M

set_option maxHeartbeats 2000000 in
set_option maxRecDepth 100000 in
theorem drFc (v : Value) (l : List Nat) (w : World) (h : Rd w v l) (y : Byt l) (hl : l.length ≤ 1048576) :
    Calls Try.prog 94 #[v] w fun e w' => ∃ (u : Value) (cs : List Clm) (n : Int), e = .returned (.tuple #[u, .int .i64 n]) ∧ RdC w' u cs ∧ cs.length ≤ 8 ∧ Below w.heap.size w w' := by
  have RC := hid h
  obtain ⟨q, cap, rfl, -, -, -⟩ := h.parts
  clear h
  go_enter Try.func94, Try.ntmps94
  go_wp2_with fail
  refine (source _ l w RC.out y).mono ?_
  rintro e w1 ⟨rfl, hS⟩
  have S := hid hS
  clear hS
  generalize w.heap.size = gs at *
  go_wp2_with fail
  refine (l8b w w1 gs _ l 0 S.out (by omega) hl).mono ?_
  rintro e w2 ⟨u, cs, t', rfl, hO, hc, htt, hS, hG⟩
  obtain ⟨pu, cu, rfl, -, -, -⟩ := hO.rd.parts
  have GS := hid (show gs < w1.heap.size from var_lt S.out.cells)
  have OL := hid hO
  replace S := hid hS
  clear hO hS hG
  have VL := hid (show Lst (w2.alloc (.cells #[.int .i64 0, .int .i64 1, .int .i64 2, .int .i64 3, .int .i64 4, .int .i64 (-1)] 2)) w2.heap.size [0, 1, 2, 3, 4, -1] from heap_alloc_new w2 (.cells #[.int .i64 0, .int .i64 1, .int .i64 2, .int .i64 3, .int .i64 4, .int .i64 (-1)] 2))
  have BA := below_alloc1 w2 (.cells #[.int .i64 0, .int .i64 1, .int .i64 2, .int .i64 3, .int .i64 4, .int .i64 (-1)] 2)
  have NG := hid (show w2.heap.size ≠ gs by have := var_lt S.out.cells; omega)
  replace S := hid (S.out.later BA)
  replace OL := hid (OL.out.below BA)
  clear BA
  go_wp2_with fail
  refine (pick' w _ gs w2.heap.size 6 _ l _ [0, 1, 2, 3, 4, -1] S.out (by omega) hl VL.out NG.out rfl (by omega) (by omega)).mono ?_
  rintro e w3 ⟨x, -, rfl, hS, hG⟩
  replace OL := hid (OL.out.keepG hG GS.out)
  replace S := hid hS
  clear hS hG VL NG
  go_wp2
  go_ret2
  exact ⟨.slice pu cs.length cu, cs, x, rfl, OL.out.rd, hc, S.out.bel⟩
end Go.Proofs.Ytalaolfcdaaaoaa.W
