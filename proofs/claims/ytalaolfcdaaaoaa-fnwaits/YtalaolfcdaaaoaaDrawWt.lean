/-
  How a wait is drawn. Generated text.
-/
import Derived.Test.YtalaolfcdaaaoaaDrawC7
import Derived.Test.YtalaolfcdaaaoaaWtA
namespace Go.Proofs.Ytalaolfcdaaaoaa.W
open Go.ChangeShapes Go.WideShapes Go.ChangeAt Go.RowKit
open Go.Proofs.Ytalaolfcdaaaoaa.M

theorem size_setC (w : World) (a : Addr) (x : Value) : (w.setCell a x).heap.size = w.heap.size := by simp [World.setCell]
theorem var_setT9 {w : World} {g k i : Nat} {o : Obj} {x : Value} (h : w.heap[g]? = some o) (hne : g ≠ k) : (w.setCell ⟨k, i, none⟩ x).heap[g]? = some o := by
  rw [Below.heap_setCell _ _ _ _ hne]; exact h
set_option maxHeartbeats 4000000 in
set_option maxRecDepth 100000 in
theorem l9d (w0 w : World) (g : Nat) (v : Value) (l : List Nat) (t : Nat) (h : Src w0 w g v l t) (ht : t ≤ 900000) (hl : l.length ≤ 1048576) :
    Calls Try.prog 95 #[.pointer (some ⟨g, 0, none⟩)] w fun e w' => ∃ x : Wai, e = .returned (.agg #[.int .i64 x.a, .int .i64 x.b, .int .i64 x.c, .int .i64 x.d, .int .i64 x.e, .int .i64 x.f, .int .i64 x.g]) ∧ (∃ t', t' ≤ t + 7 ∧ Src w0 w' g v l t') ∧ w.grownBy w' (some g) := by
  have GV := hid (show g < w.heap.size from var_lt h.cells)
  have NV := hid (show w0.heap.size ≤ w.heap.size from h.bel.size)
  have S := hid (h.later (below_alloc1 w (.cells #[.int .i64 0, .int .i64 0, .int .i64 0, .int .i64 0, .int .i64 0, .int .i64 0, .int .i64 0] 63)))
  have V := hid (heap_alloc_new w (.cells #[.int .i64 0, .int .i64 0, .int .i64 0, .int .i64 0, .int .i64 0, .int .i64 0, .int .i64 0] 63))
  have G := hid (grown_of_below (below_alloc1 w (.cells #[.int .i64 0, .int .i64 0, .int .i64 0, .int .i64 0, .int .i64 0, .int .i64 0, .int .i64 0] 63)) (some g))
  clear h
  go_enter Try.func95, Try.ntmps95
  have VL := hid (show Lst ((w.alloc (.cells #[.int .i64 0, .int .i64 0, .int .i64 0, .int .i64 0, .int .i64 0, .int .i64 0, .int .i64 0] 63)).alloc (.cells #[.int .i64 1, .int .i64 2, .int .i64 3, .int .i64 4] 2)) (w.heap.size + 1) [1, 2, 3, 4] from by have e := heap_alloc_new (w.alloc (.cells #[.int .i64 0, .int .i64 0, .int .i64 0, .int .i64 0, .int .i64 0, .int .i64 0, .int .i64 0] 63)) (.cells #[.int .i64 1, .int .i64 2, .int .i64 3, .int .i64 4] 2); simp only [World.size_alloc] at e; exact e)
  have BA := hid (below_alloc1 (w.alloc (.cells #[.int .i64 0, .int .i64 0, .int .i64 0, .int .i64 0, .int .i64 0, .int .i64 0, .int .i64 0] 63)) (.cells #[.int .i64 1, .int .i64 2, .int .i64 3, .int .i64 4] 2))
  have NG := hid (show w.heap.size + 1 ≠ g by have := GV.out; omega)
  replace S := hid (S.out.later BA.out)
  replace V := hid (var_below BA.out V.out)
  replace G := hid (grown_alloc G.out (.cells #[.int .i64 1, .int .i64 2, .int .i64 3, .int .i64 4] 2))
  go_wp2_with fail
  refine (pick' w0 _ g (w.heap.size + 1) 4 v l _ [1, 2, 3, 4] S.out (by omega) hl VL.out NG.out rfl (by omega) (by omega)).mono ?_
  rintro e x1 ⟨r0, -, rfl, hS, hG⟩
  clear VL BA NG
  replace S := hid hS
  replace V := hid (var_grown hG V.out (fun e => by have := Option.some.inj e; have := GV.out; omega))
  replace G := hid (grown_trans G.out hG)
  clear hS hG
  obtain ⟨gv, hgv⟩ : ∃ q, q = w.heap.size := ⟨_, rfl⟩
  rw [← hgv] at V GV NV ⊢
  have GW := hid (show w.heap.size ≤ gv by omega)
  clear hgv
  have VL := hid (show Lst (x1.alloc (.cells #[.int .i64 0, .int .i64 1, .int .i64 2, .int .i64 3] 2)) x1.heap.size [0, 1, 2, 3] from heap_alloc_new x1 (.cells #[.int .i64 0, .int .i64 1, .int .i64 2, .int .i64 3] 2))
  have BA := hid (below_alloc1 x1 (.cells #[.int .i64 0, .int .i64 1, .int .i64 2, .int .i64 3] 2))
  have NG := hid (show x1.heap.size ≠ g by have := G.out.size; have := var_lt S.out.cells; omega)
  replace S := hid (S.out.later BA.out)
  replace V := hid (var_below BA.out V.out)
  replace G := hid (grown_alloc G.out (.cells #[.int .i64 0, .int .i64 1, .int .i64 2, .int .i64 3] 2))
  go_wp2_with fail
  refine (pick' w0 _ g (x1.heap.size) 4 v l _ [0, 1, 2, 3] S.out (by omega) hl VL.out NG.out rfl (by omega) (by omega)).mono ?_
  rintro e x2 ⟨r1, -, rfl, hS, hG⟩
  clear VL BA NG
  replace S := hid hS
  replace V := hid (var_grown hG V.out (fun e => by have := Option.some.inj e; have := GV.out; omega))
  replace G := hid (grown_trans G.out hG)
  clear hS hG
  go_wp2_with fail
  refine (next w0 _ g v l _ 4 S.out (by omega) (by omega) hl).mono ?_
  rintro e x3 ⟨r2, rfl, -, hS, hG⟩
  replace S := hid hS
  replace V := hid (var_grown hG V.out (fun e => by have := Option.some.inj e; have := GV.out; omega))
  replace G := hid (grown_trans G.out hG)
  clear hS hG
  go_wp2_with fail
  refine (next w0 _ g v l _ 3 S.out (by omega) (by omega) hl).mono ?_
  rintro e x4 ⟨r3, rfl, -, hS, hG⟩
  replace S := hid hS
  replace V := hid (var_grown hG V.out (fun e => by have := Option.some.inj e; have := GV.out; omega))
  replace G := hid (grown_trans G.out hG)
  clear hS hG
  have VL := hid (show Lst (x4.alloc (.cells #[.int .i64 1, .int .i64 1, .int .i64 2, .int .i64 9] 2)) x4.heap.size [1, 1, 2, 9] from heap_alloc_new x4 (.cells #[.int .i64 1, .int .i64 1, .int .i64 2, .int .i64 9] 2))
  have BA := hid (below_alloc1 x4 (.cells #[.int .i64 1, .int .i64 1, .int .i64 2, .int .i64 9] 2))
  have NG := hid (show x4.heap.size ≠ g by have := G.out.size; have := var_lt S.out.cells; omega)
  replace S := hid (S.out.later BA.out)
  replace V := hid (var_below BA.out V.out)
  replace G := hid (grown_alloc G.out (.cells #[.int .i64 1, .int .i64 1, .int .i64 2, .int .i64 9] 2))
  go_wp2_with fail
  refine (pick' w0 _ g (x4.heap.size) 4 v l _ [1, 1, 2, 9] S.out (by omega) hl VL.out NG.out rfl (by omega) (by omega)).mono ?_
  rintro e x5 ⟨r4, -, rfl, hS, hG⟩
  clear VL BA NG
  replace S := hid hS
  replace V := hid (var_grown hG V.out (fun e => by have := Option.some.inj e; have := GV.out; omega))
  replace G := hid (grown_trans G.out hG)
  clear hS hG
  have VX := hid (heap_alloc_new x5 (.cells #[.int .i64 r0, .int .i64 r1, .int .i64 r2, .int .i64 r3, .int .i64 r4, .int .i64 0, .int .i64 0] 63))
  have GX0 := hid (show g < x5.heap.size ∧ gv < x5.heap.size ∧ w.heap.size ≤ x5.heap.size ∧ w0.heap.size ≤ x5.heap.size by have := var_lt S.out.cells; have := var_lt V.out; have := G.out.size; have := S.out.bel.size; omega)
  have BA := hid (below_alloc1 x5 (.cells #[.int .i64 r0, .int .i64 r1, .int .i64 r2, .int .i64 r3, .int .i64 r4, .int .i64 0, .int .i64 0] 63))
  replace S := hid (S.out.later BA.out)
  replace V := hid (var_below BA.out V.out)
  replace G := hid (grown_alloc G.out (.cells #[.int .i64 r0, .int .i64 r1, .int .i64 r2, .int .i64 r3, .int .i64 r4, .int .i64 0, .int .i64 0] 63))
  clear BA
  obtain ⟨⟨y0, y1, y2, y3, y4, y5, y6⟩, f0, f1, f2, f3, f4, f5, f6⟩ := v7_facts VX.out
  by_cases k4 : r0 = 4
  case neg =>
    have n4 : (r0 == 4) = false := by simp [k4]
    replace k4 := hid k4
    clear y0 y1 y2 y3 y4 y5 y6 f0 f1 f2 f3 f4 f5 f6
    obtain ⟨⟨y0, y1, y2, y3, y4, y5, y6⟩, -⟩ := v7_facts VX.out
    obtain ⟨⟨u0, u1, u2, u3, u4, u5, u6⟩, z0, z1, z2, z3, z4, z5, z6⟩ := v7_facts V.out
    have GN := GV.out
    have HS := hid (v7_set (y0 := .int .i64 r0) (y1 := .int .i64 r1) (y2 := .int .i64 r2) (y3 := .int .i64 r3) (y4 := .int .i64 r4) (y5 := .int .i64 0) (y6 := .int .i64 0) V.out)
    have SS := hid (src_set (i := 6) (src_set (i := 5) (src_set (i := 4) (src_set (i := 3) (src_set (i := 2) (src_set (i := 1) (src_set (i := 0) (S.out) (by omega) NV.out (.int .i64 r0)) (by omega) NV.out (.int .i64 r1)) (by omega) NV.out (.int .i64 r2)) (by omega) NV.out (.int .i64 r3)) (by omega) NV.out (.int .i64 r4)) (by omega) NV.out (.int .i64 0)) (by omega) NV.out (.int .i64 0))
    have GG := hid (grown_set (i := 6) (grown_set (i := 5) (grown_set (i := 4) (grown_set (i := 3) (grown_set (i := 2) (grown_set (i := 1) (grown_set (i := 0) (G.out) GW.out (.int .i64 r0)) GW.out (.int .i64 r1)) GW.out (.int .i64 r2)) GW.out (.int .i64 r3)) GW.out (.int .i64 r4)) GW.out (.int .i64 0)) GW.out (.int .i64 0))
    clear S G GN
    go_wp2
    exact bodyPost_ret (v := .agg #[.int .i64 r0, .int .i64 r1, .int .i64 r2, .int .i64 r3, .int .i64 r4, .int .i64 0, .int .i64 0]) (results_cell_row rfl _ _ gv 63 _ _ _ rfl HS.out Try.underlying63 rfl (by kernel_rfl)) rfl ⟨⟨r0, r1, r2, r3, r4, 0, 0⟩, rfl, ⟨_, by omega, SS.out⟩, GG.out⟩
  have n4 : (r0 == 4) = true := by simp [k4]
  replace k4 := hid k4
  go_wp2_with fail
  clear y0 y1 y2 y3 y4 y5 y6 f0 f1 f2 f3 f4 f5 f6 n4
  generalize x5.alloc (.cells #[.int .i64 r0, .int .i64 r1, .int .i64 r2, .int .i64 r3, .int .i64 r4, .int .i64 0, .int .i64 0] 63) = x6 at *
  obtain ⟨gx, hgx⟩ : ∃ q, q = x5.heap.size := ⟨_, rfl⟩
  rw [← hgx] at VX GX0 ⊢
  clear hgx
  have GX := hid (show g < gx from GX0.out.1)
  refine (next w0 _ g v l _ 4 S.out (by omega) (by omega) hl).mono ?_
  rintro e x7 ⟨r5, rfl, -, hS, hG⟩
  replace S := hid hS
  replace V := hid (var_grown hG V.out (fun e => by have := Option.some.inj e; have := GV.out; omega))
  replace VX := hid (var_grown hG VX.out (fun e => by have := Option.some.inj e; have := GX.out; omega))
  replace G := hid (grown_trans G.out hG)
  clear hS hG
  obtain ⟨⟨y0, y1, y2, y3, y4, y5, y6⟩, f0, f1, f2, f3, f4, f5, f6⟩ := v7_facts VX.out
  have VX2 := hid (show (x7.setCell ⟨gx, 5, none⟩ (.int .i64 r5)).heap[gx]? = some (.cells #[.int .i64 r0, .int .i64 r1, .int .i64 r2, .int .i64 r3, .int .i64 r4, .int .i64 r5, .int .i64 0] 63) by simpa using heap_setCell_same x7 gx 5 _ _ (.int .i64 r5) VX.out)
  replace S := hid (src_set (i := 5) S.out (by have := GX.out; omega) GX0.out.2.2.2 (.int .i64 r5))
  replace V := hid (var_setT9 (k := gx) (i := 5) (x := .int .i64 r5) V.out (by have := GX0.out; omega))
  replace G := hid (grown_set (i := 5) G.out GX0.out.2.2.1 (.int .i64 r5))
  clear VX
  have VX := VX2
  clear VX2
  have N7 := hid (show x7.heap.size ≠ g ∧ True from ⟨by have := G.out.size; have := var_lt S.out.cells; simp [World.setCell] at *; omega, trivial⟩)
  replace N7 := hid N7.out.1
  have VL := hid (show Lst ((x7.setCell ⟨gx, 5, none⟩ (.int .i64 r5)).alloc (.cells #[.int .i64 0, .int .i64 7] 2)) (x7.heap.size) [0, 7] from by have e := heap_alloc_new (x7.setCell ⟨gx, 5, none⟩ (.int .i64 r5)) (.cells #[.int .i64 0, .int .i64 7] 2); simp only [size_setC] at e; exact e)
  have BA := hid (below_alloc1 (x7.setCell ⟨gx, 5, none⟩ (.int .i64 r5)) (.cells #[.int .i64 0, .int .i64 7] 2))
  have NG := hid (show x7.heap.size ≠ g by have := N7.out; omega)
  replace S := hid (S.out.later BA.out)
  replace V := hid (var_below BA.out V.out)
  replace VX := hid (var_below BA.out VX.out)
  replace G := hid (grown_alloc G.out (.cells #[.int .i64 0, .int .i64 7] 2))
  go_wp2_with fail
  refine (pick' w0 _ g (x7.heap.size) 2 v l _ [0, 7] S.out (by omega) hl VL.out NG.out rfl (by omega) (by omega)).mono ?_
  rintro e x9 ⟨r6, -, rfl, hS, hG⟩
  clear VL BA NG
  replace S := hid hS
  replace V := hid (var_grown hG V.out (fun e => by have := Option.some.inj e; have := GV.out; omega))
  replace VX := hid (var_grown hG VX.out (fun e => by have := Option.some.inj e; have := GX.out; omega))
  replace G := hid (grown_trans G.out hG)
  clear hS hG
  clear y0 y1 y2 y3 y4 y5 y6 f0 f1 f2 f3 f4 f5 f6
  obtain ⟨⟨y0, y1, y2, y3, y4, y5, y6⟩, f0, f1, f2, f3, f4, f5, f6⟩ := v7_facts VX.out
  have VX2 := hid (show (x9.setCell ⟨gx, 6, none⟩ (.int .i64 r6)).heap[gx]? = some (.cells #[.int .i64 r0, .int .i64 r1, .int .i64 r2, .int .i64 r3, .int .i64 r4, .int .i64 r5, .int .i64 r6] 63) by simpa using heap_setCell_same x9 gx 6 _ _ (.int .i64 r6) VX.out)
  replace S := hid (src_set (i := 6) S.out (by have := GX.out; omega) GX0.out.2.2.2 (.int .i64 r6))
  replace V := hid (var_setT9 (k := gx) (i := 6) (x := .int .i64 r6) V.out (by have := GX0.out; omega))
  replace G := hid (grown_set (i := 6) G.out GX0.out.2.2.1 (.int .i64 r6))
  clear VX
  have VX := VX2
  clear VX2
  obtain ⟨⟨v0, v1, v2, v3, v4, v5, v6⟩, -⟩ := v7_facts VX.out
  obtain ⟨⟨y0, y1, y2, y3, y4, y5, y6⟩, -⟩ := v7_facts VX.out
  obtain ⟨⟨u0, u1, u2, u3, u4, u5, u6⟩, z0, z1, z2, z3, z4, z5, z6⟩ := v7_facts V.out
  have GN := GV.out
  have HS := hid (v7_set (y0 := .int .i64 r0) (y1 := .int .i64 r1) (y2 := .int .i64 r2) (y3 := .int .i64 r3) (y4 := .int .i64 r4) (y5 := .int .i64 r5) (y6 := .int .i64 r6) V.out)
  have SS := hid (src_set (i := 6) (src_set (i := 5) (src_set (i := 4) (src_set (i := 3) (src_set (i := 2) (src_set (i := 1) (src_set (i := 0) (S.out) (by omega) NV.out (.int .i64 r0)) (by omega) NV.out (.int .i64 r1)) (by omega) NV.out (.int .i64 r2)) (by omega) NV.out (.int .i64 r3)) (by omega) NV.out (.int .i64 r4)) (by omega) NV.out (.int .i64 r5)) (by omega) NV.out (.int .i64 r6))
  have GG := hid (grown_set (i := 6) (grown_set (i := 5) (grown_set (i := 4) (grown_set (i := 3) (grown_set (i := 2) (grown_set (i := 1) (grown_set (i := 0) (G.out) GW.out (.int .i64 r0)) GW.out (.int .i64 r1)) GW.out (.int .i64 r2)) GW.out (.int .i64 r3)) GW.out (.int .i64 r4)) GW.out (.int .i64 r5)) GW.out (.int .i64 r6))
  clear S G GN
  go_wp2
  exact bodyPost_ret (v := .agg #[.int .i64 r0, .int .i64 r1, .int .i64 r2, .int .i64 r3, .int .i64 r4, .int .i64 r5, .int .i64 r6]) (results_cell_row rfl _ _ gv 63 _ _ _ rfl HS.out Try.underlying63 rfl (by kernel_rfl)) rfl ⟨⟨r0, r1, r2, r3, r4, r5, r6⟩, rfl, ⟨_, by omega, SS.out⟩, GG.out⟩
end Go.Proofs.Ytalaolfcdaaaoaa.W
