/-
  How a window and a number are drawn. Generated text.
-/
import Derived.Deep.Cut
import Derived.Test.YtalaolfcdaaaoaaDrawWd
import Derived.Test.YtalaolfcdaaaoaaL6kW
import Derived.Test.YtalaolfcdaaaoaaL6W
import Derived.Test.YtalaolfcdaaaoaaNwW
import Derived.Test.YtalaolfcdaaaoaaAppZ
namespace Go.Proofs.Ytalaolfcdaaaoaa.W
open Go.ChangeShapes Go.WideShapes Go.ChangeAt Go.RowKit
open Go.Proofs.Ytalaolfcdaaaoaa.M

theorem results_ctX {P : Program} {fn : Func} {p q : Tmp} {ty : TypeId} (h : fn.results = #[.cell p ty, .tmp q]) (tmps : Array Value) (w : World) (x : Value) (g : Nat) (t : TypeId) (cs : Array Value) (fr : Nat × Nat) (d : TypeDesc)
    (hp : tmps.getD p undef = .pointer (some ⟨g, 0, none⟩)) (hx : tmps.getD q undef = x) (hg : w.heap[g]? = some (.cells cs t fr))
    (hu : P.underlying ty = some d) (hd : (match d with | .struct _ | .array _ _ => true | _ => false) = true) (hi : (P.info? ty).map (·.size) = some cs.size) :
    (results fn tmps).run P w = .ok (.tuple #[.agg cs, x]) w := by
  subst hx
  exact results_ct h tmps w g t cs fr d hp hg hu hd hi
theorem wbel {w x0 x1 : World} {gr : Nat} {x y : Value} (h0 : Below w.heap.size w x0) (h1 : Below x0.heap.size x0 x1) (hg : w.heap.size ≤ gr) : Below w.heap.size w ((x1.setCell ⟨gr, 0, none⟩ x).setCell ⟨gr, 1, none⟩ y) :=
  ((h0.trans (h1.mono h0.size)).setCell (p := ⟨gr, 0, none⟩) hg x).setCell (p := ⟨gr, 1, none⟩) hg y
set_option maxHeartbeats 8000000 in
set_option maxRecDepth 100000 in
theorem drTc (v : Value) (l : List Nat) (w : World) (h : Rd w v l) (y : Byt l) (hl : l.length ≤ 1048576) :
    Calls Try.prog 40 #[v] w fun e w' => ∃ (top n : Int) (u : Value) (xs : List Int), e = .returned (.tuple #[.agg #[.int .i64 top, u], .int .i64 n]) ∧ RdZ w' u xs ∧ (WfZ xs ∧ xs.length ≤ 20) ∧ Below w.heap.size w w' := by
  have RC := hid h
  obtain ⟨q, cap, rfl, -, -, -⟩ := h.parts
  clear h
  have VR := hid (heap_alloc_new w (.cells #[.int .i64 0, .slice none 0 0] 69))
  have B0 := hid (below_alloc1 w (.cells #[.int .i64 0, .slice none 0 0] 69))
  go_enter Try.func40, Try.ntmps40
  go_wp2_with fail
  generalize w.alloc (.cells #[.int .i64 0, .slice none 0 0] 69) = x0 at *
  obtain ⟨gr, hg⟩ : ∃ g, g = w.heap.size := ⟨_, rfl⟩
  rw [← hg] at VR ⊢
  have GR := hid (show w.heap.size ≤ gr by omega)
  clear hg
  refine (source _ l x0 (RC.out.below B0.out) y).mono ?_
  rintro e x1 ⟨rfl, hS⟩
  have S := hid hS
  have LX := hid (var_lt VR.out)
  replace VR := hid (var_below hS.bel VR.out)
  clear hS
  obtain ⟨gs, hgs⟩ : ∃ q, q = x0.heap.size := ⟨_, rfl⟩
  rw [← hgs] at S LX ⊢
  have NVR := hid (show gr ≠ gs by have := LX.out; omega)
  have GS0 := hid hgs
  clear hgs
  go_wp2_with fail
  refine (l6b x0 x1 gs _ l 0 S.out (by omega) hl).mono ?_
  rintro e x2 ⟨top, u, xs, t', rfl, hO, WF, htt, hS, hG⟩
  obtain ⟨pu, cu, rfl, -, -, -⟩ := hO.rd.parts
  have GV := hid (show gs < x1.heap.size from var_lt S.out.cells)
  have OL := hid hO
  have WX := hid WF
  replace VR := hid (var_grown hG VR.out (fun e => by have := Option.some.inj e; have := NVR.out; omega))
  have G := hid hG
  replace S := hid hS
  clear hO WF hS hG
  have VW := hid (heap_alloc_new x2 (.cells #[.int .i64 top, .slice pu xs.length cu] 69))
  have hA := below_alloc1 x2 (.cells #[.int .i64 top, .slice pu xs.length cu] 69)
  have LQ := hid (show gs < x2.heap.size ∧ gr < x2.heap.size from ⟨var_lt S.out.cells, var_lt VR.out⟩)
  replace S := hid (S.out.later hA)
  replace OL := hid (OL.out.below hA)
  replace VR := hid (var_below hA VR.out)
  replace G := hid (grown_trans G.out (grown_of_below hA (some gs)))
  clear hA
  have LXR := hid (show gr < x1.heap.size by have := LX.out; have := GV.out; omega)
  have AR := hid (show ∀ b, (Value.slice pu xs.length cu).ownBlock = some b → b ≠ gr from fun b e => by have := (OL.out.lt b e).1; have := LXR.out; omega)
  go_upto_region 3 with fail
  generalize x2.alloc (.cells #[.int .i64 top, .slice pu xs.length cu] 69) = x3 at *
  obtain ⟨gw, hg⟩ : ∃ g, g = x2.heap.size := ⟨_, rfl⟩
  rw [← hg] at VW LQ ⊢
  clear hg
  have NVW := hid (show gw ≠ gs by have := LQ.out.1; omega)
  have NRW := hid (show gr ≠ gw by have := LQ.out.2; omega)
  obtain ⟨y0, y1, -, -⟩ := var2_facts VW.out
  refine wp_region_held_drew (S := fun w' => w'.cell? ⟨gw, 0, none⟩ = some (.int .i64 top) ∧ w'.cell? ⟨gw, 1, none⟩ = some (.slice pu xs.length cu)) (by kernel_rfl) ⟨y0, y1⟩ (fun hH => ?_)
  have VWd := hid (show x3.drew.heap[gw]? = some (.cells #[.int .i64 top, .slice pu xs.length cu] 69) from VW.out)
  have VRd := hid (show x3.drew.heap[gr]? = some (.cells #[.int .i64 0, .slice none 0 0] 69) from VR.out)
  have OLd := hid (show OwZ x3.drew x1.heap.size _ xs from OL.out.drewz)
  have Sd := hid (S.out.drewN 1)
  have Gd := hid (grown_drewN G.out 1)
  clear VW VR OL S G y0 y1
  change Hid (Src x0 x3.drew gs _ l _) at Sd
  change Hid (x1.grownBy x3.drew (some gs)) at Gd
  generalize x3.drew = x at *
  have VW := VWd
  have VR := VRd
  have OL := OLd
  have S := Sd
  have G := Gd
  clear VWd VRd OLd Sd Gd
  refine wpAnyH_take (i := 0) (v := .agg #[.int .i64 top, .slice pu xs.length cu]) (by simp only [List.getElem?_toArray, List.getElem?_cons_zero]; rfl) (by kernel_rfl) (by kernel_rfl) (by kernel_rfl) (by intro _ _ _ h; exact h) (Or.inl ⟨by rfl, fun w hS => by (have y0 := hS.1; have y1 := hS.2; go_simp)⟩) hH ?_
  simp only [Act.put, List.setIfInBounds_toArray, List.set_cons_zero, List.set_cons_succ]
  refine wpAnyH_take (i := 1) (v := .pointer (some ⟨gs, 0, none⟩)) (by simp only [List.getElem?_toArray, List.getElem?_cons_succ, List.getElem?_cons_zero]; rfl) (by kernel_rfl) (by kernel_rfl) (by kernel_rfl) (by intro _ _ _ h; exact h) (Or.inl ⟨by rfl, fun w hS => by go_simp⟩) hH ?_
  simp only [Act.put, List.setIfInBounds_toArray, List.set_cons_zero, List.set_cons_succ]
  refine wpAnyH_take (i := 2) (v := .pointer (some ⟨gw, 0, none⟩)) (by simp only [List.getElem?_toArray, List.getElem?_cons_succ, List.getElem?_cons_zero]; rfl) (by kernel_rfl) (by kernel_rfl) (by kernel_rfl) (by intro _ _ _ h; exact h) (Or.inl ⟨by rfl, fun w hS => by go_simp⟩) hH ?_
  simp only [Act.put, List.setIfInBounds_toArray, List.set_cons_zero, List.set_cons_succ]
  refine wpAnyH_take (i := 3) (v := .int .i64 top) (by simp only [List.getElem?_toArray, List.getElem?_cons_succ, List.getElem?_cons_zero]; rfl) (by kernel_rfl) (by kernel_rfl) (by kernel_rfl) (by intro _ _ _ h; exact h) (Or.inl ⟨by rfl, fun w hS => by (have y0 := hS.1; go_simp)⟩) hH ?_
  simp only [Act.put, List.setIfInBounds_toArray, List.set_cons_zero, List.set_cons_succ]
  refine wpAnyH_take (i := 4) (v := .int .i64 (IntKind.i64.wrap (top + 1))) (by simp only [List.getElem?_toArray, List.getElem?_cons_succ, List.getElem?_cons_zero]; rfl) (by kernel_rfl) (by kernel_rfl) (by kernel_rfl) (by intro _ _ _ h; exact h) (Or.inl ⟨by rfl, fun w hS => by go_simp⟩) hH ?_
  simp only [Act.put, List.setIfInBounds_toArray, List.set_cons_zero, List.set_cons_succ]
  refine wpAnyH_take (i := 5) (v := .pointer (some ⟨gw, 0, none⟩)) (by simp only [List.getElem?_toArray, List.getElem?_cons_succ, List.getElem?_cons_zero]; rfl) (by kernel_rfl) (by kernel_rfl) (by kernel_rfl) (by intro _ _ _ h; exact h) (Or.inl ⟨by rfl, fun w hS => by go_simp⟩) hH ?_
  simp only [Act.put, List.setIfInBounds_toArray, List.set_cons_zero, List.set_cons_succ]
  refine wpAnyH_take (i := 6) (v := .int .i64 top) (by simp only [List.getElem?_toArray, List.getElem?_cons_succ, List.getElem?_cons_zero]; rfl) (by kernel_rfl) (by kernel_rfl) (by kernel_rfl) (by intro _ _ _ h; exact h) (Or.inl ⟨by rfl, fun w hS => by (have y0 := hS.1; go_simp)⟩) hH ?_
  simp only [Act.put, List.setIfInBounds_toArray, List.set_cons_zero, List.set_cons_succ]
  refine wpAnyH_take (i := 7) (v := .pointer (some ⟨gw, 0, none⟩)) (by simp only [List.getElem?_toArray, List.getElem?_cons_succ, List.getElem?_cons_zero]; rfl) (by kernel_rfl) (by kernel_rfl) (by kernel_rfl) (by intro _ _ _ h; exact h) (Or.inl ⟨by rfl, fun w hS => by go_simp⟩) hH ?_
  simp only [Act.put, List.setIfInBounds_toArray, List.set_cons_zero, List.set_cons_succ]
  refine wpAnyH_take (i := 8) (v := .int .i64 top) (by simp only [List.getElem?_toArray, List.getElem?_cons_succ, List.getElem?_cons_zero]; rfl) (by kernel_rfl) (by kernel_rfl) (by kernel_rfl) (by intro _ _ _ h; exact h) (Or.inl ⟨by rfl, fun w hS => by (have y0 := hS.1; go_simp)⟩) hH ?_
  simp only [Act.put, List.setIfInBounds_toArray, List.set_cons_zero, List.set_cons_succ]
  refine wpAnyH_take (i := 9) (v := .int .i64 (IntKind.i64.wrap (top - 1))) (by simp only [List.getElem?_toArray, List.getElem?_cons_succ, List.getElem?_cons_zero]; rfl) (by kernel_rfl) (by kernel_rfl) (by kernel_rfl) (by intro _ _ _ h; exact h) (Or.inl ⟨by rfl, fun w hS => by go_simp⟩) hH ?_
  simp only [Act.put, List.setIfInBounds_toArray, List.set_cons_zero, List.set_cons_succ]
  refine wpAnyH_take (i := 10) (v := .pointer (some ⟨gw, 0, none⟩)) (by simp only [List.getElem?_toArray, List.getElem?_cons_succ, List.getElem?_cons_zero]; rfl) (by kernel_rfl) (by kernel_rfl) (by kernel_rfl) (by intro _ _ _ h; exact h) (Or.inl ⟨by rfl, fun w hS => by go_simp⟩) hH ?_
  simp only [Act.put, List.setIfInBounds_toArray, List.set_cons_zero, List.set_cons_succ]
  refine wpAnyH_take (i := 11) (v := .int .i64 top) (by simp only [List.getElem?_toArray, List.getElem?_cons_succ, List.getElem?_cons_zero]; rfl) (by kernel_rfl) (by kernel_rfl) (by kernel_rfl) (by intro _ _ _ h; exact h) (Or.inl ⟨by rfl, fun w hS => by (have y0 := hS.1; go_simp)⟩) hH ?_
  simp only [Act.put, List.setIfInBounds_toArray, List.set_cons_zero, List.set_cons_succ]
  refine wpAnyH_take (i := 12) (v := .int .i64 (IntKind.i64.wrap (top - 15))) (by simp only [List.getElem?_toArray, List.getElem?_cons_succ, List.getElem?_cons_zero]; rfl) (by kernel_rfl) (by kernel_rfl) (by kernel_rfl) (by intro _ _ _ h; exact h) (Or.inl ⟨by rfl, fun w hS => by go_simp⟩) hH ?_
  simp only [Act.put, List.setIfInBounds_toArray, List.set_cons_zero, List.set_cons_succ]
  refine wpAnyH_take (i := 13) (v := .pointer (some ⟨gw, 0, none⟩)) (by simp only [List.getElem?_toArray, List.getElem?_cons_succ, List.getElem?_cons_zero]; rfl) (by kernel_rfl) (by kernel_rfl) (by kernel_rfl) (by intro _ _ _ h; exact h) (Or.inl ⟨by rfl, fun w hS => by go_simp⟩) hH ?_
  simp only [Act.put, List.setIfInBounds_toArray, List.set_cons_zero, List.set_cons_succ]
  refine wpAnyH_take (i := 14) (v := .int .i64 top) (by simp only [List.getElem?_toArray, List.getElem?_cons_succ, List.getElem?_cons_zero]; rfl) (by kernel_rfl) (by kernel_rfl) (by kernel_rfl) (by intro _ _ _ h; exact h) (Or.inl ⟨by rfl, fun w hS => by (have y0 := hS.1; go_simp)⟩) hH ?_
  simp only [Act.put, List.setIfInBounds_toArray, List.set_cons_zero, List.set_cons_succ]
  refine wpAnyH_take (i := 15) (v := .int .i64 (IntKind.i64.wrap (top - 16))) (by simp only [List.getElem?_toArray, List.getElem?_cons_succ, List.getElem?_cons_zero]; rfl) (by kernel_rfl) (by kernel_rfl) (by kernel_rfl) (by intro _ _ _ h; exact h) (Or.inl ⟨by rfl, fun w hS => by go_simp⟩) hH ?_
  simp only [Act.put, List.setIfInBounds_toArray, List.set_cons_zero, List.set_cons_succ]
  refine wpAnyH_take (i := 16) (v := .pointer (some ⟨gw, 0, none⟩)) (by simp only [List.getElem?_toArray, List.getElem?_cons_succ, List.getElem?_cons_zero]; rfl) (by kernel_rfl) (by kernel_rfl) (by kernel_rfl) (by intro _ _ _ h; exact h) (Or.inl ⟨by rfl, fun w hS => by go_simp⟩) hH ?_
  simp only [Act.put, List.setIfInBounds_toArray, List.set_cons_zero, List.set_cons_succ]
  refine wpAnyH_take (i := 17) (v := .int .i64 top) (by simp only [List.getElem?_toArray, List.getElem?_cons_succ, List.getElem?_cons_zero]; rfl) (by kernel_rfl) (by kernel_rfl) (by kernel_rfl) (by intro _ _ _ h; exact h) (Or.inl ⟨by rfl, fun w hS => by (have y0 := hS.1; go_simp)⟩) hH ?_
  simp only [Act.put, List.setIfInBounds_toArray, List.set_cons_zero, List.set_cons_succ]
  refine wpAnyH_take (i := 18) (v := .int .i64 (IntKind.i64.wrap (top + 20))) (by simp only [List.getElem?_toArray, List.getElem?_cons_succ, List.getElem?_cons_zero]; rfl) (by kernel_rfl) (by kernel_rfl) (by kernel_rfl) (by intro _ _ _ h; exact h) (Or.inl ⟨by rfl, fun w hS => by go_simp⟩) hH ?_
  simp only [Act.put, List.setIfInBounds_toArray, List.set_cons_zero, List.set_cons_succ]
  refine wpAnyH_take (i := 19) (v := .pointer (some ⟨gs, 0, none⟩)) (by simp only [List.getElem?_toArray, List.getElem?_cons_succ, List.getElem?_cons_zero]; rfl) (by kernel_rfl) (by kernel_rfl) (by kernel_rfl) (by intro _ _ _ h; exact h) (Or.inl ⟨by rfl, fun w hS => by go_simp⟩) hH ?_
  simp only [Act.put, List.setIfInBounds_toArray, List.set_cons_zero, List.set_cons_succ]
  refine wpAnyH_ready (rs := [20]) (by kernel_rfl) (by simp) ?_
  refine AllReadyH.cons (by simp only [List.getElem?_toArray, List.getElem?_cons_succ, List.getElem?_cons_zero]; rfl) (fun K hK => ?_) AllReadyH.nil
  go_simp
  refine (next x0 _ gs _ l _ 30 S.out (by omega) (by omega) hl).mono ?_
  rintro e xa ⟨r, rfl, -, hS, hG⟩
  replace S := hid hS
  replace OL := hid (OL.out.keepGz hG GV.out)
  replace VW := hid (var_grown hG VW.out (fun e => by have := Option.some.inj e; have := NVW.out; omega))
  replace VR := hid (var_grown hG VR.out (fun e => by have := Option.some.inj e; have := NVR.out; omega))
  replace G := hid (grown_trans G.out hG)
  clear hS hG
  refine hK.out _ _ ⟨(var2_facts VW.out).1, (var2_facts VW.out).2.1⟩ (fun hH => ?_)
  clear hK K
  refine wpAnyH_ready (rs := [21]) (by kernel_rfl) (by simp) ?_
  refine AllReadyH.cons (by simp only [List.getElem?_toArray, List.getElem?_cons_succ, List.getElem?_cons_zero]; rfl) (fun K hK => ?_) AllReadyH.nil
  go_simp
  have VL := hid (show Lst (xa.alloc (.cells #[.int .i64 (IntKind.i64.wrap (top + 1)), .int .i64 top, .int .i64 (IntKind.i64.wrap (top - 1)), .int .i64 (IntKind.i64.wrap (top - 15)), .int .i64 (IntKind.i64.wrap (top - 16)), .int .i64 (IntKind.i64.wrap (top + 20)), .int .i64 r, .int .i64 (-1), .int .i64 1000000001] 2)) xa.heap.size [IntKind.i64.wrap (top + 1), top, IntKind.i64.wrap (top - 1), IntKind.i64.wrap (top - 15), IntKind.i64.wrap (top - 16), IntKind.i64.wrap (top + 20), r, -1, 1000000001] from heap_alloc_new xa (.cells #[.int .i64 (IntKind.i64.wrap (top + 1)), .int .i64 top, .int .i64 (IntKind.i64.wrap (top - 1)), .int .i64 (IntKind.i64.wrap (top - 15)), .int .i64 (IntKind.i64.wrap (top - 16)), .int .i64 (IntKind.i64.wrap (top + 20)), .int .i64 r, .int .i64 (-1), .int .i64 1000000001] 2))
  have hA := below_alloc1 xa (.cells #[.int .i64 (IntKind.i64.wrap (top + 1)), .int .i64 top, .int .i64 (IntKind.i64.wrap (top - 1)), .int .i64 (IntKind.i64.wrap (top - 15)), .int .i64 (IntKind.i64.wrap (top - 16)), .int .i64 (IntKind.i64.wrap (top + 20)), .int .i64 r, .int .i64 (-1), .int .i64 1000000001] 2)
  have NG := hid (show xa.heap.size ≠ gs by have := var_lt S.out.cells; omega)
  replace S := hid (S.out.later hA)
  replace OL := hid (OL.out.below hA)
  replace VW := hid (var_below hA VW.out)
  replace VR := hid (var_below hA VR.out)
  replace G := hid (grown_trans G.out (grown_of_below hA (some gs)))
  clear hA
  refine hK.out _ _ ⟨(var2_facts VW.out).1, (var2_facts VW.out).2.1⟩ (fun hH => ?_)
  clear hK K
  generalize xa.alloc (.cells #[.int .i64 (IntKind.i64.wrap (top + 1)), .int .i64 top, .int .i64 (IntKind.i64.wrap (top - 1)), .int .i64 (IntKind.i64.wrap (top - 15)), .int .i64 (IntKind.i64.wrap (top - 16)), .int .i64 (IntKind.i64.wrap (top + 20)), .int .i64 r, .int .i64 (-1), .int .i64 1000000001] 2) = xb at *
  obtain ⟨gl, hgl⟩ : ∃ g, g = xa.heap.size := ⟨_, rfl⟩
  rw [← hgl] at VL NG ⊢
  clear hgl
  refine wpAnyH_ready (rs := [22]) (by kernel_rfl) (by simp) ?_
  refine AllReadyH.cons (by simp only [List.getElem?_toArray, List.getElem?_cons_succ, List.getElem?_cons_zero]; rfl) (fun K hK => ?_) AllReadyH.nil
  go_simp
  refine (pick' x0 _ gs gl 9 _ l _ [IntKind.i64.wrap (top + 1), top, IntKind.i64.wrap (top - 1), IntKind.i64.wrap (top - 15), IntKind.i64.wrap (top - 16), IntKind.i64.wrap (top + 20), r, -1, 1000000001] S.out (by omega) hl VL.out NG.out rfl (by omega) (by omega)).mono ?_
  rintro e xc ⟨n, -, rfl, hS, hG⟩
  replace S := hid hS
  replace OL := hid (OL.out.keepGz hG GV.out)
  replace VW := hid (var_grown hG VW.out (fun e => by have := Option.some.inj e; have := NVW.out; omega))
  replace VR := hid (var_grown hG VR.out (fun e => by have := Option.some.inj e; have := NVR.out; omega))
  replace G := hid (grown_trans G.out hG)
  clear hS hG
  refine hK.out _ _ ⟨(var2_facts VW.out).1, (var2_facts VW.out).2.1⟩ (fun hH => ?_)
  clear hK K VL NG
  refine wpAnyH_ready (rs := [23]) (by kernel_rfl) (by simp) ?_
  refine AllReadyH.cons (by simp only [List.getElem?_toArray, List.getElem?_cons_succ, List.getElem?_cons_zero]; rfl) (fun K hK => ?_) AllReadyH.nil
  obtain ⟨q0, q1, z0, z1⟩ := var2_facts VR.out
  go_simp
  have VE := hid (var2_set (x' := .int .i64 top) (y' := .slice pu xs.length cu) VR.out)
  have OE := hid ((OL.out.setNz (g := gr) (i := 0) (x := .int .i64 top) AR.out).setNz (g := gr) (i := 1) (x := .slice pu xs.length cu) AR.out)
  have VX := hid (set2_other (x := .int .i64 top) (y := .slice pu xs.length cu) (fun e => NRW.out e.symm) VW.out)
  have SE := hid (wbel B0.out S.out.bel GR.out (x := .int .i64 top) (y := .slice pu xs.length cu))
  refine hK.out _ _ ⟨(var2_facts VX.out).1, (var2_facts VX.out).2.1⟩ (fun hH => ?_)
  clear hK K q0 q1 z0 z1 OL S G VR VW
  generalize ((xc.setCell ⟨gr, 0, none⟩ (.int .i64 top)).setCell ⟨gr, 1, none⟩ (.slice pu xs.length cu)) = xz at *
  refine wpAnyH_take (i := 24) (v := .int .i64 n) (by simp only [List.getElem?_toArray, List.getElem?_cons_succ, List.getElem?_cons_zero]; rfl) (by kernel_rfl) (by kernel_rfl) (by kernel_rfl) (by intro _ _ _ h; exact h) (Or.inl ⟨by rfl, fun w hS => by go_simp⟩) hH ?_
  simp only [Act.put, List.setIfInBounds_toArray, List.set_cons_zero, List.set_cons_succ]
  refine wpAnyH_done (by kernel_rfl) ?_ _
  go_wp2
  exact bodyPost_ret (v := .tuple #[.agg #[.int .i64 top, .slice pu xs.length cu], .int .i64 n]) (results_ctX rfl _ _ (.int .i64 n) gr 69 _ _ _ rfl rfl VE.out Try.underlying69 rfl (by kernel_rfl)) rfl ⟨top, n, .slice pu xs.length cu, xs, rfl, OE.out.rd, WX.out, SE.out⟩
end Go.Proofs.Ytalaolfcdaaaoaa.W
