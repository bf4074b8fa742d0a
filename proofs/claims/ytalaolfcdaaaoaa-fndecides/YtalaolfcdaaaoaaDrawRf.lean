/-
  How two claims are drawn of which one may refute the other. Generated text.
-/
import Derived.Test.YtalaolfcdaaaoaaDrawC7
import Derived.Test.YtalaolfcdaaaoaaDrawCf
namespace Go.Proofs.Ytalaolfcdaaaoaa.W
open Go.ChangeShapes Go.WideShapes Go.ChangeAt Go.RowKit
open Go.Proofs.Ytalaolfcdaaaoaa.M

theorem var_setT {w : World} {g k i : Nat} {o : Obj} {x : Value} (h : w.heap[g]? = some o) (hne : g ≠ k) : (w.setCell ⟨k, i, none⟩ x).heap[g]? = some o := by
  rw [Below.heap_setCell _ _ _ _ hne]; exact h
theorem set4_other {w : World} {g k : Nat} {x y z u : Value} (hne : k ≠ g) : ((((w.setCell ⟨g, 0, none⟩ x).setCell ⟨g, 1, none⟩ y).setCell ⟨g, 2, none⟩ z).setCell ⟨g, 3, none⟩ u).heap[k]? = w.heap[k]? := by
  rw [Below.heap_setCell _ _ _ _ hne, Below.heap_setCell _ _ _ _ hne, Below.heap_setCell _ _ _ _ hne, Below.heap_setCell _ _ _ _ hne]
set_option maxHeartbeats 4000000 in
set_option maxRecDepth 100000 in
theorem drRf (v : Value) (l : List Nat) (w : World) (h : Rd w v l) (y : Byt l) (hl : l.length ≤ 1048576) :
    Calls Try.prog 29 #[v] w fun e w' => ∃ a b : Clm, e = .returned (.tuple #[.agg #[.int .i64 a.n, .int .i64 a.i, .int .i64 a.s, .int .i64 a.m], .agg #[.int .i64 b.n, .int .i64 b.i, .int .i64 b.s, .int .i64 b.m]]) ∧ Below w.heap.size w w' := by
  have RC := hid h
  obtain ⟨q, cap, rfl, -, -, -⟩ := h.parts
  clear h
  go_enter Try.func29, Try.ntmps29
  have VA := hid (heap_alloc2_old w (.cells #[.int .i64 0, .int .i64 0, .int .i64 0, .int .i64 0] 38) (.cells #[.int .i64 0, .int .i64 0, .int .i64 0, .int .i64 0] 38))
  have VB := hid (heap_alloc2_new w (.cells #[.int .i64 0, .int .i64 0, .int .i64 0, .int .i64 0] 38) (.cells #[.int .i64 0, .int .i64 0, .int .i64 0, .int .i64 0] 38))
  have BB := hid (below_alloc2 w (.cells #[.int .i64 0, .int .i64 0, .int .i64 0, .int .i64 0] 38) (.cells #[.int .i64 0, .int .i64 0, .int .i64 0, .int .i64 0] 38))
  go_wp2_with fail
  generalize (w.alloc (.cells #[.int .i64 0, .int .i64 0, .int .i64 0, .int .i64 0] 38)).alloc (.cells #[.int .i64 0, .int .i64 0, .int .i64 0, .int .i64 0] 38) = w0 at *
  obtain ⟨gb, hgb⟩ : ∃ g, g = w.heap.size + 1 := ⟨_, rfl⟩
  rw [← hgb] at VB ⊢
  obtain ⟨ga, hga⟩ : ∃ g, g = w.heap.size := ⟨_, rfl⟩
  have GG := hid (show w.heap.size ≤ ga ∧ w.heap.size ≤ gb ∧ ga ≠ gb by omega)
  rw [← hga] at VA ⊢
  clear hga hgb
  have LA0 := hid (var_lt VA.out)
  have LB0 := hid (var_lt VB.out)
  refine (source _ l w0 (RC.out.below BB.out) y).mono ?_
  rintro e w1 ⟨rfl, hS⟩
  have S := hid hS
  replace VA := hid (var_below hS.bel VA.out)
  replace VB := hid (var_below hS.bel VB.out)
  clear hS
  obtain ⟨gs, hgs⟩ : ∃ g, g = w0.heap.size := ⟨_, rfl⟩
  rw [← hgs] at S LA0 LB0 ⊢
  have GS := hid (show w0.heap.size ≤ gs by omega)
  clear hgs
  have LVA := hid (show ga ≠ gs by have := LA0.out; omega)
  have LVB := hid (show gb ≠ gs by have := LB0.out; omega)
  go_wp2_with fail
  refine (l7c w0 w1 gs _ l 0 S.out (by omega) hl).mono ?_
  rintro e w2 ⟨a, rfl, hS, hG⟩
  replace S := hid hS
  replace VA := hid (var_grown hG VA.out (fun e => by have := Option.some.inj e; have := LVA.out; omega))
  replace VB := hid (var_grown hG VB.out (fun e => by have := Option.some.inj e; have := LVB.out; omega))
  clear hS hG
  have GW := hid (var_lt S.out.cells)
  have NA := hid (var_lt VA.out)
  have NB := hid (var_lt VB.out)
  have VO := hid (heap_alloc_new w2 (.cells #[.int .i64 a.n, .int .i64 a.i, .int .i64 a.s, .int .i64 a.m] 38))
  have hA := below_alloc1 w2 (.cells #[.int .i64 a.n, .int .i64 a.i, .int .i64 a.s, .int .i64 a.m] 38)
  replace S := hid (S.out.later hA)
  replace VA := hid (var_below hA VA.out)
  replace VB := hid (var_below hA VB.out)
  clear hA
  go_wp2_with fail
  generalize w2.alloc (.cells #[.int .i64 a.n, .int .i64 a.i, .int .i64 a.s, .int .i64 a.m] 38) = w3 at *
  obtain ⟨gO, hgx⟩ : ∃ g, g = w2.heap.size := ⟨_, rfl⟩
  rw [← hgx] at VO GW NA NB ⊢
  clear hgx
  have LVO := hid (show gO ≠ gs by have := GW.out; omega)
  have NOA := hid (show gO ≠ ga ∧ gO ≠ gb by have := NA.out; have := NB.out; omega)
  clear GW NA NB
  refine (l7c w0 w3 gs _ l _ S.out (by omega) hl).mono ?_
  rintro e w4 ⟨b, rfl, hS, hG⟩
  replace S := hid hS
  replace VA := hid (var_grown hG VA.out (fun e => by have := Option.some.inj e; have := LVA.out; omega))
  replace VB := hid (var_grown hG VB.out (fun e => by have := Option.some.inj e; have := LVB.out; omega))
  replace VO := hid (var_grown hG VO.out (fun e => by have := Option.some.inj e; have := LVO.out; omega))
  clear hS hG
  have GW := hid (var_lt S.out.cells)
  have NA := hid (var_lt VA.out)
  have NB := hid (var_lt VB.out)
  have NO := hid (var_lt VO.out)
  have VC := hid (heap_alloc_new w4 (.cells #[.int .i64 b.n, .int .i64 b.i, .int .i64 b.s, .int .i64 b.m] 38))
  have hA := below_alloc1 w4 (.cells #[.int .i64 b.n, .int .i64 b.i, .int .i64 b.s, .int .i64 b.m] 38)
  replace S := hid (S.out.later hA)
  replace VA := hid (var_below hA VA.out)
  replace VB := hid (var_below hA VB.out)
  replace VO := hid (var_below hA VO.out)
  clear hA
  go_wp2_with fail
  generalize w4.alloc (.cells #[.int .i64 b.n, .int .i64 b.i, .int .i64 b.s, .int .i64 b.m] 38) = w5 at *
  obtain ⟨gC, hgx⟩ : ∃ g, g = w4.heap.size := ⟨_, rfl⟩
  rw [← hgx] at VC GW NA NB NO ⊢
  clear hgx
  have LVC := hid (show gC ≠ gs by have := GW.out; omega)
  have NCA := hid (show gC ≠ ga ∧ gC ≠ gb ∧ gC ≠ gO ∧ w0.heap.size ≤ gC by have := NA.out; have := NB.out; have := NO.out; have := GW.out; have := GS.out; omega)
  clear GW NA NB NO
  refine (chance w0 w5 gs _ l _ 4 S.out (by omega) (by omega) hl).mono ?_
  rintro e w6 ⟨r, rfl, hS, hG⟩
  replace S := hid hS
  replace VA := hid (var_grown hG VA.out (fun e => by have := Option.some.inj e; have := LVA.out; omega))
  replace VB := hid (var_grown hG VB.out (fun e => by have := Option.some.inj e; have := LVB.out; omega))
  replace VO := hid (var_grown hG VO.out (fun e => by have := Option.some.inj e; have := LVO.out; omega))
  replace VC := hid (var_grown hG VC.out (fun e => by have := Option.some.inj e; have := LVC.out; omega))
  clear hS hG
  obtain ⟨⟨o0, o1, o2, o3⟩, -⟩ := var4_facts VO.out
  obtain ⟨⟨k0, k1, k2, k3⟩, f0, f1, f2, f3⟩ := var4_facts VC.out
  cases r
  · have VC2 := hid (show (w6.setCell ⟨gC, 0, none⟩ (.int .i64 a.n)).heap[gC]? = some (.cells #[.int .i64 a.n, .int .i64 b.i, .int .i64 b.s, .int .i64 b.m] 38) by simpa using heap_setCell_same w6 gC 0 _ _ (.int .i64 a.n) VC.out)
    replace S := hid (src_set S.out (fun e => LVC.out e.symm) NCA.out.2.2.2 (i := 0) (.int .i64 a.n))
    replace VA := hid (var_setT (k := gC) (i := 0) (x := .int .i64 a.n) VA.out (fun e => NCA.out.1 e.symm))
    replace VB := hid (var_setT (k := gC) (i := 0) (x := .int .i64 a.n) VB.out (fun e => NCA.out.2.1 e.symm))
    replace VO := hid (var_setT (k := gC) (i := 0) (x := .int .i64 a.n) VO.out (fun e => NCA.out.2.2.1 e.symm))
    clear VC
    go_wp2_with fail
    clear o0 o1 o2 o3 k0 k1 k2 k3 f0 f1 f2 f3
    generalize w6.setCell ⟨gC, 0, none⟩ (.int .i64 a.n) = w7 at *
    obtain ⟨c, hc⟩ : ∃ c : Clm, c = ⟨a.n, b.i, b.s, b.m⟩ := ⟨_, rfl⟩
    have VC := hid (show w7.heap[gC]? = some (.cells #[.int .i64 c.n, .int .i64 c.i, .int .i64 c.s, .int .i64 c.m] 38) by rw [hc]; exact VC2.out)
    clear VC2 hc
    refine (chance w0 w7 gs _ l _ 9 S.out (by omega) (by omega) hl).mono ?_
    rintro e w8 ⟨r, rfl, hS, hG⟩
    replace S := hid hS
    replace VA := hid (var_grown hG VA.out (fun e => by have := Option.some.inj e; have := LVA.out; omega))
    replace VB := hid (var_grown hG VB.out (fun e => by have := Option.some.inj e; have := LVB.out; omega))
    replace VO := hid (var_grown hG VO.out (fun e => by have := Option.some.inj e; have := LVO.out; omega))
    replace VC := hid (var_grown hG VC.out (fun e => by have := Option.some.inj e; have := LVC.out; omega))
    clear hS hG
    replace BB := hid (BB.out.trans (S.out.bel.mono BB.out.size))
    have RD := hid (RC.out.below BB.out)
    cases r
    · go_wp2_with fail
      refine wp_region_held_drew (S := fun w' => Below w.heap.size w w' ∧ w'.heap[gO]? = some (.cells #[.int .i64 a.n, .int .i64 a.i, .int .i64 a.s, .int .i64 a.m] 38) ∧ w'.heap[gC]? = some (.cells #[.int .i64 c.n, .int .i64 c.i, .int .i64 c.s, .int .i64 c.m] 38)) (by kernel_rfl) ⟨BB.out.drew, VO.out, VC.out⟩ (fun hH => ?_)
      have VAD := hid (show w8.drew.heap[ga]? = some (.cells #[.int .i64 0, .int .i64 0, .int .i64 0, .int .i64 0] 38) from VA.out)
      have VBD := hid (show w8.drew.heap[gb]? = some (.cells #[.int .i64 0, .int .i64 0, .int .i64 0, .int .i64 0] 38) from VB.out)
      clear VA VB VO VC S BB
      generalize w8.drew = x at hH VAD VBD ⊢
      refine wpAnyH_take (i := 0) (v := .agg #[.int .i64 a.n, .int .i64 a.i, .int .i64 a.s, .int .i64 a.m]) (by simp only [List.getElem?_toArray, List.getElem?_cons_zero]; rfl) (by kernel_rfl) (by kernel_rfl) (by kernel_rfl) (by intro _ _ _ h; exact h) (Or.inl ⟨by rfl, fun w hS => by (obtain ⟨⟨y0, y1, y2, y3⟩, -⟩ := var4_facts hS.2.1; clear hS; go_simp)⟩) hH ?_
      simp only [Act.put, List.setIfInBounds_toArray, List.set_cons_zero, List.set_cons_succ]
      refine wpAnyH_take (i := 1) (v := .agg #[.int .i64 c.n, .int .i64 c.i, .int .i64 c.s, .int .i64 c.m]) (by simp only [List.getElem?_toArray, List.getElem?_cons_succ, List.getElem?_cons_zero]; rfl) (by kernel_rfl) (by kernel_rfl) (by kernel_rfl) (by intro _ _ _ h; exact h) (Or.inl ⟨by rfl, fun w hS => by (obtain ⟨⟨y0, y1, y2, y3⟩, -⟩ := var4_facts hS.2.2; clear hS; go_simp)⟩) hH ?_
      simp only [Act.put, List.setIfInBounds_toArray, List.set_cons_zero, List.set_cons_succ]
      refine wpAnyH_ready (rs := [2]) (by kernel_rfl) (by simp) ?_
      refine AllReadyH.cons (by simp only [List.getElem?_toArray, List.getElem?_cons_succ, List.getElem?_cons_zero]; rfl) (fun K hK => ?_) AllReadyH.nil
      obtain ⟨⟨u0, u1, u2, u3⟩, z0, z1, z2, z3⟩ := var4_facts VAD.out
      go_simp
      have V1 := hid (var4_set (x' := .int .i64 a.n) (y' := .int .i64 a.i) (z' := .int .i64 a.s) (u' := .int .i64 a.m) VAD.out)
      have SN := hid (show Below w.heap.size w ((((x.setCell ⟨ga, 0, none⟩ (.int .i64 a.n)).setCell ⟨ga, 1, none⟩ (.int .i64 a.i)).setCell ⟨ga, 2, none⟩ (.int .i64 a.s)).setCell ⟨ga, 3, none⟩ (.int .i64 a.m)) ∧ ((((x.setCell ⟨ga, 0, none⟩ (.int .i64 a.n)).setCell ⟨ga, 1, none⟩ (.int .i64 a.i)).setCell ⟨ga, 2, none⟩ (.int .i64 a.s)).setCell ⟨ga, 3, none⟩ (.int .i64 a.m)).heap[gO]? = some (.cells #[.int .i64 a.n, .int .i64 a.i, .int .i64 a.s, .int .i64 a.m] 38) ∧ ((((x.setCell ⟨ga, 0, none⟩ (.int .i64 a.n)).setCell ⟨ga, 1, none⟩ (.int .i64 a.i)).setCell ⟨ga, 2, none⟩ (.int .i64 a.s)).setCell ⟨ga, 3, none⟩ (.int .i64 a.m)).heap[gC]? = some (.cells #[.int .i64 c.n, .int .i64 c.i, .int .i64 c.s, .int .i64 c.m] 38) from ⟨((((hH.1.setCell (p := ⟨ga, 0, none⟩) GG.out.1 _).setCell (p := ⟨ga, 1, none⟩) GG.out.1 _).setCell (p := ⟨ga, 2, none⟩) GG.out.1 _).setCell (p := ⟨ga, 3, none⟩) GG.out.1 _), (set4_other NOA.out.1).trans hH.2.1, (set4_other NCA.out.1).trans hH.2.2⟩)
      have O1 := hid ((set4_other (g := ga) (x := .int .i64 a.n) (y := .int .i64 a.i) (z := .int .i64 a.s) (u := .int .i64 a.m) (fun e => GG.out.2.2 e.symm)).trans VBD.out)
      refine hK.out _ _ SN.out (fun hH => ?_)
      clear hK K SN VAD VBD u0 u1 u2 u3 z0 z1 z2 z3
      generalize (((x.setCell ⟨ga, 0, none⟩ (.int .i64 a.n)).setCell ⟨ga, 1, none⟩ (.int .i64 a.i)).setCell ⟨ga, 2, none⟩ (.int .i64 a.s)).setCell ⟨ga, 3, none⟩ (.int .i64 a.m) = xA at *
      have VAD := V1
      have VBD := O1
      clear V1 O1
      refine wpAnyH_ready (rs := [3]) (by kernel_rfl) (by simp) ?_
      refine AllReadyH.cons (by simp only [List.getElem?_toArray, List.getElem?_cons_succ, List.getElem?_cons_zero]; rfl) (fun K hK => ?_) AllReadyH.nil
      obtain ⟨⟨u0, u1, u2, u3⟩, z0, z1, z2, z3⟩ := var4_facts VBD.out
      go_simp
      have V1 := hid (var4_set (x' := .int .i64 c.n) (y' := .int .i64 c.i) (z' := .int .i64 c.s) (u' := .int .i64 c.m) VBD.out)
      have SN := hid (show Below w.heap.size w ((((xA.setCell ⟨gb, 0, none⟩ (.int .i64 c.n)).setCell ⟨gb, 1, none⟩ (.int .i64 c.i)).setCell ⟨gb, 2, none⟩ (.int .i64 c.s)).setCell ⟨gb, 3, none⟩ (.int .i64 c.m)) ∧ ((((xA.setCell ⟨gb, 0, none⟩ (.int .i64 c.n)).setCell ⟨gb, 1, none⟩ (.int .i64 c.i)).setCell ⟨gb, 2, none⟩ (.int .i64 c.s)).setCell ⟨gb, 3, none⟩ (.int .i64 c.m)).heap[gO]? = some (.cells #[.int .i64 a.n, .int .i64 a.i, .int .i64 a.s, .int .i64 a.m] 38) ∧ ((((xA.setCell ⟨gb, 0, none⟩ (.int .i64 c.n)).setCell ⟨gb, 1, none⟩ (.int .i64 c.i)).setCell ⟨gb, 2, none⟩ (.int .i64 c.s)).setCell ⟨gb, 3, none⟩ (.int .i64 c.m)).heap[gC]? = some (.cells #[.int .i64 c.n, .int .i64 c.i, .int .i64 c.s, .int .i64 c.m] 38) from ⟨((((hH.1.setCell (p := ⟨gb, 0, none⟩) GG.out.2.1 _).setCell (p := ⟨gb, 1, none⟩) GG.out.2.1 _).setCell (p := ⟨gb, 2, none⟩) GG.out.2.1 _).setCell (p := ⟨gb, 3, none⟩) GG.out.2.1 _), (set4_other NOA.out.2).trans hH.2.1, (set4_other NCA.out.2.1).trans hH.2.2⟩)
      have O1 := hid ((set4_other (g := gb) (x := .int .i64 c.n) (y := .int .i64 c.i) (z := .int .i64 c.s) (u := .int .i64 c.m) GG.out.2.2).trans VAD.out)
      refine hK.out _ _ SN.out (fun hH => ?_)
      clear hK K SN VBD VAD u0 u1 u2 u3 z0 z1 z2 z3
      generalize (((xA.setCell ⟨gb, 0, none⟩ (.int .i64 c.n)).setCell ⟨gb, 1, none⟩ (.int .i64 c.i)).setCell ⟨gb, 2, none⟩ (.int .i64 c.s)).setCell ⟨gb, 3, none⟩ (.int .i64 c.m) = xB at *
      have VBD := V1
      have VAD := O1
      clear V1 O1
      refine wpAnyH_done (by kernel_rfl) ?_ _
      have BE := hid hH.1
      clear hH
      go_wp2
      exact bodyPost_ret (v := .tuple #[.agg #[.int .i64 a.n, .int .i64 a.i, .int .i64 a.s, .int .i64 a.m], .agg #[.int .i64 c.n, .int .i64 c.i, .int .i64 c.s, .int .i64 c.m]]) (results_cc rfl _ _ ga gb 38 38 _ _ _ _ _ _ rfl rfl VAD.out VBD.out Try.underlying38 rfl (by kernel_rfl) Try.underlying38 rfl (by kernel_rfl)) rfl ⟨a, c, rfl, BE.out⟩
    · go_wp2_with fail
      refine wp_region_held_drew (S := fun w' => Below w.heap.size w w' ∧ w'.heap[gO]? = some (.cells #[.int .i64 a.n, .int .i64 a.i, .int .i64 a.s, .int .i64 a.m] 38) ∧ w'.heap[gC]? = some (.cells #[.int .i64 c.n, .int .i64 c.i, .int .i64 c.s, .int .i64 c.m] 38)) (by kernel_rfl) ⟨BB.out.drew, VO.out, VC.out⟩ (fun hH => ?_)
      have VAD := hid (show w8.drew.heap[ga]? = some (.cells #[.int .i64 0, .int .i64 0, .int .i64 0, .int .i64 0] 38) from VA.out)
      have VBD := hid (show w8.drew.heap[gb]? = some (.cells #[.int .i64 0, .int .i64 0, .int .i64 0, .int .i64 0] 38) from VB.out)
      clear VA VB VO VC S BB
      generalize w8.drew = x at hH VAD VBD ⊢
      refine wpAnyH_take (i := 0) (v := .slice q l.length cap) (by simp only [List.getElem?_toArray, List.getElem?_cons_zero]; rfl) (by kernel_rfl) (by kernel_rfl) (by kernel_rfl) (by intro _ _ _ h; exact h) (Or.inl ⟨by rfl, fun w hS => by go_simp⟩) hH ?_
      simp only [Act.put, List.setIfInBounds_toArray, List.set_cons_zero, List.set_cons_succ]
      refine wpAnyH_take (i := 2) (v := .agg #[.int .i64 c.n, .int .i64 c.i, .int .i64 c.s, .int .i64 c.m]) (by simp only [List.getElem?_toArray, List.getElem?_cons_succ, List.getElem?_cons_zero]; rfl) (by kernel_rfl) (by kernel_rfl) (by kernel_rfl) (by intro _ _ _ h; exact h) (Or.inl ⟨by rfl, fun w hS => by (obtain ⟨⟨y0, y1, y2, y3⟩, -⟩ := var4_facts hS.2.2; clear hS; go_simp)⟩) hH ?_
      simp only [Act.put, List.setIfInBounds_toArray, List.set_cons_zero, List.set_cons_succ]
      refine wpAnyH_ready (rs := [1]) (by kernel_rfl) (by simp) ?_
      refine AllReadyH.cons (by simp only [List.getElem?_toArray, List.getElem?_cons_succ, List.getElem?_cons_zero]; rfl) (fun K hK => ?_) AllReadyH.nil
      go_simp
      refine (drCf _ l x (RC.out.below hH.1) y hl).mono ?_
      rintro e x1 ⟨d, rfl, hM⟩
      have SN := hid (show Below w.heap.size w x1 ∧ x1.heap[gO]? = some (.cells #[.int .i64 a.n, .int .i64 a.i, .int .i64 a.s, .int .i64 a.m] 38) ∧ x1.heap[gC]? = some (.cells #[.int .i64 c.n, .int .i64 c.i, .int .i64 c.s, .int .i64 c.m] 38) from ⟨hH.1.trans (hM.mono hH.1.size), var_below hM hH.2.1, var_below hM hH.2.2⟩)
      refine hK.out _ _ SN.out (fun hH => ?_)
      clear hK K SN
      replace VAD := hid (var_below hM VAD.out)
      replace VBD := hid (var_below hM VBD.out)
      clear hM
      refine wpAnyH_ready (rs := [3]) (by kernel_rfl) (by simp) ?_
      refine AllReadyH.cons (by simp only [List.getElem?_toArray, List.getElem?_cons_succ, List.getElem?_cons_zero]; rfl) (fun K hK => ?_) AllReadyH.nil
      obtain ⟨⟨u0, u1, u2, u3⟩, z0, z1, z2, z3⟩ := var4_facts VAD.out
      go_simp
      have V1 := hid (var4_set (x' := .int .i64 d.n) (y' := .int .i64 d.i) (z' := .int .i64 d.s) (u' := .int .i64 d.m) VAD.out)
      have SN := hid (show Below w.heap.size w ((((x1.setCell ⟨ga, 0, none⟩ (.int .i64 d.n)).setCell ⟨ga, 1, none⟩ (.int .i64 d.i)).setCell ⟨ga, 2, none⟩ (.int .i64 d.s)).setCell ⟨ga, 3, none⟩ (.int .i64 d.m)) ∧ ((((x1.setCell ⟨ga, 0, none⟩ (.int .i64 d.n)).setCell ⟨ga, 1, none⟩ (.int .i64 d.i)).setCell ⟨ga, 2, none⟩ (.int .i64 d.s)).setCell ⟨ga, 3, none⟩ (.int .i64 d.m)).heap[gO]? = some (.cells #[.int .i64 a.n, .int .i64 a.i, .int .i64 a.s, .int .i64 a.m] 38) ∧ ((((x1.setCell ⟨ga, 0, none⟩ (.int .i64 d.n)).setCell ⟨ga, 1, none⟩ (.int .i64 d.i)).setCell ⟨ga, 2, none⟩ (.int .i64 d.s)).setCell ⟨ga, 3, none⟩ (.int .i64 d.m)).heap[gC]? = some (.cells #[.int .i64 c.n, .int .i64 c.i, .int .i64 c.s, .int .i64 c.m] 38) from ⟨((((hH.1.setCell (p := ⟨ga, 0, none⟩) GG.out.1 _).setCell (p := ⟨ga, 1, none⟩) GG.out.1 _).setCell (p := ⟨ga, 2, none⟩) GG.out.1 _).setCell (p := ⟨ga, 3, none⟩) GG.out.1 _), (set4_other NOA.out.1).trans hH.2.1, (set4_other NCA.out.1).trans hH.2.2⟩)
      have O1 := hid ((set4_other (g := ga) (x := .int .i64 d.n) (y := .int .i64 d.i) (z := .int .i64 d.s) (u := .int .i64 d.m) (fun e => GG.out.2.2 e.symm)).trans VBD.out)
      refine hK.out _ _ SN.out (fun hH => ?_)
      clear hK K SN VAD VBD u0 u1 u2 u3 z0 z1 z2 z3
      generalize (((x1.setCell ⟨ga, 0, none⟩ (.int .i64 d.n)).setCell ⟨ga, 1, none⟩ (.int .i64 d.i)).setCell ⟨ga, 2, none⟩ (.int .i64 d.s)).setCell ⟨ga, 3, none⟩ (.int .i64 d.m) = xA at *
      have VAD := V1
      have VBD := O1
      clear V1 O1
      refine wpAnyH_ready (rs := [4]) (by kernel_rfl) (by simp) ?_
      refine AllReadyH.cons (by simp only [List.getElem?_toArray, List.getElem?_cons_succ, List.getElem?_cons_zero]; rfl) (fun K hK => ?_) AllReadyH.nil
      obtain ⟨⟨u0, u1, u2, u3⟩, z0, z1, z2, z3⟩ := var4_facts VBD.out
      go_simp
      have V1 := hid (var4_set (x' := .int .i64 c.n) (y' := .int .i64 c.i) (z' := .int .i64 c.s) (u' := .int .i64 c.m) VBD.out)
      have SN := hid (show Below w.heap.size w ((((xA.setCell ⟨gb, 0, none⟩ (.int .i64 c.n)).setCell ⟨gb, 1, none⟩ (.int .i64 c.i)).setCell ⟨gb, 2, none⟩ (.int .i64 c.s)).setCell ⟨gb, 3, none⟩ (.int .i64 c.m)) ∧ ((((xA.setCell ⟨gb, 0, none⟩ (.int .i64 c.n)).setCell ⟨gb, 1, none⟩ (.int .i64 c.i)).setCell ⟨gb, 2, none⟩ (.int .i64 c.s)).setCell ⟨gb, 3, none⟩ (.int .i64 c.m)).heap[gO]? = some (.cells #[.int .i64 a.n, .int .i64 a.i, .int .i64 a.s, .int .i64 a.m] 38) ∧ ((((xA.setCell ⟨gb, 0, none⟩ (.int .i64 c.n)).setCell ⟨gb, 1, none⟩ (.int .i64 c.i)).setCell ⟨gb, 2, none⟩ (.int .i64 c.s)).setCell ⟨gb, 3, none⟩ (.int .i64 c.m)).heap[gC]? = some (.cells #[.int .i64 c.n, .int .i64 c.i, .int .i64 c.s, .int .i64 c.m] 38) from ⟨((((hH.1.setCell (p := ⟨gb, 0, none⟩) GG.out.2.1 _).setCell (p := ⟨gb, 1, none⟩) GG.out.2.1 _).setCell (p := ⟨gb, 2, none⟩) GG.out.2.1 _).setCell (p := ⟨gb, 3, none⟩) GG.out.2.1 _), (set4_other NOA.out.2).trans hH.2.1, (set4_other NCA.out.2.1).trans hH.2.2⟩)
      have O1 := hid ((set4_other (g := gb) (x := .int .i64 c.n) (y := .int .i64 c.i) (z := .int .i64 c.s) (u := .int .i64 c.m) GG.out.2.2).trans VAD.out)
      refine hK.out _ _ SN.out (fun hH => ?_)
      clear hK K SN VBD VAD u0 u1 u2 u3 z0 z1 z2 z3
      generalize (((xA.setCell ⟨gb, 0, none⟩ (.int .i64 c.n)).setCell ⟨gb, 1, none⟩ (.int .i64 c.i)).setCell ⟨gb, 2, none⟩ (.int .i64 c.s)).setCell ⟨gb, 3, none⟩ (.int .i64 c.m) = xB at *
      have VBD := V1
      have VAD := O1
      clear V1 O1
      refine wpAnyH_done (by kernel_rfl) ?_ _
      have BE := hid hH.1
      clear hH
      go_wp2
      exact bodyPost_ret (v := .tuple #[.agg #[.int .i64 d.n, .int .i64 d.i, .int .i64 d.s, .int .i64 d.m], .agg #[.int .i64 c.n, .int .i64 c.i, .int .i64 c.s, .int .i64 c.m]]) (results_cc rfl _ _ ga gb 38 38 _ _ _ _ _ _ rfl rfl VAD.out VBD.out Try.underlying38 rfl (by kernel_rfl) Try.underlying38 rfl (by kernel_rfl)) rfl ⟨d, c, rfl, BE.out⟩
  · go_wp2_with fail
    clear o0 o1 o2 o3 k0 k1 k2 k3 f0 f1 f2 f3
    obtain ⟨w7, hw7⟩ : ∃ x, x = w6 := ⟨_, rfl⟩
    obtain ⟨c, hc⟩ : ∃ c, c = b := ⟨_, rfl⟩
    rw [← hw7] at S VA VB VO VC ⊢
    rw [← hc] at VC
    clear hw7 hc
    refine (chance w0 w7 gs _ l _ 9 S.out (by omega) (by omega) hl).mono ?_
    rintro e w8 ⟨r, rfl, hS, hG⟩
    replace S := hid hS
    replace VA := hid (var_grown hG VA.out (fun e => by have := Option.some.inj e; have := LVA.out; omega))
    replace VB := hid (var_grown hG VB.out (fun e => by have := Option.some.inj e; have := LVB.out; omega))
    replace VO := hid (var_grown hG VO.out (fun e => by have := Option.some.inj e; have := LVO.out; omega))
    replace VC := hid (var_grown hG VC.out (fun e => by have := Option.some.inj e; have := LVC.out; omega))
    clear hS hG
    replace BB := hid (BB.out.trans (S.out.bel.mono BB.out.size))
    have RD := hid (RC.out.below BB.out)
    cases r
    · go_wp2_with fail
      refine wp_region_held_drew (S := fun w' => Below w.heap.size w w' ∧ w'.heap[gO]? = some (.cells #[.int .i64 a.n, .int .i64 a.i, .int .i64 a.s, .int .i64 a.m] 38) ∧ w'.heap[gC]? = some (.cells #[.int .i64 c.n, .int .i64 c.i, .int .i64 c.s, .int .i64 c.m] 38)) (by kernel_rfl) ⟨BB.out.drew, VO.out, VC.out⟩ (fun hH => ?_)
      have VAD := hid (show w8.drew.heap[ga]? = some (.cells #[.int .i64 0, .int .i64 0, .int .i64 0, .int .i64 0] 38) from VA.out)
      have VBD := hid (show w8.drew.heap[gb]? = some (.cells #[.int .i64 0, .int .i64 0, .int .i64 0, .int .i64 0] 38) from VB.out)
      clear VA VB VO VC S BB
      generalize w8.drew = x at hH VAD VBD ⊢
      refine wpAnyH_take (i := 0) (v := .agg #[.int .i64 a.n, .int .i64 a.i, .int .i64 a.s, .int .i64 a.m]) (by simp only [List.getElem?_toArray, List.getElem?_cons_zero]; rfl) (by kernel_rfl) (by kernel_rfl) (by kernel_rfl) (by intro _ _ _ h; exact h) (Or.inl ⟨by rfl, fun w hS => by (obtain ⟨⟨y0, y1, y2, y3⟩, -⟩ := var4_facts hS.2.1; clear hS; go_simp)⟩) hH ?_
      simp only [Act.put, List.setIfInBounds_toArray, List.set_cons_zero, List.set_cons_succ]
      refine wpAnyH_take (i := 1) (v := .agg #[.int .i64 c.n, .int .i64 c.i, .int .i64 c.s, .int .i64 c.m]) (by simp only [List.getElem?_toArray, List.getElem?_cons_succ, List.getElem?_cons_zero]; rfl) (by kernel_rfl) (by kernel_rfl) (by kernel_rfl) (by intro _ _ _ h; exact h) (Or.inl ⟨by rfl, fun w hS => by (obtain ⟨⟨y0, y1, y2, y3⟩, -⟩ := var4_facts hS.2.2; clear hS; go_simp)⟩) hH ?_
      simp only [Act.put, List.setIfInBounds_toArray, List.set_cons_zero, List.set_cons_succ]
      refine wpAnyH_ready (rs := [2]) (by kernel_rfl) (by simp) ?_
      refine AllReadyH.cons (by simp only [List.getElem?_toArray, List.getElem?_cons_succ, List.getElem?_cons_zero]; rfl) (fun K hK => ?_) AllReadyH.nil
      obtain ⟨⟨u0, u1, u2, u3⟩, z0, z1, z2, z3⟩ := var4_facts VAD.out
      go_simp
      have V1 := hid (var4_set (x' := .int .i64 a.n) (y' := .int .i64 a.i) (z' := .int .i64 a.s) (u' := .int .i64 a.m) VAD.out)
      have SN := hid (show Below w.heap.size w ((((x.setCell ⟨ga, 0, none⟩ (.int .i64 a.n)).setCell ⟨ga, 1, none⟩ (.int .i64 a.i)).setCell ⟨ga, 2, none⟩ (.int .i64 a.s)).setCell ⟨ga, 3, none⟩ (.int .i64 a.m)) ∧ ((((x.setCell ⟨ga, 0, none⟩ (.int .i64 a.n)).setCell ⟨ga, 1, none⟩ (.int .i64 a.i)).setCell ⟨ga, 2, none⟩ (.int .i64 a.s)).setCell ⟨ga, 3, none⟩ (.int .i64 a.m)).heap[gO]? = some (.cells #[.int .i64 a.n, .int .i64 a.i, .int .i64 a.s, .int .i64 a.m] 38) ∧ ((((x.setCell ⟨ga, 0, none⟩ (.int .i64 a.n)).setCell ⟨ga, 1, none⟩ (.int .i64 a.i)).setCell ⟨ga, 2, none⟩ (.int .i64 a.s)).setCell ⟨ga, 3, none⟩ (.int .i64 a.m)).heap[gC]? = some (.cells #[.int .i64 c.n, .int .i64 c.i, .int .i64 c.s, .int .i64 c.m] 38) from ⟨((((hH.1.setCell (p := ⟨ga, 0, none⟩) GG.out.1 _).setCell (p := ⟨ga, 1, none⟩) GG.out.1 _).setCell (p := ⟨ga, 2, none⟩) GG.out.1 _).setCell (p := ⟨ga, 3, none⟩) GG.out.1 _), (set4_other NOA.out.1).trans hH.2.1, (set4_other NCA.out.1).trans hH.2.2⟩)
      have O1 := hid ((set4_other (g := ga) (x := .int .i64 a.n) (y := .int .i64 a.i) (z := .int .i64 a.s) (u := .int .i64 a.m) (fun e => GG.out.2.2 e.symm)).trans VBD.out)
      refine hK.out _ _ SN.out (fun hH => ?_)
      clear hK K SN VAD VBD u0 u1 u2 u3 z0 z1 z2 z3
      generalize (((x.setCell ⟨ga, 0, none⟩ (.int .i64 a.n)).setCell ⟨ga, 1, none⟩ (.int .i64 a.i)).setCell ⟨ga, 2, none⟩ (.int .i64 a.s)).setCell ⟨ga, 3, none⟩ (.int .i64 a.m) = xA at *
      have VAD := V1
      have VBD := O1
      clear V1 O1
      refine wpAnyH_ready (rs := [3]) (by kernel_rfl) (by simp) ?_
      refine AllReadyH.cons (by simp only [List.getElem?_toArray, List.getElem?_cons_succ, List.getElem?_cons_zero]; rfl) (fun K hK => ?_) AllReadyH.nil
      obtain ⟨⟨u0, u1, u2, u3⟩, z0, z1, z2, z3⟩ := var4_facts VBD.out
      go_simp
      have V1 := hid (var4_set (x' := .int .i64 c.n) (y' := .int .i64 c.i) (z' := .int .i64 c.s) (u' := .int .i64 c.m) VBD.out)
      have SN := hid (show Below w.heap.size w ((((xA.setCell ⟨gb, 0, none⟩ (.int .i64 c.n)).setCell ⟨gb, 1, none⟩ (.int .i64 c.i)).setCell ⟨gb, 2, none⟩ (.int .i64 c.s)).setCell ⟨gb, 3, none⟩ (.int .i64 c.m)) ∧ ((((xA.setCell ⟨gb, 0, none⟩ (.int .i64 c.n)).setCell ⟨gb, 1, none⟩ (.int .i64 c.i)).setCell ⟨gb, 2, none⟩ (.int .i64 c.s)).setCell ⟨gb, 3, none⟩ (.int .i64 c.m)).heap[gO]? = some (.cells #[.int .i64 a.n, .int .i64 a.i, .int .i64 a.s, .int .i64 a.m] 38) ∧ ((((xA.setCell ⟨gb, 0, none⟩ (.int .i64 c.n)).setCell ⟨gb, 1, none⟩ (.int .i64 c.i)).setCell ⟨gb, 2, none⟩ (.int .i64 c.s)).setCell ⟨gb, 3, none⟩ (.int .i64 c.m)).heap[gC]? = some (.cells #[.int .i64 c.n, .int .i64 c.i, .int .i64 c.s, .int .i64 c.m] 38) from ⟨((((hH.1.setCell (p := ⟨gb, 0, none⟩) GG.out.2.1 _).setCell (p := ⟨gb, 1, none⟩) GG.out.2.1 _).setCell (p := ⟨gb, 2, none⟩) GG.out.2.1 _).setCell (p := ⟨gb, 3, none⟩) GG.out.2.1 _), (set4_other NOA.out.2).trans hH.2.1, (set4_other NCA.out.2.1).trans hH.2.2⟩)
      have O1 := hid ((set4_other (g := gb) (x := .int .i64 c.n) (y := .int .i64 c.i) (z := .int .i64 c.s) (u := .int .i64 c.m) GG.out.2.2).trans VAD.out)
      refine hK.out _ _ SN.out (fun hH => ?_)
      clear hK K SN VBD VAD u0 u1 u2 u3 z0 z1 z2 z3
      generalize (((xA.setCell ⟨gb, 0, none⟩ (.int .i64 c.n)).setCell ⟨gb, 1, none⟩ (.int .i64 c.i)).setCell ⟨gb, 2, none⟩ (.int .i64 c.s)).setCell ⟨gb, 3, none⟩ (.int .i64 c.m) = xB at *
      have VBD := V1
      have VAD := O1
      clear V1 O1
      refine wpAnyH_done (by kernel_rfl) ?_ _
      have BE := hid hH.1
      clear hH
      go_wp2
      exact bodyPost_ret (v := .tuple #[.agg #[.int .i64 a.n, .int .i64 a.i, .int .i64 a.s, .int .i64 a.m], .agg #[.int .i64 c.n, .int .i64 c.i, .int .i64 c.s, .int .i64 c.m]]) (results_cc rfl _ _ ga gb 38 38 _ _ _ _ _ _ rfl rfl VAD.out VBD.out Try.underlying38 rfl (by kernel_rfl) Try.underlying38 rfl (by kernel_rfl)) rfl ⟨a, c, rfl, BE.out⟩
    · go_wp2_with fail
      refine wp_region_held_drew (S := fun w' => Below w.heap.size w w' ∧ w'.heap[gO]? = some (.cells #[.int .i64 a.n, .int .i64 a.i, .int .i64 a.s, .int .i64 a.m] 38) ∧ w'.heap[gC]? = some (.cells #[.int .i64 c.n, .int .i64 c.i, .int .i64 c.s, .int .i64 c.m] 38)) (by kernel_rfl) ⟨BB.out.drew, VO.out, VC.out⟩ (fun hH => ?_)
      have VAD := hid (show w8.drew.heap[ga]? = some (.cells #[.int .i64 0, .int .i64 0, .int .i64 0, .int .i64 0] 38) from VA.out)
      have VBD := hid (show w8.drew.heap[gb]? = some (.cells #[.int .i64 0, .int .i64 0, .int .i64 0, .int .i64 0] 38) from VB.out)
      clear VA VB VO VC S BB
      generalize w8.drew = x at hH VAD VBD ⊢
      refine wpAnyH_take (i := 0) (v := .slice q l.length cap) (by simp only [List.getElem?_toArray, List.getElem?_cons_zero]; rfl) (by kernel_rfl) (by kernel_rfl) (by kernel_rfl) (by intro _ _ _ h; exact h) (Or.inl ⟨by rfl, fun w hS => by go_simp⟩) hH ?_
      simp only [Act.put, List.setIfInBounds_toArray, List.set_cons_zero, List.set_cons_succ]
      refine wpAnyH_take (i := 2) (v := .agg #[.int .i64 c.n, .int .i64 c.i, .int .i64 c.s, .int .i64 c.m]) (by simp only [List.getElem?_toArray, List.getElem?_cons_succ, List.getElem?_cons_zero]; rfl) (by kernel_rfl) (by kernel_rfl) (by kernel_rfl) (by intro _ _ _ h; exact h) (Or.inl ⟨by rfl, fun w hS => by (obtain ⟨⟨y0, y1, y2, y3⟩, -⟩ := var4_facts hS.2.2; clear hS; go_simp)⟩) hH ?_
      simp only [Act.put, List.setIfInBounds_toArray, List.set_cons_zero, List.set_cons_succ]
      refine wpAnyH_ready (rs := [1]) (by kernel_rfl) (by simp) ?_
      refine AllReadyH.cons (by simp only [List.getElem?_toArray, List.getElem?_cons_succ, List.getElem?_cons_zero]; rfl) (fun K hK => ?_) AllReadyH.nil
      go_simp
      refine (drCf _ l x (RC.out.below hH.1) y hl).mono ?_
      rintro e x1 ⟨d, rfl, hM⟩
      have SN := hid (show Below w.heap.size w x1 ∧ x1.heap[gO]? = some (.cells #[.int .i64 a.n, .int .i64 a.i, .int .i64 a.s, .int .i64 a.m] 38) ∧ x1.heap[gC]? = some (.cells #[.int .i64 c.n, .int .i64 c.i, .int .i64 c.s, .int .i64 c.m] 38) from ⟨hH.1.trans (hM.mono hH.1.size), var_below hM hH.2.1, var_below hM hH.2.2⟩)
      refine hK.out _ _ SN.out (fun hH => ?_)
      clear hK K SN
      replace VAD := hid (var_below hM VAD.out)
      replace VBD := hid (var_below hM VBD.out)
      clear hM
      refine wpAnyH_ready (rs := [3]) (by kernel_rfl) (by simp) ?_
      refine AllReadyH.cons (by simp only [List.getElem?_toArray, List.getElem?_cons_succ, List.getElem?_cons_zero]; rfl) (fun K hK => ?_) AllReadyH.nil
      obtain ⟨⟨u0, u1, u2, u3⟩, z0, z1, z2, z3⟩ := var4_facts VAD.out
      go_simp
      have V1 := hid (var4_set (x' := .int .i64 d.n) (y' := .int .i64 d.i) (z' := .int .i64 d.s) (u' := .int .i64 d.m) VAD.out)
      have SN := hid (show Below w.heap.size w ((((x1.setCell ⟨ga, 0, none⟩ (.int .i64 d.n)).setCell ⟨ga, 1, none⟩ (.int .i64 d.i)).setCell ⟨ga, 2, none⟩ (.int .i64 d.s)).setCell ⟨ga, 3, none⟩ (.int .i64 d.m)) ∧ ((((x1.setCell ⟨ga, 0, none⟩ (.int .i64 d.n)).setCell ⟨ga, 1, none⟩ (.int .i64 d.i)).setCell ⟨ga, 2, none⟩ (.int .i64 d.s)).setCell ⟨ga, 3, none⟩ (.int .i64 d.m)).heap[gO]? = some (.cells #[.int .i64 a.n, .int .i64 a.i, .int .i64 a.s, .int .i64 a.m] 38) ∧ ((((x1.setCell ⟨ga, 0, none⟩ (.int .i64 d.n)).setCell ⟨ga, 1, none⟩ (.int .i64 d.i)).setCell ⟨ga, 2, none⟩ (.int .i64 d.s)).setCell ⟨ga, 3, none⟩ (.int .i64 d.m)).heap[gC]? = some (.cells #[.int .i64 c.n, .int .i64 c.i, .int .i64 c.s, .int .i64 c.m] 38) from ⟨((((hH.1.setCell (p := ⟨ga, 0, none⟩) GG.out.1 _).setCell (p := ⟨ga, 1, none⟩) GG.out.1 _).setCell (p := ⟨ga, 2, none⟩) GG.out.1 _).setCell (p := ⟨ga, 3, none⟩) GG.out.1 _), (set4_other NOA.out.1).trans hH.2.1, (set4_other NCA.out.1).trans hH.2.2⟩)
      have O1 := hid ((set4_other (g := ga) (x := .int .i64 d.n) (y := .int .i64 d.i) (z := .int .i64 d.s) (u := .int .i64 d.m) (fun e => GG.out.2.2 e.symm)).trans VBD.out)
      refine hK.out _ _ SN.out (fun hH => ?_)
      clear hK K SN VAD VBD u0 u1 u2 u3 z0 z1 z2 z3
      generalize (((x1.setCell ⟨ga, 0, none⟩ (.int .i64 d.n)).setCell ⟨ga, 1, none⟩ (.int .i64 d.i)).setCell ⟨ga, 2, none⟩ (.int .i64 d.s)).setCell ⟨ga, 3, none⟩ (.int .i64 d.m) = xA at *
      have VAD := V1
      have VBD := O1
      clear V1 O1
      refine wpAnyH_ready (rs := [4]) (by kernel_rfl) (by simp) ?_
      refine AllReadyH.cons (by simp only [List.getElem?_toArray, List.getElem?_cons_succ, List.getElem?_cons_zero]; rfl) (fun K hK => ?_) AllReadyH.nil
      obtain ⟨⟨u0, u1, u2, u3⟩, z0, z1, z2, z3⟩ := var4_facts VBD.out
      go_simp
      have V1 := hid (var4_set (x' := .int .i64 c.n) (y' := .int .i64 c.i) (z' := .int .i64 c.s) (u' := .int .i64 c.m) VBD.out)
      have SN := hid (show Below w.heap.size w ((((xA.setCell ⟨gb, 0, none⟩ (.int .i64 c.n)).setCell ⟨gb, 1, none⟩ (.int .i64 c.i)).setCell ⟨gb, 2, none⟩ (.int .i64 c.s)).setCell ⟨gb, 3, none⟩ (.int .i64 c.m)) ∧ ((((xA.setCell ⟨gb, 0, none⟩ (.int .i64 c.n)).setCell ⟨gb, 1, none⟩ (.int .i64 c.i)).setCell ⟨gb, 2, none⟩ (.int .i64 c.s)).setCell ⟨gb, 3, none⟩ (.int .i64 c.m)).heap[gO]? = some (.cells #[.int .i64 a.n, .int .i64 a.i, .int .i64 a.s, .int .i64 a.m] 38) ∧ ((((xA.setCell ⟨gb, 0, none⟩ (.int .i64 c.n)).setCell ⟨gb, 1, none⟩ (.int .i64 c.i)).setCell ⟨gb, 2, none⟩ (.int .i64 c.s)).setCell ⟨gb, 3, none⟩ (.int .i64 c.m)).heap[gC]? = some (.cells #[.int .i64 c.n, .int .i64 c.i, .int .i64 c.s, .int .i64 c.m] 38) from ⟨((((hH.1.setCell (p := ⟨gb, 0, none⟩) GG.out.2.1 _).setCell (p := ⟨gb, 1, none⟩) GG.out.2.1 _).setCell (p := ⟨gb, 2, none⟩) GG.out.2.1 _).setCell (p := ⟨gb, 3, none⟩) GG.out.2.1 _), (set4_other NOA.out.2).trans hH.2.1, (set4_other NCA.out.2.1).trans hH.2.2⟩)
      have O1 := hid ((set4_other (g := gb) (x := .int .i64 c.n) (y := .int .i64 c.i) (z := .int .i64 c.s) (u := .int .i64 c.m) GG.out.2.2).trans VAD.out)
      refine hK.out _ _ SN.out (fun hH => ?_)
      clear hK K SN VBD VAD u0 u1 u2 u3 z0 z1 z2 z3
      generalize (((xA.setCell ⟨gb, 0, none⟩ (.int .i64 c.n)).setCell ⟨gb, 1, none⟩ (.int .i64 c.i)).setCell ⟨gb, 2, none⟩ (.int .i64 c.s)).setCell ⟨gb, 3, none⟩ (.int .i64 c.m) = xB at *
      have VBD := V1
      have VAD := O1
      clear V1 O1
      refine wpAnyH_done (by kernel_rfl) ?_ _
      have BE := hid hH.1
      clear hH
      go_wp2
      exact bodyPost_ret (v := .tuple #[.agg #[.int .i64 d.n, .int .i64 d.i, .int .i64 d.s, .int .i64 d.m], .agg #[.int .i64 c.n, .int .i64 c.i, .int .i64 c.s, .int .i64 c.m]]) (results_cc rfl _ _ ga gb 38 38 _ _ _ _ _ _ rfl rfl VAD.out VBD.out Try.underlying38 rfl (by kernel_rfl) Try.underlying38 rfl (by kernel_rfl)) rfl ⟨d, c, rfl, BE.out⟩
end Go.Proofs.Ytalaolfcdaaaoaa.W
