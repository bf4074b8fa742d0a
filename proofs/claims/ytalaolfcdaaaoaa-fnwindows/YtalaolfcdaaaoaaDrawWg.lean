/-
  How two windows are drawn. Generated text.
-/
import Derived.Deep.Cut
import Derived.Test.YtalaolfcdaaaoaaDrawWf
import Derived.Test.YtalaolfcdaaaoaaDrawC7
import Derived.Test.YtalaolfcdaaaoaaL6kW
import Derived.Test.YtalaolfcdaaaoaaL6W
import Derived.Test.YtalaolfcdaaaoaaNwW
import Derived.Test.YtalaolfcdaaaoaaAppZ
namespace Go.Proofs.Ytalaolfcdaaaoaa.W
open Go.ChangeShapes Go.WideShapes Go.ChangeAt Go.RowKit
open Go.Proofs.Ytalaolfcdaaaoaa.M

theorem wbel2 {w x1 : World} {gr : Nat} {x y : Value} (h : Below w.heap.size w x1) (hg : w.heap.size ≤ gr) : Below w.heap.size w ((x1.setCell ⟨gr, 0, none⟩ x).setCell ⟨gr, 1, none⟩ y) :=
  (h.setCell (p := ⟨gr, 0, none⟩) hg x).setCell (p := ⟨gr, 1, none⟩) hg y
theorem ne_some {v : Value} {g : Nat} (h : ∀ b, v.ownBlock = some b → b ≠ g) : v.ownBlock = none ∨ v.ownBlock ≠ some g := by
  cases e : v.ownBlock with
  | none => exact .inl rfl
  | some b => exact .inr (fun q => h b e (Option.some.inj q))
set_option maxHeartbeats 2000000 in
set_option maxRecDepth 100000 in
theorem l1i (v : Value) (xs : List Int) (w : World) (h : RdZ w v xs) (hl : xs.length ≤ 1048576) :
    Calls Try.prog 104 #[v] w fun e w' => ∃ u, e = .returned u ∧ OwZ w' w.heap.size u xs ∧ Below w.heap.size w w' := by
  have H := hid h
  obtain ⟨a, cap, rfl, -, -, -⟩ := h.parts
  clear h
  have O0 := hid (owZ_litW (base := w.heap.size) (heap_alloc_new w (.cells #[] 2)) (Nat.le_refl _))
  have B0 := hid (below_alloc1 w (.cells #[] 2))
  have H2 := hid (H.out.below B0.out)
  have LA := hid (show ([] : List Int).length + xs.length ≤ 4194304 by simp; omega)
  have S0 := hid (show w.heap.size ≤ (w.alloc (.cells #[] 2)).heap.size by simp)
  go_enter Try.func104, Try.ntmps104
  go_wp2_with (at_builtin; refine list_appZ rfl _ _ rfl _ _ [] xs w.heap.size rfl rfl O0.out H2.out LA.out S0.out ?_; intro v5 w5 hO hG; rw [List.nil_append] at hO; obtain ⟨p5, c5, rfl, -, -, -⟩ := hO.rd.parts; have O5 := hid hO; have B5 := hid (B0.out.grown hG S0.out (fun b e => (O0.out.lt b e).1)))
  clear hO hG
  go_ret
  exact ⟨_, rfl, O5.out, B5.out⟩
set_option maxHeartbeats 8000000 in
set_option maxRecDepth 100000 in
theorem drSn (v : Value) (l : List Nat) (w : World) (h : Rd w v l) (y : Byt l) (hl : l.length ≤ 1048576) :
    Calls Try.prog 44 #[v] w fun e w' => ∃ (p q : Int) (ua ub : Value) (la lb : List Int), e = .returned (.tuple #[.agg #[.int .i64 p, ua], .agg #[.int .i64 q, ub]]) ∧ RdZ w' ua la ∧ RdZ w' ub lb ∧ Below w.heap.size w w' := by
  have RC := hid h
  obtain ⟨q, cap, rfl, -, -, -⟩ := h.parts
  clear h
  have VA := hid (heap_alloc2_old w (.cells #[.int .i64 0, .slice none 0 0] 69) (.cells #[.int .i64 0, .slice none 0 0] 69))
  have VB := hid (heap_alloc2_new w (.cells #[.int .i64 0, .slice none 0 0] 69) (.cells #[.int .i64 0, .slice none 0 0] 69))
  have B0 := hid (below_alloc2 w (.cells #[.int .i64 0, .slice none 0 0] 69) (.cells #[.int .i64 0, .slice none 0 0] 69))
  go_enter Try.func44, Try.ntmps44
  go_wp2_with fail
  generalize (w.alloc (.cells #[.int .i64 0, .slice none 0 0] 69)).alloc (.cells #[.int .i64 0, .slice none 0 0] 69) = x0 at *
  obtain ⟨gb, hgb⟩ : ∃ g, g = w.heap.size + 1 := ⟨_, rfl⟩
  rw [← hgb] at VB ⊢
  obtain ⟨ga, hga⟩ : ∃ g, g = w.heap.size := ⟨_, rfl⟩
  rw [← hga] at VA ⊢
  have GG := hid (show w.heap.size ≤ ga ∧ w.heap.size ≤ gb ∧ ga ≠ gb by omega)
  clear hga hgb
  refine (source _ l x0 (RC.out.below B0.out) y).mono ?_
  rintro e x1 ⟨rfl, hS⟩
  have S := hid hS
  have LX := hid (show ga < x0.heap.size ∧ gb < x0.heap.size from ⟨var_lt VA.out, var_lt VB.out⟩)
  replace VA := hid (var_below hS.bel VA.out)
  replace VB := hid (var_below hS.bel VB.out)
  clear hS
  obtain ⟨gs, hgs⟩ : ∃ q, q = x0.heap.size := ⟨_, rfl⟩
  rw [← hgs] at S LX ⊢
  have NVA := hid (show ga ≠ gs by have := LX.out.1; omega)
  have NVB := hid (show gb ≠ gs by have := LX.out.2; omega)
  have GS0 := hid hgs
  clear hgs
  go_wp2_with fail
  refine (l6d x0 x1 gs _ l 0 S.out (by omega) hl).mono ?_
  rintro e x2 ⟨top, u, xs, t', rfl, hO, WO, htt, hS, hG⟩
  obtain ⟨pu, cu, rfl, -, -, -⟩ := hO.rd.parts
  have GV := hid (show gs < x1.heap.size from var_lt S.out.cells)
  have LB := hid (show ga < x1.heap.size ∧ gb < x1.heap.size by have := LX.out; have := GV.out; omega)
  have OL := hid hO
  have WL := hid WO.len
  replace VA := hid (var_grown hG VA.out (fun e => by have := Option.some.inj e; have := NVA.out; omega))
  replace VB := hid (var_grown hG VB.out (fun e => by have := Option.some.inj e; have := NVB.out; omega))
  replace S := hid hS
  clear hO WO hS hG
  have VW := hid (heap_alloc_new x2 (.cells #[.int .i64 top, .slice pu xs.length cu] 69))
  have hA := below_alloc1 x2 (.cells #[.int .i64 top, .slice pu xs.length cu] 69)
  have LQ := hid (show gs < x2.heap.size ∧ ga < x2.heap.size ∧ gb < x2.heap.size from ⟨var_lt S.out.cells, var_lt VA.out, var_lt VB.out⟩)
  have LO := hid (fun b e => (OL.out.lt b e).2)
  replace S := hid (S.out.later hA)
  replace OL := hid (OL.out.below hA)
  replace VA := hid (var_below hA VA.out)
  replace VB := hid (var_below hA VB.out)
  clear hA
  go_upto_region 3 with fail
  generalize x2.alloc (.cells #[.int .i64 top, .slice pu xs.length cu] 69) = x3 at *
  obtain ⟨gw, hg⟩ : ∃ g, g = x2.heap.size := ⟨_, rfl⟩
  rw [← hg] at VW LQ LO ⊢
  clear hg
  have NVW := hid (show gw ≠ gs by have := LQ.out.1; omega)
  have NRW := hid (show ga ≠ gw ∧ gb ≠ gw by have := LQ.out; omega)
  go_wp2_with fail
  refine (chance x0 x3 gs _ l _ 2 S.out (by omega) (by omega) hl).mono ?_
  rintro e x4 ⟨r, rfl, hS, hG⟩
  replace S := hid hS
  replace OL := hid (OL.out.keepGz hG GV.out)
  replace VA := hid (var_grown hG VA.out (fun e => by have := Option.some.inj e; have := NVA.out; omega))
  replace VB := hid (var_grown hG VB.out (fun e => by have := Option.some.inj e; have := NVB.out; omega))
  replace VW := hid (var_grown hG VW.out (fun e => by have := Option.some.inj e; have := NVW.out; omega))
  have AA := hid (show (∀ b, (Value.slice pu xs.length cu).ownBlock = some b → b ≠ ga) ∧ (∀ b, (Value.slice pu xs.length cu).ownBlock = some b → b ≠ gb) from ⟨fun b e => by have := (OL.out.lt b e).1; have := LB.out; omega, fun b e => by have := (OL.out.lt b e).1; have := LB.out; omega⟩)
  clear hS hG
  cases r
  · skip
    go_wp2
    obtain ⟨y0, y1, -, -⟩ := var2_facts VW.out
    refine wp_region_held_drew (S := fun w' => w'.cell? ⟨gw, 0, none⟩ = some (.int .i64 top) ∧ w'.cell? ⟨gw, 1, none⟩ = some (.slice pu xs.length cu)) (by kernel_rfl) ⟨y0, y1⟩ (fun hH => ?_)
    have VAd := hid (show x4.drew.heap[ga]? = some (.cells #[.int .i64 0, .slice none 0 0] 69) from VA.out)
    have VBd := hid (show x4.drew.heap[gb]? = some (.cells #[.int .i64 0, .slice none 0 0] 69) from VB.out)
    have VWd := hid (show x4.drew.heap[gw]? = some (.cells #[.int .i64 top, .slice pu xs.length cu] 69) from VW.out)
    have OLd := hid (show OwZ x4.drew x1.heap.size _ xs from OL.out.drewz)
    have Sd := hid (S.out.drewN 1)
    clear VA VB VW OL S y0 y1
    change Hid (Src x0 x4.drew gs _ l _) at Sd
    generalize x4.drew = x at *
    have VA := VAd
    have VB := VBd
    have VW := VWd
    have OL := OLd
    have S := Sd
    clear VAd VBd VWd OLd Sd
    refine wpAnyH_take (i := 0) (v := .agg #[.int .i64 top, .slice pu xs.length cu]) (by simp only [List.getElem?_toArray, List.getElem?_cons_zero]; rfl) (by kernel_rfl) (by kernel_rfl) (by kernel_rfl) (by intro _ _ _ h; exact h) (Or.inl ⟨by rfl, fun w hS => by (have y0 := hS.1; have y1 := hS.2; go_simp)⟩) hH ?_
    simp only [Act.put, List.setIfInBounds_toArray, List.set_cons_zero, List.set_cons_succ]
    refine wpAnyH_take (i := 1) (v := .slice q l.length cap) (by simp only [List.getElem?_toArray, List.getElem?_cons_succ, List.getElem?_cons_zero]; rfl) (by kernel_rfl) (by kernel_rfl) (by kernel_rfl) (by intro _ _ _ h; exact h) (Or.inl ⟨by rfl, fun w hS => by go_simp⟩) hH ?_
    simp only [Act.put, List.setIfInBounds_toArray, List.set_cons_zero, List.set_cons_succ]
    refine wpAnyH_ready (rs := [2]) (by kernel_rfl) (by simp) ?_
    refine AllReadyH.cons (by simp only [List.getElem?_toArray, List.getElem?_cons_succ, List.getElem?_cons_zero]; rfl) (fun K hK => ?_) AllReadyH.nil
    go_simp
    have RC2 := hid ((RC.out.below B0.out).below S.out.bel)
    refine (source _ l x RC2.out y).mono ?_
    rintro e xa ⟨rfl, hS⟩
    have S2 := hid hS
    have LS := hid (var_lt S.out.cells)
    have LZ := hid (show ga < x.heap.size ∧ gb < x.heap.size ∧ gw < x.heap.size from ⟨var_lt VA.out, var_lt VB.out, var_lt VW.out⟩)
    have LO2 := hid (fun b e => (OL.out.lt b e).2)
    replace OL := hid (OL.out.below hS.bel)
    replace VA := hid (var_below hS.bel VA.out)
    replace VB := hid (var_below hS.bel VB.out)
    replace VW := hid (var_below hS.bel VW.out)
    have BX := hid ((B0.out.trans (S.out.bel.mono B0.out.size)).trans (hS.bel.mono (by have := B0.out.size; have := S.out.bel.size; omega)))
    refine hK.out _ _ ⟨(var2_facts VW.out).1, (var2_facts VW.out).2.1⟩ (fun hH => ?_)
    clear hK K hS S RC2 LS
    obtain ⟨gt, hgt⟩ : ∃ g, g = x.heap.size := ⟨_, rfl⟩
    rw [← hgt] at S2 LZ LO2 ⊢
    have HGT := hid hgt
    clear hgt
    refine wpAnyH_ready (rs := [3]) (by kernel_rfl) (by simp) ?_
    refine AllReadyH.cons (by simp only [List.getElem?_toArray, List.getElem?_cons_succ, List.getElem?_cons_zero]; rfl) (fun K hK => ?_) AllReadyH.nil
    go_simp
    have BXS := hid (show w.heap.size ≤ gt by have := HGT.out; have := GG.out.1; have := LZ.out.1; omega)
    refine (l6b x xa gt _ l 0 S2.out (by omega) hl).mono ?_
    rintro e xb ⟨top2, u2, ys, t2, rfl, hO, -, -, hS, hG⟩
    obtain ⟨p2, c2, rfl, -, -, -⟩ := hO.rd.parts
    have OP := hid hO
    have LP := hid (show ga < xa.heap.size ∧ gb < xa.heap.size by have := LZ.out; have := var_lt S2.out.cells; omega)
    have AP := hid (show (∀ b, (Value.slice p2 ys.length c2).ownBlock = some b → b ≠ ga) ∧ (∀ b, (Value.slice p2 ys.length c2).ownBlock = some b → b ≠ gb) from ⟨fun b e => by have := (OP.out.lt b e).1; have := LP.out; omega, fun b e => by have := (OP.out.lt b e).1; have := LP.out; omega⟩)
    replace OL := hid (OL.out.kept hG (ne_some (fun b e => by have := LO2.out b e; omega)))
    replace VA := hid (var_grown hG VA.out (fun e => by have := Option.some.inj e; have := LZ.out; omega))
    replace VB := hid (var_grown hG VB.out (fun e => by have := Option.some.inj e; have := LZ.out; omega))
    replace VW := hid (var_grown hG VW.out (fun e => by have := Option.some.inj e; have := LZ.out; omega))
    replace BX := hid (BX.out.grown hG BX.out.size (fun b e => by cases e; have := HGT.out; have := BXS.out; omega))
    refine hK.out _ _ ⟨(var2_facts VW.out).1, (var2_facts VW.out).2.1⟩ (fun hH => ?_)
    clear hK K hO hS hG LO2
    refine wpAnyH_ready (rs := [4]) (by kernel_rfl) (by simp) ?_
    refine AllReadyH.cons (by simp only [List.getElem?_toArray, List.getElem?_cons_succ, List.getElem?_cons_zero]; rfl) (fun K hK => ?_) AllReadyH.nil
    obtain ⟨q0, q1, z0, z1⟩ := var2_facts VA.out
    go_simp
    have VE := hid (var2_set (x' := .int .i64 top) (y' := .slice pu xs.length cu) VA.out)
    have VY := hid (set2_other (x := .int .i64 top) (y := .slice pu xs.length cu) (fun e => GG.out.2.2 e.symm) VB.out)
    have VX := hid (set2_other (x := .int .i64 top) (y := .slice pu xs.length cu) (fun e => NRW.out.1 e.symm) VW.out)
    have OE := hid ((OL.out.setNz (g := ga) (i := 0) (x := .int .i64 top) AA.out.1).setNz (g := ga) (i := 1) (x := .slice pu xs.length cu) AA.out.1)
    have PE := hid ((OP.out.setNz (g := ga) (i := 0) (x := .int .i64 top) AP.out.1).setNz (g := ga) (i := 1) (x := .slice pu xs.length cu) AP.out.1)
    have SE := hid (wbel2 BX.out GG.out.1 (x := .int .i64 top) (y := .slice pu xs.length cu))
    refine hK.out _ _ ⟨(var2_facts VX.out).1, (var2_facts VX.out).2.1⟩ (fun hH => ?_)
    clear hK K q0 q1 z0 z1 OL OP VA VB VW BX
    generalize (xb.setCell ⟨ga, 0, none⟩ (.int .i64 top)).setCell ⟨ga, 1, none⟩ (.slice pu xs.length cu) = xz at *
    refine wpAnyH_ready (rs := [5]) (by kernel_rfl) (by simp) ?_
    refine AllReadyH.cons (by simp only [List.getElem?_toArray, List.getElem?_cons_succ, List.getElem?_cons_zero]; rfl) (fun K hK => ?_) AllReadyH.nil
    obtain ⟨q0, q1, z0, z1⟩ := var2_facts VY.out
    go_simp
    have VF := hid (var2_set (x' := .int .i64 top2) (y' := .slice p2 ys.length c2) VY.out)
    have VG := hid (set2_other (x := .int .i64 top2) (y := .slice p2 ys.length c2) GG.out.2.2 VE.out)
    have VX2 := hid (set2_other (x := .int .i64 top2) (y := .slice p2 ys.length c2) (fun e => NRW.out.2 e.symm) VX.out)
    have OF := hid ((OE.out.setNz (g := gb) (i := 0) (x := .int .i64 top2) AA.out.2).setNz (g := gb) (i := 1) (x := .slice p2 ys.length c2) AA.out.2)
    have PF := hid ((PE.out.setNz (g := gb) (i := 0) (x := .int .i64 top2) AP.out.2).setNz (g := gb) (i := 1) (x := .slice p2 ys.length c2) AP.out.2)
    have SF := hid (wbel2 SE.out GG.out.2.1 (x := .int .i64 top2) (y := .slice p2 ys.length c2))
    refine hK.out _ _ ⟨(var2_facts VX2.out).1, (var2_facts VX2.out).2.1⟩ (fun hH => ?_)
    clear hK K q0 q1 z0 z1 OE PE VE VY VX SE
    generalize (xz.setCell ⟨gb, 0, none⟩ (.int .i64 top2)).setCell ⟨gb, 1, none⟩ (.slice p2 ys.length c2) = xy at *
    refine wpAnyH_done (by kernel_rfl) ?_ _
    go_wp2
    exact bodyPost_ret (v := .tuple #[.agg #[.int .i64 top, .slice pu xs.length cu], .agg #[.int .i64 top2, .slice p2 ys.length c2]]) (results_cc rfl _ _ ga gb 69 69 _ _ _ _ _ _ rfl rfl VG.out VF.out Try.underlying69 rfl (by kernel_rfl) Try.underlying69 rfl (by kernel_rfl)) rfl ⟨top, _, .slice pu xs.length cu, .slice p2 ys.length c2, xs, _, rfl, OF.out.rd, PF.out.rd, SF.out⟩
  · skip
    go_wp2
    obtain ⟨y0, y1, -, -⟩ := var2_facts VW.out
    refine wp_region_held_drew (S := fun w' => w'.cell? ⟨gw, 0, none⟩ = some (.int .i64 top) ∧ w'.cell? ⟨gw, 1, none⟩ = some (.slice pu xs.length cu)) (by kernel_rfl) ⟨y0, y1⟩ (fun hH => ?_)
    have VAd := hid (show x4.drew.heap[ga]? = some (.cells #[.int .i64 0, .slice none 0 0] 69) from VA.out)
    have VBd := hid (show x4.drew.heap[gb]? = some (.cells #[.int .i64 0, .slice none 0 0] 69) from VB.out)
    have VWd := hid (show x4.drew.heap[gw]? = some (.cells #[.int .i64 top, .slice pu xs.length cu] 69) from VW.out)
    have OLd := hid (show OwZ x4.drew x1.heap.size _ xs from OL.out.drewz)
    have Sd := hid (S.out.drewN 1)
    clear VA VB VW OL S y0 y1
    change Hid (Src x0 x4.drew gs _ l _) at Sd
    generalize x4.drew = x at *
    have VA := VAd
    have VB := VBd
    have VW := VWd
    have OL := OLd
    have S := Sd
    clear VAd VBd VWd OLd Sd
    refine wpAnyH_take (i := 0) (v := .agg #[.int .i64 top, .slice pu xs.length cu]) (by simp only [List.getElem?_toArray, List.getElem?_cons_zero]; rfl) (by kernel_rfl) (by kernel_rfl) (by kernel_rfl) (by intro _ _ _ h; exact h) (Or.inl ⟨by rfl, fun w hS => by (have y0 := hS.1; have y1 := hS.2; go_simp)⟩) hH ?_
    simp only [Act.put, List.setIfInBounds_toArray, List.set_cons_zero, List.set_cons_succ]
    refine wpAnyH_take (i := 1) (v := .pointer (some ⟨gw, 0, none⟩)) (by simp only [List.getElem?_toArray, List.getElem?_cons_succ, List.getElem?_cons_zero]; rfl) (by kernel_rfl) (by kernel_rfl) (by kernel_rfl) (by intro _ _ _ h; exact h) (Or.inl ⟨by rfl, fun w hS => by go_simp⟩) hH ?_
    simp only [Act.put, List.setIfInBounds_toArray, List.set_cons_zero, List.set_cons_succ]
    refine wpAnyH_take (i := 2) (v := .int .i64 top) (by simp only [List.getElem?_toArray, List.getElem?_cons_succ, List.getElem?_cons_zero]; rfl) (by kernel_rfl) (by kernel_rfl) (by kernel_rfl) (by intro _ _ _ h; exact h) (Or.inl ⟨by rfl, fun w hS => by (have y0 := hS.1; go_simp)⟩) hH ?_
    simp only [Act.put, List.setIfInBounds_toArray, List.set_cons_zero, List.set_cons_succ]
    refine wpAnyH_take (i := 3) (v := .pointer (some ⟨gw, 1, none⟩)) (by simp only [List.getElem?_toArray, List.getElem?_cons_succ, List.getElem?_cons_zero]; rfl) (by kernel_rfl) (by kernel_rfl) (by kernel_rfl) (by intro _ _ _ h; exact h) (Or.inl ⟨by rfl, fun w hS => by go_simp⟩) hH ?_
    simp only [Act.put, List.setIfInBounds_toArray, List.set_cons_zero, List.set_cons_succ]
    refine wpAnyH_take (i := 4) (v := .slice pu xs.length cu) (by simp only [List.getElem?_toArray, List.getElem?_cons_succ, List.getElem?_cons_zero]; rfl) (by kernel_rfl) (by kernel_rfl) (by kernel_rfl) (by intro _ _ _ h; exact h) (Or.inl ⟨by rfl, fun w hS => by (have y1 := hS.2; go_simp)⟩) hH ?_
    simp only [Act.put, List.setIfInBounds_toArray, List.set_cons_zero, List.set_cons_succ]
    refine wpAnyH_ready (rs := [5]) (by kernel_rfl) (by simp) ?_
    refine AllReadyH.cons (by simp only [List.getElem?_toArray, List.getElem?_cons_succ, List.getElem?_cons_zero]; rfl) (fun K hK => ?_) AllReadyH.nil
    go_simp
    refine (l1i _ xs _ OL.out.rd (by have := WL.out; omega)).mono ?_
    rintro e xb ⟨u2, rfl, hO, hM⟩
    obtain ⟨p2, c2, rfl, -, -, -⟩ := hO.rd.parts
    have LP := hid (show ga < x.heap.size ∧ gb < x.heap.size from ⟨var_lt VA.out, var_lt VB.out⟩)
    have OP := hid hO
    have AP := hid (show (∀ b, (Value.slice p2 xs.length c2).ownBlock = some b → b ≠ ga) ∧ (∀ b, (Value.slice p2 xs.length c2).ownBlock = some b → b ≠ gb) from ⟨fun b e => by have := (OP.out.lt b e).1; have := LP.out; omega, fun b e => by have := (OP.out.lt b e).1; have := LP.out; omega⟩)
    have BX := hid ((B0.out.trans (S.out.bel.mono B0.out.size)).trans (hM.mono (by have := B0.out.size; have := S.out.bel.size; omega)))
    replace OL := hid (OL.out.below hM)
    replace VA := hid (var_below hM VA.out)
    replace VB := hid (var_below hM VB.out)
    replace VW := hid (var_below hM VW.out)
    refine hK.out _ _ ⟨(var2_facts VW.out).1, (var2_facts VW.out).2.1⟩ (fun hH => ?_)
    clear hK K hO hM S
    refine wpAnyH_take (i := 6) (v := .agg #[.int .i64 top, .slice p2 xs.length c2]) (by simp only [List.getElem?_toArray, List.getElem?_cons_succ, List.getElem?_cons_zero]; rfl) (by kernel_rfl) (by kernel_rfl) (by kernel_rfl) (by intro _ _ _ h; exact h) (Or.inl ⟨by rfl, fun w hS => by go_simp⟩) hH ?_
    simp only [Act.put, List.setIfInBounds_toArray, List.set_cons_zero, List.set_cons_succ]
    refine wpAnyH_ready (rs := [7]) (by kernel_rfl) (by simp) ?_
    refine AllReadyH.cons (by simp only [List.getElem?_toArray, List.getElem?_cons_succ, List.getElem?_cons_zero]; rfl) (fun K hK => ?_) AllReadyH.nil
    obtain ⟨q0, q1, z0, z1⟩ := var2_facts VA.out
    go_simp
    have VE := hid (var2_set (x' := .int .i64 top) (y' := .slice pu xs.length cu) VA.out)
    have VY := hid (set2_other (x := .int .i64 top) (y := .slice pu xs.length cu) (fun e => GG.out.2.2 e.symm) VB.out)
    have VX := hid (set2_other (x := .int .i64 top) (y := .slice pu xs.length cu) (fun e => NRW.out.1 e.symm) VW.out)
    have OE := hid ((OL.out.setNz (g := ga) (i := 0) (x := .int .i64 top) AA.out.1).setNz (g := ga) (i := 1) (x := .slice pu xs.length cu) AA.out.1)
    have PE := hid ((OP.out.setNz (g := ga) (i := 0) (x := .int .i64 top) AP.out.1).setNz (g := ga) (i := 1) (x := .slice pu xs.length cu) AP.out.1)
    have SE := hid (wbel2 BX.out GG.out.1 (x := .int .i64 top) (y := .slice pu xs.length cu))
    refine hK.out _ _ ⟨(var2_facts VX.out).1, (var2_facts VX.out).2.1⟩ (fun hH => ?_)
    clear hK K q0 q1 z0 z1 OL OP VA VB VW BX
    generalize (xb.setCell ⟨ga, 0, none⟩ (.int .i64 top)).setCell ⟨ga, 1, none⟩ (.slice pu xs.length cu) = xz at *
    refine wpAnyH_ready (rs := [8]) (by kernel_rfl) (by simp) ?_
    refine AllReadyH.cons (by simp only [List.getElem?_toArray, List.getElem?_cons_succ, List.getElem?_cons_zero]; rfl) (fun K hK => ?_) AllReadyH.nil
    obtain ⟨q0, q1, z0, z1⟩ := var2_facts VY.out
    go_simp
    have VF := hid (var2_set (x' := .int .i64 top) (y' := .slice p2 xs.length c2) VY.out)
    have VG := hid (set2_other (x := .int .i64 top) (y := .slice p2 xs.length c2) GG.out.2.2 VE.out)
    have VX2 := hid (set2_other (x := .int .i64 top) (y := .slice p2 xs.length c2) (fun e => NRW.out.2 e.symm) VX.out)
    have OF := hid ((OE.out.setNz (g := gb) (i := 0) (x := .int .i64 top) AA.out.2).setNz (g := gb) (i := 1) (x := .slice p2 xs.length c2) AA.out.2)
    have PF := hid ((PE.out.setNz (g := gb) (i := 0) (x := .int .i64 top) AP.out.2).setNz (g := gb) (i := 1) (x := .slice p2 xs.length c2) AP.out.2)
    have SF := hid (wbel2 SE.out GG.out.2.1 (x := .int .i64 top) (y := .slice p2 xs.length c2))
    refine hK.out _ _ ⟨(var2_facts VX2.out).1, (var2_facts VX2.out).2.1⟩ (fun hH => ?_)
    clear hK K q0 q1 z0 z1 OE PE VE VY VX SE
    generalize (xz.setCell ⟨gb, 0, none⟩ (.int .i64 top)).setCell ⟨gb, 1, none⟩ (.slice p2 xs.length c2) = xy at *
    refine wpAnyH_done (by kernel_rfl) ?_ _
    go_wp2
    exact bodyPost_ret (v := .tuple #[.agg #[.int .i64 top, .slice pu xs.length cu], .agg #[.int .i64 top, .slice p2 xs.length c2]]) (results_cc rfl _ _ ga gb 69 69 _ _ _ _ _ _ rfl rfl VG.out VF.out Try.underlying69 rfl (by kernel_rfl) Try.underlying69 rfl (by kernel_rfl)) rfl ⟨top, _, .slice pu xs.length cu, .slice p2 xs.length c2, xs, _, rfl, OF.out.rd, PF.out.rd, SF.out⟩
end Go.Proofs.Ytalaolfcdaaaoaa.W
