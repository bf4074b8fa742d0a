/-
  How a view and a wait are drawn for BuryBy. Generated text.
-/
import Derived.Test.YtalaolfcdaaaoaaDrawVw
import Derived.Test.YtalaolfcdaaaoaaDrawWt
namespace Go.Proofs.Ytalaolfcdaaaoaa.W
open Go.ChangeShapes Go.WideShapes Go.ChangeAt Go.RowKit
open Go.Proofs.Ytalaolfcdaaaoaa.M

theorem OwC.setN {w : World} {base g i : Nat} {v x : Value} {cs : List Clm} (h : OwC w base v cs) (hg : ∀ b, v.ownBlock = some b → b ≠ g) : OwC (w.setCell ⟨g, i, none⟩ x) base v cs :=
  h.kept (set_grown w g i x) (by
    cases e : v.ownBlock with
    | none => exact .inl rfl
    | some b => exact .inr (fun q => hg b e (Option.some.inj q)))
theorem results_tcW {P : Program} {fn : Func} {p q : Tmp} {ty' : TypeId} (h : fn.results = #[.tmp p, .cell q ty']) (tmps : Array Value) (w : World) (x : Value) (g' : Nat) (t' : TypeId) (cs' : Array Value) (fr' : Nat × Nat) (d' : TypeDesc)
    (hp : tmps.getD p undef = x) (hq : tmps.getD q undef = .pointer (some ⟨g', 0, none⟩)) (hg' : w.heap[g']? = some (.cells cs' t' fr'))
    (hu' : P.underlying ty' = some d') (hd' : (match d' with | .struct _ | .array _ _ => true | _ => false) = true) (hi' : (P.info? ty').map (·.size) = some cs'.size) :
    (results fn tmps).run P w = .ok (.tuple #[x, .agg cs']) w := by
  have hp' : tmps[p]?.getD undef = x := by simpa using hp
  have hq' : tmps[q]?.getD undef = .pointer (some ⟨g', 0, none⟩) := by simpa using hq
  simp [results, h, hp', hq', asAddr, run_loadVar_row w g' t' ty' cs' fr' d' hg' hu' hd' hi']
set_option maxHeartbeats 4000000 in
set_option maxRecDepth 100000 in
theorem drBu (v : Value) (l : List Nat) (w : World) (h : Rd w v l) (y : Byt l) (hl : l.length ≤ 1048576) :
    Calls Try.prog 33 #[v] w fun e w' => ∃ (u : Value) (cs : List Clm) (x : Wai), e = .returned (.tuple #[u, .agg #[.int .i64 x.a, .int .i64 x.b, .int .i64 x.c, .int .i64 x.d, .int .i64 x.e, .int .i64 x.f, .int .i64 x.g]]) ∧ RdC w' u cs ∧ cs.length ≤ 8 ∧ Below w.heap.size w w' := by
  have RC := hid h
  obtain ⟨q, cap, rfl, -, -, -⟩ := h.parts
  clear h
  have VB := hid (heap_alloc_new w (.cells #[.int .i64 0, .int .i64 0, .int .i64 0, .int .i64 0, .int .i64 0, .int .i64 0, .int .i64 0] 63))
  have BB := hid (below_alloc1 w (.cells #[.int .i64 0, .int .i64 0, .int .i64 0, .int .i64 0, .int .i64 0, .int .i64 0, .int .i64 0] 63))
  go_enter Try.func33, Try.ntmps33
  go_wp2_with fail
  generalize w.alloc (.cells #[.int .i64 0, .int .i64 0, .int .i64 0, .int .i64 0, .int .i64 0, .int .i64 0, .int .i64 0] 63) = w0 at *
  obtain ⟨gb, hgb⟩ : ∃ g, g = w.heap.size := ⟨_, rfl⟩
  rw [← hgb] at VB ⊢
  have GB := hid (show w.heap.size ≤ gb by omega)
  clear hgb
  have LB := hid (var_lt VB.out)
  refine (source _ l w0 (RC.out.below BB.out) y).mono ?_
  rintro e w1 ⟨rfl, hS⟩
  have S := hid hS
  replace VB := hid (var_below hS.bel VB.out)
  clear hS
  obtain ⟨gs, hgs⟩ : ∃ g, g = w0.heap.size := ⟨_, rfl⟩
  have GS0 := hid (show w0.heap.size ≤ gs by omega)
  rw [← hgs] at S LB ⊢
  clear hgs
  go_wp2_with fail
  refine (l8b w0 w1 gs _ l 0 S.out (by omega) hl).mono ?_
  rintro e w2 ⟨u, cs, t1, rfl, hO, hc, ht1, hS, hG⟩
  obtain ⟨pu, cu, rfl, -, -, -⟩ := hO.rd.parts
  have GS := hid (show gs < w1.heap.size from var_lt S.out.cells)
  have GZ := hid (show w0.heap.size ≤ w1.heap.size from S.out.bel.size)
  have OL := hid hO
  replace S := hid hS
  replace VB := hid (var_grown hG VB.out (fun e => by have := Option.some.inj e; have := LB.out; omega))
  clear hO hS hG
  obtain ⟨base, hbase⟩ : ∃ b, b = w1.heap.size := ⟨_, rfl⟩
  rw [← hbase] at OL GS GZ
  clear hbase
  have LBb := hid (show gb < base by have := LB.out; have := GS.out; omega)
  go_wp2_with fail
  refine (l9d w0 w2 gs _ l t1 S.out (by omega) hl).mono ?_
  rintro e w3 ⟨x, rfl, ⟨t2, ht2, hS⟩, hG⟩
  replace S := hid hS
  replace OL := hid (OL.out.keepG hG GS.out)
  replace VB := hid (var_grown hG VB.out (fun e => by have := Option.some.inj e; have := LB.out; omega))
  clear hS hG
  have tb : t2 ≤ 60 := by omega
  clear ht1 ht2
  have VX := hid (heap_alloc_new w3 (.cells #[.int .i64 x.a, .int .i64 x.b, .int .i64 x.c, .int .i64 x.d, .int .i64 x.e, .int .i64 x.f, .int .i64 x.g] 63))
  have OB := hid (show ∀ b, (Value.slice pu cs.length cu).ownBlock = some b → b < w3.heap.size from fun b e => (OL.out.lt b e).2)
  have GX0 := hid (show gs < w3.heap.size ∧ gb < w3.heap.size ∧ w0.heap.size ≤ w3.heap.size by have := var_lt S.out.cells; have := var_lt VB.out; have := S.out.bel.size; omega)
  have hA := below_alloc1 w3 (.cells #[.int .i64 x.a, .int .i64 x.b, .int .i64 x.c, .int .i64 x.d, .int .i64 x.e, .int .i64 x.f, .int .i64 x.g] 63)
  replace S := hid (S.out.later hA)
  replace OL := hid (OL.out.below hA)
  replace VB := hid (var_below hA VB.out)
  clear hA
  have HL0 := hid hc
  by_cases h0 : cs.length = 0
  case pos =>
    have l1 : ¬ ((0 : Int) < (cs.length : Int)) := by omega
    have l2 : cs = [] := List.eq_nil_of_length_eq_zero h0
    replace h0 := hid h0
    replace l2 := hid l2
    have l3 : decide (0 < cs.length) = false := by rw [l2.out]; rfl
    go_wp2_with fail
    generalize w3.alloc (.cells #[.int .i64 x.a, .int .i64 x.b, .int .i64 x.c, .int .i64 x.d, .int .i64 x.e, .int .i64 x.f, .int .i64 x.g] 63) = w4 at *
    obtain ⟨gX, hgX⟩ : ∃ g, g = w3.heap.size := ⟨_, rfl⟩
    rw [← hgX] at VX OB GX0 ⊢
    clear hgX
    obtain ⟨x9, hx9⟩ : ∃ z : Wai, z = x := ⟨_, rfl⟩
    have VX9 := hid (show w4.heap[gX]? = some (.cells #[.int .i64 x9.a, .int .i64 x9.b, .int .i64 x9.c, .int .i64 x9.d, .int .i64 x9.e, .int .i64 x9.f, .int .i64 x9.g] 63) by rw [hx9]; exact VX.out)
    clear VX hx9
    have VX := VX9
    clear VX9
    refine (chance w0 w4 gs _ l t2 14 S.out (by omega) (by omega) hl).mono ?_
    rintro e wa ⟨r, rfl, hS, hG⟩
    replace S := hid hS
    replace OL := hid (OL.out.keepG hG GS.out)
    replace VB := hid (var_grown hG VB.out (fun e => by have := Option.some.inj e; have := LB.out; omega))
    replace VX := hid (var_grown hG VX.out (fun e => by have := Option.some.inj e; have := GX0.out; omega))
    clear hS hG
    obtain ⟨⟨y0, y1, y2, y3, y4, y5, y6⟩, f0, f1, f2, f3, f4, f5, f6⟩ := v7_facts VX.out
    cases r
    · go_wp2_with fail
      clear y0 y1 y2 y3 y4 y5 y6 f0 f1 f2 f3 f4 f5 f6
      have BF := hid (BB.out.trans (S.out.bel.mono BB.out.size))
      refine wp_region_held_drew (S := fun w' => Below w.heap.size w w' ∧ w'.heap[gX]? = some (.cells #[.int .i64 x9.a, .int .i64 x9.b, .int .i64 x9.c, .int .i64 x9.d, .int .i64 x9.e, .int .i64 x9.f, .int .i64 x9.g] 63)) (by kernel_rfl) ⟨BF.out.drew, VX.out⟩ (fun hH => ?_)
      have VBD := hid (show wa.drew.heap[gb]? = some (.cells #[.int .i64 0, .int .i64 0, .int .i64 0, .int .i64 0, .int .i64 0, .int .i64 0, .int .i64 0] 63) from VB.out)
      have OLD := hid (show OwC wa.drew base (.slice pu cs.length cu) cs from OL.out)
      clear VB OL VX S BF BB
      generalize wa.drew = z at hH VBD OLD ⊢
      refine wpAnyH_take (i := 0) (v := .slice pu cs.length cu) (by simp only [List.getElem?_toArray, List.getElem?_cons_zero]; rfl) (by kernel_rfl) (by kernel_rfl) (by kernel_rfl) (by intro _ _ _ h; exact h) (Or.inl ⟨by rfl, fun w hS => by go_simp⟩) hH ?_
      simp only [Act.put, List.setIfInBounds_toArray, List.set_cons_zero, List.set_cons_succ]
      refine wpAnyH_take (i := 1) (v := .agg #[.int .i64 x9.a, .int .i64 x9.b, .int .i64 x9.c, .int .i64 x9.d, .int .i64 x9.e, .int .i64 x9.f, .int .i64 x9.g]) (by simp only [List.getElem?_toArray, List.getElem?_cons_succ, List.getElem?_cons_zero]; rfl) (by kernel_rfl) (by kernel_rfl) (by kernel_rfl) (by intro _ _ _ h; exact h) (Or.inl ⟨by rfl, fun w hS => by (obtain ⟨⟨y0, y1, y2, y3, y4, y5, y6⟩, -⟩ := v7_facts hS.2; clear hS; go_simp)⟩) hH ?_
      simp only [Act.put, List.setIfInBounds_toArray, List.set_cons_zero, List.set_cons_succ]
      refine wpAnyH_take (i := 2) (v := .slice pu cs.length cu) (by simp only [List.getElem?_toArray, List.getElem?_cons_succ, List.getElem?_cons_zero]; rfl) (by kernel_rfl) (by kernel_rfl) (by kernel_rfl) (by intro _ _ _ h; exact h) (Or.inl ⟨by rfl, fun w hS => by go_simp⟩) hH ?_
      simp only [Act.put, List.setIfInBounds_toArray, List.set_cons_zero, List.set_cons_succ]
      refine wpAnyH_ready (rs := [3]) (by kernel_rfl) (by simp) ?_
      refine AllReadyH.cons (by simp only [List.getElem?_toArray, List.getElem?_cons_succ, List.getElem?_cons_zero]; rfl) (fun K hK => ?_) AllReadyH.nil
      obtain ⟨⟨u0, u1, u2, u3, u4, u5, u6⟩, z0, z1, z2, z3, z4, z5, z6⟩ := v7_facts VBD.out
      go_simp
      have VE := hid (v7_set (y0 := .int .i64 x9.a) (y1 := .int .i64 x9.b) (y2 := .int .i64 x9.c) (y3 := .int .i64 x9.d) (y4 := .int .i64 x9.e) (y5 := .int .i64 x9.f) (y6 := .int .i64 x9.g) VBD.out)
      have SN := hid (show Below w.heap.size w (((((((z.setCell ⟨gb, 0, none⟩ (.int .i64 x9.a)).setCell ⟨gb, 1, none⟩ (.int .i64 x9.b)).setCell ⟨gb, 2, none⟩ (.int .i64 x9.c)).setCell ⟨gb, 3, none⟩ (.int .i64 x9.d)).setCell ⟨gb, 4, none⟩ (.int .i64 x9.e)).setCell ⟨gb, 5, none⟩ (.int .i64 x9.f)).setCell ⟨gb, 6, none⟩ (.int .i64 x9.g)) ∧ (((((((z.setCell ⟨gb, 0, none⟩ (.int .i64 x9.a)).setCell ⟨gb, 1, none⟩ (.int .i64 x9.b)).setCell ⟨gb, 2, none⟩ (.int .i64 x9.c)).setCell ⟨gb, 3, none⟩ (.int .i64 x9.d)).setCell ⟨gb, 4, none⟩ (.int .i64 x9.e)).setCell ⟨gb, 5, none⟩ (.int .i64 x9.f)).setCell ⟨gb, 6, none⟩ (.int .i64 x9.g)).heap[gX]? = some (.cells #[.int .i64 x9.a, .int .i64 x9.b, .int .i64 x9.c, .int .i64 x9.d, .int .i64 x9.e, .int .i64 x9.f, .int .i64 x9.g] 63) from ⟨v7_below hH.1 GB.out, (v7_other (by have := GX0.out; omega)).trans hH.2⟩)
      have OE := hid (show OwC (((((((z.setCell ⟨gb, 0, none⟩ (.int .i64 x9.a)).setCell ⟨gb, 1, none⟩ (.int .i64 x9.b)).setCell ⟨gb, 2, none⟩ (.int .i64 x9.c)).setCell ⟨gb, 3, none⟩ (.int .i64 x9.d)).setCell ⟨gb, 4, none⟩ (.int .i64 x9.e)).setCell ⟨gb, 5, none⟩ (.int .i64 x9.f)).setCell ⟨gb, 6, none⟩ (.int .i64 x9.g)) base (.slice pu cs.length cu) cs from (OwC.setN (g := gb) (i := 6) (x := .int .i64 x9.g) (OwC.setN (g := gb) (i := 5) (x := .int .i64 x9.f) (OwC.setN (g := gb) (i := 4) (x := .int .i64 x9.e) (OwC.setN (g := gb) (i := 3) (x := .int .i64 x9.d) (OwC.setN (g := gb) (i := 2) (x := .int .i64 x9.c) (OwC.setN (g := gb) (i := 1) (x := .int .i64 x9.b) (OwC.setN (g := gb) (i := 0) (x := .int .i64 x9.a) OLD.out (fun b e => by have := OLD.out.lt b e; have := LBb.out; omega)) (fun b e => by have := OLD.out.lt b e; have := LBb.out; omega)) (fun b e => by have := OLD.out.lt b e; have := LBb.out; omega)) (fun b e => by have := OLD.out.lt b e; have := LBb.out; omega)) (fun b e => by have := OLD.out.lt b e; have := LBb.out; omega)) (fun b e => by have := OLD.out.lt b e; have := LBb.out; omega)) (fun b e => by have := OLD.out.lt b e; have := LBb.out; omega)))
      refine hK.out _ _ SN.out (fun hH => ?_)
      clear hK K SN VBD OLD u0 u1 u2 u3 u4 u5 u6 z0 z1 z2 z3 z4 z5 z6
      generalize ((((((z.setCell ⟨gb, 0, none⟩ (.int .i64 x9.a)).setCell ⟨gb, 1, none⟩ (.int .i64 x9.b)).setCell ⟨gb, 2, none⟩ (.int .i64 x9.c)).setCell ⟨gb, 3, none⟩ (.int .i64 x9.d)).setCell ⟨gb, 4, none⟩ (.int .i64 x9.e)).setCell ⟨gb, 5, none⟩ (.int .i64 x9.f)).setCell ⟨gb, 6, none⟩ (.int .i64 x9.g) = zE at *
      refine wpAnyH_done (by kernel_rfl) ?_ _
      have BE := hid hH.1
      clear hH
      go_wp2
      exact bodyPost_ret (v := .tuple #[.slice pu cs.length cu, .agg #[.int .i64 x9.a, .int .i64 x9.b, .int .i64 x9.c, .int .i64 x9.d, .int .i64 x9.e, .int .i64 x9.f, .int .i64 x9.g]]) (results_tcW rfl _ _ (.slice pu cs.length cu) gb 63 _ _ _ rfl rfl VE.out Try.underlying63 rfl (by kernel_rfl)) rfl ⟨.slice pu cs.length cu, cs, x9, rfl, OE.out.rd, HL0.out, BE.out⟩
    · have VX2 := hid (show (wa.setCell ⟨gX, 4, none⟩ (.int .i64 0)).heap[gX]? = some (.cells #[.int .i64 (⟨x9.a, x9.b, x9.c, x9.d, 0, x9.f, x9.g⟩ : Wai).a, .int .i64 (⟨x9.a, x9.b, x9.c, x9.d, 0, x9.f, x9.g⟩ : Wai).b, .int .i64 (⟨x9.a, x9.b, x9.c, x9.d, 0, x9.f, x9.g⟩ : Wai).c, .int .i64 (⟨x9.a, x9.b, x9.c, x9.d, 0, x9.f, x9.g⟩ : Wai).d, .int .i64 (⟨x9.a, x9.b, x9.c, x9.d, 0, x9.f, x9.g⟩ : Wai).e, .int .i64 (⟨x9.a, x9.b, x9.c, x9.d, 0, x9.f, x9.g⟩ : Wai).f, .int .i64 (⟨x9.a, x9.b, x9.c, x9.d, 0, x9.f, x9.g⟩ : Wai).g] 63) by simpa using heap_setCell_same wa gX 4 _ _ (.int .i64 0) VX.out)
      replace S := hid (src_set (i := 4) S.out (by have := GX0.out; omega) GX0.out.2.2 (.int .i64 0))
      replace VB := hid (var_setT9 (k := gX) (i := 4) (x := .int .i64 0) VB.out (by have := GX0.out; omega))
      replace OL := hid (OL.out.setN (g := gX) (i := 4) (x := .int .i64 0) (fun b e => by have := OB.out b e; omega))
      go_wp2_with fail
      clear y0 y1 y2 y3 y4 y5 y6 f0 f1 f2 f3 f4 f5 f6 VX
      generalize wa.setCell ⟨gX, 4, none⟩ (.int .i64 0) = wb at *
      obtain ⟨x8, hx8⟩ : ∃ x : Wai, x = ⟨x9.a, x9.b, x9.c, x9.d, 0, x9.f, x9.g⟩ := ⟨_, rfl⟩
      have VX := hid (show wb.heap[gX]? = some (.cells #[.int .i64 x8.a, .int .i64 x8.b, .int .i64 x8.c, .int .i64 x8.d, .int .i64 x8.e, .int .i64 x8.f, .int .i64 x8.g] 63) by rw [hx8]; exact VX2.out)
      clear VX2 hx8
      have BF := hid (BB.out.trans (S.out.bel.mono BB.out.size))
      refine wp_region_held_drew (S := fun w' => Below w.heap.size w w' ∧ w'.heap[gX]? = some (.cells #[.int .i64 x8.a, .int .i64 x8.b, .int .i64 x8.c, .int .i64 x8.d, .int .i64 x8.e, .int .i64 x8.f, .int .i64 x8.g] 63)) (by kernel_rfl) ⟨BF.out.drew, VX.out⟩ (fun hH => ?_)
      have VBD := hid (show wb.drew.heap[gb]? = some (.cells #[.int .i64 0, .int .i64 0, .int .i64 0, .int .i64 0, .int .i64 0, .int .i64 0, .int .i64 0] 63) from VB.out)
      have OLD := hid (show OwC wb.drew base (.slice pu cs.length cu) cs from OL.out)
      clear VB OL VX S BF BB
      generalize wb.drew = z at hH VBD OLD ⊢
      refine wpAnyH_take (i := 0) (v := .slice pu cs.length cu) (by simp only [List.getElem?_toArray, List.getElem?_cons_zero]; rfl) (by kernel_rfl) (by kernel_rfl) (by kernel_rfl) (by intro _ _ _ h; exact h) (Or.inl ⟨by rfl, fun w hS => by go_simp⟩) hH ?_
      simp only [Act.put, List.setIfInBounds_toArray, List.set_cons_zero, List.set_cons_succ]
      refine wpAnyH_take (i := 1) (v := .agg #[.int .i64 x8.a, .int .i64 x8.b, .int .i64 x8.c, .int .i64 x8.d, .int .i64 x8.e, .int .i64 x8.f, .int .i64 x8.g]) (by simp only [List.getElem?_toArray, List.getElem?_cons_succ, List.getElem?_cons_zero]; rfl) (by kernel_rfl) (by kernel_rfl) (by kernel_rfl) (by intro _ _ _ h; exact h) (Or.inl ⟨by rfl, fun w hS => by (obtain ⟨⟨y0, y1, y2, y3, y4, y5, y6⟩, -⟩ := v7_facts hS.2; clear hS; go_simp)⟩) hH ?_
      simp only [Act.put, List.setIfInBounds_toArray, List.set_cons_zero, List.set_cons_succ]
      refine wpAnyH_take (i := 2) (v := .slice pu cs.length cu) (by simp only [List.getElem?_toArray, List.getElem?_cons_succ, List.getElem?_cons_zero]; rfl) (by kernel_rfl) (by kernel_rfl) (by kernel_rfl) (by intro _ _ _ h; exact h) (Or.inl ⟨by rfl, fun w hS => by go_simp⟩) hH ?_
      simp only [Act.put, List.setIfInBounds_toArray, List.set_cons_zero, List.set_cons_succ]
      refine wpAnyH_ready (rs := [3]) (by kernel_rfl) (by simp) ?_
      refine AllReadyH.cons (by simp only [List.getElem?_toArray, List.getElem?_cons_succ, List.getElem?_cons_zero]; rfl) (fun K hK => ?_) AllReadyH.nil
      obtain ⟨⟨u0, u1, u2, u3, u4, u5, u6⟩, z0, z1, z2, z3, z4, z5, z6⟩ := v7_facts VBD.out
      go_simp
      have VE := hid (v7_set (y0 := .int .i64 x8.a) (y1 := .int .i64 x8.b) (y2 := .int .i64 x8.c) (y3 := .int .i64 x8.d) (y4 := .int .i64 x8.e) (y5 := .int .i64 x8.f) (y6 := .int .i64 x8.g) VBD.out)
      have SN := hid (show Below w.heap.size w (((((((z.setCell ⟨gb, 0, none⟩ (.int .i64 x8.a)).setCell ⟨gb, 1, none⟩ (.int .i64 x8.b)).setCell ⟨gb, 2, none⟩ (.int .i64 x8.c)).setCell ⟨gb, 3, none⟩ (.int .i64 x8.d)).setCell ⟨gb, 4, none⟩ (.int .i64 x8.e)).setCell ⟨gb, 5, none⟩ (.int .i64 x8.f)).setCell ⟨gb, 6, none⟩ (.int .i64 x8.g)) ∧ (((((((z.setCell ⟨gb, 0, none⟩ (.int .i64 x8.a)).setCell ⟨gb, 1, none⟩ (.int .i64 x8.b)).setCell ⟨gb, 2, none⟩ (.int .i64 x8.c)).setCell ⟨gb, 3, none⟩ (.int .i64 x8.d)).setCell ⟨gb, 4, none⟩ (.int .i64 x8.e)).setCell ⟨gb, 5, none⟩ (.int .i64 x8.f)).setCell ⟨gb, 6, none⟩ (.int .i64 x8.g)).heap[gX]? = some (.cells #[.int .i64 x8.a, .int .i64 x8.b, .int .i64 x8.c, .int .i64 x8.d, .int .i64 x8.e, .int .i64 x8.f, .int .i64 x8.g] 63) from ⟨v7_below hH.1 GB.out, (v7_other (by have := GX0.out; omega)).trans hH.2⟩)
      have OE := hid (show OwC (((((((z.setCell ⟨gb, 0, none⟩ (.int .i64 x8.a)).setCell ⟨gb, 1, none⟩ (.int .i64 x8.b)).setCell ⟨gb, 2, none⟩ (.int .i64 x8.c)).setCell ⟨gb, 3, none⟩ (.int .i64 x8.d)).setCell ⟨gb, 4, none⟩ (.int .i64 x8.e)).setCell ⟨gb, 5, none⟩ (.int .i64 x8.f)).setCell ⟨gb, 6, none⟩ (.int .i64 x8.g)) base (.slice pu cs.length cu) cs from (OwC.setN (g := gb) (i := 6) (x := .int .i64 x8.g) (OwC.setN (g := gb) (i := 5) (x := .int .i64 x8.f) (OwC.setN (g := gb) (i := 4) (x := .int .i64 x8.e) (OwC.setN (g := gb) (i := 3) (x := .int .i64 x8.d) (OwC.setN (g := gb) (i := 2) (x := .int .i64 x8.c) (OwC.setN (g := gb) (i := 1) (x := .int .i64 x8.b) (OwC.setN (g := gb) (i := 0) (x := .int .i64 x8.a) OLD.out (fun b e => by have := OLD.out.lt b e; have := LBb.out; omega)) (fun b e => by have := OLD.out.lt b e; have := LBb.out; omega)) (fun b e => by have := OLD.out.lt b e; have := LBb.out; omega)) (fun b e => by have := OLD.out.lt b e; have := LBb.out; omega)) (fun b e => by have := OLD.out.lt b e; have := LBb.out; omega)) (fun b e => by have := OLD.out.lt b e; have := LBb.out; omega)) (fun b e => by have := OLD.out.lt b e; have := LBb.out; omega)))
      refine hK.out _ _ SN.out (fun hH => ?_)
      clear hK K SN VBD OLD u0 u1 u2 u3 u4 u5 u6 z0 z1 z2 z3 z4 z5 z6
      generalize ((((((z.setCell ⟨gb, 0, none⟩ (.int .i64 x8.a)).setCell ⟨gb, 1, none⟩ (.int .i64 x8.b)).setCell ⟨gb, 2, none⟩ (.int .i64 x8.c)).setCell ⟨gb, 3, none⟩ (.int .i64 x8.d)).setCell ⟨gb, 4, none⟩ (.int .i64 x8.e)).setCell ⟨gb, 5, none⟩ (.int .i64 x8.f)).setCell ⟨gb, 6, none⟩ (.int .i64 x8.g) = zE at *
      refine wpAnyH_done (by kernel_rfl) ?_ _
      have BE := hid hH.1
      clear hH
      go_wp2
      exact bodyPost_ret (v := .tuple #[.slice pu cs.length cu, .agg #[.int .i64 x8.a, .int .i64 x8.b, .int .i64 x8.c, .int .i64 x8.d, .int .i64 x8.e, .int .i64 x8.f, .int .i64 x8.g]]) (results_tcW rfl _ _ (.slice pu cs.length cu) gb 63 _ _ _ rfl rfl VE.out Try.underlying63 rfl (by kernel_rfl)) rfl ⟨.slice pu cs.length cu, cs, x8, rfl, OE.out.rd, HL0.out, BE.out⟩
  have l1 : (0 : Int) < (cs.length : Int) := by omega
  go_wp2_with fail
  generalize w3.alloc (.cells #[.int .i64 x.a, .int .i64 x.b, .int .i64 x.c, .int .i64 x.d, .int .i64 x.e, .int .i64 x.f, .int .i64 x.g] 63) = w4 at *
  obtain ⟨gX, hgX⟩ : ∃ g, g = w3.heap.size := ⟨_, rfl⟩
  rw [← hgX] at VX OB GX0 ⊢
  clear hgX
  refine (chance w0 w4 gs _ l t2 3 S.out (by omega) (by omega) hl).mono ?_
  rintro e w5 ⟨r, rfl, hS, hG⟩
  replace S := hid hS
  replace OL := hid (OL.out.keepG hG GS.out)
  replace VB := hid (var_grown hG VB.out (fun e => by have := Option.some.inj e; have := LB.out; omega))
  replace VX := hid (var_grown hG VX.out (fun e => by have := Option.some.inj e; have := GX0.out; omega))
  clear hS hG
  cases r
  case true =>
    obtain ⟨x9, hx9⟩ : ∃ z : Wai, z = x := ⟨_, rfl⟩
    have VX9 := hid (show w5.heap[gX]? = some (.cells #[.int .i64 x9.a, .int .i64 x9.b, .int .i64 x9.c, .int .i64 x9.d, .int .i64 x9.e, .int .i64 x9.f, .int .i64 x9.g] 63) by rw [hx9]; exact VX.out)
    clear VX hx9
    have VX := VX9
    clear VX9
    go_wp2_with fail
    refine (chance w0 w5 gs _ l (t2 + 1) 14 S.out (by omega) (by omega) hl).mono ?_
    rintro e wa ⟨r, rfl, hS, hG⟩
    replace S := hid hS
    replace OL := hid (OL.out.keepG hG GS.out)
    replace VB := hid (var_grown hG VB.out (fun e => by have := Option.some.inj e; have := LB.out; omega))
    replace VX := hid (var_grown hG VX.out (fun e => by have := Option.some.inj e; have := GX0.out; omega))
    clear hS hG
    obtain ⟨⟨y0, y1, y2, y3, y4, y5, y6⟩, f0, f1, f2, f3, f4, f5, f6⟩ := v7_facts VX.out
    cases r
    · go_wp2_with fail
      clear y0 y1 y2 y3 y4 y5 y6 f0 f1 f2 f3 f4 f5 f6
      have BF := hid (BB.out.trans (S.out.bel.mono BB.out.size))
      refine wp_region_held_drew (S := fun w' => Below w.heap.size w w' ∧ w'.heap[gX]? = some (.cells #[.int .i64 x9.a, .int .i64 x9.b, .int .i64 x9.c, .int .i64 x9.d, .int .i64 x9.e, .int .i64 x9.f, .int .i64 x9.g] 63)) (by kernel_rfl) ⟨BF.out.drew, VX.out⟩ (fun hH => ?_)
      have VBD := hid (show wa.drew.heap[gb]? = some (.cells #[.int .i64 0, .int .i64 0, .int .i64 0, .int .i64 0, .int .i64 0, .int .i64 0, .int .i64 0] 63) from VB.out)
      have OLD := hid (show OwC wa.drew base (.slice pu cs.length cu) cs from OL.out)
      clear VB OL VX S BF BB
      generalize wa.drew = z at hH VBD OLD ⊢
      refine wpAnyH_take (i := 0) (v := .slice pu cs.length cu) (by simp only [List.getElem?_toArray, List.getElem?_cons_zero]; rfl) (by kernel_rfl) (by kernel_rfl) (by kernel_rfl) (by intro _ _ _ h; exact h) (Or.inl ⟨by rfl, fun w hS => by go_simp⟩) hH ?_
      simp only [Act.put, List.setIfInBounds_toArray, List.set_cons_zero, List.set_cons_succ]
      refine wpAnyH_take (i := 1) (v := .agg #[.int .i64 x9.a, .int .i64 x9.b, .int .i64 x9.c, .int .i64 x9.d, .int .i64 x9.e, .int .i64 x9.f, .int .i64 x9.g]) (by simp only [List.getElem?_toArray, List.getElem?_cons_succ, List.getElem?_cons_zero]; rfl) (by kernel_rfl) (by kernel_rfl) (by kernel_rfl) (by intro _ _ _ h; exact h) (Or.inl ⟨by rfl, fun w hS => by (obtain ⟨⟨y0, y1, y2, y3, y4, y5, y6⟩, -⟩ := v7_facts hS.2; clear hS; go_simp)⟩) hH ?_
      simp only [Act.put, List.setIfInBounds_toArray, List.set_cons_zero, List.set_cons_succ]
      refine wpAnyH_take (i := 2) (v := .slice pu cs.length cu) (by simp only [List.getElem?_toArray, List.getElem?_cons_succ, List.getElem?_cons_zero]; rfl) (by kernel_rfl) (by kernel_rfl) (by kernel_rfl) (by intro _ _ _ h; exact h) (Or.inl ⟨by rfl, fun w hS => by go_simp⟩) hH ?_
      simp only [Act.put, List.setIfInBounds_toArray, List.set_cons_zero, List.set_cons_succ]
      refine wpAnyH_ready (rs := [3]) (by kernel_rfl) (by simp) ?_
      refine AllReadyH.cons (by simp only [List.getElem?_toArray, List.getElem?_cons_succ, List.getElem?_cons_zero]; rfl) (fun K hK => ?_) AllReadyH.nil
      obtain ⟨⟨u0, u1, u2, u3, u4, u5, u6⟩, z0, z1, z2, z3, z4, z5, z6⟩ := v7_facts VBD.out
      go_simp
      have VE := hid (v7_set (y0 := .int .i64 x9.a) (y1 := .int .i64 x9.b) (y2 := .int .i64 x9.c) (y3 := .int .i64 x9.d) (y4 := .int .i64 x9.e) (y5 := .int .i64 x9.f) (y6 := .int .i64 x9.g) VBD.out)
      have SN := hid (show Below w.heap.size w (((((((z.setCell ⟨gb, 0, none⟩ (.int .i64 x9.a)).setCell ⟨gb, 1, none⟩ (.int .i64 x9.b)).setCell ⟨gb, 2, none⟩ (.int .i64 x9.c)).setCell ⟨gb, 3, none⟩ (.int .i64 x9.d)).setCell ⟨gb, 4, none⟩ (.int .i64 x9.e)).setCell ⟨gb, 5, none⟩ (.int .i64 x9.f)).setCell ⟨gb, 6, none⟩ (.int .i64 x9.g)) ∧ (((((((z.setCell ⟨gb, 0, none⟩ (.int .i64 x9.a)).setCell ⟨gb, 1, none⟩ (.int .i64 x9.b)).setCell ⟨gb, 2, none⟩ (.int .i64 x9.c)).setCell ⟨gb, 3, none⟩ (.int .i64 x9.d)).setCell ⟨gb, 4, none⟩ (.int .i64 x9.e)).setCell ⟨gb, 5, none⟩ (.int .i64 x9.f)).setCell ⟨gb, 6, none⟩ (.int .i64 x9.g)).heap[gX]? = some (.cells #[.int .i64 x9.a, .int .i64 x9.b, .int .i64 x9.c, .int .i64 x9.d, .int .i64 x9.e, .int .i64 x9.f, .int .i64 x9.g] 63) from ⟨v7_below hH.1 GB.out, (v7_other (by have := GX0.out; omega)).trans hH.2⟩)
      have OE := hid (show OwC (((((((z.setCell ⟨gb, 0, none⟩ (.int .i64 x9.a)).setCell ⟨gb, 1, none⟩ (.int .i64 x9.b)).setCell ⟨gb, 2, none⟩ (.int .i64 x9.c)).setCell ⟨gb, 3, none⟩ (.int .i64 x9.d)).setCell ⟨gb, 4, none⟩ (.int .i64 x9.e)).setCell ⟨gb, 5, none⟩ (.int .i64 x9.f)).setCell ⟨gb, 6, none⟩ (.int .i64 x9.g)) base (.slice pu cs.length cu) cs from (OwC.setN (g := gb) (i := 6) (x := .int .i64 x9.g) (OwC.setN (g := gb) (i := 5) (x := .int .i64 x9.f) (OwC.setN (g := gb) (i := 4) (x := .int .i64 x9.e) (OwC.setN (g := gb) (i := 3) (x := .int .i64 x9.d) (OwC.setN (g := gb) (i := 2) (x := .int .i64 x9.c) (OwC.setN (g := gb) (i := 1) (x := .int .i64 x9.b) (OwC.setN (g := gb) (i := 0) (x := .int .i64 x9.a) OLD.out (fun b e => by have := OLD.out.lt b e; have := LBb.out; omega)) (fun b e => by have := OLD.out.lt b e; have := LBb.out; omega)) (fun b e => by have := OLD.out.lt b e; have := LBb.out; omega)) (fun b e => by have := OLD.out.lt b e; have := LBb.out; omega)) (fun b e => by have := OLD.out.lt b e; have := LBb.out; omega)) (fun b e => by have := OLD.out.lt b e; have := LBb.out; omega)) (fun b e => by have := OLD.out.lt b e; have := LBb.out; omega)))
      refine hK.out _ _ SN.out (fun hH => ?_)
      clear hK K SN VBD OLD u0 u1 u2 u3 u4 u5 u6 z0 z1 z2 z3 z4 z5 z6
      generalize ((((((z.setCell ⟨gb, 0, none⟩ (.int .i64 x9.a)).setCell ⟨gb, 1, none⟩ (.int .i64 x9.b)).setCell ⟨gb, 2, none⟩ (.int .i64 x9.c)).setCell ⟨gb, 3, none⟩ (.int .i64 x9.d)).setCell ⟨gb, 4, none⟩ (.int .i64 x9.e)).setCell ⟨gb, 5, none⟩ (.int .i64 x9.f)).setCell ⟨gb, 6, none⟩ (.int .i64 x9.g) = zE at *
      refine wpAnyH_done (by kernel_rfl) ?_ _
      have BE := hid hH.1
      clear hH
      go_wp2
      exact bodyPost_ret (v := .tuple #[.slice pu cs.length cu, .agg #[.int .i64 x9.a, .int .i64 x9.b, .int .i64 x9.c, .int .i64 x9.d, .int .i64 x9.e, .int .i64 x9.f, .int .i64 x9.g]]) (results_tcW rfl _ _ (.slice pu cs.length cu) gb 63 _ _ _ rfl rfl VE.out Try.underlying63 rfl (by kernel_rfl)) rfl ⟨.slice pu cs.length cu, cs, x9, rfl, OE.out.rd, HL0.out, BE.out⟩
    · have VX2 := hid (show (wa.setCell ⟨gX, 4, none⟩ (.int .i64 0)).heap[gX]? = some (.cells #[.int .i64 (⟨x9.a, x9.b, x9.c, x9.d, 0, x9.f, x9.g⟩ : Wai).a, .int .i64 (⟨x9.a, x9.b, x9.c, x9.d, 0, x9.f, x9.g⟩ : Wai).b, .int .i64 (⟨x9.a, x9.b, x9.c, x9.d, 0, x9.f, x9.g⟩ : Wai).c, .int .i64 (⟨x9.a, x9.b, x9.c, x9.d, 0, x9.f, x9.g⟩ : Wai).d, .int .i64 (⟨x9.a, x9.b, x9.c, x9.d, 0, x9.f, x9.g⟩ : Wai).e, .int .i64 (⟨x9.a, x9.b, x9.c, x9.d, 0, x9.f, x9.g⟩ : Wai).f, .int .i64 (⟨x9.a, x9.b, x9.c, x9.d, 0, x9.f, x9.g⟩ : Wai).g] 63) by simpa using heap_setCell_same wa gX 4 _ _ (.int .i64 0) VX.out)
      replace S := hid (src_set (i := 4) S.out (by have := GX0.out; omega) GX0.out.2.2 (.int .i64 0))
      replace VB := hid (var_setT9 (k := gX) (i := 4) (x := .int .i64 0) VB.out (by have := GX0.out; omega))
      replace OL := hid (OL.out.setN (g := gX) (i := 4) (x := .int .i64 0) (fun b e => by have := OB.out b e; omega))
      go_wp2_with fail
      clear y0 y1 y2 y3 y4 y5 y6 f0 f1 f2 f3 f4 f5 f6 VX
      generalize wa.setCell ⟨gX, 4, none⟩ (.int .i64 0) = wb at *
      obtain ⟨x8, hx8⟩ : ∃ x : Wai, x = ⟨x9.a, x9.b, x9.c, x9.d, 0, x9.f, x9.g⟩ := ⟨_, rfl⟩
      have VX := hid (show wb.heap[gX]? = some (.cells #[.int .i64 x8.a, .int .i64 x8.b, .int .i64 x8.c, .int .i64 x8.d, .int .i64 x8.e, .int .i64 x8.f, .int .i64 x8.g] 63) by rw [hx8]; exact VX2.out)
      clear VX2 hx8
      have BF := hid (BB.out.trans (S.out.bel.mono BB.out.size))
      refine wp_region_held_drew (S := fun w' => Below w.heap.size w w' ∧ w'.heap[gX]? = some (.cells #[.int .i64 x8.a, .int .i64 x8.b, .int .i64 x8.c, .int .i64 x8.d, .int .i64 x8.e, .int .i64 x8.f, .int .i64 x8.g] 63)) (by kernel_rfl) ⟨BF.out.drew, VX.out⟩ (fun hH => ?_)
      have VBD := hid (show wb.drew.heap[gb]? = some (.cells #[.int .i64 0, .int .i64 0, .int .i64 0, .int .i64 0, .int .i64 0, .int .i64 0, .int .i64 0] 63) from VB.out)
      have OLD := hid (show OwC wb.drew base (.slice pu cs.length cu) cs from OL.out)
      clear VB OL VX S BF BB
      generalize wb.drew = z at hH VBD OLD ⊢
      refine wpAnyH_take (i := 0) (v := .slice pu cs.length cu) (by simp only [List.getElem?_toArray, List.getElem?_cons_zero]; rfl) (by kernel_rfl) (by kernel_rfl) (by kernel_rfl) (by intro _ _ _ h; exact h) (Or.inl ⟨by rfl, fun w hS => by go_simp⟩) hH ?_
      simp only [Act.put, List.setIfInBounds_toArray, List.set_cons_zero, List.set_cons_succ]
      refine wpAnyH_take (i := 1) (v := .agg #[.int .i64 x8.a, .int .i64 x8.b, .int .i64 x8.c, .int .i64 x8.d, .int .i64 x8.e, .int .i64 x8.f, .int .i64 x8.g]) (by simp only [List.getElem?_toArray, List.getElem?_cons_succ, List.getElem?_cons_zero]; rfl) (by kernel_rfl) (by kernel_rfl) (by kernel_rfl) (by intro _ _ _ h; exact h) (Or.inl ⟨by rfl, fun w hS => by (obtain ⟨⟨y0, y1, y2, y3, y4, y5, y6⟩, -⟩ := v7_facts hS.2; clear hS; go_simp)⟩) hH ?_
      simp only [Act.put, List.setIfInBounds_toArray, List.set_cons_zero, List.set_cons_succ]
      refine wpAnyH_take (i := 2) (v := .slice pu cs.length cu) (by simp only [List.getElem?_toArray, List.getElem?_cons_succ, List.getElem?_cons_zero]; rfl) (by kernel_rfl) (by kernel_rfl) (by kernel_rfl) (by intro _ _ _ h; exact h) (Or.inl ⟨by rfl, fun w hS => by go_simp⟩) hH ?_
      simp only [Act.put, List.setIfInBounds_toArray, List.set_cons_zero, List.set_cons_succ]
      refine wpAnyH_ready (rs := [3]) (by kernel_rfl) (by simp) ?_
      refine AllReadyH.cons (by simp only [List.getElem?_toArray, List.getElem?_cons_succ, List.getElem?_cons_zero]; rfl) (fun K hK => ?_) AllReadyH.nil
      obtain ⟨⟨u0, u1, u2, u3, u4, u5, u6⟩, z0, z1, z2, z3, z4, z5, z6⟩ := v7_facts VBD.out
      go_simp
      have VE := hid (v7_set (y0 := .int .i64 x8.a) (y1 := .int .i64 x8.b) (y2 := .int .i64 x8.c) (y3 := .int .i64 x8.d) (y4 := .int .i64 x8.e) (y5 := .int .i64 x8.f) (y6 := .int .i64 x8.g) VBD.out)
      have SN := hid (show Below w.heap.size w (((((((z.setCell ⟨gb, 0, none⟩ (.int .i64 x8.a)).setCell ⟨gb, 1, none⟩ (.int .i64 x8.b)).setCell ⟨gb, 2, none⟩ (.int .i64 x8.c)).setCell ⟨gb, 3, none⟩ (.int .i64 x8.d)).setCell ⟨gb, 4, none⟩ (.int .i64 x8.e)).setCell ⟨gb, 5, none⟩ (.int .i64 x8.f)).setCell ⟨gb, 6, none⟩ (.int .i64 x8.g)) ∧ (((((((z.setCell ⟨gb, 0, none⟩ (.int .i64 x8.a)).setCell ⟨gb, 1, none⟩ (.int .i64 x8.b)).setCell ⟨gb, 2, none⟩ (.int .i64 x8.c)).setCell ⟨gb, 3, none⟩ (.int .i64 x8.d)).setCell ⟨gb, 4, none⟩ (.int .i64 x8.e)).setCell ⟨gb, 5, none⟩ (.int .i64 x8.f)).setCell ⟨gb, 6, none⟩ (.int .i64 x8.g)).heap[gX]? = some (.cells #[.int .i64 x8.a, .int .i64 x8.b, .int .i64 x8.c, .int .i64 x8.d, .int .i64 x8.e, .int .i64 x8.f, .int .i64 x8.g] 63) from ⟨v7_below hH.1 GB.out, (v7_other (by have := GX0.out; omega)).trans hH.2⟩)
      have OE := hid (show OwC (((((((z.setCell ⟨gb, 0, none⟩ (.int .i64 x8.a)).setCell ⟨gb, 1, none⟩ (.int .i64 x8.b)).setCell ⟨gb, 2, none⟩ (.int .i64 x8.c)).setCell ⟨gb, 3, none⟩ (.int .i64 x8.d)).setCell ⟨gb, 4, none⟩ (.int .i64 x8.e)).setCell ⟨gb, 5, none⟩ (.int .i64 x8.f)).setCell ⟨gb, 6, none⟩ (.int .i64 x8.g)) base (.slice pu cs.length cu) cs from (OwC.setN (g := gb) (i := 6) (x := .int .i64 x8.g) (OwC.setN (g := gb) (i := 5) (x := .int .i64 x8.f) (OwC.setN (g := gb) (i := 4) (x := .int .i64 x8.e) (OwC.setN (g := gb) (i := 3) (x := .int .i64 x8.d) (OwC.setN (g := gb) (i := 2) (x := .int .i64 x8.c) (OwC.setN (g := gb) (i := 1) (x := .int .i64 x8.b) (OwC.setN (g := gb) (i := 0) (x := .int .i64 x8.a) OLD.out (fun b e => by have := OLD.out.lt b e; have := LBb.out; omega)) (fun b e => by have := OLD.out.lt b e; have := LBb.out; omega)) (fun b e => by have := OLD.out.lt b e; have := LBb.out; omega)) (fun b e => by have := OLD.out.lt b e; have := LBb.out; omega)) (fun b e => by have := OLD.out.lt b e; have := LBb.out; omega)) (fun b e => by have := OLD.out.lt b e; have := LBb.out; omega)) (fun b e => by have := OLD.out.lt b e; have := LBb.out; omega)))
      refine hK.out _ _ SN.out (fun hH => ?_)
      clear hK K SN VBD OLD u0 u1 u2 u3 u4 u5 u6 z0 z1 z2 z3 z4 z5 z6
      generalize ((((((z.setCell ⟨gb, 0, none⟩ (.int .i64 x8.a)).setCell ⟨gb, 1, none⟩ (.int .i64 x8.b)).setCell ⟨gb, 2, none⟩ (.int .i64 x8.c)).setCell ⟨gb, 3, none⟩ (.int .i64 x8.d)).setCell ⟨gb, 4, none⟩ (.int .i64 x8.e)).setCell ⟨gb, 5, none⟩ (.int .i64 x8.f)).setCell ⟨gb, 6, none⟩ (.int .i64 x8.g) = zE at *
      refine wpAnyH_done (by kernel_rfl) ?_ _
      have BE := hid hH.1
      clear hH
      go_wp2
      exact bodyPost_ret (v := .tuple #[.slice pu cs.length cu, .agg #[.int .i64 x8.a, .int .i64 x8.b, .int .i64 x8.c, .int .i64 x8.d, .int .i64 x8.e, .int .i64 x8.f, .int .i64 x8.g]]) (results_tcW rfl _ _ (.slice pu cs.length cu) gb 63 _ _ _ rfl rfl VE.out Try.underlying63 rfl (by kernel_rfl)) rfl ⟨.slice pu cs.length cu, cs, x8, rfl, OE.out.rd, HL0.out, BE.out⟩
  go_wp2_with fail
  refine (next w0 w5 gs _ l (t2 + 1) (cs.length : Int) S.out (by omega) (by omega) hl).mono ?_
  rintro e w6 ⟨r5, rfl, hr5, hS, hG⟩
  replace S := hid hS
  replace OL := hid (OL.out.keepG hG GS.out)
  replace VB := hid (var_grown hG VB.out (fun e => by have := Option.some.inj e; have := LB.out; omega))
  replace VX := hid (var_grown hG VX.out (fun e => by have := Option.some.inj e; have := GX0.out; omega))
  clear hS hG
  obtain ⟨hr1, hr2⟩ := hr5 (by omega)
  obtain ⟨k, rfl⟩ : ∃ k : Nat, r5 = (k : Int) := ⟨r5.toNat, by omega⟩
  have hlt : k < cs.length := by omega
  obtain ⟨a', cap', e, -, -, hcs⟩ := OL.out.rd.parts
  cases e
  obtain ⟨b, o, rfl, q1⟩ := hcs k hlt
  obtain ⟨c0, c1, c2, c3⟩ := c_cells q1
  have I1 := idx_ci b o cs.length cu k hlt
  obtain ⟨M, hM⟩ : ∃ M, M = cs[k] := ⟨_, rfl⟩
  rw [← hM] at c0 c1 c2 c3
  clear q1 hcs hM
  have hA := below_alloc1 w6 (.cells #[.int .i64 M.n, .int .i64 M.i, .int .i64 M.s, .int .i64 M.m] 38)
  replace S := hid (S.out.later hA)
  replace OL := hid (OL.out.below hA)
  replace VB := hid (var_below hA VB.out)
  replace VX := hid (var_below hA VX.out)
  clear hA
  obtain ⟨⟨y0, y1, y2, y3, y4, y5, y6⟩, f0, f1, f2, f3, f4, f5, f6⟩ := v7_facts VX.out
  have VX2 := hid (v7_set (y0 := .int .i64 3) (y1 := .int .i64 0) (y2 := .int .i64 M.n) (y3 := .int .i64 M.i) (y4 := .int .i64 1) (y5 := .int .i64 0) (y6 := .int .i64 0) VX.out)
  replace S := hid (src_set (i := 6) (src_set (i := 5) (src_set (i := 4) (src_set (i := 3) (src_set (i := 2) (src_set (i := 1) (src_set (i := 0) S.out (by have := GX0.out; omega) GX0.out.2.2 (.int .i64 3)) (by have := GX0.out; omega) GX0.out.2.2 (.int .i64 0)) (by have := GX0.out; omega) GX0.out.2.2 (.int .i64 M.n)) (by have := GX0.out; omega) GX0.out.2.2 (.int .i64 M.i)) (by have := GX0.out; omega) GX0.out.2.2 (.int .i64 1)) (by have := GX0.out; omega) GX0.out.2.2 (.int .i64 0)) (by have := GX0.out; omega) GX0.out.2.2 (.int .i64 0))
  replace VB := hid (var_setT9 (k := gX) (i := 6) (x := .int .i64 0) (var_setT9 (k := gX) (i := 5) (x := .int .i64 0) (var_setT9 (k := gX) (i := 4) (x := .int .i64 1) (var_setT9 (k := gX) (i := 3) (x := .int .i64 M.i) (var_setT9 (k := gX) (i := 2) (x := .int .i64 M.n) (var_setT9 (k := gX) (i := 1) (x := .int .i64 0) (var_setT9 (k := gX) (i := 0) (x := .int .i64 3) VB.out (by have := GX0.out; omega)) (by have := GX0.out; omega)) (by have := GX0.out; omega)) (by have := GX0.out; omega)) (by have := GX0.out; omega)) (by have := GX0.out; omega)) (by have := GX0.out; omega))
  replace OL := hid (OwC.setN (g := gX) (i := 6) (x := .int .i64 0) (OwC.setN (g := gX) (i := 5) (x := .int .i64 0) (OwC.setN (g := gX) (i := 4) (x := .int .i64 1) (OwC.setN (g := gX) (i := 3) (x := .int .i64 M.i) (OwC.setN (g := gX) (i := 2) (x := .int .i64 M.n) (OwC.setN (g := gX) (i := 1) (x := .int .i64 0) (OwC.setN (g := gX) (i := 0) (x := .int .i64 3) OL.out (fun b e => by have := OB.out b e; omega)) (fun b e => by have := OB.out b e; omega)) (fun b e => by have := OB.out b e; omega)) (fun b e => by have := OB.out b e; omega)) (fun b e => by have := OB.out b e; omega)) (fun b e => by have := OB.out b e; omega)) (fun b e => by have := OB.out b e; omega))
  clear VX
  go_wp2_with fail
  clear y0 y1 y2 y3 y4 y5 y6 f0 f1 f2 f3 f4 f5 f6 c0 c1 c2 c3 I1
  generalize (((((((w6.alloc (.cells #[.int .i64 M.n, .int .i64 M.i, .int .i64 M.s, .int .i64 M.m] 38)).setCell ⟨gX, 0, none⟩ (.int .i64 3)).setCell ⟨gX, 1, none⟩ (.int .i64 0)).setCell ⟨gX, 2, none⟩ (.int .i64 M.n)).setCell ⟨gX, 3, none⟩ (.int .i64 M.i)).setCell ⟨gX, 4, none⟩ (.int .i64 1)).setCell ⟨gX, 5, none⟩ (.int .i64 0)).setCell ⟨gX, 6, none⟩ (.int .i64 0) = w7 at *
  have VX := VX2
  clear VX2
  obtain ⟨x9, hx9⟩ : ∃ z : Wai, z = ⟨3, 0, M.n, M.i, 1, 0, 0⟩ := ⟨_, rfl⟩
  have VX9 := hid (show w7.heap[gX]? = some (.cells #[.int .i64 x9.a, .int .i64 x9.b, .int .i64 x9.c, .int .i64 x9.d, .int .i64 x9.e, .int .i64 x9.f, .int .i64 x9.g] 63) by rw [hx9]; exact VX.out)
  clear VX hx9
  have VX := VX9
  clear VX9
  refine (chance w0 w7 gs _ l (t2 + 1 + 1) 14 S.out (by omega) (by omega) hl).mono ?_
  rintro e wa ⟨r, rfl, hS, hG⟩
  replace S := hid hS
  replace OL := hid (OL.out.keepG hG GS.out)
  replace VB := hid (var_grown hG VB.out (fun e => by have := Option.some.inj e; have := LB.out; omega))
  replace VX := hid (var_grown hG VX.out (fun e => by have := Option.some.inj e; have := GX0.out; omega))
  clear hS hG
  obtain ⟨⟨y0, y1, y2, y3, y4, y5, y6⟩, f0, f1, f2, f3, f4, f5, f6⟩ := v7_facts VX.out
  cases r
  · go_wp2_with fail
    clear y0 y1 y2 y3 y4 y5 y6 f0 f1 f2 f3 f4 f5 f6
    have BF := hid (BB.out.trans (S.out.bel.mono BB.out.size))
    refine wp_region_held_drew (S := fun w' => Below w.heap.size w w' ∧ w'.heap[gX]? = some (.cells #[.int .i64 x9.a, .int .i64 x9.b, .int .i64 x9.c, .int .i64 x9.d, .int .i64 x9.e, .int .i64 x9.f, .int .i64 x9.g] 63)) (by kernel_rfl) ⟨BF.out.drew, VX.out⟩ (fun hH => ?_)
    have VBD := hid (show wa.drew.heap[gb]? = some (.cells #[.int .i64 0, .int .i64 0, .int .i64 0, .int .i64 0, .int .i64 0, .int .i64 0, .int .i64 0] 63) from VB.out)
    have OLD := hid (show OwC wa.drew base (.slice (some ⟨b, o, none⟩) cs.length cu) cs from OL.out)
    clear VB OL VX S BF BB
    generalize wa.drew = z at hH VBD OLD ⊢
    refine wpAnyH_take (i := 0) (v := .slice (some ⟨b, o, none⟩) cs.length cu) (by simp only [List.getElem?_toArray, List.getElem?_cons_zero]; rfl) (by kernel_rfl) (by kernel_rfl) (by kernel_rfl) (by intro _ _ _ h; exact h) (Or.inl ⟨by rfl, fun w hS => by go_simp⟩) hH ?_
    simp only [Act.put, List.setIfInBounds_toArray, List.set_cons_zero, List.set_cons_succ]
    refine wpAnyH_take (i := 1) (v := .agg #[.int .i64 x9.a, .int .i64 x9.b, .int .i64 x9.c, .int .i64 x9.d, .int .i64 x9.e, .int .i64 x9.f, .int .i64 x9.g]) (by simp only [List.getElem?_toArray, List.getElem?_cons_succ, List.getElem?_cons_zero]; rfl) (by kernel_rfl) (by kernel_rfl) (by kernel_rfl) (by intro _ _ _ h; exact h) (Or.inl ⟨by rfl, fun w hS => by (obtain ⟨⟨y0, y1, y2, y3, y4, y5, y6⟩, -⟩ := v7_facts hS.2; clear hS; go_simp)⟩) hH ?_
    simp only [Act.put, List.setIfInBounds_toArray, List.set_cons_zero, List.set_cons_succ]
    refine wpAnyH_take (i := 2) (v := .slice (some ⟨b, o, none⟩) cs.length cu) (by simp only [List.getElem?_toArray, List.getElem?_cons_succ, List.getElem?_cons_zero]; rfl) (by kernel_rfl) (by kernel_rfl) (by kernel_rfl) (by intro _ _ _ h; exact h) (Or.inl ⟨by rfl, fun w hS => by go_simp⟩) hH ?_
    simp only [Act.put, List.setIfInBounds_toArray, List.set_cons_zero, List.set_cons_succ]
    refine wpAnyH_ready (rs := [3]) (by kernel_rfl) (by simp) ?_
    refine AllReadyH.cons (by simp only [List.getElem?_toArray, List.getElem?_cons_succ, List.getElem?_cons_zero]; rfl) (fun K hK => ?_) AllReadyH.nil
    obtain ⟨⟨u0, u1, u2, u3, u4, u5, u6⟩, z0, z1, z2, z3, z4, z5, z6⟩ := v7_facts VBD.out
    go_simp
    have VE := hid (v7_set (y0 := .int .i64 x9.a) (y1 := .int .i64 x9.b) (y2 := .int .i64 x9.c) (y3 := .int .i64 x9.d) (y4 := .int .i64 x9.e) (y5 := .int .i64 x9.f) (y6 := .int .i64 x9.g) VBD.out)
    have SN := hid (show Below w.heap.size w (((((((z.setCell ⟨gb, 0, none⟩ (.int .i64 x9.a)).setCell ⟨gb, 1, none⟩ (.int .i64 x9.b)).setCell ⟨gb, 2, none⟩ (.int .i64 x9.c)).setCell ⟨gb, 3, none⟩ (.int .i64 x9.d)).setCell ⟨gb, 4, none⟩ (.int .i64 x9.e)).setCell ⟨gb, 5, none⟩ (.int .i64 x9.f)).setCell ⟨gb, 6, none⟩ (.int .i64 x9.g)) ∧ (((((((z.setCell ⟨gb, 0, none⟩ (.int .i64 x9.a)).setCell ⟨gb, 1, none⟩ (.int .i64 x9.b)).setCell ⟨gb, 2, none⟩ (.int .i64 x9.c)).setCell ⟨gb, 3, none⟩ (.int .i64 x9.d)).setCell ⟨gb, 4, none⟩ (.int .i64 x9.e)).setCell ⟨gb, 5, none⟩ (.int .i64 x9.f)).setCell ⟨gb, 6, none⟩ (.int .i64 x9.g)).heap[gX]? = some (.cells #[.int .i64 x9.a, .int .i64 x9.b, .int .i64 x9.c, .int .i64 x9.d, .int .i64 x9.e, .int .i64 x9.f, .int .i64 x9.g] 63) from ⟨v7_below hH.1 GB.out, (v7_other (by have := GX0.out; omega)).trans hH.2⟩)
    have OE := hid (show OwC (((((((z.setCell ⟨gb, 0, none⟩ (.int .i64 x9.a)).setCell ⟨gb, 1, none⟩ (.int .i64 x9.b)).setCell ⟨gb, 2, none⟩ (.int .i64 x9.c)).setCell ⟨gb, 3, none⟩ (.int .i64 x9.d)).setCell ⟨gb, 4, none⟩ (.int .i64 x9.e)).setCell ⟨gb, 5, none⟩ (.int .i64 x9.f)).setCell ⟨gb, 6, none⟩ (.int .i64 x9.g)) base (.slice (some ⟨b, o, none⟩) cs.length cu) cs from (OwC.setN (g := gb) (i := 6) (x := .int .i64 x9.g) (OwC.setN (g := gb) (i := 5) (x := .int .i64 x9.f) (OwC.setN (g := gb) (i := 4) (x := .int .i64 x9.e) (OwC.setN (g := gb) (i := 3) (x := .int .i64 x9.d) (OwC.setN (g := gb) (i := 2) (x := .int .i64 x9.c) (OwC.setN (g := gb) (i := 1) (x := .int .i64 x9.b) (OwC.setN (g := gb) (i := 0) (x := .int .i64 x9.a) OLD.out (fun b e => by have := OLD.out.lt b e; have := LBb.out; omega)) (fun b e => by have := OLD.out.lt b e; have := LBb.out; omega)) (fun b e => by have := OLD.out.lt b e; have := LBb.out; omega)) (fun b e => by have := OLD.out.lt b e; have := LBb.out; omega)) (fun b e => by have := OLD.out.lt b e; have := LBb.out; omega)) (fun b e => by have := OLD.out.lt b e; have := LBb.out; omega)) (fun b e => by have := OLD.out.lt b e; have := LBb.out; omega)))
    refine hK.out _ _ SN.out (fun hH => ?_)
    clear hK K SN VBD OLD u0 u1 u2 u3 u4 u5 u6 z0 z1 z2 z3 z4 z5 z6
    generalize ((((((z.setCell ⟨gb, 0, none⟩ (.int .i64 x9.a)).setCell ⟨gb, 1, none⟩ (.int .i64 x9.b)).setCell ⟨gb, 2, none⟩ (.int .i64 x9.c)).setCell ⟨gb, 3, none⟩ (.int .i64 x9.d)).setCell ⟨gb, 4, none⟩ (.int .i64 x9.e)).setCell ⟨gb, 5, none⟩ (.int .i64 x9.f)).setCell ⟨gb, 6, none⟩ (.int .i64 x9.g) = zE at *
    refine wpAnyH_done (by kernel_rfl) ?_ _
    have BE := hid hH.1
    clear hH
    go_wp2
    exact bodyPost_ret (v := .tuple #[.slice (some ⟨b, o, none⟩) cs.length cu, .agg #[.int .i64 x9.a, .int .i64 x9.b, .int .i64 x9.c, .int .i64 x9.d, .int .i64 x9.e, .int .i64 x9.f, .int .i64 x9.g]]) (results_tcW rfl _ _ (.slice (some ⟨b, o, none⟩) cs.length cu) gb 63 _ _ _ rfl rfl VE.out Try.underlying63 rfl (by kernel_rfl)) rfl ⟨.slice (some ⟨b, o, none⟩) cs.length cu, cs, x9, rfl, OE.out.rd, HL0.out, BE.out⟩
  · have VX2 := hid (show (wa.setCell ⟨gX, 4, none⟩ (.int .i64 0)).heap[gX]? = some (.cells #[.int .i64 (⟨x9.a, x9.b, x9.c, x9.d, 0, x9.f, x9.g⟩ : Wai).a, .int .i64 (⟨x9.a, x9.b, x9.c, x9.d, 0, x9.f, x9.g⟩ : Wai).b, .int .i64 (⟨x9.a, x9.b, x9.c, x9.d, 0, x9.f, x9.g⟩ : Wai).c, .int .i64 (⟨x9.a, x9.b, x9.c, x9.d, 0, x9.f, x9.g⟩ : Wai).d, .int .i64 (⟨x9.a, x9.b, x9.c, x9.d, 0, x9.f, x9.g⟩ : Wai).e, .int .i64 (⟨x9.a, x9.b, x9.c, x9.d, 0, x9.f, x9.g⟩ : Wai).f, .int .i64 (⟨x9.a, x9.b, x9.c, x9.d, 0, x9.f, x9.g⟩ : Wai).g] 63) by simpa using heap_setCell_same wa gX 4 _ _ (.int .i64 0) VX.out)
    replace S := hid (src_set (i := 4) S.out (by have := GX0.out; omega) GX0.out.2.2 (.int .i64 0))
    replace VB := hid (var_setT9 (k := gX) (i := 4) (x := .int .i64 0) VB.out (by have := GX0.out; omega))
    replace OL := hid (OL.out.setN (g := gX) (i := 4) (x := .int .i64 0) (fun b e => by have := OB.out b e; omega))
    go_wp2_with fail
    clear y0 y1 y2 y3 y4 y5 y6 f0 f1 f2 f3 f4 f5 f6 VX
    generalize wa.setCell ⟨gX, 4, none⟩ (.int .i64 0) = wb at *
    obtain ⟨x8, hx8⟩ : ∃ x : Wai, x = ⟨x9.a, x9.b, x9.c, x9.d, 0, x9.f, x9.g⟩ := ⟨_, rfl⟩
    have VX := hid (show wb.heap[gX]? = some (.cells #[.int .i64 x8.a, .int .i64 x8.b, .int .i64 x8.c, .int .i64 x8.d, .int .i64 x8.e, .int .i64 x8.f, .int .i64 x8.g] 63) by rw [hx8]; exact VX2.out)
    clear VX2 hx8
    have BF := hid (BB.out.trans (S.out.bel.mono BB.out.size))
    refine wp_region_held_drew (S := fun w' => Below w.heap.size w w' ∧ w'.heap[gX]? = some (.cells #[.int .i64 x8.a, .int .i64 x8.b, .int .i64 x8.c, .int .i64 x8.d, .int .i64 x8.e, .int .i64 x8.f, .int .i64 x8.g] 63)) (by kernel_rfl) ⟨BF.out.drew, VX.out⟩ (fun hH => ?_)
    have VBD := hid (show wb.drew.heap[gb]? = some (.cells #[.int .i64 0, .int .i64 0, .int .i64 0, .int .i64 0, .int .i64 0, .int .i64 0, .int .i64 0] 63) from VB.out)
    have OLD := hid (show OwC wb.drew base (.slice (some ⟨b, o, none⟩) cs.length cu) cs from OL.out)
    clear VB OL VX S BF BB
    generalize wb.drew = z at hH VBD OLD ⊢
    refine wpAnyH_take (i := 0) (v := .slice (some ⟨b, o, none⟩) cs.length cu) (by simp only [List.getElem?_toArray, List.getElem?_cons_zero]; rfl) (by kernel_rfl) (by kernel_rfl) (by kernel_rfl) (by intro _ _ _ h; exact h) (Or.inl ⟨by rfl, fun w hS => by go_simp⟩) hH ?_
    simp only [Act.put, List.setIfInBounds_toArray, List.set_cons_zero, List.set_cons_succ]
    refine wpAnyH_take (i := 1) (v := .agg #[.int .i64 x8.a, .int .i64 x8.b, .int .i64 x8.c, .int .i64 x8.d, .int .i64 x8.e, .int .i64 x8.f, .int .i64 x8.g]) (by simp only [List.getElem?_toArray, List.getElem?_cons_succ, List.getElem?_cons_zero]; rfl) (by kernel_rfl) (by kernel_rfl) (by kernel_rfl) (by intro _ _ _ h; exact h) (Or.inl ⟨by rfl, fun w hS => by (obtain ⟨⟨y0, y1, y2, y3, y4, y5, y6⟩, -⟩ := v7_facts hS.2; clear hS; go_simp)⟩) hH ?_
    simp only [Act.put, List.setIfInBounds_toArray, List.set_cons_zero, List.set_cons_succ]
    refine wpAnyH_take (i := 2) (v := .slice (some ⟨b, o, none⟩) cs.length cu) (by simp only [List.getElem?_toArray, List.getElem?_cons_succ, List.getElem?_cons_zero]; rfl) (by kernel_rfl) (by kernel_rfl) (by kernel_rfl) (by intro _ _ _ h; exact h) (Or.inl ⟨by rfl, fun w hS => by go_simp⟩) hH ?_
    simp only [Act.put, List.setIfInBounds_toArray, List.set_cons_zero, List.set_cons_succ]
    refine wpAnyH_ready (rs := [3]) (by kernel_rfl) (by simp) ?_
    refine AllReadyH.cons (by simp only [List.getElem?_toArray, List.getElem?_cons_succ, List.getElem?_cons_zero]; rfl) (fun K hK => ?_) AllReadyH.nil
    obtain ⟨⟨u0, u1, u2, u3, u4, u5, u6⟩, z0, z1, z2, z3, z4, z5, z6⟩ := v7_facts VBD.out
    go_simp
    have VE := hid (v7_set (y0 := .int .i64 x8.a) (y1 := .int .i64 x8.b) (y2 := .int .i64 x8.c) (y3 := .int .i64 x8.d) (y4 := .int .i64 x8.e) (y5 := .int .i64 x8.f) (y6 := .int .i64 x8.g) VBD.out)
    have SN := hid (show Below w.heap.size w (((((((z.setCell ⟨gb, 0, none⟩ (.int .i64 x8.a)).setCell ⟨gb, 1, none⟩ (.int .i64 x8.b)).setCell ⟨gb, 2, none⟩ (.int .i64 x8.c)).setCell ⟨gb, 3, none⟩ (.int .i64 x8.d)).setCell ⟨gb, 4, none⟩ (.int .i64 x8.e)).setCell ⟨gb, 5, none⟩ (.int .i64 x8.f)).setCell ⟨gb, 6, none⟩ (.int .i64 x8.g)) ∧ (((((((z.setCell ⟨gb, 0, none⟩ (.int .i64 x8.a)).setCell ⟨gb, 1, none⟩ (.int .i64 x8.b)).setCell ⟨gb, 2, none⟩ (.int .i64 x8.c)).setCell ⟨gb, 3, none⟩ (.int .i64 x8.d)).setCell ⟨gb, 4, none⟩ (.int .i64 x8.e)).setCell ⟨gb, 5, none⟩ (.int .i64 x8.f)).setCell ⟨gb, 6, none⟩ (.int .i64 x8.g)).heap[gX]? = some (.cells #[.int .i64 x8.a, .int .i64 x8.b, .int .i64 x8.c, .int .i64 x8.d, .int .i64 x8.e, .int .i64 x8.f, .int .i64 x8.g] 63) from ⟨v7_below hH.1 GB.out, (v7_other (by have := GX0.out; omega)).trans hH.2⟩)
    have OE := hid (show OwC (((((((z.setCell ⟨gb, 0, none⟩ (.int .i64 x8.a)).setCell ⟨gb, 1, none⟩ (.int .i64 x8.b)).setCell ⟨gb, 2, none⟩ (.int .i64 x8.c)).setCell ⟨gb, 3, none⟩ (.int .i64 x8.d)).setCell ⟨gb, 4, none⟩ (.int .i64 x8.e)).setCell ⟨gb, 5, none⟩ (.int .i64 x8.f)).setCell ⟨gb, 6, none⟩ (.int .i64 x8.g)) base (.slice (some ⟨b, o, none⟩) cs.length cu) cs from (OwC.setN (g := gb) (i := 6) (x := .int .i64 x8.g) (OwC.setN (g := gb) (i := 5) (x := .int .i64 x8.f) (OwC.setN (g := gb) (i := 4) (x := .int .i64 x8.e) (OwC.setN (g := gb) (i := 3) (x := .int .i64 x8.d) (OwC.setN (g := gb) (i := 2) (x := .int .i64 x8.c) (OwC.setN (g := gb) (i := 1) (x := .int .i64 x8.b) (OwC.setN (g := gb) (i := 0) (x := .int .i64 x8.a) OLD.out (fun b e => by have := OLD.out.lt b e; have := LBb.out; omega)) (fun b e => by have := OLD.out.lt b e; have := LBb.out; omega)) (fun b e => by have := OLD.out.lt b e; have := LBb.out; omega)) (fun b e => by have := OLD.out.lt b e; have := LBb.out; omega)) (fun b e => by have := OLD.out.lt b e; have := LBb.out; omega)) (fun b e => by have := OLD.out.lt b e; have := LBb.out; omega)) (fun b e => by have := OLD.out.lt b e; have := LBb.out; omega)))
    refine hK.out _ _ SN.out (fun hH => ?_)
    clear hK K SN VBD OLD u0 u1 u2 u3 u4 u5 u6 z0 z1 z2 z3 z4 z5 z6
    generalize ((((((z.setCell ⟨gb, 0, none⟩ (.int .i64 x8.a)).setCell ⟨gb, 1, none⟩ (.int .i64 x8.b)).setCell ⟨gb, 2, none⟩ (.int .i64 x8.c)).setCell ⟨gb, 3, none⟩ (.int .i64 x8.d)).setCell ⟨gb, 4, none⟩ (.int .i64 x8.e)).setCell ⟨gb, 5, none⟩ (.int .i64 x8.f)).setCell ⟨gb, 6, none⟩ (.int .i64 x8.g) = zE at *
    refine wpAnyH_done (by kernel_rfl) ?_ _
    have BE := hid hH.1
    clear hH
    go_wp2
    exact bodyPost_ret (v := .tuple #[.slice (some ⟨b, o, none⟩) cs.length cu, .agg #[.int .i64 x8.a, .int .i64 x8.b, .int .i64 x8.c, .int .i64 x8.d, .int .i64 x8.e, .int .i64 x8.f, .int .i64 x8.g]]) (results_tcW rfl _ _ (.slice (some ⟨b, o, none⟩) cs.length cu) gb 63 _ _ _ rfl rfl VE.out Try.underlying63 rfl (by kernel_rfl)) rfl ⟨.slice (some ⟨b, o, none⟩) cs.length cu, cs, x8, rfl, OE.out.rd, HL0.out, BE.out⟩
end Go.Proofs.Ytalaolfcdaaaoaa.W
