/-
  The law of decisions, out of the contracts of its callees. Generated text.
-/
import Derived.Laws.StructEq
import Derived.Test.YtalaolfcdaaaoaaDcLem
import Derived.Test.YtalaolfcdaaaoaaDrawRf
import Derived.Test.YtalaolfcdaaaoaaDrawSu
import Derived.Test.YtalaolfcdaaaoaaDrawBu
import Derived.Test.YtalaolfcdaaaoaaVwB
import Derived.Test.YtalaolfcdaaaoaaVwFd
import Derived.Test.YtalaolfcdaaaoaaGFnDecides1
import Derived.Test.YtalaolfcdaaaoaaCrS
import Derived.Test.YtalaolfcdaaaoaaGFnDecides2

namespace Go.Proofs.Ytalaolfcdaaaoaa.W
open Go.ChangeShapes Go.WideShapes Go.ChangeAt Go.RowKit
open Go.Proofs.Ytalaolfcdaaaoaa.M

theorem guard_clm : Try.prog.eqGuardType Try.prog.depth 38 = false := by kernel_rfl
theorem guard_clr : Try.prog.eqGuardType Try.prog.depth 57 = false := by kernel_rfl
set_option maxHeartbeats 2000000 in
set_option maxRecDepth 100000 in
theorem neq_clr (r : Int × Clm × Bool) (w : World) : (binOp .neq 57 (.agg #[.int .i64 r.1, .int .i64 r.2.1.n, .int .i64 r.2.1.i, .int .i64 r.2.1.s, .int .i64 r.2.1.m, .bool r.2.2]) (.agg #[.int .i64 r.1, .int .i64 r.2.1.n, .int .i64 r.2.1.i, .int .i64 r.2.1.s, .int .i64 r.2.1.m, .bool r.2.2])).run Try.prog w = .ok (.bool false) w := by
  obtain ⟨c, x, t⟩ := r
  have hg := guard_clr
  cases t <;> go_simp
set_option maxHeartbeats 2000000 in
set_option maxRecDepth 100000 in
theorem eql_clm (a : Clm) (w : World) : (binOp .eql 38 (.agg #[.int .i64 a.n, .int .i64 a.i, .int .i64 a.s, .int .i64 a.m]) (.agg #[.int .i64 a.n, .int .i64 a.i, .int .i64 a.s, .int .i64 a.m])).run Try.prog w = .ok (.bool true) w := by
  have hg := guard_clm
  go_simp
set_option maxRecDepth 100000 in
theorem fldV1d (c : Int) (a : Option Addr) (n k : Nat) (w : World) : (Instr.field 40 (.agg #[.int .i64 c, .slice a n k, .bool false]) 1).run Try.prog w = .ok (.slice a n k) w := by kernel_rfl
set_option maxHeartbeats 16000000 in
set_option maxRecDepth 100000 in
theorem law_dc (v : Value) (l : List Nat) (w : World) (h : Rd w v l) (y : Byt l) :
    Calls Try.prog 5 #[v] w fun e w' => e = .returned (.bool true) ∧ Below w.heap.size w w' := by
  have RC := hid h
  obtain ⟨q, cap, rfl, _, _, _⟩ := h.parts
  clear h
  by_cases hl : l.length ≤ 1048576
  case neg =>
    go_enter Try.func5, Try.ntmps5
    go_wp2_with (go_at_call 9; go_in)
    go_ret
    exact ⟨rfl, Below.refl _ _⟩
  go_enter Try.func5, Try.ntmps5
  go_wp2_with (go_at_call 9; go_in)
  refine (drRf _ l _ RC.out y hl).mono ?_
  rintro e w1 ⟨a, b, rfl, hB⟩
  replace RC := hid (RC.out.below hB)
  have BB := hid hB
  clear hB
  have VA := hid (heap_alloc2_old w1 (.cells #[.int .i64 a.n, .int .i64 a.i, .int .i64 a.s, .int .i64 a.m] 38) (.cells #[.int .i64 b.n, .int .i64 b.i, .int .i64 b.s, .int .i64 b.m] 38))
  have VC := hid (heap_alloc2_new w1 (.cells #[.int .i64 a.n, .int .i64 a.i, .int .i64 a.s, .int .i64 a.m] 38) (.cells #[.int .i64 b.n, .int .i64 b.i, .int .i64 b.s, .int .i64 b.m] 38))
  have B2 := hid (below_alloc2 w1 (.cells #[.int .i64 a.n, .int .i64 a.i, .int .i64 a.s, .int .i64 a.m] 38) (.cells #[.int .i64 b.n, .int .i64 b.i, .int .i64 b.s, .int .i64 b.m] 38))
  replace RC := hid (RC.out.below B2.out)
  replace BB := hid (BB.out.trans (B2.out.mono BB.out.size))
  obtain ⟨⟨a0, a1, a2, a3⟩, -⟩ := var4_facts VA.out
  obtain ⟨⟨c0, c1, c2, c3⟩, -⟩ := var4_facts VC.out
  go_wp2_with fail
  generalize (w1.alloc (.cells #[.int .i64 a.n, .int .i64 a.i, .int .i64 a.s, .int .i64 a.m] 38)).alloc (.cells #[.int .i64 b.n, .int .i64 b.i, .int .i64 b.s, .int .i64 b.m] 38) = w2 at *
  obtain ⟨gb, hgb⟩ : ∃ g, g = w1.heap.size + 1 := ⟨_, rfl⟩
  rw [← hgb] at VC ⊢
  obtain ⟨ga, hga⟩ : ∃ g, g = w1.heap.size := ⟨_, rfl⟩
  rw [← hga] at VA ⊢
  clear hga hgb B2 a0 a1 a2 a3 c0 c1 c2 c3
  obtain ⟨r, hr⟩ : ∃ r, r = rfA a b := ⟨_, rfl⟩
  have IR := hid (fun (w : World) => show Calls Try.prog 30 #[.agg #[.int .i64 a.n, .int .i64 a.i, .int .i64 a.s, .int .i64 a.m], .agg #[.int .i64 b.n, .int .i64 b.i, .int .i64 b.s, .int .i64 b.m]] w fun e w' => e = .returned (.agg #[.int .i64 r.1, .int .i64 r.2.1.n, .int .i64 r.2.1.i, .int .i64 r.2.1.s, .int .i64 r.2.1.m, .bool r.2.2]) ∧ Below w.heap.size w w' by rw [hr]; exact iref a b w)
  have SR := hid (fun (w : World) => show Calls Try.prog 35 #[.agg #[.int .i64 a.n, .int .i64 a.i, .int .i64 a.s, .int .i64 a.m], .agg #[.int .i64 b.n, .int .i64 b.i, .int .i64 b.s, .int .i64 b.m]] w fun e w' => e = .returned (.agg #[.int .i64 r.1, .int .i64 r.2.1.n, .int .i64 r.2.1.i, .int .i64 r.2.1.s, .int .i64 r.2.1.m, .bool r.2.2]) ∧ Below w.heap.size w w' by rw [hr]; exact sref a b w)
  have FR := hid (fun h0 : r.1 = 0 => by rw [hr] at h0 ⊢; exact rf_law h0 : r.1 = 0 → bC b r.2.1 = false ∧ r.2.1.n = a.n ∧ r.2.1.m = a.m ∧ ((r.2.2 = false ∧ r.2.1 = a) ∨ (r.2.2 = true ∧ bC r.2.1 a = true ∧ bC r.2.1 b = true ∧ r.2.1.s = 0)))
  clear hr
  refine (IR.out _).mono ?_
  rintro e w3 ⟨rfl, hB⟩
  replace RC := hid (RC.out.below hB)
  replace VA := hid (var_below hB VA.out)
  replace VC := hid (var_below hB VC.out)
  replace BB := hid (BB.out.trans (hB.mono BB.out.size))
  clear hB
  have VR := hid (heap_alloc_new w3 (.cells #[.int .i64 r.1, .int .i64 r.2.1.n, .int .i64 r.2.1.i, .int .i64 r.2.1.s, .int .i64 r.2.1.m, .bool r.2.2] 57))
  have hA := below_alloc1 w3 (.cells #[.int .i64 r.1, .int .i64 r.2.1.n, .int .i64 r.2.1.i, .int .i64 r.2.1.s, .int .i64 r.2.1.m, .bool r.2.2] 57)
  replace RC := hid (RC.out.below hA)
  replace VA := hid (var_below hA VA.out)
  replace VC := hid (var_below hA VC.out)
  replace BB := hid (BB.out.trans (hA.mono BB.out.size))
  clear hA
  go_wp2_with fail
  generalize w3.alloc (.cells #[.int .i64 r.1, .int .i64 r.2.1.n, .int .i64 r.2.1.i, .int .i64 r.2.1.s, .int .i64 r.2.1.m, .bool r.2.2] 57) = w4 at *
  obtain ⟨gr, hg⟩ : ∃ g, g = w3.heap.size := ⟨_, rfl⟩
  rw [← hg] at VR ⊢
  clear hg
  refine (drSu _ l _ RC.out y hl).mono ?_
  rintro e w5 ⟨u, cs, n, rfl, hV, hc, hB⟩
  obtain ⟨pv, cv, rfl, -, -, -⟩ := hV.parts
  replace RC := hid (RC.out.below hB)
  replace VA := hid (var_below hB VA.out)
  replace VC := hid (var_below hB VC.out)
  replace VR := hid (var_below hB VR.out)
  replace BB := hid (BB.out.trans (hB.mono BB.out.size))
  clear hB
  have HV := hid hV
  clear hV
  go_wp2_with fail
  obtain ⟨s, hs⟩ : ∃ s, s = suA cs n := ⟨_, rfl⟩
  have IS := hid (fun (w : World) (v : Value) (h : RdC w v cs) => show Calls Try.prog 32 #[v, .int .i64 n] w fun e w' => e = .returned (.agg #[.int .i64 s.1, .int .i64 s.2.1.n, .int .i64 s.2.1.i, .int .i64 s.2.1.s, .int .i64 s.2.1.m, .bool s.2.2]) ∧ Below w.heap.size w w' by rw [hs]; exact isus v cs n w h)
  have SS := hid (fun (w : World) (v : Value) (h : RdC w v cs) => show Calls Try.prog 36 #[v, .int .i64 n] w fun e w' => e = .returned (.agg #[.int .i64 s.1, .int .i64 s.2.1.n, .int .i64 s.2.1.i, .int .i64 s.2.1.s, .int .i64 s.2.1.m, .bool s.2.2]) ∧ Below w.heap.size w w' by rw [hs]; exact ssus v cs n w h)
  have FS := hid (fun h1 : s.2.2 = true => by rw [hs] at h1 ⊢; obtain ⟨X, e1, e2, e3, e4, e5⟩ := su_law h1; exact ⟨X, e1, e2, e4, e5⟩ : s.2.2 = true → ∃ X : Clm, fcC cs n = 0 ∧ fcL cs n = [X] ∧ bC s.2.1 X = true ∧ s.2.1.i = X.i)
  clear hs
  refine (IS.out _ _ HV.out).mono ?_
  rintro e w6 ⟨rfl, hB⟩
  replace RC := hid (RC.out.below hB)
  replace HV := hid (HV.out.below hB)
  replace VA := hid (var_below hB VA.out)
  replace VC := hid (var_below hB VC.out)
  replace VR := hid (var_below hB VR.out)
  replace BB := hid (BB.out.trans (hB.mono BB.out.size))
  clear hB
  have VS := hid (heap_alloc_new w6 (.cells #[.int .i64 s.1, .int .i64 s.2.1.n, .int .i64 s.2.1.i, .int .i64 s.2.1.s, .int .i64 s.2.1.m, .bool s.2.2] 57))
  have hA := below_alloc1 w6 (.cells #[.int .i64 s.1, .int .i64 s.2.1.n, .int .i64 s.2.1.i, .int .i64 s.2.1.s, .int .i64 s.2.1.m, .bool s.2.2] 57)
  replace RC := hid (RC.out.below hA)
  replace HV := hid (HV.out.below hA)
  replace VA := hid (var_below hA VA.out)
  replace VC := hid (var_below hA VC.out)
  replace VR := hid (var_below hA VR.out)
  replace BB := hid (BB.out.trans (hA.mono BB.out.size))
  clear hA
  go_wp2_with fail
  generalize w6.alloc (.cells #[.int .i64 s.1, .int .i64 s.2.1.n, .int .i64 s.2.1.i, .int .i64 s.2.1.s, .int .i64 s.2.1.m, .bool s.2.2] 57) = w7 at *
  obtain ⟨gs, hg⟩ : ∃ g, g = w6.heap.size := ⟨_, rfl⟩
  rw [← hg] at VS ⊢
  clear hg
  refine (drBu _ l _ RC.out y hl).mono ?_
  rintro e w8 ⟨u, ds, x, rfl, hW, hd, hB⟩
  obtain ⟨pw, cw, rfl, -, -, -⟩ := hW.parts
  replace RC := hid (RC.out.below hB)
  replace HV := hid (HV.out.below hB)
  replace VA := hid (var_below hB VA.out)
  replace VC := hid (var_below hB VC.out)
  replace VR := hid (var_below hB VR.out)
  replace VS := hid (var_below hB VS.out)
  replace BB := hid (BB.out.trans (hB.mono BB.out.size))
  clear hB
  have HW := hid hW
  clear hW RC
  have VW := hid (heap_alloc_new w8 (.cells #[.int .i64 x.a, .int .i64 x.b, .int .i64 x.c, .int .i64 x.d, .int .i64 x.e, .int .i64 x.f, .int .i64 x.g] 63))
  have hA := below_alloc1 w8 (.cells #[.int .i64 x.a, .int .i64 x.b, .int .i64 x.c, .int .i64 x.d, .int .i64 x.e, .int .i64 x.f, .int .i64 x.g] 63)
  replace HV := hid (HV.out.below hA)
  replace HW := hid (HW.out.below hA)
  replace VA := hid (var_below hA VA.out)
  replace VC := hid (var_below hA VC.out)
  replace VR := hid (var_below hA VR.out)
  replace VS := hid (var_below hA VS.out)
  replace BB := hid (BB.out.trans (hA.mono BB.out.size))
  clear hA
  obtain ⟨⟨w_0, w_1, w_2, w_3, w_4, w_5, w_6⟩, -⟩ := v7_facts VW.out
  go_wp2_with fail
  generalize w8.alloc (.cells #[.int .i64 x.a, .int .i64 x.b, .int .i64 x.c, .int .i64 x.d, .int .i64 x.e, .int .i64 x.f, .int .i64 x.g] 63) = w9 at *
  obtain ⟨gw, hg⟩ : ∃ g, g = w8.heap.size := ⟨_, rfl⟩
  rw [← hg] at VW ⊢
  clear hg w_0 w_1 w_2 w_3 w_4 w_5 w_6
  obtain ⟨t, ht⟩ : ∃ t, t = buA ds x := ⟨_, rfl⟩
  have IB := hid (fun (w : World) (v : Value) (h : RdC w v ds) => show Calls Try.prog 34 #[v, .agg #[.int .i64 x.a, .int .i64 x.b, .int .i64 x.c, .int .i64 x.d, .int .i64 x.e, .int .i64 x.f, .int .i64 x.g]] w fun e w' => e = .returned (.agg #[.int .i64 t.1, .int .i64 t.2.1.n, .int .i64 t.2.1.i, .int .i64 t.2.1.s, .int .i64 t.2.1.m, .bool t.2.2]) ∧ Below w.heap.size w w' by rw [ht]; exact ibur v ds x w h)
  have SB := hid (fun (w : World) (v : Value) (h : RdC w v ds) => show Calls Try.prog 37 #[v, .agg #[.int .i64 x.a, .int .i64 x.b, .int .i64 x.c, .int .i64 x.d, .int .i64 x.e, .int .i64 x.f, .int .i64 x.g]] w fun e w' => e = .returned (.agg #[.int .i64 t.1, .int .i64 t.2.1.n, .int .i64 t.2.1.i, .int .i64 t.2.1.s, .int .i64 t.2.1.m, .bool t.2.2]) ∧ Below w.heap.size w w' by rw [ht]; exact sbur v ds x w h)
  have FB := hid (fun h1 : t.2.2 = true => by rw [ht] at h1 ⊢; obtain ⟨X, e1, e2, e3, e4, e5, e6⟩ := bu_law h1; exact ⟨X, e1, e2, e4, e5, e6⟩ : t.2.2 = true → ∃ X : Clm, fcC ds x.c = 0 ∧ fcL ds x.c = [X] ∧ t.2.1.i = x.d ∧ t.2.1.s = 2 ∧ bC t.2.1 X = true)
  clear ht
  refine (IB.out _ _ HW.out).mono ?_
  rintro e w10 ⟨rfl, hB⟩
  replace HV := hid (HV.out.below hB)
  replace HW := hid (HW.out.below hB)
  replace VA := hid (var_below hB VA.out)
  replace VC := hid (var_below hB VC.out)
  replace VR := hid (var_below hB VR.out)
  replace VS := hid (var_below hB VS.out)
  replace VW := hid (var_below hB VW.out)
  replace BB := hid (BB.out.trans (hB.mono BB.out.size))
  clear hB
  have VB := hid (heap_alloc_new w10 (.cells #[.int .i64 t.1, .int .i64 t.2.1.n, .int .i64 t.2.1.i, .int .i64 t.2.1.s, .int .i64 t.2.1.m, .bool t.2.2] 57))
  have hA := below_alloc1 w10 (.cells #[.int .i64 t.1, .int .i64 t.2.1.n, .int .i64 t.2.1.i, .int .i64 t.2.1.s, .int .i64 t.2.1.m, .bool t.2.2] 57)
  replace HV := hid (HV.out.below hA)
  replace HW := hid (HW.out.below hA)
  replace VA := hid (var_below hA VA.out)
  replace VC := hid (var_below hA VC.out)
  replace VR := hid (var_below hA VR.out)
  replace VS := hid (var_below hA VS.out)
  replace VW := hid (var_below hA VW.out)
  replace BB := hid (BB.out.trans (hA.mono BB.out.size))
  clear hA
  obtain ⟨w11, hw11⟩ : ∃ z, z = w10.alloc (.cells #[.int .i64 t.1, .int .i64 t.2.1.n, .int .i64 t.2.1.i, .int .i64 t.2.1.s, .int .i64 t.2.1.m, .bool t.2.2] 57) := ⟨_, rfl⟩
  go_wp2
  rw [← hw11] at VA VC VR VS VW VB HV HW BB ⊢
  clear hw11
  obtain ⟨gt, hg⟩ : ∃ g, g = w10.heap.size := ⟨_, rfl⟩
  rw [← hg] at VB ⊢
  clear hg IR IS IB
  obtain ⟨⟨a0, a1, a2, a3⟩, -⟩ := var4_facts VA.out
  obtain ⟨⟨c0, c1, c2, c3⟩, -⟩ := var4_facts VC.out
  obtain ⟨⟨r0, r1, r2, r3, r4, r5⟩, -⟩ := v6_facts VR.out
  obtain ⟨⟨s0, s1, s2, s3, s4, s5⟩, -⟩ := v6_facts VS.out
  obtain ⟨⟨w_0, w_1, w_2, w_3, w_4, w_5, w_6⟩, -⟩ := v7_facts VW.out
  obtain ⟨⟨b0, b1, b2, b3, b4, b5⟩, -⟩ := v6_facts VB.out
  refine wp_region_held_drew (S := fun w' => Below w11.heap.size w11 w') (by kernel_rfl) (Below.refl _ _).drew (fun hH => ?_)
  generalize w11.drew = y0 at hH ⊢
  refine wpAnyH_take (i := 0) (v := .agg #[.int .i64 r.1, .int .i64 r.2.1.n, .int .i64 r.2.1.i, .int .i64 r.2.1.s, .int .i64 r.2.1.m, .bool r.2.2]) (by simp only [List.getElem?_toArray, List.getElem?_cons_zero]; rfl) (by kernel_rfl) (by kernel_rfl) (by kernel_rfl) (by intro _ _ _ h; exact h) (Or.inl ⟨by rfl, fun w hS => by (have y0 := cell_kept hS r0; have y1 := cell_kept hS r1; have y2 := cell_kept hS r2; have y3 := cell_kept hS r3; have y4 := cell_kept hS r4; have y5 := cell_kept hS r5; go_simp)⟩) hH ?_
  simp only [Act.put, List.setIfInBounds_toArray, List.set_cons_zero, List.set_cons_succ]
  refine wpAnyH_take (i := 1) (v := .agg #[.int .i64 a.n, .int .i64 a.i, .int .i64 a.s, .int .i64 a.m]) (by simp only [List.getElem?_toArray, List.getElem?_cons_succ, List.getElem?_cons_zero]; rfl) (by kernel_rfl) (by kernel_rfl) (by kernel_rfl) (by intro _ _ _ h; exact h) (Or.inl ⟨by rfl, fun w hS => by (have y0 := cell_kept hS a0; have y1 := cell_kept hS a1; have y2 := cell_kept hS a2; have y3 := cell_kept hS a3; go_simp)⟩) hH ?_
  simp only [Act.put, List.setIfInBounds_toArray, List.set_cons_zero, List.set_cons_succ]
  refine wpAnyH_take (i := 2) (v := .agg #[.int .i64 b.n, .int .i64 b.i, .int .i64 b.s, .int .i64 b.m]) (by simp only [List.getElem?_toArray, List.getElem?_cons_succ, List.getElem?_cons_zero]; rfl) (by kernel_rfl) (by kernel_rfl) (by kernel_rfl) (by intro _ _ _ h; exact h) (Or.inl ⟨by rfl, fun w hS => by (have y0 := cell_kept hS c0; have y1 := cell_kept hS c1; have y2 := cell_kept hS c2; have y3 := cell_kept hS c3; go_simp)⟩) hH ?_
  simp only [Act.put, List.setIfInBounds_toArray, List.set_cons_zero, List.set_cons_succ]
  refine wpAnyH_ready (rs := [3]) (by kernel_rfl) (by simp) ?_
  refine AllReadyH.cons (by simp only [List.getElem?_toArray, List.getElem?_cons_succ, List.getElem?_cons_zero]; rfl) (fun K hK => ?_) AllReadyH.nil
  go_simp
  refine (SR.out _).mono ?_
  rintro e x3 ⟨rfl, hM⟩
  refine hK.out _ _ (hH.trans (hM.mono hH.size)) (fun hH => ?_)
  clear hK K hM
  refine wpAnyH_take (i := 4) (v := .bool false) (by simp only [List.getElem?_toArray, List.getElem?_cons_succ, List.getElem?_cons_zero]; rfl) (by kernel_rfl) (by kernel_rfl) (by kernel_rfl) (by intro _ _ _ h; exact h) (Or.inl ⟨by rfl, fun w hS => by (have hn := neq_clr r; go_simp)⟩) hH ?_
  simp only [Act.put, List.setIfInBounds_toArray, List.set_cons_zero, List.set_cons_succ]
  refine wpAnyH_take (i := 5) (v := .bool false) (by simp only [List.getElem?_toArray, List.getElem?_cons_succ, List.getElem?_cons_zero]; rfl) (by kernel_rfl) (by kernel_rfl) (by kernel_rfl) (by intro _ _ _ h; exact h) (Or.inl ⟨by rfl, fun w hS => by go_simp⟩) hH ?_
  simp only [Act.put, List.setIfInBounds_toArray, List.set_cons_zero, List.set_cons_succ]
  refine wpAnyH_take (i := 6) (v := .agg #[.int .i64 s.1, .int .i64 s.2.1.n, .int .i64 s.2.1.i, .int .i64 s.2.1.s, .int .i64 s.2.1.m, .bool s.2.2]) (by simp only [List.getElem?_toArray, List.getElem?_cons_succ, List.getElem?_cons_zero]; rfl) (by kernel_rfl) (by kernel_rfl) (by kernel_rfl) (by intro _ _ _ h; exact h) (Or.inl ⟨by rfl, fun w hS => by (have y0 := cell_kept hS s0; have y1 := cell_kept hS s1; have y2 := cell_kept hS s2; have y3 := cell_kept hS s3; have y4 := cell_kept hS s4; have y5 := cell_kept hS s5; go_simp)⟩) hH ?_
  simp only [Act.put, List.setIfInBounds_toArray, List.set_cons_zero, List.set_cons_succ]
  refine wpAnyH_take (i := 7) (v := .slice pv cs.length cv) (by simp only [List.getElem?_toArray, List.getElem?_cons_succ, List.getElem?_cons_zero]; rfl) (by kernel_rfl) (by kernel_rfl) (by kernel_rfl) (by intro _ _ _ h; exact h) (Or.inl ⟨by rfl, fun w hS => by go_simp⟩) hH ?_
  simp only [Act.put, List.setIfInBounds_toArray, List.set_cons_zero, List.set_cons_succ]
  refine wpAnyH_take (i := 8) (v := .int .i64 n) (by simp only [List.getElem?_toArray, List.getElem?_cons_succ, List.getElem?_cons_zero]; rfl) (by kernel_rfl) (by kernel_rfl) (by kernel_rfl) (by intro _ _ _ h; exact h) (Or.inl ⟨by rfl, fun w hS => by go_simp⟩) hH ?_
  simp only [Act.put, List.setIfInBounds_toArray, List.set_cons_zero, List.set_cons_succ]
  refine wpAnyH_ready (rs := [9]) (by kernel_rfl) (by simp) ?_
  refine AllReadyH.cons (by simp only [List.getElem?_toArray, List.getElem?_cons_succ, List.getElem?_cons_zero]; rfl) (fun K hK => ?_) AllReadyH.nil
  go_simp
  refine (SS.out _ _ (HV.out.below hH)).mono ?_
  rintro e x9 ⟨rfl, hM⟩
  refine hK.out _ _ (hH.trans (hM.mono hH.size)) (fun hH => ?_)
  clear hK K hM
  refine wpAnyH_take (i := 10) (v := .bool false) (by simp only [List.getElem?_toArray, List.getElem?_cons_succ, List.getElem?_cons_zero]; rfl) (by kernel_rfl) (by kernel_rfl) (by kernel_rfl) (by intro _ _ _ h; exact h) (Or.inl ⟨by rfl, fun w hS => by (have hn := neq_clr s; go_simp)⟩) hH ?_
  simp only [Act.put, List.setIfInBounds_toArray, List.set_cons_zero, List.set_cons_succ]
  refine wpAnyH_take (i := 11) (v := .bool false) (by simp only [List.getElem?_toArray, List.getElem?_cons_succ, List.getElem?_cons_zero]; rfl) (by kernel_rfl) (by kernel_rfl) (by kernel_rfl) (by intro _ _ _ h; exact h) (Or.inl ⟨by rfl, fun w hS => by go_simp⟩) hH ?_
  simp only [Act.put, List.setIfInBounds_toArray, List.set_cons_zero, List.set_cons_succ]
  refine wpAnyH_take (i := 12) (v := .bool false) (by simp only [List.getElem?_toArray, List.getElem?_cons_succ, List.getElem?_cons_zero]; rfl) (by kernel_rfl) (by kernel_rfl) (by kernel_rfl) (by intro _ _ _ h; exact h) (Or.inl ⟨by rfl, fun w hS => by go_simp⟩) hH ?_
  simp only [Act.put, List.setIfInBounds_toArray, List.set_cons_zero, List.set_cons_succ]
  refine wpAnyH_take (i := 13) (v := .agg #[.int .i64 t.1, .int .i64 t.2.1.n, .int .i64 t.2.1.i, .int .i64 t.2.1.s, .int .i64 t.2.1.m, .bool t.2.2]) (by simp only [List.getElem?_toArray, List.getElem?_cons_succ, List.getElem?_cons_zero]; rfl) (by kernel_rfl) (by kernel_rfl) (by kernel_rfl) (by intro _ _ _ h; exact h) (Or.inl ⟨by rfl, fun w hS => by (have y0 := cell_kept hS b0; have y1 := cell_kept hS b1; have y2 := cell_kept hS b2; have y3 := cell_kept hS b3; have y4 := cell_kept hS b4; have y5 := cell_kept hS b5; go_simp)⟩) hH ?_
  simp only [Act.put, List.setIfInBounds_toArray, List.set_cons_zero, List.set_cons_succ]
  refine wpAnyH_take (i := 14) (v := .slice pw ds.length cw) (by simp only [List.getElem?_toArray, List.getElem?_cons_succ, List.getElem?_cons_zero]; rfl) (by kernel_rfl) (by kernel_rfl) (by kernel_rfl) (by intro _ _ _ h; exact h) (Or.inl ⟨by rfl, fun w hS => by go_simp⟩) hH ?_
  simp only [Act.put, List.setIfInBounds_toArray, List.set_cons_zero, List.set_cons_succ]
  refine wpAnyH_take (i := 15) (v := .agg #[.int .i64 x.a, .int .i64 x.b, .int .i64 x.c, .int .i64 x.d, .int .i64 x.e, .int .i64 x.f, .int .i64 x.g]) (by simp only [List.getElem?_toArray, List.getElem?_cons_succ, List.getElem?_cons_zero]; rfl) (by kernel_rfl) (by kernel_rfl) (by kernel_rfl) (by intro _ _ _ h; exact h) (Or.inl ⟨by rfl, fun w hS => by (have y0 := cell_kept hS w_0; have y1 := cell_kept hS w_1; have y2 := cell_kept hS w_2; have y3 := cell_kept hS w_3; have y4 := cell_kept hS w_4; have y5 := cell_kept hS w_5; have y6 := cell_kept hS w_6; go_simp)⟩) hH ?_
  simp only [Act.put, List.setIfInBounds_toArray, List.set_cons_zero, List.set_cons_succ]
  refine wpAnyH_ready (rs := [16]) (by kernel_rfl) (by simp) ?_
  refine AllReadyH.cons (by simp only [List.getElem?_toArray, List.getElem?_cons_succ, List.getElem?_cons_zero]; rfl) (fun K hK => ?_) AllReadyH.nil
  go_simp
  refine (SB.out _ _ (HW.out.below hH)).mono ?_
  rintro e x16 ⟨rfl, hM⟩
  refine hK.out _ _ (hH.trans (hM.mono hH.size)) (fun hH => ?_)
  clear hK K hM
  refine wpAnyH_take (i := 17) (v := .bool false) (by simp only [List.getElem?_toArray, List.getElem?_cons_succ, List.getElem?_cons_zero]; rfl) (by kernel_rfl) (by kernel_rfl) (by kernel_rfl) (by intro _ _ _ h; exact h) (Or.inl ⟨by rfl, fun w hS => by (have hn := neq_clr t; go_simp)⟩) hH ?_
  simp only [Act.put, List.setIfInBounds_toArray, List.set_cons_zero, List.set_cons_succ]
  refine wpAnyH_take (i := 18) (v := .bool false) (by simp only [List.getElem?_toArray, List.getElem?_cons_succ, List.getElem?_cons_zero]; rfl) (by kernel_rfl) (by kernel_rfl) (by kernel_rfl) (by intro _ _ _ h; exact h) (Or.inl ⟨by rfl, fun w hS => by go_simp⟩) hH ?_
  simp only [Act.put, List.setIfInBounds_toArray, List.set_cons_zero, List.set_cons_succ]
  refine wpAnyH_done (by kernel_rfl) ?_ _
  have hB := hH
  clear hH a0 a1 a2 a3 c0 c1 c2 c3 r0 r1 r2 r3 r4 r5 s0 s1 s2 s3 s4 s5 w_0 w_1 w_2 w_3 w_4 w_5 w_6 b0 b1 b2 b3 b4 b5
  replace HV := hid (HV.out.below hB)
  replace HW := hid (HW.out.below hB)
  replace VA := hid (var_below hB VA.out)
  replace VC := hid (var_below hB VC.out)
  replace VR := hid (var_below hB VR.out)
  replace VS := hid (var_below hB VS.out)
  replace VW := hid (var_below hB VW.out)
  replace VB := hid (var_below hB VB.out)
  replace BB := hid (BB.out.trans (hB.mono BB.out.size))
  clear hB
  generalize x16 = w12 at *
  clear SR SS SB
  by_cases h0 : s.1 = 0
  case neg =>
    have nz : (s.1 == 0) = false := by simpa using h0
    go_wp2
    obtain ⟨⟨s0, s1, s2, s3, s4, s5⟩, -⟩ := v6_facts VS.out
    refine wp_region_held_drew (S := fun w' => Below w12.heap.size w12 w') (by kernel_rfl) (Below.refl _ _).drew (fun hH => ?_)
    generalize w12.drew = y0 at hH ⊢
    refine wpAnyH_take (i := 0) (v := .pointer (some ⟨gs, 0, none⟩)) (by simp only [List.getElem?_toArray, List.getElem?_cons_zero]; rfl) (by kernel_rfl) (by kernel_rfl) (by kernel_rfl) (by intro _ _ _ h; exact h) (Or.inl ⟨by rfl, fun w hS => by go_simp⟩) hH ?_
    simp only [Act.put, List.setIfInBounds_toArray, List.set_cons_zero, List.set_cons_succ]
    refine wpAnyH_take (i := 1) (v := .int .i64 s.1) (by simp only [List.getElem?_toArray, List.getElem?_cons_succ, List.getElem?_cons_zero]; rfl) (by kernel_rfl) (by kernel_rfl) (by kernel_rfl) (by intro _ _ _ h; exact h) (Or.inl ⟨by rfl, fun w hS => by (have y0 := cell_kept hS s0; go_simp)⟩) hH ?_
    simp only [Act.put, List.setIfInBounds_toArray, List.set_cons_zero, List.set_cons_succ]
    refine wpAnyH_take (i := 2) (v := .bool false) (by simp only [List.getElem?_toArray, List.getElem?_cons_succ, List.getElem?_cons_zero]; rfl) (by kernel_rfl) (by kernel_rfl) (by kernel_rfl) (by intro _ _ _ h; exact h) (Or.inl ⟨by rfl, fun w hS => by go_simp⟩) hH ?_
    simp only [Act.put, List.setIfInBounds_toArray, List.set_cons_zero, List.set_cons_succ]
    refine wpAnyH_take (i := 3) (v := .bool false) (by simp only [List.getElem?_toArray, List.getElem?_cons_succ, List.getElem?_cons_zero]; rfl) (by kernel_rfl) (by kernel_rfl) (by kernel_rfl) (by intro _ _ _ h; exact h) (Or.inl ⟨by rfl, fun w hS => by go_simp⟩) hH ?_
    simp only [Act.put, List.setIfInBounds_toArray, List.set_cons_zero, List.set_cons_succ]
    refine wpAnyH_take (i := 4) (v := undef) (by simp only [List.getElem?_toArray, List.getElem?_cons_succ, List.getElem?_cons_zero]; rfl) (by kernel_rfl) (by kernel_rfl) (by kernel_rfl) (by intro _ _ _ h; exact h) (Or.inr ⟨by rfl, rfl⟩) hH ?_
    simp only [Act.put, List.setIfInBounds_toArray, List.set_cons_zero, List.set_cons_succ]
    refine wpAnyH_take (i := 5) (v := undef) (by simp only [List.getElem?_toArray, List.getElem?_cons_succ, List.getElem?_cons_zero]; rfl) (by kernel_rfl) (by kernel_rfl) (by kernel_rfl) (by intro _ _ _ h; exact h) (Or.inr ⟨by rfl, rfl⟩) hH ?_
    simp only [Act.put, List.setIfInBounds_toArray, List.set_cons_zero, List.set_cons_succ]
    refine wpAnyH_take (i := 6) (v := .bool false) (by simp only [List.getElem?_toArray, List.getElem?_cons_succ, List.getElem?_cons_zero]; rfl) (by kernel_rfl) (by kernel_rfl) (by kernel_rfl) (by intro _ _ _ h; exact h) (Or.inl ⟨by rfl, fun w hS => by go_simp⟩) hH ?_
    simp only [Act.put, List.setIfInBounds_toArray, List.set_cons_zero, List.set_cons_succ]
    refine wpAnyH_take (i := 7) (v := .bool false) (by simp only [List.getElem?_toArray, List.getElem?_cons_succ, List.getElem?_cons_zero]; rfl) (by kernel_rfl) (by kernel_rfl) (by kernel_rfl) (by intro _ _ _ h; exact h) (Or.inl ⟨by rfl, fun w hS => by go_simp⟩) hH ?_
    simp only [Act.put, List.setIfInBounds_toArray, List.set_cons_zero, List.set_cons_succ]
    refine wpAnyH_take (i := 8) (v := undef) (by simp only [List.getElem?_toArray, List.getElem?_cons_succ, List.getElem?_cons_zero]; rfl) (by kernel_rfl) (by kernel_rfl) (by kernel_rfl) (by intro _ _ _ h; exact h) (Or.inr ⟨by rfl, rfl⟩) hH ?_
    simp only [Act.put, List.setIfInBounds_toArray, List.set_cons_zero, List.set_cons_succ]
    refine wpAnyH_take (i := 9) (v := undef) (by simp only [List.getElem?_toArray, List.getElem?_cons_succ, List.getElem?_cons_zero]; rfl) (by kernel_rfl) (by kernel_rfl) (by kernel_rfl) (by intro _ _ _ h; exact h) (Or.inr ⟨by rfl, rfl⟩) hH ?_
    simp only [Act.put, List.setIfInBounds_toArray, List.set_cons_zero, List.set_cons_succ]
    refine wpAnyH_take (i := 10) (v := undef) (by simp only [List.getElem?_toArray, List.getElem?_cons_succ, List.getElem?_cons_zero]; rfl) (by kernel_rfl) (by kernel_rfl) (by kernel_rfl) (by intro _ _ _ h; exact h) (Or.inr ⟨by rfl, rfl⟩) hH ?_
    simp only [Act.put, List.setIfInBounds_toArray, List.set_cons_zero, List.set_cons_succ]
    refine wpAnyH_take (i := 11) (v := undef) (by simp only [List.getElem?_toArray, List.getElem?_cons_succ, List.getElem?_cons_zero]; rfl) (by kernel_rfl) (by kernel_rfl) (by kernel_rfl) (by intro _ _ _ h; exact h) (Or.inr ⟨by rfl, rfl⟩) hH ?_
    simp only [Act.put, List.setIfInBounds_toArray, List.set_cons_zero, List.set_cons_succ]
    refine wpAnyH_take (i := 12) (v := undef) (by simp only [List.getElem?_toArray, List.getElem?_cons_succ, List.getElem?_cons_zero]; rfl) (by kernel_rfl) (by kernel_rfl) (by kernel_rfl) (by intro _ _ _ h; exact h) (Or.inr ⟨by rfl, rfl⟩) hH ?_
    simp only [Act.put, List.setIfInBounds_toArray, List.set_cons_zero, List.set_cons_succ]
    refine wpAnyH_take (i := 13) (v := undef) (by simp only [List.getElem?_toArray, List.getElem?_cons_succ, List.getElem?_cons_zero]; rfl) (by kernel_rfl) (by kernel_rfl) (by kernel_rfl) (by intro _ _ _ h; exact h) (Or.inr ⟨by rfl, rfl⟩) hH ?_
    simp only [Act.put, List.setIfInBounds_toArray, List.set_cons_zero, List.set_cons_succ]
    refine wpAnyH_take (i := 14) (v := undef) (by simp only [List.getElem?_toArray, List.getElem?_cons_succ, List.getElem?_cons_zero]; rfl) (by kernel_rfl) (by kernel_rfl) (by kernel_rfl) (by intro _ _ _ h; exact h) (Or.inr ⟨by rfl, rfl⟩) hH ?_
    simp only [Act.put, List.setIfInBounds_toArray, List.set_cons_zero, List.set_cons_succ]
    refine wpAnyH_take (i := 15) (v := undef) (by simp only [List.getElem?_toArray, List.getElem?_cons_succ, List.getElem?_cons_zero]; rfl) (by kernel_rfl) (by kernel_rfl) (by kernel_rfl) (by intro _ _ _ h; exact h) (Or.inr ⟨by rfl, rfl⟩) hH ?_
    simp only [Act.put, List.setIfInBounds_toArray, List.set_cons_zero, List.set_cons_succ]
    refine wpAnyH_take (i := 16) (v := undef) (by simp only [List.getElem?_toArray, List.getElem?_cons_succ, List.getElem?_cons_zero]; rfl) (by kernel_rfl) (by kernel_rfl) (by kernel_rfl) (by intro _ _ _ h; exact h) (Or.inr ⟨by rfl, rfl⟩) hH ?_
    simp only [Act.put, List.setIfInBounds_toArray, List.set_cons_zero, List.set_cons_succ]
    refine wpAnyH_take (i := 17) (v := undef) (by simp only [List.getElem?_toArray, List.getElem?_cons_succ, List.getElem?_cons_zero]; rfl) (by kernel_rfl) (by kernel_rfl) (by kernel_rfl) (by intro _ _ _ h; exact h) (Or.inr ⟨by rfl, rfl⟩) hH ?_
    simp only [Act.put, List.setIfInBounds_toArray, List.set_cons_zero, List.set_cons_succ]
    refine wpAnyH_take (i := 18) (v := undef) (by simp only [List.getElem?_toArray, List.getElem?_cons_succ, List.getElem?_cons_zero]; rfl) (by kernel_rfl) (by kernel_rfl) (by kernel_rfl) (by intro _ _ _ h; exact h) (Or.inr ⟨by rfl, rfl⟩) hH ?_
    simp only [Act.put, List.setIfInBounds_toArray, List.set_cons_zero, List.set_cons_succ]
    refine wpAnyH_take (i := 19) (v := undef) (by simp only [List.getElem?_toArray, List.getElem?_cons_succ, List.getElem?_cons_zero]; rfl) (by kernel_rfl) (by kernel_rfl) (by kernel_rfl) (by intro _ _ _ h; exact h) (Or.inr ⟨by rfl, rfl⟩) hH ?_
    simp only [Act.put, List.setIfInBounds_toArray, List.set_cons_zero, List.set_cons_succ]
    refine wpAnyH_take (i := 20) (v := undef) (by simp only [List.getElem?_toArray, List.getElem?_cons_succ, List.getElem?_cons_zero]; rfl) (by kernel_rfl) (by kernel_rfl) (by kernel_rfl) (by intro _ _ _ h; exact h) (Or.inr ⟨by rfl, rfl⟩) hH ?_
    simp only [Act.put, List.setIfInBounds_toArray, List.set_cons_zero, List.set_cons_succ]
    refine wpAnyH_take (i := 21) (v := undef) (by simp only [List.getElem?_toArray, List.getElem?_cons_succ, List.getElem?_cons_zero]; rfl) (by kernel_rfl) (by kernel_rfl) (by kernel_rfl) (by intro _ _ _ h; exact h) (Or.inr ⟨by rfl, rfl⟩) hH ?_
    simp only [Act.put, List.setIfInBounds_toArray, List.set_cons_zero, List.set_cons_succ]
    refine wpAnyH_take (i := 22) (v := undef) (by simp only [List.getElem?_toArray, List.getElem?_cons_succ, List.getElem?_cons_zero]; rfl) (by kernel_rfl) (by kernel_rfl) (by kernel_rfl) (by intro _ _ _ h; exact h) (Or.inr ⟨by rfl, rfl⟩) hH ?_
    simp only [Act.put, List.setIfInBounds_toArray, List.set_cons_zero, List.set_cons_succ]
    refine wpAnyH_take (i := 23) (v := undef) (by simp only [List.getElem?_toArray, List.getElem?_cons_succ, List.getElem?_cons_zero]; rfl) (by kernel_rfl) (by kernel_rfl) (by kernel_rfl) (by intro _ _ _ h; exact h) (Or.inr ⟨by rfl, rfl⟩) hH ?_
    simp only [Act.put, List.setIfInBounds_toArray, List.set_cons_zero, List.set_cons_succ]
    refine wpAnyH_take (i := 24) (v := undef) (by simp only [List.getElem?_toArray, List.getElem?_cons_succ, List.getElem?_cons_zero]; rfl) (by kernel_rfl) (by kernel_rfl) (by kernel_rfl) (by intro _ _ _ h; exact h) (Or.inr ⟨by rfl, rfl⟩) hH ?_
    simp only [Act.put, List.setIfInBounds_toArray, List.set_cons_zero, List.set_cons_succ]
    refine wpAnyH_take (i := 25) (v := undef) (by simp only [List.getElem?_toArray, List.getElem?_cons_succ, List.getElem?_cons_zero]; rfl) (by kernel_rfl) (by kernel_rfl) (by kernel_rfl) (by intro _ _ _ h; exact h) (Or.inr ⟨by rfl, rfl⟩) hH ?_
    simp only [Act.put, List.setIfInBounds_toArray, List.set_cons_zero, List.set_cons_succ]
    refine wpAnyH_take (i := 26) (v := undef) (by simp only [List.getElem?_toArray, List.getElem?_cons_succ, List.getElem?_cons_zero]; rfl) (by kernel_rfl) (by kernel_rfl) (by kernel_rfl) (by intro _ _ _ h; exact h) (Or.inr ⟨by rfl, rfl⟩) hH ?_
    simp only [Act.put, List.setIfInBounds_toArray, List.set_cons_zero, List.set_cons_succ]
    refine wpAnyH_take (i := 27) (v := undef) (by simp only [List.getElem?_toArray, List.getElem?_cons_succ, List.getElem?_cons_zero]; rfl) (by kernel_rfl) (by kernel_rfl) (by kernel_rfl) (by intro _ _ _ h; exact h) (Or.inr ⟨by rfl, rfl⟩) hH ?_
    simp only [Act.put, List.setIfInBounds_toArray, List.set_cons_zero, List.set_cons_succ]
    refine wpAnyH_take (i := 28) (v := undef) (by simp only [List.getElem?_toArray, List.getElem?_cons_succ, List.getElem?_cons_zero]; rfl) (by kernel_rfl) (by kernel_rfl) (by kernel_rfl) (by intro _ _ _ h; exact h) (Or.inr ⟨by rfl, rfl⟩) hH ?_
    simp only [Act.put, List.setIfInBounds_toArray, List.set_cons_zero, List.set_cons_succ]
    refine wpAnyH_take (i := 29) (v := undef) (by simp only [List.getElem?_toArray, List.getElem?_cons_succ, List.getElem?_cons_zero]; rfl) (by kernel_rfl) (by kernel_rfl) (by kernel_rfl) (by intro _ _ _ h; exact h) (Or.inr ⟨by rfl, rfl⟩) hH ?_
    simp only [Act.put, List.setIfInBounds_toArray, List.set_cons_zero, List.set_cons_succ]
    refine wpAnyH_take (i := 30) (v := undef) (by simp only [List.getElem?_toArray, List.getElem?_cons_succ, List.getElem?_cons_zero]; rfl) (by kernel_rfl) (by kernel_rfl) (by kernel_rfl) (by intro _ _ _ h; exact h) (Or.inr ⟨by rfl, rfl⟩) hH ?_
    simp only [Act.put, List.setIfInBounds_toArray, List.set_cons_zero, List.set_cons_succ]
    refine wpAnyH_take (i := 31) (v := .bool false) (by simp only [List.getElem?_toArray, List.getElem?_cons_succ, List.getElem?_cons_zero]; rfl) (by kernel_rfl) (by kernel_rfl) (by kernel_rfl) (by intro _ _ _ h; exact h) (Or.inl ⟨by rfl, fun w hS => by go_simp⟩) hH ?_
    simp only [Act.put, List.setIfInBounds_toArray, List.set_cons_zero, List.set_cons_succ]
    refine wpAnyH_done (by kernel_rfl) ?_ _
    have hB := hH
    clear hH s0 s1 s2 s3 s4 s5
    replace HV := hid (HV.out.below hB)
    replace HW := hid (HW.out.below hB)
    replace VA := hid (var_below hB VA.out)
    replace VC := hid (var_below hB VC.out)
    replace VR := hid (var_below hB VR.out)
    replace VS := hid (var_below hB VS.out)
    replace VW := hid (var_below hB VW.out)
    replace VB := hid (var_below hB VB.out)
    replace BB := hid (BB.out.trans (hB.mono BB.out.size))
    clear hB
    generalize y0 = w13 at *
    clear nz h0
    by_cases h0 : t.1 = 0
    case neg =>
      have nz : (t.1 == 0) = false := by simpa using h0
      go_wp2
      obtain ⟨⟨b0, b1, b2, b3, b4, b5⟩, -⟩ := v6_facts VB.out
      obtain ⟨⟨w_0, w_1, w_2, w_3, w_4, w_5, w_6⟩, -⟩ := v7_facts VW.out
      refine wp_region_held_drew (S := fun w' => Below w13.heap.size w13 w') (by kernel_rfl) (Below.refl _ _).drew (fun hH => ?_)
      generalize w13.drew = y0 at hH ⊢
      refine wpAnyH_take (i := 0) (v := .pointer (some ⟨gt, 0, none⟩)) (by simp only [List.getElem?_toArray, List.getElem?_cons_zero]; rfl) (by kernel_rfl) (by kernel_rfl) (by kernel_rfl) (by intro _ _ _ h; exact h) (Or.inl ⟨by rfl, fun w hS => by go_simp⟩) hH ?_
      simp only [Act.put, List.setIfInBounds_toArray, List.set_cons_zero, List.set_cons_succ]
      refine wpAnyH_take (i := 1) (v := .int .i64 t.1) (by simp only [List.getElem?_toArray, List.getElem?_cons_succ, List.getElem?_cons_zero]; rfl) (by kernel_rfl) (by kernel_rfl) (by kernel_rfl) (by intro _ _ _ h; exact h) (Or.inl ⟨by rfl, fun w hS => by (have y0 := cell_kept hS b0; go_simp)⟩) hH ?_
      simp only [Act.put, List.setIfInBounds_toArray, List.set_cons_zero, List.set_cons_succ]
      refine wpAnyH_take (i := 2) (v := .bool false) (by simp only [List.getElem?_toArray, List.getElem?_cons_succ, List.getElem?_cons_zero]; rfl) (by kernel_rfl) (by kernel_rfl) (by kernel_rfl) (by intro _ _ _ h; exact h) (Or.inl ⟨by rfl, fun w hS => by go_simp⟩) hH ?_
      simp only [Act.put, List.setIfInBounds_toArray, List.set_cons_zero, List.set_cons_succ]
      refine wpAnyH_take (i := 3) (v := .bool false) (by simp only [List.getElem?_toArray, List.getElem?_cons_succ, List.getElem?_cons_zero]; rfl) (by kernel_rfl) (by kernel_rfl) (by kernel_rfl) (by intro _ _ _ h; exact h) (Or.inl ⟨by rfl, fun w hS => by go_simp⟩) hH ?_
      simp only [Act.put, List.setIfInBounds_toArray, List.set_cons_zero, List.set_cons_succ]
      refine wpAnyH_take (i := 4) (v := undef) (by simp only [List.getElem?_toArray, List.getElem?_cons_succ, List.getElem?_cons_zero]; rfl) (by kernel_rfl) (by kernel_rfl) (by kernel_rfl) (by intro _ _ _ h; exact h) (Or.inr ⟨by rfl, rfl⟩) hH ?_
      simp only [Act.put, List.setIfInBounds_toArray, List.set_cons_zero, List.set_cons_succ]
      refine wpAnyH_take (i := 5) (v := undef) (by simp only [List.getElem?_toArray, List.getElem?_cons_succ, List.getElem?_cons_zero]; rfl) (by kernel_rfl) (by kernel_rfl) (by kernel_rfl) (by intro _ _ _ h; exact h) (Or.inr ⟨by rfl, rfl⟩) hH ?_
      simp only [Act.put, List.setIfInBounds_toArray, List.set_cons_zero, List.set_cons_succ]
      refine wpAnyH_take (i := 6) (v := .bool false) (by simp only [List.getElem?_toArray, List.getElem?_cons_succ, List.getElem?_cons_zero]; rfl) (by kernel_rfl) (by kernel_rfl) (by kernel_rfl) (by intro _ _ _ h; exact h) (Or.inl ⟨by rfl, fun w hS => by go_simp⟩) hH ?_
      simp only [Act.put, List.setIfInBounds_toArray, List.set_cons_zero, List.set_cons_succ]
      refine wpAnyH_take (i := 7) (v := .bool false) (by simp only [List.getElem?_toArray, List.getElem?_cons_succ, List.getElem?_cons_zero]; rfl) (by kernel_rfl) (by kernel_rfl) (by kernel_rfl) (by intro _ _ _ h; exact h) (Or.inl ⟨by rfl, fun w hS => by go_simp⟩) hH ?_
      simp only [Act.put, List.setIfInBounds_toArray, List.set_cons_zero, List.set_cons_succ]
      refine wpAnyH_take (i := 8) (v := undef) (by simp only [List.getElem?_toArray, List.getElem?_cons_succ, List.getElem?_cons_zero]; rfl) (by kernel_rfl) (by kernel_rfl) (by kernel_rfl) (by intro _ _ _ h; exact h) (Or.inr ⟨by rfl, rfl⟩) hH ?_
      simp only [Act.put, List.setIfInBounds_toArray, List.set_cons_zero, List.set_cons_succ]
      refine wpAnyH_take (i := 9) (v := undef) (by simp only [List.getElem?_toArray, List.getElem?_cons_succ, List.getElem?_cons_zero]; rfl) (by kernel_rfl) (by kernel_rfl) (by kernel_rfl) (by intro _ _ _ h; exact h) (Or.inr ⟨by rfl, rfl⟩) hH ?_
      simp only [Act.put, List.setIfInBounds_toArray, List.set_cons_zero, List.set_cons_succ]
      refine wpAnyH_take (i := 10) (v := undef) (by simp only [List.getElem?_toArray, List.getElem?_cons_succ, List.getElem?_cons_zero]; rfl) (by kernel_rfl) (by kernel_rfl) (by kernel_rfl) (by intro _ _ _ h; exact h) (Or.inr ⟨by rfl, rfl⟩) hH ?_
      simp only [Act.put, List.setIfInBounds_toArray, List.set_cons_zero, List.set_cons_succ]
      refine wpAnyH_take (i := 11) (v := undef) (by simp only [List.getElem?_toArray, List.getElem?_cons_succ, List.getElem?_cons_zero]; rfl) (by kernel_rfl) (by kernel_rfl) (by kernel_rfl) (by intro _ _ _ h; exact h) (Or.inr ⟨by rfl, rfl⟩) hH ?_
      simp only [Act.put, List.setIfInBounds_toArray, List.set_cons_zero, List.set_cons_succ]
      refine wpAnyH_take (i := 12) (v := undef) (by simp only [List.getElem?_toArray, List.getElem?_cons_succ, List.getElem?_cons_zero]; rfl) (by kernel_rfl) (by kernel_rfl) (by kernel_rfl) (by intro _ _ _ h; exact h) (Or.inr ⟨by rfl, rfl⟩) hH ?_
      simp only [Act.put, List.setIfInBounds_toArray, List.set_cons_zero, List.set_cons_succ]
      refine wpAnyH_take (i := 13) (v := undef) (by simp only [List.getElem?_toArray, List.getElem?_cons_succ, List.getElem?_cons_zero]; rfl) (by kernel_rfl) (by kernel_rfl) (by kernel_rfl) (by intro _ _ _ h; exact h) (Or.inr ⟨by rfl, rfl⟩) hH ?_
      simp only [Act.put, List.setIfInBounds_toArray, List.set_cons_zero, List.set_cons_succ]
      refine wpAnyH_take (i := 14) (v := undef) (by simp only [List.getElem?_toArray, List.getElem?_cons_succ, List.getElem?_cons_zero]; rfl) (by kernel_rfl) (by kernel_rfl) (by kernel_rfl) (by intro _ _ _ h; exact h) (Or.inr ⟨by rfl, rfl⟩) hH ?_
      simp only [Act.put, List.setIfInBounds_toArray, List.set_cons_zero, List.set_cons_succ]
      refine wpAnyH_take (i := 15) (v := undef) (by simp only [List.getElem?_toArray, List.getElem?_cons_succ, List.getElem?_cons_zero]; rfl) (by kernel_rfl) (by kernel_rfl) (by kernel_rfl) (by intro _ _ _ h; exact h) (Or.inr ⟨by rfl, rfl⟩) hH ?_
      simp only [Act.put, List.setIfInBounds_toArray, List.set_cons_zero, List.set_cons_succ]
      refine wpAnyH_take (i := 16) (v := undef) (by simp only [List.getElem?_toArray, List.getElem?_cons_succ, List.getElem?_cons_zero]; rfl) (by kernel_rfl) (by kernel_rfl) (by kernel_rfl) (by intro _ _ _ h; exact h) (Or.inr ⟨by rfl, rfl⟩) hH ?_
      simp only [Act.put, List.setIfInBounds_toArray, List.set_cons_zero, List.set_cons_succ]
      refine wpAnyH_take (i := 17) (v := undef) (by simp only [List.getElem?_toArray, List.getElem?_cons_succ, List.getElem?_cons_zero]; rfl) (by kernel_rfl) (by kernel_rfl) (by kernel_rfl) (by intro _ _ _ h; exact h) (Or.inr ⟨by rfl, rfl⟩) hH ?_
      simp only [Act.put, List.setIfInBounds_toArray, List.set_cons_zero, List.set_cons_succ]
      refine wpAnyH_take (i := 18) (v := undef) (by simp only [List.getElem?_toArray, List.getElem?_cons_succ, List.getElem?_cons_zero]; rfl) (by kernel_rfl) (by kernel_rfl) (by kernel_rfl) (by intro _ _ _ h; exact h) (Or.inr ⟨by rfl, rfl⟩) hH ?_
      simp only [Act.put, List.setIfInBounds_toArray, List.set_cons_zero, List.set_cons_succ]
      refine wpAnyH_take (i := 19) (v := undef) (by simp only [List.getElem?_toArray, List.getElem?_cons_succ, List.getElem?_cons_zero]; rfl) (by kernel_rfl) (by kernel_rfl) (by kernel_rfl) (by intro _ _ _ h; exact h) (Or.inr ⟨by rfl, rfl⟩) hH ?_
      simp only [Act.put, List.setIfInBounds_toArray, List.set_cons_zero, List.set_cons_succ]
      refine wpAnyH_take (i := 20) (v := undef) (by simp only [List.getElem?_toArray, List.getElem?_cons_succ, List.getElem?_cons_zero]; rfl) (by kernel_rfl) (by kernel_rfl) (by kernel_rfl) (by intro _ _ _ h; exact h) (Or.inr ⟨by rfl, rfl⟩) hH ?_
      simp only [Act.put, List.setIfInBounds_toArray, List.set_cons_zero, List.set_cons_succ]
      refine wpAnyH_take (i := 21) (v := undef) (by simp only [List.getElem?_toArray, List.getElem?_cons_succ, List.getElem?_cons_zero]; rfl) (by kernel_rfl) (by kernel_rfl) (by kernel_rfl) (by intro _ _ _ h; exact h) (Or.inr ⟨by rfl, rfl⟩) hH ?_
      simp only [Act.put, List.setIfInBounds_toArray, List.set_cons_zero, List.set_cons_succ]
      refine wpAnyH_take (i := 22) (v := undef) (by simp only [List.getElem?_toArray, List.getElem?_cons_succ, List.getElem?_cons_zero]; rfl) (by kernel_rfl) (by kernel_rfl) (by kernel_rfl) (by intro _ _ _ h; exact h) (Or.inr ⟨by rfl, rfl⟩) hH ?_
      simp only [Act.put, List.setIfInBounds_toArray, List.set_cons_zero, List.set_cons_succ]
      refine wpAnyH_take (i := 23) (v := undef) (by simp only [List.getElem?_toArray, List.getElem?_cons_succ, List.getElem?_cons_zero]; rfl) (by kernel_rfl) (by kernel_rfl) (by kernel_rfl) (by intro _ _ _ h; exact h) (Or.inr ⟨by rfl, rfl⟩) hH ?_
      simp only [Act.put, List.setIfInBounds_toArray, List.set_cons_zero, List.set_cons_succ]
      refine wpAnyH_take (i := 24) (v := undef) (by simp only [List.getElem?_toArray, List.getElem?_cons_succ, List.getElem?_cons_zero]; rfl) (by kernel_rfl) (by kernel_rfl) (by kernel_rfl) (by intro _ _ _ h; exact h) (Or.inr ⟨by rfl, rfl⟩) hH ?_
      simp only [Act.put, List.setIfInBounds_toArray, List.set_cons_zero, List.set_cons_succ]
      refine wpAnyH_take (i := 25) (v := undef) (by simp only [List.getElem?_toArray, List.getElem?_cons_succ, List.getElem?_cons_zero]; rfl) (by kernel_rfl) (by kernel_rfl) (by kernel_rfl) (by intro _ _ _ h; exact h) (Or.inr ⟨by rfl, rfl⟩) hH ?_
      simp only [Act.put, List.setIfInBounds_toArray, List.set_cons_zero, List.set_cons_succ]
      refine wpAnyH_take (i := 26) (v := undef) (by simp only [List.getElem?_toArray, List.getElem?_cons_succ, List.getElem?_cons_zero]; rfl) (by kernel_rfl) (by kernel_rfl) (by kernel_rfl) (by intro _ _ _ h; exact h) (Or.inr ⟨by rfl, rfl⟩) hH ?_
      simp only [Act.put, List.setIfInBounds_toArray, List.set_cons_zero, List.set_cons_succ]
      refine wpAnyH_take (i := 27) (v := undef) (by simp only [List.getElem?_toArray, List.getElem?_cons_succ, List.getElem?_cons_zero]; rfl) (by kernel_rfl) (by kernel_rfl) (by kernel_rfl) (by intro _ _ _ h; exact h) (Or.inr ⟨by rfl, rfl⟩) hH ?_
      simp only [Act.put, List.setIfInBounds_toArray, List.set_cons_zero, List.set_cons_succ]
      refine wpAnyH_take (i := 28) (v := undef) (by simp only [List.getElem?_toArray, List.getElem?_cons_succ, List.getElem?_cons_zero]; rfl) (by kernel_rfl) (by kernel_rfl) (by kernel_rfl) (by intro _ _ _ h; exact h) (Or.inr ⟨by rfl, rfl⟩) hH ?_
      simp only [Act.put, List.setIfInBounds_toArray, List.set_cons_zero, List.set_cons_succ]
      refine wpAnyH_take (i := 29) (v := undef) (by simp only [List.getElem?_toArray, List.getElem?_cons_succ, List.getElem?_cons_zero]; rfl) (by kernel_rfl) (by kernel_rfl) (by kernel_rfl) (by intro _ _ _ h; exact h) (Or.inr ⟨by rfl, rfl⟩) hH ?_
      simp only [Act.put, List.setIfInBounds_toArray, List.set_cons_zero, List.set_cons_succ]
      refine wpAnyH_take (i := 30) (v := undef) (by simp only [List.getElem?_toArray, List.getElem?_cons_succ, List.getElem?_cons_zero]; rfl) (by kernel_rfl) (by kernel_rfl) (by kernel_rfl) (by intro _ _ _ h; exact h) (Or.inr ⟨by rfl, rfl⟩) hH ?_
      simp only [Act.put, List.setIfInBounds_toArray, List.set_cons_zero, List.set_cons_succ]
      refine wpAnyH_take (i := 31) (v := undef) (by simp only [List.getElem?_toArray, List.getElem?_cons_succ, List.getElem?_cons_zero]; rfl) (by kernel_rfl) (by kernel_rfl) (by kernel_rfl) (by intro _ _ _ h; exact h) (Or.inr ⟨by rfl, rfl⟩) hH ?_
      simp only [Act.put, List.setIfInBounds_toArray, List.set_cons_zero, List.set_cons_succ]
      refine wpAnyH_take (i := 32) (v := undef) (by simp only [List.getElem?_toArray, List.getElem?_cons_succ, List.getElem?_cons_zero]; rfl) (by kernel_rfl) (by kernel_rfl) (by kernel_rfl) (by intro _ _ _ h; exact h) (Or.inr ⟨by rfl, rfl⟩) hH ?_
      simp only [Act.put, List.setIfInBounds_toArray, List.set_cons_zero, List.set_cons_succ]
      refine wpAnyH_take (i := 33) (v := .bool false) (by simp only [List.getElem?_toArray, List.getElem?_cons_succ, List.getElem?_cons_zero]; rfl) (by kernel_rfl) (by kernel_rfl) (by kernel_rfl) (by intro _ _ _ h; exact h) (Or.inl ⟨by rfl, fun w hS => by go_simp⟩) hH ?_
      simp only [Act.put, List.setIfInBounds_toArray, List.set_cons_zero, List.set_cons_succ]
      refine wpAnyH_done (by kernel_rfl) ?_ _
      have hB := hH
      clear hH b0 b1 b2 b3 b4 b5 w_0 w_1 w_2 w_3 w_4 w_5 w_6
      replace HV := hid (HV.out.below hB)
      replace HW := hid (HW.out.below hB)
      replace VA := hid (var_below hB VA.out)
      replace VC := hid (var_below hB VC.out)
      replace VR := hid (var_below hB VR.out)
      replace VS := hid (var_below hB VS.out)
      replace VW := hid (var_below hB VW.out)
      replace VB := hid (var_below hB VB.out)
      replace BB := hid (BB.out.trans (hB.mono BB.out.size))
      clear hB
      generalize y0 = w14 at *
      clear nz h0
      clear HV HW VS VW VB
      by_cases h0 : r.1 = 0
      case neg =>
        have nz : (r.1 != 0) = true := by rw [bne_iff_ne]; exact h0
        obtain ⟨⟨a0, a1, a2, a3⟩, -⟩ := var4_facts VA.out
        obtain ⟨⟨c0, c1, c2, c3⟩, -⟩ := var4_facts VC.out
        obtain ⟨⟨r0, r1, r2, r3, r4, r5⟩, -⟩ := v6_facts VR.out
        go_wp2
        go_ret
        exact ⟨rfl, BB.out⟩
      obtain ⟨f1, f2, f3, f4⟩ := FR.out h0
      replace f1 := hid f1
      rcases f4 with ⟨m, e⟩ | ⟨m, g1, g2, g3⟩
      · have Z := VR.out
        rw [h0, e, m] at Z
        rw [e] at f1
        replace VR := hid Z
        have hq := eql_clm a
        clear Z h0 f2 f3 e m
        obtain ⟨⟨a0, a1, a2, a3⟩, -⟩ := var4_facts VA.out
        obtain ⟨⟨c0, c1, c2, c3⟩, -⟩ := var4_facts VC.out
        obtain ⟨⟨r0, r1, r2, r3, r4, r5⟩, -⟩ := v6_facts VR.out
        go_wp2_with fail
        refine (ibt b a _).mono ?_
        rintro e z1 ⟨rfl, hB⟩
        rw [f1.out]
        clear a0 a1 a2 a3 c0 c1 c2 c3 r0 r1 r2 r3 r4 r5
        replace VA := hid (var_below hB VA.out)
        replace VC := hid (var_below hB VC.out)
        replace VR := hid (var_below hB VR.out)
        replace BB := hid (BB.out.trans (hB.mono BB.out.size))
        clear hB
        obtain ⟨⟨a0, a1, a2, a3⟩, -⟩ := var4_facts VA.out
        obtain ⟨⟨c0, c1, c2, c3⟩, -⟩ := var4_facts VC.out
        obtain ⟨⟨r0, r1, r2, r3, r4, r5⟩, -⟩ := v6_facts VR.out
        go_wp2
        go_ret
        exact ⟨rfl, BB.out⟩
      · have Z := VR.out
        rw [h0, m] at Z
        replace VR := hid Z
        have q1 : (r.2.1.n == a.n) = true := by simp [f2]
        have q2 : (r.2.1.m == a.m) = true := by simp [f3]
        have q3 : (r.2.1.s == 0) = true := by simp [g3]
        replace g1 := hid g1
        replace g2 := hid g2
        clear Z h0 f2 f3 m g3
        obtain ⟨⟨a0, a1, a2, a3⟩, -⟩ := var4_facts VA.out
        obtain ⟨⟨c0, c1, c2, c3⟩, -⟩ := var4_facts VC.out
        obtain ⟨⟨r0, r1, r2, r3, r4, r5⟩, -⟩ := v6_facts VR.out
        go_wp2_with fail
        refine (ibt b r.2.1 _).mono ?_
        rintro e z1 ⟨rfl, hB⟩
        rw [f1.out]
        clear a0 a1 a2 a3 c0 c1 c2 c3 r0 r1 r2 r3 r4 r5
        replace VA := hid (var_below hB VA.out)
        replace VC := hid (var_below hB VC.out)
        replace VR := hid (var_below hB VR.out)
        replace BB := hid (BB.out.trans (hB.mono BB.out.size))
        clear hB
        obtain ⟨⟨a0, a1, a2, a3⟩, -⟩ := var4_facts VA.out
        obtain ⟨⟨c0, c1, c2, c3⟩, -⟩ := var4_facts VC.out
        obtain ⟨⟨r0, r1, r2, r3, r4, r5⟩, -⟩ := v6_facts VR.out
        go_wp2_with fail
        refine (ibt r.2.1 a _).mono ?_
        rintro e z2 ⟨rfl, hB⟩
        rw [g1.out]
        clear a0 a1 a2 a3 c0 c1 c2 c3 r0 r1 r2 r3 r4 r5
        replace VA := hid (var_below hB VA.out)
        replace VC := hid (var_below hB VC.out)
        replace VR := hid (var_below hB VR.out)
        replace BB := hid (BB.out.trans (hB.mono BB.out.size))
        clear hB
        obtain ⟨⟨a0, a1, a2, a3⟩, -⟩ := var4_facts VA.out
        obtain ⟨⟨c0, c1, c2, c3⟩, -⟩ := var4_facts VC.out
        obtain ⟨⟨r0, r1, r2, r3, r4, r5⟩, -⟩ := v6_facts VR.out
        go_wp2_with fail
        refine (ibt r.2.1 b _).mono ?_
        rintro e z3 ⟨rfl, hB⟩
        rw [g2.out]
        clear a0 a1 a2 a3 c0 c1 c2 c3 r0 r1 r2 r3 r4 r5
        replace VA := hid (var_below hB VA.out)
        replace VC := hid (var_below hB VC.out)
        replace VR := hid (var_below hB VR.out)
        replace BB := hid (BB.out.trans (hB.mono BB.out.size))
        clear hB
        obtain ⟨⟨a0, a1, a2, a3⟩, -⟩ := var4_facts VA.out
        obtain ⟨⟨c0, c1, c2, c3⟩, -⟩ := var4_facts VC.out
        obtain ⟨⟨r0, r1, r2, r3, r4, r5⟩, -⟩ := v6_facts VR.out
        go_wp2
        go_ret
        exact ⟨rfl, BB.out⟩
    cases h2 : t.2.2
    case false =>
      have Z := VB.out
      rw [h0, h2] at Z
      replace VB := hid Z
      clear Z
      go_wp2
      obtain ⟨⟨b0, b1, b2, b3, b4, b5⟩, -⟩ := v6_facts VB.out
      obtain ⟨⟨w_0, w_1, w_2, w_3, w_4, w_5, w_6⟩, -⟩ := v7_facts VW.out
      refine wp_region_held_drew (S := fun w' => Below w13.heap.size w13 w') (by kernel_rfl) (Below.refl _ _).drew (fun hH => ?_)
      generalize w13.drew = y0 at hH ⊢
      refine wpAnyH_take (i := 0) (v := .pointer (some ⟨gt, 0, none⟩)) (by simp only [List.getElem?_toArray, List.getElem?_cons_zero]; rfl) (by kernel_rfl) (by kernel_rfl) (by kernel_rfl) (by intro _ _ _ h; exact h) (Or.inl ⟨by rfl, fun w hS => by go_simp⟩) hH ?_
      simp only [Act.put, List.setIfInBounds_toArray, List.set_cons_zero, List.set_cons_succ]
      refine wpAnyH_take (i := 1) (v := .int .i64 0) (by simp only [List.getElem?_toArray, List.getElem?_cons_succ, List.getElem?_cons_zero]; rfl) (by kernel_rfl) (by kernel_rfl) (by kernel_rfl) (by intro _ _ _ h; exact h) (Or.inl ⟨by rfl, fun w hS => by (have y0 := cell_kept hS b0; go_simp)⟩) hH ?_
      simp only [Act.put, List.setIfInBounds_toArray, List.set_cons_zero, List.set_cons_succ]
      refine wpAnyH_take (i := 2) (v := .bool true) (by simp only [List.getElem?_toArray, List.getElem?_cons_succ, List.getElem?_cons_zero]; rfl) (by kernel_rfl) (by kernel_rfl) (by kernel_rfl) (by intro _ _ _ h; exact h) (Or.inl ⟨by rfl, fun w hS => by go_simp⟩) hH ?_
      simp only [Act.put, List.setIfInBounds_toArray, List.set_cons_zero, List.set_cons_succ]
      refine wpAnyH_take (i := 3) (v := .bool true) (by simp only [List.getElem?_toArray, List.getElem?_cons_succ, List.getElem?_cons_zero]; rfl) (by kernel_rfl) (by kernel_rfl) (by kernel_rfl) (by intro _ _ _ h; exact h) (Or.inl ⟨by rfl, fun w hS => by go_simp⟩) hH ?_
      simp only [Act.put, List.setIfInBounds_toArray, List.set_cons_zero, List.set_cons_succ]
      refine wpAnyH_take (i := 4) (v := .pointer (some ⟨gt, 5, none⟩)) (by simp only [List.getElem?_toArray, List.getElem?_cons_succ, List.getElem?_cons_zero]; rfl) (by kernel_rfl) (by kernel_rfl) (by kernel_rfl) (by intro _ _ _ h; exact h) (Or.inl ⟨by rfl, fun w hS => by go_simp⟩) hH ?_
      simp only [Act.put, List.setIfInBounds_toArray, List.set_cons_zero, List.set_cons_succ]
      refine wpAnyH_take (i := 5) (v := .bool false) (by simp only [List.getElem?_toArray, List.getElem?_cons_succ, List.getElem?_cons_zero]; rfl) (by kernel_rfl) (by kernel_rfl) (by kernel_rfl) (by intro _ _ _ h; exact h) (Or.inl ⟨by rfl, fun w hS => by (have y5 := cell_kept hS b5; go_simp)⟩) hH ?_
      simp only [Act.put, List.setIfInBounds_toArray, List.set_cons_zero, List.set_cons_succ]
      refine wpAnyH_take (i := 6) (v := .bool false) (by simp only [List.getElem?_toArray, List.getElem?_cons_succ, List.getElem?_cons_zero]; rfl) (by kernel_rfl) (by kernel_rfl) (by kernel_rfl) (by intro _ _ _ h; exact h) (Or.inl ⟨by rfl, fun w hS => by go_simp⟩) hH ?_
      simp only [Act.put, List.setIfInBounds_toArray, List.set_cons_zero, List.set_cons_succ]
      refine wpAnyH_take (i := 7) (v := .bool false) (by simp only [List.getElem?_toArray, List.getElem?_cons_succ, List.getElem?_cons_zero]; rfl) (by kernel_rfl) (by kernel_rfl) (by kernel_rfl) (by intro _ _ _ h; exact h) (Or.inl ⟨by rfl, fun w hS => by go_simp⟩) hH ?_
      simp only [Act.put, List.setIfInBounds_toArray, List.set_cons_zero, List.set_cons_succ]
      refine wpAnyH_take (i := 8) (v := undef) (by simp only [List.getElem?_toArray, List.getElem?_cons_succ, List.getElem?_cons_zero]; rfl) (by kernel_rfl) (by kernel_rfl) (by kernel_rfl) (by intro _ _ _ h; exact h) (Or.inr ⟨by rfl, rfl⟩) hH ?_
      simp only [Act.put, List.setIfInBounds_toArray, List.set_cons_zero, List.set_cons_succ]
      refine wpAnyH_take (i := 9) (v := undef) (by simp only [List.getElem?_toArray, List.getElem?_cons_succ, List.getElem?_cons_zero]; rfl) (by kernel_rfl) (by kernel_rfl) (by kernel_rfl) (by intro _ _ _ h; exact h) (Or.inr ⟨by rfl, rfl⟩) hH ?_
      simp only [Act.put, List.setIfInBounds_toArray, List.set_cons_zero, List.set_cons_succ]
      refine wpAnyH_take (i := 10) (v := undef) (by simp only [List.getElem?_toArray, List.getElem?_cons_succ, List.getElem?_cons_zero]; rfl) (by kernel_rfl) (by kernel_rfl) (by kernel_rfl) (by intro _ _ _ h; exact h) (Or.inr ⟨by rfl, rfl⟩) hH ?_
      simp only [Act.put, List.setIfInBounds_toArray, List.set_cons_zero, List.set_cons_succ]
      refine wpAnyH_take (i := 11) (v := undef) (by simp only [List.getElem?_toArray, List.getElem?_cons_succ, List.getElem?_cons_zero]; rfl) (by kernel_rfl) (by kernel_rfl) (by kernel_rfl) (by intro _ _ _ h; exact h) (Or.inr ⟨by rfl, rfl⟩) hH ?_
      simp only [Act.put, List.setIfInBounds_toArray, List.set_cons_zero, List.set_cons_succ]
      refine wpAnyH_take (i := 12) (v := undef) (by simp only [List.getElem?_toArray, List.getElem?_cons_succ, List.getElem?_cons_zero]; rfl) (by kernel_rfl) (by kernel_rfl) (by kernel_rfl) (by intro _ _ _ h; exact h) (Or.inr ⟨by rfl, rfl⟩) hH ?_
      simp only [Act.put, List.setIfInBounds_toArray, List.set_cons_zero, List.set_cons_succ]
      refine wpAnyH_take (i := 13) (v := undef) (by simp only [List.getElem?_toArray, List.getElem?_cons_succ, List.getElem?_cons_zero]; rfl) (by kernel_rfl) (by kernel_rfl) (by kernel_rfl) (by intro _ _ _ h; exact h) (Or.inr ⟨by rfl, rfl⟩) hH ?_
      simp only [Act.put, List.setIfInBounds_toArray, List.set_cons_zero, List.set_cons_succ]
      refine wpAnyH_take (i := 14) (v := undef) (by simp only [List.getElem?_toArray, List.getElem?_cons_succ, List.getElem?_cons_zero]; rfl) (by kernel_rfl) (by kernel_rfl) (by kernel_rfl) (by intro _ _ _ h; exact h) (Or.inr ⟨by rfl, rfl⟩) hH ?_
      simp only [Act.put, List.setIfInBounds_toArray, List.set_cons_zero, List.set_cons_succ]
      refine wpAnyH_take (i := 15) (v := undef) (by simp only [List.getElem?_toArray, List.getElem?_cons_succ, List.getElem?_cons_zero]; rfl) (by kernel_rfl) (by kernel_rfl) (by kernel_rfl) (by intro _ _ _ h; exact h) (Or.inr ⟨by rfl, rfl⟩) hH ?_
      simp only [Act.put, List.setIfInBounds_toArray, List.set_cons_zero, List.set_cons_succ]
      refine wpAnyH_take (i := 16) (v := undef) (by simp only [List.getElem?_toArray, List.getElem?_cons_succ, List.getElem?_cons_zero]; rfl) (by kernel_rfl) (by kernel_rfl) (by kernel_rfl) (by intro _ _ _ h; exact h) (Or.inr ⟨by rfl, rfl⟩) hH ?_
      simp only [Act.put, List.setIfInBounds_toArray, List.set_cons_zero, List.set_cons_succ]
      refine wpAnyH_take (i := 17) (v := undef) (by simp only [List.getElem?_toArray, List.getElem?_cons_succ, List.getElem?_cons_zero]; rfl) (by kernel_rfl) (by kernel_rfl) (by kernel_rfl) (by intro _ _ _ h; exact h) (Or.inr ⟨by rfl, rfl⟩) hH ?_
      simp only [Act.put, List.setIfInBounds_toArray, List.set_cons_zero, List.set_cons_succ]
      refine wpAnyH_take (i := 18) (v := undef) (by simp only [List.getElem?_toArray, List.getElem?_cons_succ, List.getElem?_cons_zero]; rfl) (by kernel_rfl) (by kernel_rfl) (by kernel_rfl) (by intro _ _ _ h; exact h) (Or.inr ⟨by rfl, rfl⟩) hH ?_
      simp only [Act.put, List.setIfInBounds_toArray, List.set_cons_zero, List.set_cons_succ]
      refine wpAnyH_take (i := 19) (v := undef) (by simp only [List.getElem?_toArray, List.getElem?_cons_succ, List.getElem?_cons_zero]; rfl) (by kernel_rfl) (by kernel_rfl) (by kernel_rfl) (by intro _ _ _ h; exact h) (Or.inr ⟨by rfl, rfl⟩) hH ?_
      simp only [Act.put, List.setIfInBounds_toArray, List.set_cons_zero, List.set_cons_succ]
      refine wpAnyH_take (i := 20) (v := undef) (by simp only [List.getElem?_toArray, List.getElem?_cons_succ, List.getElem?_cons_zero]; rfl) (by kernel_rfl) (by kernel_rfl) (by kernel_rfl) (by intro _ _ _ h; exact h) (Or.inr ⟨by rfl, rfl⟩) hH ?_
      simp only [Act.put, List.setIfInBounds_toArray, List.set_cons_zero, List.set_cons_succ]
      refine wpAnyH_take (i := 21) (v := undef) (by simp only [List.getElem?_toArray, List.getElem?_cons_succ, List.getElem?_cons_zero]; rfl) (by kernel_rfl) (by kernel_rfl) (by kernel_rfl) (by intro _ _ _ h; exact h) (Or.inr ⟨by rfl, rfl⟩) hH ?_
      simp only [Act.put, List.setIfInBounds_toArray, List.set_cons_zero, List.set_cons_succ]
      refine wpAnyH_take (i := 22) (v := undef) (by simp only [List.getElem?_toArray, List.getElem?_cons_succ, List.getElem?_cons_zero]; rfl) (by kernel_rfl) (by kernel_rfl) (by kernel_rfl) (by intro _ _ _ h; exact h) (Or.inr ⟨by rfl, rfl⟩) hH ?_
      simp only [Act.put, List.setIfInBounds_toArray, List.set_cons_zero, List.set_cons_succ]
      refine wpAnyH_take (i := 23) (v := undef) (by simp only [List.getElem?_toArray, List.getElem?_cons_succ, List.getElem?_cons_zero]; rfl) (by kernel_rfl) (by kernel_rfl) (by kernel_rfl) (by intro _ _ _ h; exact h) (Or.inr ⟨by rfl, rfl⟩) hH ?_
      simp only [Act.put, List.setIfInBounds_toArray, List.set_cons_zero, List.set_cons_succ]
      refine wpAnyH_take (i := 24) (v := undef) (by simp only [List.getElem?_toArray, List.getElem?_cons_succ, List.getElem?_cons_zero]; rfl) (by kernel_rfl) (by kernel_rfl) (by kernel_rfl) (by intro _ _ _ h; exact h) (Or.inr ⟨by rfl, rfl⟩) hH ?_
      simp only [Act.put, List.setIfInBounds_toArray, List.set_cons_zero, List.set_cons_succ]
      refine wpAnyH_take (i := 25) (v := undef) (by simp only [List.getElem?_toArray, List.getElem?_cons_succ, List.getElem?_cons_zero]; rfl) (by kernel_rfl) (by kernel_rfl) (by kernel_rfl) (by intro _ _ _ h; exact h) (Or.inr ⟨by rfl, rfl⟩) hH ?_
      simp only [Act.put, List.setIfInBounds_toArray, List.set_cons_zero, List.set_cons_succ]
      refine wpAnyH_take (i := 26) (v := undef) (by simp only [List.getElem?_toArray, List.getElem?_cons_succ, List.getElem?_cons_zero]; rfl) (by kernel_rfl) (by kernel_rfl) (by kernel_rfl) (by intro _ _ _ h; exact h) (Or.inr ⟨by rfl, rfl⟩) hH ?_
      simp only [Act.put, List.setIfInBounds_toArray, List.set_cons_zero, List.set_cons_succ]
      refine wpAnyH_take (i := 27) (v := undef) (by simp only [List.getElem?_toArray, List.getElem?_cons_succ, List.getElem?_cons_zero]; rfl) (by kernel_rfl) (by kernel_rfl) (by kernel_rfl) (by intro _ _ _ h; exact h) (Or.inr ⟨by rfl, rfl⟩) hH ?_
      simp only [Act.put, List.setIfInBounds_toArray, List.set_cons_zero, List.set_cons_succ]
      refine wpAnyH_take (i := 28) (v := undef) (by simp only [List.getElem?_toArray, List.getElem?_cons_succ, List.getElem?_cons_zero]; rfl) (by kernel_rfl) (by kernel_rfl) (by kernel_rfl) (by intro _ _ _ h; exact h) (Or.inr ⟨by rfl, rfl⟩) hH ?_
      simp only [Act.put, List.setIfInBounds_toArray, List.set_cons_zero, List.set_cons_succ]
      refine wpAnyH_take (i := 29) (v := undef) (by simp only [List.getElem?_toArray, List.getElem?_cons_succ, List.getElem?_cons_zero]; rfl) (by kernel_rfl) (by kernel_rfl) (by kernel_rfl) (by intro _ _ _ h; exact h) (Or.inr ⟨by rfl, rfl⟩) hH ?_
      simp only [Act.put, List.setIfInBounds_toArray, List.set_cons_zero, List.set_cons_succ]
      refine wpAnyH_take (i := 30) (v := undef) (by simp only [List.getElem?_toArray, List.getElem?_cons_succ, List.getElem?_cons_zero]; rfl) (by kernel_rfl) (by kernel_rfl) (by kernel_rfl) (by intro _ _ _ h; exact h) (Or.inr ⟨by rfl, rfl⟩) hH ?_
      simp only [Act.put, List.setIfInBounds_toArray, List.set_cons_zero, List.set_cons_succ]
      refine wpAnyH_take (i := 31) (v := undef) (by simp only [List.getElem?_toArray, List.getElem?_cons_succ, List.getElem?_cons_zero]; rfl) (by kernel_rfl) (by kernel_rfl) (by kernel_rfl) (by intro _ _ _ h; exact h) (Or.inr ⟨by rfl, rfl⟩) hH ?_
      simp only [Act.put, List.setIfInBounds_toArray, List.set_cons_zero, List.set_cons_succ]
      refine wpAnyH_take (i := 32) (v := undef) (by simp only [List.getElem?_toArray, List.getElem?_cons_succ, List.getElem?_cons_zero]; rfl) (by kernel_rfl) (by kernel_rfl) (by kernel_rfl) (by intro _ _ _ h; exact h) (Or.inr ⟨by rfl, rfl⟩) hH ?_
      simp only [Act.put, List.setIfInBounds_toArray, List.set_cons_zero, List.set_cons_succ]
      refine wpAnyH_take (i := 33) (v := .bool false) (by simp only [List.getElem?_toArray, List.getElem?_cons_succ, List.getElem?_cons_zero]; rfl) (by kernel_rfl) (by kernel_rfl) (by kernel_rfl) (by intro _ _ _ h; exact h) (Or.inl ⟨by rfl, fun w hS => by go_simp⟩) hH ?_
      simp only [Act.put, List.setIfInBounds_toArray, List.set_cons_zero, List.set_cons_succ]
      refine wpAnyH_done (by kernel_rfl) ?_ _
      have hB := hH
      clear hH b0 b1 b2 b3 b4 b5 w_0 w_1 w_2 w_3 w_4 w_5 w_6
      replace HV := hid (HV.out.below hB)
      replace HW := hid (HW.out.below hB)
      replace VA := hid (var_below hB VA.out)
      replace VC := hid (var_below hB VC.out)
      replace VR := hid (var_below hB VR.out)
      replace VS := hid (var_below hB VS.out)
      replace VW := hid (var_below hB VW.out)
      replace VB := hid (var_below hB VB.out)
      replace BB := hid (BB.out.trans (hB.mono BB.out.size))
      clear hB
      generalize y0 = w14 at *
      clear h0 h2
      clear HV HW VS VW VB
      by_cases h0 : r.1 = 0
      case neg =>
        have nz : (r.1 != 0) = true := by rw [bne_iff_ne]; exact h0
        obtain ⟨⟨a0, a1, a2, a3⟩, -⟩ := var4_facts VA.out
        obtain ⟨⟨c0, c1, c2, c3⟩, -⟩ := var4_facts VC.out
        obtain ⟨⟨r0, r1, r2, r3, r4, r5⟩, -⟩ := v6_facts VR.out
        go_wp2
        go_ret
        exact ⟨rfl, BB.out⟩
      obtain ⟨f1, f2, f3, f4⟩ := FR.out h0
      replace f1 := hid f1
      rcases f4 with ⟨m, e⟩ | ⟨m, g1, g2, g3⟩
      · have Z := VR.out
        rw [h0, e, m] at Z
        rw [e] at f1
        replace VR := hid Z
        have hq := eql_clm a
        clear Z h0 f2 f3 e m
        obtain ⟨⟨a0, a1, a2, a3⟩, -⟩ := var4_facts VA.out
        obtain ⟨⟨c0, c1, c2, c3⟩, -⟩ := var4_facts VC.out
        obtain ⟨⟨r0, r1, r2, r3, r4, r5⟩, -⟩ := v6_facts VR.out
        go_wp2_with fail
        refine (ibt b a _).mono ?_
        rintro e z1 ⟨rfl, hB⟩
        rw [f1.out]
        clear a0 a1 a2 a3 c0 c1 c2 c3 r0 r1 r2 r3 r4 r5
        replace VA := hid (var_below hB VA.out)
        replace VC := hid (var_below hB VC.out)
        replace VR := hid (var_below hB VR.out)
        replace BB := hid (BB.out.trans (hB.mono BB.out.size))
        clear hB
        obtain ⟨⟨a0, a1, a2, a3⟩, -⟩ := var4_facts VA.out
        obtain ⟨⟨c0, c1, c2, c3⟩, -⟩ := var4_facts VC.out
        obtain ⟨⟨r0, r1, r2, r3, r4, r5⟩, -⟩ := v6_facts VR.out
        go_wp2
        go_ret
        exact ⟨rfl, BB.out⟩
      · have Z := VR.out
        rw [h0, m] at Z
        replace VR := hid Z
        have q1 : (r.2.1.n == a.n) = true := by simp [f2]
        have q2 : (r.2.1.m == a.m) = true := by simp [f3]
        have q3 : (r.2.1.s == 0) = true := by simp [g3]
        replace g1 := hid g1
        replace g2 := hid g2
        clear Z h0 f2 f3 m g3
        obtain ⟨⟨a0, a1, a2, a3⟩, -⟩ := var4_facts VA.out
        obtain ⟨⟨c0, c1, c2, c3⟩, -⟩ := var4_facts VC.out
        obtain ⟨⟨r0, r1, r2, r3, r4, r5⟩, -⟩ := v6_facts VR.out
        go_wp2_with fail
        refine (ibt b r.2.1 _).mono ?_
        rintro e z1 ⟨rfl, hB⟩
        rw [f1.out]
        clear a0 a1 a2 a3 c0 c1 c2 c3 r0 r1 r2 r3 r4 r5
        replace VA := hid (var_below hB VA.out)
        replace VC := hid (var_below hB VC.out)
        replace VR := hid (var_below hB VR.out)
        replace BB := hid (BB.out.trans (hB.mono BB.out.size))
        clear hB
        obtain ⟨⟨a0, a1, a2, a3⟩, -⟩ := var4_facts VA.out
        obtain ⟨⟨c0, c1, c2, c3⟩, -⟩ := var4_facts VC.out
        obtain ⟨⟨r0, r1, r2, r3, r4, r5⟩, -⟩ := v6_facts VR.out
        go_wp2_with fail
        refine (ibt r.2.1 a _).mono ?_
        rintro e z2 ⟨rfl, hB⟩
        rw [g1.out]
        clear a0 a1 a2 a3 c0 c1 c2 c3 r0 r1 r2 r3 r4 r5
        replace VA := hid (var_below hB VA.out)
        replace VC := hid (var_below hB VC.out)
        replace VR := hid (var_below hB VR.out)
        replace BB := hid (BB.out.trans (hB.mono BB.out.size))
        clear hB
        obtain ⟨⟨a0, a1, a2, a3⟩, -⟩ := var4_facts VA.out
        obtain ⟨⟨c0, c1, c2, c3⟩, -⟩ := var4_facts VC.out
        obtain ⟨⟨r0, r1, r2, r3, r4, r5⟩, -⟩ := v6_facts VR.out
        go_wp2_with fail
        refine (ibt r.2.1 b _).mono ?_
        rintro e z3 ⟨rfl, hB⟩
        rw [g2.out]
        clear a0 a1 a2 a3 c0 c1 c2 c3 r0 r1 r2 r3 r4 r5
        replace VA := hid (var_below hB VA.out)
        replace VC := hid (var_below hB VC.out)
        replace VR := hid (var_below hB VR.out)
        replace BB := hid (BB.out.trans (hB.mono BB.out.size))
        clear hB
        obtain ⟨⟨a0, a1, a2, a3⟩, -⟩ := var4_facts VA.out
        obtain ⟨⟨c0, c1, c2, c3⟩, -⟩ := var4_facts VC.out
        obtain ⟨⟨r0, r1, r2, r3, r4, r5⟩, -⟩ := v6_facts VR.out
        go_wp2
        go_ret
        exact ⟨rfl, BB.out⟩
    have Z := VB.out
    rw [h0, h2] at Z
    replace VB := hid Z
    clear Z
    obtain ⟨X, xc, xl, xi, xs, xb⟩ := FB.out h2
    have XI := hid xi
    have XS := hid xs
    clear xi xs
    have XC := hid xc
    have XL := hid xl
    have XB := hid xb
    clear xc xl xb h0 h2
    go_wp2
    obtain ⟨⟨b0, b1, b2, b3, b4, b5⟩, -⟩ := v6_facts VB.out
    obtain ⟨⟨w_0, w_1, w_2, w_3, w_4, w_5, w_6⟩, -⟩ := v7_facts VW.out
    refine wp_region_held_drew (S := fun w' => Below w13.heap.size w13 w') (by kernel_rfl) (Below.refl _ _).drew (fun hH => ?_)
    generalize w13.drew = y0 at hH ⊢
    refine wpAnyH_take (i := 0) (v := .pointer (some ⟨gt, 0, none⟩)) (by simp only [List.getElem?_toArray, List.getElem?_cons_zero]; rfl) (by kernel_rfl) (by kernel_rfl) (by kernel_rfl) (by intro _ _ _ h; exact h) (Or.inl ⟨by rfl, fun w hS => by go_simp⟩) hH ?_
    simp only [Act.put, List.setIfInBounds_toArray, List.set_cons_zero, List.set_cons_succ]
    refine wpAnyH_take (i := 1) (v := .int .i64 0) (by simp only [List.getElem?_toArray, List.getElem?_cons_succ, List.getElem?_cons_zero]; rfl) (by kernel_rfl) (by kernel_rfl) (by kernel_rfl) (by intro _ _ _ h; exact h) (Or.inl ⟨by rfl, fun w hS => by (have y0 := cell_kept hS b0; go_simp)⟩) hH ?_
    simp only [Act.put, List.setIfInBounds_toArray, List.set_cons_zero, List.set_cons_succ]
    refine wpAnyH_take (i := 2) (v := .bool true) (by simp only [List.getElem?_toArray, List.getElem?_cons_succ, List.getElem?_cons_zero]; rfl) (by kernel_rfl) (by kernel_rfl) (by kernel_rfl) (by intro _ _ _ h; exact h) (Or.inl ⟨by rfl, fun w hS => by go_simp⟩) hH ?_
    simp only [Act.put, List.setIfInBounds_toArray, List.set_cons_zero, List.set_cons_succ]
    refine wpAnyH_take (i := 3) (v := .bool true) (by simp only [List.getElem?_toArray, List.getElem?_cons_succ, List.getElem?_cons_zero]; rfl) (by kernel_rfl) (by kernel_rfl) (by kernel_rfl) (by intro _ _ _ h; exact h) (Or.inl ⟨by rfl, fun w hS => by go_simp⟩) hH ?_
    simp only [Act.put, List.setIfInBounds_toArray, List.set_cons_zero, List.set_cons_succ]
    refine wpAnyH_take (i := 4) (v := .pointer (some ⟨gt, 5, none⟩)) (by simp only [List.getElem?_toArray, List.getElem?_cons_succ, List.getElem?_cons_zero]; rfl) (by kernel_rfl) (by kernel_rfl) (by kernel_rfl) (by intro _ _ _ h; exact h) (Or.inl ⟨by rfl, fun w hS => by go_simp⟩) hH ?_
    simp only [Act.put, List.setIfInBounds_toArray, List.set_cons_zero, List.set_cons_succ]
    refine wpAnyH_take (i := 5) (v := .bool true) (by simp only [List.getElem?_toArray, List.getElem?_cons_succ, List.getElem?_cons_zero]; rfl) (by kernel_rfl) (by kernel_rfl) (by kernel_rfl) (by intro _ _ _ h; exact h) (Or.inl ⟨by rfl, fun w hS => by (have y5 := cell_kept hS b5; go_simp)⟩) hH ?_
    simp only [Act.put, List.setIfInBounds_toArray, List.set_cons_zero, List.set_cons_succ]
    refine wpAnyH_take (i := 6) (v := .bool true) (by simp only [List.getElem?_toArray, List.getElem?_cons_succ, List.getElem?_cons_zero]; rfl) (by kernel_rfl) (by kernel_rfl) (by kernel_rfl) (by intro _ _ _ h; exact h) (Or.inl ⟨by rfl, fun w hS => by go_simp⟩) hH ?_
    simp only [Act.put, List.setIfInBounds_toArray, List.set_cons_zero, List.set_cons_succ]
    refine wpAnyH_take (i := 7) (v := .bool true) (by simp only [List.getElem?_toArray, List.getElem?_cons_succ, List.getElem?_cons_zero]; rfl) (by kernel_rfl) (by kernel_rfl) (by kernel_rfl) (by intro _ _ _ h; exact h) (Or.inl ⟨by rfl, fun w hS => by go_simp⟩) hH ?_
    simp only [Act.put, List.setIfInBounds_toArray, List.set_cons_zero, List.set_cons_succ]
    refine wpAnyH_take (i := 8) (v := .pointer (some ⟨gt, 1, none⟩)) (by simp only [List.getElem?_toArray, List.getElem?_cons_succ, List.getElem?_cons_zero]; rfl) (by kernel_rfl) (by kernel_rfl) (by kernel_rfl) (by intro _ _ _ h; exact h) (Or.inl ⟨by rfl, fun w hS => by go_simp⟩) hH ?_
    simp only [Act.put, List.setIfInBounds_toArray, List.set_cons_zero, List.set_cons_succ]
    refine wpAnyH_take (i := 9) (v := .pointer (some ⟨gt, 2, none⟩)) (by simp only [List.getElem?_toArray, List.getElem?_cons_succ, List.getElem?_cons_zero]; rfl) (by kernel_rfl) (by kernel_rfl) (by kernel_rfl) (by intro _ _ _ h; exact h) (Or.inl ⟨by rfl, fun w hS => by go_simp⟩) hH ?_
    simp only [Act.put, List.setIfInBounds_toArray, List.set_cons_zero, List.set_cons_succ]
    refine wpAnyH_take (i := 10) (v := .int .i64 t.2.1.i) (by simp only [List.getElem?_toArray, List.getElem?_cons_succ, List.getElem?_cons_zero]; rfl) (by kernel_rfl) (by kernel_rfl) (by kernel_rfl) (by intro _ _ _ h; exact h) (Or.inl ⟨by rfl, fun w hS => by (have y2 := cell_kept hS b2; go_simp)⟩) hH ?_
    simp only [Act.put, List.setIfInBounds_toArray, List.set_cons_zero, List.set_cons_succ]
    refine wpAnyH_take (i := 11) (v := .pointer (some ⟨gw, 3, none⟩)) (by simp only [List.getElem?_toArray, List.getElem?_cons_succ, List.getElem?_cons_zero]; rfl) (by kernel_rfl) (by kernel_rfl) (by kernel_rfl) (by intro _ _ _ h; exact h) (Or.inl ⟨by rfl, fun w hS => by go_simp⟩) hH ?_
    simp only [Act.put, List.setIfInBounds_toArray, List.set_cons_zero, List.set_cons_succ]
    refine wpAnyH_take (i := 12) (v := .int .i64 x.d) (by simp only [List.getElem?_toArray, List.getElem?_cons_succ, List.getElem?_cons_zero]; rfl) (by kernel_rfl) (by kernel_rfl) (by kernel_rfl) (by intro _ _ _ h; exact h) (Or.inl ⟨by rfl, fun w hS => by (have y3 := cell_kept hS w_3; go_simp)⟩) hH ?_
    simp only [Act.put, List.setIfInBounds_toArray, List.set_cons_zero, List.set_cons_succ]
    refine wpAnyH_take (i := 13) (v := .bool false) (by simp only [List.getElem?_toArray, List.getElem?_cons_succ, List.getElem?_cons_zero]; rfl) (by kernel_rfl) (by kernel_rfl) (by kernel_rfl) (by intro _ _ _ h; exact h) (Or.inl ⟨by rfl, fun w hS => by (have hi := XI.out; go_simp)⟩) hH ?_
    simp only [Act.put, List.setIfInBounds_toArray, List.set_cons_zero, List.set_cons_succ]
    refine wpAnyH_take (i := 14) (v := .bool false) (by simp only [List.getElem?_toArray, List.getElem?_cons_succ, List.getElem?_cons_zero]; rfl) (by kernel_rfl) (by kernel_rfl) (by kernel_rfl) (by intro _ _ _ h; exact h) (Or.inl ⟨by rfl, fun w hS => by go_simp⟩) hH ?_
    simp only [Act.put, List.setIfInBounds_toArray, List.set_cons_zero, List.set_cons_succ]
    refine wpAnyH_take (i := 15) (v := .pointer (some ⟨gt, 1, none⟩)) (by simp only [List.getElem?_toArray, List.getElem?_cons_succ, List.getElem?_cons_zero]; rfl) (by kernel_rfl) (by kernel_rfl) (by kernel_rfl) (by intro _ _ _ h; exact h) (Or.inl ⟨by rfl, fun w hS => by go_simp⟩) hH ?_
    simp only [Act.put, List.setIfInBounds_toArray, List.set_cons_zero, List.set_cons_succ]
    refine wpAnyH_take (i := 16) (v := .pointer (some ⟨gt, 3, none⟩)) (by simp only [List.getElem?_toArray, List.getElem?_cons_succ, List.getElem?_cons_zero]; rfl) (by kernel_rfl) (by kernel_rfl) (by kernel_rfl) (by intro _ _ _ h; exact h) (Or.inl ⟨by rfl, fun w hS => by go_simp⟩) hH ?_
    simp only [Act.put, List.setIfInBounds_toArray, List.set_cons_zero, List.set_cons_succ]
    refine wpAnyH_take (i := 17) (v := .int .i64 t.2.1.s) (by simp only [List.getElem?_toArray, List.getElem?_cons_succ, List.getElem?_cons_zero]; rfl) (by kernel_rfl) (by kernel_rfl) (by kernel_rfl) (by intro _ _ _ h; exact h) (Or.inl ⟨by rfl, fun w hS => by (have y3 := cell_kept hS b3; go_simp)⟩) hH ?_
    simp only [Act.put, List.setIfInBounds_toArray, List.set_cons_zero, List.set_cons_succ]
    refine wpAnyH_take (i := 18) (v := .bool false) (by simp only [List.getElem?_toArray, List.getElem?_cons_succ, List.getElem?_cons_zero]; rfl) (by kernel_rfl) (by kernel_rfl) (by kernel_rfl) (by intro _ _ _ h; exact h) (Or.inl ⟨by rfl, fun w hS => by (have hi := XS.out; go_simp)⟩) hH ?_
    simp only [Act.put, List.setIfInBounds_toArray, List.set_cons_zero, List.set_cons_succ]
    refine wpAnyH_take (i := 19) (v := .bool false) (by simp only [List.getElem?_toArray, List.getElem?_cons_succ, List.getElem?_cons_zero]; rfl) (by kernel_rfl) (by kernel_rfl) (by kernel_rfl) (by intro _ _ _ h; exact h) (Or.inl ⟨by rfl, fun w hS => by go_simp⟩) hH ?_
    simp only [Act.put, List.setIfInBounds_toArray, List.set_cons_zero, List.set_cons_succ]
    refine wpAnyH_take (i := 20) (v := .bool false) (by simp only [List.getElem?_toArray, List.getElem?_cons_succ, List.getElem?_cons_zero]; rfl) (by kernel_rfl) (by kernel_rfl) (by kernel_rfl) (by intro _ _ _ h; exact h) (Or.inl ⟨by rfl, fun w hS => by go_simp⟩) hH ?_
    simp only [Act.put, List.setIfInBounds_toArray, List.set_cons_zero, List.set_cons_succ]
    refine wpAnyH_take (i := 21) (v := .pointer (some ⟨gt, 1, none⟩)) (by simp only [List.getElem?_toArray, List.getElem?_cons_succ, List.getElem?_cons_zero]; rfl) (by kernel_rfl) (by kernel_rfl) (by kernel_rfl) (by intro _ _ _ h; exact h) (Or.inl ⟨by rfl, fun w hS => by go_simp⟩) hH ?_
    simp only [Act.put, List.setIfInBounds_toArray, List.set_cons_zero, List.set_cons_succ]
    refine wpAnyH_take (i := 22) (v := .agg #[.int .i64 t.2.1.n, .int .i64 t.2.1.i, .int .i64 t.2.1.s, .int .i64 t.2.1.m]) (by simp only [List.getElem?_toArray, List.getElem?_cons_succ, List.getElem?_cons_zero]; rfl) (by kernel_rfl) (by kernel_rfl) (by kernel_rfl) (by intro _ _ _ h; exact h) (Or.inl ⟨by rfl, fun w hS => by (have y1 := cell_kept hS b1; have y2 := cell_kept hS b2; have y3 := cell_kept hS b3; have y4 := cell_kept hS b4; go_simp)⟩) hH ?_
    simp only [Act.put, List.setIfInBounds_toArray, List.set_cons_zero, List.set_cons_succ]
    refine wpAnyH_take (i := 23) (v := .slice pw ds.length cw) (by simp only [List.getElem?_toArray, List.getElem?_cons_succ, List.getElem?_cons_zero]; rfl) (by kernel_rfl) (by kernel_rfl) (by kernel_rfl) (by intro _ _ _ h; exact h) (Or.inl ⟨by rfl, fun w hS => by go_simp⟩) hH ?_
    simp only [Act.put, List.setIfInBounds_toArray, List.set_cons_zero, List.set_cons_succ]
    refine wpAnyH_take (i := 24) (v := .pointer (some ⟨gw, 2, none⟩)) (by simp only [List.getElem?_toArray, List.getElem?_cons_succ, List.getElem?_cons_zero]; rfl) (by kernel_rfl) (by kernel_rfl) (by kernel_rfl) (by intro _ _ _ h; exact h) (Or.inl ⟨by rfl, fun w hS => by go_simp⟩) hH ?_
    simp only [Act.put, List.setIfInBounds_toArray, List.set_cons_zero, List.set_cons_succ]
    refine wpAnyH_take (i := 25) (v := .int .i64 x.c) (by simp only [List.getElem?_toArray, List.getElem?_cons_succ, List.getElem?_cons_zero]; rfl) (by kernel_rfl) (by kernel_rfl) (by kernel_rfl) (by intro _ _ _ h; exact h) (Or.inl ⟨by rfl, fun w hS => by (have y2 := cell_kept hS w_2; go_simp)⟩) hH ?_
    simp only [Act.put, List.setIfInBounds_toArray, List.set_cons_zero, List.set_cons_succ]
    refine wpAnyH_ready (rs := [26]) (by kernel_rfl) (by simp) ?_
    refine AllReadyH.cons (by simp only [List.getElem?_toArray, List.getElem?_cons_succ, List.getElem?_cons_zero]; rfl) (fun K hK => ?_) AllReadyH.nil
    go_simp
    refine (sfc _ ds x.c _ (HW.out.below hH)).mono ?_
    rintro e x26 ⟨ua, rfl, hO, hM⟩
    rw [XC.out]
    rw [XL.out] at hO
    obtain ⟨aa, ka, rfl, -, -, hcs⟩ := hO.parts
    obtain ⟨bxa, oxa, rfl, q1⟩ := hcs 0 (by simp)
    obtain ⟨e0, e1, e2, e3⟩ := c_cells q1
    simp only [List.getElem_cons_zero, Nat.zero_mul, Nat.add_zero] at e0 e1 e2 e3
    have I1 := idx_ci bxa oxa 1 ka 0 (by omega)
    simp only [Nat.zero_mul, Nat.add_zero, Int.cast_ofNat_Int] at I1
    clear q1 hcs hO
    refine hK.out _ _ (hH.trans (hM.mono hH.size)) (fun hH => ?_)
    clear hK K hM
    refine wpAnyH_take (i := 27) (v := .slice (some ⟨bxa, oxa, none⟩) 1 ka) (by simp only [List.getElem?_toArray, List.getElem?_cons_succ, List.getElem?_cons_zero]; rfl) (by kernel_rfl) (by kernel_rfl) (by kernel_rfl) (by intro _ _ _ h; exact h) (Or.inl ⟨by rfl, fun w hS => by (have hf := fldV1d 0 (some ⟨bxa, oxa, none⟩) 1 ka; go_simp)⟩) hH ?_
    simp only [Act.put, List.setIfInBounds_toArray, List.set_cons_zero, List.set_cons_succ]
    refine wpAnyH_take (i := 28) (v := .pointer (some ⟨bxa, oxa, none⟩)) (by simp only [List.getElem?_toArray, List.getElem?_cons_succ, List.getElem?_cons_zero]; rfl) (by kernel_rfl) (by kernel_rfl) (by kernel_rfl) (by intro _ _ _ h; exact h) (Or.inl ⟨by rfl, fun w hS => by go_simp⟩) hH ?_
    simp only [Act.put, List.setIfInBounds_toArray, List.set_cons_zero, List.set_cons_succ]
    refine wpAnyH_ready (rs := [29]) (by kernel_rfl) (by simp) ?_
    refine AllReadyH.cons (by simp only [List.getElem?_toArray, List.getElem?_cons_succ, List.getElem?_cons_zero]; rfl) (fun K hK => ?_) AllReadyH.nil
    go_simp
    refine hK.out _ _ hH (fun hH => ?_)
    clear hK K
    try simp only [Act.put, List.setIfInBounds_toArray, List.set_cons_zero, List.set_cons_succ]
    clear e0 e1 e2 e3 I1
    refine wpAnyH_ready (rs := [30]) (by kernel_rfl) (by simp) ?_
    refine AllReadyH.cons (by simp only [List.getElem?_toArray, List.getElem?_cons_succ, List.getElem?_cons_zero]; rfl) (fun K hK => ?_) AllReadyH.nil
    go_simp
    refine (ibt t.2.1 X _).mono ?_
    rintro e x30 ⟨rfl, hM⟩
    rw [XB.out]
    refine hK.out _ _ (hH.trans (hM.mono hH.size)) (fun hH => ?_)
    clear hK K hM
    refine wpAnyH_take (i := 31) (v := .bool false) (by simp only [List.getElem?_toArray, List.getElem?_cons_succ, List.getElem?_cons_zero]; rfl) (by kernel_rfl) (by kernel_rfl) (by kernel_rfl) (by intro _ _ _ h; exact h) (Or.inl ⟨by rfl, fun w hS => by go_simp⟩) hH ?_
    simp only [Act.put, List.setIfInBounds_toArray, List.set_cons_zero, List.set_cons_succ]
    refine wpAnyH_take (i := 32) (v := .bool false) (by simp only [List.getElem?_toArray, List.getElem?_cons_succ, List.getElem?_cons_zero]; rfl) (by kernel_rfl) (by kernel_rfl) (by kernel_rfl) (by intro _ _ _ h; exact h) (Or.inl ⟨by rfl, fun w hS => by go_simp⟩) hH ?_
    simp only [Act.put, List.setIfInBounds_toArray, List.set_cons_zero, List.set_cons_succ]
    refine wpAnyH_take (i := 33) (v := .bool false) (by simp only [List.getElem?_toArray, List.getElem?_cons_succ, List.getElem?_cons_zero]; rfl) (by kernel_rfl) (by kernel_rfl) (by kernel_rfl) (by intro _ _ _ h; exact h) (Or.inl ⟨by rfl, fun w hS => by go_simp⟩) hH ?_
    simp only [Act.put, List.setIfInBounds_toArray, List.set_cons_zero, List.set_cons_succ]
    refine wpAnyH_done (by kernel_rfl) ?_ _
    have hB := hH
    clear hH b0 b1 b2 b3 b4 b5 w_0 w_1 w_2 w_3 w_4 w_5 w_6
    replace HV := hid (HV.out.below hB)
    replace HW := hid (HW.out.below hB)
    replace VA := hid (var_below hB VA.out)
    replace VC := hid (var_below hB VC.out)
    replace VR := hid (var_below hB VR.out)
    replace VS := hid (var_below hB VS.out)
    replace VW := hid (var_below hB VW.out)
    replace VB := hid (var_below hB VB.out)
    replace BB := hid (BB.out.trans (hB.mono BB.out.size))
    clear hB
    generalize x30 = w14 at *
    clear XC XL XB XI XS
    clear HV HW VS VW VB
    by_cases h0 : r.1 = 0
    case neg =>
      have nz : (r.1 != 0) = true := by rw [bne_iff_ne]; exact h0
      obtain ⟨⟨a0, a1, a2, a3⟩, -⟩ := var4_facts VA.out
      obtain ⟨⟨c0, c1, c2, c3⟩, -⟩ := var4_facts VC.out
      obtain ⟨⟨r0, r1, r2, r3, r4, r5⟩, -⟩ := v6_facts VR.out
      go_wp2
      go_ret
      exact ⟨rfl, BB.out⟩
    obtain ⟨f1, f2, f3, f4⟩ := FR.out h0
    replace f1 := hid f1
    rcases f4 with ⟨m, e⟩ | ⟨m, g1, g2, g3⟩
    · have Z := VR.out
      rw [h0, e, m] at Z
      rw [e] at f1
      replace VR := hid Z
      have hq := eql_clm a
      clear Z h0 f2 f3 e m
      obtain ⟨⟨a0, a1, a2, a3⟩, -⟩ := var4_facts VA.out
      obtain ⟨⟨c0, c1, c2, c3⟩, -⟩ := var4_facts VC.out
      obtain ⟨⟨r0, r1, r2, r3, r4, r5⟩, -⟩ := v6_facts VR.out
      go_wp2_with fail
      refine (ibt b a _).mono ?_
      rintro e z1 ⟨rfl, hB⟩
      rw [f1.out]
      clear a0 a1 a2 a3 c0 c1 c2 c3 r0 r1 r2 r3 r4 r5
      replace VA := hid (var_below hB VA.out)
      replace VC := hid (var_below hB VC.out)
      replace VR := hid (var_below hB VR.out)
      replace BB := hid (BB.out.trans (hB.mono BB.out.size))
      clear hB
      obtain ⟨⟨a0, a1, a2, a3⟩, -⟩ := var4_facts VA.out
      obtain ⟨⟨c0, c1, c2, c3⟩, -⟩ := var4_facts VC.out
      obtain ⟨⟨r0, r1, r2, r3, r4, r5⟩, -⟩ := v6_facts VR.out
      go_wp2
      go_ret
      exact ⟨rfl, BB.out⟩
    · have Z := VR.out
      rw [h0, m] at Z
      replace VR := hid Z
      have q1 : (r.2.1.n == a.n) = true := by simp [f2]
      have q2 : (r.2.1.m == a.m) = true := by simp [f3]
      have q3 : (r.2.1.s == 0) = true := by simp [g3]
      replace g1 := hid g1
      replace g2 := hid g2
      clear Z h0 f2 f3 m g3
      obtain ⟨⟨a0, a1, a2, a3⟩, -⟩ := var4_facts VA.out
      obtain ⟨⟨c0, c1, c2, c3⟩, -⟩ := var4_facts VC.out
      obtain ⟨⟨r0, r1, r2, r3, r4, r5⟩, -⟩ := v6_facts VR.out
      go_wp2_with fail
      refine (ibt b r.2.1 _).mono ?_
      rintro e z1 ⟨rfl, hB⟩
      rw [f1.out]
      clear a0 a1 a2 a3 c0 c1 c2 c3 r0 r1 r2 r3 r4 r5
      replace VA := hid (var_below hB VA.out)
      replace VC := hid (var_below hB VC.out)
      replace VR := hid (var_below hB VR.out)
      replace BB := hid (BB.out.trans (hB.mono BB.out.size))
      clear hB
      obtain ⟨⟨a0, a1, a2, a3⟩, -⟩ := var4_facts VA.out
      obtain ⟨⟨c0, c1, c2, c3⟩, -⟩ := var4_facts VC.out
      obtain ⟨⟨r0, r1, r2, r3, r4, r5⟩, -⟩ := v6_facts VR.out
      go_wp2_with fail
      refine (ibt r.2.1 a _).mono ?_
      rintro e z2 ⟨rfl, hB⟩
      rw [g1.out]
      clear a0 a1 a2 a3 c0 c1 c2 c3 r0 r1 r2 r3 r4 r5
      replace VA := hid (var_below hB VA.out)
      replace VC := hid (var_below hB VC.out)
      replace VR := hid (var_below hB VR.out)
      replace BB := hid (BB.out.trans (hB.mono BB.out.size))
      clear hB
      obtain ⟨⟨a0, a1, a2, a3⟩, -⟩ := var4_facts VA.out
      obtain ⟨⟨c0, c1, c2, c3⟩, -⟩ := var4_facts VC.out
      obtain ⟨⟨r0, r1, r2, r3, r4, r5⟩, -⟩ := v6_facts VR.out
      go_wp2_with fail
      refine (ibt r.2.1 b _).mono ?_
      rintro e z3 ⟨rfl, hB⟩
      rw [g2.out]
      clear a0 a1 a2 a3 c0 c1 c2 c3 r0 r1 r2 r3 r4 r5
      replace VA := hid (var_below hB VA.out)
      replace VC := hid (var_below hB VC.out)
      replace VR := hid (var_below hB VR.out)
      replace BB := hid (BB.out.trans (hB.mono BB.out.size))
      clear hB
      obtain ⟨⟨a0, a1, a2, a3⟩, -⟩ := var4_facts VA.out
      obtain ⟨⟨c0, c1, c2, c3⟩, -⟩ := var4_facts VC.out
      obtain ⟨⟨r0, r1, r2, r3, r4, r5⟩, -⟩ := v6_facts VR.out
      go_wp2
      go_ret
      exact ⟨rfl, BB.out⟩
  cases h2 : s.2.2
  case false =>
    have Z := VS.out
    rw [h0, h2] at Z
    replace VS := hid Z
    clear Z
    go_wp2
    obtain ⟨⟨s0, s1, s2, s3, s4, s5⟩, -⟩ := v6_facts VS.out
    refine wp_region_held_drew (S := fun w' => Below w12.heap.size w12 w') (by kernel_rfl) (Below.refl _ _).drew (fun hH => ?_)
    generalize w12.drew = y0 at hH ⊢
    refine wpAnyH_take (i := 0) (v := .pointer (some ⟨gs, 0, none⟩)) (by simp only [List.getElem?_toArray, List.getElem?_cons_zero]; rfl) (by kernel_rfl) (by kernel_rfl) (by kernel_rfl) (by intro _ _ _ h; exact h) (Or.inl ⟨by rfl, fun w hS => by go_simp⟩) hH ?_
    simp only [Act.put, List.setIfInBounds_toArray, List.set_cons_zero, List.set_cons_succ]
    refine wpAnyH_take (i := 1) (v := .int .i64 0) (by simp only [List.getElem?_toArray, List.getElem?_cons_succ, List.getElem?_cons_zero]; rfl) (by kernel_rfl) (by kernel_rfl) (by kernel_rfl) (by intro _ _ _ h; exact h) (Or.inl ⟨by rfl, fun w hS => by (have y0 := cell_kept hS s0; go_simp)⟩) hH ?_
    simp only [Act.put, List.setIfInBounds_toArray, List.set_cons_zero, List.set_cons_succ]
    refine wpAnyH_take (i := 2) (v := .bool true) (by simp only [List.getElem?_toArray, List.getElem?_cons_succ, List.getElem?_cons_zero]; rfl) (by kernel_rfl) (by kernel_rfl) (by kernel_rfl) (by intro _ _ _ h; exact h) (Or.inl ⟨by rfl, fun w hS => by go_simp⟩) hH ?_
    simp only [Act.put, List.setIfInBounds_toArray, List.set_cons_zero, List.set_cons_succ]
    refine wpAnyH_take (i := 3) (v := .bool true) (by simp only [List.getElem?_toArray, List.getElem?_cons_succ, List.getElem?_cons_zero]; rfl) (by kernel_rfl) (by kernel_rfl) (by kernel_rfl) (by intro _ _ _ h; exact h) (Or.inl ⟨by rfl, fun w hS => by go_simp⟩) hH ?_
    simp only [Act.put, List.setIfInBounds_toArray, List.set_cons_zero, List.set_cons_succ]
    refine wpAnyH_take (i := 4) (v := .pointer (some ⟨gs, 5, none⟩)) (by simp only [List.getElem?_toArray, List.getElem?_cons_succ, List.getElem?_cons_zero]; rfl) (by kernel_rfl) (by kernel_rfl) (by kernel_rfl) (by intro _ _ _ h; exact h) (Or.inl ⟨by rfl, fun w hS => by go_simp⟩) hH ?_
    simp only [Act.put, List.setIfInBounds_toArray, List.set_cons_zero, List.set_cons_succ]
    refine wpAnyH_take (i := 5) (v := .bool false) (by simp only [List.getElem?_toArray, List.getElem?_cons_succ, List.getElem?_cons_zero]; rfl) (by kernel_rfl) (by kernel_rfl) (by kernel_rfl) (by intro _ _ _ h; exact h) (Or.inl ⟨by rfl, fun w hS => by (have y5 := cell_kept hS s5; go_simp)⟩) hH ?_
    simp only [Act.put, List.setIfInBounds_toArray, List.set_cons_zero, List.set_cons_succ]
    refine wpAnyH_take (i := 6) (v := .bool false) (by simp only [List.getElem?_toArray, List.getElem?_cons_succ, List.getElem?_cons_zero]; rfl) (by kernel_rfl) (by kernel_rfl) (by kernel_rfl) (by intro _ _ _ h; exact h) (Or.inl ⟨by rfl, fun w hS => by go_simp⟩) hH ?_
    simp only [Act.put, List.setIfInBounds_toArray, List.set_cons_zero, List.set_cons_succ]
    refine wpAnyH_take (i := 7) (v := .bool false) (by simp only [List.getElem?_toArray, List.getElem?_cons_succ, List.getElem?_cons_zero]; rfl) (by kernel_rfl) (by kernel_rfl) (by kernel_rfl) (by intro _ _ _ h; exact h) (Or.inl ⟨by rfl, fun w hS => by go_simp⟩) hH ?_
    simp only [Act.put, List.setIfInBounds_toArray, List.set_cons_zero, List.set_cons_succ]
    refine wpAnyH_take (i := 8) (v := undef) (by simp only [List.getElem?_toArray, List.getElem?_cons_succ, List.getElem?_cons_zero]; rfl) (by kernel_rfl) (by kernel_rfl) (by kernel_rfl) (by intro _ _ _ h; exact h) (Or.inr ⟨by rfl, rfl⟩) hH ?_
    simp only [Act.put, List.setIfInBounds_toArray, List.set_cons_zero, List.set_cons_succ]
    refine wpAnyH_take (i := 9) (v := undef) (by simp only [List.getElem?_toArray, List.getElem?_cons_succ, List.getElem?_cons_zero]; rfl) (by kernel_rfl) (by kernel_rfl) (by kernel_rfl) (by intro _ _ _ h; exact h) (Or.inr ⟨by rfl, rfl⟩) hH ?_
    simp only [Act.put, List.setIfInBounds_toArray, List.set_cons_zero, List.set_cons_succ]
    refine wpAnyH_take (i := 10) (v := undef) (by simp only [List.getElem?_toArray, List.getElem?_cons_succ, List.getElem?_cons_zero]; rfl) (by kernel_rfl) (by kernel_rfl) (by kernel_rfl) (by intro _ _ _ h; exact h) (Or.inr ⟨by rfl, rfl⟩) hH ?_
    simp only [Act.put, List.setIfInBounds_toArray, List.set_cons_zero, List.set_cons_succ]
    refine wpAnyH_take (i := 11) (v := undef) (by simp only [List.getElem?_toArray, List.getElem?_cons_succ, List.getElem?_cons_zero]; rfl) (by kernel_rfl) (by kernel_rfl) (by kernel_rfl) (by intro _ _ _ h; exact h) (Or.inr ⟨by rfl, rfl⟩) hH ?_
    simp only [Act.put, List.setIfInBounds_toArray, List.set_cons_zero, List.set_cons_succ]
    refine wpAnyH_take (i := 12) (v := undef) (by simp only [List.getElem?_toArray, List.getElem?_cons_succ, List.getElem?_cons_zero]; rfl) (by kernel_rfl) (by kernel_rfl) (by kernel_rfl) (by intro _ _ _ h; exact h) (Or.inr ⟨by rfl, rfl⟩) hH ?_
    simp only [Act.put, List.setIfInBounds_toArray, List.set_cons_zero, List.set_cons_succ]
    refine wpAnyH_take (i := 13) (v := undef) (by simp only [List.getElem?_toArray, List.getElem?_cons_succ, List.getElem?_cons_zero]; rfl) (by kernel_rfl) (by kernel_rfl) (by kernel_rfl) (by intro _ _ _ h; exact h) (Or.inr ⟨by rfl, rfl⟩) hH ?_
    simp only [Act.put, List.setIfInBounds_toArray, List.set_cons_zero, List.set_cons_succ]
    refine wpAnyH_take (i := 14) (v := undef) (by simp only [List.getElem?_toArray, List.getElem?_cons_succ, List.getElem?_cons_zero]; rfl) (by kernel_rfl) (by kernel_rfl) (by kernel_rfl) (by intro _ _ _ h; exact h) (Or.inr ⟨by rfl, rfl⟩) hH ?_
    simp only [Act.put, List.setIfInBounds_toArray, List.set_cons_zero, List.set_cons_succ]
    refine wpAnyH_take (i := 15) (v := undef) (by simp only [List.getElem?_toArray, List.getElem?_cons_succ, List.getElem?_cons_zero]; rfl) (by kernel_rfl) (by kernel_rfl) (by kernel_rfl) (by intro _ _ _ h; exact h) (Or.inr ⟨by rfl, rfl⟩) hH ?_
    simp only [Act.put, List.setIfInBounds_toArray, List.set_cons_zero, List.set_cons_succ]
    refine wpAnyH_take (i := 16) (v := undef) (by simp only [List.getElem?_toArray, List.getElem?_cons_succ, List.getElem?_cons_zero]; rfl) (by kernel_rfl) (by kernel_rfl) (by kernel_rfl) (by intro _ _ _ h; exact h) (Or.inr ⟨by rfl, rfl⟩) hH ?_
    simp only [Act.put, List.setIfInBounds_toArray, List.set_cons_zero, List.set_cons_succ]
    refine wpAnyH_take (i := 17) (v := undef) (by simp only [List.getElem?_toArray, List.getElem?_cons_succ, List.getElem?_cons_zero]; rfl) (by kernel_rfl) (by kernel_rfl) (by kernel_rfl) (by intro _ _ _ h; exact h) (Or.inr ⟨by rfl, rfl⟩) hH ?_
    simp only [Act.put, List.setIfInBounds_toArray, List.set_cons_zero, List.set_cons_succ]
    refine wpAnyH_take (i := 18) (v := undef) (by simp only [List.getElem?_toArray, List.getElem?_cons_succ, List.getElem?_cons_zero]; rfl) (by kernel_rfl) (by kernel_rfl) (by kernel_rfl) (by intro _ _ _ h; exact h) (Or.inr ⟨by rfl, rfl⟩) hH ?_
    simp only [Act.put, List.setIfInBounds_toArray, List.set_cons_zero, List.set_cons_succ]
    refine wpAnyH_take (i := 19) (v := undef) (by simp only [List.getElem?_toArray, List.getElem?_cons_succ, List.getElem?_cons_zero]; rfl) (by kernel_rfl) (by kernel_rfl) (by kernel_rfl) (by intro _ _ _ h; exact h) (Or.inr ⟨by rfl, rfl⟩) hH ?_
    simp only [Act.put, List.setIfInBounds_toArray, List.set_cons_zero, List.set_cons_succ]
    refine wpAnyH_take (i := 20) (v := undef) (by simp only [List.getElem?_toArray, List.getElem?_cons_succ, List.getElem?_cons_zero]; rfl) (by kernel_rfl) (by kernel_rfl) (by kernel_rfl) (by intro _ _ _ h; exact h) (Or.inr ⟨by rfl, rfl⟩) hH ?_
    simp only [Act.put, List.setIfInBounds_toArray, List.set_cons_zero, List.set_cons_succ]
    refine wpAnyH_take (i := 21) (v := undef) (by simp only [List.getElem?_toArray, List.getElem?_cons_succ, List.getElem?_cons_zero]; rfl) (by kernel_rfl) (by kernel_rfl) (by kernel_rfl) (by intro _ _ _ h; exact h) (Or.inr ⟨by rfl, rfl⟩) hH ?_
    simp only [Act.put, List.setIfInBounds_toArray, List.set_cons_zero, List.set_cons_succ]
    refine wpAnyH_take (i := 22) (v := undef) (by simp only [List.getElem?_toArray, List.getElem?_cons_succ, List.getElem?_cons_zero]; rfl) (by kernel_rfl) (by kernel_rfl) (by kernel_rfl) (by intro _ _ _ h; exact h) (Or.inr ⟨by rfl, rfl⟩) hH ?_
    simp only [Act.put, List.setIfInBounds_toArray, List.set_cons_zero, List.set_cons_succ]
    refine wpAnyH_take (i := 23) (v := undef) (by simp only [List.getElem?_toArray, List.getElem?_cons_succ, List.getElem?_cons_zero]; rfl) (by kernel_rfl) (by kernel_rfl) (by kernel_rfl) (by intro _ _ _ h; exact h) (Or.inr ⟨by rfl, rfl⟩) hH ?_
    simp only [Act.put, List.setIfInBounds_toArray, List.set_cons_zero, List.set_cons_succ]
    refine wpAnyH_take (i := 24) (v := undef) (by simp only [List.getElem?_toArray, List.getElem?_cons_succ, List.getElem?_cons_zero]; rfl) (by kernel_rfl) (by kernel_rfl) (by kernel_rfl) (by intro _ _ _ h; exact h) (Or.inr ⟨by rfl, rfl⟩) hH ?_
    simp only [Act.put, List.setIfInBounds_toArray, List.set_cons_zero, List.set_cons_succ]
    refine wpAnyH_take (i := 25) (v := undef) (by simp only [List.getElem?_toArray, List.getElem?_cons_succ, List.getElem?_cons_zero]; rfl) (by kernel_rfl) (by kernel_rfl) (by kernel_rfl) (by intro _ _ _ h; exact h) (Or.inr ⟨by rfl, rfl⟩) hH ?_
    simp only [Act.put, List.setIfInBounds_toArray, List.set_cons_zero, List.set_cons_succ]
    refine wpAnyH_take (i := 26) (v := undef) (by simp only [List.getElem?_toArray, List.getElem?_cons_succ, List.getElem?_cons_zero]; rfl) (by kernel_rfl) (by kernel_rfl) (by kernel_rfl) (by intro _ _ _ h; exact h) (Or.inr ⟨by rfl, rfl⟩) hH ?_
    simp only [Act.put, List.setIfInBounds_toArray, List.set_cons_zero, List.set_cons_succ]
    refine wpAnyH_take (i := 27) (v := undef) (by simp only [List.getElem?_toArray, List.getElem?_cons_succ, List.getElem?_cons_zero]; rfl) (by kernel_rfl) (by kernel_rfl) (by kernel_rfl) (by intro _ _ _ h; exact h) (Or.inr ⟨by rfl, rfl⟩) hH ?_
    simp only [Act.put, List.setIfInBounds_toArray, List.set_cons_zero, List.set_cons_succ]
    refine wpAnyH_take (i := 28) (v := undef) (by simp only [List.getElem?_toArray, List.getElem?_cons_succ, List.getElem?_cons_zero]; rfl) (by kernel_rfl) (by kernel_rfl) (by kernel_rfl) (by intro _ _ _ h; exact h) (Or.inr ⟨by rfl, rfl⟩) hH ?_
    simp only [Act.put, List.setIfInBounds_toArray, List.set_cons_zero, List.set_cons_succ]
    refine wpAnyH_take (i := 29) (v := undef) (by simp only [List.getElem?_toArray, List.getElem?_cons_succ, List.getElem?_cons_zero]; rfl) (by kernel_rfl) (by kernel_rfl) (by kernel_rfl) (by intro _ _ _ h; exact h) (Or.inr ⟨by rfl, rfl⟩) hH ?_
    simp only [Act.put, List.setIfInBounds_toArray, List.set_cons_zero, List.set_cons_succ]
    refine wpAnyH_take (i := 30) (v := undef) (by simp only [List.getElem?_toArray, List.getElem?_cons_succ, List.getElem?_cons_zero]; rfl) (by kernel_rfl) (by kernel_rfl) (by kernel_rfl) (by intro _ _ _ h; exact h) (Or.inr ⟨by rfl, rfl⟩) hH ?_
    simp only [Act.put, List.setIfInBounds_toArray, List.set_cons_zero, List.set_cons_succ]
    refine wpAnyH_take (i := 31) (v := .bool false) (by simp only [List.getElem?_toArray, List.getElem?_cons_succ, List.getElem?_cons_zero]; rfl) (by kernel_rfl) (by kernel_rfl) (by kernel_rfl) (by intro _ _ _ h; exact h) (Or.inl ⟨by rfl, fun w hS => by go_simp⟩) hH ?_
    simp only [Act.put, List.setIfInBounds_toArray, List.set_cons_zero, List.set_cons_succ]
    refine wpAnyH_done (by kernel_rfl) ?_ _
    have hB := hH
    clear hH s0 s1 s2 s3 s4 s5
    replace HV := hid (HV.out.below hB)
    replace HW := hid (HW.out.below hB)
    replace VA := hid (var_below hB VA.out)
    replace VC := hid (var_below hB VC.out)
    replace VR := hid (var_below hB VR.out)
    replace VS := hid (var_below hB VS.out)
    replace VW := hid (var_below hB VW.out)
    replace VB := hid (var_below hB VB.out)
    replace BB := hid (BB.out.trans (hB.mono BB.out.size))
    clear hB
    generalize y0 = w13 at *
    clear h0 h2
    by_cases h0 : t.1 = 0
    case neg =>
      have nz : (t.1 == 0) = false := by simpa using h0
      go_wp2
      obtain ⟨⟨b0, b1, b2, b3, b4, b5⟩, -⟩ := v6_facts VB.out
      obtain ⟨⟨w_0, w_1, w_2, w_3, w_4, w_5, w_6⟩, -⟩ := v7_facts VW.out
      refine wp_region_held_drew (S := fun w' => Below w13.heap.size w13 w') (by kernel_rfl) (Below.refl _ _).drew (fun hH => ?_)
      generalize w13.drew = y0 at hH ⊢
      refine wpAnyH_take (i := 0) (v := .pointer (some ⟨gt, 0, none⟩)) (by simp only [List.getElem?_toArray, List.getElem?_cons_zero]; rfl) (by kernel_rfl) (by kernel_rfl) (by kernel_rfl) (by intro _ _ _ h; exact h) (Or.inl ⟨by rfl, fun w hS => by go_simp⟩) hH ?_
      simp only [Act.put, List.setIfInBounds_toArray, List.set_cons_zero, List.set_cons_succ]
      refine wpAnyH_take (i := 1) (v := .int .i64 t.1) (by simp only [List.getElem?_toArray, List.getElem?_cons_succ, List.getElem?_cons_zero]; rfl) (by kernel_rfl) (by kernel_rfl) (by kernel_rfl) (by intro _ _ _ h; exact h) (Or.inl ⟨by rfl, fun w hS => by (have y0 := cell_kept hS b0; go_simp)⟩) hH ?_
      simp only [Act.put, List.setIfInBounds_toArray, List.set_cons_zero, List.set_cons_succ]
      refine wpAnyH_take (i := 2) (v := .bool false) (by simp only [List.getElem?_toArray, List.getElem?_cons_succ, List.getElem?_cons_zero]; rfl) (by kernel_rfl) (by kernel_rfl) (by kernel_rfl) (by intro _ _ _ h; exact h) (Or.inl ⟨by rfl, fun w hS => by go_simp⟩) hH ?_
      simp only [Act.put, List.setIfInBounds_toArray, List.set_cons_zero, List.set_cons_succ]
      refine wpAnyH_take (i := 3) (v := .bool false) (by simp only [List.getElem?_toArray, List.getElem?_cons_succ, List.getElem?_cons_zero]; rfl) (by kernel_rfl) (by kernel_rfl) (by kernel_rfl) (by intro _ _ _ h; exact h) (Or.inl ⟨by rfl, fun w hS => by go_simp⟩) hH ?_
      simp only [Act.put, List.setIfInBounds_toArray, List.set_cons_zero, List.set_cons_succ]
      refine wpAnyH_take (i := 4) (v := undef) (by simp only [List.getElem?_toArray, List.getElem?_cons_succ, List.getElem?_cons_zero]; rfl) (by kernel_rfl) (by kernel_rfl) (by kernel_rfl) (by intro _ _ _ h; exact h) (Or.inr ⟨by rfl, rfl⟩) hH ?_
      simp only [Act.put, List.setIfInBounds_toArray, List.set_cons_zero, List.set_cons_succ]
      refine wpAnyH_take (i := 5) (v := undef) (by simp only [List.getElem?_toArray, List.getElem?_cons_succ, List.getElem?_cons_zero]; rfl) (by kernel_rfl) (by kernel_rfl) (by kernel_rfl) (by intro _ _ _ h; exact h) (Or.inr ⟨by rfl, rfl⟩) hH ?_
      simp only [Act.put, List.setIfInBounds_toArray, List.set_cons_zero, List.set_cons_succ]
      refine wpAnyH_take (i := 6) (v := .bool false) (by simp only [List.getElem?_toArray, List.getElem?_cons_succ, List.getElem?_cons_zero]; rfl) (by kernel_rfl) (by kernel_rfl) (by kernel_rfl) (by intro _ _ _ h; exact h) (Or.inl ⟨by rfl, fun w hS => by go_simp⟩) hH ?_
      simp only [Act.put, List.setIfInBounds_toArray, List.set_cons_zero, List.set_cons_succ]
      refine wpAnyH_take (i := 7) (v := .bool false) (by simp only [List.getElem?_toArray, List.getElem?_cons_succ, List.getElem?_cons_zero]; rfl) (by kernel_rfl) (by kernel_rfl) (by kernel_rfl) (by intro _ _ _ h; exact h) (Or.inl ⟨by rfl, fun w hS => by go_simp⟩) hH ?_
      simp only [Act.put, List.setIfInBounds_toArray, List.set_cons_zero, List.set_cons_succ]
      refine wpAnyH_take (i := 8) (v := undef) (by simp only [List.getElem?_toArray, List.getElem?_cons_succ, List.getElem?_cons_zero]; rfl) (by kernel_rfl) (by kernel_rfl) (by kernel_rfl) (by intro _ _ _ h; exact h) (Or.inr ⟨by rfl, rfl⟩) hH ?_
      simp only [Act.put, List.setIfInBounds_toArray, List.set_cons_zero, List.set_cons_succ]
      refine wpAnyH_take (i := 9) (v := undef) (by simp only [List.getElem?_toArray, List.getElem?_cons_succ, List.getElem?_cons_zero]; rfl) (by kernel_rfl) (by kernel_rfl) (by kernel_rfl) (by intro _ _ _ h; exact h) (Or.inr ⟨by rfl, rfl⟩) hH ?_
      simp only [Act.put, List.setIfInBounds_toArray, List.set_cons_zero, List.set_cons_succ]
      refine wpAnyH_take (i := 10) (v := undef) (by simp only [List.getElem?_toArray, List.getElem?_cons_succ, List.getElem?_cons_zero]; rfl) (by kernel_rfl) (by kernel_rfl) (by kernel_rfl) (by intro _ _ _ h; exact h) (Or.inr ⟨by rfl, rfl⟩) hH ?_
      simp only [Act.put, List.setIfInBounds_toArray, List.set_cons_zero, List.set_cons_succ]
      refine wpAnyH_take (i := 11) (v := undef) (by simp only [List.getElem?_toArray, List.getElem?_cons_succ, List.getElem?_cons_zero]; rfl) (by kernel_rfl) (by kernel_rfl) (by kernel_rfl) (by intro _ _ _ h; exact h) (Or.inr ⟨by rfl, rfl⟩) hH ?_
      simp only [Act.put, List.setIfInBounds_toArray, List.set_cons_zero, List.set_cons_succ]
      refine wpAnyH_take (i := 12) (v := undef) (by simp only [List.getElem?_toArray, List.getElem?_cons_succ, List.getElem?_cons_zero]; rfl) (by kernel_rfl) (by kernel_rfl) (by kernel_rfl) (by intro _ _ _ h; exact h) (Or.inr ⟨by rfl, rfl⟩) hH ?_
      simp only [Act.put, List.setIfInBounds_toArray, List.set_cons_zero, List.set_cons_succ]
      refine wpAnyH_take (i := 13) (v := undef) (by simp only [List.getElem?_toArray, List.getElem?_cons_succ, List.getElem?_cons_zero]; rfl) (by kernel_rfl) (by kernel_rfl) (by kernel_rfl) (by intro _ _ _ h; exact h) (Or.inr ⟨by rfl, rfl⟩) hH ?_
      simp only [Act.put, List.setIfInBounds_toArray, List.set_cons_zero, List.set_cons_succ]
      refine wpAnyH_take (i := 14) (v := undef) (by simp only [List.getElem?_toArray, List.getElem?_cons_succ, List.getElem?_cons_zero]; rfl) (by kernel_rfl) (by kernel_rfl) (by kernel_rfl) (by intro _ _ _ h; exact h) (Or.inr ⟨by rfl, rfl⟩) hH ?_
      simp only [Act.put, List.setIfInBounds_toArray, List.set_cons_zero, List.set_cons_succ]
      refine wpAnyH_take (i := 15) (v := undef) (by simp only [List.getElem?_toArray, List.getElem?_cons_succ, List.getElem?_cons_zero]; rfl) (by kernel_rfl) (by kernel_rfl) (by kernel_rfl) (by intro _ _ _ h; exact h) (Or.inr ⟨by rfl, rfl⟩) hH ?_
      simp only [Act.put, List.setIfInBounds_toArray, List.set_cons_zero, List.set_cons_succ]
      refine wpAnyH_take (i := 16) (v := undef) (by simp only [List.getElem?_toArray, List.getElem?_cons_succ, List.getElem?_cons_zero]; rfl) (by kernel_rfl) (by kernel_rfl) (by kernel_rfl) (by intro _ _ _ h; exact h) (Or.inr ⟨by rfl, rfl⟩) hH ?_
      simp only [Act.put, List.setIfInBounds_toArray, List.set_cons_zero, List.set_cons_succ]
      refine wpAnyH_take (i := 17) (v := undef) (by simp only [List.getElem?_toArray, List.getElem?_cons_succ, List.getElem?_cons_zero]; rfl) (by kernel_rfl) (by kernel_rfl) (by kernel_rfl) (by intro _ _ _ h; exact h) (Or.inr ⟨by rfl, rfl⟩) hH ?_
      simp only [Act.put, List.setIfInBounds_toArray, List.set_cons_zero, List.set_cons_succ]
      refine wpAnyH_take (i := 18) (v := undef) (by simp only [List.getElem?_toArray, List.getElem?_cons_succ, List.getElem?_cons_zero]; rfl) (by kernel_rfl) (by kernel_rfl) (by kernel_rfl) (by intro _ _ _ h; exact h) (Or.inr ⟨by rfl, rfl⟩) hH ?_
      simp only [Act.put, List.setIfInBounds_toArray, List.set_cons_zero, List.set_cons_succ]
      refine wpAnyH_take (i := 19) (v := undef) (by simp only [List.getElem?_toArray, List.getElem?_cons_succ, List.getElem?_cons_zero]; rfl) (by kernel_rfl) (by kernel_rfl) (by kernel_rfl) (by intro _ _ _ h; exact h) (Or.inr ⟨by rfl, rfl⟩) hH ?_
      simp only [Act.put, List.setIfInBounds_toArray, List.set_cons_zero, List.set_cons_succ]
      refine wpAnyH_take (i := 20) (v := undef) (by simp only [List.getElem?_toArray, List.getElem?_cons_succ, List.getElem?_cons_zero]; rfl) (by kernel_rfl) (by kernel_rfl) (by kernel_rfl) (by intro _ _ _ h; exact h) (Or.inr ⟨by rfl, rfl⟩) hH ?_
      simp only [Act.put, List.setIfInBounds_toArray, List.set_cons_zero, List.set_cons_succ]
      refine wpAnyH_take (i := 21) (v := undef) (by simp only [List.getElem?_toArray, List.getElem?_cons_succ, List.getElem?_cons_zero]; rfl) (by kernel_rfl) (by kernel_rfl) (by kernel_rfl) (by intro _ _ _ h; exact h) (Or.inr ⟨by rfl, rfl⟩) hH ?_
      simp only [Act.put, List.setIfInBounds_toArray, List.set_cons_zero, List.set_cons_succ]
      refine wpAnyH_take (i := 22) (v := undef) (by simp only [List.getElem?_toArray, List.getElem?_cons_succ, List.getElem?_cons_zero]; rfl) (by kernel_rfl) (by kernel_rfl) (by kernel_rfl) (by intro _ _ _ h; exact h) (Or.inr ⟨by rfl, rfl⟩) hH ?_
      simp only [Act.put, List.setIfInBounds_toArray, List.set_cons_zero, List.set_cons_succ]
      refine wpAnyH_take (i := 23) (v := undef) (by simp only [List.getElem?_toArray, List.getElem?_cons_succ, List.getElem?_cons_zero]; rfl) (by kernel_rfl) (by kernel_rfl) (by kernel_rfl) (by intro _ _ _ h; exact h) (Or.inr ⟨by rfl, rfl⟩) hH ?_
      simp only [Act.put, List.setIfInBounds_toArray, List.set_cons_zero, List.set_cons_succ]
      refine wpAnyH_take (i := 24) (v := undef) (by simp only [List.getElem?_toArray, List.getElem?_cons_succ, List.getElem?_cons_zero]; rfl) (by kernel_rfl) (by kernel_rfl) (by kernel_rfl) (by intro _ _ _ h; exact h) (Or.inr ⟨by rfl, rfl⟩) hH ?_
      simp only [Act.put, List.setIfInBounds_toArray, List.set_cons_zero, List.set_cons_succ]
      refine wpAnyH_take (i := 25) (v := undef) (by simp only [List.getElem?_toArray, List.getElem?_cons_succ, List.getElem?_cons_zero]; rfl) (by kernel_rfl) (by kernel_rfl) (by kernel_rfl) (by intro _ _ _ h; exact h) (Or.inr ⟨by rfl, rfl⟩) hH ?_
      simp only [Act.put, List.setIfInBounds_toArray, List.set_cons_zero, List.set_cons_succ]
      refine wpAnyH_take (i := 26) (v := undef) (by simp only [List.getElem?_toArray, List.getElem?_cons_succ, List.getElem?_cons_zero]; rfl) (by kernel_rfl) (by kernel_rfl) (by kernel_rfl) (by intro _ _ _ h; exact h) (Or.inr ⟨by rfl, rfl⟩) hH ?_
      simp only [Act.put, List.setIfInBounds_toArray, List.set_cons_zero, List.set_cons_succ]
      refine wpAnyH_take (i := 27) (v := undef) (by simp only [List.getElem?_toArray, List.getElem?_cons_succ, List.getElem?_cons_zero]; rfl) (by kernel_rfl) (by kernel_rfl) (by kernel_rfl) (by intro _ _ _ h; exact h) (Or.inr ⟨by rfl, rfl⟩) hH ?_
      simp only [Act.put, List.setIfInBounds_toArray, List.set_cons_zero, List.set_cons_succ]
      refine wpAnyH_take (i := 28) (v := undef) (by simp only [List.getElem?_toArray, List.getElem?_cons_succ, List.getElem?_cons_zero]; rfl) (by kernel_rfl) (by kernel_rfl) (by kernel_rfl) (by intro _ _ _ h; exact h) (Or.inr ⟨by rfl, rfl⟩) hH ?_
      simp only [Act.put, List.setIfInBounds_toArray, List.set_cons_zero, List.set_cons_succ]
      refine wpAnyH_take (i := 29) (v := undef) (by simp only [List.getElem?_toArray, List.getElem?_cons_succ, List.getElem?_cons_zero]; rfl) (by kernel_rfl) (by kernel_rfl) (by kernel_rfl) (by intro _ _ _ h; exact h) (Or.inr ⟨by rfl, rfl⟩) hH ?_
      simp only [Act.put, List.setIfInBounds_toArray, List.set_cons_zero, List.set_cons_succ]
      refine wpAnyH_take (i := 30) (v := undef) (by simp only [List.getElem?_toArray, List.getElem?_cons_succ, List.getElem?_cons_zero]; rfl) (by kernel_rfl) (by kernel_rfl) (by kernel_rfl) (by intro _ _ _ h; exact h) (Or.inr ⟨by rfl, rfl⟩) hH ?_
      simp only [Act.put, List.setIfInBounds_toArray, List.set_cons_zero, List.set_cons_succ]
      refine wpAnyH_take (i := 31) (v := undef) (by simp only [List.getElem?_toArray, List.getElem?_cons_succ, List.getElem?_cons_zero]; rfl) (by kernel_rfl) (by kernel_rfl) (by kernel_rfl) (by intro _ _ _ h; exact h) (Or.inr ⟨by rfl, rfl⟩) hH ?_
      simp only [Act.put, List.setIfInBounds_toArray, List.set_cons_zero, List.set_cons_succ]
      refine wpAnyH_take (i := 32) (v := undef) (by simp only [List.getElem?_toArray, List.getElem?_cons_succ, List.getElem?_cons_zero]; rfl) (by kernel_rfl) (by kernel_rfl) (by kernel_rfl) (by intro _ _ _ h; exact h) (Or.inr ⟨by rfl, rfl⟩) hH ?_
      simp only [Act.put, List.setIfInBounds_toArray, List.set_cons_zero, List.set_cons_succ]
      refine wpAnyH_take (i := 33) (v := .bool false) (by simp only [List.getElem?_toArray, List.getElem?_cons_succ, List.getElem?_cons_zero]; rfl) (by kernel_rfl) (by kernel_rfl) (by kernel_rfl) (by intro _ _ _ h; exact h) (Or.inl ⟨by rfl, fun w hS => by go_simp⟩) hH ?_
      simp only [Act.put, List.setIfInBounds_toArray, List.set_cons_zero, List.set_cons_succ]
      refine wpAnyH_done (by kernel_rfl) ?_ _
      have hB := hH
      clear hH b0 b1 b2 b3 b4 b5 w_0 w_1 w_2 w_3 w_4 w_5 w_6
      replace HV := hid (HV.out.below hB)
      replace HW := hid (HW.out.below hB)
      replace VA := hid (var_below hB VA.out)
      replace VC := hid (var_below hB VC.out)
      replace VR := hid (var_below hB VR.out)
      replace VS := hid (var_below hB VS.out)
      replace VW := hid (var_below hB VW.out)
      replace VB := hid (var_below hB VB.out)
      replace BB := hid (BB.out.trans (hB.mono BB.out.size))
      clear hB
      generalize y0 = w14 at *
      clear nz h0
      clear HV HW VS VW VB
      by_cases h0 : r.1 = 0
      case neg =>
        have nz : (r.1 != 0) = true := by rw [bne_iff_ne]; exact h0
        obtain ⟨⟨a0, a1, a2, a3⟩, -⟩ := var4_facts VA.out
        obtain ⟨⟨c0, c1, c2, c3⟩, -⟩ := var4_facts VC.out
        obtain ⟨⟨r0, r1, r2, r3, r4, r5⟩, -⟩ := v6_facts VR.out
        go_wp2
        go_ret
        exact ⟨rfl, BB.out⟩
      obtain ⟨f1, f2, f3, f4⟩ := FR.out h0
      replace f1 := hid f1
      rcases f4 with ⟨m, e⟩ | ⟨m, g1, g2, g3⟩
      · have Z := VR.out
        rw [h0, e, m] at Z
        rw [e] at f1
        replace VR := hid Z
        have hq := eql_clm a
        clear Z h0 f2 f3 e m
        obtain ⟨⟨a0, a1, a2, a3⟩, -⟩ := var4_facts VA.out
        obtain ⟨⟨c0, c1, c2, c3⟩, -⟩ := var4_facts VC.out
        obtain ⟨⟨r0, r1, r2, r3, r4, r5⟩, -⟩ := v6_facts VR.out
        go_wp2_with fail
        refine (ibt b a _).mono ?_
        rintro e z1 ⟨rfl, hB⟩
        rw [f1.out]
        clear a0 a1 a2 a3 c0 c1 c2 c3 r0 r1 r2 r3 r4 r5
        replace VA := hid (var_below hB VA.out)
        replace VC := hid (var_below hB VC.out)
        replace VR := hid (var_below hB VR.out)
        replace BB := hid (BB.out.trans (hB.mono BB.out.size))
        clear hB
        obtain ⟨⟨a0, a1, a2, a3⟩, -⟩ := var4_facts VA.out
        obtain ⟨⟨c0, c1, c2, c3⟩, -⟩ := var4_facts VC.out
        obtain ⟨⟨r0, r1, r2, r3, r4, r5⟩, -⟩ := v6_facts VR.out
        go_wp2
        go_ret
        exact ⟨rfl, BB.out⟩
      · have Z := VR.out
        rw [h0, m] at Z
        replace VR := hid Z
        have q1 : (r.2.1.n == a.n) = true := by simp [f2]
        have q2 : (r.2.1.m == a.m) = true := by simp [f3]
        have q3 : (r.2.1.s == 0) = true := by simp [g3]
        replace g1 := hid g1
        replace g2 := hid g2
        clear Z h0 f2 f3 m g3
        obtain ⟨⟨a0, a1, a2, a3⟩, -⟩ := var4_facts VA.out
        obtain ⟨⟨c0, c1, c2, c3⟩, -⟩ := var4_facts VC.out
        obtain ⟨⟨r0, r1, r2, r3, r4, r5⟩, -⟩ := v6_facts VR.out
        go_wp2_with fail
        refine (ibt b r.2.1 _).mono ?_
        rintro e z1 ⟨rfl, hB⟩
        rw [f1.out]
        clear a0 a1 a2 a3 c0 c1 c2 c3 r0 r1 r2 r3 r4 r5
        replace VA := hid (var_below hB VA.out)
        replace VC := hid (var_below hB VC.out)
        replace VR := hid (var_below hB VR.out)
        replace BB := hid (BB.out.trans (hB.mono BB.out.size))
        clear hB
        obtain ⟨⟨a0, a1, a2, a3⟩, -⟩ := var4_facts VA.out
        obtain ⟨⟨c0, c1, c2, c3⟩, -⟩ := var4_facts VC.out
        obtain ⟨⟨r0, r1, r2, r3, r4, r5⟩, -⟩ := v6_facts VR.out
        go_wp2_with fail
        refine (ibt r.2.1 a _).mono ?_
        rintro e z2 ⟨rfl, hB⟩
        rw [g1.out]
        clear a0 a1 a2 a3 c0 c1 c2 c3 r0 r1 r2 r3 r4 r5
        replace VA := hid (var_below hB VA.out)
        replace VC := hid (var_below hB VC.out)
        replace VR := hid (var_below hB VR.out)
        replace BB := hid (BB.out.trans (hB.mono BB.out.size))
        clear hB
        obtain ⟨⟨a0, a1, a2, a3⟩, -⟩ := var4_facts VA.out
        obtain ⟨⟨c0, c1, c2, c3⟩, -⟩ := var4_facts VC.out
        obtain ⟨⟨r0, r1, r2, r3, r4, r5⟩, -⟩ := v6_facts VR.out
        go_wp2_with fail
        refine (ibt r.2.1 b _).mono ?_
        rintro e z3 ⟨rfl, hB⟩
        rw [g2.out]
        clear a0 a1 a2 a3 c0 c1 c2 c3 r0 r1 r2 r3 r4 r5
        replace VA := hid (var_below hB VA.out)
        replace VC := hid (var_below hB VC.out)
        replace VR := hid (var_below hB VR.out)
        replace BB := hid (BB.out.trans (hB.mono BB.out.size))
        clear hB
        obtain ⟨⟨a0, a1, a2, a3⟩, -⟩ := var4_facts VA.out
        obtain ⟨⟨c0, c1, c2, c3⟩, -⟩ := var4_facts VC.out
        obtain ⟨⟨r0, r1, r2, r3, r4, r5⟩, -⟩ := v6_facts VR.out
        go_wp2
        go_ret
        exact ⟨rfl, BB.out⟩
    cases h2 : t.2.2
    case false =>
      have Z := VB.out
      rw [h0, h2] at Z
      replace VB := hid Z
      clear Z
      go_wp2
      obtain ⟨⟨b0, b1, b2, b3, b4, b5⟩, -⟩ := v6_facts VB.out
      obtain ⟨⟨w_0, w_1, w_2, w_3, w_4, w_5, w_6⟩, -⟩ := v7_facts VW.out
      refine wp_region_held_drew (S := fun w' => Below w13.heap.size w13 w') (by kernel_rfl) (Below.refl _ _).drew (fun hH => ?_)
      generalize w13.drew = y0 at hH ⊢
      refine wpAnyH_take (i := 0) (v := .pointer (some ⟨gt, 0, none⟩)) (by simp only [List.getElem?_toArray, List.getElem?_cons_zero]; rfl) (by kernel_rfl) (by kernel_rfl) (by kernel_rfl) (by intro _ _ _ h; exact h) (Or.inl ⟨by rfl, fun w hS => by go_simp⟩) hH ?_
      simp only [Act.put, List.setIfInBounds_toArray, List.set_cons_zero, List.set_cons_succ]
      refine wpAnyH_take (i := 1) (v := .int .i64 0) (by simp only [List.getElem?_toArray, List.getElem?_cons_succ, List.getElem?_cons_zero]; rfl) (by kernel_rfl) (by kernel_rfl) (by kernel_rfl) (by intro _ _ _ h; exact h) (Or.inl ⟨by rfl, fun w hS => by (have y0 := cell_kept hS b0; go_simp)⟩) hH ?_
      simp only [Act.put, List.setIfInBounds_toArray, List.set_cons_zero, List.set_cons_succ]
      refine wpAnyH_take (i := 2) (v := .bool true) (by simp only [List.getElem?_toArray, List.getElem?_cons_succ, List.getElem?_cons_zero]; rfl) (by kernel_rfl) (by kernel_rfl) (by kernel_rfl) (by intro _ _ _ h; exact h) (Or.inl ⟨by rfl, fun w hS => by go_simp⟩) hH ?_
      simp only [Act.put, List.setIfInBounds_toArray, List.set_cons_zero, List.set_cons_succ]
      refine wpAnyH_take (i := 3) (v := .bool true) (by simp only [List.getElem?_toArray, List.getElem?_cons_succ, List.getElem?_cons_zero]; rfl) (by kernel_rfl) (by kernel_rfl) (by kernel_rfl) (by intro _ _ _ h; exact h) (Or.inl ⟨by rfl, fun w hS => by go_simp⟩) hH ?_
      simp only [Act.put, List.setIfInBounds_toArray, List.set_cons_zero, List.set_cons_succ]
      refine wpAnyH_take (i := 4) (v := .pointer (some ⟨gt, 5, none⟩)) (by simp only [List.getElem?_toArray, List.getElem?_cons_succ, List.getElem?_cons_zero]; rfl) (by kernel_rfl) (by kernel_rfl) (by kernel_rfl) (by intro _ _ _ h; exact h) (Or.inl ⟨by rfl, fun w hS => by go_simp⟩) hH ?_
      simp only [Act.put, List.setIfInBounds_toArray, List.set_cons_zero, List.set_cons_succ]
      refine wpAnyH_take (i := 5) (v := .bool false) (by simp only [List.getElem?_toArray, List.getElem?_cons_succ, List.getElem?_cons_zero]; rfl) (by kernel_rfl) (by kernel_rfl) (by kernel_rfl) (by intro _ _ _ h; exact h) (Or.inl ⟨by rfl, fun w hS => by (have y5 := cell_kept hS b5; go_simp)⟩) hH ?_
      simp only [Act.put, List.setIfInBounds_toArray, List.set_cons_zero, List.set_cons_succ]
      refine wpAnyH_take (i := 6) (v := .bool false) (by simp only [List.getElem?_toArray, List.getElem?_cons_succ, List.getElem?_cons_zero]; rfl) (by kernel_rfl) (by kernel_rfl) (by kernel_rfl) (by intro _ _ _ h; exact h) (Or.inl ⟨by rfl, fun w hS => by go_simp⟩) hH ?_
      simp only [Act.put, List.setIfInBounds_toArray, List.set_cons_zero, List.set_cons_succ]
      refine wpAnyH_take (i := 7) (v := .bool false) (by simp only [List.getElem?_toArray, List.getElem?_cons_succ, List.getElem?_cons_zero]; rfl) (by kernel_rfl) (by kernel_rfl) (by kernel_rfl) (by intro _ _ _ h; exact h) (Or.inl ⟨by rfl, fun w hS => by go_simp⟩) hH ?_
      simp only [Act.put, List.setIfInBounds_toArray, List.set_cons_zero, List.set_cons_succ]
      refine wpAnyH_take (i := 8) (v := undef) (by simp only [List.getElem?_toArray, List.getElem?_cons_succ, List.getElem?_cons_zero]; rfl) (by kernel_rfl) (by kernel_rfl) (by kernel_rfl) (by intro _ _ _ h; exact h) (Or.inr ⟨by rfl, rfl⟩) hH ?_
      simp only [Act.put, List.setIfInBounds_toArray, List.set_cons_zero, List.set_cons_succ]
      refine wpAnyH_take (i := 9) (v := undef) (by simp only [List.getElem?_toArray, List.getElem?_cons_succ, List.getElem?_cons_zero]; rfl) (by kernel_rfl) (by kernel_rfl) (by kernel_rfl) (by intro _ _ _ h; exact h) (Or.inr ⟨by rfl, rfl⟩) hH ?_
      simp only [Act.put, List.setIfInBounds_toArray, List.set_cons_zero, List.set_cons_succ]
      refine wpAnyH_take (i := 10) (v := undef) (by simp only [List.getElem?_toArray, List.getElem?_cons_succ, List.getElem?_cons_zero]; rfl) (by kernel_rfl) (by kernel_rfl) (by kernel_rfl) (by intro _ _ _ h; exact h) (Or.inr ⟨by rfl, rfl⟩) hH ?_
      simp only [Act.put, List.setIfInBounds_toArray, List.set_cons_zero, List.set_cons_succ]
      refine wpAnyH_take (i := 11) (v := undef) (by simp only [List.getElem?_toArray, List.getElem?_cons_succ, List.getElem?_cons_zero]; rfl) (by kernel_rfl) (by kernel_rfl) (by kernel_rfl) (by intro _ _ _ h; exact h) (Or.inr ⟨by rfl, rfl⟩) hH ?_
      simp only [Act.put, List.setIfInBounds_toArray, List.set_cons_zero, List.set_cons_succ]
      refine wpAnyH_take (i := 12) (v := undef) (by simp only [List.getElem?_toArray, List.getElem?_cons_succ, List.getElem?_cons_zero]; rfl) (by kernel_rfl) (by kernel_rfl) (by kernel_rfl) (by intro _ _ _ h; exact h) (Or.inr ⟨by rfl, rfl⟩) hH ?_
      simp only [Act.put, List.setIfInBounds_toArray, List.set_cons_zero, List.set_cons_succ]
      refine wpAnyH_take (i := 13) (v := undef) (by simp only [List.getElem?_toArray, List.getElem?_cons_succ, List.getElem?_cons_zero]; rfl) (by kernel_rfl) (by kernel_rfl) (by kernel_rfl) (by intro _ _ _ h; exact h) (Or.inr ⟨by rfl, rfl⟩) hH ?_
      simp only [Act.put, List.setIfInBounds_toArray, List.set_cons_zero, List.set_cons_succ]
      refine wpAnyH_take (i := 14) (v := undef) (by simp only [List.getElem?_toArray, List.getElem?_cons_succ, List.getElem?_cons_zero]; rfl) (by kernel_rfl) (by kernel_rfl) (by kernel_rfl) (by intro _ _ _ h; exact h) (Or.inr ⟨by rfl, rfl⟩) hH ?_
      simp only [Act.put, List.setIfInBounds_toArray, List.set_cons_zero, List.set_cons_succ]
      refine wpAnyH_take (i := 15) (v := undef) (by simp only [List.getElem?_toArray, List.getElem?_cons_succ, List.getElem?_cons_zero]; rfl) (by kernel_rfl) (by kernel_rfl) (by kernel_rfl) (by intro _ _ _ h; exact h) (Or.inr ⟨by rfl, rfl⟩) hH ?_
      simp only [Act.put, List.setIfInBounds_toArray, List.set_cons_zero, List.set_cons_succ]
      refine wpAnyH_take (i := 16) (v := undef) (by simp only [List.getElem?_toArray, List.getElem?_cons_succ, List.getElem?_cons_zero]; rfl) (by kernel_rfl) (by kernel_rfl) (by kernel_rfl) (by intro _ _ _ h; exact h) (Or.inr ⟨by rfl, rfl⟩) hH ?_
      simp only [Act.put, List.setIfInBounds_toArray, List.set_cons_zero, List.set_cons_succ]
      refine wpAnyH_take (i := 17) (v := undef) (by simp only [List.getElem?_toArray, List.getElem?_cons_succ, List.getElem?_cons_zero]; rfl) (by kernel_rfl) (by kernel_rfl) (by kernel_rfl) (by intro _ _ _ h; exact h) (Or.inr ⟨by rfl, rfl⟩) hH ?_
      simp only [Act.put, List.setIfInBounds_toArray, List.set_cons_zero, List.set_cons_succ]
      refine wpAnyH_take (i := 18) (v := undef) (by simp only [List.getElem?_toArray, List.getElem?_cons_succ, List.getElem?_cons_zero]; rfl) (by kernel_rfl) (by kernel_rfl) (by kernel_rfl) (by intro _ _ _ h; exact h) (Or.inr ⟨by rfl, rfl⟩) hH ?_
      simp only [Act.put, List.setIfInBounds_toArray, List.set_cons_zero, List.set_cons_succ]
      refine wpAnyH_take (i := 19) (v := undef) (by simp only [List.getElem?_toArray, List.getElem?_cons_succ, List.getElem?_cons_zero]; rfl) (by kernel_rfl) (by kernel_rfl) (by kernel_rfl) (by intro _ _ _ h; exact h) (Or.inr ⟨by rfl, rfl⟩) hH ?_
      simp only [Act.put, List.setIfInBounds_toArray, List.set_cons_zero, List.set_cons_succ]
      refine wpAnyH_take (i := 20) (v := undef) (by simp only [List.getElem?_toArray, List.getElem?_cons_succ, List.getElem?_cons_zero]; rfl) (by kernel_rfl) (by kernel_rfl) (by kernel_rfl) (by intro _ _ _ h; exact h) (Or.inr ⟨by rfl, rfl⟩) hH ?_
      simp only [Act.put, List.setIfInBounds_toArray, List.set_cons_zero, List.set_cons_succ]
      refine wpAnyH_take (i := 21) (v := undef) (by simp only [List.getElem?_toArray, List.getElem?_cons_succ, List.getElem?_cons_zero]; rfl) (by kernel_rfl) (by kernel_rfl) (by kernel_rfl) (by intro _ _ _ h; exact h) (Or.inr ⟨by rfl, rfl⟩) hH ?_
      simp only [Act.put, List.setIfInBounds_toArray, List.set_cons_zero, List.set_cons_succ]
      refine wpAnyH_take (i := 22) (v := undef) (by simp only [List.getElem?_toArray, List.getElem?_cons_succ, List.getElem?_cons_zero]; rfl) (by kernel_rfl) (by kernel_rfl) (by kernel_rfl) (by intro _ _ _ h; exact h) (Or.inr ⟨by rfl, rfl⟩) hH ?_
      simp only [Act.put, List.setIfInBounds_toArray, List.set_cons_zero, List.set_cons_succ]
      refine wpAnyH_take (i := 23) (v := undef) (by simp only [List.getElem?_toArray, List.getElem?_cons_succ, List.getElem?_cons_zero]; rfl) (by kernel_rfl) (by kernel_rfl) (by kernel_rfl) (by intro _ _ _ h; exact h) (Or.inr ⟨by rfl, rfl⟩) hH ?_
      simp only [Act.put, List.setIfInBounds_toArray, List.set_cons_zero, List.set_cons_succ]
      refine wpAnyH_take (i := 24) (v := undef) (by simp only [List.getElem?_toArray, List.getElem?_cons_succ, List.getElem?_cons_zero]; rfl) (by kernel_rfl) (by kernel_rfl) (by kernel_rfl) (by intro _ _ _ h; exact h) (Or.inr ⟨by rfl, rfl⟩) hH ?_
      simp only [Act.put, List.setIfInBounds_toArray, List.set_cons_zero, List.set_cons_succ]
      refine wpAnyH_take (i := 25) (v := undef) (by simp only [List.getElem?_toArray, List.getElem?_cons_succ, List.getElem?_cons_zero]; rfl) (by kernel_rfl) (by kernel_rfl) (by kernel_rfl) (by intro _ _ _ h; exact h) (Or.inr ⟨by rfl, rfl⟩) hH ?_
      simp only [Act.put, List.setIfInBounds_toArray, List.set_cons_zero, List.set_cons_succ]
      refine wpAnyH_take (i := 26) (v := undef) (by simp only [List.getElem?_toArray, List.getElem?_cons_succ, List.getElem?_cons_zero]; rfl) (by kernel_rfl) (by kernel_rfl) (by kernel_rfl) (by intro _ _ _ h; exact h) (Or.inr ⟨by rfl, rfl⟩) hH ?_
      simp only [Act.put, List.setIfInBounds_toArray, List.set_cons_zero, List.set_cons_succ]
      refine wpAnyH_take (i := 27) (v := undef) (by simp only [List.getElem?_toArray, List.getElem?_cons_succ, List.getElem?_cons_zero]; rfl) (by kernel_rfl) (by kernel_rfl) (by kernel_rfl) (by intro _ _ _ h; exact h) (Or.inr ⟨by rfl, rfl⟩) hH ?_
      simp only [Act.put, List.setIfInBounds_toArray, List.set_cons_zero, List.set_cons_succ]
      refine wpAnyH_take (i := 28) (v := undef) (by simp only [List.getElem?_toArray, List.getElem?_cons_succ, List.getElem?_cons_zero]; rfl) (by kernel_rfl) (by kernel_rfl) (by kernel_rfl) (by intro _ _ _ h; exact h) (Or.inr ⟨by rfl, rfl⟩) hH ?_
      simp only [Act.put, List.setIfInBounds_toArray, List.set_cons_zero, List.set_cons_succ]
      refine wpAnyH_take (i := 29) (v := undef) (by simp only [List.getElem?_toArray, List.getElem?_cons_succ, List.getElem?_cons_zero]; rfl) (by kernel_rfl) (by kernel_rfl) (by kernel_rfl) (by intro _ _ _ h; exact h) (Or.inr ⟨by rfl, rfl⟩) hH ?_
      simp only [Act.put, List.setIfInBounds_toArray, List.set_cons_zero, List.set_cons_succ]
      refine wpAnyH_take (i := 30) (v := undef) (by simp only [List.getElem?_toArray, List.getElem?_cons_succ, List.getElem?_cons_zero]; rfl) (by kernel_rfl) (by kernel_rfl) (by kernel_rfl) (by intro _ _ _ h; exact h) (Or.inr ⟨by rfl, rfl⟩) hH ?_
      simp only [Act.put, List.setIfInBounds_toArray, List.set_cons_zero, List.set_cons_succ]
      refine wpAnyH_take (i := 31) (v := undef) (by simp only [List.getElem?_toArray, List.getElem?_cons_succ, List.getElem?_cons_zero]; rfl) (by kernel_rfl) (by kernel_rfl) (by kernel_rfl) (by intro _ _ _ h; exact h) (Or.inr ⟨by rfl, rfl⟩) hH ?_
      simp only [Act.put, List.setIfInBounds_toArray, List.set_cons_zero, List.set_cons_succ]
      refine wpAnyH_take (i := 32) (v := undef) (by simp only [List.getElem?_toArray, List.getElem?_cons_succ, List.getElem?_cons_zero]; rfl) (by kernel_rfl) (by kernel_rfl) (by kernel_rfl) (by intro _ _ _ h; exact h) (Or.inr ⟨by rfl, rfl⟩) hH ?_
      simp only [Act.put, List.setIfInBounds_toArray, List.set_cons_zero, List.set_cons_succ]
      refine wpAnyH_take (i := 33) (v := .bool false) (by simp only [List.getElem?_toArray, List.getElem?_cons_succ, List.getElem?_cons_zero]; rfl) (by kernel_rfl) (by kernel_rfl) (by kernel_rfl) (by intro _ _ _ h; exact h) (Or.inl ⟨by rfl, fun w hS => by go_simp⟩) hH ?_
      simp only [Act.put, List.setIfInBounds_toArray, List.set_cons_zero, List.set_cons_succ]
      refine wpAnyH_done (by kernel_rfl) ?_ _
      have hB := hH
      clear hH b0 b1 b2 b3 b4 b5 w_0 w_1 w_2 w_3 w_4 w_5 w_6
      replace HV := hid (HV.out.below hB)
      replace HW := hid (HW.out.below hB)
      replace VA := hid (var_below hB VA.out)
      replace VC := hid (var_below hB VC.out)
      replace VR := hid (var_below hB VR.out)
      replace VS := hid (var_below hB VS.out)
      replace VW := hid (var_below hB VW.out)
      replace VB := hid (var_below hB VB.out)
      replace BB := hid (BB.out.trans (hB.mono BB.out.size))
      clear hB
      generalize y0 = w14 at *
      clear h0 h2
      clear HV HW VS VW VB
      by_cases h0 : r.1 = 0
      case neg =>
        have nz : (r.1 != 0) = true := by rw [bne_iff_ne]; exact h0
        obtain ⟨⟨a0, a1, a2, a3⟩, -⟩ := var4_facts VA.out
        obtain ⟨⟨c0, c1, c2, c3⟩, -⟩ := var4_facts VC.out
        obtain ⟨⟨r0, r1, r2, r3, r4, r5⟩, -⟩ := v6_facts VR.out
        go_wp2
        go_ret
        exact ⟨rfl, BB.out⟩
      obtain ⟨f1, f2, f3, f4⟩ := FR.out h0
      replace f1 := hid f1
      rcases f4 with ⟨m, e⟩ | ⟨m, g1, g2, g3⟩
      · have Z := VR.out
        rw [h0, e, m] at Z
        rw [e] at f1
        replace VR := hid Z
        have hq := eql_clm a
        clear Z h0 f2 f3 e m
        obtain ⟨⟨a0, a1, a2, a3⟩, -⟩ := var4_facts VA.out
        obtain ⟨⟨c0, c1, c2, c3⟩, -⟩ := var4_facts VC.out
        obtain ⟨⟨r0, r1, r2, r3, r4, r5⟩, -⟩ := v6_facts VR.out
        go_wp2_with fail
        refine (ibt b a _).mono ?_
        rintro e z1 ⟨rfl, hB⟩
        rw [f1.out]
        clear a0 a1 a2 a3 c0 c1 c2 c3 r0 r1 r2 r3 r4 r5
        replace VA := hid (var_below hB VA.out)
        replace VC := hid (var_below hB VC.out)
        replace VR := hid (var_below hB VR.out)
        replace BB := hid (BB.out.trans (hB.mono BB.out.size))
        clear hB
        obtain ⟨⟨a0, a1, a2, a3⟩, -⟩ := var4_facts VA.out
        obtain ⟨⟨c0, c1, c2, c3⟩, -⟩ := var4_facts VC.out
        obtain ⟨⟨r0, r1, r2, r3, r4, r5⟩, -⟩ := v6_facts VR.out
        go_wp2
        go_ret
        exact ⟨rfl, BB.out⟩
      · have Z := VR.out
        rw [h0, m] at Z
        replace VR := hid Z
        have q1 : (r.2.1.n == a.n) = true := by simp [f2]
        have q2 : (r.2.1.m == a.m) = true := by simp [f3]
        have q3 : (r.2.1.s == 0) = true := by simp [g3]
        replace g1 := hid g1
        replace g2 := hid g2
        clear Z h0 f2 f3 m g3
        obtain ⟨⟨a0, a1, a2, a3⟩, -⟩ := var4_facts VA.out
        obtain ⟨⟨c0, c1, c2, c3⟩, -⟩ := var4_facts VC.out
        obtain ⟨⟨r0, r1, r2, r3, r4, r5⟩, -⟩ := v6_facts VR.out
        go_wp2_with fail
        refine (ibt b r.2.1 _).mono ?_
        rintro e z1 ⟨rfl, hB⟩
        rw [f1.out]
        clear a0 a1 a2 a3 c0 c1 c2 c3 r0 r1 r2 r3 r4 r5
        replace VA := hid (var_below hB VA.out)
        replace VC := hid (var_below hB VC.out)
        replace VR := hid (var_below hB VR.out)
        replace BB := hid (BB.out.trans (hB.mono BB.out.size))
        clear hB
        obtain ⟨⟨a0, a1, a2, a3⟩, -⟩ := var4_facts VA.out
        obtain ⟨⟨c0, c1, c2, c3⟩, -⟩ := var4_facts VC.out
        obtain ⟨⟨r0, r1, r2, r3, r4, r5⟩, -⟩ := v6_facts VR.out
        go_wp2_with fail
        refine (ibt r.2.1 a _).mono ?_
        rintro e z2 ⟨rfl, hB⟩
        rw [g1.out]
        clear a0 a1 a2 a3 c0 c1 c2 c3 r0 r1 r2 r3 r4 r5
        replace VA := hid (var_below hB VA.out)
        replace VC := hid (var_below hB VC.out)
        replace VR := hid (var_below hB VR.out)
        replace BB := hid (BB.out.trans (hB.mono BB.out.size))
        clear hB
        obtain ⟨⟨a0, a1, a2, a3⟩, -⟩ := var4_facts VA.out
        obtain ⟨⟨c0, c1, c2, c3⟩, -⟩ := var4_facts VC.out
        obtain ⟨⟨r0, r1, r2, r3, r4, r5⟩, -⟩ := v6_facts VR.out
        go_wp2_with fail
        refine (ibt r.2.1 b _).mono ?_
        rintro e z3 ⟨rfl, hB⟩
        rw [g2.out]
        clear a0 a1 a2 a3 c0 c1 c2 c3 r0 r1 r2 r3 r4 r5
        replace VA := hid (var_below hB VA.out)
        replace VC := hid (var_below hB VC.out)
        replace VR := hid (var_below hB VR.out)
        replace BB := hid (BB.out.trans (hB.mono BB.out.size))
        clear hB
        obtain ⟨⟨a0, a1, a2, a3⟩, -⟩ := var4_facts VA.out
        obtain ⟨⟨c0, c1, c2, c3⟩, -⟩ := var4_facts VC.out
        obtain ⟨⟨r0, r1, r2, r3, r4, r5⟩, -⟩ := v6_facts VR.out
        go_wp2
        go_ret
        exact ⟨rfl, BB.out⟩
    have Z := VB.out
    rw [h0, h2] at Z
    replace VB := hid Z
    clear Z
    obtain ⟨X, xc, xl, xi, xs, xb⟩ := FB.out h2
    have XI := hid xi
    have XS := hid xs
    clear xi xs
    have XC := hid xc
    have XL := hid xl
    have XB := hid xb
    clear xc xl xb h0 h2
    go_wp2
    obtain ⟨⟨b0, b1, b2, b3, b4, b5⟩, -⟩ := v6_facts VB.out
    obtain ⟨⟨w_0, w_1, w_2, w_3, w_4, w_5, w_6⟩, -⟩ := v7_facts VW.out
    refine wp_region_held_drew (S := fun w' => Below w13.heap.size w13 w') (by kernel_rfl) (Below.refl _ _).drew (fun hH => ?_)
    generalize w13.drew = y0 at hH ⊢
    refine wpAnyH_take (i := 0) (v := .pointer (some ⟨gt, 0, none⟩)) (by simp only [List.getElem?_toArray, List.getElem?_cons_zero]; rfl) (by kernel_rfl) (by kernel_rfl) (by kernel_rfl) (by intro _ _ _ h; exact h) (Or.inl ⟨by rfl, fun w hS => by go_simp⟩) hH ?_
    simp only [Act.put, List.setIfInBounds_toArray, List.set_cons_zero, List.set_cons_succ]
    refine wpAnyH_take (i := 1) (v := .int .i64 0) (by simp only [List.getElem?_toArray, List.getElem?_cons_succ, List.getElem?_cons_zero]; rfl) (by kernel_rfl) (by kernel_rfl) (by kernel_rfl) (by intro _ _ _ h; exact h) (Or.inl ⟨by rfl, fun w hS => by (have y0 := cell_kept hS b0; go_simp)⟩) hH ?_
    simp only [Act.put, List.setIfInBounds_toArray, List.set_cons_zero, List.set_cons_succ]
    refine wpAnyH_take (i := 2) (v := .bool true) (by simp only [List.getElem?_toArray, List.getElem?_cons_succ, List.getElem?_cons_zero]; rfl) (by kernel_rfl) (by kernel_rfl) (by kernel_rfl) (by intro _ _ _ h; exact h) (Or.inl ⟨by rfl, fun w hS => by go_simp⟩) hH ?_
    simp only [Act.put, List.setIfInBounds_toArray, List.set_cons_zero, List.set_cons_succ]
    refine wpAnyH_take (i := 3) (v := .bool true) (by simp only [List.getElem?_toArray, List.getElem?_cons_succ, List.getElem?_cons_zero]; rfl) (by kernel_rfl) (by kernel_rfl) (by kernel_rfl) (by intro _ _ _ h; exact h) (Or.inl ⟨by rfl, fun w hS => by go_simp⟩) hH ?_
    simp only [Act.put, List.setIfInBounds_toArray, List.set_cons_zero, List.set_cons_succ]
    refine wpAnyH_take (i := 4) (v := .pointer (some ⟨gt, 5, none⟩)) (by simp only [List.getElem?_toArray, List.getElem?_cons_succ, List.getElem?_cons_zero]; rfl) (by kernel_rfl) (by kernel_rfl) (by kernel_rfl) (by intro _ _ _ h; exact h) (Or.inl ⟨by rfl, fun w hS => by go_simp⟩) hH ?_
    simp only [Act.put, List.setIfInBounds_toArray, List.set_cons_zero, List.set_cons_succ]
    refine wpAnyH_take (i := 5) (v := .bool true) (by simp only [List.getElem?_toArray, List.getElem?_cons_succ, List.getElem?_cons_zero]; rfl) (by kernel_rfl) (by kernel_rfl) (by kernel_rfl) (by intro _ _ _ h; exact h) (Or.inl ⟨by rfl, fun w hS => by (have y5 := cell_kept hS b5; go_simp)⟩) hH ?_
    simp only [Act.put, List.setIfInBounds_toArray, List.set_cons_zero, List.set_cons_succ]
    refine wpAnyH_take (i := 6) (v := .bool true) (by simp only [List.getElem?_toArray, List.getElem?_cons_succ, List.getElem?_cons_zero]; rfl) (by kernel_rfl) (by kernel_rfl) (by kernel_rfl) (by intro _ _ _ h; exact h) (Or.inl ⟨by rfl, fun w hS => by go_simp⟩) hH ?_
    simp only [Act.put, List.setIfInBounds_toArray, List.set_cons_zero, List.set_cons_succ]
    refine wpAnyH_take (i := 7) (v := .bool true) (by simp only [List.getElem?_toArray, List.getElem?_cons_succ, List.getElem?_cons_zero]; rfl) (by kernel_rfl) (by kernel_rfl) (by kernel_rfl) (by intro _ _ _ h; exact h) (Or.inl ⟨by rfl, fun w hS => by go_simp⟩) hH ?_
    simp only [Act.put, List.setIfInBounds_toArray, List.set_cons_zero, List.set_cons_succ]
    refine wpAnyH_take (i := 8) (v := .pointer (some ⟨gt, 1, none⟩)) (by simp only [List.getElem?_toArray, List.getElem?_cons_succ, List.getElem?_cons_zero]; rfl) (by kernel_rfl) (by kernel_rfl) (by kernel_rfl) (by intro _ _ _ h; exact h) (Or.inl ⟨by rfl, fun w hS => by go_simp⟩) hH ?_
    simp only [Act.put, List.setIfInBounds_toArray, List.set_cons_zero, List.set_cons_succ]
    refine wpAnyH_take (i := 9) (v := .pointer (some ⟨gt, 2, none⟩)) (by simp only [List.getElem?_toArray, List.getElem?_cons_succ, List.getElem?_cons_zero]; rfl) (by kernel_rfl) (by kernel_rfl) (by kernel_rfl) (by intro _ _ _ h; exact h) (Or.inl ⟨by rfl, fun w hS => by go_simp⟩) hH ?_
    simp only [Act.put, List.setIfInBounds_toArray, List.set_cons_zero, List.set_cons_succ]
    refine wpAnyH_take (i := 10) (v := .int .i64 t.2.1.i) (by simp only [List.getElem?_toArray, List.getElem?_cons_succ, List.getElem?_cons_zero]; rfl) (by kernel_rfl) (by kernel_rfl) (by kernel_rfl) (by intro _ _ _ h; exact h) (Or.inl ⟨by rfl, fun w hS => by (have y2 := cell_kept hS b2; go_simp)⟩) hH ?_
    simp only [Act.put, List.setIfInBounds_toArray, List.set_cons_zero, List.set_cons_succ]
    refine wpAnyH_take (i := 11) (v := .pointer (some ⟨gw, 3, none⟩)) (by simp only [List.getElem?_toArray, List.getElem?_cons_succ, List.getElem?_cons_zero]; rfl) (by kernel_rfl) (by kernel_rfl) (by kernel_rfl) (by intro _ _ _ h; exact h) (Or.inl ⟨by rfl, fun w hS => by go_simp⟩) hH ?_
    simp only [Act.put, List.setIfInBounds_toArray, List.set_cons_zero, List.set_cons_succ]
    refine wpAnyH_take (i := 12) (v := .int .i64 x.d) (by simp only [List.getElem?_toArray, List.getElem?_cons_succ, List.getElem?_cons_zero]; rfl) (by kernel_rfl) (by kernel_rfl) (by kernel_rfl) (by intro _ _ _ h; exact h) (Or.inl ⟨by rfl, fun w hS => by (have y3 := cell_kept hS w_3; go_simp)⟩) hH ?_
    simp only [Act.put, List.setIfInBounds_toArray, List.set_cons_zero, List.set_cons_succ]
    refine wpAnyH_take (i := 13) (v := .bool false) (by simp only [List.getElem?_toArray, List.getElem?_cons_succ, List.getElem?_cons_zero]; rfl) (by kernel_rfl) (by kernel_rfl) (by kernel_rfl) (by intro _ _ _ h; exact h) (Or.inl ⟨by rfl, fun w hS => by (have hi := XI.out; go_simp)⟩) hH ?_
    simp only [Act.put, List.setIfInBounds_toArray, List.set_cons_zero, List.set_cons_succ]
    refine wpAnyH_take (i := 14) (v := .bool false) (by simp only [List.getElem?_toArray, List.getElem?_cons_succ, List.getElem?_cons_zero]; rfl) (by kernel_rfl) (by kernel_rfl) (by kernel_rfl) (by intro _ _ _ h; exact h) (Or.inl ⟨by rfl, fun w hS => by go_simp⟩) hH ?_
    simp only [Act.put, List.setIfInBounds_toArray, List.set_cons_zero, List.set_cons_succ]
    refine wpAnyH_take (i := 15) (v := .pointer (some ⟨gt, 1, none⟩)) (by simp only [List.getElem?_toArray, List.getElem?_cons_succ, List.getElem?_cons_zero]; rfl) (by kernel_rfl) (by kernel_rfl) (by kernel_rfl) (by intro _ _ _ h; exact h) (Or.inl ⟨by rfl, fun w hS => by go_simp⟩) hH ?_
    simp only [Act.put, List.setIfInBounds_toArray, List.set_cons_zero, List.set_cons_succ]
    refine wpAnyH_take (i := 16) (v := .pointer (some ⟨gt, 3, none⟩)) (by simp only [List.getElem?_toArray, List.getElem?_cons_succ, List.getElem?_cons_zero]; rfl) (by kernel_rfl) (by kernel_rfl) (by kernel_rfl) (by intro _ _ _ h; exact h) (Or.inl ⟨by rfl, fun w hS => by go_simp⟩) hH ?_
    simp only [Act.put, List.setIfInBounds_toArray, List.set_cons_zero, List.set_cons_succ]
    refine wpAnyH_take (i := 17) (v := .int .i64 t.2.1.s) (by simp only [List.getElem?_toArray, List.getElem?_cons_succ, List.getElem?_cons_zero]; rfl) (by kernel_rfl) (by kernel_rfl) (by kernel_rfl) (by intro _ _ _ h; exact h) (Or.inl ⟨by rfl, fun w hS => by (have y3 := cell_kept hS b3; go_simp)⟩) hH ?_
    simp only [Act.put, List.setIfInBounds_toArray, List.set_cons_zero, List.set_cons_succ]
    refine wpAnyH_take (i := 18) (v := .bool false) (by simp only [List.getElem?_toArray, List.getElem?_cons_succ, List.getElem?_cons_zero]; rfl) (by kernel_rfl) (by kernel_rfl) (by kernel_rfl) (by intro _ _ _ h; exact h) (Or.inl ⟨by rfl, fun w hS => by (have hi := XS.out; go_simp)⟩) hH ?_
    simp only [Act.put, List.setIfInBounds_toArray, List.set_cons_zero, List.set_cons_succ]
    refine wpAnyH_take (i := 19) (v := .bool false) (by simp only [List.getElem?_toArray, List.getElem?_cons_succ, List.getElem?_cons_zero]; rfl) (by kernel_rfl) (by kernel_rfl) (by kernel_rfl) (by intro _ _ _ h; exact h) (Or.inl ⟨by rfl, fun w hS => by go_simp⟩) hH ?_
    simp only [Act.put, List.setIfInBounds_toArray, List.set_cons_zero, List.set_cons_succ]
    refine wpAnyH_take (i := 20) (v := .bool false) (by simp only [List.getElem?_toArray, List.getElem?_cons_succ, List.getElem?_cons_zero]; rfl) (by kernel_rfl) (by kernel_rfl) (by kernel_rfl) (by intro _ _ _ h; exact h) (Or.inl ⟨by rfl, fun w hS => by go_simp⟩) hH ?_
    simp only [Act.put, List.setIfInBounds_toArray, List.set_cons_zero, List.set_cons_succ]
    refine wpAnyH_take (i := 21) (v := .pointer (some ⟨gt, 1, none⟩)) (by simp only [List.getElem?_toArray, List.getElem?_cons_succ, List.getElem?_cons_zero]; rfl) (by kernel_rfl) (by kernel_rfl) (by kernel_rfl) (by intro _ _ _ h; exact h) (Or.inl ⟨by rfl, fun w hS => by go_simp⟩) hH ?_
    simp only [Act.put, List.setIfInBounds_toArray, List.set_cons_zero, List.set_cons_succ]
    refine wpAnyH_take (i := 22) (v := .agg #[.int .i64 t.2.1.n, .int .i64 t.2.1.i, .int .i64 t.2.1.s, .int .i64 t.2.1.m]) (by simp only [List.getElem?_toArray, List.getElem?_cons_succ, List.getElem?_cons_zero]; rfl) (by kernel_rfl) (by kernel_rfl) (by kernel_rfl) (by intro _ _ _ h; exact h) (Or.inl ⟨by rfl, fun w hS => by (have y1 := cell_kept hS b1; have y2 := cell_kept hS b2; have y3 := cell_kept hS b3; have y4 := cell_kept hS b4; go_simp)⟩) hH ?_
    simp only [Act.put, List.setIfInBounds_toArray, List.set_cons_zero, List.set_cons_succ]
    refine wpAnyH_take (i := 23) (v := .slice pw ds.length cw) (by simp only [List.getElem?_toArray, List.getElem?_cons_succ, List.getElem?_cons_zero]; rfl) (by kernel_rfl) (by kernel_rfl) (by kernel_rfl) (by intro _ _ _ h; exact h) (Or.inl ⟨by rfl, fun w hS => by go_simp⟩) hH ?_
    simp only [Act.put, List.setIfInBounds_toArray, List.set_cons_zero, List.set_cons_succ]
    refine wpAnyH_take (i := 24) (v := .pointer (some ⟨gw, 2, none⟩)) (by simp only [List.getElem?_toArray, List.getElem?_cons_succ, List.getElem?_cons_zero]; rfl) (by kernel_rfl) (by kernel_rfl) (by kernel_rfl) (by intro _ _ _ h; exact h) (Or.inl ⟨by rfl, fun w hS => by go_simp⟩) hH ?_
    simp only [Act.put, List.setIfInBounds_toArray, List.set_cons_zero, List.set_cons_succ]
    refine wpAnyH_take (i := 25) (v := .int .i64 x.c) (by simp only [List.getElem?_toArray, List.getElem?_cons_succ, List.getElem?_cons_zero]; rfl) (by kernel_rfl) (by kernel_rfl) (by kernel_rfl) (by intro _ _ _ h; exact h) (Or.inl ⟨by rfl, fun w hS => by (have y2 := cell_kept hS w_2; go_simp)⟩) hH ?_
    simp only [Act.put, List.setIfInBounds_toArray, List.set_cons_zero, List.set_cons_succ]
    refine wpAnyH_ready (rs := [26]) (by kernel_rfl) (by simp) ?_
    refine AllReadyH.cons (by simp only [List.getElem?_toArray, List.getElem?_cons_succ, List.getElem?_cons_zero]; rfl) (fun K hK => ?_) AllReadyH.nil
    go_simp
    refine (sfc _ ds x.c _ (HW.out.below hH)).mono ?_
    rintro e x26 ⟨ua, rfl, hO, hM⟩
    rw [XC.out]
    rw [XL.out] at hO
    obtain ⟨aa, ka, rfl, -, -, hcs⟩ := hO.parts
    obtain ⟨bxa, oxa, rfl, q1⟩ := hcs 0 (by simp)
    obtain ⟨e0, e1, e2, e3⟩ := c_cells q1
    simp only [List.getElem_cons_zero, Nat.zero_mul, Nat.add_zero] at e0 e1 e2 e3
    have I1 := idx_ci bxa oxa 1 ka 0 (by omega)
    simp only [Nat.zero_mul, Nat.add_zero, Int.cast_ofNat_Int] at I1
    clear q1 hcs hO
    refine hK.out _ _ (hH.trans (hM.mono hH.size)) (fun hH => ?_)
    clear hK K hM
    refine wpAnyH_take (i := 27) (v := .slice (some ⟨bxa, oxa, none⟩) 1 ka) (by simp only [List.getElem?_toArray, List.getElem?_cons_succ, List.getElem?_cons_zero]; rfl) (by kernel_rfl) (by kernel_rfl) (by kernel_rfl) (by intro _ _ _ h; exact h) (Or.inl ⟨by rfl, fun w hS => by (have hf := fldV1d 0 (some ⟨bxa, oxa, none⟩) 1 ka; go_simp)⟩) hH ?_
    simp only [Act.put, List.setIfInBounds_toArray, List.set_cons_zero, List.set_cons_succ]
    refine wpAnyH_take (i := 28) (v := .pointer (some ⟨bxa, oxa, none⟩)) (by simp only [List.getElem?_toArray, List.getElem?_cons_succ, List.getElem?_cons_zero]; rfl) (by kernel_rfl) (by kernel_rfl) (by kernel_rfl) (by intro _ _ _ h; exact h) (Or.inl ⟨by rfl, fun w hS => by go_simp⟩) hH ?_
    simp only [Act.put, List.setIfInBounds_toArray, List.set_cons_zero, List.set_cons_succ]
    refine wpAnyH_ready (rs := [29]) (by kernel_rfl) (by simp) ?_
    refine AllReadyH.cons (by simp only [List.getElem?_toArray, List.getElem?_cons_succ, List.getElem?_cons_zero]; rfl) (fun K hK => ?_) AllReadyH.nil
    go_simp
    refine hK.out _ _ hH (fun hH => ?_)
    clear hK K
    try simp only [Act.put, List.setIfInBounds_toArray, List.set_cons_zero, List.set_cons_succ]
    clear e0 e1 e2 e3 I1
    refine wpAnyH_ready (rs := [30]) (by kernel_rfl) (by simp) ?_
    refine AllReadyH.cons (by simp only [List.getElem?_toArray, List.getElem?_cons_succ, List.getElem?_cons_zero]; rfl) (fun K hK => ?_) AllReadyH.nil
    go_simp
    refine (ibt t.2.1 X _).mono ?_
    rintro e x30 ⟨rfl, hM⟩
    rw [XB.out]
    refine hK.out _ _ (hH.trans (hM.mono hH.size)) (fun hH => ?_)
    clear hK K hM
    refine wpAnyH_take (i := 31) (v := .bool false) (by simp only [List.getElem?_toArray, List.getElem?_cons_succ, List.getElem?_cons_zero]; rfl) (by kernel_rfl) (by kernel_rfl) (by kernel_rfl) (by intro _ _ _ h; exact h) (Or.inl ⟨by rfl, fun w hS => by go_simp⟩) hH ?_
    simp only [Act.put, List.setIfInBounds_toArray, List.set_cons_zero, List.set_cons_succ]
    refine wpAnyH_take (i := 32) (v := .bool false) (by simp only [List.getElem?_toArray, List.getElem?_cons_succ, List.getElem?_cons_zero]; rfl) (by kernel_rfl) (by kernel_rfl) (by kernel_rfl) (by intro _ _ _ h; exact h) (Or.inl ⟨by rfl, fun w hS => by go_simp⟩) hH ?_
    simp only [Act.put, List.setIfInBounds_toArray, List.set_cons_zero, List.set_cons_succ]
    refine wpAnyH_take (i := 33) (v := .bool false) (by simp only [List.getElem?_toArray, List.getElem?_cons_succ, List.getElem?_cons_zero]; rfl) (by kernel_rfl) (by kernel_rfl) (by kernel_rfl) (by intro _ _ _ h; exact h) (Or.inl ⟨by rfl, fun w hS => by go_simp⟩) hH ?_
    simp only [Act.put, List.setIfInBounds_toArray, List.set_cons_zero, List.set_cons_succ]
    refine wpAnyH_done (by kernel_rfl) ?_ _
    have hB := hH
    clear hH b0 b1 b2 b3 b4 b5 w_0 w_1 w_2 w_3 w_4 w_5 w_6
    replace HV := hid (HV.out.below hB)
    replace HW := hid (HW.out.below hB)
    replace VA := hid (var_below hB VA.out)
    replace VC := hid (var_below hB VC.out)
    replace VR := hid (var_below hB VR.out)
    replace VS := hid (var_below hB VS.out)
    replace VW := hid (var_below hB VW.out)
    replace VB := hid (var_below hB VB.out)
    replace BB := hid (BB.out.trans (hB.mono BB.out.size))
    clear hB
    generalize x30 = w14 at *
    clear XC XL XB XI XS
    clear HV HW VS VW VB
    by_cases h0 : r.1 = 0
    case neg =>
      have nz : (r.1 != 0) = true := by rw [bne_iff_ne]; exact h0
      obtain ⟨⟨a0, a1, a2, a3⟩, -⟩ := var4_facts VA.out
      obtain ⟨⟨c0, c1, c2, c3⟩, -⟩ := var4_facts VC.out
      obtain ⟨⟨r0, r1, r2, r3, r4, r5⟩, -⟩ := v6_facts VR.out
      go_wp2
      go_ret
      exact ⟨rfl, BB.out⟩
    obtain ⟨f1, f2, f3, f4⟩ := FR.out h0
    replace f1 := hid f1
    rcases f4 with ⟨m, e⟩ | ⟨m, g1, g2, g3⟩
    · have Z := VR.out
      rw [h0, e, m] at Z
      rw [e] at f1
      replace VR := hid Z
      have hq := eql_clm a
      clear Z h0 f2 f3 e m
      obtain ⟨⟨a0, a1, a2, a3⟩, -⟩ := var4_facts VA.out
      obtain ⟨⟨c0, c1, c2, c3⟩, -⟩ := var4_facts VC.out
      obtain ⟨⟨r0, r1, r2, r3, r4, r5⟩, -⟩ := v6_facts VR.out
      go_wp2_with fail
      refine (ibt b a _).mono ?_
      rintro e z1 ⟨rfl, hB⟩
      rw [f1.out]
      clear a0 a1 a2 a3 c0 c1 c2 c3 r0 r1 r2 r3 r4 r5
      replace VA := hid (var_below hB VA.out)
      replace VC := hid (var_below hB VC.out)
      replace VR := hid (var_below hB VR.out)
      replace BB := hid (BB.out.trans (hB.mono BB.out.size))
      clear hB
      obtain ⟨⟨a0, a1, a2, a3⟩, -⟩ := var4_facts VA.out
      obtain ⟨⟨c0, c1, c2, c3⟩, -⟩ := var4_facts VC.out
      obtain ⟨⟨r0, r1, r2, r3, r4, r5⟩, -⟩ := v6_facts VR.out
      go_wp2
      go_ret
      exact ⟨rfl, BB.out⟩
    · have Z := VR.out
      rw [h0, m] at Z
      replace VR := hid Z
      have q1 : (r.2.1.n == a.n) = true := by simp [f2]
      have q2 : (r.2.1.m == a.m) = true := by simp [f3]
      have q3 : (r.2.1.s == 0) = true := by simp [g3]
      replace g1 := hid g1
      replace g2 := hid g2
      clear Z h0 f2 f3 m g3
      obtain ⟨⟨a0, a1, a2, a3⟩, -⟩ := var4_facts VA.out
      obtain ⟨⟨c0, c1, c2, c3⟩, -⟩ := var4_facts VC.out
      obtain ⟨⟨r0, r1, r2, r3, r4, r5⟩, -⟩ := v6_facts VR.out
      go_wp2_with fail
      refine (ibt b r.2.1 _).mono ?_
      rintro e z1 ⟨rfl, hB⟩
      rw [f1.out]
      clear a0 a1 a2 a3 c0 c1 c2 c3 r0 r1 r2 r3 r4 r5
      replace VA := hid (var_below hB VA.out)
      replace VC := hid (var_below hB VC.out)
      replace VR := hid (var_below hB VR.out)
      replace BB := hid (BB.out.trans (hB.mono BB.out.size))
      clear hB
      obtain ⟨⟨a0, a1, a2, a3⟩, -⟩ := var4_facts VA.out
      obtain ⟨⟨c0, c1, c2, c3⟩, -⟩ := var4_facts VC.out
      obtain ⟨⟨r0, r1, r2, r3, r4, r5⟩, -⟩ := v6_facts VR.out
      go_wp2_with fail
      refine (ibt r.2.1 a _).mono ?_
      rintro e z2 ⟨rfl, hB⟩
      rw [g1.out]
      clear a0 a1 a2 a3 c0 c1 c2 c3 r0 r1 r2 r3 r4 r5
      replace VA := hid (var_below hB VA.out)
      replace VC := hid (var_below hB VC.out)
      replace VR := hid (var_below hB VR.out)
      replace BB := hid (BB.out.trans (hB.mono BB.out.size))
      clear hB
      obtain ⟨⟨a0, a1, a2, a3⟩, -⟩ := var4_facts VA.out
      obtain ⟨⟨c0, c1, c2, c3⟩, -⟩ := var4_facts VC.out
      obtain ⟨⟨r0, r1, r2, r3, r4, r5⟩, -⟩ := v6_facts VR.out
      go_wp2_with fail
      refine (ibt r.2.1 b _).mono ?_
      rintro e z3 ⟨rfl, hB⟩
      rw [g2.out]
      clear a0 a1 a2 a3 c0 c1 c2 c3 r0 r1 r2 r3 r4 r5
      replace VA := hid (var_below hB VA.out)
      replace VC := hid (var_below hB VC.out)
      replace VR := hid (var_below hB VR.out)
      replace BB := hid (BB.out.trans (hB.mono BB.out.size))
      clear hB
      obtain ⟨⟨a0, a1, a2, a3⟩, -⟩ := var4_facts VA.out
      obtain ⟨⟨c0, c1, c2, c3⟩, -⟩ := var4_facts VC.out
      obtain ⟨⟨r0, r1, r2, r3, r4, r5⟩, -⟩ := v6_facts VR.out
      go_wp2
      go_ret
      exact ⟨rfl, BB.out⟩
  have Z := VS.out
  rw [h0, h2] at Z
  replace VS := hid Z
  clear Z
  obtain ⟨X, xc, xl, xb, xi⟩ := FS.out h2
  have XI := hid xi
  clear xi
  have XC := hid xc
  have XL := hid xl
  have XB := hid xb
  clear xc xl xb h0 h2
  go_wp2
  obtain ⟨⟨s0, s1, s2, s3, s4, s5⟩, -⟩ := v6_facts VS.out
  refine wp_region_held_drew (S := fun w' => Below w12.heap.size w12 w') (by kernel_rfl) (Below.refl _ _).drew (fun hH => ?_)
  generalize w12.drew = y0 at hH ⊢
  refine wpAnyH_take (i := 0) (v := .pointer (some ⟨gs, 0, none⟩)) (by simp only [List.getElem?_toArray, List.getElem?_cons_zero]; rfl) (by kernel_rfl) (by kernel_rfl) (by kernel_rfl) (by intro _ _ _ h; exact h) (Or.inl ⟨by rfl, fun w hS => by go_simp⟩) hH ?_
  simp only [Act.put, List.setIfInBounds_toArray, List.set_cons_zero, List.set_cons_succ]
  refine wpAnyH_take (i := 1) (v := .int .i64 0) (by simp only [List.getElem?_toArray, List.getElem?_cons_succ, List.getElem?_cons_zero]; rfl) (by kernel_rfl) (by kernel_rfl) (by kernel_rfl) (by intro _ _ _ h; exact h) (Or.inl ⟨by rfl, fun w hS => by (have y0 := cell_kept hS s0; go_simp)⟩) hH ?_
  simp only [Act.put, List.setIfInBounds_toArray, List.set_cons_zero, List.set_cons_succ]
  refine wpAnyH_take (i := 2) (v := .bool true) (by simp only [List.getElem?_toArray, List.getElem?_cons_succ, List.getElem?_cons_zero]; rfl) (by kernel_rfl) (by kernel_rfl) (by kernel_rfl) (by intro _ _ _ h; exact h) (Or.inl ⟨by rfl, fun w hS => by go_simp⟩) hH ?_
  simp only [Act.put, List.setIfInBounds_toArray, List.set_cons_zero, List.set_cons_succ]
  refine wpAnyH_take (i := 3) (v := .bool true) (by simp only [List.getElem?_toArray, List.getElem?_cons_succ, List.getElem?_cons_zero]; rfl) (by kernel_rfl) (by kernel_rfl) (by kernel_rfl) (by intro _ _ _ h; exact h) (Or.inl ⟨by rfl, fun w hS => by go_simp⟩) hH ?_
  simp only [Act.put, List.setIfInBounds_toArray, List.set_cons_zero, List.set_cons_succ]
  refine wpAnyH_take (i := 4) (v := .pointer (some ⟨gs, 5, none⟩)) (by simp only [List.getElem?_toArray, List.getElem?_cons_succ, List.getElem?_cons_zero]; rfl) (by kernel_rfl) (by kernel_rfl) (by kernel_rfl) (by intro _ _ _ h; exact h) (Or.inl ⟨by rfl, fun w hS => by go_simp⟩) hH ?_
  simp only [Act.put, List.setIfInBounds_toArray, List.set_cons_zero, List.set_cons_succ]
  refine wpAnyH_take (i := 5) (v := .bool true) (by simp only [List.getElem?_toArray, List.getElem?_cons_succ, List.getElem?_cons_zero]; rfl) (by kernel_rfl) (by kernel_rfl) (by kernel_rfl) (by intro _ _ _ h; exact h) (Or.inl ⟨by rfl, fun w hS => by (have y5 := cell_kept hS s5; go_simp)⟩) hH ?_
  simp only [Act.put, List.setIfInBounds_toArray, List.set_cons_zero, List.set_cons_succ]
  refine wpAnyH_take (i := 6) (v := .bool true) (by simp only [List.getElem?_toArray, List.getElem?_cons_succ, List.getElem?_cons_zero]; rfl) (by kernel_rfl) (by kernel_rfl) (by kernel_rfl) (by intro _ _ _ h; exact h) (Or.inl ⟨by rfl, fun w hS => by go_simp⟩) hH ?_
  simp only [Act.put, List.setIfInBounds_toArray, List.set_cons_zero, List.set_cons_succ]
  refine wpAnyH_take (i := 7) (v := .bool true) (by simp only [List.getElem?_toArray, List.getElem?_cons_succ, List.getElem?_cons_zero]; rfl) (by kernel_rfl) (by kernel_rfl) (by kernel_rfl) (by intro _ _ _ h; exact h) (Or.inl ⟨by rfl, fun w hS => by go_simp⟩) hH ?_
  simp only [Act.put, List.setIfInBounds_toArray, List.set_cons_zero, List.set_cons_succ]
  refine wpAnyH_take (i := 8) (v := .pointer (some ⟨gs, 1, none⟩)) (by simp only [List.getElem?_toArray, List.getElem?_cons_succ, List.getElem?_cons_zero]; rfl) (by kernel_rfl) (by kernel_rfl) (by kernel_rfl) (by intro _ _ _ h; exact h) (Or.inl ⟨by rfl, fun w hS => by go_simp⟩) hH ?_
  simp only [Act.put, List.setIfInBounds_toArray, List.set_cons_zero, List.set_cons_succ]
  refine wpAnyH_take (i := 9) (v := .agg #[.int .i64 s.2.1.n, .int .i64 s.2.1.i, .int .i64 s.2.1.s, .int .i64 s.2.1.m]) (by simp only [List.getElem?_toArray, List.getElem?_cons_succ, List.getElem?_cons_zero]; rfl) (by kernel_rfl) (by kernel_rfl) (by kernel_rfl) (by intro _ _ _ h; exact h) (Or.inl ⟨by rfl, fun w hS => by (have y1 := cell_kept hS s1; have y2 := cell_kept hS s2; have y3 := cell_kept hS s3; have y4 := cell_kept hS s4; go_simp)⟩) hH ?_
  simp only [Act.put, List.setIfInBounds_toArray, List.set_cons_zero, List.set_cons_succ]
  refine wpAnyH_take (i := 10) (v := .slice pv cs.length cv) (by simp only [List.getElem?_toArray, List.getElem?_cons_succ, List.getElem?_cons_zero]; rfl) (by kernel_rfl) (by kernel_rfl) (by kernel_rfl) (by intro _ _ _ h; exact h) (Or.inl ⟨by rfl, fun w hS => by go_simp⟩) hH ?_
  simp only [Act.put, List.setIfInBounds_toArray, List.set_cons_zero, List.set_cons_succ]
  refine wpAnyH_take (i := 11) (v := .int .i64 n) (by simp only [List.getElem?_toArray, List.getElem?_cons_succ, List.getElem?_cons_zero]; rfl) (by kernel_rfl) (by kernel_rfl) (by kernel_rfl) (by intro _ _ _ h; exact h) (Or.inl ⟨by rfl, fun w hS => by go_simp⟩) hH ?_
  simp only [Act.put, List.setIfInBounds_toArray, List.set_cons_zero, List.set_cons_succ]
  refine wpAnyH_ready (rs := [12]) (by kernel_rfl) (by simp) ?_
  refine AllReadyH.cons (by simp only [List.getElem?_toArray, List.getElem?_cons_succ, List.getElem?_cons_zero]; rfl) (fun K hK => ?_) AllReadyH.nil
  go_simp
  refine (sfc _ cs n _ (HV.out.below hH)).mono ?_
  rintro e x12 ⟨ua, rfl, hO, hM⟩
  rw [XC.out]
  rw [XL.out] at hO
  obtain ⟨aa, ka, rfl, -, -, hcs⟩ := hO.parts
  obtain ⟨bxa, oxa, rfl, q1⟩ := hcs 0 (by simp)
  obtain ⟨e0, e1, e2, e3⟩ := c_cells q1
  simp only [List.getElem_cons_zero, Nat.zero_mul, Nat.add_zero] at e0 e1 e2 e3
  have I1 := idx_ci bxa oxa 1 ka 0 (by omega)
  simp only [Nat.zero_mul, Nat.add_zero, Int.cast_ofNat_Int] at I1
  clear q1 hcs hO
  refine hK.out _ _ (hH.trans (hM.mono hH.size)) (fun hH => ?_)
  clear hK K hM
  refine wpAnyH_take (i := 13) (v := .slice (some ⟨bxa, oxa, none⟩) 1 ka) (by simp only [List.getElem?_toArray, List.getElem?_cons_succ, List.getElem?_cons_zero]; rfl) (by kernel_rfl) (by kernel_rfl) (by kernel_rfl) (by intro _ _ _ h; exact h) (Or.inl ⟨by rfl, fun w hS => by (have hf := fldV1d 0 (some ⟨bxa, oxa, none⟩) 1 ka; go_simp)⟩) hH ?_
  simp only [Act.put, List.setIfInBounds_toArray, List.set_cons_zero, List.set_cons_succ]
  refine wpAnyH_take (i := 14) (v := .pointer (some ⟨bxa, oxa, none⟩)) (by simp only [List.getElem?_toArray, List.getElem?_cons_succ, List.getElem?_cons_zero]; rfl) (by kernel_rfl) (by kernel_rfl) (by kernel_rfl) (by intro _ _ _ h; exact h) (Or.inl ⟨by rfl, fun w hS => by go_simp⟩) hH ?_
  simp only [Act.put, List.setIfInBounds_toArray, List.set_cons_zero, List.set_cons_succ]
  refine wpAnyH_ready (rs := [15]) (by kernel_rfl) (by simp) ?_
  refine AllReadyH.cons (by simp only [List.getElem?_toArray, List.getElem?_cons_succ, List.getElem?_cons_zero]; rfl) (fun K hK => ?_) AllReadyH.nil
  go_simp
  refine hK.out _ _ hH (fun hH => ?_)
  clear hK K
  try simp only [Act.put, List.setIfInBounds_toArray, List.set_cons_zero, List.set_cons_succ]
  clear e0 e1 e2 e3 I1
  refine wpAnyH_ready (rs := [16]) (by kernel_rfl) (by simp) ?_
  refine AllReadyH.cons (by simp only [List.getElem?_toArray, List.getElem?_cons_succ, List.getElem?_cons_zero]; rfl) (fun K hK => ?_) AllReadyH.nil
  go_simp
  refine (ibt s.2.1 X _).mono ?_
  rintro e x16 ⟨rfl, hM⟩
  rw [XB.out]
  refine hK.out _ _ (hH.trans (hM.mono hH.size)) (fun hH => ?_)
  clear hK K hM
  refine wpAnyH_take (i := 17) (v := .bool false) (by simp only [List.getElem?_toArray, List.getElem?_cons_succ, List.getElem?_cons_zero]; rfl) (by kernel_rfl) (by kernel_rfl) (by kernel_rfl) (by intro _ _ _ h; exact h) (Or.inl ⟨by rfl, fun w hS => by go_simp⟩) hH ?_
  simp only [Act.put, List.setIfInBounds_toArray, List.set_cons_zero, List.set_cons_succ]
  refine wpAnyH_take (i := 18) (v := .bool false) (by simp only [List.getElem?_toArray, List.getElem?_cons_succ, List.getElem?_cons_zero]; rfl) (by kernel_rfl) (by kernel_rfl) (by kernel_rfl) (by intro _ _ _ h; exact h) (Or.inl ⟨by rfl, fun w hS => by go_simp⟩) hH ?_
  simp only [Act.put, List.setIfInBounds_toArray, List.set_cons_zero, List.set_cons_succ]
  refine wpAnyH_take (i := 19) (v := .pointer (some ⟨gs, 1, none⟩)) (by simp only [List.getElem?_toArray, List.getElem?_cons_succ, List.getElem?_cons_zero]; rfl) (by kernel_rfl) (by kernel_rfl) (by kernel_rfl) (by intro _ _ _ h; exact h) (Or.inl ⟨by rfl, fun w hS => by go_simp⟩) hH ?_
  simp only [Act.put, List.setIfInBounds_toArray, List.set_cons_zero, List.set_cons_succ]
  refine wpAnyH_take (i := 20) (v := .pointer (some ⟨gs, 2, none⟩)) (by simp only [List.getElem?_toArray, List.getElem?_cons_succ, List.getElem?_cons_zero]; rfl) (by kernel_rfl) (by kernel_rfl) (by kernel_rfl) (by intro _ _ _ h; exact h) (Or.inl ⟨by rfl, fun w hS => by go_simp⟩) hH ?_
  simp only [Act.put, List.setIfInBounds_toArray, List.set_cons_zero, List.set_cons_succ]
  refine wpAnyH_take (i := 21) (v := .int .i64 s.2.1.i) (by simp only [List.getElem?_toArray, List.getElem?_cons_succ, List.getElem?_cons_zero]; rfl) (by kernel_rfl) (by kernel_rfl) (by kernel_rfl) (by intro _ _ _ h; exact h) (Or.inl ⟨by rfl, fun w hS => by (have y2 := cell_kept hS s2; go_simp)⟩) hH ?_
  simp only [Act.put, List.setIfInBounds_toArray, List.set_cons_zero, List.set_cons_succ]
  refine wpAnyH_take (i := 22) (v := .slice pv cs.length cv) (by simp only [List.getElem?_toArray, List.getElem?_cons_succ, List.getElem?_cons_zero]; rfl) (by kernel_rfl) (by kernel_rfl) (by kernel_rfl) (by intro _ _ _ h; exact h) (Or.inl ⟨by rfl, fun w hS => by go_simp⟩) hH ?_
  simp only [Act.put, List.setIfInBounds_toArray, List.set_cons_zero, List.set_cons_succ]
  refine wpAnyH_take (i := 23) (v := .int .i64 n) (by simp only [List.getElem?_toArray, List.getElem?_cons_succ, List.getElem?_cons_zero]; rfl) (by kernel_rfl) (by kernel_rfl) (by kernel_rfl) (by intro _ _ _ h; exact h) (Or.inl ⟨by rfl, fun w hS => by go_simp⟩) hH ?_
  simp only [Act.put, List.setIfInBounds_toArray, List.set_cons_zero, List.set_cons_succ]
  refine wpAnyH_ready (rs := [24]) (by kernel_rfl) (by simp) ?_
  refine AllReadyH.cons (by simp only [List.getElem?_toArray, List.getElem?_cons_succ, List.getElem?_cons_zero]; rfl) (fun K hK => ?_) AllReadyH.nil
  go_simp
  refine (sfc _ cs n _ (HV.out.below hH)).mono ?_
  rintro e x24 ⟨ub, rfl, hO, hM⟩
  rw [XC.out]
  rw [XL.out] at hO
  obtain ⟨ab, kb, rfl, -, -, hcs⟩ := hO.parts
  obtain ⟨bxb, oxb, rfl, q1⟩ := hcs 0 (by simp)
  obtain ⟨e0, e1, e2, e3⟩ := c_cells q1
  simp only [List.getElem_cons_zero, Nat.zero_mul, Nat.add_zero] at e0 e1 e2 e3
  have I1 := idx_ci bxb oxb 1 kb 0 (by omega)
  simp only [Nat.zero_mul, Nat.add_zero, Int.cast_ofNat_Int] at I1
  clear q1 hcs hO
  refine hK.out _ _ (hH.trans (hM.mono hH.size)) (fun hH => ?_)
  clear hK K hM
  refine wpAnyH_take (i := 25) (v := .slice (some ⟨bxb, oxb, none⟩) 1 kb) (by simp only [List.getElem?_toArray, List.getElem?_cons_succ, List.getElem?_cons_zero]; rfl) (by kernel_rfl) (by kernel_rfl) (by kernel_rfl) (by intro _ _ _ h; exact h) (Or.inl ⟨by rfl, fun w hS => by (have hf := fldV1d 0 (some ⟨bxb, oxb, none⟩) 1 kb; go_simp)⟩) hH ?_
  simp only [Act.put, List.setIfInBounds_toArray, List.set_cons_zero, List.set_cons_succ]
  refine wpAnyH_take (i := 26) (v := .pointer (some ⟨bxb, oxb, none⟩)) (by simp only [List.getElem?_toArray, List.getElem?_cons_succ, List.getElem?_cons_zero]; rfl) (by kernel_rfl) (by kernel_rfl) (by kernel_rfl) (by intro _ _ _ h; exact h) (Or.inl ⟨by rfl, fun w hS => by go_simp⟩) hH ?_
  simp only [Act.put, List.setIfInBounds_toArray, List.set_cons_zero, List.set_cons_succ]
  refine wpAnyH_take (i := 27) (v := .pointer (some ⟨bxb, oxb + 1, none⟩)) (by simp only [List.getElem?_toArray, List.getElem?_cons_succ, List.getElem?_cons_zero]; rfl) (by kernel_rfl) (by kernel_rfl) (by kernel_rfl) (by intro _ _ _ h; exact h) (Or.inl ⟨by rfl, fun w hS => by go_simp⟩) hH ?_
  simp only [Act.put, List.setIfInBounds_toArray, List.set_cons_zero, List.set_cons_succ]
  refine wpAnyH_ready (rs := [28]) (by kernel_rfl) (by simp) ?_
  refine AllReadyH.cons (by simp only [List.getElem?_toArray, List.getElem?_cons_succ, List.getElem?_cons_zero]; rfl) (fun K hK => ?_) AllReadyH.nil
  go_simp
  refine hK.out _ _ hH (fun hH => ?_)
  clear hK K
  try simp only [Act.put, List.setIfInBounds_toArray, List.set_cons_zero, List.set_cons_succ]
  clear e0 e1 e2 e3 I1
  refine wpAnyH_take (i := 29) (v := .bool false) (by simp only [List.getElem?_toArray, List.getElem?_cons_succ, List.getElem?_cons_zero]; rfl) (by kernel_rfl) (by kernel_rfl) (by kernel_rfl) (by intro _ _ _ h; exact h) (Or.inl ⟨by rfl, fun w hS => by (have hi := XI.out; go_simp)⟩) hH ?_
  simp only [Act.put, List.setIfInBounds_toArray, List.set_cons_zero, List.set_cons_succ]
  refine wpAnyH_take (i := 30) (v := .bool false) (by simp only [List.getElem?_toArray, List.getElem?_cons_succ, List.getElem?_cons_zero]; rfl) (by kernel_rfl) (by kernel_rfl) (by kernel_rfl) (by intro _ _ _ h; exact h) (Or.inl ⟨by rfl, fun w hS => by go_simp⟩) hH ?_
  simp only [Act.put, List.setIfInBounds_toArray, List.set_cons_zero, List.set_cons_succ]
  refine wpAnyH_take (i := 31) (v := .bool false) (by simp only [List.getElem?_toArray, List.getElem?_cons_succ, List.getElem?_cons_zero]; rfl) (by kernel_rfl) (by kernel_rfl) (by kernel_rfl) (by intro _ _ _ h; exact h) (Or.inl ⟨by rfl, fun w hS => by go_simp⟩) hH ?_
  simp only [Act.put, List.setIfInBounds_toArray, List.set_cons_zero, List.set_cons_succ]
  refine wpAnyH_done (by kernel_rfl) ?_ _
  have hB := hH
  clear hH s0 s1 s2 s3 s4 s5
  replace HV := hid (HV.out.below hB)
  replace HW := hid (HW.out.below hB)
  replace VA := hid (var_below hB VA.out)
  replace VC := hid (var_below hB VC.out)
  replace VR := hid (var_below hB VR.out)
  replace VS := hid (var_below hB VS.out)
  replace VW := hid (var_below hB VW.out)
  replace VB := hid (var_below hB VB.out)
  replace BB := hid (BB.out.trans (hB.mono BB.out.size))
  clear hB
  generalize x24 = w13 at *
  clear XC XL XB XI
  by_cases h0 : t.1 = 0
  case neg =>
    have nz : (t.1 == 0) = false := by simpa using h0
    go_wp2
    obtain ⟨⟨b0, b1, b2, b3, b4, b5⟩, -⟩ := v6_facts VB.out
    obtain ⟨⟨w_0, w_1, w_2, w_3, w_4, w_5, w_6⟩, -⟩ := v7_facts VW.out
    refine wp_region_held_drew (S := fun w' => Below w13.heap.size w13 w') (by kernel_rfl) (Below.refl _ _).drew (fun hH => ?_)
    generalize w13.drew = y0 at hH ⊢
    refine wpAnyH_take (i := 0) (v := .pointer (some ⟨gt, 0, none⟩)) (by simp only [List.getElem?_toArray, List.getElem?_cons_zero]; rfl) (by kernel_rfl) (by kernel_rfl) (by kernel_rfl) (by intro _ _ _ h; exact h) (Or.inl ⟨by rfl, fun w hS => by go_simp⟩) hH ?_
    simp only [Act.put, List.setIfInBounds_toArray, List.set_cons_zero, List.set_cons_succ]
    refine wpAnyH_take (i := 1) (v := .int .i64 t.1) (by simp only [List.getElem?_toArray, List.getElem?_cons_succ, List.getElem?_cons_zero]; rfl) (by kernel_rfl) (by kernel_rfl) (by kernel_rfl) (by intro _ _ _ h; exact h) (Or.inl ⟨by rfl, fun w hS => by (have y0 := cell_kept hS b0; go_simp)⟩) hH ?_
    simp only [Act.put, List.setIfInBounds_toArray, List.set_cons_zero, List.set_cons_succ]
    refine wpAnyH_take (i := 2) (v := .bool false) (by simp only [List.getElem?_toArray, List.getElem?_cons_succ, List.getElem?_cons_zero]; rfl) (by kernel_rfl) (by kernel_rfl) (by kernel_rfl) (by intro _ _ _ h; exact h) (Or.inl ⟨by rfl, fun w hS => by go_simp⟩) hH ?_
    simp only [Act.put, List.setIfInBounds_toArray, List.set_cons_zero, List.set_cons_succ]
    refine wpAnyH_take (i := 3) (v := .bool false) (by simp only [List.getElem?_toArray, List.getElem?_cons_succ, List.getElem?_cons_zero]; rfl) (by kernel_rfl) (by kernel_rfl) (by kernel_rfl) (by intro _ _ _ h; exact h) (Or.inl ⟨by rfl, fun w hS => by go_simp⟩) hH ?_
    simp only [Act.put, List.setIfInBounds_toArray, List.set_cons_zero, List.set_cons_succ]
    refine wpAnyH_take (i := 4) (v := undef) (by simp only [List.getElem?_toArray, List.getElem?_cons_succ, List.getElem?_cons_zero]; rfl) (by kernel_rfl) (by kernel_rfl) (by kernel_rfl) (by intro _ _ _ h; exact h) (Or.inr ⟨by rfl, rfl⟩) hH ?_
    simp only [Act.put, List.setIfInBounds_toArray, List.set_cons_zero, List.set_cons_succ]
    refine wpAnyH_take (i := 5) (v := undef) (by simp only [List.getElem?_toArray, List.getElem?_cons_succ, List.getElem?_cons_zero]; rfl) (by kernel_rfl) (by kernel_rfl) (by kernel_rfl) (by intro _ _ _ h; exact h) (Or.inr ⟨by rfl, rfl⟩) hH ?_
    simp only [Act.put, List.setIfInBounds_toArray, List.set_cons_zero, List.set_cons_succ]
    refine wpAnyH_take (i := 6) (v := .bool false) (by simp only [List.getElem?_toArray, List.getElem?_cons_succ, List.getElem?_cons_zero]; rfl) (by kernel_rfl) (by kernel_rfl) (by kernel_rfl) (by intro _ _ _ h; exact h) (Or.inl ⟨by rfl, fun w hS => by go_simp⟩) hH ?_
    simp only [Act.put, List.setIfInBounds_toArray, List.set_cons_zero, List.set_cons_succ]
    refine wpAnyH_take (i := 7) (v := .bool false) (by simp only [List.getElem?_toArray, List.getElem?_cons_succ, List.getElem?_cons_zero]; rfl) (by kernel_rfl) (by kernel_rfl) (by kernel_rfl) (by intro _ _ _ h; exact h) (Or.inl ⟨by rfl, fun w hS => by go_simp⟩) hH ?_
    simp only [Act.put, List.setIfInBounds_toArray, List.set_cons_zero, List.set_cons_succ]
    refine wpAnyH_take (i := 8) (v := undef) (by simp only [List.getElem?_toArray, List.getElem?_cons_succ, List.getElem?_cons_zero]; rfl) (by kernel_rfl) (by kernel_rfl) (by kernel_rfl) (by intro _ _ _ h; exact h) (Or.inr ⟨by rfl, rfl⟩) hH ?_
    simp only [Act.put, List.setIfInBounds_toArray, List.set_cons_zero, List.set_cons_succ]
    refine wpAnyH_take (i := 9) (v := undef) (by simp only [List.getElem?_toArray, List.getElem?_cons_succ, List.getElem?_cons_zero]; rfl) (by kernel_rfl) (by kernel_rfl) (by kernel_rfl) (by intro _ _ _ h; exact h) (Or.inr ⟨by rfl, rfl⟩) hH ?_
    simp only [Act.put, List.setIfInBounds_toArray, List.set_cons_zero, List.set_cons_succ]
    refine wpAnyH_take (i := 10) (v := undef) (by simp only [List.getElem?_toArray, List.getElem?_cons_succ, List.getElem?_cons_zero]; rfl) (by kernel_rfl) (by kernel_rfl) (by kernel_rfl) (by intro _ _ _ h; exact h) (Or.inr ⟨by rfl, rfl⟩) hH ?_
    simp only [Act.put, List.setIfInBounds_toArray, List.set_cons_zero, List.set_cons_succ]
    refine wpAnyH_take (i := 11) (v := undef) (by simp only [List.getElem?_toArray, List.getElem?_cons_succ, List.getElem?_cons_zero]; rfl) (by kernel_rfl) (by kernel_rfl) (by kernel_rfl) (by intro _ _ _ h; exact h) (Or.inr ⟨by rfl, rfl⟩) hH ?_
    simp only [Act.put, List.setIfInBounds_toArray, List.set_cons_zero, List.set_cons_succ]
    refine wpAnyH_take (i := 12) (v := undef) (by simp only [List.getElem?_toArray, List.getElem?_cons_succ, List.getElem?_cons_zero]; rfl) (by kernel_rfl) (by kernel_rfl) (by kernel_rfl) (by intro _ _ _ h; exact h) (Or.inr ⟨by rfl, rfl⟩) hH ?_
    simp only [Act.put, List.setIfInBounds_toArray, List.set_cons_zero, List.set_cons_succ]
    refine wpAnyH_take (i := 13) (v := undef) (by simp only [List.getElem?_toArray, List.getElem?_cons_succ, List.getElem?_cons_zero]; rfl) (by kernel_rfl) (by kernel_rfl) (by kernel_rfl) (by intro _ _ _ h; exact h) (Or.inr ⟨by rfl, rfl⟩) hH ?_
    simp only [Act.put, List.setIfInBounds_toArray, List.set_cons_zero, List.set_cons_succ]
    refine wpAnyH_take (i := 14) (v := undef) (by simp only [List.getElem?_toArray, List.getElem?_cons_succ, List.getElem?_cons_zero]; rfl) (by kernel_rfl) (by kernel_rfl) (by kernel_rfl) (by intro _ _ _ h; exact h) (Or.inr ⟨by rfl, rfl⟩) hH ?_
    simp only [Act.put, List.setIfInBounds_toArray, List.set_cons_zero, List.set_cons_succ]
    refine wpAnyH_take (i := 15) (v := undef) (by simp only [List.getElem?_toArray, List.getElem?_cons_succ, List.getElem?_cons_zero]; rfl) (by kernel_rfl) (by kernel_rfl) (by kernel_rfl) (by intro _ _ _ h; exact h) (Or.inr ⟨by rfl, rfl⟩) hH ?_
    simp only [Act.put, List.setIfInBounds_toArray, List.set_cons_zero, List.set_cons_succ]
    refine wpAnyH_take (i := 16) (v := undef) (by simp only [List.getElem?_toArray, List.getElem?_cons_succ, List.getElem?_cons_zero]; rfl) (by kernel_rfl) (by kernel_rfl) (by kernel_rfl) (by intro _ _ _ h; exact h) (Or.inr ⟨by rfl, rfl⟩) hH ?_
    simp only [Act.put, List.setIfInBounds_toArray, List.set_cons_zero, List.set_cons_succ]
    refine wpAnyH_take (i := 17) (v := undef) (by simp only [List.getElem?_toArray, List.getElem?_cons_succ, List.getElem?_cons_zero]; rfl) (by kernel_rfl) (by kernel_rfl) (by kernel_rfl) (by intro _ _ _ h; exact h) (Or.inr ⟨by rfl, rfl⟩) hH ?_
    simp only [Act.put, List.setIfInBounds_toArray, List.set_cons_zero, List.set_cons_succ]
    refine wpAnyH_take (i := 18) (v := undef) (by simp only [List.getElem?_toArray, List.getElem?_cons_succ, List.getElem?_cons_zero]; rfl) (by kernel_rfl) (by kernel_rfl) (by kernel_rfl) (by intro _ _ _ h; exact h) (Or.inr ⟨by rfl, rfl⟩) hH ?_
    simp only [Act.put, List.setIfInBounds_toArray, List.set_cons_zero, List.set_cons_succ]
    refine wpAnyH_take (i := 19) (v := undef) (by simp only [List.getElem?_toArray, List.getElem?_cons_succ, List.getElem?_cons_zero]; rfl) (by kernel_rfl) (by kernel_rfl) (by kernel_rfl) (by intro _ _ _ h; exact h) (Or.inr ⟨by rfl, rfl⟩) hH ?_
    simp only [Act.put, List.setIfInBounds_toArray, List.set_cons_zero, List.set_cons_succ]
    refine wpAnyH_take (i := 20) (v := undef) (by simp only [List.getElem?_toArray, List.getElem?_cons_succ, List.getElem?_cons_zero]; rfl) (by kernel_rfl) (by kernel_rfl) (by kernel_rfl) (by intro _ _ _ h; exact h) (Or.inr ⟨by rfl, rfl⟩) hH ?_
    simp only [Act.put, List.setIfInBounds_toArray, List.set_cons_zero, List.set_cons_succ]
    refine wpAnyH_take (i := 21) (v := undef) (by simp only [List.getElem?_toArray, List.getElem?_cons_succ, List.getElem?_cons_zero]; rfl) (by kernel_rfl) (by kernel_rfl) (by kernel_rfl) (by intro _ _ _ h; exact h) (Or.inr ⟨by rfl, rfl⟩) hH ?_
    simp only [Act.put, List.setIfInBounds_toArray, List.set_cons_zero, List.set_cons_succ]
    refine wpAnyH_take (i := 22) (v := undef) (by simp only [List.getElem?_toArray, List.getElem?_cons_succ, List.getElem?_cons_zero]; rfl) (by kernel_rfl) (by kernel_rfl) (by kernel_rfl) (by intro _ _ _ h; exact h) (Or.inr ⟨by rfl, rfl⟩) hH ?_
    simp only [Act.put, List.setIfInBounds_toArray, List.set_cons_zero, List.set_cons_succ]
    refine wpAnyH_take (i := 23) (v := undef) (by simp only [List.getElem?_toArray, List.getElem?_cons_succ, List.getElem?_cons_zero]; rfl) (by kernel_rfl) (by kernel_rfl) (by kernel_rfl) (by intro _ _ _ h; exact h) (Or.inr ⟨by rfl, rfl⟩) hH ?_
    simp only [Act.put, List.setIfInBounds_toArray, List.set_cons_zero, List.set_cons_succ]
    refine wpAnyH_take (i := 24) (v := undef) (by simp only [List.getElem?_toArray, List.getElem?_cons_succ, List.getElem?_cons_zero]; rfl) (by kernel_rfl) (by kernel_rfl) (by kernel_rfl) (by intro _ _ _ h; exact h) (Or.inr ⟨by rfl, rfl⟩) hH ?_
    simp only [Act.put, List.setIfInBounds_toArray, List.set_cons_zero, List.set_cons_succ]
    refine wpAnyH_take (i := 25) (v := undef) (by simp only [List.getElem?_toArray, List.getElem?_cons_succ, List.getElem?_cons_zero]; rfl) (by kernel_rfl) (by kernel_rfl) (by kernel_rfl) (by intro _ _ _ h; exact h) (Or.inr ⟨by rfl, rfl⟩) hH ?_
    simp only [Act.put, List.setIfInBounds_toArray, List.set_cons_zero, List.set_cons_succ]
    refine wpAnyH_take (i := 26) (v := undef) (by simp only [List.getElem?_toArray, List.getElem?_cons_succ, List.getElem?_cons_zero]; rfl) (by kernel_rfl) (by kernel_rfl) (by kernel_rfl) (by intro _ _ _ h; exact h) (Or.inr ⟨by rfl, rfl⟩) hH ?_
    simp only [Act.put, List.setIfInBounds_toArray, List.set_cons_zero, List.set_cons_succ]
    refine wpAnyH_take (i := 27) (v := undef) (by simp only [List.getElem?_toArray, List.getElem?_cons_succ, List.getElem?_cons_zero]; rfl) (by kernel_rfl) (by kernel_rfl) (by kernel_rfl) (by intro _ _ _ h; exact h) (Or.inr ⟨by rfl, rfl⟩) hH ?_
    simp only [Act.put, List.setIfInBounds_toArray, List.set_cons_zero, List.set_cons_succ]
    refine wpAnyH_take (i := 28) (v := undef) (by simp only [List.getElem?_toArray, List.getElem?_cons_succ, List.getElem?_cons_zero]; rfl) (by kernel_rfl) (by kernel_rfl) (by kernel_rfl) (by intro _ _ _ h; exact h) (Or.inr ⟨by rfl, rfl⟩) hH ?_
    simp only [Act.put, List.setIfInBounds_toArray, List.set_cons_zero, List.set_cons_succ]
    refine wpAnyH_take (i := 29) (v := undef) (by simp only [List.getElem?_toArray, List.getElem?_cons_succ, List.getElem?_cons_zero]; rfl) (by kernel_rfl) (by kernel_rfl) (by kernel_rfl) (by intro _ _ _ h; exact h) (Or.inr ⟨by rfl, rfl⟩) hH ?_
    simp only [Act.put, List.setIfInBounds_toArray, List.set_cons_zero, List.set_cons_succ]
    refine wpAnyH_take (i := 30) (v := undef) (by simp only [List.getElem?_toArray, List.getElem?_cons_succ, List.getElem?_cons_zero]; rfl) (by kernel_rfl) (by kernel_rfl) (by kernel_rfl) (by intro _ _ _ h; exact h) (Or.inr ⟨by rfl, rfl⟩) hH ?_
    simp only [Act.put, List.setIfInBounds_toArray, List.set_cons_zero, List.set_cons_succ]
    refine wpAnyH_take (i := 31) (v := undef) (by simp only [List.getElem?_toArray, List.getElem?_cons_succ, List.getElem?_cons_zero]; rfl) (by kernel_rfl) (by kernel_rfl) (by kernel_rfl) (by intro _ _ _ h; exact h) (Or.inr ⟨by rfl, rfl⟩) hH ?_
    simp only [Act.put, List.setIfInBounds_toArray, List.set_cons_zero, List.set_cons_succ]
    refine wpAnyH_take (i := 32) (v := undef) (by simp only [List.getElem?_toArray, List.getElem?_cons_succ, List.getElem?_cons_zero]; rfl) (by kernel_rfl) (by kernel_rfl) (by kernel_rfl) (by intro _ _ _ h; exact h) (Or.inr ⟨by rfl, rfl⟩) hH ?_
    simp only [Act.put, List.setIfInBounds_toArray, List.set_cons_zero, List.set_cons_succ]
    refine wpAnyH_take (i := 33) (v := .bool false) (by simp only [List.getElem?_toArray, List.getElem?_cons_succ, List.getElem?_cons_zero]; rfl) (by kernel_rfl) (by kernel_rfl) (by kernel_rfl) (by intro _ _ _ h; exact h) (Or.inl ⟨by rfl, fun w hS => by go_simp⟩) hH ?_
    simp only [Act.put, List.setIfInBounds_toArray, List.set_cons_zero, List.set_cons_succ]
    refine wpAnyH_done (by kernel_rfl) ?_ _
    have hB := hH
    clear hH b0 b1 b2 b3 b4 b5 w_0 w_1 w_2 w_3 w_4 w_5 w_6
    replace HV := hid (HV.out.below hB)
    replace HW := hid (HW.out.below hB)
    replace VA := hid (var_below hB VA.out)
    replace VC := hid (var_below hB VC.out)
    replace VR := hid (var_below hB VR.out)
    replace VS := hid (var_below hB VS.out)
    replace VW := hid (var_below hB VW.out)
    replace VB := hid (var_below hB VB.out)
    replace BB := hid (BB.out.trans (hB.mono BB.out.size))
    clear hB
    generalize y0 = w14 at *
    clear nz h0
    clear HV HW VS VW VB
    by_cases h0 : r.1 = 0
    case neg =>
      have nz : (r.1 != 0) = true := by rw [bne_iff_ne]; exact h0
      obtain ⟨⟨a0, a1, a2, a3⟩, -⟩ := var4_facts VA.out
      obtain ⟨⟨c0, c1, c2, c3⟩, -⟩ := var4_facts VC.out
      obtain ⟨⟨r0, r1, r2, r3, r4, r5⟩, -⟩ := v6_facts VR.out
      go_wp2
      go_ret
      exact ⟨rfl, BB.out⟩
    obtain ⟨f1, f2, f3, f4⟩ := FR.out h0
    replace f1 := hid f1
    rcases f4 with ⟨m, e⟩ | ⟨m, g1, g2, g3⟩
    · have Z := VR.out
      rw [h0, e, m] at Z
      rw [e] at f1
      replace VR := hid Z
      have hq := eql_clm a
      clear Z h0 f2 f3 e m
      obtain ⟨⟨a0, a1, a2, a3⟩, -⟩ := var4_facts VA.out
      obtain ⟨⟨c0, c1, c2, c3⟩, -⟩ := var4_facts VC.out
      obtain ⟨⟨r0, r1, r2, r3, r4, r5⟩, -⟩ := v6_facts VR.out
      go_wp2_with fail
      refine (ibt b a _).mono ?_
      rintro e z1 ⟨rfl, hB⟩
      rw [f1.out]
      clear a0 a1 a2 a3 c0 c1 c2 c3 r0 r1 r2 r3 r4 r5
      replace VA := hid (var_below hB VA.out)
      replace VC := hid (var_below hB VC.out)
      replace VR := hid (var_below hB VR.out)
      replace BB := hid (BB.out.trans (hB.mono BB.out.size))
      clear hB
      obtain ⟨⟨a0, a1, a2, a3⟩, -⟩ := var4_facts VA.out
      obtain ⟨⟨c0, c1, c2, c3⟩, -⟩ := var4_facts VC.out
      obtain ⟨⟨r0, r1, r2, r3, r4, r5⟩, -⟩ := v6_facts VR.out
      go_wp2
      go_ret
      exact ⟨rfl, BB.out⟩
    · have Z := VR.out
      rw [h0, m] at Z
      replace VR := hid Z
      have q1 : (r.2.1.n == a.n) = true := by simp [f2]
      have q2 : (r.2.1.m == a.m) = true := by simp [f3]
      have q3 : (r.2.1.s == 0) = true := by simp [g3]
      replace g1 := hid g1
      replace g2 := hid g2
      clear Z h0 f2 f3 m g3
      obtain ⟨⟨a0, a1, a2, a3⟩, -⟩ := var4_facts VA.out
      obtain ⟨⟨c0, c1, c2, c3⟩, -⟩ := var4_facts VC.out
      obtain ⟨⟨r0, r1, r2, r3, r4, r5⟩, -⟩ := v6_facts VR.out
      go_wp2_with fail
      refine (ibt b r.2.1 _).mono ?_
      rintro e z1 ⟨rfl, hB⟩
      rw [f1.out]
      clear a0 a1 a2 a3 c0 c1 c2 c3 r0 r1 r2 r3 r4 r5
      replace VA := hid (var_below hB VA.out)
      replace VC := hid (var_below hB VC.out)
      replace VR := hid (var_below hB VR.out)
      replace BB := hid (BB.out.trans (hB.mono BB.out.size))
      clear hB
      obtain ⟨⟨a0, a1, a2, a3⟩, -⟩ := var4_facts VA.out
      obtain ⟨⟨c0, c1, c2, c3⟩, -⟩ := var4_facts VC.out
      obtain ⟨⟨r0, r1, r2, r3, r4, r5⟩, -⟩ := v6_facts VR.out
      go_wp2_with fail
      refine (ibt r.2.1 a _).mono ?_
      rintro e z2 ⟨rfl, hB⟩
      rw [g1.out]
      clear a0 a1 a2 a3 c0 c1 c2 c3 r0 r1 r2 r3 r4 r5
      replace VA := hid (var_below hB VA.out)
      replace VC := hid (var_below hB VC.out)
      replace VR := hid (var_below hB VR.out)
      replace BB := hid (BB.out.trans (hB.mono BB.out.size))
      clear hB
      obtain ⟨⟨a0, a1, a2, a3⟩, -⟩ := var4_facts VA.out
      obtain ⟨⟨c0, c1, c2, c3⟩, -⟩ := var4_facts VC.out
      obtain ⟨⟨r0, r1, r2, r3, r4, r5⟩, -⟩ := v6_facts VR.out
      go_wp2_with fail
      refine (ibt r.2.1 b _).mono ?_
      rintro e z3 ⟨rfl, hB⟩
      rw [g2.out]
      clear a0 a1 a2 a3 c0 c1 c2 c3 r0 r1 r2 r3 r4 r5
      replace VA := hid (var_below hB VA.out)
      replace VC := hid (var_below hB VC.out)
      replace VR := hid (var_below hB VR.out)
      replace BB := hid (BB.out.trans (hB.mono BB.out.size))
      clear hB
      obtain ⟨⟨a0, a1, a2, a3⟩, -⟩ := var4_facts VA.out
      obtain ⟨⟨c0, c1, c2, c3⟩, -⟩ := var4_facts VC.out
      obtain ⟨⟨r0, r1, r2, r3, r4, r5⟩, -⟩ := v6_facts VR.out
      go_wp2
      go_ret
      exact ⟨rfl, BB.out⟩
  cases h2 : t.2.2
  case false =>
    have Z := VB.out
    rw [h0, h2] at Z
    replace VB := hid Z
    clear Z
    go_wp2
    obtain ⟨⟨b0, b1, b2, b3, b4, b5⟩, -⟩ := v6_facts VB.out
    obtain ⟨⟨w_0, w_1, w_2, w_3, w_4, w_5, w_6⟩, -⟩ := v7_facts VW.out
    refine wp_region_held_drew (S := fun w' => Below w13.heap.size w13 w') (by kernel_rfl) (Below.refl _ _).drew (fun hH => ?_)
    generalize w13.drew = y0 at hH ⊢
    refine wpAnyH_take (i := 0) (v := .pointer (some ⟨gt, 0, none⟩)) (by simp only [List.getElem?_toArray, List.getElem?_cons_zero]; rfl) (by kernel_rfl) (by kernel_rfl) (by kernel_rfl) (by intro _ _ _ h; exact h) (Or.inl ⟨by rfl, fun w hS => by go_simp⟩) hH ?_
    simp only [Act.put, List.setIfInBounds_toArray, List.set_cons_zero, List.set_cons_succ]
    refine wpAnyH_take (i := 1) (v := .int .i64 0) (by simp only [List.getElem?_toArray, List.getElem?_cons_succ, List.getElem?_cons_zero]; rfl) (by kernel_rfl) (by kernel_rfl) (by kernel_rfl) (by intro _ _ _ h; exact h) (Or.inl ⟨by rfl, fun w hS => by (have y0 := cell_kept hS b0; go_simp)⟩) hH ?_
    simp only [Act.put, List.setIfInBounds_toArray, List.set_cons_zero, List.set_cons_succ]
    refine wpAnyH_take (i := 2) (v := .bool true) (by simp only [List.getElem?_toArray, List.getElem?_cons_succ, List.getElem?_cons_zero]; rfl) (by kernel_rfl) (by kernel_rfl) (by kernel_rfl) (by intro _ _ _ h; exact h) (Or.inl ⟨by rfl, fun w hS => by go_simp⟩) hH ?_
    simp only [Act.put, List.setIfInBounds_toArray, List.set_cons_zero, List.set_cons_succ]
    refine wpAnyH_take (i := 3) (v := .bool true) (by simp only [List.getElem?_toArray, List.getElem?_cons_succ, List.getElem?_cons_zero]; rfl) (by kernel_rfl) (by kernel_rfl) (by kernel_rfl) (by intro _ _ _ h; exact h) (Or.inl ⟨by rfl, fun w hS => by go_simp⟩) hH ?_
    simp only [Act.put, List.setIfInBounds_toArray, List.set_cons_zero, List.set_cons_succ]
    refine wpAnyH_take (i := 4) (v := .pointer (some ⟨gt, 5, none⟩)) (by simp only [List.getElem?_toArray, List.getElem?_cons_succ, List.getElem?_cons_zero]; rfl) (by kernel_rfl) (by kernel_rfl) (by kernel_rfl) (by intro _ _ _ h; exact h) (Or.inl ⟨by rfl, fun w hS => by go_simp⟩) hH ?_
    simp only [Act.put, List.setIfInBounds_toArray, List.set_cons_zero, List.set_cons_succ]
    refine wpAnyH_take (i := 5) (v := .bool false) (by simp only [List.getElem?_toArray, List.getElem?_cons_succ, List.getElem?_cons_zero]; rfl) (by kernel_rfl) (by kernel_rfl) (by kernel_rfl) (by intro _ _ _ h; exact h) (Or.inl ⟨by rfl, fun w hS => by (have y5 := cell_kept hS b5; go_simp)⟩) hH ?_
    simp only [Act.put, List.setIfInBounds_toArray, List.set_cons_zero, List.set_cons_succ]
    refine wpAnyH_take (i := 6) (v := .bool false) (by simp only [List.getElem?_toArray, List.getElem?_cons_succ, List.getElem?_cons_zero]; rfl) (by kernel_rfl) (by kernel_rfl) (by kernel_rfl) (by intro _ _ _ h; exact h) (Or.inl ⟨by rfl, fun w hS => by go_simp⟩) hH ?_
    simp only [Act.put, List.setIfInBounds_toArray, List.set_cons_zero, List.set_cons_succ]
    refine wpAnyH_take (i := 7) (v := .bool false) (by simp only [List.getElem?_toArray, List.getElem?_cons_succ, List.getElem?_cons_zero]; rfl) (by kernel_rfl) (by kernel_rfl) (by kernel_rfl) (by intro _ _ _ h; exact h) (Or.inl ⟨by rfl, fun w hS => by go_simp⟩) hH ?_
    simp only [Act.put, List.setIfInBounds_toArray, List.set_cons_zero, List.set_cons_succ]
    refine wpAnyH_take (i := 8) (v := undef) (by simp only [List.getElem?_toArray, List.getElem?_cons_succ, List.getElem?_cons_zero]; rfl) (by kernel_rfl) (by kernel_rfl) (by kernel_rfl) (by intro _ _ _ h; exact h) (Or.inr ⟨by rfl, rfl⟩) hH ?_
    simp only [Act.put, List.setIfInBounds_toArray, List.set_cons_zero, List.set_cons_succ]
    refine wpAnyH_take (i := 9) (v := undef) (by simp only [List.getElem?_toArray, List.getElem?_cons_succ, List.getElem?_cons_zero]; rfl) (by kernel_rfl) (by kernel_rfl) (by kernel_rfl) (by intro _ _ _ h; exact h) (Or.inr ⟨by rfl, rfl⟩) hH ?_
    simp only [Act.put, List.setIfInBounds_toArray, List.set_cons_zero, List.set_cons_succ]
    refine wpAnyH_take (i := 10) (v := undef) (by simp only [List.getElem?_toArray, List.getElem?_cons_succ, List.getElem?_cons_zero]; rfl) (by kernel_rfl) (by kernel_rfl) (by kernel_rfl) (by intro _ _ _ h; exact h) (Or.inr ⟨by rfl, rfl⟩) hH ?_
    simp only [Act.put, List.setIfInBounds_toArray, List.set_cons_zero, List.set_cons_succ]
    refine wpAnyH_take (i := 11) (v := undef) (by simp only [List.getElem?_toArray, List.getElem?_cons_succ, List.getElem?_cons_zero]; rfl) (by kernel_rfl) (by kernel_rfl) (by kernel_rfl) (by intro _ _ _ h; exact h) (Or.inr ⟨by rfl, rfl⟩) hH ?_
    simp only [Act.put, List.setIfInBounds_toArray, List.set_cons_zero, List.set_cons_succ]
    refine wpAnyH_take (i := 12) (v := undef) (by simp only [List.getElem?_toArray, List.getElem?_cons_succ, List.getElem?_cons_zero]; rfl) (by kernel_rfl) (by kernel_rfl) (by kernel_rfl) (by intro _ _ _ h; exact h) (Or.inr ⟨by rfl, rfl⟩) hH ?_
    simp only [Act.put, List.setIfInBounds_toArray, List.set_cons_zero, List.set_cons_succ]
    refine wpAnyH_take (i := 13) (v := undef) (by simp only [List.getElem?_toArray, List.getElem?_cons_succ, List.getElem?_cons_zero]; rfl) (by kernel_rfl) (by kernel_rfl) (by kernel_rfl) (by intro _ _ _ h; exact h) (Or.inr ⟨by rfl, rfl⟩) hH ?_
    simp only [Act.put, List.setIfInBounds_toArray, List.set_cons_zero, List.set_cons_succ]
    refine wpAnyH_take (i := 14) (v := undef) (by simp only [List.getElem?_toArray, List.getElem?_cons_succ, List.getElem?_cons_zero]; rfl) (by kernel_rfl) (by kernel_rfl) (by kernel_rfl) (by intro _ _ _ h; exact h) (Or.inr ⟨by rfl, rfl⟩) hH ?_
    simp only [Act.put, List.setIfInBounds_toArray, List.set_cons_zero, List.set_cons_succ]
    refine wpAnyH_take (i := 15) (v := undef) (by simp only [List.getElem?_toArray, List.getElem?_cons_succ, List.getElem?_cons_zero]; rfl) (by kernel_rfl) (by kernel_rfl) (by kernel_rfl) (by intro _ _ _ h; exact h) (Or.inr ⟨by rfl, rfl⟩) hH ?_
    simp only [Act.put, List.setIfInBounds_toArray, List.set_cons_zero, List.set_cons_succ]
    refine wpAnyH_take (i := 16) (v := undef) (by simp only [List.getElem?_toArray, List.getElem?_cons_succ, List.getElem?_cons_zero]; rfl) (by kernel_rfl) (by kernel_rfl) (by kernel_rfl) (by intro _ _ _ h; exact h) (Or.inr ⟨by rfl, rfl⟩) hH ?_
    simp only [Act.put, List.setIfInBounds_toArray, List.set_cons_zero, List.set_cons_succ]
    refine wpAnyH_take (i := 17) (v := undef) (by simp only [List.getElem?_toArray, List.getElem?_cons_succ, List.getElem?_cons_zero]; rfl) (by kernel_rfl) (by kernel_rfl) (by kernel_rfl) (by intro _ _ _ h; exact h) (Or.inr ⟨by rfl, rfl⟩) hH ?_
    simp only [Act.put, List.setIfInBounds_toArray, List.set_cons_zero, List.set_cons_succ]
    refine wpAnyH_take (i := 18) (v := undef) (by simp only [List.getElem?_toArray, List.getElem?_cons_succ, List.getElem?_cons_zero]; rfl) (by kernel_rfl) (by kernel_rfl) (by kernel_rfl) (by intro _ _ _ h; exact h) (Or.inr ⟨by rfl, rfl⟩) hH ?_
    simp only [Act.put, List.setIfInBounds_toArray, List.set_cons_zero, List.set_cons_succ]
    refine wpAnyH_take (i := 19) (v := undef) (by simp only [List.getElem?_toArray, List.getElem?_cons_succ, List.getElem?_cons_zero]; rfl) (by kernel_rfl) (by kernel_rfl) (by kernel_rfl) (by intro _ _ _ h; exact h) (Or.inr ⟨by rfl, rfl⟩) hH ?_
    simp only [Act.put, List.setIfInBounds_toArray, List.set_cons_zero, List.set_cons_succ]
    refine wpAnyH_take (i := 20) (v := undef) (by simp only [List.getElem?_toArray, List.getElem?_cons_succ, List.getElem?_cons_zero]; rfl) (by kernel_rfl) (by kernel_rfl) (by kernel_rfl) (by intro _ _ _ h; exact h) (Or.inr ⟨by rfl, rfl⟩) hH ?_
    simp only [Act.put, List.setIfInBounds_toArray, List.set_cons_zero, List.set_cons_succ]
    refine wpAnyH_take (i := 21) (v := undef) (by simp only [List.getElem?_toArray, List.getElem?_cons_succ, List.getElem?_cons_zero]; rfl) (by kernel_rfl) (by kernel_rfl) (by kernel_rfl) (by intro _ _ _ h; exact h) (Or.inr ⟨by rfl, rfl⟩) hH ?_
    simp only [Act.put, List.setIfInBounds_toArray, List.set_cons_zero, List.set_cons_succ]
    refine wpAnyH_take (i := 22) (v := undef) (by simp only [List.getElem?_toArray, List.getElem?_cons_succ, List.getElem?_cons_zero]; rfl) (by kernel_rfl) (by kernel_rfl) (by kernel_rfl) (by intro _ _ _ h; exact h) (Or.inr ⟨by rfl, rfl⟩) hH ?_
    simp only [Act.put, List.setIfInBounds_toArray, List.set_cons_zero, List.set_cons_succ]
    refine wpAnyH_take (i := 23) (v := undef) (by simp only [List.getElem?_toArray, List.getElem?_cons_succ, List.getElem?_cons_zero]; rfl) (by kernel_rfl) (by kernel_rfl) (by kernel_rfl) (by intro _ _ _ h; exact h) (Or.inr ⟨by rfl, rfl⟩) hH ?_
    simp only [Act.put, List.setIfInBounds_toArray, List.set_cons_zero, List.set_cons_succ]
    refine wpAnyH_take (i := 24) (v := undef) (by simp only [List.getElem?_toArray, List.getElem?_cons_succ, List.getElem?_cons_zero]; rfl) (by kernel_rfl) (by kernel_rfl) (by kernel_rfl) (by intro _ _ _ h; exact h) (Or.inr ⟨by rfl, rfl⟩) hH ?_
    simp only [Act.put, List.setIfInBounds_toArray, List.set_cons_zero, List.set_cons_succ]
    refine wpAnyH_take (i := 25) (v := undef) (by simp only [List.getElem?_toArray, List.getElem?_cons_succ, List.getElem?_cons_zero]; rfl) (by kernel_rfl) (by kernel_rfl) (by kernel_rfl) (by intro _ _ _ h; exact h) (Or.inr ⟨by rfl, rfl⟩) hH ?_
    simp only [Act.put, List.setIfInBounds_toArray, List.set_cons_zero, List.set_cons_succ]
    refine wpAnyH_take (i := 26) (v := undef) (by simp only [List.getElem?_toArray, List.getElem?_cons_succ, List.getElem?_cons_zero]; rfl) (by kernel_rfl) (by kernel_rfl) (by kernel_rfl) (by intro _ _ _ h; exact h) (Or.inr ⟨by rfl, rfl⟩) hH ?_
    simp only [Act.put, List.setIfInBounds_toArray, List.set_cons_zero, List.set_cons_succ]
    refine wpAnyH_take (i := 27) (v := undef) (by simp only [List.getElem?_toArray, List.getElem?_cons_succ, List.getElem?_cons_zero]; rfl) (by kernel_rfl) (by kernel_rfl) (by kernel_rfl) (by intro _ _ _ h; exact h) (Or.inr ⟨by rfl, rfl⟩) hH ?_
    simp only [Act.put, List.setIfInBounds_toArray, List.set_cons_zero, List.set_cons_succ]
    refine wpAnyH_take (i := 28) (v := undef) (by simp only [List.getElem?_toArray, List.getElem?_cons_succ, List.getElem?_cons_zero]; rfl) (by kernel_rfl) (by kernel_rfl) (by kernel_rfl) (by intro _ _ _ h; exact h) (Or.inr ⟨by rfl, rfl⟩) hH ?_
    simp only [Act.put, List.setIfInBounds_toArray, List.set_cons_zero, List.set_cons_succ]
    refine wpAnyH_take (i := 29) (v := undef) (by simp only [List.getElem?_toArray, List.getElem?_cons_succ, List.getElem?_cons_zero]; rfl) (by kernel_rfl) (by kernel_rfl) (by kernel_rfl) (by intro _ _ _ h; exact h) (Or.inr ⟨by rfl, rfl⟩) hH ?_
    simp only [Act.put, List.setIfInBounds_toArray, List.set_cons_zero, List.set_cons_succ]
    refine wpAnyH_take (i := 30) (v := undef) (by simp only [List.getElem?_toArray, List.getElem?_cons_succ, List.getElem?_cons_zero]; rfl) (by kernel_rfl) (by kernel_rfl) (by kernel_rfl) (by intro _ _ _ h; exact h) (Or.inr ⟨by rfl, rfl⟩) hH ?_
    simp only [Act.put, List.setIfInBounds_toArray, List.set_cons_zero, List.set_cons_succ]
    refine wpAnyH_take (i := 31) (v := undef) (by simp only [List.getElem?_toArray, List.getElem?_cons_succ, List.getElem?_cons_zero]; rfl) (by kernel_rfl) (by kernel_rfl) (by kernel_rfl) (by intro _ _ _ h; exact h) (Or.inr ⟨by rfl, rfl⟩) hH ?_
    simp only [Act.put, List.setIfInBounds_toArray, List.set_cons_zero, List.set_cons_succ]
    refine wpAnyH_take (i := 32) (v := undef) (by simp only [List.getElem?_toArray, List.getElem?_cons_succ, List.getElem?_cons_zero]; rfl) (by kernel_rfl) (by kernel_rfl) (by kernel_rfl) (by intro _ _ _ h; exact h) (Or.inr ⟨by rfl, rfl⟩) hH ?_
    simp only [Act.put, List.setIfInBounds_toArray, List.set_cons_zero, List.set_cons_succ]
    refine wpAnyH_take (i := 33) (v := .bool false) (by simp only [List.getElem?_toArray, List.getElem?_cons_succ, List.getElem?_cons_zero]; rfl) (by kernel_rfl) (by kernel_rfl) (by kernel_rfl) (by intro _ _ _ h; exact h) (Or.inl ⟨by rfl, fun w hS => by go_simp⟩) hH ?_
    simp only [Act.put, List.setIfInBounds_toArray, List.set_cons_zero, List.set_cons_succ]
    refine wpAnyH_done (by kernel_rfl) ?_ _
    have hB := hH
    clear hH b0 b1 b2 b3 b4 b5 w_0 w_1 w_2 w_3 w_4 w_5 w_6
    replace HV := hid (HV.out.below hB)
    replace HW := hid (HW.out.below hB)
    replace VA := hid (var_below hB VA.out)
    replace VC := hid (var_below hB VC.out)
    replace VR := hid (var_below hB VR.out)
    replace VS := hid (var_below hB VS.out)
    replace VW := hid (var_below hB VW.out)
    replace VB := hid (var_below hB VB.out)
    replace BB := hid (BB.out.trans (hB.mono BB.out.size))
    clear hB
    generalize y0 = w14 at *
    clear h0 h2
    clear HV HW VS VW VB
    by_cases h0 : r.1 = 0
    case neg =>
      have nz : (r.1 != 0) = true := by rw [bne_iff_ne]; exact h0
      obtain ⟨⟨a0, a1, a2, a3⟩, -⟩ := var4_facts VA.out
      obtain ⟨⟨c0, c1, c2, c3⟩, -⟩ := var4_facts VC.out
      obtain ⟨⟨r0, r1, r2, r3, r4, r5⟩, -⟩ := v6_facts VR.out
      go_wp2
      go_ret
      exact ⟨rfl, BB.out⟩
    obtain ⟨f1, f2, f3, f4⟩ := FR.out h0
    replace f1 := hid f1
    rcases f4 with ⟨m, e⟩ | ⟨m, g1, g2, g3⟩
    · have Z := VR.out
      rw [h0, e, m] at Z
      rw [e] at f1
      replace VR := hid Z
      have hq := eql_clm a
      clear Z h0 f2 f3 e m
      obtain ⟨⟨a0, a1, a2, a3⟩, -⟩ := var4_facts VA.out
      obtain ⟨⟨c0, c1, c2, c3⟩, -⟩ := var4_facts VC.out
      obtain ⟨⟨r0, r1, r2, r3, r4, r5⟩, -⟩ := v6_facts VR.out
      go_wp2_with fail
      refine (ibt b a _).mono ?_
      rintro e z1 ⟨rfl, hB⟩
      rw [f1.out]
      clear a0 a1 a2 a3 c0 c1 c2 c3 r0 r1 r2 r3 r4 r5
      replace VA := hid (var_below hB VA.out)
      replace VC := hid (var_below hB VC.out)
      replace VR := hid (var_below hB VR.out)
      replace BB := hid (BB.out.trans (hB.mono BB.out.size))
      clear hB
      obtain ⟨⟨a0, a1, a2, a3⟩, -⟩ := var4_facts VA.out
      obtain ⟨⟨c0, c1, c2, c3⟩, -⟩ := var4_facts VC.out
      obtain ⟨⟨r0, r1, r2, r3, r4, r5⟩, -⟩ := v6_facts VR.out
      go_wp2
      go_ret
      exact ⟨rfl, BB.out⟩
    · have Z := VR.out
      rw [h0, m] at Z
      replace VR := hid Z
      have q1 : (r.2.1.n == a.n) = true := by simp [f2]
      have q2 : (r.2.1.m == a.m) = true := by simp [f3]
      have q3 : (r.2.1.s == 0) = true := by simp [g3]
      replace g1 := hid g1
      replace g2 := hid g2
      clear Z h0 f2 f3 m g3
      obtain ⟨⟨a0, a1, a2, a3⟩, -⟩ := var4_facts VA.out
      obtain ⟨⟨c0, c1, c2, c3⟩, -⟩ := var4_facts VC.out
      obtain ⟨⟨r0, r1, r2, r3, r4, r5⟩, -⟩ := v6_facts VR.out
      go_wp2_with fail
      refine (ibt b r.2.1 _).mono ?_
      rintro e z1 ⟨rfl, hB⟩
      rw [f1.out]
      clear a0 a1 a2 a3 c0 c1 c2 c3 r0 r1 r2 r3 r4 r5
      replace VA := hid (var_below hB VA.out)
      replace VC := hid (var_below hB VC.out)
      replace VR := hid (var_below hB VR.out)
      replace BB := hid (BB.out.trans (hB.mono BB.out.size))
      clear hB
      obtain ⟨⟨a0, a1, a2, a3⟩, -⟩ := var4_facts VA.out
      obtain ⟨⟨c0, c1, c2, c3⟩, -⟩ := var4_facts VC.out
      obtain ⟨⟨r0, r1, r2, r3, r4, r5⟩, -⟩ := v6_facts VR.out
      go_wp2_with fail
      refine (ibt r.2.1 a _).mono ?_
      rintro e z2 ⟨rfl, hB⟩
      rw [g1.out]
      clear a0 a1 a2 a3 c0 c1 c2 c3 r0 r1 r2 r3 r4 r5
      replace VA := hid (var_below hB VA.out)
      replace VC := hid (var_below hB VC.out)
      replace VR := hid (var_below hB VR.out)
      replace BB := hid (BB.out.trans (hB.mono BB.out.size))
      clear hB
      obtain ⟨⟨a0, a1, a2, a3⟩, -⟩ := var4_facts VA.out
      obtain ⟨⟨c0, c1, c2, c3⟩, -⟩ := var4_facts VC.out
      obtain ⟨⟨r0, r1, r2, r3, r4, r5⟩, -⟩ := v6_facts VR.out
      go_wp2_with fail
      refine (ibt r.2.1 b _).mono ?_
      rintro e z3 ⟨rfl, hB⟩
      rw [g2.out]
      clear a0 a1 a2 a3 c0 c1 c2 c3 r0 r1 r2 r3 r4 r5
      replace VA := hid (var_below hB VA.out)
      replace VC := hid (var_below hB VC.out)
      replace VR := hid (var_below hB VR.out)
      replace BB := hid (BB.out.trans (hB.mono BB.out.size))
      clear hB
      obtain ⟨⟨a0, a1, a2, a3⟩, -⟩ := var4_facts VA.out
      obtain ⟨⟨c0, c1, c2, c3⟩, -⟩ := var4_facts VC.out
      obtain ⟨⟨r0, r1, r2, r3, r4, r5⟩, -⟩ := v6_facts VR.out
      go_wp2
      go_ret
      exact ⟨rfl, BB.out⟩
  have Z := VB.out
  rw [h0, h2] at Z
  replace VB := hid Z
  clear Z
  obtain ⟨X, xc, xl, xi, xs, xb⟩ := FB.out h2
  have XI := hid xi
  have XS := hid xs
  clear xi xs
  have XC := hid xc
  have XL := hid xl
  have XB := hid xb
  clear xc xl xb h0 h2
  go_wp2
  obtain ⟨⟨b0, b1, b2, b3, b4, b5⟩, -⟩ := v6_facts VB.out
  obtain ⟨⟨w_0, w_1, w_2, w_3, w_4, w_5, w_6⟩, -⟩ := v7_facts VW.out
  refine wp_region_held_drew (S := fun w' => Below w13.heap.size w13 w') (by kernel_rfl) (Below.refl _ _).drew (fun hH => ?_)
  generalize w13.drew = y0 at hH ⊢
  refine wpAnyH_take (i := 0) (v := .pointer (some ⟨gt, 0, none⟩)) (by simp only [List.getElem?_toArray, List.getElem?_cons_zero]; rfl) (by kernel_rfl) (by kernel_rfl) (by kernel_rfl) (by intro _ _ _ h; exact h) (Or.inl ⟨by rfl, fun w hS => by go_simp⟩) hH ?_
  simp only [Act.put, List.setIfInBounds_toArray, List.set_cons_zero, List.set_cons_succ]
  refine wpAnyH_take (i := 1) (v := .int .i64 0) (by simp only [List.getElem?_toArray, List.getElem?_cons_succ, List.getElem?_cons_zero]; rfl) (by kernel_rfl) (by kernel_rfl) (by kernel_rfl) (by intro _ _ _ h; exact h) (Or.inl ⟨by rfl, fun w hS => by (have y0 := cell_kept hS b0; go_simp)⟩) hH ?_
  simp only [Act.put, List.setIfInBounds_toArray, List.set_cons_zero, List.set_cons_succ]
  refine wpAnyH_take (i := 2) (v := .bool true) (by simp only [List.getElem?_toArray, List.getElem?_cons_succ, List.getElem?_cons_zero]; rfl) (by kernel_rfl) (by kernel_rfl) (by kernel_rfl) (by intro _ _ _ h; exact h) (Or.inl ⟨by rfl, fun w hS => by go_simp⟩) hH ?_
  simp only [Act.put, List.setIfInBounds_toArray, List.set_cons_zero, List.set_cons_succ]
  refine wpAnyH_take (i := 3) (v := .bool true) (by simp only [List.getElem?_toArray, List.getElem?_cons_succ, List.getElem?_cons_zero]; rfl) (by kernel_rfl) (by kernel_rfl) (by kernel_rfl) (by intro _ _ _ h; exact h) (Or.inl ⟨by rfl, fun w hS => by go_simp⟩) hH ?_
  simp only [Act.put, List.setIfInBounds_toArray, List.set_cons_zero, List.set_cons_succ]
  refine wpAnyH_take (i := 4) (v := .pointer (some ⟨gt, 5, none⟩)) (by simp only [List.getElem?_toArray, List.getElem?_cons_succ, List.getElem?_cons_zero]; rfl) (by kernel_rfl) (by kernel_rfl) (by kernel_rfl) (by intro _ _ _ h; exact h) (Or.inl ⟨by rfl, fun w hS => by go_simp⟩) hH ?_
  simp only [Act.put, List.setIfInBounds_toArray, List.set_cons_zero, List.set_cons_succ]
  refine wpAnyH_take (i := 5) (v := .bool true) (by simp only [List.getElem?_toArray, List.getElem?_cons_succ, List.getElem?_cons_zero]; rfl) (by kernel_rfl) (by kernel_rfl) (by kernel_rfl) (by intro _ _ _ h; exact h) (Or.inl ⟨by rfl, fun w hS => by (have y5 := cell_kept hS b5; go_simp)⟩) hH ?_
  simp only [Act.put, List.setIfInBounds_toArray, List.set_cons_zero, List.set_cons_succ]
  refine wpAnyH_take (i := 6) (v := .bool true) (by simp only [List.getElem?_toArray, List.getElem?_cons_succ, List.getElem?_cons_zero]; rfl) (by kernel_rfl) (by kernel_rfl) (by kernel_rfl) (by intro _ _ _ h; exact h) (Or.inl ⟨by rfl, fun w hS => by go_simp⟩) hH ?_
  simp only [Act.put, List.setIfInBounds_toArray, List.set_cons_zero, List.set_cons_succ]
  refine wpAnyH_take (i := 7) (v := .bool true) (by simp only [List.getElem?_toArray, List.getElem?_cons_succ, List.getElem?_cons_zero]; rfl) (by kernel_rfl) (by kernel_rfl) (by kernel_rfl) (by intro _ _ _ h; exact h) (Or.inl ⟨by rfl, fun w hS => by go_simp⟩) hH ?_
  simp only [Act.put, List.setIfInBounds_toArray, List.set_cons_zero, List.set_cons_succ]
  refine wpAnyH_take (i := 8) (v := .pointer (some ⟨gt, 1, none⟩)) (by simp only [List.getElem?_toArray, List.getElem?_cons_succ, List.getElem?_cons_zero]; rfl) (by kernel_rfl) (by kernel_rfl) (by kernel_rfl) (by intro _ _ _ h; exact h) (Or.inl ⟨by rfl, fun w hS => by go_simp⟩) hH ?_
  simp only [Act.put, List.setIfInBounds_toArray, List.set_cons_zero, List.set_cons_succ]
  refine wpAnyH_take (i := 9) (v := .pointer (some ⟨gt, 2, none⟩)) (by simp only [List.getElem?_toArray, List.getElem?_cons_succ, List.getElem?_cons_zero]; rfl) (by kernel_rfl) (by kernel_rfl) (by kernel_rfl) (by intro _ _ _ h; exact h) (Or.inl ⟨by rfl, fun w hS => by go_simp⟩) hH ?_
  simp only [Act.put, List.setIfInBounds_toArray, List.set_cons_zero, List.set_cons_succ]
  refine wpAnyH_take (i := 10) (v := .int .i64 t.2.1.i) (by simp only [List.getElem?_toArray, List.getElem?_cons_succ, List.getElem?_cons_zero]; rfl) (by kernel_rfl) (by kernel_rfl) (by kernel_rfl) (by intro _ _ _ h; exact h) (Or.inl ⟨by rfl, fun w hS => by (have y2 := cell_kept hS b2; go_simp)⟩) hH ?_
  simp only [Act.put, List.setIfInBounds_toArray, List.set_cons_zero, List.set_cons_succ]
  refine wpAnyH_take (i := 11) (v := .pointer (some ⟨gw, 3, none⟩)) (by simp only [List.getElem?_toArray, List.getElem?_cons_succ, List.getElem?_cons_zero]; rfl) (by kernel_rfl) (by kernel_rfl) (by kernel_rfl) (by intro _ _ _ h; exact h) (Or.inl ⟨by rfl, fun w hS => by go_simp⟩) hH ?_
  simp only [Act.put, List.setIfInBounds_toArray, List.set_cons_zero, List.set_cons_succ]
  refine wpAnyH_take (i := 12) (v := .int .i64 x.d) (by simp only [List.getElem?_toArray, List.getElem?_cons_succ, List.getElem?_cons_zero]; rfl) (by kernel_rfl) (by kernel_rfl) (by kernel_rfl) (by intro _ _ _ h; exact h) (Or.inl ⟨by rfl, fun w hS => by (have y3 := cell_kept hS w_3; go_simp)⟩) hH ?_
  simp only [Act.put, List.setIfInBounds_toArray, List.set_cons_zero, List.set_cons_succ]
  refine wpAnyH_take (i := 13) (v := .bool false) (by simp only [List.getElem?_toArray, List.getElem?_cons_succ, List.getElem?_cons_zero]; rfl) (by kernel_rfl) (by kernel_rfl) (by kernel_rfl) (by intro _ _ _ h; exact h) (Or.inl ⟨by rfl, fun w hS => by (have hi := XI.out; go_simp)⟩) hH ?_
  simp only [Act.put, List.setIfInBounds_toArray, List.set_cons_zero, List.set_cons_succ]
  refine wpAnyH_take (i := 14) (v := .bool false) (by simp only [List.getElem?_toArray, List.getElem?_cons_succ, List.getElem?_cons_zero]; rfl) (by kernel_rfl) (by kernel_rfl) (by kernel_rfl) (by intro _ _ _ h; exact h) (Or.inl ⟨by rfl, fun w hS => by go_simp⟩) hH ?_
  simp only [Act.put, List.setIfInBounds_toArray, List.set_cons_zero, List.set_cons_succ]
  refine wpAnyH_take (i := 15) (v := .pointer (some ⟨gt, 1, none⟩)) (by simp only [List.getElem?_toArray, List.getElem?_cons_succ, List.getElem?_cons_zero]; rfl) (by kernel_rfl) (by kernel_rfl) (by kernel_rfl) (by intro _ _ _ h; exact h) (Or.inl ⟨by rfl, fun w hS => by go_simp⟩) hH ?_
  simp only [Act.put, List.setIfInBounds_toArray, List.set_cons_zero, List.set_cons_succ]
  refine wpAnyH_take (i := 16) (v := .pointer (some ⟨gt, 3, none⟩)) (by simp only [List.getElem?_toArray, List.getElem?_cons_succ, List.getElem?_cons_zero]; rfl) (by kernel_rfl) (by kernel_rfl) (by kernel_rfl) (by intro _ _ _ h; exact h) (Or.inl ⟨by rfl, fun w hS => by go_simp⟩) hH ?_
  simp only [Act.put, List.setIfInBounds_toArray, List.set_cons_zero, List.set_cons_succ]
  refine wpAnyH_take (i := 17) (v := .int .i64 t.2.1.s) (by simp only [List.getElem?_toArray, List.getElem?_cons_succ, List.getElem?_cons_zero]; rfl) (by kernel_rfl) (by kernel_rfl) (by kernel_rfl) (by intro _ _ _ h; exact h) (Or.inl ⟨by rfl, fun w hS => by (have y3 := cell_kept hS b3; go_simp)⟩) hH ?_
  simp only [Act.put, List.setIfInBounds_toArray, List.set_cons_zero, List.set_cons_succ]
  refine wpAnyH_take (i := 18) (v := .bool false) (by simp only [List.getElem?_toArray, List.getElem?_cons_succ, List.getElem?_cons_zero]; rfl) (by kernel_rfl) (by kernel_rfl) (by kernel_rfl) (by intro _ _ _ h; exact h) (Or.inl ⟨by rfl, fun w hS => by (have hi := XS.out; go_simp)⟩) hH ?_
  simp only [Act.put, List.setIfInBounds_toArray, List.set_cons_zero, List.set_cons_succ]
  refine wpAnyH_take (i := 19) (v := .bool false) (by simp only [List.getElem?_toArray, List.getElem?_cons_succ, List.getElem?_cons_zero]; rfl) (by kernel_rfl) (by kernel_rfl) (by kernel_rfl) (by intro _ _ _ h; exact h) (Or.inl ⟨by rfl, fun w hS => by go_simp⟩) hH ?_
  simp only [Act.put, List.setIfInBounds_toArray, List.set_cons_zero, List.set_cons_succ]
  refine wpAnyH_take (i := 20) (v := .bool false) (by simp only [List.getElem?_toArray, List.getElem?_cons_succ, List.getElem?_cons_zero]; rfl) (by kernel_rfl) (by kernel_rfl) (by kernel_rfl) (by intro _ _ _ h; exact h) (Or.inl ⟨by rfl, fun w hS => by go_simp⟩) hH ?_
  simp only [Act.put, List.setIfInBounds_toArray, List.set_cons_zero, List.set_cons_succ]
  refine wpAnyH_take (i := 21) (v := .pointer (some ⟨gt, 1, none⟩)) (by simp only [List.getElem?_toArray, List.getElem?_cons_succ, List.getElem?_cons_zero]; rfl) (by kernel_rfl) (by kernel_rfl) (by kernel_rfl) (by intro _ _ _ h; exact h) (Or.inl ⟨by rfl, fun w hS => by go_simp⟩) hH ?_
  simp only [Act.put, List.setIfInBounds_toArray, List.set_cons_zero, List.set_cons_succ]
  refine wpAnyH_take (i := 22) (v := .agg #[.int .i64 t.2.1.n, .int .i64 t.2.1.i, .int .i64 t.2.1.s, .int .i64 t.2.1.m]) (by simp only [List.getElem?_toArray, List.getElem?_cons_succ, List.getElem?_cons_zero]; rfl) (by kernel_rfl) (by kernel_rfl) (by kernel_rfl) (by intro _ _ _ h; exact h) (Or.inl ⟨by rfl, fun w hS => by (have y1 := cell_kept hS b1; have y2 := cell_kept hS b2; have y3 := cell_kept hS b3; have y4 := cell_kept hS b4; go_simp)⟩) hH ?_
  simp only [Act.put, List.setIfInBounds_toArray, List.set_cons_zero, List.set_cons_succ]
  refine wpAnyH_take (i := 23) (v := .slice pw ds.length cw) (by simp only [List.getElem?_toArray, List.getElem?_cons_succ, List.getElem?_cons_zero]; rfl) (by kernel_rfl) (by kernel_rfl) (by kernel_rfl) (by intro _ _ _ h; exact h) (Or.inl ⟨by rfl, fun w hS => by go_simp⟩) hH ?_
  simp only [Act.put, List.setIfInBounds_toArray, List.set_cons_zero, List.set_cons_succ]
  refine wpAnyH_take (i := 24) (v := .pointer (some ⟨gw, 2, none⟩)) (by simp only [List.getElem?_toArray, List.getElem?_cons_succ, List.getElem?_cons_zero]; rfl) (by kernel_rfl) (by kernel_rfl) (by kernel_rfl) (by intro _ _ _ h; exact h) (Or.inl ⟨by rfl, fun w hS => by go_simp⟩) hH ?_
  simp only [Act.put, List.setIfInBounds_toArray, List.set_cons_zero, List.set_cons_succ]
  refine wpAnyH_take (i := 25) (v := .int .i64 x.c) (by simp only [List.getElem?_toArray, List.getElem?_cons_succ, List.getElem?_cons_zero]; rfl) (by kernel_rfl) (by kernel_rfl) (by kernel_rfl) (by intro _ _ _ h; exact h) (Or.inl ⟨by rfl, fun w hS => by (have y2 := cell_kept hS w_2; go_simp)⟩) hH ?_
  simp only [Act.put, List.setIfInBounds_toArray, List.set_cons_zero, List.set_cons_succ]
  refine wpAnyH_ready (rs := [26]) (by kernel_rfl) (by simp) ?_
  refine AllReadyH.cons (by simp only [List.getElem?_toArray, List.getElem?_cons_succ, List.getElem?_cons_zero]; rfl) (fun K hK => ?_) AllReadyH.nil
  go_simp
  refine (sfc _ ds x.c _ (HW.out.below hH)).mono ?_
  rintro e x26 ⟨ua, rfl, hO, hM⟩
  rw [XC.out]
  rw [XL.out] at hO
  obtain ⟨aa, ka, rfl, -, -, hcs⟩ := hO.parts
  obtain ⟨bxa, oxa, rfl, q1⟩ := hcs 0 (by simp)
  obtain ⟨e0, e1, e2, e3⟩ := c_cells q1
  simp only [List.getElem_cons_zero, Nat.zero_mul, Nat.add_zero] at e0 e1 e2 e3
  have I1 := idx_ci bxa oxa 1 ka 0 (by omega)
  simp only [Nat.zero_mul, Nat.add_zero, Int.cast_ofNat_Int] at I1
  clear q1 hcs hO
  refine hK.out _ _ (hH.trans (hM.mono hH.size)) (fun hH => ?_)
  clear hK K hM
  refine wpAnyH_take (i := 27) (v := .slice (some ⟨bxa, oxa, none⟩) 1 ka) (by simp only [List.getElem?_toArray, List.getElem?_cons_succ, List.getElem?_cons_zero]; rfl) (by kernel_rfl) (by kernel_rfl) (by kernel_rfl) (by intro _ _ _ h; exact h) (Or.inl ⟨by rfl, fun w hS => by (have hf := fldV1d 0 (some ⟨bxa, oxa, none⟩) 1 ka; go_simp)⟩) hH ?_
  simp only [Act.put, List.setIfInBounds_toArray, List.set_cons_zero, List.set_cons_succ]
  refine wpAnyH_take (i := 28) (v := .pointer (some ⟨bxa, oxa, none⟩)) (by simp only [List.getElem?_toArray, List.getElem?_cons_succ, List.getElem?_cons_zero]; rfl) (by kernel_rfl) (by kernel_rfl) (by kernel_rfl) (by intro _ _ _ h; exact h) (Or.inl ⟨by rfl, fun w hS => by go_simp⟩) hH ?_
  simp only [Act.put, List.setIfInBounds_toArray, List.set_cons_zero, List.set_cons_succ]
  refine wpAnyH_ready (rs := [29]) (by kernel_rfl) (by simp) ?_
  refine AllReadyH.cons (by simp only [List.getElem?_toArray, List.getElem?_cons_succ, List.getElem?_cons_zero]; rfl) (fun K hK => ?_) AllReadyH.nil
  go_simp
  refine hK.out _ _ hH (fun hH => ?_)
  clear hK K
  try simp only [Act.put, List.setIfInBounds_toArray, List.set_cons_zero, List.set_cons_succ]
  clear e0 e1 e2 e3 I1
  refine wpAnyH_ready (rs := [30]) (by kernel_rfl) (by simp) ?_
  refine AllReadyH.cons (by simp only [List.getElem?_toArray, List.getElem?_cons_succ, List.getElem?_cons_zero]; rfl) (fun K hK => ?_) AllReadyH.nil
  go_simp
  refine (ibt t.2.1 X _).mono ?_
  rintro e x30 ⟨rfl, hM⟩
  rw [XB.out]
  refine hK.out _ _ (hH.trans (hM.mono hH.size)) (fun hH => ?_)
  clear hK K hM
  refine wpAnyH_take (i := 31) (v := .bool false) (by simp only [List.getElem?_toArray, List.getElem?_cons_succ, List.getElem?_cons_zero]; rfl) (by kernel_rfl) (by kernel_rfl) (by kernel_rfl) (by intro _ _ _ h; exact h) (Or.inl ⟨by rfl, fun w hS => by go_simp⟩) hH ?_
  simp only [Act.put, List.setIfInBounds_toArray, List.set_cons_zero, List.set_cons_succ]
  refine wpAnyH_take (i := 32) (v := .bool false) (by simp only [List.getElem?_toArray, List.getElem?_cons_succ, List.getElem?_cons_zero]; rfl) (by kernel_rfl) (by kernel_rfl) (by kernel_rfl) (by intro _ _ _ h; exact h) (Or.inl ⟨by rfl, fun w hS => by go_simp⟩) hH ?_
  simp only [Act.put, List.setIfInBounds_toArray, List.set_cons_zero, List.set_cons_succ]
  refine wpAnyH_take (i := 33) (v := .bool false) (by simp only [List.getElem?_toArray, List.getElem?_cons_succ, List.getElem?_cons_zero]; rfl) (by kernel_rfl) (by kernel_rfl) (by kernel_rfl) (by intro _ _ _ h; exact h) (Or.inl ⟨by rfl, fun w hS => by go_simp⟩) hH ?_
  simp only [Act.put, List.setIfInBounds_toArray, List.set_cons_zero, List.set_cons_succ]
  refine wpAnyH_done (by kernel_rfl) ?_ _
  have hB := hH
  clear hH b0 b1 b2 b3 b4 b5 w_0 w_1 w_2 w_3 w_4 w_5 w_6
  replace HV := hid (HV.out.below hB)
  replace HW := hid (HW.out.below hB)
  replace VA := hid (var_below hB VA.out)
  replace VC := hid (var_below hB VC.out)
  replace VR := hid (var_below hB VR.out)
  replace VS := hid (var_below hB VS.out)
  replace VW := hid (var_below hB VW.out)
  replace VB := hid (var_below hB VB.out)
  replace BB := hid (BB.out.trans (hB.mono BB.out.size))
  clear hB
  generalize x30 = w14 at *
  clear XC XL XB XI XS
  clear HV HW VS VW VB
  by_cases h0 : r.1 = 0
  case neg =>
    have nz : (r.1 != 0) = true := by rw [bne_iff_ne]; exact h0
    obtain ⟨⟨a0, a1, a2, a3⟩, -⟩ := var4_facts VA.out
    obtain ⟨⟨c0, c1, c2, c3⟩, -⟩ := var4_facts VC.out
    obtain ⟨⟨r0, r1, r2, r3, r4, r5⟩, -⟩ := v6_facts VR.out
    go_wp2
    go_ret
    exact ⟨rfl, BB.out⟩
  obtain ⟨f1, f2, f3, f4⟩ := FR.out h0
  replace f1 := hid f1
  rcases f4 with ⟨m, e⟩ | ⟨m, g1, g2, g3⟩
  · have Z := VR.out
    rw [h0, e, m] at Z
    rw [e] at f1
    replace VR := hid Z
    have hq := eql_clm a
    clear Z h0 f2 f3 e m
    obtain ⟨⟨a0, a1, a2, a3⟩, -⟩ := var4_facts VA.out
    obtain ⟨⟨c0, c1, c2, c3⟩, -⟩ := var4_facts VC.out
    obtain ⟨⟨r0, r1, r2, r3, r4, r5⟩, -⟩ := v6_facts VR.out
    go_wp2_with fail
    refine (ibt b a _).mono ?_
    rintro e z1 ⟨rfl, hB⟩
    rw [f1.out]
    clear a0 a1 a2 a3 c0 c1 c2 c3 r0 r1 r2 r3 r4 r5
    replace VA := hid (var_below hB VA.out)
    replace VC := hid (var_below hB VC.out)
    replace VR := hid (var_below hB VR.out)
    replace BB := hid (BB.out.trans (hB.mono BB.out.size))
    clear hB
    obtain ⟨⟨a0, a1, a2, a3⟩, -⟩ := var4_facts VA.out
    obtain ⟨⟨c0, c1, c2, c3⟩, -⟩ := var4_facts VC.out
    obtain ⟨⟨r0, r1, r2, r3, r4, r5⟩, -⟩ := v6_facts VR.out
    go_wp2
    go_ret
    exact ⟨rfl, BB.out⟩
  · have Z := VR.out
    rw [h0, m] at Z
    replace VR := hid Z
    have q1 : (r.2.1.n == a.n) = true := by simp [f2]
    have q2 : (r.2.1.m == a.m) = true := by simp [f3]
    have q3 : (r.2.1.s == 0) = true := by simp [g3]
    replace g1 := hid g1
    replace g2 := hid g2
    clear Z h0 f2 f3 m g3
    obtain ⟨⟨a0, a1, a2, a3⟩, -⟩ := var4_facts VA.out
    obtain ⟨⟨c0, c1, c2, c3⟩, -⟩ := var4_facts VC.out
    obtain ⟨⟨r0, r1, r2, r3, r4, r5⟩, -⟩ := v6_facts VR.out
    go_wp2_with fail
    refine (ibt b r.2.1 _).mono ?_
    rintro e z1 ⟨rfl, hB⟩
    rw [f1.out]
    clear a0 a1 a2 a3 c0 c1 c2 c3 r0 r1 r2 r3 r4 r5
    replace VA := hid (var_below hB VA.out)
    replace VC := hid (var_below hB VC.out)
    replace VR := hid (var_below hB VR.out)
    replace BB := hid (BB.out.trans (hB.mono BB.out.size))
    clear hB
    obtain ⟨⟨a0, a1, a2, a3⟩, -⟩ := var4_facts VA.out
    obtain ⟨⟨c0, c1, c2, c3⟩, -⟩ := var4_facts VC.out
    obtain ⟨⟨r0, r1, r2, r3, r4, r5⟩, -⟩ := v6_facts VR.out
    go_wp2_with fail
    refine (ibt r.2.1 a _).mono ?_
    rintro e z2 ⟨rfl, hB⟩
    rw [g1.out]
    clear a0 a1 a2 a3 c0 c1 c2 c3 r0 r1 r2 r3 r4 r5
    replace VA := hid (var_below hB VA.out)
    replace VC := hid (var_below hB VC.out)
    replace VR := hid (var_below hB VR.out)
    replace BB := hid (BB.out.trans (hB.mono BB.out.size))
    clear hB
    obtain ⟨⟨a0, a1, a2, a3⟩, -⟩ := var4_facts VA.out
    obtain ⟨⟨c0, c1, c2, c3⟩, -⟩ := var4_facts VC.out
    obtain ⟨⟨r0, r1, r2, r3, r4, r5⟩, -⟩ := v6_facts VR.out
    go_wp2_with fail
    refine (ibt r.2.1 b _).mono ?_
    rintro e z3 ⟨rfl, hB⟩
    rw [g2.out]
    clear a0 a1 a2 a3 c0 c1 c2 c3 r0 r1 r2 r3 r4 r5
    replace VA := hid (var_below hB VA.out)
    replace VC := hid (var_below hB VC.out)
    replace VR := hid (var_below hB VR.out)
    replace BB := hid (BB.out.trans (hB.mono BB.out.size))
    clear hB
    obtain ⟨⟨a0, a1, a2, a3⟩, -⟩ := var4_facts VA.out
    obtain ⟨⟨c0, c1, c2, c3⟩, -⟩ := var4_facts VC.out
    obtain ⟨⟨r0, r1, r2, r3, r4, r5⟩, -⟩ := v6_facts VR.out
    go_wp2
    go_ret
    exact ⟨rfl, BB.out⟩
end Go.Proofs.Ytalaolfcdaaaoaa.W
