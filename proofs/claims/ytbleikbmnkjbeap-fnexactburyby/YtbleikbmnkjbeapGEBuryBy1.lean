/-
  Steps of a region that draws its order: a whole array loaded or stored.
  The exact law of BuryBy, out of the contracts of its callees. Generated text.
  Slices of claims that came in, opened. Types' numbers alone.
  Slices of waits that came in, opened. Types' numbers alone.
-/
import Derived.Test.YtbleikbmnkjbeapRangeM
import Derived.Deep.DeepCutAuto
import Derived.Deep.RegionLaw
import Derived.Test.YtbleikbmnkjbeapCrK
import Derived.Test.YtbleikbmnkjbeapCrE
import Derived.Test.YtbleikbmnkjbeapVwEq
import Derived.Test.YtbleikbmnkjbeapWtT
import Derived.Test.YtbleikbmnkjbeapWtA
import Derived.Test.YtbleikbmnkjbeapVwF
import Derived.Deep.SlicePairs
import Derived.Lib.SmallJoins
import Derived.Test.YtbleikbmnkjbeapWtF

namespace Go.Proofs.Ytbleikbmnkjbeap.M
open Go.RowKit

theorem step_store_row {P : Program} {ops : Array Oper} {o : Oper} {a : Act} {w : World} {K : Act → World → Prop} {Q : Exit → Act → World → Prop} {E : Prop} (hgd : o.guard = none) (ty : TypeId) (x y : Operand) (ho : o.op = .store ty x y)
    (g : Nat) (cells : Array Value) (hx : a.eval x = .pointer (some ⟨g, 0, none⟩)) (hy : a.eval y = .agg cells)
    (t : TypeId) (old : Array Value) (hg : w.heap[g]? = some (.cells old t (0, 0))) (hi : (P.info? ty).map (·.size) = some cells.size)
    (hold : old.size = cells.size) (h1 : cells.all (·.oneCell') = true)
    (h : K (a.put o.dst undef) (w.setRow g cells)) : if Region.wanted o (yielded ops a.tmps) = true then Oper.wp P o a w K Q else E := by
  have hw : Region.wanted o (yielded ops a.tmps) = true := by simp [Region.wanted, hgd]
  rw [if_pos hw]
  exact wp_store_row ty x y ho g cells hx hy t old hg hi hold h1 h
theorem step_load_sub {P : Program} {ops : Array Oper} {op : Oper} {a : Act} {w : World} {K : Act → World → Prop} {Q : Exit → Act → World → Prop} {E : Prop} (hgd : op.guard = none) (ty : TypeId) (x : Operand) (ho : op.op = .load ty x)
    (b o : Nat) (hx : a.eval x = .pointer (some ⟨b, o, none⟩)) (l : List Nat) (hc : w.rangeAt b o (l.map bv)) (d : TypeDesc) (hu : P.underlying ty = some d) (hd : d.isRow = true) (hi : (P.info? ty).map (·.size) = some (arr l).size)
    (h : K (a.put op.dst (.agg (arr l))) w) : if Region.wanted op (yielded ops a.tmps) = true then Oper.wp P op a w K Q else E := by
  have hw : Region.wanted op (yielded ops a.tmps) = true := by simp [Region.wanted, hgd]
  rw [if_pos hw]
  exact wp_load_mid ty x ho b o hx (l.map bv) d hc hu hd (by rw [List.length_map, ← arr_size]; exact hi) h
end Go.Proofs.Ytbleikbmnkjbeap.M

namespace Go.Proofs.Ytbleikbmnkjbeap.W
open Go.ChangeShapes Go.WideShapes Go.ChangeAt Go.RowKit
open Go.Proofs.Ytbleikbmnkjbeap.M

theorem split3 {A B C : Type} {P F : A → B → C → Prop} {G : Prop} (main : (∀ a b c, F a b c → P a b c) → G) (leaf : ∀ a b c, F a b c → P a b c) : G := main leaf
set_option maxHeartbeats 8000000 in
set_option maxRecDepth 100000 in
theorem law_BuryBy (v0 : Value) (cs0 : List Clm) (x1 : Wai) (w : World) (h0 : RdC w v0 cs0) :
    Calls Try.prog 8 #[v0, .agg #[.int .i64 x1.a, .int .i64 x1.b, .int .i64 x1.c, .int .i64 x1.d, .int .i64 x1.e, .int .i64 x1.f, .int .i64 x1.g]] w fun e w' => e = .returned (.bool true) ∧ Below w.heap.size w w' := by
  obtain ⟨r, hr⟩ : ∃ r, r = buA cs0 x1 := ⟨_, rfl⟩
  have SR := hid (fun (w : World) (v : Value) (h : RdC w v cs0) => show Calls Try.prog 31 #[v, .agg #[.int .i64 x1.a, .int .i64 x1.b, .int .i64 x1.c, .int .i64 x1.d, .int .i64 x1.e, .int .i64 x1.f, .int .i64 x1.g]] w fun e w' => e = .returned (.agg #[.int .i64 r.1, .int .i64 r.2.1.n, .int .i64 r.2.1.i, .int .i64 r.2.1.s, .int .i64 r.2.1.m, .bool r.2.2]) ∧ Below w.heap.size w w' by rw [hr]; exact sbur v cs0 x1 w h)
  have IR := hid (fun (w : World) (v : Value) (h : RdC w v cs0) => show Calls Try.prog 33 #[v, .agg #[.int .i64 x1.a, .int .i64 x1.b, .int .i64 x1.c, .int .i64 x1.d, .int .i64 x1.e, .int .i64 x1.f, .int .i64 x1.g]] w fun e w' => e = .returned (.agg #[.int .i64 r.1, .int .i64 r.2.1.n, .int .i64 r.2.1.i, .int .i64 r.2.1.s, .int .i64 r.2.1.m, .bool r.2.2]) ∧ Below w.heap.size w w' by rw [hr]; exact ibur v cs0 x1 w h)
  clear hr
  have H0 := hid (h0.below (below_alloc1 w (.cells #[.int .i64 x1.a, .int .i64 x1.b, .int .i64 x1.c, .int .i64 x1.d, .int .i64 x1.e, .int .i64 x1.f, .int .i64 x1.g] 54)))
  obtain ⟨p0, k0, rfl, -, -, -⟩ := h0.parts
  clear h0
  have VB := hid (heap_alloc_new w (.cells #[.int .i64 x1.a, .int .i64 x1.b, .int .i64 x1.c, .int .i64 x1.d, .int .i64 x1.e, .int .i64 x1.f, .int .i64 x1.g] 54))
  have BB := hid (below_alloc1 w (.cells #[.int .i64 x1.a, .int .i64 x1.b, .int .i64 x1.c, .int .i64 x1.d, .int .i64 x1.e, .int .i64 x1.f, .int .i64 x1.g] 54))
  go_enter Try.func8, Try.ntmps8
  go_wp2_with fail
  generalize w.alloc (.cells #[.int .i64 x1.a, .int .i64 x1.b, .int .i64 x1.c, .int .i64 x1.d, .int .i64 x1.e, .int .i64 x1.f, .int .i64 x1.g] 54) = w0 at *
  obtain ⟨gb, hgb⟩ : ∃ g, g = w.heap.size := ⟨_, rfl⟩
  rw [← hgb] at VB ⊢
  replace hgb := hid hgb
  refine (szCS _ cs0 1048576 _ H0.out (by omega) (by omega)).mono ?_
  rintro e w1 ⟨rfl, hB⟩
  replace H0 := hid (H0.out.below hB)
  replace VB := hid (var_below hB VB.out)
  replace BB := hid (BB.out.trans (hB.mono BB.out.size))
  clear hB
  by_cases hz : (1048576 : Int) < cs0.length
  · rw [show szC 1048576 cs0.length = -1 by rw [szC, if_pos hz]]
    go_wp2
    go_ret
    exact ⟨rfl, BB.out⟩
  obtain ⟨l0, e1⟩ : ∃ r, r = szC 1048576 cs0.length := ⟨_, rfl⟩
  have e1' : szC 1048576 cs0.length = 1048576 - cs0.length := by rw [szC, if_neg hz]
  have g0 : 0 ≤ l0 := by rw [e1, e1']; omega
  have kl0 : cs0.length ≤ 1048576 := by omega
  rw [← e1]
  clear e1 e1' hz
  obtain ⟨⟨b0, b1, b2, b3, b4, b5, b6⟩, -⟩ := v7_facts VB.out
  go_wp2_with fail
  apply split3 (F := fun (gz : Nat) (x : World) (_ : Nat) => x.heap[gz]? = some (.cells #[.int .i64 r.1, .int .i64 r.2.1.n, .int .i64 r.2.1.i, .int .i64 r.2.1.s, .int .i64 r.2.1.m, .bool r.2.2] 41) ∧ Below w1.heap.size w1 x)
  case main =>
    intro leaf
    refine wp_region_held_drew (S := fun w' => Below w1.heap.size w1 w') (by kernel_rfl) (Below.refl _ _).drew (fun hH => ?_)
    generalize w1.drew = x at hH ⊢
    refine wpAnyH_take (i := 0) (v := .slice p0 cs0.length k0) (by simp only [List.getElem?_toArray, List.getElem?_cons_zero]; rfl) (by kernel_rfl) (by kernel_rfl) (by kernel_rfl) (by intro _ _ _ h; exact h) (Or.inl ⟨by rfl, fun w hS => by go_simp⟩) hH ?_
    simp only [Act.put, List.setIfInBounds_toArray, List.set_cons_zero, List.set_cons_succ]
    refine wpAnyH_take (i := 2) (v := .agg #[.int .i64 x1.a, .int .i64 x1.b, .int .i64 x1.c, .int .i64 x1.d, .int .i64 x1.e, .int .i64 x1.f, .int .i64 x1.g]) (by simp only [List.getElem?_toArray, List.getElem?_cons_succ, List.getElem?_cons_zero]; rfl) (by kernel_rfl) (by kernel_rfl) (by kernel_rfl) (by intro _ _ _ h; exact h) (Or.inl ⟨by rfl, fun w hS => by (have y0 := cell_kept hS b0; have y1 := cell_kept hS b1; have y2 := cell_kept hS b2; have y3 := cell_kept hS b3; have y4 := cell_kept hS b4; have y5 := cell_kept hS b5; have y6 := cell_kept hS b6; go_simp)⟩) hH ?_
    simp only [Act.put, List.setIfInBounds_toArray, List.set_cons_zero, List.set_cons_succ]
    refine wpAnyH_ready (rs := [1, 5]) (by kernel_rfl) (by simp) ?_
    refine AllReadyH.cons (by simp only [List.getElem?_toArray, List.getElem?_cons_succ, List.getElem?_cons_zero]; rfl) (fun K hK => ?_) ?_
    · go_simp
      refine (toCS _ cs0 _ (H0.out.below hH) kl0).mono ?_
      rintro e x1 ⟨gT, rfl, hO, hM⟩
      refine hK.out _ _ (hH.trans (hM.mono hH.size)) (fun hH => ?_)
      clear hK K
      have T := hid hO.rd
      clear hO
      clear hM
      refine wpAnyH_ready (rs := [3, 5]) (by kernel_rfl) (by simp) ?_
      refine AllReadyH.cons (by simp only [List.getElem?_toArray, List.getElem?_cons_succ, List.getElem?_cons_zero]; rfl) (fun K hK => ?_) ?_
      · go_simp
        refine (tojl _ _ _ _ _ _ _ _).mono ?_
        rintro e x3 ⟨rfl, hM⟩
        refine hK.out _ _ (hH.trans (hM.mono hH.size)) (fun hH => ?_)
        clear hK K
        replace T := hid (T.out.below hM)
        clear hM
        refine wpAnyH_ready (rs := [4, 5]) (by kernel_rfl) (by simp) ?_
        refine AllReadyH.cons (by simp only [List.getElem?_toArray, List.getElem?_cons_succ, List.getElem?_cons_zero]; rfl) (fun K hK => ?_) ?_
        · go_simp
          refine (SR.out _ _ T.out).mono ?_
          rintro e x4 ⟨rfl, hM⟩
          refine hK.out _ _ (hH.trans (hM.mono hH.size)) (fun hH => ?_)
          clear hK K
          replace T := hid (T.out.below hM)
          clear T
          clear hM
          refine wpAnyH_ready (rs := [5]) (by kernel_rfl) (by simp) ?_
          refine AllReadyH.cons (by simp only [List.getElem?_toArray, List.getElem?_cons_succ, List.getElem?_cons_zero]; rfl) (fun K hK => ?_) AllReadyH.nil
          go_simp
          have hM := below_alloc1 x4 (.cells #[.int .i64 0, .int .i64 0, .int .i64 0, .int .i64 0, .int .i64 0, .bool false] 41)
          have LZ := hid hH.size
          have VZ := hid (heap_alloc_new x4 (.cells #[.int .i64 0, .int .i64 0, .int .i64 0, .int .i64 0, .int .i64 0, .bool false] 41))
          refine hK.out _ _ (hH.alloc hH.size _) (fun hH => ?_)
          clear hK K hM
          generalize x4.alloc (.cells #[.int .i64 0, .int .i64 0, .int .i64 0, .int .i64 0, .int .i64 0, .bool false] 41) = y3 at *
          obtain ⟨gz, hgz⟩ : ∃ g, g = x4.heap.size := ⟨_, rfl⟩
          rw [← hgz] at VZ LZ ⊢
          clear hgz
          refine wpAnyH_ready (rs := [6]) (by kernel_rfl) (by simp) ?_
          refine AllReadyH.cons (by simp only [List.getElem?_toArray, List.getElem?_cons_succ, List.getElem?_cons_zero]; rfl) (fun K hK => ?_) AllReadyH.nil
          refine step_store_row (by rfl) _ _ _ (by rfl) gz #[.int .i64 r.1, .int .i64 r.2.1.n, .int .i64 r.2.1.i, .int .i64 r.2.1.s, .int .i64 r.2.1.m, .bool r.2.2] (by rfl) (by rfl) 41 _ VZ.out (cr_info _ rfl) rfl (cr_one _ _ _ _ _ _) ?_
          have VE := hid (cr_row (new := #[.int .i64 r.1, .int .i64 r.2.1.n, .int .i64 r.2.1.i, .int .i64 r.2.1.s, .int .i64 r.2.1.m, .bool r.2.2]) VZ.out)
          refine hK.out _ _ (hH.grown (cr_grown _ gz #[.int .i64 r.1, .int .i64 r.2.1.n, .int .i64 r.2.1.i, .int .i64 r.2.1.s, .int .i64 r.2.1.m, .bool r.2.2]) hH.size (fun b e => by cases e; exact LZ.out)) (fun hH => ?_)
          clear hK K VZ
          generalize y3.setRow gz #[.int .i64 r.1, .int .i64 r.2.1.n, .int .i64 r.2.1.i, .int .i64 r.2.1.s, .int .i64 r.2.1.m, .bool r.2.2] = xE at *
          refine wpAnyH_done (by kernel_rfl) ?_ _
          exact leaf gz xE gT ⟨VE.out, hH⟩
        refine AllReadyH.cons (by simp only [List.getElem?_toArray, List.getElem?_cons_succ, List.getElem?_cons_zero]; rfl) (fun K hK => ?_) ?_
        · go_simp
          have hM := below_alloc1 x3 (.cells #[.int .i64 0, .int .i64 0, .int .i64 0, .int .i64 0, .int .i64 0, .bool false] 41)
          have LZ := hid hH.size
          replace T := hid (T.out.below hM)
          have VZ := hid (heap_alloc_new x3 (.cells #[.int .i64 0, .int .i64 0, .int .i64 0, .int .i64 0, .int .i64 0, .bool false] 41))
          refine hK.out _ _ (hH.alloc hH.size _) (fun hH => ?_)
          clear hK K hM
          generalize x3.alloc (.cells #[.int .i64 0, .int .i64 0, .int .i64 0, .int .i64 0, .int .i64 0, .bool false] 41) = y2 at *
          obtain ⟨gz, hgz⟩ : ∃ g, g = x3.heap.size := ⟨_, rfl⟩
          rw [← hgz] at VZ LZ ⊢
          clear hgz
          refine wpAnyH_ready (rs := [4]) (by kernel_rfl) (by simp) ?_
          refine AllReadyH.cons (by simp only [List.getElem?_toArray, List.getElem?_cons_succ, List.getElem?_cons_zero]; rfl) (fun K hK => ?_) AllReadyH.nil
          go_simp
          refine (SR.out _ _ T.out).mono ?_
          rintro e x4 ⟨rfl, hM⟩
          refine hK.out _ _ (hH.trans (hM.mono hH.size)) (fun hH => ?_)
          clear hK K
          replace VZ := hid (var_below hM VZ.out)
          replace T := hid (T.out.below hM)
          clear T
          clear hM
          refine wpAnyH_ready (rs := [6]) (by kernel_rfl) (by simp) ?_
          refine AllReadyH.cons (by simp only [List.getElem?_toArray, List.getElem?_cons_succ, List.getElem?_cons_zero]; rfl) (fun K hK => ?_) AllReadyH.nil
          refine step_store_row (by rfl) _ _ _ (by rfl) gz #[.int .i64 r.1, .int .i64 r.2.1.n, .int .i64 r.2.1.i, .int .i64 r.2.1.s, .int .i64 r.2.1.m, .bool r.2.2] (by rfl) (by rfl) 41 _ VZ.out (cr_info _ rfl) rfl (cr_one _ _ _ _ _ _) ?_
          have VE := hid (cr_row (new := #[.int .i64 r.1, .int .i64 r.2.1.n, .int .i64 r.2.1.i, .int .i64 r.2.1.s, .int .i64 r.2.1.m, .bool r.2.2]) VZ.out)
          refine hK.out _ _ (hH.grown (cr_grown _ gz #[.int .i64 r.1, .int .i64 r.2.1.n, .int .i64 r.2.1.i, .int .i64 r.2.1.s, .int .i64 r.2.1.m, .bool r.2.2]) hH.size (fun b e => by cases e; exact LZ.out)) (fun hH => ?_)
          clear hK K VZ
          generalize x4.setRow gz #[.int .i64 r.1, .int .i64 r.2.1.n, .int .i64 r.2.1.i, .int .i64 r.2.1.s, .int .i64 r.2.1.m, .bool r.2.2] = xE at *
          refine wpAnyH_done (by kernel_rfl) ?_ _
          exact leaf gz xE gT ⟨VE.out, hH⟩
        exact AllReadyH.nil
      refine AllReadyH.cons (by simp only [List.getElem?_toArray, List.getElem?_cons_succ, List.getElem?_cons_zero]; rfl) (fun K hK => ?_) ?_
      · go_simp
        have hM := below_alloc1 x1 (.cells #[.int .i64 0, .int .i64 0, .int .i64 0, .int .i64 0, .int .i64 0, .bool false] 41)
        have LZ := hid hH.size
        replace T := hid (T.out.below hM)
        have VZ := hid (heap_alloc_new x1 (.cells #[.int .i64 0, .int .i64 0, .int .i64 0, .int .i64 0, .int .i64 0, .bool false] 41))
        refine hK.out _ _ (hH.alloc hH.size _) (fun hH => ?_)
        clear hK K hM
        generalize x1.alloc (.cells #[.int .i64 0, .int .i64 0, .int .i64 0, .int .i64 0, .int .i64 0, .bool false] 41) = y1 at *
        obtain ⟨gz, hgz⟩ : ∃ g, g = x1.heap.size := ⟨_, rfl⟩
        rw [← hgz] at VZ LZ ⊢
        clear hgz
        refine wpAnyH_ready (rs := [3]) (by kernel_rfl) (by simp) ?_
        refine AllReadyH.cons (by simp only [List.getElem?_toArray, List.getElem?_cons_succ, List.getElem?_cons_zero]; rfl) (fun K hK => ?_) AllReadyH.nil
        go_simp
        refine (tojl _ _ _ _ _ _ _ _).mono ?_
        rintro e x3 ⟨rfl, hM⟩
        refine hK.out _ _ (hH.trans (hM.mono hH.size)) (fun hH => ?_)
        clear hK K
        replace VZ := hid (var_below hM VZ.out)
        replace T := hid (T.out.below hM)
        clear hM
        refine wpAnyH_ready (rs := [4]) (by kernel_rfl) (by simp) ?_
        refine AllReadyH.cons (by simp only [List.getElem?_toArray, List.getElem?_cons_succ, List.getElem?_cons_zero]; rfl) (fun K hK => ?_) AllReadyH.nil
        go_simp
        refine (SR.out _ _ T.out).mono ?_
        rintro e x4 ⟨rfl, hM⟩
        refine hK.out _ _ (hH.trans (hM.mono hH.size)) (fun hH => ?_)
        clear hK K
        replace VZ := hid (var_below hM VZ.out)
        replace T := hid (T.out.below hM)
        clear T
        clear hM
        refine wpAnyH_ready (rs := [6]) (by kernel_rfl) (by simp) ?_
        refine AllReadyH.cons (by simp only [List.getElem?_toArray, List.getElem?_cons_succ, List.getElem?_cons_zero]; rfl) (fun K hK => ?_) AllReadyH.nil
        refine step_store_row (by rfl) _ _ _ (by rfl) gz #[.int .i64 r.1, .int .i64 r.2.1.n, .int .i64 r.2.1.i, .int .i64 r.2.1.s, .int .i64 r.2.1.m, .bool r.2.2] (by rfl) (by rfl) 41 _ VZ.out (cr_info _ rfl) rfl (cr_one _ _ _ _ _ _) ?_
        have VE := hid (cr_row (new := #[.int .i64 r.1, .int .i64 r.2.1.n, .int .i64 r.2.1.i, .int .i64 r.2.1.s, .int .i64 r.2.1.m, .bool r.2.2]) VZ.out)
        refine hK.out _ _ (hH.grown (cr_grown _ gz #[.int .i64 r.1, .int .i64 r.2.1.n, .int .i64 r.2.1.i, .int .i64 r.2.1.s, .int .i64 r.2.1.m, .bool r.2.2]) hH.size (fun b e => by cases e; exact LZ.out)) (fun hH => ?_)
        clear hK K VZ
        generalize x4.setRow gz #[.int .i64 r.1, .int .i64 r.2.1.n, .int .i64 r.2.1.i, .int .i64 r.2.1.s, .int .i64 r.2.1.m, .bool r.2.2] = xE at *
        refine wpAnyH_done (by kernel_rfl) ?_ _
        exact leaf gz xE gT ⟨VE.out, hH⟩
      exact AllReadyH.nil
    refine AllReadyH.cons (by simp only [List.getElem?_toArray, List.getElem?_cons_succ, List.getElem?_cons_zero]; rfl) (fun K hK => ?_) ?_
    · go_simp
      have hM := below_alloc1 x (.cells #[.int .i64 0, .int .i64 0, .int .i64 0, .int .i64 0, .int .i64 0, .bool false] 41)
      have LZ := hid hH.size
      have VZ := hid (heap_alloc_new x (.cells #[.int .i64 0, .int .i64 0, .int .i64 0, .int .i64 0, .int .i64 0, .bool false] 41))
      refine hK.out _ _ (hH.alloc hH.size _) (fun hH => ?_)
      clear hK K hM
      generalize x.alloc (.cells #[.int .i64 0, .int .i64 0, .int .i64 0, .int .i64 0, .int .i64 0, .bool false] 41) = y0 at *
      obtain ⟨gz, hgz⟩ : ∃ g, g = x.heap.size := ⟨_, rfl⟩
      rw [← hgz] at VZ LZ ⊢
      clear hgz
      refine wpAnyH_ready (rs := [1]) (by kernel_rfl) (by simp) ?_
      refine AllReadyH.cons (by simp only [List.getElem?_toArray, List.getElem?_cons_succ, List.getElem?_cons_zero]; rfl) (fun K hK => ?_) AllReadyH.nil
      go_simp
      refine (toCS _ cs0 _ (H0.out.below hH) kl0).mono ?_
      rintro e x1 ⟨gT, rfl, hO, hM⟩
      refine hK.out _ _ (hH.trans (hM.mono hH.size)) (fun hH => ?_)
      clear hK K
      replace VZ := hid (var_below hM VZ.out)
      have T := hid hO.rd
      clear hO
      clear hM
      refine wpAnyH_ready (rs := [3]) (by kernel_rfl) (by simp) ?_
      refine AllReadyH.cons (by simp only [List.getElem?_toArray, List.getElem?_cons_succ, List.getElem?_cons_zero]; rfl) (fun K hK => ?_) AllReadyH.nil
      go_simp
      refine (tojl _ _ _ _ _ _ _ _).mono ?_
      rintro e x3 ⟨rfl, hM⟩
      refine hK.out _ _ (hH.trans (hM.mono hH.size)) (fun hH => ?_)
      clear hK K
      replace VZ := hid (var_below hM VZ.out)
      replace T := hid (T.out.below hM)
      clear hM
      refine wpAnyH_ready (rs := [4]) (by kernel_rfl) (by simp) ?_
      refine AllReadyH.cons (by simp only [List.getElem?_toArray, List.getElem?_cons_succ, List.getElem?_cons_zero]; rfl) (fun K hK => ?_) AllReadyH.nil
      go_simp
      refine (SR.out _ _ T.out).mono ?_
      rintro e x4 ⟨rfl, hM⟩
      refine hK.out _ _ (hH.trans (hM.mono hH.size)) (fun hH => ?_)
      clear hK K
      replace VZ := hid (var_below hM VZ.out)
      replace T := hid (T.out.below hM)
      clear T
      clear hM
      refine wpAnyH_ready (rs := [6]) (by kernel_rfl) (by simp) ?_
      refine AllReadyH.cons (by simp only [List.getElem?_toArray, List.getElem?_cons_succ, List.getElem?_cons_zero]; rfl) (fun K hK => ?_) AllReadyH.nil
      refine step_store_row (by rfl) _ _ _ (by rfl) gz #[.int .i64 r.1, .int .i64 r.2.1.n, .int .i64 r.2.1.i, .int .i64 r.2.1.s, .int .i64 r.2.1.m, .bool r.2.2] (by rfl) (by rfl) 41 _ VZ.out (cr_info _ rfl) rfl (cr_one _ _ _ _ _ _) ?_
      have VE := hid (cr_row (new := #[.int .i64 r.1, .int .i64 r.2.1.n, .int .i64 r.2.1.i, .int .i64 r.2.1.s, .int .i64 r.2.1.m, .bool r.2.2]) VZ.out)
      refine hK.out _ _ (hH.grown (cr_grown _ gz #[.int .i64 r.1, .int .i64 r.2.1.n, .int .i64 r.2.1.i, .int .i64 r.2.1.s, .int .i64 r.2.1.m, .bool r.2.2]) hH.size (fun b e => by cases e; exact LZ.out)) (fun hH => ?_)
      clear hK K VZ
      generalize x4.setRow gz #[.int .i64 r.1, .int .i64 r.2.1.n, .int .i64 r.2.1.i, .int .i64 r.2.1.s, .int .i64 r.2.1.m, .bool r.2.2] = xE at *
      refine wpAnyH_done (by kernel_rfl) ?_ _
      exact leaf gz xE gT ⟨VE.out, hH⟩
    exact AllReadyH.nil
  case leaf =>
    intro gW w2 gT ⟨hV, hB⟩
    have VW := hid hV
    clear hV b0 b1 b2 b3 b4 b5 b6
    replace H0 := hid (H0.out.below hB)
    replace VB := hid (var_below hB VB.out)
    replace BB := hid (BB.out.trans (hB.mono BB.out.size))
    clear hB
    go_wp2_with fail
    refine (toCS _ cs0 _ H0.out kl0).mono ?_
    rintro e w3 ⟨gX, rfl, hO, hB⟩
    have X0 := hid hO.rd
    clear hO
    replace H0 := hid (H0.out.below hB)
    replace VB := hid (var_below hB VB.out)
    replace VW := hid (var_below hB VW.out)
    replace BB := hid (BB.out.trans (hB.mono BB.out.size))
    clear hB
    obtain ⟨⟨b0, b1, b2, b3, b4, b5, b6⟩, -⟩ := v7_facts VB.out
    go_wp2_with fail
    clear b0 b1 b2 b3 b4 b5 b6
    refine (tojl _ _ _ _ _ _ _ _).mono ?_
    rintro e w4 ⟨rfl, hB⟩
    replace H0 := hid (H0.out.below hB)
    replace X0 := hid (X0.out.below hB)
    replace VB := hid (var_below hB VB.out)
    replace VW := hid (var_below hB VW.out)
    replace BB := hid (BB.out.trans (hB.mono BB.out.size))
    clear hB
    go_wp2_with fail
    refine (IR.out _ _ X0.out).mono ?_
    rintro e w5 ⟨rfl, hB⟩
    replace H0 := hid (H0.out.below hB)
    replace X0 := hid (X0.out.below hB)
    replace VB := hid (var_below hB VB.out)
    replace VW := hid (var_below hB VW.out)
    replace BB := hid (BB.out.trans (hB.mono BB.out.size))
    clear hB
    have VG := hid (heap_alloc_new w5 (.cells #[.int .i64 r.1, .int .i64 r.2.1.n, .int .i64 r.2.1.i, .int .i64 r.2.1.s, .int .i64 r.2.1.m, .bool r.2.2] 41))
    have hA := below_alloc1 w5 (.cells #[.int .i64 r.1, .int .i64 r.2.1.n, .int .i64 r.2.1.i, .int .i64 r.2.1.s, .int .i64 r.2.1.m, .bool r.2.2] 41)
    replace H0 := hid (H0.out.below hA)
    replace X0 := hid (X0.out.below hA)
    replace VB := hid (var_below hA VB.out)
    replace VW := hid (var_below hA VW.out)
    replace BB := hid (BB.out.trans (hA.mono BB.out.size))
    clear hA
    obtain ⟨vw_0, vw_1, vw_2, vw_3, vw_4, vw_5⟩ := r6_facts VW.out
    obtain ⟨vg_0, vg_1, vg_2, vg_3, vg_4, vg_5⟩ := r6_facts VG.out
    go_wp2_with fail
    clear vw_0 vg_0 vw_1 vg_1 vw_2 vg_2 vw_3 vg_3 vw_4 vg_4 vw_5 vg_5
    generalize w5.alloc (.cells #[.int .i64 r.1, .int .i64 r.2.1.n, .int .i64 r.2.1.i, .int .i64 r.2.1.s, .int .i64 r.2.1.m, .bool r.2.2] 41) = w6 at *
    refine (eqCR r _).mono ?_
    rintro e w7 ⟨rfl, hB⟩
    replace H0 := hid (H0.out.below hB)
    replace X0 := hid (X0.out.below hB)
    replace VB := hid (var_below hB VB.out)
    replace VW := hid (var_below hB VW.out)
    replace VG := hid (var_below hB VG.out)
    replace BB := hid (BB.out.trans (hB.mono BB.out.size))
    clear hB
    go_wp2_with fail
    refine (toCS _ cs0 _ H0.out kl0).mono ?_
    rintro e w8 ⟨gY, rfl, hO, hB⟩
    have Y := hid hO.rd
    clear hO
    replace H0 := hid (H0.out.below hB)
    replace X0 := hid (X0.out.below hB)
    replace VB := hid (var_below hB VB.out)
    replace VW := hid (var_below hB VW.out)
    replace VG := hid (var_below hB VG.out)
    replace BB := hid (BB.out.trans (hB.mono BB.out.size))
    clear hB
    go_wp2_with fail
    refine (eqCS _ _ cs0 _ X0.out Y.out kl0).mono ?_
    rintro e w9 ⟨rfl, hB⟩
    replace H0 := hid (H0.out.below hB)
    replace X0 := hid (X0.out.below hB)
    replace Y := hid (Y.out.below hB)
    replace VB := hid (var_below hB VB.out)
    replace VW := hid (var_below hB VW.out)
    replace VG := hid (var_below hB VG.out)
    replace BB := hid (BB.out.trans (hB.mono BB.out.size))
    clear hB
    go_wp2
    go_ret
    exact ⟨rfl, BB.out⟩
end Go.Proofs.Ytbleikbmnkjbeap.W

namespace Go.Proofs.Ytbleikbmnkjbeap.W
open Go.RowKit Go.ChangeShapes Go.WideShapes Go.ChangeAt Go.Deep Go.Joins
open Go.Proofs.Ytbleikbmnkjbeap.M

theorem four_of {α : Type} {l : List α} (h : l.length = 4) : ∃ a b c d, l = [a, b, c, d] := by
  match l, h with
  | [a, b, c, d], _ => exact ⟨a, b, c, d, rfl⟩
theorem cel1 : Try.prog.cellsOf 2 = 1 := by kernel_rfl
theorem cel4 : Try.prog.cellsOf 38 = 4 := by kernel_rfl
theorem int_one {H : Type} {enc : TypeId × Value → H} {w : World} {base : Nat} {spare : Nat → Bool} {held : Bool} {n : Nat} {v : Value} {y : DataW H × List MemPlace} (h : DataW.trod enc Try.prog w base spare held n 2 [v] = some y) : ∃ k : Int, v = .int .i64 k ∧ (Lit.int .i64 k).wf = true := by
  obtain ⟨k, e, -, q⟩ := DataW.trod_int Try.underlying2 h
  simp only [List.cons.injEq, and_true] at e
  exact ⟨k, e, q⟩
set_option maxRecDepth 100000 in
theorem cells_claim {H : Type} {enc : TypeId × Value → H} {w : World} {base : Nat} {spare : Nat → Bool} {held : Bool} {fuel : Nat} {L : List Value} {x : DataW H × List MemPlace} (h : DataW.trod enc Try.prog w base spare held fuel 38 L = some x) :
    ∃ c : Clm, L = crow c := by
  obtain ⟨xs, n, -, -, hl, hx, hf⟩ := DataW.trod_struct Try.underlying38 h
  obtain ⟨a, b, c, d, rfl⟩ := four_of (hl.trans cel4)
  obtain ⟨y0, y1, y2, y3, rfl⟩ := four_of hx
  have g0 := hf 0 _ rfl
  have g1 := hf 1 _ rfl
  have g2 := hf 2 _ rfl
  have g3 := hf 3 _ rfl
  simp [cel1] at g0 g1 g2 g3
  obtain ⟨a, rfl, -⟩ := int_one g0
  obtain ⟨b, rfl, -⟩ := int_one g1
  obtain ⟨c, rfl, -⟩ := int_one g2
  obtain ⟨d, rfl, -⟩ := int_one g3
  exact ⟨⟨a, b, c, d⟩, rfl⟩
theorem rdC_of {H : Type} {enc : TypeId × Value → H} {w : World} {fuel : Nat} {v : Value} {x : DataW H × List MemPlace}
    (h : DataW.trod enc Try.prog w 0 (fun _ => true) true fuel 46 [v] = some x) : ∃ cs, RdC w v cs := by
  rcases open_slice Try.underlying46 h with ⟨e, -⟩ | ⟨a, len, cap, m, n, D, Pl, e, -, hl, hm, hmm, -, hx⟩
  · simp only [List.cons.injEq, and_true] at e
    subst e
    exact ⟨[], RdC.nil w⟩
  · simp only [List.cons.injEq, and_true] at e
    subst e
    simp only [if_true] at hmm
    subst hmm
    have each : ∀ i, ∃ c : Clm, i < m → (∀ t x, (crow c)[t]? = some x → w.cell? (a.add (i * 4 + t)) = some x) := by
      intro i
      by_cases hlt : i < m
      · obtain ⟨cs', h1, h2⟩ := hx i hlt
        rw [cel4] at h1
        obtain ⟨c, e⟩ := cells_claim h2
        obtain ⟨_, hlen, hcell⟩ := World.cells?_some h1
        refine ⟨c, fun _ t x q => ?_⟩
        have ht := lt4 q
        have e0 := hcell t (by omega)
        rw [add_add] at e0
        rw [e0, e]
        exact q
      · exact ⟨⟨0, 0, 0, 0⟩, fun h => absurd h hlt⟩
    obtain ⟨f, hf⟩ := Classical.axiomOfChoice each
    have hlen : ((List.range len).map f).length = len := by simp
    refine ⟨(List.range len).map f, some a, m, by rw [hlen], by omega, hm, fun i hi => ?_⟩
    rw [hlen] at hi
    have q1 := hf i (by omega)
    obtain ⟨b, o, spot⟩ := a
    have hspot : spot = none := by simpa [Addr.add] using World.cell?_spot ((hf 0 (by omega)) 0 _ rfl)
    subst hspot
    refine ⟨b, o, rfl, fun t x q => ?_⟩
    have := q1 t x (by simpa using q)
    rw [Addr.add_lit] at this
    rw [Nat.add_assoc]
    exact this
end Go.Proofs.Ytbleikbmnkjbeap.W

namespace Go.Proofs.Ytbleikbmnkjbeap.W
open Go.RowKit Go.ChangeShapes Go.WideShapes Go.ChangeAt Go.Deep Go.Joins
open Go.Proofs.Ytbleikbmnkjbeap.M

theorem seven_of {α : Type} {l : List α} (h : l.length = 7) : ∃ a b c d e f g, l = [a, b, c, d, e, f, g] := by
  match l, h with
  | [a, b, c, d, e, f, g], _ => exact ⟨a, b, c, d, e, f, g, rfl⟩
theorem celj1 : Try.prog.cellsOf 2 = 1 := by kernel_rfl
theorem cel7 : Try.prog.cellsOf 54 = 7 := by kernel_rfl
theorem intj_one {H : Type} {enc : TypeId × Value → H} {w : World} {base : Nat} {spare : Nat → Bool} {held : Bool} {n : Nat} {v : Value} {y : DataW H × List MemPlace} (h : DataW.trod enc Try.prog w base spare held n 2 [v] = some y) : ∃ k : Int, v = .int .i64 k ∧ (Lit.int .i64 k).wf = true := by
  obtain ⟨k, e, -, q⟩ := DataW.trod_int Try.underlying2 h
  simp only [List.cons.injEq, and_true] at e
  exact ⟨k, e, q⟩
set_option maxRecDepth 100000 in
theorem cells_wait {H : Type} {enc : TypeId × Value → H} {w : World} {base : Nat} {spare : Nat → Bool} {held : Bool} {fuel : Nat} {L : List Value} {x : DataW H × List MemPlace} (h : DataW.trod enc Try.prog w base spare held fuel 54 L = some x) :
    ∃ c : Wai, L = jrow c := by
  obtain ⟨xs, n, -, -, hl, hx, hf⟩ := DataW.trod_struct Try.underlying54 h
  obtain ⟨a, b, c, d, e, f, g, rfl⟩ := seven_of (hl.trans cel7)
  obtain ⟨y0, y1, y2, y3, y4, y5, y6, rfl⟩ := seven_of hx
  have g0 := hf 0 _ rfl
  have g1 := hf 1 _ rfl
  have g2 := hf 2 _ rfl
  have g3 := hf 3 _ rfl
  have g4 := hf 4 _ rfl
  have g5 := hf 5 _ rfl
  have g6 := hf 6 _ rfl
  simp [celj1] at g0 g1 g2 g3 g4 g5 g6
  obtain ⟨a, rfl, -⟩ := intj_one g0
  obtain ⟨b, rfl, -⟩ := intj_one g1
  obtain ⟨c, rfl, -⟩ := intj_one g2
  obtain ⟨d, rfl, -⟩ := intj_one g3
  obtain ⟨e, rfl, -⟩ := intj_one g4
  obtain ⟨f, rfl, -⟩ := intj_one g5
  obtain ⟨g, rfl, -⟩ := intj_one g6
  exact ⟨⟨a, b, c, d, e, f, g⟩, rfl⟩
theorem rdJ_of {H : Type} {enc : TypeId × Value → H} {w : World} {fuel : Nat} {v : Value} {x : DataW H × List MemPlace}
    (h : DataW.trod enc Try.prog w 0 (fun _ => true) true fuel 22 [v] = some x) : ∃ cs, RdJ w v cs := by
  rcases open_slice Try.underlying22 h with ⟨e, -⟩ | ⟨a, len, cap, m, n, D, Pl, e, -, hl, hm, hmm, -, hx⟩
  · simp only [List.cons.injEq, and_true] at e
    subst e
    exact ⟨[], RdJ.nil w⟩
  · simp only [List.cons.injEq, and_true] at e
    subst e
    simp only [if_true] at hmm
    subst hmm
    have each : ∀ i, ∃ c : Wai, i < m → (∀ t x, (jrow c)[t]? = some x → w.cell? (a.add (i * 7 + t)) = some x) := by
      intro i
      by_cases hlt : i < m
      · obtain ⟨cs', h1, h2⟩ := hx i hlt
        rw [cel7] at h1
        obtain ⟨c, e⟩ := cells_wait h2
        obtain ⟨_, hlen, hcell⟩ := World.cells?_some h1
        refine ⟨c, fun _ t x q => ?_⟩
        have ht := lt7 q
        have e0 := hcell t (by omega)
        rw [add_add] at e0
        rw [e0, e]
        exact q
      · exact ⟨⟨0, 0, 0, 0, 0, 0, 0⟩, fun h => absurd h hlt⟩
    obtain ⟨f, hf⟩ := Classical.axiomOfChoice each
    have hlen : ((List.range len).map f).length = len := by simp
    refine ⟨(List.range len).map f, some a, m, by rw [hlen], by omega, hm, fun i hi => ?_⟩
    rw [hlen] at hi
    have q1 := hf i (by omega)
    obtain ⟨b, o, spot⟩ := a
    have hspot : spot = none := by simpa [Addr.add] using World.cell?_spot ((hf 0 (by omega)) 0 _ rfl)
    subst hspot
    refine ⟨b, o, rfl, fun t x q => ?_⟩
    have := q1 t x (by simpa using q)
    rw [Addr.add_lit] at this
    rw [Nat.add_assoc]
    exact this
set_option maxRecDepth 100000 in
/-- A wait that came in. -/
theorem open_wait {H : Type} {enc : TypeId × Value → H} {W : World} {r : Reach} {b0 : Nat} {v : Value} {d : DataW H} {p : List MemPlace} (hv : Value.okWide Try.prog W r b0 54 v) (h : DataW.Trod enc Try.prog W 0 (fun _ => true) true 54 v d p) :
    ∃ a b c d e f g : Int, v = .agg #[.int .i64 a, .int .i64 b, .int .i64 c, .int .i64 d, .int .i64 e, .int .i64 f, .int .i64 g] ∧ (Lit.int .i64 a).wf = true ∧ (Lit.int .i64 b).wf = true ∧ (Lit.int .i64 c).wf = true ∧ (Lit.int .i64 d).wf = true ∧ (Lit.int .i64 e).wf = true ∧ (Lit.int .i64 f).wf = true ∧ (Lit.int .i64 g).wf = true := by
  obtain ⟨L, rfl, -⟩ := okWide_struct Try.underlying54 hv
  obtain ⟨fuel, h⟩ := h
  obtain ⟨xs, n, -, -, hl, hx, hf⟩ := DataW.trod_struct Try.underlying54 h
  obtain ⟨L⟩ := L
  simp only [Value.cells] at hl hf
  obtain ⟨a, b, c, d, e, f, g, rfl⟩ := seven_of (hl.trans cel7)
  obtain ⟨y0, y1, y2, y3, y4, y5, y6, rfl⟩ := seven_of hx
  have g0 := hf 0 _ rfl
  have g1 := hf 1 _ rfl
  have g2 := hf 2 _ rfl
  have g3 := hf 3 _ rfl
  have g4 := hf 4 _ rfl
  have g5 := hf 5 _ rfl
  have g6 := hf 6 _ rfl
  simp [celj1] at g0 g1 g2 g3 g4 g5 g6
  obtain ⟨a, rfl, w0⟩ := intj_one g0
  obtain ⟨b, rfl, w1⟩ := intj_one g1
  obtain ⟨c, rfl, w2⟩ := intj_one g2
  obtain ⟨d, rfl, w3⟩ := intj_one g3
  obtain ⟨e, rfl, w4⟩ := intj_one g4
  obtain ⟨f, rfl, w5⟩ := intj_one g5
  obtain ⟨g, rfl, w6⟩ := intj_one g6
  exact ⟨a, b, c, d, e, f, g, rfl, w0, w1, w2, w3, w4, w5, w6⟩
end Go.Proofs.Ytbleikbmnkjbeap.W
