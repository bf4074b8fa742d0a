/-
  The exact law of RefuteBy, out of the contracts of its callees. Generated text.
-/
import Derived.Test.YtbleikbmnkjbeapCrJ
import Derived.Test.YtbleikbmnkjbeapCrE
import Derived.Test.YtbleikbmnkjbeapClfT
import Derived.Test.YtbleikbmnkjbeapSteps
namespace Go.Proofs.Ytbleikbmnkjbeap.W
open Go.ChangeShapes Go.WideShapes Go.ChangeAt Go.RowKit
open Go.Proofs.Ytbleikbmnkjbeap.M

theorem split2 {A B : Type} {P F : A → B → Prop} {G : Prop} (main : (∀ a b, F a b → P a b) → G) (leaf : ∀ a b, F a b → P a b) : G := main leaf
set_option maxHeartbeats 8000000 in
set_option maxRecDepth 100000 in
theorem law_RefuteBy (c0 c1 : Clm) (w : World) :
    Calls Try.prog 6 #[.agg #[.int .i64 c0.n, .int .i64 c0.i, .int .i64 c0.s, .int .i64 c0.m], .agg #[.int .i64 c1.n, .int .i64 c1.i, .int .i64 c1.s, .int .i64 c1.m]] w fun e w' => e = .returned (.bool true) ∧ Below w.heap.size w w' := by
  obtain ⟨r, hr⟩ : ∃ r, r = rfA c0 c1 := ⟨_, rfl⟩
  have SR := hid (fun w : World => show Calls Try.prog 22 #[.agg #[.int .i64 c0.n, .int .i64 c0.i, .int .i64 c0.s, .int .i64 c0.m], .agg #[.int .i64 c1.n, .int .i64 c1.i, .int .i64 c1.s, .int .i64 c1.m]] w fun e w' => e = .returned (.agg #[.int .i64 r.1, .int .i64 r.2.1.n, .int .i64 r.2.1.i, .int .i64 r.2.1.s, .int .i64 r.2.1.m, .bool r.2.2]) ∧ Below w.heap.size w w' by rw [hr]; exact sref c0 c1 w)
  have IR := hid (fun w : World => show Calls Try.prog 24 #[.agg #[.int .i64 c0.n, .int .i64 c0.i, .int .i64 c0.s, .int .i64 c0.m], .agg #[.int .i64 c1.n, .int .i64 c1.i, .int .i64 c1.s, .int .i64 c1.m]] w fun e w' => e = .returned (.agg #[.int .i64 r.1, .int .i64 r.2.1.n, .int .i64 r.2.1.i, .int .i64 r.2.1.s, .int .i64 r.2.1.m, .bool r.2.2]) ∧ Below w.heap.size w w' by rw [hr]; exact iref c0 c1 w)
  clear hr
  have VA := hid (var_alloc (.cells #[.int .i64 c1.n, .int .i64 c1.i, .int .i64 c1.s, .int .i64 c1.m] 38) (heap_alloc_new w (.cells #[.int .i64 c0.n, .int .i64 c0.i, .int .i64 c0.s, .int .i64 c0.m] 38)))
  have VC := hid (heap_alloc_new (w.alloc (.cells #[.int .i64 c0.n, .int .i64 c0.i, .int .i64 c0.s, .int .i64 c0.m] 38)) (.cells #[.int .i64 c1.n, .int .i64 c1.i, .int .i64 c1.s, .int .i64 c1.m] 38))
  simp only [World.size_alloc] at VC
  have BB := hid (below_alloc2 w (.cells #[.int .i64 c0.n, .int .i64 c0.i, .int .i64 c0.s, .int .i64 c0.m] 38) (.cells #[.int .i64 c1.n, .int .i64 c1.i, .int .i64 c1.s, .int .i64 c1.m] 38))
  go_enter Try.func6, Try.ntmps6
  go_wp2_with fail
  generalize (w.alloc (.cells #[.int .i64 c0.n, .int .i64 c0.i, .int .i64 c0.s, .int .i64 c0.m] 38)).alloc (.cells #[.int .i64 c1.n, .int .i64 c1.i, .int .i64 c1.s, .int .i64 c1.m] 38) = w0 at *
  obtain ⟨gc, hgc⟩ : ∃ g, g = w.heap.size + 1 := ⟨_, rfl⟩
  rw [← hgc] at VC ⊢
  obtain ⟨ga, hga⟩ : ∃ g, g = w.heap.size := ⟨_, rfl⟩
  rw [← hga] at VA ⊢
  replace hgc := hid hgc
  replace hga := hid hga
  obtain ⟨⟨a0, a1, a2, a3⟩, -⟩ := var4_factsC VA.out
  obtain ⟨⟨b0, b1, b2, b3⟩, -⟩ := var4_factsC VC.out
  apply split2 (F := fun (gz : Nat) (x : World) => x.heap[gz]? = some (.cells #[.int .i64 r.1, .int .i64 r.2.1.n, .int .i64 r.2.1.i, .int .i64 r.2.1.s, .int .i64 r.2.1.m, .bool r.2.2] 41) ∧ Below w0.heap.size w0 x)
  case main =>
    intro leaf
    refine wp_region_held_drew (S := fun w' => Below w0.heap.size w0 w') (by kernel_rfl) (Below.refl _ _).drew (fun hH => ?_)
    generalize w0.drew = x at hH ⊢
    refine wpAnyH_take (i := 0) (v := .agg #[.int .i64 c0.n, .int .i64 c0.i, .int .i64 c0.s, .int .i64 c0.m]) (by simp only [List.getElem?_toArray, List.getElem?_cons_zero]; rfl) (by kernel_rfl) (by kernel_rfl) (by kernel_rfl) (by intro _ _ _ h; exact h) (Or.inl ⟨by rfl, fun w hS => by (have y0 := cell_kept hS a0; have y1 := cell_kept hS a1; have y2 := cell_kept hS a2; have y3 := cell_kept hS a3; go_simp)⟩) hH ?_
    simp only [Act.put, List.setIfInBounds_toArray, List.set_cons_zero, List.set_cons_succ]
    refine wpAnyH_take (i := 2) (v := .agg #[.int .i64 c1.n, .int .i64 c1.i, .int .i64 c1.s, .int .i64 c1.m]) (by simp only [List.getElem?_toArray, List.getElem?_cons_succ, List.getElem?_cons_zero]; rfl) (by kernel_rfl) (by kernel_rfl) (by kernel_rfl) (by intro _ _ _ h; exact h) (Or.inl ⟨by rfl, fun w hS => by (have y0 := cell_kept hS b0; have y1 := cell_kept hS b1; have y2 := cell_kept hS b2; have y3 := cell_kept hS b3; go_simp)⟩) hH ?_
    simp only [Act.put, List.setIfInBounds_toArray, List.set_cons_zero, List.set_cons_succ]
    refine wpAnyH_ready (rs := [1, 5]) (by kernel_rfl) (by simp) ?_
    refine AllReadyH.cons (by simp only [List.getElem?_toArray, List.getElem?_cons_succ, List.getElem?_cons_zero]; rfl) (fun K hK => ?_) ?_
    · go_simp
      refine (tocl _ _ _ _ _).mono ?_
      rintro e x1 ⟨rfl, hM⟩
      refine hK.out _ _ (hH.trans (hM.mono hH.size)) (fun hH => ?_)
      clear hK K
      clear hM
      refine wpAnyH_ready (rs := [3, 5]) (by kernel_rfl) (by simp) ?_
      refine AllReadyH.cons (by simp only [List.getElem?_toArray, List.getElem?_cons_succ, List.getElem?_cons_zero]; rfl) (fun K hK => ?_) ?_
      · go_simp
        refine (tocl _ _ _ _ _).mono ?_
        rintro e x3 ⟨rfl, hM⟩
        refine hK.out _ _ (hH.trans (hM.mono hH.size)) (fun hH => ?_)
        clear hK K
        clear hM
        refine wpAnyH_ready (rs := [4, 5]) (by kernel_rfl) (by simp) ?_
        refine AllReadyH.cons (by simp only [List.getElem?_toArray, List.getElem?_cons_succ, List.getElem?_cons_zero]; rfl) (fun K hK => ?_) ?_
        · go_simp
          refine (SR.out _).mono ?_
          rintro e x4 ⟨rfl, hM⟩
          refine hK.out _ _ (hH.trans (hM.mono hH.size)) (fun hH => ?_)
          clear hK K
          clear hM
          refine wpAnyH_ready (rs := [5]) (by kernel_rfl) (by simp) ?_
          refine AllReadyH.cons (by simp only [List.getElem?_toArray, List.getElem?_cons_succ, List.getElem?_cons_zero]; rfl) (fun K hK => ?_) AllReadyH.nil
          go_simp
          have hM := below_alloc1 x4 (.cells #[.int .i64 0, .int .i64 0, .int .i64 0, .int .i64 0, .int .i64 0, .bool false] 41)
          have LZ := hid hH.size
          have VZ := hid (heap_alloc_new x4 (.cells #[.int .i64 0, .int .i64 0, .int .i64 0, .int .i64 0, .int .i64 0, .bool false] 41))
          refine hK.out _ _ (hH.alloc hH.size _) (fun hH => ?_)
          clear hK K hM
          generalize x4.alloc (.cells #[.int .i64 0, .int .i64 0, .int .i64 0, .int .i64 0, .int .i64 0, .bool false] 41) = y3 at *
          obtain ⟨gz, hgz⟩ : ∃ g, g = x4.heap.size := ⟨_, rfl⟩
          rw [← hgz] at VZ LZ ⊢
          clear hgz
          refine wpAnyH_ready (rs := [6]) (by kernel_rfl) (by simp) ?_
          refine AllReadyH.cons (by simp only [List.getElem?_toArray, List.getElem?_cons_succ, List.getElem?_cons_zero]; rfl) (fun K hK => ?_) AllReadyH.nil
          refine step_store_row (by rfl) _ _ _ (by rfl) gz #[.int .i64 r.1, .int .i64 r.2.1.n, .int .i64 r.2.1.i, .int .i64 r.2.1.s, .int .i64 r.2.1.m, .bool r.2.2] (by rfl) (by rfl) 41 _ VZ.out (cr_info _ rfl) rfl (cr_one _ _ _ _ _ _) ?_
          have VE := hid (cr_row (new := #[.int .i64 r.1, .int .i64 r.2.1.n, .int .i64 r.2.1.i, .int .i64 r.2.1.s, .int .i64 r.2.1.m, .bool r.2.2]) VZ.out)
          refine hK.out _ _ (hH.grown (cr_grown _ gz #[.int .i64 r.1, .int .i64 r.2.1.n, .int .i64 r.2.1.i, .int .i64 r.2.1.s, .int .i64 r.2.1.m, .bool r.2.2]) hH.size (fun b e => by cases e; exact LZ.out)) (fun hH => ?_)
          clear hK K VZ
          generalize y3.setRow gz #[.int .i64 r.1, .int .i64 r.2.1.n, .int .i64 r.2.1.i, .int .i64 r.2.1.s, .int .i64 r.2.1.m, .bool r.2.2] = xE at *
          refine wpAnyH_done (by kernel_rfl) ?_ _
          exact leaf gz xE ⟨VE.out, hH⟩
        refine AllReadyH.cons (by simp only [List.getElem?_toArray, List.getElem?_cons_succ, List.getElem?_cons_zero]; rfl) (fun K hK => ?_) ?_
        · go_simp
          have hM := below_alloc1 x3 (.cells #[.int .i64 0, .int .i64 0, .int .i64 0, .int .i64 0, .int .i64 0, .bool false] 41)
          have LZ := hid hH.size
          have VZ := hid (heap_alloc_new x3 (.cells #[.int .i64 0, .int .i64 0, .int .i64 0, .int .i64 0, .int .i64 0, .bool false] 41))
          refine hK.out _ _ (hH.alloc hH.size _) (fun hH => ?_)
          clear hK K hM
          generalize x3.alloc (.cells #[.int .i64 0, .int .i64 0, .int .i64 0, .int .i64 0, .int .i64 0, .bool false] 41) = y2 at *
          obtain ⟨gz, hgz⟩ : ∃ g, g = x3.heap.size := ⟨_, rfl⟩
          rw [← hgz] at VZ LZ ⊢
          clear hgz
          refine wpAnyH_ready (rs := [4]) (by kernel_rfl) (by simp) ?_
          refine AllReadyH.cons (by simp only [List.getElem?_toArray, List.getElem?_cons_succ, List.getElem?_cons_zero]; rfl) (fun K hK => ?_) AllReadyH.nil
          go_simp
          refine (SR.out _).mono ?_
          rintro e x4 ⟨rfl, hM⟩
          refine hK.out _ _ (hH.trans (hM.mono hH.size)) (fun hH => ?_)
          clear hK K
          replace VZ := hid (var_below hM VZ.out)
          clear hM
          refine wpAnyH_ready (rs := [6]) (by kernel_rfl) (by simp) ?_
          refine AllReadyH.cons (by simp only [List.getElem?_toArray, List.getElem?_cons_succ, List.getElem?_cons_zero]; rfl) (fun K hK => ?_) AllReadyH.nil
          refine step_store_row (by rfl) _ _ _ (by rfl) gz #[.int .i64 r.1, .int .i64 r.2.1.n, .int .i64 r.2.1.i, .int .i64 r.2.1.s, .int .i64 r.2.1.m, .bool r.2.2] (by rfl) (by rfl) 41 _ VZ.out (cr_info _ rfl) rfl (cr_one _ _ _ _ _ _) ?_
          have VE := hid (cr_row (new := #[.int .i64 r.1, .int .i64 r.2.1.n, .int .i64 r.2.1.i, .int .i64 r.2.1.s, .int .i64 r.2.1.m, .bool r.2.2]) VZ.out)
          refine hK.out _ _ (hH.grown (cr_grown _ gz #[.int .i64 r.1, .int .i64 r.2.1.n, .int .i64 r.2.1.i, .int .i64 r.2.1.s, .int .i64 r.2.1.m, .bool r.2.2]) hH.size (fun b e => by cases e; exact LZ.out)) (fun hH => ?_)
          clear hK K VZ
          generalize x4.setRow gz #[.int .i64 r.1, .int .i64 r.2.1.n, .int .i64 r.2.1.i, .int .i64 r.2.1.s, .int .i64 r.2.1.m, .bool r.2.2] = xE at *
          refine wpAnyH_done (by kernel_rfl) ?_ _
          exact leaf gz xE ⟨VE.out, hH⟩
        exact AllReadyH.nil
      refine AllReadyH.cons (by simp only [List.getElem?_toArray, List.getElem?_cons_succ, List.getElem?_cons_zero]; rfl) (fun K hK => ?_) ?_
      · go_simp
        have hM := below_alloc1 x1 (.cells #[.int .i64 0, .int .i64 0, .int .i64 0, .int .i64 0, .int .i64 0, .bool false] 41)
        have LZ := hid hH.size
        have VZ := hid (heap_alloc_new x1 (.cells #[.int .i64 0, .int .i64 0, .int .i64 0, .int .i64 0, .int .i64 0, .bool false] 41))
        refine hK.out _ _ (hH.alloc hH.size _) (fun hH => ?_)
        clear hK K hM
        generalize x1.alloc (.cells #[.int .i64 0, .int .i64 0, .int .i64 0, .int .i64 0, .int .i64 0, .bool false] 41) = y1 at *
        obtain ⟨gz, hgz⟩ : ∃ g, g = x1.heap.size := ⟨_, rfl⟩
        rw [← hgz] at VZ LZ ⊢
        clear hgz
        refine wpAnyH_ready (rs := [3]) (by kernel_rfl) (by simp) ?_
        refine AllReadyH.cons (by simp only [List.getElem?_toArray, List.getElem?_cons_succ, List.getElem?_cons_zero]; rfl) (fun K hK => ?_) AllReadyH.nil
        go_simp
        refine (tocl _ _ _ _ _).mono ?_
        rintro e x3 ⟨rfl, hM⟩
        refine hK.out _ _ (hH.trans (hM.mono hH.size)) (fun hH => ?_)
        clear hK K
        replace VZ := hid (var_below hM VZ.out)
        clear hM
        refine wpAnyH_ready (rs := [4]) (by kernel_rfl) (by simp) ?_
        refine AllReadyH.cons (by simp only [List.getElem?_toArray, List.getElem?_cons_succ, List.getElem?_cons_zero]; rfl) (fun K hK => ?_) AllReadyH.nil
        go_simp
        refine (SR.out _).mono ?_
        rintro e x4 ⟨rfl, hM⟩
        refine hK.out _ _ (hH.trans (hM.mono hH.size)) (fun hH => ?_)
        clear hK K
        replace VZ := hid (var_below hM VZ.out)
        clear hM
        refine wpAnyH_ready (rs := [6]) (by kernel_rfl) (by simp) ?_
        refine AllReadyH.cons (by simp only [List.getElem?_toArray, List.getElem?_cons_succ, List.getElem?_cons_zero]; rfl) (fun K hK => ?_) AllReadyH.nil
        refine step_store_row (by rfl) _ _ _ (by rfl) gz #[.int .i64 r.1, .int .i64 r.2.1.n, .int .i64 r.2.1.i, .int .i64 r.2.1.s, .int .i64 r.2.1.m, .bool r.2.2] (by rfl) (by rfl) 41 _ VZ.out (cr_info _ rfl) rfl (cr_one _ _ _ _ _ _) ?_
        have VE := hid (cr_row (new := #[.int .i64 r.1, .int .i64 r.2.1.n, .int .i64 r.2.1.i, .int .i64 r.2.1.s, .int .i64 r.2.1.m, .bool r.2.2]) VZ.out)
        refine hK.out _ _ (hH.grown (cr_grown _ gz #[.int .i64 r.1, .int .i64 r.2.1.n, .int .i64 r.2.1.i, .int .i64 r.2.1.s, .int .i64 r.2.1.m, .bool r.2.2]) hH.size (fun b e => by cases e; exact LZ.out)) (fun hH => ?_)
        clear hK K VZ
        generalize x4.setRow gz #[.int .i64 r.1, .int .i64 r.2.1.n, .int .i64 r.2.1.i, .int .i64 r.2.1.s, .int .i64 r.2.1.m, .bool r.2.2] = xE at *
        refine wpAnyH_done (by kernel_rfl) ?_ _
        exact leaf gz xE ⟨VE.out, hH⟩
      exact AllReadyH.nil
    refine AllReadyH.cons (by simp only [List.getElem?_toArray, List.getElem?_cons_succ, List.getElem?_cons_zero]; rfl) (fun K hK => ?_) ?_
    · go_simp
      have hM := below_alloc1 x (.cells #[.int .i64 0, .int .i64 0, .int .i64 0, .int .i64 0, .int .i64 0, .bool false] 41)
      have LZ := hid hH.size
      have VZ := hid (heap_alloc_new x (.cells #[.int .i64 0, .int .i64 0, .int .i64 0, .int .i64 0, .int .i64 0, .bool false] 41))
      refine hK.out _ _ (hH.alloc hH.size _) (fun hH => ?_)
      clear hK K hM
      generalize x.alloc (.cells #[.int .i64 0, .int .i64 0, .int .i64 0, .int .i64 0, .int .i64 0, .bool false] 41) = y0 at *
      obtain ⟨gz, hgz⟩ : ∃ g, g = x.heap.size := ⟨_, rfl⟩
      rw [← hgz] at VZ LZ ⊢
      clear hgz
      refine wpAnyH_ready (rs := [1]) (by kernel_rfl) (by simp) ?_
      refine AllReadyH.cons (by simp only [List.getElem?_toArray, List.getElem?_cons_succ, List.getElem?_cons_zero]; rfl) (fun K hK => ?_) AllReadyH.nil
      go_simp
      refine (tocl _ _ _ _ _).mono ?_
      rintro e x1 ⟨rfl, hM⟩
      refine hK.out _ _ (hH.trans (hM.mono hH.size)) (fun hH => ?_)
      clear hK K
      replace VZ := hid (var_below hM VZ.out)
      clear hM
      refine wpAnyH_ready (rs := [3]) (by kernel_rfl) (by simp) ?_
      refine AllReadyH.cons (by simp only [List.getElem?_toArray, List.getElem?_cons_succ, List.getElem?_cons_zero]; rfl) (fun K hK => ?_) AllReadyH.nil
      go_simp
      refine (tocl _ _ _ _ _).mono ?_
      rintro e x3 ⟨rfl, hM⟩
      refine hK.out _ _ (hH.trans (hM.mono hH.size)) (fun hH => ?_)
      clear hK K
      replace VZ := hid (var_below hM VZ.out)
      clear hM
      refine wpAnyH_ready (rs := [4]) (by kernel_rfl) (by simp) ?_
      refine AllReadyH.cons (by simp only [List.getElem?_toArray, List.getElem?_cons_succ, List.getElem?_cons_zero]; rfl) (fun K hK => ?_) AllReadyH.nil
      go_simp
      refine (SR.out _).mono ?_
      rintro e x4 ⟨rfl, hM⟩
      refine hK.out _ _ (hH.trans (hM.mono hH.size)) (fun hH => ?_)
      clear hK K
      replace VZ := hid (var_below hM VZ.out)
      clear hM
      refine wpAnyH_ready (rs := [6]) (by kernel_rfl) (by simp) ?_
      refine AllReadyH.cons (by simp only [List.getElem?_toArray, List.getElem?_cons_succ, List.getElem?_cons_zero]; rfl) (fun K hK => ?_) AllReadyH.nil
      refine step_store_row (by rfl) _ _ _ (by rfl) gz #[.int .i64 r.1, .int .i64 r.2.1.n, .int .i64 r.2.1.i, .int .i64 r.2.1.s, .int .i64 r.2.1.m, .bool r.2.2] (by rfl) (by rfl) 41 _ VZ.out (cr_info _ rfl) rfl (cr_one _ _ _ _ _ _) ?_
      have VE := hid (cr_row (new := #[.int .i64 r.1, .int .i64 r.2.1.n, .int .i64 r.2.1.i, .int .i64 r.2.1.s, .int .i64 r.2.1.m, .bool r.2.2]) VZ.out)
      refine hK.out _ _ (hH.grown (cr_grown _ gz #[.int .i64 r.1, .int .i64 r.2.1.n, .int .i64 r.2.1.i, .int .i64 r.2.1.s, .int .i64 r.2.1.m, .bool r.2.2]) hH.size (fun b e => by cases e; exact LZ.out)) (fun hH => ?_)
      clear hK K VZ
      generalize x4.setRow gz #[.int .i64 r.1, .int .i64 r.2.1.n, .int .i64 r.2.1.i, .int .i64 r.2.1.s, .int .i64 r.2.1.m, .bool r.2.2] = xE at *
      refine wpAnyH_done (by kernel_rfl) ?_ _
      exact leaf gz xE ⟨VE.out, hH⟩
    exact AllReadyH.nil
  case leaf =>
    intro gVW w1 ⟨hV, hB⟩
    have VW := hid hV
    clear hV a0 a1 a2 a3 b0 b1 b2 b3
    replace VA := hid (var_below hB VA.out)
    replace VC := hid (var_below hB VC.out)
    replace BB := hid (BB.out.trans (hB.mono BB.out.size))
    clear hB
    go_wp2_with fail
    obtain ⟨⟨a0, a1, a2, a3⟩, -⟩ := var4_factsC VA.out
    obtain ⟨⟨b0, b1, b2, b3⟩, -⟩ := var4_factsC VC.out
    apply split2 (F := fun (gz : Nat) (x : World) => x.heap[gz]? = some (.cells #[.int .i64 r.1, .int .i64 r.2.1.n, .int .i64 r.2.1.i, .int .i64 r.2.1.s, .int .i64 r.2.1.m, .bool r.2.2] 41) ∧ Below w1.heap.size w1 x)
    case main =>
      intro leaf
      refine wp_region_held_drew (S := fun w' => Below w1.heap.size w1 w') (by kernel_rfl) (Below.refl _ _).drew (fun hH => ?_)
      generalize w1.drew = x at hH ⊢
      refine wpAnyH_take (i := 0) (v := .agg #[.int .i64 c0.n, .int .i64 c0.i, .int .i64 c0.s, .int .i64 c0.m]) (by simp only [List.getElem?_toArray, List.getElem?_cons_zero]; rfl) (by kernel_rfl) (by kernel_rfl) (by kernel_rfl) (by intro _ _ _ h; exact h) (Or.inl ⟨by rfl, fun w hS => by (have y0 := cell_kept hS a0; have y1 := cell_kept hS a1; have y2 := cell_kept hS a2; have y3 := cell_kept hS a3; go_simp)⟩) hH ?_
      simp only [Act.put, List.setIfInBounds_toArray, List.set_cons_zero, List.set_cons_succ]
      refine wpAnyH_take (i := 2) (v := .agg #[.int .i64 c1.n, .int .i64 c1.i, .int .i64 c1.s, .int .i64 c1.m]) (by simp only [List.getElem?_toArray, List.getElem?_cons_succ, List.getElem?_cons_zero]; rfl) (by kernel_rfl) (by kernel_rfl) (by kernel_rfl) (by intro _ _ _ h; exact h) (Or.inl ⟨by rfl, fun w hS => by (have y0 := cell_kept hS b0; have y1 := cell_kept hS b1; have y2 := cell_kept hS b2; have y3 := cell_kept hS b3; go_simp)⟩) hH ?_
      simp only [Act.put, List.setIfInBounds_toArray, List.set_cons_zero, List.set_cons_succ]
      refine wpAnyH_ready (rs := [1, 5]) (by kernel_rfl) (by simp) ?_
      refine AllReadyH.cons (by simp only [List.getElem?_toArray, List.getElem?_cons_succ, List.getElem?_cons_zero]; rfl) (fun K hK => ?_) ?_
      · go_simp
        refine (tocl _ _ _ _ _).mono ?_
        rintro e x1 ⟨rfl, hM⟩
        refine hK.out _ _ (hH.trans (hM.mono hH.size)) (fun hH => ?_)
        clear hK K
        clear hM
        refine wpAnyH_ready (rs := [3, 5]) (by kernel_rfl) (by simp) ?_
        refine AllReadyH.cons (by simp only [List.getElem?_toArray, List.getElem?_cons_succ, List.getElem?_cons_zero]; rfl) (fun K hK => ?_) ?_
        · go_simp
          refine (tocl _ _ _ _ _).mono ?_
          rintro e x3 ⟨rfl, hM⟩
          refine hK.out _ _ (hH.trans (hM.mono hH.size)) (fun hH => ?_)
          clear hK K
          clear hM
          refine wpAnyH_ready (rs := [4, 5]) (by kernel_rfl) (by simp) ?_
          refine AllReadyH.cons (by simp only [List.getElem?_toArray, List.getElem?_cons_succ, List.getElem?_cons_zero]; rfl) (fun K hK => ?_) ?_
          · go_simp
            refine (IR.out _).mono ?_
            rintro e x4 ⟨rfl, hM⟩
            refine hK.out _ _ (hH.trans (hM.mono hH.size)) (fun hH => ?_)
            clear hK K
            clear hM
            refine wpAnyH_ready (rs := [5]) (by kernel_rfl) (by simp) ?_
            refine AllReadyH.cons (by simp only [List.getElem?_toArray, List.getElem?_cons_succ, List.getElem?_cons_zero]; rfl) (fun K hK => ?_) AllReadyH.nil
            go_simp
            have hM := below_alloc1 x4 (.cells #[.int .i64 0, .int .i64 0, .int .i64 0, .int .i64 0, .int .i64 0, .bool false] 41)
            have LZ := hid hH.size
            have VZ := hid (heap_alloc_new x4 (.cells #[.int .i64 0, .int .i64 0, .int .i64 0, .int .i64 0, .int .i64 0, .bool false] 41))
            refine hK.out _ _ (hH.alloc hH.size _) (fun hH => ?_)
            clear hK K hM
            generalize x4.alloc (.cells #[.int .i64 0, .int .i64 0, .int .i64 0, .int .i64 0, .int .i64 0, .bool false] 41) = y3 at *
            obtain ⟨gz, hgz⟩ : ∃ g, g = x4.heap.size := ⟨_, rfl⟩
            rw [← hgz] at VZ LZ ⊢
            clear hgz
            refine wpAnyH_ready (rs := [6]) (by kernel_rfl) (by simp) ?_
            refine AllReadyH.cons (by simp only [List.getElem?_toArray, List.getElem?_cons_succ, List.getElem?_cons_zero]; rfl) (fun K hK => ?_) AllReadyH.nil
            refine step_store_row (by rfl) _ _ _ (by rfl) gz #[.int .i64 r.1, .int .i64 r.2.1.n, .int .i64 r.2.1.i, .int .i64 r.2.1.s, .int .i64 r.2.1.m, .bool r.2.2] (by rfl) (by rfl) 41 _ VZ.out (cr_info _ rfl) rfl (cr_one _ _ _ _ _ _) ?_
            have VE := hid (cr_row (new := #[.int .i64 r.1, .int .i64 r.2.1.n, .int .i64 r.2.1.i, .int .i64 r.2.1.s, .int .i64 r.2.1.m, .bool r.2.2]) VZ.out)
            refine hK.out _ _ (hH.grown (cr_grown _ gz #[.int .i64 r.1, .int .i64 r.2.1.n, .int .i64 r.2.1.i, .int .i64 r.2.1.s, .int .i64 r.2.1.m, .bool r.2.2]) hH.size (fun b e => by cases e; exact LZ.out)) (fun hH => ?_)
            clear hK K VZ
            generalize y3.setRow gz #[.int .i64 r.1, .int .i64 r.2.1.n, .int .i64 r.2.1.i, .int .i64 r.2.1.s, .int .i64 r.2.1.m, .bool r.2.2] = xE at *
            refine wpAnyH_done (by kernel_rfl) ?_ _
            exact leaf gz xE ⟨VE.out, hH⟩
          refine AllReadyH.cons (by simp only [List.getElem?_toArray, List.getElem?_cons_succ, List.getElem?_cons_zero]; rfl) (fun K hK => ?_) ?_
          · go_simp
            have hM := below_alloc1 x3 (.cells #[.int .i64 0, .int .i64 0, .int .i64 0, .int .i64 0, .int .i64 0, .bool false] 41)
            have LZ := hid hH.size
            have VZ := hid (heap_alloc_new x3 (.cells #[.int .i64 0, .int .i64 0, .int .i64 0, .int .i64 0, .int .i64 0, .bool false] 41))
            refine hK.out _ _ (hH.alloc hH.size _) (fun hH => ?_)
            clear hK K hM
            generalize x3.alloc (.cells #[.int .i64 0, .int .i64 0, .int .i64 0, .int .i64 0, .int .i64 0, .bool false] 41) = y2 at *
            obtain ⟨gz, hgz⟩ : ∃ g, g = x3.heap.size := ⟨_, rfl⟩
            rw [← hgz] at VZ LZ ⊢
            clear hgz
            refine wpAnyH_ready (rs := [4]) (by kernel_rfl) (by simp) ?_
            refine AllReadyH.cons (by simp only [List.getElem?_toArray, List.getElem?_cons_succ, List.getElem?_cons_zero]; rfl) (fun K hK => ?_) AllReadyH.nil
            go_simp
            refine (IR.out _).mono ?_
            rintro e x4 ⟨rfl, hM⟩
            refine hK.out _ _ (hH.trans (hM.mono hH.size)) (fun hH => ?_)
            clear hK K
            replace VZ := hid (var_below hM VZ.out)
            clear hM
            refine wpAnyH_ready (rs := [6]) (by kernel_rfl) (by simp) ?_
            refine AllReadyH.cons (by simp only [List.getElem?_toArray, List.getElem?_cons_succ, List.getElem?_cons_zero]; rfl) (fun K hK => ?_) AllReadyH.nil
            refine step_store_row (by rfl) _ _ _ (by rfl) gz #[.int .i64 r.1, .int .i64 r.2.1.n, .int .i64 r.2.1.i, .int .i64 r.2.1.s, .int .i64 r.2.1.m, .bool r.2.2] (by rfl) (by rfl) 41 _ VZ.out (cr_info _ rfl) rfl (cr_one _ _ _ _ _ _) ?_
            have VE := hid (cr_row (new := #[.int .i64 r.1, .int .i64 r.2.1.n, .int .i64 r.2.1.i, .int .i64 r.2.1.s, .int .i64 r.2.1.m, .bool r.2.2]) VZ.out)
            refine hK.out _ _ (hH.grown (cr_grown _ gz #[.int .i64 r.1, .int .i64 r.2.1.n, .int .i64 r.2.1.i, .int .i64 r.2.1.s, .int .i64 r.2.1.m, .bool r.2.2]) hH.size (fun b e => by cases e; exact LZ.out)) (fun hH => ?_)
            clear hK K VZ
            generalize x4.setRow gz #[.int .i64 r.1, .int .i64 r.2.1.n, .int .i64 r.2.1.i, .int .i64 r.2.1.s, .int .i64 r.2.1.m, .bool r.2.2] = xE at *
            refine wpAnyH_done (by kernel_rfl) ?_ _
            exact leaf gz xE ⟨VE.out, hH⟩
          exact AllReadyH.nil
        refine AllReadyH.cons (by simp only [List.getElem?_toArray, List.getElem?_cons_succ, List.getElem?_cons_zero]; rfl) (fun K hK => ?_) ?_
        · go_simp
          have hM := below_alloc1 x1 (.cells #[.int .i64 0, .int .i64 0, .int .i64 0, .int .i64 0, .int .i64 0, .bool false] 41)
          have LZ := hid hH.size
          have VZ := hid (heap_alloc_new x1 (.cells #[.int .i64 0, .int .i64 0, .int .i64 0, .int .i64 0, .int .i64 0, .bool false] 41))
          refine hK.out _ _ (hH.alloc hH.size _) (fun hH => ?_)
          clear hK K hM
          generalize x1.alloc (.cells #[.int .i64 0, .int .i64 0, .int .i64 0, .int .i64 0, .int .i64 0, .bool false] 41) = y1 at *
          obtain ⟨gz, hgz⟩ : ∃ g, g = x1.heap.size := ⟨_, rfl⟩
          rw [← hgz] at VZ LZ ⊢
          clear hgz
          refine wpAnyH_ready (rs := [3]) (by kernel_rfl) (by simp) ?_
          refine AllReadyH.cons (by simp only [List.getElem?_toArray, List.getElem?_cons_succ, List.getElem?_cons_zero]; rfl) (fun K hK => ?_) AllReadyH.nil
          go_simp
          refine (tocl _ _ _ _ _).mono ?_
          rintro e x3 ⟨rfl, hM⟩
          refine hK.out _ _ (hH.trans (hM.mono hH.size)) (fun hH => ?_)
          clear hK K
          replace VZ := hid (var_below hM VZ.out)
          clear hM
          refine wpAnyH_ready (rs := [4]) (by kernel_rfl) (by simp) ?_
          refine AllReadyH.cons (by simp only [List.getElem?_toArray, List.getElem?_cons_succ, List.getElem?_cons_zero]; rfl) (fun K hK => ?_) AllReadyH.nil
          go_simp
          refine (IR.out _).mono ?_
          rintro e x4 ⟨rfl, hM⟩
          refine hK.out _ _ (hH.trans (hM.mono hH.size)) (fun hH => ?_)
          clear hK K
          replace VZ := hid (var_below hM VZ.out)
          clear hM
          refine wpAnyH_ready (rs := [6]) (by kernel_rfl) (by simp) ?_
          refine AllReadyH.cons (by simp only [List.getElem?_toArray, List.getElem?_cons_succ, List.getElem?_cons_zero]; rfl) (fun K hK => ?_) AllReadyH.nil
          refine step_store_row (by rfl) _ _ _ (by rfl) gz #[.int .i64 r.1, .int .i64 r.2.1.n, .int .i64 r.2.1.i, .int .i64 r.2.1.s, .int .i64 r.2.1.m, .bool r.2.2] (by rfl) (by rfl) 41 _ VZ.out (cr_info _ rfl) rfl (cr_one _ _ _ _ _ _) ?_
          have VE := hid (cr_row (new := #[.int .i64 r.1, .int .i64 r.2.1.n, .int .i64 r.2.1.i, .int .i64 r.2.1.s, .int .i64 r.2.1.m, .bool r.2.2]) VZ.out)
          refine hK.out _ _ (hH.grown (cr_grown _ gz #[.int .i64 r.1, .int .i64 r.2.1.n, .int .i64 r.2.1.i, .int .i64 r.2.1.s, .int .i64 r.2.1.m, .bool r.2.2]) hH.size (fun b e => by cases e; exact LZ.out)) (fun hH => ?_)
          clear hK K VZ
          generalize x4.setRow gz #[.int .i64 r.1, .int .i64 r.2.1.n, .int .i64 r.2.1.i, .int .i64 r.2.1.s, .int .i64 r.2.1.m, .bool r.2.2] = xE at *
          refine wpAnyH_done (by kernel_rfl) ?_ _
          exact leaf gz xE ⟨VE.out, hH⟩
        exact AllReadyH.nil
      refine AllReadyH.cons (by simp only [List.getElem?_toArray, List.getElem?_cons_succ, List.getElem?_cons_zero]; rfl) (fun K hK => ?_) ?_
      · go_simp
        have hM := below_alloc1 x (.cells #[.int .i64 0, .int .i64 0, .int .i64 0, .int .i64 0, .int .i64 0, .bool false] 41)
        have LZ := hid hH.size
        have VZ := hid (heap_alloc_new x (.cells #[.int .i64 0, .int .i64 0, .int .i64 0, .int .i64 0, .int .i64 0, .bool false] 41))
        refine hK.out _ _ (hH.alloc hH.size _) (fun hH => ?_)
        clear hK K hM
        generalize x.alloc (.cells #[.int .i64 0, .int .i64 0, .int .i64 0, .int .i64 0, .int .i64 0, .bool false] 41) = y0 at *
        obtain ⟨gz, hgz⟩ : ∃ g, g = x.heap.size := ⟨_, rfl⟩
        rw [← hgz] at VZ LZ ⊢
        clear hgz
        refine wpAnyH_ready (rs := [1]) (by kernel_rfl) (by simp) ?_
        refine AllReadyH.cons (by simp only [List.getElem?_toArray, List.getElem?_cons_succ, List.getElem?_cons_zero]; rfl) (fun K hK => ?_) AllReadyH.nil
        go_simp
        refine (tocl _ _ _ _ _).mono ?_
        rintro e x1 ⟨rfl, hM⟩
        refine hK.out _ _ (hH.trans (hM.mono hH.size)) (fun hH => ?_)
        clear hK K
        replace VZ := hid (var_below hM VZ.out)
        clear hM
        refine wpAnyH_ready (rs := [3]) (by kernel_rfl) (by simp) ?_
        refine AllReadyH.cons (by simp only [List.getElem?_toArray, List.getElem?_cons_succ, List.getElem?_cons_zero]; rfl) (fun K hK => ?_) AllReadyH.nil
        go_simp
        refine (tocl _ _ _ _ _).mono ?_
        rintro e x3 ⟨rfl, hM⟩
        refine hK.out _ _ (hH.trans (hM.mono hH.size)) (fun hH => ?_)
        clear hK K
        replace VZ := hid (var_below hM VZ.out)
        clear hM
        refine wpAnyH_ready (rs := [4]) (by kernel_rfl) (by simp) ?_
        refine AllReadyH.cons (by simp only [List.getElem?_toArray, List.getElem?_cons_succ, List.getElem?_cons_zero]; rfl) (fun K hK => ?_) AllReadyH.nil
        go_simp
        refine (IR.out _).mono ?_
        rintro e x4 ⟨rfl, hM⟩
        refine hK.out _ _ (hH.trans (hM.mono hH.size)) (fun hH => ?_)
        clear hK K
        replace VZ := hid (var_below hM VZ.out)
        clear hM
        refine wpAnyH_ready (rs := [6]) (by kernel_rfl) (by simp) ?_
        refine AllReadyH.cons (by simp only [List.getElem?_toArray, List.getElem?_cons_succ, List.getElem?_cons_zero]; rfl) (fun K hK => ?_) AllReadyH.nil
        refine step_store_row (by rfl) _ _ _ (by rfl) gz #[.int .i64 r.1, .int .i64 r.2.1.n, .int .i64 r.2.1.i, .int .i64 r.2.1.s, .int .i64 r.2.1.m, .bool r.2.2] (by rfl) (by rfl) 41 _ VZ.out (cr_info _ rfl) rfl (cr_one _ _ _ _ _ _) ?_
        have VE := hid (cr_row (new := #[.int .i64 r.1, .int .i64 r.2.1.n, .int .i64 r.2.1.i, .int .i64 r.2.1.s, .int .i64 r.2.1.m, .bool r.2.2]) VZ.out)
        refine hK.out _ _ (hH.grown (cr_grown _ gz #[.int .i64 r.1, .int .i64 r.2.1.n, .int .i64 r.2.1.i, .int .i64 r.2.1.s, .int .i64 r.2.1.m, .bool r.2.2]) hH.size (fun b e => by cases e; exact LZ.out)) (fun hH => ?_)
        clear hK K VZ
        generalize x4.setRow gz #[.int .i64 r.1, .int .i64 r.2.1.n, .int .i64 r.2.1.i, .int .i64 r.2.1.s, .int .i64 r.2.1.m, .bool r.2.2] = xE at *
        refine wpAnyH_done (by kernel_rfl) ?_ _
        exact leaf gz xE ⟨VE.out, hH⟩
      exact AllReadyH.nil
    case leaf =>
      intro gVG w2 ⟨hV, hB⟩
      have VG := hid hV
      clear hV a0 a1 a2 a3 b0 b1 b2 b3
      replace VA := hid (var_below hB VA.out)
      replace VC := hid (var_below hB VC.out)
      replace VW := hid (var_below hB VW.out)
      replace BB := hid (BB.out.trans (hB.mono BB.out.size))
      clear hB
      obtain ⟨u0, u1, u2, u3, u4, u5⟩ := r6_facts VW.out
      obtain ⟨t0, t1, t2, t3, t4, t5⟩ := r6_facts VG.out
      go_wp2_with fail
      clear u0 u1 u2 u3 u4 u5 t0 t1 t2 t3 t4 t5
      refine (eqCR r _).mono ?_
      rintro e w3 ⟨rfl, hB⟩
      replace BB := hid (BB.out.trans (hB.mono BB.out.size))
      clear hB
      go_wp2
      go_ret
      exact ⟨rfl, BB.out⟩
end Go.Proofs.Ytbleikbmnkjbeap.W
