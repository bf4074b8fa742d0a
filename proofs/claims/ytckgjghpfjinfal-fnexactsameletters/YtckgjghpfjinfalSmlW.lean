/-
  Two letters that are the same: what the model's and the program's SameLetters answer.
-/
import Derived.Test.YtckgjghpfjinfalSameWalks
import Derived.Test.YtckgjghpfjinfalHolW
import Derived.Test.YtckgjghpfjinfalLetF
import Derived.Laws.StructEq
namespace Go.Proofs.Ytckgjghpfjinfal.W
open Go.ChangeShapes Go.WideShapes Go.ChangeAt Go.RowKit
open Go.Proofs.Ytckgjghpfjinfal.M

theorem ne3 {k s c k' s' c' : Int} (h : ¬ (k = k' ∧ s = s' ∧ c = c')) : (¬ s = s') ∨ (s = s' ∧ ¬ c = c') ∨ (s = s' ∧ c = c' ∧ ¬ k = k') := by
  by_cases h1 : s = s'
  · by_cases h2 : c = c'
    · exact .inr (.inr ⟨h1, h2, fun q => h ⟨q, h1, h2⟩⟩)
    · exact .inr (.inl ⟨h1, h2⟩)
  · exact .inl h1
theorem guard_head : Try.prog.eqGuardType Try.prog.depth 35 = false := by kernel_rfl
set_option maxHeartbeats 2000000 in
set_option maxRecDepth 100000 in
theorem ssml (k s c k' s' c' : Int) (va vb : Value) (la lb : List Nat) (w : World) (ha : Rd w va la) (hb : Rd w vb lb) (t : Bool) (ht : (k = k' ∧ s = s' ∧ c = c' ∧ t = sameS la lb) ∨ (¬ (k = k' ∧ s = s' ∧ c = c') ∧ t = false)) :
    Calls Try.prog 5 #[.agg #[.int .i64 k, .int .i64 s, .int .i64 c, va], .agg #[.int .i64 k', .int .i64 s', .int .i64 c', vb]] w fun e w' => e = .returned (.bool t) ∧ Below w.heap.size w w' := by
  have HA := hid ha
  have HB := hid hb
  obtain ⟨a, ca, rfl, -, -, -⟩ := ha.parts
  obtain ⟨b, cb, rfl, -, -, -⟩ := hb.parts
  clear ha hb
  rcases ht with ⟨rfl, rfl, rfl, rfl⟩ | ⟨hn, rfl⟩
  · have y0 := conv _ la _ (HA.out.below (below_alloc2 w (.cells #[.int .i64 k, .int .i64 s, .int .i64 c, .slice a la.length ca] 27) (.cells #[.int .i64 k, .int .i64 s, .int .i64 c, .slice b lb.length cb] 27)))
    have y1 := conv _ lb _ (HB.out.below (below_alloc2 w (.cells #[.int .i64 k, .int .i64 s, .int .i64 c, .slice a la.length ca] 27) (.cells #[.int .i64 k, .int .i64 s, .int .i64 c, .slice b lb.length cb] 27)))
    go_enter Try.func5, Try.ntmps5
    go_wp2
    go_ret
    exact ⟨rfl, below_alloc2 w _ _⟩
  · by_cases h1 : k = k'
    · subst h1
      by_cases h2 : s = s'
      · subst h2
        have h3 : ¬ c = c' := fun q => hn ⟨rfl, rfl, q⟩
        replace hn := hid hn
        go_enter Try.func5, Try.ntmps5
        go_wp2
        go_ret
        exact ⟨rfl, below_alloc2 w _ _⟩
      · replace hn := hid hn
        go_enter Try.func5, Try.ntmps5
        go_wp2
        go_ret
        exact ⟨rfl, below_alloc2 w _ _⟩
    · replace hn := hid hn
      go_enter Try.func5, Try.ntmps5
      go_wp2
      go_ret
      exact ⟨rfl, below_alloc2 w _ _⟩
set_option maxHeartbeats 2000000 in
set_option maxRecDepth 100000 in
theorem isml (k s c k' s' c' : Int) (va vb : Value) (la lb : List Nat) (w : World) (ha : Rd w va la) (hb : Rd w vb lb) (t : Bool) (ht : (k = k' ∧ s = s' ∧ c = c' ∧ t = sameS la lb) ∨ (¬ (k = k' ∧ s = s' ∧ c = c') ∧ t = false)) :
    Calls Try.prog 7 #[.agg #[.int .i64 k, .int .i64 s, .int .i64 c, va], .agg #[.int .i64 k', .int .i64 s', .int .i64 c', vb]] w fun e w' => e = .returned (.bool t) ∧ Below w.heap.size w w' := by
  have HA := hid ha
  have HB := hid hb
  obtain ⟨a, ca, rfl, -, -, -⟩ := ha.parts
  obtain ⟨b, cb, rfl, -, -, -⟩ := hb.parts
  clear ha hb
  rcases ht with ⟨rfl, rfl, rfl, rfl⟩ | ⟨hn, rfl⟩
  · go_enter Try.func7, Try.ntmps7
    go_wp2_with fail
    have VA := hid (heap_alloc2_old w (.cells #[.int .i64 k, .int .i64 s, .int .i64 c, .slice a la.length ca] 27) (.cells #[.int .i64 k, .int .i64 s, .int .i64 c, .slice b lb.length cb] 27))
    have VB := hid (heap_alloc2_new w (.cells #[.int .i64 k, .int .i64 s, .int .i64 c, .slice a la.length ca] 27) (.cells #[.int .i64 k, .int .i64 s, .int .i64 c, .slice b lb.length cb] 27))
    have BB := hid (below_alloc2 w (.cells #[.int .i64 k, .int .i64 s, .int .i64 c, .slice a la.length ca] 27) (.cells #[.int .i64 k, .int .i64 s, .int .i64 c, .slice b lb.length cb] 27))
    replace HA := hid (HA.out.below BB.out)
    replace HB := hid (HB.out.below BB.out)
    generalize (w.alloc (.cells #[.int .i64 k, .int .i64 s, .int .i64 c, .slice a la.length ca] 27)).alloc (.cells #[.int .i64 k, .int .i64 s, .int .i64 c, .slice b lb.length cb] 27) = w0 at *
    generalize w.heap.size + 1 = gb at *
    obtain ⟨ga, hga⟩ : ∃ g, g = w.heap.size := ⟨_, rfl⟩
    rw [← hga] at VA ⊢
    clear hga
    obtain ⟨⟨a0, a1, a2, a3⟩, -⟩ := var4_facts VA.out
    obtain ⟨⟨b0, b1, b2, b3⟩, -⟩ := var4_facts VB.out
    refine wp_region_held_drew (S := fun w' => Below w0.heap.size w0 w') (by kernel_rfl) (Below.refl _ _).drew (fun hH => ?_)
    refine wpAnyH_take (i := 0) (v := .agg #[.int .i64 k, .int .i64 s, .int .i64 c, .slice a la.length ca]) (by simp only [List.getElem?_toArray, List.getElem?_cons_zero]; rfl) (by kernel_rfl) (by kernel_rfl) (by kernel_rfl) (by intro _ _ _ h; exact h) (Or.inl ⟨by rfl, fun w hS => by (have y0 := cell_kept hS a0; have y1 := cell_kept hS a1; have y2 := cell_kept hS a2; have y3 := cell_kept hS a3; go_simp)⟩) hH ?_
    simp only [Act.put, List.setIfInBounds_toArray, List.set_cons_zero, List.set_cons_succ]
    refine wpAnyH_take (i := 2) (v := .agg #[.int .i64 k, .int .i64 s, .int .i64 c, .slice b lb.length cb]) (by simp only [List.getElem?_toArray, List.getElem?_cons_succ, List.getElem?_cons_zero]; rfl) (by kernel_rfl) (by kernel_rfl) (by kernel_rfl) (by intro _ _ _ h; exact h) (Or.inl ⟨by rfl, fun w hS => by (have y0 := cell_kept hS b0; have y1 := cell_kept hS b1; have y2 := cell_kept hS b2; have y3 := cell_kept hS b3; go_simp)⟩) hH ?_
    simp only [Act.put, List.setIfInBounds_toArray, List.set_cons_zero, List.set_cons_succ]
    refine wpAnyH_ready (rs := [1]) (by kernel_rfl) (by simp) ?_
    refine AllReadyH.cons (by simp only [List.getElem?_toArray, List.getElem?_cons_succ, List.getElem?_cons_zero]; rfl) (fun K hK => ?_) AllReadyH.nil
    go_simp
    refine (ihol _ _ _ _ _ _ _).mono ?_
    rintro e x1 ⟨rfl, hM⟩
    refine hK.out _ _ (hH.trans (hM.mono hH.size)) (fun hH => ?_)
    clear hK K
    clear hM
    refine wpAnyH_ready (rs := [3]) (by kernel_rfl) (by simp) ?_
    refine AllReadyH.cons (by simp only [List.getElem?_toArray, List.getElem?_cons_succ, List.getElem?_cons_zero]; rfl) (fun K hK => ?_) AllReadyH.nil
    go_simp
    refine (ihol _ _ _ _ _ _ _).mono ?_
    rintro e x3 ⟨rfl, hM⟩
    refine hK.out _ _ (hH.trans (hM.mono hH.size)) (fun hH => ?_)
    clear hK K
    clear hM
    refine wpAnyH_take (i := 4) (v := .bool true) (by simp only [List.getElem?_toArray, List.getElem?_cons_succ, List.getElem?_cons_zero]; rfl) (by kernel_rfl) (by kernel_rfl) (by kernel_rfl) (by intro _ _ _ h; exact h) (Or.inl ⟨by rfl, fun w hS => by (have y1 := guard_head; go_simp)⟩) hH ?_
    simp only [Act.put, List.setIfInBounds_toArray, List.set_cons_zero, List.set_cons_succ]
    refine wpAnyH_take (i := 5) (v := .bool true) (by simp only [List.getElem?_toArray, List.getElem?_cons_succ, List.getElem?_cons_zero]; rfl) (by kernel_rfl) (by kernel_rfl) (by kernel_rfl) (by intro _ _ _ h; exact h) (Or.inl ⟨by rfl, fun w hS => by go_simp⟩) hH ?_
    simp only [Act.put, List.setIfInBounds_toArray, List.set_cons_zero, List.set_cons_succ]
    refine wpAnyH_take (i := 6) (v := .pointer (some ⟨ga, 3, none⟩)) (by simp only [List.getElem?_toArray, List.getElem?_cons_succ, List.getElem?_cons_zero]; rfl) (by kernel_rfl) (by kernel_rfl) (by kernel_rfl) (by intro _ _ _ h; exact h) (Or.inl ⟨by rfl, fun w hS => by go_simp⟩) hH ?_
    simp only [Act.put, List.setIfInBounds_toArray, List.set_cons_zero, List.set_cons_succ]
    refine wpAnyH_take (i := 7) (v := .slice a la.length ca) (by simp only [List.getElem?_toArray, List.getElem?_cons_succ, List.getElem?_cons_zero]; rfl) (by kernel_rfl) (by kernel_rfl) (by kernel_rfl) (by intro _ _ _ h; exact h) (Or.inl ⟨by rfl, fun w hS => by (have y0 := cell_kept hS a3; go_simp)⟩) hH ?_
    simp only [Act.put, List.setIfInBounds_toArray, List.set_cons_zero, List.set_cons_succ]
    refine wpAnyH_take (i := 8) (v := .pointer (some ⟨gb, 3, none⟩)) (by simp only [List.getElem?_toArray, List.getElem?_cons_succ, List.getElem?_cons_zero]; rfl) (by kernel_rfl) (by kernel_rfl) (by kernel_rfl) (by intro _ _ _ h; exact h) (Or.inl ⟨by rfl, fun w hS => by go_simp⟩) hH ?_
    simp only [Act.put, List.setIfInBounds_toArray, List.set_cons_zero, List.set_cons_succ]
    refine wpAnyH_take (i := 9) (v := .slice b lb.length cb) (by simp only [List.getElem?_toArray, List.getElem?_cons_succ, List.getElem?_cons_zero]; rfl) (by kernel_rfl) (by kernel_rfl) (by kernel_rfl) (by intro _ _ _ h; exact h) (Or.inl ⟨by rfl, fun w hS => by (have y0 := cell_kept hS b3; go_simp)⟩) hH ?_
    simp only [Act.put, List.setIfInBounds_toArray, List.set_cons_zero, List.set_cons_succ]
    refine wpAnyH_ready (rs := [10]) (by kernel_rfl) (by simp) ?_
    refine AllReadyH.cons (by simp only [List.getElem?_toArray, List.getElem?_cons_succ, List.getElem?_cons_zero]; rfl) (fun K hK => ?_) AllReadyH.nil
    go_simp
    refine (samei _ _ la lb _ (HA.out.below hH) (HB.out.below hH)).mono ?_
    rintro e x10 ⟨rfl, rfl⟩
    refine hK.out _ _ hH (fun hH => ?_)
    clear hK K
    refine wpAnyH_take (i := 11) (v := .bool (sameS la lb)) (by simp only [List.getElem?_toArray, List.getElem?_cons_succ, List.getElem?_cons_zero]; rfl) (by kernel_rfl) (by kernel_rfl) (by kernel_rfl) (by intro _ _ _ h; exact h) (Or.inl ⟨by rfl, fun w hS => by go_simp⟩) hH ?_
    simp only [Act.put, List.setIfInBounds_toArray, List.set_cons_zero, List.set_cons_succ]
    refine wpAnyH_take (i := 12) (v := .bool (sameS la lb)) (by simp only [List.getElem?_toArray, List.getElem?_cons_succ, List.getElem?_cons_zero]; rfl) (by kernel_rfl) (by kernel_rfl) (by kernel_rfl) (by intro _ _ _ h; exact h) (Or.inl ⟨by rfl, fun w hS => by go_simp⟩) hH ?_
    simp only [Act.put, List.setIfInBounds_toArray, List.set_cons_zero, List.set_cons_succ]
    refine wpAnyH_done (by kernel_rfl) ?_ _
    have BZ := hid (BB.out.trans (hH.mono BB.out.size))
    clear hH a0 a1 a2 a3 b0 b1 b2 b3
    go_wp2
    go_ret
    exact ⟨rfl, BZ.out⟩
  · replace hn := hid hn
    go_enter Try.func7, Try.ntmps7
    go_wp2_with fail
    have VA := hid (heap_alloc2_old w (.cells #[.int .i64 k, .int .i64 s, .int .i64 c, .slice a la.length ca] 27) (.cells #[.int .i64 k', .int .i64 s', .int .i64 c', .slice b lb.length cb] 27))
    have VB := hid (heap_alloc2_new w (.cells #[.int .i64 k, .int .i64 s, .int .i64 c, .slice a la.length ca] 27) (.cells #[.int .i64 k', .int .i64 s', .int .i64 c', .slice b lb.length cb] 27))
    have BB := hid (below_alloc2 w (.cells #[.int .i64 k, .int .i64 s, .int .i64 c, .slice a la.length ca] 27) (.cells #[.int .i64 k', .int .i64 s', .int .i64 c', .slice b lb.length cb] 27))
    replace HA := hid (HA.out.below BB.out)
    replace HB := hid (HB.out.below BB.out)
    generalize (w.alloc (.cells #[.int .i64 k, .int .i64 s, .int .i64 c, .slice a la.length ca] 27)).alloc (.cells #[.int .i64 k', .int .i64 s', .int .i64 c', .slice b lb.length cb] 27) = w0 at *
    generalize w.heap.size + 1 = gb at *
    obtain ⟨ga, hga⟩ : ∃ g, g = w.heap.size := ⟨_, rfl⟩
    rw [← hga] at VA ⊢
    clear hga
    obtain ⟨⟨a0, a1, a2, a3⟩, -⟩ := var4_facts VA.out
    obtain ⟨⟨b0, b1, b2, b3⟩, -⟩ := var4_facts VB.out
    refine wp_region_held_drew (S := fun w' => Below w0.heap.size w0 w') (by kernel_rfl) (Below.refl _ _).drew (fun hH => ?_)
    refine wpAnyH_take (i := 0) (v := .agg #[.int .i64 k, .int .i64 s, .int .i64 c, .slice a la.length ca]) (by simp only [List.getElem?_toArray, List.getElem?_cons_zero]; rfl) (by kernel_rfl) (by kernel_rfl) (by kernel_rfl) (by intro _ _ _ h; exact h) (Or.inl ⟨by rfl, fun w hS => by (have y0 := cell_kept hS a0; have y1 := cell_kept hS a1; have y2 := cell_kept hS a2; have y3 := cell_kept hS a3; go_simp)⟩) hH ?_
    simp only [Act.put, List.setIfInBounds_toArray, List.set_cons_zero, List.set_cons_succ]
    refine wpAnyH_take (i := 2) (v := .agg #[.int .i64 k', .int .i64 s', .int .i64 c', .slice b lb.length cb]) (by simp only [List.getElem?_toArray, List.getElem?_cons_succ, List.getElem?_cons_zero]; rfl) (by kernel_rfl) (by kernel_rfl) (by kernel_rfl) (by intro _ _ _ h; exact h) (Or.inl ⟨by rfl, fun w hS => by (have y0 := cell_kept hS b0; have y1 := cell_kept hS b1; have y2 := cell_kept hS b2; have y3 := cell_kept hS b3; go_simp)⟩) hH ?_
    simp only [Act.put, List.setIfInBounds_toArray, List.set_cons_zero, List.set_cons_succ]
    refine wpAnyH_ready (rs := [1]) (by kernel_rfl) (by simp) ?_
    refine AllReadyH.cons (by simp only [List.getElem?_toArray, List.getElem?_cons_succ, List.getElem?_cons_zero]; rfl) (fun K hK => ?_) AllReadyH.nil
    go_simp
    refine (ihol _ _ _ _ _ _ _).mono ?_
    rintro e x1 ⟨rfl, hM⟩
    refine hK.out _ _ (hH.trans (hM.mono hH.size)) (fun hH => ?_)
    clear hK K
    clear hM
    refine wpAnyH_ready (rs := [3]) (by kernel_rfl) (by simp) ?_
    refine AllReadyH.cons (by simp only [List.getElem?_toArray, List.getElem?_cons_succ, List.getElem?_cons_zero]; rfl) (fun K hK => ?_) AllReadyH.nil
    go_simp
    refine (ihol _ _ _ _ _ _ _).mono ?_
    rintro e x3 ⟨rfl, hM⟩
    refine hK.out _ _ (hH.trans (hM.mono hH.size)) (fun hH => ?_)
    clear hK K
    clear hM
    refine wpAnyH_take (i := 4) (v := .bool false) (by simp only [List.getElem?_toArray, List.getElem?_cons_succ, List.getElem?_cons_zero]; rfl) (by kernel_rfl) (by kernel_rfl) (by kernel_rfl) (by intro _ _ _ h; exact h) (Or.inl ⟨by rfl, fun w hS => by (have y1 := guard_head; rcases ne3 hn.out with h | ⟨rfl, h⟩ | ⟨rfl, rfl, h⟩ <;> go_simp)⟩) hH ?_
    simp only [Act.put, List.setIfInBounds_toArray, List.set_cons_zero, List.set_cons_succ]
    refine wpAnyH_take (i := 5) (v := .bool false) (by simp only [List.getElem?_toArray, List.getElem?_cons_succ, List.getElem?_cons_zero]; rfl) (by kernel_rfl) (by kernel_rfl) (by kernel_rfl) (by intro _ _ _ h; exact h) (Or.inl ⟨by rfl, fun w hS => by go_simp⟩) hH ?_
    simp only [Act.put, List.setIfInBounds_toArray, List.set_cons_zero, List.set_cons_succ]
    refine wpAnyH_take (i := 6) (v := undef) (by simp only [List.getElem?_toArray, List.getElem?_cons_succ, List.getElem?_cons_zero]; rfl) (by kernel_rfl) (by kernel_rfl) (by kernel_rfl) (by intro _ _ _ h; exact h) (Or.inr ⟨by rfl, rfl⟩) hH ?_
    simp only [Act.put, List.setIfInBounds_toArray, List.set_cons_zero, List.set_cons_succ]
    refine wpAnyH_take (i := 7) (v := undef) (by simp only [List.getElem?_toArray, List.getElem?_cons_succ, List.getElem?_cons_zero]; rfl) (by kernel_rfl) (by kernel_rfl) (by kernel_rfl) (by intro _ _ _ h; exact h) (Or.inr ⟨by rfl, rfl⟩) hH ?_
    simp only [Act.put, List.setIfInBounds_toArray, List.set_cons_zero, List.set_cons_succ]
    refine wpAnyH_take (i := 8) (v := undef) (by simp only [List.getElem?_toArray, List.getElem?_cons_succ, List.getElem?_cons_zero]; rfl) (by kernel_rfl) (by kernel_rfl) (by kernel_rfl) (by intro _ _ _ h; exact h) (Or.inr ⟨by rfl, rfl⟩) hH ?_
    simp only [Act.put, List.setIfInBounds_toArray, List.set_cons_zero, List.set_cons_succ]
    refine wpAnyH_take (i := 9) (v := undef) (by simp only [List.getElem?_toArray, List.getElem?_cons_succ, List.getElem?_cons_zero]; rfl) (by kernel_rfl) (by kernel_rfl) (by kernel_rfl) (by intro _ _ _ h; exact h) (Or.inr ⟨by rfl, rfl⟩) hH ?_
    simp only [Act.put, List.setIfInBounds_toArray, List.set_cons_zero, List.set_cons_succ]
    refine wpAnyH_take (i := 10) (v := undef) (by simp only [List.getElem?_toArray, List.getElem?_cons_succ, List.getElem?_cons_zero]; rfl) (by kernel_rfl) (by kernel_rfl) (by kernel_rfl) (by intro _ _ _ h; exact h) (Or.inr ⟨by rfl, rfl⟩) hH ?_
    simp only [Act.put, List.setIfInBounds_toArray, List.set_cons_zero, List.set_cons_succ]
    refine wpAnyH_take (i := 11) (v := .bool (false)) (by simp only [List.getElem?_toArray, List.getElem?_cons_succ, List.getElem?_cons_zero]; rfl) (by kernel_rfl) (by kernel_rfl) (by kernel_rfl) (by intro _ _ _ h; exact h) (Or.inl ⟨by rfl, fun w hS => by go_simp⟩) hH ?_
    simp only [Act.put, List.setIfInBounds_toArray, List.set_cons_zero, List.set_cons_succ]
    refine wpAnyH_take (i := 12) (v := .bool (false)) (by simp only [List.getElem?_toArray, List.getElem?_cons_succ, List.getElem?_cons_zero]; rfl) (by kernel_rfl) (by kernel_rfl) (by kernel_rfl) (by intro _ _ _ h; exact h) (Or.inl ⟨by rfl, fun w hS => by go_simp⟩) hH ?_
    simp only [Act.put, List.setIfInBounds_toArray, List.set_cons_zero, List.set_cons_succ]
    refine wpAnyH_done (by kernel_rfl) ?_ _
    have BZ := hid (BB.out.trans (hH.mono BB.out.size))
    clear hH a0 a1 a2 a3 b0 b1 b2 b3
    go_wp2
    go_ret
    exact ⟨rfl, BZ.out⟩
end Go.Proofs.Ytckgjghpfjinfal.W
