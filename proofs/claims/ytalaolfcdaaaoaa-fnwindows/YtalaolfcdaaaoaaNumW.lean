/-
  Numbers of messages: whether they lie within their bounds (the program's numbersFit), and the numbers of a claim.
-/
import Derived.Test.YtalaolfcdaaaoaaMsF
import Derived.Test.YtalaolfcdaaaoaaLetF
namespace Go.Proofs.Ytalaolfcdaaaoaa.W
open Go.ChangeShapes Go.WideShapes Go.ChangeAt Go.RowKit
open Go.Proofs.Ytalaolfcdaaaoaa.M

theorem idx_nu (g n j : Nat) (hj : j < n) (w : World) : (Instr.indexAt 152 (.slice (some ⟨g, 0, none⟩) n n) (.int .i64 (j : Int))).run Try.prog w = .ok (.pointer (some ⟨g, j * 4, none⟩)) w := by
  have hs : ∀ w : World, (sizeOf (Try.prog.elem 152)).run Try.prog w = .ok 4 w := fun _ => by kernel_rfl
  rw [run_indexAt_slice (P := Try.prog) w 152 _ n n .i64 (j : Int) (by kernel_rfl)]
  simp [hs, hj, Result.andThen, Addr.add_lit]
set_option maxHeartbeats 1000000 in
set_option maxRecDepth 100000 in
theorem nfit (v : Value) (ns : List Num) (xs : List Int) (w : World) (h : RdN w v ns) (hx : Kp w ns xs) :
    Calls Try.prog 120 #[v] w fun e w' => e = .returned (.bool (fitB ns xs)) ∧ Below w.heap.size w w' := by
  have H := hid h
  have HX := hid hx
  obtain ⟨g, rfl, hl4, -⟩ := h.parts
  clear h hx
  go_enter Try.func120, Try.ntmps120
  go_wp2_with fail
  go_loopw [7] (fun i wr => ∃ k : Nat, k ≤ ns.length ∧ i = .int .i64 k ∧ Hid (∀ j (hj : j < ns.length), j < k → inB (xs.getD j 0) (ns[j]).lo (ns[j]).hi = true) ∧ Hid (Below w.heap.size w wr)) (fun i _ => ns.length - (intOf i).toNat)
  case atStart => exact ⟨0, by omega, rfl, hid (fun j _ h => absurd h (Nat.not_lt_zero j)), hid (Below.refl _ _)⟩
  case round =>
    obtain ⟨k, hk, rfl, T, BL⟩ := hrel
    by_cases hlt : k < ns.length
    · obtain ⟨g', e, -, -, hcs⟩ := (H.out.below BL.out).parts
      cases e
      obtain ⟨q0, q1, q2, q3⟩ := hcs k hlt
      have q4 := (HX.out.below BL.out).2 k hlt
      have I1 := idx_nu g ns.length k hlt
      have k0 : (0 : Int) ≤ (k : Int) := by omega
      have k1 : (k : Int) < (ns.length : Int) := by omega
      have hd := hid (show ∀ W : World, inB (xs.getD k 0) (ns[k]).lo (ns[k]).hi = inB (xs.getD k 0) (ns[k]).lo (ns[k]).hi from fun _ => rfl)
      obtain ⟨N, hN⟩ : ∃ N, N = ns[k] := ⟨_, rfl⟩
      rw [← hN] at q0 q1 q2 q3 q4
      obtain ⟨xv, hX⟩ : ∃ x, x = xs.getD k 0 := ⟨_, rfl⟩
      rw [← hX] at q4
      replace hN := hid hN
      replace hX := hid hX
      clear hcs hd
      go_wp2_with fail
      have V := hid (heap_alloc_new wr (.cells #[.pointer (some ⟨N.b, N.o, none⟩), .int .i64 N.sz, .int .i64 N.lo, .int .i64 N.hi] 174))
      have BA := below_alloc1 wr (.cells #[.pointer (some ⟨N.b, N.o, none⟩), .int .i64 N.sz, .int .i64 N.lo, .int .i64 N.hi] 174)
      replace q4 := cell_kept BA q4
      replace BL := hid (BL.out.trans (BA.mono BL.out.size))
      generalize wr.alloc (.cells #[.pointer (some ⟨N.b, N.o, none⟩), .int .i64 N.sz, .int .i64 N.lo, .int .i64 N.hi] 174) = w0 at *
      obtain ⟨ga, hga⟩ : ∃ ga, ga = wr.heap.size := ⟨_, rfl⟩
      rw [← hga] at V ⊢
      clear q0 q1 q2 q3 BA hga I1
      obtain ⟨⟨f0, f1, f2, f3⟩, -⟩ := var4_facts V.out
      go_wp2_with fail
      refine wp_region_held_drew (S := fun w' => Below w0.heap.size w0 w') (by kernel_rfl) (Below.refl _ _).drew (fun hH => ?_)
      generalize w0.drew = x at hH ⊢
      refine wpAnyH_take (i := 0) (v := .pointer (some ⟨ga, 0, none⟩)) (by simp only [List.getElem?_toArray, List.getElem?_cons_zero]; rfl) (by kernel_rfl) (by kernel_rfl) (by kernel_rfl) (by intro _ _ _ h; exact h) (Or.inl ⟨by rfl, fun w hS => by go_simp⟩) hH ?_
      simp only [Act.put, List.setIfInBounds_toArray, List.set_cons_zero, List.set_cons_succ]
      refine wpAnyH_take (i := 1) (v := .pointer (some ⟨N.b, N.o, none⟩)) (by simp only [List.getElem?_toArray, List.getElem?_cons_succ, List.getElem?_cons_zero]; rfl) (by kernel_rfl) (by kernel_rfl) (by kernel_rfl) (by intro _ _ _ h; exact h) (Or.inl ⟨by rfl, fun w hS => by (have y0 := cell_kept hS f0; go_simp)⟩) hH ?_
      simp only [Act.put, List.setIfInBounds_toArray, List.set_cons_zero, List.set_cons_succ]
      refine wpAnyH_take (i := 2) (v := .pointer (some ⟨N.b, N.o, none⟩)) (by simp only [List.getElem?_toArray, List.getElem?_cons_succ, List.getElem?_cons_zero]; rfl) (by kernel_rfl) (by kernel_rfl) (by kernel_rfl) (by intro _ _ _ h; exact h) (Or.inl ⟨by rfl, fun w hS => by go_simp⟩) hH ?_
      simp only [Act.put, List.setIfInBounds_toArray, List.set_cons_zero, List.set_cons_succ]
      refine wpAnyH_take (i := 3) (v := .int .i64 xv) (by simp only [List.getElem?_toArray, List.getElem?_cons_succ, List.getElem?_cons_zero]; rfl) (by kernel_rfl) (by kernel_rfl) (by kernel_rfl) (by intro _ _ _ h; exact h) (Or.inl ⟨by rfl, fun w hS => by (have y0 := cell_kept hS q4; go_simp)⟩) hH ?_
      simp only [Act.put, List.setIfInBounds_toArray, List.set_cons_zero, List.set_cons_succ]
      refine wpAnyH_take (i := 4) (v := .pointer (some ⟨ga, 2, none⟩)) (by simp only [List.getElem?_toArray, List.getElem?_cons_succ, List.getElem?_cons_zero]; rfl) (by kernel_rfl) (by kernel_rfl) (by kernel_rfl) (by intro _ _ _ h; exact h) (Or.inl ⟨by rfl, fun w hS => by go_simp⟩) hH ?_
      simp only [Act.put, List.setIfInBounds_toArray, List.set_cons_zero, List.set_cons_succ]
      refine wpAnyH_take (i := 5) (v := .int .i64 N.lo) (by simp only [List.getElem?_toArray, List.getElem?_cons_succ, List.getElem?_cons_zero]; rfl) (by kernel_rfl) (by kernel_rfl) (by kernel_rfl) (by intro _ _ _ h; exact h) (Or.inl ⟨by rfl, fun w hS => by (have y0 := cell_kept hS f2; go_simp)⟩) hH ?_
      simp only [Act.put, List.setIfInBounds_toArray, List.set_cons_zero, List.set_cons_succ]
      refine wpAnyH_take (i := 6) (v := .pointer (some ⟨ga, 3, none⟩)) (by simp only [List.getElem?_toArray, List.getElem?_cons_succ, List.getElem?_cons_zero]; rfl) (by kernel_rfl) (by kernel_rfl) (by kernel_rfl) (by intro _ _ _ h; exact h) (Or.inl ⟨by rfl, fun w hS => by go_simp⟩) hH ?_
      simp only [Act.put, List.setIfInBounds_toArray, List.set_cons_zero, List.set_cons_succ]
      refine wpAnyH_take (i := 7) (v := .int .i64 N.hi) (by simp only [List.getElem?_toArray, List.getElem?_cons_succ, List.getElem?_cons_zero]; rfl) (by kernel_rfl) (by kernel_rfl) (by kernel_rfl) (by intro _ _ _ h; exact h) (Or.inl ⟨by rfl, fun w hS => by (have y0 := cell_kept hS f3; go_simp)⟩) hH ?_
      simp only [Act.put, List.setIfInBounds_toArray, List.set_cons_zero, List.set_cons_succ]
      refine wpAnyH_take (i := 8) (v := .agg #[.int .i64 xv, .int .i64 N.lo, .int .i64 N.hi]) (by simp only [List.getElem?_toArray, List.getElem?_cons_succ, List.getElem?_cons_zero]; rfl) (by kernel_rfl) (by kernel_rfl) (by kernel_rfl) (by intro _ _ _ h; exact h) (Or.inl ⟨by rfl, fun w hS => by go_simp⟩) hH ?_
      simp only [Act.put, List.setIfInBounds_toArray, List.set_cons_zero, List.set_cons_succ]
      refine wpAnyH_ready (rs := [9]) (by kernel_rfl) (by simp) ?_
      refine AllReadyH.cons (by simp only [List.getElem?_toArray, List.getElem?_cons_succ, List.getElem?_cons_zero]; rfl) (fun K hK => ?_) AllReadyH.nil
      go_simp
      have hM := below_alloc1 x (.cells #[.int .i64 xv, .int .i64 N.lo, .int .i64 N.hi] 100)
      have VS := hid (heap_alloc_new x (.cells #[.int .i64 xv, .int .i64 N.lo, .int .i64 N.hi] 100))
      refine hK.out _ _ (hH.alloc hH.size _) (fun hH => ?_)
      clear hK K hM
      generalize x.alloc (.cells #[.int .i64 xv, .int .i64 N.lo, .int .i64 N.hi] 100) = x9 at *
      refine wpAnyH_ready (rs := [10]) (by kernel_rfl) (by simp) ?_
      refine AllReadyH.cons (by simp only [List.getElem?_toArray, List.getElem?_cons_succ, List.getElem?_cons_zero]; rfl) (fun K hK => ?_) AllReadyH.nil
      go_simp
      refine (within1 _ _ _ _ _ VS.out).mono ?_
      rintro e x10 ⟨rfl, hM⟩
      have SB := hid hH.size
      refine hK.out _ _ (hH.trans (hM.mono hH.size)) (fun hH => ?_)
      clear hK K
      replace VS := hid (var_below hM VS.out)
      clear hM SB
      refine wpAnyH_take (i := 11) (v := .bool (!inB xv N.lo N.hi)) (by simp only [List.getElem?_toArray, List.getElem?_cons_succ, List.getElem?_cons_zero]; rfl) (by kernel_rfl) (by kernel_rfl) (by kernel_rfl) (by intro _ _ _ h; exact h) (Or.inl ⟨by rfl, fun w hS => by go_simp⟩) hH ?_
      simp only [Act.put, List.setIfInBounds_toArray, List.set_cons_zero, List.set_cons_succ]
      refine wpAnyH_done (by kernel_rfl) ?_ _
      have hB := hH
      clear hH
      try clear VS
      obtain ⟨t, ht⟩ : ∃ t, t = inB xv N.lo N.hi := ⟨_, rfl⟩
      rw [← ht]
      replace ht := hid ht
      replace BL := hid (BL.out.trans (hB.mono BL.out.size))
      clear hB f0 f1 f2 f3 q4 V
      cases t
      · have E := hid (show fitB ns xs = false from fit_no k hlt (by rw [← hX.out, ← hN.out]; exact ht.out.symm))
        go_wp2
        go_ret
        exact ⟨ret_b E.out.symm, BL.out⟩
      · have T2 := hid (show ∀ j (hj : j < ns.length), j < k + 1 → inB (xs.getD j 0) (ns[j]).lo (ns[j]).hi = true from fun j hj hjk => by
          rcases Nat.lt_or_ge j k with q | q
          · exact T.out j hj q
          · obtain rfl : j = k := by omega
            rw [← hX.out, ← hN.out]
            exact ht.out.symm)
        clear T
        go_wp2
        go_roundw
        case rel => exact ⟨k + 1, hlt, by go_num, T2, BL⟩
        case measure => simp [intOf]; omega
    · have hke : k = ns.length := by omega
      have E := hid (show fitB ns xs = true from fit_yes fun j hj => T.out j hj (by omega))
      subst hke
      clear T
      go_wp2
      go_ret
      exact ⟨ret_b E.out.symm, BL.out⟩
end Go.Proofs.Ytalaolfcdaaaoaa.W
