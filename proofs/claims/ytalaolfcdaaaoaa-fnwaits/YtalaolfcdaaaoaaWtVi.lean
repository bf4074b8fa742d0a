/-
  The fault of a wait and of waits: what the program answers.
-/
import Derived.WalkMore
import Derived.Test.YtalaolfcdaaaoaaWtVs
import Derived.Test.YtalaolfcdaaaoaaSpnW
namespace Go.Proofs.Ytalaolfcdaaaoaa.W
open Go.ChangeShapes Go.WideShapes Go.ChangeAt Go.RowKit
open Go.Proofs.Ytalaolfcdaaaoaa.M

theorem inB4 {x : Int} (h : inB x 1 4 = true) : x = 1 ∨ x = 2 ∨ x = 3 ∨ x = 4 := by
  simp only [inB, decide_eq_true_eq] at h
  omega
theorem inB4_no {x : Int} (h1 : x ≠ 1) (h2 : x ≠ 2) (h3 : x ≠ 3) (h4 : x ≠ 4) : inB x 1 4 = false := by
  simp only [inB, decide_eq_false_iff_not]
  omega
set_option maxHeartbeats 2000000 in
set_option maxRecDepth 100000 in
theorem iwhf (a b c d e f g : Int) (w : World) :
    Calls Try.prog 86 #[.agg #[.int .i64 a, .int .i64 b, .int .i64 c, .int .i64 d, .int .i64 e, .int .i64 f, .int .i64 g]] w fun e' w' => e' = .returned (.bool (wtfB ⟨a, b, c, d, e, f, g⟩)) ∧ Below w.heap.size w w' := by
  have BB := hid (below_alloc1 w (.cells #[.int .i64 a, .int .i64 b, .int .i64 c, .int .i64 d, .int .i64 e, .int .i64 f, .int .i64 g] 63))
  by_cases h1 : a = 1
  · subst h1
    by_cases h5 : f = 0
    · subst h5
      obtain ⟨t, ht⟩ : ∃ t, t = (g == 0) := ⟨_, rfl⟩
      have E := hid (show wtfB ⟨1, b, c, d, e, 0, g⟩ = t by rw [ht]; simp [wtfB, inB])
      replace ht := hid ht
      go_enter Try.func86, Try.ntmps86
      go_wp2
      go_ret
      exact ⟨ret_wb (ht.out.symm.trans E.out.symm), BB.out⟩
    · have E := hid (show wtfB ⟨1, b, c, d, e, f, g⟩ = false by simp [wtfB, h5])
      go_enter Try.func86, Try.ntmps86
      go_wp2
      go_ret
      exact ⟨ret_wb E.out.symm, BB.out⟩
  by_cases h2 : a = 2
  · subst h2
    by_cases h5 : f = 0
    · subst h5
      obtain ⟨t, ht⟩ : ∃ t, t = (g == 0) := ⟨_, rfl⟩
      have E := hid (show wtfB ⟨2, b, c, d, e, 0, g⟩ = t by rw [ht]; simp [wtfB, inB])
      replace ht := hid ht
      clear h1
      go_enter Try.func86, Try.ntmps86
      go_wp2
      go_ret
      exact ⟨ret_wb (ht.out.symm.trans E.out.symm), BB.out⟩
    · have E := hid (show wtfB ⟨2, b, c, d, e, f, g⟩ = false by simp [wtfB, h5])
      clear h1
      go_enter Try.func86, Try.ntmps86
      go_wp2
      go_ret
      exact ⟨ret_wb E.out.symm, BB.out⟩
  by_cases h3 : a = 3
  · subst h3
    by_cases h5 : f = 0
    · subst h5
      obtain ⟨t, ht⟩ : ∃ t, t = (g == 0) := ⟨_, rfl⟩
      have E := hid (show wtfB ⟨3, b, c, d, e, 0, g⟩ = t by rw [ht]; simp [wtfB, inB])
      replace ht := hid ht
      clear h1 h2
      go_enter Try.func86, Try.ntmps86
      go_wp2
      go_ret
      exact ⟨ret_wb (ht.out.symm.trans E.out.symm), BB.out⟩
    · have E := hid (show wtfB ⟨3, b, c, d, e, f, g⟩ = false by simp [wtfB, h5])
      clear h1 h2
      go_enter Try.func86, Try.ntmps86
      go_wp2
      go_ret
      exact ⟨ret_wb E.out.symm, BB.out⟩
  have n1 : (a == 1) = false := by simp [h1]
  have n2 : (a == 2) = false := by simp [h2]
  have n3 : (a == 3) = false := by simp [h3]
  by_cases h4 : a = 4
  · subst h4
    have E := hid (show wtfB ⟨4, b, c, d, e, f, g⟩ = true by simp [wtfB, inB])
    clear h1 h2 h3 n1 n2 n3
    go_enter Try.func86, Try.ntmps86
    go_wp2
    go_ret
    exact ⟨ret_wb E.out.symm, BB.out⟩
  · have E := hid (show wtfB ⟨a, b, c, d, e, f, g⟩ = false by simp [wtfB, inB4_no h1 h2 h3 h4])
    have n4 : (a == 4) = false := by simp [h4]
    clear h1 h2 h3 h4
    go_enter Try.func86, Try.ntmps86
    go_wp2
    go_ret
    exact ⟨ret_wb E.out.symm, BB.out⟩
set_option maxHeartbeats 2000000 in
set_option maxRecDepth 100000 in
theorem iwkb (a b c d e f g : Int) (w : World) :
    Calls Try.prog 87 #[.agg #[.int .i64 a, .int .i64 b, .int .i64 c, .int .i64 d, .int .i64 e, .int .i64 f, .int .i64 g]] w fun e' w' => e' = .returned (.bool (wtbB ⟨a, b, c, d, e, f, g⟩)) ∧ Below w.heap.size w w' := by
  have BB := hid (below_alloc1 w (.cells #[.int .i64 a, .int .i64 b, .int .i64 c, .int .i64 d, .int .i64 e, .int .i64 f, .int .i64 g] 63))
  have V := hid (heap_alloc_new w (.cells #[.int .i64 a, .int .i64 b, .int .i64 c, .int .i64 d, .int .i64 e, .int .i64 f, .int .i64 g] 63))
  go_enter Try.func87, Try.ntmps87
  go_wp2_with fail
  generalize w.alloc (.cells #[.int .i64 a, .int .i64 b, .int .i64 c, .int .i64 d, .int .i64 e, .int .i64 f, .int .i64 g] 63) = w0 at *
  obtain ⟨p, hp⟩ : ∃ p, p = w.heap.size := ⟨_, rfl⟩
  rw [← hp] at V ⊢
  have v0 : w0.cell? ⟨p, 0, none⟩ = some (.int .i64 a) := by rw [cell_of_row w0 p 0 _ _ _ V.out]; rfl
  have v1 : w0.cell? ⟨p, 1, none⟩ = some (.int .i64 b) := by rw [cell_of_row w0 p 1 _ _ _ V.out]; rfl
  have v2 : w0.cell? ⟨p, 2, none⟩ = some (.int .i64 c) := by rw [cell_of_row w0 p 2 _ _ _ V.out]; rfl
  have v3 : w0.cell? ⟨p, 3, none⟩ = some (.int .i64 d) := by rw [cell_of_row w0 p 3 _ _ _ V.out]; rfl
  have v4 : w0.cell? ⟨p, 4, none⟩ = some (.int .i64 e) := by rw [cell_of_row w0 p 4 _ _ _ V.out]; rfl
  have v5 : w0.cell? ⟨p, 5, none⟩ = some (.int .i64 f) := by rw [cell_of_row w0 p 5 _ _ _ V.out]; rfl
  have v6 : w0.cell? ⟨p, 6, none⟩ = some (.int .i64 g) := by rw [cell_of_row w0 p 6 _ _ _ V.out]; rfl
  replace hp := hid hp
  clear V
  refine wp_region_held_drew (S := fun w' => Below w0.heap.size w0 w') (by kernel_rfl) (Below.refl _ _).drew (fun hH => ?_)
  generalize w0.drew = x at hH ⊢
  refine wpAnyH_take (i := 0) (v := .pointer (some ⟨p, 1, none⟩)) (by simp only [List.getElem?_toArray, List.getElem?_cons_zero]; rfl) (by kernel_rfl) (by kernel_rfl) (by kernel_rfl) (by intro _ _ _ h; exact h) (Or.inl ⟨by rfl, fun w hS => by go_simp⟩) hH ?_
  simp only [Act.put, List.setIfInBounds_toArray, List.set_cons_zero, List.set_cons_succ]
  refine wpAnyH_take (i := 1) (v := .int .i64 b) (by simp only [List.getElem?_toArray, List.getElem?_cons_succ, List.getElem?_cons_zero]; rfl) (by kernel_rfl) (by kernel_rfl) (by kernel_rfl) (by intro _ _ _ h; exact h) (Or.inl ⟨by rfl, fun w hS => by (have y := cell_kept hS v1; go_simp)⟩) hH ?_
  simp only [Act.put, List.setIfInBounds_toArray, List.set_cons_zero, List.set_cons_succ]
  refine wpAnyH_take (i := 2) (v := .agg #[.int .i64 b, .int .i64 0, .int .i64 1000000]) (by simp only [List.getElem?_toArray, List.getElem?_cons_succ, List.getElem?_cons_zero]; rfl) (by kernel_rfl) (by kernel_rfl) (by kernel_rfl) (by intro _ _ _ h; exact h) (Or.inl ⟨by rfl, fun w hS => by go_simp⟩) hH ?_
  simp only [Act.put, List.setIfInBounds_toArray, List.set_cons_zero, List.set_cons_succ]
  refine wpAnyH_take (i := 3) (v := .pointer (some ⟨p, 2, none⟩)) (by simp only [List.getElem?_toArray, List.getElem?_cons_succ, List.getElem?_cons_zero]; rfl) (by kernel_rfl) (by kernel_rfl) (by kernel_rfl) (by intro _ _ _ h; exact h) (Or.inl ⟨by rfl, fun w hS => by go_simp⟩) hH ?_
  simp only [Act.put, List.setIfInBounds_toArray, List.set_cons_zero, List.set_cons_succ]
  refine wpAnyH_take (i := 4) (v := .int .i64 c) (by simp only [List.getElem?_toArray, List.getElem?_cons_succ, List.getElem?_cons_zero]; rfl) (by kernel_rfl) (by kernel_rfl) (by kernel_rfl) (by intro _ _ _ h; exact h) (Or.inl ⟨by rfl, fun w hS => by (have y := cell_kept hS v2; go_simp)⟩) hH ?_
  simp only [Act.put, List.setIfInBounds_toArray, List.set_cons_zero, List.set_cons_succ]
  refine wpAnyH_take (i := 6) (v := .pointer (some ⟨p, 3, none⟩)) (by simp only [List.getElem?_toArray, List.getElem?_cons_succ, List.getElem?_cons_zero]; rfl) (by kernel_rfl) (by kernel_rfl) (by kernel_rfl) (by intro _ _ _ h; exact h) (Or.inl ⟨by rfl, fun w hS => by go_simp⟩) hH ?_
  simp only [Act.put, List.setIfInBounds_toArray, List.set_cons_zero, List.set_cons_succ]
  refine wpAnyH_take (i := 7) (v := .int .i64 d) (by simp only [List.getElem?_toArray, List.getElem?_cons_succ, List.getElem?_cons_zero]; rfl) (by kernel_rfl) (by kernel_rfl) (by kernel_rfl) (by intro _ _ _ h; exact h) (Or.inl ⟨by rfl, fun w hS => by (have y := cell_kept hS v3; go_simp)⟩) hH ?_
  simp only [Act.put, List.setIfInBounds_toArray, List.set_cons_zero, List.set_cons_succ]
  refine wpAnyH_take (i := 8) (v := .agg #[.int .i64 d, .int .i64 0, .int .i64 1000000]) (by simp only [List.getElem?_toArray, List.getElem?_cons_succ, List.getElem?_cons_zero]; rfl) (by kernel_rfl) (by kernel_rfl) (by kernel_rfl) (by intro _ _ _ h; exact h) (Or.inl ⟨by rfl, fun w hS => by go_simp⟩) hH ?_
  simp only [Act.put, List.setIfInBounds_toArray, List.set_cons_zero, List.set_cons_succ]
  refine wpAnyH_take (i := 9) (v := .pointer (some ⟨p, 4, none⟩)) (by simp only [List.getElem?_toArray, List.getElem?_cons_succ, List.getElem?_cons_zero]; rfl) (by kernel_rfl) (by kernel_rfl) (by kernel_rfl) (by intro _ _ _ h; exact h) (Or.inl ⟨by rfl, fun w hS => by go_simp⟩) hH ?_
  simp only [Act.put, List.setIfInBounds_toArray, List.set_cons_zero, List.set_cons_succ]
  refine wpAnyH_take (i := 10) (v := .int .i64 e) (by simp only [List.getElem?_toArray, List.getElem?_cons_succ, List.getElem?_cons_zero]; rfl) (by kernel_rfl) (by kernel_rfl) (by kernel_rfl) (by intro _ _ _ h; exact h) (Or.inl ⟨by rfl, fun w hS => by (have y := cell_kept hS v4; go_simp)⟩) hH ?_
  simp only [Act.put, List.setIfInBounds_toArray, List.set_cons_zero, List.set_cons_succ]
  refine wpAnyH_take (i := 11) (v := .agg #[.int .i64 e, .int .i64 1, .int .i64 9]) (by simp only [List.getElem?_toArray, List.getElem?_cons_succ, List.getElem?_cons_zero]; rfl) (by kernel_rfl) (by kernel_rfl) (by kernel_rfl) (by intro _ _ _ h; exact h) (Or.inl ⟨by rfl, fun w hS => by go_simp⟩) hH ?_
  simp only [Act.put, List.setIfInBounds_toArray, List.set_cons_zero, List.set_cons_succ]
  refine wpAnyH_take (i := 12) (v := .pointer (some ⟨p, 5, none⟩)) (by simp only [List.getElem?_toArray, List.getElem?_cons_succ, List.getElem?_cons_zero]; rfl) (by kernel_rfl) (by kernel_rfl) (by kernel_rfl) (by intro _ _ _ h; exact h) (Or.inl ⟨by rfl, fun w hS => by go_simp⟩) hH ?_
  simp only [Act.put, List.setIfInBounds_toArray, List.set_cons_zero, List.set_cons_succ]
  refine wpAnyH_take (i := 13) (v := .int .i64 f) (by simp only [List.getElem?_toArray, List.getElem?_cons_succ, List.getElem?_cons_zero]; rfl) (by kernel_rfl) (by kernel_rfl) (by kernel_rfl) (by intro _ _ _ h; exact h) (Or.inl ⟨by rfl, fun w hS => by (have y := cell_kept hS v5; go_simp)⟩) hH ?_
  simp only [Act.put, List.setIfInBounds_toArray, List.set_cons_zero, List.set_cons_succ]
  refine wpAnyH_take (i := 15) (v := .pointer (some ⟨p, 6, none⟩)) (by simp only [List.getElem?_toArray, List.getElem?_cons_succ, List.getElem?_cons_zero]; rfl) (by kernel_rfl) (by kernel_rfl) (by kernel_rfl) (by intro _ _ _ h; exact h) (Or.inl ⟨by rfl, fun w hS => by go_simp⟩) hH ?_
  simp only [Act.put, List.setIfInBounds_toArray, List.set_cons_zero, List.set_cons_succ]
  refine wpAnyH_take (i := 16) (v := .int .i64 g) (by simp only [List.getElem?_toArray, List.getElem?_cons_succ, List.getElem?_cons_zero]; rfl) (by kernel_rfl) (by kernel_rfl) (by kernel_rfl) (by intro _ _ _ h; exact h) (Or.inl ⟨by rfl, fun w hS => by (have y := cell_kept hS v6; go_simp)⟩) hH ?_
  simp only [Act.put, List.setIfInBounds_toArray, List.set_cons_zero, List.set_cons_succ]
  refine wpAnyH_take (i := 17) (v := .agg #[.int .i64 g, .int .i64 0, .int .i64 1000000]) (by simp only [List.getElem?_toArray, List.getElem?_cons_succ, List.getElem?_cons_zero]; rfl) (by kernel_rfl) (by kernel_rfl) (by kernel_rfl) (by intro _ _ _ h; exact h) (Or.inl ⟨by rfl, fun w hS => by go_simp⟩) hH ?_
  simp only [Act.put, List.setIfInBounds_toArray, List.set_cons_zero, List.set_cons_succ]
  refine wpAnyH_ready (rs := [5]) (by kernel_rfl) (by simp) ?_
  refine AllReadyH.cons (by simp only [List.getElem?_toArray, List.getElem?_cons_succ, List.getElem?_cons_zero]; rfl) (fun K hK => ?_) AllReadyH.nil
  go_simp
  refine (nspan _ _).mono ?_
  rintro e x5 ⟨rfl, hM⟩
  refine hK.out _ _ (hH.trans (hM.mono hH.size)) (fun hH => ?_)
  clear hK K
  clear hM
  refine wpAnyH_ready (rs := [14]) (by kernel_rfl) (by simp) ?_
  refine AllReadyH.cons (by simp only [List.getElem?_toArray, List.getElem?_cons_succ, List.getElem?_cons_zero]; rfl) (fun K hK => ?_) AllReadyH.nil
  go_simp
  refine (nspan _ _).mono ?_
  rintro e x14 ⟨rfl, hM⟩
  refine hK.out _ _ (hH.trans (hM.mono hH.size)) (fun hH => ?_)
  clear hK K
  clear hM
  refine wpAnyH_ready (rs := [18]) (by kernel_rfl) (by simp) ?_
  refine AllReadyH.cons (by simp only [List.getElem?_toArray, List.getElem?_cons_succ, List.getElem?_cons_zero]; rfl) (fun K hK => ?_) AllReadyH.nil
  go_simp
  have W18 := hid (heap_alloc_new x14 (.cells (rowSp [(b, 0, 1000000), (c, 0, 3), (d, 0, 1000000), (e, 1, 9), (f, 0, 3), (g, 0, 1000000)]).toArray 100))
  refine hK.out _ _ (hH.alloc hH.size _) (fun hH => ?_)
  clear hK K
  refine wpAnyH_ready (rs := [19]) (by kernel_rfl) (by simp) ?_
  refine AllReadyH.cons (by simp only [List.getElem?_toArray, List.getElem?_cons_succ, List.getElem?_cons_zero]; rfl) (fun K hK => ?_) AllReadyH.nil
  go_simp
  refine (withinL [(b, 0, 1000000), (c, 0, 3), (d, 0, 1000000), (e, 1, 9), (f, 0, 3), (g, 0, 1000000)] (by simp) _ _ W18.out).mono ?_
  rintro e x19 ⟨rfl, hM⟩
  refine hK.out _ _ (hH.trans (hM.mono hH.size)) (fun hH => ?_)
  clear hK K
  clear hM
  have E := hid (show wtbB ⟨a, b, c, d, e, f, g⟩ = inS [(b, 0, 1000000), (c, 0, 3), (d, 0, 1000000), (e, 1, 9), (f, 0, 3), (g, 0, 1000000)] by simp [wtbB, inS])
  obtain ⟨t, ht⟩ : ∃ t, t = inS [(b, 0, 1000000), (c, 0, 3), (d, 0, 1000000), (e, 1, 9), (f, 0, 3), (g, 0, 1000000)] := ⟨_, rfl⟩
  rw [← ht] at E ⊢
  replace ht := hid ht
  refine wpAnyH_take (i := 20) (v := .bool t) (by simp only [List.getElem?_toArray, List.getElem?_cons_succ, List.getElem?_cons_zero]; rfl) (by kernel_rfl) (by kernel_rfl) (by kernel_rfl) (by intro _ _ _ h; exact h) (Or.inl ⟨by rfl, fun w hS => by go_simp⟩) hH ?_
  simp only [Act.put, List.setIfInBounds_toArray, List.set_cons_zero, List.set_cons_succ]
  refine wpAnyH_done (by kernel_rfl) ?_ _
  replace BB := hid (BB.out.trans (hH.mono BB.out.size))
  clear hH W18 v0 v1 v2 v3 v4 v5 v6
  go_wp2
  go_ret
  exact ⟨ret_wb E.out.symm, BB.out⟩
set_option maxHeartbeats 2000000 in
set_option maxRecDepth 100000 in
theorem i9f (v : Value) (cs : List Wai) (w : World) (h : RdJ w v cs) :
    Calls Try.prog 25 #[v] w fun e w' => e = .returned (.int .i64 (wtF cs)) ∧ Below w.heap.size w w' := by
  have H := hid h
  obtain ⟨a, cap, rfl, hc, hm, -⟩ := h.parts
  clear h
  have hmx : cs.length ≤ 9223372036854775807 := by unfold maxLen at hm; omega
  clear hc hm
  have V0 := hid (heap_alloc_new w (.cells (rowSp [((cs.length : Int), 0, 40)]).toArray 100))
  have BB := hid (below_alloc1 w (.cells #[.int .i64 (cs.length : Int), .int .i64 0, .int .i64 40] 100))
  go_enter Try.func25, Try.ntmps25
  go_wp2_with fail
  go_step3
  go_wp2_with fail
  refine (withinL [((cs.length : Int), 0, 40)] (by simp) _ _ V0.out).mono ?_
  rintro e w1 ⟨rfl, hB⟩
  replace BB := hid (BB.out.trans (hB.mono BB.out.size))
  clear V0 hB
  by_cases hl : 40 < cs.length
  · have E := hid (wtF_many hl)
    have h0 : inS [((cs.length : Int), 0, 40)] = false := by simp [inS, inB]; omega
    rw [h0]
    go_wp2
    try rw [Exit.noGoto_ret]
    go_ret
    exact ⟨ret_wi E.out.symm, BB.out⟩
  have HL := hid hl
  have h0 : inS [((cs.length : Int), 0, 40)] = true := by simp [inS, inB]; omega
  rw [h0]
  clear h0
  replace H := hid (H.out.below BB.out)
  go_wp2_with fail
  go_step3
  go_wp2_with fail
  go_loopw [3, 4, 5, 14] (fun s3 s4 s5 i wr => ∃ k : Nat, ∃ u4 u5 : Value, k ≤ cs.length ∧ i = .int .i64 k ∧ s3 = .int .i64 0 ∧ s4 = u4 ∧ s5 = u5 ∧ Hid (Below w1.heap.size w1 wr) ∧ Hid (∀ j (hj : j < cs.length), j < k → wt1 cs[j] = 0)) (fun _ _ _ i _ => cs.length - (intOf i).toNat)
  case atStart => exact ⟨0, _, _, by omega, rfl, rfl, rfl, rfl, hid (Below.refl _ _), hid fun j _ q => by omega⟩
  case round =>
    obtain ⟨k, u4, u5, hk, rfl, rfl, rfl, rfl, BL, OK⟩ := hrel
    by_cases hlt : k < cs.length
    · obtain ⟨a', cap', e, -, -, hcs⟩ := (H.out.below BL.out).parts
      cases e
      obtain ⟨b, o, rfl, q1⟩ := hcs k hlt
      obtain ⟨c0, c1, c2, c3, c4, c5, c6⟩ := j_cells q1
      have I1 := idx_ji b o cs.length cap k hlt
      have VR := hid fun q => wtF_at hl k hlt OK.out q
      have OKS := hid (fun (q0 : wt1 cs[k] = 0) => show ∀ j (hj : j < cs.length), j < k + 1 → wt1 cs[j] = 0 from fun j hj q => by
          rcases Nat.lt_or_ge j k with q2 | q2
          · exact OK.out j hj q2
          · obtain rfl : j = k := by omega
            exact q0)
      obtain ⟨M, hM⟩ : ∃ M, M = cs[k] := ⟨_, rfl⟩
      rw [← hM] at c0 c1 c2 c3 c4 c5 c6 VR OKS
      clear q1 hcs hM hl OK
      have V := hid (heap_alloc_new wr (.cells #[.int .i64 M.a, .int .i64 M.b, .int .i64 M.c, .int .i64 M.d, .int .i64 M.e, .int .i64 M.f, .int .i64 M.g] 63))
      have B1 := hid (below_alloc1 wr (.cells #[.int .i64 M.a, .int .i64 M.b, .int .i64 M.c, .int .i64 M.d, .int .i64 M.e, .int .i64 M.f, .int .i64 M.g] 63))
      replace BL := hid (BL.out.trans (B1.out.mono BL.out.size))
      clear B1
      obtain ⟨v0, v1, v2, v3, v4, v5, v6⟩ : (wr.alloc (.cells #[.int .i64 M.a, .int .i64 M.b, .int .i64 M.c, .int .i64 M.d, .int .i64 M.e, .int .i64 M.f, .int .i64 M.g] 63)).cell? ⟨wr.heap.size, 0, none⟩ = some (.int .i64 M.a) ∧ (wr.alloc (.cells #[.int .i64 M.a, .int .i64 M.b, .int .i64 M.c, .int .i64 M.d, .int .i64 M.e, .int .i64 M.f, .int .i64 M.g] 63)).cell? ⟨wr.heap.size, 1, none⟩ = some (.int .i64 M.b) ∧ (wr.alloc (.cells #[.int .i64 M.a, .int .i64 M.b, .int .i64 M.c, .int .i64 M.d, .int .i64 M.e, .int .i64 M.f, .int .i64 M.g] 63)).cell? ⟨wr.heap.size, 2, none⟩ = some (.int .i64 M.c) ∧ (wr.alloc (.cells #[.int .i64 M.a, .int .i64 M.b, .int .i64 M.c, .int .i64 M.d, .int .i64 M.e, .int .i64 M.f, .int .i64 M.g] 63)).cell? ⟨wr.heap.size, 3, none⟩ = some (.int .i64 M.d) ∧ (wr.alloc (.cells #[.int .i64 M.a, .int .i64 M.b, .int .i64 M.c, .int .i64 M.d, .int .i64 M.e, .int .i64 M.f, .int .i64 M.g] 63)).cell? ⟨wr.heap.size, 4, none⟩ = some (.int .i64 M.e) ∧ (wr.alloc (.cells #[.int .i64 M.a, .int .i64 M.b, .int .i64 M.c, .int .i64 M.d, .int .i64 M.e, .int .i64 M.f, .int .i64 M.g] 63)).cell? ⟨wr.heap.size, 5, none⟩ = some (.int .i64 M.f) ∧ (wr.alloc (.cells #[.int .i64 M.a, .int .i64 M.b, .int .i64 M.c, .int .i64 M.d, .int .i64 M.e, .int .i64 M.f, .int .i64 M.g] 63)).cell? ⟨wr.heap.size, 6, none⟩ = some (.int .i64 M.g) := by
        refine ⟨?_, ?_, ?_, ?_, ?_, ?_, ?_⟩ <;> (rw [cell_of_row _ _ _ _ _ _ V.out]; rfl)
      clear V
      go_wp2_with fail
      generalize wr.alloc (.cells #[.int .i64 M.a, .int .i64 M.b, .int .i64 M.c, .int .i64 M.d, .int .i64 M.e, .int .i64 M.f, .int .i64 M.g] 63) = w2 at *
      obtain ⟨p, hp⟩ : ∃ p, p = wr.heap.size := ⟨_, rfl⟩
      rw [← hp] at v0 v1 v2 v3 v4 v5 v6 ⊢
      replace hp := hid hp
      refine (iwhf _ _ _ _ _ _ _ _).mono ?_
      rintro e w3 ⟨rfl, hB⟩
      replace BL := hid (BL.out.trans (hB.mono BL.out.size))
      replace v0 := cell_kept hB v0
      replace v1 := cell_kept hB v1
      replace v2 := cell_kept hB v2
      replace v3 := cell_kept hB v3
      replace v4 := cell_kept hB v4
      replace v5 := cell_kept hB v5
      replace v6 := cell_kept hB v6
      clear hB c0 c1 c2 c3 c4 c5 c6
      obtain ⟨t, ht⟩ : ∃ t, t = wtfB ⟨M.a, M.b, M.c, M.d, M.e, M.f, M.g⟩ := ⟨_, rfl⟩
      rw [← ht]
      replace ht := hid ht
      cases t
      · have E := hid (show wtF cs = 1 from (VR.out (by rw [wt1_f ht.out.symm]; decide)).trans (wt1_f ht.out.symm))
        go_wp2
        try rw [Exit.noGoto_ret]
        go_ret
        exact ⟨ret_wi E.out.symm, BB.out.trans (BL.out.mono BB.out.size)⟩
      · go_wp2_with fail
        refine (iwkb _ _ _ _ _ _ _ _).mono ?_
        rintro e w4 ⟨rfl, hB⟩
        replace BL := hid (BL.out.trans (hB.mono BL.out.size))
        clear hB v0 v1 v2 v3 v4 v5 v6
        obtain ⟨s, hs⟩ : ∃ t, t = wtbB ⟨M.a, M.b, M.c, M.d, M.e, M.f, M.g⟩ := ⟨_, rfl⟩
        rw [← hs]
        replace hs := hid hs
        cases s
        · have E := hid (show wtF cs = 3 from (VR.out (by rw [wt1_b ht.out.symm hs.out.symm]; decide)).trans (wt1_b ht.out.symm hs.out.symm))
          go_wp2
          try rw [Exit.noGoto_ret]
          go_ret
          exact ⟨ret_wi E.out.symm, BB.out.trans (BL.out.mono BB.out.size)⟩
        · have OK2 := hid (OKS.out (wt1_o ht.out.symm hs.out.symm))
          go_wp2
          go_roundw
          case rel => exact ⟨k + 1, _, _, hlt, by go_num, rfl, rfl, rfl, BL, OK2⟩
          case measure => simp [intOf]; omega
    · have E := hid (wtF_ok HL.out fun j hj => OK.out j hj (by omega))
      go_wp2
      try rw [Exit.noGoto_ret]
      go_ret
      exact ⟨ret_wi E.out.symm, BB.out.trans (BL.out.mono BB.out.size)⟩
end Go.Proofs.Ytalaolfcdaaaoaa.W
