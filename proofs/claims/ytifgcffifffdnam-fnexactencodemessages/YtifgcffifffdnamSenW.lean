/-
  Messages as bytes: what the model's l7Encode answers, kind by kind. Generated text.
-/
import Derived.Test.YtifgcffifffdnamMeF
import Derived.Test.YtifgcffifffdnamStrW
import Derived.Test.YtifgcffifffdnamL1pWalks
import Derived.Test.YtifgcffifffdnamAppM
namespace Go.Proofs.Ytifgcffifffdnam.W
open Go.ChangeShapes Go.WideShapes Go.ChangeAt Go.RowKit
open Go.Proofs.Ytifgcffifffdnam.M

theorem wrap_b (k : Nat) (h : k ≤ 255) : IntKind.u8.wrap (k : Int) = (k : Int) := by rw [IntKind.wrap_u8']; omega
theorem own_l1 (w : World) (a : Nat) : Own (w.alloc (.cells #[.int .u8 (a : Int)] 5)) w.heap.size (.slice (some ⟨w.heap.size, 0, none⟩) 1 1) [a] :=
  World.ownsRow_lit w #[.int .u8 (a : Int)] 1 (Nat.le_refl _) (by unfold maxLen; omega) rfl
theorem own_l2 (w : World) (a b : Nat) : Own (w.alloc (.cells #[.int .u8 (a : Int), .int .u8 (b : Int)] 5)) w.heap.size (.slice (some ⟨w.heap.size, 0, none⟩) 2 2) [a, b] :=
  World.ownsRow_lit w #[.int .u8 (a : Int), .int .u8 (b : Int)] 2 (Nat.le_refl _) (by unfold maxLen; omega) rfl
theorem rd_l1 {w : World} {g a : Nat} {T : TypeId} (h : w.heap[g]? = some (.cells #[.int .u8 (a : Int)] T)) : Rd w (.slice (some ⟨g, 0, none⟩) 1 1) [a] :=
  ⟨some ⟨g, 0, none⟩, 1, rfl, Nat.le_refl _, by unfold maxLen; omega, fun i hi => by
    obtain rfl : i = 0 := by simpa using hi
    exact ⟨g, 0, rfl, by rw [cell_of_row w g 0 _ _ _ h]; rfl⟩⟩
theorem rd_l2 {w : World} {g a b : Nat} {T : TypeId} (h : w.heap[g]? = some (.cells #[.int .u8 (a : Int), .int .u8 (b : Int)] T)) : Rd w (.slice (some ⟨g, 0, none⟩) 2 2) [a, b] :=
  ⟨some ⟨g, 0, none⟩, 2, rfl, by simp, by unfold maxLen; simp, fun i hi => by
    match i, hi with
    | 0, _ => exact ⟨g, 0, rfl, by rw [cell_of_row w g 0 _ _ _ h]; rfl⟩
    | 1, _ => exact ⟨g, 0, rfl, by rw [cell_of_row w g 1 _ _ _ h]; rfl⟩⟩
set_option maxHeartbeats 2000000 in
set_option maxRecDepth 100000 in
theorem sen1 (g o : Nat) (s n : Nat) (a : Option Addr) (n0 c : Nat) (w : World) (hs : s ≤ 1000000) (hn : n ≤ 3) (hV : w.cell? ⟨g, o, none⟩ = some (.int .i64 1) ∧ w.cell? ⟨g, o + 1, none⟩ = some (.int .i64 (s : Int)) ∧ w.cell? ⟨g, o + 2, none⟩ = some (.int .i64 (n : Int)) ∧ w.cell? ⟨g, o + 3, none⟩ = some (.int .i64 0) ∧ w.cell? ⟨g, o + 4, none⟩ = some (.int .i64 0) ∧ w.cell? ⟨g, o + 5, none⟩ = some (.int .i64 0) ∧ w.cell? ⟨g, o + 6, none⟩ = some (.int .i64 0) ∧ w.cell? ⟨g, o + 7, none⟩ = some (.int .i64 0) ∧ w.cell? ⟨g, o + 8, none⟩ = some (.int .i64 0) ∧ w.cell? ⟨g, o + 9, none⟩ = some (.slice a n0 c)) :
    Calls Try.prog 56 #[.pointer (some ⟨g, o, none⟩)] w fun e w' => ∃ v, e = .returned v ∧ Own w' w.heap.size v (eP 1 s n) ∧ Below w.heap.size w w' := by
  obtain ⟨f0, f1, f2, f3, f4, f5, f6, f7, f8, f9⟩ := hV
  have f4b := show w.cell? ⟨g, o + 3 + 1, none⟩ = _ from f4
  have f5b := show w.cell? ⟨g, o + 3 + 2, none⟩ = _ from f5
  have f6b := show w.cell? ⟨g, o + 3 + 3, none⟩ = _ from f6
  have f9b := show w.cell? ⟨g, o + 8 + 1, none⟩ = _ from f9
  have e0 := cell_kept (below_alloc1 w (.cells #[.int .u8 1] 5)) f0
  have e1 := cell_kept (below_alloc1 w (.cells #[.int .u8 1] 5)) f1
  have e2 := cell_kept (below_alloc1 w (.cells #[.int .u8 1] 5)) f2
  have e3 := cell_kept (below_alloc1 w (.cells #[.int .u8 1] 5)) f3
  have e4 := cell_kept (below_alloc1 w (.cells #[.int .u8 1] 5)) f4
  have e5 := cell_kept (below_alloc1 w (.cells #[.int .u8 1] 5)) f5
  have e6 := cell_kept (below_alloc1 w (.cells #[.int .u8 1] 5)) f6
  have e7 := cell_kept (below_alloc1 w (.cells #[.int .u8 1] 5)) f7
  have e8 := cell_kept (below_alloc1 w (.cells #[.int .u8 1] 5)) f8
  have e9 := cell_kept (below_alloc1 w (.cells #[.int .u8 1] 5)) f9
  have OA := hid (show Own (w.alloc (.cells #[.int .u8 1] 5)) w.heap.size (.slice (some ⟨w.heap.size, 0, none⟩) 1 1) [1] from own_l1 w 1)
  have BB := hid (below_alloc1 w (.cells #[.int .u8 1] 5))
  go_enter Try.func56, Try.ntmps56
  go_wp2_with fail
  generalize w.alloc (.cells #[.int .u8 1] 5) = w1 at *
  obtain ⟨gl, hgl⟩ : ∃ b, b = w.heap.size := ⟨_, rfl⟩
  have GL := hid (Nat.le_of_eq hgl.symm)
  have OA := hid (show Own w1 w.heap.size (.slice (some ⟨gl, 0, none⟩) 1 1) [1] by rw [hgl]; exact OA.out)
  rw [← hgl]
  clear hgl
  refine wp_region_held_drew (S := fun w' => Below w.heap.size w w') (by kernel_rfl) BB.out.drew (fun hH => ?_)
  replace OA := hid (show Own w1.drew _ _ _ from OA.out.below (Below.refl _ _).drew)
  generalize w1.drew = x at *
  refine wpAnyH_take (i := 0) (v := .slice (some ⟨gl, 0, none⟩) 1 1) (by simp only [List.getElem?_toArray, List.getElem?_cons_zero]; rfl) (by kernel_rfl) (by kernel_rfl) (by kernel_rfl) (by intro _ _ _ h; exact h) (Or.inl ⟨by rfl, fun w hS => by go_simp⟩) hH ?_
  simp only [Act.put, List.setIfInBounds_toArray, List.set_cons_zero, List.set_cons_succ]
  refine wpAnyH_take (i := 1) (v := .pointer (some ⟨g, o, none⟩)) (by simp only [List.getElem?_toArray, List.getElem?_cons_succ, List.getElem?_cons_zero]; rfl) (by kernel_rfl) (by kernel_rfl) (by kernel_rfl) (by intro _ _ _ h; exact h) (Or.inl ⟨by rfl, fun w hS => by go_simp⟩) hH ?_
  simp only [Act.put, List.setIfInBounds_toArray, List.set_cons_zero, List.set_cons_succ]
  refine wpAnyH_take (i := 2) (v := .pointer (some ⟨g, o, none⟩)) (by simp only [List.getElem?_toArray, List.getElem?_cons_succ, List.getElem?_cons_zero]; rfl) (by kernel_rfl) (by kernel_rfl) (by kernel_rfl) (by intro _ _ _ h; exact h) (Or.inl ⟨by rfl, fun w hS => by go_simp⟩) hH ?_
  simp only [Act.put, List.setIfInBounds_toArray, List.set_cons_zero, List.set_cons_succ]
  refine wpAnyH_take (i := 3) (v := .pointer (some ⟨g, o + 1, none⟩)) (by simp only [List.getElem?_toArray, List.getElem?_cons_succ, List.getElem?_cons_zero]; rfl) (by kernel_rfl) (by kernel_rfl) (by kernel_rfl) (by intro _ _ _ h; exact h) (Or.inl ⟨by rfl, fun w hS => by go_simp⟩) hH ?_
  simp only [Act.put, List.setIfInBounds_toArray, List.set_cons_zero, List.set_cons_succ]
  refine wpAnyH_take (i := 4) (v := .int .i64 (s : Int)) (by simp only [List.getElem?_toArray, List.getElem?_cons_succ, List.getElem?_cons_zero]; rfl) (by kernel_rfl) (by kernel_rfl) (by kernel_rfl) (by intro _ _ _ h; exact h) (Or.inl ⟨by rfl, fun w hS => by (have y0 := cell_kept hS f1; go_simp)⟩) hH ?_
  simp only [Act.put, List.setIfInBounds_toArray, List.set_cons_zero, List.set_cons_succ]
  refine wpAnyH_take (i := 7) (v := .pointer (some ⟨g, o, none⟩)) (by simp only [List.getElem?_toArray, List.getElem?_cons_succ, List.getElem?_cons_zero]; rfl) (by kernel_rfl) (by kernel_rfl) (by kernel_rfl) (by intro _ _ _ h; exact h) (Or.inl ⟨by rfl, fun w hS => by go_simp⟩) hH ?_
  simp only [Act.put, List.setIfInBounds_toArray, List.set_cons_zero, List.set_cons_succ]
  refine wpAnyH_take (i := 8) (v := .pointer (some ⟨g, o, none⟩)) (by simp only [List.getElem?_toArray, List.getElem?_cons_succ, List.getElem?_cons_zero]; rfl) (by kernel_rfl) (by kernel_rfl) (by kernel_rfl) (by intro _ _ _ h; exact h) (Or.inl ⟨by rfl, fun w hS => by go_simp⟩) hH ?_
  simp only [Act.put, List.setIfInBounds_toArray, List.set_cons_zero, List.set_cons_succ]
  refine wpAnyH_take (i := 9) (v := .pointer (some ⟨g, o + 2, none⟩)) (by simp only [List.getElem?_toArray, List.getElem?_cons_succ, List.getElem?_cons_zero]; rfl) (by kernel_rfl) (by kernel_rfl) (by kernel_rfl) (by intro _ _ _ h; exact h) (Or.inl ⟨by rfl, fun w hS => by go_simp⟩) hH ?_
  simp only [Act.put, List.setIfInBounds_toArray, List.set_cons_zero, List.set_cons_succ]
  refine wpAnyH_take (i := 10) (v := .int .i64 (n : Int)) (by simp only [List.getElem?_toArray, List.getElem?_cons_succ, List.getElem?_cons_zero]; rfl) (by kernel_rfl) (by kernel_rfl) (by kernel_rfl) (by intro _ _ _ h; exact h) (Or.inl ⟨by rfl, fun w hS => by (have y0 := cell_kept hS f2; go_simp)⟩) hH ?_
  simp only [Act.put, List.setIfInBounds_toArray, List.set_cons_zero, List.set_cons_succ]
  refine wpAnyH_take (i := 11) (v := .int .u8 (n : Int)) (by simp only [List.getElem?_toArray, List.getElem?_cons_succ, List.getElem?_cons_zero]; rfl) (by kernel_rfl) (by kernel_rfl) (by kernel_rfl) (by intro _ _ _ h; exact h) (Or.inl ⟨by rfl, fun w hS => by (have y := wrap_b n (by omega); go_simp)⟩) hH ?_
  simp only [Act.put, List.setIfInBounds_toArray, List.set_cons_zero, List.set_cons_succ]
  refine wpAnyH_ready (rs := [5, 12]) (by kernel_rfl) (by simp) ?_
  refine AllReadyH.cons (by simp only [List.getElem?_toArray, List.getElem?_cons_succ, List.getElem?_cons_zero]; rfl) (fun K hK => ?_) ?_
  · go_simp
    refine (l1pack s 4 _ (by omega) (by omega) (by omega)).mono ?_
    rintro e x5 ⟨rfl, hO, hM⟩
    refine hK.out _ _ (hH.trans (hM.mono hH.size)) (fun hH => ?_)
    clear hK K
    replace OA := hid (OA.out.below hM)
    have R5 := hid hO.rd
    clear hO hM
    obtain ⟨b5, hb5⟩ : ∃ b, b = x.heap.size := ⟨_, rfl⟩
    rw [← hb5] at R5 ⊢
    clear hb5
    refine wpAnyH_ready (rs := [6, 12]) (by kernel_rfl) (by simp) ?_
    refine AllReadyH.cons (by simp only [List.getElem?_toArray, List.getElem?_cons_succ, List.getElem?_cons_zero]; rfl) (fun K hK => ?_) ?_
    · refine step_app (by rfl) _ _ (by rfl) _ _ ([1]) (packL s 4) w.heap.size (by rfl) (by rfl) OA.out (R5.out) (by rw [packL_len]; simp) hH.size ?_
      intro v6 x6 hO hG
      refine hK.out _ _ (hH.grown hG hH.size (OA.out.row (Nat.le_refl _))) (fun hH => ?_)
      clear hK K hG OA
      have OC := hid hO
      clear hO
      clear R5
      refine wpAnyH_ready (rs := [12]) (by kernel_rfl) (by simp) ?_
      refine AllReadyH.cons (by simp only [List.getElem?_toArray, List.getElem?_cons_succ, List.getElem?_cons_zero]; rfl) (fun K hK => ?_) AllReadyH.nil
      go_simp
      have hM := below_alloc1 x6 (.cells #[.int .u8 (n : Int)] 5)
      replace OC := hid (OC.out.below hM)
      have V12 := hid (heap_alloc_new x6 (.cells #[.int .u8 (n : Int)] 5))
      refine hK.out _ _ (hH.alloc hH.size _) (fun hH => ?_)
      clear hK K hM
      obtain ⟨b12, hb12⟩ : ∃ b, b = x6.heap.size := ⟨_, rfl⟩
      rw [← hb12] at V12 ⊢
      clear hb12
      generalize x6.alloc (.cells #[.int .u8 (n : Int)] 5) = x12 at *
      refine wpAnyH_ready (rs := [13]) (by kernel_rfl) (by simp) ?_
      refine AllReadyH.cons (by simp only [List.getElem?_toArray, List.getElem?_cons_succ, List.getElem?_cons_zero]; rfl) (fun K hK => ?_) AllReadyH.nil
      refine step_app (by rfl) _ _ (by rfl) _ _ ([1] ++ packL s 4) ([n]) w.heap.size (by rfl) (by rfl) OC.out ((rd_l1 V12.out)) (by simp [packL_len]) hH.size ?_
      intro v13 x13 hO hG
      refine hK.out _ _ (hH.grown hG hH.size (OC.out.row (Nat.le_refl _))) (fun hH => ?_)
      clear hK K hG OC
      have OE := hid hO
      clear hO
      clear V12
      refine wpAnyH_take (i := 14) (v := v13) (by simp only [List.getElem?_toArray, List.getElem?_cons_succ, List.getElem?_cons_zero]; rfl) (by kernel_rfl) (by kernel_rfl) (by kernel_rfl) (by intro _ _ _ h; exact h) (Or.inl ⟨by rfl, fun w hS => by go_simp⟩) hH ?_
      simp only [Act.put, List.setIfInBounds_toArray, List.set_cons_zero, List.set_cons_succ]
      refine wpAnyH_done (by kernel_rfl) ?_ _
      have BE := hid hH
      clear hH
      go_wp2
      go_ret
      exact ⟨_, rfl, OE.out, BE.out⟩
    refine AllReadyH.cons (by simp only [List.getElem?_toArray, List.getElem?_cons_succ, List.getElem?_cons_zero]; rfl) (fun K hK => ?_) ?_
    · go_simp
      have hM := below_alloc1 x5 (.cells #[.int .u8 (n : Int)] 5)
      have NE12 := hid (OA.out.ne_new (Nat.le_refl x5.heap.size))
      replace OA := hid (OA.out.below hM)
      replace R5 := hid (R5.out.below hM)
      have V12 := hid (heap_alloc_new x5 (.cells #[.int .u8 (n : Int)] 5))
      refine hK.out _ _ (hH.alloc hH.size _) (fun hH => ?_)
      clear hK K hM
      obtain ⟨b12, hb12⟩ : ∃ b, b = x5.heap.size := ⟨_, rfl⟩
      rw [← hb12] at V12 NE12 ⊢
      clear hb12
      generalize x5.alloc (.cells #[.int .u8 (n : Int)] 5) = x12 at *
      refine wpAnyH_ready (rs := [6]) (by kernel_rfl) (by simp) ?_
      refine AllReadyH.cons (by simp only [List.getElem?_toArray, List.getElem?_cons_succ, List.getElem?_cons_zero]; rfl) (fun K hK => ?_) AllReadyH.nil
      refine step_app (by rfl) _ _ (by rfl) _ _ ([1]) (packL s 4) w.heap.size (by rfl) (by rfl) OA.out (R5.out) (by rw [packL_len]; simp) hH.size ?_
      intro v6 x6 hO hG
      refine hK.out _ _ (hH.grown hG hH.size (OA.out.row (Nat.le_refl _))) (fun hH => ?_)
      replace V12 := hid (var_grown hG V12.out NE12.out)
      clear NE12
      clear hK K hG OA
      have OC := hid hO
      clear hO
      clear R5
      refine wpAnyH_ready (rs := [13]) (by kernel_rfl) (by simp) ?_
      refine AllReadyH.cons (by simp only [List.getElem?_toArray, List.getElem?_cons_succ, List.getElem?_cons_zero]; rfl) (fun K hK => ?_) AllReadyH.nil
      refine step_app (by rfl) _ _ (by rfl) _ _ ([1] ++ packL s 4) ([n]) w.heap.size (by rfl) (by rfl) OC.out ((rd_l1 V12.out)) (by simp [packL_len]) hH.size ?_
      intro v13 x13 hO hG
      refine hK.out _ _ (hH.grown hG hH.size (OC.out.row (Nat.le_refl _))) (fun hH => ?_)
      clear hK K hG OC
      have OE := hid hO
      clear hO
      clear V12
      refine wpAnyH_take (i := 14) (v := v13) (by simp only [List.getElem?_toArray, List.getElem?_cons_succ, List.getElem?_cons_zero]; rfl) (by kernel_rfl) (by kernel_rfl) (by kernel_rfl) (by intro _ _ _ h; exact h) (Or.inl ⟨by rfl, fun w hS => by go_simp⟩) hH ?_
      simp only [Act.put, List.setIfInBounds_toArray, List.set_cons_zero, List.set_cons_succ]
      refine wpAnyH_done (by kernel_rfl) ?_ _
      have BE := hid hH
      clear hH
      go_wp2
      go_ret
      exact ⟨_, rfl, OE.out, BE.out⟩
    exact AllReadyH.nil
  refine AllReadyH.cons (by simp only [List.getElem?_toArray, List.getElem?_cons_succ, List.getElem?_cons_zero]; rfl) (fun K hK => ?_) ?_
  · go_simp
    have hM := below_alloc1 x (.cells #[.int .u8 (n : Int)] 5)
    have NE12 := hid (OA.out.ne_new (Nat.le_refl x.heap.size))
    replace OA := hid (OA.out.below hM)
    have V12 := hid (heap_alloc_new x (.cells #[.int .u8 (n : Int)] 5))
    refine hK.out _ _ (hH.alloc hH.size _) (fun hH => ?_)
    clear hK K hM
    obtain ⟨b12, hb12⟩ : ∃ b, b = x.heap.size := ⟨_, rfl⟩
    rw [← hb12] at V12 NE12 ⊢
    clear hb12
    generalize x.alloc (.cells #[.int .u8 (n : Int)] 5) = x12 at *
    refine wpAnyH_ready (rs := [5]) (by kernel_rfl) (by simp) ?_
    refine AllReadyH.cons (by simp only [List.getElem?_toArray, List.getElem?_cons_succ, List.getElem?_cons_zero]; rfl) (fun K hK => ?_) AllReadyH.nil
    go_simp
    refine (l1pack s 4 _ (by omega) (by omega) (by omega)).mono ?_
    rintro e x5 ⟨rfl, hO, hM⟩
    refine hK.out _ _ (hH.trans (hM.mono hH.size)) (fun hH => ?_)
    clear hK K
    replace OA := hid (OA.out.below hM)
    replace V12 := hid (var_below hM V12.out)
    have R5 := hid hO.rd
    clear hO hM
    obtain ⟨b5, hb5⟩ : ∃ b, b = x12.heap.size := ⟨_, rfl⟩
    rw [← hb5] at R5 ⊢
    clear hb5
    refine wpAnyH_ready (rs := [6]) (by kernel_rfl) (by simp) ?_
    refine AllReadyH.cons (by simp only [List.getElem?_toArray, List.getElem?_cons_succ, List.getElem?_cons_zero]; rfl) (fun K hK => ?_) AllReadyH.nil
    refine step_app (by rfl) _ _ (by rfl) _ _ ([1]) (packL s 4) w.heap.size (by rfl) (by rfl) OA.out (R5.out) (by rw [packL_len]; simp) hH.size ?_
    intro v6 x6 hO hG
    refine hK.out _ _ (hH.grown hG hH.size (OA.out.row (Nat.le_refl _))) (fun hH => ?_)
    replace V12 := hid (var_grown hG V12.out NE12.out)
    clear NE12
    clear hK K hG OA
    have OC := hid hO
    clear hO
    clear R5
    refine wpAnyH_ready (rs := [13]) (by kernel_rfl) (by simp) ?_
    refine AllReadyH.cons (by simp only [List.getElem?_toArray, List.getElem?_cons_succ, List.getElem?_cons_zero]; rfl) (fun K hK => ?_) AllReadyH.nil
    refine step_app (by rfl) _ _ (by rfl) _ _ ([1] ++ packL s 4) ([n]) w.heap.size (by rfl) (by rfl) OC.out ((rd_l1 V12.out)) (by simp [packL_len]) hH.size ?_
    intro v13 x13 hO hG
    refine hK.out _ _ (hH.grown hG hH.size (OC.out.row (Nat.le_refl _))) (fun hH => ?_)
    clear hK K hG OC
    have OE := hid hO
    clear hO
    clear V12
    refine wpAnyH_take (i := 14) (v := v13) (by simp only [List.getElem?_toArray, List.getElem?_cons_succ, List.getElem?_cons_zero]; rfl) (by kernel_rfl) (by kernel_rfl) (by kernel_rfl) (by intro _ _ _ h; exact h) (Or.inl ⟨by rfl, fun w hS => by go_simp⟩) hH ?_
    simp only [Act.put, List.setIfInBounds_toArray, List.set_cons_zero, List.set_cons_succ]
    refine wpAnyH_done (by kernel_rfl) ?_ _
    have BE := hid hH
    clear hH
    go_wp2
    go_ret
    exact ⟨_, rfl, OE.out, BE.out⟩
  exact AllReadyH.nil
set_option maxHeartbeats 2000000 in
set_option maxRecDepth 100000 in
theorem sen3 (g o : Nat) (s n : Nat) (a : Option Addr) (n0 c : Nat) (w : World) (hs : s ≤ 1000000) (hn : n ≤ 3) (hV : w.cell? ⟨g, o, none⟩ = some (.int .i64 3) ∧ w.cell? ⟨g, o + 1, none⟩ = some (.int .i64 (s : Int)) ∧ w.cell? ⟨g, o + 2, none⟩ = some (.int .i64 (n : Int)) ∧ w.cell? ⟨g, o + 3, none⟩ = some (.int .i64 0) ∧ w.cell? ⟨g, o + 4, none⟩ = some (.int .i64 0) ∧ w.cell? ⟨g, o + 5, none⟩ = some (.int .i64 0) ∧ w.cell? ⟨g, o + 6, none⟩ = some (.int .i64 0) ∧ w.cell? ⟨g, o + 7, none⟩ = some (.int .i64 0) ∧ w.cell? ⟨g, o + 8, none⟩ = some (.int .i64 0) ∧ w.cell? ⟨g, o + 9, none⟩ = some (.slice a n0 c)) :
    Calls Try.prog 56 #[.pointer (some ⟨g, o, none⟩)] w fun e w' => ∃ v, e = .returned v ∧ Own w' w.heap.size v (eP 3 s n) ∧ Below w.heap.size w w' := by
  obtain ⟨f0, f1, f2, f3, f4, f5, f6, f7, f8, f9⟩ := hV
  have f4b := show w.cell? ⟨g, o + 3 + 1, none⟩ = _ from f4
  have f5b := show w.cell? ⟨g, o + 3 + 2, none⟩ = _ from f5
  have f6b := show w.cell? ⟨g, o + 3 + 3, none⟩ = _ from f6
  have f9b := show w.cell? ⟨g, o + 8 + 1, none⟩ = _ from f9
  have e0 := cell_kept (below_alloc1 w (.cells #[.int .u8 3] 5)) f0
  have e1 := cell_kept (below_alloc1 w (.cells #[.int .u8 3] 5)) f1
  have e2 := cell_kept (below_alloc1 w (.cells #[.int .u8 3] 5)) f2
  have e3 := cell_kept (below_alloc1 w (.cells #[.int .u8 3] 5)) f3
  have e4 := cell_kept (below_alloc1 w (.cells #[.int .u8 3] 5)) f4
  have e5 := cell_kept (below_alloc1 w (.cells #[.int .u8 3] 5)) f5
  have e6 := cell_kept (below_alloc1 w (.cells #[.int .u8 3] 5)) f6
  have e7 := cell_kept (below_alloc1 w (.cells #[.int .u8 3] 5)) f7
  have e8 := cell_kept (below_alloc1 w (.cells #[.int .u8 3] 5)) f8
  have e9 := cell_kept (below_alloc1 w (.cells #[.int .u8 3] 5)) f9
  have OA := hid (show Own (w.alloc (.cells #[.int .u8 3] 5)) w.heap.size (.slice (some ⟨w.heap.size, 0, none⟩) 1 1) [3] from own_l1 w 3)
  have BB := hid (below_alloc1 w (.cells #[.int .u8 3] 5))
  go_enter Try.func56, Try.ntmps56
  go_wp2_with fail
  generalize w.alloc (.cells #[.int .u8 3] 5) = w1 at *
  obtain ⟨gl, hgl⟩ : ∃ b, b = w.heap.size := ⟨_, rfl⟩
  have GL := hid (Nat.le_of_eq hgl.symm)
  have OA := hid (show Own w1 w.heap.size (.slice (some ⟨gl, 0, none⟩) 1 1) [3] by rw [hgl]; exact OA.out)
  rw [← hgl]
  clear hgl
  refine wp_region_held_drew (S := fun w' => Below w.heap.size w w') (by kernel_rfl) BB.out.drew (fun hH => ?_)
  replace OA := hid (show Own w1.drew _ _ _ from OA.out.below (Below.refl _ _).drew)
  generalize w1.drew = x at *
  refine wpAnyH_take (i := 0) (v := .slice (some ⟨gl, 0, none⟩) 1 1) (by simp only [List.getElem?_toArray, List.getElem?_cons_zero]; rfl) (by kernel_rfl) (by kernel_rfl) (by kernel_rfl) (by intro _ _ _ h; exact h) (Or.inl ⟨by rfl, fun w hS => by go_simp⟩) hH ?_
  simp only [Act.put, List.setIfInBounds_toArray, List.set_cons_zero, List.set_cons_succ]
  refine wpAnyH_take (i := 1) (v := .pointer (some ⟨g, o, none⟩)) (by simp only [List.getElem?_toArray, List.getElem?_cons_succ, List.getElem?_cons_zero]; rfl) (by kernel_rfl) (by kernel_rfl) (by kernel_rfl) (by intro _ _ _ h; exact h) (Or.inl ⟨by rfl, fun w hS => by go_simp⟩) hH ?_
  simp only [Act.put, List.setIfInBounds_toArray, List.set_cons_zero, List.set_cons_succ]
  refine wpAnyH_take (i := 2) (v := .pointer (some ⟨g, o, none⟩)) (by simp only [List.getElem?_toArray, List.getElem?_cons_succ, List.getElem?_cons_zero]; rfl) (by kernel_rfl) (by kernel_rfl) (by kernel_rfl) (by intro _ _ _ h; exact h) (Or.inl ⟨by rfl, fun w hS => by go_simp⟩) hH ?_
  simp only [Act.put, List.setIfInBounds_toArray, List.set_cons_zero, List.set_cons_succ]
  refine wpAnyH_take (i := 3) (v := .pointer (some ⟨g, o + 1, none⟩)) (by simp only [List.getElem?_toArray, List.getElem?_cons_succ, List.getElem?_cons_zero]; rfl) (by kernel_rfl) (by kernel_rfl) (by kernel_rfl) (by intro _ _ _ h; exact h) (Or.inl ⟨by rfl, fun w hS => by go_simp⟩) hH ?_
  simp only [Act.put, List.setIfInBounds_toArray, List.set_cons_zero, List.set_cons_succ]
  refine wpAnyH_take (i := 4) (v := .int .i64 (s : Int)) (by simp only [List.getElem?_toArray, List.getElem?_cons_succ, List.getElem?_cons_zero]; rfl) (by kernel_rfl) (by kernel_rfl) (by kernel_rfl) (by intro _ _ _ h; exact h) (Or.inl ⟨by rfl, fun w hS => by (have y0 := cell_kept hS f1; go_simp)⟩) hH ?_
  simp only [Act.put, List.setIfInBounds_toArray, List.set_cons_zero, List.set_cons_succ]
  refine wpAnyH_take (i := 7) (v := .pointer (some ⟨g, o, none⟩)) (by simp only [List.getElem?_toArray, List.getElem?_cons_succ, List.getElem?_cons_zero]; rfl) (by kernel_rfl) (by kernel_rfl) (by kernel_rfl) (by intro _ _ _ h; exact h) (Or.inl ⟨by rfl, fun w hS => by go_simp⟩) hH ?_
  simp only [Act.put, List.setIfInBounds_toArray, List.set_cons_zero, List.set_cons_succ]
  refine wpAnyH_take (i := 8) (v := .pointer (some ⟨g, o, none⟩)) (by simp only [List.getElem?_toArray, List.getElem?_cons_succ, List.getElem?_cons_zero]; rfl) (by kernel_rfl) (by kernel_rfl) (by kernel_rfl) (by intro _ _ _ h; exact h) (Or.inl ⟨by rfl, fun w hS => by go_simp⟩) hH ?_
  simp only [Act.put, List.setIfInBounds_toArray, List.set_cons_zero, List.set_cons_succ]
  refine wpAnyH_take (i := 9) (v := .pointer (some ⟨g, o + 2, none⟩)) (by simp only [List.getElem?_toArray, List.getElem?_cons_succ, List.getElem?_cons_zero]; rfl) (by kernel_rfl) (by kernel_rfl) (by kernel_rfl) (by intro _ _ _ h; exact h) (Or.inl ⟨by rfl, fun w hS => by go_simp⟩) hH ?_
  simp only [Act.put, List.setIfInBounds_toArray, List.set_cons_zero, List.set_cons_succ]
  refine wpAnyH_take (i := 10) (v := .int .i64 (n : Int)) (by simp only [List.getElem?_toArray, List.getElem?_cons_succ, List.getElem?_cons_zero]; rfl) (by kernel_rfl) (by kernel_rfl) (by kernel_rfl) (by intro _ _ _ h; exact h) (Or.inl ⟨by rfl, fun w hS => by (have y0 := cell_kept hS f2; go_simp)⟩) hH ?_
  simp only [Act.put, List.setIfInBounds_toArray, List.set_cons_zero, List.set_cons_succ]
  refine wpAnyH_take (i := 11) (v := .int .u8 (n : Int)) (by simp only [List.getElem?_toArray, List.getElem?_cons_succ, List.getElem?_cons_zero]; rfl) (by kernel_rfl) (by kernel_rfl) (by kernel_rfl) (by intro _ _ _ h; exact h) (Or.inl ⟨by rfl, fun w hS => by (have y := wrap_b n (by omega); go_simp)⟩) hH ?_
  simp only [Act.put, List.setIfInBounds_toArray, List.set_cons_zero, List.set_cons_succ]
  refine wpAnyH_ready (rs := [5, 12]) (by kernel_rfl) (by simp) ?_
  refine AllReadyH.cons (by simp only [List.getElem?_toArray, List.getElem?_cons_succ, List.getElem?_cons_zero]; rfl) (fun K hK => ?_) ?_
  · go_simp
    refine (l1pack s 4 _ (by omega) (by omega) (by omega)).mono ?_
    rintro e x5 ⟨rfl, hO, hM⟩
    refine hK.out _ _ (hH.trans (hM.mono hH.size)) (fun hH => ?_)
    clear hK K
    replace OA := hid (OA.out.below hM)
    have R5 := hid hO.rd
    clear hO hM
    obtain ⟨b5, hb5⟩ : ∃ b, b = x.heap.size := ⟨_, rfl⟩
    rw [← hb5] at R5 ⊢
    clear hb5
    refine wpAnyH_ready (rs := [6, 12]) (by kernel_rfl) (by simp) ?_
    refine AllReadyH.cons (by simp only [List.getElem?_toArray, List.getElem?_cons_succ, List.getElem?_cons_zero]; rfl) (fun K hK => ?_) ?_
    · refine step_app (by rfl) _ _ (by rfl) _ _ ([3]) (packL s 4) w.heap.size (by rfl) (by rfl) OA.out (R5.out) (by rw [packL_len]; simp) hH.size ?_
      intro v6 x6 hO hG
      refine hK.out _ _ (hH.grown hG hH.size (OA.out.row (Nat.le_refl _))) (fun hH => ?_)
      clear hK K hG OA
      have OC := hid hO
      clear hO
      clear R5
      refine wpAnyH_ready (rs := [12]) (by kernel_rfl) (by simp) ?_
      refine AllReadyH.cons (by simp only [List.getElem?_toArray, List.getElem?_cons_succ, List.getElem?_cons_zero]; rfl) (fun K hK => ?_) AllReadyH.nil
      go_simp
      have hM := below_alloc1 x6 (.cells #[.int .u8 (n : Int)] 5)
      replace OC := hid (OC.out.below hM)
      have V12 := hid (heap_alloc_new x6 (.cells #[.int .u8 (n : Int)] 5))
      refine hK.out _ _ (hH.alloc hH.size _) (fun hH => ?_)
      clear hK K hM
      obtain ⟨b12, hb12⟩ : ∃ b, b = x6.heap.size := ⟨_, rfl⟩
      rw [← hb12] at V12 ⊢
      clear hb12
      generalize x6.alloc (.cells #[.int .u8 (n : Int)] 5) = x12 at *
      refine wpAnyH_ready (rs := [13]) (by kernel_rfl) (by simp) ?_
      refine AllReadyH.cons (by simp only [List.getElem?_toArray, List.getElem?_cons_succ, List.getElem?_cons_zero]; rfl) (fun K hK => ?_) AllReadyH.nil
      refine step_app (by rfl) _ _ (by rfl) _ _ ([3] ++ packL s 4) ([n]) w.heap.size (by rfl) (by rfl) OC.out ((rd_l1 V12.out)) (by simp [packL_len]) hH.size ?_
      intro v13 x13 hO hG
      refine hK.out _ _ (hH.grown hG hH.size (OC.out.row (Nat.le_refl _))) (fun hH => ?_)
      clear hK K hG OC
      have OE := hid hO
      clear hO
      clear V12
      refine wpAnyH_take (i := 14) (v := v13) (by simp only [List.getElem?_toArray, List.getElem?_cons_succ, List.getElem?_cons_zero]; rfl) (by kernel_rfl) (by kernel_rfl) (by kernel_rfl) (by intro _ _ _ h; exact h) (Or.inl ⟨by rfl, fun w hS => by go_simp⟩) hH ?_
      simp only [Act.put, List.setIfInBounds_toArray, List.set_cons_zero, List.set_cons_succ]
      refine wpAnyH_done (by kernel_rfl) ?_ _
      have BE := hid hH
      clear hH
      go_wp2
      go_ret
      exact ⟨_, rfl, OE.out, BE.out⟩
    refine AllReadyH.cons (by simp only [List.getElem?_toArray, List.getElem?_cons_succ, List.getElem?_cons_zero]; rfl) (fun K hK => ?_) ?_
    · go_simp
      have hM := below_alloc1 x5 (.cells #[.int .u8 (n : Int)] 5)
      have NE12 := hid (OA.out.ne_new (Nat.le_refl x5.heap.size))
      replace OA := hid (OA.out.below hM)
      replace R5 := hid (R5.out.below hM)
      have V12 := hid (heap_alloc_new x5 (.cells #[.int .u8 (n : Int)] 5))
      refine hK.out _ _ (hH.alloc hH.size _) (fun hH => ?_)
      clear hK K hM
      obtain ⟨b12, hb12⟩ : ∃ b, b = x5.heap.size := ⟨_, rfl⟩
      rw [← hb12] at V12 NE12 ⊢
      clear hb12
      generalize x5.alloc (.cells #[.int .u8 (n : Int)] 5) = x12 at *
      refine wpAnyH_ready (rs := [6]) (by kernel_rfl) (by simp) ?_
      refine AllReadyH.cons (by simp only [List.getElem?_toArray, List.getElem?_cons_succ, List.getElem?_cons_zero]; rfl) (fun K hK => ?_) AllReadyH.nil
      refine step_app (by rfl) _ _ (by rfl) _ _ ([3]) (packL s 4) w.heap.size (by rfl) (by rfl) OA.out (R5.out) (by rw [packL_len]; simp) hH.size ?_
      intro v6 x6 hO hG
      refine hK.out _ _ (hH.grown hG hH.size (OA.out.row (Nat.le_refl _))) (fun hH => ?_)
      replace V12 := hid (var_grown hG V12.out NE12.out)
      clear NE12
      clear hK K hG OA
      have OC := hid hO
      clear hO
      clear R5
      refine wpAnyH_ready (rs := [13]) (by kernel_rfl) (by simp) ?_
      refine AllReadyH.cons (by simp only [List.getElem?_toArray, List.getElem?_cons_succ, List.getElem?_cons_zero]; rfl) (fun K hK => ?_) AllReadyH.nil
      refine step_app (by rfl) _ _ (by rfl) _ _ ([3] ++ packL s 4) ([n]) w.heap.size (by rfl) (by rfl) OC.out ((rd_l1 V12.out)) (by simp [packL_len]) hH.size ?_
      intro v13 x13 hO hG
      refine hK.out _ _ (hH.grown hG hH.size (OC.out.row (Nat.le_refl _))) (fun hH => ?_)
      clear hK K hG OC
      have OE := hid hO
      clear hO
      clear V12
      refine wpAnyH_take (i := 14) (v := v13) (by simp only [List.getElem?_toArray, List.getElem?_cons_succ, List.getElem?_cons_zero]; rfl) (by kernel_rfl) (by kernel_rfl) (by kernel_rfl) (by intro _ _ _ h; exact h) (Or.inl ⟨by rfl, fun w hS => by go_simp⟩) hH ?_
      simp only [Act.put, List.setIfInBounds_toArray, List.set_cons_zero, List.set_cons_succ]
      refine wpAnyH_done (by kernel_rfl) ?_ _
      have BE := hid hH
      clear hH
      go_wp2
      go_ret
      exact ⟨_, rfl, OE.out, BE.out⟩
    exact AllReadyH.nil
  refine AllReadyH.cons (by simp only [List.getElem?_toArray, List.getElem?_cons_succ, List.getElem?_cons_zero]; rfl) (fun K hK => ?_) ?_
  · go_simp
    have hM := below_alloc1 x (.cells #[.int .u8 (n : Int)] 5)
    have NE12 := hid (OA.out.ne_new (Nat.le_refl x.heap.size))
    replace OA := hid (OA.out.below hM)
    have V12 := hid (heap_alloc_new x (.cells #[.int .u8 (n : Int)] 5))
    refine hK.out _ _ (hH.alloc hH.size _) (fun hH => ?_)
    clear hK K hM
    obtain ⟨b12, hb12⟩ : ∃ b, b = x.heap.size := ⟨_, rfl⟩
    rw [← hb12] at V12 NE12 ⊢
    clear hb12
    generalize x.alloc (.cells #[.int .u8 (n : Int)] 5) = x12 at *
    refine wpAnyH_ready (rs := [5]) (by kernel_rfl) (by simp) ?_
    refine AllReadyH.cons (by simp only [List.getElem?_toArray, List.getElem?_cons_succ, List.getElem?_cons_zero]; rfl) (fun K hK => ?_) AllReadyH.nil
    go_simp
    refine (l1pack s 4 _ (by omega) (by omega) (by omega)).mono ?_
    rintro e x5 ⟨rfl, hO, hM⟩
    refine hK.out _ _ (hH.trans (hM.mono hH.size)) (fun hH => ?_)
    clear hK K
    replace OA := hid (OA.out.below hM)
    replace V12 := hid (var_below hM V12.out)
    have R5 := hid hO.rd
    clear hO hM
    obtain ⟨b5, hb5⟩ : ∃ b, b = x12.heap.size := ⟨_, rfl⟩
    rw [← hb5] at R5 ⊢
    clear hb5
    refine wpAnyH_ready (rs := [6]) (by kernel_rfl) (by simp) ?_
    refine AllReadyH.cons (by simp only [List.getElem?_toArray, List.getElem?_cons_succ, List.getElem?_cons_zero]; rfl) (fun K hK => ?_) AllReadyH.nil
    refine step_app (by rfl) _ _ (by rfl) _ _ ([3]) (packL s 4) w.heap.size (by rfl) (by rfl) OA.out (R5.out) (by rw [packL_len]; simp) hH.size ?_
    intro v6 x6 hO hG
    refine hK.out _ _ (hH.grown hG hH.size (OA.out.row (Nat.le_refl _))) (fun hH => ?_)
    replace V12 := hid (var_grown hG V12.out NE12.out)
    clear NE12
    clear hK K hG OA
    have OC := hid hO
    clear hO
    clear R5
    refine wpAnyH_ready (rs := [13]) (by kernel_rfl) (by simp) ?_
    refine AllReadyH.cons (by simp only [List.getElem?_toArray, List.getElem?_cons_succ, List.getElem?_cons_zero]; rfl) (fun K hK => ?_) AllReadyH.nil
    refine step_app (by rfl) _ _ (by rfl) _ _ ([3] ++ packL s 4) ([n]) w.heap.size (by rfl) (by rfl) OC.out ((rd_l1 V12.out)) (by simp [packL_len]) hH.size ?_
    intro v13 x13 hO hG
    refine hK.out _ _ (hH.grown hG hH.size (OC.out.row (Nat.le_refl _))) (fun hH => ?_)
    clear hK K hG OC
    have OE := hid hO
    clear hO
    clear V12
    refine wpAnyH_take (i := 14) (v := v13) (by simp only [List.getElem?_toArray, List.getElem?_cons_succ, List.getElem?_cons_zero]; rfl) (by kernel_rfl) (by kernel_rfl) (by kernel_rfl) (by intro _ _ _ h; exact h) (Or.inl ⟨by rfl, fun w hS => by go_simp⟩) hH ?_
    simp only [Act.put, List.setIfInBounds_toArray, List.set_cons_zero, List.set_cons_succ]
    refine wpAnyH_done (by kernel_rfl) ?_ _
    have BE := hid hH
    clear hH
    go_wp2
    go_ret
    exact ⟨_, rfl, OE.out, BE.out⟩
  exact AllReadyH.nil
set_option maxHeartbeats 2000000 in
set_option maxRecDepth 100000 in
theorem sen2 (g o : Nat) (s : Nat) (a : Option Addr) (n0 c : Nat) (w : World) (hs : s ≤ 1000000) (hV : w.cell? ⟨g, o, none⟩ = some (.int .i64 2) ∧ w.cell? ⟨g, o + 1, none⟩ = some (.int .i64 (s : Int)) ∧ w.cell? ⟨g, o + 2, none⟩ = some (.int .i64 0) ∧ w.cell? ⟨g, o + 3, none⟩ = some (.int .i64 0) ∧ w.cell? ⟨g, o + 4, none⟩ = some (.int .i64 0) ∧ w.cell? ⟨g, o + 5, none⟩ = some (.int .i64 0) ∧ w.cell? ⟨g, o + 6, none⟩ = some (.int .i64 0) ∧ w.cell? ⟨g, o + 7, none⟩ = some (.int .i64 0) ∧ w.cell? ⟨g, o + 8, none⟩ = some (.int .i64 0) ∧ w.cell? ⟨g, o + 9, none⟩ = some (.slice a n0 c)) :
    Calls Try.prog 56 #[.pointer (some ⟨g, o, none⟩)] w fun e w' => ∃ v, e = .returned v ∧ Own w' w.heap.size v (eA s) ∧ Below w.heap.size w w' := by
  obtain ⟨f0, f1, f2, f3, f4, f5, f6, f7, f8, f9⟩ := hV
  have f4b := show w.cell? ⟨g, o + 3 + 1, none⟩ = _ from f4
  have f5b := show w.cell? ⟨g, o + 3 + 2, none⟩ = _ from f5
  have f6b := show w.cell? ⟨g, o + 3 + 3, none⟩ = _ from f6
  have f9b := show w.cell? ⟨g, o + 8 + 1, none⟩ = _ from f9
  have e0 := cell_kept (below_alloc1 w (.cells #[.int .u8 2] 5)) f0
  have e1 := cell_kept (below_alloc1 w (.cells #[.int .u8 2] 5)) f1
  have e2 := cell_kept (below_alloc1 w (.cells #[.int .u8 2] 5)) f2
  have e3 := cell_kept (below_alloc1 w (.cells #[.int .u8 2] 5)) f3
  have e4 := cell_kept (below_alloc1 w (.cells #[.int .u8 2] 5)) f4
  have e5 := cell_kept (below_alloc1 w (.cells #[.int .u8 2] 5)) f5
  have e6 := cell_kept (below_alloc1 w (.cells #[.int .u8 2] 5)) f6
  have e7 := cell_kept (below_alloc1 w (.cells #[.int .u8 2] 5)) f7
  have e8 := cell_kept (below_alloc1 w (.cells #[.int .u8 2] 5)) f8
  have e9 := cell_kept (below_alloc1 w (.cells #[.int .u8 2] 5)) f9
  have OA := hid (show Own (w.alloc (.cells #[.int .u8 2] 5)) w.heap.size (.slice (some ⟨w.heap.size, 0, none⟩) 1 1) [2] from own_l1 w 2)
  have BB := hid (below_alloc1 w (.cells #[.int .u8 2] 5))
  go_enter Try.func56, Try.ntmps56
  go_wp2_with fail
  generalize w.alloc (.cells #[.int .u8 2] 5) = w1 at *
  obtain ⟨gl, hgl⟩ : ∃ b, b = w.heap.size := ⟨_, rfl⟩
  have GL := hid (Nat.le_of_eq hgl.symm)
  have OA := hid (show Own w1 w.heap.size (.slice (some ⟨gl, 0, none⟩) 1 1) [2] by rw [hgl]; exact OA.out)
  rw [← hgl]
  clear hgl
  refine (l1pack s 4 _ (by omega) (by omega) (by omega)).mono ?_
  rintro e w2 ⟨rfl, hO, hB⟩
  replace OA := hid (OA.out.below hB)
  replace BB := hid (BB.out.trans (hB.mono BB.out.size))
  have R := hid hO.rd
  clear hO hB
  go_wp2_with (at_builtin; refine list_app rfl _ _ rfl _ _ [2] (packL s 4) w.heap.size rfl rfl OA.out R.out (by rw [packL_len]; simp) BB.out.size ?_; intro v3 w3 O G)
  have B3 := hid (BB.out.grown G BB.out.size (OA.out.row (Nat.le_refl _)))
  replace O := hid O
  clear G
  go_wp2
  go_ret
  exact ⟨_, rfl, O.out, B3.out⟩
set_option maxHeartbeats 2000000 in
set_option maxRecDepth 100000 in
theorem sen4 (g o : Nat) (cn ci cs cm : Nat) (a : Option Addr) (n0 c : Nat) (w : World) (h1 : cn ≤ 3) (h2 : ci ≤ 1000000) (h3 : cs ≤ 2) (h4 : cm ≤ 9999999) (hV : w.cell? ⟨g, o, none⟩ = some (.int .i64 4) ∧ w.cell? ⟨g, o + 1, none⟩ = some (.int .i64 0) ∧ w.cell? ⟨g, o + 2, none⟩ = some (.int .i64 0) ∧ w.cell? ⟨g, o + 3, none⟩ = some (.int .i64 (cn : Int)) ∧ w.cell? ⟨g, o + 4, none⟩ = some (.int .i64 (ci : Int)) ∧ w.cell? ⟨g, o + 5, none⟩ = some (.int .i64 (cs : Int)) ∧ w.cell? ⟨g, o + 6, none⟩ = some (.int .i64 (cm : Int)) ∧ w.cell? ⟨g, o + 7, none⟩ = some (.int .i64 0) ∧ w.cell? ⟨g, o + 8, none⟩ = some (.int .i64 0) ∧ w.cell? ⟨g, o + 9, none⟩ = some (.slice a n0 c)) :
    Calls Try.prog 56 #[.pointer (some ⟨g, o, none⟩)] w fun e w' => ∃ v, e = .returned v ∧ Own w' w.heap.size v (eC cn ci cs cm) ∧ Below w.heap.size w w' := by
  obtain ⟨f0, f1, f2, f3, f4, f5, f6, f7, f8, f9⟩ := hV
  have f4b := show w.cell? ⟨g, o + 3 + 1, none⟩ = _ from f4
  have f5b := show w.cell? ⟨g, o + 3 + 2, none⟩ = _ from f5
  have f6b := show w.cell? ⟨g, o + 3 + 3, none⟩ = _ from f6
  have f9b := show w.cell? ⟨g, o + 8 + 1, none⟩ = _ from f9
  have e0 := cell_kept (below_alloc1 w (.cells #[.int .u8 4] 5)) f0
  have e1 := cell_kept (below_alloc1 w (.cells #[.int .u8 4] 5)) f1
  have e2 := cell_kept (below_alloc1 w (.cells #[.int .u8 4] 5)) f2
  have e3 := cell_kept (below_alloc1 w (.cells #[.int .u8 4] 5)) f3
  have e4 := cell_kept (below_alloc1 w (.cells #[.int .u8 4] 5)) f4
  have e5 := cell_kept (below_alloc1 w (.cells #[.int .u8 4] 5)) f5
  have e6 := cell_kept (below_alloc1 w (.cells #[.int .u8 4] 5)) f6
  have e7 := cell_kept (below_alloc1 w (.cells #[.int .u8 4] 5)) f7
  have e8 := cell_kept (below_alloc1 w (.cells #[.int .u8 4] 5)) f8
  have e9 := cell_kept (below_alloc1 w (.cells #[.int .u8 4] 5)) f9
  have OA := hid (show Own (w.alloc (.cells #[.int .u8 4] 5)) w.heap.size (.slice (some ⟨w.heap.size, 0, none⟩) 1 1) [4] from own_l1 w 4)
  have BB := hid (below_alloc1 w (.cells #[.int .u8 4] 5))
  go_enter Try.func56, Try.ntmps56
  go_wp2_with fail
  generalize w.alloc (.cells #[.int .u8 4] 5) = w1 at *
  obtain ⟨gl, hgl⟩ : ∃ b, b = w.heap.size := ⟨_, rfl⟩
  have GL := hid (Nat.le_of_eq hgl.symm)
  have OA := hid (show Own w1 w.heap.size (.slice (some ⟨gl, 0, none⟩) 1 1) [4] by rw [hgl]; exact OA.out)
  rw [← hgl]
  clear hgl
  refine wp_region_held_drew (S := fun w' => Below w.heap.size w w') (by kernel_rfl) BB.out.drew (fun hH => ?_)
  replace OA := hid (show Own w1.drew _ _ _ from OA.out.below (Below.refl _ _).drew)
  generalize w1.drew = x at *
  refine wpAnyH_take (i := 0) (v := .slice (some ⟨gl, 0, none⟩) 1 1) (by simp only [List.getElem?_toArray, List.getElem?_cons_zero]; rfl) (by kernel_rfl) (by kernel_rfl) (by kernel_rfl) (by intro _ _ _ h; exact h) (Or.inl ⟨by rfl, fun w hS => by go_simp⟩) hH ?_
  simp only [Act.put, List.setIfInBounds_toArray, List.set_cons_zero, List.set_cons_succ]
  refine wpAnyH_take (i := 1) (v := .pointer (some ⟨g, o, none⟩)) (by simp only [List.getElem?_toArray, List.getElem?_cons_succ, List.getElem?_cons_zero]; rfl) (by kernel_rfl) (by kernel_rfl) (by kernel_rfl) (by intro _ _ _ h; exact h) (Or.inl ⟨by rfl, fun w hS => by go_simp⟩) hH ?_
  simp only [Act.put, List.setIfInBounds_toArray, List.set_cons_zero, List.set_cons_succ]
  refine wpAnyH_take (i := 2) (v := .pointer (some ⟨g, o, none⟩)) (by simp only [List.getElem?_toArray, List.getElem?_cons_succ, List.getElem?_cons_zero]; rfl) (by kernel_rfl) (by kernel_rfl) (by kernel_rfl) (by intro _ _ _ h; exact h) (Or.inl ⟨by rfl, fun w hS => by go_simp⟩) hH ?_
  simp only [Act.put, List.setIfInBounds_toArray, List.set_cons_zero, List.set_cons_succ]
  refine wpAnyH_take (i := 3) (v := .pointer (some ⟨g, o + 3, none⟩)) (by simp only [List.getElem?_toArray, List.getElem?_cons_succ, List.getElem?_cons_zero]; rfl) (by kernel_rfl) (by kernel_rfl) (by kernel_rfl) (by intro _ _ _ h; exact h) (Or.inl ⟨by rfl, fun w hS => by go_simp⟩) hH ?_
  simp only [Act.put, List.setIfInBounds_toArray, List.set_cons_zero, List.set_cons_succ]
  refine wpAnyH_take (i := 4) (v := .pointer (some ⟨g, o + 3, none⟩)) (by simp only [List.getElem?_toArray, List.getElem?_cons_succ, List.getElem?_cons_zero]; rfl) (by kernel_rfl) (by kernel_rfl) (by kernel_rfl) (by intro _ _ _ h; exact h) (Or.inl ⟨by rfl, fun w hS => by go_simp⟩) hH ?_
  simp only [Act.put, List.setIfInBounds_toArray, List.set_cons_zero, List.set_cons_succ]
  refine wpAnyH_take (i := 5) (v := .int .i64 (cn : Int)) (by simp only [List.getElem?_toArray, List.getElem?_cons_succ, List.getElem?_cons_zero]; rfl) (by kernel_rfl) (by kernel_rfl) (by kernel_rfl) (by intro _ _ _ h; exact h) (Or.inl ⟨by rfl, fun w hS => by (have y0 := cell_kept hS f3; go_simp)⟩) hH ?_
  simp only [Act.put, List.setIfInBounds_toArray, List.set_cons_zero, List.set_cons_succ]
  refine wpAnyH_take (i := 6) (v := .int .u8 (cn : Int)) (by simp only [List.getElem?_toArray, List.getElem?_cons_succ, List.getElem?_cons_zero]; rfl) (by kernel_rfl) (by kernel_rfl) (by kernel_rfl) (by intro _ _ _ h; exact h) (Or.inl ⟨by rfl, fun w hS => by (have y := wrap_b cn (by omega); go_simp)⟩) hH ?_
  simp only [Act.put, List.setIfInBounds_toArray, List.set_cons_zero, List.set_cons_succ]
  refine wpAnyH_take (i := 9) (v := .pointer (some ⟨g, o, none⟩)) (by simp only [List.getElem?_toArray, List.getElem?_cons_succ, List.getElem?_cons_zero]; rfl) (by kernel_rfl) (by kernel_rfl) (by kernel_rfl) (by intro _ _ _ h; exact h) (Or.inl ⟨by rfl, fun w hS => by go_simp⟩) hH ?_
  simp only [Act.put, List.setIfInBounds_toArray, List.set_cons_zero, List.set_cons_succ]
  refine wpAnyH_take (i := 10) (v := .pointer (some ⟨g, o, none⟩)) (by simp only [List.getElem?_toArray, List.getElem?_cons_succ, List.getElem?_cons_zero]; rfl) (by kernel_rfl) (by kernel_rfl) (by kernel_rfl) (by intro _ _ _ h; exact h) (Or.inl ⟨by rfl, fun w hS => by go_simp⟩) hH ?_
  simp only [Act.put, List.setIfInBounds_toArray, List.set_cons_zero, List.set_cons_succ]
  refine wpAnyH_take (i := 11) (v := .pointer (some ⟨g, o + 3, none⟩)) (by simp only [List.getElem?_toArray, List.getElem?_cons_succ, List.getElem?_cons_zero]; rfl) (by kernel_rfl) (by kernel_rfl) (by kernel_rfl) (by intro _ _ _ h; exact h) (Or.inl ⟨by rfl, fun w hS => by go_simp⟩) hH ?_
  simp only [Act.put, List.setIfInBounds_toArray, List.set_cons_zero, List.set_cons_succ]
  refine wpAnyH_take (i := 12) (v := .pointer (some ⟨g, o + 3 + 1, none⟩)) (by simp only [List.getElem?_toArray, List.getElem?_cons_succ, List.getElem?_cons_zero]; rfl) (by kernel_rfl) (by kernel_rfl) (by kernel_rfl) (by intro _ _ _ h; exact h) (Or.inl ⟨by rfl, fun w hS => by go_simp⟩) hH ?_
  simp only [Act.put, List.setIfInBounds_toArray, List.set_cons_zero, List.set_cons_succ]
  refine wpAnyH_take (i := 13) (v := .int .i64 (ci : Int)) (by simp only [List.getElem?_toArray, List.getElem?_cons_succ, List.getElem?_cons_zero]; rfl) (by kernel_rfl) (by kernel_rfl) (by kernel_rfl) (by intro _ _ _ h; exact h) (Or.inl ⟨by rfl, fun w hS => by (have y0 := cell_kept hS f4b; go_simp)⟩) hH ?_
  simp only [Act.put, List.setIfInBounds_toArray, List.set_cons_zero, List.set_cons_succ]
  refine wpAnyH_ready (rs := [7]) (by kernel_rfl) (by simp) ?_
  refine AllReadyH.cons (by simp only [List.getElem?_toArray, List.getElem?_cons_succ, List.getElem?_cons_zero]; rfl) (fun K hK => ?_) AllReadyH.nil
  go_simp
  have hM := below_alloc1 x (.cells #[.int .u8 (cn : Int)] 5)
  replace OA := hid (OA.out.below hM)
  have V7 := hid (heap_alloc_new x (.cells #[.int .u8 (cn : Int)] 5))
  refine hK.out _ _ (hH.alloc hH.size _) (fun hH => ?_)
  clear hK K hM
  obtain ⟨b7, hb7⟩ : ∃ b, b = x.heap.size := ⟨_, rfl⟩
  rw [← hb7] at V7 ⊢
  clear hb7
  generalize x.alloc (.cells #[.int .u8 (cn : Int)] 5) = x7 at *
  refine wpAnyH_ready (rs := [8]) (by kernel_rfl) (by simp) ?_
  refine AllReadyH.cons (by simp only [List.getElem?_toArray, List.getElem?_cons_succ, List.getElem?_cons_zero]; rfl) (fun K hK => ?_) AllReadyH.nil
  refine step_app (by rfl) _ _ (by rfl) _ _ ([4]) ([cn]) w.heap.size (by rfl) (by rfl) OA.out ((rd_l1 V7.out)) (by simp) hH.size ?_
  intro v8 x8 hO hG
  refine hK.out _ _ (hH.grown hG hH.size (OA.out.row (Nat.le_refl _))) (fun hH => ?_)
  clear hK K hG OA
  have OC := hid hO
  clear hO
  clear V7
  refine wpAnyH_ready (rs := [14]) (by kernel_rfl) (by simp) ?_
  refine AllReadyH.cons (by simp only [List.getElem?_toArray, List.getElem?_cons_succ, List.getElem?_cons_zero]; rfl) (fun K hK => ?_) AllReadyH.nil
  go_simp
  refine (l1pack ci 4 _ (by omega) (by omega) (by omega)).mono ?_
  rintro e x14 ⟨rfl, hO, hM⟩
  refine hK.out _ _ (hH.trans (hM.mono hH.size)) (fun hH => ?_)
  clear hK K
  replace OC := hid (OC.out.below hM)
  have R14 := hid hO.rd
  clear hO hM
  obtain ⟨b14, hb14⟩ : ∃ b, b = x8.heap.size := ⟨_, rfl⟩
  rw [← hb14] at R14 ⊢
  clear hb14
  refine wpAnyH_ready (rs := [15]) (by kernel_rfl) (by simp) ?_
  refine AllReadyH.cons (by simp only [List.getElem?_toArray, List.getElem?_cons_succ, List.getElem?_cons_zero]; rfl) (fun K hK => ?_) AllReadyH.nil
  refine step_app (by rfl) _ _ (by rfl) _ _ (([4]) ++ [cn]) (packL ci 4) w.heap.size (by rfl) (by rfl) OC.out (R14.out) (by simp [packL_len]) hH.size ?_
  intro v15 x15 hO hG
  refine hK.out _ _ (hH.grown hG hH.size (OC.out.row (Nat.le_refl _))) (fun hH => ?_)
  clear hK K hG OC
  have OE := hid hO
  clear hO
  clear R14
  refine wpAnyH_take (i := 16) (v := v15) (by simp only [List.getElem?_toArray, List.getElem?_cons_succ, List.getElem?_cons_zero]; rfl) (by kernel_rfl) (by kernel_rfl) (by kernel_rfl) (by intro _ _ _ h; exact h) (Or.inl ⟨by rfl, fun w hS => by go_simp⟩) hH ?_
  simp only [Act.put, List.setIfInBounds_toArray, List.set_cons_zero, List.set_cons_succ]
  refine wpAnyH_done (by kernel_rfl) ?_ _
  replace BB := hid hH
  clear hH
  generalize x15 = w2 at *
  have OA := hid OE.out
  clear OE
  have e3 := cell_kept BB.out f3
  have e4 := cell_kept BB.out f4
  have e5 := cell_kept BB.out f5
  have e6 := cell_kept BB.out f6
  generalize v15 = va at *
  have hLen := OA.out.rd
  clear hLen
  go_wp2_with fail
  refine wp_region_held_drew (S := fun w' => Below w.heap.size w w') (by kernel_rfl) BB.out.drew (fun hH => ?_)
  replace OA := hid (show Own w2.drew _ _ _ from OA.out.below (Below.refl _ _).drew)
  generalize w2.drew = x at *
  refine wpAnyH_take (i := 0) (v := va) (by simp only [List.getElem?_toArray, List.getElem?_cons_zero]; rfl) (by kernel_rfl) (by kernel_rfl) (by kernel_rfl) (by intro _ _ _ h; exact h) (Or.inl ⟨by rfl, fun w hS => by go_simp⟩) hH ?_
  simp only [Act.put, List.setIfInBounds_toArray, List.set_cons_zero, List.set_cons_succ]
  refine wpAnyH_take (i := 1) (v := .pointer (some ⟨g, o, none⟩)) (by simp only [List.getElem?_toArray, List.getElem?_cons_succ, List.getElem?_cons_zero]; rfl) (by kernel_rfl) (by kernel_rfl) (by kernel_rfl) (by intro _ _ _ h; exact h) (Or.inl ⟨by rfl, fun w hS => by go_simp⟩) hH ?_
  simp only [Act.put, List.setIfInBounds_toArray, List.set_cons_zero, List.set_cons_succ]
  refine wpAnyH_take (i := 2) (v := .pointer (some ⟨g, o, none⟩)) (by simp only [List.getElem?_toArray, List.getElem?_cons_succ, List.getElem?_cons_zero]; rfl) (by kernel_rfl) (by kernel_rfl) (by kernel_rfl) (by intro _ _ _ h; exact h) (Or.inl ⟨by rfl, fun w hS => by go_simp⟩) hH ?_
  simp only [Act.put, List.setIfInBounds_toArray, List.set_cons_zero, List.set_cons_succ]
  refine wpAnyH_take (i := 3) (v := .pointer (some ⟨g, o + 3, none⟩)) (by simp only [List.getElem?_toArray, List.getElem?_cons_succ, List.getElem?_cons_zero]; rfl) (by kernel_rfl) (by kernel_rfl) (by kernel_rfl) (by intro _ _ _ h; exact h) (Or.inl ⟨by rfl, fun w hS => by go_simp⟩) hH ?_
  simp only [Act.put, List.setIfInBounds_toArray, List.set_cons_zero, List.set_cons_succ]
  refine wpAnyH_take (i := 4) (v := .pointer (some ⟨g, o + 3 + 2, none⟩)) (by simp only [List.getElem?_toArray, List.getElem?_cons_succ, List.getElem?_cons_zero]; rfl) (by kernel_rfl) (by kernel_rfl) (by kernel_rfl) (by intro _ _ _ h; exact h) (Or.inl ⟨by rfl, fun w hS => by go_simp⟩) hH ?_
  simp only [Act.put, List.setIfInBounds_toArray, List.set_cons_zero, List.set_cons_succ]
  refine wpAnyH_take (i := 5) (v := .int .i64 (cs : Int)) (by simp only [List.getElem?_toArray, List.getElem?_cons_succ, List.getElem?_cons_zero]; rfl) (by kernel_rfl) (by kernel_rfl) (by kernel_rfl) (by intro _ _ _ h; exact h) (Or.inl ⟨by rfl, fun w hS => by (have y0 := cell_kept hS f5b; go_simp)⟩) hH ?_
  simp only [Act.put, List.setIfInBounds_toArray, List.set_cons_zero, List.set_cons_succ]
  refine wpAnyH_take (i := 6) (v := .int .u8 (cs : Int)) (by simp only [List.getElem?_toArray, List.getElem?_cons_succ, List.getElem?_cons_zero]; rfl) (by kernel_rfl) (by kernel_rfl) (by kernel_rfl) (by intro _ _ _ h; exact h) (Or.inl ⟨by rfl, fun w hS => by (have y := wrap_b cs (by omega); go_simp)⟩) hH ?_
  simp only [Act.put, List.setIfInBounds_toArray, List.set_cons_zero, List.set_cons_succ]
  refine wpAnyH_take (i := 9) (v := .pointer (some ⟨g, o, none⟩)) (by simp only [List.getElem?_toArray, List.getElem?_cons_succ, List.getElem?_cons_zero]; rfl) (by kernel_rfl) (by kernel_rfl) (by kernel_rfl) (by intro _ _ _ h; exact h) (Or.inl ⟨by rfl, fun w hS => by go_simp⟩) hH ?_
  simp only [Act.put, List.setIfInBounds_toArray, List.set_cons_zero, List.set_cons_succ]
  refine wpAnyH_take (i := 10) (v := .pointer (some ⟨g, o, none⟩)) (by simp only [List.getElem?_toArray, List.getElem?_cons_succ, List.getElem?_cons_zero]; rfl) (by kernel_rfl) (by kernel_rfl) (by kernel_rfl) (by intro _ _ _ h; exact h) (Or.inl ⟨by rfl, fun w hS => by go_simp⟩) hH ?_
  simp only [Act.put, List.setIfInBounds_toArray, List.set_cons_zero, List.set_cons_succ]
  refine wpAnyH_take (i := 11) (v := .pointer (some ⟨g, o + 3, none⟩)) (by simp only [List.getElem?_toArray, List.getElem?_cons_succ, List.getElem?_cons_zero]; rfl) (by kernel_rfl) (by kernel_rfl) (by kernel_rfl) (by intro _ _ _ h; exact h) (Or.inl ⟨by rfl, fun w hS => by go_simp⟩) hH ?_
  simp only [Act.put, List.setIfInBounds_toArray, List.set_cons_zero, List.set_cons_succ]
  refine wpAnyH_take (i := 12) (v := .pointer (some ⟨g, o + 3 + 3, none⟩)) (by simp only [List.getElem?_toArray, List.getElem?_cons_succ, List.getElem?_cons_zero]; rfl) (by kernel_rfl) (by kernel_rfl) (by kernel_rfl) (by intro _ _ _ h; exact h) (Or.inl ⟨by rfl, fun w hS => by go_simp⟩) hH ?_
  simp only [Act.put, List.setIfInBounds_toArray, List.set_cons_zero, List.set_cons_succ]
  refine wpAnyH_take (i := 13) (v := .int .i64 (cm : Int)) (by simp only [List.getElem?_toArray, List.getElem?_cons_succ, List.getElem?_cons_zero]; rfl) (by kernel_rfl) (by kernel_rfl) (by kernel_rfl) (by intro _ _ _ h; exact h) (Or.inl ⟨by rfl, fun w hS => by (have y0 := cell_kept hS f6b; go_simp)⟩) hH ?_
  simp only [Act.put, List.setIfInBounds_toArray, List.set_cons_zero, List.set_cons_succ]
  refine wpAnyH_ready (rs := [7]) (by kernel_rfl) (by simp) ?_
  refine AllReadyH.cons (by simp only [List.getElem?_toArray, List.getElem?_cons_succ, List.getElem?_cons_zero]; rfl) (fun K hK => ?_) AllReadyH.nil
  go_simp
  have hM := below_alloc1 x (.cells #[.int .u8 (cs : Int)] 5)
  replace OA := hid (OA.out.below hM)
  have V7 := hid (heap_alloc_new x (.cells #[.int .u8 (cs : Int)] 5))
  refine hK.out _ _ (hH.alloc hH.size _) (fun hH => ?_)
  clear hK K hM
  obtain ⟨b7, hb7⟩ : ∃ b, b = x.heap.size := ⟨_, rfl⟩
  rw [← hb7] at V7 ⊢
  clear hb7
  generalize x.alloc (.cells #[.int .u8 (cs : Int)] 5) = x7 at *
  refine wpAnyH_ready (rs := [8]) (by kernel_rfl) (by simp) ?_
  refine AllReadyH.cons (by simp only [List.getElem?_toArray, List.getElem?_cons_succ, List.getElem?_cons_zero]; rfl) (fun K hK => ?_) AllReadyH.nil
  refine step_app (by rfl) _ _ (by rfl) _ _ (([4] ++ [cn]) ++ packL ci 4) ([cs]) w.heap.size (by rfl) (by rfl) OA.out ((rd_l1 V7.out)) (by simp [packL_len]) hH.size ?_
  intro v8 x8 hO hG
  refine hK.out _ _ (hH.grown hG hH.size (OA.out.row (Nat.le_refl _))) (fun hH => ?_)
  clear hK K hG OA
  have OC := hid hO
  clear hO
  clear V7
  refine wpAnyH_ready (rs := [14]) (by kernel_rfl) (by simp) ?_
  refine AllReadyH.cons (by simp only [List.getElem?_toArray, List.getElem?_cons_succ, List.getElem?_cons_zero]; rfl) (fun K hK => ?_) AllReadyH.nil
  go_simp
  refine (l1pack cm 4 _ (by omega) (by omega) (by omega)).mono ?_
  rintro e x14 ⟨rfl, hO, hM⟩
  refine hK.out _ _ (hH.trans (hM.mono hH.size)) (fun hH => ?_)
  clear hK K
  replace OC := hid (OC.out.below hM)
  have R14 := hid hO.rd
  clear hO hM
  obtain ⟨b14, hb14⟩ : ∃ b, b = x8.heap.size := ⟨_, rfl⟩
  rw [← hb14] at R14 ⊢
  clear hb14
  refine wpAnyH_ready (rs := [15]) (by kernel_rfl) (by simp) ?_
  refine AllReadyH.cons (by simp only [List.getElem?_toArray, List.getElem?_cons_succ, List.getElem?_cons_zero]; rfl) (fun K hK => ?_) AllReadyH.nil
  refine step_app (by rfl) _ _ (by rfl) _ _ ((([4] ++ [cn]) ++ packL ci 4) ++ [cs]) (packL cm 4) w.heap.size (by rfl) (by rfl) OC.out (R14.out) (by simp [packL_len]) hH.size ?_
  intro v15 x15 hO hG
  refine hK.out _ _ (hH.grown hG hH.size (OC.out.row (Nat.le_refl _))) (fun hH => ?_)
  clear hK K hG OC
  have OE := hid hO
  clear hO
  clear R14
  refine wpAnyH_take (i := 16) (v := v15) (by simp only [List.getElem?_toArray, List.getElem?_cons_succ, List.getElem?_cons_zero]; rfl) (by kernel_rfl) (by kernel_rfl) (by kernel_rfl) (by intro _ _ _ h; exact h) (Or.inl ⟨by rfl, fun w hS => by go_simp⟩) hH ?_
  simp only [Act.put, List.setIfInBounds_toArray, List.set_cons_zero, List.set_cons_succ]
  refine wpAnyH_done (by kernel_rfl) ?_ _
  replace BB := hid hH
  clear hH
  go_wp2
  go_ret
  exact ⟨_, rfl, OE.out, BB.out⟩
set_option maxHeartbeats 2000000 in
set_option maxRecDepth 100000 in
theorem sen5 (g o : Nat) (op id' : Nat) (v : Value) (l : List Nat) (w : World) (h1 : op ≤ 3) (h2 : id' ≤ 255) (hL : Rd w v l) (hl : l.length ≤ 100) (hV : w.cell? ⟨g, o, none⟩ = some (.int .i64 5) ∧ w.cell? ⟨g, o + 1, none⟩ = some (.int .i64 0) ∧ w.cell? ⟨g, o + 2, none⟩ = some (.int .i64 0) ∧ w.cell? ⟨g, o + 3, none⟩ = some (.int .i64 0) ∧ w.cell? ⟨g, o + 4, none⟩ = some (.int .i64 0) ∧ w.cell? ⟨g, o + 5, none⟩ = some (.int .i64 0) ∧ w.cell? ⟨g, o + 6, none⟩ = some (.int .i64 0) ∧ w.cell? ⟨g, o + 7, none⟩ = some (.int .i64 (op : Int)) ∧ w.cell? ⟨g, o + 8, none⟩ = some (.int .i64 (id' : Int)) ∧ w.cell? ⟨g, o + 9, none⟩ = some (v)) :
    Calls Try.prog 56 #[.pointer (some ⟨g, o, none⟩)] w fun e w' => ∃ v, e = .returned v ∧ Own w' w.heap.size v (eK op id' l) ∧ Below w.heap.size w w' := by
  have HL := hid hL
  obtain ⟨a, c, rfl, -, -, -⟩ := hL.parts
  clear hL
  obtain ⟨f0, f1, f2, f3, f4, f5, f6, f7, f8, f9⟩ := hV
  have f4b := show w.cell? ⟨g, o + 3 + 1, none⟩ = _ from f4
  have f5b := show w.cell? ⟨g, o + 3 + 2, none⟩ = _ from f5
  have f6b := show w.cell? ⟨g, o + 3 + 3, none⟩ = _ from f6
  have f9b := show w.cell? ⟨g, o + 8 + 1, none⟩ = _ from f9
  have e0 := cell_kept (below_alloc1 w (.cells #[.int .u8 5] 5)) f0
  have e1 := cell_kept (below_alloc1 w (.cells #[.int .u8 5] 5)) f1
  have e2 := cell_kept (below_alloc1 w (.cells #[.int .u8 5] 5)) f2
  have e3 := cell_kept (below_alloc1 w (.cells #[.int .u8 5] 5)) f3
  have e4 := cell_kept (below_alloc1 w (.cells #[.int .u8 5] 5)) f4
  have e5 := cell_kept (below_alloc1 w (.cells #[.int .u8 5] 5)) f5
  have e6 := cell_kept (below_alloc1 w (.cells #[.int .u8 5] 5)) f6
  have e7 := cell_kept (below_alloc1 w (.cells #[.int .u8 5] 5)) f7
  have e8 := cell_kept (below_alloc1 w (.cells #[.int .u8 5] 5)) f8
  have e9 := cell_kept (below_alloc1 w (.cells #[.int .u8 5] 5)) f9
  have OA := hid (show Own (w.alloc (.cells #[.int .u8 5] 5)) w.heap.size (.slice (some ⟨w.heap.size, 0, none⟩) 1 1) [5] from own_l1 w 5)
  have BB := hid (below_alloc1 w (.cells #[.int .u8 5] 5))
  go_enter Try.func56, Try.ntmps56
  go_wp2_with fail
  generalize w.alloc (.cells #[.int .u8 5] 5) = w1 at *
  obtain ⟨gl, hgl⟩ : ∃ b, b = w.heap.size := ⟨_, rfl⟩
  have GL := hid (Nat.le_of_eq hgl.symm)
  have OA := hid (show Own w1 w.heap.size (.slice (some ⟨gl, 0, none⟩) 1 1) [5] by rw [hgl]; exact OA.out)
  rw [← hgl]
  clear hgl
  refine wp_region_held_drew (S := fun w' => Below w.heap.size w w') (by kernel_rfl) BB.out.drew (fun hH => ?_)
  replace OA := hid (show Own w1.drew _ _ _ from OA.out.below (Below.refl _ _).drew)
  generalize w1.drew = x at *
  refine wpAnyH_take (i := 0) (v := .slice (some ⟨gl, 0, none⟩) 1 1) (by simp only [List.getElem?_toArray, List.getElem?_cons_zero]; rfl) (by kernel_rfl) (by kernel_rfl) (by kernel_rfl) (by intro _ _ _ h; exact h) (Or.inl ⟨by rfl, fun w hS => by go_simp⟩) hH ?_
  simp only [Act.put, List.setIfInBounds_toArray, List.set_cons_zero, List.set_cons_succ]
  refine wpAnyH_take (i := 1) (v := .pointer (some ⟨g, o, none⟩)) (by simp only [List.getElem?_toArray, List.getElem?_cons_succ, List.getElem?_cons_zero]; rfl) (by kernel_rfl) (by kernel_rfl) (by kernel_rfl) (by intro _ _ _ h; exact h) (Or.inl ⟨by rfl, fun w hS => by go_simp⟩) hH ?_
  simp only [Act.put, List.setIfInBounds_toArray, List.set_cons_zero, List.set_cons_succ]
  refine wpAnyH_take (i := 2) (v := .pointer (some ⟨g, o, none⟩)) (by simp only [List.getElem?_toArray, List.getElem?_cons_succ, List.getElem?_cons_zero]; rfl) (by kernel_rfl) (by kernel_rfl) (by kernel_rfl) (by intro _ _ _ h; exact h) (Or.inl ⟨by rfl, fun w hS => by go_simp⟩) hH ?_
  simp only [Act.put, List.setIfInBounds_toArray, List.set_cons_zero, List.set_cons_succ]
  refine wpAnyH_take (i := 3) (v := .pointer (some ⟨g, o + 7, none⟩)) (by simp only [List.getElem?_toArray, List.getElem?_cons_succ, List.getElem?_cons_zero]; rfl) (by kernel_rfl) (by kernel_rfl) (by kernel_rfl) (by intro _ _ _ h; exact h) (Or.inl ⟨by rfl, fun w hS => by go_simp⟩) hH ?_
  simp only [Act.put, List.setIfInBounds_toArray, List.set_cons_zero, List.set_cons_succ]
  refine wpAnyH_take (i := 4) (v := .int .i64 (op : Int)) (by simp only [List.getElem?_toArray, List.getElem?_cons_succ, List.getElem?_cons_zero]; rfl) (by kernel_rfl) (by kernel_rfl) (by kernel_rfl) (by intro _ _ _ h; exact h) (Or.inl ⟨by rfl, fun w hS => by (have y0 := cell_kept hS f7; go_simp)⟩) hH ?_
  simp only [Act.put, List.setIfInBounds_toArray, List.set_cons_zero, List.set_cons_succ]
  refine wpAnyH_take (i := 5) (v := .int .u8 (op : Int)) (by simp only [List.getElem?_toArray, List.getElem?_cons_succ, List.getElem?_cons_zero]; rfl) (by kernel_rfl) (by kernel_rfl) (by kernel_rfl) (by intro _ _ _ h; exact h) (Or.inl ⟨by rfl, fun w hS => by (have y := wrap_b op (by omega); go_simp)⟩) hH ?_
  simp only [Act.put, List.setIfInBounds_toArray, List.set_cons_zero, List.set_cons_succ]
  refine wpAnyH_take (i := 6) (v := .pointer (some ⟨g, o, none⟩)) (by simp only [List.getElem?_toArray, List.getElem?_cons_succ, List.getElem?_cons_zero]; rfl) (by kernel_rfl) (by kernel_rfl) (by kernel_rfl) (by intro _ _ _ h; exact h) (Or.inl ⟨by rfl, fun w hS => by go_simp⟩) hH ?_
  simp only [Act.put, List.setIfInBounds_toArray, List.set_cons_zero, List.set_cons_succ]
  refine wpAnyH_take (i := 7) (v := .pointer (some ⟨g, o, none⟩)) (by simp only [List.getElem?_toArray, List.getElem?_cons_succ, List.getElem?_cons_zero]; rfl) (by kernel_rfl) (by kernel_rfl) (by kernel_rfl) (by intro _ _ _ h; exact h) (Or.inl ⟨by rfl, fun w hS => by go_simp⟩) hH ?_
  simp only [Act.put, List.setIfInBounds_toArray, List.set_cons_zero, List.set_cons_succ]
  refine wpAnyH_take (i := 8) (v := .pointer (some ⟨g, o + 8, none⟩)) (by simp only [List.getElem?_toArray, List.getElem?_cons_succ, List.getElem?_cons_zero]; rfl) (by kernel_rfl) (by kernel_rfl) (by kernel_rfl) (by intro _ _ _ h; exact h) (Or.inl ⟨by rfl, fun w hS => by go_simp⟩) hH ?_
  simp only [Act.put, List.setIfInBounds_toArray, List.set_cons_zero, List.set_cons_succ]
  refine wpAnyH_take (i := 9) (v := .pointer (some ⟨g, o + 8, none⟩)) (by simp only [List.getElem?_toArray, List.getElem?_cons_succ, List.getElem?_cons_zero]; rfl) (by kernel_rfl) (by kernel_rfl) (by kernel_rfl) (by intro _ _ _ h; exact h) (Or.inl ⟨by rfl, fun w hS => by go_simp⟩) hH ?_
  simp only [Act.put, List.setIfInBounds_toArray, List.set_cons_zero, List.set_cons_succ]
  refine wpAnyH_take (i := 10) (v := .int .i64 (id' : Int)) (by simp only [List.getElem?_toArray, List.getElem?_cons_succ, List.getElem?_cons_zero]; rfl) (by kernel_rfl) (by kernel_rfl) (by kernel_rfl) (by intro _ _ _ h; exact h) (Or.inl ⟨by rfl, fun w hS => by (have y0 := cell_kept hS f8; go_simp)⟩) hH ?_
  simp only [Act.put, List.setIfInBounds_toArray, List.set_cons_zero, List.set_cons_succ]
  refine wpAnyH_take (i := 11) (v := .int .u8 (id' : Int)) (by simp only [List.getElem?_toArray, List.getElem?_cons_succ, List.getElem?_cons_zero]; rfl) (by kernel_rfl) (by kernel_rfl) (by kernel_rfl) (by intro _ _ _ h; exact h) (Or.inl ⟨by rfl, fun w hS => by (have y := wrap_b id' (by omega); go_simp)⟩) hH ?_
  simp only [Act.put, List.setIfInBounds_toArray, List.set_cons_zero, List.set_cons_succ]
  refine wpAnyH_take (i := 14) (v := .pointer (some ⟨g, o, none⟩)) (by simp only [List.getElem?_toArray, List.getElem?_cons_succ, List.getElem?_cons_zero]; rfl) (by kernel_rfl) (by kernel_rfl) (by kernel_rfl) (by intro _ _ _ h; exact h) (Or.inl ⟨by rfl, fun w hS => by go_simp⟩) hH ?_
  simp only [Act.put, List.setIfInBounds_toArray, List.set_cons_zero, List.set_cons_succ]
  refine wpAnyH_take (i := 15) (v := .pointer (some ⟨g, o, none⟩)) (by simp only [List.getElem?_toArray, List.getElem?_cons_succ, List.getElem?_cons_zero]; rfl) (by kernel_rfl) (by kernel_rfl) (by kernel_rfl) (by intro _ _ _ h; exact h) (Or.inl ⟨by rfl, fun w hS => by go_simp⟩) hH ?_
  simp only [Act.put, List.setIfInBounds_toArray, List.set_cons_zero, List.set_cons_succ]
  refine wpAnyH_take (i := 16) (v := .pointer (some ⟨g, o + 8, none⟩)) (by simp only [List.getElem?_toArray, List.getElem?_cons_succ, List.getElem?_cons_zero]; rfl) (by kernel_rfl) (by kernel_rfl) (by kernel_rfl) (by intro _ _ _ h; exact h) (Or.inl ⟨by rfl, fun w hS => by go_simp⟩) hH ?_
  simp only [Act.put, List.setIfInBounds_toArray, List.set_cons_zero, List.set_cons_succ]
  refine wpAnyH_take (i := 17) (v := .pointer (some ⟨g, o + 8 + 1, none⟩)) (by simp only [List.getElem?_toArray, List.getElem?_cons_succ, List.getElem?_cons_zero]; rfl) (by kernel_rfl) (by kernel_rfl) (by kernel_rfl) (by intro _ _ _ h; exact h) (Or.inl ⟨by rfl, fun w hS => by go_simp⟩) hH ?_
  simp only [Act.put, List.setIfInBounds_toArray, List.set_cons_zero, List.set_cons_succ]
  refine wpAnyH_take (i := 18) (v := .slice a l.length c) (by simp only [List.getElem?_toArray, List.getElem?_cons_succ, List.getElem?_cons_zero]; rfl) (by kernel_rfl) (by kernel_rfl) (by kernel_rfl) (by intro _ _ _ h; exact h) (Or.inl ⟨by rfl, fun w hS => by (have y0 := cell_kept hS f9b; go_simp)⟩) hH ?_
  simp only [Act.put, List.setIfInBounds_toArray, List.set_cons_zero, List.set_cons_succ]
  refine wpAnyH_ready (rs := [12]) (by kernel_rfl) (by simp) ?_
  refine AllReadyH.cons (by simp only [List.getElem?_toArray, List.getElem?_cons_succ, List.getElem?_cons_zero]; rfl) (fun K hK => ?_) AllReadyH.nil
  go_simp
  have hM := below_alloc1 x (.cells #[.int .u8 (op : Int), .int .u8 (id' : Int)] 5)
  replace OA := hid (OA.out.below hM)
  have V12 := hid (heap_alloc_new x (.cells #[.int .u8 (op : Int), .int .u8 (id' : Int)] 5))
  refine hK.out _ _ (hH.alloc hH.size _) (fun hH => ?_)
  clear hK K hM
  obtain ⟨b12, hb12⟩ : ∃ b, b = x.heap.size := ⟨_, rfl⟩
  rw [← hb12] at V12 ⊢
  clear hb12
  generalize x.alloc (.cells #[.int .u8 (op : Int), .int .u8 (id' : Int)] 5) = x12 at *
  refine wpAnyH_ready (rs := [13]) (by kernel_rfl) (by simp) ?_
  refine AllReadyH.cons (by simp only [List.getElem?_toArray, List.getElem?_cons_succ, List.getElem?_cons_zero]; rfl) (fun K hK => ?_) AllReadyH.nil
  refine step_app (by rfl) _ _ (by rfl) _ _ ([5]) ([op, id']) w.heap.size (by rfl) (by rfl) OA.out ((rd_l2 V12.out)) (by simp) hH.size ?_
  intro v13 x13 hO hG
  refine hK.out _ _ (hH.grown hG hH.size (OA.out.row (Nat.le_refl _))) (fun hH => ?_)
  clear hK K hG OA
  have OC := hid hO
  clear hO
  clear V12
  refine wpAnyH_ready (rs := [19]) (by kernel_rfl) (by simp) ?_
  refine AllReadyH.cons (by simp only [List.getElem?_toArray, List.getElem?_cons_succ, List.getElem?_cons_zero]; rfl) (fun K hK => ?_) AllReadyH.nil
  refine step_app (by rfl) _ _ (by rfl) _ _ ([5] ++ [op, id']) (l) w.heap.size (by rfl) (by rfl) OC.out ((HL.out.below hH)) (by simp; omega) hH.size ?_
  intro v19 x19 hO hG
  refine hK.out _ _ (hH.grown hG hH.size (OC.out.row (Nat.le_refl _))) (fun hH => ?_)
  clear hK K hG OC
  have OE := hid hO
  clear hO
  refine wpAnyH_take (i := 20) (v := v19) (by simp only [List.getElem?_toArray, List.getElem?_cons_succ, List.getElem?_cons_zero]; rfl) (by kernel_rfl) (by kernel_rfl) (by kernel_rfl) (by intro _ _ _ h; exact h) (Or.inl ⟨by rfl, fun w hS => by go_simp⟩) hH ?_
  simp only [Act.put, List.setIfInBounds_toArray, List.set_cons_zero, List.set_cons_succ]
  refine wpAnyH_done (by kernel_rfl) ?_ _
  have BE := hid hH
  clear hH
  go_wp2
  go_ret
  exact ⟨_, rfl, OE.out, BE.out⟩
end Go.Proofs.Ytifgcffifffdnam.W
