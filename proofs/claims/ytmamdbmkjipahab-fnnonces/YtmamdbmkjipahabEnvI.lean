/-
  Nonces and heads: what the program's NonceOf and HeadOf answer.
-/
import Derived.Test.YtmamdbmkjipahabMarkW
import Derived.Test.YtmamdbmkjipahabIpkWalks
import Derived.Test.YtmamdbmkjipahabEnvW
namespace Go.Proofs.Ytmamdbmkjipahab.W
open Go.ChangeShapes Go.WideShapes Go.ChangeAt Go.RowKit
open Go.Proofs.Ytmamdbmkjipahab.M

theorem fld1 (x : Int) (v : Value) (w : World) : (Instr.field 27 (.agg #[.int .i64 x, v]) 1).run Try.prog w = .ok v w := by kernel_rfl
set_option maxRecDepth 100000 in
theorem inonce (s c : Nat) (w : World) (hs : s ≤ 15) (hc : c ≤ 1000000000) :
    Calls Try.prog 103 #[.agg #[.int .i64 (s : Int), .int .i64 (c : Int)]] w fun e w' => ∃ v, e = .returned v ∧ Own w' w.heap.size v (nonceL s c) ∧ Below w.heap.size w w' := by
  have P1 := hid (fun w => ipw_ok s 4 w (by omega) (by omega) (by omega) (by omega))
  have P2 := hid (fun w => ipw_ok c 8 w (by omega) (by omega) (by omega) (by omega))
  go_enter Try.func103, Try.ntmps103
  go_wp2_with fail
  obtain ⟨c0, c1, -, -⟩ := var2_facts (heap_alloc_new w (.cells #[.int .i64 (s : Int), .int .i64 (c : Int)] 133))
  have BB := hid (below_alloc1 w (.cells #[.int .i64 (s : Int), .int .i64 (c : Int)] 133))
  generalize w.alloc (.cells #[.int .i64 (s : Int), .int .i64 (c : Int)] 133) = w0 at *
  obtain ⟨g, hg⟩ : ∃ g, g = w.heap.size := ⟨_, rfl⟩
  rw [← hg] at c0 c1 ⊢
  replace hg := hid hg
  refine wp_region_held_drew (S := fun w' => Below w0.heap.size w0 w') (by kernel_rfl) (Below.refl _ _).drew (fun hH => ?_)
  generalize w0.drew = x at hH ⊢
  refine wpAnyH_take (i := 0) (v := .pointer (some ⟨g, 0, none⟩)) (by simp only [List.getElem?_toArray, List.getElem?_cons_zero]; rfl) (by kernel_rfl) (by kernel_rfl) (by kernel_rfl) (by intro _ _ _ h; exact h) (Or.inl ⟨by rfl, fun w hS => by go_simp⟩) hH ?_
  simp only [Act.put, List.setIfInBounds_toArray, List.set_cons_zero, List.set_cons_succ]
  refine wpAnyH_take (i := 1) (v := .int .i64 (s : Int)) (by simp only [List.getElem?_toArray, List.getElem?_cons_succ, List.getElem?_cons_zero]; rfl) (by kernel_rfl) (by kernel_rfl) (by kernel_rfl) (by intro _ _ _ h; exact h) (Or.inl ⟨by rfl, fun w hS => by (have y0 := cell_kept hS c0; go_simp)⟩) hH ?_
  simp only [Act.put, List.setIfInBounds_toArray, List.set_cons_zero, List.set_cons_succ]
  refine wpAnyH_take (i := 4) (v := .pointer (some ⟨g, 1, none⟩)) (by simp only [List.getElem?_toArray, List.getElem?_cons_succ, List.getElem?_cons_zero]; rfl) (by kernel_rfl) (by kernel_rfl) (by kernel_rfl) (by intro _ _ _ h; exact h) (Or.inl ⟨by rfl, fun w hS => by go_simp⟩) hH ?_
  simp only [Act.put, List.setIfInBounds_toArray, List.set_cons_zero, List.set_cons_succ]
  refine wpAnyH_take (i := 5) (v := .int .i64 (c : Int)) (by simp only [List.getElem?_toArray, List.getElem?_cons_succ, List.getElem?_cons_zero]; rfl) (by kernel_rfl) (by kernel_rfl) (by kernel_rfl) (by intro _ _ _ h; exact h) (Or.inl ⟨by rfl, fun w hS => by (have y0 := cell_kept hS c1; go_simp)⟩) hH ?_
  simp only [Act.put, List.setIfInBounds_toArray, List.set_cons_zero, List.set_cons_succ]
  refine wpAnyH_ready (rs := [2]) (by kernel_rfl) (by simp) ?_
  refine AllReadyH.cons (by simp only [List.getElem?_toArray, List.getElem?_cons_succ, List.getElem?_cons_zero]; rfl) (fun K hK => ?_) AllReadyH.nil
  go_simp
  refine (P1.out _).mono ?_
  rintro e x2 ⟨v2, rfl, hO, hM⟩
  obtain ⟨p2, k2, rfl, -, -, -⟩ := hO.rd.parts
  have SB := hid hH.size
  refine hK.out _ _ (hH.trans (hM.mono hH.size)) (fun hH => ?_)
  clear hK K
  have O1 := hid (hO.mono (base' := w0.heap.size) SB.out)
  clear hM SB
  refine wpAnyH_take (i := 3) (v := .slice p2 (packL s 4).length k2) (by simp only [List.getElem?_toArray, List.getElem?_cons_succ, List.getElem?_cons_zero]; rfl) (by kernel_rfl) (by kernel_rfl) (by kernel_rfl) (by intro _ _ _ h; exact h) (Or.inl ⟨by rfl, fun w hS => by (have hf1 := fld1; go_simp)⟩) hH ?_
  simp only [Act.put, List.setIfInBounds_toArray, List.set_cons_zero, List.set_cons_succ]
  refine wpAnyH_ready (rs := [6]) (by kernel_rfl) (by simp) ?_
  refine AllReadyH.cons (by simp only [List.getElem?_toArray, List.getElem?_cons_succ, List.getElem?_cons_zero]; rfl) (fun K hK => ?_) AllReadyH.nil
  go_simp
  refine (P2.out _).mono ?_
  rintro e x6 ⟨v6, rfl, hO, hM⟩
  obtain ⟨p6, k6, rfl, -, -, -⟩ := hO.rd.parts
  have SB := hid hH.size
  refine hK.out _ _ (hH.trans (hM.mono hH.size)) (fun hH => ?_)
  clear hK K
  replace O1 := hid (O1.out.below hM)
  have R2 := hid (hO.rd)
  clear hM SB
  refine wpAnyH_take (i := 7) (v := .slice p6 (packL c 8).length k6) (by simp only [List.getElem?_toArray, List.getElem?_cons_succ, List.getElem?_cons_zero]; rfl) (by kernel_rfl) (by kernel_rfl) (by kernel_rfl) (by intro _ _ _ h; exact h) (Or.inl ⟨by rfl, fun w hS => by (have hf1 := fld1; go_simp)⟩) hH ?_
  simp only [Act.put, List.setIfInBounds_toArray, List.set_cons_zero, List.set_cons_succ]
  refine wpAnyH_ready (rs := [8]) (by kernel_rfl) (by simp) ?_
  refine AllReadyH.cons (by simp only [List.getElem?_toArray, List.getElem?_cons_succ, List.getElem?_cons_zero]; rfl) (fun K hK => ?_) AllReadyH.nil
  refine step_app (by rfl) _ _ (by rfl) _ _ (packL s 4) (packL c 8) w0.heap.size (by rfl) (by rfl) O1.out R2.out (by rw [packL_len, packL_len]; omega) hH.size ?_
  intro v8 x8 hO hG
  refine hK.out _ _ (hH.grown hG hH.size (O1.out.row (Nat.le_refl _))) (fun hH => ?_)
  clear hK K hG
  have O6 := hid hO
  clear hO
  refine wpAnyH_take (i := 9) (v := v8) (by simp only [List.getElem?_toArray, List.getElem?_cons_succ, List.getElem?_cons_zero]; rfl) (by kernel_rfl) (by kernel_rfl) (by kernel_rfl) (by intro _ _ _ h; exact h) (Or.inl ⟨by rfl, fun w hS => by go_simp⟩) hH ?_
  simp only [Act.put, List.setIfInBounds_toArray, List.set_cons_zero, List.set_cons_succ]
  refine wpAnyH_done (by kernel_rfl) ?_ _
  go_wp2
  go_ret
  exact ⟨_, rfl, O6.out.mono BB.out.size, BB.out.trans (hH.mono BB.out.size)⟩
set_option maxRecDepth 100000 in
theorem ipacked (k s c : Nat) (w : World) (hk : k ≤ 255) (hs : s ≤ 15) (hc : c ≤ 1000000000) :
    Calls Try.prog 105 #[.agg #[.int .i64 (s : Int), .int .i64 (c : Int), .int .i64 (k : Int)]] w fun e w' => ∃ v, e = .returned v ∧ Own w' w.heap.size v (headL k s c) ∧ Below w.heap.size w w' := by
  have P2 := hid (fun w => ipw_ok c 8 w (by omega) (by omega) (by omega) (by omega))
  go_enter Try.func105, Try.ntmps105
  go_wp2_with fail
  have V := heap_alloc_new w (.cells #[.int .i64 (s : Int), .int .i64 (c : Int), .int .i64 (k : Int)] 137)
  have BB := hid (below_alloc1 w (.cells #[.int .i64 (s : Int), .int .i64 (c : Int), .int .i64 (k : Int)] 137))
  generalize w.alloc (.cells #[.int .i64 (s : Int), .int .i64 (c : Int), .int .i64 (k : Int)] 137) = w0 at *
  obtain ⟨g, hg⟩ : ∃ g, g = w.heap.size := ⟨_, rfl⟩
  rw [← hg] at V ⊢
  replace hg := hid hg
  have c0 : w0.cell? ⟨g, 0, none⟩ = some (.int .i64 (s : Int)) := by rw [cell_of_row w0 g 0 _ _ _ V]; rfl
  have c1 : w0.cell? ⟨g, 1, none⟩ = some (.int .i64 (c : Int)) := by rw [cell_of_row w0 g 1 _ _ _ V]; rfl
  have c2 : w0.cell? ⟨g, 2, none⟩ = some (.int .i64 (k : Int)) := by rw [cell_of_row w0 g 2 _ _ _ V]; rfl
  clear V
  refine wp_region_held_drew (S := fun w' => Below w0.heap.size w0 w') (by kernel_rfl) (Below.refl _ _).drew (fun hH => ?_)
  generalize w0.drew = x at hH ⊢
  refine wpAnyH_take (i := 0) (v := .pointer (some ⟨g, 2, none⟩)) (by simp only [List.getElem?_toArray, List.getElem?_cons_zero]; rfl) (by kernel_rfl) (by kernel_rfl) (by kernel_rfl) (by intro _ _ _ h; exact h) (Or.inl ⟨by rfl, fun w hS => by go_simp⟩) hH ?_
  simp only [Act.put, List.setIfInBounds_toArray, List.set_cons_zero, List.set_cons_succ]
  refine wpAnyH_take (i := 1) (v := .int .i64 (k : Int)) (by simp only [List.getElem?_toArray, List.getElem?_cons_succ, List.getElem?_cons_zero]; rfl) (by kernel_rfl) (by kernel_rfl) (by kernel_rfl) (by intro _ _ _ h; exact h) (Or.inl ⟨by rfl, fun w hS => by (have y0 := cell_kept hS c2; go_simp)⟩) hH ?_
  simp only [Act.put, List.setIfInBounds_toArray, List.set_cons_zero, List.set_cons_succ]
  refine wpAnyH_take (i := 2) (v := .int .u8 (k : Int)) (by simp only [List.getElem?_toArray, List.getElem?_cons_succ, List.getElem?_cons_zero]; rfl) (by kernel_rfl) (by kernel_rfl) (by kernel_rfl) (by intro _ _ _ h; exact h) (Or.inl ⟨by rfl, fun w hS => by (have y := wrap_s k (by omega); go_simp)⟩) hH ?_
  simp only [Act.put, List.setIfInBounds_toArray, List.set_cons_zero, List.set_cons_succ]
  refine wpAnyH_take (i := 3) (v := .pointer (some ⟨g, 0, none⟩)) (by simp only [List.getElem?_toArray, List.getElem?_cons_succ, List.getElem?_cons_zero]; rfl) (by kernel_rfl) (by kernel_rfl) (by kernel_rfl) (by intro _ _ _ h; exact h) (Or.inl ⟨by rfl, fun w hS => by go_simp⟩) hH ?_
  simp only [Act.put, List.setIfInBounds_toArray, List.set_cons_zero, List.set_cons_succ]
  refine wpAnyH_take (i := 4) (v := .pointer (some ⟨g, 0, none⟩)) (by simp only [List.getElem?_toArray, List.getElem?_cons_succ, List.getElem?_cons_zero]; rfl) (by kernel_rfl) (by kernel_rfl) (by kernel_rfl) (by intro _ _ _ h; exact h) (Or.inl ⟨by rfl, fun w hS => by go_simp⟩) hH ?_
  simp only [Act.put, List.setIfInBounds_toArray, List.set_cons_zero, List.set_cons_succ]
  refine wpAnyH_take (i := 5) (v := .int .i64 (s : Int)) (by simp only [List.getElem?_toArray, List.getElem?_cons_succ, List.getElem?_cons_zero]; rfl) (by kernel_rfl) (by kernel_rfl) (by kernel_rfl) (by intro _ _ _ h; exact h) (Or.inl ⟨by rfl, fun w hS => by (have y0 := cell_kept hS c0; go_simp)⟩) hH ?_
  simp only [Act.put, List.setIfInBounds_toArray, List.set_cons_zero, List.set_cons_succ]
  refine wpAnyH_take (i := 6) (v := .int .u8 (s : Int)) (by simp only [List.getElem?_toArray, List.getElem?_cons_succ, List.getElem?_cons_zero]; rfl) (by kernel_rfl) (by kernel_rfl) (by kernel_rfl) (by intro _ _ _ h; exact h) (Or.inl ⟨by rfl, fun w hS => by (have y := wrap_s s (by omega); go_simp)⟩) hH ?_
  simp only [Act.put, List.setIfInBounds_toArray, List.set_cons_zero, List.set_cons_succ]
  refine wpAnyH_take (i := 8) (v := .pointer (some ⟨g, 0, none⟩)) (by simp only [List.getElem?_toArray, List.getElem?_cons_succ, List.getElem?_cons_zero]; rfl) (by kernel_rfl) (by kernel_rfl) (by kernel_rfl) (by intro _ _ _ h; exact h) (Or.inl ⟨by rfl, fun w hS => by go_simp⟩) hH ?_
  simp only [Act.put, List.setIfInBounds_toArray, List.set_cons_zero, List.set_cons_succ]
  refine wpAnyH_take (i := 9) (v := .pointer (some ⟨g, 1, none⟩)) (by simp only [List.getElem?_toArray, List.getElem?_cons_succ, List.getElem?_cons_zero]; rfl) (by kernel_rfl) (by kernel_rfl) (by kernel_rfl) (by intro _ _ _ h; exact h) (Or.inl ⟨by rfl, fun w hS => by go_simp⟩) hH ?_
  simp only [Act.put, List.setIfInBounds_toArray, List.set_cons_zero, List.set_cons_succ]
  refine wpAnyH_take (i := 10) (v := .int .i64 (c : Int)) (by simp only [List.getElem?_toArray, List.getElem?_cons_succ, List.getElem?_cons_zero]; rfl) (by kernel_rfl) (by kernel_rfl) (by kernel_rfl) (by intro _ _ _ h; exact h) (Or.inl ⟨by rfl, fun w hS => by (have y0 := cell_kept hS c1; go_simp)⟩) hH ?_
  simp only [Act.put, List.setIfInBounds_toArray, List.set_cons_zero, List.set_cons_succ]
  refine wpAnyH_ready (rs := [7, 11]) (by kernel_rfl) (by simp) ?_
  refine AllReadyH.cons (by simp only [List.getElem?_toArray, List.getElem?_cons_succ, List.getElem?_cons_zero]; rfl) (fun K hK => ?_) ?_
  · go_simp
    have hM := below_alloc1 x (.cells #[.int .u8 1, .int .u8 (k : Int), .int .u8 (s : Int)] 5)
    have O3 := hid ((own_lit3 x 1 k s).mono (base' := w0.heap.size) hH.size)
    refine hK.out _ _ (hH.alloc hH.size _) (fun hH => ?_)
    clear hK K hM
    generalize x.alloc (.cells #[.int .u8 1, .int .u8 (k : Int), .int .u8 (s : Int)] 5) = x7 at *
    refine wpAnyH_ready (rs := [11]) (by kernel_rfl) (by simp) ?_
    refine AllReadyH.cons (by simp only [List.getElem?_toArray, List.getElem?_cons_succ, List.getElem?_cons_zero]; rfl) (fun K hK => ?_) AllReadyH.nil
    go_simp
    refine (P2.out _).mono ?_
    rintro e x11 ⟨v11, rfl, hO, hM⟩
    obtain ⟨p11, k11, rfl, -, -, -⟩ := hO.rd.parts
    have SB := hid hH.size
    refine hK.out _ _ (hH.trans (hM.mono hH.size)) (fun hH => ?_)
    clear hK K
    replace O3 := hid (O3.out.below hM)
    have R2 := hid (hO.rd)
    clear hM SB
    refine wpAnyH_take (i := 12) (v := .slice p11 (packL c 8).length k11) (by simp only [List.getElem?_toArray, List.getElem?_cons_succ, List.getElem?_cons_zero]; rfl) (by kernel_rfl) (by kernel_rfl) (by kernel_rfl) (by intro _ _ _ h; exact h) (Or.inl ⟨by rfl, fun w hS => by (have hf1 := fld1; go_simp)⟩) hH ?_
    simp only [Act.put, List.setIfInBounds_toArray, List.set_cons_zero, List.set_cons_succ]
    refine wpAnyH_ready (rs := [13]) (by kernel_rfl) (by simp) ?_
    refine AllReadyH.cons (by simp only [List.getElem?_toArray, List.getElem?_cons_succ, List.getElem?_cons_zero]; rfl) (fun K hK => ?_) AllReadyH.nil
    refine step_app (by rfl) _ _ (by rfl) _ _ ([1, k, s]) (packL c 8) w0.heap.size (by rfl) (by rfl) O3.out R2.out (by rw [packL_len]; simp) hH.size ?_
    intro v13 x13 hO hG
    refine hK.out _ _ (hH.grown hG hH.size (O3.out.row (Nat.le_refl _))) (fun hH => ?_)
    clear hK K hG
    have O6 := hid hO
    clear hO
    refine wpAnyH_take (i := 14) (v := v13) (by simp only [List.getElem?_toArray, List.getElem?_cons_succ, List.getElem?_cons_zero]; rfl) (by kernel_rfl) (by kernel_rfl) (by kernel_rfl) (by intro _ _ _ h; exact h) (Or.inl ⟨by rfl, fun w hS => by go_simp⟩) hH ?_
    simp only [Act.put, List.setIfInBounds_toArray, List.set_cons_zero, List.set_cons_succ]
    refine wpAnyH_done (by kernel_rfl) ?_ _
    go_wp2
    go_ret
    exact ⟨_, rfl, O6.out.mono BB.out.size, BB.out.trans (hH.mono BB.out.size)⟩
  refine AllReadyH.cons (by simp only [List.getElem?_toArray, List.getElem?_cons_succ, List.getElem?_cons_zero]; rfl) (fun K hK => ?_) ?_
  · go_simp
    refine (P2.out _).mono ?_
    rintro e x11 ⟨v11, rfl, hO, hM⟩
    obtain ⟨p11, k11, rfl, -, -, -⟩ := hO.rd.parts
    have SB := hid hH.size
    refine hK.out _ _ (hH.trans (hM.mono hH.size)) (fun hH => ?_)
    clear hK K
    have R2 := hid (hO.rd)
    clear hM SB
    refine wpAnyH_take (i := 12) (v := .slice p11 (packL c 8).length k11) (by simp only [List.getElem?_toArray, List.getElem?_cons_succ, List.getElem?_cons_zero]; rfl) (by kernel_rfl) (by kernel_rfl) (by kernel_rfl) (by intro _ _ _ h; exact h) (Or.inl ⟨by rfl, fun w hS => by (have hf1 := fld1; go_simp)⟩) hH ?_
    simp only [Act.put, List.setIfInBounds_toArray, List.set_cons_zero, List.set_cons_succ]
    refine wpAnyH_ready (rs := [7]) (by kernel_rfl) (by simp) ?_
    refine AllReadyH.cons (by simp only [List.getElem?_toArray, List.getElem?_cons_succ, List.getElem?_cons_zero]; rfl) (fun K hK => ?_) AllReadyH.nil
    go_simp
    have hM := below_alloc1 x11 (.cells #[.int .u8 1, .int .u8 (k : Int), .int .u8 (s : Int)] 5)
    replace R2 := hid (R2.out.below hM)
    have O3 := hid ((own_lit3 x11 1 k s).mono (base' := w0.heap.size) hH.size)
    refine hK.out _ _ (hH.alloc hH.size _) (fun hH => ?_)
    clear hK K hM
    generalize x11.alloc (.cells #[.int .u8 1, .int .u8 (k : Int), .int .u8 (s : Int)] 5) = x7 at *
    refine wpAnyH_ready (rs := [13]) (by kernel_rfl) (by simp) ?_
    refine AllReadyH.cons (by simp only [List.getElem?_toArray, List.getElem?_cons_succ, List.getElem?_cons_zero]; rfl) (fun K hK => ?_) AllReadyH.nil
    refine step_app (by rfl) _ _ (by rfl) _ _ ([1, k, s]) (packL c 8) w0.heap.size (by rfl) (by rfl) O3.out R2.out (by rw [packL_len]; simp) hH.size ?_
    intro v13 x13 hO hG
    refine hK.out _ _ (hH.grown hG hH.size (O3.out.row (Nat.le_refl _))) (fun hH => ?_)
    clear hK K hG
    have O6 := hid hO
    clear hO
    refine wpAnyH_take (i := 14) (v := v13) (by simp only [List.getElem?_toArray, List.getElem?_cons_succ, List.getElem?_cons_zero]; rfl) (by kernel_rfl) (by kernel_rfl) (by kernel_rfl) (by intro _ _ _ h; exact h) (Or.inl ⟨by rfl, fun w hS => by go_simp⟩) hH ?_
    simp only [Act.put, List.setIfInBounds_toArray, List.set_cons_zero, List.set_cons_succ]
    refine wpAnyH_done (by kernel_rfl) ?_ _
    go_wp2
    go_ret
    exact ⟨_, rfl, O6.out.mono BB.out.size, BB.out.trans (hH.mono BB.out.size)⟩
  exact AllReadyH.nil
end Go.Proofs.Ytmamdbmkjipahab.W
