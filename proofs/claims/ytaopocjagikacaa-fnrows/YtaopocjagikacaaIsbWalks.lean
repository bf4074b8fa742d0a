/-
  Bytes by the box: what the program's SubBytes answers.
-/
import Derived.Test.YtaopocjagikacaaBlkWalks
import Derived.Test.YtaopocjagikacaaTellWalks
import Derived.Test.YtaopocjagikacaaSteps
import Derived.Test.YtaopocjagikacaaSubmWalks
import Derived.Test.YtaopocjagikacaaMkWalks
namespace Go.Proofs.Ytaopocjagikacaa.W
open Go.ChangeShapes Go.WideShapes Go.ChangeAt Go.RowKit
open Go.Proofs.Ytaopocjagikacaa.M

set_option maxRecDepth 100000 in
theorem isb_ok (v : Value) (l : List Nat) (w : World) (h : Rd w v l) (y : Byt l) (hl : l.length = 16) :
    Calls Try.prog 38 #[v] w fun e w' => ∃ r, e = .returned (.agg #[.int .i64 0, r]) ∧ Owx w' w.heap.size r (sbl l) ∧ Below w.heap.size w w' := by
  obtain ⟨p, cap, rfl, hcap, _, hcs⟩ := h.parts
  obtain ⟨b, o, rfl, -⟩ := hcs 0 (by omega)
  have RG := hid (rangeAt.below (rd_range h) (below_alloc1 w (.cells #[.int .i64 0, .slice none 0 0] 33)))
  rw [hl]
  have HL := hid hl
  have Z := hid (blk_size l hl)
  have HP := arr_at 76 5 16 Try.underlying76 (some ⟨b, o, none⟩) 16 cap (Nat.le_refl _)
  clear h hcs hl
  go_enter Try.func38, Try.ntmps38
  go_wp2_with fail
  refine (isblk_yes _ _ _).mono ?_
  rintro e w' ⟨rfl, rfl⟩
  go_wp2_with fail
  go_cut [3, 4] (fun p3 p4 wx => ∃ g3 g4 : Nat, p3 = .pointer (some ⟨g3, 0, none⟩) ∧ p4 = .pointer (some ⟨g4, 0, none⟩) ∧ Ar wx g3 76 l ∧ Ar wx g4 67 boxL ∧ g4 ≠ g3 ∧ w.heap.size < g3 ∧ wx.heap[w.heap.size]? = some (.cells #[.int .i64 0, .slice none 0 0] 33) ∧ Below w.heap.size w wx)
  case first =>
    have V0 := heap_alloc_new w (.cells #[.int .i64 0, .slice none 0 0] 33)
    have B0 := below_alloc1 w (.cells #[.int .i64 0, .slice none 0 0] 33)
    have Z0 : (w.alloc (.cells #[.int .i64 0, .slice none 0 0] 33)).heap.size = w.heap.size + 1 := by simp
    generalize w.alloc (.cells #[.int .i64 0, .slice none 0 0] 33) = W at *
    have HR := hid RG
    refine wp_region_held_drew (S := fun w' => Below W.heap.size W w') (by kernel_rfl) ((Below.refl _ _).drew) (fun hH => ?_)
    refine wpAnyH_take (i := 0) (v := .slice (some ⟨b, o, none⟩) 16 cap) (by simp only [List.getElem?_toArray, List.getElem?_cons_zero]; rfl) (by kernel_rfl) (by kernel_rfl) (by kernel_rfl) (by intro _ _ _ h; exact h) (Or.inl ⟨by rfl, fun w _ => by go_simp⟩) hH ?_
    simp only [Act.put, List.setIfInBounds_toArray, List.set_cons_zero, List.set_cons_succ]
    refine wpAnyH_take (i := 1) (v := .pointer (some ⟨b, o, none⟩)) (by simp only [List.getElem?_toArray, List.getElem?_cons_succ, List.getElem?_cons_zero]; rfl) (by kernel_rfl) (by kernel_rfl) (by kernel_rfl) (by intro _ _ _ h; exact h) (Or.inl ⟨by rfl, fun w _ => by go_simp⟩) hH ?_
    simp only [Act.put, List.setIfInBounds_toArray, List.set_cons_zero, List.set_cons_succ]
    refine wpAnyH_take (i := 2) (v := .agg (arr l)) (by simp only [List.getElem?_toArray, List.getElem?_cons_succ, List.getElem?_cons_zero]; rfl) (by kernel_rfl) (by kernel_rfl) (by kernel_rfl) (by intro _ _ _ h; exact h) (yieldsIf_load_mid (by rfl) _ _ rfl b o rfl (l.map bv) _ (fun w hS => rangeAt.below HR.out hS) Try.underlying76 rfl (by rw [List.length_map, ← arr_size]; exact Z.out)) hH ?_
    simp only [Act.put, List.setIfInBounds_toArray, List.set_cons_zero, List.set_cons_succ]
    generalize W.drew = x1 at hH ⊢
    have hz1 := zero_box
    have ZB := hid (show (Try.prog.info? 67).map (·.size) = some (arr boxL).size by rw [arr_size, boxL_len]; kernel_rfl)
    have hs1 := hH.size
    -- REGION
    refine wpAnyH_ready (rs := [3, 4, 5]) (by kernel_rfl) (by simp) ?_
    refine AllReadyH.cons (by simp only [List.getElem?_toArray, List.getElem?_cons_succ, List.getElem?_cons_zero]; rfl) (fun K hK => ?_) ?_
    · go_simp
      refine (mkbox _).mono ?_
      rintro e x2 ⟨rfl, hM⟩
      refine hK.out _ _ (hH.trans (hM.mono hH.size)) (fun hH => ?_)
      clear hK K
      refine wpAnyH_ready (rs := [4, 5]) (by kernel_rfl) (by simp) ?_
      refine AllReadyH.cons (by simp only [List.getElem?_toArray, List.getElem?_cons_succ, List.getElem?_cons_zero]; rfl) (fun K hK => ?_) ?_
      · go_simp
        have F4 := heap_alloc_new x2 (.cells #[.int .u8 0, .int .u8 0, .int .u8 0, .int .u8 0, .int .u8 0, .int .u8 0, .int .u8 0, .int .u8 0, .int .u8 0, .int .u8 0, .int .u8 0, .int .u8 0, .int .u8 0, .int .u8 0, .int .u8 0, .int .u8 0] 76)
        have hs4 := hH.size
        refine hK.out _ _ (hH.alloc hH.size _) (fun hH => ?_)
        generalize x2.alloc (.cells #[.int .u8 0, .int .u8 0, .int .u8 0, .int .u8 0, .int .u8 0, .int .u8 0, .int .u8 0, .int .u8 0, .int .u8 0, .int .u8 0, .int .u8 0, .int .u8 0, .int .u8 0, .int .u8 0, .int .u8 0, .int .u8 0] 76) = x3 at *
        clear hK K
        refine wpAnyH_ready (rs := [5]) (by kernel_rfl) (by simp) ?_
        refine AllReadyH.cons (by simp only [List.getElem?_toArray, List.getElem?_cons_succ, List.getElem?_cons_zero]; rfl) (fun K hK => ?_) ?_
        · go_simp
          have F5 := heap_alloc_new x3 (.cells (arr (zs 256)) 67)
          have hs5 := hH.size
          have l4 := var_lt F4
          replace F4 := var_alloc (.cells (arr (zs 256)) 67) F4
          refine hK.out _ _ (hH.alloc hH.size _) (fun hH => ?_)
          generalize x3.alloc (.cells (arr (zs 256)) 67) = x4 at *
          clear hK K
          have hne : x3.heap.size ≠ x2.heap.size := by omega
          refine wpAnyH_ready (rs := [6]) (by kernel_rfl) (by simp) ?_
          refine AllReadyH.cons (by simp only [List.getElem?_toArray, List.getElem?_cons_succ, List.getElem?_cons_zero]; rfl) (fun K hK => ?_) AllReadyH.nil
          refine step_store_row (by rfl) _ _ _ (by rfl) (x2.heap.size) (arr l) (by rfl) (by rfl) 76 _ F4 Z.out (by rw [arr_size, HL.out]; rfl) (arr_one _) ?_
          refine hK.out _ _ (below_row hH (by omega) _) (fun hH => ?_)
          clear hK K
          simp only [Act.put]
          have A3 : Ar _ _ 76 l := setRow_heap x4 (x2.heap.size) _ (arr l) _ _ F4
          replace F5 := (setRow_other x4 (x2.heap.size) (x3.heap.size) (arr l) hne).trans F5
          generalize x4.setRow (x2.heap.size) (arr l) = xa at *
          refine wpAnyH_ready (rs := [7]) (by kernel_rfl) (by simp) ?_
          refine AllReadyH.cons (by simp only [List.getElem?_toArray, List.getElem?_cons_succ, List.getElem?_cons_zero]; rfl) (fun K hK => ?_) AllReadyH.nil
          refine step_store_row (by rfl) _ _ _ (by rfl) (x3.heap.size) (arr boxL) (by rfl) (by rfl) 67 _ F5 ZB.out (by rw [arr_size, arr_size, zs_len, boxL_len]) (arr_one _) ?_
          refine hK.out _ _ (below_row hH (by omega) _) (fun hH => ?_)
          clear hK K
          simp only [Act.put]
          have A4 : Ar _ _ 67 boxL := setRow_heap xa (x3.heap.size) _ (arr boxL) _ _ F5
          replace A3 := A3.rowFar (g' := x3.heap.size) (arr boxL) (Ne.symm hne)
          refine wpAnyH_done (by kernel_rfl) ?_ _
          go_wp2_with fail
          go_meet
          case rel => exact ⟨_, _, rfl, rfl, A3, A4, hne, by omega, var_keep hH V0 (by omega), B0.trans (hH.mono (by omega))⟩
        exact AllReadyH.nil
      refine AllReadyH.cons (by simp only [List.getElem?_toArray, List.getElem?_cons_succ, List.getElem?_cons_zero]; rfl) (fun K hK => ?_) ?_
      · go_simp
        have F5 := heap_alloc_new x2 (.cells (arr (zs 256)) 67)
        have hs5 := hH.size
        refine hK.out _ _ (hH.alloc hH.size _) (fun hH => ?_)
        generalize x2.alloc (.cells (arr (zs 256)) 67) = x5 at *
        clear hK K
        refine wpAnyH_ready (rs := [4]) (by kernel_rfl) (by simp) ?_
        refine AllReadyH.cons (by simp only [List.getElem?_toArray, List.getElem?_cons_succ, List.getElem?_cons_zero]; rfl) (fun K hK => ?_) ?_
        · go_simp
          have F4 := heap_alloc_new x5 (.cells #[.int .u8 0, .int .u8 0, .int .u8 0, .int .u8 0, .int .u8 0, .int .u8 0, .int .u8 0, .int .u8 0, .int .u8 0, .int .u8 0, .int .u8 0, .int .u8 0, .int .u8 0, .int .u8 0, .int .u8 0, .int .u8 0] 76)
          have hs4 := hH.size
          have l5 := var_lt F5
          replace F5 := var_alloc (.cells #[.int .u8 0, .int .u8 0, .int .u8 0, .int .u8 0, .int .u8 0, .int .u8 0, .int .u8 0, .int .u8 0, .int .u8 0, .int .u8 0, .int .u8 0, .int .u8 0, .int .u8 0, .int .u8 0, .int .u8 0, .int .u8 0] 76) F5
          refine hK.out _ _ (hH.alloc hH.size _) (fun hH => ?_)
          generalize x5.alloc (.cells #[.int .u8 0, .int .u8 0, .int .u8 0, .int .u8 0, .int .u8 0, .int .u8 0, .int .u8 0, .int .u8 0, .int .u8 0, .int .u8 0, .int .u8 0, .int .u8 0, .int .u8 0, .int .u8 0, .int .u8 0, .int .u8 0] 76) = x6 at *
          clear hK K
          have hne : x2.heap.size ≠ x5.heap.size := by omega
          refine wpAnyH_ready (rs := [6]) (by kernel_rfl) (by simp) ?_
          refine AllReadyH.cons (by simp only [List.getElem?_toArray, List.getElem?_cons_succ, List.getElem?_cons_zero]; rfl) (fun K hK => ?_) AllReadyH.nil
          refine step_store_row (by rfl) _ _ _ (by rfl) (x5.heap.size) (arr l) (by rfl) (by rfl) 76 _ F4 Z.out (by rw [arr_size, HL.out]; rfl) (arr_one _) ?_
          refine hK.out _ _ (below_row hH (by omega) _) (fun hH => ?_)
          clear hK K
          simp only [Act.put]
          have A3 : Ar _ _ 76 l := setRow_heap x6 (x5.heap.size) _ (arr l) _ _ F4
          replace F5 := (setRow_other x6 (x5.heap.size) (x2.heap.size) (arr l) hne).trans F5
          generalize x6.setRow (x5.heap.size) (arr l) = xa at *
          refine wpAnyH_ready (rs := [7]) (by kernel_rfl) (by simp) ?_
          refine AllReadyH.cons (by simp only [List.getElem?_toArray, List.getElem?_cons_succ, List.getElem?_cons_zero]; rfl) (fun K hK => ?_) AllReadyH.nil
          refine step_store_row (by rfl) _ _ _ (by rfl) (x2.heap.size) (arr boxL) (by rfl) (by rfl) 67 _ F5 ZB.out (by rw [arr_size, arr_size, zs_len, boxL_len]) (arr_one _) ?_
          refine hK.out _ _ (below_row hH (by omega) _) (fun hH => ?_)
          clear hK K
          simp only [Act.put]
          have A4 : Ar _ _ 67 boxL := setRow_heap xa (x2.heap.size) _ (arr boxL) _ _ F5
          replace A3 := A3.rowFar (g' := x2.heap.size) (arr boxL) (Ne.symm hne)
          refine wpAnyH_done (by kernel_rfl) ?_ _
          go_wp2_with fail
          go_meet
          case rel => exact ⟨_, _, rfl, rfl, A3, A4, hne, by omega, var_keep hH V0 (by omega), B0.trans (hH.mono (by omega))⟩
        exact AllReadyH.nil
      exact AllReadyH.nil
    refine AllReadyH.cons (by simp only [List.getElem?_toArray, List.getElem?_cons_succ, List.getElem?_cons_zero]; rfl) (fun K hK => ?_) ?_
    · go_simp
      have F4 := heap_alloc_new x1 (.cells #[.int .u8 0, .int .u8 0, .int .u8 0, .int .u8 0, .int .u8 0, .int .u8 0, .int .u8 0, .int .u8 0, .int .u8 0, .int .u8 0, .int .u8 0, .int .u8 0, .int .u8 0, .int .u8 0, .int .u8 0, .int .u8 0] 76)
      have hs4 := hH.size
      refine hK.out _ _ (hH.alloc hH.size _) (fun hH => ?_)
      generalize x1.alloc (.cells #[.int .u8 0, .int .u8 0, .int .u8 0, .int .u8 0, .int .u8 0, .int .u8 0, .int .u8 0, .int .u8 0, .int .u8 0, .int .u8 0, .int .u8 0, .int .u8 0, .int .u8 0, .int .u8 0, .int .u8 0, .int .u8 0] 76) = x7 at *
      clear hK K
      refine wpAnyH_ready (rs := [3, 5]) (by kernel_rfl) (by simp) ?_
      refine AllReadyH.cons (by simp only [List.getElem?_toArray, List.getElem?_cons_succ, List.getElem?_cons_zero]; rfl) (fun K hK => ?_) ?_
      · go_simp
        refine (mkbox _).mono ?_
        rintro e x8 ⟨rfl, hM⟩
        refine hK.out _ _ (hH.trans (hM.mono hH.size)) (fun hH => ?_)
        replace F4 := var_below hM F4
        clear hK K
        refine wpAnyH_ready (rs := [5]) (by kernel_rfl) (by simp) ?_
        refine AllReadyH.cons (by simp only [List.getElem?_toArray, List.getElem?_cons_succ, List.getElem?_cons_zero]; rfl) (fun K hK => ?_) ?_
        · go_simp
          have F5 := heap_alloc_new x8 (.cells (arr (zs 256)) 67)
          have hs5 := hH.size
          have l4 := var_lt F4
          replace F4 := var_alloc (.cells (arr (zs 256)) 67) F4
          refine hK.out _ _ (hH.alloc hH.size _) (fun hH => ?_)
          generalize x8.alloc (.cells (arr (zs 256)) 67) = x9 at *
          clear hK K
          have hne : x8.heap.size ≠ x1.heap.size := by omega
          refine wpAnyH_ready (rs := [6]) (by kernel_rfl) (by simp) ?_
          refine AllReadyH.cons (by simp only [List.getElem?_toArray, List.getElem?_cons_succ, List.getElem?_cons_zero]; rfl) (fun K hK => ?_) AllReadyH.nil
          refine step_store_row (by rfl) _ _ _ (by rfl) (x1.heap.size) (arr l) (by rfl) (by rfl) 76 _ F4 Z.out (by rw [arr_size, HL.out]; rfl) (arr_one _) ?_
          refine hK.out _ _ (below_row hH (by omega) _) (fun hH => ?_)
          clear hK K
          simp only [Act.put]
          have A3 : Ar _ _ 76 l := setRow_heap x9 (x1.heap.size) _ (arr l) _ _ F4
          replace F5 := (setRow_other x9 (x1.heap.size) (x8.heap.size) (arr l) hne).trans F5
          generalize x9.setRow (x1.heap.size) (arr l) = xa at *
          refine wpAnyH_ready (rs := [7]) (by kernel_rfl) (by simp) ?_
          refine AllReadyH.cons (by simp only [List.getElem?_toArray, List.getElem?_cons_succ, List.getElem?_cons_zero]; rfl) (fun K hK => ?_) AllReadyH.nil
          refine step_store_row (by rfl) _ _ _ (by rfl) (x8.heap.size) (arr boxL) (by rfl) (by rfl) 67 _ F5 ZB.out (by rw [arr_size, arr_size, zs_len, boxL_len]) (arr_one _) ?_
          refine hK.out _ _ (below_row hH (by omega) _) (fun hH => ?_)
          clear hK K
          simp only [Act.put]
          have A4 : Ar _ _ 67 boxL := setRow_heap xa (x8.heap.size) _ (arr boxL) _ _ F5
          replace A3 := A3.rowFar (g' := x8.heap.size) (arr boxL) (Ne.symm hne)
          refine wpAnyH_done (by kernel_rfl) ?_ _
          go_wp2_with fail
          go_meet
          case rel => exact ⟨_, _, rfl, rfl, A3, A4, hne, by omega, var_keep hH V0 (by omega), B0.trans (hH.mono (by omega))⟩
        exact AllReadyH.nil
      refine AllReadyH.cons (by simp only [List.getElem?_toArray, List.getElem?_cons_succ, List.getElem?_cons_zero]; rfl) (fun K hK => ?_) ?_
      · go_simp
        have F5 := heap_alloc_new x7 (.cells (arr (zs 256)) 67)
        have hs5 := hH.size
        have l4 := var_lt F4
        replace F4 := var_alloc (.cells (arr (zs 256)) 67) F4
        refine hK.out _ _ (hH.alloc hH.size _) (fun hH => ?_)
        generalize x7.alloc (.cells (arr (zs 256)) 67) = x10 at *
        clear hK K
        refine wpAnyH_ready (rs := [3]) (by kernel_rfl) (by simp) ?_
        refine AllReadyH.cons (by simp only [List.getElem?_toArray, List.getElem?_cons_succ, List.getElem?_cons_zero]; rfl) (fun K hK => ?_) ?_
        · go_simp
          refine (mkbox _).mono ?_
          rintro e x11 ⟨rfl, hM⟩
          refine hK.out _ _ (hH.trans (hM.mono hH.size)) (fun hH => ?_)
          replace F4 := var_below hM F4
          replace F5 := var_below hM F5
          clear hK K
          have hne : x7.heap.size ≠ x1.heap.size := by omega
          refine wpAnyH_ready (rs := [6]) (by kernel_rfl) (by simp) ?_
          refine AllReadyH.cons (by simp only [List.getElem?_toArray, List.getElem?_cons_succ, List.getElem?_cons_zero]; rfl) (fun K hK => ?_) AllReadyH.nil
          refine step_store_row (by rfl) _ _ _ (by rfl) (x1.heap.size) (arr l) (by rfl) (by rfl) 76 _ F4 Z.out (by rw [arr_size, HL.out]; rfl) (arr_one _) ?_
          refine hK.out _ _ (below_row hH (by omega) _) (fun hH => ?_)
          clear hK K
          simp only [Act.put]
          have A3 : Ar _ _ 76 l := setRow_heap x11 (x1.heap.size) _ (arr l) _ _ F4
          replace F5 := (setRow_other x11 (x1.heap.size) (x7.heap.size) (arr l) hne).trans F5
          generalize x11.setRow (x1.heap.size) (arr l) = xa at *
          refine wpAnyH_ready (rs := [7]) (by kernel_rfl) (by simp) ?_
          refine AllReadyH.cons (by simp only [List.getElem?_toArray, List.getElem?_cons_succ, List.getElem?_cons_zero]; rfl) (fun K hK => ?_) AllReadyH.nil
          refine step_store_row (by rfl) _ _ _ (by rfl) (x7.heap.size) (arr boxL) (by rfl) (by rfl) 67 _ F5 ZB.out (by rw [arr_size, arr_size, zs_len, boxL_len]) (arr_one _) ?_
          refine hK.out _ _ (below_row hH (by omega) _) (fun hH => ?_)
          clear hK K
          simp only [Act.put]
          have A4 : Ar _ _ 67 boxL := setRow_heap xa (x7.heap.size) _ (arr boxL) _ _ F5
          replace A3 := A3.rowFar (g' := x7.heap.size) (arr boxL) (Ne.symm hne)
          refine wpAnyH_done (by kernel_rfl) ?_ _
          go_wp2_with fail
          go_meet
          case rel => exact ⟨_, _, rfl, rfl, A3, A4, hne, by omega, var_keep hH V0 (by omega), B0.trans (hH.mono (by omega))⟩
        exact AllReadyH.nil
      exact AllReadyH.nil
    refine AllReadyH.cons (by simp only [List.getElem?_toArray, List.getElem?_cons_succ, List.getElem?_cons_zero]; rfl) (fun K hK => ?_) ?_
    · go_simp
      have F5 := heap_alloc_new x1 (.cells (arr (zs 256)) 67)
      have hs5 := hH.size
      refine hK.out _ _ (hH.alloc hH.size _) (fun hH => ?_)
      generalize x1.alloc (.cells (arr (zs 256)) 67) = x12 at *
      clear hK K
      refine wpAnyH_ready (rs := [3, 4]) (by kernel_rfl) (by simp) ?_
      refine AllReadyH.cons (by simp only [List.getElem?_toArray, List.getElem?_cons_succ, List.getElem?_cons_zero]; rfl) (fun K hK => ?_) ?_
      · go_simp
        refine (mkbox _).mono ?_
        rintro e x13 ⟨rfl, hM⟩
        refine hK.out _ _ (hH.trans (hM.mono hH.size)) (fun hH => ?_)
        replace F5 := var_below hM F5
        clear hK K
        refine wpAnyH_ready (rs := [4]) (by kernel_rfl) (by simp) ?_
        refine AllReadyH.cons (by simp only [List.getElem?_toArray, List.getElem?_cons_succ, List.getElem?_cons_zero]; rfl) (fun K hK => ?_) ?_
        · go_simp
          have F4 := heap_alloc_new x13 (.cells #[.int .u8 0, .int .u8 0, .int .u8 0, .int .u8 0, .int .u8 0, .int .u8 0, .int .u8 0, .int .u8 0, .int .u8 0, .int .u8 0, .int .u8 0, .int .u8 0, .int .u8 0, .int .u8 0, .int .u8 0, .int .u8 0] 76)
          have hs4 := hH.size
          have l5 := var_lt F5
          replace F5 := var_alloc (.cells #[.int .u8 0, .int .u8 0, .int .u8 0, .int .u8 0, .int .u8 0, .int .u8 0, .int .u8 0, .int .u8 0, .int .u8 0, .int .u8 0, .int .u8 0, .int .u8 0, .int .u8 0, .int .u8 0, .int .u8 0, .int .u8 0] 76) F5
          refine hK.out _ _ (hH.alloc hH.size _) (fun hH => ?_)
          generalize x13.alloc (.cells #[.int .u8 0, .int .u8 0, .int .u8 0, .int .u8 0, .int .u8 0, .int .u8 0, .int .u8 0, .int .u8 0, .int .u8 0, .int .u8 0, .int .u8 0, .int .u8 0, .int .u8 0, .int .u8 0, .int .u8 0, .int .u8 0] 76) = x14 at *
          clear hK K
          have hne : x1.heap.size ≠ x13.heap.size := by omega
          refine wpAnyH_ready (rs := [6]) (by kernel_rfl) (by simp) ?_
          refine AllReadyH.cons (by simp only [List.getElem?_toArray, List.getElem?_cons_succ, List.getElem?_cons_zero]; rfl) (fun K hK => ?_) AllReadyH.nil
          refine step_store_row (by rfl) _ _ _ (by rfl) (x13.heap.size) (arr l) (by rfl) (by rfl) 76 _ F4 Z.out (by rw [arr_size, HL.out]; rfl) (arr_one _) ?_
          refine hK.out _ _ (below_row hH (by omega) _) (fun hH => ?_)
          clear hK K
          simp only [Act.put]
          have A3 : Ar _ _ 76 l := setRow_heap x14 (x13.heap.size) _ (arr l) _ _ F4
          replace F5 := (setRow_other x14 (x13.heap.size) (x1.heap.size) (arr l) hne).trans F5
          generalize x14.setRow (x13.heap.size) (arr l) = xa at *
          refine wpAnyH_ready (rs := [7]) (by kernel_rfl) (by simp) ?_
          refine AllReadyH.cons (by simp only [List.getElem?_toArray, List.getElem?_cons_succ, List.getElem?_cons_zero]; rfl) (fun K hK => ?_) AllReadyH.nil
          refine step_store_row (by rfl) _ _ _ (by rfl) (x1.heap.size) (arr boxL) (by rfl) (by rfl) 67 _ F5 ZB.out (by rw [arr_size, arr_size, zs_len, boxL_len]) (arr_one _) ?_
          refine hK.out _ _ (below_row hH (by omega) _) (fun hH => ?_)
          clear hK K
          simp only [Act.put]
          have A4 : Ar _ _ 67 boxL := setRow_heap xa (x1.heap.size) _ (arr boxL) _ _ F5
          replace A3 := A3.rowFar (g' := x1.heap.size) (arr boxL) (Ne.symm hne)
          refine wpAnyH_done (by kernel_rfl) ?_ _
          go_wp2_with fail
          go_meet
          case rel => exact ⟨_, _, rfl, rfl, A3, A4, hne, by omega, var_keep hH V0 (by omega), B0.trans (hH.mono (by omega))⟩
        exact AllReadyH.nil
      refine AllReadyH.cons (by simp only [List.getElem?_toArray, List.getElem?_cons_succ, List.getElem?_cons_zero]; rfl) (fun K hK => ?_) ?_
      · go_simp
        have F4 := heap_alloc_new x12 (.cells #[.int .u8 0, .int .u8 0, .int .u8 0, .int .u8 0, .int .u8 0, .int .u8 0, .int .u8 0, .int .u8 0, .int .u8 0, .int .u8 0, .int .u8 0, .int .u8 0, .int .u8 0, .int .u8 0, .int .u8 0, .int .u8 0] 76)
        have hs4 := hH.size
        have l5 := var_lt F5
        replace F5 := var_alloc (.cells #[.int .u8 0, .int .u8 0, .int .u8 0, .int .u8 0, .int .u8 0, .int .u8 0, .int .u8 0, .int .u8 0, .int .u8 0, .int .u8 0, .int .u8 0, .int .u8 0, .int .u8 0, .int .u8 0, .int .u8 0, .int .u8 0] 76) F5
        refine hK.out _ _ (hH.alloc hH.size _) (fun hH => ?_)
        generalize x12.alloc (.cells #[.int .u8 0, .int .u8 0, .int .u8 0, .int .u8 0, .int .u8 0, .int .u8 0, .int .u8 0, .int .u8 0, .int .u8 0, .int .u8 0, .int .u8 0, .int .u8 0, .int .u8 0, .int .u8 0, .int .u8 0, .int .u8 0] 76) = x15 at *
        clear hK K
        refine wpAnyH_ready (rs := [3]) (by kernel_rfl) (by simp) ?_
        refine AllReadyH.cons (by simp only [List.getElem?_toArray, List.getElem?_cons_succ, List.getElem?_cons_zero]; rfl) (fun K hK => ?_) ?_
        · go_simp
          refine (mkbox _).mono ?_
          rintro e x16 ⟨rfl, hM⟩
          refine hK.out _ _ (hH.trans (hM.mono hH.size)) (fun hH => ?_)
          replace F5 := var_below hM F5
          replace F4 := var_below hM F4
          clear hK K
          have hne : x1.heap.size ≠ x12.heap.size := by omega
          refine wpAnyH_ready (rs := [6]) (by kernel_rfl) (by simp) ?_
          refine AllReadyH.cons (by simp only [List.getElem?_toArray, List.getElem?_cons_succ, List.getElem?_cons_zero]; rfl) (fun K hK => ?_) AllReadyH.nil
          refine step_store_row (by rfl) _ _ _ (by rfl) (x12.heap.size) (arr l) (by rfl) (by rfl) 76 _ F4 Z.out (by rw [arr_size, HL.out]; rfl) (arr_one _) ?_
          refine hK.out _ _ (below_row hH (by omega) _) (fun hH => ?_)
          clear hK K
          simp only [Act.put]
          have A3 : Ar _ _ 76 l := setRow_heap x16 (x12.heap.size) _ (arr l) _ _ F4
          replace F5 := (setRow_other x16 (x12.heap.size) (x1.heap.size) (arr l) hne).trans F5
          generalize x16.setRow (x12.heap.size) (arr l) = xa at *
          refine wpAnyH_ready (rs := [7]) (by kernel_rfl) (by simp) ?_
          refine AllReadyH.cons (by simp only [List.getElem?_toArray, List.getElem?_cons_succ, List.getElem?_cons_zero]; rfl) (fun K hK => ?_) AllReadyH.nil
          refine step_store_row (by rfl) _ _ _ (by rfl) (x1.heap.size) (arr boxL) (by rfl) (by rfl) 67 _ F5 ZB.out (by rw [arr_size, arr_size, zs_len, boxL_len]) (arr_one _) ?_
          refine hK.out _ _ (below_row hH (by omega) _) (fun hH => ?_)
          clear hK K
          simp only [Act.put]
          have A4 : Ar _ _ 67 boxL := setRow_heap xa (x1.heap.size) _ (arr boxL) _ _ F5
          replace A3 := A3.rowFar (g' := x1.heap.size) (arr boxL) (Ne.symm hne)
          refine wpAnyH_done (by kernel_rfl) ?_ _
          go_wp2_with fail
          go_meet
          case rel => exact ⟨_, _, rfl, rfl, A3, A4, hne, by omega, var_keep hH V0 (by omega), B0.trans (hH.mono (by omega))⟩
        exact AllReadyH.nil
      exact AllReadyH.nil
    exact AllReadyH.nil
  case rest =>
    obtain ⟨g3, g4, rfl, rfl, A3, A4, h43, hg3, V0, B0⟩ := hcut
    have hX : ∀ a, a < 256 → wc.cell? ⟨g4, a, none⟩ = some (.int .u8 (sbx a : Nat)) := fun a ha => by
      rw [A4.cell a (by rw [boxL_len]; exact ha), gt_some _ _ _ (boxL_at a ha)]
    have C := hid (subm g3 g4 l wc HL.out y A3 hX h43)
    clear A3 A4 hX RG HP
    go_wp2_with fail
    refine C.out.mono ?_
    rintro e w1 ⟨rfl, A1, G1⟩
    have V1 := var_grown G1 V0 (by intro e; cases e; omega)
    have B1 := B0.grown G1 B0.size (fun k e => by cases e; omega)
    have LS := hid (sbl_len16 l HL.out)
    have Z2 := hid (blk_size (sbl l) LS.out)
    replace A1 := hid A1
    clear Z G1 HL C V0 B0
    go_wp2_with (refine wpList_load_row rfl 76 _ rfl g3 rfl 76 (arr (sbl l)) _ _ A1.out Try.underlying76 rfl Z2.out ?_)
    refine (tellb (sbl l) _ LS.out).mono ?_
    rintro e w2 ⟨r, rfl, O, B2⟩
    obtain ⟨q, c, rfl, -, -, -⟩ := O.rd.parts
    have hz := B1.size
    have hz1 := var_lt V1
    have V2 := var_below B2 V1
    have B3 := B1.trans (B2.mono (by omega))
    obtain ⟨f1, f2, f3, f4⟩ := var2_facts V2
    have hset := hid (var2_set (x' := .int .i64 0) (y' := .slice q (sbl l).length c) V2)
    have hbel := hid (below_set2 (x := .int .i64 0) (y := .slice q (sbl l).length c) B3 (Nat.le_refl _))
    have hown := hid ((O.set2 (g := w.heap.size) (x := .int .i64 0) (y := .slice q (sbl l).length c) hz1).mono (base' := w.heap.size) (by omega))
    clear V1 V2 B1 B2 B3 O A1 Z2
    go_wp2
    exact bodyPost_ret (v := .agg #[.int .i64 0, .slice q (sbl l).length c]) (results_cell_row rfl _ _ w.heap.size 33 _ _ _ rfl hset.out Try.underlying33 rfl (by kernel_rfl)) rfl ⟨_, rfl, hown.out, hbel.out⟩

set_option maxRecDepth 100000 in
theorem isb_no (v : Value) (l : List Nat) (w : World) (h : Rd w v l) (hl : l.length ≠ 16) :
    Calls Try.prog 38 #[v] w fun e w' => e = .returned (.agg #[.int .i64 2, .slice none 0 0]) ∧ Below w.heap.size w w' := by
  obtain ⟨p, cap, rfl, -, -, -⟩ := h.parts
  clear h
  go_enter Try.func38, Try.ntmps38
  go_wp2_with fail
  refine (isblk_no _ _ _ hl _).mono ?_
  rintro e w' ⟨rfl, rfl⟩
  go_wp2
  exact bodyPost_ret (v := .agg #[.int .i64 2, .slice none 0 0]) (by simp [results, Try.results38, go_sem]) rfl ⟨rfl, below_alloc1 w _⟩

theorem isb (v : Value) (l : List Nat) (w : World) (h : Rd w v l) (y : Byt l) :
    Calls Try.prog 38 #[v] w fun e w' => ∃ r, e = .returned (.agg #[.int .i64 (blkC l), r]) ∧ Owx w' w.heap.size r (blkB sbl l) ∧ Below w.heap.size w w' := by
  by_cases hl : l.length = 16
  · rw [show blkC l = 0 by rw [blkC, if_pos hl], show blkB sbl l = sbl l by rw [blkB, if_pos hl]]
    exact isb_ok v l w h y hl
  · rw [show blkC l = 2 by rw [blkC, if_neg hl], show blkB sbl l = [] by rw [blkB, if_neg hl]]
    exact (isb_no v l w h hl).mono fun e w' ⟨he, hb⟩ => ⟨_, he, Owx.nil _ _, hb⟩
end Go.Proofs.Ytaopocjagikacaa.W
